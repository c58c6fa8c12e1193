import Derived.Test.YtncjmlndjnfncaaFSame
import Derived.Test.YtncjmlndjnfncaaFFreeW
import Derived.Test.YtncjmlndjnfncaaSMapL
import Derived.Test.YtncjmlndjnfncaaTb
namespace Go.Proofs.Ytncjmlndjnfncaa
open Go Go.RowKit Fz
attribute [local go_sem] Oper.semAt_some
set_option linter.unusedVariables false
set_option linter.unusedSimpArgs false
def atv (R : Nat → Int) (n i : Nat) : Int := if i < n then R i else 0
theorem at_any {w : World} {n c : Nat} {q : Option Addr} {R : Nat → Int} (ha : See w .u64 q n R) (i : Nat) : Calls Try.prog 10 #[.slice q n c, .int .i64 i] w fun e w' => e = .returned (.int .u64 (atv R n i)) ∧ w' = w := by
  unfold atv
  by_cases hi : i < n
  · rcases ha with h | ⟨g, o, rfl, hg, hr⟩
    · omega
    have k0 := hr i hi
    have i1 : (i : Int) < n := by omega
    rw [if_pos hi]
    clear hr
    obtain ⟨x, hx⟩ : ∃ x, x = R i := ⟨_, rfl⟩
    rw [← hx] at k0 ⊢
    clear hx
    go_enter Try.func10, Try.ntmps10
    go_wp2
    go_ret
    exact ⟨rfl, rfl⟩
  · have i1 : ¬ ((i : Int) < n) := by omega
    rw [if_neg hi]
    go_enter Try.func10, Try.ntmps10
    go_wp2
    go_ret
    exact ⟨rfl, rfl⟩
def pgV (a : Int) : Int := a % 3 * 1073741824 + a / 256 % 3 * 2097152 + a / 65536 % 4 * 4096
def pgA (b : Int) : Int := 2147483648 + b % 5000 * 4096
theorem pgV_b (a : Int) : 0 ≤ pgV a ∧ pgV a % 4096 = 0 ∧ pgV a < 274877906944 := by unfold pgV; omega
theorem pgA_b (b : Int) : 0 ≤ pgA b ∧ pgA b % 4096 = 0 ∧ pgA b < 72057594037927936 := by unfold pgA; omega
theorem page_any {w : World} (a b : Int) (ha : 0 ≤ a ∧ a < 18446744073709551616) (hb : 0 ≤ b ∧ b < 18446744073709551616) : Calls Try.prog 9 #[.int .u64 a, .int .u64 b, .int .u64 0] w fun e w' => e = .returned (.agg #[.int .u64 (pgV a), .int .u64 (pgA b), .int .u64 2]) ∧ Below w.heap.size w w' := by
  have b1 := Int.tmod_eq_emod_of_nonneg (b := 3) ha.1
  go_enter Try.func9, Try.ntmps9
  go_wp2
  have e2 : bits .or .u64 (bits .and .u64 0 254) 2 = 2 := by decide
  rw [e2]
  refine bodyPost_ret (results_cell_row (p := 6) (ty := 33) rfl _ _ w.heap.size 33 #[.int .u64 (pgV a), .int .u64 (pgA b), .int .u64 2] (0, 0) _ rfl ?_ Try.underlying33 rfl (by kernel_rfl)) rfl ⟨rfl, ?_⟩
  · unfold pgV pgA
    exact (((Below.refl (w.heap.size + 1) _).alloc (by simp) _).block w.heap.size (by omega)).trans (heap_alloc_new _ _)
  · exact ((Below.refl _ _).alloc (Nat.le_refl _) _).alloc (by simp) _
section
variable {w : World} {p b m N : Nat} {B : Nat → Int} {L : List Nat} {F : Nat → Option Nat} {lf : Nat → Nat → Int}
/-- Map of a page of the law's: whatever it answers, the table is one. -/
theorem map_keep (h : Ram w p b m N B L) (hP : PT N L B F lf) {r : Nat} (hr : F 0 = some r) (va pa : Int) (hv : 0 ≤ va ∧ va % 4096 = 0 ∧ va < 274877906944) (hpa : 0 ≤ pa ∧ pa % 4096 = 0 ∧ pa < 72057594037927936) :
    Calls Try.prog 11 #[.pointer (some ⟨p, 0, .none⟩), .int .u64 (ad r), .int .u64 va, .int .u64 pa, .int .u64 2] w fun e w' => ∃ v, e = .returned (.int .i64 v) ∧ ∃ B' L' F' lf', PT N L' B' F' lf' ∧ F' 0 = some r ∧ Ram w' p b m N B' L' ∧ Fra p b m w w' := by
  have hN := h.mem.n2
  have hrl := (hP.held 0 r hr).2.1
  have hrb : 0 ≤ ad r ∧ ad r < 18446744073709551616 := by unfold ad; omega
  have hk : kd (toP pa 2) 0 = 2 ∧ 0 ≤ toP pa 2 ∧ toP pa 2 < 18446744073709551616 := by
    have e := toP_val pa 2 ⟨hpa.1, hpa.2.2⟩ (by omega) (by omega)
    refine ⟨kd_leaf pa 2 ⟨hpa.1, hpa.2.2⟩ hpa.2.1 (by omega) (by omega) (fun _ => ?_) ?_, by omega, by omega⟩
    · exact hs_toP pa 2 ⟨hpa.1, hpa.2.2⟩ (by omega) (by omega) 2 (by omega)
    · exact ho_toP pa 2 ⟨hpa.1, hpa.2.2⟩ (by omega) (by omega) 10 (by omega)
  refine (map_late h (ad r) va pa 2 hrb ⟨hv.1, by omega⟩ ⟨hpa.1, by omega⟩ hv.2 hpa.2 (by decide)).mono fun e w' hM => ?_
  unfold MapP at hM
  rcases hM with ⟨_, rfl, h1⟩ | ⟨_, _, rfl, h1⟩ | ⟨_, _, _, rfl, h1⟩ | ⟨_, _, _, rfl, B', L', h1, h2, h3, h4⟩
  · exact ⟨_, rfl, B, L, F, lf, hP, hr, h.below h1, Fra.below h1⟩
  · exact ⟨_, rfl, B, L, F, lf, hP, hr, h.below h1, Fra.below h1⟩
  · exact ⟨_, rfl, B, L, F, lf, hP, hr, h.below h1, Fra.below h1⟩
  · obtain ⟨F', R⟩ := lays_pt hP hN h.nd h.lt hr hk h1
    exact ⟨_, rfl, B', L', F', _, R.pt, R.ext 0 r hr, h3, h4⟩
end
end Go.Proofs.Ytncjmlndjnfncaa
