import Derived.Test.YtncjmlndjnfncaaAcc
import Derived.Test.YtncjmlndjnfncaaThr
import Derived.LoopN
namespace Go.Proofs.Ytncjmlndjnfncaa
open Go.RowKit
set_option linter.unusedVariables false
set_option linter.unusedSimpArgs false
def ReadP (w : World) (n : Nat) (R : Nat → Int) (e : Ending) (w' : World) : Prop := ∃ g, w.heap.size ≤ g ∧ g < w'.heap.size ∧ e = .returned (.tuple #[.slice (some ⟨g, 0, .none⟩) n n, .bool true]) ∧ RowB w' g n R ∧ (∀ i, i < n → w'.frozen? ⟨g, i, .none⟩ = false) ∧ Below w.heap.size w w'
section
variable {w : World} {p b m N cnt : Nat} {B : Nat → Int} {nx : Int} {hd : Int → Bool}
set_option maxHeartbeats 1000000 in
theorem read_ok (h : Mem w p b m N B nx hd cnt) (o n : Nat) (hn : 1 ≤ n) (ho : o + n ≤ 4096 * N) (hh : ∀ f : Nat, o / 4096 ≤ f → f * 4096 < o + n → hd (2147483648 + f * 4096) = true) :
    Calls Try.prog 26 #[.pointer (some ⟨p, 0, .none⟩), .int .u64 (2147483648 + o), .int .i64 n] w fun e w' => ReadP w n (fun i => B (o + i)) e w' := by
  have c := reach_ok h o n hn ho hh
  have HM : Hid (Mem w p b m N B nx hd cnt) := h
  have n2 := h.n2
  clear h hh
  have i1 : ((n : Int) == 0) = false := by simp; omega
  go_enter Try.func26, Try.ntmps26
  go_wp2_with fail
  refine c.mono ?_
  rintro e w1 ⟨rfl, hb⟩
  have M1 := HM.out.below hb
  have c2 := copied_any b o n (4096 * N - o) (fun i => B (o + i)) w1 hn (by omega) (fun i hi => M1.cb _ (by omega))
  clear M1 c
  have HB : Hid (Below w.heap.size w w1) := hb
  clear hb
  go_wp2_with fail
  refine c2.mono ?_
  rintro e w2 ⟨g, hg1, hg2, rfl, hr, hf, hb2⟩
  have HP : Hid (ReadP w n (fun i => B (o + i)) (.returned (.tuple #[.slice (some ⟨g, 0, .none⟩) n n, .bool true])) w2) := ⟨g, Nat.le_trans HB.out.size hg1, hg2, rfl, hr, hf, HB.out.trans (hb2.mono HB.out.size)⟩
  clear c2 hg1 hg2 hr hf hb2
  go_wp2
  go_ret2
  exact HP.out
set_option maxHeartbeats 1000000 in
theorem write_ok (h : Mem w p b m N B nx hd cnt) (o n : Nat) (hn : 1 ≤ n) (ho : o + n ≤ 4096 * N) (hh : ∀ f : Nat, o / 4096 ≤ f → f * 4096 < o + n → hd (2147483648 + f * 4096) = true) (g k c : Nat) (R : Nat → Int) (hR : ∀ i, 0 ≤ R i ∧ R i < 256) (hg : ∀ i, i < n → w.cell? ⟨g, k + i, .none⟩ = some (.int .u8 (R i))) :
    Calls Try.prog 23 #[.pointer (some ⟨p, 0, .none⟩), .int .u64 (2147483648 + o), .slice (some ⟨g, k, .none⟩) n c] w fun e w' => e = .returned (.bool true) ∧ Mem w' p b m N (over B o ((List.range n).map R)) nx hd cnt ∧ Fra p b m w w' := by
  have c1 := reach_ok h o n hn ho hh
  have HM : Hid (Mem w p b m N B nx hd cnt) := h
  have hgw : g < w.heap.size := lt_of_cell (hg 0 hn)
  have n2 := h.n2
  have key : Hid (∀ w1, Below w.heap.size w w1 → ∃ w2, (∀ ty, (Builtin.copy_ #[42, 42] ty #[.slice (some ⟨b, o, .none⟩) n (4096 * N - o), .slice (some ⟨g, k, .none⟩) n c]).run Try.prog w1 = .ok (.int .i64 n) w2) ∧ Mem w2 p b m N (over B o ((List.range n).map R)) nx hd cnt ∧ Fra p b m w w2) := fun w1 hb => by
    have M1 := HM.out.below hb
    refine ⟨w1.setCells b o (((List.range n).map R).map (.int .u8)), fun ty => ?_, M1.setCells o _ (by simpa using ho) (fun v hv => by simp only [List.mem_map] at hv; obtain ⟨i, _, rfl⟩ := hv; exact hR i), (Fra.below hb).setCells o _⟩
    have := run_copy_cells (P := Try.prog) w1 42 42 ty 5 b o n (4096 * N - o) ⟨g, k, .none⟩ n c (((List.range n).map R).map (.int .u8)) Try.underlying42 info5 (by simp)
      (fun j v hj => by
        rw [addr_add]
        rw [List.getElem?_map, List.getElem?_map] at hj
        by_cases hjn : j < n
        · rw [List.getElem?_range hjn] at hj
          simp only [Option.map_some, Option.some.injEq] at hj
          subst hj
          exact (hb.cell (p := ⟨g, k + j, .none⟩) hgw).trans (hg j hjn)
        · rw [List.getElem?_eq_none (by simp; omega)] at hj
          cases hj)
      (fun j hj => by rw [M1.cb _ (by simp at hj; omega)]; rfl) (fun j hj => M1.fb _ (by simp at hj; omega)) (fun v hv => by simp only [List.mem_map] at hv; obtain ⟨i, _, rfl⟩ := hv; rfl)
    rw [this]
    simp [goInt]
  clear h hh hg hR
  go_enter Try.func23, Try.ntmps23
  go_wp2_with fail
  refine c1.mono ?_
  rintro e w1 ⟨rfl, hb⟩
  obtain ⟨w2, hcp, hM, hF⟩ := key.out w1 hb
  clear c1 hb
  go_wp2
  go_ret
  exact ⟨rfl, hM, hF⟩
end
end Go.Proofs.Ytncjmlndjnfncaa
namespace Go.Proofs.Ytncjmlndjnfncaa
open Go.RowKit
set_option linter.unusedVariables false
set_option linter.unusedSimpArgs false
section
variable {w : World} {p b m N cnt : Nat} {B : Nat → Int} {nx : Int} {hd : Int → Bool}
theorem reach_neg (h : Mem w p b m N B nx hd cnt) (pa n : Int) (hn : n < 0) : Calls Try.prog 57 #[.pointer (some ⟨p, 0, .none⟩), .int .u64 pa, .int .i64 n] w fun e w' => e = .returned (.tuple #[.slice .none 0 0, .bool false]) ∧ w' = w := by
  have c := made_some p b _ _ w h.c0
  clear h
  go_enter Try.func57, Try.ntmps57
  go_wp2_with (go_at_call 55; refine c.mono ?_; rintro e w0 ⟨rfl, rfl⟩)
  go_ret2
  exact ⟨rfl, rfl⟩
theorem reach_zero (h : Mem w p b m N B nx hd cnt) (pa : Int) : Calls Try.prog 57 #[.pointer (some ⟨p, 0, .none⟩), .int .u64 pa, .int .i64 0] w fun e w' => e = .returned (.tuple #[.slice .none 0 0, .bool true]) ∧ w' = w := by
  have c := made_some p b _ _ w h.c0
  clear h
  go_enter Try.func57, Try.ntmps57
  go_wp2_with (go_at_call 55; refine c.mono ?_; rintro e w0 ⟨rfl, rfl⟩)
  go_ret2
  exact ⟨rfl, rfl⟩
set_option maxHeartbeats 2000000 in
theorem reach_hole (h : Mem w p b m N B nx hd cnt) (o n : Nat) (hn : 1 ≤ n) (ho : o + n ≤ 4096 * N) (f0 : Nat) (hf1 : o / 4096 ≤ f0) (hf2 : f0 * 4096 < o + n) (hh : hd (2147483648 + f0 * 4096) = false) :
    Calls Try.prog 57 #[.pointer (some ⟨p, 0, .none⟩), .int .u64 (2147483648 + o), .int .i64 n] w fun e w' => e = .returned (.tuple #[.slice .none 0 0, .bool false]) ∧ Below w.heap.size w w' := by
  have c := made_some p b _ _ w h.c0
  have k0 := h.c0
  have n2 := h.n2
  have i1 : ¬ ((n : Int) < 0) := by omega
  have i2 : ((n : Int) == 0) = false := by simp; omega
  have i3 : (n : Int) ≤ 4096 * N - o := by omega
  have i4 : (o : Int) < 4096 * N := by omega
  have HM : Hid (Mem w p b m N B nx hd cnt) := h
  clear h
  go_enter Try.func57, Try.ntmps57
  go_wp2_with (first | (go_at_call 55; refine c.mono ?_; rintro e w0 ⟨rfl, rfl⟩) | fail)
  go_quiet (fail)
  go_wp2
  simp only [show (2147483648 + (o : Int) - 2147483648) = o by omega]
  go_loopw [11] (fun k wr => ∃ f : Nat, f ≤ f0 ∧ k = .int .u64 (2147483648 + f * 4096) ∧ Below w0.heap.size w0 wr) (fun k _ => (2147483648 + o + n + 4096 - intOf k).toNat)
  case atStart => exact ⟨o / 4096, by omega, congrArg _ (by omega), below_drewN (Below.refl _ _) _⟩
  case round =>
    obtain ⟨f, hff, rfl, hB⟩ := hrel
    have M := HM.out.below hB
    have HB : Hid (Below w0.heap.size w0 wr) := hB
    have hfn : f * 4096 < o + n := Nat.lt_of_le_of_lt (Nat.mul_le_mul_right _ hff) hf2
    have j1 : (2147483648 + (f : Int) * 4096) < 2147483648 + (o + n) := by omega
    have c1 := isHeld_any M (2147483648 + f * 4096) (by omega)
    clear M hB
    cases hq : hd (2147483648 + f * 4096) with
    | true =>
      rw [hq] at c1
      have hne : f ≠ f0 := fun e => by rw [e, hh] at hq; cases hq
      have q : Hid (f + 1 ≤ f0 ∧ Value.int .u64 (2147483648 + (f : Int) * 4096 + 4096) = .int .u64 (2147483648 + ((f + 1 : Nat) : Int) * 4096) ∧ (2147483648 + (o : Int) + n + 4096 - intOf (.int .u64 (2147483648 + (f : Int) * 4096 + 4096))).toNat < (2147483648 + (o : Int) + n + 4096 - intOf (.int .u64 (2147483648 + (f : Int) * 4096))).toNat) := by
        refine ⟨by omega, ?_, ?_⟩
        · rw [show ((f + 1 : Nat) : Int) = (f : Int) + 1 by omega, show 2147483648 + ((f : Int) + 1) * 4096 = 2147483648 + (f : Int) * 4096 + 4096 by omega]
        · simp only [intOf]
          omega
      go_wp2_with (first | (go_at_call 80; refine c1.mono ?_; rintro e w1 ⟨rfl, hb1⟩) | fail)
      exact ⟨⟨f + 1, q.out.1, q.out.2.1, HB.out.trans (hb1.mono HB.out.size)⟩, q.out.2.2⟩
    | false =>
      rw [hq] at c1
      go_wp2_with (first | (go_at_call 80; refine c1.mono ?_; rintro e w1 ⟨rfl, hb1⟩) | fail)
      go_ret2
      exact ⟨rfl, HB.out.trans (hb1.mono HB.out.size)⟩
set_option maxHeartbeats 2000000 in
theorem reach_out (h : Mem w p b m N B nx hd cnt) (pa n : Int) (hp : 0 ≤ pa ∧ pa < 18446744073709551616) (hn : 1 ≤ n) (hn2 : n ≤ 9223372036854775807) (ho : ¬ (2147483648 ≤ pa ∧ pa - 2147483648 + n ≤ 4096 * N)) :
    Calls Try.prog 57 #[.pointer (some ⟨p, 0, .none⟩), .int .u64 pa, .int .i64 n] w fun e w' => e = .returned (.tuple #[.slice .none 0 0, .bool false]) ∧ Below w.heap.size w w' := by
  have c := made_some p b _ _ w h.c0
  have k0 := h.c0
  have n2 := h.n2
  have i1 : ¬ (n < 0) := by omega
  have i2 : (n == 0) = false := by simp; omega
  clear h
  by_cases h1 : 2147483648 ≤ pa
  · by_cases h2 : 4096 * (N : Int) ≤ pa - 2147483648
    · go_enter Try.func57, Try.ntmps57
      go_wp2_with (first | (go_at_call 55; refine c.mono ?_; rintro e w0 ⟨rfl, rfl⟩) | fail)
      go_quiet (fail)
      go_wp2
      go_ret2
      exact ⟨rfl, below_drewN (Below.refl _ _) _⟩
    · have h3 : 4096 * (N : Int) - (pa - 2147483648) < n := by omega
      go_enter Try.func57, Try.ntmps57
      go_wp2_with (first | (go_at_call 55; refine c.mono ?_; rintro e w0 ⟨rfl, rfl⟩) | fail)
      go_quiet (fail)
      go_wp2
      go_ret2
      exact ⟨rfl, below_drewN (Below.refl _ _) _⟩
  · have hw : IntKind.u64.wrap (pa - 2147483648) = pa - 2147483648 + 18446744073709551616 := by rw [IntKind.wrap_u64]; omega
    have h2 : 4096 * (N : Int) ≤ pa - 2147483648 + 18446744073709551616 := by omega
    generalize pa - 2147483648 + 18446744073709551616 = Z at *
    go_enter Try.func57, Try.ntmps57
    go_wp2_with (first | (go_at_call 55; refine c.mono ?_; rintro e w0 ⟨rfl, rfl⟩) | fail)
    go_quiet (fail)
    go_wp2
    go_ret2
    exact ⟨rfl, below_drewN (Below.refl _ _) _⟩
/-- A refusal, whatever its ground. -/
theorem access_no (pa n v : Int) (wr : Bool) (c : Calls Try.prog 57 #[.pointer (some ⟨p, 0, .none⟩), .int .u64 pa, .int .i64 n] w fun e w' => e = .returned (.tuple #[.slice .none 0 0, .bool false]) ∧ Below w.heap.size w w') :
    Calls Try.prog 71 #[.pointer (some ⟨p, 0, .none⟩), .int .u64 pa, .int .i64 n, .bool wr, .int .u64 v] w fun e w' => e = .returned (.tuple #[.int .u64 0, .bool false]) ∧ Below w.heap.size w w' := by
  go_enter Try.func71, Try.ntmps71
  go_wp2_with (go_at_call 57; refine c.mono ?_; rintro e w1 ⟨rfl, hb⟩)
  go_ret2
  exact ⟨rfl, hb⟩
/-- A width that is none. -/
theorem access_width (pa n v : Int) (wr : Bool) (q : Option Addr) (len cap : Nat) (ok : Bool) (hn : n ≠ 1 ∧ n ≠ 2 ∧ n ≠ 4 ∧ n ≠ 8) (c : Calls Try.prog 57 #[.pointer (some ⟨p, 0, .none⟩), .int .u64 pa, .int .i64 n] w fun e w' => e = .returned (.tuple #[.slice q len cap, .bool true]) ∧ Below w.heap.size w w') :
    Calls Try.prog 71 #[.pointer (some ⟨p, 0, .none⟩), .int .u64 pa, .int .i64 n, .bool wr, .int .u64 v] w fun e w' => e = .returned (.tuple #[.int .u64 0, .bool false]) ∧ Below w.heap.size w w' := by
  have e1 : (n == 1) = false := by simpa using hn.1
  have e2 : (n == 2) = false := by simpa using hn.2.1
  have e4 : (n == 4) = false := by simpa using hn.2.2.1
  have e8 : (n == 8) = false := by simpa using hn.2.2.2
  clear hn
  go_enter Try.func71, Try.ntmps71
  go_wp2_with (go_at_call 57; refine c.mono ?_; rintro e w1 ⟨rfl, hb⟩)
  go_ret2
  exact ⟨rfl, hb⟩
theorem load_no (pa n : Int) (c : Calls Try.prog 71 #[.pointer (some ⟨p, 0, .none⟩), .int .u64 pa, .int .i64 n, .bool false, .int .u64 0] w fun e w' => e = .returned (.tuple #[.int .u64 0, .bool false]) ∧ Below w.heap.size w w') :
    Calls Try.prog 64 #[.pointer (some ⟨p, 0, .none⟩), .int .u64 pa, .int .i64 n] w fun e w' => e = .returned (.tuple #[.int .u64 0, .bool false]) ∧ Below w.heap.size w w' := by
  go_enter Try.func64, Try.ntmps64
  go_wp2_with (go_at_call 71; refine c.mono ?_; rintro e w1 ⟨rfl, hb⟩)
  go_ret2
  exact ⟨rfl, hb⟩
theorem store_no (pa n v : Int) (c : Calls Try.prog 71 #[.pointer (some ⟨p, 0, .none⟩), .int .u64 pa, .int .i64 n, .bool true, .int .u64 v] w fun e w' => e = .returned (.tuple #[.int .u64 0, .bool false]) ∧ Below w.heap.size w w') :
    Calls Try.prog 47 #[.pointer (some ⟨p, 0, .none⟩), .int .u64 pa, .int .i64 n, .int .u64 v] w fun e w' => e = .returned (.bool false) ∧ Below w.heap.size w w' := by
  go_enter Try.func47, Try.ntmps47
  go_wp2_with (go_at_call 71; refine c.mono ?_; rintro e w1 ⟨rfl, hb⟩)
  go_ret
  exact ⟨rfl, hb⟩
theorem read_no (pa n : Int) (c : Calls Try.prog 57 #[.pointer (some ⟨p, 0, .none⟩), .int .u64 pa, .int .i64 n] w fun e w' => e = .returned (.tuple #[.slice .none 0 0, .bool false]) ∧ Below w.heap.size w w') :
    Calls Try.prog 26 #[.pointer (some ⟨p, 0, .none⟩), .int .u64 pa, .int .i64 n] w fun e w' => e = .returned (.tuple #[.slice .none 0 0, .bool false]) ∧ Below w.heap.size w w' := by
  go_enter Try.func26, Try.ntmps26
  go_wp2_with (go_at_call 57; refine c.mono ?_; rintro e w1 ⟨rfl, hb⟩)
  go_ret2
  exact ⟨rfl, hb⟩
theorem read_zero (h : Mem w p b m N B nx hd cnt) (pa : Int) : Calls Try.prog 26 #[.pointer (some ⟨p, 0, .none⟩), .int .u64 pa, .int .i64 0] w fun e w' => e = .returned (.tuple #[.slice .none 0 0, .bool true]) ∧ w' = w := by
  have c := reach_zero h pa
  clear h
  go_enter Try.func26, Try.ntmps26
  go_wp2_with (go_at_call 57; refine c.mono ?_; rintro e w0 ⟨rfl, rfl⟩)
  go_ret2
  exact ⟨rfl, rfl⟩
theorem write_no (pa : Int) (sa : Option Addr) (n cap : Nat) (c : Calls Try.prog 57 #[.pointer (some ⟨p, 0, .none⟩), .int .u64 pa, .int .i64 n] w fun e w' => e = .returned (.tuple #[.slice .none 0 0, .bool false]) ∧ Below w.heap.size w w') :
    Calls Try.prog 23 #[.pointer (some ⟨p, 0, .none⟩), .int .u64 pa, .slice sa n cap] w fun e w' => e = .returned (.bool false) ∧ Below w.heap.size w w' := by
  have hcp : ∀ (w : World) ty, (Builtin.copy_ #[42, 42] ty #[.slice .none 0 0, .slice sa n cap]).run Try.prog w = .ok (.int .i64 0) w := fun w ty => run_copy_none w 42 42 ty 5 .none sa 0 0 n cap Try.underlying42 info5 (by simp)
  go_enter Try.func23, Try.ntmps23
  go_wp2_with (go_at_call 57; refine c.mono ?_; rintro e w1 ⟨rfl, hb⟩)
  go_ret
  exact ⟨rfl, hb⟩
theorem write_zero (h : Mem w p b m N B nx hd cnt) (pa : Int) (sa : Option Addr) (cap : Nat) : Calls Try.prog 23 #[.pointer (some ⟨p, 0, .none⟩), .int .u64 pa, .slice sa 0 cap] w fun e w' => e = .returned (.bool true) ∧ w' = w := by
  have hcp : ∀ (w : World) ty, (Builtin.copy_ #[42, 42] ty #[.slice .none 0 0, .slice sa 0 cap]).run Try.prog w = .ok (.int .i64 0) w := fun w ty => run_copy_none w 42 42 ty 5 .none sa 0 0 0 cap Try.underlying42 info5 (by simp)
  have c := reach_zero h pa
  clear h
  go_enter Try.func23, Try.ntmps23
  go_wp2_with (go_at_call 57; refine c.mono ?_; rintro e w0 ⟨rfl, rfl⟩)
  go_ret
  exact ⟨rfl, rfl⟩
end
end Go.Proofs.Ytncjmlndjnfncaa
namespace Go.Proofs.Ytncjmlndjnfncaa
open Go.RowKit
set_option linter.unusedVariables false
set_option linter.unusedSimpArgs false
/-- A memory that nobody made. -/
def Unm (w : World) (v : Value) : Prop := v = .pointer .none ∨ ∃ p, v = .pointer (some ⟨p, 0, .none⟩) ∧ p < w.heap.size ∧ w.cell? ⟨p, 0, .none⟩ = some (.slice .none 0 0)
theorem Unm.below {w w' : World} {v : Value} (h : Unm w v) (b : Below w.heap.size w w') : Unm w' v := by
  rcases h with h | ⟨p, h, hp, hc⟩
  · exact .inl h
  · exact .inr ⟨p, h, Nat.lt_of_lt_of_le hp b.size, (b.cell hp).trans hc⟩
theorem Unm.alloc {w : World} {v : Value} (h : Unm w v) (o : Obj) : Unm (w.alloc o) v := h.below ((Below.refl _ _).alloc (Nat.le_refl _) _)
section
variable {w : World} {v : Value}
theorem no_made (h : Unm w v) : Calls Try.prog 55 #[v] w fun e w' => e = .returned (.bool false) ∧ w' = w := by
  rcases h with rfl | ⟨p, rfl, _, hc⟩
  · exact made_nil w
  · exact made_plain p w hc
theorem no_frames (h : Unm w v) : Calls Try.prog 59 #[v] w fun e w' => e = .returned (.int .i64 0) ∧ w' = w := by
  have c := no_made h
  clear h
  go_enter Try.func59, Try.ntmps59
  go_wp2_with (go_at_call 55; refine c.mono ?_; rintro e w0 ⟨rfl, rfl⟩)
  go_ret
  exact ⟨rfl, rfl⟩
theorem no_reach (h : Unm w v) (pa n : Int) : Calls Try.prog 57 #[v, .int .u64 pa, .int .i64 n] w fun e w' => e = .returned (.tuple #[.slice .none 0 0, .bool false]) ∧ w' = w := by
  have c := no_made h
  clear h
  go_enter Try.func57, Try.ntmps57
  go_wp2_with (go_at_call 55; refine c.mono ?_; rintro e w0 ⟨rfl, rfl⟩)
  go_ret2
  exact ⟨rfl, rfl⟩
theorem no_access (h : Unm w v) (pa n x : Int) (b : Bool) : Calls Try.prog 71 #[v, .int .u64 pa, .int .i64 n, .bool b, .int .u64 x] w fun e w' => e = .returned (.tuple #[.int .u64 0, .bool false]) ∧ w' = w := by
  have c := no_reach h pa n
  clear h
  go_enter Try.func71, Try.ntmps71
  go_wp2_with (go_at_call 57; refine c.mono ?_; rintro e w0 ⟨rfl, rfl⟩)
  go_ret2
  exact ⟨rfl, rfl⟩
theorem no_load (h : Unm w v) (pa n : Int) : Calls Try.prog 64 #[v, .int .u64 pa, .int .i64 n] w fun e w' => e = .returned (.tuple #[.int .u64 0, .bool false]) ∧ w' = w := by
  have c := no_access h pa n 0 false
  clear h
  go_enter Try.func64, Try.ntmps64
  go_wp2_with (go_at_call 71; refine c.mono ?_; rintro e w0 ⟨rfl, rfl⟩)
  go_ret2
  exact ⟨rfl, rfl⟩
theorem no_read (h : Unm w v) (pa n : Int) : Calls Try.prog 26 #[v, .int .u64 pa, .int .i64 n] w fun e w' => e = .returned (.tuple #[.slice .none 0 0, .bool false]) ∧ w' = w := by
  have c := no_reach h pa n
  clear h
  go_enter Try.func26, Try.ntmps26
  go_wp2_with (go_at_call 57; refine c.mono ?_; rintro e w0 ⟨rfl, rfl⟩)
  go_ret2
  exact ⟨rfl, rfl⟩
theorem no_isMade (h : Unm w v) : Calls Try.prog 38 #[v] w fun e w' => e = .returned (.bool false) ∧ w' = w := by
  have c := no_frames h
  clear h
  go_enter Try.func38, Try.ntmps38
  go_wp2_with (go_at_call 59; refine c.mono ?_; rintro e w0 ⟨rfl, rfl⟩)
  go_ret
  exact ⟨rfl, rfl⟩
theorem no_isNode (h : Unm w v) (pa : Int) : Calls Try.prog 42 #[v, .int .u64 pa] w fun e w' => e = .returned (.bool false) ∧ w' = w := by
  have c := no_load h pa 8
  clear h
  go_enter Try.func42, Try.ntmps42
  go_wp2_with (go_at_call 64; refine c.mono ?_; rintro e w0 ⟨rfl, rfl⟩)
  go_ret
  exact ⟨rfl, rfl⟩
end
end Go.Proofs.Ytncjmlndjnfncaa
namespace Go.Proofs.Ytncjmlndjnfncaa
open Go.RowKit
set_option linter.unusedVariables false
set_option linter.unusedSimpArgs false
/-- How many bytes of addresses an entry of a level serves. -/
def spn (l : Int) : Int := if l = 0 then 4096 else if l = 1 then 2097152 else if l = 2 then 1073741824 else 549755813888
theorem spn0 : spn 0 = 4096 := rfl
theorem spn1 : spn 1 = 2097152 := rfl
theorem spn2 : spn 2 = 1073741824 := rfl
theorem spn3 : spn 3 = 549755813888 := rfl
def ix (va l : Int) : Int := va / spn l % 512
theorem ix_b (va l : Int) : 0 ≤ ix va l ∧ ix va l < 512 := by unfold ix; omega
theorem span_any (l : Int) (hl : l = 0 ∨ l = 1 ∨ l = 2 ∨ l = 3) (w : World) : Calls Try.prog 78 #[.int .i64 l] w fun e w' => e = .returned (.int .u64 (spn l)) ∧ w' = w := by
  rcases hl with rfl | rfl | rfl | rfl
  all_goals
    go_enter Try.func78, Try.ntmps78
    go_wp2
    go_ret
    exact ⟨rfl, rfl⟩
theorem index_any (va l : Int) (hv : 0 ≤ va ∧ va < 18446744073709551616) (hl : l = 0 ∨ l = 1 ∨ l = 2) (w : World) : Calls Try.prog 63 #[.int .u64 va, .int .i64 l] w fun e w' => e = .returned (.int .u64 (ix va l)) ∧ w' = w := by
  rcases hl with rfl | rfl | rfl
  all_goals
    simp only [ix, spn0, spn1, spn2]
    go_enter Try.func63, Try.ntmps63
    go_wp2
    go_ret
    exact ⟨rfl, rfl⟩
theorem and_mask (i : Nat) (hi : i ≤ 64) (v : Int) (hv : 0 ≤ v ∧ v < 18446744073709551616) : bits .and .u64 v (2 ^ i - 1) = v % 2 ^ i :=
  bits_mask .u64 64 (by decide) wraps_u64 i hi v hv.1 hv.2
theorem inSpan_any (a l : Int) (hv : 0 ≤ a ∧ a < 18446744073709551616) (hl : l = 0 ∨ l = 1 ∨ l = 2 ∨ l = 3) (w : World) : Calls Try.prog 51 #[.int .u64 a, .int .i64 l] w fun e w' => e = .returned (.int .u64 (a % spn l)) ∧ w' = w := by
  have c := span_any l hl
  have m0 : Hid (bits .and .u64 a 4095 = a % 4096) := and_mask 12 (by omega) a hv
  have m1 : Hid (bits .and .u64 a 2097151 = a % 2097152) := and_mask 21 (by omega) a hv
  have m2 : Hid (bits .and .u64 a 1073741823 = a % 1073741824) := and_mask 30 (by omega) a hv
  have m3 : Hid (bits .and .u64 a 549755813887 = a % 549755813888) := and_mask 39 (by omega) a hv
  rcases hl with rfl | rfl | rfl | rfl
  all_goals
    simp only [spn0, spn1, spn2, spn3] at c ⊢
    go_enter Try.func51, Try.ntmps51
    go_wp2_with (go_at_call 78; refine (c _).mono ?_; rintro e w0 ⟨rfl, rfl⟩)
    go_ret
  · rw [← m0.out]; exact ⟨rfl, rfl⟩
  · rw [← m1.out]; exact ⟨rfl, rfl⟩
  · rw [← m2.out]; exact ⟨rfl, rfl⟩
  · rw [← m3.out]; exact ⟨rfl, rfl⟩
theorem mayBeNode_any (pa : Int) (hp : 0 ≤ pa ∧ pa < 18446744073709551616) (w : World) : Calls Try.prog 65 #[.int .u64 pa] w fun e w' => e = .returned (.bool (decide (pa % 4096 = 0 ∧ pa ≠ 2147483648))) ∧ w' = w := by
  by_cases k0 : pa % 4096 = 0
  · by_cases k1 : pa = 2147483648
    · have e : decide (pa % 4096 = 0 ∧ pa ≠ 2147483648) = false := by simp [k1]
      rw [e]
      go_enter Try.func65, Try.ntmps65
      go_wp2
      go_ret
      exact ⟨rfl, rfl⟩
    · have e : decide (pa % 4096 = 0 ∧ pa ≠ 2147483648) = true := by simp [k0, k1]
      rw [e]
      go_enter Try.func65, Try.ntmps65
      go_wp2
      go_ret
      exact ⟨by simp [k1], rfl⟩
  · have e : decide (pa % 4096 = 0 ∧ pa ≠ 2147483648) = false := by simp [k0]
    rw [e]
    go_enter Try.func65, Try.ntmps65
    go_wp2
    go_ret
    exact ⟨rfl, rfl⟩
end Go.Proofs.Ytncjmlndjnfncaa
