import Derived.Test.YtejongfipfefpaaWpC
import Derived.Test.YtejongfipfefpaaEach
import Derived.RangeFuncWrites
namespace Go.Proofs.Ytejongfipfefpaa
open Go.RowKit Go.Shelf
attribute [local go_sem] Oper.semAt_some
set_option linter.unusedVariables false
set_option linter.unusedSimpArgs false
/-- What comes of a list that is ranged over from its end, the first k of it. -/
def dn {α : Type} (g : Nat → α) (nf k : Nat) : List α := (List.range k).map fun j => g (nf - 1 - j)
theorem dn_succ {α : Type} (g : Nat → α) (nf k : Nat) : dn g nf (k + 1) = dn g nf k ++ [g (nf - 1 - k)] := by simp [dn, List.range_succ]
theorem dn_len {α : Type} (g : Nat → α) (nf k : Nat) : (dn g nf k).length = k := by simp [dn]
/-- The list that is ranged over lies as it lay, and the variable that holds it. -/
def GoodB (Bn : Nat) (q : Option Addr) (nf cf : Nat) (F : Nat → Int) (W : World) : Prop := W.cell? ⟨Bn, 0, .none⟩ = some (.slice q nf cf) ∧ Fs W q nf F
set_option maxRecDepth 100000 in
set_option maxHeartbeats 1000000 in
theorem back_in {α : Type} (g : Nat → α) (enc : α → Array Value) (n l Bn : Nat) (q : Option Addr) (nf cf : Nat) (F : Nat → Int) (hc : nf ≤ cf) (hcm : nf ≤ 281474976710656) (henc : ∀ i, i < nf → enc (g i) = #[.int .i64 (i : Int), .int .u64 (F i)]) (J Jx : List α → World → Prop) (Kp : World → World → Prop)
    (hG : ∀ W W', Kp W W' → GoodB Bn q nf cf F W → GoodB Bn q nf cf F W')
    (hY : ∀ m pre x W, J pre W → pre.length < nf → YieldAt Fence.wide m Try.prog l (enc x) W fun e W' => (e = .returned (.bool true) ∧ J (pre ++ [x]) W' ∧ Kp W W') ∨ (e = .returned (.bool false) ∧ Jx (pre ++ [x]) W'))
    (W : World) (hr : GoodB Bn q nf cf F W) (h0 : J [] W) :
    CallsIn Fence.wide n Try.prog 40 #[.func (.yield l) #[] #[], .pointer (some ⟨Bn, 0, .none⟩)] W fun e W' => (∃ v, e = .returned v) ∧ ((∃ ys, ys = dn g nf nf ∧ J ys W') ∨ (∃ pre, (∃ k, k ≤ nf ∧ pre = dn g nf k) ∧ Jx pre W')) := by
  have a0 := hr.1
  refine callsIn_of_wp Try.func40 rfl trivial ?_ rfl
  simp only [Try.ntmps40, List.size_toArray, List.length_cons, List.length_nil, Nat.reduceAdd, Nat.reduceSub, Array.replicate_succ, Array.replicate_zero, List.push_toArray, List.append_toArray, List.nil_append, List.cons_append]
  gi_wp2
  gi_loopw [3] (fun a wr => ∃ j : Nat, j ≤ nf ∧ a = .int .i64 ((j : Int) - 1) ∧ J (dn g nf (nf - j)) wr ∧ GoodB Bn q nf cf F wr) (fun a _ => (intOf a + 1).toNat)
  case atStart => exact ⟨nf, Nat.le_refl _, rfl, by rw [Nat.sub_self]; exact h0, hr⟩
  case round =>
    obtain ⟨j, hj, rfl, hJ, hgood⟩ := hrel
    clear a0
    by_cases hj0 : j = 0
    · subst hj0
      gi_wp2
      go_end0
      exact ⟨⟨_, rfl⟩, .inl ⟨_, rfl, by simpa using hJ⟩⟩
    · obtain ⟨i, rfl⟩ : ∃ i, j = i + 1 := ⟨j - 1, by omega⟩
      clear hj0
      have ei : ((i + 1 : Nat) : Int) - 1 = i := by omega
      rw [ei]
      obtain ⟨a0, hfs⟩ := hgood
      obtain ⟨b, o, rfl, lb, hcell⟩ : ∃ b o, q = some ⟨b, o, .none⟩ ∧ b < wr.heap.size ∧ ∀ i, i < nf → wr.cell? ⟨b, o + i, .none⟩ = some (.int .u64 (F i)) := by
        rcases hfs with h | h
        · omega
        · exact h
      have hci := hcell i (by omega)
      have HG : Hid (GoodB Bn (some ⟨b, o, .none⟩) nf cf F wr) := ⟨a0, .inr ⟨b, o, rfl, lb, hcell⟩⟩
      have ek : nf - 1 - (nf - (i + 1)) = i := by omega
      have HD : Hid (dn g nf (nf - i) = dn g nf (nf - (i + 1)) ++ [g i]) := by
        have := dn_succ g nf (nf - (i + 1))
        rw [ek] at this
        rw [← this]
        congr 1
        show nf - i = nf - (i + 1) + 1
        omega
      obtain ⟨fn, tmps, assign, body, hy, hR⟩ := hY (n - 1) (dn g nf (nf - (i + 1))) (g i) wr hJ (by rw [dn_len]; omega)
      clear hfs hcell hY hJ ek
      rw [henc i (by omega)] at hy
      have i1 : (i : Int) < nf := by omega
      gi_wp2
      refine ⟨fun h => (by cases h), hR.mono ?_⟩
      clear hR hy
      rintro e W3 (⟨rfl, hJ3, hk3⟩ | ⟨rfl, hJx3⟩)
      · have HJ : Hid (J (dn g nf (nf - i)) W3 ∧ GoodB Bn (some ⟨b, o, .none⟩) nf cf F W3) := ⟨HD.out ▸ hJ3, hG _ _ hk3 HG.out⟩
        clear hJ3 hk3
        gi_wp2
        exact ⟨⟨i, by omega, by simp, HJ.out.1, HJ.out.2⟩, by simp [intOf]⟩
      · have HJ : Hid (Jx (dn g nf (nf - i)) W3) := HD.out ▸ hJx3
        clear hJx3
        gi_wp2
        refine bodyPost_ret (results_none rfl _ _ _) rfl ?_
        exact ⟨⟨_, rfl⟩, .inr ⟨_, ⟨_, by omega, rfl⟩, HJ.out⟩⟩
theorem back_seq {α : Type} (g : Nat → α) (enc : α → Array Value) {w : World} (n Bn : Nat) (q : Option Addr) (nf cf : Nat) (F : Nat → Int) (hc : nf ≤ cf) (hcm : nf ≤ 281474976710656) (henc : ∀ i, i < nf → enc (g i) = #[.int .i64 (i : Int), .int .u64 (F i)]) (Kp : World → World → Prop)
    (hG : ∀ W W', Kp W W' → GoodB Bn q nf cf F W → GoodB Bn q nf cf F W') (hg : GoodB Bn q nf cf F w) :
    SeqStopsK (α := α) Fence.wide n Try.prog 40 #[.pointer (some ⟨Bn, 0, .none⟩)] enc Kp (fun ys => ys = dn g nf nf) (fun pre => ∃ k, k ≤ nf ∧ pre = dn g nf k) nf w := by
  intro l J Jx W hW _ _ hY h0
  refine back_in g enc n l Bn q nf cf F hc hcm henc J Jx Kp hG (fun m pre x W1 hj hlt => yield_any rfl m (hY pre x W1 hj hlt)) W ⟨(hW.cell (lt_of_cell hg.1)).trans hg.1, fs_keep hg.2 hW (Nat.le_refl _)⟩ h0
theorem backward_any (q : Option Addr) (nf cf : Nat) (w : World) : Calls Try.prog 18 #[.slice q nf cf] w fun e w' => e = .returned (.func (.func 40) #[] #[.pointer (some ⟨w.heap.size, 0, .none⟩)]) ∧ w' = w.alloc (.cells #[.slice q nf cf] 22) := by
  go_enter Try.func18, Try.ntmps18
  go_wp2
  go_ret
  exact ⟨rfl, rfl⟩
end Go.Proofs.Ytejongfipfefpaa
