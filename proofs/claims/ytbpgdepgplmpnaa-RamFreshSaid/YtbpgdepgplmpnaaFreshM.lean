import Derived.Test.YtbpgdepgplmpnaaTwin
import Derived.Test.YtbpgdepgplmpnaaOwn
import Derived.Test.YtbpgdepgplmpnaaFreeB
import Derived.Test.YtbpgdepgplmpnaaFreeW
import Derived.Test.YtbpgdepgplmpnaaBad
namespace Go.Proofs.Ytbpgdepgplmpnaa
open Go.RowKit
set_option linter.unusedVariables false
set_option linter.unusedSimpArgs false
theorem own_rowB {W : World} {g n X : Nat} {R : Nat → Int} (h : OwnB W g n) (hr : RowB W g n R) (hX : X ≤ g) : W.ownsRow X 5 1 (.slice (some ⟨g, 0, .none⟩) n n) n (rowB n R) := by
  obtain ⟨xs, h⟩ := h
  have e : xs = rowB n R := by
    refine List.ext_getElem? fun i => ?_
    by_cases hi : i < n
    · rw [← h.cellAt i (by omega), hr i hi]
      simp [rowB, List.getElem?_range hi]
    · rw [List.getElem?_eq_none (by have := h.1; omega), List.getElem?_eq_none (by simp [rowB]; omega)]
  subst e
  refine ⟨h.1, ?_⟩
  rcases h.2 with h0 | ⟨g', cap, cur, hv, hb, r⟩
  · exact .inl h0
  · refine .inr ⟨g', cap, cur, hv, ?_, r⟩
    injection hv with e1 _ _
    injection e1 with e1
    injection e1 with e1 _ _
    omega
/-- What two turns have handed out. -/
structure Rl (X t : Nat) (W : World) (nn : Nat → Nat) (RR : Nat → Nat → Int) (F P : Nat → Int) (q : Nat → Option Addr) (c : Nat → Nat) (fq : Nat → Option Addr) (fc : Nat → Nat) (hq : Nat → Option Addr) (hc : Nat → Nat) : Prop where
  row : ∀ i, i < 5 * t → W.ownsRow X 5 1 (.slice (q i) (nn (i % 5)) (c i)) (nn (i % 5)) (rowB (nn (i % 5)) (RR (i % 5)))
  rap : Apart (5 * t) (fun i => .slice (q i) (nn (i % 5)) (c i))
  fre : ∀ j, j < t → W.ownsRow X 22 1 (.slice (fq j) 3 (fc j)) 3 [.int .u64 (F 0), .int .u64 (F 1), .int .u64 (F 2)]
  fap : Apart t (fun j => .slice (fq j) 3 (fc j))
  hel : ∀ j, j < t → W.ownsRow X 76 2 (.slice (hq j) 2 (hc j)) 2 [.int .u64 (P 0), .slice (q (5 * j + 3)) 4096 (c (5 * j + 3)), .int .u64 (P 1), .slice (q (5 * j + 4)) 4096 (c (5 * j + 4))]
  hap : Apart t (fun j => .slice (hq j) 2 (hc j))
section
variable {X t : Nat} {W W' : World} {nn : Nat → Nat} {RR : Nat → Nat → Int} {F P : Nat → Int} {q : Nat → Option Addr} {c : Nat → Nat} {fq : Nat → Option Addr} {fc : Nat → Nat} {hq : Nat → Option Addr} {hc : Nat → Nat}
theorem Rl.below (h : Rl X t W nn RR F P q c fq fc hq hc) (b : Below W.heap.size W W') : Rl X t W' nn RR F P q c fq fc hq hc :=
  ⟨fun i hi => owns_below (h.row i hi) b, h.rap, fun j hj => owns_below (h.fre j hj) b, h.fap, fun j hj => owns_below (h.hel j hj) b, h.hap⟩
/-- A row of another kind grows. -/
theorem Rl.grow (h : Rl X t W nn RR F P q c fq fc hq hc) {e s n : Nat} {v : Value} {xs : List Value} (hv : W.ownsRow X e s v n xs) (h1 : e ≠ 5) (h2 : e ≠ 22) (h3 : e ≠ 76) (hg : W.grownBy W' v.ownBlock) : Rl X t W' nn RR F P q c fq fc hq hc :=
  ⟨fun i hi => (h.row i hi).kept hg (kinds_apart (h.row i hi) hv (fun e => h1 e.symm)), h.rap, fun j hj => (h.fre j hj).kept hg (kinds_apart (h.fre j hj) hv (fun e => h2 e.symm)), h.fap, fun j hj => (h.hel j hj).kept hg (kinds_apart (h.hel j hj) hv (fun e => h3 e.symm)), h.hap⟩
theorem Rl.zero (X : Nat) (W : World) (nn : Nat → Nat) (RR : Nat → Nat → Int) (F P : Nat → Int) : Rl X 0 W nn RR F P (fun _ => .none) (fun _ => 0) (fun _ => .none) (fun _ => 0) (fun _ => .none) (fun _ => 0) :=
  ⟨fun i hi => by omega, fun i j hi => by omega, fun j hj => by omega, fun i j hi => by omega, fun j hj => by omega, fun i j hi => by omega⟩
theorem Rl.see (h : Rl X t W nn RR F P q c fq fc hq hc) {i : Nat} (hi : i < 5 * t) : See W .u8 (q i) (nn (i % 5)) (RR (i % 5)) := see_own (h.row i hi)
theorem Rl.seeF (h : Rl X t W nn RR F P q c fq fc hq hc) {j : Nat} (hj : j < t) : See W .u64 (fq j) 3 F := by
  have hr := h.fre j hj
  obtain ⟨g, e, _, hg⟩ := row_shape hr (by omega)
  refine .inr ⟨g, 0, e, hg, fun k hk => ?_⟩
  rw [e] at hr
  rw [Nat.zero_add]
  refine (hr.cellAt k (by omega)).trans ?_
  have : k = 0 ∨ k = 1 ∨ k = 2 := by omega
  rcases this with rfl | rfl | rfl <;> rfl
theorem Rl.seeH (h : Rl X t W nn RR F P q c fq fc hq hc) {j : Nat} (hj : j < t) (n3 : nn 3 = 4096) (n4 : nn 4 = 4096) : SeeH W (hq j) 2 P (fun _ => 4096) (fun k => RR (3 + k)) := by
  have hr := h.hel j hj
  have r3 := h.see (i := 5 * j + 3) (by omega)
  have r4 := h.see (i := 5 * j + 4) (by omega)
  rw [show (5 * j + 3) % 5 = 3 by omega, n3] at r3
  rw [show (5 * j + 4) % 5 = 4 by omega, n4] at r4
  rcases hr.2 with ⟨_, h0⟩ | ⟨g, cap, cur, e, hX, hh, r⟩
  · omega
  · injection e with e _ _
    refine .inr ⟨g, 0, e, (Array.getElem?_eq_some_iff.1 hh).1, fun k hk => ?_⟩
    rw [e] at hr
    rw [Nat.zero_add]
    have : k = 0 ∨ k = 1 := by omega
    rcases this with rfl | rfl
    · exact ⟨hr.cellAt 0 (by omega), _, _, hr.cellAt 1 (by omega), r3⟩
    · exact ⟨hr.cellAt 2 (by omega), _, _, hr.cellAt 3 (by omega), r4⟩
/-- A turn more. -/
theorem Rl.next (h : Rl X t W nn RR F P q c fq fc hq hc) (hXW : X ≤ W.heap.size) {W' : World} (hb : Below W.heap.size W W') {q' : Nat → Option Addr} {c' : Nat → Nat} {fq' : Option Addr} {fc' : Nat} {hq' : Option Addr} {hc' : Nat}
    (hr : ∀ i, i < 5 → W'.ownsRow W.heap.size 5 1 (.slice (q' i) (nn i) (c' i)) (nn i) (rowB (nn i) (RR i))) (ha : Apart 5 (fun i => .slice (q' i) (nn i) (c' i)))
    (hf : W'.ownsRow W.heap.size 22 1 (.slice fq' 3 fc') 3 [.int .u64 (F 0), .int .u64 (F 1), .int .u64 (F 2)])
    (hh : W'.ownsRow W.heap.size 76 2 (.slice hq' 2 hc') 2 [.int .u64 (P 0), .slice (q' 3) 4096 (c' 3), .int .u64 (P 1), .slice (q' 4) 4096 (c' 4)]) :
    Rl X (t + 1) W' nn RR F P (fun i => if i < 5 * t then q i else q' (i - 5 * t)) (fun i => if i < 5 * t then c i else c' (i - 5 * t)) (fun j => if j < t then fq j else fq') (fun j => if j < t then fc j else fc') (fun j => if j < t then hq j else hq') (fun j => if j < t then hc j else hc') := by
  have h' := h.below hb
  have lo : ∀ v : Value, ∀ e s n xs, W.ownsRow X e s v n xs → ∀ g, v.ownBlock = some g → g < W.heap.size := fun v e s n xs ho g hg => (ho.lt g hg).2
  have up : ∀ v : Value, ∀ e s n xs, W'.ownsRow W.heap.size e s v n xs → ∀ g, v.ownBlock = some g → W.heap.size ≤ g := fun v e s n xs ho g hg => (ho.lt g hg).1
  refine ⟨fun i hi => ?_, fun i j hi hj hij => ?_, fun j hj => ?_, fun i j hi hj hij => ?_, fun j hj => ?_, fun i j hi hj hij => ?_⟩
  · by_cases hc : i < 5 * t
    · simp only [if_pos hc]; exact h'.row i hc
    · simp only [if_neg hc]
      have := hr (i - 5 * t) (by omega)
      rw [show i % 5 = i - 5 * t by omega]
      exact ownsRow_base this hXW
  · by_cases hc : i < 5 * t <;> by_cases hd : j < 5 * t
    · simp only [if_pos hc, if_pos hd]; exact h.rap i j hc hd hij
    · simp only [if_pos hc, if_neg hd]
      intro g hg e
      have a := lo _ _ _ _ _ (h.row i hc) g hg
      have b := up _ _ _ _ _ (hr (j - 5 * t) (by omega)) g (by rw [show j % 5 = j - 5 * t by omega] at e; exact e)
      omega
    · simp only [if_neg hc, if_pos hd]
      intro g hg e
      have a := lo _ _ _ _ _ (h.row j hd) g e
      have b := up _ _ _ _ _ (hr (i - 5 * t) (by omega)) g (by rw [show i % 5 = i - 5 * t by omega] at hg; exact hg)
      omega
    · simp only [if_neg hc, if_neg hd]
      intro g hg
      rw [show i % 5 = i - 5 * t by omega] at hg
      rw [show j % 5 = j - 5 * t by omega]
      exact ha (i - 5 * t) (j - 5 * t) (by omega) (by omega) (by omega) g hg
  · by_cases hc : j < t
    · simp only [if_pos hc]; exact h'.fre j hc
    · simp only [if_neg hc]; exact ownsRow_base hf hXW
  · by_cases hc : i < t <;> by_cases hd : j < t
    · simp only [if_pos hc, if_pos hd]; exact h.fap i j hc hd hij
    · simp only [if_pos hc, if_neg hd]
      intro g hg e
      have a := lo _ _ _ _ _ (h.fre i hc) g hg
      have b := up _ _ _ _ _ hf g e
      omega
    · simp only [if_neg hc, if_pos hd]
      intro g hg e
      have a := lo _ _ _ _ _ (h.fre j hd) g e
      have b := up _ _ _ _ _ hf g hg
      omega
    · omega
  · by_cases hc : j < t
    · simp only [if_pos hc, if_pos (show 5 * j + 3 < 5 * t by omega), if_pos (show 5 * j + 4 < 5 * t by omega)]
      exact h'.hel j hc
    · obtain rfl : j = t := by omega
      simp only [if_neg hc, if_neg (show ¬ 5 * j + 3 < 5 * j by omega), if_neg (show ¬ 5 * j + 4 < 5 * j by omega), show 5 * j + 3 - 5 * j = 3 by omega, show 5 * j + 4 - 5 * j = 4 by omega]
      exact ownsRow_base hh hXW
  · by_cases hc : i < t <;> by_cases hd : j < t
    · simp only [if_pos hc, if_pos hd]; exact h.hap i j hc hd hij
    · simp only [if_pos hc, if_neg hd]
      intro g hg e
      have a := lo _ _ _ _ _ (h.hel i hc) g hg
      have b := up _ _ _ _ _ hh g e
      omega
    · simp only [if_neg hc, if_pos hd]
      intro g hg e
      have a := lo _ _ _ _ _ (h.hel j hd) g e
      have b := up _ _ _ _ _ hh g hg
      omega
    · omega
end
end Go.Proofs.Ytbpgdepgplmpnaa
