import Derived.Test.YtejongfipfefpaaBook
import Derived.Laws.AppendOwn
namespace Go.Proofs.Ytejongfipfefpaa
open Go.RowKit
set_option linter.unusedVariables false
set_option linter.unusedSimpArgs false
structure Full (B : Nat → Int) (x : Ent) : Prop where
  a0 : 0 ≤ x.2.1
  a1 : x.2.1 < 4096
  a8 : x.2.1 % 8 = 0
  v0 : 0 ≤ x.2.2 ∧ x.2.2 < 18446744073709551616
  at_ : ∀ k, k < 8 → B (x.1 * 4096 + x.2.1.toNat + k) = x.2.2 / 256 ^ k % 256
  ze : ∀ k, k < 4096 → (k < x.2.1.toNat ∨ x.2.1.toNat + 8 ≤ k) → B (x.1 * 4096 + k) = 0
theorem num_zero (o : Nat) : ∀ n, num (fun _ => 0) o n = 0
  | 0 => rfl
  | n + 1 => by simp only [num, num_zero o n]; omega
theorem Full.kp {B : Nat → Int} {x : Ent} (h : Full B x) : Kp B x := by
  have e0 := h.a0
  have e1 := h.a1
  have e8 := h.a8
  refine ⟨h.a0, h.a1, h.a8, h.v0, num_jb B _ _ h.v0 h.at_, ?_⟩
  rw [num_congr B (fun _ => 0) _ 8 (fun k hk => ?_), num_zero]
  have := h.ze (((x.2.1 + 8) % 4096).toNat + k) (by omega) (by omega)
  rw [← Nat.add_assoc] at this
  exact this
theorem Full.congr {B B' : Nat → Int} {x : Ent} (h : Full B x) (e : ∀ k, k < 4096 → B' (x.1 * 4096 + k) = B (x.1 * 4096 + k)) : Full B' x := by
  have e0 := h.a0
  have e1 := h.a1
  have e8 := h.a8
  refine ⟨h.a0, h.a1, h.a8, h.v0, fun k hk => ?_, fun k hk hz => (e k hk).trans (h.ze k hk hz)⟩
  have := e (x.2.1.toNat + k) (by omega)
  rw [← Nat.add_assoc] at this
  exact this.trans (h.at_ k hk)
/-- A number is laid where nothing else was. -/
theorem Full.lay {B : Nat → Int} (i : Nat) (T v : Int) (hT : 0 ≤ T) (hT1 : T < 4096) (hT8 : T % 8 = 0) (hv : 0 ≤ v ∧ v < 18446744073709551616) (hz : ∀ k, k < 4096 → (k < T.toNat ∨ T.toNat + 8 ≤ k) → B (i * 4096 + k) = 0) :
    Full (over B (i * 4096 + T.toNat) (le v 8)) (i, T, v) := by
  refine ⟨hT, hT1, hT8, hv, fun k hk => over_le _ _ _ 8 k hk, fun k hk hz' => ?_⟩
  show over B (i * 4096 + T.toNat) (le v 8) (i * 4096 + k) = 0
  rw [over_out _ _ _ _ (by rw [le_len]; simp only at hz'; omega)]
  exact hz k hk hz'
theorem over_other (B : Nat → Int) (i j : Nat) (T : Nat) (v : Int) (hT : T + 8 ≤ 4096) (hij : j ≠ i) (k : Nat) (hk : k < 4096) : over B (i * 4096 + T) (le v 8) (j * 4096 + k) = B (j * 4096 + k) :=
  over_out _ _ _ _ (by rw [le_len]; omega)
/-- The book's cells. -/
def flat : List Ent → List Value
  | [] => []
  | x :: l => .int .u64 (pa x) :: .int .u64 x.2.1 :: .int .u64 x.2.2 :: flat l
theorem flat_len : ∀ l : List Ent, (flat l).length = l.length * 3
  | [] => rfl
  | x :: l => by simp only [flat, List.length_cons, flat_len l]; omega
theorem flat_append : ∀ (l : List Ent) (x : Ent), flat (l ++ [x]) = flat l ++ [.int .u64 (pa x), .int .u64 x.2.1, .int .u64 x.2.2]
  | [], x => rfl
  | y :: l, x => by simp only [List.cons_append, flat, flat_append l x]
theorem flat_get : ∀ (l : List Ent) (i : Nat) (h : i < l.length), (flat l)[i * 3]? = some (.int .u64 (pa l[i])) ∧ (flat l)[i * 3 + 1]? = some (.int .u64 l[i].2.1) ∧ (flat l)[i * 3 + 2]? = some (.int .u64 l[i].2.2)
  | x :: l, 0, _ => ⟨rfl, rfl, rfl⟩
  | x :: l, i + 1, h => by
    have := flat_get l i (by simpa using h)
    simp only [flat, List.getElem_cons_succ]
    rw [show (i + 1) * 3 = i * 3 + 1 + 1 + 1 by omega, show i * 3 + 1 + 1 + 1 + 1 = i * 3 + 1 + 1 + 1 + 1 from rfl, show i * 3 + 1 + 1 + 1 + 2 = i * 3 + 2 + 1 + 1 + 1 by omega]
    simp only [List.getElem?_cons_succ]
    exact this
theorem flat_set : ∀ (l : List Ent) (k : Nat) (x : Ent) (h : k < l.length), (((flat l).set (k * 3) (.int .u64 (pa x))).set (k * 3 + 1) (.int .u64 x.2.1)).set (k * 3 + 2) (.int .u64 x.2.2) = flat (l.set k x)
  | y :: l, 0, x, _ => rfl
  | y :: l, k + 1, x, h => by
    have := flat_set l k x (by simpa using h)
    rw [show (k + 1) * 3 = k * 3 + 1 + 1 + 1 by omega, show k * 3 + 1 + 1 + 1 + 2 = k * 3 + 2 + 1 + 1 + 1 by omega]
    simp only [flat, List.set_cons_succ]
    rw [this]
theorem flat_set2 (l : List Ent) (k : Nat) (x : Ent) (h : k < l.length) (h0 : x.1 = l[k].1) (h1 : x.2.1 = l[k].2.1) : (flat l).set (k * 3 + 2) (.int .u64 x.2.2) = flat (l.set k x) := by
  rw [← flat_set l k x h]
  have g := flat_get l k h
  have hp : pa x = pa l[k] := by unfold pa; rw [h0]
  have hl := flat_len l
  have e0 : (flat l).set (k * 3) (.int .u64 (pa x)) = flat l := by
    apply List.ext_getElem?
    intro j
    rw [List.getElem?_set]
    split
    · rename_i e
      subst e
      rw [hp]
      split
      · exact g.1.symm
      · omega
    · rfl
  have e1 : (flat l).set (k * 3 + 1) (.int .u64 x.2.1) = flat l := by
    apply List.ext_getElem?
    intro j
    rw [List.getElem?_set]
    split
    · rename_i e
      subst e
      rw [h1]
      split
      · exact g.2.1.symm
      · omega
    · rfl
  rw [e0, e1]
theorem flat_take : ∀ (l : List Ent) (n : Nat), (flat l).take (n * 3) = flat (l.take n)
  | [], n => by simp [flat]
  | x :: l, 0 => by simp [flat]
  | x :: l, n + 1 => by
    rw [show (n + 1) * 3 = n * 3 + 1 + 1 + 1 by omega]
    simp only [flat, List.take_succ_cons, flat_take l n]
section
variable {w w' : World} {p b m N X : Nat} {B : Nat → Int} {L : List Nat}
theorem owns_fra {e s n : Nat} {v : Value} {xs : List Value} (h : w.ownsRow X e s v n xs) (F : Fra p b m w w') (h1 : p < X) (h2 : b < X) (h3 : m < X) : w'.ownsRow X e s v n xs := by
  refine ⟨h.1, ?_⟩
  rcases h.2 with h0 | ⟨g, cap, cur, hv, hg, hh, r⟩
  · exact .inl h0
  · exact .inr ⟨g, cap, cur, hv, hg, (F.block g (Array.getElem?_eq_some_iff.1 hh).1 (by omega) (by omega) (by omega)).trans hh, r⟩
theorem owns_below {e s n : Nat} {v : Value} {xs : List Value} (h : w.ownsRow X e s v n xs) (k : Below w.heap.size w w') : w'.ownsRow X e s v n xs :=
  h.kept (row := none) ⟨k.os, k.tape, k.output, k.size, fun b hb _ => k.block b hb⟩ (by cases v.ownBlock <;> simp)
theorem Mem.grown {nx : Int} {hd : Int → Bool} {cnt : Nat} (h : Mem w p b m N B nx hd cnt) {row : Option Nat} (g : w.grownBy w' row) (hr : ∀ k, row = some k → X ≤ k) (h1 : p < X) (h2 : b < X) (h3 : m < X) : Mem w' p b m N B nx hd cnt :=
  h.keep (g.block _ h.plt (fun e => by have := hr _ e.symm; omega)) (g.block _ h.blt (fun e => by have := hr _ e.symm; omega)) (g.block _ h.mlt (fun e => by have := hr _ e.symm; omega))
theorem Ram.mem' (h : Ram w p b m N B L) (hm : Mem w' p b m N B (adr L) (hdL N L) (N - L.length)) : Ram w' p b m N B L := ⟨hm, h.nd, h.lt, h.thr⟩
theorem Ram.laid (h : Ram w p b m N B L) {o : Nat} {vs : List Int} (hm : Mem w' p b m N (over B o vs) (adr L) (hdL N L) (N - L.length)) (hf : ∀ j ∈ L, o + vs.length ≤ j * 4096 ∨ j * 4096 + 4096 ≤ o) : Ram w' p b m N (over B o vs) L :=
  ⟨hm, h.nd, h.lt, h.thr.congr (fun j hj k hk => over_out _ _ _ _ (by have := hf j hj; omega))⟩
theorem hasM_of {q : Option Addr} {c : Nat} {l : List Ent} (h : w.ownsRow X 52 3 (.slice q l.length c) l.length (flat l)) : HasM w q l := by
  rcases h.2 with ⟨_, h0⟩ | ⟨g, cap, cur, hv, hg, hh, hn, hc, hs, ht⟩
  · exact .inl h0
  · injection hv with e1 e2 e3
    subst e1
    have key : ∀ j v, (flat l)[j]? = some v → w.cell? ⟨g, j, .none⟩ = some v := fun j v hj => by
      have hjl : j < l.length * 3 := by
        have := (List.getElem?_eq_some_iff.1 hj).1
        rw [flat_len] at this
        exact this
      simp only [World.cell?, hh]
      rw [← ht, List.getElem?_take_of_lt hjl] at hj
      rw [← Array.getElem?_toList]
      simpa using hj
    exact .inr ⟨g, rfl, (Array.getElem?_eq_some_iff.1 hh).1, fun i h => key _ _ (flat_get l i h).1, fun i h => key _ _ (flat_get l i h).2.1, fun i h => key _ _ (flat_get l i h).2.2⟩
/-- A shorter row. -/
theorem owns_cut {e s n c k : Nat} {g : Nat} {xs : List Value} (h : w.ownsRow X e s (.slice (some ⟨g, 0, .none⟩) n c) n xs) (hk : k ≤ n) : w.ownsRow X e s (.slice (some ⟨g, 0, .none⟩) k c) k (xs.take (k * s)) := by
  rcases h.2 with ⟨h0, _⟩ | ⟨g', cap, cur, hv, hg, hh, hn, hc, hs, ht⟩
  · cases h0
  · injection hv with e1 e2 e3
    injection e1 with e1
    injection e1 with e1
    subst e1 e3
    have hks : k * s ≤ n * s := Nat.mul_le_mul_right s hk
    refine ⟨by rw [List.length_take, h.1]; omega, .inr ⟨g, c, cur, rfl, hg, hh, by omega, hc, hs, ?_⟩⟩
    rw [← ht, List.take_take, Nat.min_eq_left hks]
/-- A cell of a row is written. -/
theorem owns_set {e s n c j : Nat} {g : Nat} {xs : List Value} {v : Value} (h : w.ownsRow X e s (.slice (some ⟨g, 0, .none⟩) n c) n xs) (hj : j < n * s) : (w.setCell ⟨g, j, .none⟩ v).ownsRow X e s (.slice (some ⟨g, 0, .none⟩) n c) n (xs.set j v) := by
  rcases h.2 with ⟨h0, _⟩ | ⟨g', cap, cur, hv, hg, hh, hn, hc, hs, ht⟩
  · cases h0
  · injection hv with e1 e2 e3
    injection e1 with e1
    injection e1 with e1
    subst e1 e3
    refine ⟨by rw [List.length_set]; exact h.1, .inr ⟨g, c, cur.setIfInBounds j v, rfl, hg, ?_, hn, hc, by simpa using hs, ?_⟩⟩
    · rw [setCell_eq_setRow w g j cur e (0, 0) v hh]
      exact setRow_heap w g cur _ e _ hh
    · rw [Array.toList_setIfInBounds, List.take_set, ht]
end
end Go.Proofs.Ytejongfipfefpaa
