import Derived.Test.YtlknafmohonodaaDoorRq5
import Derived.Test.YtlknafmohonodaaDoorRq6
namespace Go.Proofs.YtlknafmohonodaaDoor
open Go.RowKit
set_option linter.unusedVariables false
set_option linter.unusedSimpArgs false
/-- What both sides come to. -/
def enO (n : Nat) (B : Nat → Int) (ha hr : Int) : Int := if (rdF n B ha hr).1.2 ≠ 0 then 0 else num B 24 8
def sgO (n : Nat) (B : Nat → Int) (ha hr : Int) : List Sg := if (rdF n B ha hr).1.2 ≠ 0 then [] else (rdF n B ha hr).2
def PO (W : World) (n : Nat) (B : Nat → Int) (ha hr : Int) (e : Ending) (w' : World) : Prop := ∃ q cs E v, e = .returned (.tuple #[.agg #[.int .u64 (enO n B ha hr), .slice q E.length cs], v]) ∧ E.map (·.1) = sgO n B ha hr ∧ Segs w' W.heap.size (.slice q E.length cs) E B ∧ E.length ≤ 8 ∧ (((rdF n B ha hr).1.2 ≠ 0 ∧ FaultIn w' 0 v (rdF n B ha hr).1.1 (rdF n B ha hr).1.2) ∨ ((rdF n B ha hr).1.2 = 0 ∧ v = .nilIface)) ∧ Below W.heap.size W w'
def QO (W : World) (n : Nat) (B : Nat → Int) (ha hr : Int) (e : Ending) (w' : World) : Prop := ∃ q cs E gp gn gc, e = .returned (.tuple #[.agg #[.int .u64 (enO n B ha hr), .slice q E.length cs], .agg #[.slice gp gn gc, .int .i64 (rdF n B ha hr).1.2]]) ∧ E.map (·.1) = sgO n B ha hr ∧ Segs w' W.heap.size (.slice q E.length cs) E B ∧ E.length ≤ 8 ∧ RefR w' (.agg #[.slice gp gn gc, .int .i64 (rdF n B ha hr).1.2]) (rdF n B ha hr).1.1 (rdF n B ha hr).1.2 ∧ Below W.heap.size W w'
theorem segs_nil (w : World) (X : Nat) (B : Nat → Int) : Segs w X (.slice .none 0 0) [] B := ⟨World.ownsRow_nil _ _ _ _, fun x hx => by simp at hx, fun x hx => by simp at hx⟩
theorem readP {W : World} {b o n c : Nat} {B : Nat → Int} (hL : Laid W) (hrow : Row W b o n B) (hbW : b < W.heap.size) (hB : ∀ i, 0 ≤ B i ∧ B i < 256) (hc : n ≤ c ∧ c ≤ 9223372036854775807) (ha hr : Int) (hH : Hd B ha hr) : Calls Tryd.prog 5 #[.slice (some ⟨b, o, .none⟩) n c] W fun e w' => PO W n B ha hr e w' := by
  refine (read_any hL hrow hbW hB hc ha hr hH).mono fun e w' h => ?_
  rcases h with ⟨h1, v, rfl, hf, hb⟩ | ⟨h1, sv, E, rfl, hE, hS, hl, hb⟩
  · exact ⟨none, 0, [], v, by unfold enO; rw [if_pos h1]; rfl, by unfold sgO; rw [if_pos h1]; rfl, segs_nil _ _ _, by simp, .inl ⟨h1, hf⟩, hb⟩
  · obtain ⟨q, cs, rfl, _⟩ := own_form hS.own
    exact ⟨q, cs, E, _, by unfold enO; rw [if_neg (by simpa using h1)], by unfold sgO; rw [if_neg (by simpa using h1)]; exact hE, hS, hl, .inr ⟨h1, rfl⟩, hb⟩
theorem readR {W : World} {p : Option Addr} {b o n c : Nat} {B : Nat → Int} (hp : 64 ≤ n → p = some ⟨b, o, .none⟩) (hrow : Row W b o n B) (hB : ∀ i, 0 ≤ B i ∧ B i < 256) (hc : n ≤ c ∧ c ≤ 9223372036854775807) (hn3 : n ≤ 400000) (ha hr : Int) (hH : Hd B ha hr) : Calls Tryd.prog 6 #[.slice p n c] W fun e w' => QO W n B ha hr e w' := by
  refine (readQ_any hp hrow hB hc hn3 ha hr hH).mono fun e w' h => ?_
  rcases h with ⟨h1, g, rfl, hf, hb⟩ | ⟨h1, sv, E, rfl, hE, hS, hl, hb⟩
  · have hR : RefR w' g (rdF n B ha hr).1.1 (rdF n B ha hr).1.2 := .inl ⟨h1, hf⟩
    obtain ⟨gp, gn, gc, rfl⟩ := hR.form
    exact ⟨none, 0, [], gp, gn, gc, by unfold enO; rw [if_pos h1]; rfl, by unfold sgO; rw [if_pos h1]; rfl, segs_nil _ _ _, by simp, hR, hb⟩
  · obtain ⟨q, cs, rfl, _⟩ := own_form hS.own
    exact ⟨q, cs, E, none, 0, 0, by unfold enO; rw [if_neg (by simpa using h1), h1], by unfold sgO; rw [if_neg (by simpa using h1)]; exact hE, hS, hl, by rw [h1]; exact .inr ⟨rfl, rfl⟩, hb⟩
theorem hd_ex (B : Nat → Int) : ∃ a r, Hd B a r := by
  by_cases h : ∀ i, i < 12 → chk B i
  · exact ⟨0, 0, .inl ⟨rfl, rfl, h⟩⟩
  · have : ∃ i, i < 12 ∧ ¬ chk B i := by
      by_cases h2 : ∃ i, i < 12 ∧ ¬ chk B i
      · exact h2
      · exact absurd (fun i hi => by
          by_cases h3 : chk B i
          · exact h3
          · exact absurd ⟨i, hi, h3⟩ h2) h
    obtain ⟨m, hm⟩ := this
    have key : ∀ k, (∀ j, j < k → chk B j) ∨ ∃ i, i < k ∧ (∀ j, j < i → chk B j) ∧ ¬ chk B i := by
      intro k
      induction k with
      | zero => exact .inl (fun j hj => by omega)
      | succ k ih =>
        rcases ih with ih | ⟨i, h1, h2, h3⟩
        · by_cases hk : chk B k
          · exact .inl (fun j hj => by
              by_cases e : j = k
              · subst e; exact hk
              · exact ih j (by omega))
          · exact .inr ⟨k, by omega, ih, hk⟩
        · exact .inr ⟨i, by omega, h2, h3⟩
    rcases key 12 with h4 | ⟨i, h1, h2, h3⟩
    · exact absurd (h4 m hm.1) hm.2
    · exact ⟨hOf i, if i < 4 then 141 else 142, .inr ⟨i, h1, h2, h3, rfl, rfl⟩⟩
theorem Segs.low {w : World} {X : Nat} {sv : Value} {E : List (Sg × Value)} {B : Nat → Int} (h : Segs w X sv E B) {a : Addr} (ha : a.block < X) (v : Value) : Segs (w.setCell a v) X sv E B :=
  ⟨ownsRow_setCell_below h.own ha v, fun x hx => ownsRow_setCell_below (h.dat x hx) ha v, h.gd⟩
/-- The last byte turned. -/
def fl255 (n : Nat) (B : Nat → Int) : Nat → Int := fun i => if i = n - 1 then bits .xor .u8 (B i) 255 else B i
theorem Row.turn {w : World} {b o n : Nat} {B : Nat → Int} (h : Row w b o n B) (hn : 0 < n) : Row (w.setCell ⟨b, o + (n - 1), .none⟩ (.int .u8 (bits .xor .u8 (B (n - 1)) 255))) b o n (fl255 n B) := by
  intro i hi
  unfold fl255
  by_cases e : i = n - 1
  · subst e
    rw [if_pos rfl]
    exact World.cell?_setCell_same' _ _ _ (by rw [h _ (by omega)]; rfl)
  · rw [if_neg e, World.cell?_setCell_other _ _ _ _ (by simp only [ne_eq, Addr.mk.injEq, and_true, not_and]; omega)]
    exact h i hi
theorem xor_b (x : Int) : 0 ≤ bits .xor .u8 x 255 ∧ bits .xor .u8 x 255 < 256 := by
  have h := bits_within .xor .u8 x 255
  have e1 : IntKind.u8.min = 0 := rfl
  have e2 : IntKind.u8.max = 255 := rfl
  rw [e1, e2] at h
  omega
end Go.Proofs.YtlknafmohonodaaDoor
