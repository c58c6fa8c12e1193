import Derived.Test.YtacdgfojdkppmaaGreatDoorRq5
namespace Go.Proofs.YtacdgfojdkppmaaGreatDoor
open Go.RowKit
set_option linter.unusedVariables false
set_option linter.unusedSimpArgs false
/-- What both sides come to. -/
def enO (n : Nat) (B : Nat → Int) (ha hr : Int) : Int := if (rdF n B ha hr).1.2 ≠ 0 then 0 else num B 24 8
def sgO (n : Nat) (B : Nat → Int) (ha hr : Int) : List Sg := if (rdF n B ha hr).1.2 ≠ 0 then [] else (rdF n B ha hr).2
def PO (W : World) (n : Nat) (B : Nat → Int) (ha hr : Int) (e : Ending) (w' : World) : Prop := ∃ q cs E v, e = .returned (.tuple #[.agg #[.int .u64 (enO n B ha hr), .slice q E.length cs], v]) ∧ E.map (·.1) = sgO n B ha hr ∧ Segs w' W.heap.size (.slice q E.length cs) E B ∧ E.length ≤ 8 ∧ (((rdF n B ha hr).1.2 ≠ 0 ∧ FaultIn w' 0 v (rdF n B ha hr).1.1 (rdF n B ha hr).1.2) ∨ ((rdF n B ha hr).1.2 = 0 ∧ v = .nilIface)) ∧ Below W.heap.size W w'
def QO (W : World) (n : Nat) (B : Nat → Int) (ha hr : Int) (e : Ending) (w' : World) : Prop := ∃ q cs E gp gn gc, e = .returned (.tuple #[.agg #[.int .u64 (enO n B ha hr), .slice q E.length cs], .agg #[.slice gp gn gc, .int .i64 (rdF n B ha hr).1.2]]) ∧ E.map (·.1) = sgO n B ha hr ∧ Segs w' W.heap.size (.slice q E.length cs) E B ∧ E.length ≤ 8 ∧ RefR w' (.agg #[.slice gp gn gc, .int .i64 (rdF n B ha hr).1.2]) (rdF n B ha hr).1.1 (rdF n B ha hr).1.2 ∧ Below W.heap.size W w'
theorem segs_nil (w : World) (X : Nat) (B : Nat → Int) : Segs w X (.slice .none 0 0) [] B := ⟨World.ownsRow_nil _ _ _ _, fun x hx => by simp at hx, fun x hx => by simp at hx⟩
theorem readP {W : World} {b o n c : Nat} {B : Nat → Int} (hL : Laid W) (hrow : Row W b o n B) (hbW : b < W.heap.size) (hB : ∀ i, 0 ≤ B i ∧ B i < 256) (hc : n ≤ c ∧ c ≤ 9223372036854775807) (ha hr : Int) (hH : Hd B ha hr) : Calls Tryz.prog 53 #[.slice (some ⟨b, o, .none⟩) n c] W fun e w' => PO W n B ha hr e w' := by
 refine (read_any hL hrow hbW hB hc ha hr hH).mono fun e w' h => ?_
 rcases h with ⟨h1, v, rfl, hf, hb⟩ | ⟨h1, sv, E, rfl, hE, hS, hl, hb⟩
 ·exact ⟨none, 0, [], v, by unfold enO; rw [if_pos h1]; rfl, by unfold sgO; rw [if_pos h1]; rfl, segs_nil _ _ _, by simp, .inl ⟨h1, hf⟩, hb⟩
 ·obtain ⟨q, cs, rfl, _⟩ := own_form hS.own
  exact ⟨q, cs, E, _, by unfold enO; rw [if_neg (by simpa using h1)], by unfold sgO; rw [if_neg (by simpa using h1)]; exact hE, hS, hl, .inr ⟨h1, rfl⟩, hb⟩
theorem readR {W : World} {p : Option Addr} {b o n c : Nat} {B : Nat → Int} (hp : 64 ≤ n → p = some ⟨b, o, .none⟩) (hrow : Row W b o n B) (hB : ∀ i, 0 ≤ B i ∧ B i < 256) (hc : n ≤ c ∧ c ≤ 9223372036854775807) (hn3 : n ≤ 400000) (ha hr : Int) (hH : Hd B ha hr) : Calls Tryz.prog 50 #[.slice p n c] W fun e w' => QO W n B ha hr e w' := by
 refine (readQ_any hp hrow hB hc hn3 ha hr hH).mono fun e w' h => ?_
 rcases h with ⟨h1, g, rfl, hf, hb⟩ | ⟨h1, sv, E, rfl, hE, hS, hl, hb⟩
 ·have hR : RefR w' g (rdF n B ha hr).1.1 (rdF n B ha hr).1.2 := .inl ⟨h1, hf⟩
  obtain ⟨gp, gn, gc, rfl⟩ := hR.form
  exact ⟨none, 0, [], gp, gn, gc, by unfold enO; rw [if_pos h1]; rfl, by unfold sgO; rw [if_pos h1]; rfl, segs_nil _ _ _, by simp, hR, hb⟩
 ·obtain ⟨q, cs, rfl, _⟩ := own_form hS.own
  exact ⟨q, cs, E, none, 0, 0, by unfold enO; rw [if_neg (by simpa using h1), h1], by unfold sgO; rw [if_neg (by simpa using h1)]; exact hE, hS, hl, by rw [h1]; exact .inr ⟨rfl, rfl⟩, hb⟩
theorem hd_ex (B : Nat → Int) : ∃ a r, Hd B a r := by
 by_cases h : ∀ i, i < 12 → chk B i
 ·exact ⟨0, 0, .inl ⟨rfl, rfl, h⟩⟩
 ·have : ∃ i, i < 12 ∧ ¬ chk B i := by
   by_cases h2 : ∃ i, i < 12 ∧ ¬ chk B i
   ·exact h2
   ·exact absurd (fun i hi => by
     by_cases h3 : chk B i
     ·exact h3
     ·exact absurd ⟨i, hi, h3⟩ h2) h
  obtain ⟨m, hm⟩ := this
  have key : ∀ k, (∀ j, j < k → chk B j) ∨ ∃ i, i < k ∧ (∀ j, j < i → chk B j) ∧ ¬ chk B i := by
   intro k
   induction k with
   | zero => exact .inl (fun j hj => by omega)
   | succ k ih =>
    rcases ih with ih | ⟨i, h1, h2, h3⟩
    ·by_cases hk : chk B k
     ·exact .inl (fun j hj => by
       by_cases e : j = k
       ·subst e; exact hk
       ·exact ih j (by omega))
     ·exact .inr ⟨k, by omega, ih, hk⟩
    ·exact .inr ⟨i, by omega, h2, h3⟩
  rcases key 12 with h4 | ⟨i, h1, h2, h3⟩
  ·exact absurd (h4 m hm.1) hm.2
  ·exact ⟨hOf i, if i < 4 then 141 else 142, .inr ⟨i, h1, h2, h3, rfl, rfl⟩⟩
theorem Segs.low {w : World} {X : Nat} {sv : Value} {E : List (Sg × Value)} {B : Nat → Int} (h : Segs w X sv E B) {a : Addr} (ha : a.block < X) (v : Value) : Segs (w.setCell a v) X sv E B :=
 ⟨ownsRow_setCell_below h.own ha v, fun x hx => ownsRow_setCell_below (h.dat x hx) ha v, h.gd⟩
set_option linter.unusedVariables false
set_option linter.unusedSimpArgs false
theorem lent_row {w : World} {X g c : Nat} {xs : List Int} (h : Lent w X g c xs) : Row w g 0 xs.length (fun i => xs.getD i 0) := by
 intro i hi
 have e : (by8 (xs ++ marks))[i]? = some (.int .u8 (xs.getD i 0)) := by
  simp only [by8, List.getElem?_map]
  rw [List.getElem?_append_left hi, List.getD_eq_getElem?_getD, List.getElem?_eq_getElem hi]
  rfl
 obtain ⟨g', e', c'⟩ := own_cell h e (by omega) (by omega)
 injection e' with e'
 injection e' with e'
 subst e'
 rw [Nat.zero_add]
 exact c'
theorem byt_row {w : World} {p : Option Addr} {n c : Nat} {xs : List Int} (h : Byt w p n c xs) : ∃ b o, Row w b o n (fun i => xs.getD i 0) ∧ (0 < n → p = some ⟨b, o, .none⟩) := by
 obtain ⟨h1, h2, h3, h4⟩ := h
 rcases h4 with h4 | ⟨b, o, h5, h6, h7⟩
 ·exact ⟨0, 0, fun i hi => by omega, fun hn => by omega⟩
 ·refine ⟨b, o, fun i hi => h7 i _ ?_, fun _ => h5⟩
  show xs[i]? = some (xs.getD i 0)
  rw [List.getD_eq_getElem?_getD, List.getElem?_eq_getElem (by omega)]
  rfl
theorem own_row {w : World} {X d c : Nat} {xs : List Int} (h : w.ownsRow X 5 1 (.slice (some ⟨d, 0, .none⟩) xs.length c) xs.length (by8 xs)) : Row w d 0 xs.length (fun i => xs.getD i 0) := by
 intro i hi
 have e : (by8 xs)[i]? = some (.int .u8 (xs.getD i 0)) := by
  simp only [by8, List.getElem?_map]
  rw [List.getD_eq_getElem?_getD, List.getElem?_eq_getElem hi]
  rfl
 obtain ⟨g', e', c'⟩ := own_cell h e (by omega) (by omega)
 injection e' with e'
 injection e' with e'
 subst e'
 rw [Nat.zero_add]
 exact c'
end Go.Proofs.YtacdgfojdkppmaaGreatDoor
