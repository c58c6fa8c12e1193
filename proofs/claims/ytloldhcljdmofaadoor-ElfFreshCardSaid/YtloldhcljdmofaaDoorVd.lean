import Derived.Test.YtloldhcljdmofaaDoorPm1
import Derived.Test.YtloldhcljdmofaaDoorWq1
namespace Go.Proofs.YtloldhcljdmofaaDoor
open Go.RowKit
set_option linter.unusedVariables false
set_option linter.unusedSimpArgs false
/-- What is wrong with a program: where, and the number. -/
def Vd (en : Int) (S : List Sg) (a r : Int) : Prop :=
  ((S.length = 0 ∨ 8 < S.length) ∧ a = 0 ∧ r = 143) ∨
  (0 < S.length ∧ S.length ≤ 8 ∧ ((∃ i s, S[i]? = some s ∧ Gk S i ∧ ((okS s = false ∧ a = 1 + i ∧ r = 144) ∨ (okS s = true ∧ ris (S.take i) s.va = false ∧ a = 1 + i ∧ r = 145))) ∨ (Gk S S.length ∧ hasE S en = false ∧ a = 0 ∧ r = 146) ∨ (Gk S S.length ∧ hasE S en = true ∧ a = 0 ∧ r = 0)))
theorem gk_bad {S : List Sg} {i k : Nat} {s : Sg} (h : Gk S k) (hi : i < k) (hs : S[i]? = some s) : okS s = true ∧ ris (S.take i) s.va = true := h i s hi hs
theorem vd_one {en : Int} {S : List Sg} {a r a' r' : Int} (h : Vd en S a r) (h' : Vd en S a' r') : a = a' ∧ r = r' := by
  rcases h with ⟨hl, rfl, rfl⟩ | ⟨hl, h8, h⟩
  · rcases h' with ⟨_, rfl, rfl⟩ | ⟨hl', h8', hx⟩
    · exact ⟨rfl, rfl⟩
    · clear hx
      omega
  · rcases h' with ⟨hl', rfl, rfl⟩ | ⟨hl', h8', h'⟩
    · clear h
      omega
    · have key : ∀ {i s}, S[i]? = some s → (okS s = false ∨ ris (S.take i) s.va = false) → ∀ {k}, Gk S k → k ≤ i := by
        intro i s hs hb k hk
        rcases Nat.lt_or_ge i k with hlt | hge
        · have := hk i s hlt hs
          rcases hb with hb | hb
          · rw [hb] at this; cases this.1
          · rw [hb] at this; cases this.2
        · exact hge
      rcases h with ⟨i, s, hs, hk, hc⟩ | ⟨hk, he, rfl, rfl⟩ | ⟨hk, he, rfl, rfl⟩
      · have hb : okS s = false ∨ ris (S.take i) s.va = false := by
          rcases hc with ⟨h1, _⟩ | ⟨_, h1, _⟩
          · exact .inl h1
          · exact .inr h1
        have hil := (List.getElem?_eq_some_iff.1 hs).1
        rcases h' with ⟨j, t, ht, hk', hc'⟩ | ⟨hk', _⟩ | ⟨hk', _⟩
        · have hb' : okS t = false ∨ ris (S.take j) t.va = false := by
            rcases hc' with ⟨h1, _⟩ | ⟨_, h1, _⟩
            · exact .inl h1
            · exact .inr h1
          have e1 := key hs hb hk'
          have e2 := key ht hb' hk
          have : i = j := by omega
          subst this
          rw [hs] at ht
          injection ht with ht
          subst ht
          rcases hc with ⟨c1, rfl, rfl⟩ | ⟨c1, c2, rfl, rfl⟩ <;> rcases hc' with ⟨d1, rfl, rfl⟩ | ⟨d1, d2, rfl, rfl⟩
          · exact ⟨rfl, rfl⟩
          · rw [c1] at d1; cases d1
          · rw [c1] at d1; cases d1
          · exact ⟨rfl, rfl⟩
        · have := key hs hb hk'; omega
        · have := key hs hb hk'; omega
      all_goals
        rcases h' with ⟨j, t, ht, hk', hc'⟩ | ⟨hk', he', rfl, rfl⟩ | ⟨hk', he', rfl, rfl⟩
        · have hb' : okS t = false ∨ ris (S.take j) t.va = false := by
            rcases hc' with ⟨h1, _⟩ | ⟨_, h1, _⟩
            · exact .inl h1
            · exact .inr h1
          have hjl := (List.getElem?_eq_some_iff.1 ht).1
          have := key ht hb' hk
          omega
        · first | exact ⟨rfl, rfl⟩ | (rw [he] at he'; cases he')
        · first | exact ⟨rfl, rfl⟩ | (rw [he] at he'; cases he')
theorem vd_good {en : Int} {S : List Sg} {a r : Int} (h : Vd en S a r) : r = 0 ↔ Good en S := by
  rcases h with ⟨hl, rfl, rfl⟩ | ⟨hl, h8, h⟩
  · exact ⟨fun e => (by cases e), fun hg => by have := hg.1; have := hg.2.1; omega⟩
  · rcases h with ⟨i, s, hs, hk, hc⟩ | ⟨hk, he, rfl, rfl⟩ | ⟨hk, he, rfl, rfl⟩
    · have hil := (List.getElem?_eq_some_iff.1 hs).1
      rcases hc with ⟨h1, rfl, rfl⟩ | ⟨h0, h1, rfl, rfl⟩
      · exact ⟨fun e => (by cases e), fun hg => by have := (hg.2.2.1 i s hil hs).1; rw [h1] at this; cases this⟩
      · exact ⟨fun e => (by cases e), fun hg => by have := (hg.2.2.1 i s hil hs).2; rw [h1] at this; cases this⟩
    · exact ⟨fun e => (by cases e), fun hg => by have := hg.2.2.2; rw [he] at this; cases this⟩
    · exact ⟨fun _ => ⟨hl, h8, hk, he⟩, fun _ => rfl⟩
def headL (en : Int) (m : Nat) : List Int := [127, 69, 76, 70, 2, 1, 1, 0, 0, 0, 0, 0, 0, 0, 0, 0] ++ nums 2 2 ++ nums 243 2 ++ nums 1 4 ++ nums en 8 ++ nums 64 8 ++ nums 0 12 ++ nums 64 2 ++ nums 56 2 ++ nums m 2 ++ nums 0 6
def segL (s : Sg) : List Int := nums 1 4 ++ nums s.fl 4 ++ nums s.wh 8 ++ nums s.va 8 ++ nums s.va 8 ++ nums s.sz 8 ++ nums s.mem 8 ++ nums 4096 8
theorem headL_eq (en : Int) (m : Nat) : headL en m = (List.range 64).map (headB en m) := by rfl
theorem segL_eq (s : Sg) : segL s = (List.range 56).map (segB s.va s.fl s.mem s.wh s.sz) := by rfl
end Go.Proofs.YtloldhcljdmofaaDoor
