import Derived.Test.YtpdlcjcigeegjaaDoorAg2
namespace Go.Proofs.YtpdlcjcigeegjaaDoor
open Go.RowKit
set_option linter.unusedVariables false
set_option linter.unusedSimpArgs false
/-- A file that was written lies in a row. -/
structure FilB (W : World) (g T cp : Nat) (en : Int) (S : List Sg) (B : Nat → Int) : Prop where
  row : Row W g 0 T (fil en S B)
  cap : T ≤ cp ∧ cp ≤ 9223372036854775807
  lt : g < W.heap.size
  good : Good en S
  plc : Plc S
  len : T = 64 + 56 * S.length + szs S S.length
  le : T ≤ 262144
  va : ∀ s ∈ S, 0 ≤ s.va
  bd : ∀ k, 0 ≤ B k ∧ B k < 256
  en : 0 ≤ en ∧ en < 18446744073709551616
theorem reread {W : World} {g T cp : Nat} {en : Int} {S : List Sg} {B : Nat → Int} (h : FilB W g T cp en S B) (hL : Laid W) :
    Calls Tryd.prog 7 #[.slice (some ⟨g, 0, .none⟩) T cp] W fun e w' => ∃ q c E, e = .returned (.tuple #[.agg #[.int .u64 en, .slice q E.length c], .nilIface]) ∧ E.map (·.1) = S ∧ Segs w' W.heap.size (.slice q E.length c) E (fil en S B) ∧ E.length ≤ 8 ∧ Below W.heap.size W w' := by
  have hrd := rdF_fil (B := B) (T := T) h.en h.good h.plc h.len h.le h.va
  have c7 := read_any hL h.row h.lt (fil_bd en S B h.bd) h.cap 0 0 hd_fil
  rw [hrd, num_en h.en] at c7
  refine c7.mono fun e w' hh => ?_
  rcases hh with ⟨hno, _⟩ | ⟨_, sv, E, rfl, hE, hS, hl, hb⟩
  · exact absurd rfl hno
  · obtain ⟨q, c, rfl, _⟩ := own_form hS.own
    exact ⟨q, c, E, rfl, hE, hS, hl, hb⟩
theorem wrote {W0 W : World} {v : Value} {T : Nat} {en : Int} {S : List Sg} {B : Nat → Int} (own : W.ownsRow W0.heap.size 5 1 v T (lst (fil en S B) T)) (hg : Good en S) (hp : Plc S) (hT : T = 64 + 56 * S.length + szs S S.length) (hT2 : T ≤ 262144) (hv : ∀ s ∈ S, 0 ≤ s.va) (hB : ∀ k, 0 ≤ B k ∧ B k < 256) (he : 0 ≤ en ∧ en < 18446744073709551616) : ∃ g cp, v = .slice (some ⟨g, 0, .none⟩) T cp ∧ FilB W g T cp en S B := by
  obtain ⟨g, cp, rfl⟩ := own_slice own (by omega)
  exact ⟨g, cp, rfl, own_row own, own_cap own, own_lt own, hg, hp, hT, hT2, hv, hB, he⟩
theorem smB_bd : ∀ k, 0 ≤ smB k ∧ smB k < 256 := fun k => by
  simp only [smB]
  split <;> exact ⟨by decide, by decide⟩
theorem sm_va : ∀ s ∈ [smS], 0 ≤ s.va := fun s hs => by
  rw [List.mem_singleton] at hs
  subst hs
  decide
/-- Rows that show the same are the same. -/
theorem same_two {w : World} {X1 X2 c1 c2 : Nat} {q1 q2 : Option Addr} {E1 E2 : List (Sg × Value)} {B1 B2 : Nat → Int} (h1 : Segs w X1 (.slice q1 E1.length c1) E1 B1) (h2 : Prs w X2 (.slice q2 E2.length c2) E2 B2) (hB : ∀ k, 0 ≤ B2 k ∧ B2 k < 256) (hl : E1.length ≤ 8) (hn : E2.length = E1.length)
    (he : ∀ (i : Nat) (x y : Sg × Value), E1[i]? = some x → E2[i]? = some y → y.1.va = x.1.va ∧ y.1.fl = x.1.fl ∧ y.1.mem = x.1.mem ∧ y.1.sz = x.1.sz ∧ byt B2 y.1 = byt B1 x.1) (en : Int) :
    Calls Tryd.prog 8 #[.agg #[.int .u64 en, .slice q1 E1.length c1], .agg #[.int .u64 en, .slice q2 E2.length c2]] w fun e w' => e = .returned (.bool true) ∧ Below w.heap.size w w' := by
  have hA := h2.arg hB
  rw [hn] at hA ⊢
  refine sameA_any h1 hA (fun i x hx => ?_) hl en
  have hi := (List.getElem?_eq_some_iff.1 hx).1
  obtain ⟨y, hy⟩ : ∃ y, E2[i]? = some y := ⟨E2[i]'(by omega), List.getElem?_eq_getElem (by omega)⟩
  obtain ⟨f1, f2, f3, f4, f5⟩ := he i x y hx hy
  obtain ⟨r1, r2, r3, r4⟩ := h2.sr hy
  exact ⟨by rw [r1, f1], by rw [r2, f2], by rw [r3, f3], by rw [r4, f4], by rw [datD_some hy, f5]⟩
theorem same_small {w : World} {X1 X2 c1 : Nat} {q1 q2 : Option Addr} {E1 : List (Sg × Value)} {v : Value} {c2 : Nat} (h1 : Segs w X1 (.slice q1 E1.length c1) E1 (fil 0 [smS] smB)) (hE : E1.map (·.1) = [smS]) (h2 : Prs w X2 (.slice q2 1 c2) [(smS, v)] smB) :
    Calls Tryd.prog 8 #[.agg #[.int .u64 0, .slice q1 E1.length c1], .agg #[.int .u64 0, .slice q2 1 c2]] w fun e w' => e = .returned (.bool true) ∧ Below w.heap.size w w' := by
  have hl : E1.length = 1 := by have := congrArg List.length hE; simpa using this
  refine same_two (E2 := [(smS, v)]) h1 h2 smB_bd (by omega) hl.symm (fun i x y hx hy => ?_) 0
  have hi := (List.getElem?_eq_some_iff.1 hx).1
  have : i = 0 := by omega
  subst this
  have ex : x.1 = smS := by
    have e := congrArg (fun l => l[0]?) hE
    simpa only [List.getElem?_map, hx, Option.map_some, List.getElem?_cons_zero, Option.some.injEq] using e
  simp only [List.getElem?_cons_zero, Option.some.injEq] at hy
  subst hy
  rw [ex]
  exact ⟨rfl, rfl, rfl, rfl, (fil_bytes sm_plc List.mem_cons_self).symm⟩
/-- What the reading of bytes of one's own comes to. -/
def RdP (W : World) (xs : List Int) (e : Ending) (w' : World) : Prop :=
  Below W.heap.size W w' ∧ ((∃ p, e = .returned (.tuple #[.agg #[.int .u64 0, .slice .none 0 0], .iface 45 (.pointer p)])) ∨ ∃ q c E en, e = .returned (.tuple #[.agg #[.int .u64 en, .slice q E.length c], .nilIface]) ∧ (0 ≤ en ∧ en < 18446744073709551616) ∧ Segs w' W.heap.size (.slice q E.length c) E (fun i => xs.getD i 0) ∧ E.length ≤ 8 ∧ (∀ x ∈ E, x.1.sz ≤ 262144) ∧ Good en (E.map (·.1)))
theorem read_own {W0 W : World} {p : Option Addr} {c : Nat} {xs : List Int} (h : W.ownsRow W0.heap.size 5 1 (.slice p xs.length c) xs.length (by8 xs)) (hx : ∀ i, 0 ≤ xs.getD i 0 ∧ xs.getD i 0 < 256) (hL : Laid W) :
    Calls Tryd.prog 7 #[.slice p xs.length c] W fun e w' => RdP W xs e w' := by
  rcases h.2 with ⟨hv, h0⟩ | ⟨g, cap, cur, hv, hb, hg, hn, hm, hr⟩
  · rw [hv]
    refine (read_nil W).mono fun e w' ⟨v, he, ⟨fb, _, _, ev, _⟩, hb⟩ => ?_
    subst he ev
    exact ⟨hb, .inl ⟨_, rfl⟩⟩
  · injection hv with e1 e2 e3
    subst e1 e3
    have hrow : Row W g 0 xs.length (fun i => xs.getD i 0) := fun i hi => by
      have hk : (by8 xs)[i]? = some (.int .u8 (xs.getD i 0)) := by
        rw [by8_get (x := xs.getD i 0)]
        rw [List.getD_eq_getElem?_getD, List.getElem?_eq_getElem hi]
        rfl
      obtain ⟨g', e, hc⟩ := own_cell h hk (by omega) (by omega)
      injection e with e
      injection e with e
      rw [Nat.zero_add, e]
      exact hc
    obtain ⟨ha, hr', hH⟩ := hd_ex (fun i => xs.getD i 0)
    refine (read_any hL hrow (own_lt h) hx (own_capN h) ha hr' hH).mono fun e w' hh => ?_
    rcases hh with ⟨hno, v, he, ⟨fb, _, _, ev, _⟩, hb⟩ | ⟨h0, sv, E, he, hE, hS, hl, hb⟩
    · subst he ev
      exact ⟨hb, .inl ⟨_, rfl⟩⟩
    · subst he
      obtain ⟨q, c', rfl, _⟩ := own_form hS.own
      have hen := num_bd (fun i => xs.getD i 0) hx 24 8
      rw [pow8] at hen
      refine ⟨hb, .inr ⟨q, c', E, _, rfl, hen, hS, hl, fun x hx' => ?_, ?_⟩⟩
      · refine rdF_sz h0 x.1 ?_
        rw [← hE]
        exact List.mem_map.2 ⟨x, hx', rfl⟩
      · rw [hE]
        exact rdF_good h0
end Go.Proofs.YtpdlcjcigeegjaaDoor
