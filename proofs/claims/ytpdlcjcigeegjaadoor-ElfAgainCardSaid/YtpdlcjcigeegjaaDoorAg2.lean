import Derived.Test.YtpdlcjcigeegjaaDoorAg1
namespace Go.Proofs.YtpdlcjcigeegjaaDoor
open Go.RowKit
set_option linter.unusedVariables false
set_option linter.unusedSimpArgs false
theorem flatE_congr : ∀ (E E' : List (Sg × Value)), E.map (fun x => (x.1.va, x.1.fl, x.2, x.1.mem)) = E'.map (fun x => (x.1.va, x.1.fl, x.2, x.1.mem)) → flatE E = flatE E'
  | [], [], _ => rfl
  | [], y :: E', h => by simp at h
  | x :: E, [], h => by simp at h
  | x :: E, y :: E', h => by
    simp only [List.map_cons, List.cons.injEq, Prod.mk.injEq] at h
    obtain ⟨⟨h1, h2, h3, h4⟩, h5⟩ := h
    rw [flatE, flatE, flatE_congr E E' h5, h1, h2, h3, h4]
def datD (E : List (Sg × Value)) (B : Nat → Int) (i : Nat) : List Int := match E[i]? with | some x => byt B x.1 | none => []
theorem datD_some {E : List (Sg × Value)} {B : Nat → Int} {i : Nat} {x : Sg × Value} (h : E[i]? = some x) : datD E B i = byt B x.1 := by unfold datD; rw [h]
section
variable {w : World} {X : Nat} {sv : Value} {E : List (Sg × Value)} {B : Nat → Int}
theorem Segs.slices (h : Segs w X sv E B) : ∀ x ∈ E, ∃ q n c, x.2 = .slice q n c := fun x hx => by
  obtain ⟨dq, dc, e, _⟩ := own_form (h.dat x hx)
  exact ⟨_, _, _, e⟩
theorem Segs.sr (h : Segs w X sv E B) {i : Nat} {x : Sg × Value} (hx : E[i]? = some x) : (srs E i).va = x.1.va ∧ (srs E i).fl = x.1.fl ∧ (srs E i).mem = x.1.mem ∧ (srs E i).n = x.1.sz := by
  obtain ⟨q, n, c, e⟩ := h.slices x (List.mem_of_getElem? hx)
  rw [srs_some hx, srOf, e]
  exact ⟨rfl, rfl, rfl, rfl⟩
theorem Segs.len (h : Segs w X sv E B) : ∀ i, i < E.length → (datD E B i).length = (srs E i).n := fun i hi => by
  obtain ⟨x, hx⟩ : ∃ x, E[i]? = some x := ⟨E[i], List.getElem?_eq_getElem hi⟩
  rw [datD_some hx, byt_len, (h.sr hx).2.2.2]
theorem Segs.prs (h : Segs w X sv E B) (hz : ∀ x ∈ E, x.1.sz ≤ 400000) : Prs w X sv E B :=
  ⟨h.own, h.dat, fun x hx => by have := (h.gd x hx).v; have := (h.gd x hx).e; have := (h.gd x hx).m; omega, fun x hx => by have := (h.gd x hx).f; omega, fun x hx => by have := (h.gd x hx).v; have := (h.gd x hx).e; have := (h.gd x hx).m; omega, hz⟩
/-- A program of one's own, as one that is handed over. -/
theorem Prs.arg {q : Option Addr} {c : Nat} (h : Prs w X (.slice q E.length c) E B) (hB : ∀ k, 0 ≤ B k ∧ B k < 256) : Arg w q E.length c (srs E) (datD E B) := by
  have key : ∀ i, i < E.length → ∃ x g dq dc, q = some ⟨g, 0, .none⟩ ∧ E[i]? = some x ∧ x.2 = .slice dq x.1.sz dc ∧ srs E i = ⟨x.1.va, x.1.fl, dq, x.1.sz, dc, x.1.mem⟩ ∧ w.cell? ⟨g, i * 4, .none⟩ = some (.int .u64 x.1.va) ∧ w.cell? ⟨g, i * 4 + 1, .none⟩ = some (.int .u32 x.1.fl) ∧ w.cell? ⟨g, i * 4 + 2, .none⟩ = some (.slice dq x.1.sz dc) ∧ w.cell? ⟨g, i * 4 + 3, .none⟩ = some (.int .u64 x.1.mem) := by
    intro i hi
    obtain ⟨x, hx⟩ : ∃ x, E[i]? = some x := ⟨E[i], List.getElem?_eq_getElem hi⟩
    obtain ⟨g', dq, dc, eg, hd, hd1, hd2, a0, a1, a2, a3⟩ := h.cells hx
    exact ⟨x, g', dq, dc, eg, hx, hd, by rw [srs_some hx, srOf, hd], a0, a1, a2, a3⟩
  refine ⟨?_, own_capN h.own, fun i hi => ?_, fun i hi => ?_, fun i hi => ?_, fun i hi => ?_, fun i hi => ?_, fun i hi => ?_⟩
  · by_cases h0 : E.length = 0
    · exact .inl h0
    · obtain ⟨_, g, _, _, hg, _⟩ := key 0 (by omega)
      subst hg
      refine .inr ⟨g, 0, rfl, fun i hi => ?_, fun i hi => ?_, fun i hi => ?_, fun i hi => ?_⟩ <;> obtain ⟨x, g', dq, dc, eg, hx, hd, es, a0, a1, a2, a3⟩ := key i hi <;> injection eg with eg <;> injection eg with eg <;> subst eg <;> rw [es, Nat.zero_add] <;> assumption
  · obtain ⟨x, g', dq, dc, eg, hx, hd, es, a0, a1, a2, a3⟩ := key i hi
    rw [es, datD_some hx]
    have := h.dat x (List.mem_of_getElem? hx)
    rw [hd] at this
    exact byt_own this
  · obtain ⟨x, g', dq, dc, eg, hx, hd, es, a0, a1, a2, a3⟩ := key i hi
    rw [es]
    have := h.sz x (List.mem_of_getElem? hx)
    show x.1.sz < _
    omega
  · obtain ⟨x, g', dq, dc, eg, hx, hd, es, a0, a1, a2, a3⟩ := key i hi
    rw [es]
    exact h.va x (List.mem_of_getElem? hx)
  · obtain ⟨x, g', dq, dc, eg, hx, hd, es, a0, a1, a2, a3⟩ := key i hi
    rw [es]
    exact h.fl x (List.mem_of_getElem? hx)
  · obtain ⟨x, g', dq, dc, eg, hx, hd, es, a0, a1, a2, a3⟩ := key i hi
    rw [es]
    exact h.mem x (List.mem_of_getElem? hx)
  · obtain ⟨x, g', dq, dc, eg, hx, hd, es, a0, a1, a2, a3⟩ := key i hi
    rw [datD_some hx]
    intro y hy
    simp only [byt, List.mem_map] at hy
    obtain ⟨j, _, rfl⟩ := hy
    exact hB _
theorem Prs.slices (h : Prs w X sv E B) : ∀ x ∈ E, ∃ q n c, x.2 = .slice q n c := fun x hx => by
  obtain ⟨dq, dc, e, _⟩ := own_form (h.dat x hx)
  exact ⟨_, _, _, e⟩
theorem Prs.sr (h : Prs w X sv E B) {i : Nat} {x : Sg × Value} (hx : E[i]? = some x) : (srs E i).va = x.1.va ∧ (srs E i).fl = x.1.fl ∧ (srs E i).mem = x.1.mem ∧ (srs E i).n = x.1.sz := by
  obtain ⟨q, n, c, e⟩ := h.slices x (List.mem_of_getElem? hx)
  rw [srs_some hx, srOf, e]
  exact ⟨rfl, rfl, rfl, rfl⟩
theorem Prs.len (h : Prs w X sv E B) : ∀ i, i < E.length → (datD E B i).length = (srs E i).n := fun i hi => by
  obtain ⟨x, hx⟩ : ∃ x, E[i]? = some x := ⟨E[i], List.getElem?_eq_getElem hi⟩
  rw [datD_some hx, byt_len, (h.sr hx).2.2.2]
/-- The same rows, their bytes counted as a file has them. -/
theorem Prs.placed (h : Prs w X sv E B) : ∃ E', Prs w X sv E' (datB (datD E B) E.length) ∧ E'.map (·.1) = sgsG (srs E) E.length := by
  have hg : ∀ (i : Nat) (x : Sg × Value), E[i]? = some x → ∃ s, (sgsG (srs E) E.length)[i]? = some s ∧ s.va = x.1.va ∧ s.fl = x.1.fl ∧ s.mem = x.1.mem ∧ s.sz = x.1.sz ∧ byt (datB (datD E B) E.length) s = byt B x.1 := by
    intro i x hx
    have hi := (List.getElem?_eq_some_iff.1 hx).1
    obtain ⟨s, hs⟩ : ∃ s, (sgsG (srs E) E.length)[i]? = some s := ⟨(sgsG (srs E) E.length)[i]'(by rw [sgsG_len]; exact hi), List.getElem?_eq_getElem _⟩
    obtain ⟨_, e⟩ := sgsG_get hs
    obtain ⟨r1, r2, r3, r4⟩ := h.sr hx
    refine ⟨s, hs, by rw [e]; exact r1, by rw [e]; exact r2, by rw [e]; exact r3, by rw [e]; exact r4, ?_⟩
    rw [datB_byt h.len hs, datD_some hx]
  have hz : ∀ (i : Nat) (x : Sg × Value) (s : Sg), E[i]? = some x → (sgsG (srs E) E.length)[i]? = some s → (List.zipWith (fun (s : Sg) (x : Sg × Value) => (s, x.2)) (sgsG (srs E) E.length) E)[i]? = some (s, x.2) := fun i x s hx hs => by
    rw [List.getElem?_zipWith, hs, hx]
  have hl : (List.zipWith (fun (s : Sg) (x : Sg × Value) => (s, x.2)) (sgsG (srs E) E.length) E).length = E.length := by rw [List.length_zipWith, sgsG_len, Nat.min_self]
  have hm : ∀ y ∈ List.zipWith (fun (s : Sg) (x : Sg × Value) => (s, x.2)) (sgsG (srs E) E.length) E, ∃ x ∈ E, y.2 = x.2 ∧ y.1.va = x.1.va ∧ y.1.fl = x.1.fl ∧ y.1.mem = x.1.mem ∧ y.1.sz = x.1.sz ∧ byt (datB (datD E B) E.length) y.1 = byt B x.1 := by
    intro y hy
    obtain ⟨i, hi, hie⟩ := List.getElem_of_mem hy
    rw [hl] at hi
    obtain ⟨x, hx⟩ : ∃ x, E[i]? = some x := ⟨E[i], List.getElem?_eq_getElem hi⟩
    obtain ⟨s, hs, f⟩ := hg i x hx
    have e : some y = some (s, x.2) := by
      rw [← hie, ← List.getElem?_eq_getElem, hz i x s hx hs]
    injection e with e
    subst e
    exact ⟨x, List.mem_of_getElem? hx, rfl, f⟩
  refine ⟨List.zipWith (fun (s : Sg) (x : Sg × Value) => (s, x.2)) (sgsG (srs E) E.length) E, ⟨?_, fun y hy => ?_, fun y hy => ?_, fun y hy => ?_, fun y hy => ?_, fun y hy => ?_⟩, ?_⟩
  · have ef : flatE (List.zipWith (fun (s : Sg) (x : Sg × Value) => (s, x.2)) (sgsG (srs E) E.length) E) = flatE E := by
      apply flatE_congr
      apply List.ext_getElem?
      intro i
      rw [List.getElem?_map, List.getElem?_map]
      cases hx : E[i]? with
      | none =>
        rw [List.getElem?_eq_none (by rw [hl]; exact List.getElem?_eq_none_iff.1 hx)]
      | some x =>
        obtain ⟨s, hs, f1, f2, f3, _⟩ := hg i x hx
        rw [hz i x s hx hs]
        simp [f1, f2, f3]
    rw [hl, ef]
    exact h.own
  · obtain ⟨x, hx, e1, e2, e3, e4, e5, e6⟩ := hm y hy
    rw [e1, e5, e6]
    exact h.dat x hx
  · obtain ⟨x, hx, e1, e2, e3, e4, e5, e6⟩ := hm y hy
    rw [e2]
    exact h.va x hx
  · obtain ⟨x, hx, e1, e2, e3, e4, e5, e6⟩ := hm y hy
    rw [e3]
    exact h.fl x hx
  · obtain ⟨x, hx, e1, e2, e3, e4, e5, e6⟩ := hm y hy
    rw [e4]
    exact h.mem x hx
  · obtain ⟨x, hx, e1, e2, e3, e4, e5, e6⟩ := hm y hy
    rw [e5]
    exact h.sz x hx
  · apply List.ext_getElem?
    intro i
    rw [List.getElem?_map]
    cases hx : E[i]? with
    | none =>
      have : E.length ≤ i := List.getElem?_eq_none_iff.1 hx
      rw [List.getElem?_eq_none (by rw [hl]; exact this), List.getElem?_eq_none (by rw [sgsG_len]; exact this)]
      rfl
    | some x =>
      obtain ⟨s, hs, _⟩ := hg i x hx
      rw [hs, hz i x s hx hs]
      rfl
end
/-- What a verdict looks at. -/
def ky (s : Sg) : Int × Int × Int × Nat := (s.va, s.fl, s.mem, s.sz)
theorem ris_ky {S S' : List Sg} (h : S.map ky = S'.map ky) (va : Int) : ris S va = ris S' va := by
  have e : S.getLast?.map ky = S'.getLast?.map ky := by rw [← List.getLast?_map, ← List.getLast?_map, h]
  unfold ris
  cases a : S.getLast? with
  | none =>
    cases b : S'.getLast? with
    | none => rfl
    | some y => rw [a, b] at e; cases e
  | some x =>
    cases b : S'.getLast? with
    | none => rw [a, b] at e; cases e
    | some y =>
      rw [a, b] at e
      simp only [Option.map_some, Option.some.injEq, ky, Prod.mk.injEq] at e
      simp only [e.1, e.2.2.1]
theorem hasE_ky {S S' : List Sg} (h : S.map ky = S'.map ky) (en : Int) : hasE S en = hasE S' en := by
  have f : ∀ T : List Sg, hasE T en = (decide (en % 2 = 0) && (T.map ky).any fun k => decide (k.2.1 % 2 = 1) && decide (k.1 ≤ en) && decide (en < k.1 + k.2.2.1)) := fun T => by
    unfold hasE
    rw [List.any_map]
    rfl
  rw [f S, f S', h]
theorem good_ky {S S' : List Sg} {en : Int} (h : S.map ky = S'.map ky) (hg : Good en S) : Good en S' := by
  have hl : S.length = S'.length := by have := congrArg List.length h; simpa using this
  obtain ⟨g1, g2, g3, g4⟩ := hg
  refine ⟨by omega, by omega, fun i s' hi hs' => ?_, by rw [← hasE_ky h]; exact g4⟩
  obtain ⟨s, hs⟩ : ∃ s, S[i]? = some s := ⟨S[i]'(by omega), List.getElem?_eq_getElem (by omega)⟩
  have e := congrArg (fun l => l[i]?) h
  simp only [List.getElem?_map, hs, hs', Option.map_some, Option.some.injEq, ky, Prod.mk.injEq] at e
  obtain ⟨e1, e2, e3, e4⟩ := e
  obtain ⟨k1, k2⟩ := g3 i s (by omega) hs
  refine ⟨?_, ?_⟩
  · unfold okS at k1 ⊢
    rw [← e1, ← e2, ← e3, ← e4]
    exact k1
  · rw [← ris_ky (S := S.take i) (by rw [List.map_take, List.map_take, h]), ← e1]
    exact k2
theorem lp_sz {n : Nat} {B : Nat → Int} : ∀ k a (S : List Sg), (∀ s ∈ S, s.sz ≤ n) → (lp n B k a S).1.2 = 0 → ∀ s ∈ (lp n B k a S).2, s.sz ≤ n
  | 0, a, S, h, _ => h
  | k + 1, a, S, h, h0 => by
    unfold lp at h0 ⊢
    by_cases c : (stp n B S a).1 = 0
    · rw [if_neg (by simpa using c)] at h0 ⊢
      refine lp_sz k (a + 56) _ ?_ h0
      unfold stp at c ⊢
      split at c
      · rename_i c1
        rw [if_pos c1]
        exact h
      · rename_i c1
        rw [if_neg c1]
        split at c
        · cases c
        · rename_i c2
          rw [if_neg c2]
          split at c
          · cases c
          · rename_i c3
            rw [if_neg c3]
            split at c
            · cases c
            · rename_i c4
              rw [if_neg c4]
              split at c
              · cases c
              · rename_i c5
                rw [if_neg c5]
                intro s hs
                rcases List.mem_append.1 hs with hs | hs
                · exact h s hs
                · rw [List.mem_singleton] at hs
                  subst hs
                  omega
    · rw [if_pos c] at h0
      exact absurd h0 c
theorem rdF_sz {n : Nat} {B : Nat → Int} {ha hr : Int} (h : (rdF n B ha hr).1.2 = 0) : ∀ s ∈ (rdF n B ha hr).2, s.sz ≤ 262144 := by
  unfold rdF at h ⊢
  split at h
  · cases h
  · rename_i c1
    rw [if_neg c1]
    split at h
    · cases h
    · rename_i c2
      rw [if_neg c2]
      split at h
      · rename_i c3
        exact absurd h c3
      · rename_i c3
        rw [if_neg c3]
        split at h
        · cases h
        · rename_i c4
          rw [if_neg c4]
          split at h
          · cases h
          · rename_i c5
            rw [if_neg c5]
            split at h
            · rename_i c6
              exact absurd h c6
            · rename_i c6
              rw [if_neg c6]
              split at h
              · cases h
              · rename_i c7
                rw [if_neg c7]
                split at h
                · cases h
                · rename_i c8
                  rw [if_neg c8]
                  intro s hs
                  have := lp_sz (n := n) (B := B) (cntB B) (froB B) [] (fun s hs => (nomatch hs)) (by simpa using c6) s hs
                  omega
end Go.Proofs.YtpdlcjcigeegjaaDoor
