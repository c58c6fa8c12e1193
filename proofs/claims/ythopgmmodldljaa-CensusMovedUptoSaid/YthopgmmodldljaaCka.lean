import Derived.Test.YthopgmmodldljaaAf
import Derived.Test.YthopgmmodldljaaAg
import Derived.Test.YthopgmmodldljaaAi
import Derived.Test.YthopgmmodldljaaCa
import Derived.Test.YthopgmmodldljaaCb
namespace Go.Proofs.Ythopgmmodldljaa
open Go Go.RowKit
set_option linter.unusedVariables false
set_option linter.unusedSimpArgs false
theorem range_sub {w : World} {b o k : Nat} {l s : List Value} (h : w.rangeAt b o l) (hs : ∀ j v, s[j]? = some v → l[k + j]? = some v) : w.rangeAt b (o + k) s := fun j v hj => by
  have := h (k + j) v (hs j v hj)
  rwa [← Nat.add_assoc] at this
/-- A load of a whole struct, guarded, and wanted. -/
theorem wpList_loadW {w : World} {ops : Array Oper} {rest : List Oper} {o : Oper} {a : Act} {Q : Exit → Act → World → Prop} (t : Nat) (d : TypeDesc) (hu : Try.prog.underlying t = some d) (hd : d.isRow = true) (cs : List Value) (hi : (Try.prog.info? t).map (·.size) = some cs.length) (g f : Nat) (x : Operand) (hw : Region.wanted o (yielded ops a.tmps) = true) (ho : o.op = .load t x) (hx : a.eval x = .pointer (some ⟨g, f, .none⟩)) (hr : w.rangeAt g f cs) (e : Option Tmp) (he : o.dst = e)
    (h : wpList Try.prog ops Q rest (a.put e (.agg cs.toArray)) w) : wpList Try.prog ops Q (o :: rest) a w := by
  subst he
  unfold wpList
  rw [if_pos hw]
  exact .inl (wp_load_mid t x ho g f hx cs d hr hu hd hi h)
theorem sub_of {l s : List Value} {k : Nat} (h : (l.drop k).take s.length = s) : ∀ (j : Nat) (v : Value), s[j]? = some v → l[k + j]? = some v := by
  intro j v hj
  have hl : j < s.length := (List.getElem?_eq_some_iff.1 hj).1
  rw [← h, List.getElem?_take, if_pos hl, List.getElem?_drop] at hj
  exact hj
theorem Sl.ofA {w : World} {base : Nat} {v : Value} {l : List Nm} (h : w.ownsRow base 104 3 v l.length ((l.map An).flatten)) : Sl w w.heap.size 3 (fun x cs => cs = An x) v l :=
  Sl.ofOwn (C := l.map An) h rfl (by intro c hc; obtain ⟨x, _, rfl⟩ := List.mem_map.1 hc; rfl) rfl (by simp) (by
    intro i x cs h1 h2
    rw [List.getElem?_map, h1] at h2
    simpa using h2.symm)
theorem Owns.join {w w' : World} {base : Nat} {R S : List Row} (h : Owns w base R) (hb : Below w.heap.size w w') (hS : Owns w' w.heap.size S) (hB : base ≤ w.heap.size) : Owns w' base (S ++ R) := by
  refine ⟨fun r hr => ?_, ?_⟩
  · rcases List.mem_append.1 hr with hr | hr
    · exact own_mono (hS.own r hr) hB
    · exact (h.keep hb).own r hr
  · unfold blks
    rw [List.filterMap_append]
    refine List.nodup_append.2 ⟨hS.nd, h.nd, fun a ha b hb' e => ?_⟩
    have h1 := (hS.lt a ha).1
    have h2 := (h.lt b hb').2
    omega
theorem own_blk {w w' : World} {base e k n : Nat} {v : Value} {xs : List Value} (h : w.ownsRow base e k v n xs) (hb : ∀ g, v.ownBlock = some g → w'.heap[g]? = w.heap[g]?) : w'.ownsRow base e k v n xs := by
  obtain ⟨h1, h2⟩ := h
  refine ⟨h1, h2.imp id ?_⟩
  rintro ⟨g, cap, cur, rfl, hbg, hg, r⟩
  exact ⟨g, cap, cur, rfl, hbg, (hb g rfl).trans hg, r⟩
theorem map_flat (k : IntKind) : ∀ l : List Int, l.map (Value.int k) = (l.map fun x => [Value.int k x]).flatten
  | [] => rfl
  | x :: l => by rw [List.map_cons, List.map_cons, List.flatten_cons, map_flat k l]; rfl
theorem Sl.ofI {w : World} {base e : Nat} {k : IntKind} {v : Value} {l : List Int} (h : w.ownsRow base e 1 v l.length (l.map (.int k))) : Sl w w.heap.size 1 (qI k) v l :=
  Sl.ofOwn (C := l.map fun x => [.int k x]) h (map_flat k l) (by intro c hc; obtain ⟨x, _, rfl⟩ := List.mem_map.1 hc; rfl) rfl (by simp) (by
    intro i x cs h1 h2
    rw [List.getElem?_map, h1] at h2
    simpa [qI] using h2.symm)
/-- What a twin is, as it is read. -/
theorem owns_lk {w : World} {base : Nat} {L : Lk} {pv fv iv qv rv lv : Value} {E : List PE} {EI : List IE} {EQ : List QE} {T : List Row} (h1 : E.map (·.1) = L.procs) (h2 : EI.map (·.1) = L.inos) (h3 : EQ.map (·.1) = L.pipes) (O : Owns w base ([rowP E pv, rowF L.files fv, rowI EI iv, rowQ EQ qv, rowB L.ready rv, rowB L.line lv] ++ (rowsP E ++ rowsI EI ++ rowsQ EQ))) : LkW w w.heap.size pv fv iv qv rv lv L := by
  have kN : ∀ {l v}, rowN l v ∈ rowsP E ++ rowsI EI ++ rowsQ EQ → Wd w w.heap.size v l := fun hm => Sl.ofI (O.own _ (List.mem_append.2 (.inr hm)))
  have kB : ∀ {l v}, rowB l v ∈ rowsP E ++ rowsI EI ++ rowsQ EQ → Bt w w.heap.size v l := fun hm => Sl.ofI (O.own _ (List.mem_append.2 (.inr hm)))
  have kG : ∀ {l v}, rowG l v ∈ rowsP E ++ rowsI EI ++ rowsQ EQ → Gs w w.heap.size v l := fun {l v} hm =>
    Sl.ofOwn (C := l.map Pg.l) (O.own _ (List.mem_append.2 (.inr hm))) rfl (by intro c hc; obtain ⟨x, _, rfl⟩ := List.mem_map.1 hc; rfl) rfl (by simp [rowG]) (by
      intro i x cs h1 h2
      rw [List.getElem?_map, h1] at h2
      simpa using h2.symm)
  refine ⟨?_, ?_, ?_, ?_, Sl.ofI (O.own (rowB L.ready rv) (by simp)), Sl.ofI (O.own (rowB L.line lv) (by simp))⟩
  · refine Sl.ofOwn (C := E.map PE.l) (O.own (rowP E pv) (by simp)) rfl (by intro c hc; obtain ⟨x, _, rfl⟩ := List.mem_map.1 hc; rfl) (by rw [← h1]; simp [rowP]) (by simp [rowP]) ?_
    intro i x cs hx hc
    rw [← h1, List.getElem?_map] at hx
    rw [List.getElem?_map] at hc
    cases he : E[i]? with
    | none => rw [he] at hx; cases hx
    | some e =>
      rw [he] at hx hc
      simp only [Option.map_some, Option.some.injEq] at hx hc
      subst hx hc
      have hm := List.mem_of_getElem? he
      exact ⟨e.2.1, e.2.2, rfl, kN (by simp only [List.mem_append]; exact .inl (.inl (List.mem_flatMap.2 ⟨e, hm, by simp⟩))), kG (by simp only [List.mem_append]; exact .inl (.inl (List.mem_flatMap.2 ⟨e, hm, by simp⟩)))⟩
  · refine Sl.ofOwn (C := L.files.map Fi.l) (O.own (rowF L.files fv) (by simp)) rfl (by intro c hc; obtain ⟨x, _, rfl⟩ := List.mem_map.1 hc; rfl) rfl (by simp [rowF]) ?_
    intro i x cs hx hc
    rw [List.getElem?_map, hx] at hc
    simpa using hc.symm
  · refine Sl.ofOwn (C := EI.map IE.l) (O.own (rowI EI iv) (by simp)) rfl (by intro c hc; obtain ⟨x, _, rfl⟩ := List.mem_map.1 hc; rfl) (by rw [← h2]; simp [rowI]) (by simp [rowI]) ?_
    intro i x cs hx hc
    rw [← h2, List.getElem?_map] at hx
    rw [List.getElem?_map] at hc
    cases he : EI[i]? with
    | none => rw [he] at hx; cases hx
    | some e =>
      rw [he] at hx hc
      simp only [Option.map_some, Option.some.injEq] at hx hc
      subst hx hc
      have hm := List.mem_of_getElem? he
      exact ⟨e.2, rfl, kN (by simp only [List.mem_append]; exact .inl (.inr (List.mem_map.2 ⟨e, hm, rfl⟩)))⟩
  · refine Sl.ofOwn (C := EQ.map QE.l) (O.own (rowQ EQ qv) (by simp)) rfl (by intro c hc; obtain ⟨x, _, rfl⟩ := List.mem_map.1 hc; rfl) (by rw [← h3]; simp [rowQ]) (by simp [rowQ]) ?_
    intro i x cs hx hc
    rw [← h3, List.getElem?_map] at hx
    rw [List.getElem?_map] at hc
    cases he : EQ[i]? with
    | none => rw [he] at hx; cases hx
    | some e =>
      rw [he] at hx hc
      simp only [Option.map_some, Option.some.injEq] at hx hc
      subst hx hc
      have hm := List.mem_of_getElem? he
      exact ⟨e.2, rfl, kB (by simp only [List.mem_append]; exact .inr (List.mem_map.2 ⟨e, hm, rfl⟩))⟩
/-- A twin: the same look, in new memory. -/
theorem twin_lk {w : World} {X : Nat} {pv fv iv qv rv lv : Value} {L : Lk} (h : LkW w X pv fv iv qv rv lv L) (hX : X ≤ w.heap.size) (hs : Sml L) : Calls Try.prog 12 #[.agg (lkL L.tramp pv fv iv qv rv lv L.ticks L.next L.free).toArray] w fun e w' => ∃ pv' fv' iv' qv' rv' lv', e = .returned (.agg (lkL L.tramp pv' fv' iv' qv' rv' lv' L.ticks L.next L.free).toArray) ∧ LkW w' w'.heap.size pv' fv' iv' qv' rv' lv' L ∧ Below w.heap.size w w' :=
  (twin_any h hX hs).mono (fun e w' ⟨pv', fv', iv', qv', rv', lv', E, EI, EQ, he, hb, h1, h2, h3, O⟩ => ⟨pv', fv', iv', qv', rv', lv', he, owns_lk (T := []) h1 h2 h3 O, hb⟩)
theorem sumN_mem {α : Type} (f : α → Nat) : ∀ (l : List α) (x : α), x ∈ l → f x ≤ sumN (l.map f)
  | y :: l, x, h => by
    simp only [List.map_cons, sumN]
    rcases List.mem_cons.1 h with rfl | h
    · omega
    · have := sumN_mem f l x h; omega
theorem flat_sum {α β : Type} (g : α → List β) (f : α → Nat) (h : ∀ x, (g x).length = f x) : ∀ l : List α, (l.flatMap g).length = sumN (l.map f)
  | [] => rfl
  | x :: l => by rw [List.flatMap_cons, List.length_append, h, flat_sum g f h l]; simp [sumN]
theorem sumN_one {α : Type} (f : α → Nat) : ∀ l : List α, sumN (l.map fun x => f x + 1) = sumN (l.map f) + l.length
  | [] => rfl
  | x :: l => by simp only [List.map_cons, sumN, sumN_one f l, List.length_cons]; omega
theorem allL_len (L : Lk) (fr : List Int) : (allL L fr).length ≤ 1 + fewN L fr.length := by
  have h1 : (L.procs.flatMap nmP).length = sumN (L.procs.map fun p => p.nodes.length + p.pages.length) + L.procs.length := by
    rw [flat_sum nmP (fun p => (p.nodes.length + p.pages.length) + 1) (fun p => by simp [nmP, nmN, nmG]; omega) L.procs, sumN_one]
  have h2 : (L.inos.flatMap nmI).length = sumN (L.inos.map fun p => p.bl.length) := flat_sum nmI _ (fun p => by simp [nmI, nmB]) L.inos
  unfold allL fewN
  simp only [List.length_append, List.length_cons, List.length_nil, h1, h2, nmF, List.length_map]
  omega
end Go.Proofs.Ythopgmmodldljaa
