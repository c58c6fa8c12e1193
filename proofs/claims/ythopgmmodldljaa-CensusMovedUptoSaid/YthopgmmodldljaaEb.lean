import Derived.Test.YthopgmmodldljaaEa
namespace Go.Proofs.Ythopgmmodldljaa
open Go Go.RowKit
open Go.ChangeMaps (setBlock heap_setBlock_same heap_setBlock_other)
set_option linter.unusedVariables false
set_option linter.unusedSimpArgs false
/-! A map from things to numbers, entry by entry. -/
abbrev kv (t : Th) : Value := .agg (thL t).toArray
theorem kv_inj {t u : Th} (e : kv t = kv u) : t = u := by
  have e2 : (thL t) = thL u := by
    have := congrArg (fun v => v.cells.toList) e
    simpa [Value.cells] using this
  simp only [thL, List.cons.injEq, Value.int.injEq, true_and, and_true] at e2
  exact Prod.ext e2.1 e2.2
structure Mf (es : Array MapEntry) (clock : Nat) (f : Th → Option Int) : Prop where
  born : ∀ e ∈ es.toList, e.born < clock
  bnd : (es.toList.map (·.born)).Nodup
  knd : (es.toList.map (·.key)).Nodup
  key : ∀ e ∈ es.toList, ∃ t v, ThR t ∧ e.key = kv t ∧ e.val = .int .i64 v ∧ f t = some v
  all : ∀ t v, f t = some v → ∃ e ∈ es.toList, e.key = kv t
/-- The map at block b holds just f. -/
def Mp (w : World) (b : Nat) (f : Th → Option Int) : Prop := ∃ es clock, w.heap[b]? = some (.map es clock) ∧ Mf es clock f
theorem Mp.new (w : World) : Mp (w.alloc (.map #[] 0)) w.heap.size (fun _ => none) := ⟨#[], 0, by show (w.heap.push _)[w.heap.size]? = _; simp, ⟨fun e h => by simp at h, by simp, by simp, fun e h => by simp at h, fun t v h => by cases h⟩⟩
theorem Mp.lt {w : World} {b : Nat} {f : Th → Option Int} (h : Mp w b f) : b < w.heap.size := by
  obtain ⟨es, clock, hb, _⟩ := h
  exact (Array.getElem?_eq_some_iff.1 hb).1
theorem Mp.keep {w w' : World} {b : Nat} {f : Th → Option Int} (h : Mp w b f) (hb : w'.heap[b]? = w.heap[b]?) : Mp w' b f := by
  obtain ⟨es, clock, h1, h2⟩ := h
  exact ⟨es, clock, hb.trans h1, h2⟩
def upd (f : Th → Option Int) (t : Th) (v : Int) : Th → Option Int := fun u => if u = t then some v else f u
theorem keysAll {es : Array MapEntry} {clock : Nat} {f : Th → Option Int} (h : Mf es clock f) (w : World) : ∀ e ∈ es.toList, ∃ l, keyOf Try.prog 125 e.key = some l := fun e he => by
  obtain ⟨t, v, ht, hk, _⟩ := h.key e he
  exact ⟨_, by rw [hk]; exact key125 ht w⟩
/-- Where a key is found. -/
theorem Mf.find {es : Array MapEntry} {clock : Nat} {f : Th → Option Int} (h : Mf es clock f) {t : Th} (ht : ThR t) (w : World) :
    ((Instr.findKey 125 (kv t) es.toList).run Try.prog w = .ok none w ∧ f t = none ∧ ∀ e ∈ es.toList, e.key ≠ kv t) ∨ ∃ j e v, (Instr.findKey 125 (kv t) es.toList).run Try.prog w = .ok (some (j, e.val)) w ∧ es.toList[j]? = some e ∧ e.key = kv t ∧ e.val = .int .i64 v ∧ f t = some v := by
  rcases klaw125.find w (key125 ht w) es.toList (keysAll h w) with ⟨h1, h2⟩ | ⟨j, e, h1, h2, h3⟩
  · refine .inl ⟨h1, ?_, h2⟩
    cases hf : f t with
    | none => rfl
    | some v =>
      obtain ⟨e, he, hk⟩ := h.all t v hf
      exact absurd hk (h2 e he)
  · obtain ⟨u, v, hu, hk, hv, hf⟩ := h.key e (List.mem_of_getElem? h2)
    have : u = t := kv_inj (hk.symm.trans h3)
    subst this
    exact .inr ⟨j, e, v, h1, h2, h3, hv, hf⟩
theorem zero3 (w : World) : (zeroValue 3).run Try.prog w = .ok (.int .i64 0) w := by kernel_rfl
theorem Mp.look {w : World} {b : Nat} {f : Th → Option Int} (h : Mp w b f) {t : Th} (ht : ThR t) : (Instr.lookup 88 (.map (some b)) (kv t) false).run Try.prog w = .ok (.int .i64 ((f t).getD 0)) w ∧ (Instr.lookup 88 (.map (some b)) (kv t) true).run Try.prog w = .ok (.tuple #[.int .i64 ((f t).getD 0), .bool (f t).isSome]) w := by
  obtain ⟨es, clock, hb, h⟩ := h
  have hc : ∀ em, (Instr.checkKey em 10000 125 (kv t)).run Try.prog w = .ok () w := fun em => klaw125.check w em (key125 ht w)
  rcases h.find ht w with ⟨h1, h2, _⟩ | ⟨j, e, v, h1, h2, h3, h4, h5⟩
  · constructor
    · simp [Instr.lookup, run_underlying Try.underlying88, MapKept.run_getObj_map hb, hc, h1, zero3, h2, Result.andThen]
    · simp [Instr.lookup, run_underlying Try.underlying88, MapKept.run_getObj_map hb, hc, h1, zero3, h2, Result.andThen]
  · constructor
    · simp [Instr.lookup, run_underlying Try.underlying88, MapKept.run_getObj_map hb, hc, h1, h4, h5, Result.andThen]
    · simp [Instr.lookup, run_underlying Try.underlying88, MapKept.run_getObj_map hb, hc, h1, h4, h5, Result.andThen]
def setV (v : Int) (e : MapEntry) : MapEntry := { e with val := .int .i64 v }
theorem nodup_apart {α β : Type} {l : List α} (f : α → β) (h : (l.map f).Nodup) {i j : Nat} {a b : α} (hi : l[i]? = some a) (hj : l[j]? = some b) (e : f a = f b) : i = j := by
  obtain ⟨li, ei⟩ := List.getElem?_eq_some_iff.1 hi
  obtain ⟨lj, ej⟩ := List.getElem?_eq_some_iff.1 hj
  rw [List.nodup_iff_pairwise_ne, List.pairwise_map, List.pairwise_iff_getElem] at h
  rcases Nat.lt_trichotomy i j with hlt | heq | hgt
  · exact absurd (by rw [ei, ej]; exact e) (h i j li lj hlt)
  · exact heq
  · exact absurd (by rw [ei, ej]; exact e.symm) (h j i lj li hgt)
theorem map_modify {α β : Type} (f : α → β) (g : α → α) (hg : ∀ a, f (g a) = f a) (l : List α) (j : Nat) : (l.modify j g).map f = l.map f := by
  apply List.ext_getElem?
  intro i
  rw [List.getElem?_map, List.getElem?_map, List.getElem?_modify]
  split
  · cases l[i]? <;> simp [hg]
  · simp
theorem Mf.set {es : Array MapEntry} {clock : Nat} {f : Th → Option Int} (h : Mf es clock f) {j : Nat} {e : MapEntry} (hj : es.toList[j]? = some e) {t : Th} (ht : ThR t) (hk : e.key = kv t) (v : Int) : Mf (es.modify j (setV v)) clock (upd f t v) := by
  have mem : ∀ x ∈ (es.modify j (setV v)).toList, x = setV v e ∨ ∃ i, i ≠ j ∧ es.toList[i]? = some x := by
    intro x hx
    rw [Array.toList_modify] at hx
    obtain ⟨i, hi⟩ := List.getElem?_of_mem hx
    rw [List.getElem?_modify] at hi
    by_cases e1 : j = i
    · subst e1
      rw [hj] at hi
      simp at hi
      exact .inl hi.symm
    · exact .inr ⟨i, fun h => e1 h.symm, by simpa [e1] using hi⟩
  refine ⟨fun x hx => ?_, ?_, ?_, fun x hx => ?_, fun u c hu => ?_⟩
  · rcases mem x hx with rfl | ⟨i, _, hi⟩
    · exact h.born e (List.mem_of_getElem? hj)
    · exact h.born x (List.mem_of_getElem? hi)
  · rw [Array.toList_modify, map_modify (·.born) (setV v) (fun _ => rfl)]
    exact h.bnd
  · rw [Array.toList_modify, map_modify (·.key) (setV v) (fun _ => rfl)]
    exact h.knd
  · rcases mem x hx with rfl | ⟨i, hne, hi⟩
    · exact ⟨t, v, ht, hk, rfl, by simp [upd]⟩
    · obtain ⟨u, c, hu, hku, hv, hf⟩ := h.key x (List.mem_of_getElem? hi)
      refine ⟨u, c, hu, hku, hv, ?_⟩
      have : u ≠ t := by
        rintro rfl
        exact hne (nodup_apart (·.key) h.knd hi hj (hku.trans hk.symm))
      simp [upd, this, hf]
  · by_cases e1 : u = t
    · subst e1
      refine ⟨setV v e, ?_, hk⟩
      rw [Array.toList_modify]
      exact List.mem_of_getElem? (i := j) (by rw [List.getElem?_modify, hj]; simp)
    · simp only [upd, if_neg e1] at hu
      obtain ⟨x, hx, hkx⟩ := h.all u c hu
      obtain ⟨i, hi⟩ := List.getElem?_of_mem hx
      have hne : j ≠ i := by
        rintro rfl
        rw [hj] at hi
        cases hi
        exact e1 (kv_inj (hkx.symm.trans hk))
      refine ⟨x, ?_, hkx⟩
      rw [Array.toList_modify]
      exact List.mem_of_getElem? (i := i) (by rw [List.getElem?_modify, hi]; simp [hne])
theorem Mf.push {es : Array MapEntry} {clock : Nat} {f : Th → Option Int} (h : Mf es clock f) {t : Th} (ht : ThR t) (hn : ∀ e ∈ es.toList, e.key ≠ kv t) (v : Int) : Mf (es.push ⟨kv t, .int .i64 v, clock⟩) (clock + 1) (upd f t v) := by
  have e0 : (es.push ⟨kv t, .int .i64 v, clock⟩).toList = es.toList ++ [⟨kv t, .int .i64 v, clock⟩] := by simp
  refine ⟨fun x hx => ?_, ?_, ?_, fun x hx => ?_, fun u c hu => ?_⟩
  · rw [e0] at hx
    rcases List.mem_append.1 hx with hx | hx
    · have := h.born x hx; omega
    · rw [List.mem_singleton] at hx; subst hx; simp
  · rw [e0, List.map_append]
    refine List.nodup_append.2 ⟨h.bnd, by simp, fun a ha b hb e => ?_⟩
    simp only [List.map_cons, List.map_nil, List.mem_singleton] at hb
    obtain ⟨x, hx, rfl⟩ := List.mem_map.1 ha
    have := h.born x hx
    omega
  · rw [e0, List.map_append]
    refine List.nodup_append.2 ⟨h.knd, by simp, fun a ha b hb e => ?_⟩
    simp only [List.map_cons, List.map_nil, List.mem_singleton] at hb
    obtain ⟨x, hx, rfl⟩ := List.mem_map.1 ha
    exact hn x hx (e.trans hb)
  · rw [e0] at hx
    rcases List.mem_append.1 hx with hx' | hx
    · obtain ⟨u, c, hu, hku, hv, hf⟩ := h.key x hx'
      refine ⟨u, c, hu, hku, hv, ?_⟩
      have : u ≠ t := by rintro rfl; exact hn x hx' hku
      simp [upd, this, hf]
    · rw [List.mem_singleton] at hx
      subst hx
      exact ⟨t, v, ht, rfl, rfl, by simp [upd]⟩
  · rw [e0]
    by_cases e1 : u = t
    · subst e1
      exact ⟨_, List.mem_append.2 (.inr (List.mem_singleton.2 rfl)), rfl⟩
    · simp only [upd, if_neg e1] at hu
      obtain ⟨x, hx, hkx⟩ := h.all u c hu
      exact ⟨x, List.mem_append.2 (.inl hx), hkx⟩
theorem upd_self {f : Th → Option Int} {t : Th} {v : Int} (h : f t = some v) : upd f t v = f := by
  funext u
  unfold upd
  split
  · rename_i e; rw [e, h]
  · rfl
theorem upd_upd (f : Th → Option Int) (t : Th) (a b : Int) : upd (upd f t a) t b = upd f t b := by
  funext u
  unfold upd
  split <;> rfl
theorem set_grown {w : World} {b : Nat} {es : Array MapEntry} {clock : Nat} (hb : w.heap[b]? = some (.map es clock)) (o : Obj) : w.grownBy (setBlock w b o) (some b) ∧ (setBlock w b o).heap.size = w.heap.size :=
  ⟨⟨rfl, rfl, rfl, by simp [setBlock], fun k _ hk => heap_setBlock_other hb _ (fun e => hk (by rw [e]))⟩, by simp [setBlock]⟩
/-- 'm[t] = v'. -/
theorem Mp.upd {w : World} {b : Nat} {f : Th → Option Int} (h : Mp w b f) {t : Th} (ht : ThR t) (v : Int) : ∃ w', (Instr.mapUpdate 88 (.map (some b)) (kv t) (.int .i64 v)).run Try.prog w = .ok () w' ∧ Mp w' b (Go.Proofs.Ythopgmmodldljaa.upd f t v) ∧ w.grownBy w' (some b) ∧ w'.heap.size = w.heap.size := by
  obtain ⟨es, clock, hb, h⟩ := h
  have hc : ∀ em, (Instr.checkKey em 10000 125 (kv t)).run Try.prog w = .ok () w := fun em => klaw125.check w em (key125 ht w)
  have hs : (Instr.keyThatStays (kv t) (kv t)).run Try.prog w = .ok (kv t) w := klaw125.stays w (key125 ht w)
  rcases h.find ht w with ⟨h1, h2, h3⟩ | ⟨j, e, c, h1, h2, h3, h4, h5⟩
  · obtain ⟨g1, g2⟩ := set_grown hb (.map (es.push ⟨kv t, .int .i64 v, clock⟩) (clock + 1))
    refine ⟨setBlock w b (.map (es.push ⟨kv t, .int .i64 v, clock⟩) (clock + 1)), ?_, ⟨_, _, heap_setBlock_same hb _, h.push ht h3 v⟩, g1, g2⟩
    simp [Instr.mapUpdate, run_underlying Try.underlying88, MapKept.run_getObj_map hb, hc, h1, MapKept.run_setObj_map _ hb, Result.andThen, setBlock]
  · obtain ⟨g1, g2⟩ := set_grown hb (.map (es.modify j (setV v)) clock)
    refine ⟨setBlock w b (.map (es.modify j (setV v)) clock), ?_, ⟨_, _, heap_setBlock_same hb _, h.set h2 ht h3 v⟩, g1, g2⟩
    have hj : es[j]? = some e := by simpa using h2
    have hm : es.modify j (fun e => { e with key := kv t, val := .int .i64 v }) = es.modify j (setV v) := by
      apply Array.ext'
      rw [Array.toList_modify, Array.toList_modify]
      apply List.ext_getElem?
      intro i
      rw [List.getElem?_modify, List.getElem?_modify]
      by_cases e1 : j = i
      · subst e1
        rw [h2]
        simp [setV, h3]
      · simp [e1]
    simp [Instr.mapUpdate, run_underlying Try.underlying88, MapKept.run_getObj_map hb, hc, h1, hj, h3, hs, hm, MapKept.run_setObj_map _ hb, Result.andThen, setBlock]
/-- The entry of a key, and what is stored there later. -/
theorem Mp.entry {w : World} {b : Nat} {f : Th → Option Int} (h : Mp w b f) {t : Th} (ht : ThR t) : ∃ (st : Nat) (w1 : World), (Instr.mapEntry 88 (.map (some b)) (kv t)).run Try.prog w = .ok (.tuple #[.int .i64 ((f t).getD 0), goInt st]) w1 ∧ Mp w1 b (Go.Proofs.Ythopgmmodldljaa.upd f t ((f t).getD 0)) ∧ w.grownBy w1 (some b) ∧ w1.heap.size = w.heap.size ∧
    ∀ (w2 : World) (v : Int), w2.heap[b]? = w1.heap[b]? → ∃ w3, (Instr.entryStore 88 (.map (some b)) (goInt st) (.int .i64 v)).run Try.prog w2 = .ok () w3 ∧ Mp w3 b (Go.Proofs.Ythopgmmodldljaa.upd f t v) ∧ w2.grownBy w3 (some b) ∧ w3.heap.size = w2.heap.size := by
  obtain ⟨es, clock, hb, h⟩ := h
  have hc : ∀ em, (Instr.checkKey em 10000 125 (kv t)).run Try.prog w = .ok () w := fun em => klaw125.check w em (key125 ht w)
  have hs : (Instr.keyThatStays (kv t) (kv t)).run Try.prog w = .ok (kv t) w := klaw125.stays w (key125 ht w)
  have store : ∀ (es1 : Array MapEntry) (clock1 st : Nat) (f1 : Th → Option Int) (j : Nat) (e : MapEntry), Mf es1 clock1 f1 → es1.toList[j]? = some e → e.key = kv t → e.born = st → ∀ (w2 : World) (v : Int), w2.heap[b]? = some (.map es1 clock1) → ∃ w3, (Instr.entryStore 88 (.map (some b)) (goInt st) (.int .i64 v)).run Try.prog w2 = .ok () w3 ∧ Mp w3 b (Go.Proofs.Ythopgmmodldljaa.upd f1 t v) ∧ w2.grownBy w3 (some b) ∧ w3.heap.size = w2.heap.size := by
    intro es1 clock1 st f1 j e hf hj hk hbn w2 v hw2
    obtain ⟨g1, g2⟩ := set_grown hw2 (.map (es1.modify j (setV v)) clock1)
    refine ⟨_, ?_, ⟨_, _, heap_setBlock_same hw2 _, hf.set hj ht hk v⟩, g1, g2⟩
    have hidx : es1.findIdx? (fun x => ((x.born : Nat) : Int) == ((st : Nat) : Int)) = some j := by
      rw [WideElems.findIdx_arr, ← hbn]
      exact WideElems.findIdx_born hf.bnd hj
    have hm : (fun x : MapEntry => ({ x with val := .int .i64 v } : MapEntry)) = setV v := rfl
    simp [Instr.entryStore, MapKept.run_getObj_map hw2, asInt, asIntOf, goInt, hidx, hm, MapKept.run_setObj_map _ hw2, Result.andThen, setBlock]
  rcases h.find ht w with ⟨h1, h2, h3⟩ | ⟨j, e, c, h1, h2, h3, h4, h5⟩
  · obtain ⟨g1, g2⟩ := set_grown hb (.map (es.push ⟨kv t, .int .i64 0, clock⟩) (clock + 1))
    have hp := h.push ht h3 0
    refine ⟨clock, setBlock w b (.map (es.push ⟨kv t, .int .i64 0, clock⟩) (clock + 1)), ?_, ⟨_, _, heap_setBlock_same hb _, by rw [h2]; exact hp⟩, g1, g2, fun w2 v hw2 => ?_⟩
    · simp [Instr.mapEntry, run_underlying Try.underlying88, MapKept.run_getObj_map hb, hc, h1, h2, zero3, MapKept.run_setObj_map _ hb, Result.andThen, setBlock]
    · have := store _ _ clock _ es.size ⟨kv t, .int .i64 0, clock⟩ hp (by simp) rfl rfl w2 v (hw2.trans (heap_setBlock_same hb _))
      rw [upd_upd] at this
      exact this
  · have hj : es[j]? = some e := by simpa using h2
    have hm : es.modify j (fun e => { e with key := kv t }) = es := by
      apply Array.ext'
      rw [Array.toList_modify]
      apply List.ext_getElem?
      intro i
      rw [List.getElem?_modify]
      by_cases e1 : j = i
      · subst e1
        rw [h2]
        simp [← h3]
      · simp [e1]
    obtain ⟨g1, g2⟩ := set_grown hb (.map es clock)
    refine ⟨e.born, setBlock w b (.map es clock), ?_, ⟨_, _, heap_setBlock_same hb _, by rw [h5, Option.getD_some, upd_self h5]; exact h⟩, g1, g2, fun w2 v hw2 => store _ _ _ _ j e h h2 h3 rfl w2 v (hw2.trans (heap_setBlock_same hb _))⟩
    simp [Instr.mapEntry, run_underlying Try.underlying88, MapKept.run_getObj_map hb, hc, h1, hj, h3, h4, h5, hs, hm, MapKept.run_setObj_map _ hb, Result.andThen, setBlock]
end Go.Proofs.Ythopgmmodldljaa
