import Derived.Test.YthopgmmodldljabEa
namespace Go.Proofs.Ythopgmmodldljab
open Go Go.RowKit
open Go.ChangeMaps (setBlock heap_setBlock_same heap_setBlock_other)
set_option linter.unusedVariables false
set_option linter.unusedSimpArgs false
/-! A map from things to numbers, entry by entry. -/
abbrev kv (t : Th) : Value := .agg (thL t).toArray
theorem kv_inj {t u : Th} (e : kv t = kv u) : t = u := by
 have e2 : (thL t) = thL u := by
  have := congrArg (fun v => v.cells.toList) e
  simpa [Value.cells] using this
 simp only [thL, List.cons.injEq, Value.int.injEq, true_and, and_true] at e2
 exact Prod.ext e2.1 e2.2
structure Mf (es : Array MapEntry) (clock : Nat) (f : Th → Option Int) : Prop where
 born : ∀ e ∈ es.toList, e.born < clock
 bnd : (es.toList.map (·.born)).Nodup
 knd : (es.toList.map (·.key)).Nodup
 key : ∀ e ∈ es.toList, ∃ t v, ThR t ∧ e.key = kv t ∧ e.val = .int .i64 v ∧ f t = some v
 all : ∀ t v, f t = some v → ∃ e ∈ es.toList, e.key = kv t
/-- The map at block b holds just f. -/
def Mp (w : World) (b : Nat) (f : Th → Option Int) : Prop := ∃ es clock, w.heap[b]? = some (.map es clock) ∧ Mf es clock f
theorem Mp.new (w : World) : Mp (w.alloc (.map #[] 0)) w.heap.size (fun _ => none) := ⟨#[], 0, by show (w.heap.push _)[w.heap.size]? = _; simp, ⟨fun e h => by simp at h, by simp, by simp, fun e h => by simp at h, fun t v h => by cases h⟩⟩
theorem Mp.lt {w : World} {b : Nat} {f : Th → Option Int} (h : Mp w b f) : b < w.heap.size := by
 obtain ⟨es, clock, hb, _⟩ := h
 exact (Array.getElem?_eq_some_iff.1 hb).1
theorem Mp.keep {w w' : World} {b : Nat} {f : Th → Option Int} (h : Mp w b f) (hb : w'.heap[b]? = w.heap[b]?) : Mp w' b f := by
 obtain ⟨es, clock, h1, h2⟩ := h
 exact ⟨es, clock, hb.trans h1, h2⟩
def upd (f : Th → Option Int) (t : Th) (v : Int) : Th → Option Int := fun u => if u = t then some v else f u
theorem keysAll {es : Array MapEntry} {clock : Nat} {f : Th → Option Int} (h : Mf es clock f) (w : World) : ∀ e ∈ es.toList, ∃ l, keyOf Try.prog 101 e.key = some l := fun e he => by
 obtain ⟨t, v, ht, hk, _⟩ := h.key e he
 exact ⟨_, by rw [hk]; exact key125 ht w⟩
/-- Where a key is found. -/
theorem Mf.find {es : Array MapEntry} {clock : Nat} {f : Th → Option Int} (h : Mf es clock f) {t : Th} (ht : ThR t) (w : World) :
  ((Instr.findKey 101 (kv t) es.toList).run Try.prog w = .ok none w ∧ f t = none ∧ ∀ e ∈ es.toList, e.key ≠ kv t) ∨ ∃ j e v, (Instr.findKey 101 (kv t) es.toList).run Try.prog w = .ok (some (j, e.val)) w ∧ es.toList[j]? = some e ∧ e.key = kv t ∧ e.val = .int .i64 v ∧ f t = some v := by
 rcases klaw125.find w (key125 ht w) es.toList (keysAll h w) with ⟨h1, h2⟩ | ⟨j, e, h1, h2, h3⟩
 ·refine .inl ⟨h1, ?_, h2⟩
  cases hf : f t with
  | none => rfl
  | some v =>
   obtain ⟨e, he, hk⟩ := h.all t v hf
   exact absurd hk (h2 e he)
 ·obtain ⟨u, v, hu, hk, hv, hf⟩ := h.key e (List.mem_of_getElem? h2)
  have : u = t := kv_inj (hk.symm.trans h3)
  subst this
  exact .inr ⟨j, e, v, h1, h2, h3, hv, hf⟩
theorem zero3 (w : World) : (zeroValue 3).run Try.prog w = .ok (.int .i64 0) w := by kernel_rfl
theorem Mp.look {w : World} {b : Nat} {f : Th → Option Int} (h : Mp w b f) {t : Th} (ht : ThR t) : (Instr.lookup 77 (.map (some b)) (kv t) false).run Try.prog w = .ok (.int .i64 ((f t).getD 0)) w ∧ (Instr.lookup 77 (.map (some b)) (kv t) true).run Try.prog w = .ok (.tuple #[.int .i64 ((f t).getD 0), .bool (f t).isSome]) w := by
 obtain ⟨es, clock, hb, h⟩ := h
 have hc : ∀ em, (Instr.checkKey em 10000 101 (kv t)).run Try.prog w = .ok () w := fun em => klaw125.check w em (key125 ht w)
 rcases h.find ht w with ⟨h1, h2, _⟩ | ⟨j, e, v, h1, h2, h3, h4, h5⟩
 ·constructor
  ·simp [Instr.lookup, run_underlying Try.underlying77, MapKept.run_getObj_map hb, hc, h1, zero3, h2, Result.andThen]
  ·simp [Instr.lookup, run_underlying Try.underlying77, MapKept.run_getObj_map hb, hc, h1, zero3, h2, Result.andThen]
 ·constructor
  ·simp [Instr.lookup, run_underlying Try.underlying77, MapKept.run_getObj_map hb, hc, h1, h4, h5, Result.andThen]
  ·simp [Instr.lookup, run_underlying Try.underlying77, MapKept.run_getObj_map hb, hc, h1, h4, h5, Result.andThen]
def setV (v : Int) (e : MapEntry) : MapEntry := { e with val := .int .i64 v }
theorem nodup_apart {α β : Type} {l : List α} (f : α → β) (h : (l.map f).Nodup) {i j : Nat} {a b : α} (hi : l[i]? = some a) (hj : l[j]? = some b) (e : f a = f b) : i = j := by
 obtain ⟨li, ei⟩ := List.getElem?_eq_some_iff.1 hi
 obtain ⟨lj, ej⟩ := List.getElem?_eq_some_iff.1 hj
 rw [List.nodup_iff_pairwise_ne, List.pairwise_map, List.pairwise_iff_getElem] at h
 rcases Nat.lt_trichotomy i j with hlt | heq | hgt
 ·exact absurd (by rw [ei, ej]; exact e) (h i j li lj hlt)
 ·exact heq
 ·exact absurd (by rw [ei, ej]; exact e.symm) (h j i lj li hgt)
theorem map_modify {α β : Type} (f : α → β) (g : α → α) (hg : ∀ a, f (g a) = f a) (l : List α) (j : Nat) : (l.modify j g).map f = l.map f := by
 apply List.ext_getElem?
 intro i
 rw [List.getElem?_map, List.getElem?_map, List.getElem?_modify]
 split
 ·cases l[i]? <;> simp [hg]
 ·simp
theorem Mf.set {es : Array MapEntry} {clock : Nat} {f : Th → Option Int} (h : Mf es clock f) {j : Nat} {e : MapEntry} (hj : es.toList[j]? = some e) {t : Th} (ht : ThR t) (hk : e.key = kv t) (v : Int) : Mf (es.modify j (setV v)) clock (upd f t v) := by
 have mem : ∀ x ∈ (es.modify j (setV v)).toList, x = setV v e ∨ ∃ i, i ≠ j ∧ es.toList[i]? = some x := by
  intro x hx
  rw [Array.toList_modify] at hx
  obtain ⟨i, hi⟩ := List.getElem?_of_mem hx
  rw [List.getElem?_modify] at hi
  by_cases e1 : j = i
  ·subst e1
   rw [hj] at hi
   simp at hi
   exact .inl hi.symm
  ·exact .inr ⟨i, fun h => e1 h.symm, by simpa [e1] using hi⟩
 refine ⟨fun x hx => ?_, ?_, ?_, fun x hx => ?_, fun u c hu => ?_⟩
 ·rcases mem x hx with rfl | ⟨i, _, hi⟩
  ·exact h.born e (List.mem_of_getElem? hj)
  ·exact h.born x (List.mem_of_getElem? hi)
 ·rw [Array.toList_modify, map_modify (·.born) (setV v) (fun _ => rfl)]
  exact h.bnd
 ·rw [Array.toList_modify, map_modify (·.key) (setV v) (fun _ => rfl)]
  exact h.knd
 ·rcases mem x hx with rfl | ⟨i, hne, hi⟩
  ·exact ⟨t, v, ht, hk, rfl, by simp [upd]⟩
  ·obtain ⟨u, c, hu, hku, hv, hf⟩ := h.key x (List.mem_of_getElem? hi)
   refine ⟨u, c, hu, hku, hv, ?_⟩
   have : u ≠ t := by
    rintro rfl
    exact hne (nodup_apart (·.key) h.knd hi hj (hku.trans hk.symm))
   simp [upd, this, hf]
 ·by_cases e1 : u = t
  ·subst e1
   refine ⟨setV v e, ?_, hk⟩
   rw [Array.toList_modify]
   exact List.mem_of_getElem? (i := j) (by rw [List.getElem?_modify, hj]; simp)
  ·simp only [upd, if_neg e1] at hu
   obtain ⟨x, hx, hkx⟩ := h.all u c hu
   obtain ⟨i, hi⟩ := List.getElem?_of_mem hx
   have hne : j ≠ i := by
    rintro rfl
    rw [hj] at hi
    cases hi
    exact e1 (kv_inj (hkx.symm.trans hk))
   refine ⟨x, ?_, hkx⟩
   rw [Array.toList_modify]
   exact List.mem_of_getElem? (i := i) (by rw [List.getElem?_modify, hi]; simp [hne])
theorem Mf.push {es : Array MapEntry} {clock : Nat} {f : Th → Option Int} (h : Mf es clock f) {t : Th} (ht : ThR t) (hn : ∀ e ∈ es.toList, e.key ≠ kv t) (v : Int) : Mf (es.push ⟨kv t, .int .i64 v, clock⟩) (clock + 1) (upd f t v) := by
 have e0 : (es.push ⟨kv t, .int .i64 v, clock⟩).toList = es.toList ++ [⟨kv t, .int .i64 v, clock⟩] := by simp
 refine ⟨fun x hx => ?_, ?_, ?_, fun x hx => ?_, fun u c hu => ?_⟩
 ·rw [e0] at hx
  rcases List.mem_append.1 hx with hx | hx
  ·have := h.born x hx; omega
  ·rw [List.mem_singleton] at hx; subst hx; simp
 ·rw [e0, List.map_append]
  refine List.nodup_append.2 ⟨h.bnd, by simp, fun a ha b hb e => ?_⟩
  simp only [List.map_cons, List.map_nil, List.mem_singleton] at hb
  obtain ⟨x, hx, rfl⟩ := List.mem_map.1 ha
  have := h.born x hx
  omega
 ·rw [e0, List.map_append]
  refine List.nodup_append.2 ⟨h.knd, by simp, fun a ha b hb e => ?_⟩
  simp only [List.map_cons, List.map_nil, List.mem_singleton] at hb
  obtain ⟨x, hx, rfl⟩ := List.mem_map.1 ha
  exact hn x hx (e.trans hb)
 ·rw [e0] at hx
  rcases List.mem_append.1 hx with hx' | hx
  ·obtain ⟨u, c, hu, hku, hv, hf⟩ := h.key x hx'
   refine ⟨u, c, hu, hku, hv, ?_⟩
   have : u ≠ t := by rintro rfl; exact hn x hx' hku
   simp [upd, this, hf]
  ·rw [List.mem_singleton] at hx
   subst hx
   exact ⟨t, v, ht, rfl, rfl, by simp [upd]⟩
 ·rw [e0]
  by_cases e1 : u = t
  ·subst e1
   exact ⟨_, List.mem_append.2 (.inr (List.mem_singleton.2 rfl)), rfl⟩
  ·simp only [upd, if_neg e1] at hu
   obtain ⟨x, hx, hkx⟩ := h.all u c hu
   exact ⟨x, List.mem_append.2 (.inl hx), hkx⟩
theorem upd_self {f : Th → Option Int} {t : Th} {v : Int} (h : f t = some v) : upd f t v = f := by
 funext u
 unfold upd
 split
 ·rename_i e; rw [e, h]
 ·rfl
theorem upd_upd (f : Th → Option Int) (t : Th) (a b : Int) : upd (upd f t a) t b = upd f t b := by
 funext u
 unfold upd
 split <;> rfl
theorem set_grown {w : World} {b : Nat} {es : Array MapEntry} {clock : Nat} (hb : w.heap[b]? = some (.map es clock)) (o : Obj) : w.grownBy (setBlock w b o) (some b) ∧ (setBlock w b o).heap.size = w.heap.size :=
 ⟨⟨rfl, rfl, rfl, by simp [setBlock], fun k _ hk => heap_setBlock_other hb _ (fun e => hk (by rw [e]))⟩, by simp [setBlock]⟩
/-- 'm[t] = v'. -/
theorem Mp.upd {w : World} {b : Nat} {f : Th → Option Int} (h : Mp w b f) {t : Th} (ht : ThR t) (v : Int) : ∃ w', (Instr.mapUpdate 77 (.map (some b)) (kv t) (.int .i64 v)).run Try.prog w = .ok () w' ∧ Mp w' b (Go.Proofs.Ythopgmmodldljab.upd f t v) ∧ w.grownBy w' (some b) ∧ w'.heap.size = w.heap.size := by
 obtain ⟨es, clock, hb, h⟩ := h
 have hc : ∀ em, (Instr.checkKey em 10000 101 (kv t)).run Try.prog w = .ok () w := fun em => klaw125.check w em (key125 ht w)
 have hs : (Instr.keyThatStays (kv t) (kv t)).run Try.prog w = .ok (kv t) w := klaw125.stays w (key125 ht w)
 rcases h.find ht w with ⟨h1, h2, h3⟩ | ⟨j, e, c, h1, h2, h3, h4, h5⟩
 ·obtain ⟨g1, g2⟩ := set_grown hb (.map (es.push ⟨kv t, .int .i64 v, clock⟩) (clock + 1))
  refine ⟨setBlock w b (.map (es.push ⟨kv t, .int .i64 v, clock⟩) (clock + 1)), ?_, ⟨_, _, heap_setBlock_same hb _, h.push ht h3 v⟩, g1, g2⟩
  simp [Instr.mapUpdate, run_underlying Try.underlying77, MapKept.run_getObj_map hb, hc, h1, MapKept.run_setObj_map _ hb, Result.andThen, setBlock]
 ·obtain ⟨g1, g2⟩ := set_grown hb (.map (es.modify j (setV v)) clock)
  refine ⟨setBlock w b (.map (es.modify j (setV v)) clock), ?_, ⟨_, _, heap_setBlock_same hb _, h.set h2 ht h3 v⟩, g1, g2⟩
  have hj : es[j]? = some e := by simpa using h2
  have hm : es.modify j (fun e => { e with key := kv t, val := .int .i64 v }) = es.modify j (setV v) := by
   apply Array.ext'
   rw [Array.toList_modify, Array.toList_modify]
   apply List.ext_getElem?
   intro i
   rw [List.getElem?_modify, List.getElem?_modify]
   by_cases e1 : j = i
   ·subst e1
    rw [h2]
    simp [setV, h3]
   ·simp [e1]
  simp [Instr.mapUpdate, run_underlying Try.underlying77, MapKept.run_getObj_map hb, hc, h1, hj, h3, hs, hm, MapKept.run_setObj_map _ hb, Result.andThen, setBlock]
/-- The entry of a key, and what is stored there later. -/
theorem Mp.entry {w : World} {b : Nat} {f : Th → Option Int} (h : Mp w b f) {t : Th} (ht : ThR t) : ∃ (st : Nat) (w1 : World), (Instr.mapEntry 77 (.map (some b)) (kv t)).run Try.prog w = .ok (.tuple #[.int .i64 ((f t).getD 0), goInt st]) w1 ∧ Mp w1 b (Go.Proofs.Ythopgmmodldljab.upd f t ((f t).getD 0)) ∧ w.grownBy w1 (some b) ∧ w1.heap.size = w.heap.size ∧
  ∀ (w2 : World) (v : Int), w2.heap[b]? = w1.heap[b]? → ∃ w3, (Instr.entryStore 77 (.map (some b)) (goInt st) (.int .i64 v)).run Try.prog w2 = .ok () w3 ∧ Mp w3 b (Go.Proofs.Ythopgmmodldljab.upd f t v) ∧ w2.grownBy w3 (some b) ∧ w3.heap.size = w2.heap.size := by
 obtain ⟨es, clock, hb, h⟩ := h
 have hc : ∀ em, (Instr.checkKey em 10000 101 (kv t)).run Try.prog w = .ok () w := fun em => klaw125.check w em (key125 ht w)
 have hs : (Instr.keyThatStays (kv t) (kv t)).run Try.prog w = .ok (kv t) w := klaw125.stays w (key125 ht w)
 have store : ∀ (es1 : Array MapEntry) (clock1 st : Nat) (f1 : Th → Option Int) (j : Nat) (e : MapEntry), Mf es1 clock1 f1 → es1.toList[j]? = some e → e.key = kv t → e.born = st → ∀ (w2 : World) (v : Int), w2.heap[b]? = some (.map es1 clock1) → ∃ w3, (Instr.entryStore 77 (.map (some b)) (goInt st) (.int .i64 v)).run Try.prog w2 = .ok () w3 ∧ Mp w3 b (Go.Proofs.Ythopgmmodldljab.upd f1 t v) ∧ w2.grownBy w3 (some b) ∧ w3.heap.size = w2.heap.size := by
  intro es1 clock1 st f1 j e hf hj hk hbn w2 v hw2
  obtain ⟨g1, g2⟩ := set_grown hw2 (.map (es1.modify j (setV v)) clock1)
  refine ⟨_, ?_, ⟨_, _, heap_setBlock_same hw2 _, hf.set hj ht hk v⟩, g1, g2⟩
  have hidx : es1.findIdx? (fun x => ((x.born : Nat) : Int) == ((st : Nat) : Int)) = some j := by
   rw [WideElems.findIdx_arr, ← hbn]
   exact WideElems.findIdx_born hf.bnd hj
  have hm : (fun x : MapEntry => ({ x with val := .int .i64 v } : MapEntry)) = setV v := rfl
  simp [Instr.entryStore, MapKept.run_getObj_map hw2, asInt, asIntOf, goInt, hidx, hm, MapKept.run_setObj_map _ hw2, Result.andThen, setBlock]
 rcases h.find ht w with ⟨h1, h2, h3⟩ | ⟨j, e, c, h1, h2, h3, h4, h5⟩
 ·obtain ⟨g1, g2⟩ := set_grown hb (.map (es.push ⟨kv t, .int .i64 0, clock⟩) (clock + 1))
  have hp := h.push ht h3 0
  refine ⟨clock, setBlock w b (.map (es.push ⟨kv t, .int .i64 0, clock⟩) (clock + 1)), ?_, ⟨_, _, heap_setBlock_same hb _, by rw [h2]; exact hp⟩, g1, g2, fun w2 v hw2 => ?_⟩
  ·simp [Instr.mapEntry, run_underlying Try.underlying77, MapKept.run_getObj_map hb, hc, h1, h2, zero3, MapKept.run_setObj_map _ hb, Result.andThen, setBlock]
  ·have := store _ _ clock _ es.size ⟨kv t, .int .i64 0, clock⟩ hp (by simp) rfl rfl w2 v (hw2.trans (heap_setBlock_same hb _))
   rw [upd_upd] at this
   exact this
 ·have hj : es[j]? = some e := by simpa using h2
  have hm : es.modify j (fun e => { e with key := kv t }) = es := by
   apply Array.ext'
   rw [Array.toList_modify]
   apply List.ext_getElem?
   intro i
   rw [List.getElem?_modify]
   by_cases e1 : j = i
   ·subst e1
    rw [h2]
    simp [← h3]
   ·simp [e1]
  obtain ⟨g1, g2⟩ := set_grown hb (.map es clock)
  refine ⟨e.born, setBlock w b (.map es clock), ?_, ⟨_, _, heap_setBlock_same hb _, by rw [h5, Option.getD_some, upd_self h5]; exact h⟩, g1, g2, fun w2 v hw2 => store _ _ _ _ j e h h2 h3 rfl w2 v (hw2.trans (heap_setBlock_same hb _))⟩
  simp [Instr.mapEntry, run_underlying Try.underlying77, MapKept.run_getObj_map hb, hc, h1, hj, h3, h4, h5, hs, hm, MapKept.run_setObj_map _ hb, Result.andThen, setBlock]
end Go.Proofs.Ythopgmmodldljab
namespace Go.Proofs.Ythopgmmodldljab
open Go Go.RowKit
set_option linter.unusedVariables false
set_option linter.unusedSimpArgs false
/-! The survey: two maps, and what else it holds. -/
structure Sv (w : World) (s m1 m2 : Nat) (cs : List Value) (pf nf : Th → Option Int) : Prop where
 hp : w.heap[s]? = some (.cells cs.toArray 79)
 len : cs.length = 15
 c13 : cs[13]? = some (.map (some m1))
 c14 : cs[14]? = some (.map (some m2))
 mp : Mp w m1 pf
 mn : Mp w m2 nf
 a1 : s ≠ m1
 a2 : s ≠ m2
 a3 : m1 ≠ m2
/-- Nothing has turned but the two maps, and what is new. -/
structure Fr (m1 m2 : Nat) (w w' : World) : Prop where
 os : w'.os = w.os
 tape : w'.tape = w.tape
 output : w'.output = w.output
 size : w.heap.size ≤ w'.heap.size
 block : ∀ k, k < w.heap.size → k ≠ m1 → k ≠ m2 → w'.heap[k]? = w.heap[k]?
theorem Fr.refl (m1 m2 : Nat) (w : World) : Fr m1 m2 w w := ⟨rfl, rfl, rfl, Nat.le_refl _, fun _ _ _ _ => rfl⟩
theorem Fr.trans {m1 m2 : Nat} {a b c : World} (h : Fr m1 m2 a b) (k : Fr m1 m2 b c) : Fr m1 m2 a c :=
 ⟨k.os.trans h.os, k.tape.trans h.tape, k.output.trans h.output, Nat.le_trans h.size k.size, fun i hi h1 h2 => (k.block i (Nat.lt_of_lt_of_le hi h.size) h1 h2).trans (h.block i hi h1 h2)⟩
theorem Fr.of_below {m1 m2 : Nat} {w w' : World} (h : Below w.heap.size w w') : Fr m1 m2 w w' := ⟨h.os, h.tape, h.output, h.size, fun k hk _ _ => h.block k hk⟩
theorem Fr.of_grown {m1 m2 b : Nat} {w w' : World} (h : w.grownBy w' (some b)) (hb : b = m1 ∨ b = m2) : Fr m1 m2 w w' :=
 ⟨h.os, h.tape, h.output, h.size, fun k hk h1 h2 => h.block k hk (by intro e; injection e with e; rcases hb with hb | hb <;> omega)⟩
theorem Fr.below {m1 m2 B : Nat} {w w' : World} (h : Fr m1 m2 w w') (hB : B ≤ w.heap.size) (h1 : B ≤ m1) (h2 : B ≤ m2) : Below B w w' :=
 ⟨h.os, h.tape, h.output, h.size, fun k hk => h.block k (by omega) (by omega) (by omega)⟩
theorem Sv.lt {w : World} {s m1 m2 : Nat} {cs : List Value} {pf nf : Th → Option Int} (h : Sv w s m1 m2 cs pf nf) : s < w.heap.size ∧ m1 < w.heap.size ∧ m2 < w.heap.size :=
 ⟨(Array.getElem?_eq_some_iff.1 h.hp).1, h.mp.lt, h.mn.lt⟩
theorem Sv.keep {w w' : World} {s m1 m2 : Nat} {cs : List Value} {pf nf : Th → Option Int} (h : Sv w s m1 m2 cs pf nf) (hb : Below w.heap.size w w') : Sv w' s m1 m2 cs pf nf :=
 ⟨(hb.block _ h.lt.1).trans h.hp, h.len, h.c13, h.c14, h.mp.keep (hb.block _ h.lt.2.1), h.mn.keep (hb.block _ h.lt.2.2), h.a1, h.a2, h.a3⟩
theorem Sv.put1 {w w' : World} {s m1 m2 : Nat} {cs : List Value} {pf nf pf' : Th → Option Int} (h : Sv w s m1 m2 cs pf nf) (hg : w.grownBy w' (some m1)) (hm : Mp w' m1 pf') : Sv w' s m1 m2 cs pf' nf :=
 ⟨(hg.block _ h.lt.1 (by intro e; injection e with e; exact h.a1 e)).trans h.hp, h.len, h.c13, h.c14, hm, h.mn.keep (hg.block _ h.lt.2.2 (by intro e; injection e with e; exact h.a3 e.symm)), h.a1, h.a2, h.a3⟩
theorem Sv.put2 {w w' : World} {s m1 m2 : Nat} {cs : List Value} {pf nf nf' : Th → Option Int} (h : Sv w s m1 m2 cs pf nf) (hg : w.grownBy w' (some m2)) (hm : Mp w' m2 nf') : Sv w' s m1 m2 cs pf nf' :=
 ⟨(hg.block _ h.lt.1 (by intro e; injection e with e; exact h.a2 e)).trans h.hp, h.len, h.c13, h.c14, h.mp.keep (hg.block _ h.lt.2.1 (by intro e; injection e with e; exact h.a3 e)), hm, h.a1, h.a2, h.a3⟩
theorem Sv.cell13 {w : World} {s m1 m2 : Nat} {cs : List Value} {pf nf : Th → Option Int} (h : Sv w s m1 m2 cs pf nf) : w.cell? ⟨s, 13, .none⟩ = some (.map (some m1)) ∧ w.cell? ⟨s, 14, .none⟩ = some (.map (some m2)) := by
 constructor
 ·rw [cell_heap h.hp, List.getElem?_toArray, h.c13]
 ·rw [cell_heap h.hp, List.getElem?_toArray, h.c14]
def ent (pf : Th → Option Int) (t : Th) (a : Int) : Th → Option Int := if (pf t).isSome then pf else upd pf t a
def cnt1 (nf : Th → Option Int) (t : Th) : Th → Option Int := upd nf t ((nf t).getD 0 + 1)
theorem info125 : ∃ i z, Try.prog.info? 101 = some i ∧ i.zero = some z ∧ i.size = 2 ∧ i.bytes = 16 ∧ z.cells.size = 2 := info_of 101 2 16 (by kernel_rfl) (by kernel_rfl)
set_option maxRecDepth 100000 in
theorem has_any {w : World} {s m1 m2 : Nat} {cs : List Value} {pf nf : Th → Option Int} (h : Sv w s m1 m2 cs pf nf) {t : Th} (ht : ThR t) : Calls Try.prog 47 #[.pointer (some ⟨s, 0, .none⟩), .agg (thL t).toArray] w fun e w' => e = .returned (.bool (pf t).isSome) ∧ Below w.heap.size w w' := by
 have HS : Hid (Sv w s m1 m2 cs pf nf ∧ ThR t) := ⟨h, ht⟩
 clear h ht
 go_enter Try.func47, Try.ntmps47
 go_upto_region 1 with (first
  | (refine wpList_is (.box 101 (.tmp 1)) rfl ?_; refine wpList_boxG 101 (thL t) 3 (.tmp 1) _ rfl rfl rfl rfl ?_; intro W1 hW1 hB1 hs1)
  | fail)
 have HB : Hid (Below w.heap.size w W1) := hB1
 have hv := HS.out.1.keep hB1
 have hS0 : (fun V : World => V.cell? ⟨s, 13, .none⟩ = some (.map (some m1)) ∧ V.rangeAt w.heap.size 0 (thL t) ∧ (Instr.lookup 77 (.map (some m1)) (.agg (thL t).toArray) true).run Try.prog V = .ok (.tuple #[.int .i64 ((pf t).getD 0), .bool (pf t).isSome]) V) W1.drew := ⟨hv.cell13.1, range_heap hW1, (hv.mp.keep (w' := W1.drew) rfl).look HS.out.2 |>.2⟩
 clear hW1 hs1 hv hB1
 generalize hc : (pf t).getD 0 = c at *
 generalize hd : (pf t).isSome = d at *
 refine region_set (fun V => V.cell? ⟨s, 13, .none⟩ = some (.map (some m1)) ∧ V.rangeAt w.heap.size 0 (thL t) ∧ (Instr.lookup 77 (.map (some m1)) (.agg (thL t).toArray) true).run Try.prog V = .ok (.tuple #[.int .i64 (c), .bool d]) V) 10 [] (by kernel_rfl) ?_
 have hS : (fun V : World => V.cell? ⟨s, 13, .none⟩ = some (.map (some m1)) ∧ V.rangeAt w.heap.size 0 (thL t) ∧ (Instr.lookup 77 (.map (some m1)) (.agg (thL t).toArray) true).run Try.prog V = .ok (.tuple #[.int .i64 (c), .bool d]) V) W1.drew := hS0
 refine sT 0 (.pointer (some ⟨s, 0, .none⟩)) rfl (fun ww hSw => by obtain ⟨hs1, hs2, hs3⟩ := hSw; go_simp) hS ?_
 simp only [x0,x1,x2,x3,x4,x5,x6]
 refine sT 1 (.pointer (some ⟨s, 0, .none⟩)) rfl (fun ww hSw => by obtain ⟨hs1, hs2, hs3⟩ := hSw; go_simp) hS ?_
 simp only [x0,x1,x2,x3,x4,x5,x6]
 refine sT 2 (.pointer (some ⟨s, 13, .none⟩)) rfl (fun ww hSw => by obtain ⟨hs1, hs2, hs3⟩ := hSw; go_simp) hS ?_
 simp only [x0,x1,x2,x3,x4,x5,x6]
 refine sT 3 (.map (some m1)) rfl (fun ww hSw => by obtain ⟨hs1, hs2, hs3⟩ := hSw; go_simp) hS ?_
 simp only [x0,x1,x2,x3,x4,x5,x6]
 refine sV (i := 4) (v := .agg ((thL t)).toArray) rfl (yieldsIf_load_mid (by rfl) 101 (.tmp 3) rfl (w.heap.size) (0) rfl ((thL t)) _ (fun ww hSw => hSw.2.1) Try.underlying101 rfl (by first | kernel_rfl | (rw [rfl]; kernel_rfl))) hS ?_
 simp only [x0,x1,x2,x3,x4,x5,x6]
 refine sT 5 (.tuple #[.int .i64 c, .bool d]) rfl (fun ww hSw => by obtain ⟨hs1, hs2, hs3⟩ := hSw; go_simp) hS ?_
 simp only [x0,x1,x2,x3,x4,x5,x6]
 refine sT 6 (.tuple #[.int .i64 c, .bool d]) rfl (fun ww hSw => by obtain ⟨hs1, hs2, hs3⟩ := hSw; go_simp) hS ?_
 simp only [x0,x1,x2,x3,x4,x5,x6]
 refine sT 7 (.int .i64 c) rfl (fun ww hSw => by obtain ⟨hs1, hs2, hs3⟩ := hSw; go_simp) hS ?_
 simp only [x0,x1,x2,x3,x4,x5,x6]
 refine sT 8 (.bool d) rfl (fun ww hSw => by obtain ⟨hs1, hs2, hs3⟩ := hSw; go_simp) hS ?_
 simp only [x0,x1,x2,x3,x4,x5,x6]
 refine sT 9 (.int .i64 c) rfl (fun ww hSw => by obtain ⟨hs1, hs2, hs3⟩ := hSw; go_simp) hS ?_
 simp only [x0,x1,x2,x3,x4,x5,x6]
 refine set_tail 1 10 _ _ _ _ (by kernel_rfl) (by decide) ?_
 simp only [List.toList_toArray, List.drop_succ_cons, List.drop_zero]
 clear hS hS0
 go_wp2
 go_ret
 exact ⟨by rw [hd]; rfl, HB.out.drew⟩
def EnP (w : World) (s m1 m2 : Nat) (cs : List Value) (pf nf : Th → Option Int) (e : Ending) (w' : World) : Prop := ∃ u, e = .returned u ∧ Sv w' s m1 m2 cs pf nf ∧ Fr m1 m2 w w'
set_option maxRecDepth 100000 in
theorem enter_any {w : World} {s m1 m2 : Nat} {cs : List Value} {pf nf : Th → Option Int} (h : Sv w s m1 m2 cs pf nf) {t : Th} (ht : ThR t) (a : Int) : Calls Try.prog 31 #[.pointer (some ⟨s, 0, .none⟩), .int .i64 a, .agg (thL t).toArray] w (EnP w s m1 m2 cs (ent pf t a) nf) := by
 have HS : Hid (Sv w s m1 m2 cs pf nf ∧ ThR t) := ⟨h, ht⟩
 clear h ht
 go_enter Try.func31, Try.ntmps31
 go_wp2_with (first
  | (refine wpList_is (.box 101 (.tmp 2)) rfl ?_; refine wpList_boxG 101 (thL t) 5 (.tmp 2) _ rfl rfl rfl rfl ?_; intro W1 hW1 hB1 hs1; have r1 : W1.rangeAt w.heap.size 0 (thL t) := range_heap hW1)
  | (refine wpList_is (.load 101 (.tmp 5)) rfl ?_; refine wpList_loadG 101 2 16 info125 _ Try.underlying101 rfl (thL t) rfl w.heap.size 0 (.tmp 5) rfl rfl rfl r1 (some 7) rfl ?_)
  | fail)
 go_at_call 47
 refine (has_any (HS.out.1.keep hB1) HS.out.2).mono ?_
 rintro e W2 ⟨rfl, hB2⟩
 have HB : Hid (Below w.heap.size w W2 ∧ W2.rangeAt w.heap.size 0 (thL t) ∧ w.heap.size < W2.heap.size) := ⟨hB1.trans (hB2.mono (by omega)), range_keep r1 hB2 (by omega), by have := hB2.size; omega⟩
 clear hW1 hB1 hs1 r1 hB2
 cases hd : (pf t).isSome
 ·have HE : Hid (ent pf t a = upd pf t a) := by show _ = _; unfold ent; rw [hd]; rfl
  clear hd
  go_upto_region 2 with fail
  have hv := HS.out.1.keep (HB.out.1)
  obtain ⟨W3, hrun, hm, hg, hsz⟩ := (hv.mp.keep (w' := W2.drew) rfl).upd HS.out.2 a
  have HV : Hid (Sv W3 s m1 m2 cs (upd pf t a) nf ∧ Fr m1 m2 w W3) := ⟨(hv.keep (w' := W2.drew) (Below.refl _ _).drew).put1 hg hm, (Fr.of_below HB.out.1.drew).trans (Fr.of_grown hg (.inl rfl))⟩
  have hS : (fun V : World => V.cell? ⟨s, 13, .none⟩ = some (.map (some m1)) ∧ V.rangeAt w.heap.size 0 (thL t)) W2.drew := ⟨hv.cell13.1, HB.out.2.1⟩
  have hrun2 : (Instr.mapUpdate 77 (.map (some m1)) (.agg (thL t).toArray) (.int .i64 a)).run Try.prog W2.drew = .ok () W3 := hrun
  clear hv hm hg hsz hrun
  refine region_set (fun V => V.cell? ⟨s, 13, .none⟩ = some (.map (some m1)) ∧ V.rangeAt w.heap.size 0 (thL t)) 6 [] (by kernel_rfl) ?_
  refine sT 0 (.pointer (some ⟨s, 0, .none⟩)) rfl (fun ww hSw => by obtain ⟨hs1, hs2⟩ := hSw; go_simp) hS ?_
  simp only [x0,x1,x2,x3,x4,x5,x6]
  refine sT 1 (.pointer (some ⟨s, 0, .none⟩)) rfl (fun ww hSw => by obtain ⟨hs1, hs2⟩ := hSw; go_simp) hS ?_
  simp only [x0,x1,x2,x3,x4,x5,x6]
  refine sT 2 (.pointer (some ⟨s, 13, .none⟩)) rfl (fun ww hSw => by obtain ⟨hs1, hs2⟩ := hSw; go_simp) hS ?_
  simp only [x0,x1,x2,x3,x4,x5,x6]
  refine sT 3 (.map (some m1)) rfl (fun ww hSw => by obtain ⟨hs1, hs2⟩ := hSw; go_simp) hS ?_
  simp only [x0,x1,x2,x3,x4,x5,x6]
  refine sV (i := 4) (v := .agg ((thL t)).toArray) rfl (yieldsIf_load_mid (by rfl) 101 (.tmp 5) rfl (w.heap.size) (0) rfl ((thL t)) _ (fun ww hSw => hSw.2) Try.underlying101 rfl (by first | kernel_rfl | (rw [rfl]; kernel_rfl))) hS ?_
  simp only [x0,x1,x2,x3,x4,x5,x6]
  refine sT 5 (.int .i64 a) rfl (fun ww hSw => by obtain ⟨hs1, hs2⟩ := hSw; go_simp) hS ?_
  simp only [x0,x1,x2,x3,x4,x5,x6]
  refine set_tail 1 6 _ _ _ _ (by kernel_rfl) (by decide) ?_
  simp only [List.toList_toArray, List.drop_succ_cons, List.drop_zero]
  clear hS
  generalize W2.drew = WD at *
  go_wp2
  refine bodyPost_end (results_none rfl _ _ _) rfl ?_
  exact ⟨_, rfl, by rw [HE.out]; exact HV.out⟩
 ·have HE : Hid (ent pf t a = pf) := by show _ = _; unfold ent; rw [hd]; rfl
  clear hd
  go_wp2
  refine bodyPost_end (results_none rfl _ _ _) rfl ?_
  exact ⟨_, rfl, by rw [HE.out]; exact ⟨HS.out.1.keep HB.out.1, Fr.of_below HB.out.1⟩⟩
end Go.Proofs.Ythopgmmodldljab
