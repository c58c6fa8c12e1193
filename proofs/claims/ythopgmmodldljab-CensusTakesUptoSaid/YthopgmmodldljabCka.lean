import Derived.Test.YthopgmmodldljabAh
import Derived.Test.YthopgmmodldljabAf
import Derived.Test.YthopgmmodldljabAp
import Derived.Test.YthopgmmodldljabBb
namespace Go.Proofs.Ythopgmmodldljab
open Go Go.RowKit
set_option linter.unusedVariables false
set_option linter.unusedSimpArgs false
/-- The frames of a process's pages that have these bits. -/
def rch (a : Int) (l : List Pg) : List Int := (l.filter fun g => bits .and .u64 g.pm a == a).map (·.fr)
theorem rch_app (a : Int) (l : List Pg) (g : Pg) : rch a (l ++ [g]) = if (bits .and .u64 g.pm a == a) = true then rch a l ++ [g.fr] else rch a l := by
 unfold rch
 rw [List.filter_append, List.map_append]
 split
 ·rename_i h
  simp [h]
 ·rename_i h
  simp [h]
def RcP (w : World) (l : List Int) (e : Ending) (w' : World) : Prop := ∃ u, e = .returned u ∧ w'.ownsRow w.heap.size 22 1 u l.length (l.map (.int .u64)) ∧ Below w.heap.size w w'
/-- The slots of the processes whose parent is s, but s itself. -/
def kids (s : Int) (l : List Pc) : List Int := (l.filter fun p => p.c 3 == s && p.c 0 != s).map (·.c 0)
theorem kids_app (s : Int) (l : List Pc) (p : Pc) : kids s (l ++ [p]) = if (p.c 3 == s && p.c 0 != s) = true then kids s l ++ [p.c 0] else kids s l := by
 unfold kids
 rw [List.filter_append, List.map_append]
 split
 ·rename_i h
  simp only [List.filter_cons, h, if_true, List.filter_nil, List.map_cons, List.map_nil]
 ·rename_i h
  simp only [List.filter_cons, h, if_false, List.filter_nil, List.map_nil, List.append_nil, Bool.false_eq_true]
theorem int_info : ∃ i z, Try.prog.info? 3 = some i ∧ i.zero = some z ∧ i.size = 1 ∧ i.bytes = 8 ∧ z.cells.size = 1 := info_of 3 1 8 (by kernel_rfl) (by kernel_rfl)
def KdP (w : World) (l : List Int) (e : Ending) (w' : World) : Prop := ∃ u, e = .returned u ∧ w'.ownsRow w.heap.size 3 1 u l.length (l.map (.int .i64)) ∧ Below w.heap.size w w'
end Go.Proofs.Ythopgmmodldljab
namespace Go.Proofs.Ythopgmmodldljab
open Go Go.RowKit
set_option linter.unusedVariables false
set_option linter.unusedSimpArgs false
/-- One alone may come up. -/
theorem set_only {P : Program} {ops : Array Oper} {Q : Exit → Act → World → Prop} {md : Region.Mode} {S : World → Prop} {Z : Nat → Bool} {i n : Nat} {oi : Oper} {listed : Array Bool} {a : Act} {w : World} (hr : Region.ready md ops listed = [i]) (hi : ops[i]? = some oi) (hwd : Region.wanted oi (yielded ops a.tmps) = true)
  (h : ∀ K : Act → World → Prop, Hid (∀ a' w', (Z i = false → S w') → wpSet P md ops Q S Z n (listed.setIfInBounds i true) a' w' → K a' w') → oi.wp P a w K Q) : wpSet P md ops Q S Z (n + 1) listed a w := by
 refine ⟨fun h0 => (by rw [hr] at h0; cases h0), fun j hj => ?_⟩
 rw [hr, List.mem_singleton] at hj
 subst hj
 unfold wpOp
 simp only [hi, hwd, if_true]
 exact .inl (h _ (fun a' w' h1 h2 => ⟨h1, h2⟩))
/-- The process whose pages are reached. -/
def rcP (s : Int) (l : List Pc) : Option Pc := match l.find? (fun p => p.c 0 == s) with
 | some p => if p.c 2 = 3 then none else some p
 | none => none
def rcL (s a : Int) (l : List Pc) : List Int := match rcP s l with | some p => rch a p.pages | none => []
def RhP (w : World) (s : Int) (l : List Pc) (e : Ending) (w' : World) : Prop := ∃ u1 u2 u3, e = .returned (.tuple #[u1, u2, u3]) ∧ Owns w' w.heap.size [rowN (rcL s 18 l) u1, rowN (rcL s 20 l) u2, rowN (rcL s 24 l) u3] ∧ Below w.heap.size w w'
theorem owns_nil3 (w : World) (z : Nat) : Owns w z [rowN [] (.slice none 0 0), rowN [] (.slice none 0 0), rowN [] (.slice none 0 0)] := by
 refine ⟨fun r hr => ?_, by simp [blks, rowN, Value.ownBlock]⟩
 simp only [List.mem_cons, List.not_mem_nil, or_false, or_self] at hr
 subst hr
 exact World.ownsRow_nil _ _ _ _
end Go.Proofs.Ythopgmmodldljab
namespace Go.Proofs.Ythopgmmodldljab
open Go Go.RowKit
set_option linter.unusedVariables false
set_option linter.unusedSimpArgs false
theorem below_drewN (B : Nat) (w : World) : ∀ j, Below B w (w.drewN j)
 | 0 => Below.refl _ _
 | j + 1 => (below_drewN B w j).drew
set_option maxHeartbeats 1000000 in
theorem sameWords_eq {w : World} {X Y : Nat} {u v : Value} {l : List Int} (h1 : Sl w X 1 (qI .u64) u l) (h2 : Sl w Y 1 (qI .u64) v l) (hn : l.length ≤ 10000000) : Calls Try.prog 11 #[u, v] w fun e w' => e = .returned (.bool true) ∧ Below w.heap.size w w' := by
 obtain ⟨p1, c1, rfl⟩ := h1.form
 obtain ⟨p2, c2, rfl⟩ := h2.form
 obtain ⟨n, hnl⟩ : ∃ n, n = l.length := ⟨_, rfl⟩
 rw [← hnl] at h1 h2 hn ⊢
 have H1 : Hid (Sl w X 1 (qI .u64) (.slice p1 n c1) l) := h1
 have H2 : Hid (Sl w Y 1 (qI .u64) (.slice p2 n c2) l) := h2
 clear h1 h2 hnl
 go_enter Try.func11, Try.ntmps11
 go_wp2
 go_loopw [5] (fun k wr => ∃ i : Nat, i ≤ n ∧ k = .int .i64 i ∧ ∃ j, wr = w.drewN j) (fun k _ => (n - intOf k).toNat)
 case atStart => exact ⟨0, by omega, rfl, 0, rfl⟩
 case round =>
  obtain ⟨i, hi, rfl, j, rfl⟩ := hrel
  by_cases hlt : i < n
  ·have g0 : (i : Int) < n := by omega
   obtain ⟨-, b1, o1, x, cs, rfl, _, hx, rfl, _, hr1⟩ := H1.out.at hlt
   obtain ⟨-, b2, o2, x2, cs2, rfl, _, hx2, rfl, _, hr2⟩ := H2.out.at hlt
   rw [hx] at hx2
   injection hx2 with hx2
   subst hx2
   have a0 := hr1 0 _ rfl
   have b0 := hr2 0 _ rfl
   rw [Nat.mul_one, Nat.add_zero] at a0 b0
   clear hx hr1 hr2
   go_wp2
   go_region
   go_wp2
   exact ⟨⟨i + 1, by omega, rfl, j + 1, rfl⟩, by simp only [intOf]; omega⟩
  ·obtain rfl : i = n := by omega
   have g0 : ¬ (i : Int) < i := by omega
   clear hi hlt
   go_wp2
   go_ret
   exact ⟨rfl, below_drewN _ _ _⟩
end Go.Proofs.Ythopgmmodldljab
namespace Go.Proofs.Ythopgmmodldljab
open Go Go.RowKit
set_option linter.unusedVariables false
set_option linter.unusedSimpArgs false
theorem range_sub {w : World} {b o k : Nat} {l s : List Value} (h : w.rangeAt b o l) (hs : ∀ j v, s[j]? = some v → l[k + j]? = some v) : w.rangeAt b (o + k) s := fun j v hj => by
 have := h (k + j) v (hs j v hj)
 rwa [← Nat.add_assoc] at this
/-- A load of a whole struct, guarded, and wanted. -/
theorem wpList_loadW {w : World} {ops : Array Oper} {rest : List Oper} {o : Oper} {a : Act} {Q : Exit → Act → World → Prop} (t : Nat) (d : TypeDesc) (hu : Try.prog.underlying t = some d) (hd : d.isRow = true) (cs : List Value) (hi : (Try.prog.info? t).map (·.size) = some cs.length) (g f : Nat) (x : Operand) (hw : Region.wanted o (yielded ops a.tmps) = true) (ho : o.op = .load t x) (hx : a.eval x = .pointer (some ⟨g, f, .none⟩)) (hr : w.rangeAt g f cs) (e : Option Tmp) (he : o.dst = e)
  (h : wpList Try.prog ops Q rest (a.put e (.agg cs.toArray)) w) : wpList Try.prog ops Q (o :: rest) a w := by
 subst he
 unfold wpList
 rw [if_pos hw]
 exact .inl (wp_load_mid t x ho g f hx cs d hr hu hd hi h)
theorem sub_of {l s : List Value} {k : Nat} (h : (l.drop k).take s.length = s) : ∀ (j : Nat) (v : Value), s[j]? = some v → l[k + j]? = some v := by
 intro j v hj
 have hl : j < s.length := (List.getElem?_eq_some_iff.1 hj).1
 rw [← h, List.getElem?_take, if_pos hl, List.getElem?_drop] at hj
 exact hj
theorem Sl.ofA {w : World} {base : Nat} {v : Value} {l : List Nm} (h : w.ownsRow base 88 3 v l.length ((l.map An).flatten)) : Sl w w.heap.size 3 (fun x cs => cs = An x) v l :=
 Sl.ofOwn (C := l.map An) h rfl (by intro c hc; obtain ⟨x, _, rfl⟩ := List.mem_map.1 hc; rfl) rfl (by simp) (by
  intro i x cs h1 h2
  rw [List.getElem?_map, h1] at h2
  simpa using h2.symm)
theorem Owns.join {w w' : World} {base : Nat} {R S : List Row} (h : Owns w base R) (hb : Below w.heap.size w w') (hS : Owns w' w.heap.size S) (hB : base ≤ w.heap.size) : Owns w' base (S ++ R) := by
 refine ⟨fun r hr => ?_, ?_⟩
 ·rcases List.mem_append.1 hr with hr | hr
  ·exact own_mono (hS.own r hr) hB
  ·exact (h.keep hb).own r hr
 ·unfold blks
  rw [List.filterMap_append]
  refine List.nodup_append.2 ⟨hS.nd, h.nd, fun a ha b hb' e => ?_⟩
  have h1 := (hS.lt a ha).1
  have h2 := (h.lt b hb').2
  omega
theorem own_blk {w w' : World} {base e k n : Nat} {v : Value} {xs : List Value} (h : w.ownsRow base e k v n xs) (hb : ∀ g, v.ownBlock = some g → w'.heap[g]? = w.heap[g]?) : w'.ownsRow base e k v n xs := by
 obtain ⟨h1, h2⟩ := h
 refine ⟨h1, h2.imp id ?_⟩
 rintro ⟨g, cap, cur, rfl, hbg, hg, r⟩
 exact ⟨g, cap, cur, rfl, hbg, (hb g rfl).trans hg, r⟩
theorem map_flat (k : IntKind) : ∀ l : List Int, l.map (Value.int k) = (l.map fun x => [Value.int k x]).flatten
 | [] => rfl
 | x :: l => by rw [List.map_cons, List.map_cons, List.flatten_cons, map_flat k l]; rfl
theorem Sl.ofI {w : World} {base e : Nat} {k : IntKind} {v : Value} {l : List Int} (h : w.ownsRow base e 1 v l.length (l.map (.int k))) : Sl w w.heap.size 1 (qI k) v l :=
 Sl.ofOwn (C := l.map fun x => [.int k x]) h (map_flat k l) (by intro c hc; obtain ⟨x, _, rfl⟩ := List.mem_map.1 hc; rfl) rfl (by simp) (by
  intro i x cs h1 h2
  rw [List.getElem?_map, h1] at h2
  simpa [qI] using h2.symm)
/-- What a twin is, as it is read. -/
theorem owns_lk {w : World} {base : Nat} {L : Lk} {pv fv iv qv rv lv : Value} {E : List PE} {EI : List IE} {EQ : List QE} {T : List Row} (h1 : E.map (·.1) = L.procs) (h2 : EI.map (·.1) = L.inos) (h3 : EQ.map (·.1) = L.pipes) (O : Owns w base ([rowP E pv, rowF L.files fv, rowI EI iv, rowQ EQ qv, rowB L.ready rv, rowB L.line lv] ++ (rowsP E ++ rowsI EI ++ rowsQ EQ))) : LkW w w.heap.size pv fv iv qv rv lv L := by
 have kN : ∀ {l v}, rowN l v ∈ rowsP E ++ rowsI EI ++ rowsQ EQ → Wd w w.heap.size v l := fun hm => Sl.ofI (O.own _ (List.mem_append.2 (.inr hm)))
 have kB : ∀ {l v}, rowB l v ∈ rowsP E ++ rowsI EI ++ rowsQ EQ → Bt w w.heap.size v l := fun hm => Sl.ofI (O.own _ (List.mem_append.2 (.inr hm)))
 have kG : ∀ {l v}, rowG l v ∈ rowsP E ++ rowsI EI ++ rowsQ EQ → Gs w w.heap.size v l := fun {l v} hm =>
  Sl.ofOwn (C := l.map Pg.l) (O.own _ (List.mem_append.2 (.inr hm))) rfl (by intro c hc; obtain ⟨x, _, rfl⟩ := List.mem_map.1 hc; rfl) rfl (by simp [rowG]) (by
   intro i x cs h1 h2
   rw [List.getElem?_map, h1] at h2
   simpa using h2.symm)
 refine ⟨?_, ?_, ?_, ?_, Sl.ofI (O.own (rowB L.ready rv) (by simp)), Sl.ofI (O.own (rowB L.line lv) (by simp))⟩
 ·refine Sl.ofOwn (C := E.map PE.l) (O.own (rowP E pv) (by simp)) rfl (by intro c hc; obtain ⟨x, _, rfl⟩ := List.mem_map.1 hc; rfl) (by rw [← h1]; simp [rowP]) (by simp [rowP]) ?_
  intro i x cs hx hc
  rw [← h1, List.getElem?_map] at hx
  rw [List.getElem?_map] at hc
  cases he : E[i]? with
  | none => rw [he] at hx; cases hx
  | some e =>
   rw [he] at hx hc
   simp only [Option.map_some, Option.some.injEq] at hx hc
   subst hx hc
   have hm := List.mem_of_getElem? he
   exact ⟨e.2.1, e.2.2, rfl, kN (by simp only [List.mem_append]; exact .inl (.inl (List.mem_flatMap.2 ⟨e, hm, by simp⟩))), kG (by simp only [List.mem_append]; exact .inl (.inl (List.mem_flatMap.2 ⟨e, hm, by simp⟩)))⟩
 ·refine Sl.ofOwn (C := L.files.map Fi.l) (O.own (rowF L.files fv) (by simp)) rfl (by intro c hc; obtain ⟨x, _, rfl⟩ := List.mem_map.1 hc; rfl) rfl (by simp [rowF]) ?_
  intro i x cs hx hc
  rw [List.getElem?_map, hx] at hc
  simpa using hc.symm
 ·refine Sl.ofOwn (C := EI.map IE.l) (O.own (rowI EI iv) (by simp)) rfl (by intro c hc; obtain ⟨x, _, rfl⟩ := List.mem_map.1 hc; rfl) (by rw [← h2]; simp [rowI]) (by simp [rowI]) ?_
  intro i x cs hx hc
  rw [← h2, List.getElem?_map] at hx
  rw [List.getElem?_map] at hc
  cases he : EI[i]? with
  | none => rw [he] at hx; cases hx
  | some e =>
   rw [he] at hx hc
   simp only [Option.map_some, Option.some.injEq] at hx hc
   subst hx hc
   have hm := List.mem_of_getElem? he
   exact ⟨e.2, rfl, kN (by simp only [List.mem_append]; exact .inl (.inr (List.mem_map.2 ⟨e, hm, rfl⟩)))⟩
 ·refine Sl.ofOwn (C := EQ.map QE.l) (O.own (rowQ EQ qv) (by simp)) rfl (by intro c hc; obtain ⟨x, _, rfl⟩ := List.mem_map.1 hc; rfl) (by rw [← h3]; simp [rowQ]) (by simp [rowQ]) ?_
  intro i x cs hx hc
  rw [← h3, List.getElem?_map] at hx
  rw [List.getElem?_map] at hc
  cases he : EQ[i]? with
  | none => rw [he] at hx; cases hx
  | some e =>
   rw [he] at hx hc
   simp only [Option.map_some, Option.some.injEq] at hx hc
   subst hx hc
   have hm := List.mem_of_getElem? he
   exact ⟨e.2, rfl, kB (by simp only [List.mem_append]; exact .inr (List.mem_map.2 ⟨e, hm, rfl⟩))⟩
/-- A twin: the same look, in new memory. -/
theorem twin_lk {w : World} {X : Nat} {pv fv iv qv rv lv : Value} {L : Lk} (h : LkW w X pv fv iv qv rv lv L) (hX : X ≤ w.heap.size) (hs : Sml L) : Calls Try.prog 5 #[.agg (lkL L.tramp pv fv iv qv rv lv L.ticks L.next L.free).toArray] w fun e w' => ∃ pv' fv' iv' qv' rv' lv', e = .returned (.agg (lkL L.tramp pv' fv' iv' qv' rv' lv' L.ticks L.next L.free).toArray) ∧ LkW w' w'.heap.size pv' fv' iv' qv' rv' lv' L ∧ Below w.heap.size w w' :=
 (twin_any h hX hs).mono (fun e w' ⟨pv', fv', iv', qv', rv', lv', E, EI, EQ, he, hb, h1, h2, h3, O⟩ => ⟨pv', fv', iv', qv', rv', lv', he, owns_lk (T := []) h1 h2 h3 O, hb⟩)
theorem sumN_mem {α : Type} (f : α → Nat) : ∀ (l : List α) (x : α), x ∈ l → f x ≤ sumN (l.map f)
 | y :: l, x, h => by
  simp only [List.map_cons, sumN]
  rcases List.mem_cons.1 h with rfl | h
  ·omega
  ·have := sumN_mem f l x h; omega
theorem flat_sum {α β : Type} (g : α → List β) (f : α → Nat) (h : ∀ x, (g x).length = f x) : ∀ l : List α, (l.flatMap g).length = sumN (l.map f)
 | [] => rfl
 | x :: l => by rw [List.flatMap_cons, List.length_append, h, flat_sum g f h l]; simp [sumN]
theorem sumN_one {α : Type} (f : α → Nat) : ∀ l : List α, sumN (l.map fun x => f x + 1) = sumN (l.map f) + l.length
 | [] => rfl
 | x :: l => by simp only [List.map_cons, sumN, sumN_one f l, List.length_cons]; omega
theorem allL_len (L : Lk) (fr : List Int) : (allL L fr).length ≤ 1 + fewN L fr.length := by
 have h1 : (L.procs.flatMap nmP).length = sumN (L.procs.map fun p => p.nodes.length + p.pages.length) + L.procs.length := by
  rw [flat_sum nmP (fun p => (p.nodes.length + p.pages.length) + 1) (fun p => by simp [nmP, nmN, nmG]; omega) L.procs, sumN_one]
 have h2 : (L.inos.flatMap nmI).length = sumN (L.inos.map fun p => p.bl.length) := flat_sum nmI _ (fun p => by simp [nmI, nmB]) L.inos
 unfold allL fewN
 simp only [List.length_append, List.length_cons, List.length_nil, h1, h2, nmF, List.length_map]
 omega
end Go.Proofs.Ythopgmmodldljab
