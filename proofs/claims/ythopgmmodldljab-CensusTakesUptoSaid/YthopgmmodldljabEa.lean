import Derived.Test.YthopgmmodldljabLo
import Derived.Test.YthopgmmodldljabBd
import Derived.DeepKeys4
import Derived.MapViews
import Derived.WideKeyEntry
import Derived.Maps.OwnSet
namespace Go.Proofs.Ythopgmmodldljab
open Go.ChangeShapes Go.WideShapes Go.ChangeAt Go.RowKit
set_option linter.unusedVariables false
set_option linter.unusedSimpArgs false
def k55 : List (Nat × CK) := [(0, .int .i64), (1, .int .i64), (2, .int .i64), (3, .int .i64), (4, .int .i64), (5, .int .i64), (6, .bool), (7, .int .i32), (8, .int .u64), (9, .int .u64), (10, .int .u64), (11, .int .u64), (12, .int .u64), (13, .int .u64), (14, .int .u64), (15, .int .u64), (16, .int .u64), (17, .int .u64), (18, .int .u64), (19, .int .u64), (20, .int .u64), (21, .int .u64), (22, .int .u64), (23, .int .u64), (24, .int .u64), (25, .int .u64), (26, .int .u64), (27, .int .u64), (28, .int .u64), (29, .int .u64), (30, .int .u64), (31, .int .u64), (32, .int .u64), (33, .int .u64), (34, .int .u64), (35, .int .u64), (36, .int .u64), (37, .int .u64), (38, .int .u64), (39, .int .u64), (40, .int .u64), (41, .int .u64), (42, .int .u64), (43, .int .u64), (44, .row 32), (45, .row 54), (46, .int .i64), (47, .int .i64), (48, .int .i64), (49, .int .i64), (50, .int .i64), (51, .int .i64), (52, .int .i64), (53, .int .i64), (54, .int .i64), (55, .int .i64), (56, .int .i64), (57, .int .i64), (58, .int .i64), (59, .int .i64), (60, .int .i64), (61, .int .i64), (62, .int .i64), (63, .bool), (64, .int .i64), (65, .int .u64), (66, .int .u64), (67, .int .u64), (68, .int .i64), (69, .int .u64)]
theorem ck55 : cks Try.prog 8 60 = k55 := by kernel_rfl
def k81 : List (Nat × CK) := [(0, .int .u64), (1, .int .u64), (2, .int .u64)]
theorem ck81 : cks Try.prog 8 65 = k81 := by kernel_rfl
def k94 : List (Nat × CK) := [(0, .int .i64), (1, .int .i64), (2, .int .i64), (3, .bool), (4, .bool), (5, .int .i64), (6, .int .i64), (7, .int .i64)]
theorem ck94 : cks Try.prog 8 67 = k94 := by kernel_rfl
def k66 : List (Nat × CK) := [(0, .int .i64), (1, .int .i64), (2, .int .i16), (3, .int .i16), (4, .int .i64), (5, .int .i64), (6, .int .i64), (7, .row 32)]
theorem ck66 : cks Try.prog 8 63 = k66 := by kernel_rfl
def k98 : List (Nat × CK) := [(0, .int .i64), (1, .row 27), (2, .int .u32), (3, .int .u32), (4, .bool), (5, .bool)]
theorem ck98 : cks Try.prog 8 72 = k98 := by kernel_rfl
def k33 : List (Nat × CK) := [(0, .int .u64), (1, .row 23), (2, .row 24), (3, .row 25), (4, .row 26), (5, .row 27), (6, .row 27), (7, .int .u64), (8, .int .i64), (9, .int .i64)]
theorem ck33 : cks Try.prog 8 31 = k33 := by kernel_rfl
abbrev u64R (a : Int) : Prop := (Lit.int .u64 a).wf = true
abbrev i64R (a : Int) : Prop := (Lit.int .i64 a).wf = true
abbrev u8R (a : Int) : Prop := (Lit.int .u8 a).wf = true
structure PgR (g : Pg) : Prop where
 no : u64R g.no
 fr : u64R g.fr
 pm : u64R g.pm
structure PcR (p : Pc) : Prop where
 c : ∀ i k, (i, CK.int k) ∈ k55 → (Lit.int k (p.c i)).wf = true
 n : ∀ a ∈ p.nodes, u64R a
 g : ∀ a ∈ p.pages, PgR a
 nl : p.nodes.length ≤ 1048576
 gl : p.pages.length ≤ 1048576
structure FiR (f : Fi) : Prop where
 num : i64R f.num
 kind : i64R f.kind
 refs : i64R f.refs
 ino : i64R f.ino
 off : i64R f.off
 pipe : i64R f.pipe
structure InR (x : In) : Prop where
 ino : i64R x.ino
 ty : i64R x.ty
 links : i64R x.links
 refs : i64R x.refs
 size : i64R x.size
 b : ∀ a ∈ x.bl, u64R a
 bl : x.bl.length ≤ 1048576
structure PpR (x : Pp) : Prop where
 num : i64R x.num
 b : ∀ a ∈ x.bs, u8R a
 bl : x.bs.length ≤ 1048576
structure LkR (L : Lk) : Prop where
 tr : u64R L.tramp
 p : ∀ x ∈ L.procs, PcR x
 f : ∀ x ∈ L.files, FiR x
 i : ∀ x ∈ L.inos, InR x
 q : ∀ x ∈ L.pipes, PpR x
 ti : u64R L.ticks
 nx : i64R L.next
 fr : i64R L.free
 pl : L.procs.length ≤ 1048576
 fl : L.files.length ≤ 1048576
 il : L.inos.length ≤ 1048576
 ql : L.pipes.length ≤ 1048576
 rl : L.ready.length ≤ 1048576
 ll : L.line.length ≤ 1048576
instance : Inhabited Pg := ⟨⟨0, 0, 0⟩⟩
instance : Inhabited Pc := ⟨⟨fun _ => 0, false, false, [], []⟩⟩
instance : Inhabited Fi := ⟨⟨0, 0, 0, false, false, 0, 0, 0⟩⟩
instance : Inhabited In := ⟨⟨0, 0, 0, 0, 0, 0, 0, []⟩⟩
instance : Inhabited Pp := ⟨⟨0, [], 0, 0, false, false⟩⟩
section
variable {H : Type} {enc : TypeId × Value → H} {w : World} {base : Nat} {held : Bool}
theorem open_words {t e : TypeId} {k : IntKind} (hu : Try.prog.underlying t = some (.slice e)) (he : Try.prog.underlying e = some (.int k)) (hc : Try.prog.cellsOf e = 1) {fuel : Nat} {v : Value} {d : DataW H} {pl : List MemPlace} (h : DataW.trod enc Try.prog w base (fun _ => true) held fuel t [v] = some (d, pl)) (hB : Rows.uptoBulk d ≤ 1048576) : ∃ l : List Int, Sl w w.heap.size 1 (qI k) v l ∧ (∀ a ∈ l, (Lit.int k a).wf = true) ∧ l.length ≤ 1048576 := by
 obtain ⟨l, hl, hn⟩ := open_sl (fun (x : Int) cs => qI k x cs ∧ (Lit.int k x).wf = true) hu hc (by decide) (fun n cs d pl hlen ht hb => by
  obtain ⟨z, hz, _, hw⟩ := DataW.trod_int he ht
  exact ⟨z, hz, hw⟩) h hB
 exact ⟨l, hl.weak (fun _ _ q => q.1), fun a ha => let ⟨_, q⟩ := hl.all a ha; q.2, hn⟩
theorem open_pg {fuel : Nat} {v : Value} {d : DataW H} {pl : List MemPlace} (h : DataW.trod enc Try.prog w base (fun _ => true) held fuel 54 [v] = some (d, pl)) (hB : Rows.uptoBulk d ≤ 1048576) : ∃ l : List Pg, Gs w w.heap.size v l ∧ (∀ a ∈ l, PgR a) ∧ l.length ≤ 1048576 := by
 obtain ⟨l, hl, hn⟩ := open_sl (sz := 3) (fun (x : Pg) cs => cs = x.l ∧ PgR x) Try.underlying54 (by kernel_rfl) (by decide) (fun n cs d pl hlen ht hb => by
  obtain ⟨c, bf, rv, hcs, hi, hr⟩ := open_mk 8 k81 ck81 rfl ht hb hlen
  refine ⟨⟨c 0, c 1, c 2⟩, hcs, hi 0 _ (by simp [k81]), hi 1 _ (by simp [k81]), hi 2 _ (by simp [k81])⟩) h hB
 exact ⟨l, hl.weak (fun _ _ q => q.1), fun a ha => let ⟨_, q⟩ := hl.all a ha; q.2, hn⟩
theorem open_ps {fuel : Nat} {v : Value} {d : DataW H} {pl : List MemPlace} (h : DataW.trod enc Try.prog w base (fun _ => true) held fuel 23 [v] = some (d, pl)) (hB : Rows.uptoBulk d ≤ 1048576) : ∃ l : List Pc, Ps w w.heap.size v l ∧ (∀ a ∈ l, PcR a) ∧ l.length ≤ 1048576 := by
 obtain ⟨l, hl, hn⟩ := open_sl (sz := 70) (fun (x : Pc) cs => (∃ nv gv, cs = x.l nv gv ∧ Wd w w.heap.size nv x.nodes ∧ Gs w w.heap.size gv x.pages) ∧ PcR x) Try.underlying23 (by kernel_rfl) (by decide) (fun n cs d pl hlen ht hb => by
  obtain ⟨c, bf, rv, hcs, hi, hr⟩ := open_mk 8 k55 ck55 rfl ht hb hlen
  obtain ⟨f1, d1, p1, g1, b1⟩ := hr 44 32 (by simp [k55])
  obtain ⟨f2, d2, p2, g2, b2⟩ := hr 45 54 (by simp [k55])
  obtain ⟨l1, s1, q1, n1⟩ := open_words Try.underlying32 Try.underlying22 (by kernel_rfl) g1 b1
  obtain ⟨l2, s2, q2, n2⟩ := open_pg g2 b2
  exact ⟨⟨c, bf 6, bf 63, l1, l2⟩, ⟨rv 44, rv 45, hcs, s1, s2⟩, hi, q1, q2, n1, n2⟩) h hB
 exact ⟨l, hl.weak (fun _ _ q => q.1), fun a ha => let ⟨_, q⟩ := hl.all a ha; q.2, hn⟩
theorem open_fs {fuel : Nat} {v : Value} {d : DataW H} {pl : List MemPlace} (h : DataW.trod enc Try.prog w base (fun _ => true) held fuel 24 [v] = some (d, pl)) (hB : Rows.uptoBulk d ≤ 1048576) : ∃ l : List Fi, Fs w w.heap.size v l ∧ (∀ a ∈ l, FiR a) ∧ l.length ≤ 1048576 := by
 obtain ⟨l, hl, hn⟩ := open_sl (sz := 8) (fun (x : Fi) cs => cs = x.l ∧ FiR x) Try.underlying24 (by kernel_rfl) (by decide) (fun n cs d pl hlen ht hb => by
  obtain ⟨c, bf, rv, hcs, hi, hr⟩ := open_mk 8 k94 ck94 rfl ht hb hlen
  exact ⟨⟨c 0, c 1, c 2, bf 3, bf 4, c 5, c 6, c 7⟩, hcs, hi 0 _ (by simp [k94]), hi 1 _ (by simp [k94]), hi 2 _ (by simp [k94]), hi 5 _ (by simp [k94]), hi 6 _ (by simp [k94]), hi 7 _ (by simp [k94])⟩) h hB
 exact ⟨l, hl.weak (fun _ _ q => q.1), fun a ha => let ⟨_, q⟩ := hl.all a ha; q.2, hn⟩
theorem open_is {fuel : Nat} {v : Value} {d : DataW H} {pl : List MemPlace} (h : DataW.trod enc Try.prog w base (fun _ => true) held fuel 25 [v] = some (d, pl)) (hB : Rows.uptoBulk d ≤ 1048576) : ∃ l : List In, Is w w.heap.size v l ∧ (∀ a ∈ l, InR a) ∧ l.length ≤ 1048576 := by
 obtain ⟨l, hl, hn⟩ := open_sl (sz := 8) (fun (x : In) cs => (∃ bv, cs = x.l bv ∧ Wd w w.heap.size bv x.bl) ∧ InR x) Try.underlying25 (by kernel_rfl) (by decide) (fun n cs d pl hlen ht hb => by
  obtain ⟨c, bf, rv, hcs, hi, hr⟩ := open_mk 8 k66 ck66 rfl ht hb hlen
  obtain ⟨f1, d1, p1, g1, b1⟩ := hr 7 32 (by simp [k66])
  obtain ⟨l1, s1, q1, n1⟩ := open_words Try.underlying32 Try.underlying22 (by kernel_rfl) g1 b1
  exact ⟨⟨c 0, c 1, c 2, c 3, c 4, c 5, c 6, l1⟩, ⟨rv 7, hcs, s1⟩, hi 0 _ (by simp [k66]), hi 1 _ (by simp [k66]), hi 4 _ (by simp [k66]), hi 5 _ (by simp [k66]), hi 6 _ (by simp [k66]), q1, n1⟩) h hB
 exact ⟨l, hl.weak (fun _ _ q => q.1), fun a ha => let ⟨_, q⟩ := hl.all a ha; q.2, hn⟩
theorem open_qs {fuel : Nat} {v : Value} {d : DataW H} {pl : List MemPlace} (h : DataW.trod enc Try.prog w base (fun _ => true) held fuel 26 [v] = some (d, pl)) (hB : Rows.uptoBulk d ≤ 1048576) : ∃ l : List Pp, Qs w w.heap.size v l ∧ (∀ a ∈ l, PpR a) ∧ l.length ≤ 1048576 := by
 obtain ⟨l, hl, hn⟩ := open_sl (sz := 6) (fun (x : Pp) cs => (∃ bv, cs = x.l bv ∧ Bt w w.heap.size bv x.bs) ∧ PpR x) Try.underlying26 (by kernel_rfl) (by decide) (fun n cs d pl hlen ht hb => by
  obtain ⟨c, bf, rv, hcs, hi, hr⟩ := open_mk 8 k98 ck98 rfl ht hb hlen
  obtain ⟨f1, d1, p1, g1, b1⟩ := hr 1 27 (by simp [k98])
  obtain ⟨l1, s1, q1, n1⟩ := open_words Try.underlying27 Try.underlying5 (by kernel_rfl) g1 b1
  exact ⟨⟨c 0, l1, c 2, c 3, bf 4, bf 5⟩, ⟨rv 1, hcs, s1⟩, hi 0 _ (by simp [k98]), q1, n1⟩) h hB
 exact ⟨l, hl.weak (fun _ _ q => q.1), fun a ha => let ⟨_, q⟩ := hl.all a ha; q.2, hn⟩
set_option maxRecDepth 100000 in
/-- A look as it is handed in. -/
theorem open_look {base' : Nat} {r : Reach} {v : Value} {d : DataW H} {p : List MemPlace} (hv : Value.okWide Try.prog w r base' 31 v) (h : DataW.Trod enc Try.prog w base (fun _ => true) held 31 v d p) (hB : Rows.uptoBulk d ≤ 1048576) :
  ∃ (L : Lk) (pv fv iv qv rv lv : Value), v = .agg (lkL L.tramp pv fv iv qv rv lv L.ticks L.next L.free).toArray ∧ LkW w w.heap.size pv fv iv qv rv lv L ∧ LkR L := by
 obtain ⟨cs, rfl, hsz⟩ := okWide_struct Try.underlying31 hv
 have hsz2 : cs.toList.length = k33.length := by
  have : cs.size = 10 := hsz.trans (by kernel_rfl)
  rw [Array.length_toList, this]
  rfl
 obtain ⟨fuel, hf⟩ := h
 have hf' : DataW.trod enc Try.prog w base (fun _ => true) held fuel 31 cs.toList = some (d, p) := hf
 obtain ⟨c, bf, rv, hcs, hi, hr⟩ := open_mk 8 k33 ck33 rfl hf' hB hsz2
 obtain ⟨_, _, _, g1, b1⟩ := hr 1 23 (by simp [k33])
 obtain ⟨_, _, _, g2, b2⟩ := hr 2 24 (by simp [k33])
 obtain ⟨_, _, _, g3, b3⟩ := hr 3 25 (by simp [k33])
 obtain ⟨_, _, _, g4, b4⟩ := hr 4 26 (by simp [k33])
 obtain ⟨_, _, _, g5, b5⟩ := hr 5 27 (by simp [k33])
 obtain ⟨_, _, _, g6, b6⟩ := hr 6 27 (by simp [k33])
 obtain ⟨l1, s1, q1, n1⟩ := open_ps g1 b1
 obtain ⟨l2, s2, q2, n2⟩ := open_fs g2 b2
 obtain ⟨l3, s3, q3, n3⟩ := open_is g3 b3
 obtain ⟨l4, s4, q4, n4⟩ := open_qs g4 b4
 obtain ⟨l5, s5, q5, n5⟩ := open_words Try.underlying27 Try.underlying5 (by kernel_rfl) g5 b5
 obtain ⟨l6, s6, q6, n6⟩ := open_words Try.underlying27 Try.underlying5 (by kernel_rfl) g6 b6
 refine ⟨⟨c 0, l1, l2, l3, l4, l5, l6, c 7, c 8, c 9⟩, rv 1, rv 2, rv 3, rv 4, rv 5, rv 6, ?_, ⟨s1, s2, s3, s4, s5, s6⟩, ⟨hi 0 _ (by simp [k33]), q1, q2, q3, q4, hi 7 _ (by simp [k33]), hi 8 _ (by simp [k33]), hi 9 _ (by simp [k33]), n1, n2, n3, n4, n5, n6⟩⟩
 rw [← Array.toArray_toList (xs := cs), hcs]
 rfl
end
theorem LkR.sml {L : Lk} (h : LkR L) : Sml L := ⟨h.pl, h.fl, h.il, h.ql, h.rl, h.ll, fun p hp => (h.p p hp).nl, fun p hp => (h.p p hp).gl, fun p hp => (h.i p hp).bl, fun p hp => (h.q p hp).bl⟩
theorem sumN_le {α : Type} (f : α → Nat) (B : Nat) : ∀ l : List α, (∀ x ∈ l, f x ≤ B) → sumN (l.map f) ≤ l.length * B
 | [], _ => by simp [sumN]
 | x :: l, h => by
  have h1 := sumN_le f B l (fun y hy => h y (by simp [hy]))
  have h2 := h x (by simp)
  simp only [List.map_cons, sumN, List.length_cons, Nat.add_mul, Nat.one_mul]
  omega
theorem LkR.few {L : Lk} (h : LkR L) (n : Nat) (hn : n ≤ 1048576) : fewN L n ≤ 1000000000000000000 := by
 have h1 := sumN_le (fun p : Pc => p.nodes.length + p.pages.length) 2097152 L.procs (fun p hp => by have h1 := (h.p p hp).nl; have h2 := (h.p p hp).gl; show _ + _ ≤ _; omega)
 have h2 := sumN_le (fun p : In => p.bl.length) 1048576 L.inos (fun p hp => (h.i p hp).bl)
 have h3 := h.pl
 have h4 := h.fl
 have h5 := h.il
 have h6 := h.ql
 unfold fewN
 omega
end Go.Proofs.Ythopgmmodldljab
namespace Go.Proofs.Ythopgmmodldljab
open Go Go.RowKit
set_option linter.unusedVariables false
set_option linter.unusedSimpArgs false
/-! Maps whose keys are things. -/
theorem laid125 : laidOutB Try.prog = true := by kernel_rfl
theorem row125 : (101 : TypeId) < Try.prog.types.size := of_decide_eq_true (by kernel_rfl)
theorem cells125 : Try.prog.cellsOf 101 = 2 := by kernel_rfl
theorem deep125 : Try.prog.keyTypeAt (Try.prog.types.size + 1) 101 = true := by kernel_rfl
theorem wide125 : (match Try.prog.underlying 101 with | some (.array _ _) | some (.struct _) => true | _ => false) = true := by rw [Try.underlying101]
set_option maxRecDepth 100000 in
theorem klaw125 : WideMaps.KeyLaw Try.prog 101 := deep_law_laid laid125 (m := 2) (by omega) row125 (by kernel_rfl) wide125
theorem law125 : Maps.Keyed Try.prog 101 := Maps.Keyed.of_law klaw125
abbrev Th := Int × Int
def thL (t : Th) : List Value := [.int .i64 t.1, .int .i64 t.2]
def ThR (t : Th) : Prop := (Lit.int .i64 t.1).wf = true ∧ (Lit.int .i64 t.2).wf = true
def thD (t : Th) : DataW Unit := .agg [.lit (.int .i64 t.1), .lit (.int .i64 t.2)]
def thK (t : Th) : Lit := (thD t).asKey
theorem formed125 (t : Th) : (Value.agg (thL t).toArray).formed Try.prog 101 = true := by simp [Value.formed, Try.underlying101, cells125, thL]
set_option maxRecDepth 100000 in
theorem trod125 {t : Th} (h : ThR t) (w : World) : DataW.Trod (H := Unit) (fun _ => ()) Try.prog w 0 (fun _ => true) true 101 (.agg (thL t).toArray) (thD t) [] := by
 refine ⟨2, ?_⟩
 show DataW.trod (fun _ => ()) Try.prog w 0 (fun _ => true) true (1 + 1) 101 (thL t) = some (.agg [(.lit (.int .i64 t.1) : DataW Unit), .lit (.int .i64 t.2)], [] ++ [])
 have h1 : DataW.trod (fun _ => ()) Try.prog w 0 (fun _ => true) true 1 3 [.int .i64 t.1] = some (.lit (.int .i64 t.1), []) := ChangeShapes.trod_int_mk 0 Try.underlying3 h.1
 have h2 : DataW.trod (fun _ => ()) Try.prog w 0 (fun _ => true) true 1 3 [.int .i64 t.2] = some (.lit (.int .i64 t.2), []) := ChangeShapes.trod_int_mk 0 Try.underlying3 h.2
 have c3 : Try.prog.cellsOf 3 = 1 := by kernel_rfl
 refine ChangeShapes.trod_struct2_mk (cs := thL t) (y0 := (.lit (.int .i64 t.1), [])) (y1 := (.lit (.int .i64 t.2), [])) Try.underlying101 (by rw [cells125]; rfl) ?_ ?_
 ·simpa [c3, thL] using h1
 ·simpa [c3, thL] using h2
set_option maxRecDepth 100000 in
theorem key125 {t : Th} (h : ThR t) (w : World) : keyOf Try.prog 101 (.agg (thL t).toArray) = some (thK t) := (keyOf_asKey deep125 wide125 (formed125 t) (trod125 h w)).1
theorem thK_inj {t u : Th} (h : ThR t) (k : ThR u) (w : World) (e : thK t = thK u) : t = u := by
 have h1 := key125 h w
 have h2 := key125 k w
 rw [← e] at h2
 have := law125.inj h1 h2
 have e2 : (thL t) = thL u := by
  have := congrArg (fun v => v.cells.toList) this
  simpa [Value.cells] using this
 simp only [thL, List.cons.injEq, Value.int.injEq, true_and, and_true] at e2
 exact Prod.ext e2.1 e2.2
/-- A map from things to numbers holds just f. -/
def MapF (D : DataW Unit) (f : Th → Option Int) : Prop := ∀ t, ThR t → Maps.has D (thK t) = (f t).isSome ∧ D.atKey (thK t) (.lit (.int .i64 0)) = .lit (.int .i64 ((f t).getD 0))
structure MapT (w : World) (b n : Nat) (f : Th → Option Int) : Prop where
 own : ∃ D, w.ownsMap Try.prog 101 (plainElem Try.prog 3) b n D ∧ MapF D f
 rng : ∀ t v, f t = some v → (Lit.int .i64 v).wf = true
theorem MapF.nil : MapF (.map []) (fun _ => none) := fun t _ => ⟨rfl, rfl⟩
theorem MapF.put {D : DataW Unit} {f : Th → Option Int} (h : MapF D f) (hD : Maps.IsMap D) {t : Th} (ht : ThR t) (v : Int) (w : World) : MapF (D.put (thK t) (.lit (.int .i64 v))) (fun u => if u = t then some v else f u) := by
 intro u hu
 by_cases e : u = t
 ·subst e
  simp only [if_true]
  exact ⟨Maps.has_put_same hD (law125.key (key125 hu w)) _, Maps.atKey_put_same hD (law125.key (key125 hu w)) _ _⟩
 ·simp only [if_neg e]
  have hne : thK u ≠ thK t := fun h => e (thK_inj hu ht w h)
  exact ⟨(Maps.has_put_other hne _).trans (h u hu).1, (Maps.atKey_put_other hne _ _).trans (h u hu).2⟩
end Go.Proofs.Ythopgmmodldljab
