import Derived.Test.YthopgmmodldljaaLo
namespace Go.Proofs.Ythopgmmodldljaa
open Go.ChangeShapes Go.WideShapes Go.ChangeAt Go.RowKit
set_option linter.unusedVariables false
set_option linter.unusedSimpArgs false
def k55 : List (Nat × CK) := [(0, .int .i64), (1, .int .i64), (2, .int .i64), (3, .int .i64), (4, .int .i64), (5, .int .i64), (6, .bool), (7, .int .i32), (8, .int .u64), (9, .int .u64), (10, .int .u64), (11, .int .u64), (12, .int .u64), (13, .int .u64), (14, .int .u64), (15, .int .u64), (16, .int .u64), (17, .int .u64), (18, .int .u64), (19, .int .u64), (20, .int .u64), (21, .int .u64), (22, .int .u64), (23, .int .u64), (24, .int .u64), (25, .int .u64), (26, .int .u64), (27, .int .u64), (28, .int .u64), (29, .int .u64), (30, .int .u64), (31, .int .u64), (32, .int .u64), (33, .int .u64), (34, .int .u64), (35, .int .u64), (36, .int .u64), (37, .int .u64), (38, .int .u64), (39, .int .u64), (40, .int .u64), (41, .int .u64), (42, .int .u64), (43, .int .u64), (44, .row 34), (45, .row 49), (46, .int .i64), (47, .int .i64), (48, .int .i64), (49, .int .i64), (50, .int .i64), (51, .int .i64), (52, .int .i64), (53, .int .i64), (54, .int .i64), (55, .int .i64), (56, .int .i64), (57, .int .i64), (58, .int .i64), (59, .int .i64), (60, .int .i64), (61, .int .i64), (62, .int .i64), (63, .bool), (64, .int .i64), (65, .int .u64), (66, .int .u64), (67, .int .u64), (68, .int .i64), (69, .int .u64)]
theorem ck55 : cks Try.prog 8 55 = k55 := by kernel_rfl
def k81 : List (Nat × CK) := [(0, .int .u64), (1, .int .u64), (2, .int .u64)]
theorem ck81 : cks Try.prog 8 81 = k81 := by kernel_rfl
def k94 : List (Nat × CK) := [(0, .int .i64), (1, .int .i64), (2, .int .i64), (3, .bool), (4, .bool), (5, .int .i64), (6, .int .i64), (7, .int .i64)]
theorem ck94 : cks Try.prog 8 94 = k94 := by kernel_rfl
def k66 : List (Nat × CK) := [(0, .int .i64), (1, .int .i64), (2, .int .i16), (3, .int .i16), (4, .int .i64), (5, .int .i64), (6, .int .i64), (7, .row 34)]
theorem ck66 : cks Try.prog 8 66 = k66 := by kernel_rfl
def k98 : List (Nat × CK) := [(0, .int .i64), (1, .row 29), (2, .int .u32), (3, .int .u32), (4, .bool), (5, .bool)]
theorem ck98 : cks Try.prog 8 98 = k98 := by kernel_rfl
def k33 : List (Nat × CK) := [(0, .int .u64), (1, .row 25), (2, .row 26), (3, .row 27), (4, .row 28), (5, .row 29), (6, .row 29), (7, .int .u64), (8, .int .i64), (9, .int .i64)]
theorem ck33 : cks Try.prog 8 33 = k33 := by kernel_rfl
abbrev u64R (a : Int) : Prop := (Lit.int .u64 a).wf = true
abbrev i64R (a : Int) : Prop := (Lit.int .i64 a).wf = true
abbrev u8R (a : Int) : Prop := (Lit.int .u8 a).wf = true
structure PgR (g : Pg) : Prop where
  no : u64R g.no
  fr : u64R g.fr
  pm : u64R g.pm
structure PcR (p : Pc) : Prop where
  c : ∀ i k, (i, CK.int k) ∈ k55 → (Lit.int k (p.c i)).wf = true
  n : ∀ a ∈ p.nodes, u64R a
  g : ∀ a ∈ p.pages, PgR a
  nl : p.nodes.length ≤ 1048576
  gl : p.pages.length ≤ 1048576
structure FiR (f : Fi) : Prop where
  num : i64R f.num
  kind : i64R f.kind
  refs : i64R f.refs
  ino : i64R f.ino
  off : i64R f.off
  pipe : i64R f.pipe
structure InR (x : In) : Prop where
  ino : i64R x.ino
  ty : i64R x.ty
  links : i64R x.links
  refs : i64R x.refs
  size : i64R x.size
  b : ∀ a ∈ x.bl, u64R a
  bl : x.bl.length ≤ 1048576
structure PpR (x : Pp) : Prop where
  num : i64R x.num
  b : ∀ a ∈ x.bs, u8R a
  bl : x.bs.length ≤ 1048576
structure LkR (L : Lk) : Prop where
  tr : u64R L.tramp
  p : ∀ x ∈ L.procs, PcR x
  f : ∀ x ∈ L.files, FiR x
  i : ∀ x ∈ L.inos, InR x
  q : ∀ x ∈ L.pipes, PpR x
  ti : u64R L.ticks
  nx : i64R L.next
  fr : i64R L.free
  pl : L.procs.length ≤ 1048576
  fl : L.files.length ≤ 1048576
  il : L.inos.length ≤ 1048576
  ql : L.pipes.length ≤ 1048576
  rl : L.ready.length ≤ 1048576
  ll : L.line.length ≤ 1048576
instance : Inhabited Pg := ⟨⟨0, 0, 0⟩⟩
instance : Inhabited Pc := ⟨⟨fun _ => 0, false, false, [], []⟩⟩
instance : Inhabited Fi := ⟨⟨0, 0, 0, false, false, 0, 0, 0⟩⟩
instance : Inhabited In := ⟨⟨0, 0, 0, 0, 0, 0, 0, []⟩⟩
instance : Inhabited Pp := ⟨⟨0, [], 0, 0, false, false⟩⟩
section
variable {H : Type} {enc : TypeId × Value → H} {w : World} {base : Nat} {held : Bool}
theorem open_words {t e : TypeId} {k : IntKind} (hu : Try.prog.underlying t = some (.slice e)) (he : Try.prog.underlying e = some (.int k)) (hc : Try.prog.cellsOf e = 1) {fuel : Nat} {v : Value} {d : DataW H} {pl : List MemPlace} (h : DataW.trod enc Try.prog w base (fun _ => true) held fuel t [v] = some (d, pl)) (hB : Rows.uptoBulk d ≤ 1048576) : ∃ l : List Int, Sl w w.heap.size 1 (qI k) v l ∧ (∀ a ∈ l, (Lit.int k a).wf = true) ∧ l.length ≤ 1048576 := by
  obtain ⟨l, hl, hn⟩ := open_sl (fun (x : Int) cs => qI k x cs ∧ (Lit.int k x).wf = true) hu hc (by decide) (fun n cs d pl hlen ht hb => by
    obtain ⟨z, hz, _, hw⟩ := DataW.trod_int he ht
    exact ⟨z, hz, hw⟩) h hB
  exact ⟨l, hl.weak (fun _ _ q => q.1), fun a ha => let ⟨_, q⟩ := hl.all a ha; q.2, hn⟩
theorem open_pg {fuel : Nat} {v : Value} {d : DataW H} {pl : List MemPlace} (h : DataW.trod enc Try.prog w base (fun _ => true) held fuel 49 [v] = some (d, pl)) (hB : Rows.uptoBulk d ≤ 1048576) : ∃ l : List Pg, Gs w w.heap.size v l ∧ (∀ a ∈ l, PgR a) ∧ l.length ≤ 1048576 := by
  obtain ⟨l, hl, hn⟩ := open_sl (sz := 3) (fun (x : Pg) cs => cs = x.l ∧ PgR x) Try.underlying49 (by kernel_rfl) (by decide) (fun n cs d pl hlen ht hb => by
    obtain ⟨c, bf, rv, hcs, hi, hr⟩ := open_mk 8 k81 ck81 rfl ht hb hlen
    refine ⟨⟨c 0, c 1, c 2⟩, hcs, hi 0 _ (by simp [k81]), hi 1 _ (by simp [k81]), hi 2 _ (by simp [k81])⟩) h hB
  exact ⟨l, hl.weak (fun _ _ q => q.1), fun a ha => let ⟨_, q⟩ := hl.all a ha; q.2, hn⟩
theorem open_ps {fuel : Nat} {v : Value} {d : DataW H} {pl : List MemPlace} (h : DataW.trod enc Try.prog w base (fun _ => true) held fuel 25 [v] = some (d, pl)) (hB : Rows.uptoBulk d ≤ 1048576) : ∃ l : List Pc, Ps w w.heap.size v l ∧ (∀ a ∈ l, PcR a) ∧ l.length ≤ 1048576 := by
  obtain ⟨l, hl, hn⟩ := open_sl (sz := 70) (fun (x : Pc) cs => (∃ nv gv, cs = x.l nv gv ∧ Wd w w.heap.size nv x.nodes ∧ Gs w w.heap.size gv x.pages) ∧ PcR x) Try.underlying25 (by kernel_rfl) (by decide) (fun n cs d pl hlen ht hb => by
    obtain ⟨c, bf, rv, hcs, hi, hr⟩ := open_mk 8 k55 ck55 rfl ht hb hlen
    obtain ⟨f1, d1, p1, g1, b1⟩ := hr 44 34 (by simp [k55])
    obtain ⟨f2, d2, p2, g2, b2⟩ := hr 45 49 (by simp [k55])
    obtain ⟨l1, s1, q1, n1⟩ := open_words Try.underlying34 Try.underlying24 (by kernel_rfl) g1 b1
    obtain ⟨l2, s2, q2, n2⟩ := open_pg g2 b2
    exact ⟨⟨c, bf 6, bf 63, l1, l2⟩, ⟨rv 44, rv 45, hcs, s1, s2⟩, hi, q1, q2, n1, n2⟩) h hB
  exact ⟨l, hl.weak (fun _ _ q => q.1), fun a ha => let ⟨_, q⟩ := hl.all a ha; q.2, hn⟩
theorem open_fs {fuel : Nat} {v : Value} {d : DataW H} {pl : List MemPlace} (h : DataW.trod enc Try.prog w base (fun _ => true) held fuel 26 [v] = some (d, pl)) (hB : Rows.uptoBulk d ≤ 1048576) : ∃ l : List Fi, Fs w w.heap.size v l ∧ (∀ a ∈ l, FiR a) ∧ l.length ≤ 1048576 := by
  obtain ⟨l, hl, hn⟩ := open_sl (sz := 8) (fun (x : Fi) cs => cs = x.l ∧ FiR x) Try.underlying26 (by kernel_rfl) (by decide) (fun n cs d pl hlen ht hb => by
    obtain ⟨c, bf, rv, hcs, hi, hr⟩ := open_mk 8 k94 ck94 rfl ht hb hlen
    exact ⟨⟨c 0, c 1, c 2, bf 3, bf 4, c 5, c 6, c 7⟩, hcs, hi 0 _ (by simp [k94]), hi 1 _ (by simp [k94]), hi 2 _ (by simp [k94]), hi 5 _ (by simp [k94]), hi 6 _ (by simp [k94]), hi 7 _ (by simp [k94])⟩) h hB
  exact ⟨l, hl.weak (fun _ _ q => q.1), fun a ha => let ⟨_, q⟩ := hl.all a ha; q.2, hn⟩
theorem open_is {fuel : Nat} {v : Value} {d : DataW H} {pl : List MemPlace} (h : DataW.trod enc Try.prog w base (fun _ => true) held fuel 27 [v] = some (d, pl)) (hB : Rows.uptoBulk d ≤ 1048576) : ∃ l : List In, Is w w.heap.size v l ∧ (∀ a ∈ l, InR a) ∧ l.length ≤ 1048576 := by
  obtain ⟨l, hl, hn⟩ := open_sl (sz := 8) (fun (x : In) cs => (∃ bv, cs = x.l bv ∧ Wd w w.heap.size bv x.bl) ∧ InR x) Try.underlying27 (by kernel_rfl) (by decide) (fun n cs d pl hlen ht hb => by
    obtain ⟨c, bf, rv, hcs, hi, hr⟩ := open_mk 8 k66 ck66 rfl ht hb hlen
    obtain ⟨f1, d1, p1, g1, b1⟩ := hr 7 34 (by simp [k66])
    obtain ⟨l1, s1, q1, n1⟩ := open_words Try.underlying34 Try.underlying24 (by kernel_rfl) g1 b1
    exact ⟨⟨c 0, c 1, c 2, c 3, c 4, c 5, c 6, l1⟩, ⟨rv 7, hcs, s1⟩, hi 0 _ (by simp [k66]), hi 1 _ (by simp [k66]), hi 4 _ (by simp [k66]), hi 5 _ (by simp [k66]), hi 6 _ (by simp [k66]), q1, n1⟩) h hB
  exact ⟨l, hl.weak (fun _ _ q => q.1), fun a ha => let ⟨_, q⟩ := hl.all a ha; q.2, hn⟩
theorem open_qs {fuel : Nat} {v : Value} {d : DataW H} {pl : List MemPlace} (h : DataW.trod enc Try.prog w base (fun _ => true) held fuel 28 [v] = some (d, pl)) (hB : Rows.uptoBulk d ≤ 1048576) : ∃ l : List Pp, Qs w w.heap.size v l ∧ (∀ a ∈ l, PpR a) ∧ l.length ≤ 1048576 := by
  obtain ⟨l, hl, hn⟩ := open_sl (sz := 6) (fun (x : Pp) cs => (∃ bv, cs = x.l bv ∧ Bt w w.heap.size bv x.bs) ∧ PpR x) Try.underlying28 (by kernel_rfl) (by decide) (fun n cs d pl hlen ht hb => by
    obtain ⟨c, bf, rv, hcs, hi, hr⟩ := open_mk 8 k98 ck98 rfl ht hb hlen
    obtain ⟨f1, d1, p1, g1, b1⟩ := hr 1 29 (by simp [k98])
    obtain ⟨l1, s1, q1, n1⟩ := open_words Try.underlying29 Try.underlying5 (by kernel_rfl) g1 b1
    exact ⟨⟨c 0, l1, c 2, c 3, bf 4, bf 5⟩, ⟨rv 1, hcs, s1⟩, hi 0 _ (by simp [k98]), q1, n1⟩) h hB
  exact ⟨l, hl.weak (fun _ _ q => q.1), fun a ha => let ⟨_, q⟩ := hl.all a ha; q.2, hn⟩
set_option maxRecDepth 100000 in
/-- A look as it is handed in. -/
theorem open_look {base' : Nat} {r : Reach} {v : Value} {d : DataW H} {p : List MemPlace} (hv : Value.okWide Try.prog w r base' 33 v) (h : DataW.Trod enc Try.prog w base (fun _ => true) held 33 v d p) (hB : Rows.uptoBulk d ≤ 1048576) :
    ∃ (L : Lk) (pv fv iv qv rv lv : Value), v = .agg (lkL L.tramp pv fv iv qv rv lv L.ticks L.next L.free).toArray ∧ LkW w w.heap.size pv fv iv qv rv lv L ∧ LkR L := by
  obtain ⟨cs, rfl, hsz⟩ := okWide_struct Try.underlying33 hv
  have hsz2 : cs.toList.length = k33.length := by
    have : cs.size = 10 := hsz.trans (by kernel_rfl)
    rw [Array.length_toList, this]
    rfl
  obtain ⟨fuel, hf⟩ := h
  have hf' : DataW.trod enc Try.prog w base (fun _ => true) held fuel 33 cs.toList = some (d, p) := hf
  obtain ⟨c, bf, rv, hcs, hi, hr⟩ := open_mk 8 k33 ck33 rfl hf' hB hsz2
  obtain ⟨_, _, _, g1, b1⟩ := hr 1 25 (by simp [k33])
  obtain ⟨_, _, _, g2, b2⟩ := hr 2 26 (by simp [k33])
  obtain ⟨_, _, _, g3, b3⟩ := hr 3 27 (by simp [k33])
  obtain ⟨_, _, _, g4, b4⟩ := hr 4 28 (by simp [k33])
  obtain ⟨_, _, _, g5, b5⟩ := hr 5 29 (by simp [k33])
  obtain ⟨_, _, _, g6, b6⟩ := hr 6 29 (by simp [k33])
  obtain ⟨l1, s1, q1, n1⟩ := open_ps g1 b1
  obtain ⟨l2, s2, q2, n2⟩ := open_fs g2 b2
  obtain ⟨l3, s3, q3, n3⟩ := open_is g3 b3
  obtain ⟨l4, s4, q4, n4⟩ := open_qs g4 b4
  obtain ⟨l5, s5, q5, n5⟩ := open_words Try.underlying29 Try.underlying5 (by kernel_rfl) g5 b5
  obtain ⟨l6, s6, q6, n6⟩ := open_words Try.underlying29 Try.underlying5 (by kernel_rfl) g6 b6
  refine ⟨⟨c 0, l1, l2, l3, l4, l5, l6, c 7, c 8, c 9⟩, rv 1, rv 2, rv 3, rv 4, rv 5, rv 6, ?_, ⟨s1, s2, s3, s4, s5, s6⟩, ⟨hi 0 _ (by simp [k33]), q1, q2, q3, q4, hi 7 _ (by simp [k33]), hi 8 _ (by simp [k33]), hi 9 _ (by simp [k33]), n1, n2, n3, n4, n5, n6⟩⟩
  rw [← Array.toArray_toList (xs := cs), hcs]
  rfl
end
theorem LkR.sml {L : Lk} (h : LkR L) : Sml L := ⟨h.pl, h.fl, h.il, h.ql, h.rl, h.ll, fun p hp => (h.p p hp).nl, fun p hp => (h.p p hp).gl, fun p hp => (h.i p hp).bl, fun p hp => (h.q p hp).bl⟩
theorem sumN_le {α : Type} (f : α → Nat) (B : Nat) : ∀ l : List α, (∀ x ∈ l, f x ≤ B) → sumN (l.map f) ≤ l.length * B
  | [], _ => by simp [sumN]
  | x :: l, h => by
    have h1 := sumN_le f B l (fun y hy => h y (by simp [hy]))
    have h2 := h x (by simp)
    simp only [List.map_cons, sumN, List.length_cons, Nat.add_mul, Nat.one_mul]
    omega
theorem LkR.few {L : Lk} (h : LkR L) (n : Nat) (hn : n ≤ 1048576) : fewN L n ≤ 1000000000000000000 := by
  have h1 := sumN_le (fun p : Pc => p.nodes.length + p.pages.length) 2097152 L.procs (fun p hp => by have h1 := (h.p p hp).nl; have h2 := (h.p p hp).gl; show _ + _ ≤ _; omega)
  have h2 := sumN_le (fun p : In => p.bl.length) 1048576 L.inos (fun p hp => (h.i p hp).bl)
  have h3 := h.pl
  have h4 := h.fl
  have h5 := h.il
  have h6 := h.ql
  unfold fewN
  omega
end Go.Proofs.Ythopgmmodldljaa
