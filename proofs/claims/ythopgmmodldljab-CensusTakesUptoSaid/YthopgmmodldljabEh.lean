import Derived.Test.YthopgmmodldljabEg
import Derived.Test.YthopgmmodldljabBf
import Derived.Deep.DeepCutAuto
namespace Go.Proofs.Ythopgmmodldljab
open Go Go.RowKit
set_option linter.unusedVariables false
set_option linter.unusedSimpArgs false
/-! newSurvey. -/
theorem set_each {P : Program} {ops : Array Oper} {Q : Exit → Act → World → Prop} {md : Region.Mode} {S : World → Prop} {Z : Nat → Bool} {n : Nat} {listed : Array Bool} {a : Act} {w : World} (l : List Nat) (hr : Region.ready md ops listed = l) (hl : l ≠ [])
  (h : ∀ i ∈ l, ∃ oi, ops[i]? = some oi ∧ Region.wanted oi (yielded ops a.tmps) = true ∧ ∀ K : Act → World → Prop, Hid (∀ a' w', (Z i = false → S w') → wpSet P md ops Q S Z n (listed.setIfInBounds i true) a' w' → K a' w') → oi.wp P a w K Q) : wpSet P md ops Q S Z (n + 1) listed a w := by
 refine ⟨fun h0 => absurd (hr.symm.trans h0) hl, fun j hj => ?_⟩
 rw [hr] at hj
 obtain ⟨oi, hi, hwd, hk⟩ := h j hj
 unfold wpOp
 simp only [hi, hwd, if_true]
 exact .inl (hk _ (fun a' w' h1 h2 => ⟨h1, h2⟩))
def foldI {α β : Type} (g : β → α → Int → β) (b : β) (l : List α) : β := l.zipIdx.foldl (fun b x => g b x.1 (x.2 : Int)) b
theorem foldI_take {α β : Type} (g : β → α → Int → β) (b : β) (l : List α) (i : Nat) (x : α) (h : l[i]? = some x) : foldI g b (l.take (i + 1)) = g (foldI g b (l.take i)) x i := by
 have hi : i < l.length := (List.getElem?_eq_some_iff.1 h).1
 unfold foldI
 rw [List.take_add_one, h, Option.toList_some, List.zipIdx_append, List.foldl_append, List.length_take, Nat.min_eq_left (by omega)]
 simp
def enQ (pf : Th → Option Int) (x : Pp) (a : Int) : Th → Option Int := ent pf (5, x.num) a
def none0 : Th → Option Int := fun _ => none
def pf1 (L : Lk) : Th → Option Int := foldI enP none0 L.procs
def pf2 (L : Lk) : Th → Option Int := foldI enF (pf1 L) L.files
def pf3 (L : Lk) : Th → Option Int := foldI enI (pf2 L) L.inos
def pfA (L : Lk) : Th → Option Int := foldI enQ (pf3 L) L.pipes
def nf1 (L : Lk) : Th → Option Int := (L.procs.flatMap nmPr).foldl cnt1 none0
def nfA (L : Lk) : Th → Option Int := (L.files.flatMap nmFi).foldl cnt1 (nf1 L)
theorem nmPr_len (p : Pc) : (nmPr p).length ≤ 17 := by
 unfold nmPr fdT
 rw [List.length_append, List.length_map, List.length_range]
 split <;> simp
theorem nmFi_len (f : Fi) : (nmFi f).length ≤ 1 := by unfold nmFi; split <;> simp
theorem flat_le {α β : Type} (g : α → List β) (K : Nat) (h : ∀ x, (g x).length ≤ K) : ∀ l : List α, (l.flatMap g).length ≤ K * l.length
 | [] => by simp
 | x :: l => by
  rw [List.flatMap_cons, List.length_append, List.length_cons, Nat.mul_succ]
  have h1 := h x
  have h2 := flat_le g K h l
  omega
theorem nb0 : Nb none0 0 := fun t => by simp [none0]
theorem nb1 (L : Lk) (i : Nat) (h : L.procs.length ≤ 1048576) : Nb (((L.procs.take i).flatMap nmPr).foldl cnt1 none0) 17825792 := by
 refine (nb0.fold _).mono ?_
 have h1 := flat_le nmPr 17 nmPr_len (L.procs.take i)
 have h2 : (L.procs.take i).length ≤ 1048576 := by rw [List.length_take]; omega
 omega
theorem nb2 (L : Lk) (i : Nat) (h : L.procs.length ≤ 1048576) (hf : L.files.length ≤ 1048576) : Nb (((L.files.take i).flatMap nmFi).foldl cnt1 (nf1 L)) 18874368 := by
 have h0 := nb1 L L.procs.length h
 rw [List.take_length] at h0
 refine (Nb.fold h0 _).mono ?_
 have h1 := flat_le nmFi 1 nmFi_len (L.files.take i)
 have h2 : (L.files.take i).length ≤ 1048576 := by rw [List.length_take]; omega
 omega
theorem nfA_nb {L : Lk} (h : L.procs.length ≤ 1048576) (hf : L.files.length ≤ 1048576) : Nb (nfA L) 18874368 := by
 have := nb2 L L.files.length h hf
 rw [List.take_length] at this
 exact this
theorem fold_flat {α β γ : Type} (f : α → List β) (g : γ → β → γ) (b : γ) (l : List α) (i : Nat) (x : α) (h : l[i]? = some x) : ((l.take (i + 1)).flatMap f).foldl g b = (f x).foldl g (((l.take i).flatMap f).foldl g b) := by
 rw [(flat_take f l i x h).1, List.foldl_append]
abbrev svL (L : Lk) (pv fv iv qv rv lv : Value) (ne : Nat) (nv gv : Value) (m1 m2 : Nat) : List Value := lkL L.tramp pv fv iv qv rv lv L.ticks L.next L.free ++ [.int .i64 ne, nv, gv, .map (some m1), .map (some m2)]
def SvP (w : World) (N : Nat) (L : Lk) (fr : List Int) (pv fv iv qv rv lv : Value) (e : Ending) (w' : World) : Prop := ∃ s m1 m2 nv gv, e = .returned (.pointer (some ⟨s, 0, .none⟩)) ∧ Sv w' s m1 m2 (svL L pv fv iv qv rv lv fr.length nv gv m1 m2) (pfA L) (nfA L) ∧ w'.ownsRow w.heap.size 116 3 nv (allL L fr).length ((allL L fr).map An).flatten ∧ w'.ownsRow w.heap.size 85 3 gv N ((frL N (allL L fr)).map owL).flatten ∧ Below w.heap.size w w'
theorem Sl.ofM {w : World} {base : Nat} {v : Value} {l : List Nm} (h : w.ownsRow base 116 3 v l.length ((l.map An).flatten)) : Sl w w.heap.size 3 (fun x cs => cs = An x) v l :=
 Sl.ofOwn (C := l.map An) h rfl (by intro c hc; obtain ⟨x, _, rfl⟩ := List.mem_map.1 hc; rfl) rfl (by simp) (by
  intro i x cs h1 h2
  rw [List.getElem?_map, h1] at h2
  simp only [Option.map_some, Option.some.injEq] at h2
  exact h2.symm)
theorem own_fr {m1 m2 base e k n : Nat} {w w' : World} {v : Value} {xs : List Value} (h : w.ownsRow base e k v n xs) (hf : Fr m1 m2 w w') (h1 : ∀ g, v.ownBlock = some g → g ≠ m1 ∧ g ≠ m2) : w'.ownsRow base e k v n xs :=
 own_blk h (fun g hg => hf.block g (h.lt g hg).2 (h1 g hg).1 (h1 g hg).2)
theorem own_cells {base e k n g : Nat} {w : World} {v : Value} {xs : List Value} (h : w.ownsRow base e k v n xs) (hg : v.ownBlock = some g) : ∃ c t f, w.heap[g]? = some (.cells c t f) := by
 rcases h.2 with ⟨rfl, _⟩ | ⟨g', cap, cur, rfl, _, hh, _⟩
 ·cases hg
 ·injection hg with hg
  subst hg
  exact ⟨_, _, _, hh⟩
theorem Mp.not_row {w : World} {b base e k n g : Nat} {f : Th → Option Int} {v : Value} {xs : List Value} (h : Mp w b f) (ho : w.ownsRow base e k v n xs) (hg : v.ownBlock = some g) : g ≠ b := by
 rintro rfl
 obtain ⟨es, c, h1, _⟩ := h
 obtain ⟨c', t, f', h2⟩ := own_cells ho hg
 rw [h1] at h2
 cases h2
structure R2 (z : Nat) (W2 wx : World) (s : Nat) (L : Lk) (pv fv iv qv rv lv : Value) (ne : Nat) (nv : Value) (N : Nat) (A : List Nm) (m1 m2 : Nat) (gv : Value) (p1 n1 : Th → Option Int) : Prop where
 sv : Sv wx s m1 m2 (svL L pv fv iv qv rv lv ne nv gv m1 m2) p1 n1
 ow : wx.ownsRow z 85 3 gv N ((frL N A).map owL).flatten
 nw : wx.ownsRow z 116 3 nv A.length (A.map An).flatten
 bl : Below W2.heap.size W2 wx
 l1 : W2.heap.size ≤ m1
 l2 : W2.heap.size ≤ m2
theorem R2.step {z : Nat} {W2 wx wy : World} {s : Nat} {L : Lk} {pv fv iv qv rv lv : Value} {ne : Nat} {nv : Value} {N : Nat} {A : List Nm} {m1 m2 : Nat} {gv : Value} {p1 n1 p2 n2 : Th → Option Int} (h : R2 z W2 wx s L pv fv iv qv rv lv ne nv N A m1 m2 gv p1 n1) (hf : Fr m1 m2 wx wy) (hv : Sv wy s m1 m2 (svL L pv fv iv qv rv lv ne nv gv m1 m2) p2 n2) : R2 z W2 wy s L pv fv iv qv rv lv ne nv N A m1 m2 gv p2 n2 :=
 ⟨hv, own_fr h.ow hf (fun g hg => ⟨h.sv.mp.not_row h.ow hg, h.sv.mn.not_row h.ow hg⟩), own_fr h.nw hf (fun g hg => ⟨h.sv.mp.not_row h.nw hg, h.sv.mn.not_row h.nw hg⟩), h.bl.trans (hf.below h.bl.size h.l1 h.l2), h.l1, h.l2⟩
theorem R2.keep {z : Nat} {W2 wx wy : World} {s : Nat} {L : Lk} {pv fv iv qv rv lv : Value} {ne : Nat} {nv : Value} {N : Nat} {A : List Nm} {m1 m2 : Nat} {gv : Value} {p1 n1 : Th → Option Int} (h : R2 z W2 wx s L pv fv iv qv rv lv ne nv N A m1 m2 gv p1 n1) (hf : Below wx.heap.size wx wy) : R2 z W2 wy s L pv fv iv qv rv lv ne nv N A m1 m2 gv p1 n1 := h.step (Fr.of_below hf) (h.sv.keep hf)
theorem info90 : ∃ i z, Try.prog.info? 79 = some i ∧ i.zero = some z ∧ i.size = 15 ∧ i.bytes = 248 ∧ z.cells.size = 15 := info_of 79 15 248 (by kernel_rfl) (by kernel_rfl)
theorem below_new {w W2 W6 : World} {g : Nat} (h : Below g w W2) (hg : W2.grownBy W6 (some g)) (hs : g < W2.heap.size) : Below g w W6 :=
 h.trans ⟨hg.os, hg.tape, hg.output, hg.size, fun k hk => hg.block k (by omega) (by intro e; injection e with e; omega)⟩
set_option maxRecDepth 100000 in
set_option maxHeartbeats 4000000 in
theorem survey_any {w : World} {X : Nat} {pv fv iv qv rv lv : Value} {L : Lk} (h : LkW w X pv fv iv qv rv lv L) (hX : X ≤ w.heap.size) {ev : Value} {fr : List Int} (hf : Wd w X ev fr) (hs : (allL L fr).length ≤ 1000000) (hR : LkR L) (hb : ∀ x ∈ allL L fr, Bd64 x.1) (N : Nat) (hN : N ≤ 4096) : Calls Try.prog 15 #[.int .i64 N, .agg (lkL L.tramp pv fv iv qv rv lv L.ticks L.next L.free).toArray, ev] w (SvP w N L fr pv fv iv qv rv lv) := by
 obtain ⟨pp, pc, rfl⟩ := h.ps.form
 obtain ⟨fp, fc, rfl⟩ := h.fs.form
 obtain ⟨ip, ic, rfl⟩ := h.is.form
 obtain ⟨qp, qc, rfl⟩ := h.qs.form
 obtain ⟨ep, ec, rfl⟩ := hf.form
 obtain ⟨np, hnp⟩ : ∃ n, n = L.procs.length := ⟨_, rfl⟩
 obtain ⟨nq, hnq⟩ : ∃ n, n = L.files.length := ⟨_, rfl⟩
 obtain ⟨ni, hni⟩ : ∃ n, n = L.inos.length := ⟨_, rfl⟩
 obtain ⟨nk, hnk⟩ : ∃ n, n = L.pipes.length := ⟨_, rfl⟩
 obtain ⟨ne, hne⟩ : ∃ n, n = fr.length := ⟨_, rfl⟩
 rw [← hnp, ← hnq, ← hni, ← hnk] at h ⊢
 rw [← hne] at hf ⊢
 have HNN : Hid (np = L.procs.length ∧ nq = L.files.length ∧ ni = L.inos.length ∧ nk = L.pipes.length) := ⟨hnp, hnq, hni, hnk⟩
 have HNE : Hid (ne = fr.length) := hne
 have bnp : np ≤ 1048576 := by have := hR.pl; omega
 have bnq : nq ≤ 1048576 := by have := hR.fl; omega
 have bni : ni ≤ 1048576 := by have := hR.il; omega
 have bnk : nk ≤ 1048576 := by have := hR.ql; omega
 have HLR : Hid (LkR L) := hR
 obtain ⟨z, hz⟩ : ∃ z, z = w.heap.size := ⟨_, rfl⟩
 have HZ : Hid (z = w.heap.size) := hz
 have HLK : Hid (LkW w X (.slice pp np pc) (.slice fp nq fc) (.slice ip ni ic) (.slice qp nk qc) rv lv L) := h
 have HXZ : Hid (X ≤ z) := by rw [hz]; exact hX
 have HNM : Hid (∀ w', Below w.heap.size w w' → Calls Try.prog 26 #[.agg (lkL L.tramp (.slice pp np pc) (.slice fp nq fc) (.slice ip ni ic) (.slice qp nk qc) rv lv L.ticks L.next L.free).toArray, .slice ep ne ec] w' fun e w'' => ∃ v, e = .returned v ∧ w''.ownsRow w'.heap.size 116 3 v (allL L fr).length (((allL L fr).map An).flatten) ∧ Below w'.heap.size w' w'') := fun w' hb => namings_any (h.keep (Nat.le_refl _) (hb.mono hX)) (Nat.le_trans hX hb.size) (Wd.keep hf (Nat.le_refl _) (hb.mono hX)) hs hR.il
 have HBD : Hid ((allL L fr).length ≤ 1000000 ∧ ∀ x ∈ allL L fr, Bd64 x.1) := ⟨hs, hb⟩
 clear h hX hf hs hR hb hnp hnq hni hnk hne
 clear hz
 go_enter Try.func15, Try.ntmps15
 go_wp2_with (first
  | (refine wpList_is (.box 31 (.tmp 1)) rfl ?_; refine wpList_boxG 31 (lkL L.tramp (.slice pp np pc) (.slice fp nq fc) (.slice ip ni ic) (.slice qp nk qc) rv lv L.ticks L.next L.free) 4 (.tmp 1) _ rfl rfl rfl rfl ?_; intro W1 hW1 hB1 hs1; rw [← HZ.out] at hW1 hB1 hs1 ⊢; have r1 : W1.rangeAt z 0 (lkL L.tramp (.slice pp np pc) (.slice fp nq fc) (.slice ip ni ic) (.slice qp nk qc) rv lv L.ticks L.next L.free) := range_heap hW1)
  | (refine wpList_is (.load 31 (.tmp 4)) rfl ?_; refine wpList_loadG 31 10 176 info33 _ Try.underlying31 rfl (lkL L.tramp (.slice pp np pc) (.slice fp nq fc) (.slice ip ni ic) (.slice qp nk qc) rv lv L.ticks L.next L.free) rfl z 0 (.tmp 4) rfl rfl rfl r1 (some 17) rfl ?_)
  | fail)
 clear r1
 go_at_call 26
 refine (HNM.out W1 (by rw [← HZ.out]; exact hB1)).mono ?_
 rintro e W2 ⟨nv, rfl, hnw, hB2⟩
 obtain ⟨ap, ac, rfl⟩ := own_form hnw
 obtain ⟨an, han⟩ : ∃ n, n = (allL L fr).length := ⟨_, rfl⟩
 rw [← han] at hnw ⊢
 have HNW : Hid (W2.ownsRow z 116 3 (.slice ap an ac) (allL L fr).length ((allL L fr).map An).flatten) := by rw [← han]; exact own_mono hnw (by omega)
 have HZ2 : Hid (z ≤ W2.heap.size) := by have := hB2.size; show z ≤ _; omega
 have HZ3 : Hid (z < W2.heap.size) := by have := hB2.size; show z < _; omega
 have hbz : W2.heap[z]? = some (.cells (lkL L.tramp (.slice pp np pc) (.slice fp nq fc) (.slice ip ni ic) (.slice qp nk qc) rv lv L.ticks L.next L.free).toArray 31) := (hB2.block z (by omega)).trans hW1
 have HBX : Hid (∀ V, Below W2.heap.size W2 V → ∀ (j : Nat) v, (lkL L.tramp (.slice pp np pc) (.slice fp nq fc) (.slice ip ni ic) (.slice qp nk qc) rv lv L.ticks L.next L.free)[j]? = some v → V.cell? ⟨z, j, .none⟩ = some v) := fun V hV j v hj => by
  rw [cell_heap ((hV.block z HZ3.out).trans hbz), List.getElem?_toArray]
  exact hj
 have HR : Hid (∀ V, Below W2.heap.size W2 V → V.rangeAt z 0 (lkL L.tramp (.slice pp np pc) (.slice fp nq fc) (.slice ip ni ic) (.slice qp nk qc) rv lv L.ticks L.next L.free)) := fun V hV => range_heap ((hV.block z HZ3.out).trans hbz)
 have HBW : Hid (∀ V, Below W2.heap.size W2 V → Below z w V) := fun V hV => (hB1.trans (hB2.mono (by omega))).trans (hV.mono HZ2.out)
 have HOF : Hid (∀ V, Below W2.heap.size W2 V → Calls Try.prog 27 #[.slice ap an ac, .int .i64 N] V (FrP V N (allL L fr))) := fun V hV => by
  refine ownFrames_any (X := W2.heap.size) ?_ hV.size HBD.out.1 HBD.out.2 N hN
  have h0 := Sl.ofM HNW.out
  rw [← han] at *
  exact Sl.mono h0 (Nat.le_refl _) hV (fun _ _ _ q => q)
 have HAN : Hid (an = (allL L fr).length) := han
 clear hnw hB2 hbz hW1 hB1 hs1 HNM han hN
 go_upto_region 2 with fail
 go_cut [8] (fun p wc => ∃ s m1 m2 gfv, p = .pointer (some ⟨s, 0, .none⟩) ∧ R2 z W2 wc s L (.slice pp np pc) (.slice fp nq fc) (.slice ip ni ic) (.slice qp nk qc) rv lv ne (.slice ap an ac) N (allL L fr) m1 m2 gfv none0 none0)
 case first =>
  have HB0 : Hid (Below W2.heap.size W2 W2.drew) := (Below.refl _ _).drew
  have hS : (fun V : World => V.rangeAt z 0 (lkL L.tramp (.slice pp np pc) (.slice fp nq fc) (.slice ip ni ic) (.slice qp nk qc) rv lv L.ticks L.next L.free)) W2.drew := HR.out _ HB0.out
  refine region_set (fun V => V.rangeAt z 0 (lkL L.tramp (.slice pp np pc) (.slice fp nq fc) (.slice ip ni ic) (.slice qp nk qc) rv lv L.ticks L.next L.free)) 9 [] (by kernel_rfl) ?_
  refine sV (i := 0) (v := .agg (lkL L.tramp (.slice pp np pc) (.slice fp nq fc) (.slice ip ni ic) (.slice qp nk qc) rv lv L.ticks L.next L.free).toArray) rfl (yieldsIf_load_mid (by rfl) 31 (.tmp 4) rfl (z) (0) rfl (lkL L.tramp (.slice pp np pc) (.slice fp nq fc) (.slice ip ni ic) (.slice qp nk qc) rv lv L.ticks L.next L.free) _ (fun ww hSw => hSw) Try.underlying31 rfl (by first | kernel_rfl | (rw [rfl]; kernel_rfl))) hS ?_
  simp only [x0,x1,x2,x3,x4,x5,x6]
  refine sT 1 (.slice ep ne ec) rfl (fun ww hSw => by go_simp) hS ?_
  simp only [x0,x1,x2,x3,x4,x5,x6]
  refine sT 2 (.int .i64 (ne : Nat)) rfl (fun ww hSw => by go_simp) hS ?_
  simp only [x0,x1,x2,x3,x4,x5,x6]
  refine sT 3 (.slice ap an ac) rfl (fun ww hSw => by go_simp) hS ?_
  simp only [x0,x1,x2,x3,x4,x5,x6]
  refine sT 4 (.slice ap an ac) rfl (fun ww hSw => by go_simp) hS ?_
  simp only [x0,x1,x2,x3,x4,x5,x6]
  refine sT 5 (.int .i64 N) rfl (fun ww hSw => by go_simp) hS ?_
  simp only [x0,x1,x2,x3,x4,x5,x6]
  refine set_each [6, 7, 8] (by kernel_rfl) (by decide) ?_
  intro j hj
  simp only [List.mem_cons, List.not_mem_nil, or_false] at hj
  rcases hj with rfl | rfl | rfl
  ·refine ⟨_, rfl, by rfl, fun K hK => ?_⟩
   go_simp
   go_at_call 27
   refine (HOF.out _ HB0.out).mono ?_
   rintro e V1 ⟨gv, rfl, hgo, hgb⟩
   obtain ⟨gp, gc, rfl⟩ := own_form hgo
   have hI1 : Below (W2.drew).heap.size (W2.drew) V1 := hgb
   have hB1 : Below W2.heap.size W2 V1 := (HB0.out).trans (hgb.mono (HB0.out).size)
   have hz6 : z ≤ (W2.drew).heap.size := Nat.le_trans HZ2.out (HB0.out).size
   have hgl : ∀ g, (Value.slice gp N gc).ownBlock = some g → g < V1.heap.size := fun g hg => (hgo.lt g hg).2
   have hgo := own_mono hgo hz6
   clear hz6
   refine hK.out _ _ (fun _ => HR.out _ hB1) ?_
   clear hK K
   try simp only [x0,x1,x2,x3,x4,x5,x6]
   refine set_each [7, 8] (by kernel_rfl) (by decide) ?_
   intro j hj
   simp only [List.mem_cons, List.not_mem_nil, or_false] at hj
   rcases hj with rfl | rfl
   ·refine ⟨_, rfl, by rfl, fun K hK => ?_⟩
    go_simp
    obtain ⟨V2, hV2⟩ : ∃ V, V = (V1).alloc (.map #[] 0) := ⟨_, rfl⟩
    have hI2 : Below (V1).heap.size (V1) V2 := by rw [hV2]; exact below1 _ _
    have hB2 : Below W2.heap.size W2 V2 := (hB1).trans (hI2.mono (hB1).size)
    have hM7 : Mp V2 (V1).heap.size none0 := by rw [hV2]; exact Mp.new _
    have hL7 : W2.heap.size ≤ (V1).heap.size ∧ (V1).heap.size < V2.heap.size := ⟨(hB1).size, by rw [hV2]; simp⟩
    change K _ (World.alloc (V1) (.map #[] 0))
    rw [← hV2]
    clear hV2
    obtain ⟨m7, hm7⟩ : ∃ m, m = (V1).heap.size := ⟨_, rfl⟩
    rw [show (V1).heap.size = m7 from hm7.symm] at hM7 hL7
    rw [show (V1).heap.size = m7 from hm7.symm]
    have HM7 : Hid (m7 = (V1).heap.size) := hm7
    clear hm7
    refine hK.out _ _ (fun _ => HR.out _ hB2) ?_
    clear hK K
    try simp only [x0,x1,x2,x3,x4,x5,x6]
    refine set_only (i := 8) (by kernel_rfl) rfl (by rfl) (fun K hK => ?_)
    go_simp
    obtain ⟨V3, hV3⟩ : ∃ V, V = (V2).alloc (.map #[] 0) := ⟨_, rfl⟩
    have hI3 : Below (V2).heap.size (V2) V3 := by rw [hV3]; exact below1 _ _
    have hB3 : Below W2.heap.size W2 V3 := (hB2).trans (hI3.mono (hB2).size)
    have hM8 : Mp V3 (V2).heap.size none0 := by rw [hV3]; exact Mp.new _
    have hL8 : W2.heap.size ≤ (V2).heap.size ∧ (V2).heap.size < V3.heap.size := ⟨(hB2).size, by rw [hV3]; simp⟩
    change K _ (World.alloc (V2) (.map #[] 0))
    rw [← hV3]
    clear hV3
    obtain ⟨m8, hm8⟩ : ∃ m, m = (V2).heap.size := ⟨_, rfl⟩
    rw [show (V2).heap.size = m8 from hm8.symm] at hM8 hL8
    rw [show (V2).heap.size = m8 from hm8.symm]
    have HM8 : Hid (m8 = (V2).heap.size) := hm8
    clear hm8
    refine hK.out _ _ (fun _ => HR.out _ hB3) ?_
    clear hK K
    try simp only [x0,x1,x2,x3,x4,x5,x6]
    refine set_tail 3 9 _ _ _ _ (by kernel_rfl) (by decide) ?_
    simp only [List.toList_toArray, List.drop_succ_cons, List.drop_zero]
    have HG : Hid (V3.ownsRow z 85 3 (.slice gp N gc) N ((frL N (allL L fr)).map owL).flatten ∧ Mp V3 m7 none0 ∧ Mp V3 m8 none0 ∧ m7 ≠ m8 ∧ W2.heap.size ≤ m7 ∧ W2.heap.size ≤ m8 ∧ m7 < V3.heap.size ∧ m8 < V3.heap.size) := ⟨own_bel hgo (hI2.trans (hI3.mono hI2.size)) hgl, hM7.keep (hI3.block _ hL7.2), hM8.keep ((Below.refl _ _).block _ hL8.2), by have h1 := hI1.size; have h2 := hI2.size; have h3 := hI3.size; have h7 := hL7; have h8 := hL8; have e7 := HM7.out; have e8 := HM8.out; omega, hL7.1, hL8.1, by have h1 := hI1.size; have h2 := hI2.size; have h3 := hI3.size; have h7 := hL7; omega, by have h1 := hI1.size; have h2 := hI2.size; have h3 := hI3.size; have h8 := hL8; omega⟩
    have HV3 : Hid (Below W2.heap.size W2 V3) := hB3
    clear hS hM7 hM8 hL7 hL8 HM7 HM8 hI1 hI2 hI3 hB1 hB2 hB3 hgo hgb hgl
    go_wp2_with (first | (refine wpList_is (.build 79 #[(0, .tmp 20), (1, .tmp 22), (2, .tmp 23), (3, .tmp 26), (4, .tmp 27), (5, .tmp 28)]) rfl ?_; refine wpList_buildTo rfl 79 _ rfl (some 29) rfl (svL L (.slice pp np pc) (.slice fp nq fc) (.slice ip ni ic) (.slice qp nk qc) rv lv ne (.slice ap an ac) (.slice gp N gc) m7 m8).toArray (by kernel_rfl) ?_) | (refine wpList_is (.box 79 (.tmp 29)) rfl ?_; refine wpList_boxG 79 (svL L (.slice pp np pc) (.slice fp nq fc) (.slice ip ni ic) (.slice qp nk qc) rv lv ne (.slice ap an ac) (.slice gp N gc) m7 m8) 30 (.tmp 29) _ rfl rfl rfl rfl ?_; intro V4 hV4 hB4 hs4) | fail)
    go_meet
    refine ⟨V3.heap.size, m7, m8, .slice gp N gc, rfl, ?_⟩
    obtain ⟨g1, g2, g3, g4, g5, g6, g7, g8⟩ := HG.out
    exact ⟨⟨hV4, rfl, rfl, rfl, g2.keep (hB4.block _ g7), g3.keep (hB4.block _ g8), by omega, by omega, g4⟩, own_bel g1 hB4 (fun g hg => (g1.lt g hg).2), own_bel HNW.out (HV3.out.trans (hB4.mono HV3.out.size)) (fun g hg => (HNW.out.lt g hg).2), HV3.out.trans (hB4.mono HV3.out.size), g5, g6⟩
   ·refine ⟨_, rfl, by rfl, fun K hK => ?_⟩
    go_simp
    obtain ⟨V2, hV2⟩ : ∃ V, V = (V1).alloc (.map #[] 0) := ⟨_, rfl⟩
    have hI2 : Below (V1).heap.size (V1) V2 := by rw [hV2]; exact below1 _ _
    have hB2 : Below W2.heap.size W2 V2 := (hB1).trans (hI2.mono (hB1).size)
    have hM8 : Mp V2 (V1).heap.size none0 := by rw [hV2]; exact Mp.new _
    have hL8 : W2.heap.size ≤ (V1).heap.size ∧ (V1).heap.size < V2.heap.size := ⟨(hB1).size, by rw [hV2]; simp⟩
    change K _ (World.alloc (V1) (.map #[] 0))
    rw [← hV2]
    clear hV2
    obtain ⟨m8, hm8⟩ : ∃ m, m = (V1).heap.size := ⟨_, rfl⟩
    rw [show (V1).heap.size = m8 from hm8.symm] at hM8 hL8
    rw [show (V1).heap.size = m8 from hm8.symm]
    have HM8 : Hid (m8 = (V1).heap.size) := hm8
    clear hm8
    refine hK.out _ _ (fun _ => HR.out _ hB2) ?_
    clear hK K
    try simp only [x0,x1,x2,x3,x4,x5,x6]
    refine set_only (i := 7) (by kernel_rfl) rfl (by rfl) (fun K hK => ?_)
    go_simp
    obtain ⟨V3, hV3⟩ : ∃ V, V = (V2).alloc (.map #[] 0) := ⟨_, rfl⟩
    have hI3 : Below (V2).heap.size (V2) V3 := by rw [hV3]; exact below1 _ _
    have hB3 : Below W2.heap.size W2 V3 := (hB2).trans (hI3.mono (hB2).size)
    have hM7 : Mp V3 (V2).heap.size none0 := by rw [hV3]; exact Mp.new _
    have hL7 : W2.heap.size ≤ (V2).heap.size ∧ (V2).heap.size < V3.heap.size := ⟨(hB2).size, by rw [hV3]; simp⟩
    change K _ (World.alloc (V2) (.map #[] 0))
    rw [← hV3]
    clear hV3
    obtain ⟨m7, hm7⟩ : ∃ m, m = (V2).heap.size := ⟨_, rfl⟩
    rw [show (V2).heap.size = m7 from hm7.symm] at hM7 hL7
    rw [show (V2).heap.size = m7 from hm7.symm]
    have HM7 : Hid (m7 = (V2).heap.size) := hm7
    clear hm7
    refine hK.out _ _ (fun _ => HR.out _ hB3) ?_
    clear hK K
    try simp only [x0,x1,x2,x3,x4,x5,x6]
    refine set_tail 3 9 _ _ _ _ (by kernel_rfl) (by decide) ?_
    simp only [List.toList_toArray, List.drop_succ_cons, List.drop_zero]
    have HG : Hid (V3.ownsRow z 85 3 (.slice gp N gc) N ((frL N (allL L fr)).map owL).flatten ∧ Mp V3 m7 none0 ∧ Mp V3 m8 none0 ∧ m7 ≠ m8 ∧ W2.heap.size ≤ m7 ∧ W2.heap.size ≤ m8 ∧ m7 < V3.heap.size ∧ m8 < V3.heap.size) := ⟨own_bel hgo (hI2.trans (hI3.mono hI2.size)) hgl, hM7.keep ((Below.refl _ _).block _ hL7.2), hM8.keep (hI3.block _ hL8.2), by have h1 := hI1.size; have h2 := hI2.size; have h3 := hI3.size; have h7 := hL7; have h8 := hL8; have e7 := HM7.out; have e8 := HM8.out; omega, hL7.1, hL8.1, by have h1 := hI1.size; have h2 := hI2.size; have h3 := hI3.size; have h7 := hL7; omega, by have h1 := hI1.size; have h2 := hI2.size; have h3 := hI3.size; have h8 := hL8; omega⟩
    have HV3 : Hid (Below W2.heap.size W2 V3) := hB3
    clear hS hM7 hM8 hL7 hL8 HM7 HM8 hI1 hI2 hI3 hB1 hB2 hB3 hgo hgb hgl
    go_wp2_with (first | (refine wpList_is (.build 79 #[(0, .tmp 20), (1, .tmp 22), (2, .tmp 23), (3, .tmp 26), (4, .tmp 27), (5, .tmp 28)]) rfl ?_; refine wpList_buildTo rfl 79 _ rfl (some 29) rfl (svL L (.slice pp np pc) (.slice fp nq fc) (.slice ip ni ic) (.slice qp nk qc) rv lv ne (.slice ap an ac) (.slice gp N gc) m7 m8).toArray (by kernel_rfl) ?_) | (refine wpList_is (.box 79 (.tmp 29)) rfl ?_; refine wpList_boxG 79 (svL L (.slice pp np pc) (.slice fp nq fc) (.slice ip ni ic) (.slice qp nk qc) rv lv ne (.slice ap an ac) (.slice gp N gc) m7 m8) 30 (.tmp 29) _ rfl rfl rfl rfl ?_; intro V4 hV4 hB4 hs4) | fail)
    go_meet
    refine ⟨V3.heap.size, m7, m8, .slice gp N gc, rfl, ?_⟩
    obtain ⟨g1, g2, g3, g4, g5, g6, g7, g8⟩ := HG.out
    exact ⟨⟨hV4, rfl, rfl, rfl, g2.keep (hB4.block _ g7), g3.keep (hB4.block _ g8), by omega, by omega, g4⟩, own_bel g1 hB4 (fun g hg => (g1.lt g hg).2), own_bel HNW.out (HV3.out.trans (hB4.mono HV3.out.size)) (fun g hg => (HNW.out.lt g hg).2), HV3.out.trans (hB4.mono HV3.out.size), g5, g6⟩
  ·refine ⟨_, rfl, by rfl, fun K hK => ?_⟩
   go_simp
   obtain ⟨V1, hV1⟩ : ∃ V, V = (W2.drew).alloc (.map #[] 0) := ⟨_, rfl⟩
   have hI1 : Below (W2.drew).heap.size (W2.drew) V1 := by rw [hV1]; exact below1 _ _
   have hB1 : Below W2.heap.size W2 V1 := (HB0.out).trans (hI1.mono (HB0.out).size)
   have hM7 : Mp V1 (W2.drew).heap.size none0 := by rw [hV1]; exact Mp.new _
   have hL7 : W2.heap.size ≤ (W2.drew).heap.size ∧ (W2.drew).heap.size < V1.heap.size := ⟨(HB0.out).size, by rw [hV1]; simp⟩
   change K _ (World.alloc (W2.drew) (.map #[] 0))
   rw [← hV1]
   clear hV1
   obtain ⟨m7, hm7⟩ : ∃ m, m = (W2.drew).heap.size := ⟨_, rfl⟩
   rw [show (W2.drew).heap.size = m7 from hm7.symm] at hM7 hL7
   rw [show (W2.drew).heap.size = m7 from hm7.symm]
   have HM7 : Hid (m7 = (W2.drew).heap.size) := hm7
   clear hm7
   refine hK.out _ _ (fun _ => HR.out _ hB1) ?_
   clear hK K
   try simp only [x0,x1,x2,x3,x4,x5,x6]
   refine set_each [6, 8] (by kernel_rfl) (by decide) ?_
   intro j hj
   simp only [List.mem_cons, List.not_mem_nil, or_false] at hj
   rcases hj with rfl | rfl
   ·refine ⟨_, rfl, by rfl, fun K hK => ?_⟩
    go_simp
    go_at_call 27
    refine (HOF.out _ hB1).mono ?_
    rintro e V2 ⟨gv, rfl, hgo, hgb⟩
    obtain ⟨gp, gc, rfl⟩ := own_form hgo
    have hI2 : Below (V1).heap.size (V1) V2 := hgb
    have hB2 : Below W2.heap.size W2 V2 := (hB1).trans (hgb.mono (hB1).size)
    have hz6 : z ≤ (V1).heap.size := Nat.le_trans HZ2.out (hB1).size
    have hgl : ∀ g, (Value.slice gp N gc).ownBlock = some g → g < V2.heap.size := fun g hg => (hgo.lt g hg).2
    have hgo := own_mono hgo hz6
    clear hz6
    refine hK.out _ _ (fun _ => HR.out _ hB2) ?_
    clear hK K
    try simp only [x0,x1,x2,x3,x4,x5,x6]
    refine set_only (i := 8) (by kernel_rfl) rfl (by rfl) (fun K hK => ?_)
    go_simp
    obtain ⟨V3, hV3⟩ : ∃ V, V = (V2).alloc (.map #[] 0) := ⟨_, rfl⟩
    have hI3 : Below (V2).heap.size (V2) V3 := by rw [hV3]; exact below1 _ _
    have hB3 : Below W2.heap.size W2 V3 := (hB2).trans (hI3.mono (hB2).size)
    have hM8 : Mp V3 (V2).heap.size none0 := by rw [hV3]; exact Mp.new _
    have hL8 : W2.heap.size ≤ (V2).heap.size ∧ (V2).heap.size < V3.heap.size := ⟨(hB2).size, by rw [hV3]; simp⟩
    change K _ (World.alloc (V2) (.map #[] 0))
    rw [← hV3]
    clear hV3
    obtain ⟨m8, hm8⟩ : ∃ m, m = (V2).heap.size := ⟨_, rfl⟩
    rw [show (V2).heap.size = m8 from hm8.symm] at hM8 hL8
    rw [show (V2).heap.size = m8 from hm8.symm]
    have HM8 : Hid (m8 = (V2).heap.size) := hm8
    clear hm8
    refine hK.out _ _ (fun _ => HR.out _ hB3) ?_
    clear hK K
    try simp only [x0,x1,x2,x3,x4,x5,x6]
    refine set_tail 3 9 _ _ _ _ (by kernel_rfl) (by decide) ?_
    simp only [List.toList_toArray, List.drop_succ_cons, List.drop_zero]
    have HG : Hid (V3.ownsRow z 85 3 (.slice gp N gc) N ((frL N (allL L fr)).map owL).flatten ∧ Mp V3 m7 none0 ∧ Mp V3 m8 none0 ∧ m7 ≠ m8 ∧ W2.heap.size ≤ m7 ∧ W2.heap.size ≤ m8 ∧ m7 < V3.heap.size ∧ m8 < V3.heap.size) := ⟨own_bel hgo hI3 hgl, hM7.keep ((hI2.trans (hI3.mono hI2.size)).block _ hL7.2), hM8.keep ((Below.refl _ _).block _ hL8.2), by have h1 := hI1.size; have h2 := hI2.size; have h3 := hI3.size; have h7 := hL7; have h8 := hL8; have e7 := HM7.out; have e8 := HM8.out; omega, hL7.1, hL8.1, by have h1 := hI1.size; have h2 := hI2.size; have h3 := hI3.size; have h7 := hL7; omega, by have h1 := hI1.size; have h2 := hI2.size; have h3 := hI3.size; have h8 := hL8; omega⟩
    have HV3 : Hid (Below W2.heap.size W2 V3) := hB3
    clear hS hM7 hM8 hL7 hL8 HM7 HM8 hI1 hI2 hI3 hB1 hB2 hB3 hgo hgb hgl
    go_wp2_with (first | (refine wpList_is (.build 79 #[(0, .tmp 20), (1, .tmp 22), (2, .tmp 23), (3, .tmp 26), (4, .tmp 27), (5, .tmp 28)]) rfl ?_; refine wpList_buildTo rfl 79 _ rfl (some 29) rfl (svL L (.slice pp np pc) (.slice fp nq fc) (.slice ip ni ic) (.slice qp nk qc) rv lv ne (.slice ap an ac) (.slice gp N gc) m7 m8).toArray (by kernel_rfl) ?_) | (refine wpList_is (.box 79 (.tmp 29)) rfl ?_; refine wpList_boxG 79 (svL L (.slice pp np pc) (.slice fp nq fc) (.slice ip ni ic) (.slice qp nk qc) rv lv ne (.slice ap an ac) (.slice gp N gc) m7 m8) 30 (.tmp 29) _ rfl rfl rfl rfl ?_; intro V4 hV4 hB4 hs4) | fail)
    go_meet
    refine ⟨V3.heap.size, m7, m8, .slice gp N gc, rfl, ?_⟩
    obtain ⟨g1, g2, g3, g4, g5, g6, g7, g8⟩ := HG.out
    exact ⟨⟨hV4, rfl, rfl, rfl, g2.keep (hB4.block _ g7), g3.keep (hB4.block _ g8), by omega, by omega, g4⟩, own_bel g1 hB4 (fun g hg => (g1.lt g hg).2), own_bel HNW.out (HV3.out.trans (hB4.mono HV3.out.size)) (fun g hg => (HNW.out.lt g hg).2), HV3.out.trans (hB4.mono HV3.out.size), g5, g6⟩
   ·refine ⟨_, rfl, by rfl, fun K hK => ?_⟩
    go_simp
    obtain ⟨V2, hV2⟩ : ∃ V, V = (V1).alloc (.map #[] 0) := ⟨_, rfl⟩
    have hI2 : Below (V1).heap.size (V1) V2 := by rw [hV2]; exact below1 _ _
    have hB2 : Below W2.heap.size W2 V2 := (hB1).trans (hI2.mono (hB1).size)
    have hM8 : Mp V2 (V1).heap.size none0 := by rw [hV2]; exact Mp.new _
    have hL8 : W2.heap.size ≤ (V1).heap.size ∧ (V1).heap.size < V2.heap.size := ⟨(hB1).size, by rw [hV2]; simp⟩
    change K _ (World.alloc (V1) (.map #[] 0))
    rw [← hV2]
    clear hV2
    obtain ⟨m8, hm8⟩ : ∃ m, m = (V1).heap.size := ⟨_, rfl⟩
    rw [show (V1).heap.size = m8 from hm8.symm] at hM8 hL8
    rw [show (V1).heap.size = m8 from hm8.symm]
    have HM8 : Hid (m8 = (V1).heap.size) := hm8
    clear hm8
    refine hK.out _ _ (fun _ => HR.out _ hB2) ?_
    clear hK K
    try simp only [x0,x1,x2,x3,x4,x5,x6]
    refine set_only (i := 6) (by kernel_rfl) rfl (by rfl) (fun K hK => ?_)
    go_simp
    go_at_call 27
    refine (HOF.out _ hB2).mono ?_
    rintro e V3 ⟨gv, rfl, hgo, hgb⟩
    obtain ⟨gp, gc, rfl⟩ := own_form hgo
    have hI3 : Below (V2).heap.size (V2) V3 := hgb
    have hB3 : Below W2.heap.size W2 V3 := (hB2).trans (hgb.mono (hB2).size)
    have hz6 : z ≤ (V2).heap.size := Nat.le_trans HZ2.out (hB2).size
    have hgl : ∀ g, (Value.slice gp N gc).ownBlock = some g → g < V3.heap.size := fun g hg => (hgo.lt g hg).2
    have hgo := own_mono hgo hz6
    clear hz6
    refine hK.out _ _ (fun _ => HR.out _ hB3) ?_
    clear hK K
    try simp only [x0,x1,x2,x3,x4,x5,x6]
    refine set_tail 3 9 _ _ _ _ (by kernel_rfl) (by decide) ?_
    simp only [List.toList_toArray, List.drop_succ_cons, List.drop_zero]
    have HG : Hid (V3.ownsRow z 85 3 (.slice gp N gc) N ((frL N (allL L fr)).map owL).flatten ∧ Mp V3 m7 none0 ∧ Mp V3 m8 none0 ∧ m7 ≠ m8 ∧ W2.heap.size ≤ m7 ∧ W2.heap.size ≤ m8 ∧ m7 < V3.heap.size ∧ m8 < V3.heap.size) := ⟨own_bel hgo (Below.refl _ _) hgl, hM7.keep ((hI2.trans (hI3.mono hI2.size)).block _ hL7.2), hM8.keep (hI3.block _ hL8.2), by have h1 := hI1.size; have h2 := hI2.size; have h3 := hI3.size; have h7 := hL7; have h8 := hL8; have e7 := HM7.out; have e8 := HM8.out; omega, hL7.1, hL8.1, by have h1 := hI1.size; have h2 := hI2.size; have h3 := hI3.size; have h7 := hL7; omega, by have h1 := hI1.size; have h2 := hI2.size; have h3 := hI3.size; have h8 := hL8; omega⟩
    have HV3 : Hid (Below W2.heap.size W2 V3) := hB3
    clear hS hM7 hM8 hL7 hL8 HM7 HM8 hI1 hI2 hI3 hB1 hB2 hB3 hgo hgb hgl
    go_wp2_with (first | (refine wpList_is (.build 79 #[(0, .tmp 20), (1, .tmp 22), (2, .tmp 23), (3, .tmp 26), (4, .tmp 27), (5, .tmp 28)]) rfl ?_; refine wpList_buildTo rfl 79 _ rfl (some 29) rfl (svL L (.slice pp np pc) (.slice fp nq fc) (.slice ip ni ic) (.slice qp nk qc) rv lv ne (.slice ap an ac) (.slice gp N gc) m7 m8).toArray (by kernel_rfl) ?_) | (refine wpList_is (.box 79 (.tmp 29)) rfl ?_; refine wpList_boxG 79 (svL L (.slice pp np pc) (.slice fp nq fc) (.slice ip ni ic) (.slice qp nk qc) rv lv ne (.slice ap an ac) (.slice gp N gc) m7 m8) 30 (.tmp 29) _ rfl rfl rfl rfl ?_; intro V4 hV4 hB4 hs4) | fail)
    go_meet
    refine ⟨V3.heap.size, m7, m8, .slice gp N gc, rfl, ?_⟩
    obtain ⟨g1, g2, g3, g4, g5, g6, g7, g8⟩ := HG.out
    exact ⟨⟨hV4, rfl, rfl, rfl, g2.keep (hB4.block _ g7), g3.keep (hB4.block _ g8), by omega, by omega, g4⟩, own_bel g1 hB4 (fun g hg => (g1.lt g hg).2), own_bel HNW.out (HV3.out.trans (hB4.mono HV3.out.size)) (fun g hg => (HNW.out.lt g hg).2), HV3.out.trans (hB4.mono HV3.out.size), g5, g6⟩
  ·refine ⟨_, rfl, by rfl, fun K hK => ?_⟩
   go_simp
   obtain ⟨V1, hV1⟩ : ∃ V, V = (W2.drew).alloc (.map #[] 0) := ⟨_, rfl⟩
   have hI1 : Below (W2.drew).heap.size (W2.drew) V1 := by rw [hV1]; exact below1 _ _
   have hB1 : Below W2.heap.size W2 V1 := (HB0.out).trans (hI1.mono (HB0.out).size)
   have hM8 : Mp V1 (W2.drew).heap.size none0 := by rw [hV1]; exact Mp.new _
   have hL8 : W2.heap.size ≤ (W2.drew).heap.size ∧ (W2.drew).heap.size < V1.heap.size := ⟨(HB0.out).size, by rw [hV1]; simp⟩
   change K _ (World.alloc (W2.drew) (.map #[] 0))
   rw [← hV1]
   clear hV1
   obtain ⟨m8, hm8⟩ : ∃ m, m = (W2.drew).heap.size := ⟨_, rfl⟩
   rw [show (W2.drew).heap.size = m8 from hm8.symm] at hM8 hL8
   rw [show (W2.drew).heap.size = m8 from hm8.symm]
   have HM8 : Hid (m8 = (W2.drew).heap.size) := hm8
   clear hm8
   refine hK.out _ _ (fun _ => HR.out _ hB1) ?_
   clear hK K
   try simp only [x0,x1,x2,x3,x4,x5,x6]
   refine set_each [6, 7] (by kernel_rfl) (by decide) ?_
   intro j hj
   simp only [List.mem_cons, List.not_mem_nil, or_false] at hj
   rcases hj with rfl | rfl
   ·refine ⟨_, rfl, by rfl, fun K hK => ?_⟩
    go_simp
    go_at_call 27
    refine (HOF.out _ hB1).mono ?_
    rintro e V2 ⟨gv, rfl, hgo, hgb⟩
    obtain ⟨gp, gc, rfl⟩ := own_form hgo
    have hI2 : Below (V1).heap.size (V1) V2 := hgb
    have hB2 : Below W2.heap.size W2 V2 := (hB1).trans (hgb.mono (hB1).size)
    have hz6 : z ≤ (V1).heap.size := Nat.le_trans HZ2.out (hB1).size
    have hgl : ∀ g, (Value.slice gp N gc).ownBlock = some g → g < V2.heap.size := fun g hg => (hgo.lt g hg).2
    have hgo := own_mono hgo hz6
    clear hz6
    refine hK.out _ _ (fun _ => HR.out _ hB2) ?_
    clear hK K
    try simp only [x0,x1,x2,x3,x4,x5,x6]
    refine set_only (i := 7) (by kernel_rfl) rfl (by rfl) (fun K hK => ?_)
    go_simp
    obtain ⟨V3, hV3⟩ : ∃ V, V = (V2).alloc (.map #[] 0) := ⟨_, rfl⟩
    have hI3 : Below (V2).heap.size (V2) V3 := by rw [hV3]; exact below1 _ _
    have hB3 : Below W2.heap.size W2 V3 := (hB2).trans (hI3.mono (hB2).size)
    have hM7 : Mp V3 (V2).heap.size none0 := by rw [hV3]; exact Mp.new _
    have hL7 : W2.heap.size ≤ (V2).heap.size ∧ (V2).heap.size < V3.heap.size := ⟨(hB2).size, by rw [hV3]; simp⟩
    change K _ (World.alloc (V2) (.map #[] 0))
    rw [← hV3]
    clear hV3
    obtain ⟨m7, hm7⟩ : ∃ m, m = (V2).heap.size := ⟨_, rfl⟩
    rw [show (V2).heap.size = m7 from hm7.symm] at hM7 hL7
    rw [show (V2).heap.size = m7 from hm7.symm]
    have HM7 : Hid (m7 = (V2).heap.size) := hm7
    clear hm7
    refine hK.out _ _ (fun _ => HR.out _ hB3) ?_
    clear hK K
    try simp only [x0,x1,x2,x3,x4,x5,x6]
    refine set_tail 3 9 _ _ _ _ (by kernel_rfl) (by decide) ?_
    simp only [List.toList_toArray, List.drop_succ_cons, List.drop_zero]
    have HG : Hid (V3.ownsRow z 85 3 (.slice gp N gc) N ((frL N (allL L fr)).map owL).flatten ∧ Mp V3 m7 none0 ∧ Mp V3 m8 none0 ∧ m7 ≠ m8 ∧ W2.heap.size ≤ m7 ∧ W2.heap.size ≤ m8 ∧ m7 < V3.heap.size ∧ m8 < V3.heap.size) := ⟨own_bel hgo hI3 hgl, hM7.keep ((Below.refl _ _).block _ hL7.2), hM8.keep ((hI2.trans (hI3.mono hI2.size)).block _ hL8.2), by have h1 := hI1.size; have h2 := hI2.size; have h3 := hI3.size; have h7 := hL7; have h8 := hL8; have e7 := HM7.out; have e8 := HM8.out; omega, hL7.1, hL8.1, by have h1 := hI1.size; have h2 := hI2.size; have h3 := hI3.size; have h7 := hL7; omega, by have h1 := hI1.size; have h2 := hI2.size; have h3 := hI3.size; have h8 := hL8; omega⟩
    have HV3 : Hid (Below W2.heap.size W2 V3) := hB3
    clear hS hM7 hM8 hL7 hL8 HM7 HM8 hI1 hI2 hI3 hB1 hB2 hB3 hgo hgb hgl
    go_wp2_with (first | (refine wpList_is (.build 79 #[(0, .tmp 20), (1, .tmp 22), (2, .tmp 23), (3, .tmp 26), (4, .tmp 27), (5, .tmp 28)]) rfl ?_; refine wpList_buildTo rfl 79 _ rfl (some 29) rfl (svL L (.slice pp np pc) (.slice fp nq fc) (.slice ip ni ic) (.slice qp nk qc) rv lv ne (.slice ap an ac) (.slice gp N gc) m7 m8).toArray (by kernel_rfl) ?_) | (refine wpList_is (.box 79 (.tmp 29)) rfl ?_; refine wpList_boxG 79 (svL L (.slice pp np pc) (.slice fp nq fc) (.slice ip ni ic) (.slice qp nk qc) rv lv ne (.slice ap an ac) (.slice gp N gc) m7 m8) 30 (.tmp 29) _ rfl rfl rfl rfl ?_; intro V4 hV4 hB4 hs4) | fail)
    go_meet
    refine ⟨V3.heap.size, m7, m8, .slice gp N gc, rfl, ?_⟩
    obtain ⟨g1, g2, g3, g4, g5, g6, g7, g8⟩ := HG.out
    exact ⟨⟨hV4, rfl, rfl, rfl, g2.keep (hB4.block _ g7), g3.keep (hB4.block _ g8), by omega, by omega, g4⟩, own_bel g1 hB4 (fun g hg => (g1.lt g hg).2), own_bel HNW.out (HV3.out.trans (hB4.mono HV3.out.size)) (fun g hg => (HNW.out.lt g hg).2), HV3.out.trans (hB4.mono HV3.out.size), g5, g6⟩
   ·refine ⟨_, rfl, by rfl, fun K hK => ?_⟩
    go_simp
    obtain ⟨V2, hV2⟩ : ∃ V, V = (V1).alloc (.map #[] 0) := ⟨_, rfl⟩
    have hI2 : Below (V1).heap.size (V1) V2 := by rw [hV2]; exact below1 _ _
    have hB2 : Below W2.heap.size W2 V2 := (hB1).trans (hI2.mono (hB1).size)
    have hM7 : Mp V2 (V1).heap.size none0 := by rw [hV2]; exact Mp.new _
    have hL7 : W2.heap.size ≤ (V1).heap.size ∧ (V1).heap.size < V2.heap.size := ⟨(hB1).size, by rw [hV2]; simp⟩
    change K _ (World.alloc (V1) (.map #[] 0))
    rw [← hV2]
    clear hV2
    obtain ⟨m7, hm7⟩ : ∃ m, m = (V1).heap.size := ⟨_, rfl⟩
    rw [show (V1).heap.size = m7 from hm7.symm] at hM7 hL7
    rw [show (V1).heap.size = m7 from hm7.symm]
    have HM7 : Hid (m7 = (V1).heap.size) := hm7
    clear hm7
    refine hK.out _ _ (fun _ => HR.out _ hB2) ?_
    clear hK K
    try simp only [x0,x1,x2,x3,x4,x5,x6]
    refine set_only (i := 6) (by kernel_rfl) rfl (by rfl) (fun K hK => ?_)
    go_simp
    go_at_call 27
    refine (HOF.out _ hB2).mono ?_
    rintro e V3 ⟨gv, rfl, hgo, hgb⟩
    obtain ⟨gp, gc, rfl⟩ := own_form hgo
    have hI3 : Below (V2).heap.size (V2) V3 := hgb
    have hB3 : Below W2.heap.size W2 V3 := (hB2).trans (hgb.mono (hB2).size)
    have hz6 : z ≤ (V2).heap.size := Nat.le_trans HZ2.out (hB2).size
    have hgl : ∀ g, (Value.slice gp N gc).ownBlock = some g → g < V3.heap.size := fun g hg => (hgo.lt g hg).2
    have hgo := own_mono hgo hz6
    clear hz6
    refine hK.out _ _ (fun _ => HR.out _ hB3) ?_
    clear hK K
    try simp only [x0,x1,x2,x3,x4,x5,x6]
    refine set_tail 3 9 _ _ _ _ (by kernel_rfl) (by decide) ?_
    simp only [List.toList_toArray, List.drop_succ_cons, List.drop_zero]
    have HG : Hid (V3.ownsRow z 85 3 (.slice gp N gc) N ((frL N (allL L fr)).map owL).flatten ∧ Mp V3 m7 none0 ∧ Mp V3 m8 none0 ∧ m7 ≠ m8 ∧ W2.heap.size ≤ m7 ∧ W2.heap.size ≤ m8 ∧ m7 < V3.heap.size ∧ m8 < V3.heap.size) := ⟨own_bel hgo (Below.refl _ _) hgl, hM7.keep (hI3.block _ hL7.2), hM8.keep ((hI2.trans (hI3.mono hI2.size)).block _ hL8.2), by have h1 := hI1.size; have h2 := hI2.size; have h3 := hI3.size; have h7 := hL7; have h8 := hL8; have e7 := HM7.out; have e8 := HM8.out; omega, hL7.1, hL8.1, by have h1 := hI1.size; have h2 := hI2.size; have h3 := hI3.size; have h7 := hL7; omega, by have h1 := hI1.size; have h2 := hI2.size; have h3 := hI3.size; have h8 := hL8; omega⟩
    have HV3 : Hid (Below W2.heap.size W2 V3) := hB3
    clear hS hM7 hM8 hL7 hL8 HM7 HM8 hI1 hI2 hI3 hB1 hB2 hB3 hgo hgb hgl
    go_wp2_with (first | (refine wpList_is (.build 79 #[(0, .tmp 20), (1, .tmp 22), (2, .tmp 23), (3, .tmp 26), (4, .tmp 27), (5, .tmp 28)]) rfl ?_; refine wpList_buildTo rfl 79 _ rfl (some 29) rfl (svL L (.slice pp np pc) (.slice fp nq fc) (.slice ip ni ic) (.slice qp nk qc) rv lv ne (.slice ap an ac) (.slice gp N gc) m7 m8).toArray (by kernel_rfl) ?_) | (refine wpList_is (.box 79 (.tmp 29)) rfl ?_; refine wpList_boxG 79 (svL L (.slice pp np pc) (.slice fp nq fc) (.slice ip ni ic) (.slice qp nk qc) rv lv ne (.slice ap an ac) (.slice gp N gc) m7 m8) 30 (.tmp 29) _ rfl rfl rfl rfl ?_; intro V4 hV4 hB4 hs4) | fail)
    go_meet
    refine ⟨V3.heap.size, m7, m8, .slice gp N gc, rfl, ?_⟩
    obtain ⟨g1, g2, g3, g4, g5, g6, g7, g8⟩ := HG.out
    exact ⟨⟨hV4, rfl, rfl, rfl, g2.keep (hB4.block _ g7), g3.keep (hB4.block _ g8), by omega, by omega, g4⟩, own_bel g1 hB4 (fun g hg => (g1.lt g hg).2), own_bel HNW.out (HV3.out.trans (hB4.mono HV3.out.size)) (fun g hg => (HNW.out.lt g hg).2), HV3.out.trans (hB4.mono HV3.out.size), g5, g6⟩
 case rest =>
  obtain ⟨s, m1, m2, gfv, rfl, hR2⟩ := hcut
  have HR2 : Hid (R2 z W2 wc s L (.slice pp np pc) (.slice fp nq fc) (.slice ip ni ic) (.slice qp nk qc) rv lv ne (.slice ap an ac) N (allL L fr) m1 m2 gfv none0 none0) := hR2
  clear hR2 HOF HR
  have kd : wc.cell? ⟨z, 1, .none⟩ = some (.slice pp np pc) := HBX.out wc HR2.out.bl 1 _ rfl
  go_wp2
  clear kd
  go_loopw [34] (fun k wr => ∃ i : Nat, i ≤ np ∧ k = .int .i64 i ∧ Hid (R2 z W2 wr s L (.slice pp np pc) (.slice fp nq fc) (.slice ip ni ic) (.slice qp nk qc) rv lv ne (.slice ap an ac) N (allL L fr) m1 m2 gfv (foldI enP none0 (L.procs.take (i))) (((L.procs.take (i)).flatMap nmPr).foldl cnt1 none0))) (fun v _ => (np - intOf v).toNat)
  case atStart => exact ⟨0, by omega, rfl, HR2.out⟩
  case round =>
   clear HR2
   obtain ⟨i, hi, rfl, HB⟩ := hrel
   by_cases hin : i < np
   ·as_aux_lemma =>
     have i1 : (i : Int) < np := by omega
     obtain ⟨-, b, o, x, cs, rfl, hbX, hx, ⟨nv, gv, rfl, hN, hG⟩, hcl, hr⟩ := HLK.out.ps.at hin
     have hr' : wr.rangeAt b (o + i * 70) (x.l nv gv) := range_keep hr (HBW.out wr HB.out.bl) (by have := HXZ.out; omega : b < z)
     have HX1 : Hid (∀ u ∈ x.l nv gv, u.oneCell' = true) := pcl_one x hN.one hG.one
     have HX : Hid (L.procs[i]? = some x) := hx
     clear hr hcl hbX hx hN hG
     go_wp2_with (first
      | (refine wpList_is (.load 60 (.tmp 37)) rfl ?_; refine wpList_loadG 60 70 584 info55 _ Try.underlying60 rfl (x.l nv gv) rfl b (o + i * 70) (.tmp 37) rfl rfl rfl hr' (some 38) rfl ?_; clear hr')
      | (refine wpList_is (.alloc 60) rfl ?_; refine wpList_allocG 60 70 584 info55 10 _ rfl rfl rfl ?_; intro W5 zs hzs hW5 hB5 hs5)
      | (refine wpList_is (.store 60 (.tmp 10) (.tmp 38)) rfl ?_; refine wpList_storeG 60 70 584 wr.heap.size info55 (x.l nv gv) zs rfl hzs HX1.out (.tmp 10) (.tmp 38) _ rfl rfl rfl rfl rfl hW5 ?_; intro W6 hW6 hg6 hs6; clear hW5; have HB6 : Hid (Below wr.heap.size wr W6) := below_new hB5 hg6 (by omega); clear hB5 hg6 hs5 hs6 hzs)
      | (refine wpList_is (.load 60 (.tmp 10)) rfl ?_; refine wpList_loadG 60 70 584 info55 _ Try.underlying60 rfl (x.l nv gv) rfl wr.heap.size 0 (.tmp 10) rfl rfl rfl (range_heap hW6) (some 41) rfl ?_)
      | fail)
     clear hW6
     go_at_call 28
     have hR6 := HB.out.keep HB6.out
     have hv6 := hR6.sv
     refine (enterP_any hv6 x nv gv (HLR.out.p x (List.mem_of_getElem? HX.out)) i (nb1 L i HLR.out.pl) (by decide)).mono ?_
     rintro e W7 ⟨u, rfl, hv7, hF7⟩
     have HR7 : Hid (R2 z W2 W7 s L (.slice (some ⟨b, o, .none⟩) np pc) (.slice fp nq fc) (.slice ip ni ic) (.slice qp nk qc) rv lv ne (.slice ap an ac) N (allL L fr) m1 m2 gfv (foldI enP none0 (L.procs.take (i + 1))) (((L.procs.take (i + 1)).flatMap nmPr).foldl cnt1 none0)) := by
      rw [foldI_take enP none0 L.procs i x HX.out, fold_flat nmPr cnt1 none0 L.procs i x HX.out]
      exact hR6.step hF7 hv7
     clear hR6 hv6 hv7 hF7 HB HB6 HX1 HX
     go_wp2
     exact ⟨⟨i + 1, by omega, by go_num, HR7.out⟩, by simp [intOf]; omega⟩
   ·have i1 : ¬ (i : Int) < np := by omega
    obtain rfl : np = i := by omega
    have HR2 : Hid (R2 z W2 wr s L (.slice pp np pc) (.slice fp nq fc) (.slice ip ni ic) (.slice qp nk qc) rv lv ne (.slice ap an ac) N (allL L fr) m1 m2 gfv (pf1 L) (nf1 L)) := by
     have := HB.out
     rw [show L.procs.take np = L.procs by rw [HNN.out.1, List.take_length]] at this
     exact this
    clear HB hin hi
    generalize wr = wc at *
    have kd : wc.cell? ⟨z, 2, .none⟩ = some (.slice fp nq fc) := HBX.out wc HR2.out.bl 2 _ rfl
    go_wp2
    clear kd
    go_loopw [47] (fun k wr => ∃ i : Nat, i ≤ nq ∧ k = .int .i64 i ∧ Hid (R2 z W2 wr s L (.slice pp np pc) (.slice fp nq fc) (.slice ip ni ic) (.slice qp nk qc) rv lv ne (.slice ap an ac) N (allL L fr) m1 m2 gfv (foldI enF (pf1 L) (L.files.take (i))) (((L.files.take (i)).flatMap nmFi).foldl cnt1 (nf1 L)))) (fun v _ => (nq - intOf v).toNat)
    case atStart => exact ⟨0, by omega, rfl, HR2.out⟩
    case round =>
     clear HR2
     obtain ⟨i, hi, rfl, HB⟩ := hrel
     by_cases hin : i < nq
     ·as_aux_lemma =>
       have i1 : (i : Int) < nq := by omega
       obtain ⟨-, b, o, x, cs, rfl, hbX, hx, rfl, hcl, hr⟩ := HLK.out.fs.at hin
       have hr' : wr.rangeAt b (o + i * 8) (x.l) := range_keep hr (HBW.out wr HB.out.bl) (by have := HXZ.out; omega : b < z)
       have HX1 : Hid (∀ u ∈ x.l, u.oneCell' = true) := List.all_eq_true.1 (show x.l.all (fun u => u.oneCell') = true from rfl)
       have HX : Hid (L.files[i]? = some x) := hx
       clear hr hcl hbX hx
       go_wp2_with (first
        | (refine wpList_is (.load 67 (.tmp 50)) rfl ?_; refine wpList_loadG 67 8 56 info94 _ Try.underlying67 rfl (x.l) rfl b (o + i * 8) (.tmp 50) rfl rfl rfl hr' (some 51) rfl ?_; clear hr')
        | (refine wpList_is (.alloc 67) rfl ?_; refine wpList_allocG 67 8 56 info94 12 _ rfl rfl rfl ?_; intro W5 zs hzs hW5 hB5 hs5)
        | (refine wpList_is (.store 67 (.tmp 12) (.tmp 51)) rfl ?_; refine wpList_storeG 67 8 56 wr.heap.size info94 (x.l) zs rfl hzs HX1.out (.tmp 12) (.tmp 51) _ rfl rfl rfl rfl rfl hW5 ?_; intro W6 hW6 hg6 hs6; clear hW5; have HB6 : Hid (Below wr.heap.size wr W6) := below_new hB5 hg6 (by omega); clear hB5 hg6 hs5 hs6 hzs)
        | (refine wpList_is (.load 67 (.tmp 12)) rfl ?_; refine wpList_loadG 67 8 56 info94 _ Try.underlying67 rfl (x.l) rfl wr.heap.size 0 (.tmp 12) rfl rfl rfl (range_heap hW6) (some 54) rfl ?_)
        | fail)
       clear hW6
       go_at_call 29
       have hR6 := HB.out.keep HB6.out
       have hv6 := hR6.sv
       refine (enterF_any hv6 x (HLR.out.f x (List.mem_of_getElem? HX.out)) i (nb2 L i HLR.out.pl HLR.out.fl) (by decide)).mono ?_
       rintro e W7 ⟨u, rfl, hv7, hF7⟩
       have HR7 : Hid (R2 z W2 W7 s L (.slice pp np pc) (.slice (some ⟨b, o, .none⟩) nq fc) (.slice ip ni ic) (.slice qp nk qc) rv lv ne (.slice ap an ac) N (allL L fr) m1 m2 gfv (foldI enF (pf1 L) (L.files.take (i + 1))) (((L.files.take (i + 1)).flatMap nmFi).foldl cnt1 (nf1 L))) := by
        rw [foldI_take enF (pf1 L) L.files i x HX.out, fold_flat nmFi cnt1 (nf1 L) L.files i x HX.out]
        exact hR6.step hF7 hv7
       clear hR6 hv6 hv7 hF7 HB HB6 HX1 HX
       go_wp2
       exact ⟨⟨i + 1, by omega, by go_num, HR7.out⟩, by simp [intOf]; omega⟩
     ·have i1 : ¬ (i : Int) < nq := by omega
      obtain rfl : nq = i := by omega
      have HR2 : Hid (R2 z W2 wr s L (.slice pp np pc) (.slice fp nq fc) (.slice ip ni ic) (.slice qp nk qc) rv lv ne (.slice ap an ac) N (allL L fr) m1 m2 gfv (pf2 L) (nfA L)) := by
       have := HB.out
       rw [show L.files.take nq = L.files by rw [HNN.out.2.1, List.take_length]] at this
       exact this
      clear HB hin hi
      generalize wr = wc at *
      have kd : wc.cell? ⟨z, 3, .none⟩ = some (.slice ip ni ic) := HBX.out wc HR2.out.bl 3 _ rfl
      go_wp2
      clear kd
      go_loopw [60] (fun k wr => ∃ i : Nat, i ≤ ni ∧ k = .int .i64 i ∧ Hid (R2 z W2 wr s L (.slice pp np pc) (.slice fp nq fc) (.slice ip ni ic) (.slice qp nk qc) rv lv ne (.slice ap an ac) N (allL L fr) m1 m2 gfv (foldI enI (pf2 L) (L.inos.take (i))) (nfA L))) (fun v _ => (ni - intOf v).toNat)
      case atStart => exact ⟨0, by omega, rfl, HR2.out⟩
      case round =>
       clear HR2
       obtain ⟨i, hi, rfl, HB⟩ := hrel
       by_cases hin : i < ni
       ·as_aux_lemma =>
         have i1 : (i : Int) < ni := by omega
         obtain ⟨-, b, o, x, cs, rfl, hbX, hx, ⟨bv, rfl, hN⟩, hcl, hr⟩ := HLK.out.is.at hin
         have hr' : wr.rangeAt b (o + i * 8) (x.l bv) := range_keep hr (HBW.out wr HB.out.bl) (by have := HXZ.out; omega : b < z)
         have HX1 : Hid (∀ u ∈ x.l bv, u.oneCell' = true) := inl_one x hN.one
         have HX : Hid (L.inos[i]? = some x) := hx
         clear hr hcl hbX hx hN
         go_wp2_with (first
          | (refine wpList_is (.load 63 (.tmp 63)) rfl ?_; refine wpList_loadG 63 8 72 info66 _ Try.underlying63 rfl (x.l bv) rfl b (o + i * 8) (.tmp 63) rfl rfl rfl hr' (some 64) rfl ?_; clear hr')
          | (refine wpList_is (.alloc 63) rfl ?_; refine wpList_allocG 63 8 72 info66 14 _ rfl rfl rfl ?_; intro W5 zs hzs hW5 hB5 hs5)
          | (refine wpList_is (.store 63 (.tmp 14) (.tmp 64)) rfl ?_; refine wpList_storeG 63 8 72 wr.heap.size info66 (x.l bv) zs rfl hzs HX1.out (.tmp 14) (.tmp 64) _ rfl rfl rfl rfl rfl hW5 ?_; intro W6 hW6 hg6 hs6; clear hW5; have HB6 : Hid (Below wr.heap.size wr W6) := below_new hB5 hg6 (by omega); clear hB5 hg6 hs5 hs6 hzs)
          | (refine wpList_is (.load 63 (.tmp 14)) rfl ?_; refine wpList_loadG 63 8 72 info66 _ Try.underlying63 rfl (x.l bv) rfl wr.heap.size 0 (.tmp 14) rfl rfl rfl (range_heap hW6) (some 67) rfl ?_)
          | fail)
         clear hW6
         go_at_call 30
         have hR6 := HB.out.keep HB6.out
         have hv6 := hR6.sv
         refine (enterI_any hv6 x bv (HLR.out.i x (List.mem_of_getElem? HX.out)).ino i).mono ?_
         rintro e W7 ⟨u, rfl, hv7, hF7⟩
         have HR7 : Hid (R2 z W2 W7 s L (.slice pp np pc) (.slice fp nq fc) (.slice (some ⟨b, o, .none⟩) ni ic) (.slice qp nk qc) rv lv ne (.slice ap an ac) N (allL L fr) m1 m2 gfv (foldI enI (pf2 L) (L.inos.take (i + 1))) (nfA L)) := by
          rw [foldI_take enI (pf2 L) L.inos i x HX.out]
          exact hR6.step hF7 hv7
         clear hR6 hv6 hv7 hF7 HB HB6 HX1 HX
         go_wp2
         exact ⟨⟨i + 1, by omega, by go_num, HR7.out⟩, by simp [intOf]; omega⟩
       ·have i1 : ¬ (i : Int) < ni := by omega
        obtain rfl : ni = i := by omega
        have HR2 : Hid (R2 z W2 wr s L (.slice pp np pc) (.slice fp nq fc) (.slice ip ni ic) (.slice qp nk qc) rv lv ne (.slice ap an ac) N (allL L fr) m1 m2 gfv (pf3 L) (nfA L)) := by
         have := HB.out
         rw [show L.inos.take ni = L.inos by rw [HNN.out.2.2.1, List.take_length]] at this
         exact this
        clear HB hin hi
        generalize wr = wc at *
        have kd : wc.cell? ⟨z, 4, .none⟩ = some (.slice qp nk qc) := HBX.out wc HR2.out.bl 4 _ rfl
        go_wp2
        clear kd
        go_loopw [73] (fun k wr => ∃ i : Nat, i ≤ nk ∧ k = .int .i64 i ∧ Hid (R2 z W2 wr s L (.slice pp np pc) (.slice fp nq fc) (.slice ip ni ic) (.slice qp nk qc) rv lv ne (.slice ap an ac) N (allL L fr) m1 m2 gfv (foldI enQ (pf3 L) (L.pipes.take (i))) (nfA L))) (fun v _ => (nk - intOf v).toNat)
        case atStart => exact ⟨0, by omega, rfl, HR2.out⟩
        case round =>
         clear HR2
         obtain ⟨i, hi, rfl, HB⟩ := hrel
         by_cases hin : i < nk
         ·as_aux_lemma =>
           have i1 : (i : Int) < nk := by omega
           obtain ⟨-, b, o, x, cs, rfl, hbX, hx, ⟨bv, rfl, hN⟩, hcl, hr⟩ := HLK.out.qs.at hin
           have hr' : wr.rangeAt b (o + i * 6) (x.l bv) := range_keep hr (HBW.out wr HB.out.bl) (by have := HXZ.out; omega : b < z)
           have HX1 : Hid (∀ u ∈ x.l bv, u.oneCell' = true) := ppl_one x hN.one
           have HX : Hid (L.pipes[i]? = some x) := hx
           clear hr hcl hbX hx hN
           go_wp2_with (first
            | (refine wpList_is (.load 72 (.tmp 76)) rfl ?_; refine wpList_loadG 72 6 48 info98 _ Try.underlying72 rfl (x.l bv) rfl b (o + i * 6) (.tmp 76) rfl rfl rfl hr' (some 77) rfl ?_; clear hr')
            | (refine wpList_is (.alloc 72) rfl ?_; refine wpList_allocG 72 6 48 info98 16 _ rfl rfl rfl ?_; intro W5 zs hzs hW5 hB5 hs5)
            | (refine wpList_is (.store 72 (.tmp 16) (.tmp 77)) rfl ?_; refine wpList_storeG 72 6 48 wr.heap.size info98 (x.l bv) zs rfl hzs HX1.out (.tmp 16) (.tmp 77) _ rfl rfl rfl rfl rfl hW5 ?_; intro W6 hW6 hg6 hs6; clear hW5; have HB6 : Hid (Below wr.heap.size wr W6) := below_new hB5 hg6 (by omega); clear hB5 hg6 hs5 hs6 hzs; have q0 : W6.cell? ⟨wr.heap.size, 0, .none⟩ = some (.int .i64 x.num) := cell_heap (o := 0) hW6)
            | (refine wpList_is (.build 101 #[(0, .const (.int .i64 5)), (1, .tmp 81)]) rfl ?_; refine wpList_buildTo rfl 101 _ rfl (some 82) rfl (thL (5, x.num)).toArray (by kernel_rfl) ?_)
            | fail)
           clear hW6 q0
           go_at_call 31
           have hR6 := HB.out.keep HB6.out
           have hv6 := hR6.sv
           refine (enter_any hv6 (t := (5, x.num)) ⟨lit64 5 (by omega), (HLR.out.q x (List.mem_of_getElem? HX.out)).num⟩ i).mono ?_
           rintro e W7 ⟨u, rfl, hv7, hF7⟩
           have HR7 : Hid (R2 z W2 W7 s L (.slice pp np pc) (.slice fp nq fc) (.slice ip ni ic) (.slice (some ⟨b, o, .none⟩) nk qc) rv lv ne (.slice ap an ac) N (allL L fr) m1 m2 gfv (foldI enQ (pf3 L) (L.pipes.take (i + 1))) (nfA L)) := by
            rw [foldI_take enQ (pf3 L) L.pipes i x HX.out]
            exact hR6.step hF7 hv7
           clear hR6 hv6 hv7 hF7 HB HB6 HX1 HX
           go_wp2
           exact ⟨⟨i + 1, by omega, by go_num, HR7.out⟩, by simp [intOf]; omega⟩
         ·have i1 : ¬ (i : Int) < nk := by omega
          obtain rfl : nk = i := by omega
          have HR2 : Hid (R2 z W2 wr s L (.slice pp np pc) (.slice fp nq fc) (.slice ip ni ic) (.slice qp nk qc) rv lv ne (.slice ap an ac) N (allL L fr) m1 m2 gfv (pfA L) (nfA L)) := by
           have := HB.out
           rw [show L.pipes.take nk = L.pipes by rw [HNN.out.2.2.2, List.take_length]] at this
           exact this
          clear HB hin hi
          generalize wr = wc at *
          go_wp2
          go_ret
          have hfin := HR2.out
          rw [HNE.out, HNN.out.1, HNN.out.2.1, HNN.out.2.2.1, HNN.out.2.2.2] at hfin
          refine ⟨s, m1, m2, .slice ap an ac, gfv, rfl, ?_⟩
          rw [HNN.out.1, HNN.out.2.1, HNN.out.2.2.1, HNN.out.2.2.2, ← HZ.out]
          exact ⟨hfin.sv, hfin.nw, hfin.ow, HBW.out _ hfin.bl⟩
end Go.Proofs.Ythopgmmodldljab
