import Derived.Test.YthopgmmodldljaaGd
namespace Go.Proofs.Ythopgmmodldljaa
open Go Go.RowKit
set_option linter.unusedVariables false
set_option linter.unusedSimpArgs false
theorem Sml.cb {L : Lk} (h : Sml L) : Cb L := ⟨h.p, h.f, h.i, h.q, by have := h.r; omega, by have := h.l; omega, fun x hx => by have := h.pg x hx; omega, fun x hx => by have := h.qb x hx; omega⟩
/-! CensusMoved. -/
def mvG (N t : Nat) (g : Pg) : Pg := ⟨g.no, mvF N t g.fr, g.pm⟩
def pcS (N t : Nat) (p : Pc) (a b : Bool) (kn kg : Nat) : Pc := ⟨fun i => if i = 42 then (if b then mvF N t (p.c 42) else p.c 42) else if i = 43 then (if a then mvF N t (p.c 43) else p.c 43) else p.c i, p.kil, p.inC, (p.nodes.take kn).map (mvF N t) ++ p.nodes.drop kn, (p.pages.take kg).map (mvG N t) ++ p.pages.drop kg⟩
theorem pcS_none (N t : Nat) (p : Pc) : pcS N t p false false 0 0 = p := by
  obtain ⟨c, k, i, n, g⟩ := p
  unfold pcS
  simp only [List.take_zero, List.map_nil, List.nil_append, List.drop_zero]
  congr 1
  funext i
  split
  · rename_i h; subst h; rfl
  · split
    · rename_i h; subst h; rfl
    · rfl
theorem pcS_all (N t : Nat) (p : Pc) : pcS N t p true true p.nodes.length p.pages.length = mvPc N t p := by
  unfold pcS mvPc
  rw [List.take_length, List.take_length, List.drop_length, List.drop_length, List.append_nil, List.append_nil]
  rfl
theorem part_set {α : Type} (f : α → α) (l : List α) (k : Nat) (x : α) (h : l[k]? = some x) : ((l.take k).map f ++ l.drop k).set k (f x) = (l.take (k + 1)).map f ++ l.drop (k + 1) := by
  obtain ⟨hl, he⟩ := List.getElem?_eq_some_iff.1 h
  have h1 : ((l.take k).map f).length = k := by rw [List.length_map, List.length_take]; omega
  rw [List.set_append_right _ _ (by omega), h1, Nat.sub_self, List.drop_eq_getElem_cons hl, List.set_cons_zero, List.take_add_one, h, Option.toList_some, List.map_append, List.append_assoc]
  rfl
theorem part_get {α : Type} (f : α → α) (l : List α) (k : Nat) (x : α) (h : l[k]? = some x) : ((l.take k).map f ++ l.drop k)[k]? = some x := by
  obtain ⟨hl, he⟩ := List.getElem?_eq_some_iff.1 h
  have h1 : ((l.take k).map f).length = k := by rw [List.length_map, List.length_take]; omega
  rw [List.getElem?_append_right (by omega), h1, Nat.sub_self, List.getElem?_drop, Nat.add_zero]
  exact h
theorem part_len {α : Type} (f : α → α) (l : List α) (k : Nat) : ((l.take k).map f ++ l.drop k).length = l.length := by
  rw [List.length_append, List.length_map, List.length_take, List.length_drop]
  omega
def mvE (N t : Nat) (e : PE) : PE := (mvPc N t e.1, e.2)
def mvI (N t : Nat) (e : IE) : IE := (mvIn N t e.1, e.2)
def inS (N t : Nat) (x : In) (k : Nat) : In := ⟨x.ino, x.ty, x.ma, x.mi, x.links, x.refs, x.size, (x.bl.take k).map (mvF N t) ++ x.bl.drop k⟩
theorem inS_none (N t : Nat) (x : In) : inS N t x 0 = x := by
  unfold inS
  simp
theorem inS_all (N t : Nat) (x : In) : inS N t x x.bl.length = mvIn N t x := by
  unfold inS mvIn
  simp
theorem own_some {w : World} {base e k n c : Nat} {p : Option Addr} {xs : List Value} (h : w.ownsRow base e k (.slice p n c) n xs) (hn : 0 < n) : ∃ g, p = some ⟨g, 0, .none⟩ := by
  rcases h.2 with ⟨h0, h1⟩ | ⟨g, cap, cur, hv, _⟩
  · omega
  · injection hv with h1
    exact ⟨g, h1⟩
def Mfq (w : World) (base mb : Nat) (tr : Int) (E : List PE) (EI : List IE) (EQ : List QE) (L : Lk) (pv fv iv qv rv lv : Value) (l : List Int) (fu : Value) : Prop :=
  Owns w base (rowN l fu :: (bx 33 10 mb (lkL tr pv fv iv qv rv lv L.ticks L.next L.free) :: ([rowP E pv, rowF L.files fv, rowI EI iv, rowQ EQ qv, rowB L.ready rv, rowB L.line lv] ++ (rowsP E ++ rowsI EI ++ rowsQ EQ))))
theorem pcS_l (N t : Nat) (p : Pc) (a b : Bool) (k1 k2 k3 k4 : Nat) (nv gv : Value) : (pcS N t p a b k1 k2).l nv gv = (pcS N t p a b k3 k4).l nv gv := rfl
section
variable {w : World} {base mb : Nat} {tr : Int} {E : List PE} {EI : List IE} {EQ : List QE} {L : Lk} {pv fv iv qv rv lv : Value}
theorem Mw.prow (h : Mw w base mb tr E EI EQ L pv fv iv qv rv lv) : w.ownsRow base 55 70 pv E.length ((E.map PE.l).flatten) := Owns.own h (rowP E pv) (by simp)
theorem Mw.irow (h : Mw w base mb tr E EI EQ L pv fv iv qv rv lv) : w.ownsRow base 66 8 iv EI.length ((EI.map IE.l).flatten) := Owns.own h (rowI EI iv) (by simp)
theorem Mw.nrow (h : Mw w base mb tr E EI EQ L pv fv iv qv rv lv) {i : Nat} {p : Pc} {nv gv : Value} (hi : E[i]? = some (p, nv, gv)) : w.ownsRow base 24 1 nv p.nodes.length (p.nodes.map (.int .u64)) := Owns.own h (rowN p.nodes nv) (by rw [(rowsP_split hi (p, nv, gv)).1]; simp)
theorem Mw.grow (h : Mw w base mb tr E EI EQ L pv fv iv qv rv lv) {i : Nat} {p : Pc} {nv gv : Value} (hi : E[i]? = some (p, nv, gv)) : w.ownsRow base 81 3 gv p.pages.length ((p.pages.map Pg.l).flatten) := Owns.own h (rowG p.pages gv) (by rw [(rowsP_split hi (p, nv, gv)).1]; simp)
theorem Mw.brow (h : Mw w base mb tr E EI EQ L pv fv iv qv rv lv) {i : Nat} {p : In} {bv : Value} (hi : EI[i]? = some (p, bv)) : w.ownsRow base 24 1 bv p.bl.length (p.bl.map (.int .u64)) := Owns.own h (rowN p.bl bv) (by rw [(rowsI_split hi (p, bv)).1]; simp)
end
set_option maxRecDepth 100000 in
set_option maxHeartbeats 8000000 in
theorem moveds_any {w : World} {X : Nat} {pv fv iv qv rv lv : Value} {L : Lk} (h : LkW w X pv fv iv qv rv lv L) (hX : X ≤ w.heap.size) {ev : Value} {fr : List Int} (hf : Wd w X ev fr) (hs : Sml L) (hfe : fewN L fr.length ≤ 1000000000000000000) (hR : LkR L) (hfr : ∀ a ∈ fr, u64R a) (hfl : fr.length ≤ 1048576) (N tn : Int) : Calls Try.prog 8 #[.int .i64 N, .agg (lkL L.tramp pv fv iv qv rv lv L.ticks L.next L.free).toArray, ev, .int .i64 tn] w fun e w' => e = .returned (.bool true) ∧ Below w.heap.size w w' := by
  obtain ⟨pp, pc, rfl⟩ := h.ps.form
  obtain ⟨ep, ec, rfl⟩ := hf.form
  obtain ⟨np, hnp⟩ : ∃ n, n = L.procs.length := ⟨_, rfl⟩
  obtain ⟨ne, hne⟩ : ∃ n, n = fr.length := ⟨_, rfl⟩
  rw [← hnp] at h ⊢
  rw [← hne] at hf ⊢
  obtain ⟨lc, hlc⟩ : ∃ lc, lc = lkL L.tramp (.slice pp np pc) fv iv qv rv lv L.ticks L.next L.free := ⟨_, rfl⟩
  rw [← hlc]
  have HL1 : Hid (lc.length = 10 ∧ lc[1]? = some (.slice pp np pc)) := by rw [hlc]; exact ⟨rfl, rfl⟩
  have HKP : Hid (∀ w', Below w.heap.size w w' → LkW w' X (.slice pp np pc) fv iv qv rv lv L ∧ Wd w' X (.slice ep ne ec) fr ∧ X ≤ w'.heap.size ∧ X ≤ w.heap.size) := fun w' hb => ⟨h.keep (Nat.le_refl _) (hb.mono hX), Wd.keep hf (Nat.le_refl _) (hb.mono hX), Nat.le_trans hX hb.size, hX⟩
  have HF : Hid (∀ w', Below w.heap.size w w' → Calls Try.prog 10 #[.agg lc.toArray, .slice ep ne ec] w' fun e w'' => e = .returned (.bool (decide (fewN L ne ≤ 6000))) ∧ Below w'.heap.size w' w'') := fun w' hb => by rw [hlc]; exact few_any (HKP.out w' hb).1 (HKP.out w' hb).2.2.1 ep ne ec (by rw [hne]; exact hfe)
  have HT : Hid (∀ w', Below w.heap.size w w' → Calls Try.prog 12 #[.agg lc.toArray] w' fun e w'' => ∃ pv' fv' iv' qv' rv' lv', e = .returned (.agg (lkL L.tramp pv' fv' iv' qv' rv' lv' L.ticks L.next L.free).toArray) ∧ LkW w'' w''.heap.size pv' fv' iv' qv' rv' lv' L ∧ Below w'.heap.size w' w'') := fun w' hb => by rw [hlc]; exact twin_lk (HKP.out w' hb).1 (HKP.out w' hb).2.2.1 hs
  have HW0 : Hid (∀ w', Below w.heap.size w w' → Calls Try.prog 13 #[.slice ep ne ec] w' fun e w'' => ∃ u, e = .returned u ∧ w''.ownsRow w'.heap.size 24 1 u fr.length (fr.map (.int .u64)) ∧ Below w'.heap.size w' w'') := fun w' hb => words_any (HKP.out w' hb).2.1 (HKP.out w' hb).2.2.1 hfl
  have HTA : Hid (∀ w', Below w.heap.size w w' → Calls Try.prog 12 #[.agg lc.toArray] w' (TwP w' L)) := fun w' hb => by rw [hlc]; exact twin_any (HKP.out w' hb).1 (HKP.out w' hb).2.2.1 hs
  have HSM : Hid (Sml L ∧ fr.length ≤ 1048576) := ⟨hs, hfl⟩
  have HS : Hid (LkR L ∧ (∀ a ∈ fr, u64R a) ∧ np = L.procs.length ∧ ne = fr.length) := ⟨hR, hfr, hnp, hne⟩
  clear h hX hf hs hfe hR hfr hfl hlc hnp hne
  go_enter Try.func8, Try.ntmps8
  go_wp2_with (first
    | (refine wpList_is (.box 33 (.tmp 1)) rfl ?_; refine wpList_boxG 33 lc 5 (.tmp 1) _ rfl rfl rfl rfl ?_; intro W1 hW1 hB1 hs1; have r1 : W1.rangeAt w.heap.size 0 lc := range_heap hW1)
    | (refine wpList_is (.load 33 (.tmp 5)) rfl ?_; refine wpList_loadG 33 10 176 info33 _ Try.underlying33 rfl lc HL1.out.1 w.heap.size 0 (.tmp 5) rfl rfl rfl r1 (some 19) rfl ?_)
    | fail)
  clear r1
  go_at_call 10
  refine (HF.out _ hB1).mono ?_
  rintro e W2 ⟨rfl, hB2⟩
  have HK2 : Hid (W2.heap[w.heap.size]? = some (.cells lc.toArray 33) ∧ Below w.heap.size w W2 ∧ w.heap.size < W2.heap.size) := ⟨(hB2.block _ (by omega)).trans hW1, hB1.trans (hB2.mono (by omega)), by have := hB2.size; omega⟩
  clear HF hW1 hB1 hB2 hs1
  have HND : Hid (∀ V, Calls Try.prog 9 #[.int .i64 (-1)] V fun e w' => e = .returned (.int .i64 0) ∧ w' = V) := fun V => nodes_any (-1) (by decide) (by decide) V
  by_cases hfew : fewN L ne ≤ 6000
  case neg =>
    rw [decide_eq_false hfew]
    clear hfew
    as_aux_lemma =>
    go_wp2_with fail
    go_at_call 9
    refine (HND.out _).mono ?_
    rintro e V ⟨rfl, rfl⟩
    go_wp2
    go_ret
    exact ⟨rfl, HK2.out.2.1⟩
  rw [decide_eq_true hfew]
  have HSB : Hid (SB L fr) := SB.of (by rw [← HS.out.2.2.2]; exact hfew)
  clear hfew
  by_cases g1 : N < 1
  · as_aux_lemma =>
    go_wp2_with fail
    go_at_call 9
    refine (HND.out _).mono ?_
    rintro e V ⟨rfl, rfl⟩
    go_wp2
    go_ret
    exact ⟨rfl, HK2.out.2.1⟩
  by_cases g2 : 4096 < N
  · as_aux_lemma =>
    go_wp2_with fail
    go_at_call 9
    refine (HND.out _).mono ?_
    rintro e V ⟨rfl, rfl⟩
    go_wp2
    go_ret
    exact ⟨rfl, HK2.out.2.1⟩
  obtain ⟨M, rfl⟩ : ∃ M : Nat, N = (M : Int) := ⟨N.toNat, by omega⟩
  have bM : 1 ≤ M ∧ M ≤ 4096 := by omega
  obtain ⟨tu, htu⟩ : ∃ u, u = IntKind.u32.wrap tn := ⟨_, rfl⟩
  have u0 : 0 ≤ tu ∧ tu < 4294967296 := by rw [htu, IntKind.wrap_u32]; omega
  obtain ⟨t, ht⟩ : ∃ t : Nat, (t : Int) = tu % (M : Int) := ⟨(tu % (M : Int)).toNat, Int.toNat_of_nonneg (Int.emod_nonneg _ (by omega))⟩
  have tM : t < M := by have := Int.emod_lt_of_pos tu (show (0 : Int) < M by omega); omega
  have y1 : IntKind.u32.wrap tn = tu := htu.symm
  have y2 : IntKind.u32.wrap (M : Int) = (M : Int) := by rw [IntKind.wrap_u32]; omega
  have y3 : tu.tmod M = (t : Int) := by rw [Int.tmod_eq_emod_of_nonneg u0.1, ht]
  have y4 : IntKind.i64.wrap (t : Int) = (t : Int) := by rw [IntKind.wrap_i64]; omega
  have y6 : IntKind.u32.wrap (t : Int) = (t : Int) := by rw [IntKind.wrap_u32]; omega
  have y5 : ((M : Int) == 0) = false := by simp; omega
  clear htu ht
  have HMV : Hid (∀ x, u64R x → ∀ V, Calls Try.prog 29 #[.int .u64 x, .int .i64 M, .int .i64 t] V fun e w' => e = .returned (.int .u64 (mvF M t x)) ∧ w' = V) := fun x hx V => moved_any x hx M t bM.1 bM.2 tM V
  have r1 : W2.rangeAt w.heap.size 0 lc := range_heap HK2.out.1
  go_wp2_with (first
    | (refine wpList_is (.load 33 (.tmp 5)) rfl ?_; refine wpList_loadG 33 10 176 info33 _ Try.underlying33 rfl lc HL1.out.1 w.heap.size 0 (.tmp 5) rfl rfl rfl r1 (some 39) rfl ?_)
    | fail)
  clear r1 y1 y2 y3 y6 u0
  go_at_call 12
  refine (HTA.out _ HK2.out.2.1).mono ?_
  rintro e W3 ⟨pv2, fv2, iv2, qv2, rv2, lv2, E0, EI0, EQ, rfl, hB3, hE1, hE2, hE3, hO⟩
  obtain ⟨b0, hb0⟩ : ∃ b, b = W2.heap.size := ⟨_, rfl⟩
  rw [← hb0] at hO
  have hp2 : W3.ownsRow b0 55 70 pv2 E0.length ((E0.map PE.l).flatten) := hO.own (rowP E0 pv2) (by simp)
  have hi2 : W3.ownsRow b0 66 8 iv2 EI0.length ((EI0.map IE.l).flatten) := hO.own (rowI EI0 iv2) (by simp)
  have hfo : ∀ {e k n : Nat} {v : Value} {xs : List Value}, W3.ownsRow b0 e k v n xs → v.oneCell' = true := fun h => by obtain ⟨p, c, rfl⟩ := own_form h; rfl
  have o3 : fv2.oneCell' = true := hfo (hO.own (rowF L.files fv2) (by simp))
  have o4 : qv2.oneCell' = true := hfo (hO.own (rowQ EQ qv2) (by simp))
  have o5 : rv2.oneCell' = true := hfo (hO.own (rowB L.ready rv2) (by simp))
  have o6 : lv2.oneCell' = true := hfo (hO.own (rowB L.line lv2) (by simp))
  obtain ⟨pp2, pc2, rfl⟩ := own_form hp2
  obtain ⟨ip2, ic2, rfl⟩ := own_form hi2
  have hnp : E0.length = np := by rw [HS.out.2.2.1, ← hE1, List.length_map]
  obtain ⟨ni, hni⟩ : ∃ n, n = EI0.length := ⟨_, rfl⟩
  rw [hnp] at hO hp2 ⊢
  rw [← hni] at hO hi2 ⊢
  have hni2 : ni = L.inos.length := by rw [hni, ← hE2, List.length_map]
  obtain ⟨ml, hml⟩ : ∃ ml, ml = lkL L.tramp (.slice pp2 np pc2) fv2 (.slice ip2 ni ic2) qv2 rv2 lv2 L.ticks L.next L.free := ⟨_, rfl⟩
  have HML : Hid (ml.length = 10 ∧ ∀ v ∈ ml, v.oneCell' = true) := by rw [hml]; exact ⟨rfl, lkL_one _ _ _ _ rfl o3 rfl o4 o5 o6⟩
  rw [← hml]
  have HMLE : Hid (ml = lkL L.tramp (.slice pp2 np pc2) fv2 (.slice ip2 ni ic2) qv2 rv2 lv2 L.ticks L.next L.free) := hml
  have HBE : Hid (b0 = W2.heap.size ∧ ni = EI0.length ∧ ni = L.inos.length ∧ E0.length = np) := ⟨hb0, hni, hni2, hnp⟩
  clear hml hb0 hni hni2 hnp
  go_upto_region 5 with (first
    | (refine wpList_is (.alloc 33) rfl ?_; refine wpList_laidG 33 10 176 info33 ml HML.out.1 HML.out.2 9 (.tmp 40) _ _ rfl rfl rfl rfl rfl rfl rfl rfl ?_; intro W4 hW4 hB4 hs4)
    | fail)
  obtain ⟨mb, hmb⟩ : ∃ b, b = W3.heap.size := ⟨_, rfl⟩
  have hM4 : Mw W4 b0 mb (L.tramp) (E0) (EI0) EQ L (.slice pp2 np pc2) fv2 (.slice ip2 ni ic2) qv2 rv2 lv2 := by
    have o1 := Owns.new hO (k := 10) hW4 hB4 HML.out.1 (by have := hB3.size; have := HBE.out.1; omega)
    rw [← hmb, HMLE.out] at o1
    exact o1
  have HM4 : Hid (Mw W4 b0 mb (L.tramp) (E0) (EI0) EQ L (.slice pp2 np pc2) fv2 (.slice ip2 ni ic2) qv2 rv2 lv2 ∧ Below b0 W2 W4) := ⟨hM4, by rw [HBE.out.1]; exact hB3.trans (hB4.mono hB3.size)⟩
  have HE : Hid (E0.map (·.1) = L.procs ∧ EI0.map (·.1) = L.inos ∧ EQ.map (·.1) = L.pipes ∧ E0.length = np ∧ EI0.length = ni ∧ ni = L.inos.length ∧ b0 = W2.heap.size) := ⟨hE1, hE2, hE3, HBE.out.2.2.2, HBE.out.2.1.symm, HBE.out.2.2.1, HBE.out.1⟩
  have bnp : np ≤ 6000 := by have := HSB.out.pl; have := HS.out.2.2.1; omega
  have bni : ni ≤ 6000 := by have := HSB.out.il; have := HBE.out.2.2.1; omega
  rw [show W3.heap.size = mb from hmb.symm]
  clear hW4 hB4 hs4 hM4 hO hp2 hi2 hfo o3 o4 o5 o6 hE1 hE2 hE3 hmb hB3 HML HMLE HBE HTA HND
  have c0 := (HM4.out.1.var 0 _ rfl).1
  have f0 := (HM4.out.1.var 0 _ rfl).2
  obtain ⟨x0, hx0⟩ : ∃ x, x = L.tramp := ⟨_, rfl⟩
  have hu0 : u64R x0 := by rw [hx0]; exact HS.out.1.tr
  rw [← hx0] at c0
  have HX0 : Hid (x0 = L.tramp) := hx0
  clear hx0 y4 y5 g1 g2 f0
  go_wp2_with fail
  go_at_call 29
  refine (HMV.out x0 hu0 _).mono ?_
  rintro e V ⟨rfl, rfl⟩
  obtain ⟨tr, htr⟩ : ∃ x, x = mvF M t x0 := ⟨_, rfl⟩
  rw [← htr]
  have HM5 : Hid (Mw (V.setCell ⟨mb, 0, .none⟩ (.int .u64 tr)) b0 mb (tr) (E0) (EI0) EQ L (.slice pp2 np pc2) fv2 (.slice ip2 ni ic2) qv2 rv2 lv2 ∧ Below b0 W2 (V.setCell ⟨mb, 0, .none⟩ (.int .u64 tr)) ∧ tr = mvF M t L.tramp) := ⟨HM4.out.1.setTr tr, HM4.out.2.trans (set_bel _ (by have := ((HM4.out.1.own _ (List.mem_cons_self ..)).lt mb rfl).1; exact this)), by rw [htr, HX0.out]⟩
  have f0 := (HM4.out.1.var 0 _ rfl).2
  clear htr hu0 HM4
  go_wp2
  go_loopw [10] (fun k10 wr => ∃ i : Nat, i ≤ np ∧ k10 = .int .i64 i ∧ Hid (Mw wr b0 mb (tr) ((E0.take i).map (mvE M t) ++ E0.drop i) (EI0) EQ L (.slice pp2 np pc2) fv2 (.slice ip2 ni ic2) qv2 rv2 lv2 ∧ Below b0 W2 wr)) (fun v _ => (np - intOf v).toNat)
  case atStart => exact ⟨0, by omega, rfl, by simpa using HM5.out.1, HM5.out.2.1⟩
  case round =>
    obtain ⟨i, hi, rfl, HB⟩ := hrel
    have kd := (HB.out.1.var 1 _ rfl).1
    by_cases hin : i < np
    · as_aux_lemma =>
        have i1 : (i : Int) < np := by omega
        obtain ⟨⟨p, nv, gv⟩, hE⟩ : ∃ e, E0[i]? = some e := ⟨_, List.getElem?_eq_getElem (by have := HE.out.2.2.2.1; omega)⟩
        have hpm : L.procs[i]? = some p := by rw [← HE.out.1, List.getElem?_map, hE]; rfl
        have hpr := HS.out.1.p p (List.mem_of_getElem? hpm)
        obtain ⟨EE, hEE⟩ : ∃ EE, EE = (E0.take i).map (mvE M t) ++ E0.drop i := ⟨_, rfl⟩
        have hEi : EE[i]? = some (p, nv, gv) := by rw [hEE]; exact part_get (mvE M t) E0 i _ hE
        have hEl : EE.length = np := by rw [hEE, part_len]; exact HE.out.2.2.2.1
        rw [← hEE] at HB
        have hrow := HB.out.1.prow
        rw [hEl] at hrow
        obtain ⟨pb, rfl⟩ := own_some hrow (by omega)
        have hnr := HB.out.1.nrow hEi
        have hgr := HB.out.1.grow hEi
        obtain ⟨np3, nc, rfl⟩ := own_form hnr
        obtain ⟨gp3, gc, rfl⟩ := own_form hgr
        obtain ⟨nn, hnn⟩ : ∃ n, n = p.nodes.length := ⟨_, rfl⟩
        obtain ⟨gn, hgn⟩ : ∃ n, n = p.pages.length := ⟨_, rfl⟩
        rw [← hnn, ← hgn] at hEi
        have hE' : E0[i]? = some (p, .slice np3 nn nc, .slice gp3 gn gc) := by rw [hnn, hgn]; exact hE
        have HPR : Hid (PcR p) := hpr
        have HNN : Hid (nn = p.nodes.length ∧ gn = p.pages.length ∧ E0[i]? = some (p, .slice np3 nn nc, .slice gp3 gn gc) ∧ EE = (E0.take i).map (mvE M t) ++ E0.drop i ∧ EE.length = np ∧ EE[i]? = some (p, .slice np3 nn nc, .slice gp3 gn gc)) := ⟨hnn, hgn, hE', hEE, hEl, hEi⟩
        have bnn : nn ≤ 1048576 := by have := hpr.nl; omega
        have bgn : gn ≤ 1048576 := by have := hpr.gl; omega
        have hil : i < EE.length := by omega
        clear hE hE' hpm hpr hEE hrow hnr hgr hnn hgn
        obtain ⟨x0, hx0e⟩ : ∃ x, x = p.c 43 := ⟨_, rfl⟩
        have hx0 : u64R x0 := by rw [hx0e]; exact HPR.out.c 43 .u64 (by simp [k55])
        obtain ⟨x1, hx1⟩ : ∃ x, x = mvF M t x0 := ⟨_, rfl⟩
        have hMd := HB.out.1.drew
        have hpc := Mw.pcell hMd rfl hEi 43 (.int .u64 (p.c 43)) rfl
        have hS : (fun V : World => V.cell? ⟨mb, 1, .none⟩ = some (.slice (some ⟨pb, 0, .none⟩) np pc2) ∧ V.cell? ⟨pb, i * 70 + 43, .none⟩ = some (.int .u64 x0)) wr.drew := ⟨(hMd.var 1 _ rfl).1, by rw [hx0e]; exact hpc.1⟩
        have kc := hpc.1
        have kf := hpc.2
        rw [← hx0e] at kc
        have hMn : Mw (World.drew (wr.setCell ⟨pb, i * 70 + 43, .none⟩ (.int .u64 x1))) b0 mb (tr) (EE.set i (pcS M t p true false 0 0, .slice np3 nn nc, .slice gp3 gn gc)) (EI0) EQ L (.slice (some ⟨pb, 0, .none⟩) np pc2) fv2 (.slice ip2 ni ic2) qv2 rv2 lv2 := (Mw.setP (j := 43) (e' := (pcS M t p true false 0 0, .slice np3 nn nc, .slice gp3 gn gc)) HB.out.1 rfl hEl hEi (.int .u64 x1) (by decide) (by rw [hx1, hx0e]; rfl) rfl rfl rfl).drew
        have HM9 : Hid (Mw (World.drew (wr.setCell ⟨pb, i * 70 + 43, .none⟩ (.int .u64 x1))) b0 mb (tr) (EE.set i (pcS M t p true false 0 0, .slice np3 nn nc, .slice gp3 gn gc)) (EI0) EQ L (.slice (some ⟨pb, 0, .none⟩) np pc2) fv2 (.slice ip2 ni ic2) qv2 rv2 lv2 ∧ Below b0 W2 (World.drew (wr.setCell ⟨pb, i * 70 + 43, .none⟩ (.int .u64 x1)))) := ⟨hMn, (HB.out.2.trans (set_bel _ ((hMd.prow.lt pb rfl).1))).drew⟩
        have HX1 : Hid (x1 = mvF M t x0) := hx1
        clear hx0e hx1 hMd hpc hMn
        go_upto_region 9 with fail
        refine region_set (fun V => V.cell? ⟨mb, 1, .none⟩ = some (.slice (some ⟨pb, 0, .none⟩) np pc2) ∧ V.cell? ⟨pb, i * 70 + 43, .none⟩ = some (.int .u64 x0)) 14 [] (by kernel_rfl) ?_
        refine set_take (i := 0) (v := .pointer (some ⟨mb, 1, .none⟩)) rfl (by kernel_rfl) (by kernel_rfl) (by kernel_rfl) (by kernel_rfl) (fun _ _ _ h => h) (Or.inl ⟨by rfl, fun ww hSw => by obtain ⟨q1, q2⟩ := hSw; go_simp⟩) hS ?_
        simp only [Act.put, List.setIfInBounds_toArray, List.set_cons_zero, List.set_cons_succ, List.getElem_toArray, List.getElem_cons_succ, List.getElem_cons_zero]
        refine set_take (i := 1) (v := .slice (some ⟨pb, 0, .none⟩) np pc2) rfl (by kernel_rfl) (by kernel_rfl) (by kernel_rfl) (by kernel_rfl) (fun _ _ _ h => h) (Or.inl ⟨by rfl, fun ww hSw => by obtain ⟨q1, q2⟩ := hSw; go_simp⟩) hS ?_
        simp only [Act.put, List.setIfInBounds_toArray, List.set_cons_zero, List.set_cons_succ, List.getElem_toArray, List.getElem_cons_succ, List.getElem_cons_zero]
        refine set_take (i := 2) (v := .int .i64 i) rfl (by kernel_rfl) (by kernel_rfl) (by kernel_rfl) (by kernel_rfl) (fun _ _ _ h => h) (Or.inl ⟨by rfl, fun ww hSw => by obtain ⟨q1, q2⟩ := hSw; go_simp⟩) hS ?_
        simp only [Act.put, List.setIfInBounds_toArray, List.set_cons_zero, List.set_cons_succ, List.getElem_toArray, List.getElem_cons_succ, List.getElem_cons_zero]
        refine set_take (i := 3) (v := .pointer (some ⟨mb, 1, .none⟩)) rfl (by kernel_rfl) (by kernel_rfl) (by kernel_rfl) (by kernel_rfl) (fun _ _ _ h => h) (Or.inl ⟨by rfl, fun ww hSw => by obtain ⟨q1, q2⟩ := hSw; go_simp⟩) hS ?_
        simp only [Act.put, List.setIfInBounds_toArray, List.set_cons_zero, List.set_cons_succ, List.getElem_toArray, List.getElem_cons_succ, List.getElem_cons_zero]
        refine set_take (i := 4) (v := .slice (some ⟨pb, 0, .none⟩) np pc2) rfl (by kernel_rfl) (by kernel_rfl) (by kernel_rfl) (by kernel_rfl) (fun _ _ _ h => h) (Or.inl ⟨by rfl, fun ww hSw => by obtain ⟨q1, q2⟩ := hSw; go_simp⟩) hS ?_
        simp only [Act.put, List.setIfInBounds_toArray, List.set_cons_zero, List.set_cons_succ, List.getElem_toArray, List.getElem_cons_succ, List.getElem_cons_zero]
        refine set_take (i := 5) (v := .int .i64 i) rfl (by kernel_rfl) (by kernel_rfl) (by kernel_rfl) (by kernel_rfl) (fun _ _ _ h => h) (Or.inl ⟨by rfl, fun ww hSw => by obtain ⟨q1, q2⟩ := hSw; go_simp⟩) hS ?_
        simp only [Act.put, List.setIfInBounds_toArray, List.set_cons_zero, List.set_cons_succ, List.getElem_toArray, List.getElem_cons_succ, List.getElem_cons_zero]
        refine set_take (i := 6) (v := .pointer (some ⟨pb, i * 70, .none⟩)) rfl (by kernel_rfl) (by kernel_rfl) (by kernel_rfl) (by kernel_rfl) (fun _ _ _ h => h) (Or.inl ⟨by rfl, fun ww hSw => by obtain ⟨q1, q2⟩ := hSw; go_simp⟩) hS ?_
        simp only [Act.put, List.setIfInBounds_toArray, List.set_cons_zero, List.set_cons_succ, List.getElem_toArray, List.getElem_cons_succ, List.getElem_cons_zero]
        refine set_take (i := 7) (v := .pointer (some ⟨pb, i * 70 + 43, .none⟩)) rfl (by kernel_rfl) (by kernel_rfl) (by kernel_rfl) (by kernel_rfl) (fun _ _ _ h => h) (Or.inl ⟨by rfl, fun ww hSw => by obtain ⟨q1, q2⟩ := hSw; go_simp⟩) hS ?_
        simp only [Act.put, List.setIfInBounds_toArray, List.set_cons_zero, List.set_cons_succ, List.getElem_toArray, List.getElem_cons_succ, List.getElem_cons_zero]
        refine set_take (i := 8) (v := .int .u64 x0) rfl (by kernel_rfl) (by kernel_rfl) (by kernel_rfl) (by kernel_rfl) (fun _ _ _ h => h) (Or.inl ⟨by rfl, fun ww hSw => by obtain ⟨q1, q2⟩ := hSw; go_simp⟩) hS ?_
        simp only [Act.put, List.setIfInBounds_toArray, List.set_cons_zero, List.set_cons_succ, List.getElem_toArray, List.getElem_cons_succ, List.getElem_cons_zero]
        refine set_take (i := 9) (v := .int .i64 M) rfl (by kernel_rfl) (by kernel_rfl) (by kernel_rfl) (by kernel_rfl) (fun _ _ _ h => h) (Or.inl ⟨by rfl, fun ww hSw => by obtain ⟨q1, q2⟩ := hSw; go_simp⟩) hS ?_
        simp only [Act.put, List.setIfInBounds_toArray, List.set_cons_zero, List.set_cons_succ, List.getElem_toArray, List.getElem_cons_succ, List.getElem_cons_zero]
        refine set_take (i := 10) (v := .int .i64 t) rfl (by kernel_rfl) (by kernel_rfl) (by kernel_rfl) (by kernel_rfl) (fun _ _ _ h => h) (Or.inl ⟨by rfl, fun ww hSw => by obtain ⟨q1, q2⟩ := hSw; go_simp⟩) hS ?_
        simp only [Act.put, List.setIfInBounds_toArray, List.set_cons_zero, List.set_cons_succ, List.getElem_toArray, List.getElem_cons_succ, List.getElem_cons_zero]
        refine set_only (i := 11) (by kernel_rfl) rfl (by rfl) (fun K hK => ?_)
        go_simp
        go_at_call 29
        refine (HMV.out x0 hx0 _).mono ?_
        rintro e V1 ⟨rfl, rfl⟩
        rw [← HX1.out]
        refine hK.out _ _ (fun _ => hS) ?_
        clear hK K
        try simp only [Act.put, List.setIfInBounds_toArray, List.set_cons_zero, List.set_cons_succ, List.getElem_toArray, List.getElem_cons_succ, List.getElem_cons_zero]
        refine set_take (i := 12) (v := .pointer (some ⟨pb, i * 70, .none⟩)) rfl (by kernel_rfl) (by kernel_rfl) (by kernel_rfl) (by kernel_rfl) (fun _ _ _ h => h) (Or.inl ⟨by rfl, fun ww hSw => by obtain ⟨q1, q2⟩ := hSw; go_simp⟩) hS ?_
        simp only [Act.put, List.setIfInBounds_toArray, List.set_cons_zero, List.set_cons_succ, List.getElem_toArray, List.getElem_cons_succ, List.getElem_cons_zero]
        refine set_take (i := 13) (v := .pointer (some ⟨pb, i * 70 + 43, .none⟩)) rfl (by kernel_rfl) (by kernel_rfl) (by kernel_rfl) (by kernel_rfl) (fun _ _ _ h => h) (Or.inl ⟨by rfl, fun ww hSw => by obtain ⟨q1, q2⟩ := hSw; go_simp⟩) hS ?_
        simp only [Act.put, List.setIfInBounds_toArray, List.set_cons_zero, List.set_cons_succ, List.getElem_toArray, List.getElem_cons_succ, List.getElem_cons_zero]
        refine set_tail 1 14 _ _ _ _ (by kernel_rfl) (by decide) ?_
        simp only [List.toList_toArray, List.drop_succ_cons, List.drop_zero]
        clear hS
        go_upto_region 10 with fail
        clear kc kf hx0
        generalize (World.drew (wr.setCell ⟨pb, i * 70 + 43, .none⟩ (.int .u64 x1))) = WA at *
        clear HX1
        have hE9 : (EE.set i (pcS M t p true false 0 0, .slice np3 nn nc, .slice gp3 gn gc))[i]? = some (pcS M t p true false 0 0, .slice np3 nn nc, .slice gp3 gn gc) := List.getElem?_set_self hil
        have hl9 : (EE.set i (pcS M t p true false 0 0, .slice np3 nn nc, .slice gp3 gn gc)).length = np := by rw [List.length_set]; exact hEl
        clear kd
        obtain ⟨x0, hx0e⟩ : ∃ x, x = p.c 42 := ⟨_, rfl⟩
        have hx0 : u64R x0 := by rw [hx0e]; exact HPR.out.c 42 .u64 (by simp [k55])
        obtain ⟨x1, hx1⟩ : ∃ x, x = mvF M t x0 := ⟨_, rfl⟩
        have hMd := HM9.out.1.drew
        have hpc := Mw.pcell hMd rfl hE9 42 (.int .u64 (p.c 42)) rfl
        have hS : (fun V : World => V.cell? ⟨mb, 1, .none⟩ = some (.slice (some ⟨pb, 0, .none⟩) np pc2) ∧ V.cell? ⟨pb, i * 70 + 42, .none⟩ = some (.int .u64 x0)) WA.drew := ⟨(hMd.var 1 _ rfl).1, by rw [hx0e]; exact hpc.1⟩
        have kc := hpc.1
        have kf := hpc.2
        rw [← hx0e] at kc
        have hMn : Mw (World.drew (WA.setCell ⟨pb, i * 70 + 42, .none⟩ (.int .u64 x1))) b0 mb (tr) (EE.set i (pcS M t p true true 0 0, .slice np3 nn nc, .slice gp3 gn gc)) (EI0) EQ L (.slice (some ⟨pb, 0, .none⟩) np pc2) fv2 (.slice ip2 ni ic2) qv2 rv2 lv2 := by rw [show EE.set i (pcS M t p true true 0 0, .slice np3 nn nc, .slice gp3 gn gc) = (EE.set i (pcS M t p true false 0 0, .slice np3 nn nc, .slice gp3 gn gc)).set i (pcS M t p true true 0 0, .slice np3 nn nc, .slice gp3 gn gc) from (List.set_set ..).symm]; exact (Mw.setP (j := 42) (e' := (pcS M t p true true 0 0, .slice np3 nn nc, .slice gp3 gn gc)) HM9.out.1 rfl hl9 hE9 (.int .u64 x1) (by decide) (by rw [hx1, hx0e]; rfl) rfl rfl rfl).drew
        have HM10 : Hid (Mw (World.drew (WA.setCell ⟨pb, i * 70 + 42, .none⟩ (.int .u64 x1))) b0 mb (tr) (EE.set i (pcS M t p true true 0 0, .slice np3 nn nc, .slice gp3 gn gc)) (EI0) EQ L (.slice (some ⟨pb, 0, .none⟩) np pc2) fv2 (.slice ip2 ni ic2) qv2 rv2 lv2 ∧ Below b0 W2 (World.drew (WA.setCell ⟨pb, i * 70 + 42, .none⟩ (.int .u64 x1)))) := ⟨hMn, (HM9.out.2.trans (set_bel _ ((hMd.prow.lt pb rfl).1))).drew⟩
        have HX1 : Hid (x1 = mvF M t x0) := hx1
        clear hx0e hx1 hMd hpc hMn
        go_upto_region 10 with fail
        refine region_set (fun V => V.cell? ⟨mb, 1, .none⟩ = some (.slice (some ⟨pb, 0, .none⟩) np pc2) ∧ V.cell? ⟨pb, i * 70 + 42, .none⟩ = some (.int .u64 x0)) 14 [] (by kernel_rfl) ?_
        refine set_take (i := 0) (v := .pointer (some ⟨mb, 1, .none⟩)) rfl (by kernel_rfl) (by kernel_rfl) (by kernel_rfl) (by kernel_rfl) (fun _ _ _ h => h) (Or.inl ⟨by rfl, fun ww hSw => by obtain ⟨q1, q2⟩ := hSw; go_simp⟩) hS ?_
        simp only [Act.put, List.setIfInBounds_toArray, List.set_cons_zero, List.set_cons_succ, List.getElem_toArray, List.getElem_cons_succ, List.getElem_cons_zero]
        refine set_take (i := 1) (v := .slice (some ⟨pb, 0, .none⟩) np pc2) rfl (by kernel_rfl) (by kernel_rfl) (by kernel_rfl) (by kernel_rfl) (fun _ _ _ h => h) (Or.inl ⟨by rfl, fun ww hSw => by obtain ⟨q1, q2⟩ := hSw; go_simp⟩) hS ?_
        simp only [Act.put, List.setIfInBounds_toArray, List.set_cons_zero, List.set_cons_succ, List.getElem_toArray, List.getElem_cons_succ, List.getElem_cons_zero]
        refine set_take (i := 2) (v := .int .i64 i) rfl (by kernel_rfl) (by kernel_rfl) (by kernel_rfl) (by kernel_rfl) (fun _ _ _ h => h) (Or.inl ⟨by rfl, fun ww hSw => by obtain ⟨q1, q2⟩ := hSw; go_simp⟩) hS ?_
        simp only [Act.put, List.setIfInBounds_toArray, List.set_cons_zero, List.set_cons_succ, List.getElem_toArray, List.getElem_cons_succ, List.getElem_cons_zero]
        refine set_take (i := 3) (v := .pointer (some ⟨mb, 1, .none⟩)) rfl (by kernel_rfl) (by kernel_rfl) (by kernel_rfl) (by kernel_rfl) (fun _ _ _ h => h) (Or.inl ⟨by rfl, fun ww hSw => by obtain ⟨q1, q2⟩ := hSw; go_simp⟩) hS ?_
        simp only [Act.put, List.setIfInBounds_toArray, List.set_cons_zero, List.set_cons_succ, List.getElem_toArray, List.getElem_cons_succ, List.getElem_cons_zero]
        refine set_take (i := 4) (v := .slice (some ⟨pb, 0, .none⟩) np pc2) rfl (by kernel_rfl) (by kernel_rfl) (by kernel_rfl) (by kernel_rfl) (fun _ _ _ h => h) (Or.inl ⟨by rfl, fun ww hSw => by obtain ⟨q1, q2⟩ := hSw; go_simp⟩) hS ?_
        simp only [Act.put, List.setIfInBounds_toArray, List.set_cons_zero, List.set_cons_succ, List.getElem_toArray, List.getElem_cons_succ, List.getElem_cons_zero]
        refine set_take (i := 5) (v := .int .i64 i) rfl (by kernel_rfl) (by kernel_rfl) (by kernel_rfl) (by kernel_rfl) (fun _ _ _ h => h) (Or.inl ⟨by rfl, fun ww hSw => by obtain ⟨q1, q2⟩ := hSw; go_simp⟩) hS ?_
        simp only [Act.put, List.setIfInBounds_toArray, List.set_cons_zero, List.set_cons_succ, List.getElem_toArray, List.getElem_cons_succ, List.getElem_cons_zero]
        refine set_take (i := 6) (v := .pointer (some ⟨pb, i * 70, .none⟩)) rfl (by kernel_rfl) (by kernel_rfl) (by kernel_rfl) (by kernel_rfl) (fun _ _ _ h => h) (Or.inl ⟨by rfl, fun ww hSw => by obtain ⟨q1, q2⟩ := hSw; go_simp⟩) hS ?_
        simp only [Act.put, List.setIfInBounds_toArray, List.set_cons_zero, List.set_cons_succ, List.getElem_toArray, List.getElem_cons_succ, List.getElem_cons_zero]
        refine set_take (i := 7) (v := .pointer (some ⟨pb, i * 70 + 42, .none⟩)) rfl (by kernel_rfl) (by kernel_rfl) (by kernel_rfl) (by kernel_rfl) (fun _ _ _ h => h) (Or.inl ⟨by rfl, fun ww hSw => by obtain ⟨q1, q2⟩ := hSw; go_simp⟩) hS ?_
        simp only [Act.put, List.setIfInBounds_toArray, List.set_cons_zero, List.set_cons_succ, List.getElem_toArray, List.getElem_cons_succ, List.getElem_cons_zero]
        refine set_take (i := 8) (v := .int .u64 x0) rfl (by kernel_rfl) (by kernel_rfl) (by kernel_rfl) (by kernel_rfl) (fun _ _ _ h => h) (Or.inl ⟨by rfl, fun ww hSw => by obtain ⟨q1, q2⟩ := hSw; go_simp⟩) hS ?_
        simp only [Act.put, List.setIfInBounds_toArray, List.set_cons_zero, List.set_cons_succ, List.getElem_toArray, List.getElem_cons_succ, List.getElem_cons_zero]
        refine set_take (i := 9) (v := .int .i64 M) rfl (by kernel_rfl) (by kernel_rfl) (by kernel_rfl) (by kernel_rfl) (fun _ _ _ h => h) (Or.inl ⟨by rfl, fun ww hSw => by obtain ⟨q1, q2⟩ := hSw; go_simp⟩) hS ?_
        simp only [Act.put, List.setIfInBounds_toArray, List.set_cons_zero, List.set_cons_succ, List.getElem_toArray, List.getElem_cons_succ, List.getElem_cons_zero]
        refine set_take (i := 10) (v := .int .i64 t) rfl (by kernel_rfl) (by kernel_rfl) (by kernel_rfl) (by kernel_rfl) (fun _ _ _ h => h) (Or.inl ⟨by rfl, fun ww hSw => by obtain ⟨q1, q2⟩ := hSw; go_simp⟩) hS ?_
        simp only [Act.put, List.setIfInBounds_toArray, List.set_cons_zero, List.set_cons_succ, List.getElem_toArray, List.getElem_cons_succ, List.getElem_cons_zero]
        refine set_only (i := 11) (by kernel_rfl) rfl (by rfl) (fun K hK => ?_)
        go_simp
        go_at_call 29
        refine (HMV.out x0 hx0 _).mono ?_
        rintro e V1 ⟨rfl, rfl⟩
        rw [← HX1.out]
        refine hK.out _ _ (fun _ => hS) ?_
        clear hK K
        try simp only [Act.put, List.setIfInBounds_toArray, List.set_cons_zero, List.set_cons_succ, List.getElem_toArray, List.getElem_cons_succ, List.getElem_cons_zero]
        refine set_take (i := 12) (v := .pointer (some ⟨pb, i * 70, .none⟩)) rfl (by kernel_rfl) (by kernel_rfl) (by kernel_rfl) (by kernel_rfl) (fun _ _ _ h => h) (Or.inl ⟨by rfl, fun ww hSw => by obtain ⟨q1, q2⟩ := hSw; go_simp⟩) hS ?_
        simp only [Act.put, List.setIfInBounds_toArray, List.set_cons_zero, List.set_cons_succ, List.getElem_toArray, List.getElem_cons_succ, List.getElem_cons_zero]
        refine set_take (i := 13) (v := .pointer (some ⟨pb, i * 70 + 42, .none⟩)) rfl (by kernel_rfl) (by kernel_rfl) (by kernel_rfl) (by kernel_rfl) (fun _ _ _ h => h) (Or.inl ⟨by rfl, fun ww hSw => by obtain ⟨q1, q2⟩ := hSw; go_simp⟩) hS ?_
        simp only [Act.put, List.setIfInBounds_toArray, List.set_cons_zero, List.set_cons_succ, List.getElem_toArray, List.getElem_cons_succ, List.getElem_cons_zero]
        refine set_tail 1 14 _ _ _ _ (by kernel_rfl) (by decide) ?_
        simp only [List.toList_toArray, List.drop_succ_cons, List.drop_zero]
        clear hS
        go_wp2_with fail
        clear kc kf hx0 hE9 hl9 HM9
        generalize (World.drew (WA.setCell ⟨pb, i * 70 + 42, .none⟩ (.int .u64 x1))) = WB at *
        clear HX1
        go_loopw [11] (fun k11 wr => ∃ k : Nat, k ≤ nn ∧ k11 = .int .i64 k ∧ Hid (Mw wr b0 mb (tr) (EE.set i (pcS M t p true true k 0, .slice np3 nn nc, .slice gp3 gn gc)) (EI0) EQ L (.slice (some ⟨pb, 0, .none⟩) np pc2) fv2 (.slice ip2 ni ic2) qv2 rv2 lv2 ∧ Below b0 W2 wr)) (fun v _ => (nn - intOf v).toNat)
        case atStart => exact ⟨0, by omega, rfl, HM10.out⟩
        case round =>
          clear HM10
          obtain ⟨k, hk, rfl, HC⟩ := hrel
          have hEk : (EE.set i (pcS M t p true true k 0, .slice np3 nn nc, .slice gp3 gn gc))[i]? = some (pcS M t p true true k 0, .slice np3 nn nc, .slice gp3 gn gc) := List.getElem?_set_self hil
          have kd := (HC.out.1.var 1 _ rfl).1
          have kn := (Mw.pcell HC.out.1 rfl hEk 44 (.slice np3 nn nc) rfl).1
          by_cases hkn : k < nn
          · as_aux_lemma =>
              have k1 : (k : Int) < nn := by omega
              have hnl : (pcS M t p true true k 0).nodes.length = nn := by rw [HNN.out.1]; exact part_len ..
              have hnr := HC.out.1.nrow hEk
              rw [hnl] at hnr
              obtain ⟨nb, rfl⟩ := own_some hnr (by omega)
              obtain ⟨x0, hxe⟩ : ∃ x, p.nodes[k]? = some x := ⟨_, List.getElem?_eq_getElem (by have := HNN.out.1; omega)⟩
              have hx0 : u64R x0 := HPR.out.n x0 (List.mem_of_getElem? hxe)
              obtain ⟨x1, hx1⟩ : ∃ x, x = mvF M t x0 := ⟨_, rfl⟩
              have hxk : (pcS M t p true true k 0).nodes[k]? = some x0 := part_get (mvF M t) p.nodes k x0 hxe
              have hnc := Mw.ncell HC.out.1.drew hEk rfl k x0 hxk
              have hS : (fun V : World => V.cell? ⟨mb, 1, .none⟩ = some (.slice (some ⟨pb, 0, .none⟩) np pc2) ∧ V.cell? ⟨pb, i * 70 + 44, .none⟩ = some (.slice (some ⟨nb, 0, .none⟩) nn nc) ∧ V.cell? ⟨nb, k, .none⟩ = some (.int .u64 x0)) wr.drew := ⟨kd, kn, hnc.1⟩
              have kc := hnc.1
              have kf := hnc.2
              have hMn : Mw (World.drew (wr.setCell ⟨nb, k, .none⟩ (.int .u64 x1))) b0 mb (tr) (EE.set i (pcS M t p true true (k + 1) 0, .slice (some ⟨nb, 0, .none⟩) nn nc, .slice gp3 gn gc)) (EI0) EQ L (.slice (some ⟨pb, 0, .none⟩) np pc2) fv2 (.slice ip2 ni ic2) qv2 rv2 lv2 := by
                rw [show EE.set i (pcS M t p true true (k + 1) 0, .slice (some ⟨nb, 0, .none⟩) nn nc, .slice gp3 gn gc) = (EE.set i (pcS M t p true true k 0, .slice (some ⟨nb, 0, .none⟩) nn nc, .slice gp3 gn gc)).set i (pcS M t p true true (k + 1) 0, .slice (some ⟨nb, 0, .none⟩) nn nc, .slice gp3 gn gc) from (List.set_set ..).symm]
                exact (Mw.setN (p' := pcS M t p true true (k + 1) 0) HC.out.1 hEk rfl hnl hkn x1 (by rw [hx1]; exact (part_set (mvF M t) p.nodes k x0 hxe).symm) rfl rfl).drew
              have HMk : Hid (Mw (World.drew (wr.setCell ⟨nb, k, .none⟩ (.int .u64 x1))) b0 mb (tr) (EE.set i (pcS M t p true true (k + 1) 0, .slice (some ⟨nb, 0, .none⟩) nn nc, .slice gp3 gn gc)) (EI0) EQ L (.slice (some ⟨pb, 0, .none⟩) np pc2) fv2 (.slice ip2 ni ic2) qv2 rv2 lv2 ∧ Below b0 W2 (World.drew (wr.setCell ⟨nb, k, .none⟩ (.int .u64 x1)))) := ⟨hMn, (HC.out.2.trans (set_bel _ ((hnr.lt nb rfl).1))).drew⟩
              have HX1 : Hid (x1 = mvF M t x0) := hx1
              clear hnl hnr hxe hx1 hxk hnc hMn hEk
              go_upto_region 14 with fail
              refine region_set (fun V => V.cell? ⟨mb, 1, .none⟩ = some (.slice (some ⟨pb, 0, .none⟩) np pc2) ∧ V.cell? ⟨pb, i * 70 + 44, .none⟩ = some (.slice (some ⟨nb, 0, .none⟩) nn nc) ∧ V.cell? ⟨nb, k, .none⟩ = some (.int .u64 x0)) 20 [] (by kernel_rfl) ?_
              refine set_take (i := 0) (v := .pointer (some ⟨mb, 1, .none⟩)) rfl (by kernel_rfl) (by kernel_rfl) (by kernel_rfl) (by kernel_rfl) (fun _ _ _ h => h) (Or.inl ⟨by rfl, fun ww hSw => by obtain ⟨q1, q2, q3⟩ := hSw; go_simp⟩) hS ?_
              simp only [Act.put, List.setIfInBounds_toArray, List.set_cons_zero, List.set_cons_succ, List.getElem_toArray, List.getElem_cons_succ, List.getElem_cons_zero]
              refine set_take (i := 1) (v := .slice (some ⟨pb, 0, .none⟩) np pc2) rfl (by kernel_rfl) (by kernel_rfl) (by kernel_rfl) (by kernel_rfl) (fun _ _ _ h => h) (Or.inl ⟨by rfl, fun ww hSw => by obtain ⟨q1, q2, q3⟩ := hSw; go_simp⟩) hS ?_
              simp only [Act.put, List.setIfInBounds_toArray, List.set_cons_zero, List.set_cons_succ, List.getElem_toArray, List.getElem_cons_succ, List.getElem_cons_zero]
              refine set_take (i := 2) (v := .int .i64 i) rfl (by kernel_rfl) (by kernel_rfl) (by kernel_rfl) (by kernel_rfl) (fun _ _ _ h => h) (Or.inl ⟨by rfl, fun ww hSw => by obtain ⟨q1, q2, q3⟩ := hSw; go_simp⟩) hS ?_
              simp only [Act.put, List.setIfInBounds_toArray, List.set_cons_zero, List.set_cons_succ, List.getElem_toArray, List.getElem_cons_succ, List.getElem_cons_zero]
              refine set_take (i := 3) (v := .pointer (some ⟨pb, i * 70, .none⟩)) rfl (by kernel_rfl) (by kernel_rfl) (by kernel_rfl) (by kernel_rfl) (fun _ _ _ h => h) (Or.inl ⟨by rfl, fun ww hSw => by obtain ⟨q1, q2, q3⟩ := hSw; go_simp⟩) hS ?_
              simp only [Act.put, List.setIfInBounds_toArray, List.set_cons_zero, List.set_cons_succ, List.getElem_toArray, List.getElem_cons_succ, List.getElem_cons_zero]
              refine set_take (i := 4) (v := .pointer (some ⟨pb, i * 70 + 44, .none⟩)) rfl (by kernel_rfl) (by kernel_rfl) (by kernel_rfl) (by kernel_rfl) (fun _ _ _ h => h) (Or.inl ⟨by rfl, fun ww hSw => by obtain ⟨q1, q2, q3⟩ := hSw; go_simp⟩) hS ?_
              simp only [Act.put, List.setIfInBounds_toArray, List.set_cons_zero, List.set_cons_succ, List.getElem_toArray, List.getElem_cons_succ, List.getElem_cons_zero]
              refine set_take (i := 5) (v := .slice (some ⟨nb, 0, .none⟩) nn nc) rfl (by kernel_rfl) (by kernel_rfl) (by kernel_rfl) (by kernel_rfl) (fun _ _ _ h => h) (Or.inl ⟨by rfl, fun ww hSw => by obtain ⟨q1, q2, q3⟩ := hSw; go_simp⟩) hS ?_
              simp only [Act.put, List.setIfInBounds_toArray, List.set_cons_zero, List.set_cons_succ, List.getElem_toArray, List.getElem_cons_succ, List.getElem_cons_zero]
              refine set_take (i := 6) (v := .int .i64 k) rfl (by kernel_rfl) (by kernel_rfl) (by kernel_rfl) (by kernel_rfl) (fun _ _ _ h => h) (Or.inl ⟨by rfl, fun ww hSw => by obtain ⟨q1, q2, q3⟩ := hSw; go_simp⟩) hS ?_
              simp only [Act.put, List.setIfInBounds_toArray, List.set_cons_zero, List.set_cons_succ, List.getElem_toArray, List.getElem_cons_succ, List.getElem_cons_zero]
              refine set_take (i := 7) (v := .pointer (some ⟨mb, 1, .none⟩)) rfl (by kernel_rfl) (by kernel_rfl) (by kernel_rfl) (by kernel_rfl) (fun _ _ _ h => h) (Or.inl ⟨by rfl, fun ww hSw => by obtain ⟨q1, q2, q3⟩ := hSw; go_simp⟩) hS ?_
              simp only [Act.put, List.setIfInBounds_toArray, List.set_cons_zero, List.set_cons_succ, List.getElem_toArray, List.getElem_cons_succ, List.getElem_cons_zero]
              refine set_take (i := 8) (v := .slice (some ⟨pb, 0, .none⟩) np pc2) rfl (by kernel_rfl) (by kernel_rfl) (by kernel_rfl) (by kernel_rfl) (fun _ _ _ h => h) (Or.inl ⟨by rfl, fun ww hSw => by obtain ⟨q1, q2, q3⟩ := hSw; go_simp⟩) hS ?_
              simp only [Act.put, List.setIfInBounds_toArray, List.set_cons_zero, List.set_cons_succ, List.getElem_toArray, List.getElem_cons_succ, List.getElem_cons_zero]
              refine set_take (i := 9) (v := .int .i64 i) rfl (by kernel_rfl) (by kernel_rfl) (by kernel_rfl) (by kernel_rfl) (fun _ _ _ h => h) (Or.inl ⟨by rfl, fun ww hSw => by obtain ⟨q1, q2, q3⟩ := hSw; go_simp⟩) hS ?_
              simp only [Act.put, List.setIfInBounds_toArray, List.set_cons_zero, List.set_cons_succ, List.getElem_toArray, List.getElem_cons_succ, List.getElem_cons_zero]
              refine set_take (i := 10) (v := .pointer (some ⟨pb, i * 70, .none⟩)) rfl (by kernel_rfl) (by kernel_rfl) (by kernel_rfl) (by kernel_rfl) (fun _ _ _ h => h) (Or.inl ⟨by rfl, fun ww hSw => by obtain ⟨q1, q2, q3⟩ := hSw; go_simp⟩) hS ?_
              simp only [Act.put, List.setIfInBounds_toArray, List.set_cons_zero, List.set_cons_succ, List.getElem_toArray, List.getElem_cons_succ, List.getElem_cons_zero]
              refine set_take (i := 11) (v := .pointer (some ⟨pb, i * 70 + 44, .none⟩)) rfl (by kernel_rfl) (by kernel_rfl) (by kernel_rfl) (by kernel_rfl) (fun _ _ _ h => h) (Or.inl ⟨by rfl, fun ww hSw => by obtain ⟨q1, q2, q3⟩ := hSw; go_simp⟩) hS ?_
              simp only [Act.put, List.setIfInBounds_toArray, List.set_cons_zero, List.set_cons_succ, List.getElem_toArray, List.getElem_cons_succ, List.getElem_cons_zero]
              refine set_take (i := 12) (v := .slice (some ⟨nb, 0, .none⟩) nn nc) rfl (by kernel_rfl) (by kernel_rfl) (by kernel_rfl) (by kernel_rfl) (fun _ _ _ h => h) (Or.inl ⟨by rfl, fun ww hSw => by obtain ⟨q1, q2, q3⟩ := hSw; go_simp⟩) hS ?_
              simp only [Act.put, List.setIfInBounds_toArray, List.set_cons_zero, List.set_cons_succ, List.getElem_toArray, List.getElem_cons_succ, List.getElem_cons_zero]
              refine set_take (i := 13) (v := .int .i64 k) rfl (by kernel_rfl) (by kernel_rfl) (by kernel_rfl) (by kernel_rfl) (fun _ _ _ h => h) (Or.inl ⟨by rfl, fun ww hSw => by obtain ⟨q1, q2, q3⟩ := hSw; go_simp⟩) hS ?_
              simp only [Act.put, List.setIfInBounds_toArray, List.set_cons_zero, List.set_cons_succ, List.getElem_toArray, List.getElem_cons_succ, List.getElem_cons_zero]
              refine set_take (i := 14) (v := .pointer (some ⟨nb, k, .none⟩)) rfl (by kernel_rfl) (by kernel_rfl) (by kernel_rfl) (by kernel_rfl) (fun _ _ _ h => h) (Or.inl ⟨by rfl, fun ww hSw => by obtain ⟨q1, q2, q3⟩ := hSw; go_simp⟩) hS ?_
              simp only [Act.put, List.setIfInBounds_toArray, List.set_cons_zero, List.set_cons_succ, List.getElem_toArray, List.getElem_cons_succ, List.getElem_cons_zero]
              refine set_take (i := 15) (v := .int .u64 x0) rfl (by kernel_rfl) (by kernel_rfl) (by kernel_rfl) (by kernel_rfl) (fun _ _ _ h => h) (Or.inl ⟨by rfl, fun ww hSw => by obtain ⟨q1, q2, q3⟩ := hSw; go_simp⟩) hS ?_
              simp only [Act.put, List.setIfInBounds_toArray, List.set_cons_zero, List.set_cons_succ, List.getElem_toArray, List.getElem_cons_succ, List.getElem_cons_zero]
              refine set_take (i := 16) (v := .int .i64 M) rfl (by kernel_rfl) (by kernel_rfl) (by kernel_rfl) (by kernel_rfl) (fun _ _ _ h => h) (Or.inl ⟨by rfl, fun ww hSw => by obtain ⟨q1, q2, q3⟩ := hSw; go_simp⟩) hS ?_
              simp only [Act.put, List.setIfInBounds_toArray, List.set_cons_zero, List.set_cons_succ, List.getElem_toArray, List.getElem_cons_succ, List.getElem_cons_zero]
              refine set_take (i := 17) (v := .int .i64 t) rfl (by kernel_rfl) (by kernel_rfl) (by kernel_rfl) (by kernel_rfl) (fun _ _ _ h => h) (Or.inl ⟨by rfl, fun ww hSw => by obtain ⟨q1, q2, q3⟩ := hSw; go_simp⟩) hS ?_
              simp only [Act.put, List.setIfInBounds_toArray, List.set_cons_zero, List.set_cons_succ, List.getElem_toArray, List.getElem_cons_succ, List.getElem_cons_zero]
              refine set_only (i := 18) (by kernel_rfl) rfl (by rfl) (fun K hK => ?_)
              go_simp
              go_at_call 29
              refine (HMV.out x0 hx0 _).mono ?_
              rintro e V1 ⟨rfl, rfl⟩
              rw [← HX1.out]
              refine hK.out _ _ (fun _ => hS) ?_
              clear hK K
              try simp only [Act.put, List.setIfInBounds_toArray, List.set_cons_zero, List.set_cons_succ, List.getElem_toArray, List.getElem_cons_succ, List.getElem_cons_zero]
              refine set_take (i := 19) (v := .pointer (some ⟨nb, k, .none⟩)) rfl (by kernel_rfl) (by kernel_rfl) (by kernel_rfl) (by kernel_rfl) (fun _ _ _ h => h) (Or.inl ⟨by rfl, fun ww hSw => by obtain ⟨q1, q2, q3⟩ := hSw; go_simp⟩) hS ?_
              simp only [Act.put, List.setIfInBounds_toArray, List.set_cons_zero, List.set_cons_succ, List.getElem_toArray, List.getElem_cons_succ, List.getElem_cons_zero]
              refine set_tail 1 20 _ _ _ _ (by kernel_rfl) (by decide) ?_
              simp only [List.toList_toArray, List.drop_succ_cons, List.drop_zero]
              clear hS
              go_wp2
              exact ⟨⟨k + 1, by omega, by go_num, HMk.out⟩, by simp [intOf]; omega⟩
          · have k1 : ¬ (k : Int) < nn := by omega
            obtain rfl : nn = k := by omega
            have HM12 : Hid (Mw wr b0 mb (tr) (EE.set i (pcS M t p true true nn 0, .slice np3 nn nc, .slice gp3 gn gc)) (EI0) EQ L (.slice (some ⟨pb, 0, .none⟩) np pc2) fv2 (.slice ip2 ni ic2) qv2 rv2 lv2 ∧ Below b0 W2 wr) := HC.out
            clear HC hkn hk hEk
            go_wp2_with fail
            clear kd kn
            generalize wr = WC at *
            go_loopw [12] (fun k12 wr => ∃ k : Nat, k ≤ gn ∧ k12 = .int .i64 k ∧ Hid (Mw wr b0 mb (tr) (EE.set i (pcS M t p true true nn k, .slice np3 nn nc, .slice gp3 gn gc)) (EI0) EQ L (.slice (some ⟨pb, 0, .none⟩) np pc2) fv2 (.slice ip2 ni ic2) qv2 rv2 lv2 ∧ Below b0 W2 wr)) (fun v _ => (gn - intOf v).toNat)
            case atStart => exact ⟨0, by omega, rfl, HM12.out⟩
            case round =>
              clear HM12
              obtain ⟨k, hk, rfl, HC⟩ := hrel
              have hEk : (EE.set i (pcS M t p true true nn k, .slice np3 nn nc, .slice gp3 gn gc))[i]? = some (pcS M t p true true nn k, .slice np3 nn nc, .slice gp3 gn gc) := List.getElem?_set_self hil
              have kd := (HC.out.1.var 1 _ rfl).1
              have kn := (Mw.pcell HC.out.1 rfl hEk 45 (.slice gp3 gn gc) rfl).1
              by_cases hkn : k < gn
              · as_aux_lemma =>
                  have k1 : (k : Int) < gn := by omega
                  have hnl : (pcS M t p true true nn k).pages.length = gn := by rw [HNN.out.2.1]; exact part_len ..
                  have hnr := HC.out.1.grow hEk
                  rw [hnl] at hnr
                  obtain ⟨gb, rfl⟩ := own_some hnr (by omega)
                  obtain ⟨y, hxe⟩ : ∃ x, p.pages[k]? = some x := ⟨_, List.getElem?_eq_getElem (by have := HNN.out.2.1; omega)⟩
                  obtain ⟨x0, hx0e⟩ : ∃ x, x = y.fr := ⟨_, rfl⟩
                  have hx0 : u64R x0 := by rw [hx0e]; exact (HPR.out.g y (List.mem_of_getElem? hxe)).fr
                  obtain ⟨x1, hx1⟩ : ∃ x, x = mvF M t x0 := ⟨_, rfl⟩
                  have hxk : (pcS M t p true true nn k).pages[k]? = some y := part_get (mvG M t) p.pages k y hxe
                  have hnc := Mw.gcell HC.out.1.drew hEk rfl k y hxk
                  rw [← hx0e] at hnc
                  have hS : (fun V : World => V.cell? ⟨mb, 1, .none⟩ = some (.slice (some ⟨pb, 0, .none⟩) np pc2) ∧ V.cell? ⟨pb, i * 70 + 45, .none⟩ = some (.slice (some ⟨gb, 0, .none⟩) gn gc) ∧ V.cell? ⟨gb, k * 3 + 1, .none⟩ = some (.int .u64 x0)) wr.drew := ⟨kd, kn, hnc.1⟩
                  have kc := hnc.1
                  have kf := hnc.2
                  have hMn : Mw (World.drew (wr.setCell ⟨gb, k * 3 + 1, .none⟩ (.int .u64 x1))) b0 mb (tr) (EE.set i (pcS M t p true true nn (k + 1), .slice np3 nn nc, .slice (some ⟨gb, 0, .none⟩) gn gc)) (EI0) EQ L (.slice (some ⟨pb, 0, .none⟩) np pc2) fv2 (.slice ip2 ni ic2) qv2 rv2 lv2 := by
                    rw [show EE.set i (pcS M t p true true nn (k + 1), .slice np3 nn nc, .slice (some ⟨gb, 0, .none⟩) gn gc) = (EE.set i (pcS M t p true true nn k, .slice np3 nn nc, .slice (some ⟨gb, 0, .none⟩) gn gc)).set i (pcS M t p true true nn (k + 1), .slice np3 nn nc, .slice (some ⟨gb, 0, .none⟩) gn gc) from (List.set_set ..).symm]
                    exact (Mw.setG (p' := pcS M t p true true nn (k + 1)) HC.out.1 hEk rfl hnl y hxk x1 (by rw [hx1, hx0e]; exact (part_set (mvG M t) p.pages k y hxe).symm) rfl rfl).drew
                  have HMk : Hid (Mw (World.drew (wr.setCell ⟨gb, k * 3 + 1, .none⟩ (.int .u64 x1))) b0 mb (tr) (EE.set i (pcS M t p true true nn (k + 1), .slice np3 nn nc, .slice (some ⟨gb, 0, .none⟩) gn gc)) (EI0) EQ L (.slice (some ⟨pb, 0, .none⟩) np pc2) fv2 (.slice ip2 ni ic2) qv2 rv2 lv2 ∧ Below b0 W2 (World.drew (wr.setCell ⟨gb, k * 3 + 1, .none⟩ (.int .u64 x1)))) := ⟨hMn, (HC.out.2.trans (set_bel _ ((hnr.lt gb rfl).1))).drew⟩
                  have HX1 : Hid (x1 = mvF M t x0) := hx1
                  clear hnl hnr hxe hx0e hx1 hxk hnc hMn hEk
                  go_upto_region 18 with fail
                  refine region_set (fun V => V.cell? ⟨mb, 1, .none⟩ = some (.slice (some ⟨pb, 0, .none⟩) np pc2) ∧ V.cell? ⟨pb, i * 70 + 45, .none⟩ = some (.slice (some ⟨gb, 0, .none⟩) gn gc) ∧ V.cell? ⟨gb, k * 3 + 1, .none⟩ = some (.int .u64 x0)) 22 [] (by kernel_rfl) ?_
                  refine set_take (i := 0) (v := .pointer (some ⟨mb, 1, .none⟩)) rfl (by kernel_rfl) (by kernel_rfl) (by kernel_rfl) (by kernel_rfl) (fun _ _ _ h => h) (Or.inl ⟨by rfl, fun ww hSw => by obtain ⟨q1, q2, q3⟩ := hSw; go_simp⟩) hS ?_
                  simp only [Act.put, List.setIfInBounds_toArray, List.set_cons_zero, List.set_cons_succ, List.getElem_toArray, List.getElem_cons_succ, List.getElem_cons_zero]
                  refine set_take (i := 1) (v := .slice (some ⟨pb, 0, .none⟩) np pc2) rfl (by kernel_rfl) (by kernel_rfl) (by kernel_rfl) (by kernel_rfl) (fun _ _ _ h => h) (Or.inl ⟨by rfl, fun ww hSw => by obtain ⟨q1, q2, q3⟩ := hSw; go_simp⟩) hS ?_
                  simp only [Act.put, List.setIfInBounds_toArray, List.set_cons_zero, List.set_cons_succ, List.getElem_toArray, List.getElem_cons_succ, List.getElem_cons_zero]
                  refine set_take (i := 2) (v := .int .i64 i) rfl (by kernel_rfl) (by kernel_rfl) (by kernel_rfl) (by kernel_rfl) (fun _ _ _ h => h) (Or.inl ⟨by rfl, fun ww hSw => by obtain ⟨q1, q2, q3⟩ := hSw; go_simp⟩) hS ?_
                  simp only [Act.put, List.setIfInBounds_toArray, List.set_cons_zero, List.set_cons_succ, List.getElem_toArray, List.getElem_cons_succ, List.getElem_cons_zero]
                  refine set_take (i := 3) (v := .pointer (some ⟨pb, i * 70, .none⟩)) rfl (by kernel_rfl) (by kernel_rfl) (by kernel_rfl) (by kernel_rfl) (fun _ _ _ h => h) (Or.inl ⟨by rfl, fun ww hSw => by obtain ⟨q1, q2, q3⟩ := hSw; go_simp⟩) hS ?_
                  simp only [Act.put, List.setIfInBounds_toArray, List.set_cons_zero, List.set_cons_succ, List.getElem_toArray, List.getElem_cons_succ, List.getElem_cons_zero]
                  refine set_take (i := 4) (v := .pointer (some ⟨pb, i * 70 + 45, .none⟩)) rfl (by kernel_rfl) (by kernel_rfl) (by kernel_rfl) (by kernel_rfl) (fun _ _ _ h => h) (Or.inl ⟨by rfl, fun ww hSw => by obtain ⟨q1, q2, q3⟩ := hSw; go_simp⟩) hS ?_
                  simp only [Act.put, List.setIfInBounds_toArray, List.set_cons_zero, List.set_cons_succ, List.getElem_toArray, List.getElem_cons_succ, List.getElem_cons_zero]
                  refine set_take (i := 5) (v := .slice (some ⟨gb, 0, .none⟩) gn gc) rfl (by kernel_rfl) (by kernel_rfl) (by kernel_rfl) (by kernel_rfl) (fun _ _ _ h => h) (Or.inl ⟨by rfl, fun ww hSw => by obtain ⟨q1, q2, q3⟩ := hSw; go_simp⟩) hS ?_
                  simp only [Act.put, List.setIfInBounds_toArray, List.set_cons_zero, List.set_cons_succ, List.getElem_toArray, List.getElem_cons_succ, List.getElem_cons_zero]
                  refine set_take (i := 6) (v := .int .i64 k) rfl (by kernel_rfl) (by kernel_rfl) (by kernel_rfl) (by kernel_rfl) (fun _ _ _ h => h) (Or.inl ⟨by rfl, fun ww hSw => by obtain ⟨q1, q2, q3⟩ := hSw; go_simp⟩) hS ?_
                  simp only [Act.put, List.setIfInBounds_toArray, List.set_cons_zero, List.set_cons_succ, List.getElem_toArray, List.getElem_cons_succ, List.getElem_cons_zero]
                  refine set_take (i := 7) (v := .pointer (some ⟨mb, 1, .none⟩)) rfl (by kernel_rfl) (by kernel_rfl) (by kernel_rfl) (by kernel_rfl) (fun _ _ _ h => h) (Or.inl ⟨by rfl, fun ww hSw => by obtain ⟨q1, q2, q3⟩ := hSw; go_simp⟩) hS ?_
                  simp only [Act.put, List.setIfInBounds_toArray, List.set_cons_zero, List.set_cons_succ, List.getElem_toArray, List.getElem_cons_succ, List.getElem_cons_zero]
                  refine set_take (i := 8) (v := .slice (some ⟨pb, 0, .none⟩) np pc2) rfl (by kernel_rfl) (by kernel_rfl) (by kernel_rfl) (by kernel_rfl) (fun _ _ _ h => h) (Or.inl ⟨by rfl, fun ww hSw => by obtain ⟨q1, q2, q3⟩ := hSw; go_simp⟩) hS ?_
                  simp only [Act.put, List.setIfInBounds_toArray, List.set_cons_zero, List.set_cons_succ, List.getElem_toArray, List.getElem_cons_succ, List.getElem_cons_zero]
                  refine set_take (i := 9) (v := .int .i64 i) rfl (by kernel_rfl) (by kernel_rfl) (by kernel_rfl) (by kernel_rfl) (fun _ _ _ h => h) (Or.inl ⟨by rfl, fun ww hSw => by obtain ⟨q1, q2, q3⟩ := hSw; go_simp⟩) hS ?_
                  simp only [Act.put, List.setIfInBounds_toArray, List.set_cons_zero, List.set_cons_succ, List.getElem_toArray, List.getElem_cons_succ, List.getElem_cons_zero]
                  refine set_take (i := 10) (v := .pointer (some ⟨pb, i * 70, .none⟩)) rfl (by kernel_rfl) (by kernel_rfl) (by kernel_rfl) (by kernel_rfl) (fun _ _ _ h => h) (Or.inl ⟨by rfl, fun ww hSw => by obtain ⟨q1, q2, q3⟩ := hSw; go_simp⟩) hS ?_
                  simp only [Act.put, List.setIfInBounds_toArray, List.set_cons_zero, List.set_cons_succ, List.getElem_toArray, List.getElem_cons_succ, List.getElem_cons_zero]
                  refine set_take (i := 11) (v := .pointer (some ⟨pb, i * 70 + 45, .none⟩)) rfl (by kernel_rfl) (by kernel_rfl) (by kernel_rfl) (by kernel_rfl) (fun _ _ _ h => h) (Or.inl ⟨by rfl, fun ww hSw => by obtain ⟨q1, q2, q3⟩ := hSw; go_simp⟩) hS ?_
                  simp only [Act.put, List.setIfInBounds_toArray, List.set_cons_zero, List.set_cons_succ, List.getElem_toArray, List.getElem_cons_succ, List.getElem_cons_zero]
                  refine set_take (i := 12) (v := .slice (some ⟨gb, 0, .none⟩) gn gc) rfl (by kernel_rfl) (by kernel_rfl) (by kernel_rfl) (by kernel_rfl) (fun _ _ _ h => h) (Or.inl ⟨by rfl, fun ww hSw => by obtain ⟨q1, q2, q3⟩ := hSw; go_simp⟩) hS ?_
                  simp only [Act.put, List.setIfInBounds_toArray, List.set_cons_zero, List.set_cons_succ, List.getElem_toArray, List.getElem_cons_succ, List.getElem_cons_zero]
                  refine set_take (i := 13) (v := .int .i64 k) rfl (by kernel_rfl) (by kernel_rfl) (by kernel_rfl) (by kernel_rfl) (fun _ _ _ h => h) (Or.inl ⟨by rfl, fun ww hSw => by obtain ⟨q1, q2, q3⟩ := hSw; go_simp⟩) hS ?_
                  simp only [Act.put, List.setIfInBounds_toArray, List.set_cons_zero, List.set_cons_succ, List.getElem_toArray, List.getElem_cons_succ, List.getElem_cons_zero]
                  refine set_take (i := 14) (v := .pointer (some ⟨gb, k * 3, .none⟩)) rfl (by kernel_rfl) (by kernel_rfl) (by kernel_rfl) (by kernel_rfl) (fun _ _ _ h => h) (Or.inl ⟨by rfl, fun ww hSw => by obtain ⟨q1, q2, q3⟩ := hSw; go_simp⟩) hS ?_
                  simp only [Act.put, List.setIfInBounds_toArray, List.set_cons_zero, List.set_cons_succ, List.getElem_toArray, List.getElem_cons_succ, List.getElem_cons_zero]
                  refine set_take (i := 15) (v := .pointer (some ⟨gb, k * 3 + 1, .none⟩)) rfl (by kernel_rfl) (by kernel_rfl) (by kernel_rfl) (by kernel_rfl) (fun _ _ _ h => h) (Or.inl ⟨by rfl, fun ww hSw => by obtain ⟨q1, q2, q3⟩ := hSw; go_simp⟩) hS ?_
                  simp only [Act.put, List.setIfInBounds_toArray, List.set_cons_zero, List.set_cons_succ, List.getElem_toArray, List.getElem_cons_succ, List.getElem_cons_zero]
                  refine set_take (i := 16) (v := .int .u64 x0) rfl (by kernel_rfl) (by kernel_rfl) (by kernel_rfl) (by kernel_rfl) (fun _ _ _ h => h) (Or.inl ⟨by rfl, fun ww hSw => by obtain ⟨q1, q2, q3⟩ := hSw; go_simp⟩) hS ?_
                  simp only [Act.put, List.setIfInBounds_toArray, List.set_cons_zero, List.set_cons_succ, List.getElem_toArray, List.getElem_cons_succ, List.getElem_cons_zero]
                  refine set_take (i := 17) (v := .int .i64 M) rfl (by kernel_rfl) (by kernel_rfl) (by kernel_rfl) (by kernel_rfl) (fun _ _ _ h => h) (Or.inl ⟨by rfl, fun ww hSw => by obtain ⟨q1, q2, q3⟩ := hSw; go_simp⟩) hS ?_
                  simp only [Act.put, List.setIfInBounds_toArray, List.set_cons_zero, List.set_cons_succ, List.getElem_toArray, List.getElem_cons_succ, List.getElem_cons_zero]
                  refine set_take (i := 18) (v := .int .i64 t) rfl (by kernel_rfl) (by kernel_rfl) (by kernel_rfl) (by kernel_rfl) (fun _ _ _ h => h) (Or.inl ⟨by rfl, fun ww hSw => by obtain ⟨q1, q2, q3⟩ := hSw; go_simp⟩) hS ?_
                  simp only [Act.put, List.setIfInBounds_toArray, List.set_cons_zero, List.set_cons_succ, List.getElem_toArray, List.getElem_cons_succ, List.getElem_cons_zero]
                  refine set_only (i := 19) (by kernel_rfl) rfl (by rfl) (fun K hK => ?_)
                  go_simp
                  go_at_call 29
                  refine (HMV.out x0 hx0 _).mono ?_
                  rintro e V1 ⟨rfl, rfl⟩
                  rw [← HX1.out]
                  refine hK.out _ _ (fun _ => hS) ?_
                  clear hK K
                  try simp only [Act.put, List.setIfInBounds_toArray, List.set_cons_zero, List.set_cons_succ, List.getElem_toArray, List.getElem_cons_succ, List.getElem_cons_zero]
                  refine set_take (i := 20) (v := .pointer (some ⟨gb, k * 3, .none⟩)) rfl (by kernel_rfl) (by kernel_rfl) (by kernel_rfl) (by kernel_rfl) (fun _ _ _ h => h) (Or.inl ⟨by rfl, fun ww hSw => by obtain ⟨q1, q2, q3⟩ := hSw; go_simp⟩) hS ?_
                  simp only [Act.put, List.setIfInBounds_toArray, List.set_cons_zero, List.set_cons_succ, List.getElem_toArray, List.getElem_cons_succ, List.getElem_cons_zero]
                  refine set_take (i := 21) (v := .pointer (some ⟨gb, k * 3 + 1, .none⟩)) rfl (by kernel_rfl) (by kernel_rfl) (by kernel_rfl) (by kernel_rfl) (fun _ _ _ h => h) (Or.inl ⟨by rfl, fun ww hSw => by obtain ⟨q1, q2, q3⟩ := hSw; go_simp⟩) hS ?_
                  simp only [Act.put, List.setIfInBounds_toArray, List.set_cons_zero, List.set_cons_succ, List.getElem_toArray, List.getElem_cons_succ, List.getElem_cons_zero]
                  refine set_tail 1 22 _ _ _ _ (by kernel_rfl) (by decide) ?_
                  simp only [List.toList_toArray, List.drop_succ_cons, List.drop_zero]
                  clear hS
                  go_wp2
                  exact ⟨⟨k + 1, by omega, by go_num, HMk.out⟩, by simp [intOf]; omega⟩
              · have k1 : ¬ (k : Int) < gn := by omega
                obtain rfl : gn = k := by omega
                have HFN : Hid (Mw wr b0 mb (tr) ((E0.take (i + 1)).map (mvE M t) ++ E0.drop (i + 1)) (EI0) EQ L (.slice (some ⟨pb, 0, .none⟩) np pc2) fv2 (.slice ip2 ni ic2) qv2 rv2 lv2 ∧ Below b0 W2 wr) := by
                  have e1 : EE.set i (pcS M t p true true nn gn, .slice np3 nn nc, .slice gp3 gn gc) = (E0.take (i + 1)).map (mvE M t) ++ E0.drop (i + 1) := by
                    rw [HNN.out.2.2.2.1, ← part_set (mvE M t) E0 i _ HNN.out.2.2.1]
                    show _ = List.set _ i (mvPc M t p, _)
                    rw [← pcS_all, ← HNN.out.1, ← HNN.out.2.1]
                  rw [← e1]
                  exact HC.out
                clear HC hkn hk hEk
                go_wp2
                exact ⟨⟨i + 1, by omega, by go_num, HFN.out⟩, by simp [intOf]; omega⟩
    · have i1 : ¬ (i : Int) < np := by omega
      obtain rfl : np = i := by omega
      have HMP : Hid (Mw wr b0 mb (tr) (E0.map (mvE M t)) (EI0) EQ L (.slice pp2 np pc2) fv2 (.slice ip2 ni ic2) qv2 rv2 lv2 ∧ Below b0 W2 wr) := by
        have h := HB.out
        rw [show (E0.take np).map (mvE M t) ++ E0.drop np = E0.map (mvE M t) by rw [← HE.out.2.2.2.1, List.take_length, List.drop_length, List.append_nil]] at h
        exact h
      clear HB hin hi
      go_wp2_with fail
      clear kd
      generalize wr = WD at *
      go_loopw [13] (fun k13 wr => ∃ i : Nat, i ≤ ni ∧ k13 = .int .i64 i ∧ Hid (Mw wr b0 mb (tr) (E0.map (mvE M t)) ((EI0.take i).map (mvI M t) ++ EI0.drop i) EQ L (.slice pp2 np pc2) fv2 (.slice ip2 ni ic2) qv2 rv2 lv2 ∧ Below b0 W2 wr)) (fun v _ => (ni - intOf v).toNat)
      case atStart => exact ⟨0, by omega, rfl, by simpa using HMP.out.1, HMP.out.2⟩
      case round =>
        clear HMP
        obtain ⟨i, hi, rfl, HB⟩ := hrel
        have kd := (HB.out.1.var 3 _ rfl).1
        by_cases hin : i < ni
        · as_aux_lemma =>
            have i1 : (i : Int) < ni := by omega
            obtain ⟨⟨x, bv⟩, hE⟩ : ∃ e, EI0[i]? = some e := ⟨_, List.getElem?_eq_getElem (by have := HE.out.2.2.2.2.1; omega)⟩
            have hpm : L.inos[i]? = some x := by rw [← HE.out.2.1, List.getElem?_map, hE]; rfl
            have hpr := HS.out.1.i x (List.mem_of_getElem? hpm)
            obtain ⟨EE, hEE⟩ : ∃ EE, EE = (EI0.take i).map (mvI M t) ++ EI0.drop i := ⟨_, rfl⟩
            have hEi : EE[i]? = some (x, bv) := by rw [hEE]; exact part_get (mvI M t) EI0 i _ hE
            have hEl : EE.length = ni := by rw [hEE, part_len]; exact HE.out.2.2.2.2.1
            rw [← hEE] at HB
            have hrow := HB.out.1.irow
            rw [hEl] at hrow
            obtain ⟨ib, rfl⟩ := own_some hrow (by omega)
            have hnr := HB.out.1.brow hEi
            obtain ⟨bp3, nc, rfl⟩ := own_form hnr
            obtain ⟨nn, hnn⟩ : ∃ n, n = x.bl.length := ⟨_, rfl⟩
            rw [← hnn] at hEi
            have hE' : EI0[i]? = some (x, .slice bp3 nn nc) := by rw [hnn]; exact hE
            have HPR : Hid (InR x) := hpr
            have HNN : Hid (nn = x.bl.length ∧ EI0[i]? = some (x, .slice bp3 nn nc) ∧ EE = (EI0.take i).map (mvI M t) ++ EI0.drop i) := ⟨hnn, hE', hEE⟩
            have bnn : nn ≤ 1048576 := by have := hpr.bl; omega
            have hil : i < EE.length := by omega
            have HB0 : Hid (Mw wr b0 mb (tr) (E0.map (mvE M t)) (EE.set i (inS M t x 0, .slice bp3 nn nc)) EQ L (.slice pp2 np pc2) fv2 (.slice (some ⟨ib, 0, .none⟩) ni ic2) qv2 rv2 lv2 ∧ Below b0 W2 wr) := by
              have e : EE.set i (inS M t x 0, .slice bp3 nn nc) = EE := by rw [inS_none]; exact set_same _ _ _ hEi
              rw [e]
              exact HB.out
            clear hE hE' hpm hpr hEE hrow hnr hnn HB hEl
            go_wp2_with fail
            clear kd
            generalize wr = WE at *
            go_loopw [14] (fun k14 wr => ∃ k : Nat, k ≤ nn ∧ k14 = .int .i64 k ∧ Hid (Mw wr b0 mb (tr) (E0.map (mvE M t)) (EE.set i (inS M t x k, .slice bp3 nn nc)) EQ L (.slice pp2 np pc2) fv2 (.slice (some ⟨ib, 0, .none⟩) ni ic2) qv2 rv2 lv2 ∧ Below b0 W2 wr)) (fun v _ => (nn - intOf v).toNat)
            case atStart => exact ⟨0, by omega, rfl, HB0.out⟩
            case round =>
              clear HB0
              obtain ⟨k, hk, rfl, HC⟩ := hrel
              have hEk : (EE.set i (inS M t x k, .slice bp3 nn nc))[i]? = some (inS M t x k, .slice bp3 nn nc) := List.getElem?_set_self hil
              have kd := (HC.out.1.var 3 _ rfl).1
              have kn := (Mw.icell HC.out.1 rfl hEk 7 (.slice bp3 nn nc) rfl).1
              by_cases hkn : k < nn
              · as_aux_lemma =>
                  have k1 : (k : Int) < nn := by omega
                  have hnl : (inS M t x k).bl.length = nn := by rw [HNN.out.1]; exact part_len ..
                  have hnr := HC.out.1.brow hEk
                  rw [hnl] at hnr
                  obtain ⟨bb, rfl⟩ := own_some hnr (by omega)
                  obtain ⟨x0, hxe⟩ : ∃ y, x.bl[k]? = some y := ⟨_, List.getElem?_eq_getElem (by have := HNN.out.1; omega)⟩
                  have hx0 : u64R x0 := HPR.out.b x0 (List.mem_of_getElem? hxe)
                  obtain ⟨x1, hx1⟩ : ∃ y, y = mvF M t x0 := ⟨_, rfl⟩
                  have hxk : (inS M t x k).bl[k]? = some x0 := part_get (mvF M t) x.bl k x0 hxe
                  have hnc := Mw.bcell HC.out.1.drew hEk rfl k x0 hxk
                  have hS : (fun V : World => V.cell? ⟨mb, 3, .none⟩ = some (.slice (some ⟨ib, 0, .none⟩) ni ic2) ∧ V.cell? ⟨ib, i * 8 + 7, .none⟩ = some (.slice (some ⟨bb, 0, .none⟩) nn nc) ∧ V.cell? ⟨bb, k, .none⟩ = some (.int .u64 x0)) wr.drew := ⟨kd, kn, hnc.1⟩
                  have kc := hnc.1
                  have kf := hnc.2
                  have hMn : Mw (World.drew (wr.setCell ⟨bb, k, .none⟩ (.int .u64 x1))) b0 mb (tr) (E0.map (mvE M t)) (EE.set i (inS M t x (k + 1), .slice (some ⟨bb, 0, .none⟩) nn nc)) EQ L (.slice pp2 np pc2) fv2 (.slice (some ⟨ib, 0, .none⟩) ni ic2) qv2 rv2 lv2 := by
                    rw [show EE.set i (inS M t x (k + 1), .slice (some ⟨bb, 0, .none⟩) nn nc) = (EE.set i (inS M t x k, .slice (some ⟨bb, 0, .none⟩) nn nc)).set i (inS M t x (k + 1), .slice (some ⟨bb, 0, .none⟩) nn nc) from (List.set_set ..).symm]
                    exact (Mw.setB (p' := inS M t x (k + 1)) HC.out.1 hEk rfl hnl hkn x1 (by rw [hx1]; exact (part_set (mvF M t) x.bl k x0 hxe).symm) rfl).drew
                  have HMk : Hid (Mw (World.drew (wr.setCell ⟨bb, k, .none⟩ (.int .u64 x1))) b0 mb (tr) (E0.map (mvE M t)) (EE.set i (inS M t x (k + 1), .slice (some ⟨bb, 0, .none⟩) nn nc)) EQ L (.slice pp2 np pc2) fv2 (.slice (some ⟨ib, 0, .none⟩) ni ic2) qv2 rv2 lv2 ∧ Below b0 W2 (World.drew (wr.setCell ⟨bb, k, .none⟩ (.int .u64 x1)))) := ⟨hMn, (HC.out.2.trans (set_bel _ ((hnr.lt bb rfl).1))).drew⟩
                  have HX1 : Hid (x1 = mvF M t x0) := hx1
                  clear hnl hnr hxe hx1 hxk hnc hMn hEk
                  go_upto_region 25 with fail
                  refine region_set (fun V => V.cell? ⟨mb, 3, .none⟩ = some (.slice (some ⟨ib, 0, .none⟩) ni ic2) ∧ V.cell? ⟨ib, i * 8 + 7, .none⟩ = some (.slice (some ⟨bb, 0, .none⟩) nn nc) ∧ V.cell? ⟨bb, k, .none⟩ = some (.int .u64 x0)) 20 [] (by kernel_rfl) ?_
                  refine set_take (i := 0) (v := .pointer (some ⟨mb, 3, .none⟩)) rfl (by kernel_rfl) (by kernel_rfl) (by kernel_rfl) (by kernel_rfl) (fun _ _ _ h => h) (Or.inl ⟨by rfl, fun ww hSw => by obtain ⟨q1, q2, q3⟩ := hSw; go_simp⟩) hS ?_
                  simp only [Act.put, List.setIfInBounds_toArray, List.set_cons_zero, List.set_cons_succ, List.getElem_toArray, List.getElem_cons_succ, List.getElem_cons_zero]
                  refine set_take (i := 1) (v := .slice (some ⟨ib, 0, .none⟩) ni ic2) rfl (by kernel_rfl) (by kernel_rfl) (by kernel_rfl) (by kernel_rfl) (fun _ _ _ h => h) (Or.inl ⟨by rfl, fun ww hSw => by obtain ⟨q1, q2, q3⟩ := hSw; go_simp⟩) hS ?_
                  simp only [Act.put, List.setIfInBounds_toArray, List.set_cons_zero, List.set_cons_succ, List.getElem_toArray, List.getElem_cons_succ, List.getElem_cons_zero]
                  refine set_take (i := 2) (v := .int .i64 i) rfl (by kernel_rfl) (by kernel_rfl) (by kernel_rfl) (by kernel_rfl) (fun _ _ _ h => h) (Or.inl ⟨by rfl, fun ww hSw => by obtain ⟨q1, q2, q3⟩ := hSw; go_simp⟩) hS ?_
                  simp only [Act.put, List.setIfInBounds_toArray, List.set_cons_zero, List.set_cons_succ, List.getElem_toArray, List.getElem_cons_succ, List.getElem_cons_zero]
                  refine set_take (i := 3) (v := .pointer (some ⟨ib, i * 8, .none⟩)) rfl (by kernel_rfl) (by kernel_rfl) (by kernel_rfl) (by kernel_rfl) (fun _ _ _ h => h) (Or.inl ⟨by rfl, fun ww hSw => by obtain ⟨q1, q2, q3⟩ := hSw; go_simp⟩) hS ?_
                  simp only [Act.put, List.setIfInBounds_toArray, List.set_cons_zero, List.set_cons_succ, List.getElem_toArray, List.getElem_cons_succ, List.getElem_cons_zero]
                  refine set_take (i := 4) (v := .pointer (some ⟨ib, i * 8 + 7, .none⟩)) rfl (by kernel_rfl) (by kernel_rfl) (by kernel_rfl) (by kernel_rfl) (fun _ _ _ h => h) (Or.inl ⟨by rfl, fun ww hSw => by obtain ⟨q1, q2, q3⟩ := hSw; go_simp⟩) hS ?_
                  simp only [Act.put, List.setIfInBounds_toArray, List.set_cons_zero, List.set_cons_succ, List.getElem_toArray, List.getElem_cons_succ, List.getElem_cons_zero]
                  refine set_take (i := 5) (v := .slice (some ⟨bb, 0, .none⟩) nn nc) rfl (by kernel_rfl) (by kernel_rfl) (by kernel_rfl) (by kernel_rfl) (fun _ _ _ h => h) (Or.inl ⟨by rfl, fun ww hSw => by obtain ⟨q1, q2, q3⟩ := hSw; go_simp⟩) hS ?_
                  simp only [Act.put, List.setIfInBounds_toArray, List.set_cons_zero, List.set_cons_succ, List.getElem_toArray, List.getElem_cons_succ, List.getElem_cons_zero]
                  refine set_take (i := 6) (v := .int .i64 k) rfl (by kernel_rfl) (by kernel_rfl) (by kernel_rfl) (by kernel_rfl) (fun _ _ _ h => h) (Or.inl ⟨by rfl, fun ww hSw => by obtain ⟨q1, q2, q3⟩ := hSw; go_simp⟩) hS ?_
                  simp only [Act.put, List.setIfInBounds_toArray, List.set_cons_zero, List.set_cons_succ, List.getElem_toArray, List.getElem_cons_succ, List.getElem_cons_zero]
                  refine set_take (i := 7) (v := .pointer (some ⟨mb, 3, .none⟩)) rfl (by kernel_rfl) (by kernel_rfl) (by kernel_rfl) (by kernel_rfl) (fun _ _ _ h => h) (Or.inl ⟨by rfl, fun ww hSw => by obtain ⟨q1, q2, q3⟩ := hSw; go_simp⟩) hS ?_
                  simp only [Act.put, List.setIfInBounds_toArray, List.set_cons_zero, List.set_cons_succ, List.getElem_toArray, List.getElem_cons_succ, List.getElem_cons_zero]
                  refine set_take (i := 8) (v := .slice (some ⟨ib, 0, .none⟩) ni ic2) rfl (by kernel_rfl) (by kernel_rfl) (by kernel_rfl) (by kernel_rfl) (fun _ _ _ h => h) (Or.inl ⟨by rfl, fun ww hSw => by obtain ⟨q1, q2, q3⟩ := hSw; go_simp⟩) hS ?_
                  simp only [Act.put, List.setIfInBounds_toArray, List.set_cons_zero, List.set_cons_succ, List.getElem_toArray, List.getElem_cons_succ, List.getElem_cons_zero]
                  refine set_take (i := 9) (v := .int .i64 i) rfl (by kernel_rfl) (by kernel_rfl) (by kernel_rfl) (by kernel_rfl) (fun _ _ _ h => h) (Or.inl ⟨by rfl, fun ww hSw => by obtain ⟨q1, q2, q3⟩ := hSw; go_simp⟩) hS ?_
                  simp only [Act.put, List.setIfInBounds_toArray, List.set_cons_zero, List.set_cons_succ, List.getElem_toArray, List.getElem_cons_succ, List.getElem_cons_zero]
                  refine set_take (i := 10) (v := .pointer (some ⟨ib, i * 8, .none⟩)) rfl (by kernel_rfl) (by kernel_rfl) (by kernel_rfl) (by kernel_rfl) (fun _ _ _ h => h) (Or.inl ⟨by rfl, fun ww hSw => by obtain ⟨q1, q2, q3⟩ := hSw; go_simp⟩) hS ?_
                  simp only [Act.put, List.setIfInBounds_toArray, List.set_cons_zero, List.set_cons_succ, List.getElem_toArray, List.getElem_cons_succ, List.getElem_cons_zero]
                  refine set_take (i := 11) (v := .pointer (some ⟨ib, i * 8 + 7, .none⟩)) rfl (by kernel_rfl) (by kernel_rfl) (by kernel_rfl) (by kernel_rfl) (fun _ _ _ h => h) (Or.inl ⟨by rfl, fun ww hSw => by obtain ⟨q1, q2, q3⟩ := hSw; go_simp⟩) hS ?_
                  simp only [Act.put, List.setIfInBounds_toArray, List.set_cons_zero, List.set_cons_succ, List.getElem_toArray, List.getElem_cons_succ, List.getElem_cons_zero]
                  refine set_take (i := 12) (v := .slice (some ⟨bb, 0, .none⟩) nn nc) rfl (by kernel_rfl) (by kernel_rfl) (by kernel_rfl) (by kernel_rfl) (fun _ _ _ h => h) (Or.inl ⟨by rfl, fun ww hSw => by obtain ⟨q1, q2, q3⟩ := hSw; go_simp⟩) hS ?_
                  simp only [Act.put, List.setIfInBounds_toArray, List.set_cons_zero, List.set_cons_succ, List.getElem_toArray, List.getElem_cons_succ, List.getElem_cons_zero]
                  refine set_take (i := 13) (v := .int .i64 k) rfl (by kernel_rfl) (by kernel_rfl) (by kernel_rfl) (by kernel_rfl) (fun _ _ _ h => h) (Or.inl ⟨by rfl, fun ww hSw => by obtain ⟨q1, q2, q3⟩ := hSw; go_simp⟩) hS ?_
                  simp only [Act.put, List.setIfInBounds_toArray, List.set_cons_zero, List.set_cons_succ, List.getElem_toArray, List.getElem_cons_succ, List.getElem_cons_zero]
                  refine set_take (i := 14) (v := .pointer (some ⟨bb, k, .none⟩)) rfl (by kernel_rfl) (by kernel_rfl) (by kernel_rfl) (by kernel_rfl) (fun _ _ _ h => h) (Or.inl ⟨by rfl, fun ww hSw => by obtain ⟨q1, q2, q3⟩ := hSw; go_simp⟩) hS ?_
                  simp only [Act.put, List.setIfInBounds_toArray, List.set_cons_zero, List.set_cons_succ, List.getElem_toArray, List.getElem_cons_succ, List.getElem_cons_zero]
                  refine set_take (i := 15) (v := .int .u64 x0) rfl (by kernel_rfl) (by kernel_rfl) (by kernel_rfl) (by kernel_rfl) (fun _ _ _ h => h) (Or.inl ⟨by rfl, fun ww hSw => by obtain ⟨q1, q2, q3⟩ := hSw; go_simp⟩) hS ?_
                  simp only [Act.put, List.setIfInBounds_toArray, List.set_cons_zero, List.set_cons_succ, List.getElem_toArray, List.getElem_cons_succ, List.getElem_cons_zero]
                  refine set_take (i := 16) (v := .int .i64 M) rfl (by kernel_rfl) (by kernel_rfl) (by kernel_rfl) (by kernel_rfl) (fun _ _ _ h => h) (Or.inl ⟨by rfl, fun ww hSw => by obtain ⟨q1, q2, q3⟩ := hSw; go_simp⟩) hS ?_
                  simp only [Act.put, List.setIfInBounds_toArray, List.set_cons_zero, List.set_cons_succ, List.getElem_toArray, List.getElem_cons_succ, List.getElem_cons_zero]
                  refine set_take (i := 17) (v := .int .i64 t) rfl (by kernel_rfl) (by kernel_rfl) (by kernel_rfl) (by kernel_rfl) (fun _ _ _ h => h) (Or.inl ⟨by rfl, fun ww hSw => by obtain ⟨q1, q2, q3⟩ := hSw; go_simp⟩) hS ?_
                  simp only [Act.put, List.setIfInBounds_toArray, List.set_cons_zero, List.set_cons_succ, List.getElem_toArray, List.getElem_cons_succ, List.getElem_cons_zero]
                  refine set_only (i := 18) (by kernel_rfl) rfl (by rfl) (fun K hK => ?_)
                  go_simp
                  go_at_call 29
                  refine (HMV.out x0 hx0 _).mono ?_
                  rintro e V1 ⟨rfl, rfl⟩
                  rw [← HX1.out]
                  refine hK.out _ _ (fun _ => hS) ?_
                  clear hK K
                  try simp only [Act.put, List.setIfInBounds_toArray, List.set_cons_zero, List.set_cons_succ, List.getElem_toArray, List.getElem_cons_succ, List.getElem_cons_zero]
                  refine set_take (i := 19) (v := .pointer (some ⟨bb, k, .none⟩)) rfl (by kernel_rfl) (by kernel_rfl) (by kernel_rfl) (by kernel_rfl) (fun _ _ _ h => h) (Or.inl ⟨by rfl, fun ww hSw => by obtain ⟨q1, q2, q3⟩ := hSw; go_simp⟩) hS ?_
                  simp only [Act.put, List.setIfInBounds_toArray, List.set_cons_zero, List.set_cons_succ, List.getElem_toArray, List.getElem_cons_succ, List.getElem_cons_zero]
                  refine set_tail 1 20 _ _ _ _ (by kernel_rfl) (by decide) ?_
                  simp only [List.toList_toArray, List.drop_succ_cons, List.drop_zero]
                  clear hS
                  go_wp2
                  exact ⟨⟨k + 1, by omega, by go_num, HMk.out⟩, by simp [intOf]; omega⟩
              · have k1 : ¬ (k : Int) < nn := by omega
                obtain rfl : nn = k := by omega
                have HFN : Hid (Mw wr b0 mb (tr) (E0.map (mvE M t)) ((EI0.take (i + 1)).map (mvI M t) ++ EI0.drop (i + 1)) EQ L (.slice pp2 np pc2) fv2 (.slice (some ⟨ib, 0, .none⟩) ni ic2) qv2 rv2 lv2 ∧ Below b0 W2 wr) := by
                  have e1 : EE.set i (inS M t x nn, .slice bp3 nn nc) = (EI0.take (i + 1)).map (mvI M t) ++ EI0.drop (i + 1) := by
                    rw [HNN.out.2.2, ← part_set (mvI M t) EI0 i _ HNN.out.2.1]
                    show _ = List.set _ i (mvIn M t x, _)
                    rw [← inS_all, ← HNN.out.1]
                  rw [← e1]
                  exact HC.out
                clear HC hkn hk hEk
                go_wp2
                exact ⟨⟨i + 1, by omega, by go_num, HFN.out⟩, by simp [intOf]; omega⟩
        · have i1 : ¬ (i : Int) < ni := by omega
          obtain rfl : ni = i := by omega
          have HMI : Hid (Mw wr b0 mb (tr) (E0.map (mvE M t)) (EI0.map (mvI M t)) EQ L (.slice pp2 np pc2) fv2 (.slice ip2 ni ic2) qv2 rv2 lv2 ∧ Below b0 W2 wr) := by
            have h := HB.out
            rw [show (EI0.take ni).map (mvI M t) ++ EI0.drop ni = EI0.map (mvI M t) by rw [← HE.out.2.2.2.2.1, List.take_length, List.drop_length, List.append_nil]] at h
            exact h
          have HWR : Hid (∀ V, Below b0 W2 V → Below w.heap.size w V ∧ V.heap[w.heap.size]? = some (.cells lc.toArray 33)) := fun V hV => by
            rw [HE.out.2.2.2.2.2.2] at hV
            exact ⟨HK2.out.2.1.trans (hV.mono HK2.out.2.1.size), (hV.block _ HK2.out.2.2).trans HK2.out.1⟩
          clear HB hin hi
          go_wp2_with fail
          clear kd
          go_at_call 13
          refine (HW0.out _ (HWR.out _ HMI.out.2).1).mono ?_
          rintro e W7 ⟨fu, rfl, hfu, hB7⟩
          obtain ⟨fp3, fc3, rfl⟩ := own_form hfu
          rw [← HS.out.2.2.2] at hfu ⊢
          have HMF : Hid (Mfq W7 b0 mb tr (E0.map (mvE M t)) (EI0.map (mvI M t)) EQ L (.slice pp2 np pc2) fv2 (.slice ip2 ni ic2) qv2 rv2 lv2 (fr) (.slice fp3 ne fc3) ∧ Below b0 W2 W7) := by
            have hb : b0 ≤ wr.heap.size := by have := HMI.out.2.size; have := HE.out.2.2.2.2.2.2; omega
            refine ⟨Owns.push (r := rowN fr (.slice fp3 ne fc3)) HMI.out.1 hB7 ?_ hb, HMI.out.2.trans (hB7.mono hb)⟩
            show W7.ownsRow wr.heap.size 24 1 (.slice fp3 ne fc3) fr.length _
            rw [← HS.out.2.2.2]
            exact hfu
          clear hfu hB7 HMI
          have bne : ne ≤ 1048576 := by have := HSM.out.2; have := HS.out.2.2.2; omega
          go_wp2_with fail
          go_loopw [16] (fun k16 wr => ∃ k : Nat, k ≤ ne ∧ k16 = .int .i64 k ∧ Hid (Mfq wr b0 mb tr (E0.map (mvE M t)) (EI0.map (mvI M t)) EQ L (.slice pp2 np pc2) fv2 (.slice ip2 ni ic2) qv2 rv2 lv2 ((fr.take k).map (mvF M t) ++ fr.drop k) (.slice fp3 ne fc3) ∧ Below b0 W2 wr)) (fun v _ => (ne - intOf v).toNat)
          case atStart => exact ⟨0, by omega, rfl, by simpa using HMF.out.1, HMF.out.2⟩
          case round =>
            clear HMF
            obtain ⟨k, hk, rfl, HC⟩ := hrel
            by_cases hkn : k < ne
            · as_aux_lemma =>
                have k1 : (k : Int) < ne := by omega
                have hfl : ((fr.take k).map (mvF M t) ++ fr.drop k).length = ne := by rw [part_len]; exact HS.out.2.2.2.symm
                have hrow : wr.ownsRow b0 24 1 (.slice fp3 ne fc3) ((fr.take k).map (mvF M t) ++ fr.drop k).length (((fr.take k).map (mvF M t) ++ fr.drop k).map (.int .u64)) := Owns.own HC.out.1 (rowN ((fr.take k).map (mvF M t) ++ fr.drop k) (.slice fp3 ne fc3)) (List.mem_cons_self ..)
                rw [hfl] at hrow
                obtain ⟨fb, rfl⟩ := own_some hrow (by omega)
                obtain ⟨x0, hxe⟩ : ∃ y, fr[k]? = some y := ⟨_, List.getElem?_eq_getElem (by have := HS.out.2.2.2; omega)⟩
                have hx0 : u64R x0 := HS.out.2.1 x0 (List.mem_of_getElem? hxe)
                obtain ⟨x1, hx1⟩ : ∃ y, y = mvF M t x0 := ⟨_, rfl⟩
                have hcf := row_cell HC.out.1 (r := rowN ((fr.take k).map (mvF M t) ++ fr.drop k) (.slice (some ⟨fb, 0, .none⟩) ne fc3)) (List.mem_cons_self ..) rfl (j := k) (u := .int .u64 x0) (by show (List.map _ _)[k]? = _; rw [List.getElem?_map, part_get (mvF M t) fr k x0 hxe]; rfl)
                have kc := hcf.1
                have kf := hcf.2
                have hMn : Mfq (wr.setCell ⟨fb, k, .none⟩ (.int .u64 x1)) b0 mb tr (E0.map (mvE M t)) (EI0.map (mvI M t)) EQ L (.slice pp2 np pc2) fv2 (.slice ip2 ni ic2) qv2 rv2 lv2 ((fr.take (k + 1)).map (mvF M t) ++ fr.drop (k + 1)) (.slice (some ⟨fb, 0, .none⟩) ne fc3) := by
                  have o := Owns.setAt (A := []) (r := rowN ((fr.take k).map (mvF M t) ++ fr.drop k) (.slice (some ⟨fb, 0, .none⟩) ne fc3)) (g := fb) (j := k) HC.out.1 (.int .u64 x1) rfl hfl (by show k < (List.map _ _).length; rw [List.length_map]; omega)
                  have e : rowN ((fr.take (k + 1)).map (mvF M t) ++ fr.drop (k + 1)) (.slice (some ⟨fb, 0, .none⟩) ne fc3) = ⟨24, 1, ((fr.take k).map (mvF M t) ++ fr.drop k).length, .slice (some ⟨fb, 0, .none⟩) ne fc3, (((fr.take k).map (mvF M t) ++ fr.drop k).map (Value.int .u64)).set k (.int .u64 x1)⟩ := by
                    unfold rowN
                    rw [set_int, hx1, part_set (mvF M t) fr k x0 hxe, part_len, part_len]
                  unfold Mfq
                  rw [e]
                  exact o
                have HMk : Hid (Mfq (wr.setCell ⟨fb, k, .none⟩ (.int .u64 x1)) b0 mb tr (E0.map (mvE M t)) (EI0.map (mvI M t)) EQ L (.slice pp2 np pc2) fv2 (.slice ip2 ni ic2) qv2 rv2 lv2 ((fr.take (k + 1)).map (mvF M t) ++ fr.drop (k + 1)) (.slice (some ⟨fb, 0, .none⟩) ne fc3) ∧ Below b0 W2 (wr.setCell ⟨fb, k, .none⟩ (.int .u64 x1))) := ⟨hMn, HC.out.2.trans (set_bel _ ((hrow.lt fb rfl).1))⟩
                have HX1 : Hid (x1 = mvF M t x0) := hx1
                clear hfl hrow hxe hx1 hcf hMn
                go_wp2_with fail
                go_at_call 29
                refine (HMV.out x0 hx0 _).mono ?_
                rintro e V ⟨rfl, rfl⟩
                rw [← HX1.out]
                go_wp2
                exact ⟨⟨k + 1, by omega, by go_num, HMk.out⟩, by simp [intOf]; omega⟩
            · have k1 : ¬ (k : Int) < ne := by omega
              obtain rfl : ne = k := by omega
              have HMX : Hid (Mfq wr b0 mb tr (E0.map (mvE M t)) (EI0.map (mvI M t)) EQ L (.slice pp2 np pc2) fv2 (.slice ip2 ni ic2) qv2 rv2 lv2 (fr.map (mvF M t)) (.slice fp3 ne fc3) ∧ Below b0 W2 wr) := by
                have h := HC.out
                rw [show (fr.take ne).map (mvF M t) ++ fr.drop ne = fr.map (mvF M t) by rw [HS.out.2.2.2, List.take_length, List.drop_length, List.append_nil]] at h
                exact h
              clear HC hkn hk
              generalize wr = WF at *
              have hlk := (HWR.out _ HMX.out.2)
              have rlc : WF.rangeAt w.heap.size 0 lc := range_heap hlk.2
              obtain ⟨ml2, hml2⟩ : ∃ l, l = lkL tr (.slice pp2 np pc2) fv2 (.slice ip2 ni ic2) qv2 rv2 lv2 L.ticks L.next L.free := ⟨_, rfl⟩
              have HML2 : Hid (ml2.length = 10) := by rw [hml2]; exact rfl
              have hmbx : WF.heap[mb]? = some (.cells ml2.toArray 33 (0, 0)) := by rw [hml2]; exact Owns.bx HMX.out.1 (List.mem_cons_of_mem _ (List.mem_cons_self ..))
              have hmbl : mb < WF.heap.size := (Array.getElem?_eq_some_iff.1 hmbx).1
              have HLT : Hid (mb < WF.heap.size ∧ w.heap.size < WF.heap.size ∧ WF.heap[mb]? = some (.cells ml2.toArray 33 (0, 0)) ∧ WF.heap[w.heap.size]? = some (.cells lc.toArray 33) ∧ Below w.heap.size w WF) := ⟨hmbl, (Array.getElem?_eq_some_iff.1 hlk.2).1, hmbx, hlk.2, hlk.1⟩
              have HLM : Hid (∀ V, Below WF.heap.size WF V → LkW V V.heap.size (.slice pp2 np pc2) fv2 (.slice ip2 ni ic2) qv2 rv2 lv2 (mvLk M t L) ∧ Wd V V.heap.size (.slice fp3 ne fc3) (fr.map (mvF M t)) ∧ Below w.heap.size w V) := fun V hV => by
                have hO := Owns.keep HMX.out.1 hV
                refine ⟨owns_lk (T := []) (L := mvLk M t L) (E := E0.map (mvE M t)) (EI := EI0.map (mvI M t)) (EQ := EQ) ?_ ?_ HE.out.2.2.1 (hO.sub (.cons _ (.cons _ (.refl _)))), wd_own (Owns.own hO (rowN (fr.map (mvF M t)) (.slice fp3 ne fc3)) (List.mem_cons_self ..)), HLT.out.2.2.2.2.trans (hV.mono HLT.out.2.2.2.2.size)⟩
                · show (E0.map (mvE M t)).map (·.1) = L.procs.map (mvPc M t)
                  rw [← HE.out.1, List.map_map, List.map_map]
                  rfl
                · show (EI0.map (mvI M t)).map (·.1) = L.inos.map (mvIn M t)
                  rw [← HE.out.2.1, List.map_map, List.map_map]
                  rfl
              have HTR : Hid (ml2 = lkL (mvLk M t L).tramp (.slice pp2 np pc2) fv2 (.slice ip2 ni ic2) qv2 rv2 lv2 (mvLk M t L).ticks (mvLk M t L).next (mvLk M t L).free) := by rw [hml2, HM5.out.2.2]; exact rfl
              clear hlk hml2 hmbx hmbl HMX
              go_wp2_with (first
                | (refine wpList_is (.load 33 (.tmp 5)) rfl ?_; refine wpList_loadG 33 10 176 info33 _ Try.underlying33 rfl lc HL1.out.1 w.heap.size 0 (.tmp 5) rfl rfl rfl rlc (some 203) rfl ?_)
                | fail)
              clear rlc
              go_at_call 12
              refine (HT.out _ HLT.out.2.2.2.2).mono ?_
              rintro e V1 ⟨pv3, fv3, iv3, qv3, rv3, lv3, rfl, hL1, hV1⟩
              have HV1 : Hid (Below WF.heap.size WF V1 ∧ LkW V1 V1.heap.size pv3 fv3 iv3 qv3 rv3 lv3 L) := ⟨hV1, hL1⟩
              clear hV1 hL1
              go_wp2_with fail
              go_at_call 13
              refine (HW0.out _ (HLM.out _ HV1.out.1).2.2).mono ?_
              rintro e V2 ⟨u4, rfl, hu4, hV2⟩
              have HV2 : Hid (Below WF.heap.size WF V2 ∧ LkW V2 V2.heap.size pv3 fv3 iv3 qv3 rv3 lv3 L ∧ Wd V2 V2.heap.size u4 fr) := ⟨HV1.out.1.trans (hV2.mono HV1.out.1.size), HV1.out.2.keep hV2.size hV2, wd_own hu4⟩
              clear hV2 hu4 HV1
              go_wp2_with fail
              go_at_call 11
              have hfr0 : fr.length ≤ 1000000 := by have h1 := allL_size L fr; have h2 := HSB.out.al; have h3 := worthS_le L.procs 0; have h4 := blockS_le L.inos 0; omega
              have HFR : Hid (fr.length ≤ 1000000) := hfr0
              clear hfr0
              refine (take_any HV2.out.2.1 (Nat.le_refl _) HV2.out.2.2 (by have := HSB.out.al; omega) HS.out.1 HS.out.2.1 HFR.out M bM.1 bM.2).mono ?_
              rintro e V3 ⟨a1, a2, a3, rfl, hOa, hV3⟩
              obtain ⟨CF, hCF⟩ : ∃ l, l = L.files.map (cfF (nfA L)) := ⟨_, rfl⟩
              obtain ⟨CI, hCI⟩ : ∃ l, l = L.inos.map (cfI (nfA L)) := ⟨_, rfl⟩
              rw [← hCF, ← hCI] at hOa
              have HCC : Hid (CF = L.files.map (cfF (nfA L)) ∧ CI = L.inos.map (cfI (nfA L))) := ⟨hCF, hCI⟩
              have sa2 := Sl.ofC (hOa.own (rowC CF a2) (by simp))
              have sa3 := Sl.ofC (hOa.own (rowC CI a3) (by simp))
              obtain ⟨a1p, a1n, a1c, rfl⟩ : ∃ p n c, a1 = .slice p n c := by obtain ⟨p, c, hh⟩ := own_form (hOa.own (rowW (frL M (allL L fr)) a1) (by simp)); exact ⟨p, _, c, hh⟩
              obtain ⟨a2p, a2n, a2c, rfl⟩ : ∃ p n c, a2 = .slice p n c := by obtain ⟨p, c, hh⟩ := sa2.form; exact ⟨p, _, c, hh⟩
              obtain ⟨a3p, a3n, a3c, rfl⟩ : ∃ p n c, a3 = .slice p n c := by obtain ⟨p, c, hh⟩ := sa3.form; exact ⟨p, _, c, hh⟩
              obtain ⟨ka, hka⟩ : ∃ x, x = tkW M L fr := ⟨_, rfl⟩
              rw [← hka]
              have HKA : Hid (ka = tkW M L fr) := hka
              obtain ⟨cla, hcla⟩ : ∃ l, l = cwL (.slice a1p a1n a1c) (.slice a2p a2n a2c) (.slice a3p a3n a3c) ka := ⟨_, rfl⟩
              have HCA : Hid (cla.length = 5 ∧ (∀ v ∈ cla, v.oneCell' = true) ∧ cla = cwL (.slice a1p a1n a1c) (.slice a2p a2n a2c) (.slice a3p a3n a3c) ka) := by rw [hcla]; exact ⟨rfl, List.all_eq_true.1 (show (cwL (.slice a1p a1n a1c) (.slice a2p a2n a2c) (.slice a3p a3n a3c) ka).all (fun u => u.oneCell') = true from rfl), rfl⟩
              rw [← hcla]
              have HV3 : Hid (Below WF.heap.size WF V3 ∧ Sl V3 V3.heap.size 3 (fun x cs => cs = owL x) (.slice a2p a2n a2c) CF ∧ Sl V3 V3.heap.size 3 (fun x cs => cs = owL x) (.slice a3p a3n a3c) CI) := ⟨HV2.out.1.trans (hV3.mono HV2.out.1.size), sa2, sa3⟩
              clear hOa hV3 sa2 sa3 hCF hCI hka hcla HV2
              go_upto_region 32 with (first
                | (refine wpList_is (.alloc 41) rfl ?_; refine wpList_laidG 41 5 88 info41 cla HCA.out.1 HCA.out.2.1 17 (.tmp 207) _ _ rfl rfl rfl rfl rfl rfl rfl rfl ?_; intro V4 hV4 hB4 hs4)
                | fail)
              obtain ⟨ab, hab⟩ : ∃ b, b = V3.heap.size := ⟨_, rfl⟩
              have HV4 : Hid (Below WF.heap.size WF V4 ∧ V4.heap[ab]? = some (.cells cla.toArray 41 (0, 0)) ∧ ab < V4.heap.size ∧ Sl V4 V4.heap.size 3 (fun x cs => cs = owL x) (.slice a2p a2n a2c) CF ∧ Sl V4 V4.heap.size 3 (fun x cs => cs = owL x) (.slice a3p a3n a3c) CI) := ⟨HV3.out.1.trans (hB4.mono HV3.out.1.size), by rw [hab]; exact hV4, by omega, Sl.mono HV3.out.2.1 (by omega) hB4 (fun _ _ _ q => q), Sl.mono HV3.out.2.2 (by omega) hB4 (fun _ _ _ q => q)⟩
              rw [show V3.heap.size = ab from hab.symm]
              clear hV4 hB4 hs4 hab HV3
              have rm : V4.rangeAt mb 0 ml2 := range_heap ((HV4.out.1.block _ HLT.out.1).trans HLT.out.2.2.1)
              go_wp2_with (first
                | (refine wpList_is (.load 33 (.tmp 9)) rfl ?_; refine wpList_loadG 33 10 176 info33 _ Try.underlying33 rfl ml2 HML2.out mb 0 (.tmp 9) rfl rfl rfl rm (some 209) rfl ?_)
                | fail)
              clear rm
              go_at_call 11
              have htk : Calls Try.prog 11 #[.int .i64 M, .agg ml2.toArray, .slice fp3 ne fc3] V4 (TkP V4 M (mvLk M t L) (fr.map (mvF M t))) := by
                rw [HTR.out]
                exact take_any (HLM.out _ HV4.out.1).1 (Nat.le_refl _) (HLM.out _ HV4.out.1).2.1 (by rw [allL_mv, List.length_map]; have := HSB.out.al; omega) (HS.out.1.mv bM.1 bM.2) (fun a ha => by obtain ⟨c, hc, rfl⟩ := List.mem_map.1 ha; exact mvF_bd bM.1 bM.2 (HS.out.2.1 c hc)) (by rw [List.length_map]; exact HFR.out) M bM.1 bM.2
              refine htk.mono ?_
              rintro e V5 ⟨b1, b2, b3, rfl, hOb, hV5⟩
              rw [(counts_mv M t L).1, (counts_mv M t L).2, ← HCC.out.1, ← HCC.out.2] at hOb
              have sb2 := Sl.ofC (hOb.own (rowC CF b2) (by simp))
              have sb3 := Sl.ofC (hOb.own (rowC CI b3) (by simp))
              obtain ⟨b1p, b1n, b1c, rfl⟩ : ∃ p n c, b1 = .slice p n c := by obtain ⟨p, c, hh⟩ := own_form (hOb.own (rowW _ b1) (List.mem_cons_self ..)); exact ⟨p, _, c, hh⟩
              obtain ⟨b2p, b2n, b2c, rfl⟩ : ∃ p n c, b2 = .slice p n c := by obtain ⟨p, c, hh⟩ := sb2.form; exact ⟨p, _, c, hh⟩
              obtain ⟨b3p, b3n, b3c, rfl⟩ : ∃ p n c, b3 = .slice p n c := by obtain ⟨p, c, hh⟩ := sb3.form; exact ⟨p, _, c, hh⟩
              obtain ⟨kb, hkb⟩ : ∃ x, x = tkW M (mvLk M t L) (fr.map (mvF M t)) := ⟨_, rfl⟩
              rw [← hkb]
              have HKB : Hid (kb = tkW M (mvLk M t L) (fr.map (mvF M t))) := hkb
              obtain ⟨clb, hclb⟩ : ∃ l, l = cwL (.slice b1p b1n b1c) (.slice b2p b2n b2c) (.slice b3p b3n b3c) kb := ⟨_, rfl⟩
              have HCB : Hid (clb.length = 5 ∧ (∀ v ∈ clb, v.oneCell' = true) ∧ clb = cwL (.slice b1p b1n b1c) (.slice b2p b2n b2c) (.slice b3p b3n b3c) kb) := by rw [hclb]; exact ⟨rfl, List.all_eq_true.1 (show (cwL (.slice b1p b1n b1c) (.slice b2p b2n b2c) (.slice b3p b3n b3c) kb).all (fun u => u.oneCell') = true from rfl), rfl⟩
              rw [← hclb]
              have HV5 : Hid (Below V4.heap.size V4 V5 ∧ Sl V5 V5.heap.size 3 (fun x cs => cs = owL x) (.slice b2p b2n b2c) CF ∧ Sl V5 V5.heap.size 3 (fun x cs => cs = owL x) (.slice b3p b3n b3c) CI) := ⟨hV5, sb2, sb3⟩
              clear hOb hV5 sb2 sb3 hkb hclb htk
              go_upto_region 33 with (first
                | (refine wpList_is (.alloc 41) rfl ?_; refine wpList_laidG 41 5 88 info41 clb HCB.out.1 HCB.out.2.1 18 (.tmp 211) _ _ rfl rfl rfl rfl rfl rfl rfl rfl ?_; intro V6 hV6 hB6 hs6)
                | fail)
              obtain ⟨bb, hbb⟩ : ∃ b, b = V5.heap.size := ⟨_, rfl⟩
              have hB46 : Below V4.heap.size V4 V6 := HV5.out.1.trans (hB6.mono HV5.out.1.size)
              have HV6 : Hid (Below WF.heap.size WF V6 ∧ V6.heap[ab]? = some (.cells cla.toArray 41 (0, 0)) ∧ V6.heap[bb]? = some (.cells clb.toArray 41 (0, 0)) ∧ ab < V6.heap.size ∧ bb < V6.heap.size ∧ Sl V6 V6.heap.size 3 (fun x cs => cs = owL x) (.slice a2p a2n a2c) CF ∧ Sl V6 V6.heap.size 3 (fun x cs => cs = owL x) (.slice a3p a3n a3c) CI ∧ Sl V6 V6.heap.size 3 (fun x cs => cs = owL x) (.slice b2p b2n b2c) CF ∧ Sl V6 V6.heap.size 3 (fun x cs => cs = owL x) (.slice b3p b3n b3c) CI) := ⟨HV4.out.1.trans (hB46.mono HV4.out.1.size), (hB46.block _ HV4.out.2.2.1).trans HV4.out.2.1, by rw [hbb]; exact hV6, by have := HV4.out.2.2.1; have := hB46.size; omega, by omega, Sl.mono HV4.out.2.2.2.1 hB46.size hB46 (fun _ _ _ q => q), Sl.mono HV4.out.2.2.2.2 hB46.size hB46 (fun _ _ _ q => q), Sl.mono HV5.out.2.1 (by omega) hB6 (fun _ _ _ q => q), Sl.mono HV5.out.2.2 (by omega) hB6 (fun _ _ _ q => q)⟩
              rw [show V5.heap.size = bb from hbb.symm]
              clear hV6 hB6 hs6 hbb hB46 HV5 HV4
              have HW6 : Hid (∀ V, Below V6.heap.size V6 V → Below w.heap.size w V) := fun V hV => (HLM.out _ (HV6.out.1.trans (hV.mono HV6.out.1.size))).2.2
              have HK33 : Hid (∀ V, Below V6.heap.size V6 V → V.rangeAt mb 0 ml2 ∧ V.rangeAt w.heap.size 0 lc ∧ V.cell? ⟨ab, 1, .none⟩ = some (.slice a2p a2n a2c) ∧ V.cell? ⟨ab, 2, .none⟩ = some (.slice a3p a3n a3c) ∧ V.cell? ⟨bb, 1, .none⟩ = some (.slice b2p b2n b2c) ∧ V.cell? ⟨bb, 2, .none⟩ = some (.slice b3p b3n b3c)) := fun V hV => by
                have hF : Below WF.heap.size WF V := HV6.out.1.trans (hV.mono HV6.out.1.size)
                have ha : V.heap[ab]? = some (.cells cla.toArray 41 (0, 0)) := (hV.block _ HV6.out.2.2.2.1).trans HV6.out.2.1
                have hb : V.heap[bb]? = some (.cells clb.toArray 41 (0, 0)) := (hV.block _ HV6.out.2.2.2.2.1).trans HV6.out.2.2.1
                rw [HCA.out.2.2] at ha
                rw [HCB.out.2.2] at hb
                exact ⟨range_heap ((hF.block _ HLT.out.1).trans HLT.out.2.2.1), range_heap ((hF.block _ HLT.out.2.1).trans HLT.out.2.2.2.1), cell_heap (o := 1) ha, cell_heap (o := 2) ha, cell_heap (o := 1) hb, cell_heap (o := 2) hb⟩
              have HBd : Hid (Below V6.heap.size V6 V6.drew) := (Below.refl _ _).drew
              have hS : (fun V : World => V.rangeAt mb 0 ml2 ∧ V.rangeAt w.heap.size 0 lc ∧ V.cell? ⟨ab, 1, .none⟩ = some (.slice a2p a2n a2c) ∧ V.cell? ⟨ab, 2, .none⟩ = some (.slice a3p a3n a3c) ∧ V.cell? ⟨bb, 1, .none⟩ = some (.slice b2p b2n b2c) ∧ V.cell? ⟨bb, 2, .none⟩ = some (.slice b3p b3n b3c)) V6.drew := HK33.out _ HBd.out
              have bCF : CF.length ≤ 1048576 := by rw [HCC.out.1, List.length_map]; exact HS.out.1.fl
              have bCI : CI.length ≤ 1048576 := by rw [HCC.out.2, List.length_map]; exact HS.out.1.il
              have HSC2 : Hid (∀ V, Below V6.heap.size V6 V → Calls Try.prog 30 #[.slice a2p a2n a2c, .slice b2p b2n b2c] V fun e w' => e = .returned (.bool true) ∧ Below V.heap.size V w') := fun V hV => sameC_any (Sl.mono HV6.out.2.2.2.2.2.1 hV.size hV (fun _ _ _ q => q)) (Sl.mono HV6.out.2.2.2.2.2.2.2.1 hV.size hV (fun _ _ _ q => q)) bCF
              have HSC3 : Hid (∀ V, Below V6.heap.size V6 V → Calls Try.prog 30 #[.slice a3p a3n a3c, .slice b3p b3n b3c] V fun e w' => e = .returned (.bool true) ∧ Below V.heap.size V w') := fun V hV => sameC_any (Sl.mono HV6.out.2.2.2.2.2.2.1 hV.size hV (fun _ _ _ q => q)) (Sl.mono HV6.out.2.2.2.2.2.2.2.2 hV.size hV (fun _ _ _ q => q)) bCI
              have HALI : Hid (∀ V, Below V6.heap.size V6 V → ∀ pv4 fv4 iv4 qv4 rv4 lv4, LkW V V.heap.size pv4 fv4 iv4 qv4 rv4 lv4 L → Calls Try.prog 17 #[.agg ml2.toArray, .agg (lkL L.tramp pv4 fv4 iv4 qv4 rv4 lv4 L.ticks L.next L.free).toArray] V fun e w' => e = .returned (.bool true) ∧ Below V.heap.size V w') := fun V hV pv4 fv4 iv4 qv4 rv4 lv4 h4 => by
                have h := alike17_any (mvLk M t L).tramp L.tramp (HLM.out _ (HV6.out.1.trans (hV.mono HV6.out.1.size))).1 h4 (Nat.le_refl _) (Nat.le_refl _) (HS.out.1.mv bM.1 bM.2).sml.cb HS.out.1.sml.cb
                rw [alk_mv] at h
                rw [HTR.out]
                exact h
              clear bCF bCI
              refine region_set (fun V => V.rangeAt mb 0 ml2 ∧ V.rangeAt w.heap.size 0 lc ∧ V.cell? ⟨ab, 1, .none⟩ = some (.slice a2p a2n a2c) ∧ V.cell? ⟨ab, 2, .none⟩ = some (.slice a3p a3n a3c) ∧ V.cell? ⟨bb, 1, .none⟩ = some (.slice b2p b2n b2c) ∧ V.cell? ⟨bb, 2, .none⟩ = some (.slice b3p b3n b3c)) 20 [] (by kernel_rfl) ?_
              refine set_take (i := 0) (v := .agg (ml2).toArray) rfl (by kernel_rfl) (by kernel_rfl) (by kernel_rfl) (by kernel_rfl) (fun _ _ _ h => h) (yieldsIf_load_mid (by rfl) 33 (.tmp 9) rfl (mb) (0) rfl (ml2) _ (fun ww hSw => hSw.1) Try.underlying33 rfl (by rw [HML2.out]; kernel_rfl)) hS ?_
              simp only [Act.put, List.setIfInBounds_toArray, List.set_cons_zero, List.set_cons_succ, List.getElem_toArray, List.getElem_cons_succ, List.getElem_cons_zero]
              refine set_take (i := 1) (v := .agg (lc).toArray) rfl (by kernel_rfl) (by kernel_rfl) (by kernel_rfl) (by kernel_rfl) (fun _ _ _ h => h) (yieldsIf_load_mid (by rfl) 33 (.tmp 5) rfl (w.heap.size) (0) rfl (lc) _ (fun ww hSw => hSw.2.1) Try.underlying33 rfl (by rw [HL1.out.1]; kernel_rfl)) hS ?_
              simp only [Act.put, List.setIfInBounds_toArray, List.set_cons_zero, List.set_cons_succ, List.getElem_toArray, List.getElem_cons_succ, List.getElem_cons_zero]
              refine set_only (i := 2) (by kernel_rfl) rfl (by rfl) (fun K hK => ?_)
              go_simp
              go_at_call 12
              refine (HT.out _ (HW6.out _ HBd.out)).mono ?_
              rintro e U1 ⟨pv4, fv4, iv4, qv4, rv4, lv4, rfl, hL4, hU1⟩
              have HB1 : Hid (Below V6.heap.size V6 U1) := HBd.out.trans (hU1.mono HBd.out.size)
              have hS1 := HK33.out _ HB1.out
              have HL4 : Hid (LkW U1 U1.heap.size pv4 fv4 iv4 qv4 rv4 lv4 L) := hL4
              clear hS hU1 hL4
              refine hK.out _ _ (fun _ => hS1) ?_
              clear hK K
              try simp only [Act.put, List.setIfInBounds_toArray, List.set_cons_zero, List.set_cons_succ, List.getElem_toArray, List.getElem_cons_succ, List.getElem_cons_zero]
              refine set_only (i := 3) (by kernel_rfl) rfl (by rfl) (fun K hK => ?_)
              go_simp
              go_at_call 17
              refine (HALI.out _ HB1.out _ _ _ _ _ _ HL4.out).mono ?_
              rintro e U2 ⟨rfl, hU2⟩
              have HB2 : Hid (Below V6.heap.size V6 U2) := HB1.out.trans (hU2.mono HB1.out.size)
              have hS2 := HK33.out _ HB2.out
              clear hS1 hU2
              refine hK.out _ _ (fun _ => hS2) ?_
              clear hK K
              try simp only [Act.put, List.setIfInBounds_toArray, List.set_cons_zero, List.set_cons_succ, List.getElem_toArray, List.getElem_cons_succ, List.getElem_cons_zero]
              refine set_take (i := 4) (v := .bool false) rfl (by kernel_rfl) (by kernel_rfl) (by kernel_rfl) (by kernel_rfl) (fun _ _ _ h => h) (Or.inl ⟨by rfl, fun ww hSw => by obtain ⟨q1, q2, q3, q4, q5, q6⟩ := hSw; go_simp⟩) hS2 ?_
              simp only [Act.put, List.setIfInBounds_toArray, List.set_cons_zero, List.set_cons_succ, List.getElem_toArray, List.getElem_cons_succ, List.getElem_cons_zero]
              refine set_take (i := 5) (v := .bool false) rfl (by kernel_rfl) (by kernel_rfl) (by kernel_rfl) (by kernel_rfl) (fun _ _ _ h => h) (Or.inl ⟨by rfl, fun ww hSw => by obtain ⟨q1, q2, q3, q4, q5, q6⟩ := hSw; go_simp⟩) hS2 ?_
              simp only [Act.put, List.setIfInBounds_toArray, List.set_cons_zero, List.set_cons_succ, List.getElem_toArray, List.getElem_cons_succ, List.getElem_cons_zero]
              refine set_take (i := 6) (v := .pointer (some ⟨ab, 1, .none⟩)) rfl (by kernel_rfl) (by kernel_rfl) (by kernel_rfl) (by kernel_rfl) (fun _ _ _ h => h) (Or.inl ⟨by rfl, fun ww hSw => by obtain ⟨q1, q2, q3, q4, q5, q6⟩ := hSw; go_simp⟩) hS2 ?_
              simp only [Act.put, List.setIfInBounds_toArray, List.set_cons_zero, List.set_cons_succ, List.getElem_toArray, List.getElem_cons_succ, List.getElem_cons_zero]
              refine set_take (i := 7) (v := .slice a2p a2n a2c) rfl (by kernel_rfl) (by kernel_rfl) (by kernel_rfl) (by kernel_rfl) (fun _ _ _ h => h) (Or.inl ⟨by rfl, fun ww hSw => by obtain ⟨q1, q2, q3, q4, q5, q6⟩ := hSw; go_simp⟩) hS2 ?_
              simp only [Act.put, List.setIfInBounds_toArray, List.set_cons_zero, List.set_cons_succ, List.getElem_toArray, List.getElem_cons_succ, List.getElem_cons_zero]
              refine set_take (i := 8) (v := .pointer (some ⟨bb, 1, .none⟩)) rfl (by kernel_rfl) (by kernel_rfl) (by kernel_rfl) (by kernel_rfl) (fun _ _ _ h => h) (Or.inl ⟨by rfl, fun ww hSw => by obtain ⟨q1, q2, q3, q4, q5, q6⟩ := hSw; go_simp⟩) hS2 ?_
              simp only [Act.put, List.setIfInBounds_toArray, List.set_cons_zero, List.set_cons_succ, List.getElem_toArray, List.getElem_cons_succ, List.getElem_cons_zero]
              refine set_take (i := 9) (v := .slice b2p b2n b2c) rfl (by kernel_rfl) (by kernel_rfl) (by kernel_rfl) (by kernel_rfl) (fun _ _ _ h => h) (Or.inl ⟨by rfl, fun ww hSw => by obtain ⟨q1, q2, q3, q4, q5, q6⟩ := hSw; go_simp⟩) hS2 ?_
              simp only [Act.put, List.setIfInBounds_toArray, List.set_cons_zero, List.set_cons_succ, List.getElem_toArray, List.getElem_cons_succ, List.getElem_cons_zero]
              refine set_only (i := 10) (by kernel_rfl) rfl (by rfl) (fun K hK => ?_)
              go_simp
              go_at_call 30
              refine (HSC2.out _ HB2.out).mono ?_
              rintro e U3 ⟨rfl, hU3⟩
              have HB3 : Hid (Below V6.heap.size V6 U3) := HB2.out.trans (hU3.mono HB2.out.size)
              have hS3 := HK33.out _ HB3.out
              clear hS2 hU3
              refine hK.out _ _ (fun _ => hS3) ?_
              clear hK K
              try simp only [Act.put, List.setIfInBounds_toArray, List.set_cons_zero, List.set_cons_succ, List.getElem_toArray, List.getElem_cons_succ, List.getElem_cons_zero]
              refine set_take (i := 11) (v := .bool false) rfl (by kernel_rfl) (by kernel_rfl) (by kernel_rfl) (by kernel_rfl) (fun _ _ _ h => h) (Or.inl ⟨by rfl, fun ww hSw => by obtain ⟨q1, q2, q3, q4, q5, q6⟩ := hSw; go_simp⟩) hS3 ?_
              simp only [Act.put, List.setIfInBounds_toArray, List.set_cons_zero, List.set_cons_succ, List.getElem_toArray, List.getElem_cons_succ, List.getElem_cons_zero]
              refine set_take (i := 12) (v := .bool false) rfl (by kernel_rfl) (by kernel_rfl) (by kernel_rfl) (by kernel_rfl) (fun _ _ _ h => h) (Or.inl ⟨by rfl, fun ww hSw => by obtain ⟨q1, q2, q3, q4, q5, q6⟩ := hSw; go_simp⟩) hS3 ?_
              simp only [Act.put, List.setIfInBounds_toArray, List.set_cons_zero, List.set_cons_succ, List.getElem_toArray, List.getElem_cons_succ, List.getElem_cons_zero]
              refine set_take (i := 13) (v := .bool false) rfl (by kernel_rfl) (by kernel_rfl) (by kernel_rfl) (by kernel_rfl) (fun _ _ _ h => h) (Or.inl ⟨by rfl, fun ww hSw => by obtain ⟨q1, q2, q3, q4, q5, q6⟩ := hSw; go_simp⟩) hS3 ?_
              simp only [Act.put, List.setIfInBounds_toArray, List.set_cons_zero, List.set_cons_succ, List.getElem_toArray, List.getElem_cons_succ, List.getElem_cons_zero]
              refine set_take (i := 14) (v := .pointer (some ⟨ab, 2, .none⟩)) rfl (by kernel_rfl) (by kernel_rfl) (by kernel_rfl) (by kernel_rfl) (fun _ _ _ h => h) (Or.inl ⟨by rfl, fun ww hSw => by obtain ⟨q1, q2, q3, q4, q5, q6⟩ := hSw; go_simp⟩) hS3 ?_
              simp only [Act.put, List.setIfInBounds_toArray, List.set_cons_zero, List.set_cons_succ, List.getElem_toArray, List.getElem_cons_succ, List.getElem_cons_zero]
              refine set_take (i := 15) (v := .slice a3p a3n a3c) rfl (by kernel_rfl) (by kernel_rfl) (by kernel_rfl) (by kernel_rfl) (fun _ _ _ h => h) (Or.inl ⟨by rfl, fun ww hSw => by obtain ⟨q1, q2, q3, q4, q5, q6⟩ := hSw; go_simp⟩) hS3 ?_
              simp only [Act.put, List.setIfInBounds_toArray, List.set_cons_zero, List.set_cons_succ, List.getElem_toArray, List.getElem_cons_succ, List.getElem_cons_zero]
              refine set_take (i := 16) (v := .pointer (some ⟨bb, 2, .none⟩)) rfl (by kernel_rfl) (by kernel_rfl) (by kernel_rfl) (by kernel_rfl) (fun _ _ _ h => h) (Or.inl ⟨by rfl, fun ww hSw => by obtain ⟨q1, q2, q3, q4, q5, q6⟩ := hSw; go_simp⟩) hS3 ?_
              simp only [Act.put, List.setIfInBounds_toArray, List.set_cons_zero, List.set_cons_succ, List.getElem_toArray, List.getElem_cons_succ, List.getElem_cons_zero]
              refine set_take (i := 17) (v := .slice b3p b3n b3c) rfl (by kernel_rfl) (by kernel_rfl) (by kernel_rfl) (by kernel_rfl) (fun _ _ _ h => h) (Or.inl ⟨by rfl, fun ww hSw => by obtain ⟨q1, q2, q3, q4, q5, q6⟩ := hSw; go_simp⟩) hS3 ?_
              simp only [Act.put, List.setIfInBounds_toArray, List.set_cons_zero, List.set_cons_succ, List.getElem_toArray, List.getElem_cons_succ, List.getElem_cons_zero]
              refine set_only (i := 18) (by kernel_rfl) rfl (by rfl) (fun K hK => ?_)
              go_simp
              go_at_call 30
              refine (HSC3.out _ HB3.out).mono ?_
              rintro e U4 ⟨rfl, hU4⟩
              have HB4 : Hid (Below V6.heap.size V6 U4) := HB3.out.trans (hU4.mono HB3.out.size)
              have hS4 := HK33.out _ HB4.out
              clear hS3 hU4
              refine hK.out _ _ (fun _ => hS4) ?_
              clear hK K
              try simp only [Act.put, List.setIfInBounds_toArray, List.set_cons_zero, List.set_cons_succ, List.getElem_toArray, List.getElem_cons_succ, List.getElem_cons_zero]
              refine set_take (i := 19) (v := .bool false) rfl (by kernel_rfl) (by kernel_rfl) (by kernel_rfl) (by kernel_rfl) (fun _ _ _ h => h) (Or.inl ⟨by rfl, fun ww hSw => by obtain ⟨q1, q2, q3, q4, q5, q6⟩ := hSw; go_simp⟩) hS4 ?_
              simp only [Act.put, List.setIfInBounds_toArray, List.set_cons_zero, List.set_cons_succ, List.getElem_toArray, List.getElem_cons_succ, List.getElem_cons_zero]
              refine set_tail 1 20 _ _ _ _ (by kernel_rfl) (by decide) ?_
              simp only [List.toList_toArray, List.drop_succ_cons, List.drop_zero]
              clear hS4
              have kA3 : U4.rangeAt ab 3 (wrL ka) ∧ U4.rangeAt bb 3 (wrL kb) := by
                have ha : U4.heap[ab]? = some (.cells cla.toArray 41 (0, 0)) := (HB4.out.block _ HV6.out.2.2.2.1).trans HV6.out.2.1
                have hb : U4.heap[bb]? = some (.cells clb.toArray 41 (0, 0)) := (HB4.out.block _ HV6.out.2.2.2.2.1).trans HV6.out.2.2.1
                rw [HCA.out.2.2] at ha
                rw [HCB.out.2.2] at hb
                have h1 := range_sub (k := 3) (range_heap ha) (sub_of (s := wrL ka) rfl)
                have h2 := range_sub (k := 3) (range_heap hb) (sub_of (s := wrL kb) rfl)
                rw [Nat.zero_add] at h1 h2
                exact ⟨h1, h2⟩
              obtain ⟨ra, rb⟩ := kA3
              have ca : U4.cell? ⟨ab, 3, .none⟩ = some (.int .i64 ka.1) := ra 0 _ rfl
              have cb : U4.cell? ⟨bb, 3, .none⟩ = some (.int .i64 kb.1) := rb 0 _ rfl
              have HEND : Hid (Below w.heap.size w U4) := HW6.out _ HB4.out
              rcases tk_mv (t := t) bM.1 L fr with ⟨h1, h2⟩ | ⟨h1, h2, h3⟩
              · rw [← HKA.out] at h1
                rw [← HKB.out] at h2
                obtain ⟨va, hva⟩ : ∃ v, v = ka.1 := ⟨_, rfl⟩
                obtain ⟨vb, hvb⟩ : ∃ v, v = kb.1 := ⟨_, rfl⟩
                rw [← hva] at h1 ca
                rw [← hvb] at h2 cb
                clear hva hvb ra rb
                rcases h1 with h1 | h1
                · have e1 : (va == 3) = true := by simp [h1]
                  clear h1
                  rcases h2 with h2 | h2
                  · have e2 : (vb == 3) = true := by simp [h2]
                    clear h2
                    as_aux_lemma =>
                    go_wp2
                    go_ret
                    exact ⟨rfl, HEND.out⟩
                  · have e2 : (vb == 3) = false := by simp [h2]
                    have e3 : (vb == 4) = true := by simp [h2]
                    clear h2
                    as_aux_lemma =>
                    go_wp2
                    go_ret
                    exact ⟨rfl, HEND.out⟩
                · have e1 : (va == 3) = false := by simp [h1]
                  have e0 : (va == 4) = true := by simp [h1]
                  clear h1
                  rcases h2 with h2 | h2
                  · have e2 : (vb == 3) = true := by simp [h2]
                    clear h2
                    as_aux_lemma =>
                    go_wp2
                    go_ret
                    exact ⟨rfl, HEND.out⟩
                  · have e2 : (vb == 3) = false := by simp [h2]
                    have e3 : (vb == 4) = true := by simp [h2]
                    clear h2
                    as_aux_lemma =>
                    go_wp2
                    go_ret
                    exact ⟨rfl, HEND.out⟩
              · rw [← HKA.out] at h1 h2
                have e4 : kb = ka := by rw [HKB.out, HKA.out]; exact h3
                rw [e4] at rb
                obtain ⟨va, hva⟩ : ∃ v, v = ka.1 := ⟨_, rfl⟩
                rw [← hva] at h1 h2 ca
                have e1 : (va == 3) = false := by simp [h1]
                have e2 : (va == 4) = false := by simp [h2]
                have q39 : ∀ w : World, (binOp .eql 39 (.agg (wrL ka).toArray) (.agg (wrL ka).toArray)).run Try.prog w = .ok (.bool true) w := fun w => by
                  have := eqv_eql (eq_wrong 9997 ka.1 ka.2 ka.1 ka.2) w
                  rw [show ((ka.1 == ka.1) && ((ka.2 == ka.2) && true)) = true by simp] at this
                  exact this
                clear hva h1 h2 h3 e4 cb
                as_aux_lemma =>
                go_wp2_with (first
                  | (refine wpList_is (.load 39 (.tmp 253)) rfl ?_; refine wpList_loadG 39 2 16 info39 _ Try.underlying39 rfl (wrL ka) rfl ab 3 (.tmp 253) rfl rfl rfl ra (some 254) rfl ?_)
                  | (refine wpList_is (.load 39 (.tmp 255)) rfl ?_; refine wpList_loadG 39 2 16 info39 _ Try.underlying39 rfl (wrL ka) rfl bb 3 (.tmp 255) rfl rfl rfl rb (some 256) rfl ?_)
                  | fail)
                go_ret
                exact ⟨rfl, HEND.out⟩
end Go.Proofs.Ythopgmmodldljaa
