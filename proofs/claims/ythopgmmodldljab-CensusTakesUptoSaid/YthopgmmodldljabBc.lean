import Derived.Test.YthopgmmodldljabBb
namespace Go.Proofs.Ythopgmmodldljab
open Go Go.RowKit
set_option linter.unusedVariables false
set_option linter.unusedSimpArgs false
theorem own_one (W : World) (x : Int) : (W.alloc (.cells #[.int .u64 x] 22)).ownsRow W.heap.size 22 1 (.slice (some ⟨W.heap.size, 0, .none⟩) 1 1) 1 [.int .u64 x] :=
 bx_own (cs := [.int .u64 x]) (by show (W.heap.push _)[W.heap.size]? = _; simp) rfl (Nat.le_refl _)
theorem wd_own {w : World} {base : Nat} {v : Value} {l : List Int} (h : w.ownsRow base 22 1 v l.length (l.map (.int .u64))) : Sl w w.heap.size 1 (qI .u64) v l := by
 refine Sl.ofOwn (C := l.map fun x => [Value.int .u64 x]) h ?_ ?_ rfl (by simp) ?_
 ·induction l with
  | nil => rfl
  | cons x l ih => simp [List.map_cons, List.flatten_cons]; exact (by clear h ih; induction l with | nil => rfl | cons y l ih => simp [ih])
 ·intro c hc
  obtain ⟨x, _, rfl⟩ := List.mem_map.1 hc
  rfl
 ·intro i x cs h1 h2
  rw [List.getElem?_map, h1] at h2
  simp only [Option.map_some, Option.some.injEq] at h2
  exact h2.symm
/-- One address is named. -/
theorem name_one {w : World} {base c : Nat} {av : Value} {acc : List Nm} {R : List Row} (O : Owns w base ([bx 76 1 c [av], rowM acc av] ++ R)) (hbase : base ≤ w.heap.size) (cl ow x : Int) (hl : acc.length + 1 ≤ 1000000) :
  Calls Try.prog 43 #[.int .i64 cl, .int .i64 ow, .slice (some ⟨w.heap.size, 0, .none⟩) 1 1, .pointer (some ⟨c, 0, .none⟩)] (w.alloc (.cells #[.int .u64 x] 22)) fun e w' => e = .returned (.tuple #[]) ∧ ∃ av', Owns w' base ([bx 76 1 c [av'], rowM (acc ++ [(x, cl, ow)]) av'] ++ R) ∧ Below base w w' := by
 have O1 : Owns (w.alloc (.cells #[.int .u64 x] 22)) base (rowN [x] (.slice (some ⟨w.heap.size, 0, .none⟩) 1 1) :: ([bx 76 1 c [av], rowM acc av] ++ R)) := O.push (r := rowN [x] (.slice (some ⟨w.heap.size, 0, .none⟩) 1 1)) (below1 _ _) (own_one w x) hbase
 have O2 : Owns (w.alloc (.cells #[.int .u64 x] 22)) base ([bx 76 1 c [av], rowM acc av] ++ (rowN [x] (.slice (some ⟨w.heap.size, 0, .none⟩) 1 1) :: R)) := O1.perm (perm1 _ _ _)
 refine (name_any O2 (by simp; omega) cl ow _ 1 1 [x] rfl hl ?_).mono ?_
 ·intro w' av' acc' O' hB
  exact wd_own (O'.own (rowN [x] (.slice (some ⟨w.heap.size, 0, .none⟩) 1 1)) (by simp))
 ·rintro e w' ⟨rfl, av', O', hB⟩
  exact ⟨rfl, av', O'.sub ((List.Sublist.refl _).append (.cons _ (.refl _))), ((below1 w _).mono hbase).trans hB⟩
theorem alloc87 (ρ : Operand → Value) (o : Oper) (ho : o.op = .alloc 76) (w : World) : (execOp ρ o).run Try.prog w = .ok (.value (.pointer (some ⟨w.heap.size, 0, .none⟩))) (w.alloc (.cells [Value.slice none 0 0].toArray 76)) := by
 unfold execOp
 rw [ho]
 kernel_rfl
set_option maxRecDepth 100000 in
set_option maxHeartbeats 4000000 in
theorem namings_any {w : World} {X : Nat} {pv fv iv qv rv lv : Value} {L : Lk} (h : LkW w X pv fv iv qv rv lv L) (hX : X ≤ w.heap.size) {ev : Value} {fr : List Int} (hf : Wd w X ev fr) (hs : (allL L fr).length ≤ 1000000) (hil : L.inos.length ≤ 1048576) : Calls Try.prog 26 #[.agg (lkL L.tramp pv fv iv qv rv lv L.ticks L.next L.free).toArray, ev] w fun e w' => ∃ v, e = .returned v ∧ w'.ownsRow w.heap.size 116 3 v (allL L fr).length (((allL L fr).map An).flatten) ∧ Below w.heap.size w w' := by
 obtain ⟨pp, pc, rfl⟩ := h.ps.form
 obtain ⟨ip, ic, rfl⟩ := h.is.form
 obtain ⟨ep, ec, rfl⟩ := hf.form
 obtain ⟨np, hnp⟩ : ∃ n, n = L.procs.length := ⟨_, rfl⟩
 obtain ⟨ni, hni⟩ : ∃ n, n = L.inos.length := ⟨_, rfl⟩
 obtain ⟨ne, hne⟩ : ∃ n, n = fr.length := ⟨_, rfl⟩
 rw [← hnp, ← hni] at h ⊢
 rw [← hne] at hf ⊢
 have HS : Hid (1 + ne + (L.procs.flatMap nmP).length + (L.inos.flatMap nmI).length ≤ 1000000) := by
  show _ ≤ _
  simp only [allL, List.length_append, List.length_cons, List.length_nil, nmF, List.length_map] at hs
  rw [← hne] at hs
  omega
 have H : Hid (LkW w X (.slice pp np pc) fv (.slice ip ni ic) qv rv lv L) := h
 have HF : Hid (Wd w X (.slice ep ne ec) fr) := hf
 have HN : Hid (np = L.procs.length ∧ ni = L.inos.length ∧ ne = fr.length) := ⟨hnp, hni, hne⟩
 have bnp : np ≤ 1000000000 := by
  have h1 : L.procs.length ≤ (L.procs.flatMap nmP).length := by
   rw [List.length_flatMap]
   have : ∀ l : List Pc, l.length ≤ (l.map fun p => (nmP p).length).sum := by
    intro l
    induction l with
    | nil => simp
    | cons p l ih => simp only [List.map_cons, List.sum_cons, List.length_cons, nmP, List.length_append, List.length_nil] at ih ⊢; omega
   exact this _
  have := HS.out
  omega
 have bni : ni ≤ 1048576 := by omega
 clear h hf hs hnp hni hne hil
 obtain ⟨lc, hlc⟩ : ∃ lc, lc = lkL L.tramp (.slice pp np pc) fv (.slice ip ni ic) qv rv lv L.ticks L.next L.free := ⟨_, rfl⟩
 rw [← hlc]
 have HL1 : Hid (lc[0]? = some (.int .u64 L.tramp) ∧ lc[1]? = some (.slice pp np pc) ∧ lc[3]? = some (.slice ip ni ic) ∧ lc.length = 10) := by rw [hlc]; exact ⟨rfl, rfl, rfl, rfl⟩
 clear hlc
 obtain ⟨z, hz⟩ : ∃ z, z = w.heap.size := ⟨_, rfl⟩
 have HZ0 : Hid (z = w.heap.size) := hz
 rw [← hz] at hX ⊢
 go_enter Try.func26, Try.ntmps26
 go_wp2_with (first
  | (refine wpList_is (.box 31 (.tmp 0)) rfl ?_; refine wpList_boxG 31 lc 2 (.tmp 0) _ rfl rfl rfl rfl ?_; intro W1 hW1 hB1 hs1; rw [← hz] at hW1 hB1 hs1 ⊢; clear hz)
  | (refine wpList_is (.alloc 76) rfl ?_; refine Great.wpList_allocTo rfl (some 5) rfl _ _ (alloc87 _ _ rfl W1) ?_; have k0 : (W1.alloc (.cells [Value.slice none 0 0].toArray 76)).cell? ⟨z, 0, .none⟩ = some (.int .u64 L.tramp) := ((below1 W1 _).cell (p := ⟨z, 0, .none⟩) (by show z < W1.heap.size; omega)).trans (by rw [cell_heap hW1, List.getElem?_toArray, HL1.out.1]); rw [hs1])
  | fail)
 have O0 : Owns (W1.alloc (.cells #[Value.slice none 0 0] 76)) z ([bx 76 1 (z + 1) [.slice none 0 0], rowM [] (.slice none 0 0)] ++ [bx 31 10 z lc]) := by
  have hz := HZ0.out
  have o1 := (Owns.nil w z).new (k := 10) (by rw [← hz]; exact hW1) (by rw [← hz]; exact hB1) HL1.out.2.2.2 (by omega)
  rw [← hz] at o1
  have o2 := o1.new (w' := W1.alloc (.cells #[Value.slice none 0 0] 76)) (t := 76) (k := 1) (cs := [.slice none 0 0]) (by show (W1.heap.push _)[W1.heap.size]? = _; simp) (below1 _ _) rfl (by omega)
  rw [hs1] at o2
  have o3 : Owns _ z (rowM [] (.slice none 0 0) :: _) := o2.push (r := rowM [] (.slice none 0 0)) (Below.refl _ _) (World.ownsRow_nil _ _ _ _) (by simp; omega)
  exact o3.perm (List.Perm.swap _ _ _)
 have hsz : (W1.alloc (.cells #[Value.slice none 0 0] 76)).heap.size = z + 1 + 1 := by simp [hs1]
 have hb0 : Below z w (W1.alloc (.cells #[Value.slice none 0 0] 76)) := hB1.trans ((below1 W1 _).mono (by omega))
 have cc := name_one O0 (by omega) 1 0 L.tramp (by simp)
 rw [hsz] at cc
 refine cc.mono ?_
 rintro e W2 ⟨rfl, av, hO, hB⟩
 obtain ⟨c, hc⟩ : ∃ c, c = z + 1 := ⟨_, rfl⟩
 rw [← hc] at hO ⊢
 have HO : Hid (Owns W2 z ([bx 76 1 c [av], rowM [(L.tramp, 1, 0)] av] ++ [bx 31 10 z lc]) ∧ Below z w W2 ∧ z ≤ W2.heap.size) := ⟨hO, hb0.trans hB, by have h1 := hB.size; omega⟩
 clear cc O0 hsz hb0 hO hB hW1 hB1 hs1 k0 hc
 go_wp2_with fail
 refine (name_any HO.out.1 HO.out.2.2 2 0 ep ne ec fr HN.out.2.2 (by have := HS.out; simp; omega) (fun w' av' acc' _ hb => Wd.keep HF.out (Nat.le_trans hX (by have := HO.out.2.2; have := hb.size; omega)) ((HO.out.2.1.trans hb).mono hX))).mono ?_
 rintro e W3 ⟨rfl, av2, hO, hB⟩
 have e2 : [((L.tramp, 1, 0) : Nm)] ++ nmX 2 0 fr = [(L.tramp, 1, 0)] ++ nmF fr ++ (L.procs.take 0).flatMap nmP := by simp [nmX, nmF]
 rw [e2] at hO
 have c1 := (hO.cell (t := 31) (k := 10) (b := z) (cs := lc) (by simp) 1).1
 rw [HL1.out.2.1] at c1
 have HO2 : Hid (∃ av, Owns W3 z ([bx 76 1 c [av], rowM ([(L.tramp, 1, 0)] ++ nmF fr ++ (L.procs.take 0).flatMap nmP) av] ++ [bx 31 10 z lc]) ∧ Below z w W3 ∧ z ≤ W3.heap.size) := ⟨av2, hO, HO.out.2.1.trans hB, by have h1 := hB.size; have := HO.out.2.2; omega⟩
 clear HO hO hB e2
 go_wp2
 clear c1
 go_loopw [25] (fun k wr => ∃ (j : Nat), j ≤ np ∧ k = .int .i64 j ∧ Hid (∃ av, Owns wr z ([bx 76 1 c [av], rowM ([(L.tramp, 1, 0)] ++ nmF fr ++ (L.procs.take j).flatMap nmP) av] ++ [bx 31 10 z lc]) ∧ Below z w wr ∧ z ≤ wr.heap.size)) (fun v _ => (np - intOf v).toNat)
 case atStart => exact ⟨0, by omega, rfl, HO2.out⟩
 case round =>
  clear HO2
  obtain ⟨j, hj, rfl, HB⟩ := hrel
  obtain ⟨av, hO, hB, hbase⟩ := HB.out
  by_cases hjn : j < np
  ·have i1 : (j : Int) < np := by omega
   obtain ⟨-, b, o, x, cs, rfl, hbX, hx, ⟨nv, gv, rfl, hN, hG⟩, hcl, hr⟩ := H.out.ps.at hjn
   have hr' := range_keep hr hB (by omega : b < z)
   obtain ⟨nvp, nvc, rfl⟩ := hN.form
   obtain ⟨gvp, gvc, rfl⟩ := hG.form
   obtain ⟨nn, hnn⟩ : ∃ n, n = x.nodes.length := ⟨_, rfl⟩
   obtain ⟨ng, hng⟩ : ∃ n, n = x.pages.length := ⟨_, rfl⟩
   rw [← hnn] at hN hr'
   rw [← hng] at hG hr'
   have HP1 : Hid (∀ v ∈ (x.l (.slice nvp nn nvc) (.slice gvp ng gvc)), v.oneCell' = true) := pcl_one x rfl rfl
   have HFT := flat_take nmP L.procs j x hx
   have HXX : Hid ((L.procs.take (j + 1)).flatMap nmP = (L.procs.take j).flatMap nmP ++ nmP x ∧ ((L.procs.take j).flatMap nmP).length + (nmP x).length ≤ (L.procs.flatMap nmP).length ∧ nn = x.nodes.length ∧ ng = x.pages.length ∧ (nmP x).length = nn + ng + 1) := ⟨HFT.1, HFT.2, hnn, hng, by simp [nmP, nmN, nmG]; omega⟩
   have HNG : Hid (Wd w X (.slice nvp nn nvc) x.nodes ∧ Gs w X (.slice gvp ng gvc) x.pages) := ⟨hN, hG⟩
   have bng : ng ≤ 1000000 := by have := HS.out; have := HXX.out; omega
   have HO3 : Hid (Owns wr z ([bx 76 1 c [av], rowM ([(L.tramp, 1, 0)] ++ nmF fr ++ (L.procs.take j).flatMap nmP) av] ++ [bx 31 10 z lc]) ∧ Below z w wr ∧ z ≤ wr.heap.size) := ⟨hO, hB, hbase⟩
   clear hr hcl hbX hx hN hG hnn hng HFT HB hO hB hbase
   go_wp2_with (first
    | (refine wpList_is (.load 60 (.tmp 27)) rfl ?_; refine wpList_loadG 60 70 584 info55 _ Try.underlying60 rfl (x.l (.slice nvp nn nvc) (.slice gvp ng gvc)) rfl b (o + j * 70) (.tmp 27) rfl rfl rfl hr' (some 28) rfl ?_)
    | (refine wpList_is (.alloc 60) rfl ?_; refine wpList_laidG 60 70 584 info55 (x.l (.slice nvp nn nvc) (.slice gvp ng gvc)) rfl HP1.out 8 (.tmp 28) _ _ rfl rfl rfl rfl rfl rfl rfl rfl ?_; intro W1 hW1 hB1 hs1; have d0 := cell_heap (o := 0) hW1; rw [show (x.l (.slice nvp nn nvc) (.slice gvp ng gvc)).toArray[0]? = some (.int .i64 (x.c 0)) from rfl] at d0; have d1 := cell_heap (o := 44) hW1; rw [show (x.l (.slice nvp nn nvc) (.slice gvp ng gvc)).toArray[44]? = some (.slice nvp nn nvc) from rfl] at d1)
    | fail)
   obtain ⟨y, hy⟩ : ∃ y, y = wr.heap.size := ⟨_, rfl⟩
   have O4 : Owns W1 z ([bx 76 1 c [av], rowM ([(L.tramp, 1, 0)] ++ nmF fr ++ (L.procs.take j).flatMap nmP) av] ++ [bx 60 70 y (x.l (.slice nvp nn nvc) (.slice gvp ng gvc)), bx 31 10 z lc]) := by
    have o1 := HO3.out.1.new (k := 70) hW1 hB1 rfl HO3.out.2.2
    rw [← hy] at o1
    exact o1.perm (perm1 _ _ _)
   have b4 : Below z w W1 := HO3.out.2.1.trans (hB1.mono HO3.out.2.2)
   have l4 : z ≤ W1.heap.size := by have := HO3.out.2.2; omega
   have hSl : (([(L.tramp, 1, 0)] ++ nmF fr ++ (L.procs.take j).flatMap nmP)).length = 1 + ne + ((L.procs.take j).flatMap nmP).length := by have := HN.out; simp only [List.length_append, List.length_cons, List.length_nil, nmF, List.length_map]; omega
   refine (name_any O4 l4 3 (x.c 0) nvp nn nvc x.nodes HXX.out.2.2.1 (by have := HS.out; have := HXX.out; omega) (fun w' av' acc' _ hb => Wd.keep HNG.out.1 (Nat.le_trans hX (by have := hb.size; omega)) ((b4.trans hb).mono hX))).mono ?_
   rintro e W5 ⟨rfl, av5, hO, hB⟩
   rw [← hy]
   have HO5 : Hid (∃ av, Owns W5 z ([bx 76 1 c [av], rowM (([(L.tramp, 1, 0)] ++ nmF fr ++ (L.procs.take j).flatMap nmP) ++ nmN (x.c 0) x.nodes ++ nmG (x.c 0) (x.pages.take 0)) av] ++ [bx 60 70 y (x.l (.slice nvp nn nvc) (.slice gvp ng gvc)), bx 31 10 z lc]) ∧ Below z w W5 ∧ z ≤ W5.heap.size) := ⟨av5, by simpa [nmX, nmN, nmG] using hO, b4.trans hB, by have h1 := hB.size; omega⟩
   have HSl : Hid ((([(L.tramp, 1, 0)] ++ nmF fr ++ (L.procs.take j).flatMap nmP)).length = 1 + ne + ((L.procs.take j).flatMap nmP).length) := hSl
   have d2 := (hO.cell (t := 60) (k := 70) (b := y) (cs := (x.l (.slice nvp nn nvc) (.slice gvp ng gvc))) (by simp) 45).1
   rw [show (x.l (.slice nvp nn nvc) (.slice gvp ng gvc))[45]? = some (.slice gvp ng gvc) from rfl] at d2
   clear hr' hW1 hB1 hs1 O4 b4 l4 hO hB HO3 d0 d1 hSl hy
   go_wp2
   clear d2
   go_loopw [38] (fun k wq => ∃ (m : Nat), m ≤ ng ∧ k = .int .i64 m ∧ Hid (∃ av, Owns wq z ([bx 76 1 c [av], rowM (([(L.tramp, 1, 0)] ++ nmF fr ++ (L.procs.take j).flatMap nmP) ++ nmN (x.c 0) x.nodes ++ nmG (x.c 0) (x.pages.take m)) av] ++ [bx 60 70 y (x.l (.slice nvp nn nvc) (.slice gvp ng gvc)), bx 31 10 z lc]) ∧ Below z w wq ∧ z ≤ wq.heap.size)) (fun v _ => (ng - intOf v).toNat)
   case atStart => exact ⟨0, by omega, rfl, HO5.out⟩
   case round =>
    clear HO5
    obtain ⟨m, hm, rfl, HB⟩ := hrel
    obtain ⟨av, hO, hB, hbase⟩ := HB.out
    have d0 := (hO.cell (t := 60) (k := 70) (b := y) (cs := (x.l (.slice nvp nn nvc) (.slice gvp ng gvc))) (by simp) 0).1
    rw [show (x.l (.slice nvp nn nvc) (.slice gvp ng gvc))[0]? = some (.int .i64 (x.c 0)) from rfl] at d0
    by_cases hmn : m < ng
    ·have i2 : (m : Int) < ng := by omega
     obtain ⟨-, gb, go, xg, cs, rfl, hbX, hx, rfl, hcl, hr⟩ := HNG.out.2.at hmn
     have hr' := range_keep hr hB (by omega : gb < z)
     have HX1 : Hid (∀ u ∈ xg.l, u.oneCell' = true) := by intro u hu; simp only [Pg.l, List.mem_cons, List.not_mem_nil, or_false] at hu; rcases hu with rfl | rfl | rfl <;> rfl
     have HE : Hid (([(L.tramp, 1, 0)] ++ nmF fr ++ (L.procs.take j).flatMap nmP) ++ nmN (x.c 0) x.nodes ++ nmG (x.c 0) (x.pages.take (m + 1)) = ([(L.tramp, 1, 0)] ++ nmF fr ++ (L.procs.take j).flatMap nmP) ++ nmN (x.c 0) x.nodes ++ nmG (x.c 0) (x.pages.take m) ++ [(xg.fr, 4, x.c 0)]) := by
      show _ = _
      rw [List.take_add_one, hx]
      simp [nmG]
     have hln : (([(L.tramp, 1, 0)] ++ nmF fr ++ (L.procs.take j).flatMap nmP) ++ nmN (x.c 0) x.nodes ++ nmG (x.c 0) (x.pages.take m)).length + 1 ≤ 1000000 := by
      have := HS.out; have := HXX.out; have := HSl.out
      simp only [List.length_append, nmN, nmG, List.length_map, List.length_take] at this ⊢
      omega
     have HO6 : Hid (Owns wr z ([bx 76 1 c [av], rowM (([(L.tramp, 1, 0)] ++ nmF fr ++ (L.procs.take j).flatMap nmP) ++ nmN (x.c 0) x.nodes ++ nmG (x.c 0) (x.pages.take m)) av] ++ [bx 60 70 y (x.l (.slice nvp nn nvc) (.slice (some ⟨gb, go, .none⟩) ng gvc)), bx 31 10 z lc]) ∧ Below z w wr ∧ z ≤ wr.heap.size) := ⟨hO, hB, hbase⟩
     have hyw : y < wr.heap.size := ((hO.own (bx 60 70 y (x.l (.slice nvp nn nvc) (.slice (some ⟨gb, go, .none⟩) ng gvc))) (by simp)).lt y rfl).2
     clear hr hcl hbX hx HB hO hB hbase
     go_wp2_with (first
      | (refine wpList_is (.load 65 (.tmp 40)) rfl ?_; refine wpList_loadG 65 3 24 info81 _ Try.underlying65 rfl xg.l rfl gb (go + m * 3) (.tmp 40) rfl rfl rfl hr' (some 41) rfl ?_)
      | (refine wpList_is (.alloc 65) rfl ?_; refine wpList_laidG 65 3 24 info81 xg.l rfl HX1.out 10 (.tmp 41) _ _ rfl rfl rfl rfl rfl rfl rfl rfl ?_; intro W1 hW1 hB1 hs1; have d3 := cell_heap (o := 1) hW1; rw [show xg.l.toArray[1]? = some (.int .u64 xg.fr) from rfl] at d3; have d4 := (hB1.cell (p := ⟨y, 0, .none⟩) hyw).trans d0; clear d0)
      | fail)
     have O7 := HO6.out.1.keep hB1
     have b7 : Below z w W1 := HO6.out.2.1.trans (hB1.mono HO6.out.2.2)
     have l7 : z ≤ W1.heap.size := by have := HO6.out.2.2; omega
     have cc := name_one O7 l7 4 (x.c 0) xg.fr hln
     rw [hs1] at cc
     refine cc.mono ?_
     rintro e W8 ⟨rfl, av8, hO, hB⟩
     have HO8 : Hid (Owns W8 z ([bx 76 1 c [av8], rowM (([(L.tramp, 1, 0)] ++ nmF fr ++ (L.procs.take j).flatMap nmP) ++ nmN (x.c 0) x.nodes ++ nmG (x.c 0) (x.pages.take (m + 1))) av8] ++ [bx 60 70 y (x.l (.slice nvp nn nvc) (.slice (some ⟨gb, go, .none⟩) ng gvc)), bx 31 10 z lc]) ∧ Below z w W8 ∧ z ≤ W8.heap.size) := ⟨by rw [HE.out]; exact hO, b7.trans hB, by have h1 := hB.size; omega⟩
     clear cc O7 b7 l7 hO hB hW1 hB1 hs1 d3 d4 hr'
     go_wp2
     exact ⟨⟨m + 1, by omega, by go_num, av8, HO8.out⟩, by simp [intOf]; omega⟩
    ·have i2 : ¬ (m : Int) < ng := by omega
     obtain rfl : m = ng := by omega
     have d5 := (hO.cell (t := 60) (k := 70) (b := y) (cs := x.l (.slice nvp nn nvc) (.slice gvp m gvc)) (by simp) 42).1
     rw [show (x.l (.slice nvp nn nvc) (.slice gvp m gvc))[42]? = some (.int .u64 (x.c 42)) from rfl] at d5
     rw [show x.pages.take m = x.pages from List.take_of_length_le (by have := HXX.out; omega)] at hO
     have hln : (([(L.tramp, 1, 0)] ++ nmF fr ++ (L.procs.take j).flatMap nmP) ++ nmN (x.c 0) x.nodes ++ nmG (x.c 0) x.pages).length + 1 ≤ 1000000 := by
      have := HS.out; have := HXX.out; have := HSl.out
      simp only [List.length_append, nmN, nmG, List.length_map] at this ⊢
      omega
     have cc := name_one hO hbase 5 (x.c 0) (x.c 42) hln
     have HB9 : Hid (Below z w wr ∧ z ≤ wr.heap.size) := ⟨hB, hbase⟩
     clear hO hB hbase HB hln
     go_wp2_with fail
     refine cc.mono ?_
     rintro e W8 ⟨rfl, av8, hO, hB⟩
     have HO8 : Hid (Owns W8 z ([bx 76 1 c [av8], rowM ([(L.tramp, 1, 0)] ++ nmF fr ++ (L.procs.take (j + 1)).flatMap nmP) av8] ++ [bx 31 10 z lc]) ∧ Below z w W8 ∧ z ≤ W8.heap.size) := by
      refine ⟨?_, HB9.out.1.trans hB, by have h1 := hB.size; have := HB9.out.2; omega⟩
      have e1 : ([(L.tramp, 1, 0)] ++ nmF fr ++ (L.procs.take (j + 1)).flatMap nmP) = (([(L.tramp, 1, 0)] ++ nmF fr ++ (L.procs.take j).flatMap nmP) ++ nmN (x.c 0) x.nodes ++ nmG (x.c 0) x.pages) ++ [(x.c 42, 5, x.c 0)] := by
       rw [HXX.out.1]
       simp [nmP]
      rw [e1]
      exact hO.sub ((List.Sublist.refl _).append (.cons _ (.refl _)))
     clear cc hO hB d0 d5
     go_wp2
     exact ⟨⟨j + 1, by omega, by go_num, av8, HO8.out⟩, by simp [intOf]; omega⟩
  ·have i1 : ¬ (j : Int) < np := by omega
   obtain rfl : j = np := by omega
   have e3 : ([(L.tramp, 1, 0)] ++ nmF fr ++ (L.procs.take j).flatMap nmP) = [(L.tramp, 1, 0)] ++ nmF fr ++ L.procs.flatMap nmP ++ (L.inos.take 0).flatMap nmI := by
    rw [show L.procs.take j = L.procs from List.take_of_length_le (by have := HN.out.1; omega)]
    simp
   rw [e3] at hO
   have c3 := (hO.cell (t := 31) (k := 10) (b := z) (cs := lc) (by simp) 3).1
   rw [HL1.out.2.2.1] at c3
   have HO2 : Hid (∃ av, Owns wr z ([bx 76 1 c [av], rowM ([(L.tramp, 1, 0)] ++ nmF fr ++ L.procs.flatMap nmP ++ (L.inos.take 0).flatMap nmI) av] ++ [bx 31 10 z lc]) ∧ Below z w wr ∧ z ≤ wr.heap.size) := ⟨av, hO, hB, hbase⟩
   clear hO hB hbase HB e3
   go_wp2
   clear c3
   go_loopw [61] (fun k wr => ∃ (t : Nat), t ≤ ni ∧ k = .int .i64 t ∧ Hid (∃ av, Owns wr z ([bx 76 1 c [av], rowM ([(L.tramp, 1, 0)] ++ nmF fr ++ L.procs.flatMap nmP ++ (L.inos.take t).flatMap nmI) av] ++ [bx 31 10 z lc]) ∧ Below z w wr ∧ z ≤ wr.heap.size)) (fun v _ => (ni - intOf v).toNat)
   case atStart => exact ⟨0, by omega, rfl, HO2.out⟩
   case round =>
    clear HO2
    obtain ⟨t, ht, rfl, HB⟩ := hrel
    obtain ⟨av, hO, hB, hbase⟩ := HB.out
    by_cases htn : t < ni
    ·have i2 : (t : Int) < ni := by omega
     obtain ⟨-, b, o, x, cs, rfl, hbX, hx, ⟨bv, rfl, hN⟩, hcl, hr⟩ := H.out.is.at htn
     have hr' := range_keep hr hB (by omega : b < z)
     obtain ⟨bvp, bvc, rfl⟩ := hN.form
     obtain ⟨nb0, hnb0⟩ : ∃ n, n = x.bl.length := ⟨_, rfl⟩
     rw [← hnb0] at hN hr'
     have HP1 : Hid (∀ v ∈ x.l (.slice bvp nb0 bvc), v.oneCell' = true) := inl_one x rfl
     have HFT := flat_take nmI L.inos t x hx
     have HXX : Hid ((L.inos.take (t + 1)).flatMap nmI = (L.inos.take t).flatMap nmI ++ nmI x ∧ ((L.inos.take t).flatMap nmI).length + (nmI x).length ≤ (L.inos.flatMap nmI).length ∧ nb0 = x.bl.length ∧ (nmI x).length = nb0) := ⟨HFT.1, HFT.2, hnb0, by simp [nmI, nmB]; omega⟩
     have HBV : Hid (Wd w X (.slice bvp nb0 bvc) x.bl) := hN
     have hln : ([(L.tramp, 1, 0)] ++ nmF fr ++ L.procs.flatMap nmP ++ (L.inos.take t).flatMap nmI).length + nb0 ≤ 1000000 := by
      have := HS.out; have := HXX.out; have := HN.out
      simp only [List.length_append, List.length_cons, List.length_nil, nmF, List.length_map]
      omega
     have HO3 : Hid (Owns wr z ([bx 76 1 c [av], rowM ([(L.tramp, 1, 0)] ++ nmF fr ++ L.procs.flatMap nmP ++ (L.inos.take t).flatMap nmI) av] ++ [bx 31 10 z lc]) ∧ Below z w wr ∧ z ≤ wr.heap.size) := ⟨hO, hB, hbase⟩
     clear hr hcl hbX hx hN hnb0 HFT HB hO hB hbase
     go_wp2_with (first
      | (refine wpList_is (.load 63 (.tmp 63)) rfl ?_; refine wpList_loadG 63 8 72 info66 _ Try.underlying63 rfl (x.l (.slice bvp nb0 bvc)) rfl b (o + t * 8) (.tmp 63) rfl rfl rfl hr' (some 64) rfl ?_)
      | (refine wpList_is (.alloc 63) rfl ?_; refine wpList_laidG 63 8 72 info66 (x.l (.slice bvp nb0 bvc)) rfl HP1.out 12 (.tmp 64) _ _ rfl rfl rfl rfl rfl rfl rfl rfl ?_; intro W1 hW1 hB1 hs1; have d0 := cell_heap (o := 0) hW1; rw [show (x.l (.slice bvp nb0 bvc)).toArray[0]? = some (.int .i64 x.ino) from rfl] at d0; have d1 := cell_heap (o := 7) hW1; rw [show (x.l (.slice bvp nb0 bvc)).toArray[7]? = some (.slice bvp nb0 bvc) from rfl] at d1)
      | fail)
     have O4 := HO3.out.1.keep hB1
     have b4 : Below z w W1 := HO3.out.2.1.trans (hB1.mono HO3.out.2.2)
     have l4 : z ≤ W1.heap.size := by have := HO3.out.2.2; omega
     refine (name_any O4 l4 6 x.ino bvp nb0 bvc x.bl HXX.out.2.2.1 hln (fun w' av' acc' _ hb => Wd.keep HBV.out (Nat.le_trans hX (by have := hb.size; omega)) ((b4.trans hb).mono hX))).mono ?_
     rintro e W5 ⟨rfl, av5, hO, hB⟩
     have HO5 : Hid (Owns W5 z ([bx 76 1 c [av5], rowM ([(L.tramp, 1, 0)] ++ nmF fr ++ L.procs.flatMap nmP ++ (L.inos.take (t + 1)).flatMap nmI) av5] ++ [bx 31 10 z lc]) ∧ Below z w W5 ∧ z ≤ W5.heap.size) := by
      refine ⟨?_, b4.trans hB, by have h1 := hB.size; omega⟩
      rw [HXX.out.1, ← List.append_assoc]
      exact hO
     clear hr' hW1 hB1 hs1 O4 b4 l4 hO hB HO3 d0 d1
     go_wp2
     exact ⟨⟨t + 1, by omega, by go_num, av5, HO5.out⟩, by simp [intOf]; omega⟩
    ·have i2 : ¬ (t : Int) < ni := by omega
     obtain rfl : t = ni := by omega
     rw [show L.inos.take t = L.inos from List.take_of_length_le (by have := HN.out.2.1; omega)] at hO
     have d1 := (hO.cell (t := 76) (k := 1) (b := c) (cs := [av]) (by simp) 0).1
     rw [show [av][0]? = some av from rfl] at d1
     have hvv : wr.ownsRow z 116 3 av (allL L fr).length (((allL L fr).map An).flatten) := hO.own (rowM (allL L fr) av) (by simp [allL])
     obtain ⟨vp, vc, rfl⟩ := own_form hvv
     have HQ : Hid (wr.ownsRow z 116 3 (.slice vp (allL L fr).length vc) (allL L fr).length (((allL L fr).map An).flatten) ∧ Below z w wr) := ⟨hvv, hB⟩
     clear hO hB hbase HB hvv
     go_wp2
     go_ret
     exact ⟨_, rfl, HQ.out⟩
end Go.Proofs.Ythopgmmodldljab
