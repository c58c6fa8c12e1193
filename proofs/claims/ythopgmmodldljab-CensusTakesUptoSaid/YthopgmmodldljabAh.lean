import Derived.Test.YthopgmmodldljabAp
namespace Go.Proofs.Ythopgmmodldljab
open Go Go.RowKit
set_option linter.unusedVariables false
set_option linter.unusedSimpArgs false
/-! Everything that names a frame. -/
abbrev Nm := Int × Int × Int
def An (x : Nm) : List Value := [.int .u64 x.1, .int .i64 x.2.1, .int .i64 x.2.2]
def nmF (l : List Int) : List Nm := l.map fun a => (a, 2, 0)
def nmN (s : Int) (l : List Int) : List Nm := l.map fun a => (a, 3, s)
def nmG (s : Int) (l : List Pg) : List Nm := l.map fun g => (g.fr, 4, s)
def nmB (s : Int) (l : List Int) : List Nm := l.map fun a => (a, 6, s)
def nmP (p : Pc) : List Nm := nmN (p.c 0) p.nodes ++ nmG (p.c 0) p.pages ++ [(p.c 42, 5, p.c 0)]
def nmI (x : In) : List Nm := nmB x.ino x.bl
def allL (L : Lk) (fr : List Int) : List Nm := [(L.tramp, 1, 0)] ++ nmF fr ++ L.procs.flatMap nmP ++ L.inos.flatMap nmI
def rowA (l : List Nm) (v : Value) : Row := ⟨88, 3, l.length, v, (l.map An).flatten⟩
theorem An_one (x : Nm) : ∀ v ∈ An x, v.oneCell' = true := by
 intro v hv
 simp only [An, List.mem_cons, List.not_mem_nil, or_false] at hv
 rcases hv with rfl | rfl | rfl <;> rfl
theorem info104 : ∃ i z, Try.prog.info? 88 = some i ∧ i.zero = some z ∧ i.size = 3 ∧ i.bytes = 24 ∧ z.cells.size = 3 := info_of 88 3 24 (by kernel_rfl) (by kernel_rfl)
theorem rowA_app (l : List Nm) (x : Nm) (v v' : Value) : rowA (l ++ [x]) v' = ⟨88, 3, (rowA l v).n + 1, v', (rowA l v).xs ++ An x⟩ := by simp [rowA]
theorem flat_take {α β : Type} (f : α → List β) (l : List α) (i : Nat) (x : α) (h : l[i]? = some x) : (l.take (i + 1)).flatMap f = (l.take i).flatMap f ++ f x ∧ ((l.take i).flatMap f).length + (f x).length ≤ (l.flatMap f).length := by
 have h1 : l.take (i + 1) = l.take i ++ [x] := by rw [List.take_add_one, h]; rfl
 have h2 : (l.take (i + 1)).flatMap f = (l.take i).flatMap f ++ f x := by rw [h1, List.flatMap_append]; simp
 refine ⟨h2, ?_⟩
 have h3 : l.flatMap f = (l.take (i + 1)).flatMap f ++ (l.drop (i + 1)).flatMap f := by rw [← List.flatMap_append, List.take_append_drop]
 rw [h3, h2]
 simp
set_option maxRecDepth 100000 in
set_option maxHeartbeats 4000000 in
theorem all_any {w : World} {X : Nat} {pv fv iv qv rv lv : Value} {L : Lk} (h : LkW w X pv fv iv qv rv lv L) (hX : X ≤ w.heap.size) {ev : Value} {fr : List Int} (hf : Wd w X ev fr) (hs : (allL L fr).length ≤ 1000000) (hil : L.inos.length ≤ 1048576) : Calls Try.prog 19 #[.agg (lkL L.tramp pv fv iv qv rv lv L.ticks L.next L.free).toArray, ev] w fun e w' => ∃ v, e = .returned v ∧ w'.ownsRow w.heap.size 88 3 v (allL L fr).length (((allL L fr).map An).flatten) ∧ Below w.heap.size w w' := by
 obtain ⟨pp, pc, rfl⟩ := h.ps.form
 obtain ⟨ip, ic, rfl⟩ := h.is.form
 obtain ⟨ep, ec, rfl⟩ := hf.form
 obtain ⟨np, hnp⟩ : ∃ n, n = L.procs.length := ⟨_, rfl⟩
 obtain ⟨ni, hni⟩ : ∃ n, n = L.inos.length := ⟨_, rfl⟩
 obtain ⟨ne, hne⟩ : ∃ n, n = fr.length := ⟨_, rfl⟩
 rw [← hnp, ← hni] at h ⊢
 rw [← hne] at hf ⊢
 have HS : Hid (1 + ne + (L.procs.flatMap nmP).length + (L.inos.flatMap nmI).length ≤ 1000000) := by
  show _ ≤ _
  simp only [allL, List.length_append, List.length_cons, List.length_nil, nmF, List.length_map] at hs
  rw [← hne] at hs
  omega
 have H : Hid (LkW w X (.slice pp np pc) fv (.slice ip ni ic) qv rv lv L) := h
 have HF : Hid (Wd w X (.slice ep ne ec) fr) := hf
 have HN : Hid (np = L.procs.length ∧ ni = L.inos.length ∧ ne = fr.length) := ⟨hnp, hni, hne⟩
 have bnp : np ≤ 1000000000 := by
  have h1 : L.procs.length ≤ (L.procs.flatMap nmP).length := by
   rw [List.length_flatMap]
   have : ∀ l : List Pc, l.length ≤ (l.map fun p => (nmP p).length).sum := by
    intro l
    induction l with
    | nil => simp
    | cons p l ih => simp only [List.map_cons, List.sum_cons, List.length_cons, nmP, List.length_append, List.length_nil] at ih ⊢; omega
   exact this _
  have := HS.out
  omega
 have bne : ne ≤ 1000000000 := by have := HS.out; omega
 have bni : ni ≤ 1048576 := by omega
 clear h hf hs hnp hni hne hil
 obtain ⟨lc, hlc⟩ : ∃ lc, lc = lkL L.tramp (.slice pp np pc) fv (.slice ip ni ic) qv rv lv L.ticks L.next L.free := ⟨_, rfl⟩
 rw [← hlc]
 have HL1 : Hid (lc[0]? = some (.int .u64 L.tramp) ∧ lc[1]? = some (.slice pp np pc) ∧ lc[3]? = some (.slice ip ni ic) ∧ lc.length = 10) := by rw [hlc]; exact ⟨rfl, rfl, rfl, rfl⟩
 clear hlc
 obtain ⟨z, hz⟩ : ∃ z, z = w.heap.size := ⟨_, rfl⟩
 have HZ0 : Hid (z = w.heap.size) := hz
 rw [← hz] at hX ⊢
 go_enter Try.func19, Try.ntmps19
 go_wp2_with (first
  | (refine wpList_is (.box 31 (.tmp 0)) rfl ?_; refine wpList_boxG 31 lc 2 (.tmp 0) _ rfl rfl rfl rfl ?_; intro W1 hW1 hB1 hs1; rw [← hz] at hW1 hB1 hs1 ⊢; have k0 := cell_heap (o := 0) hW1; rw [List.getElem?_toArray, HL1.out.1] at k0; clear hz)
  | (refine wpList_is (.buildSlice 82 1 #[(0, .tmp 15)]) rfl ?_; refine wpList_sliceG 82 88 3 24 info104 (by decide) (by decide) Try.underlying82 (An (L.tramp, 1, 0)) rfl 15 rfl rfl (some 16) rfl rfl ?_)
  | fail)
 have HO : Hid (Owns (W1.alloc (.cells (An (L.tramp, 1, 0)).toArray 88)) z [bx 31 10 z lc, rowA ([(L.tramp, 1, 0)] ++ nmF (fr.take 0)) (.slice (some ⟨W1.heap.size, 0, .none⟩) 1 1)] ∧ Below z w (W1.alloc (.cells (An (L.tramp, 1, 0)).toArray 88))) := by
  have hz := HZ0.out
  have o1 := (Owns.nil w z).new (k := 10) (by rw [← hz]; exact hW1) (by rw [← hz]; exact hB1) HL1.out.2.2.2 (by omega)
  rw [← hz] at o1
  have o2 : Owns (W1.alloc (.cells (An (L.tramp, 1, 0)).toArray 88)) z (rowA ([(L.tramp, 1, 0)] ++ nmF (fr.take 0)) (.slice (some ⟨W1.heap.size, 0, .none⟩) 1 1) :: _) := o1.push (r := rowA ([(L.tramp, 1, 0)] ++ nmF (fr.take 0)) (.slice (some ⟨W1.heap.size, 0, .none⟩) 1 1)) (below1 _ _) (by
   have hb : (W1.alloc (.cells (An (L.tramp, 1, 0)).toArray 88)).heap[W1.heap.size]? = some (.cells (An (L.tramp, 1, 0)).toArray 88 (0, 0)) := by
    show (W1.heap.push _)[W1.heap.size]? = _
    simp
   simpa [rowA, nmF] using bx_own (k := 3) hb rfl (Nat.le_refl _)) (by omega)
  exact ⟨o2.perm (List.Perm.swap _ _ _), hB1.trans ((below1 W1 _).mono (by omega))⟩
 clear k0 hW1 hB1
 rw [hs1] at HO
 clear hs1
 generalize W1.alloc (.cells (An (L.tramp, 1, 0)).toArray 88) = W2 at *
 go_loopw [5, 6] (fun v5 k wr => ∃ (i : Nat), i ≤ ne ∧ k = .int .i64 i ∧ Hid (Owns wr z [bx 31 10 z lc, rowA ([(L.tramp, 1, 0)] ++ nmF (fr.take i)) v5] ∧ Below z w wr)) (fun _ v _ => (ne - intOf v).toNat)
 case atStart => exact ⟨0, by omega, rfl, HO.out⟩
 case round =>
  clear HO
  obtain ⟨i, hi, rfl, HB⟩ := hrel
  have hB := HB.out.2
  have hbase : z ≤ wr.heap.size := by have := HZ0.out; have := hB.size; omega
  by_cases hin : i < ne
  ·have i1 : (i : Int) < ne := by omega
   obtain ⟨-, b, o, x, cs, rfl, hbX, hx, rfl, hcl, hr⟩ := HF.out.at hin
   have q := hr 0 _ rfl
   rw [Nat.mul_one, Nat.add_zero] at q
   have q' := (hB.cell (p := ⟨b, o + i, .none⟩) (by show b < z; omega)).trans q
   have HE : Hid ([((L.tramp, 1, 0) : Nm)] ++ nmF (fr.take (i + 1)) = [((L.tramp, 1, 0) : Nm)] ++ nmF (fr.take i) ++ [(x, 2, 0)]) := by
    show _ = _
    rw [List.take_add_one, hx]
    simp [nmF]
   have hln : ([((L.tramp, 1, 0) : Nm)] ++ nmF (fr.take i)).length ≤ 10000000 := by have := HS.out; simp only [List.length_append, List.length_cons, List.length_nil, nmF, List.length_map, List.length_take]; omega
   clear hr hcl hbX hx q hB
   go_wp2_with (first
    | (refine wpList_is (.buildSlice 82 1 #[(0, .tmp 28)]) rfl ?_; refine wpList_pushG (A := [bx 31 10 z lc]) (B := []) 82 88 3 24 info104 Try.underlying82 (by decide) (by decide) (by decide) HB.out.1 rfl rfl hln hbase (An (x, 2, 0)) rfl (An_one _) 28 29 (.tmp 23) rfl rfl rfl rfl rfl rfl (some 30) rfl rfl rfl ?_; intro v' w5 hO5 hB5)
    | fail)
   refine ⟨⟨i + 1, by omega, by go_num, ?_, HB.out.2.trans hB5⟩, by simp [intOf]; omega⟩
   rw [HE.out, rowA_app _ _ u5]
   exact hO5
  ·have i1 : ¬ (i : Int) < ne := by omega
   obtain rfl : i = ne := by omega
   have HO : Hid (Owns wr z [bx 31 10 z lc, rowA ([(L.tramp, 1, 0)] ++ nmF fr ++ (L.procs.take 0).flatMap nmP) u5] ∧ Below z w wr) := by
    have := HB.out
    rw [List.take_of_length_le (by have := HN.out.2.2; omega)] at this
    show _ ∧ _
    simpa using this
   clear HB hB hbase
   go_wp2
   go_loopw [5, 7] (fun v5 k wr => ∃ (j : Nat), j ≤ np ∧ k = .int .i64 j ∧ Hid (Owns wr z [bx 31 10 z lc, rowA ([(L.tramp, 1, 0)] ++ nmF fr ++ (L.procs.take j).flatMap nmP) v5] ∧ Below z w wr)) (fun _ v _ => (np - intOf v).toNat)
   case atStart => exact ⟨0, by omega, rfl, HO.out⟩
   case round =>
    clear HO
    obtain ⟨j, hj, rfl, HB⟩ := hrel
    have hB := HB.out.2
    have hbase : z ≤ wr.heap.size := by have := HZ0.out; have := hB.size; omega
    have c1 := (HB.out.1.cell (t := 31) (k := 10) (b := z) (cs := lc) (by simp) 1).1
    rw [HL1.out.2.1] at c1
    by_cases hjn : j < np
    ·have i1 : (j : Int) < np := by omega
     obtain ⟨-, b, o, x, cs, rfl, hbX, hx, ⟨nv, gv, rfl, hN, hG⟩, hcl, hr⟩ := H.out.ps.at hjn
     have hr' := range_keep hr hB (by omega : b < z)
     obtain ⟨nvp, nvc, rfl⟩ := hN.form
     obtain ⟨gvp, gvc, rfl⟩ := hG.form
     obtain ⟨nn, hnn⟩ : ∃ n, n = x.nodes.length := ⟨_, rfl⟩
     obtain ⟨ng, hng⟩ : ∃ n, n = x.pages.length := ⟨_, rfl⟩
     rw [← hnn] at hN hr'
     rw [← hng] at hG hr'
     have HP1 : Hid (∀ v ∈ x.l (.slice nvp nn nvc) (.slice gvp ng gvc), v.oneCell' = true) := pcl_one x rfl rfl
     have HFT := flat_take nmP L.procs j x hx
     have HXX : Hid ((L.procs.take (j + 1)).flatMap nmP = (L.procs.take j).flatMap nmP ++ nmP x ∧ ((L.procs.take j).flatMap nmP).length + (nmP x).length ≤ (L.procs.flatMap nmP).length ∧ nn = x.nodes.length ∧ ng = x.pages.length ∧ (nmP x).length = nn + ng + 1) := ⟨HFT.1, HFT.2, hnn, hng, by simp [nmP, nmN, nmG]; omega⟩
     have HNG : Hid (Wd w X (.slice nvp nn nvc) x.nodes ∧ Gs w X (.slice gvp ng gvc) x.pages) := ⟨hN, hG⟩
     have bnn : nn ≤ 1000000 := by have := HS.out; have := HXX.out; omega
     have bng : ng ≤ 1000000 := by have := HS.out; have := HXX.out; omega
     clear hr hcl hbX hx hN hG hnn hng HFT
     go_wp2_with (first
      | (refine wpList_is (.load 60 (.tmp 41)) rfl ?_; refine wpList_loadG 60 70 584 info55 _ Try.underlying60 rfl (x.l (.slice nvp nn nvc) (.slice gvp ng gvc)) rfl b (o + j * 70) (.tmp 41) rfl rfl rfl hr' (some 42) rfl ?_)
      | (refine wpList_is (.alloc 60) rfl ?_; refine wpList_laidG 60 70 584 info55 (x.l (.slice nvp nn nvc) (.slice gvp ng gvc)) rfl HP1.out 8 (.tmp 42) _ _ rfl rfl rfl rfl rfl rfl rfl rfl ?_; intro W1 hW1 hB1 hs1)
      | fail)
     obtain ⟨y, hy⟩ : ∃ y, y = wr.heap.size := ⟨_, rfl⟩
     have HO : Hid (Owns W1 z [bx 60 70 y (x.l (.slice nvp nn nvc) (.slice gvp ng gvc)), bx 31 10 z lc, rowA (([(L.tramp, 1, 0)] ++ nmF fr ++ (L.procs.take j).flatMap nmP) ++ nmN (x.c 0) (x.nodes.take 0)) u5] ∧ Below z w W1) := by
      have o1 := HB.out.1.new (k := 70) hW1 hB1 rfl hbase
      rw [← hy] at o1
      exact ⟨by simpa [nmN] using o1, hB.trans (hB1.mono hbase)⟩
     rw [← hy]
     clear c1 hr' hW1 hB1 hs1 HB hB hbase hy
     go_loopw [5, 9] (fun v5 k9 wr => ∃ (k : Nat), k ≤ nn ∧ k9 = .int .i64 k ∧ Hid (Owns wr z [bx 60 70 y (x.l (.slice nvp nn nvc) (.slice gvp ng gvc)), bx 31 10 z lc, rowA (([(L.tramp, 1, 0)] ++ nmF fr ++ (L.procs.take j).flatMap nmP) ++ nmN (x.c 0) (x.nodes.take k)) v5] ∧ Below z w wr)) (fun _ v _ => (nn - intOf v).toNat)
     case atStart => exact ⟨0, by omega, rfl, HO.out⟩
     case round =>
      clear HO
      obtain ⟨k, hk, rfl, HB⟩ := hrel
      have hB := HB.out.2
      have hbase : z ≤ wr.heap.size := by have := HZ0.out; have := hB.size; omega
      have c1 := (HB.out.1.cell (t := 60) (k := 70) (b := y) (cs := (x.l (.slice nvp nn nvc) (.slice gvp ng gvc))) (by simp) 44).1
      rw [show (x.l (.slice nvp nn nvc) (.slice gvp ng gvc))[44]? = some (.slice nvp nn nvc) from rfl] at c1
      have c2 := (HB.out.1.cell (t := 60) (k := 70) (b := y) (cs := (x.l (.slice nvp nn nvc) (.slice gvp ng gvc))) (by simp) 0).1
      rw [show (x.l (.slice nvp nn nvc) (.slice gvp ng gvc))[0]? = some (.int .i64 (x.c 0)) from rfl] at c2
      by_cases hkn : k < nn
      ·have i1 : (k : Int) < nn := by omega
       obtain ⟨-, nb, no, xv, cs, rfl, hbX, hx, rfl, hcl, hr⟩ := HNG.out.1.at hkn
       have q := hr 0 _ rfl
       rw [Nat.mul_one, Nat.add_zero] at q
       have q' := (hB.cell (p := ⟨nb, no + k, .none⟩) (by show nb < z; omega)).trans q
       have HE : Hid (([(L.tramp, 1, 0)] ++ nmF fr ++ (L.procs.take j).flatMap nmP) ++ nmN (x.c 0) (x.nodes.take (k + 1)) = (([(L.tramp, 1, 0)] ++ nmF fr ++ (L.procs.take j).flatMap nmP) ++ nmN (x.c 0) (x.nodes.take k)) ++ [(xv, 3, x.c 0)]) := by
        show _ = _
        rw [List.take_add_one, hx]
        simp [nmN]
       have hln : ((([(L.tramp, 1, 0)] ++ nmF fr ++ (L.procs.take j).flatMap nmP) ++ nmN (x.c 0) (x.nodes.take k))).length ≤ 10000000 := by have := HS.out; have := HXX.out; have := HN.out; simp only [List.length_append, List.length_cons, List.length_nil, nmF, nmN, nmG, List.length_map, List.length_take]; omega
       have hS : (fun w' : World => w'.cell? ⟨y, 44, .none⟩ = some (.slice (some ⟨nb, no, .none⟩) nn nvc) ∧ w'.cell? ⟨nb, no + k, .none⟩ = some (.int .u64 xv) ∧ w'.cell? ⟨y, 0, .none⟩ = some (.int .i64 (x.c 0))) wr.drew := ⟨c1, q', c2⟩
       have HOd : Hid (Owns wr.drew z ([bx 60 70 y (x.l (.slice (some ⟨nb, no, .none⟩) nn nvc) (.slice gvp ng gvc)), bx 31 10 z lc] ++ [rowA (([(L.tramp, 1, 0)] ++ nmF fr ++ (L.procs.take j).flatMap nmP) ++ nmN (x.c 0) (x.nodes.take k)) u5]) ∧ Below z w wr.drew ∧ z ≤ wr.drew.heap.size) := ⟨HB.out.1.keep (Below.refl _ _).drew, hB.drew, hbase⟩
       clear hr hcl hbX hx q hB HB hbase
       go_upto_region 13 with fail
       clear c1 c2 q'
       refine region_set (fun w' => w'.cell? ⟨y, 44, .none⟩ = some (.slice (some ⟨nb, no, .none⟩) nn nvc) ∧ w'.cell? ⟨nb, no + k, .none⟩ = some (.int .u64 xv) ∧ w'.cell? ⟨y, 0, .none⟩ = some (.int .i64 (x.c 0))) 9 [0] (by kernel_rfl) ?_
       refine set_pure (i := 0) (v := u5) rfl (by kernel_rfl) (by kernel_rfl) (by kernel_rfl) (by kernel_rfl) (fun _ _ _ h => h) (Or.inl ⟨by rfl, fun ww hSw => by go_simp⟩) ?_
       simp only [x0,x1,x2,x3,x4,x5,x6]
       refine sT 1 (.pointer (some ⟨y, 44, .none⟩)) rfl (fun ww hSw => by obtain ⟨hs1, hs2, hs3⟩ := hSw; go_simp) hS ?_
       simp only [x0,x1,x2,x3,x4,x5,x6]
       refine sT 2 (.slice (some ⟨nb, no, .none⟩) nn nvc) rfl (fun ww hSw => by obtain ⟨hs1, hs2, hs3⟩ := hSw; go_simp) hS ?_
       simp only [x0,x1,x2,x3,x4,x5,x6]
       refine sT 3 (.int .i64 k) rfl (fun ww hSw => by obtain ⟨hs1, hs2, hs3⟩ := hSw; go_simp) hS ?_
       simp only [x0,x1,x2,x3,x4,x5,x6]
       refine sT 4 (.pointer (some ⟨nb, no + k, .none⟩)) rfl (fun ww hSw => by obtain ⟨hs1, hs2, hs3⟩ := hSw; go_simp) hS ?_
       simp only [x0,x1,x2,x3,x4,x5,x6]
       refine sT 5 (.int .u64 xv) rfl (fun ww hSw => by obtain ⟨hs1, hs2, hs3⟩ := hSw; go_simp) hS ?_
       simp only [x0,x1,x2,x3,x4,x5,x6]
       refine sT 6 (.pointer (some ⟨y, 0, .none⟩)) rfl (fun ww hSw => by obtain ⟨hs1, hs2, hs3⟩ := hSw; go_simp) hS ?_
       simp only [x0,x1,x2,x3,x4,x5,x6]
       refine sT 7 (.int .i64 (x.c 0)) rfl (fun ww hSw => by obtain ⟨hs1, hs2, hs3⟩ := hSw; go_simp) hS ?_
       simp only [x0,x1,x2,x3,x4,x5,x6]
       refine sT 8 (.agg #[.int .u64 xv, .int .i64 3, .int .i64 (x.c 0)]) rfl (fun ww hSw => by obtain ⟨hs1, hs2, hs3⟩ := hSw; go_simp) hS ?_
       simp only [x0,x1,x2,x3,x4,x5,x6]
       refine set_tail 3 9 _ _ _ _ (by kernel_rfl) (by decide) ?_
       simp only [List.toList_toArray, List.drop_succ_cons, List.drop_zero]
       clear hS
       generalize wr.drew = WD at *
       go_wp2_with (first
        | (refine wpList_is (.buildSlice 82 1 #[(0, .tmp 58)]) rfl ?_; refine wpList_pushG (A := [bx 60 70 y (x.l (.slice (some ⟨nb, no, .none⟩) nn nvc) (.slice gvp ng gvc)), bx 31 10 z lc]) (r := rowA (([(L.tramp, 1, 0)] ++ nmF fr ++ (L.procs.take j).flatMap nmP) ++ nmN (x.c 0) (x.nodes.take k)) u5) (B := []) 82 88 3 24 info104 Try.underlying82 (by decide) (by decide) (by decide) HOd.out.1 rfl rfl hln HOd.out.2.2 (An (xv, 3, x.c 0)) rfl (An_one _) 58 59 (.tmp 50) rfl rfl rfl rfl rfl rfl (some 60) rfl rfl rfl ?_; intro v' w5 hO5 hB5)
        | fail)
       refine ⟨⟨k + 1, by omega, by go_num, ?_, HOd.out.2.1.trans hB5⟩, by simp [intOf]; omega⟩
       rw [HE.out, rowA_app _ _ u5]
       exact hO5
      ·have i1 : ¬ (k : Int) < nn := by omega
       obtain rfl : k = nn := by omega
       have HO : Hid (Owns wr z [bx 60 70 y (x.l (.slice nvp k nvc) (.slice gvp ng gvc)), bx 31 10 z lc, rowA (([(L.tramp, 1, 0)] ++ nmF fr ++ (L.procs.take j).flatMap nmP) ++ nmN (x.c 0) x.nodes ++ nmG (x.c 0) (x.pages.take 0)) u5] ∧ Below z w wr) := by
        have := HB.out
        rw [show x.nodes.take k = x.nodes from List.take_of_length_le (by have := HXX.out; omega)] at this
        show _ ∧ _
        simpa [nmG] using this
       clear HB hB hbase c2
       go_wp2
       clear c1
       go_loopw [5, 10] (fun v5 k9 wr => ∃ (m : Nat), m ≤ ng ∧ k9 = .int .i64 m ∧ Hid (Owns wr z [bx 60 70 y (x.l (.slice nvp k nvc) (.slice gvp ng gvc)), bx 31 10 z lc, rowA (([(L.tramp, 1, 0)] ++ nmF fr ++ (L.procs.take j).flatMap nmP) ++ nmN (x.c 0) x.nodes ++ nmG (x.c 0) (x.pages.take m)) v5] ∧ Below z w wr)) (fun _ v _ => (ng - intOf v).toNat)
       case atStart => exact ⟨0, by omega, rfl, HO.out⟩
       case round =>
        clear HO
        obtain ⟨m, hm, rfl, HB⟩ := hrel
        have hB := HB.out.2
        have hbase : z ≤ wr.heap.size := by have := HZ0.out; have := hB.size; omega
        have c1 := (HB.out.1.cell (t := 60) (k := 70) (b := y) (cs := (x.l (.slice nvp k nvc) (.slice gvp ng gvc))) (by simp) 45).1
        rw [show (x.l (.slice nvp k nvc) (.slice gvp ng gvc))[45]? = some (.slice gvp ng gvc) from rfl] at c1
        have c2 := (HB.out.1.cell (t := 60) (k := 70) (b := y) (cs := (x.l (.slice nvp k nvc) (.slice gvp ng gvc))) (by simp) 0).1
        rw [show (x.l (.slice nvp k nvc) (.slice gvp ng gvc))[0]? = some (.int .i64 (x.c 0)) from rfl] at c2
        by_cases hmn : m < ng
        ·have i1 : (m : Int) < ng := by omega
         obtain ⟨-, nb, no, xg, cs, rfl, hbX, hx, rfl, hcl, hr⟩ := HNG.out.2.at hmn
         have q := hr 1 _ rfl
         have q' := (hB.cell (p := ⟨nb, no + m * 3 + 1, .none⟩) (by show nb < z; omega)).trans q
         have HE : Hid ((([(L.tramp, 1, 0)] ++ nmF fr ++ (L.procs.take j).flatMap nmP) ++ nmN (x.c 0) x.nodes ++ nmG (x.c 0) (x.pages.take (m + 1))) = (([(L.tramp, 1, 0)] ++ nmF fr ++ (L.procs.take j).flatMap nmP) ++ nmN (x.c 0) x.nodes ++ nmG (x.c 0) (x.pages.take m)) ++ [(xg.fr, 4, x.c 0)]) := by
          show _ = _
          rw [List.take_add_one, hx]
          simp [nmG]
         have hln : ((([(L.tramp, 1, 0)] ++ nmF fr ++ (L.procs.take j).flatMap nmP) ++ nmN (x.c 0) x.nodes ++ nmG (x.c 0) (x.pages.take m))).length ≤ 10000000 := by have := HS.out; have := HXX.out; have := HN.out; simp only [List.length_append, List.length_cons, List.length_nil, nmF, nmN, nmG, List.length_map, List.length_take]; omega
         have hS : (fun w' : World => w'.cell? ⟨y, 45, .none⟩ = some (.slice (some ⟨nb, no, .none⟩) ng gvc) ∧ w'.cell? ⟨nb, no + m * 3 + 1, .none⟩ = some (.int .u64 xg.fr) ∧ w'.cell? ⟨y, 0, .none⟩ = some (.int .i64 (x.c 0))) wr.drew := ⟨c1, q', c2⟩
         have HOd : Hid (Owns wr.drew z ([bx 60 70 y (x.l (.slice nvp k nvc) (.slice (some ⟨nb, no, .none⟩) ng gvc)), bx 31 10 z lc] ++ [rowA (([(L.tramp, 1, 0)] ++ nmF fr ++ (L.procs.take j).flatMap nmP) ++ nmN (x.c 0) x.nodes ++ nmG (x.c 0) (x.pages.take m)) u5]) ∧ Below z w wr.drew ∧ z ≤ wr.drew.heap.size) := ⟨HB.out.1.keep (Below.refl _ _).drew, hB.drew, hbase⟩
         clear hr hcl hbX hx q hB HB hbase
         go_upto_region 17 with fail
         clear c1 c2 q'
         refine region_set (fun w' => w'.cell? ⟨y, 45, .none⟩ = some (.slice (some ⟨nb, no, .none⟩) ng gvc) ∧ w'.cell? ⟨nb, no + m * 3 + 1, .none⟩ = some (.int .u64 xg.fr) ∧ w'.cell? ⟨y, 0, .none⟩ = some (.int .i64 (x.c 0))) 10 [0] (by kernel_rfl) ?_
         refine set_pure (i := 0) (v := u5) rfl (by kernel_rfl) (by kernel_rfl) (by kernel_rfl) (by kernel_rfl) (fun _ _ _ h => h) (Or.inl ⟨by rfl, fun ww hSw => by go_simp⟩) ?_
         simp only [x0,x1,x2,x3,x4,x5,x6]
         refine sT 1 (.pointer (some ⟨y, 45, .none⟩)) rfl (fun ww hSw => by obtain ⟨hs1, hs2, hs3⟩ := hSw; go_simp) hS ?_
         simp only [x0,x1,x2,x3,x4,x5,x6]
         refine sT 2 (.slice (some ⟨nb, no, .none⟩) ng gvc) rfl (fun ww hSw => by obtain ⟨hs1, hs2, hs3⟩ := hSw; go_simp) hS ?_
         simp only [x0,x1,x2,x3,x4,x5,x6]
         refine sT 3 (.int .i64 m) rfl (fun ww hSw => by obtain ⟨hs1, hs2, hs3⟩ := hSw; go_simp) hS ?_
         simp only [x0,x1,x2,x3,x4,x5,x6]
         refine sT 4 (.pointer (some ⟨nb, no + m * 3, .none⟩)) rfl (fun ww hSw => by obtain ⟨hs1, hs2, hs3⟩ := hSw; go_simp) hS ?_
         simp only [x0,x1,x2,x3,x4,x5,x6]
         refine sT 5 (.pointer (some ⟨nb, no + m * 3 + 1, .none⟩)) rfl (fun ww hSw => by obtain ⟨hs1, hs2, hs3⟩ := hSw; go_simp) hS ?_
         simp only [x0,x1,x2,x3,x4,x5,x6]
         refine sT 6 (.int .u64 xg.fr) rfl (fun ww hSw => by obtain ⟨hs1, hs2, hs3⟩ := hSw; go_simp) hS ?_
         simp only [x0,x1,x2,x3,x4,x5,x6]
         refine sT 7 (.pointer (some ⟨y, 0, .none⟩)) rfl (fun ww hSw => by obtain ⟨hs1, hs2, hs3⟩ := hSw; go_simp) hS ?_
         simp only [x0,x1,x2,x3,x4,x5,x6]
         refine sT 8 (.int .i64 (x.c 0)) rfl (fun ww hSw => by obtain ⟨hs1, hs2, hs3⟩ := hSw; go_simp) hS ?_
         simp only [x0,x1,x2,x3,x4,x5,x6]
         refine sT 9 (.agg #[.int .u64 xg.fr, .int .i64 4, .int .i64 (x.c 0)]) rfl (fun ww hSw => by obtain ⟨hs1, hs2, hs3⟩ := hSw; go_simp) hS ?_
         simp only [x0,x1,x2,x3,x4,x5,x6]
         refine set_tail 3 10 _ _ _ _ (by kernel_rfl) (by decide) ?_
         simp only [List.toList_toArray, List.drop_succ_cons, List.drop_zero]
         clear hS
         generalize wr.drew = WD at *
         go_wp2_with (first
          | (refine wpList_is (.buildSlice 82 1 #[(0, .tmp 77)]) rfl ?_; refine wpList_pushG (A := [bx 60 70 y (x.l (.slice nvp k nvc) (.slice (some ⟨nb, no, .none⟩) ng gvc)), bx 31 10 z lc]) (r := rowA (([(L.tramp, 1, 0)] ++ nmF fr ++ (L.procs.take j).flatMap nmP) ++ nmN (x.c 0) x.nodes ++ nmG (x.c 0) (x.pages.take m)) u5) (B := []) 82 88 3 24 info104 Try.underlying82 (by decide) (by decide) (by decide) HOd.out.1 rfl rfl hln HOd.out.2.2 (An (xg.fr, 4, x.c 0)) rfl (An_one _) 77 78 (.tmp 68) rfl rfl rfl rfl rfl rfl (some 79) rfl rfl rfl ?_; intro v' w5 hO5 hB5)
          | fail)
         refine ⟨⟨m + 1, by omega, by go_num, ?_, HOd.out.2.1.trans hB5⟩, by simp [intOf]; omega⟩
         rw [HE.out, rowA_app _ _ u5]
         exact hO5
        ·have i1 : ¬ (m : Int) < ng := by omega
         obtain rfl : m = ng := by omega
         have HO : Hid (Owns wr z ([bx 60 70 y (x.l (.slice nvp k nvc) (.slice gvp m gvc)), bx 31 10 z lc] ++ [rowA (([(L.tramp, 1, 0)] ++ nmF fr ++ (L.procs.take j).flatMap nmP) ++ nmN (x.c 0) x.nodes ++ nmG (x.c 0) x.pages) u5]) ∧ Below z w wr ∧ z ≤ wr.heap.size) := by
          have := HB.out
          rw [show x.pages.take m = x.pages from List.take_of_length_le (by have := HXX.out; omega)] at this
          exact ⟨this.1, this.2, hbase⟩
         have c3 := (HB.out.1.cell (t := 60) (k := 70) (b := y) (cs := x.l (.slice nvp k nvc) (.slice gvp m gvc)) (by simp) 42).1
         rw [show (x.l (.slice nvp k nvc) (.slice gvp m gvc))[42]? = some (.int .u64 (x.c 42)) from rfl] at c3
         have hln : (([(L.tramp, 1, 0)] ++ nmF fr ++ (L.procs.take j).flatMap nmP) ++ nmN (x.c 0) x.nodes ++ nmG (x.c 0) x.pages).length ≤ 10000000 := by have := HS.out; have := HXX.out; have := HN.out; simp only [List.length_append, List.length_cons, List.length_nil, nmF, nmN, nmG, List.length_map]; omega
         clear HB hB hbase
         go_wp2_with (first
          | (refine wpList_is (.buildSlice 82 1 #[(0, .tmp 85)]) rfl ?_; refine wpList_pushG (A := [bx 60 70 y (x.l (.slice nvp k nvc) (.slice gvp m gvc)), bx 31 10 z lc]) (r := rowA (([(L.tramp, 1, 0)] ++ nmF fr ++ (L.procs.take j).flatMap nmP) ++ nmN (x.c 0) x.nodes ++ nmG (x.c 0) x.pages) u5) (B := []) 82 88 3 24 info104 Try.underlying82 (by decide) (by decide) (by decide) HO.out.1 rfl rfl hln HO.out.2.2 (An (x.c 42, 5, x.c 0)) rfl (An_one _) 85 86 (.tmp 80) rfl rfl rfl rfl rfl rfl (some 87) rfl rfl rfl ?_; intro v' w5 hO5 hB5)
          | fail)
         refine ⟨⟨j + 1, by omega, by go_num, ?_, HO.out.2.1.trans hB5⟩, by simp [intOf]; omega⟩
         have e1 : ([(L.tramp, 1, 0)] ++ nmF fr ++ (L.procs.take (j + 1)).flatMap nmP) = (([(L.tramp, 1, 0)] ++ nmF fr ++ (L.procs.take j).flatMap nmP) ++ nmN (x.c 0) x.nodes ++ nmG (x.c 0) x.pages) ++ [(x.c 42, 5, x.c 0)] := by
          rw [HXX.out.1]
          simp [nmP]
         rw [e1, rowA_app _ _ u5]
         exact hO5.sub (.cons _ (.refl _))
    ·have i1 : ¬ (j : Int) < np := by omega
     obtain rfl : j = np := by omega
     have HO : Hid (Owns wr z [bx 31 10 z lc, rowA ([(L.tramp, 1, 0)] ++ nmF fr ++ L.procs.flatMap nmP ++ (L.inos.take 0).flatMap nmI) u5] ∧ Below z w wr) := by
      have := HB.out
      rw [show L.procs.take j = L.procs from List.take_of_length_le (by have := HN.out.1; omega)] at this
      show _ ∧ _
      simpa using this
     clear HB hB hbase
     go_wp2
     clear c1
     go_loopw [5, 11] (fun v5 k wr => ∃ (t : Nat), t ≤ ni ∧ k = .int .i64 t ∧ Hid (Owns wr z [bx 31 10 z lc, rowA ([(L.tramp, 1, 0)] ++ nmF fr ++ L.procs.flatMap nmP ++ (L.inos.take t).flatMap nmI) v5] ∧ Below z w wr)) (fun _ v _ => (ni - intOf v).toNat)
     case atStart => exact ⟨0, by omega, rfl, HO.out⟩
     case round =>
      clear HO
      obtain ⟨t, ht, rfl, HB⟩ := hrel
      have hB := HB.out.2
      have c1 := (HB.out.1.cell (t := 31) (k := 10) (b := z) (cs := lc) (by simp) 3).1
      rw [HL1.out.2.2.1] at c1
      by_cases htn : t < ni
      ·have i1 : (t : Int) < ni := by omega
       obtain ⟨-, b, o, x, cs, rfl, hbX, hx, ⟨bv, rfl, hN⟩, hcl, hr⟩ := H.out.is.at htn
       obtain ⟨bvp, bvc, rfl⟩ := hN.form
       obtain ⟨nb0, hnb0⟩ : ∃ n, n = x.bl.length := ⟨_, rfl⟩
       rw [← hnb0] at hN hr
       have HFT := flat_take nmI L.inos t x hx
       have HXX : Hid ((L.inos.take (t + 1)).flatMap nmI = (L.inos.take t).flatMap nmI ++ nmI x ∧ ((L.inos.take t).flatMap nmI).length + (nmI x).length ≤ (L.inos.flatMap nmI).length ∧ nb0 = x.bl.length ∧ (nmI x).length = nb0) := ⟨HFT.1, HFT.2, hnb0, by simp [nmI, nmB]; omega⟩
       have HBV : Hid (Wd w X (.slice bvp nb0 bvc) x.bl) := hN
       have HR : Hid (w.rangeAt b (o + t * 8) (x.l (.slice bvp nb0 bvc)) ∧ b < z) := ⟨hr, by omega⟩
       have bnb : nb0 ≤ 1000000 := by have := HS.out; have := HXX.out; omega
       have HO : Hid (Owns wr z [bx 31 10 z lc, rowA ([(L.tramp, 1, 0)] ++ nmF fr ++ L.procs.flatMap nmP ++ (L.inos.take t).flatMap nmI ++ nmB x.ino (x.bl.take 0)) u5] ∧ Below z w wr) := by
        have := HB.out
        show _ ∧ _
        simpa [nmB] using this
       clear hr hcl hbX hx hN hnb0 HFT HB hB
       go_wp2
       clear c1
       go_loopw [5, 12] (fun v5 k9 wr => ∃ (k : Nat), k ≤ nb0 ∧ k9 = .int .i64 k ∧ Hid (Owns wr z [bx 31 10 z lc, rowA ([(L.tramp, 1, 0)] ++ nmF fr ++ L.procs.flatMap nmP ++ (L.inos.take t).flatMap nmI ++ nmB x.ino (x.bl.take k)) v5] ∧ Below z w wr)) (fun _ v _ => (nb0 - intOf v).toNat)
       case atStart => exact ⟨0, by omega, rfl, HO.out⟩
       case round =>
        clear HO
        obtain ⟨k, hk, rfl, HB⟩ := hrel
        have hB := HB.out.2
        have hbase : z ≤ wr.heap.size := by have := HZ0.out; have := hB.size; omega
        have c1 := (HB.out.1.cell (t := 31) (k := 10) (b := z) (cs := lc) (by simp) 3).1
        rw [HL1.out.2.2.1] at c1
        have c2 := range_keep HR.out.1 hB HR.out.2 7 _ rfl
        have c3 := range_keep HR.out.1 hB HR.out.2 0 _ rfl
        rw [Nat.add_zero] at c3
        by_cases hkn : k < nb0
        ·have i1 : (k : Int) < nb0 := by omega
         obtain ⟨-, nb, no, xv, cs, rfl, hbX, hx, rfl, hcl, hr⟩ := HBV.out.at hkn
         have q := hr 0 _ rfl
         rw [Nat.mul_one, Nat.add_zero] at q
         have q' := (hB.cell (p := ⟨nb, no + k, .none⟩) (by show nb < z; omega)).trans q
         have HE : Hid (([(L.tramp, 1, 0)] ++ nmF fr ++ L.procs.flatMap nmP ++ (L.inos.take t).flatMap nmI ++ nmB x.ino (x.bl.take (k + 1))) = ([(L.tramp, 1, 0)] ++ nmF fr ++ L.procs.flatMap nmP ++ (L.inos.take t).flatMap nmI ++ nmB x.ino (x.bl.take k)) ++ [(xv, 6, x.ino)]) := by
          show _ = _
          rw [List.take_add_one, hx]
          simp [nmB]
         have hln : (([(L.tramp, 1, 0)] ++ nmF fr ++ L.procs.flatMap nmP ++ (L.inos.take t).flatMap nmI ++ nmB x.ino (x.bl.take k))).length ≤ 10000000 := by have := HS.out; have := HXX.out; have := HN.out; simp only [List.length_append, List.length_cons, List.length_nil, nmF, nmB, List.length_map, List.length_take]; omega
         have hS : (fun w' : World => w'.cell? ⟨z, 3, .none⟩ = some (.slice (some ⟨b, o, .none⟩) ni ic) ∧ w'.cell? ⟨b, o + t * 8 + 7, .none⟩ = some (.slice (some ⟨nb, no, .none⟩) nb0 bvc) ∧ w'.cell? ⟨nb, no + k, .none⟩ = some (.int .u64 xv) ∧ w'.cell? ⟨b, o + t * 8, .none⟩ = some (.int .i64 x.ino)) wr.drew := ⟨c1, c2, q', c3⟩
         have HOd : Hid (Owns wr.drew z ([bx 31 10 z lc] ++ [rowA ([(L.tramp, 1, 0)] ++ nmF fr ++ L.procs.flatMap nmP ++ (L.inos.take t).flatMap nmI ++ nmB x.ino (x.bl.take k)) u5]) ∧ Below z w wr.drew ∧ z ≤ wr.drew.heap.size) := ⟨HB.out.1.keep (Below.refl _ _).drew, hB.drew, hbase⟩
         clear hr hcl hbX hx q hB HB hbase
         go_upto_region 25 with fail
         clear c1 c2 c3 q'
         refine region_set (fun w' => w'.cell? ⟨z, 3, .none⟩ = some (.slice (some ⟨b, o, .none⟩) ni ic) ∧ w'.cell? ⟨b, o + t * 8 + 7, .none⟩ = some (.slice (some ⟨nb, no, .none⟩) nb0 bvc) ∧ w'.cell? ⟨nb, no + k, .none⟩ = some (.int .u64 xv) ∧ w'.cell? ⟨b, o + t * 8, .none⟩ = some (.int .i64 x.ino)) 17 [0] (by kernel_rfl) ?_
         refine set_pure (i := 0) (v := u5) rfl (by kernel_rfl) (by kernel_rfl) (by kernel_rfl) (by kernel_rfl) (fun _ _ _ h => h) (Or.inl ⟨by rfl, fun ww hSw => by go_simp⟩) ?_
         simp only [x0,x1,x2,x3,x4,x5,x6]
         refine sT 1 (.pointer (some ⟨z, 3, .none⟩)) rfl (fun ww hSw => by obtain ⟨hs1, hs2, hs3, hs4⟩ := hSw; go_simp) hS ?_
         simp only [x0,x1,x2,x3,x4,x5,x6]
         refine sT 2 (.slice (some ⟨b, o, .none⟩) ni ic) rfl (fun ww hSw => by obtain ⟨hs1, hs2, hs3, hs4⟩ := hSw; go_simp) hS ?_
         simp only [x0,x1,x2,x3,x4,x5,x6]
         refine sT 3 (.int .i64 t) rfl (fun ww hSw => by obtain ⟨hs1, hs2, hs3, hs4⟩ := hSw; go_simp) hS ?_
         simp only [x0,x1,x2,x3,x4,x5,x6]
         refine sT 4 (.pointer (some ⟨b, o + t * 8, .none⟩)) rfl (fun ww hSw => by obtain ⟨hs1, hs2, hs3, hs4⟩ := hSw; go_simp) hS ?_
         simp only [x0,x1,x2,x3,x4,x5,x6]
         refine sT 5 (.pointer (some ⟨b, o + t * 8 + 7, .none⟩)) rfl (fun ww hSw => by obtain ⟨hs1, hs2, hs3, hs4⟩ := hSw; go_simp) hS ?_
         simp only [x0,x1,x2,x3,x4,x5,x6]
         refine sT 6 (.slice (some ⟨nb, no, .none⟩) nb0 bvc) rfl (fun ww hSw => by obtain ⟨hs1, hs2, hs3, hs4⟩ := hSw; go_simp) hS ?_
         simp only [x0,x1,x2,x3,x4,x5,x6]
         refine sT 7 (.int .i64 k) rfl (fun ww hSw => by obtain ⟨hs1, hs2, hs3, hs4⟩ := hSw; go_simp) hS ?_
         simp only [x0,x1,x2,x3,x4,x5,x6]
         refine sT 8 (.pointer (some ⟨nb, no + k, .none⟩)) rfl (fun ww hSw => by obtain ⟨hs1, hs2, hs3, hs4⟩ := hSw; go_simp) hS ?_
         simp only [x0,x1,x2,x3,x4,x5,x6]
         refine sT 9 (.int .u64 xv) rfl (fun ww hSw => by obtain ⟨hs1, hs2, hs3, hs4⟩ := hSw; go_simp) hS ?_
         simp only [x0,x1,x2,x3,x4,x5,x6]
         refine sT 10 (.pointer (some ⟨z, 3, .none⟩)) rfl (fun ww hSw => by obtain ⟨hs1, hs2, hs3, hs4⟩ := hSw; go_simp) hS ?_
         simp only [x0,x1,x2,x3,x4,x5,x6]
         refine sT 11 (.slice (some ⟨b, o, .none⟩) ni ic) rfl (fun ww hSw => by obtain ⟨hs1, hs2, hs3, hs4⟩ := hSw; go_simp) hS ?_
         simp only [x0,x1,x2,x3,x4,x5,x6]
         refine sT 12 (.int .i64 t) rfl (fun ww hSw => by obtain ⟨hs1, hs2, hs3, hs4⟩ := hSw; go_simp) hS ?_
         simp only [x0,x1,x2,x3,x4,x5,x6]
         refine sT 13 (.pointer (some ⟨b, o + t * 8, .none⟩)) rfl (fun ww hSw => by obtain ⟨hs1, hs2, hs3, hs4⟩ := hSw; go_simp) hS ?_
         simp only [x0,x1,x2,x3,x4,x5,x6]
         refine sT 14 (.pointer (some ⟨b, o + t * 8, .none⟩)) rfl (fun ww hSw => by obtain ⟨hs1, hs2, hs3, hs4⟩ := hSw; go_simp) hS ?_
         simp only [x0,x1,x2,x3,x4,x5,x6]
         refine sT 15 (.int .i64 x.ino) rfl (fun ww hSw => by obtain ⟨hs1, hs2, hs3, hs4⟩ := hSw; go_simp) hS ?_
         simp only [x0,x1,x2,x3,x4,x5,x6]
         refine sT 16 (.agg #[.int .u64 xv, .int .i64 6, .int .i64 x.ino]) rfl (fun ww hSw => by obtain ⟨hs1, hs2, hs3, hs4⟩ := hSw; go_simp) hS ?_
         simp only [x0,x1,x2,x3,x4,x5,x6]
         refine set_tail 3 17 _ _ _ _ (by kernel_rfl) (by decide) ?_
         simp only [List.toList_toArray, List.drop_succ_cons, List.drop_zero]
         clear hS
         generalize wr.drew = WD at *
         go_wp2_with (first
          | (refine wpList_is (.buildSlice 82 1 #[(0, .tmp 122)]) rfl ?_; refine wpList_pushG (A := [bx 31 10 z lc]) (r := rowA ([(L.tramp, 1, 0)] ++ nmF fr ++ L.procs.flatMap nmP ++ (L.inos.take t).flatMap nmI ++ nmB x.ino (x.bl.take k)) u5) (B := []) 82 88 3 24 info104 Try.underlying82 (by decide) (by decide) (by decide) HOd.out.1 rfl rfl hln HOd.out.2.2 (An (xv, 6, x.ino)) rfl (An_one _) 122 123 (.tmp 106) rfl rfl rfl rfl rfl rfl (some 124) rfl rfl rfl ?_; intro v' w5 hO5 hB5)
          | fail)
         refine ⟨⟨k + 1, by omega, by go_num, ?_, HOd.out.2.1.trans hB5⟩, by simp [intOf]; omega⟩
         rw [HE.out, rowA_app _ _ u5]
         exact hO5
        ·have i1 : ¬ (k : Int) < nb0 := by omega
         obtain rfl : k = nb0 := by omega
         have HO : Hid (Owns wr z [bx 31 10 z lc, rowA ([(L.tramp, 1, 0)] ++ nmF fr ++ L.procs.flatMap nmP ++ (L.inos.take (t + 1)).flatMap nmI) u5] ∧ Below z w wr) := by
          have := HB.out
          rw [show x.bl.take k = x.bl from List.take_of_length_le (by have := HXX.out; omega)] at this
          show _ ∧ _
          rw [HXX.out.1, ← List.append_assoc]
          exact this
         clear HB hB hbase c3
         go_wp2
         exact ⟨⟨t + 1, by omega, by go_num, HO.out⟩, by simp [intOf]; omega⟩
      ·have i1 : ¬ (t : Int) < ni := by omega
       obtain rfl : t = ni := by omega
       have HO : Hid (Owns wr z [bx 31 10 z lc, rowA (allL L fr) u5] ∧ Below z w wr) := by
        have := HB.out
        rw [show L.inos.take t = L.inos from List.take_of_length_le (by have := HN.out.2.1; omega)] at this
        exact this
       clear HB hB
       go_wp2
       go_ret
       exact ⟨_, rfl, HO.out.1.own (rowA (allL L fr) u5) (by simp), HO.out.2⟩
end Go.Proofs.Ythopgmmodldljab
