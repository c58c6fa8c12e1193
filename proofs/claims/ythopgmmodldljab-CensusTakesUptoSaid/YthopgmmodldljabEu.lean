import Derived.Test.YthopgmmodldljabEt
namespace Go.Proofs.Ythopgmmodldljab
open Go Go.RowKit
set_option linter.unusedVariables false
set_option linter.unusedSimpArgs false
/-! The first thing that is wrong. -/
def wrAll (N : Nat) (L : Lk) (fr : List Int) (pf nf : Th → Option Int) : List (List (Int × Int)) := [
 (allL L fr).zipIdx.map fun x => unW (decide (isF N x.1.1)) 2 x.2,
 (frL N (allL L fr)).zipIdx.map fun x => wfW x.1.2.2 x.2,
 [unW (L.free == (fr.length : Int)) 5 0],
 L.procs.zipIdx.map fun x => unW (okP L pf x.2 x.1) 10 (x.1.c 0),
 L.procs.map fun x => unW (okG x) 11 (x.c 0),
 L.procs.map fun x => unW (okD pf x) 6 (x.c 0),
 L.files.zipIdx.map fun x => unW (okF L pf nf x.2 x.1) 7 x.1.num,
 L.inos.zipIdx.map fun x => unW (okI L nf x.2 x.1) 8 x.1.ino,
 L.pipes.zipIdx.map fun x => unW (okQ L nf x.2 x.1) 9 x.1.num]
def firstB (l : List (Int × Int)) : Int × Int := (l.find? fun r => r != (0, 0)).getD (0, 0)
theorem firstB_zero {ls : List (List (Int × Int))} (h : ∀ (k : Nat) l, ls[k]? = some l → ∀ (i : Nat) r, l[i]? = some r → r = (0, 0)) : firstB ls.flatten = (0, 0) := by
 unfold firstB
 rw [List.find?_eq_none.2, Option.getD_none]
 intro r hr
 obtain ⟨l, hl, hr⟩ := List.mem_flatten.1 hr
 obtain ⟨k, hk⟩ := List.getElem?_of_mem hl
 obtain ⟨i, hi⟩ := List.getElem?_of_mem hr
 simp [h k l hk i r hi]
theorem find_split {α : Type} (p : α → Bool) {a b : List α} {x : α} (ha : ∀ y ∈ a, p y = false) (hx : p x = true) : (a ++ x :: b).find? p = some x := by
 induction a with
 | nil => simp [hx]
 | cons y a ih =>
  rw [List.cons_append, List.find?_cons, ha y (by simp)]
  exact ih (fun z hz => ha z (by simp [hz]))
theorem firstB_hit {ls : List (List (Int × Int))} {k i : Nat} {l : List (Int × Int)} {r : Int × Int} (hk : ls[k]? = some l) (hi : l[i]? = some r) (hr : r ≠ (0, 0)) (h0 : ∀ (k' : Nat), k' < k → ∀ l', ls[k']? = some l' → ∀ (j : Nat) q, l'[j]? = some q → q = (0, 0)) (h1 : ∀ (j : Nat), j < i → ∀ q, l[j]? = some q → q = (0, 0)) : firstB ls.flatten = r := by
 obtain ⟨hkl, hke⟩ := List.getElem?_eq_some_iff.1 hk
 obtain ⟨hil, hie⟩ := List.getElem?_eq_some_iff.1 hi
 have e1 : ls = ls.take k ++ l :: ls.drop (k + 1) := by
  rw [← hke, ← List.drop_eq_getElem_cons hkl, List.take_append_drop]
 have e2 : l = l.take i ++ r :: l.drop (i + 1) := by
  rw [← hie, ← List.drop_eq_getElem_cons hil, List.take_append_drop]
 unfold firstB
 have e3 : ls.flatten = ((ls.take k).flatten ++ l.take i) ++ r :: (l.drop (i + 1) ++ (ls.drop (k + 1)).flatten) := by
  conv => lhs; rw [e1]
  rw [List.flatten_append, List.flatten_cons]
  conv => lhs; rw [e2]
  simp
 rw [e3, find_split, Option.getD_some]
 ·intro y hy
  rcases List.mem_append.1 hy with hy | hy
  ·obtain ⟨l', hl', hy⟩ := List.mem_flatten.1 hy
   obtain ⟨k', hk'⟩ := List.getElem?_of_mem hl'
   obtain ⟨j, hj⟩ := List.getElem?_of_mem hy
   rw [List.getElem?_take] at hk'
   split at hk'
   ·rename_i hlt
    simp [h0 k' hlt l' hk' j y hj]
   ·cases hk'
  ·obtain ⟨j, hj⟩ := List.getElem?_of_mem hy
   rw [List.getElem?_take] at hj
   split at hj
   ·rename_i hlt
    simp [h1 j hlt y hj]
   ·cases hj
 ·simp [hr]
def Enters (f : Nat) : Prop := ∀ (args : Array Value) (w : World), (callFunc f args).run Try.prog w = .ok (.enter f args) w
def TbOK (w : World) (tbl : List Ce) (res : List (List (Int × Int))) : Prop := ∀ (k : Nat) c l, tbl[k]? = some c → res[k]? = some l → c.1 = l.length ∧ Enters c.2.1 ∧ ∀ (i : Nat) r, l[i]? = some r → ∀ V, Below w.heap.size w V → Calls Try.prog c.2.1 (c.2.2.1 ++ .int .i64 i :: c.2.2.2).toArray V (WrP V r)
theorem zip_at {α β : Type} {g : α × Nat → β} {l : List α} {i : Nat} {r : β} (h : (l.zipIdx.map g)[i]? = some r) : ∃ x, l[i]? = some x ∧ r = g (x, i) := by
 rw [List.getElem?_map, List.getElem?_zipIdx] at h
 cases hx : l[i]? with
 | none => rw [hx] at h; cases h
 | some x =>
  rw [hx] at h
  simp only [Option.map_some, Option.some.injEq, Nat.zero_add] at h
  exact ⟨x, rfl, h.symm⟩
theorem map_at {α β : Type} {g : α → β} {l : List α} {i : Nat} {r : β} (h : (l.map g)[i]? = some r) : ∃ x, l[i]? = some x ∧ r = g x := by
 rw [List.getElem?_map] at h
 cases hx : l[i]? with
 | none => rw [hx] at h; cases h
 | some x =>
  rw [hx] at h
  simp only [Option.map_some, Option.some.injEq] at h
  exact ⟨x, rfl, h.symm⟩
theorem tbl_ok {w : World} {s m1 m2 : Nat} {L : Lk} {fr : List Int} {N : Nat} {pv fv iv qv rv lv nv gv : Value} {pf nf : Th → Option Int} {sb lb : Nat} (h : Cx w s m1 m2 L fr N pv fv iv qv rv lv nv gv pf nf sb lb) : TbOK w (ckT s sb lb (allL L fr).length N L.procs.length L.files.length L.inos.length L.pipes.length) (wrAll N L fr pf nf) := by
 intro k c l hc hl
 have hk : k < 9 := (List.getElem?_eq_some_iff.1 hc).1
 have : k = 0 ∨ k = 1 ∨ k = 2 ∨ k = 3 ∨ k = 4 ∨ k = 5 ∨ k = 6 ∨ k = 7 ∨ k = 8 := by omega
 rcases this with rfl | rfl | rfl | rfl | rfl | rfl | rfl | rfl | rfl <;> (injection hc with hc; injection hl with hl; subst hc hl)
 ·refine ⟨by simp, fun args w => by kernel_rfl, fun i r hr V hV => ?_⟩
  obtain ⟨x, hx, rfl⟩ := zip_at hr
  exact wrongPlace_any (h.keep hV).sy i x hx
 ·refine ⟨by simp [frL], fun args w => by kernel_rfl, fun i r hr V hV => ?_⟩
  obtain ⟨x, hx, rfl⟩ := zip_at hr
  exact wrongFrame_any (h.keep hV).sy i x hx
 ·refine ⟨rfl, fun args w => by kernel_rfl, fun i r hr V hV => ?_⟩
  obtain rfl : unW (L.free == (fr.length : Int)) 5 0 = r := by
   cases i with
   | zero => simpa using hr
   | succ i => simp at hr
  have h2 := h.keep hV
  exact check1_any ⟨h2.at 9 _ rfl, h2.cb, h2.sy.cell 10 _ rfl⟩ ⟨h2.ll, h2.sl, h2.sy.sv.lt.1⟩ i
 ·refine ⟨by simp, fun args w => by kernel_rfl, fun i r hr V hV => ?_⟩
  obtain ⟨x, hx, rfl⟩ := zip_at hr
  exact check2_any (h.keep hV) i x hx
 ·refine ⟨by simp, fun args w => by kernel_rfl, fun i r hr V hV => ?_⟩
  obtain ⟨x, hx, rfl⟩ := map_at hr
  exact check3_any (h.keep hV) i x hx
 ·refine ⟨by simp, fun args w => by kernel_rfl, fun i r hr V hV => ?_⟩
  obtain ⟨x, hx, rfl⟩ := map_at hr
  exact check4_any (h.keep hV) i x hx
 ·refine ⟨by simp, fun args w => by kernel_rfl, fun i r hr V hV => ?_⟩
  obtain ⟨x, hx, rfl⟩ := zip_at hr
  exact check5_any (h.keep hV) i x hx
 ·refine ⟨by simp, fun args w => by kernel_rfl, fun i r hr V hV => ?_⟩
  obtain ⟨x, hx, rfl⟩ := zip_at hr
  exact check6_any (h.keep hV) i x hx
 ·refine ⟨by simp, fun args w => by kernel_rfl, fun i r hr V hV => ?_⟩
  obtain ⟨x, hx, rfl⟩ := zip_at hr
  exact check7_any (h.keep hV) i x hx
set_option maxRecDepth 100000 in
set_option maxHeartbeats 4000000 in
theorem wrong_any {w : World} {s m1 m2 : Nat} {L : Lk} {fr : List Int} {N : Nat} {pv fv iv qv rv lv nv gv : Value} {pf nf : Th → Option Int} (h : Sy w s m1 m2 L fr N pv fv iv qv rv lv nv gv pf nf) (hfr : fr.length ≤ 1000000) : Calls Try.prog 18 #[.pointer (some ⟨s, 0, .none⟩)] w (WrP w (firstB (wrAll N L fr pf nf).flatten)) := by
 have HSY : Hid (Sy w s m1 m2 L fr N pv fv iv qv rv lv nv gv pf nf) := h
 have HRL : Hid (∀ l ∈ wrAll N L fr pf nf, l.length ≤ 2000000) := by
  intro l hl
  have h1 := h.nl
  have h2 := h.rg.pl
  have h3 := h.rg.fl
  have h4 := h.rg.il
  have h5 := h.rg.ql
  have h6 := h.nn
  simp only [wrAll, List.mem_cons, List.not_mem_nil, or_false] at hl
  rcases hl with rfl | rfl | rfl | rfl | rfl | rfl | rfl | rfl | rfl <;> simp only [List.length_map, List.length_zipIdx, List.length_cons, List.length_nil, frL, List.length_range] <;> omega
 clear h
 go_enter Try.func18, Try.ntmps18
 go_wp2_with (first
  | (refine wpList_is (.alloc 39) rfl ?_; refine wpList_allocG 39 2 16 info39 2 _ rfl rfl rfl ?_; intro W1 zs hzs hW1 hB1 hs1)
  | fail)
 go_at_call 32
 refine (checks_any (HSY.out.keep hB1)).mono ?_
 rintro e W3 ⟨g, sb, lb, rfl, hrg, hgl, hcx, hB3⟩
 obtain ⟨z, hz⟩ : ∃ z, z = w.heap.size := ⟨_, rfl⟩
 have HTB0 := tbl_ok hcx
 have hrg2 : ∀ (k : Nat) c, (ckT s sb lb (allL L fr).length N L.procs.length L.files.length L.inos.length L.pipes.length)[k]? = some c → W3.rangeAt g (k * 2) c.l := fun k c hc j v hj => by
  have := hrg (k * 2 + j) v (flat_get (fun c hc => by obtain ⟨x, _, rfl⟩ := List.mem_map.1 hc; rfl) k _ (by rw [List.getElem?_map, hc]; rfl) j v hj)
  rw [Nat.zero_add] at this
  exact this
 have hl1 : (ckT s sb lb (allL L fr).length N L.procs.length L.files.length L.inos.length L.pipes.length).length = 9 := rfl
 have hl2 : (wrAll N L fr pf nf).length = 9 := rfl
 generalize ckT s sb lb (allL L fr).length N L.procs.length L.files.length L.inos.length L.pipes.length = tbl at *
 generalize wrAll N L fr pf nf = res at *
 have HT : Hid (TbOK W3 tbl res ∧ tbl.length = 9 ∧ res.length = 9 ∧ ∀ (k : Nat) c, tbl[k]? = some c → W3.rangeAt g (k * 2) c.l) := ⟨HTB0, hl1, hl2, hrg2⟩
 have HW : Hid (W3.heap[z]? = some (.cells zs.toArray 39 (0, 0)) ∧ z < W3.heap.size ∧ Below w.heap.size w W3 ∧ g < W3.heap.size ∧ z = w.heap.size) := ⟨by rw [hz]; exact (hB3.block _ (by omega)).trans hW1, by have := hB3.size; rw [hz]; omega, hB1.trans (hB3.mono (by omega)), hgl, hz⟩
 rw [show w.heap.size = z from hz.symm]
 clear hrg hgl hcx hB3 HTB0 hrg2 hl1 hl2 hz hW1 hB1 hs1 HSY
 go_wp2
 go_loopw [10] (fun k10 wr => ∃ k : Nat, k ≤ 9 ∧ k10 = .int .i64 k ∧ Hid (Below W3.heap.size W3 wr ∧ ∀ (k' : Nat), k' < k → ∀ l', res[k']? = some l' → ∀ (j : Nat) q, l'[j]? = some q → q = (0, 0))) (fun v _ => (9 - intOf v).toNat)
 case atStart => exact ⟨0, by omega, rfl, Below.refl _ _, fun k' h => by omega⟩
 case round =>
  obtain ⟨k, hk, rfl, HB⟩ := hrel
  by_cases hin : k < 9
  ·as_aux_lemma =>
    have i1 : (k : Int) < 9 := by omega
    obtain ⟨c, hc⟩ : ∃ c, tbl[k]? = some c := ⟨_, List.getElem?_eq_getElem (by rw [HT.out.2.1]; exact hin)⟩
    obtain ⟨l, hl⟩ : ∃ l, res[k]? = some l := ⟨_, List.getElem?_eq_getElem (by rw [HT.out.2.2.1]; exact hin)⟩
    obtain ⟨hcn, hE, hcall⟩ := HT.out.1 k c l hc hl
    have hr0 := HT.out.2.2.2 k c hc
    obtain ⟨n, f, fi, cap⟩ := c
    simp only at hcn hE hcall
    have r130 : wr.rangeAt g (k * 2) (Ce.l (n, f, fi, cap)) := range_keep hr0 HB.out.1 HW.out.2.2.2.1
    have HL : Hid (n = l.length ∧ res[k]? = some l ∧ ∀ (i : Nat) r, l[i]? = some r → ∀ V, Below W3.heap.size W3 V → Calls Try.prog f (fi ++ .int .i64 i :: cap).toArray V (WrP V r)) := ⟨hcn, hl, hcall⟩
    have bn : n ≤ 2000000 := by rw [hcn]; exact HRL.out l (List.mem_of_getElem? hl)
    clear hc hl hcn hcall hr0
    unfold Enters at hE
    go_wp2_with (first
     | (refine wpList_is (.load 106 (.tmp 12)) rfl ?_; refine wpList_loadG 106 2 16 info130 _ Try.underlying106 rfl (Ce.l (n, f, fi, cap)) rfl g (k * 2) (.tmp 12) rfl rfl rfl r130 (some 13) rfl ?_; clear r130)
     | (refine wpList_is (.alloc 106) rfl ?_; refine wpList_laidG 106 2 16 info130 (Ce.l (n, f, fi, cap)) rfl (List.all_eq_true.1 (show (Ce.l (n, f, fi, cap)).all (fun u => u.oneCell') = true from rfl)) 4 (.tmp 13) _ _ rfl rfl rfl rfl rfl rfl rfl rfl ?_; intro W4 hW4 hB4 hs4; have k0 : W4.cell? ⟨wr.heap.size, 0, .none⟩ = some (.int .i64 n) := cell_heap (o := 0) hW4)
     | fail)
    clear k0
    obtain ⟨cb, hcb⟩ : ∃ cb, cb = wr.heap.size := ⟨_, rfl⟩
    have HW4 : Hid (W4.heap[cb]? = some (.cells (Ce.l (n, f, fi, cap)).toArray 106) ∧ cb < W4.heap.size ∧ Below W3.heap.size W3 W4) := ⟨by rw [hcb]; exact hW4, by omega, HB.out.1.trans (hB4.mono HB.out.1.size)⟩
    rw [show wr.heap.size = cb from hcb.symm]
    clear hW4 hB4 hs4 hcb
    go_loopw [16] (fun k16 wr => ∃ i : Nat, i ≤ n ∧ k16 = .int .i64 i ∧ Hid (Below W4.heap.size W4 wr ∧ ∀ (j : Nat), j < i → ∀ q, l[j]? = some q → q = (0, 0))) (fun v _ => (n - intOf v).toNat)
    case atStart => exact ⟨0, by omega, rfl, Below.refl _ _, fun j h => by omega⟩
    case round =>
     obtain ⟨i, hi, rfl, HB2⟩ := hrel
     by_cases hin2 : i < n
     ·as_aux_lemma =>
       have i2 : (i : Int) < n := by omega
       obtain ⟨r, hr⟩ : ∃ r, l[i]? = some r := ⟨_, List.getElem?_eq_getElem (by rw [← HL.out.1]; exact hin2)⟩
       have k1 : wr.cell? ⟨cb, 1, .none⟩ = some (.func (.func f) fi.toArray cap.toArray) := cell_heap (o := 1) ((HB2.out.1.block _ HW4.out.2.1).trans HW4.out.1)
       have hB23 : Below W3.heap.size W3 wr := HW4.out.2.2.trans (HB2.out.1.mono HW4.out.2.2.size)
       have kc := HL.out.2.2 i r hr wr hB23
       have HR : Hid (l[i]? = some r ∧ Below W3.heap.size W3 wr) := ⟨hr, hB23⟩
       clear hr hB23
       go_wp2_with fail
       refine kc.mono ?_
       rintro e V2 ⟨rfl, hBv⟩
       have HV2 : Hid (Below wr.heap.size wr V2) := hBv
       clear k1 hBv kc
       by_cases hr0 : r = (0, 0)
       ·have q39 : ∀ w : World, (binOp .neq 39 (.agg (wrL r).toArray) (.agg (wrL (0, 0)).toArray)).run Try.prog w = .ok (.bool false) w := fun w => by have := eqv_neq (eq_wrong 9997 0 0 0 0) w; rw [hr0]; exact this
        have HR0 : Hid (r = (0, 0)) := hr0
        clear hr0
        go_wp2_with (first
         | (refine wpList_is (.alloc 39) rfl ?_; refine wpList_laidG 39 2 16 info39 (wrL r) rfl (List.all_eq_true.1 (show (wrL r).all (fun u => u.oneCell') = true from rfl)) 6 (.tmp 22) _ _ rfl rfl rfl rfl rfl rfl rfl rfl ?_; intro W5 hW5 hB5 hs5)
         | (refine wpList_is (.load 39 (.tmp 6)) rfl ?_; refine wpList_loadG 39 2 16 info39 _ Try.underlying39 rfl (wrL r) rfl V2.heap.size 0 (.tmp 6) rfl rfl rfl (range_heap hW5) (some 23) rfl ?_)
         | (refine wpList_is (.build 39 #[]) rfl ?_; refine wpList_buildTo rfl 39 _ rfl (some 24) rfl (wrL (0, 0)).toArray (by kernel_rfl) ?_)
         | fail)
        exact ⟨⟨i + 1, by omega, by go_num, (HB2.out.1.trans (HV2.out.mono HB2.out.1.size)).trans (hB5.mono (Nat.le_trans HB2.out.1.size HV2.out.size)), fun j hj q hq => by
         by_cases e : j = i
         ·subst e; rw [HR.out.1] at hq; injection hq with hq; rw [← hq]; exact HR0.out
         ·exact HB2.out.2 j (by omega) q hq⟩, by simp [intOf]; omega⟩
       ·have q39 : ∀ w : World, (binOp .neq 39 (.agg (wrL r).toArray) (.agg (wrL (0, 0)).toArray)).run Try.prog w = .ok (.bool true) w := fun w => by
         have := eqv_neq (eq_wrong 9997 r.1 r.2 0 0) w
         have e : ((r.1 == 0) && ((r.2 == 0) && true)) = false := by
          cases h1 : (r.1 == 0)
          ·rfl
          ·cases h2 : (r.2 == 0)
           ·rfl
           ·exact absurd (Prod.ext (by simpa using h1) (by simpa using h2)) hr0
         rw [e] at this
         exact this
        have HR0 : Hid (r ≠ (0, 0)) := hr0
        have HF : Hid (firstB res.flatten = r) := firstB_hit HL.out.2.1 HR.out.1 hr0 HB.out.2 HB2.out.2
        clear hr0
        go_wp2_with (first
         | (refine wpList_is (.alloc 39) rfl ?_; refine wpList_laidG 39 2 16 info39 (wrL r) rfl (List.all_eq_true.1 (show (wrL r).all (fun u => u.oneCell') = true from rfl)) 6 (.tmp 22) _ _ rfl rfl rfl rfl rfl rfl rfl rfl ?_; intro W5 hW5 hB5 hs5; have hZ5 : W5.heap[z]? = some (.cells zs.toArray 39 (0, 0)) := (hB5.block z (by have := HW.out.2.1; have := HR.out.2.size; have := HV2.out.size; omega)).trans ((HV2.out.block z (by have := HW.out.2.1; have := HR.out.2.size; omega)).trans ((HR.out.2.block z HW.out.2.1).trans HW.out.1)))
         | (refine wpList_is (.load 39 (.tmp 6)) rfl ?_; refine wpList_loadG 39 2 16 info39 _ Try.underlying39 rfl (wrL r) rfl V2.heap.size 0 (.tmp 6) rfl rfl rfl (range_heap hW5) (some 23) rfl ?_)
         | (refine wpList_is (.load 39 (.tmp 6)) rfl ?_; refine wpList_loadG 39 2 16 info39 _ Try.underlying39 rfl (wrL r) rfl V2.heap.size 0 (.tmp 6) rfl rfl rfl (range_heap hW5) (some 26) rfl ?_)
         | (refine wpList_is (.build 39 #[]) rfl ?_; refine wpList_buildTo rfl 39 _ rfl (some 24) rfl (wrL (0, 0)).toArray (by kernel_rfl) ?_)
         | (refine wpList_is (.store 39 (.tmp 2) (.tmp 26)) rfl ?_; refine wpList_storeG 39 2 16 z info39 (wrL r) zs rfl hzs (List.all_eq_true.1 (show (wrL r).all (fun u => u.oneCell') = true from rfl)) (.tmp 2) (.tmp 26) _ rfl rfl rfl rfl rfl hZ5 ?_; intro W6 hW6 hg6 hs6)
         | fail)
        refine bodyPost_ret (results_cell_any (p := 2) (ty := 39) rfl _ _ ⟨z, 0, .none⟩ _ rfl (run_loadVar_mid (P := Try.prog) _ z 0 39 (wrL r) _ (range_heap hW6) Try.underlying39 rfl (by kernel_rfl))) rfl ?_
        have hzw := HW.out.2.2.2.2
        exact ⟨by rw [HF.out], by
         have b1 : Below w.heap.size w W5 := (HW.out.2.2.1.trans (HR.out.2.mono HW.out.2.2.1.size)).trans (((HV2.out.mono HR.out.2.size).trans (hB5.mono (Nat.le_trans HR.out.2.size HV2.out.size))).mono HW.out.2.2.1.size)
         rw [← hzw] at b1 ⊢
         exact below_new b1 hg6 (by have := HW.out.2.1; have := HR.out.2.size; have := HV2.out.size; have := hB5.size; omega)⟩
     ·have i2 : ¬ (i : Int) < n := by omega
      go_wp2
      exact ⟨⟨k + 1, by omega, by go_num, HW4.out.2.2.trans (HB2.out.1.mono HW4.out.2.2.size), fun k' hk' l' hl' j q hq => by
       by_cases e : k' = k
       ·subst e; rw [HL.out.2.1] at hl'; injection hl' with hl'; subst hl'; exact HB2.out.2 j (by have := (List.getElem?_eq_some_iff.1 hq).1; have := HL.out.1; omega) q hq
       ·exact HB.out.2 k' (by omega) l' hl' j q hq⟩, by simp [intOf]; omega⟩
  ·as_aux_lemma =>
    have i1 : ¬ (k : Int) < 9 := by omega
    have HF : Hid (firstB res.flatten = (0, 0)) := firstB_zero (fun k' l' hl' i r hr => HB.out.2 k' (by have := (List.getElem?_eq_some_iff.1 hl').1; have := HT.out.2.2.1; omega) l' hl' i r hr)
    have hZ : wr.heap[z]? = some (.cells zs.toArray 39 (0, 0)) := (HB.out.1.block z HW.out.2.1).trans HW.out.1
    go_wp2_with (first
     | (refine wpList_is (.build 39 #[]) rfl ?_; refine wpList_buildTo rfl 39 _ rfl (some 29) rfl (wrL (0, 0)).toArray (by kernel_rfl) ?_)
     | (refine wpList_is (.store 39 (.tmp 2) (.tmp 29)) rfl ?_; refine wpList_storeG 39 2 16 z info39 (wrL (0, 0)) zs rfl hzs (List.all_eq_true.1 (show (wrL (0, 0)).all (fun u => u.oneCell') = true from rfl)) (.tmp 2) (.tmp 29) _ rfl rfl rfl rfl rfl hZ ?_; intro W6 hW6 hg6 hs6)
     | fail)
    refine bodyPost_ret (results_cell_any (p := 2) (ty := 39) rfl _ _ ⟨z, 0, .none⟩ _ rfl (run_loadVar_mid (P := Try.prog) _ z 0 39 (wrL (0, 0)) _ (range_heap hW6) Try.underlying39 rfl (by kernel_rfl))) rfl ?_
    have hzw := HW.out.2.2.2.2
    exact ⟨by rw [HF.out], by
     have b1 : Below w.heap.size w wr := HW.out.2.2.1.trans (HB.out.1.mono HW.out.2.2.1.size)
     rw [← hzw] at b1 ⊢
     exact below_new b1 hg6 (by have := HW.out.2.1; have := HB.out.1.size; omega)⟩
end Go.Proofs.Ythopgmmodldljab
