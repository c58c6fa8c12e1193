import Derived.Test.YthopgmmodldljabEi
namespace Go.Proofs.Ythopgmmodldljab
open Go Go.RowKit
set_option linter.unusedVariables false
set_option linter.unusedSimpArgs false
/-! The survey whole, and the first checks. -/
structure Sy (w : World) (s m1 m2 : Nat) (L : Lk) (fr : List Int) (N : Nat) (pv fv iv qv rv lv nv gv : Value) (pf nf : Th → Option Int) : Prop where
 sv : Sv w s m1 m2 (svL L pv fv iv qv rv lv fr.length nv gv m1 m2) pf nf
 lk : LkW w w.heap.size pv fv iv qv rv lv L
 nm : Sl w w.heap.size 3 (fun x cs => cs = An x) nv (allL L fr)
 fw : Sl w w.heap.size 3 (fun x cs => cs = owL x) gv (frL N (allL L fr))
 rg : LkR L
 rb : ∀ x ∈ allL L fr, Bd64 x.1
 nn : N ≤ 4096
 nl : (allL L fr).length ≤ 1000000
theorem Sy.keep {w w' : World} {s m1 m2 : Nat} {L : Lk} {fr : List Int} {N : Nat} {pv fv iv qv rv lv nv gv : Value} {pf nf : Th → Option Int} (h : Sy w s m1 m2 L fr N pv fv iv qv rv lv nv gv pf nf) (hb : Below w.heap.size w w') : Sy w' s m1 m2 L fr N pv fv iv qv rv lv nv gv pf nf :=
 ⟨h.sv.keep hb, h.lk.keep hb.size hb, Sl.mono h.nm hb.size hb (fun _ _ _ q => q), Sl.mono h.fw hb.size hb (fun _ _ _ q => q), h.rg, h.rb, h.nn, h.nl⟩
theorem Sy.cell {w : World} {s m1 m2 : Nat} {L : Lk} {fr : List Int} {N : Nat} {pv fv iv qv rv lv nv gv : Value} {pf nf : Th → Option Int} (h : Sy w s m1 m2 L fr N pv fv iv qv rv lv nv gv pf nf) (j : Nat) (v : Value) (hj : (svL L pv fv iv qv rv lv fr.length nv gv m1 m2)[j]? = some v) : w.cell? ⟨s, j, .none⟩ = some v := by
 rw [cell_heap h.sv.hp, List.getElem?_toArray]
 exact hj
def wrL (x : Int × Int) : List Value := [.int .i64 x.1, .int .i64 x.2]
def unW (b : Bool) (k n : Int) : Int × Int := if b then (0, 0) else (k, n)
theorem info39 : ∃ i z, Try.prog.info? 39 = some i ∧ i.zero = some z ∧ i.size = 2 ∧ i.bytes = 16 ∧ z.cells.size = 2 := info_of 39 2 16 (by kernel_rfl) (by kernel_rfl)
def WrP (w : World) (x : Int × Int) (e : Ending) (w' : World) : Prop := e = .returned (.agg (wrL x).toArray) ∧ Below w.heap.size w w'
set_option maxRecDepth 100000 in
theorem unless_any (b : Bool) (k n : Int) (w : World) : Calls Try.prog 51 #[.bool b, .int .i64 k, .int .i64 n] w (WrP w (unW b k n)) := by
 go_enter Try.func51, Try.ntmps51
 cases b
 ·have HT : Hid (unW false k n = (k, n)) := rfl
  go_wp2_with (first
   | (refine wpList_is (.alloc 39) rfl ?_; refine wpList_allocG 39 2 16 info39 6 _ rfl rfl rfl ?_; intro W1 zs hzs hW1 hB1 hs1)
   | (refine wpList_is (.build 39 #[(0, .tmp 9), (1, .tmp 10)]) rfl ?_; refine wpList_buildTo rfl 39 _ rfl (some 11) rfl (wrL (k, n)).toArray (by kernel_rfl) ?_)
   | (refine wpList_is (.store 39 (.tmp 6) (.tmp 11)) rfl ?_; refine wpList_storeG 39 2 16 (w.heap.size) info39 (wrL (k, n)) zs rfl hzs (List.all_eq_true.1 (show (wrL (k, n)).all (fun u => u.oneCell') = true from rfl)) (.tmp 6) (.tmp 11) _ rfl rfl rfl rfl rfl hW1 ?_; intro W6 hW6 hg6 hs6)
   | fail)
  refine bodyPost_ret (results_cell_any (p := 6) (ty := 39) rfl _ _ ⟨w.heap.size, 0, .none⟩ _ rfl (run_loadVar_mid (P := Try.prog) _ (w.heap.size) 0 39 (wrL (k, n)) _ (range_heap hW6) Try.underlying39 rfl (by kernel_rfl))) rfl ?_
  exact ⟨rfl, below_new hB1 hg6 (by omega)⟩
 ·have HT : Hid (unW true k n = (0, 0)) := rfl
  go_wp2_with (first
   | (refine wpList_is (.alloc 39) rfl ?_; refine wpList_allocG 39 2 16 info39 6 _ rfl rfl rfl ?_; intro W1 zs hzs hW1 hB1 hs1)
   | (refine wpList_is (.build 39 #[]) rfl ?_; refine wpList_buildTo rfl 39 _ rfl (some 8) rfl (wrL (0, 0)).toArray (by kernel_rfl) ?_)
   | (refine wpList_is (.store 39 (.tmp 6) (.tmp 8)) rfl ?_; refine wpList_storeG 39 2 16 (w.heap.size) info39 (wrL (0, 0)) zs rfl hzs (List.all_eq_true.1 (show (wrL (0, 0)).all (fun u => u.oneCell') = true from rfl)) (.tmp 6) (.tmp 8) _ rfl rfl rfl rfl rfl hW1 ?_; intro W6 hW6 hg6 hs6)
   | fail)
  refine bodyPost_ret (results_cell_any (p := 6) (ty := 39) rfl _ _ ⟨w.heap.size, 0, .none⟩ _ rfl (run_loadVar_mid (P := Try.prog) _ (w.heap.size) 0 39 (wrL (0, 0)) _ (range_heap hW6) Try.underlying39 rfl (by kernel_rfl))) rfl ?_
  exact ⟨rfl, below_new hB1 hg6 (by omega)⟩
def wfW (t : Int) (i : Nat) : Int × Int := if t = 0 then (3, i) else if t = 1 then (0, 0) else (4, i)
set_option maxRecDepth 100000 in
set_option maxHeartbeats 1000000 in
theorem wrongFrame_any {w : World} {s m1 m2 : Nat} {L : Lk} {fr : List Int} {N : Nat} {pv fv iv qv rv lv nv gv : Value} {pf nf : Th → Option Int} (h : Sy w s m1 m2 L fr N pv fv iv qv rv lv nv gv pf nf) (i : Nat) (x : Ow) (hx : (frL N (allL L fr))[i]? = some x) : Calls Try.prog 49 #[.pointer (some ⟨s, 0, .none⟩), .int .i64 i] w (WrP w (wfW x.2.2 i)) := by
 obtain ⟨gp, gc, rfl⟩ := h.fw.form
 have hin : i < (frL N (allL L fr)).length := (List.getElem?_eq_some_iff.1 hx).1
 obtain ⟨-, b, o, y, cs, rfl, hbX, hy, rfl, hcl, hr⟩ := h.fw.at hin
 obtain rfl : x = y := by rw [hx] at hy; injection hy
 have k12 := h.cell 12 _ rfl
 have hlen : (frL N (allL L fr)).length = N := by simp [frL]
 rw [hlen] at k12 hin
 have i1 : (i : Int) < N := by omega
 have i2 : N ≤ 4096 := h.nn
 have kt : w.cell? ⟨b, o + i * 3 + 2, .none⟩ = some (.int .i64 x.2.2) := hr 2 _ rfl
 have HB0 : Hid (b < w.heap.size ∧ s < w.heap.size) := ⟨hbX, h.sv.lt.1⟩
 have k12' : ∀ W, Below w.heap.size w W → W.cell? ⟨s, 12, .none⟩ = some (.slice (some ⟨b, o, .none⟩) N gc) ∧ W.cell? ⟨b, o + i * 3 + 2, .none⟩ = some (.int .i64 x.2.2) := fun W hW => ⟨(hW.cell (p := ⟨s, 12, .none⟩) HB0.out.2).trans k12, (hW.cell (p := ⟨b, o + i * 3 + 2, .none⟩) HB0.out.1).trans kt⟩
 have HK : Hid (∀ W, Below w.heap.size w W → W.cell? ⟨s, 12, .none⟩ = some (.slice (some ⟨b, o, .none⟩) N gc) ∧ W.cell? ⟨b, o + i * 3 + 2, .none⟩ = some (.int .i64 x.2.2)) := k12'
 clear h hx hy hbX hcl hr k12 k12' kt hlen hin
 obtain ⟨t, ht⟩ : ∃ t, t = x.2.2 := ⟨_, rfl⟩
 rw [← ht] at HK ⊢
 clear ht
 go_enter Try.func49, Try.ntmps49
 by_cases h0 : t = 0
 ·have HT : Hid (wfW t i = (3, (i : Int))) := by show _ = _; unfold wfW; rw [if_pos h0]
  have e0 : (t == 0) = true := by simp [h0]
  clear h0
  go_wp2_with (first
   | (refine wpList_is (.alloc 39) rfl ?_; refine wpList_allocG 39 2 16 info39 4 _ rfl rfl rfl ?_; intro W1 zs hzs hW1 hB1 hs1; obtain ⟨k1, k2⟩ := HK.out W1 hB1)
   | (refine wpList_is (.build 39 #[(0, .const (.int .i64 3)), (1, .tmp 15)]) rfl ?_; refine wpList_buildTo rfl 39 _ rfl (some 16) rfl (wrL (3, i)).toArray (by kernel_rfl) ?_)
   | (refine wpList_is (.store 39 (.tmp 4) (.tmp 16)) rfl ?_; refine wpList_storeG 39 2 16 (w.heap.size) info39 (wrL (3, i)) zs rfl hzs (List.all_eq_true.1 (show (wrL (3, i)).all (fun u => u.oneCell') = true from rfl)) (.tmp 4) (.tmp 16) _ rfl rfl rfl rfl rfl hW1 ?_; intro W6 hW6 hg6 hs6)
   | fail)
  refine bodyPost_ret (results_cell_any (p := 4) (ty := 39) rfl _ _ ⟨w.heap.size, 0, .none⟩ _ rfl (run_loadVar_mid (P := Try.prog) _ (w.heap.size) 0 39 (wrL (3, i)) _ (range_heap hW6) Try.underlying39 rfl (by kernel_rfl))) rfl ?_
  exact ⟨by rw [HT.out], below_new hB1 hg6 (by omega)⟩
 by_cases h1 : t = 1
 ·have HT : Hid (wfW t i = (0, 0)) := by show _ = _; unfold wfW; rw [if_neg h0, if_pos h1]
  have e0 : (t == 0) = false := by simp [h0]
  have e1 : (t == 1) = true := by simp [h1]
  clear h0 h1
  go_wp2_with (first
   | (refine wpList_is (.alloc 39) rfl ?_; refine wpList_allocG 39 2 16 info39 4 _ rfl rfl rfl ?_; intro W1 zs hzs hW1 hB1 hs1; obtain ⟨k1, k2⟩ := HK.out W1 hB1)
   | (refine wpList_is (.build 39 #[]) rfl ?_; refine wpList_buildTo rfl 39 _ rfl (some 19) rfl (wrL (0, 0)).toArray (by kernel_rfl) ?_)
   | (refine wpList_is (.store 39 (.tmp 4) (.tmp 19)) rfl ?_; refine wpList_storeG 39 2 16 (w.heap.size) info39 (wrL (0, 0)) zs rfl hzs (List.all_eq_true.1 (show (wrL (0, 0)).all (fun u => u.oneCell') = true from rfl)) (.tmp 4) (.tmp 19) _ rfl rfl rfl rfl rfl hW1 ?_; intro W6 hW6 hg6 hs6)
   | fail)
  refine bodyPost_ret (results_cell_any (p := 4) (ty := 39) rfl _ _ ⟨w.heap.size, 0, .none⟩ _ rfl (run_loadVar_mid (P := Try.prog) _ (w.heap.size) 0 39 (wrL (0, 0)) _ (range_heap hW6) Try.underlying39 rfl (by kernel_rfl))) rfl ?_
  exact ⟨by rw [HT.out], below_new hB1 hg6 (by omega)⟩
 ·have HT : Hid (wfW t i = (4, (i : Int))) := by show _ = _; unfold wfW; rw [if_neg h0, if_neg h1]
  have e0 : (t == 0) = false := by simp [h0]
  have e1 : (t == 1) = false := by simp [h1]
  clear h0 h1
  go_wp2_with (first
   | (refine wpList_is (.alloc 39) rfl ?_; refine wpList_allocG 39 2 16 info39 4 _ rfl rfl rfl ?_; intro W1 zs hzs hW1 hB1 hs1; obtain ⟨k1, k2⟩ := HK.out W1 hB1)
   | (refine wpList_is (.build 39 #[(0, .const (.int .i64 4)), (1, .tmp 20)]) rfl ?_; refine wpList_buildTo rfl 39 _ rfl (some 21) rfl (wrL (4, i)).toArray (by kernel_rfl) ?_)
   | (refine wpList_is (.store 39 (.tmp 4) (.tmp 21)) rfl ?_; refine wpList_storeG 39 2 16 (w.heap.size) info39 (wrL (4, i)) zs rfl hzs (List.all_eq_true.1 (show (wrL (4, i)).all (fun u => u.oneCell') = true from rfl)) (.tmp 4) (.tmp 21) _ rfl rfl rfl rfl rfl hW1 ?_; intro W6 hW6 hg6 hs6)
   | fail)
  refine bodyPost_ret (results_cell_any (p := 4) (ty := 39) rfl _ _ ⟨w.heap.size, 0, .none⟩ _ rfl (run_loadVar_mid (P := Try.prog) _ (w.heap.size) 0 39 (wrL (4, i)) _ (range_heap hW6) Try.underlying39 rfl (by kernel_rfl))) rfl ?_
  exact ⟨by rw [HT.out], below_new hB1 hg6 (by omega)⟩
set_option maxRecDepth 100000 in
set_option maxHeartbeats 1000000 in
theorem wrongPlace_any {w : World} {s m1 m2 : Nat} {L : Lk} {fr : List Int} {N : Nat} {pv fv iv qv rv lv nv gv : Value} {pf nf : Th → Option Int} (h : Sy w s m1 m2 L fr N pv fv iv qv rv lv nv gv pf nf) (i : Nat) (x : Nm) (hx : (allL L fr)[i]? = some x) : Calls Try.prog 48 #[.pointer (some ⟨s, 0, .none⟩), .int .i64 i] w (WrP w (unW (decide (isF N x.1)) 2 i)) := by
 obtain ⟨np, nc, rfl⟩ := h.nm.form
 obtain ⟨gp, gc, rfl⟩ := h.fw.form
 have hin : i < (allL L fr).length := (List.getElem?_eq_some_iff.1 hx).1
 obtain ⟨-, b, o, y, cs, rfl, hbX, hy, rfl, hcl, hr⟩ := h.nm.at hin
 obtain rfl : x = y := by rw [hx] at hy; injection hy
 have k11 := h.cell 11 _ rfl
 have k12 := h.cell 12 _ rfl
 have hlen : (frL N (allL L fr)).length = N := by simp [frL]
 rw [hlen] at k12
 obtain ⟨n, hn⟩ : ∃ n, n = (allL L fr).length := ⟨_, rfl⟩
 rw [← hn] at k11 hin
 have i1 : (i : Int) < n := by omega
 have bn : n ≤ 1000000 := by have := h.nl; omega
 have hbd := h.rb x (List.mem_of_getElem? hx)
 have hN := h.nn
 obtain ⟨a, ha⟩ : ∃ a, a = x.1 := ⟨_, rfl⟩
 rw [← ha] at hbd ⊢
 have ka : w.cell? ⟨b, o + i * 3, .none⟩ = some (.int .u64 a) := by rw [ha]; have := hr 0 _ rfl; rw [Nat.add_zero] at this; exact this
 have HFA : Hid (∀ V, Calls Try.prog 45 #[.int .u64 a, .int .i64 N] V fun e w' => e = .returned (.tuple #[.int .i64 (if isF N a then frN a else 0), .bool (decide (isF N a))]) ∧ w' = V) := fun V => frameAt_any a N hbd.1 hbd.2 (by omega) (by omega) V
 have HB0 : Hid (b < w.heap.size ∧ s < w.heap.size) := ⟨hbX, h.sv.lt.1⟩
 have HK : Hid (∀ V, Below w.heap.size w V → V.cell? ⟨s, 11, .none⟩ = some (.slice (some ⟨b, o, .none⟩) n nc) ∧ V.cell? ⟨b, o + i * 3, .none⟩ = some (.int .u64 a) ∧ V.cell? ⟨s, 12, .none⟩ = some (.slice gp N gc)) := fun W hW => ⟨(hW.cell (p := ⟨s, 11, .none⟩) HB0.out.2).trans k11, (hW.cell (p := ⟨b, o + i * 3, .none⟩) HB0.out.1).trans ka, (hW.cell (p := ⟨s, 12, .none⟩) HB0.out.2).trans k12⟩
 clear h hx hy hbX hcl hr k11 k12 ka hlen hbd hn ha
 generalize (if isF N a then frN a else 0) = f0 at *
 generalize decide (isF N a) = f1 at *
 go_enter Try.func48, Try.ntmps48
 go_upto_region 1 with (first
  | (refine wpList_is (.alloc 39) rfl ?_; refine wpList_allocG 39 2 16 info39 4 _ rfl rfl rfl ?_; intro W1 zs hzs hW1 hB1 hs1)
  | fail)
 have hS : (fun V : World => V.cell? ⟨s, 11, .none⟩ = some (.slice (some ⟨b, o, .none⟩) n nc) ∧ V.cell? ⟨b, o + i * 3, .none⟩ = some (.int .u64 a) ∧ V.cell? ⟨s, 12, .none⟩ = some (.slice gp N gc)) W1.drew := HK.out _ hB1.drew
 refine region_set (fun V => V.cell? ⟨s, 11, .none⟩ = some (.slice (some ⟨b, o, .none⟩) n nc) ∧ V.cell? ⟨b, o + i * 3, .none⟩ = some (.int .u64 a) ∧ V.cell? ⟨s, 12, .none⟩ = some (.slice gp N gc)) 18 [] (by kernel_rfl) ?_
 refine sT 0 (.pointer (some ⟨s, 0, .none⟩)) rfl (fun ww hSw => by obtain ⟨hs1, hs2, hs3⟩ := hSw; go_simp) hS ?_
 simp only [x0,x1,x2,x3,x4,x5,x6]
 refine sT 1 (.pointer (some ⟨s, 0, .none⟩)) rfl (fun ww hSw => by obtain ⟨hs1, hs2, hs3⟩ := hSw; go_simp) hS ?_
 simp only [x0,x1,x2,x3,x4,x5,x6]
 refine sT 2 (.pointer (some ⟨s, 11, .none⟩)) rfl (fun ww hSw => by obtain ⟨hs1, hs2, hs3⟩ := hSw; go_simp) hS ?_
 simp only [x0,x1,x2,x3,x4,x5,x6]
 refine sT 3 (.slice (some ⟨b, o, .none⟩) n nc) rfl (fun ww hSw => by obtain ⟨hs1, hs2, hs3⟩ := hSw; go_simp) hS ?_
 simp only [x0,x1,x2,x3,x4,x5,x6]
 refine sT 4 (.int .i64 i) rfl (fun ww hSw => by obtain ⟨hs1, hs2, hs3⟩ := hSw; go_simp) hS ?_
 simp only [x0,x1,x2,x3,x4,x5,x6]
 refine sT 5 (.pointer (some ⟨b, o + i * 3, .none⟩)) rfl (fun ww hSw => by obtain ⟨hs1, hs2, hs3⟩ := hSw; go_simp) hS ?_
 simp only [x0,x1,x2,x3,x4,x5,x6]
 refine sT 6 (.pointer (some ⟨b, o + i * 3, .none⟩)) rfl (fun ww hSw => by obtain ⟨hs1, hs2, hs3⟩ := hSw; go_simp) hS ?_
 simp only [x0,x1,x2,x3,x4,x5,x6]
 refine sT 7 (.int .u64 a) rfl (fun ww hSw => by obtain ⟨hs1, hs2, hs3⟩ := hSw; go_simp) hS ?_
 simp only [x0,x1,x2,x3,x4,x5,x6]
 refine sT 8 (.pointer (some ⟨s, 0, .none⟩)) rfl (fun ww hSw => by obtain ⟨hs1, hs2, hs3⟩ := hSw; go_simp) hS ?_
 simp only [x0,x1,x2,x3,x4,x5,x6]
 refine sT 9 (.pointer (some ⟨s, 0, .none⟩)) rfl (fun ww hSw => by obtain ⟨hs1, hs2, hs3⟩ := hSw; go_simp) hS ?_
 simp only [x0,x1,x2,x3,x4,x5,x6]
 refine sT 10 (.pointer (some ⟨s, 12, .none⟩)) rfl (fun ww hSw => by obtain ⟨hs1, hs2, hs3⟩ := hSw; go_simp) hS ?_
 simp only [x0,x1,x2,x3,x4,x5,x6]
 refine sT 11 (.slice gp N gc) rfl (fun ww hSw => by obtain ⟨hs1, hs2, hs3⟩ := hSw; go_simp) hS ?_
 simp only [x0,x1,x2,x3,x4,x5,x6]
 refine sT 12 (.int .i64 (N : Nat)) rfl (fun ww hSw => by obtain ⟨hs1, hs2, hs3⟩ := hSw; go_simp) hS ?_
 simp only [x0,x1,x2,x3,x4,x5,x6]
 refine set_only (i := 13) (by kernel_rfl) rfl (by rfl) (fun K hK => ?_)
 go_simp
 go_at_call 45
 refine (HFA.out _).mono ?_
 rintro e V1 ⟨rfl, rfl⟩
 refine hK.out _ _ (fun _ => hS) ?_
 clear hK K
 try simp only [x0,x1,x2,x3,x4,x5,x6]
 refine sT 14 (.tuple #[.int .i64 f0, .bool f1]) rfl (fun ww hSw => by obtain ⟨hs1, hs2, hs3⟩ := hSw; go_simp) hS ?_
 simp only [x0,x1,x2,x3,x4,x5,x6]
 refine sT 15 (.int .i64 f0) rfl (fun ww hSw => by obtain ⟨hs1, hs2, hs3⟩ := hSw; go_simp) hS ?_
 simp only [x0,x1,x2,x3,x4,x5,x6]
 refine sT 16 (.bool f1) rfl (fun ww hSw => by obtain ⟨hs1, hs2, hs3⟩ := hSw; go_simp) hS ?_
 simp only [x0,x1,x2,x3,x4,x5,x6]
 refine sT 17 (.int .i64 f0) rfl (fun ww hSw => by obtain ⟨hs1, hs2, hs3⟩ := hSw; go_simp) hS ?_
 simp only [x0,x1,x2,x3,x4,x5,x6]
 refine set_tail 1 18 _ _ _ _ (by kernel_rfl) (by decide) ?_
 simp only [List.toList_toArray, List.drop_succ_cons, List.drop_zero]
 clear hS
 have HW : Hid (W1.drew.heap[w.heap.size]? = some (.cells zs.toArray 39) ∧ zs.length = 2 ∧ Below w.heap.size w W1.drew ∧ W1.drew.heap.size = w.heap.size + 1) := ⟨hW1, hzs, hB1.drew, hs1⟩
 clear hW1 hB1 hs1 HFA HK HB0
 generalize W1.drew = WD at *
 go_wp2_with fail
 go_at_call 51
 refine (unless_any f1 2 i _).mono ?_
 rintro e W5 ⟨rfl, hB5⟩
 have hW5 : W5.heap[w.heap.size]? = some (.cells zs.toArray 39) := (hB5.block _ (by have := HW.out.2.2.2; omega)).trans HW.out.1
 have HB : Hid (Below w.heap.size w W5 ∧ w.heap.size < W5.heap.size) := ⟨HW.out.2.2.1.trans (hB5.mono (by have := HW.out.2.2.2; omega)), by have := hB5.size; have := HW.out.2.2.2; omega⟩
 clear hB5
 generalize unW f1 2 i = u at *
 go_wp2_with (first
  | (refine wpList_is (.store 39 (.tmp 4) (.tmp 26)) rfl ?_; refine wpList_storeG 39 2 16 w.heap.size info39 (wrL u) zs rfl hzs (List.all_eq_true.1 (show (wrL u).all (fun u => u.oneCell') = true from rfl)) (.tmp 4) (.tmp 26) _ rfl rfl rfl rfl rfl hW5 ?_; intro W6 hW6 hg6 hs6)
  | fail)
 refine bodyPost_ret (results_cell_any (p := 4) (ty := 39) rfl _ _ ⟨w.heap.size, 0, .none⟩ _ rfl (run_loadVar_mid (P := Try.prog) _ (w.heap.size) 0 39 (wrL (u)) _ (range_heap hW6) Try.underlying39 rfl (by kernel_rfl))) rfl ?_
 exact ⟨rfl, below_new HB.out.1 hg6 HB.out.2⟩
set_option maxRecDepth 100000 in
set_option maxHeartbeats 1000000 in
theorem check1_any {w : World} {lb sb s ne : Nat} {lf : Int} (h : w.cell? ⟨lb, 9, .none⟩ = some (.int .i64 lf) ∧ w.cell? ⟨sb, 0, .none⟩ = some (.pointer (some ⟨s, 0, .none⟩)) ∧ w.cell? ⟨s, 10, .none⟩ = some (.int .i64 ne)) (hb : lb < w.heap.size ∧ sb < w.heap.size ∧ s < w.heap.size) (at0 : Int) : Calls Try.prog 50 #[.int .i64 at0, .pointer (some ⟨lb, 0, .none⟩), .pointer (some ⟨sb, 0, .none⟩)] w (WrP w (unW (lf == (ne : Int)) 5 0)) := by
 have HK : Hid (∀ V, Below w.heap.size w V → V.cell? ⟨lb, 9, .none⟩ = some (.int .i64 lf) ∧ V.cell? ⟨sb, 0, .none⟩ = some (.pointer (some ⟨s, 0, .none⟩)) ∧ V.cell? ⟨s, 10, .none⟩ = some (.int .i64 ne)) := fun W hW => ⟨(hW.cell (p := ⟨lb, 9, .none⟩) hb.1).trans h.1, (hW.cell (p := ⟨sb, 0, .none⟩) hb.2.1).trans h.2.1, (hW.cell (p := ⟨s, 10, .none⟩) hb.2.2).trans h.2.2⟩
 clear h hb
 obtain ⟨bb, hbb⟩ : ∃ bb, (lf == (ne : Int)) = bb := ⟨_, rfl⟩
 rw [hbb]
 go_enter Try.func50, Try.ntmps50
 go_upto_region 1 with (first
  | (refine wpList_is (.alloc 39) rfl ?_; refine wpList_allocG 39 2 16 info39 4 _ rfl rfl rfl ?_; intro W1 zs hzs hW1 hB1 hs1)
  | fail)
 have hS : (fun V : World => V.cell? ⟨lb, 9, .none⟩ = some (.int .i64 lf) ∧ V.cell? ⟨sb, 0, .none⟩ = some (.pointer (some ⟨s, 0, .none⟩)) ∧ V.cell? ⟨s, 10, .none⟩ = some (.int .i64 ne)) W1.drew := HK.out _ hB1.drew
 refine region_set (fun V => V.cell? ⟨lb, 9, .none⟩ = some (.int .i64 lf) ∧ V.cell? ⟨sb, 0, .none⟩ = some (.pointer (some ⟨s, 0, .none⟩)) ∧ V.cell? ⟨s, 10, .none⟩ = some (.int .i64 ne)) 8 [] (by kernel_rfl) ?_
 refine sT 0 (.pointer (some ⟨lb, 9, .none⟩)) rfl (fun ww hSw => by obtain ⟨hs1, hs2, hs3⟩ := hSw; go_simp) hS ?_
 simp only [x0,x1,x2,x3,x4,x5,x6]
 refine sT 1 (.int .i64 lf) rfl (fun ww hSw => by obtain ⟨hs1, hs2, hs3⟩ := hSw; go_simp) hS ?_
 simp only [x0,x1,x2,x3,x4,x5,x6]
 refine sT 2 (.pointer (some ⟨s, 0, .none⟩)) rfl (fun ww hSw => by obtain ⟨hs1, hs2, hs3⟩ := hSw; go_simp) hS ?_
 simp only [x0,x1,x2,x3,x4,x5,x6]
 refine sT 3 (.pointer (some ⟨s, 0, .none⟩)) rfl (fun ww hSw => by obtain ⟨hs1, hs2, hs3⟩ := hSw; go_simp) hS ?_
 simp only [x0,x1,x2,x3,x4,x5,x6]
 refine sT 4 (.pointer (some ⟨s, 10, .none⟩)) rfl (fun ww hSw => by obtain ⟨hs1, hs2, hs3⟩ := hSw; go_simp) hS ?_
 simp only [x0,x1,x2,x3,x4,x5,x6]
 refine sT 5 (.int .i64 ne) rfl (fun ww hSw => by obtain ⟨hs1, hs2, hs3⟩ := hSw; go_simp) hS ?_
 simp only [x0,x1,x2,x3,x4,x5,x6]
 refine sT 6 (.bool bb) rfl (fun ww hSw => by obtain ⟨hs1, hs2, hs3⟩ := hSw; go_simp) hS ?_
 simp only [x0,x1,x2,x3,x4,x5,x6]
 refine set_only (i := 7) (by kernel_rfl) rfl (by rfl) (fun K hK => ?_)
 go_simp
 go_at_call 51
 refine (unless_any bb 5 0 _).mono ?_
 rintro e V1 ⟨rfl, hBv⟩
 have hB2 : Below w.heap.size w V1 := hB1.drew.trans (hBv.mono (by have : W1.drew.heap.size = W1.heap.size := rfl; omega))
 have hV1 : V1.heap[w.heap.size]? = some (.cells zs.toArray 39) := (hBv.block _ (by have : W1.drew.heap.size = W1.heap.size := rfl; omega)).trans hW1
 have hVs : w.heap.size < V1.heap.size := by have := hBv.size; have : W1.drew.heap.size = W1.heap.size := rfl; omega
 refine hK.out _ _ (fun _ => HK.out _ hB2) ?_
 clear hK K
 try simp only [x0,x1,x2,x3,x4,x5,x6]
 refine set_tail 1 8 _ _ _ _ (by kernel_rfl) (by decide) ?_
 simp only [List.toList_toArray, List.drop_succ_cons, List.drop_zero]
 clear hS hW1 hB1 hs1 hbb HK
 have HB : Hid (Below w.heap.size w V1 ∧ w.heap.size < V1.heap.size) := ⟨hB2, hVs⟩
 clear hB2 hBv hVs
 generalize unW bb 5 0 = u at *
 go_wp2_with (first
  | (refine wpList_is (.store 39 (.tmp 4) (.tmp 12)) rfl ?_; refine wpList_storeG 39 2 16 w.heap.size info39 (wrL u) zs rfl hzs (List.all_eq_true.1 (show (wrL u).all (fun u => u.oneCell') = true from rfl)) (.tmp 4) (.tmp 12) _ rfl rfl rfl rfl rfl hV1 ?_; intro W6 hW6 hg6 hs6)
  | fail)
 refine bodyPost_ret (results_cell_any (p := 4) (ty := 39) rfl _ _ ⟨w.heap.size, 0, .none⟩ _ rfl (run_loadVar_mid (P := Try.prog) _ (w.heap.size) 0 39 (wrL (u)) _ (range_heap hW6) Try.underlying39 rfl (by kernel_rfl))) rfl ?_
 exact ⟨rfl, below_new HB.out.1 hg6 HB.out.2⟩
end Go.Proofs.Ythopgmmodldljab
