import Derived.Test.YthopgmmodldljabEc
namespace Go.Proofs.Ythopgmmodldljab
open Go Go.RowKit
set_option linter.unusedVariables false
set_option linter.unusedSimpArgs false
def bhT (f : Fi) : Th × Bool := if f.kind = 1 then ((3, f.ino), true) else if f.kind = 2 then ((6, f.pipe), true) else if f.kind = 3 then ((7, f.pipe), true) else ((0, 0), false)
theorem results_cell_tmp {P : Program} {fn : Func} {p q : Tmp} {ty : TypeId} (h : fn.results = #[.cell p ty, .tmp q]) (tmps : Array Value) (w : World) (ad : Addr) (v : Value) (hp : tmps.getD p undef = .pointer (some ad)) (hl : (loadVar ty ad).run P w = .ok v w) : (results fn tmps).run P w = .ok (.tuple #[v, tmps.getD q undef]) w := by
 have hp' : tmps[p]?.getD undef = .pointer (some ad) := by simpa using hp
 simp [results, h, hp', asAddr, hl]
set_option maxRecDepth 100000 in
theorem behind_any (f : Fi) (w : World) : Calls Try.prog 46 #[.agg f.l.toArray] w fun e w' => e = .returned (.tuple #[.agg (thL (bhT f).1).toArray, .bool (bhT f).2]) ∧ Below w.heap.size w w' := by
 go_enter Try.func46, Try.ntmps46
 go_upto_region 1 with (first
  | (refine wpList_is (.box 67 (.tmp 0)) rfl ?_; refine wpList_boxG 67 f.l 1 (.tmp 0) _ rfl rfl rfl rfl ?_; intro W1 hW1 hB1 hs1)
  | (refine wpList_is (.alloc 101) rfl ?_; refine wpList_allocG 101 2 16 info125 2 _ rfl rfl rfl ?_; intro W2 zs hzs hW2 hB2 hs2)
  | fail)
 have hrg : W2.rangeAt w.heap.size 0 f.l := range_keep (range_heap hW1) hB2 (by omega)
 rw [hs1] at hW2
 try rw [hs1]
 have HB : Hid (Below w.heap.size w W2 ∧ W2.heap.size = w.heap.size + 2) := ⟨hB1.trans (hB2.mono (by omega)), by omega⟩
 have k1 : W2.cell? ⟨w.heap.size, 1, .none⟩ = some (.int .i64 f.kind) := by have := hrg 1 _ rfl; rw [Nat.zero_add] at this; exact this
 have k5 : W2.cell? ⟨w.heap.size, 5, .none⟩ = some (.int .i64 f.ino) := by have := hrg 5 _ rfl; rw [Nat.zero_add] at this; exact this
 have k7 : W2.cell? ⟨w.heap.size, 7, .none⟩ = some (.int .i64 f.pipe) := by have := hrg 7 _ rfl; rw [Nat.zero_add] at this; exact this
 clear hrg hW1 hB1 hs1 hB2 hs2
 by_cases h1 : f.kind = 1
 ·have HT : Hid (bhT f = ((3, f.ino), true)) := by show _ = _; unfold bhT; rw [if_pos h1]
  have e1 : (f.kind == 1) = true := by simp; omega
  go_wp2_with (first
   | (refine wpList_is (.build 101 #[(0, .const (.int .i64 3)), (1, .tmp 9)]) rfl ?_; refine wpList_buildTo rfl 101 _ rfl (some 10) rfl (thL (3, f.ino)).toArray (by kernel_rfl) ?_)
   | (refine wpList_is (.store 101 (.tmp 2) (.tmp 10)) rfl ?_; refine wpList_storeG 101 2 16 (w.heap.size + 1) info125 (thL (3, f.ino)) zs rfl hzs (List.all_eq_true.1 (show (thL (3, f.ino)).all (fun u => u.oneCell') = true from rfl)) (.tmp 2) (.tmp 10) _ rfl rfl rfl rfl rfl hW2 ?_; intro W6 hW6 hg6 hs6)
   | fail)
  refine bodyPost_ret (results_cell_tmp (p := 2) (q := 3) (ty := 101) rfl _ _ ⟨w.heap.size + 1, 0, .none⟩ _ rfl (run_loadVar_mid (P := Try.prog) _ (w.heap.size + 1) 0 101 (thL (3, f.ino)) _ (range_heap hW6) Try.underlying101 rfl (by kernel_rfl))) rfl ?_
  exact ⟨by rw [HT.out]; rfl, HB.out.1.trans ⟨hg6.os, hg6.tape, hg6.output, hg6.size, fun k hk => hg6.block k (by have := HB.out.2; omega) (by intro e; injection e; omega)⟩⟩
 by_cases h2 : f.kind = 2
 ·have HT : Hid (bhT f = ((6, f.pipe), true)) := by show _ = _; unfold bhT; rw [if_neg h1, if_pos h2]
  have e1 : (f.kind == 1) = false := by simp; omega
  have e2 : (f.kind == 2) = true := by simp; omega
  go_wp2_with (first
   | (refine wpList_is (.build 101 #[(0, .const (.int .i64 6)), (1, .tmp 14)]) rfl ?_; refine wpList_buildTo rfl 101 _ rfl (some 15) rfl (thL (6, f.pipe)).toArray (by kernel_rfl) ?_)
   | (refine wpList_is (.store 101 (.tmp 2) (.tmp 15)) rfl ?_; refine wpList_storeG 101 2 16 (w.heap.size + 1) info125 (thL (6, f.pipe)) zs rfl hzs (List.all_eq_true.1 (show (thL (6, f.pipe)).all (fun u => u.oneCell') = true from rfl)) (.tmp 2) (.tmp 15) _ rfl rfl rfl rfl rfl hW2 ?_; intro W6 hW6 hg6 hs6)
   | fail)
  refine bodyPost_ret (results_cell_tmp (p := 2) (q := 3) (ty := 101) rfl _ _ ⟨w.heap.size + 1, 0, .none⟩ _ rfl (run_loadVar_mid (P := Try.prog) _ (w.heap.size + 1) 0 101 (thL (6, f.pipe)) _ (range_heap hW6) Try.underlying101 rfl (by kernel_rfl))) rfl ?_
  exact ⟨by rw [HT.out]; rfl, HB.out.1.trans ⟨hg6.os, hg6.tape, hg6.output, hg6.size, fun k hk => hg6.block k (by have := HB.out.2; omega) (by intro e; injection e; omega)⟩⟩
 by_cases h3 : f.kind = 3
 ·have HT : Hid (bhT f = ((7, f.pipe), true)) := by show _ = _; unfold bhT; rw [if_neg h1, if_neg h2, if_pos h3]
  have e1 : (f.kind == 1) = false := by simp; omega
  have e2 : (f.kind == 2) = false := by simp; omega
  have e3 : (f.kind == 3) = true := by simp; omega
  go_wp2_with (first
   | (refine wpList_is (.build 101 #[(0, .const (.int .i64 7)), (1, .tmp 19)]) rfl ?_; refine wpList_buildTo rfl 101 _ rfl (some 20) rfl (thL (7, f.pipe)).toArray (by kernel_rfl) ?_)
   | (refine wpList_is (.store 101 (.tmp 2) (.tmp 20)) rfl ?_; refine wpList_storeG 101 2 16 (w.heap.size + 1) info125 (thL (7, f.pipe)) zs rfl hzs (List.all_eq_true.1 (show (thL (7, f.pipe)).all (fun u => u.oneCell') = true from rfl)) (.tmp 2) (.tmp 20) _ rfl rfl rfl rfl rfl hW2 ?_; intro W6 hW6 hg6 hs6)
   | fail)
  refine bodyPost_ret (results_cell_tmp (p := 2) (q := 3) (ty := 101) rfl _ _ ⟨w.heap.size + 1, 0, .none⟩ _ rfl (run_loadVar_mid (P := Try.prog) _ (w.heap.size + 1) 0 101 (thL (7, f.pipe)) _ (range_heap hW6) Try.underlying101 rfl (by kernel_rfl))) rfl ?_
  exact ⟨by rw [HT.out]; rfl, HB.out.1.trans ⟨hg6.os, hg6.tape, hg6.output, hg6.size, fun k hk => hg6.block k (by have := HB.out.2; omega) (by intro e; injection e; omega)⟩⟩
 ·have HT : Hid (bhT f = ((0, 0), false)) := by show _ = _; unfold bhT; rw [if_neg h1, if_neg h2, if_neg h3]
  have e1 : (f.kind == 1) = false := by simp; omega
  have e2 : (f.kind == 2) = false := by simp; omega
  have e3 : (f.kind == 3) = false := by simp; omega
  go_wp2_with (first
   | (refine wpList_is (.build 101 #[]) rfl ?_; refine wpList_buildTo rfl 101 _ rfl (some 21) rfl (thL (0, 0)).toArray (by kernel_rfl) ?_)
   | (refine wpList_is (.store 101 (.tmp 2) (.tmp 21)) rfl ?_; refine wpList_storeG 101 2 16 (w.heap.size + 1) info125 (thL (0, 0)) zs rfl hzs (List.all_eq_true.1 (show (thL (0, 0)).all (fun u => u.oneCell') = true from rfl)) (.tmp 2) (.tmp 21) _ rfl rfl rfl rfl rfl hW2 ?_; intro W6 hW6 hg6 hs6)
   | fail)
  refine bodyPost_ret (results_cell_tmp (p := 2) (q := 3) (ty := 101) rfl _ _ ⟨w.heap.size + 1, 0, .none⟩ _ rfl (run_loadVar_mid (P := Try.prog) _ (w.heap.size + 1) 0 101 (thL (0, 0)) _ (range_heap hW6) Try.underlying101 rfl (by kernel_rfl))) rfl ?_
  exact ⟨by rw [HT.out]; rfl, HB.out.1.trans ⟨hg6.os, hg6.tape, hg6.output, hg6.size, fun k hk => hg6.block k (by have := HB.out.2; omega) (by intro e; injection e; omega)⟩⟩
end Go.Proofs.Ythopgmmodldljab
namespace Go.Proofs.Ythopgmmodldljab
open Go Go.RowKit
set_option linter.unusedVariables false
set_option linter.unusedSimpArgs false
theorem lit64 (n : Int) (h : 0 ≤ n ∧ n ≤ 100) : (Lit.int .i64 n).wf = true := by
 simp [Lit.wf, IntKind.min, IntKind.max, IntKind.signed, IntKind.bits]
 omega
def enI (pf : Th → Option Int) (x : In) (a : Int) : Th → Option Int := if x.ty = 1 then ent (ent pf (3, x.ino) a) (4, x.ino) a else ent pf (3, x.ino) a
set_option maxRecDepth 100000 in
theorem enterI_any {w : World} {s m1 m2 : Nat} {cs : List Value} {pf nf : Th → Option Int} (h : Sv w s m1 m2 cs pf nf) (x : In) (bv : Value) (hx : i64R x.ino) (a : Int) : Calls Try.prog 30 #[.pointer (some ⟨s, 0, .none⟩), .int .i64 a, .agg (x.l bv).toArray] w (EnP w s m1 m2 cs (enI pf x a) nf) := by
 have HS : Hid (Sv w s m1 m2 cs pf nf ∧ ThR (3, x.ino) ∧ ThR (4, x.ino)) := ⟨h, ⟨lit64 3 (by omega), hx⟩, ⟨lit64 4 (by omega), hx⟩⟩
 clear h hx
 go_enter Try.func30, Try.ntmps30
 go_wp2_with (first
  | (refine wpList_is (.box 63 (.tmp 2)) rfl ?_; refine wpList_boxG 63 (x.l bv) 5 (.tmp 2) _ rfl rfl rfl rfl ?_; intro W1 hW1 hB1 hs1; have k0 : W1.cell? ⟨w.heap.size, 0, .none⟩ = some (.int .i64 x.ino) := cell_heap (o := 0) hW1)
  | (refine wpList_is (.build 101 #[(0, .const (.int .i64 3)), (1, .tmp 9)]) rfl ?_; refine wpList_buildTo rfl 101 _ rfl (some 10) rfl (thL (3, x.ino)).toArray (by kernel_rfl) ?_)
  | fail)
 go_at_call 31
 refine (enter_any (HS.out.1.keep hB1) HS.out.2.1 a).mono ?_
 rintro e W2 ⟨u, rfl, hv, hF⟩
 have hsb : w.heap.size ≠ m1 ∧ w.heap.size ≠ m2 := by have := HS.out.1.lt; omega
 have hblk : W2.heap[w.heap.size]? = some (.cells (x.l bv).toArray 63) := (hF.block _ (by omega) hsb.1 hsb.2).trans hW1
 have k0 : W2.cell? ⟨w.heap.size, 0, .none⟩ = some (.int .i64 x.ino) := cell_heap (o := 0) hblk
 have k1 : W2.cell? ⟨w.heap.size, 1, .none⟩ = some (.int .i64 x.ty) := cell_heap (o := 1) hblk
 have HV : Hid (Sv W2 s m1 m2 cs (ent pf (3, x.ino) a) nf ∧ Fr m1 m2 w W2) := ⟨hv, (Fr.of_below hB1).trans hF⟩
 clear hv hF hblk hW1 hB1 hs1 hsb
 by_cases hty : x.ty = 1
 ·have HE : Hid (enI pf x a = ent (ent pf (3, x.ino) a) (4, x.ino) a) := by show _ = _; unfold enI; rw [if_pos hty]
  have e1 : (x.ty == 1) = true := by simp [hty]
  clear hty
  go_wp2_with (first
   | (refine wpList_is (.build 101 #[(0, .const (.int .i64 4)), (1, .tmp 18)]) rfl ?_; refine wpList_buildTo rfl 101 _ rfl (some 19) rfl (thL (4, x.ino)).toArray (by kernel_rfl) ?_)
   | fail)
  go_at_call 31
  refine (enter_any HV.out.1 HS.out.2.2 a).mono ?_
  rintro e W3 ⟨u3, rfl, hv3, hF3⟩
  have HV3 : Hid (Sv W3 s m1 m2 cs (ent (ent pf (3, x.ino) a) (4, x.ino) a) nf ∧ Fr m1 m2 w W3) := ⟨hv3, HV.out.2.trans hF3⟩
  clear hv3 hF3
  go_wp2
  refine bodyPost_end (results_none rfl _ _ _) rfl ?_
  exact ⟨_, rfl, by rw [HE.out]; exact HV3.out⟩
 ·have HE : Hid (enI pf x a = ent pf (3, x.ino) a) := by show _ = _; unfold enI; rw [if_neg hty]
  have e1 : (x.ty == 1) = false := by simp [hty]
  clear hty
  go_wp2
  refine bodyPost_end (results_none rfl _ _ _) rfl ?_
  exact ⟨_, rfl, by rw [HE.out]; exact HV.out⟩
end Go.Proofs.Ythopgmmodldljab
namespace Go.Proofs.Ythopgmmodldljab
open Go Go.RowKit
set_option linter.unusedVariables false
set_option linter.unusedSimpArgs false
def Nb (nf : Th → Option Int) (K : Int) : Prop := ∀ t, 0 ≤ (nf t).getD 0 ∧ (nf t).getD 0 ≤ K
theorem Nb.cnt {nf : Th → Option Int} {K : Int} (h : Nb nf K) (t : Th) : Nb (cnt1 nf t) (K + 1) := fun u => by
 unfold cnt1 upd
 have h1 := h t
 have h2 := h u
 split
 ·simp only [Option.getD_some]; omega
 ·omega
theorem Nb.mono {nf : Th → Option Int} {K K' : Int} (h : Nb nf K) (hk : K ≤ K') : Nb nf K' := fun u => ⟨(h u).1, Int.le_trans (h u).2 hk⟩
def enF (pf : Th → Option Int) (f : Fi) (a : Int) : Th → Option Int := ent pf (2, f.num) a
def nmFi (f : Fi) : List Th := if (bhT f).2 then [(bhT f).1] else []
set_option maxRecDepth 100000 in
theorem enterF_any {w : World} {s m1 m2 : Nat} {cs : List Value} {pf nf : Th → Option Int} (h : Sv w s m1 m2 cs pf nf) (f : Fi) (hf : FiR f) (a : Int) {K : Int} (hN : Nb nf K) (hK : K ≤ 1000000000) : Calls Try.prog 29 #[.pointer (some ⟨s, 0, .none⟩), .int .i64 a, .agg f.l.toArray] w (EnP w s m1 m2 cs (enF pf f a) ((nmFi f).foldl cnt1 nf)) := by
 have hbt : ThR (bhT f).1 := by
  unfold bhT
  split
  ·exact ⟨lit64 3 (by omega), hf.ino⟩
  ·split
   ·exact ⟨lit64 6 (by omega), hf.pipe⟩
   ·split
    ·exact ⟨lit64 7 (by omega), hf.pipe⟩
    ·exact ⟨lit64 0 (by omega), lit64 0 (by omega)⟩
 have HS : Hid (Sv w s m1 m2 cs pf nf ∧ ThR (2, f.num) ∧ ThR (bhT f).1 ∧ Nb nf K ∧ K ≤ 1000000000) := ⟨h, ⟨lit64 2 (by omega), hf.num⟩, hbt, hN, hK⟩
 clear h hf hbt hN hK
 go_enter Try.func29, Try.ntmps29
 go_wp2_with (first
  | (refine wpList_is (.box 67 (.tmp 2)) rfl ?_; refine wpList_boxG 67 f.l 5 (.tmp 2) _ rfl rfl rfl rfl ?_; intro W1 hW1 hB1 hs1; have k0 : W1.cell? ⟨w.heap.size, 0, .none⟩ = some (.int .i64 f.num) := cell_heap (o := 0) hW1)
  | (refine wpList_is (.build 101 #[(0, .const (.int .i64 2)), (1, .tmp 11)]) rfl ?_; refine wpList_buildTo rfl 101 _ rfl (some 12) rfl (thL (2, f.num)).toArray (by kernel_rfl) ?_)
  | fail)
 go_at_call 31
 refine (enter_any (HS.out.1.keep hB1) HS.out.2.1 a).mono ?_
 rintro e W2 ⟨u, rfl, hv, hF⟩
 have hsb : w.heap.size ≠ m1 ∧ w.heap.size ≠ m2 := by have := HS.out.1.lt; omega
 have hblk : W2.heap[w.heap.size]? = some (.cells f.l.toArray 67) := (hF.block _ (by omega) hsb.1 hsb.2).trans hW1
 have r1 : W2.rangeAt w.heap.size 0 f.l := range_heap hblk
 have HV : Hid (Sv W2 s m1 m2 cs (ent pf (2, f.num) a) nf ∧ Fr m1 m2 w W2) := ⟨hv, (Fr.of_below hB1).trans hF⟩
 clear hv hF hblk hW1 hB1 hs1 hsb k0
 go_wp2_with (first
  | (refine wpList_is (.load 67 (.tmp 5)) rfl ?_; refine wpList_loadG 67 8 56 info94 _ Try.underlying67 rfl f.l rfl w.heap.size 0 (.tmp 5) rfl rfl rfl r1 (some 15) rfl ?_)
  | fail)
 clear r1
 go_at_call 46
 refine (behind_any f _).mono ?_
 rintro e W3 ⟨rfl, hB3⟩
 have HV3 : Hid (Sv W3 s m1 m2 cs (ent pf (2, f.num) a) nf ∧ Fr m1 m2 w W3) := ⟨HV.out.1.keep hB3, HV.out.2.trans (Fr.of_below hB3)⟩
 clear HV hB3
 obtain ⟨t, ht⟩ : ∃ t, t = (bhT f).1 := ⟨_, rfl⟩
 obtain ⟨b, hb⟩ : ∃ b, b = (bhT f).2 := ⟨_, rfl⟩
 rw [← ht, ← hb]
 have HT : Hid (ThR t ∧ nmFi f = if b then [t] else []) := ⟨by rw [ht]; exact HS.out.2.2.1, by unfold nmFi; rw [← ht, ← hb]⟩
 clear ht hb
 cases b
 ·go_wp2_with (first
   | (refine wpList_is (.alloc 101) rfl ?_; refine wpList_laidG 101 2 16 info125 (thL t) rfl (List.all_eq_true.1 (show (thL t).all (fun u => u.oneCell') = true from rfl)) 6 (.tmp 17) _ _ rfl rfl rfl rfl rfl rfl rfl rfl ?_; intro W4 hW4 hB4 hs4)
   | fail)
  refine bodyPost_end (results_none rfl _ _ _) rfl ?_
  exact ⟨_, rfl, by rw [HT.out.2]; exact ⟨HV3.out.1.keep hB4, HV3.out.2.trans (Fr.of_below hB4)⟩⟩
 ·go_upto_region 4 with (first
   | (refine wpList_is (.alloc 101) rfl ?_; refine wpList_laidG 101 2 16 info125 (thL t) rfl (List.all_eq_true.1 (show (thL t).all (fun u => u.oneCell') = true from rfl)) 6 (.tmp 17) _ _ rfl rfl rfl rfl rfl rfl rfl rfl ?_; intro W4 hW4 hB4 hs4)
   | fail)
  obtain ⟨g, hg⟩ : ∃ g, g = W3.heap.size := ⟨_, rfl⟩
  rw [← hg] at hW4 ⊢
  obtain ⟨c, hc⟩ : ∃ c, c = (nf t).getD 0 := ⟨_, rfl⟩
  have hc1 : 0 ≤ c ∧ c ≤ 1000000000 := by have h1 := HS.out.2.2.2.1 t; have h2 := HS.out.2.2.2.2; rw [hc]; omega
  have hwr : IntKind.i64.wrap (c + 1) = c + 1 := by rw [IntKind.wrap_i64]; omega
  have hv := HV3.out.1.keep hB4
  have hvd : Sv W4.drew s m1 m2 cs (ent pf (2, f.num) a) nf := hv.keep (Below.refl _ _).drew
  obtain ⟨st, W5, he1, he2, he3, he4, he5⟩ := hvd.mn.entry HT.out.1
  rw [← hc] at he1 he2
  have hent : (Instr.mapEntry 77 (.map (some m2)) (.agg (thL t).toArray)).run Try.prog W4.drew = .ok (.tuple #[.int .i64 c, .int .i64 st]) W5 := he1
  obtain ⟨W6, hs1, hs2, hs3, hs4'⟩ := he5 W5 (c + 1) rfl
  have hsto : (Instr.entryStore 77 (.map (some m2)) (.int .i64 st) (.int .i64 (c + 1))).run Try.prog W5 = .ok () W6 := hs1
  have hne : g ≠ m2 := by have := HV3.out.1.lt; omega
  have hgl : g < W4.heap.size := by omega
  have hS : (fun V : World => V.cell? ⟨s, 14, .none⟩ = some (.map (some m2)) ∧ V.rangeAt g 0 (thL t) ∧ (Instr.lookup 77 (.map (some m2)) (.agg (thL t).toArray) false).run Try.prog V = .ok (.int .i64 c) V) W4.drew := ⟨hvd.cell13.2, range_heap hW4, by rw [hc]; exact (hvd.mn.look HT.out.1).1⟩
  have hv5 := hvd.put2 he3 he2
  have hS1 : (fun V : World => V.cell? ⟨s, 14, .none⟩ = some (.map (some m2)) ∧ V.rangeAt g 0 (thL t) ∧ (Instr.lookup 77 (.map (some m2)) (.agg (thL t).toArray) false).run Try.prog V = .ok (.int .i64 c) V) W5 := ⟨hv5.cell13.2, range_heap ((he3.block g hgl (by intro e; injection e with e; exact hne e)).trans hW4), by have h1 := (hv5.mn.look HT.out.1).1; simp only [upd, if_true, Option.getD_some] at h1; exact h1⟩
  have HV6 : Hid (Sv W6 s m1 m2 cs (ent pf (2, f.num) a) (cnt1 nf t) ∧ Fr m1 m2 w W6) := ⟨by unfold cnt1; rw [← hc]; exact hv5.put2 hs3 hs2, ((HV3.out.2.trans (Fr.of_below hB4.drew)).trans (Fr.of_grown he3 (.inr rfl))).trans (Fr.of_grown hs3 (.inr rfl))⟩
  clear hg hc hv hvd he1 he2 he3 he4 he5 hs1 hs2 hs3 hs4' hne hgl hv5 hW4 hB4 hs4
  refine region_set (fun V => V.cell? ⟨s, 14, .none⟩ = some (.map (some m2)) ∧ V.rangeAt g 0 (thL t) ∧ (Instr.lookup 77 (.map (some m2)) (.agg (thL t).toArray) false).run Try.prog V = .ok (.int .i64 c) V) 9 [] (by kernel_rfl) ?_
  refine sT 0 (.pointer (some ⟨s, 0, .none⟩)) rfl (fun ww hSw => by obtain ⟨hs1, hs2, hs3⟩ := hSw; go_simp) hS ?_
  simp only [x0,x1,x2,x3,x4,x5,x6]
  refine sT 1 (.pointer (some ⟨s, 0, .none⟩)) rfl (fun ww hSw => by obtain ⟨hs1, hs2, hs3⟩ := hSw; go_simp) hS ?_
  simp only [x0,x1,x2,x3,x4,x5,x6]
  refine sT 2 (.pointer (some ⟨s, 14, .none⟩)) rfl (fun ww hSw => by obtain ⟨hs1, hs2, hs3⟩ := hSw; go_simp) hS ?_
  simp only [x0,x1,x2,x3,x4,x5,x6]
  refine sT 3 (.map (some m2)) rfl (fun ww hSw => by obtain ⟨hs1, hs2, hs3⟩ := hSw; go_simp) hS ?_
  simp only [x0,x1,x2,x3,x4,x5,x6]
  refine sV (i := 4) (v := .agg ((thL t)).toArray) rfl (yieldsIf_load_mid (by rfl) 101 (.tmp 6) rfl (g) (0) rfl ((thL t)) _ (fun ww hSw => hSw.2.1) Try.underlying101 rfl (by first | kernel_rfl | (rw [rfl]; kernel_rfl))) hS ?_
  simp only [x0,x1,x2,x3,x4,x5,x6]
  refine sT 5 (.int .i64 c) rfl (fun ww hSw => by obtain ⟨hs1, hs2, hs3⟩ := hSw; go_simp) hS ?_
  simp only [x0,x1,x2,x3,x4,x5,x6]
  refine sT 6 (.int .i64 (c + 1)) rfl (fun ww hSw => by obtain ⟨hs1, hs2, hs3⟩ := hSw; go_simp) hS ?_
  simp only [x0,x1,x2,x3,x4,x5,x6]
  refine set_only (i := 7) (by kernel_rfl) rfl (by rfl) (fun K hK => ?_)
  go_simp
  refine hK.out _ _ (fun _ => hS1) ?_
  clear hK K
  try simp only [x0,x1,x2,x3,x4,x5,x6]
  refine sT 8 (.int .i64 st) rfl (fun ww hSw => by obtain ⟨hs1, hs2, hs3⟩ := hSw; go_simp) hS1 ?_
  simp only [x0,x1,x2,x3,x4,x5,x6]
  refine set_tail 1 9 _ _ _ _ (by kernel_rfl) (by decide) ?_
  simp only [List.toList_toArray, List.drop_succ_cons, List.drop_zero]
  clear hS hS1
  go_wp2
  refine bodyPost_end (results_none rfl _ _ _) rfl ?_
  exact ⟨_, rfl, by rw [HT.out.2]; exact HV6.out⟩
end Go.Proofs.Ythopgmmodldljab
