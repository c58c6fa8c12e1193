import Derived.Test.YthopgmmodldljaaEc
namespace Go.Proofs.Ythopgmmodldljaa
open Go Go.RowKit
set_option linter.unusedVariables false
set_option linter.unusedSimpArgs false
def bhT (f : Fi) : Th × Bool := if f.kind = 1 then ((3, f.ino), true) else if f.kind = 2 then ((6, f.pipe), true) else if f.kind = 3 then ((7, f.pipe), true) else ((0, 0), false)
theorem results_cell_tmp {P : Program} {fn : Func} {p q : Tmp} {ty : TypeId} (h : fn.results = #[.cell p ty, .tmp q]) (tmps : Array Value) (w : World) (ad : Addr) (v : Value) (hp : tmps.getD p undef = .pointer (some ad)) (hl : (loadVar ty ad).run P w = .ok v w) : (results fn tmps).run P w = .ok (.tuple #[v, tmps.getD q undef]) w := by
  have hp' : tmps[p]?.getD undef = .pointer (some ad) := by simpa using hp
  simp [results, h, hp', asAddr, hl]
set_option maxRecDepth 100000 in
theorem behind_any (f : Fi) (w : World) : Calls Try.prog 68 #[.agg f.l.toArray] w fun e w' => e = .returned (.tuple #[.agg (thL (bhT f).1).toArray, .bool (bhT f).2]) ∧ Below w.heap.size w w' := by
  go_enter Try.func68, Try.ntmps68
  go_upto_region 1 with (first
    | (refine wpList_is (.box 94 (.tmp 0)) rfl ?_; refine wpList_boxG 94 f.l 1 (.tmp 0) _ rfl rfl rfl rfl ?_; intro W1 hW1 hB1 hs1)
    | (refine wpList_is (.alloc 125) rfl ?_; refine wpList_allocG 125 2 16 info125 2 _ rfl rfl rfl ?_; intro W2 zs hzs hW2 hB2 hs2)
    | fail)
  have hrg : W2.rangeAt w.heap.size 0 f.l := range_keep (range_heap hW1) hB2 (by omega)
  rw [hs1] at hW2
  try rw [hs1]
  have HB : Hid (Below w.heap.size w W2 ∧ W2.heap.size = w.heap.size + 2) := ⟨hB1.trans (hB2.mono (by omega)), by omega⟩
  have k1 : W2.cell? ⟨w.heap.size, 1, .none⟩ = some (.int .i64 f.kind) := by have := hrg 1 _ rfl; rw [Nat.zero_add] at this; exact this
  have k5 : W2.cell? ⟨w.heap.size, 5, .none⟩ = some (.int .i64 f.ino) := by have := hrg 5 _ rfl; rw [Nat.zero_add] at this; exact this
  have k7 : W2.cell? ⟨w.heap.size, 7, .none⟩ = some (.int .i64 f.pipe) := by have := hrg 7 _ rfl; rw [Nat.zero_add] at this; exact this
  clear hrg hW1 hB1 hs1 hB2 hs2
  by_cases h1 : f.kind = 1
  · have HT : Hid (bhT f = ((3, f.ino), true)) := by show _ = _; unfold bhT; rw [if_pos h1]
    have e1 : (f.kind == 1) = true := by simp; omega
    go_wp2_with (first
      | (refine wpList_is (.build 125 #[(0, .const (.int .i64 3)), (1, .tmp 9)]) rfl ?_; refine wpList_buildTo rfl 125 _ rfl (some 10) rfl (thL (3, f.ino)).toArray (by kernel_rfl) ?_)
      | (refine wpList_is (.store 125 (.tmp 2) (.tmp 10)) rfl ?_; refine wpList_storeG 125 2 16 (w.heap.size + 1) info125 (thL (3, f.ino)) zs rfl hzs (List.all_eq_true.1 (show (thL (3, f.ino)).all (fun u => u.oneCell') = true from rfl)) (.tmp 2) (.tmp 10) _ rfl rfl rfl rfl rfl hW2 ?_; intro W6 hW6 hg6 hs6)
      | fail)
    refine bodyPost_ret (results_cell_tmp (p := 2) (q := 3) (ty := 125) rfl _ _ ⟨w.heap.size + 1, 0, .none⟩ _ rfl (run_loadVar_mid (P := Try.prog) _ (w.heap.size + 1) 0 125 (thL (3, f.ino)) _ (range_heap hW6) Try.underlying125 rfl (by kernel_rfl))) rfl ?_
    exact ⟨by rw [HT.out]; rfl, HB.out.1.trans ⟨hg6.os, hg6.tape, hg6.output, hg6.size, fun k hk => hg6.block k (by have := HB.out.2; omega) (by intro e; injection e; omega)⟩⟩
  by_cases h2 : f.kind = 2
  · have HT : Hid (bhT f = ((6, f.pipe), true)) := by show _ = _; unfold bhT; rw [if_neg h1, if_pos h2]
    have e1 : (f.kind == 1) = false := by simp; omega
    have e2 : (f.kind == 2) = true := by simp; omega
    go_wp2_with (first
      | (refine wpList_is (.build 125 #[(0, .const (.int .i64 6)), (1, .tmp 14)]) rfl ?_; refine wpList_buildTo rfl 125 _ rfl (some 15) rfl (thL (6, f.pipe)).toArray (by kernel_rfl) ?_)
      | (refine wpList_is (.store 125 (.tmp 2) (.tmp 15)) rfl ?_; refine wpList_storeG 125 2 16 (w.heap.size + 1) info125 (thL (6, f.pipe)) zs rfl hzs (List.all_eq_true.1 (show (thL (6, f.pipe)).all (fun u => u.oneCell') = true from rfl)) (.tmp 2) (.tmp 15) _ rfl rfl rfl rfl rfl hW2 ?_; intro W6 hW6 hg6 hs6)
      | fail)
    refine bodyPost_ret (results_cell_tmp (p := 2) (q := 3) (ty := 125) rfl _ _ ⟨w.heap.size + 1, 0, .none⟩ _ rfl (run_loadVar_mid (P := Try.prog) _ (w.heap.size + 1) 0 125 (thL (6, f.pipe)) _ (range_heap hW6) Try.underlying125 rfl (by kernel_rfl))) rfl ?_
    exact ⟨by rw [HT.out]; rfl, HB.out.1.trans ⟨hg6.os, hg6.tape, hg6.output, hg6.size, fun k hk => hg6.block k (by have := HB.out.2; omega) (by intro e; injection e; omega)⟩⟩
  by_cases h3 : f.kind = 3
  · have HT : Hid (bhT f = ((7, f.pipe), true)) := by show _ = _; unfold bhT; rw [if_neg h1, if_neg h2, if_pos h3]
    have e1 : (f.kind == 1) = false := by simp; omega
    have e2 : (f.kind == 2) = false := by simp; omega
    have e3 : (f.kind == 3) = true := by simp; omega
    go_wp2_with (first
      | (refine wpList_is (.build 125 #[(0, .const (.int .i64 7)), (1, .tmp 19)]) rfl ?_; refine wpList_buildTo rfl 125 _ rfl (some 20) rfl (thL (7, f.pipe)).toArray (by kernel_rfl) ?_)
      | (refine wpList_is (.store 125 (.tmp 2) (.tmp 20)) rfl ?_; refine wpList_storeG 125 2 16 (w.heap.size + 1) info125 (thL (7, f.pipe)) zs rfl hzs (List.all_eq_true.1 (show (thL (7, f.pipe)).all (fun u => u.oneCell') = true from rfl)) (.tmp 2) (.tmp 20) _ rfl rfl rfl rfl rfl hW2 ?_; intro W6 hW6 hg6 hs6)
      | fail)
    refine bodyPost_ret (results_cell_tmp (p := 2) (q := 3) (ty := 125) rfl _ _ ⟨w.heap.size + 1, 0, .none⟩ _ rfl (run_loadVar_mid (P := Try.prog) _ (w.heap.size + 1) 0 125 (thL (7, f.pipe)) _ (range_heap hW6) Try.underlying125 rfl (by kernel_rfl))) rfl ?_
    exact ⟨by rw [HT.out]; rfl, HB.out.1.trans ⟨hg6.os, hg6.tape, hg6.output, hg6.size, fun k hk => hg6.block k (by have := HB.out.2; omega) (by intro e; injection e; omega)⟩⟩
  · have HT : Hid (bhT f = ((0, 0), false)) := by show _ = _; unfold bhT; rw [if_neg h1, if_neg h2, if_neg h3]
    have e1 : (f.kind == 1) = false := by simp; omega
    have e2 : (f.kind == 2) = false := by simp; omega
    have e3 : (f.kind == 3) = false := by simp; omega
    go_wp2_with (first
      | (refine wpList_is (.build 125 #[]) rfl ?_; refine wpList_buildTo rfl 125 _ rfl (some 21) rfl (thL (0, 0)).toArray (by kernel_rfl) ?_)
      | (refine wpList_is (.store 125 (.tmp 2) (.tmp 21)) rfl ?_; refine wpList_storeG 125 2 16 (w.heap.size + 1) info125 (thL (0, 0)) zs rfl hzs (List.all_eq_true.1 (show (thL (0, 0)).all (fun u => u.oneCell') = true from rfl)) (.tmp 2) (.tmp 21) _ rfl rfl rfl rfl rfl hW2 ?_; intro W6 hW6 hg6 hs6)
      | fail)
    refine bodyPost_ret (results_cell_tmp (p := 2) (q := 3) (ty := 125) rfl _ _ ⟨w.heap.size + 1, 0, .none⟩ _ rfl (run_loadVar_mid (P := Try.prog) _ (w.heap.size + 1) 0 125 (thL (0, 0)) _ (range_heap hW6) Try.underlying125 rfl (by kernel_rfl))) rfl ?_
    exact ⟨by rw [HT.out]; rfl, HB.out.1.trans ⟨hg6.os, hg6.tape, hg6.output, hg6.size, fun k hk => hg6.block k (by have := HB.out.2; omega) (by intro e; injection e; omega)⟩⟩
end Go.Proofs.Ythopgmmodldljaa
