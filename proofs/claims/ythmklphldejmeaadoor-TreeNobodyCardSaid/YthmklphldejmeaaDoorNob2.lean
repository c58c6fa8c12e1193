import Derived.Test.YthmklphldejmeaaDoorNob1
import Derived.LoopN
import Derived.Deep.RegionHeld
import Derived.Deep.MidRow
import Derived.Deep.DeepCutAuto
namespace Go.Proofs.YthmklphldejmeaaDoor
open Go.RowKit
set_option linter.unusedVariables false
set_option linter.unusedSimpArgs false
set_option maxRecDepth 10000
theorem range_new (w : World) (l : List Value) (t : TypeId) : (w.alloc (.cells l.toArray t)).rangeAt w.heap.size 0 l := by
  intro j v hv
  rw [Nat.zero_add, World.cell?_alloc_at _ _ _ _ rfl]
  simpa using hv
theorem results_cell_any {P : Program} {fn : Func} {p : Tmp} {ty : TypeId} (h : fn.results = #[.cell p ty]) (tmps : Array Value) (w : World) (ad : Addr) (v : Value) (hp : tmps.getD p undef = .pointer (some ad)) (hl : (loadVar ty ad).run P w = .ok v w) : (results fn tmps).run P w = .ok v w := by
  have hp' : tmps[p]?.getD undef = .pointer (some ad) := by simpa using hp
  simp [results, h, hp', asAddr, hl]
theorem results_cell_tmp' {P : Program} {fn : Func} {a p : Tmp} {ty : TypeId} (h : fn.results = #[.cell p ty, .tmp a]) (tmps : Array Value) (w : World) (ad : Addr) (v : Value) (hp : tmps.getD p undef = .pointer (some ad)) (hl : (loadVar ty ad).run P w = .ok v w) : (results fn tmps).run P w = .ok (.tuple #[v, tmps.getD a undef]) w := by
  have hp' : tmps[p]?.getD undef = .pointer (some ad) := by simpa using hp
  simp [results, h, hp', asAddr, hl]
theorem results_cell2 {P : Program} {fn : Func} {p q : Tmp} {ty tz : TypeId} (h : fn.results = #[.cell p ty, .cell q tz]) (tmps : Array Value) (w : World) (ad ae : Addr) (v u : Value) (hp : tmps.getD p undef = .pointer (some ad)) (hl : (loadVar ty ad).run P w = .ok v w) (hq : tmps.getD q undef = .pointer (some ae)) (hm : (loadVar tz ae).run P w = .ok u w) : (results fn tmps).run P w = .ok (.tuple #[v, u]) w := by
  have hp' : tmps[p]?.getD undef = .pointer (some ad) := by simpa using hp
  have hq' : tmps[q]?.getD undef = .pointer (some ae) := by simpa using hq
  simp [results, h, hp', hq', asAddr, hl, hm]
theorem read_no {w : World} {v : Value} (h : Uns w v) (i o n : Int) : Calls Tryd.prog 8 #[v, .int .i64 i, .int .i64 o, .int .i64 n] w fun e w' => e = .returned (.slice .none 0 0) ∧ Below w.heap.size w w' := by
  have hv : v.cells = #[v] := by rcases h with rfl | ⟨p, rfl, _, _⟩ <;> rfl
  have u1 : ∀ o : Obj, Uns (w.alloc o) v := fun o => h.below (below1 w o)
  rcases h with rfl | ⟨p, rfl, hp, hc⟩
  · go_enter Tryd.func8, Tryd.ntmps8
    go_wp2_with (go_at_call 26; refine (get_no (u1 _) i).mono ?_; rintro _ _ ⟨rfl, rfl⟩)
    go_ret
    exact ⟨rfl, below1 _ _⟩
  · go_enter Tryd.func8, Tryd.ntmps8
    go_wp2_with (go_at_call 26; refine (get_no (u1 _) i).mono ?_; rintro _ _ ⟨rfl, rfl⟩)
    go_ret
    exact ⟨rfl, below1 _ _⟩
theorem stat_no {w : World} {v : Value} (h : Uns w v) (i : Int) : Calls Tryd.prog 13 #[v, .int .i64 i] w fun e w' => e = .returned (.agg #[.int .i32 0, .int .u32 0, .int .i16 0, .int .i16 0, .int .u64 0]) ∧ Below w.heap.size w w' := by
  have u1 : ∀ o : Obj, Uns (w.alloc o) v := fun o => h.below (below1 w o)
  go_enter Tryd.func13, Tryd.ntmps13
  go_wp2_with (go_at_call 26; refine (get_no (u1 _) i).mono ?_; rintro _ _ ⟨rfl, rfl⟩)
  exact bodyPost_ret (results_cell_any (p := 4) (ty := 47) rfl _ _ ⟨w.heap.size, 0, .none⟩ _ rfl (run_loadVar_mid (P := Tryd.prog) _ w.heap.size 0 47 [.int .i32 0, .int .u32 0, .int .i16 0, .int .i16 0, .int .u64 0] _ (range_new w _ 47) Tryd.underlying47 rfl (by kernel_rfl))) rfl ⟨rfl, below1 _ _⟩
theorem look_no {w : World} {v : Value} (h : Uns w v) (i : Int) : Calls Tryd.prog 14 #[v, .int .i64 i] w fun e w' => e = .returned (.agg #[.int .i64 0, .int .i64 0, .int .i16 0, .int .i16 0, .int .i64 0, .int .i64 0, .int .i64 0, .slice .none 0 0]) ∧ Below w.heap.size w w' := by
  have u1 : ∀ o : Obj, Uns (w.alloc o) v := fun o => h.below (below1 w o)
  go_enter Tryd.func14, Tryd.ntmps14
  go_wp2_with (go_at_call 26; refine (get_no (u1 _) i).mono ?_; rintro _ _ ⟨rfl, rfl⟩)
  exact bodyPost_ret (results_cell_any (p := 4) (ty := 51) rfl _ _ ⟨w.heap.size, 0, .none⟩ _ rfl (run_loadVar_mid (P := Tryd.prog) _ w.heap.size 0 51 [.int .i64 0, .int .i64 0, .int .i16 0, .int .i16 0, .int .i64 0, .int .i64 0, .int .i64 0, .slice .none 0 0] _ (range_new w _ 51) Tryd.underlying51 rfl (by kernel_rfl))) rfl ⟨rfl, below1 _ _⟩
theorem spot_no {w : World} {v : Value} (h : Uns w v) (i : Int) (s : ByteArray) : Calls Tryd.prog 20 #[v, .int .i64 i, .string s] w fun e w' => e = .returned (.tuple #[.agg #[.int .i64 0, .pointer .none, .string ⟨#[]⟩, .int .i64 0, .int .i64 0], .int .i64 3]) ∧ Below w.heap.size w w' := by
  have u1 : ∀ o : Obj, Uns (w.alloc o) v := fun o => h.below (below1 w o)
  go_enter Tryd.func20, Tryd.ntmps20
  go_wp2_with (go_at_call 18; refine (start_no (u1 _) i s).mono ?_; rintro _ _ ⟨rfl, rfl⟩)
  exact bodyPost_ret (results_cell_tmp' (p := 6) (a := 7) (ty := 68) rfl _ _ ⟨w.heap.size, 0, .none⟩ _ rfl (run_loadVar_mid (P := Tryd.prog) _ w.heap.size 0 68 [.int .i64 0, .pointer .none, .string ⟨#[]⟩, .int .i64 0, .int .i64 0] _ (range_new w _ 68) Tryd.underlying68 rfl (by kernel_rfl))) rfl ⟨rfl, below1 _ _⟩
theorem left_no {w : World} {v : Value} (h : Uns w v) : Calls Tryd.prog 16 #[v] w fun e w' => e = .returned (.int .i64 0) ∧ w' = w := by
  have c := get_no h
  go_enter Tryd.func16, Tryd.ntmps16
  go_wp2
  go_loopw [3, 4] (fun n i W => n = .int .i64 0 ∧ W = w ∧ ∃ k : Nat, k ≤ 200 ∧ i = .int .i64 k) (fun _ i _ => 200 - (intOf i).toNat)
  case atStart => exact ⟨rfl, rfl, 1, by omega, rfl⟩
  case round =>
    obtain ⟨rfl, rfl, k, hk, rfl⟩ := hrel
    by_cases hlt : k < 200
    · have i1 : (k : Int) < 200 := by omega
      go_wp2_with (go_at_call 26; refine (c k).mono ?_; rintro _ _ ⟨rfl, rfl⟩)
      refine ⟨⟨rfl, trivial, k + 1, by omega, by simp⟩, ?_⟩
      simp [intOf]
      omega
    · have i1 : ¬ (k : Int) < 200 := by omega
      go_wp2
      go_ret
      exact ⟨rfl, rfl⟩
theorem below4 (w : World) (a b c : Obj) : Below w.heap.size w (((w.alloc a).alloc b).alloc c) := (((below1 w a).alloc (by simp) b).alloc (by simp; omega) c)
set_option maxHeartbeats 1000000 in
theorem make_no {w : World} {v : Value} (h : Uns w v) (i t m n : Int) (s : ByteArray) : Calls Tryd.prog 5 #[v, .int .i64 i, .string s, .int .i64 t, .int .i16 m, .int .i16 n] w fun e w' => e = .returned (.tuple #[.int .i64 0, .int .i64 3]) ∧ Below w.heap.size w w' := by
  have hv : v.cells = #[v] := by rcases h with rfl | ⟨p, rfl, _, _⟩ <;> rfl
  obtain ⟨q, rfl⟩ : ∃ q, v = .pointer q := by rcases h with rfl | ⟨p, rfl, _, _⟩ <;> exact ⟨_, rfl⟩
  go_enter Tryd.func5, Tryd.ntmps5
  go_upto_region 1 with fail
  have l1 : ((((w.alloc (.cells #[.pointer q] 26)).alloc (.cells #[.int .i64 0] 3)).alloc (.cells #[.int .i64 0] 36))).cell? ⟨w.heap.size, 0, .none⟩ = some (.pointer q) := by
    rw [World.cell?_alloc_past _ _ _ (by simp only [World.size_alloc]; omega), World.cell?_alloc_past _ _ _ (by simp only [World.size_alloc]; omega), World.cell?_alloc_at _ _ _ _ rfl]; rfl
  have l2 : ((((w.alloc (.cells #[.pointer q] 26)).alloc (.cells #[.int .i64 0] 3)).alloc (.cells #[.int .i64 0] 36))).cell? ⟨w.heap.size + 1, 0, .none⟩ = some (.int .i64 0) := by
    rw [World.cell?_alloc_past _ _ _ (by simp only [World.size_alloc]; omega), World.cell?_alloc_at _ _ _ _ (by simp)]; rfl
  have l3 : ((((w.alloc (.cells #[.pointer q] 26)).alloc (.cells #[.int .i64 0] 3)).alloc (.cells #[.int .i64 0] 36))).cell? ⟨w.heap.size + 1 + 1, 0, .none⟩ = some (.int .i64 0) := by
    rw [World.cell?_alloc_at _ _ _ _ (by simp)]; rfl
  have f2 : ((((w.alloc (.cells #[.pointer q] 26)).alloc (.cells #[.int .i64 0] 3)).alloc (.cells #[.int .i64 0] 36))).frozen? ⟨w.heap.size + 1, 0, .none⟩ = false := by
    rw [World.frozen?_alloc_past _ _ _ (by simp only [World.size_alloc]; omega), World.frozen?_alloc_at _ _ _ _ (by simp)]
  have f3 : ((((w.alloc (.cells #[.pointer q] 26)).alloc (.cells #[.int .i64 0] 3)).alloc (.cells #[.int .i64 0] 36))).frozen? ⟨w.heap.size + 1 + 1, 0, .none⟩ = false := by
    rw [World.frozen?_alloc_at _ _ _ _ (by simp)]
  have hb := below4 w (.cells #[.pointer q] 26) (.cells #[.int .i64 0] 3) (.cells #[.int .i64 0] 36)
  have u := h.below hb
  have hz : ((((w.alloc (.cells #[.pointer q] 26)).alloc (.cells #[.int .i64 0] 3)).alloc (.cells #[.int .i64 0] 36))).heap.size = w.heap.size + 1 + 1 + 1 := by simp
  generalize ((((w.alloc (.cells #[.pointer q] 26)).alloc (.cells #[.int .i64 0] 3)).alloc (.cells #[.int .i64 0] 36))) = W at *
  go_wp2_with fail
  go_at_call 20
  refine (spot_no u i s).mono ?_
  rintro _ V ⟨rfl, hV⟩
  have m1 := (hV.cell (p := ⟨w.heap.size, 0, .none⟩) (by show w.heap.size < _; omega)).trans l1
  have m2 := (hV.cell (p := ⟨w.heap.size + 1, 0, .none⟩) (by show w.heap.size + 1 < _; omega)).trans l2
  have m3 := (hV.cell (p := ⟨w.heap.size + 1 + 1, 0, .none⟩) (by show w.heap.size + 1 + 1 < _; omega)).trans l3
  have g2 := (hV.frozen (p := ⟨w.heap.size + 1, 0, .none⟩) (by show w.heap.size + 1 < _; omega)).trans f2
  have g3 := (hV.frozen (p := ⟨w.heap.size + 1 + 1, 0, .none⟩) (by show w.heap.size + 1 + 1 < _; omega)).trans f3
  have hb2 := hb.trans (hV.mono (by omega))
  have hz2 := hV.size
  have k2 : w.heap.size + 1 + 1 < V.heap.size := by omega
  have k1 : w.heap.size + 1 < V.heap.size := by omega
  have k0 : w.heap.size < V.heap.size := by omega
  clear l1 l2 l3 f2 f3 hb u hz hz2 hV
  go_upto_region 2 with fail
  have n2 : ((V.setCell ⟨w.heap.size + 1 + 1, 0, .none⟩ (.int .i64 3)).alloc (.cells #[.int .i64 0, .pointer .none, .string ⟨#[]⟩, .int .i64 0, .int .i64 0] 68)).cell? ⟨w.heap.size + 1, 0, .none⟩ = some (.int .i64 0) := by
    rw [World.cell?_alloc_past _ _ _ (by rw [World.size_setCell]; exact k1), World.cell?_setCell_far _ _ _ _ (by show w.heap.size + 1 + 1 ≠ w.heap.size + 1; omega)]; exact m2
  have n3 : ((V.setCell ⟨w.heap.size + 1 + 1, 0, .none⟩ (.int .i64 3)).alloc (.cells #[.int .i64 0, .pointer .none, .string ⟨#[]⟩, .int .i64 0, .int .i64 0] 68)).cell? ⟨w.heap.size + 1 + 1, 0, .none⟩ = some (.int .i64 3) := by
    rw [World.cell?_alloc_past _ _ _ (by rw [World.size_setCell]; exact k2)]
    exact World.cell?_setCell_same _ _ _ m3
  have hb3 : Below w.heap.size w ((V.setCell ⟨w.heap.size + 1 + 1, 0, .none⟩ (.int .i64 3)).alloc (.cells #[.int .i64 0, .pointer .none, .string ⟨#[]⟩, .int .i64 0, .int .i64 0] 68)) := ((hb2.setCell (p := ⟨w.heap.size + 1 + 1, 0, .none⟩) (by show w.heap.size ≤ w.heap.size + 1 + 1; omega) _).alloc (by rw [World.size_setCell]; omega) _)
  have r2 : ((V.setCell ⟨w.heap.size + 1 + 1, 0, .none⟩ (.int .i64 3)).alloc (.cells #[.int .i64 0, .pointer .none, .string ⟨#[]⟩, .int .i64 0, .int .i64 0] 68)).frozen? ⟨w.heap.size + 1, 0, .none⟩ = false := by
    rw [World.frozen?_alloc_past _ _ _ (by rw [World.size_setCell]; exact k1), World.frozen?_setCell]; exact g2
  have r3 : ((V.setCell ⟨w.heap.size + 1 + 1, 0, .none⟩ (.int .i64 3)).alloc (.cells #[.int .i64 0, .pointer .none, .string ⟨#[]⟩, .int .i64 0, .int .i64 0] 68)).frozen? ⟨w.heap.size + 1 + 1, 0, .none⟩ = false := by
    rw [World.frozen?_alloc_past _ _ _ (by rw [World.size_setCell]; exact k2), World.frozen?_setCell]; exact g3
  clear m1 m2 m3 hb2 g2 g3
  generalize ((V.setCell ⟨w.heap.size + 1 + 1, 0, .none⟩ (.int .i64 3)).alloc (.cells #[.int .i64 0, .pointer .none, .string ⟨#[]⟩, .int .i64 0, .int .i64 0] 68)) = X at *
  go_upto_region 5 with fail
  go_region
  go_wp2
  have c2 : ((X.setCell ⟨w.heap.size + 1, 0, .none⟩ (.int .i64 0)).setCell ⟨w.heap.size + 1 + 1, 0, .none⟩ (.int .i64 3)).drew.cell? ⟨w.heap.size + 1, 0, .none⟩ = some (.int .i64 0) := by
    rw [World.cell?_drew, World.cell?_setCell_far _ _ _ _ (by show w.heap.size + 1 + 1 ≠ w.heap.size + 1; omega)]
    exact World.cell?_setCell_same _ _ _ n2
  have c3 : ((X.setCell ⟨w.heap.size + 1, 0, .none⟩ (.int .i64 0)).setCell ⟨w.heap.size + 1 + 1, 0, .none⟩ (.int .i64 3)).drew.cell? ⟨w.heap.size + 1 + 1, 0, .none⟩ = some (.int .i64 3) := by
    rw [World.cell?_drew]
    exact World.cell?_setCell_same _ _ _ ((World.cell?_setCell_far _ _ _ _ (by show w.heap.size + 1 ≠ w.heap.size + 1 + 1; omega)).trans n3)
  have hb4 : Below w.heap.size w ((X.setCell ⟨w.heap.size + 1, 0, .none⟩ (.int .i64 0)).setCell ⟨w.heap.size + 1 + 1, 0, .none⟩ (.int .i64 3)).drew := ((hb3.setCell (p := ⟨w.heap.size + 1, 0, .none⟩) (by show w.heap.size ≤ w.heap.size + 1; omega) _).setCell (p := ⟨w.heap.size + 1 + 1, 0, .none⟩) (by show w.heap.size ≤ w.heap.size + 1 + 1; omega) _).drew
  generalize ((X.setCell ⟨w.heap.size + 1, 0, .none⟩ (.int .i64 0)).setCell ⟨w.heap.size + 1 + 1, 0, .none⟩ (.int .i64 3)).drew = Z at *
  exact bodyPost_ret (v := .tuple #[.int .i64 0, .int .i64 3]) (by simp [results, Tryd.results5, go_sem, c2, c3]) rfl ⟨rfl, hb4⟩
theorem unlink_no {w : World} {v : Value} (h : Uns w v) (i : Int) (s : ByteArray) : Calls Tryd.prog 7 #[v, .int .i64 i, .string s] w fun e w' => e = .returned (.int .i64 3) ∧ Below w.heap.size w w' := by
  have c := spot_no h i s
  go_enter Tryd.func7, Tryd.ntmps7
  go_wp2_with (go_at_call 20; refine c.mono ?_; rintro _ V ⟨rfl, hV⟩)
  go_ret
  exact ⟨rfl, hV.alloc hV.size _⟩
end Go.Proofs.YthmklphldejmeaaDoor
