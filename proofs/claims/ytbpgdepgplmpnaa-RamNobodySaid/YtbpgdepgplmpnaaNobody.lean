import Derived.Test.YtbpgdepgplmpnaaNoI
namespace Go.Proofs.Ytbpgdepgplmpnaa
open Go.RowKit Go.Shelf
attribute [local go_sem] Oper.semAt_some
set_option linter.unusedVariables false
set_option linter.unusedSimpArgs false
set_option maxHeartbeats 1000000 in
theorem images_none (w : World) : Calls Try.prog 26 #[.agg #[.int .i64 0, .slice .none 0 0, .slice .none 0 0], .agg #[.int .i64 0, .slice .none 0 0, .slice .none 0 0]] w fun e w' => e = .returned (.bool true) ∧ Below w.heap.size w w' := by
  go_enter Try.func26, Try.ntmps26
  go_wp2
  refine wp_loop_rounds 1 ?_
  rw [rounds_succ]
  go_wp2
  refine wp_loop_rounds 1 ?_
  rw [rounds_succ]
  go_wp2
  go_ret
  exact ⟨rfl, (below_past _ _).alloc (by simp) _⟩
theorem func62 (f : Nat) (c d : Array Value) (w : World) : (binOp .eql 62 (.func (.func f) c d) .nilFunc).run Try.prog w = .ok (.bool false) w := by kernel_rfl
/-- The cells that the law's own variables have. -/
structure KB (W : World) (R : Nat) : Prop where
  r : W.cell? ⟨R, 0, .none⟩ = some (.bool false)
  f : W.frozen? ⟨R, 0, .none⟩ = false
  a : W.cell? ⟨R + 1 + 1, 0, .none⟩ = some (.pointer .none)
  b : W.cell? ⟨R + 1 + 1, 1, .none⟩ = some (.pointer (some ⟨R + 1, 0, .none⟩))
  c : W.cell? ⟨R + 1, 0, .none⟩ = some (.slice .none 0 0)
theorem KB.kept {A B : World} {row : Option Nat} {R : Nat} (h : KB A R) (hg : A.grownBy B row) (hr : ∀ r, row = some r → ∃ o : Obj, A.heap[r]? = some o ∧ o.isCells = false) : KB B R :=
  ⟨cell_kept h.r hg hr, (frozen_kept h.r hg hr).trans h.f, cell_kept h.a hg hr, cell_kept h.b hg hr, cell_kept h.c hg hr⟩
theorem KB.below {A B : World} {R : Nat} (h : KB A R) (k : Below A.heap.size A B) : KB B R :=
  ⟨(k.cell (lt_of_cell h.r)).trans h.r, (k.frozen (lt_of_cell h.r)).trans h.f, (k.cell (lt_of_cell h.a)).trans h.a, (k.cell (lt_of_cell h.b)).trans h.b, (k.cell (lt_of_cell h.c)).trans h.c⟩
theorem KB.unm0 {A : World} {R : Nat} (h : KB A R) : Unm A (.pointer .none) := .inl rfl
theorem KB.unm1 {A : World} {R : Nat} (h : KB A R) : Unm A (.pointer (some ⟨R + 1, 0, .none⟩)) := .inr ⟨_, rfl, lt_of_cell h.c, h.c⟩
theorem KB.new (w : World) : KB (((w.alloc (.cells #[.bool false] 4)).alloc (.cells #[.slice .none 0 0, .int .u64 0, .map .none] 59)).alloc (.cells #[.pointer .none, .pointer (some ⟨w.heap.size + 1, 0, .none⟩)] 23)) w.heap.size := by
  refine ⟨?_, ?_, ?_, ?_, ?_⟩
  · rw [World.cell?_alloc_past _ _ _ (by simp only [World.size_alloc]; omega), World.cell?_alloc_past _ _ _ (by simp), World.cell?_alloc_at _ _ _ _ rfl]; rfl
  · rw [World.frozen?_alloc_old _ _ _ (by simp only [World.size_alloc]; omega), World.frozen?_alloc_old _ _ _ (by simp)]; exact World.frozen?_alloc_new _ _ _ _
  · rw [World.cell?_alloc_at _ _ _ _ (by simp only [World.size_alloc])]; rfl
  · rw [World.cell?_alloc_at _ _ _ _ (by simp only [World.size_alloc])]; rfl
  · rw [World.cell?_alloc_past _ _ _ (by simp only [World.size_alloc]; omega), World.cell?_alloc_at _ _ _ _ (by simp only [World.size_alloc])]; rfl
/-- A block for the rounds' deferred calls. -/
def Df (W : World) (D : Nat) : Prop := W.heap[D]? = some (.deferred (some []))
theorem Df.lt {W : World} {D : Nat} (h : Df W D) : D < W.heap.size := (Array.getElem?_eq_some_iff.1 h).1
theorem Df.below {A B : World} {D : Nat} (h : Df A D) (k : Below A.heap.size A B) : Df B D := (k.block D h.lt).trans h
set_option maxHeartbeats 8000000 in
set_option maxRecDepth 100000 in
theorem nobody_walk (pa n v : Int) (sa : Option Addr) (len cap : Nat) (w : World) (hp : 0 ≤ pa ∧ pa < 18446744073709551616) : Calls Try.prog 6 #[.int .u64 pa, .int .i64 n, .int .u64 v, .slice sa len cap] w fun e w' => e = .returned (.bool true) ∧ Below w.heap.size w w' := by
  have hq := func62
  refine (callsIn_wide (n := 3)).1 ?_
  refine callsIn_of_wp_marks Try.func6 rfl trivial ?_ rfl
  simp only [Try.ntmps6, List.size_toArray, List.length_cons, List.length_nil, Nat.reduceAdd, Nat.reduceSub, Array.replicate_succ, Array.replicate_zero, List.push_toArray, List.append_toArray, List.nil_append, List.cons_append]
  gi_wp2
  have K0 : Hid (KB _ w.heap.size) := KB.new w
  have hB0 : Below w.heap.size w (((w.alloc (.cells #[.bool false] 4)).alloc (.cells #[.slice .none 0 0, .int .u64 0, .map .none] 59)).alloc (.cells #[.pointer .none, .pointer (some ⟨w.heap.size + 1, 0, .none⟩)] 23)) := ((below_past _ _).alloc (by simp) _).alloc (by simp only [World.size_alloc]; omega) _
  have HB0 : Hid (Below w.heap.size w _) := hB0
  clear hB0
  generalize (((w.alloc (.cells #[.bool false] 4)).alloc (.cells #[.slice .none 0 0, .int .u64 0, .map .none] 59)).alloc (.cells #[.pointer .none, .pointer (some ⟨w.heap.size + 1, 0, .none⟩)] 23)) = V0 at *
  refine wpIn_loop_rounds 3 ?_
  rw [roundsIn_succ]
  have a0 := K0.out.a
  have b0 := K0.out.b
  gi_wp2_with (first | (refine ⟨trivial, ?_⟩; gi_at_call 23; refine (callsIn_wide.2 (freeList_any .none)).mono ?_; rintro e w1 ⟨rfl, rfl⟩))
  clear a0 b0
  have hp0 := below_past V0 (.cells #[.pointer .none] 23)
  have Kx0 := K0.out.below hp0
  have HU0 : Hid (Unm (V0.alloc (.cells #[.pointer .none] 23)) (.pointer .none)) := Kx0.unm0
  have HK0 : Hid (KB (V0.alloc (.cells #[.pointer .none] 23)) w.heap.size) := Kx0
  have HBx0 : Hid (Below w.heap.size w (V0.alloc (.cells #[.pointer .none] 23))) := HB0.out.trans (hp0.mono HB0.out.size)
  have hc0 : (V0.alloc (.cells #[.pointer .none] 23)).cell? ⟨V0.heap.size, 0, .none⟩ = some (.pointer .none) := by simp
  have hl0 : V0.heap.size < (V0.alloc (.cells #[.pointer .none] 23)).heap.size := by simp
  clear hp0 Kx0
  generalize V0.alloc (.cells #[.pointer .none] 23) = U0 at *
  refine wpIn_rangeFunc_ownF (α := Empty) rfl (by omega) (gf := 57) (lb := #[.pointer (some ⟨V0.heap.size, 0, .none⟩)]) rfl trivial (enters_of Try.func57 (by kernel_rfl) rfl)
    (no_seq HU0.out 2 V0.heap.size w.heap.size hl0 hc0) belowK_t (belowK_b HBx0.out.size) (Below.refl _ _) (fun x => x.elim)
    (fun _ W => (KB W w.heap.size ∧ Below w.heap.size w W)) (fun _ _ _ => False)
    (OwnFrom.and (Own.from (fun s A B row hs hg hr => hs.kept hg hr) _) (ownFrom_below (Nat.le_refl _) HBx0.out.size)) (fun _ _ _ _ _ hs _ _ => hs) ⟨HK0.out, HBx0.out⟩ (fun x => x.elim) ?assign ?body ?done ?stop
  case assign => intro l x; exact x.elim
  case body => intro l pre x; exact x.elim
  case stop =>
    rintro D c pre W _ h
    exact h.elim
  case done =>
  rintro D0 xs X0 hD0 hxs ⟨kb, hB⟩ hK
  have u := kb.unm0
  have ca := no_alloc u
  have cl := no_load u pa n
  have cr := no_read u pa n
  have cw := no_raw u pa hp
  have ci := no_image u
  have HKB : Hid (KB X0 w.heap.size) := kb
  have HBB : Hid (Below w.heap.size w X0) := hB
  have HDD0 : Hid (Df X0 D0) := hK

  clear kb hB hK u 
  gi_wp2_with (first | (refine ⟨trivial, ?_⟩; gi_at_call 10; refine (callsIn_wide.2 ca).mono ?_; rintro e w2 ⟨rfl, rfl⟩) | (refine ⟨trivial, ?_⟩; gi_at_call 13; refine (callsIn_wide.2 cl).mono ?_; rintro e w2 ⟨rfl, rfl⟩) | (refine ⟨trivial, ?_⟩; gi_at_call 12; refine (callsIn_wide.2 cr).mono ?_; rintro e w2 ⟨rfl, rfl⟩) | (refine ⟨trivial, ?_⟩; gi_at_call 24; refine (callsIn_wide.2 cw).mono ?_; rintro e w2 ⟨rfl, rfl⟩) | (refine ⟨trivial, ?_⟩; gi_at_call 25; refine (callsIn_wide.2 ci).mono ?_; rintro e Y0 ⟨rfl, hbY⟩) | (refine ⟨trivial, ?_⟩; gi_at_call 26; refine (callsIn_wide.2 (images_none _)).mono ?_; rintro e Z0 ⟨rfl, hbZ⟩) | fail)
  have kbZ := ((HKB.out.below hbY).below (below_past Y0 (.cells #[.int .i64 0, .slice .none 0 0, .slice .none 0 0] 67))).below hbZ
  have hBZ := ((HBB.out.trans (hbY.mono HBB.out.size)).trans ((below_past Y0 (.cells #[.int .i64 0, .slice .none 0 0, .slice .none 0 0] 67)).mono (Nat.le_trans HBB.out.size hbY.size))).trans (hbZ.mono (by simp only [World.size_alloc]; exact Nat.le_succ_of_le (Nat.le_trans HBB.out.size hbY.size)))
  have HD0 : Hid (Df Z0 D0) := ((HDD0.out.below hbY).below (below_past Y0 (.cells #[.int .i64 0, .slice .none 0 0, .slice .none 0 0] 67))).below hbZ
  have HB1 : Hid (Below w.heap.size w Z0) := hBZ
  have K1 : Hid (KB Z0 w.heap.size) := kbZ
  have u := kbZ.unm0
  have cf := no_frames u
  have cc := no_count u
  have cI := no_isFree u pa hp
  have cF := no_free u pa
  have cS := no_store u pa n v
  have cW := no_write u pa sa len cap
  have cN := no_write u pa .none 0 0
  clear kbZ hBZ hbY hbZ HKB HBB u ca cl cr cw ci
  gi_wp2_with (first | (refine ⟨trivial, ?_⟩; gi_at_call 17; refine (callsIn_wide.2 cf).mono ?_; rintro e w2 ⟨rfl, rfl⟩) | (refine ⟨trivial, ?_⟩; gi_at_call 18; refine (callsIn_wide.2 cc).mono ?_; rintro e w2 ⟨rfl, rfl⟩) | (refine ⟨trivial, ?_⟩; gi_at_call 27; refine (callsIn_wide.2 cI).mono ?_; rintro e w2 ⟨rfl, rfl⟩) | (refine ⟨trivial, ?_⟩; gi_at_call 21; refine (callsIn_wide.2 cF).mono ?_; rintro e w2 ⟨rfl, rfl⟩) | (refine ⟨trivial, ?_⟩; gi_at_call 11; refine (callsIn_wide.2 cS).mono ?_; rintro e w2 ⟨rfl, rfl⟩) | (refine ⟨trivial, ?_⟩; gi_at_call 14; refine (callsIn_wide.2 cW).mono ?_; clear cW; rintro e w2 ⟨rfl, rfl⟩) | (refine ⟨trivial, ?_⟩; gi_at_call 14; refine (callsIn_wide.2 cN).mono ?_; clear cN; rintro e V1 ⟨rfl, rfl⟩) | fail)
  clear cf cc cI cF cS
  rw [roundsIn_succ]
  have a1 := K1.out.a
  have b1 := K1.out.b
  gi_wp2_with (first | (refine ⟨trivial, ?_⟩; gi_at_call 23; refine (callsIn_wide.2 (freeList_any (some ⟨w.heap.size + 1, 0, .none⟩))).mono ?_; rintro e w1 ⟨rfl, rfl⟩))
  clear a1 b1
  have hp1 := below_past V1 (.cells #[.pointer (some ⟨w.heap.size + 1, 0, .none⟩)] 23)
  have Kx1 := K1.out.below hp1
  have HU1 : Hid (Unm (V1.alloc (.cells #[.pointer (some ⟨w.heap.size + 1, 0, .none⟩)] 23)) (.pointer (some ⟨w.heap.size + 1, 0, .none⟩))) := Kx1.unm1
  have HK1 : Hid (KB (V1.alloc (.cells #[.pointer (some ⟨w.heap.size + 1, 0, .none⟩)] 23)) w.heap.size) := Kx1
  have HBx1 : Hid (Below w.heap.size w (V1.alloc (.cells #[.pointer (some ⟨w.heap.size + 1, 0, .none⟩)] 23))) := HB1.out.trans (hp1.mono HB1.out.size)
  have hc1 : (V1.alloc (.cells #[.pointer (some ⟨w.heap.size + 1, 0, .none⟩)] 23)).cell? ⟨V1.heap.size, 0, .none⟩ = some (.pointer (some ⟨w.heap.size + 1, 0, .none⟩)) := by simp
  have hl1 : V1.heap.size < (V1.alloc (.cells #[.pointer (some ⟨w.heap.size + 1, 0, .none⟩)] 23)).heap.size := by simp
  have HDx : Hid (Df (V1.alloc (.cells #[.pointer (some ⟨w.heap.size + 1, 0, .none⟩)] 23)) D0) := HD0.out.below hp1
  clear hp1 Kx1
  generalize V1.alloc (.cells #[.pointer (some ⟨w.heap.size + 1, 0, .none⟩)] 23) = U1 at *
  refine wpIn_rangeFunc_ownF (α := Empty) rfl (by omega) (gf := 57) (lb := #[.pointer (some ⟨V1.heap.size, 0, .none⟩)]) rfl trivial (enters_of Try.func57 (by kernel_rfl) rfl)
    (no_seq HU1.out 2 V1.heap.size w.heap.size hl1 hc1) belowK_t (belowK_b HBx1.out.size) (Below.refl _ _) (fun x => x.elim)
    (fun _ W => (KB W w.heap.size ∧ Below w.heap.size w W) ∧ Df W D0) (fun _ _ _ => False)
    (OwnFrom.and (OwnFrom.and (Own.from (fun s A B row hs hg hr => hs.kept hg hr) _) (ownFrom_below (Nat.le_refl _) HBx1.out.size)) (fun s A B row hs hg hr => (hg.block D0 hs.lt (fun e => by have := (hr D0 e.symm).1; have := HDx.out.lt; omega)).trans hs)) (fun _ _ _ _ _ hs _ _ => hs) ⟨⟨HK1.out, HBx1.out⟩, HDx.out⟩ (fun x => x.elim) ?assign ?body ?done ?stop
  case assign => intro l x; exact x.elim
  case body => intro l pre x; exact x.elim
  case stop =>
    rintro D c pre W _ h
    exact h.elim
  case done =>
  rintro D1 xs X1 hD1 hxs ⟨⟨kb, hB⟩, hdf⟩ hK
  have u := kb.unm1
  have ca := no_alloc u
  have cl := no_load u pa n
  have cr := no_read u pa n
  have cw := no_raw u pa hp
  have ci := no_image u
  have HKB : Hid (KB X1 w.heap.size) := kb
  have HBB : Hid (Below w.heap.size w X1) := hB
  have HDD1 : Hid (Df X1 D1) := hK
  have HDD0 : Hid (Df X1 D0) := hdf
  clear kb hB hK u hdf
  gi_wp2_with (first | (refine ⟨trivial, ?_⟩; gi_at_call 10; refine (callsIn_wide.2 ca).mono ?_; rintro e w2 ⟨rfl, rfl⟩) | (refine ⟨trivial, ?_⟩; gi_at_call 13; refine (callsIn_wide.2 cl).mono ?_; rintro e w2 ⟨rfl, rfl⟩) | (refine ⟨trivial, ?_⟩; gi_at_call 12; refine (callsIn_wide.2 cr).mono ?_; rintro e w2 ⟨rfl, rfl⟩) | (refine ⟨trivial, ?_⟩; gi_at_call 24; refine (callsIn_wide.2 cw).mono ?_; rintro e w2 ⟨rfl, rfl⟩) | (refine ⟨trivial, ?_⟩; gi_at_call 25; refine (callsIn_wide.2 ci).mono ?_; rintro e Y1 ⟨rfl, hbY⟩) | (refine ⟨trivial, ?_⟩; gi_at_call 26; refine (callsIn_wide.2 (images_none _)).mono ?_; rintro e Z1 ⟨rfl, hbZ⟩) | fail)
  have kbZ := ((HKB.out.below hbY).below (below_past Y1 (.cells #[.int .i64 0, .slice .none 0 0, .slice .none 0 0] 67))).below hbZ
  have hBZ := ((HBB.out.trans (hbY.mono HBB.out.size)).trans ((below_past Y1 (.cells #[.int .i64 0, .slice .none 0 0, .slice .none 0 0] 67)).mono (Nat.le_trans HBB.out.size hbY.size))).trans (hbZ.mono (by simp only [World.size_alloc]; exact Nat.le_succ_of_le (Nat.le_trans HBB.out.size hbY.size)))
  have HD1 : Hid (Df Z1 D1) := ((HDD1.out.below hbY).below (below_past Y1 (.cells #[.int .i64 0, .slice .none 0 0, .slice .none 0 0] 67))).below hbZ
  have HD0 : Hid (Df Z1 D0) := ((HDD0.out.below hbY).below (below_past Y1 (.cells #[.int .i64 0, .slice .none 0 0, .slice .none 0 0] 67))).below hbZ
  have HB2 : Hid (Below w.heap.size w Z1) := hBZ
  have K2 : Hid (KB Z1 w.heap.size) := kbZ
  have u := kbZ.unm1
  have cf := no_frames u
  have cc := no_count u
  have cI := no_isFree u pa hp
  have cF := no_free u pa
  have cS := no_store u pa n v
  have cW := no_write u pa sa len cap
  have cN := no_write u pa .none 0 0
  clear kbZ hBZ hbY hbZ HKB HBB u ca cl cr cw ci
  gi_wp2_with (first | (refine ⟨trivial, ?_⟩; gi_at_call 17; refine (callsIn_wide.2 cf).mono ?_; rintro e w2 ⟨rfl, rfl⟩) | (refine ⟨trivial, ?_⟩; gi_at_call 18; refine (callsIn_wide.2 cc).mono ?_; rintro e w2 ⟨rfl, rfl⟩) | (refine ⟨trivial, ?_⟩; gi_at_call 27; refine (callsIn_wide.2 cI).mono ?_; rintro e w2 ⟨rfl, rfl⟩) | (refine ⟨trivial, ?_⟩; gi_at_call 21; refine (callsIn_wide.2 cF).mono ?_; rintro e w2 ⟨rfl, rfl⟩) | (refine ⟨trivial, ?_⟩; gi_at_call 11; refine (callsIn_wide.2 cS).mono ?_; rintro e w2 ⟨rfl, rfl⟩) | (refine ⟨trivial, ?_⟩; gi_at_call 14; refine (callsIn_wide.2 cW).mono ?_; clear cW; rintro e w2 ⟨rfl, rfl⟩) | (refine ⟨trivial, ?_⟩; gi_at_call 14; refine (callsIn_wide.2 cN).mono ?_; clear cN; rintro e V2 ⟨rfl, rfl⟩) | fail)
  clear cf cc cI cF cS
  have r2 := K2.out.r
  have f2 := K2.out.f
  rw [roundsIn_succ]
  gi_wp2
  have hR0 : D0 ≠ w.heap.size := fun e => by
    have h := HD0.out
    rw [Df, e] at h
    simp [World.cell?, h] at r2
  have hR1 : D1 ≠ w.heap.size := fun e => by
    have h := HD1.out
    rw [Df, e] at h
    simp [World.cell?, h] at r2
  have hD10 : D0 ≠ D1 := by
    have := HDx.out.lt
    omega
  have g1 : Df (V2.setCell ⟨w.heap.size, 0, .none⟩ (.bool true)) D1 := (Below.heap_setCell _ _ _ _ (by show D1 ≠ w.heap.size; exact hR1)).trans HD1.out
  have g0 : Df (V2.setCell ⟨w.heap.size, 0, .none⟩ (.bool true)) D0 := (Below.heap_setCell _ _ _ _ (by show D0 ≠ w.heap.size; exact hR0)).trans HD0.out
  have e0 : (V2.setCell ⟨w.heap.size, 0, .none⟩ (.bool true)).cell? ⟨w.heap.size, 0, .none⟩ = some (.bool true) := World.cell?_setCell_same' _ _ _ (by rw [r2]; rfl)
  have hB9 : Below w.heap.size w (V2.setCell ⟨w.heap.size, 0, .none⟩ (.bool true)) := HB2.out.setCell (p := ⟨w.heap.size, 0, .none⟩) (Nat.le_refl _) _
  generalize V2.setCell ⟨w.heap.size, 0, .none⟩ (.bool true) = W9 at *
  have g0' : Df (W9.putObj D1 (.deferred none)) D0 := (World.putObj_heap_other hD10).trans g0
  have e1 := cell_kept e0 (grownBy_putObj' W9 D1 (.deferred none)) (fun r e => by cases e; exact ⟨_, g1, rfl⟩)
  have hB10 := hB9.trans (belowK_b (w := w) (Nat.le_refl _) W9 D1 _ (.deferred none) (by have := HBx1.out.size; omega) g1 rfl rfl)
  have e2 := cell_kept e1 (grownBy_putObj' (W9.putObj D1 (.deferred none)) D0 (.deferred none)) (fun r e => by cases e; exact ⟨_, g0', rfl⟩)
  have hB11 := hB10.trans (belowK_b (w := w) (Nat.le_refl _) (W9.putObj D1 (.deferred none)) D0 _ (.deferred none) (by have := HBx0.out.size; omega) g0' rfl rfl)
  refine ⟨by simp, .inl ⟨_, _, rfl, run_takeDeferred g1, by simp, .inl ⟨_, _, rfl, run_takeDeferred g0', ?_⟩⟩⟩
  have hlt : w.heap.size < ((W9.putObj D1 (.deferred none)).putObj D0 (.deferred none)).heap.size := lt_of_cell e2
  generalize (W9.putObj D1 (.deferred none)).putObj D0 (.deferred none) = WZ at *
  exact ⟨.bool true, by simp [results, Try.results6, go_sem, e2, hlt], rfl, hB11⟩
end Go.Proofs.Ytbpgdepgplmpnaa
