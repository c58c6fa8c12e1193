import Derived.Test.YtncjmlndjnfncaaSLea
namespace Go.Proofs.Ytncjmlndjnfncaa
open Go.RowKit Go.Shelf
attribute [local go_sem] Oper.semAt_some
set_option linter.unusedVariables false
set_option linter.unusedSimpArgs false
theorem func56 (f : Nat) (c d : Array Value) (w : World) : (binOp .eql 56 (.func (.func f) c d) .nilFunc).run Try.prog w = .ok (.bool false) w := by kernel_rfl
/-- The cells that the law's own variables have. -/
structure KB (W : World) (R : Nat) : Prop where
  r : W.cell? ⟨R, 0, .none⟩ = some (.bool false)
  f : W.frozen? ⟨R, 0, .none⟩ = false
  a : W.cell? ⟨R + 1 + 1, 0, .none⟩ = some (.pointer .none)
  b : W.cell? ⟨R + 1 + 1, 1, .none⟩ = some (.pointer (some ⟨R + 1, 0, .none⟩))
  c : W.cell? ⟨R + 1, 0, .none⟩ = some (.slice .none 0 0)
theorem KB.kept {A B : World} {row : Option Nat} {R : Nat} (h : KB A R) (hg : A.grownBy B row) (hr : ∀ r, row = some r → ∃ o : Obj, A.heap[r]? = some o ∧ o.isCells = false) : KB B R :=
  ⟨cell_kept h.r hg hr, (frozen_kept h.r hg hr).trans h.f, cell_kept h.a hg hr, cell_kept h.b hg hr, cell_kept h.c hg hr⟩
theorem KB.below {A B : World} {R : Nat} (h : KB A R) (k : Below A.heap.size A B) : KB B R :=
  ⟨(k.cell (lt_of_cell h.r)).trans h.r, (k.frozen (lt_of_cell h.r)).trans h.f, (k.cell (lt_of_cell h.a)).trans h.a, (k.cell (lt_of_cell h.b)).trans h.b, (k.cell (lt_of_cell h.c)).trans h.c⟩
theorem KB.unm0 {A : World} {R : Nat} (h : KB A R) : Unm A (.pointer .none) := .inl rfl
theorem KB.unm1 {A : World} {R : Nat} (h : KB A R) : Unm A (.pointer (some ⟨R + 1, 0, .none⟩)) := .inr ⟨_, rfl, lt_of_cell h.c, h.c⟩
theorem KB.new (w : World) : KB (((w.alloc (.cells #[.bool false] 4)).alloc (.cells #[.slice .none 0 0, .int .u64 0, .map .none] 45)).alloc (.cells #[.pointer .none, .pointer (some ⟨w.heap.size + 1, 0, .none⟩)] 23)) w.heap.size := by
  refine ⟨?_, ?_, ?_, ?_, ?_⟩
  · rw [World.cell?_alloc_past _ _ _ (by simp only [World.size_alloc]; omega), World.cell?_alloc_past _ _ _ (by simp), World.cell?_alloc_at _ _ _ _ rfl]; rfl
  · rw [World.frozen?_alloc_old _ _ _ (by simp only [World.size_alloc]; omega), World.frozen?_alloc_old _ _ _ (by simp)]; exact World.frozen?_alloc_new _ _ _ _
  · rw [World.cell?_alloc_at _ _ _ _ (by simp only [World.size_alloc])]; rfl
  · rw [World.cell?_alloc_at _ _ _ _ (by simp only [World.size_alloc])]; rfl
  · rw [World.cell?_alloc_past _ _ _ (by simp only [World.size_alloc]; omega), World.cell?_alloc_at _ _ _ _ (by simp only [World.size_alloc])]; rfl
/-- A block for the rounds' deferred calls. -/
def Df (W : World) (D : Nat) : Prop := W.heap[D]? = some (.deferred (some []))
theorem Df.lt {W : World} {D : Nat} (h : Df W D) : D < W.heap.size := (Array.getElem?_eq_some_iff.1 h).1
theorem Df.below {A B : World} {D : Nat} (h : Df A D) (k : Below A.heap.size A B) : Df B D := (k.block D h.lt).trans h
set_option maxHeartbeats 8000000 in
set_option maxRecDepth 100000 in
theorem nobody_walk (root va pa perm : Int) (w : World) (hr : 0 ≤ root ∧ root < 18446744073709551616) (hv : 0 ≤ va ∧ va < 18446744073709551616) (hp : 0 ≤ pa ∧ pa < 18446744073709551616) (hq : 0 ≤ perm ∧ perm < 18446744073709551616) : Calls Try.prog 4 #[.int .u64 root, .int .u64 va, .int .u64 pa, .int .u64 perm] w fun e w' => e = .returned (.bool true) ∧ Below w.heap.size w w' := by
  have hqf := func56
  refine (callsIn_wide (n := 3)).1 ?_
  refine callsIn_of_wp_marks Try.func4 rfl trivial ?_ rfl
  simp only [Try.ntmps4, List.size_toArray, List.length_cons, List.length_nil, Nat.reduceAdd, Nat.reduceSub, Array.replicate_succ, Array.replicate_zero, List.push_toArray, List.append_toArray, List.nil_append, List.cons_append]
  gi_wp2
  have K0 : Hid (KB _ w.heap.size) := KB.new w
  have HB0 : Hid (Below w.heap.size w _) := below3 w (.cells #[.bool false] 4) (.cells #[.slice .none 0 0, .int .u64 0, .map .none] 45) (.cells #[.pointer .none, .pointer (some ⟨w.heap.size + 1, 0, .none⟩)] 23)
  generalize (((w.alloc (.cells #[.bool false] 4)).alloc (.cells #[.slice .none 0 0, .int .u64 0, .map .none] 45)).alloc (.cells #[.pointer .none, .pointer (some ⟨w.heap.size + 1, 0, .none⟩)] 23)) = V0 at *
  refine wpIn_loop_rounds 3 ?_
  rw [roundsIn_succ]
  have a0 := K0.out.a
  have b0 := K0.out.b
  have u := K0.out.unm0
  have cN := no_new u
  have cU := no_unmap u root va
  have HU : Hid (Unm V0 (.pointer .none)) := u
  clear u
  gi_wp2_with (first | (refine ⟨trivial, ?_⟩; gi_at_call 8; refine (callsIn_wide.2 cN).mono ?_; rintro e V0 ⟨rfl, rfl⟩) | (refine ⟨trivial, ?_⟩; gi_at_call 16; refine (callsIn_wide.2 cU).mono ?_; rintro e A1 ⟨rfl, hA1⟩; have cE := no_entry (HU.out.below hA1) root va hv; have HA1 : Hid (Below V0.heap.size V0 A1) := hA1; clear hA1) | (refine ⟨trivial, ?_⟩; gi_at_call 17; refine (callsIn_wide.2 cE).mono ?_; rintro e A2 ⟨rfl, hA2⟩; have HA2 : Hid (Below V0.heap.size V0 A2) := HA1.out.trans (hA2.mono HA1.out.size); have cT := no_translate (HU.out.below HA2.out) root va 2 hv; clear hA2) | (refine ⟨trivial, ?_⟩; gi_at_call 18; refine (callsIn_wide.2 cT).mono ?_; rintro e A3 ⟨rfl, hA3⟩; have HA3 : Hid (Below V0.heap.size V0 A3) := HA2.out.trans (hA3.mono HA2.out.size); have cD := no_need (HU.out.below HA3.out) root va hv; clear hA3) | (refine ⟨trivial, ?_⟩; gi_at_call 19; refine (callsIn_wide.2 cD).mono ?_; rintro e A4 ⟨rfl, hA4⟩; have HA4 : Hid (Below V0.heap.size V0 A4) := HA3.out.trans (hA4.mono HA3.out.size); have cM := no_map (HU.out.below HA4.out) root va pa perm hv; clear hA4) | (refine ⟨trivial, ?_⟩; gi_at_call 11; refine (callsIn_wide.2 cM).mono ?_; rintro e A5 ⟨rfl, hA5⟩; have HA5 : Hid (Below V0.heap.size V0 A5) := HA4.out.trans (hA5.mono HA4.out.size); have cO := no_nodes (HU.out.below HA5.out) root; have cF := no_free (HU.out.below HA5.out) root; clear hA5) | (refine ⟨trivial, ?_⟩; gi_at_call 12; refine (callsIn_wide.2 cO).mono ?_; rintro e A5 ⟨rfl, rfl⟩) | (refine ⟨trivial, ?_⟩; gi_at_call 20; refine (callsIn_wide.2 cF).mono ?_; rintro e A7 ⟨rfl, hA7⟩; have HA7 : Hid (Below V0.heap.size V0 A7) := HA5.out.trans (hA7.mono HA5.out.size); clear hA7) | (refine ⟨trivial, ?_⟩; gi_at_call 21; refine (callsIn_wide.2 (leaves_any .none root _)).mono ?_; rintro e A8 ⟨rfl, rfl⟩) | fail)
  clear a0 b0 cN cU cE cT cD cM cO cF
  have hB9 : Below V0.heap.size V0 ((A7.alloc (.cells #[.pointer .none] 23)).alloc (.cells #[.int .u64 root] 28)) := HA7.out.trans ((below2 A7 _ _).mono HA7.out.size)
  have Kx0 := K0.out.below hB9
  have HUx : Hid (Unm ((A7.alloc (.cells #[.pointer .none] 23)).alloc (.cells #[.int .u64 root] 28)) (.pointer .none)) := HU.out.below hB9
  have k1 : ((A7.alloc (.cells #[.pointer .none] 23)).alloc (.cells #[.int .u64 root] 28)).cell? ⟨A7.heap.size, 0, .none⟩ = some (.pointer .none) := by
    rw [World.cell?_alloc_past _ _ _ (by simp only [World.size_alloc]; omega), World.cell?_alloc_at _ _ _ _ rfl]
    rfl
  have k2 : ((A7.alloc (.cells #[.pointer .none] 23)).alloc (.cells #[.int .u64 root] 28)).cell? ⟨A7.heap.size + 1, 0, .none⟩ = some (.int .u64 root) := by
    rw [World.cell?_alloc_at _ _ _ _ (by simp only [World.size_alloc])]
    rfl
  have HBx0 : Hid (Below w.heap.size w ((A7.alloc (.cells #[.pointer .none] 23)).alloc (.cells #[.int .u64 root] 28))) := HB0.out.trans (hB9.mono HB0.out.size)
  have HK0 : Hid (KB ((A7.alloc (.cells #[.pointer .none] 23)).alloc (.cells #[.int .u64 root] 28)) w.heap.size) := Kx0
  clear hB9 Kx0 HA1 HA2 HA3 HA4 HA5 HA7 HU
  generalize ((A7.alloc (.cells #[.pointer .none] 23)).alloc (.cells #[.int .u64 root] 28)) = U0 at *
  refine wpIn_rangeFunc_ownF (α := Empty) rfl (by omega) (gf := 53) (lb := #[.pointer (some ⟨A7.heap.size, 0, .none⟩), .pointer (some ⟨A7.heap.size + 1, 0, .none⟩)]) rfl trivial (enters_of Try.func53 (by kernel_rfl) rfl)
    (no_seqL HUx.out 2 w.heap.size _ _ k1 k2) belowK_t (belowK_b HBx0.out.size) (Below.refl _ _) (fun x => x.elim)
    (fun _ W => (KB W w.heap.size ∧ Below w.heap.size w W)) (fun _ _ _ => False)
    (OwnFrom.and (Own.from (fun s A B row hs hg hr => hs.kept hg hr) _) (ownFrom_below (Nat.le_refl _) HBx0.out.size)) (fun _ _ _ _ _ hs _ _ => hs) ⟨HK0.out, HBx0.out⟩ (fun x => x.elim) ?assign ?body ?done ?stop
  case assign => intro l x; exact x.elim
  case body => intro l pre x; exact x.elim
  case stop =>
    rintro D c pre W _ h
    exact h.elim
  case done =>
  rintro D0 xs V1 hD0 hxs ⟨kb, hB⟩ hK
  have K1 : Hid (KB V1 w.heap.size) := kb
  have HB1 : Hid (Below w.heap.size w V1) := hB
  have HD0 : Hid (Df V1 D0) := hK
  clear kb hB hK k1 k2 HUx
  gi_wp2
  rw [roundsIn_succ]
  have a1 := K1.out.a
  have b1 := K1.out.b
  have u := K1.out.unm1
  have cN := no_new u
  have cU := no_unmap u root va
  have HU : Hid (Unm V1 (.pointer (some ⟨w.heap.size + 1, 0, .none⟩))) := u
  clear u
  gi_wp2_with (first | (refine ⟨trivial, ?_⟩; gi_at_call 8; refine (callsIn_wide.2 cN).mono ?_; rintro e V1 ⟨rfl, rfl⟩) | (refine ⟨trivial, ?_⟩; gi_at_call 16; refine (callsIn_wide.2 cU).mono ?_; rintro e A1 ⟨rfl, hA1⟩; have cE := no_entry (HU.out.below hA1) root va hv; have HA1 : Hid (Below V1.heap.size V1 A1) := hA1; clear hA1) | (refine ⟨trivial, ?_⟩; gi_at_call 17; refine (callsIn_wide.2 cE).mono ?_; rintro e A2 ⟨rfl, hA2⟩; have HA2 : Hid (Below V1.heap.size V1 A2) := HA1.out.trans (hA2.mono HA1.out.size); have cT := no_translate (HU.out.below HA2.out) root va 2 hv; clear hA2) | (refine ⟨trivial, ?_⟩; gi_at_call 18; refine (callsIn_wide.2 cT).mono ?_; rintro e A3 ⟨rfl, hA3⟩; have HA3 : Hid (Below V1.heap.size V1 A3) := HA2.out.trans (hA3.mono HA2.out.size); have cD := no_need (HU.out.below HA3.out) root va hv; clear hA3) | (refine ⟨trivial, ?_⟩; gi_at_call 19; refine (callsIn_wide.2 cD).mono ?_; rintro e A4 ⟨rfl, hA4⟩; have HA4 : Hid (Below V1.heap.size V1 A4) := HA3.out.trans (hA4.mono HA3.out.size); have cM := no_map (HU.out.below HA4.out) root va pa perm hv; clear hA4) | (refine ⟨trivial, ?_⟩; gi_at_call 11; refine (callsIn_wide.2 cM).mono ?_; rintro e A5 ⟨rfl, hA5⟩; have HA5 : Hid (Below V1.heap.size V1 A5) := HA4.out.trans (hA5.mono HA4.out.size); have cO := no_nodes (HU.out.below HA5.out) root; have cF := no_free (HU.out.below HA5.out) root; clear hA5) | (refine ⟨trivial, ?_⟩; gi_at_call 12; refine (callsIn_wide.2 cO).mono ?_; rintro e A5 ⟨rfl, rfl⟩) | (refine ⟨trivial, ?_⟩; gi_at_call 20; refine (callsIn_wide.2 cF).mono ?_; rintro e A7 ⟨rfl, hA7⟩; have HA7 : Hid (Below V1.heap.size V1 A7) := HA5.out.trans (hA7.mono HA5.out.size); clear hA7) | (refine ⟨trivial, ?_⟩; gi_at_call 21; refine (callsIn_wide.2 (leaves_any (some ⟨w.heap.size + 1, 0, .none⟩) root _)).mono ?_; rintro e A8 ⟨rfl, rfl⟩) | fail)
  clear a1 b1 cN cU cE cT cD cM cO cF
  have hB9 : Below V1.heap.size V1 ((A7.alloc (.cells #[.pointer (some ⟨w.heap.size + 1, 0, .none⟩)] 23)).alloc (.cells #[.int .u64 root] 28)) := HA7.out.trans ((below2 A7 _ _).mono HA7.out.size)
  have Kx1 := K1.out.below hB9
  have HUx : Hid (Unm ((A7.alloc (.cells #[.pointer (some ⟨w.heap.size + 1, 0, .none⟩)] 23)).alloc (.cells #[.int .u64 root] 28)) (.pointer (some ⟨w.heap.size + 1, 0, .none⟩))) := HU.out.below hB9
  have k1 : ((A7.alloc (.cells #[.pointer (some ⟨w.heap.size + 1, 0, .none⟩)] 23)).alloc (.cells #[.int .u64 root] 28)).cell? ⟨A7.heap.size, 0, .none⟩ = some (.pointer (some ⟨w.heap.size + 1, 0, .none⟩)) := by
    rw [World.cell?_alloc_past _ _ _ (by simp only [World.size_alloc]; omega), World.cell?_alloc_at _ _ _ _ rfl]
    rfl
  have k2 : ((A7.alloc (.cells #[.pointer (some ⟨w.heap.size + 1, 0, .none⟩)] 23)).alloc (.cells #[.int .u64 root] 28)).cell? ⟨A7.heap.size + 1, 0, .none⟩ = some (.int .u64 root) := by
    rw [World.cell?_alloc_at _ _ _ _ (by simp only [World.size_alloc])]
    rfl
  have HBx1 : Hid (Below w.heap.size w ((A7.alloc (.cells #[.pointer (some ⟨w.heap.size + 1, 0, .none⟩)] 23)).alloc (.cells #[.int .u64 root] 28))) := HB1.out.trans (hB9.mono HB1.out.size)
  have HK1 : Hid (KB ((A7.alloc (.cells #[.pointer (some ⟨w.heap.size + 1, 0, .none⟩)] 23)).alloc (.cells #[.int .u64 root] 28)) w.heap.size) := Kx1
  have HDx : Hid (Df ((A7.alloc (.cells #[.pointer (some ⟨w.heap.size + 1, 0, .none⟩)] 23)).alloc (.cells #[.int .u64 root] 28)) D0) := HD0.out.below hB9
  clear hB9 Kx1 HA1 HA2 HA3 HA4 HA5 HA7 HU
  generalize ((A7.alloc (.cells #[.pointer (some ⟨w.heap.size + 1, 0, .none⟩)] 23)).alloc (.cells #[.int .u64 root] 28)) = U1 at *
  refine wpIn_rangeFunc_ownF (α := Empty) rfl (by omega) (gf := 53) (lb := #[.pointer (some ⟨A7.heap.size, 0, .none⟩), .pointer (some ⟨A7.heap.size + 1, 0, .none⟩)]) rfl trivial (enters_of Try.func53 (by kernel_rfl) rfl)
    (no_seqL HUx.out 2 w.heap.size _ _ k1 k2) belowK_t (belowK_b HBx1.out.size) (Below.refl _ _) (fun x => x.elim)
    (fun _ W => (KB W w.heap.size ∧ Below w.heap.size w W) ∧ Df W D0) (fun _ _ _ => False)
    (OwnFrom.and (OwnFrom.and (Own.from (fun s A B row hs hg hr => hs.kept hg hr) _) (ownFrom_below (Nat.le_refl _) HBx1.out.size)) (fun s A B row hs hg hr => (hg.block D0 hs.lt (fun e => by have := (hr D0 e.symm).1; have := HDx.out.lt; omega)).trans hs)) (fun _ _ _ _ _ hs _ _ => hs) ⟨⟨HK1.out, HBx1.out⟩, HDx.out⟩ (fun x => x.elim) ?assign ?body ?done ?stop
  case assign => intro l x; exact x.elim
  case body => intro l pre x; exact x.elim
  case stop =>
    rintro D c pre W _ h
    exact h.elim
  case done =>
  rintro D1 xs V2 hD1 hxs ⟨⟨kb, hB⟩, hdf⟩ hK
  have K2 : Hid (KB V2 w.heap.size) := kb
  have HB2 : Hid (Below w.heap.size w V2) := hB
  have HD1 : Hid (Df V2 D1) := hK
  have HD02 : Hid (Df V2 D0) := hdf
  clear kb hB hK hdf k1 k2 HUx
  have r2 := K2.out.r
  have f2 := K2.out.f
  gi_wp2
  rw [roundsIn_succ]
  gi_wp2
  have hR0 : D0 ≠ w.heap.size := fun e => by
    have h := HD02.out
    rw [Df, e] at h
    simp [World.cell?, h] at r2
  have hR1 : D1 ≠ w.heap.size := fun e => by
    have h := HD1.out
    rw [Df, e] at h
    simp [World.cell?, h] at r2
  have hD10 : D0 ≠ D1 := by
    have := HDx.out.lt
    omega
  have g1 : Df (V2.setCell ⟨w.heap.size, 0, .none⟩ (.bool true)) D1 := (Below.heap_setCell _ _ _ _ (by show D1 ≠ w.heap.size; exact hR1)).trans HD1.out
  have g0 : Df (V2.setCell ⟨w.heap.size, 0, .none⟩ (.bool true)) D0 := (Below.heap_setCell _ _ _ _ (by show D0 ≠ w.heap.size; exact hR0)).trans HD02.out
  have e0 : (V2.setCell ⟨w.heap.size, 0, .none⟩ (.bool true)).cell? ⟨w.heap.size, 0, .none⟩ = some (.bool true) := World.cell?_setCell_same' _ _ _ (by rw [r2]; rfl)
  have hB9 : Below w.heap.size w (V2.setCell ⟨w.heap.size, 0, .none⟩ (.bool true)) := HB2.out.setCell (p := ⟨w.heap.size, 0, .none⟩) (Nat.le_refl _) _
  generalize V2.setCell ⟨w.heap.size, 0, .none⟩ (.bool true) = W9 at *
  have g0' : Df (W9.putObj D1 (.deferred none)) D0 := (World.putObj_heap_other hD10).trans g0
  have e1 := cell_kept e0 (grownBy_putObj' W9 D1 (.deferred none)) (fun r e => by cases e; exact ⟨_, g1, rfl⟩)
  have hB10 := hB9.trans (belowK_b (w := w) (Nat.le_refl _) W9 D1 _ (.deferred none) (by have := HBx1.out.size; omega) g1 rfl rfl)
  have e2 := cell_kept e1 (grownBy_putObj' (W9.putObj D1 (.deferred none)) D0 (.deferred none)) (fun r e => by cases e; exact ⟨_, g0', rfl⟩)
  have hB11 := hB10.trans (belowK_b (w := w) (Nat.le_refl _) (W9.putObj D1 (.deferred none)) D0 _ (.deferred none) (by have := HBx0.out.size; omega) g0' rfl rfl)
  refine ⟨by simp, .inl ⟨_, _, rfl, run_takeDeferred g1, by simp, .inl ⟨_, _, rfl, run_takeDeferred g0', ?_⟩⟩⟩
  have hlt : w.heap.size < ((W9.putObj D1 (.deferred none)).putObj D0 (.deferred none)).heap.size := lt_of_cell e2
  generalize (W9.putObj D1 (.deferred none)).putObj D0 (.deferred none) = WZ at *
  exact ⟨.bool true, by simp [results, Try.results4, go_sem, e2, hlt], rfl, hB11⟩
end Go.Proofs.Ytncjmlndjnfncaa
