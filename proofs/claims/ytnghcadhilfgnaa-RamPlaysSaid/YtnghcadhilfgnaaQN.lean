import Derived.Test.YtnghcadhilfgnaaQA
import Derived.Test.YtnghcadhilfgnaaNew
import Derived.OwnWalk
import Derived.Deep.DeepCutAuto
import Derived.Deep.RegionHeld3
namespace Go.Proofs.Ytnghcadhilfgnaa
open Go.RowKit
set_option linter.unusedVariables false
set_option linter.unusedSimpArgs false
theorem below2 (w : World) (o o' : Obj) : Below w.heap.size w ((w.alloc o).alloc o') := ((Below.refl _ _).alloc (Nat.le_refl _) _).alloc (by rw [World.size_alloc]; exact Nat.le_succ _) _
theorem info31 : ∃ i, Try.prog.info? 27 = some i ∧ i.zero = some (.slice .none 0 0) ∧ i.size = 1 ∧ i.bytes = 24 := by
  have h : (Try.prog.info? 27).map (fun i => (i.zero, i.size, i.bytes)) = some (some (.slice .none 0 0), 1, 24) := by kernel_rfl
  cases hq : Try.prog.info? 27 with
  | none => rw [hq] at h; cases h
  | some i =>
    rw [hq] at h
    simp only [Option.map_some, Option.some.injEq, Prod.mk.injEq] at h
    exact ⟨i, rfl, h⟩
theorem info3 : ∃ i, Try.prog.info? 3 = some i ∧ i.zero = some (.int .i64 0) ∧ i.size = 1 ∧ i.bytes = 8 := by
  have h : (Try.prog.info? 3).map (fun i => (i.zero, i.size, i.bytes)) = some (some (.int .i64 0), 1, 8) := by kernel_rfl
  cases hq : Try.prog.info? 3 with
  | none => rw [hq] at h; cases h
  | some i =>
    rw [hq] at h
    simp only [Option.map_some, Option.some.injEq, Prod.mk.injEq] at h
    exact ⟨i, rfl, h⟩
/-- The first frame's bytes. -/
def fst0 (k : Nat) : Int := if k = 0 then 115 else if k = 1 then 0 else if k = 2 then 32 else if k = 3 then 16 else 0
theorem newB0 (k : Nat) (hk : k < 4096) : newB 0 k = fst0 k := by
  have e : k = 0 ∨ k = 1 ∨ k = 2 ∨ k = 3 ∨ 4 ≤ k := by omega
  rcases e with rfl | rfl | rfl | rfl | e
  · rfl
  · rfl
  · rfl
  · rfl
  · unfold newB over fst0
    rw [if_neg (by rw [le_len]; omega), if_neg (by omega), if_neg (by omega), if_neg (by omega), if_neg (by omega)]
theorem newB_f (n k : Nat) (hk : k < 4096) : newB n k = fst0 k := (newB_first n k hk).trans (newB0 k hk)
theorem newB_bd : ∀ (n j : Nat), 0 ≤ newB n j ∧ newB n j < 256
  | 0, j => over_bd (B := fun _ => 0) (fun _ => by omega) _ _ (le_bd _ _) j
  | n + 1, j => by
    unfold newB thr
    exact over_bd (over_bd (newB_bd n) _ _ (le_bd _ _)) _ _ junk_bd j
set_option maxHeartbeats 1000000 in
theorem first_any (W : World) : Calls Try.prog 44 #[] W fun e w' => e = .returned (.slice (some ⟨W.heap.size, 0, .none⟩) 4096 4096) ∧ (∀ k, k < 4096 → w'.cell? ⟨W.heap.size, k, .none⟩ = some (.int .u8 (fst0 k)) ∧ w'.frozen? ⟨W.heap.size, k, .none⟩ = false) ∧ Below W.heap.size W w' := by
  have hm := make4096
  have z : ∀ k, k < 4096 → (W.alloc (.cells (Zs 4096) 5)).cell? ⟨W.heap.size, k, .none⟩ = some (.int .u8 0) ∧ (W.alloc (.cells (Zs 4096) 5)).frozen? ⟨W.heap.size, k, .none⟩ = false := fun k hk => ⟨by rw [World.cell?_alloc_at _ _ _ _ rfl]; exact Zs_at 4096 k hk, World.frozen?_alloc_new _ _ _ _⟩
  have HZ : Hid (∀ k, k < 4096 → (W.alloc (.cells (Zs 4096) 5)).cell? ⟨W.heap.size, k, .none⟩ = some (.int .u8 0) ∧ (W.alloc (.cells (Zs 4096) 5)).frozen? ⟨W.heap.size, k, .none⟩ = false) := z
  have HB : Hid (Below W.heap.size W (W.alloc (.cells (Zs 4096) 5))) := below1a W _
  have a0 := z 0 (by omega)
  have a1 := z 1 (by omega)
  have a2 := z 2 (by omega)
  have a3 := z 3 (by omega)
  obtain ⟨a0, b0⟩ := a0
  obtain ⟨a1, b1⟩ := a1
  obtain ⟨a2, b2⟩ := a2
  obtain ⟨a3, b3⟩ := a3
  clear z
  go_enter Try.func44, Try.ntmps44
  go_upto_region 2 with fail
  generalize W.alloc (.cells (Zs 4096) 5) = V at *
  go_wp2
  go_ret
  refine ⟨rfl, fun k hk => ⟨?_, ?_⟩, ((((HB.out.setCell (p := ⟨W.heap.size, 0, .none⟩) (Nat.le_refl _) _).setCell (p := ⟨W.heap.size, 1, .none⟩) (Nat.le_refl _) _).setCell (p := ⟨W.heap.size, 2, .none⟩) (Nat.le_refl _) _).setCell (p := ⟨W.heap.size, 3, .none⟩) (Nat.le_refl _) _)⟩
  · have e : k = 0 ∨ k = 1 ∨ k = 2 ∨ k = 3 ∨ 4 ≤ k := by omega
    have hk0 := (HZ.out k hk).1
    rcases e with rfl | rfl | rfl | rfl | e
    · simp [go_sem, a0, fst0]
    · simp [go_sem, a1, fst0]
    · simp [go_sem, a2, fst0]
    · simp [go_sem, a3, fst0]
    · rw [World.cell?_setCell_other _ _ _ _ (by simp; try omega), World.cell?_setCell_other _ _ _ _ (by simp; try omega), World.cell?_setCell_other _ _ _ _ (by simp; try omega), World.cell?_setCell_other _ _ _ _ (by simp; try omega), hk0]
      simp [fst0, show k ≠ 0 by omega, show k ≠ 1 by omega, show k ≠ 2 by omega, show k ≠ 3 by omega]
  · simp only [World.frozen?_setCell]
    exact (HZ.out k hk).2
theorem Fx.grown {S : Nat → Prop} {w u v : World} (h : Fx S w u) {row : Option Nat} (g : u.grownBy v row) (hr : ∀ k, row = some k → w.heap.size ≤ k) : Fx S w v :=
  ⟨g.os.trans h.os, g.tape.trans h.tape, g.output.trans h.output, Nat.le_trans h.size g.size, fun k hk hs => (g.block k (Nat.lt_of_lt_of_le hk h.size) (fun e => by have := hr k e.symm; omega)).trans (h.block k hk hs)⟩
theorem own_some {w : World} {base : Nat} {e : TypeId} {size : Nat} {v : Value} {n : Nat} {xs : List Value} (h : w.ownsRow base e size v (n + 1) xs) : ∃ g cap, v = .slice (some ⟨g, 0, .none⟩) (n + 1) cap := by
  rcases h.2 with ⟨_, h0⟩ | ⟨g, cap, _, rfl, _⟩
  · omega
  · exact ⟨g, cap, rfl⟩
/-- What New of the document gives. -/
def NewQ (w : World) (n : Nat) (e : Ending) (w' : World) : Prop := ∃ q hb g lb, w.heap.size ≤ q ∧ w.heap.size ≤ hb ∧ w.heap.size ≤ g ∧ w.heap.size ≤ lb ∧ e = .returned (.tuple #[.pointer (some ⟨q, 0, .none⟩), .int .i64 0]) ∧ Qm w' q hb (fun _ => g) lb n (newB (n - 1)) (down (n - 1)) ∧ Below w.heap.size w w'
/-- While the list is made. -/
structure NR (w W : World) (q n : Nat) (v5 : Value) (wr : World) (k : Nat) (v : Value) : Prop where
  i5 : v5 = .int .i64 ((n - 1 - k : Nat) : Int)
  hk : k ≤ n - 1
  c1 : wr.cell? ⟨q, 1, .none⟩ = some v
  own : wr.ownsRow W.heap.size 3 1 v k (((down (n - 1)).take k).map iv)
  c0 : wr.cell? ⟨q, 0, .none⟩ = some (.slice (some ⟨w.heap.size, 0, .none⟩) n n)
  f1 : wr.frozen? ⟨q, 1, .none⟩ = false
  fx : Fx (fun b => b = q) W wr
theorem down_get : ∀ (n k : Nat), k < n → (down n)[k]? = some (n - k)
  | 0, k, h => by omega
  | n + 1, 0, _ => rfl
  | n + 1, k + 1, h => by
    rw [down, List.getElem?_cons_succ, down_get n k (by omega)]
    congr 1
    omega
set_option maxHeartbeats 2000000 in
set_option maxRecDepth 100000 in
theorem newQ_any (n : Nat) (h1 : 1 ≤ n) (h2 : n ≤ 4096) (w : World) : Calls Try.prog 14 #[.int .i64 n] w fun e w' => NewQ w n e w' := by
  have hmr := make_rows n h2
  obtain ⟨j0, hj0, hjz, hj1, hj2⟩ := info3
  have HZ : Hid (∀ i, i < n → (Zq n)[i]? = some (.slice .none 0 0)) := fun i hi => Zq_at n i hi
  have y1 : ¬ (n : Int) < 1 := by omega
  have y2 : ¬ (n : Int) > 4096 := by omega
  generalize Zq n = Z at *
  go_enter Try.func14, Try.ntmps14
  go_upto_region 4 with fail
  have k0 : ((w.alloc (.cells Z 27)).alloc (.cells #[.slice (some ⟨w.heap.size, 0, .none⟩) n n, .slice .none 0 0] 64)).drew.cell? ⟨w.heap.size + 1, 0, .none⟩ = some (.slice (some ⟨w.heap.size, 0, .none⟩) n n) := by
    show ((w.alloc (.cells Z 27)).alloc (.cells #[.slice (some ⟨w.heap.size, 0, .none⟩) n n, .slice .none 0 0] 64)).cell? _ = _
    rw [World.cell?_alloc_at _ _ _ _ (by simp only [World.size_alloc])]; rfl
  have HK1 : Hid (((w.alloc (.cells Z 27)).alloc (.cells #[.slice (some ⟨w.heap.size, 0, .none⟩) n n, .slice .none 0 0] 64)).drew.cell? ⟨w.heap.size + 1, 1, .none⟩ = some (.slice .none 0 0) ∧ ((w.alloc (.cells Z 27)).alloc (.cells #[.slice (some ⟨w.heap.size, 0, .none⟩) n n, .slice .none 0 0] 64)).drew.frozen? ⟨w.heap.size + 1, 1, .none⟩ = false) := by
    refine ⟨?_, ?_⟩
    · show ((w.alloc (.cells Z 27)).alloc (.cells #[.slice (some ⟨w.heap.size, 0, .none⟩) n n, .slice .none 0 0] 64)).cell? _ = _
      rw [World.cell?_alloc_at _ _ _ _ (by simp only [World.size_alloc])]; rfl
    · have := World.frozen?_alloc_new (w.alloc (.cells Z 27)) #[.slice (some ⟨w.heap.size, 0, .none⟩) n n, .slice .none 0 0] 64 1
      rw [World.size_alloc] at this
      exact this
  have HKH : Hid (∀ i, i < n → ((w.alloc (.cells Z 27)).alloc (.cells #[.slice (some ⟨w.heap.size, 0, .none⟩) n n, .slice .none 0 0] 64)).drew.cell? ⟨w.heap.size, i, .none⟩ = some (.slice .none 0 0) ∧ ((w.alloc (.cells Z 27)).alloc (.cells #[.slice (some ⟨w.heap.size, 0, .none⟩) n n, .slice .none 0 0] 64)).drew.frozen? ⟨w.heap.size, i, .none⟩ = false) := fun i hi => by
    refine ⟨?_, ?_⟩
    · show ((w.alloc (.cells Z 27)).alloc (.cells #[.slice (some ⟨w.heap.size, 0, .none⟩) n n, .slice .none 0 0] 64)).cell? _ = _
      rw [World.cell?_alloc_past _ _ _ (by simp only [World.size_alloc]; omega), World.cell?_alloc_at _ _ _ _ rfl]
      exact HZ.out i hi
    · show ((w.alloc (.cells Z 27)).alloc (.cells #[.slice (some ⟨w.heap.size, 0, .none⟩) n n, .slice .none 0 0] 64)).frozen? _ = _
      rw [World.frozen?_alloc_old _ _ _ (by simp only [World.size_alloc]; omega)]
      exact World.frozen?_alloc_new _ _ _ _
  have HBA : Hid (Below w.heap.size w ((w.alloc (.cells Z 27)).alloc (.cells #[.slice (some ⟨w.heap.size, 0, .none⟩) n n, .slice .none 0 0] 64)).drew) := (below2 w _ _).drew
  have y3 : (0 : Int) < n := by omega
  have y6 : ¬ n = 0 := by omega
  clear hmr
  go_cut [4] (fun s4 W => s4 = (.pointer (some ⟨w.heap.size + 1, 0, .none⟩)) ∧ ∃ g, W.heap.size > g ∧ w.heap.size + 1 < g ∧ W.cell? ⟨w.heap.size + 1, 0, .none⟩ = some (.slice (some ⟨w.heap.size, 0, .none⟩) n n) ∧ W.cell? ⟨w.heap.size + 1, 1, .none⟩ = some (.slice .none 0 0) ∧ W.frozen? ⟨w.heap.size + 1, 1, .none⟩ = false ∧ W.cell? ⟨w.heap.size, 0, .none⟩ = some (.slice (some ⟨g, 0, .none⟩) 4096 4096) ∧ (∀ i, 1 ≤ i → i < n → W.cell? ⟨w.heap.size, i, .none⟩ = some (.slice .none 0 0)) ∧ (∀ i, i < n → W.frozen? ⟨w.heap.size, i, .none⟩ = false) ∧ (∀ k, k < 4096 → W.cell? ⟨g, k, .none⟩ = some (.int .u8 (fst0 k)) ∧ W.frozen? ⟨g, k, .none⟩ = false) ∧ Below w.heap.size w W)
  case first =>
    refine wp_region_held_drew (S := (fun V => V.cell? ⟨w.heap.size + 1, 0, .none⟩ = some (.slice (some ⟨w.heap.size, 0, .none⟩) n n))) (by kernel_rfl) k0 (fun hHeld => ?_)
    generalize ((w.alloc (.cells Z 27)).alloc (.cells #[.slice (some ⟨w.heap.size, 0, .none⟩) n n, .slice .none 0 0] 64)).drew = V at *
    refine wpAnyH_take (i := 0) (v := (.pointer (some ⟨w.heap.size + 1, 0, .none⟩))) rfl (by kernel_rfl) (by kernel_rfl) (by kernel_rfl) (fun _ _ _ h => h) (Or.inl ⟨by rfl, fun ww hSw => by (try dsimp only at hSw); go_simp⟩) (by assumption) ?_
    simp only [Act.put, List.setIfInBounds_toArray, List.set_cons_zero, List.set_cons_succ, List.getElem_toArray, List.getElem_cons_succ, List.getElem_cons_zero]
    refine wpAnyH_take (i := 1) (v := (.pointer (some ⟨w.heap.size + 1, 0, .none⟩))) rfl (by kernel_rfl) (by kernel_rfl) (by kernel_rfl) (fun _ _ _ h => h) (Or.inl ⟨by rfl, fun ww hSw => by (try dsimp only at hSw); go_simp⟩) (by assumption) ?_
    simp only [Act.put, List.setIfInBounds_toArray, List.set_cons_zero, List.set_cons_succ, List.getElem_toArray, List.getElem_cons_succ, List.getElem_cons_zero]
    refine wpAnyH_take (i := 2) (v := (.pointer (some ⟨w.heap.size + 1, 0, .none⟩))) rfl (by kernel_rfl) (by kernel_rfl) (by kernel_rfl) (fun _ _ _ h => h) (Or.inl ⟨by rfl, fun ww hSw => by (try dsimp only at hSw); go_simp⟩) (by assumption) ?_
    simp only [Act.put, List.setIfInBounds_toArray, List.set_cons_zero, List.set_cons_succ, List.getElem_toArray, List.getElem_cons_succ, List.getElem_cons_zero]
    refine wpAnyH_take (i := 3) (v := (.slice (some ⟨w.heap.size, 0, .none⟩) n n)) rfl (by kernel_rfl) (by kernel_rfl) (by kernel_rfl) (fun _ _ _ h => h) (Or.inl ⟨by rfl, fun ww hSw => by (try dsimp only at hSw); go_simp⟩) (by assumption) ?_
    simp only [Act.put, List.setIfInBounds_toArray, List.set_cons_zero, List.set_cons_succ, List.getElem_toArray, List.getElem_cons_succ, List.getElem_cons_zero]
    refine wpAnyH_ready (rs := [4]) (by kernel_rfl) (by simp) ?_
    refine AllReadyH.cons rfl (fun K hK => ?_) AllReadyH.nil
    go_simp
    go_at_call 44
    refine (first_any V).mono ?_
    rintro e V1 ⟨rfl, hcl, hb1⟩
    have HCL : Hid (∀ k, k < 4096 → V1.cell? ⟨V.heap.size, k, .none⟩ = some (.int .u8 (fst0 k)) ∧ V1.frozen? ⟨V.heap.size, k, .none⟩ = false) := hcl
    have k1 := (hb1.cell (lt_of_cell k0)).trans k0
    have lq := lt_of_cell k0
    have kq := (hb1.cell (p := ⟨w.heap.size + 1, 1, .none⟩) lq).trans HK1.out.1
    have kqf := (hb1.frozen (p := ⟨w.heap.size + 1, 1, .none⟩) lq).trans HK1.out.2
    have HH1 : Hid (∀ i, i < n → V1.cell? ⟨w.heap.size, i, .none⟩ = some (.slice .none 0 0) ∧ V1.frozen? ⟨w.heap.size, i, .none⟩ = false) := fun i hi => ⟨(hb1.cell (p := ⟨w.heap.size, i, .none⟩) (by show w.heap.size < _; have : w.heap.size + 1 < V.heap.size := lq; omega)).trans (HKH.out i hi).1, (hb1.frozen (p := ⟨w.heap.size, i, .none⟩) (by show w.heap.size < _; have : w.heap.size + 1 < V.heap.size := lq; omega)).trans (HKH.out i hi).2⟩
    have HB1 : Hid (Below w.heap.size w V1) := HBA.out.trans (hb1.mono HBA.out.size)
    have h00 := (HH1.out 0 (by omega)).1
    have f00 := (HH1.out 0 (by omega)).2
    have lg : w.heap.size + 1 < V.heap.size := lq
    have lg2 : V.heap.size < V1.heap.size := lt_of_cell (HCL.out 0 (by omega)).1
    clear hcl hb1
    refine hK.out _ _ k1 (fun hHeld => ?_)
    clear hK K
    try simp only [Act.put, List.setIfInBounds_toArray, List.set_cons_zero, List.set_cons_succ, List.getElem_toArray, List.getElem_cons_succ, List.getElem_cons_zero]
    refine wpAnyH_take (i := 5) (v := (.pointer (some ⟨w.heap.size, 0, .none⟩))) rfl (by kernel_rfl) (by kernel_rfl) (by kernel_rfl) (fun _ _ _ h => h) (Or.inl ⟨by rfl, fun ww hSw => by (try dsimp only at hSw); go_simp⟩) (by assumption) ?_
    simp only [Act.put, List.setIfInBounds_toArray, List.set_cons_zero, List.set_cons_succ, List.getElem_toArray, List.getElem_cons_succ, List.getElem_cons_zero]
    refine wpAnyH_ready (rs := [6]) (by kernel_rfl) (by simp) ?_
    refine AllReadyH.cons rfl (fun K hK => ?_) AllReadyH.nil
    go_simp
    have k2 : (V1.setCell ⟨w.heap.size, 0, .none⟩ (.slice (some ⟨V.heap.size, 0, .none⟩) 4096 4096)).cell? ⟨w.heap.size + 1, 0, .none⟩ = some (.slice (some ⟨w.heap.size, 0, .none⟩) n n) := (World.cell?_setCell_other _ _ _ _ (by simp)).trans k1
    refine hK.out _ _ k2 (fun hHeld => ?_)
    clear hK K
    try simp only [Act.put, List.setIfInBounds_toArray, List.set_cons_zero, List.set_cons_succ, List.getElem_toArray, List.getElem_cons_succ, List.getElem_cons_zero]
    refine wpAnyH_done (by kernel_rfl) ?_ _
    go_wp2
    go_meet
    refine ⟨rfl, V.heap.size, by simp; omega, lg, k2, (World.cell?_setCell_other _ _ _ _ (by simp)).trans kq, (World.frozen?_setCell ..).trans kqf, World.cell?_setCell_same' _ _ _ (by rw [h00]; rfl), fun i h1 h2 => (World.cell?_setCell_other _ _ _ _ (by simp; try omega)).trans (HH1.out i h2).1, fun i h2 => (World.frozen?_setCell ..).trans (HH1.out i h2).2, fun k hk => ⟨(World.cell?_setCell_other _ _ _ _ (by simp; try omega)).trans (HCL.out k hk).1, (World.frozen?_setCell ..).trans (HCL.out k hk).2⟩, HB1.out.setCell (p := ⟨w.heap.size, 0, .none⟩) (Nat.le_refl _) _⟩
  case rest =>
    obtain ⟨rfl, g, gs, lg, c0, c1, f1, ch0, chi, fh, cg, hbw⟩ := hcut
    have HF : Hid (∃ k v, NR w wc (w.heap.size + 1) n (.int .i64 ((n : Int) - 1)) wc k v) := ⟨0, _, by rw [show (((n - 1 - 0 : Nat)) : Int) = (n : Int) - 1 by omega], by omega, c1, ⟨rfl, .inl ⟨rfl, rfl⟩⟩, c0, f1, Fx.refl _ _⟩
    have HW : Hid (wc.heap.size > g ∧ w.heap.size + 1 < g ∧ wc.cell? ⟨w.heap.size + 1, 0, .none⟩ = some (.slice (some ⟨w.heap.size, 0, .none⟩) n n) ∧ wc.frozen? ⟨w.heap.size + 1, 1, .none⟩ = false ∧ wc.cell? ⟨w.heap.size, 0, .none⟩ = some (.slice (some ⟨g, 0, .none⟩) 4096 4096) ∧ (∀ i, 1 ≤ i → i < n → wc.cell? ⟨w.heap.size, i, .none⟩ = some (.slice .none 0 0)) ∧ (∀ i, i < n → wc.frozen? ⟨w.heap.size, i, .none⟩ = false) ∧ (∀ k, k < 4096 → wc.cell? ⟨g, k, .none⟩ = some (.int .u8 (fst0 k)) ∧ wc.frozen? ⟨g, k, .none⟩ = false) ∧ Below w.heap.size w wc) := ⟨gs, lg, c0, f1, ch0, chi, fh, cg, hbw⟩
    clear gs lg c0 c1 f1 ch0 chi fh cg hbw k0 HK1 HKH HBA
    go_wp2
    go_loopw [5] (fun v5 wr => ∃ k v, NR w wc (w.heap.size + 1) n v5 wr k v) (fun v5 _ => (intOf v5).toNat)
    case atStart => exact HF.out
    case round =>
      obtain ⟨k, v, rfl, hk, c1, own, c0, f1, fx⟩ := hrel
      have HO : Hid (wr.ownsRow wc.heap.size 3 1 v k (((down (n - 1)).take k).map iv)) := own
      have HX : Hid (Fx (fun b => b = w.heap.size + 1) wc wr) := fx
      have lqs : w.heap.size + 1 < wc.heap.size := by have := HW.out.1; have := HW.out.2.1; omega
      by_cases hlt : k < n - 1
      · obtain ⟨qv, cv, rfl⟩ : ∃ qv cv, v = .slice qv k cv := by
          rcases own.2 with ⟨rfl, rfl⟩ | ⟨g, cap, _, rfl, _⟩
          · exact ⟨_, _, rfl⟩
          · exact ⟨_, _, rfl⟩
        have HOA : Hid (∀ o, (wr.alloc o).ownsRow wc.heap.size 3 1 (.slice qv k cv) k (((down (n - 1)).take k).map iv)) := fun o => own.alloc o
        have HC0 : Hid (wr.cell? ⟨w.heap.size + 1, 0, .none⟩ = some (.slice (some ⟨w.heap.size, 0, .none⟩) n n)) := c0
        have HC1 : Hid (wr.cell? ⟨w.heap.size + 1, 1, .none⟩ = some (.slice qv k cv)) := c1
        have HF1 : Hid (wr.frozen? ⟨w.heap.size + 1, 1, .none⟩ = false) := f1
        have htk : Hid ((down (n - 1)).take (k + 1) = (down (n - 1)).take k ++ [n - 1 - k]) := by
          show _ = _
          rw [List.take_add_one, down_get (n - 1) k hlt]
          rfl
        have e1 : Hid (((n - 1 - (k + 1) : Nat) : Int) = ((n - 1 - k : Nat) : Int) - 1) := by show _ = _; omega
        have p0 : (0 : Int) < ((n - 1 - k : Nat) : Int) := by omega
        have p1 : ((n - 1 - k : Nat) : Int) < 4096 := by omega
        have e2 : Hid (iv (n - 1 - k) = .int .i64 ((n - 1 - k : Nat) : Int)) := rfl
        have m1 : Hid ((((n - 1 - k : Nat) : Int) - 1).toNat < (((n - 1 - k : Nat) : Int)).toNat) := by show _ < _; omega
        clear own fx c0
        generalize hJ : ((n - 1 - k : Nat) : Int) = J at *
        clear hJ
        go_wp2_with (first | (at_builtin; refine wpList_append_own _ rfl _ _ 62 rfl wc.heap.size 3 j0 (.int .i64 0) 1 8 Try.underlying62 hj0 hjz hj1 hj2 rfl (by decide) _ _ (((down (n - 1)).take k).map iv) rfl (HOA.out _) ⟨wr.heap.size, 0, .none⟩ 1 1 [.int .i64 J] rfl rfl (cell1_new _ _ _) (by simp [Value.oneCell']) (by unfold maxLen; omega) (by omega) (by simp only [World.size_alloc]; exact Nat.le_succ_of_le HX.out.size) ?_; intro v' w5 hown5 hgrow _; obtain ⟨gr, cap1, rfl⟩ := own_some hown5; have g0 := (World.cell?_of_block (hgrow.block (w.heap.size + 1) (by simp only [World.size_alloc]; have := HX.out.size; omega) (fun e => (by have := (HO.out.lt _ e.symm).1; omega)))).trans ((Below.cell (below1a wr _) (lt_of_cell HC1.out)).trans HC1.out); have g1 := (World.frozen?_of_block (hgrow.block (w.heap.size + 1) (by simp only [World.size_alloc]; have := HX.out.size; omega) (fun e => (by have := (HO.out.lt _ e.symm).1; omega)))).trans ((Below.frozen (below1a wr _) (lt_of_cell HC1.out)).trans HF1.out)) | fail)
        have HO5 : Hid (w5.ownsRow wc.heap.size 3 1 (.slice (some ⟨gr, 0, .none⟩) (k + 1) cap1) (k + 1) (((down (n - 1)).take (k + 1)).map iv)) := by
          show World.ownsRow _ _ _ _ _ _ _
          rw [htk.out, List.map_append, List.map_singleton, e2.out]
          exact hown5
        have hbq : w5.heap[w.heap.size + 1]? = wr.heap[w.heap.size + 1]? := (hgrow.block (w.heap.size + 1) (by simp only [World.size_alloc]; have := HX.out.size; omega) (fun e => (by have := (HO.out.lt _ e.symm).1; omega))).trans (Below.block (below1a wr _) _ (by have := HX.out.size; omega))
        have fx5 : Fx (fun b => b = w.heap.size + 1) wc w5 := (HX.out.trans (Fx.of_below (below1a wr _))).grown hgrow (fun k hk => (HO.out.lt _ hk).1)
        have grl := (HO5.out.lt gr rfl).1
        exact ⟨⟨k + 1, _, by rw [e1.out], by omega, World.cell?_setCell_same' _ _ _ (by rw [g0]; rfl), ownsRow_setCell_below HO5.out (a := ⟨w.heap.size + 1, 1, .none⟩) (by show w.heap.size + 1 < _; omega) _, (World.cell?_setCell_other _ _ _ _ (by simp)).trans ((World.cell?_of_block hbq).trans HC0.out), (World.frozen?_setCell ..).trans g1, fx5.setCell _ _ rfl⟩, by simp only [intOf]; exact m1.out⟩
      · obtain rfl : k = n - 1 := by omega
        have e0 : ((n - 1 - (n - 1) : Nat) : Int) = 0 := by omega
        rw [e0]
        have HN : Hid (NewQ w n (.returned (.tuple #[.pointer (some ⟨w.heap.size + 1, 0, .none⟩), .int .i64 0])) wr) := by
          obtain ⟨gs, lg, _, _, ch0, chi, fh, cg, hbw⟩ := HW.out
          have kc : ∀ b o, b < wc.heap.size → b ≠ w.heap.size + 1 → wr.cell? ⟨b, o, .none⟩ = wc.cell? ⟨b, o, .none⟩ := fun b o hb hne => World.cell?_of_block (fx.block b hb hne)
          have kf : ∀ b o, b < wc.heap.size → b ≠ w.heap.size + 1 → wr.frozen? ⟨b, o, .none⟩ = wc.frozen? ⟨b, o, .none⟩ := fun b o hb hne => World.frozen?_of_block (fx.block b hb hne)
          have z0 : 0 ∉ down (n - 1) := fun h => by have := (down_mem _ _).1 h; omega
          have hd : ∀ i, i < n → i ∉ down (n - 1) → i = 0 := fun i hi hn => by
            by_cases e : i = 0
            · exact e
            · exact absurd ((down_mem (n - 1) i).2 (by omega)) hn
          have htl : (down (n - 1)).take (n - 1) = down (n - 1) := List.take_of_length_le (by rw [down_len]; omega)
          rw [htl] at own
          obtain ⟨lb, llb, l1, l2, l3, hls⟩ : ∃ lb, w.heap.size ≤ lb ∧ lb ≠ w.heap.size + 1 ∧ lb ≠ w.heap.size ∧ g ≠ lb ∧ Lst wr lb v (down (n - 1)) := by
            rcases own.2 with ⟨rfl, e⟩ | ⟨gg, cap, cur, rfl, hg, hcur, hcap, _, hsz, htk⟩
            · exact ⟨g + 1, by omega, by omega, by omega, by omega, .inl ⟨_, _, rfl, by rw [e]; rfl⟩⟩
            · refine ⟨gg, by omega, by omega, by omega, by omega, .inr ⟨0, cap, by rw [down_len], by rw [down_len]; exact hcap, fun j x hj => ?_⟩⟩
              have hjl : j < n - 1 := by have := (List.getElem?_eq_some_iff.1 hj).1; rwa [down_len] at this
              rw [Nat.zero_add]
              have : (cur.toList.take ((n - 1) * 1))[j]? = some (iv x) := by rw [htk, List.getElem?_map, hj]; rfl
              rw [List.getElem?_take_of_lt (by omega)] at this
              simp only [World.cell?, hcur]
              simpa [iv] using this
          refine ⟨w.heap.size + 1, w.heap.size, g, lb, by omega, Nat.le_refl _, by omega, llb, rfl, ⟨c0, ⟨v, c1, hls⟩, f1, fun i hi hm => ?_, fun i hi hm => ?_, fun i hi => (kf _ i (by omega) (by omega)).trans (fh i hi), fun i hi hm k hk => ?_, fun i hi hm k hk => (kf g k gs (by omega)).trans (cg k hk).2, fun i j hi hj h1 h2 _ => by rw [hd i hi h1, hd j hj h2], by omega, ⟨l1, l2, fun _ _ _ => l3⟩, down_nd _, fun i hi => by have := (down_mem _ _).1 hi; omega, h1, h2, newB_bd _⟩, ?_⟩
          · exact (kc _ i (by omega) (by omega)).trans (chi i (by have := (down_mem _ _).1 hm; omega) hi)
          · rw [hd i hi hm]
            exact (kc _ 0 (by omega) (by omega)).trans ch0
          · rw [hd i hi hm, kc g k gs (by omega), (cg k hk).1, Nat.zero_mul, Nat.zero_add, newB_f _ _ hk]
          · exact ⟨fx.os.trans hbw.os, fx.tape.trans hbw.tape, fx.output.trans hbw.output, Nat.le_trans hbw.size fx.size, fun k hk => (fx.block k (by omega) (by omega)).trans (hbw.block k hk)⟩
        clear own fx c0 c1 f1
        go_wp2
        go_ret2
        exact HN.out
end Go.Proofs.Ytnghcadhilfgnaa
