import Derived.Test.YthdlefbaegbldaaGreatDoorFg
namespace Go.Proofs.YthdlefbaegbldaaGreatDoor
open Go.RowKit
set_option linter.unusedVariables false
set_option linter.unusedSimpArgs false
set_option maxRecDepth 100000
/-- What a write to a pipe's end tells. -/
def Sent (w : World) (base : Nat) (xs : List Int) (rd : Bool) (ys : List Int) (k l pp : Int) (v : Value) : Prop :=
  (putHow xs rd ys = 3 ∧ v = .agg #[.int .i64 3, .int .i64 0, .slice none 0 0, .int .i64 0, .int .i64 0, .slice none 0 0]) ∨
  (putHow xs rd ys = 2 ∧ ∃ wp wn wc, v = .agg #[.int .i64 2, .int .i64 (putN xs rd ys), .slice none 0 0, .int .i64 k, .int .i64 pp, .slice wp wn wc] ∧ Ch1 w base (.slice wp wn wc) (putN xs rd ys != 0) l pp) ∨
  (putHow xs rd ys = 1 ∧ ∃ wp wn wc, v = .agg #[.int .i64 1, .int .i64 (putN xs rd ys), .slice none 0 0, .int .i64 0, .int .i64 0, .slice wp wn wc] ∧ Ch1 w base (.slice wp wn wc) (putN xs rd ys != 0) l pp)
theorem putHow_cases (xs : List Int) (rd : Bool) (ys : List Int) : putHow xs rd ys = 3 ∨ putHow xs rd ys = 2 ∨ putHow xs rd ys = 1 := by
  unfold putHow
  split
  · exact .inr (.inr rfl)
  · split
    · split
      · exact .inr (.inl rfl)
      · exact .inr (.inr rfl)
    · exact .inl rfl
structure Zs (w : World) (z : Nat) : Prop where
  c0 : w.cell? ⟨z, 0, .none⟩ = some (.int .i64 0)
  c1 : w.cell? ⟨z, 1, .none⟩ = some (.int .i64 0)
  c2 : w.cell? ⟨z, 2, .none⟩ = some (.slice none 0 0)
  c3 : w.cell? ⟨z, 3, .none⟩ = some (.int .i64 0)
  c4 : w.cell? ⟨z, 4, .none⟩ = some (.int .i64 0)
  c5 : w.cell? ⟨z, 5, .none⟩ = some (.slice none 0 0)
  f : ∀ i, w.frozen? ⟨z, i, .none⟩ = false
theorem Zs.new (w : World) : Zs (w.alloc (.cells #[.int .i64 0, .int .i64 0, .slice none 0 0, .int .i64 0, .int .i64 0, .slice none 0 0] 40)) w.heap.size :=
  ⟨by rw [World.cell?_alloc_at _ _ _ _ rfl]; rfl, by rw [World.cell?_alloc_at _ _ _ _ rfl]; rfl, by rw [World.cell?_alloc_at _ _ _ _ rfl]; rfl, by rw [World.cell?_alloc_at _ _ _ _ rfl]; rfl, by rw [World.cell?_alloc_at _ _ _ _ rfl]; rfl, by rw [World.cell?_alloc_at _ _ _ _ rfl]; rfl, fun i => froz_new _ _ _ _⟩
theorem Zs.keep {w w' : World} {z : Nat} (h : Zs w z) (hb : w'.heap[z]? = w.heap[z]?) : Zs w' z :=
  ⟨(World.cell?_of_block hb).trans h.c0, (World.cell?_of_block hb).trans h.c1, (World.cell?_of_block hb).trans h.c2, (World.cell?_of_block hb).trans h.c3, (World.cell?_of_block hb).trans h.c4, (World.cell?_of_block hb).trans h.c5, fun i => (World.frozen?_of_block hb).trans (h.f i)⟩
theorem Zs.there {w : World} {z : Nat} (h : Zs w z) : w.there z 0 6 := fun j hj => by
  rw [Nat.zero_add]
  refine ⟨?_, h.f j⟩
  match j, hj with
  | 0, _ => rw [h.c0]; rfl
  | 1, _ => rw [h.c1]; rfl
  | 2, _ => rw [h.c2]; rfl
  | 3, _ => rw [h.c3]; rfl
  | 4, _ => rw [h.c4]; rfl
  | 5, _ => rw [h.c5]; rfl
def WriteP (w : World) (b : Nat) (xs : List Int) (r : Int) (rd wt : Bool) (ys : List Int) (k l pp : Int) (e : Ending) (w' : World) : Prop :=
  ∃ v, e = .returned v ∧ Sent w' w.heap.size xs rd ys k l pp v ∧ Pip w' b (xs ++ ys.take (putN xs rd ys)) r rd wt ∧ Trn b w w'
set_option maxHeartbeats 4000000 in
theorem writeE_any {w : World} {b : Nat} {xs : List Int} {r : Int} {rd wt : Bool} (h : Pip w b xs r rd wt) {p : Option Addr} {n c : Nat} {ys : List Int} (hB : Byt w p n c ys) (hp : 0 < n → NB p b) (hy : ∀ y ∈ ys, 0 ≤ y ∧ y < 256) (k l pp : Int) :
    Calls Tryz.prog 78 #[.agg #[.pointer (some ⟨b, 0, .none⟩), .int .i64 k, .int .i64 pp, .int .i64 l, .int .i64 pp], .slice p n c] w (WriteP w b xs r rd wt ys k l pp) := by
  obtain ⟨W, hW⟩ : ∃ W, W = (w.alloc (.cells #[.pointer (some ⟨b, 0, .none⟩), .int .i64 k, .int .i64 pp, .int .i64 l, .int .i64 pp] 146)).alloc (.cells #[.int .i64 0, .int .i64 0, .slice none 0 0, .int .i64 0, .int .i64 0, .slice none 0 0] 40) := ⟨_, rfl⟩
  have hlt := h.lt
  have hb1 : Below w.heap.size w (w.alloc (.cells #[.pointer (some ⟨b, 0, .none⟩), .int .i64 k, .int .i64 pp, .int .i64 l, .int .i64 pp] 146)) := (Below.refl _ _).alloc (Nat.le_refl _) _
  have HB : Hid (Below w.heap.size w W ∧ W.heap.size = w.heap.size + 2 ∧ En W w.heap.size (some ⟨b, 0, .none⟩) k l pp ∧ Zs W (w.heap.size + 1)) := by
    rw [hW]
    refine ⟨hb1.alloc (by simp) _, by simp, (En.new w _ k l pp).below ((Below.refl _ _).alloc (Nat.le_refl _) _), ?_⟩
    have := Zs.new (w.alloc (.cells #[.pointer (some ⟨b, 0, .none⟩), .int .i64 k, .int .i64 pp, .int .i64 l, .int .i64 pp] 146))
    rwa [World.size_alloc] at this
  have HW : Hid ((w.alloc (.cells #[.pointer (some ⟨b, 0, .none⟩), .int .i64 k, .int .i64 pp, .int .i64 l, .int .i64 pp] 146)).alloc (.cells #[.int .i64 0, .int .i64 0, .slice none 0 0, .int .i64 0, .int .i64 0, .slice none 0 0] 40) = W) := hW.symm
  have HP : Hid (Pip W b xs r rd wt) := h.below HB.out.1
  have hput := put_pip HP.out (byt_below hB HB.out.1) hp hy
  have e0 := HB.out.2.2.1.c0
  clear hW hb1 h hB hp hy
  go_enter Tryz.func78, Tryz.ntmps78
  go_upto_region 1 with fail
  rw [HW.out]
  clear HW
  go_wp2_with fail
  refine hput.mono ?_
  rintro _ V ⟨rfl, hPV, hT⟩
  have HV : Hid (Pip V b (xs ++ ys.take (putN xs rd ys)) r rd wt ∧ Trn b W V) := ⟨hPV, hT⟩
  clear hPV hT hput
  have kb : V.heap[w.heap.size]? = W.heap[w.heap.size]? := HV.out.2.block _ (by have := HB.out.2.1; omega) (by omega)
  have kr : V.heap[w.heap.size + 1]? = W.heap[w.heap.size + 1]? := HV.out.2.block _ (by have := HB.out.2.1; omega) (by omega)
  have HE : Hid (En V w.heap.size (some ⟨b, 0, .none⟩) k l pp) := HB.out.2.2.1.keep kb
  have HZ : Hid (Zs V (w.heap.size + 1)) := HB.out.2.2.2.keep kr
  have hz : w.heap.size + 1 < V.heap.size := by have := HV.out.2.size; have := HB.out.2.1; omega
  have HTW : Hid (Trn b w V) := (Trn.ofBelow HB.out.1).trans HV.out.2
  clear kb kr e0
  obtain ⟨m, hm⟩ : ∃ m, m = putN xs rd ys := ⟨_, rfl⟩
  rw [← hm]
  have HM : Hid (putN xs rd ys = m) := hm.symm
  clear hm
  have c0 := HE.out.c0
  have c1 := HE.out.c1
  have c2 := HE.out.c2
  have c3 := HE.out.c3
  have c4 := HE.out.c4
  rcases putHow_cases xs rd ys with hw | hw | hw
  · rw [hw]
    have HH : Hid (putHow xs rd ys = 3) := hw
    clear hw
    have z0 := HZ.out.c0
    have y0 := HZ.out.f 0
    have z1 := HZ.out.c1
    have y1 := HZ.out.f 1
    have z2 := HZ.out.c2
    have y2 := HZ.out.f 2
    have z3 := HZ.out.c3
    have y3 := HZ.out.f 3
    have z4 := HZ.out.c4
    have y4 := HZ.out.f 4
    have z5 := HZ.out.c5
    have y5 := HZ.out.f 5
    go_wp2
    refine ret_cells (V := V) (z := w.heap.size + 1) [.int .i64 3, .int .i64 0, .slice none 0 0, .int .i64 0, .int .i64 0, .slice none 0 0] rfl rfl HZ.out.there (fun W h => run_loadVar_mid (P := Tryz.prog) W _ 0 40 _ _ h Tryz.underlying40 rfl (by kernel_rfl)) rfl ?_
    intro X hX
    exact ⟨_, rfl, .inl ⟨HH.out, rfl⟩, HV.out.1.keep hX (by omega), HTW.out.past hX (by omega)⟩
  · rw [hw]
    have HH : Hid (putHow xs rd ys = 2) := hw
    clear hw
    go_upto_region 6 with fail
    have j0 : (V.drew.cell? ⟨w.heap.size, 0, .none⟩ = some (.pointer (some ⟨b, 0, .none⟩)) ∧ V.drew.cell? ⟨w.heap.size, 1, .none⟩ = some (.int .i64 k) ∧ V.drew.cell? ⟨w.heap.size, 2, .none⟩ = some (.int .i64 pp) ∧ V.drew.cell? ⟨w.heap.size, 3, .none⟩ = some (.int .i64 l) ∧ V.drew.cell? ⟨w.heap.size, 4, .none⟩ = some (.int .i64 pp)) := ⟨c0, c1, c2, c3, c4⟩
    clear c0 c1 c2 c3 c4
    refine wp_region_held_drew (S := fun U => (U.cell? ⟨w.heap.size, 0, .none⟩ = some (.pointer (some ⟨b, 0, .none⟩)) ∧ U.cell? ⟨w.heap.size, 1, .none⟩ = some (.int .i64 k) ∧ U.cell? ⟨w.heap.size, 2, .none⟩ = some (.int .i64 pp) ∧ U.cell? ⟨w.heap.size, 3, .none⟩ = some (.int .i64 l) ∧ U.cell? ⟨w.heap.size, 4, .none⟩ = some (.int .i64 pp))) (by kernel_rfl) j0 (fun hHeld => ?_)
    refine wpAnyH_take (i := 0) (v := (.int .i64 m)) rfl (by kernel_rfl) (by kernel_rfl) (by kernel_rfl) (fun _ _ _ h => h) (Or.inl ⟨by rfl, fun ww hSw => by (try dsimp only at hSw); go_simp⟩) (by assumption) ?_
    simp only [Act.put, List.setIfInBounds_toArray, List.set_cons_zero, List.set_cons_succ, List.getElem_toArray, List.getElem_cons_succ, List.getElem_cons_zero]
    refine wpAnyH_take (i := 1) (v := (.pointer (some ⟨w.heap.size, 1, .none⟩))) rfl (by kernel_rfl) (by kernel_rfl) (by kernel_rfl) (fun _ _ _ h => h) (Or.inl ⟨by rfl, fun ww hSw => by (try dsimp only at hSw); go_simp⟩) (by assumption) ?_
    simp only [Act.put, List.setIfInBounds_toArray, List.set_cons_zero, List.set_cons_succ, List.getElem_toArray, List.getElem_cons_succ, List.getElem_cons_zero]
    refine wpAnyH_take (i := 2) (v := (.agg #[.int .i64 k, .int .i64 pp])) rfl (by kernel_rfl) (by kernel_rfl) (by kernel_rfl) (fun _ _ _ h => h) (Or.inl ⟨by rfl, fun ww hSw => by (try dsimp only at hSw); go_simp⟩) (by assumption) ?_
    simp only [Act.put, List.setIfInBounds_toArray, List.set_cons_zero, List.set_cons_succ, List.getElem_toArray, List.getElem_cons_succ, List.getElem_cons_zero]
    refine wpAnyH_take (i := 3) (v := (.agg #[.pointer (some ⟨b, 0, .none⟩), .int .i64 k, .int .i64 pp, .int .i64 l, .int .i64 pp])) rfl (by kernel_rfl) (by kernel_rfl) (by kernel_rfl) (fun _ _ _ h => h) (Or.inl ⟨by rfl, fun ww hSw => by (try dsimp only at hSw); go_simp⟩) (by assumption) ?_
    simp only [Act.put, List.setIfInBounds_toArray, List.set_cons_zero, List.set_cons_succ, List.getElem_toArray, List.getElem_cons_succ, List.getElem_cons_zero]
    refine wpAnyH_take (i := 4) (v := (.int .i64 m)) rfl (by kernel_rfl) (by kernel_rfl) (by kernel_rfl) (fun _ _ _ h => h) (Or.inl ⟨by rfl, fun ww hSw => by (try dsimp only at hSw); go_simp⟩) (by assumption) ?_
    simp only [Act.put, List.setIfInBounds_toArray, List.set_cons_zero, List.set_cons_succ, List.getElem_toArray, List.getElem_cons_succ, List.getElem_cons_zero]
    refine wpAnyH_ready (rs := [5]) (by kernel_rfl) (by simp) ?_
    refine AllReadyH.cons rfl (fun K hK => ?_) AllReadyH.nil
    go_simp
    refine (wakeFor_any V.drew (some ⟨b, 0, .none⟩) k l pp m).mono ?_
    rintro _ U ⟨_, rfl, ⟨wp, wn, wc, rfl⟩, hC, hbU⟩
    have hbU : Below V.heap.size V U := ⟨hbU.os, hbU.tape, hbU.output, hbU.size, hbU.block⟩
    have HU : Hid (Ch1 U V.heap.size (.slice wp wn wc) (m != 0) l pp ∧ Below V.heap.size V U) := ⟨hC, hbU⟩
    have HT2 : Hid (Zs U (w.heap.size + 1)) := HZ.out.keep (hbU.block _ hz)
    have hE2 := HE.out.keep (hbU.block _ (by omega))
    have kU : (U.cell? ⟨w.heap.size, 0, .none⟩ = some (.pointer (some ⟨b, 0, .none⟩)) ∧ U.cell? ⟨w.heap.size, 1, .none⟩ = some (.int .i64 k) ∧ U.cell? ⟨w.heap.size, 2, .none⟩ = some (.int .i64 pp) ∧ U.cell? ⟨w.heap.size, 3, .none⟩ = some (.int .i64 l) ∧ U.cell? ⟨w.heap.size, 4, .none⟩ = some (.int .i64 pp)) := ⟨hE2.c0, hE2.c1, hE2.c2, hE2.c3, hE2.c4⟩
    clear hC hbU hE2
    refine hK.out _ _ kU (fun hHeld => ?_)
    clear hK K
    try simp only [Act.put, List.setIfInBounds_toArray, List.set_cons_zero, List.set_cons_succ, List.getElem_toArray, List.getElem_cons_succ, List.getElem_cons_zero]
    refine wpAnyH_take (i := 6) (v := (.agg #[.int .i64 2, .int .i64 m, .slice none 0 0, .int .i64 k, .int .i64 pp, .slice wp wn wc])) rfl (by kernel_rfl) (by kernel_rfl) (by kernel_rfl) (fun _ _ _ h => h) (Or.inl ⟨by rfl, fun ww hSw => by (try dsimp only at hSw); go_simp⟩) (by assumption) ?_
    simp only [Act.put, List.setIfInBounds_toArray, List.set_cons_zero, List.set_cons_succ, List.getElem_toArray, List.getElem_cons_succ, List.getElem_cons_zero]
    refine wpAnyH_ready (rs := [7]) (by kernel_rfl) (by simp) ?_
    refine AllReadyH.cons rfl (fun K hK => ?_) AllReadyH.nil
    refine step_store_mid rfl 40 (.tmp 4) (.tmp 26) rfl (w.heap.size + 1) 0 #[.int .i64 2, .int .i64 m, .slice none 0 0, .int .i64 k, .int .i64 pp, .slice wp wn wc] (by simp [Act.eval]) (by simp [Act.eval]) HT2.out.there (by kernel_rfl) (by simp [Value.oneCell']) ?_
    have kX : ((U.setCells (w.heap.size + 1) 0 [.int .i64 2, .int .i64 m, .slice none 0 0, .int .i64 k, .int .i64 pp, .slice wp wn wc]).cell? ⟨w.heap.size, 0, .none⟩ = some (.pointer (some ⟨b, 0, .none⟩)) ∧ (U.setCells (w.heap.size + 1) 0 [.int .i64 2, .int .i64 m, .slice none 0 0, .int .i64 k, .int .i64 pp, .slice wp wn wc]).cell? ⟨w.heap.size, 1, .none⟩ = some (.int .i64 k) ∧ (U.setCells (w.heap.size + 1) 0 [.int .i64 2, .int .i64 m, .slice none 0 0, .int .i64 k, .int .i64 pp, .slice wp wn wc]).cell? ⟨w.heap.size, 2, .none⟩ = some (.int .i64 pp) ∧ (U.setCells (w.heap.size + 1) 0 [.int .i64 2, .int .i64 m, .slice none 0 0, .int .i64 k, .int .i64 pp, .slice wp wn wc]).cell? ⟨w.heap.size, 3, .none⟩ = some (.int .i64 l) ∧ (U.setCells (w.heap.size + 1) 0 [.int .i64 2, .int .i64 m, .slice none 0 0, .int .i64 k, .int .i64 pp, .slice wp wn wc]).cell? ⟨w.heap.size, 4, .none⟩ = some (.int .i64 pp)) := by
      have ht := Trn.setCells (w.heap.size + 1) 0 [.int .i64 2, .int .i64 m, .slice none 0 0, .int .i64 k, .int .i64 pp, .slice wp wn wc] U
      have hlt2 : w.heap.size < U.heap.size := by have := HU.out.2.size; omega
      obtain ⟨u0, u1, u2, u3, u4⟩ := kU
      exact ⟨(ht.cell (p := ⟨w.heap.size, 0, .none⟩) hlt2 (by show w.heap.size ≠ _; omega)).trans u0, (ht.cell (p := ⟨w.heap.size, 1, .none⟩) hlt2 (by show w.heap.size ≠ _; omega)).trans u1, (ht.cell (p := ⟨w.heap.size, 2, .none⟩) hlt2 (by show w.heap.size ≠ _; omega)).trans u2, (ht.cell (p := ⟨w.heap.size, 3, .none⟩) hlt2 (by show w.heap.size ≠ _; omega)).trans u3, (ht.cell (p := ⟨w.heap.size, 4, .none⟩) hlt2 (by show w.heap.size ≠ _; omega)).trans u4⟩
    refine hK.out _ _ kX (fun hHeld => ?_)
    clear hK K
    try simp only [Act.put, List.setIfInBounds_toArray, List.set_cons_zero, List.set_cons_succ, List.getElem_toArray, List.getElem_cons_succ, List.getElem_cons_zero]
    refine wpAnyH_done (by kernel_rfl) ?_ _
    go_wp2
    refine ret_cells (V := U) (z := w.heap.size + 1) [.int .i64 2, .int .i64 m, .slice none 0 0, .int .i64 k, .int .i64 pp, .slice wp wn wc] rfl rfl HT2.out.there (fun W h => run_loadVar_mid (P := Tryz.prog) W _ 0 40 _ _ h Tryz.underlying40 rfl (by kernel_rfl)) rfl ?_
    intro X hX
    have tb : Trn b V U := Trn.ofBelow HU.out.2
    refine ⟨_, rfl, .inr (.inl ⟨HH.out, wp, wn, wc, by rw [HM.out], ?_⟩), ?_, (HTW.out.trans tb).past hX (by omega)⟩
    · rw [HM.out]; exact (HU.out.1.trn hX (by have := HV.out.2.size; have := HB.out.2.1; omega)).mono (by have := HTW.out.size; omega)
    · exact (HV.out.1.below HU.out.2).keep hX (by omega)
  · rw [hw]
    have HH : Hid (putHow xs rd ys = 1) := hw
    clear hw
    go_wp2_with fail
    refine (wakeFor_any V (some ⟨b, 0, .none⟩) k l pp m).mono ?_
    rintro _ U ⟨_, rfl, ⟨wp, wn, wc, rfl⟩, hC, hbU⟩
    have HU : Hid (Ch1 U V.heap.size (.slice wp wn wc) (m != 0) l pp ∧ Below V.heap.size V U) := ⟨hC, hbU⟩
    have HT2 : Hid (Zs U (w.heap.size + 1)) := HZ.out.keep (hbU.block _ hz)
    clear hC hbU c0 c1 c2 c3 c4
    have z0 := HT2.out.c0
    have y0 := HT2.out.f 0
    have z1 := HT2.out.c1
    have y1 := HT2.out.f 1
    have z2 := HT2.out.c2
    have y2 := HT2.out.f 2
    have z3 := HT2.out.c3
    have y3 := HT2.out.f 3
    have z4 := HT2.out.c4
    have y4 := HT2.out.f 4
    have z5 := HT2.out.c5
    have y5 := HT2.out.f 5
    go_wp2
    refine ret_cells (V := U) (z := w.heap.size + 1) [.int .i64 1, .int .i64 m, .slice none 0 0, .int .i64 0, .int .i64 0, .slice wp wn wc] rfl rfl HT2.out.there (fun W h => run_loadVar_mid (P := Tryz.prog) W _ 0 40 _ _ h Tryz.underlying40 rfl (by kernel_rfl)) rfl ?_
    intro X hX
    have tb : Trn b V U := Trn.ofBelow HU.out.2
    refine ⟨_, rfl, .inr (.inr ⟨HH.out, wp, wn, wc, by rw [HM.out], ?_⟩), ?_, (HTW.out.trans tb).past hX (by omega)⟩
    · rw [HM.out]; exact (HU.out.1.trn hX (by have := HV.out.2.size; have := HB.out.2.1; omega)).mono (by have := HTW.out.size; omega)
    · exact (HV.out.1.below HU.out.2).keep hX (by omega)
end Go.Proofs.YthdlefbaegbldaaGreatDoor
