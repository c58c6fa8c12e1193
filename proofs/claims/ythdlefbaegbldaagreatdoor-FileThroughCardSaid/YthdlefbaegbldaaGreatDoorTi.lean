import Derived.Test.YthdlefbaegbldaaGreatDoorTh
namespace Go.Proofs.YthdlefbaegbldaaGreatDoor
open Go.RowKit Go.Shelf
set_option linter.unusedVariables false
set_option linter.unusedSimpArgs false
set_option maxRecDepth 100000
def tcs (v : Value) : List Value := v :: (List.replicate 200 z70).flatten
theorem built_tcs (a : Addr) : Tryz.prog.built 94 [(0, .pointer (some a))] = some (tcs (.pointer (some a))).toArray := built_tree a
theorem built_root : Tryz.prog.built 91 [(0, .int .i64 1), (3, .int .i64 1)] = some (ic 1 0 0 1 0 0 (fun _ => 0)).toArray := by kernel_rfl
theorem ic_one : (ic 1 0 0 1 0 0 (fun _ => 0)).toArray.all (·.oneCell') = true := by
  rw [List.all_toArray]
  simp [ic, Value.oneCell']
theorem froz_sets (b : Nat) (a : Addr) : ∀ (vs : List Value) (o : Nat) (w : World), (w.setCells b o vs).frozen? a = w.frozen? a
  | [], _, _ => rfl
  | v :: vs, o, w => (froz_sets b a vs (o + 1) _).trans (World.frozen?_setCell ..)
theorem ind_of {w : World} {tb o : Nat} {typ major minor links refs : Int} {size : Nat} (h : w.rangeAt tb o (ic typ major minor links refs size (fun _ => 0))) : Ind w tb o typ major minor links refs size [] :=
  ⟨by simpa using h 0 _ rfl, h 1 _ rfl, h 2 _ rfl, h 3 _ rfl, h 4 _ rfl, h 5 _ rfl, fun i hi => by
    have e : (ic typ major minor links refs size (fun _ => 0))[6 + i]? = some (.int .u64 0) := by
      unfold ic
      rw [List.getElem?_append_right (by simp), List.getElem?_map]
      simp [List.getElem?_range hi]
    have := h (6 + i) _ e
    rw [← Nat.add_assoc] at this
    simpa [blk] using this⟩
theorem range_tcs {w : World} {tb : Nat} {v : Value} (h : w.rangeAt tb 0 (tcs v)) (k : Nat) (hk : k < 200) : w.rangeAt tb (1 + 70 * k) z70 := by
  intro j u hu
  have hj : j < 70 := by
    have := (List.getElem?_eq_some_iff.1 hu).1
    unfold z70 at this
    rwa [ic_len] at this
  have e := flat_get z70 70 (by unfold z70; exact ic_len _ _ _ _ _ _ _) 200 k j hk hj
  have := h (1 + (70 * k + j)) u (by
    unfold tcs
    rw [Nat.add_comm 1, List.getElem?_cons_succ, e]
    exact hu)
  rw [Nat.zero_add, ← Nat.add_assoc] at this
  exact this
/-- A new tree: its root, and no other inode. -/
def NewTP (w : World) (p bb m N : Nat) (B : Nat → Int) (i : Nat) (L : List Nat) (e : Ending) (w' : World) : Prop :=
  ∃ tb, w.heap.size ≤ tb ∧ e = .returned (.tuple #[.pointer (some ⟨tb, 0, .none⟩), .int .i64 0]) ∧ PuS w' tb 71 p bb m N 1 0 0 1 0 32 [i] (wrs (zer B i) (pcs (fun k => [i].getD k 0) 32 32 0) (dots 1 1)) L ∧ (∀ k, k < 200 → k ≠ 1 → Ind w' tb (1 + 70 * k) 0 0 0 0 0 0 []) ∧ ChS (fun i => i = p ∨ i = bb ∨ i = m) w w'
set_option maxHeartbeats 2000000 in
theorem newT_any {w : World} {p bb m N : Nat} {B : Nat → Int} {i : Nat} {L : List Nat} (h : Ram w p bb m N B (i :: L)) : Calls Tryz.prog 23 #[.pointer (some ⟨p, 0, .none⟩)] w (NewTP w p bb m N B i L) := by
  have a0 := frames_any h.mem
  have n1 := h.mem.n1
  have n2 := h.mem.n2
  have ll := length_le N (i :: L) n1 h.nd h.lt
  have a1 := count_any h.mem (by omega)
  have i0 : ((N : Int) == 0) = false := by simp; omega
  have i1 : (((N : Int) - ((N - (i :: L).length : Nat) : Int)) == 0) = false := by simp; omega
  have HR : Hid (Ram w p bb m N B (i :: L)) := h
  generalize hcl : N - (i :: L).length = cl at *
  clear hcl
  go_enter Tryz.func23, Tryz.ntmps23
  go_wp2_with fail
  refine a0.mono ?_
  rintro _ W0 ⟨rfl, hW0⟩
  obtain rfl : w = W0 := hW0.symm
  go_wp2_with fail
  refine a1.mono ?_
  rintro _ W ⟨rfl, kq, hW⟩
  have HW : Hid (Below w.heap.size w W ∧ Ram W p bb m N B (i :: L) ∧ W.heap.size = w.heap.size) := by
    rw [hW]
    have hb : Below w.heap.size w (w.drewN kq) := blw_dn (Below.refl _ _) kq
    exact ⟨hb, ⟨h.mem.below hb, h.nd, h.lt, h.thr⟩, rfl⟩
  clear hW a0 a1 h
  go_upto_region 5 with fail
  refine wp_region_lit ?_
  refine wpList_read rfl (.pointer (some ⟨p, 0, .none⟩)) (by kernel_rfl) ?_
  simp only [Act.put, List.setIfInBounds_toArray, List.set_cons_succ, List.set_cons_zero]
  refine wpl_built rfl 94 _ rfl (some 14) rfl (tcs (.pointer (some ⟨p, 0, .none⟩))).toArray (by simp only [List.map_toArray, List.map_cons, List.map_nil, Act.eval]; exact built_tcs _) ?_
  simp only [Act.put, List.setIfInBounds_toArray, List.set_cons_succ, List.set_cons_zero]
  refine Great.wpList_boxTo rfl 94 (.tmp 14) rfl (some 15) rfl W.heap.size rfl (tcs (.pointer (some ⟨p, 0, .none⟩))).toArray rfl ?_
  simp only [Act.put, List.setIfInBounds_toArray, List.set_cons_succ, List.set_cons_zero]
  have hr0 := range_new W (tcs (.pointer (some ⟨p, 0, .none⟩))) 94
  have hf0 : ∀ j, (W.alloc (.cells (tcs (.pointer (some ⟨p, 0, .none⟩))).toArray 94)).frozen? ⟨W.heap.size, j, .none⟩ = false := fun j => froz_new _ _ _ _
  have hb0 : Below W.heap.size W (W.alloc (.cells (tcs (.pointer (some ⟨p, 0, .none⟩))).toArray 94)) := (Below.refl _ _).alloc (Nat.le_refl _) _
  have hz0 : (W.alloc (.cells (tcs (.pointer (some ⟨p, 0, .none⟩))).toArray 94)).heap.size = W.heap.size + 1 := by simp
  generalize W.alloc (.cells (tcs (.pointer (some ⟨p, 0, .none⟩))).toArray 94) = W1 at *
  obtain ⟨tb, htb⟩ : ∃ tb, tb = W.heap.size := ⟨_, rfl⟩
  rw [← htb] at hr0 hf0 hb0 hz0 ⊢
  have H1 : Hid (W1.rangeAt tb 0 (tcs (.pointer (some ⟨p, 0, .none⟩))) ∧ (∀ j, W1.frozen? ⟨tb, j, .none⟩ = false) ∧ Below w.heap.size w W1 ∧ Ram W1 p bb m N B (i :: L) ∧ w.heap.size ≤ tb ∧ W1.heap.size = tb + 1) := by
    have e := HW.out.2.2
    rw [htb] at hb0
    exact ⟨hr0, hf0, HW.out.1.trans (hb0.mono (by omega)), ⟨HW.out.2.1.mem.below hb0, HW.out.2.1.nd, HW.out.2.1.lt, HW.out.2.1.thr⟩, by omega, hz0⟩
  clear hr0 hf0 hb0 hz0 htb HW
  generalize (tcs (.pointer (some ⟨p, 0, .none⟩))).toArray = TC at *
  go_upto_region 6 with fail
  refine wp_region_lit ?_
  refine wpList_read rfl (.pointer (some ⟨tb, 0, .none⟩)) (by kernel_rfl) ?_
  simp only [Act.put, List.setIfInBounds_toArray, List.set_cons_succ, List.set_cons_zero]
  refine wpl_built rfl 91 _ rfl (some 17) rfl (ic 1 0 0 1 0 0 (fun _ => 0)).toArray (by simp only [List.map_toArray, List.map_cons, List.map_nil, Act.eval]; exact built_root) ?_
  simp only [Act.put, List.setIfInBounds_toArray, List.set_cons_succ, List.set_cons_zero]
  refine wpList_read rfl (.pointer (some ⟨tb, 0, .none⟩)) (by kernel_rfl) ?_
  simp only [Act.put, List.setIfInBounds_toArray, List.set_cons_succ, List.set_cons_zero]
  refine wpList_read rfl (.pointer (some ⟨tb, 1, .none⟩)) (by kernel_rfl) ?_
  simp only [Act.put, List.setIfInBounds_toArray, List.set_cons_succ, List.set_cons_zero]
  refine wpList_read rfl (.pointer (some ⟨tb, 71, .none⟩)) (by kernel_rfl) ?_
  simp only [Act.put, List.setIfInBounds_toArray, List.set_cons_succ, List.set_cons_zero]
  have hr1 := range_tcs H1.out.1 1 (by omega)
  have hl70 : (ic 1 0 0 1 0 0 (fun _ => 0)).length = 70 := ic_len _ _ _ _ _ _ _
  have ht1 : W1.there tb 71 70 := fun j hj => by
    have hz : z70[j]? = some (z70[j]'(by unfold z70; rw [ic_len]; exact hj)) := List.getElem?_eq_getElem _
    have := hr1 j _ hz
    exact ⟨by rw [this]; rfl, H1.out.2.1 _⟩
  have hsz : (ic 1 0 0 1 0 0 (fun _ => 0)).toArray.size = 70 := by rw [List.size_toArray]; exact hl70
  refine wpList_store_mid rfl 91 (.tmp 20) (.tmp 17) rfl tb 71 (ic 1 0 0 1 0 0 (fun _ => 0)).toArray (by simp [Act.eval]) (by simp [Act.eval]) (by rw [hsz]; exact ht1) (by rw [hsz]; kernel_rfl) ic_one ?_
  have t1 : Trn tb W1 (W1.setCells tb 71 (ic 1 0 0 1 0 0 (fun _ => 0))) := Trn.setCells _ _ _ _
  have r1 : (W1.setCells tb 71 (ic 1 0 0 1 0 0 (fun _ => 0))).rangeAt tb 71 (ic 1 0 0 1 0 0 (fun _ => 0)) := World.rangeAt_setCells_same _ _ _ _ (by rw [hl70]; exact ht1)
  have out : ∀ j, (j < 71 ∨ 141 ≤ j) → (W1.setCells tb 71 (ic 1 0 0 1 0 0 (fun _ => 0))).cell? ⟨tb, j, .none⟩ = W1.cell? ⟨tb, j, .none⟩ := fun j hj => World.cell?_setCells_out _ _ _ _ _ (fun _ _ => by
    rw [hl70]
    rcases hj with hj | hj
    · exact .inl hj
    · exact .inr hj)
  have hplt := HR.out.mem.plt
  have hblt := HR.out.mem.blt
  have hmlt := HR.out.mem.mlt
  have H2 : Hid (PuS (W1.setCells tb 71 (ic 1 0 0 1 0 0 (fun _ => 0))) tb (1 + 70 * 1) p bb m N 1 0 0 1 0 0 [] B (i :: L) ∧ (∀ k, k < 200 → k ≠ 1 → Ind (W1.setCells tb 71 (ic 1 0 0 1 0 0 (fun _ => 0))) tb (1 + 70 * k) 0 0 0 0 0 0 []) ∧ Below w.heap.size w (W1.setCells tb 71 (ic 1 0 0 1 0 0 (fun _ => 0)))) := by
    have e := H1.out
    refine ⟨⟨?_, ind_of r1, ⟨e.2.2.2.1.mem.keep (t1.block _ (by omega) (by omega)) (t1.block _ (by omega) (by omega)) (t1.block _ (by omega) (by omega)), e.2.2.2.1.nd, e.2.2.2.1.lt, e.2.2.2.1.thr⟩, fun j => by rw [froz_sets]; exact e.2.1 j, ⟨by omega, by omega, by omega⟩, (fun f hf => by cases hf), by omega⟩, fun k hk hn => ?_, e.2.2.1.trans (t1.toBelow e.2.2.2.2.1 e.2.2.1.size)⟩
    · rw [out 0 (by omega)]
      simpa using e.1 0 _ rfl
    · refine ind_of (fun j v hv => ?_)
      have hj : j < 70 := by
        have := (List.getElem?_eq_some_iff.1 hv).1
        rwa [ic_len] at this
      rw [out _ (by omega)]
      exact range_tcs e.1 k hk j v hv
  have hlt2 : tb < (W1.setCells tb 71 (ic 1 0 0 1 0 0 (fun _ => 0))).heap.size := by have := t1.size; have := H1.out.2.2.2.2.2; omega
  have HGE : Hid (w.heap.size ≤ tb) := H1.out.2.2.2.2.1
  clear t1 r1 out hr1 ht1
  simp only [List.toList_toArray]
  generalize W1.setCells tb 71 (ic 1 0 0 1 0 0 (fun _ => 0)) = X at *
  generalize (ic 1 0 0 1 0 0 (fun _ => 0)).toArray = ICA at *
  have cd := putDots_any 1 1 (by omega) (by omega) H2.out.1 (by simp)
  go_wp2_with fail
  refine cd.mono ?_
  rintro _ Y ⟨⟨v, rfl⟩, hY1, hY2, hY3⟩
  have HY : Hid (NewTP w p bb m N B i L (.returned (.tuple #[.pointer (some ⟨tb, 0, .none⟩), .int .i64 0])) Y) := by
    rw [dots_len] at hY1
    refine ⟨tb, HGE.out, rfl, hY1, fun k hk hn => ?_, ?_⟩
    · have h0 := H2.out.2.1 k hk hn
      have oo : ∀ j, 1 + 70 * k ≤ j → j < 1 + 70 * k + 70 → Y.cell? ⟨tb, j, .none⟩ = X.cell? ⟨tb, j, .none⟩ := fun j h1 h2 => hY3 j (by omega)
      exact ⟨(oo _ (by omega) (by omega)).trans h0.c0, (oo _ (by omega) (by omega)).trans h0.c1, (oo _ (by omega) (by omega)).trans h0.c2, (oo _ (by omega) (by omega)).trans h0.c3, (oo _ (by omega) (by omega)).trans h0.c4, (oo _ (by omega) (by omega)).trans h0.c5, fun i hi => (oo _ (by omega) (by omega)).trans (h0.cb i hi)⟩
    · refine (ChS.ofBelow H2.out.2.2).past hY2 (fun j hj => ?_)
      rcases hj with rfl | rfl | rfl | rfl
      · exact .inr HGE.out
      · exact .inl (.inl rfl)
      · exact .inl (.inr (.inl rfl))
      · exact .inl (.inr (.inr rfl))
  clear hY1 hY2 hY3 cd
  go_wp2
  go_ret2
  exact HY.out
end Go.Proofs.YthdlefbaegbldaaGreatDoor
