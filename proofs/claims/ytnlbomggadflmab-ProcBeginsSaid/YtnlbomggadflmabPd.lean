import Derived.Test.YtnlbomggadflmabPc
import Derived.Great.Walk
namespace Go.Proofs.Ytnlbomggadflmab
open Go.RowKit
set_option linter.unusedVariables false
set_option linter.unusedSimpArgs false
set_option maxRecDepth 100000
/-- No process at all. -/
def zS : Nat → Pr := fun _ => zP
noncomputable def zT (n : Int) : Array Value := (tl zS n).toArray
theorem tb_new (w : World) (P : Nat → Pr) (n : Int) (t : TypeId) : Tb (w.alloc (.cells (tl P n).toArray t)) w.heap.size P n := by
  refine ⟨?_, ?_⟩
  · intro j v hj
    rw [World.cell?_alloc_at _ _ _ _ (by rfl)]
    simpa using hj
  · intro j hj
    refine ⟨?_, World.frozen?_alloc_new _ _ _ _⟩
    rw [World.cell?_alloc_at _ _ _ _ (by rfl)]
    have : j < (tl P n).length := by rw [tl_len]; exact hj
    simp [this]
set_option maxHeartbeats 1000000 in
theorem new_any (w : World) : Calls Try.prog 5 #[] w fun e w' => e = .returned (.pointer (some ⟨w.heap.size, 0, .none⟩)) ∧ Tb w' w.heap.size zS 1 ∧ Below w.heap.size w w' ∧ w.heap.size < w'.heap.size := by
  go_enter Try.func5, Try.ntmps5
  go_upto_region 1 with fail
  refine wp_region_lit ?_
  refine wpList_pure 1 { tmps := #[.pointer none, .agg (zT 1), undef], defers := [] } (by kernel_rfl) ?_
  refine Great.wpList_boxTo rfl 51 (.tmp 1) rfl _ rfl w.heap.size rfl (zT 1) rfl ?_
  simp only [Act.put, List.setIfInBounds_toArray, List.set_cons_zero, List.set_cons_succ]
  go_wp2
  go_ret
  exact ⟨rfl, tb_new w zS 1 _, below1 _ _, by simp⟩
section
variable {w : World} {b : Nat} {P : Nat → Pr} {nx : Int}
theorem built_state (P : Nat → Pr) (nx : Int) : Try.prog.built 36 [(0, .agg (sl P).toArray), (1, .int .i64 nx)] = some (tl P nx).toArray := by kernel_rfl
theorem alloc_state (ρ : Operand → Value) (o : Oper) (ho : o.op = .alloc 36) (w : World) : (execOp ρ o).run Try.prog w = .ok (.value (.pointer (some ⟨w.heap.size, 0, .none⟩))) (w.alloc (.cells (zT 0) 36)) := by
  unfold execOp
  rw [ho]
  kernel_rfl
theorem results_cell_any {P : Program} {fn : Func} {p : Tmp} {ty : TypeId} (h : fn.results = #[.cell p ty]) (tmps : Array Value) (w : World) (ad : Addr) (v : Value) (hp : tmps.getD p undef = .pointer (some ad)) (hl : (loadVar ty ad).run P w = .ok v w) : (results fn tmps).run P w = .ok v w := by
  have hp' : tmps[p]?.getD undef = .pointer (some ad) := by simpa using hp
  simp [results, h, hp', asAddr, hl]
theorem yieldsIf_build {Q : Program} {ops : Array Oper} {S : World → Prop} {op : Oper} {a : Act} (hw : Region.wanted op (yielded ops a.tmps) = true) (t : TypeId) (parts : Array (Nat × Operand)) (ho : op.op = .build t parts) (cells : Array Value)
    (h : Q.built t (parts.map fun (i, x) => (i, a.eval x)).toList = some cells) : YieldsIf Q ops S op (.agg cells) a :=
  .inl ⟨hw, fun w _ => by
    unfold execOp
    simp only [ho, Sem.run_bind, run_build w t _ cells h, Result.andThen_ok, Sem.run_pure]⟩
theorem step_store_mid {P : Program} {ops : Array Oper} {op : Oper} {a : Act} {w : World} {K : Act → World → Prop} {Q : Exit → Act → World → Prop} {E : Prop} (hgd : op.guard = none) (ty : TypeId) (x y : Operand) (ho : op.op = .store ty x y)
    (b o : Nat) (cells : Array Value) (hx : a.eval x = .pointer (some ⟨b, o, .none⟩)) (hy : a.eval y = .agg cells)
    (ht : w.there b o cells.size) (hi : (P.info? ty).map (·.size) = some cells.size) (h1 : cells.all (·.oneCell') = true)
    (h : K (a.put op.dst undef) (w.setCells b o cells.toList)) : if Region.wanted op (yielded ops a.tmps) = true then Oper.wp P op a w K Q else E := by
  have hw : Region.wanted op (yielded ops a.tmps) = true := by simp [Region.wanted, hgd]
  rw [if_pos hw]
  exact wp_store_mid ty x y ho b o cells hx hy ht hi h1 h
theorem below_setCells {B : Nat} {u W : World} (h : Below B u W) (b : Nat) (hb : B ≤ b) : ∀ (o : Nat) (vs : List Value), Below B u (W.setCells b o vs) := by
  intro o vs
  induction vs generalizing o W with
  | nil => exact h
  | cons v vs ih => exact ih (h.setCell (p := ⟨b, o, .none⟩) hb v) (o + 1)
theorem sl_range (h : Tb w b P nx) : w.rangeAt b 0 (sl P) := fun j v hj => by
  refine h.rg j v ?_
  rw [tl, List.getElem?_append_left (List.getElem?_eq_some_iff.1 hj).1]
  exact hj
theorem Tb.setCells (h : Tb w b P nx) (Q : Nat → Pr) (n : Int) : Tb (w.setCells b 0 (tl Q n)) b Q n :=
  ⟨World.rangeAt_setCells_same w b 0 _ (by rw [tl_len]; exact h.th), World.there_setCells h.th _ _ _⟩
attribute [local irreducible] sl tl zT
set_option maxHeartbeats 2000000 in
theorem state_any (h : Tb w b P nx) (hn : 1 ≤ nx) : Calls Try.prog 7 #[.pointer (some ⟨b, 0, .none⟩)] w fun e w' => e = .returned (.agg (tl P nx).toArray) ∧ Below w.heap.size w w' := by
  have hb := h.lt
  have HB : Hid (Below w.heap.size w (w.alloc (.cells (zT 0) 36))) := below1 _ _
  have HT : Hid (Tb (w.alloc (.cells (zT 0) 36)) b P nx) := h.bel (below1 _ _)
  have HN : Hid (Tb (w.alloc (.cells (zT 0) 36)) w.heap.size zS 0) := by rw [zT]; exact tb_new w zS 0 _
  clear h
  go_enter Try.func7, Try.ntmps7
  go_upto_region 0 with fail
  refine wp_region_lit ?_
  refine Great.wpList_allocTo rfl _ rfl _ _ (alloc_state _ _ rfl w) ?_
  simp only [Act.put, List.setIfInBounds_toArray, List.set_cons_zero, List.set_cons_succ]
  have k1 := isMade_any HT.out hn
  have hne : w.heap.size ≠ b := by omega
  generalize hx : w.heap.size = x at *
  have HXX : Hid (w.heap.size = x) := hx
  clear hx
  generalize w.alloc (.cells (zT 0) 36) = w1 at *
  go_wp2_with fail
  refine k1.mono ?_
  rintro e w2 ⟨rfl, hw⟩
  obtain rfl : w1 = w2 := hw.symm
  clear k1
  go_upto_region 3 with fail
  refine wp_region_held_drew (S := (fun W => Tb W b P nx ∧ W.there x 0 449 ∧ Below x w W)) (by kernel_rfl) ⟨HT.out.keep rfl, (HN.out.keep (w' := w1.drew) rfl).th, ⟨HB.out.os, HB.out.tape, HB.out.output, HB.out.size, HB.out.block⟩⟩ (fun hHeld => ?_)
  refine wpAnyH_take (i := 0) (v := (.pointer (some ⟨b, 0, .none⟩))) rfl (by kernel_rfl) (by kernel_rfl) (by kernel_rfl) (fun _ _ _ h => h) (Or.inl ⟨by rfl, fun ww hSw => by (try dsimp only at hSw); go_simp⟩) (by assumption) ?_
  simp only [Act.put, List.setIfInBounds_toArray, List.set_cons_zero, List.set_cons_succ, List.getElem_toArray, List.getElem_cons_succ, List.getElem_cons_zero]
  refine wpAnyH_take (i := 1) (v := (.pointer (some ⟨b, 0, .none⟩))) rfl (by kernel_rfl) (by kernel_rfl) (by kernel_rfl) (fun _ _ _ h => h) (Or.inl ⟨by rfl, fun ww hSw => by (try dsimp only at hSw); go_simp⟩) (by assumption) ?_
  simp only [Act.put, List.setIfInBounds_toArray, List.set_cons_zero, List.set_cons_succ, List.getElem_toArray, List.getElem_cons_succ, List.getElem_cons_zero]
  refine wpAnyH_take (i := 2) (v := (.pointer (some ⟨b, 0, .none⟩))) rfl (by kernel_rfl) (by kernel_rfl) (by kernel_rfl) (fun _ _ _ h => h) (Or.inl ⟨by rfl, fun ww hSw => by (try dsimp only at hSw); go_simp⟩) (by assumption) ?_
  simp only [Act.put, List.setIfInBounds_toArray, List.set_cons_zero, List.set_cons_succ, List.getElem_toArray, List.getElem_cons_succ, List.getElem_cons_zero]
  refine wpAnyH_take (i := 3) (v := (.agg (sl P).toArray)) rfl (by kernel_rfl) (by kernel_rfl) (by kernel_rfl) (fun _ _ _ h => h) (yieldsIf_load_mid (by rfl) 49 (.tmp 9) rfl b 0 rfl (sl P) _ (fun W hW => sl_range hW.1) Try.underlying49 rfl (by rw [sl_len]; kernel_rfl)) (by assumption) ?_
  simp only [Act.put, List.setIfInBounds_toArray, List.set_cons_zero, List.set_cons_succ, List.getElem_toArray, List.getElem_cons_succ, List.getElem_cons_zero]
  refine wpAnyH_take (i := 4) (v := (.pointer (some ⟨b, 0, .none⟩))) rfl (by kernel_rfl) (by kernel_rfl) (by kernel_rfl) (fun _ _ _ h => h) (Or.inl ⟨by rfl, fun ww hSw => by (try dsimp only at hSw); go_simp⟩) (by assumption) ?_
  simp only [Act.put, List.setIfInBounds_toArray, List.set_cons_zero, List.set_cons_succ, List.getElem_toArray, List.getElem_cons_succ, List.getElem_cons_zero]
  refine wpAnyH_take (i := 5) (v := (.pointer (some ⟨b, 0, .none⟩))) rfl (by kernel_rfl) (by kernel_rfl) (by kernel_rfl) (fun _ _ _ h => h) (Or.inl ⟨by rfl, fun ww hSw => by (try dsimp only at hSw); go_simp⟩) (by assumption) ?_
  simp only [Act.put, List.setIfInBounds_toArray, List.set_cons_zero, List.set_cons_succ, List.getElem_toArray, List.getElem_cons_succ, List.getElem_cons_zero]
  refine wpAnyH_take (i := 6) (v := (.pointer (some ⟨b, 448, .none⟩))) rfl (by kernel_rfl) (by kernel_rfl) (by kernel_rfl) (fun _ _ _ h => h) (Or.inl ⟨by rfl, fun ww hSw => by (try dsimp only at hSw); go_simp⟩) (by assumption) ?_
  simp only [Act.put, List.setIfInBounds_toArray, List.set_cons_zero, List.set_cons_succ, List.getElem_toArray, List.getElem_cons_succ, List.getElem_cons_zero]
  refine wpAnyH_take (i := 7) (v := (.int .i64 nx)) rfl (by kernel_rfl) (by kernel_rfl) (by kernel_rfl) (fun _ _ _ h => h) (Or.inl ⟨by rfl, fun ww hSw => by (try dsimp only at hSw); have c7 := hSw.1.cn; go_simp⟩) (by assumption) ?_
  simp only [Act.put, List.setIfInBounds_toArray, List.set_cons_zero, List.set_cons_succ, List.getElem_toArray, List.getElem_cons_succ, List.getElem_cons_zero]
  refine wpAnyH_take (i := 8) (v := (.agg (tl P nx).toArray)) rfl (by kernel_rfl) (by kernel_rfl) (by kernel_rfl) (fun _ _ _ h => h) (yieldsIf_build (by rfl) 36 #[(0, .tmp 10), (1, .tmp 14)] rfl _ (by rw [List.map_toArray]; exact built_state P nx)) (by assumption) ?_
  simp only [Act.put, List.setIfInBounds_toArray, List.set_cons_zero, List.set_cons_succ, List.getElem_toArray, List.getElem_cons_succ, List.getElem_cons_zero]
  refine wpAnyH_ready (rs := [9]) (by kernel_rfl) (by simp) ?_
  refine AllReadyH.cons rfl (fun K hK => ?_) AllReadyH.nil
  refine step_store_mid rfl 36 (.tmp 2) (.tmp 15) rfl x 0 (tl P nx).toArray rfl rfl ?_ (by rw [List.size_toArray, tl_len]; kernel_rfl) (all_oneCell_toArray (tl_one P nx)) ?_
  · have := hHeld.2.1
    rw [List.size_toArray, tl_len]
    exact this
  rw [List.toList_toArray]
  have HF : Hid (Tb (w1.drew.setCells x 0 (tl P nx)) x P nx ∧ Below x w (w1.drew.setCells x 0 (tl P nx))) := ⟨⟨World.rangeAt_setCells_same _ x 0 _ (by rw [tl_len]; exact hHeld.2.1), World.there_setCells hHeld.2.1 _ _ _⟩, below_setCells hHeld.2.2 _ (Nat.le_refl _) _ _⟩
  have kS : Tb (w1.drew.setCells x 0 (tl P nx)) b P nx ∧ (w1.drew.setCells x 0 (tl P nx)).there x 0 449 ∧ Below x w (w1.drew.setCells x 0 (tl P nx)) := ⟨(Trn.setCells x 0 _ _).tb hHeld.1 (fun e => hne e.symm), HF.out.1.th, HF.out.2⟩
  refine hK.out _ _ kS (fun hHeld => ?_)
  clear hK K
  try simp only [Act.put, List.setIfInBounds_toArray, List.set_cons_zero, List.set_cons_succ, List.getElem_toArray, List.getElem_cons_succ, List.getElem_cons_zero]
  refine wpAnyH_done (by kernel_rfl) ?_ _
  clear kS hHeld
  generalize w1.drew.setCells x 0 (tl P nx) = w5 at *
  go_wp2
  refine bodyPost_ret (v := .agg (tl P nx).toArray) (results_cell_any rfl _ _ ⟨x, 0, .none⟩ _ rfl ?_) rfl ⟨rfl, by rw [HXX.out]; exact HF.out.2⟩
  exact run_loadVar_mid w5 x 0 36 (tl P nx) _ HF.out.1.rg Try.underlying36 rfl (by rw [tl_len]; kernel_rfl)
end
end Go.Proofs.Ytnlbomggadflmab
