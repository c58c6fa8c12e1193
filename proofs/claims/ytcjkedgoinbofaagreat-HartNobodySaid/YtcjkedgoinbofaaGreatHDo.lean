import Derived.Test.YtcjkedgoinbofaaGreatHRd
namespace Go.Proofs.YtcjkedgoinbofaaGreat
open Go.RowKit
set_option linter.unusedVariables false
set_option linter.unusedSimpArgs false
section
variable {w W : World} {b0 b1 : Nat} {v : Value} {root : Int}
/-- What a read comes to. -/
def Rdd (w : World) (b0 b1 : Nat) (v : Value) (root a va n : Int) (r : Ending) : Prop := ∀ W, Bx w W b0 b1 v root → Calls Tryz.prog 70 #[mm b0 b1 v, .int .i64 a, .int .u64 va, .int .i64 n] W fun e w' => e = r ∧ Below W.heap.size W w'
/-- The cells of a step that its fetch reads. -/
structure Sm (W : World) (s b0 b1 : Nat) (v : Value) (pc : Int) : Prop where
  m0 : W.cell? ⟨s, 0, .none⟩ = some (.func (.func 69) #[] #[.pointer (some ⟨b0, 0, .none⟩), .pointer (some ⟨b1, 0, .none⟩)])
  m1 : W.cell? ⟨s, 1, .none⟩ = some (.func (.func 13) #[v] #[])
  m2 : W.cell? ⟨s, 2, .none⟩ = some (.func (.func 12) #[v] #[])
  pc : W.cell? ⟨s, 35, .none⟩ = some (.int .u64 pc)
theorem Sm.below {W W' : World} {s b0 b1 : Nat} {v : Value} {pc : Int} (h : Sm W s b0 b1 v pc) (b : Below W.heap.size W W') : Sm W' s b0 b1 v pc :=
  ⟨(b.cell (lt_of_cell h.m0)).trans h.m0, (b.cell (lt_of_cell h.m1)).trans h.m1, (b.cell (lt_of_cell h.m2)).trans h.m2, (b.cell (lt_of_cell h.pc)).trans h.pc⟩
set_option maxHeartbeats 1000000 in
theorem do_up (h : Bx w W b0 b1 v root) (s : Nat) (pc c x : Int) (m : Sm W s b0 b1 v pc) (p : Rdd w b0 b1 v root 1 pc 4 (up c x)) : Calls Tryz.prog 33 #[.pointer (some ⟨s, 0, .none⟩)] W fun e w' => e = up c x ∧ Below W.heap.size W w' := by
  have hB : Below W.heap.size W (W.alloc (.cells #[.bool false, .int .u64 0, .int .u64 0] 37)).drew := btr (below1 W _) (blw_drewN _ _ 1)
  have c1 := p _ (h.below hB)
  have m1 := m.below hB
  have k0 : (W.alloc (.cells #[.bool false, .int .u64 0, .int .u64 0] 37)).drew.cell? ⟨s, 0, .none⟩ = some (.func (.func 69) #[] #[.pointer (some ⟨b0, 0, .none⟩), .pointer (some ⟨b1, 0, .none⟩)]) ∧ (W.alloc (.cells #[.bool false, .int .u64 0, .int .u64 0] 37)).drew.cell? ⟨s, 1, .none⟩ = some (.func (.func 13) #[v] #[]) ∧ (W.alloc (.cells #[.bool false, .int .u64 0, .int .u64 0] 37)).drew.cell? ⟨s, 2, .none⟩ = some (.func (.func 12) #[v] #[]) ∧ (W.alloc (.cells #[.bool false, .int .u64 0, .int .u64 0] 37)).drew.cell? ⟨s, 35, .none⟩ = some (.int .u64 pc) := ⟨m1.m0, m1.m1, m1.m2, m1.pc⟩
  clear h p m m1
  unfold mm at *
  go_enter Tryz.func33, Tryz.ntmps33
  go_upto_region 1 with fail
  refine wp_region_held_drew (S := (fun W2 => W2.cell? ⟨s, 0, .none⟩ = some (.func (.func 69) #[] #[.pointer (some ⟨b0, 0, .none⟩), .pointer (some ⟨b1, 0, .none⟩)]) ∧ W2.cell? ⟨s, 1, .none⟩ = some (.func (.func 13) #[v] #[]) ∧ W2.cell? ⟨s, 2, .none⟩ = some (.func (.func 12) #[v] #[]) ∧ W2.cell? ⟨s, 35, .none⟩ = some (.int .u64 pc))) (by kernel_rfl) k0 (fun hHeld => ?_)
  generalize (W.alloc (.cells #[.bool false, .int .u64 0, .int .u64 0] 37)).drew = W1 at *
  refine wpAnyH_take (i := 0) (v := (.pointer (some ⟨s, 0, .none⟩))) rfl (by kernel_rfl) (by kernel_rfl) (by kernel_rfl) (fun _ _ _ h => h) (Or.inl ⟨by rfl, fun ww hSw => by (try dsimp only at hSw); go_simp⟩) (by assumption) ?_
  simp only [Act.put, List.setIfInBounds_toArray, List.set_cons_zero, List.set_cons_succ, List.getElem_toArray, List.getElem_cons_succ, List.getElem_cons_zero]
  refine wpAnyH_take (i := 1) (v := (.pointer (some ⟨s, 0, .none⟩))) rfl (by kernel_rfl) (by kernel_rfl) (by kernel_rfl) (fun _ _ _ h => h) (Or.inl ⟨by rfl, fun ww hSw => by (try dsimp only at hSw); go_simp⟩) (by assumption) ?_
  simp only [Act.put, List.setIfInBounds_toArray, List.set_cons_zero, List.set_cons_succ, List.getElem_toArray, List.getElem_cons_succ, List.getElem_cons_zero]
  refine wpAnyH_take (i := 2) (v := (.pointer (some ⟨s, 0, .none⟩))) rfl (by kernel_rfl) (by kernel_rfl) (by kernel_rfl) (fun _ _ _ h => h) (Or.inl ⟨by rfl, fun ww hSw => by (try dsimp only at hSw); go_simp⟩) (by assumption) ?_
  simp only [Act.put, List.setIfInBounds_toArray, List.set_cons_zero, List.set_cons_succ, List.getElem_toArray, List.getElem_cons_succ, List.getElem_cons_zero]
  refine wpAnyH_take (i := 3) (v := (.agg #[.func (.func 69) #[] #[.pointer (some ⟨b0, 0, .none⟩), .pointer (some ⟨b1, 0, .none⟩)], .func (.func 13) #[v] #[], .func (.func 12) #[v] #[]])) rfl (by kernel_rfl) (by kernel_rfl) (by kernel_rfl) (fun _ _ _ h => h) (Or.inl ⟨by rfl, fun ww hSw => by (try dsimp only at hSw); go_simp⟩) (by assumption) ?_
  simp only [Act.put, List.setIfInBounds_toArray, List.set_cons_zero, List.set_cons_succ, List.getElem_toArray, List.getElem_cons_succ, List.getElem_cons_zero]
  refine wpAnyH_take (i := 4) (v := (.pointer (some ⟨s, 0, .none⟩))) rfl (by kernel_rfl) (by kernel_rfl) (by kernel_rfl) (fun _ _ _ h => h) (Or.inl ⟨by rfl, fun ww hSw => by (try dsimp only at hSw); go_simp⟩) (by assumption) ?_
  simp only [Act.put, List.setIfInBounds_toArray, List.set_cons_zero, List.set_cons_succ, List.getElem_toArray, List.getElem_cons_succ, List.getElem_cons_zero]
  refine wpAnyH_take (i := 5) (v := (.pointer (some ⟨s, 0, .none⟩))) rfl (by kernel_rfl) (by kernel_rfl) (by kernel_rfl) (fun _ _ _ h => h) (Or.inl ⟨by rfl, fun ww hSw => by (try dsimp only at hSw); go_simp⟩) (by assumption) ?_
  simp only [Act.put, List.setIfInBounds_toArray, List.set_cons_zero, List.set_cons_succ, List.getElem_toArray, List.getElem_cons_succ, List.getElem_cons_zero]
  refine wpAnyH_take (i := 6) (v := (.pointer (some ⟨s, 3, .none⟩))) rfl (by kernel_rfl) (by kernel_rfl) (by kernel_rfl) (fun _ _ _ h => h) (Or.inl ⟨by rfl, fun ww hSw => by (try dsimp only at hSw); go_simp⟩) (by assumption) ?_
  simp only [Act.put, List.setIfInBounds_toArray, List.set_cons_zero, List.set_cons_succ, List.getElem_toArray, List.getElem_cons_succ, List.getElem_cons_zero]
  refine wpAnyH_take (i := 7) (v := (.pointer (some ⟨s, 35, .none⟩))) rfl (by kernel_rfl) (by kernel_rfl) (by kernel_rfl) (fun _ _ _ h => h) (Or.inl ⟨by rfl, fun ww hSw => by (try dsimp only at hSw); go_simp⟩) (by assumption) ?_
  simp only [Act.put, List.setIfInBounds_toArray, List.set_cons_zero, List.set_cons_succ, List.getElem_toArray, List.getElem_cons_succ, List.getElem_cons_zero]
  refine wpAnyH_take (i := 8) (v := (.int .u64 pc)) rfl (by kernel_rfl) (by kernel_rfl) (by kernel_rfl) (fun _ _ _ h => h) (Or.inl ⟨by rfl, fun ww hSw => by (try dsimp only at hSw); go_simp⟩) (by assumption) ?_
  simp only [Act.put, List.setIfInBounds_toArray, List.set_cons_zero, List.set_cons_succ, List.getElem_toArray, List.getElem_cons_succ, List.getElem_cons_zero]
  refine wpAnyH_ready (rs := [9]) (by kernel_rfl) (by simp) ?_
  refine AllReadyH.cons rfl (fun K hK => ?_) AllReadyH.nil
  go_simp
  go_at_call 70
  refine c1.mono ?_
  rintro e w0 ⟨rfl, hb⟩
  exact ⟨rfl, rfl, hB.trans (hb.mono hB.size)⟩
end
end Go.Proofs.YtcjkedgoinbofaaGreat
