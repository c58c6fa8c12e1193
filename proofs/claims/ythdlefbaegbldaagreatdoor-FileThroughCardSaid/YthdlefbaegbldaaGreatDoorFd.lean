import Derived.Test.YthdlefbaegbldaaGreatDoorFc
namespace Go.Proofs.YthdlefbaegbldaaGreatDoor
open Go.RowKit
set_option linter.unusedVariables false
set_option linter.unusedSimpArgs false
set_option maxRecDepth 100000
/-- An open file as it is kept. -/
structure Lk (w : World) (b : Nat) (num kind refs : Int) (rd wr : Bool) (ino off pp : Int) : Prop where
  c0 : w.cell? ⟨b, 0, .none⟩ = some (.int .i64 num)
  c1 : w.cell? ⟨b, 1, .none⟩ = some (.int .i64 kind)
  c2 : w.cell? ⟨b, 2, .none⟩ = some (.int .i64 refs)
  c3 : w.cell? ⟨b, 3, .none⟩ = some (.bool rd)
  c4 : w.cell? ⟨b, 4, .none⟩ = some (.bool wr)
  c5 : w.cell? ⟨b, 5, .none⟩ = some (.int .i64 ino)
  c6 : w.cell? ⟨b, 6, .none⟩ = some (.int .i64 off)
  c7 : w.cell? ⟨b, 7, .none⟩ = some (.int .i64 pp)
  f : ∀ i, w.frozen? ⟨b, i, .none⟩ = false
section
variable {w w' : World} {b : Nat} {num kind refs : Int} {rd wr : Bool} {ino off pp : Int}
theorem Lk.keep (h : Lk w b num kind refs rd wr ino off pp) (hb : w'.heap[b]? = w.heap[b]?) : Lk w' b num kind refs rd wr ino off pp :=
  ⟨(World.cell?_of_block hb).trans h.c0, (World.cell?_of_block hb).trans h.c1, (World.cell?_of_block hb).trans h.c2, (World.cell?_of_block hb).trans h.c3, (World.cell?_of_block hb).trans h.c4, (World.cell?_of_block hb).trans h.c5, (World.cell?_of_block hb).trans h.c6, (World.cell?_of_block hb).trans h.c7, fun i => (World.frozen?_of_block hb).trans (h.f i)⟩
theorem Lk.lt (h : Lk w b num kind refs rd wr ino off pp) : b < w.heap.size := lt_cell h.c0
theorem Lk.below (h : Lk w b num kind refs rd wr ino off pp) (hb : Below w.heap.size w w') : Lk w' b num kind refs rd wr ino off pp := h.keep (hb.block b h.lt)
end
/-- An end of a pipe, as a value. -/
def enR (q : Option Addr) (pp : Int) : Value := .agg #[.pointer q, .int .i64 4, .int .i64 pp, .int .i64 5, .int .i64 pp]
def enW (q : Option Addr) (pp : Int) : Value := .agg #[.pointer q, .int .i64 5, .int .i64 pp, .int .i64 4, .int .i64 pp]

/-- An end in a box of its own. -/
structure En (w : World) (z : Nat) (q : Option Addr) (k l pp : Int) : Prop where
  c0 : w.cell? ⟨z, 0, .none⟩ = some (.pointer q)
  c1 : w.cell? ⟨z, 1, .none⟩ = some (.int .i64 k)
  c2 : w.cell? ⟨z, 2, .none⟩ = some (.int .i64 pp)
  c3 : w.cell? ⟨z, 3, .none⟩ = some (.int .i64 l)
  c4 : w.cell? ⟨z, 4, .none⟩ = some (.int .i64 pp)
  f : ∀ i, w.frozen? ⟨z, i, .none⟩ = false
theorem En.keep {w w' : World} {z : Nat} {q : Option Addr} {k l pp : Int} (h : En w z q k l pp) (hb : w'.heap[z]? = w.heap[z]?) : En w' z q k l pp :=
  ⟨(World.cell?_of_block hb).trans h.c0, (World.cell?_of_block hb).trans h.c1, (World.cell?_of_block hb).trans h.c2, (World.cell?_of_block hb).trans h.c3, (World.cell?_of_block hb).trans h.c4, fun i => (World.frozen?_of_block hb).trans (h.f i)⟩
theorem En.below {w w' : World} {z : Nat} {q : Option Addr} {k l pp : Int} (h : En w z q k l pp) (hb : Below w.heap.size w w') : En w' z q k l pp := h.keep (hb.block z (lt_cell h.c0))
theorem En.ofSets {V : World} {z : Nat} {q : Option Addr} {k l pp : Int} (ht : V.there z 0 5) (hf : ∀ i, V.frozen? ⟨z, i, .none⟩ = false) : En (V.setCells z 0 [.pointer q, .int .i64 k, .int .i64 pp, .int .i64 l, .int .i64 pp]) z q k l pp := by
  have hr := World.rangeAt_setCells_same (w := V) z 0 [.pointer q, .int .i64 k, .int .i64 pp, .int .i64 l, .int .i64 pp] ht
  have h0 := hr 0 _ rfl
  have h1 := hr 1 _ rfl
  have h2 := hr 2 _ rfl
  have h3 := hr 3 _ rfl
  have h4 := hr 4 _ rfl
  exact ⟨by simpa using h0, by simpa using h1, by simpa using h2, by simpa using h3, by simpa using h4, fun i => by simp only [World.setCells, World.frozen?_setCell]; exact hf i⟩
theorem En.range {w : World} {z : Nat} {q : Option Addr} {k l pp : Int} (h : En w z q k l pp) : w.rangeAt z 0 [.pointer q, .int .i64 k, .int .i64 pp, .int .i64 l, .int .i64 pp] := by
  intro j v hv
  rw [Nat.zero_add]
  match j, hv with
  | 0, hv => injection hv with hv; subst hv; exact h.c0
  | 1, hv => injection hv with hv; subst hv; exact h.c1
  | 2, hv => injection hv with hv; subst hv; exact h.c2
  | 3, hv => injection hv with hv; subst hv; exact h.c3
  | 4, hv => injection hv with hv; subst hv; exact h.c4
  | j + 5, hv => simp at hv
theorem En.swap {X : World} {z : Nat} {q : Option Addr} {k l pp : Int} (h : En X z q k l pp) : En ((((X.setCell ⟨z, 1, .none⟩ (.int .i64 l)).setCell ⟨z, 2, .none⟩ (.int .i64 pp)).setCell ⟨z, 3, .none⟩ (.int .i64 k)).setCell ⟨z, 4, .none⟩ (.int .i64 pp)) z q l k pp := by
  have o : ∀ (W : World) (i j : Nat) (u : Value), i ≠ j → (W.setCell ⟨z, j, .none⟩ u).cell? ⟨z, i, .none⟩ = W.cell? ⟨z, i, .none⟩ := fun W i j u hij => World.cell?_setCell_other _ _ _ _ (by intro hh; injection hh with _ hh; exact hij hh.symm)
  refine ⟨?_, ?_, ?_, ?_, ?_, fun i => by simp only [World.frozen?_setCell]; exact h.f i⟩
  · rw [o _ 0 4 _ (by omega), o _ 0 3 _ (by omega), o _ 0 2 _ (by omega), o _ 0 1 _ (by omega)]; exact h.c0
  · rw [o _ 1 4 _ (by omega), o _ 1 3 _ (by omega), o _ 1 2 _ (by omega)]; exact World.cell?_setCell_same _ _ _ h.c1
  · rw [o _ 2 4 _ (by omega), o _ 2 3 _ (by omega)]; exact World.cell?_setCell_same _ _ _ ((o _ 2 1 _ (by omega)).trans h.c2)
  · rw [o _ 3 4 _ (by omega)]; exact World.cell?_setCell_same _ _ _ ((o _ 3 2 _ (by omega)).trans ((o _ 3 1 _ (by omega)).trans h.c3))
  · exact World.cell?_setCell_same _ _ _ ((o _ 4 3 _ (by omega)).trans ((o _ 4 2 _ (by omega)).trans ((o _ 4 1 _ (by omega)).trans h.c4)))
theorem there5 (V : World) (T : TypeId) : (V.alloc (.cells #[.pointer .none, .int .i64 0, .int .i64 0, .int .i64 0, .int .i64 0] T)).there V.heap.size 0 5 ∧ ∀ i, (V.alloc (.cells #[.pointer .none, .int .i64 0, .int .i64 0, .int .i64 0, .int .i64 0] T)).frozen? ⟨V.heap.size, i, .none⟩ = false :=
  ⟨fun j hj => ⟨by rw [World.cell?_alloc_at _ _ _ _ rfl]; simp; omega, froz_new _ _ _ _⟩, fun i => froz_new _ _ _ _⟩

set_option maxHeartbeats 2000000 in
theorem endOfR_any {w : World} {s t c fb pb : Nat} {P : Nat → Option Nat} {b : Nat} {num refs : Int} {rd wr : Bool} {ino off pp : Int} (h : Fls w s t c fb pb) (hP : Tab w pb 32 P) (hL : Lk w b num 2 refs rd wr ino off pp) :
    Calls Tryz.prog 61 #[.pointer (some ⟨s, 0, .none⟩), .pointer (some ⟨b, 0, .none⟩)] w fun e w' => e = .returned (enR (tg P 32 pp) pp) ∧ Below w.heap.size w w' := by
  obtain ⟨W0, hW0⟩ : ∃ W0, W0 = w.alloc (.cells #[.pointer .none, .int .i64 0, .int .i64 0, .int .i64 0, .int .i64 0] 146) := ⟨_, rfl⟩
  have hb0 : Below w.heap.size w W0 := by rw [hW0]; exact (Below.refl _ _).alloc (Nat.le_refl _) _
  have hz0 : W0.heap.size = w.heap.size + 1 := by rw [hW0]; simp
  have ht0 : W0.there w.heap.size 0 5 ∧ ∀ i, W0.frozen? ⟨w.heap.size, i, .none⟩ = false := by rw [hW0]; exact there5 w _
  have HZ : Hid (Below w.heap.size w W0 ∧ W0.heap.size = w.heap.size + 1 ∧ W0.there w.heap.size 0 5 ∧ ∀ i, W0.frozen? ⟨w.heap.size, i, .none⟩ = false) := ⟨hb0, hz0, ht0⟩
  have HC : Hid (∀ U, Below W0.heap.size W0 U → (U.cell? ⟨s, 3, .none⟩ = some (.slice (some ⟨pb, 0, .none⟩) 32 32) ∧ U.cell? ⟨b, 7, .none⟩ = some (.int .i64 pp) ∧ Below W0.heap.size W0 U) ∧ Tab U pb 32 P ∧ U.cell? ⟨b, 1, .none⟩ = some (.int .i64 2)) := fun U hU => by
    have hU' := hb0.trans (hU.mono hb0.size)
    exact ⟨⟨(h.below hU').c3, (hL.below hU').c7, hU⟩, hP.below (by omega) hU', (hL.below hU').c1⟩
  have s1 : ∀ U, Below W0.heap.size W0 U → Calls Tryz.prog 36 #[.agg #[.slice (some ⟨pb, 0, .none⟩) 32 32], .int .i64 pp] U fun e U' => e = .returned (.pointer (tg P 32 pp)) ∧ Below U.heap.size U U' := fun U hU => tgetP_any (HC.out U hU).2.1 (by omega) pp
  generalize tg P 32 pp = v at *
  have j0 := (HC.out W0.drew (Below.refl _ _).drew).1
  have HW0 : Hid (w.alloc (.cells #[.pointer .none, .int .i64 0, .int .i64 0, .int .i64 0, .int .i64 0] 146) = W0) := hW0.symm
  clear hb0 hz0 ht0 h hP hL hW0
  go_enter Tryz.func61, Tryz.ntmps61
  go_upto_region 1 with fail
  rw [HW0.out]
  clear HW0
  refine wp_region_held_drew (S := fun U => (U.cell? ⟨s, 3, .none⟩ = some (.slice (some ⟨pb, 0, .none⟩) 32 32) ∧ U.cell? ⟨b, 7, .none⟩ = some (.int .i64 pp) ∧ Below W0.heap.size W0 U)) (by kernel_rfl) j0 (fun hHeld => ?_)
  refine wpAnyH_take (i := 0) (v := (.pointer (some ⟨s, 0, .none⟩))) rfl (by kernel_rfl) (by kernel_rfl) (by kernel_rfl) (fun _ _ _ h => h) (Or.inl ⟨by rfl, fun ww hSw => by (try dsimp only at hSw); go_simp⟩) (by assumption) ?_
  simp only [Act.put, List.setIfInBounds_toArray, List.set_cons_zero, List.set_cons_succ, List.getElem_toArray, List.getElem_cons_succ, List.getElem_cons_zero]
  refine wpAnyH_take (i := 1) (v := (.pointer (some ⟨s, 0, .none⟩))) rfl (by kernel_rfl) (by kernel_rfl) (by kernel_rfl) (fun _ _ _ h => h) (Or.inl ⟨by rfl, fun ww hSw => by (try dsimp only at hSw); go_simp⟩) (by assumption) ?_
  simp only [Act.put, List.setIfInBounds_toArray, List.set_cons_zero, List.set_cons_succ, List.getElem_toArray, List.getElem_cons_succ, List.getElem_cons_zero]
  refine wpAnyH_take (i := 2) (v := (.pointer (some ⟨s, 3, .none⟩))) rfl (by kernel_rfl) (by kernel_rfl) (by kernel_rfl) (fun _ _ _ h => h) (Or.inl ⟨by rfl, fun ww hSw => by (try dsimp only at hSw); go_simp⟩) (by assumption) ?_
  simp only [Act.put, List.setIfInBounds_toArray, List.set_cons_zero, List.set_cons_succ, List.getElem_toArray, List.getElem_cons_succ, List.getElem_cons_zero]
  refine wpAnyH_take (i := 3) (v := (.agg #[.slice (some ⟨pb, 0, .none⟩) 32 32])) rfl (by kernel_rfl) (by kernel_rfl) (by kernel_rfl) (fun _ _ _ h => h) (Or.inl ⟨by rfl, fun ww hSw => by (try dsimp only at hSw); go_simp⟩) (by assumption) ?_
  simp only [Act.put, List.setIfInBounds_toArray, List.set_cons_zero, List.set_cons_succ, List.getElem_toArray, List.getElem_cons_succ, List.getElem_cons_zero]
  refine wpAnyH_take (i := 4) (v := (.pointer (some ⟨b, 0, .none⟩))) rfl (by kernel_rfl) (by kernel_rfl) (by kernel_rfl) (fun _ _ _ h => h) (Or.inl ⟨by rfl, fun ww hSw => by (try dsimp only at hSw); go_simp⟩) (by assumption) ?_
  simp only [Act.put, List.setIfInBounds_toArray, List.set_cons_zero, List.set_cons_succ, List.getElem_toArray, List.getElem_cons_succ, List.getElem_cons_zero]
  refine wpAnyH_take (i := 5) (v := (.pointer (some ⟨b, 0, .none⟩))) rfl (by kernel_rfl) (by kernel_rfl) (by kernel_rfl) (fun _ _ _ h => h) (Or.inl ⟨by rfl, fun ww hSw => by (try dsimp only at hSw); go_simp⟩) (by assumption) ?_
  simp only [Act.put, List.setIfInBounds_toArray, List.set_cons_zero, List.set_cons_succ, List.getElem_toArray, List.getElem_cons_succ, List.getElem_cons_zero]
  refine wpAnyH_take (i := 6) (v := (.pointer (some ⟨b, 7, .none⟩))) rfl (by kernel_rfl) (by kernel_rfl) (by kernel_rfl) (fun _ _ _ h => h) (Or.inl ⟨by rfl, fun ww hSw => by (try dsimp only at hSw); go_simp⟩) (by assumption) ?_
  simp only [Act.put, List.setIfInBounds_toArray, List.set_cons_zero, List.set_cons_succ, List.getElem_toArray, List.getElem_cons_succ, List.getElem_cons_zero]
  refine wpAnyH_take (i := 7) (v := (.int .i64 pp)) rfl (by kernel_rfl) (by kernel_rfl) (by kernel_rfl) (fun _ _ _ h => h) (Or.inl ⟨by rfl, fun ww hSw => by (try dsimp only at hSw); go_simp⟩) (by assumption) ?_
  simp only [Act.put, List.setIfInBounds_toArray, List.set_cons_zero, List.set_cons_succ, List.getElem_toArray, List.getElem_cons_succ, List.getElem_cons_zero]
  refine wpAnyH_take (i := 9) (v := (.pointer (some ⟨b, 0, .none⟩))) rfl (by kernel_rfl) (by kernel_rfl) (by kernel_rfl) (fun _ _ _ h => h) (Or.inl ⟨by rfl, fun ww hSw => by (try dsimp only at hSw); go_simp⟩) (by assumption) ?_
  simp only [Act.put, List.setIfInBounds_toArray, List.set_cons_zero, List.set_cons_succ, List.getElem_toArray, List.getElem_cons_succ, List.getElem_cons_zero]
  refine wpAnyH_take (i := 10) (v := (.pointer (some ⟨b, 0, .none⟩))) rfl (by kernel_rfl) (by kernel_rfl) (by kernel_rfl) (fun _ _ _ h => h) (Or.inl ⟨by rfl, fun ww hSw => by (try dsimp only at hSw); go_simp⟩) (by assumption) ?_
  simp only [Act.put, List.setIfInBounds_toArray, List.set_cons_zero, List.set_cons_succ, List.getElem_toArray, List.getElem_cons_succ, List.getElem_cons_zero]
  refine wpAnyH_take (i := 11) (v := (.pointer (some ⟨b, 7, .none⟩))) rfl (by kernel_rfl) (by kernel_rfl) (by kernel_rfl) (fun _ _ _ h => h) (Or.inl ⟨by rfl, fun ww hSw => by (try dsimp only at hSw); go_simp⟩) (by assumption) ?_
  simp only [Act.put, List.setIfInBounds_toArray, List.set_cons_zero, List.set_cons_succ, List.getElem_toArray, List.getElem_cons_succ, List.getElem_cons_zero]
  refine wpAnyH_take (i := 12) (v := (.int .i64 pp)) rfl (by kernel_rfl) (by kernel_rfl) (by kernel_rfl) (fun _ _ _ h => h) (Or.inl ⟨by rfl, fun ww hSw => by (try dsimp only at hSw); go_simp⟩) (by assumption) ?_
  simp only [Act.put, List.setIfInBounds_toArray, List.set_cons_zero, List.set_cons_succ, List.getElem_toArray, List.getElem_cons_succ, List.getElem_cons_zero]
  refine wpAnyH_take (i := 13) (v := (.agg #[.int .i64 4, .int .i64 pp])) rfl (by kernel_rfl) (by kernel_rfl) (by kernel_rfl) (fun _ _ _ h => h) (Or.inl ⟨by rfl, fun ww hSw => by (try dsimp only at hSw); go_simp⟩) (by assumption) ?_
  simp only [Act.put, List.setIfInBounds_toArray, List.set_cons_zero, List.set_cons_succ, List.getElem_toArray, List.getElem_cons_succ, List.getElem_cons_zero]
  refine wpAnyH_take (i := 14) (v := (.pointer (some ⟨b, 0, .none⟩))) rfl (by kernel_rfl) (by kernel_rfl) (by kernel_rfl) (fun _ _ _ h => h) (Or.inl ⟨by rfl, fun ww hSw => by (try dsimp only at hSw); go_simp⟩) (by assumption) ?_
  simp only [Act.put, List.setIfInBounds_toArray, List.set_cons_zero, List.set_cons_succ, List.getElem_toArray, List.getElem_cons_succ, List.getElem_cons_zero]
  refine wpAnyH_take (i := 15) (v := (.pointer (some ⟨b, 0, .none⟩))) rfl (by kernel_rfl) (by kernel_rfl) (by kernel_rfl) (fun _ _ _ h => h) (Or.inl ⟨by rfl, fun ww hSw => by (try dsimp only at hSw); go_simp⟩) (by assumption) ?_
  simp only [Act.put, List.setIfInBounds_toArray, List.set_cons_zero, List.set_cons_succ, List.getElem_toArray, List.getElem_cons_succ, List.getElem_cons_zero]
  refine wpAnyH_take (i := 16) (v := (.pointer (some ⟨b, 7, .none⟩))) rfl (by kernel_rfl) (by kernel_rfl) (by kernel_rfl) (fun _ _ _ h => h) (Or.inl ⟨by rfl, fun ww hSw => by (try dsimp only at hSw); go_simp⟩) (by assumption) ?_
  simp only [Act.put, List.setIfInBounds_toArray, List.set_cons_zero, List.set_cons_succ, List.getElem_toArray, List.getElem_cons_succ, List.getElem_cons_zero]
  refine wpAnyH_take (i := 17) (v := (.int .i64 pp)) rfl (by kernel_rfl) (by kernel_rfl) (by kernel_rfl) (fun _ _ _ h => h) (Or.inl ⟨by rfl, fun ww hSw => by (try dsimp only at hSw); go_simp⟩) (by assumption) ?_
  simp only [Act.put, List.setIfInBounds_toArray, List.set_cons_zero, List.set_cons_succ, List.getElem_toArray, List.getElem_cons_succ, List.getElem_cons_zero]
  refine wpAnyH_take (i := 18) (v := (.agg #[.int .i64 5, .int .i64 pp])) rfl (by kernel_rfl) (by kernel_rfl) (by kernel_rfl) (fun _ _ _ h => h) (Or.inl ⟨by rfl, fun ww hSw => by (try dsimp only at hSw); go_simp⟩) (by assumption) ?_
  simp only [Act.put, List.setIfInBounds_toArray, List.set_cons_zero, List.set_cons_succ, List.getElem_toArray, List.getElem_cons_succ, List.getElem_cons_zero]
  refine wpAnyH_ready (rs := [8, 20]) (by kernel_rfl) (by simp) ?_
  refine AllReadyH.cons rfl (fun K hK => ?_) (AllReadyH.cons rfl (fun K hK => ?_) AllReadyH.nil)
  · go_simp
    refine (s1 _ (Below.refl _ _).drew).mono ?_
    rintro _ V ⟨rfl, hV⟩
    have bV : Below W0.heap.size W0 V := (show Below W0.heap.size W0 W0.drew from (Below.refl _ _).drew).trans hV
    have kV := (HC.out V bV).1
    clear hV
    refine hK.out _ _ kV (fun hHeld => ?_)
    clear hK K
    try simp only [Act.put, List.setIfInBounds_toArray, List.set_cons_zero, List.set_cons_succ, List.getElem_toArray, List.getElem_cons_succ, List.getElem_cons_zero]
    refine wpAnyH_take (i := 19) (v := (.agg #[.pointer v, .int .i64 4, .int .i64 pp, .int .i64 5, .int .i64 pp])) rfl (by kernel_rfl) (by kernel_rfl) (by kernel_rfl) (fun _ _ _ h => h) (Or.inl ⟨by rfl, fun ww hSw => by (try dsimp only at hSw); go_simp⟩) (by assumption) ?_
    simp only [Act.put, List.setIfInBounds_toArray, List.set_cons_zero, List.set_cons_succ, List.getElem_toArray, List.getElem_cons_succ, List.getElem_cons_zero]
    refine wpAnyH_ready (rs := [20]) (by kernel_rfl) (by simp) ?_
    refine AllReadyH.cons rfl (fun K hK => ?_) AllReadyH.nil
    go_simp
    have hU : Below w.heap.size w (V.alloc (.cells #[.pointer .none, .int .i64 0, .int .i64 0, .int .i64 0, .int .i64 0] 146)) ∧ W0.heap.size ≤ V.heap.size ∧ (V.alloc (.cells #[.pointer .none, .int .i64 0, .int .i64 0, .int .i64 0, .int .i64 0] 146)).there V.heap.size 0 5 ∧ (∀ i, (V.alloc (.cells #[.pointer .none, .int .i64 0, .int .i64 0, .int .i64 0, .int .i64 0] 146)).frozen? ⟨V.heap.size, i, .none⟩ = false) ∧ Below W0.heap.size W0 (V.alloc (.cells #[.pointer .none, .int .i64 0, .int .i64 0, .int .i64 0, .int .i64 0] 146)) ∧ V.heap.size < (V.alloc (.cells #[.pointer .none, .int .i64 0, .int .i64 0, .int .i64 0, .int .i64 0] 146)).heap.size := by
      have b1 : Below W0.heap.size W0 (V.alloc (.cells #[.pointer .none, .int .i64 0, .int .i64 0, .int .i64 0, .int .i64 0] 146)) := bV.alloc bV.size _
      exact ⟨HZ.out.1.trans (b1.mono HZ.out.1.size), bV.size, (there5 V _).1, (there5 V _).2, b1, by simp⟩
    have kU := (HC.out _ hU.2.2.2.2.1).1
    generalize hzz : V.heap.size = z at *
    generalize V.alloc (.cells #[.pointer .none, .int .i64 0, .int .i64 0, .int .i64 0, .int .i64 0] 146) = U at *
    clear kV bV hzz
    refine hK.out _ _ kU (fun hHeld => ?_)
    clear hK K
    try simp only [Act.put, List.setIfInBounds_toArray, List.set_cons_zero, List.set_cons_succ, List.getElem_toArray, List.getElem_cons_succ, List.getElem_cons_zero]
    have HU : Hid (Below w.heap.size w U ∧ W0.heap.size ≤ z ∧ U.there z 0 5 ∧ (∀ i, U.frozen? ⟨z, i, .none⟩ = false) ∧ Below W0.heap.size W0 U ∧ z < U.heap.size) := hU
    clear hU
    refine wpAnyH_ready (rs := [21]) (by kernel_rfl) (by simp) ?_
    refine AllReadyH.cons rfl (fun K hK => ?_) AllReadyH.nil
    refine step_store_mid rfl 146 (.tmp 5) (.tmp 25) rfl z 0 #[.pointer v, .int .i64 4, .int .i64 pp, .int .i64 5, .int .i64 pp] (by simp [Act.eval]) (by simp [Act.eval]) HU.out.2.2.1 (by kernel_rfl) (by simp [Value.oneCell']) ?_
    have hE : En (U.setCells z 0 [.pointer v, .int .i64 4, .int .i64 pp, .int .i64 5, .int .i64 pp]) z v 4 5 pp := En.ofSets HU.out.2.2.1 HU.out.2.2.2.1
    have t3 : Trn z U (U.setCells z 0 [.pointer v, .int .i64 4, .int .i64 pp, .int .i64 5, .int .i64 pp]) := Trn.setCells _ _ _ _
    generalize hX : U.setCells z 0 [.pointer v, .int .i64 4, .int .i64 pp, .int .i64 5, .int .i64 pp] = X at hE t3
    have bX : Below W0.heap.size W0 X := HU.out.2.2.2.2.1.trans (t3.toBelow HU.out.2.1 (by have := HU.out.2.2.2.2.1.size; omega))
    have HX : Hid (En X z v 4 5 pp ∧ Below W0.heap.size W0 X ∧ W0.heap.size ≤ z) := ⟨hE, bX, HU.out.2.1⟩
    have kX := (HC.out X bX).1
    clear hE t3 bX
    try clear hX
    refine hK.out _ _ kX (fun hHeld => ?_)
    clear hK K
    try simp only [Act.put, List.setIfInBounds_toArray, List.set_cons_zero, List.set_cons_succ, List.getElem_toArray, List.getElem_cons_succ, List.getElem_cons_zero]
    refine wpAnyH_done (by kernel_rfl) ?_ _
    have k1 := (HC.out X HX.out.2.1).2.2
    have e0 := HX.out.1.c0
    have e1 := HX.out.1.c1
    have e2 := HX.out.1.c2
    have e3 := HX.out.1.c3
    have e4 := HX.out.1.c4
    clear HU kX
    go_upto_region 4 with fail
    have HY : Hid (En X z v 4 5 pp ∧ Below W0.heap.size W0 X) := ⟨HX.out.1, HX.out.2.1⟩
    clear HX e0 e1 e2 e3 e4 k1
    have ht : X.there w.heap.size 0 5 := fun j hj => by
      have h1 := HZ.out.2.2.1 j hj
      have hlt : w.heap.size < W0.heap.size := by have := HZ.out.2.1; omega
      exact ⟨by rw [HY.out.2.cell (p := ⟨w.heap.size, 0 + j, .none⟩) hlt]; exact h1.1, by rw [HY.out.2.frozen (p := ⟨w.heap.size, 0 + j, .none⟩) hlt]; exact h1.2⟩
    refine wp_region_lit ?_
    refine wpList_load_mid rfl 146 (.tmp 5) rfl z 0 (by simp [Act.eval]) _ _ HY.out.1.range Tryz.underlying146 rfl (by kernel_rfl) ?_
    simp only [Act.put, List.setIfInBounds_toArray, List.set_cons_zero, List.set_cons_succ, List.getElem_toArray, List.getElem_cons_succ, List.getElem_cons_zero]
    refine wpList_store_mid rfl 146 (.tmp 4) (.tmp 37) rfl w.heap.size 0 #[.pointer v, .int .i64 4, .int .i64 pp, .int .i64 5, .int .i64 pp] (by simp [Act.eval]) (by simp [Act.eval]) ht (by kernel_rfl) (by simp [Value.oneCell']) ?_
    have hr := World.rangeAt_setCells_same (w := X) w.heap.size 0 [.pointer v, .int .i64 4, .int .i64 pp, .int .i64 5, .int .i64 pp] ht
    have hbb : Below w.heap.size w (X.setCells w.heap.size 0 [.pointer v, .int .i64 4, .int .i64 pp, .int .i64 5, .int .i64 pp]) := (HZ.out.1.trans (HY.out.2.mono (by have := HZ.out.2.1; omega))).trans ((Trn.setCells w.heap.size 0 [.pointer v, .int .i64 4, .int .i64 pp, .int .i64 5, .int .i64 pp] X).toBelow (Nat.le_refl _) (by have := HY.out.2.size; have := HZ.out.2.1; omega))
    generalize X.setCells w.heap.size 0 [.pointer v, .int .i64 4, .int .i64 pp, .int .i64 5, .int .i64 pp] = Y at *
    have HR : Hid (Y.rangeAt w.heap.size 0 [.pointer v, .int .i64 4, .int .i64 pp, .int .i64 5, .int .i64 pp] ∧ Below w.heap.size w Y) := ⟨hr, hbb⟩
    clear hr hbb HY ht
    go_wp2
    exact bodyPost_ret (results_cell_any (p := 4) (ty := 146) rfl _ _ ⟨w.heap.size, 0, .none⟩ _ rfl (run_loadVar_mid (P := Tryz.prog) _ w.heap.size 0 146 _ _ HR.out.1 Tryz.underlying146 rfl (by kernel_rfl))) rfl ⟨rfl, HR.out.2⟩
  · go_simp
    have hz : Below W0.heap.size W0 (W0.alloc (.cells #[.pointer .none, .int .i64 0, .int .i64 0, .int .i64 0, .int .i64 0] 146)) ∧ (W0.alloc (.cells #[.pointer .none, .int .i64 0, .int .i64 0, .int .i64 0, .int .i64 0] 146)).there W0.heap.size 0 5 ∧ (∀ i, (W0.alloc (.cells #[.pointer .none, .int .i64 0, .int .i64 0, .int .i64 0, .int .i64 0] 146)).frozen? ⟨W0.heap.size, i, .none⟩ = false) ∧ W0.heap.size < (W0.alloc (.cells #[.pointer .none, .int .i64 0, .int .i64 0, .int .i64 0, .int .i64 0] 146)).heap.size := ⟨(Below.refl _ _).alloc (Nat.le_refl _) _, (there5 W0 _).1, (there5 W0 _).2, by simp⟩
    have kU := (HC.out (W0.alloc (.cells #[.pointer .none, .int .i64 0, .int .i64 0, .int .i64 0, .int .i64 0] 146)).drew hz.1.drew).1
    generalize hA : W0.alloc (.cells #[.pointer .none, .int .i64 0, .int .i64 0, .int .i64 0, .int .i64 0] 146) = A at hz kU ⊢
    have HA : Hid (Below W0.heap.size W0 A ∧ A.there W0.heap.size 0 5 ∧ (∀ i, A.frozen? ⟨W0.heap.size, i, .none⟩ = false) ∧ W0.heap.size < A.heap.size) := hz
    clear hz hA
    refine hK.out _ _ kU (fun hHeld => ?_)
    clear hK K
    try simp only [Act.put, List.setIfInBounds_toArray, List.set_cons_zero, List.set_cons_succ, List.getElem_toArray, List.getElem_cons_succ, List.getElem_cons_zero]
    refine wpAnyH_ready (rs := [8]) (by kernel_rfl) (by simp) ?_
    refine AllReadyH.cons rfl (fun K hK => ?_) AllReadyH.nil
    go_simp
    refine (s1 _ HA.out.1.drew).mono ?_
    rintro _ V ⟨rfl, hV⟩
    have hU : Below w.heap.size w V ∧ W0.heap.size ≤ W0.heap.size ∧ V.there W0.heap.size 0 5 ∧ (∀ i, V.frozen? ⟨W0.heap.size, i, .none⟩ = false) ∧ Below W0.heap.size W0 V ∧ W0.heap.size < V.heap.size := by
      have hV2 : Below A.heap.size A V := ⟨hV.os, hV.tape, hV.output, hV.size, hV.block⟩
      have b1 : Below W0.heap.size W0 V := HA.out.1.trans (hV2.mono HA.out.1.size)
      refine ⟨HZ.out.1.trans (b1.mono HZ.out.1.size), Nat.le_refl _, fun j hj => ?_, fun i => ?_, b1, Nat.lt_of_lt_of_le HA.out.2.2.2 hV2.size⟩
      · have h1 := HA.out.2.1 j hj
        exact ⟨by rw [hV2.cell (p := ⟨W0.heap.size, 0 + j, .none⟩) HA.out.2.2.2]; exact h1.1, by rw [hV2.frozen (p := ⟨W0.heap.size, 0 + j, .none⟩) HA.out.2.2.2]; exact h1.2⟩
      · rw [hV2.frozen (p := ⟨W0.heap.size, i, .none⟩) HA.out.2.2.2]; exact HA.out.2.2.1 i
    have kV := (HC.out V hU.2.2.2.2.1).1
    clear hV
    refine hK.out _ _ kV (fun hHeld => ?_)
    clear hK K
    try simp only [Act.put, List.setIfInBounds_toArray, List.set_cons_zero, List.set_cons_succ, List.getElem_toArray, List.getElem_cons_succ, List.getElem_cons_zero]
    refine wpAnyH_take (i := 19) (v := (.agg #[.pointer v, .int .i64 4, .int .i64 pp, .int .i64 5, .int .i64 pp])) rfl (by kernel_rfl) (by kernel_rfl) (by kernel_rfl) (fun _ _ _ h => h) (Or.inl ⟨by rfl, fun ww hSw => by (try dsimp only at hSw); go_simp⟩) (by assumption) ?_
    simp only [Act.put, List.setIfInBounds_toArray, List.set_cons_zero, List.set_cons_succ, List.getElem_toArray, List.getElem_cons_succ, List.getElem_cons_zero]
    have HU : Hid (Below w.heap.size w V ∧ W0.heap.size ≤ W0.heap.size ∧ V.there W0.heap.size 0 5 ∧ (∀ i, V.frozen? ⟨W0.heap.size, i, .none⟩ = false) ∧ Below W0.heap.size W0 V ∧ W0.heap.size < V.heap.size) := hU
    clear hU
    refine wpAnyH_ready (rs := [21]) (by kernel_rfl) (by simp) ?_
    refine AllReadyH.cons rfl (fun K hK => ?_) AllReadyH.nil
    refine step_store_mid rfl 146 (.tmp 5) (.tmp 25) rfl W0.heap.size 0 #[.pointer v, .int .i64 4, .int .i64 pp, .int .i64 5, .int .i64 pp] (by simp [Act.eval]) (by simp [Act.eval]) HU.out.2.2.1 (by kernel_rfl) (by simp [Value.oneCell']) ?_
    have hE : En (V.setCells W0.heap.size 0 [.pointer v, .int .i64 4, .int .i64 pp, .int .i64 5, .int .i64 pp]) W0.heap.size v 4 5 pp := En.ofSets HU.out.2.2.1 HU.out.2.2.2.1
    have t3 : Trn W0.heap.size V (V.setCells W0.heap.size 0 [.pointer v, .int .i64 4, .int .i64 pp, .int .i64 5, .int .i64 pp]) := Trn.setCells _ _ _ _
    generalize hX : V.setCells W0.heap.size 0 [.pointer v, .int .i64 4, .int .i64 pp, .int .i64 5, .int .i64 pp] = X at hE t3
    have bX : Below W0.heap.size W0 X := HU.out.2.2.2.2.1.trans (t3.toBelow HU.out.2.1 (by have := HU.out.2.2.2.2.1.size; omega))
    have HX : Hid (En X W0.heap.size v 4 5 pp ∧ Below W0.heap.size W0 X ∧ W0.heap.size ≤ W0.heap.size) := ⟨hE, bX, HU.out.2.1⟩
    have kX := (HC.out X bX).1
    clear hE t3 bX
    try clear hX
    refine hK.out _ _ kX (fun hHeld => ?_)
    clear hK K
    try simp only [Act.put, List.setIfInBounds_toArray, List.set_cons_zero, List.set_cons_succ, List.getElem_toArray, List.getElem_cons_succ, List.getElem_cons_zero]
    refine wpAnyH_done (by kernel_rfl) ?_ _
    have k1 := (HC.out X HX.out.2.1).2.2
    have e0 := HX.out.1.c0
    have e1 := HX.out.1.c1
    have e2 := HX.out.1.c2
    have e3 := HX.out.1.c3
    have e4 := HX.out.1.c4
    clear HU kX
    go_upto_region 4 with fail
    have HY : Hid (En X W0.heap.size v 4 5 pp ∧ Below W0.heap.size W0 X) := ⟨HX.out.1, HX.out.2.1⟩
    clear HX e0 e1 e2 e3 e4 k1
    have ht : X.there w.heap.size 0 5 := fun j hj => by
      have h1 := HZ.out.2.2.1 j hj
      have hlt : w.heap.size < W0.heap.size := by have := HZ.out.2.1; omega
      exact ⟨by rw [HY.out.2.cell (p := ⟨w.heap.size, 0 + j, .none⟩) hlt]; exact h1.1, by rw [HY.out.2.frozen (p := ⟨w.heap.size, 0 + j, .none⟩) hlt]; exact h1.2⟩
    refine wp_region_lit ?_
    refine wpList_load_mid rfl 146 (.tmp 5) rfl W0.heap.size 0 (by simp [Act.eval]) _ _ HY.out.1.range Tryz.underlying146 rfl (by kernel_rfl) ?_
    simp only [Act.put, List.setIfInBounds_toArray, List.set_cons_zero, List.set_cons_succ, List.getElem_toArray, List.getElem_cons_succ, List.getElem_cons_zero]
    refine wpList_store_mid rfl 146 (.tmp 4) (.tmp 37) rfl w.heap.size 0 #[.pointer v, .int .i64 4, .int .i64 pp, .int .i64 5, .int .i64 pp] (by simp [Act.eval]) (by simp [Act.eval]) ht (by kernel_rfl) (by simp [Value.oneCell']) ?_
    have hr := World.rangeAt_setCells_same (w := X) w.heap.size 0 [.pointer v, .int .i64 4, .int .i64 pp, .int .i64 5, .int .i64 pp] ht
    have hbb : Below w.heap.size w (X.setCells w.heap.size 0 [.pointer v, .int .i64 4, .int .i64 pp, .int .i64 5, .int .i64 pp]) := (HZ.out.1.trans (HY.out.2.mono (by have := HZ.out.2.1; omega))).trans ((Trn.setCells w.heap.size 0 [.pointer v, .int .i64 4, .int .i64 pp, .int .i64 5, .int .i64 pp] X).toBelow (Nat.le_refl _) (by have := HY.out.2.size; have := HZ.out.2.1; omega))
    generalize X.setCells w.heap.size 0 [.pointer v, .int .i64 4, .int .i64 pp, .int .i64 5, .int .i64 pp] = Y at *
    have HR : Hid (Y.rangeAt w.heap.size 0 [.pointer v, .int .i64 4, .int .i64 pp, .int .i64 5, .int .i64 pp] ∧ Below w.heap.size w Y) := ⟨hr, hbb⟩
    clear hr hbb HY ht
    go_wp2
    exact bodyPost_ret (results_cell_any (p := 4) (ty := 146) rfl _ _ ⟨w.heap.size, 0, .none⟩ _ rfl (run_loadVar_mid (P := Tryz.prog) _ w.heap.size 0 146 _ _ HR.out.1 Tryz.underlying146 rfl (by kernel_rfl))) rfl ⟨rfl, HR.out.2⟩

set_option maxHeartbeats 2000000 in
theorem endOfW_any {w : World} {s t c fb pb : Nat} {P : Nat → Option Nat} {b : Nat} {num refs : Int} {rd wr : Bool} {ino off pp : Int} (h : Fls w s t c fb pb) (hP : Tab w pb 32 P) (hL : Lk w b num 3 refs rd wr ino off pp) :
    Calls Tryz.prog 61 #[.pointer (some ⟨s, 0, .none⟩), .pointer (some ⟨b, 0, .none⟩)] w fun e w' => e = .returned (enW (tg P 32 pp) pp) ∧ Below w.heap.size w w' := by
  obtain ⟨W0, hW0⟩ : ∃ W0, W0 = w.alloc (.cells #[.pointer .none, .int .i64 0, .int .i64 0, .int .i64 0, .int .i64 0] 146) := ⟨_, rfl⟩
  have hb0 : Below w.heap.size w W0 := by rw [hW0]; exact (Below.refl _ _).alloc (Nat.le_refl _) _
  have hz0 : W0.heap.size = w.heap.size + 1 := by rw [hW0]; simp
  have ht0 : W0.there w.heap.size 0 5 ∧ ∀ i, W0.frozen? ⟨w.heap.size, i, .none⟩ = false := by rw [hW0]; exact there5 w _
  have HZ : Hid (Below w.heap.size w W0 ∧ W0.heap.size = w.heap.size + 1 ∧ W0.there w.heap.size 0 5 ∧ ∀ i, W0.frozen? ⟨w.heap.size, i, .none⟩ = false) := ⟨hb0, hz0, ht0⟩
  have HC : Hid (∀ U, Below W0.heap.size W0 U → (U.cell? ⟨s, 3, .none⟩ = some (.slice (some ⟨pb, 0, .none⟩) 32 32) ∧ U.cell? ⟨b, 7, .none⟩ = some (.int .i64 pp) ∧ Below W0.heap.size W0 U) ∧ Tab U pb 32 P ∧ U.cell? ⟨b, 1, .none⟩ = some (.int .i64 3)) := fun U hU => by
    have hU' := hb0.trans (hU.mono hb0.size)
    exact ⟨⟨(h.below hU').c3, (hL.below hU').c7, hU⟩, hP.below (by omega) hU', (hL.below hU').c1⟩
  have s1 : ∀ U, Below W0.heap.size W0 U → Calls Tryz.prog 36 #[.agg #[.slice (some ⟨pb, 0, .none⟩) 32 32], .int .i64 pp] U fun e U' => e = .returned (.pointer (tg P 32 pp)) ∧ Below U.heap.size U U' := fun U hU => tgetP_any (HC.out U hU).2.1 (by omega) pp
  generalize tg P 32 pp = v at *
  have j0 := (HC.out W0.drew (Below.refl _ _).drew).1
  have HW0 : Hid (w.alloc (.cells #[.pointer .none, .int .i64 0, .int .i64 0, .int .i64 0, .int .i64 0] 146) = W0) := hW0.symm
  clear hb0 hz0 ht0 h hP hL hW0
  go_enter Tryz.func61, Tryz.ntmps61
  go_upto_region 1 with fail
  rw [HW0.out]
  clear HW0
  refine wp_region_held_drew (S := fun U => (U.cell? ⟨s, 3, .none⟩ = some (.slice (some ⟨pb, 0, .none⟩) 32 32) ∧ U.cell? ⟨b, 7, .none⟩ = some (.int .i64 pp) ∧ Below W0.heap.size W0 U)) (by kernel_rfl) j0 (fun hHeld => ?_)
  refine wpAnyH_take (i := 0) (v := (.pointer (some ⟨s, 0, .none⟩))) rfl (by kernel_rfl) (by kernel_rfl) (by kernel_rfl) (fun _ _ _ h => h) (Or.inl ⟨by rfl, fun ww hSw => by (try dsimp only at hSw); go_simp⟩) (by assumption) ?_
  simp only [Act.put, List.setIfInBounds_toArray, List.set_cons_zero, List.set_cons_succ, List.getElem_toArray, List.getElem_cons_succ, List.getElem_cons_zero]
  refine wpAnyH_take (i := 1) (v := (.pointer (some ⟨s, 0, .none⟩))) rfl (by kernel_rfl) (by kernel_rfl) (by kernel_rfl) (fun _ _ _ h => h) (Or.inl ⟨by rfl, fun ww hSw => by (try dsimp only at hSw); go_simp⟩) (by assumption) ?_
  simp only [Act.put, List.setIfInBounds_toArray, List.set_cons_zero, List.set_cons_succ, List.getElem_toArray, List.getElem_cons_succ, List.getElem_cons_zero]
  refine wpAnyH_take (i := 2) (v := (.pointer (some ⟨s, 3, .none⟩))) rfl (by kernel_rfl) (by kernel_rfl) (by kernel_rfl) (fun _ _ _ h => h) (Or.inl ⟨by rfl, fun ww hSw => by (try dsimp only at hSw); go_simp⟩) (by assumption) ?_
  simp only [Act.put, List.setIfInBounds_toArray, List.set_cons_zero, List.set_cons_succ, List.getElem_toArray, List.getElem_cons_succ, List.getElem_cons_zero]
  refine wpAnyH_take (i := 3) (v := (.agg #[.slice (some ⟨pb, 0, .none⟩) 32 32])) rfl (by kernel_rfl) (by kernel_rfl) (by kernel_rfl) (fun _ _ _ h => h) (Or.inl ⟨by rfl, fun ww hSw => by (try dsimp only at hSw); go_simp⟩) (by assumption) ?_
  simp only [Act.put, List.setIfInBounds_toArray, List.set_cons_zero, List.set_cons_succ, List.getElem_toArray, List.getElem_cons_succ, List.getElem_cons_zero]
  refine wpAnyH_take (i := 4) (v := (.pointer (some ⟨b, 0, .none⟩))) rfl (by kernel_rfl) (by kernel_rfl) (by kernel_rfl) (fun _ _ _ h => h) (Or.inl ⟨by rfl, fun ww hSw => by (try dsimp only at hSw); go_simp⟩) (by assumption) ?_
  simp only [Act.put, List.setIfInBounds_toArray, List.set_cons_zero, List.set_cons_succ, List.getElem_toArray, List.getElem_cons_succ, List.getElem_cons_zero]
  refine wpAnyH_take (i := 5) (v := (.pointer (some ⟨b, 0, .none⟩))) rfl (by kernel_rfl) (by kernel_rfl) (by kernel_rfl) (fun _ _ _ h => h) (Or.inl ⟨by rfl, fun ww hSw => by (try dsimp only at hSw); go_simp⟩) (by assumption) ?_
  simp only [Act.put, List.setIfInBounds_toArray, List.set_cons_zero, List.set_cons_succ, List.getElem_toArray, List.getElem_cons_succ, List.getElem_cons_zero]
  refine wpAnyH_take (i := 6) (v := (.pointer (some ⟨b, 7, .none⟩))) rfl (by kernel_rfl) (by kernel_rfl) (by kernel_rfl) (fun _ _ _ h => h) (Or.inl ⟨by rfl, fun ww hSw => by (try dsimp only at hSw); go_simp⟩) (by assumption) ?_
  simp only [Act.put, List.setIfInBounds_toArray, List.set_cons_zero, List.set_cons_succ, List.getElem_toArray, List.getElem_cons_succ, List.getElem_cons_zero]
  refine wpAnyH_take (i := 7) (v := (.int .i64 pp)) rfl (by kernel_rfl) (by kernel_rfl) (by kernel_rfl) (fun _ _ _ h => h) (Or.inl ⟨by rfl, fun ww hSw => by (try dsimp only at hSw); go_simp⟩) (by assumption) ?_
  simp only [Act.put, List.setIfInBounds_toArray, List.set_cons_zero, List.set_cons_succ, List.getElem_toArray, List.getElem_cons_succ, List.getElem_cons_zero]
  refine wpAnyH_take (i := 9) (v := (.pointer (some ⟨b, 0, .none⟩))) rfl (by kernel_rfl) (by kernel_rfl) (by kernel_rfl) (fun _ _ _ h => h) (Or.inl ⟨by rfl, fun ww hSw => by (try dsimp only at hSw); go_simp⟩) (by assumption) ?_
  simp only [Act.put, List.setIfInBounds_toArray, List.set_cons_zero, List.set_cons_succ, List.getElem_toArray, List.getElem_cons_succ, List.getElem_cons_zero]
  refine wpAnyH_take (i := 10) (v := (.pointer (some ⟨b, 0, .none⟩))) rfl (by kernel_rfl) (by kernel_rfl) (by kernel_rfl) (fun _ _ _ h => h) (Or.inl ⟨by rfl, fun ww hSw => by (try dsimp only at hSw); go_simp⟩) (by assumption) ?_
  simp only [Act.put, List.setIfInBounds_toArray, List.set_cons_zero, List.set_cons_succ, List.getElem_toArray, List.getElem_cons_succ, List.getElem_cons_zero]
  refine wpAnyH_take (i := 11) (v := (.pointer (some ⟨b, 7, .none⟩))) rfl (by kernel_rfl) (by kernel_rfl) (by kernel_rfl) (fun _ _ _ h => h) (Or.inl ⟨by rfl, fun ww hSw => by (try dsimp only at hSw); go_simp⟩) (by assumption) ?_
  simp only [Act.put, List.setIfInBounds_toArray, List.set_cons_zero, List.set_cons_succ, List.getElem_toArray, List.getElem_cons_succ, List.getElem_cons_zero]
  refine wpAnyH_take (i := 12) (v := (.int .i64 pp)) rfl (by kernel_rfl) (by kernel_rfl) (by kernel_rfl) (fun _ _ _ h => h) (Or.inl ⟨by rfl, fun ww hSw => by (try dsimp only at hSw); go_simp⟩) (by assumption) ?_
  simp only [Act.put, List.setIfInBounds_toArray, List.set_cons_zero, List.set_cons_succ, List.getElem_toArray, List.getElem_cons_succ, List.getElem_cons_zero]
  refine wpAnyH_take (i := 13) (v := (.agg #[.int .i64 4, .int .i64 pp])) rfl (by kernel_rfl) (by kernel_rfl) (by kernel_rfl) (fun _ _ _ h => h) (Or.inl ⟨by rfl, fun ww hSw => by (try dsimp only at hSw); go_simp⟩) (by assumption) ?_
  simp only [Act.put, List.setIfInBounds_toArray, List.set_cons_zero, List.set_cons_succ, List.getElem_toArray, List.getElem_cons_succ, List.getElem_cons_zero]
  refine wpAnyH_take (i := 14) (v := (.pointer (some ⟨b, 0, .none⟩))) rfl (by kernel_rfl) (by kernel_rfl) (by kernel_rfl) (fun _ _ _ h => h) (Or.inl ⟨by rfl, fun ww hSw => by (try dsimp only at hSw); go_simp⟩) (by assumption) ?_
  simp only [Act.put, List.setIfInBounds_toArray, List.set_cons_zero, List.set_cons_succ, List.getElem_toArray, List.getElem_cons_succ, List.getElem_cons_zero]
  refine wpAnyH_take (i := 15) (v := (.pointer (some ⟨b, 0, .none⟩))) rfl (by kernel_rfl) (by kernel_rfl) (by kernel_rfl) (fun _ _ _ h => h) (Or.inl ⟨by rfl, fun ww hSw => by (try dsimp only at hSw); go_simp⟩) (by assumption) ?_
  simp only [Act.put, List.setIfInBounds_toArray, List.set_cons_zero, List.set_cons_succ, List.getElem_toArray, List.getElem_cons_succ, List.getElem_cons_zero]
  refine wpAnyH_take (i := 16) (v := (.pointer (some ⟨b, 7, .none⟩))) rfl (by kernel_rfl) (by kernel_rfl) (by kernel_rfl) (fun _ _ _ h => h) (Or.inl ⟨by rfl, fun ww hSw => by (try dsimp only at hSw); go_simp⟩) (by assumption) ?_
  simp only [Act.put, List.setIfInBounds_toArray, List.set_cons_zero, List.set_cons_succ, List.getElem_toArray, List.getElem_cons_succ, List.getElem_cons_zero]
  refine wpAnyH_take (i := 17) (v := (.int .i64 pp)) rfl (by kernel_rfl) (by kernel_rfl) (by kernel_rfl) (fun _ _ _ h => h) (Or.inl ⟨by rfl, fun ww hSw => by (try dsimp only at hSw); go_simp⟩) (by assumption) ?_
  simp only [Act.put, List.setIfInBounds_toArray, List.set_cons_zero, List.set_cons_succ, List.getElem_toArray, List.getElem_cons_succ, List.getElem_cons_zero]
  refine wpAnyH_take (i := 18) (v := (.agg #[.int .i64 5, .int .i64 pp])) rfl (by kernel_rfl) (by kernel_rfl) (by kernel_rfl) (fun _ _ _ h => h) (Or.inl ⟨by rfl, fun ww hSw => by (try dsimp only at hSw); go_simp⟩) (by assumption) ?_
  simp only [Act.put, List.setIfInBounds_toArray, List.set_cons_zero, List.set_cons_succ, List.getElem_toArray, List.getElem_cons_succ, List.getElem_cons_zero]
  refine wpAnyH_ready (rs := [8, 20]) (by kernel_rfl) (by simp) ?_
  refine AllReadyH.cons rfl (fun K hK => ?_) (AllReadyH.cons rfl (fun K hK => ?_) AllReadyH.nil)
  · go_simp
    refine (s1 _ (Below.refl _ _).drew).mono ?_
    rintro _ V ⟨rfl, hV⟩
    have bV : Below W0.heap.size W0 V := (show Below W0.heap.size W0 W0.drew from (Below.refl _ _).drew).trans hV
    have kV := (HC.out V bV).1
    clear hV
    refine hK.out _ _ kV (fun hHeld => ?_)
    clear hK K
    try simp only [Act.put, List.setIfInBounds_toArray, List.set_cons_zero, List.set_cons_succ, List.getElem_toArray, List.getElem_cons_succ, List.getElem_cons_zero]
    refine wpAnyH_take (i := 19) (v := (.agg #[.pointer v, .int .i64 4, .int .i64 pp, .int .i64 5, .int .i64 pp])) rfl (by kernel_rfl) (by kernel_rfl) (by kernel_rfl) (fun _ _ _ h => h) (Or.inl ⟨by rfl, fun ww hSw => by (try dsimp only at hSw); go_simp⟩) (by assumption) ?_
    simp only [Act.put, List.setIfInBounds_toArray, List.set_cons_zero, List.set_cons_succ, List.getElem_toArray, List.getElem_cons_succ, List.getElem_cons_zero]
    refine wpAnyH_ready (rs := [20]) (by kernel_rfl) (by simp) ?_
    refine AllReadyH.cons rfl (fun K hK => ?_) AllReadyH.nil
    go_simp
    have hU : Below w.heap.size w (V.alloc (.cells #[.pointer .none, .int .i64 0, .int .i64 0, .int .i64 0, .int .i64 0] 146)) ∧ W0.heap.size ≤ V.heap.size ∧ (V.alloc (.cells #[.pointer .none, .int .i64 0, .int .i64 0, .int .i64 0, .int .i64 0] 146)).there V.heap.size 0 5 ∧ (∀ i, (V.alloc (.cells #[.pointer .none, .int .i64 0, .int .i64 0, .int .i64 0, .int .i64 0] 146)).frozen? ⟨V.heap.size, i, .none⟩ = false) ∧ Below W0.heap.size W0 (V.alloc (.cells #[.pointer .none, .int .i64 0, .int .i64 0, .int .i64 0, .int .i64 0] 146)) ∧ V.heap.size < (V.alloc (.cells #[.pointer .none, .int .i64 0, .int .i64 0, .int .i64 0, .int .i64 0] 146)).heap.size := by
      have b1 : Below W0.heap.size W0 (V.alloc (.cells #[.pointer .none, .int .i64 0, .int .i64 0, .int .i64 0, .int .i64 0] 146)) := bV.alloc bV.size _
      exact ⟨HZ.out.1.trans (b1.mono HZ.out.1.size), bV.size, (there5 V _).1, (there5 V _).2, b1, by simp⟩
    have kU := (HC.out _ hU.2.2.2.2.1).1
    generalize hzz : V.heap.size = z at *
    generalize V.alloc (.cells #[.pointer .none, .int .i64 0, .int .i64 0, .int .i64 0, .int .i64 0] 146) = U at *
    clear kV bV hzz
    refine hK.out _ _ kU (fun hHeld => ?_)
    clear hK K
    try simp only [Act.put, List.setIfInBounds_toArray, List.set_cons_zero, List.set_cons_succ, List.getElem_toArray, List.getElem_cons_succ, List.getElem_cons_zero]
    have HU : Hid (Below w.heap.size w U ∧ W0.heap.size ≤ z ∧ U.there z 0 5 ∧ (∀ i, U.frozen? ⟨z, i, .none⟩ = false) ∧ Below W0.heap.size W0 U ∧ z < U.heap.size) := hU
    clear hU
    refine wpAnyH_ready (rs := [21]) (by kernel_rfl) (by simp) ?_
    refine AllReadyH.cons rfl (fun K hK => ?_) AllReadyH.nil
    refine step_store_mid rfl 146 (.tmp 5) (.tmp 25) rfl z 0 #[.pointer v, .int .i64 4, .int .i64 pp, .int .i64 5, .int .i64 pp] (by simp [Act.eval]) (by simp [Act.eval]) HU.out.2.2.1 (by kernel_rfl) (by simp [Value.oneCell']) ?_
    have hE : En (U.setCells z 0 [.pointer v, .int .i64 4, .int .i64 pp, .int .i64 5, .int .i64 pp]) z v 4 5 pp := En.ofSets HU.out.2.2.1 HU.out.2.2.2.1
    have t3 : Trn z U (U.setCells z 0 [.pointer v, .int .i64 4, .int .i64 pp, .int .i64 5, .int .i64 pp]) := Trn.setCells _ _ _ _
    generalize hX : U.setCells z 0 [.pointer v, .int .i64 4, .int .i64 pp, .int .i64 5, .int .i64 pp] = X at hE t3
    have bX : Below W0.heap.size W0 X := HU.out.2.2.2.2.1.trans (t3.toBelow HU.out.2.1 (by have := HU.out.2.2.2.2.1.size; omega))
    have HX : Hid (En X z v 4 5 pp ∧ Below W0.heap.size W0 X ∧ W0.heap.size ≤ z) := ⟨hE, bX, HU.out.2.1⟩
    have kX := (HC.out X bX).1
    clear hE t3 bX
    try clear hX
    refine hK.out _ _ kX (fun hHeld => ?_)
    clear hK K
    try simp only [Act.put, List.setIfInBounds_toArray, List.set_cons_zero, List.set_cons_succ, List.getElem_toArray, List.getElem_cons_succ, List.getElem_cons_zero]
    refine wpAnyH_done (by kernel_rfl) ?_ _
    have k1 := (HC.out X HX.out.2.1).2.2
    have e0 := HX.out.1.c0
    have e1 := HX.out.1.c1
    have e2 := HX.out.1.c2
    have e3 := HX.out.1.c3
    have e4 := HX.out.1.c4
    have f1 := HX.out.1.f 1
    have f2 := HX.out.1.f 2
    have f3 := HX.out.1.f 3
    have f4 := HX.out.1.f 4
    clear HU kX
    go_upto_region 4 with fail
    have HY : Hid (En ((((X.setCell ⟨z, 1, .none⟩ (.int .i64 5)).setCell ⟨z, 2, .none⟩ (.int .i64 pp)).setCell ⟨z, 3, .none⟩ (.int .i64 4)).setCell ⟨z, 4, .none⟩ (.int .i64 pp)) z v 5 4 pp ∧ Below W0.heap.size W0 ((((X.setCell ⟨z, 1, .none⟩ (.int .i64 5)).setCell ⟨z, 2, .none⟩ (.int .i64 pp)).setCell ⟨z, 3, .none⟩ (.int .i64 4)).setCell ⟨z, 4, .none⟩ (.int .i64 pp))) := ⟨HX.out.1.swap, ((((HX.out.2.1.setCell (p := ⟨z, 1, .none⟩) HX.out.2.2 _).setCell (p := ⟨z, 2, .none⟩) HX.out.2.2 _).setCell (p := ⟨z, 3, .none⟩) HX.out.2.2 _).setCell (p := ⟨z, 4, .none⟩) HX.out.2.2 _)⟩
    clear HX e0 e1 e2 e3 e4 k1
    clear f1 f2 f3 f4
    generalize ((((X.setCell ⟨z, 1, .none⟩ (.int .i64 5)).setCell ⟨z, 2, .none⟩ (.int .i64 pp)).setCell ⟨z, 3, .none⟩ (.int .i64 4)).setCell ⟨z, 4, .none⟩ (.int .i64 pp)) = X at *
    have ht : X.there w.heap.size 0 5 := fun j hj => by
      have h1 := HZ.out.2.2.1 j hj
      have hlt : w.heap.size < W0.heap.size := by have := HZ.out.2.1; omega
      exact ⟨by rw [HY.out.2.cell (p := ⟨w.heap.size, 0 + j, .none⟩) hlt]; exact h1.1, by rw [HY.out.2.frozen (p := ⟨w.heap.size, 0 + j, .none⟩) hlt]; exact h1.2⟩
    refine wp_region_lit ?_
    refine wpList_load_mid rfl 146 (.tmp 5) rfl z 0 (by simp [Act.eval]) _ _ HY.out.1.range Tryz.underlying146 rfl (by kernel_rfl) ?_
    simp only [Act.put, List.setIfInBounds_toArray, List.set_cons_zero, List.set_cons_succ, List.getElem_toArray, List.getElem_cons_succ, List.getElem_cons_zero]
    refine wpList_store_mid rfl 146 (.tmp 4) (.tmp 37) rfl w.heap.size 0 #[.pointer v, .int .i64 5, .int .i64 pp, .int .i64 4, .int .i64 pp] (by simp [Act.eval]) (by simp [Act.eval]) ht (by kernel_rfl) (by simp [Value.oneCell']) ?_
    have hr := World.rangeAt_setCells_same (w := X) w.heap.size 0 [.pointer v, .int .i64 5, .int .i64 pp, .int .i64 4, .int .i64 pp] ht
    have hbb : Below w.heap.size w (X.setCells w.heap.size 0 [.pointer v, .int .i64 5, .int .i64 pp, .int .i64 4, .int .i64 pp]) := (HZ.out.1.trans (HY.out.2.mono (by have := HZ.out.2.1; omega))).trans ((Trn.setCells w.heap.size 0 [.pointer v, .int .i64 5, .int .i64 pp, .int .i64 4, .int .i64 pp] X).toBelow (Nat.le_refl _) (by have := HY.out.2.size; have := HZ.out.2.1; omega))
    generalize X.setCells w.heap.size 0 [.pointer v, .int .i64 5, .int .i64 pp, .int .i64 4, .int .i64 pp] = Y at *
    have HR : Hid (Y.rangeAt w.heap.size 0 [.pointer v, .int .i64 5, .int .i64 pp, .int .i64 4, .int .i64 pp] ∧ Below w.heap.size w Y) := ⟨hr, hbb⟩
    clear hr hbb HY ht
    go_wp2
    exact bodyPost_ret (results_cell_any (p := 4) (ty := 146) rfl _ _ ⟨w.heap.size, 0, .none⟩ _ rfl (run_loadVar_mid (P := Tryz.prog) _ w.heap.size 0 146 _ _ HR.out.1 Tryz.underlying146 rfl (by kernel_rfl))) rfl ⟨rfl, HR.out.2⟩
  · go_simp
    have hz : Below W0.heap.size W0 (W0.alloc (.cells #[.pointer .none, .int .i64 0, .int .i64 0, .int .i64 0, .int .i64 0] 146)) ∧ (W0.alloc (.cells #[.pointer .none, .int .i64 0, .int .i64 0, .int .i64 0, .int .i64 0] 146)).there W0.heap.size 0 5 ∧ (∀ i, (W0.alloc (.cells #[.pointer .none, .int .i64 0, .int .i64 0, .int .i64 0, .int .i64 0] 146)).frozen? ⟨W0.heap.size, i, .none⟩ = false) ∧ W0.heap.size < (W0.alloc (.cells #[.pointer .none, .int .i64 0, .int .i64 0, .int .i64 0, .int .i64 0] 146)).heap.size := ⟨(Below.refl _ _).alloc (Nat.le_refl _) _, (there5 W0 _).1, (there5 W0 _).2, by simp⟩
    have kU := (HC.out (W0.alloc (.cells #[.pointer .none, .int .i64 0, .int .i64 0, .int .i64 0, .int .i64 0] 146)).drew hz.1.drew).1
    generalize hA : W0.alloc (.cells #[.pointer .none, .int .i64 0, .int .i64 0, .int .i64 0, .int .i64 0] 146) = A at hz kU ⊢
    have HA : Hid (Below W0.heap.size W0 A ∧ A.there W0.heap.size 0 5 ∧ (∀ i, A.frozen? ⟨W0.heap.size, i, .none⟩ = false) ∧ W0.heap.size < A.heap.size) := hz
    clear hz hA
    refine hK.out _ _ kU (fun hHeld => ?_)
    clear hK K
    try simp only [Act.put, List.setIfInBounds_toArray, List.set_cons_zero, List.set_cons_succ, List.getElem_toArray, List.getElem_cons_succ, List.getElem_cons_zero]
    refine wpAnyH_ready (rs := [8]) (by kernel_rfl) (by simp) ?_
    refine AllReadyH.cons rfl (fun K hK => ?_) AllReadyH.nil
    go_simp
    refine (s1 _ HA.out.1.drew).mono ?_
    rintro _ V ⟨rfl, hV⟩
    have hU : Below w.heap.size w V ∧ W0.heap.size ≤ W0.heap.size ∧ V.there W0.heap.size 0 5 ∧ (∀ i, V.frozen? ⟨W0.heap.size, i, .none⟩ = false) ∧ Below W0.heap.size W0 V ∧ W0.heap.size < V.heap.size := by
      have hV2 : Below A.heap.size A V := ⟨hV.os, hV.tape, hV.output, hV.size, hV.block⟩
      have b1 : Below W0.heap.size W0 V := HA.out.1.trans (hV2.mono HA.out.1.size)
      refine ⟨HZ.out.1.trans (b1.mono HZ.out.1.size), Nat.le_refl _, fun j hj => ?_, fun i => ?_, b1, Nat.lt_of_lt_of_le HA.out.2.2.2 hV2.size⟩
      · have h1 := HA.out.2.1 j hj
        exact ⟨by rw [hV2.cell (p := ⟨W0.heap.size, 0 + j, .none⟩) HA.out.2.2.2]; exact h1.1, by rw [hV2.frozen (p := ⟨W0.heap.size, 0 + j, .none⟩) HA.out.2.2.2]; exact h1.2⟩
      · rw [hV2.frozen (p := ⟨W0.heap.size, i, .none⟩) HA.out.2.2.2]; exact HA.out.2.2.1 i
    have kV := (HC.out V hU.2.2.2.2.1).1
    clear hV
    refine hK.out _ _ kV (fun hHeld => ?_)
    clear hK K
    try simp only [Act.put, List.setIfInBounds_toArray, List.set_cons_zero, List.set_cons_succ, List.getElem_toArray, List.getElem_cons_succ, List.getElem_cons_zero]
    refine wpAnyH_take (i := 19) (v := (.agg #[.pointer v, .int .i64 4, .int .i64 pp, .int .i64 5, .int .i64 pp])) rfl (by kernel_rfl) (by kernel_rfl) (by kernel_rfl) (fun _ _ _ h => h) (Or.inl ⟨by rfl, fun ww hSw => by (try dsimp only at hSw); go_simp⟩) (by assumption) ?_
    simp only [Act.put, List.setIfInBounds_toArray, List.set_cons_zero, List.set_cons_succ, List.getElem_toArray, List.getElem_cons_succ, List.getElem_cons_zero]
    have HU : Hid (Below w.heap.size w V ∧ W0.heap.size ≤ W0.heap.size ∧ V.there W0.heap.size 0 5 ∧ (∀ i, V.frozen? ⟨W0.heap.size, i, .none⟩ = false) ∧ Below W0.heap.size W0 V ∧ W0.heap.size < V.heap.size) := hU
    clear hU
    refine wpAnyH_ready (rs := [21]) (by kernel_rfl) (by simp) ?_
    refine AllReadyH.cons rfl (fun K hK => ?_) AllReadyH.nil
    refine step_store_mid rfl 146 (.tmp 5) (.tmp 25) rfl W0.heap.size 0 #[.pointer v, .int .i64 4, .int .i64 pp, .int .i64 5, .int .i64 pp] (by simp [Act.eval]) (by simp [Act.eval]) HU.out.2.2.1 (by kernel_rfl) (by simp [Value.oneCell']) ?_
    have hE : En (V.setCells W0.heap.size 0 [.pointer v, .int .i64 4, .int .i64 pp, .int .i64 5, .int .i64 pp]) W0.heap.size v 4 5 pp := En.ofSets HU.out.2.2.1 HU.out.2.2.2.1
    have t3 : Trn W0.heap.size V (V.setCells W0.heap.size 0 [.pointer v, .int .i64 4, .int .i64 pp, .int .i64 5, .int .i64 pp]) := Trn.setCells _ _ _ _
    generalize hX : V.setCells W0.heap.size 0 [.pointer v, .int .i64 4, .int .i64 pp, .int .i64 5, .int .i64 pp] = X at hE t3
    have bX : Below W0.heap.size W0 X := HU.out.2.2.2.2.1.trans (t3.toBelow HU.out.2.1 (by have := HU.out.2.2.2.2.1.size; omega))
    have HX : Hid (En X W0.heap.size v 4 5 pp ∧ Below W0.heap.size W0 X ∧ W0.heap.size ≤ W0.heap.size) := ⟨hE, bX, HU.out.2.1⟩
    have kX := (HC.out X bX).1
    clear hE t3 bX
    try clear hX
    refine hK.out _ _ kX (fun hHeld => ?_)
    clear hK K
    try simp only [Act.put, List.setIfInBounds_toArray, List.set_cons_zero, List.set_cons_succ, List.getElem_toArray, List.getElem_cons_succ, List.getElem_cons_zero]
    refine wpAnyH_done (by kernel_rfl) ?_ _
    have k1 := (HC.out X HX.out.2.1).2.2
    have e0 := HX.out.1.c0
    have e1 := HX.out.1.c1
    have e2 := HX.out.1.c2
    have e3 := HX.out.1.c3
    have e4 := HX.out.1.c4
    have f1 := HX.out.1.f 1
    have f2 := HX.out.1.f 2
    have f3 := HX.out.1.f 3
    have f4 := HX.out.1.f 4
    clear HU kX
    go_upto_region 4 with fail
    have HY : Hid (En ((((X.setCell ⟨W0.heap.size, 1, .none⟩ (.int .i64 5)).setCell ⟨W0.heap.size, 2, .none⟩ (.int .i64 pp)).setCell ⟨W0.heap.size, 3, .none⟩ (.int .i64 4)).setCell ⟨W0.heap.size, 4, .none⟩ (.int .i64 pp)) W0.heap.size v 5 4 pp ∧ Below W0.heap.size W0 ((((X.setCell ⟨W0.heap.size, 1, .none⟩ (.int .i64 5)).setCell ⟨W0.heap.size, 2, .none⟩ (.int .i64 pp)).setCell ⟨W0.heap.size, 3, .none⟩ (.int .i64 4)).setCell ⟨W0.heap.size, 4, .none⟩ (.int .i64 pp))) := ⟨HX.out.1.swap, ((((HX.out.2.1.setCell (p := ⟨W0.heap.size, 1, .none⟩) HX.out.2.2 _).setCell (p := ⟨W0.heap.size, 2, .none⟩) HX.out.2.2 _).setCell (p := ⟨W0.heap.size, 3, .none⟩) HX.out.2.2 _).setCell (p := ⟨W0.heap.size, 4, .none⟩) HX.out.2.2 _)⟩
    clear HX e0 e1 e2 e3 e4 k1
    clear f1 f2 f3 f4
    generalize ((((X.setCell ⟨W0.heap.size, 1, .none⟩ (.int .i64 5)).setCell ⟨W0.heap.size, 2, .none⟩ (.int .i64 pp)).setCell ⟨W0.heap.size, 3, .none⟩ (.int .i64 4)).setCell ⟨W0.heap.size, 4, .none⟩ (.int .i64 pp)) = X at *
    have ht : X.there w.heap.size 0 5 := fun j hj => by
      have h1 := HZ.out.2.2.1 j hj
      have hlt : w.heap.size < W0.heap.size := by have := HZ.out.2.1; omega
      exact ⟨by rw [HY.out.2.cell (p := ⟨w.heap.size, 0 + j, .none⟩) hlt]; exact h1.1, by rw [HY.out.2.frozen (p := ⟨w.heap.size, 0 + j, .none⟩) hlt]; exact h1.2⟩
    refine wp_region_lit ?_
    refine wpList_load_mid rfl 146 (.tmp 5) rfl W0.heap.size 0 (by simp [Act.eval]) _ _ HY.out.1.range Tryz.underlying146 rfl (by kernel_rfl) ?_
    simp only [Act.put, List.setIfInBounds_toArray, List.set_cons_zero, List.set_cons_succ, List.getElem_toArray, List.getElem_cons_succ, List.getElem_cons_zero]
    refine wpList_store_mid rfl 146 (.tmp 4) (.tmp 37) rfl w.heap.size 0 #[.pointer v, .int .i64 5, .int .i64 pp, .int .i64 4, .int .i64 pp] (by simp [Act.eval]) (by simp [Act.eval]) ht (by kernel_rfl) (by simp [Value.oneCell']) ?_
    have hr := World.rangeAt_setCells_same (w := X) w.heap.size 0 [.pointer v, .int .i64 5, .int .i64 pp, .int .i64 4, .int .i64 pp] ht
    have hbb : Below w.heap.size w (X.setCells w.heap.size 0 [.pointer v, .int .i64 5, .int .i64 pp, .int .i64 4, .int .i64 pp]) := (HZ.out.1.trans (HY.out.2.mono (by have := HZ.out.2.1; omega))).trans ((Trn.setCells w.heap.size 0 [.pointer v, .int .i64 5, .int .i64 pp, .int .i64 4, .int .i64 pp] X).toBelow (Nat.le_refl _) (by have := HY.out.2.size; have := HZ.out.2.1; omega))
    generalize X.setCells w.heap.size 0 [.pointer v, .int .i64 5, .int .i64 pp, .int .i64 4, .int .i64 pp] = Y at *
    have HR : Hid (Y.rangeAt w.heap.size 0 [.pointer v, .int .i64 5, .int .i64 pp, .int .i64 4, .int .i64 pp] ∧ Below w.heap.size w Y) := ⟨hr, hbb⟩
    clear hr hbb HY ht
    go_wp2
    exact bodyPost_ret (results_cell_any (p := 4) (ty := 146) rfl _ _ ⟨w.heap.size, 0, .none⟩ _ rfl (run_loadVar_mid (P := Tryz.prog) _ w.heap.size 0 146 _ _ HR.out.1 Tryz.underlying146 rfl (by kernel_rfl))) rfl ⟨rfl, HR.out.2⟩
end Go.Proofs.YthdlefbaegbldaaGreatDoor
