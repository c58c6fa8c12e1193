import Derived.Test.YtnlbomggadflmaaLf
namespace Go.Proofs.Ytnlbomggadflmaa
open Go.RowKit
set_option linter.unusedVariables false
set_option linter.unusedSimpArgs false
set_option maxRecDepth 100000
/-- A table that nobody made. -/
def NoT (w : World) (q : Option Addr) : Prop := q = none ∨ ∃ b, q = some ⟨b, 0, .none⟩ ∧ w.cell? ⟨b, 448, .none⟩ = some (.int .i64 0)
theorem NoT.bel {w W : World} {q : Option Addr} (h : NoT w q) (k : Below w.heap.size w W) : NoT W q := by
  rcases h with rfl | ⟨b, rfl, c⟩
  · exact .inl rfl
  · exact .inr ⟨b, rfl, (k.cell (p := ⟨b, 448, .none⟩) (lt_cell c)).trans c⟩
section
variable {w : World} {q : Option Addr}
theorem isMade_no (h : NoT w q) : Calls Try.prog 30 #[.pointer q] w fun e w' => e = .returned (.bool false) ∧ w' = w := by
  rcases h with rfl | ⟨b, rfl, c⟩
  · go_enter Try.func30, Try.ntmps30
    go_wp2
    go_ret
    exact ⟨rfl, rfl⟩
  · go_enter Try.func30, Try.ntmps30
    go_wp2
    go_ret
    exact ⟨rfl, rfl⟩
theorem get_nob (h : NoT w q) (s : Int) : Calls Try.prog 32 #[.pointer q, .int .i64 s] w fun e w' => e = .returned (.tuple #[.pointer none, .int .i64 3]) ∧ w' = w := by
  have k1 := isMade_no h
  clear h
  go_enter Try.func32, Try.ntmps32
  go_wp2_with fail
  refine k1.mono ?_
  rintro e w1 ⟨rfl, hw⟩
  obtain rfl : w = w1 := hw.symm
  go_wp2
  go_ret2
  exact ⟨rfl, rfl⟩
theorem add_nob (h : NoT w q) (s : Int) : Calls Try.prog 17 #[.pointer q, .int .i64 s] w fun e w' => e = .returned (.tuple #[.int .i64 (-1), .int .i64 (-1), .int .i64 3]) ∧ Below w.heap.size w w' := by
  have k1 := isMade_no h
  clear h
  go_enter Try.func17, Try.ntmps17
  go_wp2_with fail
  refine k1.mono ?_
  rintro e w1 ⟨rfl, hw⟩
  obtain rfl : w = w1 := hw.symm
  go_wp2
  go_ret3
  exact ⟨rfl, Below.refl _ _⟩
theorem pick_nob (h : NoT w q) (s : Int) : Calls Try.prog 16 #[.pointer q, .int .i64 s] w fun e w' => e = .returned (.tuple #[.int .i64 (-1), .bool false]) ∧ Below w.heap.size w w' := by
  have k1 := isMade_no h
  clear h
  go_enter Try.func16, Try.ntmps16
  go_wp2_with fail
  refine k1.mono ?_
  rintro e w1 ⟨rfl, hw⟩
  obtain rfl : w = w1 := hw.symm
  go_wp2
  go_ret2
  exact ⟨rfl, Below.refl _ _⟩
theorem end_nob (h : NoT w q) (s t : Int) : Calls Try.prog 18 #[.pointer q, .int .i64 s, .int .i32 t] w fun e w' => e = .returned (.tuple #[.bool false, .int .i64 3]) ∧ Below w.heap.size w w' := by
  have k1 := get_nob h s
  clear h
  go_enter Try.func18, Try.ntmps18
  go_wp2_with fail
  refine k1.mono ?_
  rintro e w1 ⟨rfl, hw⟩
  obtain rfl : w = w1 := hw.symm
  go_wp2
  go_ret2
  exact ⟨rfl, Below.refl _ _⟩
theorem sleep_nob (h : NoT w q) (s k m : Int) : Calls Try.prog 20 #[.pointer q, .int .i64 s, .agg #[.int .i64 k, .int .i64 m]] w fun e w' => e = .returned (.int .i64 3) ∧ Below w.heap.size w w' := by
  have k1 := get_nob (w := (w.alloc (.cells #[.int .i64 k, .int .i64 m] 26))) (h.bel (below1 _ _)) s
  clear h
  go_enter Try.func20, Try.ntmps20
  go_wp2_with fail
  refine k1.mono ?_
  rintro e w1 ⟨rfl, hw⟩
  subst hw
  go_wp2
  go_ret
  exact ⟨rfl, below1 _ _⟩
theorem wake_nob (h : NoT w q) (k m : Int) : Calls Try.prog 14 #[.pointer q, .agg #[.int .i64 k, .int .i64 m]] w fun e w' => e = .returned (.int .i64 0) ∧ Below w.heap.size w w' := by
  have k1 := isMade_no (w := (w.alloc (.cells #[.int .i64 k, .int .i64 m] 26))) (h.bel (below1 _ _))
  clear h
  go_enter Try.func14, Try.ntmps14
  go_wp2_with fail
  refine k1.mono ?_
  rintro e w1 ⟨rfl, hw⟩
  subst hw
  go_wp2
  go_ret
  exact ⟨rfl, below1 _ _⟩
theorem wakeOne_nob (h : NoT w q) (s : Int) : Calls Try.prog 21 #[.pointer q, .int .i64 s] w fun e w' => e = .returned (.int .i64 3) ∧ Below w.heap.size w w' := by
  have k1 := get_nob h s
  clear h
  go_enter Try.func21, Try.ntmps21
  go_wp2_with fail
  refine k1.mono ?_
  rintro e w1 ⟨rfl, hw⟩
  obtain rfl : w = w1 := hw.symm
  go_wp2
  go_ret
  exact ⟨rfl, Below.refl _ _⟩
theorem kill_nob (h : NoT w q) (s : Int) : Calls Try.prog 22 #[.pointer q, .int .i64 s] w fun e w' => e = .returned (.int .i64 3) ∧ Below w.heap.size w w' := by
  have k1 := isMade_no (w := (w.alloc (.cells #[.int .i64 s] 3))) (h.bel (below1 _ _))
  clear h
  go_enter Try.func22, Try.ntmps22
  go_wp2_with fail
  refine k1.mono ?_
  rintro e w1 ⟨rfl, hw⟩
  subst hw
  go_wp2
  go_ret
  exact ⟨rfl, below1 _ _⟩
theorem free_nob (h : NoT w q) (s : Int) : Calls Try.prog 23 #[.pointer q, .int .i64 s] w fun e w' => e = .returned (.int .i64 3) ∧ Below w.heap.size w w' := by
  have k1 := get_nob h s
  clear h
  go_enter Try.func23, Try.ntmps23
  go_wp2_with fail
  refine k1.mono ?_
  rintro e w1 ⟨rfl, hw⟩
  obtain rfl : w = w1 := hw.symm
  go_wp2
  go_ret
  exact ⟨rfl, Below.refl _ _⟩
theorem room_nob (h : NoT w q) : Calls Try.prog 24 #[.pointer q] w fun e w' => e = .returned (.bool false) ∧ Below w.heap.size w w' := by
  have k1 := isMade_no h
  clear h
  go_enter Try.func24, Try.ntmps24
  go_wp2_with fail
  refine k1.mono ?_
  rintro e w1 ⟨rfl, hw⟩
  obtain rfl : w = w1 := hw.symm
  go_wp2
  go_ret
  exact ⟨rfl, Below.refl _ _⟩
theorem zombie_nob (h : NoT w q) (s : Int) : Calls Try.prog 19 #[.pointer q, .int .i64 s] w fun e w' => e = .returned (.tuple #[.int .i64 (-1), .bool false]) ∧ Below w.heap.size w w' := by
  have HB1 : Below w.heap.size w (w.alloc (.cells #[.int .i64 0] 3)) := below1 _ _
  have HB2 : Hid (Below w.heap.size w ((w.alloc (.cells #[.int .i64 0] 3)).alloc (.cells #[.bool false] 4))) := HB1.trans ((below1 _ _).mono HB1.size)
  have k1 := isMade_no (h.bel HB2.out)
  have x1 : ((w.alloc (.cells #[.int .i64 0] 3)).alloc (.cells #[.bool false] 4)).cell? ⟨w.heap.size + 1, 0, .none⟩ = some (.bool false) := by rw [World.cell?_alloc_at _ _ _ _ (by simp)]; rfl
  have x2 : ((w.alloc (.cells #[.int .i64 0] 3)).alloc (.cells #[.bool false] 4)).frozen? ⟨w.heap.size + 1, 0, .none⟩ = false := by simp
  have x3 : ((w.alloc (.cells #[.int .i64 0] 3)).alloc (.cells #[.bool false] 4)).cell? ⟨w.heap.size, 0, .none⟩ = some (.int .i64 0) := by rw [World.cell?_alloc_past _ _ _ (by simp), World.cell?_alloc_at _ _ _ _ rfl]; rfl
  have x4 : ((w.alloc (.cells #[.int .i64 0] 3)).alloc (.cells #[.bool false] 4)).frozen? ⟨w.heap.size, 0, .none⟩ = false := by rw [World.frozen?_alloc_past _ _ _ (by simp)]; exact World.frozen?_alloc_new _ _ _ _
  clear h HB1
  have hne : w.heap.size ≠ w.heap.size + 1 := by omega
  have hne2 : w.heap.size + 1 ≠ w.heap.size := by omega
  go_enter Try.func19, Try.ntmps19
  go_wp2_with fail
  refine k1.mono ?_
  rintro e w1 ⟨rfl, hw⟩
  subst hw
  clear k1
  generalize (w.alloc (.cells #[.int .i64 0] 3)).alloc (.cells #[.bool false] 4) = w1 at *
  go_wp2
  refine bodyPost_ret (v := .tuple #[.int .i64 (-1), .bool false]) (results_cell2 rfl _ _ ⟨w.heap.size, 0, .none⟩ ⟨w.heap.size + 1, 0, .none⟩ _ _ rfl rfl (by go_simp) (by go_simp)) rfl ⟨rfl, ?_⟩
  exact (HB2.out.setCell (p := ⟨w.heap.size, 0, .none⟩) (Nat.le_refl _) _).setCell (p := ⟨w.heap.size + 1, 0, .none⟩) (show w.heap.size ≤ w.heap.size + 1 by omega) _
theorem look_nob (h : NoT w q) (s : Int) : Calls Try.prog 15 #[.pointer q, .int .i64 s] w fun e w' => e = .returned (.agg zP.l.toArray) ∧ Below w.heap.size w w' := by
  have HB : Hid (Below w.heap.size w (w.alloc (.cells #[.int .i64 0, .int .i64 0, .int .i64 0, .int .i64 0, .int .i64 0, .bool false, .int .i32 0] 28))) := below1 _ _
  have hR : (w.alloc (.cells #[.int .i64 0, .int .i64 0, .int .i64 0, .int .i64 0, .int .i64 0, .bool false, .int .i32 0] 28)).rangeAt w.heap.size 0 zP.l := fun j v hj => by
    rw [World.cell?_alloc_at _ _ _ _ (by rfl)]; simpa [zP, Pr.l] using hj
  have hH : (w.alloc (.cells #[.int .i64 0, .int .i64 0, .int .i64 0, .int .i64 0, .int .i64 0, .bool false, .int .i32 0] 28)).there w.heap.size 0 7 := fun j hj => by
    refine ⟨?_, World.frozen?_alloc_new _ _ _ _⟩
    rw [World.cell?_alloc_at _ _ _ _ (by rfl)]
    simp [hj]
  have k1 := get_nob (h.bel HB.out) s
  clear h
  go_enter Try.func15, Try.ntmps15
  go_wp2_with fail
  refine k1.mono ?_
  rintro e w1 ⟨rfl, hw⟩
  subst hw
  clear k1
  generalize (w.alloc (.cells #[.int .i64 0, .int .i64 0, .int .i64 0, .int .i64 0, .int .i64 0, .bool false, .int .i32 0] 28)) = w1 at *
  have q0 := hR 0 _ rfl
  have q1 := hR 1 _ rfl
  have q2 := hR 2 _ rfl
  have q3 := hR 3 _ rfl
  have q4 := hR 4 _ rfl
  have q5 := hR 5 _ rfl
  have q6 := hR 6 _ rfl
  have f0 := (hH 0 (by omega)).2
  have f1 := (hH 1 (by omega)).2
  have f2 := (hH 2 (by omega)).2
  have f3 := (hH 3 (by omega)).2
  have f4 := (hH 4 (by omega)).2
  have f5 := (hH 5 (by omega)).2
  have f6 := (hH 6 (by omega)).2
  simp only [Nat.zero_add] at q0 q1 q2 q3 q4 q5 q6 f0 f1 f2 f3 f4 f5 f6
  have HH : Hid (w1.there w.heap.size 0 7) := hH
  clear hR hH
  go_wp2
  exact bodyPost_ret (v := .agg zP.l.toArray) (results_cell_any rfl _ _ ⟨w.heap.size, 0, .none⟩ _ rfl (look_end w1 w.heap.size zP HH.out)) rfl ⟨rfl, below_setCells HB.out w.heap.size (Nat.le_refl _) 0 zP.l⟩
section
variable {ops : Array Oper} {rest : List Oper} {o : Oper} {a : Act} {w : World} {Q : Exit → Act → World → Prop}
theorem wpl_wantG (hw : Region.wanted o (yielded ops a.tmps) = true) (h : ∀ K : Act → World → Prop, (∀ a' w', wpList Try.prog ops Q rest a' w' → K a' w') → o.wp Try.prog a w K Q) : wpList Try.prog ops Q (o :: rest) a w := by
  unfold wpList
  rw [if_pos hw]
  exact .inl (h _ (fun _ _ q => q))
theorem wpl_buildG (hw : Region.wanted o (yielded ops a.tmps) = true) (t : TypeId) (parts : Array (Nat × Operand)) (ho : o.op = .build t parts) (cells : Array Value) (hb : Try.prog.built t (parts.map fun (i, x) => (i, a.eval x)).toList = some cells)
    (h : wpList Try.prog ops Q rest (a.put o.dst (.agg cells)) w) : wpList Try.prog ops Q (o :: rest) a w := by
  refine wpl_wantG hw fun K hK => ?_
  unfold Oper.wp execOp
  simp only [ho, Sem.run_bind, run_build w t _ cells hb, Sem.run_pure, Result.andThen_ok]
  exact hK _ _ h
theorem wpl_neqG (hw : Region.wanted o (yielded ops a.tmps) = true) (t t2 : TypeId) (x y : Operand) (ho : o.op = .binOp .neq t x y t2) (u v : Value) (hx : a.eval x = u) (hy : a.eval y = v) (r : Bool) (hg : (eqGuard .neq t x y u v).run Try.prog w = .ok () w) (hr : (binOp .neq t u v).run Try.prog w = .ok (.bool r) w)
    (h : wpList Try.prog ops Q rest (a.put o.dst (.bool r)) w) : wpList Try.prog ops Q (o :: rest) a w := by
  refine wpl_wantG hw fun K hK => ?_
  unfold Oper.wp execOp
  simp only [ho, hx, hy, Sem.run_bind, hg, hr, Sem.run_pure, Result.andThen_ok]
  exact hK _ _ h
end
theorem built_zero : Try.prog.built 31 [] = some (tl zS 0).toArray := by kernel_rfl
theorem tb_state0 (w : World) : Tb (w.alloc (.cells (zT 0) 31)) w.heap.size zS 0 := tb_new w zS 0 _
section
attribute [local irreducible] sl tl zT
set_option maxHeartbeats 2000000 in
theorem state_nob (h : NoT w q) : Calls Try.prog 11 #[.pointer q] w fun e w' => e = .returned (.agg (tl zS 0).toArray) ∧ Below w.heap.size w w' := by
  have HB : Hid (Below w.heap.size w (w.alloc (.cells (zT 0) 31))) := below1 _ _
  have HN : Hid (Tb (w.alloc (.cells (zT 0) 31)) w.heap.size zS 0) := tb_state0 w
  have k1 := isMade_no (h.bel HB.out)
  clear h
  go_enter Try.func11, Try.ntmps11
  go_upto_region 0 with fail
  refine wp_region_lit ?_
  refine Great.wpList_allocTo rfl _ rfl _ _ (alloc_state _ _ rfl w) ?_
  simp only [Act.put, List.setIfInBounds_toArray, List.set_cons_zero, List.set_cons_succ]
  generalize hx : w.heap.size = x at *
  have HXX : Hid (w.heap.size = x) := hx
  clear hx
  generalize w.alloc (.cells (zT 0) 31) = w1 at *
  go_wp2_with fail
  refine k1.mono ?_
  rintro e w2 ⟨rfl, hw⟩
  obtain rfl : w1 = w2 := hw.symm
  clear k1
  go_upto_region 2 with fail
  refine wp_region_lit ?_
  refine wpl_buildG rfl 31 #[] rfl (tl zS 0).toArray (by simpa using built_zero) ?_
  simp only [Act.put, List.setIfInBounds_toArray, List.set_cons_zero, List.set_cons_succ]
  refine wpList_store_mid rfl 31 (.tmp 2) (.tmp 6) rfl x 0 (tl zS 0).toArray rfl rfl (by have := HN.out.th; rw [← tl_len zS 0] at this; exact this) (by rw [List.size_toArray, tl_len]; exact info_tab) (all_oneCell_toArray (tl_one zS 0)) ?_
  simp only [Act.put]
  have HF : Hid (Tb (w1.setCells x 0 (tl zS 0)) x zS 0 ∧ Below x w (w1.setCells x 0 (tl zS 0))) := ⟨HN.out.setCells zS 0, below_setCells HB.out _ (Nat.le_refl _) _ _⟩
  generalize w1.setCells x 0 (tl zS 0) = w5 at *
  go_wp2
  refine bodyPost_ret (v := .agg (tl zS 0).toArray) (results_cell_any rfl _ _ ⟨x, 0, .none⟩ _ rfl ?_) rfl ⟨rfl, by rw [HXX.out]; exact HF.out.2⟩
  exact run_loadVar_mid w5 x 0 31 (tl zS 0) _ HF.out.1.rg Try.underlying31 rfl (by rw [tl_len]; exact info_tab)
end
end
end Go.Proofs.Ytnlbomggadflmaa
