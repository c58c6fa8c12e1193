import Derived.Test.YtcjkedgoinbofaaGreatHNo
import Derived.LoopN
namespace Go.Proofs.YtcjkedgoinbofaaGreat
open Go.RowKit
set_option linter.unusedVariables false
set_option linter.unusedSimpArgs false
theorem wpList_read {P : Program} {ops : Array Oper} {rest : List Oper} {o : Oper} {a : Act} {w : World} {Q : Exit → Act → World → Prop} (hg : o.guard = .none) (v : Value) (hrun : (execOp a.eval o).run P w = .ok (.value v) w)
    (h : wpList P ops Q rest (a.put o.dst v) w) : wpList P ops Q (o :: rest) a w := wpList_plain hg fun K hK => by
  unfold Oper.wp
  rw [hrun, Oper.upon_value]
  exact hK _ _ h
theorem wpList_new {P : Program} {ops : Array Oper} {rest : List Oper} {o : Oper} {a : Act} {w : World} {Q : Exit → Act → World → Prop} (hg : o.guard = .none) (v : Value) (ob : Obj) (hrun : (execOp a.eval o).run P w = .ok (.value v) (w.alloc ob))
    (h : wpList P ops Q rest (a.put o.dst v) (w.alloc ob)) : wpList P ops Q (o :: rest) a w := wpList_plain hg fun K hK => by
  unfold Oper.wp
  rw [hrun, Oper.upon_value]
  exact hK _ _ h
/-- One register (32: Pc) turned. -/
def upd (X : Nat → Int) (i : Nat) (v : Int) : Nat → Int := fun j => if j = i then v else X j
theorem rl_upd (X : Nat → Int) (i : Nat) (v : Int) : rl (upd X i v) = (rl X).set i (.int .u64 v) := by
  apply List.ext_getElem?
  intro j
  by_cases hj : j < 33
  · rw [rl_get _ _ hj]
    by_cases e : i = j
    · subst e
      rw [List.getElem?_set_self (by rw [rl_len]; omega)]
      simp [upd]
    · rw [List.getElem?_set_ne e, rl_get _ _ hj]
      simp [upd, fun x => e (Eq.symm x)]
      intro x
      exact absurd x.symm e
  · rw [List.getElem?_eq_none (by rw [rl_len]; omega), List.getElem?_eq_none (by rw [List.length_set, rl_len]; omega)]
theorem range_upd {W : World} {k : Nat} {X : Nat → Int} (h : W.rangeAt k 0 (rl X)) (i : Nat) (hi : i < 33) (x : Int) : (W.setCell ⟨k, i, .none⟩ (.int .u64 x)).rangeAt k 0 (rl (upd X i x)) := by
  intro j v hj
  rw [rl_upd] at hj
  simp only [Nat.zero_add]
  by_cases e : i = j
  · subst e
    rw [List.getElem?_set_self (by rw [rl_len]; omega)] at hj
    cases hj
    exact World.cell?_setCell_same' _ _ _ (by rw [range_at h i _ (rl_get X i hi)]; rfl)
  · rw [List.getElem?_set_ne e] at hj
    rw [World.cell?_setCell_other _ _ _ _ (by simp [e])]
    exact range_at h j v hj
theorem range_set_other {W : World} {k : Nat} {cs : List Value} (h : W.rangeAt k 0 cs) (a : Addr) (ha : a.block ≠ k) (v : Value) : (W.setCell a v).rangeAt k 0 cs := fun j u hj => by
  rw [World.cell?_setCell_other _ _ _ _ (fun e => ha (by rw [e]))]
  exact h j u hj
/-- Registers that are all 0, but for Pc. -/
def gp (pc : Int) : Nat → Int := fun i => if i = 32 then pc else 0
/-- Registers in a block. -/
structure Rg (W : World) (k : Nat) (X : Nat → Int) : Prop where
  r : W.rangeAt k 0 (rl X)
  t : W.there k 0 33
theorem Rg.lt {W : World} {k : Nat} {X : Nat → Int} (h : Rg W k X) : k < W.heap.size := lt_of_cell (range_at h.r 0 _ (rl_get X 0 (by omega)))
theorem Rg.upto {W W' : World} {k B : Nat} {X : Nat → Int} (h : Rg W k X) (hk : k < B) (b : Below B W W') : Rg W' k X := ⟨range_below h.r hk b, there_below h.t hk b⟩
theorem Rg.below {W W' : World} {k : Nat} {X : Nat → Int} (h : Rg W k X) (b : Below W.heap.size W W') : Rg W' k X := h.upto h.lt b
theorem Rg.upd {W : World} {k : Nat} {X : Nat → Int} (h : Rg W k X) (i : Nat) (hi : i < 33) (x : Int) : Rg (W.setCell ⟨k, i, .none⟩ (.int .u64 x)) k (upd X i x) := ⟨range_upd h.r i hi x, there_setCell h.t _ _⟩
theorem Rg.other {W : World} {k : Nat} {X : Nat → Int} (h : Rg W k X) (a : Addr) (ha : a.block ≠ k) (v : Value) : Rg (W.setCell a v) k X := ⟨range_set_other h.r a ha v, there_setCell h.t _ _⟩
theorem Rg.cell {W : World} {k : Nat} {X : Nat → Int} (h : Rg W k X) (i : Nat) (hi : i < 33) : W.cell? ⟨k, i, .none⟩ = some (.int .u64 (X i)) := range_at h.r i _ (rl_get X i hi)
theorem Rg.free {W : World} {k : Nat} {X : Nat → Int} (h : Rg W k X) (i : Nat) (hi : i < 33) : W.frozen? ⟨k, i, .none⟩ = false := by
  have := (h.t i hi).2
  rwa [Nat.zero_add] at this
theorem Rg.make {W : World} {k : Nat} (t : W.there k 0 33) (X : Nat → Int) : Rg (W.setCells k 0 (rl X)) k X := ⟨World.rangeAt_setCells_same _ _ _ _ t, World.there_setCells t _ _ _⟩
theorem Rg.apart {W : World} {k k' : Nat} {X : Nat → Int} (h : Rg W k X) (o : Nat) (vs : List Value) (hk : k ≠ k') : Rg (W.setCells k' o vs) k X := ⟨World.rangeAt_setCells_apart h.r _ _ _ (.inl hk), World.there_setCells h.t _ _ _⟩
theorem fin13 {W V : World} {A T : Nat} (hV : Below W.heap.size W V) (tA : V.there A 0 33) (tT : V.there T 0 3) (hA : W.heap.size ≤ A) (hT : W.heap.size ≤ T) (hne : A ≠ T) (Y : Nat → Int) (c x : Int) :
    Rg ((V.setCells A 0 (rl Y)).setCells T 0 [.bool true, .int .u64 c, .int .u64 x]) A Y ∧ ((V.setCells A 0 (rl Y)).setCells T 0 [.bool true, .int .u64 c, .int .u64 x]).rangeAt T 0 [.bool true, .int .u64 c, .int .u64 x] ∧ Below W.heap.size W ((V.setCells A 0 (rl Y)).setCells T 0 [.bool true, .int .u64 c, .int .u64 x]) :=
  ⟨(Rg.make tA Y).apart _ _ hne, World.rangeAt_setCells_same _ _ _ _ (World.there_setCells tT _ _ _), below_setCells (below_setCells hV _ hA _ _) _ hT _ _⟩
section
attribute [local go_sem] guard_regs guard_trap
set_option maxHeartbeats 4000000 in
set_option maxRecDepth 100000 in
theorem nobody_walk (pc root x : Int) (w : World) (hp : 0 ≤ pc ∧ pc < 18446744073709551616) (hr : 0 ≤ root ∧ root < 18446744073709551616) (hx : 0 ≤ x ∧ x < 18446744073709551616) : Calls Tryz.prog 3 #[.int .u64 pc, .int .u64 root, .int .u64 x] w fun e w' => e = .returned (.bool true) ∧ Below w.heap.size w w' := by
  go_enter Tryz.func3, Tryz.ntmps3
  go_upto_region 1 with fail
  refine wp_region_lit ?_
  refine wpList_read rfl (.int .u64 pc) (by kernel_rfl) ?_
  refine wpList_read rfl (.agg (rl (gp pc)).toArray) (by kernel_rfl) ?_
  refine wpList_new rfl (.pointer (some ⟨w.heap.size, 0, .none⟩)) (.cells #[.int .u64 0, .int .u64 0, .int .u64 0, .int .u64 0, .int .u64 0, .int .u64 0, .int .u64 0, .int .u64 0, .int .u64 0, .int .u64 0, .int .u64 0, .int .u64 0, .int .u64 0, .int .u64 0, .int .u64 0, .int .u64 0, .int .u64 0, .int .u64 0, .int .u64 0, .int .u64 0, .int .u64 0, .int .u64 0, .int .u64 0, .int .u64 0, .int .u64 0, .int .u64 0, .int .u64 0, .int .u64 0, .int .u64 0, .int .u64 0, .int .u64 0, .int .u64 0, .int .u64 0] 25) (by kernel_rfl) ?_
  refine wpList_store_mid rfl 25 (.tmp 7) (.tmp 17) rfl w.heap.size 0 (rl (gp pc)).toArray (by simp [Act.eval, Act.put]) (by simp [Act.eval, Act.put]) (there_new w #[.int .u64 0, .int .u64 0, .int .u64 0, .int .u64 0, .int .u64 0, .int .u64 0, .int .u64 0, .int .u64 0, .int .u64 0, .int .u64 0, .int .u64 0, .int .u64 0, .int .u64 0, .int .u64 0, .int .u64 0, .int .u64 0, .int .u64 0, .int .u64 0, .int .u64 0, .int .u64 0, .int .u64 0, .int .u64 0, .int .u64 0, .int .u64 0, .int .u64 0, .int .u64 0, .int .u64 0, .int .u64 0, .int .u64 0, .int .u64 0, .int .u64 0, .int .u64 0, .int .u64 0] 25) (by kernel_rfl) (rl_one _) ?_
  simp only [Act.put, List.setIfInBounds_toArray, List.set_cons_zero, List.set_cons_succ]
  have H1 : Hid (Rg _ w.heap.size (gp pc)) := Rg.make (there_new w #[.int .u64 0, .int .u64 0, .int .u64 0, .int .u64 0, .int .u64 0, .int .u64 0, .int .u64 0, .int .u64 0, .int .u64 0, .int .u64 0, .int .u64 0, .int .u64 0, .int .u64 0, .int .u64 0, .int .u64 0, .int .u64 0, .int .u64 0, .int .u64 0, .int .u64 0, .int .u64 0, .int .u64 0, .int .u64 0, .int .u64 0, .int .u64 0, .int .u64 0, .int .u64 0, .int .u64 0, .int .u64 0, .int .u64 0, .int .u64 0, .int .u64 0, .int .u64 0, .int .u64 0] 25) (gp pc)
  have HB1 : Hid (Below w.heap.size w ((w.alloc (.cells #[.int .u64 0, .int .u64 0, .int .u64 0, .int .u64 0, .int .u64 0, .int .u64 0, .int .u64 0, .int .u64 0, .int .u64 0, .int .u64 0, .int .u64 0, .int .u64 0, .int .u64 0, .int .u64 0, .int .u64 0, .int .u64 0, .int .u64 0, .int .u64 0, .int .u64 0, .int .u64 0, .int .u64 0, .int .u64 0, .int .u64 0, .int .u64 0, .int .u64 0, .int .u64 0, .int .u64 0, .int .u64 0, .int .u64 0, .int .u64 0, .int .u64 0, .int .u64 0, .int .u64 0] 25)).setCells w.heap.size 0 (rl (gp pc)))) := below_setCells (below1 w _) _ (Nat.le_refl _) _ _
  generalize (w.alloc (.cells #[.int .u64 0, .int .u64 0, .int .u64 0, .int .u64 0, .int .u64 0, .int .u64 0, .int .u64 0, .int .u64 0, .int .u64 0, .int .u64 0, .int .u64 0, .int .u64 0, .int .u64 0, .int .u64 0, .int .u64 0, .int .u64 0, .int .u64 0, .int .u64 0, .int .u64 0, .int .u64 0, .int .u64 0, .int .u64 0, .int .u64 0, .int .u64 0, .int .u64 0, .int .u64 0, .int .u64 0, .int .u64 0, .int .u64 0, .int .u64 0, .int .u64 0, .int .u64 0, .int .u64 0] 25)).setCells w.heap.size 0 (rl (gp pc)) = A1 at *
  have c5 := H1.out.cell 5 (by omega)
  have f5 := H1.out.free 5 (by omega)
  go_upto_region 3 with fail
  have H2 : Hid (Rg _ w.heap.size (upd (gp pc) 5 x)) := H1.out.upd 5 (by omega) x
  have HB2 : Hid (Below w.heap.size w (A1.setCell ⟨w.heap.size, 5, .none⟩ (.int .u64 x))) := HB1.out.setCell (p := ⟨w.heap.size, 5, .none⟩) (Nat.le_refl _) _
  clear c5 f5 H1 HB1
  generalize A1.setCell ⟨w.heap.size, 5, .none⟩ (.int .u64 x) = A2 at *
  have c0 := H2.out.cell 0 (by omega)
  have f0 := H2.out.free 0 (by omega)
  go_upto_region 4 with fail
  have H3 : Hid (Rg _ w.heap.size (upd (upd (gp pc) 5 x) 0 x)) := H2.out.upd 0 (by omega) x
  have HB3 : Hid (Below w.heap.size w (A2.setCell ⟨w.heap.size, 0, .none⟩ (.int .u64 x))) := HB2.out.setCell (p := ⟨w.heap.size, 0, .none⟩) (Nat.le_refl _) _
  clear c0 f0 H2 HB2
  generalize A2.setCell ⟨w.heap.size, 0, .none⟩ (.int .u64 x) = A3 at *
  have HG : Hid (upd (upd (gp pc) 5 x) 0 x 32 = pc) := rfl
  generalize upd (upd (gp pc) 5 x) 0 x = G at *
  refine wp_region_lit ?_
  refine wpList_load_mid rfl 25 (.tmp 7) rfl w.heap.size 0 (by simp [Act.eval]) (rl G) _ H3.out.r Tryz.underlying25 rfl (by kernel_rfl) ?_
  refine wpList_new rfl (.pointer (some ⟨A3.heap.size, 0, .none⟩)) (.cells #[.int .u64 0, .int .u64 0, .int .u64 0, .int .u64 0, .int .u64 0, .int .u64 0, .int .u64 0, .int .u64 0, .int .u64 0, .int .u64 0, .int .u64 0, .int .u64 0, .int .u64 0, .int .u64 0, .int .u64 0, .int .u64 0, .int .u64 0, .int .u64 0, .int .u64 0, .int .u64 0, .int .u64 0, .int .u64 0, .int .u64 0, .int .u64 0, .int .u64 0, .int .u64 0, .int .u64 0, .int .u64 0, .int .u64 0, .int .u64 0, .int .u64 0, .int .u64 0, .int .u64 0] 25) (by kernel_rfl) ?_
  refine wpList_store_mid rfl 25 (.tmp 8) (.tmp 24) rfl A3.heap.size 0 (rl G).toArray (by simp [Act.eval, Act.put]) (by simp [Act.eval, Act.put]) (there_new A3 #[.int .u64 0, .int .u64 0, .int .u64 0, .int .u64 0, .int .u64 0, .int .u64 0, .int .u64 0, .int .u64 0, .int .u64 0, .int .u64 0, .int .u64 0, .int .u64 0, .int .u64 0, .int .u64 0, .int .u64 0, .int .u64 0, .int .u64 0, .int .u64 0, .int .u64 0, .int .u64 0, .int .u64 0, .int .u64 0, .int .u64 0, .int .u64 0, .int .u64 0, .int .u64 0, .int .u64 0, .int .u64 0, .int .u64 0, .int .u64 0, .int .u64 0, .int .u64 0, .int .u64 0] 25) (by kernel_rfl) (rl_one _) ?_
  simp only [Act.put, List.setIfInBounds_toArray, List.set_cons_zero, List.set_cons_succ]
  have hk1 := H3.out.lt
  have H4 : Hid (Rg ((A3.alloc (.cells #[.int .u64 0, .int .u64 0, .int .u64 0, .int .u64 0, .int .u64 0, .int .u64 0, .int .u64 0, .int .u64 0, .int .u64 0, .int .u64 0, .int .u64 0, .int .u64 0, .int .u64 0, .int .u64 0, .int .u64 0, .int .u64 0, .int .u64 0, .int .u64 0, .int .u64 0, .int .u64 0, .int .u64 0, .int .u64 0, .int .u64 0, .int .u64 0, .int .u64 0, .int .u64 0, .int .u64 0, .int .u64 0, .int .u64 0, .int .u64 0, .int .u64 0, .int .u64 0, .int .u64 0] 25)).setCells A3.heap.size 0 (rl G)) w.heap.size G) := (H3.out.below (below1 A3 _)).apart _ _ (Nat.ne_of_lt hk1)
  have tZ : (A3.alloc (.cells #[.int .u64 0, .int .u64 0, .int .u64 0, .int .u64 0, .int .u64 0, .int .u64 0, .int .u64 0, .int .u64 0, .int .u64 0, .int .u64 0, .int .u64 0, .int .u64 0, .int .u64 0, .int .u64 0, .int .u64 0, .int .u64 0, .int .u64 0, .int .u64 0, .int .u64 0, .int .u64 0, .int .u64 0, .int .u64 0, .int .u64 0, .int .u64 0, .int .u64 0, .int .u64 0, .int .u64 0, .int .u64 0, .int .u64 0, .int .u64 0, .int .u64 0, .int .u64 0, .int .u64 0] 25)).there A3.heap.size 0 33 := there_new A3 #[.int .u64 0, .int .u64 0, .int .u64 0, .int .u64 0, .int .u64 0, .int .u64 0, .int .u64 0, .int .u64 0, .int .u64 0, .int .u64 0, .int .u64 0, .int .u64 0, .int .u64 0, .int .u64 0, .int .u64 0, .int .u64 0, .int .u64 0, .int .u64 0, .int .u64 0, .int .u64 0, .int .u64 0, .int .u64 0, .int .u64 0, .int .u64 0, .int .u64 0, .int .u64 0, .int .u64 0, .int .u64 0, .int .u64 0, .int .u64 0, .int .u64 0, .int .u64 0, .int .u64 0] 25
  have H4w0 := Rg.make tZ G
  have H4w : Hid (Rg ((A3.alloc (.cells #[.int .u64 0, .int .u64 0, .int .u64 0, .int .u64 0, .int .u64 0, .int .u64 0, .int .u64 0, .int .u64 0, .int .u64 0, .int .u64 0, .int .u64 0, .int .u64 0, .int .u64 0, .int .u64 0, .int .u64 0, .int .u64 0, .int .u64 0, .int .u64 0, .int .u64 0, .int .u64 0, .int .u64 0, .int .u64 0, .int .u64 0, .int .u64 0, .int .u64 0, .int .u64 0, .int .u64 0, .int .u64 0, .int .u64 0, .int .u64 0, .int .u64 0, .int .u64 0, .int .u64 0] 25)).setCells A3.heap.size 0 (rl G)) A3.heap.size G) := H4w0
  have HB4 : Hid (Below w.heap.size w ((A3.alloc (.cells #[.int .u64 0, .int .u64 0, .int .u64 0, .int .u64 0, .int .u64 0, .int .u64 0, .int .u64 0, .int .u64 0, .int .u64 0, .int .u64 0, .int .u64 0, .int .u64 0, .int .u64 0, .int .u64 0, .int .u64 0, .int .u64 0, .int .u64 0, .int .u64 0, .int .u64 0, .int .u64 0, .int .u64 0, .int .u64 0, .int .u64 0, .int .u64 0, .int .u64 0, .int .u64 0, .int .u64 0, .int .u64 0, .int .u64 0, .int .u64 0, .int .u64 0, .int .u64 0, .int .u64 0] 25)).setCells A3.heap.size 0 (rl G))) := below_setCells (HB3.out.trans ((below1 A3 _).mono HB3.out.size)) _ HB3.out.size _ _
  clear H3 HB3 tZ H4w0
  generalize (A3.alloc (.cells #[.int .u64 0, .int .u64 0, .int .u64 0, .int .u64 0, .int .u64 0, .int .u64 0, .int .u64 0, .int .u64 0, .int .u64 0, .int .u64 0, .int .u64 0, .int .u64 0, .int .u64 0, .int .u64 0, .int .u64 0, .int .u64 0, .int .u64 0, .int .u64 0, .int .u64 0, .int .u64 0, .int .u64 0, .int .u64 0, .int .u64 0, .int .u64 0, .int .u64 0, .int .u64 0, .int .u64 0, .int .u64 0, .int .u64 0, .int .u64 0, .int .u64 0, .int .u64 0, .int .u64 0] 25)).setCells A3.heap.size 0 (rl G) = A4 at *
  generalize A3.heap.size = k1 at *
  have c0 := H4w.out.cell 0 (by omega)
  have f0 := H4w.out.free 0 (by omega)
  go_upto_region 6 with fail
  have H5 : Hid (Rg (A4.setCell ⟨k1, 0, .none⟩ (.int .u64 0)) w.heap.size G) := H4.out.other _ (by show k1 ≠ _; omega) _
  have H5w : Hid (Rg (A4.setCell ⟨k1, 0, .none⟩ (.int .u64 0)) k1 (upd G 0 0)) := H4w.out.upd 0 (by omega) 0
  have HB5 : Hid (Below w.heap.size w (A4.setCell ⟨k1, 0, .none⟩ (.int .u64 0))) := HB4.out.setCell (p := ⟨k1, 0, .none⟩) (by show _ ≤ k1; omega) _
  clear c0 f0 H4 H4w HB4
  generalize A4.setCell ⟨k1, 0, .none⟩ (.int .u64 0) = A5 at *
  have c8 : Calls Tryz.prog 8 #[.int .i64 4] A5 fun e w' => NewP A5 4 e w' := new_any 4 (by omega) (by omega) A5
  have hE : Hid (upd G 0 0 = z0 G) := rfl
  go_upto_region 7 with (go_at_call 8; refine c8.mono ?_; rintro e A6 ⟨p, b, m, lp, lb, lm, rfl, R6, B6⟩)
  have HR6 : Hid (Ram A6 p b m 4 (newB (4 - 1)) (down (4 - 1))) := R6
  have H6 : Hid (Rg A6 w.heap.size G) := H5.out.below B6
  have H6w : Hid (Rg A6 k1 (z0 G)) := by have := H5w.out.below B6; rw [hE.out] at this; exact this
  have HB6 : Hid (Below w.heap.size w A6) := HB5.out.trans (B6.mono HB5.out.size)
  clear R6 B6 H5 H5w HB5 c8 hE lp lb lm
  go_upto_region 10 with fail
  have h9 := below2 A6 (.cells #[.slice .none 0 0, .int .u64 0, .map .none] 34) (.cells #[.pointer .none, .pointer (some ⟨A6.heap.size, 0, .none⟩), .pointer (some ⟨p, 0, .none⟩)] 26)
  have H9 : Hid (Rg _ w.heap.size G) := H6.out.below h9
  have H9w : Hid (Rg _ k1 (z0 G)) := H6w.out.below h9
  have HB9 : Hid (Below w.heap.size w _) := HB6.out.trans (h9.mono HB6.out.size)
  have l0 : ((A6.alloc (.cells #[.slice .none 0 0, .int .u64 0, .map .none] 34)).alloc (.cells #[.pointer .none, .pointer (some ⟨A6.heap.size, 0, .none⟩), .pointer (some ⟨p, 0, .none⟩)] 26)).cell? ⟨A6.heap.size + 1, 0, .none⟩ = some (.pointer .none) := by
    rw [World.cell?_alloc_at _ _ _ _ (by simp only [World.size_alloc])]; rfl
  have l1 : ((A6.alloc (.cells #[.slice .none 0 0, .int .u64 0, .map .none] 34)).alloc (.cells #[.pointer .none, .pointer (some ⟨A6.heap.size, 0, .none⟩), .pointer (some ⟨p, 0, .none⟩)] 26)).cell? ⟨A6.heap.size + 1, 1, .none⟩ = some (.pointer (some ⟨A6.heap.size, 0, .none⟩)) := by
    rw [World.cell?_alloc_at _ _ _ _ (by simp only [World.size_alloc])]; rfl
  have l2 : ((A6.alloc (.cells #[.slice .none 0 0, .int .u64 0, .map .none] 34)).alloc (.cells #[.pointer .none, .pointer (some ⟨A6.heap.size, 0, .none⟩), .pointer (some ⟨p, 0, .none⟩)] 26)).cell? ⟨A6.heap.size + 1, 2, .none⟩ = some (.pointer (some ⟨p, 0, .none⟩)) := by
    rw [World.cell?_alloc_at _ _ _ _ (by simp only [World.size_alloc])]; rfl
  have e0 : ((A6.alloc (.cells #[.slice .none 0 0, .int .u64 0, .map .none] 34)).alloc (.cells #[.pointer .none, .pointer (some ⟨A6.heap.size, 0, .none⟩), .pointer (some ⟨p, 0, .none⟩)] 26)).cell? ⟨A6.heap.size, 0, .none⟩ = some (.slice .none 0 0) := by
    rw [World.cell?_alloc_past _ _ _ (by simp only [World.size_alloc]; omega), World.cell?_alloc_at _ _ _ _ rfl]; rfl
  have R9 := HR6.out.below h9
  clear h9 H6 H6w HB6 HR6
  generalize ((A6.alloc (.cells #[.slice .none 0 0, .int .u64 0, .map .none] 34)).alloc (.cells #[.pointer .none, .pointer (some ⟨A6.heap.size, 0, .none⟩), .pointer (some ⟨p, 0, .none⟩)] 26)) = W9 at *
  have LQ : Hid (∀ k : Nat, k < 3 → ∃ q, W9.cell? ⟨A6.heap.size + 1, k, .none⟩ = some (.pointer q) ∧ ∀ W, Below W9.heap.size W9 W → Tra W (.pointer q) root pc 1 0 false) := by
    intro k hk
    have e : k = 0 ∨ k = 1 ∨ k = 2 := by omega
    rcases e with rfl | rfl | rfl
    · exact ⟨_, l0, fun W hW => tra_unm (.inl rfl) root pc hp⟩
    · exact ⟨_, l1, fun W hW => tra_unm ((show Unm W9 _ from .inr ⟨_, rfl, lt_of_cell e0, e0⟩).below hW) root pc hp⟩
    · exact ⟨_, l2, fun W hW => tra_four (R9.below hW) root pc hr hp⟩
  clear l0 l1 l2 e0 R9
  generalize A6.heap.size + 1 = lb at *
  go_wp2
  go_loopw [12] (fun i W => ∃ k : Nat, k ≤ 3 ∧ i = .int .i64 k ∧ Below W9.heap.size W9 W) (fun i _ => 3 - (intOf i).toNat)
  case atStart => exact ⟨0, by omega, rfl, Below.refl _ _⟩
  case round =>
    obtain ⟨k, hk, rfl, hb⟩ := hrel
    by_cases hlt : k < 3
    · have i1 : (k : Int) < 3 := by omega
      obtain ⟨q, lq, tq⟩ := LQ.out k hlt
      have cs : Hid (∀ V, Below wr.heap.size wr V → Calls Tryz.prog 9 #[.pointer q, .int .u64 root, .agg (rl G).toArray] V fun e w' => e = .returned (.tuple #[.agg (rl (z0 G)).toArray, .agg #[.bool true, .int .u64 (if pc % 4 = 0 then 12 else 0), .int .u64 pc]]) ∧ Below V.heap.size V w') := fun V hV => by
        have := step_no q root G V (by rw [HG.out]; exact hp) 0 (by rw [HG.out]; exact tq V (hb.trans (hV.mono hb.size)))
        rw [HG.out] at this
        exact this
      have lw := (hb.cell (lt_of_cell lq)).trans lq
      have Hg : Hid (Rg wr w.heap.size G) := H9.out.below hb
      have Hw : Hid (Rg wr k1 (z0 G)) := H9w.out.below hb
      have HB : Hid (Below W9.heap.size W9 wr) := hb
      clear lq tq hb
      have HC : Hid ((if pc % 4 = 0 then (12 : Int) else 0) = (if pc % 4 = 0 then (12 : Int) else 0)) := rfl
      generalize hcc : (if pc % 4 = 0 then (12 : Int) else 0) = cc at cs
      have HCC : Hid ((if pc % 4 = 0 then (12 : Int) else 0) = cc) := hcc
      clear hcc HC
      go_upto_region 13 with fail
      go_cut [13, 14] (fun s13 s14 W => ∃ A T, s13 = .pointer (some ⟨A, 0, .none⟩) ∧ s14 = .pointer (some ⟨T, 0, .none⟩) ∧ Rg W A (z0 G) ∧ W.rangeAt T 0 [.bool true, .int .u64 cc, .int .u64 pc] ∧ Below wr.heap.size wr W)
      case first =>
        refine wp_region_noPanic ?_
        refine wp_region_held_drew (S := (fun V => Below wr.heap.size wr V)) (by kernel_rfl) (blw_drewN _ _ 1) (fun hHeld => ?_)
        refine wpAnyH_take (i := 0) (v := (.slice (some ⟨lb, 0, .none⟩) 3 3)) rfl (by kernel_rfl) (by kernel_rfl) (by kernel_rfl) (fun _ _ _ h => h) (Or.inl ⟨by rfl, fun ww hSw => by clear hSw; go_simp⟩) (by assumption) ?_
        simp only [Act.put, List.setIfInBounds_toArray, List.set_cons_zero, List.set_cons_succ, List.getElem_toArray, List.getElem_cons_succ, List.getElem_cons_zero]
        refine wpAnyH_take (i := 1) (v := (.int .i64 k)) rfl (by kernel_rfl) (by kernel_rfl) (by kernel_rfl) (fun _ _ _ h => h) (Or.inl ⟨by rfl, fun ww hSw => by clear hSw; go_simp⟩) (by assumption) ?_
        simp only [Act.put, List.setIfInBounds_toArray, List.set_cons_zero, List.set_cons_succ, List.getElem_toArray, List.getElem_cons_succ, List.getElem_cons_zero]
        refine wpAnyH_take (i := 2) (v := (.pointer (some ⟨lb, k, .none⟩))) rfl (by kernel_rfl) (by kernel_rfl) (by kernel_rfl) (fun _ _ _ h => h) (Or.inl ⟨by rfl, fun ww hSw => by clear hSw; go_simp⟩) (by assumption) ?_
        simp only [Act.put, List.setIfInBounds_toArray, List.set_cons_zero, List.set_cons_succ, List.getElem_toArray, List.getElem_cons_succ, List.getElem_cons_zero]
        refine wpAnyH_take (i := 3) (v := (.pointer q)) rfl (by kernel_rfl) (by kernel_rfl) (by kernel_rfl) (fun _ _ _ h => h) (Or.inl ⟨by rfl, fun ww hSw => by have hq := (hSw.cell (lt_of_cell lw)).trans lw; clear hSw; go_simp⟩) (by assumption) ?_
        simp only [Act.put, List.setIfInBounds_toArray, List.set_cons_zero, List.set_cons_succ, List.getElem_toArray, List.getElem_cons_succ, List.getElem_cons_zero]
        refine wpAnyH_take (i := 4) (v := (.int .u64 root)) rfl (by kernel_rfl) (by kernel_rfl) (by kernel_rfl) (fun _ _ _ h => h) (Or.inl ⟨by rfl, fun ww hSw => by clear hSw; go_simp⟩) (by assumption) ?_
        simp only [Act.put, List.setIfInBounds_toArray, List.set_cons_zero, List.set_cons_succ, List.getElem_toArray, List.getElem_cons_succ, List.getElem_cons_zero]
        refine wpAnyH_take (i := 5) (v := (.agg (rl G).toArray)) rfl (by kernel_rfl) (by kernel_rfl) (by kernel_rfl) (fun _ _ _ h => h) (yieldsIf_load_mid (by rfl) 25 (.tmp 7) rfl w.heap.size 0 (by simp [Act.eval]) (rl G) _ (fun _ h => range_below Hg.out.r Hg.out.lt h) Tryz.underlying25 rfl (by kernel_rfl)) (by assumption) ?_
        simp only [Act.put, List.setIfInBounds_toArray, List.set_cons_zero, List.set_cons_succ, List.getElem_toArray, List.getElem_cons_succ, List.getElem_cons_zero]
        have hV0 : Below wr.heap.size wr wr.drew := blw_drewN _ _ 1
        generalize wr.drew = V0 at *
        refine wpAnyH_ready (rs := [6, 10, 11]) (by kernel_rfl) (by simp) ?_
        refine AllReadyH.cons rfl (fun K hK => ?_) ?_
        · go_simp
          go_at_call 9
          refine (cs.out V0 hV0).mono ?_
          rintro e V1 ⟨rfl, hb1⟩
          have hV1 := hV0.trans (hb1.mono hV0.size)
          refine hK.out _ _ hV1 (fun hHeld => ?_)
          clear hK K
          try simp only [Act.put, List.setIfInBounds_toArray, List.set_cons_zero, List.set_cons_succ, List.getElem_toArray, List.getElem_cons_succ, List.getElem_cons_zero]
          refine wpAnyH_take (i := 7) (v := (.tuple #[.agg (rl (z0 G)).toArray, .agg #[.bool true, .int .u64 cc, .int .u64 pc]])) rfl (by kernel_rfl) (by kernel_rfl) (by kernel_rfl) (fun _ _ _ h => h) (Or.inl ⟨by rfl, fun ww hSw => by clear hSw; go_simp⟩) (by assumption) ?_
          simp only [Act.put, List.setIfInBounds_toArray, List.set_cons_zero, List.set_cons_succ, List.getElem_toArray, List.getElem_cons_succ, List.getElem_cons_zero]
          refine wpAnyH_take (i := 8) (v := (.agg (rl (z0 G)).toArray)) rfl (by kernel_rfl) (by kernel_rfl) (by kernel_rfl) (fun _ _ _ h => h) (Or.inl ⟨by rfl, fun ww hSw => by clear hSw; go_simp⟩) (by assumption) ?_
          simp only [Act.put, List.setIfInBounds_toArray, List.set_cons_zero, List.set_cons_succ, List.getElem_toArray, List.getElem_cons_succ, List.getElem_cons_zero]
          refine wpAnyH_take (i := 9) (v := (.agg #[.bool true, .int .u64 cc, .int .u64 pc])) rfl (by kernel_rfl) (by kernel_rfl) (by kernel_rfl) (fun _ _ _ h => h) (Or.inl ⟨by rfl, fun ww hSw => by clear hSw; go_simp⟩) (by assumption) ?_
          simp only [Act.put, List.setIfInBounds_toArray, List.set_cons_zero, List.set_cons_succ, List.getElem_toArray, List.getElem_cons_succ, List.getElem_cons_zero]
          refine wpAnyH_ready (rs := [10, 11]) (by kernel_rfl) (by simp) ?_
          refine AllReadyH.cons rfl (fun K hK => ?_) ?_
          · go_simp
            have tn2 : (V1.alloc (.cells #[.int .u64 0, .int .u64 0, .int .u64 0, .int .u64 0, .int .u64 0, .int .u64 0, .int .u64 0, .int .u64 0, .int .u64 0, .int .u64 0, .int .u64 0, .int .u64 0, .int .u64 0, .int .u64 0, .int .u64 0, .int .u64 0, .int .u64 0, .int .u64 0, .int .u64 0, .int .u64 0, .int .u64 0, .int .u64 0, .int .u64 0, .int .u64 0, .int .u64 0, .int .u64 0, .int .u64 0, .int .u64 0, .int .u64 0, .int .u64 0, .int .u64 0, .int .u64 0, .int .u64 0] 25)).there V1.heap.size 0 33 := there_new V1 #[.int .u64 0, .int .u64 0, .int .u64 0, .int .u64 0, .int .u64 0, .int .u64 0, .int .u64 0, .int .u64 0, .int .u64 0, .int .u64 0, .int .u64 0, .int .u64 0, .int .u64 0, .int .u64 0, .int .u64 0, .int .u64 0, .int .u64 0, .int .u64 0, .int .u64 0, .int .u64 0, .int .u64 0, .int .u64 0, .int .u64 0, .int .u64 0, .int .u64 0, .int .u64 0, .int .u64 0, .int .u64 0, .int .u64 0, .int .u64 0, .int .u64 0, .int .u64 0, .int .u64 0] 25
            have bn2 := below1 V1 (.cells #[.int .u64 0, .int .u64 0, .int .u64 0, .int .u64 0, .int .u64 0, .int .u64 0, .int .u64 0, .int .u64 0, .int .u64 0, .int .u64 0, .int .u64 0, .int .u64 0, .int .u64 0, .int .u64 0, .int .u64 0, .int .u64 0, .int .u64 0, .int .u64 0, .int .u64 0, .int .u64 0, .int .u64 0, .int .u64 0, .int .u64 0, .int .u64 0, .int .u64 0, .int .u64 0, .int .u64 0, .int .u64 0, .int .u64 0, .int .u64 0, .int .u64 0, .int .u64 0, .int .u64 0] 25)
            have hV2 := hV1.trans (bn2.mono hV1.size)
            have ln2 : V1.heap.size < (V1.alloc (.cells #[.int .u64 0, .int .u64 0, .int .u64 0, .int .u64 0, .int .u64 0, .int .u64 0, .int .u64 0, .int .u64 0, .int .u64 0, .int .u64 0, .int .u64 0, .int .u64 0, .int .u64 0, .int .u64 0, .int .u64 0, .int .u64 0, .int .u64 0, .int .u64 0, .int .u64 0, .int .u64 0, .int .u64 0, .int .u64 0, .int .u64 0, .int .u64 0, .int .u64 0, .int .u64 0, .int .u64 0, .int .u64 0, .int .u64 0, .int .u64 0, .int .u64 0, .int .u64 0, .int .u64 0] 25)).heap.size := by rw [World.size_alloc]; omega
            have lo2 : wr.heap.size ≤ V1.heap.size := hV1.size
            clear bn2
            generalize V1.alloc (.cells #[.int .u64 0, .int .u64 0, .int .u64 0, .int .u64 0, .int .u64 0, .int .u64 0, .int .u64 0, .int .u64 0, .int .u64 0, .int .u64 0, .int .u64 0, .int .u64 0, .int .u64 0, .int .u64 0, .int .u64 0, .int .u64 0, .int .u64 0, .int .u64 0, .int .u64 0, .int .u64 0, .int .u64 0, .int .u64 0, .int .u64 0, .int .u64 0, .int .u64 0, .int .u64 0, .int .u64 0, .int .u64 0, .int .u64 0, .int .u64 0, .int .u64 0, .int .u64 0, .int .u64 0] 25) = V2 at *
            generalize V1.heap.size = B2 at *
            refine hK.out _ _ hV2 (fun hHeld => ?_)
            clear hK K
            try simp only [Act.put, List.setIfInBounds_toArray, List.set_cons_zero, List.set_cons_succ, List.getElem_toArray, List.getElem_cons_succ, List.getElem_cons_zero]
            refine wpAnyH_ready (rs := [11]) (by kernel_rfl) (by simp) ?_
            refine AllReadyH.cons rfl (fun K hK => ?_) AllReadyH.nil
            go_simp
            have tn3 : (V2.alloc (.cells #[.bool false, .int .u64 0, .int .u64 0] 37)).there V2.heap.size 0 3 := there_new V2 #[.bool false, .int .u64 0, .int .u64 0] 37
            have bn3 := below1 V2 (.cells #[.bool false, .int .u64 0, .int .u64 0] 37)
            have hV3 := hV2.trans (bn3.mono hV2.size)
            have ln3 : V2.heap.size < (V2.alloc (.cells #[.bool false, .int .u64 0, .int .u64 0] 37)).heap.size := by rw [World.size_alloc]; omega
            have lo3 : wr.heap.size ≤ V2.heap.size := hV2.size
            have tt4 := there_below tn2 ln2 bn3
            have ll4 := Nat.lt_of_lt_of_le ln2 bn3.size
            clear bn3
            generalize V2.alloc (.cells #[.bool false, .int .u64 0, .int .u64 0] 37) = V3 at *
            generalize V2.heap.size = B3 at *
            refine hK.out _ _ hV3 (fun hHeld => ?_)
            clear hK K
            try simp only [Act.put, List.setIfInBounds_toArray, List.set_cons_zero, List.set_cons_succ, List.getElem_toArray, List.getElem_cons_succ, List.getElem_cons_zero]
            refine wpAnyH_ready (rs := [12]) (by kernel_rfl) (by simp) ?_
            refine AllReadyH.cons rfl (fun K hK => ?_) AllReadyH.nil
            refine step_store_mid rfl 25 (.tmp 13) (.tmp 55) rfl B2 0 (rl (z0 G)).toArray (by simp [Act.eval]) (by simp [Act.eval]) (by rw [rl_size]; exact tt4) (by kernel_rfl) (rl_one _) ?_
            change K _ (V3.setCells B2 0 (rl (z0 G)))
            have r12 := Rg.make tt4 (z0 G)
            have t12 : (V3.setCells B2 0 (rl (z0 G))).there B3 0 3 := World.there_setCells tn3 _ _ _
            have h12 := below_setCells hV3 B2 lo2 0 (rl (z0 G))
            generalize V3.setCells B2 0 (rl (z0 G)) = V12 at *
            refine hK.out _ _ h12 (fun hHeld => ?_)
            clear hK K
            try simp only [Act.put, List.setIfInBounds_toArray, List.set_cons_zero, List.set_cons_succ, List.getElem_toArray, List.getElem_cons_succ, List.getElem_cons_zero]
            refine wpAnyH_ready (rs := [13]) (by kernel_rfl) (by simp) ?_
            refine AllReadyH.cons rfl (fun K hK => ?_) AllReadyH.nil
            refine step_store_mid rfl 37 (.tmp 14) (.tmp 56) rfl B3 0 #[.bool true, .int .u64 cc, .int .u64 pc] (by simp [Act.eval]) (by simp [Act.eval]) t12 (by kernel_rfl) (by simp [Value.oneCell']) ?_
            change K _ (V12.setCells B3 0 [.bool true, .int .u64 cc, .int .u64 pc])
            have r13 := r12.apart 0 [.bool true, .int .u64 cc, .int .u64 pc] (show B2 ≠ B3 by omega)
            have t13 := World.rangeAt_setCells_same V12 B3 0 [.bool true, .int .u64 cc, .int .u64 pc] t12
            have h13 := below_setCells h12 B3 lo3 0 [.bool true, .int .u64 cc, .int .u64 pc]
            generalize V12.setCells B3 0 [.bool true, .int .u64 cc, .int .u64 pc] = V13 at *
            refine hK.out _ _ h13 (fun hHeld => ?_)
            clear hK K
            try simp only [Act.put, List.setIfInBounds_toArray, List.set_cons_zero, List.set_cons_succ, List.getElem_toArray, List.getElem_cons_succ, List.getElem_cons_zero]
            refine wpAnyH_done (by kernel_rfl) ?_ _
            refine NoPanic.normal ?_
            go_wp2
            go_meet
            exact ⟨_, _, rfl, rfl, r13, t13, h13⟩
          refine AllReadyH.cons rfl (fun K hK => ?_) AllReadyH.nil
          go_simp
          have tn6 : (V1.alloc (.cells #[.bool false, .int .u64 0, .int .u64 0] 37)).there V1.heap.size 0 3 := there_new V1 #[.bool false, .int .u64 0, .int .u64 0] 37
          have bn6 := below1 V1 (.cells #[.bool false, .int .u64 0, .int .u64 0] 37)
          have hV6 := hV1.trans (bn6.mono hV1.size)
          have ln6 : V1.heap.size < (V1.alloc (.cells #[.bool false, .int .u64 0, .int .u64 0] 37)).heap.size := by rw [World.size_alloc]; omega
          have lo6 : wr.heap.size ≤ V1.heap.size := hV1.size
          clear bn6
          generalize V1.alloc (.cells #[.bool false, .int .u64 0, .int .u64 0] 37) = V6 at *
          generalize V1.heap.size = B6 at *
          refine hK.out _ _ hV6 (fun hHeld => ?_)
          clear hK K
          try simp only [Act.put, List.setIfInBounds_toArray, List.set_cons_zero, List.set_cons_succ, List.getElem_toArray, List.getElem_cons_succ, List.getElem_cons_zero]
          refine wpAnyH_ready (rs := [10]) (by kernel_rfl) (by simp) ?_
          refine AllReadyH.cons rfl (fun K hK => ?_) AllReadyH.nil
          go_simp
          have tn7 : (V6.alloc (.cells #[.int .u64 0, .int .u64 0, .int .u64 0, .int .u64 0, .int .u64 0, .int .u64 0, .int .u64 0, .int .u64 0, .int .u64 0, .int .u64 0, .int .u64 0, .int .u64 0, .int .u64 0, .int .u64 0, .int .u64 0, .int .u64 0, .int .u64 0, .int .u64 0, .int .u64 0, .int .u64 0, .int .u64 0, .int .u64 0, .int .u64 0, .int .u64 0, .int .u64 0, .int .u64 0, .int .u64 0, .int .u64 0, .int .u64 0, .int .u64 0, .int .u64 0, .int .u64 0, .int .u64 0] 25)).there V6.heap.size 0 33 := there_new V6 #[.int .u64 0, .int .u64 0, .int .u64 0, .int .u64 0, .int .u64 0, .int .u64 0, .int .u64 0, .int .u64 0, .int .u64 0, .int .u64 0, .int .u64 0, .int .u64 0, .int .u64 0, .int .u64 0, .int .u64 0, .int .u64 0, .int .u64 0, .int .u64 0, .int .u64 0, .int .u64 0, .int .u64 0, .int .u64 0, .int .u64 0, .int .u64 0, .int .u64 0, .int .u64 0, .int .u64 0, .int .u64 0, .int .u64 0, .int .u64 0, .int .u64 0, .int .u64 0, .int .u64 0] 25
          have bn7 := below1 V6 (.cells #[.int .u64 0, .int .u64 0, .int .u64 0, .int .u64 0, .int .u64 0, .int .u64 0, .int .u64 0, .int .u64 0, .int .u64 0, .int .u64 0, .int .u64 0, .int .u64 0, .int .u64 0, .int .u64 0, .int .u64 0, .int .u64 0, .int .u64 0, .int .u64 0, .int .u64 0, .int .u64 0, .int .u64 0, .int .u64 0, .int .u64 0, .int .u64 0, .int .u64 0, .int .u64 0, .int .u64 0, .int .u64 0, .int .u64 0, .int .u64 0, .int .u64 0, .int .u64 0, .int .u64 0] 25)
          have hV7 := hV6.trans (bn7.mono hV6.size)
          have ln7 : V6.heap.size < (V6.alloc (.cells #[.int .u64 0, .int .u64 0, .int .u64 0, .int .u64 0, .int .u64 0, .int .u64 0, .int .u64 0, .int .u64 0, .int .u64 0, .int .u64 0, .int .u64 0, .int .u64 0, .int .u64 0, .int .u64 0, .int .u64 0, .int .u64 0, .int .u64 0, .int .u64 0, .int .u64 0, .int .u64 0, .int .u64 0, .int .u64 0, .int .u64 0, .int .u64 0, .int .u64 0, .int .u64 0, .int .u64 0, .int .u64 0, .int .u64 0, .int .u64 0, .int .u64 0, .int .u64 0, .int .u64 0] 25)).heap.size := by rw [World.size_alloc]; omega
          have lo7 : wr.heap.size ≤ V6.heap.size := hV6.size
          have tt8 := there_below tn6 ln6 bn7
          have ll8 := Nat.lt_of_lt_of_le ln6 bn7.size
          clear bn7
          generalize V6.alloc (.cells #[.int .u64 0, .int .u64 0, .int .u64 0, .int .u64 0, .int .u64 0, .int .u64 0, .int .u64 0, .int .u64 0, .int .u64 0, .int .u64 0, .int .u64 0, .int .u64 0, .int .u64 0, .int .u64 0, .int .u64 0, .int .u64 0, .int .u64 0, .int .u64 0, .int .u64 0, .int .u64 0, .int .u64 0, .int .u64 0, .int .u64 0, .int .u64 0, .int .u64 0, .int .u64 0, .int .u64 0, .int .u64 0, .int .u64 0, .int .u64 0, .int .u64 0, .int .u64 0, .int .u64 0] 25) = V7 at *
          generalize V6.heap.size = B7 at *
          refine hK.out _ _ hV7 (fun hHeld => ?_)
          clear hK K
          try simp only [Act.put, List.setIfInBounds_toArray, List.set_cons_zero, List.set_cons_succ, List.getElem_toArray, List.getElem_cons_succ, List.getElem_cons_zero]
          refine wpAnyH_ready (rs := [12]) (by kernel_rfl) (by simp) ?_
          refine AllReadyH.cons rfl (fun K hK => ?_) AllReadyH.nil
          refine step_store_mid rfl 25 (.tmp 13) (.tmp 55) rfl B7 0 (rl (z0 G)).toArray (by simp [Act.eval]) (by simp [Act.eval]) (by rw [rl_size]; exact tn7) (by kernel_rfl) (rl_one _) ?_
          change K _ (V7.setCells B7 0 (rl (z0 G)))
          have r12 := Rg.make tn7 (z0 G)
          have t12 : (V7.setCells B7 0 (rl (z0 G))).there B6 0 3 := World.there_setCells tt8 _ _ _
          have h12 := below_setCells hV7 B7 lo7 0 (rl (z0 G))
          generalize V7.setCells B7 0 (rl (z0 G)) = V12 at *
          refine hK.out _ _ h12 (fun hHeld => ?_)
          clear hK K
          try simp only [Act.put, List.setIfInBounds_toArray, List.set_cons_zero, List.set_cons_succ, List.getElem_toArray, List.getElem_cons_succ, List.getElem_cons_zero]
          refine wpAnyH_ready (rs := [13]) (by kernel_rfl) (by simp) ?_
          refine AllReadyH.cons rfl (fun K hK => ?_) AllReadyH.nil
          refine step_store_mid rfl 37 (.tmp 14) (.tmp 56) rfl B6 0 #[.bool true, .int .u64 cc, .int .u64 pc] (by simp [Act.eval]) (by simp [Act.eval]) t12 (by kernel_rfl) (by simp [Value.oneCell']) ?_
          change K _ (V12.setCells B6 0 [.bool true, .int .u64 cc, .int .u64 pc])
          have r13 := r12.apart 0 [.bool true, .int .u64 cc, .int .u64 pc] (show B7 ≠ B6 by omega)
          have t13 := World.rangeAt_setCells_same V12 B6 0 [.bool true, .int .u64 cc, .int .u64 pc] t12
          have h13 := below_setCells h12 B6 lo6 0 [.bool true, .int .u64 cc, .int .u64 pc]
          generalize V12.setCells B6 0 [.bool true, .int .u64 cc, .int .u64 pc] = V13 at *
          refine hK.out _ _ h13 (fun hHeld => ?_)
          clear hK K
          try simp only [Act.put, List.setIfInBounds_toArray, List.set_cons_zero, List.set_cons_succ, List.getElem_toArray, List.getElem_cons_succ, List.getElem_cons_zero]
          refine wpAnyH_done (by kernel_rfl) ?_ _
          refine NoPanic.normal ?_
          go_wp2
          go_meet
          exact ⟨_, _, rfl, rfl, r13, t13, h13⟩
        refine AllReadyH.cons rfl (fun K hK => ?_) ?_
        · go_simp
          have tn10 : (V0.alloc (.cells #[.int .u64 0, .int .u64 0, .int .u64 0, .int .u64 0, .int .u64 0, .int .u64 0, .int .u64 0, .int .u64 0, .int .u64 0, .int .u64 0, .int .u64 0, .int .u64 0, .int .u64 0, .int .u64 0, .int .u64 0, .int .u64 0, .int .u64 0, .int .u64 0, .int .u64 0, .int .u64 0, .int .u64 0, .int .u64 0, .int .u64 0, .int .u64 0, .int .u64 0, .int .u64 0, .int .u64 0, .int .u64 0, .int .u64 0, .int .u64 0, .int .u64 0, .int .u64 0, .int .u64 0] 25)).there V0.heap.size 0 33 := there_new V0 #[.int .u64 0, .int .u64 0, .int .u64 0, .int .u64 0, .int .u64 0, .int .u64 0, .int .u64 0, .int .u64 0, .int .u64 0, .int .u64 0, .int .u64 0, .int .u64 0, .int .u64 0, .int .u64 0, .int .u64 0, .int .u64 0, .int .u64 0, .int .u64 0, .int .u64 0, .int .u64 0, .int .u64 0, .int .u64 0, .int .u64 0, .int .u64 0, .int .u64 0, .int .u64 0, .int .u64 0, .int .u64 0, .int .u64 0, .int .u64 0, .int .u64 0, .int .u64 0, .int .u64 0] 25
          have bn10 := below1 V0 (.cells #[.int .u64 0, .int .u64 0, .int .u64 0, .int .u64 0, .int .u64 0, .int .u64 0, .int .u64 0, .int .u64 0, .int .u64 0, .int .u64 0, .int .u64 0, .int .u64 0, .int .u64 0, .int .u64 0, .int .u64 0, .int .u64 0, .int .u64 0, .int .u64 0, .int .u64 0, .int .u64 0, .int .u64 0, .int .u64 0, .int .u64 0, .int .u64 0, .int .u64 0, .int .u64 0, .int .u64 0, .int .u64 0, .int .u64 0, .int .u64 0, .int .u64 0, .int .u64 0, .int .u64 0] 25)
          have hV10 := hV0.trans (bn10.mono hV0.size)
          have ln10 : V0.heap.size < (V0.alloc (.cells #[.int .u64 0, .int .u64 0, .int .u64 0, .int .u64 0, .int .u64 0, .int .u64 0, .int .u64 0, .int .u64 0, .int .u64 0, .int .u64 0, .int .u64 0, .int .u64 0, .int .u64 0, .int .u64 0, .int .u64 0, .int .u64 0, .int .u64 0, .int .u64 0, .int .u64 0, .int .u64 0, .int .u64 0, .int .u64 0, .int .u64 0, .int .u64 0, .int .u64 0, .int .u64 0, .int .u64 0, .int .u64 0, .int .u64 0, .int .u64 0, .int .u64 0, .int .u64 0, .int .u64 0] 25)).heap.size := by rw [World.size_alloc]; omega
          have lo10 : wr.heap.size ≤ V0.heap.size := hV0.size
          clear bn10
          generalize V0.alloc (.cells #[.int .u64 0, .int .u64 0, .int .u64 0, .int .u64 0, .int .u64 0, .int .u64 0, .int .u64 0, .int .u64 0, .int .u64 0, .int .u64 0, .int .u64 0, .int .u64 0, .int .u64 0, .int .u64 0, .int .u64 0, .int .u64 0, .int .u64 0, .int .u64 0, .int .u64 0, .int .u64 0, .int .u64 0, .int .u64 0, .int .u64 0, .int .u64 0, .int .u64 0, .int .u64 0, .int .u64 0, .int .u64 0, .int .u64 0, .int .u64 0, .int .u64 0, .int .u64 0, .int .u64 0] 25) = V10 at *
          generalize V0.heap.size = B10 at *
          refine hK.out _ _ hV10 (fun hHeld => ?_)
          clear hK K
          try simp only [Act.put, List.setIfInBounds_toArray, List.set_cons_zero, List.set_cons_succ, List.getElem_toArray, List.getElem_cons_succ, List.getElem_cons_zero]
          refine wpAnyH_ready (rs := [6, 11]) (by kernel_rfl) (by simp) ?_
          refine AllReadyH.cons rfl (fun K hK => ?_) ?_
          · go_simp
            go_at_call 9
            refine (cs.out V10 hV10).mono ?_
            rintro e V11 ⟨rfl, hb11⟩
            have hV11 := hV10.trans (hb11.mono hV10.size)
            have tt12 := there_below tn10 ln10 hb11
            have ll12 := Nat.lt_of_lt_of_le ln10 hb11.size
            refine hK.out _ _ hV11 (fun hHeld => ?_)
            clear hK K
            try simp only [Act.put, List.setIfInBounds_toArray, List.set_cons_zero, List.set_cons_succ, List.getElem_toArray, List.getElem_cons_succ, List.getElem_cons_zero]
            refine wpAnyH_take (i := 7) (v := (.tuple #[.agg (rl (z0 G)).toArray, .agg #[.bool true, .int .u64 cc, .int .u64 pc]])) rfl (by kernel_rfl) (by kernel_rfl) (by kernel_rfl) (fun _ _ _ h => h) (Or.inl ⟨by rfl, fun ww hSw => by clear hSw; go_simp⟩) (by assumption) ?_
            simp only [Act.put, List.setIfInBounds_toArray, List.set_cons_zero, List.set_cons_succ, List.getElem_toArray, List.getElem_cons_succ, List.getElem_cons_zero]
            refine wpAnyH_take (i := 8) (v := (.agg (rl (z0 G)).toArray)) rfl (by kernel_rfl) (by kernel_rfl) (by kernel_rfl) (fun _ _ _ h => h) (Or.inl ⟨by rfl, fun ww hSw => by clear hSw; go_simp⟩) (by assumption) ?_
            simp only [Act.put, List.setIfInBounds_toArray, List.set_cons_zero, List.set_cons_succ, List.getElem_toArray, List.getElem_cons_succ, List.getElem_cons_zero]
            refine wpAnyH_take (i := 9) (v := (.agg #[.bool true, .int .u64 cc, .int .u64 pc])) rfl (by kernel_rfl) (by kernel_rfl) (by kernel_rfl) (fun _ _ _ h => h) (Or.inl ⟨by rfl, fun ww hSw => by clear hSw; go_simp⟩) (by assumption) ?_
            simp only [Act.put, List.setIfInBounds_toArray, List.set_cons_zero, List.set_cons_succ, List.getElem_toArray, List.getElem_cons_succ, List.getElem_cons_zero]
            refine wpAnyH_ready (rs := [11]) (by kernel_rfl) (by simp) ?_
            refine AllReadyH.cons rfl (fun K hK => ?_) AllReadyH.nil
            go_simp
            have tn13 : (V11.alloc (.cells #[.bool false, .int .u64 0, .int .u64 0] 37)).there V11.heap.size 0 3 := there_new V11 #[.bool false, .int .u64 0, .int .u64 0] 37
            have bn13 := below1 V11 (.cells #[.bool false, .int .u64 0, .int .u64 0] 37)
            have hV13 := hV11.trans (bn13.mono hV11.size)
            have ln13 : V11.heap.size < (V11.alloc (.cells #[.bool false, .int .u64 0, .int .u64 0] 37)).heap.size := by rw [World.size_alloc]; omega
            have lo13 : wr.heap.size ≤ V11.heap.size := hV11.size
            have tt14 := there_below tt12 ll12 bn13
            have ll14 := Nat.lt_of_lt_of_le ll12 bn13.size
            clear bn13
            generalize V11.alloc (.cells #[.bool false, .int .u64 0, .int .u64 0] 37) = V13 at *
            generalize V11.heap.size = B13 at *
            refine hK.out _ _ hV13 (fun hHeld => ?_)
            clear hK K
            try simp only [Act.put, List.setIfInBounds_toArray, List.set_cons_zero, List.set_cons_succ, List.getElem_toArray, List.getElem_cons_succ, List.getElem_cons_zero]
            refine wpAnyH_ready (rs := [12]) (by kernel_rfl) (by simp) ?_
            refine AllReadyH.cons rfl (fun K hK => ?_) AllReadyH.nil
            refine step_store_mid rfl 25 (.tmp 13) (.tmp 55) rfl B10 0 (rl (z0 G)).toArray (by simp [Act.eval]) (by simp [Act.eval]) (by rw [rl_size]; exact tt14) (by kernel_rfl) (rl_one _) ?_
            change K _ (V13.setCells B10 0 (rl (z0 G)))
            have r12 := Rg.make tt14 (z0 G)
            have t12 : (V13.setCells B10 0 (rl (z0 G))).there B13 0 3 := World.there_setCells tn13 _ _ _
            have h12 := below_setCells hV13 B10 lo10 0 (rl (z0 G))
            generalize V13.setCells B10 0 (rl (z0 G)) = V12 at *
            refine hK.out _ _ h12 (fun hHeld => ?_)
            clear hK K
            try simp only [Act.put, List.setIfInBounds_toArray, List.set_cons_zero, List.set_cons_succ, List.getElem_toArray, List.getElem_cons_succ, List.getElem_cons_zero]
            refine wpAnyH_ready (rs := [13]) (by kernel_rfl) (by simp) ?_
            refine AllReadyH.cons rfl (fun K hK => ?_) AllReadyH.nil
            refine step_store_mid rfl 37 (.tmp 14) (.tmp 56) rfl B13 0 #[.bool true, .int .u64 cc, .int .u64 pc] (by simp [Act.eval]) (by simp [Act.eval]) t12 (by kernel_rfl) (by simp [Value.oneCell']) ?_
            change K _ (V12.setCells B13 0 [.bool true, .int .u64 cc, .int .u64 pc])
            have r13 := r12.apart 0 [.bool true, .int .u64 cc, .int .u64 pc] (show B10 ≠ B13 by omega)
            have t13 := World.rangeAt_setCells_same V12 B13 0 [.bool true, .int .u64 cc, .int .u64 pc] t12
            have h13 := below_setCells h12 B13 lo13 0 [.bool true, .int .u64 cc, .int .u64 pc]
            generalize V12.setCells B13 0 [.bool true, .int .u64 cc, .int .u64 pc] = V13 at *
            refine hK.out _ _ h13 (fun hHeld => ?_)
            clear hK K
            try simp only [Act.put, List.setIfInBounds_toArray, List.set_cons_zero, List.set_cons_succ, List.getElem_toArray, List.getElem_cons_succ, List.getElem_cons_zero]
            refine wpAnyH_done (by kernel_rfl) ?_ _
            refine NoPanic.normal ?_
            go_wp2
            go_meet
            exact ⟨_, _, rfl, rfl, r13, t13, h13⟩
          refine AllReadyH.cons rfl (fun K hK => ?_) AllReadyH.nil
          go_simp
          have tn16 : (V10.alloc (.cells #[.bool false, .int .u64 0, .int .u64 0] 37)).there V10.heap.size 0 3 := there_new V10 #[.bool false, .int .u64 0, .int .u64 0] 37
          have bn16 := below1 V10 (.cells #[.bool false, .int .u64 0, .int .u64 0] 37)
          have hV16 := hV10.trans (bn16.mono hV10.size)
          have ln16 : V10.heap.size < (V10.alloc (.cells #[.bool false, .int .u64 0, .int .u64 0] 37)).heap.size := by rw [World.size_alloc]; omega
          have lo16 : wr.heap.size ≤ V10.heap.size := hV10.size
          have tt17 := there_below tn10 ln10 bn16
          have ll17 := Nat.lt_of_lt_of_le ln10 bn16.size
          clear bn16
          generalize V10.alloc (.cells #[.bool false, .int .u64 0, .int .u64 0] 37) = V16 at *
          generalize V10.heap.size = B16 at *
          refine hK.out _ _ hV16 (fun hHeld => ?_)
          clear hK K
          try simp only [Act.put, List.setIfInBounds_toArray, List.set_cons_zero, List.set_cons_succ, List.getElem_toArray, List.getElem_cons_succ, List.getElem_cons_zero]
          refine wpAnyH_ready (rs := [6]) (by kernel_rfl) (by simp) ?_
          refine AllReadyH.cons rfl (fun K hK => ?_) AllReadyH.nil
          go_simp
          go_at_call 9
          refine (cs.out V16 hV16).mono ?_
          rintro e V18 ⟨rfl, hb18⟩
          have hV18 := hV16.trans (hb18.mono hV16.size)
          have tt19 := there_below tt17 ll17 hb18
          have ll19 := Nat.lt_of_lt_of_le ll17 hb18.size
          have tt20 := there_below tn16 ln16 hb18
          have ll20 := Nat.lt_of_lt_of_le ln16 hb18.size
          refine hK.out _ _ hV18 (fun hHeld => ?_)
          clear hK K
          try simp only [Act.put, List.setIfInBounds_toArray, List.set_cons_zero, List.set_cons_succ, List.getElem_toArray, List.getElem_cons_succ, List.getElem_cons_zero]
          refine wpAnyH_take (i := 7) (v := (.tuple #[.agg (rl (z0 G)).toArray, .agg #[.bool true, .int .u64 cc, .int .u64 pc]])) rfl (by kernel_rfl) (by kernel_rfl) (by kernel_rfl) (fun _ _ _ h => h) (Or.inl ⟨by rfl, fun ww hSw => by clear hSw; go_simp⟩) (by assumption) ?_
          simp only [Act.put, List.setIfInBounds_toArray, List.set_cons_zero, List.set_cons_succ, List.getElem_toArray, List.getElem_cons_succ, List.getElem_cons_zero]
          refine wpAnyH_take (i := 8) (v := (.agg (rl (z0 G)).toArray)) rfl (by kernel_rfl) (by kernel_rfl) (by kernel_rfl) (fun _ _ _ h => h) (Or.inl ⟨by rfl, fun ww hSw => by clear hSw; go_simp⟩) (by assumption) ?_
          simp only [Act.put, List.setIfInBounds_toArray, List.set_cons_zero, List.set_cons_succ, List.getElem_toArray, List.getElem_cons_succ, List.getElem_cons_zero]
          refine wpAnyH_take (i := 9) (v := (.agg #[.bool true, .int .u64 cc, .int .u64 pc])) rfl (by kernel_rfl) (by kernel_rfl) (by kernel_rfl) (fun _ _ _ h => h) (Or.inl ⟨by rfl, fun ww hSw => by clear hSw; go_simp⟩) (by assumption) ?_
          simp only [Act.put, List.setIfInBounds_toArray, List.set_cons_zero, List.set_cons_succ, List.getElem_toArray, List.getElem_cons_succ, List.getElem_cons_zero]
          refine wpAnyH_ready (rs := [12]) (by kernel_rfl) (by simp) ?_
          refine AllReadyH.cons rfl (fun K hK => ?_) AllReadyH.nil
          refine step_store_mid rfl 25 (.tmp 13) (.tmp 55) rfl B10 0 (rl (z0 G)).toArray (by simp [Act.eval]) (by simp [Act.eval]) (by rw [rl_size]; exact tt19) (by kernel_rfl) (rl_one _) ?_
          change K _ (V18.setCells B10 0 (rl (z0 G)))
          have r12 := Rg.make tt19 (z0 G)
          have t12 : (V18.setCells B10 0 (rl (z0 G))).there B16 0 3 := World.there_setCells tt20 _ _ _
          have h12 := below_setCells hV18 B10 lo10 0 (rl (z0 G))
          generalize V18.setCells B10 0 (rl (z0 G)) = V12 at *
          refine hK.out _ _ h12 (fun hHeld => ?_)
          clear hK K
          try simp only [Act.put, List.setIfInBounds_toArray, List.set_cons_zero, List.set_cons_succ, List.getElem_toArray, List.getElem_cons_succ, List.getElem_cons_zero]
          refine wpAnyH_ready (rs := [13]) (by kernel_rfl) (by simp) ?_
          refine AllReadyH.cons rfl (fun K hK => ?_) AllReadyH.nil
          refine step_store_mid rfl 37 (.tmp 14) (.tmp 56) rfl B16 0 #[.bool true, .int .u64 cc, .int .u64 pc] (by simp [Act.eval]) (by simp [Act.eval]) t12 (by kernel_rfl) (by simp [Value.oneCell']) ?_
          change K _ (V12.setCells B16 0 [.bool true, .int .u64 cc, .int .u64 pc])
          have r13 := r12.apart 0 [.bool true, .int .u64 cc, .int .u64 pc] (show B10 ≠ B16 by omega)
          have t13 := World.rangeAt_setCells_same V12 B16 0 [.bool true, .int .u64 cc, .int .u64 pc] t12
          have h13 := below_setCells h12 B16 lo16 0 [.bool true, .int .u64 cc, .int .u64 pc]
          generalize V12.setCells B16 0 [.bool true, .int .u64 cc, .int .u64 pc] = V13 at *
          refine hK.out _ _ h13 (fun hHeld => ?_)
          clear hK K
          try simp only [Act.put, List.setIfInBounds_toArray, List.set_cons_zero, List.set_cons_succ, List.getElem_toArray, List.getElem_cons_succ, List.getElem_cons_zero]
          refine wpAnyH_done (by kernel_rfl) ?_ _
          refine NoPanic.normal ?_
          go_wp2
          go_meet
          exact ⟨_, _, rfl, rfl, r13, t13, h13⟩
        refine AllReadyH.cons rfl (fun K hK => ?_) AllReadyH.nil
        go_simp
        have tn22 : (V0.alloc (.cells #[.bool false, .int .u64 0, .int .u64 0] 37)).there V0.heap.size 0 3 := there_new V0 #[.bool false, .int .u64 0, .int .u64 0] 37
        have bn22 := below1 V0 (.cells #[.bool false, .int .u64 0, .int .u64 0] 37)
        have hV22 := hV0.trans (bn22.mono hV0.size)
        have ln22 : V0.heap.size < (V0.alloc (.cells #[.bool false, .int .u64 0, .int .u64 0] 37)).heap.size := by rw [World.size_alloc]; omega
        have lo22 : wr.heap.size ≤ V0.heap.size := hV0.size
        clear bn22
        generalize V0.alloc (.cells #[.bool false, .int .u64 0, .int .u64 0] 37) = V22 at *
        generalize V0.heap.size = B22 at *
        refine hK.out _ _ hV22 (fun hHeld => ?_)
        clear hK K
        try simp only [Act.put, List.setIfInBounds_toArray, List.set_cons_zero, List.set_cons_succ, List.getElem_toArray, List.getElem_cons_succ, List.getElem_cons_zero]
        refine wpAnyH_ready (rs := [6, 10]) (by kernel_rfl) (by simp) ?_
        refine AllReadyH.cons rfl (fun K hK => ?_) ?_
        · go_simp
          go_at_call 9
          refine (cs.out V22 hV22).mono ?_
          rintro e V23 ⟨rfl, hb23⟩
          have hV23 := hV22.trans (hb23.mono hV22.size)
          have tt24 := there_below tn22 ln22 hb23
          have ll24 := Nat.lt_of_lt_of_le ln22 hb23.size
          refine hK.out _ _ hV23 (fun hHeld => ?_)
          clear hK K
          try simp only [Act.put, List.setIfInBounds_toArray, List.set_cons_zero, List.set_cons_succ, List.getElem_toArray, List.getElem_cons_succ, List.getElem_cons_zero]
          refine wpAnyH_take (i := 7) (v := (.tuple #[.agg (rl (z0 G)).toArray, .agg #[.bool true, .int .u64 cc, .int .u64 pc]])) rfl (by kernel_rfl) (by kernel_rfl) (by kernel_rfl) (fun _ _ _ h => h) (Or.inl ⟨by rfl, fun ww hSw => by clear hSw; go_simp⟩) (by assumption) ?_
          simp only [Act.put, List.setIfInBounds_toArray, List.set_cons_zero, List.set_cons_succ, List.getElem_toArray, List.getElem_cons_succ, List.getElem_cons_zero]
          refine wpAnyH_take (i := 8) (v := (.agg (rl (z0 G)).toArray)) rfl (by kernel_rfl) (by kernel_rfl) (by kernel_rfl) (fun _ _ _ h => h) (Or.inl ⟨by rfl, fun ww hSw => by clear hSw; go_simp⟩) (by assumption) ?_
          simp only [Act.put, List.setIfInBounds_toArray, List.set_cons_zero, List.set_cons_succ, List.getElem_toArray, List.getElem_cons_succ, List.getElem_cons_zero]
          refine wpAnyH_take (i := 9) (v := (.agg #[.bool true, .int .u64 cc, .int .u64 pc])) rfl (by kernel_rfl) (by kernel_rfl) (by kernel_rfl) (fun _ _ _ h => h) (Or.inl ⟨by rfl, fun ww hSw => by clear hSw; go_simp⟩) (by assumption) ?_
          simp only [Act.put, List.setIfInBounds_toArray, List.set_cons_zero, List.set_cons_succ, List.getElem_toArray, List.getElem_cons_succ, List.getElem_cons_zero]
          refine wpAnyH_ready (rs := [10]) (by kernel_rfl) (by simp) ?_
          refine AllReadyH.cons rfl (fun K hK => ?_) AllReadyH.nil
          go_simp
          have tn25 : (V23.alloc (.cells #[.int .u64 0, .int .u64 0, .int .u64 0, .int .u64 0, .int .u64 0, .int .u64 0, .int .u64 0, .int .u64 0, .int .u64 0, .int .u64 0, .int .u64 0, .int .u64 0, .int .u64 0, .int .u64 0, .int .u64 0, .int .u64 0, .int .u64 0, .int .u64 0, .int .u64 0, .int .u64 0, .int .u64 0, .int .u64 0, .int .u64 0, .int .u64 0, .int .u64 0, .int .u64 0, .int .u64 0, .int .u64 0, .int .u64 0, .int .u64 0, .int .u64 0, .int .u64 0, .int .u64 0] 25)).there V23.heap.size 0 33 := there_new V23 #[.int .u64 0, .int .u64 0, .int .u64 0, .int .u64 0, .int .u64 0, .int .u64 0, .int .u64 0, .int .u64 0, .int .u64 0, .int .u64 0, .int .u64 0, .int .u64 0, .int .u64 0, .int .u64 0, .int .u64 0, .int .u64 0, .int .u64 0, .int .u64 0, .int .u64 0, .int .u64 0, .int .u64 0, .int .u64 0, .int .u64 0, .int .u64 0, .int .u64 0, .int .u64 0, .int .u64 0, .int .u64 0, .int .u64 0, .int .u64 0, .int .u64 0, .int .u64 0, .int .u64 0] 25
          have bn25 := below1 V23 (.cells #[.int .u64 0, .int .u64 0, .int .u64 0, .int .u64 0, .int .u64 0, .int .u64 0, .int .u64 0, .int .u64 0, .int .u64 0, .int .u64 0, .int .u64 0, .int .u64 0, .int .u64 0, .int .u64 0, .int .u64 0, .int .u64 0, .int .u64 0, .int .u64 0, .int .u64 0, .int .u64 0, .int .u64 0, .int .u64 0, .int .u64 0, .int .u64 0, .int .u64 0, .int .u64 0, .int .u64 0, .int .u64 0, .int .u64 0, .int .u64 0, .int .u64 0, .int .u64 0, .int .u64 0] 25)
          have hV25 := hV23.trans (bn25.mono hV23.size)
          have ln25 : V23.heap.size < (V23.alloc (.cells #[.int .u64 0, .int .u64 0, .int .u64 0, .int .u64 0, .int .u64 0, .int .u64 0, .int .u64 0, .int .u64 0, .int .u64 0, .int .u64 0, .int .u64 0, .int .u64 0, .int .u64 0, .int .u64 0, .int .u64 0, .int .u64 0, .int .u64 0, .int .u64 0, .int .u64 0, .int .u64 0, .int .u64 0, .int .u64 0, .int .u64 0, .int .u64 0, .int .u64 0, .int .u64 0, .int .u64 0, .int .u64 0, .int .u64 0, .int .u64 0, .int .u64 0, .int .u64 0, .int .u64 0] 25)).heap.size := by rw [World.size_alloc]; omega
          have lo25 : wr.heap.size ≤ V23.heap.size := hV23.size
          have tt26 := there_below tt24 ll24 bn25
          have ll26 := Nat.lt_of_lt_of_le ll24 bn25.size
          clear bn25
          generalize V23.alloc (.cells #[.int .u64 0, .int .u64 0, .int .u64 0, .int .u64 0, .int .u64 0, .int .u64 0, .int .u64 0, .int .u64 0, .int .u64 0, .int .u64 0, .int .u64 0, .int .u64 0, .int .u64 0, .int .u64 0, .int .u64 0, .int .u64 0, .int .u64 0, .int .u64 0, .int .u64 0, .int .u64 0, .int .u64 0, .int .u64 0, .int .u64 0, .int .u64 0, .int .u64 0, .int .u64 0, .int .u64 0, .int .u64 0, .int .u64 0, .int .u64 0, .int .u64 0, .int .u64 0, .int .u64 0] 25) = V25 at *
          generalize V23.heap.size = B25 at *
          refine hK.out _ _ hV25 (fun hHeld => ?_)
          clear hK K
          try simp only [Act.put, List.setIfInBounds_toArray, List.set_cons_zero, List.set_cons_succ, List.getElem_toArray, List.getElem_cons_succ, List.getElem_cons_zero]
          refine wpAnyH_ready (rs := [12]) (by kernel_rfl) (by simp) ?_
          refine AllReadyH.cons rfl (fun K hK => ?_) AllReadyH.nil
          refine step_store_mid rfl 25 (.tmp 13) (.tmp 55) rfl B25 0 (rl (z0 G)).toArray (by simp [Act.eval]) (by simp [Act.eval]) (by rw [rl_size]; exact tn25) (by kernel_rfl) (rl_one _) ?_
          change K _ (V25.setCells B25 0 (rl (z0 G)))
          have r12 := Rg.make tn25 (z0 G)
          have t12 : (V25.setCells B25 0 (rl (z0 G))).there B22 0 3 := World.there_setCells tt26 _ _ _
          have h12 := below_setCells hV25 B25 lo25 0 (rl (z0 G))
          generalize V25.setCells B25 0 (rl (z0 G)) = V12 at *
          refine hK.out _ _ h12 (fun hHeld => ?_)
          clear hK K
          try simp only [Act.put, List.setIfInBounds_toArray, List.set_cons_zero, List.set_cons_succ, List.getElem_toArray, List.getElem_cons_succ, List.getElem_cons_zero]
          refine wpAnyH_ready (rs := [13]) (by kernel_rfl) (by simp) ?_
          refine AllReadyH.cons rfl (fun K hK => ?_) AllReadyH.nil
          refine step_store_mid rfl 37 (.tmp 14) (.tmp 56) rfl B22 0 #[.bool true, .int .u64 cc, .int .u64 pc] (by simp [Act.eval]) (by simp [Act.eval]) t12 (by kernel_rfl) (by simp [Value.oneCell']) ?_
          change K _ (V12.setCells B22 0 [.bool true, .int .u64 cc, .int .u64 pc])
          have r13 := r12.apart 0 [.bool true, .int .u64 cc, .int .u64 pc] (show B25 ≠ B22 by omega)
          have t13 := World.rangeAt_setCells_same V12 B22 0 [.bool true, .int .u64 cc, .int .u64 pc] t12
          have h13 := below_setCells h12 B22 lo22 0 [.bool true, .int .u64 cc, .int .u64 pc]
          generalize V12.setCells B22 0 [.bool true, .int .u64 cc, .int .u64 pc] = V13 at *
          refine hK.out _ _ h13 (fun hHeld => ?_)
          clear hK K
          try simp only [Act.put, List.setIfInBounds_toArray, List.set_cons_zero, List.set_cons_succ, List.getElem_toArray, List.getElem_cons_succ, List.getElem_cons_zero]
          refine wpAnyH_done (by kernel_rfl) ?_ _
          refine NoPanic.normal ?_
          go_wp2
          go_meet
          exact ⟨_, _, rfl, rfl, r13, t13, h13⟩
        refine AllReadyH.cons rfl (fun K hK => ?_) AllReadyH.nil
        go_simp
        have tn28 : (V22.alloc (.cells #[.int .u64 0, .int .u64 0, .int .u64 0, .int .u64 0, .int .u64 0, .int .u64 0, .int .u64 0, .int .u64 0, .int .u64 0, .int .u64 0, .int .u64 0, .int .u64 0, .int .u64 0, .int .u64 0, .int .u64 0, .int .u64 0, .int .u64 0, .int .u64 0, .int .u64 0, .int .u64 0, .int .u64 0, .int .u64 0, .int .u64 0, .int .u64 0, .int .u64 0, .int .u64 0, .int .u64 0, .int .u64 0, .int .u64 0, .int .u64 0, .int .u64 0, .int .u64 0, .int .u64 0] 25)).there V22.heap.size 0 33 := there_new V22 #[.int .u64 0, .int .u64 0, .int .u64 0, .int .u64 0, .int .u64 0, .int .u64 0, .int .u64 0, .int .u64 0, .int .u64 0, .int .u64 0, .int .u64 0, .int .u64 0, .int .u64 0, .int .u64 0, .int .u64 0, .int .u64 0, .int .u64 0, .int .u64 0, .int .u64 0, .int .u64 0, .int .u64 0, .int .u64 0, .int .u64 0, .int .u64 0, .int .u64 0, .int .u64 0, .int .u64 0, .int .u64 0, .int .u64 0, .int .u64 0, .int .u64 0, .int .u64 0, .int .u64 0] 25
        have bn28 := below1 V22 (.cells #[.int .u64 0, .int .u64 0, .int .u64 0, .int .u64 0, .int .u64 0, .int .u64 0, .int .u64 0, .int .u64 0, .int .u64 0, .int .u64 0, .int .u64 0, .int .u64 0, .int .u64 0, .int .u64 0, .int .u64 0, .int .u64 0, .int .u64 0, .int .u64 0, .int .u64 0, .int .u64 0, .int .u64 0, .int .u64 0, .int .u64 0, .int .u64 0, .int .u64 0, .int .u64 0, .int .u64 0, .int .u64 0, .int .u64 0, .int .u64 0, .int .u64 0, .int .u64 0, .int .u64 0] 25)
        have hV28 := hV22.trans (bn28.mono hV22.size)
        have ln28 : V22.heap.size < (V22.alloc (.cells #[.int .u64 0, .int .u64 0, .int .u64 0, .int .u64 0, .int .u64 0, .int .u64 0, .int .u64 0, .int .u64 0, .int .u64 0, .int .u64 0, .int .u64 0, .int .u64 0, .int .u64 0, .int .u64 0, .int .u64 0, .int .u64 0, .int .u64 0, .int .u64 0, .int .u64 0, .int .u64 0, .int .u64 0, .int .u64 0, .int .u64 0, .int .u64 0, .int .u64 0, .int .u64 0, .int .u64 0, .int .u64 0, .int .u64 0, .int .u64 0, .int .u64 0, .int .u64 0, .int .u64 0] 25)).heap.size := by rw [World.size_alloc]; omega
        have lo28 : wr.heap.size ≤ V22.heap.size := hV22.size
        have tt29 := there_below tn22 ln22 bn28
        have ll29 := Nat.lt_of_lt_of_le ln22 bn28.size
        clear bn28
        generalize V22.alloc (.cells #[.int .u64 0, .int .u64 0, .int .u64 0, .int .u64 0, .int .u64 0, .int .u64 0, .int .u64 0, .int .u64 0, .int .u64 0, .int .u64 0, .int .u64 0, .int .u64 0, .int .u64 0, .int .u64 0, .int .u64 0, .int .u64 0, .int .u64 0, .int .u64 0, .int .u64 0, .int .u64 0, .int .u64 0, .int .u64 0, .int .u64 0, .int .u64 0, .int .u64 0, .int .u64 0, .int .u64 0, .int .u64 0, .int .u64 0, .int .u64 0, .int .u64 0, .int .u64 0, .int .u64 0] 25) = V28 at *
        generalize V22.heap.size = B28 at *
        refine hK.out _ _ hV28 (fun hHeld => ?_)
        clear hK K
        try simp only [Act.put, List.setIfInBounds_toArray, List.set_cons_zero, List.set_cons_succ, List.getElem_toArray, List.getElem_cons_succ, List.getElem_cons_zero]
        refine wpAnyH_ready (rs := [6]) (by kernel_rfl) (by simp) ?_
        refine AllReadyH.cons rfl (fun K hK => ?_) AllReadyH.nil
        go_simp
        go_at_call 9
        refine (cs.out V28 hV28).mono ?_
        rintro e V30 ⟨rfl, hb30⟩
        have hV30 := hV28.trans (hb30.mono hV28.size)
        have tt31 := there_below tn28 ln28 hb30
        have ll31 := Nat.lt_of_lt_of_le ln28 hb30.size
        have tt32 := there_below tt29 ll29 hb30
        have ll32 := Nat.lt_of_lt_of_le ll29 hb30.size
        refine hK.out _ _ hV30 (fun hHeld => ?_)
        clear hK K
        try simp only [Act.put, List.setIfInBounds_toArray, List.set_cons_zero, List.set_cons_succ, List.getElem_toArray, List.getElem_cons_succ, List.getElem_cons_zero]
        refine wpAnyH_take (i := 7) (v := (.tuple #[.agg (rl (z0 G)).toArray, .agg #[.bool true, .int .u64 cc, .int .u64 pc]])) rfl (by kernel_rfl) (by kernel_rfl) (by kernel_rfl) (fun _ _ _ h => h) (Or.inl ⟨by rfl, fun ww hSw => by clear hSw; go_simp⟩) (by assumption) ?_
        simp only [Act.put, List.setIfInBounds_toArray, List.set_cons_zero, List.set_cons_succ, List.getElem_toArray, List.getElem_cons_succ, List.getElem_cons_zero]
        refine wpAnyH_take (i := 8) (v := (.agg (rl (z0 G)).toArray)) rfl (by kernel_rfl) (by kernel_rfl) (by kernel_rfl) (fun _ _ _ h => h) (Or.inl ⟨by rfl, fun ww hSw => by clear hSw; go_simp⟩) (by assumption) ?_
        simp only [Act.put, List.setIfInBounds_toArray, List.set_cons_zero, List.set_cons_succ, List.getElem_toArray, List.getElem_cons_succ, List.getElem_cons_zero]
        refine wpAnyH_take (i := 9) (v := (.agg #[.bool true, .int .u64 cc, .int .u64 pc])) rfl (by kernel_rfl) (by kernel_rfl) (by kernel_rfl) (fun _ _ _ h => h) (Or.inl ⟨by rfl, fun ww hSw => by clear hSw; go_simp⟩) (by assumption) ?_
        simp only [Act.put, List.setIfInBounds_toArray, List.set_cons_zero, List.set_cons_succ, List.getElem_toArray, List.getElem_cons_succ, List.getElem_cons_zero]
        refine wpAnyH_ready (rs := [12]) (by kernel_rfl) (by simp) ?_
        refine AllReadyH.cons rfl (fun K hK => ?_) AllReadyH.nil
        refine step_store_mid rfl 25 (.tmp 13) (.tmp 55) rfl B28 0 (rl (z0 G)).toArray (by simp [Act.eval]) (by simp [Act.eval]) (by rw [rl_size]; exact tt31) (by kernel_rfl) (rl_one _) ?_
        change K _ (V30.setCells B28 0 (rl (z0 G)))
        have r12 := Rg.make tt31 (z0 G)
        have t12 : (V30.setCells B28 0 (rl (z0 G))).there B22 0 3 := World.there_setCells tt32 _ _ _
        have h12 := below_setCells hV30 B28 lo28 0 (rl (z0 G))
        generalize V30.setCells B28 0 (rl (z0 G)) = V12 at *
        refine hK.out _ _ h12 (fun hHeld => ?_)
        clear hK K
        try simp only [Act.put, List.setIfInBounds_toArray, List.set_cons_zero, List.set_cons_succ, List.getElem_toArray, List.getElem_cons_succ, List.getElem_cons_zero]
        refine wpAnyH_ready (rs := [13]) (by kernel_rfl) (by simp) ?_
        refine AllReadyH.cons rfl (fun K hK => ?_) AllReadyH.nil
        refine step_store_mid rfl 37 (.tmp 14) (.tmp 56) rfl B22 0 #[.bool true, .int .u64 cc, .int .u64 pc] (by simp [Act.eval]) (by simp [Act.eval]) t12 (by kernel_rfl) (by simp [Value.oneCell']) ?_
        change K _ (V12.setCells B22 0 [.bool true, .int .u64 cc, .int .u64 pc])
        have r13 := r12.apart 0 [.bool true, .int .u64 cc, .int .u64 pc] (show B28 ≠ B22 by omega)
        have t13 := World.rangeAt_setCells_same V12 B22 0 [.bool true, .int .u64 cc, .int .u64 pc] t12
        have h13 := below_setCells h12 B22 lo22 0 [.bool true, .int .u64 cc, .int .u64 pc]
        generalize V12.setCells B22 0 [.bool true, .int .u64 cc, .int .u64 pc] = V13 at *
        refine hK.out _ _ h13 (fun hHeld => ?_)
        clear hK K
        try simp only [Act.put, List.setIfInBounds_toArray, List.set_cons_zero, List.set_cons_succ, List.getElem_toArray, List.getElem_cons_succ, List.getElem_cons_zero]
        refine wpAnyH_done (by kernel_rfl) ?_ _
        refine NoPanic.normal ?_
        go_wp2
        go_meet
        exact ⟨_, _, rfl, rfl, r13, t13, h13⟩
      case rest =>
        obtain ⟨A, T, rfl, rfl, hA, hT, hB⟩ := hcut
        have hw : Rg wc k1 (z0 G) := Hw.out.below hB
        have t0 := range_at hT 0 _ rfl
        have t1 := range_at hT 1 _ rfl
        have t2 := range_at hT 2 _ rfl
        have HBn : Hid (Below W9.heap.size W9 wc) := HB.out.trans (hB.mono HB.out.size)
        have HA : Hid (Rg wc A (z0 G)) := hA
        have HW : Hid (Rg wc k1 (z0 G)) := hw
        have hre : ∀ W : World, (binOp .neq 25 (.agg (rl (z0 G)).toArray) (.agg (rl (z0 G)).toArray)).run Tryz.prog W = .ok (.bool false) W := fun W => by rw [neq_regs, rEq_refl]; rfl
        have hte : ∀ (c u : Int) (W : World), (binOp .neq 37 (.agg #[.bool true, .int .u64 c, .int .u64 u]) (.agg #[.bool true, .int .u64 c, .int .u64 u])).run Tryz.prog W = .ok (.bool false) W := fun c u W => by rw [neq_trap, show tEq true true c c u u = true by simp [tEq]]; rfl
        clear hA hw hT hB cs lw
        by_cases h4 : pc % 4 = 0
        · obtain rfl : cc = 12 := by
            have := HCC.out
            rw [if_pos h4] at this
            exact this.symm
          go_upto_region 17 with fail
          refine wp_region_lit ?_
          refine wpList_load_mid rfl 25 (.tmp 13) rfl A 0 (by simp [Act.eval]) (rl (z0 G)) _ HA.out.r Tryz.underlying25 rfl (by kernel_rfl) ?_
          refine wpList_load_mid rfl 25 (.tmp 8) rfl k1 0 (by simp [Act.eval, Act.put]) (rl (z0 G)) _ HW.out.r Tryz.underlying25 rfl (by kernel_rfl) ?_
          simp only [Act.put, List.setIfInBounds_toArray, List.set_cons_zero, List.set_cons_succ]
          go_wp2
          exact ⟨⟨k + 1, by omega, by go_num, HBn.out⟩, by simp [intOf]; omega⟩
        · obtain rfl : cc = 0 := by
            have := HCC.out
            rw [if_neg h4] at this
            exact this.symm
          go_upto_region 17 with fail
          refine wp_region_lit ?_
          refine wpList_load_mid rfl 25 (.tmp 13) rfl A 0 (by simp [Act.eval]) (rl (z0 G)) _ HA.out.r Tryz.underlying25 rfl (by kernel_rfl) ?_
          refine wpList_load_mid rfl 25 (.tmp 8) rfl k1 0 (by simp [Act.eval, Act.put]) (rl (z0 G)) _ HW.out.r Tryz.underlying25 rfl (by kernel_rfl) ?_
          simp only [Act.put, List.setIfInBounds_toArray, List.set_cons_zero, List.set_cons_succ]
          go_wp2
          exact ⟨⟨k + 1, by omega, by go_num, HBn.out⟩, by simp [intOf]; omega⟩
    · have i1 : ¬ (k : Int) < 3 := by omega
      have HB : Hid (Below W9.heap.size W9 wr) := hb
      clear hb
      go_wp2
      go_ret
      exact ⟨rfl, HB9.out.trans (HB.out.mono HB9.out.size)⟩
end
end Go.Proofs.YtcjkedgoinbofaaGreat
