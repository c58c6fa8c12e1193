import Derived.Test.YthdlefbaegbldaaGreatDoorTi
namespace Go.Proofs.YthdlefbaegbldaaGreatDoor
open Go.RowKit Go.Shelf
set_option linter.unusedVariables false
set_option linter.unusedSimpArgs false
set_option maxRecDepth 100000
section
variable {ops : Array Oper} {rest : List Oper} {o : Oper} {a : Act} {w : World} {Q : Exit → Act → World → Prop}
theorem wpl_wantG (hw : Region.wanted o (yielded ops a.tmps) = true) (h : ∀ K : Act → World → Prop, (∀ a' w', wpList Tryz.prog ops Q rest a' w' → K a' w') → o.wp Tryz.prog a w K Q) : wpList Tryz.prog ops Q (o :: rest) a w := by
  unfold wpList
  rw [if_pos hw]
  exact .inl (h _ (fun _ _ q => q))
theorem wpl_loadG (hw : Region.wanted o (yielded ops a.tmps) = true) (ty : TypeId) (x : Operand) (ho : o.op = .load ty x) (b oo : Nat) (hx : a.eval x = .pointer (some ⟨b, oo, none⟩)) (cs : List Value) (d : TypeDesc) (hc : w.rangeAt b oo cs)
    (hu : Tryz.prog.underlying ty = some d) (hd : d.isRow = true) (hi : (Tryz.prog.info? ty).map (·.size) = some cs.length) (h : wpList Tryz.prog ops Q rest (a.put o.dst (.agg cs.toArray)) w) : wpList Tryz.prog ops Q (o :: rest) a w :=
  wpl_wantG hw fun _ hK => wp_load_mid ty x ho b oo hx cs d hc hu hd hi (hK _ _ h)
theorem wpl_builtG (hw : Region.wanted o (yielded ops a.tmps) = true) (t : TypeId) (parts : Array (Nat × Operand)) (ho : o.op = .build t parts) (cs : Array Value) (hb : Tryz.prog.built t (parts.map fun (i, x) => (i, a.eval x)).toList = some cs) (h : wpList Tryz.prog ops Q rest (a.put o.dst (.agg cs)) w) : wpList Tryz.prog ops Q (o :: rest) a w :=
  wpl_wantG hw fun _ hK => wp_build t parts ho (by rw [hb]; rfl) (by rw [hb]; exact hK _ _ h)
theorem wpl_readG (hw : Region.wanted o (yielded ops a.tmps) = true) (v : Value) (hrun : (execOp a.eval o).run Tryz.prog w = .ok (.value v) w) (h : wpList Tryz.prog ops Q rest (a.put o.dst v) w) : wpList Tryz.prog ops Q (o :: rest) a w := by
  refine wpl_wantG hw fun K hK => ?_
  unfold Oper.wp
  rw [hrun, Oper.upon_value]
  exact hK _ _ h
end
theorem Ind.range {w : World} {tb o : Nat} {typ major minor links refs : Int} {size : Nat} {fr : List Nat} (h : Ind w tb o typ major minor links refs size fr) : w.rangeAt tb o (ic typ major minor links refs size (blk fr)) := by
  intro j v hv
  have hj : j < 70 := by
    have := (List.getElem?_eq_some_iff.1 hv).1
    rwa [ic_len] at this
  unfold ic at hv
  match j, hv with
  | 0, hv => injection hv with hv; subst hv; exact h.c0
  | 1, hv => injection hv with hv; subst hv; exact h.c1
  | 2, hv => injection hv with hv; subst hv; exact h.c2
  | 3, hv => injection hv with hv; subst hv; exact h.c3
  | 4, hv => injection hv with hv; subst hv; exact h.c4
  | 5, hv => injection hv with hv; subst hv; exact h.c5
  | j + 6, hv =>
    rw [List.getElem?_append_right (by simp), List.getElem?_map] at hv
    simp only [List.length_cons, List.length_nil] at hv
    rw [show j + 6 - (0 + 1 + 1 + 1 + 1 + 1 + 1) = j by omega, List.getElem?_range (by omega)] at hv
    injection hv with hv
    subst hv
    have := h.cb j (by omega)
    rw [show o + (j + 6) = o + 6 + j by omega]
    exact this
theorem fieldI : ∃ f fs, (Tryz.prog.fieldsOf 91).toList = f :: fs ∧ f.name ≠ "_" ∧ f.type = 3 ∧ f.offset = 0 := by
  have h : ((Tryz.prog.fieldsOf 91).toList.map (fun f => (f.name, f.type, f.offset)))[0]? = some ("typ", 3, 0) := by kernel_rfl
  generalize (Tryz.prog.fieldsOf 91).toList = L at h
  cases L with
  | nil => cases h
  | cons f L =>
    simp only [List.map_cons, List.getElem?_cons_zero, Option.some.injEq, Prod.mk.injEq] at h
    obtain ⟨a1, a2, a3⟩ := h
    exact ⟨f, L, rfl, by rw [a1]; decide, a2, a3⟩
theorem eqI_no (typ major minor links refs size : Int) (bl : Nat → Int) (ht : typ ≠ 0) (w : World) : (binOp .eql 91 (.agg (ic typ major minor links refs size bl).toArray) (.agg Tryz.zeroCells91)).run Tryz.prog w = .ok (.bool false) w := by
  obtain ⟨f, fs, e, a1, a2, a3⟩ := fieldI
  have p0 : ∀ (w : World), (part 3 (ic typ major minor links refs size bl).toArray 0).run Tryz.prog w = .ok (.int .i64 typ) w := fun w => by kernel_rfl
  have p1 : ∀ (w : World), (part 3 Tryz.zeroCells91 0).run Tryz.prog w = .ok (.int .i64 0) w := fun w => by kernel_rfl
  rw [run_eql_struct, show (10000 : Nat) = 9999 + 1 from rfl, run_equalIn_struct w 9999 91 _ _ (by kernel_rfl) (by kernel_rfl), e]
  simp [Op.eqFields, a1, a2, a3, p0, p1, run_equalIn_int _ 9998 3 _ _ _ _ Tryz.underlying3, ht]
theorem built_z70 : Tryz.prog.built 91 [] = some z70.toArray := by kernel_rfl
theorem guardI (op : BinOp) (x y : Operand) (xs ys : Array Value) (w : World) : (eqGuard op 91 x y (.agg xs) (.agg ys)).run Tryz.prog w = .ok () w := run_eqGuard_agg w op 91 x y _ _ (by kernel_rfl)
set_option maxHeartbeats 400000 in
theorem getT_any {w : World} {tb p : Nat} {typ major minor links refs : Int} {size : Nat} {fr : List Nat} (k : Nat) (hk : k < 200) (h : Ind w tb (1 + 70 * k) typ major minor links refs size fr) (ht : typ ≠ 0) (hc : w.cell? ⟨tb, 0, .none⟩ = some (.pointer (some ⟨p, 0, .none⟩))) :
    Calls Tryz.prog 59 #[.pointer (some ⟨tb, 0, .none⟩), .int .i64 k] w fun e w' => e = .returned (.tuple #[.pointer (some ⟨tb, 1 + k * 70, .none⟩), .int .i64 0]) ∧ w' = w := by
  have hr := h.range
  rw [Nat.mul_comm 70 k] at hr
  have hl : (ic typ major minor links refs size (blk fr)).length = 70 := ic_len _ _ _ _ _ _ _
  have heq := fun W => eqI_no typ major minor links refs size (blk fr) ht W
  generalize ic typ major minor links refs size (blk fr) = CC at *
  have HR : Hid (w.rangeAt tb (1 + k * 70) CC ∧ CC.length = 70) := ⟨hr, hl⟩
  have i0 : ¬ (k : Int) < 0 := by omega
  have i1 : ¬ (k : Int) ≥ 200 := by omega
  have hgd := fun x y W => guardI .eql x y CC.toArray Tryz.zeroCells91 W
  clear hr hl h ht
  go_enter Tryz.func59, Tryz.ntmps59
  go_wp2_with ((refine wpl_loadG (by kernel_rfl) 91 (.tmp 28) rfl tb (1 + k * 70) (by simp [Act.eval]) CC _ HR.out.1 Tryz.underlying91 rfl (by rw [HR.out.2]; kernel_rfl) ?_))
  go_ret2
  exact ⟨rfl, rfl⟩
/-- What Stat tells of the root of a new tree. -/
def st1 : Value := .agg #[.int .i32 1, .int .u32 1, .int .i16 1, .int .i16 1, .int .u64 32]
set_option maxHeartbeats 400000 in
theorem statT_root {w : World} {tb p : Nat} {fr : List Nat} (h : Ind w tb 71 1 0 0 1 0 32 fr) (hc : w.cell? ⟨tb, 0, .none⟩ = some (.pointer (some ⟨p, 0, .none⟩))) :
    Calls Tryz.prog 38 #[.pointer (some ⟨tb, 0, .none⟩), .int .i64 1] w fun e w' => e = .returned st1 ∧ Below w.heap.size w w' := by
  obtain ⟨W, hW⟩ : ∃ W, W = w.alloc (.cells #[.int .i32 0, .int .u32 0, .int .i16 0, .int .i16 0, .int .u64 0] 73) := ⟨_, rfl⟩
  have HW : Hid (w.alloc (.cells #[.int .i32 0, .int .u32 0, .int .i16 0, .int .i16 0, .int .u64 0] 73) = W) := hW.symm
  have HB : Hid (Below w.heap.size w W ∧ W.heap.size = w.heap.size + 1) := by rw [hW]; exact ⟨(Below.refl _ _).alloc (Nat.le_refl _) _, by simp⟩
  have y0 : W.cell? ⟨w.heap.size, 0, .none⟩ = some (.int .i32 0) := by rw [hW, World.cell?_alloc_at _ _ _ _ rfl]; rfl
  have y1 : W.cell? ⟨w.heap.size, 1, .none⟩ = some (.int .u32 0) := by rw [hW, World.cell?_alloc_at _ _ _ _ rfl]; rfl
  have y2 : W.cell? ⟨w.heap.size, 2, .none⟩ = some (.int .i16 0) := by rw [hW, World.cell?_alloc_at _ _ _ _ rfl]; rfl
  have y3 : W.cell? ⟨w.heap.size, 3, .none⟩ = some (.int .i16 0) := by rw [hW, World.cell?_alloc_at _ _ _ _ rfl]; rfl
  have y4 : W.cell? ⟨w.heap.size, 4, .none⟩ = some (.int .u64 0) := by rw [hW, World.cell?_alloc_at _ _ _ _ rfl]; rfl
  have yf : ∀ i, W.frozen? ⟨w.heap.size, i, .none⟩ = false := fun i => by rw [hW]; exact froz_new _ _ _ _
  have f0 := yf 0
  have f1 := yf 1
  have f2 := yf 2
  have f3 := yf 3
  have f4 := yf 4
  have hlt := h.lt
  have hI : Ind W tb 71 1 0 0 1 0 32 fr := h.keep (HB.out.1.block _ hlt)
  have cg := getT_any 1 (by omega) hI (by omega) ((HB.out.1.cell (p := ⟨tb, 0, .none⟩) hlt).trans hc)
  have k0 : W.cell? ⟨tb, 71, .none⟩ = some (.int .i64 1) := hI.c0
  have k3 : W.cell? ⟨tb, 74, .none⟩ = some (.int .i64 1) := hI.c3
  have k5 : W.cell? ⟨tb, 76, .none⟩ = some (.int .i64 32) := hI.c5
  have HT : Hid (W.there w.heap.size 0 5) := fun j hj => by
    rw [Nat.zero_add]
    refine ⟨?_, yf j⟩
    match j, hj with
    | 0, _ => rw [y0]; rfl
    | 1, _ => rw [y1]; rfl
    | 2, _ => rw [y2]; rfl
    | 3, _ => rw [y3]; rfl
    | 4, _ => rw [y4]; rfl
  have hne : tb ≠ w.heap.size := by omega
  clear hW h hc hI yf
  go_enter Tryz.func38, Tryz.ntmps38
  go_upto_region 1 with fail
  rw [HW.out]
  clear HW
  go_wp2_with fail
  refine cg.mono ?_
  rintro _ X ⟨rfl, hX⟩
  obtain rfl : W = X := hX.symm
  clear cg
  go_upto_region 4 with fail
  go_region
  go_wp2
  have e : ∀ (vs : List Value) (o : Nat) (V : World), (V.setCells w.heap.size o vs).drew = V.drew.setCells w.heap.size o vs := fun vs => by
    induction vs with
    | nil => intro o V; rfl
    | cons v vs ih => intro o V; exact ih (o + 1) _
  have e1 := e [.int .i32 1, .int .u32 1, .int .i16 1, .int .i16 1, .int .u64 32] 0 W
  simp only [World.setCells, Nat.zero_add, Nat.reduceAdd] at e1
  rw [e1]
  refine ret_cells (V := W.drew) (z := w.heap.size) [.int .i32 1, .int .u32 1, .int .i16 1, .int .i16 1, .int .u64 32] rfl rfl HT.out (fun V h => run_loadVar_mid (P := Tryz.prog) V _ 0 73 _ _ h Tryz.underlying73 rfl (by kernel_rfl)) rfl ?_
  intro X hX
  have bb : Below w.heap.size w W.drew := HB.out.1.drew
  exact ⟨rfl, bb.trans (hX.toBelow (Nat.le_refl _) bb.size)⟩
theorem ne_st1 (w : World) : (binOp .neq 73 st1 (.agg #[.int .i32 0, .int .u32 0, .int .i16 0, .int .i16 0, .int .u64 0])).run Tryz.prog w = .ok (.bool true) w := by kernel_rfl
theorem isTree_any {w : World} {tb p : Nat} {fr : List Nat} (h : Ind w tb 71 1 0 0 1 0 32 fr) (hc : w.cell? ⟨tb, 0, .none⟩ = some (.pointer (some ⟨p, 0, .none⟩))) :
    Calls Tryz.prog 52 #[.pointer (some ⟨tb, 0, .none⟩)] w fun e w' => e = .returned (.bool true) ∧ Below w.heap.size w w' := by
  have cs := statT_root h hc
  have hne := ne_st1
  simp only [st1] at cs hne
  clear h hc
  go_enter Tryz.func52, Tryz.ntmps52
  go_wp2_with fail
  refine cs.mono ?_
  rintro _ X ⟨rfl, hX⟩
  have HX : Hid (Below w.heap.size w X) := hX
  clear hX cs
  go_wp2
  go_ret
  exact ⟨rfl, HX.out⟩
end Go.Proofs.YthdlefbaegbldaaGreatDoor
