import Derived.Test.YtockhlboeaignaaDoorPk1
namespace Go.Proofs.YtockhlboeaignaaDoor
open Go.RowKit
set_option linter.unusedVariables false
set_option linter.unusedSimpArgs false
set_option maxRecDepth 10000
theorem ent_cells (z : Int) (l : Bs) (hl : l.length = 14) (w : World) : (Instr.build 46 #[(0, .int .i64 z), (1, .agg (u8s l).toArray)]).run Tryd.prog w = .ok (.agg (ent z l).toArray) w := by
  obtain ⟨a0, a1, a2, a3, a4, a5, a6, a7, a8, a9, a10, a11, a12, a13, rfl⟩ : ∃ a0 a1 a2 a3 a4 a5 a6 a7 a8 a9 a10 a11 a12 a13, l = [a0, a1, a2, a3, a4, a5, a6, a7, a8, a9, a10, a11, a12, a13] := by
    match l, hl with
    | [a0, a1, a2, a3, a4, a5, a6, a7, a8, a9, a10, a11, a12, a13], _ => exact ⟨a0, a1, a2, a3, a4, a5, a6, a7, a8, a9, a10, a11, a12, a13, rfl⟩
  kernel_rfl
theorem build_val {P : Program} {ev : Operand → Value} {o : Oper} {w : World} {v : Value} {t : TypeId} {ps : Array (Nat × Operand)} {qs : Array (Nat × Value)} (h : (Instr.build t qs).run P w = .ok v w) (ho : o.op = .build t ps := by rfl) (hq : (ps.map fun (i, x) => (i, ev x)) = qs := by rfl) : (execOp ev o).run P w = .ok (.value v) w := by
  unfold execOp
  simp only [ho, Sem.run_bind, hq, h, Result.andThen_ok, Sem.run_pure]
theorem Gb.up {xs : List Int} {w X Y : World} {e : Ending} (h : Gb xs X e Y) (hb : Below w.heap.size w X) : Gb xs w e Y := by
  obtain ⟨p, c, h1, h2, h3⟩ := h
  exact ⟨p, c, h1, rebase h2 hb.size, hb.trans (h3.mono hb.size)⟩
theorem Gb.belowG {xs : List Int} {w Y : World} {e : Ending} (h : Gb xs w e Y) : Below w.heap.size w Y := by
  obtain ⟨p, c, h1, h2, h3⟩ := h
  exact h3
set_option maxHeartbeats 1000000 in
theorem pack_any (z : Int) (s : Bs) (w : World) (hz : -9223372036854775808 ≤ z ∧ z < 9223372036854775808) : Calls Tryd.prog 11 #[.agg #[.int .i64 z, .string ⟨s.toArray⟩]] w (Gb (pkx z (padb s)) w) := by
  have hp := padb_len s
  have c20 := fun W => pad_any s W
  have c21 := fun W => bytes21_any z (padb s) W hp hz
  have hbl := fun W => ent_cells z (padb s) hp W
  have hb0 := below_past w (.cells #[.int .i64 z, .string ⟨s.toArray⟩] 23)
  have z0 : (w.alloc (.cells #[.int .i64 z, .string ⟨s.toArray⟩] 23)).cell? ⟨w.heap.size, 0, .none⟩ = some (.int .i64 z) := by rw [World.cell?_alloc_at _ _ _ _ rfl]; rfl
  have z1 : (w.alloc (.cells #[.int .i64 z, .string ⟨s.toArray⟩] 23)).cell? ⟨w.heap.size, 1, .none⟩ = some (.string ⟨s.toArray⟩) := by rw [World.cell?_alloc_at _ _ _ _ rfl]; rfl
  have zs : w.heap.size < (w.alloc (.cells #[.int .i64 z, .string ⟨s.toArray⟩] 23)).heap.size := by simp
  clear hp
  go_enter Tryd.func11, Tryd.ntmps11
  go_upto_region 1 with fail
  generalize (w.alloc (.cells #[.int .i64 z, .string ⟨s.toArray⟩] 23)) = V at *
  have hS : V.drew.cell? ⟨w.heap.size, 0, .none⟩ = some (.int .i64 z) ∧ V.drew.cell? ⟨w.heap.size, 1, .none⟩ = some (.string ⟨s.toArray⟩) ∧ Below V.heap.size V V.drew := ⟨z0, z1, (Below.refl _ _).drew⟩
  refine wp_region_held_drew (S := fun U => U.cell? ⟨w.heap.size, 0, .none⟩ = some (.int .i64 z) ∧ U.cell? ⟨w.heap.size, 1, .none⟩ = some (.string ⟨s.toArray⟩) ∧ Below V.heap.size V U) (by kernel_rfl) hS (fun hHeld => ?_)
  refine wpAnyH_take (i := 0) (v := .pointer (some ⟨w.heap.size, 0, .none⟩)) rfl (by kernel_rfl) (by kernel_rfl) (by kernel_rfl) (fun _ _ _ h => h) (Or.inl ⟨by rfl, fun ww hSw => by (try dsimp only at hSw); go_simp⟩) (by assumption) ?_
  simp only [Act.put, List.setIfInBounds_toArray, List.set_cons_zero, List.set_cons_succ, List.getElem_toArray, List.getElem_cons_succ, List.getElem_cons_zero]
  refine wpAnyH_take (i := 1) (v := .int .i64 z) rfl (by kernel_rfl) (by kernel_rfl) (by kernel_rfl) (fun _ _ _ h => h) (Or.inl ⟨by rfl, fun ww hSw => by (try dsimp only at hSw); have hq := hSw.1; go_simp⟩) (by assumption) ?_
  simp only [Act.put, List.setIfInBounds_toArray, List.set_cons_zero, List.set_cons_succ, List.getElem_toArray, List.getElem_cons_succ, List.getElem_cons_zero]
  refine wpAnyH_take (i := 2) (v := .pointer (some ⟨w.heap.size, 1, .none⟩)) rfl (by kernel_rfl) (by kernel_rfl) (by kernel_rfl) (fun _ _ _ h => h) (Or.inl ⟨by rfl, fun ww hSw => by (try dsimp only at hSw); go_simp⟩) (by assumption) ?_
  simp only [Act.put, List.setIfInBounds_toArray, List.set_cons_zero, List.set_cons_succ, List.getElem_toArray, List.getElem_cons_succ, List.getElem_cons_zero]
  refine wpAnyH_take (i := 3) (v := .string ⟨s.toArray⟩) rfl (by kernel_rfl) (by kernel_rfl) (by kernel_rfl) (fun _ _ _ h => h) (Or.inl ⟨by rfl, fun ww hSw => by (try dsimp only at hSw); have hq := hSw.2.1; go_simp⟩) (by assumption) ?_
  simp only [Act.put, List.setIfInBounds_toArray, List.set_cons_zero, List.set_cons_succ, List.getElem_toArray, List.getElem_cons_succ, List.getElem_cons_zero]
  refine wpAnyH_ready (rs := [4]) (by kernel_rfl) (by simp) ?_
  refine AllReadyH.cons rfl (fun K hK => ?_) AllReadyH.nil
  go_simp
  go_at_call 20
  refine (c20 _).mono ?_
  rintro _ X ⟨rfl, hX⟩
  have hVX : Below V.heap.size V X := hS.2.2.trans hX
  clear c20
  refine hK.out _ _ ⟨(hVX.cell (p := ⟨w.heap.size, 0, .none⟩) zs).trans z0, (hVX.cell (p := ⟨w.heap.size, 1, .none⟩) zs).trans z1, hVX⟩ (fun hHeld => ?_)
  clear hK K
  try simp only [Act.put, List.setIfInBounds_toArray, List.set_cons_zero, List.set_cons_succ, List.getElem_toArray, List.getElem_cons_succ, List.getElem_cons_zero]
  refine wpAnyH_take (i := 5) (v := .agg (ent z (padb s)).toArray) rfl (by kernel_rfl) (by kernel_rfl) (by kernel_rfl) (fun _ _ _ h => h) (Or.inl ⟨by rfl, fun ww hSw => by (exact build_val (hbl ww) rfl (by simp [Act.eval]))⟩) (by assumption) ?_
  simp only [Act.put, List.setIfInBounds_toArray, List.set_cons_zero, List.set_cons_succ, List.getElem_toArray, List.getElem_cons_succ, List.getElem_cons_zero]
  refine wpAnyH_ready (rs := [6]) (by kernel_rfl) (by simp) ?_
  refine AllReadyH.cons rfl (fun K hK => ?_) AllReadyH.nil
  go_simp
  go_at_call 21
  refine (c21 _).mono ?_
  rintro e Y hG
  have HG : Hid (Gb (pkx z (padb s)) w e Y) := Gb.up hG (hb0.trans (hVX.mono hb0.size))
  have hVY : Below V.heap.size V Y := hVX.trans (hG.belowG.mono hVX.size)
  obtain ⟨p9, c9, rfl, _⟩ := hG
  clear c21
  refine hK.out _ _ ⟨(hVY.cell (p := ⟨w.heap.size, 0, .none⟩) zs).trans z0, (hVY.cell (p := ⟨w.heap.size, 1, .none⟩) zs).trans z1, hVY⟩ (fun hHeld => ?_)
  clear hK K
  try simp only [Act.put, List.setIfInBounds_toArray, List.set_cons_zero, List.set_cons_succ, List.getElem_toArray, List.getElem_cons_succ, List.getElem_cons_zero]
  refine wpAnyH_take (i := 7) (v := .slice p9 (pkx z (padb s)).length c9) rfl (by kernel_rfl) (by kernel_rfl) (by kernel_rfl) (fun _ _ _ h => h) (Or.inl ⟨by rfl, fun ww hSw => by (try dsimp only at hSw); go_simp⟩) (by assumption) ?_
  simp only [Act.put, List.setIfInBounds_toArray, List.set_cons_zero, List.set_cons_succ, List.getElem_toArray, List.getElem_cons_succ, List.getElem_cons_zero]
  refine wpAnyH_done (by kernel_rfl) ?_ _
  go_wp2
  go_ret
  exact HG.out
theorem padb_get (s : Bs) (i : Nat) (hi : i < 14) : (padb s)[i]? = some ((s.take 14).getD i 0) := by
  unfold padb
  rcases Nat.lt_or_ge i (s.take 14).length with h | h
  · rw [List.getElem?_append_left h, List.getD_eq_getElem?_getD, List.getElem?_eq_getElem h]; rfl
  · rw [List.getElem?_append_right h, List.getElem?_replicate, if_pos (by omega), List.getD_eq_getElem?_getD, List.getElem?_eq_none h]; rfl
theorem app_below5 {w A w1 : World} {n : Nat} {v : Value} {xs : List Value} {o : Obj} (hr : A.ownsRow w.heap.size 5 1 v n xs) (hb : Below w.heap.size w A) (hg : (A.alloc o).grownBy w1 v.ownBlock) : Below w.heap.size w w1 := by
  refine (hb.alloc hb.size o).grown hg (by have := hb.size; simp; omega) (fun k e => ?_)
  rcases hr.2 with ⟨rfl, _⟩ | ⟨g, cap, cur, rfl, hb, hgb, _⟩
  · cases e
  · cases e; exact hb
/-- The document's loop. -/
def PI (z : Int) (s : Bs) (w : World) (a b : Value) (W : World) : Prop :=
  ∃ (i : Nat) (q : Option Addr) (c : Nat), i ≤ 14 ∧ b = .int .i64 i ∧ a = .slice q (i + 2) c ∧ W.ownsRow w.heap.size 5 1 a (i + 2) (by8 (pkx z ((padb s).take i))) ∧ Below w.heap.size w W
set_option maxHeartbeats 2000000 in
theorem rpack_any (z : Int) (s : Bs) (w : World) (hz : -9223372036854775808 ≤ z ∧ z < 9223372036854775808) (hs : s.length < 9223372036854775808) : Calls Tryd.prog 12 #[.int .i64 z, .string ⟨s.toArray⟩] w (Gb (pkx z (padb s)) w) := by
  have c17 := fun W => cut_any s W hs
  have hle : (s.take 14).length ≤ 14 := by rw [List.length_take]; omega
  have hpg := padb_get s
  obtain ⟨t, ht⟩ : ∃ t, s.take 14 = t := ⟨_, rfl⟩
  simp only [ht] at c17 hle hpg
  have HPG : Hid (∀ i, i < 14 → (padb s)[i]? = some (t.getD i 0)) := hpg
  have hsz : (⟨t.toArray⟩ : ByteArray).size = t.length := by simp [ByteArray.size]
  clear ht hpg
  obtain ⟨i3, z3, hi3, hz3, hs3, hb3, hzs3⟩ := byte_info
  have HI : Hid (Tryd.prog.info? 5 = some i3 ∧ i3.zero = some z3 ∧ i3.size = 1 ∧ i3.bytes = 1 ∧ z3.cells.size = 1) := ⟨hi3, hz3, hs3, hb3, hzs3⟩
  clear hi3 hz3 hs3 hb3 hzs3
  go_enter Tryd.func12, Tryd.ntmps12
  go_wp2_with (go_at_call 17; refine (c17 _).mono ?_; rintro _ _ ⟨rfl, rfl⟩)
  have hb0 := below_past w (.cells #[.int .u8 (z % 256), .int .u8 (z / 256 % 256)] 5)
  have ho0 : (w.alloc (.cells #[.int .u8 (z % 256), .int .u8 (z / 256 % 256)] 5)).ownsRow w.heap.size 5 1 (.slice (some ⟨w.heap.size, 0, .none⟩) 2 2) 2 (by8 (pkx z ((padb s).take 0))) :=
    ⟨rfl, .inr ⟨w.heap.size, 2, _, rfl, Nat.le_refl _, heap_new _ _, Nat.le_refl _, by decide, rfl, rfl⟩⟩
  generalize (w.alloc (.cells #[.int .u8 (z % 256), .int .u8 (z / 256 % 256)] 5)) = V at *
  go_loopw [5, 6] (fun a b W => PI z s w a b W) (fun _ b _ => 14 - (intOf b).toNat)
  case atStart => exact ⟨0, _, _, by omega, rfl, rfl, ho0, hb0⟩
  case round =>
    obtain ⟨i, q, c, hi, rfl, rfl, hr, hb⟩ := hrel
    clear ho0 hb0 c17
    by_cases h1 : i < 14
    · have j1 : (i : Int) < 14 := by omega
      have hg := HPG.out i h1
      have htk : (padb s).take (i + 1) = (padb s).take i ++ [t.getD i 0] := by rw [List.take_add_one, hg]; rfl
      by_cases h2 : i < t.length
      · have j2 : (i : Int) < t.length := by omega
        have hgd : t.getD i 0 = t[i] := by rw [List.getD_eq_getElem?_getD, List.getElem?_eq_getElem h2]; rfl
        rw [hgd] at htk
        have HE : Hid (by8 (pkx z ((padb s).take (i + 1))) = by8 (pkx z ((padb s).take i)) ++ [.int .u8 (((⟨t.toArray⟩ : ByteArray)[i]'(by rw [hsz]; exact h2)).toNat : Int)]) := by
          rw [htk]; simp only [by8, pkx, List.map_cons, List.map_append, List.map_nil, List.cons_append]; rfl
        clear hg htk hgd
        have HR : Hid (wr.ownsRow w.heap.size 5 1 (.slice q (i + 2) c) (i + 2) (by8 (pkx z ((padb s).take i))) ∧ Below w.heap.size w wr) := ⟨hr, hb⟩
        clear hr hb
        go_wp2_with (at_builtin; refine wpList_append_own _ rfl _ _ 24 rfl w.heap.size 5 i3 z3 1 1 Tryd.underlying24 HI.out.1 HI.out.2.1 HI.out.2.2.1 HI.out.2.2.2.1 HI.out.2.2.2.2 (by decide) (.slice q (i + 2) c) (i + 2) (by8 (pkx z ((padb s).take i))) rfl (HR.out.1.alloc _) ⟨wr.heap.size, 0, .none⟩ 1 1 [.int .u8 (((⟨t.toArray⟩ : ByteArray)[i]'(by rw [hsz]; exact h2)).toNat : Int)] rfl rfl (cell_one_new wr _ 5) (by intro u hu; simp at hu; subst hu; rfl) (by unfold maxLen; omega) (by omega) (by have := HR.out.2.size; simp; omega) ?_; intro v' w1 hown hgrow _; obtain ⟨g', cap', rfl⟩ := ownsRow_succ hown; have HN : Hid (PI z s w (.slice (some ⟨g', 0, .none⟩) (i + 2 + 1) cap') (.int .i64 (i + 1 : Nat)) w1) := ⟨i + 1, _, _, by omega, rfl, by rw [show i + 1 + 2 = i + 2 + 1 by omega], by rw [show i + 1 + 2 = i + 2 + 1 by omega, HE.out]; exact hown, app_below5 HR.out.1 HR.out.2 hgrow⟩; clear hown hgrow)
        exact ⟨HN.out, by simp [intOf]; omega⟩
      · have j2 : ¬ ((i : Int) < t.length) := by omega
        have hgd : t.getD i 0 = 0 := by rw [List.getD_eq_getElem?_getD, List.getElem?_eq_none (by omega)]; rfl
        rw [hgd] at htk
        have HE : Hid (by8 (pkx z ((padb s).take (i + 1))) = by8 (pkx z ((padb s).take i)) ++ [.int .u8 0]) := by
          rw [htk]; simp only [by8, pkx, List.map_cons, List.map_append, List.map_nil, List.cons_append]; rfl
        clear hg htk hgd
        have HR : Hid (wr.ownsRow w.heap.size 5 1 (.slice q (i + 2) c) (i + 2) (by8 (pkx z ((padb s).take i))) ∧ Below w.heap.size w wr) := ⟨hr, hb⟩
        clear hr hb
        go_wp2_with (at_builtin; refine wpList_append_own _ rfl _ _ 24 rfl w.heap.size 5 i3 z3 1 1 Tryd.underlying24 HI.out.1 HI.out.2.1 HI.out.2.2.1 HI.out.2.2.2.1 HI.out.2.2.2.2 (by decide) (.slice q (i + 2) c) (i + 2) (by8 (pkx z ((padb s).take i))) rfl (HR.out.1.alloc _) ⟨wr.heap.size, 0, .none⟩ 1 1 [.int .u8 0] rfl rfl (cell_one_new wr _ 5) (by intro u hu; simp at hu; subst hu; rfl) (by unfold maxLen; omega) (by omega) (by have := HR.out.2.size; simp; omega) ?_; intro v' w1 hown hgrow _; obtain ⟨g', cap', rfl⟩ := ownsRow_succ hown; have HN : Hid (PI z s w (.slice (some ⟨g', 0, .none⟩) (i + 2 + 1) cap') (.int .i64 (i + 1 : Nat)) w1) := ⟨i + 1, _, _, by omega, rfl, by rw [show i + 1 + 2 = i + 2 + 1 by omega], by rw [show i + 1 + 2 = i + 2 + 1 by omega, HE.out]; exact hown, app_below5 HR.out.1 HR.out.2 hgrow⟩; clear hown hgrow)
        exact ⟨HN.out, by simp [intOf]; omega⟩
    · have j1 : ¬ ((i : Int) < 14) := by omega
      obtain rfl : i = 14 := by omega
      have HG : Hid (Gb (pkx z (padb s)) w (.returned (.slice q (14 + 2) c)) wr) := by
        have e : (pkx z (padb s)).length = 14 + 2 := by rw [pkx_len, padb_len]
        have et : (padb s).take 14 = padb s := List.take_of_length_le (by rw [padb_len]; omega)
        rw [et] at hr
        exact ⟨q, c, by rw [e], by rw [e]; exact hr, hb⟩
      clear hr hb
      go_wp2
      go_ret
      exact HG.out
end Go.Proofs.YtockhlboeaignaaDoor
