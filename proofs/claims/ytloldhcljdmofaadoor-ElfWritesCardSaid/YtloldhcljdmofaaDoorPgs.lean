import Derived.Test.YtloldhcljdmofaaDoorWq4
import Derived.Test.YtloldhcljdmofaaDoorWx
namespace Go.Proofs.YtloldhcljdmofaaDoor
open Go.RowKit
set_option linter.unusedVariables false
set_option linter.unusedSimpArgs false
/-- The pages of the first so many segments. -/
def pgL : List Sg → Nat → Int
  | _, 0 => 0
  | [], _ + 1 => 0
  | s :: S, i + 1 => (s.mem + 4095) / 4096 + pgL S i
theorem pgL_succ : ∀ (S : List Sg) (i : Nat) (s : Sg), S[i]? = some s → pgL S (i + 1) = pgL S i + (s.mem + 4095) / 4096
  | [], i, s, h => by simp at h
  | x :: S, 0, s, h => by
    simp only [List.getElem?_cons_zero, Option.some.injEq] at h
    subst h
    simp [pgL]
  | x :: S, i + 1, s, h => by
    simp only [List.getElem?_cons_succ] at h
    have := pgL_succ S i s h
    simp only [pgL] at *
    omega
theorem pgL_bd : ∀ (S : List Sg) (i : Nat), (∀ s ∈ S, 0 ≤ s.mem ∧ s.mem ≤ 1073741824) → 0 ≤ pgL S i ∧ pgL S i ≤ i * 300000
  | S, 0, _ => by cases S <;> simp [pgL]
  | [], i + 1, _ => by simp [pgL]; omega
  | s :: S, i + 1, h => by
    have h1 := pgL_bd S i (fun t ht => h t (List.mem_cons_of_mem _ ht))
    have h2 := h s List.mem_cons_self
    simp only [pgL]
    omega
theorem good_mem {en : Int} {S : List Sg} (h : Good en S) (hv : ∀ s ∈ S, 0 ≤ s.va) : ∀ s ∈ S, 0 ≤ s.mem ∧ s.mem ≤ 1073741824 := fun s hs => by
  obtain ⟨i, hi, hie⟩ := List.getElem_of_mem hs
  have := (h.2.2.1 i s hi (by rw [List.getElem?_eq_getElem hi, hie])).1
  unfold okS ok1 at this
  simp only [Bool.and_eq_true, decide_eq_true_eq] at this
  have := hv s hs
  omega
/-- What elf.Pages comes to. -/
def PxP (w : World) (en : Int) (S : List Sg) (e : Ending) (w' : World) : Prop :=
  Below w.heap.size w w' ∧ ((∃ a r v, Vd en S a r ∧ r ≠ 0 ∧ e = .returned (.tuple #[.int .i64 0, v]) ∧ ErrR w' v a r) ∨ (Good en S ∧ e = .returned (.tuple #[.int .i64 (pgL S S.length), .nilIface])))
set_option maxHeartbeats 4000000 in
set_option maxRecDepth 100000 in
theorem pages_any {w : World} {X : Nat} {sv : Value} {E : List (Sg × Value)} {B : Nat → Int} (h : Prs w X sv E B) (hl : E.length ≤ 1000) (en : Int) (he : 0 ≤ en ∧ en < 18446744073709551616) :
    Calls Tryd.prog 9 #[.agg #[.int .u64 en, sv]] w fun e w' => PxP w en (E.map (·.1)) e w' := by
  obtain ⟨q, c, rfl, hc1, hc2, hq⟩ := own_form h.own
  have HB : Hid (Below w.heap.size w (w.alloc (.cells #[.int .u64 en, .slice q E.length c] 25))) := (Below.refl _ _).alloc (Nat.le_refl _) _
  have q0 : (w.alloc (.cells #[.int .u64 en, .slice q E.length c] 25)).cell? ⟨w.heap.size, 0, .none⟩ = some (.int .u64 en) := World.cell?_alloc_at _ _ _ _ rfl
  have q1 : (w.alloc (.cells #[.int .u64 en, .slice q E.length c] 25)).cell? ⟨w.heap.size, 1, .none⟩ = some (.slice q E.length c) := World.cell?_alloc_at _ _ _ _ rfl
  have HQ0 : Hid _ := q0
  have HQ1 : Hid _ := q1
  have c10 := checkX_any (h.below HB.out) hl en he
  have HP : Hid (Prs w X (.slice q E.length c) E B) := h
  clear h
  go_enter Tryd.func9, Tryd.ntmps9
  go_upto_region 1 with fail
  generalize (w.alloc (.cells #[.int .u64 en, .slice q E.length c] 25)) = W1 at *
  go_upto_region 2 with (go_at_call 20; refine c10.mono ?_; rintro e1 W2 ⟨hb2, a, r, v, hVd, rfl, hE2⟩; rcases hE2 with ⟨hr, hF⟩ | ⟨hr, rfl⟩; rotate_left)
  · have HB2 : Hid (Below W1.heap.size W1 W2) := hb2
    have HG : Hid (Good en (E.map (·.1))) := (vd_good hVd).1 hr
    have hE : (E.map (·.1)).length = E.length := List.length_map ..
    have h8 : E.length ≤ 8 := by rw [← hE]; exact HG.out.2.1
    clear hb2 c10 q0 q1 hVd hr
    have HA2 : Hid (Below w.heap.size w W2) := HB.out.trans (HB2.out.mono HB.out.size)
    have k1 : W2.cell? ⟨w.heap.size, 1, .none⟩ = some (.slice q E.length c) := (HB2.out.cell (lt_of_cell HQ1.out)).trans HQ1.out
    have HM : Hid (∀ s ∈ E.map (·.1), 0 ≤ s.mem ∧ s.mem ≤ 1073741824) := good_mem HG.out (fun s hs => by
      obtain ⟨x, hx, rfl⟩ := List.mem_map.1 hs
      exact (HP.out.va x hx).1)
    go_upto_region 4 with fail
    go_wp2_with fail
    go_loopw [5, 16] (fun s k wr => ∃ i : Nat, i ≤ E.length ∧ k = .int .i64 i ∧ s = .int .u64 (pgL (E.map (·.1)) i) ∧ Hid (Below W2.heap.size W2 wr)) (fun _ k _ => (E.length - intOf k).toNat)
    case atStart => exact ⟨0, by omega, rfl, by cases E <;> rfl, Below.refl _ _⟩
    case round =>
      obtain ⟨i, hi, rfl, rfl, HR⟩ := hrel
      have hbd := pgL_bd _ i HM.out
      by_cases hlt : i < E.length
      · have g0 : (i : Int) < E.length := by omega
        obtain ⟨x, hx⟩ : ∃ x, E[i]? = some x := ⟨E[i], List.getElem?_eq_getElem hlt⟩
        have hxm : (E.map (·.1))[i]? = some x.1 := by rw [List.getElem?_map, hx]; rfl
        obtain ⟨g, dq, dc, rfl, hd, hd1, hd2, a0, a1, a2, a3⟩ := (HP.out.below (HA2.out.trans (HR.out.mono HA2.out.size))).cells hx
        have hmm := HM.out x.1 (List.mem_map.2 ⟨x, List.mem_of_getElem? hx, rfl⟩)
        have HSu : Hid (pgL (E.map (·.1)) (i + 1) = pgL (E.map (·.1)) i + (x.1.mem + 4095) / 4096) := pgL_succ _ i x.1 hxm
        have HN : Hid (Below W2.heap.size W2 (wr.alloc (.cells #[.int .u64 x.1.va, .int .u32 x.1.fl, .slice dq x.1.sz dc, .int .u64 x.1.mem] 54))) := HR.out.alloc HR.out.size _
        clear hxm hd
        generalize pgL (E.map (·.1)) i = y at *
        go_wp2_with fail
        exact ⟨⟨i + 1, by omega, by simp, by rw [HSu.out]; congr 1; omega, HN.out⟩, by simp [intOf]; omega⟩
      · have he' : i = E.length := by omega
        have hn9 : ¬ ((i : Int) < E.length) := by omega
        have HPg : Hid (pgL (E.map (·.1)) i = pgL (E.map (·.1)) (E.map (·.1)).length) := by
          show _ = _
          rw [hE, he']
        generalize pgL (E.map (·.1)) i = y at *
        go_wp2_with fail
        go_ret2
        refine ⟨HA2.out.trans (HR.out.mono HA2.out.size), .inr ⟨HG.out, ?_⟩⟩
        rw [← HPg.out]
        first | rfl | (congr 3; omega)
  · have HB2 : Hid (Below W1.heap.size W1 W2) := hb2
    have HVd : Hid (Vd en (E.map (·.1)) a r) := hVd
    have HRn : Hid (r ≠ 0) := hr
    have HF : Hid (FaultIn W2 0 v a r) := hF
    obtain ⟨fb, _, _, rfl, _⟩ := hF
    clear hb2 hVd hr c10
    go_wp2_with fail
    go_ret2
    exact ⟨HB.out.trans (HB2.out.mono HB.out.size), .inl ⟨a, r, _, HVd.out, HRn.out, rfl, .inl ⟨HRn.out, HF.out⟩⟩⟩
/-- What the document's Pages comes to. -/
def PqP (w : World) (en : Int) (S : List Sg) (e : Ending) (w' : World) : Prop :=
  Below w.heap.size w w' ∧ ((∃ a r p n c, Vd en S a r ∧ r ≠ 0 ∧ e = .returned (.tuple #[.int .i64 0, .agg #[.slice p n c, .int .i64 r]]) ∧ RefR w' (.agg #[.slice p n c, .int .i64 r]) a r) ∨ (Good en S ∧ e = .returned (.tuple #[.int .i64 (pgL S S.length), .agg #[.slice .none 0 0, .int .i64 0]])))
set_option maxHeartbeats 8000000 in
set_option maxRecDepth 100000 in
theorem pagesQ_any {w : World} {q : Option Addr} {m c : Nat} {S : Nat → Sr} {D : Nat → List Int} (h : Arg w q m c S D) (hz : ∀ i, i < m → (S i).n ≤ 400000) (en : Int) (he : 0 ≤ en ∧ en < 18446744073709551616) :
    Calls Tryd.prog 10 #[.agg #[.int .u64 en, .slice q m c]] w fun e w' => PqP w en (sgsG S m) e w' := by
  have HA : Hid (Arg w q m c S D) := h
  have HZ : Hid (∀ i, i < m → (S i).n ≤ 400000) := hz
  have hmc := h.mc
  clear h hz
  have s1 : (w.alloc (.cells #[.int .u64 en, .slice q m c] 25)).heap.size = w.heap.size + 1 := World.size_alloc ..
  have HB1 : Hid (Below w.heap.size w ((w.alloc (.cells #[.int .u64 en, .slice q m c] 25)).alloc (.cells #[.slice .none 0 0, .int .i64 0] 35))) := ((Below.refl _ _).alloc (Nat.le_refl _) _).alloc (by rw [s1]; omega) _
  have HQ0 : Hid (((w.alloc (.cells #[.int .u64 en, .slice q m c] 25)).alloc (.cells #[.slice .none 0 0, .int .i64 0] 35)).cell? ⟨w.heap.size, 0, .none⟩ = some (.int .u64 en)) := by
    show _ = _
    rw [World.cell?_alloc_past _ _ _ (by rw [s1]; show w.heap.size < _; omega), World.cell?_alloc_at _ _ _ _ rfl]
    rfl
  have HQ1 : Hid (((w.alloc (.cells #[.int .u64 en, .slice q m c] 25)).alloc (.cells #[.slice .none 0 0, .int .i64 0] 35)).cell? ⟨w.heap.size, 1, .none⟩ = some (.slice q m c)) := by
    show _ = _
    rw [World.cell?_alloc_past _ _ _ (by rw [s1]; show w.heap.size < _; omega), World.cell?_alloc_at _ _ _ _ rfl]
    rfl
  have HQ2 : Hid (((w.alloc (.cells #[.int .u64 en, .slice q m c] 25)).alloc (.cells #[.slice .none 0 0, .int .i64 0] 35)).cell? ⟨w.heap.size + 1, 0, .none⟩ = some (.slice .none 0 0)) := World.cell?_alloc_at _ _ _ _ s1.symm
  have HQ3 : Hid (((w.alloc (.cells #[.int .u64 en, .slice q m c] 25)).alloc (.cells #[.slice .none 0 0, .int .i64 0] 35)).cell? ⟨w.heap.size + 1, 1, .none⟩ = some (.int .i64 0)) := World.cell?_alloc_at _ _ _ _ s1.symm
  have HQ4 : Hid (∀ i, ((w.alloc (.cells #[.int .u64 en, .slice q m c] 25)).alloc (.cells #[.slice .none 0 0, .int .i64 0] 35)).frozen? ⟨w.heap.size + 1, i, .none⟩ = false) := fun i => by
    have := World.frozen?_alloc_new (w.alloc (.cells #[.int .u64 en, .slice q m c] 25)) #[.slice .none 0 0, .int .i64 0] 35 i
    rwa [s1] at this
  clear s1
  have c24 := formNo_any (HA.out.below HB1.out) HZ.out en he
  go_enter Tryd.func10, Tryd.ntmps10
  go_upto_region 1 with fail
  generalize ((w.alloc (.cells #[.int .u64 en, .slice q m c] 25)).alloc (.cells #[.slice .none 0 0, .int .i64 0] 35)) = W1 at *
  have q0 := HQ0.out
  have q1 := HQ1.out
  go_wp2_with fail
  refine c24.mono ?_
  rintro _ W2 ⟨a, r, v, hVd, rfl, hR2, hb2⟩
  obtain ⟨fp, fn, fc, hfv⟩ := hR2.form
  subst hfv
  have HVd : Hid (Vd en (sgsG S m) a r) := hVd
  have HR2 : Hid (RefR W2 (.agg #[.slice fp fn fc, .int .i64 r]) a r) := hR2
  have HB2 : Hid (Below W1.heap.size W1 W2) := hb2
  clear hVd hR2 hb2 c24 q0 q1
  have HB3 : Hid (Below W2.heap.size W2 (W2.alloc (.cells #[.slice fp fn fc, .int .i64 r] 35))) := (Below.refl _ _).alloc (Nat.le_refl _) _
  have f0 : (W2.alloc (.cells #[.slice fp fn fc, .int .i64 r] 35)).cell? ⟨W2.heap.size, 0, .none⟩ = some (.slice fp fn fc) := World.cell?_alloc_at _ _ _ _ rfl
  have f1 : (W2.alloc (.cells #[.slice fp fn fc, .int .i64 r] 35)).cell? ⟨W2.heap.size, 1, .none⟩ = some (.int .i64 r) := World.cell?_alloc_at _ _ _ _ rfl
  dsimp only
  go_upto_region 2 with fail
  generalize (W2.alloc (.cells #[.slice fp fn fc, .int .i64 r] 35)) = W3 at *
  have HBW3 : Hid (Below W1.heap.size W1 W3) := HB2.out.trans (HB3.out.mono HB2.out.size)
  have HR3 : Hid (RefR W3 (.agg #[.slice fp fn fc, .int .i64 r]) a r) := HR2.out.below HB3.out
  obtain ⟨pf, hpf⟩ : ∃ x, x = W2.heap.size := ⟨_, rfl⟩
  rw [← hpf] at f0 f1 ⊢
  clear hpf
  have c25 := any_any W3 _ a r HR3.out
  by_cases hr : r = 0
  rotate_left
  · rw [show decide (r ≠ 0) = true by simpa using hr] at c25
    have HRn : Hid (r ≠ 0) := hr
    clear hr
    go_upto_region 3 with (go_at_call 25; refine c25.mono ?_; rintro _ W4 ⟨rfl, hb4⟩; have HB4 : Hid (Below W3.heap.size W3 W4) := hb4; clear hb4)
    have HB4w : Hid (Below W1.heap.size W1 W4) := HBW3.out.trans (HB4.out.mono HBW3.out.size)
    have HB4z : Hid (Below w.heap.size w W4) := HB1.out.trans (HB4w.out.mono HB1.out.size)
    have HR4 : Hid (RefR W4 (.agg #[.slice fp fn fc, .int .i64 r]) a r) := HR3.out.below HB4.out
    have g0 : W4.cell? ⟨pf, 0, .none⟩ = some (.slice fp fn fc) := (HB4.out.cell (lt_of_cell f0)).trans f0
    have g1 : W4.cell? ⟨pf, 1, .none⟩ = some (.int .i64 r) := (HB4.out.cell (lt_of_cell f1)).trans f1
    have bx0 : W4.cell? ⟨w.heap.size + 1, 0, .none⟩ = some (.slice .none 0 0) := (HB4w.out.cell (lt_of_cell HQ2.out)).trans HQ2.out
    have bx1 : W4.cell? ⟨w.heap.size + 1, 1, .none⟩ = some (.int .i64 0) := (HB4w.out.cell (lt_of_cell HQ3.out)).trans HQ3.out
    have fx0 : W4.frozen? ⟨w.heap.size + 1, 0, .none⟩ = false := (HB4w.out.frozen (p := ⟨w.heap.size + 1, 0, .none⟩) (lt_of_cell HQ2.out)).trans (HQ4.out 0)
    have fx1 : W4.frozen? ⟨w.heap.size + 1, 1, .none⟩ = false := (HB4w.out.frozen (p := ⟨w.heap.size + 1, 1, .none⟩) (lt_of_cell HQ3.out)).trans (HQ4.out 1)
    go_region
    go_wp2_with fail
    have hfin : ∀ VZ : World, VZ = (((W4).setCell ⟨w.heap.size + 1, 0, .none⟩ (.slice fp fn fc)).setCell ⟨w.heap.size + 1, 1, .none⟩ (.int .i64 r)).drew → PqP w en (sgsG S m) (.returned (.tuple #[.int .i64 0, .agg #[.slice fp fn fc, .int .i64 r]])) VZ ∧ VZ.rangeAt (w.heap.size + 1) 0 [.slice fp fn fc, .int .i64 r] := fun VZ hVZ => by
      obtain ⟨g1, g2⟩ := fin_fault HR4.out bx0 bx1
      have hbz : Below w.heap.size w (((W4).setCell ⟨w.heap.size + 1, 0, .none⟩ (.slice fp fn fc)).setCell ⟨w.heap.size + 1, 1, .none⟩ (.int .i64 r)) := (HB4z.out.setCell (p := ⟨w.heap.size + 1, 0, .none⟩) (by show w.heap.size ≤ w.heap.size + 1; omega) _).setCell (p := ⟨w.heap.size + 1, 1, .none⟩) (by show w.heap.size ≤ w.heap.size + 1; omega) _
      have hbd : Below (((W4).setCell ⟨w.heap.size + 1, 0, .none⟩ (.slice fp fn fc)).setCell ⟨w.heap.size + 1, 1, .none⟩ (.int .i64 r)).heap.size (((W4).setCell ⟨w.heap.size + 1, 0, .none⟩ (.slice fp fn fc)).setCell ⟨w.heap.size + 1, 1, .none⟩ (.int .i64 r)) (((W4).setCell ⟨w.heap.size + 1, 0, .none⟩ (.slice fp fn fc)).setCell ⟨w.heap.size + 1, 1, .none⟩ (.int .i64 r)).drew := (Below.refl _ _).drew
      subst hVZ
      refine ⟨⟨hbz.trans (hbd.mono hbz.size), .inl ⟨a, r, fp, fn, fc, HVd.out, HRn.out, rfl, g1.below hbd⟩⟩, fun j u hj => (hbd.cell (lt_of_cell (g2 j u hj))).trans (g2 j u hj)⟩
    have hfin := hfin _ rfl
    generalize (((W4).setCell ⟨w.heap.size + 1, 0, .none⟩ (.slice fp fn fc)).setCell ⟨w.heap.size + 1, 1, .none⟩ (.int .i64 r)).drew = VZ at *
    have hld := run_loadVar_mid (P := Tryd.prog) VZ (w.heap.size + 1) 0 35 _ _ hfin.2 Tryd.underlying35 rfl (by kernel_rfl)
    exact bodyPost_ret (v := .tuple #[.int .i64 0, .agg #[.slice fp fn fc, .int .i64 r]]) (results_tmp_cell (a := 2) (p := 3) (ty := 35) rfl _ _ ⟨w.heap.size + 1, 0, .none⟩ _ rfl hld) rfl hfin.1
  have HGood : Hid (Good en (sgsG S m)) := (vd_good HVd.out).1 hr
  subst hr
  have hm8 : m ≤ 8 := by have := HGood.out.2.1; rwa [sgsG_len] at this
  rw [show decide ((0 : Int) ≠ 0) = false by decide] at c25
  go_upto_region 4 with (go_at_call 25; refine c25.mono ?_; rintro _ W4 ⟨rfl, hb4⟩; have HB4 : Hid (Below W3.heap.size W3 W4) := hb4; clear hb4)
  have HB4w : Hid (Below W1.heap.size W1 W4) := HBW3.out.trans (HB4.out.mono HBW3.out.size)
  have HB4z : Hid (Below w.heap.size w W4) := HB1.out.trans (HB4w.out.mono HB1.out.size)
  have HG0 : Hid (W4.cell? ⟨pf, 0, .none⟩ = some (.slice fp fn fc)) := (HB4.out.cell (lt_of_cell f0)).trans f0
  have HG1 : Hid (W4.cell? ⟨pf, 1, .none⟩ = some (.int .i64 0)) := (HB4.out.cell (lt_of_cell f1)).trans f1
  have hfz : fp = none ∧ fn = 0 ∧ fc = 0 := by
    rcases HR3.out with ⟨h0, _⟩ | ⟨_, e⟩
    · exact absurd rfl h0
    · simpa using e
  obtain ⟨rfl, rfl, rfl⟩ := hfz
  clear f0 f1 c25 HR2 HR3 HB2 HB3 HBW3 HB4
  have l1 : W4.cell? ⟨w.heap.size, 1, .none⟩ = some (.slice q m c) := (HB4w.out.cell (lt_of_cell HQ1.out)).trans HQ1.out
  have HA4 : Hid (Arg W4 q m c S D) := HA.out.below HB4z.out
  have HM : Hid (∀ s ∈ sgsG S m, 0 ≤ s.mem ∧ s.mem ≤ 1073741824) := good_mem HGood.out (fun s hs => by
    obtain ⟨k, hk, hke⟩ := List.getElem_of_mem hs
    obtain ⟨hk2, e⟩ := sgsG_get (S := S) (m := m) (i := k) (s := s) (by rw [List.getElem?_eq_getElem hk, hke])
    rw [e]
    exact (HA.out.va k hk2).1)
  go_wp2_with fail
  go_loopw [5, 6] (fun s k wr => ∃ i : Nat, i ≤ m ∧ k = .int .i64 i ∧ s = .int .i64 (pgL (sgsG S m) i) ∧ wr = W4) (fun _ k _ => (m - intOf k).toNat)
  case atStart => exact ⟨0, by omega, rfl, by cases sgsG S m <;> rfl, rfl⟩
  case round =>
    obtain ⟨i, hi, rfl, rfl, hwr⟩ := hrel
    subst hwr
    have hbd := pgL_bd _ i HM.out
    by_cases hlt : i < m
    · have gi : (i : Int) < m := by omega
      obtain ⟨b, o, rfl, a0, a1, a2, a3⟩ := HA4.out.seg hlt
      have hmm : 0 ≤ (S i).mem ∧ (S i).mem ≤ 1073741824 := HM.out _ (List.mem_of_getElem? (sg_at hlt))
      have HSu : Hid (pgL (sgsG S m) (i + 1) = pgL (sgsG S m) i + ((S i).mem + 4095) / 4096) := pgL_succ _ i _ (sg_at hlt)
      have c29 := next_any (S i).mem wr ⟨by omega, by omega⟩
      clear a0 a1 a2
      generalize pgL (sgsG S m) i = y at *
      have hdv : ((S i).mem + 4095) / 4096 * 4096 / 4096 = ((S i).mem + 4095) / 4096 := by omega
      go_wp2_with (first | (go_at_call 29; refine c29.mono ?_; rintro _ V2 ⟨rfl, hV2⟩; rw [hV2]; clear hV2 V2) | fail)
      exact ⟨⟨i + 1, by omega, by simp, by rw [HSu.out], trivial⟩, by simp [intOf]; omega⟩
    · have he' : i = m := by omega
      have hn9 : ¬ ((i : Int) < m) := by omega
      have HPg : Hid (pgL (sgsG S m) i = pgL (sgsG S m) (sgsG S m).length) := by
        show _ = _
        rw [sgsG_len, he']
      have g0 := HG0.out
      have g1 := HG1.out
      have bx0 : wr.cell? ⟨w.heap.size + 1, 0, .none⟩ = some (.slice .none 0 0) := (HB4w.out.cell (lt_of_cell HQ2.out)).trans HQ2.out
      have bx1 : wr.cell? ⟨w.heap.size + 1, 1, .none⟩ = some (.int .i64 0) := (HB4w.out.cell (lt_of_cell HQ3.out)).trans HQ3.out
      have fx0 : wr.frozen? ⟨w.heap.size + 1, 0, .none⟩ = false := (HB4w.out.frozen (p := ⟨w.heap.size + 1, 0, .none⟩) (lt_of_cell HQ2.out)).trans (HQ4.out 0)
      have fx1 : wr.frozen? ⟨w.heap.size + 1, 1, .none⟩ = false := (HB4w.out.frozen (p := ⟨w.heap.size + 1, 1, .none⟩) (lt_of_cell HQ3.out)).trans (HQ4.out 1)
      have HRf : Hid (RefR wr (.agg #[.slice .none 0 0, .int .i64 0]) 0 0) := .inr ⟨rfl, rfl⟩
      generalize pgL (sgsG S m) i = y at *
      go_upto_region 9 with fail
      go_region
      go_wp2_with fail
      have hfin : ∀ VZ : World, VZ = (((wr).setCell ⟨w.heap.size + 1, 0, .none⟩ (.slice .none 0 0)).setCell ⟨w.heap.size + 1, 1, .none⟩ (.int .i64 0)).drew → PqP w en (sgsG S m) (.returned (.tuple #[.int .i64 y, .agg #[.slice .none 0 0, .int .i64 0]])) VZ ∧ VZ.rangeAt (w.heap.size + 1) 0 [.slice .none 0 0, .int .i64 0] := fun VZ hVZ => by
        obtain ⟨g1, g2⟩ := fin_fault HRf.out bx0 bx1
        have hbz : Below w.heap.size w (((wr).setCell ⟨w.heap.size + 1, 0, .none⟩ (.slice .none 0 0)).setCell ⟨w.heap.size + 1, 1, .none⟩ (.int .i64 0)) := (HB4z.out.setCell (p := ⟨w.heap.size + 1, 0, .none⟩) (by show w.heap.size ≤ w.heap.size + 1; omega) _).setCell (p := ⟨w.heap.size + 1, 1, .none⟩) (by show w.heap.size ≤ w.heap.size + 1; omega) _
        have hbd : Below (((wr).setCell ⟨w.heap.size + 1, 0, .none⟩ (.slice .none 0 0)).setCell ⟨w.heap.size + 1, 1, .none⟩ (.int .i64 0)).heap.size (((wr).setCell ⟨w.heap.size + 1, 0, .none⟩ (.slice .none 0 0)).setCell ⟨w.heap.size + 1, 1, .none⟩ (.int .i64 0)) (((wr).setCell ⟨w.heap.size + 1, 0, .none⟩ (.slice .none 0 0)).setCell ⟨w.heap.size + 1, 1, .none⟩ (.int .i64 0)).drew := (Below.refl _ _).drew
        subst hVZ
        refine ⟨⟨hbz.trans (hbd.mono hbz.size), .inr ⟨HGood.out, by rw [← HPg.out]⟩⟩, fun j u hj => (hbd.cell (lt_of_cell (g2 j u hj))).trans (g2 j u hj)⟩
      have hfin := hfin _ rfl
      generalize (((wr).setCell ⟨w.heap.size + 1, 0, .none⟩ (.slice .none 0 0)).setCell ⟨w.heap.size + 1, 1, .none⟩ (.int .i64 0)).drew = VZ at *
      have hld := run_loadVar_mid (P := Tryd.prog) VZ (w.heap.size + 1) 0 35 _ _ hfin.2 Tryd.underlying35 rfl (by kernel_rfl)
      exact bodyPost_ret (v := .tuple #[.int .i64 y, .agg #[.slice .none 0 0, .int .i64 0]]) (results_tmp_cell (a := 2) (p := 3) (ty := 35) rfl _ _ ⟨w.heap.size + 1, 0, .none⟩ _ rfl hld) rfl hfin.1
end Go.Proofs.YtloldhcljdmofaaDoor
