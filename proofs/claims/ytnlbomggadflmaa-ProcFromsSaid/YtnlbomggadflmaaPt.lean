import Derived.Test.YtnlbomggadflmaaPs
namespace Go.Proofs.Ytnlbomggadflmaa
open Go.RowKit
set_option linter.unusedVariables false
set_option linter.unusedSimpArgs false
set_option maxRecDepth 100000
theorem lkP_in {P : Nat → Pr} {nx : Int} (h : Inv P nx) (i : Nat) (hi : i < 64) : lkP P (i : Int) = P i := by
  by_cases e : isP P (i : Int)
  · rw [lkP, if_pos e, Int.toNat_natCast]
  · rw [lkP, if_neg e, h.fr i hi]
    rw [isP, Int.toNat_natCast] at e
    exact Classical.byContradiction fun x => e ⟨by omega, by omega, x⟩
section
variable {w : World} {b : Nat} {P : Nat → Pr} {nx : Int}
theorem neqp (a c : Pr) (w : World) : (binOp .neq 28 (.agg #[.int .i64 a.pid, .int .i64 a.st, .int .i64 a.par, .int .i64 a.ck, .int .i64 a.cn, .bool a.kil, .int .i32 a.sta]) (.agg #[.int .i64 c.pid, .int .i64 c.st, .int .i64 c.par, .int .i64 c.ck, .int .i64 c.cn, .bool c.kil, .int .i32 c.sta])).run Try.prog w = .ok (.bool (!pEq a c)) w := neq_proc a c w
theorem cells_new (w : World) (l : List Value) (t : TypeId) : ∀ (j : Nat) (v : Value), l[j]? = some v → (w.alloc (.cells l.toArray t)).cell? ⟨w.heap.size, j, .none⟩ = some v := fun j v hj => by
  rw [World.cell?_alloc_at _ _ _ _ (by rfl)]
  simpa using hj
theorem below_drew {B : Nat} {u W : World} (h : Below B u W) : Below B u W.drew := ⟨h.os, h.tape, h.output, h.size, h.block⟩
theorem there_tb (h : Tb w b P nx) : w.rangeAt b 0 (tl P nx) := h.rg
set_option maxHeartbeats 4000000 in
theorem sound_any (h : Tb w b P nx) (hI : Inv P nx) : Calls Try.prog 25 #[.pointer (some ⟨b, 0, .none⟩)] w fun e w' => e = .returned (.bool true) ∧ Below w.heap.size w w' := by
  have k1 := state_any h hI.n1
  have H : Hid (Tb w b P nx) := h
  have HI : Hid (Inv P nx) := hI
  have hbl := h.lt
  clear h hI
  obtain ⟨T, hT⟩ : ∃ T, T = (tl P nx).toArray := ⟨_, rfl⟩
  rw [← hT] at k1
  have HTT : Hid (T = (tl P nx).toArray) := hT
  clear hT
  go_enter Try.func25, Try.ntmps25
  go_wp2_with fail
  refine k1.mono ?_
  rintro e w1 ⟨rfl, hb⟩
  have HB1 : Hid (Below w.heap.size w w1) := hb
  have hsz : w.heap.size ≤ w1.heap.size := hb.size
  clear k1 hb
  rename_i K1 hK1
  refine hK1 _ _ ?_
  clear hK1 K1
  refine wpList_laid (P := P) (nx := nx) 3 8 _ _ rfl rfl rfl rfl rfl rfl rfl (congrArg Value.agg HTT.out) ?_
  intro W hT hB
  obtain ⟨x, hx⟩ : ∃ x, x = w1.heap.size := ⟨_, rfl⟩
  rw [← hx] at hT hB ⊢
  have HT : Hid (Tb W b P nx ∧ Tb W x P nx ∧ Below w.heap.size w W) := ⟨Tb.below (Tb.bel H.out HB1.out) (hx ▸ hB) (by omega), hT, HB1.out.trans (hB.mono (by omega))⟩
  have hne : b ≠ x := by omega
  clear hT hB hx H HB1
  simp only [Act.put, List.setIfInBounds_toArray, List.set_cons_zero, List.set_cons_succ]
  go_wp2
  go_loopw [4] (fun i wr => ∃ n : Nat, n ≤ 64 ∧ i = .int .i64 n ∧ Hid (Tb wr b P nx ∧ Tb wr x P nx ∧ Below w.heap.size w wr)) (fun i _ => (64 - intOf i).toNat)
  case atStart => exact ⟨0, by omega, rfl, HT.out⟩
  case round =>
    obtain ⟨n, hn, rfl, HO⟩ := hrel
    clear HT
    by_cases hlt : n < 64
    · have g0 : (n : Int) < 64 := by omega
      have k := look_any HO.out.1 HI.out.n1 (n : Int)
      rw [lkP_in HI.out n hlt, Pr.l] at k
      go_wp2_with fail
      refine k.mono ?_
      rintro e w2 ⟨rfl, hb⟩
      have HW : Hid (Tb w2 b P nx ∧ Tb w2 x P nx ∧ Below w.heap.size w w2) := ⟨HO.out.1.bel hb, HO.out.2.1.bel hb, HO.out.2.2.trans (hb.mono HO.out.2.2.size)⟩
      clear k hb HO
      go_upto_region 6 with fail
      have HC : Hid (∀ W, W = (w2.alloc (.cells #[.int .i64 (P n).pid, .int .i64 (P n).st, .int .i64 (P n).par, .int .i64 (P n).ck, .int .i64 (P n).cn, .bool (P n).kil, .int .i32 (P n).sta] 28)) → Tb W b P nx ∧ Tb W x P nx ∧ Below w.heap.size w W) := fun W hW => by
        subst hW
        exact ⟨HW.out.1.bel (below1 _ _), HW.out.2.1.bel (below1 _ _), HW.out.2.2.trans ((below1 _ _).mono HW.out.2.2.size)⟩
      obtain ⟨y, hy⟩ : ∃ y, y = w2.heap.size := ⟨_, rfl⟩
      have hwy : w.heap.size ≤ y := by rw [hy]; exact HW.out.2.2.size
      have hxy : x ≠ y := by have := HW.out.2.1.lt; omega
      have hby : b ≠ y := by have := HW.out.1.lt; omega
      have hA := cells_new w2 (P n).l 28
      rw [← hy] at hA ⊢
      rw [Pr.l] at hA
      have d0 := hA 0 _ rfl
      have d1 := hA 1 _ rfl
      have d2 := hA 2 _ rfl
      have d3 := hA 3 _ rfl
      have d4 := hA 4 _ rfl
      have d5 := hA 5 _ rfl
      have d6 := hA 6 _ rfl
      have HD := HC.out _ rfl
      clear hA hy HC HW
      generalize w2.alloc (.cells #[.int .i64 (P n).pid, .int .i64 (P n).st, .int .i64 (P n).par, .int .i64 (P n).ck, .int .i64 (P n).cn, .bool (P n).kil, .int .i32 (P n).sta] 28) = w3 at *
      have HDD : Hid (Tb w3 b P nx ∧ Tb w3 x P nx ∧ Below w.heap.size w w3) := HD
      obtain ⟨c0, c1, c2, c3, c4, c5, c6⟩ := HD.2.1.cells n hlt
      have cn := HD.2.1.cn
      have hneq : ∀ W, (binOp .neq 28 (.agg #[.int .i64 (P n).pid, .int .i64 (P n).st, .int .i64 (P n).par, .int .i64 (P n).ck, .int .i64 (P n).cn, .bool (P n).kil, .int .i32 (P n).sta]) (.agg #[.int .i64 (P n).pid, .int .i64 (P n).st, .int .i64 (P n).par, .int .i64 (P n).ck, .int .i64 (P n).cn, .bool (P n).kil, .int .i32 (P n).sta])).run Try.prog W = .ok (.bool false) W := fun W => by rw [neqp, pEq_refl]; rfl
      by_cases hz : (P n).st = 0
      · have hz' := HI.out.fr n hlt hz
        have HZ : Hid (P n = zP) := hz'
        rw [hz'] at c0 c1 c2 c3 c4 c5 c6 d0 d1 d2 d3 d4 d5 d6 hneq ⊢
        simp only [zP] at c0 c1 c2 c3 c4 c5 c6 d0 d1 d2 d3 d4 d5 d6 hneq ⊢
        clear hz hz' HD
        go_region
        all_goals go_wp2
        all_goals exact ⟨⟨n + 1, by omega, rfl, ⟨HDD.out.1.keep rfl, HDD.out.2.1.keep rfl, below_drew HDD.out.2.2⟩⟩, by simp only [intOf]; omega⟩
      · have z0 := (HD.2.1.cells 0 (by omega)).1
        rw [(HI.out.r0 (HI.out.first hlt hz)).2] at z0
        simp only [Nat.zero_mul] at z0
        have p1 := (HI.out.pd n hlt hz).1
        have p2 := (HI.out.pd n hlt hz).2
        have gz : ((P n).st == 0) = false := by simpa using hz
        have HU : Hid (∀ j, j < n → (P j).st ≠ 0 → (P j).pid ≠ (P n).pid) := fun j hj h1 h2 => by
          have := HI.out.un j n (by omega) hlt h1 hz h2
          omega
        have kc : ∀ W, Calls Try.prog 46 #[.agg T, .int .i64 (n : Int)] W fun e w' => e = .returned (.bool true) ∧ Below W.heap.size W w' := fun W => by rw [HTT.out]; exact chain_any HI.out n hlt hz
        have HSK : Hid ((P n).st = 2 → (P n).kil = false) := fun q => (HI.out.sp n hlt q).2
        have KB : ∀ W, W = w3.drew → Hid (Tb W b P nx ∧ Tb W x P nx ∧ Below w.heap.size w W) ∧ W.cell? ⟨y, 0, .none⟩ = some (.int .i64 (P n).pid) ∧ W.cell? ⟨y, 1, .none⟩ = some (.int .i64 (P n).st) ∧ W.cell? ⟨y, 5, .none⟩ = some (.bool (P n).kil) ∧ W.cell? ⟨x, 448, .none⟩ = some (.int .i64 nx) ∧ W.cell? ⟨x, 0, .none⟩ = some (.int .i64 1) := fun W hW => by
          subst hW
          exact ⟨⟨HDD.out.1.keep rfl, HDD.out.2.1.keep rfl, below_drew HDD.out.2.2⟩, d0, d1, d5, cn, z0⟩
        clear HD hz
        go_region
        obtain ⟨HDR, q0, q1, q5, qn, qz⟩ := KB _ rfl
        clear KB HDD d0 d1 d2 d3 d4 d5 d6 c0 c1 c2 c3 c4 c5 c6 cn z0 hneq
        generalize w3.drew = w4 at *
        have HQ0 : Hid (w4.cell? ⟨y, 0, .none⟩ = some (.int .i64 (P n).pid)) := q0
        obtain ⟨pid, hpid⟩ : ∃ z, z = (P n).pid := ⟨_, rfl⟩
        obtain ⟨st, hst⟩ : ∃ z, z = (P n).st := ⟨_, rfl⟩
        have HP : Hid (pid = (P n).pid) := hpid
        rw [← hpid] at q0 p1 p2
        rw [← hst] at q1 gz HSK
        obtain ⟨kil, hkil⟩ : ∃ z, z = (P n).kil := ⟨_, rfl⟩
        rw [← hkil] at q5 HSK
        clear hpid hst hkil
        have hsk2 : (st == 2) = true ∧ kil = false ∨ (st == 2) = false := by
          by_cases q : st = 2
          · exact .inl ⟨by simpa using q, HSK.out q⟩
          · exact .inr (by simpa using q)
        have HSK2 : Hid ((st == 2) = true ∧ kil = false ∨ (st == 2) = false) := hsk2
        clear hsk2 HSK
        go_upto_region 11 with fail
        have hcond : Hid True := trivial
        rcases HSK2.out with ⟨s1, rfl⟩ | s1
        all_goals (
          clear HSK2 hcond
          go_wp2
          clear q1 q5 qn qz s1 gz
          go_loopw [6] (fun i wr => ∃ j : Nat, j ≤ n ∧ i = .int .i64 j ∧ Hid (Tb wr b P nx ∧ Tb wr x P nx ∧ Below w.heap.size w wr ∧ wr.cell? ⟨y, 0, .none⟩ = some (.int .i64 (P n).pid))) (fun i _ => (n - intOf i).toNat)
          case atStart => exact ⟨0, by omega, rfl, HDR.out.1, HDR.out.2.1, HDR.out.2.2, HQ0.out⟩
          case round =>
            obtain ⟨j, hj, rfl, HO⟩ := hrel
            by_cases hjn : j < n
            · have g1 : (j : Int) < n := by omega
              obtain ⟨t1, t2, t3, q0⟩ := HO.out
              rw [← HP.out] at q0
              obtain ⟨c0, c1, c2, c3, c4, c5, c6⟩ := t2.cells j (by omega)
              have hj64 : j < 64 := by omega
              have g2 : (j : Int) < 64 := by omega
              clear c2 c3 c4 c5 c6 t1 t2 t3
              by_cases hs : (P j).st = 0
              · rw [hs] at c1
                clear hs
                generalize (P j).pid = pj at *
                go_wp2
                go_region
                all_goals go_wp2
                all_goals exact ⟨⟨j + 1, by omega, rfl, HO.out.1.keep rfl, HO.out.2.1.keep rfl, below_drew HO.out.2.2.1, HO.out.2.2.2⟩, by simp only [intOf]; omega⟩
              · have gs : ((P j).st == 0) = false := by simpa using hs
                have gp : ((P j).pid == pid) = false := by
                  have := HU.out j hjn hs
                  rw [← HP.out] at this
                  simpa using this
                have gs2 : ((P j).st != 0) = true := by simpa using hs
                generalize (P j).pid = pj at *
                generalize (P j).st = sj at *
                go_wp2
                go_region
                all_goals go_wp2
                all_goals exact ⟨⟨j + 1, by omega, rfl, HO.out.1.keep rfl, HO.out.2.1.keep rfl, below_drew HO.out.2.2.1, HO.out.2.2.2⟩, by simp only [intOf]; omega⟩
            · obtain rfl : j = n := by omega
              go_upto_region 18 with fail
              refine wp_region_lit ?_
              refine wpList_load_mid rfl 31 (.tmp 3) rfl x 0 rfl (tl P nx) _ HO.out.2.1.rg Try.underlying31 rfl (by rw [tl_len]; exact info_tab) ?_
              rw [← HTT.out]
              simp only [Act.put, List.setIfInBounds_toArray, List.set_cons_zero, List.set_cons_succ]
              have kc := kc wr
              go_wp2_with fail
              refine kc.mono ?_
              rintro e w5 ⟨rfl, hb5⟩
              have HF : Hid (Tb w5 b P nx ∧ Tb w5 x P nx ∧ Below w.heap.size w w5) := ⟨HO.out.1.bel hb5, HO.out.2.1.bel hb5, HO.out.2.2.1.trans (hb5.mono HO.out.2.2.1.size)⟩
              clear kc hb5 HO
              go_wp2
              exact ⟨⟨j + 1, by omega, rfl, HF.out⟩, by simp only [intOf]; omega⟩)
    · obtain rfl : n = 64 := by omega
      go_wp2
      go_ret
      exact ⟨rfl, HO.out.2.2⟩
end
end Go.Proofs.Ytnlbomggadflmaa
