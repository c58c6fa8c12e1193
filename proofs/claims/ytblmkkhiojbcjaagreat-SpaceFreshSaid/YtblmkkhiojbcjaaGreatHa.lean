import Derived.Test.YtblmkkhiojbcjaaGreatUl
namespace Go.Proofs.YtblmkkhiojbcjaaGreat.Fz
open Go.RowKit
set_option linter.unusedVariables false
set_option linter.unusedSimpArgs false
set_option maxHeartbeats 4000000 in
set_option maxRecDepth 100000 in
theorem freeB_any (M bl cl : Nat) (n : Nat → Nat) (v : Nat → Value) (xs0 : Nat → List Value) (w : World) (h100 : M ≤ 100) (hn : ∀ i, i < M → n i ≤ 1000000) (hF0 : Fs 5 M n v w w xs0) (hap : Apart M v)
    (hbl : bl < w.heap.size) (hb : ∀ i, i < M → (v i).ownBlock ≠ some bl) (hc : ∀ i, i < M → w.cell? ⟨bl, i, .none⟩ = some (v i)) :
    Calls Tryz.prog 27 #[.slice (some ⟨bl, 0, .none⟩) M cl] w fun e w' => e = .returned (.bool true) ∧ ∃ xs, Fs 5 M n v w w' xs := by
  have HP : Hid (Apart M v) := hap
  have HL : Hid (∀ wr xs, Fs 5 M n v w wr xs → ∀ i, i < M → wr.cell? ⟨bl, i, .none⟩ = some (v i)) := fun wr xs hF i hi => (hF.cell bl i hbl hb).trans (hc i hi)
  have HF0 : Hid (Fs 5 M n v w w xs0) := hF0
  clear hap hb hc hF0
  go_enter Tryz.func27, Tryz.ntmps27
  go_wp2
  go_loopw [3] (fun i wr => ∃ (I : Nat) (xs : Nat → List Value), I ≤ M ∧ i = .int .i64 I ∧ Fs 5 M n v w wr xs ∧ ∀ t, t < I → ∀ j, j < n t → (xs t)[j]? = some (.int .u8 t)) (fun i _ => M - (intOf i).toNat)
  case atStart => exact ⟨0, xs0, by omega, rfl, HF0.out, fun t h => by omega⟩
  case round =>
    obtain ⟨I, xs, hI, rfl, hF, h1⟩ := hrel
    have HF : Hid (Fs 5 M n v w wr xs) := hF
    have H1 : Hid (∀ t, t < I → ∀ j, j < n t → (xs t)[j]? = some (.int .u8 t)) := h1
    clear hF h1
    by_cases hIM : I < M
    · have e0 : (I : Int) < M := by omega
      have hnI := hn I hIM
      obtain ⟨p, c, hv⟩ := one_slice (HF.out.row I hIM)
      obtain ⟨nI, hnn⟩ : ∃ k, n I = k := ⟨_, rfl⟩
      rw [hnn] at hnI
      have HV : Hid (v I = .slice p (n I) c ∧ n I = nI) := ⟨hv, hnn⟩
      clear hv hnn
      go_wp2
      go_loopw [4] (fun k wx => ∃ (K : Nat) (xs : Nat → List Value), K ≤ nI ∧ k = .int .i64 K ∧ Fs 5 M n v w wx xs ∧ (∀ t, t < I → ∀ j, j < n t → (xs t)[j]? = some (.int .u8 t)) ∧ (∀ j, j < K → (xs I)[j]? = some (.int .u8 I))) (fun k _ => nI - (intOf k).toNat)
      case atStart => exact ⟨0, xs, by omega, rfl, HF.out, H1.out, fun j h => by omega⟩
      case round =>
        obtain ⟨K, xs1, hK, rfl, hF, h0, h1⟩ := hrel
        have c0 : wr.cell? ⟨bl, I, .none⟩ = some (.slice p nI c) := (HL.out wr xs1 hF I hIM).trans (by rw [HV.out.1, HV.out.2])
        by_cases hlt : K < nI
        · have hrow := hF.row I hIM
          rw [HV.out.1, HV.out.2] at hrow
          obtain ⟨g, rfl, hg0, hg1⟩ := row_shape hrow (by omega)
          have hlen : (xs1 I).length = nI := by have := hrow.1; omega
          have ck := hrow.cellAt K (by omega)
          rw [List.getElem?_eq_getElem (by omega)] at ck
          have fk := hrow.frozenAt K
          have e1 : (K : Int) < (nI : Int) := by omega
          generalize (xs1 I)[K] = old at ck
          have HS : Hid (Fs 5 M n v w (wr.setCell ⟨g, K, .none⟩ (.int .u8 I)) (fun i => if i = I then (xs1 I).set K (.int .u8 I) else xs1 i)) := hF.set HP.out I hIM g c HV.out.1 K (.int .u8 I)
          have HT : Hid (∀ j, j < K + 1 → ((xs1 I).set K (.int .u8 I))[j]? = some (.int .u8 I)) := set_first (xs1 I) K nI (.int .u8 I) hlen hlt h1
          have H0 : Hid (∀ t, t < I → ∀ j, j < n t → (xs1 t)[j]? = some (.int .u8 t)) := h0
          have m1 : (I : Int).tmod 100 = I := by rw [Int.tmod_eq_emod_of_nonneg (by omega)]; omega
          clear hF h1 h0 hrow
          go_wp2
          exact ⟨⟨K + 1, _, by omega, by go_num, HS.out, fun t ht j hj => by rw [if_neg (by omega)]; exact H0.out t ht j hj, fun j hj => by rw [if_pos rfl]; exact HT.out j hj⟩, by simp [intOf]; omega⟩
        · have e1 : decide ((K : Int) < (nI : Int)) = false := by simp; omega
          have HS : Hid (Fs 5 M n v w wr xs1) := hF
          have HT : Hid (∀ j, j < K → (xs1 I)[j]? = some (.int .u8 I)) := h1
          have H0 : Hid (∀ t, t < I → ∀ j, j < n t → (xs1 t)[j]? = some (.int .u8 t)) := h0
          clear hF h1 h0
          go_wp2
          exact ⟨⟨I + 1, xs1, by omega, by go_num, HS.out, fun t ht j hj => by
            by_cases e : t = I
            · subst e; exact HT.out j (by have := HV.out.2; omega)
            · exact H0.out t (by omega) j hj⟩, by simp [intOf]; omega⟩
    · have e0 : decide ((I : Int) < M) = false := by simp; omega
      obtain rfl : M = I := by omega
      have HX : Hid (∀ t, t < M → ∀ j, j < n t → (xs t)[j]? = some (.int .u8 t)) := H1.out
      clear H1
      obtain ⟨i3, z3, hi3, hz3, hs3, hb3, hzs3⟩ := info_of 5 1 (by kernel_rfl) (by kernel_rfl)
      obtain ⟨i9, z9, hi9, hz9, hs9, hb9, hzs9⟩ := info_of 24 24 (by kernel_rfl) (by kernel_rfl)
      have HI : Hid (Tryz.prog.info? 5 = some i3 ∧ i3.zero = some z3 ∧ i3.size = 1 ∧ i3.bytes = 1 ∧ z3.cells.size = 1) := ⟨hi3, hz3, hs3, hb3, hzs3⟩
      have HJ : Hid (Tryz.prog.info? 24 = some i9 ∧ i9.zero = some z9 ∧ i9.size = 1 ∧ i9.bytes = 24 ∧ z9.cells.size = 1) := ⟨hi9, hz9, hs9, hb9, hzs9⟩
      clear hi3 hz3 hs3 hb3 hzs3 hi9 hz9 hs9 hb9 hzs9
      have HVL : Hid (∀ i, i < M → ∀ g, (v i).ownBlock = some g → g < w.heap.size) := fun i hi g hg => ((HF0.out.row i hi).lt g hg).2
      go_wp2
      go_loopw [5, 6] (fun mo i wx => ∃ (I : Nat) (ms : List Value), I ≤ M ∧ i = .int .i64 I ∧ Fs 5 M n v w wx xs ∧ wx.ownsRow 0 24 1 mo I ms ∧ Blk w.heap.size (.slice none 0 0) mo ∧ Done 5 (fun t => .int .u8 (128 + t)) n v M I wx.heap.size wx ms) (fun _ i _ => M - (intOf i).toNat)
      case atStart => exact ⟨0, [], by omega, rfl, HF.out, World.ownsRow_nil _ _ _ _, .inl rfl, fun t h => by omega⟩
      case round =>
        obtain ⟨I, ms, hI, rfl, hF, hM, hMb, hD⟩ := hrel
        by_cases hIM : I < M
        · have e0 : (I : Int) < M := by omega
          have hnI := hn I hIM
          obtain ⟨p, c, hv⟩ := one_slice (hF.row I hIM)
          obtain ⟨nI, hnn⟩ : ∃ k, n I = k := ⟨_, rfl⟩
          rw [hnn] at hnI
          have HV : Hid (v I = .slice p (n I) c ∧ n I = nI) := ⟨hv, hnn⟩
          clear hv hnn
          have c0 : wr.cell? ⟨bl, I, .none⟩ = some (.slice p nI c) := (HL.out wr xs hF I hIM).trans (by rw [HV.out.1, HV.out.2])
          have HF1 : Hid (Fs 5 M n v w wr xs) := hF
          have HM1 : Hid (wr.ownsRow 0 24 1 u5 I ms) := hM
          have HMb : Hid (Blk w.heap.size (.slice none 0 0) u5) := hMb
          have HD1 : Hid (Done 5 (fun t => .int .u8 (128 + t)) n v M I wr.heap.size wr ms) := hD
          have HR1 : Hid (wr.ownsRow 0 5 1 (.slice p nI c) nI (xs I)) := by
            have := hF.row I hIM
            rw [HV.out.1, HV.out.2] at this
            exact this
          have HSz : Hid (w.heap.size ≤ wr.heap.size) := hF.size
          clear hF hM hMb hD
          generalize hS1 : wr.heap.size = S1 at HD1 HSz
          have hS : Hid (wr.heap.size = S1) := hS1
          clear hS1
          go_wp2
          go_loopw [7, 8] (fun m k wx => ∃ (K : Nat) (zs : List Value), K ≤ 64 ∧ k = .int .i64 K ∧ Fs 5 M n v w wx xs ∧ wx.ownsRow 0 5 1 m (nI + K) zs ∧ (∀ j, j < K → zs[nI + j]? = some (.int .u8 (128 + I))) ∧ Blk S1 (v I) m ∧ wx.ownsRow 0 24 1 u5 I ms ∧ Done 5 (fun t => .int .u8 (128 + t)) n v M I S1 wx ms ∧ S1 ≤ wx.heap.size) (fun _ k _ => 64 - (intOf k).toNat)
          case atStart => exact ⟨0, xs I, by omega, rfl, HF1.out, HR1.out, fun j h => by omega, .inl (by rw [HV.out.1, HV.out.2]), HM1.out, HD1.out, Nat.le_of_eq hS.out.symm⟩
          case round =>
            obtain ⟨K, zs, hK, rfl, hF, hO, hz, hBk, hM, hD, hS1⟩ := hrel
            by_cases hlt : K < 64
            · have e1 : (K : Int) < 64 := by omega
              have hlen : zs.length = nI + K := by have := hO.1; omega
              have HF2 : Hid (Fs 5 M n v w wr xs) := hF
              have HO2 : Hid (wr.ownsRow 0 5 1 u7 (nI + K) zs) := hO
              have HZ2 : Hid (∀ j, j < K → zs[nI + j]? = some (.int .u8 (128 + I))) := hz
              have HB2 : Hid (Blk S1 (v I) u7) := hBk
              have HM : Hid (wr.ownsRow 0 24 1 u5 I ms) := hM
              have HD2 : Hid (Done 5 (fun t => .int .u8 (128 + t)) n v M I S1 wr ms) := hD
              have m1 : (I : Int).tmod 100 = I := by rw [Int.tmod_eq_emod_of_nonneg (by omega)]; omega
              clear hF hO hz hBk hM hD
              go_wp2_with (first
                | (at_builtin; refine wpList_append_keep _ rfl _ _ 24 rfl 0 5 i3 z3 1 Tryz.underlying24 HI.out.1 HI.out.2.1 HI.out.2.2.1 HI.out.2.2.2.1 HI.out.2.2.2.2 _ (nI + K) zs rfl (HO2.out.alloc _) ⟨wr.heap.size, 0, .none⟩ 1 (.int .u8 (128 + I)) rfl ?c1 ?c2 ?c3 ?c4 ?c5 ?c6 ?_)
                | go_in)
              case c1 => simp
              case c2 => rfl
              case c3 => rfl
              case c4 => unfold maxLen; omega
              case c5 => omega
              case c6 => exact Nat.zero_le _
              · intro v' w2 own' grow keep b fb fc
                have fresh : ∃ b, v'.ownBlock = some b ∧ (u7.ownBlock = some b ∨ _ ≤ b) := ⟨b, fb, fc⟩
                have HW : Hid (Fs 5 M n v w w2 xs ∧ w2.ownsRow 0 5 1 v' (nI + (K + 1)) (zs ++ [.int .u8 (128 + I)]) ∧ Blk S1 (v I) v' ∧ w2.ownsRow 0 24 1 u5 I ms ∧ Done 5 (fun t => .int .u8 (128 + t)) n v M I S1 w2 ms ∧ S1 ≤ w2.heap.size) := by
                  have fa := HF2.out.alloc (.cells #[.int .u8 (128 + I)] 5)
                  have hs2 : S1 ≤ (wr.alloc (.cells #[.int .u8 (128 + I)] 5)).heap.size := by simp only [World.size_alloc]; omega
                  have hrw : ∀ i, i < M → w2.ownsRow 0 5 1 (v i) (n i) (xs i) := fun i hi => by
                    refine keep _ _ _ (fun e => ?_) (fa.row i hi)
                    by_cases ei : i = I
                    · subst ei
                      have := HV.out.2
                      omega
                    · rcases HB2.out with hb | ⟨b', hb, hb'⟩
                      · cases hvi : (v i).ownBlock with
                        | none =>
                          rcases (HF0.out.row i hi).2 with ⟨_, h0⟩ | ⟨g, _, _, hg, _⟩
                          · omega
                          · rw [hg] at hvi; cases hvi
                        | some g => exact absurd ((hb.symm.trans e.symm).trans hvi) (HP.out i I hi hIM ei g hvi)
                      · have := HVL.out i hi b' (e.trans hb)
                        have := HSz.out
                        omega
                  exact ⟨fa.grown grow (.inl ⟨I, hIM, HB2.out.mono HSz.out⟩) hrw, own', HB2.out.next hs2 (by simpa only [World.size_alloc] using fresh), (HM.out.alloc _).kept grow (kinds_apart1 (HM.out.alloc (.cells #[.int .u8 (128 + I)] 5)) (HO2.out.alloc (.cells #[.int .u8 (128 + I)] 5)) (by decide)), (HD2.out.alloc _).keep hIM HB2.out keep, Nat.le_trans hs2 grow.size⟩
                clear own' grow keep fresh fb fc
                go_wp2
                go_roundw
                case rel =>
                  refine ⟨K + 1, zs ++ [.int .u8 (128 + I)], by omega, ?_, HW.out.1, HW.out.2.1, app_zs zs nI K _ hlen HZ2.out, HW.out.2.2.1, HW.out.2.2.2.1, HW.out.2.2.2.2.1, HW.out.2.2.2.2.2⟩
                  go_num
                case measure => simp [intOf]; omega
            · have e1 : decide ((K : Int) < 64) = false := by simp; omega
              obtain rfl : K = 64 := by omega
              obtain ⟨p7, c7, rfl⟩ := one_slice hO
              have HF2 : Hid (Fs 5 M n v w wr xs) := hF
              have HO2 : Hid (RowZ 5 nI wr (.slice p7 (nI + 64) c7) (.int .u8 (128 + I))) := ⟨zs, hO, hz⟩
              have HB2 : Hid (Blk S1 (v I) (.slice p7 (nI + 64) c7)) := hBk
              have HM : Hid (wr.ownsRow 0 24 1 u5 I ms) := hM
              have HD2 : Hid (Done 5 (fun t => .int .u8 (128 + t)) n v M I S1 wr ms) := hD
              have hml : ms.length = I := by have := hM.1; omega
              clear hF hO hz hBk hM hD
              go_wp2_with (first
                | (at_builtin; refine wpList_append_keep _ rfl _ _ 52 rfl 0 24 i9 z9 24 Tryz.underlying52 HJ.out.1 HJ.out.2.1 HJ.out.2.2.1 HJ.out.2.2.2.1 HJ.out.2.2.2.2 _ I ms rfl (HM.out.alloc _) ⟨wr.heap.size, 0, .none⟩ 1 (.slice p7 (nI + 64) c7) rfl ?c1 ?c2 ?c3 ?c4 ?c5 ?c6 ?_)
                | go_in)
              case c1 => simp
              case c2 => rfl
              case c3 => rfl
              case c4 => unfold maxLen; omega
              case c5 => omega
              case c6 => exact Nat.zero_le _
              · intro v' w2 own' grow keep b fb fc
                have fresh : ∃ b, v'.ownBlock = some b ∧ (u5.ownBlock = some b ∨ _ ≤ b) := ⟨b, fb, fc⟩
                have HW : Hid (Fs 5 M n v w w2 xs ∧ w2.ownsRow 0 24 1 v' (I + 1) (ms ++ [.slice p7 (nI + 64) c7]) ∧ Blk w.heap.size (.slice none 0 0) v' ∧ Done 5 (fun t => .int .u8 (128 + t)) n v M (I + 1) w2.heap.size w2 (ms ++ [.slice p7 (nI + 64) c7])) := by
                  have fa := HF2.out.alloc (.cells #[.slice p7 (nI + 64) c7] 24)
                  have ma := HM.out.alloc (.cells #[.slice p7 (nI + 64) c7] 24)
                  have hs2 : w.heap.size ≤ (wr.alloc (.cells #[.slice p7 (nI + 64) c7] 24)).heap.size := fa.size
                  have hs3 : S1 ≤ w2.heap.size := by have := grow.size; simp only [World.size_alloc] at this; omega
                  have hz2 : RowZ 5 (n I) w2 (.slice p7 (nI + 64) c7) (.int .u8 (128 + I)) := by rw [HV.out.2]; exact (HO2.out.alloc _).moved ma (by decide) grow
                  exact ⟨fa.grown grow (.inr HMb.out) (fun i hi => (fa.row i hi).kept grow (kinds_apart1 (fa.row i hi) ma (by decide))), own', HMb.out.next hs2 (by simpa only [World.size_alloc] using fresh), ((HD2.out.alloc _).moved ma (by decide) grow).next hml hIM HB2.out hz2 HP.out (fun i hi g hg => Nat.lt_of_lt_of_le (HVL.out i hi g hg) HSz.out) hs3⟩
                clear own' grow keep fresh fb fc
                go_wp2
                go_roundw
                case rel =>
                  refine ⟨I + 1, ms ++ [.slice p7 (nI + 64) c7], by omega, ?_, HW.out.1, HW.out.2.1, HW.out.2.2.1, HW.out.2.2.2⟩
                  go_num
                case measure => simp [intOf]; omega
        · have e0 : decide ((I : Int) < M) = false := by simp; omega
          obtain rfl : M = I := by omega
          have HF3 : Hid (Fs 5 M n v w wr xs) := hF
          have HD3 : Hid (Done 5 (fun t => .int .u8 (128 + t)) n v M M wr.heap.size wr ms) := hD
          have HM3 : Hid (wr.ownsRow 0 24 1 u5 M ms) := hM
          clear hF hM hMb hD
          go_wp2
          go_loopw [9] (fun i wx => ∃ I : Nat, I ≤ M ∧ i = .int .i64 I ∧ wx = wr) (fun i _ => M - (intOf i).toNat)
          case atStart => exact ⟨0, by omega, rfl, rfl⟩
          case round =>
            obtain ⟨I, hI, rfl, rfl⟩ := hrel
            by_cases hIM : I < M
            · have e0 : (I : Int) < M := by omega
              have hnI := hn I hIM
              obtain ⟨p, c, hv⟩ := one_slice (HF3.out.row I hIM)
              obtain ⟨nI, hnn⟩ : ∃ k, n I = k := ⟨_, rfl⟩
              rw [hnn] at hnI
              have HV : Hid (v I = .slice p (n I) c ∧ n I = nI) := ⟨hv, hnn⟩
              clear hv hnn
              have c0 : wr.cell? ⟨bl, I, .none⟩ = some (.slice p nI c) := (HL.out wr xs HF3.out I hIM).trans (by rw [HV.out.1, HV.out.2])
              obtain ⟨pm, cm, rfl⟩ := one_slice HM3.out
              obtain ⟨gm, rfl, hgm0, hgm1⟩ := row_shape HM3.out (by omega)
              obtain ⟨mI, hmI, ⟨zs, hzo, hzz⟩, _, _⟩ := HD3.out I hIM
              obtain ⟨px, cx, rfl⟩ := one_slice hzo
              obtain ⟨gx, rfl, hgx0, hgx1⟩ := row_shape hzo (by omega)
              rw [HV.out.2] at hzo hzz hmI
              have q0 : wr.cell? ⟨gm, I, .none⟩ = some (.slice (some ⟨gx, 0, .none⟩) (nI + 64) cx) := (HM3.out.cellAt I (by omega)).trans hmI
              have HG : Hid (∀ j, j < 64 → wr.cell? ⟨gx, nI + j, .none⟩ = some (.int .u8 (128 + I))) := fun j hj => (hzo.cellAt (nI + j) (by omega)).trans (hzz j hj)
              have HRo : Hid (wr.ownsRow 0 5 1 (.slice p nI c) nI (xs I)) := by
                have := HF3.out.row I hIM
                rw [HV.out.1, HV.out.2] at this
                exact this
              have m1 : (I : Int).tmod 100 = I := by rw [Int.tmod_eq_emod_of_nonneg (by omega)]; omega
              clear hmI hzo hzz
              go_wp2
              go_loopw [11] (fun k wx => ∃ K : Nat, K ≤ nI ∧ k = .int .i64 K ∧ wx = wr) (fun k _ => nI - (intOf k).toNat)
              case atStart => exact ⟨0, by omega, rfl, rfl⟩
              case round =>
                obtain ⟨K, hK, rfl, rfl⟩ := hrel
                by_cases hlt : K < nI
                · obtain ⟨g, rfl, hg0, hg1⟩ := row_shape HRo.out (by omega)
                  have ck := (HRo.out.cellAt K (by omega)).trans (HX.out I hIM K (by have := HV.out.2; omega))
                  have e1 : (K : Int) < (nI : Int) := by omega
                  go_wp2
                  exact ⟨⟨K + 1, by omega, by go_num, trivial⟩, by simp [intOf]; omega⟩
                · have e1 : decide ((K : Int) < (nI : Int)) = false := by simp; omega
                  go_wp2
                  go_loopw [12] (fun k wx => ∃ K : Nat, K ≤ 64 ∧ k = .int .i64 K ∧ wx = wr) (fun k _ => 64 - (intOf k).toNat)
                  case atStart => exact ⟨0, by omega, rfl, rfl⟩
                  case round =>
                    obtain ⟨J, hJ, rfl, rfl⟩ := hrel
                    by_cases hlt : J < 64
                    · have q1 : wr.cell? ⟨gx, nI + J, .none⟩ = some (.int .u8 (128 + I)) := HG.out J hlt
                      have e2 : (J : Int) < 64 := by omega
                      have e3 : (nI : Int) + (J : Int) < (nI : Int) + 64 := by omega
                      go_wp2
                      exact ⟨⟨J + 1, by omega, by go_num, trivial⟩, by simp [intOf]; omega⟩
                    · have e2 : decide ((J : Int) < 64) = false := by simp; omega
                      go_wp2
                      exact ⟨⟨I + 1, by omega, by go_num, trivial⟩, by simp [intOf]; omega⟩
            · have e0 : decide ((I : Int) < M) = false := by simp; omega
              go_wp2
              go_ret
              exact ⟨rfl, xs, HF3.out⟩
end Go.Proofs.YtblmkkhiojbcjaaGreat.Fz
