import Derived.Test.YthdlefbaegbldaaGreatDoorCs
import Derived.Deep.RegionLaw
namespace Go.Proofs.YthdlefbaegbldaaGreatDoor
open Go.RowKit
set_option linter.unusedVariables false
set_option linter.unusedSimpArgs false
set_option maxRecDepth 100000
theorem cut_b (b n k : Nat) (x : Int) (hx : x = k) (hk : k ≤ 128) (W : World) : (Instr.slice 35 (.slice (some ⟨b, 0, .none⟩) n 128) none (some (.int .i64 x)) none).run Tryz.prog W = .ok (.slice (some ⟨b, 0, .none⟩) k 128) W := by
  rw [hx, cut_to _ _ _ _ (by omega)]
  simp [cutp, le_addr_add]
theorem ix_lt (c : Int) : ∀ (xs : List Int) (k : Nat), ix c xs = some k → k < xs.length
  | [], k, h => by cases h
  | x :: xs, k, h => by
    simp only [ix] at h
    split at h
    · simp only [Option.some.injEq] at h; subst h; simp
    · rw [Option.map_eq_some_iff] at h
      obtain ⟨j, hj, rfl⟩ := h
      have := ix_lt c xs j hj
      simp; omega
theorem ix_cases (c : Int) (xs : List Int) : (ix c xs = none ∧ ixI c xs = -1) ∨ ∃ k : Nat, ix c xs = some k ∧ ixI c xs = (k : Int) ∧ k < xs.length := by
  have h2 : ix c xs = none ∨ ∃ k, ix c xs = some k := by cases ix c xs <;> simp
  rcases h2 with hq | ⟨k, hq⟩
  · exact .inl ⟨hq, by simp [ixI, hq]⟩
  · exact .inr ⟨k, hq, by simp [ixI, hq], ix_lt c xs k hq⟩
set_option maxHeartbeats 4000000 in
theorem next_any {w : World} {b : Nat} {rs ls : List Int} (h : Con w b rs ls) (h0 : 0 < rs.length) (n : Int) :
    Calls Tryz.prog 105 #[.pointer (some ⟨b, 0, .none⟩), .int .i64 n] w fun e w' => e = .returned (.tuple #[.int .i64 (nxT rs n), .int .i64 (nxG rs n)]) ∧ ∃ k, w' = w.drewN k := by
  have HC : Hid (Con w b rs ls) := h
  have c1 := h.cells.1
  have hle := h.le
  have hbs := h.bytes
  obtain ⟨x0, hx0⟩ : ∃ x, rs.head? = some x := by
    cases rs with
    | nil => simp at h0
    | cons a t => exact ⟨a, rfl⟩
  have cx : w.cell? ⟨b, 0, .none⟩ = some (.int .u8 x0) := by
    have hB := h.byt 0 1 128 (by omega) (by omega) (by omega)
    rcases hB.2.2.2 with h1 | ⟨g, o, he, _, h1⟩
    · cases h1
    · injection he with he
      injection he with e1 e2 e3
      subst e1 e2
      refine h1 0 x0 ?_
      rw [List.drop_zero, List.getElem?_take, if_pos (by omega), List.getElem?_append_left h0, ← List.head?_eq_getElem?]
      exact hx0
  obtain ⟨R, hR⟩ : ∃ R, R = rs.length := ⟨_, rfl⟩
  have rt := row_to b R (rs.length : Int) (by omega) (by omega)
  rw [← hR] at rt c1 h0 hle
  have HR : Hid (R = rs.length) := hR
  have HB : Hid (∀ x ∈ rs ++ ls, 0 ≤ x ∧ x < 256) := hbs
  have HX : Hid (rs.head? = some x0) := hx0
  clear h hbs hR hx0
  by_cases hn : n < 1
  · have HT : Hid (nxT rs n = 0 ∧ nxG rs n = 0) := by constructor <;> simp [nxT, nxG, hn]
    rw [HT.out.1, HT.out.2]
    clear cx
    go_enter Tryz.func105, Tryz.ntmps105
    go_wp2
    go_region
    go_wp2
    go_ret2
    exact ⟨rfl, _, rfl⟩
  by_cases hx4 : x0 = 4
  · subst hx4
    have HT : Hid (nxT rs n = 0 ∧ nxG rs n = 1) := ⟨nxT_end rs n HX.out, by simp [nxG, hn, HX.out]⟩
    rw [HT.out.1, HT.out.2]
    go_enter Tryz.func105, Tryz.ntmps105
    go_wp2
    go_region
    go_wp2
    go_ret2
    exact ⟨rfl, _, rfl⟩
  have i4 : (x0 == 4) = false := by simpa using hx4
  have HT : Hid (nxT rs n = upt n.toNat rs ∧ nxG rs n = upt n.toNat rs) := ⟨by simp [nxT, hn], by simp [nxG, hn, HX.out, hx4]⟩
  obtain ⟨m, hm⟩ : ∃ m, m = min n.toNat R := ⟨_, rfl⟩
  have e1 : min n (R : Int) = m := by omega
  have hm0 : 0 < m := by omega
  have hmR : m ≤ R := by omega
  have HU : Hid (upt n.toNat rs = cutB ((rs.take m).take (cutA (rs.take m)))) := by
    have e : rs.take n.toNat = rs.take m := by
      rw [hm]
      by_cases hq : n.toNat ≤ R
      · rw [Nat.min_eq_left hq]
      · rw [Nat.min_eq_right (by omega), HR.out, List.take_length, List.take_of_length_le (by have := HR.out; omega)]
    show upt n.toNat rs = _
    rw [upt_cut, e]
  rw [HT.out.1, HT.out.2, HU.out]
  have hlm : (rs.take m).length = m := by rw [List.length_take]; have := HR.out; omega
  have BY : Hid (∀ k j, k ≤ m → Byt (w.drewN j) (some ⟨b, 0, .none⟩) k 128 ((rs.take m).take k)) := fun k j hk => by
    have := (HC.out.drewN j).byt 0 k 128 (by have := HR.out; omega) (by omega) (by omega)
    rw [List.drop_zero] at this
    have e : (rs ++ ls).take k = (rs.take m).take k := by
      rw [List.take_take, Nat.min_eq_left hk, List.take_append_of_le_length (by have := HR.out; omega)]
    rw [e] at this
    exact this
  have hby : ∀ k, ∀ x ∈ (rs.take m).take k, 0 ≤ x ∧ x < 256 := fun k x hx => HB.out x (List.mem_append_left _ (List.mem_of_mem_take (List.mem_of_mem_take hx)))
  have HY : Hid (∀ k, ∀ x ∈ (rs.take m).take k, 0 ≤ x ∧ x < 256) := hby
  clear HT HU hby HX hx4
  obtain ⟨A, hA⟩ : ∃ A, A = cutA (rs.take m) := ⟨_, rfl⟩
  have HM : Hid ((rs.take m).length = m) := hlm
  have k1 := cut_b b R m m rfl (by omega)
  have k1a := cutat (some ⟨b, 0, .none⟩) R 128
  rw [← hA]
  have HA : Hid (A = cutA (rs.take m)) := hA
  clear hA hlm hm
  have c49 := index_any (w := w.drewN 1) (p := some ⟨b, 0, .none⟩) (n := m) (c := 128) (xs := (rs.take m).take m) (BY.out m 1 (Nat.le_refl _)) (HY.out m) hm0 10 (by decide)
  rw [List.take_of_length_le (by have := HM.out; omega)] at c49
  go_enter Tryz.func105, Tryz.ntmps105
  go_wp2
  go_region
  go_wp2_with fail
  refine c49.mono ?_
  rintro e w1 ⟨rfl, hw1⟩
  obtain rfl : w.drewN 1 = w1 := hw1.symm
  clear c49
  rcases ix_cases 10 (rs.take m) with ⟨hq, hqi⟩ | ⟨k, hq, hqi, hk⟩
  · have eA : A = m := by rw [HA.out, cutA, hq]; exact HM.out
    rw [hqi]
    subst eA
    clear hq hqi
    have c49 := index_any (w := w.drewN 1) (p := some ⟨b, 0, .none⟩) (n := A) (c := 128) (xs := (rs.take A).take A) (BY.out A 1 (by omega)) (HY.out A) (by omega) 4 (by decide)
    have HLA : Hid (((rs.take A).take A).length = A) := by show _ = _; rw [List.length_take, HM.out]; omega
    go_wp2_with fail
    refine c49.mono ?_
    rintro e w1 ⟨rfl, hw1⟩
    obtain rfl : w.drewN 1 = w1 := hw1.symm
    clear c49
    rcases ix_cases 4 ((rs.take A).take A) with ⟨hp, hpi⟩ | ⟨j, hp, hpi, hj⟩
    · have EB : Hid (cutB ((rs.take A).take A) = A) := by show cutB ((rs.take A).take A) = A; rw [cutB, hp]; exact HLA.out
      rw [hpi]
      clear hp hpi
      go_wp2
      go_ret2
      exact ⟨by rw [EB.out]; rfl, _, rfl⟩
    · have EB : Hid (cutB ((rs.take A).take A) = j) := by show cutB ((rs.take A).take A) = j; rw [cutB, hp]
      have hjA : j < A := by have := HLA.out; omega
      rw [hpi]
      clear hp hpi
      have k3 := cut_b b A j j rfl (by omega)
      have k3a := cutat (some ⟨b, 0, .none⟩) A 128
      go_wp2
      go_ret2
      exact ⟨by rw [EB.out]; rfl, _, rfl⟩
  · have eA : A = k + 1 := by rw [HA.out, cutA, hq]
    rw [hqi]
    have hkm : k < m := by have := HM.out; omega
    subst eA
    have k2 := cut_b b m (k + 1) ((k : Int) + 1) (by omega) (by omega)
    have k2a := cutat (some ⟨b, 0, .none⟩) m 128
    clear hq hqi hk
    have c49 := index_any (w := w.drewN 1) (p := some ⟨b, 0, .none⟩) (n := (k + 1)) (c := 128) (xs := (rs.take m).take (k + 1)) (BY.out (k + 1) 1 (by omega)) (HY.out (k + 1)) (by omega) 4 (by decide)
    have HLA : Hid (((rs.take m).take (k + 1)).length = (k + 1)) := by show _ = _; rw [List.length_take, HM.out]; omega
    go_wp2_with fail
    refine c49.mono ?_
    rintro e w1 ⟨rfl, hw1⟩
    obtain rfl : w.drewN 1 = w1 := hw1.symm
    clear c49
    rcases ix_cases 4 ((rs.take m).take (k + 1)) with ⟨hp, hpi⟩ | ⟨j, hp, hpi, hj⟩
    · have EB : Hid (cutB ((rs.take m).take (k + 1)) = (k + 1)) := by show cutB ((rs.take m).take (k + 1)) = (k + 1); rw [cutB, hp]; exact HLA.out
      rw [hpi]
      clear hp hpi
      go_wp2
      go_ret2
      exact ⟨by rw [EB.out]; rfl, _, rfl⟩
    · have EB : Hid (cutB ((rs.take m).take (k + 1)) = j) := by show cutB ((rs.take m).take (k + 1)) = j; rw [cutB, hp]
      have hjA : j < (k + 1) := by have := HLA.out; omega
      rw [hpi]
      clear hp hpi
      have k3 := cut_b b (k + 1) j j rfl (by omega)
      have k3a := cutat (some ⟨b, 0, .none⟩) (k + 1) 128
      go_wp2
      go_ret2
      exact ⟨by rw [EB.out]; rfl, _, rfl⟩

set_option maxHeartbeats 2000000 in
theorem drop_any {w : World} {b : Nat} {rs ls : List Int} (h : Con w b rs ls) (n : Nat) (hn : n ≤ rs.length) :
    Calls Tryz.prog 106 #[.pointer (some ⟨b, 0, .none⟩), .int .i64 n] w fun e w' => (∃ v, e = .returned v) ∧ Con w' b (rs.drop n) ls ∧ Trn b w w' := by
  have HC : Hid (Con w b rs ls) := h
  have hle := h.le
  obtain ⟨B, hB, hx⟩ := h
  obtain ⟨H, hH⟩ : ∃ H, H = rs.length + ls.length := ⟨_, rfl⟩
  have c1 := hB.c1
  have c2 := hB.c2
  rw [← hH] at hB c2 hle
  have HB : Hid (Cns w b B rs.length H ∧ (∀ j x, (rs ++ ls)[j]? = some x → B j = x) ∧ H = rs.length + ls.length) := ⟨hB, hx, hH⟩
  have hrH : rs.length ≤ H := by omega
  have ra := row_all b
  have rl := row_lh b n H n H rfl rfl (by omega) (by omega)
  have BY : Hid (Byt w.drew (some ⟨b, rat n, .none⟩) (H - n) (128 - n) (((rs ++ ls).drop n).take (H - n))) := (HC.out.drewN 1).bytR n H (by omega) (by omega)
  have M1 : Hid (H - n = Nat.min (H - n) 128) := (Nat.min_eq_left (by omega)).symm
  have s2 : Hid (∀ j, j < H - n → (w.drew.cell? ⟨b, 0 + j, .none⟩).isSome = true) := fun j hj => by
    rw [World.cell?_drew, HB.out.1.cb (0 + j) (by omega)]
    rfl
  have s3 : Hid (∀ j, j < H - n → w.drew.frozen? ⟨b, 0 + j, .none⟩ = false) := fun j hj => HB.out.1.fb _
  have hlz : ((rs ++ ls).drop n).length = H - n := by rw [List.length_drop, List.length_append]; omega
  have HZ : Hid (((((rs ++ ls).drop n).take (H - n)).take (H - n)) = (rs ++ ls).drop n) := by
    show _ = _
    rw [List.take_take, Nat.min_self, List.take_of_length_le (by omega)]
  have HK : Hid (∀ W, W = w.drew.setCells b 0 (by8 ((((rs ++ ls).drop n).take (H - n)).take (H - n))) → Cns W b (ovr B ((rs ++ ls).drop n)) rs.length H ∧ Trn b w W) := fun W hW => by
    rw [HZ.out] at hW
    subst hW
    refine ⟨Cns.over (HB.out.1.drewN 1) _ (by rw [hlz]; omega) (fun z hz => HC.out.bytes z (List.mem_of_mem_drop hz)), (Trn.drew b w).trans (Trn.setCells _ _ _ _)⟩
  clear hB hx hH
  go_enter Tryz.func106, Tryz.ntmps106
  go_upto_region 0 with fail
  go_region_law (refine step_copy_byt rfl (.tmp 7) (.tmp 16) rfl b 0 128 128 (some ⟨b, rat n, .none⟩) (H - n) (128 - n) (((rs ++ ls).drop n).take (H - n)) (by simp [Act.eval, Act.put]) (by simp [Act.eval, Act.put]) BY.out (H - n) M1.out s2.out s3.out ?_)
  have hk := HK.out _ rfl
  generalize w.drew.setCells b 0 (by8 ((((rs ++ ls).drop n).take (H - n)).take (H - n))) = W1 at *
  have H1 : Hid (Cns W1 b (ovr B ((rs ++ ls).drop n)) rs.length H ∧ Trn b w W1) := hk
  clear hk HK s2 s3 BY ra rl c1 c2
  have d1 := H1.out.1.c1
  have d2 := H1.out.1.c2
  have f1 := H1.out.1.fb 128
  have f2 := H1.out.1.fb 129
  have d2' := cell_off (i := 129) d2 128 (.int .i64 ((rs.length : Int) - n)) (by decide)
  have f2' := H1.out.1.froz 128 (.int .i64 ((rs.length : Int) - n)) 129
  go_wp2
  go_end0
  refine ⟨⟨_, rfl⟩, ⟨ovr B ((rs ++ ls).drop n), ?_, ?_⟩, H1.out.2.trans ((Trn.setCell _ _ _ _).trans (Trn.setCell _ _ _ _))⟩
  · have q1 := H1.out.1.setR (rs.length - n) (by have := HB.out.2.2; omega)
    have q2 := q1.setH (H - n) (by have := HB.out.2.2; omega) (by omega)
    have e1 : ((rs.length - n : Nat) : Int) = (rs.length : Int) - n := by omega
    have e2 : ((H - n : Nat) : Int) = (H : Int) - n := by have := HB.out.2.2; omega
    rw [e1, e2] at q2
    have e3 : (rs.drop n).length = rs.length - n := List.length_drop
    have e4 : (rs.drop n).length + ls.length = H - n := by rw [e3]; have := HB.out.2.2; omega
    rw [e4, e3]
    exact q2
  · intro j x hj
    rw [← List.drop_append_of_le_length hn] at hj
    unfold ovr
    rw [if_pos (List.getElem?_eq_some_iff.1 hj).1, List.getD_eq_getElem?_getD, hj]
    rfl
end Go.Proofs.YthdlefbaegbldaaGreatDoor
