import Derived.Test.YtfafinjbobmafaaDoorRReg
namespace Go.Proofs.YtfafinjbobmafaaDoor
open Go.RowKit
set_option linter.unusedVariables false
theorem plain_any (r : Int) (w : World) (h0 : 0 ≤ r) (h1 : r < 32) :
    Calls Tryd.prog 32 #[.int .i64 r] w fun e w' => e = .returned (.string (xname r)) ∧ ∃ n, w' = w.drewN n := by
  by_cases h : r < 10
  · exact plain_lo r w h0 h
  · exact plain_hi r w (by omega) h1
/-- The first register whose name it is (32: none). -/
def FirstR (s : ByteArray) (m : Nat) : Prop := m ≤ 32 ∧ (∀ k : Nat, k < m → rgn k ≠ s ∧ xname k ≠ s) ∧ (m < 32 → rgn m = s ∨ xname m = s)
def fpB : ByteArray := ⟨#[102, 112]⟩
theorem treg_n (n : Nat) (h : n < 32) : TReg[n]? = some (.string (rgn n)) := by
  have := treg_at (n : Int) (by omega) (by omega)
  rwa [show ((n : Nat) : Int).toNat = n by omega] at this
set_option maxHeartbeats 2000000 in
set_option maxRecDepth 100000 in
theorem rReg_yes (s : ByteArray) (m : Nat) (w : World) (hF : FirstR s m) (h32 : m < 32) :
    Calls Tryd.prog 13 #[.string s] w fun e w' => e = .returned (.tuple #[.int .i64 m, .bool true]) ∧ Below w.heap.size w w' := by
  have H : Hid (FirstR s m) := hF
  have tr := treg_n
  clear hF
  go_enter Tryd.func13, Tryd.ntmps13
  go_wp2_with fail
  refine (registers_any _).mono ?_; rintro e w' ⟨rfl, rfl⟩
  generalize TReg = T at tr ⊢
  have hB : ∀ q, Below w.heap.size w ((w.alloc (.cells T 9)).drewN q) := fun q => below_drewN ((Below.refl _ _).alloc (Nat.le_refl _) _) q
  go_wp2
  go_loopw [5] (fun i wr => ∃ n q : Nat, n ≤ m ∧ i = .int .i64 n ∧ wr = (w.alloc (.cells T 9)).drewN q) (fun i _ => 32 - (intOf i).toNat)
  case atStart => exact ⟨0, 0, by omega, rfl, rfl⟩
  case round =>
    obtain ⟨n, q, h1, rfl, rfl⟩ := hrel
    have c0 := tr n (by omega)
    have hP := fun w => plain_any (n : Int) w (by omega) (by omega)
    have n32 : n < 32 := by omega
    by_cases he : n = m
    · by_cases hr : rgn n = s
      · have g := same_bytes hr.symm
        clear tr H hP
        subst he
        go_wp2
        go_ret2
        exact ⟨rfl, hB q⟩
      · have g := other_bytes (Ne.symm hr)
        have g2 := same_bytes (show s = xname n by
          have := H.out.2.2 h32
          rw [← he] at this
          exact (this.resolve_left hr).symm)
        clear tr H
        subst he
        go_wp2_with fail
        refine (hP _).mono ?_
        rintro e w1 ⟨rfl, q1, rfl⟩
        clear hP
        go_wp2
        go_ret2
        exact ⟨rfl, hB (q + q1)⟩
    · have hne := H.out.2.1 n (by omega)
      have g := other_bytes (Ne.symm hne.1)
      have g2 := other_bytes (Ne.symm hne.2)
      have hlt : n < m := by omega
      clear tr H hne he
      go_wp2_with fail
      refine (hP _).mono ?_
      rintro e w1 ⟨rfl, q1, rfl⟩
      clear hP
      go_wp2
      exact ⟨⟨n + 1, q + q1, by omega, by go_num, rfl⟩, by simp [intOf]; omega⟩
set_option maxHeartbeats 2000000 in
set_option maxRecDepth 100000 in
theorem rReg_no (s : ByteArray) (w : World) (hF : FirstR s 32) (fp : Bool) (hfp : (s.toList == fpB.toList) = fp) :
    Calls Tryd.prog 13 #[.string s] w fun e w' => e = .returned (.tuple #[.int .i64 (if fp then 8 else 0), .bool fp]) ∧ Below w.heap.size w w' := by
  have H : Hid (FirstR s 32) := hF
  have tr := treg_n
  clear hF
  unfold fpB at hfp
  go_enter Tryd.func13, Tryd.ntmps13
  go_wp2_with fail
  refine (registers_any _).mono ?_; rintro e w' ⟨rfl, rfl⟩
  generalize TReg = T at tr ⊢
  have hB : ∀ q, Below w.heap.size w ((w.alloc (.cells T 9)).drewN q) := fun q => below_drewN ((Below.refl _ _).alloc (Nat.le_refl _) _) q
  go_wp2
  go_loopw [5] (fun i wr => ∃ n q : Nat, n ≤ 32 ∧ i = .int .i64 n ∧ wr = (w.alloc (.cells T 9)).drewN q) (fun i _ => 32 - (intOf i).toNat)
  case atStart => exact ⟨0, 0, by omega, rfl, rfl⟩
  case round =>
    obtain ⟨n, q, h1, rfl, rfl⟩ := hrel
    by_cases n32 : n < 32
    · have c0 := tr n (by omega)
      have hP := fun w => plain_any (n : Int) w (by omega) (by omega)
      have hne := H.out.2.1 n n32
      have g := other_bytes (Ne.symm hne.1)
      have g2 := other_bytes (Ne.symm hne.2)
      clear tr H hne
      go_wp2_with fail
      refine (hP _).mono ?_
      rintro e w1 ⟨rfl, q1, rfl⟩
      clear hP
      go_wp2
      exact ⟨⟨n + 1, q + q1, by omega, by go_num, rfl⟩, by simp [intOf]; omega⟩
    · have e32 : n = 32 := by omega
      subst e32
      clear tr H
      have hl : (⟨#[102, 112]⟩ : ByteArray).toList = [102, 112] := by rw [ByteArray.toList_eq]
      rw [hl] at hfp
      cases fp
      · have h2 : ¬ s.toList = [102, 112] := by simpa using hfp
        go_wp2
        go_ret2
        exact ⟨rfl, hB q⟩
      · have h2 : s.toList = [102, 112] := by simpa using hfp
        go_wp2
        go_ret2
        exact ⟨rfl, hB q⟩
end Go.Proofs.YtfafinjbobmafaaDoor
