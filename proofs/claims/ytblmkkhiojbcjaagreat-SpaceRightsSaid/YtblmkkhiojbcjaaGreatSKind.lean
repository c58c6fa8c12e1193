import Derived.Test.YtblmkkhiojbcjaaGreatSPure
namespace Go.Proofs.YtblmkkhiojbcjaaGreat
open Go.RowKit
set_option linter.unusedVariables false
set_option linter.unusedSimpArgs false
/-- All bits of c are set in e; one of them is. -/
def hs (e c : Int) : Bool := bits .and .u64 e c == c
def ho (e c : Int) : Bool := bits .and .u64 e c != 0
/-- Where the page of an entry begins. -/
def adE (e : Int) : Int := e / 1024 * 4096 % 18446744073709551616
theorem adE_b (e : Int) : 0 ≤ adE e ∧ adE e < 18446744073709551616 := by unfold adE; omega
/-- What an entry is at a level: 0 empty, 1 bad, 2 a leaf, 3 a pointer. -/
def kd (e l : Int) : Int := if hs e 1 = false then 0 else if 18014398509481984 ≤ e then 1 else if hs e 4 = true ∧ hs e 2 = false then 1 else if ho e 10 = true then (if adE e % spn l = 0 then 2 else 1) else if l = 0 then 1 else if ho e 208 = true then 1 else 3
theorem has_any (e c : Int) (w : World) : Calls Tryz.prog 135 #[.int .u64 e, .int .u64 c] w fun r w' => r = .returned (.bool (hs e c)) ∧ w' = w := by
  go_enter Tryz.func135, Tryz.ntmps135
  go_wp2
  go_ret
  exact ⟨rfl, rfl⟩
theorem hasOne_any (e c : Int) (w : World) : Calls Tryz.prog 139 #[.int .u64 e, .int .u64 c] w fun r w' => r = .returned (.bool (ho e c)) ∧ w' = w := by
  go_enter Tryz.func139, Tryz.ntmps139
  go_wp2
  go_ret
  exact ⟨rfl, rfl⟩
theorem readIf_any (e : Int) (w : World) : Calls Tryz.prog 140 #[.int .u64 e] w fun r w' => r = .returned (.bool (!hs e 4 || hs e 2)) ∧ w' = w := by
  cases h4 : hs e 4 <;> cases h2 : hs e 2
  all_goals
    go_enter Tryz.func140, Tryz.ntmps140
    go_wp2_with (first | (go_at_call 135; refine (has_any _ _ _).mono ?_; rintro r w0 ⟨rfl, rfl⟩))
    go_ret
    exact ⟨rfl, rfl⟩
theorem address_any (e : Int) (w : World) (he : 0 ≤ e ∧ e < 18446744073709551616) : Calls Tryz.prog 95 #[.int .u64 e] w fun r w' => r = .returned (.int .u64 (adE e)) ∧ w' = w := by
  have h : IntKind.u64.wrap (e / 1024 * 4096) = adE e := IntKind.wrap_u64 _
  rw [← h]
  clear h
  go_enter Tryz.func95, Tryz.ntmps95
  go_wp2
  go_ret
  exact ⟨rfl, rfl⟩
set_option maxHeartbeats 1000000 in
theorem kind_any (e l : Int) (he : 0 ≤ e ∧ e < 18446744073709551616) (hl : l = 0 ∨ l = 1 ∨ l = 2) (w : World) : Calls Tryz.prog 138 #[.int .u64 e, .int .i64 l] w fun r w' => r = .returned (.int .i64 (kd e l)) ∧ w' = w := by
  have c46 := fun W => address_any e W he
  have c51 := fun W => inSpan_any (adE e) l (adE_b e) (by omega) W
  obtain ⟨x, hx⟩ : ∃ x, x = adE e % spn l := ⟨_, rfl⟩
  have e1 : ∀ k, kd e l = k ↔ (if hs e 1 = false then 0 else if 18014398509481984 ≤ e then 1 else if hs e 4 = true ∧ hs e 2 = false then 1 else if ho e 10 = true then (if x = 0 then 2 else 1) else if l = 0 then 1 else if ho e 208 = true then 1 else 3) = k := fun k => by rw [hx]; exact Iff.rfl
  rw [← hx] at c51
  cases h1 : hs e 1
  · have ek : kd e l = 0 := (e1 0).2 (by simp [h1])
    rw [ek]
    clear e1 hx c46 c51
    go_enter Tryz.func138, Tryz.ntmps138
    go_wp2_with (first | (go_at_call 135; refine (has_any _ _ _).mono ?_; rintro r w0 ⟨rfl, rfl⟩))
    go_ret
    exact ⟨rfl, rfl⟩
  by_cases h54 : 18014398509481984 ≤ e
  · have ek : kd e l = 1 := (e1 1).2 (by simp [h1, h54])
    rw [ek]
    have h55 : ¬ e / 18014398509481984 = 0 := by omega
    clear e1 hx c46 c51
    go_enter Tryz.func138, Tryz.ntmps138
    go_wp2_with (first | (go_at_call 135; refine (has_any _ _ _).mono ?_; rintro r w0 ⟨rfl, rfl⟩))
    go_ret
    exact ⟨rfl, rfl⟩
  have h55 : e / 18014398509481984 = 0 := by omega
  cases h6 : (!hs e 4 || hs e 2)
  · have h6' : hs e 4 = true ∧ hs e 2 = false := by revert h6; cases hs e 4 <;> cases hs e 2 <;> simp
    have ek : kd e l = 1 := (e1 1).2 (by simp [h1, h54, h6'])
    rw [ek]
    have c68 := fun W => readIf_any e W
    rw [h6] at c68
    clear e1 hx c46 c51 h6 h6'
    go_enter Tryz.func138, Tryz.ntmps138
    go_wp2_with (first | (go_at_call 135; refine (has_any _ _ _).mono ?_; rintro r w0 ⟨rfl, rfl⟩) | (go_at_call 140; refine (c68 _).mono ?_; rintro r w0 ⟨rfl, rfl⟩))
    go_ret
    exact ⟨rfl, rfl⟩
  have h6' : ¬ (hs e 4 = true ∧ hs e 2 = false) := by revert h6; cases hs e 4 <;> cases hs e 2 <;> simp
  have c68 := fun W => readIf_any e W
  rw [h6] at c68
  clear h6
  cases h10 : ho e 10
  · by_cases hl0 : l = 0
    · have ek : kd e l = 1 := (e1 1).2 (by simp [h1, h54, h6', h10, hl0])
      rw [ek]
      clear e1 hx c46 c51 h6'
      go_enter Tryz.func138, Tryz.ntmps138
      go_wp2_with (first | (go_at_call 135; refine (has_any _ _ _).mono ?_; rintro r w0 ⟨rfl, rfl⟩) | (go_at_call 140; refine (c68 _).mono ?_; rintro r w0 ⟨rfl, rfl⟩) | (go_at_call 139; refine (hasOne_any _ _ _).mono ?_; rintro r w0 ⟨rfl, rfl⟩))
      go_ret
      exact ⟨rfl, rfl⟩
    · cases h208 : ho e 208
      · have ek : kd e l = 3 := (e1 3).2 (by simp [h1, h54, h6', h10, hl0, h208])
        rw [ek]
        clear e1 hx c46 c51 h6'
        go_enter Tryz.func138, Tryz.ntmps138
        go_wp2_with (first | (go_at_call 135; refine (has_any _ _ _).mono ?_; rintro r w0 ⟨rfl, rfl⟩) | (go_at_call 140; refine (c68 _).mono ?_; rintro r w0 ⟨rfl, rfl⟩) | (go_at_call 139; refine (hasOne_any _ _ _).mono ?_; rintro r w0 ⟨rfl, rfl⟩))
        go_ret
        exact ⟨rfl, rfl⟩
      · have ek : kd e l = 1 := (e1 1).2 (by simp [h1, h54, h6', h10, hl0, h208])
        rw [ek]
        clear e1 hx c46 c51 h6'
        go_enter Tryz.func138, Tryz.ntmps138
        go_wp2_with (first | (go_at_call 135; refine (has_any _ _ _).mono ?_; rintro r w0 ⟨rfl, rfl⟩) | (go_at_call 140; refine (c68 _).mono ?_; rintro r w0 ⟨rfl, rfl⟩) | (go_at_call 139; refine (hasOne_any _ _ _).mono ?_; rintro r w0 ⟨rfl, rfl⟩))
        go_ret
        exact ⟨rfl, rfl⟩
  · by_cases hx0 : x = 0
    · have ek : kd e l = 2 := (e1 2).2 (by simp [h1, h54, h6', h10, hx0])
      rw [ek]
      clear e1 hx h6'
      go_enter Tryz.func138, Tryz.ntmps138
      go_wp2_with (first | (go_at_call 135; refine (has_any _ _ _).mono ?_; rintro r w0 ⟨rfl, rfl⟩) | (go_at_call 140; refine (c68 _).mono ?_; rintro r w0 ⟨rfl, rfl⟩) | (go_at_call 139; refine (hasOne_any _ _ _).mono ?_; rintro r w0 ⟨rfl, rfl⟩) | (go_at_call 95; refine (c46 _).mono ?_; rintro r w0 ⟨rfl, rfl⟩) | (go_at_call 101; refine (c51 _).mono ?_; rintro r w0 ⟨rfl, rfl⟩))
      go_ret
      exact ⟨rfl, rfl⟩
    · have ek : kd e l = 1 := (e1 1).2 (by simp [h1, h54, h6', h10, hx0])
      rw [ek]
      clear e1 hx h6'
      go_enter Tryz.func138, Tryz.ntmps138
      go_wp2_with (first | (go_at_call 135; refine (has_any _ _ _).mono ?_; rintro r w0 ⟨rfl, rfl⟩) | (go_at_call 140; refine (c68 _).mono ?_; rintro r w0 ⟨rfl, rfl⟩) | (go_at_call 139; refine (hasOne_any _ _ _).mono ?_; rintro r w0 ⟨rfl, rfl⟩) | (go_at_call 95; refine (c46 _).mono ?_; rintro r w0 ⟨rfl, rfl⟩) | (go_at_call 101; refine (c51 _).mono ?_; rintro r w0 ⟨rfl, rfl⟩))
      go_ret
      exact ⟨rfl, rfl⟩
end Go.Proofs.YtblmkkhiojbcjaaGreat
