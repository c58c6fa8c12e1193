import Derived.Test.YthdahigckflohabZRef
namespace Go.Proofs.Ythdahigckflohab
open Go.RowKit
set_option linter.unusedVariables false
theorem ret_bool {a b : Bool} (h : a = b) : Ending.returned (.bool a) = .returned (.bool b) := by rw [h]
theorem ret_u32 {a b : Int} (h : a = b) : Ending.returned (.int .u32 a) = .returned (.int .u32 b) := by rw [h]
/-- May a field be that? -/
def fieldB (had : Bool) (n most : Int) : Bool := if had then decide (0 ≤ n ∧ n ≤ most) else decide (n = 0)
theorem rfield_any (had : Bool) (n most : Int) (w : World) :
    Calls Try.prog 85 #[.bool had, .int .i64 n, .int .i64 most] w fun e w' => e = .returned (.bool (fieldB had n most)) ∧ w' = w := by
  cases had
  · go_enter Try.func85, Try.ntmps85
    go_wp2
    go_ret
    exact ⟨ret_bool (by simp [fieldB]; rfl), rfl⟩
  · by_cases h : 0 ≤ n
    · have g : decide (0 ≤ n) = true := by simpa using h
      go_enter Try.func85, Try.ntmps85
      go_wp2
      go_ret
      exact ⟨ret_bool (by simp [fieldB, h]), rfl⟩
    · have g : decide (0 ≤ n) = false := by simpa using h
      go_enter Try.func85, Try.ntmps85
      go_wp2
      go_ret
      exact ⟨ret_bool (by have hn : ¬ (0 ≤ n ∧ n ≤ most) := by omega
                          simp only [fieldB, if_true, decide_eq_false hn]), rfl⟩
theorem tmod_zero (n k : Int) : n.tmod k = 0 ↔ n % k = 0 := by
  rw [← Int.dvd_iff_tmod_eq_zero, Int.dvd_iff_emod_eq_zero]
/-- May a shape's number be that? -/
def Hs (s n : Int) : Prop :=
  if s = 2 ∨ s = 5 ∨ s = 6 then -2048 ≤ n ∧ n ≤ 2047
  else if s = 3 then 0 ≤ n ∧ n ≤ 63
  else if s = 4 ∨ s = 14 then 0 ≤ n ∧ n ≤ 31
  else if s = 7 then -4096 ≤ n ∧ n ≤ 4094 ∧ n % 2 = 0
  else if s = 8 then -2147483648 ≤ n ∧ n ≤ 2147479552 ∧ n % 4096 = 0
  else if s = 9 then -1048576 ≤ n ∧ n ≤ 1048574 ∧ n % 2 = 0
  else if s = 10 then 0 ≤ n ∧ n ≤ 4095
  else n = 0
set_option maxHeartbeats 1000000 in
theorem holds_yes (s n : Int) (w : World) (hs0 : 1 ≤ s) (hs1 : s ≤ 14) (h : Hs s n) :
    Calls Try.prog 86 #[.int .i64 s, .int .i64 n] w fun e w' => e = .returned (.bool true) ∧ w' = w := by
  rcases shapes14 s hs0 hs1 with rfl | rfl | rfl | rfl | rfl | rfl | rfl | rfl | rfl | rfl | rfl | rfl | rfl | rfl
  · simp [Hs] at h
    go_enter Try.func86, Try.ntmps86
    go_wp2
    all_goals (go_ret; exact ⟨ret_bool (by first | rfl | (simp; omega) | (simp; exact (tmod_zero _ _).2 (by omega))), rfl⟩)
  · simp [Hs] at h
    go_enter Try.func86, Try.ntmps86
    go_wp2
    all_goals (go_ret; exact ⟨ret_bool (by first | rfl | (simp; omega) | (simp; exact (tmod_zero _ _).2 (by omega))), rfl⟩)
  · simp [Hs] at h
    go_enter Try.func86, Try.ntmps86
    go_wp2
    all_goals (go_ret; exact ⟨ret_bool (by first | rfl | (simp; omega) | (simp; exact (tmod_zero _ _).2 (by omega))), rfl⟩)
  · simp [Hs] at h
    go_enter Try.func86, Try.ntmps86
    go_wp2
    all_goals (go_ret; exact ⟨ret_bool (by first | rfl | (simp; omega) | (simp; exact (tmod_zero _ _).2 (by omega))), rfl⟩)
  · simp [Hs] at h
    go_enter Try.func86, Try.ntmps86
    go_wp2
    all_goals (go_ret; exact ⟨ret_bool (by first | rfl | (simp; omega) | (simp; exact (tmod_zero _ _).2 (by omega))), rfl⟩)
  · simp [Hs] at h
    go_enter Try.func86, Try.ntmps86
    go_wp2
    all_goals (go_ret; exact ⟨ret_bool (by first | rfl | (simp; omega) | (simp; exact (tmod_zero _ _).2 (by omega))), rfl⟩)
  · simp [Hs] at h
    go_enter Try.func86, Try.ntmps86
    go_wp2
    all_goals (go_ret; exact ⟨ret_bool (by first | rfl | (simp; omega) | (simp; exact (tmod_zero _ _).2 (by omega))), rfl⟩)
  · simp [Hs] at h
    go_enter Try.func86, Try.ntmps86
    go_wp2
    all_goals (go_ret; exact ⟨ret_bool (by first | rfl | (simp; omega) | (simp; exact (tmod_zero _ _).2 (by omega))), rfl⟩)
  · simp [Hs] at h
    go_enter Try.func86, Try.ntmps86
    go_wp2
    all_goals (go_ret; exact ⟨ret_bool (by first | rfl | (simp; omega) | (simp; exact (tmod_zero _ _).2 (by omega))), rfl⟩)
  · simp [Hs] at h
    go_enter Try.func86, Try.ntmps86
    go_wp2
    all_goals (go_ret; exact ⟨ret_bool (by first | rfl | (simp; omega) | (simp; exact (tmod_zero _ _).2 (by omega))), rfl⟩)
  · simp [Hs] at h
    go_enter Try.func86, Try.ntmps86
    go_wp2
    all_goals (go_ret; exact ⟨ret_bool (by first | rfl | (simp; omega) | (simp; exact (tmod_zero _ _).2 (by omega))), rfl⟩)
  · simp [Hs] at h
    go_enter Try.func86, Try.ntmps86
    go_wp2
    all_goals (go_ret; exact ⟨ret_bool (by first | rfl | (simp; omega) | (simp; exact (tmod_zero _ _).2 (by omega))), rfl⟩)
  · simp [Hs] at h
    go_enter Try.func86, Try.ntmps86
    go_wp2
    all_goals (go_ret; exact ⟨ret_bool (by first | rfl | (simp; omega) | (simp; exact (tmod_zero _ _).2 (by omega))), rfl⟩)
  · simp [Hs] at h
    go_enter Try.func86, Try.ntmps86
    go_wp2
    all_goals (go_ret; exact ⟨ret_bool (by first | rfl | (simp; omega) | (simp; exact (tmod_zero _ _).2 (by omega))), rfl⟩)
set_option maxHeartbeats 1000000 in
theorem holds_no (s n : Int) (w : World) (hs0 : 1 ≤ s) (hs1 : s ≤ 14) (h : ¬ Hs s n) :
    Calls Try.prog 86 #[.int .i64 s, .int .i64 n] w fun e w' => e = .returned (.bool false) ∧ w' = w := by
  rcases shapes14 s hs0 hs1 with rfl | rfl | rfl | rfl | rfl | rfl | rfl | rfl | rfl | rfl | rfl | rfl | rfl | rfl
  · have H : Hid (¬ Hs 1 n) := h
    clear h
    go_enter Try.func86, Try.ntmps86
    go_wp2
    all_goals (go_ret; exact ⟨ret_bool (by have h := H.out; simp [Hs] at h; first | rfl | (simp; omega) | (simp; intro hh; have := (tmod_zero _ _).1 hh; omega)), rfl⟩)
  · have H : Hid (¬ Hs 2 n) := h
    clear h
    go_enter Try.func86, Try.ntmps86
    go_wp2
    all_goals (go_ret; exact ⟨ret_bool (by have h := H.out; simp [Hs] at h; first | rfl | (simp; omega) | (simp; intro hh; have := (tmod_zero _ _).1 hh; omega)), rfl⟩)
  · have H : Hid (¬ Hs 3 n) := h
    clear h
    go_enter Try.func86, Try.ntmps86
    go_wp2
    all_goals (go_ret; exact ⟨ret_bool (by have h := H.out; simp [Hs] at h; first | rfl | (simp; omega) | (simp; intro hh; have := (tmod_zero _ _).1 hh; omega)), rfl⟩)
  · have H : Hid (¬ Hs 4 n) := h
    clear h
    go_enter Try.func86, Try.ntmps86
    go_wp2
    all_goals (go_ret; exact ⟨ret_bool (by have h := H.out; simp [Hs] at h; first | rfl | (simp; omega) | (simp; intro hh; have := (tmod_zero _ _).1 hh; omega)), rfl⟩)
  · have H : Hid (¬ Hs 5 n) := h
    clear h
    go_enter Try.func86, Try.ntmps86
    go_wp2
    all_goals (go_ret; exact ⟨ret_bool (by have h := H.out; simp [Hs] at h; first | rfl | (simp; omega) | (simp; intro hh; have := (tmod_zero _ _).1 hh; omega)), rfl⟩)
  · have H : Hid (¬ Hs 6 n) := h
    clear h
    go_enter Try.func86, Try.ntmps86
    go_wp2
    all_goals (go_ret; exact ⟨ret_bool (by have h := H.out; simp [Hs] at h; first | rfl | (simp; omega) | (simp; intro hh; have := (tmod_zero _ _).1 hh; omega)), rfl⟩)
  · have H : Hid (¬ Hs 7 n) := h
    clear h
    go_enter Try.func86, Try.ntmps86
    go_wp2
    all_goals (go_ret; exact ⟨ret_bool (by have h := H.out; simp [Hs] at h; first | rfl | (simp; omega) | (simp; intro hh; have := (tmod_zero _ _).1 hh; omega)), rfl⟩)
  · have H : Hid (¬ Hs 8 n) := h
    clear h
    go_enter Try.func86, Try.ntmps86
    go_wp2
    all_goals (go_ret; exact ⟨ret_bool (by have h := H.out; simp [Hs] at h; first | rfl | (simp; omega) | (simp; intro hh; have := (tmod_zero _ _).1 hh; omega)), rfl⟩)
  · have H : Hid (¬ Hs 9 n) := h
    clear h
    go_enter Try.func86, Try.ntmps86
    go_wp2
    all_goals (go_ret; exact ⟨ret_bool (by have h := H.out; simp [Hs] at h; first | rfl | (simp; omega) | (simp; intro hh; have := (tmod_zero _ _).1 hh; omega)), rfl⟩)
  · have H : Hid (¬ Hs 10 n) := h
    clear h
    go_enter Try.func86, Try.ntmps86
    go_wp2
    all_goals (go_ret; exact ⟨ret_bool (by have h := H.out; simp [Hs] at h; first | rfl | (simp; omega) | (simp; intro hh; have := (tmod_zero _ _).1 hh; omega)), rfl⟩)
  · have H : Hid (¬ Hs 11 n) := h
    clear h
    go_enter Try.func86, Try.ntmps86
    go_wp2
    all_goals (go_ret; exact ⟨ret_bool (by have h := H.out; simp [Hs] at h; first | rfl | (simp; omega) | (simp; intro hh; have := (tmod_zero _ _).1 hh; omega)), rfl⟩)
  · have H : Hid (¬ Hs 12 n) := h
    clear h
    go_enter Try.func86, Try.ntmps86
    go_wp2
    all_goals (go_ret; exact ⟨ret_bool (by have h := H.out; simp [Hs] at h; first | rfl | (simp; omega) | (simp; intro hh; have := (tmod_zero _ _).1 hh; omega)), rfl⟩)
  · have H : Hid (¬ Hs 13 n) := h
    clear h
    go_enter Try.func86, Try.ntmps86
    go_wp2
    all_goals (go_ret; exact ⟨ret_bool (by have h := H.out; simp [Hs] at h; first | rfl | (simp; omega) | (simp; intro hh; have := (tmod_zero _ _).1 hh; omega)), rfl⟩)
  · have H : Hid (¬ Hs 14 n) := h
    clear h
    go_enter Try.func86, Try.ntmps86
    go_wp2
    all_goals (go_ret; exact ⟨ret_bool (by have h := H.out; simp [Hs] at h; first | rfl | (simp; omega) | (simp; intro hh; have := (tmod_zero _ _).1 hh; omega)), rfl⟩)
end Go.Proofs.Ythdahigckflohab
