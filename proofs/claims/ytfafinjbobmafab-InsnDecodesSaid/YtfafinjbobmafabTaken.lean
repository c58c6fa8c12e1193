import Derived.Test.YtfafinjbobmafabRCut
namespace Go.Proofs.Ytfafinjbobmafab
open Go.RowKit
set_option linter.unusedVariables false
theorem ite_of {p : Prop} {inst : Decidable p} {a b c : Int} (h1 : p → a = b) (h2 : ¬ p → a = c) : a = @ite _ p inst b c := by
  by_cases h : p
  · rw [if_pos h]; exact h1 h
  · rw [if_neg h]; exact h2 h
theorem tk_eq2 (x : Int) (hx0 : 0 ≤ x) (hx1 : x < 4294967296) : tk 2 x = sgn (pc x 20 12) 12 := by
  have hw := w32 x ⟨hx0, hx1⟩
  simp [tk, sg, sgn, pc]
  exact ite_of (fun h => by omega) (fun h => by omega)
theorem tk_eq5 (x : Int) (hx0 : 0 ≤ x) (hx1 : x < 4294967296) : tk 5 x = sgn (pc x 20 12) 12 := by
  have hw := w32 x ⟨hx0, hx1⟩
  simp [tk, sg, sgn, pc]
  exact ite_of (fun h => by omega) (fun h => by omega)
theorem tk_eq6 (x : Int) (hx0 : 0 ≤ x) (hx1 : x < 4294967296) : tk 6 x = sgn (pc x 25 7 * 32 + pc x 7 5) 12 := by
  have hw := w32 x ⟨hx0, hx1⟩
  simp [tk, sg, sgn, pc]
  exact ite_of (fun h => by omega) (fun h => by omega)
theorem tk_eq7 (x : Int) (hx0 : 0 ≤ x) (hx1 : x < 4294967296) : tk 7 x = sgn (pc x 31 1 * 4096 + pc x 7 1 * 2048 + pc x 25 6 * 32 + pc x 8 4 * 2) 13 := by
  have hw := w32 x ⟨hx0, hx1⟩
  simp [tk, sg, sgn, pc]
  exact ite_of (fun h => by omega) (fun h => by omega)
theorem tk_eq8 (x : Int) (hx0 : 0 ≤ x) (hx1 : x < 4294967296) : tk 8 x = sgn (pc x 12 20 * 4096) 32 := by
  have hw := w32 x ⟨hx0, hx1⟩
  simp [tk, sg, sgn, pc]
  exact ite_of (fun h => by omega) (fun h => by omega)
theorem tk_eq9 (x : Int) (hx0 : 0 ≤ x) (hx1 : x < 4294967296) : tk 9 x = sgn (pc x 31 1 * 1048576 + pc x 12 8 * 4096 + pc x 20 1 * 2048 + pc x 21 10 * 2) 21 := by
  have hw := w32 x ⟨hx0, hx1⟩
  simp [tk, sg, sgn, pc]
  exact ite_of (fun h => by omega) (fun h => by omega)
set_option maxHeartbeats 2000000 in
theorem taken_any (s x : Int) (w : World) (hs0 : 1 ≤ s) (hs1 : s ≤ 14) (hx0 : 0 ≤ x) (hx1 : x < 4294967296) :
    Calls Try.prog 45 #[.int .i64 s, .int .u32 x] w fun e w' => e = .returned (.int .i64 (tk s x)) ∧ w' = w := by
  rcases shapes14 s hs0 hs1 with rfl | rfl | rfl | rfl | rfl | rfl | rfl | rfl | rfl | rfl | rfl | rfl | rfl | rfl
  · rw [show tk 1 x = 0 from by simp [tk]]
    go_enter Try.func45, Try.ntmps45
    go_wp2
    go_ret
    exact ⟨rfl, rfl⟩
  · rw [tk_eq2 x hx0 hx1]
    have b0 : 0 ≤ pc x 20 12 := (pc_bd x 20 12).1
    have c0 : pc x 20 12 < 4096 := (pc_bd x 20 12).2
    go_enter Try.func45, Try.ntmps45
    go_wp2_with fail
    refine (cut_31_20 x _ hx0 hx1).mono ?_
    rintro e w' ⟨rfl, rfl⟩
    go_wp2_with fail
    refine (signed_12 (pc x 20 12) _ (by omega) (by omega)).mono ?_
    rintro e w' ⟨rfl, rfl⟩
    go_wp2
    go_ret
    exact ⟨rfl, rfl⟩
  · rw [show tk 3 x = pc x 20 6 from by simp [tk]]
    have b0 : 0 ≤ pc x 20 6 := (pc_bd x 20 6).1
    have c0 : pc x 20 6 < 64 := (pc_bd x 20 6).2
    go_enter Try.func45, Try.ntmps45
    go_wp2_with fail
    refine (cut_25_20 x _ hx0 hx1).mono ?_
    rintro e w' ⟨rfl, rfl⟩
    go_wp2
    go_ret
    exact ⟨rfl, rfl⟩
  · rw [show tk 4 x = pc x 20 5 from by simp [tk]]
    have b0 : 0 ≤ pc x 20 5 := (pc_bd x 20 5).1
    have c0 : pc x 20 5 < 32 := (pc_bd x 20 5).2
    go_enter Try.func45, Try.ntmps45
    go_wp2_with fail
    refine (cut_24_20 x _ hx0 hx1).mono ?_
    rintro e w' ⟨rfl, rfl⟩
    go_wp2
    go_ret
    exact ⟨rfl, rfl⟩
  · rw [tk_eq5 x hx0 hx1]
    have b0 : 0 ≤ pc x 20 12 := (pc_bd x 20 12).1
    have c0 : pc x 20 12 < 4096 := (pc_bd x 20 12).2
    go_enter Try.func45, Try.ntmps45
    go_wp2_with fail
    refine (cut_31_20 x _ hx0 hx1).mono ?_
    rintro e w' ⟨rfl, rfl⟩
    go_wp2_with fail
    refine (signed_12 (pc x 20 12) _ (by omega) (by omega)).mono ?_
    rintro e w' ⟨rfl, rfl⟩
    go_wp2
    go_ret
    exact ⟨rfl, rfl⟩
  · rw [tk_eq6 x hx0 hx1]
    have b0 : 0 ≤ pc x 25 7 := (pc_bd x 25 7).1
    have c0 : pc x 25 7 < 128 := (pc_bd x 25 7).2
    have b1 : 0 ≤ pc x 7 5 := (pc_bd x 7 5).1
    have c1 : pc x 7 5 < 32 := (pc_bd x 7 5).2
    go_enter Try.func45, Try.ntmps45
    go_wp2_with fail
    refine (cut_31_25 x _ hx0 hx1).mono ?_
    rintro e w' ⟨rfl, rfl⟩
    go_wp2_with fail
    refine (cut_11_7 x _ hx0 hx1).mono ?_
    rintro e w' ⟨rfl, rfl⟩
    go_wp2_with fail
    refine (signed_12 (pc x 25 7 * 32 + pc x 7 5) _ (by omega) (by omega)).mono ?_
    rintro e w' ⟨rfl, rfl⟩
    go_wp2
    go_ret
    exact ⟨rfl, rfl⟩
  · rw [tk_eq7 x hx0 hx1]
    have b0 : 0 ≤ pc x 31 1 := (pc_bd x 31 1).1
    have c0 : pc x 31 1 < 2 := (pc_bd x 31 1).2
    have b1 : 0 ≤ pc x 7 1 := (pc_bd x 7 1).1
    have c1 : pc x 7 1 < 2 := (pc_bd x 7 1).2
    have b2 : 0 ≤ pc x 25 6 := (pc_bd x 25 6).1
    have c2 : pc x 25 6 < 64 := (pc_bd x 25 6).2
    have b3 : 0 ≤ pc x 8 4 := (pc_bd x 8 4).1
    have c3 : pc x 8 4 < 16 := (pc_bd x 8 4).2
    go_enter Try.func45, Try.ntmps45
    go_wp2_with fail
    refine (cut_31_31 x _ hx0 hx1).mono ?_
    rintro e w' ⟨rfl, rfl⟩
    go_wp2_with fail
    refine (cut_7_7 x _ hx0 hx1).mono ?_
    rintro e w' ⟨rfl, rfl⟩
    go_wp2_with fail
    refine (cut_30_25 x _ hx0 hx1).mono ?_
    rintro e w' ⟨rfl, rfl⟩
    go_wp2_with fail
    refine (cut_11_8 x _ hx0 hx1).mono ?_
    rintro e w' ⟨rfl, rfl⟩
    go_wp2_with fail
    refine (signed_13 (pc x 31 1 * 4096 + pc x 7 1 * 2048 + pc x 25 6 * 32 + pc x 8 4 * 2) _ (by omega) (by omega)).mono ?_
    rintro e w' ⟨rfl, rfl⟩
    go_wp2
    go_ret
    exact ⟨rfl, rfl⟩
  · rw [tk_eq8 x hx0 hx1]
    have b0 : 0 ≤ pc x 12 20 := (pc_bd x 12 20).1
    have c0 : pc x 12 20 < 1048576 := (pc_bd x 12 20).2
    go_enter Try.func45, Try.ntmps45
    go_wp2_with fail
    refine (cut_31_12 x _ hx0 hx1).mono ?_
    rintro e w' ⟨rfl, rfl⟩
    go_wp2_with fail
    refine (signed_32 (pc x 12 20 * 4096) _ (by omega) (by omega)).mono ?_
    rintro e w' ⟨rfl, rfl⟩
    go_wp2
    go_ret
    exact ⟨rfl, rfl⟩
  · rw [tk_eq9 x hx0 hx1]
    have b0 : 0 ≤ pc x 31 1 := (pc_bd x 31 1).1
    have c0 : pc x 31 1 < 2 := (pc_bd x 31 1).2
    have b1 : 0 ≤ pc x 12 8 := (pc_bd x 12 8).1
    have c1 : pc x 12 8 < 256 := (pc_bd x 12 8).2
    have b2 : 0 ≤ pc x 20 1 := (pc_bd x 20 1).1
    have c2 : pc x 20 1 < 2 := (pc_bd x 20 1).2
    have b3 : 0 ≤ pc x 21 10 := (pc_bd x 21 10).1
    have c3 : pc x 21 10 < 1024 := (pc_bd x 21 10).2
    go_enter Try.func45, Try.ntmps45
    go_wp2_with fail
    refine (cut_31_31 x _ hx0 hx1).mono ?_
    rintro e w' ⟨rfl, rfl⟩
    go_wp2_with fail
    refine (cut_19_12 x _ hx0 hx1).mono ?_
    rintro e w' ⟨rfl, rfl⟩
    go_wp2_with fail
    refine (cut_20_20 x _ hx0 hx1).mono ?_
    rintro e w' ⟨rfl, rfl⟩
    go_wp2_with fail
    refine (cut_30_21 x _ hx0 hx1).mono ?_
    rintro e w' ⟨rfl, rfl⟩
    go_wp2_with fail
    refine (signed_21 (pc x 31 1 * 1048576 + pc x 12 8 * 4096 + pc x 20 1 * 2048 + pc x 21 10 * 2) _ (by omega) (by omega)).mono ?_
    rintro e w' ⟨rfl, rfl⟩
    go_wp2
    go_ret
    exact ⟨rfl, rfl⟩
  · rw [show tk 10 x = pc x 20 12 from by simp [tk]]
    have b0 : 0 ≤ pc x 20 12 := (pc_bd x 20 12).1
    have c0 : pc x 20 12 < 4096 := (pc_bd x 20 12).2
    go_enter Try.func45, Try.ntmps45
    go_wp2_with fail
    refine (cut_31_20 x _ hx0 hx1).mono ?_
    rintro e w' ⟨rfl, rfl⟩
    go_wp2
    go_ret
    exact ⟨rfl, rfl⟩
  · rw [show tk 11 x = 0 from by simp [tk]]
    go_enter Try.func45, Try.ntmps45
    go_wp2
    go_ret
    exact ⟨rfl, rfl⟩
  · rw [show tk 12 x = 0 from by simp [tk]]
    go_enter Try.func45, Try.ntmps45
    go_wp2
    go_ret
    exact ⟨rfl, rfl⟩
  · rw [show tk 13 x = 0 from by simp [tk]]
    go_enter Try.func45, Try.ntmps45
    go_wp2
    go_ret
    exact ⟨rfl, rfl⟩
  · rw [show tk 14 x = pc x 15 5 from by simp [tk]]
    have b0 : 0 ≤ pc x 15 5 := (pc_bd x 15 5).1
    have c0 : pc x 15 5 < 32 := (pc_bd x 15 5).2
    go_enter Try.func45, Try.ntmps45
    go_wp2_with fail
    refine (cut_19_15 x _ hx0 hx1).mono ?_
    rintro e w' ⟨rfl, rfl⟩
    go_wp2
    go_ret
    exact ⟨rfl, rfl⟩
end Go.Proofs.Ytfafinjbobmafab
