import Derived.Test.YthdahigckflohabRWhole
namespace Go.Proofs.Ythdahigckflohab
open Go.RowKit
set_option linter.unusedVariables false
set_option linter.unusedSimpArgs false
theorem mul_congr (x y u v : Int) (h : x % 4294967296 = u % 4294967296) (k : y % 4294967296 = v % 4294967296) : x * y % 4294967296 = u * v % 4294967296 := by
  rw [Int.mul_emod, h, k, ← Int.mul_emod]
theorem up_mod (z : Int) : z % 18446744073709551616 % 4294967296 = z % 4294967296 := by omega
set_option maxHeartbeats 1000000 in
set_option maxRecDepth 100000 in
theorem rh0 (u v : Int) (w : World) (u0 : 0 ≤ u) (u1 : u < 4294967296) (v0 : 0 ≤ v) (v1 : v < 4294967296) : Calls Try.prog 23 #[.int .i64 45, .int .u64 u, .int .u64 v] w fun e w' => e = .returned (.tuple #[.int .u64 (hres 0 u v), .bool true]) ∧ Below w.heap.size w w' := by
  have hu : u % 4294967296 = u := by omega
  have hv : v % 4294967296 = v := by omega
  have wu' : W64 u := ⟨u0, by omega⟩
  have wv' : W64 v := ⟨v0, by omega⟩
  have hn := and31 v wv'
  have n0 : 0 ≤ bits .and .u64 v 31 := by omega
  have n1 : bits .and .u64 v 31 < 32 := by omega
  have k : hres 0 u v = wid 4294967296 (u + v) := by
    refine wid_congr _ _ ?_
    have e1 := wid_mod u
    have e2 := wid_mod v
    show (wid 4294967296 u + wid 4294967296 v) % 18446744073709551616 % 4294967296 = _
    omega
  rw [k]
  have hW : W64 (u + v) := ⟨by omega, by omega⟩
  have cw := fun w => rwiden_any (u + v) w hW
  clear k hu hv hn hW
  generalize wid 4294967296 (u + v) = R at *
  go_enter Try.func23, Try.ntmps23
  go_wp2_with fail
  refine (cw _).mono ?_; rintro e w1 ⟨rfl, rfl⟩
  go_wp2
  go_ret2
  exact ⟨rfl, Below.refl _ _⟩
set_option maxHeartbeats 1000000 in
set_option maxRecDepth 100000 in
theorem rh1 (u v : Int) (w : World) (u0 : 0 ≤ u) (u1 : u < 4294967296) (v0 : 0 ≤ v) (v1 : v < 4294967296) : Calls Try.prog 23 #[.int .i64 46, .int .u64 u, .int .u64 v] w fun e w' => e = .returned (.tuple #[.int .u64 (hres 1 u v), .bool true]) ∧ Below w.heap.size w w' := by
  have hu : u % 4294967296 = u := by omega
  have hv : v % 4294967296 = v := by omega
  have wu' : W64 u := ⟨u0, by omega⟩
  have wv' : W64 v := ⟨v0, by omega⟩
  have hn := and31 v wv'
  have n0 : 0 ≤ bits .and .u64 v 31 := by omega
  have n1 : bits .and .u64 v 31 < 32 := by omega
  have k : hres 1 u v = wid 4294967296 (IntKind.u64.wrap (u - v)) := by
    refine wid_congr _ _ ?_
    rw [wu, up_mod]
    have e1 := wid_mod u
    have e2 := wid_mod v
    show (wid 4294967296 u - wid 4294967296 v) % 18446744073709551616 % 4294967296 = _
    omega
  rw [k]
  have hW : W64 (IntKind.u64.wrap (u - v)) := wrap_w _
  have cw := fun w => rwiden_any (IntKind.u64.wrap (u - v)) w hW
  clear k hu hv hn hW
  generalize wid 4294967296 (IntKind.u64.wrap (u - v)) = R at *
  go_enter Try.func23, Try.ntmps23
  go_wp2_with fail
  refine (cw _).mono ?_; rintro e w1 ⟨rfl, rfl⟩
  go_wp2
  go_ret2
  exact ⟨rfl, Below.refl _ _⟩
set_option maxHeartbeats 1000000 in
set_option maxRecDepth 100000 in
theorem rh2 (u v : Int) (w : World) (u0 : 0 ≤ u) (u1 : u < 4294967296) (v0 : 0 ≤ v) (v1 : v < 4294967296) : Calls Try.prog 23 #[.int .i64 47, .int .u64 u, .int .u64 v] w fun e w' => e = .returned (.tuple #[.int .u64 (hres 2 u v), .bool true]) ∧ Below w.heap.size w w' := by
  have hu : u % 4294967296 = u := by omega
  have hv : v % 4294967296 = v := by omega
  have wu' : W64 u := ⟨u0, by omega⟩
  have wv' : W64 v := ⟨v0, by omega⟩
  have hn := and31 v wv'
  have n0 : 0 ≤ bits .and .u64 v 31 := by omega
  have n1 : bits .and .u64 v 31 < 32 := by omega
  have k : hres 2 u v = wid 4294967296 (IntKind.u64.wrap (u * 2 ^ (bits .and .u64 v 31).toNat)) := by
    refine congrArg (wid 4294967296) ?_
    show fSLL (u % 4294967296) (v % 32) = _
    unfold fSLL
    rw [wu, hn, hu, show v % 32 % 64 = v % 32 by omega]
  rw [k]
  have hW : W64 (IntKind.u64.wrap (u * 2 ^ (bits .and .u64 v 31).toNat)) := wrap_w _
  have cw := fun w => rwiden_any (IntKind.u64.wrap (u * 2 ^ (bits .and .u64 v 31).toNat)) w hW
  clear k hu hv hn hW
  generalize wid 4294967296 (IntKind.u64.wrap (u * 2 ^ (bits .and .u64 v 31).toNat)) = R at *
  go_enter Try.func23, Try.ntmps23
  go_wp2_with fail
  refine (cw _).mono ?_; rintro e w1 ⟨rfl, rfl⟩
  go_wp2
  go_ret2
  exact ⟨rfl, Below.refl _ _⟩
set_option maxHeartbeats 1000000 in
set_option maxRecDepth 100000 in
theorem rh3 (u v : Int) (w : World) (u0 : 0 ≤ u) (u1 : u < 4294967296) (v0 : 0 ≤ v) (v1 : v < 4294967296) : Calls Try.prog 23 #[.int .i64 48, .int .u64 u, .int .u64 v] w fun e w' => e = .returned (.tuple #[.int .u64 (hres 3 u v), .bool true]) ∧ Below w.heap.size w w' := by
  have hu : u % 4294967296 = u := by omega
  have hv : v % 4294967296 = v := by omega
  have wu' : W64 u := ⟨u0, by omega⟩
  have wv' : W64 v := ⟨v0, by omega⟩
  have hn := and31 v wv'
  have n0 : 0 ≤ bits .and .u64 v 31 := by omega
  have n1 : bits .and .u64 v 31 < 32 := by omega
  have k : hres 3 u v = wid 4294967296 (u / 2 ^ (bits .and .u64 v 31).toNat) := by
    refine congrArg (wid 4294967296) ?_
    show fSRL (u % 4294967296) (v % 32) = _
    unfold fSRL
    rw [hn, hu, show v % 32 % 64 = v % 32 by omega]
  rw [k]
  have hW : W64 (u / 2 ^ (bits .and .u64 v 31).toNat) := ediv_w u _ wu' (Int.le_of_lt (Int.pow_pos (by decide)))
  have cw := fun w => rwiden_any (u / 2 ^ (bits .and .u64 v 31).toNat) w hW
  have c := fun w => right_noI u (bits .and .u64 v 31) w wu' n0 (by omega)
  clear k hu hv hn hW
  generalize u / 2 ^ (bits .and .u64 v 31).toNat = V at *
  generalize wid 4294967296 V = R at *
  go_enter Try.func23, Try.ntmps23
  go_wp2_with fail
  refine (c _).mono ?_; rintro e w1 ⟨rfl, rfl⟩
  go_wp2_with fail
  refine (cw _).mono ?_; rintro e w1 ⟨rfl, rfl⟩
  go_wp2
  go_ret2
  exact ⟨rfl, Below.refl _ _⟩
set_option maxHeartbeats 1000000 in
set_option maxRecDepth 100000 in
theorem rh4 (u v : Int) (w : World) (u0 : 0 ≤ u) (u1 : u < 4294967296) (v0 : 0 ≤ v) (v1 : v < 4294967296) : Calls Try.prog 23 #[.int .i64 49, .int .u64 u, .int .u64 v] w fun e w' => e = .returned (.tuple #[.int .u64 (hres 4 u v), .bool true]) ∧ Below w.heap.size w w' := by
  have hu : u % 4294967296 = u := by omega
  have hv : v % 4294967296 = v := by omega
  have wu' : W64 u := ⟨u0, by omega⟩
  have wv' : W64 v := ⟨v0, by omega⟩
  have hn := and31 v wv'
  have n0 : 0 ≤ bits .and .u64 v 31 := by omega
  have n1 : bits .and .u64 v 31 < 32 := by omega
  have k : hres 4 u v = wid 4294967296 (wrap64 (wid 4294967296 u) / 2 ^ (bits .and .u64 v 31).toNat % 18446744073709551616) := by
    refine congrArg (wid 4294967296) ?_
    show fSRA (wid 4294967296 u) (v % 32) = _
    unfold fSRA
    rw [hn, show v % 32 % 64 = v % 32 by omega]
  rw [k]
  have hW : W64 (wrap64 (wid 4294967296 u) / 2 ^ (bits .and .u64 v 31).toNat % 18446744073709551616) := mod_bd _
  have cw := fun w => rwiden_any (wrap64 (wid 4294967296 u) / 2 ^ (bits .and .u64 v 31).toNat % 18446744073709551616) w hW
  have cx := fun w => rwiden_any u w wu'
  have c := fun w => right_I (wid 4294967296 u) (bits .and .u64 v 31) (decide (2147483648 ≤ u)) w (wid_bd _ _) n0 (by omega) (by rw [Bool.eq_iff_iff]; simp only [decide_eq_true_eq]; unfold wid; omega)
  clear k hu hv hn hW
  generalize wrap64 (wid 4294967296 u) / 2 ^ (bits .and .u64 v 31).toNat % 18446744073709551616 = V at *
  generalize wid 4294967296 u = X at *
  generalize wid 4294967296 V = R at *
  go_enter Try.func23, Try.ntmps23
  go_wp2_with fail
  refine (cx _).mono ?_; rintro e w1 ⟨rfl, rfl⟩
  go_wp2_with fail
  refine (c _).mono ?_; rintro e w1 ⟨rfl, rfl⟩
  go_wp2_with fail
  refine (cw _).mono ?_; rintro e w1 ⟨rfl, rfl⟩
  go_wp2
  go_ret2
  exact ⟨rfl, Below.refl _ _⟩
set_option maxHeartbeats 1000000 in
set_option maxRecDepth 100000 in
theorem rh5 (u v : Int) (w : World) (u0 : 0 ≤ u) (u1 : u < 4294967296) (v0 : 0 ≤ v) (v1 : v < 4294967296) : Calls Try.prog 23 #[.int .i64 58, .int .u64 u, .int .u64 v] w fun e w' => e = .returned (.tuple #[.int .u64 (hres 5 u v), .bool true]) ∧ Below w.heap.size w w' := by
  have hu : u % 4294967296 = u := by omega
  have hv : v % 4294967296 = v := by omega
  have wu' : W64 u := ⟨u0, by omega⟩
  have wv' : W64 v := ⟨v0, by omega⟩
  have hn := and31 v wv'
  have n0 : 0 ≤ bits .and .u64 v 31 := by omega
  have n1 : bits .and .u64 v 31 < 32 := by omega
  have k : hres 5 u v = wid 4294967296 (IntKind.u64.wrap (u * v)) := by
    refine wid_congr _ _ ?_
    rw [wu, up_mod]
    show (wid 4294967296 u * wid 4294967296 v) % 18446744073709551616 % 4294967296 = _
    rw [up_mod]
    exact mul_congr _ _ _ _ (wid_mod u) (wid_mod v)
  rw [k]
  have hW : W64 (IntKind.u64.wrap (u * v)) := wrap_w _
  have cw := fun w => rwiden_any (IntKind.u64.wrap (u * v)) w hW
  clear k hu hv hn hW
  generalize wid 4294967296 (IntKind.u64.wrap (u * v)) = R at *
  go_enter Try.func23, Try.ntmps23
  go_wp2_with fail
  refine (cw _).mono ?_; rintro e w1 ⟨rfl, rfl⟩
  go_wp2
  go_ret2
  exact ⟨rfl, Below.refl _ _⟩
set_option maxHeartbeats 1000000 in
set_option maxRecDepth 100000 in
theorem rh6 (u v : Int) (w : World) (u0 : 0 ≤ u) (u1 : u < 4294967296) (v0 : 0 ≤ v) (v1 : v < 4294967296) : Calls Try.prog 23 #[.int .i64 59, .int .u64 u, .int .u64 v] w fun e w' => e = .returned (.tuple #[.int .u64 (hres 6 u v), .bool true]) ∧ Below w.heap.size w w' := by
  have hu : u % 4294967296 = u := by omega
  have hv : v % 4294967296 = v := by omega
  have wu' : W64 u := ⟨u0, by omega⟩
  have wv' : W64 v := ⟨v0, by omega⟩
  have hn := and31 v wv'
  have n0 : 0 ≤ bits .and .u64 v 31 := by omega
  have n1 : bits .and .u64 v 31 < 32 := by omega
  have k : hres 6 u v = wid 4294967296 (fDIV (wid 4294967296 u) (wid 4294967296 v)) := by
    rfl
  rw [k]
  have hW : W64 (fDIV (wid 4294967296 u) (wid 4294967296 v)) := hop_w 6 (by decide) _ _ (wid_bd _ _) (wid_bd _ _)
  have cw := fun w => rwiden_any (fDIV (wid 4294967296 u) (wid 4294967296 v)) w hW
  have cx := fun w => rwiden_any u w wu'
  have cy := fun w => rwiden_any v w wv'
  have c := fun w => signed_any (wid 4294967296 u) (wid 4294967296 v) w (wid_bd _ _) (wid_bd _ _)
  clear k hu hv hn hW
  generalize fDIV (wid 4294967296 u) (wid 4294967296 v) = Q at *
  generalize fREM (wid 4294967296 u) (wid 4294967296 v) = S at *
  generalize wid 4294967296 u = X at *
  generalize wid 4294967296 v = Y at *
  generalize wid 4294967296 Q = R at *
  go_enter Try.func23, Try.ntmps23
  go_wp2_with fail
  refine (cx _).mono ?_; rintro e w1 ⟨rfl, rfl⟩
  go_wp2_with fail
  refine (cy _).mono ?_; rintro e w1 ⟨rfl, rfl⟩
  go_wp2_with fail
  refine (c _).mono ?_; rintro e w2 ⟨rfl, hbw2⟩
  go_wp2_with fail
  refine (cw _).mono ?_; rintro e w1 ⟨rfl, rfl⟩
  go_wp2
  go_ret2
  exact ⟨rfl, hbw2⟩
set_option maxHeartbeats 1000000 in
set_option maxRecDepth 100000 in
theorem rh7 (u v : Int) (w : World) (u0 : 0 ≤ u) (u1 : u < 4294967296) (v0 : 0 ≤ v) (v1 : v < 4294967296) : Calls Try.prog 23 #[.int .i64 60, .int .u64 u, .int .u64 v] w fun e w' => e = .returned (.tuple #[.int .u64 (hres 7 u v), .bool true]) ∧ Below w.heap.size w w' := by
  have hu : u % 4294967296 = u := by omega
  have hv : v % 4294967296 = v := by omega
  have wu' : W64 u := ⟨u0, by omega⟩
  have wv' : W64 v := ⟨v0, by omega⟩
  have hn := and31 v wv'
  have n0 : 0 ≤ bits .and .u64 v 31 := by omega
  have n1 : bits .and .u64 v 31 < 32 := by omega
  have k : hres 7 u v = wid 4294967296 (fDIVU u v) := by
    refine congrArg (wid 4294967296) ?_
    show fDIVU (u % 4294967296) (v % 4294967296) = _
    rw [hu, hv]
  rw [k]
  have hW : W64 (fDIVU u v) := hop_w 7 (by decide) _ _ wu' wv'
  have cw := fun w => rwiden_any (fDIVU u v) w hW
  have c := fun w => unsigned_any u v w wu' wv'
  clear k hu hv hn hW
  generalize fDIVU u v = Q at *
  generalize fREMU u v = S at *
  generalize wid 4294967296 Q = R at *
  go_enter Try.func23, Try.ntmps23
  go_wp2_with fail
  refine (c _).mono ?_; rintro e w2 ⟨rfl, hbw2⟩
  go_wp2_with fail
  refine (cw _).mono ?_; rintro e w1 ⟨rfl, rfl⟩
  go_wp2
  go_ret2
  exact ⟨rfl, hbw2⟩
set_option maxHeartbeats 1000000 in
set_option maxRecDepth 100000 in
theorem rh8 (u v : Int) (w : World) (u0 : 0 ≤ u) (u1 : u < 4294967296) (v0 : 0 ≤ v) (v1 : v < 4294967296) : Calls Try.prog 23 #[.int .i64 61, .int .u64 u, .int .u64 v] w fun e w' => e = .returned (.tuple #[.int .u64 (hres 8 u v), .bool true]) ∧ Below w.heap.size w w' := by
  have hu : u % 4294967296 = u := by omega
  have hv : v % 4294967296 = v := by omega
  have wu' : W64 u := ⟨u0, by omega⟩
  have wv' : W64 v := ⟨v0, by omega⟩
  have hn := and31 v wv'
  have n0 : 0 ≤ bits .and .u64 v 31 := by omega
  have n1 : bits .and .u64 v 31 < 32 := by omega
  have k : hres 8 u v = wid 4294967296 (fREM (wid 4294967296 u) (wid 4294967296 v)) := by
    rfl
  rw [k]
  have hW : W64 (fREM (wid 4294967296 u) (wid 4294967296 v)) := hop_w 8 (by decide) _ _ (wid_bd _ _) (wid_bd _ _)
  have cw := fun w => rwiden_any (fREM (wid 4294967296 u) (wid 4294967296 v)) w hW
  have cx := fun w => rwiden_any u w wu'
  have cy := fun w => rwiden_any v w wv'
  have c := fun w => signed_any (wid 4294967296 u) (wid 4294967296 v) w (wid_bd _ _) (wid_bd _ _)
  clear k hu hv hn hW
  generalize fDIV (wid 4294967296 u) (wid 4294967296 v) = Q at *
  generalize fREM (wid 4294967296 u) (wid 4294967296 v) = S at *
  generalize wid 4294967296 u = X at *
  generalize wid 4294967296 v = Y at *
  generalize wid 4294967296 S = R at *
  go_enter Try.func23, Try.ntmps23
  go_wp2_with fail
  refine (cx _).mono ?_; rintro e w1 ⟨rfl, rfl⟩
  go_wp2_with fail
  refine (cy _).mono ?_; rintro e w1 ⟨rfl, rfl⟩
  go_wp2_with fail
  refine (c _).mono ?_; rintro e w2 ⟨rfl, hbw2⟩
  go_wp2_with fail
  refine (cw _).mono ?_; rintro e w1 ⟨rfl, rfl⟩
  go_wp2
  go_ret2
  exact ⟨rfl, hbw2⟩
set_option maxHeartbeats 1000000 in
set_option maxRecDepth 100000 in
theorem rh9 (u v : Int) (w : World) (u0 : 0 ≤ u) (u1 : u < 4294967296) (v0 : 0 ≤ v) (v1 : v < 4294967296) : Calls Try.prog 23 #[.int .i64 62, .int .u64 u, .int .u64 v] w fun e w' => e = .returned (.tuple #[.int .u64 (hres 9 u v), .bool true]) ∧ Below w.heap.size w w' := by
  have hu : u % 4294967296 = u := by omega
  have hv : v % 4294967296 = v := by omega
  have wu' : W64 u := ⟨u0, by omega⟩
  have wv' : W64 v := ⟨v0, by omega⟩
  have hn := and31 v wv'
  have n0 : 0 ≤ bits .and .u64 v 31 := by omega
  have n1 : bits .and .u64 v 31 < 32 := by omega
  have k : hres 9 u v = wid 4294967296 (fREMU u v) := by
    refine congrArg (wid 4294967296) ?_
    show fREMU (u % 4294967296) (v % 4294967296) = _
    rw [hu, hv]
  rw [k]
  have hW : W64 (fREMU u v) := hop_w 9 (by decide) _ _ wu' wv'
  have cw := fun w => rwiden_any (fREMU u v) w hW
  have c := fun w => unsigned_any u v w wu' wv'
  clear k hu hv hn hW
  generalize fDIVU u v = Q at *
  generalize fREMU u v = S at *
  generalize wid 4294967296 S = R at *
  go_enter Try.func23, Try.ntmps23
  go_wp2_with fail
  refine (c _).mono ?_; rintro e w2 ⟨rfl, hbw2⟩
  go_wp2_with fail
  refine (cw _).mono ?_; rintro e w1 ⟨rfl, rfl⟩
  go_wp2
  go_ret2
  exact ⟨rfl, hbw2⟩
set_option maxHeartbeats 1000000 in
set_option maxRecDepth 100000 in
theorem rh_miss (op a b : Int) (w : World) (h0 : op ≠ 45) (h1 : op ≠ 46) (h2 : op ≠ 47) (h3 : op ≠ 48) (h4 : op ≠ 49) (h5 : op ≠ 58) (h6 : op ≠ 59) (h7 : op ≠ 60) (h8 : op ≠ 61) (h9 : op ≠ 62) : Calls Try.prog 23 #[.int .i64 op, .int .u64 a, .int .u64 b] w fun e w' => e = .returned (.tuple #[.int .u64 0, .bool false]) ∧ Below w.heap.size w w' := by
  have n0 : (op == 45) = false := by rw [beq_eq_false_iff_ne]; exact h0
  have n1 : (op == 46) = false := by rw [beq_eq_false_iff_ne]; exact h1
  have n2 : (op == 47) = false := by rw [beq_eq_false_iff_ne]; exact h2
  have n3 : (op == 48) = false := by rw [beq_eq_false_iff_ne]; exact h3
  have n4 : (op == 49) = false := by rw [beq_eq_false_iff_ne]; exact h4
  have n5 : (op == 58) = false := by rw [beq_eq_false_iff_ne]; exact h5
  have n6 : (op == 59) = false := by rw [beq_eq_false_iff_ne]; exact h6
  have n7 : (op == 60) = false := by rw [beq_eq_false_iff_ne]; exact h7
  have n8 : (op == 61) = false := by rw [beq_eq_false_iff_ne]; exact h8
  have n9 : (op == 62) = false := by rw [beq_eq_false_iff_ne]; exact h9
  clear h0 h1 h2 h3 h4 h5 h6 h7 h8 h9
  go_enter Try.func23, Try.ntmps23
  go_wp2
  go_ret2
  exact ⟨rfl, Below.refl _ _⟩
end Go.Proofs.Ythdahigckflohab
