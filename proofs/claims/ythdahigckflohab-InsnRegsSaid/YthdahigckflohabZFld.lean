import Derived.Test.YthdahigckflohabZLay
namespace Go.Proofs.Ythdahigckflohab
open Go.RowKit
set_option linter.unusedVariables false
def fRd (s x : Int) : Int := if s = 6 ∨ s = 7 ∨ s = 11 ∨ s = 12 then 0 else pc x 7 5
def fRs1 (s x : Int) : Int := if s = 8 ∨ s = 9 ∨ s = 11 ∨ s = 14 then 0 else pc x 15 5
def fRs2 (s x : Int) : Int := if s = 1 ∨ s = 6 ∨ s = 7 ∨ s = 12 then pc x 20 5 else 0
def fCsr (s x : Int) : Int := if s = 13 ∨ s = 14 then pc x 20 12 else 0
set_option maxHeartbeats 4000000 in
theorem fields_any (s x : Int) (w : World) (hs0 : 1 ≤ s) (hs1 : s ≤ 14) (h0 : 0 ≤ x) (h1 : x < 4294967296) :
    Calls Try.prog 99 #[.int .i64 s, .int .u32 x] w fun e w' => e = .returned (.agg #[.int .i64 0, .int .i64 (fRd s x), .int .i64 (fRs1 s x), .int .i64 (fRs2 s x), .int .i64 0, .int .i64 (fCsr s x)]) ∧ Below w.heap.size w w' := by
  rcases shapes14 s hs0 hs1 with rfl | rfl | rfl | rfl | rfl | rfl | rfl | rfl | rfl | rfl | rfl | rfl | rfl | rfl
  · go_enter Try.func99, Try.ntmps99
    go_wp2_with (go_at_call 119; refine (field_any _ _ _ _ h0 h1 (by decide) (by decide) (by decide) (by decide)).mono ?_; rintro e w' ⟨rfl, n, rfl⟩)
    exact bodyPost_ret (v := .agg #[.int .i64 0, .int .i64 (pc x 7 5), .int .i64 (pc x 15 5), .int .i64 (pc x 20 5), .int .i64 0, .int .i64 (0)]) (by simp [results, Try.results99, go_sem]) rfl ⟨rfl, by (repeat (with_reducible (first | exact Below.refl _ _ | apply below_drewN | apply Below.setCell | apply Below.alloc))) <;> simp⟩
  · go_enter Try.func99, Try.ntmps99
    go_wp2_with (go_at_call 119; refine (field_any _ _ _ _ h0 h1 (by decide) (by decide) (by decide) (by decide)).mono ?_; rintro e w' ⟨rfl, n, rfl⟩)
    exact bodyPost_ret (v := .agg #[.int .i64 0, .int .i64 (pc x 7 5), .int .i64 (pc x 15 5), .int .i64 (0), .int .i64 0, .int .i64 (0)]) (by simp [results, Try.results99, go_sem]) rfl ⟨rfl, by (repeat (with_reducible (first | exact Below.refl _ _ | apply below_drewN | apply Below.setCell | apply Below.alloc))) <;> simp⟩
  · go_enter Try.func99, Try.ntmps99
    go_wp2_with (go_at_call 119; refine (field_any _ _ _ _ h0 h1 (by decide) (by decide) (by decide) (by decide)).mono ?_; rintro e w' ⟨rfl, n, rfl⟩)
    exact bodyPost_ret (v := .agg #[.int .i64 0, .int .i64 (pc x 7 5), .int .i64 (pc x 15 5), .int .i64 (0), .int .i64 0, .int .i64 (0)]) (by simp [results, Try.results99, go_sem]) rfl ⟨rfl, by (repeat (with_reducible (first | exact Below.refl _ _ | apply below_drewN | apply Below.setCell | apply Below.alloc))) <;> simp⟩
  · go_enter Try.func99, Try.ntmps99
    go_wp2_with (go_at_call 119; refine (field_any _ _ _ _ h0 h1 (by decide) (by decide) (by decide) (by decide)).mono ?_; rintro e w' ⟨rfl, n, rfl⟩)
    exact bodyPost_ret (v := .agg #[.int .i64 0, .int .i64 (pc x 7 5), .int .i64 (pc x 15 5), .int .i64 (0), .int .i64 0, .int .i64 (0)]) (by simp [results, Try.results99, go_sem]) rfl ⟨rfl, by (repeat (with_reducible (first | exact Below.refl _ _ | apply below_drewN | apply Below.setCell | apply Below.alloc))) <;> simp⟩
  · go_enter Try.func99, Try.ntmps99
    go_wp2_with (go_at_call 119; refine (field_any _ _ _ _ h0 h1 (by decide) (by decide) (by decide) (by decide)).mono ?_; rintro e w' ⟨rfl, n, rfl⟩)
    exact bodyPost_ret (v := .agg #[.int .i64 0, .int .i64 (pc x 7 5), .int .i64 (pc x 15 5), .int .i64 (0), .int .i64 0, .int .i64 (0)]) (by simp [results, Try.results99, go_sem]) rfl ⟨rfl, by (repeat (with_reducible (first | exact Below.refl _ _ | apply below_drewN | apply Below.setCell | apply Below.alloc))) <;> simp⟩
  · go_enter Try.func99, Try.ntmps99
    go_wp2_with (go_at_call 119; refine (field_any _ _ _ _ h0 h1 (by decide) (by decide) (by decide) (by decide)).mono ?_; rintro e w' ⟨rfl, n, rfl⟩)
    exact bodyPost_ret (v := .agg #[.int .i64 0, .int .i64 (0), .int .i64 (pc x 15 5), .int .i64 (pc x 20 5), .int .i64 0, .int .i64 (0)]) (by simp [results, Try.results99, go_sem]) rfl ⟨rfl, by (repeat (with_reducible (first | exact Below.refl _ _ | apply below_drewN | apply Below.setCell | apply Below.alloc))) <;> simp⟩
  · go_enter Try.func99, Try.ntmps99
    go_wp2_with (go_at_call 119; refine (field_any _ _ _ _ h0 h1 (by decide) (by decide) (by decide) (by decide)).mono ?_; rintro e w' ⟨rfl, n, rfl⟩)
    exact bodyPost_ret (v := .agg #[.int .i64 0, .int .i64 (0), .int .i64 (pc x 15 5), .int .i64 (pc x 20 5), .int .i64 0, .int .i64 (0)]) (by simp [results, Try.results99, go_sem]) rfl ⟨rfl, by (repeat (with_reducible (first | exact Below.refl _ _ | apply below_drewN | apply Below.setCell | apply Below.alloc))) <;> simp⟩
  · go_enter Try.func99, Try.ntmps99
    go_wp2_with (go_at_call 119; refine (field_any _ _ _ _ h0 h1 (by decide) (by decide) (by decide) (by decide)).mono ?_; rintro e w' ⟨rfl, n, rfl⟩)
    exact bodyPost_ret (v := .agg #[.int .i64 0, .int .i64 (pc x 7 5), .int .i64 (0), .int .i64 (0), .int .i64 0, .int .i64 (0)]) (by simp [results, Try.results99, go_sem]) rfl ⟨rfl, by (repeat (with_reducible (first | exact Below.refl _ _ | apply below_drewN | apply Below.setCell | apply Below.alloc))) <;> simp⟩
  · go_enter Try.func99, Try.ntmps99
    go_wp2_with (go_at_call 119; refine (field_any _ _ _ _ h0 h1 (by decide) (by decide) (by decide) (by decide)).mono ?_; rintro e w' ⟨rfl, n, rfl⟩)
    exact bodyPost_ret (v := .agg #[.int .i64 0, .int .i64 (pc x 7 5), .int .i64 (0), .int .i64 (0), .int .i64 0, .int .i64 (0)]) (by simp [results, Try.results99, go_sem]) rfl ⟨rfl, by (repeat (with_reducible (first | exact Below.refl _ _ | apply below_drewN | apply Below.setCell | apply Below.alloc))) <;> simp⟩
  · go_enter Try.func99, Try.ntmps99
    go_wp2_with (go_at_call 119; refine (field_any _ _ _ _ h0 h1 (by decide) (by decide) (by decide) (by decide)).mono ?_; rintro e w' ⟨rfl, n, rfl⟩)
    exact bodyPost_ret (v := .agg #[.int .i64 0, .int .i64 (pc x 7 5), .int .i64 (pc x 15 5), .int .i64 (0), .int .i64 0, .int .i64 (0)]) (by simp [results, Try.results99, go_sem]) rfl ⟨rfl, by (repeat (with_reducible (first | exact Below.refl _ _ | apply below_drewN | apply Below.setCell | apply Below.alloc))) <;> simp⟩
  · go_enter Try.func99, Try.ntmps99
    go_wp2_with (go_at_call 119; refine (field_any _ _ _ _ h0 h1 (by decide) (by decide) (by decide) (by decide)).mono ?_; rintro e w' ⟨rfl, n, rfl⟩)
    exact bodyPost_ret (v := .agg #[.int .i64 0, .int .i64 (0), .int .i64 (0), .int .i64 (0), .int .i64 0, .int .i64 (0)]) (by simp [results, Try.results99, go_sem]) rfl ⟨rfl, by (repeat (with_reducible (first | exact Below.refl _ _ | apply below_drewN | apply Below.setCell | apply Below.alloc))) <;> simp⟩
  · go_enter Try.func99, Try.ntmps99
    go_wp2_with (go_at_call 119; refine (field_any _ _ _ _ h0 h1 (by decide) (by decide) (by decide) (by decide)).mono ?_; rintro e w' ⟨rfl, n, rfl⟩)
    exact bodyPost_ret (v := .agg #[.int .i64 0, .int .i64 (0), .int .i64 (pc x 15 5), .int .i64 (pc x 20 5), .int .i64 0, .int .i64 (0)]) (by simp [results, Try.results99, go_sem]) rfl ⟨rfl, by (repeat (with_reducible (first | exact Below.refl _ _ | apply below_drewN | apply Below.setCell | apply Below.alloc))) <;> simp⟩
  · go_enter Try.func99, Try.ntmps99
    go_wp2_with (go_at_call 119; refine (field_any _ _ _ _ h0 h1 (by decide) (by decide) (by decide) (by decide)).mono ?_; rintro e w' ⟨rfl, n, rfl⟩)
    exact bodyPost_ret (v := .agg #[.int .i64 0, .int .i64 (pc x 7 5), .int .i64 (pc x 15 5), .int .i64 (0), .int .i64 0, .int .i64 (pc x 20 12)]) (by simp [results, Try.results99, go_sem]) rfl ⟨rfl, by (repeat (with_reducible (first | exact Below.refl _ _ | apply below_drewN | apply Below.setCell | apply Below.alloc))) <;> simp⟩
  · go_enter Try.func99, Try.ntmps99
    go_wp2_with (go_at_call 119; refine (field_any _ _ _ _ h0 h1 (by decide) (by decide) (by decide) (by decide)).mono ?_; rintro e w' ⟨rfl, n, rfl⟩)
    exact bodyPost_ret (v := .agg #[.int .i64 0, .int .i64 (pc x 7 5), .int .i64 (0), .int .i64 (0), .int .i64 0, .int .i64 (pc x 20 12)]) (by simp [results, Try.results99, go_sem]) rfl ⟨rfl, by (repeat (with_reducible (first | exact Below.refl _ _ | apply below_drewN | apply Below.setCell | apply Below.alloc))) <;> simp⟩
/-- The plain fields at their places. -/
def flds (rd rs1 rs2 csr : Int) : Int := bits .or .u32 (bits .or .u32 (bits .or .u32 (rd % 4294967296 * 128 % 4294967296) (rs1 % 4294967296 * 32768 % 4294967296)) (rs2 % 4294967296 * 1048576 % 4294967296)) (csr % 4294967296 * 1048576 % 4294967296)
theorem putFields_any (op rd rs1 rs2 imm csr : Int) (w : World) :
    Calls Try.prog 96 #[.agg #[.int .i64 op, .int .i64 rd, .int .i64 rs1, .int .i64 rs2, .int .i64 imm, .int .i64 csr]] w fun e w' => e = .returned (.int .u32 (flds rd rs1 rs2 csr)) ∧ w' = w.alloc (.cells #[.int .i64 op, .int .i64 rd, .int .i64 rs1, .int .i64 rs2, .int .i64 imm, .int .i64 csr] 49) := by
  go_enter Try.func96, Try.ntmps96
  go_wp2
  go_ret
  exact ⟨rfl, rfl⟩
end Go.Proofs.Ythdahigckflohab
