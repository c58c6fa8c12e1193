import Derived.Test.YthdahigckflohaaHolds
import Derived.Test.YthdahigckflohaaNames
namespace Go.Proofs.Ythdahigckflohaa
open Go.RowKit
set_option linter.unusedVariables false
set_option linter.unusedSimpArgs false
theorem eqGuard_func (x y : Operand) (t : TypeId) (f : Nat) (c d : Array Value) (v : Value) : eqGuard .eql t x y (.func (.func f) c d) v = pure () := by rfl
theorem func55 (f : Nat) (c d : Array Value) (w : World) : (binOp .eql 55 (.func (.func f) c d) .nilFunc).run Try.prog w = .ok (.bool false) w := by kernel_rfl
theorem nil55 (w : World) : (binOp .eql 55 .nilFunc .nilFunc).run Try.prog w = .ok (.bool true) w := by kernel_rfl
attribute [local go_sem] run_store_func run_store_nilFunc eqGuard_func func55 nil55
/-- What a call's error is: none (r is 0), or a fault of this layer. -/
def ErrIn (w : World) (v : Value) (r : Int) : Prop := (r = 0 ∧ v = .nilIface) ∨ (r ≠ 0 ∧ FaultIn w 0 v 0 r)
/-- The document's: likewise. -/
def RefIn (w : World) (p : Option Addr) (l c : Nat) (r : Int) : Prop := (r = 0 ∧ p = .none ∧ l = 0 ∧ c = 0) ∨ (r ≠ 0 ∧ ∃ B, p = some ⟨B, 0, .none⟩ ∧ l = 1 ∧ c = 1 ∧ B < w.heap.size ∧ w.cell? ⟨B, 0, .none⟩ = some (.string aluB) ∧ w.cell? ⟨B, 1, .none⟩ = some (.int .i64 0))
theorem errIn_keep {W w' : World} {v : Value} {r : Int} (h : Below W.heap.size W w') (k : ErrIn W v r) : ErrIn w' v r := by
  rcases k with k | ⟨k, hF⟩
  · exact .inl k
  · exact .inr ⟨k, faultIn_keep h hF⟩
theorem refIn_keep {W w' : World} {p : Option Addr} {l c : Nat} {r : Int} (h : Below W.heap.size W w') (k : RefIn W p l c r) : RefIn w' p l c r := by
  rcases k with k | ⟨k, B, h1, h2, h3, hB, c0, c1⟩
  · exact .inl k
  · exact .inr ⟨k, B, h1, h2, h3, Nat.lt_of_lt_of_le hB h.size, (h.cell hB).trans c0, (h.cell hB).trans c1⟩
theorem is_agree (v : Value) (p : Option Addr) (l c : Nat) (r : Int) (w : World) (h : ErrIn w v r) (k : RefIn w p l c r) :
    Calls Try.prog 16 #[v, .agg #[.slice p l c, .int .i64 r]] w fun e w' => e = .returned (.bool true) ∧ Below w.heap.size w w' := by
  rcases h with ⟨rfl, rfl⟩ | ⟨hr, hF⟩
  · rcases k with ⟨_, rfl, rfl, rfl⟩ | ⟨hr, _⟩
    · exact is_none w
    · exact absurd rfl hr
  · rcases k with ⟨h0, _⟩ | ⟨_, B, rfl, rfl, rfl, hB, c0, c1⟩
    · exact absurd h0 hr
    · exact is_fault v B 1 0 r w hF hr hB c0 c1
theorem extend_as (op v n V : Int) (f : Nat) (w : World) (h : acc op = #[.int .i64 op, .int .i64 n, .func (.func f) #[] #[], .nilFunc]) (hn : 0 ≤ n) (hn' : n < 100) (hE : Enters f)
    (d : ∀ w, Calls Try.prog f #[.int .u64 v, .int .i64 (8 * n)] w fun e w' => e = .returned (.int .u64 V) ∧ w' = w) :
    Calls Try.prog 11 #[.int .i64 op, .int .u64 v] w fun e w' => (∃ x, e = .returned (.tuple #[.int .u64 V, x]) ∧ ErrIn w' x 0) ∧ Below w.heap.size w w' := by
  have c := access_any op w
  rw [h] at c
  clear h
  unfold Enters at hE
  go_enter Try.func11, Try.ntmps11
  go_wp2_with fail
  refine c.mono ?_; rintro e w1 ⟨rfl, hb⟩
  clear c
  go_wp2_with fail
  refine (d _).mono ?_; rintro e w2 ⟨rfl, rfl⟩
  clear d
  go_wp2
  go_ret2
  exact ⟨⟨_, rfl, .inl ⟨rfl, rfl⟩⟩, hb.alloc hb.size _⟩
theorem extend_no (op v : Int) (w : World) (i n : Int) (x : Value) (h : acc op = #[.int .i64 i, .int .i64 n, .nilFunc, x]) (hx : x = .nilFunc ∨ ∃ f, x = .func (.func f) #[] #[]) :
    Calls Try.prog 11 #[.int .i64 op, .int .u64 v] w fun e w' => (∃ x, e = .returned (.tuple #[.int .u64 0, x]) ∧ ErrIn w' x 40) ∧ Below w.heap.size w w' := by
  have c := access_any op w
  rw [h] at c
  clear h
  rcases hx with rfl | ⟨f, rfl⟩
  all_goals
    go_enter Try.func11, Try.ntmps11
    go_wp2_with fail
    refine c.mono ?_; rintro e w1 ⟨rfl, hb⟩
    clear c
    go_wp2_with fail
    refine (fault_any 40 _).mono ?_; rintro e w2 ⟨⟨v, rfl, hF⟩, hb2⟩
    go_wp2
    go_ret2
    exact ⟨⟨v, rfl, .inr ⟨by decide, faultIn_keep (Below.refl _ _) hF⟩⟩, bseq (hb.alloc hb.size _) hb2⟩
theorem keep_as (op v n V : Int) (f : Nat) (w : World) (h : acc op = #[.int .i64 op, .int .i64 n, .nilFunc, .func (.func f) #[] #[]]) (hn : 0 ≤ n) (hn' : n < 100) (hE : Enters f)
    (d : ∀ w, Calls Try.prog f #[.int .u64 v, .int .i64 (8 * n)] w fun e w' => e = .returned (.int .u64 V) ∧ w' = w) :
    Calls Try.prog 10 #[.int .i64 op, .int .u64 v] w fun e w' => (∃ x, e = .returned (.tuple #[.int .u64 V, x]) ∧ ErrIn w' x 0) ∧ Below w.heap.size w w' := by
  have c := access_any op w
  rw [h] at c
  clear h
  unfold Enters at hE
  go_enter Try.func10, Try.ntmps10
  go_wp2_with fail
  refine c.mono ?_; rintro e w1 ⟨rfl, hb⟩
  clear c
  go_wp2_with fail
  refine (d _).mono ?_; rintro e w2 ⟨rfl, rfl⟩
  clear d
  go_wp2
  go_ret2
  exact ⟨⟨_, rfl, .inl ⟨rfl, rfl⟩⟩, hb.alloc hb.size _⟩
theorem keep_no (op v : Int) (w : World) (i n : Int) (x : Value) (h : acc op = #[.int .i64 i, .int .i64 n, x, .nilFunc]) (hx : x = .nilFunc ∨ ∃ f, x = .func (.func f) #[] #[]) :
    Calls Try.prog 10 #[.int .i64 op, .int .u64 v] w fun e w' => (∃ x, e = .returned (.tuple #[.int .u64 0, x]) ∧ ErrIn w' x 40) ∧ Below w.heap.size w w' := by
  have c := access_any op w
  rw [h] at c
  clear h
  rcases hx with rfl | ⟨f, rfl⟩
  all_goals
    go_enter Try.func10, Try.ntmps10
    go_wp2_with fail
    refine c.mono ?_; rintro e w1 ⟨rfl, hb⟩
    clear c
    go_wp2_with fail
    refine (fault_any 40 _).mono ?_; rintro e w2 ⟨⟨v, rfl, hF⟩, hb2⟩
    go_wp2
    go_ret2
    exact ⟨⟨v, rfl, .inr ⟨by decide, faultIn_keep (Below.refl _ _) hF⟩⟩, bseq (hb.alloc hb.size _) hb2⟩
def exv (k : Nat) (v : Int) : Int := [wid 256 v, wid 65536 v, wid 4294967296 v, wid 18446744073709551616 v, v % 256, v % 65536, v % 4294967296].getD k 0
def kpv (k : Nat) (v : Int) : Int := [v % 256, v % 65536, v % 4294967296, v % 18446744073709551616].getD k 0
theorem enters38 : Enters 38 := fun args w => by kernel_rfl
theorem enters39 : Enters 39 := fun args w => by kernel_rfl
theorem extend_hit (k : Nat) (hk : k < 7) (v : Int) (w : World) (hv : W64 v) :
    Calls Try.prog 11 #[.int .i64 (11 + k), .int .u64 v] w fun e w' => (∃ x, e = .returned (.tuple #[.int .u64 (exv k v), x]) ∧ ErrIn w' x 0) ∧ Below w.heap.size w w' := by
  have hN : k = 0 ∨ k = 1 ∨ k = 2 ∨ k = 3 ∨ k = 4 ∨ k = 5 ∨ k = 6 := by omega
  rcases hN with rfl | rfl | rfl | rfl | rfl | rfl | rfl
  · exact extend_as 11 v 1 _ 38 w acc0 (by decide) (by decide) enters38 (fun w => widen8 v w hv)
  · exact extend_as 12 v 2 _ 38 w acc1 (by decide) (by decide) enters38 (fun w => widen16 v w hv)
  · exact extend_as 13 v 4 _ 38 w acc2 (by decide) (by decide) enters38 (fun w => widen32 v w hv)
  · exact extend_as 14 v 8 _ 38 w acc3 (by decide) (by decide) enters38 (fun w => widen64 v w hv)
  · exact extend_as 15 v 1 _ 39 w acc4 (by decide) (by decide) enters39 (fun w => cut8 v w hv)
  · exact extend_as 16 v 2 _ 39 w acc5 (by decide) (by decide) enters39 (fun w => cut16 v w hv)
  · exact extend_as 17 v 4 _ 39 w acc6 (by decide) (by decide) enters39 (fun w => cut32 v w hv)
theorem keep_hit (k : Nat) (hk : k < 4) (v : Int) (w : World) (hv : W64 v) :
    Calls Try.prog 10 #[.int .i64 (18 + k), .int .u64 v] w fun e w' => (∃ x, e = .returned (.tuple #[.int .u64 (kpv k v), x]) ∧ ErrIn w' x 0) ∧ Below w.heap.size w w' := by
  have hN : k = 0 ∨ k = 1 ∨ k = 2 ∨ k = 3 := by omega
  rcases hN with rfl | rfl | rfl | rfl
  · exact keep_as 18 v 1 _ 39 w acc7 (by decide) (by decide) enters39 (fun w => cut8 v w hv)
  · exact keep_as 19 v 2 _ 39 w acc8 (by decide) (by decide) enters39 (fun w => cut16 v w hv)
  · exact keep_as 20 v 4 _ 39 w acc9 (by decide) (by decide) enters39 (fun w => cut32 v w hv)
  · exact keep_as 21 v 8 _ 39 w acc10 (by decide) (by decide) enters39 (fun w => cut64 v w hv)
theorem acc_miss (op : Int) (h : op < 11 ∨ 21 < op) : acc op = #[.int .i64 0, .int .i64 0, .nilFunc, .nilFunc] :=
  acc_out op (by omega) (by omega) (by omega) (by omega) (by omega) (by omega) (by omega) (by omega) (by omega) (by omega) (by omega)
theorem extend_miss (op v : Int) (w : World) (h : op < 11 ∨ 17 < op) :
    Calls Try.prog 11 #[.int .i64 op, .int .u64 v] w fun e w' => (∃ x, e = .returned (.tuple #[.int .u64 0, x]) ∧ ErrIn w' x 40) ∧ Below w.heap.size w w' := by
  have hN : op = 18 ∨ op = 19 ∨ op = 20 ∨ op = 21 ∨ (op < 11 ∨ 21 < op) := by omega
  rcases hN with rfl | rfl | rfl | rfl | h
  · exact extend_no 18 v w _ _ _ acc7 (.inr ⟨39, rfl⟩)
  · exact extend_no 19 v w _ _ _ acc8 (.inr ⟨39, rfl⟩)
  · exact extend_no 20 v w _ _ _ acc9 (.inr ⟨39, rfl⟩)
  · exact extend_no 21 v w _ _ _ acc10 (.inr ⟨39, rfl⟩)
  · exact extend_no op v w _ _ _ (acc_miss op h) (.inl rfl)
theorem keep_miss (op v : Int) (w : World) (h : op < 18 ∨ 21 < op) :
    Calls Try.prog 10 #[.int .i64 op, .int .u64 v] w fun e w' => (∃ x, e = .returned (.tuple #[.int .u64 0, x]) ∧ ErrIn w' x 40) ∧ Below w.heap.size w w' := by
  have hN : op = 11 ∨ op = 12 ∨ op = 13 ∨ op = 14 ∨ op = 15 ∨ op = 16 ∨ op = 17 ∨ (op < 11 ∨ 21 < op) := by omega
  rcases hN with rfl | rfl | rfl | rfl | rfl | rfl | rfl | h
  · exact keep_no 11 v w _ _ _ acc0 (.inr ⟨38, rfl⟩)
  · exact keep_no 12 v w _ _ _ acc1 (.inr ⟨38, rfl⟩)
  · exact keep_no 13 v w _ _ _ acc2 (.inr ⟨38, rfl⟩)
  · exact keep_no 14 v w _ _ _ acc3 (.inr ⟨38, rfl⟩)
  · exact keep_no 15 v w _ _ _ acc4 (.inr ⟨39, rfl⟩)
  · exact keep_no 16 v w _ _ _ acc5 (.inr ⟨39, rfl⟩)
  · exact keep_no 17 v w _ _ _ acc6 (.inr ⟨39, rfl⟩)
  · exact keep_no op v w _ _ _ (acc_miss op h) (.inl rfl)
theorem low1 (v : Int) (w : World) (hv : W64 v) : Calls Try.prog 35 #[.int .u64 v, .int .i64 1] w fun e w' => e = .returned (.int .u64 (v % 256)) ∧ w' = w := by
  have k : bits .and .u64 v 255 = v % 256 := bits_mask .u64 64 (by decide) (fun n h0 h1 => by rw [wu]; omega) 8 (by decide) v hv.1 hv.2
  rw [← k]
  obtain ⟨h0, h1⟩ := hv
  clear k
  go_enter Try.func35, Try.ntmps35
  go_wp2
  go_ret
  exact ⟨rfl, rfl⟩
theorem low2 (v : Int) (w : World) (hv : W64 v) : Calls Try.prog 35 #[.int .u64 v, .int .i64 2] w fun e w' => e = .returned (.int .u64 (v % 65536)) ∧ w' = w := by
  have k : bits .and .u64 v 65535 = v % 65536 := bits_mask .u64 64 (by decide) (fun n h0 h1 => by rw [wu]; omega) 16 (by decide) v hv.1 hv.2
  rw [← k]
  obtain ⟨h0, h1⟩ := hv
  clear k
  go_enter Try.func35, Try.ntmps35
  go_wp2
  go_ret
  exact ⟨rfl, rfl⟩
theorem low4 (v : Int) (w : World) (hv : W64 v) : Calls Try.prog 35 #[.int .u64 v, .int .i64 4] w fun e w' => e = .returned (.int .u64 (v % 4294967296)) ∧ w' = w := by
  have k : bits .and .u64 v 4294967295 = v % 4294967296 := bits_mask .u64 64 (by decide) (fun n h0 h1 => by rw [wu]; omega) 32 (by decide) v hv.1 hv.2
  rw [← k]
  obtain ⟨h0, h1⟩ := hv
  clear k
  go_enter Try.func35, Try.ntmps35
  go_wp2
  go_ret
  exact ⟨rfl, rfl⟩
theorem low8 (v : Int) (w : World) (hv : W64 v) : Calls Try.prog 35 #[.int .u64 v, .int .i64 8] w fun e w' => e = .returned (.int .u64 (v % 18446744073709551616)) ∧ w' = w := by
  obtain ⟨h0, h1⟩ := hv
  rw [Int.emod_eq_of_lt h0 h1]
  go_enter Try.func35, Try.ntmps35
  go_wp2
  go_ret
  exact ⟨rfl, rfl⟩
theorem load0 (w : World) : Calls Try.prog 34 #[.int .i64 11] w fun e w' => e = .returned (.tuple #[.int .i64 1, .bool true]) ∧ w' = w := by
  go_enter Try.func34, Try.ntmps34
  go_wp2
  go_ret2
  exact ⟨rfl, rfl⟩
theorem load1 (w : World) : Calls Try.prog 34 #[.int .i64 12] w fun e w' => e = .returned (.tuple #[.int .i64 2, .bool true]) ∧ w' = w := by
  go_enter Try.func34, Try.ntmps34
  go_wp2
  go_ret2
  exact ⟨rfl, rfl⟩
theorem load2 (w : World) : Calls Try.prog 34 #[.int .i64 13] w fun e w' => e = .returned (.tuple #[.int .i64 4, .bool true]) ∧ w' = w := by
  go_enter Try.func34, Try.ntmps34
  go_wp2
  go_ret2
  exact ⟨rfl, rfl⟩
theorem load3 (w : World) : Calls Try.prog 34 #[.int .i64 14] w fun e w' => e = .returned (.tuple #[.int .i64 8, .bool true]) ∧ w' = w := by
  go_enter Try.func34, Try.ntmps34
  go_wp2
  go_ret2
  exact ⟨rfl, rfl⟩
theorem load4 (w : World) : Calls Try.prog 34 #[.int .i64 15] w fun e w' => e = .returned (.tuple #[.int .i64 1, .bool false]) ∧ w' = w := by
  go_enter Try.func34, Try.ntmps34
  go_wp2
  go_ret2
  exact ⟨rfl, rfl⟩
theorem load5 (w : World) : Calls Try.prog 34 #[.int .i64 16] w fun e w' => e = .returned (.tuple #[.int .i64 2, .bool false]) ∧ w' = w := by
  go_enter Try.func34, Try.ntmps34
  go_wp2
  go_ret2
  exact ⟨rfl, rfl⟩
theorem load6 (w : World) : Calls Try.prog 34 #[.int .i64 17] w fun e w' => e = .returned (.tuple #[.int .i64 4, .bool false]) ∧ w' = w := by
  go_enter Try.func34, Try.ntmps34
  go_wp2
  go_ret2
  exact ⟨rfl, rfl⟩
theorem store0 (w : World) : Calls Try.prog 36 #[.int .i64 18] w fun e w' => e = .returned (.int .i64 1) ∧ w' = w := by
  go_enter Try.func36, Try.ntmps36
  go_wp2
  go_ret
  exact ⟨rfl, rfl⟩
theorem store1 (w : World) : Calls Try.prog 36 #[.int .i64 19] w fun e w' => e = .returned (.int .i64 2) ∧ w' = w := by
  go_enter Try.func36, Try.ntmps36
  go_wp2
  go_ret
  exact ⟨rfl, rfl⟩
theorem store2 (w : World) : Calls Try.prog 36 #[.int .i64 20] w fun e w' => e = .returned (.int .i64 4) ∧ w' = w := by
  go_enter Try.func36, Try.ntmps36
  go_wp2
  go_ret
  exact ⟨rfl, rfl⟩
theorem store3 (w : World) : Calls Try.prog 36 #[.int .i64 21] w fun e w' => e = .returned (.int .i64 8) ∧ w' = w := by
  go_enter Try.func36, Try.ntmps36
  go_wp2
  go_ret
  exact ⟨rfl, rfl⟩
theorem load_miss (op : Int) (w : World) (h : op < 11 ∨ 17 < op) : Calls Try.prog 34 #[.int .i64 op] w fun e w' => e = .returned (.tuple #[.int .i64 0, .bool false]) ∧ w' = w := by
  have n11 : (op == 11) = false := by rw [beq_eq_false_iff_ne]; omega
  have n12 : (op == 12) = false := by rw [beq_eq_false_iff_ne]; omega
  have n13 : (op == 13) = false := by rw [beq_eq_false_iff_ne]; omega
  have n14 : (op == 14) = false := by rw [beq_eq_false_iff_ne]; omega
  have n15 : (op == 15) = false := by rw [beq_eq_false_iff_ne]; omega
  have n16 : (op == 16) = false := by rw [beq_eq_false_iff_ne]; omega
  have n17 : (op == 17) = false := by rw [beq_eq_false_iff_ne]; omega
  clear h
  go_enter Try.func34, Try.ntmps34
  go_wp2
  go_ret2
  exact ⟨rfl, rfl⟩
theorem store_miss (op : Int) (w : World) (h : op < 18 ∨ 21 < op) : Calls Try.prog 36 #[.int .i64 op] w fun e w' => e = .returned (.int .i64 0) ∧ w' = w := by
  have n18 : (op == 18) = false := by rw [beq_eq_false_iff_ne]; omega
  have n19 : (op == 19) = false := by rw [beq_eq_false_iff_ne]; omega
  have n20 : (op == 20) = false := by rw [beq_eq_false_iff_ne]; omega
  have n21 : (op == 21) = false := by rw [beq_eq_false_iff_ne]; omega
  clear h
  go_enter Try.func36, Try.ntmps36
  go_wp2
  go_ret
  exact ⟨rfl, rfl⟩
set_option maxHeartbeats 1000000 in
theorem rext0 (v : Int) (w : World) (hv : W64 v) : Calls Try.prog 19 #[.int .i64 11, .int .u64 v] w fun e w' => (∃ p l c, e = .returned (.tuple #[.int .u64 (wid 256 v), .agg #[.slice p l c, .int .i64 0]]) ∧ RefIn w' p l c 0) ∧ Below w.heap.size w w' := by
  have c := fun w => low1 v w hv
  obtain ⟨h0, h1⟩ := hv
  have x0 : 0 ≤ v % 256 := by omega
  have x1 : v % 256 < 256 := by omega
  by_cases g : 128 ≤ v % 256
  · have kk : wid 256 v = IntKind.u64.wrap (v % 256 - 256) := by rw [wu]; unfold wid; omega
    rw [kk]
    clear kk h0 h1
    generalize v % 256 = x at *
    have g1 : (x / 128 == 1) = true := by rw [beq_iff_eq]; omega
    go_enter Try.func19, Try.ntmps19
    go_wp2_with (first
      | (go_at_call 34; refine (load0 _).mono ?_; rintro e w' ⟨rfl, rfl⟩)
      | (go_at_call 35; refine (c _).mono ?_; rintro e w' ⟨rfl, rfl⟩)
      | (go_at_call 27; refine (none_any _).mono ?_; rintro e w' ⟨rfl, rfl⟩))
    exact bodyPost_ret (v := .tuple #[.int .u64 (IntKind.u64.wrap (x - 256)), .agg #[.slice .none 0 0, .int .i64 0]]) (by simp [results, Try.results19, go_sem]) rfl ⟨⟨_, _, _, rfl, .inl ⟨rfl, rfl, rfl, rfl⟩⟩, (below_past _ _).alloc (by simp only [World.size_alloc]; omega) _⟩
  · have kk : wid 256 v = v % 256 := by unfold wid; omega
    rw [kk]
    clear kk h0 h1
    generalize v % 256 = x at *
    have g1 : (x / 128 == 1) = false := by rw [beq_eq_false_iff_ne]; omega
    go_enter Try.func19, Try.ntmps19
    go_wp2_with (first
      | (go_at_call 34; refine (load0 _).mono ?_; rintro e w' ⟨rfl, rfl⟩)
      | (go_at_call 35; refine (c _).mono ?_; rintro e w' ⟨rfl, rfl⟩)
      | (go_at_call 27; refine (none_any _).mono ?_; rintro e w' ⟨rfl, rfl⟩))
    exact bodyPost_ret (v := .tuple #[.int .u64 x, .agg #[.slice .none 0 0, .int .i64 0]]) (by simp [results, Try.results19, go_sem]) rfl ⟨⟨_, _, _, rfl, .inl ⟨rfl, rfl, rfl, rfl⟩⟩, (below_past _ _).alloc (by simp only [World.size_alloc]; omega) _⟩
set_option maxHeartbeats 1000000 in
theorem rext1 (v : Int) (w : World) (hv : W64 v) : Calls Try.prog 19 #[.int .i64 12, .int .u64 v] w fun e w' => (∃ p l c, e = .returned (.tuple #[.int .u64 (wid 65536 v), .agg #[.slice p l c, .int .i64 0]]) ∧ RefIn w' p l c 0) ∧ Below w.heap.size w w' := by
  have c := fun w => low2 v w hv
  obtain ⟨h0, h1⟩ := hv
  have x0 : 0 ≤ v % 65536 := by omega
  have x1 : v % 65536 < 65536 := by omega
  by_cases g : 32768 ≤ v % 65536
  · have kk : wid 65536 v = IntKind.u64.wrap (v % 65536 - 65536) := by rw [wu]; unfold wid; omega
    rw [kk]
    clear kk h0 h1
    generalize v % 65536 = x at *
    have g1 : (x / 32768 == 1) = true := by rw [beq_iff_eq]; omega
    go_enter Try.func19, Try.ntmps19
    go_wp2_with (first
      | (go_at_call 34; refine (load1 _).mono ?_; rintro e w' ⟨rfl, rfl⟩)
      | (go_at_call 35; refine (c _).mono ?_; rintro e w' ⟨rfl, rfl⟩)
      | (go_at_call 27; refine (none_any _).mono ?_; rintro e w' ⟨rfl, rfl⟩))
    exact bodyPost_ret (v := .tuple #[.int .u64 (IntKind.u64.wrap (x - 65536)), .agg #[.slice .none 0 0, .int .i64 0]]) (by simp [results, Try.results19, go_sem]) rfl ⟨⟨_, _, _, rfl, .inl ⟨rfl, rfl, rfl, rfl⟩⟩, (below_past _ _).alloc (by simp only [World.size_alloc]; omega) _⟩
  · have kk : wid 65536 v = v % 65536 := by unfold wid; omega
    rw [kk]
    clear kk h0 h1
    generalize v % 65536 = x at *
    have g1 : (x / 32768 == 1) = false := by rw [beq_eq_false_iff_ne]; omega
    go_enter Try.func19, Try.ntmps19
    go_wp2_with (first
      | (go_at_call 34; refine (load1 _).mono ?_; rintro e w' ⟨rfl, rfl⟩)
      | (go_at_call 35; refine (c _).mono ?_; rintro e w' ⟨rfl, rfl⟩)
      | (go_at_call 27; refine (none_any _).mono ?_; rintro e w' ⟨rfl, rfl⟩))
    exact bodyPost_ret (v := .tuple #[.int .u64 x, .agg #[.slice .none 0 0, .int .i64 0]]) (by simp [results, Try.results19, go_sem]) rfl ⟨⟨_, _, _, rfl, .inl ⟨rfl, rfl, rfl, rfl⟩⟩, (below_past _ _).alloc (by simp only [World.size_alloc]; omega) _⟩
set_option maxHeartbeats 1000000 in
theorem rext2 (v : Int) (w : World) (hv : W64 v) : Calls Try.prog 19 #[.int .i64 13, .int .u64 v] w fun e w' => (∃ p l c, e = .returned (.tuple #[.int .u64 (wid 4294967296 v), .agg #[.slice p l c, .int .i64 0]]) ∧ RefIn w' p l c 0) ∧ Below w.heap.size w w' := by
  have c := fun w => low4 v w hv
  obtain ⟨h0, h1⟩ := hv
  have x0 : 0 ≤ v % 4294967296 := by omega
  have x1 : v % 4294967296 < 4294967296 := by omega
  by_cases g : 2147483648 ≤ v % 4294967296
  · have kk : wid 4294967296 v = IntKind.u64.wrap (v % 4294967296 - 4294967296) := by rw [wu]; unfold wid; omega
    rw [kk]
    clear kk h0 h1
    generalize v % 4294967296 = x at *
    have g1 : (x / 2147483648 == 1) = true := by rw [beq_iff_eq]; omega
    go_enter Try.func19, Try.ntmps19
    go_wp2_with (first
      | (go_at_call 34; refine (load2 _).mono ?_; rintro e w' ⟨rfl, rfl⟩)
      | (go_at_call 35; refine (c _).mono ?_; rintro e w' ⟨rfl, rfl⟩)
      | (go_at_call 27; refine (none_any _).mono ?_; rintro e w' ⟨rfl, rfl⟩))
    exact bodyPost_ret (v := .tuple #[.int .u64 (IntKind.u64.wrap (x - 4294967296)), .agg #[.slice .none 0 0, .int .i64 0]]) (by simp [results, Try.results19, go_sem]) rfl ⟨⟨_, _, _, rfl, .inl ⟨rfl, rfl, rfl, rfl⟩⟩, (below_past _ _).alloc (by simp only [World.size_alloc]; omega) _⟩
  · have kk : wid 4294967296 v = v % 4294967296 := by unfold wid; omega
    rw [kk]
    clear kk h0 h1
    generalize v % 4294967296 = x at *
    have g1 : (x / 2147483648 == 1) = false := by rw [beq_eq_false_iff_ne]; omega
    go_enter Try.func19, Try.ntmps19
    go_wp2_with (first
      | (go_at_call 34; refine (load2 _).mono ?_; rintro e w' ⟨rfl, rfl⟩)
      | (go_at_call 35; refine (c _).mono ?_; rintro e w' ⟨rfl, rfl⟩)
      | (go_at_call 27; refine (none_any _).mono ?_; rintro e w' ⟨rfl, rfl⟩))
    exact bodyPost_ret (v := .tuple #[.int .u64 x, .agg #[.slice .none 0 0, .int .i64 0]]) (by simp [results, Try.results19, go_sem]) rfl ⟨⟨_, _, _, rfl, .inl ⟨rfl, rfl, rfl, rfl⟩⟩, (below_past _ _).alloc (by simp only [World.size_alloc]; omega) _⟩
set_option maxHeartbeats 1000000 in
theorem rext3 (v : Int) (w : World) (hv : W64 v) : Calls Try.prog 19 #[.int .i64 14, .int .u64 v] w fun e w' => (∃ p l c, e = .returned (.tuple #[.int .u64 (wid 18446744073709551616 v), .agg #[.slice p l c, .int .i64 0]]) ∧ RefIn w' p l c 0) ∧ Below w.heap.size w w' := by
  have c := fun w => low8 v w hv
  obtain ⟨h0, h1⟩ := hv
  have kk : wid 18446744073709551616 v = v % 18446744073709551616 := by unfold wid; omega
  rw [kk]
  clear kk
  have x0 : 0 ≤ v % 18446744073709551616 := by omega
  have x1 : v % 18446744073709551616 < 18446744073709551616 := by omega
  clear h0 h1
  generalize v % 18446744073709551616 = x at *
  go_enter Try.func19, Try.ntmps19
  go_wp2_with (first
    | (go_at_call 34; refine (load3 _).mono ?_; rintro e w' ⟨rfl, rfl⟩)
    | (go_at_call 35; refine (c _).mono ?_; rintro e w' ⟨rfl, rfl⟩)
    | (go_at_call 27; refine (none_any _).mono ?_; rintro e w' ⟨rfl, rfl⟩))
  exact bodyPost_ret (v := .tuple #[.int .u64 x, .agg #[.slice .none 0 0, .int .i64 0]]) (by simp [results, Try.results19, go_sem]) rfl ⟨⟨_, _, _, rfl, .inl ⟨rfl, rfl, rfl, rfl⟩⟩, (below_past _ _).alloc (by simp only [World.size_alloc]; omega) _⟩
set_option maxHeartbeats 1000000 in
theorem rext4 (v : Int) (w : World) (hv : W64 v) : Calls Try.prog 19 #[.int .i64 15, .int .u64 v] w fun e w' => (∃ p l c, e = .returned (.tuple #[.int .u64 (v % 256), .agg #[.slice p l c, .int .i64 0]]) ∧ RefIn w' p l c 0) ∧ Below w.heap.size w w' := by
  have c := fun w => low1 v w hv
  obtain ⟨h0, h1⟩ := hv
  have x0 : 0 ≤ v % 256 := by omega
  have x1 : v % 256 < 256 := by omega
  clear h0 h1
  generalize v % 256 = x at *
  go_enter Try.func19, Try.ntmps19
  go_wp2_with (first
    | (go_at_call 34; refine (load4 _).mono ?_; rintro e w' ⟨rfl, rfl⟩)
    | (go_at_call 35; refine (c _).mono ?_; rintro e w' ⟨rfl, rfl⟩)
    | (go_at_call 27; refine (none_any _).mono ?_; rintro e w' ⟨rfl, rfl⟩))
  exact bodyPost_ret (v := .tuple #[.int .u64 x, .agg #[.slice .none 0 0, .int .i64 0]]) (by simp [results, Try.results19, go_sem]) rfl ⟨⟨_, _, _, rfl, .inl ⟨rfl, rfl, rfl, rfl⟩⟩, (below_past _ _).alloc (by simp only [World.size_alloc]; omega) _⟩
set_option maxHeartbeats 1000000 in
theorem rext5 (v : Int) (w : World) (hv : W64 v) : Calls Try.prog 19 #[.int .i64 16, .int .u64 v] w fun e w' => (∃ p l c, e = .returned (.tuple #[.int .u64 (v % 65536), .agg #[.slice p l c, .int .i64 0]]) ∧ RefIn w' p l c 0) ∧ Below w.heap.size w w' := by
  have c := fun w => low2 v w hv
  obtain ⟨h0, h1⟩ := hv
  have x0 : 0 ≤ v % 65536 := by omega
  have x1 : v % 65536 < 65536 := by omega
  clear h0 h1
  generalize v % 65536 = x at *
  go_enter Try.func19, Try.ntmps19
  go_wp2_with (first
    | (go_at_call 34; refine (load5 _).mono ?_; rintro e w' ⟨rfl, rfl⟩)
    | (go_at_call 35; refine (c _).mono ?_; rintro e w' ⟨rfl, rfl⟩)
    | (go_at_call 27; refine (none_any _).mono ?_; rintro e w' ⟨rfl, rfl⟩))
  exact bodyPost_ret (v := .tuple #[.int .u64 x, .agg #[.slice .none 0 0, .int .i64 0]]) (by simp [results, Try.results19, go_sem]) rfl ⟨⟨_, _, _, rfl, .inl ⟨rfl, rfl, rfl, rfl⟩⟩, (below_past _ _).alloc (by simp only [World.size_alloc]; omega) _⟩
set_option maxHeartbeats 1000000 in
theorem rext6 (v : Int) (w : World) (hv : W64 v) : Calls Try.prog 19 #[.int .i64 17, .int .u64 v] w fun e w' => (∃ p l c, e = .returned (.tuple #[.int .u64 (v % 4294967296), .agg #[.slice p l c, .int .i64 0]]) ∧ RefIn w' p l c 0) ∧ Below w.heap.size w w' := by
  have c := fun w => low4 v w hv
  obtain ⟨h0, h1⟩ := hv
  have x0 : 0 ≤ v % 4294967296 := by omega
  have x1 : v % 4294967296 < 4294967296 := by omega
  clear h0 h1
  generalize v % 4294967296 = x at *
  go_enter Try.func19, Try.ntmps19
  go_wp2_with (first
    | (go_at_call 34; refine (load6 _).mono ?_; rintro e w' ⟨rfl, rfl⟩)
    | (go_at_call 35; refine (c _).mono ?_; rintro e w' ⟨rfl, rfl⟩)
    | (go_at_call 27; refine (none_any _).mono ?_; rintro e w' ⟨rfl, rfl⟩))
  exact bodyPost_ret (v := .tuple #[.int .u64 x, .agg #[.slice .none 0 0, .int .i64 0]]) (by simp [results, Try.results19, go_sem]) rfl ⟨⟨_, _, _, rfl, .inl ⟨rfl, rfl, rfl, rfl⟩⟩, (below_past _ _).alloc (by simp only [World.size_alloc]; omega) _⟩
set_option maxHeartbeats 1000000 in
theorem rkeep0 (v : Int) (w : World) (hv : W64 v) : Calls Try.prog 20 #[.int .i64 18, .int .u64 v] w fun e w' => (∃ p l c, e = .returned (.tuple #[.int .u64 (v % 256), .agg #[.slice p l c, .int .i64 0]]) ∧ RefIn w' p l c 0) ∧ Below w.heap.size w w' := by
  have c := fun w => low1 v w hv
  generalize v % 256 = x at *
  go_enter Try.func20, Try.ntmps20
  go_wp2_with (first
    | (go_at_call 36; refine (store0 _).mono ?_; rintro e w' ⟨rfl, rfl⟩)
    | (go_at_call 35; refine (c _).mono ?_; rintro e w' ⟨rfl, rfl⟩)
    | (go_at_call 27; refine (none_any _).mono ?_; rintro e w' ⟨rfl, rfl⟩))
  exact bodyPost_ret (v := .tuple #[.int .u64 x, .agg #[.slice .none 0 0, .int .i64 0]]) (by simp [results, Try.results20, go_sem]) rfl ⟨⟨_, _, _, rfl, .inl ⟨rfl, rfl, rfl, rfl⟩⟩, (below_past _ _).alloc (by simp only [World.size_alloc]; omega) _⟩
set_option maxHeartbeats 1000000 in
theorem rkeep1 (v : Int) (w : World) (hv : W64 v) : Calls Try.prog 20 #[.int .i64 19, .int .u64 v] w fun e w' => (∃ p l c, e = .returned (.tuple #[.int .u64 (v % 65536), .agg #[.slice p l c, .int .i64 0]]) ∧ RefIn w' p l c 0) ∧ Below w.heap.size w w' := by
  have c := fun w => low2 v w hv
  generalize v % 65536 = x at *
  go_enter Try.func20, Try.ntmps20
  go_wp2_with (first
    | (go_at_call 36; refine (store1 _).mono ?_; rintro e w' ⟨rfl, rfl⟩)
    | (go_at_call 35; refine (c _).mono ?_; rintro e w' ⟨rfl, rfl⟩)
    | (go_at_call 27; refine (none_any _).mono ?_; rintro e w' ⟨rfl, rfl⟩))
  exact bodyPost_ret (v := .tuple #[.int .u64 x, .agg #[.slice .none 0 0, .int .i64 0]]) (by simp [results, Try.results20, go_sem]) rfl ⟨⟨_, _, _, rfl, .inl ⟨rfl, rfl, rfl, rfl⟩⟩, (below_past _ _).alloc (by simp only [World.size_alloc]; omega) _⟩
set_option maxHeartbeats 1000000 in
theorem rkeep2 (v : Int) (w : World) (hv : W64 v) : Calls Try.prog 20 #[.int .i64 20, .int .u64 v] w fun e w' => (∃ p l c, e = .returned (.tuple #[.int .u64 (v % 4294967296), .agg #[.slice p l c, .int .i64 0]]) ∧ RefIn w' p l c 0) ∧ Below w.heap.size w w' := by
  have c := fun w => low4 v w hv
  generalize v % 4294967296 = x at *
  go_enter Try.func20, Try.ntmps20
  go_wp2_with (first
    | (go_at_call 36; refine (store2 _).mono ?_; rintro e w' ⟨rfl, rfl⟩)
    | (go_at_call 35; refine (c _).mono ?_; rintro e w' ⟨rfl, rfl⟩)
    | (go_at_call 27; refine (none_any _).mono ?_; rintro e w' ⟨rfl, rfl⟩))
  exact bodyPost_ret (v := .tuple #[.int .u64 x, .agg #[.slice .none 0 0, .int .i64 0]]) (by simp [results, Try.results20, go_sem]) rfl ⟨⟨_, _, _, rfl, .inl ⟨rfl, rfl, rfl, rfl⟩⟩, (below_past _ _).alloc (by simp only [World.size_alloc]; omega) _⟩
set_option maxHeartbeats 1000000 in
theorem rkeep3 (v : Int) (w : World) (hv : W64 v) : Calls Try.prog 20 #[.int .i64 21, .int .u64 v] w fun e w' => (∃ p l c, e = .returned (.tuple #[.int .u64 (v % 18446744073709551616), .agg #[.slice p l c, .int .i64 0]]) ∧ RefIn w' p l c 0) ∧ Below w.heap.size w w' := by
  have c := fun w => low8 v w hv
  generalize v % 18446744073709551616 = x at *
  go_enter Try.func20, Try.ntmps20
  go_wp2_with (first
    | (go_at_call 36; refine (store3 _).mono ?_; rintro e w' ⟨rfl, rfl⟩)
    | (go_at_call 35; refine (c _).mono ?_; rintro e w' ⟨rfl, rfl⟩)
    | (go_at_call 27; refine (none_any _).mono ?_; rintro e w' ⟨rfl, rfl⟩))
  exact bodyPost_ret (v := .tuple #[.int .u64 x, .agg #[.slice .none 0 0, .int .i64 0]]) (by simp [results, Try.results20, go_sem]) rfl ⟨⟨_, _, _, rfl, .inl ⟨rfl, rfl, rfl, rfl⟩⟩, (below_past _ _).alloc (by simp only [World.size_alloc]; omega) _⟩
set_option maxHeartbeats 1000000 in
theorem rext_miss (op v : Int) (w : World) (h : op < 11 ∨ 17 < op) : Calls Try.prog 19 #[.int .i64 op, .int .u64 v] w fun e w' => (∃ p l c, e = .returned (.tuple #[.int .u64 (0), .agg #[.slice p l c, .int .i64 40]]) ∧ RefIn w' p l c 40) ∧ Below w.heap.size w w' := by
  have cm := fun w => load_miss op w h
  clear h
  go_enter Try.func19, Try.ntmps19
  go_wp2_with fail
  refine (cm _).mono ?_; rintro e w0 ⟨rfl, rfl⟩
  clear cm
  go_wp2_with fail
  refine (no_any 40 _).mono ?_; rintro e w1 ⟨⟨B, hB0, hB1, rfl, c0, c1⟩, hb⟩
  have hz := hb.size
  simp only [World.size_alloc] at hz hB0
  have hy : w.heap.size < w1.heap.size := by omega
  have k0 : w1.cell? ⟨w.heap.size, 0, .none⟩ = some (.slice .none 0 0) := (hb.cell (by simp only [World.size_alloc]; omega)).trans (by simp)
  have k1 : w1.cell? ⟨w.heap.size, 1, .none⟩ = some (.int .i64 0) := (hb.cell (by simp only [World.size_alloc]; omega)).trans (by simp)
  have f0 : w1.frozen? ⟨w.heap.size, 0, .none⟩ = false := (hb.frozen (by simp only [World.size_alloc]; omega)).trans (by simp)
  have f1 : w1.frozen? ⟨w.heap.size, 1, .none⟩ = false := (hb.frozen (by simp only [World.size_alloc]; omega)).trans (by simp)
  have hW : Below w.heap.size w w1 := (below_past _ _).trans (hb.mono (by simp only [World.size_alloc]; omega))
  go_wp2
  refine bodyPost_ret (v := .tuple #[.int .u64 0, .agg #[.slice (some ⟨B, 0, .none⟩) 1 1, .int .i64 40]]) (by simp [results, Try.results19, go_sem, hy, k0, k1]) rfl ⟨⟨_, _, _, rfl, .inr ⟨by decide, B, rfl, rfl, rfl, ?_, ?_, ?_⟩⟩, (hW.setCell (Nat.le_refl _) _).setCell (Nat.le_refl _) _⟩
  · simpa using hB1
  · rw [set_other _ _ _ _ _ _ (by omega), set_other _ _ _ _ _ _ (by omega)]; exact c0
  · rw [set_other _ _ _ _ _ _ (by omega), set_other _ _ _ _ _ _ (by omega)]; exact c1
set_option maxHeartbeats 1000000 in
theorem rkeep_miss (op v : Int) (w : World) (h : op < 18 ∨ 21 < op) : Calls Try.prog 20 #[.int .i64 op, .int .u64 v] w fun e w' => (∃ p l c, e = .returned (.tuple #[.int .u64 (0), .agg #[.slice p l c, .int .i64 40]]) ∧ RefIn w' p l c 40) ∧ Below w.heap.size w w' := by
  have cm := fun w => store_miss op w h
  clear h
  go_enter Try.func20, Try.ntmps20
  go_wp2_with fail
  refine (cm _).mono ?_; rintro e w0 ⟨rfl, rfl⟩
  clear cm
  go_wp2_with fail
  refine (no_any 40 _).mono ?_; rintro e w1 ⟨⟨B, hB0, hB1, rfl, c0, c1⟩, hb⟩
  have hz := hb.size
  simp only [World.size_alloc] at hz hB0
  have hy : w.heap.size < w1.heap.size := by omega
  have k0 : w1.cell? ⟨w.heap.size, 0, .none⟩ = some (.slice .none 0 0) := (hb.cell (by simp only [World.size_alloc]; omega)).trans (by simp)
  have k1 : w1.cell? ⟨w.heap.size, 1, .none⟩ = some (.int .i64 0) := (hb.cell (by simp only [World.size_alloc]; omega)).trans (by simp)
  have f0 : w1.frozen? ⟨w.heap.size, 0, .none⟩ = false := (hb.frozen (by simp only [World.size_alloc]; omega)).trans (by simp)
  have f1 : w1.frozen? ⟨w.heap.size, 1, .none⟩ = false := (hb.frozen (by simp only [World.size_alloc]; omega)).trans (by simp)
  have hW : Below w.heap.size w w1 := (below_past _ _).trans (hb.mono (by simp only [World.size_alloc]; omega))
  go_wp2
  refine bodyPost_ret (v := .tuple #[.int .u64 0, .agg #[.slice (some ⟨B, 0, .none⟩) 1 1, .int .i64 40]]) (by simp [results, Try.results20, go_sem, hy, k0, k1]) rfl ⟨⟨_, _, _, rfl, .inr ⟨by decide, B, rfl, rfl, rfl, ?_, ?_, ?_⟩⟩, (hW.setCell (Nat.le_refl _) _).setCell (Nat.le_refl _) _⟩
  · simpa using hB1
  · rw [set_other _ _ _ _ _ _ (by omega), set_other _ _ _ _ _ _ (by omega)]; exact c0
  · rw [set_other _ _ _ _ _ _ (by omega), set_other _ _ _ _ _ _ (by omega)]; exact c1
theorem rbytes0 (w : World) : Calls Try.prog 21 #[.int .i64 11] w fun e w' => e = .returned (.int .i64 1) ∧ Below w.heap.size w w' := by
  go_enter Try.func21, Try.ntmps21
  go_wp2_with fail
  refine (load0 _).mono ?_; rintro e w1 ⟨rfl, rfl⟩
  go_wp2_with fail
  refine (store_miss 11 _ (by decide)).mono ?_; rintro e w1 ⟨rfl, rfl⟩
  go_wp2
  go_ret
  exact ⟨rfl, Below.refl _ _⟩
theorem rbytes1 (w : World) : Calls Try.prog 21 #[.int .i64 12] w fun e w' => e = .returned (.int .i64 2) ∧ Below w.heap.size w w' := by
  go_enter Try.func21, Try.ntmps21
  go_wp2_with fail
  refine (load1 _).mono ?_; rintro e w1 ⟨rfl, rfl⟩
  go_wp2_with fail
  refine (store_miss 12 _ (by decide)).mono ?_; rintro e w1 ⟨rfl, rfl⟩
  go_wp2
  go_ret
  exact ⟨rfl, Below.refl _ _⟩
theorem rbytes2 (w : World) : Calls Try.prog 21 #[.int .i64 13] w fun e w' => e = .returned (.int .i64 4) ∧ Below w.heap.size w w' := by
  go_enter Try.func21, Try.ntmps21
  go_wp2_with fail
  refine (load2 _).mono ?_; rintro e w1 ⟨rfl, rfl⟩
  go_wp2_with fail
  refine (store_miss 13 _ (by decide)).mono ?_; rintro e w1 ⟨rfl, rfl⟩
  go_wp2
  go_ret
  exact ⟨rfl, Below.refl _ _⟩
theorem rbytes3 (w : World) : Calls Try.prog 21 #[.int .i64 14] w fun e w' => e = .returned (.int .i64 8) ∧ Below w.heap.size w w' := by
  go_enter Try.func21, Try.ntmps21
  go_wp2_with fail
  refine (load3 _).mono ?_; rintro e w1 ⟨rfl, rfl⟩
  go_wp2_with fail
  refine (store_miss 14 _ (by decide)).mono ?_; rintro e w1 ⟨rfl, rfl⟩
  go_wp2
  go_ret
  exact ⟨rfl, Below.refl _ _⟩
theorem rbytes4 (w : World) : Calls Try.prog 21 #[.int .i64 15] w fun e w' => e = .returned (.int .i64 1) ∧ Below w.heap.size w w' := by
  go_enter Try.func21, Try.ntmps21
  go_wp2_with fail
  refine (load4 _).mono ?_; rintro e w1 ⟨rfl, rfl⟩
  go_wp2_with fail
  refine (store_miss 15 _ (by decide)).mono ?_; rintro e w1 ⟨rfl, rfl⟩
  go_wp2
  go_ret
  exact ⟨rfl, Below.refl _ _⟩
theorem rbytes5 (w : World) : Calls Try.prog 21 #[.int .i64 16] w fun e w' => e = .returned (.int .i64 2) ∧ Below w.heap.size w w' := by
  go_enter Try.func21, Try.ntmps21
  go_wp2_with fail
  refine (load5 _).mono ?_; rintro e w1 ⟨rfl, rfl⟩
  go_wp2_with fail
  refine (store_miss 16 _ (by decide)).mono ?_; rintro e w1 ⟨rfl, rfl⟩
  go_wp2
  go_ret
  exact ⟨rfl, Below.refl _ _⟩
theorem rbytes6 (w : World) : Calls Try.prog 21 #[.int .i64 17] w fun e w' => e = .returned (.int .i64 4) ∧ Below w.heap.size w w' := by
  go_enter Try.func21, Try.ntmps21
  go_wp2_with fail
  refine (load6 _).mono ?_; rintro e w1 ⟨rfl, rfl⟩
  go_wp2_with fail
  refine (store_miss 17 _ (by decide)).mono ?_; rintro e w1 ⟨rfl, rfl⟩
  go_wp2
  go_ret
  exact ⟨rfl, Below.refl _ _⟩
theorem rbytes7 (w : World) : Calls Try.prog 21 #[.int .i64 18] w fun e w' => e = .returned (.int .i64 1) ∧ Below w.heap.size w w' := by
  go_enter Try.func21, Try.ntmps21
  go_wp2_with fail
  refine (load_miss 18 _ (by decide)).mono ?_; rintro e w1 ⟨rfl, rfl⟩
  go_wp2_with fail
  refine (store0 _).mono ?_; rintro e w1 ⟨rfl, rfl⟩
  go_wp2
  go_ret
  exact ⟨rfl, Below.refl _ _⟩
theorem rbytes8 (w : World) : Calls Try.prog 21 #[.int .i64 19] w fun e w' => e = .returned (.int .i64 2) ∧ Below w.heap.size w w' := by
  go_enter Try.func21, Try.ntmps21
  go_wp2_with fail
  refine (load_miss 19 _ (by decide)).mono ?_; rintro e w1 ⟨rfl, rfl⟩
  go_wp2_with fail
  refine (store1 _).mono ?_; rintro e w1 ⟨rfl, rfl⟩
  go_wp2
  go_ret
  exact ⟨rfl, Below.refl _ _⟩
theorem rbytes9 (w : World) : Calls Try.prog 21 #[.int .i64 20] w fun e w' => e = .returned (.int .i64 4) ∧ Below w.heap.size w w' := by
  go_enter Try.func21, Try.ntmps21
  go_wp2_with fail
  refine (load_miss 20 _ (by decide)).mono ?_; rintro e w1 ⟨rfl, rfl⟩
  go_wp2_with fail
  refine (store2 _).mono ?_; rintro e w1 ⟨rfl, rfl⟩
  go_wp2
  go_ret
  exact ⟨rfl, Below.refl _ _⟩
theorem rbytes10 (w : World) : Calls Try.prog 21 #[.int .i64 21] w fun e w' => e = .returned (.int .i64 8) ∧ Below w.heap.size w w' := by
  go_enter Try.func21, Try.ntmps21
  go_wp2_with fail
  refine (load_miss 21 _ (by decide)).mono ?_; rintro e w1 ⟨rfl, rfl⟩
  go_wp2_with fail
  refine (store3 _).mono ?_; rintro e w1 ⟨rfl, rfl⟩
  go_wp2
  go_ret
  exact ⟨rfl, Below.refl _ _⟩
theorem rbytes_miss (op : Int) (w : World) (h : op < 11 ∨ 21 < op) : Calls Try.prog 21 #[.int .i64 op] w fun e w' => e = .returned (.int .i64 0) ∧ Below w.heap.size w w' := by
  have c := fun w => load_miss op w (by omega)
  have d := fun w => store_miss op w (by omega)
  clear h
  go_enter Try.func21, Try.ntmps21
  go_wp2_with fail
  refine (c _).mono ?_; rintro e w1 ⟨rfl, rfl⟩
  go_wp2_with fail
  refine (d _).mono ?_; rintro e w1 ⟨rfl, rfl⟩
  go_wp2
  go_ret
  exact ⟨rfl, Below.refl _ _⟩
end Go.Proofs.Ythdahigckflohaa
