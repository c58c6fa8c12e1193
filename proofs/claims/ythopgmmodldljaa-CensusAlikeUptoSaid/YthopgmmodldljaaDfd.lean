import Derived.Test.YthopgmmodldljaaDfl
namespace Go.Proofs.Ythopgmmodldljaa
open Go Go.RowKit
set_option linter.unusedVariables false
set_option linter.unusedSimpArgs false
set_option maxRecDepth 100000 in
set_option maxHeartbeats 4000000 in
theorem proc50_10 {w : World} {X Y : Nat} (hX : X ≤ w.heap.size) (hY : Y ≤ w.heap.size) (p q : Pc) (np1 gp1 np2 gp2 : Option Addr) (n m g h nc1 gc1 nc2 gc2 : Nat) (hn : n = p.nodes.length) (hm : m = q.nodes.length) (hb1 : p.pages.length ≤ 10000000) (hb2 : q.pages.length ≤ 10000000) (hG1 : Gs w X (.slice gp1 g gc1) p.pages) (hG2 : Gs w Y (.slice gp2 h gc2) q.pages) (h0 : (p.c 0 == q.c 0) = true) (h1 : (p.c 1 == q.c 1) = true) (h2 : (p.c 2 == q.c 2) = true) (h3 : (p.c 3 == q.c 3) = true) (h4 : chB p.c q.c = true) (h5 : (p.kil == q.kil) = true) (h6 : (p.c 7 == q.c 7) = true) (h7 : rgB p.c q.c = true) (h8 : (p.c 41 == q.c 41) = true) (h9 : fdB p.c q.c = true) (h10 : (p.c 62 == q.c 62) = false) : Calls Try.prog 50 #[.agg (p.l (.slice np1 n nc1) (.slice gp1 g gc1)).toArray, .agg (q.l (.slice np2 m nc2) (.slice gp2 h gc2)).toArray] w fun e w' => e = .returned (.bool (cmP p q)) ∧ Below w.heap.size w w' := by
  have eg : g = p.pages.length := by obtain ⟨_, _, e⟩ := hG1.form; injection e
  have eh : h = q.pages.length := by obtain ⟨_, _, e⟩ := hG2.form; injection e
  have HG : Hid (Gs w X (.slice gp1 g gc1) p.pages ∧ Gs w Y (.slice gp2 h gc2) q.pages ∧ g = p.pages.length ∧ h = q.pages.length ∧ X ≤ w.heap.size ∧ Y ≤ w.heap.size) := ⟨hG1, hG2, eg, eh, hX, hY⟩
  have bg : g ≤ 10000000 := by omega
  have bh : h ≤ 10000000 := by omega
  obtain ⟨cb, hcb⟩ : ∃ b, b = cmP p q := ⟨_, rfl⟩
  rw [← hcb]
  have HC : Hid (cb = (((((((((((p.c 0 == q.c 0) && (p.c 1 == q.c 1)) && (p.c 2 == q.c 2)) && (p.c 3 == q.c 3)) && chB p.c q.c) && (p.kil == q.kil)) && (p.c 7 == q.c 7)) && rgB p.c q.c) && (p.c 41 == q.c 41)) && ((((fdB p.c q.c && (p.c 62 == q.c 62)) && (p.inC == q.inC)) && peB p.c q.c) && ((n : Int) == (m : Int)))) && allB pgB p.pages q.pages)) := by show _ = _; rw [hcb, hn, hm]; rfl
  clear hcb hn hm hG1 hG2 hb1 hb2 eg eh hX hY
  have g45 : ∀ op x y xs ys (w : World), (eqGuard op 45 x y (.agg xs) (.agg ys)).run Try.prog w = .ok () w := fun op x y xs ys w => run_eqGuard_agg w op 45 x y xs ys (by kernel_rfl)
  have g48 : ∀ op x y xs ys (w : World), (eqGuard op 48 x y (.agg xs) (.agg ys)).run Try.prog w = .ok () w := fun op x y xs ys w => run_eqGuard_agg w op 48 x y xs ys (by kernel_rfl)
  have g50 : ∀ op x y xs ys (w : World), (eqGuard op 50 x y (.agg xs) (.agg ys)).run Try.prog w = .ok () w := fun op x y xs ys w => run_eqGuard_agg w op 50 x y xs ys (by kernel_rfl)
  have g53 : ∀ op x y xs ys (w : World), (eqGuard op 53 x y (.agg xs) (.agg ys)).run Try.prog w = .ok () w := fun op x y xs ys w => run_eqGuard_agg w op 53 x y xs ys (by kernel_rfl)
  have n0 : (p.c 0 != q.c 0) = false := by simp [bne, h0]
  have n1 : (p.c 1 != q.c 1) = false := by simp [bne, h1]
  have n2 : (p.c 2 != q.c 2) = false := by simp [bne, h2]
  have n3 : (p.c 3 != q.c 3) = false := by simp [bne, h3]
  have n4 : ∀ w : World, (binOp .neq 45 (.agg (chL p.c).toArray) (.agg (chL q.c).toArray)).run Try.prog w = .ok (.bool false) w := fun w => by rw [show false = !chB p.c q.c by rw [h4]; rfl]; exact eqv_neq (eq_chan 9997 _ _ _ _) w
  have n5 : p.kil = q.kil := by simpa using h5
  have n6 : (p.c 7 != q.c 7) = false := by simp [bne, h6]
  have n7 : ∀ w : World, (binOp .neq 48 (.agg (regL p.c).toArray) (.agg (regL q.c).toArray)).run Try.prog w = .ok (.bool false) w := fun w => by rw [show false = !rgB p.c q.c by rw [h7]; rfl]; exact eqv_neq (eq_regs 9997 _ _) w
  have n8 : (p.c 41 != q.c 41) = false := by simp [bne, h8]
  have n9 : ∀ w : World, (binOp .neq 50 (.agg (fdL p.c).toArray) (.agg (fdL q.c).toArray)).run Try.prog w = .ok (.bool false) w := fun w => by rw [show false = !fdB p.c q.c by rw [h9]; rfl]; exact eqv_neq (eq_fds 9998 _ _) w
  have n10 : (p.c 62 != q.c 62) = true := by simp [bne, h10]
  have HR : Hid (cb = false) := by show _ = _; rw [HC.out, h0, h1, h2, h3, h4, h5, h6, h7, h8, h9, h10]; first | rfl | simp
  clear HC h0 h1 h2 h3 h4 h5 h6 h7 h8 h9 h10
  go_enter Try.func50, Try.ntmps50
  go_upto_region 1 with (first
    | (refine wpList_is (.box 55 (.tmp 0)) rfl ?_; refine wpList_boxG 55 (p.l (.slice np1 n nc1) (.slice gp1 g gc1)) 2 (.tmp 0) _ rfl rfl rfl rfl ?_; intro W1 hW1 hB1 hs1)
    | (refine wpList_is (.box 55 (.tmp 1)) rfl ?_; refine wpList_boxG 55 (q.l (.slice np2 m nc2) (.slice gp2 h gc2)) 3 (.tmp 1) _ rfl rfl rfl rfl ?_; intro W2 hW2 hB2 hs2; rw [hs1] at hW2 hs2 ⊢)
    | fail)
  have r1 : W2.rangeAt w.heap.size 0 (p.l (.slice np1 n nc1) (.slice gp1 g gc1)) := range_keep (range_heap hW1) hB2 (by omega)
  have r2 : W2.rangeAt (w.heap.size + 1) 0 (q.l (.slice np2 m nc2) (.slice gp2 h gc2)) := range_heap hW2
  have HB : Hid (Below w.heap.size w W2 ∧ W2.heap.size = w.heap.size + 2) := ⟨hB1.trans (hB2.mono (by omega)), by omega⟩
  clear hW1 hW2 hB1 hB2 hs1 hs2
  have a0 : W2.cell? ⟨w.heap.size, 0, .none⟩ = some (.int .i64 (p.c 0)) := by have := r1 0 _ rfl; rw [Nat.zero_add] at this; exact this
  have a1 : W2.cell? ⟨w.heap.size, 1, .none⟩ = some (.int .i64 (p.c 1)) := by have := r1 1 _ rfl; rw [Nat.zero_add] at this; exact this
  have a2 : W2.cell? ⟨w.heap.size, 2, .none⟩ = some (.int .i64 (p.c 2)) := by have := r1 2 _ rfl; rw [Nat.zero_add] at this; exact this
  have a3 : W2.cell? ⟨w.heap.size, 3, .none⟩ = some (.int .i64 (p.c 3)) := by have := r1 3 _ rfl; rw [Nat.zero_add] at this; exact this
  have a7 : W2.cell? ⟨w.heap.size, 7, .none⟩ = some (.int .i32 (p.c 7)) := by have := r1 7 _ rfl; rw [Nat.zero_add] at this; exact this
  have a41 : W2.cell? ⟨w.heap.size, 41, .none⟩ = some (.int .u64 (p.c 41)) := by have := r1 41 _ rfl; rw [Nat.zero_add] at this; exact this
  have a62 : W2.cell? ⟨w.heap.size, 62, .none⟩ = some (.int .i64 (p.c 62)) := by have := r1 62 _ rfl; rw [Nat.zero_add] at this; exact this
  have a6 : W2.cell? ⟨w.heap.size, 6, .none⟩ = some (.bool p.kil) := by have := r1 6 _ rfl; rw [Nat.zero_add] at this; exact this
  have a63 : W2.cell? ⟨w.heap.size, 63, .none⟩ = some (.bool p.inC) := by have := r1 63 _ rfl; rw [Nat.zero_add] at this; exact this
  have a44 : W2.cell? ⟨w.heap.size, 44, .none⟩ = some (.slice np1 n nc1) := by have := r1 44 _ rfl; rw [Nat.zero_add] at this; exact this
  have a45 : W2.cell? ⟨w.heap.size, 45, .none⟩ = some (.slice gp1 g gc1) := by have := r1 45 _ rfl; rw [Nat.zero_add] at this; exact this
  have ra4 : W2.rangeAt (w.heap.size) 4 (chL p.c) := by have := range_sub (k := 4) r1 (sub_of (s := chL p.c) rfl); simpa using this
  have ra8 : W2.rangeAt (w.heap.size) 8 (regL p.c) := by have := range_sub (k := 8) r1 (sub_of (s := regL p.c) rfl); simpa using this
  have ra46 : W2.rangeAt (w.heap.size) 46 (fdL p.c) := by have := range_sub (k := 46) r1 (sub_of (s := fdL p.c) rfl); simpa using this
  have ra64 : W2.rangeAt (w.heap.size) 64 (penL p.c) := by have := range_sub (k := 64) r1 (sub_of (s := penL p.c) rfl); simpa using this
  have b0 : W2.cell? ⟨w.heap.size + 1, 0, .none⟩ = some (.int .i64 (q.c 0)) := by have := r2 0 _ rfl; rw [Nat.zero_add] at this; exact this
  have b1 : W2.cell? ⟨w.heap.size + 1, 1, .none⟩ = some (.int .i64 (q.c 1)) := by have := r2 1 _ rfl; rw [Nat.zero_add] at this; exact this
  have b2 : W2.cell? ⟨w.heap.size + 1, 2, .none⟩ = some (.int .i64 (q.c 2)) := by have := r2 2 _ rfl; rw [Nat.zero_add] at this; exact this
  have b3 : W2.cell? ⟨w.heap.size + 1, 3, .none⟩ = some (.int .i64 (q.c 3)) := by have := r2 3 _ rfl; rw [Nat.zero_add] at this; exact this
  have b7 : W2.cell? ⟨w.heap.size + 1, 7, .none⟩ = some (.int .i32 (q.c 7)) := by have := r2 7 _ rfl; rw [Nat.zero_add] at this; exact this
  have b41 : W2.cell? ⟨w.heap.size + 1, 41, .none⟩ = some (.int .u64 (q.c 41)) := by have := r2 41 _ rfl; rw [Nat.zero_add] at this; exact this
  have b62 : W2.cell? ⟨w.heap.size + 1, 62, .none⟩ = some (.int .i64 (q.c 62)) := by have := r2 62 _ rfl; rw [Nat.zero_add] at this; exact this
  have b6 : W2.cell? ⟨w.heap.size + 1, 6, .none⟩ = some (.bool q.kil) := by have := r2 6 _ rfl; rw [Nat.zero_add] at this; exact this
  have b63 : W2.cell? ⟨w.heap.size + 1, 63, .none⟩ = some (.bool q.inC) := by have := r2 63 _ rfl; rw [Nat.zero_add] at this; exact this
  have b44 : W2.cell? ⟨w.heap.size + 1, 44, .none⟩ = some (.slice np2 m nc2) := by have := r2 44 _ rfl; rw [Nat.zero_add] at this; exact this
  have b45 : W2.cell? ⟨w.heap.size + 1, 45, .none⟩ = some (.slice gp2 h gc2) := by have := r2 45 _ rfl; rw [Nat.zero_add] at this; exact this
  have rb4 : W2.rangeAt (w.heap.size + 1) 4 (chL q.c) := by have := range_sub (k := 4) r2 (sub_of (s := chL q.c) rfl); simpa using this
  have rb8 : W2.rangeAt (w.heap.size + 1) 8 (regL q.c) := by have := range_sub (k := 8) r2 (sub_of (s := regL q.c) rfl); simpa using this
  have rb46 : W2.rangeAt (w.heap.size + 1) 46 (fdL q.c) := by have := range_sub (k := 46) r2 (sub_of (s := fdL q.c) rfl); simpa using this
  have rb64 : W2.rangeAt (w.heap.size + 1) 64 (penL q.c) := by have := range_sub (k := 64) r2 (sub_of (s := penL q.c) rfl); simpa using this
  clear r1 r2 HG
  go_cut [66] (fun s wc => s = .bool false ∧ wc = W2)
  case first =>
    go_wp2_with (first
      | (refine wpList_is (.load 45 (.tmp 33)) rfl ?_; refine wpList_loadW 45 _ Try.underlying45 rfl (chL p.c) (by kernel_rfl) (w.heap.size) 4 (.tmp 33) rfl rfl rfl ra4 (some 34) rfl ?_)
      | (refine wpList_is (.load 45 (.tmp 35)) rfl ?_; refine wpList_loadW 45 _ Try.underlying45 rfl (chL q.c) (by kernel_rfl) (w.heap.size + 1) 4 (.tmp 35) rfl rfl rfl rb4 (some 36) rfl ?_)
      | (refine wpList_is (.binOp .neq 45 (.tmp 34) (.tmp 36) 45) rfl ?_; refine wpList_neqG 45 (.tmp 34) (.tmp 36) (chL p.c).toArray (chL q.c).toArray false rfl rfl rfl rfl (fun w => g45 _ _ _ _ _ w) n4 (some 37) rfl ?_; simp only [Act.put, List.setIfInBounds_toArray, List.set_cons_zero, List.set_cons_succ]; clear n4 g45)
      | (refine wpList_is (.load 48 (.tmp 54)) rfl ?_; refine wpList_loadW 48 _ Try.underlying48 rfl (regL p.c) (by kernel_rfl) (w.heap.size) 8 (.tmp 54) rfl rfl rfl ra8 (some 55) rfl ?_)
      | (refine wpList_is (.load 48 (.tmp 56)) rfl ?_; refine wpList_loadW 48 _ Try.underlying48 rfl (regL q.c) (by kernel_rfl) (w.heap.size + 1) 8 (.tmp 56) rfl rfl rfl rb8 (some 57) rfl ?_)
      | (refine wpList_is (.binOp .neq 48 (.tmp 55) (.tmp 57) 48) rfl ?_; refine wpList_neqG 48 (.tmp 55) (.tmp 57) (regL p.c).toArray (regL q.c).toArray false rfl rfl rfl rfl (fun w => g48 _ _ _ _ _ w) n7 (some 58) rfl ?_; simp only [Act.put, List.setIfInBounds_toArray, List.set_cons_zero, List.set_cons_succ]; clear n7 g48)
      | fail)
    go_meet
    case rel => exact ⟨rfl, rfl⟩
  case rest =>
    obtain ⟨rfl, hwc⟩ := hcut
    rw [hwc]
    clear hwc
    clear n0 n1 n2 n3 n4 n5 n6 n7 n8 a0 a1 a2 a3 a7 a41 a6 b0 b1 b2 b3 b7 b41 b6 ra4 rb4 ra8 rb8 g45 g48
    go_wp2_with (first
      | (refine wpList_is (.load 50 (.tmp 67)) rfl ?_; refine wpList_loadW 50 _ Try.underlying50 rfl (fdL p.c) (by kernel_rfl) (w.heap.size) 46 (.tmp 67) rfl rfl rfl ra46 (some 68) rfl ?_)
      | (refine wpList_is (.load 50 (.tmp 69)) rfl ?_; refine wpList_loadW 50 _ Try.underlying50 rfl (fdL q.c) (by kernel_rfl) (w.heap.size + 1) 46 (.tmp 69) rfl rfl rfl rb46 (some 70) rfl ?_)
      | (refine wpList_is (.binOp .neq 50 (.tmp 68) (.tmp 70) 50) rfl ?_; generalize hQQ : (wpList _ _ _ _ _ _) = QQ)
      | fail)
    rw [← hQQ]
    refine wpList_neqG 50 (.tmp 68) (.tmp 70) (fdL p.c).toArray (fdL q.c).toArray false rfl rfl rfl rfl (fun w => g50 _ _ _ _ _ w) n9 (some 71) rfl ?_
    clear hQQ QQ n9 g50 ra46 rb46
    simp only [Act.put, List.setIfInBounds_toArray, List.set_cons_zero, List.set_cons_succ]
    clear ra64 rb64 g53
    go_wp2
    go_ret
    exact ⟨by rw [HR.out]; rfl, HB.out.1⟩
set_option maxRecDepth 100000 in
set_option maxHeartbeats 4000000 in
theorem proc50_11 {w : World} {X Y : Nat} (hX : X ≤ w.heap.size) (hY : Y ≤ w.heap.size) (p q : Pc) (np1 gp1 np2 gp2 : Option Addr) (n m g h nc1 gc1 nc2 gc2 : Nat) (hn : n = p.nodes.length) (hm : m = q.nodes.length) (hb1 : p.pages.length ≤ 10000000) (hb2 : q.pages.length ≤ 10000000) (hG1 : Gs w X (.slice gp1 g gc1) p.pages) (hG2 : Gs w Y (.slice gp2 h gc2) q.pages) (h0 : (p.c 0 == q.c 0) = true) (h1 : (p.c 1 == q.c 1) = true) (h2 : (p.c 2 == q.c 2) = true) (h3 : (p.c 3 == q.c 3) = true) (h4 : chB p.c q.c = true) (h5 : (p.kil == q.kil) = true) (h6 : (p.c 7 == q.c 7) = true) (h7 : rgB p.c q.c = true) (h8 : (p.c 41 == q.c 41) = true) (h9 : fdB p.c q.c = true) (h10 : (p.c 62 == q.c 62) = true) (h11 : (p.inC == q.inC) = false) : Calls Try.prog 50 #[.agg (p.l (.slice np1 n nc1) (.slice gp1 g gc1)).toArray, .agg (q.l (.slice np2 m nc2) (.slice gp2 h gc2)).toArray] w fun e w' => e = .returned (.bool (cmP p q)) ∧ Below w.heap.size w w' := by
  have eg : g = p.pages.length := by obtain ⟨_, _, e⟩ := hG1.form; injection e
  have eh : h = q.pages.length := by obtain ⟨_, _, e⟩ := hG2.form; injection e
  have HG : Hid (Gs w X (.slice gp1 g gc1) p.pages ∧ Gs w Y (.slice gp2 h gc2) q.pages ∧ g = p.pages.length ∧ h = q.pages.length ∧ X ≤ w.heap.size ∧ Y ≤ w.heap.size) := ⟨hG1, hG2, eg, eh, hX, hY⟩
  have bg : g ≤ 10000000 := by omega
  have bh : h ≤ 10000000 := by omega
  obtain ⟨cb, hcb⟩ : ∃ b, b = cmP p q := ⟨_, rfl⟩
  rw [← hcb]
  have HC : Hid (cb = (((((((((((p.c 0 == q.c 0) && (p.c 1 == q.c 1)) && (p.c 2 == q.c 2)) && (p.c 3 == q.c 3)) && chB p.c q.c) && (p.kil == q.kil)) && (p.c 7 == q.c 7)) && rgB p.c q.c) && (p.c 41 == q.c 41)) && ((((fdB p.c q.c && (p.c 62 == q.c 62)) && (p.inC == q.inC)) && peB p.c q.c) && ((n : Int) == (m : Int)))) && allB pgB p.pages q.pages)) := by show _ = _; rw [hcb, hn, hm]; rfl
  clear hcb hn hm hG1 hG2 hb1 hb2 eg eh hX hY
  have g45 : ∀ op x y xs ys (w : World), (eqGuard op 45 x y (.agg xs) (.agg ys)).run Try.prog w = .ok () w := fun op x y xs ys w => run_eqGuard_agg w op 45 x y xs ys (by kernel_rfl)
  have g48 : ∀ op x y xs ys (w : World), (eqGuard op 48 x y (.agg xs) (.agg ys)).run Try.prog w = .ok () w := fun op x y xs ys w => run_eqGuard_agg w op 48 x y xs ys (by kernel_rfl)
  have g50 : ∀ op x y xs ys (w : World), (eqGuard op 50 x y (.agg xs) (.agg ys)).run Try.prog w = .ok () w := fun op x y xs ys w => run_eqGuard_agg w op 50 x y xs ys (by kernel_rfl)
  have g53 : ∀ op x y xs ys (w : World), (eqGuard op 53 x y (.agg xs) (.agg ys)).run Try.prog w = .ok () w := fun op x y xs ys w => run_eqGuard_agg w op 53 x y xs ys (by kernel_rfl)
  have n0 : (p.c 0 != q.c 0) = false := by simp [bne, h0]
  have n1 : (p.c 1 != q.c 1) = false := by simp [bne, h1]
  have n2 : (p.c 2 != q.c 2) = false := by simp [bne, h2]
  have n3 : (p.c 3 != q.c 3) = false := by simp [bne, h3]
  have n4 : ∀ w : World, (binOp .neq 45 (.agg (chL p.c).toArray) (.agg (chL q.c).toArray)).run Try.prog w = .ok (.bool false) w := fun w => by rw [show false = !chB p.c q.c by rw [h4]; rfl]; exact eqv_neq (eq_chan 9997 _ _ _ _) w
  have n5 : p.kil = q.kil := by simpa using h5
  have n6 : (p.c 7 != q.c 7) = false := by simp [bne, h6]
  have n7 : ∀ w : World, (binOp .neq 48 (.agg (regL p.c).toArray) (.agg (regL q.c).toArray)).run Try.prog w = .ok (.bool false) w := fun w => by rw [show false = !rgB p.c q.c by rw [h7]; rfl]; exact eqv_neq (eq_regs 9997 _ _) w
  have n8 : (p.c 41 != q.c 41) = false := by simp [bne, h8]
  have n9 : ∀ w : World, (binOp .neq 50 (.agg (fdL p.c).toArray) (.agg (fdL q.c).toArray)).run Try.prog w = .ok (.bool false) w := fun w => by rw [show false = !fdB p.c q.c by rw [h9]; rfl]; exact eqv_neq (eq_fds 9998 _ _) w
  have n10 : (p.c 62 != q.c 62) = false := by simp [bne, h10]
  have n11 : ¬ p.inC = q.inC := by simpa using h11
  have HR : Hid (cb = false) := by show _ = _; rw [HC.out, h0, h1, h2, h3, h4, h5, h6, h7, h8, h9, h10, h11]; first | rfl | simp
  clear HC h0 h1 h2 h3 h4 h5 h6 h7 h8 h9 h10 h11
  go_enter Try.func50, Try.ntmps50
  go_upto_region 1 with (first
    | (refine wpList_is (.box 55 (.tmp 0)) rfl ?_; refine wpList_boxG 55 (p.l (.slice np1 n nc1) (.slice gp1 g gc1)) 2 (.tmp 0) _ rfl rfl rfl rfl ?_; intro W1 hW1 hB1 hs1)
    | (refine wpList_is (.box 55 (.tmp 1)) rfl ?_; refine wpList_boxG 55 (q.l (.slice np2 m nc2) (.slice gp2 h gc2)) 3 (.tmp 1) _ rfl rfl rfl rfl ?_; intro W2 hW2 hB2 hs2; rw [hs1] at hW2 hs2 ⊢)
    | fail)
  have r1 : W2.rangeAt w.heap.size 0 (p.l (.slice np1 n nc1) (.slice gp1 g gc1)) := range_keep (range_heap hW1) hB2 (by omega)
  have r2 : W2.rangeAt (w.heap.size + 1) 0 (q.l (.slice np2 m nc2) (.slice gp2 h gc2)) := range_heap hW2
  have HB : Hid (Below w.heap.size w W2 ∧ W2.heap.size = w.heap.size + 2) := ⟨hB1.trans (hB2.mono (by omega)), by omega⟩
  clear hW1 hW2 hB1 hB2 hs1 hs2
  have a0 : W2.cell? ⟨w.heap.size, 0, .none⟩ = some (.int .i64 (p.c 0)) := by have := r1 0 _ rfl; rw [Nat.zero_add] at this; exact this
  have a1 : W2.cell? ⟨w.heap.size, 1, .none⟩ = some (.int .i64 (p.c 1)) := by have := r1 1 _ rfl; rw [Nat.zero_add] at this; exact this
  have a2 : W2.cell? ⟨w.heap.size, 2, .none⟩ = some (.int .i64 (p.c 2)) := by have := r1 2 _ rfl; rw [Nat.zero_add] at this; exact this
  have a3 : W2.cell? ⟨w.heap.size, 3, .none⟩ = some (.int .i64 (p.c 3)) := by have := r1 3 _ rfl; rw [Nat.zero_add] at this; exact this
  have a7 : W2.cell? ⟨w.heap.size, 7, .none⟩ = some (.int .i32 (p.c 7)) := by have := r1 7 _ rfl; rw [Nat.zero_add] at this; exact this
  have a41 : W2.cell? ⟨w.heap.size, 41, .none⟩ = some (.int .u64 (p.c 41)) := by have := r1 41 _ rfl; rw [Nat.zero_add] at this; exact this
  have a62 : W2.cell? ⟨w.heap.size, 62, .none⟩ = some (.int .i64 (p.c 62)) := by have := r1 62 _ rfl; rw [Nat.zero_add] at this; exact this
  have a6 : W2.cell? ⟨w.heap.size, 6, .none⟩ = some (.bool p.kil) := by have := r1 6 _ rfl; rw [Nat.zero_add] at this; exact this
  have a63 : W2.cell? ⟨w.heap.size, 63, .none⟩ = some (.bool p.inC) := by have := r1 63 _ rfl; rw [Nat.zero_add] at this; exact this
  have a44 : W2.cell? ⟨w.heap.size, 44, .none⟩ = some (.slice np1 n nc1) := by have := r1 44 _ rfl; rw [Nat.zero_add] at this; exact this
  have a45 : W2.cell? ⟨w.heap.size, 45, .none⟩ = some (.slice gp1 g gc1) := by have := r1 45 _ rfl; rw [Nat.zero_add] at this; exact this
  have ra4 : W2.rangeAt (w.heap.size) 4 (chL p.c) := by have := range_sub (k := 4) r1 (sub_of (s := chL p.c) rfl); simpa using this
  have ra8 : W2.rangeAt (w.heap.size) 8 (regL p.c) := by have := range_sub (k := 8) r1 (sub_of (s := regL p.c) rfl); simpa using this
  have ra46 : W2.rangeAt (w.heap.size) 46 (fdL p.c) := by have := range_sub (k := 46) r1 (sub_of (s := fdL p.c) rfl); simpa using this
  have ra64 : W2.rangeAt (w.heap.size) 64 (penL p.c) := by have := range_sub (k := 64) r1 (sub_of (s := penL p.c) rfl); simpa using this
  have b0 : W2.cell? ⟨w.heap.size + 1, 0, .none⟩ = some (.int .i64 (q.c 0)) := by have := r2 0 _ rfl; rw [Nat.zero_add] at this; exact this
  have b1 : W2.cell? ⟨w.heap.size + 1, 1, .none⟩ = some (.int .i64 (q.c 1)) := by have := r2 1 _ rfl; rw [Nat.zero_add] at this; exact this
  have b2 : W2.cell? ⟨w.heap.size + 1, 2, .none⟩ = some (.int .i64 (q.c 2)) := by have := r2 2 _ rfl; rw [Nat.zero_add] at this; exact this
  have b3 : W2.cell? ⟨w.heap.size + 1, 3, .none⟩ = some (.int .i64 (q.c 3)) := by have := r2 3 _ rfl; rw [Nat.zero_add] at this; exact this
  have b7 : W2.cell? ⟨w.heap.size + 1, 7, .none⟩ = some (.int .i32 (q.c 7)) := by have := r2 7 _ rfl; rw [Nat.zero_add] at this; exact this
  have b41 : W2.cell? ⟨w.heap.size + 1, 41, .none⟩ = some (.int .u64 (q.c 41)) := by have := r2 41 _ rfl; rw [Nat.zero_add] at this; exact this
  have b62 : W2.cell? ⟨w.heap.size + 1, 62, .none⟩ = some (.int .i64 (q.c 62)) := by have := r2 62 _ rfl; rw [Nat.zero_add] at this; exact this
  have b6 : W2.cell? ⟨w.heap.size + 1, 6, .none⟩ = some (.bool q.kil) := by have := r2 6 _ rfl; rw [Nat.zero_add] at this; exact this
  have b63 : W2.cell? ⟨w.heap.size + 1, 63, .none⟩ = some (.bool q.inC) := by have := r2 63 _ rfl; rw [Nat.zero_add] at this; exact this
  have b44 : W2.cell? ⟨w.heap.size + 1, 44, .none⟩ = some (.slice np2 m nc2) := by have := r2 44 _ rfl; rw [Nat.zero_add] at this; exact this
  have b45 : W2.cell? ⟨w.heap.size + 1, 45, .none⟩ = some (.slice gp2 h gc2) := by have := r2 45 _ rfl; rw [Nat.zero_add] at this; exact this
  have rb4 : W2.rangeAt (w.heap.size + 1) 4 (chL q.c) := by have := range_sub (k := 4) r2 (sub_of (s := chL q.c) rfl); simpa using this
  have rb8 : W2.rangeAt (w.heap.size + 1) 8 (regL q.c) := by have := range_sub (k := 8) r2 (sub_of (s := regL q.c) rfl); simpa using this
  have rb46 : W2.rangeAt (w.heap.size + 1) 46 (fdL q.c) := by have := range_sub (k := 46) r2 (sub_of (s := fdL q.c) rfl); simpa using this
  have rb64 : W2.rangeAt (w.heap.size + 1) 64 (penL q.c) := by have := range_sub (k := 64) r2 (sub_of (s := penL q.c) rfl); simpa using this
  clear r1 r2 HG
  go_cut [66] (fun s wc => s = .bool false ∧ wc = W2)
  case first =>
    go_wp2_with (first
      | (refine wpList_is (.load 45 (.tmp 33)) rfl ?_; refine wpList_loadW 45 _ Try.underlying45 rfl (chL p.c) (by kernel_rfl) (w.heap.size) 4 (.tmp 33) rfl rfl rfl ra4 (some 34) rfl ?_)
      | (refine wpList_is (.load 45 (.tmp 35)) rfl ?_; refine wpList_loadW 45 _ Try.underlying45 rfl (chL q.c) (by kernel_rfl) (w.heap.size + 1) 4 (.tmp 35) rfl rfl rfl rb4 (some 36) rfl ?_)
      | (refine wpList_is (.binOp .neq 45 (.tmp 34) (.tmp 36) 45) rfl ?_; refine wpList_neqG 45 (.tmp 34) (.tmp 36) (chL p.c).toArray (chL q.c).toArray false rfl rfl rfl rfl (fun w => g45 _ _ _ _ _ w) n4 (some 37) rfl ?_; simp only [Act.put, List.setIfInBounds_toArray, List.set_cons_zero, List.set_cons_succ]; clear n4 g45)
      | (refine wpList_is (.load 48 (.tmp 54)) rfl ?_; refine wpList_loadW 48 _ Try.underlying48 rfl (regL p.c) (by kernel_rfl) (w.heap.size) 8 (.tmp 54) rfl rfl rfl ra8 (some 55) rfl ?_)
      | (refine wpList_is (.load 48 (.tmp 56)) rfl ?_; refine wpList_loadW 48 _ Try.underlying48 rfl (regL q.c) (by kernel_rfl) (w.heap.size + 1) 8 (.tmp 56) rfl rfl rfl rb8 (some 57) rfl ?_)
      | (refine wpList_is (.binOp .neq 48 (.tmp 55) (.tmp 57) 48) rfl ?_; refine wpList_neqG 48 (.tmp 55) (.tmp 57) (regL p.c).toArray (regL q.c).toArray false rfl rfl rfl rfl (fun w => g48 _ _ _ _ _ w) n7 (some 58) rfl ?_; simp only [Act.put, List.setIfInBounds_toArray, List.set_cons_zero, List.set_cons_succ]; clear n7 g48)
      | fail)
    go_meet
    case rel => exact ⟨rfl, rfl⟩
  case rest =>
    obtain ⟨rfl, hwc⟩ := hcut
    rw [hwc]
    clear hwc
    clear n0 n1 n2 n3 n4 n5 n6 n7 n8 a0 a1 a2 a3 a7 a41 a6 b0 b1 b2 b3 b7 b41 b6 ra4 rb4 ra8 rb8 g45 g48
    go_wp2_with (first
      | (refine wpList_is (.load 50 (.tmp 67)) rfl ?_; refine wpList_loadW 50 _ Try.underlying50 rfl (fdL p.c) (by kernel_rfl) (w.heap.size) 46 (.tmp 67) rfl rfl rfl ra46 (some 68) rfl ?_)
      | (refine wpList_is (.load 50 (.tmp 69)) rfl ?_; refine wpList_loadW 50 _ Try.underlying50 rfl (fdL q.c) (by kernel_rfl) (w.heap.size + 1) 46 (.tmp 69) rfl rfl rfl rb46 (some 70) rfl ?_)
      | (refine wpList_is (.binOp .neq 50 (.tmp 68) (.tmp 70) 50) rfl ?_; generalize hQQ : (wpList _ _ _ _ _ _) = QQ)
      | fail)
    rw [← hQQ]
    refine wpList_neqG 50 (.tmp 68) (.tmp 70) (fdL p.c).toArray (fdL q.c).toArray false rfl rfl rfl rfl (fun w => g50 _ _ _ _ _ w) n9 (some 71) rfl ?_
    clear hQQ QQ n9 g50 ra46 rb46
    simp only [Act.put, List.setIfInBounds_toArray, List.set_cons_zero, List.set_cons_succ]
    clear ra64 rb64 g53
    go_wp2
    go_ret
    exact ⟨by rw [HR.out]; rfl, HB.out.1⟩
set_option maxRecDepth 100000 in
set_option maxHeartbeats 4000000 in
theorem proc50_12 {w : World} {X Y : Nat} (hX : X ≤ w.heap.size) (hY : Y ≤ w.heap.size) (p q : Pc) (np1 gp1 np2 gp2 : Option Addr) (n m g h nc1 gc1 nc2 gc2 : Nat) (hn : n = p.nodes.length) (hm : m = q.nodes.length) (hb1 : p.pages.length ≤ 10000000) (hb2 : q.pages.length ≤ 10000000) (hG1 : Gs w X (.slice gp1 g gc1) p.pages) (hG2 : Gs w Y (.slice gp2 h gc2) q.pages) (h0 : (p.c 0 == q.c 0) = true) (h1 : (p.c 1 == q.c 1) = true) (h2 : (p.c 2 == q.c 2) = true) (h3 : (p.c 3 == q.c 3) = true) (h4 : chB p.c q.c = true) (h5 : (p.kil == q.kil) = true) (h6 : (p.c 7 == q.c 7) = true) (h7 : rgB p.c q.c = true) (h8 : (p.c 41 == q.c 41) = true) (h9 : fdB p.c q.c = true) (h10 : (p.c 62 == q.c 62) = true) (h11 : (p.inC == q.inC) = true) (h12 : peB p.c q.c = false) : Calls Try.prog 50 #[.agg (p.l (.slice np1 n nc1) (.slice gp1 g gc1)).toArray, .agg (q.l (.slice np2 m nc2) (.slice gp2 h gc2)).toArray] w fun e w' => e = .returned (.bool (cmP p q)) ∧ Below w.heap.size w w' := by
  have eg : g = p.pages.length := by obtain ⟨_, _, e⟩ := hG1.form; injection e
  have eh : h = q.pages.length := by obtain ⟨_, _, e⟩ := hG2.form; injection e
  have HG : Hid (Gs w X (.slice gp1 g gc1) p.pages ∧ Gs w Y (.slice gp2 h gc2) q.pages ∧ g = p.pages.length ∧ h = q.pages.length ∧ X ≤ w.heap.size ∧ Y ≤ w.heap.size) := ⟨hG1, hG2, eg, eh, hX, hY⟩
  have bg : g ≤ 10000000 := by omega
  have bh : h ≤ 10000000 := by omega
  obtain ⟨cb, hcb⟩ : ∃ b, b = cmP p q := ⟨_, rfl⟩
  rw [← hcb]
  have HC : Hid (cb = (((((((((((p.c 0 == q.c 0) && (p.c 1 == q.c 1)) && (p.c 2 == q.c 2)) && (p.c 3 == q.c 3)) && chB p.c q.c) && (p.kil == q.kil)) && (p.c 7 == q.c 7)) && rgB p.c q.c) && (p.c 41 == q.c 41)) && ((((fdB p.c q.c && (p.c 62 == q.c 62)) && (p.inC == q.inC)) && peB p.c q.c) && ((n : Int) == (m : Int)))) && allB pgB p.pages q.pages)) := by show _ = _; rw [hcb, hn, hm]; rfl
  clear hcb hn hm hG1 hG2 hb1 hb2 eg eh hX hY
  have g45 : ∀ op x y xs ys (w : World), (eqGuard op 45 x y (.agg xs) (.agg ys)).run Try.prog w = .ok () w := fun op x y xs ys w => run_eqGuard_agg w op 45 x y xs ys (by kernel_rfl)
  have g48 : ∀ op x y xs ys (w : World), (eqGuard op 48 x y (.agg xs) (.agg ys)).run Try.prog w = .ok () w := fun op x y xs ys w => run_eqGuard_agg w op 48 x y xs ys (by kernel_rfl)
  have g50 : ∀ op x y xs ys (w : World), (eqGuard op 50 x y (.agg xs) (.agg ys)).run Try.prog w = .ok () w := fun op x y xs ys w => run_eqGuard_agg w op 50 x y xs ys (by kernel_rfl)
  have g53 : ∀ op x y xs ys (w : World), (eqGuard op 53 x y (.agg xs) (.agg ys)).run Try.prog w = .ok () w := fun op x y xs ys w => run_eqGuard_agg w op 53 x y xs ys (by kernel_rfl)
  have n0 : (p.c 0 != q.c 0) = false := by simp [bne, h0]
  have n1 : (p.c 1 != q.c 1) = false := by simp [bne, h1]
  have n2 : (p.c 2 != q.c 2) = false := by simp [bne, h2]
  have n3 : (p.c 3 != q.c 3) = false := by simp [bne, h3]
  have n4 : ∀ w : World, (binOp .neq 45 (.agg (chL p.c).toArray) (.agg (chL q.c).toArray)).run Try.prog w = .ok (.bool false) w := fun w => by rw [show false = !chB p.c q.c by rw [h4]; rfl]; exact eqv_neq (eq_chan 9997 _ _ _ _) w
  have n5 : p.kil = q.kil := by simpa using h5
  have n6 : (p.c 7 != q.c 7) = false := by simp [bne, h6]
  have n7 : ∀ w : World, (binOp .neq 48 (.agg (regL p.c).toArray) (.agg (regL q.c).toArray)).run Try.prog w = .ok (.bool false) w := fun w => by rw [show false = !rgB p.c q.c by rw [h7]; rfl]; exact eqv_neq (eq_regs 9997 _ _) w
  have n8 : (p.c 41 != q.c 41) = false := by simp [bne, h8]
  have n9 : ∀ w : World, (binOp .neq 50 (.agg (fdL p.c).toArray) (.agg (fdL q.c).toArray)).run Try.prog w = .ok (.bool false) w := fun w => by rw [show false = !fdB p.c q.c by rw [h9]; rfl]; exact eqv_neq (eq_fds 9998 _ _) w
  have n10 : (p.c 62 != q.c 62) = false := by simp [bne, h10]
  have n11 : p.inC = q.inC := by simpa using h11
  have n12 : ∀ w : World, (binOp .neq 53 (.agg (penL p.c).toArray) (.agg (penL q.c).toArray)).run Try.prog w = .ok (.bool true) w := fun w => by rw [show true = !peB p.c q.c by rw [h12]; rfl]; exact eqv_neq (eq_pend 9997 _ _) w
  have HR : Hid (cb = false) := by show _ = _; rw [HC.out, h0, h1, h2, h3, h4, h5, h6, h7, h8, h9, h10, h11, h12]; first | rfl | simp
  clear HC h0 h1 h2 h3 h4 h5 h6 h7 h8 h9 h10 h11 h12
  go_enter Try.func50, Try.ntmps50
  go_upto_region 1 with (first
    | (refine wpList_is (.box 55 (.tmp 0)) rfl ?_; refine wpList_boxG 55 (p.l (.slice np1 n nc1) (.slice gp1 g gc1)) 2 (.tmp 0) _ rfl rfl rfl rfl ?_; intro W1 hW1 hB1 hs1)
    | (refine wpList_is (.box 55 (.tmp 1)) rfl ?_; refine wpList_boxG 55 (q.l (.slice np2 m nc2) (.slice gp2 h gc2)) 3 (.tmp 1) _ rfl rfl rfl rfl ?_; intro W2 hW2 hB2 hs2; rw [hs1] at hW2 hs2 ⊢)
    | fail)
  have r1 : W2.rangeAt w.heap.size 0 (p.l (.slice np1 n nc1) (.slice gp1 g gc1)) := range_keep (range_heap hW1) hB2 (by omega)
  have r2 : W2.rangeAt (w.heap.size + 1) 0 (q.l (.slice np2 m nc2) (.slice gp2 h gc2)) := range_heap hW2
  have HB : Hid (Below w.heap.size w W2 ∧ W2.heap.size = w.heap.size + 2) := ⟨hB1.trans (hB2.mono (by omega)), by omega⟩
  clear hW1 hW2 hB1 hB2 hs1 hs2
  have a0 : W2.cell? ⟨w.heap.size, 0, .none⟩ = some (.int .i64 (p.c 0)) := by have := r1 0 _ rfl; rw [Nat.zero_add] at this; exact this
  have a1 : W2.cell? ⟨w.heap.size, 1, .none⟩ = some (.int .i64 (p.c 1)) := by have := r1 1 _ rfl; rw [Nat.zero_add] at this; exact this
  have a2 : W2.cell? ⟨w.heap.size, 2, .none⟩ = some (.int .i64 (p.c 2)) := by have := r1 2 _ rfl; rw [Nat.zero_add] at this; exact this
  have a3 : W2.cell? ⟨w.heap.size, 3, .none⟩ = some (.int .i64 (p.c 3)) := by have := r1 3 _ rfl; rw [Nat.zero_add] at this; exact this
  have a7 : W2.cell? ⟨w.heap.size, 7, .none⟩ = some (.int .i32 (p.c 7)) := by have := r1 7 _ rfl; rw [Nat.zero_add] at this; exact this
  have a41 : W2.cell? ⟨w.heap.size, 41, .none⟩ = some (.int .u64 (p.c 41)) := by have := r1 41 _ rfl; rw [Nat.zero_add] at this; exact this
  have a62 : W2.cell? ⟨w.heap.size, 62, .none⟩ = some (.int .i64 (p.c 62)) := by have := r1 62 _ rfl; rw [Nat.zero_add] at this; exact this
  have a6 : W2.cell? ⟨w.heap.size, 6, .none⟩ = some (.bool p.kil) := by have := r1 6 _ rfl; rw [Nat.zero_add] at this; exact this
  have a63 : W2.cell? ⟨w.heap.size, 63, .none⟩ = some (.bool p.inC) := by have := r1 63 _ rfl; rw [Nat.zero_add] at this; exact this
  have a44 : W2.cell? ⟨w.heap.size, 44, .none⟩ = some (.slice np1 n nc1) := by have := r1 44 _ rfl; rw [Nat.zero_add] at this; exact this
  have a45 : W2.cell? ⟨w.heap.size, 45, .none⟩ = some (.slice gp1 g gc1) := by have := r1 45 _ rfl; rw [Nat.zero_add] at this; exact this
  have ra4 : W2.rangeAt (w.heap.size) 4 (chL p.c) := by have := range_sub (k := 4) r1 (sub_of (s := chL p.c) rfl); simpa using this
  have ra8 : W2.rangeAt (w.heap.size) 8 (regL p.c) := by have := range_sub (k := 8) r1 (sub_of (s := regL p.c) rfl); simpa using this
  have ra46 : W2.rangeAt (w.heap.size) 46 (fdL p.c) := by have := range_sub (k := 46) r1 (sub_of (s := fdL p.c) rfl); simpa using this
  have ra64 : W2.rangeAt (w.heap.size) 64 (penL p.c) := by have := range_sub (k := 64) r1 (sub_of (s := penL p.c) rfl); simpa using this
  have b0 : W2.cell? ⟨w.heap.size + 1, 0, .none⟩ = some (.int .i64 (q.c 0)) := by have := r2 0 _ rfl; rw [Nat.zero_add] at this; exact this
  have b1 : W2.cell? ⟨w.heap.size + 1, 1, .none⟩ = some (.int .i64 (q.c 1)) := by have := r2 1 _ rfl; rw [Nat.zero_add] at this; exact this
  have b2 : W2.cell? ⟨w.heap.size + 1, 2, .none⟩ = some (.int .i64 (q.c 2)) := by have := r2 2 _ rfl; rw [Nat.zero_add] at this; exact this
  have b3 : W2.cell? ⟨w.heap.size + 1, 3, .none⟩ = some (.int .i64 (q.c 3)) := by have := r2 3 _ rfl; rw [Nat.zero_add] at this; exact this
  have b7 : W2.cell? ⟨w.heap.size + 1, 7, .none⟩ = some (.int .i32 (q.c 7)) := by have := r2 7 _ rfl; rw [Nat.zero_add] at this; exact this
  have b41 : W2.cell? ⟨w.heap.size + 1, 41, .none⟩ = some (.int .u64 (q.c 41)) := by have := r2 41 _ rfl; rw [Nat.zero_add] at this; exact this
  have b62 : W2.cell? ⟨w.heap.size + 1, 62, .none⟩ = some (.int .i64 (q.c 62)) := by have := r2 62 _ rfl; rw [Nat.zero_add] at this; exact this
  have b6 : W2.cell? ⟨w.heap.size + 1, 6, .none⟩ = some (.bool q.kil) := by have := r2 6 _ rfl; rw [Nat.zero_add] at this; exact this
  have b63 : W2.cell? ⟨w.heap.size + 1, 63, .none⟩ = some (.bool q.inC) := by have := r2 63 _ rfl; rw [Nat.zero_add] at this; exact this
  have b44 : W2.cell? ⟨w.heap.size + 1, 44, .none⟩ = some (.slice np2 m nc2) := by have := r2 44 _ rfl; rw [Nat.zero_add] at this; exact this
  have b45 : W2.cell? ⟨w.heap.size + 1, 45, .none⟩ = some (.slice gp2 h gc2) := by have := r2 45 _ rfl; rw [Nat.zero_add] at this; exact this
  have rb4 : W2.rangeAt (w.heap.size + 1) 4 (chL q.c) := by have := range_sub (k := 4) r2 (sub_of (s := chL q.c) rfl); simpa using this
  have rb8 : W2.rangeAt (w.heap.size + 1) 8 (regL q.c) := by have := range_sub (k := 8) r2 (sub_of (s := regL q.c) rfl); simpa using this
  have rb46 : W2.rangeAt (w.heap.size + 1) 46 (fdL q.c) := by have := range_sub (k := 46) r2 (sub_of (s := fdL q.c) rfl); simpa using this
  have rb64 : W2.rangeAt (w.heap.size + 1) 64 (penL q.c) := by have := range_sub (k := 64) r2 (sub_of (s := penL q.c) rfl); simpa using this
  clear r1 r2 HG
  go_cut [66] (fun s wc => s = .bool false ∧ wc = W2)
  case first =>
    go_wp2_with (first
      | (refine wpList_is (.load 45 (.tmp 33)) rfl ?_; refine wpList_loadW 45 _ Try.underlying45 rfl (chL p.c) (by kernel_rfl) (w.heap.size) 4 (.tmp 33) rfl rfl rfl ra4 (some 34) rfl ?_)
      | (refine wpList_is (.load 45 (.tmp 35)) rfl ?_; refine wpList_loadW 45 _ Try.underlying45 rfl (chL q.c) (by kernel_rfl) (w.heap.size + 1) 4 (.tmp 35) rfl rfl rfl rb4 (some 36) rfl ?_)
      | (refine wpList_is (.binOp .neq 45 (.tmp 34) (.tmp 36) 45) rfl ?_; refine wpList_neqG 45 (.tmp 34) (.tmp 36) (chL p.c).toArray (chL q.c).toArray false rfl rfl rfl rfl (fun w => g45 _ _ _ _ _ w) n4 (some 37) rfl ?_; simp only [Act.put, List.setIfInBounds_toArray, List.set_cons_zero, List.set_cons_succ]; clear n4 g45)
      | (refine wpList_is (.load 48 (.tmp 54)) rfl ?_; refine wpList_loadW 48 _ Try.underlying48 rfl (regL p.c) (by kernel_rfl) (w.heap.size) 8 (.tmp 54) rfl rfl rfl ra8 (some 55) rfl ?_)
      | (refine wpList_is (.load 48 (.tmp 56)) rfl ?_; refine wpList_loadW 48 _ Try.underlying48 rfl (regL q.c) (by kernel_rfl) (w.heap.size + 1) 8 (.tmp 56) rfl rfl rfl rb8 (some 57) rfl ?_)
      | (refine wpList_is (.binOp .neq 48 (.tmp 55) (.tmp 57) 48) rfl ?_; refine wpList_neqG 48 (.tmp 55) (.tmp 57) (regL p.c).toArray (regL q.c).toArray false rfl rfl rfl rfl (fun w => g48 _ _ _ _ _ w) n7 (some 58) rfl ?_; simp only [Act.put, List.setIfInBounds_toArray, List.set_cons_zero, List.set_cons_succ]; clear n7 g48)
      | fail)
    go_meet
    case rel => exact ⟨rfl, rfl⟩
  case rest =>
    obtain ⟨rfl, hwc⟩ := hcut
    rw [hwc]
    clear hwc
    clear n0 n1 n2 n3 n4 n5 n6 n7 n8 a0 a1 a2 a3 a7 a41 a6 b0 b1 b2 b3 b7 b41 b6 ra4 rb4 ra8 rb8 g45 g48
    go_wp2_with (first
      | (refine wpList_is (.load 50 (.tmp 67)) rfl ?_; refine wpList_loadW 50 _ Try.underlying50 rfl (fdL p.c) (by kernel_rfl) (w.heap.size) 46 (.tmp 67) rfl rfl rfl ra46 (some 68) rfl ?_)
      | (refine wpList_is (.load 50 (.tmp 69)) rfl ?_; refine wpList_loadW 50 _ Try.underlying50 rfl (fdL q.c) (by kernel_rfl) (w.heap.size + 1) 46 (.tmp 69) rfl rfl rfl rb46 (some 70) rfl ?_)
      | (refine wpList_is (.binOp .neq 50 (.tmp 68) (.tmp 70) 50) rfl ?_; generalize hQQ : (wpList _ _ _ _ _ _) = QQ)
      | fail)
    rw [← hQQ]
    refine wpList_neqG 50 (.tmp 68) (.tmp 70) (fdL p.c).toArray (fdL q.c).toArray false rfl rfl rfl rfl (fun w => g50 _ _ _ _ _ w) n9 (some 71) rfl ?_
    clear hQQ QQ n9 g50 ra46 rb46
    simp only [Act.put, List.setIfInBounds_toArray, List.set_cons_zero, List.set_cons_succ]
    go_wp2_with (first
      | (refine wpList_is (.load 53 (.tmp 87)) rfl ?_; refine wpList_loadW 53 _ Try.underlying53 rfl (penL p.c) (by kernel_rfl) (w.heap.size) 64 (.tmp 87) rfl rfl rfl ra64 (some 88) rfl ?_)
      | (refine wpList_is (.load 53 (.tmp 89)) rfl ?_; refine wpList_loadW 53 _ Try.underlying53 rfl (penL q.c) (by kernel_rfl) (w.heap.size + 1) 64 (.tmp 89) rfl rfl rfl rb64 (some 90) rfl ?_)
      | (refine wpList_is (.binOp .neq 53 (.tmp 88) (.tmp 90) 53) rfl ?_; generalize hQQ : (wpList _ _ _ _ _ _) = QQ)
      | fail)
    rw [← hQQ]
    refine wpList_neqG 53 (.tmp 88) (.tmp 90) (penL p.c).toArray (penL q.c).toArray true rfl rfl rfl rfl (fun w => g53 _ _ _ _ _ w) n12 (some 91) rfl ?_
    clear hQQ QQ n12 g53 ra64 rb64
    simp only [Act.put, List.setIfInBounds_toArray, List.set_cons_zero, List.set_cons_succ]
    go_wp2
    go_ret
    exact ⟨by rw [HR.out]; rfl, HB.out.1⟩
end Go.Proofs.Ythopgmmodldljaa
