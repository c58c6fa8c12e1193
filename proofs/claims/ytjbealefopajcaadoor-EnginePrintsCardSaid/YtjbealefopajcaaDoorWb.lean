import Derived.Test.YtjbealefopajcaaDoorWa
import Derived.Deep.DeepCutAuto
import Derived.Deep.LoopGhost
namespace Go.Proofs.YtjbealefopajcaaDoor
open Go Go.RowKit Rg
attribute [local go_sem] Oper.semAt_some
set_option linter.unusedVariables false
set_option linter.unusedSimpArgs false
set_option maxRecDepth 100000
/-! Chunks of a slice, one by one. -/
def ckN (k n : Nat) : Nat := (n + k - 1) / k
def ckE (k bk o n : Nat) (j : Nat) : Array Value := #[.slice (some ⟨bk, o + k * j, .none⟩) (min k (n - k * j)) (min k (n - k * j))]
def KpC (z1 z2 : Nat) (W W' : World) : Prop := W'.heap[z1]? = W.heap[z1]? ∧ W'.heap[z2]? = W.heap[z2]?
theorem KpC.trans {z1 z2 : Nat} {A B C : World} (h : KpC z1 z2 A B) (k : KpC z1 z2 B C) : KpC z1 z2 A C := ⟨k.1.trans h.1, k.2.trans h.2⟩
theorem range_pre {j M : Nat} (h : j < M) : List.range j ++ [j] <+: List.range M := by
  rw [← List.range_succ]
  refine ⟨(List.range M).drop (j + 1), ?_⟩
  have e : List.range (j + 1) = (List.range M).take (j + 1) := by
    rw [List.take_range]; congr 1; omega
  rw [e, List.take_append_drop]
--@@
set_option maxHeartbeats 4000000 in
theorem chunkB_seq {w : World} {z1 z2 bk o n c : Nat} (m : Nat) (h1 : w.cell? ⟨z1, 0, .none⟩ = some (.slice (some ⟨bk, o, .none⟩) n c)) (h2 : w.cell? ⟨z2, 0, .none⟩ = some (.int .i64 32)) (hn : n ≤ c) (hb : n ≤ 10000000000) :
    SeqL Fence.wide m Tryd.prog 49 #[.pointer (some ⟨z1, 0, .none⟩), .pointer (some ⟨z2, 0, .none⟩)] (ckE 32 bk o n) (KpC z1 z2) (List.range (ckN 32 n)) w := by
  intro l J W hW hJ hY h0
  have HY : Hid (∀ pre x W1, J pre W1 → pre ++ [x] <+: List.range (ckN 32 n) → YieldAt Fence.wide (m - 1) Tryd.prog l (ckE 32 bk o n x) W1 fun e W' => e = .returned (.bool true) ∧ J (pre ++ [x]) W' ∧ KpC z1 z2 W1 W') := hY
  have q1 : W.cell? ⟨z1, 0, .none⟩ = some (.slice (some ⟨bk, o, .none⟩) n c) := (hW.cell (lt_of_cell h1)).trans h1
  have q2 : W.cell? ⟨z2, 0, .none⟩ = some (.int .i64 32) := (hW.cell (lt_of_cell h2)).trans h2
  have HJd : Hid (AbidesFrom W.heap.size J) := hJ
  have HW : Hid (W.cell? ⟨z1, 0, .none⟩ = some (.slice (some ⟨bk, o, .none⟩) n c) ∧ W.cell? ⟨z2, 0, .none⟩ = some (.int .i64 32) ∧ w.heap.size ≤ W.heap.size) := ⟨q1, q2, hW.size⟩
  have HN : Hid (n ≤ c ∧ n ≤ 10000000000) := ⟨hn, hb⟩
  clear h1 h2 hW hJ hY q1 q2 hn hb
  obtain ⟨X, hX⟩ : ∃ X, X = W.heap.size := ⟨_, rfl⟩
  have HX : Hid (X = W.heap.size) := hX
  clear hX
  refine callsIn_of_wp Tryd.func49 rfl trivial ?_ rfl
  refine wpIn_wide.2 ?_
  simp only [Tryd.ntmps49, List.size_toArray, List.length_cons, List.length_nil, Nat.reduceAdd, Nat.reduceSub, Array.replicate_succ, Array.replicate_zero, List.push_toArray, List.append_toArray, List.nil_append, List.cons_append]
  go_wp2_with fail
  go_loopw [4, 5] (fun a _ wr => ∃ t : Nat, a = .int .i64 t ∧ t < n + 32 ∧ Hid (t % 32 = 0 ∧ J (List.range (t / 32)) wr ∧ wr.cell? ⟨z1, 0, .none⟩ = some (.slice (some ⟨bk, o, .none⟩) n c) ∧ wr.cell? ⟨z2, 0, .none⟩ = some (.int .i64 32))) (fun a _ _ => (n + 32 - intOf a).toNat)
  case atStart => exact ⟨0, rfl, by omega, rfl, h0, HW.out.1, HW.out.2.1⟩
  case round =>
    obtain ⟨t, rfl, ht, HR⟩ := hrel
    have q1 := HR.out.2.2.1
    have q2 := HR.out.2.2.2
    by_cases hlt : t < n
    · have g0 : (t : Int) < n := by omega
      obtain ⟨r, hr⟩ : ∃ r, r = n - t := ⟨_, rfl⟩
      obtain ⟨e, he⟩ : ∃ e, e = min 32 r := ⟨_, rfl⟩
      obtain ⟨q, hq⟩ : ∃ q, q = (if c = t then some ⟨bk, o, .none⟩ else (some (⟨bk, o, .none⟩ : Addr)).map (·.add (t * 1))) := ⟨_, rfl⟩
      have hc1 : t ≤ c := by have := HN.out.1; omega
      have hsl : ∀ U, (Instr.slice 41 (.slice (some ⟨bk, o, .none⟩) n c) (some (.int .i64 (t : Int))) none none).run Tryd.prog U = .ok (.slice q r (c - t)) U := fun U => by
        rw [run_slice_l U 41 (some ⟨bk, o, .none⟩) n c Tryd.underlying41 .i64 t (by omega) (by omega)]
        rw [show Tryd.prog.elem 41 = 5 by kernel_rfl, Tryd.sizeOf5 U]
        simp only [Result.andThen, sliced, Int.toNat_natCast]
        rw [← hq, ← hr]
      have he0 : 0 < e ∧ t + e ≤ n := by omega
      have hmn : min (32 : Int) (r : Int) = (e : Int) := by omega
      have hsm : ∀ U, (Instr.slice 41 (.slice (some ⟨bk, o, .none⟩) n c) (some (.int .i64 (t : Int))) (some (.int .i64 ((t : Int) + e))) (some (.int .i64 ((t : Int) + e)))).run Tryd.prog U = .ok (.slice (some ⟨bk, o + t, .none⟩) e e) U := fun U => by
        rw [run_slice_lhm U 41 (some ⟨bk, o, .none⟩) n c Tryd.underlying41 .i64 .i64 .i64 t ((t : Int) + e) ((t : Int) + e) (by omega) (by omega) (by omega) (by have := HN.out.1; omega)]
        rw [show Tryd.prog.elem 41 = 5 by kernel_rfl, Tryd.sizeOf5 U]
        have e1 : ((t : Int) + e).toNat = t + e := by omega
        simp only [Result.andThen, sliced, Int.toNat_natCast, e1]
        rw [if_neg (by omega)]
        simp only [Option.map_some, le_addr_add, Nat.mul_one, Nat.add_sub_cancel_left]
      have HE : Hid (e = min 32 (n - t) ∧ 0 < e ∧ t + e ≤ n ∧ n ≤ 10000000000) := ⟨by rw [he, hr], he0.1, he0.2, HN.out.2⟩
      have hbd : (0 : Int) ≤ e ∧ (e : Int) ≤ 32 ∧ (t : Int) < 10000000000 := by have := HN.out.2; omega
      obtain ⟨hb1, hb2, hb3⟩ := hbd
      clear hr he he0 hq hlt hc1
      go_upto_region 3 with fail
      refine wp_region_held_drew (S := fun U => U.cell? ⟨z1, 0, .none⟩ = some (.slice (some ⟨bk, o, .none⟩) n c) ∧ U.cell? ⟨z2, 0, .none⟩ = some (.int .i64 32)) (by kernel_rfl) ⟨q1, q2⟩ (fun hHeld => ?_)
      refine nT 0 (.int .i64 32) rfl ?_ (fun ww hSw => by have c2 := hSw.2; go_simp)
      simp only [x0,x1,x2,x3,x4,x5,x6]
      refine nT 1 (.slice (some ⟨bk, o, .none⟩) n c) rfl ?_ (fun ww hSw => by have c2 := hSw.1; go_simp)
      simp only [x0,x1,x2,x3,x4,x5,x6]
      refine nT 2 (.int .i64 t) rfl ?_ (fun ww hSw => by go_simp)
      simp only [x0,x1,x2,x3,x4,x5,x6]
      refine nT 3 (.slice q r (c - t)) rfl ?_ (fun ww hSw => by go_simp)
      simp only [x0,x1,x2,x3,x4,x5,x6]
      refine nT 4 (.int .i64 r) rfl ?_ (fun ww hSw => by go_simp)
      simp only [x0,x1,x2,x3,x4,x5,x6]
      refine nT 5 (.int .i64 e) rfl ?_ (fun ww hSw => by go_simp)
      simp only [x0,x1,x2,x3,x4,x5,x6]
      refine nT 6 (.int .i64 e) rfl ?_ (fun ww hSw => by go_simp)
      simp only [x0,x1,x2,x3,x4,x5,x6]
      refine wpAnyH_done (by kernel_rfl) ?_ _
      have HR2 : Hid (J (List.range (t / 32)) wr.drew ∧ wr.drew.cell? ⟨z1, 0, .none⟩ = some (.slice (some ⟨bk, o, .none⟩) n c) ∧ wr.drew.cell? ⟨z2, 0, .none⟩ = some (.int .i64 32) ∧ t % 32 = 0) := ⟨HJd.out _ _ _ none HR.out.2.1 ⟨rfl, rfl, rfl, Nat.le_refl _, fun _ _ _ => rfl⟩ (fun r e => nomatch e), q1, q2, HR.out.1⟩
      clear hHeld q1 q2 HR
      generalize wr.drew = W1 at *
      obtain ⟨fn, tmps, assign, body, hy, hR⟩ := yield_anyT rfl (m - 1) (HY.out (List.range (t / 32)) (t / 32) W1 HR2.out.1 (range_pre (by have h1 := HE.out; have h2 := HR2.out.2.2.2; unfold ckN; omega)))
      have HT : Hid (32 * (t / 32) = t ∧ min 32 (n - 32 * (t / 32)) = e) := by have h1 := HE.out; have h2 := HR2.out.2.2.2; exact ⟨by omega, by rw [show 32 * (t / 32) = t by omega]; exact h1.1.symm⟩
      simp only [ckE, HT.out.2] at hy
      rw [HT.out.1] at hy
      have q1 := HR2.out.2.1
      have q2 := HR2.out.2.2.1
      go_upto_region 4 with fail
      refine (wpIn_wide (n := m)).1 ?_
      gi_wp2
      refine ⟨fun h => (by cases h), hR.mono ?_⟩
      clear hR hy q1 q2
      rintro e3 W3 ⟨rfl, hJ3, hk3⟩
      have H3 : Hid (J (List.range ((t + 32) / 32)) W3 ∧ W3.cell? ⟨z1, 0, .none⟩ = some (.slice (some ⟨bk, o, .none⟩) n c) ∧ W3.cell? ⟨z2, 0, .none⟩ = some (.int .i64 32)) := by
        refine ⟨?_, (World.cell?_of_block hk3.1).trans HR2.out.2.1, (World.cell?_of_block hk3.2).trans HR2.out.2.2.1⟩
        rw [show (t + 32) / 32 = t / 32 + 1 by omega, List.range_succ]
        exact hJ3
      clear hJ3 hk3
      have q2 := H3.out.2.2
      have w1 : IntKind.i64.wrap ((t : Int) + 32) = (t : Int) + 32 := by rw [IntKind.wrap_i64]; omega
      gi_wp2
      go_wp2_with fail
      exact ⟨⟨t + 32, by go_num, by have := HE.out; omega, by have := HR2.out.2.2.2; omega, H3.out.1, H3.out.2.1, H3.out.2.2⟩, by simp only [intOf]; omega⟩
    · have g0 : ¬ (t : Int) < n := by omega
      have HJ2 : Hid (J (List.range (ckN 32 n)) wr) := by
        have h1 := HR.out.2.1
        have h2 := HR.out.1
        rwa [show t / 32 = ckN 32 n by unfold ckN; omega] at h1
      go_wp2_with fail
      go_end0
      exact ⟨⟨_, rfl⟩, HJ2.out⟩
set_option maxHeartbeats 4000000 in
theorem chunkI_seq {w : World} {z1 z2 bk o n c : Nat} (m : Nat) (h1 : w.cell? ⟨z1, 0, .none⟩ = some (.slice (some ⟨bk, o, .none⟩) n c)) (h2 : w.cell? ⟨z2, 0, .none⟩ = some (.int .i64 16)) (hn : n ≤ c) (hb : n ≤ 10000000000) :
    SeqL Fence.wide m Tryd.prog 50 #[.pointer (some ⟨z1, 0, .none⟩), .pointer (some ⟨z2, 0, .none⟩)] (ckE 16 bk o n) (KpC z1 z2) (List.range (ckN 16 n)) w := by
  intro l J W hW hJ hY h0
  have HY : Hid (∀ pre x W1, J pre W1 → pre ++ [x] <+: List.range (ckN 16 n) → YieldAt Fence.wide (m - 1) Tryd.prog l (ckE 16 bk o n x) W1 fun e W' => e = .returned (.bool true) ∧ J (pre ++ [x]) W' ∧ KpC z1 z2 W1 W') := hY
  have q1 : W.cell? ⟨z1, 0, .none⟩ = some (.slice (some ⟨bk, o, .none⟩) n c) := (hW.cell (lt_of_cell h1)).trans h1
  have q2 : W.cell? ⟨z2, 0, .none⟩ = some (.int .i64 16) := (hW.cell (lt_of_cell h2)).trans h2
  have HJd : Hid (AbidesFrom W.heap.size J) := hJ
  have HW : Hid (W.cell? ⟨z1, 0, .none⟩ = some (.slice (some ⟨bk, o, .none⟩) n c) ∧ W.cell? ⟨z2, 0, .none⟩ = some (.int .i64 16) ∧ w.heap.size ≤ W.heap.size) := ⟨q1, q2, hW.size⟩
  have HN : Hid (n ≤ c ∧ n ≤ 10000000000) := ⟨hn, hb⟩
  clear h1 h2 hW hJ hY q1 q2 hn hb
  obtain ⟨X, hX⟩ : ∃ X, X = W.heap.size := ⟨_, rfl⟩
  have HX : Hid (X = W.heap.size) := hX
  clear hX
  refine callsIn_of_wp Tryd.func50 rfl trivial ?_ rfl
  refine wpIn_wide.2 ?_
  simp only [Tryd.ntmps50, List.size_toArray, List.length_cons, List.length_nil, Nat.reduceAdd, Nat.reduceSub, Array.replicate_succ, Array.replicate_zero, List.push_toArray, List.append_toArray, List.nil_append, List.cons_append]
  go_wp2_with fail
  go_loopw [4, 5] (fun a _ wr => ∃ t : Nat, a = .int .i64 t ∧ t < n + 16 ∧ Hid (t % 16 = 0 ∧ J (List.range (t / 16)) wr ∧ wr.cell? ⟨z1, 0, .none⟩ = some (.slice (some ⟨bk, o, .none⟩) n c) ∧ wr.cell? ⟨z2, 0, .none⟩ = some (.int .i64 16))) (fun a _ _ => (n + 16 - intOf a).toNat)
  case atStart => exact ⟨0, rfl, by omega, rfl, h0, HW.out.1, HW.out.2.1⟩
  case round =>
    obtain ⟨t, rfl, ht, HR⟩ := hrel
    have q1 := HR.out.2.2.1
    have q2 := HR.out.2.2.2
    by_cases hlt : t < n
    · have g0 : (t : Int) < n := by omega
      obtain ⟨r, hr⟩ : ∃ r, r = n - t := ⟨_, rfl⟩
      obtain ⟨e, he⟩ : ∃ e, e = min 16 r := ⟨_, rfl⟩
      obtain ⟨q, hq⟩ : ∃ q, q = (if c = t then some ⟨bk, o, .none⟩ else (some (⟨bk, o, .none⟩ : Addr)).map (·.add (t * 1))) := ⟨_, rfl⟩
      have hc1 : t ≤ c := by have := HN.out.1; omega
      have hsl : ∀ U, (Instr.slice 23 (.slice (some ⟨bk, o, .none⟩) n c) (some (.int .i64 (t : Int))) none none).run Tryd.prog U = .ok (.slice q r (c - t)) U := fun U => by
        rw [run_slice_l U 23 (some ⟨bk, o, .none⟩) n c Tryd.underlying23 .i64 t (by omega) (by omega)]
        rw [show Tryd.prog.elem 23 = 3 by kernel_rfl, Tryd.sizeOf3 U]
        simp only [Result.andThen, sliced, Int.toNat_natCast]
        rw [← hq, ← hr]
      have he0 : 0 < e ∧ t + e ≤ n := by omega
      have hmn : min (16 : Int) (r : Int) = (e : Int) := by omega
      have hsm : ∀ U, (Instr.slice 23 (.slice (some ⟨bk, o, .none⟩) n c) (some (.int .i64 (t : Int))) (some (.int .i64 ((t : Int) + e))) (some (.int .i64 ((t : Int) + e)))).run Tryd.prog U = .ok (.slice (some ⟨bk, o + t, .none⟩) e e) U := fun U => by
        rw [run_slice_lhm U 23 (some ⟨bk, o, .none⟩) n c Tryd.underlying23 .i64 .i64 .i64 t ((t : Int) + e) ((t : Int) + e) (by omega) (by omega) (by omega) (by have := HN.out.1; omega)]
        rw [show Tryd.prog.elem 23 = 3 by kernel_rfl, Tryd.sizeOf3 U]
        have e1 : ((t : Int) + e).toNat = t + e := by omega
        simp only [Result.andThen, sliced, Int.toNat_natCast, e1]
        rw [if_neg (by omega)]
        simp only [Option.map_some, le_addr_add, Nat.mul_one, Nat.add_sub_cancel_left]
      have HE : Hid (e = min 16 (n - t) ∧ 0 < e ∧ t + e ≤ n ∧ n ≤ 10000000000) := ⟨by rw [he, hr], he0.1, he0.2, HN.out.2⟩
      have hbd : (0 : Int) ≤ e ∧ (e : Int) ≤ 16 ∧ (t : Int) < 10000000000 := by have := HN.out.2; omega
      obtain ⟨hb1, hb2, hb3⟩ := hbd
      clear hr he he0 hq hlt hc1
      go_upto_region 3 with fail
      refine wp_region_held_drew (S := fun U => U.cell? ⟨z1, 0, .none⟩ = some (.slice (some ⟨bk, o, .none⟩) n c) ∧ U.cell? ⟨z2, 0, .none⟩ = some (.int .i64 16)) (by kernel_rfl) ⟨q1, q2⟩ (fun hHeld => ?_)
      refine nT 0 (.int .i64 16) rfl ?_ (fun ww hSw => by have c2 := hSw.2; go_simp)
      simp only [x0,x1,x2,x3,x4,x5,x6]
      refine nT 1 (.slice (some ⟨bk, o, .none⟩) n c) rfl ?_ (fun ww hSw => by have c2 := hSw.1; go_simp)
      simp only [x0,x1,x2,x3,x4,x5,x6]
      refine nT 2 (.int .i64 t) rfl ?_ (fun ww hSw => by go_simp)
      simp only [x0,x1,x2,x3,x4,x5,x6]
      refine nT 3 (.slice q r (c - t)) rfl ?_ (fun ww hSw => by go_simp)
      simp only [x0,x1,x2,x3,x4,x5,x6]
      refine nT 4 (.int .i64 r) rfl ?_ (fun ww hSw => by go_simp)
      simp only [x0,x1,x2,x3,x4,x5,x6]
      refine nT 5 (.int .i64 e) rfl ?_ (fun ww hSw => by go_simp)
      simp only [x0,x1,x2,x3,x4,x5,x6]
      refine nT 6 (.int .i64 e) rfl ?_ (fun ww hSw => by go_simp)
      simp only [x0,x1,x2,x3,x4,x5,x6]
      refine wpAnyH_done (by kernel_rfl) ?_ _
      have HR2 : Hid (J (List.range (t / 16)) wr.drew ∧ wr.drew.cell? ⟨z1, 0, .none⟩ = some (.slice (some ⟨bk, o, .none⟩) n c) ∧ wr.drew.cell? ⟨z2, 0, .none⟩ = some (.int .i64 16) ∧ t % 16 = 0) := ⟨HJd.out _ _ _ none HR.out.2.1 ⟨rfl, rfl, rfl, Nat.le_refl _, fun _ _ _ => rfl⟩ (fun r e => nomatch e), q1, q2, HR.out.1⟩
      clear hHeld q1 q2 HR
      generalize wr.drew = W1 at *
      obtain ⟨fn, tmps, assign, body, hy, hR⟩ := yield_anyT rfl (m - 1) (HY.out (List.range (t / 16)) (t / 16) W1 HR2.out.1 (range_pre (by have h1 := HE.out; have h2 := HR2.out.2.2.2; unfold ckN; omega)))
      have HT : Hid (16 * (t / 16) = t ∧ min 16 (n - 16 * (t / 16)) = e) := by have h1 := HE.out; have h2 := HR2.out.2.2.2; exact ⟨by omega, by rw [show 16 * (t / 16) = t by omega]; exact h1.1.symm⟩
      simp only [ckE, HT.out.2] at hy
      rw [HT.out.1] at hy
      have q1 := HR2.out.2.1
      have q2 := HR2.out.2.2.1
      go_upto_region 4 with fail
      refine (wpIn_wide (n := m)).1 ?_
      gi_wp2
      refine ⟨fun h => (by cases h), hR.mono ?_⟩
      clear hR hy q1 q2
      rintro e3 W3 ⟨rfl, hJ3, hk3⟩
      have H3 : Hid (J (List.range ((t + 16) / 16)) W3 ∧ W3.cell? ⟨z1, 0, .none⟩ = some (.slice (some ⟨bk, o, .none⟩) n c) ∧ W3.cell? ⟨z2, 0, .none⟩ = some (.int .i64 16)) := by
        refine ⟨?_, (World.cell?_of_block hk3.1).trans HR2.out.2.1, (World.cell?_of_block hk3.2).trans HR2.out.2.2.1⟩
        rw [show (t + 16) / 16 = t / 16 + 1 by omega, List.range_succ]
        exact hJ3
      clear hJ3 hk3
      have q2 := H3.out.2.2
      have w1 : IntKind.i64.wrap ((t : Int) + 16) = (t : Int) + 16 := by rw [IntKind.wrap_i64]; omega
      gi_wp2
      go_wp2_with fail
      exact ⟨⟨t + 16, by go_num, by have := HE.out; omega, by have := HR2.out.2.2.2; omega, H3.out.1, H3.out.2.1, H3.out.2.2⟩, by simp only [intOf]; omega⟩
    · have g0 : ¬ (t : Int) < n := by omega
      have HJ2 : Hid (J (List.range (ckN 16 n)) wr) := by
        have h1 := HR.out.2.1
        have h2 := HR.out.1
        rwa [show t / 16 = ckN 16 n by unfold ckN; omega] at h1
      go_wp2_with fail
      go_end0
      exact ⟨⟨_, rfl⟩, HJ2.out⟩
set_option maxHeartbeats 1000000 in
theorem chunkB_nil {w : World} {z1 z2 bk o c : Nat} {p : Option Addr} (m : Nat) (h1 : w.cell? ⟨z1, 0, .none⟩ = some (.slice p 0 c)) :
    SeqL Fence.wide m Tryd.prog 49 #[.pointer (some ⟨z1, 0, .none⟩), .pointer (some ⟨z2, 0, .none⟩)] (ckE 32 bk o 0) (KpC z1 z2) (List.range (ckN 32 0)) w := by
  intro l J W hW hJ hY h0
  have q1 : W.cell? ⟨z1, 0, .none⟩ = some (.slice p 0 c) := (hW.cell (lt_of_cell h1)).trans h1
  have HJ2 : Hid (J (List.range (ckN 32 0)) W) := h0
  clear h1 hW hJ hY h0
  refine callsIn_of_wp Tryd.func49 rfl trivial ?_ rfl
  refine wpIn_wide.2 ?_
  simp only [Tryd.ntmps49, List.size_toArray, List.length_cons, List.length_nil, Nat.reduceAdd, Nat.reduceSub, Array.replicate_succ, Array.replicate_zero, List.push_toArray, List.append_toArray, List.nil_append, List.cons_append]
  go_wp2_with fail
  go_loopw [4] (fun a wr => a = .int .i64 0 ∧ wr = W) (fun _ _ => 0)
  case atStart => exact ⟨rfl, rfl⟩
  case round =>
    obtain ⟨rfl, hW⟩ := hrel
    subst hW
    go_wp2_with fail
    go_end0
    exact ⟨⟨_, rfl⟩, HJ2.out⟩
set_option maxHeartbeats 1000000 in
theorem chunkB_mk (v : Value) (w : World) (h1 : v.oneCell' = true) : Calls Tryd.prog 41 #[v, .int .i64 32] w fun e w' => e = .returned (.func (.func 49) #[] #[.pointer (some ⟨w.heap.size, 0, .none⟩), .pointer (some ⟨w.heap.size + 1, 0, .none⟩)]) ∧ w' = (w.alloc (.cells #[v] 41)).alloc (.cells #[.int .i64 32] 3) := by
  have hmf : ∀ (fn : Fn) (first cap : Array Value) (w : World), (Instr.makeFunc fn first cap).run Tryd.prog w = .ok (.func fn first cap) w := fun _ _ _ _ => rfl
  go_enter Tryd.func41, Tryd.ntmps41
  go_wp2
  go_ret
  exact ⟨rfl, rfl⟩
set_option maxHeartbeats 1000000 in
theorem chunkI_nil {w : World} {z1 z2 bk o c : Nat} {p : Option Addr} (m : Nat) (h1 : w.cell? ⟨z1, 0, .none⟩ = some (.slice p 0 c)) :
    SeqL Fence.wide m Tryd.prog 50 #[.pointer (some ⟨z1, 0, .none⟩), .pointer (some ⟨z2, 0, .none⟩)] (ckE 16 bk o 0) (KpC z1 z2) (List.range (ckN 16 0)) w := by
  intro l J W hW hJ hY h0
  have q1 : W.cell? ⟨z1, 0, .none⟩ = some (.slice p 0 c) := (hW.cell (lt_of_cell h1)).trans h1
  have HJ2 : Hid (J (List.range (ckN 16 0)) W) := h0
  clear h1 hW hJ hY h0
  refine callsIn_of_wp Tryd.func50 rfl trivial ?_ rfl
  refine wpIn_wide.2 ?_
  simp only [Tryd.ntmps50, List.size_toArray, List.length_cons, List.length_nil, Nat.reduceAdd, Nat.reduceSub, Array.replicate_succ, Array.replicate_zero, List.push_toArray, List.append_toArray, List.nil_append, List.cons_append]
  go_wp2_with fail
  go_loopw [4] (fun a wr => a = .int .i64 0 ∧ wr = W) (fun _ _ => 0)
  case atStart => exact ⟨rfl, rfl⟩
  case round =>
    obtain ⟨rfl, hW⟩ := hrel
    subst hW
    go_wp2_with fail
    go_end0
    exact ⟨⟨_, rfl⟩, HJ2.out⟩
set_option maxHeartbeats 1000000 in
theorem chunkI_mk (v : Value) (w : World) (h1 : v.oneCell' = true) : Calls Tryd.prog 43 #[v, .int .i64 16] w fun e w' => e = .returned (.func (.func 50) #[] #[.pointer (some ⟨w.heap.size, 0, .none⟩), .pointer (some ⟨w.heap.size + 1, 0, .none⟩)]) ∧ w' = (w.alloc (.cells #[v] 23)).alloc (.cells #[.int .i64 16] 3) := by
  have hmf : ∀ (fn : Fn) (first cap : Array Value) (w : World), (Instr.makeFunc fn first cap).run Tryd.prog w = .ok (.func fn first cap) w := fun _ _ _ _ => rfl
  go_enter Tryd.func43, Tryd.ntmps43
  go_wp2
  go_ret
  exact ⟨rfl, rfl⟩
end Go.Proofs.YtjbealefopajcaaDoor
