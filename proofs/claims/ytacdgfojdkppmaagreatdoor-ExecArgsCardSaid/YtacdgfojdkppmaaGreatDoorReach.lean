import Derived.Test.YtacdgfojdkppmaaGreatDoorAlloc
namespace Go.Proofs.YtacdgfojdkppmaaGreatDoor.Rm
open Go.RowKit
set_option linter.unusedVariables false
set_option linter.unusedSimpArgs false
/-- The free frames of a new memory. -/
def down : Nat → List Nat
 | 0 => []
 | k + 1 => (k + 1) :: down k
theorem down_mem : ∀ (k i : Nat), i ∈ down k ↔ 1 ≤ i ∧ i ≤ k
 | 0, i => by simp [down]; omega
 | k + 1, i => by
  simp only [down, List.mem_cons, down_mem k i]
  omega
theorem down_nd : ∀ k : Nat, (down k).Nodup
 | 0 => List.nodup_nil
 | k + 1 => List.nodup_cons.2 ⟨fun h => by have := (down_mem k (k + 1)).1 h; omega, down_nd k⟩
theorem down_len : ∀ k : Nat, (down k).length = k
 | 0 => rfl
 | k + 1 => by simp only [down, List.length_cons, down_len k]
/-- The bytes of a new memory. -/
def newB : Nat → Nat → Int
 | 0 => over (fun _ => 0) 0 (le 270532723 4)
 | k + 1 => thr (newB k) (k + 1) (adr (down k))
theorem newB_first : ∀ (k j : Nat), j < 4096 → newB k j = newB 0 j
 | 0, _, _ => rfl
 | k + 1, j, hj => (thr_out (newB k) (k + 1) _ j (by omega)).trans (newB_first k j hj)
theorem newB_thr : ∀ k : Nat, Thr (newB k) (down k)
 | 0 => trivial
 | k + 1 => (newB_thr k).cons (k + 1) (fun h => by have := (down_mem k (k + 1)).1 h; omega)
theorem hd_new (n : Nat) (h : 1 ≤ n) (a : Int) : (decide (a = 2147483648) || false) = hdL n (down (n - 1)) a := by
 unfold hdL
 by_cases e : a = 2147483648
 ·subst e
  have h1 := isFr_addr 0 n (by omega)
  simp only [Int.natCast_zero, Int.zero_mul, Int.add_zero] at h1
  have h2 : ¬ 0 ∈ down (n - 1) := fun h => by have := (down_mem _ _).1 h; omega
  simp [h1, h2]
 ·cases hf : isFr a n with
  | false => simp [e]
  | true =>
   have hf' : a % 4096 = 0 ∧ 2147483648 ≤ a ∧ a < 2147483648 + (n : Int) * 4096 := by simpa [isFr] using hf
   have : ((a - 2147483648) / 4096).toNat ∈ down (n - 1) := (down_mem _ _).2 (by omega)
   simp [e, this]
/-- What New hands back. -/
def NewP (w : World) (n : Nat) (e : Ending) (w' : World) : Prop := ∃ p b m, w.heap.size ≤ p ∧ w.heap.size ≤ b ∧ w.heap.size ≤ m ∧ e = .returned (.tuple #[.pointer (some ⟨p, 0, .none⟩), .nilIface]) ∧ Ram w' p b m n (newB (n - 1)) (down (n - 1)) ∧ Below w.heap.size w w'
set_option maxHeartbeats 1000000 in
theorem new_any (n : Nat) (h1 : 1 ≤ n) (h2 : n ≤ 4096) (w : World) : Calls Tryz.prog 30 #[.int .i64 n] w fun e w' => NewP w n e w' := by
 have c := mayHave_any n w
 have e0 : decide (1 ≤ (n : Int) ∧ (n : Int) ≤ 4096) = true := by simp; omega
 rw [e0] at c
 have c1 := blank_any n h1 h2 w
 go_enter Tryz.func30, Tryz.ntmps30
 go_wp2_with (first | (go_at_call 66; refine c.mono ?_; rintro e w0 ⟨rfl, rfl⟩) | fail)
 refine c1.mono ?_
 rintro e w1 ⟨p, b, m, hp, hb, hm, rfl, M1, B1⟩
 clear c c1
 have HM1 : Hid (Mem w1 p b m n (fun _ => 0) 0 (fun _ => false) 0) := M1
 have HB1 : Hid (Below w0.heap.size w0 w1) := B1
 have k2 := M1.c2
 obtain ⟨D, hown, hhas, hsz⟩ := M1.hm
 have hmax : Maps.size D < maxLen := by rw [hsz]; unfold maxLen; omega
 clear M1 B1
 go_wp2_with (first | (at_mapUpdate; refine wpList_mapUpdate_in _ rfl _ _ _ 29 rfl 24 104 law22 Tryz.underlying29 unitElem m _ D rfl hown hmax _ _ _ rfl rfl (Maps.keyOf_int_mk Tryz.underlying24 (WalkArith.wf_u64 (by omega))) _ [] unitElem_mk ?_; intro w2 hown2 hturn) | fail)
 have M2 := HM1.out.put hown hhas hsz 2147483648 (by omega) rfl hown2 hturn
 have F2 : Fra p b m w1 w2 := (Fra.refl p b m w1).turned hturn
 clear hown hhas hsz hmax hown2 hturn
 have c2 := frame_any M2 0 (by omega)
 simp only [Int.natCast_zero, Int.zero_mul, Int.add_zero, Nat.zero_mul, Nat.sub_zero] at c2
 have c3 := number32_write b 0 4096 (4096 * n) 270532723 w2 (by omega) (fun k hk => by rw [M2.cb _ (by omega)]; rfl) (fun k hk => M2.fb _ (by omega)) (by omega)
 have M3 := M2.setCells 0 (le 270532723 4) (by rw [le_len]; omega) (le_bd _ _)
 have F3 := F2.setCells 0 ((le 270532723 4).map (.int .u8))
 generalize w2.setCells b 0 ((le 270532723 4).map (.int .u8)) = w3 at *
 go_wp2_with (first | (go_at_call 43; refine c2.mono ?_; rintro e w4 ⟨rfl, rfl⟩) | (go_at_call 69; refine c3.mono ?_; rintro e w5 ⟨rfl, rfl⟩) | fail)
 have HM3 : Hid (Mem w5 p b m n (newB 0) (adr (down 0)) (fun x => decide (x = 2147483648) || false) 1) := M3
 have HF3 : Hid (Fra p b m w1 w5) := F3
 clear M2 F2 M3 F3 c2 c3
 go_loopw [5] (fun k wr => ∃ i : Nat, i + 1 ≤ n ∧ k = .int .i64 (i + 1) ∧ Mem wr p b m n (newB i) (adr (down i)) (fun x => decide (x = 2147483648) || false) 1 ∧ Fra p b m w1 wr) (fun k _ => n - (intOf k).toNat)
 case atStart => exact ⟨0, by omega, rfl, HM3.out, HF3.out⟩
 case round =>
  obtain ⟨i, hi, rfl, M, F⟩ := hrel
  have HM : Hid (Mem wr p b m n (newB i) (adr (down i)) (fun x => decide (x = 2147483648) || false) 1) := M
  have HF : Hid (Fra p b m w1 wr) := F
  by_cases hin : i + 1 < n
  ·have i1 : (i : Int) + 1 < n := by omega
   have c4 := addr_any (i + 1) (by omega) (by omega) wr
   have c5 := thread_any M (i + 1) hin
   rw [show ((i + 1 : Nat) : Int) = (i : Int) + 1 by omega] at c5
   clear M F
   go_wp2_with (first | (go_at_call 71; refine c4.mono ?_; rintro e w6 ⟨rfl, rfl⟩) | fail)
   refine c5.mono ?_
   rintro e w7 ⟨⟨v, rfl⟩, M7, F7⟩
   have HM7 : Hid (Mem w7 p b m n (newB (i + 1)) (adr (down (i + 1))) (fun x => decide (x = 2147483648) || false) 1) := by
    have := M7
    rw [show (2147483648 + ((i : Int) + 1) * 4096) = adr (down (i + 1)) by simp [down, adr]] at this
    exact this
   have HF7 : Hid (Fra p b m w1 w7) := HF.out.trans F7
   clear M7 F7 c4 c5
   go_wp2
   exact ⟨⟨i + 1, by omega, by simp, HM7.out, HF7.out⟩, by simp [intOf]; omega⟩
  ·have i1 : ¬ ((i : Int) + 1 < n) := by omega
   clear M F
   go_wp2
   go_ret2
   have ein : i = n - 1 := by omega
   subst ein
   refine ⟨p, b, m, hp, hb, hm, rfl, ⟨?_, down_nd _, fun j hj => by have := (down_mem _ _).1 hj; omega, newB_thr _⟩, HB1.out.trans (HF.out.toBelow (HB1.out.size) hp hb hm)⟩
   have := HM.out.congr (fun a _ _ => hd_new n h1 a)
   rw [down_len, show n - (n - 1) = 1 by omega]
   exact this
end Go.Proofs.YtacdgfojdkppmaaGreatDoor.Rm
namespace Go.Proofs.YtacdgfojdkppmaaGreatDoor.Rm
open Go.RowKit
set_option linter.unusedVariables false
set_option linter.unusedSimpArgs false
section
variable {w : World} {p b m N cnt : Nat} {B : Nat → Int} {nx : Int} {hd : Int → Bool}
set_option maxHeartbeats 2000000 in
theorem reach_ok (h : Mem w p b m N B nx hd cnt) (o n : Nat) (hn : 1 ≤ n) (ho : o + n ≤ 4096 * N) (hh : ∀ f : Nat, o / 4096 ≤ f → f * 4096 < o + n → hd (2147483648 + f * 4096) = true) :
  Calls Tryz.prog 80 #[.pointer (some ⟨p, 0, .none⟩), .int .u64 (2147483648 + o), .int .i64 n] w fun e w' => e = .returned (.tuple #[.slice (some ⟨b, o, .none⟩) n (4096 * N - o), .bool true]) ∧ Below w.heap.size w w' := by
 have c := made_some p b _ _ w h.c0
 have k0 := h.c0
 have n2 := h.n2
 have i1 : ¬ ((n : Int) < 0) := by omega
 have i2 : ((n : Int) == 0) = false := by simp; omega
 have i3 : (n : Int) ≤ 4096 * N - o := by omega
 have i4 : (o : Int) < 4096 * N := by omega
 have HM : Hid (Mem w p b m N B nx hd cnt) := h
 clear h
 go_enter Tryz.func80, Tryz.ntmps80
 go_wp2_with (first | (go_at_call 31; refine c.mono ?_; rintro e w0 ⟨rfl, rfl⟩) | fail)
 go_quiet (fail)
 go_wp2
 simp only [show (2147483648 + (o : Int) - 2147483648) = o by omega]
 go_loopw [11] (fun k wr => ∃ f : Nat, o / 4096 ≤ f ∧ f * 4096 < o + n + 4096 ∧ k = .int .u64 (2147483648 + f * 4096) ∧ Below w0.heap.size w0 wr) (fun k _ => (2147483648 + o + n + 4096 - intOf k).toNat)
 case atStart => exact ⟨o / 4096, by omega, by omega, congrArg _ (by omega), below_drewN (Below.refl _ _) _⟩
 case round =>
  obtain ⟨f, hf1, hf2, rfl, hB⟩ := hrel
  have M := HM.out.below hB
  have HB : Hid (Below w0.heap.size w0 wr) := hB
  by_cases hfn : f * 4096 < o + n
  ·have j1 : (2147483648 + (f : Int) * 4096) < 2147483648 + (o + n) := by omega
   have q : Hid (o / 4096 ≤ f + 1 ∧ (f + 1) * 4096 < o + n + 4096 ∧ Value.int .u64 (2147483648 + (f : Int) * 4096 + 4096) = .int .u64 (2147483648 + ((f + 1 : Nat) : Int) * 4096) ∧ (2147483648 + (o : Int) + n + 4096 - intOf (.int .u64 (2147483648 + (f : Int) * 4096 + 4096))).toNat < (2147483648 + (o : Int) + n + 4096 - intOf (.int .u64 (2147483648 + (f : Int) * 4096))).toNat) := by
    refine ⟨by omega, (by rw [Nat.succ_mul]; exact Nat.add_lt_add_right hfn 4096), ?_, ?_⟩
    ·rw [show ((f + 1 : Nat) : Int) = (f : Int) + 1 by omega, show 2147483648 + ((f : Int) + 1) * 4096 = 2147483648 + (f : Int) * 4096 + 4096 by omega]
    ·simp only [intOf]
     omega
   have c1 := isHeld_any M (2147483648 + f * 4096) (by omega)
   rw [hh f hf1 hfn] at c1
   clear M hB
   go_wp2_with (first | (go_at_call 124; refine c1.mono ?_; rintro e w1 ⟨rfl, hb1⟩) | fail)
   exact ⟨⟨f + 1, q.out.1, q.out.2.1, q.out.2.2.1, HB.out.trans (hb1.mono HB.out.size)⟩, q.out.2.2.2⟩
  ·have j1 : ¬ ((2147483648 + (f : Int) * 4096) < 2147483648 + (o + n)) := by omega
   have k0 := M.c0
   clear M hB
   go_wp2
   go_ret2
   exact ⟨rfl, HB.out⟩
/-- Numbers of each width, by one word. -/
theorem number_read (b o n len cap : Nat) (hn : n = 1 ∨ n = 2 ∨ n = 4 ∨ n = 8) (B : Nat → Int) (v : Int) (w : World) (hl : n ≤ len) (hB : ∀ i, 0 ≤ B i ∧ B i < 256) (hc : ∀ i, i < n → w.cell? ⟨b, o + i, .none⟩ = some (.int .u8 (B (o + i)))) :
  Calls Tryz.prog (if n = 1 then 177 else if n = 2 then 178 else if n = 4 then 69 else 83) #[.slice (some ⟨b, o, .none⟩) len cap, .bool false, .int .u64 v] w fun e w' => e = .returned (.int .u64 (num B o n)) ∧ w' = w := by
 rcases hn with rfl | rfl | rfl | rfl
 ·exact number8_read b o len cap B v w hl hB hc
 ·exact number16_read b o len cap B v w hl hB hc
 ·exact number32_read b o len cap B v w hl hB hc
 ·exact number64_read b o len cap B v w hl hB hc
theorem number_write (b o n len cap : Nat) (hn : n = 1 ∨ n = 2 ∨ n = 4 ∨ n = 8) (v : Int) (w : World) (hl : n ≤ len) (hc : ∀ i, i < n → (w.cell? ⟨b, o + i, .none⟩).isSome = true) (hf : ∀ i, i < n → w.frozen? ⟨b, o + i, .none⟩ = false) (hv : 0 ≤ v ∧ v < 18446744073709551616) :
  Calls Tryz.prog (if n = 1 then 177 else if n = 2 then 178 else if n = 4 then 69 else 83) #[.slice (some ⟨b, o, .none⟩) len cap, .bool true, .int .u64 v] w fun e w' => e = .returned (.int .u64 (md v n)) ∧ w' = w.setCells b o ((le v n).map (.int .u8)) := by
 rcases hn with rfl | rfl | rfl | rfl
 ·exact number8_write b o len cap v w hl hc hf hv
 ·exact number16_write b o len cap v w hl hc hf hv
 ·exact number32_write b o len cap v w hl hc hf hv
 ·exact number64_write b o len cap v w hl hc hf hv
set_option maxHeartbeats 1000000 in
theorem access_read (h : Mem w p b m N B nx hd cnt) (o n : Nat) (hn : n = 1 ∨ n = 2 ∨ n = 4 ∨ n = 8) (ho : o + n ≤ 4096 * N) (hh : ∀ f : Nat, o / 4096 ≤ f → f * 4096 < o + n → hd (2147483648 + f * 4096) = true) (v : Int) :
  Calls Tryz.prog 166 #[.pointer (some ⟨p, 0, .none⟩), .int .u64 (2147483648 + o), .int .i64 n, .bool false, .int .u64 v] w fun e w' => e = .returned (.tuple #[.int .u64 (num B o n), .bool true]) ∧ Below w.heap.size w w' := by
 have c := reach_ok h o n (by omega) ho hh
 have HM : Hid (Mem w p b m N B nx hd cnt) := h
 clear h hh
 have hR := fun w1 => number_read b o n n (4096 * N - o) hn B v w1 (Nat.le_refl _) HM.out.bb
 rcases hn with rfl | rfl | rfl | rfl
 all_goals
  go_enter Tryz.func166, Tryz.ntmps166
  go_wp2_with fail
  refine c.mono ?_
  rintro e w1 ⟨rfl, hb⟩
  have M1 := HM.out.below hb
  have c2 := hR w1 (fun i hi => M1.cb _ (by omega))
  simp only [Nat.reduceEqDiff, if_true, if_false, reduceIte] at c2
  clear M1 c hR
  go_wp2_with (first | (go_at_call 177; refine c2.mono ?_; rintro e w2 ⟨rfl, rfl⟩) | (go_at_call 178; refine c2.mono ?_; rintro e w2 ⟨rfl, rfl⟩) | (go_at_call 69; refine c2.mono ?_; rintro e w2 ⟨rfl, rfl⟩) | (go_at_call 83; refine c2.mono ?_; rintro e w2 ⟨rfl, rfl⟩))
  go_ret2
  exact ⟨rfl, hb⟩
end
end Go.Proofs.YtacdgfojdkppmaaGreatDoor.Rm
