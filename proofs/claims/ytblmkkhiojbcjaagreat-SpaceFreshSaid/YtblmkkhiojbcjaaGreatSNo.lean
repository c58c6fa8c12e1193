import Derived.Test.YtblmkkhiojbcjaaGreatAlloc
import Derived.LoopN
namespace Go.Proofs.YtblmkkhiojbcjaaGreat
open Go.RowKit
set_option linter.unusedVariables false
set_option linter.unusedSimpArgs false
/-- The free frames of a new memory. -/
def down : Nat → List Nat
  | 0 => []
  | k + 1 => (k + 1) :: down k
theorem down_mem : ∀ (k i : Nat), i ∈ down k ↔ 1 ≤ i ∧ i ≤ k
  | 0, i => by simp [down]; omega
  | k + 1, i => by
    simp only [down, List.mem_cons, down_mem k i]
    omega
theorem down_nd : ∀ k : Nat, (down k).Nodup
  | 0 => List.nodup_nil
  | k + 1 => List.nodup_cons.2 ⟨fun h => by have := (down_mem k (k + 1)).1 h; omega, down_nd k⟩
theorem down_len : ∀ k : Nat, (down k).length = k
  | 0 => rfl
  | k + 1 => by simp only [down, List.length_cons, down_len k]
/-- The bytes of a new memory. -/
def newB : Nat → Nat → Int
  | 0 => over (fun _ => 0) 0 (le 270532723 4)
  | k + 1 => thr (newB k) (k + 1) (adr (down k))
theorem newB_first : ∀ (k j : Nat), j < 4096 → newB k j = newB 0 j
  | 0, _, _ => rfl
  | k + 1, j, hj => (thr_out (newB k) (k + 1) _ j (by omega)).trans (newB_first k j hj)
theorem newB_thr : ∀ k : Nat, Thr (newB k) (down k)
  | 0 => trivial
  | k + 1 => (newB_thr k).cons (k + 1) (fun h => by have := (down_mem k (k + 1)).1 h; omega)
theorem hd_new (n : Nat) (h : 1 ≤ n) (a : Int) : (decide (a = 2147483648) || false) = hdL n (down (n - 1)) a := by
  unfold hdL
  by_cases e : a = 2147483648
  · subst e
    have h1 := isFr_addr 0 n (by omega)
    simp only [Int.natCast_zero, Int.zero_mul, Int.add_zero] at h1
    have h2 : ¬ 0 ∈ down (n - 1) := fun h => by have := (down_mem _ _).1 h; omega
    simp [h1, h2]
  · cases hf : isFr a n with
    | false => simp [e]
    | true =>
      have hf' : a % 4096 = 0 ∧ 2147483648 ≤ a ∧ a < 2147483648 + (n : Int) * 4096 := by simpa [isFr] using hf
      have : ((a - 2147483648) / 4096).toNat ∈ down (n - 1) := (down_mem _ _).2 (by omega)
      simp [e, this]
/-- What New hands back. -/
def NewP (w : World) (n : Nat) (e : Ending) (w' : World) : Prop := ∃ p b m, w.heap.size ≤ p ∧ w.heap.size ≤ b ∧ w.heap.size ≤ m ∧ e = .returned (.tuple #[.pointer (some ⟨p, 0, .none⟩), .nilIface]) ∧ Ram w' p b m n (newB (n - 1)) (down (n - 1)) ∧ Below w.heap.size w w'
set_option maxHeartbeats 1000000 in
theorem new_any (n : Nat) (h1 : 1 ≤ n) (h2 : n ≤ 4096) (w : World) : Calls Tryz.prog 41 #[.int .i64 n] w fun e w' => NewP w n e w' := by
  have c := mayHave_any n w
  have e0 : decide (1 ≤ (n : Int) ∧ (n : Int) ≤ 4096) = true := by simp; omega
  rw [e0] at c
  have c1 := blank_any n h1 h2 w
  go_enter Tryz.func41, Tryz.ntmps41
  go_wp2_with (first | (go_at_call 79; refine c.mono ?_; rintro e w0 ⟨rfl, rfl⟩) | fail)
  refine c1.mono ?_
  rintro e w1 ⟨p, b, m, hp, hb, hm, rfl, M1, B1⟩
  clear c c1
  have HM1 : Hid (Mem w1 p b m n (fun _ => 0) 0 (fun _ => false) 0) := M1
  have HB1 : Hid (Below w0.heap.size w0 w1) := B1
  have k2 := M1.c2
  obtain ⟨D, hown, hhas, hsz⟩ := M1.hm
  have hmax : Maps.size D < maxLen := by rw [hsz]; unfold maxLen; omega
  clear M1 B1
  go_wp2_with (first | (at_mapUpdate; refine wpList_mapUpdate_in _ rfl _ _ _ 100 rfl 23 110 law22 Tryz.underlying100 unitElem m _ D rfl hown hmax _ _ _ rfl rfl (Maps.keyOf_int_mk Tryz.underlying23 (WalkArith.wf_u64 (by omega))) _ [] unitElem_mk ?_; intro w2 hown2 hturn) | fail)
  have M2 := HM1.out.put hown hhas hsz 2147483648 (by omega) rfl hown2 hturn
  have F2 : Fra p b m w1 w2 := (Fra.refl p b m w1).turned hturn
  clear hown hhas hsz hmax hown2 hturn
  have c2 := frame_any M2 0 (by omega)
  simp only [Int.natCast_zero, Int.zero_mul, Int.add_zero, Nat.zero_mul, Nat.sub_zero] at c2
  have c3 := number32_write b 0 4096 (4096 * n) 270532723 w2 (by omega) (fun k hk => by rw [M2.cb _ (by omega)]; rfl) (fun k hk => M2.fb _ (by omega)) (by omega)
  have M3 := M2.setCells 0 (le 270532723 4) (by rw [le_len]; omega) (le_bd _ _)
  have F3 := F2.setCells 0 ((le 270532723 4).map (.int .u8))
  generalize w2.setCells b 0 ((le 270532723 4).map (.int .u8)) = w3 at *
  go_wp2_with (first | (go_at_call 74; refine c2.mono ?_; rintro e w4 ⟨rfl, rfl⟩) | (go_at_call 82; refine c3.mono ?_; rintro e w5 ⟨rfl, rfl⟩) | fail)
  have HM3 : Hid (Mem w5 p b m n (newB 0) (adr (down 0)) (fun x => decide (x = 2147483648) || false) 1) := M3
  have HF3 : Hid (Fra p b m w1 w5) := F3
  clear M2 F2 M3 F3 c2 c3
  go_loopw [5] (fun k wr => ∃ i : Nat, i + 1 ≤ n ∧ k = .int .i64 (i + 1) ∧ Mem wr p b m n (newB i) (adr (down i)) (fun x => decide (x = 2147483648) || false) 1 ∧ Fra p b m w1 wr) (fun k _ => n - (intOf k).toNat)
  case atStart => exact ⟨0, by omega, rfl, HM3.out, HF3.out⟩
  case round =>
    obtain ⟨i, hi, rfl, M, F⟩ := hrel
    have HM : Hid (Mem wr p b m n (newB i) (adr (down i)) (fun x => decide (x = 2147483648) || false) 1) := M
    have HF : Hid (Fra p b m w1 wr) := F
    by_cases hin : i + 1 < n
    · have i1 : (i : Int) + 1 < n := by omega
      have c4 := addr_any (i + 1) (by omega) (by omega) wr
      have c5 := thread_any M (i + 1) hin
      rw [show ((i + 1 : Nat) : Int) = (i : Int) + 1 by omega] at c5
      clear M F
      go_wp2_with (first | (go_at_call 83; refine c4.mono ?_; rintro e w6 ⟨rfl, rfl⟩) | fail)
      refine c5.mono ?_
      rintro e w7 ⟨⟨v, rfl⟩, M7, F7⟩
      have HM7 : Hid (Mem w7 p b m n (newB (i + 1)) (adr (down (i + 1))) (fun x => decide (x = 2147483648) || false) 1) := by
        have := M7
        rw [show (2147483648 + ((i : Int) + 1) * 4096) = adr (down (i + 1)) by simp [down, adr]] at this
        exact this
      have HF7 : Hid (Fra p b m w1 w7) := HF.out.trans F7
      clear M7 F7 c4 c5
      go_wp2
      exact ⟨⟨i + 1, by omega, by simp, HM7.out, HF7.out⟩, by simp [intOf]; omega⟩
    · have i1 : ¬ ((i : Int) + 1 < n) := by omega
      clear M F
      go_wp2
      go_ret2
      have ein : i = n - 1 := by omega
      subst ein
      refine ⟨p, b, m, hp, hb, hm, rfl, ⟨?_, down_nd _, fun j hj => by have := (down_mem _ _).1 hj; omega, newB_thr _⟩, HB1.out.trans (HF.out.toBelow (HB1.out.size) hp hb hm)⟩
      have := HM.out.congr (fun a _ _ => hd_new n h1 a)
      rw [down_len, show n - (n - 1) = 1 by omega]
      exact this
end Go.Proofs.YtblmkkhiojbcjaaGreat
namespace Go.Proofs.YtblmkkhiojbcjaaGreat
open Go.RowKit
set_option linter.unusedVariables false
set_option linter.unusedSimpArgs false
section
variable {w : World} {p b m N cnt : Nat} {B : Nat → Int} {nx : Int} {hd : Int → Bool}
set_option maxHeartbeats 2000000 in
theorem reach_ok (h : Mem w p b m N B nx hd cnt) (o n : Nat) (hn : 1 ≤ n) (ho : o + n ≤ 4096 * N) (hh : ∀ f : Nat, o / 4096 ≤ f → f * 4096 < o + n → hd (2147483648 + f * 4096) = true) :
    Calls Tryz.prog 90 #[.pointer (some ⟨p, 0, .none⟩), .int .u64 (2147483648 + o), .int .i64 n] w fun e w' => e = .returned (.tuple #[.slice (some ⟨b, o, .none⟩) n (4096 * N - o), .bool true]) ∧ Below w.heap.size w w' := by
  have c := made_some p b _ _ w h.c0
  have k0 := h.c0
  have n2 := h.n2
  have i1 : ¬ ((n : Int) < 0) := by omega
  have i2 : ((n : Int) == 0) = false := by simp; omega
  have i3 : (n : Int) ≤ 4096 * N - o := by omega
  have i4 : (o : Int) < 4096 * N := by omega
  have HM : Hid (Mem w p b m N B nx hd cnt) := h
  clear h
  go_enter Tryz.func90, Tryz.ntmps90
  go_wp2_with (first | (go_at_call 63; refine c.mono ?_; rintro e w0 ⟨rfl, rfl⟩) | fail)
  go_quiet (fail)
  go_wp2
  simp only [show (2147483648 + (o : Int) - 2147483648) = o by omega]
  go_loopw [11] (fun k wr => ∃ f : Nat, o / 4096 ≤ f ∧ f * 4096 < o + n + 4096 ∧ k = .int .u64 (2147483648 + f * 4096) ∧ Below w0.heap.size w0 wr) (fun k _ => (2147483648 + o + n + 4096 - intOf k).toNat)
  case atStart => exact ⟨o / 4096, by omega, by omega, congrArg _ (by omega), below_drewN (Below.refl _ _) _⟩
  case round =>
    obtain ⟨f, hf1, hf2, rfl, hB⟩ := hrel
    have M := HM.out.below hB
    have HB : Hid (Below w0.heap.size w0 wr) := hB
    by_cases hfn : f * 4096 < o + n
    · have j1 : (2147483648 + (f : Int) * 4096) < 2147483648 + (o + n) := by omega
      have q : Hid (o / 4096 ≤ f + 1 ∧ (f + 1) * 4096 < o + n + 4096 ∧ Value.int .u64 (2147483648 + (f : Int) * 4096 + 4096) = .int .u64 (2147483648 + ((f + 1 : Nat) : Int) * 4096) ∧ (2147483648 + (o : Int) + n + 4096 - intOf (.int .u64 (2147483648 + (f : Int) * 4096 + 4096))).toNat < (2147483648 + (o : Int) + n + 4096 - intOf (.int .u64 (2147483648 + (f : Int) * 4096))).toNat) := by
        refine ⟨by omega, (by rw [Nat.succ_mul]; exact Nat.add_lt_add_right hfn 4096), ?_, ?_⟩
        · rw [show ((f + 1 : Nat) : Int) = (f : Int) + 1 by omega, show 2147483648 + ((f : Int) + 1) * 4096 = 2147483648 + (f : Int) * 4096 + 4096 by omega]
        · simp only [intOf]
          omega
      have c1 := isHeld_any M (2147483648 + f * 4096) (by omega)
      rw [hh f hf1 hfn] at c1
      clear M hB
      go_wp2_with (first | (go_at_call 70; refine c1.mono ?_; rintro e w1 ⟨rfl, hb1⟩) | fail)
      exact ⟨⟨f + 1, q.out.1, q.out.2.1, q.out.2.2.1, HB.out.trans (hb1.mono HB.out.size)⟩, q.out.2.2.2⟩
    · have j1 : ¬ ((2147483648 + (f : Int) * 4096) < 2147483648 + (o + n)) := by omega
      have k0 := M.c0
      clear M hB
      go_wp2
      go_ret2
      exact ⟨rfl, HB.out⟩
/-- Numbers of each width, by one word. -/
theorem number_read (b o n len cap : Nat) (hn : n = 1 ∨ n = 2 ∨ n = 4 ∨ n = 8) (B : Nat → Int) (v : Int) (w : World) (hl : n ≤ len) (hB : ∀ i, 0 ≤ B i ∧ B i < 256) (hc : ∀ i, i < n → w.cell? ⟨b, o + i, .none⟩ = some (.int .u8 (B (o + i)))) :
    Calls Tryz.prog (if n = 1 then 154 else if n = 2 then 155 else if n = 4 then 82 else 105) #[.slice (some ⟨b, o, .none⟩) len cap, .bool false, .int .u64 v] w fun e w' => e = .returned (.int .u64 (num B o n)) ∧ w' = w := by
  rcases hn with rfl | rfl | rfl | rfl
  · exact number8_read b o len cap B v w hl hB hc
  · exact number16_read b o len cap B v w hl hB hc
  · exact number32_read b o len cap B v w hl hB hc
  · exact number64_read b o len cap B v w hl hB hc
theorem number_write (b o n len cap : Nat) (hn : n = 1 ∨ n = 2 ∨ n = 4 ∨ n = 8) (v : Int) (w : World) (hl : n ≤ len) (hc : ∀ i, i < n → (w.cell? ⟨b, o + i, .none⟩).isSome = true) (hf : ∀ i, i < n → w.frozen? ⟨b, o + i, .none⟩ = false) (hv : 0 ≤ v ∧ v < 18446744073709551616) :
    Calls Tryz.prog (if n = 1 then 154 else if n = 2 then 155 else if n = 4 then 82 else 105) #[.slice (some ⟨b, o, .none⟩) len cap, .bool true, .int .u64 v] w fun e w' => e = .returned (.int .u64 (md v n)) ∧ w' = w.setCells b o ((le v n).map (.int .u8)) := by
  rcases hn with rfl | rfl | rfl | rfl
  · exact number8_write b o len cap v w hl hc hf hv
  · exact number16_write b o len cap v w hl hc hf hv
  · exact number32_write b o len cap v w hl hc hf hv
  · exact number64_write b o len cap v w hl hc hf hv
set_option maxHeartbeats 1000000 in
theorem access_read (h : Mem w p b m N B nx hd cnt) (o n : Nat) (hn : n = 1 ∨ n = 2 ∨ n = 4 ∨ n = 8) (ho : o + n ≤ 4096 * N) (hh : ∀ f : Nat, o / 4096 ≤ f → f * 4096 < o + n → hd (2147483648 + f * 4096) = true) (v : Int) :
    Calls Tryz.prog 141 #[.pointer (some ⟨p, 0, .none⟩), .int .u64 (2147483648 + o), .int .i64 n, .bool false, .int .u64 v] w fun e w' => e = .returned (.tuple #[.int .u64 (num B o n), .bool true]) ∧ Below w.heap.size w w' := by
  have c := reach_ok h o n (by omega) ho hh
  have HM : Hid (Mem w p b m N B nx hd cnt) := h
  clear h hh
  have hR := fun w1 => number_read b o n n (4096 * N - o) hn B v w1 (Nat.le_refl _) HM.out.bb
  rcases hn with rfl | rfl | rfl | rfl
  all_goals
    go_enter Tryz.func141, Tryz.ntmps141
    go_wp2_with fail
    refine c.mono ?_
    rintro e w1 ⟨rfl, hb⟩
    have M1 := HM.out.below hb
    have c2 := hR w1 (fun i hi => M1.cb _ (by omega))
    simp only [Nat.reduceEqDiff, if_true, if_false, reduceIte] at c2
    clear M1 c hR
    go_wp2_with (first | (go_at_call 154; refine c2.mono ?_; rintro e w2 ⟨rfl, rfl⟩) | (go_at_call 155; refine c2.mono ?_; rintro e w2 ⟨rfl, rfl⟩) | (go_at_call 82; refine c2.mono ?_; rintro e w2 ⟨rfl, rfl⟩) | (go_at_call 105; refine c2.mono ?_; rintro e w2 ⟨rfl, rfl⟩))
    go_ret2
    exact ⟨rfl, hb⟩
end
end Go.Proofs.YtblmkkhiojbcjaaGreat
namespace Go.Proofs.YtblmkkhiojbcjaaGreat
open Go.RowKit
set_option linter.unusedVariables false
set_option linter.unusedSimpArgs false
/-- A row of bytes at the beginning of a block. -/
def RowB (w : World) (g n : Nat) (R : Nat → Int) : Prop := ∀ i, i < n → w.cell? ⟨g, i, .none⟩ = some (.int .u8 (R i))
theorem RowB.below {w w' : World} {g n k : Nat} {R : Nat → Int} (h : RowB w g n R) (b : Below k w w') (hg : g < k) : RowB w' g n R := fun i hi => (b.cell (p := ⟨g, i, .none⟩) hg).trans (h i hi)
section
variable {w : World} {p b m N cnt : Nat} {B : Nat → Int} {nx : Int} {hd : Int → Bool}
set_option maxHeartbeats 1000000 in
theorem access_write (h : Mem w p b m N B nx hd cnt) (o n : Nat) (hn : n = 1 ∨ n = 2 ∨ n = 4 ∨ n = 8) (ho : o + n ≤ 4096 * N) (hh : ∀ f : Nat, o / 4096 ≤ f → f * 4096 < o + n → hd (2147483648 + f * 4096) = true) (v : Int) (hv : 0 ≤ v ∧ v < 18446744073709551616) :
    Calls Tryz.prog 141 #[.pointer (some ⟨p, 0, .none⟩), .int .u64 (2147483648 + o), .int .i64 n, .bool true, .int .u64 v] w fun e w' => e = .returned (.tuple #[.int .u64 (md v n), .bool true]) ∧ Mem w' p b m N (over B o (le v n)) nx hd cnt ∧ Fra p b m w w' := by
  have c := reach_ok h o n (by omega) ho hh
  have HM : Hid (Mem w p b m N B nx hd cnt) := h
  clear h hh
  have hR := fun w1 => number_write b o n n (4096 * N - o) hn v w1 (Nat.le_refl _)
  have HE : Hid (∀ w1 w2, Below w.heap.size w w1 → w2 = w1.setCells b o ((le v n).map (.int .u8)) → Mem w2 p b m N (over B o (le v n)) nx hd cnt ∧ Fra p b m w w2) := fun w1 w2 hb e => by
    subst e
    exact ⟨(HM.out.below hb).setCells o _ (by rw [le_len]; exact ho) (le_bd v _), (Fra.below (p := p) (b := b) (m := m) hb).setCells o _⟩
  rcases hn with rfl | rfl | rfl | rfl
  all_goals
    go_enter Tryz.func141, Tryz.ntmps141
    go_wp2_with fail
    refine c.mono ?_
    rintro e w1 ⟨rfl, hb⟩
    have M1 := HM.out.below hb
    have c2 := hR w1 (fun i hi => by rw [M1.cb _ (by omega)]; rfl) (fun i hi => M1.fb _ (by omega)) hv
    simp only [Nat.reduceEqDiff, if_true, if_false, reduceIte] at c2
    clear M1 c hR
    go_wp2_with (first | (go_at_call 154; refine c2.mono ?_; rintro e w2 ⟨rfl, hw⟩; have hE := HE.out w1 w2 hb hw; clear hw) | (go_at_call 155; refine c2.mono ?_; rintro e w2 ⟨rfl, hw⟩; have hE := HE.out w1 w2 hb hw; clear hw) | (go_at_call 82; refine c2.mono ?_; rintro e w2 ⟨rfl, hw⟩; have hE := HE.out w1 w2 hb hw; clear hw) | (go_at_call 105; refine c2.mono ?_; rintro e w2 ⟨rfl, hw⟩; have hE := HE.out w1 w2 hb hw; clear hw))
    go_ret2
    exact ⟨rfl, hE⟩
theorem load_ok (h : Mem w p b m N B nx hd cnt) (o n : Nat) (hn : n = 1 ∨ n = 2 ∨ n = 4 ∨ n = 8) (ho : o + n ≤ 4096 * N) (hh : ∀ f : Nat, o / 4096 ≤ f → f * 4096 < o + n → hd (2147483648 + f * 4096) = true) :
    Calls Tryz.prog 118 #[.pointer (some ⟨p, 0, .none⟩), .int .u64 (2147483648 + o), .int .i64 n] w fun e w' => e = .returned (.tuple #[.int .u64 (num B o n), .bool true]) ∧ Below w.heap.size w w' := by
  have c := access_read h o n hn ho hh 0
  clear h hh hn
  go_enter Tryz.func118, Tryz.ntmps118
  go_wp2_with (go_at_call 141; refine c.mono ?_; rintro e w1 ⟨rfl, hb⟩)
  go_ret2
  exact ⟨rfl, hb⟩
theorem store_ok (h : Mem w p b m N B nx hd cnt) (o n : Nat) (hn : n = 1 ∨ n = 2 ∨ n = 4 ∨ n = 8) (ho : o + n ≤ 4096 * N) (hh : ∀ f : Nat, o / 4096 ≤ f → f * 4096 < o + n → hd (2147483648 + f * 4096) = true) (v : Int) (hv : 0 ≤ v ∧ v < 18446744073709551616) :
    Calls Tryz.prog 116 #[.pointer (some ⟨p, 0, .none⟩), .int .u64 (2147483648 + o), .int .i64 n, .int .u64 v] w fun e w' => e = .returned (.bool true) ∧ Mem w' p b m N (over B o (le v n)) nx hd cnt ∧ Fra p b m w w' := by
  have c := access_write h o n hn ho hh v hv
  clear h hh hn hv
  go_enter Tryz.func116, Tryz.ntmps116
  go_wp2_with (go_at_call 141; refine c.mono ?_; rintro e w1 ⟨rfl, hM, hF⟩)
  go_ret
  exact ⟨rfl, hM, hF⟩
/-- A copy of bytes. -/
def CopyP (w : World) (n : Nat) (R : Nat → Int) (e : Ending) (w' : World) : Prop := ∃ g, w.heap.size ≤ g ∧ g < w'.heap.size ∧ e = .returned (.slice (some ⟨g, 0, .none⟩) n n) ∧ RowB w' g n R ∧ (∀ i, i < n → w'.frozen? ⟨g, i, .none⟩ = false) ∧ Below w.heap.size w w'
theorem copied_any (b o n cap : Nat) (R : Nat → Int) (w : World) (hn : 1 ≤ n) (hn2 : n ≤ 16777216) (hc : ∀ i, i < n → w.cell? ⟨b, o + i, .none⟩ = some (.int .u8 (R i))) :
    Calls Tryz.prog 91 #[.slice (some ⟨b, o, .none⟩) n cap] w fun e w' => CopyP w n R e w' := by
  have hmk := make_bytes n hn2 w
  have hb : b < w.heap.size := lt_of_cell (hc 0 hn)
  have HZ : ∀ i, i < n → (w.alloc (.cells (Zs n) 5)).cell? ⟨w.heap.size, i, .none⟩ = some (.int .u8 0) := fun i hi => by
    rw [World.cell?_alloc_at _ _ _ _ rfl]
    exact Zs_at n i hi
  have HZf : ∀ i, i < n → (w.alloc (.cells (Zs n) 5)).frozen? ⟨w.heap.size, i, .none⟩ = false := fun i hi => World.frozen?_alloc_new _ _ _ _
  have hg : w.heap.size < (w.alloc (.cells (Zs n) 5)).heap.size := by simp
  have hB0 : Below w.heap.size w (w.alloc (.cells (Zs n) 5)) := (Below.refl _ _).alloc (Nat.le_refl _) _
  have hcp : ∀ ty, (Builtin.copy_ #[24, 24] ty #[.slice (some ⟨w.heap.size, 0, .none⟩) n n, .slice (some ⟨b, o, .none⟩) n cap]).run Tryz.prog (w.alloc (.cells (Zs n) 5)) = .ok (.int .i64 n) ((w.alloc (.cells (Zs n) 5)).setCells w.heap.size 0 ((List.range n).map fun i => .int .u8 (R i))) := fun ty => by
    have := run_copy_cells (P := Tryz.prog) (w.alloc (.cells (Zs n) 5)) 24 24 ty 5 w.heap.size 0 n n ⟨b, o, .none⟩ n cap ((List.range n).map fun i => .int .u8 (R i)) Tryz.underlying24 info5 (by simp)
      (fun j v hj => by
        rw [addr_add]
        rw [List.getElem?_map] at hj
        by_cases hjn : j < n
        · rw [List.getElem?_range hjn] at hj
          simp only [Option.map_some, Option.some.injEq] at hj
          subst hj
          rw [World.cell?_alloc_past _ _ _ (show b < w.heap.size from hb)]
          exact hc j hjn
        · rw [List.getElem?_eq_none (by simp; omega)] at hj
          cases hj)
      (fun j hj => by rw [Nat.zero_add, HZ j (by simpa using hj)]; rfl) (fun j hj => by rw [Nat.zero_add]; exact HZf j (by simpa using hj)) (fun v hv => by simp only [List.mem_map] at hv; obtain ⟨i, _, rfl⟩ := hv; rfl)
    rw [this]
    simp [goInt]
  have HR : Hid (RowB ((w.alloc (.cells (Zs n) 5)).setCells w.heap.size 0 ((List.range n).map fun i => .int .u8 (R i))) w.heap.size n R) := fun i hi => by
    have := World.cell?_setCells_in w.heap.size ((List.range n).map fun i => Value.int .u8 (R i)) 0 (w.alloc (.cells (Zs n) 5)) (fun j hj => by rw [Nat.zero_add, HZ j (by simpa using hj)]; rfl) i (by simpa using hi)
    rw [Nat.zero_add] at this
    rw [this]
    simp
  have HRf : Hid (∀ i, i < n → ((w.alloc (.cells (Zs n) 5)).setCells w.heap.size 0 ((List.range n).map fun i => .int .u8 (R i))).frozen? ⟨w.heap.size, i, .none⟩ = false) := fun i hi => by rw [World.frozen?_setCells]; exact HZf i hi
  have HBl : Hid (Below w.heap.size w ((w.alloc (.cells (Zs n) 5)).setCells w.heap.size 0 ((List.range n).map fun i => .int .u8 (R i)))) := by
    have key : ∀ (us : List Value) (o : Nat) (w1 : World), Below w.heap.size w w1 → Below w.heap.size w (w1.setCells w.heap.size o us) := by
      intro us
      induction us with
      | nil => intro o w1 h; exact h
      | cons u us ih => intro o w1 h; exact ih (o + 1) _ (h.setCell (p := ⟨w.heap.size, o, .none⟩) (Nat.le_refl _) _)
    exact key _ 0 _ hB0
  have HS : Hid (w.heap.size < ((w.alloc (.cells (Zs n) 5)).setCells w.heap.size 0 ((List.range n).map fun i => .int .u8 (R i))).heap.size) := lt_of_cell (HR.out 0 hn)
  generalize (w.alloc (.cells (Zs n) 5)).setCells w.heap.size 0 ((List.range n).map fun i => .int .u8 (R i)) = w2 at *
  clear hc HZ HZf hB0 hg
  generalize w.alloc (.cells (Zs n) 5) = w1 at *
  go_enter Tryz.func91, Tryz.ntmps91
  go_wp2
  go_ret
  exact ⟨w.heap.size, Nat.le_refl _, HS.out, rfl, HR.out, HRf.out, HBl.out⟩
end
end Go.Proofs.YtblmkkhiojbcjaaGreat
namespace Go.Proofs.YtblmkkhiojbcjaaGreat
open Go.RowKit
set_option linter.unusedVariables false
set_option linter.unusedSimpArgs false
def ReadP (w : World) (n : Nat) (R : Nat → Int) (e : Ending) (w' : World) : Prop := ∃ g, w.heap.size ≤ g ∧ g < w'.heap.size ∧ e = .returned (.tuple #[.slice (some ⟨g, 0, .none⟩) n n, .bool true]) ∧ RowB w' g n R ∧ (∀ i, i < n → w'.frozen? ⟨g, i, .none⟩ = false) ∧ Below w.heap.size w w'
section
variable {w : World} {p b m N cnt : Nat} {B : Nat → Int} {nx : Int} {hd : Int → Bool}
set_option maxHeartbeats 1000000 in
theorem read_ok (h : Mem w p b m N B nx hd cnt) (o n : Nat) (hn : 1 ≤ n) (ho : o + n ≤ 4096 * N) (hh : ∀ f : Nat, o / 4096 ≤ f → f * 4096 < o + n → hd (2147483648 + f * 4096) = true) :
    Calls Tryz.prog 55 #[.pointer (some ⟨p, 0, .none⟩), .int .u64 (2147483648 + o), .int .i64 n] w fun e w' => ReadP w n (fun i => B (o + i)) e w' := by
  have c := reach_ok h o n hn ho hh
  have HM : Hid (Mem w p b m N B nx hd cnt) := h
  have n2 := h.n2
  clear h hh
  have i1 : ((n : Int) == 0) = false := by simp; omega
  go_enter Tryz.func55, Tryz.ntmps55
  go_wp2_with fail
  refine c.mono ?_
  rintro e w1 ⟨rfl, hb⟩
  have M1 := HM.out.below hb
  have c2 := copied_any b o n (4096 * N - o) (fun i => B (o + i)) w1 hn (by omega) (fun i hi => M1.cb _ (by omega))
  clear M1 c
  have HB : Hid (Below w.heap.size w w1) := hb
  clear hb
  go_wp2_with fail
  refine c2.mono ?_
  rintro e w2 ⟨g, hg1, hg2, rfl, hr, hf, hb2⟩
  have HP : Hid (ReadP w n (fun i => B (o + i)) (.returned (.tuple #[.slice (some ⟨g, 0, .none⟩) n n, .bool true])) w2) := ⟨g, Nat.le_trans HB.out.size hg1, hg2, rfl, hr, hf, HB.out.trans (hb2.mono HB.out.size)⟩
  clear c2 hg1 hg2 hr hf hb2
  go_wp2
  go_ret2
  exact HP.out
set_option maxHeartbeats 1000000 in
theorem write_ok (h : Mem w p b m N B nx hd cnt) (o n : Nat) (hn : 1 ≤ n) (ho : o + n ≤ 4096 * N) (hh : ∀ f : Nat, o / 4096 ≤ f → f * 4096 < o + n → hd (2147483648 + f * 4096) = true) (g k c : Nat) (R : Nat → Int) (hR : ∀ i, 0 ≤ R i ∧ R i < 256) (hg : ∀ i, i < n → w.cell? ⟨g, k + i, .none⟩ = some (.int .u8 (R i))) :
    Calls Tryz.prog 85 #[.pointer (some ⟨p, 0, .none⟩), .int .u64 (2147483648 + o), .slice (some ⟨g, k, .none⟩) n c] w fun e w' => e = .returned (.bool true) ∧ Mem w' p b m N (over B o ((List.range n).map R)) nx hd cnt ∧ Fra p b m w w' := by
  have c1 := reach_ok h o n hn ho hh
  have HM : Hid (Mem w p b m N B nx hd cnt) := h
  have hgw : g < w.heap.size := lt_of_cell (hg 0 hn)
  have n2 := h.n2
  have key : Hid (∀ w1, Below w.heap.size w w1 → ∃ w2, (∀ ty, (Builtin.copy_ #[24, 24] ty #[.slice (some ⟨b, o, .none⟩) n (4096 * N - o), .slice (some ⟨g, k, .none⟩) n c]).run Tryz.prog w1 = .ok (.int .i64 n) w2) ∧ Mem w2 p b m N (over B o ((List.range n).map R)) nx hd cnt ∧ Fra p b m w w2) := fun w1 hb => by
    have M1 := HM.out.below hb
    refine ⟨w1.setCells b o (((List.range n).map R).map (.int .u8)), fun ty => ?_, M1.setCells o _ (by simpa using ho) (fun v hv => by simp only [List.mem_map] at hv; obtain ⟨i, _, rfl⟩ := hv; exact hR i), (Fra.below hb).setCells o _⟩
    have := run_copy_cells (P := Tryz.prog) w1 24 24 ty 5 b o n (4096 * N - o) ⟨g, k, .none⟩ n c (((List.range n).map R).map (.int .u8)) Tryz.underlying24 info5 (by simp)
      (fun j v hj => by
        rw [addr_add]
        rw [List.getElem?_map, List.getElem?_map] at hj
        by_cases hjn : j < n
        · rw [List.getElem?_range hjn] at hj
          simp only [Option.map_some, Option.some.injEq] at hj
          subst hj
          exact (hb.cell (p := ⟨g, k + j, .none⟩) hgw).trans (hg j hjn)
        · rw [List.getElem?_eq_none (by simp; omega)] at hj
          cases hj)
      (fun j hj => by rw [M1.cb _ (by simp at hj; omega)]; rfl) (fun j hj => M1.fb _ (by simp at hj; omega)) (fun v hv => by simp only [List.mem_map] at hv; obtain ⟨i, _, rfl⟩ := hv; rfl)
    rw [this]
    simp [goInt]
  clear h hh hg hR
  go_enter Tryz.func85, Tryz.ntmps85
  go_wp2_with fail
  refine c1.mono ?_
  rintro e w1 ⟨rfl, hb⟩
  obtain ⟨w2, hcp, hM, hF⟩ := key.out w1 hb
  clear c1 hb
  go_wp2
  go_ret
  exact ⟨rfl, hM, hF⟩
end
end Go.Proofs.YtblmkkhiojbcjaaGreat
namespace Go.Proofs.YtblmkkhiojbcjaaGreat
open Go.RowKit
set_option linter.unusedVariables false
set_option linter.unusedSimpArgs false
section
variable {w : World} {p b m N cnt : Nat} {B : Nat → Int} {nx : Int} {hd : Int → Bool}
theorem reach_neg (h : Mem w p b m N B nx hd cnt) (pa n : Int) (hn : n < 0) : Calls Tryz.prog 90 #[.pointer (some ⟨p, 0, .none⟩), .int .u64 pa, .int .i64 n] w fun e w' => e = .returned (.tuple #[.slice .none 0 0, .bool false]) ∧ w' = w := by
  have c := made_some p b _ _ w h.c0
  clear h
  go_enter Tryz.func90, Tryz.ntmps90
  go_wp2_with (go_at_call 63; refine c.mono ?_; rintro e w0 ⟨rfl, rfl⟩)
  go_ret2
  exact ⟨rfl, rfl⟩
theorem reach_zero (h : Mem w p b m N B nx hd cnt) (pa : Int) : Calls Tryz.prog 90 #[.pointer (some ⟨p, 0, .none⟩), .int .u64 pa, .int .i64 0] w fun e w' => e = .returned (.tuple #[.slice .none 0 0, .bool true]) ∧ w' = w := by
  have c := made_some p b _ _ w h.c0
  clear h
  go_enter Tryz.func90, Tryz.ntmps90
  go_wp2_with (go_at_call 63; refine c.mono ?_; rintro e w0 ⟨rfl, rfl⟩)
  go_ret2
  exact ⟨rfl, rfl⟩
set_option maxHeartbeats 2000000 in
theorem reach_hole (h : Mem w p b m N B nx hd cnt) (o n : Nat) (hn : 1 ≤ n) (ho : o + n ≤ 4096 * N) (f0 : Nat) (hf1 : o / 4096 ≤ f0) (hf2 : f0 * 4096 < o + n) (hh : hd (2147483648 + f0 * 4096) = false) :
    Calls Tryz.prog 90 #[.pointer (some ⟨p, 0, .none⟩), .int .u64 (2147483648 + o), .int .i64 n] w fun e w' => e = .returned (.tuple #[.slice .none 0 0, .bool false]) ∧ Below w.heap.size w w' := by
  have c := made_some p b _ _ w h.c0
  have k0 := h.c0
  have n2 := h.n2
  have i1 : ¬ ((n : Int) < 0) := by omega
  have i2 : ((n : Int) == 0) = false := by simp; omega
  have i3 : (n : Int) ≤ 4096 * N - o := by omega
  have i4 : (o : Int) < 4096 * N := by omega
  have HM : Hid (Mem w p b m N B nx hd cnt) := h
  clear h
  go_enter Tryz.func90, Tryz.ntmps90
  go_wp2_with (first | (go_at_call 63; refine c.mono ?_; rintro e w0 ⟨rfl, rfl⟩) | fail)
  go_quiet (fail)
  go_wp2
  simp only [show (2147483648 + (o : Int) - 2147483648) = o by omega]
  go_loopw [11] (fun k wr => ∃ f : Nat, f ≤ f0 ∧ k = .int .u64 (2147483648 + f * 4096) ∧ Below w0.heap.size w0 wr) (fun k _ => (2147483648 + o + n + 4096 - intOf k).toNat)
  case atStart => exact ⟨o / 4096, by omega, congrArg _ (by omega), below_drewN (Below.refl _ _) _⟩
  case round =>
    obtain ⟨f, hff, rfl, hB⟩ := hrel
    have M := HM.out.below hB
    have HB : Hid (Below w0.heap.size w0 wr) := hB
    have hfn : f * 4096 < o + n := Nat.lt_of_le_of_lt (Nat.mul_le_mul_right _ hff) hf2
    have j1 : (2147483648 + (f : Int) * 4096) < 2147483648 + (o + n) := by omega
    have c1 := isHeld_any M (2147483648 + f * 4096) (by omega)
    clear M hB
    cases hq : hd (2147483648 + f * 4096) with
    | true =>
      rw [hq] at c1
      have hne : f ≠ f0 := fun e => by rw [e, hh] at hq; cases hq
      have q : Hid (f + 1 ≤ f0 ∧ Value.int .u64 (2147483648 + (f : Int) * 4096 + 4096) = .int .u64 (2147483648 + ((f + 1 : Nat) : Int) * 4096) ∧ (2147483648 + (o : Int) + n + 4096 - intOf (.int .u64 (2147483648 + (f : Int) * 4096 + 4096))).toNat < (2147483648 + (o : Int) + n + 4096 - intOf (.int .u64 (2147483648 + (f : Int) * 4096))).toNat) := by
        refine ⟨by omega, ?_, ?_⟩
        · rw [show ((f + 1 : Nat) : Int) = (f : Int) + 1 by omega, show 2147483648 + ((f : Int) + 1) * 4096 = 2147483648 + (f : Int) * 4096 + 4096 by omega]
        · simp only [intOf]
          omega
      go_wp2_with (first | (go_at_call 70; refine c1.mono ?_; rintro e w1 ⟨rfl, hb1⟩) | fail)
      exact ⟨⟨f + 1, q.out.1, q.out.2.1, HB.out.trans (hb1.mono HB.out.size)⟩, q.out.2.2⟩
    | false =>
      rw [hq] at c1
      go_wp2_with (first | (go_at_call 70; refine c1.mono ?_; rintro e w1 ⟨rfl, hb1⟩) | fail)
      go_ret2
      exact ⟨rfl, HB.out.trans (hb1.mono HB.out.size)⟩
set_option maxHeartbeats 2000000 in
theorem reach_out (h : Mem w p b m N B nx hd cnt) (pa n : Int) (hp : 0 ≤ pa ∧ pa < 18446744073709551616) (hn : 1 ≤ n) (hn2 : n ≤ 9223372036854775807) (ho : ¬ (2147483648 ≤ pa ∧ pa - 2147483648 + n ≤ 4096 * N)) :
    Calls Tryz.prog 90 #[.pointer (some ⟨p, 0, .none⟩), .int .u64 pa, .int .i64 n] w fun e w' => e = .returned (.tuple #[.slice .none 0 0, .bool false]) ∧ Below w.heap.size w w' := by
  have c := made_some p b _ _ w h.c0
  have k0 := h.c0
  have n2 := h.n2
  have i1 : ¬ (n < 0) := by omega
  have i2 : (n == 0) = false := by simp; omega
  clear h
  by_cases h1 : 2147483648 ≤ pa
  · by_cases h2 : 4096 * (N : Int) ≤ pa - 2147483648
    · go_enter Tryz.func90, Tryz.ntmps90
      go_wp2_with (first | (go_at_call 63; refine c.mono ?_; rintro e w0 ⟨rfl, rfl⟩) | fail)
      go_quiet (fail)
      go_wp2
      go_ret2
      exact ⟨rfl, below_drewN (Below.refl _ _) _⟩
    · have h3 : 4096 * (N : Int) - (pa - 2147483648) < n := by omega
      go_enter Tryz.func90, Tryz.ntmps90
      go_wp2_with (first | (go_at_call 63; refine c.mono ?_; rintro e w0 ⟨rfl, rfl⟩) | fail)
      go_quiet (fail)
      go_wp2
      go_ret2
      exact ⟨rfl, below_drewN (Below.refl _ _) _⟩
  · have hw : IntKind.u64.wrap (pa - 2147483648) = pa - 2147483648 + 18446744073709551616 := by rw [IntKind.wrap_u64]; omega
    have h2 : 4096 * (N : Int) ≤ pa - 2147483648 + 18446744073709551616 := by omega
    generalize pa - 2147483648 + 18446744073709551616 = Z at *
    go_enter Tryz.func90, Tryz.ntmps90
    go_wp2_with (first | (go_at_call 63; refine c.mono ?_; rintro e w0 ⟨rfl, rfl⟩) | fail)
    go_quiet (fail)
    go_wp2
    go_ret2
    exact ⟨rfl, below_drewN (Below.refl _ _) _⟩
/-- A refusal, whatever its ground. -/
theorem access_no (pa n v : Int) (wr : Bool) (c : Calls Tryz.prog 90 #[.pointer (some ⟨p, 0, .none⟩), .int .u64 pa, .int .i64 n] w fun e w' => e = .returned (.tuple #[.slice .none 0 0, .bool false]) ∧ Below w.heap.size w w') :
    Calls Tryz.prog 141 #[.pointer (some ⟨p, 0, .none⟩), .int .u64 pa, .int .i64 n, .bool wr, .int .u64 v] w fun e w' => e = .returned (.tuple #[.int .u64 0, .bool false]) ∧ Below w.heap.size w w' := by
  go_enter Tryz.func141, Tryz.ntmps141
  go_wp2_with (go_at_call 90; refine c.mono ?_; rintro e w1 ⟨rfl, hb⟩)
  go_ret2
  exact ⟨rfl, hb⟩
/-- A width that is none. -/
theorem access_width (pa n v : Int) (wr : Bool) (q : Option Addr) (len cap : Nat) (ok : Bool) (hn : n ≠ 1 ∧ n ≠ 2 ∧ n ≠ 4 ∧ n ≠ 8) (c : Calls Tryz.prog 90 #[.pointer (some ⟨p, 0, .none⟩), .int .u64 pa, .int .i64 n] w fun e w' => e = .returned (.tuple #[.slice q len cap, .bool true]) ∧ Below w.heap.size w w') :
    Calls Tryz.prog 141 #[.pointer (some ⟨p, 0, .none⟩), .int .u64 pa, .int .i64 n, .bool wr, .int .u64 v] w fun e w' => e = .returned (.tuple #[.int .u64 0, .bool false]) ∧ Below w.heap.size w w' := by
  have e1 : (n == 1) = false := by simpa using hn.1
  have e2 : (n == 2) = false := by simpa using hn.2.1
  have e4 : (n == 4) = false := by simpa using hn.2.2.1
  have e8 : (n == 8) = false := by simpa using hn.2.2.2
  clear hn
  go_enter Tryz.func141, Tryz.ntmps141
  go_wp2_with (go_at_call 90; refine c.mono ?_; rintro e w1 ⟨rfl, hb⟩)
  go_ret2
  exact ⟨rfl, hb⟩
theorem load_no (pa n : Int) (c : Calls Tryz.prog 141 #[.pointer (some ⟨p, 0, .none⟩), .int .u64 pa, .int .i64 n, .bool false, .int .u64 0] w fun e w' => e = .returned (.tuple #[.int .u64 0, .bool false]) ∧ Below w.heap.size w w') :
    Calls Tryz.prog 118 #[.pointer (some ⟨p, 0, .none⟩), .int .u64 pa, .int .i64 n] w fun e w' => e = .returned (.tuple #[.int .u64 0, .bool false]) ∧ Below w.heap.size w w' := by
  go_enter Tryz.func118, Tryz.ntmps118
  go_wp2_with (go_at_call 141; refine c.mono ?_; rintro e w1 ⟨rfl, hb⟩)
  go_ret2
  exact ⟨rfl, hb⟩
theorem store_no (pa n v : Int) (c : Calls Tryz.prog 141 #[.pointer (some ⟨p, 0, .none⟩), .int .u64 pa, .int .i64 n, .bool true, .int .u64 v] w fun e w' => e = .returned (.tuple #[.int .u64 0, .bool false]) ∧ Below w.heap.size w w') :
    Calls Tryz.prog 116 #[.pointer (some ⟨p, 0, .none⟩), .int .u64 pa, .int .i64 n, .int .u64 v] w fun e w' => e = .returned (.bool false) ∧ Below w.heap.size w w' := by
  go_enter Tryz.func116, Tryz.ntmps116
  go_wp2_with (go_at_call 141; refine c.mono ?_; rintro e w1 ⟨rfl, hb⟩)
  go_ret
  exact ⟨rfl, hb⟩
theorem read_no (pa n : Int) (c : Calls Tryz.prog 90 #[.pointer (some ⟨p, 0, .none⟩), .int .u64 pa, .int .i64 n] w fun e w' => e = .returned (.tuple #[.slice .none 0 0, .bool false]) ∧ Below w.heap.size w w') :
    Calls Tryz.prog 55 #[.pointer (some ⟨p, 0, .none⟩), .int .u64 pa, .int .i64 n] w fun e w' => e = .returned (.tuple #[.slice .none 0 0, .bool false]) ∧ Below w.heap.size w w' := by
  go_enter Tryz.func55, Tryz.ntmps55
  go_wp2_with (go_at_call 90; refine c.mono ?_; rintro e w1 ⟨rfl, hb⟩)
  go_ret2
  exact ⟨rfl, hb⟩
theorem read_zero (h : Mem w p b m N B nx hd cnt) (pa : Int) : Calls Tryz.prog 55 #[.pointer (some ⟨p, 0, .none⟩), .int .u64 pa, .int .i64 0] w fun e w' => e = .returned (.tuple #[.slice .none 0 0, .bool true]) ∧ w' = w := by
  have c := reach_zero h pa
  clear h
  go_enter Tryz.func55, Tryz.ntmps55
  go_wp2_with (go_at_call 90; refine c.mono ?_; rintro e w0 ⟨rfl, rfl⟩)
  go_ret2
  exact ⟨rfl, rfl⟩
theorem write_no (pa : Int) (sa : Option Addr) (n cap : Nat) (c : Calls Tryz.prog 90 #[.pointer (some ⟨p, 0, .none⟩), .int .u64 pa, .int .i64 n] w fun e w' => e = .returned (.tuple #[.slice .none 0 0, .bool false]) ∧ Below w.heap.size w w') :
    Calls Tryz.prog 85 #[.pointer (some ⟨p, 0, .none⟩), .int .u64 pa, .slice sa n cap] w fun e w' => e = .returned (.bool false) ∧ Below w.heap.size w w' := by
  have hcp : ∀ (w : World) ty, (Builtin.copy_ #[24, 24] ty #[.slice .none 0 0, .slice sa n cap]).run Tryz.prog w = .ok (.int .i64 0) w := fun w ty => run_copy_none w 24 24 ty 5 .none sa 0 0 n cap Tryz.underlying24 info5 (by simp)
  go_enter Tryz.func85, Tryz.ntmps85
  go_wp2_with (go_at_call 90; refine c.mono ?_; rintro e w1 ⟨rfl, hb⟩)
  go_ret
  exact ⟨rfl, hb⟩
theorem write_zero (h : Mem w p b m N B nx hd cnt) (pa : Int) (sa : Option Addr) (cap : Nat) : Calls Tryz.prog 85 #[.pointer (some ⟨p, 0, .none⟩), .int .u64 pa, .slice sa 0 cap] w fun e w' => e = .returned (.bool true) ∧ w' = w := by
  have hcp : ∀ (w : World) ty, (Builtin.copy_ #[24, 24] ty #[.slice .none 0 0, .slice sa 0 cap]).run Tryz.prog w = .ok (.int .i64 0) w := fun w ty => run_copy_none w 24 24 ty 5 .none sa 0 0 0 cap Tryz.underlying24 info5 (by simp)
  have c := reach_zero h pa
  clear h
  go_enter Tryz.func85, Tryz.ntmps85
  go_wp2_with (go_at_call 90; refine c.mono ?_; rintro e w0 ⟨rfl, rfl⟩)
  go_ret
  exact ⟨rfl, rfl⟩
end
end Go.Proofs.YtblmkkhiojbcjaaGreat
namespace Go.Proofs.YtblmkkhiojbcjaaGreat
open Go.RowKit
set_option linter.unusedVariables false
set_option linter.unusedSimpArgs false
/-- A memory that nobody made. -/
def Unm (w : World) (v : Value) : Prop := v = .pointer .none ∨ ∃ p, v = .pointer (some ⟨p, 0, .none⟩) ∧ p < w.heap.size ∧ w.cell? ⟨p, 0, .none⟩ = some (.slice .none 0 0)
theorem Unm.below {w w' : World} {v : Value} (h : Unm w v) (b : Below w.heap.size w w') : Unm w' v := by
  rcases h with h | ⟨p, h, hp, hc⟩
  · exact .inl h
  · exact .inr ⟨p, h, Nat.lt_of_lt_of_le hp b.size, (b.cell hp).trans hc⟩
theorem Unm.alloc {w : World} {v : Value} (h : Unm w v) (o : Obj) : Unm (w.alloc o) v := h.below ((Below.refl _ _).alloc (Nat.le_refl _) _)
section
variable {w : World} {v : Value}
theorem no_made (h : Unm w v) : Calls Tryz.prog 63 #[v] w fun e w' => e = .returned (.bool false) ∧ w' = w := by
  rcases h with rfl | ⟨p, rfl, _, hc⟩
  · exact made_nil w
  · exact made_plain p w hc
theorem no_frames (h : Unm w v) : Calls Tryz.prog 64 #[v] w fun e w' => e = .returned (.int .i64 0) ∧ w' = w := by
  have c := no_made h
  clear h
  go_enter Tryz.func64, Tryz.ntmps64
  go_wp2_with (go_at_call 63; refine c.mono ?_; rintro e w0 ⟨rfl, rfl⟩)
  go_ret
  exact ⟨rfl, rfl⟩
theorem no_reach (h : Unm w v) (pa n : Int) : Calls Tryz.prog 90 #[v, .int .u64 pa, .int .i64 n] w fun e w' => e = .returned (.tuple #[.slice .none 0 0, .bool false]) ∧ w' = w := by
  have c := no_made h
  clear h
  go_enter Tryz.func90, Tryz.ntmps90
  go_wp2_with (go_at_call 63; refine c.mono ?_; rintro e w0 ⟨rfl, rfl⟩)
  go_ret2
  exact ⟨rfl, rfl⟩
theorem no_access (h : Unm w v) (pa n x : Int) (b : Bool) : Calls Tryz.prog 141 #[v, .int .u64 pa, .int .i64 n, .bool b, .int .u64 x] w fun e w' => e = .returned (.tuple #[.int .u64 0, .bool false]) ∧ w' = w := by
  have c := no_reach h pa n
  clear h
  go_enter Tryz.func141, Tryz.ntmps141
  go_wp2_with (go_at_call 90; refine c.mono ?_; rintro e w0 ⟨rfl, rfl⟩)
  go_ret2
  exact ⟨rfl, rfl⟩
theorem no_load (h : Unm w v) (pa n : Int) : Calls Tryz.prog 118 #[v, .int .u64 pa, .int .i64 n] w fun e w' => e = .returned (.tuple #[.int .u64 0, .bool false]) ∧ w' = w := by
  have c := no_access h pa n 0 false
  clear h
  go_enter Tryz.func118, Tryz.ntmps118
  go_wp2_with (go_at_call 141; refine c.mono ?_; rintro e w0 ⟨rfl, rfl⟩)
  go_ret2
  exact ⟨rfl, rfl⟩
theorem no_read (h : Unm w v) (pa n : Int) : Calls Tryz.prog 55 #[v, .int .u64 pa, .int .i64 n] w fun e w' => e = .returned (.tuple #[.slice .none 0 0, .bool false]) ∧ w' = w := by
  have c := no_reach h pa n
  clear h
  go_enter Tryz.func55, Tryz.ntmps55
  go_wp2_with (go_at_call 90; refine c.mono ?_; rintro e w0 ⟨rfl, rfl⟩)
  go_ret2
  exact ⟨rfl, rfl⟩
theorem no_isMade (h : Unm w v) : Calls Tryz.prog 111 #[v] w fun e w' => e = .returned (.bool false) ∧ w' = w := by
  have c := no_frames h
  clear h
  go_enter Tryz.func111, Tryz.ntmps111
  go_wp2_with (go_at_call 64; refine c.mono ?_; rintro e w0 ⟨rfl, rfl⟩)
  go_ret
  exact ⟨rfl, rfl⟩
theorem no_isNode (h : Unm w v) (pa : Int) : Calls Tryz.prog 93 #[v, .int .u64 pa] w fun e w' => e = .returned (.bool false) ∧ w' = w := by
  have c := no_load h pa 8
  clear h
  go_enter Tryz.func93, Tryz.ntmps93
  go_wp2_with (go_at_call 118; refine c.mono ?_; rintro e w0 ⟨rfl, rfl⟩)
  go_ret
  exact ⟨rfl, rfl⟩
end
end Go.Proofs.YtblmkkhiojbcjaaGreat
