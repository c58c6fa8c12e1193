import Derived.Test.YtblmkkhiojbcjaaGreatNum
import Derived.Laws.Cover3
import Derived.Deep.QuietTactic
import Derived.BigQuiet
namespace Go.Proofs.YtblmkkhiojbcjaaGreat
open Go.RowKit
set_option linter.unusedVariables false
set_option linter.unusedSimpArgs false
theorem addr_any (i : Int) (h0 : 0 ≤ i) (h1 : i ≤ 4096) (w : World) : Calls Tryz.prog 83 #[.int .i64 i] w fun e w' => e = .returned (.int .u64 (2147483648 + i * 4096)) ∧ w' = w := by
  go_enter Tryz.func83, Tryz.ntmps83
  go_wp2
  go_ret
  exact ⟨rfl, rfl⟩
def isFr (pa : Int) (n : Int) : Bool := decide (pa % 4096 = 0 ∧ 2147483648 ≤ pa ∧ pa < 2147483648 + n * 4096)
set_option maxHeartbeats 1000000 in
theorem isFrame_any (pa n : Int) (hp : 0 ≤ pa ∧ pa < 18446744073709551616) (h0 : 0 ≤ n) (h1 : n ≤ 4096) (w : World) :
    Calls Tryz.prog 69 #[.int .u64 pa, .int .i64 n] w fun e w' => e = .returned (.bool (isFr pa n)) ∧ w' = w := by
  have c0 := addr_any 0 (by omega) (by omega)
  have c1 := addr_any n h0 h1
  by_cases k0 : pa % 4096 = 0
  · by_cases k1 : 2147483648 ≤ pa
    · by_cases k2 : pa < 2147483648 + n * 4096
      · have e : isFr pa n = true := by simp [isFr, k0, k1, k2]
        rw [e]
        go_enter Tryz.func69, Tryz.ntmps69
        go_wp2
        go_ret
        exact ⟨rfl, rfl⟩
      · have e : isFr pa n = false := by simp [isFr, k0, k1, k2]
        rw [e]
        go_enter Tryz.func69, Tryz.ntmps69
        go_wp2
        go_ret
        exact ⟨rfl, rfl⟩
    · have e : isFr pa n = false := by simp [isFr, k0, k1]
      rw [e]
      go_enter Tryz.func69, Tryz.ntmps69
      go_wp2
      go_ret
      exact ⟨rfl, rfl⟩
  · have e : isFr pa n = false := by simp [isFr, k0]
    rw [e]
    go_enter Tryz.func69, Tryz.ntmps69
    go_wp2
    go_ret
    exact ⟨rfl, rfl⟩
theorem made_nil (w : World) : Calls Tryz.prog 63 #[.pointer .none] w fun e w' => e = .returned (.bool false) ∧ w' = w := by
  go_enter Tryz.func63, Tryz.ntmps63
  go_wp2
  go_ret
  exact ⟨rfl, rfl⟩
theorem made_plain (p : Nat) (w : World) (h : w.cell? ⟨p, 0, .none⟩ = some (.slice .none 0 0)) : Calls Tryz.prog 63 #[.pointer (some ⟨p, 0, .none⟩)] w fun e w' => e = .returned (.bool false) ∧ w' = w := by
  have hq : (binOp .neq 24 (.slice .none 0 0) (.slice .none 0 0)).run Tryz.prog w = .ok (.bool false) w := run_neq_slice_nil w 24 5 .none 0 0 Tryz.underlying24
  go_enter Tryz.func63, Tryz.ntmps63
  go_wp2
  go_ret
  exact ⟨rfl, rfl⟩
theorem made_some (p b n c : Nat) (w : World) (h : w.cell? ⟨p, 0, .none⟩ = some (.slice (some ⟨b, 0, .none⟩) n c)) : Calls Tryz.prog 63 #[.pointer (some ⟨p, 0, .none⟩)] w fun e w' => e = .returned (.bool true) ∧ w' = w := by
  have hq : (binOp .neq 24 (.slice (some ⟨b, 0, .none⟩) n c) (.slice .none 0 0)).run Tryz.prog w = .ok (.bool true) w := run_neq_slice_nil w 24 5 (some ⟨b, 0, .none⟩) n c Tryz.underlying24
  go_enter Tryz.func63, Tryz.ntmps63
  go_wp2
  go_ret
  exact ⟨rfl, rfl⟩
theorem mayHave_any (n : Int) (w : World) : Calls Tryz.prog 79 #[.int .i64 n] w fun e w' => e = .returned (.bool (decide (1 ≤ n ∧ n ≤ 4096))) ∧ w' = w := by
  by_cases k0 : 1 ≤ n
  · by_cases k1 : n ≤ 4096
    · have e : decide (1 ≤ n ∧ n ≤ 4096) = true := by simp [k0, k1]
      rw [e]
      go_enter Tryz.func79, Tryz.ntmps79
      go_wp2
      go_ret
      exact ⟨rfl, rfl⟩
    · have e : decide (1 ≤ n ∧ n ≤ 4096) = false := by simp [k0, k1]
      rw [e]
      go_enter Tryz.func79, Tryz.ntmps79
      go_wp2
      go_ret
      exact ⟨rfl, rfl⟩
  · have e : decide (1 ≤ n ∧ n ≤ 4096) = false := by simp [k0]
    rw [e]
    go_enter Tryz.func79, Tryz.ntmps79
    go_wp2
    go_ret
    exact ⟨rfl, rfl⟩
section
variable {w : World} {p b m N cnt : Nat} {B : Nat → Int} {nx : Int} {hd : Int → Bool}
theorem frames_any (h : Mem w p b m N B nx hd cnt) : Calls Tryz.prog 64 #[.pointer (some ⟨p, 0, .none⟩)] w fun e w' => e = .returned (.int .i64 N) ∧ w' = w := by
  have c := made_some p b _ _ w h.c0
  have k0 := h.c0
  have n2 := h.n2
  go_enter Tryz.func64, Tryz.ntmps64
  go_wp2_with (go_at_call 63; refine c.mono ?_; rintro e w0 ⟨rfl, rfl⟩)
  go_ret
  exact ⟨by simp, rfl⟩
theorem frame_any (h : Mem w p b m N B nx hd cnt) (i : Nat) (hi : i < N) : Calls Tryz.prog 74 #[.pointer (some ⟨p, 0, .none⟩), .int .u64 (2147483648 + i * 4096)] w fun e w' => e = .returned (.slice (some ⟨b, i * 4096, .none⟩) 4096 (4096 * N - i * 4096)) ∧ w' = w := by
  have k0 := h.c0
  have n2 := h.n2
  go_enter Tryz.func74, Tryz.ntmps74
  go_wp2
  go_ret
  exact ⟨by simp, rfl⟩
theorem law22 : Maps.Keyed Tryz.prog 23 := Maps.int_keyed Tryz.underlying23
theorem zero91 (w : World) : (zeroValue 110).run Tryz.prog w = .ok (.agg #[]) w := by kernel_rfl
theorem isHeld_any (h : Mem w p b m N B nx hd cnt) (pa : Int) (hp : 0 ≤ pa ∧ pa < 18446744073709551616) : Calls Tryz.prog 70 #[.pointer (some ⟨p, 0, .none⟩), .int .u64 pa] w fun e w' => e = .returned (.bool (hd pa)) ∧ Below w.heap.size w w' := by
  have k2 := h.c2
  obtain ⟨D, hown, hhas, _⟩ := h.hm
  have hh := hhas pa hp.1 hp.2
  go_enter Tryz.func70, Tryz.ntmps70
  go_wp2_with (at_lookup; refine wpList_lookup_own_unit _ rfl _ _ 100 rfl 23 110 law22 Tryz.underlying100 (zero91 _) m _ D rfl hown _ _ rfl (Maps.keyOf_int_mk Tryz.underlying23 (WalkArith.wf_u64 (by omega))) ?_)
  go_ret
  rw [← hh]
  exact ⟨rfl, (Below.refl _ _).alloc (Nat.le_refl _) _⟩
theorem count_any (h : Mem w p b m N B nx hd cnt) (hc : cnt ≤ N) : Calls Tryz.prog 30 #[.pointer (some ⟨p, 0, .none⟩)] w fun e w' => e = .returned (.int .i64 ((N : Int) - cnt)) ∧ ∃ k, w' = w.drewN k := by
  have c := made_some p b _ _ w h.c0
  have k2 := h.c2
  have n2 := h.n2
  have n3 : (N : Int) - cnt ≤ 4096 := by omega
  have n4 : 0 ≤ (N : Int) - cnt := by omega
  obtain ⟨D, hown, _, hsz⟩ := h.hm
  have hl : ∀ k ty, (Builtin.len_ #[100] ty #[.map (some m)]).run Tryz.prog (w.drewN k) = .ok (.int .i64 cnt) (w.drewN k) := fun k ty => by
    have hk : (w.drewN k).ownsMap Tryz.prog 23 unitElem m (Maps.size D) D := hown
    rw [hk.len Tryz.underlying100 ty, hsz]
  go_enter Tryz.func30, Tryz.ntmps30
  go_wp2_with (go_at_call 63; refine c.mono ?_; rintro e w0 ⟨rfl, rfl⟩)
  go_quiet (first | (go_at_call 64; exact Calls.quiet_of_same (frames_any (h.drewN _))))
  go_wp2
  go_ret
  exact ⟨by simp, _, rfl⟩
theorem behind_any (h : Mem w p b m N B nx hd cnt) (i : Nat) (hi : i < N) : Calls Tryz.prog 73 #[.pointer (some ⟨p, 0, .none⟩), .int .u64 (2147483648 + i * 4096)] w fun e w' => e = .returned (.int .u64 (num B (i * 4096) 8)) ∧ w' = w := by
  have c := frame_any h i hi
  have c1 := number64_read b (i * 4096) 4096 (4096 * N - i * 4096) B 0 w (by omega) h.bb (fun k hk => h.cb _ (by omega))
  go_enter Tryz.func73, Tryz.ntmps73
  go_wp2_with (first | (go_at_call 74; refine c.mono ?_; rintro e w0 ⟨rfl, rfl⟩) | (go_at_call 105; refine c1.mono ?_; rintro e w0 ⟨rfl, rfl⟩))
  go_ret
  exact ⟨rfl, rfl⟩
end
end Go.Proofs.YtblmkkhiojbcjaaGreat
