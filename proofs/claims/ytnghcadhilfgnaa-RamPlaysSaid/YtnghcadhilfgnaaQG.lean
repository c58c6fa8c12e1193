import Derived.Test.YtnghcadhilfgnaaQM
import Derived.Test.YtnghcadhilfgnaaQA
import Derived.LoopN
namespace Go.Proofs.Ytnghcadhilfgnaa
open Go.RowKit
set_option linter.unusedVariables false
set_option linter.unusedSimpArgs false
theorem hdL_in {N : Nat} {L : List Nat} {f : Nat} (hf : f < N) : hdL N L (2147483648 + f * 4096) = !decide (f ∈ L) := hdL_addr N L f hf
/-- All n bytes from pa on are of held frames. -/
def okR (N : Nat) (L : List Nat) (pa n : Int) : Prop := 2147483648 ≤ pa ∧ pa - 2147483648 + n ≤ 4096 * N ∧ ∀ f : Nat, (pa - 2147483648) / 4096 ≤ f → (f : Int) * 4096 < pa - 2147483648 + n → f ∉ L
def HeldR (N : Nat) (L : List Nat) (pa n : Int) (e : Ending) : Prop := ∃ r : Bool, e = .returned (.bool r) ∧ (r = true ↔ okR N L pa n)
section
variable {W : World} {q hb lb N : Nat} {fb : Nat → Nat} {B : Nat → Int} {L : List Nat}
set_option maxHeartbeats 1000000 in
theorem heldQ_any (h : Qm W q hb fb lb N B L) (pa : Int) (n : Nat) (hn : 1 ≤ n) (hn2 : (n : Int) ≤ 9223372036854775807) (hp : 0 ≤ pa ∧ pa < 18446744073709551616) :
    Calls Try.prog 49 #[.pointer (some ⟨q, 0, .none⟩), .int .u64 pa, .int .i64 n] W fun e w' => HeldR N L pa n e ∧ w' = W := by
  have c0 := h.c0
  have n2 := h.n2
  by_cases hbig : (4096 : Int) * N < n
  · have hno : Hid (¬ okR N L pa n) := fun ⟨a, b, _⟩ => by omega
    clear h
    go_enter Try.func49, Try.ntmps49
    go_wp2
    go_ret
    exact ⟨⟨false, rfl, by simpa using hno.out⟩, rfl⟩
  · have y1 : (n : Int) ≤ 4096 * N := by omega
    have HQ : Hid (Qm W q hb fb lb N B L) := h
    clear h
    go_enter Try.func49, Try.ntmps49
    go_wp2
    go_loopw [7] (fun k wr => ∃ j : Nat, k = .int .i64 j ∧ wr = W ∧ j ≤ n + 4096 ∧ Hid (j = 0 ∨ (2147483648 ≤ pa ∧ ∃ a : Nat, pa + j = 2147483648 + a * 4096 ∧ a ≤ N ∧ ∀ f : Nat, (pa - 2147483648) / 4096 ≤ f → f < a → f ∉ L))) (fun k _ => (n + 4096 - intOf k).toNat)
    case atStart => exact ⟨0, rfl, rfl, by omega, .inl rfl⟩
    case round =>
      obtain ⟨j, rfl, rfl, hj, HI⟩ := hrel
      by_cases hlt : j < n
      · have g0 : (j : Int) < n := by omega
        have pj : pa + j < 18446744073709551616 := by
          rcases HI.out with e | ⟨_, a, e, ha, _⟩ <;> omega
        have z1 : ¬ ((18446744073709551615 : Int) - pa < j) := by omega
        by_cases hin : 2147483648 ≤ pa + j ∧ pa + j < 2147483648 + 4096 * N
        · obtain ⟨f, hf⟩ : ∃ f : Nat, (f : Int) = (pa + j - 2147483648) / 4096 := ⟨((pa + j - 2147483648) / 4096).toNat, by omega⟩
          obtain ⟨off, ho⟩ : ∃ o : Nat, (o : Int) = (pa + j - 2147483648) % 4096 := ⟨((pa + j - 2147483648) % 4096).toNat, by omega⟩
          have hfN : f < N := by omega
          have c := number_in HQ.out (pa + j) f off hfN (by omega) (by omega)
          have f0 : (f : Int) < N := by omega
          by_cases hL : f ∈ L
          · have hh := HQ.out.hf f hfN hL
            have hq : ∀ W : World, (binOp .eql 27 (.slice .none 0 0) (.slice .none 0 0)).run Try.prog W = .ok (.bool true) W := fun W => Lib.run_eql_slice_nil W 27 5 .none 0 0 0 0 Try.underlying27
            have HNo : Hid (¬ okR N L pa n) := fun ⟨a1, a2, a3⟩ => a3 f (by omega) (by omega) hL
            clear HI hf ho
            go_wp2_with (go_at_call 50; refine c.mono ?_; rintro e w0 ⟨rfl, rfl⟩)
            go_ret
            exact ⟨⟨false, rfl, by simpa using HNo.out⟩, rfl⟩
          · have hh := HQ.out.hh f hfN hL
            have hq : ∀ W : World, (binOp .eql 27 (.slice (some ⟨fb f, 0, .none⟩) 4096 4096) (.slice .none 0 0)).run Try.prog W = .ok (.bool false) W := fun W => Lib.run_eql_slice_nil W 27 5 (some ⟨fb f, 0, .none⟩) 4096 4096 0 0 Try.underlying27
            have HI2 : Hid (j + 4096 - off = 0 ∨ (2147483648 ≤ pa ∧ ∃ a : Nat, pa + ((j + 4096 - off : Nat) : Int) = 2147483648 + a * 4096 ∧ a ≤ N ∧ ∀ f : Nat, (pa - 2147483648) / 4096 ≤ f → f < a → f ∉ L)) := by
              refine .inr ⟨?_, f + 1, by omega, by omega, fun g g1 g2 => ?_⟩
              · rcases HI.out with e | ⟨e, _⟩ <;> omega
              · by_cases e : g = f
                · rw [e]; exact hL
                · rcases HI.out with e' | ⟨_, a, e1, e2, e3⟩
                  · omega
                  · exact e3 g g1 (by omega)
            have o1 : off < 4096 := by omega
            clear HI hf ho
            go_wp2_with (go_at_call 50; refine c.mono ?_; rintro e w0 ⟨rfl, rfl⟩)
            exact ⟨⟨j + 4096 - off, congrArg (Value.int .i64) (by omega), trivial, by omega, HI2⟩, by simp [intOf]; omega⟩
        · have c := number_out HQ.out (pa + j) (by omega) hin
          have HNo : Hid (¬ okR N L pa n) := fun ⟨a1, a2, a3⟩ => by
            rcases HI.out with e | ⟨_, a, e, ha, _⟩ <;> omega
          clear HI
          go_wp2_with (go_at_call 50; refine c.mono ?_; rintro e w0 ⟨rfl, rfl⟩)
          go_ret
          exact ⟨⟨false, rfl, by simpa using HNo.out⟩, rfl⟩
      · have g0 : ¬ (j : Int) < n := by omega
        have HY : Hid (okR N L pa n) := by
          rcases HI.out with e | ⟨e0, a, e, ha, e3⟩
          · omega
          · exact ⟨e0, by omega, fun f h1 h2 => e3 f h1 (by omega)⟩
        clear HI
        go_wp2
        go_ret
        exact ⟨⟨true, rfl, by simpa using HY.out⟩, rfl⟩
theorem heldQ_yes (h : Qm W q hb fb lb N B L) (pa : Int) (n : Nat) (hn : 1 ≤ n) (hn2 : (n : Int) ≤ 9223372036854775807) (hp : 0 ≤ pa ∧ pa < 18446744073709551616) (hk : okR N L pa n) :
    Calls Try.prog 49 #[.pointer (some ⟨q, 0, .none⟩), .int .u64 pa, .int .i64 n] W fun e w' => e = .returned (.bool true) ∧ w' = W :=
  (heldQ_any h pa n hn hn2 hp).mono fun e w' ⟨⟨r, e1, e2⟩, e3⟩ => ⟨by rw [e1, e2.2 hk], e3⟩
theorem heldQ_no (h : Qm W q hb fb lb N B L) (pa : Int) (n : Nat) (hn : 1 ≤ n) (hn2 : (n : Int) ≤ 9223372036854775807) (hp : 0 ≤ pa ∧ pa < 18446744073709551616) (hk : ¬ okR N L pa n) :
    Calls Try.prog 49 #[.pointer (some ⟨q, 0, .none⟩), .int .u64 pa, .int .i64 n] W fun e w' => e = .returned (.bool false) ∧ w' = W :=
  (heldQ_any h pa n hn hn2 hp).mono fun e w' ⟨⟨r, e1, e2⟩, e3⟩ => ⟨by rw [e1]; cases r with | false => rfl | true => exact absurd (e2.1 rfl) hk, e3⟩
/-- A byte's place: its frame and where in it. -/
theorem okR.at {pa : Int} {n : Nat} (h : okR N L pa n) (j : Nat) (hj : j < n) : ∃ f off : Nat, f < N ∧ off < 4096 ∧ f ∉ L ∧ pa + j = 2147483648 + ((f * 4096 + off : Nat) : Int) := by
  obtain ⟨h1, h2, h3⟩ := h
  refine ⟨((pa + j - 2147483648) / 4096).toNat, ((pa + j - 2147483648) % 4096).toNat, by omega, by omega, h3 _ (by omega) (by omega), by omega⟩
end
end Go.Proofs.Ytnghcadhilfgnaa
