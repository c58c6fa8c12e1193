import Derived.Test.YthdahigckflohabPartsM
import Derived.Test.YthdahigckflohabLong
namespace Go.Proofs.Ythdahigckflohab
open Go.RowKit
set_option linter.unusedVariables false
set_option linter.unusedSimpArgs false
def opsRow : Array Value := #[.int .i64 45, .int .i64 46, .int .i64 47, .int .i64 48, .int .i64 49, .int .i64 58, .int .i64 59, .int .i64 60, .int .i64 61, .int .i64 62]
theorem opsRow_at (m : Nat) (h : m < 10) : opsRow[m]? = some (.int .i64 (hnum m)) := by
  rcases ten m h with rfl | rfl | rfl | rfl | rfl | rfl | rfl | rfl | rfl | rfl <;> rfl
theorem wordOps_any (w : World) : Calls Try.prog 12 #[] w fun e w' => e = .returned (.slice (some ⟨w.heap.size, 0, .none⟩) 10 10) ∧ w' = w.alloc (.cells opsRow 3) := by
  unfold opsRow
  go_enter Try.func12, Try.ntmps12
  go_wp2
  go_ret
  exact ⟨rfl, rfl⟩
/-- The low half of a under the upper half c. -/
def over (a c : Int) : Int := bits .or .u64 (bits .and .u64 a 4294967295) (IntKind.u64.wrap (c * 4294967296))
theorem over_eq (a c : Int) (ha : W64 a) : over a c = a % 4294967296 + c * 4294967296 % 18446744073709551616 := by
  unfold over
  rw [and32 a ha, wu]
  have e : bits .or .u64 (a % 4294967296) (c * 4294967296 % 18446744073709551616) = bits .or .u64 (c * 4294967296 % 18446744073709551616) (a % 4294967296) := by
    simp only [bits]; rw [BitVec.or_comm]
  rw [e, join64u 32 _ _ (by omega) (by omega) (by omega) (by omega) (by omega) (by omega)]
  omega
theorem over_w (a c : Int) (ha : W64 a) : W64 (over a c) := by
  rw [over_eq a c ha]; exact ⟨by omega, by omega⟩
theorem over_low (a c : Int) (ha : W64 a) : over a c % 4294967296 = a % 4294967296 := by
  rw [over_eq a c ha]; omega
theorem hres_low (m : Nat) (a b a' b' : Int) (h : a' % 4294967296 = a % 4294967296) (k : b' % 4294967296 = b % 4294967296) : hres m a' b' = hres m a b := by
  unfold hres
  rw [wid_congr a' a h, wid_congr b' b k, h, k, show b' % 32 = b % 32 by omega]
theorem hres_wid (m : Nat) (a b : Int) : wid 4294967296 (hres m a b) = hres m a b := wid_congr _ _ (wid_mod _)
theorem hres_w (m : Nat) (a b : Int) : W64 (hres m a b) := wid_bd _ _
set_option maxHeartbeats 2000000 in
set_option maxRecDepth 100000 in
theorem halves_walk (a b c d : Int) (w : World) (ha : W64 a) (hb : W64 b) (hc : W64 c) (hd : W64 d) :
    Calls Try.prog 5 #[.int .u64 a, .int .u64 b, .int .u64 c, .int .u64 d] w fun e w' => e = .returned (.bool true) ∧ Below w.heap.size w w' := by
  have s0 := fun w => does_as 45 2147483647 1 _ w (fun w => do_half 0 (by decide) 2147483647 1 w ⟨by decide, by decide⟩ ⟨by decide, by decide⟩)
  rw [show hres 0 2147483647 1 = 18446744071562067968 from by decide] at s0
  have c1 := fun m hm w => does_as (hnum m) a b _ w (fun w => do_half m hm a b w ha hb)
  have c2 := fun m hm w => does_as (hnum m) (over a c) (over b d) _ w (fun w => do_half m hm (over a c) (over b d) w (over_w a c ha) (over_w b d hb))
  have hl := fun m w => lhalf_any (hres m a b) w (hres_w m a b)
  have eq : ∀ m, hres m (over a c) (over b d) = hres m a b := fun m => hres_low m a b _ _ (over_low a c ha) (over_low b d hb)
  have ew : ∀ m, wid 4294967296 (hres m a b) = hres m a b := fun m => hres_wid m a b
  simp only [eq] at c2
  simp only [ew] at hl
  clear eq ew
  unfold over at c2
  obtain ⟨a0, a1⟩ := ha
  obtain ⟨b0, b1⟩ := hb
  go_enter Try.func5, Try.ntmps5
  go_wp2_with fail
  refine (s0 _).mono ?_; rintro e w1 ⟨rfl, hb1⟩
  clear s0
  go_wp2_with fail
  refine (wordOps_any _).mono ?_; rintro e w2 ⟨rfl, rfl⟩
  have ho := opsRow_at
  generalize opsRow = T at *
  go_wp2
  go_loopw [12] (fun k wr => ∃ n : Nat, n ≤ 10 ∧ k = .int .i64 n ∧ Below (w1.heap.size + 1) (w1.alloc (.cells T 3)) wr) (fun k _ => 10 - (intOf k).toNat)
  case atStart => exact ⟨0, by omega, rfl, Below.refl _ _⟩
  case round =>
    obtain ⟨n, hn, rfl, hB⟩ := hrel
    have hz : w1.heap.size < wr.heap.size := by have := hB.size; simp only [World.size_alloc] at this; omega
    have hW : Below w1.heap.size w1 wr := (below_past _ _).trans (hB.mono (by omega))
    by_cases hlt : n < 10
    · have e1 : (n : Int) < 10 := by omega
      have k0 : wr.cell? ⟨w1.heap.size, n, .none⟩ = some (.int .i64 (hnum n)) := ((hB.cell (p := ⟨w1.heap.size, n, .none⟩) (by show w1.heap.size < _; omega)).trans (by rw [World.cell?_alloc_at _ _ _ _ rfl])).trans (ho n hlt)
      have d1 := c1 n hlt
      have d2 := c2 n hlt
      have d3 := hl n
      clear c1 c2 hl ho
      generalize hnum n = op at *
      generalize hres n a b = V at *
      go_wp2_with fail
      refine (d1 _).mono ?_; rintro e w3 ⟨rfl, hb3⟩
      clear d1
      have k1 : w3.cell? ⟨w1.heap.size, n, .none⟩ = some (.int .i64 op) := (hb3.cell (p := ⟨w1.heap.size, n, .none⟩) hz).trans k0
      have z3 := hb3.size
      have y3 : w1.heap.size < w3.heap.size := by omega
      clear k0
      go_wp2_with fail
      refine (d2 _).mono ?_; rintro e w4 ⟨rfl, hb4⟩
      clear d2 k1
      go_wp2_with fail
      refine (d3 _).mono ?_; rintro e w5 ⟨rfl, rfl⟩
      clear d3
      go_wp2
      exact ⟨⟨n + 1, by omega, by go_num, hB.trans ((bseq hb3 hb4).mono (by omega))⟩, by simp [intOf]; omega⟩
    · have e1 : decide ((n : Int) < 10) = false := by simp; omega
      clear c1 c2 hl ho
      go_wp2
      go_ret
      exact ⟨rfl, bseq hb1 hW⟩
end Go.Proofs.Ythdahigckflohab
