import Derived.Test.YthdahigckflohabDo
namespace Go.Proofs.Ythdahigckflohab
open Go.RowKit
set_option linter.unusedVariables false
set_option linter.unusedSimpArgs false
attribute [local go_sem] run_store_func run_store_nilFunc eqGuard_func func85 nil85
set_option maxHeartbeats 2000000 in
theorem clo_any (x y z B : Nat) (a b A D V : Int) (w : World) (hC : Clo w B x y z) (ex : Enters x) (ey : Enters y) (ez : Enters z)
    (cy : ∀ w, Calls Try.prog y #[.int .u64 a] w fun e w' => e = .returned (.int .u64 A) ∧ w' = w)
    (cz : ∀ w, Calls Try.prog z #[.int .u64 b] w fun e w' => e = .returned (.int .u64 D) ∧ w' = w)
    (cx : ∀ w, Calls Try.prog x #[.int .u64 A, .int .u64 D] w fun e w' => e = .returned (.int .u64 V) ∧ w' = w) (hV : W64 V) :
    Calls Try.prog 80 #[.int .u64 a, .int .u64 b, .pointer (some ⟨B, 0, .none⟩), .pointer (some ⟨B + 1, 0, .none⟩), .pointer (some ⟨B + 2, 0, .none⟩)] w fun e w' => e = .returned (.int .u64 (wid 4294967296 V)) ∧ Below w.heap.size w w' := by
  have cw := fun w => widen32 V w hV
  generalize wid 4294967296 V = R at *
  obtain ⟨hz, c0, c1, c2⟩ := hC
  unfold Enters at ex ey ez
  have h0 : B < w.heap.size := by omega
  have h1 : B + 1 < w.heap.size := by omega
  go_enter Try.func80, Try.ntmps80
  go_wp2
  go_quiet (first
    | exact Calls.quiet_of_same (cy _)
    | exact Calls.quiet_of_same (cz _)
    | exact Calls.quiet_of_same (cx _)
    | exact Calls.quiet_of_same (cw _))
  go_wp2
  go_ret
  exact ⟨rfl, below_drewN (Below.refl _ _) _⟩
/-- What an operation of 32 bits makes of two words. -/
def hres (m : Nat) (a b : Int) : Int :=
  let x := wid 4294967296 a
  let y := wid 4294967296 b
  let u := a % 4294967296
  let v := b % 4294967296
  let s := b % 32
  wid 4294967296 ([(x + y) % 18446744073709551616, (x - y) % 18446744073709551616, fSLL u s, fSRL u s, fSRA x s, x * y % 18446744073709551616, fDIV x y, fDIVU u v, fREM x y, fREMU u v].getD m 0)
def fst (m : Nat) (a : Int) : Int := [wid 4294967296 a, wid 4294967296 a, a % 4294967296, a % 4294967296, wid 4294967296 a, wid 4294967296 a, wid 4294967296 a, a % 4294967296, wid 4294967296 a, a % 4294967296].getD m 0
def snd (m : Nat) (b : Int) : Int := [wid 4294967296 b, wid 4294967296 b, b % 32, b % 32, b % 32, wid 4294967296 b, wid 4294967296 b, b % 4294967296, wid 4294967296 b, b % 4294967296].getD m 0
def hop (m : Nat) (x y : Int) : Int := [(x + y) % 18446744073709551616, (x - y) % 18446744073709551616, fSLL x y, fSRL x y, fSRA x y, x * y % 18446744073709551616, fDIV x y, fDIVU x y, fREM x y, fREMU x y].getD m 0
theorem ten (m : Nat) (hm : m < 10) : m = 0 ∨ m = 1 ∨ m = 2 ∨ m = 3 ∨ m = 4 ∨ m = 5 ∨ m = 6 ∨ m = 7 ∨ m = 8 ∨ m = 9 := by omega
theorem low_w (x m : Int) (hm : m = 4294967296 ∨ m = 32) (h : W64 x) : W64 (x % m) := by
  obtain ⟨h0, h1⟩ := h
  rcases hm with rfl | rfl <;> exact ⟨by omega, by omega⟩
theorem fst_w (m : Nat) (hm : m < 10) (a : Int) (ha : W64 a) : W64 (fst m a) := by
  rcases ten m hm with rfl | rfl | rfl | rfl | rfl | rfl | rfl | rfl | rfl | rfl <;> first | exact wid_bd _ _ | exact low_w a _ (.inl rfl) ha
theorem snd_w (m : Nat) (hm : m < 10) (a : Int) (ha : W64 a) : W64 (snd m a) := by
  rcases ten m hm with rfl | rfl | rfl | rfl | rfl | rfl | rfl | rfl | rfl | rfl <;> first | exact wid_bd _ _ | exact low_w a _ (.inl rfl) ha | exact low_w a _ (.inr rfl) ha
theorem first_all (m : Nat) (hm : m < 10) (a : Int) (w : World) (ha : W64 a) : Calls Try.prog (firstId m) #[.int .u64 a] w fun e w' => e = .returned (.int .u64 (fst m a)) ∧ w' = w := by
  rcases ten m hm with rfl | rfl | rfl | rfl | rfl | rfl | rfl | rfl | rfl | rfl <;> first | exact sHalf_any a w ha | exact pHalf_any a w ha
theorem second_all (m : Nat) (hm : m < 10) (a : Int) (w : World) (ha : W64 a) : Calls Try.prog (secondId m) #[.int .u64 a] w fun e w' => e = .returned (.int .u64 (snd m a)) ∧ w' = w := by
  rcases ten m hm with rfl | rfl | rfl | rfl | rfl | rfl | rfl | rfl | rfl | rfl <;> first | exact sHalf_any a w ha | exact pHalf_any a w ha | exact hShift_any a w ha
theorem half_all (m : Nat) (hm : m < 10) (a b : Int) (w : World) (ha : W64 a) (hb : W64 b) : Calls Try.prog (halfId m) #[.int .u64 a, .int .u64 b] w fun e w' => e = .returned (.int .u64 (hop m a b)) ∧ w' = w := by
  rcases ten m hm with rfl | rfl | rfl | rfl | rfl | rfl | rfl | rfl | rfl | rfl
  · exact add_any a b w ha hb
  · exact sub_any a b w ha hb
  · exact sll_any a b w ha hb
  · exact srl_any a b w ha hb
  · exact sra_any a b w ha hb
  · exact mul_any a b w ha hb
  · exact div_any a b w ha hb
  · exact divu_any a b w ha hb
  · exact rem_any a b w ha hb
  · exact remu_any a b w ha hb
set_option maxRecDepth 100000 in
theorem half_enters (m : Nat) (hm : m < 10) : Enters (halfId m) ∧ Enters (firstId m) ∧ Enters (secondId m) := by
  rcases ten m hm with rfl | rfl | rfl | rfl | rfl | rfl | rfl | rfl | rfl | rfl <;> exact ⟨fun args w => by kernel_rfl, fun args w => by kernel_rfl, fun args w => by kernel_rfl⟩
theorem ediv_w (a p : Int) (ha : W64 a) (hp : 0 ≤ p) : W64 (a / p) := ⟨Int.ediv_nonneg ha.1 hp, Int.lt_of_le_of_lt (Int.ediv_le_self _ ha.1) ha.2⟩
theorem hop_w (m : Nat) (hm : m < 10) (a b : Int) (ha : W64 a) (hb : W64 b) : W64 (hop m a b) := by
  rcases ten m hm with rfl | rfl | rfl | rfl | rfl | rfl | rfl | rfl | rfl | rfl
  · exact mod_bd _
  · exact mod_bd _
  · exact mod_bd _
  · exact ediv_w a _ ha (Int.le_of_lt (Int.pow_pos (by decide)))
  · exact mod_bd _
  · exact mod_bd _
  · show W64 (fDIV a b); unfold fDIV; split; exact ⟨by decide, by decide⟩; exact mod_bd _
  · show W64 (fDIVU a b); unfold fDIVU; split; exact ⟨by decide, by decide⟩; exact ediv_w a _ ha hb.1
  · show W64 (fREM a b); unfold fREM; split; exact ha; exact mod_bd _
  · show W64 (fREMU a b); unfold fREMU; split; exact ha; exact ⟨Int.emod_nonneg _ (by assumption), Int.lt_trans (Int.emod_lt_of_pos _ (by have := hb.1; omega)) hb.2⟩
theorem hres_eq (m : Nat) (hm : m < 10) (a b : Int) : hres m a b = wid 4294967296 (hop m (fst m a) (snd m b)) := by
  rcases ten m hm with rfl | rfl | rfl | rfl | rfl | rfl | rfl | rfl | rfl | rfl <;> rfl
theorem do_half (m : Nat) (hm : m < 10) (a b : Int) (w : World) (ha : W64 a) (hb : W64 b) :
    Calls Try.prog 14 #[.int .i64 (hnum m), .int .u64 a, .int .u64 b] w fun e w' => e = .returned (.tuple #[.int .u64 (hres m a b), .nilIface]) ∧ Below w.heap.size w w' := by
  have h1 : ∀ n : Nat, n < 18 → (wnum n == hnum m) = false := by
    have : ∀ m : Nat, m < 10 → ∀ n : Nat, n < 18 → (wnum n == hnum m) = false := by decide
    exact this m hm
  have c := fun w => missW (hnum m) h1 w
  have d := fun w => hitH m hm w
  have q := fun B w hC => clo_any (halfId m) (firstId m) (secondId m) B a b _ _ _ w hC (half_enters m hm).1 (half_enters m hm).2.1 (half_enters m hm).2.2 (fun w => first_all m hm a w ha) (fun w => second_all m hm b w hb)
    (fun w => half_all m hm _ _ w (fst_w m hm a ha) (snd_w m hm b hb)) (hop_w m hm _ _ (fst_w m hm a ha) (snd_w m hm b hb))
  rw [← hres_eq m hm] at q
  clear h1
  generalize hnum m = op at *
  generalize hres m a b = R at *
  go_enter Try.func14, Try.ntmps14
  go_wp2_with fail
  refine (c _).mono ?_; rintro e w1 ⟨rfl, hb1⟩
  clear c
  go_wp2_with fail
  refine (d _).mono ?_; rintro e w2 ⟨⟨B, hB, rfl, hC⟩, hb2⟩
  clear d
  have q' := q B w2 hC
  clear q hC
  unfold cloV
  go_wp2_with fail
  refine q'.mono ?_; rintro e w3 ⟨rfl, hb3⟩
  clear q'
  go_wp2
  go_ret2
  exact ⟨rfl, bseq (bseq hb1 hb2) hb3⟩
end Go.Proofs.Ythdahigckflohab
