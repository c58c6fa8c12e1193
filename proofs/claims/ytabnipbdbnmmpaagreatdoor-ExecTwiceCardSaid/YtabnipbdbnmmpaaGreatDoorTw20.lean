import Derived.Test.YtabnipbdbnmmpaaGreatDoorTw15
import Derived.Test.YtabnipbdbnmmpaaGreatDoorTw19
set_option linter.unusedVariables false
set_option linter.unusedSimpArgs false
namespace Go.Proofs.YtabnipbdbnmmpaaGreatDoor.Rm
open Go Go.RowKit
set_option maxHeartbeats 2000000 in
theorem each_out {w : World} {s : Nat} {u1 u2 d1 d2 : Nat} (va : Int) (n : Nat) (hv : 0 ≤ va ∧ va + n ≤ 274877906944) (J : Nat → World → Prop) (Jf : World → Prop) (pa : Nat → Int) (ok dok : Nat → Bool)
  (hat : ∀ k W, k < n → J k W → Calls Tryz.prog 100 #[.int .u64 (va + k), .pointer (some ⟨u1, 0, .none⟩), .pointer (some ⟨u2, 0, .none⟩)] W fun e W' => e = .returned (.tuple #[.int .u64 (pa k), .bool (ok k)]) ∧ J k W')
  (hno : ∀ k W, k < n → ok k = false → J k W → Jf W)
  (hdo : ∀ k W, k < n → ok k = true → J k W → Calls Tryz.prog 102 #[.int .u64 (pa k), .int .i64 (pce va n k), .pointer (some ⟨d1, 0, .none⟩), .pointer (some ⟨d2, 0, .none⟩)] W fun e W' => e = .returned (.bool (dok k)) ∧ (dok k = true → J (k + pce va n k) W') ∧ (dok k = false → Jf W')) (h0 : J 0 w) :
  Calls Tryz.prog 49 #[.pointer (some ⟨s, 0, .none⟩), .int .u64 va, .int .i64 n, .func (.func 100) #[] #[.pointer (some ⟨u1, 0, .none⟩), .pointer (some ⟨u2, 0, .none⟩)], .func (.func 102) #[] #[.pointer (some ⟨d1, 0, .none⟩), .pointer (some ⟨d2, 0, .none⟩)]] w (EaP n J Jf) := by
 have HA : Hid (∀ k W, k < n → J k W → Calls Tryz.prog 100 #[.int .u64 (va + k), .pointer (some ⟨u1, 0, .none⟩), .pointer (some ⟨u2, 0, .none⟩)] W fun e W' => e = .returned (.tuple #[.int .u64 (pa k), .bool (ok k)]) ∧ J k W') := hat
 have HN : Hid (∀ k W, k < n → ok k = false → J k W → Jf W) := hno
 have HD : Hid (∀ k W, k < n → ok k = true → J k W → Calls Tryz.prog 102 #[.int .u64 (pa k), .int .i64 (pce va n k), .pointer (some ⟨d1, 0, .none⟩), .pointer (some ⟨d2, 0, .none⟩)] W fun e W' => e = .returned (.bool (dok k)) ∧ (dok k = true → J (k + pce va n k) W') ∧ (dok k = false → Jf W')) := hdo
 have H0 : Hid (J 0 w) := h0
 clear hat hno hdo h0
 go_enter Tryz.func49, Tryz.ntmps49
 go_wp2_with fail
 go_loopw [1, 2] (fun v j wr => ∃ k : Nat, k ≤ n ∧ v = .int .u64 (va + k) ∧ j = .int .i64 (n - k) ∧ Hid (J k wr)) (fun _ j _ => (intOf j).toNat)
 case atStart => exact ⟨0, by omega, by simp, by simp, H0⟩
 case round =>
  clear H0
  obtain ⟨k, hk, rfl, rfl, HJ⟩ := hrel
  by_cases hkn : k < n
  ·have hpos : (0 : Int) < n - k := by omega
   have ca := HA.out k wr hkn HJ.out
   have hb := pce_b va n k hkn
   have hrem : IntKind.u64.wrap ((va + k).tmod 4096) = (va + k) % 4096 := by rw [Int.tmod_eq_emod_of_nonneg (by omega), IntKind.wrap_u64]; omega
   have hsub : IntKind.u64.wrap (4096 - (va + k) % 4096) = 4096 - (va + k) % 4096 := by rw [IntKind.wrap_u64]; omega
   have hcv : IntKind.i64.wrap (4096 - (va + k) % 4096) = 4096 - (va + k) % 4096 := by rw [IntKind.wrap_i64]; omega
   have hpu : IntKind.u64.wrap (pce va n k : Int) = pce va n k := by rw [IntKind.wrap_u64]; omega
   have hva2 : IntKind.u64.wrap (va + k + pce va n k) = va + k + pce va n k := by rw [IntKind.wrap_u64]; omega
   by_cases hm : (n : Int) - k ≤ 4096 - (va + k) % 4096
   ·have hm2 : ¬ 4096 - (va + k) % 4096 < (n : Int) - k := by omega
    obtain ⟨pc, hpc⟩ : ∃ pc, pc = pce va n k := ⟨_, rfl⟩
    have e9 : (n : Int) - k = (pc : Int) := by rw [hpc]; unfold pce; omega
    rw [← hpc] at hb hpu hva2
    have HPC : Hid (pc = pce va n k) := hpc
    clear hpc
    have hnx : IntKind.i64.wrap ((n : Int) - k - pc) = n - k - pc := by rw [IntKind.wrap_i64]; omega
    go_wp2_with fail
    refine ca.mono ?_
    rintro _ w1 ⟨rfl, j1⟩
    have HJ1 : Hid (J k w1) := j1
    clear j1 ca HJ
    cases hok : ok k
    ·have HF : Hid (Jf w1) := HN.out k w1 hkn hok HJ1.out
     go_wp2_with fail
     go_ret
     exact .inr ⟨rfl, HF.out⟩
    ·have cd := HD.out k w1 hkn hok HJ1.out
     rw [← HPC.out] at cd
     cases hdk : dok k
     ·rw [hdk] at cd
      go_wp2_with fail
      refine cd.mono ?_
      rintro _ w2 ⟨rfl, _, hf⟩
      have HF : Hid (Jf w2) := hf (by first | rfl | trivial)
      clear hf cd
      go_wp2_with fail
      go_ret
      exact .inr ⟨rfl, HF.out⟩
     ·rw [hdk] at cd
      go_wp2_with fail
      refine cd.mono ?_
      rintro _ w2 ⟨rfl, ht, _⟩
      have HT : Hid (J (k + pc) w2) := ht (by first | rfl | trivial)
      clear ht cd
      go_wp2_with fail
      exact ⟨⟨k + pc, by omega, by congr 1; omega, by congr 1; omega, HT⟩, by simp only [intOf]; omega⟩
   ·have hm2 : 4096 - (va + k) % 4096 < (n : Int) - k := by omega
    obtain ⟨pc, hpc⟩ : ∃ pc, pc = pce va n k := ⟨_, rfl⟩
    have e9 : 4096 - (va + k) % 4096 = (pc : Int) := by rw [hpc]; unfold pce; omega
    rw [← hpc] at hb hpu hva2
    have HPC : Hid (pc = pce va n k) := hpc
    clear hpc
    have hnx : IntKind.i64.wrap ((n : Int) - k - pc) = n - k - pc := by rw [IntKind.wrap_i64]; omega
    go_wp2_with fail
    refine ca.mono ?_
    rintro _ w1 ⟨rfl, j1⟩
    have HJ1 : Hid (J k w1) := j1
    clear j1 ca HJ
    cases hok : ok k
    ·have HF : Hid (Jf w1) := HN.out k w1 hkn hok HJ1.out
     go_wp2_with fail
     go_ret
     exact .inr ⟨rfl, HF.out⟩
    ·have cd := HD.out k w1 hkn hok HJ1.out
     rw [← HPC.out] at cd
     cases hdk : dok k
     ·rw [hdk] at cd
      go_wp2_with fail
      refine cd.mono ?_
      rintro _ w2 ⟨rfl, _, hf⟩
      have HF : Hid (Jf w2) := hf (by first | rfl | trivial)
      clear hf cd
      go_wp2_with fail
      go_ret
      exact .inr ⟨rfl, HF.out⟩
     ·rw [hdk] at cd
      go_wp2_with fail
      refine cd.mono ?_
      rintro _ w2 ⟨rfl, ht, _⟩
      have HT : Hid (J (k + pc) w2) := ht (by first | rfl | trivial)
      clear ht cd
      go_wp2_with fail
      exact ⟨⟨k + pc, by omega, by congr 1; omega, by congr 1; omega, HT⟩, by simp only [intOf]; omega⟩
  ·obtain rfl : k = n := by omega
   go_wp2_with fail
   go_ret
   exact .inl ⟨rfl, HJ.out⟩
set_option maxHeartbeats 2000000 in
theorem each_poke {w : World} {s : Nat} {d1 d2 : Nat} (va : Int) (n : Nat) (hv : 0 ≤ va ∧ va + n ≤ 274877906944) (J : Nat → World → Prop) (Jf : World → Prop) (pa : Nat → Int) (ok dok : Nat → Bool)
  (hat : ∀ k W, k < n → J k W → Calls Tryz.prog 149 #[.pointer (some ⟨s, 0, .none⟩), .int .u64 (va + k)] W fun e W' => e = .returned (.tuple #[.int .u64 (pa k), .bool (ok k)]) ∧ J k W')
  (hno : ∀ k W, k < n → ok k = false → J k W → Jf W)
  (hdo : ∀ k W, k < n → ok k = true → J k W → Calls Tryz.prog 102 #[.int .u64 (pa k), .int .i64 (pce va n k), .pointer (some ⟨d1, 0, .none⟩), .pointer (some ⟨d2, 0, .none⟩)] W fun e W' => e = .returned (.bool (dok k)) ∧ (dok k = true → J (k + pce va n k) W') ∧ (dok k = false → Jf W')) (h0 : J 0 w) :
  Calls Tryz.prog 49 #[.pointer (some ⟨s, 0, .none⟩), .int .u64 va, .int .i64 n, .func (.func 149) #[.pointer (some ⟨s, 0, .none⟩)] #[], .func (.func 102) #[] #[.pointer (some ⟨d1, 0, .none⟩), .pointer (some ⟨d2, 0, .none⟩)]] w (EaP n J Jf) := by
 have HA : Hid (∀ k W, k < n → J k W → Calls Tryz.prog 149 #[.pointer (some ⟨s, 0, .none⟩), .int .u64 (va + k)] W fun e W' => e = .returned (.tuple #[.int .u64 (pa k), .bool (ok k)]) ∧ J k W') := hat
 have HN : Hid (∀ k W, k < n → ok k = false → J k W → Jf W) := hno
 have HD : Hid (∀ k W, k < n → ok k = true → J k W → Calls Tryz.prog 102 #[.int .u64 (pa k), .int .i64 (pce va n k), .pointer (some ⟨d1, 0, .none⟩), .pointer (some ⟨d2, 0, .none⟩)] W fun e W' => e = .returned (.bool (dok k)) ∧ (dok k = true → J (k + pce va n k) W') ∧ (dok k = false → Jf W')) := hdo
 have H0 : Hid (J 0 w) := h0
 clear hat hno hdo h0
 go_enter Tryz.func49, Tryz.ntmps49
 go_wp2_with fail
 go_loopw [1, 2] (fun v j wr => ∃ k : Nat, k ≤ n ∧ v = .int .u64 (va + k) ∧ j = .int .i64 (n - k) ∧ Hid (J k wr)) (fun _ j _ => (intOf j).toNat)
 case atStart => exact ⟨0, by omega, by simp, by simp, H0⟩
 case round =>
  clear H0
  obtain ⟨k, hk, rfl, rfl, HJ⟩ := hrel
  by_cases hkn : k < n
  ·have hpos : (0 : Int) < n - k := by omega
   have ca := HA.out k wr hkn HJ.out
   have hb := pce_b va n k hkn
   have hrem : IntKind.u64.wrap ((va + k).tmod 4096) = (va + k) % 4096 := by rw [Int.tmod_eq_emod_of_nonneg (by omega), IntKind.wrap_u64]; omega
   have hsub : IntKind.u64.wrap (4096 - (va + k) % 4096) = 4096 - (va + k) % 4096 := by rw [IntKind.wrap_u64]; omega
   have hcv : IntKind.i64.wrap (4096 - (va + k) % 4096) = 4096 - (va + k) % 4096 := by rw [IntKind.wrap_i64]; omega
   have hpu : IntKind.u64.wrap (pce va n k : Int) = pce va n k := by rw [IntKind.wrap_u64]; omega
   have hva2 : IntKind.u64.wrap (va + k + pce va n k) = va + k + pce va n k := by rw [IntKind.wrap_u64]; omega
   by_cases hm : (n : Int) - k ≤ 4096 - (va + k) % 4096
   ·have hm2 : ¬ 4096 - (va + k) % 4096 < (n : Int) - k := by omega
    obtain ⟨pc, hpc⟩ : ∃ pc, pc = pce va n k := ⟨_, rfl⟩
    have e9 : (n : Int) - k = (pc : Int) := by rw [hpc]; unfold pce; omega
    rw [← hpc] at hb hpu hva2
    have HPC : Hid (pc = pce va n k) := hpc
    clear hpc
    have hnx : IntKind.i64.wrap ((n : Int) - k - pc) = n - k - pc := by rw [IntKind.wrap_i64]; omega
    go_wp2_with fail
    refine ca.mono ?_
    rintro _ w1 ⟨rfl, j1⟩
    have HJ1 : Hid (J k w1) := j1
    clear j1 ca HJ
    cases hok : ok k
    ·have HF : Hid (Jf w1) := HN.out k w1 hkn hok HJ1.out
     go_wp2_with fail
     go_ret
     exact .inr ⟨rfl, HF.out⟩
    ·have cd := HD.out k w1 hkn hok HJ1.out
     rw [← HPC.out] at cd
     cases hdk : dok k
     ·rw [hdk] at cd
      go_wp2_with fail
      refine cd.mono ?_
      rintro _ w2 ⟨rfl, _, hf⟩
      have HF : Hid (Jf w2) := hf (by first | rfl | trivial)
      clear hf cd
      go_wp2_with fail
      go_ret
      exact .inr ⟨rfl, HF.out⟩
     ·rw [hdk] at cd
      go_wp2_with fail
      refine cd.mono ?_
      rintro _ w2 ⟨rfl, ht, _⟩
      have HT : Hid (J (k + pc) w2) := ht (by first | rfl | trivial)
      clear ht cd
      go_wp2_with fail
      exact ⟨⟨k + pc, by omega, by congr 1; omega, by congr 1; omega, HT⟩, by simp only [intOf]; omega⟩
   ·have hm2 : 4096 - (va + k) % 4096 < (n : Int) - k := by omega
    obtain ⟨pc, hpc⟩ : ∃ pc, pc = pce va n k := ⟨_, rfl⟩
    have e9 : 4096 - (va + k) % 4096 = (pc : Int) := by rw [hpc]; unfold pce; omega
    rw [← hpc] at hb hpu hva2
    have HPC : Hid (pc = pce va n k) := hpc
    clear hpc
    have hnx : IntKind.i64.wrap ((n : Int) - k - pc) = n - k - pc := by rw [IntKind.wrap_i64]; omega
    go_wp2_with fail
    refine ca.mono ?_
    rintro _ w1 ⟨rfl, j1⟩
    have HJ1 : Hid (J k w1) := j1
    clear j1 ca HJ
    cases hok : ok k
    ·have HF : Hid (Jf w1) := HN.out k w1 hkn hok HJ1.out
     go_wp2_with fail
     go_ret
     exact .inr ⟨rfl, HF.out⟩
    ·have cd := HD.out k w1 hkn hok HJ1.out
     rw [← HPC.out] at cd
     cases hdk : dok k
     ·rw [hdk] at cd
      go_wp2_with fail
      refine cd.mono ?_
      rintro _ w2 ⟨rfl, _, hf⟩
      have HF : Hid (Jf w2) := hf (by first | rfl | trivial)
      clear hf cd
      go_wp2_with fail
      go_ret
      exact .inr ⟨rfl, HF.out⟩
     ·rw [hdk] at cd
      go_wp2_with fail
      refine cd.mono ?_
      rintro _ w2 ⟨rfl, ht, _⟩
      have HT : Hid (J (k + pc) w2) := ht (by first | rfl | trivial)
      clear ht cd
      go_wp2_with fail
      exact ⟨⟨k + pc, by omega, by congr 1; omega, by congr 1; omega, HT⟩, by simp only [intOf]; omega⟩
  ·obtain rfl : k = n := by omega
   go_wp2_with fail
   go_ret
   exact .inl ⟨rfl, HJ.out⟩
set_option maxHeartbeats 2000000 in
theorem each_can {w : World} {s : Nat} {u1 u2 : Nat} (va : Int) (n : Nat) (hv : 0 ≤ va ∧ va + n ≤ 274877906944) (J : Nat → World → Prop) (Jf : World → Prop) (pa : Nat → Int) (ok dok : Nat → Bool)
  (hat : ∀ k W, k < n → J k W → Calls Tryz.prog 100 #[.int .u64 (va + k), .pointer (some ⟨u1, 0, .none⟩), .pointer (some ⟨u2, 0, .none⟩)] W fun e W' => e = .returned (.tuple #[.int .u64 (pa k), .bool (ok k)]) ∧ J k W')
  (hno : ∀ k W, k < n → ok k = false → J k W → Jf W)
  (hdo : ∀ k W, k < n → ok k = true → J k W → Calls Tryz.prog 101 #[.int .u64 (pa k), .int .i64 (pce va n k)] W fun e W' => e = .returned (.bool (dok k)) ∧ (dok k = true → J (k + pce va n k) W') ∧ (dok k = false → Jf W')) (h0 : J 0 w) :
  Calls Tryz.prog 49 #[.pointer (some ⟨s, 0, .none⟩), .int .u64 va, .int .i64 n, .func (.func 100) #[] #[.pointer (some ⟨u1, 0, .none⟩), .pointer (some ⟨u2, 0, .none⟩)], .func (.func 101) #[] #[]] w (EaP n J Jf) := by
 have HA : Hid (∀ k W, k < n → J k W → Calls Tryz.prog 100 #[.int .u64 (va + k), .pointer (some ⟨u1, 0, .none⟩), .pointer (some ⟨u2, 0, .none⟩)] W fun e W' => e = .returned (.tuple #[.int .u64 (pa k), .bool (ok k)]) ∧ J k W') := hat
 have HN : Hid (∀ k W, k < n → ok k = false → J k W → Jf W) := hno
 have HD : Hid (∀ k W, k < n → ok k = true → J k W → Calls Tryz.prog 101 #[.int .u64 (pa k), .int .i64 (pce va n k)] W fun e W' => e = .returned (.bool (dok k)) ∧ (dok k = true → J (k + pce va n k) W') ∧ (dok k = false → Jf W')) := hdo
 have H0 : Hid (J 0 w) := h0
 clear hat hno hdo h0
 go_enter Tryz.func49, Tryz.ntmps49
 go_wp2_with fail
 go_loopw [1, 2] (fun v j wr => ∃ k : Nat, k ≤ n ∧ v = .int .u64 (va + k) ∧ j = .int .i64 (n - k) ∧ Hid (J k wr)) (fun _ j _ => (intOf j).toNat)
 case atStart => exact ⟨0, by omega, by simp, by simp, H0⟩
 case round =>
  clear H0
  obtain ⟨k, hk, rfl, rfl, HJ⟩ := hrel
  by_cases hkn : k < n
  ·have hpos : (0 : Int) < n - k := by omega
   have ca := HA.out k wr hkn HJ.out
   have hb := pce_b va n k hkn
   have hrem : IntKind.u64.wrap ((va + k).tmod 4096) = (va + k) % 4096 := by rw [Int.tmod_eq_emod_of_nonneg (by omega), IntKind.wrap_u64]; omega
   have hsub : IntKind.u64.wrap (4096 - (va + k) % 4096) = 4096 - (va + k) % 4096 := by rw [IntKind.wrap_u64]; omega
   have hcv : IntKind.i64.wrap (4096 - (va + k) % 4096) = 4096 - (va + k) % 4096 := by rw [IntKind.wrap_i64]; omega
   have hpu : IntKind.u64.wrap (pce va n k : Int) = pce va n k := by rw [IntKind.wrap_u64]; omega
   have hva2 : IntKind.u64.wrap (va + k + pce va n k) = va + k + pce va n k := by rw [IntKind.wrap_u64]; omega
   by_cases hm : (n : Int) - k ≤ 4096 - (va + k) % 4096
   ·have hm2 : ¬ 4096 - (va + k) % 4096 < (n : Int) - k := by omega
    obtain ⟨pc, hpc⟩ : ∃ pc, pc = pce va n k := ⟨_, rfl⟩
    have e9 : (n : Int) - k = (pc : Int) := by rw [hpc]; unfold pce; omega
    rw [← hpc] at hb hpu hva2
    have HPC : Hid (pc = pce va n k) := hpc
    clear hpc
    have hnx : IntKind.i64.wrap ((n : Int) - k - pc) = n - k - pc := by rw [IntKind.wrap_i64]; omega
    go_wp2_with fail
    refine ca.mono ?_
    rintro _ w1 ⟨rfl, j1⟩
    have HJ1 : Hid (J k w1) := j1
    clear j1 ca HJ
    cases hok : ok k
    ·have HF : Hid (Jf w1) := HN.out k w1 hkn hok HJ1.out
     go_wp2_with fail
     go_ret
     exact .inr ⟨rfl, HF.out⟩
    ·have cd := HD.out k w1 hkn hok HJ1.out
     rw [← HPC.out] at cd
     cases hdk : dok k
     ·rw [hdk] at cd
      go_wp2_with fail
      refine cd.mono ?_
      rintro _ w2 ⟨rfl, _, hf⟩
      have HF : Hid (Jf w2) := hf (by first | rfl | trivial)
      clear hf cd
      go_wp2_with fail
      go_ret
      exact .inr ⟨rfl, HF.out⟩
     ·rw [hdk] at cd
      go_wp2_with fail
      refine cd.mono ?_
      rintro _ w2 ⟨rfl, ht, _⟩
      have HT : Hid (J (k + pc) w2) := ht (by first | rfl | trivial)
      clear ht cd
      go_wp2_with fail
      exact ⟨⟨k + pc, by omega, by congr 1; omega, by congr 1; omega, HT⟩, by simp only [intOf]; omega⟩
   ·have hm2 : 4096 - (va + k) % 4096 < (n : Int) - k := by omega
    obtain ⟨pc, hpc⟩ : ∃ pc, pc = pce va n k := ⟨_, rfl⟩
    have e9 : 4096 - (va + k) % 4096 = (pc : Int) := by rw [hpc]; unfold pce; omega
    rw [← hpc] at hb hpu hva2
    have HPC : Hid (pc = pce va n k) := hpc
    clear hpc
    have hnx : IntKind.i64.wrap ((n : Int) - k - pc) = n - k - pc := by rw [IntKind.wrap_i64]; omega
    go_wp2_with fail
    refine ca.mono ?_
    rintro _ w1 ⟨rfl, j1⟩
    have HJ1 : Hid (J k w1) := j1
    clear j1 ca HJ
    cases hok : ok k
    ·have HF : Hid (Jf w1) := HN.out k w1 hkn hok HJ1.out
     go_wp2_with fail
     go_ret
     exact .inr ⟨rfl, HF.out⟩
    ·have cd := HD.out k w1 hkn hok HJ1.out
     rw [← HPC.out] at cd
     cases hdk : dok k
     ·rw [hdk] at cd
      go_wp2_with fail
      refine cd.mono ?_
      rintro _ w2 ⟨rfl, _, hf⟩
      have HF : Hid (Jf w2) := hf (by first | rfl | trivial)
      clear hf cd
      go_wp2_with fail
      go_ret
      exact .inr ⟨rfl, HF.out⟩
     ·rw [hdk] at cd
      go_wp2_with fail
      refine cd.mono ?_
      rintro _ w2 ⟨rfl, ht, _⟩
      have HT : Hid (J (k + pc) w2) := ht (by first | rfl | trivial)
      clear ht cd
      go_wp2_with fail
      exact ⟨⟨k + pc, by omega, by congr 1; omega, by congr 1; omega, HT⟩, by simp only [intOf]; omega⟩
  ·obtain rfl : k = n := by omega
   go_wp2_with fail
   go_ret
   exact .inl ⟨rfl, HJ.out⟩
end Go.Proofs.YtabnipbdbnmmpaaGreatDoor.Rm
namespace Go.Proofs.YtabnipbdbnmmpaaGreatDoor.Rm
open Go Go.RowKit
theorem wrU_else (B : Nat → Int) (fr : Nat → Nat) (va : Nat) (R : Nat → Int) (f i : Nat) (hi : i < 4096) : ∀ k : Nat, (∀ j, j < k → fr ((va + j) / 4096) ≠ f) → wrU B fr va R k (f * 4096 + i) = B (f * 4096 + i)
 | 0, _ => rfl
 | k + 1, h => by
  simp only [wrU]
  rw [if_neg (fun e => h k (by omega) (by omega))]
  exact wrU_else B fr va R f i hi k (fun j hj => h j (by omega))
section
variable {w w0 W W' : World} {s p b m N r P : Nat} {size : Int} {B : Nat → Int} {L : List Nat} {F : Nat → Option Nat} {lf : Nat → Nat → Int} {fr : Nat → Nat} {c : Nat → Int}
theorem SpU.wr {va k : Nat} {R : Nat → Int} (h : SpU W s p b m N r P size B L F lf fr c) (hv : va + k ≤ P * 4096) (hs : Sp W' s p (ad r) size) (hr : Ram W' p b m N (wrU B fr va R k) L) : SpU W' s p b m N r P size (wrU B fr va R k) L F lf fr c :=
 ⟨hs, h.sz, h.pm, hr, h.pt.keep (fun x f hf i hi => wrU_else B fr va R f i hi k (fun j hj e => (h.pag ((va + j) / 4096) (by omega)).nn x (by rw [e]; exact hf))) (fun x f hf => (h.pt.held x f hf).2.2), h.rt, h.ne, h.pag⟩
structure PuJ (w0 : World) (s p b m N r P : Nat) (size : Int) (B : Nat → Int) (L : List Nat) (F : Nat → Option Nat) (lf : Nat → Nat → Int) (fr : Nat → Nat) (c : Nat → Int) (g k0 cc bv sv va n : Nat) (R : Nat → Int) (k : Nat) (W : World) : Prop where
 fra : Fra p b m w0 W
 sp : Sp W s p (ad r) size
 ram : Ram W p b m N (wrU B fr va R k) L
 cv : W.cell? ⟨sv, 0, .none⟩ = some (.pointer (some ⟨s, 0, .none⟩))
 cb : ∃ q, W.cell? ⟨bv, 0, .none⟩ = some (.slice q (n - k : Nat) (cc - k : Nat)) ∧ (k < n → q = some ⟨g, k0 + k, .none⟩)
 fb : W.frozen? ⟨bv, 0, .none⟩ = false
theorem PuJ.below {g k0 cc bv sv va n k : Nat} {R : Nat → Int} (h : PuJ w0 s p b m N r P size B L F lf fr c g k0 cc bv sv va n R k W) (hb : Below W.heap.size W W') : PuJ w0 s p b m N r P size B L F lf fr c g k0 cc bv sv va n R k W' := by
 obtain ⟨q, hq, hq2⟩ := h.cb
 exact ⟨h.fra.trans (Fra.below hb), h.sp.below hb, h.ram.below hb, (hb.cell (p := ⟨sv, 0, .none⟩) (lt_of_cell h.cv)).trans h.cv, ⟨q, (hb.cell (p := ⟨bv, 0, .none⟩) (lt_of_cell hq)).trans hq, hq2⟩, (hb.frozen (p := ⟨bv, 0, .none⟩) (lt_of_cell hq)).trans h.fb⟩
theorem PuJ.piece {g k0 cc bv sv va n k : Nat} {R : Nat → Int} (h0 : SpU w0 s p b m N r P size B L F lf fr c) (hJ : PuJ w0 s p b m N r P size B L F lf fr c g k0 cc bv sv va n R k W) (hk : k < n) (hf : va + n ≤ P * 4096) (hcc : n ≤ cc ∧ cc ≤ 9223372036854775807) (hR : ∀ i, 0 ≤ R i ∧ R i < 256)
  (hg : ∀ i, i < n → w0.cell? ⟨g, k0 + i, .none⟩ = some (.int .u8 (R i))) (hgp : g ≠ p ∧ g ≠ b ∧ g ≠ m) (hbv : w0.heap.size ≤ bv) (hne : bv ≠ sv) (hsv : w0.heap.size ≤ sv) : Calls Tryz.prog 102 #[.int .u64 (ad (fr ((va + k) / 4096)) + ((va + k) % 4096 : Nat)), .int .i64 (pce va n k), .pointer (some ⟨bv, 0, .none⟩), .pointer (some ⟨sv, 0, .none⟩)] W fun e W' => e = .returned (.bool true) ∧ PuJ w0 s p b m N r P size B L F lf fr c g k0 cc bv sv va n R (k + pce va n k) W' := by
 have hm := h0.pm
 have hp := h0.pag ((va + k) / 4096) (by omega)
 have hb := pce_b (va : Int) n k hk
 have hom : (((va : Int) + k) % 4096).toNat = (va + k) % 4096 := by omega
 rw [hom] at hb
 have hgl : g < w0.heap.size := lt_of_cell (hg 0 (by omega))
 have hpl := h0.ram.mem.plt
 have hbl := h0.ram.mem.blt
 have hml := h0.ram.mem.mlt
 have hsl := h0.sp.lt
 obtain ⟨q, hq, hq2⟩ := hJ.cb
 have hq3 := hq2 hk
 subst hq3
 refine (put1_gen hJ.sp hJ.ram (fr ((va + k) / 4096)) ((va + k) % 4096) (pce va n k) hp.qb hb.1 hb.2.2 g (k0 + k) (n - k) (cc - k) (by omega) (fun i => R (k + i)) (fun i => hR _) (fun i hi => ?_) bv sv hq hJ.fb hJ.cv ⟨by omega, by omega, by omega, by omega, by omega, hne⟩).mono fun e W2 h2 => ?_
 ·rw [hJ.fra.cell (x := ⟨g, k0 + k + i, .none⟩) hgl hgp.1 hgp.2.1 hgp.2.2, Nat.add_assoc]
  exact hg (k + i) (by omega)
 ·obtain ⟨he, r2, t2, ⟨q2, hq2c, hq2v⟩, f2⟩ := h2
  rw [wrU_over B fr va k R (pce va n k) hb.2.2] at r2
  have hsz := hJ.fra.size
  refine ⟨he, ⟨Tch.fra hJ.fra t2 hbv, ?_, r2, ?_, ⟨q2, ?_, fun hlt => ?_⟩, f2⟩⟩
  ·have es : W2.heap[s]? = W.heap[s]? := t2.block s hJ.sp.lt h0.ne.1 h0.ne.2.1 h0.ne.2.2 (by omega)
   have ec : ∀ o, W2.cell? ⟨s, o, .none⟩ = W.cell? ⟨s, o, .none⟩ := fun o => by simp only [World.cell?, es]
   have ef : ∀ o, W2.frozen? ⟨s, o, .none⟩ = W.frozen? ⟨s, o, .none⟩ := fun o => by simp only [World.frozen?, es]
   exact ⟨(ec 0).trans hJ.sp.c0, (ec 1).trans hJ.sp.c1, (ec 2).trans hJ.sp.c2, fun o => (ef o).trans (hJ.sp.fr o)⟩
  ·have es : W2.heap[sv]? = W.heap[sv]? := t2.block sv (lt_of_cell hJ.cv) (by omega) (by omega) (by omega) (Ne.symm hne)
   exact (World.cell?_of_block (a := ⟨sv, 0, .none⟩) es).trans hJ.cv
  ·rw [hq2c, show n - (k + pce va n k) = n - k - pce va n k by omega, show cc - (k + pce va n k) = cc - k - pce va n k by omega]
  ·rw [hq2v (by omega), Nat.add_assoc]
end
end Go.Proofs.YtabnipbdbnmmpaaGreatDoor.Rm
