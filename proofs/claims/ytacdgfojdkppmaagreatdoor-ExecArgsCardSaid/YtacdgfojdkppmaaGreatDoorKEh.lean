import Derived.Test.YtacdgfojdkppmaaGreatDoorKEa
namespace Go.Proofs.YtacdgfojdkppmaaGreatDoor.Rm
open Go Go.RowKit
set_option linter.unusedVariables false
set_option linter.unusedSimpArgs false
set_option maxHeartbeats 2000000 in
theorem each_out {w : World} {s : Nat} {u1 u2 d1 d2 : Nat} (va : Int) (n : Nat) (hv : 0 ≤ va ∧ va + n ≤ 274877906944) (J : Nat → World → Prop) (Jf : World → Prop) (pa : Nat → Int) (ok dok : Nat → Bool)
  (hat : ∀ k W, k < n → J k W → Calls Tryz.prog 78 #[.int .u64 (va + k), .pointer (some ⟨u1, 0, .none⟩), .pointer (some ⟨u2, 0, .none⟩)] W fun e W' => e = .returned (.tuple #[.int .u64 (pa k), .bool (ok k)]) ∧ J k W')
  (hno : ∀ k W, k < n → ok k = false → J k W → Jf W)
  (hdo : ∀ k W, k < n → ok k = true → J k W → Calls Tryz.prog 91 #[.int .u64 (pa k), .int .i64 (pce va n k), .pointer (some ⟨d1, 0, .none⟩), .pointer (some ⟨d2, 0, .none⟩)] W fun e W' => e = .returned (.bool (dok k)) ∧ (dok k = true → J (k + pce va n k) W') ∧ (dok k = false → Jf W')) (h0 : J 0 w) :
  Calls Tryz.prog 36 #[.pointer (some ⟨s, 0, .none⟩), .int .u64 va, .int .i64 n, .func (.func 78) #[] #[.pointer (some ⟨u1, 0, .none⟩), .pointer (some ⟨u2, 0, .none⟩)], .func (.func 91) #[] #[.pointer (some ⟨d1, 0, .none⟩), .pointer (some ⟨d2, 0, .none⟩)]] w (EaP n J Jf) := by
 have HA : Hid (∀ k W, k < n → J k W → Calls Tryz.prog 78 #[.int .u64 (va + k), .pointer (some ⟨u1, 0, .none⟩), .pointer (some ⟨u2, 0, .none⟩)] W fun e W' => e = .returned (.tuple #[.int .u64 (pa k), .bool (ok k)]) ∧ J k W') := hat
 have HN : Hid (∀ k W, k < n → ok k = false → J k W → Jf W) := hno
 have HD : Hid (∀ k W, k < n → ok k = true → J k W → Calls Tryz.prog 91 #[.int .u64 (pa k), .int .i64 (pce va n k), .pointer (some ⟨d1, 0, .none⟩), .pointer (some ⟨d2, 0, .none⟩)] W fun e W' => e = .returned (.bool (dok k)) ∧ (dok k = true → J (k + pce va n k) W') ∧ (dok k = false → Jf W')) := hdo
 have H0 : Hid (J 0 w) := h0
 clear hat hno hdo h0
 go_enter Tryz.func36, Tryz.ntmps36
 go_wp2_with fail
 go_loopw [1, 2] (fun v j wr => ∃ k : Nat, k ≤ n ∧ v = .int .u64 (va + k) ∧ j = .int .i64 (n - k) ∧ Hid (J k wr)) (fun _ j _ => (intOf j).toNat)
 case atStart => exact ⟨0, by omega, by simp, by simp, H0⟩
 case round =>
  clear H0
  obtain ⟨k, hk, rfl, rfl, HJ⟩ := hrel
  by_cases hkn : k < n
  ·have hpos : (0 : Int) < n - k := by omega
   have ca := HA.out k wr hkn HJ.out
   have hb := pce_b va n k hkn
   have hrem : IntKind.u64.wrap ((va + k).tmod 4096) = (va + k) % 4096 := by rw [Int.tmod_eq_emod_of_nonneg (by omega), IntKind.wrap_u64]; omega
   have hsub : IntKind.u64.wrap (4096 - (va + k) % 4096) = 4096 - (va + k) % 4096 := by rw [IntKind.wrap_u64]; omega
   have hcv : IntKind.i64.wrap (4096 - (va + k) % 4096) = 4096 - (va + k) % 4096 := by rw [IntKind.wrap_i64]; omega
   have hpu : IntKind.u64.wrap (pce va n k : Int) = pce va n k := by rw [IntKind.wrap_u64]; omega
   have hva2 : IntKind.u64.wrap (va + k + pce va n k) = va + k + pce va n k := by rw [IntKind.wrap_u64]; omega
   by_cases hm : (n : Int) - k ≤ 4096 - (va + k) % 4096
   ·have hm2 : ¬ 4096 - (va + k) % 4096 < (n : Int) - k := by omega
    obtain ⟨pc, hpc⟩ : ∃ pc, pc = pce va n k := ⟨_, rfl⟩
    have e9 : (n : Int) - k = (pc : Int) := by rw [hpc]; unfold pce; omega
    rw [← hpc] at hb hpu hva2
    have HPC : Hid (pc = pce va n k) := hpc
    clear hpc
    have hnx : IntKind.i64.wrap ((n : Int) - k - pc) = n - k - pc := by rw [IntKind.wrap_i64]; omega
    go_wp2_with fail
    refine ca.mono ?_
    rintro _ w1 ⟨rfl, j1⟩
    have HJ1 : Hid (J k w1) := j1
    clear j1 ca HJ
    cases hok : ok k
    ·have HF : Hid (Jf w1) := HN.out k w1 hkn hok HJ1.out
     go_wp2_with fail
     go_ret
     exact .inr ⟨rfl, HF.out⟩
    ·have cd := HD.out k w1 hkn hok HJ1.out
     rw [← HPC.out] at cd
     cases hdk : dok k
     ·rw [hdk] at cd
      go_wp2_with fail
      refine cd.mono ?_
      rintro _ w2 ⟨rfl, _, hf⟩
      have HF : Hid (Jf w2) := hf (by first | rfl | trivial)
      clear hf cd
      go_wp2_with fail
      go_ret
      exact .inr ⟨rfl, HF.out⟩
     ·rw [hdk] at cd
      go_wp2_with fail
      refine cd.mono ?_
      rintro _ w2 ⟨rfl, ht, _⟩
      have HT : Hid (J (k + pc) w2) := ht (by first | rfl | trivial)
      clear ht cd
      go_wp2_with fail
      exact ⟨⟨k + pc, by omega, by congr 1; omega, by congr 1; omega, HT⟩, by simp only [intOf]; omega⟩
   ·have hm2 : 4096 - (va + k) % 4096 < (n : Int) - k := by omega
    obtain ⟨pc, hpc⟩ : ∃ pc, pc = pce va n k := ⟨_, rfl⟩
    have e9 : 4096 - (va + k) % 4096 = (pc : Int) := by rw [hpc]; unfold pce; omega
    rw [← hpc] at hb hpu hva2
    have HPC : Hid (pc = pce va n k) := hpc
    clear hpc
    have hnx : IntKind.i64.wrap ((n : Int) - k - pc) = n - k - pc := by rw [IntKind.wrap_i64]; omega
    go_wp2_with fail
    refine ca.mono ?_
    rintro _ w1 ⟨rfl, j1⟩
    have HJ1 : Hid (J k w1) := j1
    clear j1 ca HJ
    cases hok : ok k
    ·have HF : Hid (Jf w1) := HN.out k w1 hkn hok HJ1.out
     go_wp2_with fail
     go_ret
     exact .inr ⟨rfl, HF.out⟩
    ·have cd := HD.out k w1 hkn hok HJ1.out
     rw [← HPC.out] at cd
     cases hdk : dok k
     ·rw [hdk] at cd
      go_wp2_with fail
      refine cd.mono ?_
      rintro _ w2 ⟨rfl, _, hf⟩
      have HF : Hid (Jf w2) := hf (by first | rfl | trivial)
      clear hf cd
      go_wp2_with fail
      go_ret
      exact .inr ⟨rfl, HF.out⟩
     ·rw [hdk] at cd
      go_wp2_with fail
      refine cd.mono ?_
      rintro _ w2 ⟨rfl, ht, _⟩
      have HT : Hid (J (k + pc) w2) := ht (by first | rfl | trivial)
      clear ht cd
      go_wp2_with fail
      exact ⟨⟨k + pc, by omega, by congr 1; omega, by congr 1; omega, HT⟩, by simp only [intOf]; omega⟩
  ·obtain rfl : k = n := by omega
   go_wp2_with fail
   go_ret
   exact .inl ⟨rfl, HJ.out⟩
set_option maxHeartbeats 2000000 in
theorem each_poke {w : World} {s : Nat} {d1 d2 : Nat} (va : Int) (n : Nat) (hv : 0 ≤ va ∧ va + n ≤ 274877906944) (J : Nat → World → Prop) (Jf : World → Prop) (pa : Nat → Int) (ok dok : Nat → Bool)
  (hat : ∀ k W, k < n → J k W → Calls Tryz.prog 111 #[.pointer (some ⟨s, 0, .none⟩), .int .u64 (va + k)] W fun e W' => e = .returned (.tuple #[.int .u64 (pa k), .bool (ok k)]) ∧ J k W')
  (hno : ∀ k W, k < n → ok k = false → J k W → Jf W)
  (hdo : ∀ k W, k < n → ok k = true → J k W → Calls Tryz.prog 91 #[.int .u64 (pa k), .int .i64 (pce va n k), .pointer (some ⟨d1, 0, .none⟩), .pointer (some ⟨d2, 0, .none⟩)] W fun e W' => e = .returned (.bool (dok k)) ∧ (dok k = true → J (k + pce va n k) W') ∧ (dok k = false → Jf W')) (h0 : J 0 w) :
  Calls Tryz.prog 36 #[.pointer (some ⟨s, 0, .none⟩), .int .u64 va, .int .i64 n, .func (.func 111) #[.pointer (some ⟨s, 0, .none⟩)] #[], .func (.func 91) #[] #[.pointer (some ⟨d1, 0, .none⟩), .pointer (some ⟨d2, 0, .none⟩)]] w (EaP n J Jf) := by
 have HA : Hid (∀ k W, k < n → J k W → Calls Tryz.prog 111 #[.pointer (some ⟨s, 0, .none⟩), .int .u64 (va + k)] W fun e W' => e = .returned (.tuple #[.int .u64 (pa k), .bool (ok k)]) ∧ J k W') := hat
 have HN : Hid (∀ k W, k < n → ok k = false → J k W → Jf W) := hno
 have HD : Hid (∀ k W, k < n → ok k = true → J k W → Calls Tryz.prog 91 #[.int .u64 (pa k), .int .i64 (pce va n k), .pointer (some ⟨d1, 0, .none⟩), .pointer (some ⟨d2, 0, .none⟩)] W fun e W' => e = .returned (.bool (dok k)) ∧ (dok k = true → J (k + pce va n k) W') ∧ (dok k = false → Jf W')) := hdo
 have H0 : Hid (J 0 w) := h0
 clear hat hno hdo h0
 go_enter Tryz.func36, Tryz.ntmps36
 go_wp2_with fail
 go_loopw [1, 2] (fun v j wr => ∃ k : Nat, k ≤ n ∧ v = .int .u64 (va + k) ∧ j = .int .i64 (n - k) ∧ Hid (J k wr)) (fun _ j _ => (intOf j).toNat)
 case atStart => exact ⟨0, by omega, by simp, by simp, H0⟩
 case round =>
  clear H0
  obtain ⟨k, hk, rfl, rfl, HJ⟩ := hrel
  by_cases hkn : k < n
  ·have hpos : (0 : Int) < n - k := by omega
   have ca := HA.out k wr hkn HJ.out
   have hb := pce_b va n k hkn
   have hrem : IntKind.u64.wrap ((va + k).tmod 4096) = (va + k) % 4096 := by rw [Int.tmod_eq_emod_of_nonneg (by omega), IntKind.wrap_u64]; omega
   have hsub : IntKind.u64.wrap (4096 - (va + k) % 4096) = 4096 - (va + k) % 4096 := by rw [IntKind.wrap_u64]; omega
   have hcv : IntKind.i64.wrap (4096 - (va + k) % 4096) = 4096 - (va + k) % 4096 := by rw [IntKind.wrap_i64]; omega
   have hpu : IntKind.u64.wrap (pce va n k : Int) = pce va n k := by rw [IntKind.wrap_u64]; omega
   have hva2 : IntKind.u64.wrap (va + k + pce va n k) = va + k + pce va n k := by rw [IntKind.wrap_u64]; omega
   by_cases hm : (n : Int) - k ≤ 4096 - (va + k) % 4096
   ·have hm2 : ¬ 4096 - (va + k) % 4096 < (n : Int) - k := by omega
    obtain ⟨pc, hpc⟩ : ∃ pc, pc = pce va n k := ⟨_, rfl⟩
    have e9 : (n : Int) - k = (pc : Int) := by rw [hpc]; unfold pce; omega
    rw [← hpc] at hb hpu hva2
    have HPC : Hid (pc = pce va n k) := hpc
    clear hpc
    have hnx : IntKind.i64.wrap ((n : Int) - k - pc) = n - k - pc := by rw [IntKind.wrap_i64]; omega
    go_wp2_with fail
    refine ca.mono ?_
    rintro _ w1 ⟨rfl, j1⟩
    have HJ1 : Hid (J k w1) := j1
    clear j1 ca HJ
    cases hok : ok k
    ·have HF : Hid (Jf w1) := HN.out k w1 hkn hok HJ1.out
     go_wp2_with fail
     go_ret
     exact .inr ⟨rfl, HF.out⟩
    ·have cd := HD.out k w1 hkn hok HJ1.out
     rw [← HPC.out] at cd
     cases hdk : dok k
     ·rw [hdk] at cd
      go_wp2_with fail
      refine cd.mono ?_
      rintro _ w2 ⟨rfl, _, hf⟩
      have HF : Hid (Jf w2) := hf (by first | rfl | trivial)
      clear hf cd
      go_wp2_with fail
      go_ret
      exact .inr ⟨rfl, HF.out⟩
     ·rw [hdk] at cd
      go_wp2_with fail
      refine cd.mono ?_
      rintro _ w2 ⟨rfl, ht, _⟩
      have HT : Hid (J (k + pc) w2) := ht (by first | rfl | trivial)
      clear ht cd
      go_wp2_with fail
      exact ⟨⟨k + pc, by omega, by congr 1; omega, by congr 1; omega, HT⟩, by simp only [intOf]; omega⟩
   ·have hm2 : 4096 - (va + k) % 4096 < (n : Int) - k := by omega
    obtain ⟨pc, hpc⟩ : ∃ pc, pc = pce va n k := ⟨_, rfl⟩
    have e9 : 4096 - (va + k) % 4096 = (pc : Int) := by rw [hpc]; unfold pce; omega
    rw [← hpc] at hb hpu hva2
    have HPC : Hid (pc = pce va n k) := hpc
    clear hpc
    have hnx : IntKind.i64.wrap ((n : Int) - k - pc) = n - k - pc := by rw [IntKind.wrap_i64]; omega
    go_wp2_with fail
    refine ca.mono ?_
    rintro _ w1 ⟨rfl, j1⟩
    have HJ1 : Hid (J k w1) := j1
    clear j1 ca HJ
    cases hok : ok k
    ·have HF : Hid (Jf w1) := HN.out k w1 hkn hok HJ1.out
     go_wp2_with fail
     go_ret
     exact .inr ⟨rfl, HF.out⟩
    ·have cd := HD.out k w1 hkn hok HJ1.out
     rw [← HPC.out] at cd
     cases hdk : dok k
     ·rw [hdk] at cd
      go_wp2_with fail
      refine cd.mono ?_
      rintro _ w2 ⟨rfl, _, hf⟩
      have HF : Hid (Jf w2) := hf (by first | rfl | trivial)
      clear hf cd
      go_wp2_with fail
      go_ret
      exact .inr ⟨rfl, HF.out⟩
     ·rw [hdk] at cd
      go_wp2_with fail
      refine cd.mono ?_
      rintro _ w2 ⟨rfl, ht, _⟩
      have HT : Hid (J (k + pc) w2) := ht (by first | rfl | trivial)
      clear ht cd
      go_wp2_with fail
      exact ⟨⟨k + pc, by omega, by congr 1; omega, by congr 1; omega, HT⟩, by simp only [intOf]; omega⟩
  ·obtain rfl : k = n := by omega
   go_wp2_with fail
   go_ret
   exact .inl ⟨rfl, HJ.out⟩
set_option maxHeartbeats 2000000 in
theorem each_can {w : World} {s : Nat} {u1 u2 : Nat} (va : Int) (n : Nat) (hv : 0 ≤ va ∧ va + n ≤ 274877906944) (J : Nat → World → Prop) (Jf : World → Prop) (pa : Nat → Int) (ok dok : Nat → Bool)
  (hat : ∀ k W, k < n → J k W → Calls Tryz.prog 78 #[.int .u64 (va + k), .pointer (some ⟨u1, 0, .none⟩), .pointer (some ⟨u2, 0, .none⟩)] W fun e W' => e = .returned (.tuple #[.int .u64 (pa k), .bool (ok k)]) ∧ J k W')
  (hno : ∀ k W, k < n → ok k = false → J k W → Jf W)
  (hdo : ∀ k W, k < n → ok k = true → J k W → Calls Tryz.prog 90 #[.int .u64 (pa k), .int .i64 (pce va n k)] W fun e W' => e = .returned (.bool (dok k)) ∧ (dok k = true → J (k + pce va n k) W') ∧ (dok k = false → Jf W')) (h0 : J 0 w) :
  Calls Tryz.prog 36 #[.pointer (some ⟨s, 0, .none⟩), .int .u64 va, .int .i64 n, .func (.func 78) #[] #[.pointer (some ⟨u1, 0, .none⟩), .pointer (some ⟨u2, 0, .none⟩)], .func (.func 90) #[] #[]] w (EaP n J Jf) := by
 have HA : Hid (∀ k W, k < n → J k W → Calls Tryz.prog 78 #[.int .u64 (va + k), .pointer (some ⟨u1, 0, .none⟩), .pointer (some ⟨u2, 0, .none⟩)] W fun e W' => e = .returned (.tuple #[.int .u64 (pa k), .bool (ok k)]) ∧ J k W') := hat
 have HN : Hid (∀ k W, k < n → ok k = false → J k W → Jf W) := hno
 have HD : Hid (∀ k W, k < n → ok k = true → J k W → Calls Tryz.prog 90 #[.int .u64 (pa k), .int .i64 (pce va n k)] W fun e W' => e = .returned (.bool (dok k)) ∧ (dok k = true → J (k + pce va n k) W') ∧ (dok k = false → Jf W')) := hdo
 have H0 : Hid (J 0 w) := h0
 clear hat hno hdo h0
 go_enter Tryz.func36, Tryz.ntmps36
 go_wp2_with fail
 go_loopw [1, 2] (fun v j wr => ∃ k : Nat, k ≤ n ∧ v = .int .u64 (va + k) ∧ j = .int .i64 (n - k) ∧ Hid (J k wr)) (fun _ j _ => (intOf j).toNat)
 case atStart => exact ⟨0, by omega, by simp, by simp, H0⟩
 case round =>
  clear H0
  obtain ⟨k, hk, rfl, rfl, HJ⟩ := hrel
  by_cases hkn : k < n
  ·have hpos : (0 : Int) < n - k := by omega
   have ca := HA.out k wr hkn HJ.out
   have hb := pce_b va n k hkn
   have hrem : IntKind.u64.wrap ((va + k).tmod 4096) = (va + k) % 4096 := by rw [Int.tmod_eq_emod_of_nonneg (by omega), IntKind.wrap_u64]; omega
   have hsub : IntKind.u64.wrap (4096 - (va + k) % 4096) = 4096 - (va + k) % 4096 := by rw [IntKind.wrap_u64]; omega
   have hcv : IntKind.i64.wrap (4096 - (va + k) % 4096) = 4096 - (va + k) % 4096 := by rw [IntKind.wrap_i64]; omega
   have hpu : IntKind.u64.wrap (pce va n k : Int) = pce va n k := by rw [IntKind.wrap_u64]; omega
   have hva2 : IntKind.u64.wrap (va + k + pce va n k) = va + k + pce va n k := by rw [IntKind.wrap_u64]; omega
   by_cases hm : (n : Int) - k ≤ 4096 - (va + k) % 4096
   ·have hm2 : ¬ 4096 - (va + k) % 4096 < (n : Int) - k := by omega
    obtain ⟨pc, hpc⟩ : ∃ pc, pc = pce va n k := ⟨_, rfl⟩
    have e9 : (n : Int) - k = (pc : Int) := by rw [hpc]; unfold pce; omega
    rw [← hpc] at hb hpu hva2
    have HPC : Hid (pc = pce va n k) := hpc
    clear hpc
    have hnx : IntKind.i64.wrap ((n : Int) - k - pc) = n - k - pc := by rw [IntKind.wrap_i64]; omega
    go_wp2_with fail
    refine ca.mono ?_
    rintro _ w1 ⟨rfl, j1⟩
    have HJ1 : Hid (J k w1) := j1
    clear j1 ca HJ
    cases hok : ok k
    ·have HF : Hid (Jf w1) := HN.out k w1 hkn hok HJ1.out
     go_wp2_with fail
     go_ret
     exact .inr ⟨rfl, HF.out⟩
    ·have cd := HD.out k w1 hkn hok HJ1.out
     rw [← HPC.out] at cd
     cases hdk : dok k
     ·rw [hdk] at cd
      go_wp2_with fail
      refine cd.mono ?_
      rintro _ w2 ⟨rfl, _, hf⟩
      have HF : Hid (Jf w2) := hf (by first | rfl | trivial)
      clear hf cd
      go_wp2_with fail
      go_ret
      exact .inr ⟨rfl, HF.out⟩
     ·rw [hdk] at cd
      go_wp2_with fail
      refine cd.mono ?_
      rintro _ w2 ⟨rfl, ht, _⟩
      have HT : Hid (J (k + pc) w2) := ht (by first | rfl | trivial)
      clear ht cd
      go_wp2_with fail
      exact ⟨⟨k + pc, by omega, by congr 1; omega, by congr 1; omega, HT⟩, by simp only [intOf]; omega⟩
   ·have hm2 : 4096 - (va + k) % 4096 < (n : Int) - k := by omega
    obtain ⟨pc, hpc⟩ : ∃ pc, pc = pce va n k := ⟨_, rfl⟩
    have e9 : 4096 - (va + k) % 4096 = (pc : Int) := by rw [hpc]; unfold pce; omega
    rw [← hpc] at hb hpu hva2
    have HPC : Hid (pc = pce va n k) := hpc
    clear hpc
    have hnx : IntKind.i64.wrap ((n : Int) - k - pc) = n - k - pc := by rw [IntKind.wrap_i64]; omega
    go_wp2_with fail
    refine ca.mono ?_
    rintro _ w1 ⟨rfl, j1⟩
    have HJ1 : Hid (J k w1) := j1
    clear j1 ca HJ
    cases hok : ok k
    ·have HF : Hid (Jf w1) := HN.out k w1 hkn hok HJ1.out
     go_wp2_with fail
     go_ret
     exact .inr ⟨rfl, HF.out⟩
    ·have cd := HD.out k w1 hkn hok HJ1.out
     rw [← HPC.out] at cd
     cases hdk : dok k
     ·rw [hdk] at cd
      go_wp2_with fail
      refine cd.mono ?_
      rintro _ w2 ⟨rfl, _, hf⟩
      have HF : Hid (Jf w2) := hf (by first | rfl | trivial)
      clear hf cd
      go_wp2_with fail
      go_ret
      exact .inr ⟨rfl, HF.out⟩
     ·rw [hdk] at cd
      go_wp2_with fail
      refine cd.mono ?_
      rintro _ w2 ⟨rfl, ht, _⟩
      have HT : Hid (J (k + pc) w2) := ht (by first | rfl | trivial)
      clear ht cd
      go_wp2_with fail
      exact ⟨⟨k + pc, by omega, by congr 1; omega, by congr 1; omega, HT⟩, by simp only [intOf]; omega⟩
  ·obtain rfl : k = n := by omega
   go_wp2_with fail
   go_ret
   exact .inl ⟨rfl, HJ.out⟩
end Go.Proofs.YtacdgfojdkppmaaGreatDoor.Rm
