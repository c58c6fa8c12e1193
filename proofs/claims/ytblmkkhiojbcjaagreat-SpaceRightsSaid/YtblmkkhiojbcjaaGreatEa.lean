import Derived.Test.YtblmkkhiojbcjaaGreatUa
import Derived.Test.YtblmkkhiojbcjaaGreatUk
import Derived.Test.YtblmkkhiojbcjaaGreatLeaf
namespace Go.Proofs.YtblmkkhiojbcjaaGreat
open Go.RowKit
set_option linter.unusedVariables false
set_option linter.unusedSimpArgs false
/-- Four blocks may have turned. -/
structure Tch (p b m x : Nat) (w w' : World) : Prop where
  os : w'.os = w.os
  tape : w'.tape = w.tape
  output : w'.output = w.output
  size : w.heap.size ≤ w'.heap.size
  block : ∀ k, k < w.heap.size → k ≠ p → k ≠ b → k ≠ m → k ≠ x → w'.heap[k]? = w.heap[k]?
theorem Tch.trans {p b m x : Nat} {u v w : World} (h : Tch p b m x u v) (k : Tch p b m x v w) : Tch p b m x u w :=
  ⟨k.os.trans h.os, k.tape.trans h.tape, k.output.trans h.output, Nat.le_trans h.size k.size, fun i hi a c d e => (k.block i (Nat.lt_of_lt_of_le hi h.size) a c d e).trans (h.block i hi a c d e)⟩
theorem Tch.of {p b m x : Nat} {w w' : World} (h : Fra p b m w w') : Tch p b m x w w' := ⟨h.os, h.tape, h.output, h.size, fun k hk a c d _ => h.block k hk a c d⟩
theorem Tch.fra {p b m x : Nat} {w v w' : World} (hv : Fra p b m w v) (h : Tch p b m x v w') (hx : w.heap.size ≤ x) : Fra p b m w w' :=
  ⟨h.os.trans hv.os, h.tape.trans hv.tape, h.output.trans hv.output, Nat.le_trans hv.size h.size, fun k hk a c d => (h.block k (Nat.lt_of_lt_of_le hk hv.size) a c d (by omega)).trans (hv.block k hk a c d)⟩
theorem Tch.set {p b m x : Nat} {w : World} (k : Nat) (v : Value) : Tch p b m x w (w.setCell ⟨x, k, .none⟩ v) := ⟨rfl, rfl, rfl, by simp [World.setCell], fun i hi _ _ _ e => Below.heap_setCell _ _ _ _ (fun h => e h)⟩
theorem elemU8 (W : World) : (sizeOf (Tryz.prog.elem 24)).run Tryz.prog W = .ok 1 W := by
  have e : Tryz.prog.elem 24 = 5 := by kernel_rfl
  obtain ⟨i, z, hi, _, hs, _⟩ := info_of 5 1 1 (by kernel_rfl) (by kernel_rfl)
  rw [e]
  simp [sizeOf, typeInfo, hi, hs]
theorem cutTo (g k n c : Nat) (h : n ≤ c) (W : World) : (Instr.slice 24 (.slice (some ⟨g, k, .none⟩) n c) none (some (.int .i64 n)) none).run Tryz.prog W = .ok (.slice (some ⟨g, k, .none⟩) n c) W := by
  rw [run_slice_h W 24 (some ⟨g, k, .none⟩) n c (by kernel_rfl) .i64 n (by omega) (by omega), elemU8]
  simp [Result.andThen, sliced, Addr.add]
theorem cutFrom (g k n c : Nat) (h : n ≤ c) (W : World) : ∃ q, (Instr.slice 24 (.slice (some ⟨g, k, .none⟩) n c) (some (.int .i64 n)) none none).run Tryz.prog W = .ok (.slice q 0 (c - n)) W := by
  rw [run_slice_l W 24 (some ⟨g, k, .none⟩) n c (by kernel_rfl) .i64 n (by omega) (by omega), elemU8]
  refine ⟨if c = n then some ⟨g, k, .none⟩ else some ((⟨g, k, .none⟩ : Addr).add n), ?_⟩
  simp [Result.andThen, sliced]
  try (split <;> rfl)
section
variable {w : World} {s p b m N : Nat} {B : Nat → Int} {L : List Nat} {F : Nat → Option Nat} {lf : Nat → Nat → Int}
def PuP (w : World) (p b m x N : Nat) (B : Nat → Int) (L : List Nat) (q o n : Nat) (R : Nat → Int) (e : Ending) (w' : World) : Prop := e = .returned (.bool true) ∧ Ram w' p b m N (over B (q * 4096 + o) ((List.range n).map R)) L ∧ Tch p b m x w w'
set_option maxHeartbeats 1000000 in
theorem put1_any {root size : Int} (hS : Sp w s p root size) (h : Ram w p b m N B L) (q o n : Nat) (hq : q < N ∧ q ∉ L) (hn : 1 ≤ n) (ho : o + n ≤ 4096) (g k c : Nat) (hc : n ≤ c ∧ c ≤ 9223372036854775807) (R : Nat → Int) (hR : ∀ i, 0 ≤ R i ∧ R i < 256) (hg : ∀ i, i < n → w.cell? ⟨g, k + i, .none⟩ = some (.int .u8 (R i)))
    (bv sv : Nat) (hb : w.cell? ⟨bv, 0, .none⟩ = some (.slice (some ⟨g, k, .none⟩) n c)) (hbf : w.frozen? ⟨bv, 0, .none⟩ = false) (hs : w.cell? ⟨sv, 0, .none⟩ = some (.pointer (some ⟨s, 0, .none⟩))) (hne : bv ≠ p ∧ bv ≠ b ∧ bv ≠ m ∧ bv ≠ g ∧ bv ≠ s ∧ bv ≠ sv) :
    Calls Tryz.prog 92 #[.int .u64 (ad q + o), .int .i64 n, .pointer (some ⟨bv, 0, .none⟩), .pointer (some ⟨sv, 0, .none⟩)] w (PuP w p b m bv N B L q o n R) := by
  have ct := cutTo g k n c hc.1 w
  obtain ⟨q2, cf⟩ := cutFrom g k n c hc.1 w
  obtain ⟨w1, hw1⟩ : ∃ w1, w1 = w.setCell ⟨bv, 0, .none⟩ (.slice q2 0 (c - n)) := ⟨_, rfl⟩
  have R1 : Ram w1 p b m N B L := by rw [hw1]; exact h.beside ⟨bv, 0, .none⟩ _ (fun e => hne.1 e.symm) (fun e => hne.2.1 e.symm) (fun e => hne.2.2.1 e.symm)
  have g1 : ∀ i, i < n → w1.cell? ⟨g, k + i, .none⟩ = some (.int .u8 (R i)) := fun i hi => by rw [hw1]; exact (World.cell?_setCell_other _ _ _ _ (by simp only [ne_eq, Addr.mk.injEq, not_and]; intro e; exact absurd e hne.2.2.2.1)).trans (hg i hi)
  have c92 := write_pg R1 q o n hq hn ho g k c R hR g1
  have s1 : w1.cell? ⟨sv, 0, .none⟩ = some (.pointer (some ⟨s, 0, .none⟩)) := by rw [hw1]; exact (World.cell?_setCell_other _ _ _ _ (by simp only [ne_eq, Addr.mk.injEq, not_and]; intro e; exact absurd e hne.2.2.2.2.2)).trans hs
  have k0 : w1.cell? ⟨s, 0, .none⟩ = some (.pointer (some ⟨p, 0, .none⟩)) := by rw [hw1]; exact (World.cell?_setCell_other _ _ _ _ (by simp only [ne_eq, Addr.mk.injEq, not_and]; intro e; exact absurd e hne.2.2.2.2.1)).trans hS.c0
  have HT : Hid (Tch p b m bv w w1) := by rw [hw1]; exact Tch.set _ _
  clear h hg g1 R1 hS hR
  go_enter Tryz.func92, Tryz.ntmps92
  go_upto_region 3 with fail
  rw [← hw1]
  clear hw1
  go_wp2_with (go_at_call 85; refine c92.mono ?_; rintro _ w2 ⟨rfl, r2, f2⟩)
  go_ret
  exact ⟨rfl, r2, HT.out.trans (Tch.of f2)⟩
end
end Go.Proofs.YtblmkkhiojbcjaaGreat
namespace Go.Proofs.YtblmkkhiojbcjaaGreat
open Go Go.RowKit
set_option linter.unusedVariables false
set_option linter.unusedSimpArgs false
/-- How long a piece is that begins behind k bytes. -/
def pce (va : Int) (n k : Nat) : Nat := min (n - k) (4096 - ((va + k) % 4096).toNat)
theorem pce_b (va : Int) (n k : Nat) (h : k < n) : 1 ≤ pce va n k ∧ k + pce va n k ≤ n ∧ ((va + k) % 4096).toNat + pce va n k ≤ 4096 := by
  unfold pce
  omega
/-- What each comes to: all pieces, or none behind the first that was refused. -/
def EaP (n : Nat) (J : Nat → World → Prop) (Jf : World → Prop) (e : Ending) (w' : World) : Prop := (e = .returned (.bool true) ∧ J n w') ∨ (e = .returned (.bool false) ∧ Jf w')
set_option maxHeartbeats 2000000 in
theorem each_rd {w : World} {s : Nat} {u1 u2 d1 d2 : Nat} (va : Int) (n : Nat) (hv : 0 ≤ va ∧ va + n ≤ 274877906944) (J : Nat → World → Prop) (Jf : World → Prop) (pa : Nat → Int) (ok dok : Nat → Bool)
    (hat : ∀ k W, k < n → J k W → Calls Tryz.prog 89 #[.int .u64 (va + k), .pointer (some ⟨u1, 0, .none⟩), .pointer (some ⟨u2, 0, .none⟩)] W fun e W' => e = .returned (.tuple #[.int .u64 (pa k), .bool (ok k)]) ∧ J k W')
    (hno : ∀ k W, k < n → ok k = false → J k W → Jf W)
    (hdo : ∀ k W, k < n → ok k = true → J k W → Calls Tryz.prog 54 #[.int .u64 (pa k), .int .i64 (pce va n k), .pointer (some ⟨d1, 0, .none⟩), .pointer (some ⟨d2, 0, .none⟩)] W fun e W' => e = .returned (.bool (dok k)) ∧ (dok k = true → J (k + pce va n k) W') ∧ (dok k = false → Jf W')) (h0 : J 0 w) :
    Calls Tryz.prog 52 #[.pointer (some ⟨s, 0, .none⟩), .int .u64 va, .int .i64 n, .func (.func 89) #[] #[.pointer (some ⟨u1, 0, .none⟩), .pointer (some ⟨u2, 0, .none⟩)], .func (.func 54) #[] #[.pointer (some ⟨d1, 0, .none⟩), .pointer (some ⟨d2, 0, .none⟩)]] w (EaP n J Jf) := by
  have HA : Hid (∀ k W, k < n → J k W → Calls Tryz.prog 89 #[.int .u64 (va + k), .pointer (some ⟨u1, 0, .none⟩), .pointer (some ⟨u2, 0, .none⟩)] W fun e W' => e = .returned (.tuple #[.int .u64 (pa k), .bool (ok k)]) ∧ J k W') := hat
  have HN : Hid (∀ k W, k < n → ok k = false → J k W → Jf W) := hno
  have HD : Hid (∀ k W, k < n → ok k = true → J k W → Calls Tryz.prog 54 #[.int .u64 (pa k), .int .i64 (pce va n k), .pointer (some ⟨d1, 0, .none⟩), .pointer (some ⟨d2, 0, .none⟩)] W fun e W' => e = .returned (.bool (dok k)) ∧ (dok k = true → J (k + pce va n k) W') ∧ (dok k = false → Jf W')) := hdo
  have H0 : Hid (J 0 w) := h0
  clear hat hno hdo h0
  go_enter Tryz.func52, Tryz.ntmps52
  go_wp2_with fail
  go_loopw [1, 2] (fun v j wr => ∃ k : Nat, k ≤ n ∧ v = .int .u64 (va + k) ∧ j = .int .i64 (n - k) ∧ Hid (J k wr)) (fun _ j _ => (intOf j).toNat)
  case atStart => exact ⟨0, by omega, by simp, by simp, H0⟩
  case round =>
    clear H0
    obtain ⟨k, hk, rfl, rfl, HJ⟩ := hrel
    by_cases hkn : k < n
    · have hpos : (0 : Int) < n - k := by omega
      have ca := HA.out k wr hkn HJ.out
      have hb := pce_b va n k hkn
      have hrem : IntKind.u64.wrap ((va + k).tmod 4096) = (va + k) % 4096 := by rw [Int.tmod_eq_emod_of_nonneg (by omega), IntKind.wrap_u64]; omega
      have hsub : IntKind.u64.wrap (4096 - (va + k) % 4096) = 4096 - (va + k) % 4096 := by rw [IntKind.wrap_u64]; omega
      have hcv : IntKind.i64.wrap (4096 - (va + k) % 4096) = 4096 - (va + k) % 4096 := by rw [IntKind.wrap_i64]; omega
      have hpu : IntKind.u64.wrap (pce va n k : Int) = pce va n k := by rw [IntKind.wrap_u64]; omega
      have hva2 : IntKind.u64.wrap (va + k + pce va n k) = va + k + pce va n k := by rw [IntKind.wrap_u64]; omega
      by_cases hm : (n : Int) - k ≤ 4096 - (va + k) % 4096
      · have hm2 : ¬ 4096 - (va + k) % 4096 < (n : Int) - k := by omega
        obtain ⟨pc, hpc⟩ : ∃ pc, pc = pce va n k := ⟨_, rfl⟩
        have e9 : (n : Int) - k = (pc : Int) := by rw [hpc]; unfold pce; omega
        rw [← hpc] at hb hpu hva2
        have HPC : Hid (pc = pce va n k) := hpc
        clear hpc
        have hnx : IntKind.i64.wrap ((n : Int) - k - pc) = n - k - pc := by rw [IntKind.wrap_i64]; omega
        go_wp2_with fail
        refine ca.mono ?_
        rintro _ w1 ⟨rfl, j1⟩
        have HJ1 : Hid (J k w1) := j1
        clear j1 ca HJ
        cases hok : ok k
        · have HF : Hid (Jf w1) := HN.out k w1 hkn hok HJ1.out
          go_wp2_with fail
          go_ret
          exact .inr ⟨rfl, HF.out⟩
        · have cd := HD.out k w1 hkn hok HJ1.out
          rw [← HPC.out] at cd
          cases hdk : dok k
          · rw [hdk] at cd
            go_wp2_with fail
            refine cd.mono ?_
            rintro _ w2 ⟨rfl, _, hf⟩
            have HF : Hid (Jf w2) := hf (by first | rfl | trivial)
            clear hf cd
            go_wp2_with fail
            go_ret
            exact .inr ⟨rfl, HF.out⟩
          · rw [hdk] at cd
            go_wp2_with fail
            refine cd.mono ?_
            rintro _ w2 ⟨rfl, ht, _⟩
            have HT : Hid (J (k + pc) w2) := ht (by first | rfl | trivial)
            clear ht cd
            go_wp2_with fail
            exact ⟨⟨k + pc, by omega, by congr 1; omega, by congr 1; omega, HT⟩, by simp only [intOf]; omega⟩
      · have hm2 : 4096 - (va + k) % 4096 < (n : Int) - k := by omega
        obtain ⟨pc, hpc⟩ : ∃ pc, pc = pce va n k := ⟨_, rfl⟩
        have e9 : 4096 - (va + k) % 4096 = (pc : Int) := by rw [hpc]; unfold pce; omega
        rw [← hpc] at hb hpu hva2
        have HPC : Hid (pc = pce va n k) := hpc
        clear hpc
        have hnx : IntKind.i64.wrap ((n : Int) - k - pc) = n - k - pc := by rw [IntKind.wrap_i64]; omega
        go_wp2_with fail
        refine ca.mono ?_
        rintro _ w1 ⟨rfl, j1⟩
        have HJ1 : Hid (J k w1) := j1
        clear j1 ca HJ
        cases hok : ok k
        · have HF : Hid (Jf w1) := HN.out k w1 hkn hok HJ1.out
          go_wp2_with fail
          go_ret
          exact .inr ⟨rfl, HF.out⟩
        · have cd := HD.out k w1 hkn hok HJ1.out
          rw [← HPC.out] at cd
          cases hdk : dok k
          · rw [hdk] at cd
            go_wp2_with fail
            refine cd.mono ?_
            rintro _ w2 ⟨rfl, _, hf⟩
            have HF : Hid (Jf w2) := hf (by first | rfl | trivial)
            clear hf cd
            go_wp2_with fail
            go_ret
            exact .inr ⟨rfl, HF.out⟩
          · rw [hdk] at cd
            go_wp2_with fail
            refine cd.mono ?_
            rintro _ w2 ⟨rfl, ht, _⟩
            have HT : Hid (J (k + pc) w2) := ht (by first | rfl | trivial)
            clear ht cd
            go_wp2_with fail
            exact ⟨⟨k + pc, by omega, by congr 1; omega, by congr 1; omega, HT⟩, by simp only [intOf]; omega⟩
    · obtain rfl : k = n := by omega
      go_wp2_with fail
      go_ret
      exact .inl ⟨rfl, HJ.out⟩
end Go.Proofs.YtblmkkhiojbcjaaGreat
