import Derived.Test.YtblmkkhiojbcjaaGreatYj
import Derived.Test.YtblmkkhiojbcjaaGreatUk
namespace Go.Proofs.YtblmkkhiojbcjaaGreat
open Go.RowKit
set_option linter.unusedVariables false
set_option linter.unusedSimpArgs false
/-- Four blocks may have turned. -/
structure Tch (p b m x : Nat) (w w' : World) : Prop where
  os : w'.os = w.os
  tape : w'.tape = w.tape
  output : w'.output = w.output
  size : w.heap.size ≤ w'.heap.size
  block : ∀ k, k < w.heap.size → k ≠ p → k ≠ b → k ≠ m → k ≠ x → w'.heap[k]? = w.heap[k]?
theorem Tch.trans {p b m x : Nat} {u v w : World} (h : Tch p b m x u v) (k : Tch p b m x v w) : Tch p b m x u w :=
  ⟨k.os.trans h.os, k.tape.trans h.tape, k.output.trans h.output, Nat.le_trans h.size k.size, fun i hi a c d e => (k.block i (Nat.lt_of_lt_of_le hi h.size) a c d e).trans (h.block i hi a c d e)⟩
theorem Tch.of {p b m x : Nat} {w w' : World} (h : Fra p b m w w') : Tch p b m x w w' := ⟨h.os, h.tape, h.output, h.size, fun k hk a c d _ => h.block k hk a c d⟩
theorem Tch.fra {p b m x : Nat} {w v w' : World} (hv : Fra p b m w v) (h : Tch p b m x v w') (hx : w.heap.size ≤ x) : Fra p b m w w' :=
  ⟨h.os.trans hv.os, h.tape.trans hv.tape, h.output.trans hv.output, Nat.le_trans hv.size h.size, fun k hk a c d => (h.block k (Nat.lt_of_lt_of_le hk hv.size) a c d (by omega)).trans (hv.block k hk a c d)⟩
theorem Tch.set {p b m x : Nat} {w : World} (k : Nat) (v : Value) : Tch p b m x w (w.setCell ⟨x, k, .none⟩ v) := ⟨rfl, rfl, rfl, by simp [World.setCell], fun i hi _ _ _ e => Below.heap_setCell _ _ _ _ (fun h => e h)⟩
theorem elemU8 (W : World) : (sizeOf (Tryz.prog.elem 24)).run Tryz.prog W = .ok 1 W := by
  have e : Tryz.prog.elem 24 = 5 := by kernel_rfl
  obtain ⟨i, z, hi, _, hs, _⟩ := info_of 5 1 1 (by kernel_rfl) (by kernel_rfl)
  rw [e]
  simp [sizeOf, typeInfo, hi, hs]
theorem cutTo (g k n c : Nat) (h : n ≤ c) (W : World) : (Instr.slice 24 (.slice (some ⟨g, k, .none⟩) n c) none (some (.int .i64 n)) none).run Tryz.prog W = .ok (.slice (some ⟨g, k, .none⟩) n c) W := by
  rw [run_slice_h W 24 (some ⟨g, k, .none⟩) n c (by kernel_rfl) .i64 n (by omega) (by omega), elemU8]
  simp [Result.andThen, sliced, Addr.add]
theorem cutFrom (g k n c : Nat) (h : n ≤ c) (W : World) : ∃ q, (Instr.slice 24 (.slice (some ⟨g, k, .none⟩) n c) (some (.int .i64 n)) none none).run Tryz.prog W = .ok (.slice q 0 (c - n)) W := by
  rw [run_slice_l W 24 (some ⟨g, k, .none⟩) n c (by kernel_rfl) .i64 n (by omega) (by omega), elemU8]
  refine ⟨if c = n then some ⟨g, k, .none⟩ else some ((⟨g, k, .none⟩ : Addr).add n), ?_⟩
  simp [Result.andThen, sliced]
  try (split <;> rfl)
section
variable {w : World} {s p b m N : Nat} {B : Nat → Int} {L : List Nat} {F : Nat → Option Nat} {lf : Nat → Nat → Int}
def PuP (w : World) (p b m x N : Nat) (B : Nat → Int) (L : List Nat) (q o n : Nat) (R : Nat → Int) (e : Ending) (w' : World) : Prop := e = .returned (.bool true) ∧ Ram w' p b m N (over B (q * 4096 + o) ((List.range n).map R)) L ∧ Tch p b m x w w'
set_option maxHeartbeats 1000000 in
theorem put1_any {root size : Int} (hS : Sp w s p root size) (h : Ram w p b m N B L) (q o n : Nat) (hq : q < N ∧ q ∉ L) (hn : 1 ≤ n) (ho : o + n ≤ 4096) (g k c : Nat) (hc : n ≤ c ∧ c ≤ 9223372036854775807) (R : Nat → Int) (hR : ∀ i, 0 ≤ R i ∧ R i < 256) (hg : ∀ i, i < n → w.cell? ⟨g, k + i, .none⟩ = some (.int .u8 (R i)))
    (bv sv : Nat) (hb : w.cell? ⟨bv, 0, .none⟩ = some (.slice (some ⟨g, k, .none⟩) n c)) (hbf : w.frozen? ⟨bv, 0, .none⟩ = false) (hs : w.cell? ⟨sv, 0, .none⟩ = some (.pointer (some ⟨s, 0, .none⟩))) (hne : bv ≠ p ∧ bv ≠ b ∧ bv ≠ m ∧ bv ≠ g ∧ bv ≠ s ∧ bv ≠ sv) :
    Calls Tryz.prog 92 #[.int .u64 (ad q + o), .int .i64 n, .pointer (some ⟨bv, 0, .none⟩), .pointer (some ⟨sv, 0, .none⟩)] w (PuP w p b m bv N B L q o n R) := by
  have ct := cutTo g k n c hc.1 w
  obtain ⟨q2, cf⟩ := cutFrom g k n c hc.1 w
  obtain ⟨w1, hw1⟩ : ∃ w1, w1 = w.setCell ⟨bv, 0, .none⟩ (.slice q2 0 (c - n)) := ⟨_, rfl⟩
  have R1 : Ram w1 p b m N B L := by rw [hw1]; exact h.beside ⟨bv, 0, .none⟩ _ (fun e => hne.1 e.symm) (fun e => hne.2.1 e.symm) (fun e => hne.2.2.1 e.symm)
  have g1 : ∀ i, i < n → w1.cell? ⟨g, k + i, .none⟩ = some (.int .u8 (R i)) := fun i hi => by rw [hw1]; exact (World.cell?_setCell_other _ _ _ _ (by simp only [ne_eq, Addr.mk.injEq, not_and]; intro e; exact absurd e hne.2.2.2.1)).trans (hg i hi)
  have c92 := write_pg R1 q o n hq hn ho g k c R hR g1
  have s1 : w1.cell? ⟨sv, 0, .none⟩ = some (.pointer (some ⟨s, 0, .none⟩)) := by rw [hw1]; exact (World.cell?_setCell_other _ _ _ _ (by simp only [ne_eq, Addr.mk.injEq, not_and]; intro e; exact absurd e hne.2.2.2.2.2)).trans hs
  have k0 : w1.cell? ⟨s, 0, .none⟩ = some (.pointer (some ⟨p, 0, .none⟩)) := by rw [hw1]; exact (World.cell?_setCell_other _ _ _ _ (by simp only [ne_eq, Addr.mk.injEq, not_and]; intro e; exact absurd e hne.2.2.2.2.1)).trans hS.c0
  have HT : Hid (Tch p b m bv w w1) := by rw [hw1]; exact Tch.set _ _
  clear h hg g1 R1 hS hR
  go_enter Tryz.func92, Tryz.ntmps92
  go_upto_region 3 with fail
  rw [← hw1]
  clear hw1
  go_wp2_with (go_at_call 85; refine c92.mono ?_; rintro _ w2 ⟨rfl, r2, f2⟩)
  go_ret
  exact ⟨rfl, r2, HT.out.trans (Tch.of f2)⟩
end
end Go.Proofs.YtblmkkhiojbcjaaGreat
