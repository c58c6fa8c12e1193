import Derived.Test.YtblmkkhiojbcjaaGreatEd
import Derived.Test.YtblmkkhiojbcjaaGreatYk
namespace Go.Proofs.YtblmkkhiojbcjaaGreat
open Go Go.RowKit
set_option linter.unusedVariables false
set_option linter.unusedSimpArgs false
theorem cutTo2 (g k n T c : Nat) (h : n ≤ T ∧ T ≤ c) (W : World) : (Instr.slice 24 (.slice (some ⟨g, k, .none⟩) T c) none (some (.int .i64 n)) none).run Tryz.prog W = .ok (.slice (some ⟨g, k, .none⟩) n c) W := by
  rw [run_slice_h W 24 (some ⟨g, k, .none⟩) T c (by kernel_rfl) .i64 n (by omega) (by omega), elemU8]
  simp [Result.andThen, sliced, Addr.add]
theorem cutFrom2 (g k n T c : Nat) (h : n ≤ T ∧ T ≤ c) (W : World) : ∃ q, (n < c → q = some ⟨g, k + n, .none⟩) ∧ (Instr.slice 24 (.slice (some ⟨g, k, .none⟩) T c) (some (.int .i64 n)) none none).run Tryz.prog W = .ok (.slice q (T - n : Nat) (c - n : Nat)) W := by
  have hadd : (⟨g, k, .none⟩ : Addr).add n = ⟨g, k + n, .none⟩ := by unfold Addr.add; split <;> simp_all
  refine ⟨if c = n then some ⟨g, k, .none⟩ else some ⟨g, k + n, .none⟩, fun h2 => by rw [if_neg (by omega)], ?_⟩
  rw [run_slice_l W 24 (some ⟨g, k, .none⟩) T c (by kernel_rfl) .i64 n (by omega) (by omega), elemU8]
  by_cases e : c = n
  · simp [Result.andThen, sliced, e]
  · simp [Result.andThen, sliced, e, hadd]
section
variable {w : World} {s p b m N : Nat} {B : Nat → Int} {L : List Nat} {F : Nat → Option Nat} {lf : Nat → Nat → Int}
/-- What put's own function comes to. -/
def P1P (w : World) (p b m bv N : Nat) (B : Nat → Int) (L : List Nat) (q o n g k T c : Nat) (R : Nat → Int) (e : Ending) (w' : World) : Prop := e = .returned (.bool true) ∧ Ram w' p b m N (over B (q * 4096 + o) ((List.range n).map R)) L ∧ Tch p b m bv w w' ∧ (∃ q2, w'.cell? ⟨bv, 0, .none⟩ = some (.slice q2 (T - n : Nat) (c - n : Nat)) ∧ (n < c → q2 = some ⟨g, k + n, .none⟩)) ∧ w'.frozen? ⟨bv, 0, .none⟩ = false
set_option maxHeartbeats 1000000 in
theorem put1_gen {root size : Int} (hS : Sp w s p root size) (h : Ram w p b m N B L) (q o n : Nat) (hq : q < N ∧ q ∉ L) (hn : 1 ≤ n) (ho : o + n ≤ 4096) (g k T c : Nat) (hc : n ≤ T ∧ T ≤ c ∧ c ≤ 9223372036854775807) (R : Nat → Int) (hR : ∀ i, 0 ≤ R i ∧ R i < 256) (hg : ∀ i, i < n → w.cell? ⟨g, k + i, .none⟩ = some (.int .u8 (R i)))
    (bv sv : Nat) (hb : w.cell? ⟨bv, 0, .none⟩ = some (.slice (some ⟨g, k, .none⟩) T c)) (hbf : w.frozen? ⟨bv, 0, .none⟩ = false) (hs : w.cell? ⟨sv, 0, .none⟩ = some (.pointer (some ⟨s, 0, .none⟩))) (hne : bv ≠ p ∧ bv ≠ b ∧ bv ≠ m ∧ bv ≠ g ∧ bv ≠ s ∧ bv ≠ sv) :
    Calls Tryz.prog 92 #[.int .u64 (ad q + o), .int .i64 n, .pointer (some ⟨bv, 0, .none⟩), .pointer (some ⟨sv, 0, .none⟩)] w (P1P w p b m bv N B L q o n g k T c R) := by
  have ct := cutTo2 g k n T c ⟨hc.1, hc.2.1⟩ w
  obtain ⟨q2, hq2, cf⟩ := cutFrom2 g k n T c ⟨hc.1, hc.2.1⟩ w
  obtain ⟨w1, hw1⟩ : ∃ w1, w1 = w.setCell ⟨bv, 0, .none⟩ (.slice q2 (T - n : Nat) (c - n : Nat)) := ⟨_, rfl⟩
  have R1 : Ram w1 p b m N B L := by rw [hw1]; exact h.beside ⟨bv, 0, .none⟩ _ (fun e => hne.1 e.symm) (fun e => hne.2.1 e.symm) (fun e => hne.2.2.1 e.symm)
  have g1 : ∀ i, i < n → w1.cell? ⟨g, k + i, .none⟩ = some (.int .u8 (R i)) := fun i hi => by rw [hw1]; exact (World.cell?_setCell_other _ _ _ _ (by simp only [ne_eq, Addr.mk.injEq, not_and]; intro e; exact absurd e hne.2.2.2.1)).trans (hg i hi)
  have c92 := write_pg R1 q o n hq hn ho g k c R hR g1
  have s1 : w1.cell? ⟨sv, 0, .none⟩ = some (.pointer (some ⟨s, 0, .none⟩)) := by rw [hw1]; exact (World.cell?_setCell_other _ _ _ _ (by simp only [ne_eq, Addr.mk.injEq, not_and]; intro e; exact absurd e hne.2.2.2.2.2)).trans hs
  have k0 : w1.cell? ⟨s, 0, .none⟩ = some (.pointer (some ⟨p, 0, .none⟩)) := by rw [hw1]; exact (World.cell?_setCell_other _ _ _ _ (by simp only [ne_eq, Addr.mk.injEq, not_and]; intro e; exact absurd e hne.2.2.2.2.1)).trans hS.c0
  have HT : Hid (Tch p b m bv w w1) := by rw [hw1]; exact Tch.set _ _
  have hb1 : w1.cell? ⟨bv, 0, .none⟩ = some (.slice q2 (T - n : Nat) (c - n : Nat)) := by rw [hw1]; exact World.cell?_setCell_same' _ _ _ (by rw [hb]; rfl)
  have hf1 : w1.frozen? ⟨bv, 0, .none⟩ = false := by rw [hw1, World.frozen?_setCell]; exact hbf
  have HB : Hid (w1.cell? ⟨bv, 0, .none⟩ = some (.slice q2 (T - n : Nat) (c - n : Nat)) ∧ w1.frozen? ⟨bv, 0, .none⟩ = false ∧ (n < c → q2 = some ⟨g, k + n, .none⟩)) := ⟨hb1, hf1, hq2⟩
  clear h hg g1 R1 hS hR hb1 hf1 hq2
  go_enter Tryz.func92, Tryz.ntmps92
  go_upto_region 3 with fail
  rw [← hw1]
  clear hw1
  go_wp2_with (go_at_call 85; refine c92.mono ?_; rintro _ w2 ⟨rfl, r2, f2⟩)
  go_ret
  have hlt := lt_of_cell HB.out.1
  exact ⟨rfl, r2, HT.out.trans (Tch.of f2), ⟨q2, (f2.cell (x := ⟨bv, 0, .none⟩) hlt hne.1 hne.2.1 hne.2.2.1).trans HB.out.1, HB.out.2.2⟩, (f2.frozen (x := ⟨bv, 0, .none⟩) hlt hne.1 hne.2.1 hne.2.2.1).trans HB.out.2.1⟩
end
/-- Bytes written into a space's pages, one by one. -/
def wrU (B : Nat → Int) (fr : Nat → Nat) (va : Nat) (R : Nat → Int) : Nat → Nat → Int
  | 0 => B
  | k + 1 => fun i => if i = fr ((va + k) / 4096) * 4096 + (va + k) % 4096 then R k else wrU B fr va R k i
theorem over_byte (B : Nat → Int) (o : Nat) (vs : List Int) (v : Int) (i : Nat) : over B o (vs ++ [v]) i = if i = o + vs.length then v else over B o vs i := by
  unfold over
  rw [List.length_append, List.length_singleton]
  by_cases h1 : i = o + vs.length
  · subst h1
    rw [if_pos (by omega), if_pos rfl]
    simp [List.getD_eq_getElem?_getD]
  · rw [if_neg h1]
    by_cases h2 : o ≤ i ∧ i < o + vs.length
    · rw [if_pos (by omega), if_pos h2]
      rw [List.getD_eq_getElem?_getD, List.getD_eq_getElem?_getD, List.getElem?_append_left (by omega)]
    · rw [if_neg (by omega), if_neg h2]
theorem wrU_over (B : Nat → Int) (fr : Nat → Nat) (va k : Nat) (R : Nat → Int) : ∀ pc : Nat, (va + k) % 4096 + pc ≤ 4096 → over (wrU B fr va R k) (fr ((va + k) / 4096) * 4096 + (va + k) % 4096) ((List.range pc).map fun i => R (k + i)) = wrU B fr va R (k + pc)
  | 0, _ => by
    funext i
    unfold over
    simp
    intro h1 h2
    omega
  | pc + 1, h => by
    funext i
    have ih := wrU_over B fr va k R pc (by omega)
    rw [List.range_succ, List.map_append, List.map_singleton, over_byte, ih, show k + (pc + 1) = (k + pc) + 1 by omega]
    simp only [wrU, List.length_map, List.length_range]
    rw [show (va + (k + pc)) / 4096 = (va + k) / 4096 by omega, show (va + (k + pc)) % 4096 = (va + k) % 4096 + pc by omega, Nat.add_assoc]
end Go.Proofs.YtblmkkhiojbcjaaGreat
