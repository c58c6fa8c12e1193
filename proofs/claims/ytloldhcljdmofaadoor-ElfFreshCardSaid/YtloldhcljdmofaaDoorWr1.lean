import Derived.Test.YtloldhcljdmofaaDoorRd5
namespace Go.Proofs.YtloldhcljdmofaaDoor
open Go.RowKit
set_option linter.unusedVariables false
set_option linter.unusedSimpArgs false
/-- A number's bytes laid into a row, so many of them so far. -/
def putB (H : Nat → Int) (of_ k : Nat) (v : Int) : Nat → Int := fun i => if of_ ≤ i ∧ i < of_ + k then v / 256 ^ (i - of_) % 256 else H i
theorem putB_zero (H : Nat → Int) (of_ : Nat) (v : Int) : putB H of_ 0 v = H := by
  funext i
  unfold putB
  rw [if_neg (by omega)]
theorem putB_succ (H : Nat → Int) (of_ k : Nat) (v : Int) (i : Nat) : putB H of_ (k + 1) v i = if i = of_ + k then v / 256 ^ k % 256 else putB H of_ k v i := by
  unfold putB
  by_cases e : i = of_ + k
  · subst e
    rw [if_pos ⟨by omega, by omega⟩, if_pos rfl, show of_ + k - of_ = k by omega]
  · rw [if_neg e]
    by_cases h : of_ ≤ i ∧ i < of_ + k
    · rw [if_pos h, if_pos ⟨h.1, by omega⟩]
    · rw [if_neg h, if_neg (by omega)]
/-- A row of bytes that may be written, and what else is as it was. -/
structure Wro (w w' : World) (b o n : Nat) (H : Nat → Int) : Prop where
  row : Row w' b o n H
  fz : ∀ i, w'.frozen? ⟨b, i, .none⟩ = false
  ot : ∀ x, x ≠ b → x < w.heap.size → w'.heap[x]? = w.heap[x]?
  sz : w.heap.size ≤ w'.heap.size
  bl : b < w.heap.size
  os : w'.os = w.os
  tp : w'.tape = w.tape
  op : w'.output = w.output
theorem Wro.set {w w' : World} {b o n of_ k : Nat} {H : Nat → Int} {v : Int} (h : Wro w w' b o n (putB H of_ k v)) (hk : of_ + k < n) : Wro w (w'.setCell ⟨b, o + (of_ + k), .none⟩ (.int .u8 (v / 256 ^ k % 256))) b o n (putB H of_ (k + 1) v) := by
  refine ⟨fun i hi => ?_, fun i => (World.frozen?_setCell ..).trans (h.fz i), fun x hx hl => (Below.heap_setCell _ _ _ _ hx).trans (h.ot x hx hl), by rw [World.size_setCell]; exact h.sz, h.bl, h.os, h.tp, h.op⟩
  rw [putB_succ]
  by_cases e : i = of_ + k
  · subst e
    rw [if_pos rfl]
    exact World.cell?_setCell_same' _ _ _ (by rw [h.row _ hi]; rfl)
  · rw [if_neg e, World.cell?_setCell_other _ _ _ _ (by simp only [ne_eq, Addr.mk.injEq, and_true, not_and]; omega)]
    exact h.row i hi
theorem Wro.trans {w w1 w2 : World} {b o n : Nat} {H H' : Nat → Int} (h : Wro w w1 b o n H) (h' : Wro w1 w2 b o n H') : Wro w w2 b o n H' :=
  ⟨h'.row, h'.fz, fun x hx hl => (h'.ot x hx (Nat.lt_of_lt_of_le hl h.sz)).trans (h.ot x hx hl), Nat.le_trans h.sz h'.sz, h.bl, h'.os.trans h.os, h'.tp.trans h.tp, h'.op.trans h.op⟩
theorem Wro.alloc {w : World} {b o n : Nat} {H : Nat → Int} (h : Row w b o n H) (hf : ∀ i, w.frozen? ⟨b, i, .none⟩ = false) (hb : b < w.heap.size) (ob : Obj) : Wro w (w.alloc ob) b o n H := by
  have k : Below w.heap.size w (w.alloc ob) := (Below.refl _ _).alloc (Nat.le_refl _) _
  exact ⟨h.keep k, fun i => (k.frozen (p := ⟨b, i, .none⟩) hb).trans (hf i), fun x _ hl => k.block x hl, k.size, hb, k.os, k.tape, k.output⟩
theorem shr_b (v : Int) (k : Nat) : v / 2 ^ (8 * k) % 256 = v / 256 ^ k % 256 := by
  have e : (2 : Int) ^ (8 * k) = 256 ^ k := by rw [Int.pow_mul]; rfl
  rw [e]
set_option maxHeartbeats 1000000 in
theorem put_any (b o n c of_ by_ : Nat) (fx v : Int) (H : Nat → Int) (w : World) (hn : of_ + by_ ≤ n) (hc : n ≤ c) (hcm : c ≤ 9223372036854775807) (hk0 : 0 < by_) (hk : by_ ≤ 8) (hv : 0 ≤ v ∧ v < 18446744073709551616) (hr : Row w b o n H) (hf : ∀ i, w.frozen? ⟨b, i, .none⟩ = false) (hb : b < w.heap.size) :
    Calls Tryd.prog 56 #[.agg #[.int .i64 of_, .int .i64 by_, .int .u64 fx], .slice (some ⟨b, o, .none⟩) n c, .int .u64 v] w fun e w' => e = .returned (.tuple #[]) ∧ Wro w w' b o n (putB H of_ by_ v) := by
  have c32 := fun w' => cut_any b o n c of_ by_ w' hk0 (by omega) hcm
  have HW : Hid (Wro w (w.alloc (.cells #[.int .i64 of_, .int .i64 by_, .int .u64 fx] 102)) b o n H) := Wro.alloc hr hf hb _
  clear hr hf
  go_enter Tryd.func56, Tryd.ntmps56
  go_wp2_with (first | (go_at_call 58; refine (c32 _).mono ?_; rintro e w1 ⟨rfl, rfl⟩) | fail)
  generalize (w.alloc (.cells #[.int .i64 of_, .int .i64 by_, .int .u64 fx] 102)) = W1 at *
  go_loopw [16] (fun a wr => ∃ i : Nat, i ≤ by_ ∧ a = .int .i64 i ∧ Hid (Wro w wr b o n (putB H of_ i v))) (fun a _ => (by_ - intOf a).toNat)
  case atStart => exact ⟨0, by omega, rfl, by rw [putB_zero]; exact HW⟩
  case round =>
    obtain ⟨i, hi, rfl, HS⟩ := hrel
    by_cases hlt : i < by_
    · have g0 : (i : Int) < by_ := by omega
      have a0 := HS.out.row (of_ + i) (by omega)
      rw [← Nat.add_assoc] at a0
      have f0 := HS.out.fz (o + of_ + i)
      have HN := HS.out.set (by omega)
      rw [← shr_b v, ← Nat.add_assoc] at HN
      have HN2 : Hid (Wro w (wr.setCell ⟨b, o + of_ + i, .none⟩ (.int .u8 (v / 2 ^ (8 * i) % 256))) b o n (putB H of_ (i + 1) v)) := HN
      clear HN HS
      go_wp2_with fail
      exact ⟨⟨i + 1, by omega, by simp, HN2⟩, by simp [intOf]; omega⟩
    · have he : i = by_ := by omega
      have hn9 : ¬ ((i : Int) < by_) := by omega
      subst he
      go_wp2_with fail
      exact ⟨rfl, _, results_none rfl _ _ _, rfl, HS.out⟩
end Go.Proofs.YtloldhcljdmofaaDoor
