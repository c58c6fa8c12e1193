import Derived.Test.YtockhlboeaignaaDoorSq
import Derived.Test.YtockhlboeaignaaDoorEPure
namespace Go.Proofs.YtockhlboeaignaaDoor
open Go.RowKit Go.Shelf
attribute [local go_sem] Oper.semAt_some
set_option linter.unusedVariables false
set_option linter.unusedSimpArgs false
set_option maxRecDepth 10000
theorem lt_cell {w : World} {b i : Nat} {v : Value} (h : w.cell? ⟨b, i, .none⟩ = some v) : b < w.heap.size := by
  unfold World.cell? at h
  split at h
  · rename_i e
    exact (Array.getElem?_eq_some_iff.1 e).1
  · cases h
theorem ext_take (t : Bs) (o : Nat) : (⟨t.toArray⟩ : ByteArray).extract 0 o = ⟨(t.take o).toArray⟩ := by
  apply ByteArray.ext
  simp
theorem ext_drop (t : Bs) (o : Nat) : (⟨t.toArray⟩ : ByteArray).extract o t.length = ⟨(t.drop o).toArray⟩ := by
  apply ByteArray.ext
  simp
  rw [List.take_of_length_le (by simp)]
def stl (W : World) (b : Nat) : Nat := match W.cell? ⟨b, 0, .none⟩ with | some (.string s) => s.size | _ => 0
/-- The three boxes of the iterator keep what they hold. -/
def KpB (b : Nat) (A B : World) : Prop := ∀ k, b ≤ k → k < b + 3 → B.heap[k]? = A.heap[k]?
structure Bxs (b : Nat) (t : Bs) (W : World) : Prop where
  k0 : W.cell? ⟨b, 0, .none⟩ = some (.string ⟨t.toArray⟩)
  k1 : W.cell? ⟨b + 1, 0, .none⟩ = some (.string ⟨#[47]⟩)
  k2 : W.cell? ⟨b + 1 + 1, 0, .none⟩ = some (.int .i64 0)
  f0 : W.frozen? ⟨b, 0, .none⟩ = false
theorem Bxs.keep {b : Nat} {t : Bs} {A B : World} (h : Bxs b t A) (k : KpB b A B) : Bxs b t B :=
  ⟨(World.cell?_of_block (k b (by omega) (by omega))).trans h.k0, (World.cell?_of_block (k (b + 1) (by omega) (by omega))).trans h.k1, (World.cell?_of_block (k (b + 1 + 1) (by omega) (by omega))).trans h.k2, (World.frozen?_of_block (k b (by omega) (by omega))).trans h.f0⟩
theorem Bxs.turn {b : Nat} {t : Bs} {A : World} (h : Bxs b t A) (u : Bs) : Bxs b u (A.setCell ⟨b, 0, .none⟩ (.string ⟨u.toArray⟩)) :=
  ⟨World.cell?_setCell_same _ _ _ h.k0, (World.cell?_setCell_other _ _ _ _ (by intro e; injection e with e; omega)).trans h.k1, (World.cell?_setCell_other _ _ _ _ (by intro e; injection e with e; omega)).trans h.k2, by rw [World.frozen?_setCell]; exact h.f0⟩
set_option maxHeartbeats 1000000 in
theorem seq_turns (b n : Nat) (t0 : Bs) (w : World) (h : Bxs b t0 w) (hl : t0.length < 1000000) :
    SeqTurns b Fence.wide n Tryd.prog 26 #[.pointer (some ⟨b + 1, 0, .none⟩), .pointer (some ⟨b, 0, .none⟩), .pointer (some ⟨b + 1 + 1, 0, .none⟩)] (fun x : Bs => #[.string ⟨x.toArray⟩]) (KpB b) (fun xs => xs = pcs t0) (pcs t0).length w := by
  intro l J W hW hJ hJs hY h0
  have HB : Hid (Bxs b t0 W) := h.keep (fun k h1 h2 => hW.block k (by have := lt_cell h.k2; omega))
  have key := HB
  refine callsIn_of_wp Tryd.func26 rfl trivial ?_ rfl
  simp only [Tryd.ntmps26, List.size_toArray, List.length_cons, List.length_nil, Nat.reduceAdd, Nat.reduceSub, Array.replicate_succ, Array.replicate_zero, List.push_toArray, List.append_toArray, List.nil_append, List.cons_append]
  have q1 := HB.out.k1
  gi_wp2
  clear q1
  gi_loopw [7] (fun _ W => ∃ pre t, J pre W ∧ Bxs b t W ∧ pre ++ pcs t = pcs t0 ∧ t.length ≤ t0.length) (fun _ W => stl W b)
  case atStart => exact ⟨[], t0, h0, HB.out, rfl, Nat.le_refl _⟩
  case round =>
    obtain ⟨pre, t, hj, hx, hp, ht⟩ := hrel
    clear HB key h0 h hW hJ W
    have HX : Hid (Bxs b t wr) := hx
    have HP : Hid (pre ++ pcs t = pcs t0) := hp
    have k0 := hx.k0
    have k1 := hx.k1
    have k2 := hx.k2
    have f0 := hx.f0
    have hsz : (⟨t.toArray⟩ : ByteArray).size = t.length := by simp [ByteArray.size]
    have c := index_any ⟨t.toArray⟩ wr (by rw [hsz]; omega)
    have hix : ix (⟨t.toArray⟩ : ByteArray).data.toList 47 = ix t 47 := by simp
    rw [hix] at c
    clear hx hp
    rcases ix_cases t 47 with e | ⟨o, e, ho⟩
    · rw [e] at c
      obtain ⟨fn, tmps, assign, body, hy, hR⟩ := hY pre t wr hj (by rw [← HP.out, pcs_last e, List.length_append]; simp)
      clear hY hj
      gi_wp2_with (refine ⟨trivial, fun h => (by cases h), ?_⟩; gi_at_call 28; refine (callsIn_wide.2 c).mono ?_; rintro _ _ ⟨rfl, rfl⟩)
      refine ⟨fun h => (by cases h), hR.mono ?_⟩
      clear hR hy
      rintro e9 W3 ⟨rfl, hJ3, hk3⟩
      have HJ : Hid (J (pcs t0) W3) := by rw [← HP.out, pcs_last e]; exact hJ3
      clear hJ3 hk3
      gi_wp2
      go_end0
      exact ⟨⟨_, rfl⟩, _, rfl, HJ.out⟩
    · rw [e] at c
      obtain ⟨fn, tmps, assign, body, hy, hR⟩ := hY pre (t.take o) wr hj (by rw [← HP.out, pcs_next e, List.length_append]; simp)
      rw [← ext_take] at hy
      have o1 : ¬ ((o : Int) < 0) := by omega
      gi_wp2_with (refine ⟨trivial, fun h => (by cases h), ?_⟩; gi_at_call 28; refine (callsIn_wide.2 c).mono ?_; rintro _ X ⟨rfl, hX⟩; obtain rfl : wr = X := hX.symm)
      refine ⟨fun h => (by cases h), hR.mono ?_⟩
      clear hR hy hj k0 k1 k2 f0 c
      rintro e9 W3 ⟨rfl, hJ3, hk3⟩
      have hx3 := HX.out.keep hk3
      have HJ : Hid (J (pre ++ [t.take o]) W3 ∧ Bxs b t W3) := ⟨hJ3, hx3⟩
      have HT : Hid (stl wr b = t.length) := by unfold stl; rw [HX.out.k0]; exact hsz
      have k0 := hx3.k0
      have k1 := hx3.k1
      have k2 := hx3.k2
      have f0 := hx3.f0
      clear hJ3 hk3 hx3 HX
      have o2 : (o : Int) + 1 ≤ t.length := by omega
      gi_wp2
      rw [ext_drop]
      have hx9 := HJ.out.2.turn (t.drop (o + 1))
      refine ⟨⟨_, t.drop (o + 1), hJs _ _ _ HJ.out.1, hx9, ?_, ?_⟩, ?_⟩
      · rw [← HP.out, pcs_next e]; simp
      · rw [List.length_drop]; omega
      · rw [HT.out]
        unfold stl
        rw [hx9.k0]
        show (t.drop (o + 1)).toArray.size < t.length
        rw [List.size_toArray, List.length_drop]
        omega
end Go.Proofs.YtockhlboeaignaaDoor
