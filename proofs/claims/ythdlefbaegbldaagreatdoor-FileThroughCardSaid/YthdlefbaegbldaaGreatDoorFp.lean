import Derived.Test.YthdlefbaegbldaaGreatDoorFo
namespace Go.Proofs.YthdlefbaegbldaaGreatDoor
open Go.RowKit
set_option linter.unusedVariables false
set_option linter.unusedSimpArgs false
set_option maxRecDepth 100000
/-- Just the blocks of S have turned, and new ones may be there. -/
structure ChS (S : Nat → Prop) (w w' : World) : Prop where
  os : w'.os = w.os
  tape : w'.tape = w.tape
  output : w'.output = w.output
  size : w.heap.size ≤ w'.heap.size
  block : ∀ k, k < w.heap.size → ¬ S k → w'.heap[k]? = w.heap[k]?
theorem ChS.trans {S : Nat → Prop} {w v u : World} (h : ChS S w v) (k : ChS S v u) : ChS S w u :=
  ⟨k.os.trans h.os, k.tape.trans h.tape, k.output.trans h.output, Nat.le_trans h.size k.size, fun i hi hn => (k.block i (Nat.lt_of_lt_of_le hi h.size) hn).trans (h.block i hi hn)⟩
theorem ChS.ofBelow {S : Nat → Prop} {w v : World} (h : Below w.heap.size w v) : ChS S w v := ⟨h.os, h.tape, h.output, h.size, fun k hk _ => h.block k hk⟩
theorem ChS.ofTrn {S : Nat → Prop} {b : Nat} {w v : World} (h : Trn b w v) (hb : S b ∨ w.heap.size ≤ b) : ChS S w v := ⟨h.os, h.tape, h.output, h.size, fun k hk hn => h.block k hk (fun e => by
  subst e
  rcases hb with hb | hb
  · exact hn hb
  · omega)⟩
/-- What turns is in S, or is newer than the first world. -/
theorem ChS.past {S S' : Nat → Prop} {w v u : World} (h : ChS S w v) (k : ChS S' v u) (hs : ∀ i, S' i → S i ∨ w.heap.size ≤ i) : ChS S w u :=
  ⟨k.os.trans h.os, k.tape.trans h.tape, k.output.trans h.output, Nat.le_trans h.size k.size, fun i hi hn => (k.block i (Nat.lt_of_lt_of_le hi h.size) (fun e => by
    rcases hs i e with e | e
    · exact hn e
    · omega)).trans (h.block i hi hn)⟩
theorem Lk.set2 {w : World} {b : Nat} {num kind refs : Int} {rd wr : Bool} {ino off pp : Int} (h : Lk w b num kind refs rd wr ino off pp) (v : Int) : Lk (w.setCell ⟨b, 2, .none⟩ (.int .i64 v)) b num kind v rd wr ino off pp := by
  have o : ∀ i, i ≠ 2 → (w.setCell ⟨b, 2, .none⟩ (.int .i64 v)).cell? ⟨b, i, .none⟩ = w.cell? ⟨b, i, .none⟩ := fun i hi => World.cell?_setCell_other _ _ _ _ (by intro hh; injection hh with _ hh; exact hi hh.symm)
  exact ⟨(o 0 (by omega)).trans h.c0, (o 1 (by omega)).trans h.c1, World.cell?_setCell_same _ _ _ h.c2, (o 3 (by omega)).trans h.c3, (o 4 (by omega)).trans h.c4, (o 5 (by omega)).trans h.c5, (o 6 (by omega)).trans h.c6, (o 7 (by omega)).trans h.c7, fun i => by rw [World.frozen?_setCell]; exact h.f i⟩
theorem Lk.set0 {w : World} {b : Nat} {num kind refs : Int} {rd wr : Bool} {ino off pp : Int} (h : Lk w b num kind refs rd wr ino off pp) (v : Int) : Lk (w.setCell ⟨b, 0, .none⟩ (.int .i64 v)) b v kind refs rd wr ino off pp := by
  have o : ∀ i, i ≠ 0 → (w.setCell ⟨b, 0, .none⟩ (.int .i64 v)).cell? ⟨b, i, .none⟩ = w.cell? ⟨b, i, .none⟩ := fun i hi => World.cell?_setCell_other _ _ _ _ (by intro hh; injection hh with _ hh; exact hi hh.symm)
  exact ⟨World.cell?_setCell_same _ _ _ h.c0, (o 1 (by omega)).trans h.c1, (o 2 (by omega)).trans h.c2, (o 3 (by omega)).trans h.c3, (o 4 (by omega)).trans h.c4, (o 5 (by omega)).trans h.c5, (o 6 (by omega)).trans h.c6, (o 7 (by omega)).trans h.c7, fun i => by rw [World.frozen?_setCell]; exact h.f i⟩
theorem Lk.new (w : World) (num kind refs : Int) (rd wr : Bool) (ino off pp : Int) : Lk (w.alloc (.cells #[.int .i64 num, .int .i64 kind, .int .i64 refs, .bool rd, .bool wr, .int .i64 ino, .int .i64 off, .int .i64 pp] 33)) w.heap.size num kind refs rd wr ino off pp :=
  ⟨by rw [World.cell?_alloc_at _ _ _ _ rfl]; rfl, by rw [World.cell?_alloc_at _ _ _ _ rfl]; rfl, by rw [World.cell?_alloc_at _ _ _ _ rfl]; rfl, by rw [World.cell?_alloc_at _ _ _ _ rfl]; rfl, by rw [World.cell?_alloc_at _ _ _ _ rfl]; rfl, by rw [World.cell?_alloc_at _ _ _ _ rfl]; rfl, by rw [World.cell?_alloc_at _ _ _ _ rfl]; rfl, by rw [World.cell?_alloc_at _ _ _ _ rfl]; rfl, fun i => froz_new _ _ _ _⟩
theorem Lk.there {w : World} {b : Nat} {num kind refs : Int} {rd wr : Bool} {ino off pp : Int} (h : Lk w b num kind refs rd wr ino off pp) : w.there b 0 8 := fun j hj => by
  rw [Nat.zero_add]
  refine ⟨?_, h.f j⟩
  match j, hj with
  | 0, _ => rw [h.c0]; rfl
  | 1, _ => rw [h.c1]; rfl
  | 2, _ => rw [h.c2]; rfl
  | 3, _ => rw [h.c3]; rfl
  | 4, _ => rw [h.c4]; rfl
  | 5, _ => rw [h.c5]; rfl
  | 6, _ => rw [h.c6]; rfl
  | 7, _ => rw [h.c7]; rfl
def AddP (w : World) (fb : Nat) (F : Nat → Option Nat) (k : Nat) (kind : Int) (rd wr : Bool) (ino off pp : Int) (e : Ending) (w' : World) : Prop :=
  e = .returned (.int .i64 k) ∧ Tab w' fb 100 (setF F k (some w.heap.size)) ∧ Lk w' w.heap.size k kind 1 rd wr ino off pp ∧ Trn fb w w' ∧ w.heap.size < w'.heap.size
set_option maxHeartbeats 1000000 in
theorem addF_any {w : World} {s t c fb pb : Nat} {F : Nat → Option Nat} (h : Fls w s t c fb pb) (hT : Tab w fb 100 F) (k : Nat) (hk : k < 100) (hF : ∀ i, i < k → F i ≠ none) (hN : F k = none) (num kind refs : Int) (rd wr : Bool) (ino off pp : Int) (hsf : s ≠ fb) :
    Calls Tryz.prog 29 #[.pointer (some ⟨s, 0, .none⟩), .agg #[.int .i64 num, .int .i64 kind, .int .i64 refs, .bool rd, .bool wr, .int .i64 ino, .int .i64 off, .int .i64 pp]] w (AddP w fb F k kind rd wr ino off pp) := by
  obtain ⟨W, hW⟩ : ∃ W, W = (w.alloc (.cells #[.int .i64 num, .int .i64 kind, .int .i64 refs, .bool rd, .bool wr, .int .i64 ino, .int .i64 off, .int .i64 pp] 33)) := ⟨_, rfl⟩
  have hfl := hT.lt (by omega)
  have hsl := h.lt
  have HB : Hid (Below w.heap.size w W ∧ W.heap.size = w.heap.size + 1 ∧ Lk W w.heap.size num kind refs rd wr ino off pp) := by
    rw [hW]
    exact ⟨(Below.refl _ _).alloc (Nat.le_refl _) _, by simp, Lk.new w _ _ _ _ _ _ _ _⟩
  have HW : Hid ((w.alloc (.cells #[.int .i64 num, .int .i64 kind, .int .i64 refs, .bool rd, .bool wr, .int .i64 ino, .int .i64 off, .int .i64 pp] 33)) = W) := hW.symm
  have HL : Hid (Fls W s t c fb pb ∧ Tab W fb 100 F) := ⟨h.below HB.out.1, hT.below (by omega) HB.out.1⟩
  clear hW h hT
  have l2 := HB.out.2.2.c2
  have f2 := HB.out.2.2.f 2
  go_enter Tryz.func29, Tryz.ntmps29
  go_upto_region 1 with fail
  rw [HW.out]
  clear HW
  go_upto_region 2 with fail
  have t1 : Trn w.heap.size W (W.setCell ⟨w.heap.size, 2, .none⟩ (.int .i64 1)) := Trn.setCell _ _ _ _
  have zW : (W.setCell ⟨w.heap.size, 2, .none⟩ (.int .i64 1)).heap.size = w.heap.size + 1 := by have := HB.out.2.1; simp [World.setCell]; exact this
  have H1 : Hid (Lk (W.setCell ⟨w.heap.size, 2, .none⟩ (.int .i64 1)) w.heap.size num kind 1 rd wr ino off pp ∧ Fls (W.setCell ⟨w.heap.size, 2, .none⟩ (.int .i64 1)) s t c fb pb ∧ Tab (W.setCell ⟨w.heap.size, 2, .none⟩ (.int .i64 1)) fb 100 F ∧ Below w.heap.size w (W.setCell ⟨w.heap.size, 2, .none⟩ (.int .i64 1)) ∧ (W.setCell ⟨w.heap.size, 2, .none⟩ (.int .i64 1)).heap.size = w.heap.size + 1) := by
    have hb1 : Below w.heap.size W (W.setCell ⟨w.heap.size, 2, .none⟩ (.int .i64 1)) := t1.toBelow (Nat.le_refl _) (by have := HB.out.2.1; omega)
    exact ⟨HB.out.2.2.set2 1, HL.out.1.keep (hb1.block _ hsl), HL.out.2.keep (hb1.block _ hfl), HB.out.1.trans hb1, zW⟩
  clear l2 f2 t1 zW HL
  generalize W.setCell ⟨w.heap.size, 2, .none⟩ (.int .i64 1) = W1 at *
  have ca := taddF_any H1.out.2.2.1 (by omega) (by omega) k hk hF hN w.heap.size (by have := H1.out.2.2.2.2; omega)
  have c2 := H1.out.2.1.c2
  go_wp2_with fail
  refine ca.mono ?_
  rintro _ X ⟨rfl, hTX, hX⟩
  have HX : Hid (Tab X fb 100 (setF F k (some w.heap.size)) ∧ Trn fb W1 X) := ⟨hTX, hX⟩
  have H2 : Hid (Lk X w.heap.size num kind 1 rd wr ino off pp) := H1.out.1.keep (hX.block _ (by have := H1.out.2.2.2.2; omega) (by omega))
  clear hTX hX ca c2 hF hN
  have l0 := H2.out.c0
  have f0 := H2.out.f 0
  go_wp2
  go_ret
  have t3 : Trn w.heap.size X (X.setCell ⟨w.heap.size, 0, .none⟩ (.int .i64 k)) := Trn.setCell _ _ _ _
  have hz : w.heap.size < X.heap.size := by have := HX.out.2.size; have := H1.out.2.2.2.2; omega
  refine ⟨rfl, HX.out.1.keep (t3.block _ (by omega) (by omega)), H2.out.set0 k, (((Trn.ofBelow H1.out.2.2.2.1).trans HX.out.2).past t3 (Nat.le_refl _)), Nat.lt_of_lt_of_le hz t3.size⟩
end Go.Proofs.YthdlefbaegbldaaGreatDoor
