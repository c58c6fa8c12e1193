import Derived.Test.YthdlefbaegbldaaGreatDoorFe
namespace Go.Proofs.YthdlefbaegbldaaGreatDoor
open Go.RowKit
set_option linter.unusedVariables false
set_option linter.unusedSimpArgs false
set_option maxRecDepth 100000
/-- What a read of a pipe's end tells. -/
def Got (w : World) (base : Nat) (xs : List Int) (wt : Bool) (n k l pp : Int) (v : Value) : Prop :=
  (takeHow xs wt n = 2 ∧ v = .agg #[.int .i64 2, .slice none 0 0, .int .i64 k, .int .i64 pp, .slice none 0 0]) ∨
  (takeHow xs wt n ≠ 2 ∧ ∃ p c wp wn wc, v = .agg #[.int .i64 1, .slice p (takeN xs n) c, .int .i64 0, .int .i64 0, .slice wp wn wc] ∧ w.ownsRow base 5 1 (.slice p (takeN xs n) c) (takeN xs n) (by8 (xs.take (takeN xs n))) ∧ (takeN xs n = 0 → p = none ∧ c = 0) ∧ Ch1 w base (.slice wp wn wc) (takeN xs n != 0) l pp)
/-- A zero answer in a box of its own. -/
structure Zg (w : World) (z : Nat) : Prop where
  c0 : w.cell? ⟨z, 0, .none⟩ = some (.int .i64 0)
  c1 : w.cell? ⟨z, 1, .none⟩ = some (.slice none 0 0)
  c2 : w.cell? ⟨z, 2, .none⟩ = some (.int .i64 0)
  c3 : w.cell? ⟨z, 3, .none⟩ = some (.int .i64 0)
  c4 : w.cell? ⟨z, 4, .none⟩ = some (.slice none 0 0)
  f : ∀ i, w.frozen? ⟨z, i, .none⟩ = false
theorem Zg.new (w : World) : Zg (w.alloc (.cells #[.int .i64 0, .slice none 0 0, .int .i64 0, .int .i64 0, .slice none 0 0] 45)) w.heap.size :=
  ⟨by rw [World.cell?_alloc_at _ _ _ _ rfl]; rfl, by rw [World.cell?_alloc_at _ _ _ _ rfl]; rfl, by rw [World.cell?_alloc_at _ _ _ _ rfl]; rfl, by rw [World.cell?_alloc_at _ _ _ _ rfl]; rfl, by rw [World.cell?_alloc_at _ _ _ _ rfl]; rfl, fun i => froz_new _ _ _ _⟩
theorem Zg.keep {w w' : World} {z : Nat} (h : Zg w z) (hb : w'.heap[z]? = w.heap[z]?) : Zg w' z :=
  ⟨(World.cell?_of_block hb).trans h.c0, (World.cell?_of_block hb).trans h.c1, (World.cell?_of_block hb).trans h.c2, (World.cell?_of_block hb).trans h.c3, (World.cell?_of_block hb).trans h.c4, fun i => (World.frozen?_of_block hb).trans (h.f i)⟩
theorem Zg.there {w : World} {z : Nat} (h : Zg w z) : w.there z 0 5 := fun j hj => by
  rw [Nat.zero_add]
  refine ⟨?_, h.f j⟩
  match j, hj with
  | 0, _ => rw [h.c0]; rfl
  | 1, _ => rw [h.c1]; rfl
  | 2, _ => rw [h.c2]; rfl
  | 3, _ => rw [h.c3]; rfl
  | 4, _ => rw [h.c4]; rfl
def ReadP (w : World) (b : Nat) (xs : List Int) (r : Int) (rd wt : Bool) (n k l pp : Int) (e : Ending) (w' : World) : Prop :=
  ∃ v, e = .returned v ∧ Got w' w.heap.size xs wt n k l pp v ∧ Pip w' b (xs.drop (takeN xs n)) ((r + takeN xs n) % 4294967296) rd wt ∧ Trn b w w'
theorem how_two {xs : List Int} {wt : Bool} {n : Int} (h : takeHow xs wt n ≠ 2) : takeHow xs wt n = 1 := by
  unfold takeHow at *
  split at h
  · exact absurd rfl h
  · rw [if_neg (by assumption)]
theorem Trn.past {b z : Nat} {w V X : World} (h : Trn b w V) (k : Trn z V X) (hz : w.heap.size ≤ z) : Trn b w X :=
  ⟨k.os.trans h.os, k.tape.trans h.tape, k.output.trans h.output, Nat.le_trans h.size k.size, fun i hi hn => (k.block i (Nat.lt_of_lt_of_le hi h.size) (by omega)).trans (h.block i hi hn)⟩
/-- A struct that is written into the result's own box, and told. -/
theorem ret_cells {fn : Func} {R : Ending → World → Prop} {a : Act} {V : World} {z p : Nat} {T : TypeId} (vals : List Value) (hr : fn.results = #[.cell p T]) (hp : a.tmps.getD p undef = .pointer (some ⟨z, 0, .none⟩)) (ht : V.there z 0 vals.length)
    (hl : ∀ W : World, W.rangeAt z 0 vals → (loadVar T ⟨z, 0, .none⟩).run Tryz.prog W = .ok (.agg vals.toArray) W) (hd : a.defers = []) (hR : ∀ X, Trn z V X → R (.returned (.agg vals.toArray)) X) : bodyPost Tryz.prog fn R .ret a (V.setCells z 0 vals) :=
  bodyPost_ret (results_cell_any hr _ _ ⟨z, 0, .none⟩ _ hp (hl _ (World.rangeAt_setCells_same _ _ _ _ ht))) hd (hR _ (Trn.setCells _ _ _ _))
set_option maxHeartbeats 2000000 in
theorem readE_any {w : World} {b : Nat} {xs : List Int} {r : Int} {rd wt : Bool} (h : Pip w b xs r rd wt) (n k l pp : Int) :
    Calls Tryz.prog 76 #[.agg #[.pointer (some ⟨b, 0, .none⟩), .int .i64 k, .int .i64 pp, .int .i64 l, .int .i64 pp], .int .i64 n] w (ReadP w b xs r rd wt n k l pp) := by
  obtain ⟨W, hW⟩ : ∃ W, W = (w.alloc (.cells #[.pointer (some ⟨b, 0, .none⟩), .int .i64 k, .int .i64 pp, .int .i64 l, .int .i64 pp] 146)).alloc (.cells #[.int .i64 0, .slice none 0 0, .int .i64 0, .int .i64 0, .slice none 0 0] 45) := ⟨_, rfl⟩
  have hlt := h.lt
  have hb1 : Below w.heap.size w (w.alloc (.cells #[.pointer (some ⟨b, 0, .none⟩), .int .i64 k, .int .i64 pp, .int .i64 l, .int .i64 pp] 146)) := (Below.refl _ _).alloc (Nat.le_refl _) _
  have HB : Hid (Below w.heap.size w W ∧ W.heap.size = w.heap.size + 2 ∧ En W w.heap.size (some ⟨b, 0, .none⟩) k l pp ∧ Zg W (w.heap.size + 1)) := by
    rw [hW]
    refine ⟨hb1.alloc (by simp) _, by simp, (En.new w _ k l pp).below ((Below.refl _ _).alloc (Nat.le_refl _) _), ?_⟩
    have := Zg.new (w.alloc (.cells #[.pointer (some ⟨b, 0, .none⟩), .int .i64 k, .int .i64 pp, .int .i64 l, .int .i64 pp] 146))
    rwa [World.size_alloc] at this
  have HW : Hid ((w.alloc (.cells #[.pointer (some ⟨b, 0, .none⟩), .int .i64 k, .int .i64 pp, .int .i64 l, .int .i64 pp] 146)).alloc (.cells #[.int .i64 0, .slice none 0 0, .int .i64 0, .int .i64 0, .slice none 0 0] 45) = W) := hW.symm
  have HP : Hid (Pip W b xs r rd wt) := h.below HB.out.1
  have e0 := HB.out.2.2.1.c0
  clear hW hb1 h
  go_enter Tryz.func76, Tryz.ntmps76
  go_upto_region 1 with fail
  rw [HW.out]
  clear HW
  go_wp2_with fail
  refine (take_pip HP.out n).mono ?_
  rintro _ V ⟨p, c, rfl, hO, h0, hPV, hT⟩
  have HV : Hid (V.ownsRow W.heap.size 5 1 (.slice p (takeN xs n) c) (takeN xs n) (by8 (xs.take (takeN xs n))) ∧ (takeN xs n = 0 → p = none ∧ c = 0) ∧ Pip V b (xs.drop (takeN xs n)) ((r + takeN xs n) % 4294967296) rd wt ∧ Trn b W V) := ⟨hO, h0, hPV, hT⟩
  clear hO h0 hPV hT
  have hN : takeN xs n ≤ 512 := by have := HP.out.1; unfold takeN; omega
  have kb : V.heap[w.heap.size]? = W.heap[w.heap.size]? := HV.out.2.2.2.block _ (by have := HB.out.2.1; omega) (by omega)
  have kr : V.heap[w.heap.size + 1]? = W.heap[w.heap.size + 1]? := HV.out.2.2.2.block _ (by have := HB.out.2.1; omega) (by omega)
  have HE : Hid (En V w.heap.size (some ⟨b, 0, .none⟩) k l pp) := HB.out.2.2.1.keep kb
  have HT : Hid (Zg V (w.heap.size + 1)) := HB.out.2.2.2.keep kr
  have hz : w.heap.size + 1 < V.heap.size := by have := HV.out.2.2.2.size; have := HB.out.2.1; omega
  have HTW : Hid (Trn b w V) := (Trn.ofBelow HB.out.1).trans HV.out.2.2.2
  clear kb kr
  generalize hm : takeN xs n = m at *
  by_cases hw : takeHow xs wt n = 2
  · rw [hw]
    have HH : Hid (takeHow xs wt n = 2) := hw
    have c1 := HE.out.c1
    have c2 := HE.out.c2
    clear hw
    go_upto_region 3 with fail
    have z0 := HT.out.c0
    have z1 := HT.out.c1
    have z2 := HT.out.c2
    have z3 := HT.out.c3
    have z4 := HT.out.c4
    have y0 := HT.out.f 0
    have y1 := HT.out.f 1
    have y2 := HT.out.f 2
    have y3 := HT.out.f 3
    have y4 := HT.out.f 4
    go_wp2
    refine ret_cells (V := V) (z := w.heap.size + 1) [.int .i64 2, .slice none 0 0, .int .i64 k, .int .i64 pp, .slice none 0 0] rfl rfl HT.out.there (fun W h => run_loadVar_mid (P := Tryz.prog) W _ 0 45 _ _ h Tryz.underlying45 rfl (by kernel_rfl)) rfl ?_
    intro X hX
    have hm0 : m = 0 := by have h1 := HH.out; rw [← hm]; unfold takeHow at h1; unfold takeN; split at h1 <;> omega
    exact ⟨_, rfl, .inl ⟨HH.out, rfl⟩, by rw [hm]; exact HV.out.2.2.1.keep hX (by omega), HTW.out.past hX (by omega)⟩
  · have HH : Hid (takeHow xs wt n ≠ 2) := hw
    have h1 := how_two hw
    rw [h1]
    clear hw h1
    have c0 := HE.out.c0
    have c1 := HE.out.c1
    have c2 := HE.out.c2
    have c3 := HE.out.c3
    have c4 := HE.out.c4
    go_wp2_with fail
    refine (wakeFor_any V (some ⟨b, 0, .none⟩) k l pp m).mono ?_
    rintro _ U ⟨_, rfl, ⟨wp, wn, wc, rfl⟩, hC, hbU⟩
    have HU : Hid (Ch1 U V.heap.size (.slice wp wn wc) (m != 0) l pp ∧ Below V.heap.size V U) := ⟨hC, hbU⟩
    have HT2 : Hid (Zg U (w.heap.size + 1)) := HT.out.keep (hbU.block _ hz)
    clear hC hbU c0 c1 c2 c3 c4
    have z0 := HT2.out.c0
    have z1 := HT2.out.c1
    have z2 := HT2.out.c2
    have z3 := HT2.out.c3
    have z4 := HT2.out.c4
    have y0 := HT2.out.f 0
    have y1 := HT2.out.f 1
    have y2 := HT2.out.f 2
    have y3 := HT2.out.f 3
    have y4 := HT2.out.f 4
    go_wp2
    refine ret_cells (V := U) (z := w.heap.size + 1) [.int .i64 1, .slice p m c, .int .i64 0, .int .i64 0, .slice wp wn wc] rfl rfl HT2.out.there (fun W h => run_loadVar_mid (P := Tryz.prog) W _ 0 45 _ _ h Tryz.underlying45 rfl (by kernel_rfl)) rfl ?_
    intro X hX
    have tb : Trn b V U := Trn.ofBelow HU.out.2
    have o1 := (Trn.ofBelow (b := w.heap.size + 1) HU.out.2).own HV.out.1 (fun g hg => by have := own_block HV.out.1 g hg; have := HB.out.2.1; omega)
    have o2 := hX.own o1 (fun g hg => by have := own_block HV.out.1 g hg; have := HB.out.2.1; omega)
    refine ⟨_, rfl, .inr ⟨HH.out, p, c, wp, wn, wc, by rw [hm], ?_, ?_, ?_⟩, ?_, (HTW.out.trans tb).past hX (by omega)⟩
    · rw [hm]; exact own_mono o2 (by have := HB.out.2.1; omega)
    · rw [hm]; exact HV.out.2.1
    · rw [hm]; exact (HU.out.1.trn hX (by have := HV.out.2.2.2.size; have := HB.out.2.1; omega)).mono (by have := HTW.out.size; omega)
    · rw [hm]; exact (HV.out.2.2.1.below HU.out.2).keep hX (by omega)
end Go.Proofs.YthdlefbaegbldaaGreatDoor
