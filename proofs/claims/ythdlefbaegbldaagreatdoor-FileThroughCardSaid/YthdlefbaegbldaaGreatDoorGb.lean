import Derived.Test.YthdlefbaegbldaaGreatDoorGa
import Derived.Test.YthdlefbaegbldaaGreatDoorKeep
namespace Go.Proofs.YthdlefbaegbldaaGreatDoor
open Go.RowKit
set_option linter.unusedVariables false
set_option linter.unusedSimpArgs false
set_option maxRecDepth 100000
set_option maxHeartbeats 1000000 in
theorem pipes_gone {w : World} {s t c fb pb : Nat} {P : Nat → Option Nat} (h : Fls w s t c fb pb) (hP : Tab w pb 32 P) (h0 : P 0 = none) : Calls Tryz.prog 16 #[.pointer (some ⟨s, 0, .none⟩), .int .i64 0] w fun e w' => e = .returned (.tuple #[.agg #[.int .i64 0, .slice none 0 0, .int .u32 0, .int .u32 0, .bool false, .bool false], .bool false]) ∧ Below w.heap.size w w' := by
  obtain ⟨W, hW⟩ : ∃ W, W = w.alloc (.cells #[.int .i64 0, .slice none 0 0, .int .u32 0, .int .u32 0, .bool false, .bool false] 55) := ⟨_, rfl⟩
  have HW : Hid (w.alloc (.cells #[.int .i64 0, .slice none 0 0, .int .u32 0, .int .u32 0, .bool false, .bool false] 55) = W) := hW.symm
  have HB : Hid (Below w.heap.size w W ∧ W.heap.size = w.heap.size + 1) := by rw [hW]; exact ⟨(Below.refl _ _).alloc (Nat.le_refl _) _, by simp⟩
  have y0 : W.cell? ⟨w.heap.size, 0, .none⟩ = some (.int .i64 0) := by rw [hW, World.cell?_alloc_at _ _ _ _ rfl]; rfl
  have y1 : W.cell? ⟨w.heap.size, 1, .none⟩ = some (.slice none 0 0) := by rw [hW, World.cell?_alloc_at _ _ _ _ rfl]; rfl
  have y2 : W.cell? ⟨w.heap.size, 2, .none⟩ = some (.int .u32 0) := by rw [hW, World.cell?_alloc_at _ _ _ _ rfl]; rfl
  have y3 : W.cell? ⟨w.heap.size, 3, .none⟩ = some (.int .u32 0) := by rw [hW, World.cell?_alloc_at _ _ _ _ rfl]; rfl
  have y4 : W.cell? ⟨w.heap.size, 4, .none⟩ = some (.bool false) := by rw [hW, World.cell?_alloc_at _ _ _ _ rfl]; rfl
  have y5 : W.cell? ⟨w.heap.size, 5, .none⟩ = some (.bool false) := by rw [hW, World.cell?_alloc_at _ _ _ _ rfl]; rfl
  have FZ : Hid (∀ i, W.frozen? ⟨w.heap.size, i, .none⟩ = false) := fun i => by rw [hW]; exact froz_new _ _ _ _
  have HC : Hid (W.cell? ⟨w.heap.size, 0, .none⟩ = some (.int .i64 0) ∧ W.cell? ⟨w.heap.size, 1, .none⟩ = some (.slice none 0 0) ∧ W.cell? ⟨w.heap.size, 2, .none⟩ = some (.int .u32 0) ∧ W.cell? ⟨w.heap.size, 3, .none⟩ = some (.int .u32 0) ∧ W.cell? ⟨w.heap.size, 4, .none⟩ = some (.bool false) ∧ W.cell? ⟨w.heap.size, 5, .none⟩ = some (.bool false)) := ⟨y0, y1, y2, y3, y4, y5⟩
  clear y0 y1 y2 y3 y4 y5
  have c1 := isMadeF_any (h.below HB.out.1)
  have cg := tgetP_any (hP.below (by omega) HB.out.1) (by omega) 0
  have eg : tg P 32 0 = none := by rw [tg, if_pos (by omega)]; show opt (P 0) = none; rw [h0]; rfl
  rw [eg] at cg
  have c3 := (h.below HB.out.1).c3
  clear h hP hW eg h0
  go_enter Tryz.func16, Tryz.ntmps16
  go_upto_region 1 with fail
  rw [HW.out]
  clear HW
  go_wp2_with fail
  refine c1.mono ?_
  rintro _ X ⟨rfl, hX⟩
  obtain rfl : W = X := hX.symm
  go_wp2_with fail
  refine cg.mono ?_
  rintro _ X ⟨rfl, hX⟩
  have kb : X.heap[w.heap.size]? = W.heap[w.heap.size]? := hX.block _ (by have := HB.out.2; omega)
  have y0 : X.cell? ⟨w.heap.size, 0, .none⟩ = some (.int .i64 0) := (World.cell?_of_block kb).trans HC.out.1
  have f0 : X.frozen? ⟨w.heap.size, 0, .none⟩ = false := (World.frozen?_of_block kb).trans (FZ.out 0)
  have y1 : X.cell? ⟨w.heap.size, 1, .none⟩ = some (.slice none 0 0) := (World.cell?_of_block kb).trans HC.out.2.1
  have f1 : X.frozen? ⟨w.heap.size, 1, .none⟩ = false := (World.frozen?_of_block kb).trans (FZ.out 1)
  have y2 : X.cell? ⟨w.heap.size, 2, .none⟩ = some (.int .u32 0) := (World.cell?_of_block kb).trans HC.out.2.2.1
  have f2 : X.frozen? ⟨w.heap.size, 2, .none⟩ = false := (World.frozen?_of_block kb).trans (FZ.out 2)
  have y3 : X.cell? ⟨w.heap.size, 3, .none⟩ = some (.int .u32 0) := (World.cell?_of_block kb).trans HC.out.2.2.2.1
  have f3 : X.frozen? ⟨w.heap.size, 3, .none⟩ = false := (World.frozen?_of_block kb).trans (FZ.out 3)
  have y4 : X.cell? ⟨w.heap.size, 4, .none⟩ = some (.bool false) := (World.cell?_of_block kb).trans HC.out.2.2.2.2.1
  have f4 : X.frozen? ⟨w.heap.size, 4, .none⟩ = false := (World.frozen?_of_block kb).trans (FZ.out 4)
  have y5 : X.cell? ⟨w.heap.size, 5, .none⟩ = some (.bool false) := (World.cell?_of_block kb).trans HC.out.2.2.2.2.2
  have f5 : X.frozen? ⟨w.heap.size, 5, .none⟩ = false := (World.frozen?_of_block kb).trans (FZ.out 5)
  have HT : Hid (X.there w.heap.size 0 6) := fun j hj => by
    rw [Nat.zero_add]
    refine ⟨?_, (World.frozen?_of_block kb).trans (FZ.out j)⟩
    match j, hj with
    | 0, _ => rw [y0]; rfl
    | 1, _ => rw [y1]; rfl
    | 2, _ => rw [y2]; rfl
    | 3, _ => rw [y3]; rfl
    | 4, _ => rw [y4]; rfl
    | 5, _ => rw [y5]; rfl
  have HX : Hid (Below w.heap.size w X) := HB.out.1.trans (hX.mono (by have := HB.out.2; omega))
  clear kb hX c1 cg c3
  go_wp2
  refine bodyPost_ret (results_cell_tmp (p := 4) (a := 5) (ty := 55) rfl _ _ ⟨w.heap.size, 0, .none⟩ _ rfl (run_loadVar_mid (P := Tryz.prog) _ w.heap.size 0 55 _ _ (World.rangeAt_setCells_same (w := X) w.heap.size 0 [.int .i64 0, .slice none 0 0, .int .u32 0, .int .u32 0, .bool false, .bool false] HT.out) Tryz.underlying55 rfl (by kernel_rfl))) rfl ⟨rfl, HX.out.trans ((Trn.setCells w.heap.size 0 [.int .i64 0, .slice none 0 0, .int .u32 0, .int .u32 0, .bool false, .bool false] X).toBelow (Nat.le_refl _) HX.out.size)⟩
/-- The law's object: its table with the pipe, what was written and what was read. -/
structure Oh (w wr : World) (X s t c fb pb z1 z2 q : Nat) (F : Nat → Option Nat) (xs : List Int) (rd wt : Bool) (P T : List Int) (pv tv : Value) : Prop where
  bel : Below w.heap.size w wr
  hX2 : X ≤ wr.heap.size
  mc : Mc wr s t c fb pb z1 z2 q F xs rd wt
  op : wr.ownsRow X 5 1 pv P.length (by8 P)
  ot : wr.ownsRow X 5 1 tv T.length (by8 T)
  ap : ∀ g, pv.ownBlock = some g → tv.ownBlock ≠ some g
theorem own_lt2 {w : World} {X e sz n : Nat} {v : Value} {xs : List Value} (h : w.ownsRow X e sz v n xs) : ∀ g, v.ownBlock = some g → g < w.heap.size := by
  intro g hg
  rcases h.2 with ⟨rfl, _⟩ | ⟨g', cap, cur, rfl, _, h4, _⟩
  · cases hg
  · simp only [Value.ownBlock, Option.some.injEq] at hg
    subst hg
    exact (Array.getElem?_eq_some_iff.1 h4).1
theorem own_belowX {w v : World} {X e sz : Nat} {m : Value} {n : Nat} {xs : List Value} (h : w.ownsRow X e sz m n xs) (t : ∀ g, m.ownBlock = some g → v.heap[g]? = w.heap[g]?) : v.ownsRow X e sz m n xs := by
  rcases h with ⟨h1, h2 | ⟨g, cap, cur, rfl, h3, h4, h5⟩⟩
  · exact ⟨h1, .inl h2⟩
  · exact ⟨h1, .inr ⟨g, cap, cur, rfl, h3, (t g rfl).trans h4, h5⟩⟩
/-- A row grew; nothing else moved. -/
structure Grw (V wr : World) (pv0 pv : Value) : Prop where
  sz : V.heap.size ≤ wr.heap.size
  blk : ∀ g, g < V.heap.size → pv0.ownBlock ≠ some g → wr.heap[g]? = V.heap[g]?
  nb : ∀ g, pv.ownBlock = some g → pv0.ownBlock = some g ∨ V.heap.size ≤ g
section
variable {w wr v V U : World} {X s t c fb pb z1 z2 q : Nat} {F F' : Nat → Option Nat} {xs xs' P T : List Int} {rd wt rd' wt' : Bool} {pv tv pv' tv' pv0 : Value}
theorem Grw.refl (V : World) (pv : Value) : Grw V V pv pv := ⟨Nat.le_refl _, fun _ _ _ => rfl, fun _ h => .inl h⟩
theorem Grw.step (h : Grw V wr pv0 pv) {o : Obj} (hg : (wr.alloc o).grownBy U pv.ownBlock) (hb : ∃ b, pv'.ownBlock = some b ∧ (pv.ownBlock = some b ∨ (wr.alloc o).heap.size ≤ b)) : Grw V U pv0 pv' := by
  have z := h.sz
  have z2 := hg.size
  rw [World.size_alloc] at z2
  refine ⟨by omega, fun g hg1 hg2 => ?_, fun g hg1 => ?_⟩
  · have e1 := hg.block g (by rw [World.size_alloc]; omega) (fun e => by
      rcases h.nb g e.symm with h1 | h1
      · exact hg2 h1
      · omega)
    rw [e1, Below.heap_alloc _ _ _ (by omega)]
    exact h.blk g hg1 hg2
  · obtain ⟨b, hb1, hb2⟩ := hb
    rw [hb1] at hg1
    obtain rfl := Option.some.inj hg1
    rcases hb2 with h1 | h1
    · exact h.nb _ h1
    · rw [World.size_alloc] at h1; exact .inr (by omega)
theorem Oh.below (h : Oh w wr X s t c fb pb z1 z2 q F xs rd wt P T pv tv) (d : Ds w.heap.size X s fb pb z1 z2 q) (hb : Below wr.heap.size wr v) : Oh w v X s t c fb pb z1 z2 q F xs rd wt P T pv tv :=
  ⟨h.bel.trans (hb.mono h.bel.size), Nat.le_trans h.hX2 hb.size, h.mc.below d (hb.mono h.hX2), own_belowX h.op (fun g hg => hb.block g (own_lt2 h.op g hg)), own_belowX h.ot (fun g hg => hb.block g (own_lt2 h.ot g hg)), h.ap⟩
theorem Oh.trn (h : Oh w wr X s t c fb pb z1 z2 q F xs rd wt P T pv tv) (d : Ds w.heap.size X s fb pb z1 z2 q) (ht : Trn q wr v) (hm : Mc v s t c fb pb z1 z2 q F' xs' rd' wt') : Oh w v X s t c fb pb z1 z2 q F' xs' rd' wt' P T pv tv :=
  ⟨h.bel.trans (ht.toBelow d.l.2.2.2.2.2 h.bel.size), Nat.le_trans h.hX2 ht.size, hm, ht.own h.op (fun g hg e => by have := own_block h.op g hg; have := d.h; omega), ht.own h.ot (fun g hg e => by have := own_block h.ot g hg; have := d.h; omega), h.ap⟩
/-- Blocks under the mark turned: the rows stay. -/
theorem Oh.deep (h : Oh w wr X s t c fb pb z1 z2 q F xs rd wt P T pv tv) (hb : ∀ i, i < wr.heap.size → X ≤ i → v.heap[i]? = wr.heap[i]?) (hB : Below w.heap.size wr v) (hm : Mc v s t c fb pb z1 z2 q F' xs' rd' wt') : Oh w v X s t c fb pb z1 z2 q F' xs' rd' wt' P T pv tv :=
  ⟨h.bel.trans hB, Nat.le_trans h.hX2 hB.size, hm, own_belowX h.op (fun g hg => hb g (own_lt2 h.op g hg) (own_block h.op g hg)), own_belowX h.ot (fun g hg => hb g (own_lt2 h.ot g hg) (own_block h.ot g hg)), h.ap⟩
theorem Oh.put (h : Oh w wr X s t c fb pb z1 z2 q F xs rd wt P T pv tv) (d : Ds w.heap.size X s fb pb z1 z2 q) {o : Obj} {x : Int} (hO : U.ownsRow X 5 1 pv' (P.length + 1) (by8 P ++ [.int .u8 x])) (hg : (wr.alloc o).grownBy U pv.ownBlock) (hb : ∃ b, pv'.ownBlock = some b ∧ (pv.ownBlock = some b ∨ (wr.alloc o).heap.size ≤ b)) : Oh w U X s t c fb pb z1 z2 q F xs rd wt (P ++ [x]) T pv' tv := by
  have bel : Below X wr U := below_append (Below.refl X wr) o hg h.hX2 (own_block h.op)
  have G := (Grw.refl wr pv).step hg hb
  have dl := d.l
  have dh := d.h
  refine ⟨h.bel.trans (bel.mono (by omega)), Nat.le_trans h.hX2 bel.size, h.mc.below d bel, ?_, own_belowX h.ot (fun g hg => G.blk g (own_lt2 h.ot g hg) (fun e => h.ap g e hg)), fun g hg e => ?_⟩
  · rw [List.length_append, by8_app]; exact hO
  · rcases G.nb g hg with h1 | h1
    · exact h.ap g h1 e
    · have := own_lt2 h.ot g e
      omega
theorem Oh.take (h : Oh w wr X s t c fb pb z1 z2 q F xs rd wt P T pv tv) (d : Ds w.heap.size X s fb pb z1 z2 q) {o : Obj} {x : Int} (hO : U.ownsRow X 5 1 tv' (T.length + 1) (by8 T ++ [.int .u8 x])) (hg : (wr.alloc o).grownBy U tv.ownBlock) (hb : ∃ b, tv'.ownBlock = some b ∧ (tv.ownBlock = some b ∨ (wr.alloc o).heap.size ≤ b)) : Oh w U X s t c fb pb z1 z2 q F xs rd wt P (T ++ [x]) pv tv' := by
  have bel : Below X wr U := below_append (Below.refl X wr) o hg h.hX2 (own_block h.ot)
  have G := (Grw.refl wr tv).step hg hb
  have dl := d.l
  have dh := d.h
  refine ⟨h.bel.trans (bel.mono (by omega)), Nat.le_trans h.hX2 bel.size, h.mc.below d bel, own_belowX h.op (fun g hg => G.blk g (own_lt2 h.op g hg) (fun e => h.ap g hg e)), ?_, fun g hg e => ?_⟩
  · rw [List.length_append, by8_app]; exact hO
  · rcases G.nb g e with h1 | h1
    · exact h.ap g hg h1
    · have := own_lt2 h.op g hg
      omega
end
/-- The writes as they are handed in. -/
structure ArgW (w : World) (q : Option Addr) (m c : Nat) (S : Nat → Option Addr) (L C : Nat → Nat) (Y : Nat → List Int) : Prop where
  at' : m = 0 ∨ ∃ b o, q = some ⟨b, o, .none⟩ ∧ b < w.heap.size ∧ ∀ i, i < m → w.cell? ⟨b, o + i, .none⟩ = some (.slice (S i) (L i) (C i))
  lc : m ≤ c ∧ c ≤ maxLen
  byt : ∀ i, i < m → Byt w (S i) (L i) (C i) (Y i)
  bd : ∀ i, i < m → ∀ y ∈ Y i, 0 ≤ y ∧ y < 256
structure ArgI (w : World) (q : Option Addr) (m c : Nat) (R : Nat → Int) : Prop where
  at' : m = 0 ∨ ∃ b o, q = some ⟨b, o, .none⟩ ∧ b < w.heap.size ∧ ∀ i, i < m → w.cell? ⟨b, o + i, .none⟩ = some (.int .i64 (R i))
  lc : m ≤ c ∧ c ≤ maxLen
end Go.Proofs.YthdlefbaegbldaaGreatDoor
