import Derived.Test.YthdlefbaegbldaaGreatDoorFf
namespace Go.Proofs.YthdlefbaegbldaaGreatDoor
open Go.RowKit
set_option linter.unusedVariables false
set_option linter.unusedSimpArgs false
set_option maxRecDepth 100000
def PeekP (w : World) (xs : List Int) (wt : Bool) (n k l pp : Int) (e : Ending) (w' : World) : Prop :=
  ∃ v, e = .returned v ∧ Got w' w.heap.size xs wt n k l pp v ∧ Below w.heap.size w w'
theorem Got.trn {w w' : World} {b base : Nat} {xs : List Int} {wt : Bool} {n k l pp : Int} {v : Value} (h : Got w base xs wt n k l pp v) (ht : Trn b w w') (hb : b < base) : Got w' base xs wt n k l pp v := by
  rcases h with h | ⟨h1, p, c, wp, wn, wc, h2, h3, h4, h5⟩
  · exact .inl h
  · exact .inr ⟨h1, p, c, wp, wn, wc, h2, ht.own h3 (fun g hg => by have := own_block h3 g hg; omega), h4, h5.trn ht hb⟩
theorem Got.mono {w : World} {base base' : Nat} {xs : List Int} {wt : Bool} {n k l pp : Int} {v : Value} (h : Got w base xs wt n k l pp v) (hb : base' ≤ base) : Got w base' xs wt n k l pp v := by
  rcases h with h | ⟨h1, p, c, wp, wn, wc, h2, h3, h4, h5⟩
  · exact .inl h
  · exact .inr ⟨h1, p, c, wp, wn, wc, h2, own_mono h3 hb, h4, h5.mono hb⟩
theorem Got.five {w : World} {base : Nat} {xs : List Int} {wt : Bool} {n k l pp : Int} {v : Value} (h : Got w base xs wt n k l pp v) : ∃ a0 p m c a2 a3 wp wn wc, v = .agg #[.int .i64 a0, .slice p m c, .int .i64 a2, .int .i64 a3, .slice wp wn wc] := by
  rcases h with ⟨_, h⟩ | ⟨h1, p, c, wp, wn, wc, h2, _⟩
  · exact ⟨_, _, _, _, _, _, _, _, _, h⟩
  · exact ⟨_, _, _, _, _, _, _, _, _, h2⟩
theorem Pip.byts {w : World} {b : Nat} {xs : List Int} {r : Int} {rd wt : Bool} (h : Pip w b xs r rd wt) : (∀ y ∈ xs, 0 ≤ y ∧ y < 256) ∧ xs.length ≤ 512 ∧ 0 ≤ r ∧ r < 4294967296 := by
  obtain ⟨h1, B, h2, h3⟩ := h
  refine ⟨fun y hy => ?_, h1, h2.br⟩
  obtain ⟨j, hj, e⟩ := List.getElem_of_mem hy
  have := h3 j y (by rw [← e]; exact List.getElem?_eq_getElem hj)
  rw [← this]
  exact h2.bb _
set_option maxHeartbeats 2000000 in
theorem peekE_any {w : World} {b : Nat} {xs : List Int} {r : Int} {rd wt : Bool} (h : Pip w b xs r rd wt) (n k l pp : Int) :
    Calls Tryz.prog 77 #[.agg #[.pointer (some ⟨b, 0, .none⟩), .int .i64 k, .int .i64 pp, .int .i64 l, .int .i64 pp], .int .i64 n] w (PeekP w xs wt n k l pp) := by
  obtain ⟨W, hW⟩ : ∃ W, W = (w.alloc (.cells #[.pointer (some ⟨b, 0, .none⟩), .int .i64 k, .int .i64 pp, .int .i64 l, .int .i64 pp] 146)).alloc (.cells #[.int .i64 0, .slice none 0 0, .int .i64 0, .int .i64 0, .slice none 0 0] 45) := ⟨_, rfl⟩
  have hlt := h.lt
  have hb1 : Below w.heap.size w (w.alloc (.cells #[.pointer (some ⟨b, 0, .none⟩), .int .i64 k, .int .i64 pp, .int .i64 l, .int .i64 pp] 146)) := (Below.refl _ _).alloc (Nat.le_refl _) _
  have HB : Hid (Below w.heap.size w W ∧ W.heap.size = w.heap.size + 2 ∧ En W w.heap.size (some ⟨b, 0, .none⟩) k l pp ∧ Zg W (w.heap.size + 1)) := by
    rw [hW]
    refine ⟨hb1.alloc (by simp) _, by simp, (En.new w _ k l pp).below ((Below.refl _ _).alloc (Nat.le_refl _) _), ?_⟩
    have := Zg.new (w.alloc (.cells #[.pointer (some ⟨b, 0, .none⟩), .int .i64 k, .int .i64 pp, .int .i64 l, .int .i64 pp] 146))
    rwa [World.size_alloc] at this
  have HW : Hid ((w.alloc (.cells #[.pointer (some ⟨b, 0, .none⟩), .int .i64 k, .int .i64 pp, .int .i64 l, .int .i64 pp] 146)).alloc (.cells #[.int .i64 0, .slice none 0 0, .int .i64 0, .int .i64 0, .slice none 0 0] 45) = W) := hW.symm
  have HP : Hid (Pip W b xs r rd wt) := h.below HB.out.1
  have HY : Hid ((∀ y ∈ xs, 0 ≤ y ∧ y < 256) ∧ xs.length ≤ 512 ∧ 0 ≤ r ∧ r < 4294967296) := h.byts
  have e0 := HB.out.2.2.1.c0
  clear hW hb1 h
  go_enter Tryz.func77, Tryz.ntmps77
  go_upto_region 1 with fail
  rw [HW.out]
  clear HW
  go_wp2_with fail
  refine (state_pip HP.out).mono ?_
  rintro _ V ⟨p, c, rfl, hO, hbV, h0⟩
  have HV : Hid (V.ownsRow W.heap.size 5 1 (.slice p xs.length c) xs.length (by8 xs) ∧ Below W.heap.size W V) := ⟨hO, hbV⟩
  clear hO hbV h0
  have hfr := from_any (w := V) r ((r + (xs.length : Int)) % 4294967296) rd wt (byt_own HV.out.1) HY.out.1 HY.out.2.2 (by omega)
  simp only [stt]
  go_wp2_with fail
  refine hfr.mono ?_
  rintro _ U ⟨hbU, hcase⟩
  have hok : okS xs.length r ((r + (xs.length : Int)) % 4294967296) := by have := HY.out.2; unfold okS; omega
  rcases hcase with ⟨hn, _⟩ | ⟨_, q, hq, rfl, hPU⟩
  · exact absurd hok hn
  have bWU : Below W.heap.size W U := HV.out.2.trans (hbU.mono HV.out.2.size)
  have HE : Hid (En U w.heap.size (some ⟨b, 0, .none⟩) k l pp) := HB.out.2.2.1.keep (bWU.block _ (by have := HB.out.2.1; omega))
  have HZ : Hid (Zg U (w.heap.size + 1)) := HB.out.2.2.2.keep (bWU.block _ (by have := HB.out.2.1; omega))
  have HU : Hid (Pip U q xs r rd wt ∧ Below w.heap.size w U ∧ w.heap.size + 2 ≤ q ∧ w.heap.size + 2 ≤ U.heap.size) := ⟨hPU, HB.out.1.trans (bWU.mono HB.out.1.size), by have := HV.out.2.size; have := HB.out.2.1; omega, by have := bWU.size; have := HB.out.2.1; omega⟩
  clear hfr hok hbU hPU bWU hq e0
  have c0 := HE.out.c0
  have c1 := HE.out.c1
  have c2 := HE.out.c2
  have c3 := HE.out.c3
  have c4 := HE.out.c4
  have f0 := HE.out.f 0
  go_wp2_with fail
  have hsz : (U.setCell ⟨w.heap.size, 0, .none⟩ (.pointer (some ⟨q, 0, .none⟩))).heap.size = U.heap.size := (Trn.setCell w.heap.size 0 (.pointer (some ⟨q, 0, .none⟩)) U |> fun _ => by simp [World.setCell])
  have t1 : Trn w.heap.size U (U.setCell ⟨w.heap.size, 0, .none⟩ (.pointer (some ⟨q, 0, .none⟩))) := Trn.setCell _ _ _ _
  have H1 : Hid (Pip (U.setCell ⟨w.heap.size, 0, .none⟩ (.pointer (some ⟨q, 0, .none⟩))) q xs r rd wt ∧ Zg (U.setCell ⟨w.heap.size, 0, .none⟩ (.pointer (some ⟨q, 0, .none⟩))) (w.heap.size + 1) ∧ Below w.heap.size w (U.setCell ⟨w.heap.size, 0, .none⟩ (.pointer (some ⟨q, 0, .none⟩))) ∧ w.heap.size + 2 ≤ (U.setCell ⟨w.heap.size, 0, .none⟩ (.pointer (some ⟨q, 0, .none⟩))).heap.size) :=
    ⟨HU.out.1.keep t1 (by have := HU.out.2.2.1; omega), HZ.out.keep (t1.block _ (by have := HU.out.2.2.2; omega) (by omega)), HU.out.2.1.trans (t1.toBelow (Nat.le_refl _) (by have := HU.out.2.2.2; omega)), by rw [hsz]; exact HU.out.2.2.2⟩
  clear c0 c1 c2 c3 c4 f0 t1 hsz
  generalize U.setCell ⟨w.heap.size, 0, .none⟩ (.pointer (some ⟨q, 0, .none⟩)) = U1 at *
  refine (readE_any H1.out.1 n k l pp).mono ?_
  rintro _ X ⟨v, rfl, hG, _, hX⟩
  obtain ⟨a0, gp, gm, gc, a2, a3, wp, wn, wc, rfl⟩ := hG.five
  have HX : Hid (Got X U1.heap.size xs wt n k l pp (.agg #[.int .i64 a0, .slice gp gm gc, .int .i64 a2, .int .i64 a3, .slice wp wn wc]) ∧ Trn q U1 X) := ⟨hG, hX⟩
  have H2 : Hid (Zg X (w.heap.size + 1)) := H1.out.2.1.keep (hX.block _ (by have := H1.out.2.2.2; omega) (by have := HU.out.2.2.1; omega))
  clear hG hX
  have z0 := H2.out.c0
  have z1 := H2.out.c1
  have z2 := H2.out.c2
  have z3 := H2.out.c3
  have z4 := H2.out.c4
  have y0 := H2.out.f 0
  have y1 := H2.out.f 1
  have y2 := H2.out.f 2
  have y3 := H2.out.f 3
  have y4 := H2.out.f 4
  go_wp2
  refine ret_cells (V := X) (z := w.heap.size + 1) [.int .i64 a0, .slice gp gm gc, .int .i64 a2, .int .i64 a3, .slice wp wn wc] rfl rfl H2.out.there (fun W h => run_loadVar_mid (P := Tryz.prog) W _ 0 45 _ _ h Tryz.underlying45 rfl (by kernel_rfl)) rfl ?_
  intro Y hY
  have hb1 : Below w.heap.size w X := H1.out.2.2.1.trans (HX.out.2.toBelow (by have := HU.out.2.2.1; omega) (by have := H1.out.2.2.2; omega))
  exact ⟨_, rfl, (HX.out.1.trn hY (by have := H1.out.2.2.2; omega)).mono (by have := H1.out.2.2.2; omega), hb1.trans (hY.toBelow (by omega) hb1.size)⟩
end Go.Proofs.YthdlefbaegbldaaGreatDoor
