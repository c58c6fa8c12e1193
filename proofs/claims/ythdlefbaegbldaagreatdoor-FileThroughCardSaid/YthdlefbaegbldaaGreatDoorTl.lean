import Derived.Test.YthdlefbaegbldaaGreatDoorTk
namespace Go.Proofs.YthdlefbaegbldaaGreatDoor
open Go.RowKit Go.Shelf
set_option linter.unusedVariables false
set_option linter.unusedSimpArgs false
set_option maxRecDepth 100000
/-- A new table over a tree and a console. -/
def NewFP (w : World) (tb cb : Nat) (e : Ending) (w' : World) : Prop :=
  ∃ s fb pb, w.heap.size ≤ s ∧ w.heap.size ≤ fb ∧ w.heap.size ≤ pb ∧ s ≠ fb ∧ s ≠ pb ∧ fb ≠ pb ∧ e = .returned (.pointer (some ⟨s, 0, .none⟩)) ∧ Fls w' s tb cb fb pb ∧ Tab w' fb 100 (fun _ => none) ∧ Tab w' pb 32 (fun _ => none) ∧ Con w' cb [] [] ∧ Trn cb w w'
set_option maxHeartbeats 400000 in
theorem newF_any {w : World} {tb p cb : Nat} {fr : List Nat} (h : Ind w tb 71 1 0 0 1 0 32 fr) (hc : w.cell? ⟨tb, 0, .none⟩ = some (.pointer (some ⟨p, 0, .none⟩))) (hC : Con w cb [] []) (hD : Dd w) :
    Calls Tryz.prog 24 #[.pointer (some ⟨tb, 0, .none⟩), .pointer (some ⟨cb, 0, .none⟩)] w (NewFP w tb cb) := by
  have c1 := isTree_any h hc
  have HC : Hid (Con w cb [] [] ∧ Dd w) := ⟨hC, hD⟩
  have hcl := hC.lt
  clear h hc hC hD
  go_enter Tryz.func24, Tryz.ntmps24
  go_wp2_with fail
  refine c1.mono ?_
  rintro _ W1 ⟨rfl, hW1⟩
  have c2 := isConsole_any (HC.out.1.below hW1) (HC.out.2.below hW1)
  have H1 : Hid (Below w.heap.size w W1) := hW1
  clear hW1 c1
  go_wp2_with fail
  refine c2.mono ?_
  rintro _ W2 ⟨rfl, hC2, hW2⟩
  have H2 : Hid (Con W2 cb [] [] ∧ Trn cb w W2) := ⟨hC2, (Trn.ofBelow H1.out).trans hW2⟩
  clear hC2 hW2 c2 H1
  go_wp2_with fail
  refine (newTabF W2).mono ?_
  rintro _ W3 ⟨g1, hg1, rfl, hT1, hW3⟩
  have H3 : Hid (Tab W3 g1 100 (fun _ => none) ∧ Con W3 cb [] [] ∧ Trn cb w W3 ∧ w.heap.size ≤ g1 ∧ g1 < W3.heap.size) := ⟨hT1, H2.out.1.below hW3, H2.out.2.trans (Trn.ofBelow hW3), Nat.le_trans H2.out.2.size hg1, hT1.lt (by omega)⟩
  clear hT1 hW3 hg1
  go_wp2_with fail
  refine (newTabP W3).mono ?_
  rintro _ W4 ⟨g2, hg2, rfl, hT2, hW4⟩
  have H4 : Hid (Tab W4 g1 100 (fun _ => none) ∧ Tab W4 g2 32 (fun _ => none) ∧ Con W4 cb [] [] ∧ Trn cb w W4 ∧ w.heap.size ≤ g1 ∧ g1 < g2 ∧ g2 < W4.heap.size) := ⟨H3.out.1.below (by omega) hW4, hT2, H3.out.2.1.below hW4, H3.out.2.2.1.trans (Trn.ofBelow hW4), H3.out.2.2.2.1, by have := H3.out.2.2.2.2; omega, hT2.lt (by omega)⟩
  clear hT2 hW4 hg2
  go_wp2
  go_ret
  have hb : Below W4.heap.size W4 (W4.alloc (.cells #[.pointer (some ⟨tb, 0, .none⟩), .pointer (some ⟨cb, 0, .none⟩), .slice (some ⟨g1, 0, .none⟩) 100 100, .slice (some ⟨g2, 0, .none⟩) 32 32] 66)) := (Below.refl _ _).alloc (Nat.le_refl _) _
  have e := H4.out
  refine ⟨W4.heap.size, g1, g2, by have := e.2.2.2.1.size; omega, e.2.2.2.2.1, by omega, by omega, by omega, by omega, rfl, ⟨?_, ?_, ?_, ?_⟩, e.1.below (by omega) hb, e.2.1.below (by omega) hb, e.2.2.1.below hb, e.2.2.2.1.trans (Trn.ofBelow hb)⟩
  · rw [World.cell?_alloc_at _ _ _ _ rfl]; rfl
  · rw [World.cell?_alloc_at _ _ _ _ rfl]; rfl
  · rw [World.cell?_alloc_at _ _ _ _ rfl]; rfl
  · rw [World.cell?_alloc_at _ _ _ _ rfl]; rfl
/-- A memory, a tree, a console and a table. -/
def DeskP (w : World) (e : Ending) (w' : World) : Prop :=
  ∃ tb cb s fb pb, w.heap.size ≤ s ∧ w.heap.size ≤ fb ∧ w.heap.size ≤ pb ∧ s ≠ fb ∧ s ≠ pb ∧ fb ≠ pb ∧ e = .returned (.tuple #[.pointer (some ⟨tb, 0, .none⟩), .pointer (some ⟨cb, 0, .none⟩), .pointer (some ⟨s, 0, .none⟩)]) ∧ Fls w' s tb cb fb pb ∧ Tab w' fb 100 (fun _ => none) ∧ Tab w' pb 32 (fun _ => none) ∧ Below w.heap.size w w'
set_option maxHeartbeats 400000 in
theorem desk_any {w : World} (hD : Dd w) : Calls Tryz.prog 5 #[] w (DeskP w) := by
  have HD : Hid (Dd w) := hD
  have hd0 := hD.1
  clear hD
  go_enter Tryz.func5, Tryz.ntmps5
  go_wp2_with fail
  refine (new_anyR 200 (by omega) (by omega) w).mono ?_
  rintro _ W1 ⟨p, bb, m, h1, h2, h3, rfl, hR, hW1⟩
  have HR : Hid (Ram W1 p bb m 200 (newB 199) (199 :: down 198) ∧ Below w.heap.size w W1 ∧ w.heap.size ≤ p ∧ w.heap.size ≤ bb ∧ w.heap.size ≤ m) := ⟨hR, hW1, h1, h2, h3⟩
  clear hR hW1 h1 h2 h3
  have ct := newT_any HR.out.1
  go_wp2_with fail
  refine ct.mono ?_
  rintro _ W2 ⟨tb, htb, rfl, hP, _, hW2⟩
  have HT : Hid (Ind W2 tb 71 1 0 0 1 0 32 [199] ∧ W2.cell? ⟨tb, 0, .none⟩ = some (.pointer (some ⟨p, 0, .none⟩)) ∧ Below w.heap.size w W2 ∧ w.heap.size ≤ tb) := by
    refine ⟨hP.ind, hP.ct, ⟨hW2.os.trans HR.out.2.1.os, hW2.tape.trans HR.out.2.1.tape, hW2.output.trans HR.out.2.1.output, Nat.le_trans HR.out.2.1.size hW2.size, fun k hk => ?_⟩, Nat.le_trans HR.out.2.1.size htb⟩
    have e := HR.out.2.2
    have es := HR.out.2.1.size
    rw [hW2.block k (by omega) (fun e2 => by rcases e2 with e2 | e2 | e2 <;> omega)]
    exact HR.out.2.1.block k hk
  clear htb hP hW2 ct
  go_wp2_with fail
  refine (new_any W2).mono ?_
  rintro _ W3 ⟨rfl, hC, hW3⟩
  have H3 : Hid (Ind W3 tb 71 1 0 0 1 0 32 [199] ∧ W3.cell? ⟨tb, 0, .none⟩ = some (.pointer (some ⟨p, 0, .none⟩)) ∧ Con W3 W2.heap.size [] [] ∧ Below w.heap.size w W3 ∧ w.heap.size ≤ W2.heap.size) := ⟨HT.out.1.keep (hW3.block _ HT.out.1.lt), (hW3.cell (p := ⟨tb, 0, .none⟩) HT.out.1.lt).trans HT.out.2.1, hC, HT.out.2.2.1.trans (hW3.mono HT.out.2.2.1.size), HT.out.2.2.1.size⟩
  clear hC hW3
  generalize W2.heap.size = cb at *
  have cf := newF_any H3.out.1 H3.out.2.1 H3.out.2.2.1 (HD.out.below H3.out.2.2.2.1)
  go_wp2_with fail
  refine cf.mono ?_
  rintro _ W4 ⟨s, fb, pb, b1, b2, b3, b4, b5, b6, rfl, hF, hT1, hT2, _, hW4⟩
  have es := H3.out.2.2.2.1.size
  have HX : Hid (DeskP w (.returned (.tuple #[.pointer (some ⟨tb, 0, .none⟩), .pointer (some ⟨cb, 0, .none⟩), .pointer (some ⟨s, 0, .none⟩)])) W4) := ⟨tb, cb, s, fb, pb, by omega, by omega, by omega, b4, b5, b6, rfl, hF, hT1, hT2, H3.out.2.2.2.1.trans (hW4.toBelow H3.out.2.2.2.2 es)⟩
  clear b1 b2 b3 b4 b5 b6 hF hT1 hT2 hW4 cf
  go_wp2
  go_ret3
  exact HX.out
end Go.Proofs.YthdlefbaegbldaaGreatDoor
