import Derived.Test.YthdlefbaegbldaaGreatDoorFt
namespace Go.Proofs.YthdlefbaegbldaaGreatDoor
open Go.RowKit
set_option linter.unusedVariables false
set_option linter.unusedSimpArgs false
set_option maxRecDepth 100000
set_option maxHeartbeats 2000000 in
theorem dropRT2_any {w : World} {s t c fb pb : Nat} {F P : Nat → Option Nat} {b q : Nat} {num ino off : Int} {xs : List Int} {r : Int} (h : Fls w s t c fb pb) (hT : Tab w fb 100 F) (hP : Tab w pb 32 P) (k : Nat) (hk : k < 100) (hF : F k = some b) (j : Nat) (hj : j < 32) (hQ : P j = some q) (hL : Lk w b num 2 1 true false ino off (j : Int)) (hp : Pip w q xs r true true) (hsq : s ≠ q) (hbq : b ≠ q) (hpq : pb ≠ q) (hfq : fb ≠ q) (hsf : s ≠ fb) (hsb : s ≠ b) (hfb : fb ≠ b) (hpb : pb ≠ b) (hfp : fb ≠ pb) (hsp : s ≠ pb) :
    Calls Tryz.prog 15 #[.pointer (some ⟨s, 0, .none⟩), .int .i64 k] w (fun e w' => (∃ g, w.heap.size ≤ g ∧ e = .returned (.tuple #[.slice (some ⟨g, 0, .none⟩) 1 1, .int .i64 0]) ∧ w'.cell? ⟨g, 0, .none⟩ = some (.int .i64 5) ∧ w'.cell? ⟨g, 1, .none⟩ = some (.int .i64 j)) ∧ Tab w' fb 100 (setF F k none) ∧ Pip w' q xs r false true ∧ ChS (fun i => i = b ∨ i = fb ∨ i = q) w w') := by
  have cg := getF_some h hT k b hk hF
  have HH : Hid (Fls w s t c fb pb ∧ Tab w fb 100 F ∧ Tab w pb 32 P ∧ Lk w b num 2 1 true false ino off (j : Int) ∧ Pip w q xs r true true) := ⟨h, hT, hP, hL, hp⟩
  have HQ : Hid (P j = some q) := hQ
  have hbl := hL.lt
  have hsl := h.lt
  have hpl : pb < w.heap.size := hP.lt (by omega)
  have hfl : fb < w.heap.size := hT.lt (by omega)
  have hql := hp.lt
  clear h hT hP hL hp hQ hF
  go_enter Tryz.func15, Tryz.ntmps15
  go_wp2_with fail
  refine cg.mono ?_
  rintro _ V ⟨rfl, hV⟩
  have HV : Hid (Below w.heap.size w V ∧ Fls V s t c fb pb ∧ Tab V fb 100 F ∧ Tab V pb 32 P ∧ Lk V b num 2 1 true false ino off (j : Int) ∧ Pip V q xs r true true) := ⟨hV, HH.out.1.below hV, HH.out.2.1.below (by omega) hV, HH.out.2.2.1.below (by omega) hV, HH.out.2.2.2.1.below hV, HH.out.2.2.2.2.below hV⟩
  clear hV cg
  have l2 := HV.out.2.2.2.2.1.c2
  have f2 := HV.out.2.2.2.2.1.f 2
  go_upto_region 5 with fail
  have t1 : Trn b V (V.setCell ⟨b, 2, .none⟩ (.int .i64 0)) := Trn.setCell _ _ _ _
  have hsz := HV.out.1.size
  have H1 : Hid (Fls (V.setCell ⟨b, 2, .none⟩ (.int .i64 0)) s t c fb pb ∧ Tab (V.setCell ⟨b, 2, .none⟩ (.int .i64 0)) fb 100 F ∧ Tab (V.setCell ⟨b, 2, .none⟩ (.int .i64 0)) pb 32 P ∧ Lk (V.setCell ⟨b, 2, .none⟩ (.int .i64 0)) b num 2 0 true false ino off (j : Int) ∧ Pip (V.setCell ⟨b, 2, .none⟩ (.int .i64 0)) q xs r true true ∧ ChS (fun i => i = b ∨ i = fb ∨ i = q) w (V.setCell ⟨b, 2, .none⟩ (.int .i64 0))) :=
    ⟨HV.out.2.1.keep (t1.block _ (by omega) hsb), HV.out.2.2.1.keep (t1.block _ (by omega) hfb), HV.out.2.2.2.1.keep (t1.block _ (by omega) hpb), HV.out.2.2.2.2.1.set2 0, HV.out.2.2.2.2.2.keep t1 (fun e => hbq e.symm), (ChS.ofBelow HV.out.1).trans (ChS.ofTrn t1 (.inl (.inl rfl)))⟩
  clear l2 f2 t1 hsz HV
  generalize (V.setCell ⟨b, 2, .none⟩ (.int .i64 0)) = V1 at *
  have l2 := H1.out.2.2.2.1.c2
  have c2 := H1.out.1.c2
  have ct := tfreeF_any H1.out.2.1 (by omega) (by omega) k hk
  go_wp2_with fail
  refine ct.mono ?_
  rintro _ U ⟨⟨u, rfl⟩, hTU, hU⟩
  have hsz := H1.out.2.2.2.2.2.size
  have H2 : Hid (Fls U s t c fb pb ∧ Tab U fb 100 (setF F k none) ∧ Tab U pb 32 P ∧ Lk U b num 2 0 true false ino off (j : Int) ∧ Pip U q xs r true true ∧ ChS (fun i => i = b ∨ i = fb ∨ i = q) w U) :=
    ⟨H1.out.1.keep (hU.block _ (by omega) hsf), hTU, H1.out.2.2.1.keep (hU.block _ (by omega) (fun e => hfp e.symm)), H1.out.2.2.2.1.keep (hU.block _ (by omega) (fun e => hfb e.symm)), H1.out.2.2.2.2.1.keep hU (fun e => hfq e.symm), H1.out.2.2.2.2.2.trans (ChS.ofTrn hU (.inl (.inr (.inl rfl))))⟩
  clear hTU hU ct l2 c2 H1 hsz
  have l1 := H2.out.2.2.2.1.c1
  have cs := shutRT_any H2.out.1 H2.out.2.2.1 j hj HQ.out H2.out.2.2.2.1 H2.out.2.2.2.2.1 hsq hbq hpq
  have hsz := H2.out.2.2.2.2.2.size
  go_wp2_with fail
  refine cs.mono ?_
  rintro _ X ⟨⟨g, hg, rfl, g0, g1⟩, hpX, hX⟩
  have HX : Hid ((w.heap.size ≤ g ∧ X.cell? ⟨g, 0, .none⟩ = some (.int .i64 5) ∧ X.cell? ⟨g, 1, .none⟩ = some (.int .i64 j)) ∧ Tab X fb 100 (setF F k none) ∧ Pip X q xs r false true ∧ ChS (fun i => i = b ∨ i = fb ∨ i = q) w X) := ⟨⟨by omega, g0, g1⟩, H2.out.2.1.keep (hX.block _ (by omega) hfq), hpX, H2.out.2.2.2.2.2.trans (ChS.ofTrn hX (.inl (.inr (.inr rfl))))⟩
  clear hg g0 g1 hpX hX cs l1
  go_wp2
  go_ret2
  exact ⟨⟨g, HX.out.1.1, rfl, HX.out.1.2.1, HX.out.1.2.2⟩, HX.out.2.1, HX.out.2.2.1, HX.out.2.2.2⟩
set_option maxHeartbeats 2000000 in
theorem dropWT2_any {w : World} {s t c fb pb : Nat} {F P : Nat → Option Nat} {b q : Nat} {num ino off : Int} {xs : List Int} {r : Int} (h : Fls w s t c fb pb) (hT : Tab w fb 100 F) (hP : Tab w pb 32 P) (k : Nat) (hk : k < 100) (hF : F k = some b) (j : Nat) (hj : j < 32) (hQ : P j = some q) (hL : Lk w b num 3 1 false true ino off (j : Int)) (hp : Pip w q xs r true true) (hsq : s ≠ q) (hbq : b ≠ q) (hpq : pb ≠ q) (hfq : fb ≠ q) (hsf : s ≠ fb) (hsb : s ≠ b) (hfb : fb ≠ b) (hpb : pb ≠ b) (hfp : fb ≠ pb) (hsp : s ≠ pb) :
    Calls Tryz.prog 15 #[.pointer (some ⟨s, 0, .none⟩), .int .i64 k] w (fun e w' => (∃ g, w.heap.size ≤ g ∧ e = .returned (.tuple #[.slice (some ⟨g, 0, .none⟩) 1 1, .int .i64 0]) ∧ w'.cell? ⟨g, 0, .none⟩ = some (.int .i64 4) ∧ w'.cell? ⟨g, 1, .none⟩ = some (.int .i64 j)) ∧ Tab w' fb 100 (setF F k none) ∧ Pip w' q xs r true false ∧ ChS (fun i => i = b ∨ i = fb ∨ i = q) w w') := by
  have cg := getF_some h hT k b hk hF
  have HH : Hid (Fls w s t c fb pb ∧ Tab w fb 100 F ∧ Tab w pb 32 P ∧ Lk w b num 3 1 false true ino off (j : Int) ∧ Pip w q xs r true true) := ⟨h, hT, hP, hL, hp⟩
  have HQ : Hid (P j = some q) := hQ
  have hbl := hL.lt
  have hsl := h.lt
  have hpl : pb < w.heap.size := hP.lt (by omega)
  have hfl : fb < w.heap.size := hT.lt (by omega)
  have hql := hp.lt
  clear h hT hP hL hp hQ hF
  go_enter Tryz.func15, Tryz.ntmps15
  go_wp2_with fail
  refine cg.mono ?_
  rintro _ V ⟨rfl, hV⟩
  have HV : Hid (Below w.heap.size w V ∧ Fls V s t c fb pb ∧ Tab V fb 100 F ∧ Tab V pb 32 P ∧ Lk V b num 3 1 false true ino off (j : Int) ∧ Pip V q xs r true true) := ⟨hV, HH.out.1.below hV, HH.out.2.1.below (by omega) hV, HH.out.2.2.1.below (by omega) hV, HH.out.2.2.2.1.below hV, HH.out.2.2.2.2.below hV⟩
  clear hV cg
  have l2 := HV.out.2.2.2.2.1.c2
  have f2 := HV.out.2.2.2.2.1.f 2
  go_upto_region 5 with fail
  have t1 : Trn b V (V.setCell ⟨b, 2, .none⟩ (.int .i64 0)) := Trn.setCell _ _ _ _
  have hsz := HV.out.1.size
  have H1 : Hid (Fls (V.setCell ⟨b, 2, .none⟩ (.int .i64 0)) s t c fb pb ∧ Tab (V.setCell ⟨b, 2, .none⟩ (.int .i64 0)) fb 100 F ∧ Tab (V.setCell ⟨b, 2, .none⟩ (.int .i64 0)) pb 32 P ∧ Lk (V.setCell ⟨b, 2, .none⟩ (.int .i64 0)) b num 3 0 false true ino off (j : Int) ∧ Pip (V.setCell ⟨b, 2, .none⟩ (.int .i64 0)) q xs r true true ∧ ChS (fun i => i = b ∨ i = fb ∨ i = q) w (V.setCell ⟨b, 2, .none⟩ (.int .i64 0))) :=
    ⟨HV.out.2.1.keep (t1.block _ (by omega) hsb), HV.out.2.2.1.keep (t1.block _ (by omega) hfb), HV.out.2.2.2.1.keep (t1.block _ (by omega) hpb), HV.out.2.2.2.2.1.set2 0, HV.out.2.2.2.2.2.keep t1 (fun e => hbq e.symm), (ChS.ofBelow HV.out.1).trans (ChS.ofTrn t1 (.inl (.inl rfl)))⟩
  clear l2 f2 t1 hsz HV
  generalize (V.setCell ⟨b, 2, .none⟩ (.int .i64 0)) = V1 at *
  have l2 := H1.out.2.2.2.1.c2
  have c2 := H1.out.1.c2
  have ct := tfreeF_any H1.out.2.1 (by omega) (by omega) k hk
  go_wp2_with fail
  refine ct.mono ?_
  rintro _ U ⟨⟨u, rfl⟩, hTU, hU⟩
  have hsz := H1.out.2.2.2.2.2.size
  have H2 : Hid (Fls U s t c fb pb ∧ Tab U fb 100 (setF F k none) ∧ Tab U pb 32 P ∧ Lk U b num 3 0 false true ino off (j : Int) ∧ Pip U q xs r true true ∧ ChS (fun i => i = b ∨ i = fb ∨ i = q) w U) :=
    ⟨H1.out.1.keep (hU.block _ (by omega) hsf), hTU, H1.out.2.2.1.keep (hU.block _ (by omega) (fun e => hfp e.symm)), H1.out.2.2.2.1.keep (hU.block _ (by omega) (fun e => hfb e.symm)), H1.out.2.2.2.2.1.keep hU (fun e => hfq e.symm), H1.out.2.2.2.2.2.trans (ChS.ofTrn hU (.inl (.inr (.inl rfl))))⟩
  clear hTU hU ct l2 c2 H1 hsz
  have l1 := H2.out.2.2.2.1.c1
  have cs := shutWT_any H2.out.1 H2.out.2.2.1 j hj HQ.out H2.out.2.2.2.1 H2.out.2.2.2.2.1 hsq hbq hpq
  have hsz := H2.out.2.2.2.2.2.size
  go_wp2_with fail
  refine cs.mono ?_
  rintro _ X ⟨⟨g, hg, rfl, g0, g1⟩, hpX, hX⟩
  have HX : Hid ((w.heap.size ≤ g ∧ X.cell? ⟨g, 0, .none⟩ = some (.int .i64 4) ∧ X.cell? ⟨g, 1, .none⟩ = some (.int .i64 j)) ∧ Tab X fb 100 (setF F k none) ∧ Pip X q xs r true false ∧ ChS (fun i => i = b ∨ i = fb ∨ i = q) w X) := ⟨⟨by omega, g0, g1⟩, H2.out.2.1.keep (hX.block _ (by omega) hfq), hpX, H2.out.2.2.2.2.2.trans (ChS.ofTrn hX (.inl (.inr (.inr rfl))))⟩
  clear hg g0 g1 hpX hX cs l1
  go_wp2
  go_ret2
  exact ⟨⟨g, HX.out.1.1, rfl, HX.out.1.2.1, HX.out.1.2.2⟩, HX.out.2.1, HX.out.2.2.1, HX.out.2.2.2⟩
end Go.Proofs.YthdlefbaegbldaaGreatDoor
