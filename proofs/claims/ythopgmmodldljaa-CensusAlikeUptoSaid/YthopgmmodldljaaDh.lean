import Derived.Test.YthopgmmodldljaaDg
import Derived.Test.YthopgmmodldljaaLp
namespace Go.Proofs.Ythopgmmodldljaa
open Go Go.RowKit
set_option linter.unusedVariables false
set_option linter.unusedSimpArgs false
theorem allB_refl {α : Type} (f : α → α → Bool) (h : ∀ x, f x x = true) : ∀ l : List α, allB f l l = true
  | [] => rfl
  | x :: l => by simp only [allB]; rw [h, allB_refl f h l]; rfl
theorem pgB_refl (x : Pg) : pgB x x = true := by simp [pgB]
theorem cmP_refl (p : Pc) : cmP p p = true := by
  unfold cmP plP pcB1
  rw [chB_self, rgB_self, fdB_self, peB_self, allB_refl pgB pgB_refl]
  simp
theorem cmF_refl (x : Fi) : cmF x x = true := by simp [cmF]
theorem cmI_refl (x : In) : cmI x x = true := by simp [cmI]
theorem cmB_refl (x : Int) : cmB x x = true := by simp [cmB]
theorem cmQ_refl (x : Pp) : cmQ x x = true := by
  unfold cmQ plQ
  rw [allB_refl cmB cmB_refl]
  simp
theorem alk_refl (L : Lk) : alk L L = true := by
  unfold alk
  rw [allB_refl cmP cmP_refl, allB_refl cmF cmF_refl, allB_refl cmI cmI_refl, allB_refl cmQ cmQ_refl, allB_refl cmB cmB_refl, allB_refl cmB cmB_refl]
  simp
theorem Sml.cb {L : Lk} (h : Sml L) : Cb L := ⟨h.p, h.f, h.i, h.q, by have := h.r; omega, by have := h.l; omega, fun x hx => by have := h.pg x hx; omega, fun x hx => by have := h.qb x hx; omega⟩
structure KA (w : World) (g5 g6 Z : Nat) (AL BL CL DL : List Value) (W4 wr : World) : Prop where
  a : wr.heap[w.heap.size]? = some (.cells AL.toArray 33)
  b : wr.heap[w.heap.size + 1]? = some (.cells BL.toArray 33)
  c : wr.heap[g5]? = some (.cells CL.toArray 33)
  d : wr.heap[g6]? = some (.cells DL.toArray 33)
  z : Below Z W4 wr
  bel : Below w.heap.size w wr
  le : Z ≤ wr.heap.size
theorem KA.top {w : World} {g5 g6 Z : Nat} {AL BL CL DL : List Value} {W4 wr wr' : World} (h : KA w g5 g6 Z AL BL CL DL W4 wr) (hb : Below wr.heap.size wr wr') (hz : w.heap.size + 1 < Z ∧ g5 < Z ∧ g6 < Z) : KA w g5 g6 Z AL BL CL DL W4 wr' :=
  ⟨(hb.block _ (by have := h.le; omega)).trans h.a, (hb.block _ (by have := h.le; omega)).trans h.b, (hb.block _ (by have := h.le; omega)).trans h.c, (hb.block _ (by have := h.le; omega)).trans h.d, h.z.trans (hb.mono h.le), h.bel.trans (hb.mono (by have := h.le; omega)), Nat.le_trans h.le hb.size⟩
theorem KA.rg {w : World} {g5 g6 Z : Nat} {AL BL CL DL : List Value} {W4 V : World} (h : KA w g5 g6 Z AL BL CL DL W4 V) : V.rangeAt w.heap.size 0 AL ∧ V.rangeAt (w.heap.size + 1) 0 BL ∧ V.rangeAt g5 0 CL ∧ V.rangeAt g6 0 DL := ⟨range_heap h.a, range_heap h.b, range_heap h.c, range_heap h.d⟩
set_option maxRecDepth 100000 in
set_option maxHeartbeats 4000000 in
theorem alikes_any {w : World} {X Y : Nat} {pv fv iv qv rv lv pv' fv' iv' qv' rv' lv' : Value} {L M : Lk} (h1 : LkW w X pv fv iv qv rv lv L) (h2 : LkW w Y pv' fv' iv' qv' rv' lv' M) (hX : X ≤ w.heap.size) (hY : Y ≤ w.heap.size) (sL : Sml L) (sM : Sml M) (fL : fewN L 0 ≤ 1000000000000000000) (fM : fewN M 0 ≤ 1000000000000000000) :
    Calls Try.prog 6 #[.agg (lkL L.tramp pv fv iv qv rv lv L.ticks L.next L.free).toArray, .agg (lkL M.tramp pv' fv' iv' qv' rv' lv' M.ticks M.next M.free).toArray] w fun e w' => e = .returned (.bool true) ∧ Below w.heap.size w w' := by
  have k1 : ∀ V, Below w.heap.size w V → LkW V X pv fv iv qv rv lv L ∧ X ≤ V.heap.size := fun V hV => ⟨h1.keep (Nat.le_refl _) (hV.mono hX), Nat.le_trans hX hV.size⟩
  have k2 : ∀ V, Below w.heap.size w V → LkW V Y pv' fv' iv' qv' rv' lv' M ∧ Y ≤ V.heap.size := fun V hV => ⟨h2.keep (Nat.le_refl _) (hV.mono hY), Nat.le_trans hY hV.size⟩
  have HK1 : Hid ((∀ V, Below w.heap.size w V → LkW V X pv fv iv qv rv lv L ∧ X ≤ V.heap.size) ∧ ∀ V, Below w.heap.size w V → LkW V Y pv' fv' iv' qv' rv' lv' M ∧ Y ≤ V.heap.size) := ⟨k1, k2⟩
  obtain ⟨AL, hAL⟩ : ∃ AL, AL = lkL L.tramp pv fv iv qv rv lv L.ticks L.next L.free := ⟨_, rfl⟩
  obtain ⟨BL, hBL⟩ : ∃ BL, BL = lkL M.tramp pv' fv' iv' qv' rv' lv' M.ticks M.next M.free := ⟨_, rfl⟩
  rw [← hAL, ← hBL]
  have HAB : Hid (AL.length = 10 ∧ BL.length = 10 ∧ AL = lkL L.tramp pv fv iv qv rv lv L.ticks L.next L.free ∧ BL = lkL M.tramp pv' fv' iv' qv' rv' lv' M.ticks M.next M.free) := ⟨by rw [hAL]; rfl, by rw [hBL]; rfl, hAL, hBL⟩
  have HFA : Hid (∀ V, Below w.heap.size w V → Calls Try.prog 10 #[.agg AL.toArray, .slice none 0 0] V fun e w'' => e = .returned (.bool (decide (fewN L 0 ≤ 6000))) ∧ Below V.heap.size V w'') := fun V hV => by rw [hAL]; exact few_any (k1 V hV).1 (k1 V hV).2 none 0 0 fL
  have HFB : Hid (∀ V, Below w.heap.size w V → Calls Try.prog 10 #[.agg BL.toArray, .slice none 0 0] V fun e w'' => e = .returned (.bool (decide (fewN M 0 ≤ 6000))) ∧ Below V.heap.size V w'') := fun V hV => by rw [hBL]; exact few_any (k2 V hV).1 (k2 V hV).2 none 0 0 fM
  have HTA : Hid (∀ V, Below w.heap.size w V → Calls Try.prog 12 #[.agg AL.toArray] V fun e w'' => ∃ pv' fv' iv' qv' rv' lv', e = .returned (.agg (lkL L.tramp pv' fv' iv' qv' rv' lv' L.ticks L.next L.free).toArray) ∧ LkW w'' w''.heap.size pv' fv' iv' qv' rv' lv' L ∧ Below V.heap.size V w'') := fun V hV => by rw [hAL]; exact twin_lk (k1 V hV).1 (k1 V hV).2 sL
  have HTB : Hid (∀ V, Below w.heap.size w V → Calls Try.prog 12 #[.agg BL.toArray] V fun e w'' => ∃ pv' fv' iv' qv' rv' lv', e = .returned (.agg (lkL M.tramp pv' fv' iv' qv' rv' lv' M.ticks M.next M.free).toArray) ∧ LkW w'' w''.heap.size pv' fv' iv' qv' rv' lv' M ∧ Below V.heap.size V w'') := fun V hV => by rw [hBL]; exact twin_lk (k2 V hV).1 (k2 V hV).2 sM
  have HSM : Hid (Sml L ∧ Sml M) := ⟨sL, sM⟩
  clear h1 h2 hX hY sL sM fL fM k1 k2 hAL hBL
  go_enter Try.func6, Try.ntmps6
  go_upto_region 1 with (first
    | (refine wpList_is (.box 33 (.tmp 0)) rfl ?_; refine wpList_boxG 33 AL 2 (.tmp 0) _ rfl rfl rfl rfl ?_; intro W1 hW1 hB1 hs1)
    | (refine wpList_is (.box 33 (.tmp 1)) rfl ?_; refine wpList_boxG 33 BL 3 (.tmp 1) _ rfl rfl rfl rfl ?_; intro W2 hW2 hB2 hs2; rw [hs1] at hW2 hs2 ⊢)
    | fail)
  have HK : Hid (AK w AL BL W2) := ⟨(hB2.block _ (by omega)).trans hW1, hW2, by omega, hB1.trans (hB2.mono (by omega))⟩
  clear hW1 hW2 hB1 hB2 hs1 hs2
  have r1 : W2.rangeAt w.heap.size 0 AL := range_heap HK.out.1
  go_wp2_with (first
    | (refine wpList_is (.load 33 (.tmp 2)) rfl ?_; refine wpList_loadG 33 10 176 info33 _ Try.underlying33 rfl AL HAB.out.1 w.heap.size 0 (.tmp 2) rfl rfl rfl r1 (some 7) rfl ?_)
    | fail)
  clear r1
  go_at_call 10
  refine (HFA.out _ HK.out.2.2.2).mono ?_
  rintro e U1 ⟨rfl, z1⟩
  have HU1 : Hid (AK w AL BL U1) := HK.out.step z1
  clear HK z1
  by_cases hfew : fewN L 0 ≤ 6000
  case neg =>
    rw [decide_eq_false hfew]
    clear hfew
    go_wp2
    go_ret
    exact ⟨rfl, HU1.out.2.2.2⟩
  rw [decide_eq_true hfew]
  have HFL : Hid (fewN L 0 ≤ 6000) := hfew
  clear hfew
  have r2 : U1.rangeAt (w.heap.size + 1) 0 BL := range_heap HU1.out.2.1
  go_wp2_with (first
    | (refine wpList_is (.load 33 (.tmp 3)) rfl ?_; refine wpList_loadW 33 _ Try.underlying33 rfl BL (by rw [HAB.out.2.1]; kernel_rfl) (w.heap.size + 1) 0 (.tmp 3) rfl rfl rfl r2 (some 11) rfl ?_)
    | fail)
  clear r2
  go_at_call 10
  refine (HFB.out _ HU1.out.2.2.2).mono ?_
  rintro e U2 ⟨rfl, z2⟩
  have HU2 : Hid (AK w AL BL U2) := HU1.out.step z2
  clear HU1 z2
  by_cases hfew : fewN M 0 ≤ 6000
  case neg =>
    rw [decide_eq_false hfew]
    clear hfew
    go_wp2
    go_ret
    exact ⟨rfl, HU2.out.2.2.2⟩
  rw [decide_eq_true hfew]
  have HFM : Hid (fewN M 0 ≤ 6000) := hfew
  clear hfew
  have r1 : U2.rangeAt w.heap.size 0 AL := range_heap HU2.out.1
  go_wp2_with (first
    | (refine wpList_is (.load 33 (.tmp 2)) rfl ?_; refine wpList_loadG 33 10 176 info33 _ Try.underlying33 rfl AL HAB.out.1 w.heap.size 0 (.tmp 2) rfl rfl rfl r1 (some 15) rfl ?_)
    | fail)
  clear r1
  go_at_call 12
  refine (HTA.out _ HU2.out.2.2.2).mono ?_
  rintro e U3 ⟨pc, fc, ic, qc, rc, lc, rfl, lC, z3⟩
  have HU3 : Hid (AK w AL BL U3) := HU2.out.step z3
  obtain ⟨CL, hCL⟩ : ∃ CL, CL = lkL L.tramp pc fc ic qc rc lc L.ticks L.next L.free := ⟨_, rfl⟩
  rw [← hCL]
  have HCL : Hid (CL.length = 10 ∧ (∀ v ∈ CL, v.oneCell' = true) ∧ CL = lkL L.tramp pc fc ic qc rc lc L.ticks L.next L.free ∧ LkW U3 U3.heap.size pc fc ic qc rc lc L) := ⟨by rw [hCL]; rfl, by rw [hCL]; exact lkL_one _ _ _ _ lC.ps.one lC.fs.one lC.is.one lC.qs.one lC.rd.one lC.ln.one, hCL, lC⟩
  clear lC hCL z3 HU2
  go_wp2_with (first
    | (refine wpList_is (.alloc 33) rfl ?_; refine wpList_laidG 33 10 176 info33 CL HCL.out.1 HCL.out.2.1 5 (.tmp 16) _ _ rfl rfl rfl rfl rfl rfl rfl rfl ?_; intro U4 hU4 hB4 hs4; have r2 : U4.rangeAt (w.heap.size + 1) 0 BL := range_heap (HU3.out.step hB4).2.1)
    | (refine wpList_is (.load 33 (.tmp 3)) rfl ?_; refine wpList_loadG 33 10 176 info33 _ Try.underlying33 rfl BL HAB.out.2.1 (w.heap.size + 1) 0 (.tmp 3) rfl rfl rfl r2 (some 17) rfl ?_)
    | fail)
  clear r2
  have HU4 : Hid (AK w AL BL U4 ∧ U4.heap[U3.heap.size]? = some (.cells CL.toArray 33) ∧ LkW U4 U4.heap.size pc fc ic qc rc lc L ∧ U3.heap.size < U4.heap.size ∧ w.heap.size + 2 ≤ U3.heap.size) := ⟨HU3.out.step hB4, hU4, HCL.out.2.2.2.keep (by omega) hB4, by omega, HU3.out.2.2.1⟩
  clear hU4 hB4 hs4 HU3
  obtain ⟨g5, hg5⟩ : ∃ g, g = U3.heap.size := ⟨_, rfl⟩
  rw [← hg5] at HU4 ⊢
  have HCL2 : Hid (CL.length = 10 ∧ CL = lkL L.tramp pc fc ic qc rc lc L.ticks L.next L.free) := ⟨HCL.out.1, HCL.out.2.2.1⟩
  clear HCL hg5
  go_at_call 12
  refine (HTB.out _ HU4.out.1.2.2.2).mono ?_
  rintro e U5 ⟨pd, fd, id, qd, rd, ld, rfl, lD, z5⟩
  have HU5 : Hid (AK w AL BL U5 ∧ U5.heap[g5]? = some (.cells CL.toArray 33) ∧ LkW U5 U5.heap.size pc fc ic qc rc lc L ∧ g5 < U5.heap.size ∧ w.heap.size + 2 ≤ g5) := ⟨HU4.out.1.step z5, (z5.block _ HU4.out.2.2.2.1).trans HU4.out.2.1, HU4.out.2.2.1.keep z5.size z5, Nat.lt_of_lt_of_le HU4.out.2.2.2.1 z5.size, HU4.out.2.2.2.2⟩
  obtain ⟨DL, hDL⟩ : ∃ DL, DL = lkL M.tramp pd fd id qd rd ld M.ticks M.next M.free := ⟨_, rfl⟩
  rw [← hDL]
  have HDL : Hid (DL.length = 10 ∧ (∀ v ∈ DL, v.oneCell' = true) ∧ DL = lkL M.tramp pd fd id qd rd ld M.ticks M.next M.free ∧ LkW U5 U5.heap.size pd fd id qd rd ld M) := ⟨by rw [hDL]; rfl, by rw [hDL]; exact lkL_one _ _ _ _ lD.ps.one lD.fs.one lD.is.one lD.qs.one lD.rd.one lD.ln.one, hDL, lD⟩
  clear lD hDL z5 HU4
  go_upto_region 5 with (first
    | (refine wpList_is (.alloc 33) rfl ?_; refine wpList_laidG 33 10 176 info33 DL HDL.out.1 HDL.out.2.1 6 (.tmp 18) _ _ rfl rfl rfl rfl rfl rfl rfl rfl ?_; intro W4 hW4 hB4 hs4)
    | fail)
  obtain ⟨Z, hZ⟩ : ∃ Z, Z = W4.heap.size := ⟨_, rfl⟩
  have HZ0 : Hid (w.heap.size + 1 < Z ∧ g5 < Z ∧ U5.heap.size < Z) := by
    have h1 := HU5.out
    refine ⟨by omega, by omega, by omega⟩
  have HKA : Hid (KA w g5 U5.heap.size Z AL BL CL DL W4 W4) := ⟨(HU5.out.1.step hB4).1, (HU5.out.1.step hB4).2.1, (hB4.block _ HU5.out.2.2.2.1).trans HU5.out.2.1, hW4, Below.refl _ _, (HU5.out.1.step hB4).2.2.2, by omega⟩
  have kc : ∀ V, KA w g5 U5.heap.size Z AL BL CL DL W4 V → LkW V Z pc fc ic qc rc lc L ∧ LkW V Z pd fd id qd rd ld M ∧ Z ≤ V.heap.size ∧ LkW V X pv fv iv qv rv lv L ∧ LkW V Y pv' fv' iv' qv' rv' lv' M ∧ X ≤ V.heap.size ∧ Y ≤ V.heap.size := fun V hV => ⟨(HU5.out.2.2.1.keep (X' := Z) (by omega) hB4).keep (Nat.le_refl _) hV.z, (HDL.out.2.2.2.keep (X' := Z) (by omega) hB4).keep (Nat.le_refl _) hV.z, hV.le, (HK1.out.1 V hV.bel).1, (HK1.out.2 V hV.bel).1, (HK1.out.1 V hV.bel).2, (HK1.out.2 V hV.bel).2⟩
  have HLN : Hid (AL.length = 10 ∧ BL.length = 10 ∧ CL.length = 10 ∧ DL.length = 10 ∧ True) := ⟨HAB.out.1, HAB.out.2.1, HCL2.out.1, HDL.out.1, trivial⟩
  have HEQ : Hid (AL = lkL L.tramp pv fv iv qv rv lv L.ticks L.next L.free ∧ BL = lkL M.tramp pv' fv' iv' qv' rv' lv' M.ticks M.next M.free ∧ CL = lkL L.tramp pc fc ic qc rc lc L.ticks L.next L.free ∧ DL = lkL M.tramp pd fd id qd rd ld M.ticks M.next M.free) := ⟨HAB.out.2.2.1, HAB.out.2.2.2, HCL2.out.2, HDL.out.2.2.1⟩
  have HKC : Hid (∀ V, KA w g5 U5.heap.size Z AL BL CL DL W4 V → LkW V Z pc fc ic qc rc lc L ∧ LkW V Z pd fd id qd rd ld M ∧ Z ≤ V.heap.size ∧ LkW V X pv fv iv qv rv lv L ∧ LkW V Y pv' fv' iv' qv' rv' lv' M ∧ X ≤ V.heap.size ∧ Y ≤ V.heap.size) := kc
  clear kc hZ hW4 hB4 hs4 HU5 HDL HCL2 HAB HTB
  generalize U5.heap.size = g6 at *
  have HZ : Hid (w.heap.size + 1 < Z ∧ g5 < Z ∧ g6 < Z) := HZ0
  clear HZ0
  obtain ⟨a1, ha1⟩ : ∃ a, a = alk L M := ⟨_, rfl⟩
  obtain ⟨a2, ha2⟩ : ∃ a, a = alk M L := ⟨_, rfl⟩
  have C17 : Hid (∀ V, KA w g5 g6 Z AL BL CL DL W4 V → Calls Try.prog 17 #[.agg CL.toArray, .agg DL.toArray] V fun e w' => e = .returned (.bool a1) ∧ Below V.heap.size V w') := fun V hV => by rw [HEQ.out.2.2.1, HEQ.out.2.2.2, ha1]; exact alike17_any _ _ (HKC.out V hV).1 (HKC.out V hV).2.1 (HKC.out V hV).2.2.1 (HKC.out V hV).2.2.1 HSM.out.1.cb HSM.out.2.cb
  have C18 : Hid (∀ V, KA w g5 g6 Z AL BL CL DL W4 V → Calls Try.prog 18 #[.agg AL.toArray, .agg BL.toArray] V fun e w' => e = .returned (.bool a1) ∧ Below V.heap.size V w') := fun V hV => by rw [HEQ.out.1, HEQ.out.2.1, ha1]; exact alike18_any _ _ (HKC.out V hV).2.2.2.1 (HKC.out V hV).2.2.2.2.1 (HKC.out V hV).2.2.2.2.2.1 (HKC.out V hV).2.2.2.2.2.2 HSM.out.1.cb HSM.out.2.cb
  have C17b : Hid (∀ V, KA w g5 g6 Z AL BL CL DL W4 V → Calls Try.prog 17 #[.agg DL.toArray, .agg CL.toArray] V fun e w' => e = .returned (.bool a2) ∧ Below V.heap.size V w') := fun V hV => by rw [HEQ.out.2.2.1, HEQ.out.2.2.2, ha2]; exact alike17_any _ _ (HKC.out V hV).2.1 (HKC.out V hV).1 (HKC.out V hV).2.2.1 (HKC.out V hV).2.2.1 HSM.out.2.cb HSM.out.1.cb
  have C18b : Hid (∀ V, KA w g5 g6 Z AL BL CL DL W4 V → Calls Try.prog 18 #[.agg BL.toArray, .agg AL.toArray] V fun e w' => e = .returned (.bool a2) ∧ Below V.heap.size V w') := fun V hV => by rw [HEQ.out.1, HEQ.out.2.1, ha2]; exact alike18_any _ _ (HKC.out V hV).2.2.2.2.1 (HKC.out V hV).2.2.2.1 (HKC.out V hV).2.2.2.2.2.2 (HKC.out V hV).2.2.2.2.2.1 HSM.out.2.cb HSM.out.1.cb
  have CT : Hid (∀ V, KA w g5 g6 Z AL BL CL DL W4 V → Calls Try.prog 12 #[.agg AL.toArray] V fun e w'' => ∃ pv' fv' iv' qv' rv' lv', e = .returned (.agg (lkL L.tramp pv' fv' iv' qv' rv' lv' L.ticks L.next L.free).toArray) ∧ LkW w'' w''.heap.size pv' fv' iv' qv' rv' lv' L ∧ Below V.heap.size V w'') := fun V hV => HTA.out V hV.bel
  have C17c : Hid (∀ V, KA w g5 g6 Z AL BL CL DL W4 V → ∀ pe fe ie qe re le EL, (LkW V V.heap.size pe fe ie qe re le L ∧ EL = lkL L.tramp pe fe ie qe re le L.ticks L.next L.free) → Calls Try.prog 17 #[.agg CL.toArray, .agg EL.toArray] V fun e w' => e = .returned (.bool true) ∧ Below V.heap.size V w') := fun V hV pe fe ie qe re le EL hE => by rw [HEQ.out.2.2.1, hE.2, show true = alk L L from (alk_refl L).symm]; exact alike17_any _ _ (HKC.out V hV).1 hE.1 (HKC.out V hV).2.2.1 (Nat.le_refl _) HSM.out.1.cb HSM.out.1.cb
  have CSa : Hid (∀ V, KA w g5 g6 Z AL BL CL DL W4 V → Calls Try.prog 19 #[.agg CL.toArray, .agg AL.toArray] V fun e w' => e = .returned (.bool true) ∧ Below V.heap.size V w') := fun V hV => by
    rw [HEQ.out.2.2.1, HEQ.out.1]
    have c := HSM.out.1.cb
    exact same_eq (HKC.out V hV).1 (HKC.out V hV).2.2.2.1 (HKC.out V hV).2.2.1 (HKC.out V hV).2.2.2.2.2.1 c.r c.l c.pg c.qb ⟨c.p, c.f, c.i, c.q⟩ (by have h1 := allL_len L []; have h2 := HFL.out; simp only [List.length_nil] at h1; omega)
  have CSb : Hid (∀ V, KA w g5 g6 Z AL BL CL DL W4 V → Calls Try.prog 19 #[.agg DL.toArray, .agg BL.toArray] V fun e w' => e = .returned (.bool true) ∧ Below V.heap.size V w') := fun V hV => by
    rw [HEQ.out.2.2.2, HEQ.out.2.1]
    have c := HSM.out.2.cb
    exact same_eq (HKC.out V hV).2.1 (HKC.out V hV).2.2.2.2.1 (HKC.out V hV).2.2.1 (HKC.out V hV).2.2.2.2.2.2 c.r c.l c.pg c.qb ⟨c.p, c.f, c.i, c.q⟩ (by have h1 := allL_len M []; have h2 := HFM.out; simp only [List.length_nil] at h1; omega)
  clear ha1 ha2 HEQ HKC HTA HFA HFB HK1 HSM HFL HFM
  have HD0 : Hid (KA w g5 g6 Z AL BL CL DL W4 W4.drew) := HKA.out.top (Below.refl _ _).drew HZ.out
  clear HKA
  refine region_set (fun V => V.rangeAt w.heap.size 0 AL ∧ V.rangeAt (w.heap.size + 1) 0 BL ∧ V.rangeAt g5 0 CL ∧ V.rangeAt g6 0 DL) 14 [] (by kernel_rfl) ?_
  generalize W4.drew = WD at *
  have HD : Hid (KA w g5 g6 Z AL BL CL DL W4 WD) := HD0
  have hS : (fun V : World => V.rangeAt w.heap.size 0 AL ∧ V.rangeAt (w.heap.size + 1) 0 BL ∧ V.rangeAt g5 0 CL ∧ V.rangeAt g6 0 DL) WD := HD.out.rg
  clear HD0
  refine set_take (i := 0) (v := .agg (CL).toArray) rfl (by kernel_rfl) (by kernel_rfl) (by kernel_rfl) (by kernel_rfl) (fun _ _ _ h => h) (yieldsIf_load_mid (by rfl) 33 (.tmp 5) rfl (g5) (0) rfl (CL) _ (fun ww hSw => hSw.2.2.1) Try.underlying33 rfl (by rw [HLN.out.2.2.1]; kernel_rfl)) hS ?_
  simp only [Act.put, List.setIfInBounds_toArray, List.set_cons_zero, List.set_cons_succ, List.getElem_toArray, List.getElem_cons_succ, List.getElem_cons_zero]
  refine set_take (i := 1) (v := .agg (DL).toArray) rfl (by kernel_rfl) (by kernel_rfl) (by kernel_rfl) (by kernel_rfl) (fun _ _ _ h => h) (yieldsIf_load_mid (by rfl) 33 (.tmp 6) rfl (g6) (0) rfl (DL) _ (fun ww hSw => hSw.2.2.2) Try.underlying33 rfl (by rw [HLN.out.2.2.2.1]; kernel_rfl)) hS ?_
  simp only [Act.put, List.setIfInBounds_toArray, List.set_cons_zero, List.set_cons_succ, List.getElem_toArray, List.getElem_cons_succ, List.getElem_cons_zero]
  refine set_take (i := 3) (v := .agg (AL).toArray) rfl (by kernel_rfl) (by kernel_rfl) (by kernel_rfl) (by kernel_rfl) (fun _ _ _ h => h) (yieldsIf_load_mid (by rfl) 33 (.tmp 2) rfl (w.heap.size) (0) rfl (AL) _ (fun ww hSw => hSw.1) Try.underlying33 rfl (by rw [HLN.out.1]; kernel_rfl)) hS ?_
  simp only [Act.put, List.setIfInBounds_toArray, List.set_cons_zero, List.set_cons_succ, List.getElem_toArray, List.getElem_cons_succ, List.getElem_cons_zero]
  refine set_take (i := 4) (v := .agg (BL).toArray) rfl (by kernel_rfl) (by kernel_rfl) (by kernel_rfl) (by kernel_rfl) (fun _ _ _ h => h) (yieldsIf_load_mid (by rfl) 33 (.tmp 3) rfl (w.heap.size + 1) (0) rfl (BL) _ (fun ww hSw => hSw.2.1) Try.underlying33 rfl (by rw [HLN.out.2.1]; kernel_rfl)) hS ?_
  simp only [Act.put, List.setIfInBounds_toArray, List.set_cons_zero, List.set_cons_succ, List.getElem_toArray, List.getElem_cons_succ, List.getElem_cons_zero]
  refine set_only (i := 2) (by kernel_rfl) rfl (by rfl) (fun K hK => ?_)
  go_simp
  go_at_call 17
  refine (C17.out _ HD.out).mono ?_
  rintro e V1 ⟨rfl, q1⟩
  have HV1 : Hid (KA w g5 g6 Z AL BL CL DL W4 V1) := HD.out.top q1 HZ.out
  have hT1 : (fun V : World => V.rangeAt w.heap.size 0 AL ∧ V.rangeAt (w.heap.size + 1) 0 BL ∧ V.rangeAt g5 0 CL ∧ V.rangeAt g6 0 DL) V1 := HV1.out.rg
  clear hS HD q1
  refine hK.out _ _ (fun _ => hT1) ?_
  clear hK K
  try simp only [Act.put, List.setIfInBounds_toArray, List.set_cons_zero, List.set_cons_succ, List.getElem_toArray, List.getElem_cons_succ, List.getElem_cons_zero]
  refine set_only (i := 5) (by kernel_rfl) rfl (by rfl) (fun K hK => ?_)
  go_simp
  go_at_call 18
  refine (C18.out _ HV1.out).mono ?_
  rintro e V2 ⟨rfl, q2⟩
  have HV2 : Hid (KA w g5 g6 Z AL BL CL DL W4 V2) := HV1.out.top q2 HZ.out
  have hT2 : (fun V : World => V.rangeAt w.heap.size 0 AL ∧ V.rangeAt (w.heap.size + 1) 0 BL ∧ V.rangeAt g5 0 CL ∧ V.rangeAt g6 0 DL) V2 := HV2.out.rg
  clear hT1 HV1 q2
  refine hK.out _ _ (fun _ => hT2) ?_
  clear hK K
  try simp only [Act.put, List.setIfInBounds_toArray, List.set_cons_zero, List.set_cons_succ, List.getElem_toArray, List.getElem_cons_succ, List.getElem_cons_zero]
  refine set_take (i := 6) (v := .bool false) rfl (by kernel_rfl) (by kernel_rfl) (by kernel_rfl) (by kernel_rfl) (fun _ _ _ h => h) (Or.inl ⟨by rfl, fun ww hSw => by go_simp⟩) hT2 ?_
  simp only [Act.put, List.setIfInBounds_toArray, List.set_cons_zero, List.set_cons_succ, List.getElem_toArray, List.getElem_cons_succ, List.getElem_cons_zero]
  refine set_take (i := 7) (v := .bool false) rfl (by kernel_rfl) (by kernel_rfl) (by kernel_rfl) (by kernel_rfl) (fun _ _ _ h => h) (Or.inl ⟨by rfl, fun ww hSw => by go_simp⟩) hT2 ?_
  simp only [Act.put, List.setIfInBounds_toArray, List.set_cons_zero, List.set_cons_succ, List.getElem_toArray, List.getElem_cons_succ, List.getElem_cons_zero]
  refine set_take (i := 8) (v := .agg (DL).toArray) rfl (by kernel_rfl) (by kernel_rfl) (by kernel_rfl) (by kernel_rfl) (fun _ _ _ h => h) (yieldsIf_load_mid (by rfl) 33 (.tmp 6) rfl (g6) (0) rfl (DL) _ (fun ww hSw => hSw.2.2.2) Try.underlying33 rfl (by rw [HLN.out.2.2.2.1]; kernel_rfl)) hT2 ?_
  simp only [Act.put, List.setIfInBounds_toArray, List.set_cons_zero, List.set_cons_succ, List.getElem_toArray, List.getElem_cons_succ, List.getElem_cons_zero]
  refine set_take (i := 9) (v := .agg (CL).toArray) rfl (by kernel_rfl) (by kernel_rfl) (by kernel_rfl) (by kernel_rfl) (fun _ _ _ h => h) (yieldsIf_load_mid (by rfl) 33 (.tmp 5) rfl (g5) (0) rfl (CL) _ (fun ww hSw => hSw.2.2.1) Try.underlying33 rfl (by rw [HLN.out.2.2.1]; kernel_rfl)) hT2 ?_
  simp only [Act.put, List.setIfInBounds_toArray, List.set_cons_zero, List.set_cons_succ, List.getElem_toArray, List.getElem_cons_succ, List.getElem_cons_zero]
  refine set_take (i := 11) (v := .agg (BL).toArray) rfl (by kernel_rfl) (by kernel_rfl) (by kernel_rfl) (by kernel_rfl) (fun _ _ _ h => h) (yieldsIf_load_mid (by rfl) 33 (.tmp 3) rfl (w.heap.size + 1) (0) rfl (BL) _ (fun ww hSw => hSw.2.1) Try.underlying33 rfl (by rw [HLN.out.2.1]; kernel_rfl)) hT2 ?_
  simp only [Act.put, List.setIfInBounds_toArray, List.set_cons_zero, List.set_cons_succ, List.getElem_toArray, List.getElem_cons_succ, List.getElem_cons_zero]
  refine set_take (i := 12) (v := .agg (AL).toArray) rfl (by kernel_rfl) (by kernel_rfl) (by kernel_rfl) (by kernel_rfl) (fun _ _ _ h => h) (yieldsIf_load_mid (by rfl) 33 (.tmp 2) rfl (w.heap.size) (0) rfl (AL) _ (fun ww hSw => hSw.1) Try.underlying33 rfl (by rw [HLN.out.1]; kernel_rfl)) hT2 ?_
  simp only [Act.put, List.setIfInBounds_toArray, List.set_cons_zero, List.set_cons_succ, List.getElem_toArray, List.getElem_cons_succ, List.getElem_cons_zero]
  refine set_only (i := 10) (by kernel_rfl) rfl (by rfl) (fun K hK => ?_)
  go_simp
  go_at_call 17
  refine (C17b.out _ HV2.out).mono ?_
  rintro e V3 ⟨rfl, q3⟩
  have HV3 : Hid (KA w g5 g6 Z AL BL CL DL W4 V3) := HV2.out.top q3 HZ.out
  have hT3 : (fun V : World => V.rangeAt w.heap.size 0 AL ∧ V.rangeAt (w.heap.size + 1) 0 BL ∧ V.rangeAt g5 0 CL ∧ V.rangeAt g6 0 DL) V3 := HV3.out.rg
  clear hT2 HV2 q3
  refine hK.out _ _ (fun _ => hT3) ?_
  clear hK K
  try simp only [Act.put, List.setIfInBounds_toArray, List.set_cons_zero, List.set_cons_succ, List.getElem_toArray, List.getElem_cons_succ, List.getElem_cons_zero]
  refine set_only (i := 13) (by kernel_rfl) rfl (by rfl) (fun K hK => ?_)
  go_simp
  go_at_call 18
  refine (C18b.out _ HV3.out).mono ?_
  rintro e V4 ⟨rfl, q4⟩
  have HV4 : Hid (KA w g5 g6 Z AL BL CL DL W4 V4) := HV3.out.top q4 HZ.out
  have hT4 : (fun V : World => V.rangeAt w.heap.size 0 AL ∧ V.rangeAt (w.heap.size + 1) 0 BL ∧ V.rangeAt g5 0 CL ∧ V.rangeAt g6 0 DL) V4 := HV4.out.rg
  clear hT3 HV3 q4
  refine hK.out _ _ (fun _ => hT4) ?_
  clear hK K
  try simp only [Act.put, List.setIfInBounds_toArray, List.set_cons_zero, List.set_cons_succ, List.getElem_toArray, List.getElem_cons_succ, List.getElem_cons_zero]
  refine set_tail 2 14 _ _ _ _ (by kernel_rfl) (by decide) ?_
  simp only [List.toList_toArray, List.drop_succ_cons, List.drop_zero]
  clear hT4
  go_upto_region 7 with fail
  have HE0 : Hid (KA w g5 g6 Z AL BL CL DL W4 V4.drew) := HV4.out.top (Below.refl _ _).drew HZ.out
  clear HV4
  refine region_set (fun V => V.rangeAt w.heap.size 0 AL ∧ V.rangeAt (w.heap.size + 1) 0 BL ∧ V.rangeAt g5 0 CL ∧ V.rangeAt g6 0 DL) 14 [] (by kernel_rfl) ?_
  generalize V4.drew = WE at *
  have HE : Hid (KA w g5 g6 Z AL BL CL DL W4 WE) := HE0
  have hS : (fun V : World => V.rangeAt w.heap.size 0 AL ∧ V.rangeAt (w.heap.size + 1) 0 BL ∧ V.rangeAt g5 0 CL ∧ V.rangeAt g6 0 DL) WE := HE.out.rg
  clear HE0
  refine set_take (i := 0) (v := .agg (CL).toArray) rfl (by kernel_rfl) (by kernel_rfl) (by kernel_rfl) (by kernel_rfl) (fun _ _ _ h => h) (yieldsIf_load_mid (by rfl) 33 (.tmp 5) rfl (g5) (0) rfl (CL) _ (fun ww hSw => hSw.2.2.1) Try.underlying33 rfl (by rw [HLN.out.2.2.1]; kernel_rfl)) hS ?_
  simp only [Act.put, List.setIfInBounds_toArray, List.set_cons_zero, List.set_cons_succ, List.getElem_toArray, List.getElem_cons_succ, List.getElem_cons_zero]
  refine set_take (i := 1) (v := .agg (AL).toArray) rfl (by kernel_rfl) (by kernel_rfl) (by kernel_rfl) (by kernel_rfl) (fun _ _ _ h => h) (yieldsIf_load_mid (by rfl) 33 (.tmp 2) rfl (w.heap.size) (0) rfl (AL) _ (fun ww hSw => hSw.1) Try.underlying33 rfl (by rw [HLN.out.1]; kernel_rfl)) hS ?_
  simp only [Act.put, List.setIfInBounds_toArray, List.set_cons_zero, List.set_cons_succ, List.getElem_toArray, List.getElem_cons_succ, List.getElem_cons_zero]
  refine set_only (i := 2) (by kernel_rfl) rfl (by rfl) (fun K hK => ?_)
  go_simp
  go_at_call 12
  refine (CT.out _ HE.out).mono ?_
  rintro e V5 ⟨pe, fe, ie, qe, re, le, rfl, lE, q5⟩
  have HV5 : Hid (KA w g5 g6 Z AL BL CL DL W4 V5) := HE.out.top q5 HZ.out
  have hT5 : (fun V : World => V.rangeAt w.heap.size 0 AL ∧ V.rangeAt (w.heap.size + 1) 0 BL ∧ V.rangeAt g5 0 CL ∧ V.rangeAt g6 0 DL) V5 := HV5.out.rg
  clear hS HE q5
  obtain ⟨EL, hEL⟩ : ∃ EL, EL = lkL L.tramp pe fe ie qe re le L.ticks L.next L.free := ⟨_, rfl⟩
  rw [← hEL]
  have HEL : Hid (LkW V5 V5.heap.size pe fe ie qe re le L ∧ EL = lkL L.tramp pe fe ie qe re le L.ticks L.next L.free) := ⟨lE, hEL⟩
  clear lE hEL
  refine hK.out _ _ (fun _ => hT5) ?_
  clear hK K
  try simp only [Act.put, List.setIfInBounds_toArray, List.set_cons_zero, List.set_cons_succ, List.getElem_toArray, List.getElem_cons_succ, List.getElem_cons_zero]
  refine set_only (i := 3) (by kernel_rfl) rfl (by rfl) (fun K hK => ?_)
  go_simp
  go_at_call 17
  refine (C17c.out _ HV5.out pe fe ie qe re le EL HEL.out).mono ?_
  rintro e V6 ⟨rfl, q6⟩
  have HV6 : Hid (KA w g5 g6 Z AL BL CL DL W4 V6) := HV5.out.top q6 HZ.out
  have hT6 : (fun V : World => V.rangeAt w.heap.size 0 AL ∧ V.rangeAt (w.heap.size + 1) 0 BL ∧ V.rangeAt g5 0 CL ∧ V.rangeAt g6 0 DL) V6 := HV6.out.rg
  clear hT5 HV5 q6 HEL
  refine hK.out _ _ (fun _ => hT6) ?_
  clear hK K
  try simp only [Act.put, List.setIfInBounds_toArray, List.set_cons_zero, List.set_cons_succ, List.getElem_toArray, List.getElem_cons_succ, List.getElem_cons_zero]
  refine set_take (i := 4) (v := .bool true) rfl (by kernel_rfl) (by kernel_rfl) (by kernel_rfl) (by kernel_rfl) (fun _ _ _ h => h) (Or.inl ⟨by rfl, fun ww hSw => by go_simp⟩) hT6 ?_
  simp only [Act.put, List.setIfInBounds_toArray, List.set_cons_zero, List.set_cons_succ, List.getElem_toArray, List.getElem_cons_succ, List.getElem_cons_zero]
  refine set_take (i := 5) (v := .agg (CL).toArray) rfl (by kernel_rfl) (by kernel_rfl) (by kernel_rfl) (by kernel_rfl) (fun _ _ _ h => h) (yieldsIf_load_mid (by rfl) 33 (.tmp 5) rfl (g5) (0) rfl (CL) _ (fun ww hSw => hSw.2.2.1) Try.underlying33 rfl (by rw [HLN.out.2.2.1]; kernel_rfl)) hT6 ?_
  simp only [Act.put, List.setIfInBounds_toArray, List.set_cons_zero, List.set_cons_succ, List.getElem_toArray, List.getElem_cons_succ, List.getElem_cons_zero]
  refine set_take (i := 6) (v := .agg (AL).toArray) rfl (by kernel_rfl) (by kernel_rfl) (by kernel_rfl) (by kernel_rfl) (fun _ _ _ h => h) (yieldsIf_load_mid (by rfl) 33 (.tmp 2) rfl (w.heap.size) (0) rfl (AL) _ (fun ww hSw => hSw.1) Try.underlying33 rfl (by rw [HLN.out.1]; kernel_rfl)) hT6 ?_
  simp only [Act.put, List.setIfInBounds_toArray, List.set_cons_zero, List.set_cons_succ, List.getElem_toArray, List.getElem_cons_succ, List.getElem_cons_zero]
  refine set_only (i := 7) (by kernel_rfl) rfl (by rfl) (fun K hK => ?_)
  go_simp
  go_at_call 19
  refine (CSa.out _ HV6.out).mono ?_
  rintro e V7 ⟨rfl, q7⟩
  have HV7 : Hid (KA w g5 g6 Z AL BL CL DL W4 V7) := HV6.out.top q7 HZ.out
  have hT7 : (fun V : World => V.rangeAt w.heap.size 0 AL ∧ V.rangeAt (w.heap.size + 1) 0 BL ∧ V.rangeAt g5 0 CL ∧ V.rangeAt g6 0 DL) V7 := HV7.out.rg
  clear hT6 HV6 q7
  refine hK.out _ _ (fun _ => hT7) ?_
  clear hK K
  try simp only [Act.put, List.setIfInBounds_toArray, List.set_cons_zero, List.set_cons_succ, List.getElem_toArray, List.getElem_cons_succ, List.getElem_cons_zero]
  refine set_take (i := 8) (v := .bool true) rfl (by kernel_rfl) (by kernel_rfl) (by kernel_rfl) (by kernel_rfl) (fun _ _ _ h => h) (Or.inl ⟨by rfl, fun ww hSw => by go_simp⟩) hT7 ?_
  simp only [Act.put, List.setIfInBounds_toArray, List.set_cons_zero, List.set_cons_succ, List.getElem_toArray, List.getElem_cons_succ, List.getElem_cons_zero]
  refine set_take (i := 9) (v := .bool true) rfl (by kernel_rfl) (by kernel_rfl) (by kernel_rfl) (by kernel_rfl) (fun _ _ _ h => h) (Or.inl ⟨by rfl, fun ww hSw => by go_simp⟩) hT7 ?_
  simp only [Act.put, List.setIfInBounds_toArray, List.set_cons_zero, List.set_cons_succ, List.getElem_toArray, List.getElem_cons_succ, List.getElem_cons_zero]
  refine set_take (i := 10) (v := .agg (DL).toArray) rfl (by kernel_rfl) (by kernel_rfl) (by kernel_rfl) (by kernel_rfl) (fun _ _ _ h => h) (yieldsIf_load_mid (by rfl) 33 (.tmp 6) rfl (g6) (0) rfl (DL) _ (fun ww hSw => hSw.2.2.2) Try.underlying33 rfl (by rw [HLN.out.2.2.2.1]; kernel_rfl)) hT7 ?_
  simp only [Act.put, List.setIfInBounds_toArray, List.set_cons_zero, List.set_cons_succ, List.getElem_toArray, List.getElem_cons_succ, List.getElem_cons_zero]
  refine set_take (i := 11) (v := .agg (BL).toArray) rfl (by kernel_rfl) (by kernel_rfl) (by kernel_rfl) (by kernel_rfl) (fun _ _ _ h => h) (yieldsIf_load_mid (by rfl) 33 (.tmp 3) rfl (w.heap.size + 1) (0) rfl (BL) _ (fun ww hSw => hSw.2.1) Try.underlying33 rfl (by rw [HLN.out.2.1]; kernel_rfl)) hT7 ?_
  simp only [Act.put, List.setIfInBounds_toArray, List.set_cons_zero, List.set_cons_succ, List.getElem_toArray, List.getElem_cons_succ, List.getElem_cons_zero]
  refine set_only (i := 12) (by kernel_rfl) rfl (by rfl) (fun K hK => ?_)
  go_simp
  go_at_call 19
  refine (CSb.out _ HV7.out).mono ?_
  rintro e V8 ⟨rfl, q8⟩
  have HV8 : Hid (KA w g5 g6 Z AL BL CL DL W4 V8) := HV7.out.top q8 HZ.out
  have hT8 : (fun V : World => V.rangeAt w.heap.size 0 AL ∧ V.rangeAt (w.heap.size + 1) 0 BL ∧ V.rangeAt g5 0 CL ∧ V.rangeAt g6 0 DL) V8 := HV8.out.rg
  clear hT7 HV7 q8
  refine hK.out _ _ (fun _ => hT8) ?_
  clear hK K
  try simp only [Act.put, List.setIfInBounds_toArray, List.set_cons_zero, List.set_cons_succ, List.getElem_toArray, List.getElem_cons_succ, List.getElem_cons_zero]
  refine set_take (i := 13) (v := .bool true) rfl (by kernel_rfl) (by kernel_rfl) (by kernel_rfl) (by kernel_rfl) (fun _ _ _ h => h) (Or.inl ⟨by rfl, fun ww hSw => by go_simp⟩) hT8 ?_
  simp only [Act.put, List.setIfInBounds_toArray, List.set_cons_zero, List.set_cons_succ, List.getElem_toArray, List.getElem_cons_succ, List.getElem_cons_zero]
  refine set_tail 1 14 _ _ _ _ (by kernel_rfl) (by decide) ?_
  simp only [List.toList_toArray, List.drop_succ_cons, List.drop_zero]
  clear hT8
  go_wp2
  go_ret
  exact ⟨rfl, HV8.out.bel⟩
end Go.Proofs.Ythopgmmodldljaa
