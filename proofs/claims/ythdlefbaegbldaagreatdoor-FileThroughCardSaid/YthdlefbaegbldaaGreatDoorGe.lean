import Derived.Test.YthdlefbaegbldaaGreatDoorGb
import Derived.Deep.DeepCutAuto
import Derived.Deep.CutBlock
import Derived.Lib.SlBytesConst
namespace Go.Proofs.YthdlefbaegbldaaGreatDoor
open Go.RowKit
set_option linter.unusedVariables false
set_option linter.unusedSimpArgs false
set_option maxRecDepth 100000
attribute [local go_sem] eqC neC guardC
theorem le_one (W : World) (x : Int) (ty : TypeId) : (W.alloc (.cells #[.int .u8 x] ty)).cell? ⟨W.heap.size, 0, .none⟩ = some (.int .u8 x) := by
  rw [World.cell?_alloc_at _ _ _ _ rfl]; rfl
/-- What a write told, in a box. -/
structure G6 (w : World) (z : Nat) (a0 : Int) (pn : Nat) (a3 a4 : Int) (v : Value) : Prop where
  c0 : w.cell? ⟨z, 0, .none⟩ = some (.int .i64 a0)
  c1 : w.cell? ⟨z, 1, .none⟩ = some (.int .i64 pn)
  c3 : w.cell? ⟨z, 3, .none⟩ = some (.int .i64 a3)
  c4 : w.cell? ⟨z, 4, .none⟩ = some (.int .i64 a4)
  c5 : w.cell? ⟨z, 5, .none⟩ = some v
theorem G6.new (w : World) (a0 : Int) (pn : Nat) (a3 a4 : Int) (v : Value) : G6 (w.alloc (.cells #[.int .i64 a0, .int .i64 pn, .slice none 0 0, .int .i64 a3, .int .i64 a4, v] 40)) w.heap.size a0 pn a3 a4 v :=
  ⟨by rw [World.cell?_alloc_at _ _ _ _ rfl]; rfl, by rw [World.cell?_alloc_at _ _ _ _ rfl]; rfl, by rw [World.cell?_alloc_at _ _ _ _ rfl]; rfl, by rw [World.cell?_alloc_at _ _ _ _ rfl]; rfl, by rw [World.cell?_alloc_at _ _ _ _ rfl]; rfl⟩
theorem G6.keep {w w' : World} {z : Nat} {a0 : Int} {pn : Nat} {a3 a4 : Int} {v : Value} (h : G6 w z a0 pn a3 a4 v) (hb : w'.heap[z]? = w.heap[z]?) : G6 w' z a0 pn a3 a4 v :=
  ⟨(World.cell?_of_block hb).trans h.c0, (World.cell?_of_block hb).trans h.c1, (World.cell?_of_block hb).trans h.c3, (World.cell?_of_block hb).trans h.c4, (World.cell?_of_block hb).trans h.c5⟩
theorem le_oneM (W : World) (x : Int) (ty : TypeId) (fr : Nat × Nat) : (W.alloc (.cells #[.int .u8 x] ty fr)).cell? ⟨W.heap.size, 0, .none⟩ = some (.int .u8 x) := by
  unfold World.cell?; rw [heap_new]; rfl
theorem below_drew' (w : World) : Below w.heap.size w w.drew := ⟨rfl, rfl, rfl, Nat.le_refl _, fun _ _ => rfl⟩
theorem below_drewN' (w : World) (k : Nat) : Below w.heap.size w (w.drewN k) := ⟨rfl, rfl, rfl, Nat.le_refl _, fun _ _ => rfl⟩
theorem fld7 (w : World) : (Instr.field 33 (.agg #[.int .i64 0, .int .i64 2, .int .i64 1, .bool true, .bool false, .int .i64 0, .int .i64 0, .int .i64 0]) 7).run Tryz.prog w = .ok (.int .i64 0) w := by kernel_rfl
set_option maxHeartbeats 8000000 in
set_option maxRecDepth 100000 in
theorem through_walk {w : World} (hD : Dd w) {q0 : Option Addr} {m c0 : Nat} {S : Nat → Option Addr} {L C : Nat → Nat} {Y : Nat → List Int} (hA : ArgW w q0 m c0 S L C Y) {q1 : Option Addr} {m1 c1 : Nat} {R : Nat → Int} (hR : ArgI w q1 m1 c1 R) (en : Bool) :
    Calls Tryz.prog 3 #[.slice q0 m c0, .slice q1 m1 c1, .bool en] w fun e w' => e = .returned (.bool true) ∧ Below w.heap.size w w' := by
  have HA : Hid (ArgW w q0 m c0 S L C Y) := hA
  have HR : Hid (ArgI w q1 m1 c1 R) := hR
  have hmc := hA.lc.1
  have hcm : c0 ≤ 9223372036854775807 := hA.lc.2
  have hmc1 := hR.lc.1
  have hcm1 : c1 ≤ 9223372036854775807 := hR.lc.2
  clear hA hR
  have cd := desk_any hD
  obtain ⟨i3, z3, hi3, hz3, hs3, hb3, hzs3⟩ := byte_info
  have HI : Hid (Tryz.prog.info? 5 = some i3 ∧ i3.zero = some z3 ∧ i3.size = 1 ∧ i3.bytes = 1 ∧ z3.cells.size = 1) := ⟨hi3, hz3, hs3, hb3, hzs3⟩
  clear hi3 hz3 hs3 hb3 hzs3
  go_enter Tryz.func3, Tryz.ntmps3
  go_wp2_with fail
  refine cd.mono ?_
  rintro e W1 ⟨tb, cb, s, fb, pb, l1, l2, l3, d1, d2, d3, rfl, hF, hT, hP, hb1⟩
  have cp := pipeF_any hF hT hP 0 1 0 (by omega) (by omega) (by omega) (fun i h1 h2 => by omega) rfl rfl (fun i h => by omega) rfl (by decide +kernel) (by decide +kernel) d1 d2 d3
  have hsl := hF.lt
  have hfl := hT.lt (by omega)
  have hpl := hP.lt (by omega)
  have hFH : Hid (Fls W1 s tb cb fb pb ∧ Below w.heap.size w W1) := ⟨hF, hb1⟩
  clear hF hT hP hb1 cd
  go_wp2_with fail
  refine cp.mono ?_
  rintro e W2 ⟨z1, z2, q, he, g1, g2, g3, n1, n2, n3, hT2, hP2, hL1, hL2, hp2, hC⟩
  obtain rfl : e = .returned (.tuple #[.int .i64 0, .int .i64 1, .int .i64 0]) := he
  obtain ⟨X, hX⟩ : ∃ X, X = W2.heap.size := ⟨_, rfl⟩
  have DS : Hid (Ds w.heap.size X s fb pb z1 z2 q) := by
    have a1 := hL1.lt
    have a2 := hL2.lt
    have a3 := hp2.lt
    have a4 := hC.size
    have a5 := hFH.out.2.size
    refine ⟨⟨by omega, by omega, by omega, by omega, by omega, by omega⟩, ⟨by omega, by omega, by omega, by omega, by omega, by omega⟩, ⟨by omega, by omega, by omega, by omega, by omega⟩, ⟨by omega, by omega, by omega, by omega⟩, ⟨by omega, by omega, by omega⟩, by omega, by omega, by omega⟩
  have H2 : Hid (Oh w W2 X s tb cb fb pb z1 z2 q (setF (setF (fun _ => none) 0 (some z1)) 1 (some z2)) [] true true [] [] (.slice none 0 0) (.slice none 0 0)) := by
    refine ⟨hFH.out.2.trans (hC.toBelow (fun i hi => by omega) hFH.out.2.size), by omega, ⟨hFH.out.1.keep (hC.block _ (by omega) (by omega)), hT2, hP2, fun _ => hL1, fun _ => hL2, 0, hp2⟩, World.ownsRow_nil _ _ _ _, World.ownsRow_nil _ _ _ _, (fun g h => by cases h)⟩
  clear hX hT2 hP2 hL1 hL2 hp2 hC hFH hsl hfl hpl g1 g2 g3 n1 n2 n3 d1 d2 d3 l1 l2 l3 cp
  have cl := lookF_some H2.out.mc.fls H2.out.mc.tf 0 (by omega) rfl (H2.out.mc.l1 rfl)
  go_wp2_with fail
  refine cl.mono ?_
  rintro e W3 ⟨rfl, hb⟩
  have H3 : Hid (Oh w W3 X s tb cb fb pb z1 z2 q (setF (setF (fun _ => none) 0 (some z1)) 1 (some z2)) [] true true [] [] (.slice none 0 0) (.slice none 0 0)) := H2.out.below DS.out hb
  clear H2 hb cl
  have hf7 := fld7 W3
  go_wp2
  clear hf7
  go_loopw [14, 15, 16] (fun pv tv i wr => ∃ K : Nat, K ≤ 60 ∧ K ≤ m ∧ i = .int .i64 K ∧ Hid (∃ xs PP T, PP.length ≤ 512 * K ∧ PP = T ++ xs ∧ Oh w wr X s tb cb fb pb z1 z2 q (setF (setF (fun _ => none) 0 (some z1)) 1 (some z2)) xs true true PP T pv tv)) (fun _ _ i _ => (60 - intOf i).toNat)
  case atStart => exact ⟨0, by omega, by omega, rfl, [], [], [], by simp, rfl, H3.out⟩
  case round =>
    obtain ⟨K, hK6, hKm, rfl, HM⟩ := hrel
    clear H3
    obtain ⟨xs, PP, T, hPl, hPT, hO⟩ := HM.out
    obtain ⟨pp, pc, rfl⟩ := one_slice hO.op
    obtain ⟨tp, tc, rfl⟩ := one_slice hO.ot
    have HP : Hid (Oh w wr X s tb cb fb pb z1 z2 q (setF (setF (fun _ => none) 0 (some z1)) 1 (some z2)) xs true true PP T (.slice pp PP.length pc) (.slice tp T.length tc)) := hO
    have HE : Hid (PP = T ++ xs) := hPT
    have hTP : T.length + xs.length = PP.length := by rw [hPT, List.length_append]
    have hxl := hO.mc.len.1
    clear HM hO hPT
    by_cases hlt : K < m ∧ K < 60
    · have g0 : (K : Int) < m := by omega
      have g1 : (K : Int) < 60 := by omega
      obtain ⟨ab, ao, hq, hab, hcell⟩ : ∃ b o, q0 = some ⟨b, o, .none⟩ ∧ b < w.heap.size ∧ ∀ i, i < m → w.cell? ⟨b, o + i, .none⟩ = some (.slice (S i) (L i) (C i)) := by
        rcases HA.out.at' with h | h
        · omega
        · exact h
      subst hq
      have HK : Hid (∀ V, Below w.heap.size w V → V.cell? ⟨ab, ao + K, .none⟩ = some (.slice (S K) (L K) (C K))) := fun V hV => (hV.cell (p := ⟨ab, _, .none⟩) hab).trans (hcell K hlt.1)
      have HB : Hid (Byt w (S K) (L K) (C K) (Y K) ∧ ∀ y ∈ Y K, 0 ≤ y ∧ y < 256) := ⟨HA.out.byt K hlt.1, HA.out.bd K hlt.1⟩
      clear hcell
      generalize S K = ds at *
      generalize L K = dl at *
      generalize C K = dc at *
      generalize Y K = ys at *
      have hyl : Hid (ys.length = dl) := HB.out.1.1
      have hdc := HB.out.1.2.1
      have hdm : dc ≤ 9223372036854775807 := HB.out.1.2.2.1
      have k0 := HK.out wr HP.out.bel
      by_cases h3 : 3000 < dl
      · have i3' : (3000 : Int) < dl := by omega
        go_wp2
        exact ⟨⟨K + 1, by omega, by omega, rfl, xs, PP, T, by omega, HE.out, HP.out⟩, by simp only [intOf]; omega⟩
      have i3' : ¬ ((3000 : Int) < dl) := by omega
      have cc := copyBytes_any (byt_below HB.out.1 HP.out.bel) (by omega)
      go_wp2_with fail
      refine cc.mono ?_
      rintro e V1 ⟨gp, gc, rfl, hO1, hb1⟩
      have H1 : Hid (Oh w V1 X s tb cb fb pb z1 z2 q (setF (setF (fun _ => none) 0 (some z1)) 1 (some z2)) xs true true PP T (.slice pp PP.length pc) (.slice tp T.length tc)) := HP.out.below DS.out hb1
      have cw := mc_write H1.out.mc rfl DS.out H1.out.hX2 (byt_own hO1) (fun _ a ha e => by
        obtain ⟨b, o, sp⟩ := a
        rcases hO1.2 with ⟨h, _⟩ | ⟨g, cap, cur, h, hg, _⟩
        · simp only [Value.slice.injEq] at h
          rw [h.1] at ha
          cases ha
        · simp only [Value.slice.injEq] at h
          rw [h.1] at ha
          simp only [Option.some.injEq, Addr.mk.injEq] at ha
          have := DS.out.h
          have := HP.out.hX2
          simp only at e
          omega) HB.out.2
      clear hO1 hb1 cc k0 HP
      go_wp2_with fail
      refine cw.mono ?_
      rintro e V2 ⟨v, rfl, hWr, hMc, hT⟩
      obtain ⟨a0, a3, a4, wp, wn, wq, rfl, hCh, hcase⟩ := hWr
      obtain ⟨pn, hpn⟩ : ∃ pn, pn = putN xs true ys := ⟨_, rfl⟩
      have hpl : pn ≤ dl ∧ pn + xs.length ≤ 512 := by
        have := hyl.out
        rw [hpn]
        unfold putN
        simp
        omega
      rw [← hpn] at hMc hCh hcase ⊢
      have H2 : Hid (Oh w V2 X s tb cb fb pb z1 z2 q (setF (setF (fun _ => none) 0 (some z1)) 1 (some z2)) (xs ++ ys.take pn) true true PP T (.slice pp PP.length pc) (.slice tp T.length tc)) := H1.out.trn DS.out hT hMc
      have HCh : Hid (Ch1 V2 V1.heap.size (.slice wp wn wq) (pn != 0) 4 0) := hCh
      have HCase : Hid ((a0 = 1 ∧ pn = dl) ∨ (a0 = 2 ∧ a3 = 5 ∧ a4 = 0 ∧ pn = 512 - xs.length ∧ pn < dl)) := by
        have := hyl.out
        rw [← this]
        exact hcase
      clear hpn hMc hT hCh hcase cw H1
      go_upto_region 15 with fail
      obtain ⟨V3, hV3⟩ : ∃ V3, V3 = V2.alloc (.cells #[.int .i64 a0, .int .i64 pn, .slice none 0 0, .int .i64 a3, .int .i64 a4, .slice wp wn wq] 40) := ⟨_, rfl⟩
      rw [← hV3]
      obtain ⟨xb, hxb⟩ : ∃ xb, xb = V2.heap.size := ⟨_, rfl⟩
      rw [← hxb]
      have H3 : Hid (Oh w V3 X s tb cb fb pb z1 z2 q (setF (setF (fun _ => none) 0 (some z1)) 1 (some z2)) (xs ++ ys.take pn) true true PP T (.slice pp PP.length pc) (.slice tp T.length tc) ∧ G6 V3 xb a0 pn a3 a4 (.slice wp wn wq) ∧ Ch1 V3 V1.heap.size (.slice wp wn wq) (pn != 0) 4 0 ∧ xb < V3.heap.size ∧ (∀ g, (Value.slice pp PP.length pc).ownBlock = some g → g < xb) ∧ (∀ g, (Value.slice tp T.length tc).ownBlock = some g → g < xb)) := by
        have hb := Trn.new V2 (.cells #[.int .i64 a0, .int .i64 pn, .slice none 0 0, .int .i64 a3, .int .i64 a4, .slice wp wn wq] 40)
        rw [hV3, hxb]
        exact ⟨H2.out.below DS.out hb, G6.new _ _ _ _ _ _, HCh.out.below hb, by simp, own_lt2 H2.out.op, own_lt2 H2.out.ot⟩
      clear hV3 H2 HCh hxb
      have x0 : V3.drew.cell? ⟨xb, 0, .none⟩ = some (.int .i64 a0) := H3.out.2.1.c0
      have x1 : V3.drew.cell? ⟨xb, 1, .none⟩ = some (.int .i64 pn) := H3.out.2.1.c1
      have k0 : V3.drew.cell? ⟨ab, ao + K, .none⟩ = some (.slice ds dl dc) := HK.out V3 H3.out.1.bel
      have j0 : V3.drew.cell? ⟨xb, 0, .none⟩ = some (.int .i64 a0) ∧ V3.drew.cell? ⟨xb, 1, .none⟩ = some (.int .i64 pn) ∧ V3.drew.cell? ⟨ab, ao + K, .none⟩ = some (.slice ds dl dc) := ⟨x0, x1, k0⟩
      clear x0 x1 k0
      obtain ⟨bb, hbb⟩ : ∃ bb : Bool, bb = decide (a0 = 1) := ⟨_, rfl⟩
      have e1 : (a0 == 1) = bb := by rw [hbb]; rfl
      have e2 : ((pn : Int) == (dl : Int)) = bb := by
        rw [hbb]
        rcases HCase.out with ⟨h1, h2⟩ | ⟨h1, _, _, _, h2⟩
        · simp [h1, h2]
        · simp only [h1]; have : ¬ ((pn : Int) = dl) := by omega
          simp [this]
      have e3 : (a0 == 3) = false := by
        rcases HCase.out with ⟨h1, h2⟩ | ⟨h1, _, _, _, h2⟩ <;> simp [h1]
      have e4 : ¬ ((pn : Int) < 0) := by omega
      have e5 : ¬ ((dl : Int) < pn) := by omega
      have e6 : (bb != bb) = false := by simp
      refine wp_region_held_drew (S := fun U => U.cell? ⟨xb, 0, .none⟩ = some (.int .i64 a0) ∧ U.cell? ⟨xb, 1, .none⟩ = some (.int .i64 pn) ∧ U.cell? ⟨ab, ao + K, .none⟩ = some (.slice ds dl dc)) (by kernel_rfl) j0 (fun hHeld => ?_)
      refine wpAnyH_take (i := 0) (v := (.pointer (some ⟨xb, 1, .none⟩))) rfl (by kernel_rfl) (by kernel_rfl) (by kernel_rfl) (fun _ _ _ h => h) (Or.inl ⟨by rfl, fun ww hSw => by (try dsimp only at hSw); go_simp⟩) (by assumption) ?_
      simp only [Act.put, List.setIfInBounds_toArray, List.set_cons_zero, List.set_cons_succ, List.getElem_toArray, List.getElem_cons_succ, List.getElem_cons_zero]
      refine wpAnyH_take (i := 1) (v := (.int .i64 pn)) rfl (by kernel_rfl) (by kernel_rfl) (by kernel_rfl) (fun _ _ _ h => h) (Or.inl ⟨by rfl, fun ww hSw => by (try dsimp only at hSw); go_simp⟩) (by assumption) ?_
      simp only [Act.put, List.setIfInBounds_toArray, List.set_cons_zero, List.set_cons_succ, List.getElem_toArray, List.getElem_cons_succ, List.getElem_cons_zero]
      refine wpAnyH_take (i := 2) (v := (.bool false)) rfl (by kernel_rfl) (by kernel_rfl) (by kernel_rfl) (fun _ _ _ h => h) (Or.inl ⟨by rfl, fun ww hSw => by (try dsimp only at hSw); go_simp⟩) (by assumption) ?_
      simp only [Act.put, List.setIfInBounds_toArray, List.set_cons_zero, List.set_cons_succ, List.getElem_toArray, List.getElem_cons_succ, List.getElem_cons_zero]
      refine wpAnyH_take (i := 3) (v := (.bool false)) rfl (by kernel_rfl) (by kernel_rfl) (by kernel_rfl) (fun _ _ _ h => h) (Or.inl ⟨by rfl, fun ww hSw => by (try dsimp only at hSw); go_simp⟩) (by assumption) ?_
      simp only [Act.put, List.setIfInBounds_toArray, List.set_cons_zero, List.set_cons_succ, List.getElem_toArray, List.getElem_cons_succ, List.getElem_cons_zero]
      refine wpAnyH_take (i := 4) (v := (.pointer (some ⟨xb, 1, .none⟩))) rfl (by kernel_rfl) (by kernel_rfl) (by kernel_rfl) (fun _ _ _ h => h) (Or.inl ⟨by rfl, fun ww hSw => by (try dsimp only at hSw); go_simp⟩) (by assumption) ?_
      simp only [Act.put, List.setIfInBounds_toArray, List.set_cons_zero, List.set_cons_succ, List.getElem_toArray, List.getElem_cons_succ, List.getElem_cons_zero]
      refine wpAnyH_take (i := 5) (v := (.int .i64 pn)) rfl (by kernel_rfl) (by kernel_rfl) (by kernel_rfl) (fun _ _ _ h => h) (Or.inl ⟨by rfl, fun ww hSw => by (try dsimp only at hSw); go_simp⟩) (by assumption) ?_
      simp only [Act.put, List.setIfInBounds_toArray, List.set_cons_zero, List.set_cons_succ, List.getElem_toArray, List.getElem_cons_succ, List.getElem_cons_zero]
      refine wpAnyH_take (i := 6) (v := (.slice (some ⟨ab, ao, .none⟩) m c0)) rfl (by kernel_rfl) (by kernel_rfl) (by kernel_rfl) (fun _ _ _ h => h) (Or.inl ⟨by rfl, fun ww hSw => by (try dsimp only at hSw); go_simp⟩) (by assumption) ?_
      simp only [Act.put, List.setIfInBounds_toArray, List.set_cons_zero, List.set_cons_succ, List.getElem_toArray, List.getElem_cons_succ, List.getElem_cons_zero]
      refine wpAnyH_take (i := 7) (v := (.int .i64 K)) rfl (by kernel_rfl) (by kernel_rfl) (by kernel_rfl) (fun _ _ _ h => h) (Or.inl ⟨by rfl, fun ww hSw => by (try dsimp only at hSw); go_simp⟩) (by assumption) ?_
      simp only [Act.put, List.setIfInBounds_toArray, List.set_cons_zero, List.set_cons_succ, List.getElem_toArray, List.getElem_cons_succ, List.getElem_cons_zero]
      refine wpAnyH_take (i := 8) (v := (.pointer (some ⟨ab, ao + K, .none⟩))) rfl (by kernel_rfl) (by kernel_rfl) (by kernel_rfl) (fun _ _ _ h => h) (Or.inl ⟨by rfl, fun ww hSw => by (try dsimp only at hSw); go_simp⟩) (by assumption) ?_
      simp only [Act.put, List.setIfInBounds_toArray, List.set_cons_zero, List.set_cons_succ, List.getElem_toArray, List.getElem_cons_succ, List.getElem_cons_zero]
      refine wpAnyH_take (i := 9) (v := (.slice ds dl dc)) rfl (by kernel_rfl) (by kernel_rfl) (by kernel_rfl) (fun _ _ _ h => h) (Or.inl ⟨by rfl, fun ww hSw => by (try dsimp only at hSw); go_simp⟩) (by assumption) ?_
      simp only [Act.put, List.setIfInBounds_toArray, List.set_cons_zero, List.set_cons_succ, List.getElem_toArray, List.getElem_cons_succ, List.getElem_cons_zero]
      refine wpAnyH_take (i := 10) (v := (.int .i64 dl)) rfl (by kernel_rfl) (by kernel_rfl) (by kernel_rfl) (fun _ _ _ h => h) (Or.inl ⟨by rfl, fun ww hSw => by (try dsimp only at hSw); go_simp⟩) (by assumption) ?_
      simp only [Act.put, List.setIfInBounds_toArray, List.set_cons_zero, List.set_cons_succ, List.getElem_toArray, List.getElem_cons_succ, List.getElem_cons_zero]
      refine wpAnyH_take (i := 11) (v := (.bool false)) rfl (by kernel_rfl) (by kernel_rfl) (by kernel_rfl) (fun _ _ _ h => h) (Or.inl ⟨by rfl, fun ww hSw => by (try dsimp only at hSw); go_simp⟩) (by assumption) ?_
      simp only [Act.put, List.setIfInBounds_toArray, List.set_cons_zero, List.set_cons_succ, List.getElem_toArray, List.getElem_cons_succ, List.getElem_cons_zero]
      refine wpAnyH_take (i := 12) (v := (.bool false)) rfl (by kernel_rfl) (by kernel_rfl) (by kernel_rfl) (fun _ _ _ h => h) (Or.inl ⟨by rfl, fun ww hSw => by (try dsimp only at hSw); go_simp⟩) (by assumption) ?_
      simp only [Act.put, List.setIfInBounds_toArray, List.set_cons_zero, List.set_cons_succ, List.getElem_toArray, List.getElem_cons_succ, List.getElem_cons_zero]
      refine wpAnyH_take (i := 13) (v := (.bool false)) rfl (by kernel_rfl) (by kernel_rfl) (by kernel_rfl) (fun _ _ _ h => h) (Or.inl ⟨by rfl, fun ww hSw => by (try dsimp only at hSw); go_simp⟩) (by assumption) ?_
      simp only [Act.put, List.setIfInBounds_toArray, List.set_cons_zero, List.set_cons_succ, List.getElem_toArray, List.getElem_cons_succ, List.getElem_cons_zero]
      refine wpAnyH_take (i := 14) (v := (.pointer (some ⟨xb, 0, .none⟩))) rfl (by kernel_rfl) (by kernel_rfl) (by kernel_rfl) (fun _ _ _ h => h) (Or.inl ⟨by rfl, fun ww hSw => by (try dsimp only at hSw); go_simp⟩) (by assumption) ?_
      simp only [Act.put, List.setIfInBounds_toArray, List.set_cons_zero, List.set_cons_succ, List.getElem_toArray, List.getElem_cons_succ, List.getElem_cons_zero]
      refine wpAnyH_take (i := 15) (v := (.int .i64 a0)) rfl (by kernel_rfl) (by kernel_rfl) (by kernel_rfl) (fun _ _ _ h => h) (Or.inl ⟨by rfl, fun ww hSw => by (try dsimp only at hSw); go_simp⟩) (by assumption) ?_
      simp only [Act.put, List.setIfInBounds_toArray, List.set_cons_zero, List.set_cons_succ, List.getElem_toArray, List.getElem_cons_succ, List.getElem_cons_zero]
      refine wpAnyH_take (i := 16) (v := (.bool false)) rfl (by kernel_rfl) (by kernel_rfl) (by kernel_rfl) (fun _ _ _ h => h) (Or.inl ⟨by rfl, fun ww hSw => by (try dsimp only at hSw); go_simp⟩) (by assumption) ?_
      simp only [Act.put, List.setIfInBounds_toArray, List.set_cons_zero, List.set_cons_succ, List.getElem_toArray, List.getElem_cons_succ, List.getElem_cons_zero]
      refine wpAnyH_take (i := 17) (v := (.bool false)) rfl (by kernel_rfl) (by kernel_rfl) (by kernel_rfl) (fun _ _ _ h => h) (Or.inl ⟨by rfl, fun ww hSw => by (try dsimp only at hSw); go_simp⟩) (by assumption) ?_
      simp only [Act.put, List.setIfInBounds_toArray, List.set_cons_zero, List.set_cons_succ, List.getElem_toArray, List.getElem_cons_succ, List.getElem_cons_zero]
      refine wpAnyH_take (i := 18) (v := (.bool false)) rfl (by kernel_rfl) (by kernel_rfl) (by kernel_rfl) (fun _ _ _ h => h) (Or.inl ⟨by rfl, fun ww hSw => by (try dsimp only at hSw); go_simp⟩) (by assumption) ?_
      simp only [Act.put, List.setIfInBounds_toArray, List.set_cons_zero, List.set_cons_succ, List.getElem_toArray, List.getElem_cons_succ, List.getElem_cons_zero]
      refine wpAnyH_take (i := 19) (v := (.pointer (some ⟨xb, 0, .none⟩))) rfl (by kernel_rfl) (by kernel_rfl) (by kernel_rfl) (fun _ _ _ h => h) (Or.inl ⟨by rfl, fun ww hSw => by (try dsimp only at hSw); go_simp⟩) (by assumption) ?_
      simp only [Act.put, List.setIfInBounds_toArray, List.set_cons_zero, List.set_cons_succ, List.getElem_toArray, List.getElem_cons_succ, List.getElem_cons_zero]
      refine wpAnyH_take (i := 20) (v := (.int .i64 a0)) rfl (by kernel_rfl) (by kernel_rfl) (by kernel_rfl) (fun _ _ _ h => h) (Or.inl ⟨by rfl, fun ww hSw => by (try dsimp only at hSw); go_simp⟩) (by assumption) ?_
      simp only [Act.put, List.setIfInBounds_toArray, List.set_cons_zero, List.set_cons_succ, List.getElem_toArray, List.getElem_cons_succ, List.getElem_cons_zero]
      refine wpAnyH_take (i := 21) (v := (.bool bb)) rfl (by kernel_rfl) (by kernel_rfl) (by kernel_rfl) (fun _ _ _ h => h) (Or.inl ⟨by rfl, fun ww hSw => by (try dsimp only at hSw); go_simp⟩) (by assumption) ?_
      simp only [Act.put, List.setIfInBounds_toArray, List.set_cons_zero, List.set_cons_succ, List.getElem_toArray, List.getElem_cons_succ, List.getElem_cons_zero]
      refine wpAnyH_take (i := 22) (v := (.pointer (some ⟨xb, 1, .none⟩))) rfl (by kernel_rfl) (by kernel_rfl) (by kernel_rfl) (fun _ _ _ h => h) (Or.inl ⟨by rfl, fun ww hSw => by (try dsimp only at hSw); go_simp⟩) (by assumption) ?_
      simp only [Act.put, List.setIfInBounds_toArray, List.set_cons_zero, List.set_cons_succ, List.getElem_toArray, List.getElem_cons_succ, List.getElem_cons_zero]
      refine wpAnyH_take (i := 23) (v := (.int .i64 pn)) rfl (by kernel_rfl) (by kernel_rfl) (by kernel_rfl) (fun _ _ _ h => h) (Or.inl ⟨by rfl, fun ww hSw => by (try dsimp only at hSw); go_simp⟩) (by assumption) ?_
      simp only [Act.put, List.setIfInBounds_toArray, List.set_cons_zero, List.set_cons_succ, List.getElem_toArray, List.getElem_cons_succ, List.getElem_cons_zero]
      refine wpAnyH_take (i := 24) (v := (.slice (some ⟨ab, ao, .none⟩) m c0)) rfl (by kernel_rfl) (by kernel_rfl) (by kernel_rfl) (fun _ _ _ h => h) (Or.inl ⟨by rfl, fun ww hSw => by (try dsimp only at hSw); go_simp⟩) (by assumption) ?_
      simp only [Act.put, List.setIfInBounds_toArray, List.set_cons_zero, List.set_cons_succ, List.getElem_toArray, List.getElem_cons_succ, List.getElem_cons_zero]
      refine wpAnyH_take (i := 25) (v := (.int .i64 K)) rfl (by kernel_rfl) (by kernel_rfl) (by kernel_rfl) (fun _ _ _ h => h) (Or.inl ⟨by rfl, fun ww hSw => by (try dsimp only at hSw); go_simp⟩) (by assumption) ?_
      simp only [Act.put, List.setIfInBounds_toArray, List.set_cons_zero, List.set_cons_succ, List.getElem_toArray, List.getElem_cons_succ, List.getElem_cons_zero]
      refine wpAnyH_take (i := 26) (v := (.pointer (some ⟨ab, ao + K, .none⟩))) rfl (by kernel_rfl) (by kernel_rfl) (by kernel_rfl) (fun _ _ _ h => h) (Or.inl ⟨by rfl, fun ww hSw => by (try dsimp only at hSw); go_simp⟩) (by assumption) ?_
      simp only [Act.put, List.setIfInBounds_toArray, List.set_cons_zero, List.set_cons_succ, List.getElem_toArray, List.getElem_cons_succ, List.getElem_cons_zero]
      refine wpAnyH_take (i := 27) (v := (.slice ds dl dc)) rfl (by kernel_rfl) (by kernel_rfl) (by kernel_rfl) (fun _ _ _ h => h) (Or.inl ⟨by rfl, fun ww hSw => by (try dsimp only at hSw); go_simp⟩) (by assumption) ?_
      simp only [Act.put, List.setIfInBounds_toArray, List.set_cons_zero, List.set_cons_succ, List.getElem_toArray, List.getElem_cons_succ, List.getElem_cons_zero]
      refine wpAnyH_take (i := 28) (v := (.int .i64 dl)) rfl (by kernel_rfl) (by kernel_rfl) (by kernel_rfl) (fun _ _ _ h => h) (Or.inl ⟨by rfl, fun ww hSw => by (try dsimp only at hSw); go_simp⟩) (by assumption) ?_
      simp only [Act.put, List.setIfInBounds_toArray, List.set_cons_zero, List.set_cons_succ, List.getElem_toArray, List.getElem_cons_succ, List.getElem_cons_zero]
      refine wpAnyH_take (i := 29) (v := (.bool bb)) rfl (by kernel_rfl) (by kernel_rfl) (by kernel_rfl) (fun _ _ _ h => h) (Or.inl ⟨by rfl, fun ww hSw => by (try dsimp only at hSw); go_simp⟩) (by assumption) ?_
      simp only [Act.put, List.setIfInBounds_toArray, List.set_cons_zero, List.set_cons_succ, List.getElem_toArray, List.getElem_cons_succ, List.getElem_cons_zero]
      refine wpAnyH_take (i := 30) (v := (.bool false)) rfl (by kernel_rfl) (by kernel_rfl) (by kernel_rfl) (fun _ _ _ h => h) (Or.inl ⟨by rfl, fun ww hSw => by (try dsimp only at hSw); go_simp⟩) (by assumption) ?_
      simp only [Act.put, List.setIfInBounds_toArray, List.set_cons_zero, List.set_cons_succ, List.getElem_toArray, List.getElem_cons_succ, List.getElem_cons_zero]
      refine wpAnyH_take (i := 31) (v := (.bool false)) rfl (by kernel_rfl) (by kernel_rfl) (by kernel_rfl) (fun _ _ _ h => h) (Or.inl ⟨by rfl, fun ww hSw => by (try dsimp only at hSw); go_simp⟩) (by assumption) ?_
      simp only [Act.put, List.setIfInBounds_toArray, List.set_cons_zero, List.set_cons_succ, List.getElem_toArray, List.getElem_cons_succ, List.getElem_cons_zero]
      refine wpAnyH_done (by kernel_rfl) ?_ _
      clear j0 hHeld hbb e1 e2 e3 e4 e5 e6
      obtain ⟨V4, hV4⟩ : ∃ V4, V4 = V3.drew := ⟨_, rfl⟩
      rw [← hV4]
      have H4 : Hid (Oh w V4 X s tb cb fb pb z1 z2 q (setF (setF (fun _ => none) 0 (some z1)) 1 (some z2)) (xs ++ ys.take pn) true true PP T (.slice pp PP.length pc) (.slice tp T.length tc) ∧ G6 V4 xb a0 pn a3 a4 (.slice wp wn wq) ∧ Ch1 V4 V1.heap.size (.slice wp wn wq) (pn != 0) 4 0 ∧ xb < V4.heap.size ∧ (∀ g, (Value.slice pp PP.length pc).ownBlock = some g → g < xb) ∧ (∀ g, (Value.slice tp T.length tc).ownBlock = some g → g < xb)) := by
        have hb := below_drew' V3
        rw [hV4]
        exact ⟨H3.out.1.below DS.out hb, H3.out.2.1.keep rfl, H3.out.2.2.1.below hb, H3.out.2.2.2⟩
      clear hV4 H3
      go_upto_region 17 with fail
      go_cut [145] (fun s145 wc => s145 = .bool false ∧ Hid (Below V4.heap.size V4 wc))
      case first =>
        as_aux_lemma =>
        have j0 : V4.drew.cell? ⟨xb, 0, .none⟩ = some (.int .i64 a0) ∧ V4.drew.cell? ⟨xb, 1, .none⟩ = some (.int .i64 pn) ∧ V4.drew.cell? ⟨xb, 3, .none⟩ = some (.int .i64 a3) ∧ V4.drew.cell? ⟨xb, 4, .none⟩ = some (.int .i64 a4) ∧ V4.drew.cell? ⟨xb, 5, .none⟩ = some (.slice wp wn wq) := ⟨H4.out.2.1.c0, H4.out.2.1.c1, H4.out.2.1.c3, H4.out.2.1.c4, H4.out.2.1.c5⟩
        obtain ⟨yb, hby⟩ : ∃ yb : Bool, yb = (pn != 0) := ⟨_, rfl⟩
        have HY : Hid ((pn != 0) = yb) := hby.symm
        have e1n : decide (0 < pn) = yb := by
          rw [hby]
          by_cases h : pn = 0
          · subst h; rfl
          · rw [decide_eq_true (by omega)]; simp [h]
        have e1 : decide ((0 : Int) < pn) = yb := by
          rw [← e1n]; by_cases h : pn = 0
          · subst h; rfl
          · rw [decide_eq_true (by omega), decide_eq_true (by omega)]
        have e2 : (yb != yb) = false := by simp
        clear hby
        rcases HCase.out with hc | hc
        · obtain ⟨h1, h2⟩ := hc
          have f1 : (a0 == 2) = false := by simp [h1]
          clear h1 h2
          refine wp_region_held_drew (S := fun U => U.cell? ⟨xb, 0, .none⟩ = some (.int .i64 a0) ∧ U.cell? ⟨xb, 1, .none⟩ = some (.int .i64 pn) ∧ U.cell? ⟨xb, 3, .none⟩ = some (.int .i64 a3) ∧ U.cell? ⟨xb, 4, .none⟩ = some (.int .i64 a4) ∧ U.cell? ⟨xb, 5, .none⟩ = some (.slice wp wn wq)) (by kernel_rfl) j0 (fun hHeld => ?_)
          refine wpAnyH_take (i := 0) (v := (.pointer (some ⟨xb, 1, .none⟩))) rfl (by kernel_rfl) (by kernel_rfl) (by kernel_rfl) (fun _ _ _ h => h) (Or.inl ⟨by rfl, fun ww hSw => by (try dsimp only at hSw); go_simp⟩) (by assumption) ?_
          simp only [Act.put, List.setIfInBounds_toArray, List.set_cons_zero, List.set_cons_succ, List.getElem_toArray, List.getElem_cons_succ, List.getElem_cons_zero]
          refine wpAnyH_take (i := 1) (v := (.int .i64 pn)) rfl (by kernel_rfl) (by kernel_rfl) (by kernel_rfl) (fun _ _ _ h => h) (Or.inl ⟨by rfl, fun ww hSw => by (try dsimp only at hSw); go_simp⟩) (by assumption) ?_
          simp only [Act.put, List.setIfInBounds_toArray, List.set_cons_zero, List.set_cons_succ, List.getElem_toArray, List.getElem_cons_succ, List.getElem_cons_zero]
          refine wpAnyH_take (i := 2) (v := (.bool yb)) rfl (by kernel_rfl) (by kernel_rfl) (by kernel_rfl) (fun _ _ _ h => h) (Or.inl ⟨by rfl, fun ww hSw => by (try dsimp only at hSw); go_simp⟩) (by assumption) ?_
          simp only [Act.put, List.setIfInBounds_toArray, List.set_cons_zero, List.set_cons_succ, List.getElem_toArray, List.getElem_cons_succ, List.getElem_cons_zero]
          refine wpAnyH_take (i := 3) (v := (.pointer (some ⟨xb, 5, .none⟩))) rfl (by kernel_rfl) (by kernel_rfl) (by kernel_rfl) (fun _ _ _ h => h) (Or.inl ⟨by rfl, fun ww hSw => by (try dsimp only at hSw); go_simp⟩) (by assumption) ?_
          simp only [Act.put, List.setIfInBounds_toArray, List.set_cons_zero, List.set_cons_succ, List.getElem_toArray, List.getElem_cons_succ, List.getElem_cons_zero]
          refine wpAnyH_take (i := 4) (v := (.slice wp wn wq)) rfl (by kernel_rfl) (by kernel_rfl) (by kernel_rfl) (fun _ _ _ h => h) (Or.inl ⟨by rfl, fun ww hSw => by (try dsimp only at hSw); go_simp⟩) (by assumption) ?_
          simp only [Act.put, List.setIfInBounds_toArray, List.set_cons_zero, List.set_cons_succ, List.getElem_toArray, List.getElem_cons_succ, List.getElem_cons_zero]
          refine wpAnyH_take (i := 5) (v := (.int .i64 0)) rfl (by kernel_rfl) (by kernel_rfl) (by kernel_rfl) (fun _ _ _ h => h) (Or.inl ⟨by rfl, fun ww hSw => by (try dsimp only at hSw); go_simp⟩) (by assumption) ?_
          simp only [Act.put, List.setIfInBounds_toArray, List.set_cons_zero, List.set_cons_succ, List.getElem_toArray, List.getElem_cons_succ, List.getElem_cons_zero]
          refine wpAnyH_take (i := 6) (v := (.agg #[.int .i64 4, .int .i64 0])) rfl (by kernel_rfl) (by kernel_rfl) (by kernel_rfl) (fun _ _ _ h => h) (Or.inl ⟨by rfl, fun ww hSw => by (try dsimp only at hSw); go_simp⟩) (by assumption) ?_
          simp only [Act.put, List.setIfInBounds_toArray, List.set_cons_zero, List.set_cons_succ, List.getElem_toArray, List.getElem_cons_succ, List.getElem_cons_zero]
          refine wpAnyH_ready (rs := [7]) (by kernel_rfl) (by simp) ?_
          refine AllReadyH.cons rfl (fun K hK => ?_) AllReadyH.nil
          go_simp
          have hbA := Trn.new V4.drew (.cells #[.int .i64 4, .int .i64 0] 37)
          have kA : (V4.drew.alloc (.cells #[.int .i64 4, .int .i64 0] 37)).cell? ⟨xb, 0, .none⟩ = some (.int .i64 a0) ∧ (V4.drew.alloc (.cells #[.int .i64 4, .int .i64 0] 37)).cell? ⟨xb, 1, .none⟩ = some (.int .i64 pn) ∧ (V4.drew.alloc (.cells #[.int .i64 4, .int .i64 0] 37)).cell? ⟨xb, 3, .none⟩ = some (.int .i64 a3) ∧ (V4.drew.alloc (.cells #[.int .i64 4, .int .i64 0] 37)).cell? ⟨xb, 4, .none⟩ = some (.int .i64 a4) ∧ (V4.drew.alloc (.cells #[.int .i64 4, .int .i64 0] 37)).cell? ⟨xb, 5, .none⟩ = some (.slice wp wn wq) := by
            have hx := H4.out.2.2.2.1
            exact ⟨(hbA.cell (p := ⟨xb, _, .none⟩) hx).trans j0.1, (hbA.cell (p := ⟨xb, _, .none⟩) hx).trans j0.2.1, (hbA.cell (p := ⟨xb, _, .none⟩) hx).trans j0.2.2.1, (hbA.cell (p := ⟨xb, _, .none⟩) hx).trans j0.2.2.2.1, (hbA.cell (p := ⟨xb, _, .none⟩) hx).trans j0.2.2.2.2⟩
          have cch := chans_one (w := V4.drew.alloc (.cells #[.int .i64 4, .int .i64 0] 37)) (h := V4.drew.heap.size) (((H4.out.2.2.1).below (below_drew' V4)).below hbA) (by rw [World.cell?_alloc_at _ _ _ _ rfl]; rfl) (by rw [World.cell?_alloc_at _ _ _ _ rfl]; rfl)
          rw [HY.out] at cch
          have HA2 : Hid (Below V4.heap.size V4 (V4.drew.alloc (.cells #[.int .i64 4, .int .i64 0] 37))) := (below_drew' V4).trans hbA
          clear hbA
          refine hK.out _ _ kA (fun hHeld => ?_)
          clear hK K
          try simp only [Act.put, List.setIfInBounds_toArray, List.set_cons_zero, List.set_cons_succ, List.getElem_toArray, List.getElem_cons_succ, List.getElem_cons_zero]
          refine wpAnyH_ready (rs := [8]) (by kernel_rfl) (by simp) ?_
          refine AllReadyH.cons rfl (fun K hK => ?_) AllReadyH.nil
          go_simp
          refine cch.mono ?_
          rintro _ U ⟨rfl, jj, hU⟩
          have kU : U.cell? ⟨xb, 0, .none⟩ = some (.int .i64 a0) ∧ U.cell? ⟨xb, 1, .none⟩ = some (.int .i64 pn) ∧ U.cell? ⟨xb, 3, .none⟩ = some (.int .i64 a3) ∧ U.cell? ⟨xb, 4, .none⟩ = some (.int .i64 a4) ∧ U.cell? ⟨xb, 5, .none⟩ = some (.slice wp wn wq) := by rw [hU]; exact kA
          have HU : Hid (Below V4.heap.size V4 U) := by rw [hU]; exact HA2.out.trans ((below_drewN' _ jj).mono HA2.out.size)
          clear hU
          refine hK.out _ _ kU (fun hHeld => ?_)
          clear hK K
          try simp only [Act.put, List.setIfInBounds_toArray, List.set_cons_zero, List.set_cons_succ, List.getElem_toArray, List.getElem_cons_succ, List.getElem_cons_zero]
          refine wpAnyH_take (i := 9) (v := (.bool false)) rfl (by kernel_rfl) (by kernel_rfl) (by kernel_rfl) (fun _ _ _ h => h) (Or.inl ⟨by rfl, fun ww hSw => by (try dsimp only at hSw); go_simp⟩) (by assumption) ?_
          simp only [Act.put, List.setIfInBounds_toArray, List.set_cons_zero, List.set_cons_succ, List.getElem_toArray, List.getElem_cons_succ, List.getElem_cons_zero]
          refine wpAnyH_take (i := 10) (v := (.bool false)) rfl (by kernel_rfl) (by kernel_rfl) (by kernel_rfl) (fun _ _ _ h => h) (Or.inl ⟨by rfl, fun ww hSw => by (try dsimp only at hSw); go_simp⟩) (by assumption) ?_
          simp only [Act.put, List.setIfInBounds_toArray, List.set_cons_zero, List.set_cons_succ, List.getElem_toArray, List.getElem_cons_succ, List.getElem_cons_zero]
          refine wpAnyH_take (i := 11) (v := (.pointer (some ⟨xb, 0, .none⟩))) rfl (by kernel_rfl) (by kernel_rfl) (by kernel_rfl) (fun _ _ _ h => h) (Or.inl ⟨by rfl, fun ww hSw => by (try dsimp only at hSw); go_simp⟩) (by assumption) ?_
          simp only [Act.put, List.setIfInBounds_toArray, List.set_cons_zero, List.set_cons_succ, List.getElem_toArray, List.getElem_cons_succ, List.getElem_cons_zero]
          refine wpAnyH_take (i := 12) (v := (.int .i64 a0)) rfl (by kernel_rfl) (by kernel_rfl) (by kernel_rfl) (fun _ _ _ h => h) (Or.inl ⟨by rfl, fun ww hSw => by (try dsimp only at hSw); go_simp⟩) (by assumption) ?_
          simp only [Act.put, List.setIfInBounds_toArray, List.set_cons_zero, List.set_cons_succ, List.getElem_toArray, List.getElem_cons_succ, List.getElem_cons_zero]
          refine wpAnyH_take (i := 13) (v := (.bool false)) rfl (by kernel_rfl) (by kernel_rfl) (by kernel_rfl) (fun _ _ _ h => h) (Or.inl ⟨by rfl, fun ww hSw => by (try dsimp only at hSw); go_simp⟩) (by assumption) ?_
          simp only [Act.put, List.setIfInBounds_toArray, List.set_cons_zero, List.set_cons_succ, List.getElem_toArray, List.getElem_cons_succ, List.getElem_cons_zero]
          refine wpAnyH_take (i := 14) (v := (.bool false)) rfl (by kernel_rfl) (by kernel_rfl) (by kernel_rfl) (fun _ _ _ h => h) (Or.inl ⟨by rfl, fun ww hSw => by (try dsimp only at hSw); go_simp⟩) (by assumption) ?_
          simp only [Act.put, List.setIfInBounds_toArray, List.set_cons_zero, List.set_cons_succ, List.getElem_toArray, List.getElem_cons_succ, List.getElem_cons_zero]
          refine wpAnyH_take (i := 15) (v := undef) rfl (by kernel_rfl) (by kernel_rfl) (by kernel_rfl) (fun _ _ _ h => h) (Or.inr ⟨by rfl, rfl⟩) (by assumption) ?_
          simp only [Act.put, List.setIfInBounds_toArray, List.set_cons_zero, List.set_cons_succ, List.getElem_toArray, List.getElem_cons_succ, List.getElem_cons_zero]
          refine wpAnyH_take (i := 16) (v := undef) rfl (by kernel_rfl) (by kernel_rfl) (by kernel_rfl) (fun _ _ _ h => h) (Or.inr ⟨by rfl, rfl⟩) (by assumption) ?_
          simp only [Act.put, List.setIfInBounds_toArray, List.set_cons_zero, List.set_cons_succ, List.getElem_toArray, List.getElem_cons_succ, List.getElem_cons_zero]
          refine wpAnyH_take (i := 17) (v := undef) rfl (by kernel_rfl) (by kernel_rfl) (by kernel_rfl) (fun _ _ _ h => h) (Or.inr ⟨by rfl, rfl⟩) (by assumption) ?_
          simp only [Act.put, List.setIfInBounds_toArray, List.set_cons_zero, List.set_cons_succ, List.getElem_toArray, List.getElem_cons_succ, List.getElem_cons_zero]
          refine wpAnyH_take (i := 18) (v := undef) rfl (by kernel_rfl) (by kernel_rfl) (by kernel_rfl) (fun _ _ _ h => h) (Or.inr ⟨by rfl, rfl⟩) (by assumption) ?_
          simp only [Act.put, List.setIfInBounds_toArray, List.set_cons_zero, List.set_cons_succ, List.getElem_toArray, List.getElem_cons_succ, List.getElem_cons_zero]
          refine wpAnyH_take (i := 19) (v := undef) rfl (by kernel_rfl) (by kernel_rfl) (by kernel_rfl) (fun _ _ _ h => h) (Or.inr ⟨by rfl, rfl⟩) (by assumption) ?_
          simp only [Act.put, List.setIfInBounds_toArray, List.set_cons_zero, List.set_cons_succ, List.getElem_toArray, List.getElem_cons_succ, List.getElem_cons_zero]
          refine wpAnyH_take (i := 20) (v := undef) rfl (by kernel_rfl) (by kernel_rfl) (by kernel_rfl) (fun _ _ _ h => h) (Or.inr ⟨by rfl, rfl⟩) (by assumption) ?_
          simp only [Act.put, List.setIfInBounds_toArray, List.set_cons_zero, List.set_cons_succ, List.getElem_toArray, List.getElem_cons_succ, List.getElem_cons_zero]
          refine wpAnyH_take (i := 21) (v := undef) rfl (by kernel_rfl) (by kernel_rfl) (by kernel_rfl) (fun _ _ _ h => h) (Or.inr ⟨by rfl, rfl⟩) (by assumption) ?_
          simp only [Act.put, List.setIfInBounds_toArray, List.set_cons_zero, List.set_cons_succ, List.getElem_toArray, List.getElem_cons_succ, List.getElem_cons_zero]
          refine wpAnyH_take (i := 22) (v := undef) rfl (by kernel_rfl) (by kernel_rfl) (by kernel_rfl) (fun _ _ _ h => h) (Or.inr ⟨by rfl, rfl⟩) (by assumption) ?_
          simp only [Act.put, List.setIfInBounds_toArray, List.set_cons_zero, List.set_cons_succ, List.getElem_toArray, List.getElem_cons_succ, List.getElem_cons_zero]
          refine wpAnyH_take (i := 23) (v := undef) rfl (by kernel_rfl) (by kernel_rfl) (by kernel_rfl) (fun _ _ _ h => h) (Or.inr ⟨by rfl, rfl⟩) (by assumption) ?_
          simp only [Act.put, List.setIfInBounds_toArray, List.set_cons_zero, List.set_cons_succ, List.getElem_toArray, List.getElem_cons_succ, List.getElem_cons_zero]
          refine wpAnyH_take (i := 24) (v := undef) rfl (by kernel_rfl) (by kernel_rfl) (by kernel_rfl) (fun _ _ _ h => h) (Or.inr ⟨by rfl, rfl⟩) (by assumption) ?_
          simp only [Act.put, List.setIfInBounds_toArray, List.set_cons_zero, List.set_cons_succ, List.getElem_toArray, List.getElem_cons_succ, List.getElem_cons_zero]
          refine wpAnyH_take (i := 25) (v := undef) rfl (by kernel_rfl) (by kernel_rfl) (by kernel_rfl) (fun _ _ _ h => h) (Or.inr ⟨by rfl, rfl⟩) (by assumption) ?_
          simp only [Act.put, List.setIfInBounds_toArray, List.set_cons_zero, List.set_cons_succ, List.getElem_toArray, List.getElem_cons_succ, List.getElem_cons_zero]
          refine wpAnyH_take (i := 26) (v := undef) rfl (by kernel_rfl) (by kernel_rfl) (by kernel_rfl) (fun _ _ _ h => h) (Or.inr ⟨by rfl, rfl⟩) (by assumption) ?_
          simp only [Act.put, List.setIfInBounds_toArray, List.set_cons_zero, List.set_cons_succ, List.getElem_toArray, List.getElem_cons_succ, List.getElem_cons_zero]
          refine wpAnyH_take (i := 27) (v := undef) rfl (by kernel_rfl) (by kernel_rfl) (by kernel_rfl) (fun _ _ _ h => h) (Or.inr ⟨by rfl, rfl⟩) (by assumption) ?_
          simp only [Act.put, List.setIfInBounds_toArray, List.set_cons_zero, List.set_cons_succ, List.getElem_toArray, List.getElem_cons_succ, List.getElem_cons_zero]
          refine wpAnyH_take (i := 28) (v := undef) rfl (by kernel_rfl) (by kernel_rfl) (by kernel_rfl) (fun _ _ _ h => h) (Or.inr ⟨by rfl, rfl⟩) (by assumption) ?_
          simp only [Act.put, List.setIfInBounds_toArray, List.set_cons_zero, List.set_cons_succ, List.getElem_toArray, List.getElem_cons_succ, List.getElem_cons_zero]
          refine wpAnyH_take (i := 29) (v := undef) rfl (by kernel_rfl) (by kernel_rfl) (by kernel_rfl) (fun _ _ _ h => h) (Or.inr ⟨by rfl, rfl⟩) (by assumption) ?_
          simp only [Act.put, List.setIfInBounds_toArray, List.set_cons_zero, List.set_cons_succ, List.getElem_toArray, List.getElem_cons_succ, List.getElem_cons_zero]
          refine wpAnyH_take (i := 30) (v := undef) rfl (by kernel_rfl) (by kernel_rfl) (by kernel_rfl) (fun _ _ _ h => h) (Or.inr ⟨by rfl, rfl⟩) (by assumption) ?_
          simp only [Act.put, List.setIfInBounds_toArray, List.set_cons_zero, List.set_cons_succ, List.getElem_toArray, List.getElem_cons_succ, List.getElem_cons_zero]
          refine wpAnyH_take (i := 31) (v := (.bool false)) rfl (by kernel_rfl) (by kernel_rfl) (by kernel_rfl) (fun _ _ _ h => h) (Or.inl ⟨by rfl, fun ww hSw => by (try dsimp only at hSw); go_simp⟩) (by assumption) ?_
          simp only [Act.put, List.setIfInBounds_toArray, List.set_cons_zero, List.set_cons_succ, List.getElem_toArray, List.getElem_cons_succ, List.getElem_cons_zero]
          refine wpAnyH_take (i := 32) (v := (.bool false)) rfl (by kernel_rfl) (by kernel_rfl) (by kernel_rfl) (fun _ _ _ h => h) (Or.inl ⟨by rfl, fun ww hSw => by (try dsimp only at hSw); go_simp⟩) (by assumption) ?_
          simp only [Act.put, List.setIfInBounds_toArray, List.set_cons_zero, List.set_cons_succ, List.getElem_toArray, List.getElem_cons_succ, List.getElem_cons_zero]
          refine wpAnyH_done (by kernel_rfl) ?_ _
          go_wp2
          go_meet
          case rel => exact ⟨rfl, HU.out⟩
        · obtain ⟨h1, h2, h3, h4, h5⟩ := hc
          have f1 : (a0 == 2) = true := by simp [h1]
          have f2 : (!(a3 == 5 && a4 == 0)) = false := by simp [h2, h3]
          have w1 : IntKind.i64.wrap ((PP.length : Int) + pn) = (PP.length : Int) + pn := by rw [IntKind.wrap_i64]; omega
          have w2 : IntKind.i64.wrap ((PP.length : Int) + pn - T.length) = 512 := by rw [IntKind.wrap_i64]; omega
          clear h1 h4 h5
          refine wp_region_held_drew (S := fun U => U.cell? ⟨xb, 0, .none⟩ = some (.int .i64 a0) ∧ U.cell? ⟨xb, 1, .none⟩ = some (.int .i64 pn) ∧ U.cell? ⟨xb, 3, .none⟩ = some (.int .i64 a3) ∧ U.cell? ⟨xb, 4, .none⟩ = some (.int .i64 a4) ∧ U.cell? ⟨xb, 5, .none⟩ = some (.slice wp wn wq)) (by kernel_rfl) j0 (fun hHeld => ?_)
          refine wpAnyH_take (i := 0) (v := (.pointer (some ⟨xb, 1, .none⟩))) rfl (by kernel_rfl) (by kernel_rfl) (by kernel_rfl) (fun _ _ _ h => h) (Or.inl ⟨by rfl, fun ww hSw => by (try dsimp only at hSw); go_simp⟩) (by assumption) ?_
          simp only [Act.put, List.setIfInBounds_toArray, List.set_cons_zero, List.set_cons_succ, List.getElem_toArray, List.getElem_cons_succ, List.getElem_cons_zero]
          refine wpAnyH_take (i := 1) (v := (.int .i64 pn)) rfl (by kernel_rfl) (by kernel_rfl) (by kernel_rfl) (fun _ _ _ h => h) (Or.inl ⟨by rfl, fun ww hSw => by (try dsimp only at hSw); go_simp⟩) (by assumption) ?_
          simp only [Act.put, List.setIfInBounds_toArray, List.set_cons_zero, List.set_cons_succ, List.getElem_toArray, List.getElem_cons_succ, List.getElem_cons_zero]
          refine wpAnyH_take (i := 2) (v := (.bool yb)) rfl (by kernel_rfl) (by kernel_rfl) (by kernel_rfl) (fun _ _ _ h => h) (Or.inl ⟨by rfl, fun ww hSw => by (try dsimp only at hSw); go_simp⟩) (by assumption) ?_
          simp only [Act.put, List.setIfInBounds_toArray, List.set_cons_zero, List.set_cons_succ, List.getElem_toArray, List.getElem_cons_succ, List.getElem_cons_zero]
          refine wpAnyH_take (i := 3) (v := (.pointer (some ⟨xb, 5, .none⟩))) rfl (by kernel_rfl) (by kernel_rfl) (by kernel_rfl) (fun _ _ _ h => h) (Or.inl ⟨by rfl, fun ww hSw => by (try dsimp only at hSw); go_simp⟩) (by assumption) ?_
          simp only [Act.put, List.setIfInBounds_toArray, List.set_cons_zero, List.set_cons_succ, List.getElem_toArray, List.getElem_cons_succ, List.getElem_cons_zero]
          refine wpAnyH_take (i := 4) (v := (.slice wp wn wq)) rfl (by kernel_rfl) (by kernel_rfl) (by kernel_rfl) (fun _ _ _ h => h) (Or.inl ⟨by rfl, fun ww hSw => by (try dsimp only at hSw); go_simp⟩) (by assumption) ?_
          simp only [Act.put, List.setIfInBounds_toArray, List.set_cons_zero, List.set_cons_succ, List.getElem_toArray, List.getElem_cons_succ, List.getElem_cons_zero]
          refine wpAnyH_take (i := 5) (v := (.int .i64 0)) rfl (by kernel_rfl) (by kernel_rfl) (by kernel_rfl) (fun _ _ _ h => h) (Or.inl ⟨by rfl, fun ww hSw => by (try dsimp only at hSw); go_simp⟩) (by assumption) ?_
          simp only [Act.put, List.setIfInBounds_toArray, List.set_cons_zero, List.set_cons_succ, List.getElem_toArray, List.getElem_cons_succ, List.getElem_cons_zero]
          refine wpAnyH_take (i := 6) (v := (.agg #[.int .i64 4, .int .i64 0])) rfl (by kernel_rfl) (by kernel_rfl) (by kernel_rfl) (fun _ _ _ h => h) (Or.inl ⟨by rfl, fun ww hSw => by (try dsimp only at hSw); go_simp⟩) (by assumption) ?_
          simp only [Act.put, List.setIfInBounds_toArray, List.set_cons_zero, List.set_cons_succ, List.getElem_toArray, List.getElem_cons_succ, List.getElem_cons_zero]
          refine wpAnyH_ready (rs := [7]) (by kernel_rfl) (by simp) ?_
          refine AllReadyH.cons rfl (fun K hK => ?_) AllReadyH.nil
          go_simp
          have hbA := Trn.new V4.drew (.cells #[.int .i64 4, .int .i64 0] 37)
          have kA : (V4.drew.alloc (.cells #[.int .i64 4, .int .i64 0] 37)).cell? ⟨xb, 0, .none⟩ = some (.int .i64 a0) ∧ (V4.drew.alloc (.cells #[.int .i64 4, .int .i64 0] 37)).cell? ⟨xb, 1, .none⟩ = some (.int .i64 pn) ∧ (V4.drew.alloc (.cells #[.int .i64 4, .int .i64 0] 37)).cell? ⟨xb, 3, .none⟩ = some (.int .i64 a3) ∧ (V4.drew.alloc (.cells #[.int .i64 4, .int .i64 0] 37)).cell? ⟨xb, 4, .none⟩ = some (.int .i64 a4) ∧ (V4.drew.alloc (.cells #[.int .i64 4, .int .i64 0] 37)).cell? ⟨xb, 5, .none⟩ = some (.slice wp wn wq) := by
            have hx := H4.out.2.2.2.1
            exact ⟨(hbA.cell (p := ⟨xb, _, .none⟩) hx).trans j0.1, (hbA.cell (p := ⟨xb, _, .none⟩) hx).trans j0.2.1, (hbA.cell (p := ⟨xb, _, .none⟩) hx).trans j0.2.2.1, (hbA.cell (p := ⟨xb, _, .none⟩) hx).trans j0.2.2.2.1, (hbA.cell (p := ⟨xb, _, .none⟩) hx).trans j0.2.2.2.2⟩
          have cch := chans_one (w := V4.drew.alloc (.cells #[.int .i64 4, .int .i64 0] 37)) (h := V4.drew.heap.size) (((H4.out.2.2.1).below (below_drew' V4)).below hbA) (by rw [World.cell?_alloc_at _ _ _ _ rfl]; rfl) (by rw [World.cell?_alloc_at _ _ _ _ rfl]; rfl)
          rw [HY.out] at cch
          have HA2 : Hid (Below V4.heap.size V4 (V4.drew.alloc (.cells #[.int .i64 4, .int .i64 0] 37))) := (below_drew' V4).trans hbA
          clear hbA
          refine hK.out _ _ kA (fun hHeld => ?_)
          clear hK K
          try simp only [Act.put, List.setIfInBounds_toArray, List.set_cons_zero, List.set_cons_succ, List.getElem_toArray, List.getElem_cons_succ, List.getElem_cons_zero]
          refine wpAnyH_ready (rs := [8]) (by kernel_rfl) (by simp) ?_
          refine AllReadyH.cons rfl (fun K hK => ?_) AllReadyH.nil
          go_simp
          refine cch.mono ?_
          rintro _ U ⟨rfl, jj, hU⟩
          have kU : U.cell? ⟨xb, 0, .none⟩ = some (.int .i64 a0) ∧ U.cell? ⟨xb, 1, .none⟩ = some (.int .i64 pn) ∧ U.cell? ⟨xb, 3, .none⟩ = some (.int .i64 a3) ∧ U.cell? ⟨xb, 4, .none⟩ = some (.int .i64 a4) ∧ U.cell? ⟨xb, 5, .none⟩ = some (.slice wp wn wq) := by rw [hU]; exact kA
          have HU : Hid (Below V4.heap.size V4 U) := by rw [hU]; exact HA2.out.trans ((below_drewN' _ jj).mono HA2.out.size)
          clear hU
          refine hK.out _ _ kU (fun hHeld => ?_)
          clear hK K
          try simp only [Act.put, List.setIfInBounds_toArray, List.set_cons_zero, List.set_cons_succ, List.getElem_toArray, List.getElem_cons_succ, List.getElem_cons_zero]
          refine wpAnyH_take (i := 9) (v := (.bool false)) rfl (by kernel_rfl) (by kernel_rfl) (by kernel_rfl) (fun _ _ _ h => h) (Or.inl ⟨by rfl, fun ww hSw => by (try dsimp only at hSw); go_simp⟩) (by assumption) ?_
          simp only [Act.put, List.setIfInBounds_toArray, List.set_cons_zero, List.set_cons_succ, List.getElem_toArray, List.getElem_cons_succ, List.getElem_cons_zero]
          refine wpAnyH_take (i := 10) (v := (.bool false)) rfl (by kernel_rfl) (by kernel_rfl) (by kernel_rfl) (fun _ _ _ h => h) (Or.inl ⟨by rfl, fun ww hSw => by (try dsimp only at hSw); go_simp⟩) (by assumption) ?_
          simp only [Act.put, List.setIfInBounds_toArray, List.set_cons_zero, List.set_cons_succ, List.getElem_toArray, List.getElem_cons_succ, List.getElem_cons_zero]
          refine wpAnyH_take (i := 11) (v := (.pointer (some ⟨xb, 0, .none⟩))) rfl (by kernel_rfl) (by kernel_rfl) (by kernel_rfl) (fun _ _ _ h => h) (Or.inl ⟨by rfl, fun ww hSw => by (try dsimp only at hSw); go_simp⟩) (by assumption) ?_
          simp only [Act.put, List.setIfInBounds_toArray, List.set_cons_zero, List.set_cons_succ, List.getElem_toArray, List.getElem_cons_succ, List.getElem_cons_zero]
          refine wpAnyH_take (i := 12) (v := (.int .i64 a0)) rfl (by kernel_rfl) (by kernel_rfl) (by kernel_rfl) (fun _ _ _ h => h) (Or.inl ⟨by rfl, fun ww hSw => by (try dsimp only at hSw); go_simp⟩) (by assumption) ?_
          simp only [Act.put, List.setIfInBounds_toArray, List.set_cons_zero, List.set_cons_succ, List.getElem_toArray, List.getElem_cons_succ, List.getElem_cons_zero]
          refine wpAnyH_take (i := 13) (v := (.bool true)) rfl (by kernel_rfl) (by kernel_rfl) (by kernel_rfl) (fun _ _ _ h => h) (Or.inl ⟨by rfl, fun ww hSw => by (try dsimp only at hSw); go_simp⟩) (by assumption) ?_
          simp only [Act.put, List.setIfInBounds_toArray, List.set_cons_zero, List.set_cons_succ, List.getElem_toArray, List.getElem_cons_succ, List.getElem_cons_zero]
          refine wpAnyH_take (i := 14) (v := (.bool true)) rfl (by kernel_rfl) (by kernel_rfl) (by kernel_rfl) (fun _ _ _ h => h) (Or.inl ⟨by rfl, fun ww hSw => by (try dsimp only at hSw); go_simp⟩) (by assumption) ?_
          simp only [Act.put, List.setIfInBounds_toArray, List.set_cons_zero, List.set_cons_succ, List.getElem_toArray, List.getElem_cons_succ, List.getElem_cons_zero]
          refine wpAnyH_take (i := 15) (v := (.pointer (some ⟨xb, 3, .none⟩))) rfl (by kernel_rfl) (by kernel_rfl) (by kernel_rfl) (fun _ _ _ h => h) (Or.inl ⟨by rfl, fun ww hSw => by (try dsimp only at hSw); go_simp⟩) (by assumption) ?_
          simp only [Act.put, List.setIfInBounds_toArray, List.set_cons_zero, List.set_cons_succ, List.getElem_toArray, List.getElem_cons_succ, List.getElem_cons_zero]
          refine wpAnyH_take (i := 16) (v := (.agg #[.int .i64 a3, .int .i64 a4])) rfl (by kernel_rfl) (by kernel_rfl) (by kernel_rfl) (fun _ _ _ h => h) (Or.inl ⟨by rfl, fun ww hSw => by (try dsimp only at hSw); go_simp⟩) (by assumption) ?_
          simp only [Act.put, List.setIfInBounds_toArray, List.set_cons_zero, List.set_cons_succ, List.getElem_toArray, List.getElem_cons_succ, List.getElem_cons_zero]
          refine wpAnyH_take (i := 17) (v := (.int .i64 0)) rfl (by kernel_rfl) (by kernel_rfl) (by kernel_rfl) (fun _ _ _ h => h) (Or.inl ⟨by rfl, fun ww hSw => by (try dsimp only at hSw); go_simp⟩) (by assumption) ?_
          simp only [Act.put, List.setIfInBounds_toArray, List.set_cons_zero, List.set_cons_succ, List.getElem_toArray, List.getElem_cons_succ, List.getElem_cons_zero]
          refine wpAnyH_take (i := 18) (v := (.agg #[.int .i64 5, .int .i64 0])) rfl (by kernel_rfl) (by kernel_rfl) (by kernel_rfl) (fun _ _ _ h => h) (Or.inl ⟨by rfl, fun ww hSw => by (try dsimp only at hSw); go_simp⟩) (by assumption) ?_
          simp only [Act.put, List.setIfInBounds_toArray, List.set_cons_zero, List.set_cons_succ, List.getElem_toArray, List.getElem_cons_succ, List.getElem_cons_zero]
          refine wpAnyH_take (i := 19) (v := (.bool false)) rfl (by kernel_rfl) (by kernel_rfl) (by kernel_rfl) (fun _ _ _ h => h) (Or.inl ⟨by rfl, fun ww hSw => by (try dsimp only at hSw); go_simp⟩) (by assumption) ?_
          simp only [Act.put, List.setIfInBounds_toArray, List.set_cons_zero, List.set_cons_succ, List.getElem_toArray, List.getElem_cons_succ, List.getElem_cons_zero]
          refine wpAnyH_take (i := 20) (v := (.bool false)) rfl (by kernel_rfl) (by kernel_rfl) (by kernel_rfl) (fun _ _ _ h => h) (Or.inl ⟨by rfl, fun ww hSw => by (try dsimp only at hSw); go_simp⟩) (by assumption) ?_
          simp only [Act.put, List.setIfInBounds_toArray, List.set_cons_zero, List.set_cons_succ, List.getElem_toArray, List.getElem_cons_succ, List.getElem_cons_zero]
          refine wpAnyH_take (i := 21) (v := (.slice pp PP.length pc)) rfl (by kernel_rfl) (by kernel_rfl) (by kernel_rfl) (fun _ _ _ h => h) (Or.inl ⟨by rfl, fun ww hSw => by (try dsimp only at hSw); go_simp⟩) (by assumption) ?_
          simp only [Act.put, List.setIfInBounds_toArray, List.set_cons_zero, List.set_cons_succ, List.getElem_toArray, List.getElem_cons_succ, List.getElem_cons_zero]
          refine wpAnyH_take (i := 22) (v := (.int .i64 PP.length)) rfl (by kernel_rfl) (by kernel_rfl) (by kernel_rfl) (fun _ _ _ h => h) (Or.inl ⟨by rfl, fun ww hSw => by (try dsimp only at hSw); go_simp⟩) (by assumption) ?_
          simp only [Act.put, List.setIfInBounds_toArray, List.set_cons_zero, List.set_cons_succ, List.getElem_toArray, List.getElem_cons_succ, List.getElem_cons_zero]
          refine wpAnyH_take (i := 23) (v := (.pointer (some ⟨xb, 1, .none⟩))) rfl (by kernel_rfl) (by kernel_rfl) (by kernel_rfl) (fun _ _ _ h => h) (Or.inl ⟨by rfl, fun ww hSw => by (try dsimp only at hSw); go_simp⟩) (by assumption) ?_
          simp only [Act.put, List.setIfInBounds_toArray, List.set_cons_zero, List.set_cons_succ, List.getElem_toArray, List.getElem_cons_succ, List.getElem_cons_zero]
          refine wpAnyH_take (i := 24) (v := (.int .i64 pn)) rfl (by kernel_rfl) (by kernel_rfl) (by kernel_rfl) (fun _ _ _ h => h) (Or.inl ⟨by rfl, fun ww hSw => by (try dsimp only at hSw); go_simp⟩) (by assumption) ?_
          simp only [Act.put, List.setIfInBounds_toArray, List.set_cons_zero, List.set_cons_succ, List.getElem_toArray, List.getElem_cons_succ, List.getElem_cons_zero]
          refine wpAnyH_take (i := 25) (v := (.int .i64 ((PP.length : Int) + pn))) rfl (by kernel_rfl) (by kernel_rfl) (by kernel_rfl) (fun _ _ _ h => h) (Or.inl ⟨by rfl, fun ww hSw => by (try dsimp only at hSw); go_simp⟩) (by assumption) ?_
          simp only [Act.put, List.setIfInBounds_toArray, List.set_cons_zero, List.set_cons_succ, List.getElem_toArray, List.getElem_cons_succ, List.getElem_cons_zero]
          refine wpAnyH_take (i := 26) (v := (.slice tp T.length tc)) rfl (by kernel_rfl) (by kernel_rfl) (by kernel_rfl) (fun _ _ _ h => h) (Or.inl ⟨by rfl, fun ww hSw => by (try dsimp only at hSw); go_simp⟩) (by assumption) ?_
          simp only [Act.put, List.setIfInBounds_toArray, List.set_cons_zero, List.set_cons_succ, List.getElem_toArray, List.getElem_cons_succ, List.getElem_cons_zero]
          refine wpAnyH_take (i := 27) (v := (.int .i64 T.length)) rfl (by kernel_rfl) (by kernel_rfl) (by kernel_rfl) (fun _ _ _ h => h) (Or.inl ⟨by rfl, fun ww hSw => by (try dsimp only at hSw); go_simp⟩) (by assumption) ?_
          simp only [Act.put, List.setIfInBounds_toArray, List.set_cons_zero, List.set_cons_succ, List.getElem_toArray, List.getElem_cons_succ, List.getElem_cons_zero]
          refine wpAnyH_take (i := 28) (v := (.int .i64 512)) rfl (by kernel_rfl) (by kernel_rfl) (by kernel_rfl) (fun _ _ _ h => h) (Or.inl ⟨by rfl, fun ww hSw => by (try dsimp only at hSw); go_simp⟩) (by assumption) ?_
          simp only [Act.put, List.setIfInBounds_toArray, List.set_cons_zero, List.set_cons_succ, List.getElem_toArray, List.getElem_cons_succ, List.getElem_cons_zero]
          refine wpAnyH_take (i := 29) (v := (.bool false)) rfl (by kernel_rfl) (by kernel_rfl) (by kernel_rfl) (fun _ _ _ h => h) (Or.inl ⟨by rfl, fun ww hSw => by (try dsimp only at hSw); go_simp⟩) (by assumption) ?_
          simp only [Act.put, List.setIfInBounds_toArray, List.set_cons_zero, List.set_cons_succ, List.getElem_toArray, List.getElem_cons_succ, List.getElem_cons_zero]
          refine wpAnyH_take (i := 30) (v := (.bool false)) rfl (by kernel_rfl) (by kernel_rfl) (by kernel_rfl) (fun _ _ _ h => h) (Or.inl ⟨by rfl, fun ww hSw => by (try dsimp only at hSw); go_simp⟩) (by assumption) ?_
          simp only [Act.put, List.setIfInBounds_toArray, List.set_cons_zero, List.set_cons_succ, List.getElem_toArray, List.getElem_cons_succ, List.getElem_cons_zero]
          refine wpAnyH_take (i := 31) (v := (.bool false)) rfl (by kernel_rfl) (by kernel_rfl) (by kernel_rfl) (fun _ _ _ h => h) (Or.inl ⟨by rfl, fun ww hSw => by (try dsimp only at hSw); go_simp⟩) (by assumption) ?_
          simp only [Act.put, List.setIfInBounds_toArray, List.set_cons_zero, List.set_cons_succ, List.getElem_toArray, List.getElem_cons_succ, List.getElem_cons_zero]
          refine wpAnyH_take (i := 32) (v := (.bool false)) rfl (by kernel_rfl) (by kernel_rfl) (by kernel_rfl) (fun _ _ _ h => h) (Or.inl ⟨by rfl, fun ww hSw => by (try dsimp only at hSw); go_simp⟩) (by assumption) ?_
          simp only [Act.put, List.setIfInBounds_toArray, List.set_cons_zero, List.set_cons_succ, List.getElem_toArray, List.getElem_cons_succ, List.getElem_cons_zero]
          refine wpAnyH_done (by kernel_rfl) ?_ _
          go_wp2
          go_meet
          case rel => exact ⟨rfl, HU.out⟩
      case rest =>
        as_aux_lemma =>
        obtain ⟨rfl, hwc⟩ := hcut
        obtain ⟨V5, hV5⟩ : ∃ V5, V5 = wc := ⟨_, rfl⟩
        subst hV5
        have H5 : Hid (Oh w V5 X s tb cb fb pb z1 z2 q (setF (setF (fun _ => none) 0 (some z1)) 1 (some z2)) (xs ++ ys.take pn) true true PP T (.slice pp PP.length pc) (.slice tp T.length tc) ∧ G6 V5 xb a0 pn a3 a4 (.slice wp wn wq) ∧ xb < V5.heap.size) := ⟨H4.out.1.below DS.out hwc.out, H4.out.2.1.keep (hwc.out.block _ H4.out.2.2.2.1), by have := hwc.out.size; have := H4.out.2.2.2.1; omega⟩
        have HOB : Hid ((∀ g, (Value.slice pp PP.length pc).ownBlock = some g → g < xb) ∧ (∀ g, (Value.slice tp T.length tc).ownBlock = some g → g < xb)) := H4.out.2.2.2.2
        clear H4 hwc HCase
        go_wp2
        go_loopw [14, 18] (fun pv i wd => ∃ k : Nat, k ≤ pn ∧ i = .int .i64 k ∧ ∃ Q p cc, pv = .slice p (List.length Q) cc ∧ Hid (Q = PP ++ ys.take k ∧ Oh w wd X s tb cb fb pb z1 z2 q (setF (setF (fun _ => none) 0 (some z1)) 1 (some z2)) (xs ++ ys.take pn) true true Q T (.slice p (List.length Q) cc) (.slice tp T.length tc) ∧ Grw V5 wd (.slice pp PP.length pc) (.slice p (List.length Q) cc))) (fun _ i _ => (pn - intOf i).toNat)
        case atStart => exact ⟨0, by omega, rfl, PP, pp, pc, rfl, by simp, H5.out.1, Grw.refl _ _⟩
        case round =>
          as_aux_lemma =>
          obtain ⟨k, hk, rfl, Q, p, cc, rfl, HQ⟩ := hrel
          have x1 : wr.cell? ⟨xb, 1, .none⟩ = some (.int .i64 pn) := (World.cell?_of_block (HQ.out.2.2.blk xb H5.out.2.2 (fun e => by have := HOB.out.1 xb e; omega))).trans H5.out.2.1.c1
          have hQl : Hid (Q.length = PP.length + k) := by
            show Q.length = _
            have := hyl.out
            rw [HQ.out.1, List.length_append, List.length_take]; omega
          by_cases hlk : k < pn
          · have k1 : (k : Int) < pn := by omega
            have k0 := HK.out wr HQ.out.2.1.bel
            obtain ⟨b1, o1, hds, hb1, hby⟩ : ∃ b o, ds = some ⟨b, o, .none⟩ ∧ b < w.heap.size ∧ ∀ i x, ys[i]? = some x → w.cell? ⟨b, o + i, .none⟩ = some (.int .u8 x) := by
              rcases HB.out.1.2.2.2 with h | h
              · omega
              · exact h
            have hx : ∃ x, ys[k]? = some x := ⟨ys[k]'(by rw [hyl.out]; omega), by simp⟩
            obtain ⟨x, hx⟩ := hx
            have a9 : wr.cell? ⟨b1, o1 + k, .none⟩ = some (.int .u8 x) := (HQ.out.2.1.bel.cell hb1).trans (hby k x hx)
            have HT1 : Hid (ys.take k ++ [x] = ys.take (k + 1)) := take_next hx
            have hkd : (k : Int) < dl := by omega
            subst hds
            clear hx hby
            go_wp2_with (first | (at_builtin; refine wpList_append_keep _ rfl (.tmp 152) (.tmp 160) 35 rfl X 5 i3 z3 1 Tryz.underlying35 HI.out.1 HI.out.2.1 HI.out.2.2.1 HI.out.2.2.2.1 HI.out.2.2.2.2 (.slice p Q.length cc) Q.length (by8 Q) rfl (HQ.out.2.1.op.alloc _) ⟨wr.heap.size, 0, .none⟩ 1 (.int .u8 x) rfl (le_one _ _ _) rfl rfl ?c4 ?c5 ?c6 ?_) | go_in)
            case c4 => have := hQl.out; simp only [maxLen]; omega
            case c5 => have := hQl.out; omega
            case c6 => have := HQ.out.2.1.hX2; simp only [World.size_alloc]; omega
            intro v' w2 own' grow hkp bN
            first | rintro ⟨hb1', hb2'⟩ | intro hb1' hb2'
            have hput := HQ.out.2.1.put DS.out own' grow ⟨bN, hb1', by rw [World.size_alloc]; exact hb2'⟩
            have hgr := HQ.out.2.2.step (pv' := v') grow ⟨bN, hb1', by rw [World.size_alloc]; exact hb2'⟩
            obtain ⟨p', c', rfl⟩ := one_slice own'
            have HN : Hid (Q ++ [x] = PP ++ ys.take (k + 1) ∧ Oh w w2 X s tb cb fb pb z1 z2 q (setF (setF (fun _ => none) 0 (some z1)) 1 (some z2)) (xs ++ ys.take pn) true true (Q ++ [x]) T (.slice p' (Q.length + 1) c') (.slice tp T.length tc) ∧ Grw V5 w2 (.slice pp PP.length pc) (.slice p' (Q.length + 1) c')) := ⟨by rw [HQ.out.1, List.append_assoc, HT1.out], hput, hgr⟩
            have hl1 : (Q ++ [x]).length = Q.length + 1 := by rw [List.length_append]; rfl
            clear own' grow hkp hb1' hb2' hput hgr
            go_wp2
            exact ⟨⟨k + 1, by omega, rfl, Q ++ [x], p', c', by rw [hl1], by rw [hl1]; exact HN.out⟩, by simp only [intOf]; omega⟩
          · obtain rfl : k = pn := by omega
            have k1 : ¬ ((k : Int) < k) := by omega
            have H6 : Hid (Q = T ++ (xs ++ ys.take k) ∧ Oh w wr X s tb cb fb pb z1 z2 q (setF (setF (fun _ => none) 0 (some z1)) 1 (some z2)) (xs ++ ys.take k) true true Q T (.slice p Q.length cc) (.slice tp T.length tc)) := ⟨by rw [HQ.out.1, HE.out, List.append_assoc], HQ.out.2.1⟩
            have hQ5 : Q.length ≤ 512 * (K + 1) := by have := hQl.out; omega
            obtain ⟨ws, hws⟩ : ∃ ws, ws = xs ++ ys.take k := ⟨_, rfl⟩
            rw [← hws] at H6
            have hwl : Hid (T.length + ws.length = Q.length) := by
              show _ = _
              rw [H6.out.1, List.length_append]
            go_upto_if 165 with fail
            clear hk hlk k1 HQ H5 HOB hQl HE hTP hxl hPl hpl HB hyl hdc hdm h3 i3' HK x1 hws
            go_cut [19] (fun s19 wc => ∃ n : Int, s19 = .int .i64 n ∧ wc = wr)
            case first =>
              as_aux_lemma =>
              by_cases hk1 : K < m1
              · have g2 : (K : Int) < m1 := by omega
                obtain ⟨rb, ro, hq, hrb, hcell⟩ : ∃ b o, q1 = some ⟨b, o, .none⟩ ∧ b < w.heap.size ∧ ∀ i, i < m1 → w.cell? ⟨b, o + i, .none⟩ = some (.int .i64 (R i)) := by
                  rcases HR.out.at' with h | h
                  · omega
                  · exact h
                subst hq
                have r0 : wr.cell? ⟨rb, ro + K, .none⟩ = some (.int .i64 (R K)) := (H6.out.2.bel.cell (p := ⟨rb, _, .none⟩) hrb).trans (hcell K hk1)
                clear hcell
                go_wp2
                go_meet
                case rel => exact ⟨_, rfl, rfl⟩
              · have g2 : ¬ ((K : Int) < m1) := by omega
                go_wp2
                go_meet
                case rel => exact ⟨_, rfl, rfl⟩
            case rest =>
              as_aux_lemma =>
              obtain ⟨n, rfl, hwc⟩ := hcut
              obtain rfl : wr = wc := hwc.symm
              have cpk := mc_peek H6.out.2.mc rfl n
              go_wp2_with fail
              refine cpk.mono ?_
              rintro e V7 ⟨v, rfl, hAn, hb7⟩
              have H7 : Hid (Oh w V7 X s tb cb fb pb z1 z2 q (setF (setF (fun _ => none) 0 (some z1)) 1 (some z2)) ws true true Q T (.slice p Q.length cc) (.slice tp T.length tc)) := H6.out.2.below DS.out hb7
              have HQT : Hid (Q = T ++ ws) := H6.out.1
              have HA7 : Hid (Ans V7 wr.heap.size (ga ws n true) (ws.take (takeN ws n)) (gk ws n true) v) := hAn
              have hqw : q < wr.heap.size := by have := DS.out.h; have := H6.out.2.hX2; omega
              obtain ⟨dp, dc', p2, m2, d2, rfl, _⟩ := hAn
              have hzl : (ws.take (takeN ws n)).length = takeN ws n := take_len ws n
              have hz5 : takeN ws n ≤ ws.length ∧ (n < 0 → takeN ws n = 0) ∧ (0 ≤ n → (takeN ws n : Int) ≤ n) := by unfold takeN; omega
              have hw5 : ws.length ≤ 512 := H6.out.2.mc.len.1
              have HGA : Hid (ga ws n true = if n < 0 then 3 else if 1 ≤ n ∧ ws.length = 0 then 2 else 1) := by show _ = _; simp [ga]
              have HGK : Hid (gk ws n true = if n < 0 then 0 else if 1 ≤ n ∧ ws.length = 0 then 4 else 0) := by show _ = _; simp [gk]
              rw [hzl]
              obtain ⟨zs, hzs⟩ : ∃ zs, zs = ws.take (takeN ws n) := ⟨_, rfl⟩
              obtain ⟨xr, hxr⟩ : ∃ xr, xr = ws.drop (takeN ws n) := ⟨_, rfl⟩
              obtain ⟨tk, htk⟩ : ∃ tk, tk = takeN ws n := ⟨_, rfl⟩
              obtain ⟨gA, hgA⟩ : ∃ g, g = ga ws n true := ⟨_, rfl⟩
              obtain ⟨gK, hgK⟩ : ∃ g, g = gk ws n true := ⟨_, rfl⟩
              have HZ : Hid (ws = zs ++ xr ∧ zs.length = tk ∧ xr.length + tk = ws.length) := by
                rw [hzs, hxr, htk]
                exact ⟨(List.take_append_drop _ _).symm, hzl, by rw [List.length_drop]; omega⟩
              rw [← hzs, ← hgA, ← hgK] at HA7
              rw [← hgA] at HGA
              rw [← hgK] at HGK
              rw [← htk, ← hgA, ← hgK]
              rw [← htk] at hz5
              have crd : ∀ V : World, Oh w V X s tb cb fb pb z1 z2 q (setF (setF (fun _ => none) 0 (some z1)) 1 (some z2)) ws true true Q T (.slice p Q.length cc) (.slice tp T.length tc) → Calls Tryz.prog 12 #[.pointer (some ⟨s, 0, .none⟩), .int .i64 0, .int .i64 n] V fun e w' => ∃ v, e = .returned v ∧ Ans w' V.heap.size gA zs gK v ∧ Mc w' s tb cb fb pb z1 z2 q (setF (setF (fun _ => none) 0 (some z1)) 1 (some z2)) xr true true ∧ Trn q V w' := by
                intro V hV
                rw [hgA, hzs, hgK, hxr]
                exact mc_read hV.mc rfl DS.out hV.hX2 n
              have HRD : Hid (∀ V : World, Oh w V X s tb cb fb pb z1 z2 q (setF (setF (fun _ => none) 0 (some z1)) 1 (some z2)) ws true true Q T (.slice p Q.length cc) (.slice tp T.length tc) → Calls Tryz.prog 12 #[.pointer (some ⟨s, 0, .none⟩), .int .i64 0, .int .i64 n] V fun e w' => ∃ v, e = .returned v ∧ Ans w' V.heap.size gA zs gK v ∧ Mc w' s tb cb fb pb z1 z2 q (setF (setF (fun _ => none) 0 (some z1)) 1 (some z2)) xr true true ∧ Trn q V w') := crd
              have hb7s : Hid (wr.heap.size ≤ V7.heap.size) := hb7.size
              clear crd hzs hxr htk hgA hgK hzl cpk hb7 H6
              go_upto_region 27 with fail
              obtain ⟨pb1, hpb1⟩ : ∃ b, b = V7.heap.size := ⟨_, rfl⟩
              obtain ⟨V8, hV8⟩ : ∃ V8, V8 = V7.alloc (.cells #[.int .i64 gA, .slice dp tk dc', .int .i64 gK, .int .i64 0, .slice p2 m2 d2] 45) := ⟨_, rfl⟩
              rw [← hV8, ← hpb1]
              have H8 : Hid (Oh w V8 X s tb cb fb pb z1 z2 q (setF (setF (fun _ => none) 0 (some z1)) 1 (some z2)) ws true true Q T (.slice p Q.length cc) (.slice tp T.length tc) ∧ G5 V8 pb1 gA (.slice dp tk dc') gK 0 (.slice p2 m2 d2) ∧ Ans V8 wr.heap.size gA zs gK (.agg #[.int .i64 gA, .slice dp tk dc', .int .i64 gK, .int .i64 0, .slice p2 m2 d2]) ∧ pb1 < V8.heap.size ∧ wr.heap.size ≤ pb1 ∧ X ≤ pb1) := by
                have hb := Trn.new V7 (.cells #[.int .i64 gA, .slice dp tk dc', .int .i64 gK, .int .i64 0, .slice p2 m2 d2] 45)
                rw [hV8, hpb1]
                have hA := HA7.out
                rw [HZ.out.2.1] at hA
                exact ⟨H7.out.below DS.out hb, G5.new _ _ _ _ _ _, hA.below hb, by simp, hb7s.out, H7.out.hX2⟩
              clear hV8 hpb1 H7 HA7
              go_wp2_with fail
              refine (HRD.out V8 H8.out.1).mono ?_
              rintro e V9 ⟨v, rfl, hAn, hMc, hT⟩
              have HA9 : Hid (Ans V9 V8.heap.size gA zs gK v) := hAn
              obtain ⟨ep, ec, p3, m3, d3, rfl, _⟩ := hAn
              rw [HZ.out.2.1] at HA9 ⊢
              have H9 : Hid (Oh w V9 X s tb cb fb pb z1 z2 q (setF (setF (fun _ => none) 0 (some z1)) 1 (some z2)) xr true true Q T (.slice p Q.length cc) (.slice tp T.length tc) ∧ G5 V9 pb1 gA (.slice dp tk dc') gK 0 (.slice p2 m2 d2) ∧ Ans V9 wr.heap.size gA zs gK (.agg #[.int .i64 gA, .slice dp tk dc', .int .i64 gK, .int .i64 0, .slice p2 m2 d2]) ∧ pb1 < V9.heap.size ∧ V8.heap.size ≤ V9.heap.size ∧ (∀ g, (Value.slice tp T.length tc).ownBlock = some g → g < V8.heap.size)) := by
                refine ⟨H8.out.1.trn DS.out hT hMc, H8.out.2.1.keep (hT.block _ H8.out.2.2.2.1 (by have := DS.out.h; have := H8.out.2.2.2.2.2; omega)), H8.out.2.2.1.trn hT hqw, by have := hT.size; have := H8.out.2.2.2.1; omega, hT.size, own_lt2 H8.out.1.ot⟩
              clear hMc hT H8 HRD
              go_upto_region 28 with fail
              obtain ⟨bb1, hbb1⟩ : ∃ b, b = V9.heap.size := ⟨_, rfl⟩
              obtain ⟨V10, hV10⟩ : ∃ V, V = V9.alloc (.cells #[.int .i64 gA, .slice ep tk ec, .int .i64 gK, .int .i64 0, .slice p3 m3 d3] 45) := ⟨_, rfl⟩
              rw [← hV10, ← hbb1]
              have H10 : Hid (Oh w V10 X s tb cb fb pb z1 z2 q (setF (setF (fun _ => none) 0 (some z1)) 1 (some z2)) xr true true Q T (.slice p Q.length cc) (.slice tp T.length tc) ∧ G5 V10 pb1 gA (.slice dp tk dc') gK 0 (.slice p2 m2 d2) ∧ G5 V10 bb1 gA (.slice ep tk ec) gK 0 (.slice p3 m3 d3) ∧ Ans V10 V8.heap.size gA zs gK (.agg #[.int .i64 gA, .slice ep tk ec, .int .i64 gK, .int .i64 0, .slice p3 m3 d3]) ∧ bb1 < V10.heap.size ∧ V8.heap.size ≤ bb1 ∧ (∀ g, (Value.slice tp T.length tc).ownBlock = some g → g < V8.heap.size)) ∧ Hid (Ans V10 wr.heap.size gA zs gK (.agg #[.int .i64 gA, .slice dp tk dc', .int .i64 gK, .int .i64 0, .slice p2 m2 d2])) := by
                have hb := Trn.new V9 (.cells #[.int .i64 gA, .slice ep tk ec, .int .i64 gK, .int .i64 0, .slice p3 m3 d3] 45)
                rw [hV10, hbb1]
                exact ⟨⟨H9.out.1.below DS.out hb, H9.out.2.1.keep (hb.block _ H9.out.2.2.2.1), G5.new _ _ _ _ _ _, HA9.out.below hb, by simp, H9.out.2.2.2.2⟩, H9.out.2.2.1.below hb⟩
              have HA10 := H10.2
              have H10 := H10.1
              have cg := got_ans (w := V10) (zs := zs) (by have := HZ.out; omega) HA10.out H10.out.2.2.2.1
              have u0 := H10.out.2.1.c0
              have u1 := H10.out.2.1.c1
              have u2 := H10.out.2.1.c2
              have u3 := H10.out.2.1.c3
              have u4 := H10.out.2.1.c4
              have v0 := H10.out.2.2.1.c0
              have v1 := H10.out.2.2.1.c1
              have v2 := H10.out.2.2.1.c2
              have v3 := H10.out.2.2.1.c3
              have v4 := H10.out.2.2.1.c4
              clear hV10 hbb1 H9 HA9 HA10
              go_wp2_with fail
              refine cg.mono ?_
              rintro e V11 ⟨rfl, hb11⟩
              have H11 : Hid (Oh w V11 X s tb cb fb pb z1 z2 q (setF (setF (fun _ => none) 0 (some z1)) 1 (some z2)) xr true true Q T (.slice p Q.length cc) (.slice tp T.length tc) ∧ G5 V11 bb1 gA (.slice ep tk ec) gK 0 (.slice p3 m3 d3) ∧ Ans V11 V8.heap.size gA zs gK (.agg #[.int .i64 gA, .slice ep tk ec, .int .i64 gK, .int .i64 0, .slice p3 m3 d3]) ∧ bb1 < V11.heap.size ∧ V8.heap.size ≤ bb1 ∧ (∀ g, (Value.slice tp T.length tc).ownBlock = some g → g < V8.heap.size)) := ⟨H10.out.1.below DS.out hb11, H10.out.2.2.1.keep (hb11.block _ H10.out.2.2.2.2.1), H10.out.2.2.2.1.below hb11, by have := hb11.size; have := H10.out.2.2.2.2.1; omega, H10.out.2.2.2.2.2⟩
              clear cg u0 u1 u2 u3 u4 v0 v1 v2 v3 v4 H10 hb11
              go_upto_block 4 with fail
              go_cut [19] (fun s19 wc => s19 = .int .i64 n ∧ Hid (Below V11.heap.size V11 wc))
              case first =>
                as_aux_lemma =>
                by_cases hn : n < 0
                · have eA : gA = 3 := by rw [HGA.out, if_pos hn]
                  have v0 : V11.cell? ⟨bb1, 0, .none⟩ = some (.int .i64 3) := by rw [← eA]; exact H11.out.2.1.c0
                  go_wp2
                  go_meet
                  case rel => exact ⟨rfl, Below.refl _ _⟩
                by_cases hw : 1 ≤ n ∧ ws.length = 0
                · have eA : gA = 2 := by rw [HGA.out, if_neg hn, if_pos hw]
                  have eK : gK = 4 := by rw [HGK.out, if_neg hn, if_pos hw]
                  have v0 : V11.cell? ⟨bb1, 0, .none⟩ = some (.int .i64 2) := by rw [← eA]; exact H11.out.2.1.c0
                  have v2 : V11.cell? ⟨bb1, 2, .none⟩ = some (.int .i64 4) := by rw [← eK]; exact H11.out.2.1.c2
                  have v3 := H11.out.2.1.c3
                  have h1 : ((Q.length : Int) != (T.length : Int)) = false := by
                    have := hwl.out
                    have : (Q.length : Int) = T.length := by omega
                    simp [this]
                  have h2 : (n == 0) = false := by
                    have : n ≠ 0 := by omega
                    simpa using this
                  clear eA eK hw
                  go_wp2
                  go_meet
                  case rel => exact ⟨rfl, Below.refl _ _⟩
                have eA : gA = 1 := by rw [HGA.out, if_neg hn, if_neg hw]
                have v0 : V11.cell? ⟨bb1, 0, .none⟩ = some (.int .i64 1) := by rw [← eA]; exact H11.out.2.1.c0
                go_upto_region 36 with fail
                have j0 : V11.drew.cell? ⟨bb1, 0, .none⟩ = some (.int .i64 1) ∧ V11.drew.cell? ⟨bb1, 1, .none⟩ = some (.slice ep tk ec) ∧ V11.drew.cell? ⟨bb1, 4, .none⟩ = some (.slice p3 m3 d3) := ⟨v0, H11.out.2.1.c1, H11.out.2.1.c4⟩
                obtain ⟨yb, hby⟩ : ∃ yb : Bool, yb = (tk != 0) := ⟨_, rfl⟩
                have HY : Hid ((tk != 0) = yb) := hby.symm
                have e1n : decide (0 < tk) = yb := by
                  rw [hby]
                  by_cases h : tk = 0
                  · subst h; rfl
                  · rw [decide_eq_true (by omega)]; simp [h]
                have e1 : decide ((0 : Int) < tk) = yb := by
                  rw [← e1n]; by_cases h : tk = 0
                  · subst h; rfl
                  · rw [decide_eq_true (by omega), decide_eq_true (by omega)]
                have e2 : (yb != yb) = false := by simp
                have e3 : ¬ (n < (tk : Int)) := by omega
                have e3n : (tk : Int) ≤ n := by omega
                clear hby v0 eA
                refine wp_region_held_drew (S := fun U => U.cell? ⟨bb1, 0, .none⟩ = some (.int .i64 1) ∧ U.cell? ⟨bb1, 1, .none⟩ = some (.slice ep tk ec) ∧ U.cell? ⟨bb1, 4, .none⟩ = some (.slice p3 m3 d3)) (by kernel_rfl) j0 (fun hHeld => ?_)
                refine wpAnyH_take (i := 0) (v := (.pointer (some ⟨bb1, 0, .none⟩))) rfl (by kernel_rfl) (by kernel_rfl) (by kernel_rfl) (fun _ _ _ h => h) (Or.inl ⟨by rfl, fun ww hSw => by (try dsimp only at hSw); go_simp⟩) (by assumption) ?_
                simp only [Act.put, List.setIfInBounds_toArray, List.set_cons_zero, List.set_cons_succ, List.getElem_toArray, List.getElem_cons_succ, List.getElem_cons_zero]
                refine wpAnyH_take (i := 1) (v := (.int .i64 1)) rfl (by kernel_rfl) (by kernel_rfl) (by kernel_rfl) (fun _ _ _ h => h) (Or.inl ⟨by rfl, fun ww hSw => by (try dsimp only at hSw); go_simp⟩) (by assumption) ?_
                simp only [Act.put, List.setIfInBounds_toArray, List.set_cons_zero, List.set_cons_succ, List.getElem_toArray, List.getElem_cons_succ, List.getElem_cons_zero]
                refine wpAnyH_take (i := 2) (v := (.bool false)) rfl (by kernel_rfl) (by kernel_rfl) (by kernel_rfl) (fun _ _ _ h => h) (Or.inl ⟨by rfl, fun ww hSw => by (try dsimp only at hSw); go_simp⟩) (by assumption) ?_
                simp only [Act.put, List.setIfInBounds_toArray, List.set_cons_zero, List.set_cons_succ, List.getElem_toArray, List.getElem_cons_succ, List.getElem_cons_zero]
                refine wpAnyH_take (i := 3) (v := (.bool false)) rfl (by kernel_rfl) (by kernel_rfl) (by kernel_rfl) (fun _ _ _ h => h) (Or.inl ⟨by rfl, fun ww hSw => by (try dsimp only at hSw); go_simp⟩) (by assumption) ?_
                simp only [Act.put, List.setIfInBounds_toArray, List.set_cons_zero, List.set_cons_succ, List.getElem_toArray, List.getElem_cons_succ, List.getElem_cons_zero]
                refine wpAnyH_take (i := 4) (v := (.pointer (some ⟨bb1, 1, .none⟩))) rfl (by kernel_rfl) (by kernel_rfl) (by kernel_rfl) (fun _ _ _ h => h) (Or.inl ⟨by rfl, fun ww hSw => by (try dsimp only at hSw); go_simp⟩) (by assumption) ?_
                simp only [Act.put, List.setIfInBounds_toArray, List.set_cons_zero, List.set_cons_succ, List.getElem_toArray, List.getElem_cons_succ, List.getElem_cons_zero]
                refine wpAnyH_take (i := 5) (v := (.slice ep tk ec)) rfl (by kernel_rfl) (by kernel_rfl) (by kernel_rfl) (fun _ _ _ h => h) (Or.inl ⟨by rfl, fun ww hSw => by (try dsimp only at hSw); go_simp⟩) (by assumption) ?_
                simp only [Act.put, List.setIfInBounds_toArray, List.set_cons_zero, List.set_cons_succ, List.getElem_toArray, List.getElem_cons_succ, List.getElem_cons_zero]
                refine wpAnyH_take (i := 6) (v := (.int .i64 tk)) rfl (by kernel_rfl) (by kernel_rfl) (by kernel_rfl) (fun _ _ _ h => h) (Or.inl ⟨by rfl, fun ww hSw => by (try dsimp only at hSw); go_simp⟩) (by assumption) ?_
                simp only [Act.put, List.setIfInBounds_toArray, List.set_cons_zero, List.set_cons_succ, List.getElem_toArray, List.getElem_cons_succ, List.getElem_cons_zero]
                refine wpAnyH_take (i := 7) (v := (.bool yb)) rfl (by kernel_rfl) (by kernel_rfl) (by kernel_rfl) (fun _ _ _ h => h) (Or.inl ⟨by rfl, fun ww hSw => by (try dsimp only at hSw); go_simp⟩) (by assumption) ?_
                simp only [Act.put, List.setIfInBounds_toArray, List.set_cons_zero, List.set_cons_succ, List.getElem_toArray, List.getElem_cons_succ, List.getElem_cons_zero]
                refine wpAnyH_take (i := 8) (v := (.pointer (some ⟨bb1, 4, .none⟩))) rfl (by kernel_rfl) (by kernel_rfl) (by kernel_rfl) (fun _ _ _ h => h) (Or.inl ⟨by rfl, fun ww hSw => by (try dsimp only at hSw); go_simp⟩) (by assumption) ?_
                simp only [Act.put, List.setIfInBounds_toArray, List.set_cons_zero, List.set_cons_succ, List.getElem_toArray, List.getElem_cons_succ, List.getElem_cons_zero]
                refine wpAnyH_take (i := 9) (v := (.slice p3 m3 d3)) rfl (by kernel_rfl) (by kernel_rfl) (by kernel_rfl) (fun _ _ _ h => h) (Or.inl ⟨by rfl, fun ww hSw => by (try dsimp only at hSw); go_simp⟩) (by assumption) ?_
                simp only [Act.put, List.setIfInBounds_toArray, List.set_cons_zero, List.set_cons_succ, List.getElem_toArray, List.getElem_cons_succ, List.getElem_cons_zero]
                refine wpAnyH_take (i := 10) (v := (.int .i64 0)) rfl (by kernel_rfl) (by kernel_rfl) (by kernel_rfl) (fun _ _ _ h => h) (Or.inl ⟨by rfl, fun ww hSw => by (try dsimp only at hSw); go_simp⟩) (by assumption) ?_
                simp only [Act.put, List.setIfInBounds_toArray, List.set_cons_zero, List.set_cons_succ, List.getElem_toArray, List.getElem_cons_succ, List.getElem_cons_zero]
                refine wpAnyH_take (i := 11) (v := (.agg #[.int .i64 5, .int .i64 0])) rfl (by kernel_rfl) (by kernel_rfl) (by kernel_rfl) (fun _ _ _ h => h) (Or.inl ⟨by rfl, fun ww hSw => by (try dsimp only at hSw); go_simp⟩) (by assumption) ?_
                simp only [Act.put, List.setIfInBounds_toArray, List.set_cons_zero, List.set_cons_succ, List.getElem_toArray, List.getElem_cons_succ, List.getElem_cons_zero]
                refine wpAnyH_ready (rs := [12]) (by kernel_rfl) (by simp) ?_
                refine AllReadyH.cons rfl (fun K hK => ?_) AllReadyH.nil
                go_simp
                have hbA := Trn.new V11.drew (.cells #[.int .i64 5, .int .i64 0] 37)
                have kA : (V11.drew.alloc (.cells #[.int .i64 5, .int .i64 0] 37)).cell? ⟨bb1, 0, .none⟩ = some (.int .i64 1) ∧ (V11.drew.alloc (.cells #[.int .i64 5, .int .i64 0] 37)).cell? ⟨bb1, 1, .none⟩ = some (.slice ep tk ec) ∧ (V11.drew.alloc (.cells #[.int .i64 5, .int .i64 0] 37)).cell? ⟨bb1, 4, .none⟩ = some (.slice p3 m3 d3) := by
                  have hx := H11.out.2.2.2.1
                  exact ⟨(hbA.cell (p := ⟨bb1, _, .none⟩) hx).trans j0.1, (hbA.cell (p := ⟨bb1, _, .none⟩) hx).trans j0.2.1, (hbA.cell (p := ⟨bb1, _, .none⟩) hx).trans j0.2.2⟩
                obtain ⟨_, _, _, _, _, hag, _, _, hch⟩ := H11.out.2.2.1
                simp only [Value.agg.injEq, Array.mk.injEq, List.cons.injEq, Value.slice.injEq, true_and, and_true] at hag
                obtain ⟨hgone, rfl, rfl, rfl⟩ := hag
                clear hgone
                rw [HZ.out.2.1] at hch
                have cch := chans_one (w := (V11.drew.alloc (.cells #[.int .i64 5, .int .i64 0] 37))) (h := V11.drew.heap.size) ((hch.below (below_drew' V11)).below hbA) (by rw [World.cell?_alloc_at _ _ _ _ rfl]; rfl) (by rw [World.cell?_alloc_at _ _ _ _ rfl]; rfl)
                rw [HY.out] at cch
                have HA2 : Hid (Below V11.heap.size V11 (V11.drew.alloc (.cells #[.int .i64 5, .int .i64 0] 37))) := (below_drew' V11).trans hbA
                clear hbA hch
                refine hK.out _ _ kA (fun hHeld => ?_)
                clear hK K
                try simp only [Act.put, List.setIfInBounds_toArray, List.set_cons_zero, List.set_cons_succ, List.getElem_toArray, List.getElem_cons_succ, List.getElem_cons_zero]
                refine wpAnyH_ready (rs := [13]) (by kernel_rfl) (by simp) ?_
                refine AllReadyH.cons rfl (fun K hK => ?_) AllReadyH.nil
                go_simp
                refine cch.mono ?_
                rintro _ U ⟨rfl, jj, hU⟩
                have kU : U.cell? ⟨bb1, 0, .none⟩ = some (.int .i64 1) ∧ U.cell? ⟨bb1, 1, .none⟩ = some (.slice ep tk ec) ∧ U.cell? ⟨bb1, 4, .none⟩ = some (.slice p3 m3 d3) := by rw [hU]; exact kA
                have HU : Hid (Below V11.heap.size V11 U) := by rw [hU]; exact HA2.out.trans ((below_drewN' _ jj).mono HA2.out.size)
                clear hU
                refine hK.out _ _ kU (fun hHeld => ?_)
                clear hK K
                try simp only [Act.put, List.setIfInBounds_toArray, List.set_cons_zero, List.set_cons_succ, List.getElem_toArray, List.getElem_cons_succ, List.getElem_cons_zero]
                refine wpAnyH_take (i := 14) (v := (.bool false)) rfl (by kernel_rfl) (by kernel_rfl) (by kernel_rfl) (fun _ _ _ h => h) (Or.inl ⟨by rfl, fun ww hSw => by (try dsimp only at hSw); go_simp⟩) (by assumption) ?_
                simp only [Act.put, List.setIfInBounds_toArray, List.set_cons_zero, List.set_cons_succ, List.getElem_toArray, List.getElem_cons_succ, List.getElem_cons_zero]
                refine wpAnyH_take (i := 15) (v := (.bool false)) rfl (by kernel_rfl) (by kernel_rfl) (by kernel_rfl) (fun _ _ _ h => h) (Or.inl ⟨by rfl, fun ww hSw => by (try dsimp only at hSw); go_simp⟩) (by assumption) ?_
                simp only [Act.put, List.setIfInBounds_toArray, List.set_cons_zero, List.set_cons_succ, List.getElem_toArray, List.getElem_cons_succ, List.getElem_cons_zero]
                refine wpAnyH_take (i := 16) (v := (.bool false)) rfl (by kernel_rfl) (by kernel_rfl) (by kernel_rfl) (fun _ _ _ h => h) (Or.inl ⟨by rfl, fun ww hSw => by (try dsimp only at hSw); go_simp⟩) (by assumption) ?_
                simp only [Act.put, List.setIfInBounds_toArray, List.set_cons_zero, List.set_cons_succ, List.getElem_toArray, List.getElem_cons_succ, List.getElem_cons_zero]
                refine wpAnyH_take (i := 17) (v := (.pointer (some ⟨bb1, 1, .none⟩))) rfl (by kernel_rfl) (by kernel_rfl) (by kernel_rfl) (fun _ _ _ h => h) (Or.inl ⟨by rfl, fun ww hSw => by (try dsimp only at hSw); go_simp⟩) (by assumption) ?_
                simp only [Act.put, List.setIfInBounds_toArray, List.set_cons_zero, List.set_cons_succ, List.getElem_toArray, List.getElem_cons_succ, List.getElem_cons_zero]
                refine wpAnyH_take (i := 18) (v := (.slice ep tk ec)) rfl (by kernel_rfl) (by kernel_rfl) (by kernel_rfl) (fun _ _ _ h => h) (Or.inl ⟨by rfl, fun ww hSw => by (try dsimp only at hSw); go_simp⟩) (by assumption) ?_
                simp only [Act.put, List.setIfInBounds_toArray, List.set_cons_zero, List.set_cons_succ, List.getElem_toArray, List.getElem_cons_succ, List.getElem_cons_zero]
                refine wpAnyH_take (i := 19) (v := (.int .i64 tk)) rfl (by kernel_rfl) (by kernel_rfl) (by kernel_rfl) (fun _ _ _ h => h) (Or.inl ⟨by rfl, fun ww hSw => by (try dsimp only at hSw); go_simp⟩) (by assumption) ?_
                simp only [Act.put, List.setIfInBounds_toArray, List.set_cons_zero, List.set_cons_succ, List.getElem_toArray, List.getElem_cons_succ, List.getElem_cons_zero]
                refine wpAnyH_take (i := 20) (v := (.int .i64 n)) rfl (by kernel_rfl) (by kernel_rfl) (by kernel_rfl) (fun _ _ _ h => h) (Or.inl ⟨by rfl, fun ww hSw => by (try dsimp only at hSw); go_simp⟩) (by assumption) ?_
                simp only [Act.put, List.setIfInBounds_toArray, List.set_cons_zero, List.set_cons_succ, List.getElem_toArray, List.getElem_cons_succ, List.getElem_cons_zero]
                refine wpAnyH_take (i := 21) (v := (.bool false)) rfl (by kernel_rfl) (by kernel_rfl) (by kernel_rfl) (fun _ _ _ h => h) (Or.inl ⟨by rfl, fun ww hSw => by (try dsimp only at hSw); go_simp⟩) (by assumption) ?_
                simp only [Act.put, List.setIfInBounds_toArray, List.set_cons_zero, List.set_cons_succ, List.getElem_toArray, List.getElem_cons_succ, List.getElem_cons_zero]
                refine wpAnyH_take (i := 22) (v := (.bool false)) rfl (by kernel_rfl) (by kernel_rfl) (by kernel_rfl) (fun _ _ _ h => h) (Or.inl ⟨by rfl, fun ww hSw => by (try dsimp only at hSw); go_simp⟩) (by assumption) ?_
                simp only [Act.put, List.setIfInBounds_toArray, List.set_cons_zero, List.set_cons_succ, List.getElem_toArray, List.getElem_cons_succ, List.getElem_cons_zero]
                refine wpAnyH_take (i := 23) (v := (.bool false)) rfl (by kernel_rfl) (by kernel_rfl) (by kernel_rfl) (fun _ _ _ h => h) (Or.inl ⟨by rfl, fun ww hSw => by (try dsimp only at hSw); go_simp⟩) (by assumption) ?_
                simp only [Act.put, List.setIfInBounds_toArray, List.set_cons_zero, List.set_cons_succ, List.getElem_toArray, List.getElem_cons_succ, List.getElem_cons_zero]
                refine wpAnyH_done (by kernel_rfl) ?_ _
                go_wp2
                go_meet
                case rel => exact ⟨rfl, HU.out⟩
              case rest =>
                as_aux_lemma =>
                obtain ⟨rfl, hwc⟩ := hcut
                obtain ⟨V12, hV12⟩ : ∃ V12, V12 = wc := ⟨_, rfl⟩
                subst hV12
                have H12 : Hid (Oh w V12 X s tb cb fb pb z1 z2 q (setF (setF (fun _ => none) 0 (some z1)) 1 (some z2)) xr true true Q T (.slice p Q.length cc) (.slice tp T.length tc) ∧ G5 V12 bb1 gA (.slice ep tk ec) gK 0 (.slice p3 m3 d3) ∧ (Byt V12 ep tk ec zs ∧ ∀ b o, ep = some ⟨b, o, .none⟩ → V8.heap.size ≤ b) ∧ bb1 < V12.heap.size ∧ V8.heap.size ≤ bb1 ∧ (∀ g, (Value.slice tp T.length tc).ownBlock = some g → g < V8.heap.size)) := by
                  refine ⟨H11.out.1.below DS.out hwc.out, H11.out.2.1.keep (hwc.out.block _ H11.out.2.2.2.1), ?_, by have := hwc.out.size; have := H11.out.2.2.2.1; omega, H11.out.2.2.2.2⟩
                  obtain ⟨_, _, _, _, _, hag, hby, hbo, _⟩ := H11.out.2.2.1
                  simp only [Value.agg.injEq, Array.mk.injEq, List.cons.injEq, Value.slice.injEq, true_and, and_true] at hag
                  obtain ⟨⟨rfl, _, rfl⟩, _⟩ := hag
                  rw [HZ.out.2.1] at hby
                  exact ⟨byt_below hby hwc.out, hbo⟩
                clear H11 hwc HGA HGK
                have v1 := H12.out.2.1.c1
                have hec0 : tk ≤ ec ∧ ec ≤ 9223372036854775807 := ⟨H12.out.2.2.1.1.2.1, H12.out.2.2.1.1.2.2.1⟩
                have hT3 : T.length ≤ 30720 := by have := hwl.out; omega
                go_wp2
                clear v1
                go_loopw [15, 22] (fun tv i wd => ∃ k : Nat, k ≤ tk ∧ i = .int .i64 k ∧ ∃ U p5 c5, tv = .slice p5 (List.length U) c5 ∧ Hid (U = T ++ zs.take k ∧ Oh w wd X s tb cb fb pb z1 z2 q (setF (setF (fun _ => none) 0 (some z1)) 1 (some z2)) xr true true Q U (.slice p Q.length cc) (.slice p5 (List.length U) c5) ∧ Grw V12 wd (.slice tp T.length tc) (.slice p5 (List.length U) c5))) (fun _ i _ => (tk - intOf i).toNat)
                case atStart => exact ⟨0, by omega, rfl, T, tp, tc, rfl, by simp, H12.out.1, Grw.refl _ _⟩
                case round =>
                  as_aux_lemma =>
                  obtain ⟨k, hk, rfl, U, p5, c5, rfl, HQ⟩ := hrel
                  have x1 : wr.cell? ⟨bb1, 1, .none⟩ = some (.slice ep tk ec) := (World.cell?_of_block (HQ.out.2.2.blk bb1 H12.out.2.2.2.1 (fun e => by have := H12.out.2.2.2.2.2 bb1 e; have := H12.out.2.2.2.2.1; omega))).trans H12.out.2.1.c1
                  have hUl : Hid (U.length = T.length + k) := by
                    show U.length = _
                    have := HZ.out.2.1
                    rw [HQ.out.1, List.length_append, List.length_take]; omega
                  have hec : tk ≤ ec ∧ ec ≤ 9223372036854775807 := ⟨H12.out.2.2.1.1.2.1, H12.out.2.2.1.1.2.2.1⟩
                  by_cases hlk : k < tk
                  · have k1 : (k : Int) < tk := by omega
                    obtain ⟨b1, o1, hds, hb1, hby⟩ : ∃ b o, ep = some ⟨b, o, .none⟩ ∧ b < V12.heap.size ∧ ∀ i x, zs[i]? = some x → V12.cell? ⟨b, o + i, .none⟩ = some (.int .u8 x) := by
                      rcases H12.out.2.2.1.1.2.2.2 with h | h
                      · omega
                      · exact h
                    have hx : ∃ x, zs[k]? = some x := ⟨zs[k]'(by rw [HZ.out.2.1]; omega), by simp⟩
                    obtain ⟨x, hx⟩ := hx
                    have a9 : wr.cell? ⟨b1, o1 + k, .none⟩ = some (.int .u8 x) := (World.cell?_of_block (HQ.out.2.2.blk b1 hb1 (fun e => by have := H12.out.2.2.2.2.2 b1 e; have := H12.out.2.2.1.2 b1 o1 hds; omega))).trans (hby k x hx)
                    have HT1 : Hid (zs.take k ++ [x] = zs.take (k + 1)) := take_next hx
                    clear hx hby
                    rw [hds] at x1
                    go_wp2_with (first | (at_builtin; refine wpList_append_keep _ rfl (.tmp 239) (.tmp 245) 35 rfl X 5 i3 z3 1 Tryz.underlying35 HI.out.1 HI.out.2.1 HI.out.2.2.1 HI.out.2.2.2.1 HI.out.2.2.2.2 (.slice p5 U.length c5) U.length (by8 U) rfl (HQ.out.2.1.ot.alloc _) ⟨wr.heap.size, 0, .none⟩ 1 (.int .u8 x) rfl (le_one _ _ _) rfl rfl ?c4 ?c5 ?c6 ?_) | go_in)
                    case c4 => have := hUl.out; simp only [maxLen]; omega
                    case c5 => have := hUl.out; omega
                    case c6 => have := HQ.out.2.1.hX2; simp only [World.size_alloc]; omega
                    intro v' w2 own' grow hkp bN
                    first | rintro ⟨hb1', hb2'⟩ | intro hb1' hb2'
                    have hput := HQ.out.2.1.take DS.out own' grow ⟨bN, hb1', by rw [World.size_alloc]; exact hb2'⟩
                    have hgr := HQ.out.2.2.step (pv' := v') grow ⟨bN, hb1', by rw [World.size_alloc]; exact hb2'⟩
                    obtain ⟨p', c', rfl⟩ := one_slice own'
                    have HN : Hid (U ++ [x] = T ++ zs.take (k + 1) ∧ Oh w w2 X s tb cb fb pb z1 z2 q (setF (setF (fun _ => none) 0 (some z1)) 1 (some z2)) xr true true Q (U ++ [x]) (.slice p Q.length cc) (.slice p' (U.length + 1) c') ∧ Grw V12 w2 (.slice tp T.length tc) (.slice p' (U.length + 1) c')) := ⟨by rw [HQ.out.1, List.append_assoc, HT1.out], hput, hgr⟩
                    have hl1 : (U ++ [x]).length = U.length + 1 := by rw [List.length_append]; rfl
                    clear own' grow hkp hb1' hb2' hput hgr
                    go_wp2
                    exact ⟨⟨k + 1, by omega, rfl, U ++ [x], p', c', by rw [hl1], by rw [hl1]; exact HN.out⟩, by simp only [intOf]; omega⟩
                  · obtain rfl : k = tk := by omega
                    have k1 : ¬ ((k : Int) < k) := by omega
                    have hzt : zs.take k = zs := by rw [← HZ.out.2.1, List.take_length]
                    have H13 : Hid (U = T ++ zs ∧ Oh w wr X s tb cb fb pb z1 z2 q (setF (setF (fun _ => none) 0 (some z1)) 1 (some z2)) xr true true Q U (.slice p Q.length cc) (.slice p5 U.length c5)) := ⟨by rw [HQ.out.1, hzt], HQ.out.2.1⟩
                    clear hzt
                    have HQU : Hid (Q = U ++ xr) := by
                      show Q = _
                      rw [HQT.out, H13.out.1, List.append_assoc, ← HZ.out.1]
                    have hle : U.length ≤ Q.length := by rw [HQU.out, List.length_append]; omega
                    have hBQ := byt_own H13.out.2.op
                    have hcc : Q.length ≤ cc ∧ cc ≤ 9223372036854775807 := ⟨hBQ.2.1, hBQ.2.2.1⟩
                    have hBU := byt_own H13.out.2.ot
                    have hcu : U.length ≤ c5 ∧ c5 ≤ 9223372036854775807 := ⟨hBU.2.1, hBU.2.2.1⟩
                    have i1 : ¬ ((Q.length : Int) < U.length) := by omega
                    have ca := cutat p Q.length cc
                    have ct := cut_to p Q.length cc U.length (by omega)
                    have B4 : Byt wr (cutp p cc 0) U.length cc (Q.take U.length) := by
                      have := byt_cut hBQ 0 U.length (by omega) hle
                      exact this
                    have eU : Q.take U.length = U := by rw [HQU.out]; simp
                    rw [eU] at B4
                    have cby := bytes_any p5 (cutp p cc 0) U.length c5 cc U wr (by omega) hBU B4
                    clear hBQ hBU B4 eU
                    go_wp2_with fail
                    refine cby.mono ?_
                    rintro e V14 ⟨rfl, j14, rfl⟩
                    have H14 := H13.out.2.below DS.out (below_drewN' wr j14)
                    clear cby ca ct
                    go_wp2
                    exact ⟨⟨K + 1, by omega, by omega, rfl, xr, Q, U, hQ5, HQU.out, H14⟩, by simp only [intOf]; omega⟩
    · as_aux_lemma =>
      go_upto_region 11 with fail
      go_cut [64] (fun s64 wc => s64 = .bool false ∧ wc = wr)
      case first =>
        as_aux_lemma =>
        by_cases hk : K < m
        · have g0 : (K : Int) < m := by omega
          have g1 : ¬ ((K : Int) < 60) := by omega
          go_wp2
          go_meet
          case rel => exact ⟨rfl, rfl⟩
        · have g0 : ¬ ((K : Int) < m) := by omega
          go_wp2
          go_meet
          case rel => exact ⟨rfl, rfl⟩
      case rest =>
        as_aux_lemma =>
        obtain ⟨rfl, hwc⟩ := hcut
        obtain rfl : wr = wc := hwc.symm
        cases en with
        | false =>
          as_aux_lemma =>
          have cdr := mc_dropR HP.out.mc rfl DS.out HP.out.hX2 (by have := DS.out.l; have := DS.out.h; omega)
          go_wp2_with fail
          refine cdr.mono ?_
          rintro e V1 ⟨g, rfl, hMc, hB⟩
          have HV : Hid (Mc V1 s tb cb fb pb z1 z2 q (setF (setF (setF (fun _ => none) 0 (some z1)) 1 (some z2)) 0 none) xs false true ∧ Below w.heap.size w V1 ∧ X ≤ V1.heap.size) := ⟨hMc, HP.out.bel.trans hB, Nat.le_trans HP.out.hX2 hB.size⟩
          have hbx := Trn.new V1 (.cells #[.int .u8 120] 5 (1, 2))
          have cwr := mc_writeno (w := V1.alloc (.cells #[.int .u8 120] 5 (1, 2))) (p := some ⟨V1.heap.size, 0, .none⟩) (n := 1) (cc := 1) (ys := [120]) (hMc.below DS.out (hbx.mono HV.out.2.2)) rfl DS.out (by have := HV.out.2.2; simp; omega) ⟨rfl, Nat.le_refl _, by decide, .inr ⟨V1.heap.size, 0, rfl, by simp, fun i x hx => by
            match i, hx with
            | 0, hx => simp at hx; subst hx; exact le_oneM _ _ _ _⟩⟩ (fun _ a ha e => by
              simp only [Option.some.injEq] at ha
              subst ha
              have := DS.out.h
              have := HV.out.2.2
              simp only at e
              omega) (fun y hy => by simp at hy; omega) (by decide)
          clear hMc hB cdr hbx
          have hcv := Lib.run_convert_bytes_const (P := Tryz.prog) V1 35 5 #[.int .u8 120] 1 1 Tryz.underlying35 Tryz.underlying5
          go_wp2_with fail
          refine cwr.mono ?_
          rintro e V2 ⟨rfl, hT⟩
          have HB2 : Hid (Below w.heap.size w V2) := by
            have h1 := HV.out.2.1.trans ((Trn.new V1 (.cells #[.int .u8 120] 5 (1, 2))).mono HV.out.2.1.size)
            exact h1.trans (hT.toBelow DS.out.l.2.2.2.2.2 h1.size)
          clear hT cwr
          simp only [bad6]
          go_upto_region 47 with fail
          have y0 := (G6.new V2 3 0 0 0 (.slice none 0 0)).c0
          have y1 := (G6.new V2 3 0 0 0 (.slice none 0 0)).c1
          have HB3 : Hid (Below w.heap.size w (V2.alloc (.cells #[.int .i64 3, .int .i64 0, .slice none 0 0, .int .i64 0, .int .i64 0, .slice none 0 0] 40))) := HB2.out.trans ((Trn.new V2 _).mono HB2.out.size)
          change (V2.alloc (.cells #[.int .i64 3, .int .i64 0, .slice none 0 0, .int .i64 0, .int .i64 0, .slice none 0 0] 40)).cell? ⟨V2.heap.size, 0, .none⟩ = _ at y0
          change (V2.alloc (.cells #[.int .i64 3, .int .i64 0, .slice none 0 0, .int .i64 0, .int .i64 0, .slice none 0 0] 40)).cell? ⟨V2.heap.size, 1, .none⟩ = some (.int .i64 0) at y1
          generalize V2.alloc (.cells #[.int .i64 3, .int .i64 0, .slice none 0 0, .int .i64 0, .int .i64 0, .slice none 0 0] 40) = V3 at *
          go_wp2
          go_ret
          exact ⟨rfl, HB3.out⟩
        | true =>
          as_aux_lemma =>
          have cdr := mc_dropW HP.out.mc rfl DS.out HP.out.hX2 (by have := DS.out.l; have := DS.out.h; omega)
          go_wp2_with fail
          refine cdr.mono ?_
          rintro e V1 ⟨g, hg, rfl, gc0, gc1, hMc, hblk, hB⟩
          have H1 : Hid (Oh w V1 X s tb cb fb pb z1 z2 q (setF (setF (setF (fun _ => none) 0 (some z1)) 1 (some z2)) 1 none) xs true false PP T (.slice pp PP.length pc) (.slice tp T.length tc)) := HP.out.deep (fun i hi hx => hblk i hi (by have := DS.out.h; omega) (by have := DS.out.h; omega) (by have := DS.out.h; omega)) hB hMc
          have hgl : g < V1.heap.size := lt_cell gc0
          have hbx := Trn.new V1 (.cells #[.int .i64 4, .int .i64 0] 37)
          have cch := chans_oo (V1.alloc (.cells #[.int .i64 4, .int .i64 0] 37)) g V1.heap.size 4 0 ((hbx.cell (p := ⟨g, 0, .none⟩) hgl).trans gc0) ((hbx.cell (p := ⟨g, 1, .none⟩) hgl).trans gc1) (by rw [World.cell?_alloc_at _ _ _ _ rfl]; rfl) (by rw [World.cell?_alloc_at _ _ _ _ rfl]; rfl)
          clear hMc hblk hB gc0 gc1 hg cdr
          go_wp2_with fail
          refine cch.mono ?_
          rintro e V2 ⟨rfl, j, rfl⟩
          have H2 : Hid (Oh w ((V1.alloc (.cells #[.int .i64 4, .int .i64 0] 37)).drewN j) X s tb cb fb pb z1 z2 q (setF (setF (setF (fun _ => none) 0 (some z1)) 1 (some z2)) 1 none) xs true false PP T (.slice pp PP.length pc) (.slice tp T.length tc)) := (H1.out.below DS.out hbx).below DS.out (below_drewN' _ j)
          clear cch hbx H1 hgl
          generalize (V1.alloc (.cells #[.int .i64 4, .int .i64 0] 37)).drewN j = V2 at *
          clear HP
          go_wp2
          go_loopw [15, 27] (fun tv i wr => ∃ J : Nat, J ≤ 512 ∧ i = .int .i64 J ∧ Hid (∃ xs T, J + xs.length ≤ 512 ∧ PP = T ++ xs ∧ Oh w wr X s tb cb fb pb z1 z2 q (setF (setF (setF (fun _ => none) 0 (some z1)) 1 (some z2)) 1 none) xs true false PP T (.slice pp PP.length pc) tv)) (fun _ i _ => (600 - intOf i).toNat)
          case atStart => exact ⟨0, by omega, rfl, xs, T, by omega, HE.out, H2.out⟩
          case round =>
            as_aux_lemma =>
            obtain ⟨J, hJ, rfl, HM⟩ := hrel
            clear H2 HE hTP hxl
            obtain ⟨xs, T, hJx, hPT, hO⟩ := HM.out
            obtain ⟨tp, tc, rfl⟩ := one_slice hO.ot
            have HP : Hid (Oh w wr X s tb cb fb pb z1 z2 q (setF (setF (setF (fun _ => none) 0 (some z1)) 1 (some z2)) 1 none) xs true false PP T (.slice pp PP.length pc) (.slice tp T.length tc)) := hO
            have HE : Hid (PP = T ++ xs) := hPT
            have hTP : T.length + xs.length = PP.length := by rw [hPT, List.length_append]
            clear HM hO hPT
            have j1 : (J : Int) < 514 := by omega
            by_cases hx : 0 < xs.length
            · have j2 : (T.length : Int) < PP.length := by omega
              have hnn : (J : Int) % 7 = ((J % 7 : Nat) : Int) := by omega
              obtain ⟨n, hn⟩ : ∃ n : Nat, n = 1 + J % 7 := ⟨_, rfl⟩
              have t1 : Int.tmod (J : Int) 7 = (J : Int) % 7 := Int.tmod_eq_emod_of_nonneg (by omega)
              have w1 : IntKind.i64.wrap ((J : Int) % 7) = (J : Int) % 7 := by rw [IntKind.wrap_i64]; omega
              have w2 : IntKind.i64.wrap (1 + (J : Int) % 7) = n := by rw [IntKind.wrap_i64]; omega
              have hn1 : 1 ≤ n := by omega
              have crd := mc_read HP.out.mc rfl DS.out HP.out.hX2 (n : Int)
              clear hnn hn
              go_wp2_with fail
              refine crd.mono ?_
              rintro e V9 ⟨v, rfl, hAn, hMc, hT⟩
              have hx5 : xs.length ≤ 512 := by omega
              have htk : takeN xs (n : Int) ≤ xs.length ∧ 1 ≤ takeN xs (n : Int) := by unfold takeN; omega
              have hzl : (xs.take (takeN xs (n : Int))).length = takeN xs (n : Int) := take_len xs n
              have ea : ga xs (n : Int) false = 1 := by simp [ga]
              have ek : gk xs (n : Int) false = 0 := by simp [gk]
              rw [ea, ek] at hAn
              obtain ⟨zs, hzs⟩ : ∃ zs, zs = xs.take (takeN xs (n : Int)) := ⟨_, rfl⟩
              obtain ⟨xr, hxr⟩ : ∃ xr, xr = xs.drop (takeN xs (n : Int)) := ⟨_, rfl⟩
              obtain ⟨tk, htk'⟩ : ∃ tk, tk = takeN xs (n : Int) := ⟨_, rfl⟩
              have HZ : Hid (xs = zs ++ xr ∧ zs.length = tk ∧ xr.length + tk = xs.length) := by
                rw [hzs, hxr, htk']
                exact ⟨(List.take_append_drop _ _).symm, hzl, by rw [List.length_drop]; omega⟩
              rw [← hzs] at hAn
              rw [← hxr] at hMc
              rw [← htk'] at htk
              have HOL : Hid (∀ g, (Value.slice tp T.length tc).ownBlock = some g → g < wr.heap.size) := own_lt2 HP.out.ot
              have H9 : Hid (Oh w V9 X s tb cb fb pb z1 z2 q (setF (setF (setF (fun _ => none) 0 (some z1)) 1 (some z2)) 1 none) xr true false PP T (.slice pp PP.length pc) (.slice tp T.length tc)) := HP.out.trn DS.out hT hMc
              obtain ⟨ep, ec, p3, m3, d3, rfl, hBy, hbo, hCh⟩ := hAn
              rw [HZ.out.2.1] at hBy ⊢
              have HBY : Hid (Byt V9 ep tk ec zs ∧ ∀ b o, ep = some ⟨b, o, .none⟩ → wr.heap.size ≤ b) := ⟨hBy, hbo⟩
              have hwv : wr.heap.size ≤ V9.heap.size := hT.size
              clear hBy hbo hCh hMc hT crd ea ek hzl hzs hxr htk' w1 w2 t1 HP
              go_upto_region 55 with fail
              obtain ⟨bb1, hbb1⟩ : ∃ b, b = V9.heap.size := ⟨_, rfl⟩
              obtain ⟨V12, hV12⟩ : ∃ V, V = V9.alloc (.cells #[.int .i64 1, .slice ep tk ec, .int .i64 0, .int .i64 0, .slice p3 m3 d3] 45) := ⟨_, rfl⟩
              rw [← hV12, ← hbb1]
              obtain ⟨V8, hV8⟩ : ∃ V8, V8 = wr := ⟨_, rfl⟩
              have H12 : Hid (Oh w V12 X s tb cb fb pb z1 z2 q (setF (setF (setF (fun _ => none) 0 (some z1)) 1 (some z2)) 1 none) xr true false PP T (.slice pp PP.length pc) (.slice tp T.length tc) ∧ G5 V12 bb1 1 (.slice ep tk ec) 0 0 (.slice p3 m3 d3) ∧ (Byt V12 ep tk ec zs ∧ ∀ b o, ep = some ⟨b, o, .none⟩ → V8.heap.size ≤ b) ∧ bb1 < V12.heap.size ∧ V8.heap.size ≤ bb1 ∧ (∀ g, (Value.slice tp T.length tc).ownBlock = some g → g < V8.heap.size)) := by
                have hb := Trn.new V9 (.cells #[.int .i64 1, .slice ep tk ec, .int .i64 0, .int .i64 0, .slice p3 m3 d3] 45)
                rw [hV12, hbb1, hV8]
                exact ⟨H9.out.below DS.out hb, G5.new _ _ _ _ _ _, ⟨byt_below HBY.out.1 hb, HBY.out.2⟩, by simp, hwv, HOL.out⟩
              clear hV12 hbb1 hV8 H9 HBY HOL hwv
              have v0 := H12.out.2.1.c0
              have v1 := H12.out.2.1.c1
              have z0 : ((tk : Int) == 0) = false := by
                have : (tk : Int) ≠ 0 := by omega
                simpa using this
              have hec0 : tk ≤ ec ∧ ec ≤ 9223372036854775807 := ⟨H12.out.2.2.1.1.2.1, H12.out.2.2.1.1.2.2.1⟩
              have z1' : ((tk : Nat) == 0) = false := by
                have : tk ≠ 0 := by omega
                simpa using this
              go_wp2
              clear v0 v1 z0 z1'
              go_loopw [15, 29] (fun tv i wd => ∃ k : Nat, k ≤ tk ∧ i = .int .i64 k ∧ ∃ U p5 c5, tv = .slice p5 (List.length U) c5 ∧ Hid (U = T ++ zs.take k ∧ Oh w wd X s tb cb fb pb z1 z2 q (setF (setF (setF (fun _ => none) 0 (some z1)) 1 (some z2)) 1 none) xr true false PP U (.slice pp PP.length pc) (.slice p5 (List.length U) c5) ∧ Grw V12 wd (.slice tp T.length tc) (.slice p5 (List.length U) c5))) (fun _ i _ => (tk - intOf i).toNat)
              case atStart => exact ⟨0, by omega, rfl, T, tp, tc, rfl, by simp, H12.out.1, Grw.refl _ _⟩
              case round =>
                as_aux_lemma =>
                obtain ⟨k, hk, rfl, U, p5, c5, rfl, HQ⟩ := hrel
                have x1 : wr.cell? ⟨bb1, 1, .none⟩ = some (.slice ep tk ec) := (World.cell?_of_block (HQ.out.2.2.blk bb1 H12.out.2.2.2.1 (fun e => by have := H12.out.2.2.2.2.2 bb1 e; have := H12.out.2.2.2.2.1; omega))).trans H12.out.2.1.c1
                have hUl : Hid (U.length = T.length + k) := by
                  show U.length = _
                  have := HZ.out.2.1
                  rw [HQ.out.1, List.length_append, List.length_take]; omega
                have hec : tk ≤ ec ∧ ec ≤ 9223372036854775807 := ⟨H12.out.2.2.1.1.2.1, H12.out.2.2.1.1.2.2.1⟩
                by_cases hlk : k < tk
                · have k1 : (k : Int) < tk := by omega
                  obtain ⟨b1, o1, hds, hb1, hby⟩ : ∃ b o, ep = some ⟨b, o, .none⟩ ∧ b < V12.heap.size ∧ ∀ i x, zs[i]? = some x → V12.cell? ⟨b, o + i, .none⟩ = some (.int .u8 x) := by
                    rcases H12.out.2.2.1.1.2.2.2 with h | h
                    · omega
                    · exact h
                  have hx : ∃ x, zs[k]? = some x := ⟨zs[k]'(by rw [HZ.out.2.1]; omega), by simp⟩
                  obtain ⟨x, hx⟩ := hx
                  have a9 : wr.cell? ⟨b1, o1 + k, .none⟩ = some (.int .u8 x) := (World.cell?_of_block (HQ.out.2.2.blk b1 hb1 (fun e => by have := H12.out.2.2.2.2.2 b1 e; have := H12.out.2.2.1.2 b1 o1 hds; omega))).trans (hby k x hx)
                  have HT1 : Hid (zs.take k ++ [x] = zs.take (k + 1)) := take_next hx
                  clear hx hby
                  rw [hds] at x1
                  clear hds
                  go_wp2_with (first | (at_builtin; refine wpList_append_keep _ rfl (.tmp 335) (.tmp 341) 35 rfl X 5 i3 z3 1 Tryz.underlying35 HI.out.1 HI.out.2.1 HI.out.2.2.1 HI.out.2.2.2.1 HI.out.2.2.2.2 (.slice p5 U.length c5) U.length (by8 U) rfl (HQ.out.2.1.ot.alloc _) ⟨wr.heap.size, 0, .none⟩ 1 (.int .u8 x) rfl (le_one _ _ _) rfl rfl ?c4 ?c5 ?c6 ?_) | go_in)
                  case c4 => have := hUl.out; simp only [maxLen]; omega
                  case c5 => have := hUl.out; omega
                  case c6 => have := HQ.out.2.1.hX2; simp only [World.size_alloc]; omega
                  intro v' w2 own' grow hkp bN
                  first | rintro ⟨hb1', hb2'⟩ | intro hb1' hb2'
                  have hput := HQ.out.2.1.take DS.out own' grow ⟨bN, hb1', by rw [World.size_alloc]; exact hb2'⟩
                  have hgr := HQ.out.2.2.step (pv' := v') grow ⟨bN, hb1', by rw [World.size_alloc]; exact hb2'⟩
                  obtain ⟨p', c', rfl⟩ := one_slice own'
                  have HN : Hid (U ++ [x] = T ++ zs.take (k + 1) ∧ Oh w w2 X s tb cb fb pb z1 z2 q (setF (setF (setF (fun _ => none) 0 (some z1)) 1 (some z2)) 1 none) xr true false PP (U ++ [x]) (.slice pp PP.length pc) (.slice p' (U.length + 1) c') ∧ Grw V12 w2 (.slice tp T.length tc) (.slice p' (U.length + 1) c')) := ⟨by rw [HQ.out.1, List.append_assoc, HT1.out], hput, hgr⟩
                  have hl1 : (U ++ [x]).length = U.length + 1 := by rw [List.length_append]; rfl
                  clear own' grow hkp hb1' hb2' hput hgr
                  go_wp2
                  first
                    | exact ⟨⟨k + 1, by omega, rfl, U ++ [x], p', c', by rw [hl1], by rw [hl1]; exact HN.out⟩, by simp only [intOf]; omega⟩
                    | (refine ⟨⟨_, _, _, _, _, _, _, _, _, _, _, _, _, _, _, _, _, ?er, rfl⟩, ?em⟩
                       case er => exact ⟨k + 1, by omega, rfl, U ++ [x], p', c', by rw [hl1], by rw [hl1]; exact HN.out⟩
                       case em => show ((tk : Int) - ((k : Int) + 1)).toNat < ((tk : Int) - (k : Int)).toNat; omega)
                · obtain rfl : k = tk := by omega
                  have k1 : ¬ ((k : Int) < k) := by omega
                  have hzt : zs.take k = zs := by rw [← HZ.out.2.1, List.take_length]
                  have H13 : Hid (U = T ++ zs ∧ Oh w wr X s tb cb fb pb z1 z2 q (setF (setF (setF (fun _ => none) 0 (some z1)) 1 (some z2)) 1 none) xr true false PP U (.slice pp PP.length pc) (.slice p5 U.length c5)) := ⟨by rw [HQ.out.1, hzt], HQ.out.2.1⟩
                  clear hzt
                  have H14 : Hid (J + 1 + xr.length ≤ 512 ∧ PP = U ++ xr) := ⟨by have := HZ.out; omega, by rw [HE.out, H13.out.1, List.append_assoc, ← HZ.out.1]⟩
                  go_wp2
                  exact ⟨⟨J + 1, by have := H14.out; omega, rfl, xr, U, H14.out.1, H14.out.2, H13.out.2⟩, by simp only [intOf]; omega⟩
            · have j2 : ¬ ((T.length : Int) < PP.length) := by omega
              obtain rfl : xs = [] := List.eq_nil_of_length_eq_zero (by omega)
              have hTe : Hid (PP = T) := by have := HE.out; rwa [List.append_nil] at this
              have crd := mc_read HP.out.mc rfl DS.out HP.out.hX2 9
              go_wp2_with fail
              refine crd.mono ?_
              rintro e V3 ⟨v, rfl, hAn, hMc, hT⟩
              have H3 : Hid (Oh w V3 X s tb cb fb pb z1 z2 q (setF (setF (setF (fun _ => none) 0 (some z1)) 1 (some z2)) 1 none) [] true false PP T (.slice pp PP.length pc) (.slice tp T.length tc)) := HP.out.trn DS.out hT (by simpa using hMc)
              obtain ⟨dp, dc, p2, m2, d2, rfl, hBy, hbk, hCh⟩ := hAn
              have ea : ga ([] : List Int) 9 false = 1 := by decide
              have ek : gk ([] : List Int) 9 false = 0 := by decide
              have ez : (List.take (takeN ([] : List Int) 9) ([] : List Int)).length = 0 := by simp
              rw [ea, ek, ez]
              clear hBy hbk hCh hMc hT crd ea ek ez
              go_upto_region 62 with fail
              obtain ⟨bx, hbxe⟩ : ∃ bx, bx = V3.heap.size := ⟨_, rfl⟩
              rw [← hbxe]
              have hb4 := Trn.new V3 (.cells #[.int .i64 1, .slice dp 0 dc, .int .i64 0, .int .i64 0, .slice p2 m2 d2] 45)
              have hg4 := G5.new V3 1 (.slice dp 0 dc) 0 0 (.slice p2 m2 d2)
              have H4 : Hid (Oh w (V3.alloc (.cells #[.int .i64 1, .slice dp 0 dc, .int .i64 0, .int .i64 0, .slice p2 m2 d2] 45)) X s tb cb fb pb z1 z2 q (setF (setF (setF (fun _ => none) 0 (some z1)) 1 (some z2)) 1 none) [] true false PP T (.slice pp PP.length pc) (.slice tp T.length tc) ∧ G5 (V3.alloc (.cells #[.int .i64 1, .slice dp 0 dc, .int .i64 0, .int .i64 0, .slice p2 m2 d2] 45)) bx 1 (.slice dp 0 dc) 0 0 (.slice p2 m2 d2) ∧ X ≤ bx) := ⟨H3.out.below DS.out hb4, by rw [hbxe]; exact hg4, by rw [hbxe]; exact H3.out.hX2⟩
              clear hb4 hg4 H3 hbxe
              generalize (V3.alloc (.cells #[.int .i64 1, .slice dp 0 dc, .int .i64 0, .int .i64 0, .slice p2 m2 d2] 45)) = V4 at *
              have cdf := mc_dropF H4.out.1.mc rfl DS.out H4.out.1.hX2 (by have := DS.out.l; have := DS.out.h; omega)
              go_wp2_with fail
              refine cdf.mono ?_
              rintro e V5 ⟨rfl, hF5, hT5, hblk, hB5⟩
              have hbl : bx < V4.heap.size := lt_cell H4.out.2.1.c0
              have H5 : Hid (G5 V5 bx 1 (.slice dp 0 dc) 0 0 (.slice p2 m2 d2) ∧ Below w.heap.size w V5 ∧ Byt V5 pp PP.length pc PP ∧ Byt V5 tp T.length tc T ∧ bx < V5.heap.size) := by
                refine ⟨H4.out.2.1.keep (hblk _ hbl H4.out.2.2), H4.out.1.bel.trans hB5, ?_, ?_, by have := hB5.size; omega⟩
                · exact byt_own (own_belowX H4.out.1.op (fun g hg => hblk g (own_lt2 H4.out.1.op g hg) (own_block H4.out.1.op g hg)))
                · exact byt_own (own_belowX H4.out.1.ot (fun g hg => hblk g (own_lt2 H4.out.1.ot g hg) (own_block H4.out.1.ot g hg)))
              have cpi := pipes_gone hF5 hT5 rfl
              clear hF5 hT5 hblk hB5 cdf hbl H4
              go_wp2_with fail
              refine cpi.mono ?_
              rintro e V6 ⟨rfl, hb6⟩
              have H6 : Hid (G5 V6 bx 1 (.slice dp 0 dc) 0 0 (.slice p2 m2 d2) ∧ Below w.heap.size w V6 ∧ Byt V6 pp PP.length pc PP ∧ Byt V6 tp T.length tc T ∧ bx < V6.heap.size) := ⟨H5.out.1.keep (hb6.block _ H5.out.2.2.2.2), H5.out.2.1.trans (hb6.mono H5.out.2.1.size), byt_below H5.out.2.2.1 hb6, byt_below H5.out.2.2.2.1 hb6, by have := hb6.size; have := H5.out.2.2.2.2; omega⟩
              clear H5 hb6 cpi
              go_upto_region 64 with fail
              have hb7 := Trn.new V6 (.cells #[.int .i64 0, .slice none 0 0, .int .u32 0, .int .u32 0, .bool false, .bool false] 55)
              have H7 : Hid (G5 (V6.alloc (.cells #[.int .i64 0, .slice none 0 0, .int .u32 0, .int .u32 0, .bool false, .bool false] 55)) bx 1 (.slice dp 0 dc) 0 0 (.slice p2 m2 d2) ∧ Below w.heap.size w (V6.alloc (.cells #[.int .i64 0, .slice none 0 0, .int .u32 0, .int .u32 0, .bool false, .bool false] 55)) ∧ Byt (V6.alloc (.cells #[.int .i64 0, .slice none 0 0, .int .u32 0, .int .u32 0, .bool false, .bool false] 55)) pp PP.length pc PP ∧ Byt (V6.alloc (.cells #[.int .i64 0, .slice none 0 0, .int .u32 0, .int .u32 0, .bool false, .bool false] 55)) tp T.length tc T) := ⟨H6.out.1.keep (hb7.block _ H6.out.2.2.2.2), H6.out.2.1.trans (hb7.mono H6.out.2.1.size), byt_below H6.out.2.2.1 hb7, byt_below H6.out.2.2.2.1 hb7⟩
              clear H6 hb7
              generalize (V6.alloc (.cells #[.int .i64 0, .slice none 0 0, .int .u32 0, .int .u32 0, .bool false, .bool false] 55)) = V7 at *
              have cby : Calls Tryz.prog 14 #[.slice tp T.length tc, .slice pp PP.length pc] V7 fun e w' => e = .returned (.bool true) ∧ ∃ k, w' = V7.drewN k := by
                have hh := hTe.out
                subst hh
                exact bytes_any tp pp PP.length tc pc PP V7 (by omega) H7.out.2.2.2 H7.out.2.2.1
              have y0 := H7.out.1.c0
              have y1 := H7.out.1.c1
              go_wp2_with fail
              refine cby.mono ?_
              rintro e V8 ⟨rfl, j8, rfl⟩
              clear cby
              go_wp2
              go_ret
              exact ⟨rfl, H7.out.2.1.trans ((below_drewN' V7 j8).mono H7.out.2.1.size)⟩
end Go.Proofs.YthdlefbaegbldaaGreatDoor
