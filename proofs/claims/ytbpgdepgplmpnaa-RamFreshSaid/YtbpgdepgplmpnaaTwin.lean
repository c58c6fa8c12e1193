import Derived.Test.YtbpgdepgplmpnaaTwinL
import Derived.Deep.RegionHeld3
namespace Go.Proofs.Ytbpgdepgplmpnaa
open Go.RowKit
set_option linter.unusedVariables false
set_option linter.unusedSimpArgs false
set_option maxHeartbeats 2000000 in
set_option maxRecDepth 100000 in
theorem twin_any {w : World} {N : Int} {nf nh cf ch : Nat} {qf qh : Option Addr} {F P : Nat → Int} {ln : Nat → Nat} {R : Nat → Nat → Int} (h1 : nf ≤ 1000000) (h2 : nh ≤ 1000000) (hln : ∀ i, i < nh → ln i ≤ 1000000) (fa : See w .u64 qf nf F) (ha : SeeH w qh nh P ln R) :
    Calls Try.prog 28 #[.agg #[.int .i64 N, .slice qf nf cf, .slice qh nh ch]] w fun e w' => TwinP w N nf nh F P ln R e w' := by
  go_enter Try.func28, Try.ntmps28
  go_wp2
  have kA := (C3.new w (.int .i64 N) (.slice qf nf cf) (.slice qh nh ch) 67).alloc (.cells #[.int .i64 0, .slice .none 0 0, .slice .none 0 0] 67)
  have kB : C3 ((w.alloc (.cells #[.int .i64 N, .slice qf nf cf, .slice qh nh ch] 67)).alloc (.cells #[.int .i64 0, .slice .none 0 0, .slice .none 0 0] 67)) (w.heap.size + 1) (.int .i64 0) (.slice .none 0 0) (.slice .none 0 0) := by
    have := C3.new (w.alloc (.cells #[.int .i64 N, .slice qf nf cf, .slice qh nh ch] 67)) (.int .i64 0) (.slice .none 0 0) (.slice .none 0 0) 67
    rwa [World.size_alloc] at this
  have hB0 : Below w.heap.size w ((w.alloc (.cells #[.int .i64 N, .slice qf nf cf, .slice qh nh ch] 67)).alloc (.cells #[.int .i64 0, .slice .none 0 0, .slice .none 0 0] 67)) := (below_past _ _).alloc (by simp) _
  have hz : ((w.alloc (.cells #[.int .i64 N, .slice qf nf cf, .slice qh nh ch] 67)).alloc (.cells #[.int .i64 0, .slice .none 0 0, .slice .none 0 0] 67)).heap.size = w.heap.size + 1 + 1 := by simp only [World.size_alloc]
  generalize ((w.alloc (.cells #[.int .i64 N, .slice qf nf cf, .slice qh nh ch] 67)).alloc (.cells #[.int .i64 0, .slice .none 0 0, .slice .none 0 0] 67)) = W0 at *
  have HA : Hid (C3 W0 w.heap.size (.int .i64 N) (.slice qf nf cf) (.slice qh nh ch)) := kA
  have HB : Hid (C3 W0 (w.heap.size + 1) (.int .i64 0) (.slice .none 0 0) (.slice .none 0 0)) := kB
  have HBe : Hid (Below w.heap.size w W0) := hB0
  have c60 : ∀ W', Below W0.heap.size W0 W' → Calls Try.prog 60 #[.slice qf nf cf] W' fun e w'' => CopyRW W' nf F e w'' ∧ Below W0.heap.size W0 w'' := fun W' hb => by
    refine (copyW_any h1 ((fa.below hB0).below hb)).mono ?_
    rintro e w2 ⟨q, c, he, ho, hb2⟩
    exact ⟨⟨q, c, he, ho, hb2⟩, hb.trans (hb2.mono hb.size)⟩
  have hb0 : Below W0.heap.size W0 W0.drew := (Below.refl _ _).drew
  have hb1 : Below W0.heap.size W0 (W0.drew.alloc (.cells #[.int .i64 0, .slice .none 0 0, .slice .none 0 0] 67)) := hb0.alloc (by simp) _
  have HZ : Hid (C3 (W0.drew.alloc (.cells #[.int .i64 0, .slice .none 0 0, .slice .none 0 0] 67)) (w.heap.size + 1 + 1) (.int .i64 0) (.slice .none 0 0) (.slice .none 0 0)) := by
    have := C3.new W0.drew (.int .i64 0) (.slice .none 0 0) (.slice .none 0 0) 67
    rw [show W0.drew.heap.size = w.heap.size + 1 + 1 from hz] at this
    exact this
  have k0 := kA.1
  have k1 := kA.2.1
  have k0d := (kA.below hb1).1
  have k1d := (kA.below hb1).2.1
  have c60d : Calls Try.prog 60 #[.slice qf nf cf] W0.drew fun e W6 => ∃ q6 c6, e = .returned (.slice q6 nf c6) ∧ Hid (W6.ownsRow W0.heap.size 22 1 (.slice q6 nf c6) nf ((List.range nf).map fun i => .int .u64 (F i)) ∧ Below W0.heap.size W0 W6) ∧ W6.cell? ⟨w.heap.size, 0, .none⟩ = some (.int .i64 N) ∧ W6.cell? ⟨w.heap.size, 1, .none⟩ = some (.slice qf nf cf) ∧ (W6.alloc (.cells #[.int .i64 0, .slice .none 0 0, .slice .none 0 0] 67)).cell? ⟨w.heap.size, 0, .none⟩ = some (.int .i64 N) := by
    refine (c60 _ hb0).mono ?_
    rintro e W6 ⟨⟨q6, c6, he, ho6, hb6⟩, hb7⟩
    exact ⟨q6, c6, he, ⟨ho6, hb7⟩, (HA.out.below hb7).1, (HA.out.below hb7).2.1, ((HA.out.below hb7).alloc _).1⟩
  have c60a : Calls Try.prog 60 #[.slice qf nf cf] (W0.drew.alloc (.cells #[.int .i64 0, .slice .none 0 0, .slice .none 0 0] 67)) fun e W6 => ∃ q6 c6, e = .returned (.slice q6 nf c6) ∧ Hid (W6.ownsRow (W0.heap.size + 1) 22 1 (.slice q6 nf c6) nf ((List.range nf).map fun i => .int .u64 (F i)) ∧ Below W0.heap.size W0 W6) ∧ W6.cell? ⟨w.heap.size, 0, .none⟩ = some (.int .i64 N) ∧ W6.cell? ⟨w.heap.size, 1, .none⟩ = some (.slice qf nf cf) ∧ C3 W6 (w.heap.size + 1 + 1) (.int .i64 0) (.slice .none 0 0) (.slice .none 0 0) := by
    refine (c60 _ hb1).mono ?_
    rintro e W6 ⟨⟨q6, c6, he, ho6, hb6⟩, hb7⟩
    refine ⟨q6, c6, he, ⟨?_, hb7⟩, (HA.out.below hb7).1, (HA.out.below hb7).2.1, HZ.out.below hb6⟩
    rw [World.size_alloc] at ho6
    exact ho6
  clear c60
  clear kA kB hB0
  go_cut [3] from 5 (fun s3 W => ∃ a qf' cf', s3 = .pointer (some ⟨a, 0, .none⟩) ∧ w.heap.size + 1 + 1 ≤ a ∧ a < W.heap.size ∧ TSt w W W.heap.size a N nf cf' 0 qf' F P ln R [] .none 0 ∧ C3 W w.heap.size (.int .i64 N) (.slice qf nf cf) (.slice qh nh ch))
  case first =>
    refine wp_region_noPanic ?_
    go_region_law (first | (go_simp; go_at_call 60; refine c60a.mono ?_; rintro e W6 ⟨q6, c6, rfl, HO6, HZ6⟩; obtain ⟨k6, k61, z0, z1, z2, y0, y1, y2⟩ := HZ6) | (go_simp; go_at_call 60; refine c60d.mono ?_; rintro e W6 ⟨q6, c6, rfl, HO6, k6, k61, k6a⟩))
    all_goals (refine NoPanic.normal ?_)
    all_goals go_wp2
    all_goals go_meet
    all_goals first
      | exact TSt.startN hz HA.out HB.out HBe.out HO6.out.2 HO6.out.1 (by omega)
      | exact TSt.start hz HA.out HB.out HBe.out HO6.out.2 (by omega) ⟨z0, z1, z2, y0, y1, y2⟩ HO6.out.1 (fun e => by have := (HO6.out.1.lt _ e).1; omega) (by omega)
  case rest =>
    obtain ⟨a, qf', cf', rfl, ha1, ha2, hT, hC⟩ := hcut
    clear c60a c60d hb0 hb1 k0 k1 k0d k1d
    obtain ⟨j1, hk0, hkz, hk1, hk2⟩ := info76
    have HRl : Hid (∃ (i : Nat) (hs : List (Int × Value)) (q2 : Option Addr) (c2 : Nat), i ≤ nh ∧ Value.int .i64 0 = .int .i64 i ∧ TSt w wc wc.heap.size a N nf cf' i qf' F P ln R hs q2 c2 ∧ C3 wc w.heap.size (.int .i64 N) (.slice qf nf cf) (.slice qh nh ch)) := ⟨0, [], .none, 0, Nat.zero_le _, rfl, hT, hC⟩
    clear hT hC
    generalize wc.heap.size = X at *
    go_wp2
    go_loopw [4] (fun k wr => ∃ (i : Nat) (hs : List (Int × Value)) (q2 : Option Addr) (c2 : Nat), i ≤ nh ∧ k = .int .i64 i ∧ TSt w wr X a N nf cf' i qf' F P ln R hs q2 c2 ∧ C3 wr w.heap.size (.int .i64 N) (.slice qf nf cf) (.slice qh nh ch)) (fun k _ => nh - (intOf k).toNat)
    case atStart => exact HRl.out
    case round =>
      obtain ⟨i, hs, q2, c2, hi, rfl, hT, hC⟩ := hrel
      have HT : Hid (TSt w wr X a N nf cf' i qf' F P ln R hs q2 c2) := hT
      have HC : Hid (C3 wr w.heap.size (.int .i64 N) (.slice qf nf cf) (.slice qh nh ch)) := hC
      by_cases hin : i < nh
      · have i1 : (i : Int) < nh := by omega
        rcases ha with h0 | ⟨gs, os, rfl, hgs, rs⟩
        · omega
        obtain ⟨s0, d, cd, s1, sd⟩ := rs i hin
        have e2 := hC.2.2.1
        have e3 := hT.c.2.2.1
        have hb0 : Below wr.heap.size wr wr.drew := (Below.refl _ _).drew
        have hli := hln i hin
        generalize hpj : P i = pj at s0
        generalize hlj : ln i = lj at s1 hli sd
        have Hpj : Hid (P i = pj ∧ ln i = lj) := ⟨hpj, hlj⟩
        clear hpj hlj
        have mk : ∀ W : World, Below w.heap.size w W → W.cell? ⟨w.heap.size, 2, .none⟩ = some (.slice (some ⟨gs, os, .none⟩) nh ch) → (W.cell? ⟨w.heap.size, 2, .none⟩ = some (.slice (some ⟨gs, os, .none⟩) nh ch) ∧ W.cell? ⟨gs, os + i * 2, .none⟩ = some (.int .u64 pj) ∧ W.cell? ⟨gs, os + i * 2 + 1, .none⟩ = some (.slice d lj cd)) := fun W hb hc => ⟨hc, (hb.cell (p := ⟨gs, os + i * 2, .none⟩) hgs).trans s0, (hb.cell (p := ⟨gs, os + i * 2 + 1, .none⟩) hgs).trans s1⟩
        have MK : Hid (∀ W : World, Below w.heap.size w W → W.cell? ⟨w.heap.size, 2, .none⟩ = some (.slice (some ⟨gs, os, .none⟩) nh ch) → (W.cell? ⟨w.heap.size, 2, .none⟩ = some (.slice (some ⟨gs, os, .none⟩) nh ch) ∧ W.cell? ⟨gs, os + i * 2, .none⟩ = some (.int .u64 pj) ∧ W.cell? ⟨gs, os + i * 2 + 1, .none⟩ = some (.slice d lj cd))) := mk
        have c29 : Calls Try.prog 29 #[.slice d lj cd] wr.drew fun e W5 => ∃ q5 c5, e = .returned (.slice q5 lj c5) ∧ Hid (TSt w W5 X a N nf cf' i qf' F P ln R hs q2 c2 ∧ C3 W5 w.heap.size (.int .i64 N) (.slice qf nf cf) (.slice (some ⟨gs, os, .none⟩) nh ch) ∧ W5.ownsRow X 5 1 (.slice q5 lj c5) lj (rowB lj (R i))) ∧ W5.cell? ⟨a, 2, .none⟩ = some (.slice q2 i c2) ∧ (W5.alloc (.cells #[.int .u64 pj, .slice q5 lj c5] 76)).cell? ⟨a, 2, .none⟩ = some (.slice q2 i c2) ∧ (W5.cell? ⟨w.heap.size, 2, .none⟩ = some (.slice (some ⟨gs, os, .none⟩) nh ch) ∧ W5.cell? ⟨gs, os + i * 2, .none⟩ = some (.int .u64 pj) ∧ W5.cell? ⟨gs, os + i * 2 + 1, .none⟩ = some (.slice d lj cd)) ∧ ((W5.alloc (.cells #[.int .u64 pj, .slice q5 lj c5] 76)).cell? ⟨w.heap.size, 2, .none⟩ = some (.slice (some ⟨gs, os, .none⟩) nh ch) ∧ (W5.alloc (.cells #[.int .u64 pj, .slice q5 lj c5] 76)).cell? ⟨gs, os + i * 2, .none⟩ = some (.int .u64 pj) ∧ (W5.alloc (.cells #[.int .u64 pj, .slice q5 lj c5] 76)).cell? ⟨gs, os + i * 2 + 1, .none⟩ = some (.slice d lj cd)) := by
          refine (copyB_any hli ((sd.below HT.out.be).below hb0)).mono ?_
          rintro e W5 ⟨q5, c5, he, ho5, hb5⟩
          have hb6 : Below wr.heap.size wr W5 := hb0.trans (hb5.mono hb0.size)
          have t5 := HT.out.below hb6
          have c5' := HC.out.below hb6
          exact ⟨q5, c5, he, ⟨t5, c5', ownsRow_base ho5 (Nat.le_trans HT.out.xs hb0.size)⟩, t5.c.2.2.1, (t5.c.alloc _).2.2.1, mk W5 t5.be c5'.2.2.1, mk _ (t5.be.alloc t5.be.size _) (c5'.alloc _).2.2.1⟩
        have j0 : (wr.drew.cell? ⟨w.heap.size, 2, .none⟩ = some (.slice (some ⟨gs, os, .none⟩) nh ch) ∧ wr.drew.cell? ⟨gs, os + i * 2, .none⟩ = some (.int .u64 pj) ∧ wr.drew.cell? ⟨gs, os + i * 2 + 1, .none⟩ = some (.slice d lj cd)) := mk _ HT.out.be.drew e2
        clear sd rs hT hC s0 s1 mk
        have AP : Hid (∀ (W5 w5 : World) (q5 : Option Addr) (c5 g1 cap1 : Nat), Hid (TSt w W5 X a N nf cf' i qf' F P ln R hs q2 c2 ∧ C3 W5 w.heap.size (.int .i64 N) (.slice qf nf cf) (.slice (some ⟨gs, os, .none⟩) nh ch) ∧ W5.ownsRow X 5 1 (.slice q5 lj c5) lj (rowB lj (R i))) → w5.ownsRow X 76 2 (.slice (some ⟨g1, 0, .none⟩) (i + 1) cap1) (i + 1) (flat2 hs ++ [.int .u64 pj, .slice q5 lj c5]) → (W5.alloc (.cells #[.int .u64 pj, .slice q5 lj c5] 76)).grownBy w5 (Value.ownBlock (.slice q2 i c2)) →
            Hid (TSt w (w5.setCell ⟨a, 2, .none⟩ (.slice (some ⟨g1, 0, .none⟩) (i + 1) cap1)) X a N nf cf' (i + 1) qf' F P ln R (hs ++ [(P i, .slice q5 (ln i) c5)]) (some ⟨g1, 0, .none⟩) cap1 ∧ C3 (w5.setCell ⟨a, 2, .none⟩ (.slice (some ⟨g1, 0, .none⟩) (i + 1) cap1)) w.heap.size (.int .i64 N) (.slice qf nf cf) (.slice (some ⟨gs, os, .none⟩) nh ch)) ∧ w5.cell? ⟨a, 2, .none⟩ = some (.slice q2 i c2) ∧ w5.frozen? ⟨a, 2, .none⟩ = false ∧ (w5.cell? ⟨w.heap.size, 2, .none⟩ = some (.slice (some ⟨gs, os, .none⟩) nh ch) ∧ w5.cell? ⟨gs, os + i * 2, .none⟩ = some (.int .u64 pj) ∧ w5.cell? ⟨gs, os + i * 2 + 1, .none⟩ = some (.slice d lj cd)) ∧ ((w5.setCell ⟨a, 2, .none⟩ (.slice (some ⟨g1, 0, .none⟩) (i + 1) cap1)).cell? ⟨w.heap.size, 2, .none⟩ = some (.slice (some ⟨gs, os, .none⟩) nh ch) ∧ (w5.setCell ⟨a, 2, .none⟩ (.slice (some ⟨g1, 0, .none⟩) (i + 1) cap1)).cell? ⟨gs, os + i * 2, .none⟩ = some (.int .u64 pj) ∧ (w5.setCell ⟨a, 2, .none⟩ (.slice (some ⟨g1, 0, .none⟩) (i + 1) cap1)).cell? ⟨gs, os + i * 2 + 1, .none⟩ = some (.slice d lj cd))) := by
          intro W5 w5 q5 c5 g1 cap1 H5 hown5 hgr5
          have e5 : w5.heap[a]? = W5.heap[a]? := (hgr5.block a (by simp only [World.size_alloc]; have := H5.out.1.xs; omega) (fun e => (by have := (H5.out.1.hr.lt _ e.symm).1; omega))).trans (Below.heap_alloc W5 _ _ (by have := H5.out.1.xs; omega))
          have eW : w5.heap[w.heap.size]? = W5.heap[w.heap.size]? := (hgr5.block w.heap.size (by simp only [World.size_alloc]; have := H5.out.1.xs; omega) (fun e => (by have := (H5.out.1.hr.lt _ e.symm).1; omega))).trans (Below.heap_alloc W5 _ _ (by have := H5.out.1.xs; omega))
          have hBw : Below w.heap.size w w5 := (H5.out.1.be.alloc H5.out.1.be.size _).grown hgr5 (H5.out.1.be.alloc H5.out.1.be.size _).size (fun k hk => by have := (H5.out.1.hr.lt k hk).1; omega)
          have HN : TSt w (w5.setCell ⟨a, 2, .none⟩ (.slice (some ⟨g1, 0, .none⟩) (i + 1) cap1)) X a N nf cf' (i + 1) qf' F P ln R (hs ++ [(P i, .slice q5 (ln i) c5)]) (some ⟨g1, 0, .none⟩) cap1 ∧ C3 (w5.setCell ⟨a, 2, .none⟩ (.slice (some ⟨g1, 0, .none⟩) (i + 1) cap1)) w.heap.size (.int .i64 N) (.slice qf nf cf) (.slice (some ⟨gs, os, .none⟩) nh ch) :=
            ⟨H5.out.1.step ha1 ha2 (by rw [Hpj.out.2]; have := H5.out.2.2; rwa [← Hpj.out.2] at this ⊢) (by rw [Hpj.out.1, Hpj.out.2]; exact hown5) hgr5, H5.out.2.1.step H5.out.1.hr (by omega) H5.out.1.xs (by omega) hgr5⟩
          exact ⟨HN, (World.cell?_of_block e5).trans H5.out.1.c.2.2.1, (World.frozen?_of_block e5).trans H5.out.1.c.2.2.2.2.2, MK.out w5 hBw ((World.cell?_of_block eW).trans H5.out.2.1.2.2.1), MK.out _ HN.1.be HN.2.2.2.1⟩
        have hb1 : i + 1 ≤ maxLen := by unfold maxLen; omega
        have hb2 : (i + 1) * 32 ≤ 140737488355328 := by omega
        go_upto_region 5 with fail
        refine wp_region_noPanic ?_
        clear MK HT HC
        refine wp_region_held_drew (S := fun W => (W.cell? ⟨w.heap.size, 2, .none⟩ = some (.slice (some ⟨gs, os, .none⟩) nh ch) ∧ W.cell? ⟨gs, os + i * 2, .none⟩ = some (.int .u64 pj) ∧ W.cell? ⟨gs, os + i * 2 + 1, .none⟩ = some (.slice d lj cd))) (by kernel_rfl) j0 (fun hHeld => ?_)
        refine wpAnyH_take (i := 0) (v := (.pointer (some ⟨a, 2, .none⟩))) rfl (by kernel_rfl) (by kernel_rfl) (by kernel_rfl) (fun _ _ _ h => h) (Or.inl ⟨by rfl, fun ww hSw => by (try dsimp only at hSw); go_simp⟩) (by assumption) ?_
        simp only [Act.put, List.setIfInBounds_toArray, List.set_cons_zero, List.set_cons_succ]
        refine wpAnyH_take (i := 2) (v := (.pointer (some ⟨w.heap.size, 2, .none⟩))) rfl (by kernel_rfl) (by kernel_rfl) (by kernel_rfl) (fun _ _ _ h => h) (Or.inl ⟨by rfl, fun ww hSw => by (try dsimp only at hSw); go_simp⟩) (by assumption) ?_
        simp only [Act.put, List.setIfInBounds_toArray, List.set_cons_zero, List.set_cons_succ]
        refine wpAnyH_take (i := 3) (v := (.slice (some ⟨gs, os, .none⟩) nh ch)) rfl (by kernel_rfl) (by kernel_rfl) (by kernel_rfl) (fun _ _ _ h => h) (Or.inl ⟨by rfl, fun ww hSw => by (try dsimp only at hSw); go_simp⟩) (by assumption) ?_
        simp only [Act.put, List.setIfInBounds_toArray, List.set_cons_zero, List.set_cons_succ]
        refine wpAnyH_take (i := 4) (v := (.int .i64 i)) rfl (by kernel_rfl) (by kernel_rfl) (by kernel_rfl) (fun _ _ _ h => h) (Or.inl ⟨by rfl, fun ww hSw => by (try dsimp only at hSw); go_simp⟩) (by assumption) ?_
        simp only [Act.put, List.setIfInBounds_toArray, List.set_cons_zero, List.set_cons_succ]
        refine wpAnyH_take (i := 5) (v := (.pointer (some ⟨gs, os + i * 2, .none⟩))) rfl (by kernel_rfl) (by kernel_rfl) (by kernel_rfl) (fun _ _ _ h => h) (Or.inl ⟨by rfl, fun ww hSw => by (try dsimp only at hSw); go_simp⟩) (by assumption) ?_
        simp only [Act.put, List.setIfInBounds_toArray, List.set_cons_zero, List.set_cons_succ]
        refine wpAnyH_take (i := 6) (v := (.pointer (some ⟨gs, os + i * 2, .none⟩))) rfl (by kernel_rfl) (by kernel_rfl) (by kernel_rfl) (fun _ _ _ h => h) (Or.inl ⟨by rfl, fun ww hSw => by (try dsimp only at hSw); go_simp⟩) (by assumption) ?_
        simp only [Act.put, List.setIfInBounds_toArray, List.set_cons_zero, List.set_cons_succ]
        refine wpAnyH_take (i := 7) (v := (.int .u64 pj)) rfl (by kernel_rfl) (by kernel_rfl) (by kernel_rfl) (fun _ _ _ h => h) (Or.inl ⟨by rfl, fun ww hSw => by (try dsimp only at hSw); go_simp⟩) (by assumption) ?_
        simp only [Act.put, List.setIfInBounds_toArray, List.set_cons_zero, List.set_cons_succ]
        refine wpAnyH_take (i := 8) (v := (.pointer (some ⟨w.heap.size, 2, .none⟩))) rfl (by kernel_rfl) (by kernel_rfl) (by kernel_rfl) (fun _ _ _ h => h) (Or.inl ⟨by rfl, fun ww hSw => by (try dsimp only at hSw); go_simp⟩) (by assumption) ?_
        simp only [Act.put, List.setIfInBounds_toArray, List.set_cons_zero, List.set_cons_succ]
        refine wpAnyH_take (i := 9) (v := (.slice (some ⟨gs, os, .none⟩) nh ch)) rfl (by kernel_rfl) (by kernel_rfl) (by kernel_rfl) (fun _ _ _ h => h) (Or.inl ⟨by rfl, fun ww hSw => by (try dsimp only at hSw); go_simp⟩) (by assumption) ?_
        simp only [Act.put, List.setIfInBounds_toArray, List.set_cons_zero, List.set_cons_succ]
        refine wpAnyH_take (i := 10) (v := (.int .i64 i)) rfl (by kernel_rfl) (by kernel_rfl) (by kernel_rfl) (fun _ _ _ h => h) (Or.inl ⟨by rfl, fun ww hSw => by (try dsimp only at hSw); go_simp⟩) (by assumption) ?_
        simp only [Act.put, List.setIfInBounds_toArray, List.set_cons_zero, List.set_cons_succ]
        refine wpAnyH_take (i := 11) (v := (.pointer (some ⟨gs, os + i * 2, .none⟩))) rfl (by kernel_rfl) (by kernel_rfl) (by kernel_rfl) (fun _ _ _ h => h) (Or.inl ⟨by rfl, fun ww hSw => by (try dsimp only at hSw); go_simp⟩) (by assumption) ?_
        simp only [Act.put, List.setIfInBounds_toArray, List.set_cons_zero, List.set_cons_succ]
        refine wpAnyH_take (i := 12) (v := (.pointer (some ⟨gs, os + i * 2 + 1, .none⟩))) rfl (by kernel_rfl) (by kernel_rfl) (by kernel_rfl) (fun _ _ _ h => h) (Or.inl ⟨by rfl, fun ww hSw => by (try dsimp only at hSw); go_simp⟩) (by assumption) ?_
        simp only [Act.put, List.setIfInBounds_toArray, List.set_cons_zero, List.set_cons_succ]
        refine wpAnyH_take (i := 13) (v := (.slice d lj cd)) rfl (by kernel_rfl) (by kernel_rfl) (by kernel_rfl) (fun _ _ _ h => h) (Or.inl ⟨by rfl, fun ww hSw => by (try dsimp only at hSw); go_simp⟩) (by assumption) ?_
        simp only [Act.put, List.setIfInBounds_toArray, List.set_cons_zero, List.set_cons_succ]
        refine wpAnyH_ready (rs := [1, 14]) (by kernel_rfl) (by simp) ?_
        refine AllReadyH.cons rfl (fun K hK => ?_) ?_
        · skip
          go_simp
          refine hK.out _ _ j0 (fun hHeld => ?_)
          clear hK K
          try simp only [Act.put, List.setIfInBounds_toArray, List.set_cons_zero, List.set_cons_succ]
          refine wpAnyH_ready (rs := [14]) (by kernel_rfl) (by simp) ?_
          refine AllReadyH.cons rfl (fun K hK => ?_) AllReadyH.nil
          go_simp
          go_at_call 29
          refine c29.mono ?_
          rintro e W5 ⟨q5, c5, rfl, H5, k3, k5, s5, s5a⟩
          have HA5 : Hid (∀ o, (W5.alloc o).ownsRow X 76 2 (.slice q2 i c2) i (flat2 hs) ∧ X ≤ (W5.alloc o).heap.size) := (fun o => ⟨H5.out.1.hr.alloc o, by simp only [World.size_alloc]; exact Nat.le_succ_of_le H5.out.1.xs⟩)
          refine hK.out _ _ s5 (fun hHeld => ?_)
          clear hK K
          try simp only [Act.put, List.setIfInBounds_toArray, List.set_cons_zero, List.set_cons_succ]
          refine wpAnyH_take (i := 15) (v := (.agg #[.int .u64 pj, .slice q5 lj c5])) rfl (by kernel_rfl) (by kernel_rfl) (by kernel_rfl) (fun _ _ _ h => h) (Or.inl ⟨by rfl, fun ww hSw => by (try dsimp only at hSw); go_simp⟩) (by assumption) ?_
          simp only [Act.put, List.setIfInBounds_toArray, List.set_cons_zero, List.set_cons_succ]
          refine wpAnyH_ready (rs := [16]) (by kernel_rfl) (by simp) ?_
          refine AllReadyH.cons rfl (fun K hK => ?_) AllReadyH.nil
          go_simp
          refine hK.out _ _ s5a (fun hHeld => ?_)
          clear hK K
          try simp only [Act.put, List.setIfInBounds_toArray, List.set_cons_zero, List.set_cons_succ]
          refine wpAnyH_ready (rs := [17]) (by kernel_rfl) (by simp) ?_
          refine AllReadyH.cons rfl (fun K hK => ?_) AllReadyH.nil
          refine step_append_at rfl (.tmp 19) (.tmp 34) 65 rfl X 76 j1 (.agg #[.int .u64 0, .slice .none 0 0]) 2 32 Try.underlying65 hk0 hkz hk1 hk2 rfl (by decide) (.slice q2 i c2) i (flat2 hs) (by simp [Act.eval, Act.put]) (HA5.out _).1 ⟨W5.heap.size, 0, .none⟩ 1 1 [.int .u64 pj, .slice q5 lj c5] (by simp [Act.eval, Act.put]) rfl (cell2_new _ _ _ _) (by simp [Value.oneCell']) hb1 hb2 (HA5.out _).2 ?_
          intro v' w5 hown5 hgr5 hat5
          obtain ⟨g1, cap1, rfl⟩ := ownsRow_some hown5
          obtain ⟨HN, m2, n5, sA, sB⟩ := AP.out W5 w5 q5 c5 g1 cap1 H5 hown5 hgr5
          clear hown5 hgr5 hat5
          refine hK.out _ _ sA (fun hHeld => ?_)
          clear hK K
          try simp only [Act.put, List.setIfInBounds_toArray, List.set_cons_zero, List.set_cons_succ]
          refine wpAnyH_take (i := 18) (v := (.pointer (some ⟨a, 2, .none⟩))) rfl (by kernel_rfl) (by kernel_rfl) (by kernel_rfl) (fun _ _ _ h => h) (Or.inl ⟨by rfl, fun ww hSw => by (try dsimp only at hSw); go_simp⟩) (by assumption) ?_
          simp only [Act.put, List.setIfInBounds_toArray, List.set_cons_zero, List.set_cons_succ]
          refine wpAnyH_ready (rs := [19]) (by kernel_rfl) (by simp) ?_
          refine AllReadyH.cons rfl (fun K hK => ?_) AllReadyH.nil
          go_simp
          refine hK.out _ _ sB (fun hHeld => ?_)
          clear hK K
          try simp only [Act.put, List.setIfInBounds_toArray, List.set_cons_zero, List.set_cons_succ]
          refine wpAnyH_done (by kernel_rfl) ?_ _
          refine NoPanic.normal ?_
          go_wp2
          exact ⟨⟨i + 1, _, _, _, by omega, by simp, HN.out.1, HN.out.2⟩, by simp [intOf]; omega⟩
        · refine AllReadyH.cons rfl (fun K hK => ?_) AllReadyH.nil
          go_simp
          go_at_call 29
          refine c29.mono ?_
          rintro e W5 ⟨q5, c5, rfl, H5, k3, k5, s5, s5a⟩
          have HA5 : Hid (∀ o, (W5.alloc o).ownsRow X 76 2 (.slice q2 i c2) i (flat2 hs) ∧ X ≤ (W5.alloc o).heap.size) := (fun o => ⟨H5.out.1.hr.alloc o, by simp only [World.size_alloc]; exact Nat.le_succ_of_le H5.out.1.xs⟩)
          refine hK.out _ _ s5 (fun hHeld => ?_)
          clear hK K
          try simp only [Act.put, List.setIfInBounds_toArray, List.set_cons_zero, List.set_cons_succ]
          refine wpAnyH_take (i := 15) (v := (.agg #[.int .u64 pj, .slice q5 lj c5])) rfl (by kernel_rfl) (by kernel_rfl) (by kernel_rfl) (fun _ _ _ h => h) (Or.inl ⟨by rfl, fun ww hSw => by (try dsimp only at hSw); go_simp⟩) (by assumption) ?_
          simp only [Act.put, List.setIfInBounds_toArray, List.set_cons_zero, List.set_cons_succ]
          refine wpAnyH_ready (rs := [1, 16]) (by kernel_rfl) (by simp) ?_
          refine AllReadyH.cons rfl (fun K hK => ?_) ?_
          · skip
            go_simp
            refine hK.out _ _ s5 (fun hHeld => ?_)
            clear hK K
            try simp only [Act.put, List.setIfInBounds_toArray, List.set_cons_zero, List.set_cons_succ]
            refine wpAnyH_ready (rs := [16]) (by kernel_rfl) (by simp) ?_
            refine AllReadyH.cons rfl (fun K hK => ?_) AllReadyH.nil
            go_simp
            refine hK.out _ _ s5a (fun hHeld => ?_)
            clear hK K
            try simp only [Act.put, List.setIfInBounds_toArray, List.set_cons_zero, List.set_cons_succ]
            refine wpAnyH_ready (rs := [17]) (by kernel_rfl) (by simp) ?_
            refine AllReadyH.cons rfl (fun K hK => ?_) AllReadyH.nil
            refine step_append_at rfl (.tmp 19) (.tmp 34) 65 rfl X 76 j1 (.agg #[.int .u64 0, .slice .none 0 0]) 2 32 Try.underlying65 hk0 hkz hk1 hk2 rfl (by decide) (.slice q2 i c2) i (flat2 hs) (by simp [Act.eval, Act.put]) (HA5.out _).1 ⟨W5.heap.size, 0, .none⟩ 1 1 [.int .u64 pj, .slice q5 lj c5] (by simp [Act.eval, Act.put]) rfl (cell2_new _ _ _ _) (by simp [Value.oneCell']) hb1 hb2 (HA5.out _).2 ?_
            intro v' w5 hown5 hgr5 hat5
            obtain ⟨g1, cap1, rfl⟩ := ownsRow_some hown5
            obtain ⟨HN, m2, n5, sA, sB⟩ := AP.out W5 w5 q5 c5 g1 cap1 H5 hown5 hgr5
            clear hown5 hgr5 hat5
            refine hK.out _ _ sA (fun hHeld => ?_)
            clear hK K
            try simp only [Act.put, List.setIfInBounds_toArray, List.set_cons_zero, List.set_cons_succ]
            refine wpAnyH_take (i := 18) (v := (.pointer (some ⟨a, 2, .none⟩))) rfl (by kernel_rfl) (by kernel_rfl) (by kernel_rfl) (fun _ _ _ h => h) (Or.inl ⟨by rfl, fun ww hSw => by (try dsimp only at hSw); go_simp⟩) (by assumption) ?_
            simp only [Act.put, List.setIfInBounds_toArray, List.set_cons_zero, List.set_cons_succ]
            refine wpAnyH_ready (rs := [19]) (by kernel_rfl) (by simp) ?_
            refine AllReadyH.cons rfl (fun K hK => ?_) AllReadyH.nil
            go_simp
            refine hK.out _ _ sB (fun hHeld => ?_)
            clear hK K
            try simp only [Act.put, List.setIfInBounds_toArray, List.set_cons_zero, List.set_cons_succ]
            refine wpAnyH_done (by kernel_rfl) ?_ _
            refine NoPanic.normal ?_
            go_wp2
            exact ⟨⟨i + 1, _, _, _, by omega, by simp, HN.out.1, HN.out.2⟩, by simp [intOf]; omega⟩
          · refine AllReadyH.cons rfl (fun K hK => ?_) AllReadyH.nil
            go_simp
            refine hK.out _ _ s5a (fun hHeld => ?_)
            clear hK K
            try simp only [Act.put, List.setIfInBounds_toArray, List.set_cons_zero, List.set_cons_succ]
            refine wpAnyH_ready (rs := [1]) (by kernel_rfl) (by simp) ?_
            refine AllReadyH.cons rfl (fun K hK => ?_) AllReadyH.nil
            go_simp
            refine hK.out _ _ s5a (fun hHeld => ?_)
            clear hK K
            try simp only [Act.put, List.setIfInBounds_toArray, List.set_cons_zero, List.set_cons_succ]
            refine wpAnyH_ready (rs := [17]) (by kernel_rfl) (by simp) ?_
            refine AllReadyH.cons rfl (fun K hK => ?_) AllReadyH.nil
            refine step_append_at rfl (.tmp 19) (.tmp 34) 65 rfl X 76 j1 (.agg #[.int .u64 0, .slice .none 0 0]) 2 32 Try.underlying65 hk0 hkz hk1 hk2 rfl (by decide) (.slice q2 i c2) i (flat2 hs) (by simp [Act.eval, Act.put]) (HA5.out _).1 ⟨W5.heap.size, 0, .none⟩ 1 1 [.int .u64 pj, .slice q5 lj c5] (by simp [Act.eval, Act.put]) rfl (cell2_new _ _ _ _) (by simp [Value.oneCell']) hb1 hb2 (HA5.out _).2 ?_
            intro v' w5 hown5 hgr5 hat5
            obtain ⟨g1, cap1, rfl⟩ := ownsRow_some hown5
            obtain ⟨HN, m2, n5, sA, sB⟩ := AP.out W5 w5 q5 c5 g1 cap1 H5 hown5 hgr5
            clear hown5 hgr5 hat5
            refine hK.out _ _ sA (fun hHeld => ?_)
            clear hK K
            try simp only [Act.put, List.setIfInBounds_toArray, List.set_cons_zero, List.set_cons_succ]
            refine wpAnyH_take (i := 18) (v := (.pointer (some ⟨a, 2, .none⟩))) rfl (by kernel_rfl) (by kernel_rfl) (by kernel_rfl) (fun _ _ _ h => h) (Or.inl ⟨by rfl, fun ww hSw => by (try dsimp only at hSw); go_simp⟩) (by assumption) ?_
            simp only [Act.put, List.setIfInBounds_toArray, List.set_cons_zero, List.set_cons_succ]
            refine wpAnyH_ready (rs := [19]) (by kernel_rfl) (by simp) ?_
            refine AllReadyH.cons rfl (fun K hK => ?_) AllReadyH.nil
            go_simp
            refine hK.out _ _ sB (fun hHeld => ?_)
            clear hK K
            try simp only [Act.put, List.setIfInBounds_toArray, List.set_cons_zero, List.set_cons_succ]
            refine wpAnyH_done (by kernel_rfl) ?_ _
            refine NoPanic.normal ?_
            go_wp2
            exact ⟨⟨i + 1, _, _, _, by omega, by simp, HN.out.1, HN.out.2⟩, by simp [intOf]; omega⟩
      · have i1 : ¬ ((i : Int) < nh) := by omega
        obtain rfl : i = nh := by omega
        obtain ⟨a0, a1, a2, z0, z1, z2⟩ := hT.c
        obtain ⟨b0, b1, b2, y0, y1, y2⟩ := hT.r
        have e2 := hC.2.2.1
        have HF : Hid (∀ x y z, See (((wr.setCell ⟨w.heap.size + 1, 0, .none⟩ x).setCell ⟨w.heap.size + 1, 1, .none⟩ y).setCell ⟨w.heap.size + 1, 2, .none⟩ z) .u64 qf' nf F ∧ SeeH (((wr.setCell ⟨w.heap.size + 1, 0, .none⟩ x).setCell ⟨w.heap.size + 1, 1, .none⟩ y).setCell ⟨w.heap.size + 1, 2, .none⟩ z) q2 i P ln R ∧ Below w.heap.size w (((wr.setCell ⟨w.heap.size + 1, 0, .none⟩ x).setCell ⟨w.heap.size + 1, 1, .none⟩ y).setCell ⟨w.heap.size + 1, 2, .none⟩ z)) := fun x y z => hT.fin ha1 ha2 x y z
        clear hT hC
        go_wp2
        have g0 : (((wr.setCell ⟨w.heap.size + 1, 0, .none⟩ (.int .i64 N)).setCell ⟨w.heap.size + 1, 1, .none⟩ (.slice qf' nf cf')).setCell ⟨w.heap.size + 1, 2, .none⟩ (.slice q2 i c2)).cell? ⟨w.heap.size + 1, 0, .none⟩ = some (.int .i64 N) := by
          rw [World.cell?_setCell_other _ _ _ _ (by simp), World.cell?_setCell_other _ _ _ _ (by simp)]
          exact World.cell?_setCell_same' _ _ _ (by rw [b0]; rfl)
        have g1 : (((wr.setCell ⟨w.heap.size + 1, 0, .none⟩ (.int .i64 N)).setCell ⟨w.heap.size + 1, 1, .none⟩ (.slice qf' nf cf')).setCell ⟨w.heap.size + 1, 2, .none⟩ (.slice q2 i c2)).cell? ⟨w.heap.size + 1, 1, .none⟩ = some (.slice qf' nf cf') := by
          rw [World.cell?_setCell_other _ _ _ _ (by simp)]
          exact World.cell?_setCell_same' _ _ _ (by rw [World.cell?_setCell_other _ _ _ _ (by simp), b1]; rfl)
        have g2 : (((wr.setCell ⟨w.heap.size + 1, 0, .none⟩ (.int .i64 N)).setCell ⟨w.heap.size + 1, 1, .none⟩ (.slice qf' nf cf')).setCell ⟨w.heap.size + 1, 2, .none⟩ (.slice q2 i c2)).cell? ⟨w.heap.size + 1, 2, .none⟩ = some (.slice q2 i c2) :=
          World.cell?_setCell_same' _ _ _ (by rw [World.cell?_setCell_other _ _ _ _ (by simp), World.cell?_setCell_other _ _ _ _ (by simp), b2]; rfl)
        have f9 := HF.out (.int .i64 N) (.slice qf' nf cf') (.slice q2 i c2)
        generalize (((wr.setCell ⟨w.heap.size + 1, 0, .none⟩ (.int .i64 N)).setCell ⟨w.heap.size + 1, 1, .none⟩ (.slice qf' nf cf')).setCell ⟨w.heap.size + 1, 2, .none⟩ (.slice q2 i c2)) = W9 at *
        exact bodyPost_ret (v := .agg #[.int .i64 N, .slice qf' nf cf', .slice q2 i c2]) (by simp [results, Try.results28, go_sem, g0, g1, g2]) rfl ⟨qf', cf', q2, c2, rfl, f9.1, f9.2.1, f9.2.2⟩
end Go.Proofs.Ytbpgdepgplmpnaa
