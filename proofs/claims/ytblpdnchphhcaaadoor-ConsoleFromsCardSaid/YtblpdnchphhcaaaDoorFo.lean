import Derived.Test.YtblpdnchphhcaaaDoorFl
import Derived.Deep.MidRow
namespace Go.Proofs.YtblpdnchphhcaaaDoor
open Go.RowKit
set_option linter.unusedVariables false
set_option linter.unusedSimpArgs false
set_option maxHeartbeats 16000000 in
set_option maxRecDepth 100000 in
theorem froms_any {w : World} {p q : Option Addr} {n c m d : Nat} {rs ls : List Int} (hR : Byt w p n c rs) (hr : ∀ x ∈ rs, 0 ≤ x ∧ x < 256) (hL : Byt w q m d ls) (hl : ∀ x ∈ ls, 0 ≤ x ∧ x < 256) (hn : n ≤ 140737488351232) (hm : m ≤ 140737488351232) (hd : Dd w) :
    Calls Tryd.prog 7 #[.agg #[.slice p n c, .slice q m d]] w fun e w' => e = .returned (.bool true) ∧ Below w.heap.size w w' := by
  have HR : Hid (Byt w p n c rs) := hR
  have HL : Hid (Byt w q m d ls) := hL
  have Hr : Hid (∀ x ∈ rs, 0 ≤ x ∧ x < 256) := hr
  have Hl : Hid (∀ x ∈ ls, 0 ≤ x ∧ x < 256) := hl
  have HD : Hid (Dd w) := hd
  have E1 : Hid (rs.length = n) := hR.1
  have E2 : Hid (ls.length = m) := hL.1
  have HNM : Hid (n ≤ 140737488351232 ∧ m ≤ 140737488351232) := ⟨hn, hm⟩
  clear hR hL hr hl hd hn hm
  go_enter Tryd.func7, Tryd.ntmps7
  go_upto_region 1 with fail
  have hs1 := sb_new w p n c q m d
  have hb1 := Trn.new w (.cells #[.slice p n c, .slice q m d] 29)
  generalize w.alloc (.cells #[.slice p n c, .slice q m d] 29) = W0 at *
  have H0 : Hid (Sb W0 w.heap.size p n c q m d ∧ Below w.heap.size w W0 ∧ w.heap.size < W0.heap.size) := ⟨hs1, hb1, lt_cell hs1.c0⟩
  clear hs1 hb1
  have a0 := H0.out.1.c0
  go_wp2_with fail
  refine (lend_any (byt_below HR.out H0.out.2.1) (by have := HNM.out; omega)).mono ?_
  rintro e W1 ⟨ga, ca, rfl, hLa, hb1⟩
  have H1 : Hid (Sb W1 w.heap.size p n c q m d ∧ Below w.heap.size w W1 ∧ Lent W1 W0.heap.size ga ca rs ∧ W0.heap.size ≤ W1.heap.size) := ⟨H0.out.1.below hb1, H0.out.2.1.trans (hb1.mono H0.out.2.1.size), hLa, hb1.size⟩
  clear hLa hb1 a0
  have a1 := H1.out.1.c1
  go_wp2_with fail
  refine (lend_any (byt_below HL.out H1.out.2.1) (by have := HNM.out; omega)).mono ?_
  rintro e W2 ⟨gb, cb, rfl, hLb, hb2⟩
  have H2 : Hid (Sb W2 w.heap.size p n c q m d ∧ Below w.heap.size w W2 ∧ Lent W2 W0.heap.size ga ca rs ∧ Lent W2 W1.heap.size gb cb ls ∧ ga < W1.heap.size ∧ W1.heap.size ≤ W2.heap.size) := ⟨H1.out.1.below hb2, H1.out.2.1.trans (hb2.mono H1.out.2.1.size), lent_below H1.out.2.2.1 hb2, hLb, own_lt H1.out.2.2.1, hb2.size⟩
  clear hLb hb2 a1
  have cF := from_any (lent_byt H2.out.2.2.1) (lent_byt H2.out.2.2.2.1) Hr.out Hl.out (by rw [E1.out, E2.out]; have := HNM.out; omega) (HD.out.below H2.out.2.1)
  rw [E1.out, E2.out] at cF
  go_wp2_with fail
  refine cF.mono ?_
  rintro e W3 ⟨hb3, hcase⟩
  have H3 : Hid (Sb W3 w.heap.size p n c q m d ∧ Below w.heap.size w W3 ∧ Lent W3 W0.heap.size ga ca rs ∧ Lent W3 W1.heap.size gb cb ls ∧ W2.heap.size ≤ W3.heap.size ∧ Below W2.heap.size W2 W3) := ⟨H2.out.1.below hb3, H2.out.2.1.trans (hb3.mono H2.out.2.1.size), lent_below H2.out.2.2.1 hb3, lent_below H2.out.2.2.2.1 hb3, hb3.size, hb3⟩
  clear cF hb3
  have cG := rfrom_any (byt_below HR.out H3.out.2.1) (byt_below HL.out H3.out.2.1) Hr.out Hl.out (by have := HNM.out; omega)
  rcases hcase with ⟨hbad, gg, rfl, f0, f1, f2⟩ | ⟨hok, b, hb, rfl, hC⟩
  · have HBAD : Hid (okC rs ls = false ∧ W3.cell? ⟨gg, 0, .none⟩ = some (.string ramB) ∧ W3.cell? ⟨gg, 1, .none⟩ = some (.int .i64 0) ∧ W3.cell? ⟨gg, 2, .none⟩ = some (.iface 73 (.int .i64 4))) := ⟨hbad, f0, f1, f2⟩
    clear hbad f0 f1 f2
    go_upto_region 4 with fail
    refine wp_region_lit ?_
    refine wpList_load_mid rfl 29 (.tmp 1) rfl w.heap.size 0 (by rfl) _ _ H3.out.1.rangeAt Tryd.underlying29 rfl (by kernel_rfl) ?_
    simp only [Act.put, List.setIfInBounds_toArray, List.set_cons_succ, List.set_cons_zero]
    go_wp2_with fail
    refine cG.mono ?_
    rintro e W4 ⟨hb4, ⟨_, rfl⟩ | ⟨hok, _⟩⟩
    rotate_left
    · rw [HBAD.out.1] at hok
      cases hok
    have H4 : Hid (Sb W4 w.heap.size p n c q m d ∧ Below w.heap.size w W4 ∧ Lent W4 W0.heap.size ga ca rs ∧ Lent W4 W1.heap.size gb cb ls ∧ gg < W3.heap.size ∧ W3.heap.size ≤ W4.heap.size ∧ W4.cell? ⟨gg, 0, .none⟩ = some (.string ramB) ∧ W4.cell? ⟨gg, 1, .none⟩ = some (.int .i64 0) ∧ W4.cell? ⟨gg, 2, .none⟩ = some (.iface 73 (.int .i64 4))) := by
      have h := HBAD.out
      have hlt := lt_cell h.2.1
      exact ⟨H3.out.1.below hb4, H3.out.2.1.trans (hb4.mono H3.out.2.1.size), lent_below H3.out.2.2.1 hb4, lent_below H3.out.2.2.2.1 hb4, hlt, hb4.size, (hb4.cell (p := ⟨gg, 0, .none⟩) hlt).trans h.2.1, (hb4.cell (p := ⟨gg, 1, .none⟩) hlt).trans h.2.2.1, (hb4.cell (p := ⟨gg, 2, .none⟩) hlt).trans h.2.2.2⟩
    clear hb4 cG
    have a0 := H4.out.1.c0
    have a1 := H4.out.1.c1
    go_wp2_with fail
    refine (kept_any (byt_below HR.out H4.out.2.1) (by have := HNM.out; omega) H4.out.2.2.1).mono ?_
    rintro e V1 ⟨rfl, k1, hk1⟩
    have d1 : V1.cell? ⟨w.heap.size, 1, .none⟩ = some (.slice q m d) := by rw [hk1]; exact a1
    have HK1 : Hid (V1 = W4.drewN k1) := hk1
    clear a0 a1 hk1
    go_wp2_with fail
    have cK : Calls Tryd.prog 23 #[.slice (some ⟨gb, 0, .none⟩) m cb, .slice q m d] V1 (fun e w' => e = .returned (.bool true) ∧ ∃ k, w' = V1.drewN k) := by
      rw [HK1.out]
      have hy : Byt W4 q m d ls := byt_below HL.out H4.out.2.1
      exact kept_any (w := W4.drewN k1) hy (by have := HNM.out; omega) (lent_drewN H4.out.2.2.2.1 k1)
    refine cK.mono ?_
    rintro e V2 ⟨rfl, k2, hk2⟩
    have H6 : Hid (Below w.heap.size w V2 ∧ gg < V2.heap.size ∧ V2.cell? ⟨gg, 0, .none⟩ = some (.string ramB) ∧ V2.cell? ⟨gg, 1, .none⟩ = some (.int .i64 0) ∧ V2.cell? ⟨gg, 2, .none⟩ = some (.iface 73 (.int .i64 4))) := by
      have h := H4.out
      rw [hk2, HK1.out]
      exact ⟨⟨h.2.1.os, h.2.1.tape, h.2.1.output, h.2.1.size, h.2.1.block⟩, by show gg < W4.heap.size; omega, h.2.2.2.2.2.2.1, h.2.2.2.2.2.2.2.1, h.2.2.2.2.2.2.2.2⟩
    clear hk2 cK d1
    go_wp2_with fail
    refine (rnew_any ⟨#[99, 111, 110, 115, 111, 108, 101]⟩ 0 4 V2).mono ?_
    rintro en W7 ⟨rfl, hw7⟩
    have hb7 : Below V2.heap.size V2 W7 := by rw [hw7]; exact ((Below.refl _ _).alloc (Nat.le_refl _) _).alloc (by simp only [World.size_alloc]; omega) _
    have hz7 : W7.heap.size = V2.heap.size + 2 := by rw [hw7]; simp
    have n0 : W7.cell? ⟨V2.heap.size + 1, 0, .none⟩ = some (.string ramB) := by rw [hw7, World.cell?_alloc_at _ _ _ _ (by simp)]; rfl
    have n1 : W7.cell? ⟨V2.heap.size + 1, 1, .none⟩ = some (.int .i64 0) := by rw [hw7, World.cell?_alloc_at _ _ _ _ (by simp)]; rfl
    have hFI : FaultIn W7 0 (.iface 72 (.pointer (some ⟨gg, 0, .none⟩))) 0 4 := by
      obtain ⟨_, h1, h2, h3, h4⟩ := H6.out
      exact ⟨gg, Nat.zero_le _, by omega, rfl, (hb7.cell (p := ⟨gg, 0, .none⟩) h1).trans h2, (hb7.cell (p := ⟨gg, 1, .none⟩) h1).trans h3, (hb7.cell (p := ⟨gg, 2, .none⟩) h1).trans h4⟩
    have c7 := is_fault (.iface 72 (.pointer (some ⟨gg, 0, .none⟩))) (V2.heap.size + 1) 1 0 4 W7 hFI (by decide) (by omega) n0 n1
    have HB7 : Hid (Below w.heap.size w W7) := H6.out.1.trans (hb7.mono H6.out.1.size)
    clear hw7 hb7 hz7 n0 n1 hFI
    go_wp2_with fail
    refine c7.mono ?_
    rintro en W8 ⟨rfl, hb8⟩
    have HE : Hid (Below w.heap.size w W8) := HB7.out.trans (hb8.mono HB7.out.size)
    clear c7 hb8
    go_wp2
    go_ret
    exact ⟨rfl, HE.out⟩
  · have HOK : Hid (okC rs ls = true ∧ Con W3 b rs ls ∧ W2.heap.size ≤ b) := ⟨hok, hC, hb⟩
    clear hok hC hb
    go_upto_region 4 with fail
    refine wp_region_lit ?_
    refine wpList_load_mid rfl 29 (.tmp 1) rfl w.heap.size 0 (by rfl) _ _ H3.out.1.rangeAt Tryd.underlying29 rfl (by kernel_rfl) ?_
    simp only [Act.put, List.setIfInBounds_toArray, List.set_cons_succ, List.set_cons_zero]
    go_wp2_with fail
    refine cG.mono ?_
    rintro e W4 ⟨hb4, ⟨hbad, _⟩ | ⟨_, dd, D, rfl, hDoc, hDl⟩⟩
    · rw [HOK.out.1] at hbad
      cases hbad
    have hn128 : n ≤ 128 ∧ m ≤ 128 := by have := (okC_le HOK.out.1).1; rw [E1.out, E2.out] at this; omega
    have H4 : Hid (Sb W4 w.heap.size p n c q m d ∧ Below w.heap.size w W4 ∧ Lent W4 W0.heap.size ga ca rs ∧ Lent W4 W1.heap.size gb cb ls ∧ Con W4 b rs ls ∧ Doc W4 dd D rs ls ∧ W2.heap.size ≤ b ∧ b < W3.heap.size ∧ W3.heap.size ≤ W4.heap.size) := ⟨H3.out.1.below hb4, H3.out.2.1.trans (hb4.mono H3.out.2.1.size), lent_below H3.out.2.2.1 hb4, lent_below H3.out.2.2.2.1 hb4, HOK.out.2.1.below hb4, hDoc, HOK.out.2.2, HOK.out.2.1.lt, hb4.size⟩
    have HDl : Hid (∀ k, D k → W3.heap.size ≤ k) := hDl
    clear hb4 cG hDoc hDl
    have a0 := H4.out.1.c0
    have a1 := H4.out.1.c1
    go_wp2_with fail
    refine (kept_any (byt_below HR.out H4.out.2.1) (by have := HNM.out; omega) H4.out.2.2.1).mono ?_
    rintro e V1 ⟨rfl, k1, hk1⟩
    have d1 : V1.cell? ⟨w.heap.size, 1, .none⟩ = some (.slice q m d) := by rw [hk1]; exact a1
    have HK1 : Hid (V1 = W4.drewN k1) := hk1
    clear a0 a1 hk1
    go_wp2_with fail
    have cK : Calls Tryd.prog 23 #[.slice (some ⟨gb, 0, .none⟩) m cb, .slice q m d] V1 (fun e w' => e = .returned (.bool true) ∧ ∃ k, w' = V1.drewN k) := by
      rw [HK1.out]
      have hy : Byt W4 q m d ls := byt_below HL.out H4.out.2.1
      exact kept_any (w := W4.drewN k1) hy (by have := HNM.out; omega) (lent_drewN H4.out.2.2.2.1 k1)
    refine cK.mono ?_
    rintro e V2 ⟨rfl, k2, hk2⟩
    have HQ : Hid (Fq w V2 b dd (fun k => D k ∧ k < W4.heap.size) rs ls W0.heap.size W2.heap.size V2.heap.size [(.slice (some ⟨ga, 0, .none⟩) n ca, rs), (.slice (some ⟨gb, 0, .none⟩) m cb, ls)] V2.heap.size) := by
      have h := H4.out
      have h2 := H2.out
      have r1 := lent_row H1.out.2.2.1 (by rw [E1.out]; omega)
      have r2 := lent_row h2.2.2.2.1 (by rw [E2.out]; omega)
      rw [E1.out] at r1
      rw [E2.out] at r2
      have r3 := lent_row h.2.2.1 (by rw [E1.out]; omega)
      have r4 := lent_row h.2.2.2.1 (by rw [E2.out]; omega)
      rw [E1.out] at r3
      rw [E2.out] at r4
      have hbb := H4.out.2.2.2.2.2.2
      have h01 := H1.out.2.2.2
      have h00 := H0.out.2.1.size
      have h12 := h2.2.2.2.2.2
      have h23 := H3.out.2.2.2.2.1
      have ez : V2.heap.size = W4.heap.size := by rw [hk2, HK1.out]; rfl
      rw [ez, hk2, HK1.out]
      refine ⟨⟨h.2.1.os, h.2.1.tape, h.2.1.output, h.2.1.size, h.2.1.block⟩, (h.2.2.2.2.1.drewN k1).drewN k2, (h.2.2.2.2.2.1.cut.drewN k1).drewN k2, ⟨W1.heap.size, ⟨r3.1, r3.2.1, r1.2.2⟩, h01, W2.heap.size, ⟨r4.1, r4.2.1, r2.2.2⟩, h12, ?_⟩, Nat.le_refl _, Nat.le_refl _, fun r hr g hg => ?_, ?_, fun k hk => ?_, h00, ?_⟩
      · show W2.heap.size ≤ W4.heap.size; omega
      · left
        simp only [List.mem_cons, List.not_mem_nil, or_false] at hr
        rcases hr with rfl | rfl
        · have := r1.2.2 g hg; omega
        · exact (r2.2.2 g hg).2
      · omega
      · have := HDl.out k hk.1
        have := hk.2
        refine ⟨by omega, by omega, by omega⟩
      · omega
    have H5 : Hid (Below w.heap.size w V2 ∧ w.heap.size < V2.heap.size ∧ b < V2.heap.size ∧ w.heap.size ≤ b) := by
      have h := HQ.out
      have h1 := h.bs
      have h2 := h.ws
      have h3 := h.s02
      have h4 := H0.out.2.2
      exact ⟨h.bel, by omega, h1.2, by omega⟩
    clear hk2 cK d1 H0 H1 H2 H3 H4 HOK HDl HK1
    generalize (fun k => D k ∧ k < W4.heap.size) = D2 at *
    generalize W0.heap.size = s0 at *
    generalize W2.heap.size = s2 at *
    generalize hs5 : V2.heap.size = s5 at *
    have HS5 : Hid (V2.heap.size = s5) := hs5
    clear hs5
    have cS := state_any HQ.out.con
    go_wp2_with fail
    refine cS.mono ?_
    rintro e W6 ⟨p1, c1, q1, f1, X1, rfl, hO1, hO2, hX, hlX, hb6⟩
    have HQ6 : Hid (Fq w W6 b dd D2 rs ls s0 s2 s5 [(.slice (some ⟨ga, 0, .none⟩) n ca, rs), (.slice (some ⟨gb, 0, .none⟩) m cb, ls), (.slice p1 n c1, rs), (.slice q1 m f1, ls)] W6.heap.size) := by
      have h := HQ.out.below hb6
      rw [E1.out, HS5.out] at hO1
      rw [E2.out] at hO2
      rw [HS5.out] at hX
      rw [E1.out] at hlX
      have r1 : Row W6 s5 (min X1 W6.heap.size) (.slice p1 n c1) rs := ⟨by rw [E1.out]; exact own_mono hO1 (Nat.zero_le _), by rw [E1.out]; omega, fun g hg => ⟨own_block hO1 g hg, by have := hlX g hg; have := own_ltC hO1 g hg; omega⟩⟩
      have r2 : Row W6 (min X1 W6.heap.size) W6.heap.size (.slice q1 m f1) ls := ⟨by rw [E2.out]; exact own_mono hO2 (Nat.zero_le _), by rw [E2.out]; omega, fun g hg => ⟨by have := own_block hO2 g hg; omega, own_ltC hO2 g hg⟩⟩
      have hs := hb6.size
      have h5 := HS5.out
      exact (h.add r1 (by omega) (by omega)).add r2 (by omega) (Nat.le_refl _)
    have HB6 : Hid (s5 ≤ W6.heap.size) := by show _ ≤ _; have := hb6.size; have := HS5.out; omega
    clear cS hO1 hO2 hX hlX hb6 HQ
    rw [E1.out, E2.out]
    go_upto_region 10 with fail
    have hs7 := sb_new W6 p1 n c1 q1 m f1
    have hb7 := Trn.new W6 (.cells #[.slice p1 n c1, .slice q1 m f1] 29)
    have hz7 : (W6.alloc (.cells #[.slice p1 n c1, .slice q1 m f1] 29)).heap.size = W6.heap.size + 1 := by simp
    generalize W6.alloc (.cells #[.slice p1 n c1, .slice q1 m f1] 29) = W7 at *
    have H7 : Hid (Fq w W7 b dd D2 rs ls s0 s2 s5 [(.slice (some ⟨ga, 0, .none⟩) n ca, rs), (.slice (some ⟨gb, 0, .none⟩) m cb, ls), (.slice p1 n c1, rs), (.slice q1 m f1, ls)] W7.heap.size ∧ Sb W7 W6.heap.size p1 n c1 q1 m f1 ∧ s5 ≤ W6.heap.size) := ⟨(HQ6.out.below hb7).up (by omega) (Nat.le_refl _), hs7, HB6.out⟩
    clear hs7 hb7 hz7 HQ6 HB6
    generalize W6.heap.size = bx at *
    have cS := state_any H7.out.1.con
    go_wp2_with fail
    refine cS.mono ?_
    rintro e W8 ⟨p2, c2, q2, f2, X2, rfl, hO1, hO2, hX, hlX, hb6⟩
    have HQ8 : Hid (Fq w W8 b dd D2 rs ls s0 s2 s5 [(.slice (some ⟨ga, 0, .none⟩) n ca, rs), (.slice (some ⟨gb, 0, .none⟩) m cb, ls), (.slice p1 n c1, rs), (.slice q1 m f1, ls), (.slice p2 n c2, rs), (.slice q2 m f2, ls)] W8.heap.size ∧ Sb W8 bx p1 n c1 q1 m f1) := by
      have h := H7.out.1.below hb6
      rw [E1.out] at hO1
      rw [E2.out] at hO2
      rw [E1.out] at hlX
      have r1 : Row W8 W7.heap.size (min X2 W8.heap.size) (.slice p2 n c2) rs := ⟨by rw [E1.out]; exact own_mono hO1 (Nat.zero_le _), by rw [E1.out]; omega, fun g hg => ⟨own_block hO1 g hg, by have := hlX g hg; have := own_ltC hO1 g hg; omega⟩⟩
      have r2 : Row W8 (min X2 W8.heap.size) W8.heap.size (.slice q2 m f2) ls := ⟨by rw [E2.out]; exact own_mono hO2 (Nat.zero_le _), by rw [E2.out]; omega, fun g hg => ⟨by have := own_block hO2 g hg; omega, own_ltC hO2 g hg⟩⟩
      have hs := hb6.size
      exact ⟨(h.add r1 (by omega) (by omega)).add r2 (by omega) (Nat.le_refl _), H7.out.2.1.below hb6⟩
    have HB8 : Hid (bx < W7.heap.size ∧ W7.heap.size ≤ W8.heap.size ∧ s5 ≤ bx) := ⟨lt_cell H7.out.2.1.c0, hb6.size, H7.out.2.2⟩
    clear cS hO1 hO2 hX hlX hb6 H7
    rw [E1.out, E2.out]
    go_upto_region 11 with fail
    have hs7 := sb_new W8 p2 n c2 q2 m f2
    have hb7 := Trn.new W8 (.cells #[.slice p2 n c2, .slice q2 m f2] 29)
    have hz7 : (W8.alloc (.cells #[.slice p2 n c2, .slice q2 m f2] 29)).heap.size = W8.heap.size + 1 := by simp
    generalize W8.alloc (.cells #[.slice p2 n c2, .slice q2 m f2] 29) = W9 at *
    have H9 : Hid (Fq w W9 b dd D2 rs ls s0 s2 s5 [(.slice (some ⟨ga, 0, .none⟩) n ca, rs), (.slice (some ⟨gb, 0, .none⟩) m cb, ls), (.slice p1 n c1, rs), (.slice q1 m f1, ls), (.slice p2 n c2, rs), (.slice q2 m f2, ls)] W9.heap.size ∧ Sb W9 bx p1 n c1 q1 m f1 ∧ Sb W9 W8.heap.size p2 n c2 q2 m f2 ∧ s5 ≤ bx ∧ s5 ≤ W8.heap.size) := ⟨(HQ8.out.1.below hb7).up (by omega) (Nat.le_refl _), HQ8.out.2.below hb7, hs7, HB8.out.2.2, by have := HB8.out; omega⟩
    clear hs7 hb7 hz7 HQ8 HB8
    generalize W8.heap.size = by2 at *
    have HTK : Hid ((rs.take (nxT rs 200)).length ≤ 1000000) := by show _ ≤ _; rw [List.length_take]; have := E1.out; omega
    have cP := peek_all H9.out.1.con 200
    generalize decide (0 < rs.length) = ok1 at *
    have HPK : Hid (∀ V, Con V b rs ls → ∃ okk, Calls Tryd.prog 13 #[.pointer (some ⟨b, 0, .none⟩), .int .i64 200] V (Ty V b rs ls (rs.take (nxT rs 200)) okk)) := fun V hV => ⟨_, peek_all hV 200⟩
    generalize rs.take (nxT rs 200) = PK at *
    go_wp2_with fail
    refine cP.mono ?_
    rintro e WA ⟨p3, c3, rfl, hO, hC, hT⟩
    have HA : Hid (Fq w WA b dd D2 rs ls s0 s2 s5 [(.slice (some ⟨ga, 0, .none⟩) n ca, rs), (.slice (some ⟨gb, 0, .none⟩) m cb, ls), (.slice p1 n c1, rs), (.slice q1 m f1, ls), (.slice p2 n c2, rs), (.slice q2 m f2, ls), (.slice p3 PK.length c3, PK)] WA.heap.size ∧ Sb WA bx p1 n c1 q1 m f1 ∧ Sb WA by2 p2 n c2 q2 m f2) := by
      have h := H9.out.1.trn1 hT hC
      have hbs := h.bs
      have h9 := H9.out.2.2.2
      exact ⟨h.add (Row.of hO HTK.out) hT.size (Nat.le_refl _), H9.out.2.1.keep (Chg.ofTrn hT) (by show ¬ bx = b; omega), H9.out.2.2.1.keep (Chg.ofTrn hT) (by show ¬ by2 = b; omega)⟩
    clear hO hC hT cP
    have HBX : Hid (s5 ≤ bx ∧ s5 ≤ by2) := H9.out.2.2.2
    clear H9
    obtain ⟨okk, cP⟩ := HPK.out WA HA.out.1.con
    go_wp2_with fail
    refine cP.mono ?_
    rintro e WB ⟨p4, c4, rfl, hO, hC, hT⟩
    have HBB : Hid (Fq w WB b dd D2 rs ls s0 s2 s5 [(.slice (some ⟨ga, 0, .none⟩) n ca, rs), (.slice (some ⟨gb, 0, .none⟩) m cb, ls), (.slice p1 n c1, rs), (.slice q1 m f1, ls), (.slice p2 n c2, rs), (.slice q2 m f2, ls), (.slice p3 PK.length c3, PK), (.slice p4 PK.length c4, PK)] WB.heap.size ∧ Sb WB bx p1 n c1 q1 m f1 ∧ Sb WB by2 p2 n c2 q2 m f2) := by
      have h := HA.out.1.trn1 hT hC
      have hbs := h.bs
      have h9 := HBX.out
      exact ⟨h.add (Row.of hO HTK.out) hT.size (Nat.le_refl _), HA.out.2.1.keep (Chg.ofTrn hT) (by show ¬ bx = b; omega), HA.out.2.2.keep (Chg.ofTrn hT) (by show ¬ by2 = b; omega)⟩
    clear hO hC hT cP HPK HA
    go_upto_region 13 with fail
    have kS : Sb WB.drew bx p1 n c1 q1 m f1 ∧ Sb WB.drew by2 p2 n c2 q2 m f2 := ⟨⟨HBB.out.2.1.c0, HBB.out.2.1.c1⟩, ⟨HBB.out.2.2.c0, HBB.out.2.2.c1⟩⟩
    have HV : Hid (Fq w WB.drew b dd D2 rs ls s0 s2 s5 [(.slice (some ⟨ga, 0, .none⟩) n ca, rs), (.slice (some ⟨gb, 0, .none⟩) m cb, ls), (.slice p1 n c1, rs), (.slice q1 m f1, ls), (.slice p2 n c2, rs), (.slice q2 m f2, ls), (.slice p3 PK.length c3, PK), (.slice p4 PK.length c4, PK)] WB.heap.size) := HBB.out.1.drewN 1
    clear HBB
    generalize hLL : [((.slice (some ⟨ga, 0, .none⟩) n ca : Value), rs), (.slice (some ⟨gb, 0, .none⟩) m cb, ls), (.slice p1 n c1, rs), (.slice q1 m f1, ls), (.slice p2 n c2, rs), (.slice q2 m f2, ls), (.slice p3 PK.length c3, PK), (.slice p4 PK.length c4, PK)] = LL at *
    have HLL : Hid ([((.slice (some ⟨ga, 0, .none⟩) n ca : Value), rs), (.slice (some ⟨gb, 0, .none⟩) m cb, ls), (.slice p1 n c1, rs), (.slice q1 m f1, ls), (.slice p2 n c2, rs), (.slice q2 m f2, ls), (.slice p3 PK.length c3, PK), (.slice p4 PK.length c4, PK)] = LL) := hLL
    clear hLL
    generalize hhi : WB.heap.size = hi at *
    clear hhi
    refine wp_region_held_drew (S := fun U => Sb U bx p1 n c1 q1 m f1 ∧ Sb U by2 p2 n c2 q2 m f2) (by kernel_rfl) kS (fun hHeld => ?_)
    refine wpAnyH_take (i := 0) (v := (.nilIface)) rfl (by kernel_rfl) (by kernel_rfl) (by kernel_rfl) (fun _ _ _ h => h) (Or.inl ⟨by rfl, fun ww hSw => by (try dsimp only at hSw); go_simp⟩) (by assumption) ?_
    simp only [Act.put, List.setIfInBounds_toArray, List.set_cons_zero, List.set_cons_succ, List.getElem_toArray, List.getElem_cons_succ, List.getElem_cons_zero]
    refine wpAnyH_take (i := 1) (v := (.bool false)) rfl (by kernel_rfl) (by kernel_rfl) (by kernel_rfl) (fun _ _ _ h => h) (Or.inl ⟨by rfl, fun ww hSw => by (try dsimp only at hSw); go_simp⟩) (by assumption) ?_
    simp only [Act.put, List.setIfInBounds_toArray, List.set_cons_zero, List.set_cons_succ, List.getElem_toArray, List.getElem_cons_succ, List.getElem_cons_zero]
    refine wpAnyH_take (i := 2) (v := (.bool false)) rfl (by kernel_rfl) (by kernel_rfl) (by kernel_rfl) (fun _ _ _ h => h) (Or.inl ⟨by rfl, fun ww hSw => by (try dsimp only at hSw); go_simp⟩) (by assumption) ?_
    simp only [Act.put, List.setIfInBounds_toArray, List.set_cons_zero, List.set_cons_succ, List.getElem_toArray, List.getElem_cons_succ, List.getElem_cons_zero]
    refine wpAnyH_take (i := 3) (v := .agg #[.slice p1 n c1, .slice q1 m f1]) rfl (by kernel_rfl) (by kernel_rfl) (by kernel_rfl) (fun _ _ _ h => h) (yieldsIf_load_mid (by rfl) 29 (.tmp 9) rfl bx 0 (by rfl) _ _ (fun ww hSw => Sb.rangeAt hSw.1) Tryd.underlying29 rfl (by kernel_rfl)) (by assumption) ?_
    simp only [Act.put, List.setIfInBounds_toArray, List.set_cons_zero, List.set_cons_succ, List.getElem_toArray, List.getElem_cons_succ, List.getElem_cons_zero]
    refine wpAnyH_take (i := 4) (v := (.pointer (some ⟨dd, 0, .none⟩))) rfl (by kernel_rfl) (by kernel_rfl) (by kernel_rfl) (fun _ _ _ h => h) (Or.inl ⟨by rfl, fun ww hSw => by (try dsimp only at hSw); go_simp⟩) (by assumption) ?_
    simp only [Act.put, List.setIfInBounds_toArray, List.set_cons_zero, List.set_cons_succ, List.getElem_toArray, List.getElem_cons_succ, List.getElem_cons_zero]
    refine wpAnyH_ready (rs := [5]) (by kernel_rfl) (by simp) ?_
    refine AllReadyH.cons rfl (fun K hK => ?_) AllReadyH.nil
    go_simp
    refine (rstate_any HV.out.doc).mono ?_
    rintro e Y1 ⟨r1, t1, u1, z1, XX, rfl, hO1, hO2, _, _, hbb⟩
    rw [E1.out, E2.out]
    have kS1 : Sb Y1 bx p1 n c1 q1 m f1 ∧ Sb Y1 by2 p2 n c2 q2 m f2 := ⟨kS.1.below hbb, kS.2.below hbb⟩
    have HR1 : Hid (Byt Y1 r1 n t1 rs ∧ Byt Y1 u1 m z1 ls) := by rw [E1.out] at hO1; rw [E2.out] at hO2; exact ⟨byt_own hO1, byt_own hO2⟩
    replace HV : Hid (Fq w Y1 b dd D2 rs ls s0 s2 s5 LL hi) := HV.out.below hbb
    clear hO1 hO2 hbb kS
    have kS := kS1
    clear kS1
    refine hK.out _ _ kS (fun hHeld => ?_)
    clear hK K
    try simp only [Act.put, List.setIfInBounds_toArray, List.set_cons_zero, List.set_cons_succ, List.getElem_toArray, List.getElem_cons_succ, List.getElem_cons_zero]
    refine wpAnyH_ready (rs := [6]) (by kernel_rfl) (by simp) ?_
    refine AllReadyH.cons rfl (fun K hK => ?_) AllReadyH.nil
    go_simp
    have cS := states_any (HV.out.byt 2 (by rw [← HLL.out]; rfl) E1.out) HR1.out.1 (HV.out.byt 3 (by rw [← HLL.out]; rfl) E2.out) HR1.out.2 (by omega) (by omega)
    refine cS.mono ?_
    rintro e Y2 ⟨rfl, hbb⟩
    have kS2 : Sb Y2 bx p1 n c1 q1 m f1 ∧ Sb Y2 by2 p2 n c2 q2 m f2 := ⟨kS.1.below hbb, kS.2.below hbb⟩
    replace HV : Hid (Fq w Y2 b dd D2 rs ls s0 s2 s5 LL hi) := HV.out.below hbb
    clear hbb kS cS
    have kS := kS2
    clear kS2
    refine hK.out _ _ kS (fun hHeld => ?_)
    clear hK K
    try simp only [Act.put, List.setIfInBounds_toArray, List.set_cons_zero, List.set_cons_succ, List.getElem_toArray, List.getElem_cons_succ, List.getElem_cons_zero]
    refine wpAnyH_take (i := 7) (v := (.bool false)) rfl (by kernel_rfl) (by kernel_rfl) (by kernel_rfl) (fun _ _ _ h => h) (Or.inl ⟨by rfl, fun ww hSw => by (try dsimp only at hSw); go_simp⟩) (by assumption) ?_
    simp only [Act.put, List.setIfInBounds_toArray, List.set_cons_zero, List.set_cons_succ, List.getElem_toArray, List.getElem_cons_succ, List.getElem_cons_zero]
    refine wpAnyH_take (i := 8) (v := (.bool false)) rfl (by kernel_rfl) (by kernel_rfl) (by kernel_rfl) (fun _ _ _ h => h) (Or.inl ⟨by rfl, fun ww hSw => by (try dsimp only at hSw); go_simp⟩) (by assumption) ?_
    simp only [Act.put, List.setIfInBounds_toArray, List.set_cons_zero, List.set_cons_succ, List.getElem_toArray, List.getElem_cons_succ, List.getElem_cons_zero]
    refine wpAnyH_take (i := 9) (v := (.bool false)) rfl (by kernel_rfl) (by kernel_rfl) (by kernel_rfl) (fun _ _ _ h => h) (Or.inl ⟨by rfl, fun ww hSw => by (try dsimp only at hSw); go_simp⟩) (by assumption) ?_
    simp only [Act.put, List.setIfInBounds_toArray, List.set_cons_zero, List.set_cons_succ, List.getElem_toArray, List.getElem_cons_succ, List.getElem_cons_zero]
    refine wpAnyH_take (i := 10) (v := .agg #[.slice p2 n c2, .slice q2 m f2]) rfl (by kernel_rfl) (by kernel_rfl) (by kernel_rfl) (fun _ _ _ h => h) (yieldsIf_load_mid (by rfl) 29 (.tmp 10) rfl by2 0 (by rfl) _ _ (fun ww hSw => Sb.rangeAt hSw.2) Tryd.underlying29 rfl (by kernel_rfl)) (by assumption) ?_
    simp only [Act.put, List.setIfInBounds_toArray, List.set_cons_zero, List.set_cons_succ, List.getElem_toArray, List.getElem_cons_succ, List.getElem_cons_zero]
    refine wpAnyH_take (i := 11) (v := (.pointer (some ⟨dd, 0, .none⟩))) rfl (by kernel_rfl) (by kernel_rfl) (by kernel_rfl) (fun _ _ _ h => h) (Or.inl ⟨by rfl, fun ww hSw => by (try dsimp only at hSw); go_simp⟩) (by assumption) ?_
    simp only [Act.put, List.setIfInBounds_toArray, List.set_cons_zero, List.set_cons_succ, List.getElem_toArray, List.getElem_cons_succ, List.getElem_cons_zero]
    refine wpAnyH_ready (rs := [12]) (by kernel_rfl) (by simp) ?_
    refine AllReadyH.cons rfl (fun K hK => ?_) AllReadyH.nil
    go_simp
    refine (rstate_any HV.out.doc).mono ?_
    rintro e Y3 ⟨r3, t3, u3, z3, XX, rfl, hO1, hO2, _, _, hbb⟩
    rw [E1.out, E2.out]
    have kS3 : Sb Y3 bx p1 n c1 q1 m f1 ∧ Sb Y3 by2 p2 n c2 q2 m f2 := ⟨kS.1.below hbb, kS.2.below hbb⟩
    have HR3 : Hid (Byt Y3 r3 n t3 rs ∧ Byt Y3 u3 m z3 ls) := by rw [E1.out] at hO1; rw [E2.out] at hO2; exact ⟨byt_own hO1, byt_own hO2⟩
    replace HV : Hid (Fq w Y3 b dd D2 rs ls s0 s2 s5 LL hi) := HV.out.below hbb
    clear hO1 hO2 hbb kS
    have kS := kS3
    clear kS3
    refine hK.out _ _ kS (fun hHeld => ?_)
    clear hK K
    try simp only [Act.put, List.setIfInBounds_toArray, List.set_cons_zero, List.set_cons_succ, List.getElem_toArray, List.getElem_cons_succ, List.getElem_cons_zero]
    refine wpAnyH_ready (rs := [13]) (by kernel_rfl) (by simp) ?_
    refine AllReadyH.cons rfl (fun K hK => ?_) AllReadyH.nil
    go_simp
    have cS := states_any (HV.out.byt 4 (by rw [← HLL.out]; rfl) E1.out) HR3.out.1 (HV.out.byt 5 (by rw [← HLL.out]; rfl) E2.out) HR3.out.2 (by omega) (by omega)
    refine cS.mono ?_
    rintro e Y4 ⟨rfl, hbb⟩
    have kS4 : Sb Y4 bx p1 n c1 q1 m f1 ∧ Sb Y4 by2 p2 n c2 q2 m f2 := ⟨kS.1.below hbb, kS.2.below hbb⟩
    replace HV : Hid (Fq w Y4 b dd D2 rs ls s0 s2 s5 LL hi) := HV.out.below hbb
    clear hbb kS cS
    have kS := kS4
    clear kS4
    refine hK.out _ _ kS (fun hHeld => ?_)
    clear hK K
    try simp only [Act.put, List.setIfInBounds_toArray, List.set_cons_zero, List.set_cons_succ, List.getElem_toArray, List.getElem_cons_succ, List.getElem_cons_zero]
    refine wpAnyH_take (i := 14) (v := (.bool false)) rfl (by kernel_rfl) (by kernel_rfl) (by kernel_rfl) (fun _ _ _ h => h) (Or.inl ⟨by rfl, fun ww hSw => by (try dsimp only at hSw); go_simp⟩) (by assumption) ?_
    simp only [Act.put, List.setIfInBounds_toArray, List.set_cons_zero, List.set_cons_succ, List.getElem_toArray, List.getElem_cons_succ, List.getElem_cons_zero]
    refine wpAnyH_take (i := 15) (v := (.bool false)) rfl (by kernel_rfl) (by kernel_rfl) (by kernel_rfl) (fun _ _ _ h => h) (Or.inl ⟨by rfl, fun ww hSw => by (try dsimp only at hSw); go_simp⟩) (by assumption) ?_
    simp only [Act.put, List.setIfInBounds_toArray, List.set_cons_zero, List.set_cons_succ, List.getElem_toArray, List.getElem_cons_succ, List.getElem_cons_zero]
    refine wpAnyH_take (i := 16) (v := (.bool false)) rfl (by kernel_rfl) (by kernel_rfl) (by kernel_rfl) (fun _ _ _ h => h) (Or.inl ⟨by rfl, fun ww hSw => by (try dsimp only at hSw); go_simp⟩) (by assumption) ?_
    simp only [Act.put, List.setIfInBounds_toArray, List.set_cons_zero, List.set_cons_succ, List.getElem_toArray, List.getElem_cons_succ, List.getElem_cons_zero]
    refine wpAnyH_take (i := 17) (v := (.slice p3 PK.length c3)) rfl (by kernel_rfl) (by kernel_rfl) (by kernel_rfl) (fun _ _ _ h => h) (Or.inl ⟨by rfl, fun ww hSw => by (try dsimp only at hSw); go_simp⟩) (by assumption) ?_
    simp only [Act.put, List.setIfInBounds_toArray, List.set_cons_zero, List.set_cons_succ, List.getElem_toArray, List.getElem_cons_succ, List.getElem_cons_zero]
    refine wpAnyH_take (i := 18) (v := (.slice p4 PK.length c4)) rfl (by kernel_rfl) (by kernel_rfl) (by kernel_rfl) (fun _ _ _ h => h) (Or.inl ⟨by rfl, fun ww hSw => by (try dsimp only at hSw); go_simp⟩) (by assumption) ?_
    simp only [Act.put, List.setIfInBounds_toArray, List.set_cons_zero, List.set_cons_succ, List.getElem_toArray, List.getElem_cons_succ, List.getElem_cons_zero]
    refine wpAnyH_ready (rs := [19]) (by kernel_rfl) (by simp) ?_
    refine AllReadyH.cons rfl (fun K hK => ?_) AllReadyH.nil
    go_simp
    have cB := bytes_any p3 p4 PK.length c3 c4 PK Y4 (by have := HTK.out; omega) (HV.out.byt 6 (by rw [← HLL.out]; rfl) rfl) (HV.out.byt 7 (by rw [← HLL.out]; rfl) rfl)
    refine cB.mono ?_
    rintro e Y5 ⟨rfl, k, hk⟩
    have kS5 : Sb Y5 bx p1 n c1 q1 m f1 ∧ Sb Y5 by2 p2 n c2 q2 m f2 := by rw [hk]; exact ⟨⟨kS.1.c0, kS.1.c1⟩, ⟨kS.2.c0, kS.2.c1⟩⟩
    replace HV : Hid (Fq w Y5 b dd D2 rs ls s0 s2 s5 LL hi) := by rw [hk]; exact HV.out.drewN k
    clear hk cB kS
    refine hK.out _ _ kS5 (fun hHeld => ?_)
    clear hK K
    try simp only [Act.put, List.setIfInBounds_toArray, List.set_cons_zero, List.set_cons_succ, List.getElem_toArray, List.getElem_cons_succ, List.getElem_cons_zero]
    refine wpAnyH_take (i := 20) (v := (.bool false)) rfl (by kernel_rfl) (by kernel_rfl) (by kernel_rfl) (fun _ _ _ h => h) (Or.inl ⟨by rfl, fun ww hSw => by (try dsimp only at hSw); go_simp⟩) (by assumption) ?_
    simp only [Act.put, List.setIfInBounds_toArray, List.set_cons_zero, List.set_cons_succ, List.getElem_toArray, List.getElem_cons_succ, List.getElem_cons_zero]
    refine wpAnyH_take (i := 21) (v := (.bool false)) rfl (by kernel_rfl) (by kernel_rfl) (by kernel_rfl) (fun _ _ _ h => h) (Or.inl ⟨by rfl, fun ww hSw => by (try dsimp only at hSw); go_simp⟩) (by assumption) ?_
    simp only [Act.put, List.setIfInBounds_toArray, List.set_cons_zero, List.set_cons_succ, List.getElem_toArray, List.getElem_cons_succ, List.getElem_cons_zero]
    refine wpAnyH_done (by kernel_rfl) ?_ _
    have x1 := kS5.1.c0
    have x2 := kS5.1.c1
    have x3 := kS5.2.c0
    have x4 := kS5.2.c1
    clear kS5 hHeld
    go_wp2_with fail
    have hb6 := Trn.new Y5 (.cells #[.slice (some ⟨ga, 0, .none⟩) n ca, .slice (some ⟨gb, 0, .none⟩) m cb, .slice p1 n c1, .slice q1 m f1, .slice p2 n c2, .slice q2 m f2, .slice p3 PK.length c3, .slice p4 PK.length c4] 22)
    have hz6 : Y5.heap.size < (Y5.alloc (.cells #[.slice (some ⟨ga, 0, .none⟩) n ca, .slice (some ⟨gb, 0, .none⟩) m cb, .slice p1 n c1, .slice q1 m f1, .slice p2 n c2, .slice q2 m f2, .slice p3 PK.length c3, .slice p4 PK.length c4] 22)).heap.size := by simp
    have hc6 : ∀ i r, LL[i]? = some r → (Y5.alloc (.cells #[.slice (some ⟨ga, 0, .none⟩) n ca, .slice (some ⟨gb, 0, .none⟩) m cb, .slice p1 n c1, .slice q1 m f1, .slice p2 n c2, .slice q2 m f2, .slice p3 PK.length c3, .slice p4 PK.length c4] 22)).cell? ⟨Y5.heap.size, i, .none⟩ = some r.1 := by
      intro i r hr
      rw [World.cell?_alloc_at _ _ _ _ rfl]
      rw [← HLL.out] at hr
      match i, hr with
      | 0, hr => cases hr; rfl
      | 1, hr => cases hr; rfl
      | 2, hr => cases hr; rfl
      | 3, hr => cases hr; rfl
      | 4, hr => cases hr; rfl
      | 5, hr => cases hr; rfl
      | 6, hr => cases hr; rfl
      | 7, hr => cases hr; rfl
      | k + 8, hr => cases hr
    generalize Y5.alloc (.cells #[.slice (some ⟨ga, 0, .none⟩) n ca, .slice (some ⟨gb, 0, .none⟩) m cb, .slice p1 n c1, .slice q1 m f1, .slice p2 n c2, .slice q2 m f2, .slice p3 PK.length c3, .slice p4 PK.length c4] 22) = Y6 at *
    have H6 : Hid (Fq w Y6 b dd D2 rs ls s0 s2 s5 LL hi) := HV.out.below hb6
    have hlen : LL.length = 8 := by rw [← HLL.out]; rfl
    have cFr := free_ch (cl := 8) H6.out.ch (by omega) hz6 (fun r hr e => by
      obtain ⟨i, hi', hri⟩ := List.getElem_of_mem hr
      have := ((HV.out.ch.get (i := i) (by rw [List.getElem?_eq_getElem hi', hri])).2.2 _ e).2
      have := HV.out.hle
      omega) hc6
    rw [hlen] at cFr
    clear hb6 hz6 hc6 hlen x1 x2 x3 x4
    refine cFr.mono ?_
    rintro e Y7 ⟨rfl, hch⟩
    have H7 : Hid (Below w.heap.size w Y7 ∧ Con Y7 b rs ls ∧ Doc Y7 dd D2 rs ls) := H6.out.free hch
    clear hch cFr HV H6
    have cS := state_any H7.out.2.1
    go_wp2_with fail
    refine cS.mono ?_
    rintro e Y8 ⟨r8, t8, u8, z8, XX, rfl, hO1, hO2, _, _, hbb⟩
    rw [E1.out, E2.out]
    have H8 : Hid (Below w.heap.size w Y8 ∧ Doc Y8 dd D2 rs ls ∧ Byt Y8 r8 n t8 rs ∧ Byt Y8 u8 m z8 ls) := by
      rw [E1.out] at hO1
      rw [E2.out] at hO2
      exact ⟨H7.out.1.trans (hbb.mono H7.out.1.size), H7.out.2.2.below hbb, byt_own hO1, byt_own hO2⟩
    clear cS hO1 hO2 hbb
    go_wp2_with fail
    refine (rstate_any H8.out.2.1).mono ?_
    rintro e Y9 ⟨r9, t9, u9, z9, XX, rfl, hO1, hO2, _, _, hbb⟩
    rw [E1.out, E2.out]
    have H9 : Hid (Below w.heap.size w Y9 ∧ Byt Y9 r8 n t8 rs ∧ Byt Y9 u8 m z8 ls ∧ Byt Y9 r9 n t9 rs ∧ Byt Y9 u9 m z9 ls) := by
      rw [E1.out] at hO1
      rw [E2.out] at hO2
      exact ⟨H8.out.1.trans (hbb.mono H8.out.1.size), byt_below H8.out.2.2.1 hbb, byt_below H8.out.2.2.2 hbb, byt_own hO1, byt_own hO2⟩
    clear hO1 hO2 hbb
    have cT := states_any H9.out.2.1 H9.out.2.2.2.1 H9.out.2.2.1 H9.out.2.2.2.2 (by omega) (by omega)
    go_wp2_with fail
    refine cT.mono ?_
    rintro e YA ⟨rfl, hbb⟩
    have HE : Hid (Below w.heap.size w YA) := H9.out.1.trans (hbb.mono H9.out.1.size)
    clear cT hbb
    go_wp2
    go_ret
    exact ⟨rfl, HE.out⟩
end Go.Proofs.YtblpdnchphhcaaaDoor
