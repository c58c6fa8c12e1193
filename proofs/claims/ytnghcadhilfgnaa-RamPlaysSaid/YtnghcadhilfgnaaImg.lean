import Derived.Test.YtnghcadhilfgnaaImgM
import Derived.ControlIn
import Derived.Deep.RegionLaw
import Derived.Deep.RegionHeld3
import Derived.Deep.Cut
namespace Go.Proofs.Ytnghcadhilfgnaa
open Go.RowKit Go.Shelf
attribute [local go_sem] Oper.semAt_some
set_option linter.unusedVariables false
set_option linter.unusedSimpArgs false
/-- What Image hands out: the number of frames, the free frames' addresses in the list's order, and of each held frame, in order, its address and a block of its own with its bytes. -/
def ImgP (w : World) (N : Nat) (B : Nat → Int) (L : List Nat) (e : Ending) (w' : World) : Prop := ∃ (hs : List (Nat × Nat)) (qf : Option Addr) (cf : Nat) (q2 : Option Addr) (c2 : Nat), e = .returned (.agg #[.int .i64 N, .slice qf L.length cf, .slice q2 hs.length c2]) ∧ hs.map (·.1) = heldTo L N ∧
  w'.ownsRow (w.heap.size + 1 + 1 + 1) 26 1 (.slice qf L.length cf) L.length (L.map adv) ∧ w'.ownsRow (w.heap.size + 1 + 1 + 1) 70 2 (.slice q2 hs.length c2) hs.length (flatH hs) ∧
  (∀ x ∈ hs, w.heap.size + 1 + 1 + 1 ≤ x.2 ∧ DataB w' x.2 (fun k => B (x.1 * 4096 + k)) ∧ Value.ownBlock (.slice q2 hs.length c2) ≠ some x.2 ∧ Value.ownBlock (.slice qf L.length cf) ≠ some x.2) ∧ (hs.map (·.2)).Nodup ∧ Below w.heap.size w w'
theorem owns_blocks {A B : World} {X D e s n : Nat} {v : Value} {xs : List Value} (h : A.ownsRow X e s v n xs) (hb : ∀ k, X ≤ k → k ≠ D → B.heap[k]? = A.heap[k]?) (hD : A.heap[D]? = some (.deferred (some []))) : B.ownsRow X e s v n xs := by
  refine ⟨h.1, ?_⟩
  rcases h.2 with h0 | ⟨g, cap, cur, hv, hX, hh, r⟩
  · exact .inl h0
  · refine .inr ⟨g, cap, cur, hv, hX, (hb g hX (fun e => ?_)).trans hh, r⟩
    subst e
    rw [hh] at hD
    cases hD
theorem HSt.out {w W W' : World} {N D cf c2 : Nat} {B : Nat → Int} {L : List Nat} {qf q2 : Option Addr} {hs : List (Nat × Nat)} (h : HSt w W (w.heap.size + 1 + 1 + 1) N D B L qf cf N hs q2 c2) (hz : W.heap.size ≤ W'.heap.size) (hb : ∀ k, w.heap.size + 1 + 1 + 1 ≤ k → k ≠ D → W'.heap[k]? = W.heap[k]?) (hB : Below w.heap.size w W') :
    ImgP w N B L (.returned (.agg #[.int .i64 N, .slice qf L.length cf, .slice q2 hs.length c2])) W' :=
  ⟨hs, qf, cf, q2, c2, rfl, h.fs, owns_blocks h.fr hb h.df, owns_blocks h.hr hb h.df, fun x hx => ⟨(h.da x hx).1, (h.da x hx).2.1.block hz (hb _ (h.da x hx).1 (fun e => by
    have h1 := (h.da x hx).2.1.row 0 (by decide)
    rw [e] at h1
    simp [World.cell?, h.df] at h1)), (h.da x hx).2.2⟩, h.nd, hB⟩
set_option maxHeartbeats 2000000 in
set_option maxRecDepth 100000 in
theorem image_any {w : World} {p b m N : Nat} {B : Nat → Int} {L : List Nat} (h : Ram w p b m N B L) : Calls Try.prog 11 #[.pointer (some ⟨p, 0, .none⟩)] w fun e w' => ImgP w N B L e w' := by
  have c1 := frames_any (h.mem.below (below_past w (.cells #[.int .i64 0, .slice .none 0 0, .slice .none 0 0] 40)))
  have hl := length_le N L h.mem.n1 h.nd h.lt
  have n2 := h.mem.n2
  refine (callsIn_wide (n := 3)).1 ?_
  refine callsIn_of_wp_marks Try.func11 rfl trivial ?_ rfl
  simp only [Try.ntmps11, List.size_toArray, List.length_cons, List.length_nil, Nat.reduceAdd, Nat.reduceSub, Array.replicate_succ, Array.replicate_zero, List.push_toArray, List.append_toArray, List.nil_append, List.cons_append]
  gi_wp2_with (first | (refine ⟨trivial, ?_⟩; gi_at_call 24; refine (callsIn_wide.2 c1).mono ?_; rintro e w0 ⟨rfl, rfl⟩) | (refine ⟨trivial, ?_⟩; gi_at_call 31; refine (callsIn_wide.2 (freeList_any (some ⟨p, 0, .none⟩))).mono ?_; rintro e w1 ⟨rfl, rfl⟩))
  have k0 : C3 ((w.alloc (.cells #[.int .i64 0, .slice .none 0 0, .slice .none 0 0] 40)).alloc (.cells #[.int .i64 N, .slice .none 0 0, .slice .none 0 0] 40)) (w.heap.size + 1) (.int .i64 N) (.slice .none 0 0) (.slice .none 0 0) := by
    have := C3.new (w.alloc (.cells #[.int .i64 0, .slice .none 0 0, .slice .none 0 0] 40)) (.int .i64 N) (.slice .none 0 0) (.slice .none 0 0) 40
    rwa [World.size_alloc] at this
  have k1 := ((C3.new w (.int .i64 0) (.slice .none 0 0) (.slice .none 0 0) 40).alloc (.cells #[.int .i64 N, .slice .none 0 0, .slice .none 0 0] 40)).alloc (.cells #[.pointer (some ⟨p, 0, .none⟩)] 30)
  have k2 := k0.alloc (.cells #[.pointer (some ⟨p, 0, .none⟩)] 30)
  have hB0 : Below w.heap.size w (((w.alloc (.cells #[.int .i64 0, .slice .none 0 0, .slice .none 0 0] 40)).alloc (.cells #[.int .i64 N, .slice .none 0 0, .slice .none 0 0] 40)).alloc (.cells #[.pointer (some ⟨p, 0, .none⟩)] 30)) := ((below_past _ _).alloc (by simp) _).alloc (by simp only [World.size_alloc]; omega) _
  have hU : Ram _ p b m N B L := ⟨h.mem.below hB0, h.nd, h.lt, h.thr⟩
  have hc : (((w.alloc (.cells #[.int .i64 0, .slice .none 0 0, .slice .none 0 0] 40)).alloc (.cells #[.int .i64 N, .slice .none 0 0, .slice .none 0 0] 40)).alloc (.cells #[.pointer (some ⟨p, 0, .none⟩)] 30)).cell? ⟨w.heap.size + 1 + 1, 0, .none⟩ = some (.pointer (some ⟨p, 0, .none⟩)) := by
    rw [World.cell?_alloc_at _ _ _ _ (by simp only [World.size_alloc])]
    rfl
  have hz : (((w.alloc (.cells #[.int .i64 0, .slice .none 0 0, .slice .none 0 0] 40)).alloc (.cells #[.int .i64 N, .slice .none 0 0, .slice .none 0 0] 40)).alloc (.cells #[.pointer (some ⟨p, 0, .none⟩)] 30)).heap.size = w.heap.size + 1 + 1 + 1 := by simp only [World.size_alloc]
  clear k0
  generalize (((w.alloc (.cells #[.int .i64 0, .slice .none 0 0, .slice .none 0 0] 40)).alloc (.cells #[.int .i64 N, .slice .none 0 0, .slice .none 0 0] 40)).alloc (.cells #[.pointer (some ⟨p, 0, .none⟩)] 30)) = W0 at *
  have HR : Hid (Ram w p b m N B L) := h
  clear h c1
  obtain ⟨j0, hj0, hjz, hj1, hj2⟩ := info22'
  refine wpIn_rangeFunc_ownF (α := Nat) rfl (by omega) (gf := 61) (lb := #[.pointer (some ⟨w.heap.size + 1 + 1, 0, .none⟩)]) rfl trivial (enters_of Try.func61 (by kernel_rfl) rfl)
    (free_seq hU 2 (w.heap.size + 1 + 1) (by omega) hc (KpI (w.heap.size + 1)) (GoodI (w.heap.size + 1)) (goodI_keep _) (fun W W2 g h1 h2 hg => ⟨by have := h1.size; omega, fun ⟨a, n, c, hc', _⟩ => by
      have e1 := (h2.cell (p := ⟨w.heap.size + 1, 1, .none⟩) (show w.heap.size + 1 < W.heap.size by have := h1.size; omega)).trans ((h1.cell (p := ⟨w.heap.size + 1, 1, .none⟩) (show w.heap.size + 1 < W0.heap.size by omega)).trans k2.2.1)
      rw [e1] at hc'
      cases hc'⟩)) KpI.trans (fun W l o o' hl' ho hcs _ => KpI.put (w := W0) W l o o' hl' (by omega) ho hcs) (Below.refl _ _) (fun _ => rfl)
    (fun pre W => (II w W0.heap.size N pre W ∧ Below w.heap.size w W) ∧ W0.heap.size ≤ W.heap.size) (fun _ _ _ => False)
    (OwnFrom.and (OwnFrom.and (Own.from (II.own w W0.heap.size N) _) (ownFrom_below (Nat.le_refl _) (by omega))) (fun s A B row hs hg _ => Nat.le_trans hs hg.size)) (fun _ _ _ _ _ hs _ _ => hs) ⟨⟨⟨⟨_, _, k2, World.ownsRow_nil _ _ _ _⟩, k1⟩, hB0⟩, Nat.le_refl _⟩
    (fun x => { tmps := #[.pointer (some ⟨p, 0, .none⟩), undef, .pointer (some ⟨w.heap.size, 0, .none⟩), .pointer (some ⟨w.heap.size + 1, 0, .none⟩), adv x, undef, undef, .pointer (some ⟨p, 0, .none⟩), .int .i64 N, .agg #[.int .i64 N, .slice .none 0 0, .slice .none 0 0], .pointer (some ⟨p, 0, .none⟩), .func (.func 61) #[] #[.pointer (some ⟨w.heap.size + 1 + 1, 0, .none⟩)], adv x, undef, undef, undef, undef, undef, undef, undef, undef, undef, undef, undef, undef, undef, undef, undef, undef, undef, undef, undef, undef, undef, undef, undef, undef, undef, undef, undef, undef, undef], defers := [] }) ?assign ?body ?done ?stop
  case assign =>
    intro l x W K hK
    gi_wp2
    exact hK
  case body =>
    rintro l pre x W ⟨⟨⟨⟨q, c, hC, hrow⟩, hC2⟩, hB⟩, hWz⟩ hlt
    have HC : Hid (C3 W (w.heap.size + 1) (.int .i64 N) (.slice q pre.length c) (.slice .none 0 0)) := hC
    obtain ⟨a0, a1, a2, f0, f1, f2⟩ := hC
    have HO : Hid (W.ownsRow W0.heap.size 26 1 (.slice q pre.length c) pre.length (pre.map adv)) := hrow
    have HOA : Hid (∀ o, (W.alloc o).ownsRow W0.heap.size 26 1 (.slice q pre.length c) pre.length (pre.map adv)) := fun o => hrow.alloc o
    have HC2 : Hid (C3 W w.heap.size (.int .i64 0) (.slice .none 0 0) (.slice .none 0 0)) := hC2
    have HBW : Hid (Below w.heap.size w W) := hB
    clear hrow hC2 hB a0 a2 f0 f2
    simp only [adv]
    gi_wp2_with (first | (gi_at_builtin; refine wpListIn_append_at _ rfl _ _ 37 rfl W0.heap.size 26 j0 (.int .u64 0) 1 8 Try.underlying37 hj0 hjz hj1 hj2 rfl (by decide) _ _ (pre.map adv) rfl (HOA.out _) ⟨W.heap.size, 0, .none⟩ 1 1 [.int .u64 (2147483648 + (x : Int) * 4096)] rfl rfl (cell_one_new _ _ _) (by simp [Value.oneCell']) (by unfold maxLen; omega) (by omega) (by simp only [World.size_alloc]; omega) ?_; intro v' w5 hown5 hgrow hat; obtain ⟨g1, cap1, rfl⟩ := ownsRow_succ hown5; have HS := img_step (x := x) (by omega) HC.out HO.out hWz HC2.out HBW.out hown5 hgrow hat; have C5 := HC.out.alloc (.cells #[.int .u64 (2147483648 + (x : Int) * 4096)] 26); have e5 : w5.heap[w.heap.size + 1]? = (W.alloc (.cells #[.int .u64 (2147483648 + (x : Int) * 4096)] 26)).heap[w.heap.size + 1]? := hgrow.block _ (lt_of_cell C5.1) (fun e => (by have := (HO.out.lt _ e.symm).1; omega)); have b1 : w5.cell? ⟨w.heap.size + 1, 1, .none⟩ = some (.slice q pre.length c) := (World.cell?_of_block e5).trans C5.2.1; have d1 : w5.frozen? ⟨w.heap.size + 1, 1, .none⟩ = false := (World.frozen?_of_block e5).trans C5.2.2.2.2.1; clear C5 e5 hown5 hgrow hat) | fail)
    exact HS
  case stop =>
    rintro D c pre W _ _ h
    exact h.elim
  case done =>
    rintro D xs W hD rfl ⟨⟨⟨⟨q, c, hC, hrow⟩, hC2⟩, hB⟩, hWz⟩ hK
    have a0 := hC.1
    gi_wp2
    refine wpIn_wide.2 ?_
    have hlen := hl
    have HRl : Hid (HRel w W0.heap.size N D B xs q c (.int .i64 0) W) := ⟨0, [], .none, 0, Nat.zero_le _, rfl, ⟨rfl, hC, hC2, hrow, World.ownsRow_nil _ _ _ _, (fun x hx => by cases hx), List.nodup_nil, hB, hK, hWz⟩⟩
    clear hC hC2 hrow hB hK a0 k1 k2 hB0 hU hc
    obtain ⟨j1, hk0, hkz, hk1, hk2⟩ := info76
    go_loopw [21] (fun k wr => HRel w W0.heap.size N D B xs q c k wr) (fun k _ => N - (intOf k).toNat)
    case atStart => exact HRl.out
    case round =>
      obtain ⟨i, hs, q2, c2, hiN, rfl, hst⟩ := hrel
      have HS : Hid (HSt w wr W0.heap.size N D B xs q c i hs q2 c2) := hst
      have hMem : Hid (∀ W', Below wr.heap.size wr W' → Mem W' p b m N B (adr xs) (hdL N xs) (N - xs.length)) := fun W' hb => HR.out.mem.below (hst.be.trans (hb.mono hst.be.size))
      by_cases hi : i < N
      · have i1 : (i : Int) < N := by omega
        have c1 := addr_any i (by omega) (by omega) wr
        have c2' := isHeld_any (hMem.out wr (Below.refl _ _)) (2147483648 + (i : Int) * 4096) (by omega)
        rw [hdL_addr N xs i hi] at c2'
        clear hst
        by_cases hix : i ∈ xs
        · simp only [hix, decide_true, Bool.not_true] at c2'
          go_wp2_with (first | (go_at_call 33; refine c1.mono ?_; rintro e w1 ⟨rfl, rfl⟩) | (go_at_call 34; refine c2'.mono ?_; rintro e w2 ⟨rfl, hb2⟩))
          exact ⟨⟨i + 1, hs, q2, c2, by omega, by simp, (HS.out.skip hix).below hb2⟩, by simp [intOf]; omega⟩
        · simp only [hix, decide_false, Bool.not_false] at c2'
          go_upto_region 10 with (first | (go_at_call 33; refine c1.mono ?_; rintro e w1 ⟨rfl, rfl⟩) | (go_at_call 34; refine c2'.mono ?_; rintro e w2 ⟨rfl, hb2⟩) | fail)
          have HV : Hid (HSt w w2 W0.heap.size N D B xs q c i hs q2 c2) := HS.out.below hb2
          have k2' := HV.out.c.2.2.1
          have c43 : ∀ W', Below w2.heap.size w2 W' → Calls Try.prog 36 #[.pointer (some ⟨p, 0, .none⟩), .int .u64 (2147483648 + (i : Int) * 4096)] W' fun e w' => e = .returned (.slice (some ⟨b, i * 4096, .none⟩) 4096 (4096 * N - i * 4096)) ∧ w' = W' := fun W' hb => frame_any (hMem.out W' (hb2.trans (hb.mono hb2.size))) i hi
          have c50 : ∀ W', Below w2.heap.size w2 W' → Calls Try.prog 35 #[.slice (some ⟨b, i * 4096, .none⟩) 4096 (4096 * N - i * 4096)] W' fun e w' => CopyO W' 4096 (fun k => B (i * 4096 + k)) e w' := fun W' hb => copied_own b (i * 4096) 4096 _ _ W' (by omega) (by omega) (fun k hk => (hMem.out W' (hb2.trans (hb.mono hb2.size))).cb _ (by omega))
          have hb0 : Below w2.heap.size w2 w2.drew := (Below.refl _ _).drew
          clear c1 c2' hb2
          have hX3 : w.heap.size + 1 + 1 + 1 ≤ W0.heap.size := by omega
          have hsl : hs.length ≤ 4096 := by
            have e := congrArg List.length HV.out.fs
            have := heldTo_len xs i
            rw [List.length_map] at e
            omega
          have hgs : ∀ x ∈ hs, x.2 < w2.heap.size := fun x hx => (HV.out.da x hx).2.1.lt
          have hq2 : ∀ k, Value.ownBlock (.slice q2 hs.length c2) = some k → k < w2.heap.size := fun k hk => (HV.out.hr.lt k hk).2
          have hqf : ∀ k, Value.ownBlock (.slice q xs.length c) = some k → k < w2.heap.size := fun k hk => (HV.out.fr.lt k hk).2
          have HG : Hid (∀ g, w2.heap.size ≤ g → Value.ownBlock (.slice q2 hs.length c2) ≠ some g ∧ Value.ownBlock (.slice q xs.length c) ≠ some g ∧ g ∉ hs.map (·.2) ∧ W0.heap.size ≤ g) := fun g hg => ⟨fun e => by have := hq2 g e; omega, fun e => by have := hqf g e; omega, fun hm => by
            obtain ⟨x, hx, e⟩ := List.mem_map.1 hm
            have := hgs x hx
            omega, Nat.le_trans HV.out.xs hg⟩
          clear hgs hq2 hqf
          refine wp_region_noPanic ?_
          go_region_law (first | (go_simp; go_at_call 36; refine (c43 _ (by assumption)).mono ?_; rintro e W4 ⟨rfl, rfl⟩) | (go_simp; go_at_call 35; refine (c50 _ (by assumption)).mono ?_; rintro e W5 ⟨g, hg1, hg2, rfl, hrg, hfg, hbg, hog⟩; have HV5 : Hid (HSt w W5 W0.heap.size N D B xs q c i hs q2 c2) := HV.out.below (hb0.trans (hbg.mono (by simp))); have k5 := HV5.out.c.2.2.1; have k5a : (W5.alloc (.cells #[.int .u64 (2147483648 + (i : Int) * 4096), .slice (some ⟨g, 0, .none⟩) 4096 4096] 70)).cell? ⟨w.heap.size + 1, 2, .none⟩ = some (.slice q2 hs.length c2) := (HV5.out.c.alloc _).2.2.1; have hD5 : Hid (DataB W5 g (fun k => B (i * 4096 + k)) ∧ w2.heap.size ≤ g) := ⟨⟨hg2, hrg, hfg, hog⟩, hg1⟩; have HA5 : Hid (∀ o, (W5.alloc o).ownsRow W0.heap.size 70 2 (.slice q2 hs.length c2) hs.length (flatH hs)) := (fun o => HV5.out.hr.alloc o); clear hrg hfg hbg hog) | (refine step_append_at rfl (.tmp 30) (.tmp 37) 38 rfl W0.heap.size 70 j1 (.agg #[.int .u64 0, .slice .none 0 0]) 2 32 Try.underlying38 hk0 hkz hk1 hk2 rfl (by decide) (.slice q2 hs.length c2) hs.length (flatH hs) (by simp [Act.eval, Act.put]) (HA5.out _) ⟨W5.heap.size, 0, .none⟩ 1 1 [adv i, .slice (some ⟨g, 0, .none⟩) 4096 4096] (by simp [Act.eval, Act.put]) rfl (cell2_new _ _ _ _) (by simp [Value.oneCell', adv]) (by unfold maxLen; omega) (by omega) (by simp only [World.size_alloc]; exact Nat.le_succ_of_le HV5.out.xs) ?_; intro v' w5 hown5 hgr5 hat5; obtain ⟨g1, cap1, rfl⟩ := ownsRow_succ hown5; have HN : Hid (HSt w (w5.setCell ⟨w.heap.size + 1, 2, .none⟩ (.slice (some ⟨g1, 0, .none⟩) (hs.length + 1) cap1)) W0.heap.size N D B xs q c (i + 1) (hs ++ [(i, g)]) (some ⟨g1, 0, .none⟩) cap1) := HV5.out.step hX3 hix (HG.out g hD5.out.2).2.2.2 hD5.out.1 (HG.out g hD5.out.2).1 (HG.out g hD5.out.2).2.1 (HG.out g hD5.out.2).2.2.1 hown5 hgr5 hat5; have e5 : w5.heap[w.heap.size + 1]? = W5.heap[w.heap.size + 1]? := (hgr5.block (w.heap.size + 1) (by simp only [World.size_alloc]; have := HV5.out.xs; omega) (fun e => (by have := (HV5.out.hr.lt _ e.symm).1; omega))).trans (Below.heap_alloc W5 _ _ (by have := HV5.out.xs; omega)); have m2 : w5.cell? ⟨w.heap.size + 1, 2, .none⟩ = some (.slice q2 hs.length c2) := (World.cell?_of_block e5).trans HV5.out.c.2.2.1; have n5 : w5.frozen? ⟨w.heap.size + 1, 2, .none⟩ = false := (World.frozen?_of_block e5).trans HV5.out.c.2.2.2.2.2; clear hown5 hgr5 hat5 e5))
          all_goals (refine NoPanic.normal ?_)
          all_goals go_wp2
          all_goals exact ⟨⟨i + 1, hs ++ [(i, g)], _, _, by omega, by simp, HN.out⟩, by simp [intOf]; omega⟩
      · have i1 : ¬ ((i : Int) < N) := by omega
        obtain rfl : i = N := by omega
        have HZ : Hid (HSt w wr W0.heap.size i D B xs q c i hs q2 c2) := HS.out
        obtain ⟨a0, a1, a2, z0, z1, z2⟩ := hst.c
        obtain ⟨b0, b1, b2, y0, y1, y2⟩ := hst.r
        clear hst
        go_wp2
        gi_wp2
        have hK9 : (((wr.setCell ⟨w.heap.size, 0, .none⟩ (.int .i64 i)).setCell ⟨w.heap.size, 1, .none⟩ (.slice q xs.length c)).setCell ⟨w.heap.size, 2, .none⟩ (.slice q2 hs.length c2)).heap[D]? = some (.deferred (some [])) := by
          rw [Below.heap_setCell _ _ _ _ (by show D ≠ w.heap.size; omega), Below.heap_setCell _ _ _ _ (by show D ≠ w.heap.size; omega), Below.heap_setCell _ _ _ _ (by show D ≠ w.heap.size; omega)]
          exact HZ.out.df
        have e0 : (((wr.setCell ⟨w.heap.size, 0, .none⟩ (.int .i64 i)).setCell ⟨w.heap.size, 1, .none⟩ (.slice q xs.length c)).setCell ⟨w.heap.size, 2, .none⟩ (.slice q2 hs.length c2)).cell? ⟨w.heap.size, 0, .none⟩ = some (.int .i64 i) := by
          rw [World.cell?_setCell_other _ _ _ _ (by simp), World.cell?_setCell_other _ _ _ _ (by simp)]
          exact World.cell?_setCell_same' _ _ _ (by rw [b0]; rfl)
        have e1 : (((wr.setCell ⟨w.heap.size, 0, .none⟩ (.int .i64 i)).setCell ⟨w.heap.size, 1, .none⟩ (.slice q xs.length c)).setCell ⟨w.heap.size, 2, .none⟩ (.slice q2 hs.length c2)).cell? ⟨w.heap.size, 1, .none⟩ = some (.slice q xs.length c) := by
          rw [World.cell?_setCell_other _ _ _ _ (by simp)]
          exact World.cell?_setCell_same' _ _ _ (by rw [World.cell?_setCell_other _ _ _ _ (by simp), b1]; rfl)
        have e2 : (((wr.setCell ⟨w.heap.size, 0, .none⟩ (.int .i64 i)).setCell ⟨w.heap.size, 1, .none⟩ (.slice q xs.length c)).setCell ⟨w.heap.size, 2, .none⟩ (.slice q2 hs.length c2)).cell? ⟨w.heap.size, 2, .none⟩ = some (.slice q2 hs.length c2) :=
          World.cell?_setCell_same' _ _ _ (by rw [World.cell?_setCell_other _ _ _ _ (by simp), World.cell?_setCell_other _ _ _ _ (by simp), b2]; rfl)
        have hB9 : Below w.heap.size w (((wr.setCell ⟨w.heap.size, 0, .none⟩ (.int .i64 i)).setCell ⟨w.heap.size, 1, .none⟩ (.slice q xs.length c)).setCell ⟨w.heap.size, 2, .none⟩ (.slice q2 hs.length c2)) := ((HZ.out.be.setCell (p := ⟨w.heap.size, 0, .none⟩) (Nat.le_refl _) _).setCell (p := ⟨w.heap.size, 1, .none⟩) (Nat.le_refl _) _).setCell (p := ⟨w.heap.size, 2, .none⟩) (Nat.le_refl _) _
        have hz9 : wr.heap.size ≤ (((wr.setCell ⟨w.heap.size, 0, .none⟩ (.int .i64 i)).setCell ⟨w.heap.size, 1, .none⟩ (.slice q xs.length c)).setCell ⟨w.heap.size, 2, .none⟩ (.slice q2 hs.length c2)).heap.size := by simp only [World.size_setCell]; exact Nat.le_refl _
        have hk9 : ∀ k, k ≠ w.heap.size → (((wr.setCell ⟨w.heap.size, 0, .none⟩ (.int .i64 i)).setCell ⟨w.heap.size, 1, .none⟩ (.slice q xs.length c)).setCell ⟨w.heap.size, 2, .none⟩ (.slice q2 hs.length c2)).heap[k]? = wr.heap[k]? := fun k hk => by
          rw [Below.heap_setCell _ _ _ _ (by show k ≠ w.heap.size; omega), Below.heap_setCell _ _ _ _ (by show k ≠ w.heap.size; omega), Below.heap_setCell _ _ _ _ (by show k ≠ w.heap.size; omega)]
        generalize (((wr.setCell ⟨w.heap.size, 0, .none⟩ (.int .i64 i)).setCell ⟨w.heap.size, 1, .none⟩ (.slice q xs.length c)).setCell ⟨w.heap.size, 2, .none⟩ (.slice q2 hs.length c2)) = W9 at *
        refine ⟨by simp, .inl ⟨_, _, rfl, run_takeDeferred hK9, ?_⟩⟩
        have f0 := cell_kept e0 (grownBy_putObj' W9 D (.deferred none)) (fun r e => by cases e; exact ⟨_, hK9, rfl⟩)
        have f1 := cell_kept e1 (grownBy_putObj' W9 D (.deferred none)) (fun r e => by cases e; exact ⟨_, hK9, rfl⟩)
        have f2 := cell_kept e2 (grownBy_putObj' W9 D (.deferred none)) (fun r e => by cases e; exact ⟨_, hK9, rfl⟩)
        have hBz := hB9.trans (belowK_b (w := w) (Nat.le_refl _) W9 D _ (.deferred none) (by omega) hK9 rfl rfl)
        have hlt : w.heap.size < (W9.putObj D (.deferred none)).heap.size := lt_of_cell f0
        have hzz : wr.heap.size ≤ (W9.putObj D (.deferred none)).heap.size := Nat.le_trans hz9 (grownBy_putObj' W9 D (.deferred none)).size
        have hkz' : ∀ k, w.heap.size + 1 + 1 + 1 ≤ k → k ≠ D → (W9.putObj D (.deferred none)).heap[k]? = wr.heap[k]? := fun k hk hne => (World.putObj_heap_other hne).trans (hk9 k (by omega))
        generalize W9.putObj D (.deferred none) = WZ at *
        have HZ2 := HZ.out
        rw [hz] at HZ2
        exact ⟨.agg #[.int .i64 i, .slice q xs.length c, .slice q2 hs.length c2], by simp [results, Try.results11, go_sem, f0, f1, f2, hlt], HZ2.out hzz hkz' hBz⟩
end Go.Proofs.Ytnghcadhilfgnaa
