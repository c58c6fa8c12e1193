import Derived.Test.YtabhojfdkmeaoaaAc
namespace Go.Proofs.Ytabhojfdkmeaoaa
open Go.RowKit
set_option linter.unusedVariables false
set_option linter.unusedSimpArgs false
/-- Two pipes side by side. -/
structure Tw (w wr : World) (b1 b2 : Nat) (xs1 : List Int) (r1 : Int) (rd1 wt1 : Bool) (xs2 : List Int) (r2 : Int) (rd2 wt2 : Bool) : Prop where
  bel : Below w.heap.size w wr
  g1 : w.heap.size ≤ b1
  g2 : w.heap.size ≤ b2
  ne : b1 ≠ b2
  p1 : Pip wr b1 xs1 r1 rd1 wt1
  p2 : Pip wr b2 xs2 r2 rd2 wt2
section
variable {w wr v : World} {b1 b2 : Nat} {xs1 xs2 : List Int} {r1 r2 : Int} {rd1 wt1 rd2 wt2 : Bool}
theorem Tw.below (h : Tw w wr b1 b2 xs1 r1 rd1 wt1 xs2 r2 rd2 wt2) (hb : Below wr.heap.size wr v) : Tw w v b1 b2 xs1 r1 rd1 wt1 xs2 r2 rd2 wt2 := ⟨h.bel.trans (hb.mono h.bel.size), h.g1, h.g2, h.ne, h.p1.below hb, h.p2.below hb⟩
theorem Tw.l1 (h : Tw w wr b1 b2 xs1 r1 rd1 wt1 xs2 r2 rd2 wt2) : Pl w wr b1 xs1 r1 rd1 wt1 := ⟨h.bel, h.g1, h.p1⟩
theorem Tw.l2 (h : Tw w wr b1 b2 xs1 r1 rd1 wt1 xs2 r2 rd2 wt2) : Pl w wr b2 xs2 r2 rd2 wt2 := ⟨h.bel, h.g2, h.p2⟩
theorem Tw.t1 {xs : List Int} {r : Int} {rd wt : Bool} (h : Tw w wr b1 b2 xs1 r1 rd1 wt1 xs2 r2 rd2 wt2) (ht : Trn b1 wr v) (hp : Pip v b1 xs r rd wt) : Tw w v b1 b2 xs r rd wt xs2 r2 rd2 wt2 :=
  ⟨h.bel.trans (ht.toBelow h.g1 h.bel.size), h.g1, h.g2, h.ne, hp, h.p2.keep ht (Ne.symm h.ne)⟩
theorem Tw.t2 {xs : List Int} {r : Int} {rd wt : Bool} (h : Tw w wr b1 b2 xs1 r1 rd1 wt1 xs2 r2 rd2 wt2) (ht : Trn b2 wr v) (hp : Pip v b2 xs r rd wt) : Tw w v b1 b2 xs1 r1 rd1 wt1 xs r rd wt :=
  ⟨h.bel.trans (ht.toBelow h.g2 h.bel.size), h.g1, h.g2, h.ne, h.p1.keep ht h.ne, hp⟩
end
theorem okS_by (n : Nat) (R S y : Int) : okS n ((R + y) % 4294967296) ((S + y) % 4294967296) ↔ okS n R S := by
  unfold okS
  have : ((S + y) % 4294967296 - (R + y) % 4294967296) % 4294967296 = (S - R) % 4294967296 := by omega
  rw [this]
theorem Byt.nb {w : World} {p : Option Addr} {n c : Nat} {xs : List Int} (h : Byt w p n c xs) (k : Nat) (hk : w.heap.size ≤ k) (hn : 0 < n) : NB p k := NB.of hk h hn
theorem froz_keep {w v : World} {b g : Nat} (h : ∀ j, w.frozen? ⟨b, j, .none⟩ = false) (hb : b < w.heap.size) (t : Trn g w v) (hg : b ≠ g) : ∀ j, v.frozen? ⟨b, j, .none⟩ = false := fun j => (t.frozen (p := ⟨b, j, .none⟩) hb hg).trans (h j)
/-- A state's box of one's own, whose counts are turned. -/
theorem sb_turn {w : World} {g : Nat} {p : Option Addr} {n c : Nat} {R S : Int} {rd wt : Bool} (h : Sb w g p n c R S rd wt) (R' S' : Int) : Sb ((w.setCell ⟨g, 1, .none⟩ (.int .u32 R')).setCell ⟨g, 2, .none⟩ (.int .u32 S')) g p n c R' S' rd wt :=
  ⟨cell_off (cell_off h.c0 _ _ (by decide)) _ _ (by decide), cell_off (cell_one h.c1 _) _ _ (by decide), cell_one (cell_off h.c2 _ _ (by decide)) _, cell_off (cell_off h.c3 _ _ (by decide)) _ _ (by decide), cell_off (cell_off h.c4 _ _ (by decide)) _ _ (by decide)⟩
set_option maxHeartbeats 4000000 in
set_option maxRecDepth 100000 in
theorem rounds_any (w : World) (sp : Option Addr) (sn sc : Nat) (sx : List Int) (R S : Int) (rd wt : Bool) (hB : Byt w sp sn sc sx) (hxb : ∀ y ∈ sx, 0 ≤ y ∧ y < 256) (hR : 0 ≤ R ∧ R < 4294967296) (hS : 0 ≤ S ∧ S < 4294967296) (y : Int) (q : Option Addr) (m c : Nat) (O : Nat → Orec) (hA : ArgO w q m c O) :
    Calls Try.prog 6 #[.agg #[.slice sp sn sc, .int .u32 R, .int .u32 S, .bool rd, .bool wt], .int .u32 y, .slice q m c] w fun e w' => e = .returned (.bool true) ∧ Below w.heap.size w w' := by
  have HA : Hid (ArgO w q m c O) := hA
  have hmc := hA.lc.1
  have hmm := hA.mm
  have hcm : c ≤ 9223372036854775807 := hA.lc.2
  have HS : Hid (Byt w sp sn sc sx ∧ (∀ y ∈ sx, 0 ≤ y ∧ y < 256) ∧ (0 ≤ R ∧ R < 4294967296) ∧ (0 ≤ S ∧ S < 4294967296)) := ⟨hB, hxb, hR, hS⟩
  clear hA hB hxb hR hS
  go_enter Try.func6, Try.ntmps6
  go_wp2_with fail
  have hs1 := sb_new w sp sn sc R S rd wt
  have hb1 := Trn.new w (.cells #[.slice sp sn sc, .int .u32 R, .int .u32 S, .bool rd, .bool wt] 36)
  have hz1 : (w.alloc (.cells #[.slice sp sn sc, .int .u32 R, .int .u32 S, .bool rd, .bool wt] 36)).heap.size = w.heap.size + 1 := by simp
  generalize w.alloc (.cells #[.slice sp sn sc, .int .u32 R, .int .u32 S, .bool rd, .bool wt] 36) = W1 at *
  refine (works_any W1).mono ?_
  rintro e W2 ⟨rfl, hb2⟩
  have H2 : Hid (Sb W2 w.heap.size sp sn sc R S rd wt ∧ Below w.heap.size w W2 ∧ w.heap.size < W2.heap.size) := ⟨hs1.below hb2, hb1.trans (hb2.mono (by omega)), by have := hb2.size; omega⟩
  clear hs1 hb1 hz1 hb2
  go_upto_region 3 with fail
  refine wp_region_lit ?_
  refine wpList_load_mid rfl 36 (.tmp 3) rfl w.heap.size 0 (by rfl) _ _ H2.out.1.rangeAt Try.underlying36 rfl (by kernel_rfl) ?_
  simp only [Act.put, List.setIfInBounds_toArray, List.set_cons_succ, List.set_cons_zero]
  go_upto_region 4 with fail
  have hs3 := sb_new W2 sp sn sc R S rd wt
  have hf3 := froz_new W2 #[.slice sp sn sc, .int .u32 R, .int .u32 S, .bool rd, .bool wt] 36
  have hb3 := Trn.new W2 (.cells #[.slice sp sn sc, .int .u32 R, .int .u32 S, .bool rd, .bool wt] 36)
  have hz3 : (W2.alloc (.cells #[.slice sp sn sc, .int .u32 R, .int .u32 S, .bool rd, .bool wt] 36)).heap.size = W2.heap.size + 1 := by simp
  generalize W2.alloc (.cells #[.slice sp sn sc, .int .u32 R, .int .u32 S, .bool rd, .bool wt] 36) = W3 at *
  have H3 : Hid (Sb W3 w.heap.size sp sn sc R S rd wt ∧ Sb W3 W2.heap.size sp sn sc R S rd wt ∧ Below w.heap.size w W3 ∧ w.heap.size < W2.heap.size ∧ W2.heap.size < W3.heap.size) := ⟨H2.out.1.below hb3, hs3, H2.out.2.1.trans (hb3.mono (Nat.le_of_lt H2.out.2.2)), H2.out.2.2, by omega⟩
  have f1 := hf3 1
  have f2 := hf3 2
  generalize W2.heap.size = g at *
  clear hs3 hb3 hz3 hf3 H2
  have q1 := H3.out.1.c1
  have q2 := H3.out.1.c2
  have z1 := H3.out.2.1.c1
  have z2 := H3.out.2.1.c2
  have hwg : w.heap.size ≠ g := Nat.ne_of_lt H3.out.2.2.2.1
  have ew1 : IntKind.u32.wrap (R + y) = (R + y) % 4294967296 := by simp [IntKind.wrap, IntKind.bits, IntKind.signed]
  have ew2 : IntKind.u32.wrap (S + y) = (S + y) % 4294967296 := by simp [IntKind.wrap, IntKind.bits, IntKind.signed]
  obtain ⟨R', hR'⟩ : ∃ x, x = (R + y) % 4294967296 := ⟨_, rfl⟩
  obtain ⟨S', hS'⟩ : ∃ x, x = (S + y) % 4294967296 := ⟨_, rfl⟩
  rw [← hR'] at ew1
  rw [← hS'] at ew2
  have HRS : Hid (R' = (R + y) % 4294967296 ∧ S' = (S + y) % 4294967296) := ⟨hR', hS'⟩
  clear hR' hS'
  go_upto_region 6 with fail
  have hs4 := sb_turn H3.out.2.1 R' S'
  have ht4 : Trn g W3 ((W3.setCell ⟨g, 1, .none⟩ (.int .u32 R')).setCell ⟨g, 2, .none⟩ (.int .u32 S')) := (Trn.setCell _ _ _ _).trans (Trn.setCell _ _ _ _)
  generalize (W3.setCell ⟨g, 1, .none⟩ (.int .u32 R')).setCell ⟨g, 2, .none⟩ (.int .u32 S') = W4 at *
  have H4 : Hid (Sb W4 w.heap.size sp sn sc R S rd wt ∧ Sb W4 g sp sn sc R' S' rd wt ∧ Below w.heap.size w W4 ∧ w.heap.size < g) := ⟨H3.out.1.keep ht4 hwg, hs4, H3.out.2.2.1.trans (ht4.toBelow (Nat.le_of_lt H3.out.2.2.2.1) (Nat.le_of_lt (Nat.lt_trans H3.out.2.2.2.1 H3.out.2.2.2.2))), H3.out.2.2.2.1⟩
  clear hs4 ht4 q1 q2 z1 z2 f1 f2 H3 ew1 ew2
  refine wp_region_lit ?_
  refine wpList_load_mid rfl 36 (.tmp 3) rfl w.heap.size 0 (by rfl) _ _ H4.out.1.rangeAt Try.underlying36 rfl (by kernel_rfl) ?_
  simp only [Act.put, List.setIfInBounds_toArray, List.set_cons_succ, List.set_cons_zero]
  go_wp2_with fail
  have hBs : Byt W4 sp sn sc sx := byt_below HS.out.1 H4.out.2.2.1
  have c18 := from_any R S rd wt hBs HS.out.2.1 HS.out.2.2.1 HS.out.2.2.2
  refine c18.mono ?_
  intro e W5 hr5
  have H5 : Hid (Below W4.heap.size W4 W5 ∧ ((¬ okS sn R S ∧ Bad4 W4 W5 e) ∨ (okS sn R S ∧ ∃ b, W4.heap.size ≤ b ∧ e = .returned (.tuple #[.pointer (some ⟨b, 0, .none⟩), .nilIface]) ∧ Pip W5 b sx R rd wt))) := hr5
  clear hr5 c18
  have H6 : Hid (Sb W5 g sp sn sc R' S' rd wt ∧ Below w.heap.size w W5) := ⟨H4.out.2.1.below H5.out.1, H4.out.2.2.1.trans (H5.out.1.mono H4.out.2.2.1.size)⟩
  have hBs5 : Hid (Byt W5 sp sn sc sx) := byt_below hBs H5.out.1
  have hR' : 0 ≤ R' ∧ R' < 4294967296 := by have := HRS.out.1; omega
  have hS' : 0 ≤ S' ∧ S' < 4294967296 := by have := HRS.out.2; omega
  have c18 := from_any R' S' rd wt hBs5.out HS.out.2.1 hR' hS'
  have HOK : Hid (okS sn R' S' ↔ okS sn R S) := by
    have := okS_by sn R S y
    rw [← HRS.out.1, ← HRS.out.2] at this
    exact this
  clear hBs hR' hS'
  by_cases hok : okS sn R S
  · obtain ⟨b1, hb1, rfl, hp1⟩ : ∃ b, W4.heap.size ≤ b ∧ e = .returned (.tuple #[.pointer (some ⟨b, 0, .none⟩), .nilIface]) ∧ Pip W5 b sx R rd wt := by
      rcases H5.out.2 with ⟨h1, _⟩ | ⟨_, h2⟩
      · exact absurd hok h1
      · exact h2
    go_upto_region 7 with fail
    refine wp_region_lit ?_
    refine wpList_load_mid rfl 36 (.tmp 7) rfl g 0 (by rfl) _ _ H6.out.1.rangeAt Try.underlying36 rfl (by kernel_rfl) ?_
    simp only [Act.put, List.setIfInBounds_toArray, List.set_cons_succ, List.set_cons_zero]
    go_wp2_with fail
    refine c18.mono ?_
    rintro e2 W7 ⟨hb7, hr7⟩
    obtain ⟨b2, hb2, rfl, hp2⟩ : ∃ b, W5.heap.size ≤ b ∧ e2 = .returned (.tuple #[.pointer (some ⟨b, 0, .none⟩), .nilIface]) ∧ Pip W7 b sx R' rd wt := by
      rcases hr7 with ⟨h1, _⟩ | ⟨_, h2⟩
      · exact absurd (HOK.out.2 hok) h1
      · exact h2
    have hl1 := hp1.lt
    have hs4 := H4.out.2.2.1.size
    have hs5 := H6.out.2.size
    have H7 : Hid (Tw w W7 b1 b2 sx R rd wt sx R' rd wt) := ⟨H6.out.2.trans (hb7.mono hs5), by omega, by omega, by omega, hp1.below hb7, hp2⟩
    clear c18 hb7 hr7 hb2 hp2 hl1 hs4 hs5 hb1 hp1 H5 H6 hBs5 H4 HOK hok hwg
    go_wp2
    go_loopw [12] (fun i wr => ∃ I : Nat, I ≤ m ∧ i = .int .i64 I ∧ Hid (∃ xs r r' rd wt, r' = (r + y) % 4294967296 ∧ Tw w wr b1 b2 xs r rd wt xs r' rd wt)) (fun i _ => (m - intOf i).toNat)
    case atStart => exact ⟨0, by omega, rfl, _, _, _, _, _, HRS.out.1, H7.out⟩
    case round =>
      obtain ⟨I, hI, rfl, HM⟩ := hrel
      clear H7 HRS HS
      obtain ⟨xs, r, r', rd, wt, hr', hP⟩ := HM.out
      have HP : Hid (Tw w wr b1 b2 xs r rd wt xs r' rd wt) := hP
      have HR' : Hid (r' = (r + y) % 4294967296) := hr'
      clear HM hP hr'
      by_cases hlt : I < m
      · have g0 : (I : Int) < m := by omega
        obtain ⟨ab, ao, hq, hab, k0, k1, k2, k3⟩ := HA.out.cells HP.out.bel I hlt
        have HK : Hid (∀ V, Below w.heap.size w V → V.cell? ⟨ab, ao + I * 4 + 2, .none⟩ = some (.slice (O I).s (O I).ln (O I).cd) ∧ V.cell? ⟨ab, ao + I * 4 + 3, .none⟩ = some (.int .i64 (O I).n)) := fun V hV =>
          ⟨((hV.cell (p := ⟨ab, _, .none⟩) hab).trans (HP.out.bel.cell (p := ⟨ab, _, .none⟩) hab).symm).trans k2, ((hV.cell (p := ⟨ab, _, .none⟩) hab).trans (HP.out.bel.cell (p := ⟨ab, _, .none⟩) hab).symm).trans k3⟩
        have HD : Hid (Byt w (O I).s (O I).ln (O I).cd (O I).xs ∧ (∀ y ∈ (O I).xs, 0 ≤ y ∧ y < 256) ∧ (O I).ln < 140737488355000) := ⟨HA.out.byt I hlt, HA.out.bd I hlt, HA.out.ln I hlt⟩
        subst hq
        generalize (O I).k = K at *
        generalize (O I).n = Nn at *
        generalize (O I).s = ds at *
        generalize (O I).ln = dl at *
        generalize (O I).cd = dc at *
        generalize (O I).xs = ys at *
        clear k1
        have hdl := HD.out.2.2
        have hyl : Hid (ys.length = dl) := HD.out.1.1
        by_cases hk1 : K = 1
        · subst hk1
          clear k3
          go_wp2_with fail
          refine (lend_any (byt_below HD.out.1 HP.out.bel) hdl).mono ?_
          rintro e V3 ⟨g, cg, rfl, hL, hb3⟩
          have H3 : Hid (Tw w V3 b1 b2 xs r rd wt xs r' rd wt) := HP.out.below hb3
          have c10 := put_lent H3.out.l1 hL HP.out.p1.lt HD.out.2.1 hyl.out.symm
          clear hb3 k0 k2
          go_wp2_with fail
          refine c10.mono ?_
          rintro e V4 ⟨rfl, hp4, ht4⟩
          have H4 : Hid (Tw w V4 b1 b2 (xs ++ ys.take (putN xs rd ys)) r rd wt xs r' rd wt) := H3.out.t1 ht4 hp4.pip
          clear c10 hp4 ht4 hL H3
          have k2 := (HK.out V4 H4.out.bel).1
          go_wp2_with fail
          refine (lend_any (byt_below HD.out.1 H4.out.bel) hdl).mono ?_
          rintro e V5 ⟨g5, cg5, rfl, hL5, hb5⟩
          have H5 : Hid (Tw w V5 b1 b2 (xs ++ ys.take (putN xs rd ys)) r rd wt xs r' rd wt) := H4.out.below hb5
          have c10 := put_lent H5.out.l2 hL5 H4.out.p2.lt HD.out.2.1 hyl.out.symm
          clear hb5 k2 H4
          go_wp2_with fail
          refine c10.mono ?_
          rintro e V6 ⟨rfl, hp6, ht6⟩
          have H6 : Hid (∃ xs r r' rd wt, r' = (r + y) % 4294967296 ∧ Tw w V6 b1 b2 xs r rd wt xs r' rd wt) := ⟨_, _, _, _, _, HR'.out, H5.out.t2 ht6 hp6.pip⟩
          clear c10 hp6 ht6 hL5 H5
          generalize putN xs rd ys = pn at *
          generalize putHow xs rd ys = ph at *
          go_wp2
          exact ⟨⟨I + 1, by omega, rfl, H6⟩, by simp only [intOf]; omega⟩
        · by_cases hk2 : K = 2
          · subst hk2
            clear k2
            go_wp2_with fail
            refine (take_pip HP.out.p1 Nn).mono ?_
            rintro e V3 ⟨tp, tc, rfl, hO3, _, hp3, ht3⟩
            have H3 : Hid (Tw w V3 b1 b2 (xs.drop (takeN xs Nn)) ((r + takeN xs Nn) % 4294967296) rd wt xs r' rd wt ∧ Byt V3 tp (takeN xs Nn) tc (xs.take (takeN xs Nn)) ∧ (∀ g o, tp = some ⟨g, o, .none⟩ → wr.heap.size ≤ g)) := ⟨HP.out.t1 ht3 hp3, byt_own hO3, fun g o e => own_block hO3 g (by rw [e]; rfl)⟩
            clear hO3 hp3 ht3 k0 k3
            have k3 := (HK.out V3 H3.out.1.bel).2
            go_wp2_with fail
            refine (take_pip H3.out.1.p2 Nn).mono ?_
            rintro e V4 ⟨up, uc, rfl, hO4, _, hp4, ht4⟩
            have hb2l := HP.out.p2.lt
            have H4 : Hid (Tw w V4 b1 b2 (xs.drop (takeN xs Nn)) ((r + takeN xs Nn) % 4294967296) rd wt (xs.drop (takeN xs Nn)) ((r' + takeN xs Nn) % 4294967296) rd wt ∧ Byt V4 tp (takeN xs Nn) tc (xs.take (takeN xs Nn)) ∧ Byt V4 up (takeN xs Nn) uc (xs.take (takeN xs Nn))) := ⟨H3.out.1.t2 ht4 hp4, ht4.byt H3.out.2.1 (fun _ g o e => by have := H3.out.2.2 g o e; omega), byt_own hO4⟩
            clear hO4 hp4 ht4 H3 k3 hb2l
            have htn : takeN xs Nn ≤ 512 := by have := HP.out.p1.1; unfold takeN; omega
            have HE : Hid (((r' + takeN xs Nn) % 4294967296) = ((r + takeN xs Nn) % 4294967296 + y) % 4294967296) := by
              show _ = _
              have := HR'.out
              omega
            generalize takeHow xs wt Nn = th at *
            generalize takeN xs Nn = tn at *
            go_wp2_with fail
            refine (bytes_any tp up tn tc uc (xs.take tn) V4 (by omega) H4.out.2.1 H4.out.2.2).mono ?_
            rintro e V5 ⟨rfl, kk, hkk⟩
            have H5 : Hid (∃ xs r r' rd wt, r' = (r + y) % 4294967296 ∧ Tw w V5 b1 b2 xs r rd wt xs r' rd wt) := ⟨_, _, _, _, _, HE.out, by
              have hb5 : Below V4.heap.size V4 V5 := by subst hkk; exact ⟨rfl, rfl, rfl, Nat.le_refl _, fun _ _ => rfl⟩
              exact H4.out.1.below hb5⟩
            clear hkk H4
            go_wp2
            exact ⟨⟨I + 1, by omega, rfl, H5⟩, by simp only [intOf]; omega⟩
          · by_cases hk3 : K = 3
            · subst hk3
              go_wp2_with fail
              refine (shut_pip HP.out.p1 (Nn == 1)).mono ?_
              rintro e V3 ⟨⟨u, rfl⟩, hp3, ht3⟩
              have H3 : Hid (Tw w V3 b1 b2 xs r (if (Nn == 1) = true then false else rd) (if (Nn == 1) = true then wt else false) xs r' rd wt) := HP.out.t1 ht3 hp3
              clear hp3 ht3 k0 k2 k3
              have k3 := (HK.out V3 H3.out.bel).2
              go_wp2_with fail
              refine (shut_pip H3.out.p2 (Nn == 1)).mono ?_
              rintro e V4 ⟨⟨u4, rfl⟩, hp4, ht4⟩
              have H4 : Hid (∃ xs r r' rd wt, r' = (r + y) % 4294967296 ∧ Tw w V4 b1 b2 xs r rd wt xs r' rd wt) := ⟨_, _, _, _, _, HR'.out, H3.out.t2 ht4 hp4⟩
              clear hp4 ht4 H3 k3
              go_wp2
              exact ⟨⟨I + 1, by omega, rfl, H4⟩, by simp only [intOf]; omega⟩
            · have H3 : Hid (∃ xs r r' rd wt, r' = (r + y) % 4294967296 ∧ Tw w wr b1 b2 xs r rd wt xs r' rd wt) := ⟨_, _, _, _, _, HR'.out, HP.out⟩
              clear k2 k3
              go_wp2
              exact ⟨⟨I + 1, by omega, rfl, H3⟩, by simp only [intOf]; omega⟩
      · obtain rfl : I = m := by omega
        go_wp2_with fail
        refine (state_pip HP.out.p1).mono ?_
        rintro e V1 ⟨p1, c1, rfl, hO1, hb1, _⟩
        have H1 : Hid (Tw w V1 b1 b2 xs r rd wt xs r' rd wt ∧ Byt V1 p1 xs.length c1 xs) := ⟨HP.out.below hb1, byt_own hO1⟩
        clear hO1 hb1
        obtain ⟨s1, hs1⟩ : ∃ s, s = (r + (xs.length : Int)) % 4294967296 := ⟨_, rfl⟩
        obtain ⟨s2, hs2⟩ : ∃ s, s = (r' + (xs.length : Int)) % 4294967296 := ⟨_, rfl⟩
        have es1 : stt p1 xs.length c1 r rd wt = .agg #[.slice p1 xs.length c1, .int .u32 r, .int .u32 s1, .bool rd, .bool wt] := by rw [hs1]; rfl
        have HS12 : Hid (s1 = (r + (xs.length : Int)) % 4294967296 ∧ s2 = (r' + (xs.length : Int)) % 4294967296) := ⟨hs1, hs2⟩
        rw [es1]
        clear es1 hs1 hs2
        go_wp2_with fail
        refine (state_pip H1.out.1.p2).mono ?_
        rintro e V2 ⟨p2, c2, rfl, hO2, hb2, _⟩
        have H2 : Hid (Below w.heap.size w V2 ∧ Byt V2 p1 xs.length c1 xs ∧ Byt V2 p2 xs.length c2 xs) := ⟨H1.out.1.bel.trans (hb2.mono H1.out.1.bel.size), byt_below H1.out.2 hb2, byt_own hO2⟩
        clear hO2 hb2 H1
        have es2 : stt p2 xs.length c2 r' rd wt = .agg #[.slice p2 xs.length c2, .int .u32 r', .int .u32 s2, .bool rd, .bool wt] := by rw [HS12.out.2]; rfl
        rw [es2]
        clear es2
        go_upto_region 28 with fail
        have hs3 := sb_new V2 p1 xs.length c1 r s1 rd wt
        have hf3 := froz_new V2 #[.slice p1 xs.length c1, .int .u32 r, .int .u32 s1, .bool rd, .bool wt] 36
        have hb3 := Trn.new V2 (.cells #[.slice p1 xs.length c1, .int .u32 r, .int .u32 s1, .bool rd, .bool wt] 36)
        have hz3 : (V2.alloc (.cells #[.slice p1 xs.length c1, .int .u32 r, .int .u32 s1, .bool rd, .bool wt] 36)).heap.size = V2.heap.size + 1 := by simp
        generalize V2.alloc (.cells #[.slice p1 xs.length c1, .int .u32 r, .int .u32 s1, .bool rd, .bool wt] 36) = V3 at *
        have hs4 := sb_new V3 p2 xs.length c2 r' s2 rd wt
        have hb4 := Trn.new V3 (.cells #[.slice p2 xs.length c2, .int .u32 r', .int .u32 s2, .bool rd, .bool wt] 36)
        have hz4 : (V3.alloc (.cells #[.slice p2 xs.length c2, .int .u32 r', .int .u32 s2, .bool rd, .bool wt] 36)).heap.size = V3.heap.size + 1 := by simp
        have hf4 := froz_keep hf3 (by omega) (Trn.ofBelow (b := V3.heap.size) hb4) (by omega)
        have hs5 := hs3.below hb4
        generalize V3.alloc (.cells #[.slice p2 xs.length c2, .int .u32 r', .int .u32 s2, .bool rd, .bool wt] 36) = V4 at *
        have hs4 : Sb V4 (V2.heap.size + 1) p2 xs.length c2 r' s2 rd wt := by rw [← hz3]; exact hs4
        have H4 : Hid (Below w.heap.size w V4 ∧ Sb V4 V2.heap.size p1 xs.length c1 r s1 rd wt ∧ Sb V4 (V2.heap.size + 1) p2 xs.length c2 r' s2 rd wt ∧ Byt V4 p1 xs.length c1 xs ∧ Byt V4 p2 xs.length c2 xs ∧ w.heap.size ≤ V2.heap.size ∧ V2.heap.size + 1 ≠ V2.heap.size ∧ (0 < xs.length → NB p1 V2.heap.size) ∧ (0 < xs.length → NB p2 V2.heap.size)) :=
          ⟨(H2.out.1.trans (hb3.mono H2.out.1.size)).trans (hb4.mono (by have := H2.out.1.size; omega)), hs5, hs4, byt_below (byt_below H2.out.2.1 hb3) hb4, byt_below (byt_below H2.out.2.2 hb3) hb4, H2.out.1.size, by omega, NB.of (Nat.le_refl _) H2.out.2.1, NB.of (Nat.le_refl _) H2.out.2.2⟩
        have f1 := hf4 1
        have f2 := hf4 2
        clear hs3 hs4 hs5 hb3 hb4 hf3 hf4 hz3 hz4 H2
        generalize V2.heap.size = g2 at *
        have z1 := H4.out.2.1.c1
        have z2 := H4.out.2.1.c2
        have ew1 : IntKind.u32.wrap (r + y) = r' := by have := HR'.out; simp only [IntKind.wrap, IntKind.bits, IntKind.signed]; simp; omega
        have ew2 : IntKind.u32.wrap (s1 + y) = s2 := by have := HR'.out; have := HS12.out; simp only [IntKind.wrap, IntKind.bits, IntKind.signed]; simp; omega
        go_upto_region 30 with fail
        have hs6 := sb_turn H4.out.2.1 r' s2
        have ht6 : Trn g2 V4 ((V4.setCell ⟨g2, 1, .none⟩ (.int .u32 r')).setCell ⟨g2, 2, .none⟩ (.int .u32 s2)) := (Trn.setCell _ _ _ _).trans (Trn.setCell _ _ _ _)
        generalize (V4.setCell ⟨g2, 1, .none⟩ (.int .u32 r')).setCell ⟨g2, 2, .none⟩ (.int .u32 s2) = V6 at *
        have hx512 := HP.out.p1.1
        have H6 : Hid (Below w.heap.size w V6 ∧ Sb V6 g2 p1 xs.length c1 r' s2 rd wt ∧ Sb V6 (g2 + 1) p2 xs.length c2 r' s2 rd wt ∧ Byt V6 p1 xs.length c1 xs ∧ Byt V6 p2 xs.length c2 xs) := ⟨H4.out.1.trans (ht6.toBelow H4.out.2.2.2.2.2.1 H4.out.1.size), hs6, H4.out.2.2.1.keep ht6 H4.out.2.2.2.2.2.2.1, ht6.byt H4.out.2.2.2.1 (fun h => (H4.out.2.2.2.2.2.2.2.1 h).at), ht6.byt H4.out.2.2.2.2.1 (fun h => (H4.out.2.2.2.2.2.2.2.2 h).at)⟩
        clear hs6 ht6 f1 f2 z1 z2 ew1 ew2 H4
        refine wp_region_lit ?_
        refine wpList_load_mid rfl 36 (.tmp 21) rfl g2 0 (by rfl) _ _ H6.out.2.1.rangeAt Try.underlying36 rfl (by kernel_rfl) ?_
        simp only [Act.put, List.setIfInBounds_toArray, List.set_cons_succ, List.set_cons_zero]
        refine wpList_load_mid rfl 36 (.tmp 22) rfl (g2 + 1) 0 (by rfl) _ _ H6.out.2.2.1.rangeAt Try.underlying36 rfl (by kernel_rfl) ?_
        simp only [Act.put, List.setIfInBounds_toArray, List.set_cons_succ, List.set_cons_zero]
        go_wp2_with fail
        refine (same_any r' s2 rd wt H6.out.2.2.2.1 H6.out.2.2.2.2 (by omega)).mono ?_
        rintro e V7 ⟨rfl, hb7⟩
        have HE : Hid (Below w.heap.size w V7) := H6.out.1.trans (hb7.mono H6.out.1.size)
        clear hb7 H6
        go_wp2
        go_ret
        exact ⟨rfl, HE.out⟩
  · have HN : Hid (¬ okS sn R S) := hok
    obtain ⟨gg, rfl, _⟩ : Bad4 W4 W5 e := by
      rcases H5.out.2 with ⟨_, h2⟩ | ⟨h1, _⟩
      · exact h2
      · exact absurd h1 hok
    clear hok
    go_upto_region 7 with fail
    refine wp_region_lit ?_
    refine wpList_load_mid rfl 36 (.tmp 7) rfl g 0 (by rfl) _ _ H6.out.1.rangeAt Try.underlying36 rfl (by kernel_rfl) ?_
    simp only [Act.put, List.setIfInBounds_toArray, List.set_cons_succ, List.set_cons_zero]
    go_wp2_with fail
    refine c18.mono ?_
    rintro e2 W7 ⟨hb7, hr7⟩
    obtain ⟨gg2, rfl, _⟩ : Bad4 W5 W7 e2 := by
      rcases hr7 with ⟨_, h2⟩ | ⟨h1, _⟩
      · exact h2
      · exact absurd (HOK.out.1 h1) HN.out
    have HE : Hid (Below w.heap.size w W7) := H6.out.2.trans (hb7.mono H6.out.2.size)
    clear c18 hb7 hr7
    go_wp2
    go_ret
    exact ⟨rfl, HE.out⟩
end Go.Proofs.Ytabhojfdkmeaoaa
