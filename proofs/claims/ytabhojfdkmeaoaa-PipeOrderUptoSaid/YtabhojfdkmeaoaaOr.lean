import Derived.Test.YtabhojfdkmeaoaaAp
import Derived.Test.YtabhojfdkmeaoaaCp
namespace Go.Proofs.Ytabhojfdkmeaoaa
open Go.RowKit
set_option linter.unusedVariables false
set_option linter.unusedSimpArgs false
/-- The pipe of the law; what was put and what was taken, in rows of their own. -/
structure Od (w wr : World) (X b : Nat) (xs : List Int) (r : Int) (rd wt : Bool) (P T : List Int) (pv tv : Value) : Prop where
  pl : Pl w wr b xs r rd wt
  hX : b < X
  hX2 : X ≤ wr.heap.size
  wX : w.heap.size ≤ X
  op : wr.ownsRow X 5 1 pv P.length (by8 P)
  ot : wr.ownsRow X 5 1 tv T.length (by8 T)
  ap : ∀ g, pv.ownBlock = some g → tv.ownBlock ≠ some g
  eq : P = T ++ xs
  er : r = (T.length : Int) % 4294967296
theorem own_lt2 {w : World} {X e sz n : Nat} {v : Value} {xs : List Value} (h : w.ownsRow X e sz v n xs) : ∀ g, v.ownBlock = some g → g < w.heap.size := by
  intro g hg
  rcases h.2 with ⟨rfl, _⟩ | ⟨g', cap, cur, rfl, _, h4, _⟩
  · cases hg
  · simp only [Value.ownBlock, Option.some.injEq] at hg
    subst hg
    exact (Array.getElem?_eq_some_iff.1 h4).1
theorem own_belowX {w v : World} {X e sz : Nat} {m : Value} {n : Nat} {xs : List Value} (h : w.ownsRow X e sz m n xs) (t : Below w.heap.size w v) : v.ownsRow X e sz m n xs := by
  rcases h with ⟨h1, h2 | ⟨g, cap, cur, rfl, h3, h4, h5⟩⟩
  · exact ⟨h1, .inl h2⟩
  · have hg : g < w.heap.size := (Array.getElem?_eq_some_iff.1 h4).1
    exact ⟨h1, .inr ⟨g, cap, cur, rfl, h3, (t.block g hg).trans h4, h5⟩⟩
theorem own_grown {w v : World} {X e sz : Nat} {m : Value} {n : Nat} {xs : List Value} {row : Option Nat} (h : w.ownsRow X e sz m n xs) (t : w.grownBy v row) (hne : ∀ g, m.ownBlock = some g → row ≠ some g) : v.ownsRow X e sz m n xs := by
  rcases h with ⟨h1, h2 | ⟨g, cap, cur, rfl, h3, h4, h5⟩⟩
  · exact ⟨h1, .inl h2⟩
  · have hg : g < w.heap.size := (Array.getElem?_eq_some_iff.1 h4).1
    exact ⟨h1, .inr ⟨g, cap, cur, rfl, h3, (t.block g hg (fun e => hne g rfl e.symm)).trans h4, h5⟩⟩
section
variable {w wr v : World} {X b : Nat} {xs xs' : List Int} {r r' : Int} {rd wt rd' wt' : Bool} {P T : List Int} {pv tv : Value}
theorem Od.below (h : Od w wr X b xs r rd wt P T pv tv) (hb : Below wr.heap.size wr v) : Od w v X b xs r rd wt P T pv tv :=
  ⟨h.pl.below hb, h.hX, Nat.le_trans h.hX2 hb.size, h.wX, own_belowX h.op hb, own_belowX h.ot hb, h.ap, h.eq, h.er⟩
/-- The rows behind a call that turned the pipe. -/
theorem Od.rows (h : Od w wr X b xs r rd wt P T pv tv) (ht : Trn b wr v) : X ≤ v.heap.size ∧ v.ownsRow X 5 1 pv P.length (by8 P) ∧ v.ownsRow X 5 1 tv T.length (by8 T) :=
  ⟨Nat.le_trans h.hX2 ht.size, ht.own h.op (fun g hg e => by have := own_block h.op g hg; have := h.hX; omega), ht.own h.ot (fun g hg e => by have := own_block h.ot g hg; have := h.hX; omega)⟩
theorem Od.shut (h : Od w wr X b xs r rd wt P T pv tv) (ht : Trn b wr v) (hp : Pip v b xs r rd' wt') : Od w v X b xs r rd' wt' P T pv tv :=
  ⟨h.pl.turn ht hp, h.hX, (h.rows ht).1, h.wX, (h.rows ht).2.1, (h.rows ht).2.2, h.ap, h.eq, h.er⟩
/-- The pipe and both rows, behind the append to one of them. -/
theorem od_put {V U : World} {ys : List Int} {pv' : Value} (hp : Pl w V b (xs ++ ys) r rd wt) (hX : b < X) (hX2 : X ≤ V.heap.size) (wX : w.heap.size ≤ X) (op : V.ownsRow X 5 1 pv P.length (by8 P)) (ot : V.ownsRow X 5 1 tv T.length (by8 T)) (ap : ∀ g, pv.ownBlock = some g → tv.ownBlock ≠ some g) (eq : P = T ++ xs) (er : r = (T.length : Int) % 4294967296)
    (hO : U.ownsRow X 5 1 pv' (P.length + ys.length) (by8 (P ++ ys))) (hg : V.grownBy U pv.ownBlock) (hb : ∀ g, pv'.ownBlock = some g → pv.ownBlock = some g ∨ V.heap.size ≤ g) : Od w U X b (xs ++ ys) r rd wt (P ++ ys) T pv' tv := by
  have bel : Below X V U := (Below.refl _ _).grown hg hX2 (own_block op)
  refine ⟨⟨hp.bel.trans (bel.mono wX), hp.ge, ?_⟩, hX, Nat.le_trans hX2 bel.size, wX, by rw [List.length_append]; exact hO, own_grown ot hg (fun g h e => ap g e h), fun g h e => ?_, by rw [eq, List.append_assoc], er⟩
  · obtain ⟨h1, C, h2, h3⟩ := hp.pip
    exact ⟨h1, C, ⟨fun i hi => (bel.cell (p := ⟨b, i, .none⟩) hX).trans (h2.cb i hi), fun i => (bel.frozen (p := ⟨b, i, .none⟩) hX).trans (h2.fb i), (bel.cell (p := ⟨b, 512, .none⟩) hX).trans h2.c1, (bel.cell (p := ⟨b, 513, .none⟩) hX).trans h2.c2, (bel.cell (p := ⟨b, 514, .none⟩) hX).trans h2.c3, (bel.cell (p := ⟨b, 515, .none⟩) hX).trans h2.c4, (bel.cell (p := ⟨b, 516, .none⟩) hX).trans h2.c5, h2.bb, h2.br, h2.bs⟩, h3⟩
  · rcases hb g h with h1 | h1
    · exact ap g h1 e
    · have := own_lt2 ot g e
      omega
theorem od_take {V U : World} {k : Nat} {tv' : Value} (hp : Pl w V b (xs.drop k) ((r + k) % 4294967296) rd wt) (hk : k ≤ xs.length) (hX : b < X) (hX2 : X ≤ V.heap.size) (wX : w.heap.size ≤ X) (op : V.ownsRow X 5 1 pv P.length (by8 P)) (ot : V.ownsRow X 5 1 tv T.length (by8 T)) (ap : ∀ g, pv.ownBlock = some g → tv.ownBlock ≠ some g) (eq : P = T ++ xs) (er : r = (T.length : Int) % 4294967296)
    (hO : U.ownsRow X 5 1 tv' (T.length + k) (by8 (T ++ xs.take k))) (hg : V.grownBy U tv.ownBlock) (hb : ∀ g, tv'.ownBlock = some g → tv.ownBlock = some g ∨ V.heap.size ≤ g) : Od w U X b (xs.drop k) ((r + k) % 4294967296) rd wt P (T ++ xs.take k) pv tv' := by
  have bel : Below X V U := (Below.refl _ _).grown hg hX2 (own_block ot)
  have hl : (T ++ xs.take k).length = T.length + k := by rw [List.length_append, List.length_take]; omega
  refine ⟨⟨hp.bel.trans (bel.mono wX), hp.ge, ?_⟩, hX, Nat.le_trans hX2 bel.size, wX, own_grown op hg (fun g h e => ap g h e), by rw [hl]; exact hO, fun g h e => ?_, by rw [eq, List.append_assoc, List.take_append_drop], by rw [hl, er]; omega⟩
  · obtain ⟨h1, C, h2, h3⟩ := hp.pip
    exact ⟨h1, C, ⟨fun i hi => (bel.cell (p := ⟨b, i, .none⟩) hX).trans (h2.cb i hi), fun i => (bel.frozen (p := ⟨b, i, .none⟩) hX).trans (h2.fb i), (bel.cell (p := ⟨b, 512, .none⟩) hX).trans h2.c1, (bel.cell (p := ⟨b, 513, .none⟩) hX).trans h2.c2, (bel.cell (p := ⟨b, 514, .none⟩) hX).trans h2.c3, (bel.cell (p := ⟨b, 515, .none⟩) hX).trans h2.c4, (bel.cell (p := ⟨b, 516, .none⟩) hX).trans h2.c5, h2.bb, h2.br, h2.bs⟩, h3⟩
  · rcases hb g e with h1 | h1
    · exact ap g h h1
    · have := own_lt2 op g h
      omega
end
set_option maxHeartbeats 8000000 in
set_option maxRecDepth 100000 in
theorem order_any (w : World) (q : Option Addr) (m c : Nat) (O : Nat → Orec) (hA : ArgO w q m c O) (hm : m ≤ 1048576) : Calls Try.prog 5 #[.slice q m c] w fun e w' => e = .returned (.bool true) ∧ Below w.heap.size w w' := by
  have HA : Hid (ArgO w q m c O) := hA
  have hmc := hA.lc.1
  have hcm : c ≤ 9223372036854775807 := hA.lc.2
  clear hA
  go_enter Try.func5, Try.ntmps5
  go_wp2_with fail
  refine (works_any w).mono ?_
  rintro e W1 ⟨rfl, hb1⟩
  go_wp2_with fail
  refine (new_any W1).mono ?_
  rintro e W2 ⟨rfl, hp2, hb2⟩
  have hlt2 := hp2.lt
  have hs2 := hb1.size
  have H2 : Hid (Od w W2 W2.heap.size W1.heap.size [] 0 true true [] [] (.slice none 0 0) (.slice none 0 0)) := ⟨⟨hb1.trans (hb2.mono hb1.size), hb1.size, hp2⟩, hlt2, Nat.le_refl _, by omega, World.ownsRow_nil _ _ _ _, World.ownsRow_nil _ _ _ _, (fun g h => by cases h), rfl, rfl⟩
  generalize W1.heap.size = b at *
  generalize W2.heap.size = X at *
  clear hb1 hb2 hp2 hlt2 hs2
  go_wp2
  go_loopw [4, 5, 6] (fun pv tv i wr => ∃ I : Nat, I ≤ m ∧ i = .int .i64 I ∧ Hid (∃ xs r rd wt P T, P.length ≤ 512 * I ∧ Od w wr X b xs r rd wt P T pv tv)) (fun _ _ i _ => (m - intOf i).toNat)
  case atStart => exact ⟨0, by omega, rfl, _, _, _, _, _, _, by simp, H2.out⟩
  case round =>
    obtain ⟨I, hI, rfl, HM⟩ := hrel
    clear H2
    obtain ⟨xs, r, rd, wt, P, T, hPl, hP⟩ := HM.out
    obtain ⟨pp, pc, rfl⟩ := one_slice hP.op
    obtain ⟨tp, tc, rfl⟩ := one_slice hP.ot
    have HP : Hid (Od w wr X b xs r rd wt P T (.slice pp P.length pc) (.slice tp T.length tc)) := hP
    have hTP : T.length ≤ P.length := by rw [hP.eq, List.length_append]; omega
    clear HM hP
    by_cases hlt : I < m
    · have g0 : (I : Int) < m := by omega
      obtain ⟨ab, ao, hq, hab, k0, k1, k2, k3⟩ := HA.out.cells HP.out.pl.bel I hlt
      have HK : Hid (∀ V, Below w.heap.size w V → V.cell? ⟨ab, ao + I * 4 + 2, .none⟩ = some (.slice (O I).s (O I).ln (O I).cd) ∧ V.cell? ⟨ab, ao + I * 4 + 3, .none⟩ = some (.int .i64 (O I).n)) := fun V hV =>
        ⟨((hV.cell (p := ⟨ab, _, .none⟩) hab).trans (HP.out.pl.bel.cell (p := ⟨ab, _, .none⟩) hab).symm).trans k2, ((hV.cell (p := ⟨ab, _, .none⟩) hab).trans (HP.out.pl.bel.cell (p := ⟨ab, _, .none⟩) hab).symm).trans k3⟩
      have HD : Hid (Byt w (O I).s (O I).ln (O I).cd (O I).xs ∧ (∀ y ∈ (O I).xs, 0 ≤ y ∧ y < 256) ∧ (O I).ln < 140737488355000) := ⟨HA.out.byt I hlt, HA.out.bd I hlt, HA.out.ln I hlt⟩
      subst hq
      generalize (O I).k = K at *
      generalize (O I).n = Nn at *
      generalize (O I).s = ds at *
      generalize (O I).ln = dl at *
      generalize (O I).cd = dc at *
      generalize (O I).xs = ys at *
      clear k1
      have hdl := HD.out.2.2
      have hyl : Hid (ys.length = dl) := HD.out.1.1
      have hdc := HD.out.1.2.1
      have hdm : dc ≤ 9223372036854775807 := HD.out.1.2.2.1
      by_cases hk1 : K = 1
      · subst hk1
        clear k3
        go_wp2_with fail
        refine (lend_any (byt_below HD.out.1 HP.out.pl.bel) hdl).mono ?_
        rintro e V3 ⟨g, cg, rfl, hL, hb3⟩
        have H3 := HP.out.below hb3
        have c10 := put_lent H3.pl hL HP.out.pl.pip.lt HD.out.2.1 hyl.out.symm
        clear hb3 k0 k2
        go_wp2_with fail
        refine c10.mono ?_
        rintro e V4 ⟨rfl, hp4, ht4⟩
        have hrw := H3.rows ht4
        have hpn : putN xs rd ys ≤ dl ∧ putN xs rd ys ≤ 512 := by
          have := hyl.out
          unfold putN
          split <;> omega
        generalize putN xs rd ys = pn at *
        generalize putHow xs rd ys = ph at *
        have H4 : Hid (Pl w V4 b (xs ++ ys.take pn) r rd wt ∧ X ≤ V4.heap.size ∧ V4.ownsRow X 5 1 (.slice pp P.length pc) P.length (by8 P) ∧ V4.ownsRow X 5 1 (.slice tp T.length tc) T.length (by8 T)) := ⟨hp4, hrw.1, hrw.2.1, hrw.2.2⟩
        clear c10 hp4 ht4 hL hrw H3
        have k2 := (HK.out V4 H4.out.1.bel).1
        have ca := cutat ds dl dc
        have ct := cut_to ds dl dc pn (by omega)
        have i1 : ¬ ((dl : Int) < pn) := by omega
        have B4 : Hid (Byt V4 (cutp ds dc 0) pn dc (ys.take pn)) := by
          have := byt_cut (byt_below HD.out.1 H4.out.1.bel) 0 pn (by omega) hpn.1
          exact this
        have hxl : Hid ((ys.take pn).length = pn) := by
          show (ys.take pn).length = pn
          have := hyl.out
          rw [List.length_take]
          omega
        go_wp2_with (first | (at_builtin; refine wpList_app rfl (.tmp 51) (.tmp 58) rfl X (.slice pp P.length pc) P.length P rfl (cutp ds dc 0) pn dc (ys.take pn) rfl H4.out.2.2.1 B4.out ?c1 ?c2 ?_) | fail)
        case c1 => omega
        case c2 => exact H4.out.2.1
        intro pv' V5 hO5 hg5 hbk5
        obtain ⟨pp5, pc5, rfl⟩ := one_slice hO5
        have hO5' : V5.ownsRow X 5 1 (.slice pp5 (P.length + pn) pc5) (P.length + (ys.take pn).length) (by8 (P ++ ys.take pn)) := by rw [hxl.out]; exact hO5
        have hod := od_put H4.out.1 HP.out.hX H4.out.2.1 HP.out.wX H4.out.2.2.1 H4.out.2.2.2 HP.out.ap HP.out.eq HP.out.er hO5' hg5 hbk5
        have hl5 : (P ++ ys.take pn).length = P.length + pn := by rw [List.length_append, hxl.out]
        rw [← hl5] at hod ⊢
        clear hO5 hO5' hg5 hbk5 H4 B4 k2 ca ct HK HD
        obtain ⟨xs2, hxs2⟩ : ∃ x, x = xs ++ ys.take pn := ⟨_, rfl⟩
        obtain ⟨r2, hr2⟩ : ∃ x, x = r := ⟨_, rfl⟩
        obtain ⟨rd2, hrd2⟩ : ∃ x, x = rd := ⟨_, rfl⟩
        obtain ⟨wt2, hwt2⟩ : ∃ x, x = wt := ⟨_, rfl⟩
        obtain ⟨P2, hP2⟩ : ∃ x, x = P ++ ys.take pn := ⟨_, rfl⟩
        obtain ⟨T2, hT2⟩ : ∃ x, x = T := ⟨_, rfl⟩
        have hod2 : Od w V5 X b xs2 r2 rd2 wt2 P2 T2 (.slice pp5 P2.length pc5) (.slice tp T2.length tc) := by rw [hxs2, hr2, hrd2, hwt2, hP2, hT2]; exact hod
        have hPL : P2.length ≤ 512 * (I + 1) := by rw [hP2]; omega
        rw [← hP2, ← hT2]
        have HQ : Hid (Od w V5 X b xs2 r2 rd2 wt2 P2 T2 (.slice pp5 P2.length pc5) (.slice tp T2.length tc)) := hod2
        clear hod2 hxs2 hr2 hrd2 hwt2 hP2 hT2
        have hlen : P2.length = T2.length + xs2.length := by rw [HQ.out.eq, List.length_append]
        have hx512 := HQ.out.pl.pip.1
        generalize hpl : P2.length = pl at *
        generalize htl : T2.length = tl at *
        have HLEN : Hid (pl = tl + xs2.length) := hlen
        have i2 : ¬ ((pl : Int) < tl) := by omega
        clear hlen
        go_wp2_with fail
        refine (state_pip HQ.out.pl.pip).mono ?_
        rintro e A1 ⟨sp, sc, rfl, hO1, hb1, _⟩
        obtain ⟨s, hs⟩ : ∃ s, s = (r2 + (xs2.length : Int)) % 4294967296 := ⟨_, rfl⟩
        have HSS : Hid (s = (r2 + (xs2.length : Int)) % 4294967296) := hs
        have es : stt sp xs2.length sc r2 rd2 wt2 = .agg #[.slice sp xs2.length sc, .int .u32 r2, .int .u32 s, .bool rd2, .bool wt2] := by rw [hs]; rfl
        rw [es]
        generalize hL : xs2.length = L at *
        have R1 : Hid (Od w A1 X b xs2 r2 rd2 wt2 P2 T2 (.slice pp5 pl pc5) (.slice tp tl tc) ∧ Byt A1 sp L sc xs2) := ⟨HQ.out.below hb1, byt_own hO1⟩
        clear es hs hO1 hb1
        go_upto_region 22 with fail
        have hsb := sb_new A1 sp L sc r2 s rd2 wt2
        have hb2 := Trn.new A1 (.cells #[.slice sp L sc, .int .u32 r2, .int .u32 s, .bool rd2, .bool wt2] 36)
        generalize A1.alloc (.cells #[.slice sp L sc, .int .u32 r2, .int .u32 s, .bool rd2, .bool wt2] 36) = A2 at *
        have R2 : Hid (Od w A2 X b xs2 r2 rd2 wt2 P2 T2 (.slice pp5 pl pc5) (.slice tp tl tc) ∧ Byt A2 sp L sc xs2 ∧ Sb A2 A1.heap.size sp L sc r2 s rd2 wt2) := ⟨R1.out.1.below hb2, byt_below R1.out.2 hb2, hsb⟩
        generalize A1.heap.size = sb at *
        clear hsb hb2 R1
        have kS : (A2.drew.cell? ⟨sb, 0, .none⟩ = some (.slice sp L sc) ∧ A2.drew.cell? ⟨sb, 1, .none⟩ = some (.int .u32 r2) ∧ A2.drew.cell? ⟨sb, 2, .none⟩ = some (.int .u32 s)) := ⟨R2.out.2.2.c0, R2.out.2.2.c1, R2.out.2.2.c2⟩
        have hopl : A2.ownsRow X 5 1 (.slice pp5 pl pc5) pl (by8 P2) := by have := R2.out.1.op; rw [hpl] at this; exact this
        have Bp : Hid (Byt A2 pp5 pl pc5 P2) := byt_own hopl
        have hpc := Bp.out.2.1
        have hpm : pc5 ≤ 9223372036854775807 := Bp.out.2.2.1
        have Bx : Hid (Byt A2.drew (cutp pp5 pc5 tl) L (pc5 - tl) xs2) := by
          have h1 := byt_cut Bp.out tl pl (by have := HLEN.out; omega) (Nat.le_refl _)
          rw [List.take_of_length_le (by have := HLEN.out; omega), show pl - tl = L by have := HLEN.out; omega] at h1
          have h2 : P2.drop tl = xs2 := by rw [HQ.out.eq, ← htl, List.drop_left]
          rw [h2] at h1
          exact h1
        have ca2 := cutat pp5 pl pc5
        have cf2 : ∀ W, (Instr.slice 22 (.slice pp5 pl pc5) (some (.int .i64 tl)) none none).run Try.prog W = .ok (.slice (cutp pp5 pc5 tl) L (pc5 - tl)) W := fun W => by
          have := cut_from pp5 pl pc5 tl (by have := HLEN.out; omega) W
          rw [show pl - tl = L by have := HLEN.out; omega] at this
          exact this
        have er2 := R2.out.1.er
        rw [htl] at er2
        have ew1 : IntKind.u32.wrap (pl : Int) = s := by have := HSS.out; simp only [IntKind.wrap, IntKind.bits, IntKind.signed]; simp; have := HLEN.out; omega
        have ew2 : IntKind.u32.wrap (tl : Int) = r2 := by simp only [IntKind.wrap, IntKind.bits, IntKind.signed]; simp; have := HLEN.out; omega
        clear er2 hopl
        have i3 : ¬ ((512 : Int) < L) := by omega
        refine wp_region_held_drew (S := fun U => (U.cell? ⟨sb, 0, .none⟩ = some (.slice sp L sc) ∧ U.cell? ⟨sb, 1, .none⟩ = some (.int .u32 r2) ∧ U.cell? ⟨sb, 2, .none⟩ = some (.int .u32 s))) (by kernel_rfl) kS (fun hHeld => ?_)
        refine wpAnyH_take (i := 0) (v := (.pointer (some ⟨sb, 0, .none⟩))) rfl (by kernel_rfl) (by kernel_rfl) (by kernel_rfl) (fun _ _ _ h => h) (Or.inl ⟨by rfl, fun ww hSw => by (try dsimp only at hSw); go_simp⟩) (by assumption) ?_
        simp only [Act.put, List.setIfInBounds_toArray, List.set_cons_zero, List.set_cons_succ, List.getElem_toArray, List.getElem_cons_succ, List.getElem_cons_zero]
        refine wpAnyH_take (i := 1) (v := (.slice sp L sc)) rfl (by kernel_rfl) (by kernel_rfl) (by kernel_rfl) (fun _ _ _ h => h) (Or.inl ⟨by rfl, fun ww hSw => by (try dsimp only at hSw); go_simp⟩) (by assumption) ?_
        simp only [Act.put, List.setIfInBounds_toArray, List.set_cons_zero, List.set_cons_succ, List.getElem_toArray, List.getElem_cons_succ, List.getElem_cons_zero]
        refine wpAnyH_take (i := 2) (v := (.int .i64 L)) rfl (by kernel_rfl) (by kernel_rfl) (by kernel_rfl) (fun _ _ _ h => h) (Or.inl ⟨by rfl, fun ww hSw => by (try dsimp only at hSw); go_simp⟩) (by assumption) ?_
        simp only [Act.put, List.setIfInBounds_toArray, List.set_cons_zero, List.set_cons_succ, List.getElem_toArray, List.getElem_cons_succ, List.getElem_cons_zero]
        refine wpAnyH_take (i := 3) (v := (.bool false)) rfl (by kernel_rfl) (by kernel_rfl) (by kernel_rfl) (fun _ _ _ h => h) (Or.inl ⟨by rfl, fun ww hSw => by (try dsimp only at hSw); go_simp⟩) (by assumption) ?_
        simp only [Act.put, List.setIfInBounds_toArray, List.set_cons_zero, List.set_cons_succ, List.getElem_toArray, List.getElem_cons_succ, List.getElem_cons_zero]
        refine wpAnyH_take (i := 4) (v := (.bool false)) rfl (by kernel_rfl) (by kernel_rfl) (by kernel_rfl) (fun _ _ _ h => h) (Or.inl ⟨by rfl, fun ww hSw => by (try dsimp only at hSw); go_simp⟩) (by assumption) ?_
        simp only [Act.put, List.setIfInBounds_toArray, List.set_cons_zero, List.set_cons_succ, List.getElem_toArray, List.getElem_cons_succ, List.getElem_cons_zero]
        refine wpAnyH_take (i := 5) (v := (.pointer (some ⟨sb, 0, .none⟩))) rfl (by kernel_rfl) (by kernel_rfl) (by kernel_rfl) (fun _ _ _ h => h) (Or.inl ⟨by rfl, fun ww hSw => by (try dsimp only at hSw); go_simp⟩) (by assumption) ?_
        simp only [Act.put, List.setIfInBounds_toArray, List.set_cons_zero, List.set_cons_succ, List.getElem_toArray, List.getElem_cons_succ, List.getElem_cons_zero]
        refine wpAnyH_take (i := 6) (v := (.slice sp L sc)) rfl (by kernel_rfl) (by kernel_rfl) (by kernel_rfl) (fun _ _ _ h => h) (Or.inl ⟨by rfl, fun ww hSw => by (try dsimp only at hSw); go_simp⟩) (by assumption) ?_
        simp only [Act.put, List.setIfInBounds_toArray, List.set_cons_zero, List.set_cons_succ, List.getElem_toArray, List.getElem_cons_succ, List.getElem_cons_zero]
        refine wpAnyH_take (i := 7) (v := (.slice pp5 pl pc5)) rfl (by kernel_rfl) (by kernel_rfl) (by kernel_rfl) (fun _ _ _ h => h) (Or.inl ⟨by rfl, fun ww hSw => by (try dsimp only at hSw); go_simp⟩) (by assumption) ?_
        simp only [Act.put, List.setIfInBounds_toArray, List.set_cons_zero, List.set_cons_succ, List.getElem_toArray, List.getElem_cons_succ, List.getElem_cons_zero]
        refine wpAnyH_take (i := 8) (v := (.slice tp tl tc)) rfl (by kernel_rfl) (by kernel_rfl) (by kernel_rfl) (fun _ _ _ h => h) (Or.inl ⟨by rfl, fun ww hSw => by (try dsimp only at hSw); go_simp⟩) (by assumption) ?_
        simp only [Act.put, List.setIfInBounds_toArray, List.set_cons_zero, List.set_cons_succ, List.getElem_toArray, List.getElem_cons_succ, List.getElem_cons_zero]
        refine wpAnyH_take (i := 9) (v := (.int .i64 tl)) rfl (by kernel_rfl) (by kernel_rfl) (by kernel_rfl) (fun _ _ _ h => h) (Or.inl ⟨by rfl, fun ww hSw => by (try dsimp only at hSw); go_simp⟩) (by assumption) ?_
        simp only [Act.put, List.setIfInBounds_toArray, List.set_cons_zero, List.set_cons_succ, List.getElem_toArray, List.getElem_cons_succ, List.getElem_cons_zero]
        refine wpAnyH_take (i := 10) (v := (.slice (cutp pp5 pc5 tl) L (pc5 - tl))) rfl (by kernel_rfl) (by kernel_rfl) (by kernel_rfl) (fun _ _ _ h => h) (Or.inl ⟨by rfl, fun ww hSw => by (try dsimp only at hSw); go_simp⟩) (by assumption) ?_
        simp only [Act.put, List.setIfInBounds_toArray, List.set_cons_zero, List.set_cons_succ, List.getElem_toArray, List.getElem_cons_succ, List.getElem_cons_zero]
        refine wpAnyH_ready (rs := [11]) (by kernel_rfl) (by simp) ?_
        refine AllReadyH.cons rfl (fun K hK => ?_) AllReadyH.nil
        go_simp
        have c17 := bytes_any sp (cutp pp5 pc5 tl) L sc (pc5 - tl) xs2 A2.drew (by have := HLEN.out; omega) R2.out.2.1 Bx.out
        refine c17.mono ?_
        rintro e A3 ⟨rfl, kk, hkk⟩
        have hb3 : Below A2.heap.size A2 A3 := by subst hkk; exact ⟨rfl, rfl, rfl, Nat.le_refl _, fun _ _ => rfl⟩
        have R3 : Hid (Od w A3 X b xs2 r2 rd2 wt2 P2 T2 (.slice pp5 pl pc5) (.slice tp tl tc) ∧ Sb A3 sb sp L sc r2 s rd2 wt2) := ⟨R2.out.1.below hb3, R2.out.2.2.below hb3⟩
        have kS3 : (A3.cell? ⟨sb, 0, .none⟩ = some (.slice sp L sc) ∧ A3.cell? ⟨sb, 1, .none⟩ = some (.int .u32 r2) ∧ A3.cell? ⟨sb, 2, .none⟩ = some (.int .u32 s)) := ⟨R3.out.2.c0, R3.out.2.c1, R3.out.2.c2⟩
        clear hkk hb3 c17
        refine hK.out _ _ kS3 (fun hHeld => ?_)
        clear hK K
        try simp only [Act.put, List.setIfInBounds_toArray, List.set_cons_zero, List.set_cons_succ, List.getElem_toArray, List.getElem_cons_succ, List.getElem_cons_zero]
        refine wpAnyH_take (i := 12) (v := (.bool false)) rfl (by kernel_rfl) (by kernel_rfl) (by kernel_rfl) (fun _ _ _ h => h) (Or.inl ⟨by rfl, fun ww hSw => by (try dsimp only at hSw); go_simp⟩) (by assumption) ?_
        simp only [Act.put, List.setIfInBounds_toArray, List.set_cons_zero, List.set_cons_succ, List.getElem_toArray, List.getElem_cons_succ, List.getElem_cons_zero]
        refine wpAnyH_take (i := 13) (v := (.bool false)) rfl (by kernel_rfl) (by kernel_rfl) (by kernel_rfl) (fun _ _ _ h => h) (Or.inl ⟨by rfl, fun ww hSw => by (try dsimp only at hSw); go_simp⟩) (by assumption) ?_
        simp only [Act.put, List.setIfInBounds_toArray, List.set_cons_zero, List.set_cons_succ, List.getElem_toArray, List.getElem_cons_succ, List.getElem_cons_zero]
        refine wpAnyH_take (i := 14) (v := (.bool false)) rfl (by kernel_rfl) (by kernel_rfl) (by kernel_rfl) (fun _ _ _ h => h) (Or.inl ⟨by rfl, fun ww hSw => by (try dsimp only at hSw); go_simp⟩) (by assumption) ?_
        simp only [Act.put, List.setIfInBounds_toArray, List.set_cons_zero, List.set_cons_succ, List.getElem_toArray, List.getElem_cons_succ, List.getElem_cons_zero]
        refine wpAnyH_take (i := 15) (v := (.pointer (some ⟨sb, 2, .none⟩))) rfl (by kernel_rfl) (by kernel_rfl) (by kernel_rfl) (fun _ _ _ h => h) (Or.inl ⟨by rfl, fun ww hSw => by (try dsimp only at hSw); go_simp⟩) (by assumption) ?_
        simp only [Act.put, List.setIfInBounds_toArray, List.set_cons_zero, List.set_cons_succ, List.getElem_toArray, List.getElem_cons_succ, List.getElem_cons_zero]
        refine wpAnyH_take (i := 16) (v := (.int .u32 s)) rfl (by kernel_rfl) (by kernel_rfl) (by kernel_rfl) (fun _ _ _ h => h) (Or.inl ⟨by rfl, fun ww hSw => by (try dsimp only at hSw); go_simp⟩) (by assumption) ?_
        simp only [Act.put, List.setIfInBounds_toArray, List.set_cons_zero, List.set_cons_succ, List.getElem_toArray, List.getElem_cons_succ, List.getElem_cons_zero]
        refine wpAnyH_take (i := 17) (v := (.slice pp5 pl pc5)) rfl (by kernel_rfl) (by kernel_rfl) (by kernel_rfl) (fun _ _ _ h => h) (Or.inl ⟨by rfl, fun ww hSw => by (try dsimp only at hSw); go_simp⟩) (by assumption) ?_
        simp only [Act.put, List.setIfInBounds_toArray, List.set_cons_zero, List.set_cons_succ, List.getElem_toArray, List.getElem_cons_succ, List.getElem_cons_zero]
        refine wpAnyH_take (i := 18) (v := (.int .i64 pl)) rfl (by kernel_rfl) (by kernel_rfl) (by kernel_rfl) (fun _ _ _ h => h) (Or.inl ⟨by rfl, fun ww hSw => by (try dsimp only at hSw); go_simp⟩) (by assumption) ?_
        simp only [Act.put, List.setIfInBounds_toArray, List.set_cons_zero, List.set_cons_succ, List.getElem_toArray, List.getElem_cons_succ, List.getElem_cons_zero]
        refine wpAnyH_take (i := 19) (v := (.int .u32 s)) rfl (by kernel_rfl) (by kernel_rfl) (by kernel_rfl) (fun _ _ _ h => h) (Or.inl ⟨by rfl, fun ww hSw => by (try dsimp only at hSw); go_simp⟩) (by assumption) ?_
        simp only [Act.put, List.setIfInBounds_toArray, List.set_cons_zero, List.set_cons_succ, List.getElem_toArray, List.getElem_cons_succ, List.getElem_cons_zero]
        refine wpAnyH_take (i := 20) (v := (.bool false)) rfl (by kernel_rfl) (by kernel_rfl) (by kernel_rfl) (fun _ _ _ h => h) (Or.inl ⟨by rfl, fun ww hSw => by (try dsimp only at hSw); go_simp⟩) (by assumption) ?_
        simp only [Act.put, List.setIfInBounds_toArray, List.set_cons_zero, List.set_cons_succ, List.getElem_toArray, List.getElem_cons_succ, List.getElem_cons_zero]
        refine wpAnyH_take (i := 21) (v := (.bool false)) rfl (by kernel_rfl) (by kernel_rfl) (by kernel_rfl) (fun _ _ _ h => h) (Or.inl ⟨by rfl, fun ww hSw => by (try dsimp only at hSw); go_simp⟩) (by assumption) ?_
        simp only [Act.put, List.setIfInBounds_toArray, List.set_cons_zero, List.set_cons_succ, List.getElem_toArray, List.getElem_cons_succ, List.getElem_cons_zero]
        refine wpAnyH_take (i := 22) (v := (.bool false)) rfl (by kernel_rfl) (by kernel_rfl) (by kernel_rfl) (fun _ _ _ h => h) (Or.inl ⟨by rfl, fun ww hSw => by (try dsimp only at hSw); go_simp⟩) (by assumption) ?_
        simp only [Act.put, List.setIfInBounds_toArray, List.set_cons_zero, List.set_cons_succ, List.getElem_toArray, List.getElem_cons_succ, List.getElem_cons_zero]
        refine wpAnyH_take (i := 23) (v := (.pointer (some ⟨sb, 1, .none⟩))) rfl (by kernel_rfl) (by kernel_rfl) (by kernel_rfl) (fun _ _ _ h => h) (Or.inl ⟨by rfl, fun ww hSw => by (try dsimp only at hSw); go_simp⟩) (by assumption) ?_
        simp only [Act.put, List.setIfInBounds_toArray, List.set_cons_zero, List.set_cons_succ, List.getElem_toArray, List.getElem_cons_succ, List.getElem_cons_zero]
        refine wpAnyH_take (i := 24) (v := (.int .u32 r2)) rfl (by kernel_rfl) (by kernel_rfl) (by kernel_rfl) (fun _ _ _ h => h) (Or.inl ⟨by rfl, fun ww hSw => by (try dsimp only at hSw); go_simp⟩) (by assumption) ?_
        simp only [Act.put, List.setIfInBounds_toArray, List.set_cons_zero, List.set_cons_succ, List.getElem_toArray, List.getElem_cons_succ, List.getElem_cons_zero]
        refine wpAnyH_take (i := 25) (v := (.slice tp tl tc)) rfl (by kernel_rfl) (by kernel_rfl) (by kernel_rfl) (fun _ _ _ h => h) (Or.inl ⟨by rfl, fun ww hSw => by (try dsimp only at hSw); go_simp⟩) (by assumption) ?_
        simp only [Act.put, List.setIfInBounds_toArray, List.set_cons_zero, List.set_cons_succ, List.getElem_toArray, List.getElem_cons_succ, List.getElem_cons_zero]
        refine wpAnyH_take (i := 26) (v := (.int .i64 tl)) rfl (by kernel_rfl) (by kernel_rfl) (by kernel_rfl) (fun _ _ _ h => h) (Or.inl ⟨by rfl, fun ww hSw => by (try dsimp only at hSw); go_simp⟩) (by assumption) ?_
        simp only [Act.put, List.setIfInBounds_toArray, List.set_cons_zero, List.set_cons_succ, List.getElem_toArray, List.getElem_cons_succ, List.getElem_cons_zero]
        refine wpAnyH_take (i := 27) (v := (.int .u32 r2)) rfl (by kernel_rfl) (by kernel_rfl) (by kernel_rfl) (fun _ _ _ h => h) (Or.inl ⟨by rfl, fun ww hSw => by (try dsimp only at hSw); go_simp⟩) (by assumption) ?_
        simp only [Act.put, List.setIfInBounds_toArray, List.set_cons_zero, List.set_cons_succ, List.getElem_toArray, List.getElem_cons_succ, List.getElem_cons_zero]
        refine wpAnyH_take (i := 28) (v := (.bool false)) rfl (by kernel_rfl) (by kernel_rfl) (by kernel_rfl) (fun _ _ _ h => h) (Or.inl ⟨by rfl, fun ww hSw => by (try dsimp only at hSw); go_simp⟩) (by assumption) ?_
        simp only [Act.put, List.setIfInBounds_toArray, List.set_cons_zero, List.set_cons_succ, List.getElem_toArray, List.getElem_cons_succ, List.getElem_cons_zero]
        refine wpAnyH_take (i := 29) (v := (.bool false)) rfl (by kernel_rfl) (by kernel_rfl) (by kernel_rfl) (fun _ _ _ h => h) (Or.inl ⟨by rfl, fun ww hSw => by (try dsimp only at hSw); go_simp⟩) (by assumption) ?_
        simp only [Act.put, List.setIfInBounds_toArray, List.set_cons_zero, List.set_cons_succ, List.getElem_toArray, List.getElem_cons_succ, List.getElem_cons_zero]
        refine wpAnyH_done (by kernel_rfl) ?_ _
        clear hHeld kS kS3 ca2 cf2 Bx Bp R2
        go_wp2
        exact ⟨⟨I + 1, by omega, rfl, xs2, r2, rd2, wt2, P2, T2, by omega, R3.out.1⟩, by simp only [intOf]; omega⟩
      · by_cases hk2 : K = 2
        · subst hk2
          clear k2
          go_wp2_with fail
          refine (take_pip HP.out.pl.pip Nn).mono ?_
          rintro e V3 ⟨bp, bc, rfl, hO3, _, hp3, ht3⟩
          have hrw := HP.out.rows ht3
          have hkn : takeN xs Nn ≤ xs.length := by unfold takeN; omega
          have hx512 := HP.out.pl.pip.1
          generalize takeN xs Nn = tn at *
          generalize takeHow xs wt Nn = th at *
          have H4 : Hid (Pl w V3 b (xs.drop tn) ((r + tn) % 4294967296) rd wt ∧ X ≤ V3.heap.size ∧ V3.ownsRow X 5 1 (.slice pp P.length pc) P.length (by8 P) ∧ V3.ownsRow X 5 1 (.slice tp T.length tc) T.length (by8 T) ∧ Byt V3 bp tn bc (xs.take tn)) := ⟨HP.out.pl.turn ht3 hp3, hrw.1, hrw.2.1, hrw.2.2, byt_own hO3⟩
          clear hO3 hp3 ht3 hrw k0 k3
          have hxl : Hid ((xs.take tn).length = tn) := by
            show (xs.take tn).length = tn
            rw [List.length_take]
            omega
          go_wp2_with (first | (at_builtin; refine wpList_app rfl (.tmp 72) (.tmp 73) rfl X (.slice tp T.length tc) T.length T rfl bp tn bc (xs.take tn) rfl H4.out.2.2.2.1 H4.out.2.2.2.2 ?c1 ?c2 ?_) | fail)
          case c1 => omega
          case c2 => exact H4.out.2.1
          intro tv' V5 hO5 hg5 hbk5
          obtain ⟨tp5, tc5, rfl⟩ := one_slice hO5
          have hod := od_take H4.out.1 hkn HP.out.hX H4.out.2.1 HP.out.wX H4.out.2.2.1 H4.out.2.2.2.1 HP.out.ap HP.out.eq HP.out.er hO5 hg5 hbk5
          have hl5 : (T ++ xs.take tn).length = T.length + tn := by rw [List.length_append, hxl.out]
          rw [← hl5] at hod ⊢
          clear hO5 hg5 hbk5 H4 HK HD hkn hx512
          obtain ⟨xs2, hxs2⟩ : ∃ x, x = xs.drop tn := ⟨_, rfl⟩
          obtain ⟨r2, hr2⟩ : ∃ x, x = ((r + tn) % 4294967296) := ⟨_, rfl⟩
          obtain ⟨rd2, hrd2⟩ : ∃ x, x = rd := ⟨_, rfl⟩
          obtain ⟨wt2, hwt2⟩ : ∃ x, x = wt := ⟨_, rfl⟩
          obtain ⟨P2, hP2⟩ : ∃ x, x = P := ⟨_, rfl⟩
          obtain ⟨T2, hT2⟩ : ∃ x, x = T ++ xs.take tn := ⟨_, rfl⟩
          have hod2 : Od w V5 X b xs2 r2 rd2 wt2 P2 T2 (.slice pp P2.length pc) (.slice tp5 T2.length tc5) := by rw [hxs2, hr2, hrd2, hwt2, hP2, hT2]; exact hod
          have hPL : P2.length ≤ 512 * (I + 1) := by rw [hP2]; omega
          rw [← hP2, ← hT2]
          have HQ : Hid (Od w V5 X b xs2 r2 rd2 wt2 P2 T2 (.slice pp P2.length pc) (.slice tp5 T2.length tc5)) := hod2
          clear hod2 hxs2 hr2 hrd2 hwt2 hP2 hT2
          have hlen : P2.length = T2.length + xs2.length := by rw [HQ.out.eq, List.length_append]
          have hx512 := HQ.out.pl.pip.1
          generalize hpl : P2.length = pl at *
          generalize htl : T2.length = tl at *
          have HLEN : Hid (pl = tl + xs2.length) := hlen
          have i2 : ¬ ((pl : Int) < tl) := by omega
          clear hlen
          go_wp2_with fail
          refine (state_pip HQ.out.pl.pip).mono ?_
          rintro e A1 ⟨sp, sc, rfl, hO1, hb1, _⟩
          obtain ⟨s, hs⟩ : ∃ s, s = (r2 + (xs2.length : Int)) % 4294967296 := ⟨_, rfl⟩
          have HSS : Hid (s = (r2 + (xs2.length : Int)) % 4294967296) := hs
          have es : stt sp xs2.length sc r2 rd2 wt2 = .agg #[.slice sp xs2.length sc, .int .u32 r2, .int .u32 s, .bool rd2, .bool wt2] := by rw [hs]; rfl
          rw [es]
          generalize hL : xs2.length = L at *
          have R1 : Hid (Od w A1 X b xs2 r2 rd2 wt2 P2 T2 (.slice pp pl pc) (.slice tp5 tl tc5) ∧ Byt A1 sp L sc xs2) := ⟨HQ.out.below hb1, byt_own hO1⟩
          clear es hs hO1 hb1
          go_upto_region 22 with fail
          have hsb := sb_new A1 sp L sc r2 s rd2 wt2
          have hb2 := Trn.new A1 (.cells #[.slice sp L sc, .int .u32 r2, .int .u32 s, .bool rd2, .bool wt2] 36)
          generalize A1.alloc (.cells #[.slice sp L sc, .int .u32 r2, .int .u32 s, .bool rd2, .bool wt2] 36) = A2 at *
          have R2 : Hid (Od w A2 X b xs2 r2 rd2 wt2 P2 T2 (.slice pp pl pc) (.slice tp5 tl tc5) ∧ Byt A2 sp L sc xs2 ∧ Sb A2 A1.heap.size sp L sc r2 s rd2 wt2) := ⟨R1.out.1.below hb2, byt_below R1.out.2 hb2, hsb⟩
          generalize A1.heap.size = sb at *
          clear hsb hb2 R1
          have kS : (A2.drew.cell? ⟨sb, 0, .none⟩ = some (.slice sp L sc) ∧ A2.drew.cell? ⟨sb, 1, .none⟩ = some (.int .u32 r2) ∧ A2.drew.cell? ⟨sb, 2, .none⟩ = some (.int .u32 s)) := ⟨R2.out.2.2.c0, R2.out.2.2.c1, R2.out.2.2.c2⟩
          have hopl : A2.ownsRow X 5 1 (.slice pp pl pc) pl (by8 P2) := by have := R2.out.1.op; rw [hpl] at this; exact this
          have Bp : Hid (Byt A2 pp pl pc P2) := byt_own hopl
          have hpc := Bp.out.2.1
          have hpm : pc ≤ 9223372036854775807 := Bp.out.2.2.1
          have Bx : Hid (Byt A2.drew (cutp pp pc tl) L (pc - tl) xs2) := by
            have h1 := byt_cut Bp.out tl pl (by have := HLEN.out; omega) (Nat.le_refl _)
            rw [List.take_of_length_le (by have := HLEN.out; omega), show pl - tl = L by have := HLEN.out; omega] at h1
            have h2 : P2.drop tl = xs2 := by rw [HQ.out.eq, ← htl, List.drop_left]
            rw [h2] at h1
            exact h1
          have ca2 := cutat pp pl pc
          have cf2 : ∀ W, (Instr.slice 22 (.slice pp pl pc) (some (.int .i64 tl)) none none).run Try.prog W = .ok (.slice (cutp pp pc tl) L (pc - tl)) W := fun W => by
            have := cut_from pp pl pc tl (by have := HLEN.out; omega) W
            rw [show pl - tl = L by have := HLEN.out; omega] at this
            exact this
          have er2 := R2.out.1.er
          rw [htl] at er2
          have ew1 : IntKind.u32.wrap (pl : Int) = s := by have := HSS.out; simp only [IntKind.wrap, IntKind.bits, IntKind.signed]; simp; have := HLEN.out; omega
          have ew2 : IntKind.u32.wrap (tl : Int) = r2 := by simp only [IntKind.wrap, IntKind.bits, IntKind.signed]; simp; have := HLEN.out; omega
          clear er2 hopl
          have i3 : ¬ ((512 : Int) < L) := by omega
          refine wp_region_held_drew (S := fun U => (U.cell? ⟨sb, 0, .none⟩ = some (.slice sp L sc) ∧ U.cell? ⟨sb, 1, .none⟩ = some (.int .u32 r2) ∧ U.cell? ⟨sb, 2, .none⟩ = some (.int .u32 s))) (by kernel_rfl) kS (fun hHeld => ?_)
          refine wpAnyH_take (i := 0) (v := (.pointer (some ⟨sb, 0, .none⟩))) rfl (by kernel_rfl) (by kernel_rfl) (by kernel_rfl) (fun _ _ _ h => h) (Or.inl ⟨by rfl, fun ww hSw => by (try dsimp only at hSw); go_simp⟩) (by assumption) ?_
          simp only [Act.put, List.setIfInBounds_toArray, List.set_cons_zero, List.set_cons_succ, List.getElem_toArray, List.getElem_cons_succ, List.getElem_cons_zero]
          refine wpAnyH_take (i := 1) (v := (.slice sp L sc)) rfl (by kernel_rfl) (by kernel_rfl) (by kernel_rfl) (fun _ _ _ h => h) (Or.inl ⟨by rfl, fun ww hSw => by (try dsimp only at hSw); go_simp⟩) (by assumption) ?_
          simp only [Act.put, List.setIfInBounds_toArray, List.set_cons_zero, List.set_cons_succ, List.getElem_toArray, List.getElem_cons_succ, List.getElem_cons_zero]
          refine wpAnyH_take (i := 2) (v := (.int .i64 L)) rfl (by kernel_rfl) (by kernel_rfl) (by kernel_rfl) (fun _ _ _ h => h) (Or.inl ⟨by rfl, fun ww hSw => by (try dsimp only at hSw); go_simp⟩) (by assumption) ?_
          simp only [Act.put, List.setIfInBounds_toArray, List.set_cons_zero, List.set_cons_succ, List.getElem_toArray, List.getElem_cons_succ, List.getElem_cons_zero]
          refine wpAnyH_take (i := 3) (v := (.bool false)) rfl (by kernel_rfl) (by kernel_rfl) (by kernel_rfl) (fun _ _ _ h => h) (Or.inl ⟨by rfl, fun ww hSw => by (try dsimp only at hSw); go_simp⟩) (by assumption) ?_
          simp only [Act.put, List.setIfInBounds_toArray, List.set_cons_zero, List.set_cons_succ, List.getElem_toArray, List.getElem_cons_succ, List.getElem_cons_zero]
          refine wpAnyH_take (i := 4) (v := (.bool false)) rfl (by kernel_rfl) (by kernel_rfl) (by kernel_rfl) (fun _ _ _ h => h) (Or.inl ⟨by rfl, fun ww hSw => by (try dsimp only at hSw); go_simp⟩) (by assumption) ?_
          simp only [Act.put, List.setIfInBounds_toArray, List.set_cons_zero, List.set_cons_succ, List.getElem_toArray, List.getElem_cons_succ, List.getElem_cons_zero]
          refine wpAnyH_take (i := 5) (v := (.pointer (some ⟨sb, 0, .none⟩))) rfl (by kernel_rfl) (by kernel_rfl) (by kernel_rfl) (fun _ _ _ h => h) (Or.inl ⟨by rfl, fun ww hSw => by (try dsimp only at hSw); go_simp⟩) (by assumption) ?_
          simp only [Act.put, List.setIfInBounds_toArray, List.set_cons_zero, List.set_cons_succ, List.getElem_toArray, List.getElem_cons_succ, List.getElem_cons_zero]
          refine wpAnyH_take (i := 6) (v := (.slice sp L sc)) rfl (by kernel_rfl) (by kernel_rfl) (by kernel_rfl) (fun _ _ _ h => h) (Or.inl ⟨by rfl, fun ww hSw => by (try dsimp only at hSw); go_simp⟩) (by assumption) ?_
          simp only [Act.put, List.setIfInBounds_toArray, List.set_cons_zero, List.set_cons_succ, List.getElem_toArray, List.getElem_cons_succ, List.getElem_cons_zero]
          refine wpAnyH_take (i := 7) (v := (.slice pp pl pc)) rfl (by kernel_rfl) (by kernel_rfl) (by kernel_rfl) (fun _ _ _ h => h) (Or.inl ⟨by rfl, fun ww hSw => by (try dsimp only at hSw); go_simp⟩) (by assumption) ?_
          simp only [Act.put, List.setIfInBounds_toArray, List.set_cons_zero, List.set_cons_succ, List.getElem_toArray, List.getElem_cons_succ, List.getElem_cons_zero]
          refine wpAnyH_take (i := 8) (v := (.slice tp5 tl tc5)) rfl (by kernel_rfl) (by kernel_rfl) (by kernel_rfl) (fun _ _ _ h => h) (Or.inl ⟨by rfl, fun ww hSw => by (try dsimp only at hSw); go_simp⟩) (by assumption) ?_
          simp only [Act.put, List.setIfInBounds_toArray, List.set_cons_zero, List.set_cons_succ, List.getElem_toArray, List.getElem_cons_succ, List.getElem_cons_zero]
          refine wpAnyH_take (i := 9) (v := (.int .i64 tl)) rfl (by kernel_rfl) (by kernel_rfl) (by kernel_rfl) (fun _ _ _ h => h) (Or.inl ⟨by rfl, fun ww hSw => by (try dsimp only at hSw); go_simp⟩) (by assumption) ?_
          simp only [Act.put, List.setIfInBounds_toArray, List.set_cons_zero, List.set_cons_succ, List.getElem_toArray, List.getElem_cons_succ, List.getElem_cons_zero]
          refine wpAnyH_take (i := 10) (v := (.slice (cutp pp pc tl) L (pc - tl))) rfl (by kernel_rfl) (by kernel_rfl) (by kernel_rfl) (fun _ _ _ h => h) (Or.inl ⟨by rfl, fun ww hSw => by (try dsimp only at hSw); go_simp⟩) (by assumption) ?_
          simp only [Act.put, List.setIfInBounds_toArray, List.set_cons_zero, List.set_cons_succ, List.getElem_toArray, List.getElem_cons_succ, List.getElem_cons_zero]
          refine wpAnyH_ready (rs := [11]) (by kernel_rfl) (by simp) ?_
          refine AllReadyH.cons rfl (fun K hK => ?_) AllReadyH.nil
          go_simp
          have c17 := bytes_any sp (cutp pp pc tl) L sc (pc - tl) xs2 A2.drew (by have := HLEN.out; omega) R2.out.2.1 Bx.out
          refine c17.mono ?_
          rintro e A3 ⟨rfl, kk, hkk⟩
          have hb3 : Below A2.heap.size A2 A3 := by subst hkk; exact ⟨rfl, rfl, rfl, Nat.le_refl _, fun _ _ => rfl⟩
          have R3 : Hid (Od w A3 X b xs2 r2 rd2 wt2 P2 T2 (.slice pp pl pc) (.slice tp5 tl tc5) ∧ Sb A3 sb sp L sc r2 s rd2 wt2) := ⟨R2.out.1.below hb3, R2.out.2.2.below hb3⟩
          have kS3 : (A3.cell? ⟨sb, 0, .none⟩ = some (.slice sp L sc) ∧ A3.cell? ⟨sb, 1, .none⟩ = some (.int .u32 r2) ∧ A3.cell? ⟨sb, 2, .none⟩ = some (.int .u32 s)) := ⟨R3.out.2.c0, R3.out.2.c1, R3.out.2.c2⟩
          clear hkk hb3 c17
          refine hK.out _ _ kS3 (fun hHeld => ?_)
          clear hK K
          try simp only [Act.put, List.setIfInBounds_toArray, List.set_cons_zero, List.set_cons_succ, List.getElem_toArray, List.getElem_cons_succ, List.getElem_cons_zero]
          refine wpAnyH_take (i := 12) (v := (.bool false)) rfl (by kernel_rfl) (by kernel_rfl) (by kernel_rfl) (fun _ _ _ h => h) (Or.inl ⟨by rfl, fun ww hSw => by (try dsimp only at hSw); go_simp⟩) (by assumption) ?_
          simp only [Act.put, List.setIfInBounds_toArray, List.set_cons_zero, List.set_cons_succ, List.getElem_toArray, List.getElem_cons_succ, List.getElem_cons_zero]
          refine wpAnyH_take (i := 13) (v := (.bool false)) rfl (by kernel_rfl) (by kernel_rfl) (by kernel_rfl) (fun _ _ _ h => h) (Or.inl ⟨by rfl, fun ww hSw => by (try dsimp only at hSw); go_simp⟩) (by assumption) ?_
          simp only [Act.put, List.setIfInBounds_toArray, List.set_cons_zero, List.set_cons_succ, List.getElem_toArray, List.getElem_cons_succ, List.getElem_cons_zero]
          refine wpAnyH_take (i := 14) (v := (.bool false)) rfl (by kernel_rfl) (by kernel_rfl) (by kernel_rfl) (fun _ _ _ h => h) (Or.inl ⟨by rfl, fun ww hSw => by (try dsimp only at hSw); go_simp⟩) (by assumption) ?_
          simp only [Act.put, List.setIfInBounds_toArray, List.set_cons_zero, List.set_cons_succ, List.getElem_toArray, List.getElem_cons_succ, List.getElem_cons_zero]
          refine wpAnyH_take (i := 15) (v := (.pointer (some ⟨sb, 2, .none⟩))) rfl (by kernel_rfl) (by kernel_rfl) (by kernel_rfl) (fun _ _ _ h => h) (Or.inl ⟨by rfl, fun ww hSw => by (try dsimp only at hSw); go_simp⟩) (by assumption) ?_
          simp only [Act.put, List.setIfInBounds_toArray, List.set_cons_zero, List.set_cons_succ, List.getElem_toArray, List.getElem_cons_succ, List.getElem_cons_zero]
          refine wpAnyH_take (i := 16) (v := (.int .u32 s)) rfl (by kernel_rfl) (by kernel_rfl) (by kernel_rfl) (fun _ _ _ h => h) (Or.inl ⟨by rfl, fun ww hSw => by (try dsimp only at hSw); go_simp⟩) (by assumption) ?_
          simp only [Act.put, List.setIfInBounds_toArray, List.set_cons_zero, List.set_cons_succ, List.getElem_toArray, List.getElem_cons_succ, List.getElem_cons_zero]
          refine wpAnyH_take (i := 17) (v := (.slice pp pl pc)) rfl (by kernel_rfl) (by kernel_rfl) (by kernel_rfl) (fun _ _ _ h => h) (Or.inl ⟨by rfl, fun ww hSw => by (try dsimp only at hSw); go_simp⟩) (by assumption) ?_
          simp only [Act.put, List.setIfInBounds_toArray, List.set_cons_zero, List.set_cons_succ, List.getElem_toArray, List.getElem_cons_succ, List.getElem_cons_zero]
          refine wpAnyH_take (i := 18) (v := (.int .i64 pl)) rfl (by kernel_rfl) (by kernel_rfl) (by kernel_rfl) (fun _ _ _ h => h) (Or.inl ⟨by rfl, fun ww hSw => by (try dsimp only at hSw); go_simp⟩) (by assumption) ?_
          simp only [Act.put, List.setIfInBounds_toArray, List.set_cons_zero, List.set_cons_succ, List.getElem_toArray, List.getElem_cons_succ, List.getElem_cons_zero]
          refine wpAnyH_take (i := 19) (v := (.int .u32 s)) rfl (by kernel_rfl) (by kernel_rfl) (by kernel_rfl) (fun _ _ _ h => h) (Or.inl ⟨by rfl, fun ww hSw => by (try dsimp only at hSw); go_simp⟩) (by assumption) ?_
          simp only [Act.put, List.setIfInBounds_toArray, List.set_cons_zero, List.set_cons_succ, List.getElem_toArray, List.getElem_cons_succ, List.getElem_cons_zero]
          refine wpAnyH_take (i := 20) (v := (.bool false)) rfl (by kernel_rfl) (by kernel_rfl) (by kernel_rfl) (fun _ _ _ h => h) (Or.inl ⟨by rfl, fun ww hSw => by (try dsimp only at hSw); go_simp⟩) (by assumption) ?_
          simp only [Act.put, List.setIfInBounds_toArray, List.set_cons_zero, List.set_cons_succ, List.getElem_toArray, List.getElem_cons_succ, List.getElem_cons_zero]
          refine wpAnyH_take (i := 21) (v := (.bool false)) rfl (by kernel_rfl) (by kernel_rfl) (by kernel_rfl) (fun _ _ _ h => h) (Or.inl ⟨by rfl, fun ww hSw => by (try dsimp only at hSw); go_simp⟩) (by assumption) ?_
          simp only [Act.put, List.setIfInBounds_toArray, List.set_cons_zero, List.set_cons_succ, List.getElem_toArray, List.getElem_cons_succ, List.getElem_cons_zero]
          refine wpAnyH_take (i := 22) (v := (.bool false)) rfl (by kernel_rfl) (by kernel_rfl) (by kernel_rfl) (fun _ _ _ h => h) (Or.inl ⟨by rfl, fun ww hSw => by (try dsimp only at hSw); go_simp⟩) (by assumption) ?_
          simp only [Act.put, List.setIfInBounds_toArray, List.set_cons_zero, List.set_cons_succ, List.getElem_toArray, List.getElem_cons_succ, List.getElem_cons_zero]
          refine wpAnyH_take (i := 23) (v := (.pointer (some ⟨sb, 1, .none⟩))) rfl (by kernel_rfl) (by kernel_rfl) (by kernel_rfl) (fun _ _ _ h => h) (Or.inl ⟨by rfl, fun ww hSw => by (try dsimp only at hSw); go_simp⟩) (by assumption) ?_
          simp only [Act.put, List.setIfInBounds_toArray, List.set_cons_zero, List.set_cons_succ, List.getElem_toArray, List.getElem_cons_succ, List.getElem_cons_zero]
          refine wpAnyH_take (i := 24) (v := (.int .u32 r2)) rfl (by kernel_rfl) (by kernel_rfl) (by kernel_rfl) (fun _ _ _ h => h) (Or.inl ⟨by rfl, fun ww hSw => by (try dsimp only at hSw); go_simp⟩) (by assumption) ?_
          simp only [Act.put, List.setIfInBounds_toArray, List.set_cons_zero, List.set_cons_succ, List.getElem_toArray, List.getElem_cons_succ, List.getElem_cons_zero]
          refine wpAnyH_take (i := 25) (v := (.slice tp5 tl tc5)) rfl (by kernel_rfl) (by kernel_rfl) (by kernel_rfl) (fun _ _ _ h => h) (Or.inl ⟨by rfl, fun ww hSw => by (try dsimp only at hSw); go_simp⟩) (by assumption) ?_
          simp only [Act.put, List.setIfInBounds_toArray, List.set_cons_zero, List.set_cons_succ, List.getElem_toArray, List.getElem_cons_succ, List.getElem_cons_zero]
          refine wpAnyH_take (i := 26) (v := (.int .i64 tl)) rfl (by kernel_rfl) (by kernel_rfl) (by kernel_rfl) (fun _ _ _ h => h) (Or.inl ⟨by rfl, fun ww hSw => by (try dsimp only at hSw); go_simp⟩) (by assumption) ?_
          simp only [Act.put, List.setIfInBounds_toArray, List.set_cons_zero, List.set_cons_succ, List.getElem_toArray, List.getElem_cons_succ, List.getElem_cons_zero]
          refine wpAnyH_take (i := 27) (v := (.int .u32 r2)) rfl (by kernel_rfl) (by kernel_rfl) (by kernel_rfl) (fun _ _ _ h => h) (Or.inl ⟨by rfl, fun ww hSw => by (try dsimp only at hSw); go_simp⟩) (by assumption) ?_
          simp only [Act.put, List.setIfInBounds_toArray, List.set_cons_zero, List.set_cons_succ, List.getElem_toArray, List.getElem_cons_succ, List.getElem_cons_zero]
          refine wpAnyH_take (i := 28) (v := (.bool false)) rfl (by kernel_rfl) (by kernel_rfl) (by kernel_rfl) (fun _ _ _ h => h) (Or.inl ⟨by rfl, fun ww hSw => by (try dsimp only at hSw); go_simp⟩) (by assumption) ?_
          simp only [Act.put, List.setIfInBounds_toArray, List.set_cons_zero, List.set_cons_succ, List.getElem_toArray, List.getElem_cons_succ, List.getElem_cons_zero]
          refine wpAnyH_take (i := 29) (v := (.bool false)) rfl (by kernel_rfl) (by kernel_rfl) (by kernel_rfl) (fun _ _ _ h => h) (Or.inl ⟨by rfl, fun ww hSw => by (try dsimp only at hSw); go_simp⟩) (by assumption) ?_
          simp only [Act.put, List.setIfInBounds_toArray, List.set_cons_zero, List.set_cons_succ, List.getElem_toArray, List.getElem_cons_succ, List.getElem_cons_zero]
          refine wpAnyH_done (by kernel_rfl) ?_ _
          clear hHeld kS kS3 ca2 cf2 Bx Bp R2
          go_wp2
          exact ⟨⟨I + 1, by omega, rfl, xs2, r2, rd2, wt2, P2, T2, by omega, R3.out.1⟩, by simp only [intOf]; omega⟩
        · by_cases hk3 : K = 3
          · subst hk3
            go_wp2_with fail
            refine (shut_pip HP.out.pl.pip (Nn == 1)).mono ?_
            rintro e V3 ⟨⟨u, rfl⟩, hp3, ht3⟩
            have hod := HP.out.shut ht3 hp3
            clear hp3 ht3 k0 k2 k3 HK HD
            obtain ⟨xs2, hxs2⟩ : ∃ x, x = xs := ⟨_, rfl⟩
            obtain ⟨r2, hr2⟩ : ∃ x, x = r := ⟨_, rfl⟩
            obtain ⟨rd2, hrd2⟩ : ∃ x, x = (if (Nn == 1) = true then false else rd) := ⟨_, rfl⟩
            obtain ⟨wt2, hwt2⟩ : ∃ x, x = (if (Nn == 1) = true then wt else false) := ⟨_, rfl⟩
            obtain ⟨P2, hP2⟩ : ∃ x, x = P := ⟨_, rfl⟩
            obtain ⟨T2, hT2⟩ : ∃ x, x = T := ⟨_, rfl⟩
            have hod2 : Od w V3 X b xs2 r2 rd2 wt2 P2 T2 (.slice pp P2.length pc) (.slice tp T2.length tc) := by rw [hxs2, hr2, hrd2, hwt2, hP2, hT2]; exact hod
            have hPL : P2.length ≤ 512 * (I + 1) := by rw [hP2]; omega
            rw [← hP2, ← hT2]
            have HQ : Hid (Od w V3 X b xs2 r2 rd2 wt2 P2 T2 (.slice pp P2.length pc) (.slice tp T2.length tc)) := hod2
            clear hod2 hxs2 hr2 hrd2 hwt2 hP2 hT2
            have hlen : P2.length = T2.length + xs2.length := by rw [HQ.out.eq, List.length_append]
            have hx512 := HQ.out.pl.pip.1
            generalize hpl : P2.length = pl at *
            generalize htl : T2.length = tl at *
            have HLEN : Hid (pl = tl + xs2.length) := hlen
            have i2 : ¬ ((pl : Int) < tl) := by omega
            clear hlen
            go_wp2_with fail
            refine (state_pip HQ.out.pl.pip).mono ?_
            rintro e A1 ⟨sp, sc, rfl, hO1, hb1, _⟩
            obtain ⟨s, hs⟩ : ∃ s, s = (r2 + (xs2.length : Int)) % 4294967296 := ⟨_, rfl⟩
            have HSS : Hid (s = (r2 + (xs2.length : Int)) % 4294967296) := hs
            have es : stt sp xs2.length sc r2 rd2 wt2 = .agg #[.slice sp xs2.length sc, .int .u32 r2, .int .u32 s, .bool rd2, .bool wt2] := by rw [hs]; rfl
            rw [es]
            generalize hL : xs2.length = L at *
            have R1 : Hid (Od w A1 X b xs2 r2 rd2 wt2 P2 T2 (.slice pp pl pc) (.slice tp tl tc) ∧ Byt A1 sp L sc xs2) := ⟨HQ.out.below hb1, byt_own hO1⟩
            clear es hs hO1 hb1
            go_upto_region 22 with fail
            have hsb := sb_new A1 sp L sc r2 s rd2 wt2
            have hb2 := Trn.new A1 (.cells #[.slice sp L sc, .int .u32 r2, .int .u32 s, .bool rd2, .bool wt2] 36)
            generalize A1.alloc (.cells #[.slice sp L sc, .int .u32 r2, .int .u32 s, .bool rd2, .bool wt2] 36) = A2 at *
            have R2 : Hid (Od w A2 X b xs2 r2 rd2 wt2 P2 T2 (.slice pp pl pc) (.slice tp tl tc) ∧ Byt A2 sp L sc xs2 ∧ Sb A2 A1.heap.size sp L sc r2 s rd2 wt2) := ⟨R1.out.1.below hb2, byt_below R1.out.2 hb2, hsb⟩
            generalize A1.heap.size = sb at *
            clear hsb hb2 R1
            have kS : (A2.drew.cell? ⟨sb, 0, .none⟩ = some (.slice sp L sc) ∧ A2.drew.cell? ⟨sb, 1, .none⟩ = some (.int .u32 r2) ∧ A2.drew.cell? ⟨sb, 2, .none⟩ = some (.int .u32 s)) := ⟨R2.out.2.2.c0, R2.out.2.2.c1, R2.out.2.2.c2⟩
            have hopl : A2.ownsRow X 5 1 (.slice pp pl pc) pl (by8 P2) := by have := R2.out.1.op; rw [hpl] at this; exact this
            have Bp : Hid (Byt A2 pp pl pc P2) := byt_own hopl
            have hpc := Bp.out.2.1
            have hpm : pc ≤ 9223372036854775807 := Bp.out.2.2.1
            have Bx : Hid (Byt A2.drew (cutp pp pc tl) L (pc - tl) xs2) := by
              have h1 := byt_cut Bp.out tl pl (by have := HLEN.out; omega) (Nat.le_refl _)
              rw [List.take_of_length_le (by have := HLEN.out; omega), show pl - tl = L by have := HLEN.out; omega] at h1
              have h2 : P2.drop tl = xs2 := by rw [HQ.out.eq, ← htl, List.drop_left]
              rw [h2] at h1
              exact h1
            have ca2 := cutat pp pl pc
            have cf2 : ∀ W, (Instr.slice 22 (.slice pp pl pc) (some (.int .i64 tl)) none none).run Try.prog W = .ok (.slice (cutp pp pc tl) L (pc - tl)) W := fun W => by
              have := cut_from pp pl pc tl (by have := HLEN.out; omega) W
              rw [show pl - tl = L by have := HLEN.out; omega] at this
              exact this
            have er2 := R2.out.1.er
            rw [htl] at er2
            have ew1 : IntKind.u32.wrap (pl : Int) = s := by have := HSS.out; simp only [IntKind.wrap, IntKind.bits, IntKind.signed]; simp; have := HLEN.out; omega
            have ew2 : IntKind.u32.wrap (tl : Int) = r2 := by simp only [IntKind.wrap, IntKind.bits, IntKind.signed]; simp; have := HLEN.out; omega
            clear er2 hopl
            have i3 : ¬ ((512 : Int) < L) := by omega
            refine wp_region_held_drew (S := fun U => (U.cell? ⟨sb, 0, .none⟩ = some (.slice sp L sc) ∧ U.cell? ⟨sb, 1, .none⟩ = some (.int .u32 r2) ∧ U.cell? ⟨sb, 2, .none⟩ = some (.int .u32 s))) (by kernel_rfl) kS (fun hHeld => ?_)
            refine wpAnyH_take (i := 0) (v := (.pointer (some ⟨sb, 0, .none⟩))) rfl (by kernel_rfl) (by kernel_rfl) (by kernel_rfl) (fun _ _ _ h => h) (Or.inl ⟨by rfl, fun ww hSw => by (try dsimp only at hSw); go_simp⟩) (by assumption) ?_
            simp only [Act.put, List.setIfInBounds_toArray, List.set_cons_zero, List.set_cons_succ, List.getElem_toArray, List.getElem_cons_succ, List.getElem_cons_zero]
            refine wpAnyH_take (i := 1) (v := (.slice sp L sc)) rfl (by kernel_rfl) (by kernel_rfl) (by kernel_rfl) (fun _ _ _ h => h) (Or.inl ⟨by rfl, fun ww hSw => by (try dsimp only at hSw); go_simp⟩) (by assumption) ?_
            simp only [Act.put, List.setIfInBounds_toArray, List.set_cons_zero, List.set_cons_succ, List.getElem_toArray, List.getElem_cons_succ, List.getElem_cons_zero]
            refine wpAnyH_take (i := 2) (v := (.int .i64 L)) rfl (by kernel_rfl) (by kernel_rfl) (by kernel_rfl) (fun _ _ _ h => h) (Or.inl ⟨by rfl, fun ww hSw => by (try dsimp only at hSw); go_simp⟩) (by assumption) ?_
            simp only [Act.put, List.setIfInBounds_toArray, List.set_cons_zero, List.set_cons_succ, List.getElem_toArray, List.getElem_cons_succ, List.getElem_cons_zero]
            refine wpAnyH_take (i := 3) (v := (.bool false)) rfl (by kernel_rfl) (by kernel_rfl) (by kernel_rfl) (fun _ _ _ h => h) (Or.inl ⟨by rfl, fun ww hSw => by (try dsimp only at hSw); go_simp⟩) (by assumption) ?_
            simp only [Act.put, List.setIfInBounds_toArray, List.set_cons_zero, List.set_cons_succ, List.getElem_toArray, List.getElem_cons_succ, List.getElem_cons_zero]
            refine wpAnyH_take (i := 4) (v := (.bool false)) rfl (by kernel_rfl) (by kernel_rfl) (by kernel_rfl) (fun _ _ _ h => h) (Or.inl ⟨by rfl, fun ww hSw => by (try dsimp only at hSw); go_simp⟩) (by assumption) ?_
            simp only [Act.put, List.setIfInBounds_toArray, List.set_cons_zero, List.set_cons_succ, List.getElem_toArray, List.getElem_cons_succ, List.getElem_cons_zero]
            refine wpAnyH_take (i := 5) (v := (.pointer (some ⟨sb, 0, .none⟩))) rfl (by kernel_rfl) (by kernel_rfl) (by kernel_rfl) (fun _ _ _ h => h) (Or.inl ⟨by rfl, fun ww hSw => by (try dsimp only at hSw); go_simp⟩) (by assumption) ?_
            simp only [Act.put, List.setIfInBounds_toArray, List.set_cons_zero, List.set_cons_succ, List.getElem_toArray, List.getElem_cons_succ, List.getElem_cons_zero]
            refine wpAnyH_take (i := 6) (v := (.slice sp L sc)) rfl (by kernel_rfl) (by kernel_rfl) (by kernel_rfl) (fun _ _ _ h => h) (Or.inl ⟨by rfl, fun ww hSw => by (try dsimp only at hSw); go_simp⟩) (by assumption) ?_
            simp only [Act.put, List.setIfInBounds_toArray, List.set_cons_zero, List.set_cons_succ, List.getElem_toArray, List.getElem_cons_succ, List.getElem_cons_zero]
            refine wpAnyH_take (i := 7) (v := (.slice pp pl pc)) rfl (by kernel_rfl) (by kernel_rfl) (by kernel_rfl) (fun _ _ _ h => h) (Or.inl ⟨by rfl, fun ww hSw => by (try dsimp only at hSw); go_simp⟩) (by assumption) ?_
            simp only [Act.put, List.setIfInBounds_toArray, List.set_cons_zero, List.set_cons_succ, List.getElem_toArray, List.getElem_cons_succ, List.getElem_cons_zero]
            refine wpAnyH_take (i := 8) (v := (.slice tp tl tc)) rfl (by kernel_rfl) (by kernel_rfl) (by kernel_rfl) (fun _ _ _ h => h) (Or.inl ⟨by rfl, fun ww hSw => by (try dsimp only at hSw); go_simp⟩) (by assumption) ?_
            simp only [Act.put, List.setIfInBounds_toArray, List.set_cons_zero, List.set_cons_succ, List.getElem_toArray, List.getElem_cons_succ, List.getElem_cons_zero]
            refine wpAnyH_take (i := 9) (v := (.int .i64 tl)) rfl (by kernel_rfl) (by kernel_rfl) (by kernel_rfl) (fun _ _ _ h => h) (Or.inl ⟨by rfl, fun ww hSw => by (try dsimp only at hSw); go_simp⟩) (by assumption) ?_
            simp only [Act.put, List.setIfInBounds_toArray, List.set_cons_zero, List.set_cons_succ, List.getElem_toArray, List.getElem_cons_succ, List.getElem_cons_zero]
            refine wpAnyH_take (i := 10) (v := (.slice (cutp pp pc tl) L (pc - tl))) rfl (by kernel_rfl) (by kernel_rfl) (by kernel_rfl) (fun _ _ _ h => h) (Or.inl ⟨by rfl, fun ww hSw => by (try dsimp only at hSw); go_simp⟩) (by assumption) ?_
            simp only [Act.put, List.setIfInBounds_toArray, List.set_cons_zero, List.set_cons_succ, List.getElem_toArray, List.getElem_cons_succ, List.getElem_cons_zero]
            refine wpAnyH_ready (rs := [11]) (by kernel_rfl) (by simp) ?_
            refine AllReadyH.cons rfl (fun K hK => ?_) AllReadyH.nil
            go_simp
            have c17 := bytes_any sp (cutp pp pc tl) L sc (pc - tl) xs2 A2.drew (by have := HLEN.out; omega) R2.out.2.1 Bx.out
            refine c17.mono ?_
            rintro e A3 ⟨rfl, kk, hkk⟩
            have hb3 : Below A2.heap.size A2 A3 := by subst hkk; exact ⟨rfl, rfl, rfl, Nat.le_refl _, fun _ _ => rfl⟩
            have R3 : Hid (Od w A3 X b xs2 r2 rd2 wt2 P2 T2 (.slice pp pl pc) (.slice tp tl tc) ∧ Sb A3 sb sp L sc r2 s rd2 wt2) := ⟨R2.out.1.below hb3, R2.out.2.2.below hb3⟩
            have kS3 : (A3.cell? ⟨sb, 0, .none⟩ = some (.slice sp L sc) ∧ A3.cell? ⟨sb, 1, .none⟩ = some (.int .u32 r2) ∧ A3.cell? ⟨sb, 2, .none⟩ = some (.int .u32 s)) := ⟨R3.out.2.c0, R3.out.2.c1, R3.out.2.c2⟩
            clear hkk hb3 c17
            refine hK.out _ _ kS3 (fun hHeld => ?_)
            clear hK K
            try simp only [Act.put, List.setIfInBounds_toArray, List.set_cons_zero, List.set_cons_succ, List.getElem_toArray, List.getElem_cons_succ, List.getElem_cons_zero]
            refine wpAnyH_take (i := 12) (v := (.bool false)) rfl (by kernel_rfl) (by kernel_rfl) (by kernel_rfl) (fun _ _ _ h => h) (Or.inl ⟨by rfl, fun ww hSw => by (try dsimp only at hSw); go_simp⟩) (by assumption) ?_
            simp only [Act.put, List.setIfInBounds_toArray, List.set_cons_zero, List.set_cons_succ, List.getElem_toArray, List.getElem_cons_succ, List.getElem_cons_zero]
            refine wpAnyH_take (i := 13) (v := (.bool false)) rfl (by kernel_rfl) (by kernel_rfl) (by kernel_rfl) (fun _ _ _ h => h) (Or.inl ⟨by rfl, fun ww hSw => by (try dsimp only at hSw); go_simp⟩) (by assumption) ?_
            simp only [Act.put, List.setIfInBounds_toArray, List.set_cons_zero, List.set_cons_succ, List.getElem_toArray, List.getElem_cons_succ, List.getElem_cons_zero]
            refine wpAnyH_take (i := 14) (v := (.bool false)) rfl (by kernel_rfl) (by kernel_rfl) (by kernel_rfl) (fun _ _ _ h => h) (Or.inl ⟨by rfl, fun ww hSw => by (try dsimp only at hSw); go_simp⟩) (by assumption) ?_
            simp only [Act.put, List.setIfInBounds_toArray, List.set_cons_zero, List.set_cons_succ, List.getElem_toArray, List.getElem_cons_succ, List.getElem_cons_zero]
            refine wpAnyH_take (i := 15) (v := (.pointer (some ⟨sb, 2, .none⟩))) rfl (by kernel_rfl) (by kernel_rfl) (by kernel_rfl) (fun _ _ _ h => h) (Or.inl ⟨by rfl, fun ww hSw => by (try dsimp only at hSw); go_simp⟩) (by assumption) ?_
            simp only [Act.put, List.setIfInBounds_toArray, List.set_cons_zero, List.set_cons_succ, List.getElem_toArray, List.getElem_cons_succ, List.getElem_cons_zero]
            refine wpAnyH_take (i := 16) (v := (.int .u32 s)) rfl (by kernel_rfl) (by kernel_rfl) (by kernel_rfl) (fun _ _ _ h => h) (Or.inl ⟨by rfl, fun ww hSw => by (try dsimp only at hSw); go_simp⟩) (by assumption) ?_
            simp only [Act.put, List.setIfInBounds_toArray, List.set_cons_zero, List.set_cons_succ, List.getElem_toArray, List.getElem_cons_succ, List.getElem_cons_zero]
            refine wpAnyH_take (i := 17) (v := (.slice pp pl pc)) rfl (by kernel_rfl) (by kernel_rfl) (by kernel_rfl) (fun _ _ _ h => h) (Or.inl ⟨by rfl, fun ww hSw => by (try dsimp only at hSw); go_simp⟩) (by assumption) ?_
            simp only [Act.put, List.setIfInBounds_toArray, List.set_cons_zero, List.set_cons_succ, List.getElem_toArray, List.getElem_cons_succ, List.getElem_cons_zero]
            refine wpAnyH_take (i := 18) (v := (.int .i64 pl)) rfl (by kernel_rfl) (by kernel_rfl) (by kernel_rfl) (fun _ _ _ h => h) (Or.inl ⟨by rfl, fun ww hSw => by (try dsimp only at hSw); go_simp⟩) (by assumption) ?_
            simp only [Act.put, List.setIfInBounds_toArray, List.set_cons_zero, List.set_cons_succ, List.getElem_toArray, List.getElem_cons_succ, List.getElem_cons_zero]
            refine wpAnyH_take (i := 19) (v := (.int .u32 s)) rfl (by kernel_rfl) (by kernel_rfl) (by kernel_rfl) (fun _ _ _ h => h) (Or.inl ⟨by rfl, fun ww hSw => by (try dsimp only at hSw); go_simp⟩) (by assumption) ?_
            simp only [Act.put, List.setIfInBounds_toArray, List.set_cons_zero, List.set_cons_succ, List.getElem_toArray, List.getElem_cons_succ, List.getElem_cons_zero]
            refine wpAnyH_take (i := 20) (v := (.bool false)) rfl (by kernel_rfl) (by kernel_rfl) (by kernel_rfl) (fun _ _ _ h => h) (Or.inl ⟨by rfl, fun ww hSw => by (try dsimp only at hSw); go_simp⟩) (by assumption) ?_
            simp only [Act.put, List.setIfInBounds_toArray, List.set_cons_zero, List.set_cons_succ, List.getElem_toArray, List.getElem_cons_succ, List.getElem_cons_zero]
            refine wpAnyH_take (i := 21) (v := (.bool false)) rfl (by kernel_rfl) (by kernel_rfl) (by kernel_rfl) (fun _ _ _ h => h) (Or.inl ⟨by rfl, fun ww hSw => by (try dsimp only at hSw); go_simp⟩) (by assumption) ?_
            simp only [Act.put, List.setIfInBounds_toArray, List.set_cons_zero, List.set_cons_succ, List.getElem_toArray, List.getElem_cons_succ, List.getElem_cons_zero]
            refine wpAnyH_take (i := 22) (v := (.bool false)) rfl (by kernel_rfl) (by kernel_rfl) (by kernel_rfl) (fun _ _ _ h => h) (Or.inl ⟨by rfl, fun ww hSw => by (try dsimp only at hSw); go_simp⟩) (by assumption) ?_
            simp only [Act.put, List.setIfInBounds_toArray, List.set_cons_zero, List.set_cons_succ, List.getElem_toArray, List.getElem_cons_succ, List.getElem_cons_zero]
            refine wpAnyH_take (i := 23) (v := (.pointer (some ⟨sb, 1, .none⟩))) rfl (by kernel_rfl) (by kernel_rfl) (by kernel_rfl) (fun _ _ _ h => h) (Or.inl ⟨by rfl, fun ww hSw => by (try dsimp only at hSw); go_simp⟩) (by assumption) ?_
            simp only [Act.put, List.setIfInBounds_toArray, List.set_cons_zero, List.set_cons_succ, List.getElem_toArray, List.getElem_cons_succ, List.getElem_cons_zero]
            refine wpAnyH_take (i := 24) (v := (.int .u32 r2)) rfl (by kernel_rfl) (by kernel_rfl) (by kernel_rfl) (fun _ _ _ h => h) (Or.inl ⟨by rfl, fun ww hSw => by (try dsimp only at hSw); go_simp⟩) (by assumption) ?_
            simp only [Act.put, List.setIfInBounds_toArray, List.set_cons_zero, List.set_cons_succ, List.getElem_toArray, List.getElem_cons_succ, List.getElem_cons_zero]
            refine wpAnyH_take (i := 25) (v := (.slice tp tl tc)) rfl (by kernel_rfl) (by kernel_rfl) (by kernel_rfl) (fun _ _ _ h => h) (Or.inl ⟨by rfl, fun ww hSw => by (try dsimp only at hSw); go_simp⟩) (by assumption) ?_
            simp only [Act.put, List.setIfInBounds_toArray, List.set_cons_zero, List.set_cons_succ, List.getElem_toArray, List.getElem_cons_succ, List.getElem_cons_zero]
            refine wpAnyH_take (i := 26) (v := (.int .i64 tl)) rfl (by kernel_rfl) (by kernel_rfl) (by kernel_rfl) (fun _ _ _ h => h) (Or.inl ⟨by rfl, fun ww hSw => by (try dsimp only at hSw); go_simp⟩) (by assumption) ?_
            simp only [Act.put, List.setIfInBounds_toArray, List.set_cons_zero, List.set_cons_succ, List.getElem_toArray, List.getElem_cons_succ, List.getElem_cons_zero]
            refine wpAnyH_take (i := 27) (v := (.int .u32 r2)) rfl (by kernel_rfl) (by kernel_rfl) (by kernel_rfl) (fun _ _ _ h => h) (Or.inl ⟨by rfl, fun ww hSw => by (try dsimp only at hSw); go_simp⟩) (by assumption) ?_
            simp only [Act.put, List.setIfInBounds_toArray, List.set_cons_zero, List.set_cons_succ, List.getElem_toArray, List.getElem_cons_succ, List.getElem_cons_zero]
            refine wpAnyH_take (i := 28) (v := (.bool false)) rfl (by kernel_rfl) (by kernel_rfl) (by kernel_rfl) (fun _ _ _ h => h) (Or.inl ⟨by rfl, fun ww hSw => by (try dsimp only at hSw); go_simp⟩) (by assumption) ?_
            simp only [Act.put, List.setIfInBounds_toArray, List.set_cons_zero, List.set_cons_succ, List.getElem_toArray, List.getElem_cons_succ, List.getElem_cons_zero]
            refine wpAnyH_take (i := 29) (v := (.bool false)) rfl (by kernel_rfl) (by kernel_rfl) (by kernel_rfl) (fun _ _ _ h => h) (Or.inl ⟨by rfl, fun ww hSw => by (try dsimp only at hSw); go_simp⟩) (by assumption) ?_
            simp only [Act.put, List.setIfInBounds_toArray, List.set_cons_zero, List.set_cons_succ, List.getElem_toArray, List.getElem_cons_succ, List.getElem_cons_zero]
            refine wpAnyH_done (by kernel_rfl) ?_ _
            clear hHeld kS kS3 ca2 cf2 Bx Bp R2
            go_wp2
            exact ⟨⟨I + 1, by omega, rfl, xs2, r2, rd2, wt2, P2, T2, by omega, R3.out.1⟩, by simp only [intOf]; omega⟩
          · have hod := HP.out
            clear k2 k3 HK HD
            obtain ⟨xs2, hxs2⟩ : ∃ x, x = xs := ⟨_, rfl⟩
            obtain ⟨r2, hr2⟩ : ∃ x, x = r := ⟨_, rfl⟩
            obtain ⟨rd2, hrd2⟩ : ∃ x, x = rd := ⟨_, rfl⟩
            obtain ⟨wt2, hwt2⟩ : ∃ x, x = wt := ⟨_, rfl⟩
            obtain ⟨P2, hP2⟩ : ∃ x, x = P := ⟨_, rfl⟩
            obtain ⟨T2, hT2⟩ : ∃ x, x = T := ⟨_, rfl⟩
            have hod2 : Od w wr X b xs2 r2 rd2 wt2 P2 T2 (.slice pp P2.length pc) (.slice tp T2.length tc) := by rw [hxs2, hr2, hrd2, hwt2, hP2, hT2]; exact hod
            have hPL : P2.length ≤ 512 * (I + 1) := by rw [hP2]; omega
            rw [← hP2, ← hT2]
            have HQ : Hid (Od w wr X b xs2 r2 rd2 wt2 P2 T2 (.slice pp P2.length pc) (.slice tp T2.length tc)) := hod2
            clear hod2 hxs2 hr2 hrd2 hwt2 hP2 hT2
            have hlen : P2.length = T2.length + xs2.length := by rw [HQ.out.eq, List.length_append]
            have hx512 := HQ.out.pl.pip.1
            generalize hpl : P2.length = pl at *
            generalize htl : T2.length = tl at *
            have HLEN : Hid (pl = tl + xs2.length) := hlen
            have i2 : ¬ ((pl : Int) < tl) := by omega
            clear hlen
            go_wp2_with fail
            refine (state_pip HQ.out.pl.pip).mono ?_
            rintro e A1 ⟨sp, sc, rfl, hO1, hb1, _⟩
            obtain ⟨s, hs⟩ : ∃ s, s = (r2 + (xs2.length : Int)) % 4294967296 := ⟨_, rfl⟩
            have HSS : Hid (s = (r2 + (xs2.length : Int)) % 4294967296) := hs
            have es : stt sp xs2.length sc r2 rd2 wt2 = .agg #[.slice sp xs2.length sc, .int .u32 r2, .int .u32 s, .bool rd2, .bool wt2] := by rw [hs]; rfl
            rw [es]
            generalize hL : xs2.length = L at *
            have R1 : Hid (Od w A1 X b xs2 r2 rd2 wt2 P2 T2 (.slice pp pl pc) (.slice tp tl tc) ∧ Byt A1 sp L sc xs2) := ⟨HQ.out.below hb1, byt_own hO1⟩
            clear es hs hO1 hb1
            go_upto_region 22 with fail
            have hsb := sb_new A1 sp L sc r2 s rd2 wt2
            have hb2 := Trn.new A1 (.cells #[.slice sp L sc, .int .u32 r2, .int .u32 s, .bool rd2, .bool wt2] 36)
            generalize A1.alloc (.cells #[.slice sp L sc, .int .u32 r2, .int .u32 s, .bool rd2, .bool wt2] 36) = A2 at *
            have R2 : Hid (Od w A2 X b xs2 r2 rd2 wt2 P2 T2 (.slice pp pl pc) (.slice tp tl tc) ∧ Byt A2 sp L sc xs2 ∧ Sb A2 A1.heap.size sp L sc r2 s rd2 wt2) := ⟨R1.out.1.below hb2, byt_below R1.out.2 hb2, hsb⟩
            generalize A1.heap.size = sb at *
            clear hsb hb2 R1
            have kS : (A2.drew.cell? ⟨sb, 0, .none⟩ = some (.slice sp L sc) ∧ A2.drew.cell? ⟨sb, 1, .none⟩ = some (.int .u32 r2) ∧ A2.drew.cell? ⟨sb, 2, .none⟩ = some (.int .u32 s)) := ⟨R2.out.2.2.c0, R2.out.2.2.c1, R2.out.2.2.c2⟩
            have hopl : A2.ownsRow X 5 1 (.slice pp pl pc) pl (by8 P2) := by have := R2.out.1.op; rw [hpl] at this; exact this
            have Bp : Hid (Byt A2 pp pl pc P2) := byt_own hopl
            have hpc := Bp.out.2.1
            have hpm : pc ≤ 9223372036854775807 := Bp.out.2.2.1
            have Bx : Hid (Byt A2.drew (cutp pp pc tl) L (pc - tl) xs2) := by
              have h1 := byt_cut Bp.out tl pl (by have := HLEN.out; omega) (Nat.le_refl _)
              rw [List.take_of_length_le (by have := HLEN.out; omega), show pl - tl = L by have := HLEN.out; omega] at h1
              have h2 : P2.drop tl = xs2 := by rw [HQ.out.eq, ← htl, List.drop_left]
              rw [h2] at h1
              exact h1
            have ca2 := cutat pp pl pc
            have cf2 : ∀ W, (Instr.slice 22 (.slice pp pl pc) (some (.int .i64 tl)) none none).run Try.prog W = .ok (.slice (cutp pp pc tl) L (pc - tl)) W := fun W => by
              have := cut_from pp pl pc tl (by have := HLEN.out; omega) W
              rw [show pl - tl = L by have := HLEN.out; omega] at this
              exact this
            have er2 := R2.out.1.er
            rw [htl] at er2
            have ew1 : IntKind.u32.wrap (pl : Int) = s := by have := HSS.out; simp only [IntKind.wrap, IntKind.bits, IntKind.signed]; simp; have := HLEN.out; omega
            have ew2 : IntKind.u32.wrap (tl : Int) = r2 := by simp only [IntKind.wrap, IntKind.bits, IntKind.signed]; simp; have := HLEN.out; omega
            clear er2 hopl
            have i3 : ¬ ((512 : Int) < L) := by omega
            refine wp_region_held_drew (S := fun U => (U.cell? ⟨sb, 0, .none⟩ = some (.slice sp L sc) ∧ U.cell? ⟨sb, 1, .none⟩ = some (.int .u32 r2) ∧ U.cell? ⟨sb, 2, .none⟩ = some (.int .u32 s))) (by kernel_rfl) kS (fun hHeld => ?_)
            refine wpAnyH_take (i := 0) (v := (.pointer (some ⟨sb, 0, .none⟩))) rfl (by kernel_rfl) (by kernel_rfl) (by kernel_rfl) (fun _ _ _ h => h) (Or.inl ⟨by rfl, fun ww hSw => by (try dsimp only at hSw); go_simp⟩) (by assumption) ?_
            simp only [Act.put, List.setIfInBounds_toArray, List.set_cons_zero, List.set_cons_succ, List.getElem_toArray, List.getElem_cons_succ, List.getElem_cons_zero]
            refine wpAnyH_take (i := 1) (v := (.slice sp L sc)) rfl (by kernel_rfl) (by kernel_rfl) (by kernel_rfl) (fun _ _ _ h => h) (Or.inl ⟨by rfl, fun ww hSw => by (try dsimp only at hSw); go_simp⟩) (by assumption) ?_
            simp only [Act.put, List.setIfInBounds_toArray, List.set_cons_zero, List.set_cons_succ, List.getElem_toArray, List.getElem_cons_succ, List.getElem_cons_zero]
            refine wpAnyH_take (i := 2) (v := (.int .i64 L)) rfl (by kernel_rfl) (by kernel_rfl) (by kernel_rfl) (fun _ _ _ h => h) (Or.inl ⟨by rfl, fun ww hSw => by (try dsimp only at hSw); go_simp⟩) (by assumption) ?_
            simp only [Act.put, List.setIfInBounds_toArray, List.set_cons_zero, List.set_cons_succ, List.getElem_toArray, List.getElem_cons_succ, List.getElem_cons_zero]
            refine wpAnyH_take (i := 3) (v := (.bool false)) rfl (by kernel_rfl) (by kernel_rfl) (by kernel_rfl) (fun _ _ _ h => h) (Or.inl ⟨by rfl, fun ww hSw => by (try dsimp only at hSw); go_simp⟩) (by assumption) ?_
            simp only [Act.put, List.setIfInBounds_toArray, List.set_cons_zero, List.set_cons_succ, List.getElem_toArray, List.getElem_cons_succ, List.getElem_cons_zero]
            refine wpAnyH_take (i := 4) (v := (.bool false)) rfl (by kernel_rfl) (by kernel_rfl) (by kernel_rfl) (fun _ _ _ h => h) (Or.inl ⟨by rfl, fun ww hSw => by (try dsimp only at hSw); go_simp⟩) (by assumption) ?_
            simp only [Act.put, List.setIfInBounds_toArray, List.set_cons_zero, List.set_cons_succ, List.getElem_toArray, List.getElem_cons_succ, List.getElem_cons_zero]
            refine wpAnyH_take (i := 5) (v := (.pointer (some ⟨sb, 0, .none⟩))) rfl (by kernel_rfl) (by kernel_rfl) (by kernel_rfl) (fun _ _ _ h => h) (Or.inl ⟨by rfl, fun ww hSw => by (try dsimp only at hSw); go_simp⟩) (by assumption) ?_
            simp only [Act.put, List.setIfInBounds_toArray, List.set_cons_zero, List.set_cons_succ, List.getElem_toArray, List.getElem_cons_succ, List.getElem_cons_zero]
            refine wpAnyH_take (i := 6) (v := (.slice sp L sc)) rfl (by kernel_rfl) (by kernel_rfl) (by kernel_rfl) (fun _ _ _ h => h) (Or.inl ⟨by rfl, fun ww hSw => by (try dsimp only at hSw); go_simp⟩) (by assumption) ?_
            simp only [Act.put, List.setIfInBounds_toArray, List.set_cons_zero, List.set_cons_succ, List.getElem_toArray, List.getElem_cons_succ, List.getElem_cons_zero]
            refine wpAnyH_take (i := 7) (v := (.slice pp pl pc)) rfl (by kernel_rfl) (by kernel_rfl) (by kernel_rfl) (fun _ _ _ h => h) (Or.inl ⟨by rfl, fun ww hSw => by (try dsimp only at hSw); go_simp⟩) (by assumption) ?_
            simp only [Act.put, List.setIfInBounds_toArray, List.set_cons_zero, List.set_cons_succ, List.getElem_toArray, List.getElem_cons_succ, List.getElem_cons_zero]
            refine wpAnyH_take (i := 8) (v := (.slice tp tl tc)) rfl (by kernel_rfl) (by kernel_rfl) (by kernel_rfl) (fun _ _ _ h => h) (Or.inl ⟨by rfl, fun ww hSw => by (try dsimp only at hSw); go_simp⟩) (by assumption) ?_
            simp only [Act.put, List.setIfInBounds_toArray, List.set_cons_zero, List.set_cons_succ, List.getElem_toArray, List.getElem_cons_succ, List.getElem_cons_zero]
            refine wpAnyH_take (i := 9) (v := (.int .i64 tl)) rfl (by kernel_rfl) (by kernel_rfl) (by kernel_rfl) (fun _ _ _ h => h) (Or.inl ⟨by rfl, fun ww hSw => by (try dsimp only at hSw); go_simp⟩) (by assumption) ?_
            simp only [Act.put, List.setIfInBounds_toArray, List.set_cons_zero, List.set_cons_succ, List.getElem_toArray, List.getElem_cons_succ, List.getElem_cons_zero]
            refine wpAnyH_take (i := 10) (v := (.slice (cutp pp pc tl) L (pc - tl))) rfl (by kernel_rfl) (by kernel_rfl) (by kernel_rfl) (fun _ _ _ h => h) (Or.inl ⟨by rfl, fun ww hSw => by (try dsimp only at hSw); go_simp⟩) (by assumption) ?_
            simp only [Act.put, List.setIfInBounds_toArray, List.set_cons_zero, List.set_cons_succ, List.getElem_toArray, List.getElem_cons_succ, List.getElem_cons_zero]
            refine wpAnyH_ready (rs := [11]) (by kernel_rfl) (by simp) ?_
            refine AllReadyH.cons rfl (fun K hK => ?_) AllReadyH.nil
            go_simp
            have c17 := bytes_any sp (cutp pp pc tl) L sc (pc - tl) xs2 A2.drew (by have := HLEN.out; omega) R2.out.2.1 Bx.out
            refine c17.mono ?_
            rintro e A3 ⟨rfl, kk, hkk⟩
            have hb3 : Below A2.heap.size A2 A3 := by subst hkk; exact ⟨rfl, rfl, rfl, Nat.le_refl _, fun _ _ => rfl⟩
            have R3 : Hid (Od w A3 X b xs2 r2 rd2 wt2 P2 T2 (.slice pp pl pc) (.slice tp tl tc) ∧ Sb A3 sb sp L sc r2 s rd2 wt2) := ⟨R2.out.1.below hb3, R2.out.2.2.below hb3⟩
            have kS3 : (A3.cell? ⟨sb, 0, .none⟩ = some (.slice sp L sc) ∧ A3.cell? ⟨sb, 1, .none⟩ = some (.int .u32 r2) ∧ A3.cell? ⟨sb, 2, .none⟩ = some (.int .u32 s)) := ⟨R3.out.2.c0, R3.out.2.c1, R3.out.2.c2⟩
            clear hkk hb3 c17
            refine hK.out _ _ kS3 (fun hHeld => ?_)
            clear hK K
            try simp only [Act.put, List.setIfInBounds_toArray, List.set_cons_zero, List.set_cons_succ, List.getElem_toArray, List.getElem_cons_succ, List.getElem_cons_zero]
            refine wpAnyH_take (i := 12) (v := (.bool false)) rfl (by kernel_rfl) (by kernel_rfl) (by kernel_rfl) (fun _ _ _ h => h) (Or.inl ⟨by rfl, fun ww hSw => by (try dsimp only at hSw); go_simp⟩) (by assumption) ?_
            simp only [Act.put, List.setIfInBounds_toArray, List.set_cons_zero, List.set_cons_succ, List.getElem_toArray, List.getElem_cons_succ, List.getElem_cons_zero]
            refine wpAnyH_take (i := 13) (v := (.bool false)) rfl (by kernel_rfl) (by kernel_rfl) (by kernel_rfl) (fun _ _ _ h => h) (Or.inl ⟨by rfl, fun ww hSw => by (try dsimp only at hSw); go_simp⟩) (by assumption) ?_
            simp only [Act.put, List.setIfInBounds_toArray, List.set_cons_zero, List.set_cons_succ, List.getElem_toArray, List.getElem_cons_succ, List.getElem_cons_zero]
            refine wpAnyH_take (i := 14) (v := (.bool false)) rfl (by kernel_rfl) (by kernel_rfl) (by kernel_rfl) (fun _ _ _ h => h) (Or.inl ⟨by rfl, fun ww hSw => by (try dsimp only at hSw); go_simp⟩) (by assumption) ?_
            simp only [Act.put, List.setIfInBounds_toArray, List.set_cons_zero, List.set_cons_succ, List.getElem_toArray, List.getElem_cons_succ, List.getElem_cons_zero]
            refine wpAnyH_take (i := 15) (v := (.pointer (some ⟨sb, 2, .none⟩))) rfl (by kernel_rfl) (by kernel_rfl) (by kernel_rfl) (fun _ _ _ h => h) (Or.inl ⟨by rfl, fun ww hSw => by (try dsimp only at hSw); go_simp⟩) (by assumption) ?_
            simp only [Act.put, List.setIfInBounds_toArray, List.set_cons_zero, List.set_cons_succ, List.getElem_toArray, List.getElem_cons_succ, List.getElem_cons_zero]
            refine wpAnyH_take (i := 16) (v := (.int .u32 s)) rfl (by kernel_rfl) (by kernel_rfl) (by kernel_rfl) (fun _ _ _ h => h) (Or.inl ⟨by rfl, fun ww hSw => by (try dsimp only at hSw); go_simp⟩) (by assumption) ?_
            simp only [Act.put, List.setIfInBounds_toArray, List.set_cons_zero, List.set_cons_succ, List.getElem_toArray, List.getElem_cons_succ, List.getElem_cons_zero]
            refine wpAnyH_take (i := 17) (v := (.slice pp pl pc)) rfl (by kernel_rfl) (by kernel_rfl) (by kernel_rfl) (fun _ _ _ h => h) (Or.inl ⟨by rfl, fun ww hSw => by (try dsimp only at hSw); go_simp⟩) (by assumption) ?_
            simp only [Act.put, List.setIfInBounds_toArray, List.set_cons_zero, List.set_cons_succ, List.getElem_toArray, List.getElem_cons_succ, List.getElem_cons_zero]
            refine wpAnyH_take (i := 18) (v := (.int .i64 pl)) rfl (by kernel_rfl) (by kernel_rfl) (by kernel_rfl) (fun _ _ _ h => h) (Or.inl ⟨by rfl, fun ww hSw => by (try dsimp only at hSw); go_simp⟩) (by assumption) ?_
            simp only [Act.put, List.setIfInBounds_toArray, List.set_cons_zero, List.set_cons_succ, List.getElem_toArray, List.getElem_cons_succ, List.getElem_cons_zero]
            refine wpAnyH_take (i := 19) (v := (.int .u32 s)) rfl (by kernel_rfl) (by kernel_rfl) (by kernel_rfl) (fun _ _ _ h => h) (Or.inl ⟨by rfl, fun ww hSw => by (try dsimp only at hSw); go_simp⟩) (by assumption) ?_
            simp only [Act.put, List.setIfInBounds_toArray, List.set_cons_zero, List.set_cons_succ, List.getElem_toArray, List.getElem_cons_succ, List.getElem_cons_zero]
            refine wpAnyH_take (i := 20) (v := (.bool false)) rfl (by kernel_rfl) (by kernel_rfl) (by kernel_rfl) (fun _ _ _ h => h) (Or.inl ⟨by rfl, fun ww hSw => by (try dsimp only at hSw); go_simp⟩) (by assumption) ?_
            simp only [Act.put, List.setIfInBounds_toArray, List.set_cons_zero, List.set_cons_succ, List.getElem_toArray, List.getElem_cons_succ, List.getElem_cons_zero]
            refine wpAnyH_take (i := 21) (v := (.bool false)) rfl (by kernel_rfl) (by kernel_rfl) (by kernel_rfl) (fun _ _ _ h => h) (Or.inl ⟨by rfl, fun ww hSw => by (try dsimp only at hSw); go_simp⟩) (by assumption) ?_
            simp only [Act.put, List.setIfInBounds_toArray, List.set_cons_zero, List.set_cons_succ, List.getElem_toArray, List.getElem_cons_succ, List.getElem_cons_zero]
            refine wpAnyH_take (i := 22) (v := (.bool false)) rfl (by kernel_rfl) (by kernel_rfl) (by kernel_rfl) (fun _ _ _ h => h) (Or.inl ⟨by rfl, fun ww hSw => by (try dsimp only at hSw); go_simp⟩) (by assumption) ?_
            simp only [Act.put, List.setIfInBounds_toArray, List.set_cons_zero, List.set_cons_succ, List.getElem_toArray, List.getElem_cons_succ, List.getElem_cons_zero]
            refine wpAnyH_take (i := 23) (v := (.pointer (some ⟨sb, 1, .none⟩))) rfl (by kernel_rfl) (by kernel_rfl) (by kernel_rfl) (fun _ _ _ h => h) (Or.inl ⟨by rfl, fun ww hSw => by (try dsimp only at hSw); go_simp⟩) (by assumption) ?_
            simp only [Act.put, List.setIfInBounds_toArray, List.set_cons_zero, List.set_cons_succ, List.getElem_toArray, List.getElem_cons_succ, List.getElem_cons_zero]
            refine wpAnyH_take (i := 24) (v := (.int .u32 r2)) rfl (by kernel_rfl) (by kernel_rfl) (by kernel_rfl) (fun _ _ _ h => h) (Or.inl ⟨by rfl, fun ww hSw => by (try dsimp only at hSw); go_simp⟩) (by assumption) ?_
            simp only [Act.put, List.setIfInBounds_toArray, List.set_cons_zero, List.set_cons_succ, List.getElem_toArray, List.getElem_cons_succ, List.getElem_cons_zero]
            refine wpAnyH_take (i := 25) (v := (.slice tp tl tc)) rfl (by kernel_rfl) (by kernel_rfl) (by kernel_rfl) (fun _ _ _ h => h) (Or.inl ⟨by rfl, fun ww hSw => by (try dsimp only at hSw); go_simp⟩) (by assumption) ?_
            simp only [Act.put, List.setIfInBounds_toArray, List.set_cons_zero, List.set_cons_succ, List.getElem_toArray, List.getElem_cons_succ, List.getElem_cons_zero]
            refine wpAnyH_take (i := 26) (v := (.int .i64 tl)) rfl (by kernel_rfl) (by kernel_rfl) (by kernel_rfl) (fun _ _ _ h => h) (Or.inl ⟨by rfl, fun ww hSw => by (try dsimp only at hSw); go_simp⟩) (by assumption) ?_
            simp only [Act.put, List.setIfInBounds_toArray, List.set_cons_zero, List.set_cons_succ, List.getElem_toArray, List.getElem_cons_succ, List.getElem_cons_zero]
            refine wpAnyH_take (i := 27) (v := (.int .u32 r2)) rfl (by kernel_rfl) (by kernel_rfl) (by kernel_rfl) (fun _ _ _ h => h) (Or.inl ⟨by rfl, fun ww hSw => by (try dsimp only at hSw); go_simp⟩) (by assumption) ?_
            simp only [Act.put, List.setIfInBounds_toArray, List.set_cons_zero, List.set_cons_succ, List.getElem_toArray, List.getElem_cons_succ, List.getElem_cons_zero]
            refine wpAnyH_take (i := 28) (v := (.bool false)) rfl (by kernel_rfl) (by kernel_rfl) (by kernel_rfl) (fun _ _ _ h => h) (Or.inl ⟨by rfl, fun ww hSw => by (try dsimp only at hSw); go_simp⟩) (by assumption) ?_
            simp only [Act.put, List.setIfInBounds_toArray, List.set_cons_zero, List.set_cons_succ, List.getElem_toArray, List.getElem_cons_succ, List.getElem_cons_zero]
            refine wpAnyH_take (i := 29) (v := (.bool false)) rfl (by kernel_rfl) (by kernel_rfl) (by kernel_rfl) (fun _ _ _ h => h) (Or.inl ⟨by rfl, fun ww hSw => by (try dsimp only at hSw); go_simp⟩) (by assumption) ?_
            simp only [Act.put, List.setIfInBounds_toArray, List.set_cons_zero, List.set_cons_succ, List.getElem_toArray, List.getElem_cons_succ, List.getElem_cons_zero]
            refine wpAnyH_done (by kernel_rfl) ?_ _
            clear hHeld kS kS3 ca2 cf2 Bx Bp R2
            go_wp2
            exact ⟨⟨I + 1, by omega, rfl, xs2, r2, rd2, wt2, P2, T2, by omega, R3.out.1⟩, by simp only [intOf]; omega⟩
    · obtain rfl : I = m := by omega
      have Bp : Hid (Byt wr pp P.length pc P) := byt_own HP.out.op
      have hpc := Bp.out.2.1
      have ca := cutat pp P.length pc
      have ct := cut_to pp P.length pc T.length (by omega)
      have Bt : Hid (Byt wr tp T.length tc T ∧ Byt wr (cutp pp pc 0) T.length pc T) := ⟨byt_own HP.out.ot, by
        have h1 := byt_cut Bp.out 0 T.length (by omega) hTP
        have h2 : P.take T.length = T := by rw [HP.out.eq, List.take_left]
        rw [h2] at h1
        exact h1⟩
      go_wp2_with fail
      refine (bytes_any tp (cutp pp pc 0) T.length tc pc T wr (by omega) Bt.out.1 Bt.out.2).mono ?_
      rintro e V1 ⟨rfl, kk, hkk⟩
      have HE : Hid (Below w.heap.size w V1) := HP.out.pl.bel.trans (by subst hkk; exact ⟨rfl, rfl, rfl, Nat.le_refl _, fun _ _ => rfl⟩)
      clear hkk
      go_wp2
      go_ret
      exact ⟨rfl, HE.out⟩
end Go.Proofs.Ytabhojfdkmeaoaa
