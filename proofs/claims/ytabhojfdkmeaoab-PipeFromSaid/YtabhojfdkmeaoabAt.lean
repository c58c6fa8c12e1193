import Derived.Test.YtabhojfdkmeaoabAx
namespace Go.Proofs.Ytabhojfdkmeaoab
open Go.RowKit
set_option linter.unusedVariables false
set_option linter.unusedSimpArgs false
theorem lent_keep {S : Nat → Prop} {w v : World} {base g c : Nat} {xs : List Int} (h : Lent w base g c xs) (t : Chg S w v) (hg : ¬ S g) : Lent v base g c xs := by
  unfold Lent at h ⊢
  exact t.own h (fun g' hg' => by
    simp only [Value.ownBlock, Option.some.injEq] at hg'
    subst hg'
    exact hg)
theorem lent_lt {w : World} {base g c : Nat} {xs : List Int} (h : Lent w base g c xs) : g < w.heap.size := own_lt h
theorem own_belowX2 {w v : World} {X e sz : Nat} {m : Value} {n : Nat} {xs : List Value} (h : w.ownsRow X e sz m n xs) (t : Below w.heap.size w v) : v.ownsRow X e sz m n xs := (Chg.ofBelow (S := fun _ => False) t).own h (fun _ _ h => h)
theorem Sb.keepC {S : Nat → Prop} {w v : World} {b : Nat} {p : Option Addr} {n c : Nat} {R Q : Int} {rd wt : Bool} (h : Sb w b p n c R Q rd wt) (t : Chg S w v) (hb : ¬ S b) : Sb v b p n c R Q rd wt :=
  ⟨(t.cell (p := ⟨b, 0, .none⟩) (lt_cell h.c0) hb).trans h.c0, (t.cell (p := ⟨b, 1, .none⟩) (lt_cell h.c1) hb).trans h.c1, (t.cell (p := ⟨b, 2, .none⟩) (lt_cell h.c2) hb).trans h.c2, (t.cell (p := ⟨b, 3, .none⟩) (lt_cell h.c3) hb).trans h.c3, (t.cell (p := ⟨b, 4, .none⟩) (lt_cell h.c4) hb).trans h.c4⟩
theorem St.t3 {w v : World} {Z X b d sh cnt : Nat} {e lv : Value} {F F' : Nat → Prop} {xs ys : List Int} {r s : Int} {rd wt rd2 wt2 : Bool} (h : St w Z X b d sh cnt e F xs r rd wt ys s rd2 wt2) (hl : ∀ g, lv.ownBlock = some g → X ≤ g) (hle : ∀ g, lv.ownBlock = some g → e.ownBlock ≠ some g)
    (hs : Shel v X sh (cnt + 1) F') (hF : ∀ g, F' g → F g ∨ lv.ownBlock = some g ∨ w.heap.size ≤ g) (t : Chg (fun k => k = sh ∨ F k ∨ lv.ownBlock = some k) w v) : St v Z X b d sh (cnt + 1) e F' xs r rd wt ys s rd2 wt2 := by
  have low : ∀ k, k < X → k ≠ sh → ¬ (k = sh ∨ F k ∨ lv.ownBlock = some k) := fun k hk hn h1 => by
    rcases h1 with h1 | h1 | h1
    · exact hn h1
    · have := (h.s.ge k h1).1; omega
    · have := hl k h1; omega
  refine ⟨t.pip h.p (low b h.bX h.bs), h.q.keep t (low d h.dX h.ds) (fun g hg h1 => ?_), hs, fun g hg hf => ?_, h.bd, h.bs, h.ds, h.bX, h.zb, h.zd, h.zs, h.en⟩
  · rcases h1 with h1 | h1 | h1
    · have := (h.eX g hg).1; have := h.sX; omega
    · exact h.ef g hg h1
    · exact hle g h1 hg
  · rcases hF g hf with h1 | h1 | h1
    · exact h.ef g hg h1
    · exact hle g h1 hg
    · have := (h.eX g hg).2; omega
/-- Two states that were told, in their boxes. -/
structure G4 (w U : World) (Z X b d sh cnt : Nat) (e : Value) (F : Nat → Prop) (xs : List Int) (r : Int) (rd wt : Bool) (s : Int) (L xg : Nat) (xp : Option Addr) (xc yg : Nat) (yp : Option Addr) (yc A0 : Nat) : Prop where
  st : St U Z X b d sh cnt e F xs r rd wt xs r rd wt
  ch : Chg (fun _ => False) w U
  ox : U.ownsRow X 5 1 (.slice xp L xc) L (by8 xs)
  oy : U.ownsRow X 5 1 (.slice yp L yc) L (by8 xs)
  bx : Sb U xg xp L xc r s rd wt
  by_ : Sb U yg yp L yc r s rd wt
  xk : ∀ g, (Value.slice xp L xc).ownBlock = some g → A0 ≤ g ∧ g < xg
  yk : ∀ g, (Value.slice yp L yc).ownBlock = some g → xg < g ∧ g < yg
  ax : A0 ≤ xg
  xy : xg < yg
  aw : w.heap.size ≤ A0
  fw : ∀ g, F g → g < w.heap.size
  ew : ∀ g, e.ownBlock = some g → g < w.heap.size
  wX : X ≤ w.heap.size
/-- One of them is put on the shelf. -/
structure G5 (w U : World) (Z X b d sh cnt : Nat) (e : Value) (F F' : Nat → Prop) (xs : List Int) (r : Int) (rd wt : Bool) (s : Int) (L xg : Nat) (xp : Option Addr) (xc yg : Nat) (yp : Option Addr) (yc : Nat) : Prop where
  st : St U Z X b d sh (cnt + 1) e F' xs r rd wt xs r rd wt
  ch : Chg (fun k => k = b ∨ k = d ∨ k = sh ∨ e.ownBlock = some k ∨ F k) w U
  oy : U.ownsRow X 5 1 (.slice yp L yc) L (by8 xs)
  bx : Sb U xg xp L xc r s rd wt
  by_ : Sb U yg yp L yc r s rd wt
  yF : ∀ g, (Value.slice yp L yc).ownBlock = some g → ¬ F' g
  yw : ∀ g, (Value.slice yp L yc).ownBlock = some g → w.heap.size ≤ g ∧ g ≠ xg ∧ g ≠ yg
  fF : ∀ g, F' g → F g ∨ w.heap.size ≤ g
  xF : ¬ F' xg
  yG : ¬ F' yg
  ew : ∀ g, e.ownBlock = some g → g < w.heap.size
  wX : X ≤ w.heap.size
  xw : w.heap.size ≤ xg ∧ w.heap.size ≤ yg
structure G6 (w U : World) (Z X b d sh cnt : Nat) (e : Value) (F : Nat → Prop) (r : Int) (rd wt : Bool) (s : Int) (L xg : Nat) (xp : Option Addr) (xc yg : Nat) (yp : Option Addr) (yc : Nat) : Prop where
  bx : Sb U xg xp L xc r s rd wt
  by_ : Sb U yg yp L yc r s rd wt
  fin : Ended w U Z X b d sh cnt e F
section
variable {w U v : World} {Z X b d sh cnt : Nat} {e : Value} {F F' F2 : Nat → Prop} {xs : List Int} {r : Int} {rd wt : Bool} {s : Int} {L xg : Nat} {xp : Option Addr} {xc yg : Nat} {yp : Option Addr} {yc A0 : Nat}
theorem G4.below (h : G4 w U Z X b d sh cnt e F xs r rd wt s L xg xp xc yg yp yc A0) (t : Below U.heap.size U v) : G4 w v Z X b d sh cnt e F xs r rd wt s L xg xp xc yg yp yc A0 :=
  ⟨h.st.below t, h.ch.trans (Chg.ofBelow t) (fun _ _ h => h), own_belowX2 h.ox t, own_belowX2 h.oy t, h.bx.below t, h.by_.below t, h.xk, h.yk, h.ax, h.xy, h.aw, h.fw, h.ew, h.wX⟩
theorem G4.rx (h : G4 w U Z X b d sh cnt e F xs r rd wt s L xg xp xc yg yp yc A0) : Byt U xp L xc xs := byt_own h.ox
theorem G4.ry (h : G4 w U Z X b d sh cnt e F xs r rd wt s L xg xp xc yg yp yc A0) : Byt U yp L yc xs := byt_own h.oy
theorem G4.xF (h : G4 w U Z X b d sh cnt e F xs r rd wt s L xg xp xc yg yp yc A0) : ∀ g, (Value.slice xp L xc).ownBlock = some g → ¬ F g := fun g hg hf => by
  have := (h.xk g hg).1; have := h.fw g hf; have := h.aw; omega
theorem G4.sx (h : G4 w U Z X b d sh cnt e F xs r rd wt s L xg xp xc yg yp yc A0) (h1 : Shel v X sh (cnt + 1) F') (h2 : ∀ g, F' g → F g ∨ (Value.slice xp L xc).ownBlock = some g ∨ U.heap.size ≤ g) (h3 : Chg (fun k => k = sh ∨ F k ∨ (Value.slice xp L xc).ownBlock = some k) U v) : G5 w v Z X b d sh cnt e F F' xs r rd wt s L xg xp xc yg yp yc := by
  have aw := h.aw
  have ax := h.ax
  have xy := h.xy
  have wX := h.wX
  have sX := h.st.sX
  have hsz := h.ch.size
  have nS : ∀ k, xg ≤ k → ¬ (k = sh ∨ F k ∨ (Value.slice xp L xc).ownBlock = some k) := fun k hk h0 => by
    rcases h0 with h0 | h0 | h0
    · omega
    · have := h.fw k h0; omega
    · have := (h.xk k h0).2; omega
  have nF : ∀ k, xg ≤ k → k < U.heap.size → ¬ F' k := fun k hk hk2 h0 => by
    rcases h2 k h0 with h0 | h0 | h0
    · have := h.fw k h0; omega
    · have := (h.xk k h0).2; omega
    · omega
  refine ⟨h.st.t3 (fun g hg => own_block h.ox g hg) (fun g hg he => by have := (h.xk g hg).1; have := h.ew g he; omega) h1 h2 h3, (h.ch.mono (fun _ _ h => h.elim)).trans h3 (fun k hk h0 => ?_), h3.own h.oy (fun g hg => nS g (by have := (h.yk g hg).1; omega)), h.bx.keepC h3 (nS xg (Nat.le_refl _)), h.by_.keepC h3 (nS yg (by omega)), fun g hg => nF g (by have := (h.yk g hg).1; omega) (own_ltC h.oy g hg), fun g hg => ?_, fun g hg => ?_, nF xg (Nat.le_refl _) (lt_cell h.bx.c0), nF yg (by omega) (lt_cell h.by_.c0), h.ew, h.wX, by omega⟩
  · rcases h0 with h0 | h0 | h0
    · exact .inr (.inr (.inl h0))
    · exact .inr (.inr (.inr (.inr h0)))
    · have := (h.xk k h0).1; omega
  · have := h.yk g hg
    exact ⟨by omega, by omega, by omega⟩
  · rcases h2 g hg with h0 | h0 | h0
    · exact .inl h0
    · exact .inr (by have := (h.xk g h0).1; omega)
    · exact .inr (by omega)
theorem G5.sy (h : G5 w U Z X b d sh cnt e F F' xs r rd wt s L xg xp xc yg yp yc) (h1 : Shel v X sh (cnt + 1 + 1) F2) (h2 : ∀ g, F2 g → F' g ∨ (Value.slice yp L yc).ownBlock = some g ∨ U.heap.size ≤ g) (h3 : Chg (fun k => k = sh ∨ F' k ∨ (Value.slice yp L yc).ownBlock = some k) U v) : G6 w v Z X b d sh cnt e F r rd wt s L xg xp xc yg yp yc := by
  have wX := h.wX
  have sX := h.st.sX
  have xw := h.xw
  have hsz := h.ch.size
  have nS : ∀ k, w.heap.size ≤ k → ¬ F' k → (∀ g, (Value.slice yp L yc).ownBlock = some g → g ≠ k) → ¬ (k = sh ∨ F' k ∨ (Value.slice yp L yc).ownBlock = some k) := fun k hk hf hy h0 => by
    rcases h0 with h0 | h0 | h0
    · omega
    · exact hf h0
    · exact hy k h0 rfl
  refine ⟨h.bx.keepC h3 (nS xg xw.1 h.xF (fun g hg => (h.yw g hg).2.1)), h.by_.keepC h3 (nS yg xw.2 h.yG (fun g hg => (h.yw g hg).2.2)), xs, r, rd, wt, e, F2, cnt + 2, h.st.t3 (fun g hg => own_block h.oy g hg) (fun g hg he => by have := (h.yw g hg).1; have := h.ew g he; omega) h1 h2 h3, Sof.refl _ _, fun g hg => ?_, Nat.le_refl _, h.ch.trans h3 (fun k hk h0 => ?_)⟩
  · rcases h2 g hg with h0 | h0 | h0
    · exact h.fF g h0
    · exact .inr (h.yw g h0).1
    · exact .inr (by omega)
  · rcases h0 with h0 | h0 | h0
    · exact .inr (.inr (.inl h0))
    · rcases h.fF k h0 with h0 | h0
      · exact .inr (.inr (.inr (.inr h0)))
      · omega
    · have := (h.yw k h0).1; omega
end
theorem rput_nil {w : World} {d X : Nat} {e : Value} {xs : List Int} {r : Int} {rd wt : Bool} (h : Dq w d e X xs r rd wt) {p : Option Addr} {c : Nat} {ys : List Int} (hB : Byt w p 0 c ys) :
    Calls Try.prog 25 #[.pointer (some ⟨d, 0, .none⟩), .slice p 0 c] w fun en w' => en = .returned (.tuple #[.int .i64 (putN xs rd ys), .int .i64 (putHow xs rd ys)]) ∧ ∃ e', Dq w' d e' X (xs ++ ys.take (putN xs rd ys)) r rd wt ∧ Sof w e e' ∧ Chg (fun k => k = d ∨ e.ownBlock = some k) w w' := by
  obtain rfl : ys = [] := List.length_eq_zero_iff.1 hB.1
  have e1 : putN xs rd [] = 0 := by simp [putN]
  have e2 : putHow xs rd [] = 1 := by simp [putHow]
  rw [e1, e2]
  have HP : Hid (Dq w d e X xs r rd wt) := h
  clear h hB
  go_enter Try.func25, Try.ntmps25
  go_wp2
  go_ret2
  exact ⟨rfl, e, by simpa using HP.out, Sof.refl _ _, Chg.refl _ _⟩
theorem chg_all {w v : World} {b d sh : Nat} {e : Value} {F : Nat → Prop} (h : Chg (fun _ => False) w v) : Chg (fun k => k = b ∨ k = d ∨ k = sh ∨ e.ownBlock = some k ∨ F k) w v := h.mono (fun _ _ h => h.elim)
set_option maxHeartbeats 8000000 in
set_option maxRecDepth 100000 in
theorem act_any {w : World} {Z X b d sh cnt : Nat} {e : Value} {F : Nat → Prop} {xs : List Int} {r : Int} {rd wt : Bool} (hS : St w Z X b d sh cnt e F xs r rd wt xs r rd wt) (hc : cnt ≤ 5900000000000) (K wh Nn : Int) {dp : Option Addr} {dl dc : Nat} {ys : List Int} (hB : Byt w dp dl dc ys) (hy : ∀ y ∈ ys, 0 ≤ y ∧ y < 256) (hdl : dl < 140737488355000) (hdz : 0 < dl → ∀ g o, dp = some ⟨g, o, .none⟩ → g < Z) :
    Calls Try.prog 12 #[.pointer (some ⟨b, 0, .none⟩), .pointer (some ⟨d, 0, .none⟩), .agg #[.int .i64 K, .int .i64 wh, .slice dp dl dc, .int .i64 Nn], .pointer (some ⟨sh, 0, .none⟩)] w fun en w' => en = .returned (.bool true) ∧ Ended w w' Z X b d sh cnt e F := by
  have HS : Hid (St w Z X b d sh cnt e F xs r rd wt xs r rd wt) := hS
  have HD : Hid (Byt w dp dl dc ys ∧ (∀ y ∈ ys, 0 ≤ y ∧ y < 256) ∧ ∀ g o, 0 < dl → dp = some ⟨g, o, .none⟩ → g < Z) := ⟨hB, hy, fun g o h0 => hdz h0 g o⟩
  have hyl : Hid (ys.length = dl) := hB.1
  have hdc := hB.2.1
  have hdm : dc ≤ 9223372036854775807 := hB.2.2.1
  have hx5 := hS.p.1
  clear hS hB hy hdz
  go_enter Try.func12, Try.ntmps12
  go_upto_region 1 with fail
  have ha1 := ab_new w K wh Nn dp dl dc
  have hb1 := Trn.new w (.cells #[.int .i64 K, .int .i64 wh, .slice dp dl dc, .int .i64 Nn] 50)
  have hz1 : (w.alloc (.cells #[.int .i64 K, .int .i64 wh, .slice dp dl dc, .int .i64 Nn] 50)).heap.size = w.heap.size + 1 := by simp
  generalize w.alloc (.cells #[.int .i64 K, .int .i64 wh, .slice dp dl dc, .int .i64 Nn] 50) = W1 at *
  have H1 : Hid (St W1 Z X b d sh cnt e F xs r rd wt xs r rd wt ∧ Ab W1 w.heap.size K wh Nn dp dl dc ∧ Chg (fun _ => False) w W1 ∧ W1.heap.size = w.heap.size + 1 ∧ Byt W1 dp dl dc ys) := ⟨HS.out.below hb1, ha1, Chg.ofBelow hb1, hz1, byt_below HD.out.1 hb1⟩
  have hwX := HS.out.wX
  have hbX := HS.out.bX
  have hdX := HS.out.dX
  have hsX := HS.out.sX
  generalize hg : w.heap.size = ag at *
  clear ha1 hb1 hz1
  have k0 := H1.out.2.1.c0
  by_cases hk1 : K = 1
  · subst hk1
    have k2 := H1.out.2.1.c2
    go_wp2_with fail
    refine (lend_any H1.out.2.2.2.2 hdl).mono ?_
    rintro en V2 ⟨g, cg, rfl, hL, hb2⟩
    have hgl := lent_le hL
    have H2 : Hid (St V2 Z X b d sh cnt e F xs r rd wt xs r rd wt ∧ Ab V2 ag 1 wh Nn dp dl dc ∧ Chg (fun _ => False) w V2 ∧ Lent V2 W1.heap.size g cg ys ∧ Byt V2 dp dl dc ys ∧ W1.heap.size ≤ g) := ⟨H1.out.1.below hb2, H1.out.2.1.below hb2, H1.out.2.2.1.trans (Chg.ofBelow hb2) (fun _ _ h => h), hL, byt_below H1.out.2.2.2.2 hb2, hgl⟩
    have hW1 := H1.out.2.2.2.1
    clear hL hb2 k0 k2 hgl
    have hgb : g ≠ b := by have := H2.out.2.2.2.2.2; omega
    have c10 := put_pip H2.out.1.p (lent_byt H2.out.2.2.2.1) (fun _ a ha => by injection ha with ha; subst ha; exact hgb) HD.out.2.1
    rw [hyl.out] at c10
    go_wp2_with fail
    refine c10.mono ?_
    rintro en V3 ⟨rfl, hp3, ht3⟩
    have H3 : Hid (St V3 Z X b d sh cnt e F (xs ++ ys.take (putN xs rd ys)) r rd wt xs r rd wt ∧ Ab V3 ag 1 wh Nn dp dl dc ∧ Chg (fun k => k = b ∨ k = d ∨ k = sh ∨ e.ownBlock = some k ∨ F k) w V3 ∧ Lent V3 W1.heap.size g cg ys ∧ Byt V3 dp dl dc ys) := by
      refine ⟨H2.out.1.t1 ht3 hp3, H2.out.2.1.keep (Chg.ofTrn ht3) (fun h => by have : ag = b := h; omega), (chg_all H2.out.2.2.1).trans (Chg.ofTrn ht3) (fun k _ h => .inl h), lent_keep H2.out.2.2.2.1 (Chg.ofTrn ht3) hgb, (Chg.ofTrn ht3).byt H2.out.2.2.2.2.1 (fun h0 g' o' e' h => ?_)⟩
      have := HD.out.2.2 g' o' h0 e'
      have := HS.out.zb
      have : g' = b := h
      omega
    clear c10 hp3 ht3
    have z2 := H3.out.2.1.c2
    have hEZ : ∀ g' o', dp = some ⟨g', o', .none⟩ → 0 < dl → g' ≠ d ∧ e.ownBlock ≠ some g' := fun g' o' e' h0 => by
      have h1 := HD.out.2.2 g' o' h0 e'
      have h2 := HS.out.zd
      exact ⟨by omega, fun h => by have := (HS.out.eX g' h).1; have := HS.out.zb; omega⟩
    have c30 : Calls Try.prog 25 #[.pointer (some ⟨d, 0, .none⟩), .slice dp dl dc] V3 fun en w' => en = .returned (.tuple #[.int .i64 (putN xs rd ys), .int .i64 (putHow xs rd ys)]) ∧ ∃ e', Dq w' d e' X (xs ++ ys.take (putN xs rd ys)) r rd wt ∧ Sof V3 e e' ∧ Chg (fun k => k = d ∨ e.ownBlock = some k) V3 w' := by
      by_cases h0 : dl = 0
      · subst h0
        exact rput_nil H3.out.1.q H3.out.2.2.2.2
      · exact rput_any H3.out.1.q H3.out.2.2.2.2 hdl (fun g' o' e' => hEZ g' o' e' (by omega))
    go_wp2_with fail
    refine c30.mono ?_
    rintro en V4 ⟨rfl, e', hq4, hs4, ht4⟩
    have hsz3 := H3.out.2.2.1.size
    have hg3 := lent_lt H3.out.2.2.2.1
    have hwg : w.heap.size ≤ g := by have := H2.out.2.2.2.2.2; omega
    have hgS : ¬ (g = d ∨ e.ownBlock = some g) := fun h => by
      rcases h with h | h
      · omega
      · have := (HS.out.eX g h).2; omega
    have H4 : Hid (St V4 Z X b d sh cnt e' F (xs ++ ys.take (putN xs rd ys)) r rd wt (xs ++ ys.take (putN xs rd ys)) r rd wt ∧ Ab V4 ag 1 wh Nn dp dl dc ∧ Chg (fun k => k = b ∨ k = d ∨ k = sh ∨ e.ownBlock = some k ∨ F k) w V4 ∧ Lent V4 W1.heap.size g cg ys ∧ Byt V4 dp dl dc ys ∧ Sof w e e' ∧ (∀ k, e'.ownBlock = some k → k ≠ g)) := by
      refine ⟨H3.out.1.t2 ht4 hq4 hs4, H3.out.2.1.keep ht4 (fun h => ?_), H3.out.2.2.1.trans ht4 (fun k _ h => ?_), lent_keep H3.out.2.2.2.1 ht4 hgS, ht4.byt H3.out.2.2.2.2 (fun h0 g' o' e' h => ?_), fun k hk => ?_, fun k hk hkg => ?_⟩
      · rcases h with h | h
        · omega
        · have := (HS.out.eX ag h).2; omega
      · rcases h with h | h
        · exact .inr (.inl h)
        · exact .inr (.inr (.inr (.inl h)))
      · have := hEZ g' o' e' h0
        rcases h with h | h
        · exact this.1 h
        · exact this.2 h
      · rcases hs4 k hk with h | h
        · exact .inl h
        · exact .inr (by omega)
      · subst hkg
        rcases hs4 k hk with h | h
        · exact hgS (.inr h)
        · omega
    clear c30 hq4 hs4 ht4 z2 hEZ hgS hsz3
    generalize xs ++ ys.take (putN xs rd ys) = xs4 at *
    generalize putN xs rd ys = pn at *
    generalize putHow xs rd ys = ph at *
    have z4 := H4.out.2.1.c2
    go_wp2_with fail
    refine (kept_any H4.out.2.2.2.2.1 hdl H4.out.2.2.2.1).mono ?_
    rintro en V5 ⟨rfl, k5, hk5⟩
    have t5 : Chg (fun _ => False) V4 V5 := by subst hk5; exact ⟨rfl, rfl, rfl, Nat.le_refl _, fun _ _ _ => rfl⟩
    have H5 : Hid (St V5 Z X b d sh cnt e' F xs4 r rd wt xs4 r rd wt ∧ Chg (fun k => k = b ∨ k = d ∨ k = sh ∨ e.ownBlock = some k ∨ F k) w V5 ∧ Lent V5 W1.heap.size g cg ys ∧ Sof w e e' ∧ (∀ k, e'.ownBlock = some k → k ≠ g)) := ⟨H4.out.1.keep t5 (fun _ _ h => h) (fun _ _ h => h) (fun _ _ h => h), H4.out.2.2.1.trans t5 (fun _ _ h => h.elim), lent_keep H4.out.2.2.2.1 t5 (fun h => h), H4.out.2.2.2.2.2.1, H4.out.2.2.2.2.2.2⟩
    have hcg : dl ≤ cg ∧ cg ≤ 9223372036854775807 := by
      have h := own_cap H5.out.2.2.1
      have : cg ≤ 9223372036854775807 := h.2
      have := hyl.out
      omega
    have hcg1 := hcg.1
    have hcg2 := hcg.2
    have HC5 : Hid (∀ i, i < dl → (V5.cell? ⟨g, i, .none⟩).isSome = true ∧ V5.frozen? ⟨g, i, .none⟩ = false) := fun i hi => by
      have hl := H5.out.2.2.1
      unfold Lent at hl
      have hlen : i < (ys ++ marks).length := by rw [List.length_append]; have := hyl.out; omega
      have h1 := World.ownsRow.cells hl (g := g) rfl i _ (by8_get (x := (ys ++ marks)[i]) (by simp))
      rw [le_addr_add, Nat.zero_add] at h1
      exact ⟨by rw [h1]; rfl, hl.frozenAt i⟩
    clear hk5 t5 z4 hcg
    go_wp2
    go_loopw [14] (fun iv wr => ∃ i : Nat, i ≤ dl ∧ iv = .int .i64 i ∧ Hid (Chg (· = g) V5 wr ∧ ∀ j, j < dl → (wr.cell? ⟨g, j, .none⟩).isSome = true ∧ wr.frozen? ⟨g, j, .none⟩ = false)) (fun iv _ => (dl - intOf iv).toNat)
    case atStart => exact ⟨0, by omega, rfl, Chg.refl _ _, HC5.out⟩
    case round =>
      obtain ⟨i, hi, rfl, HW⟩ := hrel
      by_cases hlt : i < dl
      · have g0 : (i : Int) < dl := by omega
        obtain ⟨hc1, hf1⟩ := HW.out.2 i hlt
        obtain ⟨u, hu⟩ := Option.isSome_iff_exists.1 hc1
        have HN : Hid (Chg (· = g) V5 (wr.setCell ⟨g, i, .none⟩ (.int .u8 85)) ∧ ∀ j, j < dl → ((wr.setCell ⟨g, i, .none⟩ (.int .u8 85)).cell? ⟨g, j, .none⟩).isSome = true ∧ (wr.setCell ⟨g, i, .none⟩ (.int .u8 85)).frozen? ⟨g, j, .none⟩ = false) :=
          ⟨HW.out.1.trans (chg_set g i _ _) (fun _ _ h => h), fun j hj => ⟨World.isSome_setCells g [.int .u8 85] i wr ⟨g, j, .none⟩ (HW.out.2 j hj).1, (World.frozen?_setCells g [.int .u8 85] i wr ⟨g, j, .none⟩).trans (HW.out.2 j hj).2⟩⟩
        clear hc1
        go_wp2
        exact ⟨⟨i + 1, by omega, rfl, HN⟩, by simp only [intOf]; omega⟩
      · obtain rfl : i = dl := by omega
        have HE : Hid (Ended w wr Z X b d sh cnt e F) := by
          have hgF : ∀ k, k < X → ¬ k = g := fun k hk h => by omega
          refine ⟨xs4, r, rd, wt, e', F, cnt, H5.out.1.keep HW.out.1 hgF (fun k hk => H5.out.2.2.2.2 k hk) (fun k hk h => ?_), H5.out.2.2.2.1, fun k hk => .inl hk, by omega, H5.out.2.1.trans HW.out.1 (fun k hk h => ?_)⟩
          · have := (HS.out.s.ge k hk).2
            have : k = g := h
            omega
          · have : k = g := h
            omega
        clear HW
        go_wp2
        go_ret
        exact ⟨rfl, HE.out⟩
  · by_cases hk2 : K = 2
    · subst hk2
      have k3 := H1.out.2.1.c3
      have hW1 := H1.out.2.2.2.1
      go_wp2_with fail
      refine (take_pip H1.out.1.p Nn).mono ?_
      rintro en V2 ⟨tp, tc, rfl, hO2, hn2, hp2, ht2⟩
      have H2 : Hid (St V2 Z X b d sh cnt e F (xs.drop (takeN xs Nn)) ((r + takeN xs Nn) % 4294967296) rd wt xs r rd wt ∧ Ab V2 ag 2 wh Nn dp dl dc ∧ Chg (fun k => k = b ∨ k = d ∨ k = sh ∨ e.ownBlock = some k ∨ F k) w V2 ∧ V2.ownsRow W1.heap.size 5 1 (.slice tp (takeN xs Nn) tc) (takeN xs Nn) (by8 (xs.take (takeN xs Nn))) ∧ (takeN xs Nn = 0 → tp = none ∧ tc = 0)) :=
        ⟨H1.out.1.t1 ht2 hp2, H1.out.2.1.keep (Chg.ofTrn ht2) (fun h => by have : ag = b := h; omega), (chg_all H1.out.2.2.1).trans (Chg.ofTrn ht2) (fun k _ h => .inl h), hO2, hn2⟩
      clear hO2 hn2 hp2 ht2 k0 k3
      have k3 := H2.out.2.1.c3
      go_wp2_with fail
      refine (rtake_any H2.out.1.q Nn).mono ?_
      rintro en V3 ⟨qp, qc, e', rfl, hB3, hq3, hs3, ht3⟩
      have hsz2 := H2.out.2.2.1.size
      have hlk : ∀ g, (Value.slice tp (takeN xs Nn) tc).ownBlock = some g → W1.heap.size ≤ g ∧ g < V2.heap.size := fun g hg => ⟨own_block H2.out.2.2.2.1 g hg, own_ltC H2.out.2.2.2.1 g hg⟩
      have H3 : Hid (St V3 Z X b d sh cnt e' F (xs.drop (takeN xs Nn)) ((r + takeN xs Nn) % 4294967296) rd wt (xs.drop (takeN xs Nn)) ((r + takeN xs Nn) % 4294967296) rd wt ∧ Chg (fun k => k = b ∨ k = d ∨ k = sh ∨ e.ownBlock = some k ∨ F k) w V3 ∧ V3.ownsRow X 5 1 (.slice tp (takeN xs Nn) tc) (takeN xs Nn) (by8 (xs.take (takeN xs Nn))) ∧ (takeN xs Nn = 0 → tp = none ∧ tc = 0) ∧ Byt V3 qp (takeN xs Nn) qc (xs.take (takeN xs Nn)) ∧ Sof w e e' ∧ (∀ g, (Value.slice tp (takeN xs Nn) tc).ownBlock = some g → W1.heap.size ≤ g ∧ e'.ownBlock ≠ some g)) := by
        refine ⟨H2.out.1.t2 (ht3.mono (fun _ _ h => .inl h)) hq3 hs3, H2.out.2.2.1.trans ht3 (fun k _ h => .inr (.inl h)), ht3.own (own_mono H2.out.2.2.2.1 (by omega)) (fun g hg h => by have := hlk g hg; have : g = d := h; omega), H2.out.2.2.2.2, hB3, fun g hg => ?_, fun g hg => ⟨(hlk g hg).1, fun he => ?_⟩⟩
        · rcases hs3 g hg with h | h
          · exact .inl h
          · exact .inr (by omega)
        · rcases hs3 g he with h | h
          · have := (HS.out.eX g h).2
            have := (hlk g hg).1
            omega
          · have := (hlk g hg).2
            omega
      clear hB3 hq3 hs3 ht3 k3 hlk
      have hkn : takeN xs Nn ≤ 512 := by unfold takeN; omega
      have hkl : Hid ((xs.take (takeN xs Nn)).length = takeN xs Nn) := by
        show (xs.take (takeN xs Nn)).length = takeN xs Nn
        rw [List.length_take]
        unfold takeN
        omega
      generalize hxx : xs.take (takeN xs Nn) = us at *
      generalize xs.drop (takeN xs Nn) = vs at *
      generalize (r + takeN xs Nn) % 4294967296 = r3 at *
      generalize takeHow xs wt Nn = th at *
      generalize takeN xs Nn = k at *
      clear hxx
      go_wp2_with fail
      refine (bytes_any tp qp k tc qc us V3 (by omega) (byt_own H3.out.2.2.1) H3.out.2.2.2.2.1).mono ?_
      rintro en V4 ⟨rfl, k4, hk4⟩
      have t4 : Chg (fun _ => False) V3 V4 := by subst hk4; exact ⟨rfl, rfl, rfl, Nat.le_refl _, fun _ _ _ => rfl⟩
      have hsz4 : V4.heap.size = V3.heap.size := by subst hk4; rfl
      have H4 : Hid (St V4 Z X b d sh cnt e' F vs r3 rd wt vs r3 rd wt ∧ Chg (fun k => k = b ∨ k = d ∨ k = sh ∨ e.ownBlock = some k ∨ F k) w V4 ∧ V4.ownsRow X 5 1 (.slice tp k tc) k (by8 us)) := ⟨H3.out.1.keep t4 (fun _ _ h => h) (fun _ _ h => h) (fun _ _ h => h), H3.out.2.1.trans t4 (fun _ _ h => h.elim), t4.own H3.out.2.2.1 (fun _ _ h => h)⟩
      have hsz3 := H3.out.2.1.size
      have c33 := sput_any H4.out.1.s (by omega) H4.out.2.2 hkl.out hkn (fun g hg hf => by have := (H3.out.2.2.2.2.2.2 g hg).1; have := (HS.out.s.ge g hf).2; omega)
      have HEN : Hid (∀ V5 F', Shel V5 X sh (cnt + 1) F' → (∀ g, F' g → F g ∨ (Value.slice tp k tc).ownBlock = some g ∨ V4.heap.size ≤ g) → Chg (fun k' => k' = sh ∨ F k' ∨ (Value.slice tp k tc).ownBlock = some k') V4 V5 → Ended w V5 Z X b d sh cnt e F) := fun V5 F' h1 h2 h3 => by
        refine ⟨vs, r3, rd, wt, e', F', cnt + 1, H4.out.1.t3 (fun g hg => own_block H4.out.2.2 g hg) (fun g hg => (H3.out.2.2.2.2.2.2 g hg).2) h1 h2 h3, H3.out.2.2.2.2.2.1, fun g hg => ?_, by omega, H4.out.2.1.trans h3 (fun g hgw h => ?_)⟩
        · rcases h2 g hg with h | h | h
          · exact .inl h
          · exact .inr (by have := (H3.out.2.2.2.2.2.2 g h).1; omega)
          · exact .inr (by omega)
        · rcases h with h | h | h
          · exact .inr (.inr (.inl h))
          · exact .inr (.inr (.inr (.inr h)))
          · have := (H3.out.2.2.2.2.2.2 g h).1
            omega
      clear hk4 t4 hsz4 hsz3
      by_cases hk0 : k = 0
      · obtain ⟨rfl, rfl⟩ := H3.out.2.2.2.1 hk0
        subst hk0
        have nn : ∀ W, (binOp .eql 22 (.slice none 0 0) (.slice none 0 0)).run Try.prog W = .ok (.bool true) W := fun W => run_eql_nil_slice W 22 5 none 0 0 0 0 Try.underlying22
        go_wp2_with fail
        clear nn
        refine c33.mono ?_
        rintro en V5 ⟨rfl, F', h1, h2, h3⟩
        have HE : Hid (Ended w V5 Z X b d sh cnt e F) := HEN.out V5 F' h1 h2 h3
        clear c33 h1 h2 h3
        go_wp2
        go_ret
        exact ⟨rfl, HE.out⟩
      · have j0 : (0 : Int) < k := by omega
        go_wp2_with fail
        refine c33.mono ?_
        rintro en V5 ⟨rfl, F', h1, h2, h3⟩
        have HE : Hid (Ended w V5 Z X b d sh cnt e F) := HEN.out V5 F' h1 h2 h3
        clear c33 h1 h2 h3
        go_wp2
        go_ret
        exact ⟨rfl, HE.out⟩
    · by_cases hk3 : K = 3
      · subst hk3
        have k3 := H1.out.2.1.c3
        go_wp2_with fail
        refine (shut_pip H1.out.1.p (Nn == 1)).mono ?_
        rintro en V3 ⟨⟨u, rfl⟩, hp3, ht3⟩
        have H3 : Hid (St V3 Z X b d sh cnt e F xs r (if (Nn == 1) = true then false else rd) (if (Nn == 1) = true then wt else false) xs r rd wt ∧ Ab V3 ag 3 wh Nn dp dl dc ∧ Chg (fun k => k = b ∨ k = d ∨ k = sh ∨ e.ownBlock = some k ∨ F k) w V3) := ⟨H1.out.1.t1 ht3 hp3, H1.out.2.1.keep (Chg.ofTrn ht3) (fun h => by have : ag = b := h; omega), (chg_all H1.out.2.2.1).trans (Chg.ofTrn ht3) (fun k _ h => .inl h)⟩
        clear hp3 ht3 k0 k3
        have k3 := H3.out.2.1.c3
        go_wp2_with fail
        refine (rshut_any H3.out.1.q (Nn == 1)).mono ?_
        rintro en V4 ⟨⟨u4, rfl⟩, hq4, ht4⟩
        have HE : Hid (Ended w V4 Z X b d sh cnt e F) := ⟨_, _, _, _, e, F, cnt, H3.out.1.t2 (ht4.mono (fun _ _ h => .inl h)) hq4 (Sof.refl _ _), Sof.refl _ _, fun k hk => .inl hk, by omega, H3.out.2.2.trans ht4 (fun k _ h => .inr (.inl h))⟩
        clear hq4 ht4 k3
        go_wp2
        go_ret
        exact ⟨rfl, HE.out⟩
      · by_cases hk4 : K = 4
        · subst hk4
          have hW1 := H1.out.2.2.2.1
          go_wp2_with fail
          refine (state_pip H1.out.1.p).mono ?_
          rintro en V1 ⟨xp, xc, rfl, hO1, hb1, hn1⟩
          obtain ⟨s, hs⟩ : ∃ s, s = (r + (xs.length : Int)) % 4294967296 := ⟨_, rfl⟩
          have HSS : Hid (s = (r + (xs.length : Int)) % 4294967296) := hs
          have es1 : stt xp xs.length xc r rd wt = .agg #[.slice xp xs.length xc, .int .u32 r, .int .u32 s, .bool rd, .bool wt] := by rw [hs]; rfl
          rw [es1]
          obtain ⟨L, hL⟩ : ∃ L, L = xs.length := ⟨_, rfl⟩
          have HLX : Hid (xs.length = L) := hL.symm
          rw [← hL] at hO1 hn1 ⊢
          have hL5 : L ≤ 512 := by omega
          clear es1 hs hL
          have J1 : Hid (St V1 Z X b d sh cnt e F xs r rd wt xs r rd wt ∧ Chg (fun _ => False) w V1 ∧ V1.ownsRow W1.heap.size 5 1 (.slice xp L xc) L (by8 xs) ∧ W1.heap.size ≤ V1.heap.size ∧ (L = 0 → xp = none ∧ xc = 0)) := ⟨H1.out.1.below hb1, H1.out.2.2.1.trans (Chg.ofBelow hb1) (fun _ _ h => h), hO1, hb1.size, hn1⟩
          clear hO1 hb1 hn1 k0
          go_upto_region 21 with fail
          have hsb := sb_new V1 xp L xc r s rd wt
          have hb2 := Trn.new V1 (.cells #[.slice xp L xc, .int .u32 r, .int .u32 s, .bool rd, .bool wt] 25)
          generalize V1.alloc (.cells #[.slice xp L xc, .int .u32 r, .int .u32 s, .bool rd, .bool wt] 25) = V2 at *
          have hxg : W1.heap.size ≤ V1.heap.size := J1.out.2.2.2.1
          generalize hxgg : V1.heap.size = xg at *
          have J2 : Hid (St V2 Z X b d sh cnt e F xs r rd wt xs r rd wt ∧ Chg (fun _ => False) w V2 ∧ V2.ownsRow W1.heap.size 5 1 (.slice xp L xc) L (by8 xs) ∧ Sb V2 xg xp L xc r s rd wt ∧ (∀ g, (Value.slice xp L xc).ownBlock = some g → g < xg)) := ⟨J1.out.1.below (by rw [hxgg]; exact hb2), J1.out.2.1.trans (Chg.ofBelow (by rw [hxgg]; exact hb2)) (fun _ _ h => h), own_belowX2 J1.out.2.2.1 (by rw [hxgg]; exact hb2), hsb, fun g hg => by rw [← hxgg]; exact own_ltC J1.out.2.2.1 g hg⟩
          have HN1 : Hid (L = 0 → xp = none ∧ xc = 0) := J1.out.2.2.2.2
          clear hsb hb2 J1 hxgg
          go_wp2_with fail
          refine (state_pip J2.out.1.p).mono ?_
          rintro en V3 ⟨yp, yc, rfl, hO3, hb3, _⟩
          have es3 : stt yp xs.length yc r rd wt = .agg #[.slice yp L yc, .int .u32 r, .int .u32 s, .bool rd, .bool wt] := by rw [HSS.out]; unfold stt; rw [HLX.out]
          rw [es3]
          rw [HLX.out] at hO3
          have hxlt : xg < V2.heap.size := lt_cell J2.out.2.2.2.1.c0
          have J3 : Hid (St V3 Z X b d sh cnt e F xs r rd wt xs r rd wt ∧ Chg (fun _ => False) w V3 ∧ V3.ownsRow W1.heap.size 5 1 (.slice xp L xc) L (by8 xs) ∧ Sb V3 xg xp L xc r s rd wt ∧ (∀ g, (Value.slice xp L xc).ownBlock = some g → g < xg) ∧ V3.ownsRow V2.heap.size 5 1 (.slice yp L yc) L (by8 xs) ∧ V2.heap.size ≤ V3.heap.size) := ⟨J2.out.1.below hb3, J2.out.2.1.trans (Chg.ofBelow hb3) (fun _ _ h => h), own_belowX2 J2.out.2.2.1 hb3, J2.out.2.2.2.1.below hb3, J2.out.2.2.2.2, hO3, hb3.size⟩
          clear es3 hO3 hb3 J2
          go_upto_region 22 with fail
          have hsb := sb_new V3 yp L yc r s rd wt
          have hb4 := Trn.new V3 (.cells #[.slice yp L yc, .int .u32 r, .int .u32 s, .bool rd, .bool wt] 25)
          generalize V3.alloc (.cells #[.slice yp L yc, .int .u32 r, .int .u32 s, .bool rd, .bool wt] 25) = V4 at *
          have G0 : Hid (G4 w V4.drew Z X b d sh cnt e F xs r rd wt s L xg xp xc V3.heap.size yp yc W1.heap.size) := by
            have hb5 : Below V3.heap.size V3 V4.drew := hb4.drew
            refine ⟨J3.out.1.below hb5, J3.out.2.1.trans (Chg.ofBelow hb5) (fun _ _ h => h), own_mono (own_belowX2 J3.out.2.2.1 hb5) (by omega), own_mono (own_belowX2 J3.out.2.2.2.2.2.1 hb5) (by have := J3.out.2.2.2.2.2.2; omega), J3.out.2.2.2.1.below hb5, ⟨hsb.c0, hsb.c1, hsb.c2, hsb.c3, hsb.c4⟩, fun g hg => ⟨own_block J3.out.2.2.1 g hg, J3.out.2.2.2.2.1 g hg⟩, fun g hg => ⟨by have := own_block J3.out.2.2.2.2.2.1 g hg; omega, own_ltC J3.out.2.2.2.2.2.1 g hg⟩, hxg, by have := J3.out.2.2.2.2.2.2; omega, by omega, fun g hg => by have := (HS.out.s.ge g hg).2; omega, fun g hg => by have := (HS.out.eX g hg).2; omega, by omega⟩
          generalize V3.heap.size = yg at *
          obtain ⟨A0, hA0⟩ : ∃ a, a = W1.heap.size := ⟨_, rfl⟩
          rw [← hA0] at G0
          have kS : (Sb V4.drew xg xp L xc r s rd wt ∧ Sb V4.drew yg yp L yc r s rd wt) := ⟨G0.out.bx, G0.out.by_⟩
          clear hsb hb4 J3 hA0
          by_cases hL0 : L = 0
          · have hxp := (HN1.out hL0).1
            have nn : ∀ W, (binOp .eql 22 (.slice xp L xc) (.slice none 0 0)).run Try.prog W = .ok (.bool true) W := fun W => by rw [hxp]; exact run_eql_nil_slice W 22 5 none 0 0 L xc Try.underlying22
            have HLZ : Hid (L = 0) := hL0
            clear hL0 hxp
            refine wp_region_held_drew (S := fun U => (Sb U xg xp L xc r s rd wt ∧ Sb U yg yp L yc r s rd wt)) (by kernel_rfl) kS (fun hHeld => ?_)
            refine wpAnyH_take (i := 0) (v := .agg #[.slice xp L xc, .int .u32 r, .int .u32 s, .bool rd, .bool wt]) rfl (by kernel_rfl) (by kernel_rfl) (by kernel_rfl) (fun _ _ _ h => h) (yieldsIf_load_mid (by rfl) 25 (.tmp 19) rfl xg 0 (by rfl) _ _ (fun ww hSw => Sb.rangeAt hSw.1) Try.underlying25 rfl (by kernel_rfl)) (by assumption) ?_
            simp only [Act.put, List.setIfInBounds_toArray, List.set_cons_zero, List.set_cons_succ, List.getElem_toArray, List.getElem_cons_succ, List.getElem_cons_zero]
            refine wpAnyH_take (i := 1) (v := (.pointer (some ⟨d, 0, .none⟩))) rfl (by kernel_rfl) (by kernel_rfl) (by kernel_rfl) (fun _ _ _ h => h) (Or.inl ⟨by rfl, fun ww hSw => by (try dsimp only at hSw); have hx0 := hSw.1.c0; have hy0 := hSw.2.c0; go_simp⟩) (by assumption) ?_
            simp only [Act.put, List.setIfInBounds_toArray, List.set_cons_zero, List.set_cons_succ, List.getElem_toArray, List.getElem_cons_succ, List.getElem_cons_zero]
            refine wpAnyH_ready (rs := [2]) (by kernel_rfl) (by simp) ?_
            refine AllReadyH.cons rfl (fun K hK => ?_) AllReadyH.nil
            go_simp
            refine (rstate_any G0.out.1.q).mono ?_
            rintro en U1 ⟨q1, e1, rfl, hB1, _, hb1⟩
            have es1 : stt q1 xs.length e1 r rd wt = .agg #[.slice q1 L e1, .int .u32 r, .int .u32 s, .bool rd, .bool wt] := by rw [HSS.out]; unfold stt; rw [HLX.out]
            rw [es1]
            rw [HLX.out] at hB1
            have G1 := G0.out.below hb1
            have GH1 : Hid (G4 w U1 Z X b d sh cnt e F xs r rd wt s L xg xp xc yg yp yc A0) := G1
            clear es1
            refine hK.out _ _ ⟨G1.bx, G1.by_⟩ (fun hHeld => ?_)
            clear hK K
            try simp only [Act.put, List.setIfInBounds_toArray, List.set_cons_zero, List.set_cons_succ, List.getElem_toArray, List.getElem_cons_succ, List.getElem_cons_zero]
            refine wpAnyH_ready (rs := [3]) (by kernel_rfl) (by simp) ?_
            refine AllReadyH.cons rfl (fun K hK => ?_) AllReadyH.nil
            go_simp
            refine (same_any r s rd wt G1.rx hB1 (by omega)).mono ?_
            rintro en U2 ⟨rfl, hb2⟩
            have G2 := G1.below hb2
            clear hB1 hb1
            refine hK.out _ _ ⟨G2.bx, G2.by_⟩ (fun hHeld => ?_)
            clear hK K
            try simp only [Act.put, List.setIfInBounds_toArray, List.set_cons_zero, List.set_cons_succ, List.getElem_toArray, List.getElem_cons_succ, List.getElem_cons_zero]
            clear G1 GH1
            refine wpAnyH_take (i := 4) (v := (.bool true)) rfl (by kernel_rfl) (by kernel_rfl) (by kernel_rfl) (fun _ _ _ h => h) (Or.inl ⟨by rfl, fun ww hSw => by (try dsimp only at hSw); have hx0 := hSw.1.c0; have hy0 := hSw.2.c0; go_simp⟩) (by assumption) ?_
            simp only [Act.put, List.setIfInBounds_toArray, List.set_cons_zero, List.set_cons_succ, List.getElem_toArray, List.getElem_cons_succ, List.getElem_cons_zero]
            refine wpAnyH_take (i := 5) (v := .agg #[.slice yp L yc, .int .u32 r, .int .u32 s, .bool rd, .bool wt]) rfl (by kernel_rfl) (by kernel_rfl) (by kernel_rfl) (fun _ _ _ h => h) (yieldsIf_load_mid (by rfl) 25 (.tmp 20) rfl yg 0 (by rfl) _ _ (fun ww hSw => Sb.rangeAt hSw.2) Try.underlying25 rfl (by kernel_rfl)) (by assumption) ?_
            simp only [Act.put, List.setIfInBounds_toArray, List.set_cons_zero, List.set_cons_succ, List.getElem_toArray, List.getElem_cons_succ, List.getElem_cons_zero]
            refine wpAnyH_take (i := 6) (v := (.pointer (some ⟨d, 0, .none⟩))) rfl (by kernel_rfl) (by kernel_rfl) (by kernel_rfl) (fun _ _ _ h => h) (Or.inl ⟨by rfl, fun ww hSw => by (try dsimp only at hSw); have hx0 := hSw.1.c0; have hy0 := hSw.2.c0; go_simp⟩) (by assumption) ?_
            simp only [Act.put, List.setIfInBounds_toArray, List.set_cons_zero, List.set_cons_succ, List.getElem_toArray, List.getElem_cons_succ, List.getElem_cons_zero]
            refine wpAnyH_ready (rs := [7]) (by kernel_rfl) (by simp) ?_
            refine AllReadyH.cons rfl (fun K hK => ?_) AllReadyH.nil
            go_simp
            refine (rstate_any G2.1.q).mono ?_
            rintro en U3 ⟨q3, e3, rfl, hB3, _, hb3⟩
            have es3 : stt q3 xs.length e3 r rd wt = .agg #[.slice q3 L e3, .int .u32 r, .int .u32 s, .bool rd, .bool wt] := by rw [HSS.out]; unfold stt; rw [HLX.out]
            rw [es3]
            rw [HLX.out] at hB3
            have G3 := G2.below hb3
            clear es3
            refine hK.out _ _ ⟨G3.bx, G3.by_⟩ (fun hHeld => ?_)
            clear hK K
            try simp only [Act.put, List.setIfInBounds_toArray, List.set_cons_zero, List.set_cons_succ, List.getElem_toArray, List.getElem_cons_succ, List.getElem_cons_zero]
            refine wpAnyH_ready (rs := [8]) (by kernel_rfl) (by simp) ?_
            refine AllReadyH.cons rfl (fun K hK => ?_) AllReadyH.nil
            go_simp
            refine (same_any r s rd wt G3.ry hB3 (by omega)).mono ?_
            rintro en U4 ⟨rfl, hb4⟩
            have G4x := G3.below hb4
            clear hB3 hb3 hb2
            refine hK.out _ _ ⟨G4x.bx, G4x.by_⟩ (fun hHeld => ?_)
            clear hK K
            try simp only [Act.put, List.setIfInBounds_toArray, List.set_cons_zero, List.set_cons_succ, List.getElem_toArray, List.getElem_cons_succ, List.getElem_cons_zero]
            clear G2 G3
            refine wpAnyH_take (i := 9) (v := (.bool true)) rfl (by kernel_rfl) (by kernel_rfl) (by kernel_rfl) (fun _ _ _ h => h) (Or.inl ⟨by rfl, fun ww hSw => by (try dsimp only at hSw); have hx0 := hSw.1.c0; have hy0 := hSw.2.c0; go_simp⟩) (by assumption) ?_
            simp only [Act.put, List.setIfInBounds_toArray, List.set_cons_zero, List.set_cons_succ, List.getElem_toArray, List.getElem_cons_succ, List.getElem_cons_zero]
            refine wpAnyH_take (i := 10) (v := (.bool true)) rfl (by kernel_rfl) (by kernel_rfl) (by kernel_rfl) (fun _ _ _ h => h) (Or.inl ⟨by rfl, fun ww hSw => by (try dsimp only at hSw); have hx0 := hSw.1.c0; have hy0 := hSw.2.c0; go_simp⟩) (by assumption) ?_
            simp only [Act.put, List.setIfInBounds_toArray, List.set_cons_zero, List.set_cons_succ, List.getElem_toArray, List.getElem_cons_succ, List.getElem_cons_zero]
            refine wpAnyH_take (i := 11) (v := (.pointer (some ⟨xg, 0, .none⟩))) rfl (by kernel_rfl) (by kernel_rfl) (by kernel_rfl) (fun _ _ _ h => h) (Or.inl ⟨by rfl, fun ww hSw => by (try dsimp only at hSw); have hx0 := hSw.1.c0; have hy0 := hSw.2.c0; go_simp⟩) (by assumption) ?_
            simp only [Act.put, List.setIfInBounds_toArray, List.set_cons_zero, List.set_cons_succ, List.getElem_toArray, List.getElem_cons_succ, List.getElem_cons_zero]
            refine wpAnyH_take (i := 12) (v := (.slice xp L xc)) rfl (by kernel_rfl) (by kernel_rfl) (by kernel_rfl) (fun _ _ _ h => h) (Or.inl ⟨by rfl, fun ww hSw => by (try dsimp only at hSw); have hx0 := hSw.1.c0; have hy0 := hSw.2.c0; go_simp⟩) (by assumption) ?_
            simp only [Act.put, List.setIfInBounds_toArray, List.set_cons_zero, List.set_cons_succ, List.getElem_toArray, List.getElem_cons_succ, List.getElem_cons_zero]
            refine wpAnyH_take (i := 13) (v := (.int .i64 L)) rfl (by kernel_rfl) (by kernel_rfl) (by kernel_rfl) (fun _ _ _ h => h) (Or.inl ⟨by rfl, fun ww hSw => by (try dsimp only at hSw); have hx0 := hSw.1.c0; have hy0 := hSw.2.c0; go_simp⟩) (by assumption) ?_
            simp only [Act.put, List.setIfInBounds_toArray, List.set_cons_zero, List.set_cons_succ, List.getElem_toArray, List.getElem_cons_succ, List.getElem_cons_zero]
            refine wpAnyH_take (i := 14) (v := (.bool false)) rfl (by kernel_rfl) (by kernel_rfl) (by kernel_rfl) (fun _ _ _ h => h) (Or.inl ⟨by rfl, fun ww hSw => by (try dsimp only at hSw); have hlz := HLZ.out; go_simp⟩) (by assumption) ?_
            simp only [Act.put, List.setIfInBounds_toArray, List.set_cons_zero, List.set_cons_succ, List.getElem_toArray, List.getElem_cons_succ, List.getElem_cons_zero]
            refine wpAnyH_take (i := 15) (v := (.bool false)) rfl (by kernel_rfl) (by kernel_rfl) (by kernel_rfl) (fun _ _ _ h => h) (Or.inl ⟨by rfl, fun ww hSw => by (try dsimp only at hSw); have hx0 := hSw.1.c0; have hy0 := hSw.2.c0; go_simp⟩) (by assumption) ?_
            simp only [Act.put, List.setIfInBounds_toArray, List.set_cons_zero, List.set_cons_succ, List.getElem_toArray, List.getElem_cons_succ, List.getElem_cons_zero]
            refine wpAnyH_take (i := 16) (v := (.pointer (some ⟨xg, 0, .none⟩))) rfl (by kernel_rfl) (by kernel_rfl) (by kernel_rfl) (fun _ _ _ h => h) (Or.inl ⟨by rfl, fun ww hSw => by (try dsimp only at hSw); have hx0 := hSw.1.c0; have hy0 := hSw.2.c0; go_simp⟩) (by assumption) ?_
            simp only [Act.put, List.setIfInBounds_toArray, List.set_cons_zero, List.set_cons_succ, List.getElem_toArray, List.getElem_cons_succ, List.getElem_cons_zero]
            refine wpAnyH_take (i := 17) (v := (.slice xp L xc)) rfl (by kernel_rfl) (by kernel_rfl) (by kernel_rfl) (fun _ _ _ h => h) (Or.inl ⟨by rfl, fun ww hSw => by (try dsimp only at hSw); have hx0 := hSw.1.c0; have hy0 := hSw.2.c0; go_simp⟩) (by assumption) ?_
            simp only [Act.put, List.setIfInBounds_toArray, List.set_cons_zero, List.set_cons_succ, List.getElem_toArray, List.getElem_cons_succ, List.getElem_cons_zero]
            refine wpAnyH_take (i := 18) (v := (.bool true)) rfl (by kernel_rfl) (by kernel_rfl) (by kernel_rfl) (fun _ _ _ h => h) (Or.inl ⟨by rfl, fun ww hSw => by (try dsimp only at hSw); have nn1 := nn ww; go_simp⟩) (by assumption) ?_
            simp only [Act.put, List.setIfInBounds_toArray, List.set_cons_zero, List.set_cons_succ, List.getElem_toArray, List.getElem_cons_succ, List.getElem_cons_zero]
            refine wpAnyH_take (i := 19) (v := (.bool true)) rfl (by kernel_rfl) (by kernel_rfl) (by kernel_rfl) (fun _ _ _ h => h) (Or.inl ⟨by rfl, fun ww hSw => by (try dsimp only at hSw); have hx0 := hSw.1.c0; have hy0 := hSw.2.c0; go_simp⟩) (by assumption) ?_
            simp only [Act.put, List.setIfInBounds_toArray, List.set_cons_zero, List.set_cons_succ, List.getElem_toArray, List.getElem_cons_succ, List.getElem_cons_zero]
            refine wpAnyH_take (i := 20) (v := (.bool true)) rfl (by kernel_rfl) (by kernel_rfl) (by kernel_rfl) (fun _ _ _ h => h) (Or.inl ⟨by rfl, fun ww hSw => by (try dsimp only at hSw); have hx0 := hSw.1.c0; have hy0 := hSw.2.c0; go_simp⟩) (by assumption) ?_
            simp only [Act.put, List.setIfInBounds_toArray, List.set_cons_zero, List.set_cons_succ, List.getElem_toArray, List.getElem_cons_succ, List.getElem_cons_zero]
            refine wpAnyH_take (i := 21) (v := (.bool true)) rfl (by kernel_rfl) (by kernel_rfl) (by kernel_rfl) (fun _ _ _ h => h) (Or.inl ⟨by rfl, fun ww hSw => by (try dsimp only at hSw); have hx0 := hSw.1.c0; have hy0 := hSw.2.c0; go_simp⟩) (by assumption) ?_
            simp only [Act.put, List.setIfInBounds_toArray, List.set_cons_zero, List.set_cons_succ, List.getElem_toArray, List.getElem_cons_succ, List.getElem_cons_zero]
            refine wpAnyH_take (i := 22) (v := (.pointer (some ⟨sh, 0, .none⟩))) rfl (by kernel_rfl) (by kernel_rfl) (by kernel_rfl) (fun _ _ _ h => h) (Or.inl ⟨by rfl, fun ww hSw => by (try dsimp only at hSw); have hx0 := hSw.1.c0; have hy0 := hSw.2.c0; go_simp⟩) (by assumption) ?_
            simp only [Act.put, List.setIfInBounds_toArray, List.set_cons_zero, List.set_cons_succ, List.getElem_toArray, List.getElem_cons_succ, List.getElem_cons_zero]
            refine wpAnyH_take (i := 23) (v := (.pointer (some ⟨xg, 0, .none⟩))) rfl (by kernel_rfl) (by kernel_rfl) (by kernel_rfl) (fun _ _ _ h => h) (Or.inl ⟨by rfl, fun ww hSw => by (try dsimp only at hSw); have hx0 := hSw.1.c0; have hy0 := hSw.2.c0; go_simp⟩) (by assumption) ?_
            simp only [Act.put, List.setIfInBounds_toArray, List.set_cons_zero, List.set_cons_succ, List.getElem_toArray, List.getElem_cons_succ, List.getElem_cons_zero]
            refine wpAnyH_take (i := 24) (v := (.slice xp L xc)) rfl (by kernel_rfl) (by kernel_rfl) (by kernel_rfl) (fun _ _ _ h => h) (Or.inl ⟨by rfl, fun ww hSw => by (try dsimp only at hSw); have hx0 := hSw.1.c0; have hy0 := hSw.2.c0; go_simp⟩) (by assumption) ?_
            simp only [Act.put, List.setIfInBounds_toArray, List.set_cons_zero, List.set_cons_succ, List.getElem_toArray, List.getElem_cons_succ, List.getElem_cons_zero]
            refine wpAnyH_ready (rs := [25]) (by kernel_rfl) (by simp) ?_
            refine AllReadyH.cons rfl (fun K hK => ?_) AllReadyH.nil
            go_simp
            refine (sput_any G4x.1.s (by omega) G4x.ox HLX.out (by omega) G4x.xF).mono ?_
            rintro en U5 ⟨rfl, F5, h51, h52, h53⟩
            have G5 := G4x.sx h51 h52 h53
            clear h51 h53
            refine hK.out _ _ ⟨G5.bx, G5.by_⟩ (fun hHeld => ?_)
            clear hK K
            try simp only [Act.put, List.setIfInBounds_toArray, List.set_cons_zero, List.set_cons_succ, List.getElem_toArray, List.getElem_cons_succ, List.getElem_cons_zero]
            refine wpAnyH_take (i := 26) (v := (.bool true)) rfl (by kernel_rfl) (by kernel_rfl) (by kernel_rfl) (fun _ _ _ h => h) (Or.inl ⟨by rfl, fun ww hSw => by (try dsimp only at hSw); have hx0 := hSw.1.c0; have hy0 := hSw.2.c0; go_simp⟩) (by assumption) ?_
            simp only [Act.put, List.setIfInBounds_toArray, List.set_cons_zero, List.set_cons_succ, List.getElem_toArray, List.getElem_cons_succ, List.getElem_cons_zero]
            refine wpAnyH_take (i := 27) (v := (.bool true)) rfl (by kernel_rfl) (by kernel_rfl) (by kernel_rfl) (fun _ _ _ h => h) (Or.inl ⟨by rfl, fun ww hSw => by (try dsimp only at hSw); have hx0 := hSw.1.c0; have hy0 := hSw.2.c0; go_simp⟩) (by assumption) ?_
            simp only [Act.put, List.setIfInBounds_toArray, List.set_cons_zero, List.set_cons_succ, List.getElem_toArray, List.getElem_cons_succ, List.getElem_cons_zero]
            refine wpAnyH_take (i := 28) (v := (.pointer (some ⟨sh, 0, .none⟩))) rfl (by kernel_rfl) (by kernel_rfl) (by kernel_rfl) (fun _ _ _ h => h) (Or.inl ⟨by rfl, fun ww hSw => by (try dsimp only at hSw); have hx0 := hSw.1.c0; have hy0 := hSw.2.c0; go_simp⟩) (by assumption) ?_
            simp only [Act.put, List.setIfInBounds_toArray, List.set_cons_zero, List.set_cons_succ, List.getElem_toArray, List.getElem_cons_succ, List.getElem_cons_zero]
            refine wpAnyH_take (i := 29) (v := (.pointer (some ⟨yg, 0, .none⟩))) rfl (by kernel_rfl) (by kernel_rfl) (by kernel_rfl) (fun _ _ _ h => h) (Or.inl ⟨by rfl, fun ww hSw => by (try dsimp only at hSw); have hx0 := hSw.1.c0; have hy0 := hSw.2.c0; go_simp⟩) (by assumption) ?_
            simp only [Act.put, List.setIfInBounds_toArray, List.set_cons_zero, List.set_cons_succ, List.getElem_toArray, List.getElem_cons_succ, List.getElem_cons_zero]
            refine wpAnyH_take (i := 30) (v := (.slice yp L yc)) rfl (by kernel_rfl) (by kernel_rfl) (by kernel_rfl) (fun _ _ _ h => h) (Or.inl ⟨by rfl, fun ww hSw => by (try dsimp only at hSw); have hx0 := hSw.1.c0; have hy0 := hSw.2.c0; go_simp⟩) (by assumption) ?_
            simp only [Act.put, List.setIfInBounds_toArray, List.set_cons_zero, List.set_cons_succ, List.getElem_toArray, List.getElem_cons_succ, List.getElem_cons_zero]
            refine wpAnyH_ready (rs := [31]) (by kernel_rfl) (by simp) ?_
            refine AllReadyH.cons rfl (fun K hK => ?_) AllReadyH.nil
            go_simp
            refine (sput_any G5.1.s (by omega) G5.oy HLX.out (by omega) G5.yF).mono ?_
            rintro en U6 ⟨rfl, F6, h61, h62, h63⟩
            have G6 := G5.sy h61 h62 h63
            clear h61 h63
            refine hK.out _ _ ⟨G6.bx, G6.by_⟩ (fun hHeld => ?_)
            clear hK K
            try simp only [Act.put, List.setIfInBounds_toArray, List.set_cons_zero, List.set_cons_succ, List.getElem_toArray, List.getElem_cons_succ, List.getElem_cons_zero]
            refine wpAnyH_take (i := 32) (v := (.bool true)) rfl (by kernel_rfl) (by kernel_rfl) (by kernel_rfl) (fun _ _ _ h => h) (Or.inl ⟨by rfl, fun ww hSw => by (try dsimp only at hSw); have hx0 := hSw.1.c0; have hy0 := hSw.2.c0; go_simp⟩) (by assumption) ?_
            simp only [Act.put, List.setIfInBounds_toArray, List.set_cons_zero, List.set_cons_succ, List.getElem_toArray, List.getElem_cons_succ, List.getElem_cons_zero]
            refine wpAnyH_take (i := 33) (v := (.bool true)) rfl (by kernel_rfl) (by kernel_rfl) (by kernel_rfl) (fun _ _ _ h => h) (Or.inl ⟨by rfl, fun ww hSw => by (try dsimp only at hSw); have hx0 := hSw.1.c0; have hy0 := hSw.2.c0; go_simp⟩) (by assumption) ?_
            simp only [Act.put, List.setIfInBounds_toArray, List.set_cons_zero, List.set_cons_succ, List.getElem_toArray, List.getElem_cons_succ, List.getElem_cons_zero]
            refine wpAnyH_done (by kernel_rfl) ?_ _
            have HE : Hid (Ended w U6 Z X b d sh cnt e F) := G6.fin
            clear hHeld G6 G5 G4x kS
            go_wp2
            go_ret
            exact ⟨rfl, HE.out⟩
          · have HLZ : Hid (0 < L) := by show 0 < L; omega
            clear hL0
            refine wp_region_held_drew (S := fun U => (Sb U xg xp L xc r s rd wt ∧ Sb U yg yp L yc r s rd wt)) (by kernel_rfl) kS (fun hHeld => ?_)
            refine wpAnyH_take (i := 0) (v := .agg #[.slice xp L xc, .int .u32 r, .int .u32 s, .bool rd, .bool wt]) rfl (by kernel_rfl) (by kernel_rfl) (by kernel_rfl) (fun _ _ _ h => h) (yieldsIf_load_mid (by rfl) 25 (.tmp 19) rfl xg 0 (by rfl) _ _ (fun ww hSw => Sb.rangeAt hSw.1) Try.underlying25 rfl (by kernel_rfl)) (by assumption) ?_
            simp only [Act.put, List.setIfInBounds_toArray, List.set_cons_zero, List.set_cons_succ, List.getElem_toArray, List.getElem_cons_succ, List.getElem_cons_zero]
            refine wpAnyH_take (i := 1) (v := (.pointer (some ⟨d, 0, .none⟩))) rfl (by kernel_rfl) (by kernel_rfl) (by kernel_rfl) (fun _ _ _ h => h) (Or.inl ⟨by rfl, fun ww hSw => by (try dsimp only at hSw); have hx0 := hSw.1.c0; have hy0 := hSw.2.c0; go_simp⟩) (by assumption) ?_
            simp only [Act.put, List.setIfInBounds_toArray, List.set_cons_zero, List.set_cons_succ, List.getElem_toArray, List.getElem_cons_succ, List.getElem_cons_zero]
            refine wpAnyH_ready (rs := [2]) (by kernel_rfl) (by simp) ?_
            refine AllReadyH.cons rfl (fun K hK => ?_) AllReadyH.nil
            go_simp
            refine (rstate_any G0.out.1.q).mono ?_
            rintro en U1 ⟨q1, e1, rfl, hB1, _, hb1⟩
            have es1 : stt q1 xs.length e1 r rd wt = .agg #[.slice q1 L e1, .int .u32 r, .int .u32 s, .bool rd, .bool wt] := by rw [HSS.out]; unfold stt; rw [HLX.out]
            rw [es1]
            rw [HLX.out] at hB1
            have G1 := G0.out.below hb1
            have GH1 : Hid (G4 w U1 Z X b d sh cnt e F xs r rd wt s L xg xp xc yg yp yc A0) := G1
            clear es1
            refine hK.out _ _ ⟨G1.bx, G1.by_⟩ (fun hHeld => ?_)
            clear hK K
            try simp only [Act.put, List.setIfInBounds_toArray, List.set_cons_zero, List.set_cons_succ, List.getElem_toArray, List.getElem_cons_succ, List.getElem_cons_zero]
            refine wpAnyH_ready (rs := [3]) (by kernel_rfl) (by simp) ?_
            refine AllReadyH.cons rfl (fun K hK => ?_) AllReadyH.nil
            go_simp
            refine (same_any r s rd wt G1.rx hB1 (by omega)).mono ?_
            rintro en U2 ⟨rfl, hb2⟩
            have G2 := G1.below hb2
            clear hB1 hb1
            refine hK.out _ _ ⟨G2.bx, G2.by_⟩ (fun hHeld => ?_)
            clear hK K
            try simp only [Act.put, List.setIfInBounds_toArray, List.set_cons_zero, List.set_cons_succ, List.getElem_toArray, List.getElem_cons_succ, List.getElem_cons_zero]
            clear G1 GH1
            refine wpAnyH_take (i := 4) (v := (.bool true)) rfl (by kernel_rfl) (by kernel_rfl) (by kernel_rfl) (fun _ _ _ h => h) (Or.inl ⟨by rfl, fun ww hSw => by (try dsimp only at hSw); have hx0 := hSw.1.c0; have hy0 := hSw.2.c0; go_simp⟩) (by assumption) ?_
            simp only [Act.put, List.setIfInBounds_toArray, List.set_cons_zero, List.set_cons_succ, List.getElem_toArray, List.getElem_cons_succ, List.getElem_cons_zero]
            refine wpAnyH_take (i := 5) (v := .agg #[.slice yp L yc, .int .u32 r, .int .u32 s, .bool rd, .bool wt]) rfl (by kernel_rfl) (by kernel_rfl) (by kernel_rfl) (fun _ _ _ h => h) (yieldsIf_load_mid (by rfl) 25 (.tmp 20) rfl yg 0 (by rfl) _ _ (fun ww hSw => Sb.rangeAt hSw.2) Try.underlying25 rfl (by kernel_rfl)) (by assumption) ?_
            simp only [Act.put, List.setIfInBounds_toArray, List.set_cons_zero, List.set_cons_succ, List.getElem_toArray, List.getElem_cons_succ, List.getElem_cons_zero]
            refine wpAnyH_take (i := 6) (v := (.pointer (some ⟨d, 0, .none⟩))) rfl (by kernel_rfl) (by kernel_rfl) (by kernel_rfl) (fun _ _ _ h => h) (Or.inl ⟨by rfl, fun ww hSw => by (try dsimp only at hSw); have hx0 := hSw.1.c0; have hy0 := hSw.2.c0; go_simp⟩) (by assumption) ?_
            simp only [Act.put, List.setIfInBounds_toArray, List.set_cons_zero, List.set_cons_succ, List.getElem_toArray, List.getElem_cons_succ, List.getElem_cons_zero]
            refine wpAnyH_ready (rs := [7]) (by kernel_rfl) (by simp) ?_
            refine AllReadyH.cons rfl (fun K hK => ?_) AllReadyH.nil
            go_simp
            refine (rstate_any G2.1.q).mono ?_
            rintro en U3 ⟨q3, e3, rfl, hB3, _, hb3⟩
            have es3 : stt q3 xs.length e3 r rd wt = .agg #[.slice q3 L e3, .int .u32 r, .int .u32 s, .bool rd, .bool wt] := by rw [HSS.out]; unfold stt; rw [HLX.out]
            rw [es3]
            rw [HLX.out] at hB3
            have G3 := G2.below hb3
            clear es3
            refine hK.out _ _ ⟨G3.bx, G3.by_⟩ (fun hHeld => ?_)
            clear hK K
            try simp only [Act.put, List.setIfInBounds_toArray, List.set_cons_zero, List.set_cons_succ, List.getElem_toArray, List.getElem_cons_succ, List.getElem_cons_zero]
            refine wpAnyH_ready (rs := [8]) (by kernel_rfl) (by simp) ?_
            refine AllReadyH.cons rfl (fun K hK => ?_) AllReadyH.nil
            go_simp
            refine (same_any r s rd wt G3.ry hB3 (by omega)).mono ?_
            rintro en U4 ⟨rfl, hb4⟩
            have G4x := G3.below hb4
            clear hB3 hb3 hb2
            refine hK.out _ _ ⟨G4x.bx, G4x.by_⟩ (fun hHeld => ?_)
            clear hK K
            try simp only [Act.put, List.setIfInBounds_toArray, List.set_cons_zero, List.set_cons_succ, List.getElem_toArray, List.getElem_cons_succ, List.getElem_cons_zero]
            clear G2 G3
            refine wpAnyH_take (i := 9) (v := (.bool true)) rfl (by kernel_rfl) (by kernel_rfl) (by kernel_rfl) (fun _ _ _ h => h) (Or.inl ⟨by rfl, fun ww hSw => by (try dsimp only at hSw); have hx0 := hSw.1.c0; have hy0 := hSw.2.c0; go_simp⟩) (by assumption) ?_
            simp only [Act.put, List.setIfInBounds_toArray, List.set_cons_zero, List.set_cons_succ, List.getElem_toArray, List.getElem_cons_succ, List.getElem_cons_zero]
            refine wpAnyH_take (i := 10) (v := (.bool true)) rfl (by kernel_rfl) (by kernel_rfl) (by kernel_rfl) (fun _ _ _ h => h) (Or.inl ⟨by rfl, fun ww hSw => by (try dsimp only at hSw); have hx0 := hSw.1.c0; have hy0 := hSw.2.c0; go_simp⟩) (by assumption) ?_
            simp only [Act.put, List.setIfInBounds_toArray, List.set_cons_zero, List.set_cons_succ, List.getElem_toArray, List.getElem_cons_succ, List.getElem_cons_zero]
            refine wpAnyH_take (i := 11) (v := (.pointer (some ⟨xg, 0, .none⟩))) rfl (by kernel_rfl) (by kernel_rfl) (by kernel_rfl) (fun _ _ _ h => h) (Or.inl ⟨by rfl, fun ww hSw => by (try dsimp only at hSw); have hx0 := hSw.1.c0; have hy0 := hSw.2.c0; go_simp⟩) (by assumption) ?_
            simp only [Act.put, List.setIfInBounds_toArray, List.set_cons_zero, List.set_cons_succ, List.getElem_toArray, List.getElem_cons_succ, List.getElem_cons_zero]
            refine wpAnyH_take (i := 12) (v := (.slice xp L xc)) rfl (by kernel_rfl) (by kernel_rfl) (by kernel_rfl) (fun _ _ _ h => h) (Or.inl ⟨by rfl, fun ww hSw => by (try dsimp only at hSw); have hx0 := hSw.1.c0; have hy0 := hSw.2.c0; go_simp⟩) (by assumption) ?_
            simp only [Act.put, List.setIfInBounds_toArray, List.set_cons_zero, List.set_cons_succ, List.getElem_toArray, List.getElem_cons_succ, List.getElem_cons_zero]
            refine wpAnyH_take (i := 13) (v := (.int .i64 L)) rfl (by kernel_rfl) (by kernel_rfl) (by kernel_rfl) (fun _ _ _ h => h) (Or.inl ⟨by rfl, fun ww hSw => by (try dsimp only at hSw); have hx0 := hSw.1.c0; have hy0 := hSw.2.c0; go_simp⟩) (by assumption) ?_
            simp only [Act.put, List.setIfInBounds_toArray, List.set_cons_zero, List.set_cons_succ, List.getElem_toArray, List.getElem_cons_succ, List.getElem_cons_zero]
            refine wpAnyH_take (i := 14) (v := (.bool true)) rfl (by kernel_rfl) (by kernel_rfl) (by kernel_rfl) (fun _ _ _ h => h) (Or.inl ⟨by rfl, fun ww hSw => by (try dsimp only at hSw); have hlz := HLZ.out; go_simp⟩) (by assumption) ?_
            simp only [Act.put, List.setIfInBounds_toArray, List.set_cons_zero, List.set_cons_succ, List.getElem_toArray, List.getElem_cons_succ, List.getElem_cons_zero]
            refine wpAnyH_take (i := 15) (v := (.bool true)) rfl (by kernel_rfl) (by kernel_rfl) (by kernel_rfl) (fun _ _ _ h => h) (Or.inl ⟨by rfl, fun ww hSw => by (try dsimp only at hSw); have hx0 := hSw.1.c0; have hy0 := hSw.2.c0; go_simp⟩) (by assumption) ?_
            simp only [Act.put, List.setIfInBounds_toArray, List.set_cons_zero, List.set_cons_succ, List.getElem_toArray, List.getElem_cons_succ, List.getElem_cons_zero]
            refine wpAnyH_take (i := 16) (v := undef) rfl (by kernel_rfl) (by kernel_rfl) (by kernel_rfl) (fun _ _ _ h => h) (Or.inr ⟨by rfl, rfl⟩) (by assumption) ?_
            simp only [Act.put, List.setIfInBounds_toArray, List.set_cons_zero, List.set_cons_succ, List.getElem_toArray, List.getElem_cons_succ, List.getElem_cons_zero]
            refine wpAnyH_take (i := 17) (v := undef) rfl (by kernel_rfl) (by kernel_rfl) (by kernel_rfl) (fun _ _ _ h => h) (Or.inr ⟨by rfl, rfl⟩) (by assumption) ?_
            simp only [Act.put, List.setIfInBounds_toArray, List.set_cons_zero, List.set_cons_succ, List.getElem_toArray, List.getElem_cons_succ, List.getElem_cons_zero]
            refine wpAnyH_take (i := 18) (v := undef) rfl (by kernel_rfl) (by kernel_rfl) (by kernel_rfl) (fun _ _ _ h => h) (Or.inr ⟨by rfl, rfl⟩) (by assumption) ?_
            simp only [Act.put, List.setIfInBounds_toArray, List.set_cons_zero, List.set_cons_succ, List.getElem_toArray, List.getElem_cons_succ, List.getElem_cons_zero]
            refine wpAnyH_take (i := 19) (v := (.bool true)) rfl (by kernel_rfl) (by kernel_rfl) (by kernel_rfl) (fun _ _ _ h => h) (Or.inl ⟨by rfl, fun ww hSw => by (try dsimp only at hSw); have hx0 := hSw.1.c0; have hy0 := hSw.2.c0; go_simp⟩) (by assumption) ?_
            simp only [Act.put, List.setIfInBounds_toArray, List.set_cons_zero, List.set_cons_succ, List.getElem_toArray, List.getElem_cons_succ, List.getElem_cons_zero]
            refine wpAnyH_take (i := 20) (v := (.bool true)) rfl (by kernel_rfl) (by kernel_rfl) (by kernel_rfl) (fun _ _ _ h => h) (Or.inl ⟨by rfl, fun ww hSw => by (try dsimp only at hSw); have hx0 := hSw.1.c0; have hy0 := hSw.2.c0; go_simp⟩) (by assumption) ?_
            simp only [Act.put, List.setIfInBounds_toArray, List.set_cons_zero, List.set_cons_succ, List.getElem_toArray, List.getElem_cons_succ, List.getElem_cons_zero]
            refine wpAnyH_take (i := 21) (v := (.bool true)) rfl (by kernel_rfl) (by kernel_rfl) (by kernel_rfl) (fun _ _ _ h => h) (Or.inl ⟨by rfl, fun ww hSw => by (try dsimp only at hSw); have hx0 := hSw.1.c0; have hy0 := hSw.2.c0; go_simp⟩) (by assumption) ?_
            simp only [Act.put, List.setIfInBounds_toArray, List.set_cons_zero, List.set_cons_succ, List.getElem_toArray, List.getElem_cons_succ, List.getElem_cons_zero]
            refine wpAnyH_take (i := 22) (v := (.pointer (some ⟨sh, 0, .none⟩))) rfl (by kernel_rfl) (by kernel_rfl) (by kernel_rfl) (fun _ _ _ h => h) (Or.inl ⟨by rfl, fun ww hSw => by (try dsimp only at hSw); have hx0 := hSw.1.c0; have hy0 := hSw.2.c0; go_simp⟩) (by assumption) ?_
            simp only [Act.put, List.setIfInBounds_toArray, List.set_cons_zero, List.set_cons_succ, List.getElem_toArray, List.getElem_cons_succ, List.getElem_cons_zero]
            refine wpAnyH_take (i := 23) (v := (.pointer (some ⟨xg, 0, .none⟩))) rfl (by kernel_rfl) (by kernel_rfl) (by kernel_rfl) (fun _ _ _ h => h) (Or.inl ⟨by rfl, fun ww hSw => by (try dsimp only at hSw); have hx0 := hSw.1.c0; have hy0 := hSw.2.c0; go_simp⟩) (by assumption) ?_
            simp only [Act.put, List.setIfInBounds_toArray, List.set_cons_zero, List.set_cons_succ, List.getElem_toArray, List.getElem_cons_succ, List.getElem_cons_zero]
            refine wpAnyH_take (i := 24) (v := (.slice xp L xc)) rfl (by kernel_rfl) (by kernel_rfl) (by kernel_rfl) (fun _ _ _ h => h) (Or.inl ⟨by rfl, fun ww hSw => by (try dsimp only at hSw); have hx0 := hSw.1.c0; have hy0 := hSw.2.c0; go_simp⟩) (by assumption) ?_
            simp only [Act.put, List.setIfInBounds_toArray, List.set_cons_zero, List.set_cons_succ, List.getElem_toArray, List.getElem_cons_succ, List.getElem_cons_zero]
            refine wpAnyH_ready (rs := [25]) (by kernel_rfl) (by simp) ?_
            refine AllReadyH.cons rfl (fun K hK => ?_) AllReadyH.nil
            go_simp
            refine (sput_any G4x.1.s (by omega) G4x.ox HLX.out (by omega) G4x.xF).mono ?_
            rintro en U5 ⟨rfl, F5, h51, h52, h53⟩
            have G5 := G4x.sx h51 h52 h53
            clear h51 h53
            refine hK.out _ _ ⟨G5.bx, G5.by_⟩ (fun hHeld => ?_)
            clear hK K
            try simp only [Act.put, List.setIfInBounds_toArray, List.set_cons_zero, List.set_cons_succ, List.getElem_toArray, List.getElem_cons_succ, List.getElem_cons_zero]
            refine wpAnyH_take (i := 26) (v := (.bool true)) rfl (by kernel_rfl) (by kernel_rfl) (by kernel_rfl) (fun _ _ _ h => h) (Or.inl ⟨by rfl, fun ww hSw => by (try dsimp only at hSw); have hx0 := hSw.1.c0; have hy0 := hSw.2.c0; go_simp⟩) (by assumption) ?_
            simp only [Act.put, List.setIfInBounds_toArray, List.set_cons_zero, List.set_cons_succ, List.getElem_toArray, List.getElem_cons_succ, List.getElem_cons_zero]
            refine wpAnyH_take (i := 27) (v := (.bool true)) rfl (by kernel_rfl) (by kernel_rfl) (by kernel_rfl) (fun _ _ _ h => h) (Or.inl ⟨by rfl, fun ww hSw => by (try dsimp only at hSw); have hx0 := hSw.1.c0; have hy0 := hSw.2.c0; go_simp⟩) (by assumption) ?_
            simp only [Act.put, List.setIfInBounds_toArray, List.set_cons_zero, List.set_cons_succ, List.getElem_toArray, List.getElem_cons_succ, List.getElem_cons_zero]
            refine wpAnyH_take (i := 28) (v := (.pointer (some ⟨sh, 0, .none⟩))) rfl (by kernel_rfl) (by kernel_rfl) (by kernel_rfl) (fun _ _ _ h => h) (Or.inl ⟨by rfl, fun ww hSw => by (try dsimp only at hSw); have hx0 := hSw.1.c0; have hy0 := hSw.2.c0; go_simp⟩) (by assumption) ?_
            simp only [Act.put, List.setIfInBounds_toArray, List.set_cons_zero, List.set_cons_succ, List.getElem_toArray, List.getElem_cons_succ, List.getElem_cons_zero]
            refine wpAnyH_take (i := 29) (v := (.pointer (some ⟨yg, 0, .none⟩))) rfl (by kernel_rfl) (by kernel_rfl) (by kernel_rfl) (fun _ _ _ h => h) (Or.inl ⟨by rfl, fun ww hSw => by (try dsimp only at hSw); have hx0 := hSw.1.c0; have hy0 := hSw.2.c0; go_simp⟩) (by assumption) ?_
            simp only [Act.put, List.setIfInBounds_toArray, List.set_cons_zero, List.set_cons_succ, List.getElem_toArray, List.getElem_cons_succ, List.getElem_cons_zero]
            refine wpAnyH_take (i := 30) (v := (.slice yp L yc)) rfl (by kernel_rfl) (by kernel_rfl) (by kernel_rfl) (fun _ _ _ h => h) (Or.inl ⟨by rfl, fun ww hSw => by (try dsimp only at hSw); have hx0 := hSw.1.c0; have hy0 := hSw.2.c0; go_simp⟩) (by assumption) ?_
            simp only [Act.put, List.setIfInBounds_toArray, List.set_cons_zero, List.set_cons_succ, List.getElem_toArray, List.getElem_cons_succ, List.getElem_cons_zero]
            refine wpAnyH_ready (rs := [31]) (by kernel_rfl) (by simp) ?_
            refine AllReadyH.cons rfl (fun K hK => ?_) AllReadyH.nil
            go_simp
            refine (sput_any G5.1.s (by omega) G5.oy HLX.out (by omega) G5.yF).mono ?_
            rintro en U6 ⟨rfl, F6, h61, h62, h63⟩
            have G6 := G5.sy h61 h62 h63
            clear h61 h63
            refine hK.out _ _ ⟨G6.bx, G6.by_⟩ (fun hHeld => ?_)
            clear hK K
            try simp only [Act.put, List.setIfInBounds_toArray, List.set_cons_zero, List.set_cons_succ, List.getElem_toArray, List.getElem_cons_succ, List.getElem_cons_zero]
            refine wpAnyH_take (i := 32) (v := (.bool true)) rfl (by kernel_rfl) (by kernel_rfl) (by kernel_rfl) (fun _ _ _ h => h) (Or.inl ⟨by rfl, fun ww hSw => by (try dsimp only at hSw); have hx0 := hSw.1.c0; have hy0 := hSw.2.c0; go_simp⟩) (by assumption) ?_
            simp only [Act.put, List.setIfInBounds_toArray, List.set_cons_zero, List.set_cons_succ, List.getElem_toArray, List.getElem_cons_succ, List.getElem_cons_zero]
            refine wpAnyH_take (i := 33) (v := (.bool true)) rfl (by kernel_rfl) (by kernel_rfl) (by kernel_rfl) (fun _ _ _ h => h) (Or.inl ⟨by rfl, fun ww hSw => by (try dsimp only at hSw); have hx0 := hSw.1.c0; have hy0 := hSw.2.c0; go_simp⟩) (by assumption) ?_
            simp only [Act.put, List.setIfInBounds_toArray, List.set_cons_zero, List.set_cons_succ, List.getElem_toArray, List.getElem_cons_succ, List.getElem_cons_zero]
            refine wpAnyH_done (by kernel_rfl) ?_ _
            have HE : Hid (Ended w U6 Z X b d sh cnt e F) := G6.fin
            clear hHeld G6 G5 G4x kS
            go_wp2
            go_ret
            exact ⟨rfl, HE.out⟩
        · have HE : Hid (Ended w W1 Z X b d sh cnt e F) := ⟨_, _, _, _, e, F, cnt, H1.out.1, Sof.refl _ _, fun k hk => .inl hk, by omega, chg_all H1.out.2.2.1⟩
          go_wp2
          go_ret
          exact ⟨rfl, HE.out⟩
end Go.Proofs.Ytabhojfdkmeaoab
