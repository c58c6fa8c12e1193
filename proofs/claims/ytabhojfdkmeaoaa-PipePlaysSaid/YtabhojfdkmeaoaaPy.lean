import Derived.Test.YtabhojfdkmeaoaaAt
import Derived.Laws.Bits64
namespace Go.Proofs.Ytabhojfdkmeaoaa
open Go.RowKit
set_option linter.unusedVariables false
set_option linter.unusedSimpArgs false
theorem and1 (n : Int) : bits .and .i64 n 1 = n % 2 := by
  have h127 : (BitVec.ofInt 64 1).toNat = 2 ^ 1 - 1 := by decide
  have key : (BitVec.ofInt 64 n &&& BitVec.ofInt 64 1).toNat = (n % ((2 ^ 64 : Nat) : Int)).toNat % 2 ^ 1 := by
    rw [BitVec.toNat_and, BitVec.toNat_ofInt, h127, Nat.and_two_pow_sub_one_eq_mod]
  show IntKind.i64.wrap ((BitVec.ofInt 64 n &&& BitVec.ofInt 64 1).toNat : Nat) = n % 2
  rw [key, IntKind.wrap_i64]
  omega
/-- Two pipes, the document's two beside them, one shelf. -/
structure Tp (w wr : World) (X b0 b1 d0 d1 sh cnt : Nat) (e0 e1 : Value) (F : Nat → Prop) (xs0 : List Int) (r0 : Int) (rd0 wt0 : Bool) (xs1 : List Int) (r1 : Int) (rd1 wt1 : Bool) : Prop where
  bel : Below w.heap.size w wr
  s0 : St wr w.heap.size X b0 d0 sh cnt e0 F xs0 r0 rd0 wt0 xs0 r0 rd0 wt0
  s1 : St wr w.heap.size X b1 d1 sh cnt e1 F xs1 r1 rd1 wt1 xs1 r1 rd1 wt1
  bb : b0 ≠ b1
  bd : b0 ≠ d1
  db : d0 ≠ b1
  dd : d0 ≠ d1
  ee : ∀ g, e0.ownBlock = some g → e1.ownBlock ≠ some g
section
variable {w wr v : World} {X b0 b1 d0 d1 sh cnt : Nat} {e0 e1 : Value} {F S : Nat → Prop} {xs0 xs1 : List Int} {r0 r1 : Int} {rd0 wt0 rd1 wt1 : Bool}
theorem Tp.swap (h : Tp w wr X b0 b1 d0 d1 sh cnt e0 e1 F xs0 r0 rd0 wt0 xs1 r1 rd1 wt1) : Tp w wr X b1 b0 d1 d0 sh cnt e1 e0 F xs1 r1 rd1 wt1 xs0 r0 rd0 wt0 :=
  ⟨h.bel, h.s1, h.s0, Ne.symm h.bb, Ne.symm h.db, Ne.symm h.bd, Ne.symm h.dd, fun g h1 h0 => h.ee g h0 h1⟩
theorem Tp.below (h : Tp w wr X b0 b1 d0 d1 sh cnt e0 e1 F xs0 r0 rd0 wt0 xs1 r1 rd1 wt1) (t : Below wr.heap.size wr v) : Tp w v X b0 b1 d0 d1 sh cnt e0 e1 F xs0 r0 rd0 wt0 xs1 r1 rd1 wt1 :=
  ⟨h.bel.trans (t.mono h.bel.size), h.s0.below t, h.s1.below t, h.bb, h.bd, h.db, h.dd, h.ee⟩
/-- An act on the first of them. -/
theorem Tp.act (h : Tp w wr X b0 b1 d0 d1 sh cnt e0 e1 F xs0 r0 rd0 wt0 xs1 r1 rd1 wt1) (he : Ended wr v w.heap.size X b0 d0 sh cnt e0 F) : ∃ e0' F' cnt' xs0 r0 rd0 wt0, cnt' ≤ cnt + 2 ∧ Tp w v X b0 b1 d0 d1 sh cnt' e0' e1 F' xs0 r0 rd0 wt0 xs1 r1 rd1 wt1 := by
  obtain ⟨xs', r', rd', wt', e', F', cnt', hs, hsof, hF, hc, ht⟩ := he
  have nb : ∀ k, k < X → k ≠ b0 → k ≠ d0 → k ≠ sh → ¬ (k = b0 ∨ k = d0 ∨ k = sh ∨ e0.ownBlock = some k ∨ F k) := fun k hk h1 h2 h3 h0 => by
    rcases h0 with h0 | h0 | h0 | h0 | h0
    · exact h1 h0
    · exact h2 h0
    · exact h3 h0
    · have := (h.s0.eX k h0).1; omega
    · have := (h.s0.s.ge k h0).1; omega
  refine ⟨e', F', cnt', xs', r', rd', wt', hc, h.bel.trans (ht.toTrn h.bel.size (fun k hk => ?_)), hs, ⟨ht.pip h.s1.p (nb b1 h.s1.bX (Ne.symm h.bb) (Ne.symm h.db) h.s1.bs), h.s1.q.keep ht (nb d1 h.s1.dX (Ne.symm h.bd) (Ne.symm h.dd) h.s1.ds) (fun g hg h0 => ?_), hs.s, fun g hg hf => ?_, h.s1.bd, h.s1.bs, h.s1.ds, h.s1.bX, h.s1.zb, h.s1.zd, h.s1.zs⟩, h.bb, h.bd, h.db, h.dd, fun g hg h1 => ?_⟩
  · have hz := h.s0.zb
    have hz2 := h.s0.zd
    have hz3 := h.s0.zs
    have hz4 := h.s0.bX
    exact nb k (by omega) (by omega) (by omega) (by omega)
  · rcases h0 with h0 | h0 | h0 | h0 | h0
    · have := (h.s1.eX g hg).1; have := h.s0.bX; omega
    · have := (h.s1.eX g hg).1; have := h.s0.dX; omega
    · have := (h.s1.eX g hg).1; have := h.s0.sX; omega
    · exact h.ee g h0 hg
    · exact h.s1.ef g hg h0
  · rcases hF g hf with h0 | h0
    · exact h.s1.ef g hg h0
    · have := (h.s1.eX g hg).2; omega
  · rcases hsof g hg with h0 | h0
    · exact h.ee g h0 h1
    · have := (h.s1.eX g h1).2; omega
end
/-- The law's two rows of pointers. -/
structure Ar (w : World) (pa qa b0 b1 d0 d1 : Nat) : Prop where
  p0 : w.cell? ⟨pa, 0, .none⟩ = some (.pointer (some ⟨b0, 0, .none⟩))
  p1 : w.cell? ⟨pa, 1, .none⟩ = some (.pointer (some ⟨b1, 0, .none⟩))
  q0 : w.cell? ⟨qa, 0, .none⟩ = some (.pointer (some ⟨d0, 0, .none⟩))
  q1 : w.cell? ⟨qa, 1, .none⟩ = some (.pointer (some ⟨d1, 0, .none⟩))
theorem Ar.keep {S : Nat → Prop} {w v : World} {pa qa b0 b1 d0 d1 : Nat} (h : Ar w pa qa b0 b1 d0 d1) (t : Chg S w v) (hp : ¬ S pa) (hq : ¬ S qa) : Ar v pa qa b0 b1 d0 d1 :=
  ⟨(t.cell (p := ⟨pa, 0, .none⟩) (lt_cell h.p0) hp).trans h.p0, (t.cell (p := ⟨pa, 1, .none⟩) (lt_cell h.p1) hp).trans h.p1, (t.cell (p := ⟨qa, 0, .none⟩) (lt_cell h.q0) hq).trans h.q0, (t.cell (p := ⟨qa, 1, .none⟩) (lt_cell h.q1) hq).trans h.q1⟩
theorem Ar.below {w v : World} {pa qa b0 b1 d0 d1 : Nat} (h : Ar w pa qa b0 b1 d0 d1) (t : Below w.heap.size w v) : Ar v pa qa b0 b1 d0 d1 := h.keep (S := fun _ => False) (Chg.ofBelow t) (fun h => h) (fun h => h)
theorem ended_chg {w w' : World} {Z X b d sh cnt : Nat} {e : Value} {F : Nat → Prop} (h : Ended w w' Z X b d sh cnt e F) : Chg (fun k => k = b ∨ k = d ∨ k = sh ∨ e.ownBlock = some k ∨ F k) w w' := by
  obtain ⟨_, _, _, _, _, _, _, _, _, _, _, ht⟩ := h
  exact ht
theorem dq_rebase {w : World} {d : Nat} {e : Value} {X Y : Nat} {xs : List Int} {r : Int} {rd wt : Bool} (h : Dq w d (.slice none 0 0) X xs r rd wt) (hx : xs = []) (hd : d < Y) (hY : Y ≤ w.heap.size) : Dq w d (.slice none 0 0) Y xs r rd wt := by
  subst hx
  exact ⟨h.raw, World.ownsRow_nil _ _ _ _, hd, hY, h.br, h.l512⟩
set_option maxHeartbeats 8000000 in
set_option maxRecDepth 100000 in
theorem plays_any (w : World) (q : Option Addr) (m c : Nat) (O : Nat → Orec) (hA : ArgO w q m c O) : Calls Try.prog 8 #[.slice q m c] w fun en w' => en = .returned (.bool true) ∧ Below w.heap.size w w' := by
  have HA : Hid (ArgO w q m c O) := hA
  have hmc := hA.lc.1
  have hmm := hA.mm
  have hcm : c ≤ 9223372036854775807 := hA.lc.2
  clear hA
  go_enter Try.func8, Try.ntmps8
  go_wp2_with fail
  refine (new_any w).mono ?_
  rintro en W1 ⟨rfl, hp1, hb1⟩
  have hl1 := hp1.lt
  go_wp2_with fail
  refine (new_any W1).mono ?_
  rintro en W2 ⟨rfl, hp2, hb2⟩
  have hl2 := hp2.lt
  have H2 : Hid (Pip W2 w.heap.size [] 0 true true ∧ Pip W2 W1.heap.size [] 0 true true ∧ Below w.heap.size w W2 ∧ w.heap.size < W1.heap.size ∧ W1.heap.size < W2.heap.size) := ⟨hp1.below hb2, hp2, hb1.trans (hb2.mono (by omega)), hl1, hl2⟩
  clear hp1 hb1 hp2 hb2 hl1 hl2
  generalize W1.heap.size = b1 at *
  go_wp2_with fail
  have hb3 := Trn.new W2 (.cells #[.pointer (some ⟨w.heap.size, 0, .none⟩), .pointer (some ⟨b1, 0, .none⟩)] 54)
  have hz3 : (W2.alloc (.cells #[.pointer (some ⟨w.heap.size, 0, .none⟩), .pointer (some ⟨b1, 0, .none⟩)] 54)).heap.size = W2.heap.size + 1 := by simp
  have a0 : (W2.alloc (.cells #[.pointer (some ⟨w.heap.size, 0, .none⟩), .pointer (some ⟨b1, 0, .none⟩)] 54)).cell? ⟨W2.heap.size, 0, .none⟩ = some (.pointer (some ⟨w.heap.size, 0, .none⟩)) := by rw [World.cell?_alloc_at _ _ _ _ rfl]; rfl
  have a1 : (W2.alloc (.cells #[.pointer (some ⟨w.heap.size, 0, .none⟩), .pointer (some ⟨b1, 0, .none⟩)] 54)).cell? ⟨W2.heap.size, 1, .none⟩ = some (.pointer (some ⟨b1, 0, .none⟩)) := by rw [World.cell?_alloc_at _ _ _ _ rfl]; rfl
  generalize W2.alloc (.cells #[.pointer (some ⟨w.heap.size, 0, .none⟩), .pointer (some ⟨b1, 0, .none⟩)] 54) = W3 at *
  have H3 : Hid (Pip W3 w.heap.size [] 0 true true ∧ Pip W3 b1 [] 0 true true ∧ Below w.heap.size w W3 ∧ w.heap.size < b1 ∧ b1 < W2.heap.size ∧ W2.heap.size < W3.heap.size ∧ W3.cell? ⟨W2.heap.size, 0, .none⟩ = some (.pointer (some ⟨w.heap.size, 0, .none⟩)) ∧ W3.cell? ⟨W2.heap.size, 1, .none⟩ = some (.pointer (some ⟨b1, 0, .none⟩))) := by
    obtain ⟨h1, h2, h3, h4, h5⟩ := H2.out
    exact ⟨h1.below hb3, h2.below hb3, h3.trans (hb3.mono (by omega)), h4, h5, by omega, a0, a1⟩
  generalize W2.heap.size = pa at *
  clear hb3 hz3 a0 a1 H2
  refine (rnew_any W3).mono ?_
  rintro en W4 ⟨rfl, hq4, hb4, hz4⟩
  have H4 : Hid (Dq W4 W3.heap.size (.slice none 0 0) (W3.heap.size + 1) [] 0 true true ∧ Below W3.heap.size W3 W4 ∧ W4.heap.size = W3.heap.size + 1) := ⟨hq4, hb4, hz4⟩
  clear hq4 hb4 hz4
  go_wp2_with fail
  refine (rnew_any W4).mono ?_
  rintro en W5 ⟨rfl, hq5, hb5, hz5⟩
  have H5 : Hid (Pip W5 w.heap.size [] 0 true true ∧ Pip W5 b1 [] 0 true true ∧ Below w.heap.size w W5 ∧ (w.heap.size < b1 ∧ b1 < pa ∧ pa < W3.heap.size ∧ W3.heap.size < W4.heap.size ∧ W4.heap.size < W5.heap.size) ∧ W5.cell? ⟨pa, 0, .none⟩ = some (.pointer (some ⟨w.heap.size, 0, .none⟩)) ∧ W5.cell? ⟨pa, 1, .none⟩ = some (.pointer (some ⟨b1, 0, .none⟩)) ∧ Dq W5 W3.heap.size (.slice none 0 0) (W3.heap.size + 1) [] 0 true true ∧ Dq W5 W4.heap.size (.slice none 0 0) (W4.heap.size + 1) [] 0 true true) := by
    obtain ⟨h1, h2, h3, h4, h5, h6, h7, h8⟩ := H3.out
    obtain ⟨g1, g2, g3⟩ := H4.out
    have hb : Below W3.heap.size W3 W5 := g2.trans (hb5.mono (by omega))
    exact ⟨h1.below hb, h2.below hb, h3.trans (hb.mono (by omega)), ⟨h4, h5, h6, by omega, by omega⟩, (hb.cell (p := ⟨pa, 0, .none⟩) h6).trans h7, (hb.cell (p := ⟨pa, 1, .none⟩) h6).trans h8, g1.below hb5, hq5⟩
  clear hq5 hb5 hz5 H3 H4
  generalize W3.heap.size = d0 at *
  generalize W4.heap.size = d1 at *
  go_upto_region 3 with fail
  have hb6 := Trn.new W5 (.cells #[.pointer (some ⟨d0, 0, .none⟩), .pointer (some ⟨d1, 0, .none⟩)] 57)
  have hz6 : (W5.alloc (.cells #[.pointer (some ⟨d0, 0, .none⟩), .pointer (some ⟨d1, 0, .none⟩)] 57)).heap.size = W5.heap.size + 1 := by simp
  have a0 : (W5.alloc (.cells #[.pointer (some ⟨d0, 0, .none⟩), .pointer (some ⟨d1, 0, .none⟩)] 57)).cell? ⟨W5.heap.size, 0, .none⟩ = some (.pointer (some ⟨d0, 0, .none⟩)) := by rw [World.cell?_alloc_at _ _ _ _ rfl]; rfl
  have a1 : (W5.alloc (.cells #[.pointer (some ⟨d0, 0, .none⟩), .pointer (some ⟨d1, 0, .none⟩)] 57)).cell? ⟨W5.heap.size, 1, .none⟩ = some (.pointer (some ⟨d1, 0, .none⟩)) := by rw [World.cell?_alloc_at _ _ _ _ rfl]; rfl
  generalize W5.alloc (.cells #[.pointer (some ⟨d0, 0, .none⟩), .pointer (some ⟨d1, 0, .none⟩)] 57) = W6 at *
  have H6 : Hid (Pip W6 w.heap.size [] 0 true true ∧ Pip W6 b1 [] 0 true true ∧ Below w.heap.size w W6 ∧ (w.heap.size < b1 ∧ b1 < pa ∧ pa < d0 ∧ d0 < d1 ∧ d1 < W5.heap.size ∧ W5.heap.size < W6.heap.size) ∧ Ar W6 pa W5.heap.size w.heap.size b1 d0 d1 ∧ Dq W6 d0 (.slice none 0 0) (d0 + 1) [] 0 true true ∧ Dq W6 d1 (.slice none 0 0) (d1 + 1) [] 0 true true) := by
    obtain ⟨h1, h2, h3, ⟨h4, h5, h6, h7, h8⟩, h9, h10, h11, h12⟩ := H5.out
    exact ⟨h1.below hb6, h2.below hb6, h3.trans (hb6.mono (by omega)), ⟨h4, h5, h6, h7, h8, by omega⟩, ⟨(hb6.cell (p := ⟨pa, 0, .none⟩) (by show pa < _; omega)).trans h9, (hb6.cell (p := ⟨pa, 1, .none⟩) (by show pa < _; omega)).trans h10, a0, a1⟩, h11.below hb6, h12.below hb6⟩
  generalize W5.heap.size = qa at *
  clear hb6 hz6 a0 a1 H5
  have z0 := H6.out.2.2.2.2.1.p0
  have z1 := H6.out.2.2.2.2.1.p1
  go_upto_region 6 with fail
  have hb7 := Trn.new W6 (.cells #[.slice none 0 0, .slice none 0 0, .slice none 0 0, .int .i64 0] 61)
  have hz7 : (W6.alloc (.cells #[.slice none 0 0, .slice none 0 0, .slice none 0 0, .int .i64 0] 61)).heap.size = W6.heap.size + 1 := by simp
  have hfz := froz_new W6 #[.slice none 0 0, .slice none 0 0, .slice none 0 0, .int .i64 0] 61
  have s1 : (W6.alloc (.cells #[.slice none 0 0, .slice none 0 0, .slice none 0 0, .int .i64 0] 61)).cell? ⟨W6.heap.size, 1, .none⟩ = some (.slice none 0 0) := by rw [World.cell?_alloc_at _ _ _ _ rfl]; rfl
  have s2 : (W6.alloc (.cells #[.slice none 0 0, .slice none 0 0, .slice none 0 0, .int .i64 0] 61)).cell? ⟨W6.heap.size, 2, .none⟩ = some (.slice none 0 0) := by rw [World.cell?_alloc_at _ _ _ _ rfl]; rfl
  have s3 : (W6.alloc (.cells #[.slice none 0 0, .slice none 0 0, .slice none 0 0, .int .i64 0] 61)).cell? ⟨W6.heap.size, 3, .none⟩ = some (.int .i64 ((0 : Nat) : Int)) := by rw [World.cell?_alloc_at _ _ _ _ rfl]; rfl
  generalize W6.alloc (.cells #[.slice none 0 0, .slice none 0 0, .slice none 0 0, .int .i64 0] 61) = W7 at *
  have H7 : Hid (∃ F, Tp w W7 W7.heap.size w.heap.size b1 d0 d1 W6.heap.size 0 (.slice none 0 0) (.slice none 0 0) F [] 0 true true [] 0 true true ∧ Ar W7 pa qa w.heap.size b1 d0 d1) := by
    obtain ⟨h1, h2, h3, ⟨h4, h5, h6, h7, h8, h9⟩, h10, h11, h12⟩ := H6.out
    have hshel : Shel W7 W7.heap.size W6.heap.size 0 (fpS (0 / 2) (0 / 2) (fun _ => .slice none 0 0) (fun _ => .slice none 0 0) (.slice none 0 0) (.slice none 0 0)) :=
      ⟨fun _ => .slice none 0 0, fun _ => .slice none 0 0, fun _ => [], .slice none 0 0, .slice none 0 0, ⟨s1, s2, s3, hfz, by omega, Nat.le_refl _, World.ownsRow_nil _ _ _ _, World.ownsRow_nil _ _ _ _, fun i hi => (by omega), fun i hi => (by omega), fun i hi => (by omega), fun i j hi => (by omega), (fun g hg => by cases hg), Nat.le_refl _⟩, fun g => Iff.rfl⟩
    refine ⟨_, ⟨h3.trans (hb7.mono (by omega)), ⟨h1.below hb7, dq_rebase (e := .nilIface) (h11.below hb7) rfl (by omega) (Nat.le_refl _), hshel, (fun g hg => by cases hg), by omega, by omega, by omega, by omega, Nat.le_refl _, by omega, by omega⟩, ⟨h2.below hb7, dq_rebase (e := .nilIface) (h12.below hb7) rfl (by omega) (Nat.le_refl _), hshel, (fun g hg => by cases hg), by omega, by omega, by omega, by omega, by omega, by omega, by omega⟩, by omega, by omega, by omega, by omega, (fun g hg => by cases hg)⟩, h10.below hb7⟩
  have HX : Hid ((pa < W7.heap.size ∧ pa ≠ w.heap.size ∧ pa ≠ b1 ∧ pa ≠ d0 ∧ pa ≠ d1 ∧ pa ≠ W6.heap.size) ∧ qa < W7.heap.size ∧ qa ≠ w.heap.size ∧ qa ≠ b1 ∧ qa ≠ d0 ∧ qa ≠ d1 ∧ qa ≠ W6.heap.size) := by
    obtain ⟨h4, h5, h6, h7, h8, h9⟩ := H6.out.2.2.2.1
    exact ⟨⟨by omega, by omega, by omega, by omega, by omega, by omega⟩, by omega, by omega, by omega, by omega, by omega, by omega⟩
  clear hb7 hz7 hfz s1 s2 s3 z0 z1 H6
  generalize W6.heap.size = sh at *
  generalize W7.heap.size = X at *
  obtain ⟨b0, hb0⟩ : ∃ b0, b0 = w.heap.size := ⟨_, rfl⟩
  go_wp2
  go_loopw [6] (fun iv wr => ∃ I : Nat, I ≤ m ∧ iv = .int .i64 I ∧ Hid (∃ cnt e0 e1 F xs0 r0 rd0 wt0 xs1 r1 rd1 wt1, cnt ≤ 2 * I ∧ Tp w wr X w.heap.size b1 d0 d1 sh cnt e0 e1 F xs0 r0 rd0 wt0 xs1 r1 rd1 wt1 ∧ Ar wr pa qa w.heap.size b1 d0 d1)) (fun iv _ => (m - intOf iv).toNat)
  case atStart =>
    obtain ⟨F, h1, h2⟩ := H7.out
    exact ⟨0, by omega, rfl, 0, _, _, F, _, _, _, _, _, _, _, _, by omega, h1, h2⟩
  case round =>
    obtain ⟨I, hI, rfl, HM⟩ := hrel
    clear H7 hb0
    obtain ⟨cnt, e0, e1, F, xs0, r0, rd0, wt0, xs1, r1, rd1, wt1, hcn, hT, hR⟩ := HM.out
    have HP : Hid (Tp w wr X w.heap.size b1 d0 d1 sh cnt e0 e1 F xs0 r0 rd0 wt0 xs1 r1 rd1 wt1 ∧ Ar wr pa qa w.heap.size b1 d0 d1) := ⟨hT, hR⟩
    clear HM hT hR
    by_cases hlt : I < m
    · have g0 : (I : Int) < m := by omega
      obtain ⟨ab, ao, hq, hab, k0, k1, k2, k3⟩ := HA.out.cells HP.out.1.bel I hlt
      have HK : Hid (∀ V, Below w.heap.size w V → V.rangeAt ab (ao + I * 4) [.int .i64 (O I).k, .int .i64 (O I).wh, .slice (O I).s (O I).ln (O I).cd, .int .i64 (O I).n]) := fun V hV j u hj => by
        have tr : ∀ o u', wr.cell? ⟨ab, o, .none⟩ = some u' → V.cell? ⟨ab, o, .none⟩ = some u' := fun o u' h => ((hV.cell (p := ⟨ab, o, .none⟩) hab).trans (HP.out.1.bel.cell (p := ⟨ab, o, .none⟩) hab).symm).trans h
        match j, hj with
        | 0, hj => cases hj; exact tr _ _ k0
        | 1, hj => cases hj; exact tr _ _ k1
        | 2, hj => cases hj; exact tr _ _ k2
        | 3, hj => cases hj; exact tr _ _ k3
      have HD : Hid (Byt w (O I).s (O I).ln (O I).cd (O I).xs ∧ (∀ y ∈ (O I).xs, 0 ≤ y ∧ y < 256) ∧ (O I).ln < 140737488355000) := ⟨HA.out.byt I hlt, HA.out.bd I hlt, HA.out.ln I hlt⟩
      subst hq
      generalize (O I).k = Kd at *
      generalize (O I).wh = wh at *
      generalize (O I).n = Nn at *
      generalize (O I).s = ds at *
      generalize (O I).ln = dl at *
      generalize (O I).cd = dc at *
      generalize (O I).xs = ys at *
      clear k0 k2 k3
      have hnd := and1 wh
      have hdz : 0 < dl → ∀ g o, ds = some ⟨g, o, .none⟩ → g < w.heap.size := fun h0 g o e => by
        rcases HD.out.1.2.2.2 with h1 | ⟨g', o', e', h2, _⟩
        · omega
        · rw [e] at e'
          injection e' with e'
          injection e' with e1 _ _
          omega
      have HDZ : Hid (0 < dl → ∀ g o, ds = some ⟨g, o, .none⟩ → g < w.heap.size) := hdz
      clear hdz
      by_cases hw0 : wh % 2 = 0
      · rw [hw0] at hnd
        clear hw0
        go_upto_region 10 with fail
        have kS : (wr.drew.cell? ⟨pa, 0, .none⟩ = some (.pointer (some ⟨w.heap.size, 0, .none⟩)) ∧ wr.drew.cell? ⟨qa, 0, .none⟩ = some (.pointer (some ⟨d0, 0, .none⟩)) ∧ wr.drew.rangeAt ab (ao + I * 4) [.int .i64 Kd, .int .i64 wh, .slice ds dl dc, .int .i64 Nn]) := ⟨HP.out.2.p0, HP.out.2.q0, HK.out wr.drew HP.out.1.bel.drew⟩
        refine wp_region_held_drew (S := fun U => (U.cell? ⟨pa, 0, .none⟩ = some (.pointer (some ⟨w.heap.size, 0, .none⟩)) ∧ U.cell? ⟨qa, 0, .none⟩ = some (.pointer (some ⟨d0, 0, .none⟩)) ∧ U.rangeAt ab (ao + I * 4) [.int .i64 Kd, .int .i64 wh, .slice ds dl dc, .int .i64 Nn])) (by kernel_rfl) kS (fun hHeld => ?_)
        refine wpAnyH_take (i := 0) (v := (.int .i64 0)) rfl (by kernel_rfl) (by kernel_rfl) (by kernel_rfl) (fun _ _ _ h => h) (Or.inl ⟨by rfl, fun ww hSw => by (try dsimp only at hSw); go_simp⟩) (by assumption) ?_
        simp only [Act.put, List.setIfInBounds_toArray, List.set_cons_zero, List.set_cons_succ, List.getElem_toArray, List.getElem_cons_succ, List.getElem_cons_zero]
        refine wpAnyH_take (i := 1) (v := (.pointer (some ⟨pa, 0, .none⟩))) rfl (by kernel_rfl) (by kernel_rfl) (by kernel_rfl) (fun _ _ _ h => h) (Or.inl ⟨by rfl, fun ww hSw => by (try dsimp only at hSw); go_simp⟩) (by assumption) ?_
        simp only [Act.put, List.setIfInBounds_toArray, List.set_cons_zero, List.set_cons_succ, List.getElem_toArray, List.getElem_cons_succ, List.getElem_cons_zero]
        refine wpAnyH_take (i := 2) (v := (.pointer (some ⟨w.heap.size, 0, .none⟩))) rfl (by kernel_rfl) (by kernel_rfl) (by kernel_rfl) (fun _ _ _ h => h) (Or.inl ⟨by rfl, fun ww hSw => by (try dsimp only at hSw); go_simp⟩) (by assumption) ?_
        simp only [Act.put, List.setIfInBounds_toArray, List.set_cons_zero, List.set_cons_succ, List.getElem_toArray, List.getElem_cons_succ, List.getElem_cons_zero]
        refine wpAnyH_take (i := 3) (v := (.int .i64 0)) rfl (by kernel_rfl) (by kernel_rfl) (by kernel_rfl) (fun _ _ _ h => h) (Or.inl ⟨by rfl, fun ww hSw => by (try dsimp only at hSw); go_simp⟩) (by assumption) ?_
        simp only [Act.put, List.setIfInBounds_toArray, List.set_cons_zero, List.set_cons_succ, List.getElem_toArray, List.getElem_cons_succ, List.getElem_cons_zero]
        refine wpAnyH_take (i := 4) (v := (.pointer (some ⟨qa, 0, .none⟩))) rfl (by kernel_rfl) (by kernel_rfl) (by kernel_rfl) (fun _ _ _ h => h) (Or.inl ⟨by rfl, fun ww hSw => by (try dsimp only at hSw); go_simp⟩) (by assumption) ?_
        simp only [Act.put, List.setIfInBounds_toArray, List.set_cons_zero, List.set_cons_succ, List.getElem_toArray, List.getElem_cons_succ, List.getElem_cons_zero]
        refine wpAnyH_take (i := 5) (v := (.pointer (some ⟨d0, 0, .none⟩))) rfl (by kernel_rfl) (by kernel_rfl) (by kernel_rfl) (fun _ _ _ h => h) (Or.inl ⟨by rfl, fun ww hSw => by (try dsimp only at hSw); go_simp⟩) (by assumption) ?_
        simp only [Act.put, List.setIfInBounds_toArray, List.set_cons_zero, List.set_cons_succ, List.getElem_toArray, List.getElem_cons_succ, List.getElem_cons_zero]
        refine wpAnyH_take (i := 6) (v := (.slice (some ⟨ab, ao, .none⟩) m c)) rfl (by kernel_rfl) (by kernel_rfl) (by kernel_rfl) (fun _ _ _ h => h) (Or.inl ⟨by rfl, fun ww hSw => by (try dsimp only at hSw); go_simp⟩) (by assumption) ?_
        simp only [Act.put, List.setIfInBounds_toArray, List.set_cons_zero, List.set_cons_succ, List.getElem_toArray, List.getElem_cons_succ, List.getElem_cons_zero]
        refine wpAnyH_take (i := 7) (v := (.int .i64 I)) rfl (by kernel_rfl) (by kernel_rfl) (by kernel_rfl) (fun _ _ _ h => h) (Or.inl ⟨by rfl, fun ww hSw => by (try dsimp only at hSw); go_simp⟩) (by assumption) ?_
        simp only [Act.put, List.setIfInBounds_toArray, List.set_cons_zero, List.set_cons_succ, List.getElem_toArray, List.getElem_cons_succ, List.getElem_cons_zero]
        refine wpAnyH_take (i := 8) (v := (.pointer (some ⟨ab, ao + I * 4, .none⟩))) rfl (by kernel_rfl) (by kernel_rfl) (by kernel_rfl) (fun _ _ _ h => h) (Or.inl ⟨by rfl, fun ww hSw => by (try dsimp only at hSw); go_simp⟩) (by assumption) ?_
        simp only [Act.put, List.setIfInBounds_toArray, List.set_cons_zero, List.set_cons_succ, List.getElem_toArray, List.getElem_cons_succ, List.getElem_cons_zero]
        refine wpAnyH_take (i := 9) (v := (.agg #[.int .i64 Kd, .int .i64 wh, .slice ds dl dc, .int .i64 Nn])) rfl (by kernel_rfl) (by kernel_rfl) (by kernel_rfl) (fun _ _ _ h => h) (yieldsIf_load_mid (by rfl) 43 (.tmp 44) rfl ab (ao + I * 4) (by rfl) _ _ (fun ww hSw => hSw.2.2) Try.underlying43 rfl (by kernel_rfl)) (by assumption) ?_
        simp only [Act.put, List.setIfInBounds_toArray, List.set_cons_zero, List.set_cons_succ, List.getElem_toArray, List.getElem_cons_succ, List.getElem_cons_zero]
        refine wpAnyH_take (i := 10) (v := (.pointer (some ⟨sh, 0, .none⟩))) rfl (by kernel_rfl) (by kernel_rfl) (by kernel_rfl) (fun _ _ _ h => h) (Or.inl ⟨by rfl, fun ww hSw => by (try dsimp only at hSw); go_simp⟩) (by assumption) ?_
        simp only [Act.put, List.setIfInBounds_toArray, List.set_cons_zero, List.set_cons_succ, List.getElem_toArray, List.getElem_cons_succ, List.getElem_cons_zero]
        refine wpAnyH_ready (rs := [11]) (by kernel_rfl) (by simp) ?_
        refine AllReadyH.cons rfl (fun K hK => ?_) AllReadyH.nil
        go_simp
        have T0 := (HP.out.1).below (v := wr.drew) ((Below.refl _ _).drew)
        refine (act_any T0.s0 (by omega) Kd wh Nn (byt_below HD.out.1 T0.bel) HD.out.2.1 HD.out.2.2 HDZ.out).mono ?_
        rintro en V1 ⟨rfl, hE⟩
        have hch := ended_chg hE
        obtain ⟨e', F', cnt', xs', r', rd', wt', hc', hT'⟩ := T0.act hE
        have hR' : Ar V1 pa qa w.heap.size b1 d0 d1 := by
          have hR0 : Ar wr.drew pa qa w.heap.size b1 d0 d1 := ⟨HP.out.2.p0, HP.out.2.p1, HP.out.2.q0, HP.out.2.q1⟩
          obtain ⟨⟨x1, x2, x3, x4, x5, x6⟩, y1, y2, y3, y4, y5, y6⟩ := HX.out
          refine hR0.keep hch (fun h => ?_) (fun h => ?_)
          · rcases h with h | h | h | h | h
            · omega
            · omega
            · omega
            · have := (T0.s0.eX pa h).1; omega
            · have := (T0.s0.s.ge pa h).1; omega
          · rcases h with h | h | h | h | h
            · omega
            · omega
            · omega
            · have := (T0.s0.eX qa h).1; omega
            · have := (T0.s0.s.ge qa h).1; omega
        have HN : Hid (∃ cnt e0 e1 F xs0 r0 rd0 wt0 xs1 r1 rd1 wt1, cnt ≤ 2 * (I + 1) ∧ Tp w V1 X w.heap.size b1 d0 d1 sh cnt e0 e1 F xs0 r0 rd0 wt0 xs1 r1 rd1 wt1 ∧ Ar V1 pa qa w.heap.size b1 d0 d1) := ⟨_, _, _, _, _, _, _, _, _, _, _, _, by omega, hT', hR'⟩
        have kS1 : (V1.cell? ⟨pa, 0, .none⟩ = some (.pointer (some ⟨w.heap.size, 0, .none⟩)) ∧ V1.cell? ⟨qa, 0, .none⟩ = some (.pointer (some ⟨d0, 0, .none⟩)) ∧ V1.rangeAt ab (ao + I * 4) [.int .i64 Kd, .int .i64 wh, .slice ds dl dc, .int .i64 Nn]) := ⟨hR'.p0, hR'.q0, HK.out V1 hT'.bel⟩
        clear hE hch hT' hR' T0
        refine hK.out _ _ kS1 (fun hHeld => ?_)
        clear hK K
        try simp only [Act.put, List.setIfInBounds_toArray, List.set_cons_zero, List.set_cons_succ, List.getElem_toArray, List.getElem_cons_succ, List.getElem_cons_zero]
        refine wpAnyH_take (i := 12) (v := (.bool false)) rfl (by kernel_rfl) (by kernel_rfl) (by kernel_rfl) (fun _ _ _ h => h) (Or.inl ⟨by rfl, fun ww hSw => by (try dsimp only at hSw); go_simp⟩) (by assumption) ?_
        simp only [Act.put, List.setIfInBounds_toArray, List.set_cons_zero, List.set_cons_succ, List.getElem_toArray, List.getElem_cons_succ, List.getElem_cons_zero]
        refine wpAnyH_done (by kernel_rfl) ?_ _
        clear hHeld kS kS1
        go_wp2
        exact ⟨⟨I + 1, by omega, rfl, HN⟩, by simp only [intOf]; omega⟩
      · have hw1 : wh % 2 = 1 := by omega
        rw [hw1] at hnd
        clear hw0 hw1
        go_upto_region 10 with fail
        have kS : (wr.drew.cell? ⟨pa, 1, .none⟩ = some (.pointer (some ⟨b1, 0, .none⟩)) ∧ wr.drew.cell? ⟨qa, 1, .none⟩ = some (.pointer (some ⟨d1, 0, .none⟩)) ∧ wr.drew.rangeAt ab (ao + I * 4) [.int .i64 Kd, .int .i64 wh, .slice ds dl dc, .int .i64 Nn]) := ⟨HP.out.2.p1, HP.out.2.q1, HK.out wr.drew HP.out.1.bel.drew⟩
        refine wp_region_held_drew (S := fun U => (U.cell? ⟨pa, 1, .none⟩ = some (.pointer (some ⟨b1, 0, .none⟩)) ∧ U.cell? ⟨qa, 1, .none⟩ = some (.pointer (some ⟨d1, 0, .none⟩)) ∧ U.rangeAt ab (ao + I * 4) [.int .i64 Kd, .int .i64 wh, .slice ds dl dc, .int .i64 Nn])) (by kernel_rfl) kS (fun hHeld => ?_)
        refine wpAnyH_take (i := 0) (v := (.int .i64 1)) rfl (by kernel_rfl) (by kernel_rfl) (by kernel_rfl) (fun _ _ _ h => h) (Or.inl ⟨by rfl, fun ww hSw => by (try dsimp only at hSw); go_simp⟩) (by assumption) ?_
        simp only [Act.put, List.setIfInBounds_toArray, List.set_cons_zero, List.set_cons_succ, List.getElem_toArray, List.getElem_cons_succ, List.getElem_cons_zero]
        refine wpAnyH_take (i := 1) (v := (.pointer (some ⟨pa, 1, .none⟩))) rfl (by kernel_rfl) (by kernel_rfl) (by kernel_rfl) (fun _ _ _ h => h) (Or.inl ⟨by rfl, fun ww hSw => by (try dsimp only at hSw); go_simp⟩) (by assumption) ?_
        simp only [Act.put, List.setIfInBounds_toArray, List.set_cons_zero, List.set_cons_succ, List.getElem_toArray, List.getElem_cons_succ, List.getElem_cons_zero]
        refine wpAnyH_take (i := 2) (v := (.pointer (some ⟨b1, 0, .none⟩))) rfl (by kernel_rfl) (by kernel_rfl) (by kernel_rfl) (fun _ _ _ h => h) (Or.inl ⟨by rfl, fun ww hSw => by (try dsimp only at hSw); go_simp⟩) (by assumption) ?_
        simp only [Act.put, List.setIfInBounds_toArray, List.set_cons_zero, List.set_cons_succ, List.getElem_toArray, List.getElem_cons_succ, List.getElem_cons_zero]
        refine wpAnyH_take (i := 3) (v := (.int .i64 1)) rfl (by kernel_rfl) (by kernel_rfl) (by kernel_rfl) (fun _ _ _ h => h) (Or.inl ⟨by rfl, fun ww hSw => by (try dsimp only at hSw); go_simp⟩) (by assumption) ?_
        simp only [Act.put, List.setIfInBounds_toArray, List.set_cons_zero, List.set_cons_succ, List.getElem_toArray, List.getElem_cons_succ, List.getElem_cons_zero]
        refine wpAnyH_take (i := 4) (v := (.pointer (some ⟨qa, 1, .none⟩))) rfl (by kernel_rfl) (by kernel_rfl) (by kernel_rfl) (fun _ _ _ h => h) (Or.inl ⟨by rfl, fun ww hSw => by (try dsimp only at hSw); go_simp⟩) (by assumption) ?_
        simp only [Act.put, List.setIfInBounds_toArray, List.set_cons_zero, List.set_cons_succ, List.getElem_toArray, List.getElem_cons_succ, List.getElem_cons_zero]
        refine wpAnyH_take (i := 5) (v := (.pointer (some ⟨d1, 0, .none⟩))) rfl (by kernel_rfl) (by kernel_rfl) (by kernel_rfl) (fun _ _ _ h => h) (Or.inl ⟨by rfl, fun ww hSw => by (try dsimp only at hSw); go_simp⟩) (by assumption) ?_
        simp only [Act.put, List.setIfInBounds_toArray, List.set_cons_zero, List.set_cons_succ, List.getElem_toArray, List.getElem_cons_succ, List.getElem_cons_zero]
        refine wpAnyH_take (i := 6) (v := (.slice (some ⟨ab, ao, .none⟩) m c)) rfl (by kernel_rfl) (by kernel_rfl) (by kernel_rfl) (fun _ _ _ h => h) (Or.inl ⟨by rfl, fun ww hSw => by (try dsimp only at hSw); go_simp⟩) (by assumption) ?_
        simp only [Act.put, List.setIfInBounds_toArray, List.set_cons_zero, List.set_cons_succ, List.getElem_toArray, List.getElem_cons_succ, List.getElem_cons_zero]
        refine wpAnyH_take (i := 7) (v := (.int .i64 I)) rfl (by kernel_rfl) (by kernel_rfl) (by kernel_rfl) (fun _ _ _ h => h) (Or.inl ⟨by rfl, fun ww hSw => by (try dsimp only at hSw); go_simp⟩) (by assumption) ?_
        simp only [Act.put, List.setIfInBounds_toArray, List.set_cons_zero, List.set_cons_succ, List.getElem_toArray, List.getElem_cons_succ, List.getElem_cons_zero]
        refine wpAnyH_take (i := 8) (v := (.pointer (some ⟨ab, ao + I * 4, .none⟩))) rfl (by kernel_rfl) (by kernel_rfl) (by kernel_rfl) (fun _ _ _ h => h) (Or.inl ⟨by rfl, fun ww hSw => by (try dsimp only at hSw); go_simp⟩) (by assumption) ?_
        simp only [Act.put, List.setIfInBounds_toArray, List.set_cons_zero, List.set_cons_succ, List.getElem_toArray, List.getElem_cons_succ, List.getElem_cons_zero]
        refine wpAnyH_take (i := 9) (v := (.agg #[.int .i64 Kd, .int .i64 wh, .slice ds dl dc, .int .i64 Nn])) rfl (by kernel_rfl) (by kernel_rfl) (by kernel_rfl) (fun _ _ _ h => h) (yieldsIf_load_mid (by rfl) 43 (.tmp 44) rfl ab (ao + I * 4) (by rfl) _ _ (fun ww hSw => hSw.2.2) Try.underlying43 rfl (by kernel_rfl)) (by assumption) ?_
        simp only [Act.put, List.setIfInBounds_toArray, List.set_cons_zero, List.set_cons_succ, List.getElem_toArray, List.getElem_cons_succ, List.getElem_cons_zero]
        refine wpAnyH_take (i := 10) (v := (.pointer (some ⟨sh, 0, .none⟩))) rfl (by kernel_rfl) (by kernel_rfl) (by kernel_rfl) (fun _ _ _ h => h) (Or.inl ⟨by rfl, fun ww hSw => by (try dsimp only at hSw); go_simp⟩) (by assumption) ?_
        simp only [Act.put, List.setIfInBounds_toArray, List.set_cons_zero, List.set_cons_succ, List.getElem_toArray, List.getElem_cons_succ, List.getElem_cons_zero]
        refine wpAnyH_ready (rs := [11]) (by kernel_rfl) (by simp) ?_
        refine AllReadyH.cons rfl (fun K hK => ?_) AllReadyH.nil
        go_simp
        have T0 := (HP.out.1.swap).below (v := wr.drew) ((Below.refl _ _).drew)
        refine (act_any T0.s0 (by omega) Kd wh Nn (byt_below HD.out.1 T0.bel) HD.out.2.1 HD.out.2.2 HDZ.out).mono ?_
        rintro en V1 ⟨rfl, hE⟩
        have hch := ended_chg hE
        obtain ⟨e', F', cnt', xs', r', rd', wt', hc', hT'⟩ := T0.act hE
        have hR' : Ar V1 pa qa w.heap.size b1 d0 d1 := by
          have hR0 : Ar wr.drew pa qa w.heap.size b1 d0 d1 := ⟨HP.out.2.p0, HP.out.2.p1, HP.out.2.q0, HP.out.2.q1⟩
          obtain ⟨⟨x1, x2, x3, x4, x5, x6⟩, y1, y2, y3, y4, y5, y6⟩ := HX.out
          refine hR0.keep hch (fun h => ?_) (fun h => ?_)
          · rcases h with h | h | h | h | h
            · omega
            · omega
            · omega
            · have := (T0.s0.eX pa h).1; omega
            · have := (T0.s0.s.ge pa h).1; omega
          · rcases h with h | h | h | h | h
            · omega
            · omega
            · omega
            · have := (T0.s0.eX qa h).1; omega
            · have := (T0.s0.s.ge qa h).1; omega
        have HN : Hid (∃ cnt e0 e1 F xs0 r0 rd0 wt0 xs1 r1 rd1 wt1, cnt ≤ 2 * (I + 1) ∧ Tp w V1 X w.heap.size b1 d0 d1 sh cnt e0 e1 F xs0 r0 rd0 wt0 xs1 r1 rd1 wt1 ∧ Ar V1 pa qa w.heap.size b1 d0 d1) := ⟨_, _, _, _, _, _, _, _, _, _, _, _, by omega, hT'.swap, hR'⟩
        have kS1 : (V1.cell? ⟨pa, 1, .none⟩ = some (.pointer (some ⟨b1, 0, .none⟩)) ∧ V1.cell? ⟨qa, 1, .none⟩ = some (.pointer (some ⟨d1, 0, .none⟩)) ∧ V1.rangeAt ab (ao + I * 4) [.int .i64 Kd, .int .i64 wh, .slice ds dl dc, .int .i64 Nn]) := ⟨hR'.p1, hR'.q1, HK.out V1 hT'.bel⟩
        clear hE hch hT' hR' T0
        refine hK.out _ _ kS1 (fun hHeld => ?_)
        clear hK K
        try simp only [Act.put, List.setIfInBounds_toArray, List.set_cons_zero, List.set_cons_succ, List.getElem_toArray, List.getElem_cons_succ, List.getElem_cons_zero]
        refine wpAnyH_take (i := 12) (v := (.bool false)) rfl (by kernel_rfl) (by kernel_rfl) (by kernel_rfl) (fun _ _ _ h => h) (Or.inl ⟨by rfl, fun ww hSw => by (try dsimp only at hSw); go_simp⟩) (by assumption) ?_
        simp only [Act.put, List.setIfInBounds_toArray, List.set_cons_zero, List.set_cons_succ, List.getElem_toArray, List.getElem_cons_succ, List.getElem_cons_zero]
        refine wpAnyH_done (by kernel_rfl) ?_ _
        clear hHeld kS kS1
        go_wp2
        exact ⟨⟨I + 1, by omega, rfl, HN⟩, by simp only [intOf]; omega⟩
    · obtain rfl : I = m := by omega
      go_upto_region 12 with fail
      have T0 := HP.out.1.below (v := wr.drew) ((Below.refl _ _).drew)
      have R0 : Ar wr.drew pa qa w.heap.size b1 d0 d1 := ⟨HP.out.2.p0, HP.out.2.p1, HP.out.2.q0, HP.out.2.q1⟩
      refine wp_region_held_drew (S := fun U => Ar U pa qa w.heap.size b1 d0 d1) (by kernel_rfl) R0 (fun hHeld => ?_)
      refine wpAnyH_take (i := 0) (v := (.pointer (some ⟨pa, 0, .none⟩))) rfl (by kernel_rfl) (by kernel_rfl) (by kernel_rfl) (fun _ _ _ h => h) (Or.inl ⟨by rfl, fun ww hSw => by (try dsimp only at hSw); have hz0 := hSw.p0; have hz1 := hSw.p1; have hz2 := hSw.q0; have hz3 := hSw.q1; go_simp⟩) (by assumption) ?_
      simp only [Act.put, List.setIfInBounds_toArray, List.set_cons_zero, List.set_cons_succ, List.getElem_toArray, List.getElem_cons_succ, List.getElem_cons_zero]
      refine wpAnyH_take (i := 1) (v := (.pointer (some ⟨w.heap.size, 0, .none⟩))) rfl (by kernel_rfl) (by kernel_rfl) (by kernel_rfl) (fun _ _ _ h => h) (Or.inl ⟨by rfl, fun ww hSw => by (try dsimp only at hSw); have hz0 := hSw.p0; have hz1 := hSw.p1; have hz2 := hSw.q0; have hz3 := hSw.q1; go_simp⟩) (by assumption) ?_
      simp only [Act.put, List.setIfInBounds_toArray, List.set_cons_zero, List.set_cons_succ, List.getElem_toArray, List.getElem_cons_succ, List.getElem_cons_zero]
      refine wpAnyH_take (i := 3) (v := (.pointer (some ⟨qa, 0, .none⟩))) rfl (by kernel_rfl) (by kernel_rfl) (by kernel_rfl) (fun _ _ _ h => h) (Or.inl ⟨by rfl, fun ww hSw => by (try dsimp only at hSw); have hz0 := hSw.p0; have hz1 := hSw.p1; have hz2 := hSw.q0; have hz3 := hSw.q1; go_simp⟩) (by assumption) ?_
      simp only [Act.put, List.setIfInBounds_toArray, List.set_cons_zero, List.set_cons_succ, List.getElem_toArray, List.getElem_cons_succ, List.getElem_cons_zero]
      refine wpAnyH_take (i := 4) (v := (.pointer (some ⟨d0, 0, .none⟩))) rfl (by kernel_rfl) (by kernel_rfl) (by kernel_rfl) (fun _ _ _ h => h) (Or.inl ⟨by rfl, fun ww hSw => by (try dsimp only at hSw); have hz0 := hSw.p0; have hz1 := hSw.p1; have hz2 := hSw.q0; have hz3 := hSw.q1; go_simp⟩) (by assumption) ?_
      simp only [Act.put, List.setIfInBounds_toArray, List.set_cons_zero, List.set_cons_succ, List.getElem_toArray, List.getElem_cons_succ, List.getElem_cons_zero]
      refine wpAnyH_ready (rs := [2]) (by kernel_rfl) (by simp) ?_
      refine AllReadyH.cons rfl (fun K hK => ?_) AllReadyH.nil
      go_simp
      refine (state_pip T0.s0.p).mono ?_
      rintro en X1 ⟨xp1, xc1, rfl, hO1, hb1, _⟩
      have T1a := T0.below hb1
      have R1a := R0.below hb1
      have B1a := byt_own hO1
      clear hO1 hb1
      refine hK.out _ _ R1a (fun hHeld => ?_)
      clear hK K
      try simp only [Act.put, List.setIfInBounds_toArray, List.set_cons_zero, List.set_cons_succ, List.getElem_toArray, List.getElem_cons_succ, List.getElem_cons_zero]
      refine wpAnyH_ready (rs := [5]) (by kernel_rfl) (by simp) ?_
      refine AllReadyH.cons rfl (fun K hK => ?_) AllReadyH.nil
      go_simp
      refine (rstate_any T1a.s0.q).mono ?_
      rintro en Y1 ⟨yp1, yc1, rfl, hB1, _, hb1⟩
      have T1b := T1a.below hb1
      have R1b := R1a.below hb1
      have B1b := byt_below B1a hb1
      clear hb1 B1a
      refine hK.out _ _ R1b (fun hHeld => ?_)
      clear hK K
      try simp only [Act.put, List.setIfInBounds_toArray, List.set_cons_zero, List.set_cons_succ, List.getElem_toArray, List.getElem_cons_succ, List.getElem_cons_zero]
      refine wpAnyH_ready (rs := [6]) (by kernel_rfl) (by simp) ?_
      refine AllReadyH.cons rfl (fun K hK => ?_) AllReadyH.nil
      go_simp
      have hl1 := T0.s0.p.1
      refine (same_any r0 ((r0 + (xs0.length : Int)) % 4294967296) rd0 wt0 B1b hB1 (by omega)).mono ?_
      rintro en Z1 ⟨rfl, hb1⟩
      have T1 := T1b.below hb1
      have R1 := R1b.below hb1
      clear hb1 B1b hB1 T1a T1b R1a R1b
      refine hK.out _ _ R1 (fun hHeld => ?_)
      clear hK K
      try simp only [Act.put, List.setIfInBounds_toArray, List.set_cons_zero, List.set_cons_succ, List.getElem_toArray, List.getElem_cons_succ, List.getElem_cons_zero]
      refine wpAnyH_take (i := 7) (v := (.bool true)) rfl (by kernel_rfl) (by kernel_rfl) (by kernel_rfl) (fun _ _ _ h => h) (Or.inl ⟨by rfl, fun ww hSw => by (try dsimp only at hSw); have hz0 := hSw.p0; have hz1 := hSw.p1; have hz2 := hSw.q0; have hz3 := hSw.q1; go_simp⟩) (by assumption) ?_
      simp only [Act.put, List.setIfInBounds_toArray, List.set_cons_zero, List.set_cons_succ, List.getElem_toArray, List.getElem_cons_succ, List.getElem_cons_zero]
      refine wpAnyH_take (i := 8) (v := (.pointer (some ⟨pa, 1, .none⟩))) rfl (by kernel_rfl) (by kernel_rfl) (by kernel_rfl) (fun _ _ _ h => h) (Or.inl ⟨by rfl, fun ww hSw => by (try dsimp only at hSw); have hz0 := hSw.p0; have hz1 := hSw.p1; have hz2 := hSw.q0; have hz3 := hSw.q1; go_simp⟩) (by assumption) ?_
      simp only [Act.put, List.setIfInBounds_toArray, List.set_cons_zero, List.set_cons_succ, List.getElem_toArray, List.getElem_cons_succ, List.getElem_cons_zero]
      refine wpAnyH_take (i := 9) (v := (.pointer (some ⟨b1, 0, .none⟩))) rfl (by kernel_rfl) (by kernel_rfl) (by kernel_rfl) (fun _ _ _ h => h) (Or.inl ⟨by rfl, fun ww hSw => by (try dsimp only at hSw); have hz0 := hSw.p0; have hz1 := hSw.p1; have hz2 := hSw.q0; have hz3 := hSw.q1; go_simp⟩) (by assumption) ?_
      simp only [Act.put, List.setIfInBounds_toArray, List.set_cons_zero, List.set_cons_succ, List.getElem_toArray, List.getElem_cons_succ, List.getElem_cons_zero]
      refine wpAnyH_take (i := 11) (v := (.pointer (some ⟨qa, 1, .none⟩))) rfl (by kernel_rfl) (by kernel_rfl) (by kernel_rfl) (fun _ _ _ h => h) (Or.inl ⟨by rfl, fun ww hSw => by (try dsimp only at hSw); have hz0 := hSw.p0; have hz1 := hSw.p1; have hz2 := hSw.q0; have hz3 := hSw.q1; go_simp⟩) (by assumption) ?_
      simp only [Act.put, List.setIfInBounds_toArray, List.set_cons_zero, List.set_cons_succ, List.getElem_toArray, List.getElem_cons_succ, List.getElem_cons_zero]
      refine wpAnyH_take (i := 12) (v := (.pointer (some ⟨d1, 0, .none⟩))) rfl (by kernel_rfl) (by kernel_rfl) (by kernel_rfl) (fun _ _ _ h => h) (Or.inl ⟨by rfl, fun ww hSw => by (try dsimp only at hSw); have hz0 := hSw.p0; have hz1 := hSw.p1; have hz2 := hSw.q0; have hz3 := hSw.q1; go_simp⟩) (by assumption) ?_
      simp only [Act.put, List.setIfInBounds_toArray, List.set_cons_zero, List.set_cons_succ, List.getElem_toArray, List.getElem_cons_succ, List.getElem_cons_zero]
      refine wpAnyH_ready (rs := [10]) (by kernel_rfl) (by simp) ?_
      refine AllReadyH.cons rfl (fun K hK => ?_) AllReadyH.nil
      go_simp
      refine (state_pip T1.s1.p).mono ?_
      rintro en X2 ⟨xp2, xc2, rfl, hO2, hb2, _⟩
      have T2a := T1.below hb2
      have R2a := R1.below hb2
      have B2a := byt_own hO2
      clear hO2 hb2
      refine hK.out _ _ R2a (fun hHeld => ?_)
      clear hK K
      try simp only [Act.put, List.setIfInBounds_toArray, List.set_cons_zero, List.set_cons_succ, List.getElem_toArray, List.getElem_cons_succ, List.getElem_cons_zero]
      refine wpAnyH_ready (rs := [13]) (by kernel_rfl) (by simp) ?_
      refine AllReadyH.cons rfl (fun K hK => ?_) AllReadyH.nil
      go_simp
      refine (rstate_any T2a.s1.q).mono ?_
      rintro en Y2 ⟨yp2, yc2, rfl, hB2, _, hb2⟩
      have T2b := T2a.below hb2
      have R2b := R2a.below hb2
      have B2b := byt_below B2a hb2
      clear hb2 B2a
      refine hK.out _ _ R2b (fun hHeld => ?_)
      clear hK K
      try simp only [Act.put, List.setIfInBounds_toArray, List.set_cons_zero, List.set_cons_succ, List.getElem_toArray, List.getElem_cons_succ, List.getElem_cons_zero]
      refine wpAnyH_ready (rs := [14]) (by kernel_rfl) (by simp) ?_
      refine AllReadyH.cons rfl (fun K hK => ?_) AllReadyH.nil
      go_simp
      have hl2 := T1.s1.p.1
      refine (same_any r1 ((r1 + (xs1.length : Int)) % 4294967296) rd1 wt1 B2b hB2 (by omega)).mono ?_
      rintro en Z2 ⟨rfl, hb2⟩
      have T2 := T2b.below hb2
      have R2 := R2b.below hb2
      clear hb2 B2b hB2 T2a T2b R2a R2b
      refine hK.out _ _ R2 (fun hHeld => ?_)
      clear hK K
      try simp only [Act.put, List.setIfInBounds_toArray, List.set_cons_zero, List.set_cons_succ, List.getElem_toArray, List.getElem_cons_succ, List.getElem_cons_zero]
      refine wpAnyH_take (i := 15) (v := (.bool true)) rfl (by kernel_rfl) (by kernel_rfl) (by kernel_rfl) (fun _ _ _ h => h) (Or.inl ⟨by rfl, fun ww hSw => by (try dsimp only at hSw); have hz0 := hSw.p0; have hz1 := hSw.p1; have hz2 := hSw.q0; have hz3 := hSw.q1; go_simp⟩) (by assumption) ?_
      simp only [Act.put, List.setIfInBounds_toArray, List.set_cons_zero, List.set_cons_succ, List.getElem_toArray, List.getElem_cons_succ, List.getElem_cons_zero]
      refine wpAnyH_take (i := 16) (v := (.bool true)) rfl (by kernel_rfl) (by kernel_rfl) (by kernel_rfl) (fun _ _ _ h => h) (Or.inl ⟨by rfl, fun ww hSw => by (try dsimp only at hSw); have hz0 := hSw.p0; have hz1 := hSw.p1; have hz2 := hSw.q0; have hz3 := hSw.q1; go_simp⟩) (by assumption) ?_
      simp only [Act.put, List.setIfInBounds_toArray, List.set_cons_zero, List.set_cons_succ, List.getElem_toArray, List.getElem_cons_succ, List.getElem_cons_zero]
      refine wpAnyH_take (i := 17) (v := (.pointer (some ⟨sh, 0, .none⟩))) rfl (by kernel_rfl) (by kernel_rfl) (by kernel_rfl) (fun _ _ _ h => h) (Or.inl ⟨by rfl, fun ww hSw => by (try dsimp only at hSw); have hz0 := hSw.p0; have hz1 := hSw.p1; have hz2 := hSw.q0; have hz3 := hSw.q1; go_simp⟩) (by assumption) ?_
      simp only [Act.put, List.setIfInBounds_toArray, List.set_cons_zero, List.set_cons_succ, List.getElem_toArray, List.getElem_cons_succ, List.getElem_cons_zero]
      refine wpAnyH_ready (rs := [18]) (by kernel_rfl) (by simp) ?_
      refine AllReadyH.cons rfl (fun K hK => ?_) AllReadyH.nil
      go_simp
      refine (send_any T2.s0.s (by omega)).mono ?_
      rintro en U3 ⟨rfl, ht3⟩
      have HE : Hid (Below w.heap.size w U3) := T2.bel.trans (ht3.toTrn T2.bel.size (fun k hk hf => by have := (T2.s0.s.ge k hf).1; have := T2.s0.bX; have := T2.s0.zb; omega))
      have R3 : Ar U3 pa qa w.heap.size b1 d0 d1 := by
        obtain ⟨⟨x1, x2, x3, x4, x5, x6⟩, y1, y2, y3, y4, y5, y6⟩ := HX.out
        exact R2.keep ht3 (fun h => by have := (T2.s0.s.ge pa h).1; omega) (fun h => by have := (T2.s0.s.ge qa h).1; omega)
      clear ht3
      refine hK.out _ _ R3 (fun hHeld => ?_)
      clear hK K
      try simp only [Act.put, List.setIfInBounds_toArray, List.set_cons_zero, List.set_cons_succ, List.getElem_toArray, List.getElem_cons_succ, List.getElem_cons_zero]
      refine wpAnyH_take (i := 19) (v := (.bool true)) rfl (by kernel_rfl) (by kernel_rfl) (by kernel_rfl) (fun _ _ _ h => h) (Or.inl ⟨by rfl, fun ww hSw => by (try dsimp only at hSw); have hz0 := hSw.p0; have hz1 := hSw.p1; have hz2 := hSw.q0; have hz3 := hSw.q1; go_simp⟩) (by assumption) ?_
      simp only [Act.put, List.setIfInBounds_toArray, List.set_cons_zero, List.set_cons_succ, List.getElem_toArray, List.getElem_cons_succ, List.getElem_cons_zero]
      refine wpAnyH_take (i := 20) (v := (.bool true)) rfl (by kernel_rfl) (by kernel_rfl) (by kernel_rfl) (fun _ _ _ h => h) (Or.inl ⟨by rfl, fun ww hSw => by (try dsimp only at hSw); have hz0 := hSw.p0; have hz1 := hSw.p1; have hz2 := hSw.q0; have hz3 := hSw.q1; go_simp⟩) (by assumption) ?_
      simp only [Act.put, List.setIfInBounds_toArray, List.set_cons_zero, List.set_cons_succ, List.getElem_toArray, List.getElem_cons_succ, List.getElem_cons_zero]
      refine wpAnyH_done (by kernel_rfl) ?_ _
      clear hHeld R3 R2 R1 R0 T0 T1 T2
      go_wp2
      go_ret
      exact ⟨rfl, HE.out⟩
end Go.Proofs.Ytabhojfdkmeaoaa
