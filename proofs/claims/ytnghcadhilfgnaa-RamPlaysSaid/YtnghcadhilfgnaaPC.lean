import Derived.Test.YtnghcadhilfgnaaImg
import Derived.Deep.RegionHeld3
import Derived.Test.YtnghcadhilfgnaaPB
namespace Go.Proofs.Ytnghcadhilfgnaa
open Go.RowKit
set_option linter.unusedVariables false
set_option linter.unusedSimpArgs false
/-- A slice's numbers, each where it lies. -/
def See (w : World) (k : IntKind) (q : Option Addr) (n : Nat) (R : Nat → Int) : Prop := n = 0 ∨ ∃ g o, q = some ⟨g, o, .none⟩ ∧ g < w.heap.size ∧ ∀ i, i < n → w.cell? ⟨g, o + i, .none⟩ = some (.int k (R i))
theorem See.below {w w' : World} {k : IntKind} {q : Option Addr} {n : Nat} {R : Nat → Int} (h : See w k q n R) (b : Below w.heap.size w w') : See w' k q n R := by
  rcases h with h | ⟨g, o, hq, hg, hr⟩
  · exact .inl h
  · exact .inr ⟨g, o, hq, Nat.lt_of_lt_of_le hg b.size, fun i hi => (b.cell (p := ⟨g, o + i, .none⟩) hg).trans (hr i hi)⟩
set_option maxHeartbeats 281474976710656 in
theorem bytes_same {w : World} {n ca cb : Nat} {qa qb : Option Addr} {R : Nat → Int} (hn : n ≤ 281474976710656) (ha : See w .u8 qa n R) (hb : See w .u8 qb n R) : Calls Try.prog 32 #[.slice qa n ca, .slice qb n cb] w fun e w' => e = .returned (.bool true) ∧ Below w.heap.size w w' := by
  go_enter Try.func32, Try.ntmps32
  go_wp2
  go_loopw [5] (fun k wr => ∃ i : Nat, i ≤ n ∧ k = .int .i64 i ∧ Below w.heap.size w wr) (fun k _ => n - (intOf k).toNat)
  case atStart => exact ⟨0, by omega, rfl, Below.refl _ _⟩
  case round =>
    obtain ⟨i, hi, rfl, hB⟩ := hrel
    have HB : Hid (Below w.heap.size w wr) := hB
    by_cases hin : i < n
    · rcases ha with h | ⟨g1, o1, rfl, hg1, r1⟩
      · omega
      rcases hb with h | ⟨g2, o2, rfl, hg2, r2⟩
      · omega
      have i1 : (i : Int) < n := by omega
      have k0 := (hB.cell (p := ⟨g1, o1 + i, .none⟩) hg1).trans (r1 i hin)
      have k1 := (hB.cell (p := ⟨g2, o2 + i, .none⟩) hg2).trans (r2 i hin)
      clear hB r1 r2
      generalize R i = x at *
      go_wp2
      go_quiet (fail)
      go_wp2
      exact ⟨⟨i + 1, by omega, by simp, below_drewN HB.out _⟩, by simp [intOf]; omega⟩
    · have i1 : ¬ ((i : Int) < n) := by omega
      clear hB ha hb
      go_wp2
      go_ret
      exact ⟨rfl, HB.out⟩
/-- A copy's row, new. -/
def CopyRB (w : World) (n : Nat) (R : Nat → Int) (e : Ending) (w' : World) : Prop := ∃ q c, e = .returned (.slice q n c) ∧ w'.ownsRow w.heap.size 5 1 (.slice q n c) n ((List.range n).map fun i => .int .u8 (R i)) ∧ Below w.heap.size w w'
def CRelB (w : World) (n : Nat) (R : Nat → Int) (v3 v4 : Value) (wr : World) : Prop := ∃ (i : Nat) (q : Option Addr) (c : Nat), i ≤ n ∧ v3 = .slice q i c ∧ v4 = .int .i64 i ∧ wr.ownsRow w.heap.size 5 1 (.slice q i c) i ((List.range i).map fun i => .int .u8 (R i)) ∧ Below w.heap.size w wr
/-- A copy's row, new. -/
def CopyRW (w : World) (n : Nat) (R : Nat → Int) (e : Ending) (w' : World) : Prop := ∃ q c, e = .returned (.slice q n c) ∧ w'.ownsRow w.heap.size 26 1 (.slice q n c) n ((List.range n).map fun i => .int .u64 (R i)) ∧ Below w.heap.size w w'
def CRelW (w : World) (n : Nat) (R : Nat → Int) (v3 v4 : Value) (wr : World) : Prop := ∃ (i : Nat) (q : Option Addr) (c : Nat), i ≤ n ∧ v3 = .slice q i c ∧ v4 = .int .i64 i ∧ wr.ownsRow w.heap.size 26 1 (.slice q i c) i ((List.range i).map fun i => .int .u64 (R i)) ∧ Below w.heap.size w wr
end Go.Proofs.Ytnghcadhilfgnaa
namespace Go.Proofs.Ytnghcadhilfgnaa
open Go.RowKit
set_option linter.unusedVariables false
set_option linter.unusedSimpArgs false
/-- A list of frames: each one's address and bytes, where they lie. -/
def SeeH (w : World) (q : Option Addr) (n : Nat) (P : Nat → Int) (ln : Nat → Nat) (R : Nat → Nat → Int) : Prop := n = 0 ∨ ∃ g o, q = some ⟨g, o, .none⟩ ∧ g < w.heap.size ∧ ∀ i, i < n → w.cell? ⟨g, o + i * 2, .none⟩ = some (.int .u64 (P i)) ∧ ∃ d c, w.cell? ⟨g, o + i * 2 + 1, .none⟩ = some (.slice d (ln i) c) ∧ See w .u8 d (ln i) (R i)
theorem SeeH.below {w w' : World} {q : Option Addr} {n : Nat} {P : Nat → Int} {ln : Nat → Nat} {R : Nat → Nat → Int} (h : SeeH w q n P ln R) (b : Below w.heap.size w w') : SeeH w' q n P ln R := by
  rcases h with h | ⟨g, o, hq, hg, hr⟩
  · exact .inl h
  · refine .inr ⟨g, o, hq, Nat.lt_of_lt_of_le hg b.size, fun i hi => ?_⟩
    obtain ⟨h0, d, c, h1, h2⟩ := hr i hi
    exact ⟨(b.cell (p := ⟨g, o + i * 2, .none⟩) hg).trans h0, d, c, (b.cell (p := ⟨g, o + i * 2 + 1, .none⟩) hg).trans h1, h2.below b⟩
theorem C3.below {w w' : World} {a : Nat} {x y z : Value} (h : C3 w a x y z) (k : Below w.heap.size w w') : C3 w' a x y z := h.kept ⟨k.os, k.tape, k.output, k.size, fun j hj _ => k.block j hj⟩ (row := none) (fun r e => by cases e)
set_option maxHeartbeats 2000000 in
set_option maxRecDepth 100000 in
theorem images_same {w : World} {N : Int} {nf nh cfa cfb cha chb : Nat} {qfa qfb qha qhb : Option Addr} {F P : Nat → Int} {ln : Nat → Nat} {R : Nat → Nat → Int} (h1 : nf ≤ 281474976710656) (h2 : nh ≤ 281474976710656) (hln : ∀ i, i < nh → ln i ≤ 281474976710656) (fa : See w .u64 qfa nf F) (fb : See w .u64 qfb nf F) (ha : SeeH w qha nh P ln R) (hb : SeeH w qhb nh P ln R) :
    Calls Try.prog 10 #[.agg #[.int .i64 N, .slice qfa nf cfa, .slice qha nh cha], .agg #[.int .i64 N, .slice qfb nf cfb, .slice qhb nh chb]] w fun e w' => e = .returned (.bool true) ∧ Below w.heap.size w w' := by
  go_enter Try.func10, Try.ntmps10
  go_wp2
  have kA := (C3.new w (.int .i64 N) (.slice qfa nf cfa) (.slice qha nh cha) 40).alloc (.cells #[.int .i64 N, .slice qfb nf cfb, .slice qhb nh chb] 40)
  have kB : C3 ((w.alloc (.cells #[.int .i64 N, .slice qfa nf cfa, .slice qha nh cha] 40)).alloc (.cells #[.int .i64 N, .slice qfb nf cfb, .slice qhb nh chb] 40)) (w.heap.size + 1) (.int .i64 N) (.slice qfb nf cfb) (.slice qhb nh chb) := by
    have := C3.new (w.alloc (.cells #[.int .i64 N, .slice qfa nf cfa, .slice qha nh cha] 40)) (.int .i64 N) (.slice qfb nf cfb) (.slice qhb nh chb) 40
    rwa [World.size_alloc] at this
  have hB0 : Below w.heap.size w ((w.alloc (.cells #[.int .i64 N, .slice qfa nf cfa, .slice qha nh cha] 40)).alloc (.cells #[.int .i64 N, .slice qfb nf cfb, .slice qhb nh chb] 40)) := (below_past _ _).alloc (by simp) _
  generalize ((w.alloc (.cells #[.int .i64 N, .slice qfa nf cfa, .slice qha nh cha] 40)).alloc (.cells #[.int .i64 N, .slice qfb nf cfb, .slice qhb nh chb] 40)) = W0 at *
  have HC : Hid (∀ W, Below W0.heap.size W0 W → W.cell? ⟨w.heap.size, 1, .none⟩ = some (.slice qfa nf cfa) ∧ W.cell? ⟨w.heap.size, 2, .none⟩ = some (.slice qha nh cha) ∧ W.cell? ⟨w.heap.size + 1, 1, .none⟩ = some (.slice qfb nf cfb) ∧ W.cell? ⟨w.heap.size + 1, 2, .none⟩ = some (.slice qhb nh chb)) := fun W hW => ⟨(kA.below hW).2.1, (kA.below hW).2.2.1, (kB.below hW).2.1, (kB.below hW).2.2.1⟩
  clear kA kB
  have fa := fa.below hB0
  have fb := fb.below hB0
  have ha := ha.below hB0
  have hb := hb.below hB0
  go_loopw [5] (fun k wr => ∃ i : Nat, i ≤ nf ∧ k = .int .i64 i ∧ Below W0.heap.size W0 wr) (fun k _ => nf - (intOf k).toNat)
  case atStart => exact ⟨0, by omega, rfl, Below.refl _ _⟩
  case round =>
    obtain ⟨i, hi, rfl, hB⟩ := hrel
    have HB : Hid (Below W0.heap.size W0 wr) := hB
    obtain ⟨e1, e2, e3, e4⟩ := HC.out wr hB
    by_cases hin : i < nf
    · rcases fa with h | ⟨g1, o1, rfl, hg1, r1⟩
      · omega
      rcases fb with h | ⟨g2, o2, rfl, hg2, r2⟩
      · omega
      have i1 : (i : Int) < nf := by omega
      have k0 := (hB.cell (p := ⟨g1, o1 + i, .none⟩) hg1).trans (r1 i hin)
      have k1 := (hB.cell (p := ⟨g2, o2 + i, .none⟩) hg2).trans (r2 i hin)
      clear hB r1 r2 ha hb
      generalize F i = x at *
      go_wp2
      go_quiet (fail)
      go_wp2
      exact ⟨⟨i + 1, by omega, by simp, below_drewN HB.out _⟩, by simp [intOf]; omega⟩
    · have i1 : ¬ ((i : Int) < nf) := by omega
      clear hB fa fb
      go_wp2
      clear e1 e2 e3 e4
      go_loopw [6] (fun k wr => ∃ i : Nat, i ≤ nh ∧ k = .int .i64 i ∧ Below W0.heap.size W0 wr) (fun k _ => nh - (intOf k).toNat)
      case atStart => exact ⟨0, by omega, rfl, HB.out⟩
      case round =>
        obtain ⟨j, hj, rfl, hB⟩ := hrel
        have HB1 : Hid (Below W0.heap.size W0 wr) := hB
        obtain ⟨e1, e2, e3, e4⟩ := HC.out wr hB
        by_cases hjn : j < nh
        · rcases ha with h | ⟨g1, o1, rfl, hg1, r1⟩
          · omega
          rcases hb with h | ⟨g2, o2, rfl, hg2, r2⟩
          · omega
          have i2 : (j : Int) < nh := by omega
          obtain ⟨a0, da, ca, a1, sa⟩ := r1 j hjn
          obtain ⟨b0, db, cb, b1, sb⟩ := r2 j hjn
          have HS : Hid (∀ w', Below W0.heap.size W0 w' → w'.cell? ⟨w.heap.size, 2, .none⟩ = some (.slice (some ⟨g1, o1, .none⟩) nh cha) ∧ w'.cell? ⟨w.heap.size + 1, 2, .none⟩ = some (.slice (some ⟨g2, o2, .none⟩) nh chb) ∧ w'.cell? ⟨g1, o1 + j * 2, .none⟩ = some (.int .u64 (P j)) ∧ w'.cell? ⟨g2, o2 + j * 2, .none⟩ = some (.int .u64 (P j)) ∧ w'.cell? ⟨g1, o1 + j * 2 + 1, .none⟩ = some (.slice da (ln j) ca) ∧ w'.cell? ⟨g2, o2 + j * 2 + 1, .none⟩ = some (.slice db (ln j) cb) ∧ Below W0.heap.size W0 w') := fun w' hb' => ⟨(HC.out w' hb').2.1, (HC.out w' hb').2.2.2, (hb'.cell hg1).trans a0, (hb'.cell hg2).trans b0, (hb'.cell hg1).trans a1, (hb'.cell hg2).trans b1, hb'⟩
          have cc : ∀ w', Below W0.heap.size W0 w' → Calls Try.prog 32 #[.slice da (ln j) ca, .slice db (ln j) cb] w' fun e w'' => e = .returned (.bool true) ∧ Below W0.heap.size W0 w'' := fun w' hb' => by
            refine (bytes_same (hln j hjn) (sa.below hb') (sb.below hb')).mono ?_
            rintro e w2 ⟨he, hb2⟩
            exact ⟨he, hb'.trans (hb2.mono hb'.size)⟩
          clear sa sb a0 a1 b0 b1 r1 r2 hB e1 e2 e3 e4
          generalize ln j = lj at *
          generalize P j = pj at *
          have s1 : ∀ w', (w'.cell? ⟨w.heap.size, 2, .none⟩ = some (.slice (some ⟨g1, o1, .none⟩) nh cha) ∧ w'.cell? ⟨w.heap.size + 1, 2, .none⟩ = some (.slice (some ⟨g2, o2, .none⟩) nh chb) ∧ w'.cell? ⟨g1, o1 + j * 2, .none⟩ = some (.int .u64 pj) ∧ w'.cell? ⟨g2, o2 + j * 2, .none⟩ = some (.int .u64 pj) ∧ w'.cell? ⟨g1, o1 + j * 2 + 1, .none⟩ = some (.slice da lj ca) ∧ w'.cell? ⟨g2, o2 + j * 2 + 1, .none⟩ = some (.slice db lj cb) ∧ Below W0.heap.size W0 w') →
              Calls Try.prog 32 #[.slice da lj ca, .slice db lj cb] w' fun e w'' => e = .returned (.bool true) ∧ (w''.cell? ⟨w.heap.size, 2, .none⟩ = some (.slice (some ⟨g1, o1, .none⟩) nh cha) ∧ w''.cell? ⟨w.heap.size + 1, 2, .none⟩ = some (.slice (some ⟨g2, o2, .none⟩) nh chb) ∧ w''.cell? ⟨g1, o1 + j * 2, .none⟩ = some (.int .u64 pj) ∧ w''.cell? ⟨g2, o2 + j * 2, .none⟩ = some (.int .u64 pj) ∧ w''.cell? ⟨g1, o1 + j * 2 + 1, .none⟩ = some (.slice da lj ca) ∧ w''.cell? ⟨g2, o2 + j * 2 + 1, .none⟩ = some (.slice db lj cb) ∧ Below W0.heap.size W0 w'') := fun w' hs => by
            refine (cc w' hs.2.2.2.2.2.2).mono ?_
            rintro e w2 ⟨he, hb2⟩
            exact ⟨he, HS.out w2 hb2⟩
          have d := HS.out wr HB1.out
          have dd := HS.out wr.drew HB1.out.drew
          obtain ⟨d0, d1, d2, d3, d4, d5, _⟩ := d
          clear cc
          go_upto_region 11 with fail
          go_region_held3 (fun w' => w'.cell? ⟨w.heap.size, 2, .none⟩ = some (.slice (some ⟨g1, o1, .none⟩) nh cha) ∧ w'.cell? ⟨w.heap.size + 1, 2, .none⟩ = some (.slice (some ⟨g2, o2, .none⟩) nh chb) ∧ w'.cell? ⟨g1, o1 + j * 2, .none⟩ = some (.int .u64 pj) ∧ w'.cell? ⟨g2, o2 + j * 2, .none⟩ = some (.int .u64 pj) ∧ w'.cell? ⟨g1, o1 + j * 2 + 1, .none⟩ = some (.slice da lj ca) ∧ w'.cell? ⟨g2, o2 + j * 2 + 1, .none⟩ = some (.slice db lj cb) ∧ Below W0.heap.size W0 w') (first | assumption | exact dd) (first | (go_at_call 32; refine (s1 _ (by assumption)).mono ?_; rintro e w' ⟨rfl, hS⟩))
          rename_i hHeld
          have HB2 : Hid (Below W0.heap.size W0 w') := hS.2.2.2.2.2.2
          clear hS hHeld s1 d0 d1 d2 d3 d4 d5 dd
          go_wp2
          exact ⟨⟨j + 1, by omega, by simp, HB2.out⟩, by simp [intOf]; omega⟩
        · have i2 : ¬ ((j : Int) < nh) := by omega
          clear hB ha hb
          have HBz : Hid (Below w.heap.size w wr) := hB0.trans (HB1.out.mono hB0.size)
          go_wp2
          go_ret
          exact ⟨rfl, HBz.out⟩
end Go.Proofs.Ytnghcadhilfgnaa
namespace Go.Proofs.Ytnghcadhilfgnaa
open Go.RowKit
set_option linter.unusedVariables false
set_option linter.unusedSimpArgs false
/-- A slice of bytes and a word, as Read and Raw answer. -/
def RdP (W w1 : World) (n : Nat) (ok : Bool) (R : Nat → Int) (e : Ending) : Prop := ∃ sa c, e = .returned (.tuple #[.slice sa n c, .bool ok]) ∧ See w1 .u8 sa n R
section
variable {Z : Nat} {W : World} {x p b m q hb lb N : Nat} {fb : Nat → Nat} {B : Nat → Int} {L : List Nat}
theorem see_row {w1 : World} {g n : Nat} {R : Nat → Int} (hg : g < w1.heap.size) (h : ∀ j, j < n → w1.cell? ⟨g, j, .none⟩ = some (.int .u8 (R j))) : See w1 .u8 (some ⟨g, 0, .none⟩) n R := .inr ⟨g, 0, rfl, hg, fun i hi => by rw [Nat.zero_add]; exact h i hi⟩
theorem see_nil (w1 : World) (R : Nat → Int) (a : Option Addr) : See w1 .u8 a 0 R := .inl rfl
theorem pair_read (h : Pq Z W x p b m q hb fb lb N B L B L) (pa n : Int) (hp : 0 ≤ pa ∧ pa < 18446744073709551616) (hn : -9223372036854775808 ≤ n ∧ n ≤ 9223372036854775807) : ∃ (k : Nat) (ok : Bool) (R : Nat → Int), k ≤ 16777216 ∧ Calls Try.prog 51 #[.pointer (some ⟨p, 0, .none⟩), .int .u64 pa, .int .i64 n] W fun e w1 => RdP W w1 k ok R e ∧ Below W.heap.size W w1 ∧ ∀ V, Below w1.heap.size w1 V → Calls Try.prog 52 #[.pointer (some ⟨q, 0, .none⟩), .int .u64 pa, .int .i64 n] V fun e w2 => RdP V w2 k ok R e ∧ Below V.heap.size V w2 := by
  have n2 := h.r.mem.n2
  by_cases h0 : n < 0
  · refine ⟨0, false, fun _ => 0, by omega, (read_no pa n ((reach_neg h.r.mem pa n h0).mono fun e w' ⟨a, c⟩ => ⟨a, by rw [c]; exact Below.refl _ _⟩)).mono ?_⟩
    rintro e w1 ⟨he, hbl⟩
    refine ⟨⟨_, _, he, see_nil _ _ _⟩, hbl, fun V k => ?_⟩
    refine (readG_neg ((h.below hbl).below k).qm pa n h0).mono ?_
    rintro e w2 ⟨he, rfl⟩
    exact ⟨⟨_, _, he, see_nil _ _ _⟩, Below.refl _ _⟩
  · obtain ⟨k, rfl⟩ : ∃ k : Nat, n = (k : Int) := ⟨n.toNat, by omega⟩
    by_cases hz : k = 0
    · subst hz
      refine ⟨0, true, fun _ => 0, by omega, (read_zero h.r.mem pa).mono ?_⟩
      rintro e w1 ⟨he, rfl⟩
      refine ⟨⟨_, _, he, see_nil _ _ _⟩, Below.refl _ _, fun V k => ?_⟩
      refine (readG_zero (h.below k).qm pa).mono ?_
      rintro e w2 ⟨he, rfl⟩
      exact ⟨⟨_, _, he, see_nil _ _ _⟩, Below.refl _ _⟩
    · by_cases hk : okR N L pa k
      · obtain ⟨o, rfl, ho⟩ := hk.ex
        refine ⟨k, true, fun i => B (o + i), by omega, (read_ok h.r.mem o k (by omega) ho (hk.held rfl)).mono ?_⟩
        rintro e w1 ⟨g, hg1, hg2, he, hrow, _, hbl⟩
        refine ⟨⟨_, _, he, see_row hg2 hrow⟩, hbl, fun V k' => ?_⟩
        refine (readG_ok ((h.below hbl).below k').qm _ o k rfl (by omega) hk).mono ?_
        rintro e w2 ⟨he, hrow, hb2⟩
        exact ⟨⟨_, _, he, see_row (lt_of_cell (hrow 0 (by omega))) hrow⟩, hb2⟩
      · refine ⟨0, false, fun _ => 0, by omega, (read_no pa k (reach_not h.r pa k (by omega) (by omega) hp hk)).mono ?_⟩
        rintro e w1 ⟨he, hbl⟩
        refine ⟨⟨_, _, he, see_nil _ _ _⟩, hbl, fun V k' => ?_⟩
        have h2 := (h.below hbl).below k'
        refine (readG_no h2.qm pa k (by omega) (heldQ_no h2.qm pa k (by omega) (by omega) hp hk)).mono ?_
        rintro e w2 ⟨he, rfl⟩
        exact ⟨⟨_, _, he, see_nil _ _ _⟩, Below.refl _ _⟩
theorem pair_raw (h : Pq Z W x p b m q hb fb lb N B L B L) (pa : Int) (hp : 0 ≤ pa ∧ pa < 18446744073709551616) : ∃ (k : Nat) (ok : Bool) (R : Nat → Int), k ≤ 16777216 ∧ Calls Try.prog 53 #[.pointer (some ⟨p, 0, .none⟩), .int .u64 pa] W fun e w1 => RdP W w1 k ok R e ∧ Below W.heap.size W w1 ∧ ∀ V, Below w1.heap.size w1 V → Calls Try.prog 54 #[.pointer (some ⟨q, 0, .none⟩), .int .u64 pa] V fun e w2 => RdP V w2 k ok R e ∧ Below V.heap.size V w2 := by
  by_cases hf : isFr pa N = true
  · obtain ⟨i, hi, rfl⟩ := isFr_ex hf
    refine ⟨4096, true, fun k => B (i * 4096 + k), by omega, (raw_ok h.r.mem i hi).mono ?_⟩
    rintro e w1 ⟨g, hg1, hg2, he, hrow, _, hbl⟩
    refine ⟨⟨_, _, he, see_row hg2 hrow⟩, hbl, fun V k' => ?_⟩
    have h2 := (h.below hbl).below k'
    have c : Calls Try.prog 54 #[.pointer (some ⟨q, 0, .none⟩), .int .u64 (2147483648 + (i : Int) * 4096)] V fun e w' => CpT V 4096 (fun k => B (i * 4096 + k)) e w' := by
      by_cases hL : i ∈ L
      · exact rawG_free h2.qm h2.r.thr i hi hL
      · exact rawG_held h2.qm i hi hL
    refine c.mono ?_
    rintro e w2 ⟨he, hrow, hb2⟩
    exact ⟨⟨_, _, he, see_row (lt_of_cell (hrow 0 (by omega))) hrow⟩, hb2⟩
  · have hf' : isFr pa N = false := by simpa using hf
    refine ⟨0, false, fun _ => 0, by omega, (raw_no h.r.mem pa hp hf').mono ?_⟩
    rintro e w1 ⟨he, rfl⟩
    refine ⟨⟨_, _, he, see_nil _ _ _⟩, Below.refl _ _, fun V k' => ?_⟩
    refine (rawG_no (h.below k').qm pa hp hf').mono ?_
    rintro e w2 ⟨he, rfl⟩
    exact ⟨⟨_, _, he, see_nil _ _ _⟩, Below.refl _ _⟩
/-- The bytes that a Write is handed: a row (or none) off both memories. -/
theorem pair_write (h : Pq Z W x p b m q hb fb lb N B L B L) (pa : Int) (hp : 0 ≤ pa ∧ pa < 18446744073709551616) (n ca cb : Nat) (hn : (n : Int) ≤ 9223372036854775807) (sa sb : Option Addr) (R : Nat → Int) (hR : ∀ i, 0 ≤ R i ∧ R i < 256) (ha : See W .u8 sa n R) (hb1 : See W .u8 sb n R) (hoff : n ≠ 0 → ∀ g o, sb = some ⟨g, o, .none⟩ → ¬ Mb p b m q hb lb N fb L g) :
    ∃ ok : Bool, Calls Try.prog 56 #[.pointer (some ⟨p, 0, .none⟩), .int .u64 pa, .slice sa n ca] W fun e w1 => e = .returned (.bool ok) ∧ Fx (Mb p b m q hb lb N fb L) W w1 ∧ ∀ V, Below w1.heap.size w1 V → Calls Try.prog 57 #[.pointer (some ⟨q, 0, .none⟩), .int .u64 pa, .slice sb n cb] V fun e w2 => Two Z W x p b m q hb N (Mb p b m q hb lb N fb L) (.bool ok) e w2 := by
  by_cases hz : n = 0
  · subst hz
    refine ⟨true, (write_zero h.r.mem pa sa ca).mono ?_⟩
    rintro e w1 ⟨he, rfl⟩
    refine ⟨he, Fx.refl _ _, fun V k => ?_⟩
    have h2 := h.below k
    refine (writeG_zero h2.qm pa sb cb).mono ?_
    rintro e w2 ⟨he, rfl⟩
    exact Two.same he (Fx.of_below k) h2
  · obtain ⟨ga, oa, rfl, gal, hac⟩ := ha.resolve_left hz
    obtain ⟨gb, ob, rfl, gbl, hbc⟩ := hb1.resolve_left hz
    have hgb := hoff hz gb ob rfl
    by_cases hk : okR N L pa n
    · obtain ⟨o, rfl, ho⟩ := hk.ex
      refine ⟨true, (write_ok h.r.mem o n (by omega) ho (hk.held rfl) ga oa ca R hR hac).mono ?_⟩
      rintro e w1 ⟨he, hm, hf⟩
      have hr := h.r.laidR hm (fun f a1 a2 => hk.2.2 f (by omega) (by simp at a2; omega))
      have h1 := h.turnR hf hr
      refine ⟨he, Fx.mb hf, fun V k' => ?_⟩
      have h2 := h1.below k'
      have hb2 : ∀ i, i < n → V.cell? ⟨gb, ob + i, .none⟩ = some (.int .u8 (R i)) := fun i hi => (k'.cell (Nat.lt_of_lt_of_le gbl hf.size)).trans ((hf.cell gbl (fun e => hgb (.inl (.inl e))) (fun e => hgb (.inl (.inr (.inl e)))) (fun e => hgb (.inl (.inr (.inr e))))).trans (hbc i hi))
      refine (writeG_ok h2.qm _ o n rfl (by omega) hk gb ob cb R hR hb2 (fun e => hgb (.inr (.inr (.inr (.inr e)))))).mono ?_
      rintro e w2 ⟨he, hq, hx⟩
      have hN : ∀ c, Qb q hb lb N fb L c → Qb q hb lb N fb L c ∨ V.heap.size ≤ c := fun c hc => .inl hc
      have h3 := h2.turnQ hx (fun c hc => .inr (.inr (.inr hc))) hq hN
      exact Two.turn he (((Fx.mb hf).then_below k').trans (hx.mono (fun c _ hc => .inr (.inr (.inr (.inr hc)))))) h3 (Nat.le_trans hf.size k'.size) hN
    · refine ⟨false, (write_no pa _ n ca (reach_not h.r pa n (by omega) hn hp hk)).mono ?_⟩
      rintro e w1 ⟨he, hbl⟩
      refine ⟨he, Fx.of_below hbl, fun V k' => ?_⟩
      have h2 := (h.below hbl).below k'
      refine (writeG_no h2.qm pa _ n cb (by omega) (heldQ_no h2.qm pa n (by omega) hn hp hk)).mono ?_
      rintro e w2 ⟨he, rfl⟩
      exact Two.same he ((Fx.of_below hbl).then_below k') h2
end
end Go.Proofs.Ytnghcadhilfgnaa
