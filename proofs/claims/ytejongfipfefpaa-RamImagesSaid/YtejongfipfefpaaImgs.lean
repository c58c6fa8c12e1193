import Derived.Test.YtejongfipfefpaaSame
import Derived.Deep.RegionHeld3
namespace Go.Proofs.Ytejongfipfefpaa
open Go.RowKit
set_option linter.unusedVariables false
set_option linter.unusedSimpArgs false
/-- A list of frames: each one's address and bytes, where they lie. -/
def SeeH (w : World) (q : Option Addr) (n : Nat) (P : Nat → Int) (ln : Nat → Nat) (R : Nat → Nat → Int) : Prop := n = 0 ∨ ∃ g o, q = some ⟨g, o, .none⟩ ∧ g < w.heap.size ∧ ∀ i, i < n → w.cell? ⟨g, o + i * 2, .none⟩ = some (.int .u64 (P i)) ∧ ∃ d c, w.cell? ⟨g, o + i * 2 + 1, .none⟩ = some (.slice d (ln i) c) ∧ See w .u8 d (ln i) (R i)
theorem SeeH.below {w w' : World} {q : Option Addr} {n : Nat} {P : Nat → Int} {ln : Nat → Nat} {R : Nat → Nat → Int} (h : SeeH w q n P ln R) (b : Below w.heap.size w w') : SeeH w' q n P ln R := by
  rcases h with h | ⟨g, o, hq, hg, hr⟩
  · exact .inl h
  · refine .inr ⟨g, o, hq, Nat.lt_of_lt_of_le hg b.size, fun i hi => ?_⟩
    obtain ⟨h0, d, c, h1, h2⟩ := hr i hi
    exact ⟨(b.cell (p := ⟨g, o + i * 2, .none⟩) hg).trans h0, d, c, (b.cell (p := ⟨g, o + i * 2 + 1, .none⟩) hg).trans h1, h2.below b⟩
theorem C3.below {w w' : World} {a : Nat} {x y z : Value} (h : C3 w a x y z) (k : Below w.heap.size w w') : C3 w' a x y z := h.kept ⟨k.os, k.tape, k.output, k.size, fun j hj _ => k.block j hj⟩ (row := none) (fun r e => by cases e)
set_option maxHeartbeats 2000000 in
set_option maxRecDepth 100000 in
theorem images_same {w : World} {N : Int} {nf nh cfa cfb cha chb : Nat} {qfa qfb qha qhb : Option Addr} {F P : Nat → Int} {ln : Nat → Nat} {R : Nat → Nat → Int} (h1 : nf ≤ 281474976710656) (h2 : nh ≤ 281474976710656) (hln : ∀ i, i < nh → ln i ≤ 281474976710656) (fa : See w .u64 qfa nf F) (fb : See w .u64 qfb nf F) (ha : SeeH w qha nh P ln R) (hb : SeeH w qhb nh P ln R) :
    Calls Try.prog 9 #[.agg #[.int .i64 N, .slice qfa nf cfa, .slice qha nh cha], .agg #[.int .i64 N, .slice qfb nf cfb, .slice qhb nh chb]] w fun e w' => e = .returned (.bool true) ∧ Below w.heap.size w w' := by
  go_enter Try.func9, Try.ntmps9
  go_wp2
  have kA := (C3.new w (.int .i64 N) (.slice qfa nf cfa) (.slice qha nh cha) 25).alloc (.cells #[.int .i64 N, .slice qfb nf cfb, .slice qhb nh chb] 25)
  have kB : C3 ((w.alloc (.cells #[.int .i64 N, .slice qfa nf cfa, .slice qha nh cha] 25)).alloc (.cells #[.int .i64 N, .slice qfb nf cfb, .slice qhb nh chb] 25)) (w.heap.size + 1) (.int .i64 N) (.slice qfb nf cfb) (.slice qhb nh chb) := by
    have := C3.new (w.alloc (.cells #[.int .i64 N, .slice qfa nf cfa, .slice qha nh cha] 25)) (.int .i64 N) (.slice qfb nf cfb) (.slice qhb nh chb) 25
    rwa [World.size_alloc] at this
  have hB0 : Below w.heap.size w ((w.alloc (.cells #[.int .i64 N, .slice qfa nf cfa, .slice qha nh cha] 25)).alloc (.cells #[.int .i64 N, .slice qfb nf cfb, .slice qhb nh chb] 25)) := (below_past _ _).alloc (by simp) _
  generalize ((w.alloc (.cells #[.int .i64 N, .slice qfa nf cfa, .slice qha nh cha] 25)).alloc (.cells #[.int .i64 N, .slice qfb nf cfb, .slice qhb nh chb] 25)) = W0 at *
  have HC : Hid (∀ W, Below W0.heap.size W0 W → W.cell? ⟨w.heap.size, 1, .none⟩ = some (.slice qfa nf cfa) ∧ W.cell? ⟨w.heap.size, 2, .none⟩ = some (.slice qha nh cha) ∧ W.cell? ⟨w.heap.size + 1, 1, .none⟩ = some (.slice qfb nf cfb) ∧ W.cell? ⟨w.heap.size + 1, 2, .none⟩ = some (.slice qhb nh chb)) := fun W hW => ⟨(kA.below hW).2.1, (kA.below hW).2.2.1, (kB.below hW).2.1, (kB.below hW).2.2.1⟩
  clear kA kB
  have fa := fa.below hB0
  have fb := fb.below hB0
  have ha := ha.below hB0
  have hb := hb.below hB0
  go_loopw [5] (fun k wr => ∃ i : Nat, i ≤ nf ∧ k = .int .i64 i ∧ Below W0.heap.size W0 wr) (fun k _ => nf - (intOf k).toNat)
  case atStart => exact ⟨0, by omega, rfl, Below.refl _ _⟩
  case round =>
    obtain ⟨i, hi, rfl, hB⟩ := hrel
    have HB : Hid (Below W0.heap.size W0 wr) := hB
    obtain ⟨e1, e2, e3, e4⟩ := HC.out wr hB
    by_cases hin : i < nf
    · rcases fa with h | ⟨g1, o1, rfl, hg1, r1⟩
      · omega
      rcases fb with h | ⟨g2, o2, rfl, hg2, r2⟩
      · omega
      have i1 : (i : Int) < nf := by omega
      have k0 := (hB.cell (p := ⟨g1, o1 + i, .none⟩) hg1).trans (r1 i hin)
      have k1 := (hB.cell (p := ⟨g2, o2 + i, .none⟩) hg2).trans (r2 i hin)
      clear hB r1 r2 ha hb
      generalize F i = x at *
      go_wp2
      go_quiet (fail)
      go_wp2
      exact ⟨⟨i + 1, by omega, by simp, below_drewN HB.out _⟩, by simp [intOf]; omega⟩
    · have i1 : ¬ ((i : Int) < nf) := by omega
      clear hB fa fb
      go_wp2
      clear e1 e2 e3 e4
      go_loopw [6] (fun k wr => ∃ i : Nat, i ≤ nh ∧ k = .int .i64 i ∧ Below W0.heap.size W0 wr) (fun k _ => nh - (intOf k).toNat)
      case atStart => exact ⟨0, by omega, rfl, HB.out⟩
      case round =>
        obtain ⟨j, hj, rfl, hB⟩ := hrel
        have HB1 : Hid (Below W0.heap.size W0 wr) := hB
        obtain ⟨e1, e2, e3, e4⟩ := HC.out wr hB
        by_cases hjn : j < nh
        · rcases ha with h | ⟨g1, o1, rfl, hg1, r1⟩
          · omega
          rcases hb with h | ⟨g2, o2, rfl, hg2, r2⟩
          · omega
          have i2 : (j : Int) < nh := by omega
          obtain ⟨a0, da, ca, a1, sa⟩ := r1 j hjn
          obtain ⟨b0, db, cb, b1, sb⟩ := r2 j hjn
          have HS : Hid (∀ w', Below W0.heap.size W0 w' → w'.cell? ⟨w.heap.size, 2, .none⟩ = some (.slice (some ⟨g1, o1, .none⟩) nh cha) ∧ w'.cell? ⟨w.heap.size + 1, 2, .none⟩ = some (.slice (some ⟨g2, o2, .none⟩) nh chb) ∧ w'.cell? ⟨g1, o1 + j * 2, .none⟩ = some (.int .u64 (P j)) ∧ w'.cell? ⟨g2, o2 + j * 2, .none⟩ = some (.int .u64 (P j)) ∧ w'.cell? ⟨g1, o1 + j * 2 + 1, .none⟩ = some (.slice da (ln j) ca) ∧ w'.cell? ⟨g2, o2 + j * 2 + 1, .none⟩ = some (.slice db (ln j) cb) ∧ Below W0.heap.size W0 w') := fun w' hb' => ⟨(HC.out w' hb').2.1, (HC.out w' hb').2.2.2, (hb'.cell hg1).trans a0, (hb'.cell hg2).trans b0, (hb'.cell hg1).trans a1, (hb'.cell hg2).trans b1, hb'⟩
          have cc : ∀ w', Below W0.heap.size W0 w' → Calls Try.prog 27 #[.slice da (ln j) ca, .slice db (ln j) cb] w' fun e w'' => e = .returned (.bool true) ∧ Below W0.heap.size W0 w'' := fun w' hb' => by
            refine (bytes_same (hln j hjn) (sa.below hb') (sb.below hb')).mono ?_
            rintro e w2 ⟨he, hb2⟩
            exact ⟨he, hb'.trans (hb2.mono hb'.size)⟩
          clear sa sb a0 a1 b0 b1 r1 r2 hB e1 e2 e3 e4
          generalize ln j = lj at *
          generalize P j = pj at *
          have s1 : ∀ w', (w'.cell? ⟨w.heap.size, 2, .none⟩ = some (.slice (some ⟨g1, o1, .none⟩) nh cha) ∧ w'.cell? ⟨w.heap.size + 1, 2, .none⟩ = some (.slice (some ⟨g2, o2, .none⟩) nh chb) ∧ w'.cell? ⟨g1, o1 + j * 2, .none⟩ = some (.int .u64 pj) ∧ w'.cell? ⟨g2, o2 + j * 2, .none⟩ = some (.int .u64 pj) ∧ w'.cell? ⟨g1, o1 + j * 2 + 1, .none⟩ = some (.slice da lj ca) ∧ w'.cell? ⟨g2, o2 + j * 2 + 1, .none⟩ = some (.slice db lj cb) ∧ Below W0.heap.size W0 w') →
              Calls Try.prog 27 #[.slice da lj ca, .slice db lj cb] w' fun e w'' => e = .returned (.bool true) ∧ (w''.cell? ⟨w.heap.size, 2, .none⟩ = some (.slice (some ⟨g1, o1, .none⟩) nh cha) ∧ w''.cell? ⟨w.heap.size + 1, 2, .none⟩ = some (.slice (some ⟨g2, o2, .none⟩) nh chb) ∧ w''.cell? ⟨g1, o1 + j * 2, .none⟩ = some (.int .u64 pj) ∧ w''.cell? ⟨g2, o2 + j * 2, .none⟩ = some (.int .u64 pj) ∧ w''.cell? ⟨g1, o1 + j * 2 + 1, .none⟩ = some (.slice da lj ca) ∧ w''.cell? ⟨g2, o2 + j * 2 + 1, .none⟩ = some (.slice db lj cb) ∧ Below W0.heap.size W0 w'') := fun w' hs => by
            refine (cc w' hs.2.2.2.2.2.2).mono ?_
            rintro e w2 ⟨he, hb2⟩
            exact ⟨he, HS.out w2 hb2⟩
          have d := HS.out wr HB1.out
          have dd := HS.out wr.drew HB1.out.drew
          obtain ⟨d0, d1, d2, d3, d4, d5, _⟩ := d
          clear cc
          go_upto_region 11 with fail
          go_region_held3 (fun w' => w'.cell? ⟨w.heap.size, 2, .none⟩ = some (.slice (some ⟨g1, o1, .none⟩) nh cha) ∧ w'.cell? ⟨w.heap.size + 1, 2, .none⟩ = some (.slice (some ⟨g2, o2, .none⟩) nh chb) ∧ w'.cell? ⟨g1, o1 + j * 2, .none⟩ = some (.int .u64 pj) ∧ w'.cell? ⟨g2, o2 + j * 2, .none⟩ = some (.int .u64 pj) ∧ w'.cell? ⟨g1, o1 + j * 2 + 1, .none⟩ = some (.slice da lj ca) ∧ w'.cell? ⟨g2, o2 + j * 2 + 1, .none⟩ = some (.slice db lj cb) ∧ Below W0.heap.size W0 w') (first | assumption | exact dd) (first | (go_at_call 27; refine (s1 _ (by assumption)).mono ?_; rintro e w' ⟨rfl, hS⟩))
          rename_i hHeld
          have HB2 : Hid (Below W0.heap.size W0 w') := hS.2.2.2.2.2.2
          clear hS hHeld s1 d0 d1 d2 d3 d4 d5 dd
          go_wp2
          exact ⟨⟨j + 1, by omega, by simp, HB2.out⟩, by simp [intOf]; omega⟩
        · have i2 : ¬ ((j : Int) < nh) := by omega
          clear hB ha hb
          have HBz : Hid (Below w.heap.size w wr) := hB0.trans (HB1.out.mono hB0.size)
          go_wp2
          go_ret
          exact ⟨rfl, HBz.out⟩
end Go.Proofs.Ytejongfipfefpaa
