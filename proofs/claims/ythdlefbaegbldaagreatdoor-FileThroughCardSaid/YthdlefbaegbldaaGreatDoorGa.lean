import Derived.Test.YthdlefbaegbldaaGreatDoorTl
import Derived.Test.YthdlefbaegbldaaGreatDoorCp
import Derived.Test.YthdlefbaegbldaaGreatDoorGd
namespace Go.Proofs.YthdlefbaegbldaaGreatDoor
open Go.RowKit
set_option linter.unusedVariables false
set_option linter.unusedSimpArgs false
set_option maxRecDepth 100000
def P1 (q : Nat) : Nat → Option Nat := setF (fun _ => none) 0 (some q)
/-- The law's own table of open files, with its one pipe. -/
structure Mc (w : World) (s t c fb pb z1 z2 q : Nat) (F : Nat → Option Nat) (xs : List Int) (rd wt : Bool) : Prop where
  fls : Fls w s t c fb pb
  tf : Tab w fb 100 F
  tp : Tab w pb 32 (P1 q)
  l1 : F 0 = some z1 → Lk w z1 0 2 1 true false 0 0 0
  l2 : F 1 = some z2 → Lk w z2 1 3 1 false true 0 0 0
  pip : ∃ r, Pip w q xs r rd wt
/-- No two of its blocks are one. -/
structure Ds (lo hi s fb pb z1 z2 q : Nat) : Prop where
  l : lo ≤ s ∧ lo ≤ fb ∧ lo ≤ pb ∧ lo ≤ z1 ∧ lo ≤ z2 ∧ lo ≤ q
  h : s < hi ∧ fb < hi ∧ pb < hi ∧ z1 < hi ∧ z2 < hi ∧ q < hi
  d : (s ≠ fb ∧ s ≠ pb ∧ s ≠ z1 ∧ s ≠ z2 ∧ s ≠ q) ∧ (fb ≠ pb ∧ fb ≠ z1 ∧ fb ≠ z2 ∧ fb ≠ q) ∧ (pb ≠ z1 ∧ pb ≠ z2 ∧ pb ≠ q) ∧ z1 ≠ z2 ∧ z1 ≠ q ∧ z2 ≠ q
theorem Pip.blk {w v : World} {b : Nat} {xs : List Int} {r : Int} {rd wt : Bool} (h : Pip w b xs r rd wt) (hb : v.heap[b]? = w.heap[b]?) : Pip v b xs r rd wt := by
  obtain ⟨h1, C, h2, h3⟩ := h
  exact ⟨h1, C, ⟨fun i hi => (World.cell?_of_block hb).trans (h2.cb i hi), fun i => (World.frozen?_of_block hb).trans (h2.fb i), (World.cell?_of_block hb).trans h2.c1, (World.cell?_of_block hb).trans h2.c2, (World.cell?_of_block hb).trans h2.c3, (World.cell?_of_block hb).trans h2.c4, (World.cell?_of_block hb).trans h2.c5, h2.bb, h2.br, h2.bs⟩, h3⟩
section
variable {w v : World} {lo X s t c fb pb z1 z2 q : Nat} {F : Nat → Option Nat} {xs xs' : List Int} {rd wt rd' wt' : Bool}
theorem Mc.below (h : Mc w s t c fb pb z1 z2 q F xs rd wt) (d : Ds lo X s fb pb z1 z2 q) (hb : Below X w v) : Mc v s t c fb pb z1 z2 q F xs rd wt := by
  obtain ⟨r, hp⟩ := h.pip
  exact ⟨h.fls.keep (hb.block _ d.h.1), h.tf.keep (hb.block _ d.h.2.1), h.tp.keep (hb.block _ d.h.2.2.1), fun e => (h.l1 e).keep (hb.block _ d.h.2.2.2.1), fun e => (h.l2 e).keep (hb.block _ d.h.2.2.2.2.1), r, hp.blk (hb.block _ d.h.2.2.2.2.2)⟩
theorem Mc.trn (h : Mc w s t c fb pb z1 z2 q F xs rd wt) (d : Ds lo X s fb pb z1 z2 q) (hX : X ≤ w.heap.size) (ht : Trn q w v) {r : Int} (hp : Pip v q xs' r rd' wt') : Mc v s t c fb pb z1 z2 q F xs' rd' wt' := by
  have := d.h
  have := d.d
  exact ⟨h.fls.keep (ht.block _ (by omega) (by omega)), h.tf.keep (ht.block _ (by omega) (by omega)), h.tp.keep (ht.block _ (by omega) (by omega)), fun e => (h.l1 e).keep (ht.block _ (by omega) (by omega)), fun e => (h.l2 e).keep (ht.block _ (by omega) (by omega)), r, hp⟩
theorem Mc.len (h : Mc w s t c fb pb z1 z2 q F xs rd wt) : xs.length ≤ 512 ∧ ∀ x ∈ xs, 0 ≤ x ∧ x < 256 := by
  obtain ⟨r, hp⟩ := h.pip
  exact ⟨hp.1, hp.bytes⟩
/-- What a write tells the law. -/
def Wr (w : World) (base : Nat) (xs ys : List Int) (v : Value) : Prop :=
  ∃ a0 a3 a4 wp wn wc, v = .agg #[.int .i64 a0, .int .i64 (putN xs true ys), .slice none 0 0, .int .i64 a3, .int .i64 a4, .slice wp wn wc] ∧ Ch1 w base (.slice wp wn wc) (putN xs true ys != 0) 4 0 ∧
    ((a0 = 1 ∧ putN xs true ys = ys.length) ∨ (a0 = 2 ∧ a3 = 5 ∧ a4 = 0 ∧ putN xs true ys = 512 - xs.length ∧ putN xs true ys < ys.length))
theorem wr_of {base : Nat} {ys : List Int} {v : Value} {w : World} (h : Sent w base xs true ys 5 4 0 v) : Wr w base xs ys v := by
  rcases h with ⟨h1, _⟩ | ⟨h1, wp, wn, wc, rfl, h2⟩ | ⟨h1, wp, wn, wc, rfl, h2⟩
  · exfalso
    unfold putHow at h1
    split at h1
    · cases h1
    · simp at h1; split at h1 <;> cases h1
  · refine ⟨_, _, _, wp, wn, wc, rfl, h2, .inr ⟨rfl, rfl, rfl, ?_⟩⟩
    have h3 : putN xs true ys < ys.length := by
      unfold putHow at h1
      split at h1
      · cases h1
      · simp at h1; exact h1
    refine ⟨?_, h3⟩
    unfold putN at h3 ⊢
    simp at h3 ⊢
    omega
  · refine ⟨_, _, _, wp, wn, wc, rfl, h2, .inl ⟨rfl, ?_⟩⟩
    have h0 : putN xs true ys ≤ ys.length := by unfold putN; simp; omega
    unfold putHow at h1
    split at h1
    · omega
    · simp at h1; omega
theorem mc_write (h : Mc w s t c fb pb z1 z2 q F xs true wt) (hF : F 1 = some z2) (d : Ds lo X s fb pb z1 z2 q) (hX : X ≤ w.heap.size) {p : Option Addr} {n cc : Nat} {ys : List Int} (hB : Byt w p n cc ys) (hN : 0 < n → NB p q) (hy : ∀ y ∈ ys, 0 ≤ y ∧ y < 256) :
    Calls Tryz.prog 8 #[.pointer (some ⟨s, 0, .none⟩), .int .i64 1, .slice p n cc] w fun e w' => ∃ v, e = .returned v ∧ Wr w' w.heap.size xs ys v ∧ Mc w' s t c fb pb z1 z2 q F (xs ++ ys.take (putN xs true ys)) true wt ∧ Trn q w w' := by
  obtain ⟨r, hp⟩ := h.pip
  refine (writeF_any h.fls h.tf h.tp 1 (by omega) hF 0 (by omega) (q := q) rfl (h.l2 hF) hp hB hN hy).mono ?_
  rintro e V ⟨v, rfl, hS, hP, hT⟩
  exact ⟨v, rfl, wr_of hS, h.trn d hX hT hP, hT⟩
theorem mc_writeno (h : Mc w s t c fb pb z1 z2 q F xs false wt) (hF : F 1 = some z2) (d : Ds lo X s fb pb z1 z2 q) (hX : X ≤ w.heap.size) {p : Option Addr} {n cc : Nat} {ys : List Int} (hB : Byt w p n cc ys) (hN : 0 < n → NB p q) (hy : ∀ y ∈ ys, 0 ≤ y ∧ y < 256) (h0 : 0 < ys.length) :
    Calls Tryz.prog 8 #[.pointer (some ⟨s, 0, .none⟩), .int .i64 1, .slice p n cc] w fun e w' => e = .returned bad6 ∧ Trn q w w' := by
  obtain ⟨r, hp⟩ := h.pip
  refine (writeF_any h.fls h.tf h.tp 1 (by omega) hF 0 (by omega) (q := q) rfl (h.l2 hF) hp hB hN hy).mono ?_
  rintro e V ⟨v, rfl, hS, hP, hT⟩
  have hh : putHow xs false ys = 3 := by unfold putHow; rw [if_neg (by omega)]; rfl
  rcases hS with ⟨_, rfl⟩ | ⟨h1, _⟩ | ⟨h1, _⟩
  · exact ⟨rfl, hT⟩
  · rw [hh] at h1; cases h1
  · rw [hh] at h1; cases h1
/-- What a read tells the law. -/
def Ans (w : World) (base : Nat) (a0 : Int) (zs : List Int) (k : Int) (v : Value) : Prop :=
  ∃ p cc p2 m2 d2, v = .agg #[.int .i64 a0, .slice p zs.length cc, .int .i64 k, .int .i64 0, .slice p2 m2 d2] ∧ Byt w p zs.length cc zs ∧ (∀ b o, p = some ⟨b, o, .none⟩ → base ≤ b) ∧ Ch1 w base (.slice p2 m2 d2) (zs.length != 0) 5 0
def ga (xs : List Int) (n : Int) (wt : Bool) : Int := if n < 0 then 3 else if 1 ≤ n ∧ xs.length = 0 ∧ wt = true then 2 else 1
def gk (xs : List Int) (n : Int) (wt : Bool) : Int := if n < 0 then 0 else if 1 ≤ n ∧ xs.length = 0 ∧ wt = true then 4 else 0
theorem take_len (xs : List Int) (n : Int) : (xs.take (takeN xs n)).length = takeN xs n := by
  rw [List.length_take]; unfold takeN; omega
theorem takeN_neg (xs : List Int) (n : Int) (h : n < 0) : takeN xs n = 0 := by unfold takeN; omega
theorem ans_got {base : Nat} {n : Int} {v : Value} (hn : 0 ≤ n) (h : Got w base xs wt n 4 5 0 v) : Ans w base (ga xs n wt) (xs.take (takeN xs n)) (gk xs n wt) v := by
  have hl := take_len xs n
  have i0 : ¬ n < 0 := by omega
  rcases h with ⟨h1, rfl⟩ | ⟨h1, p, cc, wp, wn, wc, rfl, h2, h3, h4⟩
  · have hc : 1 ≤ n ∧ xs.length = 0 ∧ wt = true := by
      unfold takeHow at h1
      split at h1
      · assumption
      · cases h1
    have hz : takeN xs n = 0 := by unfold takeN; omega
    rw [hz, List.take_zero, ga, gk, if_neg i0, if_pos hc, if_neg i0, if_pos hc]
    exact ⟨none, 0, none, 0, 0, rfl, ⟨rfl, Nat.le_refl _, by decide, .inl rfl⟩, (fun b o h => by cases h), .inl ⟨rfl, rfl⟩⟩
  · have hc : ¬ (1 ≤ n ∧ xs.length = 0 ∧ wt = true) := by
      intro hc
      apply h1
      unfold takeHow
      rw [if_pos hc]
    rw [ga, gk, if_neg i0, if_neg hc, if_neg i0, if_neg hc]
    have hB := byt_own h2
    refine ⟨p, cc, wp, wn, wc, by rw [hl], by rw [hl]; exact hB, ?_, by rw [hl]; exact h4⟩
    intro b o hb
    subst hb
    exact own_block h2 b rfl
theorem ans_bad (w : World) (base : Nat) (xs : List Int) (n : Int) (wt : Bool) (hn : n < 0) : Ans w base (ga xs n wt) (xs.take (takeN xs n)) (gk xs n wt) bad5 := by
  rw [takeN_neg xs n hn, List.take_zero, ga, gk, if_pos hn, if_pos hn]
  exact ⟨none, 0, none, 0, 0, rfl, ⟨rfl, Nat.le_refl _, by decide, .inl rfl⟩, (fun b o h => by cases h), .inl ⟨rfl, rfl⟩⟩
theorem Ans.trn {base g : Nat} {a0 k : Int} {zs : List Int} {u : Value} (h : Ans w base a0 zs k u) (ht : Trn g w v) (hg : g < base) : Ans v base a0 zs k u := by
  obtain ⟨p, cc, p2, m2, d2, rfl, h1, h2, h3⟩ := h
  exact ⟨p, cc, p2, m2, d2, rfl, ht.byt h1 (fun _ b o e hh => by have := h2 b o e; omega), h2, h3.trn ht hg⟩
theorem Ans.below {base : Nat} {a0 k : Int} {zs : List Int} {u : Value} (h : Ans w base a0 zs k u) (ht : Below w.heap.size w v) : Ans v base a0 zs k u := by
  obtain ⟨p, cc, p2, m2, d2, rfl, h1, h2, h3⟩ := h
  exact ⟨p, cc, p2, m2, d2, rfl, byt_below h1 ht, h2, h3.below ht⟩
theorem mc_peek (h : Mc w s t c fb pb z1 z2 q F xs rd wt) (hF : F 0 = some z1) (n : Int) :
    Calls Tryz.prog 11 #[.pointer (some ⟨s, 0, .none⟩), .int .i64 0, .int .i64 n] w fun e w' => ∃ v, e = .returned v ∧ Ans w' w.heap.size (ga xs n wt) (xs.take (takeN xs n)) (gk xs n wt) v ∧ Below w.heap.size w w' := by
  obtain ⟨r, hp⟩ := h.pip
  by_cases hn : n < 0
  · refine (peekF_neg h.fls h.tf h.tp 0 (by omega) hF 0 (by omega) (q := q) rfl (h.l1 hF) hp n hn).mono ?_
    rintro e V ⟨rfl, hb⟩
    exact ⟨_, rfl, ans_bad V _ xs n wt hn, hb⟩
  · refine (peekF_any h.fls h.tf h.tp 0 (by omega) hF 0 (by omega) (q := q) rfl (h.l1 hF) hp n (by omega)).mono ?_
    rintro e V ⟨v, rfl, hG, hb⟩
    exact ⟨_, rfl, ans_got (by omega) hG, hb⟩
theorem mc_read (h : Mc w s t c fb pb z1 z2 q F xs rd wt) (hF : F 0 = some z1) (d : Ds lo X s fb pb z1 z2 q) (hX : X ≤ w.heap.size) (n : Int) :
    Calls Tryz.prog 12 #[.pointer (some ⟨s, 0, .none⟩), .int .i64 0, .int .i64 n] w fun e w' => ∃ v, e = .returned v ∧ Ans w' w.heap.size (ga xs n wt) (xs.take (takeN xs n)) (gk xs n wt) v ∧ Mc w' s t c fb pb z1 z2 q F (xs.drop (takeN xs n)) rd wt ∧ Trn q w w' := by
  obtain ⟨r, hp⟩ := h.pip
  by_cases hn : n < 0
  · refine (readF_neg h.fls h.tf h.tp 0 (by omega) hF 0 (by omega) (q := q) rfl (h.l1 hF) hp n hn).mono ?_
    rintro e V ⟨rfl, hb⟩
    refine ⟨_, rfl, ans_bad V _ xs n wt hn, ?_, Trn.ofBelow hb⟩
    rw [takeN_neg xs n hn, List.drop_zero]
    exact h.below d (hb.mono hX)
  · refine (readF_any h.fls h.tf h.tp 0 (by omega) hF 0 (by omega) (q := q) rfl (h.l1 hF) hp n (by omega)).mono ?_
    rintro e V ⟨v, rfl, hG, hP, hT⟩
    exact ⟨_, rfl, ans_got (by omega) hG, h.trn d hX hT hP, hT⟩
/-- Both answers are the same. -/
theorem got_ans {ba bb : Nat} {a0 k : Int} {zs : List Int} {u v : Value} (hl : zs.length ≤ 512) (ha : Ans w ba a0 zs k u) (hb : Ans w bb a0 zs k v) : Calls Tryz.prog 13 #[u, v] w fun e w' => e = .returned (.bool true) ∧ Below w.heap.size w w' := by
  obtain ⟨p, cc, p2, m2, d2, rfl, h1, _, h3⟩ := ha
  obtain ⟨p', cc', p2', m2', d2', rfl, h1', _, h3'⟩ := hb
  exact got_any a0 p p' zs.length cc cc' zs (by omega) h1 h1' k 0 p2 p2' m2 m2' d2 d2' h3 h3'
theorem ChS.toBelow {S : Nat → Prop} {w v : World} {B : Nat} (h : ChS S w v) (hS : ∀ i, S i → B ≤ i) (hB : B ≤ w.heap.size) : Below B w v :=
  ⟨h.os, h.tape, h.output, h.size, fun k hk => h.block k (by omega) (fun e => by have := hS k e; omega)⟩
/-- The reader's end is let go. -/
theorem mc_dropR (h : Mc w s t c fb pb z1 z2 q F xs true true) (hF : F 0 = some z1) (d : Ds lo X s fb pb z1 z2 q) (hX : X ≤ w.heap.size) (hlo : lo ≤ X) :
    Calls Tryz.prog 15 #[.pointer (some ⟨s, 0, .none⟩), .int .i64 0] w fun e w' => ∃ g, e = .returned (.tuple #[.slice (some ⟨g, 0, .none⟩) 1 1, .int .i64 0]) ∧ Mc w' s t c fb pb z1 z2 q (setF F 0 none) xs false true ∧ Below lo w w' := by
  obtain ⟨r, hp⟩ := h.pip
  obtain ⟨dl, dh, ⟨d1, d2, d3, d4, d5⟩, ⟨e1, e2, e3, e4⟩, ⟨f1, f2, f3⟩, g1, g2, g3⟩ := d
  refine (dropRT2_any h.fls h.tf h.tp 0 (by omega) hF 0 (by omega) (q := q) rfl (h.l1 hF) hp d5 g2 f3 e4 d1 d3 e2 f1 e1 d2).mono ?_
  rintro e V ⟨⟨g, hg, rfl, _, _⟩, hT, hP, hC⟩
  refine ⟨g, rfl, ⟨h.fls.keep (hC.block _ (by omega) (by omega)), hT, h.tp.keep (hC.block _ (by omega) (by omega)), (fun e => by cases e), fun e => (h.l2 e).keep (hC.block _ (by omega) (by omega)), r, hP⟩, hC.toBelow (fun i hi => by omega) (by omega)⟩
theorem mc_dropW (h : Mc w s t c fb pb z1 z2 q F xs true true) (hF : F 1 = some z2) (d : Ds lo X s fb pb z1 z2 q) (hX : X ≤ w.heap.size) (hlo : lo ≤ X) :
    Calls Tryz.prog 15 #[.pointer (some ⟨s, 0, .none⟩), .int .i64 1] w fun e w' => ∃ g, w.heap.size ≤ g ∧ e = .returned (.tuple #[.slice (some ⟨g, 0, .none⟩) 1 1, .int .i64 0]) ∧ w'.cell? ⟨g, 0, .none⟩ = some (.int .i64 4) ∧ w'.cell? ⟨g, 1, .none⟩ = some (.int .i64 0) ∧ Mc w' s t c fb pb z1 z2 q (setF F 1 none) xs true false ∧ (∀ i, i < w.heap.size → i ≠ z2 → i ≠ fb → i ≠ q → w'.heap[i]? = w.heap[i]?) ∧ Below lo w w' := by
  obtain ⟨r, hp⟩ := h.pip
  obtain ⟨dl, dh, ⟨d1, d2, d3, d4, d5⟩, ⟨e1, e2, e3, e4⟩, ⟨f1, f2, f3⟩, g1, g2, g3⟩ := d
  refine (dropWT2_any h.fls h.tf h.tp 1 (by omega) hF 0 (by omega) (q := q) rfl (h.l2 hF) hp d5 g3 f3 e4 d1 d4 e3 f2 e1 d2).mono ?_
  rintro e V ⟨⟨g, hg, rfl, c0, c1⟩, hT, hP, hC⟩
  refine ⟨g, hg, rfl, c0, c1, ⟨h.fls.keep (hC.block _ (by omega) (by omega)), hT, h.tp.keep (hC.block _ (by omega) (by omega)), fun e => (h.l1 e).keep (hC.block _ (by omega) (by omega)), (fun e => by cases e), r, hP⟩, fun i hi h1 h2 h3 => hC.block i hi (by omega), hC.toBelow (fun i hi => by omega) (by omega)⟩
theorem mc_dropF (h : Mc w s t c fb pb z1 z2 q F xs true false) (hF : F 0 = some z1) (d : Ds lo X s fb pb z1 z2 q) (hX : X ≤ w.heap.size) (hlo : lo ≤ X) :
    Calls Tryz.prog 15 #[.pointer (some ⟨s, 0, .none⟩), .int .i64 0] w fun e w' => e = .returned (.tuple #[.slice none 0 0, .int .i64 0]) ∧ Fls w' s t c fb pb ∧ Tab w' pb 32 (setF (P1 q) 0 none) ∧ (∀ i, i < w.heap.size → X ≤ i → w'.heap[i]? = w.heap[i]?) ∧ Below lo w w' := by
  obtain ⟨r, hp⟩ := h.pip
  obtain ⟨dl, dh, ⟨d1, d2, d3, d4, d5⟩, ⟨e1, e2, e3, e4⟩, ⟨f1, f2, f3⟩, g1, g2, g3⟩ := d
  refine (dropRF_any h.fls h.tf h.tp 0 (by omega) hF 0 (by omega) (q := q) rfl (h.l1 hF) hp d5 g2 f3 e4 d1 d3 e2 f1 e1 d2).mono ?_
  rintro e V ⟨rfl, hT, hP, hC⟩
  refine ⟨rfl, h.fls.keep (hC.block _ (by omega) (by omega)), hP, fun i hi h1 => hC.block i hi (by omega), hC.toBelow (fun i hi => by omega) (by omega)⟩
end
end Go.Proofs.YthdlefbaegbldaaGreatDoor
