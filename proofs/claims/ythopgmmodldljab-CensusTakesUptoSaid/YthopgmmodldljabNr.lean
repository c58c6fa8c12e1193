import Derived.Test.YthopgmmodldljabNq
namespace Go.Proofs.Ythopgmmodldljab
open Go Go.RowKit
set_option linter.unusedVariables false
set_option linter.unusedSimpArgs false
/-! CensusTakes. -/
def badN (N : Int) : Prop := N < 1 ∨ 4096 < N
instance (N : Int) : Decidable (badN N) := by unfold badN; infer_instance
def cF (N : Int) (L : Lk) (fr : List Int) : List Ow := if badN N then [] else frL N.toNat (allL L fr)
def cA (N : Int) (L : Lk) : List Ow := if badN N then [] else L.files.map (cfF (nfA L))
def cB (N : Int) (L : Lk) : List Ow := if badN N then [] else L.inos.map (cfI (nfA L))
def cR (N : Int) (L : Lk) (fr : List Int) : Int × Int := if badN N then (1, 0) else tkW N.toNat L fr
def TkB (w : World) (N : Int) (L : Lk) (fr : List Int) (e : Ending) (w' : World) : Prop := ∃ u1 u2 u3, e = .returned (.agg (cwL u1 u2 u3 (cR N L fr)).toArray) ∧ Owns w' w.heap.size [rowW (cF N L fr) u1, rowC (cA N L) u2, rowC (cB N L) u3] ∧ Below w.heap.size w w'
theorem TkB.bad {w w' : World} {N : Int} {L : Lk} {fr : List Int} {e : Ending} (hN : badN N) (h : e = .returned (.agg (cwL (.slice none 0 0) (.slice none 0 0) (.slice none 0 0) (1, 0)).toArray) ∧ Below w.heap.size w w') : TkB w N L fr e w' := by
 refine ⟨.slice none 0 0, .slice none 0 0, .slice none 0 0, ?_, ?_, h.2⟩
 ·unfold cR; rw [if_pos hN]; exact h.1
 ·unfold cF cA cB
  rw [if_pos hN, if_pos hN, if_pos hN]
  refine ⟨fun r hr => ?_, by simp [blks, rowW, rowC, Value.ownBlock]⟩
  simp only [List.mem_cons, List.not_mem_nil, or_false] at hr
  rcases hr with rfl | rfl | rfl <;> exact World.ownsRow_nil _ _ _ _
theorem TkB.good {w w' : World} {N : Nat} {L : Lk} {fr : List Int} {e : Ending} (hN : ¬ badN (N : Int)) (h : TkP w N L fr e w') : TkB w N L fr e w' := by
 obtain ⟨u1, u2, u3, h1, h2, h3⟩ := h
 refine ⟨u1, u2, u3, ?_, ?_, h3⟩
 ·unfold cR; rw [if_neg hN]; exact h1
 ·unfold cF cA cB; rw [if_neg hN, if_neg hN, if_neg hN]; exact h2
section
variable {w : World} {X : Nat} {pv fv iv qv rv lv : Value} {L : Lk} {ev : Value} {fr : List Int}
theorem take_all (h : LkW w X pv fv iv qv rv lv L) (hX : X ≤ w.heap.size) (hf : Wd w X ev fr) (hs : (allL L fr).length ≤ 1000000) (hR : LkR L) (hfr : ∀ a ∈ fr, u64R a) (hfl : fr.length ≤ 1000000) (N : Int) : Calls Try.prog 7 #[.int .i64 N, .agg (lkL L.tramp pv fv iv qv rv lv L.ticks L.next L.free).toArray, ev] w (TkB w N L fr) := by
 by_cases hN : badN N
 ·exact (take_bad _ _ _ _ pv fv iv qv rv lv ev N hN).mono (fun e w' h => TkB.bad hN h)
 ·obtain ⟨M, rfl⟩ : ∃ M : Nat, N = (M : Int) := ⟨N.toNat, by unfold badN at hN; omega⟩
  exact (take_any h hX hf hs hR hfr hfl M (by unfold badN at hN; omega) (by unfold badN at hN; omega)).mono (fun e w' h => TkB.good hN h)
theorem dtake_all (h : LkW w X pv fv iv qv rv lv L) (hX : X ≤ w.heap.size) (hf : Wd w X ev fr) (hs : (allL L fr).length ≤ 1000000) (hR : LkR L) (hfr : ∀ a ∈ fr, u64R a) (hfl : fr.length ≤ 1000000) (N : Int) : Calls Try.prog 8 #[.int .i64 N, .agg (lkL L.tramp pv fv iv qv rv lv L.ticks L.next L.free).toArray, ev] w (TkB w N L fr) := by
 by_cases hN : badN N
 ·exact (dtake_bad _ _ _ _ pv fv iv qv rv lv ev N hN).mono (fun e w' h => TkB.bad hN h)
 ·obtain ⟨M, rfl⟩ : ∃ M : Nat, N = (M : Int) := ⟨N.toNat, by unfold badN at hN; omega⟩
  exact (dtake_any h hX hf hs hR hfr hfl M (by unfold badN at hN; omega) (by unfold badN at hN; omega)).mono (fun e w' h => TkB.good hN h)
end
theorem cF_len (N : Int) (L : Lk) (fr : List Int) : (cF N L fr).length ≤ 4096 := by
 unfold cF
 split
 ·simp
 ·rename_i h; rw [frL_len]; unfold badN at h; omega
theorem cA_len {N : Int} {L : Lk} (h : L.files.length ≤ 1048576) : (cA N L).length ≤ 1048576 := by
 unfold cA; split <;> simp; exact h
theorem cB_len {N : Int} {L : Lk} (h : L.inos.length ≤ 1048576) : (cB N L).length ≤ 1048576 := by
 unfold cB; split <;> simp; exact h
theorem own_ap {w : World} {base : Nat} {r : Row} {R : List Row} (h : Owns w base (r :: R)) {g : Nat} (hg : r.v.ownBlock = some g) : g ∉ blks R := by
 have := h.nd
 rw [show blks (r :: R) = g :: blks R by unfold blks; rw [List.filterMap_cons, hg]] at this
 exact (List.nodup_cons.1 this).1
theorem own_tl {w : World} {base : Nat} {r : Row} {R : List Row} (h : Owns w base (r :: R)) : Owns w base R := h.sub (List.sublist_cons_self _ _)
theorem mem_blks {R : List Row} {r : Row} {g : Nat} (h : r ∈ R) (hg : r.v.ownBlock = some g) : g ∈ blks R := List.mem_filterMap.2 ⟨r, h, hg⟩
/-- Two rows are written over: the rest stays. -/
theorem Ch.two {w V : World} {base : Nat} {r1 r2 : Row} {R : List Row} (h : Ch (fun k => r1.v.ownBlock = some k ∨ r2.v.ownBlock = some k) w V) (O : Owns w base (r1 :: r2 :: R)) : Owns V base R := by
 refine h.own (own_tl (own_tl O)) (fun g hg hp => ?_)
 rcases hp with hp | hp
 ·obtain ⟨q, hq, hqg⟩ := List.mem_filterMap.1 hg
  exact own_ap O hp (mem_blks (List.mem_cons_of_mem _ hq) hqg)
 ·exact own_ap (own_tl O) hp hg
def v4 (a b c d : Value) : Nat → Value := fun i => if i = 0 then a else if i = 1 then b else if i = 2 then c else d
def xs4 (a b : List Ow) : Nat → List Ow := fun i => if i = 0 then a else if i = 1 then b else if i = 2 then a else b
theorem Ch.four {w V : World} {base : Nat} {A B : List Ow} {a b c d : Value} {R : List Row} (h : Ch (fun k => ∃ i, i < 4 ∧ (v4 a b c d i).ownBlock = some k) w V) (O : Owns w base (rowC A a :: rowC B b :: rowC A c :: rowC B d :: R)) : Owns V base R := by
 have o1 := own_tl O
 have o2 := own_tl o1
 have o3 := own_tl o2
 have o4 := own_tl o3
 have up : ∀ {r : Row} {S : List Row} {g : Nat}, g ∈ blks S → g ∈ blks (r :: S) := fun {r S g} hg => by
  obtain ⟨q, hq, hqg⟩ := List.mem_filterMap.1 hg
  exact mem_blks (List.mem_cons_of_mem _ hq) hqg
 refine h.own o4 (fun g hg hp => ?_)
 obtain ⟨i, hi, e⟩ := hp
 have h4 : i = 0 ∨ i = 1 ∨ i = 2 ∨ i = 3 := by omega
 rcases h4 with rfl | rfl | rfl | rfl
 ·exact own_ap O (r := rowC A a) e (up (up (up hg)))
 ·exact own_ap o1 (r := rowC B b) e (up (up hg))
 ·exact own_ap o2 (r := rowC A c) e (up hg)
 ·exact own_ap o3 (r := rowC B d) e hg
theorem four_ap {w : World} {base : Nat} {A B : List Ow} {a b c d : Value} {R : List Row} (O : Owns w base (rowC A a :: rowC B b :: rowC A c :: rowC B d :: R)) : ∀ i j, i < 4 → j < 4 → i ≠ j → ∀ g, (v4 a b c d i).ownBlock = some g → (v4 a b c d j).ownBlock ≠ some g := by
 have o1 := own_tl O
 have o2 := own_tl o1
 have q : ∀ i j, i < j → j < 4 → ∀ g, (v4 a b c d i).ownBlock = some g → (v4 a b c d j).ownBlock ≠ some g := by
  intro i j hij hj g h1 h2
  have h4 : (i = 0 ∧ j = 1) ∨ (i = 0 ∧ j = 2) ∨ (i = 0 ∧ j = 3) ∨ (i = 1 ∧ j = 2) ∨ (i = 1 ∧ j = 3) ∨ (i = 2 ∧ j = 3) := by omega
  rcases h4 with ⟨rfl, rfl⟩ | ⟨rfl, rfl⟩ | ⟨rfl, rfl⟩ | ⟨rfl, rfl⟩ | ⟨rfl, rfl⟩ | ⟨rfl, rfl⟩
  ·exact own_ap O (r := rowC A a) h1 (mem_blks (r := rowC B b) (by simp) h2)
  ·exact own_ap O (r := rowC A a) h1 (mem_blks (r := rowC A c) (by simp) h2)
  ·exact own_ap O (r := rowC A a) h1 (mem_blks (r := rowC B d) (by simp) h2)
  ·exact own_ap o1 (r := rowC B b) h1 (mem_blks (r := rowC A c) (by simp) h2)
  ·exact own_ap o1 (r := rowC B b) h1 (mem_blks (r := rowC B d) (by simp) h2)
  ·exact own_ap o2 (r := rowC A c) h1 (mem_blks (r := rowC B d) (by simp) h2)
 intro i j hi hj hij g h1 h2
 by_cases e : i < j
 ·exact q i j e hj g h1 h2
 ·exact q j i (by omega) hi g h2 h1
/-- loneCounts of four rows that are one's own. -/
theorem loneC_own {w : World} {G base : Nat} {A B : List Ow} {a b c d : Value} {R : List Row} (hG : w.heap[G]? = some (.cells #[a, b, c, d] 37)) (O : Owns w base (rowC A a :: rowC B b :: rowC A c :: rowC B d :: R)) (hA : A.length ≤ 1048576) (hB : B.length ≤ 1048576) (hn : ∀ r ∈ [rowC A a, rowC B b, rowC A c, rowC B d], r.v.ownBlock ≠ some G) : Calls Try.prog 13 #[.slice (some ⟨G, 0, .none⟩) 4 4] w fun e w' => e = .returned (.bool true) ∧ Owns w' base R ∧ Ch (fun k => ∃ i, i < 4 ∧ (v4 a b c d i).ownBlock = some k) w w' := by
 have own : ∀ r ∈ rowC A a :: rowC B b :: rowC A c :: rowC B d :: R, w.ownsRow 0 r.e r.sz r.v r.n r.xs := fun r hr => own_mono (O.own r hr) (Nat.zero_le _)
 refine (loneC_any (v := v4 a b c d) (n := fun t => (xs4 A B t).length) (xs := xs4 A B) hG (fun t ht => ?_) (fun t ht => rfl) (fun t ht => ?_) (four_ap O) (fun t ht => ?_)).mono (fun e w' h => ⟨h.1, h.2.four O, h.2⟩)
 ·have h4 : t = 0 ∨ t = 1 ∨ t = 2 ∨ t = 3 := by omega
  rcases h4 with rfl | rfl | rfl | rfl
  ·exact own (rowC A a) (by simp)
  ·exact own (rowC B b) (by simp)
  ·exact own (rowC A c) (by simp)
  ·exact own (rowC B d) (by simp)
 ·have h4 : t = 0 ∨ t = 1 ∨ t = 2 ∨ t = 3 := by omega
  rcases h4 with rfl | rfl | rfl | rfl <;> assumption
 ·have h4 : t = 0 ∨ t = 1 ∨ t = 2 ∨ t = 3 := by omega
  rcases h4 with rfl | rfl | rfl | rfl
  ·exact hn (rowC A a) (by simp)
  ·exact hn (rowC B b) (by simp)
  ·exact hn (rowC A c) (by simp)
  ·exact hn (rowC B d) (by simp)
theorem loneF_own {w : World} {base : Nat} {F : List Ow} {a b : Value} {R : List Row} (O : Owns w base (rowW F a :: rowW F b :: R)) (hF : F.length ≤ 4096) : Calls Try.prog 12 #[a, b] w fun e w' => e = .returned (.bool true) ∧ Owns w' base R ∧ Ch (fun k => a.ownBlock = some k ∨ b.ownBlock = some k) w w' := by
 have h1 : w.ownsRow 0 85 3 a F.length ((F.map owL).flatten) := own_mono (O.own (rowW F a) (by simp)) (Nat.zero_le _)
 have h2 : w.ownsRow 0 85 3 b F.length ((F.map owL).flatten) := own_mono (O.own (rowW F b) (by simp)) (Nat.zero_le _)
 refine (loneF_any h1 h2 (fun g hg hb => own_ap O (r := rowW F a) hg (mem_blks (r := rowW F b) (by simp) hb)) hF hF).mono (fun e w' h => ⟨h.1, ?_, h.2⟩)
 exact Ch.two (r1 := rowW F a) (r2 := rowW F b) h.2 O
/-- What was handed in is below all that. -/
theorem Ch.bel {P : Nat → Prop} {w0 w V : World} {B : Nat} (h : Ch P w V) (hb : Below B w0 w) (hB : B ≤ w.heap.size) (hp : ∀ k, k < B → ¬ P k) : Below B w0 V := hb.trans ⟨h.os, h.tape, h.output, h.size, fun k hk => h.blk k (by omega) (hp k hk)⟩
end Go.Proofs.Ythopgmmodldljab
