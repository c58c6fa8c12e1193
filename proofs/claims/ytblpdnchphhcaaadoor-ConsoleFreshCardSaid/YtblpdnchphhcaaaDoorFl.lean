import Derived.Test.YtblpdnchphhcaaaDoorFreeB
import Derived.Test.YtblpdnchphhcaaaDoorWk
import Derived.Test.YtblpdnchphhcaaaDoorBo
import Derived.Test.YtblpdnchphhcaaaDoorPa
import Derived.Test.YtblpdnchphhcaaaDoorEIsA
import Derived.Test.YtblpdnchphhcaaaDoorRe
namespace Go.Proofs.YtblpdnchphhcaaaDoor
open Go.RowKit
set_option linter.unusedVariables false
set_option linter.unusedSimpArgs false
/-- A row of one's own that lies between two marks. -/
def Row (w : World) (lo hi : Nat) (v : Value) (xs : List Int) : Prop := w.ownsRow 0 5 1 v xs.length (by8 xs) ∧ xs.length ≤ 1000000 ∧ ∀ g, v.ownBlock = some g → lo ≤ g ∧ g < hi
theorem Row.keep {w v : World} {S : Nat → Prop} {lo hi : Nat} {u : Value} {xs : List Int} (h : Row w lo hi u xs) (t : Chg S w v) (hs : ∀ g, lo ≤ g → g < hi → ¬ S g) : Row v lo hi u xs := ⟨t.own h.1 (fun g hg => hs g (h.2.2 g hg).1 (h.2.2 g hg).2), h.2.1, h.2.2⟩
theorem Row.below {w v : World} {lo hi : Nat} {u : Value} {xs : List Int} (h : Row w lo hi u xs) (t : Below w.heap.size w v) : Row v lo hi u xs := ⟨(Chg.ofBelow (S := fun _ => False) t).own h.1 (fun _ _ h => h), h.2⟩
theorem Row.drewN {w : World} {lo hi : Nat} {u : Value} {xs : List Int} (h : Row w lo hi u xs) (k : Nat) : Row (w.drewN k) lo hi u xs := h
theorem Row.of {w : World} {X : Nat} {u : Value} {xs : List Int} (h : w.ownsRow X 5 1 u xs.length (by8 xs)) (hl : xs.length ≤ 1000000) : Row w X w.heap.size u xs := ⟨own_mono h (Nat.zero_le _), hl, fun g hg => ⟨own_block h g hg, own_ltC h g hg⟩⟩
theorem Row.mono {w : World} {lo hi lo' hi' : Nat} {u : Value} {xs : List Int} (h : Row w lo hi u xs) (h1 : lo' ≤ lo) (h2 : hi ≤ hi') : Row w lo' hi' u xs := ⟨h.1, h.2.1, fun g hg => ⟨Nat.le_trans h1 (h.2.2 g hg).1, Nat.lt_of_lt_of_le (h.2.2 g hg).2 h2⟩⟩
/-- Rows, one behind the other. -/
def Ch (w : World) : Nat → List (Value × List Int) → Nat → Prop
  | lo, [], hi => lo ≤ hi
  | lo, r :: t, hi => ∃ mid, Row w lo mid r.1 r.2 ∧ lo ≤ mid ∧ Ch w mid t hi
theorem Ch.le {w : World} : ∀ {L : List (Value × List Int)} {lo hi : Nat}, Ch w lo L hi → lo ≤ hi
  | [], _, _, h => h
  | _ :: _, _, _, ⟨_, _, h1, h2⟩ => Nat.le_trans h1 (Ch.le h2)
theorem Ch.get {w : World} : ∀ {L : List (Value × List Int)} {lo hi i : Nat} {r : Value × List Int}, Ch w lo L hi → L[i]? = some r → Row w lo hi r.1 r.2
  | [], _, _, i, _, _, hi => by simp at hi
  | s :: t, lo, hi, 0, r, ⟨mid, h1, h2, h3⟩, hr => by
    simp only [List.getElem?_cons_zero, Option.some.injEq] at hr
    subst hr
    exact h1.mono (Nat.le_refl _) h3.le
  | s :: t, lo, hi, i + 1, r, ⟨mid, h1, h2, h3⟩, hr => (Ch.get h3 (by simpa using hr)).mono h2 (Nat.le_refl _)
theorem Ch.apart {w : World} : ∀ {L : List (Value × List Int)} {lo hi i j : Nat} {r s : Value × List Int}, Ch w lo L hi → i < j → L[i]? = some r → L[j]? = some s → ∀ g, r.1.ownBlock = some g → s.1.ownBlock ≠ some g
  | [], _, _, i, _, _, _, _, _, hi, _ => by simp at hi
  | a :: t, lo, hi, 0, j + 1, r, s, ⟨mid, h1, h2, h3⟩, hij, hr, hs => by
    simp only [List.getElem?_cons_zero, Option.some.injEq] at hr
    subst hr
    intro g hg e
    have k1 := h1.2.2 g hg
    have k2 := (Ch.get h3 (by simpa using hs)).2.2 g e
    omega
  | a :: t, lo, hi, i + 1, j + 1, r, s, ⟨mid, h1, h2, h3⟩, hij, hr, hs => Ch.apart (i := i) (j := j) h3 (by omega) (by simpa using hr) (by simpa using hs)
  | a :: t, lo, hi, i, 0, r, s, _, hij, _, _ => by omega
theorem free_ch {w : World} {L : List (Value × List Int)} {lo hi bl cl : Nat} (h : Ch w lo L hi) (hl : L.length ≤ 100000) (hbl : bl < w.heap.size) (hnb : ∀ r ∈ L, r.1.ownBlock ≠ some bl) (hc : ∀ i r, L[i]? = some r → w.cell? ⟨bl, i, .none⟩ = some r.1) :
    Calls Tryd.prog 27 #[.slice (some ⟨bl, 0, .none⟩) L.length cl] w fun e w' => e = .returned (.bool true) ∧ Chg (fun k => ∃ r ∈ L, r.1.ownBlock = some k) w w' := by
  have gt : ∀ i, i < L.length → L[i]? = some (L.getD i (.bool false, [])) := fun i hi => by
    rw [List.getD_eq_getElem?_getD, List.getElem?_eq_getElem hi]
    rfl
  have c := freeB_any L.length bl cl (fun i => (L.getD i (.bool false, [])).2.length) (fun i => (L.getD i (.bool false, [])).1) (fun i => by8 (L.getD i (.bool false, [])).2) w (by omega) (fun i hi => (h.get (gt i hi)).2.1)
    ⟨fun i hi => (h.get (gt i hi)).1, rfl, rfl, rfl, Nat.le_refl _, fun _ _ _ => rfl⟩
    (fun i j hi hj hij g hg => by
      rcases Nat.lt_or_gt_of_ne hij with h1 | h1
      · exact h.apart h1 (gt i hi) (gt j hj) g hg
      · intro e
        exact h.apart h1 (gt j hj) (gt i hi) g e hg)
    hbl (fun i hi => hnb _ (List.mem_of_getElem? (gt i hi))) (fun i hi => hc i _ (gt i hi))
  refine c.mono ?_
  rintro e w' ⟨rfl, xs, hF⟩
  refine ⟨rfl, hF.os, hF.tape, hF.output, hF.size, fun k hk hn => hF.block k hk (fun i hi e => hn ⟨_, List.mem_of_getElem? (gt i hi), e.symm⟩)⟩
theorem peek_all {w : World} {b : Nat} {rs ls : List Int} (h : Con w b rs ls) (n : Int) :
    Calls Tryd.prog 13 #[.pointer (some ⟨b, 0, .none⟩), .int .i64 n] w (Ty w b rs ls (rs.take (nxT rs n)) (decide (0 < rs.length))) := by
  by_cases h0 : 0 < rs.length
  · rw [decide_eq_true h0]
    exact peek_any h h0 n
  · obtain rfl : rs = [] := List.eq_nil_of_length_eq_zero (by omega)
    refine (peek_no h rfl n).mono ?_
    rintro e w' ⟨rfl, rfl⟩
    refine ⟨none, 0, by simp, ?_, h, Trn.refl _ _⟩
    simp only [List.take_nil]
    exact World.ownsRow_nil _ _ _ _
theorem lent_row {w : World} {base g c : Nat} {xs : List Int} (h : Lent w base g c xs) (hl : xs.length ≤ 1000000) : Row w base w.heap.size (.slice (some ⟨g, 0, .none⟩) xs.length c) xs := by
  have := own_short h (k := xs.length) (by omega)
  rw [List.take_left] at this
  exact Row.of this hl
theorem lent_byt {w : World} {base g c : Nat} {xs : List Int} (h : Lent w base g c xs) : Byt w (some ⟨g, 0, .none⟩) xs.length c xs := by
  have := own_short h (k := xs.length) (by omega)
  rw [List.take_left] at this
  exact byt_own this
theorem lent_below {w v : World} {base g c : Nat} {xs : List Int} (h : Lent w base g c xs) (t : Below w.heap.size w v) : Lent v base g c xs := (Chg.ofBelow (S := fun _ => False) t).own h (fun _ _ h => h)
theorem lent_drewN {w : World} {base g c : Nat} {xs : List Int} (h : Lent w base g c xs) (k : Nat) : Lent (w.drewN k) base g c xs := h
theorem Ch.snoc {w : World} : ∀ {L : List (Value × List Int)} {lo mid hi : Nat} {r : Value × List Int}, Ch w lo L mid → Row w mid hi r.1 r.2 → mid ≤ hi → Ch w lo (L ++ [r]) hi
  | [], lo, mid, hi, r, h, hr, hm => ⟨hi, hr.mono h (Nat.le_refl _), Nat.le_trans h hm, Nat.le_refl _⟩
  | _ :: _, _, _, _, _, ⟨m, h1, h2, h3⟩, hr, hm => ⟨m, h1, h2, Ch.snoc h3 hr hm⟩
theorem Ch.keep {w v : World} {S : Nat → Prop} (t : Chg S w v) : ∀ {L : List (Value × List Int)} {lo hi : Nat}, Ch w lo L hi → (∀ r ∈ L, ∀ g, r.1.ownBlock = some g → ¬ S g) → Ch v lo L hi
  | [], _, _, h, _ => h
  | r :: _, _, _, ⟨m, h1, h2, h3⟩, hs => ⟨m, ⟨t.own h1.1 (hs r (List.mem_cons_self ..)), h1.2⟩, h2, Ch.keep t h3 (fun r hr => hs r (List.mem_cons_of_mem _ hr))⟩
theorem Ch.up {w : World} : ∀ {L : List (Value × List Int)} {lo hi hi' : Nat}, Ch w lo L hi → hi ≤ hi' → Ch w lo L hi'
  | [], _, _, _, h, h' => Nat.le_trans h h'
  | _ :: _, _, _, _, ⟨m, h1, h2, h3⟩, h' => ⟨m, h1, h2, Ch.up h3 h'⟩
theorem Doc.cut {w : World} {d : Nat} {D : Nat → Prop} {rs ls : List Int} (h : Doc w d D rs ls) : Doc w d (fun k => D k ∧ k < w.heap.size) rs ls := by
  obtain ⟨vD, vL, h1, h2, h3, h4⟩ := h
  exact ⟨vD, vL, h1, ⟨h2, h1.lt⟩, fun k hk => ⟨h3 k hk, own_ltC h1.rD k hk⟩, fun k hk => ⟨h4 k hk, own_ltC h1.rL k hk⟩⟩
/-- The console, the document's, and rows that were handed out. -/
structure Fq (w W : World) (b dd : Nat) (D : Nat → Prop) (rs ls : List Int) (s0 s2 s5 : Nat) (L : List (Value × List Int)) (hi : Nat) : Prop where
  bel : Below w.heap.size w W
  con : Con W b rs ls
  doc : Doc W dd D rs ls
  ch : Ch W s0 L hi
  hle : hi ≤ W.heap.size
  s5h : s5 ≤ hi
  gap : ∀ r ∈ L, ∀ g, r.1.ownBlock = some g → g < s2 ∨ s5 ≤ g
  bs : s2 ≤ b ∧ b < s5
  Ds : ∀ k, D k → s2 ≤ k ∧ k < s5 ∧ k ≠ b
  ws : w.heap.size ≤ s0
  s02 : s0 ≤ s2
section
variable {w W V : World} {b dd : Nat} {D : Nat → Prop} {rs ls : List Int} {s0 s2 s5 : Nat} {L : List (Value × List Int)} {hi : Nat}
theorem Fq.below (h : Fq w W b dd D rs ls s0 s2 s5 L hi) (t : Below W.heap.size W V) : Fq w V b dd D rs ls s0 s2 s5 L hi :=
  ⟨h.bel.trans (t.mono h.bel.size), h.con.below t, h.doc.below t, h.ch.keep (Chg.ofBelow (S := fun _ => False) t) (fun _ _ _ _ h => h), Nat.le_trans h.hle t.size, h.s5h, h.gap, h.bs, h.Ds, h.ws, h.s02⟩
theorem Fq.drewN (h : Fq w W b dd D rs ls s0 s2 s5 L hi) (k : Nat) : Fq w (W.drewN k) b dd D rs ls s0 s2 s5 L hi := h.below ⟨rfl, rfl, rfl, Nat.le_refl _, fun _ _ => rfl⟩
theorem Fq.add (h : Fq w W b dd D rs ls s0 s2 s5 L hi) {v : Value} {xs : List Int} {hi' : Nat} (hr : Row W hi hi' v xs) (h1 : hi ≤ hi') (h2 : hi' ≤ W.heap.size) : Fq w W b dd D rs ls s0 s2 s5 (L ++ [(v, xs)]) hi' :=
  ⟨h.bel, h.con, h.doc, h.ch.snoc hr h1, h2, Nat.le_trans h.s5h h1, fun r hr' g hg => by
    rcases List.mem_append.1 hr' with h3 | h3
    · exact h.gap r h3 g hg
    · rw [List.mem_singleton] at h3
      subst h3
      exact .inr (Nat.le_trans h.s5h (hr.2.2 g hg).1), h.bs, h.Ds, h.ws, h.s02⟩
theorem Fq.up (h : Fq w W b dd D rs ls s0 s2 s5 L hi) {hi' : Nat} (h1 : hi ≤ hi') (h2 : hi' ≤ W.heap.size) : Fq w W b dd D rs ls s0 s2 s5 L hi' :=
  ⟨h.bel, h.con, h.doc, h.ch.up h1, h2, Nat.le_trans h.s5h h1, h.gap, h.bs, h.Ds, h.ws, h.s02⟩
theorem Fq.trn (h : Fq w W b dd D rs ls s0 s2 s5 L hi) {rs' ls' : List Int} (t : Trn b W V) (hc : Con V b rs' ls') : Below w.heap.size w V ∧ Doc V dd D rs ls ∧ Ch V s0 L hi :=
  ⟨h.bel.trans (t.toBelow (by have := h.ws; have := h.s02; have := h.bs; omega) h.bel.size), h.doc.keep (Chg.ofTrn t) (fun k _ hk e => (h.Ds k hk).2.2 e), h.ch.keep (Chg.ofTrn t) (fun r hr g hg e => by
    have := h.gap r hr g hg
    have := h.bs
    have e : g = b := e
    omega)⟩
theorem Fq.trn1 (h : Fq w W b dd D rs ls s0 s2 s5 L hi) (t : Trn b W V) (hc : Con V b rs ls) : Fq w V b dd D rs ls s0 s2 s5 L hi :=
  ⟨(h.trn t hc).1, hc, (h.trn t hc).2.1, (h.trn t hc).2.2, Nat.le_trans h.hle t.size, h.s5h, h.gap, h.bs, h.Ds, h.ws, h.s02⟩
theorem Fq.byt (h : Fq w W b dd D rs ls s0 s2 s5 L hi) (i : Nat) {p : Option Addr} {n c : Nat} {xs : List Int} (hr : L[i]? = some (.slice p n c, xs)) (hn : xs.length = n) : Byt W p n c xs := by
  have := (h.ch.get hr).1
  subst hn
  exact byt_own this
/-- Behind Free. -/
theorem Fq.free (h : Fq w W b dd D rs ls s0 s2 s5 L hi) (t : Chg (fun k => ∃ r ∈ L, r.1.ownBlock = some k) W V) : Below w.heap.size w V ∧ Con V b rs ls ∧ Doc V dd D rs ls := by
  have hb := h.bs
  have hw := h.ws
  have h02 := h.s02
  refine ⟨h.bel.trans (t.toTrn h.bel.size (fun k hk e => ?_)), h.con.keep t (fun e => ?_), h.doc.keep t (fun k _ hk e => ?_)⟩
  · obtain ⟨r, hr, hg⟩ := e
    obtain ⟨i, hi, hri⟩ := List.getElem_of_mem hr
    have := ((h.ch.get (i := i) (by rw [List.getElem?_eq_getElem hi, hri])).2.2 k hg).1
    omega
  · obtain ⟨r, hr, hg⟩ := e
    have := h.gap r hr b hg
    omega
  · obtain ⟨r, hr, hg⟩ := e
    have := h.gap r hr k hg
    have := h.Ds k hk
    omega
end
end Go.Proofs.YtblpdnchphhcaaaDoor
