import Derived.Test.YthopgmmodldljaaEu
import Derived.Test.YthopgmmodldljaaEv
import Derived.Test.YthopgmmodldljaaGc
namespace Go.Proofs.Ythopgmmodldljaa
open Go Go.RowKit
set_option linter.unusedVariables false
set_option linter.unusedSimpArgs false
/-! Times are places; with nothing wrong each frame is in one class. -/
def sumI : List Int → Int
  | [] => 0
  | x :: l => x + sumI l
theorem sumI_app (l m : List Int) : sumI (l ++ m) = sumI l + sumI m := by
  induction l with
  | nil => simp [sumI]
  | cons x l ih => simp only [List.cons_append, sumI, ih]; omega
theorem sumI_ext {α : Type} {f g : α → Int} : ∀ {l : List α}, (∀ x ∈ l, f x = g x) → sumI (l.map f) = sumI (l.map g)
  | [], _ => rfl
  | x :: l, h => by
    simp only [List.map_cons, sumI]
    rw [h x (by simp), sumI_ext (fun y hy => h y (by simp [hy]))]
theorem sumI_add {α : Type} (f g : α → Int) : ∀ l : List α, sumI (l.map fun x => f x + g x) = sumI (l.map f) + sumI (l.map g)
  | [] => rfl
  | x :: l => by
    simp only [List.map_cons, sumI]
    rw [sumI_add f g l]
    omega
theorem sumI_zero {α : Type} : ∀ l : List α, sumI (l.map fun _ => (0 : Int)) = 0
  | [] => rfl
  | x :: l => by
    simp only [List.map_cons, sumI]
    rw [sumI_zero l]
    omega
def b2i (b : Bool) : Int := if b then 1 else 0
def cn (p : Nm → Bool) (A : List Nm) : Int := sumI (A.map fun x => b2i (p x))
theorem cn_cons (p : Nm → Bool) (x : Nm) (A : List Nm) : cn p (x :: A) = b2i (p x) + cn p A := rfl
theorem cn_app (p : Nm → Bool) (A B : List Nm) : cn p (A ++ B) = cn p A + cn p B := by unfold cn; rw [List.map_append, sumI_app]
theorem cn_nonneg (p : Nm → Bool) : ∀ A : List Nm, 0 ≤ cn p A
  | [] => by simp [cn, sumI]
  | x :: A => by
    rw [cn_cons]
    have := cn_nonneg p A
    unfold b2i
    split <;> omega
theorem cn_ext {p q : Nm → Bool} {A : List Nm} (h : ∀ x ∈ A, p x = q x) : cn p A = cn q A := sumI_ext (fun x hx => by rw [h x hx])
theorem cn_filter (p : Nm → Bool) : ∀ A : List Nm, ((A.filter p).length : Int) = cn p A
  | [] => rfl
  | x :: A => by
    rw [cn_cons, ← cn_filter p A, List.filter_cons]
    unfold b2i
    split
    · rw [List.length_cons]; omega
    · omega
theorem cn_true (A : List Nm) : cn (fun _ => true) A = A.length := by
  have := cn_filter (fun _ => true) A
  rw [← this, List.filter_eq_self.2 (fun _ _ => rfl)]
theorem cn_pos {p : Nm → Bool} {A : List Nm} {x : Nm} (hx : x ∈ A) (hp : p x = true) : 1 ≤ cn p A := by
  rw [← cn_filter]
  have := List.length_pos_of_mem (List.mem_filter.2 ⟨hx, hp⟩)
  omega
/-- The places of one address sum up over the addresses. -/
theorem one_frame (N : Nat) (x : Nm) (p : Nm → Bool) : sumI ((List.range N).map fun k => b2i ((x.1 == frA k) && p x)) = b2i (decide (isF N x.1) && p x) := by
  induction N with
  | zero =>
    have : ¬ isF ((0 : Nat) : Int) x.1 := by unfold isF; omega
    rw [decide_eq_false this]
    rfl
  | succ N ih =>
    rw [List.range_succ, List.map_append, sumI_app, ih]
    simp only [List.map_cons, List.map_nil, sumI]
    by_cases e : x.1 = frA N
    · have h1 : isF ((N + 1 : Nat) : Int) x.1 := by rw [e]; exact isF_frA (by omega)
      have h2 : ¬ isF (N : Int) x.1 := by rw [e]; unfold isF frA; omega
      rw [decide_eq_true h1, decide_eq_false h2]
      simp [e, b2i]
    · have h3 : isF ((N + 1 : Nat) : Int) x.1 ↔ isF (N : Int) x.1 := by
        unfold isF frA at *
        omega
      have e' : (x.1 == frA N) = false := by simpa using e
      rw [e', show decide (isF ((N + 1 : Nat) : Int) x.1) = decide (isF (N : Int) x.1) from decide_eq_decide.2 h3]
      simp [b2i]
theorem sum_swap (N : Nat) (p : Nm → Bool) : ∀ A : List Nm, sumI ((List.range N).map fun k => cn (fun x => (x.1 == frA k) && p x) A) = cn (fun x => decide (isF N x.1) && p x) A
  | [] => by
    show sumI ((List.range N).map fun _ => (0 : Int)) = 0
    exact sumI_zero _
  | x :: A => by
    have h := sum_swap N p A
    rw [cn_cons, ← h, ← one_frame N x p, ← sumI_add]
    rfl
theorem ow_times (A : List Nm) (a : Int) : ((owF A a).getD (0, 0, 0)).2.2 = cn (fun x => x.1 == a) A := by
  unfold owF
  cases hf : A.find? (fun x => x.1 == a) with
  | none =>
    have h0 : A.filter (fun y => y.1 == a) = [] := by
      rw [List.filter_eq_nil_iff]
      exact fun y hy => by simpa using List.find?_eq_none.1 hf y hy
    rw [← cn_filter, h0]
    rfl
  | some x => exact cn_filter _ _
theorem ow_class {A : List Nm} {a : Int} (h1 : cn (fun x => x.1 == a) A = 1) (c : Int) : b2i (((owF A a).getD (0, 0, 0)).1 == c) = cn (fun x => (x.1 == a) && (x.2.1 == c)) A := by
  unfold owF
  cases hf : A.find? (fun x => x.1 == a) with
  | none =>
    have h0 : A.filter (fun y => y.1 == a) = [] := by
      rw [List.filter_eq_nil_iff]
      exact fun y hy => by simpa using List.find?_eq_none.1 hf y hy
    rw [← cn_filter, h0] at h1
    cases h1
  | some x =>
    have hx : (x.1 == a) = true := by have := List.find?_some hf; simpa using this
    have hm := List.mem_of_find?_eq_some hf
    show b2i (x.2.1 == c) = _
    have hl : A.filter (fun y => y.1 == a) = [x] := by
      have hlen : (A.filter (fun y => y.1 == a)).length = 1 := by have := cn_filter (fun y => y.1 == a) A; omega
      obtain ⟨y, hy⟩ := List.length_eq_one_iff.1 hlen
      have : x ∈ A.filter (fun y => y.1 == a) := List.mem_filter.2 ⟨hm, hx⟩
      rw [hy] at this ⊢
      rw [List.mem_singleton.1 this]
    have e : (fun y : Nm => (y.1 == a) && (y.2.1 == c)) = fun y => (y.2.1 == c) && (y.1 == a) := funext fun y => Bool.and_comm _ _
    rw [← cn_filter, e, ← List.filter_filter, hl]
    unfold b2i
    cases h : (x.2.1 == c) <;> simp [h]
/-- The times of all frames. -/
def smT (F : List Ow) : Int := sumI (F.map fun o => o.2.2)
def ccT (F : List Ow) (j : Int) : Int := sumI (F.map fun o => b2i (o.1 == j))
theorem smT_fr (N : Nat) (A : List Nm) : smT (frL N A) = cn (fun x => decide (isF N x.1)) A := by
  unfold smT frL
  rw [List.map_map, show (fun x => decide (isF (N : Int) x.1)) = (fun x : Nm => decide (isF (N : Int) x.1) && true) from funext fun x => (Bool.and_true _).symm, ← sum_swap N (fun _ => true) A]
  refine sumI_ext (fun k _ => ?_)
  rw [Function.comp, ow_times]
  exact cn_ext (fun x _ => (Bool.and_true _).symm)
theorem ccT_fr {N : Nat} {A : List Nm} (h : ∀ o ∈ frL N A, o.2.2 = 1) (c : Int) : ccT (frL N A) c = cn (fun x => decide (isF N x.1) && (x.2.1 == c)) A := by
  unfold ccT
  rw [show frL N A = (List.range N).map fun k => (owF A (frA k)).getD (0, 0, 0) from rfl, List.map_map, ← sum_swap N (fun x => x.2.1 == c) A]
  refine sumI_ext (fun k hk => ?_)
  rw [Function.comp]
  refine ow_class ?_ c
  rw [← ow_times]
  exact h _ (List.mem_map.2 ⟨k, hk, rfl⟩)
theorem smT_len {F : List Ow} (h : ∀ o ∈ F, o.2.2 = 1) : smT F = F.length := by
  unfold smT
  induction F with
  | nil => rfl
  | cons o F ih =>
    simp only [List.map_cons, sumI, List.length_cons]
    rw [ih (fun o ho => h o (by simp [ho])), h o (by simp)]
    omega
theorem smT_take (F : List Ow) (i : Nat) (o : Ow) (h : F[i]? = some o) : smT (F.take (i + 1)) = smT (F.take i) + o.2.2 := by
  unfold smT
  rw [List.take_add_one, h, Option.toList_some, List.map_append, sumI_app]
  simp [sumI]
theorem ccT_take (F : List Ow) (i : Nat) (o : Ow) (h : F[i]? = some o) (j : Int) : ccT (F.take (i + 1)) j = ccT (F.take i) j + b2i (o.1 == j) := by
  unfold ccT
  rw [List.take_add_one, h, Option.toList_some, List.map_append, sumI_app]
  simp [sumI]
theorem ccT_le (F : List Ow) (j : Int) : 0 ≤ ccT F j ∧ ccT F j ≤ F.length := by
  unfold ccT
  induction F with
  | nil => simp [sumI]
  | cons o F ih =>
    simp only [List.map_cons, sumI, List.length_cons]
    unfold b2i at *
    split <;> omega
theorem ow_class_bd {A : List Nm} (hA : ∀ x ∈ A, 1 ≤ x.2.1 ∧ x.2.1 ≤ 6) (a : Int) : 0 ≤ ((owF A a).getD (0, 0, 0)).1 ∧ ((owF A a).getD (0, 0, 0)).1 ≤ 6 := by
  unfold owF
  cases hf : A.find? (fun x => x.1 == a) with
  | none => simp
  | some x =>
    have := hA x (List.mem_of_find?_eq_some hf)
    show 0 ≤ x.2.1 ∧ x.2.1 ≤ 6
    omega
theorem ow_times_bd (A : List Nm) (a : Int) : 0 ≤ ((owF A a).getD (0, 0, 0)).2.2 ∧ ((owF A a).getD (0, 0, 0)).2.2 ≤ A.length := by
  rw [ow_times]
  refine ⟨cn_nonneg _ _, ?_⟩
  rw [← cn_filter]
  have := List.length_filter_le (fun x : Nm => x.1 == a) A
  omega
theorem allL_class (L : Lk) (fr : List Int) : ∀ x ∈ allL L fr, 1 ≤ x.2.1 ∧ x.2.1 ≤ 6 := by
  intro x hx
  simp only [allL, List.mem_append, List.mem_cons, List.not_mem_nil, or_false, List.mem_flatMap] at hx
  rcases hx with ((rfl | hx) | ⟨p, hp, hx⟩) | ⟨p, hp, hx⟩
  · simp
  · simp only [nmF, List.mem_map] at hx
    obtain ⟨a, ha, rfl⟩ := hx
    simp
  · simp only [nmP, nmN, nmG, List.mem_append, List.mem_map, List.mem_cons, List.not_mem_nil, or_false] at hx
    rcases hx with (⟨a, ha, rfl⟩ | ⟨a, ha, rfl⟩) | rfl <;> simp
  · simp only [nmI, nmB, List.mem_map] at hx
    obtain ⟨a, ha, rfl⟩ := hx
    simp
/-- Worth of all processes, blocks of all inodes. -/
def worthS (l : List Pc) : Int := sumI (l.map fun p => 1 + (p.pages.length : Int) + p.nodes.length)
def blockS (l : List In) : Int := sumI (l.map fun x => (x.bl.length : Int))
def clsC (c : Int) : Nm → Bool := fun x => x.2.1 == c
theorem cn_map_const {α : Type} (f : α → Nm) (c : Int) (b : Bool) (h : ∀ a, ((f a).2.1 == c) = b) : ∀ l : List α, cn (clsC c) (l.map f) = if b then (l.length : Int) else 0
  | [] => by simp [cn, sumI]
  | a :: l => by
    rw [List.map_cons, cn_cons, cn_map_const f c b h l]
    have : clsC c (f a) = b := h a
    rw [this]
    cases b
    · simp [b2i]
    · simp only [b2i, if_true, List.length_cons]; omega
theorem cn_flat {α : Type} (p : Nm → Bool) (f : α → List Nm) : ∀ l : List α, cn p (l.flatMap f) = sumI (l.map fun a => cn p (f a))
  | [] => rfl
  | a :: l => by rw [List.flatMap_cons, cn_app, cn_flat p f l]; rfl
theorem cn_nmP (c : Int) (p : Pc) : cn (clsC c) (nmP p) = (if c = 3 then (p.nodes.length : Int) else 0) + (if c = 4 then (p.pages.length : Int) else 0) + (if c = 5 then 1 else 0) := by
  unfold nmP
  rw [cn_app, cn_app]
  have h1 : cn (clsC c) (nmN (p.c 0) p.nodes) = if c = 3 then (p.nodes.length : Int) else 0 := by
    unfold nmN
    rw [cn_map_const _ c ((3 : Int) == c) (fun a => rfl)]
    by_cases h : c = 3
    · subst h; rfl
    · rw [if_neg h]; have : ((3 : Int) == c) = false := by simp; omega
      rw [this]; rfl
  have h2 : cn (clsC c) (nmG (p.c 0) p.pages) = if c = 4 then (p.pages.length : Int) else 0 := by
    unfold nmG
    rw [cn_map_const _ c ((4 : Int) == c) (fun a => rfl)]
    by_cases h : c = 4
    · subst h; rfl
    · rw [if_neg h]; have : ((4 : Int) == c) = false := by simp; omega
      rw [this]; rfl
  have h3 : cn (clsC c) [(p.c 42, 5, p.c 0)] = if c = 5 then 1 else 0 := by
    show b2i ((5 : Int) == c) + 0 = _
    unfold b2i
    by_cases h : c = 5
    · subst h; rfl
    · have : ((5 : Int) == c) = false := by simp; omega
      rw [this, if_neg h]; rfl
  rw [h1, h2, h3]
theorem cn_nmI (c : Int) (x : In) : cn (clsC c) (nmI x) = if c = 6 then (x.bl.length : Int) else 0 := by
  unfold nmI nmB
  rw [cn_map_const _ c ((6 : Int) == c) (fun a => rfl)]
  by_cases h : c = 6
  · subst h; rfl
  · rw [if_neg h]; have : ((6 : Int) == c) = false := by simp; omega
    rw [this]; rfl
theorem cn_allL (c : Int) (L : Lk) (fr : List Int) : cn (clsC c) (allL L fr) = (if c = 1 then 1 else 0) + (if c = 2 then (fr.length : Int) else 0) + sumI (L.procs.map fun p => (if c = 3 then (p.nodes.length : Int) else 0) + (if c = 4 then (p.pages.length : Int) else 0) + (if c = 5 then 1 else 0)) + (if c = 6 then blockS L.inos else 0) := by
  unfold allL
  rw [cn_app, cn_app, cn_app, cn_flat, cn_flat]
  have h1 : cn (clsC c) [(L.tramp, 1, 0)] = if c = 1 then 1 else 0 := by
    show b2i ((1 : Int) == c) + 0 = _
    unfold b2i
    by_cases h : c = 1
    · subst h; rfl
    · have : ((1 : Int) == c) = false := by simp; omega
      rw [this, if_neg h]; rfl
  have h2 : cn (clsC c) (nmF fr) = if c = 2 then (fr.length : Int) else 0 := by
    unfold nmF
    rw [cn_map_const _ c ((2 : Int) == c) (fun a => rfl)]
    by_cases h : c = 2
    · subst h; rfl
    · rw [if_neg h]; have : ((2 : Int) == c) = false := by simp; omega
      rw [this]; rfl
  have h4 : sumI (L.inos.map fun x => cn (clsC c) (nmI x)) = if c = 6 then blockS L.inos else 0 := by
    rw [sumI_ext (g := fun x : In => if c = 6 then (x.bl.length : Int) else 0) (fun x _ => cn_nmI c x)]
    by_cases h : c = 6
    · simp only [if_pos h]; rfl
    · simp only [if_neg h]; exact sumI_zero _
  rw [h1, h2, h4, sumI_ext (fun p _ => cn_nmP c p)]
/-! What it means that nothing is wrong. -/
theorem firstB_cases (l : List (Int × Int)) : (firstB l = (0, 0) ∧ ∀ r ∈ l, r = (0, 0)) ∨ (firstB l ∈ l ∧ firstB l ≠ (0, 0)) := by
  unfold firstB
  cases h : l.find? (fun r => r != (0, 0)) with
  | none => exact .inl ⟨rfl, fun r hr => by have := List.find?_eq_none.1 h r hr; simpa using this⟩
  | some r => exact .inr ⟨List.mem_of_find?_eq_some h, by have := List.find?_some h; simpa using this⟩
theorem unW_kind (b : Bool) (k n : Int) (h : 2 ≤ k ∧ k ≤ 11) : unW b k n = (0, 0) ∨ (2 ≤ (unW b k n).1 ∧ (unW b k n).1 ≤ 11) := by
  cases b
  · exact .inr h
  · exact .inl rfl
theorem wfW_kind (t : Int) (i : Nat) : wfW t i = (0, 0) ∨ (2 ≤ (wfW t i).1 ∧ (wfW t i).1 ≤ 11) := by
  unfold wfW
  split
  · exact .inr (by simp)
  · split
    · exact .inl rfl
    · exact .inr (by simp)
theorem wr_kind {N : Nat} {L : Lk} {fr : List Int} {pf nf : Th → Option Int} : ∀ r ∈ (wrAll N L fr pf nf).flatten, r = (0, 0) ∨ (2 ≤ r.1 ∧ r.1 ≤ 11) := by
  intro r hr
  obtain ⟨l, hl, hr⟩ := List.mem_flatten.1 hr
  simp only [wrAll, List.mem_cons, List.not_mem_nil, or_false] at hl
  rcases hl with rfl | rfl | rfl | rfl | rfl | rfl | rfl | rfl | rfl
  · obtain ⟨x, _, rfl⟩ := List.mem_map.1 hr; exact unW_kind _ _ _ (by omega)
  · obtain ⟨x, _, rfl⟩ := List.mem_map.1 hr; exact wfW_kind _ _
  · rw [List.mem_singleton] at hr; subst hr; exact unW_kind _ _ _ (by omega)
  · obtain ⟨x, _, rfl⟩ := List.mem_map.1 hr; exact unW_kind _ _ _ (by omega)
  · obtain ⟨x, _, rfl⟩ := List.mem_map.1 hr; exact unW_kind _ _ _ (by omega)
  · obtain ⟨x, _, rfl⟩ := List.mem_map.1 hr; exact unW_kind _ _ _ (by omega)
  · obtain ⟨x, _, rfl⟩ := List.mem_map.1 hr; exact unW_kind _ _ _ (by omega)
  · obtain ⟨x, _, rfl⟩ := List.mem_map.1 hr; exact unW_kind _ _ _ (by omega)
  · obtain ⟨x, _, rfl⟩ := List.mem_map.1 hr; exact unW_kind _ _ _ (by omega)
structure Fine (N : Nat) (L : Lk) (fr : List Int) : Prop where
  all : ∀ x ∈ allL L fr, isF N x.1
  one : ∀ o ∈ frL N (allL L fr), o.2.2 = 1
  free : L.free = (fr.length : Int)
theorem tk_cases (N : Nat) (L : Lk) (fr : List Int) : ((tkW N L fr).1 = 0 ∧ tkW N L fr = (0, 0) ∧ Fine N L fr) ∨ (2 ≤ (tkW N L fr).1 ∧ (tkW N L fr).1 ≤ 11) := by
  rcases firstB_cases (wrAll N L fr (pfA L) (nfA L)).flatten with ⟨h1, h2⟩ | ⟨h1, h2⟩
  · refine .inl ⟨by unfold tkW; rw [h1], h1, ?_⟩
    have hm : ∀ l ∈ wrAll N L fr (pfA L) (nfA L), ∀ r ∈ l, r = (0, 0) := fun l hl r hr => h2 r (List.mem_flatten.2 ⟨l, hl, hr⟩)
    refine ⟨fun x hx => ?_, fun o ho => ?_, ?_⟩
    · obtain ⟨i, hi⟩ := List.getElem?_of_mem hx
      have := hm ((allL L fr).zipIdx.map fun x => unW (decide (isF N x.1.1)) 2 x.2) (by simp [wrAll]) (unW (decide (isF N x.1)) 2 i) (List.mem_map.2 ⟨(x, i), by rw [List.mem_zipIdx_iff_getElem?]; exact hi, rfl⟩)
      by_cases hf : isF N x.1
      · exact hf
      · rw [decide_eq_false hf] at this
        injection this with this
        cases this
    · obtain ⟨i, hi⟩ := List.getElem?_of_mem ho
      have := hm ((frL N (allL L fr)).zipIdx.map fun x => wfW x.1.2.2 x.2) (by simp [wrAll]) (wfW o.2.2 i) (List.mem_map.2 ⟨(o, i), by rw [List.mem_zipIdx_iff_getElem?]; exact hi, rfl⟩)
      unfold wfW at this
      split at this
      · injection this with this; cases this
      · split at this
        · assumption
        · injection this with this; cases this
    · have := hm [unW (L.free == (fr.length : Int)) 5 0] (by simp [wrAll]) _ (List.mem_singleton.2 rfl)
      cases hb : (L.free == (fr.length : Int))
      · rw [hb] at this
        injection this with this
        cases this
      · simpa using hb
  · rcases wr_kind _ h1 with h | h
    · exact absurd h h2
    · exact .inr h
theorem sumI_map_add (l : List Pc) : sumI (l.map fun p => (p.nodes.length : Int)) + sumI (l.map fun p => (p.pages.length : Int)) + sumI (l.map fun _ => (1 : Int)) = worthS l := by
  unfold worthS
  rw [← sumI_add, ← sumI_add]
  exact sumI_ext (fun p _ => by omega)
theorem allL_size (L : Lk) (fr : List Int) : ((allL L fr).length : Int) = 1 + fr.length + worthS L.procs + blockS L.inos := by
  rw [← cn_true]
  unfold allL
  rw [cn_app, cn_app, cn_app, cn_flat, cn_flat]
  have e : ∀ A : List Nm, cn (fun _ => true) A = A.length := cn_true
  have h3 : sumI (L.procs.map fun a => cn (fun _ => true) (nmP a)) = worthS L.procs := sumI_ext (fun p _ => by
    rw [e]
    simp only [nmP, nmN, nmG, List.length_append, List.length_map, List.length_cons, List.length_nil]
    omega)
  have h4 : sumI (L.inos.map fun a => cn (fun _ => true) (nmI a)) = blockS L.inos := sumI_ext (fun x _ => by
    rw [e]
    simp only [nmI, nmB, List.length_map])
  rw [h3, h4, e, e]
  simp only [List.length_cons, List.length_nil, nmF, List.length_map]
  omega
theorem Fine.cc {N : Nat} {L : Lk} {fr : List Int} (h : Fine N L fr) (c : Int) : ccT (frL N (allL L fr)) c = cn (clsC c) (allL L fr) := by
  rw [ccT_fr h.one c]
  exact cn_ext (fun x hx => by rw [decide_eq_true (h.all x hx)]; rfl)
theorem Fine.sums {N : Nat} {L : Lk} {fr : List Int} (h : Fine N L fr) : ccT (frL N (allL L fr)) 0 = 0 ∧ ccT (frL N (allL L fr)) 1 = 1 ∧ ccT (frL N (allL L fr)) 2 = L.free ∧ ccT (frL N (allL L fr)) 6 = blockS L.inos ∧ ccT (frL N (allL L fr)) 3 + ccT (frL N (allL L fr)) 4 + ccT (frL N (allL L fr)) 5 = worthS L.procs ∧ 1 + L.free + worthS L.procs + blockS L.inos = (N : Int) := by
  have z : ∀ l : List Pc, sumI (l.map fun _ => (0 : Int)) = 0 := fun l => sumI_zero l
  refine ⟨?_, ?_, ?_, ?_, ?_, ?_⟩
  · rw [h.cc, cn_allL]; simp [z]
  · rw [h.cc, cn_allL]; simp [z]
  · rw [h.cc, cn_allL, h.free]; simp [z]
  · rw [h.cc, cn_allL]; simp [z]
  · rw [h.cc, h.cc, h.cc, cn_allL, cn_allL, cn_allL]
    have := sumI_map_add L.procs
    simp only [show ¬ ((3 : Int) = 1) by omega, show ¬ ((3 : Int) = 2) by omega, show ¬ ((3 : Int) = 4) by omega, show ¬ ((3 : Int) = 5) by omega, show ¬ ((3 : Int) = 6) by omega, show ¬ ((4 : Int) = 1) by omega, show ¬ ((4 : Int) = 2) by omega, show ¬ ((4 : Int) = 3) by omega, show ¬ ((4 : Int) = 5) by omega, show ¬ ((4 : Int) = 6) by omega, show ¬ ((5 : Int) = 1) by omega, show ¬ ((5 : Int) = 2) by omega, show ¬ ((5 : Int) = 3) by omega, show ¬ ((5 : Int) = 4) by omega, show ¬ ((5 : Int) = 6) by omega, if_false, if_true, Int.add_zero, Int.zero_add]
    exact this
  · have h1 := smT_fr N (allL L fr)
    rw [smT_len h.one, cn_ext (q := fun _ => true) (fun x hx => decide_eq_true (h.all x hx)), cn_true, allL_size] at h1
    have h2 : (frL N (allL L fr)).length = N := by simp [frL]
    rw [h2] at h1
    have := h.free
    omega
/-! named. -/
theorem cn_take (p : Nm → Bool) (A : List Nm) (i : Nat) (x : Nm) (h : A[i]? = some x) : cn p (A.take (i + 1)) = cn p (A.take i) + b2i (p x) := by
  rw [List.take_add_one, h, Option.toList_some, cn_app]
  show _ + (b2i (p x) + 0) = _
  omega
theorem cn_le (p : Nm → Bool) (A : List Nm) : cn p A ≤ A.length := by
  rw [← cn_filter]
  have := List.length_filter_le p A
  omega
set_option maxRecDepth 100000 in
set_option maxHeartbeats 2000000 in
theorem named_any {w : World} {X : Nat} {pv fv iv qv rv lv : Value} {L : Lk} (h : LkW w X pv fv iv qv rv lv L) (hX : X ≤ w.heap.size) {ev : Value} {fr : List Int} (hf : Wd w X ev fr) (hs : (allL L fr).length ≤ 1000000) (hR : LkR L) (hfr : ∀ a ∈ fr, u64R a) (N : Nat) (hN : N ≤ 4096) : Calls Try.prog 15 #[.int .i64 N, .agg (lkL L.tramp pv fv iv qv rv lv L.ticks L.next L.free).toArray, ev] w fun e w' => e = .returned (.int .i64 (cn (fun x => decide (isF N x.1)) (allL L fr))) ∧ Below w.heap.size w w' := by
  obtain ⟨lc, hlc⟩ : ∃ lc, lc = lkL L.tramp pv fv iv qv rv lv L.ticks L.next L.free := ⟨_, rfl⟩
  rw [← hlc]
  have HLC : Hid (lc.length = 10) := by rw [hlc]; exact rfl
  have HA : Hid (∀ V, Below w.heap.size w V → Calls Try.prog 38 #[.agg lc.toArray, ev] V fun e w' => ∃ v, e = .returned v ∧ w'.ownsRow V.heap.size 104 3 v (allL L fr).length (((allL L fr).map An).flatten) ∧ Below V.heap.size V w') := fun V hV => by
    rw [hlc]
    exact all_any (h.keep (Nat.le_refl _) (hV.mono hX)) (Nat.le_trans hX hV.size) (Wd.keep hf (Nat.le_refl _) (hV.mono hX)) hs hR.il
  have HBD : Hid (∀ x ∈ allL L fr, Bd64 x.1) := allL_mem hR hfr
  obtain ⟨ep, ec, rfl⟩ := hf.form
  clear h hX hf hR hfr hlc
  obtain ⟨A, hA⟩ : ∃ A, A = allL L fr := ⟨_, rfl⟩
  rw [← hA] at HA HBD hs ⊢
  clear hA
  obtain ⟨n, hn⟩ : ∃ n, n = A.length := ⟨_, rfl⟩
  have HNA : Hid (n = A.length) := hn
  have bn : n ≤ 1000000 := by omega
  have hw : IntKind.u64.wrap (N : Int) = (N : Int) := by rw [IntKind.wrap_u64]; omega
  clear hs
  go_enter Try.func15, Try.ntmps15
  go_wp2_with (first
    | (refine wpList_is (.box 33 (.tmp 1)) rfl ?_; refine wpList_boxG 33 lc 4 (.tmp 1) _ rfl rfl rfl rfl ?_; intro W1 hW1 hB1 hs1; have r1 : W1.rangeAt w.heap.size 0 lc := range_heap hW1)
    | (refine wpList_is (.load 33 (.tmp 4)) rfl ?_; refine wpList_loadG 33 10 176 info33 _ Try.underlying33 rfl lc HLC.out w.heap.size 0 (.tmp 4) rfl rfl rfl r1 (some 11) rfl ?_)
    | fail)
  clear r1
  go_at_call 38
  refine (HA.out _ hB1).mono ?_
  rintro e W2 ⟨v, rfl, hown, hB2⟩
  have hsl := Sl.ofA hown
  obtain ⟨p, c, rfl⟩ := own_form hown
  rw [← hn] at hsl ⊢
  have HSL : Hid (Sl W2 W2.heap.size 3 (fun x cs => cs = An x) (.slice p n c) A ∧ Below w.heap.size w W2) := ⟨hsl, hB1.trans (hB2.mono (by omega))⟩
  clear hsl hown hB1 hB2 hs1 hW1 HA hn
  go_wp2
  go_loopw [7, 9] (fun k7 k9 wr => ∃ i : Nat, i ≤ n ∧ k9 = .int .i64 i ∧ ∃ m : Int, k7 = .int .i64 m ∧ Hid (m = cn (fun x => decide (isF N x.1)) (A.take i) ∧ Below W2.heap.size W2 wr)) (fun _ v _ => (n - intOf v).toNat)
  case atStart => exact ⟨0, by omega, rfl, 0, rfl, rfl, Below.refl _ _⟩
  case round =>
    obtain ⟨i, hi, rfl, m, rfl, HB⟩ := hrel
    obtain ⟨hmm, hwr⟩ := HB.out
    have HWR : Hid (Below W2.heap.size W2 wr) := hwr
    clear hwr
    have HM : Hid (m = cn (fun x => decide (isF N x.1)) (A.take i)) := hmm
    have bm : 0 ≤ m ∧ m ≤ 1000000 := by
      have h1 := cn_nonneg (fun x => decide (isF N x.1)) (A.take i)
      have h2 := cn_le (fun x => decide (isF N x.1)) (A.take i)
      have h3 : (A.take i).length ≤ A.length := by rw [List.length_take]; omega
      have := HNA.out
      omega
    clear HB hmm
    by_cases hin : i < n
    · as_aux_lemma =>
        have i1 : (i : Int) < n := by omega
        obtain ⟨-, b, o, x, cs, rfl, hbX, hx, rfl, hcl, hr⟩ := HSL.out.1.at hin
        have kp : wr.cell? ⟨b, o + i * 3, .none⟩ = some (.int .u64 x.1) := by have := range_keep hr HWR.out hbX 0 _ rfl; rw [Nat.add_zero] at this; exact this
        have hbd := HBD.out x (List.mem_of_getElem? hx)
        have HC : Hid (cn (fun x => decide (isF N x.1)) (A.take (i + 1)) = m + b2i (decide (isF N x.1))) := by show _ = _; rw [cn_take _ A i x hx, ← HM.out]
        obtain ⟨pa, hpa⟩ : ∃ pa, pa = x.1 := ⟨_, rfl⟩
        rw [← hpa] at kp hbd HC
        obtain ⟨h0, h1⟩ := hbd
        clear hr hcl hbX hx hpa
        have ht : pa.tmod 4096 = pa % 4096 := Int.tmod_eq_emod_of_nonneg h0
        have hm1 : IntKind.i64.wrap (m + 1) = m + 1 := by rw [IntKind.wrap_i64]; omega
        by_cases a : 2147483648 ≤ pa
        case neg =>
          have hn : ¬ isF N pa := fun h => a h.1
          have HN : Hid (b2i (decide (isF N pa)) = 0) := by show _ = _; rw [decide_eq_false hn]; rfl
          clear hn
          go_wp2
          exact ⟨⟨i + 1, by omega, by go_num, m, rfl, by rw [HC.out, HN.out]; omega, HWR.out⟩, by simp [intOf]; omega⟩
        have hv : IntKind.u64.wrap (pa - 2147483648) = pa - 2147483648 := by rw [IntKind.wrap_u64]; omega
        have hd : (pa - 2147483648).tdiv 4096 = (pa - 2147483648) / 4096 := Int.tdiv_eq_ediv_of_nonneg (by omega)
        obtain ⟨r, hr⟩ : ∃ r, r = pa % 4096 := ⟨_, rfl⟩
        obtain ⟨q, hq⟩ : ∃ q, q = (pa - 2147483648) / 4096 := ⟨_, rfl⟩
        have q0 : 0 ≤ q := by omega
        have q1 : q ≤ 4503599627370496 := by omega
        have hwq : IntKind.u64.wrap q = q := by rw [IntKind.wrap_u64]; omega
        have HR : Hid (r = pa % 4096 ∧ q = (pa - 2147483648) / 4096) := ⟨hr, hq⟩
        rw [← hr] at ht
        rw [← hq] at hd
        clear hr hq
        by_cases b : r = 0
        case neg =>
          have b' : (r == 0) = false := by simpa using b
          have hn : ¬ isF N pa := fun h => by have h3 := h.2.1; rw [← HR.out.1] at h3; exact b h3
          have HN : Hid (b2i (decide (isF N pa)) = 0) := by show _ = _; rw [decide_eq_false hn]; rfl
          clear hn b
          go_wp2
          exact ⟨⟨i + 1, by omega, by go_num, m, rfl, by rw [HC.out, HN.out]; omega, HWR.out⟩, by simp [intOf]; omega⟩
        have b' : (r == 0) = true := by simpa using b
        have HB0 : Hid (r = 0) := b
        clear b
        by_cases c : q < N
        · have hi2 : isF N pa := ⟨a, by rw [← HR.out.1]; exact HB0.out, by rw [← HR.out.2]; exact c⟩
          have HN : Hid (b2i (decide (isF N pa)) = 1) := by show _ = _; rw [decide_eq_true hi2]; rfl
          have c' : ¬ (N : Int) ≤ q := by omega
          clear hi2
          go_wp2
          exact ⟨⟨i + 1, by omega, by go_num, m + 1, rfl, by rw [HC.out, HN.out], HWR.out⟩, by simp [intOf]; omega⟩
        · have hn : ¬ isF N pa := fun h => by have h3 := h.2.2; rw [← HR.out.2] at h3; omega
          have HN : Hid (b2i (decide (isF N pa)) = 0) := by show _ = _; rw [decide_eq_false hn]; rfl
          clear hn
          go_wp2
          exact ⟨⟨i + 1, by omega, by go_num, m, rfl, by rw [HC.out, HN.out]; omega, HWR.out⟩, by simp [intOf]; omega⟩
    · have i1 : ¬ (i : Int) < n := by omega
      obtain rfl : n = i := by omega
      have HQ : Hid (m = cn (fun x => decide (isF N x.1)) A) := by have := HM.out; rw [show A.take n = A by rw [HNA.out, List.take_length]] at this; exact this
      go_wp2
      go_ret
      exact ⟨by rw [← HQ.out]; rfl, HSL.out.2.trans (HWR.out.mono HSL.out.2.size)⟩
/-! CensusSums. -/
theorem smT_le {F : List Ow} (h : ∀ o ∈ F, 0 ≤ o.2.2) (i : Nat) : 0 ≤ smT (F.take i) ∧ smT (F.take i) ≤ smT F := by
  have nn : ∀ G : List Ow, (∀ o ∈ G, 0 ≤ o.2.2) → 0 ≤ smT G := by
    intro G
    induction G with
    | nil => intro _; simp [smT, sumI]
    | cons o G ih =>
      intro hG
      have h1 := ih (fun o ho => hG o (by simp [ho]))
      have h2 := hG o (by simp)
      unfold smT at *
      simp only [List.map_cons, sumI]
      omega
  have e : smT F = smT (F.take i) + smT (F.drop i) := by
    unfold smT
    rw [← sumI_app, ← List.map_append, List.take_append_drop]
  have h1 := nn (F.take i) (fun o ho => h o (List.mem_of_mem_take ho))
  have h2 := nn (F.drop i) (fun o ho => h o (List.mem_of_mem_drop ho))
  omega
def arrT (F : List Ow) : List Value := [.int .i64 (ccT F 0), .int .i64 (ccT F 1), .int .i64 (ccT F 2), .int .i64 (ccT F 3), .int .i64 (ccT F 4), .int .i64 (ccT F 5), .int .i64 (ccT F 6)]
theorem arrT_get (F : List Ow) (m : Nat) (h : m < 7) : (arrT F)[m]? = some (.int .i64 (ccT F m)) := by
  have : m = 0 ∨ m = 1 ∨ m = 2 ∨ m = 3 ∨ m = 4 ∨ m = 5 ∨ m = 6 := by omega
  rcases this with rfl | rfl | rfl | rfl | rfl | rfl | rfl <;> rfl
theorem arrT_set (F : List Ow) (i : Nat) (o : Ow) (ho : F[i]? = some o) (m : Nat) (h : m < 7) (hm : o.1 = (m : Int)) : (arrT (F.take i)).set m (.int .i64 (ccT (F.take i) m + 1)) = arrT (F.take (i + 1)) := by
  have e : ∀ j : Int, ccT (F.take (i + 1)) j = ccT (F.take i) j + b2i ((m : Int) == j) := fun j => by rw [ccT_take F i o ho j, hm]
  have : m = 0 ∨ m = 1 ∨ m = 2 ∨ m = 3 ∨ m = 4 ∨ m = 5 ∨ m = 6 := by omega
  rcases this with rfl | rfl | rfl | rfl | rfl | rfl | rfl <;> simp [arrT, e, b2i]
theorem alloc61 (ρ : Operand → Value) (o : Oper) (ho : o.op = .alloc 61) (w : World) : (execOp ρ o).run Try.prog w = .ok (.value (.pointer (some ⟨w.heap.size, 0, .none⟩))) (w.alloc (.cells (arrT []).toArray 61)) := by
  unfold execOp
  rw [ho]
  kernel_rfl
theorem worthS_take (l : List Pc) (i : Nat) (p : Pc) (h : l[i]? = some p) : worthS (l.take (i + 1)) = worthS (l.take i) + (1 + (p.pages.length : Int) + p.nodes.length) := by
  unfold worthS
  rw [List.take_add_one, h, Option.toList_some, List.map_append, sumI_app]
  simp [sumI]
theorem blockS_take (l : List In) (i : Nat) (x : In) (h : l[i]? = some x) : blockS (l.take (i + 1)) = blockS (l.take i) + (x.bl.length : Int) := by
  unfold blockS
  rw [List.take_add_one, h, Option.toList_some, List.map_append, sumI_app]
  simp [sumI]
theorem worthS_le (l : List Pc) (i : Nat) : 0 ≤ worthS (l.take i) ∧ worthS (l.take i) ≤ worthS l := by
  have nn : ∀ l : List Pc, 0 ≤ worthS l := by
    intro l
    induction l with
    | nil => simp [worthS, sumI]
    | cons p l ih => unfold worthS at *; simp only [List.map_cons, sumI]; omega
  have e : worthS l = worthS (l.take i) + worthS (l.drop i) := by
    unfold worthS
    rw [← sumI_app, ← List.map_append, List.take_append_drop]
  have h1 := nn (l.take i)
  have h2 := nn (l.drop i)
  omega
theorem blockS_le (l : List In) (i : Nat) : 0 ≤ blockS (l.take i) ∧ blockS (l.take i) ≤ blockS l := by
  have nn : ∀ l : List In, 0 ≤ blockS l := by
    intro l
    induction l with
    | nil => simp [blockS, sumI]
    | cons p l ih => unfold blockS at *; simp only [List.map_cons, sumI]; omega
  have e : blockS l = blockS (l.take i) + blockS (l.drop i) := by
    unfold blockS
    rw [← sumI_app, ← List.map_append, List.take_append_drop]
  have h1 := nn (l.take i)
  have h2 := nn (l.drop i)
  omega
structure SB (L : Lk) (fr : List Int) : Prop where
  al : (allL L fr).length ≤ 6001
  wo : worthS L.procs ≤ 6001
  bl : blockS L.inos ≤ 6001
  pn : ∀ p ∈ L.procs, p.nodes.length ≤ 6000 ∧ p.pages.length ≤ 6000
  pl : L.procs.length ≤ 6000
  il : L.inos.length ≤ 6000
theorem SB.of {L : Lk} {fr : List Int} (h : fewN L fr.length ≤ 6000) : SB L fr := by
  have h1 := allL_len L fr
  have h2 := allL_size L fr
  have h3 := (worthS_le L.procs L.procs.length)
  have h4 := (blockS_le L.inos L.inos.length)
  rw [List.take_length] at h3 h4
  have h5 : ∀ p ∈ L.procs, p.nodes.length ≤ 6000 ∧ p.pages.length ≤ 6000 := fun p hp => by
    have := sumN_mem (fun p : Pc => p.nodes.length + p.pages.length) L.procs p hp
    unfold fewN at h
    omega
  refine ⟨by omega, by omega, by omega, h5, ?_, ?_⟩ <;> (unfold fewN at h; omega)
/-! A look whose frames are all changed for others. -/
def mvF (N t : Nat) (a : Int) : Int := if isF N a then 2147483648 + 4096 * ((frN a + t) % N) else a
def mvPc (N t : Nat) (p : Pc) : Pc := ⟨fun i => if i = 42 then mvF N t (p.c 42) else if i = 43 then mvF N t (p.c 43) else p.c i, p.kil, p.inC, p.nodes.map (mvF N t), p.pages.map fun g => ⟨g.no, mvF N t g.fr, g.pm⟩⟩
def mvIn (N t : Nat) (x : In) : In := ⟨x.ino, x.ty, x.ma, x.mi, x.links, x.refs, x.size, x.bl.map (mvF N t)⟩
def mvLk (N t : Nat) (L : Lk) : Lk := ⟨mvF N t L.tramp, L.procs.map (mvPc N t), L.files, L.inos.map (mvIn N t), L.pipes, L.ready, L.line, L.ticks, L.next, L.free⟩
def mvN (N t : Nat) (x : Nm) : Nm := (mvF N t x.1, x.2)
theorem mv_c (N t : Nat) (p : Pc) (i : Nat) (h : i ≠ 42) (h' : i ≠ 43) : (mvPc N t p).c i = p.c i := by
  show (if i = 42 then _ else if i = 43 then _ else p.c i) = _
  rw [if_neg h, if_neg h']
theorem allL_mv (N t : Nat) (L : Lk) (fr : List Int) : allL (mvLk N t L) (fr.map (mvF N t)) = (allL L fr).map (mvN N t) := by
  have hp : ∀ p : Pc, nmP (mvPc N t p) = (nmP p).map (mvN N t) := fun p => by
    unfold nmP nmN nmG
    rw [mv_c N t p 0 (by decide) (by decide)]
    show List.map _ (p.nodes.map (mvF N t)) ++ List.map _ (p.pages.map fun g => (⟨g.no, mvF N t g.fr, g.pm⟩ : Pg)) ++ [(mvF N t (p.c 42), (5 : Int), p.c 0)] = _
    simp only [List.map_append, List.map_map, List.map_cons, List.map_nil]
    rfl
  have hi : ∀ x : In, nmI (mvIn N t x) = (nmI x).map (mvN N t) := fun x => by
    unfold nmI nmB
    show List.map _ (x.bl.map (mvF N t)) = _
    simp only [List.map_map]
    rfl
  have fm : ∀ {α : Type} (l : List α) (g : α → α) (f : α → List Nm) (h : ∀ a, f (g a) = (f a).map (mvN N t)), (l.map g).flatMap f = (l.flatMap f).map (mvN N t) := fun l g f h => by
    induction l with
    | nil => rfl
    | cons a l ih => rw [List.map_cons, List.flatMap_cons, List.flatMap_cons, List.map_append, ih, h]
  unfold allL
  rw [List.map_append, List.map_append, List.map_append]
  show [(mvF N t L.tramp, (1 : Int), (0 : Int))] ++ nmF (fr.map (mvF N t)) ++ (L.procs.map (mvPc N t)).flatMap nmP ++ (L.inos.map (mvIn N t)).flatMap nmI = _
  rw [fm L.procs (mvPc N t) nmP hp, fm L.inos (mvIn N t) nmI hi]
  unfold nmF
  simp only [List.map_map]
  rfl
theorem isF_mv {N t : Nat} (hN : 1 ≤ N) (a : Int) : isF N (mvF N t a) ↔ isF N a := by
  unfold mvF
  split
  · rename_i h
    have h0 : 0 ≤ (frN a + t) % (N : Int) := Int.emod_nonneg _ (by omega)
    have h1 : (frN a + t) % (N : Int) < N := Int.emod_lt_of_pos _ (by omega)
    generalize (frN a + t) % (N : Int) = q at *
    refine ⟨fun _ => h, fun _ => ⟨by omega, by omega, by omega⟩⟩
  · rfl
/-- The frame that comes to a place. -/
def bkF (N t k : Nat) : Nat := (((k : Int) - t) % N).toNat
theorem bkF_lt {N t k : Nat} (hN : 1 ≤ N) : bkF N t k < N := by
  unfold bkF
  have h0 : 0 ≤ ((k : Int) - t) % (N : Int) := Int.emod_nonneg _ (by omega)
  have h1 : ((k : Int) - t) % (N : Int) < N := Int.emod_lt_of_pos _ (by omega)
  omega
theorem mv_eq {N t k : Nat} (hN : 1 ≤ N) (hk : k < N) (a : Int) : mvF N t a = frA k ↔ a = frA (bkF N t k) := by
  have hb := bkF_lt (t := t) (k := k) hN
  have hb1 : ((bkF N t k : Nat) : Int) = ((k : Int) - t) % N := by
    unfold bkF
    exact Int.toNat_of_nonneg (Int.emod_nonneg _ (by omega))
  constructor
  · intro h
    by_cases hf : isF N a
    · unfold mvF at h
      rw [if_pos hf] at h
      have e : (frN a + t) % (N : Int) = k := by unfold frA at h; omega
      obtain ⟨f1, f2, f3⟩ := hf
      have hn : frN a = ((k : Int) - t) % N := by
        rw [← e]
        have h0 : 0 ≤ frN a := by unfold frN; omega
        have h1 : frN a < N := f3
        rw [Int.sub_emod, Int.emod_emod, ← Int.sub_emod, show frN a + t - t = frN a by omega, Int.emod_eq_of_lt h0 h1]
      unfold frA
      rw [hb1, ← hn]
      unfold frN
      omega
    · unfold mvF at h
      rw [if_neg hf] at h
      rw [h] at hf
      exact absurd (isF_frA hk) hf
  · rintro rfl
    unfold mvF
    rw [if_pos (isF_frA hb)]
    have hn : frN (frA (bkF N t k)) = bkF N t k := by unfold frN frA; omega
    rw [hn, hb1]
    unfold frA
    rw [Int.add_emod, Int.emod_emod, ← Int.add_emod, show (k : Int) - t + t = k by omega, Int.emod_eq_of_lt (by omega) (by omega)]
theorem bk_onto {N t k : Nat} (hN : 1 ≤ N) (hk : k < N) : ∃ j, j < N ∧ bkF N t j = k := by
  refine ⟨(((k : Int) + t) % N).toNat, ?_, ?_⟩
  · have h0 : 0 ≤ ((k : Int) + t) % (N : Int) := Int.emod_nonneg _ (by omega)
    have h1 : ((k : Int) + t) % (N : Int) < N := Int.emod_lt_of_pos _ (by omega)
    omega
  · unfold bkF
    rw [Int.toNat_of_nonneg (Int.emod_nonneg _ (by omega)), Int.sub_emod, Int.emod_emod, ← Int.sub_emod, show (k : Int) + t - t = k by omega, Int.emod_eq_of_lt (by omega) (by omega)]
    omega
theorem cn_map (p : Nm → Bool) (f : Nm → Nm) : ∀ A : List Nm, cn p (A.map f) = cn (fun x => p (f x)) A
  | [] => rfl
  | x :: A => by rw [List.map_cons, cn_cons, cn_cons, cn_map p f A]
theorem times_mv {N t k : Nat} (hN : 1 ≤ N) (hk : k < N) (A : List Nm) : cn (fun x => x.1 == frA k) (A.map (mvN N t)) = cn (fun x => x.1 == frA (bkF N t k)) A := by
  rw [cn_map]
  refine cn_ext (fun x _ => ?_)
  show (mvF N t x.1 == frA k) = _
  have := mv_eq (t := t) hN hk x.1
  by_cases h : mvF N t x.1 = frA k
  · rw [h, this.1 h]; simp
  · have h' : x.1 ≠ frA (bkF N t k) := fun e => h (this.2 e)
    rw [beq_eq_false_iff_ne.2 h, beq_eq_false_iff_ne.2 h']
theorem ones_mv {N t : Nat} (hN : 1 ≤ N) (A : List Nm) : (∀ o ∈ frL N (A.map (mvN N t)), o.2.2 = 1) ↔ (∀ o ∈ frL N A, o.2.2 = 1) := by
  have e : ∀ B : List Nm, (∀ o ∈ frL N B, o.2.2 = 1) ↔ ∀ k, k < N → cn (fun x => x.1 == frA k) B = 1 := fun B => by
    constructor
    · intro h k hk
      rw [← ow_times]
      exact h _ (List.mem_map.2 ⟨k, List.mem_range.2 hk, rfl⟩)
    · intro h o ho
      obtain ⟨k, hk, rfl⟩ := List.mem_map.1 ho
      rw [ow_times]
      exact h k (List.mem_range.1 hk)
  rw [e, e]
  constructor
  · intro h k hk
    obtain ⟨j, hj, rfl⟩ := bk_onto (t := t) hN hk
    rw [← times_mv hN hj]
    exact h j hj
  · intro h k hk
    rw [times_mv hN hk]
    exact h _ (bkF_lt hN)
/-! What does not look at frames. -/
theorem foldI_map {α β γ : Type} (g : γ → α → Int → γ) (g' : γ → β → Int → γ) (f : β → α) (h : ∀ c x i, g c (f x) i = g' c x i) (b : γ) (l : List β) : foldI g b (l.map f) = foldI g' b l := by
  unfold foldI
  rw [List.zipIdx_map, List.foldl_map]
  congr 1
  funext c x
  exact h c x.1 x.2
theorem pfA_mv (N t : Nat) (L : Lk) : pfA (mvLk N t L) = pfA L := by
  have h1 : pf1 (mvLk N t L) = pf1 L := foldI_map enP enP (mvPc N t) (fun c x i => by unfold enP; rw [mv_c N t x 0 (by decide) (by decide), mv_c N t x 1 (by decide) (by decide)]) none0 L.procs
  have h2 : pf2 (mvLk N t L) = pf2 L := by unfold pf2; rw [h1]; rfl
  have h3 : pf3 (mvLk N t L) = pf3 L := by
    unfold pf3
    rw [h2]
    exact foldI_map enI enI (mvIn N t) (fun c x i => rfl) (pf2 L) L.inos
  unfold pfA
  rw [h3]
  rfl
theorem nmPr_mv (N t : Nat) (p : Pc) : nmPr (mvPc N t p) = nmPr p := by
  unfold nmPr fdT
  rw [mv_c N t p 2 (by decide) (by decide), mv_c N t p 62 (by decide) (by decide)]
  congr 1
theorem nfA_mv (N t : Nat) (L : Lk) : nfA (mvLk N t L) = nfA L := by
  have h1 : nf1 (mvLk N t L) = nf1 L := by
    unfold nf1
    show ((L.procs.map (mvPc N t)).flatMap nmPr).foldl cnt1 none0 = _
    rw [List.flatMap_map]
    congr 2
  unfold nfA
  rw [h1]
  rfl
theorem numB_map {α β : Type} (f : α → Int) (f' : β → Int) (g : β → α) (h : ∀ x, f (g x) = f' x) (l : List β) (i : Nat) (lo hi : Int) : numB f (l.map g) i lo hi = numB f' l i lo hi := by
  unfold numB
  rw [List.getElem?_map, List.getElem?_map, Option.map_map, Option.map_map]
  congr 2
  · funext x
    show (decide (lo ≤ f (g x)) && (decide (f (g x) ≤ hi) && (decide (i = 0) || ltO ((l[i - 1]?).map (f ∘ g)) (f (g x))))) = _
    rw [h, show (f ∘ g) = f' from funext h]
theorem okP_mv (N t : Nat) (L : Lk) (pf : Th → Option Int) (i : Nat) (p : Pc) : okP (mvLk N t L) pf i (mvPc N t p) = okP L pf i p := by
  unfold okP
  rw [mv_c N t p 1 (by decide) (by decide), mv_c N t p 2 (by decide) (by decide), mv_c N t p 3 (by decide) (by decide)]
  have := numB_map (fun p : Pc => p.c 0) (fun p : Pc => p.c 0) (mvPc N t) (fun x => mv_c N t x 0 (by decide) (by decide)) L.procs i 0 63
  rw [show (mvLk N t L).procs = L.procs.map (mvPc N t) from rfl, this]
  rfl
theorem okG_mv (N t : Nat) (p : Pc) : okG (mvPc N t p) = okG p := by
  unfold okG
  rw [mv_c N t p 41 (by decide) (by decide), show (mvPc N t p).nodes.length = p.nodes.length from List.length_map .., show (mvPc N t p).pages.length = p.pages.length from List.length_map ..]
  congr 2
  unfold pgO
  show (List.zipIdx (p.pages.map fun g => (⟨g.no, mvF N t g.fr, g.pm⟩ : Pg))).all _ = _
  rw [List.zipIdx_map, List.all_map]
  rfl
theorem okD_mv (N t : Nat) (pf : Th → Option Int) (p : Pc) : okD pf (mvPc N t p) = okD pf p := by
  unfold okD
  rw [mv_c N t p 2 (by decide) (by decide), mv_c N t p 62 (by decide) (by decide)]
  congr 1
theorem okI_mv (N t : Nat) (L : Lk) (nf : Th → Option Int) (i : Nat) (x : In) : okI (mvLk N t L) nf i (mvIn N t x) = okI L nf i x := by
  unfold okI
  have := numB_map (fun f : In => f.ino) (fun f : In => f.ino) (mvIn N t) (fun x => rfl) L.inos i 1 199
  rw [show (mvLk N t L).inos = L.inos.map (mvIn N t) from rfl, this, show (mvIn N t x).bl.length = x.bl.length from List.length_map ..]
  rfl
def wrR (L : Lk) (fr : List Int) (pf nf : Th → Option Int) : List (List (Int × Int)) := [
  [unW (L.free == (fr.length : Int)) 5 0],
  L.procs.zipIdx.map fun x => unW (okP L pf x.2 x.1) 10 (x.1.c 0),
  L.procs.map fun x => unW (okG x) 11 (x.c 0),
  L.procs.map fun x => unW (okD pf x) 6 (x.c 0),
  L.files.zipIdx.map fun x => unW (okF L pf nf x.2 x.1) 7 x.1.num,
  L.inos.zipIdx.map fun x => unW (okI L nf x.2 x.1) 8 x.1.ino,
  L.pipes.zipIdx.map fun x => unW (okQ L nf x.2 x.1) 9 x.1.num]
def wr0 (N : Nat) (A : List Nm) : List (Int × Int) := A.zipIdx.map fun x => unW (decide (isF N x.1.1)) 2 x.2
def wr1 (N : Nat) (A : List Nm) : List (Int × Int) := (frL N A).zipIdx.map fun x => wfW x.1.2.2 x.2
theorem wrAll_eq (N : Nat) (L : Lk) (fr : List Int) (pf nf : Th → Option Int) : wrAll N L fr pf nf = wr0 N (allL L fr) :: wr1 N (allL L fr) :: wrR L fr pf nf := rfl
theorem wrR_mv (N t : Nat) (L : Lk) (fr : List Int) (pf nf : Th → Option Int) : wrR (mvLk N t L) (fr.map (mvF N t)) pf nf = wrR L fr pf nf := by
  have a1 : (L.procs.map (mvPc N t)).zipIdx.map (fun x => unW (okP (mvLk N t L) pf x.2 x.1) 10 (x.1.c 0)) = L.procs.zipIdx.map fun x => unW (okP L pf x.2 x.1) 10 (x.1.c 0) := by
    rw [List.zipIdx_map, List.map_map]
    refine List.map_congr_left (fun x _ => ?_)
    show unW (okP (mvLk N t L) pf x.2 (mvPc N t x.1)) 10 ((mvPc N t x.1).c 0) = _
    rw [okP_mv, mv_c N t x.1 0 (by decide) (by decide)]
  have a2 : (L.procs.map (mvPc N t)).map (fun x => unW (okG x) 11 (x.c 0)) = L.procs.map fun x => unW (okG x) 11 (x.c 0) := by
    rw [List.map_map]
    refine List.map_congr_left (fun x _ => ?_)
    show unW (okG (mvPc N t x)) 11 ((mvPc N t x).c 0) = _
    rw [okG_mv, mv_c N t x 0 (by decide) (by decide)]
  have a3 : (L.procs.map (mvPc N t)).map (fun x => unW (okD pf x) 6 (x.c 0)) = L.procs.map fun x => unW (okD pf x) 6 (x.c 0) := by
    rw [List.map_map]
    refine List.map_congr_left (fun x _ => ?_)
    show unW (okD pf (mvPc N t x)) 6 ((mvPc N t x).c 0) = _
    rw [okD_mv, mv_c N t x 0 (by decide) (by decide)]
  have a5 : (L.inos.map (mvIn N t)).zipIdx.map (fun x => unW (okI (mvLk N t L) nf x.2 x.1) 8 x.1.ino) = L.inos.zipIdx.map fun x => unW (okI L nf x.2 x.1) 8 x.1.ino := by
    rw [List.zipIdx_map, List.map_map]
    refine List.map_congr_left (fun x _ => ?_)
    show unW (okI (mvLk N t L) nf x.2 (mvIn N t x.1)) 8 x.1.ino = _
    rw [okI_mv]
  unfold wrR
  rw [List.length_map, show (mvLk N t L).procs = L.procs.map (mvPc N t) from rfl, show (mvLk N t L).inos = L.inos.map (mvIn N t) from rfl, a1, a2, a3, a5]
  rfl
theorem wr0_mv {N t : Nat} (hN : 1 ≤ N) (A : List Nm) : wr0 N (A.map (mvN N t)) = wr0 N A := by
  unfold wr0
  rw [List.zipIdx_map, List.map_map]
  refine List.map_congr_left (fun x _ => ?_)
  show unW (decide (isF N (mvF N t x.1.1))) 2 x.2 = _
  rw [decide_eq_decide.2 (isF_mv hN x.1.1)]
/-! What is wrong with a look whose frames were moved. -/
theorem firstB_zero' {a b : List (Int × Int)} (h : ∀ r ∈ a, r = (0, 0)) : firstB (a ++ b) = firstB b := by
  unfold firstB
  rw [List.find?_append, List.find?_eq_none.2 (fun r hr => by simp [h r hr]), Option.none_or]
theorem firstB_bad {a b : List (Int × Int)} (h : firstB a ≠ (0, 0)) : firstB (a ++ b) = firstB a := by
  unfold firstB at *
  rw [List.find?_append]
  cases hf : a.find? (fun r => r != (0, 0)) with
  | none => rw [hf] at h; exact absurd rfl h
  | some r => rfl
theorem wr0_kind {N : Nat} {A : List Nm} : ∀ r ∈ wr0 N A, r = (0, 0) ∨ r.1 = 2 := by
  intro r hr
  obtain ⟨x, _, rfl⟩ := List.mem_map.1 hr
  cases hb : decide (isF N x.1.1)
  · exact .inr rfl
  · exact .inl rfl
theorem wr1_kind {N : Nat} {A : List Nm} : ∀ r ∈ wr1 N A, r = (0, 0) ∨ (r.1 = 3 ∨ r.1 = 4) := by
  intro r hr
  obtain ⟨x, _, rfl⟩ := List.mem_map.1 hr
  unfold wfW
  split
  · exact .inr (.inl rfl)
  · split
    · exact .inl rfl
    · exact .inr (.inr rfl)
theorem wr1_zero {N : Nat} {A : List Nm} : (∀ r ∈ wr1 N A, r = (0, 0)) ↔ ∀ o ∈ frL N A, o.2.2 = 1 := by
  constructor
  · intro h o ho
    obtain ⟨i, hi⟩ := List.getElem?_of_mem ho
    have := h (wfW o.2.2 i) (List.mem_map.2 ⟨(o, i), by rw [List.mem_zipIdx_iff_getElem?]; exact hi, rfl⟩)
    unfold wfW at this
    split at this
    · injection this with this; cases this
    · split at this
      · assumption
      · injection this with this; cases this
  · intro h r hr
    obtain ⟨⟨o, i⟩, ho, rfl⟩ := List.mem_map.1 hr
    rw [List.mem_zipIdx_iff_getElem?] at ho
    have := h o (List.mem_of_getElem? ho)
    show wfW o.2.2 i = (0, 0)
    unfold wfW
    rw [this]
    rfl
theorem unW_not (b : Bool) (k n : Int) (h : k ≠ 3 ∧ k ≠ 4) : (unW b k n).1 ≠ 3 ∧ (unW b k n).1 ≠ 4 := by
  cases b
  · exact h
  · show (0 : Int) ≠ 3 ∧ (0 : Int) ≠ 4
    decide
theorem wrR_kind {L : Lk} {fr : List Int} {pf nf : Th → Option Int} : ∀ r ∈ (wrR L fr pf nf).flatten, r.1 ≠ 3 ∧ r.1 ≠ 4 := by
  intro r hr
  obtain ⟨l, hl, hr⟩ := List.mem_flatten.1 hr
  simp only [wrR, List.mem_cons, List.not_mem_nil, or_false] at hl
  rcases hl with rfl | rfl | rfl | rfl | rfl | rfl | rfl
  · rw [List.mem_singleton] at hr; subst hr; exact unW_not _ _ _ (by omega)
  · obtain ⟨x, _, rfl⟩ := List.mem_map.1 hr; exact unW_not _ _ _ (by omega)
  · obtain ⟨x, _, rfl⟩ := List.mem_map.1 hr; exact unW_not _ _ _ (by omega)
  · obtain ⟨x, _, rfl⟩ := List.mem_map.1 hr; exact unW_not _ _ _ (by omega)
  · obtain ⟨x, _, rfl⟩ := List.mem_map.1 hr; exact unW_not _ _ _ (by omega)
  · obtain ⟨x, _, rfl⟩ := List.mem_map.1 hr; exact unW_not _ _ _ (by omega)
  · obtain ⟨x, _, rfl⟩ := List.mem_map.1 hr; exact unW_not _ _ _ (by omega)
theorem tk_mv {N t : Nat} (hN : 1 ≤ N) (L : Lk) (fr : List Int) : (((tkW N L fr).1 = 3 ∨ (tkW N L fr).1 = 4) ∧ ((tkW N (mvLk N t L) (fr.map (mvF N t))).1 = 3 ∨ (tkW N (mvLk N t L) (fr.map (mvF N t))).1 = 4)) ∨ ((tkW N L fr).1 ≠ 3 ∧ (tkW N L fr).1 ≠ 4 ∧ tkW N (mvLk N t L) (fr.map (mvF N t)) = tkW N L fr) := by
  unfold tkW
  rw [wrAll_eq, wrAll_eq, pfA_mv, nfA_mv, wrR_mv, allL_mv, wr0_mv hN]
  simp only [List.flatten_cons]
  generalize hR : (wrR L fr (pfA L) (nfA L)).flatten = R
  have hRk : ∀ r ∈ R, r.1 ≠ 3 ∧ r.1 ≠ 4 := by rw [← hR]; exact wrR_kind
  rcases firstB_cases (wr0 N (allL L fr)) with ⟨_, z0⟩ | ⟨m0, n0⟩
  · rw [firstB_zero' z0, firstB_zero' z0]
    by_cases h1 : ∀ o ∈ frL N (allL L fr), o.2.2 = 1
    · have h2 := (ones_mv (t := t) hN (allL L fr)).2 h1
      rw [firstB_zero' (wr1_zero.2 h1), firstB_zero' (wr1_zero.2 h2)]
      refine .inr ⟨?_, ?_, rfl⟩
      · rcases firstB_cases R with ⟨z, _⟩ | ⟨m, _⟩
        · rw [z]; decide
        · exact (hRk _ m).1
      · rcases firstB_cases R with ⟨z, _⟩ | ⟨m, _⟩
        · rw [z]; decide
        · exact (hRk _ m).2
    · have h2 : ¬ ∀ o ∈ frL N ((allL L fr).map (mvN N t)), o.2.2 = 1 := fun h => h1 ((ones_mv hN (allL L fr)).1 h)
      have b : ∀ A : List Nm, (¬ ∀ o ∈ frL N A, o.2.2 = 1) → firstB (wr1 N A) ≠ (0, 0) ∧ ((firstB (wr1 N A)).1 = 3 ∨ (firstB (wr1 N A)).1 = 4) := fun A hA => by
        rcases firstB_cases (wr1 N A) with ⟨_, z⟩ | ⟨m, n⟩
        · exact absurd (wr1_zero.1 z) hA
        · refine ⟨n, ?_⟩
          rcases wr1_kind _ m with h | h
          · exact absurd h n
          · exact h
      obtain ⟨b1, b2⟩ := b _ h1
      obtain ⟨b3, b4⟩ := b _ h2
      rw [firstB_bad b1, firstB_bad b3]
      exact .inl ⟨b2, b4⟩
  · rw [firstB_bad n0, firstB_bad n0]
    refine .inr ⟨?_, ?_, rfl⟩ <;> (rcases wr0_kind _ m0 with h | h <;> (rw [h]; decide))
theorem counts_mv (N t : Nat) (L : Lk) : (mvLk N t L).files.map (cfF (nfA (mvLk N t L))) = L.files.map (cfF (nfA L)) ∧ (mvLk N t L).inos.map (cfI (nfA (mvLk N t L))) = L.inos.map (cfI (nfA L)) := by
  rw [nfA_mv]
  refine ⟨rfl, ?_⟩
  show (L.inos.map (mvIn N t)).map _ = _
  rw [List.map_map]
  rfl
theorem mvF_bd {N t : Nat} (hN : 1 ≤ N) (hN2 : N ≤ 4096) {a : Int} (h : u64R a) : u64R (mvF N t a) := by
  unfold mvF
  split
  · have h0 : 0 ≤ (frN a + t) % (N : Int) := Int.emod_nonneg _ (by omega)
    have h1 : (frN a + t) % (N : Int) < N := Int.emod_lt_of_pos _ (by omega)
    generalize (frN a + t) % (N : Int) = q at *
    exact wf64 ⟨by omega, by omega⟩
  · exact h
theorem LkR.mv {N t : Nat} (hN : 1 ≤ N) (hN2 : N ≤ 4096) {L : Lk} (h : LkR L) : LkR (mvLk N t L) := by
  refine ⟨mvF_bd hN hN2 h.tr, fun x hx => ?_, h.f, fun x hx => ?_, h.q, h.ti, h.nx, h.fr, ?_, h.fl, ?_, h.ql, h.rl, h.ll⟩
  · obtain ⟨p, hp, rfl⟩ := List.mem_map.1 hx
    have hr := h.p p hp
    refine ⟨fun i k hik => ?_, fun a ha => ?_, fun g hg => ?_, ?_, ?_⟩
    · by_cases e2 : i = 42
      · subst e2
        have : k = .u64 := by simp [k55] at hik; exact hik
        subst this
        exact mvF_bd hN hN2 (hr.c 42 .u64 hik)
      by_cases e3 : i = 43
      · subst e3
        have : k = .u64 := by simp [k55] at hik; exact hik
        subst this
        exact mvF_bd hN hN2 (hr.c 43 .u64 hik)
      · rw [mv_c N t p i e2 e3]
        exact hr.c i k hik
    · obtain ⟨b, hb, rfl⟩ := List.mem_map.1 ha
      exact mvF_bd hN hN2 (hr.n b hb)
    · obtain ⟨b, hb, rfl⟩ := List.mem_map.1 hg
      exact ⟨(hr.g b hb).no, mvF_bd hN hN2 (hr.g b hb).fr, (hr.g b hb).pm⟩
    · rw [show (mvPc N t p).nodes.length = p.nodes.length from List.length_map ..]; exact hr.nl
    · rw [show (mvPc N t p).pages.length = p.pages.length from List.length_map ..]; exact hr.gl
  · obtain ⟨y, hy, rfl⟩ := List.mem_map.1 hx
    have hr := h.i y hy
    refine ⟨hr.ino, hr.ty, hr.links, hr.refs, hr.size, fun a ha => ?_, ?_⟩
    · obtain ⟨b, hb, rfl⟩ := List.mem_map.1 ha
      exact mvF_bd hN hN2 (hr.b b hb)
    · rw [show (mvIn N t y).bl.length = y.bl.length from List.length_map ..]; exact hr.bl
  · rw [show (mvLk N t L).procs.length = L.procs.length from List.length_map ..]; exact h.pl
  · rw [show (mvLk N t L).inos.length = L.inos.length from List.length_map ..]; exact h.il
/-! moved, sameCounts. -/
set_option maxRecDepth 100000 in
set_option maxHeartbeats 1000000 in
theorem moved_any (pa : Int) (hpa : u64R pa) (N t : Nat) (hN1 : 1 ≤ N) (hN : N ≤ 4096) (ht : t < N) (w : World) : Calls Try.prog 29 #[.int .u64 pa, .int .i64 N, .int .i64 t] w fun e w' => e = .returned (.int .u64 (mvF N t pa)) ∧ w' = w := by
  obtain ⟨h0, h1⟩ := wf_bd hpa
  have hm : pa.tmod 4096 = pa % 4096 := Int.tmod_eq_emod_of_nonneg h0
  have hw : IntKind.u64.wrap (N : Int) = (N : Int) := by rw [IntKind.wrap_u64]; omega
  have HT : Hid (t < N ∧ 1 ≤ N) := ⟨ht, hN1⟩
  clear hpa
  by_cases a : pa < 2147483648
  · have hn : ¬ isF N pa := fun h => by have := h.1; omega
    have HN : Hid (mvF N t pa = pa) := by show _ = _; unfold mvF; rw [if_neg hn]
    clear hn
    go_enter Try.func29, Try.ntmps29
    go_wp2
    go_ret
    exact ⟨by rw [HN.out]; rfl, rfl⟩
  have hv : IntKind.u64.wrap (pa - 2147483648) = pa - 2147483648 := by rw [IntKind.wrap_u64]; omega
  have hd : (pa - 2147483648).tdiv 4096 = (pa - 2147483648) / 4096 := Int.tdiv_eq_ediv_of_nonneg (by omega)
  obtain ⟨r, hr⟩ : ∃ r, r = pa % 4096 := ⟨_, rfl⟩
  obtain ⟨q, hq⟩ : ∃ q, q = (pa - 2147483648) / 4096 := ⟨_, rfl⟩
  have q0 : 0 ≤ q := by omega
  have q1 : q ≤ 4503599627370496 := by omega
  have hwq : IntKind.u64.wrap q = q := by rw [IntKind.wrap_u64]; omega
  have hwi : IntKind.i64.wrap q = q := by rw [IntKind.wrap_i64]; omega
  have HR : Hid (r = pa % 4096 ∧ q = (pa - 2147483648) / 4096) := ⟨hr, hq⟩
  rw [← hr] at hm
  rw [← hq] at hd
  clear hr hq
  by_cases b : r = 0
  case neg =>
    have b' : (r != 0) = true := by simpa using b
    have hn : ¬ isF N pa := fun h => by have h3 := h.2.1; rw [← HR.out.1] at h3; exact b h3
    have HN : Hid (mvF N t pa = pa) := by show _ = _; unfold mvF; rw [if_neg hn]
    clear hn b
    go_enter Try.func29, Try.ntmps29
    go_wp2
    go_ret
    exact ⟨by rw [HN.out]; rfl, rfl⟩
  have b' : (r != 0) = false := by simpa using b
  have HB0 : Hid (r = 0) := b
  clear b
  by_cases c : (N : Int) ≤ q
  · have hn : ¬ isF N pa := fun h => by have h3 := h.2.2; rw [← HR.out.2] at h3; omega
    have HN : Hid (mvF N t pa = pa) := by show _ = _; unfold mvF; rw [if_neg hn]
    have c' : ¬ q < (N : Int) := by omega
    clear hn
    go_enter Try.func29, Try.ntmps29
    go_wp2
    go_ret
    exact ⟨by rw [HN.out]; rfl, rfl⟩
  · have hi2 : isF N pa := ⟨by omega, by rw [← HR.out.1]; exact HB0.out, by rw [← HR.out.2]; omega⟩
    obtain ⟨m, hmm⟩ : ∃ m, m = (q + t) % (N : Int) := ⟨_, rfl⟩
    have m0 : 0 ≤ m := by rw [hmm]; exact Int.emod_nonneg _ (by omega)
    have m1 : m < N := by rw [hmm]; exact Int.emod_lt_of_pos _ (by omega)
    have HN : Hid (mvF N t pa = 2147483648 + 4096 * m) := by
      show _ = _
      unfold mvF
      rw [if_pos hi2, hmm]
      have : frN pa = q := HR.out.2.symm
      rw [this]
    have x1 : IntKind.i64.wrap (q + (t : Int)) = q + t := by rw [IntKind.wrap_i64]; omega
    have x2 : (q + (t : Int)).tmod N = m := by rw [Int.tmod_eq_emod_of_nonneg (by omega), hmm]
    have x3 : IntKind.i64.wrap (4096 * m) = 4096 * m := by rw [IntKind.wrap_i64]; omega
    have x4 : IntKind.i64.wrap (2147483648 + 4096 * m) = 2147483648 + 4096 * m := by rw [IntKind.wrap_i64]; omega
    have x5 : IntKind.u64.wrap (2147483648 + 4096 * m) = 2147483648 + 4096 * m := by rw [IntKind.wrap_u64]; omega
    have x6 : ((N : Int) == 0) = false := by simp; omega
    have x7 : IntKind.i64.wrap m = m := by rw [IntKind.wrap_i64]; omega
    have c' : q < (N : Int) := by omega
    clear hi2 hmm
    go_enter Try.func29, Try.ntmps29
    go_wp2
    go_ret
    exact ⟨by rw [HN.out]; rfl, rfl⟩
theorem Sl.ofC {w : World} {base : Nat} {v : Value} {l : List Ow} (h : w.ownsRow base 117 3 v l.length ((l.map owL).flatten)) : Sl w w.heap.size 3 (fun x cs => cs = owL x) v l :=
  Sl.ofOwn (C := l.map owL) h rfl (by intro c hc; obtain ⟨x, _, rfl⟩ := List.mem_map.1 hc; rfl) rfl (by simp) (by
    intro i x cs h1 h2
    rw [List.getElem?_map, h1] at h2
    simp only [Option.map_some, Option.some.injEq] at h2
    exact h2.symm)
theorem neq117 (x : Ow) (w : World) : (binOp .neq 117 (.agg (owL x).toArray) (.agg (owL x).toArray)).run Try.prog w = .ok (.bool false) w := by
  have := eqv_neq (eq_117 9997 x.1 x.2.1 x.2.2 x.1 x.2.1 x.2.2) w
  rw [show ((x.1 == x.1) && ((x.2.1 == x.2.1) && ((x.2.2 == x.2.2) && true))) = true by simp] at this
  exact this
set_option maxRecDepth 100000 in
set_option maxHeartbeats 1000000 in
theorem sameC_any {w : World} {X Y : Nat} {u v : Value} {l : List Ow} (h1 : Sl w X 3 (fun x cs => cs = owL x) u l) (h2 : Sl w Y 3 (fun x cs => cs = owL x) v l) (hl : l.length ≤ 1048576) : Calls Try.prog 30 #[u, v] w fun e w' => e = .returned (.bool true) ∧ Below w.heap.size w w' := by
  obtain ⟨p, c, rfl⟩ := h1.form
  obtain ⟨p', c', rfl⟩ := h2.form
  obtain ⟨n, hn⟩ : ∃ n, n = l.length := ⟨_, rfl⟩
  rw [← hn] at h1 h2 hl ⊢
  have HS : Hid (Sl w X 3 (fun x cs => cs = owL x) (.slice p n c) l ∧ Sl w Y 3 (fun x cs => cs = owL x) (.slice p' n c') l) := ⟨h1, h2⟩
  clear h1 h2 hn
  go_enter Try.func30, Try.ntmps30
  go_wp2
  go_loopw [5] (fun k wr => ∃ i : Nat, i ≤ n ∧ k = .int .i64 i ∧ Hid (wr.heap = w.heap ∧ wr.os = w.os ∧ wr.tape = w.tape ∧ wr.output = w.output)) (fun v _ => (n - intOf v).toNat)
  case atStart => exact ⟨0, by omega, rfl, rfl, rfl, rfl, rfl⟩
  case round =>
    obtain ⟨i, hi, rfl, HB⟩ := hrel
    have HBB : Hid (Below w.heap.size w wr) := ⟨HB.out.2.1, HB.out.2.2.1, HB.out.2.2.2, by rw [HB.out.1]; exact Nat.le_refl _, fun k _ => by rw [HB.out.1]⟩
    by_cases hin : i < n
    · as_aux_lemma =>
        have i1 : (i : Int) < n := by omega
        obtain ⟨-, b, o, x, cs, rfl, hbX, hx, rfl, hcl, hr⟩ := HS.out.1.at hin
        obtain ⟨-, b', o', x', cs', rfl, hbX', hx', rfl, hcl', hr'⟩ := HS.out.2.at hin
        obtain rfl : x = x' := by rw [hx] at hx'; injection hx'
        have heq : ∀ (b o : Nat) (cs : List Value), w.rangeAt b o cs → wr.drew.rangeAt b o cs := fun b o cs h j v hj => by
          have := h j v hj
          unfold World.cell? at this ⊢
          rw [show wr.drew.heap = w.heap from HB.out.1]
          exact this
        have hS : (fun V : World => V.rangeAt b (o + i * 3) (owL x) ∧ V.rangeAt b' (o' + i * 3) (owL x)) wr.drew := ⟨heq _ _ _ hr, heq _ _ _ hr'⟩
        have q117 := neq117 x
        have HBd : Hid (wr.drew.heap = w.heap ∧ wr.drew.os = w.os ∧ wr.drew.tape = w.tape ∧ wr.drew.output = w.output) := HB.out
        clear hr hr' hcl hcl' hbX hbX' hx hx' heq
        go_upto_region 6 with fail
        refine region_set (fun V => V.rangeAt b (o + i * 3) (owL x) ∧ V.rangeAt b' (o' + i * 3) (owL x)) 8 [] (by kernel_rfl) ?_
        refine set_take (i := 0) (v := .slice (some ⟨b, o, .none⟩) n c) rfl (by kernel_rfl) (by kernel_rfl) (by kernel_rfl) (by kernel_rfl) (fun _ _ _ h => h) (Or.inl ⟨by rfl, fun ww hSw => by obtain ⟨q1, q2⟩ := hSw; go_simp⟩) hS ?_
        simp only [Act.put, List.setIfInBounds_toArray, List.set_cons_zero, List.set_cons_succ, List.getElem_toArray, List.getElem_cons_succ, List.getElem_cons_zero]
        refine set_take (i := 1) (v := .int .i64 i) rfl (by kernel_rfl) (by kernel_rfl) (by kernel_rfl) (by kernel_rfl) (fun _ _ _ h => h) (Or.inl ⟨by rfl, fun ww hSw => by obtain ⟨q1, q2⟩ := hSw; go_simp⟩) hS ?_
        simp only [Act.put, List.setIfInBounds_toArray, List.set_cons_zero, List.set_cons_succ, List.getElem_toArray, List.getElem_cons_succ, List.getElem_cons_zero]
        refine set_take (i := 2) (v := .pointer (some ⟨b, o + i * 3, .none⟩)) rfl (by kernel_rfl) (by kernel_rfl) (by kernel_rfl) (by kernel_rfl) (fun _ _ _ h => h) (Or.inl ⟨by rfl, fun ww hSw => by obtain ⟨q1, q2⟩ := hSw; go_simp⟩) hS ?_
        simp only [Act.put, List.setIfInBounds_toArray, List.set_cons_zero, List.set_cons_succ, List.getElem_toArray, List.getElem_cons_succ, List.getElem_cons_zero]
        refine set_take (i := 3) (v := .agg (owL x).toArray) rfl (by kernel_rfl) (by kernel_rfl) (by kernel_rfl) (by kernel_rfl) (fun _ _ _ h => h) (yieldsIf_load_mid (by rfl) 117 (.tmp 19) rfl (b) (o + i * 3) rfl (owL x) _ (fun ww hSw => hSw.1) Try.underlying117 rfl (by first | kernel_rfl | (rw [rfl]; kernel_rfl))) hS ?_
        simp only [Act.put, List.setIfInBounds_toArray, List.set_cons_zero, List.set_cons_succ, List.getElem_toArray, List.getElem_cons_succ, List.getElem_cons_zero]
        refine set_take (i := 4) (v := .slice (some ⟨b', o', .none⟩) n c') rfl (by kernel_rfl) (by kernel_rfl) (by kernel_rfl) (by kernel_rfl) (fun _ _ _ h => h) (Or.inl ⟨by rfl, fun ww hSw => by obtain ⟨q1, q2⟩ := hSw; go_simp⟩) hS ?_
        simp only [Act.put, List.setIfInBounds_toArray, List.set_cons_zero, List.set_cons_succ, List.getElem_toArray, List.getElem_cons_succ, List.getElem_cons_zero]
        refine set_take (i := 5) (v := .int .i64 i) rfl (by kernel_rfl) (by kernel_rfl) (by kernel_rfl) (by kernel_rfl) (fun _ _ _ h => h) (Or.inl ⟨by rfl, fun ww hSw => by obtain ⟨q1, q2⟩ := hSw; go_simp⟩) hS ?_
        simp only [Act.put, List.setIfInBounds_toArray, List.set_cons_zero, List.set_cons_succ, List.getElem_toArray, List.getElem_cons_succ, List.getElem_cons_zero]
        refine set_take (i := 6) (v := .pointer (some ⟨b', o' + i * 3, .none⟩)) rfl (by kernel_rfl) (by kernel_rfl) (by kernel_rfl) (by kernel_rfl) (fun _ _ _ h => h) (Or.inl ⟨by rfl, fun ww hSw => by obtain ⟨q1, q2⟩ := hSw; go_simp⟩) hS ?_
        simp only [Act.put, List.setIfInBounds_toArray, List.set_cons_zero, List.set_cons_succ, List.getElem_toArray, List.getElem_cons_succ, List.getElem_cons_zero]
        refine set_take (i := 7) (v := .agg (owL x).toArray) rfl (by kernel_rfl) (by kernel_rfl) (by kernel_rfl) (by kernel_rfl) (fun _ _ _ h => h) (yieldsIf_load_mid (by rfl) 117 (.tmp 23) rfl (b') (o' + i * 3) rfl (owL x) _ (fun ww hSw => hSw.2) Try.underlying117 rfl (by first | kernel_rfl | (rw [rfl]; kernel_rfl))) hS ?_
        simp only [Act.put, List.setIfInBounds_toArray, List.set_cons_zero, List.set_cons_succ, List.getElem_toArray, List.getElem_cons_succ, List.getElem_cons_zero]
        refine set_tail 1 8 _ _ _ _ (by kernel_rfl) (by decide) ?_
        simp only [List.toList_toArray, List.drop_succ_cons, List.drop_zero]
        clear hS
        go_wp2
        exact ⟨⟨i + 1, by omega, by go_num, HBd.out⟩, by simp [intOf]; omega⟩
    · have i1 : ¬ (i : Int) < n := by omega
      go_wp2
      go_ret
      exact ⟨rfl, HBB.out⟩
/-! The twin that is written over. -/
theorem flat_set1 {sz : Nat} (u : Value) : ∀ (C : List (List Value)), (∀ c ∈ C, c.length = sz) → ∀ (i j : Nat) (c : List Value), C[i]? = some c → j < sz → C.flatten.set (i * sz + j) u = (C.set i (c.set j u)).flatten
  | [], _, i, j, c, h, _ => by simp at h
  | d :: C, hC, 0, j, c, h, hj => by
    simp only [List.getElem?_cons_zero, Option.some.injEq] at h
    subst h
    rw [List.flatten_cons, Nat.zero_mul, Nat.zero_add, List.set_cons_zero, List.flatten_cons, List.set_append_left _ _ (by rw [hC d (by simp)]; exact hj)]
  | d :: C, hC, i + 1, j, c, h, hj => by
    simp only [List.getElem?_cons_succ] at h
    have hd : d.length = sz := hC d (by simp)
    rw [List.flatten_cons, List.set_cons_succ, List.flatten_cons, List.set_append_right _ _ (by rw [hd, Nat.add_mul]; omega), hd, show (i + 1) * sz + j - sz = i * sz + j by rw [Nat.add_mul]; omega, flat_set1 u C (fun c hc => hC c (by simp [hc])) i j c h hj]
theorem map_set' {α β : Type} (f : α → β) (l : List α) (i : Nat) (a : α) : (l.set i a).map f = (l.map f).set i (f a) := by
  rw [List.map_set]
theorem set_same {α : Type} (l : List α) (i : Nat) (a : α) (h : l[i]? = some a) : l.set i a = l := by
  apply List.ext_getElem?
  intro j
  rw [List.getElem?_set]
  split
  · rename_i e
    subst e
    split
    · exact h.symm
    · rename_i hl
      have := (List.getElem?_eq_some_iff.1 h).1
      omega
  · rfl
def Mw (w : World) (base mb : Nat) (tr : Int) (E : List PE) (EI : List IE) (EQ : List QE) (L : Lk) (pv fv iv qv rv lv : Value) : Prop :=
  Owns w base (bx 33 10 mb (lkL tr pv fv iv qv rv lv L.ticks L.next L.free) :: ([rowP E pv, rowF L.files fv, rowI EI iv, rowQ EQ qv, rowB L.ready rv, rowB L.line lv] ++ (rowsP E ++ rowsI EI ++ rowsQ EQ)))
section
variable {w : World} {base mb : Nat} {tr : Int} {E : List PE} {EI : List IE} {EQ : List QE} {L : Lk} {pv fv iv qv rv lv : Value}
theorem Mw.drew (h : Mw w base mb tr E EI EQ L pv fv iv qv rv lv) : Mw w.drew base mb tr E EI EQ L pv fv iv qv rv lv := Owns.keep h (Below.refl _ _).drew
theorem Mw.keep {w' : World} (h : Mw w base mb tr E EI EQ L pv fv iv qv rv lv) (hb : Below w.heap.size w w') : Mw w' base mb tr E EI EQ L pv fv iv qv rv lv := Owns.keep h hb
/-- The variable itself. -/
theorem Mw.var (h : Mw w base mb tr E EI EQ L pv fv iv qv rv lv) (j : Nat) (v : Value) (hj : (lkL tr pv fv iv qv rv lv L.ticks L.next L.free)[j]? = some v) : w.cell? ⟨mb, j, .none⟩ = some v ∧ w.frozen? ⟨mb, j, .none⟩ = false := by
  have := Owns.cell h (t := 33) (k := 10) (b := mb) (List.mem_cons_self ..) j
  rw [hj] at this
  exact this
theorem Mw.setTr (h : Mw w base mb tr E EI EQ L pv fv iv qv rv lv) (x : Int) : Mw (w.setCell ⟨mb, 0, .none⟩ (.int .u64 x)) base mb x E EI EQ L pv fv iv qv rv lv :=
  Owns.setAt (A := []) (j := 0) h (.int .u64 x) rfl rfl (by show 0 < 10; omega)
theorem row_cell {R : List Row} {r : Row} (h : Owns w base R) (hr : r ∈ R) {g n c : Nat} (hv : r.v = .slice (some ⟨g, 0, .none⟩) n c) {j : Nat} {u : Value} (hj : r.xs[j]? = some u) : w.cell? ⟨g, j, .none⟩ = some u ∧ w.frozen? ⟨g, j, .none⟩ = false := by
  have ho := h.own r hr
  rw [hv] at ho
  refine ⟨?_, ?_⟩
  · have := ho.cells (g := g) rfl j u hj
    rw [Addr.add_mid] at this
    simpa using this
  · rcases ho.2 with ⟨h0, _⟩ | ⟨g', cap, cur, hv', _, hg, _⟩
    · cases h0
    · injection hv' with e1 e2 e3
      injection e1 with e1
      injection e1 with e1
      subst e1
      exact frozen_heap hg
theorem pe_len (E : List PE) : ∀ c ∈ E.map PE.l, c.length = 70 := by
  intro c hc
  obtain ⟨e, _, rfl⟩ := List.mem_map.1 hc
  rfl
theorem ie_len (E : List IE) : ∀ c ∈ E.map IE.l, c.length = 8 := by
  intro c hc
  obtain ⟨e, _, rfl⟩ := List.mem_map.1 hc
  rfl
/-- A process's own cells. -/
theorem Mw.pcell (h : Mw w base mb tr E EI EQ L pv fv iv qv rv lv) {g n c i : Nat} (hv : pv = .slice (some ⟨g, 0, .none⟩) n c) {e : PE} (hi : E[i]? = some e) (j : Nat) (u : Value) (hj : e.l[j]? = some u) : w.cell? ⟨g, i * 70 + j, .none⟩ = some u ∧ w.frozen? ⟨g, i * 70 + j, .none⟩ = false :=
  row_cell h (r := rowP E pv) (by simp) hv (flat_get (pe_len E) i e.l (by rw [List.getElem?_map, hi]; rfl) j u hj)
theorem rowsP_split {i : Nat} {e : PE} (hi : E[i]? = some e) (e' : PE) : rowsP E = rowsP (E.take i) ++ (rowN e.1.nodes e.2.1 :: rowG e.1.pages e.2.2 :: rowsP (E.drop (i + 1))) ∧ rowsP (E.set i e') = rowsP (E.take i) ++ (rowN e'.1.nodes e'.2.1 :: rowG e'.1.pages e'.2.2 :: rowsP (E.drop (i + 1))) := by
  obtain ⟨hl, he⟩ := List.getElem?_eq_some_iff.1 hi
  have s1 : E = E.take i ++ e :: E.drop (i + 1) := by rw [← he, ← List.drop_eq_getElem_cons hl, List.take_append_drop]
  constructor
  · conv => lhs; rw [s1]
    unfold rowsP
    rw [List.flatMap_append, List.flatMap_cons]
    rfl
  · have s2 : E.set i e' = E.take i ++ e' :: E.drop (i + 1) := by
      rw [List.set_eq_take_append_cons_drop, if_pos hl]
    rw [s2]
    unfold rowsP
    rw [List.flatMap_append, List.flatMap_cons]
    rfl
theorem Mw.setP (h : Mw w base mb tr E EI EQ L pv fv iv qv rv lv) {g n c i j : Nat} (hv : pv = .slice (some ⟨g, 0, .none⟩) n c) (hn : E.length = n) {e e' : PE} (hi : E[i]? = some e) (u : Value) (hj : j < 70) (hl : e'.l = e.l.set j u) (h1 : e'.1.nodes = e.1.nodes) (h2 : e'.1.pages = e.1.pages) (h3 : e'.2 = e.2) : Mw (w.setCell ⟨g, i * 70 + j, .none⟩ u) base mb tr (E.set i e') EI EQ L pv fv iv qv rv lv := by
  have hil : i < E.length := (List.getElem?_eq_some_iff.1 hi).1
  have hx : (rowP E pv).xs.length = E.length * 70 := by
    show ((E.map PE.l).flatten).length = _
    rw [flat_len (pe_len E), List.length_map]
  have := Owns.setAt (A := [bx 33 10 mb (lkL tr pv fv iv qv rv lv L.ticks L.next L.free)]) (r := rowP E pv) (g := g) (j := i * 70 + j) h u hv hn (by rw [hx]; have : (i + 1) * 70 ≤ E.length * 70 := Nat.mul_le_mul_right _ hil; omega)
  have e1 : rowP (E.set i e') pv = ⟨(rowP E pv).e, (rowP E pv).sz, (rowP E pv).n, (rowP E pv).v, (rowP E pv).xs.set (i * 70 + j) u⟩ := by
    show (⟨55, 70, (E.set i e').length, pv, ((E.set i e').map PE.l).flatten⟩ : Row) = ⟨55, 70, E.length, pv, ((E.map PE.l).flatten).set (i * 70 + j) u⟩
    rw [List.length_set, flat_set1 u (E.map PE.l) (pe_len E) i j e.l (by rw [List.getElem?_map, hi]; rfl) hj, map_set', hl]
  have e2 : rowsP (E.set i e') = rowsP E := by
    rw [(rowsP_split hi e').2, (rowsP_split hi e').1, h1, h2, h3]
  unfold Mw
  rw [e1, e2]
  exact this
theorem rowsI_split {i : Nat} {e : IE} (hi : EI[i]? = some e) (e' : IE) : rowsI EI = rowsI (EI.take i) ++ (rowN e.1.bl e.2 :: rowsI (EI.drop (i + 1))) ∧ rowsI (EI.set i e') = rowsI (EI.take i) ++ (rowN e'.1.bl e'.2 :: rowsI (EI.drop (i + 1))) := by
  obtain ⟨hl, he⟩ := List.getElem?_eq_some_iff.1 hi
  have s1 : EI = EI.take i ++ e :: EI.drop (i + 1) := by rw [← he, ← List.drop_eq_getElem_cons hl, List.take_append_drop]
  constructor
  · conv => lhs; rw [s1]
    unfold rowsI
    rw [List.map_append, List.map_cons]
  · have s2 : EI.set i e' = EI.take i ++ e' :: EI.drop (i + 1) := by
      rw [List.set_eq_take_append_cons_drop, if_pos hl]
    rw [s2]
    unfold rowsI
    rw [List.map_append, List.map_cons]
theorem set_int (l : List Int) (k : Nat) (x : Int) (d : IntKind) : (l.map (Value.int d)).set k (.int d x) = (l.set k x).map (Value.int d) := (map_set' _ _ _ _).symm
/-- A process's nodes. -/
theorem Mw.ncell (h : Mw w base mb tr E EI EQ L pv fv iv qv rv lv) {g n c i : Nat} {p : Pc} {nv gv : Value} (hi : E[i]? = some (p, nv, gv)) (hv : nv = .slice (some ⟨g, 0, .none⟩) n c) (k : Nat) (x : Int) (hk : p.nodes[k]? = some x) : w.cell? ⟨g, k, .none⟩ = some (.int .u64 x) ∧ w.frozen? ⟨g, k, .none⟩ = false :=
  row_cell h (r := rowN p.nodes nv) (by rw [(rowsP_split hi (p, nv, gv)).1]; simp) hv (by show (p.nodes.map _)[k]? = _; rw [List.getElem?_map, hk]; rfl)
theorem Mw.setN (h : Mw w base mb tr E EI EQ L pv fv iv qv rv lv) {g n c i k : Nat} {p p' : Pc} {nv gv : Value} (hi : E[i]? = some (p, nv, gv)) (hv : nv = .slice (some ⟨g, 0, .none⟩) n c) (hn : p.nodes.length = n) (hk : k < n) (x : Int) (h1 : p'.nodes = p.nodes.set k x) (h2 : p'.pages = p.pages) (h3 : p'.l nv gv = p.l nv gv) : Mw (w.setCell ⟨g, k, .none⟩ (.int .u64 x)) base mb tr (E.set i (p', nv, gv)) EI EQ L pv fv iv qv rv lv := by
  obtain ⟨s1, s2⟩ := rowsP_split hi (p', nv, gv)
  have e0 : rowP (E.set i (p', nv, gv)) pv = rowP E pv := by
    show (⟨55, 70, (E.set i (p', nv, gv)).length, pv, ((E.set i (p', nv, gv)).map PE.l).flatten⟩ : Row) = ⟨55, 70, E.length, pv, (E.map PE.l).flatten⟩
    rw [List.length_set, map_set', show PE.l (p', nv, gv) = PE.l (p, nv, gv) from h3, set_same]
    rw [List.getElem?_map, hi]
    rfl
  unfold Mw at *
  rw [s1] at h
  rw [s2, e0]
  have := Owns.setAt (A := bx 33 10 mb (lkL tr pv fv iv qv rv lv L.ticks L.next L.free) :: ([rowP E pv, rowF L.files fv, rowI EI iv, rowQ EQ qv, rowB L.ready rv, rowB L.line lv] ++ rowsP (E.take i))) (r := rowN p.nodes nv) (B := rowG p.pages gv :: rowsP (E.drop (i + 1)) ++ rowsI EI ++ rowsQ EQ) (g := g) (j := k) (by simpa using h) (.int .u64 x) hv hn (by show k < (p.nodes.map _).length; rw [List.length_map]; omega)
  have e1 : rowN p'.nodes nv = ⟨(rowN p.nodes nv).e, (rowN p.nodes nv).sz, (rowN p.nodes nv).n, (rowN p.nodes nv).v, (rowN p.nodes nv).xs.set k (.int .u64 x)⟩ := by
    show (⟨24, 1, p'.nodes.length, nv, p'.nodes.map (.int .u64)⟩ : Row) = ⟨24, 1, p.nodes.length, nv, (p.nodes.map (.int .u64)).set k (.int .u64 x)⟩
    rw [h1, List.length_set, set_int]
  rw [e1, h2]
  simpa using this
/-- A process's pages. -/
theorem Mw.gcell (h : Mw w base mb tr E EI EQ L pv fv iv qv rv lv) {g n c i : Nat} {p : Pc} {nv gv : Value} (hi : E[i]? = some (p, nv, gv)) (hv : gv = .slice (some ⟨g, 0, .none⟩) n c) (k : Nat) (x : Pg) (hk : p.pages[k]? = some x) : w.cell? ⟨g, k * 3 + 1, .none⟩ = some (.int .u64 x.fr) ∧ w.frozen? ⟨g, k * 3 + 1, .none⟩ = false :=
  row_cell h (r := rowG p.pages gv) (by rw [(rowsP_split hi (p, nv, gv)).1]; simp) hv (flat_get (C := p.pages.map Pg.l) (fun c hc => by obtain ⟨y, _, rfl⟩ := List.mem_map.1 hc; rfl) k x.l (by rw [List.getElem?_map, hk]; rfl) 1 _ rfl)
theorem Mw.setG (h : Mw w base mb tr E EI EQ L pv fv iv qv rv lv) {g n c i k : Nat} {p p' : Pc} {nv gv : Value} (hi : E[i]? = some (p, nv, gv)) (hv : gv = .slice (some ⟨g, 0, .none⟩) n c) (hn : p.pages.length = n) (y : Pg) (hk : p.pages[k]? = some y) (x : Int) (h1 : p'.pages = p.pages.set k ⟨y.no, x, y.pm⟩) (h2 : p'.nodes = p.nodes) (h3 : p'.l nv gv = p.l nv gv) : Mw (w.setCell ⟨g, k * 3 + 1, .none⟩ (.int .u64 x)) base mb tr (E.set i (p', nv, gv)) EI EQ L pv fv iv qv rv lv := by
  obtain ⟨s1, s2⟩ := rowsP_split hi (p', nv, gv)
  have hkl : k < p.pages.length := (List.getElem?_eq_some_iff.1 hk).1
  have e0 : rowP (E.set i (p', nv, gv)) pv = rowP E pv := by
    show (⟨55, 70, (E.set i (p', nv, gv)).length, pv, ((E.set i (p', nv, gv)).map PE.l).flatten⟩ : Row) = ⟨55, 70, E.length, pv, (E.map PE.l).flatten⟩
    rw [List.length_set, map_set', show PE.l (p', nv, gv) = PE.l (p, nv, gv) from h3, set_same]
    rw [List.getElem?_map, hi]
    rfl
  have hpl : ∀ c ∈ p.pages.map Pg.l, c.length = 3 := fun c hc => by obtain ⟨y, _, rfl⟩ := List.mem_map.1 hc; rfl
  unfold Mw at *
  rw [s1] at h
  rw [s2, e0]
  have := Owns.setAt (A := bx 33 10 mb (lkL tr pv fv iv qv rv lv L.ticks L.next L.free) :: ([rowP E pv, rowF L.files fv, rowI EI iv, rowQ EQ qv, rowB L.ready rv, rowB L.line lv] ++ (rowsP (E.take i) ++ [rowN p.nodes nv]))) (r := rowG p.pages gv) (B := rowsP (E.drop (i + 1)) ++ rowsI EI ++ rowsQ EQ) (g := g) (j := k * 3 + 1) (by simpa using h) (.int .u64 x) hv hn (by show k * 3 + 1 < ((p.pages.map Pg.l).flatten).length; rw [flat_len hpl, List.length_map]; have : (k + 1) * 3 ≤ p.pages.length * 3 := Nat.mul_le_mul_right _ hkl; omega)
  have e1 : rowG p'.pages gv = ⟨(rowG p.pages gv).e, (rowG p.pages gv).sz, (rowG p.pages gv).n, (rowG p.pages gv).v, (rowG p.pages gv).xs.set (k * 3 + 1) (.int .u64 x)⟩ := by
    show (⟨81, 3, p'.pages.length, gv, (p'.pages.map Pg.l).flatten⟩ : Row) = ⟨81, 3, p.pages.length, gv, ((p.pages.map Pg.l).flatten).set (k * 3 + 1) (.int .u64 x)⟩
    rw [h1, List.length_set, flat_set1 _ (p.pages.map Pg.l) hpl k 1 y.l (by rw [List.getElem?_map, hk]; rfl) (by decide), map_set']
    rfl
  rw [e1, h2]
  simpa using this
/-- An inode's blocks. -/
theorem Mw.icell (h : Mw w base mb tr E EI EQ L pv fv iv qv rv lv) {g n c i : Nat} (hv : iv = .slice (some ⟨g, 0, .none⟩) n c) {e : IE} (hi : EI[i]? = some e) (j : Nat) (u : Value) (hj : e.l[j]? = some u) : w.cell? ⟨g, i * 8 + j, .none⟩ = some u ∧ w.frozen? ⟨g, i * 8 + j, .none⟩ = false :=
  row_cell h (r := rowI EI iv) (by simp) hv (flat_get (ie_len EI) i e.l (by rw [List.getElem?_map, hi]; rfl) j u hj)
theorem Mw.bcell (h : Mw w base mb tr E EI EQ L pv fv iv qv rv lv) {g n c i : Nat} {p : In} {bv : Value} (hi : EI[i]? = some (p, bv)) (hv : bv = .slice (some ⟨g, 0, .none⟩) n c) (k : Nat) (x : Int) (hk : p.bl[k]? = some x) : w.cell? ⟨g, k, .none⟩ = some (.int .u64 x) ∧ w.frozen? ⟨g, k, .none⟩ = false :=
  row_cell h (r := rowN p.bl bv) (by rw [(rowsI_split hi (p, bv)).1]; simp) hv (by show (p.bl.map _)[k]? = _; rw [List.getElem?_map, hk]; rfl)
theorem Mw.setB (h : Mw w base mb tr E EI EQ L pv fv iv qv rv lv) {g n c i k : Nat} {p p' : In} {bv : Value} (hi : EI[i]? = some (p, bv)) (hv : bv = .slice (some ⟨g, 0, .none⟩) n c) (hn : p.bl.length = n) (hk : k < n) (x : Int) (h1 : p'.bl = p.bl.set k x) (h3 : p'.l bv = p.l bv) : Mw (w.setCell ⟨g, k, .none⟩ (.int .u64 x)) base mb tr E (EI.set i (p', bv)) EQ L pv fv iv qv rv lv := by
  obtain ⟨s1, s2⟩ := rowsI_split hi (p', bv)
  have e0 : rowI (EI.set i (p', bv)) iv = rowI EI iv := by
    show (⟨66, 8, (EI.set i (p', bv)).length, iv, ((EI.set i (p', bv)).map IE.l).flatten⟩ : Row) = ⟨66, 8, EI.length, iv, (EI.map IE.l).flatten⟩
    rw [List.length_set, map_set', show IE.l (p', bv) = IE.l (p, bv) from h3, set_same]
    rw [List.getElem?_map, hi]
    rfl
  unfold Mw at *
  rw [s1] at h
  rw [s2, e0]
  have := Owns.setAt (A := bx 33 10 mb (lkL tr pv fv iv qv rv lv L.ticks L.next L.free) :: ([rowP E pv, rowF L.files fv, rowI EI iv, rowQ EQ qv, rowB L.ready rv, rowB L.line lv] ++ (rowsP E ++ rowsI (EI.take i)))) (r := rowN p.bl bv) (B := rowsI (EI.drop (i + 1)) ++ rowsQ EQ) (g := g) (j := k) (by simpa using h) (.int .u64 x) hv hn (by show k < (p.bl.map _).length; rw [List.length_map]; omega)
  have e1 : rowN p'.bl bv = ⟨(rowN p.bl bv).e, (rowN p.bl bv).sz, (rowN p.bl bv).n, (rowN p.bl bv).v, (rowN p.bl bv).xs.set k (.int .u64 x)⟩ := by
    show (⟨24, 1, p'.bl.length, bv, p'.bl.map (.int .u64)⟩ : Row) = ⟨24, 1, p.bl.length, bv, (p.bl.map (.int .u64)).set k (.int .u64 x)⟩
    rw [h1, List.length_set, set_int]
  rw [e1]
  simpa using this
end
theorem allB_refl {α : Type} (f : α → α → Bool) (h : ∀ x, f x x = true) : ∀ l : List α, allB f l l = true
  | [] => rfl
  | x :: l => by simp only [allB]; rw [h, allB_refl f h l]; rfl
theorem cmF_refl (x : Fi) : cmF x x = true := by simp [cmF]
theorem cmB_refl (x : Int) : cmB x x = true := by simp [cmB]
theorem cmQ_refl (x : Pp) : cmQ x x = true := by
  unfold cmQ plQ
  rw [allB_refl cmB cmB_refl]
  simp
/-! A look and its moved one are alike. -/
theorem allB_map {α : Type} (f : α → α → Bool) (g : α → α) (h : ∀ x, f (g x) x = true) : ∀ l : List α, allB f (l.map g) l = true
  | [] => rfl
  | x :: l => by
    show (f (g x) x && allB f (l.map g) l) = true
    rw [h, allB_map f g h l]
    rfl
theorem cmP_mv (N t : Nat) (p : Pc) : cmP (mvPc N t p) p = true := by
  have h : ∀ i, i ≠ 42 → i ≠ 43 → (mvPc N t p).c i = p.c i := fun i => mv_c N t p i
  have r : (List.range 32).all (fun i => (mvPc N t p).c (8 + i) == p.c (8 + i)) = true := by
    rw [List.all_eq_true]
    intro i hi
    have := List.mem_range.1 hi
    rw [h _ (by omega) (by omega)]
    simp
  have f : (List.range 16).all (fun i => (mvPc N t p).c (46 + i) == p.c (46 + i)) = true := by
    rw [List.all_eq_true]
    intro i hi
    rw [h _ (by omega) (by omega)]
    simp
  have q : (List.range 3).all (fun i => (mvPc N t p).c (65 + i) == p.c (65 + i)) = true := by
    rw [List.all_eq_true]
    intro i hi
    rw [h _ (by omega) (by omega)]
    simp
  have g : allB pgB (mvPc N t p).pages p.pages = true := allB_map pgB _ (fun x => by simp [pgB]) p.pages
  have n : (mvPc N t p).nodes.length = p.nodes.length := List.length_map ..
  unfold cmP plP pcB1 chB rgB fdB peB
  rw [g, r, f, q, n, h 0 (by decide) (by decide), h 1 (by decide) (by decide), h 2 (by decide) (by decide), h 3 (by decide) (by decide), h 4 (by decide) (by decide), h 5 (by decide) (by decide), h 7 (by decide) (by decide), h 40 (by decide) (by decide), h 41 (by decide) (by decide), h 62 (by decide) (by decide), h 64 (by decide) (by decide), h 68 (by decide) (by decide), h 69 (by decide) (by decide)]
  simp [mvPc]
theorem alk_mv (N t : Nat) (L : Lk) : alk (mvLk N t L) L = true := by
  have h1 : allB cmP (mvLk N t L).procs L.procs = true := allB_map cmP _ (cmP_mv N t) L.procs
  have h2 : allB cmI (mvLk N t L).inos L.inos = true := allB_map cmI _ (fun x => by simp [cmI, mvIn]) L.inos
  have h3 : allB cmF (mvLk N t L).files L.files = true := allB_refl cmF cmF_refl L.files
  have h4 : allB cmQ (mvLk N t L).pipes L.pipes = true := allB_refl cmQ cmQ_refl L.pipes
  have h5 : allB cmB (mvLk N t L).ready L.ready = true := allB_refl cmB cmB_refl L.ready
  have h6 : allB cmB (mvLk N t L).line L.line = true := allB_refl cmB cmB_refl L.line
  unfold alk
  rw [h1, h2, h3, h4, h5, h6]
  simp [mvLk]
end Go.Proofs.Ythopgmmodldljaa
