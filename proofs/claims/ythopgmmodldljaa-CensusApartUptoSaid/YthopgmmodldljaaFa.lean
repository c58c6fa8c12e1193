import Derived.Test.YthopgmmodldljaaEu
namespace Go.Proofs.Ythopgmmodldljaa
open Go Go.RowKit
set_option linter.unusedVariables false
set_option linter.unusedSimpArgs false
/-! Times are places; with nothing wrong each frame is in one class. -/
def sumI : List Int → Int
  | [] => 0
  | x :: l => x + sumI l
theorem sumI_app (l m : List Int) : sumI (l ++ m) = sumI l + sumI m := by
  induction l with
  | nil => simp [sumI]
  | cons x l ih => simp only [List.cons_append, sumI, ih]; omega
theorem sumI_ext {α : Type} {f g : α → Int} : ∀ {l : List α}, (∀ x ∈ l, f x = g x) → sumI (l.map f) = sumI (l.map g)
  | [], _ => rfl
  | x :: l, h => by
    simp only [List.map_cons, sumI]
    rw [h x (by simp), sumI_ext (fun y hy => h y (by simp [hy]))]
theorem sumI_add {α : Type} (f g : α → Int) : ∀ l : List α, sumI (l.map fun x => f x + g x) = sumI (l.map f) + sumI (l.map g)
  | [] => rfl
  | x :: l => by
    simp only [List.map_cons, sumI]
    rw [sumI_add f g l]
    omega
theorem sumI_zero {α : Type} : ∀ l : List α, sumI (l.map fun _ => (0 : Int)) = 0
  | [] => rfl
  | x :: l => by
    simp only [List.map_cons, sumI]
    rw [sumI_zero l]
    omega
def b2i (b : Bool) : Int := if b then 1 else 0
def cn (p : Nm → Bool) (A : List Nm) : Int := sumI (A.map fun x => b2i (p x))
theorem cn_cons (p : Nm → Bool) (x : Nm) (A : List Nm) : cn p (x :: A) = b2i (p x) + cn p A := rfl
theorem cn_app (p : Nm → Bool) (A B : List Nm) : cn p (A ++ B) = cn p A + cn p B := by unfold cn; rw [List.map_append, sumI_app]
theorem cn_nonneg (p : Nm → Bool) : ∀ A : List Nm, 0 ≤ cn p A
  | [] => by simp [cn, sumI]
  | x :: A => by
    rw [cn_cons]
    have := cn_nonneg p A
    unfold b2i
    split <;> omega
theorem cn_ext {p q : Nm → Bool} {A : List Nm} (h : ∀ x ∈ A, p x = q x) : cn p A = cn q A := sumI_ext (fun x hx => by rw [h x hx])
theorem cn_filter (p : Nm → Bool) : ∀ A : List Nm, ((A.filter p).length : Int) = cn p A
  | [] => rfl
  | x :: A => by
    rw [cn_cons, ← cn_filter p A, List.filter_cons]
    unfold b2i
    split
    · rw [List.length_cons]; omega
    · omega
theorem cn_true (A : List Nm) : cn (fun _ => true) A = A.length := by
  have := cn_filter (fun _ => true) A
  rw [← this, List.filter_eq_self.2 (fun _ _ => rfl)]
theorem cn_pos {p : Nm → Bool} {A : List Nm} {x : Nm} (hx : x ∈ A) (hp : p x = true) : 1 ≤ cn p A := by
  rw [← cn_filter]
  have := List.length_pos_of_mem (List.mem_filter.2 ⟨hx, hp⟩)
  omega
/-- The places of one address sum up over the addresses. -/
theorem one_frame (N : Nat) (x : Nm) (p : Nm → Bool) : sumI ((List.range N).map fun k => b2i ((x.1 == frA k) && p x)) = b2i (decide (isF N x.1) && p x) := by
  induction N with
  | zero =>
    have : ¬ isF ((0 : Nat) : Int) x.1 := by unfold isF; omega
    rw [decide_eq_false this]
    rfl
  | succ N ih =>
    rw [List.range_succ, List.map_append, sumI_app, ih]
    simp only [List.map_cons, List.map_nil, sumI]
    by_cases e : x.1 = frA N
    · have h1 : isF ((N + 1 : Nat) : Int) x.1 := by rw [e]; exact isF_frA (by omega)
      have h2 : ¬ isF (N : Int) x.1 := by rw [e]; unfold isF frA; omega
      rw [decide_eq_true h1, decide_eq_false h2]
      simp [e, b2i]
    · have h3 : isF ((N + 1 : Nat) : Int) x.1 ↔ isF (N : Int) x.1 := by
        unfold isF frA at *
        omega
      have e' : (x.1 == frA N) = false := by simpa using e
      rw [e', show decide (isF ((N + 1 : Nat) : Int) x.1) = decide (isF (N : Int) x.1) from decide_eq_decide.2 h3]
      simp [b2i]
theorem sum_swap (N : Nat) (p : Nm → Bool) : ∀ A : List Nm, sumI ((List.range N).map fun k => cn (fun x => (x.1 == frA k) && p x) A) = cn (fun x => decide (isF N x.1) && p x) A
  | [] => by
    show sumI ((List.range N).map fun _ => (0 : Int)) = 0
    exact sumI_zero _
  | x :: A => by
    have h := sum_swap N p A
    rw [cn_cons, ← h, ← one_frame N x p, ← sumI_add]
    rfl
theorem ow_times (A : List Nm) (a : Int) : ((owF A a).getD (0, 0, 0)).2.2 = cn (fun x => x.1 == a) A := by
  unfold owF
  cases hf : A.find? (fun x => x.1 == a) with
  | none =>
    have h0 : A.filter (fun y => y.1 == a) = [] := by
      rw [List.filter_eq_nil_iff]
      exact fun y hy => by simpa using List.find?_eq_none.1 hf y hy
    rw [← cn_filter, h0]
    rfl
  | some x => exact cn_filter _ _
theorem ow_class {A : List Nm} {a : Int} (h1 : cn (fun x => x.1 == a) A = 1) (c : Int) : b2i (((owF A a).getD (0, 0, 0)).1 == c) = cn (fun x => (x.1 == a) && (x.2.1 == c)) A := by
  unfold owF
  cases hf : A.find? (fun x => x.1 == a) with
  | none =>
    have h0 : A.filter (fun y => y.1 == a) = [] := by
      rw [List.filter_eq_nil_iff]
      exact fun y hy => by simpa using List.find?_eq_none.1 hf y hy
    rw [← cn_filter, h0] at h1
    cases h1
  | some x =>
    have hx : (x.1 == a) = true := by have := List.find?_some hf; simpa using this
    have hm := List.mem_of_find?_eq_some hf
    show b2i (x.2.1 == c) = _
    have hl : A.filter (fun y => y.1 == a) = [x] := by
      have hlen : (A.filter (fun y => y.1 == a)).length = 1 := by have := cn_filter (fun y => y.1 == a) A; omega
      obtain ⟨y, hy⟩ := List.length_eq_one_iff.1 hlen
      have : x ∈ A.filter (fun y => y.1 == a) := List.mem_filter.2 ⟨hm, hx⟩
      rw [hy] at this ⊢
      rw [List.mem_singleton.1 this]
    have e : (fun y : Nm => (y.1 == a) && (y.2.1 == c)) = fun y => (y.2.1 == c) && (y.1 == a) := funext fun y => Bool.and_comm _ _
    rw [← cn_filter, e, ← List.filter_filter, hl]
    unfold b2i
    cases h : (x.2.1 == c) <;> simp [h]
/-- The times of all frames. -/
def smT (F : List Ow) : Int := sumI (F.map fun o => o.2.2)
def ccT (F : List Ow) (j : Int) : Int := sumI (F.map fun o => b2i (o.1 == j))
theorem smT_fr (N : Nat) (A : List Nm) : smT (frL N A) = cn (fun x => decide (isF N x.1)) A := by
  unfold smT frL
  rw [List.map_map, show (fun x => decide (isF (N : Int) x.1)) = (fun x : Nm => decide (isF (N : Int) x.1) && true) from funext fun x => (Bool.and_true _).symm, ← sum_swap N (fun _ => true) A]
  refine sumI_ext (fun k _ => ?_)
  rw [Function.comp, ow_times]
  exact cn_ext (fun x _ => (Bool.and_true _).symm)
theorem ccT_fr {N : Nat} {A : List Nm} (h : ∀ o ∈ frL N A, o.2.2 = 1) (c : Int) : ccT (frL N A) c = cn (fun x => decide (isF N x.1) && (x.2.1 == c)) A := by
  unfold ccT
  rw [show frL N A = (List.range N).map fun k => (owF A (frA k)).getD (0, 0, 0) from rfl, List.map_map, ← sum_swap N (fun x => x.2.1 == c) A]
  refine sumI_ext (fun k hk => ?_)
  rw [Function.comp]
  refine ow_class ?_ c
  rw [← ow_times]
  exact h _ (List.mem_map.2 ⟨k, hk, rfl⟩)
theorem smT_len {F : List Ow} (h : ∀ o ∈ F, o.2.2 = 1) : smT F = F.length := by
  unfold smT
  induction F with
  | nil => rfl
  | cons o F ih =>
    simp only [List.map_cons, sumI, List.length_cons]
    rw [ih (fun o ho => h o (by simp [ho])), h o (by simp)]
    omega
theorem smT_take (F : List Ow) (i : Nat) (o : Ow) (h : F[i]? = some o) : smT (F.take (i + 1)) = smT (F.take i) + o.2.2 := by
  unfold smT
  rw [List.take_add_one, h, Option.toList_some, List.map_append, sumI_app]
  simp [sumI]
theorem ccT_take (F : List Ow) (i : Nat) (o : Ow) (h : F[i]? = some o) (j : Int) : ccT (F.take (i + 1)) j = ccT (F.take i) j + b2i (o.1 == j) := by
  unfold ccT
  rw [List.take_add_one, h, Option.toList_some, List.map_append, sumI_app]
  simp [sumI]
theorem ccT_le (F : List Ow) (j : Int) : 0 ≤ ccT F j ∧ ccT F j ≤ F.length := by
  unfold ccT
  induction F with
  | nil => simp [sumI]
  | cons o F ih =>
    simp only [List.map_cons, sumI, List.length_cons]
    unfold b2i at *
    split <;> omega
theorem ow_class_bd {A : List Nm} (hA : ∀ x ∈ A, 1 ≤ x.2.1 ∧ x.2.1 ≤ 6) (a : Int) : 0 ≤ ((owF A a).getD (0, 0, 0)).1 ∧ ((owF A a).getD (0, 0, 0)).1 ≤ 6 := by
  unfold owF
  cases hf : A.find? (fun x => x.1 == a) with
  | none => simp
  | some x =>
    have := hA x (List.mem_of_find?_eq_some hf)
    show 0 ≤ x.2.1 ∧ x.2.1 ≤ 6
    omega
theorem ow_times_bd (A : List Nm) (a : Int) : 0 ≤ ((owF A a).getD (0, 0, 0)).2.2 ∧ ((owF A a).getD (0, 0, 0)).2.2 ≤ A.length := by
  rw [ow_times]
  refine ⟨cn_nonneg _ _, ?_⟩
  rw [← cn_filter]
  have := List.length_filter_le (fun x : Nm => x.1 == a) A
  omega
theorem allL_class (L : Lk) (fr : List Int) : ∀ x ∈ allL L fr, 1 ≤ x.2.1 ∧ x.2.1 ≤ 6 := by
  intro x hx
  simp only [allL, List.mem_append, List.mem_cons, List.not_mem_nil, or_false, List.mem_flatMap] at hx
  rcases hx with ((rfl | hx) | ⟨p, hp, hx⟩) | ⟨p, hp, hx⟩
  · simp
  · simp only [nmF, List.mem_map] at hx
    obtain ⟨a, ha, rfl⟩ := hx
    simp
  · simp only [nmP, nmN, nmG, List.mem_append, List.mem_map, List.mem_cons, List.not_mem_nil, or_false] at hx
    rcases hx with (⟨a, ha, rfl⟩ | ⟨a, ha, rfl⟩) | rfl <;> simp
  · simp only [nmI, nmB, List.mem_map] at hx
    obtain ⟨a, ha, rfl⟩ := hx
    simp
/-- Worth of all processes, blocks of all inodes. -/
def worthS (l : List Pc) : Int := sumI (l.map fun p => 1 + (p.pages.length : Int) + p.nodes.length)
def blockS (l : List In) : Int := sumI (l.map fun x => (x.bl.length : Int))
def clsC (c : Int) : Nm → Bool := fun x => x.2.1 == c
theorem cn_map_const {α : Type} (f : α → Nm) (c : Int) (b : Bool) (h : ∀ a, ((f a).2.1 == c) = b) : ∀ l : List α, cn (clsC c) (l.map f) = if b then (l.length : Int) else 0
  | [] => by simp [cn, sumI]
  | a :: l => by
    rw [List.map_cons, cn_cons, cn_map_const f c b h l]
    have : clsC c (f a) = b := h a
    rw [this]
    cases b
    · simp [b2i]
    · simp only [b2i, if_true, List.length_cons]; omega
theorem cn_flat {α : Type} (p : Nm → Bool) (f : α → List Nm) : ∀ l : List α, cn p (l.flatMap f) = sumI (l.map fun a => cn p (f a))
  | [] => rfl
  | a :: l => by rw [List.flatMap_cons, cn_app, cn_flat p f l]; rfl
theorem cn_nmP (c : Int) (p : Pc) : cn (clsC c) (nmP p) = (if c = 3 then (p.nodes.length : Int) else 0) + (if c = 4 then (p.pages.length : Int) else 0) + (if c = 5 then 1 else 0) := by
  unfold nmP
  rw [cn_app, cn_app]
  have h1 : cn (clsC c) (nmN (p.c 0) p.nodes) = if c = 3 then (p.nodes.length : Int) else 0 := by
    unfold nmN
    rw [cn_map_const _ c ((3 : Int) == c) (fun a => rfl)]
    by_cases h : c = 3
    · subst h; rfl
    · rw [if_neg h]; have : ((3 : Int) == c) = false := by simp; omega
      rw [this]; rfl
  have h2 : cn (clsC c) (nmG (p.c 0) p.pages) = if c = 4 then (p.pages.length : Int) else 0 := by
    unfold nmG
    rw [cn_map_const _ c ((4 : Int) == c) (fun a => rfl)]
    by_cases h : c = 4
    · subst h; rfl
    · rw [if_neg h]; have : ((4 : Int) == c) = false := by simp; omega
      rw [this]; rfl
  have h3 : cn (clsC c) [(p.c 42, 5, p.c 0)] = if c = 5 then 1 else 0 := by
    show b2i ((5 : Int) == c) + 0 = _
    unfold b2i
    by_cases h : c = 5
    · subst h; rfl
    · have : ((5 : Int) == c) = false := by simp; omega
      rw [this, if_neg h]; rfl
  rw [h1, h2, h3]
theorem cn_nmI (c : Int) (x : In) : cn (clsC c) (nmI x) = if c = 6 then (x.bl.length : Int) else 0 := by
  unfold nmI nmB
  rw [cn_map_const _ c ((6 : Int) == c) (fun a => rfl)]
  by_cases h : c = 6
  · subst h; rfl
  · rw [if_neg h]; have : ((6 : Int) == c) = false := by simp; omega
    rw [this]; rfl
theorem cn_allL (c : Int) (L : Lk) (fr : List Int) : cn (clsC c) (allL L fr) = (if c = 1 then 1 else 0) + (if c = 2 then (fr.length : Int) else 0) + sumI (L.procs.map fun p => (if c = 3 then (p.nodes.length : Int) else 0) + (if c = 4 then (p.pages.length : Int) else 0) + (if c = 5 then 1 else 0)) + (if c = 6 then blockS L.inos else 0) := by
  unfold allL
  rw [cn_app, cn_app, cn_app, cn_flat, cn_flat]
  have h1 : cn (clsC c) [(L.tramp, 1, 0)] = if c = 1 then 1 else 0 := by
    show b2i ((1 : Int) == c) + 0 = _
    unfold b2i
    by_cases h : c = 1
    · subst h; rfl
    · have : ((1 : Int) == c) = false := by simp; omega
      rw [this, if_neg h]; rfl
  have h2 : cn (clsC c) (nmF fr) = if c = 2 then (fr.length : Int) else 0 := by
    unfold nmF
    rw [cn_map_const _ c ((2 : Int) == c) (fun a => rfl)]
    by_cases h : c = 2
    · subst h; rfl
    · rw [if_neg h]; have : ((2 : Int) == c) = false := by simp; omega
      rw [this]; rfl
  have h4 : sumI (L.inos.map fun x => cn (clsC c) (nmI x)) = if c = 6 then blockS L.inos else 0 := by
    rw [sumI_ext (g := fun x : In => if c = 6 then (x.bl.length : Int) else 0) (fun x _ => cn_nmI c x)]
    by_cases h : c = 6
    · simp only [if_pos h]; rfl
    · simp only [if_neg h]; exact sumI_zero _
  rw [h1, h2, h4, sumI_ext (fun p _ => cn_nmP c p)]
end Go.Proofs.Ythopgmmodldljaa
