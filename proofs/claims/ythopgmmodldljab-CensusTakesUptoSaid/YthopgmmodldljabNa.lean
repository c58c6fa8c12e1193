import Derived.Test.YthopgmmodldljabEla
import Derived.Test.YthopgmmodldljabNc
import Derived.Test.YthopgmmodldljabAq
import Derived.Test.YthopgmmodldljabAp
namespace Go.Proofs.Ythopgmmodldljab
open Go Go.RowKit
set_option linter.unusedVariables false
set_option linter.unusedSimpArgs false
/-! What is entered and what is counted, as the document goes through it. -/
theorem cnt_fold (t : Th) : ∀ (l : List Th) (f : Th → Option Int), ((l.foldl cnt1 f) t).getD 0 = (f t).getD 0 + (l.count t : Int)
 | [], f => by simp
 | x :: l, f => by
  rw [List.foldl_cons, cnt_fold t l, List.count_cons]
  unfold cnt1 upd
  by_cases h : t = x
  ·subst h; simp; omega
  ·have h2 : (x == t) = false := by simp; exact fun e => h e.symm
   rw [if_neg h, h2]; simp
theorem nf_count (L : Lk) (t : Th) : ((nfA L) t).getD 0 = ((L.procs.flatMap nmPr).count t : Int) + ((L.files.flatMap nmFi).count t : Int) := by
 unfold nfA nf1
 rw [cnt_fold, cnt_fold]
 simp [none0]
theorem foldI_same {α β γ : Type} (g : (β → γ) → α → Int → (β → γ)) (u : β) (h : ∀ b x a, g b x a u = b u) (b : β → γ) (l : List α) : foldI g b l u = b u := by
 unfold foldI
 generalize 0 = s
 induction l generalizing b s with
 | nil => rfl
 | cons x l ih => rw [List.zipIdx_cons, List.foldl_cons, ih, h]
theorem foldI_some {α β : Type} (g : (β → Option Int) → α → Int → (β → Option Int)) (u : β) (q : α → Bool) (h : ∀ b x a, (g b x a u).isSome = ((b u).isSome || q x)) (b : β → Option Int) (l : List α) : (foldI g b l u).isSome = ((b u).isSome || l.any q) := by
 unfold foldI
 generalize 0 = s
 induction l generalizing b s with
 | nil => simp
 | cons x l ih => rw [List.zipIdx_cons, List.foldl_cons, ih, h, List.any_cons, Bool.or_assoc]
theorem foldI_first {α β : Type} (g : (β → Option Int) → α → Int → (β → Option Int)) (u : β) (q : α → Bool) (h : ∀ b x a, g b x a u = if (b u).isSome then b u else if q x then some a else none) (l : List α) : ∀ (b : β → Option Int) (s : Nat), (l.zipIdx s).foldl (fun b x => g b x.1 (x.2 : Int)) b u = if (b u).isSome then b u else (l.findIdx? q).map fun k => ((s + k : Nat) : Int) := by
 induction l with
 | nil => intro b s; by_cases hb : (b u).isSome <;> simp [hb]; simpa using hb
 | cons x l ih =>
  intro b s
  rw [List.zipIdx_cons, List.foldl_cons, ih, h, List.findIdx?_cons]
  by_cases hb : (b u).isSome
  ·rw [if_pos hb, if_pos hb, if_pos hb]
  ·rw [if_neg hb, if_neg hb]
   cases hq : q x
   ·simp only [Bool.false_eq_true, if_false, Option.isSome_none, Option.map_map]
    congr 1
    funext k
    show ((s + 1 + k : Nat) : Int) = ((s + (k + 1) : Nat) : Int)
    congr 1
    omega
   ·simp
theorem ent_at (pf : Th → Option Int) (t u : Th) (a : Int) : (ent pf t a u).isSome = ((pf u).isSome || (t == u)) := by
 unfold ent upd
 by_cases h : (pf t).isSome
 ·rw [if_pos h]
  by_cases e : t = u
  ·subst e; simp [h]
  ·have : (t == u) = false := by simpa using e
   rw [this, Bool.or_false]
 ·rw [if_neg h]
  by_cases e : u = t
  ·subst e; simp
  ·have : (t == u) = false := by simp; exact fun x => e x.symm
   simp [e, this]
theorem ent_ne (pf : Th → Option Int) {t u : Th} (h : u ≠ t) (a : Int) : ent pf t a u = pf u := by
 unfold ent upd
 split
 ·rfl
 ·show (if u = t then some a else pf u) = pf u
  rw [if_neg h]
theorem ent_own (pf : Th → Option Int) (t : Th) (a : Int) : ent pf t a t = if (pf t).isSome then pf t else some a := by
 unfold ent upd
 by_cases h : (pf t).isSome
 ·rw [if_pos h, if_pos h]
 ·rw [if_neg h, if_neg h]
  show (if t = t then some a else pf t) = some a
  rw [if_pos rfl]
theorem th_ne {a b : Int} (h : a ≠ b) (x y : Int) : ((a, x) : Th) ≠ (b, y) := fun e => h (congrArg Prod.fst e)
theorem th_beq (a x y : Int) : (((a, x) : Th) == (a, y)) = (x == y) := by
 by_cases h : x = y
 ·subst h; simp
 ·have e1 : (x == y) = false := by simpa using h
  rw [e1]; simp; exact h
theorem th_bne {a b : Int} (h : a ≠ b) (x y : Int) : (((a, x) : Th) == (b, y)) = false := by simp; intro e; exact absurd e h
theorem pf_slot (L : Lk) (s : Int) : (pfA L (0, s)).isSome = L.procs.any fun p => p.c 0 == s := by
 unfold pfA pf3 pf2 pf1
 rw [foldI_same enQ _ (fun b x a => ent_ne _ (th_ne (by decide) _ _) _), foldI_same enI _ (fun b x a => by unfold enI; split <;> simp only [ent_ne _ (th_ne (show (0 : Int) ≠ 3 by decide) _ _), ent_ne _ (th_ne (show (0 : Int) ≠ 4 by decide) _ _)]), foldI_same enF _ (fun b x a => ent_ne _ (th_ne (by decide) _ _) _), foldI_some enP _ (fun p => p.c 0 == s) (fun b x a => by unfold enP; rw [ent_ne _ (th_ne (by decide) _ _), ent_at, th_beq])]
 simp [none0]
theorem pf_file (L : Lk) (s : Int) : (pfA L (2, s)).isSome = L.files.any fun p => p.num == s := by
 unfold pfA pf3 pf2 pf1
 rw [foldI_same enQ _ (fun b x a => ent_ne _ (th_ne (by decide) _ _) _), foldI_same enI _ (fun b x a => by unfold enI; split <;> simp only [ent_ne _ (th_ne (show (2 : Int) ≠ 3 by decide) _ _), ent_ne _ (th_ne (show (2 : Int) ≠ 4 by decide) _ _)]), foldI_some enF _ (fun p => p.num == s) (fun b x a => by unfold enF; rw [ent_at, th_beq]), foldI_same enP _ (fun b x a => by unfold enP; rw [ent_ne _ (th_ne (by decide) _ _), ent_ne _ (th_ne (by decide) _ _)])]
 simp [none0]
theorem pf_ino (L : Lk) (s : Int) : (pfA L (3, s)).isSome = L.inos.any fun p => p.ino == s := by
 unfold pfA pf3 pf2 pf1
 rw [foldI_same enQ _ (fun b x a => ent_ne _ (th_ne (by decide) _ _) _), foldI_some enI _ (fun p => p.ino == s) (fun b x a => by unfold enI; split <;> simp only [ent_at, th_beq, th_bne (show (4 : Int) ≠ 3 by decide), Bool.or_false]), foldI_same enF _ (fun b x a => ent_ne _ (th_ne (by decide) _ _) _), foldI_same enP _ (fun b x a => by unfold enP; rw [ent_ne _ (th_ne (by decide) _ _), ent_ne _ (th_ne (by decide) _ _)])]
 simp [none0]
theorem pf_dir (L : Lk) (s : Int) : (pfA L (4, s)).isSome = L.inos.any fun p => p.ino == s && p.ty == 1 := by
 unfold pfA pf3 pf2 pf1
 rw [foldI_same enQ _ (fun b x a => ent_ne _ (th_ne (by decide) _ _) _), foldI_some enI _ (fun p => p.ino == s && p.ty == 1) (fun b x a => by
  unfold enI
  by_cases h : x.ty = 1
  ·rw [if_pos h, ent_at, ent_at, th_bne (show (3 : Int) ≠ 4 by decide), th_beq, h]; simp
  ·have e : (x.ty == 1) = false := by simpa using h
   rw [if_neg h, ent_at, th_bne (show (3 : Int) ≠ 4 by decide), e]; simp), foldI_same enF _ (fun b x a => ent_ne _ (th_ne (by decide) _ _) _), foldI_same enP _ (fun b x a => by unfold enP; rw [ent_ne _ (th_ne (by decide) _ _), ent_ne _ (th_ne (by decide) _ _)])]
 simp [none0]
theorem pf_pipe (L : Lk) (s : Int) : (pfA L (5, s)).isSome = L.pipes.any fun p => p.num == s := by
 unfold pfA pf3 pf2 pf1
 rw [foldI_some enQ _ (fun p => p.num == s) (fun b x a => by unfold enQ; rw [ent_at, th_beq]), foldI_same enI _ (fun b x a => by unfold enI; split <;> simp only [ent_ne _ (th_ne (show (5 : Int) ≠ 3 by decide) _ _), ent_ne _ (th_ne (show (5 : Int) ≠ 4 by decide) _ _)]), foldI_same enF _ (fun b x a => ent_ne _ (th_ne (by decide) _ _) _), foldI_same enP _ (fun b x a => by unfold enP; rw [ent_ne _ (th_ne (by decide) _ _), ent_ne _ (th_ne (by decide) _ _)])]
 simp [none0]
theorem pf_pid (L : Lk) (s : Int) : pfA L (1, s) = (L.procs.findIdx? fun p => p.c 1 == s).map fun (k : Nat) => (k : Int) := by
 unfold pfA pf3 pf2
 rw [foldI_same enQ _ (fun b x a => ent_ne _ (th_ne (by decide) _ _) _), foldI_same enI _ (fun b x a => by unfold enI; split <;> simp only [ent_ne _ (th_ne (show (1 : Int) ≠ 3 by decide) _ _), ent_ne _ (th_ne (show (1 : Int) ≠ 4 by decide) _ _)]), foldI_same enF _ (fun b x a => ent_ne _ (th_ne (by decide) _ _) _)]
 unfold pf1 foldI
 rw [foldI_first enP (1, s) (fun p => p.c 1 == s) (fun b x a => by
  unfold enP
  have e0 : ∀ u, ent b (0, x.c 0) a (1, u) = b (1, u) := fun u => ent_ne _ (th_ne (by decide) _ _) _
  by_cases e : x.c 1 = s
  ·subst e
   rw [ent_own, e0]
   simp
  ·have h2 : (x.c 1 == s) = false := by simpa using e
   rw [ent_ne _ (fun h => e (congrArg Prod.snd h).symm), e0, h2]
   cases hb : b (1, s) <;> simp)]
 rw [if_neg (by simp [none0])]
 have e : (fun k : Nat => ((0 + k : Nat) : Int)) = fun (k : Nat) => (k : Int) := by funext k; rw [Nat.zero_add]
 rw [e]
theorem pid_first {L : Lk} {i : Nat} {x : Pc} (hx : L.procs[i]? = some x) : ((pfA L (1, x.c 1)).getD 0 == (i : Int)) = (L.procs.take i).all fun p => p.c 1 != x.c 1 := by
 rw [pf_pid]
 obtain ⟨hi, he⟩ := List.getElem?_eq_some_iff.1 hx
 cases hf : L.procs.findIdx? fun p => p.c 1 == x.c 1 with
 | none =>
  rw [List.findIdx?_eq_none_iff] at hf
  have := hf x (List.mem_of_getElem? hx)
  simp at this
 | some j =>
  rw [List.findIdx?_eq_some_iff_getElem] at hf
  obtain ⟨hj, h1, h2⟩ := hf
  have hji : j ≤ i := by
   apply Nat.le_of_not_lt
   intro hlt
   have := h2 i hlt
   rw [he] at this
   simp at this
  by_cases e : j = i
  ·subst e
   have : ((L.procs.take j).all fun p => p.c 1 != x.c 1) = true := by
    rw [List.all_eq_true]
    intro p hp
    obtain ⟨k, hk⟩ := List.getElem?_of_mem hp
    rw [List.getElem?_take] at hk
    split at hk
    ·rename_i hkj
     obtain ⟨hk2, hk3⟩ := List.getElem?_eq_some_iff.1 hk
     have := h2 k hkj
     rw [hk3] at this
     simpa using this
    ·cases hk
   rw [this]; simp
  ·have : ((L.procs.take i).all fun p => p.c 1 != x.c 1) = false := by
    rw [List.all_eq_false]
    refine ⟨L.procs[j], List.mem_of_getElem? (i := j) ?_, by simpa using h1⟩
    rw [List.getElem?_take, if_pos (by omega), List.getElem?_eq_getElem hj]
   rw [this]
   simp
   omega
theorem count_map_inj {α : Type} (g : α → Th) (q : α → Bool) (t : Th) (h : ∀ a, (g a == t) = q a) : ∀ l : List α, (l.map g).count t = (l.filter q).length
 | [] => rfl
 | a :: l => by
  rw [List.map_cons, List.count_cons, count_map_inj g q t h l, List.filter_cons, h]
  cases q a <;> simp
theorem count_flat {α : Type} (g : α → List Th) (t : Th) : ∀ l : List α, (l.flatMap g).count t = (l.map fun a => (g a).count t).sum
 | [] => rfl
 | a :: l => by rw [List.flatMap_cons, List.count_append, count_flat g t l, List.map_cons, List.sum_cons]
theorem count_pr (p : Pc) (k f : Int) : (nmPr p).count (k, f) = (if k = 2 then fdC p f 16 else 0) + (if k = 3 ∧ p.c 2 ≠ 3 ∧ p.c 62 = f then 1 else 0) := by
 unfold nmPr
 rw [List.count_append]
 congr 1
 ·unfold fdT
  by_cases h : k = 2
  ·subst h
   rw [if_pos rfl, count_map_inj _ (fun j => p.c (46 + j) == f) (2, f) (fun j => th_beq _ _ _)]
   rfl
  ·rw [if_neg h, List.count_eq_zero]
   intro hm
   obtain ⟨j, _, hj⟩ := List.mem_map.1 hm
   exact h (congrArg Prod.fst hj).symm
 ·by_cases h2 : p.c 2 = 3
  ·rw [if_pos h2, if_neg (fun h => h.2.1 h2)]; rfl
  ·rw [if_neg h2, List.count_cons, List.count_nil]
   by_cases h : k = 3 ∧ p.c 62 = f
   ·obtain ⟨rfl, rfl⟩ := h
    rw [if_pos (c := (3 : Int) = 3 ∧ _) ⟨rfl, h2, rfl⟩]; simp
   ·rw [if_neg (c := k = 3 ∧ _) (fun e => h ⟨e.1, e.2.2⟩)]
    have : (((3, p.c 62) : Th) == (k, f)) = false := by
     simp
     intro e
     exact fun e2 => h ⟨e.symm, e2⟩
    rw [this]; rfl
theorem count_fi (x : Fi) (k f : Int) : (nmFi x).count (k, f) = (if k = 3 ∧ x.kind = 1 ∧ x.ino = f then 1 else 0) + (if k = 6 ∧ x.kind = 2 ∧ x.pipe = f then 1 else 0) + (if k = 7 ∧ x.kind = 3 ∧ x.pipe = f then 1 else 0) := by
 unfold nmFi bhT
 by_cases h1 : x.kind = 1
 ·rw [if_pos h1, if_neg (c := k = 6 ∧ _) (fun h => by have := h.2.1; omega), if_neg (c := k = 7 ∧ _) (fun h => by have := h.2.1; omega)]
  by_cases h : k = 3 ∧ x.ino = f
  ·obtain ⟨rfl, rfl⟩ := h
   rw [if_pos (c := (3 : Int) = 3 ∧ _) ⟨rfl, h1, rfl⟩]; simp
  ·rw [if_neg (c := k = 3 ∧ _) (fun e => h ⟨e.1, e.2.2⟩)]
   have : (((3, x.ino) : Th) == (k, f)) = false := by
    simp
    intro e
    exact fun e2 => h ⟨e.symm, e2⟩
   simp [List.count_cons, this]
 rw [if_neg h1, if_neg (c := k = 3 ∧ _) (fun h => h1 h.2.1)]
 by_cases h2 : x.kind = 2
 ·rw [if_pos h2, if_neg (c := k = 7 ∧ _) (fun h => by have := h.2.1; omega)]
  by_cases h : k = 6 ∧ x.pipe = f
  ·obtain ⟨rfl, rfl⟩ := h
   rw [if_pos (c := (6 : Int) = 6 ∧ _) ⟨rfl, h2, rfl⟩]; simp
  ·rw [if_neg (c := k = 6 ∧ _) (fun e => h ⟨e.1, e.2.2⟩)]
   have : (((6, x.pipe) : Th) == (k, f)) = false := by
    simp
    intro e
    exact fun e2 => h ⟨e.symm, e2⟩
   simp [List.count_cons, this]
 rw [if_neg h2, if_neg (c := k = 6 ∧ _) (fun h => h2 h.2.1)]
 by_cases h3 : x.kind = 3
 ·rw [if_pos h3]
  by_cases h : k = 7 ∧ x.pipe = f
  ·obtain ⟨rfl, rfl⟩ := h
   rw [if_pos (c := (7 : Int) = 7 ∧ _) ⟨rfl, h3, rfl⟩]; simp
  ·rw [if_neg (c := k = 7 ∧ _) (fun e => h ⟨e.1, e.2.2⟩)]
   have : (((7, x.pipe) : Th) == (k, f)) = false := by
    simp
    intro e
    exact fun e2 => h ⟨e.symm, e2⟩
   simp [List.count_cons, this]
 rw [if_neg h3, if_neg (c := k = 7 ∧ _) (fun h => h3 h.2.1)]
 simp
theorem sum_zero {α : Type} (l : List α) : (l.map fun _ => 0).sum = 0 := by
 induction l with
 | nil => rfl
 | cons a l ih => rw [List.map_cons, List.sum_cons, ih]
theorem sum_ite {α : Type} (P : α → Prop) [DecidablePred P] (q : α → Bool) (h : ∀ a, q a = true ↔ P a) : ∀ l : List α, (l.map fun a => if P a then 1 else 0).sum = (l.filter q).length
 | [] => rfl
 | a :: l => by
  rw [List.map_cons, List.sum_cons, sum_ite P q h l, List.filter_cons]
  by_cases e : P a
  ·rw [if_pos e, if_pos ((h a).2 e), List.length_cons]; omega
  ·rw [if_neg e, if_neg (fun x => e ((h a).1 x))]; omega
theorem nf_fds (L : Lk) (f : Int) : ((nfA L) (2, f)).getD 0 = (fdN L.procs f : Int) := by
 rw [nf_count, count_flat, count_flat]
 have e1 : (fun p : Pc => (nmPr p).count (2, f)) = fun p => fdC p f 16 := by funext p; rw [count_pr]; simp
 have e2 : (fun x : Fi => (nmFi x).count (2, f)) = fun _ => 0 := by funext x; rw [count_fi]; simp
 rw [e1, e2, sum_zero]
 simp [fdN]
theorem nf_names (L : Lk) (f : Int) : ((nfA L) (3, f)).getD 0 = ((nFl L.files f + nPc L.procs f : Nat) : Int) := by
 rw [nf_count, count_flat, count_flat]
 have e1 : (fun p : Pc => (nmPr p).count (3, f)) = fun p => if p.c 2 ≠ 3 ∧ p.c 62 = f then 1 else 0 := by funext p; rw [count_pr]; simp
 have e2 : (fun x : Fi => (nmFi x).count (3, f)) = fun x => if x.kind = 1 ∧ x.ino = f then 1 else 0 := by funext x; rw [count_fi]; simp
 rw [e1, e2, sum_ite _ (fun p : Pc => p.c 2 != 3 && p.c 62 == f) (fun p => by simp), sum_ite _ (fun x : Fi => x.kind == 1 && x.ino == f) (fun x => by simp)]
 unfold nFl nPc
 omega
theorem nf_pos (L : Lk) (k f c : Int) (hk : k = 6 ∧ c = 2 ∨ k = 7 ∧ c = 3) : decide (0 < ((nfA L) (k, f)).getD 0) = L.files.any fun x => x.pipe == f && x.kind == c := by
 rw [nf_count, count_flat, count_flat]
 have e1 : (fun p : Pc => (nmPr p).count (k, f)) = fun _ => 0 := by funext p; rw [count_pr, if_neg (by omega), if_neg (by omega)]
 have e2 : (fun x : Fi => (nmFi x).count (k, f)) = fun x => if x.pipe = f ∧ x.kind = c then 1 else 0 := by
  funext x
  rw [count_fi, if_neg (by omega)]
  rcases hk with ⟨rfl, rfl⟩ | ⟨rfl, rfl⟩
  ·simp [and_comm]
  ·simp [and_comm]
 rw [e1, e2, sum_zero, sum_ite _ (fun x : Fi => x.pipe == f && x.kind == c) (fun x => by simp)]
 cases h : L.files.any fun x => x.pipe == f && x.kind == c
 ·rw [List.any_eq_false] at h
  rw [List.filter_eq_nil_iff.2 h]
  simp
 ·rw [List.any_eq_true] at h
  obtain ⟨x, hx, hq⟩ := h
  have : 0 < (L.files.filter fun x => x.pipe == f && x.kind == c).length := List.length_pos_iff.2 (fun e => by
   have := (List.mem_filter (p := fun x : Fi => x.pipe == f && x.kind == c)).2 ⟨hx, hq⟩
   rw [e] at this
   cases this)
  exact decide_eq_true (by omega)
end Go.Proofs.Ythopgmmodldljab
namespace Go.Proofs.Ythopgmmodldljab
open Go Go.RowKit
set_option linter.unusedVariables false
set_option linter.unusedSimpArgs false
/-! The document's has, open, inode and frame. -/
set_option maxRecDepth 100000 in
set_option maxHeartbeats 2000000 in
theorem dhas_any {w : World} {X : Nat} {pv fv iv qv rv lv : Value} {L : Lk} (h : Ps w X pv L.procs) (hX : X ≤ w.heap.size) (hs : L.procs.length ≤ 1048576) (s : Int) : Calls Try.prog 64 #[.agg (lkL L.tramp pv fv iv qv rv lv L.ticks L.next L.free).toArray, .int .i64 s] w fun e w' => e = .returned (.bool (L.procs.any fun p => p.c 0 == s)) ∧ Below w.heap.size w w' := by
 obtain ⟨pp, pc, rfl⟩ := h.form
 obtain ⟨np, hnp⟩ : ∃ n, n = L.procs.length := ⟨_, rfl⟩
 rw [← hnp] at h hs ⊢
 have HP : Hid (Ps w X (.slice pp np pc) L.procs ∧ np = L.procs.length ∧ X ≤ w.heap.size) := ⟨h, hnp, hX⟩
 clear h hnp hX
 obtain ⟨lc, hlc⟩ : ∃ lc, lc = lkL L.tramp (.slice pp np pc) fv iv qv rv lv L.ticks L.next L.free := ⟨_, rfl⟩
 rw [← hlc]
 have HL : Hid (lc[1]? = some (.slice pp np pc) ∧ lc.length = 10) := by rw [hlc]; exact ⟨rfl, rfl⟩
 clear hlc
 go_enter Try.func64, Try.ntmps64
 go_wp2_with (first
  | (refine wpList_is (.box 31 (.tmp 0)) rfl ?_; refine wpList_boxG 31 lc 2 (.tmp 0) _ rfl rfl rfl rfl ?_; intro W1 hW1 hB1 hs1; have d1 := cell_heap (o := 1) hW1; rw [List.getElem?_toArray, HL.out.1] at d1)
  | fail)
 have HB1 : Hid (Below w.heap.size w W1) := hB1
 clear hW1 hB1 hs1
 go_loopw [5] (fun k wr => ∃ i : Nat, i ≤ np ∧ k = .int .i64 i ∧ wr = W1 ∧ Hid ((L.procs.take i).any (fun p => p.c 0 == s) = false)) (fun v _ => (np - intOf v).toNat)
 case atStart => exact ⟨0, by omega, rfl, rfl, by show _ = _; simp⟩
 case round =>
  obtain ⟨i, hi, rfl, rfl, HB⟩ := hrel
  by_cases hin : i < np
  ·have i1 : (i : Int) < np := by omega
   obtain ⟨-, b, o, x, cs, rfl, hbX, hx, ⟨nv, gv, rfl, hN, hG⟩, hcl, hr⟩ := HP.out.1.at hin
   have hr' := range_keep hr HB1.out (by have := HP.out.2.2; omega)
   have a0 := hr' 0 _ rfl
   rw [Nat.add_zero] at a0
   have HE : Hid ((L.procs.take (i + 1)).any (fun p => p.c 0 == s) = (x.c 0 == s)) := by
    show _ = _
    rw [List.take_add_one, hx, List.any_append, HB.out]
    simp
   have HX : Hid (x ∈ L.procs) := List.mem_of_getElem? hx
   clear hr hr' hcl hbX hx
   cases hb : (x.c 0 == s)
   ·have HF : Hid ((x.c 0 == s) = false) := hb
    go_wp2
    exact ⟨⟨i + 1, by omega, by go_num, by first | rfl | trivial, by show _ = _; rw [HE.out, HF.out]⟩, by simp [intOf]; omega⟩
   ·have HT : Hid ((L.procs.any fun p => p.c 0 == s) = true) := by
     show _ = _
     rw [List.any_eq_true]
     exact ⟨x, HX.out, hb⟩
    go_wp2
    go_ret
    exact ⟨by rw [HT.out]; rfl, HB1.out⟩
  ·have i1 : ¬ (i : Int) < np := by omega
   have HT : Hid ((L.procs.any fun p => p.c 0 == s) = false) := by
    have h1 := HB.out
    rw [List.take_of_length_le (by have := HP.out.2.1; omega)] at h1
    exact h1
   go_wp2
   go_ret
   exact ⟨by rw [HT.out]; rfl, HB1.out⟩
set_option maxRecDepth 100000 in
set_option maxHeartbeats 2000000 in
theorem dopen_any {w : World} {X : Nat} {pv fv iv qv rv lv : Value} {L : Lk} (h : Fs w X fv L.files) (hX : X ≤ w.heap.size) (hs : L.files.length ≤ 1048576) (s : Int) : Calls Try.prog 66 #[.agg (lkL L.tramp pv fv iv qv rv lv L.ticks L.next L.free).toArray, .int .i64 s] w fun e w' => e = .returned (.bool (L.files.any fun p => p.num == s)) ∧ Below w.heap.size w w' := by
 obtain ⟨pp, pc, rfl⟩ := h.form
 obtain ⟨np, hnp⟩ : ∃ n, n = L.files.length := ⟨_, rfl⟩
 rw [← hnp] at h hs ⊢
 have HP : Hid (Fs w X (.slice pp np pc) L.files ∧ np = L.files.length ∧ X ≤ w.heap.size) := ⟨h, hnp, hX⟩
 clear h hnp hX
 obtain ⟨lc, hlc⟩ : ∃ lc, lc = lkL L.tramp pv (.slice pp np pc) iv qv rv lv L.ticks L.next L.free := ⟨_, rfl⟩
 rw [← hlc]
 have HL : Hid (lc[2]? = some (.slice pp np pc) ∧ lc.length = 10) := by rw [hlc]; exact ⟨rfl, rfl⟩
 clear hlc
 go_enter Try.func66, Try.ntmps66
 go_wp2_with (first
  | (refine wpList_is (.box 31 (.tmp 0)) rfl ?_; refine wpList_boxG 31 lc 2 (.tmp 0) _ rfl rfl rfl rfl ?_; intro W1 hW1 hB1 hs1; have d1 := cell_heap (o := 2) hW1; rw [List.getElem?_toArray, HL.out.1] at d1)
  | fail)
 have HB1 : Hid (Below w.heap.size w W1) := hB1
 clear hW1 hB1 hs1
 go_loopw [5] (fun k wr => ∃ i : Nat, i ≤ np ∧ k = .int .i64 i ∧ wr = W1 ∧ Hid ((L.files.take i).any (fun p => p.num == s) = false)) (fun v _ => (np - intOf v).toNat)
 case atStart => exact ⟨0, by omega, rfl, rfl, by show _ = _; simp⟩
 case round =>
  obtain ⟨i, hi, rfl, rfl, HB⟩ := hrel
  by_cases hin : i < np
  ·have i1 : (i : Int) < np := by omega
   obtain ⟨-, b, o, x, cs, rfl, hbX, hx, rfl, hcl, hr⟩ := HP.out.1.at hin
   have hr' := range_keep hr HB1.out (by have := HP.out.2.2; omega)
   have a0 := hr' 0 _ rfl
   rw [Nat.add_zero] at a0
   have HE : Hid ((L.files.take (i + 1)).any (fun p => p.num == s) = (x.num == s)) := by
    show _ = _
    rw [List.take_add_one, hx, List.any_append, HB.out]
    simp
   have HX : Hid (x ∈ L.files) := List.mem_of_getElem? hx
   clear hr hr' hcl hbX hx
   cases hb : (x.num == s)
   ·have HF : Hid ((x.num == s) = false) := hb
    go_wp2
    exact ⟨⟨i + 1, by omega, by go_num, by first | rfl | trivial, by show _ = _; rw [HE.out, HF.out]⟩, by simp [intOf]; omega⟩
   ·have HT : Hid ((L.files.any fun p => p.num == s) = true) := by
     show _ = _
     rw [List.any_eq_true]
     exact ⟨x, HX.out, hb⟩
    go_wp2
    go_ret
    exact ⟨by rw [HT.out]; rfl, HB1.out⟩
  ·have i1 : ¬ (i : Int) < np := by omega
   have HT : Hid ((L.files.any fun p => p.num == s) = false) := by
    have h1 := HB.out
    rw [List.take_of_length_le (by have := HP.out.2.1; omega)] at h1
    exact h1
   go_wp2
   go_ret
   exact ⟨by rw [HT.out]; rfl, HB1.out⟩
set_option maxRecDepth 100000 in
set_option maxHeartbeats 2000000 in
theorem dinode_any {w : World} {X : Nat} {pv fv iv qv rv lv : Value} {L : Lk} (h : Is w X iv L.inos) (hX : X ≤ w.heap.size) (hs : L.inos.length ≤ 1048576) (s : Int) : Calls Try.prog 67 #[.agg (lkL L.tramp pv fv iv qv rv lv L.ticks L.next L.free).toArray, .int .i64 s] w fun e w' => (∃ k : Int, e = .returned (.int .i64 k) ∧ -1 ≤ k ∧ k ≤ 1048576 ∧ decide (k < 0) = !(L.inos.any fun p => p.ino == s)) ∧ Below w.heap.size w w' := by
 obtain ⟨pp, pc, rfl⟩ := h.form
 obtain ⟨np, hnp⟩ : ∃ n, n = L.inos.length := ⟨_, rfl⟩
 rw [← hnp] at h hs ⊢
 have HP : Hid (Is w X (.slice pp np pc) L.inos ∧ np = L.inos.length ∧ X ≤ w.heap.size) := ⟨h, hnp, hX⟩
 clear h hnp hX
 obtain ⟨lc, hlc⟩ : ∃ lc, lc = lkL L.tramp pv fv (.slice pp np pc) qv rv lv L.ticks L.next L.free := ⟨_, rfl⟩
 rw [← hlc]
 have HL : Hid (lc[3]? = some (.slice pp np pc) ∧ lc.length = 10) := by rw [hlc]; exact ⟨rfl, rfl⟩
 clear hlc
 go_enter Try.func67, Try.ntmps67
 go_wp2_with (first
  | (refine wpList_is (.box 31 (.tmp 0)) rfl ?_; refine wpList_boxG 31 lc 2 (.tmp 0) _ rfl rfl rfl rfl ?_; intro W1 hW1 hB1 hs1; have d1 := cell_heap (o := 3) hW1; rw [List.getElem?_toArray, HL.out.1] at d1)
  | fail)
 have HB1 : Hid (Below w.heap.size w W1) := hB1
 clear hW1 hB1 hs1
 go_loopw [5] (fun k wr => ∃ i : Nat, i ≤ np ∧ k = .int .i64 i ∧ wr = W1 ∧ Hid ((L.inos.take i).any (fun p => p.ino == s) = false)) (fun v _ => (np - intOf v).toNat)
 case atStart => exact ⟨0, by omega, rfl, rfl, by show _ = _; simp⟩
 case round =>
  obtain ⟨i, hi, rfl, rfl, HB⟩ := hrel
  by_cases hin : i < np
  ·have i1 : (i : Int) < np := by omega
   obtain ⟨-, b, o, x, cs, rfl, hbX, hx, ⟨bv, rfl, hN⟩, hcl, hr⟩ := HP.out.1.at hin
   have hr' := range_keep hr HB1.out (by have := HP.out.2.2; omega)
   have a0 := hr' 0 _ rfl
   rw [Nat.add_zero] at a0
   have HE : Hid ((L.inos.take (i + 1)).any (fun p => p.ino == s) = (x.ino == s)) := by
    show _ = _
    rw [List.take_add_one, hx, List.any_append, HB.out]
    simp
   have HX : Hid (x ∈ L.inos) := List.mem_of_getElem? hx
   clear hr hr' hcl hbX hx
   cases hb : (x.ino == s)
   ·have HF : Hid ((x.ino == s) = false) := hb
    go_wp2
    exact ⟨⟨i + 1, by omega, by go_num, by first | rfl | trivial, by show _ = _; rw [HE.out, HF.out]⟩, by simp [intOf]; omega⟩
   ·have HT : Hid ((L.inos.any fun p => p.ino == s) = true) := by
     show _ = _
     rw [List.any_eq_true]
     exact ⟨x, HX.out, hb⟩
    go_wp2
    go_ret
    exact ⟨⟨i, rfl, by omega, by omega, by rw [HT.out]; simp⟩, HB1.out⟩
  ·have i1 : ¬ (i : Int) < np := by omega
   have HT : Hid ((L.inos.any fun p => p.ino == s) = false) := by
    have h1 := HB.out
    rw [List.take_of_length_le (by have := HP.out.2.1; omega)] at h1
    exact h1
   go_wp2
   go_ret
   exact ⟨⟨-1, rfl, by omega, by omega, by rw [HT.out]; simp⟩, HB1.out⟩
end Go.Proofs.Ythopgmmodldljab
