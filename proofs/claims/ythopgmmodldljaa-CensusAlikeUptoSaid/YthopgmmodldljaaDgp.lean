import Derived.Test.YthopgmmodldljaaDd
namespace Go.Proofs.Ythopgmmodldljaa
open Go Go.RowKit
set_option linter.unusedVariables false
set_option linter.unusedSimpArgs false
/-- What a look's bounds are for the comparisons. -/
structure Cb (L : Lk) : Prop where
  p : L.procs.length ≤ 1048576
  f : L.files.length ≤ 1048576
  i : L.inos.length ≤ 1048576
  q : L.pipes.length ≤ 1048576
  r : L.ready.length ≤ 10000000
  l : L.line.length ≤ 10000000
  pg : ∀ x ∈ L.procs, x.pages.length ≤ 10000000
  qb : ∀ x ∈ L.pipes, x.bs.length ≤ 10000000
theorem alike17_any {w : World} {X Y : Nat} {pv fv iv qv rv lv pv' fv' iv' qv' rv' lv' : Value} {L M : Lk} (t1 t2 : Int) (h1 : LkW w X pv fv iv qv rv lv L) (h2 : LkW w Y pv' fv' iv' qv' rv' lv' M) (hX : X ≤ w.heap.size) (hY : Y ≤ w.heap.size) (hL : Cb L) (hM : Cb M) :
    Calls Try.prog 17 #[.agg (lkL t1 pv fv iv qv rv lv L.ticks L.next L.free).toArray, .agg (lkL t2 pv' fv' iv' qv' rv' lv' M.ticks M.next M.free).toArray] w fun e w' => e = .returned (.bool (alk L M)) ∧ Below w.heap.size w w' := by
  have k1 : ∀ V, Below w.heap.size w V → LkW V X pv fv iv qv rv lv L ∧ LkW V Y pv' fv' iv' qv' rv' lv' M ∧ X ≤ V.heap.size ∧ Y ≤ V.heap.size := fun V hV => ⟨h1.keep (Nat.le_refl _) (hV.mono hX), h2.keep (Nat.le_refl _) (hV.mono hY), Nat.le_trans hX hV.size, Nat.le_trans hY hV.size⟩
  have fm : ∀ {α : Type} {w : World} {X sz : Nat} {Q : α → List Value → Prop} {v : Value} {l : List α}, Sl w X sz Q v l → ∃ p n c, v = .slice p n c := fun h => let ⟨p, c, e⟩ := h.form; ⟨p, _, c, e⟩
  refine al17 t1 t2 _ _ _ _ _ _ (L.ticks == M.ticks) (L.next == M.next) (L.free == M.free) (allB cmP L.procs M.procs) (allB cmF L.files M.files) (allB cmI L.inos M.inos) (allB cmQ L.pipes M.pipes) (allB cmB L.ready M.ready) (allB cmB L.line M.line) (fm h1.ps) (fm h2.ps) (fm h1.fs) (fm h2.fs) (fm h1.is) (fm h2.is) (fm h1.qs) (fm h2.qs) (fm h1.rd) (fm h2.rd) (fm h1.ln) (fm h2.ln) rfl rfl rfl ?_ ?_ ?_ ?_ ?_ ?_
  · intro V hV
    obtain ⟨a, b, c, d⟩ := k1 V hV
    refine same39_any a.ps b.ps c d (by have := hL.p; omega) (by have := hM.p; omega) cmP (fun w' hb x hx y hy cs cs' e1 e2 _ _ => ?_)
    obtain ⟨nv, gv, rfl, q1, q2⟩ := e1
    obtain ⟨nv', gv', rfl, q3, q4⟩ := e2
    obtain ⟨_, _, rfl⟩ := q1.form
    obtain ⟨_, _, rfl⟩ := q2.form
    obtain ⟨_, _, rfl⟩ := q3.form
    obtain ⟨_, _, rfl⟩ := q4.form
    exact proc40_any (Nat.le_trans c hb.size) (Nat.le_trans d hb.size) x y _ _ _ _ _ _ _ _ (q2.keep (Nat.le_refl _) (hb.mono c)) (q4.keep (Nat.le_refl _) (hb.mono d)) (hL.pg x hx) (hM.pg y hy)
  · intro V hV
    obtain ⟨a, b, c, d⟩ := k1 V hV
    exact same41_any a.fs b.fs c d (by have := hL.f; omega) (by have := hM.f; omega) cmF (fun w' hb x hx y hy cs cs' e1 e2 _ _ => by subst e1 e2; exact file42_any x y w')
  · intro V hV
    obtain ⟨a, b, c, d⟩ := k1 V hV
    refine same43_any a.is b.is c d (by have := hL.i; omega) (by have := hM.i; omega) cmI (fun w' hb x hx y hy cs cs' e1 e2 _ _ => ?_)
    obtain ⟨nv, rfl, q1⟩ := e1
    obtain ⟨nv', rfl, q3⟩ := e2
    obtain ⟨_, _, rfl⟩ := q1.form
    obtain ⟨_, _, rfl⟩ := q3.form
    exact inode44_any x y _ _ _ _ w'
  · intro V hV
    obtain ⟨a, b, c, d⟩ := k1 V hV
    refine same45_any a.qs b.qs c d (by have := hL.q; omega) (by have := hM.q; omega) cmQ (fun w' hb x hx y hy cs cs' e1 e2 _ _ => ?_)
    obtain ⟨nv, rfl, q1⟩ := e1
    obtain ⟨nv', rfl, q3⟩ := e2
    obtain ⟨_, _, rfl⟩ := q1.form
    obtain ⟨_, _, rfl⟩ := q3.form
    exact pipe46_any (Nat.le_trans c hb.size) (Nat.le_trans d hb.size) x y _ _ _ _ (Wd.keep q1 (Nat.le_refl _) (hb.mono c)) (Wd.keep q3 (Nat.le_refl _) (hb.mono d)) (hL.qb x hx) (hM.qb y hy)
  · intro V hV
    obtain ⟨a, b, c, d⟩ := k1 V hV
    exact same47_any a.rd b.rd c d hL.r hM.r cmB (fun w' _ x y => byte48_any x y w')
  · intro V hV
    obtain ⟨a, b, c, d⟩ := k1 V hV
    exact same47_any a.ln b.ln c d hL.l hM.l cmB (fun w' _ x y => byte48_any x y w')
end Go.Proofs.Ythopgmmodldljaa
