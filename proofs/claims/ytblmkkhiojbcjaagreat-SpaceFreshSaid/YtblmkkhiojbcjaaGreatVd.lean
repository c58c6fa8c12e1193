import Derived.Test.YtblmkkhiojbcjaaGreatUx
namespace Go.Proofs.YtblmkkhiojbcjaaGreat
open Go Go.RowKit
set_option linter.unusedVariables false
set_option linter.unusedSimpArgs false
/-- How many nodes a page wants. -/
def need (F : Nat → Option Nat) (va : Int) : Nat := if F (y1 va) = none then 2 else if F (y0 va) = none then 1 else 0
def nodesF (F : Nat → Option Nat) : Nat := cnt 512 (fun v => decide (F (1 + v) ≠ none)) + cnt 262144 (fun v => decide (F (513 + v) ≠ none))
theorem y0_lt (va : Int) : y0 va < 513 + 262144 := by
  have h1 := y1_le va
  have h2 := i1_lt va
  unfold y0 ch
  rw [if_neg (by omega)]
  omega
theorem nodes_y0 {F F' : Nat → Option Nat} {y : Nat} (hy : 513 ≤ y ∧ y < 513 + 262144) (h0 : F y = none) (h1 : F' y ≠ none) (h : ∀ z, z ≠ y → (F' z = none ↔ F z = none)) : nodesF F' = nodesF F + 1 := by
  unfold nodesF
  rw [cnt_ext (M := 512) (p := fun v => decide (F' (1 + v) ≠ none)) (q := fun v => decide (F (1 + v) ≠ none)) (fun v hv => decide_eq_decide.2 (not_congr (h _ (by omega)))),
    cnt_add (M := 262144) (v0 := y - 513) (p := fun v => decide (F (513 + v) ≠ none)) (q := fun v => decide (F' (513 + v) ≠ none)) (by omega) (by rw [show 513 + (y - 513) = y by omega]; simp [h0]) (by rw [show 513 + (y - 513) = y by omega]; simpa using h1) (fun v hv hne => decide_eq_decide.2 (not_congr (h _ (by omega))))]
  omega
theorem nodes_y1 {F F' : Nat → Option Nat} {y : Nat} (hy : 1 ≤ y ∧ y ≤ 512) (h0 : F y = none) (h1 : F' y ≠ none) (h : ∀ z, z ≠ y → (F' z = none ↔ F z = none)) : nodesF F' = nodesF F + 1 := by
  unfold nodesF
  rw [cnt_ext (M := 262144) (p := fun v => decide (F' (513 + v) ≠ none)) (q := fun v => decide (F (513 + v) ≠ none)) (fun v hv => decide_eq_decide.2 (not_congr (h _ (by omega)))),
    cnt_add (M := 512) (v0 := y - 1) (p := fun v => decide (F (1 + v) ≠ none)) (q := fun v => decide (F' (1 + v) ≠ none)) (by omega) (by rw [show 1 + (y - 1) = y by omega]; simp [h0]) (by rw [show 1 + (y - 1) = y by omega]; simpa using h1) (fun v hv hne => decide_eq_decide.2 (not_congr (h _ (by omega))))]
  omega
section
variable {N : Nat} {L L' : List Nat} {B B' : Nat → Int} {F F' : Nat → Option Nat} {lf lf' : Nat → Nat → Int}
theorem TL.nodesF {l : List Pg} (h : TL F lf l) (hP : PT N L B F lf) : nodesF F = prt (gV l) 1073741824 l.length + prt (gV l) 2097152 l.length := by
  have h1 := h.nodes hP 0
  have h2 := ndl_nodes hP 0
  unfold Go.Proofs.YtblmkkhiojbcjaaGreat.nodesF
  omega
/-- The frames that a table takes: taking a page away. -/
theorem PrR.len {va : Int} {q g : Nat} (h : PrR L F lf va q g L' F' lf') (hg : F (y1 va) = some g) (hq : F (y0 va) = some q) : L'.length + nodesF F' = L.length + nodesF F := by
  have hy0 := y0_ge va
  have hy1 := y1_le va
  have hlt := y0_lt va
  have e1 : nodesF F = nodesF (setN F (y0 va)) + 1 := nodes_y0 (y := y0 va) ⟨hy0, hlt⟩ (by unfold setN; rw [if_pos rfl]) (by rw [hq]; simp) (fun z hz => by unfold setN; rw [if_neg hz])
  rcases h with ⟨rfl, rfl, _⟩ | ⟨rfl, rfl, _⟩ | ⟨rfl, rfl, _⟩
  · rfl
  · rw [List.length_cons]
    omega
  · have e2 : nodesF (setN F (y0 va)) = nodesF (setN (setN F (y0 va)) (y1 va)) + 1 := nodes_y1 (y := y1 va) ⟨hy1.2, hy1.1⟩ (by unfold setN; rw [if_pos rfl]) (by unfold setN; rw [if_neg (by omega), hg]; simp) (fun z hz => by
      show _ ↔ setN (setN F (y0 va)) (y1 va) z = none
      unfold setN
      rw [if_neg hz])
    rw [List.length_cons, List.length_cons]
    omega
/-- The frames that a table takes: laying a page down. -/
theorem LP.len {va leaf : Int} (h : LP N va leaf L B F lf L' B' F') (hP : PT N L B F lf) : nodesF F' = nodesF F + need F va := by
  have hy0 := y0_ge va
  have hy1 := y1_le va
  have hlt := y0_lt va
  obtain ⟨g, q, hg, hq⟩ := h.has
  have same : ∀ z, z ≠ y1 va → z ≠ y0 va → (F' z = none ↔ F z = none) := fun z h1 h2 => by
    constructor
    · intro e
      cases hf : F z with
      | none => rfl
      | some f => rw [h.ext z f hf] at e; cases e
    · intro e
      cases hf : F' z with
      | none => rfl
      | some f =>
        rcases h.new z f hf with h3 | ⟨_, _, h3⟩
        · rw [e] at h3; cases h3
        · omega
  unfold need
  cases e1 : F (y1 va) with
  | none =>
    have e0 : F (y0 va) = none := by
      cases hf : F (y0 va) with
      | none => rfl
      | some f => exact absurd e1 (hP.up (y1 va) (i1 va) hy1.1 (i1_lt va) (by rw [show ch (y1 va) (i1 va) = y0 va from rfl, hf]; simp))
    rw [if_pos rfl]
    have a1 : nodesF (setO F (y1 va) g) = nodesF F + 1 := nodes_y1 (y := y1 va) ⟨hy1.2, hy1.1⟩ e1 (by unfold setO; rw [if_pos rfl]; simp) (fun z hz => by unfold setO; rw [if_neg hz])
    have a2 : nodesF F' = nodesF (setO F (y1 va) g) + 1 := nodes_y0 (y := y0 va) ⟨hy0, hlt⟩ (by unfold setO; rw [if_neg (by omega)]; exact e0) (by rw [hq]; simp) (fun z hz => by
      unfold setO
      split
      · next e => rw [e, hg]
      · next e => exact same z e hz)
    omega
  | some g0 =>
    rw [if_neg (by simp)]
    have s1 : F' (y1 va) = some g0 := h.ext _ _ e1
    cases e0 : F (y0 va) with
    | none =>
      rw [if_pos rfl]
      exact nodes_y0 (y := y0 va) ⟨hy0, hlt⟩ e0 (by rw [hq]; simp) (fun z hz => by
        by_cases e : z = y1 va
        · rw [e, s1, e1]
        · exact same z e hz)
    | some q0 =>
      rw [if_neg (by simp)]
      have s0 : F' (y0 va) = some q0 := h.ext _ _ e0
      unfold nodesF
      have all : ∀ z, F' z = none ↔ F z = none := fun z => by
        by_cases e : z = y1 va
        · rw [e, s1, e1]
        · by_cases e2 : z = y0 va
          · rw [e2, s0, e0]
          · exact same z e e2
      rw [cnt_ext (M := 512) (p := fun v => decide (F' (1 + v) ≠ none)) (q := fun v => decide (F (1 + v) ≠ none)) (fun v hv => decide_eq_decide.2 (not_congr (all _))), cnt_ext (M := 262144) (p := fun v => decide (F' (513 + v) ≠ none)) (q := fun v => decide (F (513 + v) ≠ none)) (fun v hv => decide_eq_decide.2 (not_congr (all _)))]
      exact (Nat.add_zero _).symm
end
end Go.Proofs.YtblmkkhiojbcjaaGreat
namespace Go.Proofs.YtblmkkhiojbcjaaGreat
open Go Go.RowKit
set_option linter.unusedVariables false
set_option linter.unusedSimpArgs false
section
variable {w : World} {p b m N : Nat} {B : Nat → Int} {L : List Nat} {F : Nat → Option Nat} {lf : Nat → Nat → Int}
theorem look_need (h : PT N L B F lf) (hN : N ≤ 4096) {r : Nat} (hr : F 0 = some r) (va : Int) (hz : lf (y0 va) (i0 va) = 0) : (look N L B (ad r) va).k = 0 ∧ (look N L B (ad r) va).l = (need F va : Nat) := by
  unfold need
  cases h1 : F (y1 va) with
  | none =>
    rw [look_2 h hr va h1]
    simp
  | some g =>
    cases h0 : F (y0 va) with
    | none =>
      rw [look_1 h hN hr va h1 h0]
      simp
    | some q =>
      rw [look_0 h hN hr va h1 h0, hz]
      simp [kd_zero]
theorem look_full (h : PT N L B F lf) (hN : N ≤ 4096) {r : Nat} (hr : F 0 = some r) (va : Int) (hz : lf (y0 va) (i0 va) ≠ 0) : (look N L B (ad r) va).k = 2 ∧ (look N L B (ad r) va).l = 0 ∧ (look N L B (ad r) va).e = lf (y0 va) (i0 va) := by
  obtain ⟨g, q, h1, h0⟩ := h.way va hz
  rw [look_0 h hN hr va h1 h0]
  refine ⟨?_, rfl, rfl⟩
  rcases h.lv (y0 va) (i0 va) with h2 | h2
  · exact absurd h2 hz
  · exact h2.1
/-- P4.6 on a table, whole. -/
theorem map_full (h : Ram w p b m N B L) (hP : PT N L B F lf) {r : Nat} (hr : F 0 = some r) (x : Pg) (hx : okP x) (hmp : (!ho x.2.2 18446744073709551361 && ho x.2.2 10 && (!hs x.2.2 4 || hs x.2.2 2)) = true) :
    Calls Tryz.prog 86 #[.pointer (some ⟨p, 0, .none⟩), .int .u64 (ad r), .int .u64 x.1, .int .u64 x.2.1, .int .u64 x.2.2] w fun e w' =>
      (lf (y0 x.1) (i0 x.1) ≠ 0 ∧ e = .returned (.int .i64 84) ∧ Below w.heap.size w w') ∨ (lf (y0 x.1) (i0 x.1) = 0 ∧ L.length < need F x.1 ∧ e = .returned (.int .i64 85) ∧ Below w.heap.size w w') ∨
      (lf (y0 x.1) (i0 x.1) = 0 ∧ need F x.1 ≤ L.length ∧ e = .returned (.int .i64 0) ∧ ∃ B' L' F', LP N x.1 (toP x.2.1 x.2.2) L B F lf L' B' F' ∧ L.length = need F x.1 + L'.length ∧ Ram w' p b m N B' L' ∧ Fra p b m w w') := by
  have hN := h.mem.n2
  have hrN := hP.held 0 r hr
  have hrb : 0 ≤ ad r ∧ ad r < 18446744073709551616 := by unfold ad; omega
  obtain ⟨hv, hpa, hpm, hkd⟩ := hx
  have htp := toP_val x.2.1 x.2.2 ⟨hpa.1, hpa.2.1⟩ ⟨hpm.1, by omega⟩ hpm.2.2
  have hk : kd (toP x.2.1 x.2.2) 0 = 2 ∧ 0 ≤ toP x.2.1 x.2.2 ∧ toP x.2.1 x.2.2 < 18446744073709551616 := ⟨hkd, by omega, by omega⟩
  refine (map_late h (ad r) x.1 x.2.1 x.2.2 hrb ⟨hv.1, by omega⟩ ⟨hpa.1, by omega⟩ ⟨hv.2.2, hv.2.1⟩ ⟨hpa.2.2, hpa.2.1⟩ hmp).mono fun e w' hM => ?_
  unfold MapP at hM
  have hnd := hP.ndB hr
  by_cases hz : lf (y0 x.1) (i0 x.1) = 0
  · obtain ⟨l1, l2⟩ := look_need hP hN hr x.1 hz
    rw [l1, l2] at hM
    rcases hM with ⟨h1, _⟩ | ⟨_, h1, _⟩ | ⟨_, _, h1, h2, h3⟩ | ⟨_, _, h0, h2, B', L', h3, h4, h5, h6⟩
    · rw [hnd] at h1; cases h1
    · exact absurd rfl h1
    · exact .inr (.inl ⟨hz, by omega, h2, h3⟩)
    · obtain ⟨F', R⟩ := lays_pt hP hN h.nd h.lt hr hk h3
      refine .inr (.inr ⟨hz, by omega, h2, B', L', F', R, ?_, h5, h6⟩)
      have h7 := congrArg List.length h4
      rw [List.length_append, List.length_take] at h7
      simp only [Int.toNat_natCast] at h7
      omega
  · obtain ⟨l1, _⟩ := look_full hP hN hr x.1 hz
    rw [l1] at hM
    rcases hM with ⟨h1, _⟩ | ⟨_, _, h1, h2⟩ | ⟨_, h1, _⟩ | ⟨_, h1, _⟩
    · rw [hnd] at h1; cases h1
    · exact .inl ⟨hz, h1, h2⟩
    · omega
    · omega
end
end Go.Proofs.YtblmkkhiojbcjaaGreat
namespace Go.Proofs.YtblmkkhiojbcjaaGreat
open Go Go.RowKit Go.Shelf
set_option linter.unusedVariables false
set_option linter.unusedSimpArgs false
/-- Ranging over such an iterator, with a body that may leave by 'return'. -/
theorem range_GL {n : Nat} {α : Type} {g : Operand} {ps : Array Tmp} {assign body : Code} {Q : Exit → Act → World → Prop} {a : Act} {w : World}
    (h1 : 1 ≤ n) {gf : Nat} {lb : Array Value} (hg : a.eval g = .func (.func gf) #[] lb) (eg : ∀ args w, (callFunc gf args).run Tryz.prog w = .ok (.enter gf args) w)
    {encs : α → Array Value} {L : List α} {w0 : World} {p b mm : Nat} (hb0 : Below w0.heap.size w0 w) (hseq : SeqG (n - 1) gf lb encs L p b mm w0) (hpb : p < w.heap.size ∧ b < w.heap.size ∧ mm < w.heap.size)
    (hps : ∀ x, (encs x).size = ps.size) (I : List α → World → Prop) (Good : Nat → World → Prop) (hI : OwnFrom w.heap.size I) (gd : GdJ Good I)
    (hgp : ∀ s k W l o o', I s W → Good k W → k ≠ l → w.heap.size ≤ l → W.heap[l]? = some o → o.isCells = false → Good k (W.putObj l o'))
    (h0 : I [] w) (Ix : List α → World → Prop) (hIx : ∀ pre W l o o', Ix pre W → w.heap.size ≤ l → W.heap[l]? = some o → o.isCells = false → Ix pre (W.putObj l o')) (Ax : α → Act → World → Prop) (hAx : ∀ x a' W l o o', Ax x a' W → w.heap.size ≤ l → W.heap[l]? = some o → o.isCells = false → Ax x a' (W.putObj l o'))
    (hassign : ∀ (l : Nat) (x : α) (W : World) (K : Act → World → Prop), w.heap.size ≤ W.heap.size → (∀ a' W', Below W.heap.size W W' → Ax x a' W' → K a' W') →
      assign.wpIn (Fence.wide.inRound l) (n - 1 - 1) Tryz.prog (Exit.then K (fun _ _ _ => False)) { tmps := (ps.zip (encs x)).foldl (fun t (p, v) => t.setIfInBounds p v) a.tmps, defers := [] } W)
    (hbody : ∀ (l : Nat) (pre : List α) (x : α) (a' : Act) (W : World), I pre W → Ax x a' W → pre ++ [x] <+: L → body.wpIn (Fence.wide.inRound l) (n - 1 - 1) Tryz.prog (fun e _ W' => (e = .normal ∧ KeepsFrom w.heap.size W W' ∧ KpG Good p b mm W W' ∧ I (pre ++ [x]) W') ∨ (e = .ret ∧ KeepsFrom w.heap.size W W' ∧ Ix (pre ++ [x]) W')) a' W)
    (hdone : ∀ (D : Nat) (W : World), w.heap.size ≤ D → I L W → W.heap[D]? = some (.deferred (some [])) → Q .normal { a with defers := { target := .collected D, args := #[] } :: a.defers } W)
    (hleft : ∀ (D : Nat) (W : World) (pre : List α), w.heap.size ≤ D → pre <+: L → Ix pre W → W.heap[D]? = some (.deferred (some [])) → Q .ret { a with defers := { target := .collected D, args := #[] } :: a.defers } W) :
    (Code.rangeFunc g ps assign body).wpIn Fence.wide n Tryz.prog Q a w := by
  refine wpIn_rangeFunc fun fn hfn => ?_
  rw [show Fence.wide.round = none from rfl]
  let rec' : LoopState → Option Code → Loop := fun st pe => { state := st, pending := pe, fn := fn, tmps := a.tmps, params := ps, assign := assign, body := body, defers := w.heap.size }
  obtain ⟨V, hV⟩ : ∃ V, (w.alloc (.deferred (some []))).alloc (.loop (rec' .ready none)) = V := ⟨_, rfl⟩
  have hVs : V.heap.size = w.heap.size + 2 := by rw [← hV]; simp
  have vL : V.heap[w.heap.size + 1]? = some (.loop (rec' .ready none)) := by
    rw [← hV]; simpa using World.alloc_heap_new (w.alloc (.deferred (some []))) (.loop (rec' .ready none))
  have vD : V.heap[w.heap.size]? = some (.deferred (some [])) := by
    rw [← hV]; exact (Below.heap_alloc _ _ _ (by simp)).trans (World.alloc_heap_new w _)
  have vI : I [] V := by rw [← hV]; exact hI.alloc _ (hI.alloc _ h0)
  have vB : Below w.heap.size w V := by rw [← hV]; exact ((Below.refl _ w).alloc (Nat.le_refl _) _).alloc (by simp) _
  refine ⟨w.heap.size + 1, [{ target := .collected w.heap.size, args := #[] }], V, { target := .fn (.func gf) lb, args := #[.func (.yield (w.heap.size + 1)) #[] #[]] }, V, gf, #[.func (.yield (w.heap.size + 1)) #[] #[]] ++ lb, V, ?_, ?_, ?_, ?_, fun _ => h1, ?_⟩
  · rw [← hV]; exact run_enterLoop_outer _ _ _ _ _
  · simp only [resolve, hg]; simp [go_sem]
  · intro f' hf'; exact trivial
  · simp [invoke, go_sem, eg]
  have gdJ : GdJ (fun k W => Good k W ∧ k ≠ w.heap.size ∧ k ≠ w.heap.size + 1) (fun pre W => I pre W ∧ W.heap[w.heap.size + 1]? = some (.loop (rec' .ready none)) ∧ W.heap[w.heap.size]? = some (.deferred (some []))) := by
    have low : ∀ W W', Mv (fun k W => Good k W ∧ k ≠ w.heap.size ∧ k ≠ w.heap.size + 1) W W' → Mv Good W W' := fun W W' h => ⟨h.os, h.tape, h.output, h.size, fun k hk hn => h.block k hk (fun e => hn e.1)⟩
    refine ⟨fun s W W' hs hm => ⟨gd.move s W W' hs.1 (low _ _ hm), ?_, ?_⟩, fun s W W' k hs hm hk => ⟨gd.mono s W W' k hs.1 (low _ _ hm) hk.1, hk.2⟩, fun s W W' k hs hm hk => ⟨gd.fresh s W W' k hs.1 (low _ _ hm) hk, ?_, ?_⟩⟩
    · exact (hm.block _ (Array.getElem?_eq_some_iff.1 hs.2.1).1 (fun e => e.2.2 rfl)).trans hs.2.1
    · exact (hm.block _ (Array.getElem?_eq_some_iff.1 hs.2.2).1 (fun e => e.2.1 rfl)).trans hs.2.2
    · have := (Array.getElem?_eq_some_iff.1 hs.2.2).1; omega
    · have := (Array.getElem?_eq_some_iff.1 hs.2.1).1; omega
  refine (hseq (w.heap.size + 1) _ (fun pre W => Ix pre W ∧ W.heap[w.heap.size + 1]? = some (.loop (rec' .done (some .ret))) ∧ W.heap[w.heap.size]? = some (.deferred (some []))) _ V (hb0.trans (vB.mono hb0.size)) gdJ ?_ ⟨vI, vL, vD⟩).mono ?_
  · rintro k pre x W ⟨hi, hl, hk⟩ hlen
    have hlt : w.heap.size + 1 < W.heap.size := (Array.getElem?_eq_some_iff.1 hl).1
    refine yield_anyT rfl k (m := n - 1 - 1) ⟨fn, _, assign, body, run_yield (P := Tryz.prog) (args := encs x) hl (hps x), roundIn_of_wpIn hfn (hassign _ x W _ (by omega) (fun a' W1 hb1 hax => ?_))⟩
    have hi1 : I pre W1 := hI pre W W1 none hi ⟨hb1.os, hb1.tape, hb1.output, hb1.size, fun k hk _ => hb1.block k hk⟩ (fun r e => by cases e)
    have hl1 : W1.heap[w.heap.size + 1]? = some (.loop (rec' .ready none)) := (hb1.block _ hlt).trans hl
    have hk1 : W1.heap[w.heap.size]? = some (.deferred (some [])) := (hb1.block _ (by omega)).trans hk
    have hlt1 : w.heap.size + 1 < W1.heap.size := (Array.getElem?_eq_some_iff.1 hl1).1
    refine ⟨_, run_beginRound hl1 rfl, ?_⟩
    refine wpIn_mono (hbody _ pre x a' _ (hI.putObj _ hi1 (by omega) hl1 rfl) (hAx _ _ _ _ _ _ hax (by omega) hl1 rfl) hlen) ?_
    rintro e a3 W3 (⟨rfl, hk3, hkp, hi3⟩ | ⟨rfl, hk3, hix⟩)
    rotate_left
    · have hl3 := hk3.same (w.heap.size + 1) _ (by omega) (World.putObj_heap_same hlt1) rfl
      have hd3 := hk3.same w.heap.size _ (Nat.le_refl _) ((World.putObj_heap_other (by omega)).trans hk1) rfl
      exact ⟨_, _, run_endRound (P := Tryz.prog) (some .ret) hl3, .inr ⟨rfl, hIx _ _ _ _ _ hix (by omega) hl3 rfl, World.putObj_heap_same (Array.getElem?_eq_some_iff.1 hl3).1, (World.putObj_heap_other (by omega)).trans hd3⟩⟩
    have hl3 := hk3.same (w.heap.size + 1) _ (by omega) (World.putObj_heap_same hlt1) rfl
    have hd3 := hk3.same w.heap.size _ (Nat.le_refl _) ((World.putObj_heap_other (by omega)).trans hk1) rfl
    refine ⟨_, _, run_endRound (P := Tryz.prog) none hl3, .inl ⟨rfl, ⟨hI.putObj _ hi3 (by omega) hl3 rfl, World.putObj_heap_same (Array.getElem?_eq_some_iff.1 hl3).1, (World.putObj_heap_other (by omega)).trans hd3⟩, ?_⟩⟩
    have sz : ∀ (X : World) (l : Nat) (o : Obj), (X.putObj l o).heap.size = X.heap.size := fun X l o => by simp [World.putObj]
    refine ⟨fun q o hq ho => ?_, ?_, ?_, ?_, ?_⟩
    · have hql : q < W.heap.size := (Array.getElem?_eq_some_iff.1 ho).1
      have g1 : Good q W1 := gd.mono pre W W1 q hi (Mv.below hb1) hq.1
      have o1 : W1.heap[q]? = some o := (hb1.block q hql).trans ho
      have g2 := hgp pre q W1 _ _ (.loop { rec' .ready none with state := .busy }) hi1 g1 hq.2.2 (by omega) hl1 rfl
      have o2 : (W1.putObj (w.heap.size + 1) (.loop { rec' .ready none with state := .busy })).heap[q]? = some o := (World.putObj_heap_other hq.2.2).trans o1
      obtain ⟨o3, g3⟩ := hkp.1 q o g2 o2
      exact ⟨(World.putObj_heap_other hq.2.2).trans o3, hgp _ q W3 _ _ _ hi3 g3 hq.2.2 (by omega) hl3 rfl, hq.2⟩
    · rw [World.putObj_heap_other (by omega), hkp.2.1, World.putObj_heap_other (by omega)]; exact hb1.block _ (by omega)
    · rw [World.putObj_heap_other (by omega), hkp.2.2.1, World.putObj_heap_other (by omega)]; exact hb1.block _ (by omega)
    · rw [World.putObj_heap_other (by omega), hkp.2.2.2.1, World.putObj_heap_other (by omega)]; exact hb1.block _ (by omega)
    · rw [sz]
      have := hkp.2.2.2.2
      rw [sz] at this
      exact Nat.le_trans hb1.size this
  · rintro e W2 ⟨⟨v, rfl⟩, ⟨hi, hl, hk⟩ | ⟨pre, hpre, hx, hl, hk⟩⟩
    · exact ⟨none, _, run_endLoop (P := Tryz.prog) hl (by simp [rec']), hdone _ _ (Nat.le_refl _) (hI.putObj _ hi (by omega) hl rfl) ((World.putObj_heap_other (by omega)).trans hk)⟩
    · exact ⟨some .ret, _, run_endLoop (P := Tryz.prog) hl (by simp [rec']), wpIn_ret (hleft _ _ pre (Nat.le_refl _) hpre (hIx _ _ _ _ _ hx (by omega) hl rfl) ((World.putObj_heap_other (by omega)).trans hk))⟩
end Go.Proofs.YtblmkkhiojbcjaaGreat
namespace Go.Proofs.YtblmkkhiojbcjaaGreat
open Go Go.RowKit Go.Shelf
set_option linter.unusedVariables false
set_option linter.unusedSimpArgs false
/-- An iterator that leans on its body to keep what is not its own even where it leaves. -/
def SeqK {α : Type} (n g : Nat) (lb : Array Value) (encs : α → Array Value) (L : List α) (p b mm : Nat) (w : World) : Prop :=
  ∀ (l : Nat) (J Jx : List α → World → Prop) (Good : Nat → World → Prop) (W : World), Below w.heap.size w W → GdJ Good J →
    (∀ k pre x W1, J pre W1 → pre ++ [x] <+: L → YieldAt Fence.wide k Tryz.prog l (encs x) W1 fun e W' => (e = .returned (.bool true) ∧ J (pre ++ [x]) W' ∧ KpG Good p b mm W1 W') ∨ (e = .returned (.bool false) ∧ Jx (pre ++ [x]) W' ∧ KpG Good p b mm W1 W')) →
    (∀ pre W1 W2, Jx pre W1 → Mv Good W1 W2 → Jx pre W2) → J [] W →
    CallsIn Fence.wide n Tryz.prog g (#[.func (.yield l) #[] #[]] ++ lb) W fun e W' => (∃ v, e = .returned v) ∧ (J L W' ∨ ∃ pre, pre <+: L ∧ Jx pre W')
/-- Ranging over such an iterator, with a body that may leave by 'return'. -/
theorem range_K {n : Nat} {α : Type} {g : Operand} {ps : Array Tmp} {assign body : Code} {Q : Exit → Act → World → Prop} {a : Act} {w : World}
    (h1 : 1 ≤ n) {gf : Nat} {lb : Array Value} (hg : a.eval g = .func (.func gf) #[] lb) (eg : ∀ args w, (callFunc gf args).run Tryz.prog w = .ok (.enter gf args) w)
    {encs : α → Array Value} {L : List α} {w0 : World} {p b mm : Nat} (hb0 : Below w0.heap.size w0 w) (hseq : SeqK (n - 1) gf lb encs L p b mm w0) (hpb : p < w.heap.size ∧ b < w.heap.size ∧ mm < w.heap.size)
    (hps : ∀ x, (encs x).size = ps.size) (I : List α → World → Prop) (Good : Nat → World → Prop) (hI : OwnFrom w.heap.size I) (gd : GdJ Good I)
    (hgp : ∀ s k W l o o', I s W → Good k W → k ≠ l → w.heap.size ≤ l → W.heap[l]? = some o → o.isCells = false → Good k (W.putObj l o'))
    (h0 : I [] w) (Ix : List α → World → Prop) (hIx : ∀ pre W l o o', Ix pre W → w.heap.size ≤ l → W.heap[l]? = some o → o.isCells = false → Ix pre (W.putObj l o')) (hIxm : ∀ pre W1 W2, Ix pre W1 → Mv Good W1 W2 → Ix pre W2)
    (hgx : ∀ s k W l o o', Ix s W → Good k W → k ≠ l → w.heap.size ≤ l → W.heap[l]? = some o → o.isCells = false → Good k (W.putObj l o')) (Ax : α → Act → World → Prop) (hAx : ∀ x a' W l o o', Ax x a' W → w.heap.size ≤ l → W.heap[l]? = some o → o.isCells = false → Ax x a' (W.putObj l o'))
    (hassign : ∀ (l : Nat) (x : α) (W : World) (K : Act → World → Prop), w.heap.size ≤ W.heap.size → (∀ a' W', Below W.heap.size W W' → Ax x a' W' → K a' W') →
      assign.wpIn (Fence.wide.inRound l) (n - 1 - 1) Tryz.prog (Exit.then K (fun _ _ _ => False)) { tmps := (ps.zip (encs x)).foldl (fun t (p, v) => t.setIfInBounds p v) a.tmps, defers := [] } W)
    (hbody : ∀ (l : Nat) (pre : List α) (x : α) (a' : Act) (W : World), I pre W → Ax x a' W → pre ++ [x] <+: L → body.wpIn (Fence.wide.inRound l) (n - 1 - 1) Tryz.prog (fun e _ W' => (e = .normal ∧ KeepsFrom w.heap.size W W' ∧ KpG Good p b mm W W' ∧ I (pre ++ [x]) W') ∨ (e = .ret ∧ KeepsFrom w.heap.size W W' ∧ KpG Good p b mm W W' ∧ Ix (pre ++ [x]) W')) a' W)
    (hdone : ∀ (D : Nat) (W : World), w.heap.size ≤ D → I L W → W.heap[D]? = some (.deferred (some [])) → Q .normal { a with defers := { target := .collected D, args := #[] } :: a.defers } W)
    (hleft : ∀ (D : Nat) (W : World) (pre : List α), w.heap.size ≤ D → pre <+: L → Ix pre W → W.heap[D]? = some (.deferred (some [])) → Q .ret { a with defers := { target := .collected D, args := #[] } :: a.defers } W) :
    (Code.rangeFunc g ps assign body).wpIn Fence.wide n Tryz.prog Q a w := by
  refine wpIn_rangeFunc fun fn hfn => ?_
  rw [show Fence.wide.round = none from rfl]
  let rec' : LoopState → Option Code → Loop := fun st pe => { state := st, pending := pe, fn := fn, tmps := a.tmps, params := ps, assign := assign, body := body, defers := w.heap.size }
  obtain ⟨V, hV⟩ : ∃ V, (w.alloc (.deferred (some []))).alloc (.loop (rec' .ready none)) = V := ⟨_, rfl⟩
  have hVs : V.heap.size = w.heap.size + 2 := by rw [← hV]; simp
  have vL : V.heap[w.heap.size + 1]? = some (.loop (rec' .ready none)) := by
    rw [← hV]; simpa using World.alloc_heap_new (w.alloc (.deferred (some []))) (.loop (rec' .ready none))
  have vD : V.heap[w.heap.size]? = some (.deferred (some [])) := by
    rw [← hV]; exact (Below.heap_alloc _ _ _ (by simp)).trans (World.alloc_heap_new w _)
  have vI : I [] V := by rw [← hV]; exact hI.alloc _ (hI.alloc _ h0)
  have vB : Below w.heap.size w V := by rw [← hV]; exact ((Below.refl _ w).alloc (Nat.le_refl _) _).alloc (by simp) _
  refine ⟨w.heap.size + 1, [{ target := .collected w.heap.size, args := #[] }], V, { target := .fn (.func gf) lb, args := #[.func (.yield (w.heap.size + 1)) #[] #[]] }, V, gf, #[.func (.yield (w.heap.size + 1)) #[] #[]] ++ lb, V, ?_, ?_, ?_, ?_, fun _ => h1, ?_⟩
  · rw [← hV]; exact run_enterLoop_outer _ _ _ _ _
  · simp only [resolve, hg]; simp [go_sem]
  · intro f' hf'; exact trivial
  · simp [invoke, go_sem, eg]
  have gdJ : GdJ (fun k W => Good k W ∧ k ≠ w.heap.size ∧ k ≠ w.heap.size + 1) (fun pre W => I pre W ∧ W.heap[w.heap.size + 1]? = some (.loop (rec' .ready none)) ∧ W.heap[w.heap.size]? = some (.deferred (some []))) := by
    have low : ∀ W W', Mv (fun k W => Good k W ∧ k ≠ w.heap.size ∧ k ≠ w.heap.size + 1) W W' → Mv Good W W' := fun W W' h => ⟨h.os, h.tape, h.output, h.size, fun k hk hn => h.block k hk (fun e => hn e.1)⟩
    refine ⟨fun s W W' hs hm => ⟨gd.move s W W' hs.1 (low _ _ hm), ?_, ?_⟩, fun s W W' k hs hm hk => ⟨gd.mono s W W' k hs.1 (low _ _ hm) hk.1, hk.2⟩, fun s W W' k hs hm hk => ⟨gd.fresh s W W' k hs.1 (low _ _ hm) hk, ?_, ?_⟩⟩
    · exact (hm.block _ (Array.getElem?_eq_some_iff.1 hs.2.1).1 (fun e => e.2.2 rfl)).trans hs.2.1
    · exact (hm.block _ (Array.getElem?_eq_some_iff.1 hs.2.2).1 (fun e => e.2.1 rfl)).trans hs.2.2
    · have := (Array.getElem?_eq_some_iff.1 hs.2.2).1; omega
    · have := (Array.getElem?_eq_some_iff.1 hs.2.1).1; omega
  refine (hseq (w.heap.size + 1) _ (fun pre W => Ix pre W ∧ W.heap[w.heap.size + 1]? = some (.loop (rec' .done (some .ret))) ∧ W.heap[w.heap.size]? = some (.deferred (some []))) _ V (hb0.trans (vB.mono hb0.size)) gdJ ?_ ?_ ⟨vI, vL, vD⟩).mono ?_
  · rintro k pre x W ⟨hi, hl, hk⟩ hlen
    have hlt : w.heap.size + 1 < W.heap.size := (Array.getElem?_eq_some_iff.1 hl).1
    refine yield_anyT rfl k (m := n - 1 - 1) ⟨fn, _, assign, body, run_yield (P := Tryz.prog) (args := encs x) hl (hps x), roundIn_of_wpIn hfn (hassign _ x W _ (by omega) (fun a' W1 hb1 hax => ?_))⟩
    have hi1 : I pre W1 := hI pre W W1 none hi ⟨hb1.os, hb1.tape, hb1.output, hb1.size, fun k hk _ => hb1.block k hk⟩ (fun r e => by cases e)
    have hl1 : W1.heap[w.heap.size + 1]? = some (.loop (rec' .ready none)) := (hb1.block _ hlt).trans hl
    have hk1 : W1.heap[w.heap.size]? = some (.deferred (some [])) := (hb1.block _ (by omega)).trans hk
    have hlt1 : w.heap.size + 1 < W1.heap.size := (Array.getElem?_eq_some_iff.1 hl1).1
    refine ⟨_, run_beginRound hl1 rfl, ?_⟩
    refine wpIn_mono (hbody _ pre x a' _ (hI.putObj _ hi1 (by omega) hl1 rfl) (hAx _ _ _ _ _ _ hax (by omega) hl1 rfl) hlen) ?_
    rintro e a3 W3 (⟨rfl, hk3, hkp, hi3⟩ | ⟨rfl, hk3, hkp, hix⟩)
    rotate_left
    · have hl3 := hk3.same (w.heap.size + 1) _ (by omega) (World.putObj_heap_same hlt1) rfl
      have hd3 := hk3.same w.heap.size _ (Nat.le_refl _) ((World.putObj_heap_other (by omega)).trans hk1) rfl
      refine ⟨_, _, run_endRound (P := Tryz.prog) (some .ret) hl3, .inr ⟨rfl, ⟨hIx _ _ _ _ _ hix (by omega) hl3 rfl, World.putObj_heap_same (Array.getElem?_eq_some_iff.1 hl3).1, (World.putObj_heap_other (by omega)).trans hd3⟩, ?_⟩⟩
      have sz : ∀ (X : World) (l : Nat) (o : Obj), (X.putObj l o).heap.size = X.heap.size := fun X l o => by simp [World.putObj]
      refine ⟨fun q o hq ho => ?_, ?_, ?_, ?_, ?_⟩
      · have hql : q < W.heap.size := (Array.getElem?_eq_some_iff.1 ho).1
        have g1 : Good q W1 := gd.mono pre W W1 q hi (Mv.below hb1) hq.1
        have o1 : W1.heap[q]? = some o := (hb1.block q hql).trans ho
        have g2 := hgp pre q W1 _ _ (.loop { rec' .ready none with state := .busy }) hi1 g1 hq.2.2 (by omega) hl1 rfl
        have o2 : (W1.putObj (w.heap.size + 1) (.loop { rec' .ready none with state := .busy })).heap[q]? = some o := (World.putObj_heap_other hq.2.2).trans o1
        obtain ⟨o3, g3⟩ := hkp.1 q o g2 o2
        exact ⟨(World.putObj_heap_other hq.2.2).trans o3, hgx _ q W3 _ _ _ hix g3 hq.2.2 (by omega) hl3 rfl, hq.2⟩
      · rw [World.putObj_heap_other (by omega), hkp.2.1, World.putObj_heap_other (by omega)]; exact hb1.block _ (by omega)
      · rw [World.putObj_heap_other (by omega), hkp.2.2.1, World.putObj_heap_other (by omega)]; exact hb1.block _ (by omega)
      · rw [World.putObj_heap_other (by omega), hkp.2.2.2.1, World.putObj_heap_other (by omega)]; exact hb1.block _ (by omega)
      · rw [sz]
        have := hkp.2.2.2.2
        rw [sz] at this
        exact Nat.le_trans hb1.size this
    have hl3 := hk3.same (w.heap.size + 1) _ (by omega) (World.putObj_heap_same hlt1) rfl
    have hd3 := hk3.same w.heap.size _ (Nat.le_refl _) ((World.putObj_heap_other (by omega)).trans hk1) rfl
    refine ⟨_, _, run_endRound (P := Tryz.prog) none hl3, .inl ⟨rfl, ⟨hI.putObj _ hi3 (by omega) hl3 rfl, World.putObj_heap_same (Array.getElem?_eq_some_iff.1 hl3).1, (World.putObj_heap_other (by omega)).trans hd3⟩, ?_⟩⟩
    have sz : ∀ (X : World) (l : Nat) (o : Obj), (X.putObj l o).heap.size = X.heap.size := fun X l o => by simp [World.putObj]
    refine ⟨fun q o hq ho => ?_, ?_, ?_, ?_, ?_⟩
    · have hql : q < W.heap.size := (Array.getElem?_eq_some_iff.1 ho).1
      have g1 : Good q W1 := gd.mono pre W W1 q hi (Mv.below hb1) hq.1
      have o1 : W1.heap[q]? = some o := (hb1.block q hql).trans ho
      have g2 := hgp pre q W1 _ _ (.loop { rec' .ready none with state := .busy }) hi1 g1 hq.2.2 (by omega) hl1 rfl
      have o2 : (W1.putObj (w.heap.size + 1) (.loop { rec' .ready none with state := .busy })).heap[q]? = some o := (World.putObj_heap_other hq.2.2).trans o1
      obtain ⟨o3, g3⟩ := hkp.1 q o g2 o2
      exact ⟨(World.putObj_heap_other hq.2.2).trans o3, hgp _ q W3 _ _ _ hi3 g3 hq.2.2 (by omega) hl3 rfl, hq.2⟩
    · rw [World.putObj_heap_other (by omega), hkp.2.1, World.putObj_heap_other (by omega)]; exact hb1.block _ (by omega)
    · rw [World.putObj_heap_other (by omega), hkp.2.2.1, World.putObj_heap_other (by omega)]; exact hb1.block _ (by omega)
    · rw [World.putObj_heap_other (by omega), hkp.2.2.2.1, World.putObj_heap_other (by omega)]; exact hb1.block _ (by omega)
    · rw [sz]
      have := hkp.2.2.2.2
      rw [sz] at this
      exact Nat.le_trans hb1.size this
  · rintro pre W1 W2 ⟨hx, hl, hk⟩ hm
    refine ⟨hIxm pre W1 W2 hx ⟨hm.os, hm.tape, hm.output, hm.size, fun k hk2 hn => hm.block k hk2 (fun e => hn e.1)⟩, ?_, ?_⟩
    · exact (hm.block _ (Array.getElem?_eq_some_iff.1 hl).1 (fun e => e.2.2 rfl)).trans hl
    · exact (hm.block _ (Array.getElem?_eq_some_iff.1 hk).1 (fun e => e.2.1 rfl)).trans hk
  · rintro e W2 ⟨⟨v, rfl⟩, ⟨hi, hl, hk⟩ | ⟨pre, hpre, hx, hl, hk⟩⟩
    · exact ⟨none, _, run_endLoop (P := Tryz.prog) hl (by simp [rec']), hdone _ _ (Nat.le_refl _) (hI.putObj _ hi (by omega) hl rfl) ((World.putObj_heap_other (by omega)).trans hk)⟩
    · exact ⟨some .ret, _, run_endLoop (P := Tryz.prog) hl (by simp [rec']), wpIn_ret (hleft _ _ pre (Nat.le_refl _) hpre (hIx _ _ _ _ _ hx (by omega) hl rfl) ((World.putObj_heap_other (by omega)).trans hk))⟩
end Go.Proofs.YtblmkkhiojbcjaaGreat
namespace Go.Proofs.YtblmkkhiojbcjaaGreat
open Go Go.RowKit Go.Shelf
set_option linter.unusedVariables false
set_option linter.unusedSimpArgs false
/-- The two blocks of a range's own stay. -/
def Kp2 (B : Nat) (W W' : World) : Prop := ∀ l o, (l = B ∨ l = B + 1) → W.heap[l]? = some o → o.isCells = false → W'.heap[l]? = some o
/-- The same for a body that keeps no more than the range's own two blocks. -/
theorem range_GM {n : Nat} {α : Type} {g : Operand} {ps : Array Tmp} {assign body : Code} {Q : Exit → Act → World → Prop} {a : Act} {w : World}
    (h1 : 1 ≤ n) {gf : Nat} {lb : Array Value} (hg : a.eval g = .func (.func gf) #[] lb) (eg : ∀ args w, (callFunc gf args).run Tryz.prog w = .ok (.enter gf args) w)
    {encs : α → Array Value} {L : List α} {w0 : World} {p b mm : Nat} (hb0 : Below w0.heap.size w0 w) (hseq : SeqG (n - 1) gf lb encs L p b mm w0) (hpb : p < w.heap.size ∧ b < w.heap.size ∧ mm < w.heap.size)
    (hps : ∀ x, (encs x).size = ps.size) (I : List α → World → Prop) (Good : Nat → World → Prop) (hIb : ∀ s W W', I s W → Below W.heap.size W W' → I s W') (hIp : ∀ s W l o o', I s W → (l = w.heap.size ∨ l = w.heap.size + 1) → W.heap[l]? = some o → o.isCells = false → I s (W.putObj l o')) (gd : GdJ Good I)
    (hgp : ∀ s k W l o o', I s W → Good k W → k ≠ l → l = w.heap.size + 1 → W.heap[l]? = some o → o.isCells = false → Good k (W.putObj l o'))
    (h0 : I [] w) (Ix : List α → World → Prop) (hIx : ∀ pre W l o o', Ix pre W → l = w.heap.size + 1 → W.heap[l]? = some o → o.isCells = false → Ix pre (W.putObj l o')) (Ax : α → Act → World → Prop) (hAx : ∀ x a' W l o o', Ax x a' W → w.heap.size ≤ l → W.heap[l]? = some o → o.isCells = false → Ax x a' (W.putObj l o'))
    (hassign : ∀ (l : Nat) (x : α) (W : World) (K : Act → World → Prop), w.heap.size ≤ W.heap.size → (∀ a' W', Below W.heap.size W W' → Ax x a' W' → K a' W') →
      assign.wpIn (Fence.wide.inRound l) (n - 1 - 1) Tryz.prog (Exit.then K (fun _ _ _ => False)) { tmps := (ps.zip (encs x)).foldl (fun t (p, v) => t.setIfInBounds p v) a.tmps, defers := [] } W)
    (hbody : ∀ (l : Nat) (pre : List α) (x : α) (a' : Act) (W : World), I pre W → Ax x a' W → pre ++ [x] <+: L → body.wpIn (Fence.wide.inRound l) (n - 1 - 1) Tryz.prog (fun e _ W' => (e = .normal ∧ Kp2 w.heap.size W W' ∧ KpG Good p b mm W W' ∧ I (pre ++ [x]) W') ∨ (e = .ret ∧ Kp2 w.heap.size W W' ∧ Ix (pre ++ [x]) W')) a' W)
    (hdone : ∀ (D : Nat) (W : World), D = w.heap.size → I L W → W.heap[D]? = some (.deferred (some [])) → Q .normal { a with defers := { target := .collected D, args := #[] } :: a.defers } W)
    (hleft : ∀ (D : Nat) (W : World) (pre : List α), D = w.heap.size → pre <+: L → Ix pre W → W.heap[D]? = some (.deferred (some [])) → Q .ret { a with defers := { target := .collected D, args := #[] } :: a.defers } W) :
    (Code.rangeFunc g ps assign body).wpIn Fence.wide n Tryz.prog Q a w := by
  refine wpIn_rangeFunc fun fn hfn => ?_
  rw [show Fence.wide.round = none from rfl]
  let rec' : LoopState → Option Code → Loop := fun st pe => { state := st, pending := pe, fn := fn, tmps := a.tmps, params := ps, assign := assign, body := body, defers := w.heap.size }
  obtain ⟨V, hV⟩ : ∃ V, (w.alloc (.deferred (some []))).alloc (.loop (rec' .ready none)) = V := ⟨_, rfl⟩
  have hVs : V.heap.size = w.heap.size + 2 := by rw [← hV]; simp
  have vL : V.heap[w.heap.size + 1]? = some (.loop (rec' .ready none)) := by
    rw [← hV]; simpa using World.alloc_heap_new (w.alloc (.deferred (some []))) (.loop (rec' .ready none))
  have vD : V.heap[w.heap.size]? = some (.deferred (some [])) := by
    rw [← hV]; exact (Below.heap_alloc _ _ _ (by simp)).trans (World.alloc_heap_new w _)
  have vB : Below w.heap.size w V := by rw [← hV]; exact ((Below.refl _ w).alloc (Nat.le_refl _) _).alloc (by simp) _
  have vI : I [] V := hIb [] w V h0 vB
  refine ⟨w.heap.size + 1, [{ target := .collected w.heap.size, args := #[] }], V, { target := .fn (.func gf) lb, args := #[.func (.yield (w.heap.size + 1)) #[] #[]] }, V, gf, #[.func (.yield (w.heap.size + 1)) #[] #[]] ++ lb, V, ?_, ?_, ?_, ?_, fun _ => h1, ?_⟩
  · rw [← hV]; exact run_enterLoop_outer _ _ _ _ _
  · simp only [resolve, hg]; simp [go_sem]
  · intro f' hf'; exact trivial
  · simp [invoke, go_sem, eg]
  have gdJ : GdJ (fun k W => Good k W ∧ k ≠ w.heap.size ∧ k ≠ w.heap.size + 1) (fun pre W => I pre W ∧ W.heap[w.heap.size + 1]? = some (.loop (rec' .ready none)) ∧ W.heap[w.heap.size]? = some (.deferred (some []))) := by
    have low : ∀ W W', Mv (fun k W => Good k W ∧ k ≠ w.heap.size ∧ k ≠ w.heap.size + 1) W W' → Mv Good W W' := fun W W' h => ⟨h.os, h.tape, h.output, h.size, fun k hk hn => h.block k hk (fun e => hn e.1)⟩
    refine ⟨fun s W W' hs hm => ⟨gd.move s W W' hs.1 (low _ _ hm), ?_, ?_⟩, fun s W W' k hs hm hk => ⟨gd.mono s W W' k hs.1 (low _ _ hm) hk.1, hk.2⟩, fun s W W' k hs hm hk => ⟨gd.fresh s W W' k hs.1 (low _ _ hm) hk, ?_, ?_⟩⟩
    · exact (hm.block _ (Array.getElem?_eq_some_iff.1 hs.2.1).1 (fun e => e.2.2 rfl)).trans hs.2.1
    · exact (hm.block _ (Array.getElem?_eq_some_iff.1 hs.2.2).1 (fun e => e.2.1 rfl)).trans hs.2.2
    · have := (Array.getElem?_eq_some_iff.1 hs.2.2).1; omega
    · have := (Array.getElem?_eq_some_iff.1 hs.2.1).1; omega
  refine (hseq (w.heap.size + 1) _ (fun pre W => Ix pre W ∧ W.heap[w.heap.size + 1]? = some (.loop (rec' .done (some .ret))) ∧ W.heap[w.heap.size]? = some (.deferred (some []))) _ V (hb0.trans (vB.mono hb0.size)) gdJ ?_ ⟨vI, vL, vD⟩).mono ?_
  · rintro k pre x W ⟨hi, hl, hk⟩ hlen
    have hlt : w.heap.size + 1 < W.heap.size := (Array.getElem?_eq_some_iff.1 hl).1
    refine yield_anyT rfl k (m := n - 1 - 1) ⟨fn, _, assign, body, run_yield (P := Tryz.prog) (args := encs x) hl (hps x), roundIn_of_wpIn hfn (hassign _ x W _ (by omega) (fun a' W1 hb1 hax => ?_))⟩
    have hi1 : I pre W1 := hIb pre W W1 hi hb1
    have hl1 : W1.heap[w.heap.size + 1]? = some (.loop (rec' .ready none)) := (hb1.block _ hlt).trans hl
    have hk1 : W1.heap[w.heap.size]? = some (.deferred (some [])) := (hb1.block _ (by omega)).trans hk
    have hlt1 : w.heap.size + 1 < W1.heap.size := (Array.getElem?_eq_some_iff.1 hl1).1
    refine ⟨_, run_beginRound hl1 rfl, ?_⟩
    refine wpIn_mono (hbody _ pre x a' _ (hIp _ _ _ _ _ hi1 (.inr rfl) hl1 rfl) (hAx _ _ _ _ _ _ hax (by omega) hl1 rfl) hlen) ?_
    rintro e a3 W3 (⟨rfl, hk3, hkp, hi3⟩ | ⟨rfl, hk3, hix⟩)
    rotate_left
    · have hl3 := hk3 (w.heap.size + 1) _ (.inr rfl) (World.putObj_heap_same hlt1) rfl
      have hd3 := hk3 w.heap.size _ (.inl rfl) ((World.putObj_heap_other (by omega)).trans hk1) rfl
      exact ⟨_, _, run_endRound (P := Tryz.prog) (some .ret) hl3, .inr ⟨rfl, hIx _ _ _ _ _ hix rfl hl3 rfl, World.putObj_heap_same (Array.getElem?_eq_some_iff.1 hl3).1, (World.putObj_heap_other (by omega)).trans hd3⟩⟩
    have hl3 := hk3 (w.heap.size + 1) _ (.inr rfl) (World.putObj_heap_same hlt1) rfl
    have hd3 := hk3 w.heap.size _ (.inl rfl) ((World.putObj_heap_other (by omega)).trans hk1) rfl
    refine ⟨_, _, run_endRound (P := Tryz.prog) none hl3, .inl ⟨rfl, ⟨hIp _ _ _ _ _ hi3 (.inr rfl) hl3 rfl, World.putObj_heap_same (Array.getElem?_eq_some_iff.1 hl3).1, (World.putObj_heap_other (by omega)).trans hd3⟩, ?_⟩⟩
    have sz : ∀ (X : World) (l : Nat) (o : Obj), (X.putObj l o).heap.size = X.heap.size := fun X l o => by simp [World.putObj]
    refine ⟨fun q o hq ho => ?_, ?_, ?_, ?_, ?_⟩
    · have hql : q < W.heap.size := (Array.getElem?_eq_some_iff.1 ho).1
      have g1 : Good q W1 := gd.mono pre W W1 q hi (Mv.below hb1) hq.1
      have o1 : W1.heap[q]? = some o := (hb1.block q hql).trans ho
      have g2 := hgp pre q W1 _ _ (.loop { rec' .ready none with state := .busy }) hi1 g1 hq.2.2 rfl hl1 rfl
      have o2 : (W1.putObj (w.heap.size + 1) (.loop { rec' .ready none with state := .busy })).heap[q]? = some o := (World.putObj_heap_other hq.2.2).trans o1
      obtain ⟨o3, g3⟩ := hkp.1 q o g2 o2
      exact ⟨(World.putObj_heap_other hq.2.2).trans o3, hgp _ q W3 _ _ _ hi3 g3 hq.2.2 rfl hl3 rfl, hq.2⟩
    · rw [World.putObj_heap_other (by omega), hkp.2.1, World.putObj_heap_other (by omega)]; exact hb1.block _ (by omega)
    · rw [World.putObj_heap_other (by omega), hkp.2.2.1, World.putObj_heap_other (by omega)]; exact hb1.block _ (by omega)
    · rw [World.putObj_heap_other (by omega), hkp.2.2.2.1, World.putObj_heap_other (by omega)]; exact hb1.block _ (by omega)
    · rw [sz]
      have := hkp.2.2.2.2
      rw [sz] at this
      exact Nat.le_trans hb1.size this
  · rintro e W2 ⟨⟨v, rfl⟩, ⟨hi, hl, hk⟩ | ⟨pre, hpre, hx, hl, hk⟩⟩
    · exact ⟨none, _, run_endLoop (P := Tryz.prog) hl (by simp [rec']), hdone _ _ rfl (hIp _ _ _ _ _ hi (.inr rfl) hl rfl) ((World.putObj_heap_other (by omega)).trans hk)⟩
    · exact ⟨some .ret, _, run_endLoop (P := Tryz.prog) hl (by simp [rec']), wpIn_ret (hleft _ _ pre rfl hpre (hIx _ _ _ _ _ hx rfl hl rfl) ((World.putObj_heap_other (by omega)).trans hk))⟩
end Go.Proofs.YtblmkkhiojbcjaaGreat
