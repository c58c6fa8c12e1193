import Derived.Test.YtblmkkhiojbcjaaGreatUz
namespace Go.Proofs.YtblmkkhiojbcjaaGreat
open Go Go.RowKit Go.Shelf
set_option linter.unusedVariables false
set_option linter.unusedSimpArgs false
/-- Ranging over such an iterator, with a body that may leave by 'return'. -/
theorem range_GL {n : Nat} {α : Type} {g : Operand} {ps : Array Tmp} {assign body : Code} {Q : Exit → Act → World → Prop} {a : Act} {w : World}
    (h1 : 1 ≤ n) {gf : Nat} {lb : Array Value} (hg : a.eval g = .func (.func gf) #[] lb) (eg : ∀ args w, (callFunc gf args).run Tryz.prog w = .ok (.enter gf args) w)
    {encs : α → Array Value} {L : List α} {w0 : World} {p b mm : Nat} (hb0 : Below w0.heap.size w0 w) (hseq : SeqG (n - 1) gf lb encs L p b mm w0) (hpb : p < w.heap.size ∧ b < w.heap.size ∧ mm < w.heap.size)
    (hps : ∀ x, (encs x).size = ps.size) (I : List α → World → Prop) (Good : Nat → World → Prop) (hI : OwnFrom w.heap.size I) (gd : GdJ Good I)
    (hgp : ∀ s k W l o o', I s W → Good k W → k ≠ l → w.heap.size ≤ l → W.heap[l]? = some o → o.isCells = false → Good k (W.putObj l o'))
    (h0 : I [] w) (Ix : List α → World → Prop) (hIx : ∀ pre W l o o', Ix pre W → w.heap.size ≤ l → W.heap[l]? = some o → o.isCells = false → Ix pre (W.putObj l o')) (Ax : α → Act → World → Prop) (hAx : ∀ x a' W l o o', Ax x a' W → w.heap.size ≤ l → W.heap[l]? = some o → o.isCells = false → Ax x a' (W.putObj l o'))
    (hassign : ∀ (l : Nat) (x : α) (W : World) (K : Act → World → Prop), w.heap.size ≤ W.heap.size → (∀ a' W', Below W.heap.size W W' → Ax x a' W' → K a' W') →
      assign.wpIn (Fence.wide.inRound l) (n - 1 - 1) Tryz.prog (Exit.then K (fun _ _ _ => False)) { tmps := (ps.zip (encs x)).foldl (fun t (p, v) => t.setIfInBounds p v) a.tmps, defers := [] } W)
    (hbody : ∀ (l : Nat) (pre : List α) (x : α) (a' : Act) (W : World), I pre W → Ax x a' W → pre ++ [x] <+: L → body.wpIn (Fence.wide.inRound l) (n - 1 - 1) Tryz.prog (fun e _ W' => (e = .normal ∧ KeepsFrom w.heap.size W W' ∧ KpG Good p b mm W W' ∧ I (pre ++ [x]) W') ∨ (e = .ret ∧ KeepsFrom w.heap.size W W' ∧ Ix (pre ++ [x]) W')) a' W)
    (hdone : ∀ (D : Nat) (W : World), w.heap.size ≤ D → I L W → W.heap[D]? = some (.deferred (some [])) → Q .normal { a with defers := { target := .collected D, args := #[] } :: a.defers } W)
    (hleft : ∀ (D : Nat) (W : World) (pre : List α), w.heap.size ≤ D → pre <+: L → Ix pre W → W.heap[D]? = some (.deferred (some [])) → Q .ret { a with defers := { target := .collected D, args := #[] } :: a.defers } W) :
    (Code.rangeFunc g ps assign body).wpIn Fence.wide n Tryz.prog Q a w := by
  refine wpIn_rangeFunc fun fn hfn => ?_
  rw [show Fence.wide.round = none from rfl]
  let rec' : LoopState → Option Code → Loop := fun st pe => { state := st, pending := pe, fn := fn, tmps := a.tmps, params := ps, assign := assign, body := body, defers := w.heap.size }
  obtain ⟨V, hV⟩ : ∃ V, (w.alloc (.deferred (some []))).alloc (.loop (rec' .ready none)) = V := ⟨_, rfl⟩
  have hVs : V.heap.size = w.heap.size + 2 := by rw [← hV]; simp
  have vL : V.heap[w.heap.size + 1]? = some (.loop (rec' .ready none)) := by
    rw [← hV]; simpa using World.alloc_heap_new (w.alloc (.deferred (some []))) (.loop (rec' .ready none))
  have vD : V.heap[w.heap.size]? = some (.deferred (some [])) := by
    rw [← hV]; exact (Below.heap_alloc _ _ _ (by simp)).trans (World.alloc_heap_new w _)
  have vI : I [] V := by rw [← hV]; exact hI.alloc _ (hI.alloc _ h0)
  have vB : Below w.heap.size w V := by rw [← hV]; exact ((Below.refl _ w).alloc (Nat.le_refl _) _).alloc (by simp) _
  refine ⟨w.heap.size + 1, [{ target := .collected w.heap.size, args := #[] }], V, { target := .fn (.func gf) lb, args := #[.func (.yield (w.heap.size + 1)) #[] #[]] }, V, gf, #[.func (.yield (w.heap.size + 1)) #[] #[]] ++ lb, V, ?_, ?_, ?_, ?_, fun _ => h1, ?_⟩
  · rw [← hV]; exact run_enterLoop_outer _ _ _ _ _
  · simp only [resolve, hg]; simp [go_sem]
  · intro f' hf'; exact trivial
  · simp [invoke, go_sem, eg]
  have gdJ : GdJ (fun k W => Good k W ∧ k ≠ w.heap.size ∧ k ≠ w.heap.size + 1) (fun pre W => I pre W ∧ W.heap[w.heap.size + 1]? = some (.loop (rec' .ready none)) ∧ W.heap[w.heap.size]? = some (.deferred (some []))) := by
    have low : ∀ W W', Mv (fun k W => Good k W ∧ k ≠ w.heap.size ∧ k ≠ w.heap.size + 1) W W' → Mv Good W W' := fun W W' h => ⟨h.os, h.tape, h.output, h.size, fun k hk hn => h.block k hk (fun e => hn e.1)⟩
    refine ⟨fun s W W' hs hm => ⟨gd.move s W W' hs.1 (low _ _ hm), ?_, ?_⟩, fun s W W' k hs hm hk => ⟨gd.mono s W W' k hs.1 (low _ _ hm) hk.1, hk.2⟩, fun s W W' k hs hm hk => ⟨gd.fresh s W W' k hs.1 (low _ _ hm) hk, ?_, ?_⟩⟩
    · exact (hm.block _ (Array.getElem?_eq_some_iff.1 hs.2.1).1 (fun e => e.2.2 rfl)).trans hs.2.1
    · exact (hm.block _ (Array.getElem?_eq_some_iff.1 hs.2.2).1 (fun e => e.2.1 rfl)).trans hs.2.2
    · have := (Array.getElem?_eq_some_iff.1 hs.2.2).1; omega
    · have := (Array.getElem?_eq_some_iff.1 hs.2.1).1; omega
  refine (hseq (w.heap.size + 1) _ (fun pre W => Ix pre W ∧ W.heap[w.heap.size + 1]? = some (.loop (rec' .done (some .ret))) ∧ W.heap[w.heap.size]? = some (.deferred (some []))) _ V (hb0.trans (vB.mono hb0.size)) gdJ ?_ ⟨vI, vL, vD⟩).mono ?_
  · rintro k pre x W ⟨hi, hl, hk⟩ hlen
    have hlt : w.heap.size + 1 < W.heap.size := (Array.getElem?_eq_some_iff.1 hl).1
    refine yield_anyT rfl k (m := n - 1 - 1) ⟨fn, _, assign, body, run_yield (P := Tryz.prog) (args := encs x) hl (hps x), roundIn_of_wpIn hfn (hassign _ x W _ (by omega) (fun a' W1 hb1 hax => ?_))⟩
    have hi1 : I pre W1 := hI pre W W1 none hi ⟨hb1.os, hb1.tape, hb1.output, hb1.size, fun k hk _ => hb1.block k hk⟩ (fun r e => by cases e)
    have hl1 : W1.heap[w.heap.size + 1]? = some (.loop (rec' .ready none)) := (hb1.block _ hlt).trans hl
    have hk1 : W1.heap[w.heap.size]? = some (.deferred (some [])) := (hb1.block _ (by omega)).trans hk
    have hlt1 : w.heap.size + 1 < W1.heap.size := (Array.getElem?_eq_some_iff.1 hl1).1
    refine ⟨_, run_beginRound hl1 rfl, ?_⟩
    refine wpIn_mono (hbody _ pre x a' _ (hI.putObj _ hi1 (by omega) hl1 rfl) (hAx _ _ _ _ _ _ hax (by omega) hl1 rfl) hlen) ?_
    rintro e a3 W3 (⟨rfl, hk3, hkp, hi3⟩ | ⟨rfl, hk3, hix⟩)
    rotate_left
    · have hl3 := hk3.same (w.heap.size + 1) _ (by omega) (World.putObj_heap_same hlt1) rfl
      have hd3 := hk3.same w.heap.size _ (Nat.le_refl _) ((World.putObj_heap_other (by omega)).trans hk1) rfl
      exact ⟨_, _, run_endRound (P := Tryz.prog) (some .ret) hl3, .inr ⟨rfl, hIx _ _ _ _ _ hix (by omega) hl3 rfl, World.putObj_heap_same (Array.getElem?_eq_some_iff.1 hl3).1, (World.putObj_heap_other (by omega)).trans hd3⟩⟩
    have hl3 := hk3.same (w.heap.size + 1) _ (by omega) (World.putObj_heap_same hlt1) rfl
    have hd3 := hk3.same w.heap.size _ (Nat.le_refl _) ((World.putObj_heap_other (by omega)).trans hk1) rfl
    refine ⟨_, _, run_endRound (P := Tryz.prog) none hl3, .inl ⟨rfl, ⟨hI.putObj _ hi3 (by omega) hl3 rfl, World.putObj_heap_same (Array.getElem?_eq_some_iff.1 hl3).1, (World.putObj_heap_other (by omega)).trans hd3⟩, ?_⟩⟩
    have sz : ∀ (X : World) (l : Nat) (o : Obj), (X.putObj l o).heap.size = X.heap.size := fun X l o => by simp [World.putObj]
    refine ⟨fun q o hq ho => ?_, ?_, ?_, ?_, ?_⟩
    · have hql : q < W.heap.size := (Array.getElem?_eq_some_iff.1 ho).1
      have g1 : Good q W1 := gd.mono pre W W1 q hi (Mv.below hb1) hq.1
      have o1 : W1.heap[q]? = some o := (hb1.block q hql).trans ho
      have g2 := hgp pre q W1 _ _ (.loop { rec' .ready none with state := .busy }) hi1 g1 hq.2.2 (by omega) hl1 rfl
      have o2 : (W1.putObj (w.heap.size + 1) (.loop { rec' .ready none with state := .busy })).heap[q]? = some o := (World.putObj_heap_other hq.2.2).trans o1
      obtain ⟨o3, g3⟩ := hkp.1 q o g2 o2
      exact ⟨(World.putObj_heap_other hq.2.2).trans o3, hgp _ q W3 _ _ _ hi3 g3 hq.2.2 (by omega) hl3 rfl, hq.2⟩
    · rw [World.putObj_heap_other (by omega), hkp.2.1, World.putObj_heap_other (by omega)]; exact hb1.block _ (by omega)
    · rw [World.putObj_heap_other (by omega), hkp.2.2.1, World.putObj_heap_other (by omega)]; exact hb1.block _ (by omega)
    · rw [World.putObj_heap_other (by omega), hkp.2.2.2.1, World.putObj_heap_other (by omega)]; exact hb1.block _ (by omega)
    · rw [sz]
      have := hkp.2.2.2.2
      rw [sz] at this
      exact Nat.le_trans hb1.size this
  · rintro e W2 ⟨⟨v, rfl⟩, ⟨hi, hl, hk⟩ | ⟨pre, hpre, hx, hl, hk⟩⟩
    · exact ⟨none, _, run_endLoop (P := Tryz.prog) hl (by simp [rec']), hdone _ _ (Nat.le_refl _) (hI.putObj _ hi (by omega) hl rfl) ((World.putObj_heap_other (by omega)).trans hk)⟩
    · exact ⟨some .ret, _, run_endLoop (P := Tryz.prog) hl (by simp [rec']), wpIn_ret (hleft _ _ pre (Nat.le_refl _) hpre (hIx _ _ _ _ _ hx (by omega) hl rfl) ((World.putObj_heap_other (by omega)).trans hk))⟩
end Go.Proofs.YtblmkkhiojbcjaaGreat
namespace Go.Proofs.YtblmkkhiojbcjaaGreat
open Go Go.RowKit Go.Shelf
set_option linter.unusedVariables false
set_option linter.unusedSimpArgs false
/-- An iterator that leans on its body to keep what is not its own even where it leaves. -/
def SeqK {α : Type} (n g : Nat) (lb : Array Value) (encs : α → Array Value) (L : List α) (p b mm : Nat) (w : World) : Prop :=
  ∀ (l : Nat) (J Jx : List α → World → Prop) (Good : Nat → World → Prop) (W : World), Below w.heap.size w W → GdJ Good J →
    (∀ k pre x W1, J pre W1 → pre ++ [x] <+: L → YieldAt Fence.wide k Tryz.prog l (encs x) W1 fun e W' => (e = .returned (.bool true) ∧ J (pre ++ [x]) W' ∧ KpG Good p b mm W1 W') ∨ (e = .returned (.bool false) ∧ Jx (pre ++ [x]) W' ∧ KpG Good p b mm W1 W')) →
    (∀ pre W1 W2, Jx pre W1 → Mv Good W1 W2 → Jx pre W2) → J [] W →
    CallsIn Fence.wide n Tryz.prog g (#[.func (.yield l) #[] #[]] ++ lb) W fun e W' => (∃ v, e = .returned v) ∧ (J L W' ∨ ∃ pre, pre <+: L ∧ Jx pre W')
/-- Ranging over such an iterator, with a body that may leave by 'return'. -/
theorem range_K {n : Nat} {α : Type} {g : Operand} {ps : Array Tmp} {assign body : Code} {Q : Exit → Act → World → Prop} {a : Act} {w : World}
    (h1 : 1 ≤ n) {gf : Nat} {lb : Array Value} (hg : a.eval g = .func (.func gf) #[] lb) (eg : ∀ args w, (callFunc gf args).run Tryz.prog w = .ok (.enter gf args) w)
    {encs : α → Array Value} {L : List α} {w0 : World} {p b mm : Nat} (hb0 : Below w0.heap.size w0 w) (hseq : SeqK (n - 1) gf lb encs L p b mm w0) (hpb : p < w.heap.size ∧ b < w.heap.size ∧ mm < w.heap.size)
    (hps : ∀ x, (encs x).size = ps.size) (I : List α → World → Prop) (Good : Nat → World → Prop) (hI : OwnFrom w.heap.size I) (gd : GdJ Good I)
    (hgp : ∀ s k W l o o', I s W → Good k W → k ≠ l → w.heap.size ≤ l → W.heap[l]? = some o → o.isCells = false → Good k (W.putObj l o'))
    (h0 : I [] w) (Ix : List α → World → Prop) (hIx : ∀ pre W l o o', Ix pre W → w.heap.size ≤ l → W.heap[l]? = some o → o.isCells = false → Ix pre (W.putObj l o')) (hIxm : ∀ pre W1 W2, Ix pre W1 → Mv Good W1 W2 → Ix pre W2)
    (hgx : ∀ s k W l o o', Ix s W → Good k W → k ≠ l → w.heap.size ≤ l → W.heap[l]? = some o → o.isCells = false → Good k (W.putObj l o')) (Ax : α → Act → World → Prop) (hAx : ∀ x a' W l o o', Ax x a' W → w.heap.size ≤ l → W.heap[l]? = some o → o.isCells = false → Ax x a' (W.putObj l o'))
    (hassign : ∀ (l : Nat) (x : α) (W : World) (K : Act → World → Prop), w.heap.size ≤ W.heap.size → (∀ a' W', Below W.heap.size W W' → Ax x a' W' → K a' W') →
      assign.wpIn (Fence.wide.inRound l) (n - 1 - 1) Tryz.prog (Exit.then K (fun _ _ _ => False)) { tmps := (ps.zip (encs x)).foldl (fun t (p, v) => t.setIfInBounds p v) a.tmps, defers := [] } W)
    (hbody : ∀ (l : Nat) (pre : List α) (x : α) (a' : Act) (W : World), I pre W → Ax x a' W → pre ++ [x] <+: L → body.wpIn (Fence.wide.inRound l) (n - 1 - 1) Tryz.prog (fun e _ W' => (e = .normal ∧ KeepsFrom w.heap.size W W' ∧ KpG Good p b mm W W' ∧ I (pre ++ [x]) W') ∨ (e = .ret ∧ KeepsFrom w.heap.size W W' ∧ KpG Good p b mm W W' ∧ Ix (pre ++ [x]) W')) a' W)
    (hdone : ∀ (D : Nat) (W : World), w.heap.size ≤ D → I L W → W.heap[D]? = some (.deferred (some [])) → Q .normal { a with defers := { target := .collected D, args := #[] } :: a.defers } W)
    (hleft : ∀ (D : Nat) (W : World) (pre : List α), w.heap.size ≤ D → pre <+: L → Ix pre W → W.heap[D]? = some (.deferred (some [])) → Q .ret { a with defers := { target := .collected D, args := #[] } :: a.defers } W) :
    (Code.rangeFunc g ps assign body).wpIn Fence.wide n Tryz.prog Q a w := by
  refine wpIn_rangeFunc fun fn hfn => ?_
  rw [show Fence.wide.round = none from rfl]
  let rec' : LoopState → Option Code → Loop := fun st pe => { state := st, pending := pe, fn := fn, tmps := a.tmps, params := ps, assign := assign, body := body, defers := w.heap.size }
  obtain ⟨V, hV⟩ : ∃ V, (w.alloc (.deferred (some []))).alloc (.loop (rec' .ready none)) = V := ⟨_, rfl⟩
  have hVs : V.heap.size = w.heap.size + 2 := by rw [← hV]; simp
  have vL : V.heap[w.heap.size + 1]? = some (.loop (rec' .ready none)) := by
    rw [← hV]; simpa using World.alloc_heap_new (w.alloc (.deferred (some []))) (.loop (rec' .ready none))
  have vD : V.heap[w.heap.size]? = some (.deferred (some [])) := by
    rw [← hV]; exact (Below.heap_alloc _ _ _ (by simp)).trans (World.alloc_heap_new w _)
  have vI : I [] V := by rw [← hV]; exact hI.alloc _ (hI.alloc _ h0)
  have vB : Below w.heap.size w V := by rw [← hV]; exact ((Below.refl _ w).alloc (Nat.le_refl _) _).alloc (by simp) _
  refine ⟨w.heap.size + 1, [{ target := .collected w.heap.size, args := #[] }], V, { target := .fn (.func gf) lb, args := #[.func (.yield (w.heap.size + 1)) #[] #[]] }, V, gf, #[.func (.yield (w.heap.size + 1)) #[] #[]] ++ lb, V, ?_, ?_, ?_, ?_, fun _ => h1, ?_⟩
  · rw [← hV]; exact run_enterLoop_outer _ _ _ _ _
  · simp only [resolve, hg]; simp [go_sem]
  · intro f' hf'; exact trivial
  · simp [invoke, go_sem, eg]
  have gdJ : GdJ (fun k W => Good k W ∧ k ≠ w.heap.size ∧ k ≠ w.heap.size + 1) (fun pre W => I pre W ∧ W.heap[w.heap.size + 1]? = some (.loop (rec' .ready none)) ∧ W.heap[w.heap.size]? = some (.deferred (some []))) := by
    have low : ∀ W W', Mv (fun k W => Good k W ∧ k ≠ w.heap.size ∧ k ≠ w.heap.size + 1) W W' → Mv Good W W' := fun W W' h => ⟨h.os, h.tape, h.output, h.size, fun k hk hn => h.block k hk (fun e => hn e.1)⟩
    refine ⟨fun s W W' hs hm => ⟨gd.move s W W' hs.1 (low _ _ hm), ?_, ?_⟩, fun s W W' k hs hm hk => ⟨gd.mono s W W' k hs.1 (low _ _ hm) hk.1, hk.2⟩, fun s W W' k hs hm hk => ⟨gd.fresh s W W' k hs.1 (low _ _ hm) hk, ?_, ?_⟩⟩
    · exact (hm.block _ (Array.getElem?_eq_some_iff.1 hs.2.1).1 (fun e => e.2.2 rfl)).trans hs.2.1
    · exact (hm.block _ (Array.getElem?_eq_some_iff.1 hs.2.2).1 (fun e => e.2.1 rfl)).trans hs.2.2
    · have := (Array.getElem?_eq_some_iff.1 hs.2.2).1; omega
    · have := (Array.getElem?_eq_some_iff.1 hs.2.1).1; omega
  refine (hseq (w.heap.size + 1) _ (fun pre W => Ix pre W ∧ W.heap[w.heap.size + 1]? = some (.loop (rec' .done (some .ret))) ∧ W.heap[w.heap.size]? = some (.deferred (some []))) _ V (hb0.trans (vB.mono hb0.size)) gdJ ?_ ?_ ⟨vI, vL, vD⟩).mono ?_
  · rintro k pre x W ⟨hi, hl, hk⟩ hlen
    have hlt : w.heap.size + 1 < W.heap.size := (Array.getElem?_eq_some_iff.1 hl).1
    refine yield_anyT rfl k (m := n - 1 - 1) ⟨fn, _, assign, body, run_yield (P := Tryz.prog) (args := encs x) hl (hps x), roundIn_of_wpIn hfn (hassign _ x W _ (by omega) (fun a' W1 hb1 hax => ?_))⟩
    have hi1 : I pre W1 := hI pre W W1 none hi ⟨hb1.os, hb1.tape, hb1.output, hb1.size, fun k hk _ => hb1.block k hk⟩ (fun r e => by cases e)
    have hl1 : W1.heap[w.heap.size + 1]? = some (.loop (rec' .ready none)) := (hb1.block _ hlt).trans hl
    have hk1 : W1.heap[w.heap.size]? = some (.deferred (some [])) := (hb1.block _ (by omega)).trans hk
    have hlt1 : w.heap.size + 1 < W1.heap.size := (Array.getElem?_eq_some_iff.1 hl1).1
    refine ⟨_, run_beginRound hl1 rfl, ?_⟩
    refine wpIn_mono (hbody _ pre x a' _ (hI.putObj _ hi1 (by omega) hl1 rfl) (hAx _ _ _ _ _ _ hax (by omega) hl1 rfl) hlen) ?_
    rintro e a3 W3 (⟨rfl, hk3, hkp, hi3⟩ | ⟨rfl, hk3, hkp, hix⟩)
    rotate_left
    · have hl3 := hk3.same (w.heap.size + 1) _ (by omega) (World.putObj_heap_same hlt1) rfl
      have hd3 := hk3.same w.heap.size _ (Nat.le_refl _) ((World.putObj_heap_other (by omega)).trans hk1) rfl
      refine ⟨_, _, run_endRound (P := Tryz.prog) (some .ret) hl3, .inr ⟨rfl, ⟨hIx _ _ _ _ _ hix (by omega) hl3 rfl, World.putObj_heap_same (Array.getElem?_eq_some_iff.1 hl3).1, (World.putObj_heap_other (by omega)).trans hd3⟩, ?_⟩⟩
      have sz : ∀ (X : World) (l : Nat) (o : Obj), (X.putObj l o).heap.size = X.heap.size := fun X l o => by simp [World.putObj]
      refine ⟨fun q o hq ho => ?_, ?_, ?_, ?_, ?_⟩
      · have hql : q < W.heap.size := (Array.getElem?_eq_some_iff.1 ho).1
        have g1 : Good q W1 := gd.mono pre W W1 q hi (Mv.below hb1) hq.1
        have o1 : W1.heap[q]? = some o := (hb1.block q hql).trans ho
        have g2 := hgp pre q W1 _ _ (.loop { rec' .ready none with state := .busy }) hi1 g1 hq.2.2 (by omega) hl1 rfl
        have o2 : (W1.putObj (w.heap.size + 1) (.loop { rec' .ready none with state := .busy })).heap[q]? = some o := (World.putObj_heap_other hq.2.2).trans o1
        obtain ⟨o3, g3⟩ := hkp.1 q o g2 o2
        exact ⟨(World.putObj_heap_other hq.2.2).trans o3, hgx _ q W3 _ _ _ hix g3 hq.2.2 (by omega) hl3 rfl, hq.2⟩
      · rw [World.putObj_heap_other (by omega), hkp.2.1, World.putObj_heap_other (by omega)]; exact hb1.block _ (by omega)
      · rw [World.putObj_heap_other (by omega), hkp.2.2.1, World.putObj_heap_other (by omega)]; exact hb1.block _ (by omega)
      · rw [World.putObj_heap_other (by omega), hkp.2.2.2.1, World.putObj_heap_other (by omega)]; exact hb1.block _ (by omega)
      · rw [sz]
        have := hkp.2.2.2.2
        rw [sz] at this
        exact Nat.le_trans hb1.size this
    have hl3 := hk3.same (w.heap.size + 1) _ (by omega) (World.putObj_heap_same hlt1) rfl
    have hd3 := hk3.same w.heap.size _ (Nat.le_refl _) ((World.putObj_heap_other (by omega)).trans hk1) rfl
    refine ⟨_, _, run_endRound (P := Tryz.prog) none hl3, .inl ⟨rfl, ⟨hI.putObj _ hi3 (by omega) hl3 rfl, World.putObj_heap_same (Array.getElem?_eq_some_iff.1 hl3).1, (World.putObj_heap_other (by omega)).trans hd3⟩, ?_⟩⟩
    have sz : ∀ (X : World) (l : Nat) (o : Obj), (X.putObj l o).heap.size = X.heap.size := fun X l o => by simp [World.putObj]
    refine ⟨fun q o hq ho => ?_, ?_, ?_, ?_, ?_⟩
    · have hql : q < W.heap.size := (Array.getElem?_eq_some_iff.1 ho).1
      have g1 : Good q W1 := gd.mono pre W W1 q hi (Mv.below hb1) hq.1
      have o1 : W1.heap[q]? = some o := (hb1.block q hql).trans ho
      have g2 := hgp pre q W1 _ _ (.loop { rec' .ready none with state := .busy }) hi1 g1 hq.2.2 (by omega) hl1 rfl
      have o2 : (W1.putObj (w.heap.size + 1) (.loop { rec' .ready none with state := .busy })).heap[q]? = some o := (World.putObj_heap_other hq.2.2).trans o1
      obtain ⟨o3, g3⟩ := hkp.1 q o g2 o2
      exact ⟨(World.putObj_heap_other hq.2.2).trans o3, hgp _ q W3 _ _ _ hi3 g3 hq.2.2 (by omega) hl3 rfl, hq.2⟩
    · rw [World.putObj_heap_other (by omega), hkp.2.1, World.putObj_heap_other (by omega)]; exact hb1.block _ (by omega)
    · rw [World.putObj_heap_other (by omega), hkp.2.2.1, World.putObj_heap_other (by omega)]; exact hb1.block _ (by omega)
    · rw [World.putObj_heap_other (by omega), hkp.2.2.2.1, World.putObj_heap_other (by omega)]; exact hb1.block _ (by omega)
    · rw [sz]
      have := hkp.2.2.2.2
      rw [sz] at this
      exact Nat.le_trans hb1.size this
  · rintro pre W1 W2 ⟨hx, hl, hk⟩ hm
    refine ⟨hIxm pre W1 W2 hx ⟨hm.os, hm.tape, hm.output, hm.size, fun k hk2 hn => hm.block k hk2 (fun e => hn e.1)⟩, ?_, ?_⟩
    · exact (hm.block _ (Array.getElem?_eq_some_iff.1 hl).1 (fun e => e.2.2 rfl)).trans hl
    · exact (hm.block _ (Array.getElem?_eq_some_iff.1 hk).1 (fun e => e.2.1 rfl)).trans hk
  · rintro e W2 ⟨⟨v, rfl⟩, ⟨hi, hl, hk⟩ | ⟨pre, hpre, hx, hl, hk⟩⟩
    · exact ⟨none, _, run_endLoop (P := Tryz.prog) hl (by simp [rec']), hdone _ _ (Nat.le_refl _) (hI.putObj _ hi (by omega) hl rfl) ((World.putObj_heap_other (by omega)).trans hk)⟩
    · exact ⟨some .ret, _, run_endLoop (P := Tryz.prog) hl (by simp [rec']), wpIn_ret (hleft _ _ pre (Nat.le_refl _) hpre (hIx _ _ _ _ _ hx (by omega) hl rfl) ((World.putObj_heap_other (by omega)).trans hk))⟩
end Go.Proofs.YtblmkkhiojbcjaaGreat
