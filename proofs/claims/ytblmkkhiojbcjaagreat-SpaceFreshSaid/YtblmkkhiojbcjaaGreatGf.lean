import Derived.Test.YtblmkkhiojbcjaaGreatFKeep
import Derived.Test.YtblmkkhiojbcjaaGreatGb
import Derived.Test.YtblmkkhiojbcjaaGreatVl
import Derived.Test.YtblmkkhiojbcjaaGreatEu
namespace Go.Proofs.YtblmkkhiojbcjaaGreat
open Go Go.RowKit
set_option linter.unusedVariables false
set_option linter.unusedSimpArgs false
theorem range_KB {n id : Nat} {α : Type} {g : Operand} {ps : Array Tmp} {assign body : Code} {Q : Exit → Act → World → Prop} {a : Act} {w : World}
    (h1 : 1 ≤ n) {gf : Nat} {lb : Array Value} (hg : a.eval g = .func (.func gf) #[] lb) (eg : ∀ args w, (callFunc gf args).run Tryz.prog w = .ok (.enter gf args) w)
    {encs : α → Array Value} {L : List α} {w0 : World} {p b mm : Nat} (hb0 : Below w0.heap.size w0 w) (hseq : SeqK (n - 1) gf lb encs L p b mm w0) (hpb : p < w.heap.size ∧ b < w.heap.size ∧ mm < w.heap.size)
    (hps : ∀ x, (encs x).size = ps.size) (I : List α → World → Prop) (Good : Nat → World → Prop) (hI : OwnFrom w.heap.size I) (gd : GdJ Good I)
    (hgp : ∀ s k W l o o', I s W → Good k W → k ≠ l → w.heap.size ≤ l → W.heap[l]? = some o → o.isCells = false → Good k (W.putObj l o'))
    (h0 : I [] w) (Ix : List α → World → Prop) (hIx : ∀ pre W l o o', Ix pre W → w.heap.size ≤ l → W.heap[l]? = some o → o.isCells = false → Ix pre (W.putObj l o')) (hIxm : ∀ pre W1 W2, Ix pre W1 → Mv Good W1 W2 → Ix pre W2)
    (hgx : ∀ s k W l o o', Ix s W → Good k W → k ≠ l → w.heap.size ≤ l → W.heap[l]? = some o → o.isCells = false → Good k (W.putObj l o')) (Ax : α → Act → World → Prop) (hAx : ∀ x a' W l o o', Ax x a' W → w.heap.size ≤ l → W.heap[l]? = some o → o.isCells = false → Ax x a' (W.putObj l o'))
    (hassign : ∀ (l : Nat) (x : α) (W : World) (K : Act → World → Prop), w.heap.size ≤ W.heap.size → (∀ a' W', Below W.heap.size W W' → Ax x a' W' → K a' W') →
      assign.wpIn (Fence.wide.inRound l) (n - 1 - 1) Tryz.prog (Exit.then K (fun _ _ _ => False)) { tmps := (ps.zip (encs x)).foldl (fun t (p, v) => t.setIfInBounds p v) a.tmps, defers := [] } W)
    (hbody : ∀ (l : Nat) (pre : List α) (x : α) (a' : Act) (W : World), I pre W → Ax x a' W → pre ++ [x] <+: L → body.wpIn (Fence.wide.inRound l) (n - 1 - 1) Tryz.prog (fun e _ W' => (e = .normal ∧ KeepsFrom w.heap.size W W' ∧ KpG Good p b mm W W' ∧ I (pre ++ [x]) W') ∨ (e = .exit id ∧ KeepsFrom w.heap.size W W' ∧ KpG Good p b mm W W' ∧ Ix (pre ++ [x]) W')) a' W)
    (hdone : ∀ (D : Nat) (W : World), w.heap.size ≤ D → I L W → W.heap[D]? = some (.deferred (some [])) → Q .normal { a with defers := { target := .collected D, args := #[] } :: a.defers } W)
    (hleft : ∀ (D : Nat) (W : World) (pre : List α), w.heap.size ≤ D → pre <+: L → Ix pre W → W.heap[D]? = some (.deferred (some [])) → Q (.exit id) { a with defers := { target := .collected D, args := #[] } :: a.defers } W) :
    (Code.rangeFunc g ps assign body).wpIn Fence.wide n Tryz.prog Q a w := by
  refine wpIn_rangeFunc fun fn hfn => ?_
  rw [show Fence.wide.round = none from rfl]
  let rec' : LoopState → Option Code → Loop := fun st pe => { state := st, pending := pe, fn := fn, tmps := a.tmps, params := ps, assign := assign, body := body, defers := w.heap.size }
  obtain ⟨V, hV⟩ : ∃ V, (w.alloc (.deferred (some []))).alloc (.loop (rec' .ready none)) = V := ⟨_, rfl⟩
  have hVs : V.heap.size = w.heap.size + 2 := by rw [← hV]; simp
  have vL : V.heap[w.heap.size + 1]? = some (.loop (rec' .ready none)) := by
    rw [← hV]; simpa using World.alloc_heap_new (w.alloc (.deferred (some []))) (.loop (rec' .ready none))
  have vD : V.heap[w.heap.size]? = some (.deferred (some [])) := by
    rw [← hV]; exact (Below.heap_alloc _ _ _ (by simp)).trans (World.alloc_heap_new w _)
  have vI : I [] V := by rw [← hV]; exact hI.alloc _ (hI.alloc _ h0)
  have vB : Below w.heap.size w V := by rw [← hV]; exact ((Below.refl _ w).alloc (Nat.le_refl _) _).alloc (by simp) _
  refine ⟨w.heap.size + 1, [{ target := .collected w.heap.size, args := #[] }], V, { target := .fn (.func gf) lb, args := #[.func (.yield (w.heap.size + 1)) #[] #[]] }, V, gf, #[.func (.yield (w.heap.size + 1)) #[] #[]] ++ lb, V, ?_, ?_, ?_, ?_, fun _ => h1, ?_⟩
  · rw [← hV]; exact run_enterLoop_outer _ _ _ _ _
  · simp only [resolve, hg]; simp [go_sem]
  · intro f' hf'; exact trivial
  · simp [invoke, go_sem, eg]
  have gdJ : GdJ (fun k W => Good k W ∧ k ≠ w.heap.size ∧ k ≠ w.heap.size + 1) (fun pre W => I pre W ∧ W.heap[w.heap.size + 1]? = some (.loop (rec' .ready none)) ∧ W.heap[w.heap.size]? = some (.deferred (some []))) := by
    have low : ∀ W W', Mv (fun k W => Good k W ∧ k ≠ w.heap.size ∧ k ≠ w.heap.size + 1) W W' → Mv Good W W' := fun W W' h => ⟨h.os, h.tape, h.output, h.size, fun k hk hn => h.block k hk (fun e => hn e.1)⟩
    refine ⟨fun s W W' hs hm => ⟨gd.move s W W' hs.1 (low _ _ hm), ?_, ?_⟩, fun s W W' k hs hm hk => ⟨gd.mono s W W' k hs.1 (low _ _ hm) hk.1, hk.2⟩, fun s W W' k hs hm hk => ⟨gd.fresh s W W' k hs.1 (low _ _ hm) hk, ?_, ?_⟩⟩
    · exact (hm.block _ (Array.getElem?_eq_some_iff.1 hs.2.1).1 (fun e => e.2.2 rfl)).trans hs.2.1
    · exact (hm.block _ (Array.getElem?_eq_some_iff.1 hs.2.2).1 (fun e => e.2.1 rfl)).trans hs.2.2
    · have := (Array.getElem?_eq_some_iff.1 hs.2.2).1; omega
    · have := (Array.getElem?_eq_some_iff.1 hs.2.1).1; omega
  refine (hseq (w.heap.size + 1) _ (fun pre W => Ix pre W ∧ W.heap[w.heap.size + 1]? = some (.loop (rec' .done (some (.exit id)))) ∧ W.heap[w.heap.size]? = some (.deferred (some []))) _ V (hb0.trans (vB.mono hb0.size)) gdJ ?_ ?_ ⟨vI, vL, vD⟩).mono ?_
  · rintro k pre x W ⟨hi, hl, hk⟩ hlen
    have hlt : w.heap.size + 1 < W.heap.size := (Array.getElem?_eq_some_iff.1 hl).1
    refine yield_anyT rfl k (m := n - 1 - 1) ⟨fn, _, assign, body, run_yield (P := Tryz.prog) (args := encs x) hl (hps x), roundIn_of_wpIn hfn (hassign _ x W _ (by omega) (fun a' W1 hb1 hax => ?_))⟩
    have hi1 : I pre W1 := hI pre W W1 none hi ⟨hb1.os, hb1.tape, hb1.output, hb1.size, fun k hk _ => hb1.block k hk⟩ (fun r e => by cases e)
    have hl1 : W1.heap[w.heap.size + 1]? = some (.loop (rec' .ready none)) := (hb1.block _ hlt).trans hl
    have hk1 : W1.heap[w.heap.size]? = some (.deferred (some [])) := (hb1.block _ (by omega)).trans hk
    have hlt1 : w.heap.size + 1 < W1.heap.size := (Array.getElem?_eq_some_iff.1 hl1).1
    refine ⟨_, run_beginRound hl1 rfl, ?_⟩
    refine wpIn_mono (hbody _ pre x a' _ (hI.putObj _ hi1 (by omega) hl1 rfl) (hAx _ _ _ _ _ _ hax (by omega) hl1 rfl) hlen) ?_
    rintro e a3 W3 (⟨rfl, hk3, hkp, hi3⟩ | ⟨rfl, hk3, hkp, hix⟩)
    rotate_left
    · have hl3 := hk3.same (w.heap.size + 1) _ (by omega) (World.putObj_heap_same hlt1) rfl
      have hd3 := hk3.same w.heap.size _ (Nat.le_refl _) ((World.putObj_heap_other (by omega)).trans hk1) rfl
      refine ⟨_, _, run_endRound (P := Tryz.prog) (some (.exit id)) hl3, .inr ⟨rfl, ⟨hIx _ _ _ _ _ hix (by omega) hl3 rfl, World.putObj_heap_same (Array.getElem?_eq_some_iff.1 hl3).1, (World.putObj_heap_other (by omega)).trans hd3⟩, ?_⟩⟩
      have sz : ∀ (X : World) (l : Nat) (o : Obj), (X.putObj l o).heap.size = X.heap.size := fun X l o => by simp [World.putObj]
      refine ⟨fun q o hq ho => ?_, ?_, ?_, ?_, ?_⟩
      · have hql : q < W.heap.size := (Array.getElem?_eq_some_iff.1 ho).1
        have g1 : Good q W1 := gd.mono pre W W1 q hi (Mv.below hb1) hq.1
        have o1 : W1.heap[q]? = some o := (hb1.block q hql).trans ho
        have g2 := hgp pre q W1 _ _ (.loop { rec' .ready none with state := .busy }) hi1 g1 hq.2.2 (by omega) hl1 rfl
        have o2 : (W1.putObj (w.heap.size + 1) (.loop { rec' .ready none with state := .busy })).heap[q]? = some o := (World.putObj_heap_other hq.2.2).trans o1
        obtain ⟨o3, g3⟩ := hkp.1 q o g2 o2
        exact ⟨(World.putObj_heap_other hq.2.2).trans o3, hgx _ q W3 _ _ _ hix g3 hq.2.2 (by omega) hl3 rfl, hq.2⟩
      · rw [World.putObj_heap_other (by omega), hkp.2.1, World.putObj_heap_other (by omega)]; exact hb1.block _ (by omega)
      · rw [World.putObj_heap_other (by omega), hkp.2.2.1, World.putObj_heap_other (by omega)]; exact hb1.block _ (by omega)
      · rw [World.putObj_heap_other (by omega), hkp.2.2.2.1, World.putObj_heap_other (by omega)]; exact hb1.block _ (by omega)
      · rw [sz]
        have := hkp.2.2.2.2
        rw [sz] at this
        exact Nat.le_trans hb1.size this
    have hl3 := hk3.same (w.heap.size + 1) _ (by omega) (World.putObj_heap_same hlt1) rfl
    have hd3 := hk3.same w.heap.size _ (Nat.le_refl _) ((World.putObj_heap_other (by omega)).trans hk1) rfl
    refine ⟨_, _, run_endRound (P := Tryz.prog) none hl3, .inl ⟨rfl, ⟨hI.putObj _ hi3 (by omega) hl3 rfl, World.putObj_heap_same (Array.getElem?_eq_some_iff.1 hl3).1, (World.putObj_heap_other (by omega)).trans hd3⟩, ?_⟩⟩
    have sz : ∀ (X : World) (l : Nat) (o : Obj), (X.putObj l o).heap.size = X.heap.size := fun X l o => by simp [World.putObj]
    refine ⟨fun q o hq ho => ?_, ?_, ?_, ?_, ?_⟩
    · have hql : q < W.heap.size := (Array.getElem?_eq_some_iff.1 ho).1
      have g1 : Good q W1 := gd.mono pre W W1 q hi (Mv.below hb1) hq.1
      have o1 : W1.heap[q]? = some o := (hb1.block q hql).trans ho
      have g2 := hgp pre q W1 _ _ (.loop { rec' .ready none with state := .busy }) hi1 g1 hq.2.2 (by omega) hl1 rfl
      have o2 : (W1.putObj (w.heap.size + 1) (.loop { rec' .ready none with state := .busy })).heap[q]? = some o := (World.putObj_heap_other hq.2.2).trans o1
      obtain ⟨o3, g3⟩ := hkp.1 q o g2 o2
      exact ⟨(World.putObj_heap_other hq.2.2).trans o3, hgp _ q W3 _ _ _ hi3 g3 hq.2.2 (by omega) hl3 rfl, hq.2⟩
    · rw [World.putObj_heap_other (by omega), hkp.2.1, World.putObj_heap_other (by omega)]; exact hb1.block _ (by omega)
    · rw [World.putObj_heap_other (by omega), hkp.2.2.1, World.putObj_heap_other (by omega)]; exact hb1.block _ (by omega)
    · rw [World.putObj_heap_other (by omega), hkp.2.2.2.1, World.putObj_heap_other (by omega)]; exact hb1.block _ (by omega)
    · rw [sz]
      have := hkp.2.2.2.2
      rw [sz] at this
      exact Nat.le_trans hb1.size this
  · rintro pre W1 W2 ⟨hx, hl, hk⟩ hm
    refine ⟨hIxm pre W1 W2 hx ⟨hm.os, hm.tape, hm.output, hm.size, fun k hk2 hn => hm.block k hk2 (fun e => hn e.1)⟩, ?_, ?_⟩
    · exact (hm.block _ (Array.getElem?_eq_some_iff.1 hl).1 (fun e => e.2.2 rfl)).trans hl
    · exact (hm.block _ (Array.getElem?_eq_some_iff.1 hk).1 (fun e => e.2.1 rfl)).trans hk
  · rintro e W2 ⟨⟨v, rfl⟩, ⟨hi, hl, hk⟩ | ⟨pre, hpre, hx, hl, hk⟩⟩
    · exact ⟨none, _, run_endLoop (P := Tryz.prog) hl (by simp [rec']), hdone _ _ (Nat.le_refl _) (hI.putObj _ hi (by omega) hl rfl) ((World.putObj_heap_other (by omega)).trans hk)⟩
    · exact ⟨some (.exit id), _, run_endLoop (P := Tryz.prog) hl (by simp [rec']), wpIn_exit (hleft _ _ pre (Nat.le_refl _) hpre (hIx _ _ _ _ _ hx (by omega) hl rfl) ((World.putObj_heap_other (by omega)).trans hk))⟩

/-- A page as it is told. -/
def lkF (y : Int × Int) : Pg := (y.1 / 4096, y.2 / 1024 * 4096, bits .and .u64 y.2 30)
/-- Look's loop: the pages that were met. -/
structure LkI (V : World) (Bn : Nat) (pre : List (Int × Int)) (W : World) : Prop where
  size : V.heap.size ≤ W.heap.size
  os : W.os = V.os
  tape : W.tape = V.tape
  output : W.output = V.output
  block : ∀ k, k < V.heap.size → k ≠ Bn → W.heap[k]? = V.heap[k]?
  row : ∃ v, W.cell? ⟨Bn, 0, .none⟩ = some v ∧ W.ownsRow V.heap.size 99 3 v pre.length (pcs (pre.map lkF))
  frz : W.frozen? ⟨Bn, 0, .none⟩ = false
  low : ∀ y ∈ pre, y.1 < 274877894656
def LkG (V : World) (Bn k : Nat) (W : World) : Prop := V.heap.size ≤ k ∧ ∀ v, W.cell? ⟨Bn, 0, .none⟩ = some v → v.ownBlock ≠ some k
def LkX (V : World) (Bn : Nat) (pre : List (Int × Int)) (W : World) : Prop := ∃ q x, pre = q ++ [x] ∧ 274877894656 ≤ x.1 ∧ LkI V Bn q W
section
variable {V W W' : World} {Bn : Nat} {pre : List (Int × Int)}
theorem own_cells {base e size n : Nat} {v : Value} {xs : List Value} (h : W.ownsRow base e size v n xs) {g : Nat} (hg : v.ownBlock = some g) : base ≤ g ∧ g < W.heap.size ∧ ∃ cur t f, W.heap[g]? = some (.cells cur t f) := by
  rcases h.2 with ⟨rfl, _⟩ | ⟨g', cap, cur, rfl, hb, hh, _⟩
  · cases hg
  · simp only [Value.ownBlock, Option.map_some, Option.some.injEq] at hg
    subst hg
    exact ⟨hb, (Array.getElem?_eq_some_iff.1 hh).1, cur, _, _, hh⟩
theorem LkI.keep (h : LkI V Bn pre W) (hB : Bn < V.heap.size) (hlow : ∀ k, k < V.heap.size → W'.heap[k]? = W.heap[k]?) (hg : ∀ v g, W.cell? ⟨Bn, 0, .none⟩ = some v → v.ownBlock = some g → W'.heap[g]? = W.heap[g]?) (h1 : W'.os = W.os) (h2 : W'.tape = W.tape) (h3 : W'.output = W.output) (h4 : W.heap.size ≤ W'.heap.size) : LkI V Bn pre W' := by
  obtain ⟨v, k1, k2⟩ := h.row
  exact ⟨Nat.le_trans h.size h4, h1.trans h.os, h2.trans h.tape, h3.trans h.output, fun k hk hn => (hlow k hk).trans (h.block k hk hn), ⟨v, (World.cell?_of_block (a := ⟨Bn, 0, .none⟩) (hlow Bn hB)).trans k1, own_blk k2 (fun g hv _ => hg v g k1 hv)⟩, (World.frozen?_of_block (a := ⟨Bn, 0, .none⟩) (hlow Bn hB)).trans h.frz, h.low⟩
theorem LkI.gd (hB : Bn < V.heap.size) : GdJ (LkG V Bn) (LkI V Bn) := by
  have cellB : ∀ s W W', LkI V Bn s W → Mv (LkG V Bn) W W' → W'.heap[Bn]? = W.heap[Bn]? := fun s W W' hs hm => hm.block Bn (Nat.lt_of_lt_of_le hB hs.size) (fun e => by have := e.1; omega)
  refine ⟨fun s W W' hs hm => ?_, fun s W W' k hs hm hk => ⟨hk.1, fun v hv => ?_⟩, fun s W W' k hs hm hk => ⟨Nat.le_trans hs.size hk, fun v hv e => ?_⟩⟩
  · refine hs.keep hB (fun k hk => hm.block k (Nat.lt_of_lt_of_le hk hs.size) (fun e => by have := e.1; omega)) (fun v g hv hg => ?_) hm.os hm.tape hm.output hm.size
    obtain ⟨v', k1, k2⟩ := hs.row
    have : v' = v := by rw [k1] at hv; exact Option.some.inj hv
    subst this
    exact hm.block g (own_cells k2 hg).2.1 (fun e => e.2 _ k1 hg)
  · rw [World.cell?_of_block (a := ⟨Bn, 0, .none⟩) (cellB s W W' hs hm)] at hv
    exact hk.2 v hv
  · rw [World.cell?_of_block (a := ⟨Bn, 0, .none⟩) (cellB s W W' hs hm)] at hv
    obtain ⟨v', k1, k2⟩ := hs.row
    have : v' = v := by rw [k1] at hv; exact Option.some.inj hv
    subst this
    have := (own_cells k2 e).2.1
    omega
theorem LkI.own (hB : Bn < V.heap.size) : OwnFrom V.heap.size (LkI V Bn) := by
  intro s W W' row hs hg hr
  have key : ∀ k, k < W.heap.size → (k < V.heap.size ∨ ∃ cur t f, W.heap[k]? = some (.cells cur t f)) → W'.heap[k]? = W.heap[k]? := fun k hk hor => hg.block k hk (fun e => by
    obtain ⟨h1, o, ho, hc⟩ := hr k e.symm
    rcases hor with h | ⟨cur, t, f, h⟩
    · omega
    · rw [h] at ho
      injection ho with ho
      subst ho
      cases hc)
  refine hs.keep hB (fun k hk => key k (Nat.lt_of_lt_of_le hk hs.size) (.inl hk)) (fun v g hv hgo => ?_) hg.os hg.tape hg.output hg.size
  obtain ⟨v', k1, k2⟩ := hs.row
  have : v' = v := by rw [k1] at hv; exact Option.some.inj hv
  subst this
  have h5 := own_cells k2 hgo
  exact key g h5.2.1 (.inr h5.2.2)
theorem LkG.put (hB : Bn < V.heap.size) {k l : Nat} {o' : Obj} (h : LkG V Bn k W) (hl : V.heap.size ≤ l) : LkG V Bn k (W.putObj l o') := ⟨h.1, fun v hv => h.2 v (by
  rw [World.cell?_of_block (a := ⟨Bn, 0, .none⟩) (World.putObj_heap_other (by show Bn ≠ l; omega))] at hv
  exact hv)⟩
theorem LkX.put (hB : Bn < V.heap.size) {l : Nat} {o o' : Obj} (h : LkX V Bn pre W) (hl : V.heap.size ≤ l) (ho : W.heap[l]? = some o) (hc : o.isCells = false) : LkX V Bn pre (W.putObj l o') := by
  obtain ⟨q, x, h1, h2, h3⟩ := h
  exact ⟨q, x, h1, h2, (LkI.own hB).putObj _ h3 hl ho hc⟩
theorem LkX.mv (hB : Bn < V.heap.size) (h : LkX V Bn pre W) (hm : Mv (LkG V Bn) W W') : LkX V Bn pre W' := by
  obtain ⟨q, x, h1, h2, h3⟩ := h
  exact ⟨q, x, h1, h2, (LkI.gd hB).move _ _ _ h3 hm⟩
/-- One page more. -/
theorem LkI.step {x : Int × Int} {W1 U : World} {Y p b mm : Nat} {v v' : Value} (hI : LkI V Bn pre W) (hB : Bn < V.heap.size) (k1 : W.cell? ⟨Bn, 0, .none⟩ = some v) (k2 : W.ownsRow V.heap.size 99 3 v pre.length (pcs (pre.map lkF))) (b1 : Below W.heap.size W W1)
    (own' : U.ownsRow V.heap.size 99 3 v' (pre.length + 1) (pcs (pre.map lkF) ++ pc (lkF x))) (grow : W1.grownBy U v.ownBlock) (hg' : v'.ownBlock = v.ownBlock ∨ v'.ownBlock = some W1.heap.size) (hp : p < V.heap.size ∧ b < V.heap.size ∧ mm < V.heap.size ∧ p ≠ Bn ∧ b ≠ Bn ∧ mm ≠ Bn) (hx : x.1 < 274877894656) :
    KeepsFrom Y W (U.setCell ⟨Bn, 0, .none⟩ v') ∧ KpG (LkG V Bn) p b mm W (U.setCell ⟨Bn, 0, .none⟩ v') ∧ LkI V Bn (pre ++ [x]) (U.setCell ⟨Bn, 0, .none⟩ v') := by
  have hBl : Bn < W.heap.size := lt_of_cell k1
  have hs1 := b1.size
  have hs2 := grow.size
  have hsV := hI.size
  have oB : v.ownBlock ≠ some Bn := fun e => by have := (own_cells k2 e).1; omega
  have kV : ∀ k, k < W.heap.size → v.ownBlock ≠ some k → U.heap[k]? = W.heap[k]? := fun k hk hg => (grow.block k (by omega) (fun e => hg e.symm)).trans (b1.block k hk)
  have kk : ∀ k, k < W.heap.size → v.ownBlock ≠ some k → k ≠ Bn → (U.setCell ⟨Bn, 0, .none⟩ v').heap[k]? = W.heap[k]? := fun k hk hg hb => (Below.heap_setCell U ⟨Bn, 0, .none⟩ v' k hb).trans (kV k hk hg)
  have sz : (U.setCell ⟨Bn, 0, .none⟩ v').heap.size = U.heap.size := by simp
  have hcB : (U.setCell ⟨Bn, 0, .none⟩ v').cell? ⟨Bn, 0, .none⟩ = some v' := World.cell?_setCell_same' _ _ _ (by rw [World.cell?_of_block (a := ⟨Bn, 0, .none⟩) (kV Bn hBl oB), k1]; rfl)
  have nlow : ∀ k, k < V.heap.size → v.ownBlock ≠ some k := fun k hk e => by have := (own_cells k2 e).1; omega
  refine ⟨⟨by omega, fun k o _ hk ho => ?_⟩, ⟨fun k o hk ho => ⟨?_, hk.1, fun u hu e => ?_⟩, ?_, ?_, ?_, by omega⟩, ?_⟩
  · have hkl : k < W.heap.size := (Array.getElem?_eq_some_iff.1 hk).1
    refine (kk k hkl (fun e => ?_) (fun e => ?_)).trans hk
    · obtain ⟨_, _, cur, t, f, hgc⟩ := own_cells k2 e
      rw [hgc] at hk; injection hk with hk; subst hk; cases ho
    · subst e; have := cells_of k1 hk; rw [ho] at this; cases this
  · exact (kk k (Array.getElem?_eq_some_iff.1 ho).1 (hk.2 v k1) (fun e => by have := hk.1; omega)).trans ho
  · rw [hcB] at hu
    have : v' = u := Option.some.inj hu
    subst this
    have hkl : k < W.heap.size := (Array.getElem?_eq_some_iff.1 ho).1
    rcases hg' with e2 | e2
    · exact hk.2 v k1 (e2 ▸ e)
    · rw [e2] at e; have := Option.some.inj e; omega
  · exact kk p (by omega) (nlow p hp.1) hp.2.2.2.1
  · exact kk b (by omega) (nlow b hp.2.1) hp.2.2.2.2.1
  · exact kk mm (by omega) (nlow mm hp.2.2.1) hp.2.2.2.2.2
  · refine ⟨by omega, grow.os.trans (b1.os.trans hI.os), grow.tape.trans (b1.tape.trans hI.tape), grow.output.trans (b1.output.trans hI.output), fun k hk hn => (kk k (by omega) (nlow k hk) hn).trans (hI.block k hk hn), ⟨v', hcB, ?_⟩, ?_, fun y hy => ?_⟩
    · rw [List.length_append, List.length_singleton, List.map_append, List.map_cons, List.map_nil, pcs_app]
      refine own_blk own' (fun g hg _ => Below.heap_setCell U ⟨Bn, 0, .none⟩ v' g (fun e => ?_))
      subst e
      rcases hg' with e2 | e2
      · exact oB (e2 ▸ hg)
      · rw [e2] at hg; have := Option.some.inj hg; omega
    · rw [World.frozen?_setCell]
      exact (World.frozen?_of_block (a := ⟨Bn, 0, .none⟩) (kV Bn hBl oB)).trans hI.frz
    · rcases List.mem_append.1 hy with h | h
      · exact hI.low y h
      · rw [List.mem_singleton.1 h]; exact hx
end
theorem sub_sorted : ∀ (l2 l1 : List (Int × Int)), l1.Pairwise (fun a b => a.1 < b.1) → l2.Pairwise (fun a b => a.1 < b.1) → (∀ y ∈ l1, y ∈ l2) → l1.Sublist l2
  | [], l1, _, _, h => by
    cases l1 with
    | nil => exact List.Sublist.refl _
    | cons a t => exact absurd (h a (List.mem_cons_self ..)) (by simp)
  | b :: t2, [], _, _, _ => List.nil_sublist _
  | b :: t2, a :: t1, h1, h2, h => by
    obtain ⟨p1, p2⟩ := List.pairwise_cons.1 h1
    obtain ⟨q1, q2⟩ := List.pairwise_cons.1 h2
    rcases List.mem_cons.1 (h a (List.mem_cons_self ..)) with e | e
    · subst e
      refine List.Sublist.cons_cons _ (sub_sorted t2 t1 p2 q2 fun y hy => ?_)
      rcases List.mem_cons.1 (h y (List.mem_cons_of_mem _ hy)) with e | e
      · subst e; have := p1 y hy; omega
      · exact e
    · refine List.Sublist.cons _ (sub_sorted t2 (a :: t1) h1 q2 fun y hy => ?_)
      have hab := q1 a e
      rcases List.mem_cons.1 (h y hy) with e2 | e2
      · subst e2
        rcases List.mem_cons.1 hy with e3 | e3
        · subst e3; omega
        · have := p1 y e3; omega
      · exact e2
/-- The leaves of a space, in their order. -/
def lvA (fr : Nat → Nat) (c : Nat → Int) (P : Nat) : List (Int × Int) := (List.range P).map fun (i : Nat) => ((i : Int) * 4096, toP (ad (fr i)) (c i))
def lvZ (ft : Nat) : List (Int × Int) := [(274877898752, toP (ad ft) 198), (274877902848, toP (ad 0) 74)]
theorem SpL.leaves {N r ft P : Nat} {B : Nat → Int} {L : List Nat} {F : Nat → Option Nat} {lf : Nat → Nat → Int} {fr : Nat → Nat} {c : Nat → Int} (h : SpL N r ft B L F lf fr c (List.range P)) : lvl (evs F lf 0) = lvA fr c P ++ lvZ ft := by
  have hv := h.tl.leaves h.pt h.pw
  have hs : (lvA fr c P ++ lvZ ft).Pairwise (fun a b => a.1 < b.1) := by
    rw [List.pairwise_append]
    refine ⟨?_, by unfold lvZ; simp, fun a ha b hb => ?_⟩
    · unfold lvA
      rw [List.pairwise_map]
      exact List.pairwise_lt_range.imp (fun h => by omega)
    · obtain ⟨i, hi, rfl⟩ := List.mem_map.1 ha
      have := h.bd i hi
      unfold lvZ at hb
      simp at hb
      rcases hb with rfl | rfl <;> simp only <;> omega
  refine List.Sublist.eq_of_length (sub_sorted _ _ hv.up hs fun y hy => ?_) ?_
  · obtain ⟨x, hx, rfl⟩ := hv.mem y hy
    rw [List.mem_append]
    rcases mem_pgL.1 hx with rfl | rfl | ⟨i, hi, rfl⟩
    · right; unfold lvZ; simp
    · right; unfold lvZ; simp
    · left; exact List.mem_map.2 ⟨i, hi, rfl⟩
  · rw [hv.len]
    unfold pgL lvA tpg lvZ
    simp
theorem pre_split {A Z : List (Int × Int)} {t : Int} (hA : ∀ y ∈ A, y.1 < t) (hZ : ∀ y ∈ Z, t ≤ y.1) : ∀ (q : List (Int × Int)) (x : Int × Int), (∀ y ∈ q, y.1 < t) → t ≤ x.1 → q ++ [x] <+: A ++ Z → q = A := by
  induction A with
  | nil =>
    intro q x hq hx hp
    cases q with
    | nil => rfl
    | cons y q =>
      have h1 : y ∈ Z := hp.subset (by simp)
      have := hZ y h1
      have := hq y (List.mem_cons_self ..)
      omega
  | cons a A ih =>
    intro q x hq hx hp
    cases q with
    | nil =>
      simp only [List.nil_append, List.cons_append] at hp
      have := (List.cons_prefix_cons.1 hp).1
      subst this
      have := hA x (List.mem_cons_self ..)
      omega
    | cons y q =>
      simp only [List.cons_append] at hp
      obtain ⟨e, hp2⟩ := List.cons_prefix_cons.1 hp
      rw [e, ih (fun z hz => hA z (List.mem_cons_of_mem _ hz)) q x (fun z hz => hq z (List.mem_cons_of_mem _ hz)) hx hp2]
end Go.Proofs.YtblmkkhiojbcjaaGreat
