import Derived.Test.YtnghcadhilfgnaaOwn
import Derived.ControlIn
import Derived.Deep.RegionLaw
import Derived.Deep.RegionHeld3
import Derived.Deep.Cut
namespace Go.Proofs.Ytnghcadhilfgnaa
open Go.RowKit Go.Shelf
attribute [local go_sem] Oper.semAt_some
set_option linter.unusedVariables false
set_option linter.unusedSimpArgs false
theorem kinds_apart {w : World} {X e1 e2 s1 s2 n1 n2 : Nat} {v1 v2 : Value} {xs1 xs2 : List Value} (h1 : w.ownsRow X e1 s1 v1 n1 xs1) (h2 : w.ownsRow X e2 s2 v2 n2 xs2) (he : e1 ≠ e2) : v1.ownBlock = none ∨ v1.ownBlock ≠ v2.ownBlock := by
  rcases h1.2 with ⟨rfl, _⟩ | ⟨g1, c1, cur1, rfl, _, hh1, _⟩
  · exact .inl rfl
  · rcases h2.2 with ⟨rfl, _⟩ | ⟨g2, c2, cur2, rfl, _, hh2, _⟩
    · exact .inr (by simp [Value.ownBlock])
    · refine .inr (fun e => ?_)
      simp only [Value.ownBlock, Option.some.injEq] at e
      subst e
      rw [hh1] at hh2
      injection hh2 with hh2
      injection hh2 with _ e3
      exact he e3
theorem grown_setCell (w : World) (g j : Nat) (v : Value) : w.grownBy (w.setCell ⟨g, j, .none⟩ v) (some g) := by
  have h : Below 0 w (w.setCell ⟨g, j, .none⟩ v) := (Below.refl _ _).setCell (Nat.zero_le _) _
  exact ⟨h.os, h.tape, h.output, h.size, fun k hk hne => Below.heap_setCell _ _ _ _ (fun e => hne (by rw [e]))⟩
/-- The block that a cell's slice lies in. -/
def Ref (W : World) (box k : Nat) : Prop := ∃ a n c, W.cell? ⟨box, 1, .none⟩ = some (.slice (some a) n c) ∧ a.block = k
/-- What a round of Image keeps: all cells but its own variable's and the row that this one leads to. -/
structure KpI (box : Nat) (W W' : World) : Prop where
  size : W.heap.size ≤ W'.heap.size
  keep : ∀ k c t f, W.heap[k]? = some (.cells c t f) → k ≠ box → ¬ Ref W box k → W'.heap[k]? = some (.cells c t f)
  ref : ∀ k, Ref W' box k → Ref W box k ∨ W.heap.size ≤ k
theorem KpI.trans {box : Nat} {A B C : World} (h : KpI box A B) (k : KpI box B C) : KpI box A C :=
  ⟨Nat.le_trans h.size k.size, fun i c t f hi hb hr => k.keep i c t f (h.keep i c t f hi hb hr) hb (fun hr2 => by
    rcases h.ref i hr2 with h1 | h1
    · exact hr h1
    · have := (Array.getElem?_eq_some_iff.1 hi).1; omega), fun i hi => by
    rcases k.ref i hi with h1 | h1
    · exact h.ref i h1
    · exact .inr (Nat.le_trans h.size h1)⟩
theorem KpI.put {box : Nat} {w : World} (W : World) (l : Nat) (o o' : Obj) (hl : w.heap.size ≤ l) (hb : box < w.heap.size) (h : W.heap[l]? = some o) (ho : o.isCells = false) : KpI box W (W.putObj l o') := by
  have hz : W.heap.size ≤ (W.putObj l o').heap.size := (grownBy_putObj' W l o').size
  have hc : (W.putObj l o').cell? ⟨box, 1, .none⟩ = W.cell? ⟨box, 1, .none⟩ := by
    simp only [World.cell?, World.putObj_heap_other (show box ≠ l by omega)]
  refine ⟨hz, fun k c t f hk _ _ => ?_, fun k hk => .inl ?_⟩
  · rw [World.putObj_heap_other (fun e => by subst e; rw [hk] at h; cases h; cases ho)]
    exact hk
  · obtain ⟨a, n, c, h1, h2⟩ := hk
    exact ⟨a, n, c, hc ▸ h1, h2⟩
def GoodI (box : Nat) (g : Nat) (W : World) : Prop := g ≠ box ∧ ¬ Ref W box g
theorem goodI_keep (box : Nat) : ∀ W W' g cur, KpI box W W' → GoodI box g W → W.heap[g]? = some (.cells cur 26 (0, 0)) → W'.heap[g]? = some (.cells cur 26 (0, 0)) ∧ GoodI box g W' := fun W W' g cur k hg hh =>
  ⟨k.keep g _ _ _ hh hg.1 hg.2, hg.1, fun hr => by
    rcases k.ref g hr with h1 | h1
    · exact hg.2 h1
    · have := (Array.getElem?_eq_some_iff.1 hh).1; omega⟩
theorem owns_turn {A B : World} {row : Option Nat} {X e s n : Nat} {v : Value} {xs : List Value} (h : A.ownsRow X e s v n xs) (hg : A.grownBy B row) (hr : ∀ r, row = some r → ∃ o : Obj, A.heap[r]? = some o ∧ o.isCells = false) : B.ownsRow X e s v n xs := by
  refine ⟨h.1, ?_⟩
  rcases h.2 with h0 | ⟨g, cap, cur, hv, hX, hh, r⟩
  · exact .inl h0
  · refine .inr ⟨g, cap, cur, hv, hX, (hg.block g (Array.getElem?_eq_some_iff.1 hh).1 (fun e => ?_)).trans hh, r⟩
    obtain ⟨o, ho, hc⟩ := hr g e.symm
    rw [hh] at ho
    cases ho
    cases hc
/-- An append within a fence, and where the new row lies. -/
theorem wpListIn_append_at {F : Fence} {n : Nat} {P : Program} (w : World) {ops : Array Oper} {rest : List Oper} {o : Oper} {a : Act} {Q : Exit → Act → World → Prop} (hgd : o.guard = none) (s x : Operand) (t : TypeId)
    (hop : o.op = .call { callee := .builtin .append, args := #[s, x], argTypes := #[t, t] }) (base : Nat) (e : TypeId) (i : TypeInfo) (z : Value) (size bytes : Nat) (ht : P.underlying t = some (.slice e)) (hi : P.info? e = some i) (hz : i.zero = some z)
    (hsize : i.size = size) (hby : i.bytes = bytes) (hzs : z.cells.size = size) (hsz : 0 < size) (v : Value) (k : Nat) (xs : List Value) (hs : a.eval s = v) (hown : w.ownsRow base e size v k xs)
    (ad : Addr) (m c : Nat) (news : List Value) (hx : a.eval x = .slice (some ad) m c) (hl : news.length = m * size) (hnews : ∀ j u, news[j]? = some u → w.cell? (ad.add j) = some u) (h1 : ∀ u ∈ news, u.oneCell' = true)
    (h63 : k + m ≤ maxLen) (hbytes : (k + m) * bytes ≤ 140737488355328) (hbase : base ≤ w.heap.size)
    (hK : ∀ v' w', w'.ownsRow base e size v' (k + m) (xs ++ news) → w.grownBy w' v.ownBlock → (v'.ownBlock = v.ownBlock ∨ v'.ownBlock = some w.heap.size) → wpListIn F n P ops Q rest (a.put o.dst v') w') : wpListIn F n P ops Q (o :: rest) a w := by
  refine wpListIn_plain hgd fun K hK' => ?_
  obtain ⟨v', w', hrun, r1, r2, _, r4⟩ := run_append_own_at (P := P) w base t o.type e i z size bytes ht hi hz hsize hby hzs hsz v k xs hown ad m c news hl hnews h1 h63 hbytes hbase
  unfold Oper.wpIn
  refine ⟨by simp [Oper.about, hop, resolve, Target.leads, Sem.run_pure], ?_⟩
  rw [Oper.semAt_plain F _ _ (by rw [hop]; intro c hc'; cases hc')]
  simp [execOp, hop, resolve, invoke, builtin, hs, hx, hrun, Result.andThen]
  exact hK' _ _ (hK v' w' r1 r2 r4)
/-- What lies in Image's variable while it ranges over the free frames. -/
def II (w : World) (X N : Nat) (pre : List Nat) (W : World) : Prop :=
  (∃ q c, C3 W (w.heap.size + 1) (.int .i64 N) (.slice q pre.length c) (.slice .none 0 0) ∧ W.ownsRow X 26 1 (.slice q pre.length c) pre.length (pre.map adv)) ∧ C3 W w.heap.size (.int .i64 0) (.slice .none 0 0) (.slice .none 0 0)
theorem II.own (w : World) (X N : Nat) : Own (II w X N) := fun s A B row hs hg hr => by
  obtain ⟨⟨q, c, h1, h2⟩, h3⟩ := hs
  exact ⟨⟨q, c, h1.kept hg hr, owns_turn h2 hg hr⟩, h3.kept hg hr⟩
theorem img_step {w W w5 : World} {X N g1 cap1 c : Nat} {q : Option Addr} {pre : List Nat} {x : Nat} (hX : w.heap.size + 1 + 1 + 1 ≤ X) (hC : C3 W (w.heap.size + 1) (.int .i64 N) (.slice q pre.length c) (.slice .none 0 0)) (hO : W.ownsRow X 26 1 (.slice q pre.length c) pre.length (pre.map adv)) (hW : X ≤ W.heap.size)
    (hC2 : C3 W w.heap.size (.int .i64 0) (.slice .none 0 0) (.slice .none 0 0)) (hB : Below w.heap.size w W) (hown : w5.ownsRow X 26 1 (.slice (some ⟨g1, 0, .none⟩) (pre.length + 1) cap1) (pre.length + 1) (pre.map adv ++ [adv x])) (hg : (W.alloc (.cells #[adv x] 26)).grownBy w5 (Value.ownBlock (.slice q pre.length c)))
    (hat : Value.ownBlock (.slice (some ⟨g1, 0, .none⟩) (pre.length + 1) cap1) = Value.ownBlock (.slice q pre.length c) ∨ Value.ownBlock (.slice (some ⟨g1, 0, .none⟩) (pre.length + 1) cap1) = some (W.alloc (.cells #[adv x] 26)).heap.size) :
    KeepsOthers W (w5.setCell ⟨w.heap.size + 1, 1, .none⟩ (.slice (some ⟨g1, 0, .none⟩) (pre.length + 1) cap1)) ∧ KpI (w.heap.size + 1) W (w5.setCell ⟨w.heap.size + 1, 1, .none⟩ (.slice (some ⟨g1, 0, .none⟩) (pre.length + 1) cap1)) ∧
      (II w X N (pre ++ [x]) (w5.setCell ⟨w.heap.size + 1, 1, .none⟩ (.slice (some ⟨g1, 0, .none⟩) (pre.length + 1) cap1)) ∧ Below w.heap.size w (w5.setCell ⟨w.heap.size + 1, 1, .none⟩ (.slice (some ⟨g1, 0, .none⟩) (pre.length + 1) cap1))) ∧ X ≤ (w5.setCell ⟨w.heap.size + 1, 1, .none⟩ (.slice (some ⟨g1, 0, .none⟩) (pre.length + 1) cap1)).heap.size := by
  have hr : ∀ k, Value.ownBlock (.slice q pre.length c) = some k → X ≤ k ∧ k < W.heap.size := fun k hk => hO.lt k hk
  have hsz : W.heap.size ≤ w5.heap.size := by have := hg.size; simp only [World.size_alloc] at this; omega
  have hg1 : X ≤ g1 := (hown.lt g1 rfl).1
  have blk : ∀ k, k < W.heap.size → Value.ownBlock (.slice q pre.length c) ≠ some k → w5.heap[k]? = W.heap[k]? := fun k hk hne => (hg.block k (by simp; omega) (fun e => hne e.symm)).trans (Below.heap_alloc W _ k hk)
  have nb : ∀ k, k < X → Value.ownBlock (.slice q pre.length c) ≠ some k := fun k hk e => by have := (hr k e).1; omega
  have c5 : ∀ i k, k < X → w5.cell? ⟨k, i, .none⟩ = W.cell? ⟨k, i, .none⟩ := fun i k hk => World.cell?_of_block (blk k (by omega) (nb k hk))
  have f5 : ∀ i k, k < X → w5.frozen? ⟨k, i, .none⟩ = W.frozen? ⟨k, i, .none⟩ := fun i k hk => World.frozen?_of_block (blk k (by omega) (nb k hk))
  have G := grown_setCell w5 (w.heap.size + 1) 1 (.slice (some ⟨g1, 0, .none⟩) (pre.length + 1) cap1)
  obtain ⟨a0, a1, a2, z0, z1, z2⟩ := hC
  obtain ⟨b0, b1, b2, y0, y1, y2⟩ := hC2
  have e1 : (w5.setCell ⟨w.heap.size + 1, 1, .none⟩ (.slice (some ⟨g1, 0, .none⟩) (pre.length + 1) cap1)).cell? ⟨w.heap.size + 1, 1, .none⟩ = some (.slice (some ⟨g1, 0, .none⟩) (pre.length + 1) cap1) := World.cell?_setCell_same' _ _ _ (by rw [c5 1 _ (by omega), a1]; rfl)
  refine ⟨⟨Nat.le_trans hsz G.size, fun k o hk ho => ?_⟩, ⟨Nat.le_trans hsz G.size, fun k cc t f hk hne hnr => ?_, fun k hk => ?_⟩, ⟨⟨⟨some ⟨g1, 0, .none⟩, cap1, ?_, ?_⟩, ?_⟩, ?_⟩, Nat.le_trans hW (Nat.le_trans hsz G.size)⟩
  · have hlt := (Array.getElem?_eq_some_iff.1 hk).1
    have hkb : k ≠ w.heap.size + 1 := fun e => by
      subst e
      cases o with
      | cells _ _ _ => cases ho
      | _ => simp [World.cell?, hk] at a0
    have hkr : Value.ownBlock (.slice q pre.length c) ≠ some k := fun e => by
      rcases hO.2 with ⟨h0, _⟩ | ⟨g, _, cur, hv, _, hh, _⟩
      · injection h0 with h0
        subst h0
        simp [Value.ownBlock] at e
      · injection hv with h0
        subst h0
        simp only [Value.ownBlock, Option.some.injEq] at e
        subst e
        rw [hh] at hk
        cases hk
        cases ho
    rw [Below.heap_setCell _ _ _ _ (by show k ≠ w.heap.size + 1; exact hkb), blk k hlt hkr]
    exact hk
  · have hlt := (Array.getElem?_eq_some_iff.1 hk).1
    have hkr : Value.ownBlock (.slice q pre.length c) ≠ some k := fun e => by
      cases q with
      | none => simp [Value.ownBlock] at e
      | some a => exact hnr ⟨a, _, _, a1, by simpa [Value.ownBlock] using e⟩
    rw [Below.heap_setCell _ _ _ _ (by show k ≠ w.heap.size + 1; exact hne), blk k hlt hkr]
    exact hk
  · obtain ⟨a, n, cc, h1, h2⟩ := hk
    rw [e1] at h1
    injection h1 with h1
    injection h1 with h1 _ _
    injection h1 with h1
    subst h1
    simp only at h2
    subst h2
    rcases hat with h | h
    · cases q with
      | none => simp [Value.ownBlock] at h
      | some a => exact .inl ⟨a, _, _, a1, by simpa [Value.ownBlock] using h.symm⟩
    · simp only [Value.ownBlock, World.size_alloc, Option.some.injEq] at h
      exact .inr (by omega)
  · rw [List.length_append, List.length_singleton]
    refine ⟨?_, e1, ?_, ?_, ?_, ?_⟩
    · rw [World.cell?_setCell_other _ _ _ _ (by simp), c5 0 _ (by omega)]; exact a0
    · rw [World.cell?_setCell_other _ _ _ _ (by simp), c5 2 _ (by omega)]; exact a2
    · rw [World.frozen?_setCell, f5 0 _ (by omega)]; exact z0
    · rw [World.frozen?_setCell, f5 1 _ (by omega)]; exact z1
    · rw [World.frozen?_setCell, f5 2 _ (by omega)]; exact z2
  · rw [List.length_append, List.length_singleton, List.map_append]
    exact hown.kept G (.inr (by simp only [Value.ownBlock]; intro e; cases e; omega))
  · refine ⟨?_, ?_, ?_, ?_, ?_, ?_⟩
    · rw [World.cell?_setCell_other _ _ _ _ (by simp), c5 0 _ (by omega)]; exact b0
    · rw [World.cell?_setCell_other _ _ _ _ (by simp), c5 1 _ (by omega)]; exact b1
    · rw [World.cell?_setCell_other _ _ _ _ (by simp), c5 2 _ (by omega)]; exact b2
    · rw [World.frozen?_setCell, f5 0 _ (by omega)]; exact y0
    · rw [World.frozen?_setCell, f5 1 _ (by omega)]; exact y1
    · rw [World.frozen?_setCell, f5 2 _ (by omega)]; exact y2
  · have hBA := hB.alloc hB.size (.cells #[adv x] 26)
    exact (hBA.grown hg hBA.size (fun k hk => by have := (hr k hk).1; omega)).setCell (p := ⟨w.heap.size + 1, 1, .none⟩) (by show w.heap.size ≤ w.heap.size + 1; omega) _
/-- The held frames' cells: an address, and the block of its bytes. -/
def flatH : List (Nat × Nat) → List Value
  | [] => []
  | x :: l => adv x.1 :: .slice (some ⟨x.2, 0, .none⟩) 4096 4096 :: flatH l
theorem flatH_len : ∀ l : List (Nat × Nat), (flatH l).length = l.length * 2
  | [] => rfl
  | x :: l => by simp only [flatH, List.length_cons, flatH_len l]; omega
theorem flatH_append : ∀ (l : List (Nat × Nat)) (x : Nat × Nat), flatH (l ++ [x]) = flatH l ++ [adv x.1, .slice (some ⟨x.2, 0, .none⟩) 4096 4096]
  | [], x => rfl
  | y :: l, x => by simp only [List.cons_append, flatH, flatH_append l x]
def heldTo (L : List Nat) (i : Nat) : List Nat := (List.range i).filter fun f => !decide (f ∈ L)
theorem heldTo_in (L : List Nat) (i : Nat) (h : i ∈ L) : heldTo L (i + 1) = heldTo L i := by simp [heldTo, List.range_succ, List.filter_append, h]
theorem heldTo_out (L : List Nat) (i : Nat) (h : i ∉ L) : heldTo L (i + 1) = heldTo L i ++ [i] := by simp [heldTo, List.range_succ, List.filter_append, h]
theorem heldTo_len (L : List Nat) (i : Nat) : (heldTo L i).length ≤ i := by
  have := List.length_filter_le (fun f => !decide (f ∈ L)) (List.range i)
  simpa [heldTo] using this
/-- A copy's block of bytes. -/
structure DataB (W : World) (g : Nat) (R : Nat → Int) : Prop where
  lt : g < W.heap.size
  row : RowB W g 4096 R
  fz : ∀ k, k < 4096 → W.frozen? ⟨g, k, .none⟩ = false
  own : OwnB W g 4096
theorem DataB.below {W W' : World} {g n : Nat} {R : Nat → Int} (h : DataB W g R) (b : Below n W W') (hn : g < n) : DataB W' g R :=
  ⟨Nat.lt_of_lt_of_le h.lt b.size, h.row.below b hn, fun k hk => (b.frozen (p := ⟨g, k, .none⟩) hn).trans (h.fz k hk), h.own.block (b.block g hn)⟩
theorem DataB.block {W W' : World} {g : Nat} {R : Nat → Int} (h : DataB W g R) (hz : W.heap.size ≤ W'.heap.size) (e : W'.heap[g]? = W.heap[g]?) : DataB W' g R :=
  ⟨Nat.lt_of_lt_of_le h.lt hz, fun i hi => (World.cell?_of_block (a := ⟨g, i, .none⟩) e).trans (h.row i hi), fun k hk => (World.frozen?_of_block (a := ⟨g, k, .none⟩) e).trans (h.fz k hk), h.own.block e⟩
structure HSt (w W : World) (X N D : Nat) (B : Nat → Int) (L : List Nat) (qf : Option Addr) (cf i : Nat) (hs : List (Nat × Nat)) (q2 : Option Addr) (c2 : Nat) : Prop where
  fs : hs.map (·.1) = heldTo L i
  c : C3 W (w.heap.size + 1) (.int .i64 N) (.slice qf L.length cf) (.slice q2 hs.length c2)
  r : C3 W w.heap.size (.int .i64 0) (.slice .none 0 0) (.slice .none 0 0)
  fr : W.ownsRow X 26 1 (.slice qf L.length cf) L.length (L.map adv)
  hr : W.ownsRow X 70 2 (.slice q2 hs.length c2) hs.length (flatH hs)
  da : ∀ x ∈ hs, X ≤ x.2 ∧ DataB W x.2 (fun k => B (x.1 * 4096 + k)) ∧ Value.ownBlock (.slice q2 hs.length c2) ≠ some x.2 ∧ Value.ownBlock (.slice qf L.length cf) ≠ some x.2
  nd : (hs.map (·.2)).Nodup
  be : Below w.heap.size w W
  df : W.heap[D]? = some (.deferred (some []))
  xs : X ≤ W.heap.size
theorem HSt.below {w W W' : World} {X N D cf i c2 : Nat} {B : Nat → Int} {L : List Nat} {qf q2 : Option Addr} {hs : List (Nat × Nat)} (h : HSt w W X N D B L qf cf i hs q2 c2) (k : Below W.heap.size W W') : HSt w W' X N D B L qf cf i hs q2 c2 := by
  have kc : ∀ a x y z, C3 W a x y z → C3 W' a x y z := fun a x y z hc => hc.kept ⟨k.os, k.tape, k.output, k.size, fun j hj _ => k.block j hj⟩ (row := none) (fun r e => by cases e)
  exact ⟨h.fs, kc _ _ _ _ h.c, kc _ _ _ _ h.r, owns_below h.fr k, owns_below h.hr k, fun x hx => ⟨(h.da x hx).1, (h.da x hx).2.1.below k (h.da x hx).2.1.lt, (h.da x hx).2.2⟩, h.nd, h.be.trans (k.mono h.be.size), (k.block D (Array.getElem?_eq_some_iff.1 h.df).1).trans h.df, Nat.le_trans h.xs k.size⟩
theorem HSt.skip {w W : World} {X N D cf i c2 : Nat} {B : Nat → Int} {L : List Nat} {qf q2 : Option Addr} {hs : List (Nat × Nat)} (h : HSt w W X N D B L qf cf i hs q2 c2) (hi : i ∈ L) : HSt w W X N D B L qf cf (i + 1) hs q2 c2 :=
  ⟨by rw [heldTo_in L i hi]; exact h.fs, h.c, h.r, h.fr, h.hr, h.da, h.nd, h.be, h.df, h.xs⟩
theorem info76 : ∃ i, Try.prog.info? 70 = some i ∧ i.zero = some (.agg #[.int .u64 0, .slice .none 0 0]) ∧ i.size = 2 ∧ i.bytes = 32 := by
  have h : (Try.prog.info? 70).map (fun i => (i.zero, i.size, i.bytes)) = some (some (.agg #[.int .u64 0, .slice .none 0 0]), 2, 32) := by kernel_rfl
  cases hq : Try.prog.info? 70 with
  | none => rw [hq] at h; cases h
  | some i =>
    rw [hq] at h
    simp only [Option.map_some, Option.some.injEq, Prod.mk.injEq] at h
    exact ⟨i, rfl, h⟩
theorem HSt.step {w W w5 : World} {X N D cf i c2 g g1 cap1 : Nat} {B : Nat → Int} {L : List Nat} {qf q2 : Option Addr} {hs : List (Nat × Nat)} {o : Obj} (h : HSt w W X N D B L qf cf i hs q2 c2) (hX : w.heap.size + 1 + 1 + 1 ≤ X) (hi : i ∉ L) (hgX : X ≤ g) (hd : DataB W g (fun k => B (i * 4096 + k))) (hg2 : Value.ownBlock (.slice q2 hs.length c2) ≠ some g) (hgf : Value.ownBlock (.slice qf L.length cf) ≠ some g) (hgn : g ∉ hs.map (·.2))
    (hown : w5.ownsRow X 70 2 (.slice (some ⟨g1, 0, .none⟩) (hs.length + 1) cap1) (hs.length + 1) (flatH hs ++ [adv i, .slice (some ⟨g, 0, .none⟩) 4096 4096])) (hgr : (W.alloc o).grownBy w5 (Value.ownBlock (.slice q2 hs.length c2)))
    (hat : Value.ownBlock (.slice (some ⟨g1, 0, .none⟩) (hs.length + 1) cap1) = Value.ownBlock (.slice q2 hs.length c2) ∨ Value.ownBlock (.slice (some ⟨g1, 0, .none⟩) (hs.length + 1) cap1) = some (W.alloc o).heap.size) :
    HSt w (w5.setCell ⟨w.heap.size + 1, 2, .none⟩ (.slice (some ⟨g1, 0, .none⟩) (hs.length + 1) cap1)) X N D B L qf cf (i + 1) (hs ++ [(i, g)]) (some ⟨g1, 0, .none⟩) cap1 := by
  have hr : ∀ k, Value.ownBlock (.slice q2 hs.length c2) = some k → X ≤ k ∧ k < W.heap.size := fun k hk => h.hr.lt k hk
  have hsz : W.heap.size ≤ w5.heap.size := by have := hgr.size; simp only [World.size_alloc] at this; omega
  have hg1 : X ≤ g1 := (hown.lt g1 rfl).1
  have hXW := h.xs
  have blk : ∀ k, k < W.heap.size → Value.ownBlock (.slice q2 hs.length c2) ≠ some k → w5.heap[k]? = W.heap[k]? := fun k hk hne => (hgr.block k (by simp; omega) (fun e => hne e.symm)).trans (Below.heap_alloc W _ k hk)
  have nb : ∀ k, k < X → Value.ownBlock (.slice q2 hs.length c2) ≠ some k := fun k hk e => by have := (hr k e).1; omega
  have c5 : ∀ i k, k < X → w5.cell? ⟨k, i, .none⟩ = W.cell? ⟨k, i, .none⟩ := fun i k hk => World.cell?_of_block (blk k (by omega) (nb k hk))
  have f5 : ∀ i k, k < X → w5.frozen? ⟨k, i, .none⟩ = W.frozen? ⟨k, i, .none⟩ := fun i k hk => World.frozen?_of_block (blk k (by omega) (nb k hk))
  have G := grown_setCell w5 (w.heap.size + 1) 2 (.slice (some ⟨g1, 0, .none⟩) (hs.length + 1) cap1)
  have blk6 : ∀ k, k < W.heap.size → k ≠ w.heap.size + 1 → Value.ownBlock (.slice q2 hs.length c2) ≠ some k → (w5.setCell ⟨w.heap.size + 1, 2, .none⟩ (.slice (some ⟨g1, 0, .none⟩) (hs.length + 1) cap1)).heap[k]? = W.heap[k]? := fun k hk hne h2 => (Below.heap_setCell _ _ _ _ (by show k ≠ w.heap.size + 1; exact hne)).trans (blk k hk h2)
  have gl : ∀ k, k < W.heap.size → Value.ownBlock (.slice q2 hs.length c2) ≠ some k → g1 ≠ k := fun k hk h2 e => by
    subst e
    rcases hat with h1 | h1
    · exact h2 h1.symm
    · simp only [Value.ownBlock, World.size_alloc, Option.some.injEq] at h1
      omega
  have hz6 := Nat.le_trans hsz G.size
  obtain ⟨a0, a1, a2, z0, z1, z2⟩ := h.c
  obtain ⟨b0, b1, b2, y0, y1, y2⟩ := h.r
  refine ⟨?_, ?_, ?_, ?_, ?_, ?_, ?_, ?_, ?_, Nat.le_trans hXW hz6⟩
  · rw [List.map_append, h.fs, heldTo_out L i hi]; rfl
  · rw [List.length_append, List.length_singleton]
    refine ⟨?_, ?_, World.cell?_setCell_same' _ _ _ (by rw [c5 2 _ (by omega), a2]; rfl), ?_, ?_, ?_⟩
    · rw [World.cell?_setCell_other _ _ _ _ (by simp), c5 0 _ (by omega)]; exact a0
    · rw [World.cell?_setCell_other _ _ _ _ (by simp), c5 1 _ (by omega)]; exact a1
    · rw [World.frozen?_setCell, f5 0 _ (by omega)]; exact z0
    · rw [World.frozen?_setCell, f5 1 _ (by omega)]; exact z1
    · rw [World.frozen?_setCell, f5 2 _ (by omega)]; exact z2
  · refine ⟨?_, ?_, ?_, ?_, ?_, ?_⟩
    · rw [World.cell?_setCell_other _ _ _ _ (by simp), c5 0 _ (by omega)]; exact b0
    · rw [World.cell?_setCell_other _ _ _ _ (by simp), c5 1 _ (by omega)]; exact b1
    · rw [World.cell?_setCell_other _ _ _ _ (by simp), c5 2 _ (by omega)]; exact b2
    · rw [World.frozen?_setCell, f5 0 _ (by omega)]; exact y0
    · rw [World.frozen?_setCell, f5 1 _ (by omega)]; exact y1
    · rw [World.frozen?_setCell, f5 2 _ (by omega)]; exact y2
  · have h1 := (h.fr.alloc o).kept hgr (kinds_apart h.fr h.hr (by decide))
    refine h1.kept G ?_
    rcases h.fr.2 with ⟨e, _⟩ | ⟨gg, _, _, e, hgg, _⟩
    · rw [e]; exact .inl rfl
    · rw [e]; exact .inr (by simp only [Value.ownBlock]; intro e; cases e; omega)
  · rw [List.length_append, List.length_singleton, flatH_append]
    exact hown.kept G (.inr (by simp only [Value.ownBlock]; intro e; cases e; omega))
  · intro x hx
    rw [List.length_append, List.length_singleton]
    rcases List.mem_append.1 hx with hx | hx
    · obtain ⟨p1, p2, p3, p4⟩ := h.da x hx
      exact ⟨p1, p2.block hz6 (blk6 _ p2.lt (by omega) p3), by simp only [Value.ownBlock]; intro e; cases e; exact gl _ p2.lt p3 rfl, p4⟩
    · simp only [List.mem_singleton] at hx
      subst hx
      exact ⟨hgX, hd.block hz6 (blk6 _ hd.lt (by omega) hg2), by simp only [Value.ownBlock]; intro e; cases e; exact gl _ hd.lt hg2 rfl, hgf⟩
  · rw [List.map_append]
    refine List.nodup_append.2 ⟨h.nd, by simp, fun a ha b hb e => ?_⟩
    simp only [List.map_cons, List.map_nil, List.mem_singleton] at hb
    subst hb e
    exact hgn ha
  · have hBA := h.be.alloc h.be.size o
    exact (hBA.grown hgr hBA.size (fun k hk => by have := (hr k hk).1; omega)).setCell (p := ⟨w.heap.size + 1, 2, .none⟩) (by show w.heap.size ≤ w.heap.size + 1; omega) _
  · have hD := (Array.getElem?_eq_some_iff.1 h.df).1
    have hDb : D ≠ w.heap.size + 1 := fun e => by
      have h1 := h.df
      rw [e] at h1
      simp [World.cell?, h1] at a0
    have hDr : Value.ownBlock (.slice q2 hs.length c2) ≠ some D := fun e => by
      rcases h.hr.2 with ⟨h0, _⟩ | ⟨gg, _, cur, hv, _, hh, _⟩
      · injection h0 with h0
        subst h0
        simp [Value.ownBlock] at e
      · injection hv with h0
        subst h0
        simp only [Value.ownBlock, Option.some.injEq] at e
        subst e
        have h1 := h.df
        rw [hh] at h1
        cases h1
    exact (blk6 D hD hDb hDr).trans h.df
def HRel (w : World) (X N D : Nat) (B : Nat → Int) (L : List Nat) (qf : Option Addr) (cf : Nat) (k : Value) (W : World) : Prop := ∃ i hs q2 c2, i ≤ N ∧ k = .int .i64 i ∧ HSt w W X N D B L qf cf i hs q2 c2
/-- An append as one step of a region that draws. -/
theorem step_append_at {P : Program} {ops : Array Oper} {o : Oper} {a : Act} {w : World} {K : Act → World → Prop} {Q : Exit → Act → World → Prop} {E : Prop} (hgd : o.guard = none) (s x : Operand) (t : TypeId)
    (hop : o.op = .call { callee := .builtin .append, args := #[s, x], argTypes := #[t, t] }) (base : Nat) (e : TypeId) (i : TypeInfo) (z : Value) (size bytes : Nat) (ht : P.underlying t = some (.slice e)) (hi : P.info? e = some i) (hz : i.zero = some z)
    (hsize : i.size = size) (hby : i.bytes = bytes) (hzs : z.cells.size = size) (hsz : 0 < size) (v : Value) (k : Nat) (xs : List Value) (hs : a.eval s = v) (hown : w.ownsRow base e size v k xs)
    (ad : Addr) (m c : Nat) (news : List Value) (hx : a.eval x = .slice (some ad) m c) (hl : news.length = m * size) (hnews : ∀ j u, news[j]? = some u → w.cell? (ad.add j) = some u) (h1 : ∀ u ∈ news, u.oneCell' = true)
    (h63 : k + m ≤ maxLen) (hbytes : (k + m) * bytes ≤ 140737488355328) (hbase : base ≤ w.heap.size)
    (h : ∀ v' w', w'.ownsRow base e size v' (k + m) (xs ++ news) → w.grownBy w' v.ownBlock → (v'.ownBlock = v.ownBlock ∨ v'.ownBlock = some w.heap.size) → K (a.put o.dst v') w') : if Region.wanted o (yielded ops a.tmps) = true then Oper.wp P o a w K Q else E := by
  have hw : Region.wanted o (yielded ops a.tmps) = true := by simp [Region.wanted, hgd]
  rw [if_pos hw]
  obtain ⟨v', w', hrun, r1, r2, _, r4⟩ := run_append_own_at (P := P) w base t o.type e i z size bytes ht hi hz hsize hby hzs hsz v k xs hown ad m c news hl hnews h1 h63 hbytes hbase
  unfold Oper.wp
  simp [execOp, hop, resolve, invoke, builtin, hs, hx, hrun, Result.andThen]
  exact h v' w' r1 r2 r4
theorem cell2_new (w : World) (x y : Value) (t : TypeId) : ∀ j u, [x, y][j]? = some u → (w.alloc (.cells #[x, y] t)).cell? ((⟨w.heap.size, 0, .none⟩ : Addr).add j) = some u := by
  intro j u hj
  rw [addr_add, World.cell?_alloc_at _ _ _ _ rfl, Nat.zero_add]
  simpa using hj
end Go.Proofs.Ytnghcadhilfgnaa
