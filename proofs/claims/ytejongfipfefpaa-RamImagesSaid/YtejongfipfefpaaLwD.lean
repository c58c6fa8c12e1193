import Derived.Test.YtejongfipfefpaaRfC
import Derived.Test.YtejongfipfefpaaLeB
import Derived.Test.YtejongfipfefpaaRfF
import Derived.OneCell
namespace Go.Proofs.Ytejongfipfefpaa
open Go.RowKit
set_option linter.unusedVariables false
set_option linter.unusedSimpArgs false
/-- What the program tells: a refusal, or nothing. -/
def ErrR (w : World) (v : Value) (a r : Int) : Prop := (r ≠ 0 ∧ FaultIn w 0 v a r) ∨ (r = 0 ∧ v = .nilIface)
/-- What the document tells. -/
def RefR (w : World) (g : Value) (a r : Int) : Prop := (r ≠ 0 ∧ LFault w g a r) ∨ (r = 0 ∧ g = .agg #[.slice .none 0 0, .int .i64 0])
theorem ErrR.below {w w' : World} {v : Value} {a r : Int} (h : ErrR w v a r) (b : Below w.heap.size w w') : ErrR w' v a r := by
  rcases h with ⟨h1, h2⟩ | h
  · exact .inl ⟨h1, FaultIn.below b h2⟩
  · exact .inr h
theorem RefR.below {w w' : World} {v : Value} {a r : Int} (h : RefR w v a r) (b : Below w.heap.size w w') : RefR w' v a r := by
  rcases h with ⟨h1, h2⟩ | h
  · exact .inl ⟨h1, LFault.below b h2⟩
  · exact .inr h
set_option maxHeartbeats 1000000 in
theorem lfaultR_any (a r : Int) (w : World) : Calls Try.prog 8 #[.int .i64 a, .int .i64 r] w fun e w' => (∃ g, e = .returned g ∧ RefR w' g a r) ∧ Below w.heap.size w w' := by
  by_cases hr : r = 0
  · subst hr
    have c := none_any (w.alloc (.cells #[.slice .none 0 0, .int .i64 0] 42))
    go_enter Try.func8, Try.ntmps8
    go_wp2_with fail
    refine c.mono ?_
    rintro e w1 ⟨rfl, rfl⟩
    go_wp2
    refine bodyPost_ret (v := .agg #[.slice .none 0 0, .int .i64 0]) (by simp [results, Try.results8, go_sem]) rfl ⟨⟨_, rfl, .inr ⟨rfl, rfl⟩⟩, ?_⟩
    exact (below_past _ _).alloc (by simp) _
  · exact (lfault_any a r hr w).mono fun e w' ⟨⟨v, h1, h2⟩, h3⟩ => ⟨⟨v, h1, .inl ⟨hr, h2⟩⟩, h3⟩
theorem isR_any (v g : Value) (a r : Int) (w : World) (h1 : ErrR w v a r) (h2 : RefR w g a r) : Calls Try.prog 7 #[v, g] w fun e w' => e = .returned (.bool true) ∧ Below w.heap.size w w' := by
  rcases h1 with ⟨a1, a2⟩ | ⟨a1, rfl⟩
  · rcases h2 with ⟨b1, b2⟩ | ⟨b1, _⟩
    · exact is_both v g a r a1 w a2 b2
    · exact absurd b1 a1
  · rcases h2 with ⟨b1, _⟩ | ⟨_, rfl⟩
    · exact absurd a1 b1
    · exact is_none w
end Go.Proofs.Ytejongfipfefpaa
namespace Go.Proofs.Ytejongfipfefpaa
open Go.RowKit
set_option linter.unusedVariables false
set_option linter.unusedSimpArgs false
/-- A frame's bytes as a list. -/
def bl (l : Nat) (R : Nat → Int) : List Int := (List.range l).map R
theorem bl_len (l : Nat) (R : Nat → Int) : (bl l R).length = l := by simp [bl]
theorem bl_get (l : Nat) (R : Nat → Int) (i : Nat) (h : i < l) : (bl l R)[i]? = some (R i) := by simp [bl, h]
/-- The copied list of held frames, cell by cell. -/
def flatI (PA : Nat → Int) (L : Nat → Nat) : List (Nat × Nat) → List Value
  | [] => []
  | l => (List.range l.length).flatMap fun j => [.int .u64 (PA j), .slice (some ⟨(l.getD j (0, 0)).1, 0, .none⟩) (L j) (l.getD j (0, 0)).2]
theorem flatI_eq (PA : Nat → Int) (L : Nat → Nat) (l : List (Nat × Nat)) : flatI PA L l = (List.range l.length).flatMap fun j => [.int .u64 (PA j), .slice (some ⟨(l.getD j (0, 0)).1, 0, .none⟩) (L j) (l.getD j (0, 0)).2] := by
  cases l with
  | nil => rfl
  | cons x l => rfl
theorem flatI_snoc (PA : Nat → Int) (L : Nat → Nat) (l : List (Nat × Nat)) (x : Nat × Nat) : flatI PA L (l ++ [x]) = flatI PA L l ++ [.int .u64 (PA l.length), .slice (some ⟨x.1, 0, .none⟩) (L l.length) x.2] := by
  rw [flatI_eq, flatI_eq, List.length_append, List.length_singleton, List.range_succ, List.flatMap_append]
  congr 1
  · rw [List.flatMap_def, List.flatMap_def]
    congr 1
    apply List.map_congr_left
    intro j hj
    have := List.mem_range.1 hj
    simp [List.getD_eq_getElem?_getD, List.getElem?_append_left this]
  · simp [List.getD_eq_getElem?_getD]
/-- The law's own copy of the image, while its held frames are copied. -/
structure In (W V : World) (n : Int) (nf cf nh ch : Nat) (qf qh : Option Addr) (F PA : Nat → Int) (L : Nat → Nat) (D : Nat → Nat → Int) (fq : Option Addr) (fc : Nat) (hq : Option Addr) (hc : Nat) (gs : List (Nat × Nat)) : Prop where
  p : C3 V W.heap.size (.int .i64 n) (.slice qf nf cf) (.slice qh nh ch)
  c : C3 V (W.heap.size + 1) (.int .i64 n) (.slice fq nf fc) (.slice hq gs.length hc)
  fr : V.ownsRow (W.heap.size + 1 + 1) 26 1 (.slice fq nf fc) nf ((List.range nf).map fun i => .int .u64 (F i))
  hr : V.ownsRow (W.heap.size + 1 + 1) 29 2 (.slice hq gs.length hc) gs.length (flatI PA L gs)
  le : ∀ j x, gs[j]? = some x → Lent V (W.heap.size + 1 + 1) x.1 x.2 (bl (L j) (D j))
  nd : (gs.map (·.1)).Nodup
  be : Below W.heap.size W V
  xs : W.heap.size + 1 + 1 ≤ V.heap.size
theorem Lent.lt {V : World} {X g c : Nat} {xs : List Int} (h : Lent V X g c xs) : X ≤ g ∧ g < V.heap.size := by
  unfold Lent at h
  exact h.lt g rfl
theorem Lent.blk {V : World} {X g c : Nat} {xs : List Int} (h : Lent V X g c xs) : ∃ cur, V.heap[g]? = some (.cells cur 5 (0, 0)) := by
  rcases h.2 with ⟨h0, _⟩ | ⟨g', cap, cur, hv, hX, hh, _⟩
  · cases h0
  · injection hv with e1
    simp only [Option.some.injEq, Addr.mk.injEq, and_true] at e1
    subst e1
    exact ⟨cur, hh⟩
theorem own_blk {V : World} {X e s n c g : Nat} {q : Option Addr} {xs : List Value} (h : V.ownsRow X e s (.slice q n c) n xs) (hg : Value.ownBlock (.slice q n c) = some g) : ∃ cur, V.heap[g]? = some (.cells cur e (0, 0)) := by
  rcases h.2 with ⟨h0, _⟩ | ⟨g', cap, cur, hv, hX, hh, _⟩
  · injection h0 with h0
    subst h0
    simp [Value.ownBlock] at hg
  · injection hv with e1
    subst e1
    simp only [Value.ownBlock, Option.some.injEq] at hg
    subst hg
    exact ⟨cur, hh⟩
section
variable {W V : World} {n : Int} {nf cf nh ch : Nat} {qf qh : Option Addr} {F PA : Nat → Int} {L : Nat → Nat} {D : Nat → Nat → Int} {fq : Option Addr} {fc : Nat} {hq : Option Addr} {hc : Nat} {gs : List (Nat × Nat)}
theorem lent_below {V' : World} {X g c : Nat} {xs : List Int} (h : Lent V X g c xs) (b : Below V.heap.size V V') : Lent V' X g c xs := owns_below h b
theorem In.below {V' : World} (h : In W V n nf cf nh ch qf qh F PA L D fq fc hq hc gs) (b : Below V.heap.size V V') : In W V' n nf cf nh ch qf qh F PA L D fq fc hq hc gs :=
  ⟨h.p.below b, h.c.below b, owns_below h.fr b, owns_below h.hr b, fun j x hj => lent_below (h.le j x hj) b, h.nd, h.be.trans (b.mono h.be.size), Nat.le_trans h.xs b.size⟩
/-- One more held frame is copied: V has the lent bytes already. -/
theorem In.step (h : In W V n nf cf nh ch qf qh F PA L D fq fc hq hc gs) {g cg : Nat} (hg1 : Lent V (W.heap.size + 1 + 1) g cg (bl (L gs.length) (D gs.length))) (hnew : g ∉ gs.map (·.1)) {o : Obj} {w5 : World} {gr cap : Nat}
    (hown : w5.ownsRow (W.heap.size + 1 + 1) 29 2 (.slice (some ⟨gr, 0, .none⟩) (gs.length + 1) cap) (gs.length + 1) (flatI PA L gs ++ [.int .u64 (PA gs.length), .slice (some ⟨g, 0, .none⟩) (L gs.length) cg])) (hg : (V.alloc o).grownBy w5 (Value.ownBlock (.slice hq gs.length hc))) :
    w5.cell? ⟨W.heap.size + 1, 2, .none⟩ = some (.slice hq gs.length hc) ∧ w5.frozen? ⟨W.heap.size + 1, 2, .none⟩ = false ∧ In W (w5.setCell ⟨W.heap.size + 1, 2, .none⟩ (.slice (some ⟨gr, 0, .none⟩) (gs.length + 1) cap)) n nf cf nh ch qf qh F PA L D fq fc (some ⟨gr, 0, .none⟩) cap (gs ++ [(g, cg)]) := by
  have xs := h.xs
  obtain ⟨a0, a1, a2, z0, z1, z2⟩ := h.c
  obtain ⟨b0, b1, b2, y0, y1, y2⟩ := h.p
  have blk : ∀ x, x < V.heap.size → Value.ownBlock (.slice hq gs.length hc) ≠ some x → w5.heap[x]? = V.heap[x]? := fun x hx hne => (hg.block x (by simp only [World.size_alloc]; omega) (fun e => hne e.symm)).trans (Below.heap_alloc _ _ _ hx)
  have lo : ∀ x, x < W.heap.size + 1 + 1 → w5.heap[x]? = V.heap[x]? := fun x h1 => blk x (by omega) (fun e => by have := (h.hr.lt _ e).1; omega)
  have cl : ∀ x o, x < W.heap.size + 1 + 1 → w5.cell? ⟨x, o, .none⟩ = V.cell? ⟨x, o, .none⟩ := fun x o hx => World.cell?_of_block (lo x hx)
  have fl : ∀ x o, x < W.heap.size + 1 + 1 → w5.frozen? ⟨x, o, .none⟩ = V.frozen? ⟨x, o, .none⟩ := fun x o hx => World.frozen?_of_block (lo x hx)
  have so : ∀ x o, (x ≠ W.heap.size + 1 ∨ o ≠ 2) → (w5.setCell ⟨W.heap.size + 1, 2, .none⟩ (.slice (some ⟨gr, 0, .none⟩) (gs.length + 1) cap)).cell? ⟨x, o, .none⟩ = w5.cell? ⟨x, o, .none⟩ := fun x o hx => World.cell?_setCell_other _ _ _ _ (by simp only [ne_eq, Addr.mk.injEq, and_true, not_and]; intro e1 e2; rcases hx with hx | hx <;> omega)
  have hlen : (gs ++ [(g, cg)]).length = gs.length + 1 := by simp
  have k2 := (cl (W.heap.size + 1) 2 (by omega)).trans a2
  have keepL : ∀ {g c : Nat} {ys : List Int}, Lent V (W.heap.size + 1 + 1) g c ys → Lent (w5.setCell ⟨W.heap.size + 1, 2, .none⟩ (.slice (some ⟨gr, 0, .none⟩) (gs.length + 1) cap)) (W.heap.size + 1 + 1) g c ys := fun {g c ys} hl => by
    refine ownsRow_setCell_below (a := ⟨W.heap.size + 1, 2, .none⟩) ?_ (by show W.heap.size + 1 < W.heap.size + 1 + 1; omega) _
    refine (World.ownsRow.alloc hl o).kept hg (.inr fun e => ?_)
    obtain ⟨c1, e1⟩ := hl.blk
    obtain ⟨c2, e2⟩ := own_blk h.hr e.symm
    rw [e1] at e2
    cases e2
  refine ⟨k2, (fl _ _ (by omega)).trans z2, ?_⟩
  refine ⟨?_, ?_, ?_, ?_, ?_, ?_, ?_, ?_⟩
  · exact ⟨(so _ _ (.inl (by omega))).trans ((cl _ _ (by omega)).trans b0), (so _ _ (.inl (by omega))).trans ((cl _ _ (by omega)).trans b1), (so _ _ (.inl (by omega))).trans ((cl _ _ (by omega)).trans b2), (World.frozen?_setCell ..).trans ((fl _ _ (by omega)).trans y0), (World.frozen?_setCell ..).trans ((fl _ _ (by omega)).trans y1), (World.frozen?_setCell ..).trans ((fl _ _ (by omega)).trans y2)⟩
  · rw [hlen]
    exact ⟨(so _ _ (.inr (by decide))).trans ((cl _ _ (by omega)).trans a0), (so _ _ (.inr (by decide))).trans ((cl _ _ (by omega)).trans a1), World.cell?_setCell_same' _ _ _ (by rw [k2]; rfl), (World.frozen?_setCell ..).trans ((fl _ _ (by omega)).trans z0), (World.frozen?_setCell ..).trans ((fl _ _ (by omega)).trans z1), (World.frozen?_setCell ..).trans ((fl _ _ (by omega)).trans z2)⟩
  · refine ownsRow_setCell_below ?_ (a := ⟨W.heap.size + 1, 2, .none⟩) (by show W.heap.size + 1 < W.heap.size + 1 + 1; omega) _
    refine (h.fr.alloc o).kept hg ?_
    cases e : Value.ownBlock (.slice fq nf fc) with
    | none => exact .inl rfl
    | some k =>
      refine .inr fun e' => ?_
      obtain ⟨c1, e1⟩ := own_blk h.fr e
      obtain ⟨c2, e2⟩ := own_blk h.hr e'.symm
      rw [e1] at e2
      cases e2
  · rw [hlen, flatI_snoc]
    exact ownsRow_setCell_below hown (a := ⟨W.heap.size + 1, 2, .none⟩) (by show W.heap.size + 1 < W.heap.size + 1 + 1; omega) _
  · intro j x hj
    by_cases hjl : j < gs.length
    · rw [List.getElem?_append_left hjl] at hj
      exact keepL (h.le j x hj)
    · rw [List.getElem?_append_right (by omega)] at hj
      have : j - gs.length = 0 := by
        have := (List.getElem?_eq_some_iff.1 hj).1
        simp at this
        omega
      rw [this] at hj
      simp only [List.getElem?_cons_zero, Option.some.injEq] at hj
      subst hj
      obtain rfl : j = gs.length := by omega
      exact keepL hg1
  · rw [List.map_append, List.nodup_append]
    refine ⟨h.nd, by simp, fun a ha b hb e => ?_⟩
    simp only [List.map_cons, List.map_nil, List.mem_singleton] at hb
    subst hb
    subst e
    exact hnew ha
  · refine ((h.be.alloc h.be.size o).grown hg (by simp only [World.size_alloc]; have := h.be.size; omega) (fun r e => by have := (h.hr.lt _ e).1; omega)).setCell (p := ⟨W.heap.size + 1, 2, .none⟩) (by show W.heap.size ≤ W.heap.size + 1; omega) _
  · have := hg.size
    simp only [World.size_alloc] at this
    rw [World.size_setCell]
    omega
end
end Go.Proofs.Ytejongfipfefpaa
namespace Go.Proofs.Ytejongfipfefpaa
open Go.RowKit
set_option linter.unusedVariables false
set_option linter.unusedSimpArgs false
theorem C3.other {V : World} {a : Nat} {x y z : Value} (h : C3 V a x y z) {b : Addr} (hb : b.block ≠ a) (u : Value) : C3 (V.setCell b u) a x y z := by
  obtain ⟨a0, a1, a2, z0, z1, z2⟩ := h
  have so : ∀ o, (V.setCell b u).cell? ⟨a, o, .none⟩ = V.cell? ⟨a, o, .none⟩ := fun o => World.cell?_setCell_other _ _ _ _ (fun e => hb (by rw [e]))
  exact ⟨(so 0).trans a0, (so 1).trans a1, (so 2).trans a2, (World.frozen?_setCell ..).trans z0, (World.frozen?_setCell ..).trans z1, (World.frozen?_setCell ..).trans z2⟩
theorem bl_congr {l : Nat} {R R' : Nat → Int} (h : ∀ t, t < l → R t = R' t) : bl l R = bl l R' := by
  unfold bl
  apply List.map_congr_left
  intro t ht
  exact h t (List.mem_range.1 ht)
theorem bl_set {l : Nat} (R : Nat → Int) (v : Int) (h : 0 < l) : (by8 (bl l R ++ marks)).set 0 (.int .u8 v) = by8 (bl l (fun t => if t = 0 then v else R t) ++ marks) := by
  apply List.ext_getElem?
  intro i
  rw [List.getElem?_set]
  have hb : (bl l R).length = l := bl_len l R
  have hb' : (bl l (fun t => if t = 0 then v else R t)).length = l := bl_len l _
  by_cases h0 : 0 = i
  · subst h0
    rw [if_pos rfl, if_pos (by simp [by8, hb]; omega)]
    simp only [by8, List.getElem?_map]
    rw [List.getElem?_append_left (by omega), bl_get _ _ _ h]
    rfl
  · rw [if_neg h0]
    simp only [by8, List.getElem?_map]
    by_cases hl : i < l
    · rw [List.getElem?_append_left (by omega), List.getElem?_append_left (by omega), bl_get _ _ _ hl, bl_get _ _ _ hl, if_neg (by omega)]
    · rw [List.getElem?_append_right (by omega), List.getElem?_append_right (by omega), hb, hb']
section
variable {W V : World} {n : Int} {nf cf nh ch : Nat} {qf qh : Option Addr} {F PA : Nat → Int} {L : Nat → Nat} {D : Nat → Nat → Int} {fq : Option Addr} {fc : Nat} {hq : Option Addr} {hc : Nat} {gs : List (Nat × Nat)} {fg : Nat}
/-- The first byte of a lent frame is written over. -/
theorem In.bump (h : In W V n nf cf nh ch qf qh F PA L D fq fc hq hc gs) {j g cg : Nat} (hj : gs[j]? = some (g, cg)) (hl : 0 < L j) (v : Int) :
    In W (V.setCell ⟨g, 0, .none⟩ (.int .u8 v)) n nf cf nh ch qf qh F PA L (fun i t => if i = j then (if t = 0 then v else D i t) else D i t) fq fc hq hc gs := by
  have hlent := h.le j _ hj
  obtain ⟨g1, g2⟩ := hlent.lt
  obtain ⟨cur, hcur⟩ := hlent.blk
  simp only at g1 g2 hcur
  refine ⟨h.p.other (by show g ≠ W.heap.size; omega) _, h.c.other (by show g ≠ W.heap.size + 1; omega) _, ?_, ?_, fun i x hi => ?_, h.nd, h.be.setCell (p := ⟨g, 0, .none⟩) (by show W.heap.size ≤ g; omega) _, by rw [World.size_setCell]; exact h.xs⟩
  · refine ownsRow_setCell_other h.fr (a := ⟨g, 0, .none⟩) (fun e => ?_) _
    obtain ⟨c1, e1⟩ := own_blk h.fr e
    rw [hcur] at e1
    cases e1
  · refine ownsRow_setCell_other h.hr (a := ⟨g, 0, .none⟩) (fun e => ?_) _
    obtain ⟨c1, e1⟩ := own_blk h.hr e
    rw [hcur] at e1
    cases e1
  · by_cases e : i = j
    · subst e
      rw [hj] at hi
      obtain rfl : x = (g, cg) := by simpa using hi.symm
      have e1 : bl (L i) (fun t => if i = i then (if t = 0 then v else D i t) else D i t) = bl (L i) (fun t => if t = 0 then v else D i t) := bl_congr fun t _ => by rw [if_pos rfl]
      rw [e1]
      have s := (World.ownsRow.stored hlent 0 (.int .u8 v)).1
      rw [bl_set (D i) v hl] at s
      unfold Lent
      simp only [bl_len] at s ⊢
      exact s
    · have e1 : bl (L i) (fun t => if i = j then (if t = 0 then v else D i t) else D i t) = bl (L i) (D i) := bl_congr fun t _ => by rw [if_neg e]
      rw [e1]
      refine ownsRow_setCell_other (h.le i x hi) (a := ⟨g, 0, .none⟩) (fun e' => ?_) _
      simp only [Value.ownBlock, Option.some.injEq] at e'
      have hi' := (List.getElem?_eq_some_iff.1 hi)
      have hj' := (List.getElem?_eq_some_iff.1 hj)
      obtain ⟨li, ei⟩ := hi'
      obtain ⟨lj, ej⟩ := hj'
      have nd := List.pairwise_iff_getElem.1 h.nd
      rcases Nat.lt_or_gt_of_ne e with hlt | hlt
      · exact nd i j (by simpa using li) (by simpa using lj) hlt (by simp [ei, ej, e'])
      · exact nd j i (by simpa using lj) (by simpa using li) hlt (by simp [ei, ej, e'])
/-- An address of the copied list is written over. -/
theorem In.free (h : In W V n nf cf nh ch qf qh F PA L D (some ⟨fg, 0, .none⟩) fc hq hc gs) {i : Nat} (hi : i < nf) (v : Int) :
    In W (V.setCell ⟨fg, i, .none⟩ (.int .u64 v)) n nf cf nh ch qf qh (fun k => if k = i then v else F k) PA L D (some ⟨fg, 0, .none⟩) fc hq hc gs := by
  obtain ⟨g1, g2⟩ := h.fr.lt fg rfl
  obtain ⟨cur, hcur⟩ := own_blk h.fr (g := fg) rfl
  refine ⟨h.p.other (by show fg ≠ W.heap.size; omega) _, h.c.other (by show fg ≠ W.heap.size + 1; omega) _, ?_, ?_, fun j x hj => ?_, h.nd, h.be.setCell (p := ⟨fg, i, .none⟩) (by show W.heap.size ≤ fg; omega) _, by rw [World.size_setCell]; exact h.xs⟩
  · have s := (World.ownsRow.stored h.fr i (.int .u64 v)).1
    have e : ((List.range nf).map fun i => Value.int .u64 (F i)).set i (.int .u64 v) = (List.range nf).map fun k => Value.int .u64 (if k = i then v else F k) := by
      apply List.ext_getElem?
      intro k
      rw [List.getElem?_set]
      by_cases hk : i = k
      · subst hk
        rw [if_pos rfl, if_pos (by simpa using hi), List.getElem?_map, List.getElem?_range hi]
        simp
      · rw [if_neg hk]
        by_cases hkn : k < nf
        · rw [List.getElem?_map, List.getElem?_map, List.getElem?_range hkn]
          have : ¬ k = i := fun e => hk e.symm
          simp [this]
        · rw [List.getElem?_eq_none (by simp; omega), List.getElem?_eq_none (by simp; omega)]
    rw [e] at s
    exact s
  · refine ownsRow_setCell_other h.hr (a := ⟨fg, i, .none⟩) (fun e => ?_) _
    obtain ⟨c1, e1⟩ := own_blk h.hr e
    rw [hcur] at e1
    cases e1
  · refine ownsRow_setCell_other (h.le j x hj) (a := ⟨fg, i, .none⟩) (fun e => ?_) _
    obtain ⟨c1, e1⟩ := (h.le j x hj).blk
    simp only [Value.ownBlock, Option.some.injEq] at e
    rw [e, hcur] at e1
    cases e1
end
end Go.Proofs.Ytejongfipfefpaa
namespace Go.Proofs.Ytejongfipfefpaa
open Go.RowKit
set_option linter.unusedVariables false
set_option linter.unusedSimpArgs false
theorem flat2_get (f g : Nat → Value) : ∀ (k : Nat), ((List.range k).flatMap fun j => [f j, g j]).length = k * 2 ∧ ∀ i, i < k → ((List.range k).flatMap fun j => [f j, g j])[i * 2]? = some (f i) ∧ ((List.range k).flatMap fun j => [f j, g j])[i * 2 + 1]? = some (g i)
  | 0 => ⟨rfl, fun i hi => by omega⟩
  | k + 1 => by
    obtain ⟨h1, h2⟩ := flat2_get f g k
    have e : ((List.range (k + 1)).flatMap fun j => [f j, g j]) = ((List.range k).flatMap fun j => [f j, g j]) ++ [f k, g k] := by
      rw [List.range_succ, List.flatMap_append]
      simp
    rw [e]
    refine ⟨by rw [List.length_append, h1]; simp; omega, fun i hi => ?_⟩
    by_cases hk : i < k
    · rw [List.getElem?_append_left (by omega), List.getElem?_append_left (by omega)]
      exact h2 i hk
    · obtain rfl : i = k := by omega
      rw [List.getElem?_append_right (by omega), List.getElem?_append_right (by omega), h1, Nat.sub_self, show i * 2 + 1 - i * 2 = 1 by omega]
      exact ⟨rfl, rfl⟩
theorem flatI_get (PA : Nat → Int) (L : Nat → Nat) (gs : List (Nat × Nat)) (i : Nat) (x : Nat × Nat) (h : gs[i]? = some x) : (flatI PA L gs)[i * 2]? = some (.int .u64 (PA i)) ∧ (flatI PA L gs)[i * 2 + 1]? = some (.slice (some ⟨x.1, 0, .none⟩) (L i) x.2) := by
  rw [flatI_eq]
  have hi := (List.getElem?_eq_some_iff.1 h).1
  obtain ⟨h1, h2⟩ := (flat2_get (fun j => .int .u64 (PA j)) (fun j => .slice (some ⟨(gs.getD j (0, 0)).1, 0, .none⟩) (L j) (gs.getD j (0, 0)).2) gs.length).2 i hi
  refine ⟨h1, h2.trans ?_⟩
  rw [List.getD_eq_getElem?_getD, h]
  rfl
section
variable {W V : World} {n : Int} {nf cf nh ch : Nat} {qf qh : Option Addr} {F PA : Nat → Int} {L : Nat → Nat} {D : Nat → Nat → Int} {fq : Option Addr} {fc : Nat} {hq : Option Addr} {hc : Nat} {gs : List (Nat × Nat)}
theorem In.fs (h : In W V n nf cf nh ch qf qh F PA L D fq fc hq hc gs) : Fs V fq nf F := by
  by_cases h0 : nf = 0
  · exact .inl h0
  · have g0 : ∀ i, i < nf → ((List.range nf).map fun i => Value.int .u64 (F i))[i]? = some (.int .u64 (F i)) := fun i hi => by rw [List.getElem?_map, List.getElem?_range hi]; rfl
    obtain ⟨g, e, c⟩ := own_cell h.fr (g0 0 (by omega)) (by omega) (by omega)
    refine .inr ⟨g, 0, e, lt_of_cell c, fun i hi => ?_⟩
    obtain ⟨g', e', c'⟩ := own_cell h.fr (g0 i hi) (by omega) (by omega)
    rw [e] at e'
    simp only [Option.some.injEq, Addr.mk.injEq, and_true] at e'
    rw [Nat.zero_add, e']
    exact c'
theorem In.hs (h : In W V n nf cf nh ch qf qh F PA L D fq fc hq hc gs) : Hs V hq gs.length PA (fun j => some ⟨(gs.getD j (0, 0)).1, 0, .none⟩) L (fun j => (gs.getD j (0, 0)).2) := by
  by_cases h0 : gs.length = 0
  · exact .inl h0
  · have g0 : ∀ i, i < gs.length → gs[i]? = some (gs.getD i (0, 0)) := fun i hi => by rw [List.getD_eq_getElem?_getD, List.getElem?_eq_getElem hi]; rfl
    obtain ⟨g, e, c⟩ := own_cell h.hr (flatI_get PA L gs 0 _ (g0 0 (by omega))).1 (by omega) (by omega)
    refine .inr ⟨g, 0, e, lt_of_cell c, fun i hi => ?_⟩
    obtain ⟨f1, f2⟩ := flatI_get PA L gs i _ (g0 i hi)
    obtain ⟨g', e', c'⟩ := own_cell h.hr f1 (by omega) (by omega)
    obtain ⟨g'', e'', c''⟩ := own_cell h.hr f2 (by omega) (by omega)
    rw [e] at e' e''
    simp only [Option.some.injEq, Addr.mk.injEq, and_true] at e' e''
    subst e'
    subst e''
    rw [Nat.zero_add]
    exact ⟨c', c''⟩
theorem lent_cell {X g c : Nat} {l : Nat} {R : Nat → Int} (h : Lent V X g c (bl l R)) (t : Nat) (ht : t < l) : V.cell? ⟨g, t, .none⟩ = some (.int .u8 (R t)) := by
  have hl : (bl l R).length = l := bl_len l R
  have e : (by8 (bl l R ++ marks))[t]? = some (.int .u8 (R t)) := by
    simp only [by8, List.getElem?_map]
    rw [List.getElem?_append_left (by omega), bl_get _ _ _ ht]
    rfl
  obtain ⟨g', e', c'⟩ := own_cell h e (by omega) (by omega)
  simp only [Option.some.injEq, Addr.mk.injEq, and_true] at e'
  rw [e']
  exact c'
theorem In.ds (h : In W V n nf cf nh ch qf qh F PA L D fq fc hq hc gs) : Ds V gs.length (fun j => some ⟨(gs.getD j (0, 0)).1, 0, .none⟩) L D := by
  intro i hi
  have g0 : gs[i]? = some (gs.getD i (0, 0)) := by rw [List.getD_eq_getElem?_getD, List.getElem?_eq_getElem hi]; rfl
  have hl := h.le i _ g0
  refine .inr ⟨_, 0, rfl, hl.lt.2, fun j hj => ?_⟩
  rw [Nat.zero_add]
  exact lent_cell hl j hj
/-- What the copy shows. -/
theorem In.see (h : In W V n nf cf nh ch qf qh F PA L D fq fc hq hc gs) : See V .u64 fq nf F ∧ SeeH V hq gs.length PA L D := by
  refine ⟨h.fs, ?_⟩
  rcases h.hs with h0 | ⟨g, o, e, l, hc⟩
  · exact .inl h0
  · refine .inr ⟨g, o, e, l, fun i hi => ⟨(hc i hi).1, _, _, (hc i hi).2, ?_⟩⟩
    rcases h.ds i hi with h0 | ⟨b, o', e', l', hd⟩
    · exact .inl h0
    · exact .inr ⟨b, o', e', l', hd⟩
end
end Go.Proofs.Ytejongfipfefpaa
