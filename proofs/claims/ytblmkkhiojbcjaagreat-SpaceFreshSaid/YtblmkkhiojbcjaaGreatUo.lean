import Derived.Test.YtblmkkhiojbcjaaGreatUl
import Derived.Deep.DeepCutAuto
namespace Go.Proofs.YtblmkkhiojbcjaaGreat
open Go Go.RowKit Fz
attribute [local go_sem] Oper.semAt_some
set_option linter.unusedVariables false
set_option linter.unusedSimpArgs false
attribute [local irreducible] eM evs
section
variable {N : Nat} {L : List Nat} {B : Nat → Int}
/-- A table that New gives. -/
theorem PT.init {i : Nat} (hi : 1 ≤ i ∧ i < N) (hL : i ∉ L) : PT N L (zer B i) (fun x => if x = 0 then some i else none) (fun _ _ => 0) := by
  refine ⟨⟨i, by simp⟩, fun x f hf => ?_, fun x y f hx hy => ?_, fun x e hx he hne => ?_, fun x hx => ?_, fun x g hx hg e he => ?_, fun y g hy hg k hk => ?_, fun _ _ => .inl rfl, fun _ _ _ => rfl⟩
  · by_cases e : x = 0
    · simp only [e, if_true, Option.some.injEq] at hf
      subst hf
      exact ⟨hi.1, hi.2, hL⟩
    · simp [e] at hf
  · by_cases e : x = 0 <;> by_cases e2 : y = 0 <;> simp_all
  · have := ch_pos x e
    simp [show ch x e ≠ 0 by omega] at hne
  · by_cases e : x = 0
    · omega
    · simp [e] at hx
  · by_cases e2 : x = 0
    · simp only [e2, if_true, Option.some.injEq] at hg
      subst hg
      have := ch_pos x e
      rw [evn_zer_same _ _ _ he]
      simp [show ch x e ≠ 0 by omega, ptr]
    · simp [e2] at hg
  · simp [show y ≠ 0 by omega] at hg
end
structure C3 (W : World) (P : Nat) (x0 x1 x2 : Value) : Prop where
  c0 : W.cell? ⟨P, 0, .none⟩ = some x0
  c1 : W.cell? ⟨P, 1, .none⟩ = some x1
  c2 : W.cell? ⟨P, 2, .none⟩ = some x2
  f0 : W.frozen? ⟨P, 0, .none⟩ = false
  f1 : W.frozen? ⟨P, 1, .none⟩ = false
  f2 : W.frozen? ⟨P, 2, .none⟩ = false
theorem C3.new (w : World) (x0 x1 x2 : Value) (t : TypeId) : C3 (w.alloc (.cells #[x0, x1, x2] t)) w.heap.size x0 x1 x2 :=
  ⟨by simp, by simp, by simp, World.frozen?_alloc_new _ _ _ _, World.frozen?_alloc_new _ _ _ _, World.frozen?_alloc_new _ _ _ _⟩
theorem C3.below {W W' : World} {P : Nat} {x0 x1 x2 : Value} (h : C3 W P x0 x1 x2) (b : Below W.heap.size W W') : C3 W' P x0 x1 x2 := by
  have hp : P < W.heap.size := lt_of_cell h.c0
  have e := b.block P hp
  have ec : ∀ o, W'.cell? ⟨P, o, .none⟩ = W.cell? ⟨P, o, .none⟩ := fun o => by simp only [World.cell?, e]
  have ef : ∀ o, W'.frozen? ⟨P, o, .none⟩ = W.frozen? ⟨P, o, .none⟩ := fun o => by simp only [World.frozen?, e]
  exact ⟨(ec 0).trans h.c0, (ec 1).trans h.c1, (ec 2).trans h.c2, (ef 0).trans h.f0, (ef 1).trans h.f1, (ef 2).trans h.f2⟩
theorem C3.drew {W : World} {P : Nat} {x0 x1 x2 : Value} (h : C3 W P x0 x1 x2) : C3 W.drew P x0 x1 x2 := h.below (Below.refl _ _).drew
theorem C3.set {W : World} {P : Nat} {x0 x1 x2 : Value} (h : C3 W P x0 x1 x2) (y0 y1 y2 : Value) : C3 (((W.setCell ⟨P, 0, .none⟩ y0).setCell ⟨P, 1, .none⟩ y1).setCell ⟨P, 2, .none⟩ y2) P y0 y1 y2 :=
  ⟨(World.cell?_setCell_other _ _ _ _ (by simp)).trans ((World.cell?_setCell_other _ _ _ _ (by simp)).trans (World.cell?_setCell_same' _ _ _ (by rw [h.c0]; rfl))), (World.cell?_setCell_other _ _ _ _ (by simp)).trans (World.cell?_setCell_same' _ _ _ (by rw [World.cell?_setCell_other _ _ _ _ (by simp), h.c1]; rfl)), World.cell?_setCell_same' _ _ _ (by rw [World.cell?_setCell_other _ _ _ _ (by simp), World.cell?_setCell_other _ _ _ _ (by simp), h.c2]; rfl),
    by rw [World.frozen?_setCell, World.frozen?_setCell, World.frozen?_setCell]; exact h.f0, by rw [World.frozen?_setCell, World.frozen?_setCell, World.frozen?_setCell]; exact h.f1, by rw [World.frozen?_setCell, World.frozen?_setCell, World.frozen?_setCell]; exact h.f2⟩
theorem belowC {B : Nat} {w W : World} (h : Below B w W) {P : Nat} (hP : B ≤ P) (y0 y1 y2 : Value) : Below B w (((W.setCell ⟨P, 0, .none⟩ y0).setCell ⟨P, 1, .none⟩ y1).setCell ⟨P, 2, .none⟩ y2) :=
  ((h.setCell (p := ⟨P, 0, .none⟩) hP _).setCell (p := ⟨P, 1, .none⟩) hP _).setCell (p := ⟨P, 2, .none⟩) hP _
/-- What the law holds: its memory, and a table in it. -/
def FL (w : World) (p b m : Nat) (W : World) : Prop := Below w.heap.size w W ∧ ∃ B L F lf, Ram W p b m 64 B L ∧ PT 64 L B F lf ∧ F 0 = some 63
theorem FL.below {w W W' : World} {p b m : Nat} (h : FL w p b m W) (k : Below W.heap.size W W') : FL w p b m W' := by
  obtain ⟨h0, B, L, F, lf, h1, h2, h3⟩ := h
  exact ⟨h0.trans (k.mono h0.size), B, L, F, lf, h1.below k, h2, h3⟩
theorem See.fl {w W : World} {p b m n : Nat} {q : Option Addr} {R : Nat → Int} (h : See w .u64 q n R) (k : FL w p b m W) : See W .u64 q n R := h.below k.1
theorem ad63 : ad 63 = 2147741696 := by unfold ad; rfl
theorem row_base {W : World} {X e k n : Nat} {v : Value} {xs : List Value} (h : W.ownsRow X e k v n xs) : W.ownsRow 0 e k v n xs := by
  refine ⟨h.1, ?_⟩
  rcases h.2 with h1 | ⟨g, cap, cur, h1, h2, h3⟩
  · exact .inl h1
  · exact .inr ⟨g, cap, cur, h1, Nat.zero_le _, h3⟩
theorem row_see {W : World} {X n g c : Nat} {l : List Int} (h : W.ownsRow X 23 1 (.slice (some ⟨g, 0, .none⟩) n c) n (wv l)) (hn : l.length = n) : See W .u64 (some ⟨g, 0, .none⟩) n (fun i => l.getD i 0) := by
  refine .inr ⟨g, 0, rfl, (h.lt g rfl).2, fun i hi => ?_⟩
  have e := h.cellAt i (by omega)
  have : (wv l)[i]? = some (.int .u64 (l.getD i 0)) := by
    unfold wv
    rw [List.getElem?_map, List.getD_eq_getElem?_getD, List.getElem?_eq_getElem (by omega)]
    rfl
  rw [this] at e
  simpa using e
theorem row_range (l : List Int) (n : Nat) (hn : l.length = n) : (List.range n).map (fun i => Value.int .u64 (l.getD i 0)) = wv l := by
  subst hn
  refine List.ext_getElem (by simp [wv]) fun i h1 h2 => ?_
  simp only [List.length_map, List.length_range] at h1
  simp [wv, List.getD_eq_getElem?_getD, List.getElem?_eq_getElem h1]
end Go.Proofs.YtblmkkhiojbcjaaGreat
namespace Go.Proofs.YtblmkkhiojbcjaaGreat
open Go Go.RowKit
set_option linter.unusedVariables false
set_option linter.unusedSimpArgs false
def setN (F : Nat → Option Nat) (x : Nat) : Nat → Option Nat := fun y => if y = x then none else F y
def clrE (lf : Nat → Nat → Int) (c : Nat) : Nat → Nat → Int := fun a b => if a = c then 0 else lf a b
theorem clrE_self {lf : Nat → Nat → Int} {c : Nat} (h : ∀ k, lf c k = 0) : clrE lf c = lf := by
  funext a b
  unfold clrE
  split
  · next e => rw [e, h]
  · rfl
section
variable {N : Nat} {L : List Nat} {B : Nat → Int} {F : Nat → Option Nat} {lf : Nat → Nat → Int}
/-- A node that is empty is given back. -/
theorem PT.drop {f x g e : Nat} {B1 : Nat → Int} (h : PT N L B F lf) (hx : x ≤ 512) (hg : F x = some g) (he : e < 512) (hf : F (ch x e) = some f) (hc : ch x e ≤ 512 → ∀ d, d < 512 → F (ch (ch x e) d) = none)
    (hB : ∀ q, q ≠ f → ∀ k, k < 4096 → B1 (q * 4096 + k) = B (q * 4096 + k)) : PT N (f :: L) (over B1 (g * 4096 + e * 8) (le 0 8)) (setN F (ch x e)) (clrE lf (ch x e)) := by
  have sF : ∀ z, z ≠ ch x e → setN F (ch x e) z = F z := fun z hz => by unfold setN; rw [if_neg hz]
  have sT : setN F (ch x e) (ch x e) = none := by unfold setN; rw [if_pos rfl]
  have nc : ∀ z q, setN F (ch x e) z = some q → z ≠ ch x e ∧ F z = some q := fun z q hz => by
    by_cases e2 : z = ch x e
    · rw [e2, sT] at hz; cases hz
    · exact ⟨e2, by rw [sF z e2] at hz; exact hz⟩
  have hqf : ∀ z q, z ≠ ch x e → F z = some q → q ≠ f := fun z q hz hq e2 => hz (h.inj z (ch x e) q hq (by rw [e2]; exact hf))
  have ev1 : ∀ q d, d < 512 → q ≠ f → evn B1 q d = evn B q d := fun q d hd hq => num_ext _ _ _ _ fun k hk => by rw [Nat.add_assoc]; exact hB q hq _ (by omega)
  refine ⟨?_, fun z q hz => ?_, fun z y q hz hy => ?_, fun z d hz hd hne => ?_, fun z hz => ?_, fun z q hz hq d hd => ?_, fun z q hz hq d hd => ?_, fun y k => ?_, fun y hy k => ?_⟩
  · obtain ⟨r, hr⟩ := h.root
    exact ⟨r, by rw [sF 0 (by have := ch_pos x e; omega)]; exact hr⟩
  · obtain ⟨h1, h2⟩ := nc z q hz
    have h3 := h.held z q h2
    refine ⟨h3.1, h3.2.1, fun hm => ?_⟩
    rcases List.mem_cons.1 hm with h4 | h4
    · exact hqf z q h1 h2 h4
    · exact h3.2.2 h4
  · exact h.inj z y q (nc z q hz).2 (nc y q hy).2
  · by_cases e2 : ch z d = ch x e
    · rw [e2, sT] at hne
      exact absurd rfl hne
    · rw [sF _ e2] at hne
      have e3 : z ≠ ch x e := fun e3 => by
        subst e3
        exact hne (hc hz d hd)
      rw [sF z e3]
      exact h.up z d hz hd hne
  · by_cases e2 : z = ch x e
    · rw [e2, sT] at hz
      exact absurd rfl hz
    · rw [sF z e2] at hz
      exact h.dom z hz
  · obtain ⟨h1, h2⟩ := nc z q hq
    have h3 := hqf z q h1 h2
    by_cases e3 : q = g ∧ d = e
    · obtain ⟨rfl, rfl⟩ := e3
      obtain rfl : z = x := h.inj z x q h2 hg
      rw [sT, evn_over_same _ _ _ _ (by omega)]
      rfl
    · rw [evn_over_other _ _ _ _ _ _ he hd (by
          by_cases e4 : q = g
          · exact .inr (fun e5 => e3 ⟨e4, e5⟩)
          · exact .inl e4), ev1 q d hd h3, h.ep z q hz h2 d hd, sF]
      intro e4
      obtain ⟨rfl, rfl⟩ := ch_inj hz hx hd he e4
      rw [hg] at h2
      injection h2 with h2
      exact e3 ⟨h2.symm, rfl⟩
  · obtain ⟨h1, h2⟩ := nc z q hq
    have h3 := hqf z q h1 h2
    rw [evn_over_other _ _ _ _ _ _ he hd (.inl (fun e3 => by subst e3; have := h.inj z x q h2 hg; omega)), ev1 q d hd h3, h.el z q hz h2 d hd]
    unfold clrE
    rw [if_neg h1]
  · unfold clrE
    split
    · exact .inl rfl
    · exact h.lv y k
  · unfold clrE
    split
    · rfl
    · next e2 =>
      rw [sF y e2] at hy
      exact h.ln y hy k
end
end Go.Proofs.YtblmkkhiojbcjaaGreat
namespace Go.Proofs.YtblmkkhiojbcjaaGreat
open Go Go.RowKit
attribute [local go_sem] Oper.semAt_some
set_option linter.unusedVariables false
set_option linter.unusedSimpArgs false
theorem nodeL_any {w : World} (a0 a1 a2 l e k lv a : Int) (h : (lv = 0 ∧ a = a0) ∨ (lv = 1 ∧ a = a1) ∨ (lv = 2 ∧ a = a2)) (ha : 0 ≤ a ∧ a < 18446744073709551616) : Calls Tryz.prog 142 #[.agg #[.int .u64 a0, .int .u64 a1, .int .u64 a2, .int .i64 l, .int .u64 e, .int .i64 k], .int .i64 lv] w fun e w' => e = .returned (.int .u64 (a - a % 4096)) ∧ Below w.heap.size w w' := by
  rcases h with ⟨rfl, rfl⟩ | ⟨rfl, rfl⟩ | ⟨rfl, rfl⟩
  all_goals
    go_enter Tryz.func142, Tryz.ntmps142
    go_wp2
    go_quiet (fail)
    go_wp2
    go_ret
    exact ⟨rfl, (below1 _ _).trans (blw_drewN _ _ _)⟩
theorem ft_all (B : Nat → Int) (g : Nat) : ∀ k j : Nat, (∀ i, j ≤ i → i < j + k → hs (B (g * 4096 + i * 8)) 1 = false) → ft B g k j = 512
  | 0, j, h => rfl
  | k + 1, j, h => by
    simp only [ft]
    rw [h j (Nat.le_refl _) (by omega)]
    simp only [Bool.false_eq_true, if_false]
    exact ft_all B g k (j + 1) (fun i h1 h2 => h i (by omega) (by omega))
section
variable {N : Nat} {L : List Nat} {B : Nat → Int} {F : Nat → Option Nat} {lf : Nat → Nat → Int}
theorem byte_even (hB : ∀ i, 0 ≤ B i ∧ B i < 256) (g i : Nat) (h : evn B g i = 0) : hs (B (g * 4096 + i * 8)) 1 = false := by
  have h1 := num_odd B (g * 4096 + i * 8)
  unfold evn at h
  rw [h] at h1
  have := hB (g * 4096 + i * 8)
  rw [hs_odd _ (by omega)]
  exact decide_eq_false (by omega)
theorem PT.ftL (h : PT N L B F lf) (hB : ∀ i, 0 ≤ B i ∧ B i < 256) {y q : Nat} (hy : 513 ≤ y) (hq : F y = some q) : ft B q 512 0 = 512 ↔ ∀ k, k < 512 → lf y k = 0 := by
  constructor
  · intro e k hk
    exact h.noL hB hy hq hk (ft_none B q 512 0 k (by omega) (by omega) (by omega))
  · intro e
    refine ft_all B q 512 0 fun i _ hi => byte_even hB q i ?_
    rw [h.el y q hy hq i (by omega), e i (by omega)]
theorem PT.ftP (h : PT N L B F lf) (hN : N ≤ 4096) (hB : ∀ i, 0 ≤ B i ∧ B i < 256) {x g : Nat} (hx : x ≤ 512) (hg : F x = some g) : ft B g 512 0 = 512 ↔ ∀ d, d < 512 → F (ch x d) = none := by
  constructor
  · intro e k hk
    exact h.noP hN hB hx hg hk (ft_none B g 512 0 k (by omega) (by omega) (by omega))
  · intro e
    refine ft_all B g 512 0 fun i _ hi => byte_even hB g i ?_
    rw [h.ep x g hx hg i (by omega), e i (by omega)]
    rfl
end
/-- What prune comes to: the nodes that are empty go. -/
def PrR (L : List Nat) (F : Nat → Option Nat) (lf : Nat → Nat → Int) (va : Int) (q g : Nat) (L' : List Nat) (F' : Nat → Option Nat) (lf' : Nat → Nat → Int) : Prop :=
  (L' = L ∧ F' = F ∧ lf' = lf ∧ ¬ ∀ k, k < 512 → lf (y0 va) k = 0) ∨
  (L' = q :: L ∧ F' = setN F (y0 va) ∧ lf' = clrE lf (y0 va) ∧ (∀ k, k < 512 → lf (y0 va) k = 0) ∧ ¬ ∀ d, d < 512 → setN F (y0 va) (ch (y1 va) d) = none) ∨
  (L' = g :: q :: L ∧ F' = setN (setN F (y0 va)) (y1 va) ∧ lf' = clrE (clrE lf (y0 va)) (y1 va) ∧ (∀ k, k < 512 → lf (y0 va) k = 0) ∧ ∀ d, d < 512 → setN F (y0 va) (ch (y1 va) d) = none)
/-- Where the loop of prune stands. -/
def PrS (N : Nat) (L : List Nat) (F : Nat → Option Nat) (lf : Nat → Nat → Int) (va : Int) (q g : Nat) (J : Nat) (L' : List Nat) (B' : Nat → Int) (F' : Nat → Option Nat) (lf' : Nat → Nat → Int) : Prop :=
  PT N L' B' F' lf' ∧ (J = 0 ∧ L' = L ∧ F' = F ∧ lf' = lf ∨
  J = 1 ∧ L' = q :: L ∧ F' = setN F (y0 va) ∧ lf' = clrE lf (y0 va) ∧ (∀ k, k < 512 → lf (y0 va) k = 0) ∨
  J = 2 ∧ L' = g :: q :: L ∧ F' = setN (setN F (y0 va)) (y1 va) ∧ lf' = clrE (clrE lf (y0 va)) (y1 va) ∧ (∀ k, k < 512 → lf (y0 va) k = 0) ∧ ∀ d, d < 512 → setN F (y0 va) (ch (y1 va) d) = none)
section
variable {w : World} {p b m N : Nat} {B : Nat → Int} {L : List Nat} {F : Nat → Option Nat} {lf : Nat → Nat → Int}
theorem store_r (h : Ram w p b m N B L) (f : Nat) (va : Int) (l : Int) (hf : ndB N L (ad f) = true) : Calls Tryz.prog 116 #[.pointer (some ⟨p, 0, .none⟩), .int .u64 (st (ad f) va l), .int .i64 8, .int .u64 0] w fun e w' => e = .returned (.bool true) ∧ Ram w' p b m N (over B (f * 4096 + (ix va l).toNat * 8) (le 0 8)) L ∧ Fra p b m w w' := by
  have := store_nd h (ad f) va l 0 hf (by omega)
  rw [show fi (ad f) = f from fi_adr f] at this
  exact this
theorem st_node (f : Nat) (va l : Int) (N : Nat) (hf : f < N) (hN : N ≤ 4096) : st (ad f) va l - st (ad f) va l % 4096 = ad f ∧ 0 ≤ st (ad f) va l ∧ st (ad f) va l < 18446744073709551616 := by
  have := ix_b va l
  unfold st ad
  omega
theorem nd_of {f N : Nat} {L : List Nat} (h1 : 1 ≤ f) (h2 : f < N) (h3 : f ∉ L) (hN : N ≤ 4096) : ndB N L (ad f) = true := ndB_mk h1 h2 h3
set_option maxRecDepth 4000 in
set_option maxHeartbeats 2000000 in
theorem prune_any {r g q : Nat} (h : Ram w p b m N B L) (hP : PT N L B F lf) (hr : F 0 = some r) (va : Int) (hg : F (y1 va) = some g) (hq : F (y0 va) = some q) (l e k : Int) :
    Calls Tryz.prog 117 #[.pointer (some ⟨p, 0, .none⟩), .agg #[.int .u64 (st (ad q) va 0), .int .u64 (st (ad g) va 1), .int .u64 (st (ad r) va 2), .int .i64 l, .int .u64 e, .int .i64 k]] w fun x w' => x = .returned (.tuple #[]) ∧ ∃ B' L' F' lf', PT N L' B' F' lf' ∧ PrR L F lf va q g L' F' lf' ∧ Ram w' p b m N B' L' ∧ Fra p b m w w' := by
  have hN := h.mem.n2
  have HN : Hid (N ≤ 4096) := hN
  have HA : Hid ((st (ad q) va 0 - st (ad q) va 0 % 4096 = ad q ∧ 0 ≤ st (ad q) va 0 ∧ st (ad q) va 0 < 18446744073709551616) ∧ (st (ad g) va 1 - st (ad g) va 1 % 4096 = ad g ∧ 0 ≤ st (ad g) va 1 ∧ st (ad g) va 1 < 18446744073709551616) ∧ (st (ad r) va 2 - st (ad r) va 2 % 4096 = ad r ∧ 0 ≤ st (ad r) va 2 ∧ st (ad r) va 2 < 18446744073709551616)) :=
    ⟨st_node q va 0 N (hP.held _ _ hq).2.1 hN, st_node g va 1 N (hP.held _ _ hg).2.1 hN, st_node r va 2 N (hP.held _ _ hr).2.1 hN⟩
  have hy0 := y0_ge va
  have hy1 := y1_le va
  have HNE : Hid (q ≠ r ∧ g ≠ r) := ⟨fun e => by have := hP.inj _ _ q hq (by rw [e]; exact hr); omega, fun e => by have := hP.inj _ _ g hg (by rw [e]; exact hr); omega⟩
  have HG : Hid (F 0 = some r ∧ F (y1 va) = some g ∧ F (y0 va) = some q) := ⟨hr, hg, hq⟩
  have HE : Hid (st (ad g) va 1 = st (ad g) va 1 ∧ st (ad r) va 2 = st (ad r) va 2) := ⟨rfl, rfl⟩
  have hxp : w.heap.size ≠ p := by have := h.mem.plt; omega
  have hxb : w.heap.size ≠ b := by have := h.mem.blt; omega
  have hxm : w.heap.size ≠ m := by have := h.mem.mlt; omega
  obtain ⟨w1, hw1⟩ : ∃ w1, w1 = w.alloc (.cells #[.int .u64 (st (ad q) va 0), .int .u64 (st (ad g) va 1), .int .u64 (st (ad r) va 2), .int .i64 l, .int .u64 e, .int .i64 k] 131) := ⟨_, rfl⟩
  have b1 : Below w.heap.size w w1 := by rw [hw1]; exact below1 _ _
  have P1 : C6 w1 w.heap.size (.int .u64 (st (ad q) va 0)) (.int .u64 (st (ad g) va 1)) (.int .u64 (st (ad r) va 2)) (.int .i64 l) (.int .u64 e) (.int .i64 k) := by rw [hw1]; exact C6.new _ _ _ _ _ _ _ _
  have H0 : Hid (Ram w1 p b m N B L ∧ Fra p b m w w1 ∧ C6 w1 w.heap.size (.int .u64 (st (ad q) va 0)) (.int .u64 (st (ad g) va 1)) (.int .u64 (st (ad r) va 2)) (.int .i64 l) (.int .u64 e) (.int .i64 k)) := ⟨h.below b1, Fra.below b1, P1⟩
  have HS0 : Hid (PrS N L F lf va q g 0 L B F lf) := ⟨hP, .inl ⟨rfl, rfl, rfl, rfl⟩⟩
  have H47r : Hid (∀ (W : World) (B'' : Nat → Int) (L'' : List Nat) (f : Nat) (lv : Int), Ram W p b m N B'' L'' → ndB N L'' (ad f) = true → Calls Tryz.prog 116 #[.pointer (some ⟨p, 0, .none⟩), .int .u64 (st (ad f) va lv), .int .i64 8, .int .u64 0] W fun e w' => e = .returned (.bool true) ∧ Ram w' p b m N (over B'' (f * 4096 + (ix va lv).toNat * 8) (le 0 8)) L'' ∧ Fra p b m W w') := fun W B'' L'' f lv hW hf => store_r hW f va lv hf
  obtain ⟨a0, ha0⟩ : ∃ a, a = st (ad q) va 0 := ⟨_, rfl⟩
  obtain ⟨a1, ha1⟩ : ∃ a, a = st (ad g) va 1 := ⟨_, rfl⟩
  obtain ⟨a2, ha2⟩ : ∃ a, a = st (ad r) va 2 := ⟨_, rfl⟩
  rw [← ha0, ← ha1, ← ha2] at HA H0 hw1
  rw [← ha1, ← ha2] at HE
  rw [← ha0, ← ha1, ← ha2]
  have HI : Hid (st (ad g) va 1 = a1 ∧ st (ad r) va 2 = a2) := ⟨ha1.symm, ha2.symm⟩
  clear h hP hr hg hq P1 b1 hN HE ha0 ha1 ha2
  go_enter Tryz.func117, Tryz.ntmps117
  go_upto_region 1 with fail
  rw [← hw1]
  clear hw1
  obtain ⟨x, hx⟩ : ∃ x, x = w.heap.size := ⟨_, rfl⟩
  rw [← hx] at H0 hxp hxb hxm ⊢
  clear hx
  go_wp2_with fail
  go_loopw [6] (fun j wr => ∃ J : Nat, J ≤ 2 ∧ j = .int .i64 J ∧ ∃ L' B' F' lf', Hid (PrS N L F lf va q g J L' B' F' lf') ∧ Hid (Ram wr p b m N B' L' ∧ Fra p b m w wr ∧ C6 wr x (.int .u64 a0) (.int .u64 a1) (.int .u64 a2) (.int .i64 l) (.int .u64 e) (.int .i64 k))) (fun j _ => (2 - intOf j).toNat)
  case atStart => exact ⟨0, by omega, rfl, L, B, F, lf, HS0, H0⟩
  case round =>
    clear HS0 H0
    obtain ⟨J, hJ, rfl, L', B', F', lf', HS, HR⟩ := hrel
    obtain rfl | rfl | rfl : J = 0 ∨ J = 1 ∨ J = 2 := by omega
    · have hF' : F' = F := by rcases HS.out.2 with h | h | h <;> first | exact h.2.2.1 | omega
      have HF0 : Hid (F' (y0 va) = some q) := by rw [hF']; exact HG.out.2.2
      have HG0 : Hid (F' (y1 va) = some g) := by rw [hF']; exact HG.out.2.1
      clear hF'
      have hPT := HS.out.1
      have hfH := hPT.held _ _ HF0.out
      have hfnH := hPT.held _ _ HG0.out
      have c72a := nodeL_any (w := wr) a0 a1 a2 l e k 0 a0 (by simp) (by have := HA.out; exact this.1.2)
      rw [HA.out.1.1] at c72a
      have c72b : ∀ W, Calls Tryz.prog 142 #[.agg #[.int .u64 a0, .int .u64 a1, .int .u64 a2, .int .i64 l, .int .u64 e, .int .i64 k], .int .i64 2] W fun e w' => e = .returned (.int .u64 (ad r)) ∧ Below W.heap.size W w' := fun W => by
        have := nodeL_any (w := W) a0 a1 a2 l e k 2 a2 (by simp) HA.out.2.2.2
        rwa [HA.out.2.2.1] at this
      have hneq : (ad q == ad r) = false := by
        have : ad q ≠ ad r := by
          have := HNE.out.1
          unfold ad
          omega
        simpa using this
      have H73 : Hid (∀ W, Below wr.heap.size wr W → Calls Tryz.prog 143 #[.pointer (some ⟨p, 0, .none⟩), .int .u64 (ad q), .int .u64 0] W fun r w' => r = .returned (.int .u64 (ft B' q 512 0)) ∧ Below W.heap.size W w') := fun W bW => by
        have := firstTaken_any (HR.out.1.below bW) (ad q) (hPT.ndB HF0.out) 0 (by omega)
        rw [show fi (ad q) = q from fi_adr q] at this
        exact this
      have hfb := ft_b B' q 512 0 (by omega)
      obtain ⟨fv, hfv⟩ : ∃ fv, fv = ft B' q 512 0 := ⟨_, rfl⟩
      rw [← hfv] at H73 hfb
      have HFV : Hid (fv = ft B' q 512 0) := hfv
      have H52 : Hid (∀ W, Below wr.heap.size wr W → Calls Tryz.prog 35 #[.pointer (some ⟨p, 0, .none⟩), .int .u64 (ad q)] W fun e w' => e = .returned (.int .i64 0) ∧ Ram w' p b m N (thr B' q (adr L')) (q :: L') ∧ Fra p b m W w') := fun W bW => free_held q (HR.out.1.below bW) hfH.1 hfH.2.1 hfH.2.2
      have H47 : Hid (∀ W, Ram W p b m N (thr B' q (adr L')) (q :: L') → Calls Tryz.prog 116 #[.pointer (some ⟨p, 0, .none⟩), .int .u64 a1, .int .i64 8, .int .u64 0] W fun e w' => e = .returned (.bool true) ∧ Ram w' p b m N (over (thr B' q (adr L')) (g * 4096 + i1 va * 8) (le 0 8)) (q :: L') ∧ Fra p b m W w') := fun W hW => by
        have hd : g ∉ q :: L' := fun hm => by
          rcases List.mem_cons.1 hm with e1 | e1
          · have := hPT.inj _ _ _ HG0.out (by rw [e1]; exact HF0.out)
            have := y1_le va
            have := y0_ge va
            omega
          · exact hfnH.2.2 e1
        have := store_r hW g va 1 (nd_of hfnH.1 hfnH.2.1 hd HN.out)
        rw [HI.out.1] at this
        exact this
      clear hfv hPT hfH hfnH
      obtain ⟨k0, k1, k2, k3, k4, k5, f0, f1, f2, f3, f4, f5⟩ := id HR.out.2.2
      go_upto_region 5 with (go_at_call 142; refine c72a.mono ?_; rintro _ w2 ⟨rfl, b2⟩; have H2 : Hid (Below wr.heap.size wr w2) := b2; clear b2 c72a)
      clear k0 k1 k2 k3 k4 k5 f0 f1 f2 f3 f4 f5
      obtain ⟨k0, k1, k2, k3, k4, k5, f0, f1, f2, f3, f4, f5⟩ := HR.out.2.2.below H2.out
      by_cases hlt : fv < 512
      · go_wp2_with first | (go_at_call 142; refine (c72b _).mono ?_; rintro _ w3 ⟨rfl, b3⟩; have H3 : Hid (Below wr.heap.size wr w3) := H2.out.trans (b3.mono H2.out.size); clear b3 c72b) | (go_at_call 143; refine (H73.out _ H3.out).mono ?_; rintro _ w4 ⟨rfl, b4⟩; have H4 : Hid (Below wr.heap.size wr w4) := H3.out.trans (b4.mono H3.out.size); clear b4)
        refine bodyPost_ret (v := .tuple #[]) (by simp [results, Tryz.results117, go_sem]) rfl ⟨rfl, B', L', F', lf', HS.out.1, ?_, HR.out.1.below H4.out, HR.out.2.1.trans (Fra.below H4.out)⟩
        rcases HS.out.2 with h | h | h
        · obtain ⟨_, rfl, rfl, rfl⟩ := h
          refine .inl ⟨rfl, rfl, rfl, fun hz => ?_⟩
          have := (HS.out.1.ftL HR.out.1.mem.bb (y0_ge va) HF0.out).2 hz
          have := HFV.out
          omega
        · omega
        · omega
      · obtain rfl : fv = 512 := by omega
        go_upto_region 6 with first | (go_at_call 142; refine (c72b _).mono ?_; rintro _ w3 ⟨rfl, b3⟩; have H3 : Hid (Below wr.heap.size wr w3) := H2.out.trans (b3.mono H2.out.size); clear b3 c72b) | (go_at_call 143; refine (H73.out _ H3.out).mono ?_; rintro _ w4 ⟨rfl, b4⟩; have H4 : Hid (Below wr.heap.size wr w4) := H3.out.trans (b4.mono H3.out.size); clear b4)
        clear k0 k1 k2 k3 k4 k5 f0 f1 f2 f3 f4 f5
        go_upto_region 7 with (go_at_call 35; refine (H52.out _ H4.out).mono ?_; rintro _ w5 ⟨rfl, r5, f5⟩; have H5 : Hid (Ram w5 p b m N (thr B' q (adr L')) (q :: L') ∧ Fra p b m wr w5 ∧ C6 w5 x (.int .u64 a0) (.int .u64 a1) (.int .u64 a2) (.int .i64 l) (.int .u64 e) (.int .i64 k)) := ⟨r5, (Fra.below H4.out).trans f5, (HR.out.2.2.below H4.out).fra f5 hxp hxb hxm⟩; clear r5 f5)
        obtain ⟨k0, k1, k2, k3, k4, k5, f0, f1, f2, f3, f4, f5⟩ := id H5.out.2.2
        go_upto_region 8 with (go_at_call 116; refine (H47.out _ H5.out.1).mono ?_; rintro _ w6 ⟨rfl, r6, f6⟩; have H6 : Hid (Ram w6 p b m N (over (thr B' q (adr L')) (g * 4096 + i1 va * 8) (le 0 8)) (q :: L') ∧ Fra p b m w w6 ∧ C6 w6 x (.int .u64 a0) (.int .u64 a1) (.int .u64 a2) (.int .i64 l) (.int .u64 e) (.int .i64 k)) := ⟨r6, HR.out.2.1.trans (H5.out.2.1.trans f6), H5.out.2.2.fra f6 hxp hxb hxm⟩; clear r6 f6)
        clear k0 k1 k2 k3 k4 k5 f0 f1 f2 f3 f4 f5
        go_wp2
        refine ⟨⟨1, by omega, rfl, q :: L', over (thr B' q (adr L')) (g * 4096 + i1 va * 8) (le 0 8), setN F' (y0 va), clrE lf' (y0 va), ?_, H6⟩, by simp [intOf]⟩
        have hPT := HS.out.1
        have hz := (hPT.ftL HR.out.1.mem.bb (y0_ge va) HF0.out).1 HFV.out.symm
        refine ⟨hPT.drop hy1.1 HG0.out (i1_lt va) HF0.out (fun h1 => by have : ch (y1 va) (i1 va) = y0 va := rfl; omega) (fun z hz k hk => thr_out _ _ _ _ (by rcases Nat.lt_or_gt_of_ne hz with h | h <;> omega)), ?_⟩
        rcases HS.out.2 with h | h | h
        · obtain ⟨_, rfl, rfl, rfl⟩ := h
          exact .inr (.inl ⟨rfl, rfl, rfl, rfl, hz⟩)
        · omega
        · omega
    · have hF' : F' = setN F (y0 va) := by rcases HS.out.2 with h | h | h <;> first | exact h.2.2.1 | omega
      have HF1 : Hid (F' (y1 va) = some g) := by rw [hF']; unfold setN; rw [if_neg (by omega)]; exact HG.out.2.1
      have HG1 : Hid (F' 0 = some r) := by rw [hF']; unfold setN; rw [if_neg (by omega)]; exact HG.out.1
      clear hF'
      have hPT := HS.out.1
      have hfH := hPT.held _ _ HF1.out
      have hfnH := hPT.held _ _ HG1.out
      have c72a := nodeL_any (w := wr) a0 a1 a2 l e k 1 a1 (by simp) (by have := HA.out; exact this.2.1.2)
      rw [HA.out.2.1.1] at c72a
      have c72b : ∀ W, Calls Tryz.prog 142 #[.agg #[.int .u64 a0, .int .u64 a1, .int .u64 a2, .int .i64 l, .int .u64 e, .int .i64 k], .int .i64 2] W fun e w' => e = .returned (.int .u64 (ad r)) ∧ Below W.heap.size W w' := fun W => by
        have := nodeL_any (w := W) a0 a1 a2 l e k 2 a2 (by simp) HA.out.2.2.2
        rwa [HA.out.2.2.1] at this
      have hneq : (ad g == ad r) = false := by
        have : ad g ≠ ad r := by
          have := HNE.out.2
          unfold ad
          omega
        simpa using this
      have H73 : Hid (∀ W, Below wr.heap.size wr W → Calls Tryz.prog 143 #[.pointer (some ⟨p, 0, .none⟩), .int .u64 (ad g), .int .u64 0] W fun r w' => r = .returned (.int .u64 (ft B' g 512 0)) ∧ Below W.heap.size W w') := fun W bW => by
        have := firstTaken_any (HR.out.1.below bW) (ad g) (hPT.ndB HF1.out) 0 (by omega)
        rw [show fi (ad g) = g from fi_adr g] at this
        exact this
      have hfb := ft_b B' g 512 0 (by omega)
      obtain ⟨fv, hfv⟩ : ∃ fv, fv = ft B' g 512 0 := ⟨_, rfl⟩
      rw [← hfv] at H73 hfb
      have HFV : Hid (fv = ft B' g 512 0) := hfv
      have H52 : Hid (∀ W, Below wr.heap.size wr W → Calls Tryz.prog 35 #[.pointer (some ⟨p, 0, .none⟩), .int .u64 (ad g)] W fun e w' => e = .returned (.int .i64 0) ∧ Ram w' p b m N (thr B' g (adr L')) (g :: L') ∧ Fra p b m W w') := fun W bW => free_held g (HR.out.1.below bW) hfH.1 hfH.2.1 hfH.2.2
      have H47 : Hid (∀ W, Ram W p b m N (thr B' g (adr L')) (g :: L') → Calls Tryz.prog 116 #[.pointer (some ⟨p, 0, .none⟩), .int .u64 a2, .int .i64 8, .int .u64 0] W fun e w' => e = .returned (.bool true) ∧ Ram w' p b m N (over (thr B' g (adr L')) (r * 4096 + i2 va * 8) (le 0 8)) (g :: L') ∧ Fra p b m W w') := fun W hW => by
        have hd : r ∉ g :: L' := fun hm => by
          rcases List.mem_cons.1 hm with e1 | e1
          · have := hPT.inj _ _ _ HG1.out (by rw [e1]; exact HF1.out)
            have := y1_le va
            have := y0_ge va
            omega
          · exact hfnH.2.2 e1
        have := store_r hW r va 2 (nd_of hfnH.1 hfnH.2.1 hd HN.out)
        rw [HI.out.2] at this
        exact this
      clear hfv hPT hfH hfnH
      obtain ⟨k0, k1, k2, k3, k4, k5, f0, f1, f2, f3, f4, f5⟩ := id HR.out.2.2
      go_upto_region 5 with (go_at_call 142; refine c72a.mono ?_; rintro _ w2 ⟨rfl, b2⟩; have H2 : Hid (Below wr.heap.size wr w2) := b2; clear b2 c72a)
      clear k0 k1 k2 k3 k4 k5 f0 f1 f2 f3 f4 f5
      obtain ⟨k0, k1, k2, k3, k4, k5, f0, f1, f2, f3, f4, f5⟩ := HR.out.2.2.below H2.out
      by_cases hlt : fv < 512
      · go_wp2_with first | (go_at_call 142; refine (c72b _).mono ?_; rintro _ w3 ⟨rfl, b3⟩; have H3 : Hid (Below wr.heap.size wr w3) := H2.out.trans (b3.mono H2.out.size); clear b3 c72b) | (go_at_call 143; refine (H73.out _ H3.out).mono ?_; rintro _ w4 ⟨rfl, b4⟩; have H4 : Hid (Below wr.heap.size wr w4) := H3.out.trans (b4.mono H3.out.size); clear b4)
        refine bodyPost_ret (v := .tuple #[]) (by simp [results, Tryz.results117, go_sem]) rfl ⟨rfl, B', L', F', lf', HS.out.1, ?_, HR.out.1.below H4.out, HR.out.2.1.trans (Fra.below H4.out)⟩
        rcases HS.out.2 with h | h | h
        · omega
        · obtain ⟨_, rfl, rfl, rfl, hz⟩ := h
          refine .inr (.inl ⟨rfl, rfl, rfl, hz, fun hd => ?_⟩)
          have := (HS.out.1.ftP HN.out HR.out.1.mem.bb hy1.1 HF1.out).2 hd
          have := HFV.out
          omega
        · omega
      · obtain rfl : fv = 512 := by omega
        go_upto_region 6 with first | (go_at_call 142; refine (c72b _).mono ?_; rintro _ w3 ⟨rfl, b3⟩; have H3 : Hid (Below wr.heap.size wr w3) := H2.out.trans (b3.mono H2.out.size); clear b3 c72b) | (go_at_call 143; refine (H73.out _ H3.out).mono ?_; rintro _ w4 ⟨rfl, b4⟩; have H4 : Hid (Below wr.heap.size wr w4) := H3.out.trans (b4.mono H3.out.size); clear b4)
        clear k0 k1 k2 k3 k4 k5 f0 f1 f2 f3 f4 f5
        go_upto_region 7 with (go_at_call 35; refine (H52.out _ H4.out).mono ?_; rintro _ w5 ⟨rfl, r5, f5⟩; have H5 : Hid (Ram w5 p b m N (thr B' g (adr L')) (g :: L') ∧ Fra p b m wr w5 ∧ C6 w5 x (.int .u64 a0) (.int .u64 a1) (.int .u64 a2) (.int .i64 l) (.int .u64 e) (.int .i64 k)) := ⟨r5, (Fra.below H4.out).trans f5, (HR.out.2.2.below H4.out).fra f5 hxp hxb hxm⟩; clear r5 f5)
        obtain ⟨k0, k1, k2, k3, k4, k5, f0, f1, f2, f3, f4, f5⟩ := id H5.out.2.2
        go_upto_region 8 with (go_at_call 116; refine (H47.out _ H5.out.1).mono ?_; rintro _ w6 ⟨rfl, r6, f6⟩; have H6 : Hid (Ram w6 p b m N (over (thr B' g (adr L')) (r * 4096 + i2 va * 8) (le 0 8)) (g :: L') ∧ Fra p b m w w6 ∧ C6 w6 x (.int .u64 a0) (.int .u64 a1) (.int .u64 a2) (.int .i64 l) (.int .u64 e) (.int .i64 k)) := ⟨r6, HR.out.2.1.trans (H5.out.2.1.trans f6), H5.out.2.2.fra f6 hxp hxb hxm⟩; clear r6 f6)
        clear k0 k1 k2 k3 k4 k5 f0 f1 f2 f3 f4 f5
        go_wp2
        refine ⟨⟨2, by omega, rfl, g :: L', over (thr B' g (adr L')) (r * 4096 + i2 va * 8) (le 0 8), setN F' (y1 va), clrE lf' (y1 va), ?_, H6⟩, by simp [intOf]⟩
        have hPT := HS.out.1
        have hz := (hPT.ftP HN.out HR.out.1.mem.bb hy1.1 HF1.out).1 HFV.out.symm
        refine ⟨hPT.drop (by omega) HG1.out (i2_lt va) HF1.out (fun _ => hz) (fun z hz k hk => thr_out _ _ _ _ (by rcases Nat.lt_or_gt_of_ne hz with h | h <;> omega)), ?_⟩
        rcases HS.out.2 with h | h | h
        · omega
        · obtain ⟨_, rfl, rfl, rfl, h0⟩ := h
          exact .inr (.inr ⟨rfl, rfl, rfl, rfl, h0, hz⟩)
        · omega
    · go_wp2_with fail
      refine bodyPost_end (results_none rfl _ _ _) rfl ⟨rfl, B', L', F', lf', HS.out.1, ?_, HR.out.1, HR.out.2.1⟩
      rcases HS.out.2 with h | h | h
      · omega
      · omega
      · exact .inr (.inr h.2)
end
end Go.Proofs.YtblmkkhiojbcjaaGreat
