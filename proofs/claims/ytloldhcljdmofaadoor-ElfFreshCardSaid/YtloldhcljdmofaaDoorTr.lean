import Derived.Test.YtloldhcljdmofaaDoorSamP
namespace Go.Proofs.YtloldhcljdmofaaDoor
open Go.RowKit
set_option linter.unusedVariables false
set_option linter.unusedSimpArgs false
theorem row_of_block {w w' : World} {X e s n : Nat} {v : Value} {xs : List Value} (h : w.ownsRow X e s v n xs) (hk : ∀ g, v.ownBlock = some g → w'.heap[g]? = w.heap[g]?) : w'.ownsRow X e s v n xs := by
  refine ⟨h.1, ?_⟩
  rcases h.2 with h0 | ⟨g, cap, cur, rfl, h2, h3, h4⟩
  · exact .inl h0
  · exact .inr ⟨g, cap, cur, rfl, h2, (hk g rfl).trans h3, h4⟩
/-- The first byte turned. -/
def tn : List Int → List Int
  | [] => []
  | x :: xs => bits .xor .u8 x 255 :: xs
theorem tn_len : ∀ xs : List Int, (tn xs).length = xs.length
  | [] => rfl
  | x :: xs => rfl
def Dn (D : Nat → List Int) (i j : Nat) : List Int := if j < i then tn (D j) else D j
theorem dn_len (D : Nat → List Int) (i j : Nat) : (Dn D i j).length = (D j).length := by
  unfold Dn
  split
  · exact tn_len _
  · rfl
theorem dn_zero (D : Nat → List Int) : Dn D 0 = D := by
  funext j
  unfold Dn
  rw [if_neg (by omega)]
theorem dn_other (D : Nat → List Int) {i j : Nat} (h : j ≠ i) : Dn D (i + 1) j = Dn D i j := by
  unfold Dn
  by_cases h1 : j < i
  · rw [if_pos (by omega), if_pos h1]
  · rw [if_neg (by omega), if_neg h1]
theorem dn_at (D : Nat → List Int) (i : Nat) : Dn D i i = D i := by
  unfold Dn
  rw [if_neg (by omega)]
theorem dn_now (D : Nat → List Int) (i : Nat) : Dn D (i + 1) i = tn (D i) := by
  unfold Dn
  rw [if_pos (by omega)]
theorem dn_nil (D : Nat → List Int) {i : Nat} (h : (D i).length = 0) : Dn D (i + 1) = Dn D i := by
  funext j
  by_cases hj : j = i
  · subst hj
    rw [dn_now, dn_at, List.eq_nil_of_length_eq_zero h]
    rfl
  · exact dn_other D hj
theorem lnp_apart {X : Nat} {W : World} {E : List (Sg × Value)} {D : Nat → List Int} (h : LnP X W E D) {i j : Nat} {x y : Sg × Value} {g c g' c' : Nat} (hx : E[i]? = some x) (hy : E[j]? = some y) (e1 : x.2 = .slice (some ⟨g, 0, .none⟩) (D i).length c) (e2 : y.2 = .slice (some ⟨g', 0, .none⟩) (D j).length c') (hij : i ≠ j) : g ≠ g' := by
  rcases Nat.lt_or_ge i j with hl | hl
  · have := h.2 i j x y g c g' c' hx hy hl e1 e2
    omega
  · have := h.2 j i y x g' c' g c hy hx (by omega) e2 e1
    omega
theorem lnp_turn {X : Nat} {W : World} {E : List (Sg × Value)} {D : Nat → List Int} {i : Nat} {x : Sg × Value} {g c : Nat} {y0 : Int} (h : LnP X W E (Dn D i)) (hx : E[i]? = some x) (hv : x.2 = .slice (some ⟨g, 0, .none⟩) (D i).length c) (h0 : (D i)[0]? = some y0) :
    LnP X (W.setCell ⟨g, 0, .none⟩ (.int .u8 (bits .xor .u8 y0 255))) E (Dn D (i + 1)) := by
  constructor
  · intro j y hy
    obtain ⟨g', c', e1, e2, e3⟩ := h.1 j y hy
    by_cases hj : j = i
    · subst hj
      rw [hx] at hy
      injection hy with hy
      subst hy
      rw [dn_at] at e1 e2 e3
      rw [hv] at e1
      injection e1 with e1 _ ec
      injection e1 with e1
      injection e1 with e1
      subst e1 ec
      rw [dn_now, tn_len]
      refine ⟨g, c, hv, e2, ?_⟩
      cases hD : D j with
      | nil => rw [hD] at h0; cases h0
      | cons z zs =>
        rw [hD] at h0 e3
        injection h0 with h0
        subst h0
        exact (World.ownsRow.stored e3 0 _).1
    · have hne : g' ≠ g := lnp_apart h hy hx e1 (by rw [dn_len]; exact hv) hj
      refine ⟨g', c', ?_, ?_, ?_⟩
      · rw [dn_other D hj]; exact e1
      · rw [dn_other D hj]; exact e2
      · rw [dn_other D hj]
        refine row_of_block e3 fun k hk => ?_
        injection hk with hk
        subst hk
        exact heap_setCell_other W ⟨g, 0, .none⟩ g' _ hne
  · intro a b x y g1 c1 g2 c2 ha hb hab e1 e2
    refine h.2 a b x y g1 c1 g2 c2 ha hb hab ?_ ?_
    · rw [dn_len] at e1 ⊢; exact e1
    · rw [dn_len] at e2 ⊢; exact e2
/-- Nothing but those rows has changed. -/
def Oth (W W' : World) (E : List (Sg × Value)) (D : Nat → List Int) : Prop :=
  ∀ k, k < W.heap.size → (∀ (i : Nat) (x : Sg × Value) (g c : Nat), E[i]? = some x → x.2 = .slice (some ⟨g, 0, .none⟩) (D i).length c → k ≠ g) → W'.heap[k]? = W.heap[k]?
def TnP (X : Nat) (w : World) (sv : Value) (E : List (Sg × Value)) (D : Nat → List Int) (e : Ending) (w' : World) : Prop := e = .returned (.tuple #[]) ∧ LnP X w' E (Dn D E.length) ∧ w'.ownsRow X 54 4 sv E.length (flatE E) ∧ Below X w w' ∧ Oth w w' E D
set_option maxHeartbeats 4000000 in
set_option maxRecDepth 100000 in
theorem turned_any {w : World} {X : Nat} {q : Option Addr} {cs : Nat} {D : Nat → List Int} {E : List (Sg × Value)} (own : w.ownsRow X 54 4 (.slice q E.length cs) E.length (flatE E)) (hN : LnP X w E D) (hl : E.length ≤ 1000) (hX : X ≤ w.heap.size) (hb : ∀ i, i < E.length → ∀ x ∈ D i, 0 ≤ x ∧ x < 256) (hz : ∀ i, i < E.length → (D i).length ≤ 400000) (en : Int) :
    Calls Tryd.prog 14 #[.agg #[.int .u64 en, .slice q E.length cs]] w fun e w' => TnP X w (.slice q E.length cs) E D e w' := by
  have HO : Hid (w.ownsRow X 54 4 (.slice q E.length cs) E.length (flatE E)) := own
  have HN : Hid (LnP X w E D) := hN
  have HX : Hid (X ≤ w.heap.size) := hX
  have HBy : Hid (∀ i, i < E.length → ∀ x ∈ D i, 0 ≤ x ∧ x < 256) := hb
  have HZ : Hid (∀ i, i < E.length → (D i).length ≤ 400000) := hz
  clear own hN hX hb hz
  have HB : Hid (Below w.heap.size w (w.alloc (.cells #[.int .u64 en, .slice q E.length cs] 25))) := (Below.refl _ _).alloc (Nat.le_refl _) _
  have hs1 : (w.alloc (.cells #[.int .u64 en, .slice q E.length cs] 25)).heap.size = w.heap.size + 1 := World.size_alloc ..
  have HQ : Hid ((w.alloc (.cells #[.int .u64 en, .slice q E.length cs] 25)).cell? ⟨w.heap.size, 1, .none⟩ = some (.slice q E.length cs) ∧ (w.alloc (.cells #[.int .u64 en, .slice q E.length cs] 25)).heap.size = w.heap.size + 1) := ⟨World.cell?_alloc_at _ _ _ _ rfl, hs1⟩
  clear hs1
  have HI0 : Hid (LnP X (w.alloc (.cells #[.int .u64 en, .slice q E.length cs] 25)) E (Dn D 0) ∧ Oth (w.alloc (.cells #[.int .u64 en, .slice q E.length cs] 25)) (w.alloc (.cells #[.int .u64 en, .slice q E.length cs] 25)) E D ∧ Below X w (w.alloc (.cells #[.int .u64 en, .slice q E.length cs] 25))) := ⟨by rw [dn_zero]; exact HN.out.below HB.out, fun k _ _ => rfl, HB.out.mono HX.out⟩
  go_enter Tryd.func14, Tryd.ntmps14
  go_upto_region 1 with fail
  generalize (w.alloc (.cells #[.int .u64 en, .slice q E.length cs] 25)) = W1 at *
  go_wp2_with fail
  go_loopw [2] (fun a wr => ∃ i : Nat, i ≤ E.length ∧ a = .int .i64 i ∧ Hid (LnP X wr E (Dn D i) ∧ Oth W1 wr E D ∧ Below X w wr)) (fun a _ => (E.length - intOf a).toNat)
  case atStart => exact ⟨0, by omega, rfl, HI0⟩
  case round =>
    obtain ⟨i, hi, rfl, HR⟩ := hrel
    have HLt : Hid (∀ (i : Nat) (x : Sg × Value) (g c : Nat), E[i]? = some x → x.2 = .slice (some ⟨g, 0, .none⟩) (D i).length c → g < w.heap.size) := fun i x g c hx hv => by
      obtain ⟨g', c', e1, _, e3⟩ := HN.out.1 i x hx
      rw [hv] at e1
      injection e1 with e1
      injection e1 with e1
      injection e1 with e1
      subst e1
      exact own_lt e3
    have HOw : Hid (wr.ownsRow X 54 4 (.slice q E.length cs) E.length (flatE E)) := by
      have o1 := owns_below HO.out HB.out
      refine row_of_block o1 fun k hk => HR.out.2.1 k (o1.lt k hk).2 fun j y g' c' hy hv e => ?_
      obtain ⟨g2, c2, e1, _, e3⟩ := (HN.out.below HB.out).1 j y hy
      rw [hv] at e1
      injection e1 with e1
      injection e1 with e1
      injection e1 with e1
      subst e1
      obtain ⟨r1, t1⟩ := own_blk o1 hk
      obtain ⟨r2, t2⟩ := own_blk e3 (g := g') rfl
      rw [e, t2] at t1
      cases t1
    have hbx : wr.heap[w.heap.size]? = W1.heap[w.heap.size]? := HR.out.2.1 _ (by rw [HQ.out.2]; omega) fun j y g' c' hy hv => by have := HLt.out j y g' c' hy hv; omega
    have b1 : wr.cell? ⟨w.heap.size, 1, .none⟩ = some (.slice q E.length cs) := (World.cell?_of_block hbx).trans HQ.out.1
    by_cases hlt : i < E.length
    · have g0 : (i : Int) < E.length := by omega
      obtain ⟨x, hx⟩ : ∃ x, E[i]? = some x := ⟨E[i], List.getElem?_eq_getElem hlt⟩
      obtain ⟨_, _, f2, _⟩ := flatE_get E _ x hx
      obtain ⟨g, rfl, a2⟩ := own_cell HOw.out f2 (by omega) (by omega)
      obtain ⟨d, cd, e1, e2, e3⟩ := HR.out.1.1 i x hx
      rw [dn_at] at e1 e2 e3
      have HV : Hid (E[i]? = some x ∧ x.2 = .slice (some ⟨d, 0, .none⟩) (D i).length cd ∧ Lent wr X d cd (D i)) := ⟨hx, e1, e3⟩
      have hcd : (D i).length ≤ cd := by have := own_cap e3; omega
      have hcm : cd ≤ 9223372036854775807 := (own_cap e3).2
      rw [e1] at a2
      have hdz := HZ.out i hlt
      have HE : Hid (∃ n, n = (D i).length) := ⟨_, rfl⟩
      clear f2 e1 e2 e3 hx hbx
      by_cases h0 : (D i).length = 0
      · have HNx : Hid (LnP X wr E (Dn D (i + 1)) ∧ Oth W1 wr E D ∧ Below X w wr) := ⟨by rw [dn_nil D h0]; exact HR.out.1, HR.out.2⟩
        rw [h0] at a2
        clear h0 hcd hdz
        go_wp2_with fail
        exact ⟨⟨i + 1, by omega, by simp, HNx⟩, by simp [intOf]; omega⟩
      · obtain ⟨y0, hy0⟩ : ∃ y0, (D i)[0]? = some y0 := ⟨(D i)[0]'(by omega), List.getElem?_eq_getElem _⟩
        have hyb := HBy.out i hlt y0 (List.mem_of_getElem? hy0)
        have q0 : wr.cell? ⟨d, 0, .none⟩ = some (.int .u8 y0) := by
          have := World.ownsRow.cells HV.out.2.2 (g := d) rfl 0 _ (by8_get (show (D i ++ marks)[0]? = some y0 by rw [List.getElem?_append_left (by omega)]; exact hy0))
          rwa [le_addr_add, Nat.zero_add] at this
        have q1 : wr.frozen? ⟨d, 0, .none⟩ = false := HV.out.2.2.frozenAt 0
        have hXd : X ≤ d := own_block HV.out.2.2 d rfl
        have hdl : d < w.heap.size := HLt.out i x d cd HV.out.1 HV.out.2.1
        have HNx : Hid (LnP X (wr.drew.setCell ⟨d, 0, .none⟩ (.int .u8 (bits .xor .u8 y0 255))) E (Dn D (i + 1)) ∧ Oth W1 (wr.drew.setCell ⟨d, 0, .none⟩ (.int .u8 (bits .xor .u8 y0 255))) E D ∧ Below X w (wr.drew.setCell ⟨d, 0, .none⟩ (.int .u8 (bits .xor .u8 y0 255)))) := by
          have bd : Below wr.heap.size wr wr.drew := (Below.refl _ _).drew
          refine ⟨lnp_turn (HR.out.1.below bd) HV.out.1 HV.out.2.1 hy0, fun k hk hne => ?_, (HR.out.2.2.drew).setCell (p := ⟨d, 0, .none⟩) hXd _⟩
          exact (heap_setCell_other wr.drew ⟨d, 0, .none⟩ k _ (hne i x d cd HV.out.1 HV.out.2.1)).trans (HR.out.2.1 k hk hne)
        have hgd : g ≠ d := fun e => by
          obtain ⟨r1, t1⟩ := own_blk HOw.out (g := g) rfl
          obtain ⟨r2, t2⟩ := own_blk HV.out.2.2 (g := d) rfl
          rw [e, t2] at t1
          cases t1
        have gn : ((D i).length : Int) > 0 := by omega
        generalize (D i).length = nd at *
        have kS : wr.drew.cell? ⟨w.heap.size, 1, .none⟩ = some (.slice (some ⟨g, 0, .none⟩) E.length cs) ∧ wr.drew.cell? ⟨g, i * 4 + 2, .none⟩ = some (.slice (some ⟨d, 0, .none⟩) nd cd) := ⟨b1, a2⟩
        have kS9 : (wr.drew.setCell ⟨d, 0, .none⟩ (.int .u8 (bits .xor .u8 y0 255))).cell? ⟨w.heap.size, 1, .none⟩ = some (.slice (some ⟨g, 0, .none⟩) E.length cs) ∧ (wr.drew.setCell ⟨d, 0, .none⟩ (.int .u8 (bits .xor .u8 y0 255))).cell? ⟨g, i * 4 + 2, .none⟩ = some (.slice (some ⟨d, 0, .none⟩) nd cd) := ⟨(World.cell?_setCell_other _ _ _ _ (by simp only [ne_eq, Addr.mk.injEq, not_and]; intro e; omega)).trans b1, (World.cell?_setCell_other _ _ _ _ (by simp only [ne_eq, Addr.mk.injEq, not_and]; intro e; exact absurd e.symm hgd)).trans a2⟩
        clear hXd hdl hgd hy0 hyb
        go_upto_region 5 with fail
        clear b1 a2
        refine wp_region_held_drew (S := fun U2 => U2.cell? ⟨w.heap.size, 1, .none⟩ = some (.slice (some ⟨g, 0, .none⟩) E.length cs) ∧ U2.cell? ⟨g, i * 4 + 2, .none⟩ = some (.slice (some ⟨d, 0, .none⟩) nd cd)) (by kernel_rfl) kS (fun hHeld => ?_)
        refine wpAnyH_take (i := 0) (v := (.pointer (some ⟨w.heap.size, 1, .none⟩))) rfl (by kernel_rfl) (by kernel_rfl) (by kernel_rfl) (fun _ _ _ h => h) (Or.inl ⟨by rfl, fun ww hSw => by (try dsimp only at hSw); go_simp⟩) (by assumption) ?_
        simp only [Act.put, List.setIfInBounds_toArray, List.set_cons_zero, List.set_cons_succ, List.getElem_toArray, List.getElem_cons_succ, List.getElem_cons_zero]
        refine wpAnyH_take (i := 1) (v := (.slice (some ⟨g, 0, .none⟩) E.length cs)) rfl (by kernel_rfl) (by kernel_rfl) (by kernel_rfl) (fun _ _ _ h => h) (Or.inl ⟨by rfl, fun ww hSw => by (try dsimp only at hSw); go_simp⟩) (by assumption) ?_
        simp only [Act.put, List.setIfInBounds_toArray, List.set_cons_zero, List.set_cons_succ, List.getElem_toArray, List.getElem_cons_succ, List.getElem_cons_zero]
        refine wpAnyH_take (i := 2) (v := (.int .i64 i)) rfl (by kernel_rfl) (by kernel_rfl) (by kernel_rfl) (fun _ _ _ h => h) (Or.inl ⟨by rfl, fun ww hSw => by (try dsimp only at hSw); go_simp⟩) (by assumption) ?_
        simp only [Act.put, List.setIfInBounds_toArray, List.set_cons_zero, List.set_cons_succ, List.getElem_toArray, List.getElem_cons_succ, List.getElem_cons_zero]
        refine wpAnyH_take (i := 3) (v := (.pointer (some ⟨g, i * 4, .none⟩))) rfl (by kernel_rfl) (by kernel_rfl) (by kernel_rfl) (fun _ _ _ h => h) (Or.inl ⟨by rfl, fun ww hSw => by (try dsimp only at hSw); go_simp⟩) (by assumption) ?_
        simp only [Act.put, List.setIfInBounds_toArray, List.set_cons_zero, List.set_cons_succ, List.getElem_toArray, List.getElem_cons_succ, List.getElem_cons_zero]
        refine wpAnyH_take (i := 4) (v := (.pointer (some ⟨g, i * 4 + 2, .none⟩))) rfl (by kernel_rfl) (by kernel_rfl) (by kernel_rfl) (fun _ _ _ h => h) (Or.inl ⟨by rfl, fun ww hSw => by (try dsimp only at hSw); go_simp⟩) (by assumption) ?_
        simp only [Act.put, List.setIfInBounds_toArray, List.set_cons_zero, List.set_cons_succ, List.getElem_toArray, List.getElem_cons_succ, List.getElem_cons_zero]
        refine wpAnyH_take (i := 5) (v := (.slice (some ⟨d, 0, .none⟩) nd cd)) rfl (by kernel_rfl) (by kernel_rfl) (by kernel_rfl) (fun _ _ _ h => h) (Or.inl ⟨by rfl, fun ww hSw => by (try dsimp only at hSw); go_simp⟩) (by assumption) ?_
        simp only [Act.put, List.setIfInBounds_toArray, List.set_cons_zero, List.set_cons_succ, List.getElem_toArray, List.getElem_cons_succ, List.getElem_cons_zero]
        refine wpAnyH_take (i := 6) (v := (.pointer (some ⟨w.heap.size, 1, .none⟩))) rfl (by kernel_rfl) (by kernel_rfl) (by kernel_rfl) (fun _ _ _ h => h) (Or.inl ⟨by rfl, fun ww hSw => by (try dsimp only at hSw); go_simp⟩) (by assumption) ?_
        simp only [Act.put, List.setIfInBounds_toArray, List.set_cons_zero, List.set_cons_succ, List.getElem_toArray, List.getElem_cons_succ, List.getElem_cons_zero]
        refine wpAnyH_take (i := 7) (v := (.slice (some ⟨g, 0, .none⟩) E.length cs)) rfl (by kernel_rfl) (by kernel_rfl) (by kernel_rfl) (fun _ _ _ h => h) (Or.inl ⟨by rfl, fun ww hSw => by (try dsimp only at hSw); go_simp⟩) (by assumption) ?_
        simp only [Act.put, List.setIfInBounds_toArray, List.set_cons_zero, List.set_cons_succ, List.getElem_toArray, List.getElem_cons_succ, List.getElem_cons_zero]
        refine wpAnyH_take (i := 8) (v := (.int .i64 i)) rfl (by kernel_rfl) (by kernel_rfl) (by kernel_rfl) (fun _ _ _ h => h) (Or.inl ⟨by rfl, fun ww hSw => by (try dsimp only at hSw); go_simp⟩) (by assumption) ?_
        simp only [Act.put, List.setIfInBounds_toArray, List.set_cons_zero, List.set_cons_succ, List.getElem_toArray, List.getElem_cons_succ, List.getElem_cons_zero]
        refine wpAnyH_take (i := 9) (v := (.pointer (some ⟨g, i * 4, .none⟩))) rfl (by kernel_rfl) (by kernel_rfl) (by kernel_rfl) (fun _ _ _ h => h) (Or.inl ⟨by rfl, fun ww hSw => by (try dsimp only at hSw); go_simp⟩) (by assumption) ?_
        simp only [Act.put, List.setIfInBounds_toArray, List.set_cons_zero, List.set_cons_succ, List.getElem_toArray, List.getElem_cons_succ, List.getElem_cons_zero]
        refine wpAnyH_take (i := 10) (v := (.pointer (some ⟨g, i * 4 + 2, .none⟩))) rfl (by kernel_rfl) (by kernel_rfl) (by kernel_rfl) (fun _ _ _ h => h) (Or.inl ⟨by rfl, fun ww hSw => by (try dsimp only at hSw); go_simp⟩) (by assumption) ?_
        simp only [Act.put, List.setIfInBounds_toArray, List.set_cons_zero, List.set_cons_succ, List.getElem_toArray, List.getElem_cons_succ, List.getElem_cons_zero]
        refine wpAnyH_take (i := 11) (v := (.slice (some ⟨d, 0, .none⟩) nd cd)) rfl (by kernel_rfl) (by kernel_rfl) (by kernel_rfl) (fun _ _ _ h => h) (Or.inl ⟨by rfl, fun ww hSw => by (try dsimp only at hSw); go_simp⟩) (by assumption) ?_
        simp only [Act.put, List.setIfInBounds_toArray, List.set_cons_zero, List.set_cons_succ, List.getElem_toArray, List.getElem_cons_succ, List.getElem_cons_zero]
        refine wpAnyH_take (i := 12) (v := (.pointer (some ⟨d, 0, .none⟩))) rfl (by kernel_rfl) (by kernel_rfl) (by kernel_rfl) (fun _ _ _ h => h) (Or.inl ⟨by rfl, fun ww hSw => by (try dsimp only at hSw); go_simp⟩) (by assumption) ?_
        simp only [Act.put, List.setIfInBounds_toArray, List.set_cons_zero, List.set_cons_succ, List.getElem_toArray, List.getElem_cons_succ, List.getElem_cons_zero]
        refine wpAnyH_ready (rs := [13]) (by kernel_rfl) (by simp) ?_
        refine AllReadyH.cons rfl (fun K hK => ?_) AllReadyH.nil
        go_simp
        refine hK.out _ _ kS (fun hHeld => ?_)
        clear hK K
        try simp only [Act.put, List.setIfInBounds_toArray, List.set_cons_zero, List.set_cons_succ, List.getElem_toArray, List.getElem_cons_succ, List.getElem_cons_zero]
        refine wpAnyH_take (i := 14) (v := (.int .u8 (bits .xor .u8 y0 255))) rfl (by kernel_rfl) (by kernel_rfl) (by kernel_rfl) (fun _ _ _ h => h) (Or.inl ⟨by rfl, fun ww hSw => by (try dsimp only at hSw); go_simp⟩) (by assumption) ?_
        simp only [Act.put, List.setIfInBounds_toArray, List.set_cons_zero, List.set_cons_succ, List.getElem_toArray, List.getElem_cons_succ, List.getElem_cons_zero]
        refine wpAnyH_take (i := 15) (v := (.pointer (some ⟨d, 0, .none⟩))) rfl (by kernel_rfl) (by kernel_rfl) (by kernel_rfl) (fun _ _ _ h => h) (Or.inl ⟨by rfl, fun ww hSw => by (try dsimp only at hSw); go_simp⟩) (by assumption) ?_
        simp only [Act.put, List.setIfInBounds_toArray, List.set_cons_zero, List.set_cons_succ, List.getElem_toArray, List.getElem_cons_succ, List.getElem_cons_zero]
        refine wpAnyH_ready (rs := [16]) (by kernel_rfl) (by simp) ?_
        refine AllReadyH.cons rfl (fun K hK => ?_) AllReadyH.nil
        go_simp
        refine hK.out _ _ kS9 (fun hHeld => ?_)
        clear hK K
        try simp only [Act.put, List.setIfInBounds_toArray, List.set_cons_zero, List.set_cons_succ, List.getElem_toArray, List.getElem_cons_succ, List.getElem_cons_zero]
        refine wpAnyH_done (by kernel_rfl) ?_ _
        clear hHeld kS kS9 q0 q1
        go_wp2_with fail
        exact ⟨⟨i + 1, by omega, by simp, HNx⟩, by simp [intOf]; omega⟩
    · have hn : ¬ ((i : Int) < E.length) := by omega
      have hie : i = E.length := by omega
      go_wp2_with fail
      have HI : Hid (i = E.length) := hie
      clear hie
      refine ⟨rfl, _, results_none rfl _ _ _, rfl, ?_, HOw.out, HR.out.2.2, fun k hk hne => ?_⟩
      · have := HR.out.1
        rw [HI.out] at this
        exact this
      · exact (HR.out.2.1 k (by rw [HQ.out.2]; omega) hne).trans (HB.out.block k hk)
end Go.Proofs.YtloldhcljdmofaaDoor
