import Derived.Test.YtloldhcljdmofaaDoorPg7
namespace Go.Proofs.YtloldhcljdmofaaDoor
open Go.RowKit
set_option linter.unusedVariables false
set_option linter.unusedSimpArgs false
section
variable {W0 w w' : World} {en : Int} {sl sv : Value} {B : Nat → Int} {E : List (Sg × Value)}
theorem Tw.keep {q : Option Addr} {cs : Nat} (h : Tw W0 w en sl B E (.slice q E.length cs)) {g : Sg} {dv : Value} (hd : w.ownsRow (W0.heap.size + 3) 5 1 dv g.sz (by8 (byt B g))) {ob : Obj} {w5 : World} {v' : Value}
    (hown : w5.ownsRow (W0.heap.size + 3) 54 4 v' (E.length + 1) (flatE E ++ [.int .u64 g.va, .int .u32 g.fl, dv, .int .u64 g.mem])) (hgr : (w.alloc ob).grownBy w5 (Value.ownBlock (.slice q E.length cs))) {v : Value} {k : Nat} {ys : List Value} (hv : w.ownsRow (W0.heap.size + 3) 5 1 v k ys) : (w5.setCell ⟨W0.heap.size + 2, 1, .none⟩ v').ownsRow (W0.heap.size + 3) 5 1 v k ys := by
  have hx := h.hx
  have hbl := h.be.size
  have blk : ∀ x, x < w.heap.size → Value.ownBlock (.slice q E.length cs) ≠ some x → w5.heap[x]? = w.heap[x]? := fun x hx hne => (hgr.block x (by simp only [World.size_alloc]; omega) (fun e => hne e.symm)).trans (Below.heap_alloc _ _ _ hx)
  have lo : ∀ x, x < W0.heap.size + 3 → w5.heap[x]? = w.heap[x]? := fun x h1 => blk x (by omega) (fun e => by have := (h.own.lt _ e).1; omega)
  have cl : ∀ x o, x < W0.heap.size + 3 → w5.cell? ⟨x, o, .none⟩ = w.cell? ⟨x, o, .none⟩ := fun x o hx => World.cell?_of_block (lo x hx)
  have fl : ∀ x o, x < W0.heap.size + 3 → w5.frozen? ⟨x, o, .none⟩ = w.frozen? ⟨x, o, .none⟩ := fun x o hx => World.frozen?_of_block (lo x hx)
  have k1 := (cl (W0.heap.size + 2) 1 (by omega)).trans h.f1
  have f1 := (fl (W0.heap.size + 2) 1 (by omega)).trans h.z1
  have so : ∀ x o, (x ≠ W0.heap.size + 2 ∨ o ≠ 1) → (w5.setCell ⟨W0.heap.size + 2, 1, .none⟩ v').cell? ⟨x, o, .none⟩ = w5.cell? ⟨x, o, .none⟩ := fun x o hx => World.cell?_setCell_other _ _ _ _ (by simp only [ne_eq, Addr.mk.injEq, and_true, not_and]; intro e1 e2; rcases hx with hx | hx <;> omega)
  have keepD : ∀ {v : Value} {k : Nat} {ys : List Value}, w.ownsRow (W0.heap.size + 3) 5 1 v k ys → (w5.setCell ⟨W0.heap.size + 2, 1, .none⟩ v').ownsRow (W0.heap.size + 3) 5 1 v k ys := fun {v k ys} hv => by
    refine ownsRow_setCell_below (a := ⟨W0.heap.size + 2, 1, .none⟩) ?_ (by show W0.heap.size + 2 < _; omega) _
    refine (World.ownsRow.alloc hv ob).kept hgr ?_
    obtain ⟨q', c', rfl, _⟩ := own_form hv
    cases e : Value.ownBlock (.slice q' k c') with
    | none => exact .inl rfl
    | some y =>
      refine .inr fun e' => ?_
      obtain ⟨c1, e1⟩ := own_blk hv e
      obtain ⟨c2, e2⟩ := own_blk h.own e'.symm
      rw [e1] at e2
      cases e2
  exact keepD hv
end
/-- Each segment's bytes lie in a row with marks behind it; the rows' blocks rise. -/
def LnP (X : Nat) (W : World) (E : List (Sg × Value)) (D : Nat → List Int) : Prop :=
  (∀ (i : Nat) (x : Sg × Value), E[i]? = some x → ∃ g c, x.2 = .slice (some ⟨g, 0, .none⟩) (D i).length c ∧ x.1.sz = (D i).length ∧ Lent W X g c (D i)) ∧
  (∀ (i j : Nat) (x y : Sg × Value) (g c g' c' : Nat), E[i]? = some x → E[j]? = some y → i < j → x.2 = .slice (some ⟨g, 0, .none⟩) (D i).length c → y.2 = .slice (some ⟨g', 0, .none⟩) (D j).length c' → g < g')
theorem LnP.below {X : Nat} {W W' : World} {E : List (Sg × Value)} {D : Nat → List Int} (h : LnP X W E D) (k : Below W.heap.size W W') : LnP X W' E D :=
  ⟨fun i x hx => by
    obtain ⟨g, c, e1, e2, e3⟩ := h.1 i x hx
    exact ⟨g, c, e1, e2, owns_below e3 k⟩, h.2⟩
theorem lnp_push {X i g cg nn Y : Nat} {W W' : World} {E : List (Sg × Value)} {D : Nat → List Int} {s : Sg} (h : LnP X W E D) (hk : ∀ {v : Value} {k : Nat} {ys : List Value}, W.ownsRow X 5 1 v k ys → W'.ownsRow X 5 1 v k ys) (hl : E.length = i) (hs : s.sz = (D i).length) (hn : nn = (D i).length) (hL : Lent W Y g cg (D i)) (hY : X ≤ Y) (ho : ∀ (j : Nat) (x : Sg × Value) (gg c : Nat), E[j]? = some x → x.2 = .slice (some ⟨gg, 0, .none⟩) (D j).length c → gg < Y) :
    LnP X W' (E ++ [(s, .slice (some ⟨g, 0, .none⟩) nn cg)]) D := by
  subst hl hn
  have hgY : Y ≤ g := own_block hL g rfl
  constructor
  · intro j x hx
    by_cases hj : j < E.length
    · rw [List.getElem?_append_left hj] at hx
      obtain ⟨g1, c1, e1, e2, e3⟩ := h.1 j x hx
      exact ⟨g1, c1, e1, e2, hk e3⟩
    · have hj2 : j = E.length := by
        have := (List.getElem?_eq_some_iff.1 hx).1
        rw [List.length_append, List.length_singleton] at this
        omega
      subst hj2
      rw [List.getElem?_append_right (Nat.le_refl _), Nat.sub_self] at hx
      simp only [List.getElem?_cons_zero, Option.some.injEq] at hx
      subst hx
      exact ⟨g, cg, rfl, hs, hk (own_mono hL hY)⟩
  · intro a b x y g1 c1 g2 c2 hx hy hab e1 e2
    have hb : b < E.length + 1 := by
      have := (List.getElem?_eq_some_iff.1 hy).1
      rwa [List.length_append, List.length_singleton] at this
    rw [List.getElem?_append_left (by omega)] at hx
    by_cases hbl : b < E.length
    · rw [List.getElem?_append_left hbl] at hy
      exact h.2 a b x y g1 c1 g2 c2 hx hy hab e1 e2
    · have hb2 : b = E.length := by omega
      subst hb2
      rw [List.getElem?_append_right (Nat.le_refl _), Nat.sub_self] at hy
      simp only [List.getElem?_cons_zero, Option.some.injEq] at hy
      subst hy
      injection e2 with e2
      injection e2 with e2
      injection e2 with e2
      have := ho a x g1 c1 hx e1
      omega
/-- What the law's copy comes to, marks and all. -/
def Tw2P (w : World) (en : Int) (B : Nat → Int) (G : List Sg) (D : Nat → List Int) (m : Nat) (e : Ending) (w' : World) : Prop := ∃ sv E, e = .returned (.agg #[.int .u64 en, sv]) ∧ w'.ownsRow w.heap.size 54 4 sv E.length (flatE E) ∧ (∀ x ∈ E, w'.ownsRow w.heap.size 5 1 x.2 x.1.sz (by8 (byt B x.1))) ∧ LnP w.heap.size w' E D ∧ E.map (·.1) = G ∧ Below w.heap.size w w'
set_option maxHeartbeats 4000000 in
set_option maxRecDepth 100000 in
theorem twin2_any {w : World} {q : Option Addr} {m c : Nat} {S : Nat → Sr} {D : Nat → List Int} (h : Arg w q m c S D) (hm : m ≤ 1000) (hz : sumN S m ≤ 400000) (en : Int) (G : List Sg) (B : Nat → Int) (hG : G.length = m) (hGi : ∀ i s, G[i]? = some s → s.va = (S i).va ∧ s.fl = (S i).fl ∧ s.mem = (S i).mem ∧ s.sz = (S i).n ∧ byt B s = D i) :
    Calls Tryd.prog 6 #[.agg #[.int .u64 en, .slice q m c]] w fun e w' => Tw2P w en B G D m e w' := by
  have HG : Hid (Arg w q m c S D) := h
  have hc := h.mc
  clear h
  obtain ⟨j1, hk0, hkz, hk1, hk2⟩ := info59
  have HJ : Hid (Tryd.prog.info? 54 = some j1 ∧ j1.zero = some (.agg #[.int .u64 0, .int .u32 0, .slice .none 0 0, .int .u64 0]) ∧ j1.size = 4 ∧ j1.bytes = 48) := ⟨hk0, hkz, hk1, hk2⟩
  clear hk0 hkz hk1 hk2
  go_enter Tryd.func6, Tryd.ntmps6
  go_upto_region 2 with fail
  have HT0 : Hid (Tw w (((w.alloc (.cells #[.int .u64 en, .slice q m c] 25)).alloc (.cells #[.int .u64 0, .slice .none 0 0] 25)).alloc (.cells #[.int .u64 en, .slice .none 0 0] 25)) en (.slice q m c) B [] (.slice .none 0 0)) := by
    have s1 : (w.alloc (.cells #[.int .u64 en, .slice q m c] 25)).heap.size = w.heap.size + 1 := World.size_alloc ..
    have s2 : ((w.alloc (.cells #[.int .u64 en, .slice q m c] 25)).alloc (.cells #[.int .u64 0, .slice .none 0 0] 25)).heap.size = w.heap.size + 2 := by rw [World.size_alloc, s1]
    refine ⟨?_, ?_, ?_, ?_, ?_, World.ownsRow_nil _ _ _ _, (fun x hx => nomatch hx), (((Below.refl _ _).alloc (Nat.le_refl _) _).alloc (by rw [s1]; omega) _).alloc (by rw [s2]; omega) _, by rw [World.size_alloc, s2]; omega⟩
    · rw [World.cell?_alloc_past _ _ _ (by rw [s2]; show w.heap.size < _; omega), World.cell?_alloc_past _ _ _ (by rw [s1]; show w.heap.size < _; omega), World.cell?_alloc_at _ _ _ _ rfl]
      rfl
    · rw [Below.heap_alloc _ _ _ (by rw [s2]; omega)]
      have := heap_new (w.alloc (.cells #[.int .u64 en, .slice q m c] 25)) (.cells #[.int .u64 0, .slice .none 0 0] 25)
      rwa [s1] at this
    · rw [World.cell?_alloc_at _ _ _ _ s2.symm]
      rfl
    · rw [World.cell?_alloc_at _ _ _ _ s2.symm]
      rfl
    · have := World.frozen?_alloc_new ((w.alloc (.cells #[.int .u64 en, .slice q m c] 25)).alloc (.cells #[.int .u64 0, .slice .none 0 0] 25)) #[.int .u64 en, .slice .none 0 0] 25 1
      rwa [s2] at this
  have e2 : w.heap.size + 1 + 1 = w.heap.size + 2 := rfl
  rw [e2]
  clear e2
  generalize (((w.alloc (.cells #[.int .u64 en, .slice q m c] 25)).alloc (.cells #[.int .u64 0, .slice .none 0 0] 25)).alloc (.cells #[.int .u64 en, .slice .none 0 0] 25)) = W1 at *
  go_wp2_with fail
  go_loopw [4] (fun k wr => ∃ i : Nat, i ≤ m ∧ k = .int .i64 i ∧ Hid (∃ sv E, Tw w wr en (.slice q m c) B E sv ∧ E.map (·.1) = G.take i ∧ LnP (w.heap.size + 3) wr E D)) (fun k _ => (m - intOf k).toNat)
  case atStart => exact ⟨0, by omega, rfl, _, _, HT0.out, rfl, ⟨fun i x hx => (nomatch hx), fun i j x y g c g' c' hx => (nomatch hx)⟩⟩
  case round =>
    obtain ⟨i, hi, rfl, HE⟩ := hrel
    obtain ⟨sv, E, hT, hEG, hEs⟩ := HE.out
    have hEl : E.length = i := by
      have := congrArg List.length hEG
      rw [List.length_map, List.length_take] at this
      omega
    have HEl : Hid (E.length = i) := hEl
    have hEb : E.length ≤ 1000 := by omega
    clear hEl
    have HTw : Hid (Tw w wr en (.slice q m c) B E sv) := hT
    have HEG : Hid (E.map (·.1) = G.take i) := hEG
    have HES : Hid (LnP (w.heap.size + 3) wr E D) := hEs
    have c1 := hT.e1
    clear hEG hEs hT HE
    by_cases hlt : i < m
    · have g0 : (i : Int) < m := by omega
      obtain ⟨b, o, rfl, a0, a1, a2, a3⟩ := (HG.out.below HTw.out.be).seg hlt
      obtain ⟨s, hs⟩ : ∃ s, G[i]? = some s := ⟨G[i]'(by omega), List.getElem?_eq_getElem (by omega)⟩
      obtain ⟨s1, s2, s3, s4, s5⟩ := hGi i s hs
      have hb := HG.out.nb i hlt
      have HV1 : Hid (Below wr.heap.size wr (wr.alloc (.cells #[.int .u64 (S i).va, .int .u32 (S i).fl, .slice (S i).q (S i).n (S i).c, .int .u64 (S i).mem] 54))) := (Below.refl _ _).alloc (Nat.le_refl _) _
      have HC1 : Hid (C4 (wr.alloc (.cells #[.int .u64 (S i).va, .int .u32 (S i).fl, .slice (S i).q (S i).n (S i).c, .int .u64 (S i).mem] 54)) wr.heap.size (.int .u64 (S i).va) (.int .u32 (S i).fl) (.slice (S i).q (S i).n (S i).c) (.int .u64 (S i).mem)) := C4.new _ _ _ _ _ _
      have hsz1 : (wr.alloc (.cells #[.int .u64 (S i).va, .int .u32 (S i).fl, .slice (S i).q (S i).n (S i).c, .int .u64 (S i).mem] 54)).heap.size = wr.heap.size + 1 := World.size_alloc ..
      go_upto_region 6 with fail
      clear a0 a1 a2 a3 c1
      generalize (wr.alloc (.cells #[.int .u64 (S i).va, .int .u32 (S i).fl, .slice (S i).q (S i).n (S i).c, .int .u64 (S i).mem] 54)) = V1 at *
      have k2 := HC1.out.c
      have c14 := lend_any ((HG.out.below (HTw.out.be.trans (HV1.out.mono HTw.out.be.size))).dat i hlt) hb
      go_upto_region 7 with (go_at_call 15; refine c14.mono ?_; rintro _ V2 ⟨g, cg, rfl, hln, hb2⟩; have f2 := (HC1.out.below hb2).f 2; have kk2 := (HC1.out.below hb2).c)
      have hB3 : Below wr.heap.size wr (V2.setCell ⟨wr.heap.size, 2, .none⟩ (.slice (some ⟨g, 0, .none⟩) (S i).n cg)) := (HV1.out.trans (hb2.mono HV1.out.size)).setCell (p := ⟨wr.heap.size, 2, .none⟩) (Nat.le_refl _) _
      have HC2 : Hid (C4 V2 wr.heap.size (.int .u64 (S i).va) (.int .u32 (S i).fl) (.slice (S i).q (S i).n (S i).c) (.int .u64 (S i).mem)) := HC1.out.below hb2
      have HC3 : Hid (C4 (V2.setCell ⟨wr.heap.size, 2, .none⟩ (.slice (some ⟨g, 0, .none⟩) (S i).n cg)) wr.heap.size (.int .u64 (S i).va) (.int .u32 (S i).fl) (.slice (some ⟨g, 0, .none⟩) (S i).n cg) (.int .u64 (S i).mem)) :=
        ⟨(World.cell?_setCell_other _ _ _ _ (by simp)).trans HC2.out.a, (World.cell?_setCell_other _ _ _ _ (by simp)).trans HC2.out.b, World.cell?_setCell_same' _ _ _ (by rw [HC2.out.c]; rfl), (World.cell?_setCell_other _ _ _ _ (by simp)).trans HC2.out.d, fun k => (World.frozen?_setCell ..).trans (HC2.out.f k)⟩
      have HD3 : Hid ((V2.setCell ⟨wr.heap.size, 2, .none⟩ (.slice (some ⟨g, 0, .none⟩) (S i).n cg)).ownsRow (w.heap.size + 3) 5 1 (.slice (some ⟨g, 0, .none⟩) (S i).n cg) s.sz (by8 (byt B s))) := by
        have h1 := lent_own hln
        have e1 : (D i).length = (S i).n := ((HG.out.dat i hlt)).1
        rw [e1] at h1
        rw [s4, s5]
        exact own_mono (ownsRow_setCell_below (a := ⟨wr.heap.size, 2, .none⟩) h1 (by show wr.heap.size < V1.heap.size; omega) _) (by have := HTw.out.hx; omega)
      have HT3 : Hid (Tw w (V2.setCell ⟨wr.heap.size, 2, .none⟩ (.slice (some ⟨g, 0, .none⟩) (S i).n cg)) en (.slice (some ⟨b, o, .none⟩) m c) B E sv) := HTw.out.below hB3
      have HLn3 : Hid (LnP (w.heap.size + 3) (V2.setCell ⟨wr.heap.size, 2, .none⟩ (.slice (some ⟨g, 0, .none⟩) (S i).n cg)) E D) := HES.out.below hB3
      have HLt3 : Hid (Lent (V2.setCell ⟨wr.heap.size, 2, .none⟩ (.slice (some ⟨g, 0, .none⟩) (S i).n cg)) V1.heap.size g cg (D i)) := ownsRow_setCell_below (a := ⟨wr.heap.size, 2, .none⟩) hln (by show wr.heap.size < V1.heap.size; omega) _
      have HWr : Hid (∀ (j : Nat) (x : Sg × Value) (gg c : Nat), E[j]? = some x → x.2 = .slice (some ⟨gg, 0, .none⟩) (D j).length c → gg < wr.heap.size) := fun j x gg c hx hv => by
        obtain ⟨g', c', e', _, hL⟩ := HES.out.1 j x hx
        rw [hv] at e'
        injection e' with e'
        injection e' with e'
        injection e' with e'
        rw [e']
        exact own_lt hL
      clear f2 kk2 k2 c14 hln hb2 hB3
      generalize (V2.setCell ⟨wr.heap.size, 2, .none⟩ (.slice (some ⟨g, 0, .none⟩) (S i).n cg)) = V3 at *
      obtain ⟨sq, scp, rfl, hs1, hs2, _⟩ := own_form HT3.out.own
      have m1 := HT3.out.f1
      have m2 := HC3.out.a
      have m3 := HC3.out.b
      have m4 := HC3.out.c
      have m5 := HC3.out.d
      have hz3 := HT3.out.hx
      go_wp2_with (first | (at_builtin; refine wpList_append_own _ rfl _ _ 23 rfl (w.heap.size + 3) 54 j1 (.agg #[.int .u64 0, .int .u32 0, .slice .none 0 0, .int .u64 0]) 4 48 Tryd.underlying23 HJ.out.1 HJ.out.2.1 HJ.out.2.2.1 HJ.out.2.2.2 rfl (by decide) (.slice sq E.length scp) E.length (flatE E) rfl (HT3.out.own.alloc _) ⟨V3.heap.size, 0, .none⟩ 1 1 [.int .u64 (S i).va, .int .u32 (S i).fl, (.slice (some ⟨g, 0, .none⟩) (S i).n cg), .int .u64 (S i).mem] rfl rfl (cell4_new V3 _ _ _ _ _) (by simp [Value.oneCell']) (by unfold maxLen; omega) (by omega) (by simp only [World.size_alloc]; omega) ?_; intro v' w5 hown5 hgr5 _; obtain ⟨vq, vc, hv', _, _, _⟩ := own_form hown5; subst hv'; have hpush := HT3.out.push HD3.out (by rw [s1, s2, s3]; exact hown5) hgr5; have p1 := hpush.1; have p2 := hpush.2.1; have HLn5 : Hid (LnP (w.heap.size + 3) (w5.setCell ⟨w.heap.size + 2, 1, .none⟩ (.slice vq (E.length + 1) vc)) (E ++ [(s, (.slice (some ⟨g, 0, .none⟩) (S i).n cg))]) D) := lnp_push HLn3.out (fun hv => HT3.out.keep HD3.out (by rw [s1, s2, s3]; exact hown5) hgr5 hv) HEl.out (show s.sz = (D i).length by rw [s4]; exact ((HG.out.dat i hlt)).1.symm) (show (S i).n = (D i).length from ((HG.out.dat i hlt)).1.symm) HLt3.out (by have := HTw.out.hx; omega) (fun j x gg c hx hv => by have := HWr.out j x gg c hx hv; omega); have HP5 : Hid (Tw w (w5.setCell ⟨w.heap.size + 2, 1, .none⟩ (.slice vq (E.length + 1) vc)) en (.slice (some ⟨b, o, .none⟩) m c) B (E ++ [(s, (.slice (some ⟨g, 0, .none⟩) (S i).n cg))]) (.slice vq (E.length + 1) vc)) := hpush.2.2; clear hpush hown5 hgr5) | fail)
      refine ⟨⟨i + 1, by omega, by simp, _, _, HP5.out, ?_, ?_⟩, by simp [intOf]; omega⟩
      · rw [List.map_append, HEG.out, List.take_add_one, hs]
        rfl
      · exact HLn5.out
    · have he : i = m := by omega
      have hn9 : ¬ ((i : Int) < m) := by omega
      have HGl : Hid (E.map (·.1) = G) := by
        have := HEG.out
        rw [he, ← hG, List.take_length] at this
        exact this
      obtain ⟨sq, scp, rfl, hs1, hs2, _⟩ := own_form HTw.out.own
      have d0 := HTw.out.f0
      have d1 := HTw.out.f1
      have t0 : wr.cell? ⟨w.heap.size + 1, 0, .none⟩ = some (.int .u64 0) := by simp [World.cell?, HTw.out.r0]
      have t1 : wr.cell? ⟨w.heap.size + 1, 1, .none⟩ = some (.slice .none 0 0) := by simp [World.cell?, HTw.out.r0]
      have f0 : wr.frozen? ⟨w.heap.size + 1, 0, .none⟩ = false := by simp [World.frozen?, HTw.out.r0]
      have f1 : wr.frozen? ⟨w.heap.size + 1, 1, .none⟩ = false := by simp [World.frozen?, HTw.out.r0]
      go_wp2_with fail
      have g0 : (wr.setCell ⟨w.heap.size + 1, 0, .none⟩ (.int .u64 en)).cell? ⟨w.heap.size + 1, 0, .none⟩ = some (.int .u64 en) := World.cell?_setCell_same' _ _ _ (by rw [t0]; rfl)
      have g1 : (wr.setCell ⟨w.heap.size + 1, 0, .none⟩ (.int .u64 en)).cell? ⟨w.heap.size + 1, 1, .none⟩ = some (.slice .none 0 0) := (World.cell?_setCell_other _ _ _ _ (by simp)).trans t1
      have h0 : ((wr.setCell ⟨w.heap.size + 1, 0, .none⟩ (.int .u64 en)).setCell ⟨w.heap.size + 1, 1, .none⟩ (.slice sq E.length scp)).cell? ⟨w.heap.size + 1, 0, .none⟩ = some (.int .u64 en) := (World.cell?_setCell_other _ _ _ _ (by simp)).trans g0
      have h1 : ((wr.setCell ⟨w.heap.size + 1, 0, .none⟩ (.int .u64 en)).setCell ⟨w.heap.size + 1, 1, .none⟩ (.slice sq E.length scp)).cell? ⟨w.heap.size + 1, 1, .none⟩ = some (.slice sq E.length scp) := World.cell?_setCell_same' _ _ _ (by rw [g1]; rfl)
      have ko : ∀ {v : Value} {e sz k : Nat} {ys : List Value}, wr.ownsRow (w.heap.size + 3) e sz v k ys → ((wr.setCell ⟨w.heap.size + 1, 0, .none⟩ (.int .u64 en)).setCell ⟨w.heap.size + 1, 1, .none⟩ (.slice sq E.length scp)).ownsRow w.heap.size e sz v k ys := fun {v e sz k ys} hv =>
        own_mono (ownsRow_setCell_below (a := ⟨w.heap.size + 1, 1, .none⟩) (ownsRow_setCell_below (a := ⟨w.heap.size + 1, 0, .none⟩) hv (by show w.heap.size + 1 < _; omega) _) (by show w.heap.size + 1 < _; omega) _) (by omega)
      have hbe : Below w.heap.size w ((wr.setCell ⟨w.heap.size + 1, 0, .none⟩ (.int .u64 en)).setCell ⟨w.heap.size + 1, 1, .none⟩ (.slice sq E.length scp)) := (HTw.out.be.setCell (p := ⟨w.heap.size + 1, 0, .none⟩) (by show w.heap.size ≤ w.heap.size + 1; omega) _).setCell (p := ⟨w.heap.size + 1, 1, .none⟩) (by show w.heap.size ≤ w.heap.size + 1; omega) _
      have hfin : ∀ V : World, V = ((wr.setCell ⟨w.heap.size + 1, 0, .none⟩ (.int .u64 en)).setCell ⟨w.heap.size + 1, 1, .none⟩ (.slice sq E.length scp)) → Tw2P w en B G D m (.returned (.agg #[.int .u64 en, .slice sq E.length scp])) V := fun V hV => by
        subst hV
        exact ⟨_, E, rfl, ko HTw.out.own, fun x hx => ko (HTw.out.dat x hx), ⟨fun j x hx => by
          obtain ⟨g, c, e1, e2, e3⟩ := HES.out.1 j x hx
          exact ⟨g, c, e1, e2, ko e3⟩, HES.out.2⟩, HGl.out, hbe⟩
      have hfin := hfin _ rfl
      generalize ((wr.setCell ⟨w.heap.size + 1, 0, .none⟩ (.int .u64 en)).setCell ⟨w.heap.size + 1, 1, .none⟩ (.slice sq E.length scp)) = V9 at *
      have hr9 : V9.rangeAt (w.heap.size + 1) 0 [.int .u64 en, .slice sq E.length scp] := by
        intro j v hj
        rw [Nat.zero_add]
        match j, hj with
        | 0, hj => injection hj with hj; subst hj; exact h0
        | 1, hj => injection hj with hj; subst hj; exact h1
      have hld := run_loadVar_mid (P := Tryd.prog) V9 (w.heap.size + 1) 0 25 _ _ hr9 Tryd.underlying25 rfl (by kernel_rfl)
      exact bodyPost_ret (v := .agg #[.int .u64 en, .slice sq E.length scp]) (results_cell_any (p := 2) (ty := 25) rfl _ _ ⟨w.heap.size + 1, 0, .none⟩ _ rfl hld) rfl hfin
end Go.Proofs.YtloldhcljdmofaaDoor
