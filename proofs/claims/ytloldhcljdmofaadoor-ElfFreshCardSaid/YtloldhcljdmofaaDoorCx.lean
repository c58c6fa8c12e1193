import Derived.Test.YtloldhcljdmofaaDoorVd
import Derived.Test.YtloldhcljdmofaaDoorPg5n
import Derived.Test.YtloldhcljdmofaaDoorRq1
namespace Go.Proofs.YtloldhcljdmofaaDoor
open Go.RowKit
set_option linter.unusedVariables false
set_option linter.unusedSimpArgs false
/-- An error with its fault. -/
def ErrR (w : World) (v : Value) (a r : Int) : Prop := (r ≠ 0 ∧ FaultIn w 0 v a r) ∨ (r = 0 ∧ v = .nilIface)
theorem ErrR.below {w w' : World} {v : Value} {a r : Int} (h : ErrR w v a r) (b : Below w.heap.size w w') : ErrR w' v a r := by
  rcases h with ⟨h0, h⟩ | h
  · exact .inl ⟨h0, h.below b⟩
  · exact .inr h
/-- What check comes to. -/
def ChP (w : World) (en : Int) (S : List Sg) (e : Ending) (w' : World) : Prop := Below w.heap.size w w' ∧ ∃ a r v, Vd en S a r ∧ e = .returned v ∧ ErrR w' v a r
theorem chp_fault {w V : World} {en a r : Int} {S : List Sg} (h : Vd en S a r) (hr : r ≠ 0) (hb : Below w.heap.size w (V.alloc (.cells #[.string ramB, .int .i64 a, .iface 61 (.int .i64 r)] 85))) : ChP w en S (.returned (.iface 59 (.pointer (some ⟨V.heap.size, 0, .none⟩)))) (V.alloc (.cells #[.string ramB, .int .i64 a, .iface 61 (.int .i64 r)] 85)) :=
  ⟨hb, a, r, _, h, rfl, .inl ⟨hr, faultIn_new V 0 a r (Nat.zero_le _)⟩⟩
set_option maxHeartbeats 4000000 in
set_option maxRecDepth 100000 in
theorem checkX_any {w : World} {X : Nat} {sv : Value} {E : List (Sg × Value)} {B : Nat → Int} (h : Prs w X sv E B) (hl : E.length ≤ 1000) (en : Int) (he : 0 ≤ en ∧ en < 18446744073709551616) :
    Calls Tryd.prog 20 #[.agg #[.int .u64 en, sv]] w fun e w' => ChP w en (E.map (·.1)) e w' := by
  obtain ⟨q, c, rfl, hc1, hc2, hq⟩ := own_form h.own
  have HP : Hid (Prs w X (.slice q E.length c) E B) := h
  have HB : Hid (Below w.heap.size w (w.alloc (.cells #[.int .u64 en, .slice q E.length c] 25))) := (Below.refl _ _).alloc (Nat.le_refl _) _
  have q0 : (w.alloc (.cells #[.int .u64 en, .slice q E.length c] 25)).cell? ⟨w.heap.size, 0, .none⟩ = some (.int .u64 en) := World.cell?_alloc_at _ _ _ _ rfl
  have q1 : (w.alloc (.cells #[.int .u64 en, .slice q E.length c] 25)).cell? ⟨w.heap.size, 1, .none⟩ = some (.slice q E.length c) := World.cell?_alloc_at _ _ _ _ rfl
  have hE : (E.map (·.1)).length = E.length := List.length_map ..
  clear h
  by_cases h0 : E.length = 0
  · rw [h0] at HB ⊢
    go_enter Tryd.func20, Tryd.ntmps20
    go_wp2_with (go_at_call 22; refine (refusal_any _ _ _).mono ?_; rintro _ _ ⟨rfl, rfl⟩)
    go_ret
    have hch := chp_fault (S := E.map (·.1)) (en := en) (.inl ⟨.inl (by omega), rfl, rfl⟩) (by decide) (HB.out.alloc HB.out.size _)
    rw [World.size_alloc] at hch
    exact hch
  · by_cases h8 : 8 < E.length
    · have h8i : (8 : Int) < E.length := by omega
      go_enter Tryd.func20, Tryd.ntmps20
      go_wp2_with (go_at_call 22; refine (refusal_any _ _ _).mono ?_; rintro _ _ ⟨rfl, rfl⟩)
      go_ret
      have hch := chp_fault (S := E.map (·.1)) (en := en) (.inl ⟨.inr (by omega), rfl, rfl⟩) (by decide) (HB.out.alloc HB.out.size _)
      rw [World.size_alloc] at hch
      exact hch
    · have h8i : ¬ (8 : Int) < E.length := by omega
      have h0i : ¬ (E.length : Int) = 0 := by omega
      have HQ0 : Hid _ := q0
      have HQ1 : Hid _ := q1
      go_enter Tryd.func20, Tryd.ntmps20
      go_upto_region 3 with fail
      clear q0
      generalize (w.alloc (.cells #[.int .u64 en, .slice q E.length c] 25)) = W1 at *
      go_wp2_with fail
      go_loopw [20] (fun a wr => ∃ i : Nat, i ≤ E.length ∧ a = .int .i64 i ∧ Hid (Gk (E.map (·.1)) i ∧ Below W1.heap.size W1 wr)) (fun a _ => (E.length - intOf a).toNat)
      case atStart => exact ⟨0, by omega, rfl, fun j x hj => by omega, Below.refl _ _⟩
      case round =>
        obtain ⟨i, hi, rfl, HR⟩ := hrel
        by_cases hlt : i < E.length
        · have g0 : (i : Int) < E.length := by omega
          obtain ⟨x, hx⟩ : ∃ x, E[i]? = some x := ⟨E[i], List.getElem?_eq_getElem hlt⟩
          have hxm : (E.map (·.1))[i]? = some x.1 := by rw [List.getElem?_map, hx]; rfl
          have HX : Hid ((E.map (·.1))[i]? = some x.1) := hxm
          have HP1 : Hid (Prs wr X (.slice q E.length c) E B) := HP.out.below (HB.out.trans (HR.out.2.mono HB.out.size))
          obtain ⟨g, dq, dc, rfl, hd, hd1, hd2, a0, a1, a2, a3⟩ := HP1.out.cells hx
          have hm := List.mem_of_getElem? hx
          have hv := HP1.out.va x hm
          have hf := HP1.out.fl x hm
          have hmm := HP1.out.mem x hm
          have hs := HP1.out.sz x hm
          have d1 : wr.cell? ⟨w.heap.size, 1, .none⟩ = some (.slice (some ⟨g, 0, .none⟩) E.length c) := (HR.out.2.cell (lt_of_cell HQ1.out)).trans HQ1.out
          have HB2 : Hid (Below wr.heap.size wr (wr.alloc (.cells #[.int .u64 x.1.va, .int .u32 x.1.fl, .slice dq x.1.sz dc, .int .u64 x.1.mem] 54))) := (Below.refl _ _).alloc (Nat.le_refl _) _
          have k0 : (wr.alloc (.cells #[.int .u64 x.1.va, .int .u32 x.1.fl, .slice dq x.1.sz dc, .int .u64 x.1.mem] 54)).cell? ⟨wr.heap.size, 0, .none⟩ = some (.int .u64 x.1.va) := World.cell?_alloc_at _ _ _ _ rfl
          have k1 : (wr.alloc (.cells #[.int .u64 x.1.va, .int .u32 x.1.fl, .slice dq x.1.sz dc, .int .u64 x.1.mem] 54)).cell? ⟨wr.heap.size, 1, .none⟩ = some (.int .u32 x.1.fl) := World.cell?_alloc_at _ _ _ _ rfl
          have k2 : (wr.alloc (.cells #[.int .u64 x.1.va, .int .u32 x.1.fl, .slice dq x.1.sz dc, .int .u64 x.1.mem] 54)).cell? ⟨wr.heap.size, 2, .none⟩ = some (.slice dq x.1.sz dc) := World.cell?_alloc_at _ _ _ _ rfl
          have k3 : (wr.alloc (.cells #[.int .u64 x.1.va, .int .u32 x.1.fl, .slice dq x.1.sz dc, .int .u64 x.1.mem] 54)).cell? ⟨wr.heap.size, 3, .none⟩ = some (.int .u64 x.1.mem) := World.cell?_alloc_at _ _ _ _ rfl
          have d2 : (wr.alloc (.cells #[.int .u64 x.1.va, .int .u32 x.1.fl, .slice dq x.1.sz dc, .int .u64 x.1.mem] 54)).cell? ⟨w.heap.size, 1, .none⟩ = some (.slice (some ⟨g, 0, .none⟩) E.length c) := (HB2.out.cell (lt_of_cell d1)).trans d1
          have HP2 : Hid (Prs (wr.alloc (.cells #[.int .u64 x.1.va, .int .u32 x.1.fl, .slice dq x.1.sz dc, .int .u64 x.1.mem] 54)) X (.slice (some ⟨g, 0, .none⟩) E.length c) E B) := HP1.out.below HB2.out
          clear d1
          go_upto_region 6 with fail
          generalize hW2 : (wr.alloc (.cells #[.int .u64 x.1.va, .int .u32 x.1.fl, .slice dq x.1.sz dc, .int .u64 x.1.mem] 54)) = W2 at *
          clear hW2 a0 a1 a2 a3
          have c17 := mayBe_any x.1.va x.1.fl x.1.sz x.1.mem (.slice dq x.1.sz dc) W2 hv hf ⟨by omega, by omega⟩ hmm ⟨_, _, _, rfl⟩
          cases hok : ok1 x.1.va x.1.fl x.1.sz x.1.mem with
          | false =>
            rw [hok] at c17
            have HK : Hid (ok1 x.1.va x.1.fl x.1.sz x.1.mem = false) := hok
            clear hok
            go_wp2_with (first | (go_at_call 40; refine c17.mono ?_; rintro _ W3 ⟨rfl, hW3⟩; have HB3 : Hid (Below W2.heap.size W2 W3) := hW3; clear hW3) | (go_at_call 22; refine (refusal_any _ _ _).mono ?_; rintro _ _ ⟨rfl, rfl⟩))
            go_ret
            have hb4 := HB.out.trans ((HR.out.2.trans ((HB2.out.trans (HB3.out.mono HB2.out.size)).mono HR.out.2.size)).mono HB.out.size)
            exact chp_fault (.inr ⟨by omega, by omega, .inl ⟨i, x.1, HX.out, HR.out.1, .inl ⟨HK.out, rfl, rfl⟩⟩⟩) (by decide) (hb4.alloc hb4.size _)
          | true =>
            rw [hok] at c17
            have HK : Hid (ok1 x.1.va x.1.fl x.1.sz x.1.mem = true) := hok
            clear hok
            go_upto_region 8 with (go_at_call 40; refine c17.mono ?_; rintro _ W3 ⟨rfl, hW3⟩; have HB3 : Hid (Below W2.heap.size W2 W3) := hW3; clear hW3)
            have e0 := (HB3.out.cell (lt_of_cell k0)).trans k0
            have e1 := (HB3.out.cell (lt_of_cell k1)).trans k1
            have e2 := (HB3.out.cell (lt_of_cell k2)).trans k2
            have e3 := (HB3.out.cell (lt_of_cell k3)).trans k3
            have e4 := (HB3.out.cell (lt_of_cell d2)).trans d2
            have HP3 : Hid (Prs W3 X (.slice (some ⟨g, 0, .none⟩) E.length c) E B) := HP2.out.below HB3.out
            clear k0 k1 k2 k3 d2 c17
            have hSg := HP3.out.pre (by omega) i hi (HR.out.1.gd HP3.out hi)
            have bd : Below W3.heap.size W3 W3.drew := (Below.refl _ _).drew
            have c18 := rises_any (hSg.below bd) (by rw [List.length_take]; omega) x.1.va x.1.fl x.1.mem dq x.1.sz dc
            have em : (E.take i).map (·.1) = (E.map (·.1)).take i := List.map_take
            rw [em] at c18
            clear hSg em
            have hid : 0 ≤ (i : Int) := by omega
            have hic : (i : Int) ≤ c := by omega
            have kS : (W3.drew.cell? ⟨w.heap.size, 1, .none⟩ = some (.slice (some ⟨g, 0, .none⟩) E.length c) ∧ W3.drew.cell? ⟨wr.heap.size, 0, .none⟩ = some (.int .u64 x.1.va) ∧ W3.drew.cell? ⟨wr.heap.size, 1, .none⟩ = some (.int .u32 x.1.fl) ∧ W3.drew.cell? ⟨wr.heap.size, 2, .none⟩ = some (.slice dq x.1.sz dc) ∧ W3.drew.cell? ⟨wr.heap.size, 3, .none⟩ = some (.int .u64 x.1.mem)) := ⟨(bd.cell (lt_of_cell e4)).trans e4, (bd.cell (lt_of_cell e0)).trans e0, (bd.cell (lt_of_cell e1)).trans e1, (bd.cell (lt_of_cell e2)).trans e2, (bd.cell (lt_of_cell e3)).trans e3⟩
            have HBd : Hid (Below W3.heap.size W3 W3.drew) := bd
            clear bd e0 e1 e2 e3 e4
            have HRI : Hid (∃ b, ris ((E.map (·.1)).take i) x.1.va = b) := ⟨_, rfl⟩
            generalize hri : ris ((E.map (·.1)).take i) x.1.va = rb at *
            have HI : Hid (ris ((E.map (·.1)).take i) x.1.va = rb) := hri
            clear hri HRI
            refine wp_region_held_drew (S := fun U2 => (U2.cell? ⟨w.heap.size, 1, .none⟩ = some (.slice (some ⟨g, 0, .none⟩) E.length c) ∧ U2.cell? ⟨wr.heap.size, 0, .none⟩ = some (.int .u64 x.1.va) ∧ U2.cell? ⟨wr.heap.size, 1, .none⟩ = some (.int .u32 x.1.fl) ∧ U2.cell? ⟨wr.heap.size, 2, .none⟩ = some (.slice dq x.1.sz dc) ∧ U2.cell? ⟨wr.heap.size, 3, .none⟩ = some (.int .u64 x.1.mem))) (by kernel_rfl) kS (fun hHeld => ?_)
            refine wpAnyH_take (i := 0) (v := (.pointer (some ⟨w.heap.size, 1, .none⟩))) rfl (by kernel_rfl) (by kernel_rfl) (by kernel_rfl) (fun _ _ _ h => h) (Or.inl ⟨by rfl, fun ww hSw => by (try dsimp only at hSw); go_simp⟩) (by assumption) ?_
            simp only [Act.put, List.setIfInBounds_toArray, List.set_cons_zero, List.set_cons_succ, List.getElem_toArray, List.getElem_cons_succ, List.getElem_cons_zero]
            refine wpAnyH_take (i := 1) (v := (.slice (some ⟨g, 0, .none⟩) E.length c)) rfl (by kernel_rfl) (by kernel_rfl) (by kernel_rfl) (fun _ _ _ h => h) (Or.inl ⟨by rfl, fun ww hSw => by (try dsimp only at hSw); go_simp⟩) (by assumption) ?_
            simp only [Act.put, List.setIfInBounds_toArray, List.set_cons_zero, List.set_cons_succ, List.getElem_toArray, List.getElem_cons_succ, List.getElem_cons_zero]
            refine wpAnyH_take (i := 2) (v := (.int .i64 i)) rfl (by kernel_rfl) (by kernel_rfl) (by kernel_rfl) (fun _ _ _ h => h) (Or.inl ⟨by rfl, fun ww hSw => by (try dsimp only at hSw); go_simp⟩) (by assumption) ?_
            simp only [Act.put, List.setIfInBounds_toArray, List.set_cons_zero, List.set_cons_succ, List.getElem_toArray, List.getElem_cons_succ, List.getElem_cons_zero]
            refine wpAnyH_take (i := 3) (v := (.slice (some ⟨g, 0, .none⟩) i c)) rfl (by kernel_rfl) (by kernel_rfl) (by kernel_rfl) (fun _ _ _ h => h) (Or.inl ⟨by rfl, fun ww hSw => by (try dsimp only at hSw); go_simp⟩) (by assumption) ?_
            simp only [Act.put, List.setIfInBounds_toArray, List.set_cons_zero, List.set_cons_succ, List.getElem_toArray, List.getElem_cons_succ, List.getElem_cons_zero]
            refine wpAnyH_take (i := 4) (v := (.agg #[.int .u64 x.1.va, .int .u32 x.1.fl, .slice dq x.1.sz dc, .int .u64 x.1.mem])) rfl (by kernel_rfl) (by kernel_rfl) (by kernel_rfl) (fun _ _ _ h => h) (Or.inl ⟨by rfl, fun ww hSw => by (try dsimp only at hSw); go_simp⟩) (by assumption) ?_
            simp only [Act.put, List.setIfInBounds_toArray, List.set_cons_zero, List.set_cons_succ, List.getElem_toArray, List.getElem_cons_succ, List.getElem_cons_zero]
            refine wpAnyH_ready (rs := [5]) (by kernel_rfl) (by simp) ?_
            refine AllReadyH.cons rfl (fun K hK => ?_) AllReadyH.nil
            go_simp
            go_at_call 41
            refine c18.mono ?_
            rintro _ W4 ⟨rfl, hW4⟩
            have kS4 : (W4.cell? ⟨w.heap.size, 1, .none⟩ = some (.slice (some ⟨g, 0, .none⟩) E.length c) ∧ W4.cell? ⟨wr.heap.size, 0, .none⟩ = some (.int .u64 x.1.va) ∧ W4.cell? ⟨wr.heap.size, 1, .none⟩ = some (.int .u32 x.1.fl) ∧ W4.cell? ⟨wr.heap.size, 2, .none⟩ = some (.slice dq x.1.sz dc) ∧ W4.cell? ⟨wr.heap.size, 3, .none⟩ = some (.int .u64 x.1.mem)) := ⟨(hW4.cell (lt_of_cell kS.1)).trans kS.1, (hW4.cell (lt_of_cell kS.2.1)).trans kS.2.1, (hW4.cell (lt_of_cell kS.2.2.1)).trans kS.2.2.1, (hW4.cell (lt_of_cell kS.2.2.2.1)).trans kS.2.2.2.1, (hW4.cell (lt_of_cell kS.2.2.2.2)).trans kS.2.2.2.2⟩
            have HB4 : Hid (Below W1.heap.size W1 W4) := HR.out.2.trans ((HB2.out.trans ((HB3.out.trans ((HBd.out.trans (hW4.mono HBd.out.size)).mono HB3.out.size)).mono HB2.out.size)).mono HR.out.2.size)
            refine hK.out _ _ kS4 (fun hHeld => ?_)
            clear hK K
            try simp only [Act.put, List.setIfInBounds_toArray, List.set_cons_zero, List.set_cons_succ, List.getElem_toArray, List.getElem_cons_succ, List.getElem_cons_zero]
            clear hW4 kS c18
            refine wpAnyH_take (i := 6) (v := (.bool (!rb))) rfl (by kernel_rfl) (by kernel_rfl) (by kernel_rfl) (fun _ _ _ h => h) (Or.inl ⟨by rfl, fun ww hSw => by (try dsimp only at hSw); go_simp⟩) (by assumption) ?_
            simp only [Act.put, List.setIfInBounds_toArray, List.set_cons_zero, List.set_cons_succ, List.getElem_toArray, List.getElem_cons_succ, List.getElem_cons_zero]
            refine wpAnyH_done (by kernel_rfl) ?_ _
            clear kS4
            cases rb with
            | false =>
              go_wp2_with (go_at_call 22; refine (refusal_any _ _ _).mono ?_; rintro _ _ ⟨rfl, rfl⟩)
              go_ret
              have hb5 := HB.out.trans (HB4.out.mono HB.out.size)
              exact chp_fault (.inr ⟨by omega, by omega, .inl ⟨i, x.1, HX.out, HR.out.1, .inr ⟨HK.out, HI.out, rfl, rfl⟩⟩⟩) (by decide) (hb5.alloc hb5.size _)
            | true =>
              go_wp2_with fail
              exact ⟨⟨i + 1, by omega, by simp, HR.out.1.succ HX.out HK.out HI.out, HB4.out⟩, by simp [intOf]; omega⟩
        · have he' : i = E.length := by omega
          have hn : ¬ ((i : Int) < E.length) := by omega
          subst he'
          have HPe : Hid (Prs wr X (.slice q E.length c) E B) := HP.out.below (HB.out.trans (HR.out.2.mono HB.out.size))
          have hSe := HPe.out.pre (by omega) E.length (Nat.le_refl _) (HR.out.1.gd HPe.out (Nat.le_refl _))
          rw [List.take_length] at hSe
          have c19 := hasEntry_any hSe (by omega) en he
          have d0 : wr.cell? ⟨w.heap.size, 0, .none⟩ = some (.int .u64 en) := (HR.out.2.cell (lt_of_cell HQ0.out)).trans HQ0.out
          have d1 : wr.cell? ⟨w.heap.size, 1, .none⟩ = some (.slice q E.length c) := (HR.out.2.cell (lt_of_cell HQ1.out)).trans HQ1.out
          clear hSe
          cases hh : hasE (E.map (·.1)) en with
          | false =>
            rw [hh] at c19
            have HH : Hid (hasE (E.map (·.1)) en = false) := hh
            clear hh
            go_wp2_with (first | (go_at_call 42; refine c19.mono ?_; rintro _ W4 ⟨rfl, hW4⟩; have HB4 : Hid (Below wr.heap.size wr W4) := hW4; clear hW4) | (go_at_call 22; refine (refusal_any _ _ _).mono ?_; rintro _ _ ⟨rfl, rfl⟩))
            go_ret
            have hb5 := HB.out.trans ((HR.out.2.trans (HB4.out.mono HR.out.2.size)).mono HB.out.size)
            have hgk : Gk (E.map (·.1)) (E.map (·.1)).length := by rw [hE]; exact HR.out.1
            exact chp_fault (.inr ⟨by omega, by omega, .inr (.inl ⟨hgk, HH.out, rfl, rfl⟩)⟩) (by decide) (hb5.alloc hb5.size _)
          | true =>
            rw [hh] at c19
            have HH : Hid (hasE (E.map (·.1)) en = true) := hh
            clear hh
            go_wp2_with (first | (go_at_call 42; refine c19.mono ?_; rintro _ W4 ⟨rfl, hW4⟩; have HB4 : Hid (Below wr.heap.size wr W4) := hW4; clear hW4) | fail)
            go_ret
            have hb5 := HB.out.trans ((HR.out.2.trans (HB4.out.mono HR.out.2.size)).mono HB.out.size)
            have hgk : Gk (E.map (·.1)) (E.map (·.1)).length := by rw [hE]; exact HR.out.1
            exact ⟨hb5, 0, 0, _, .inr ⟨by omega, by omega, .inr (.inr ⟨hgk, HH.out, rfl, rfl⟩)⟩, rfl, .inr ⟨rfl, rfl⟩⟩
end Go.Proofs.YtloldhcljdmofaaDoor
