import Derived.Test.YtblpdnchphhcaabDoorFm
import Derived.Deep.RegionLaw
namespace Go.Proofs.YtblpdnchphhcaabDoor
open Go.RowKit
set_option linter.unusedVariables false
set_option linter.unusedSimpArgs false
theorem Cns.setR2 {w : World} {b : Nat} {B : Nat → Int} {r h : Nat} (H : Cns w b B r h) (r' : Nat) : Cns (w.setCell ⟨b, 128, .none⟩ (.int .i64 r')) b B r' h :=
  ⟨fun i hi => cell_off (H.cb i hi) _ _ (by omega), H.froz _ _, cell_one H.c1 _, cell_off H.c2 _ _ (by decide), cell_off H.c3 _ _ (by decide), H.bb, H.h8⟩
/-- What a refused state comes to. -/
def BadC (w' : World) (e : Ending) : Prop := ∃ g, e = .returned (.tuple #[.pointer .none, .iface 56 (.pointer (some ⟨g, 0, .none⟩))]) ∧ w'.cell? ⟨g, 0, .none⟩ = some (.string ⟨#[99, 111, 110, 115, 111, 108, 101]⟩) ∧ w'.cell? ⟨g, 1, .none⟩ = some (.int .i64 0) ∧ w'.cell? ⟨g, 2, .none⟩ = some (.iface 57 (.int .i64 4))
/-- The bytes of a console that was laid down. -/
theorem ovr_two (B : Nat → Int) (rs ls : List Int) (h : rs.length + ls.length ≤ 128) (hf : rs.length = 128 → ls = []) : ∀ j x, (rs ++ ls)[j]? = some x → ovrA (ovr B rs) (rat rs.length) ls j = x := by
  intro j x hx
  have hj := (List.getElem?_eq_some_iff.1 hx).1
  rw [List.length_append] at hj
  by_cases hl : j < rs.length
  · rw [List.getElem?_append_left hl] at hx
    have : ovr B rs j = x := by unfold ovr; rw [if_pos hl, List.getD_eq_getElem?_getD, hx]; rfl
    unfold ovrA
    rw [if_neg, this]
    unfold rat
    split
    · rename_i h8
      rw [hf h8.symm]
      simp
    · omega
  · have hne : rs.length ≠ 128 := fun e => by have := hf e; subst this; simp at hj; omega
    rw [List.getElem?_append_right (by omega)] at hx
    have er : rat rs.length = rs.length := by unfold rat; rw [if_neg (by omega)]
    unfold ovrA
    rw [er, if_pos (by omega), List.getD_eq_getElem?_getD, hx]
    rfl
theorem okC_le {rs ls : List Int} (h : okC rs ls = true) : rs.length + ls.length ≤ 128 ∧ (rs.length = 128 → ls = []) := by
  unfold okC at h
  simp only [Bool.and_eq_true, decide_eq_true_eq, Bool.or_eq_true] at h
  refine ⟨h.1.1.1, fun e => ?_⟩
  have := h.1.1.1
  exact List.eq_nil_of_length_eq_zero (by omega)
set_option maxHeartbeats 4000000 in
theorem from_any {w : World} {p q : Option Addr} {n c m d : Nat} {rs ls : List Int} (hR : Byt w p n c rs) (hL : Byt w q m d ls) (hr : ∀ x ∈ rs, 0 ≤ x ∧ x < 256) (hl : ∀ x ∈ ls, 0 ≤ x ∧ x < 256) (hs : n + m ≤ 9223372036854775807) (hd : Dd w) :
    Calls Tryd.prog 6 #[.agg #[.slice p n c, .slice q m d]] w fun e w' => Below w.heap.size w w' ∧
      ((okC rs ls = false ∧ BadC w' e) ∨ (okC rs ls = true ∧ ∃ b, w.heap.size ≤ b ∧ e = .returned (.tuple #[.pointer (some ⟨b, 0, .none⟩), .nilIface]) ∧ Con w' b rs ls)) := by
  have e1 := hR.1
  have e2 := hL.1
  have HR : Hid (Byt w p n c rs) := hR
  have HL : Hid (Byt w q m d ls) := hL
  have Hr : Hid (∀ x ∈ rs, 0 ≤ x ∧ x < 256) := hr
  have Hl : Hid (∀ x ∈ ls, 0 ≤ x ∧ x < 256) := hl
  have HD : Hid (Dd w) := hd
  have E1 : Hid (rs.length = n) := e1
  have E2 : Hid (ls.length = m) := e2
  clear hR hL hr hl hd e1 e2
  go_enter Tryd.func6, Tryd.ntmps6
  go_upto_region 1 with fail
  have hs1 := sb_new w p n c q m d
  have hb1 := Trn.new w (.cells #[.slice p n c, .slice q m d] 24)
  have hz1 : (w.alloc (.cells #[.slice p n c, .slice q m d] 24)).heap.size = w.heap.size + 1 := by simp
  generalize w.alloc (.cells #[.slice p n c, .slice q m d] 24) = W1 at *
  have H1 : Hid (Sb W1 w.heap.size p n c q m d ∧ Below w.heap.size w W1 ∧ W1.heap.size = w.heap.size + 1) := ⟨hs1, hb1, hz1⟩
  clear hs1 hb1 hz1
  refine wp_region_lit ?_
  refine wpList_load_mid rfl 24 (.tmp 1) rfl w.heap.size 0 (by rfl) _ _ H1.out.1.rangeAt Tryd.underlying24 rfl (by kernel_rfl) ?_
  simp only [Act.put, List.setIfInBounds_toArray, List.set_cons_succ, List.set_cons_zero]
  go_wp2_with fail
  have c29 := canBe_any (byt_below HR.out H1.out.2.1) (byt_below HL.out H1.out.2.1) Hr.out Hl.out hs (HD.out.below H1.out.2.1)
  refine c29.mono ?_
  rintro e W2 ⟨rfl, hb2⟩
  have H2 : Hid (Sb W2 w.heap.size p n c q m d ∧ Below w.heap.size w W2 ∧ w.heap.size < W2.heap.size) := ⟨H1.out.1.below hb2, H1.out.2.1.trans (hb2.mono (by have := H1.out.2.2; omega)), by have := H1.out.2.2; have := hb2.size; omega⟩
  clear c29 hb2 H1
  cases hok : okC rs ls with
  | false =>
    have OK : Hid (okC rs ls = false) := hok
    clear hok
    go_wp2
    go_ret2
    refine ⟨?_, .inl ⟨OK.out, _, rfl, ?_, ?_, ?_⟩⟩
    · exact H2.out.2.1.alloc (Nat.le_of_lt H2.out.2.2) _
    all_goals (rw [World.cell?_alloc_at _ _ _ _ rfl]; rfl)
  | true =>
    have HO : Hid (n + m ≤ 128 ∧ (n = 128 → ls = [])) := by have := okC_le hok; rw [E1.out, E2.out] at this; exact this
    have OK : Hid (okC rs ls = true) := hok
    clear hok hs
    go_wp2_with fail
    refine (new_any W2).mono ?_
    rintro e W3 ⟨rfl, hC, hb3⟩
    have H3 : Hid (Con W3 W2.heap.size [] [] ∧ Sb W3 w.heap.size p n c q m d ∧ Below w.heap.size w W3 ∧ w.heap.size < W2.heap.size ∧ W2.heap.size < W3.heap.size) := ⟨hC, H2.out.1.below hb3, H2.out.2.1.trans (hb3.mono (Nat.le_of_lt H2.out.2.2)), H2.out.2.2, hC.lt⟩
    clear hC hb3 H2
    have hwb : w.heap.size < W2.heap.size := H3.out.2.2.2.1
    generalize W2.heap.size = b at *
    obtain ⟨B, hB, _⟩ := H3.out.1
    have HB : Hid (Cns W3 b B 0 0) := hB
    clear hB
    have hn : n ≤ 128 := by have := HO.out; omega
    have BY : Hid (Byt W3.drew p n c rs) := byt_below HR.out ⟨H3.out.2.2.1.os, H3.out.2.2.1.tape, H3.out.2.2.1.output, H3.out.2.2.1.size, H3.out.2.2.1.block⟩
    have M1 : Hid (n = Nat.min n 128) := (Nat.min_eq_left hn).symm
    have s2 : Hid (∀ j, j < n → (W3.drew.cell? ⟨b, 0 + j, .none⟩).isSome = true) := fun j hj => by
      rw [World.cell?_drew, HB.out.cb (0 + j) (by omega)]
      rfl
    have s3 : Hid (∀ j, j < n → W3.drew.frozen? ⟨b, 0 + j, .none⟩ = false) := fun j hj => HB.out.fb _
    have HK : Hid (Cns (W3.drew.setCells b 0 (by8 (rs.take n))) b (ovr B rs) 0 0 ∧ Trn b W3 (W3.drew.setCells b 0 (by8 (rs.take n)))) := by
      rw [List.take_of_length_le (by rw [E1.out]; omega)]
      exact ⟨Cns.over (HB.out.drewN 1) _ (by rw [E1.out]; omega) Hr.out, (Trn.drew b W3).trans (Trn.setCells _ _ _ _)⟩
    have ra := row_all b
    have a0 := H3.out.2.1.c0
    have x1 := HK.out.1.c1
    have x2 := HK.out.1.fb 128
    go_upto_region 4 with fail
    go_region_law (refine step_copy_byt rfl (.tmp 17) (.tmp 19) rfl b 0 128 128 p n c rs (by simp [Act.eval, Act.put]) (by simp [Act.eval, Act.put]) BY.out n M1.out s2.out s3.out ?_)
    have HK5 : Hid (Cns ((W3.drew.setCells b 0 (by8 (rs.take n))).setCell ⟨b, 128, .none⟩ (.int .i64 n)) b (ovr B rs) n 0 ∧ Trn b W3 ((W3.drew.setCells b 0 (by8 (rs.take n))).setCell ⟨b, 128, .none⟩ (.int .i64 n))) := ⟨HK.out.1.setR2 n, HK.out.2.trans (Trn.setCell _ _ _ _)⟩
    generalize (W3.drew.setCells b 0 (by8 (rs.take n))).setCell ⟨b, 128, .none⟩ (.int .i64 n) = W5 at *
    clear x1 x2 HK s2 s3 M1 BY HB a0
    have H5 : Hid (Sb W5 w.heap.size p n c q m d ∧ Below w.heap.size w W5 ∧ Byt W5.drew q m d ls) := by
      have h := H3.out
      have t := HK5.out.2
      refine ⟨h.2.1.keep (Chg.ofTrn t) (by show ¬ w.heap.size = b; omega), h.2.2.1.trans (t.toBelow (by omega) h.2.2.1.size), ?_⟩
      have : Byt W3 q m d ls := byt_below HL.out h.2.2.1
      exact (Trn.drew b W5).byt (t.byt this (fun h0 => (NB.of (by omega) HL.out h0).at)) (fun h0 => (NB.of (by omega) HL.out h0).at)
    have hm : m ≤ 128 - n := by have := HO.out; omega
    have hrat : rat n + m ≤ 128 := by
      unfold rat
      split
      · omega
      · omega
    have M1 : Hid (m = Nat.min m (128 - n)) := (Nat.min_eq_left hm).symm
    have s2 : Hid (∀ j, j < m → (W5.drew.cell? ⟨b, rat n + j, .none⟩).isSome = true) := fun j hj => by
      rw [World.cell?_drew, HK5.out.1.cb (rat n + j) (by omega)]
      rfl
    have s3 : Hid (∀ j, j < m → W5.drew.frozen? ⟨b, rat n + j, .none⟩ = false) := fun j hj => HK5.out.1.fb _
    have HK : Hid (Cns (W5.drew.setCells b (rat n) (by8 (ls.take m))) b (ovrA (ovr B rs) (rat n) ls) n 0 ∧ Trn b W3 (W5.drew.setCells b (rat n) (by8 (ls.take m)))) := by
      rw [List.take_of_length_le (by rw [E2.out]; omega)]
      exact ⟨Cns.overA (HK5.out.1.drewN 1) _ _ (by rw [E2.out]; omega) Hl.out, HK5.out.2.trans ((Trn.drew b W5).trans (Trn.setCells _ _ _ _))⟩
    have rl := row_l b n n rfl hn
    have a1 := H5.out.1.c1
    have y1 := HK5.out.1.c1
    have x1 := HK.out.1.c1
    have x2 := HK.out.1.c2
    have x3 := HK.out.1.fb 129
    have hnm : n + m ≤ 128 := HO.out.1
    have HH : Hid (Cns ((W5.drew.setCells b (rat n) (by8 (ls.take m))).setCell ⟨b, 129, .none⟩ (.int .i64 (IntKind.i64.wrap ((n : Int) + m)))) b (ovrA (ovr B rs) (rat n) ls) n (n + m) ∧ Trn b W3 ((W5.drew.setCells b (rat n) (by8 (ls.take m))).setCell ⟨b, 129, .none⟩ (.int .i64 (IntKind.i64.wrap ((n : Int) + m))))) := by
      have := HK.out.1.setH (n + m) (by omega) (by omega)
      rw [show ((n + m : Nat) : Int) = IntKind.i64.wrap ((n : Int) + m) by rw [IntKind.wrap_i64]; omega] at this
      exact ⟨this, HK.out.2.trans (Trn.setCell _ _ _ _)⟩
    go_upto_region 5 with fail
    go_region_law (refine step_copy_byt rfl (.tmp 35) (.tmp 37) rfl b (rat n) (128 - n) (128 - n) q m d ls (by simp [Act.eval, Act.put]) (by simp [Act.eval, Act.put]) H5.out.2.2 m M1.out s2.out s3.out ?_)
    all_goals
      generalize (W5.drew.setCells b (rat n) (by8 (ls.take m))).setCell ⟨b, 129, .none⟩ (.int .i64 (IntKind.i64.wrap ((n : Int) + m))) = W6 at *
      clear a1 y1 x1 x2 x3 HK s2 s3 M1 H5 HK5
      go_wp2
      go_ret2
      refine ⟨H3.out.2.2.1.trans (HH.out.2.toBelow (by omega) H3.out.2.2.1.size), .inr ⟨OK.out, b, by omega, rfl, _, ?_, ovr_two B rs ls (by rw [E1.out, E2.out]; exact HO.out.1) (by rw [E1.out]; exact HO.out.2)⟩⟩
      rw [E1.out, E2.out]
      exact HH.out.1
end Go.Proofs.YtblpdnchphhcaabDoor
