import Derived.Test.YtblpdnchphhcaabDoorRz
import Derived.Test.YtblpdnchphhcaabDoorEIsA
namespace Go.Proofs.YtblpdnchphhcaabDoor
open Go.RowKit
set_option linter.unusedVariables false
set_option linter.unusedSimpArgs false
set_option maxHeartbeats 4000000 in
/-- The document's Peek. -/
theorem rpeek_any {w : World} {d : Nat} {D : Nat → Prop} {rs ls : List Int} (h : Doc w d D rs ls) (n : Int) :
    Calls Tryd.prog 15 #[.pointer (some ⟨d, 0, .none⟩), .int .i64 n] w fun e w' => ∃ p c, e = .returned (.tuple #[.slice p (rs.take (nxT rs n)).length c, .bool (decide (0 < rs.length))]) ∧ w'.ownsRow w.heap.size 5 1 (.slice p (rs.take (nxT rs n)).length c) (rs.take (nxT rs n)).length (by8 (rs.take (nxT rs n))) ∧ Below w.heap.size w w' := by
  obtain ⟨vD, vL, h, hDd, hDD, hDL⟩ := h
  have c1 := rready_any h
  by_cases h0 : rs.length = 0
  · obtain rfl : rs = [] := List.eq_nil_of_length_eq_zero h0
    clear h0
    go_enter Tryd.func15, Tryd.ntmps15
    go_wp2_with fail
    refine c1.mono ?_
    rintro e w1 ⟨rfl, hw⟩
    obtain rfl : w = w1 := hw.symm
    rw [show decide (0 < ([] : List Int).length) = false by decide]
    clear c1
    go_wp2
    go_ret2
    simp only [List.take_nil]
    exact ⟨none, 0, rfl, World.ownsRow_nil _ _ _ _, Below.refl _ _⟩
  have h0' : 0 < rs.length := by omega
  rw [decide_eq_true h0'] at c1 ⊢
  by_cases hn : n < 1
  · have HT : Hid (nxT rs n = 0) := by show _ = _; unfold nxT; rw [if_pos hn]
    clear h0 h0'
    go_enter Tryd.func15, Tryd.ntmps15
    go_wp2_with fail
    refine c1.mono ?_
    rintro e w1 ⟨rfl, hw⟩
    obtain rfl : w = w1 := hw.symm
    clear c1
    go_wp2
    go_ret2
    rw [HT.out, List.take_zero]
    exact ⟨none, 0, rfl, World.ownsRow_nil _ _ _ _, Below.refl _ _⟩
  have c2 := rgiven_any h h0' n hn
  have hT := nxT_le rs n
  obtain ⟨pD, cD, rfl⟩ := one_slice h.rD
  have hcD : rs.length ≤ cD := (byt_own h.rD).2.1
  have hle := h.le
  have c0 := h.c0
  have BD0 : Byt w pD rs.length cD rs := byt_own h.rD
  have HBD : Hid (Byt w pD rs.length cD rs) := BD0
  generalize nxT rs n = T at *
  generalize nxG rs n = G at *
  have LT : Hid ((rs.take T).length = T) := by show _ = _; rw [List.length_take]; omega
  clear h hDd hDD hDL h0 h0' BD0
  obtain ⟨R, hR⟩ : ∃ R, R = rs.length := ⟨_, rfl⟩
  rw [← hR] at hT hcD HBD hle c0
  clear hR
  have ca := cutat pD R cD
  have ct := cut_to pD R cD T (by omega)
  go_enter Tryd.func15, Tryd.ntmps15
  go_wp2_with fail
  refine c1.mono ?_
  rintro e w1 ⟨rfl, hw⟩
  obtain rfl : w = w1 := hw.symm
  go_wp2_with fail
  refine c2.mono ?_
  rintro e w1 ⟨rfl, hw⟩
  obtain rfl : w = w1 := hw.symm
  clear c1 c2
  have B1 : Hid (Byt w (cutp pD cD 0) T cD (rs.take T)) := by
    have := byt_cut HBD.out 0 T (Nat.zero_le _) hT
    rw [Nat.sub_zero, Nat.sub_zero, List.drop_zero] at this
    exact this
  have cJ := joined_any B1.out (⟨rfl, Nat.le_refl _, by decide, .inl rfl⟩ : Byt w none 0 0 []) (by omega)
  rw [List.append_nil] at cJ
  go_wp2_with fail
  refine cJ.mono ?_
  rintro e W1 ⟨p1, d1, rfl, hO, hb1⟩
  rw [LT.out] at hO ⊢
  have HE : Hid (W1.ownsRow w.heap.size 5 1 (.slice p1 T d1) T (by8 (rs.take T)) ∧ Below w.heap.size w W1) := ⟨hO, hb1⟩
  clear hO hb1 cJ
  go_wp2
  go_ret2
  refine ⟨p1, d1, by rw [LT.out]; rfl, ?_, HE.out.2⟩
  rw [LT.out]
  exact HE.out.1
/-- Both consoles, side by side. -/
structure Pw (w W : World) (pb b dd : Nat) (D : Nat → Prop) (rs ls rs' ls' : List Int) : Prop where
  bel : Below w.heap.size w W
  con : Con W b rs ls
  doc : Doc W dd D rs' ls'
  p0 : W.cell? ⟨pb, 0, .none⟩ = some (.pointer (some ⟨b, 0, .none⟩))
  p1 : W.cell? ⟨pb, 1, .none⟩ = some (.pointer (some ⟨dd, 0, .none⟩))
  fz : W.frozen? ⟨pb, 0, .none⟩ = false
  sb : pb ≠ b
  Db : ¬ D b
  Dp : ¬ D pb
  wb : w.heap.size ≤ b
  wp : w.heap.size ≤ pb
  wD : ∀ k, D k → w.heap.size ≤ k ∧ k < W.heap.size
section
variable {w W V : World} {pb b dd : Nat} {D D' : Nat → Prop} {rs ls rs' ls' R' L' : List Int}
theorem Pw.below (h : Pw w W pb b dd D rs ls rs' ls') (t : Below W.heap.size W V) : Pw w V pb b dd D rs ls rs' ls' :=
  ⟨h.bel.trans (t.mono h.bel.size), h.con.below t, h.doc.below t, (t.cell (p := ⟨pb, 0, .none⟩) (lt_cell h.p0)).trans h.p0, (t.cell (p := ⟨pb, 1, .none⟩) (lt_cell h.p1)).trans h.p1, (t.frozen (p := ⟨pb, 0, .none⟩) (lt_cell h.p0)).trans h.fz, h.sb, h.Db, h.Dp, h.wb, h.wp, fun k hk => ⟨(h.wD k hk).1, Nat.lt_of_lt_of_le (h.wD k hk).2 t.size⟩⟩
theorem Pw.drewN (h : Pw w W pb b dd D rs ls rs' ls') (k : Nat) : Pw w (W.drewN k) pb b dd D rs ls rs' ls' := h.below ⟨rfl, rfl, rfl, Nat.le_refl _, fun _ _ => rfl⟩
theorem Pw.con' (h : Pw w W pb b dd D rs ls rs' ls') (t : Trn b W V) (hc : Con V b R' L') : Pw w V pb b dd D R' L' rs' ls' := by
  have c := Chg.ofTrn t
  exact ⟨h.bel.trans (t.toBelow h.wb h.bel.size), hc, h.doc.keep c (fun k _ hk e => h.Db (by have e : k = b := e; rw [← e]; exact hk)), (c.cell (p := ⟨pb, 0, .none⟩) (lt_cell h.p0) h.sb).trans h.p0, (c.cell (p := ⟨pb, 1, .none⟩) (lt_cell h.p1) h.sb).trans h.p1, (c.frozen (p := ⟨pb, 0, .none⟩) (lt_cell h.p0) h.sb).trans h.fz, h.sb, h.Db, h.Dp, h.wb, h.wp, fun k hk => ⟨(h.wD k hk).1, Nat.lt_of_lt_of_le (h.wD k hk).2 t.size⟩⟩
theorem Pw.doc' (h : Pw w W pb b dd D rs ls rs' ls') (c : Chg D W V) (hd : Doc V dd D' R' L') (h1 : ∀ k, D' k → k < W.heap.size → D k) (h2 : ∀ k, D' k → k < V.heap.size) : Pw w V pb b dd D' rs ls R' L' :=
  ⟨h.bel.trans (c.toTrn h.bel.size (fun k hk e => by have := (h.wD k e).1; omega)), h.con.keep c h.Db, hd, (c.cell (p := ⟨pb, 0, .none⟩) (lt_cell h.p0) h.Dp).trans h.p0, (c.cell (p := ⟨pb, 1, .none⟩) (lt_cell h.p1) h.Dp).trans h.p1, (c.frozen (p := ⟨pb, 0, .none⟩) (lt_cell h.p0) h.Dp).trans h.fz, h.sb, fun e => h.Db (h1 b e h.con.lt), fun e => h.Dp (h1 pb e (lt_cell h.p0)), h.wb, h.wp, fun k hk => ⟨by
    by_cases hk2 : k < W.heap.size
    · exact (h.wD k (h1 k hk hk2)).1
    · have := h.bel.size; omega, h2 k hk⟩⟩
theorem Pw.setC (h : Pw w W pb b dd D rs ls rs' ls') {b' : Nat} (hc : Con W b' R' L') (h1 : pb ≠ b') (h2 : ¬ D b') (h3 : w.heap.size ≤ b') : Pw w (W.setCell ⟨pb, 0, .none⟩ (.pointer (some ⟨b', 0, .none⟩))) pb b' dd D R' L' rs' ls' := by
  have c := chg_set pb 0 (.pointer (some ⟨b', 0, .none⟩)) W
  have hz : (W.setCell ⟨pb, 0, .none⟩ (.pointer (some ⟨b', 0, .none⟩))).heap.size = W.heap.size := size_setCells pb [_] 0 W
  exact ⟨h.bel.trans (c.toTrn h.bel.size (fun k hk e => by have := h.wp; have e : k = pb := e; omega)), hc.keep c (fun e => h1 (by have e : b' = pb := e; exact e.symm)), h.doc.keep c (fun k _ hk e => h.Dp (by have e : k = pb := e; rw [← e]; exact hk)), cell_one h.p0 _, cell_off h.p1 _ _ (by decide), (World.frozen?_setCells pb [_] 0 W ⟨pb, 0, .none⟩).trans h.fz, h1, h2, h.Dp, h3, h.wp, fun k hk => by rw [hz]; exact h.wD k hk⟩
end
theorem okC_iff (rs ls : List Int) : okC rs ls = true ↔ (rs.length + ls.length ≤ 128 ∧ (rs.length + ls.length ≠ 128 ∨ ls.length = 0)) ∧ (∀ x ∈ rs, okR x = true) ∧ (∀ x ∈ ls, okL x = true) := by
  unfold okC
  simp only [Bool.and_eq_true, decide_eq_true_eq, Bool.or_eq_true, List.all_eq_true]
  constructor
  · rintro ⟨⟨⟨h1, h2⟩, h3⟩, h4⟩; exact ⟨⟨h1, h2⟩, h3, h4⟩
  · rintro ⟨⟨h1, h2⟩, h3, h4⟩; exact ⟨⟨⟨h1, h2⟩, h3⟩, h4⟩
theorem okR_of_okL {x : Int} (h : okL x = true) : okR x = true := by unfold okL at h; unfold okR; rw [h]; rfl
theorem okC_drop {rs ls : List Int} (h : okC rs ls = true) (g : Nat) : okC (rs.drop g) ls = true := by
  rw [okC_iff] at h ⊢
  have e : (rs.drop g).length = rs.length - g := List.length_drop
  exact ⟨by rw [e]; omega, fun x hx => h.2.1 x (List.mem_of_mem_drop hx), h.2.2⟩
theorem okC_ty {rs ls : List Int} (h : okC rs ls = true) (x : Int) : okC (tyR rs ls x) (tyL rs ls x) = true := by
  have h0 := h
  rw [okC_iff] at h
  by_cases h21 : x = 21
  · have e1 : tyR rs ls x = rs := by unfold tyR; rw [if_pos (by omega)]
    have e2 : tyL rs ls x = [] := by unfold tyL; rw [if_pos h21]
    rw [e1, e2, okC_iff]
    exact ⟨by simp; omega, h.2.1, fun x hx => by simp at hx⟩
  by_cases h8 : x = 8 ∨ x = 127
  · have e1 : tyR rs ls x = rs := by unfold tyR; rw [if_pos (by omega)]
    have e2 : tyL rs ls x = ls.take (ls.length - 1) := by unfold tyL; rw [if_neg h21, if_pos h8]
    have e3 : (ls.take (ls.length - 1)).length = ls.length - 1 := by rw [List.length_take]; omega
    rw [e1, e2, okC_iff]
    exact ⟨by rw [e3]; omega, h.2.1, fun x hx => h.2.2 x (List.mem_of_mem_take hx)⟩
  by_cases hf : x = 0 ∨ 128 ≤ rs.length + ls.length
  · have e1 : tyR rs ls x = rs := by unfold tyR; rw [if_pos (by omega)]
    have e2 : tyL rs ls x = ls := by unfold tyL; rw [if_neg h21, if_neg h8, if_pos hf]
    rw [e1, e2]
    exact h0
  have e1 : tyR rs ls x = if key x = 10 ∨ key x = 4 ∨ rs.length + ls.length + 1 = 128 then rs ++ (ls ++ [key x]) else rs := by unfold tyR; rw [if_neg (by omega)]
  have e2 : tyL rs ls x = if key x = 10 ∨ key x = 4 ∨ rs.length + ls.length + 1 = 128 then [] else ls ++ [key x] := by unfold tyL; rw [if_neg h21, if_neg h8, if_neg hf]
  have hk : okR (key x) = true := by
    cases hk : okR (key x)
    · exfalso
      have := (okR_iff (key x)).1 hk
      unfold key at this
      split at this
      · omega
      · omega
    · rfl
  rw [e1, e2]
  by_cases hfi : key x = 10 ∨ key x = 4 ∨ rs.length + ls.length + 1 = 128
  · rw [if_pos hfi, if_pos hfi, okC_iff]
    refine ⟨by simp; omega, fun z hz => ?_, fun z hz => by simp at hz⟩
    rcases List.mem_append.1 hz with hz | hz
    · exact h.2.1 z hz
    · rcases List.mem_append.1 hz with hz | hz
      · exact okR_of_okL (h.2.2 z hz)
      · rw [List.mem_singleton] at hz
        rw [hz]
        exact hk
  · rw [if_neg hfi, if_neg hfi, okC_iff]
    refine ⟨by simp; omega, h.2.1, fun z hz => ?_⟩
    rcases List.mem_append.1 hz with hz | hz
    · exact h.2.2 z hz
    · rw [List.mem_singleton] at hz
      rw [hz]
      cases hl : okL (key x)
      · exfalso
        rcases (okL_iff (key x)).1 hl with h1 | h1
        · rw [hk] at h1; cases h1
        · omega
      · rfl
/-- What a call of both comes to. -/
def Pst (w W : World) (pb b dd : Nat) (D : Nat → Prop) (V : World) : Prop := ∃ D' rs ls, Pw w V pb b dd D' rs ls rs ls ∧ okC rs ls = true ∧ Chg (fun k => k = b ∨ D k) W V ∧ ∀ k, D' k → k < W.heap.size → D k
set_option maxHeartbeats 2000000 in
theorem typed_any {w W : World} {pb b dd : Nat} {D : Nat → Prop} {rs ls : List Int} (h : Pw w W pb b dd D rs ls rs ls) (hok : okC rs ls = true) (hd : Dd w) (x : Int) (hx : 0 ≤ x ∧ x < 256) :
    Calls Tryd.prog 10 #[.pointer (some ⟨pb, 0, .none⟩), .int .u8 x] W fun e V => e = .returned (.bool true) ∧ Pst w W pb b dd D V := by
  have c1 := type_any h.con (hd.below h.bel) x hx
  have CD : Hid (∀ V D, Doc V dd D rs ls → Calls Tryd.prog 28 #[.pointer (some ⟨dd, 0, .none⟩), .int .u8 x] V (DTy V dd D (tyR rs ls x) (tyL rs ls x) (tyE rs ls x) (tyB rs ls x))) := fun V D hV => rtype_any hV x hx
  have hE := tyE_len rs ls x h.con.le
  have HOK : Hid (okC (tyR rs ls x) (tyL rs ls x) = true) := okC_ty hok x
  generalize tyR rs ls x = R2 at *
  generalize tyL rs ls x = L2 at *
  generalize tyE rs ls x = E2 at *
  generalize tyB rs ls x = B2 at *
  have H0 : Hid (Pw w W pb b dd D rs ls rs ls) := h
  have a0 := h.p0
  clear h hd hx hok
  have bb : (B2 == B2) = true := by simp
  go_enter Tryd.func10, Tryd.ntmps10
  go_wp2_with fail
  refine c1.mono ?_
  rintro e V1 ⟨px, cx, rfl, hO, hC, hT⟩
  have H1 : Hid (Pw w V1 pb b dd D R2 L2 rs ls ∧ V1.ownsRow W.heap.size 5 1 (.slice px E2.length cx) E2.length (by8 E2) ∧ Trn b W V1) := ⟨H0.out.con' hT hC, hO, hT⟩
  have a1 := H1.out.1.p1
  clear c1 hO hC hT a0
  go_wp2_with fail
  refine (CD.out V1 D H1.out.1.doc).mono ?_
  rintro e V2 ⟨py, cy, D', rfl, hO, hDoc, hChg, hD1, hDr, hDl⟩
  have H2 : Hid (Pw w V2 pb b dd D' R2 L2 R2 L2 ∧ Byt V2 px E2.length cx E2 ∧ Byt V2 py E2.length cy E2 ∧ Chg (fun k => k = b ∨ D k) W V2 ∧ ∀ k, D' k → k < W.heap.size → D k) := by
    have h := H1.out
    refine ⟨h.1.doc' hChg hDoc hD1 hDl, byt_own (hChg.own h.2.1 (fun g hg e => ?_)), byt_own hO, ((Chg.ofTrn h.2.2).mono (fun k _ e => .inl e)).trans (hChg.mono (S2 := fun k => k = b ∨ D k) (fun k _ e => .inr e)) (fun _ _ e => e), fun k hk hk2 => hD1 k hk (Nat.lt_of_lt_of_le hk2 h.2.2.size)⟩
    have h1 := own_block h.2.1 g hg
    have h2 := (H0.out.wD g e).2
    omega
  clear hO hDoc hChg hD1 hDr hDl a1
  have cB := bytes_any px py E2.length cx cy E2 V2 (by omega) H2.out.2.1 H2.out.2.2.1
  go_wp2_with fail
  refine cB.mono ?_
  rintro e V3 ⟨rfl, k, hk⟩
  have H3 : Hid (Pst w W pb b dd D V3) := by
    have h := H2.out
    rw [hk]
    exact ⟨D', R2, L2, h.1.drewN k, HOK.out, ⟨h.2.2.2.1.os, h.2.2.2.1.tape, h.2.2.2.1.output, h.2.2.2.1.size, h.2.2.2.1.block⟩, h.2.2.2.2⟩
  clear hk cB
  go_wp2
  go_ret
  exact ⟨rfl, H3.out⟩
end Go.Proofs.YtblpdnchphhcaabDoor
