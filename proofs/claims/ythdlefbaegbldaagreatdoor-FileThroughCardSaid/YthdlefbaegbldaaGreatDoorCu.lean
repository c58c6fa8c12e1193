import Derived.Test.YthdlefbaegbldaaGreatDoorCt
namespace Go.Proofs.YthdlefbaegbldaaGreatDoor
open Go.RowKit
set_option linter.unusedVariables false
set_option linter.unusedSimpArgs false
set_option maxRecDepth 100000
theorem byte_zero : ∃ i, Tryz.prog.info? 5 = some i ∧ i.zero = some (.int .u8 0) ∧ i.size = 1 ∧ i.bytes = 1 := by
  obtain ⟨i, z, hi, hz, hs, hb, _⟩ := byte_info
  have h : (Tryz.prog.info? 5).bind (·.zero) = some (.int .u8 0) := by kernel_rfl
  rw [hi] at h
  exact ⟨i, hi, h, hs, hb⟩
/-- A call of Type, Take: a row of its own, a bool, and the console as it is then. -/
def Ty (w : World) (b : Nat) (R L E : List Int) (B : Bool) (e : Ending) (w' : World) : Prop :=
  ∃ p c, e = .returned (.tuple #[.slice p E.length c, .bool B]) ∧ w'.ownsRow w.heap.size 5 1 (.slice p E.length c) E.length (by8 E) ∧ Con w' b R L ∧ Trn b w w'
theorem con_back {w : World} {b : Nat} {rs ls : List Int} (h : Con w b rs ls) (k : Nat) (hk : k ≤ ls.length) : Con (w.setCell ⟨b, 129, .none⟩ (.int .i64 ((rs.length + ls.length - k : Nat) : Int))) b rs (ls.take (ls.length - k)) := by
  obtain ⟨B, h1, h2⟩ := h
  refine ⟨B, ?_, fun j x hj => ?_⟩
  · have := h1.setH (rs.length + ls.length - k) (by omega) (by have := h1.h8; omega)
    rw [List.length_take, show rs.length + min (ls.length - k) ls.length = rs.length + ls.length - k by omega]
    exact this
  · refine h2 j x ?_
    by_cases hr : j < rs.length
    · rw [List.getElem?_append_left hr] at hj ⊢
      exact hj
    · rw [List.getElem?_append_right (by omega)] at hj ⊢
      rw [List.getElem?_take] at hj
      split at hj
      · exact hj
      · cases hj
set_option maxHeartbeats 2000000 in
theorem takeBack_any {w : World} {b : Nat} {rs ls : List Int} (h : Con w b rs ls) (k : Nat) (hk : k ≤ ls.length) :
    Calls Tryz.prog 95 #[.pointer (some ⟨b, 0, .none⟩), .int .i64 k] w fun e w' => ∃ p c, e = .returned (.slice p (bk k).length c) ∧ w'.ownsRow w.heap.size 5 1 (.slice p (bk k).length c) (bk k).length (by8 (bk k)) ∧ Con w' b rs (ls.take (ls.length - k)) ∧ Trn b w w' := by
  obtain ⟨H, hH⟩ : ∃ H, H = rs.length + ls.length := ⟨_, rfl⟩
  have hle := h.le
  have hlt := h.lt
  have c2 := h.cells.2.1
  have f2 := h.cells.2.2.2 129
  have hc := con_back h k hk
  rw [← hH] at c2 hle hc
  have hkH : k ≤ H := by omega
  have e1 : ((H - k : Nat) : Int) = (H : Int) - k := by omega
  rw [e1] at hc
  have HW : Hid (Con (w.setCell ⟨b, 129, .none⟩ (.int .i64 ((H : Int) - k))) b rs (ls.take (ls.length - k)) ∧ Trn b w (w.setCell ⟨b, 129, .none⟩ (.int .i64 ((H : Int) - k))) ∧ (w.setCell ⟨b, 129, .none⟩ (.int .i64 ((H : Int) - k))).heap.size = w.heap.size) := ⟨hc, Trn.setCell _ _ _ _, by simp [World.setCell]⟩
  have HI : Hid (∃ i, Tryz.prog.info? 5 = some i ∧ i.zero = some (.int .u8 0) ∧ i.size = 1 ∧ i.bytes = 1) := byte_zero
  obtain ⟨i3, hi3⟩ := HI.out
  have HJ : Hid (Tryz.prog.info? 5 = some i3 ∧ i3.zero = some (.int .u8 0) ∧ i3.size = 1 ∧ i3.bytes = 1) := hi3
  have HB : Hid (b < w.heap.size) := hlt
  clear hi3 HI h hc e1 hH hlt
  go_enter Tryz.func95, Tryz.ntmps95
  go_upto_region 2 with fail
  generalize w.setCell ⟨b, 129, .none⟩ (.int .i64 ((H : Int) - k)) = W1 at *
  clear c2 f2
  go_wp2
  go_loopw [4, 14] (fun v kk wr => ∃ i : Nat, i ≤ k ∧ kk = .int .i64 i ∧ ∃ q cq, v = .slice q (3 * i) cq ∧ Hid (wr.ownsRow w.heap.size 5 1 (.slice q (3 * i) cq) (3 * i) (by8 (bk i)) ∧ Below w.heap.size W1 wr)) (fun _ kk _ => (k - intOf kk).toNat)
  case atStart => exact ⟨0, by omega, rfl, none, 0, rfl, World.ownsRow_nil _ _ _ _, Below.refl _ _⟩
  case round =>
    obtain ⟨i, hi, rfl, q, cq, rfl, HO⟩ := hrel
    have hki : k ≤ 128 := by omega
    by_cases hlt : i < k
    · have g0 : (i : Int) < k := by omega
      have z1 : w.heap.size ≤ wr.heap.size := by have := HO.out.2.size; have := HW.out.2.2; omega
      have z2 : 3 * i ≤ 384 := by omega
      go_wp2_with (first | (at_builtin; refine Lib.wpList_append_own_string _ rfl _ _ 35 9 rfl w.heap.size 5 i3 Tryz.underlying35 Tryz.underlying9 HJ.out.1 HJ.out.2.1 HJ.out.2.2.1 HJ.out.2.2.2 (.slice q (3 * i) cq) (3 * i) (by8 (bk i)) rfl HO.out.1 ⟨#[8, 32, 8]⟩ rfl ?c4 ?c5 z1 ?_) | go_in)
      case c4 => show 3 * i + 3 ≤ maxLen; simp only [maxLen]; omega
      case c5 => show 3 * i + 3 ≤ _; omega
      intro v' w2 own' grow fb
      clear fb
      have e3 : 3 * i + 3 = 3 * (i + 1) := by omega
      have e4 : by8 (bk i) ++ Lib.strCells ⟨#[8, 32, 8]⟩ = by8 (bk (i + 1)) := by rw [bk, by8_app]; rfl
      rw [e3, e4] at own'
      obtain ⟨p', c', rfl⟩ := one_slice own'
      have HW2 : Hid (w2.ownsRow w.heap.size 5 1 (.slice p' (3 * (i + 1)) c') (3 * (i + 1)) (by8 (bk (i + 1))) ∧ Below w.heap.size W1 w2) := ⟨own', HO.out.2.grown grow z1 (own_block HO.out.1)⟩
      clear own' grow e3 e4
      go_wp2
      exact ⟨⟨i + 1, by omega, rfl, p', c', rfl, HW2.out⟩, by simp only [intOf]; omega⟩
    · obtain rfl : i = k := by omega
      clear hi hlt
      go_wp2
      go_ret
      have e := bk_len i
      refine ⟨q, cq, by rw [e]; rfl, by rw [e]; exact HO.out.1, ?_, ?_⟩
      · exact HW.out.1.keep (S := fun k => w.heap.size ≤ k) ⟨HO.out.2.os, HO.out.2.tape, HO.out.2.output, HO.out.2.size, fun k hk hn => HO.out.2.block k (by omega)⟩ (by have := HB.out; omega)
      · exact HW.out.2.1.trans (Trn.ofBelow (HO.out.2.mono (by have := HW.out.2.2; omega)))
theorem con_add {w : World} {b : Nat} {rs ls : List Int} (h : Con w b rs ls) (x : Int) (hx : 0 ≤ x ∧ x < 256) (hl : rs.length + ls.length < 128) : Con ((w.setCell ⟨b, rs.length + ls.length, .none⟩ (.int .u8 x)).setCell ⟨b, 129, .none⟩ (.int .i64 ((rs.length + ls.length + 1 : Nat) : Int))) b rs (ls ++ [x]) := by
  obtain ⟨B, h1, h2⟩ := h
  refine ⟨fun j => if j = rs.length + ls.length then x else B j, ?_, fun j y hj => ?_⟩
  · have := (h1.setB (rs.length + ls.length) hl x hx).setH (rs.length + ls.length + 1) (by omega) (by omega)
    rw [List.length_append, List.length_singleton, ← Nat.add_assoc]
    exact this
  · show (if j = rs.length + ls.length then x else B j) = y
    rw [← List.append_assoc] at hj
    by_cases hjl : j = rs.length + ls.length
    · rw [if_pos hjl]
      rw [List.getElem?_append_right (by rw [List.length_append]; omega), List.length_append, hjl, Nat.sub_self] at hj
      exact Option.some.inj hj
    · rw [if_neg hjl]
      have hlt := (List.getElem?_eq_some_iff.1 hj).1
      rw [List.length_append, List.length_append, List.length_singleton] at hlt
      rw [List.getElem?_append_left (by rw [List.length_append]; omega)] at hj
      exact h2 j y hj
theorem con_fin {w : World} {b : Nat} {rs ls : List Int} (h : Con w b rs ls) : Con (w.setCell ⟨b, 128, .none⟩ (.int .i64 ((rs.length + ls.length : Nat) : Int))) b (rs ++ ls) [] := by
  obtain ⟨B, h1, h2⟩ := h
  refine ⟨B, ?_, fun j y hj => h2 j y (by rw [List.append_nil] at hj; exact hj)⟩
  have := h1.setR (rs.length + ls.length) (Nat.le_refl _)
  rw [List.length_append, List.length_nil, Nat.add_zero]
  exact this
set_option maxHeartbeats 4000000 in
theorem add_full {w : World} {b : Nat} {rs ls : List Int} (h : Con w b rs ls) (x : Int) (hl : rs.length + ls.length = 128) :
    Calls Tryz.prog 96 #[.pointer (some ⟨b, 0, .none⟩), .int .u8 x] w (Ty w b rs ls [] false) := by
  have HC : Hid (Con w b rs ls) := h
  have c2 := h.cells.2.1
  rw [hl] at c2
  clear h hl
  go_enter Tryz.func96, Tryz.ntmps96
  go_wp2
  go_ret2
  exact ⟨none, 0, rfl, World.ownsRow_nil _ _ _ _, HC.out, Trn.refl _ _⟩
set_option maxHeartbeats 4000000 in
theorem add_any {w : World} {b : Nat} {rs ls : List Int} (h : Con w b rs ls) (hd : Dd w) (x : Int) (hx : 0 ≤ x ∧ x < 256) (hl : rs.length + ls.length < 128) :
    Calls Tryz.prog 96 #[.pointer (some ⟨b, 0, .none⟩), .int .u8 x] w (Ty w b (if fin x = true ∨ rs.length + ls.length + 1 = 128 then rs ++ (ls ++ [x]) else rs) (if fin x = true ∨ rs.length + ls.length + 1 = 128 then [] else ls ++ [x]) (ech x) (decide (fin x = true ∨ rs.length + ls.length + 1 = 128))) := by
  obtain ⟨H, hH⟩ : ∃ H, H = rs.length + ls.length := ⟨_, rfl⟩
  have hc := con_add h x hx hl
  have hb0 := hd.ne h
  have c2 := h.cells.2.1
  have fz := h.cells.2.2.2
  rw [← hH] at c2 hl hc ⊢
  have e1 : ((H + 1 : Nat) : Int) = (H : Int) + 1 := by omega
  rw [e1] at hc
  have f1 := fz H
  have cH : ∃ v, w.cell? ⟨b, H, .none⟩ = some v := by
    obtain ⟨B, h1, h2⟩ := h
    exact ⟨_, h1.cb H hl⟩
  obtain ⟨vH, cH⟩ := cH
  have f2 : (w.setCell ⟨b, H, .none⟩ (.int .u8 x)).drew.frozen? ⟨b, 129, .none⟩ = false := (World.frozen?_setCells b [.int .u8 x] H w ⟨b, 129, .none⟩).trans (fz 129)
  have d2 : ((w.setCell ⟨b, H, .none⟩ (.int .u8 x)).drew).cell? ⟨b, 129, .none⟩ = some (.int .i64 H) := cell_off (w := w) c2 H (.int .u8 x) (by omega)
  have HW : Hid (Con ((w.setCell ⟨b, H, .none⟩ (.int .u8 x)).setCell ⟨b, 129, .none⟩ (.int .i64 ((H : Int) + 1))) b rs (ls ++ [x]) ∧ H = rs.length + ls.length ∧ b ≠ 0 ∧ Dd w ∧ b < w.heap.size) := ⟨hc, hH, hb0, hd, h.lt⟩
  have KW : Hid (∀ W, W = ((w.setCell ⟨b, H, .none⟩ (.int .u8 x)).setCell ⟨b, 129, .none⟩ (.int .i64 ((H : Int) + 1))).drew → Con W b rs (ls ++ [x]) ∧ Trn b w W ∧ Dd W ∧ W.heap.size = w.heap.size) := fun W hW => by
    have t1 : Trn b w W := by rw [hW]; exact (Trn.setCell b _ _ w).trans ((Trn.setCell b _ _ _).trans (Trn.drew b _))
    refine ⟨?_, t1, HW.out.2.2.2.1.keep (Chg.ofTrn t1) (fun e => HW.out.2.2.1 e.symm), by rw [hW]; simp [World.setCell]⟩
    rw [hW]
    have := HW.out.1.drewN 1
    exact this
  obtain ⟨R', hR'⟩ : ∃ R', R' = if fin x = true ∨ H + 1 = 128 then rs ++ (ls ++ [x]) else rs := ⟨_, rfl⟩
  obtain ⟨L', hL'⟩ : ∃ L', L' = if fin x = true ∨ H + 1 = 128 then [] else ls ++ [x] := ⟨_, rfl⟩
  obtain ⟨B', hB'⟩ : ∃ B', B' = decide (fin x = true ∨ H + 1 = 128) := ⟨_, rfl⟩
  have PST : Hid (R' = (if fin x = true ∨ H + 1 = 128 then rs ++ (ls ++ [x]) else rs) ∧ L' = (if fin x = true ∨ H + 1 = 128 then [] else ls ++ [x]) ∧ B' = decide (fin x = true ∨ H + 1 = 128)) := ⟨hR', hL', hB'⟩
  rw [← hR', ← hL', ← hB']
  clear hR' hL' hB'
  clear hc hb0 fz hH e1 hd h
  go_enter Tryz.func96, Tryz.ntmps96
  go_wp2
  go_region
  go_upto_region 5 with fail
  have kw := KW.out _ rfl
  generalize ((w.setCell ⟨b, H, .none⟩ (.int .u8 x)).setCell ⟨b, 129, .none⟩ (.int .i64 ((H : Int) + 1))).drew = W1 at *
  have H1 : Hid (Con W1 b rs (ls ++ [x]) ∧ Trn b w W1 ∧ Dd W1 ∧ W1.heap.size = w.heap.size) := kw
  clear kw KW f1 f2 d2 c2 cH
  have hc2 := H1.out.1.cells.2.1
  have hlen : rs.length + (ls ++ [x]).length = H + 1 := by rw [List.length_append, List.length_singleton]; have := HW.out.2.1; omega
  rw [hlen] at hc2
  have e1 : ((H + 1 : Nat) : Int) = (H : Int) + 1 := by omega
  rw [e1] at hc2
  have fz1 := H1.out.1.cells.2.2.2 128
  have hc1 := H1.out.1.cells.1
  have LEN : Hid (rs.length + (ls ++ [x]).length = H + 1) := hlen
  clear e1 hlen
  have c47 := finishes_any H1.out.2.2.1 x hx
  go_wp2_with fail
  refine c47.mono ?_
  rintro e w1 ⟨rfl, hw1⟩
  obtain rfl : W1 = w1 := hw1.symm
  clear c47
  obtain ⟨W2, hW2⟩ : ∃ W2, W2 = W1.setCell ⟨b, 128, .none⟩ (.int .i64 ((H : Int) + 1)) := ⟨_, rfl⟩
  have H2 : Hid (Con W2 b (rs ++ (ls ++ [x])) [] ∧ Trn b w W2 ∧ Dd W2 ∧ W2.heap.size = w.heap.size) := by
    have t1 : Trn b W1 W2 := by rw [hW2]; exact Trn.setCell b _ _ _
    have q := con_fin H1.out.1
    rw [LEN.out, show ((H + 1 : Nat) : Int) = (H : Int) + 1 by omega, ← hW2] at q
    exact ⟨q, H1.out.2.1.trans t1, H1.out.2.2.1.keep (Chg.ofTrn t1) (fun e => HW.out.2.2.1 e.symm), by rw [hW2]; simp [World.setCell]; exact H1.out.2.2.2⟩
  have E2 : Hid (W1.setCell ⟨b, 128, .none⟩ (.int .i64 ((H : Int) + 1)) = W2) := hW2.symm
  clear hW2
  obtain ⟨fx, hfx⟩ : ∃ f, f = fin x := ⟨_, rfl⟩
  rw [← hfx]
  cases fx with
  | true =>
    have P0 : Hid (fin x = true ∨ H + 1 = 128) := .inl hfx.symm
    clear hfx
    go_wp2_with fail
    rw [E2.out]
    refine (echoOf_any H2.out.2.2.1 x hx).mono ?_
    rintro e w3 ⟨p, c, rfl, hO, hb3⟩
    have H3 : Hid (w3.ownsRow w.heap.size 5 1 (.slice p (ech x).length c) (ech x).length (by8 (ech x)) ∧ Con w3 b (rs ++ (ls ++ [x])) [] ∧ Trn b w w3) := ⟨own_mono hO (Nat.le_of_eq H2.out.2.2.2.symm), H2.out.1.below hb3, H2.out.2.1.trans (Trn.ofBelow hb3)⟩
    clear hO hb3
    go_wp2
    go_ret2
    refine ⟨p, c, ?_, H3.out.1, ?_, H3.out.2.2⟩
    · rw [PST.out.2.2, decide_eq_true P0.out]; rfl
    · rw [PST.out.1, PST.out.2.1, if_pos P0.out, if_pos P0.out]; exact H3.out.2.1
  | false =>
    by_cases h8 : H + 1 = 128
    · have P0 : Hid (fin x = true ∨ H + 1 = 128) := .inr h8
      have e8 : ((H : Int) + 1 == 128) = true := by simp; omega
      clear hfx h8
      go_wp2_with fail
      rw [E2.out]
      refine (echoOf_any H2.out.2.2.1 x hx).mono ?_
      rintro e w3 ⟨p, c, rfl, hO, hb3⟩
      have H3 : Hid (w3.ownsRow w.heap.size 5 1 (.slice p (ech x).length c) (ech x).length (by8 (ech x)) ∧ Con w3 b (rs ++ (ls ++ [x])) [] ∧ Trn b w w3) := ⟨own_mono hO (Nat.le_of_eq H2.out.2.2.2.symm), H2.out.1.below hb3, H2.out.2.1.trans (Trn.ofBelow hb3)⟩
      clear hO hb3
      go_wp2
      go_ret2
      refine ⟨p, c, ?_, H3.out.1, ?_, H3.out.2.2⟩
      · rw [PST.out.2.2, decide_eq_true P0.out]; rfl
      · rw [PST.out.1, PST.out.2.1, if_pos P0.out, if_pos P0.out]; exact H3.out.2.1
    · have P0 : Hid (¬ (fin x = true ∨ H + 1 = 128)) := fun h => by
        rcases h with h | h
        · rw [← hfx] at h; cases h
        · exact h8 h
      have e8 : ((H : Int) + 1 == 128) = false := by simp; omega
      clear hfx h8
      go_wp2_with fail
      refine (echoOf_any H1.out.2.2.1 x hx).mono ?_
      rintro e w3 ⟨p, c, rfl, hO, hb3⟩
      have H3 : Hid (w3.ownsRow w.heap.size 5 1 (.slice p (ech x).length c) (ech x).length (by8 (ech x)) ∧ Con w3 b rs (ls ++ [x]) ∧ Trn b w w3) := ⟨own_mono hO (Nat.le_of_eq H1.out.2.2.2.symm), H1.out.1.below hb3, H1.out.2.1.trans (Trn.ofBelow hb3)⟩
      clear hO hb3
      go_wp2
      go_ret2
      refine ⟨p, c, ?_, H3.out.1, ?_, H3.out.2.2⟩
      · rw [PST.out.2.2, decide_eq_false P0.out]; rfl
      · rw [PST.out.1, PST.out.2.1, if_neg P0.out, if_neg P0.out]; exact H3.out.2.1

end Go.Proofs.YthdlefbaegbldaaGreatDoor
