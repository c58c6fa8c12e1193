import Derived.Test.YtabhojfdkmeaoabDt
import Derived.Maps.AppendAt
namespace Go.Proofs.Ytabhojfdkmeaoab
open Go.RowKit
set_option linter.unusedVariables false
set_option linter.unusedSimpArgs false
theorem step_append_at {P : Program} {ops : Array Oper} {o : Oper} {a : Act} {w : World} {K : Act → World → Prop} {Q : Exit → Act → World → Prop} {E : Prop} (hgd : o.guard = none) (s x : Operand) (t : TypeId)
    (hop : o.op = .call { callee := .builtin .append, args := #[s, x], argTypes := #[t, t] }) (base : Nat) (e : TypeId) (i : TypeInfo) (z : Value) (size bytes : Nat) (ht : P.underlying t = some (.slice e)) (hi : P.info? e = some i) (hz : i.zero = some z)
    (hsize : i.size = size) (hby : i.bytes = bytes) (hzs : z.cells.size = size) (hsz : 0 < size) (v : Value) (k : Nat) (xs : List Value) (hs : a.eval s = v) (hown : w.ownsRow base e size v k xs)
    (ad : Addr) (m c : Nat) (news : List Value) (hx : a.eval x = .slice (some ad) m c) (hl : news.length = m * size) (hnews : ∀ j u, news[j]? = some u → w.cell? (ad.add j) = some u) (h1 : ∀ u ∈ news, u.oneCell' = true)
    (h63 : k + m ≤ maxLen) (hbytes : (k + m) * bytes ≤ 140737488355328) (hbase : base ≤ w.heap.size)
    (h : ∀ v' w', w'.ownsRow base e size v' (k + m) (xs ++ news) → w.grownBy w' v.ownBlock → (v'.ownBlock = v.ownBlock ∨ v'.ownBlock = some w.heap.size) → K (a.put o.dst v') w') : if Region.wanted o (yielded ops a.tmps) = true then Oper.wp P o a w K Q else E := by
  have hw : Region.wanted o (yielded ops a.tmps) = true := by simp [Region.wanted, hgd]
  rw [if_pos hw]
  obtain ⟨v', w', hrun, r1, r2, _, r4⟩ := run_append_own_at (P := P) w base t o.type e i z size bytes ht hi hz hsize hby hzs hsz v k xs hown ad m c news hl hnews h1 h63 hbytes hbase
  unfold Oper.wp
  simp [execOp, hop, resolve, invoke, builtin, hs, hx, hrun, Result.andThen]
  exact h v' w' r1 r2 r4
/-- The document's pipe while bytes are being put. -/
structure Dp (w wr : World) (d : Nat) (e0 e : Value) (X : Nat) (zs : List Int) (r s : Int) (rd wt : Bool) : Prop where
  raw : Dr wr d e r s rd wt
  row : wr.ownsRow 0 5 1 e zs.length (by8 zs)
  sof : Sof w e0 e
  chg : Chg (fun k => k = d ∨ e0.ownBlock = some k) w wr
  ed : ∀ g, e.ownBlock = some g → g ≠ d
set_option maxHeartbeats 4000000 in
set_option maxRecDepth 100000 in
theorem rput_any {w : World} {d X : Nat} {e : Value} {xs : List Int} {r : Int} {rd wt : Bool} (h : Dq w d e X xs r rd wt) {p : Option Addr} {n c : Nat} {ys : List Int} (hB : Byt w p n c ys) (hn : n < 140737488355000) (hp : ∀ g o, p = some ⟨g, o, .none⟩ → g ≠ d ∧ e.ownBlock ≠ some g) :
    Calls Try.prog 25 #[.pointer (some ⟨d, 0, .none⟩), .slice p n c] w fun en w' => en = .returned (.tuple #[.int .i64 (putN xs rd ys), .int .i64 (putHow xs rd ys)]) ∧ ∃ e', Dq w' d e' X (xs ++ ys.take (putN xs rd ys)) r rd wt ∧ Sof w e e' ∧ Chg (fun k => k = d ∨ e.ownBlock = some k) w w' := by
  have HP : Hid (Dq w d e X xs r rd wt) := h
  have hl5 := h.l512
  have hbr := h.br
  have hyl := hB.1
  have hnc := hB.2.1
  have hcm : c ≤ 9223372036854775807 := hB.2.2.1
  have c3 := h.raw.c3
  have HN : Hid (∀ g o, p = some ⟨g, o, .none⟩ → g ≠ d ∧ e.ownBlock ≠ some g) := hp
  have HB : Hid (Byt w p n c ys) := hB
  clear h hB hp
  by_cases h0 : n = 0
  · subst h0
    obtain rfl : ys = [] := List.length_eq_zero_iff.1 hyl
    have e1 : putN xs rd [] = 0 := by simp [putN]
    have e2 : putHow xs rd [] = 1 := by simp [putHow]
    rw [e1, e2]
    go_enter Try.func25, Try.ntmps25
    go_wp2
    go_ret2
    exact ⟨rfl, e, by simpa using HP.out, Sof.refl _ _, Chg.refl _ _⟩
  · have hni : ((n : Int) == 0) = false := by simp [h0]
    cases rd with
    | false =>
      have e1 : putN xs false ys = 0 := by simp [putN]
      have e2 : putHow xs false ys = 3 := by unfold putHow; rw [if_neg (by omega)]; rfl
      rw [e1, e2]
      go_enter Try.func25, Try.ntmps25
      go_wp2
      go_ret2
      exact ⟨rfl, e, by simpa using HP.out, Sof.refl _ _, Chg.refl _ _⟩
    | true =>
      rcases HB.out.2.2.2 with hz | ⟨sb, so, rfl, hsb, hcell⟩
      · omega
      obtain ⟨m, hm⟩ : ∃ m, m = putN xs true ys := ⟨_, rfl⟩
      have HM : Hid (m = min n (512 - xs.length)) := by show m = _; rw [hm]; simp [putN, hyl]
      have HH : Hid (putHow xs true ys = if m < n then 2 else 1) := by
        show putHow xs true ys = _
        simp only [putHow, ← hm, hyl, if_neg h0, if_true]
      rw [← hm]
      have hmn : m ≤ n := by have := HM.out; omega
      have HC : Hid (∀ i x, ys[i]? = some x → w.cell? ⟨sb, so + i, .none⟩ = some (.int .u8 x)) := hcell
      have hsn := HN.out sb so rfl
      obtain ⟨i3, z3, hi3, hz3, hs3, hb3, hzs3⟩ := byte_info
      have HI : Hid (Try.prog.info? 5 = some i3 ∧ i3.zero = some z3 ∧ i3.size = 1 ∧ i3.bytes = 1 ∧ z3.cells.size = 1) := ⟨hi3, hz3, hs3, hb3, hzs3⟩
      obtain ⟨s, hs⟩ : ∃ s, s = (r + (xs.length : Int)) % 4294967296 := ⟨_, rfl⟩
      have HSS : Hid (s = (r + (xs.length : Int)) % 4294967296) := hs
      have H0 : Hid (Dp w w d e e X (xs ++ ys.take 0) r s true wt) := ⟨by rw [hs]; exact HP.out.raw, by rw [List.take_zero, List.append_nil]; exact HP.out.row, Sof.refl _ _, Chg.refl _ _, HP.out.ed⟩
      have HED : Hid (∀ g, e.ownBlock = some g → g ≠ d) := HP.out.ed
      have hd : d < w.heap.size := lt_cell HP.out.raw.c0
      have hdX := HP.out.dX
      have hwX := HP.out.wX
      clear hm hcell hi3 hz3 hs3 hb3 hzs3 hs
      go_enter Try.func25, Try.ntmps25
      go_wp2
      go_loopw [6] (fun iv wr => ∃ i : Nat, i ≤ m ∧ iv = .int .i64 i ∧ Hid (∃ e', Dp w wr d e e' X (xs ++ ys.take i) r s true wt)) (fun iv _ => (m - intOf iv).toNat)
      case atStart => exact ⟨0, by omega, rfl, e, H0.out⟩
      case round =>
        obtain ⟨i, hi, rfl, HW⟩ := hrel
        obtain ⟨ev, hD⟩ := HW.out
        have hlen : (xs ++ ys.take i).length = xs.length + i := by rw [List.length_append, List.length_take]; omega
        obtain ⟨ep, ec, rfl⟩ := one_slice hD.row
        rw [hlen] at hD
        have HD : Hid (Dp w wr d e (.slice ep (xs.length + i) ec) X (xs ++ ys.take i) r s true wt) := hD
        have c0 := hD.raw.c0
        clear HW hD
        clear H0
        by_cases him : i < m
        · have j1 : (i : Int) < n := by omega
          have j2 : (xs.length : Int) + i < 512 := by have := HM.out; omega
          have hx : ∃ x, ys[i]? = some x := ⟨ys[i]'(by omega), by simp⟩
          obtain ⟨x, hx⟩ := hx
          have HT : Hid (xs ++ ys.take i ++ [x] = xs ++ ys.take (i + 1)) := by
            show _ = _
            rw [List.append_assoc, take_next hx]
          have a0 : wr.cell? ⟨sb, so + i, .none⟩ = some (.int .u8 x) := (HD.out.chg.cell (p := ⟨sb, so + i, .none⟩) hsb (fun h => by
            rcases h with h | h
            · exact hsn.1 h
            · exact hsn.2 h)).trans (HC.out i x hx)
          have hsz := HD.out.chg.size
          generalize hL : xs.length + i = L at *
          have hLm : L ≤ 512 := by have := HM.out; omega
          clear hx
          go_upto_region 7 with fail
          have kS : (wr.drew.cell? ⟨sb, so + i, .none⟩ = some (.int .u8 x)) := a0
          refine wp_region_held_drew (S := fun U => (U.cell? ⟨sb, so + i, .none⟩ = some (.int .u8 x))) (by kernel_rfl) kS (fun hHeld => ?_)
          refine wpAnyH_take (i := 0) (v := (.pointer (some ⟨d, 0, .none⟩))) rfl (by kernel_rfl) (by kernel_rfl) (by kernel_rfl) (fun _ _ _ h => h) (Or.inl ⟨by rfl, fun ww hSw => by (try dsimp only at hSw); go_simp⟩) (by assumption) ?_
          simp only [Act.put, List.setIfInBounds_toArray, List.set_cons_zero, List.set_cons_succ, List.getElem_toArray, List.getElem_cons_succ, List.getElem_cons_zero]
          refine wpAnyH_take (i := 1) (v := (.pointer (some ⟨d, 0, .none⟩))) rfl (by kernel_rfl) (by kernel_rfl) (by kernel_rfl) (fun _ _ _ h => h) (Or.inl ⟨by rfl, fun ww hSw => by (try dsimp only at hSw); go_simp⟩) (by assumption) ?_
          simp only [Act.put, List.setIfInBounds_toArray, List.set_cons_zero, List.set_cons_succ, List.getElem_toArray, List.getElem_cons_succ, List.getElem_cons_zero]
          refine wpAnyH_take (i := 2) (v := (.pointer (some ⟨d, 0, .none⟩))) rfl (by kernel_rfl) (by kernel_rfl) (by kernel_rfl) (fun _ _ _ h => h) (Or.inl ⟨by rfl, fun ww hSw => by (try dsimp only at hSw); go_simp⟩) (by assumption) ?_
          simp only [Act.put, List.setIfInBounds_toArray, List.set_cons_zero, List.set_cons_succ, List.getElem_toArray, List.getElem_cons_succ, List.getElem_cons_zero]
          refine wpAnyH_take (i := 3) (v := (.pointer (some ⟨d, 0, .none⟩))) rfl (by kernel_rfl) (by kernel_rfl) (by kernel_rfl) (fun _ _ _ h => h) (Or.inl ⟨by rfl, fun ww hSw => by (try dsimp only at hSw); go_simp⟩) (by assumption) ?_
          simp only [Act.put, List.setIfInBounds_toArray, List.set_cons_zero, List.set_cons_succ, List.getElem_toArray, List.getElem_cons_succ, List.getElem_cons_zero]
          refine wpAnyH_take (i := 5) (v := (.slice (some ⟨sb, so, .none⟩) n c)) rfl (by kernel_rfl) (by kernel_rfl) (by kernel_rfl) (fun _ _ _ h => h) (Or.inl ⟨by rfl, fun ww hSw => by (try dsimp only at hSw); go_simp⟩) (by assumption) ?_
          simp only [Act.put, List.setIfInBounds_toArray, List.set_cons_zero, List.set_cons_succ, List.getElem_toArray, List.getElem_cons_succ, List.getElem_cons_zero]
          refine wpAnyH_take (i := 6) (v := (.int .i64 i)) rfl (by kernel_rfl) (by kernel_rfl) (by kernel_rfl) (fun _ _ _ h => h) (Or.inl ⟨by rfl, fun ww hSw => by (try dsimp only at hSw); go_simp⟩) (by assumption) ?_
          simp only [Act.put, List.setIfInBounds_toArray, List.set_cons_zero, List.set_cons_succ, List.getElem_toArray, List.getElem_cons_succ, List.getElem_cons_zero]
          refine wpAnyH_take (i := 7) (v := (.pointer (some ⟨sb, so + i, .none⟩))) rfl (by kernel_rfl) (by kernel_rfl) (by kernel_rfl) (fun _ _ _ h => h) (Or.inl ⟨by rfl, fun ww hSw => by (try dsimp only at hSw); go_simp⟩) (by assumption) ?_
          simp only [Act.put, List.setIfInBounds_toArray, List.set_cons_zero, List.set_cons_succ, List.getElem_toArray, List.getElem_cons_succ, List.getElem_cons_zero]
          refine wpAnyH_take (i := 8) (v := (.int .u8 x)) rfl (by kernel_rfl) (by kernel_rfl) (by kernel_rfl) (fun _ _ _ h => h) (Or.inl ⟨by rfl, fun ww hSw => by (try dsimp only at hSw); go_simp⟩) (by assumption) ?_
          simp only [Act.put, List.setIfInBounds_toArray, List.set_cons_zero, List.set_cons_succ, List.getElem_toArray, List.getElem_cons_succ, List.getElem_cons_zero]
          obtain ⟨U1, hU1⟩ : ∃ U1, U1 = (wr.alloc (.cells #[.int .u8 x] 5)).drew := ⟨_, rfl⟩
          have hbU : Below wr.heap.size wr U1 := by rw [hU1]; exact ((Below.refl _ _).alloc (Nat.le_refl _) _).drew
          have HU1 : Hid (Chg (fun _ => False) wr U1) := Chg.ofBelow hbU
          have hlenI : (xs ++ ys.take i).length = L := hlen
          have HU : Hid (Dr U1 d (.slice ep L ec) r s true wt ∧ U1.ownsRow 0 5 1 (.slice ep L ec) L (by8 (xs ++ ys.take i)) ∧ (∀ j u, (by8 [x])[j]? = some u → U1.cell? ((⟨wr.heap.size, 0, .none⟩ : Addr).add j) = some u) ∧ X ≤ U1.heap.size ∧ U1.cell? ⟨sb, so + i, .none⟩ = some (.int .u8 x) ∧ sb < U1.heap.size ∧ w.heap.size ≤ U1.heap.size) := by
            have hs := hbU.size
            refine ⟨HD.out.raw.keep HU1.out (fun h => h), HU1.out.own (by have := HD.out.row; rw [hlenI] at this; exact this) (fun _ _ h => h), ?_, by omega, (HU1.out.cell (p := ⟨sb, so + i, .none⟩) (lt_cell a0) (fun h => h)).trans a0, by omega, by omega⟩
            rw [hU1]
            exact le_cell1_new wr x 5
          have kS1 : (U1.cell? ⟨sb, so + i, .none⟩ = some (.int .u8 x)) := HU.out.2.2.2.2.1
          refine wpAnyH_ready (rs := [4, 9]) (by kernel_rfl) (by simp) ?_
          refine AllReadyH.cons rfl (fun K hK => ?_) (AllReadyH.cons rfl (fun K hK => ?_) AllReadyH.nil)
          ·
            go_simp
            refine hK.out _ _ kS (fun hHeld => ?_)
            clear hK K
            try simp only [Act.put, List.setIfInBounds_toArray, List.set_cons_zero, List.set_cons_succ, List.getElem_toArray, List.getElem_cons_succ, List.getElem_cons_zero]
            refine wpAnyH_ready (rs := [9]) (by kernel_rfl) (by simp) ?_
            refine AllReadyH.cons rfl (fun K hK => ?_) AllReadyH.nil
            go_simp
            rw [← hU1]
            clear hU1
            refine hK.out _ _ kS1 (fun hHeld => ?_)
            clear hK K
            try simp only [Act.put, List.setIfInBounds_toArray, List.set_cons_zero, List.set_cons_succ, List.getElem_toArray, List.getElem_cons_succ, List.getElem_cons_zero]
            refine wpAnyH_ready (rs := [10]) (by kernel_rfl) (by simp) ?_
            refine AllReadyH.cons rfl (fun K hK => ?_) AllReadyH.nil
            refine step_append_at rfl (.tmp 31) (.tmp 36) 22 rfl 0 5 i3 z3 1 1 Try.underlying22 HI.out.1 HI.out.2.1 HI.out.2.2.1 HI.out.2.2.2.1 HI.out.2.2.2.2 (by decide) (.slice ep L ec) L (by8 (xs ++ ys.take i)) (by simp [Act.eval]) HU.out.2.1 ⟨wr.heap.size, 0, .none⟩ 1 1 (by8 [x]) (by simp [Act.eval]) rfl HU.out.2.2.1 (by8_one _) (by unfold maxLen; omega) (by omega) (Nat.zero_le _) ?_
            intro v' U2 hO2 hg2 hb2
            have hsl : ∃ p' c', v' = .slice p' (L + 1) c' := one_slice hO2
            obtain ⟨p', c', rfl⟩ := hsl
            have t2 : Chg (fun k => (Value.slice ep L ec).ownBlock = some k) U1 U2 := Chg.ofGrown hg2
            have hnd : ¬ (Value.slice ep L ec).ownBlock = some d := fun h => HD.out.ed d h rfl
            have hns : ¬ (Value.slice ep L ec).ownBlock = some sb := fun h => by
              rcases HD.out.sof sb h with h1 | h1
              · exact hsn.2 h1
              · omega
            have HU2 : Hid (Dr U2 d (.slice ep L ec) r s true wt ∧ U2.ownsRow 0 5 1 (.slice p' (L + 1) c') (L + 1) (by8 (xs ++ ys.take (i + 1))) ∧ Sof w e (.slice p' (L + 1) c') ∧ Chg (fun k => k = d ∨ e.ownBlock = some k) w U2 ∧ U2.cell? ⟨sb, so + i, .none⟩ = some (.int .u8 x)) := by
              refine ⟨HU.out.1.keep t2 hnd, ?_, ?_, ?_, (t2.cell (p := ⟨sb, so + i, .none⟩) HU.out.2.2.2.2.2.1 hns).trans HU.out.2.2.2.2.1⟩
              · have e1 := HT.out
                rw [← e1, by8_app]
                exact hO2
              · intro g hg
                rcases hb2 with h1 | h1
                · exact HD.out.sof g (h1.symm.trans hg)
                · have : g = U1.heap.size := by rw [h1] at hg; exact (Option.some.inj hg).symm
                  exact .inr (by have := HU.out.2.2.2.2.2.2; omega)
              · refine (HD.out.chg.trans (HU1.out) (fun k hk h => h.elim)).trans t2 (fun k hk h => ?_)
                rcases HD.out.sof k h with h1 | h1
                · exact .inr h1
                · omega
            have kS2 := HU2.out.2.2.2.2
            clear hO2 hg2 hb2 t2 hnd hns
            refine hK.out _ _ kS2 (fun hHeld => ?_)
            clear hK K
            try simp only [Act.put, List.setIfInBounds_toArray, List.set_cons_zero, List.set_cons_succ, List.getElem_toArray, List.getElem_cons_succ, List.getElem_cons_zero]
            refine wpAnyH_take (i := 11) (v := (.pointer (some ⟨d, 0, .none⟩))) rfl (by kernel_rfl) (by kernel_rfl) (by kernel_rfl) (fun _ _ _ h => h) (Or.inl ⟨by rfl, fun ww hSw => by (try dsimp only at hSw); go_simp⟩) (by assumption) ?_
            simp only [Act.put, List.setIfInBounds_toArray, List.set_cons_zero, List.set_cons_succ, List.getElem_toArray, List.getElem_cons_succ, List.getElem_cons_zero]
            refine wpAnyH_take (i := 12) (v := (.pointer (some ⟨d, 0, .none⟩))) rfl (by kernel_rfl) (by kernel_rfl) (by kernel_rfl) (fun _ _ _ h => h) (Or.inl ⟨by rfl, fun ww hSw => by (try dsimp only at hSw); go_simp⟩) (by assumption) ?_
            simp only [Act.put, List.setIfInBounds_toArray, List.set_cons_zero, List.set_cons_succ, List.getElem_toArray, List.getElem_cons_succ, List.getElem_cons_zero]
            refine wpAnyH_ready (rs := [13]) (by kernel_rfl) (by simp) ?_
            refine AllReadyH.cons rfl (fun K hK => ?_) AllReadyH.nil
            have w0 := HU2.out.1.c0
            have wf := HU2.out.1.fz 0
            go_simp
            have hnsd : sb ≠ d := hsn.1
            have kS3 : ((U2.setCell ⟨d, 0, .none⟩ (.slice p' (L + 1) c')).cell? ⟨sb, so + i, .none⟩ = some (.int .u8 x)) := ((Trn.setCell d 0 _ U2).cell (p := ⟨sb, so + i, .none⟩) (lt_cell HU2.out.2.2.2.2) hnsd).trans HU2.out.2.2.2.2
            have HU3 : Hid (∃ e', Dp w (U2.setCell ⟨d, 0, .none⟩ (.slice p' (L + 1) c')) d e e' X (xs ++ ys.take (i + 1)) r s true wt) := by
              have hl2 : (xs ++ ys.take (i + 1)).length = L + 1 := by rw [List.length_append, List.length_take]; omega
              have ed2 : ∀ g, (Value.slice p' (L + 1) c').ownBlock = some g → g ≠ d := fun g hg => by
                rcases HU2.out.2.2.1 g hg with h1 | h1
                · exact HED.out g h1
                · omega
              exact ⟨_, HU2.out.1.set0 _, by rw [hl2]; exact own_setd HU2.out.2.1 ed2 _, HU2.out.2.2.1, HU2.out.2.2.2.1.trans (chg_set d 0 _ _) (fun k _ h => .inl h), ed2⟩
            refine hK.out _ _ kS3 (fun hHeld => ?_)
            clear hK K
            try simp only [Act.put, List.setIfInBounds_toArray, List.set_cons_zero, List.set_cons_succ, List.getElem_toArray, List.getElem_cons_succ, List.getElem_cons_zero]
            refine wpAnyH_done (by kernel_rfl) ?_ _
            generalize U2.setCell ⟨d, 0, .none⟩ (.slice p' (L + 1) c') = U3 at *
            clear hHeld kS kS2 kS3 w0 wf HU2 HU HU1
            go_wp2
            exact ⟨⟨i + 1, by omega, rfl, HU3⟩, by simp only [intOf]; omega⟩
          ·
            go_simp
            rw [← hU1]
            clear hU1
            refine hK.out _ _ kS1 (fun hHeld => ?_)
            clear hK K
            try simp only [Act.put, List.setIfInBounds_toArray, List.set_cons_zero, List.set_cons_succ, List.getElem_toArray, List.getElem_cons_succ, List.getElem_cons_zero]
            refine wpAnyH_ready (rs := [4]) (by kernel_rfl) (by simp) ?_
            refine AllReadyH.cons rfl (fun K hK => ?_) AllReadyH.nil
            have u0 := HU.out.1.c0
            go_simp
            refine hK.out _ _ kS1 (fun hHeld => ?_)
            clear hK K
            try simp only [Act.put, List.setIfInBounds_toArray, List.set_cons_zero, List.set_cons_succ, List.getElem_toArray, List.getElem_cons_succ, List.getElem_cons_zero]
            refine wpAnyH_ready (rs := [10]) (by kernel_rfl) (by simp) ?_
            refine AllReadyH.cons rfl (fun K hK => ?_) AllReadyH.nil
            refine step_append_at rfl (.tmp 31) (.tmp 36) 22 rfl 0 5 i3 z3 1 1 Try.underlying22 HI.out.1 HI.out.2.1 HI.out.2.2.1 HI.out.2.2.2.1 HI.out.2.2.2.2 (by decide) (.slice ep L ec) L (by8 (xs ++ ys.take i)) (by simp [Act.eval]) HU.out.2.1 ⟨wr.heap.size, 0, .none⟩ 1 1 (by8 [x]) (by simp [Act.eval]) rfl HU.out.2.2.1 (by8_one _) (by unfold maxLen; omega) (by omega) (Nat.zero_le _) ?_
            intro v' U2 hO2 hg2 hb2
            have hsl : ∃ p' c', v' = .slice p' (L + 1) c' := one_slice hO2
            obtain ⟨p', c', rfl⟩ := hsl
            have t2 : Chg (fun k => (Value.slice ep L ec).ownBlock = some k) U1 U2 := Chg.ofGrown hg2
            have hnd : ¬ (Value.slice ep L ec).ownBlock = some d := fun h => HD.out.ed d h rfl
            have hns : ¬ (Value.slice ep L ec).ownBlock = some sb := fun h => by
              rcases HD.out.sof sb h with h1 | h1
              · exact hsn.2 h1
              · omega
            have HU2 : Hid (Dr U2 d (.slice ep L ec) r s true wt ∧ U2.ownsRow 0 5 1 (.slice p' (L + 1) c') (L + 1) (by8 (xs ++ ys.take (i + 1))) ∧ Sof w e (.slice p' (L + 1) c') ∧ Chg (fun k => k = d ∨ e.ownBlock = some k) w U2 ∧ U2.cell? ⟨sb, so + i, .none⟩ = some (.int .u8 x)) := by
              refine ⟨HU.out.1.keep t2 hnd, ?_, ?_, ?_, (t2.cell (p := ⟨sb, so + i, .none⟩) HU.out.2.2.2.2.2.1 hns).trans HU.out.2.2.2.2.1⟩
              · have e1 := HT.out
                rw [← e1, by8_app]
                exact hO2
              · intro g hg
                rcases hb2 with h1 | h1
                · exact HD.out.sof g (h1.symm.trans hg)
                · have : g = U1.heap.size := by rw [h1] at hg; exact (Option.some.inj hg).symm
                  exact .inr (by have := HU.out.2.2.2.2.2.2; omega)
              · refine (HD.out.chg.trans (HU1.out) (fun k hk h => h.elim)).trans t2 (fun k hk h => ?_)
                rcases HD.out.sof k h with h1 | h1
                · exact .inr h1
                · omega
            have kS2 := HU2.out.2.2.2.2
            clear hO2 hg2 hb2 t2 hnd hns
            refine hK.out _ _ kS2 (fun hHeld => ?_)
            clear hK K
            try simp only [Act.put, List.setIfInBounds_toArray, List.set_cons_zero, List.set_cons_succ, List.getElem_toArray, List.getElem_cons_succ, List.getElem_cons_zero]
            refine wpAnyH_take (i := 11) (v := (.pointer (some ⟨d, 0, .none⟩))) rfl (by kernel_rfl) (by kernel_rfl) (by kernel_rfl) (fun _ _ _ h => h) (Or.inl ⟨by rfl, fun ww hSw => by (try dsimp only at hSw); go_simp⟩) (by assumption) ?_
            simp only [Act.put, List.setIfInBounds_toArray, List.set_cons_zero, List.set_cons_succ, List.getElem_toArray, List.getElem_cons_succ, List.getElem_cons_zero]
            refine wpAnyH_take (i := 12) (v := (.pointer (some ⟨d, 0, .none⟩))) rfl (by kernel_rfl) (by kernel_rfl) (by kernel_rfl) (fun _ _ _ h => h) (Or.inl ⟨by rfl, fun ww hSw => by (try dsimp only at hSw); go_simp⟩) (by assumption) ?_
            simp only [Act.put, List.setIfInBounds_toArray, List.set_cons_zero, List.set_cons_succ, List.getElem_toArray, List.getElem_cons_succ, List.getElem_cons_zero]
            refine wpAnyH_ready (rs := [13]) (by kernel_rfl) (by simp) ?_
            refine AllReadyH.cons rfl (fun K hK => ?_) AllReadyH.nil
            have w0 := HU2.out.1.c0
            have wf := HU2.out.1.fz 0
            go_simp
            have hnsd : sb ≠ d := hsn.1
            have kS3 : ((U2.setCell ⟨d, 0, .none⟩ (.slice p' (L + 1) c')).cell? ⟨sb, so + i, .none⟩ = some (.int .u8 x)) := ((Trn.setCell d 0 _ U2).cell (p := ⟨sb, so + i, .none⟩) (lt_cell HU2.out.2.2.2.2) hnsd).trans HU2.out.2.2.2.2
            have HU3 : Hid (∃ e', Dp w (U2.setCell ⟨d, 0, .none⟩ (.slice p' (L + 1) c')) d e e' X (xs ++ ys.take (i + 1)) r s true wt) := by
              have hl2 : (xs ++ ys.take (i + 1)).length = L + 1 := by rw [List.length_append, List.length_take]; omega
              have ed2 : ∀ g, (Value.slice p' (L + 1) c').ownBlock = some g → g ≠ d := fun g hg => by
                rcases HU2.out.2.2.1 g hg with h1 | h1
                · exact HED.out g h1
                · omega
              exact ⟨_, HU2.out.1.set0 _, by rw [hl2]; exact own_setd HU2.out.2.1 ed2 _, HU2.out.2.2.1, HU2.out.2.2.2.1.trans (chg_set d 0 _ _) (fun k _ h => .inl h), ed2⟩
            refine hK.out _ _ kS3 (fun hHeld => ?_)
            clear hK K
            try simp only [Act.put, List.setIfInBounds_toArray, List.set_cons_zero, List.set_cons_succ, List.getElem_toArray, List.getElem_cons_succ, List.getElem_cons_zero]
            refine wpAnyH_done (by kernel_rfl) ?_ _
            generalize U2.setCell ⟨d, 0, .none⟩ (.slice p' (L + 1) c') = U3 at *
            clear hHeld kS kS2 kS3 w0 wf HU2 HU HU1
            go_wp2
            exact ⟨⟨i + 1, by omega, rfl, HU3⟩, by simp only [intOf]; omega⟩
        · obtain rfl : i = m := by omega
          have c2 := HD.out.raw.c2
          have f2 := HD.out.raw.fz 2
          have hml : (xs ++ ys.take i).length = xs.length + i := hlen
          have ew : IntKind.u32.wrap (s + i) = (s + i) % 4294967296 := by simp [IntKind.wrap, IntKind.bits, IntKind.signed]
          have ew2 : IntKind.u32.wrap i = i := by have := HM.out; simp only [IntKind.wrap, IntKind.bits, IntKind.signed]; simp; omega
          have HF : Hid (Dq (wr.setCell ⟨d, 2, .none⟩ (.int .u32 ((s + i) % 4294967296))) d (.slice ep (xs.length + i) ec) X (xs ++ ys.take i) r true wt ∧ Sof w e (.slice ep (xs.length + i) ec) ∧ Chg (fun k => k = d ∨ e.ownBlock = some k) w (wr.setCell ⟨d, 2, .none⟩ (.int .u32 ((s + i) % 4294967296)))) := by
            have e1 : (s + (i : Int)) % 4294967296 = (r + ((xs ++ ys.take i).length : Int)) % 4294967296 := by rw [hml, HSS.out]; omega
            rw [e1]
            have hsz := HD.out.chg.size
            exact ⟨⟨HD.out.raw.set2 _, by have := HD.out.row; exact own_setd this HD.out.ed _, hdX, by simp [World.setCell]; omega, hbr, by rw [hml]; have := HM.out; omega, HD.out.ed⟩, HD.out.sof, HD.out.chg.trans (chg_set d 2 _ _) (fun k _ h => .inl h)⟩
          by_cases hin : i < n
          · have j1 : (i : Int) < n := by omega
            have j2 : ¬ ((xs.length : Int) + i < 512) := by have := HM.out; omega
            go_wp2
            go_ret2
            exact ⟨by rw [HH.out, if_pos hin]; rfl, _, HF.out.1, HF.out.2.1, HF.out.2.2⟩
          · have j1 : ¬ (i : Int) < n := by omega
            go_wp2
            go_ret2
            exact ⟨by rw [HH.out, if_neg hin]; rfl, _, HF.out.1, HF.out.2.1, HF.out.2.2⟩
end Go.Proofs.Ytabhojfdkmeaoab
