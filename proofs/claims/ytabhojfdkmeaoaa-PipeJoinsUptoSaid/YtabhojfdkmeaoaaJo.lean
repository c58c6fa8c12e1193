import Derived.Test.YtabhojfdkmeaoaaRn
import Derived.Test.YtabhojfdkmeaoaaCp
import Derived.Test.YtabhojfdkmeaoaaAp
namespace Go.Proofs.Ytabhojfdkmeaoaa
open Go.RowKit
set_option linter.unusedVariables false
set_option linter.unusedSimpArgs false
theorem putN_le (X : List Int) (rd : Bool) (a : List Int) : putN X rd a ≤ a.length := by unfold putN; split <;> omega
theorem putHow_ne (X : List Int) (rd : Bool) (b : List Int) (h : ¬ b.length = 0) : putHow X rd b = if rd = true then (if putN X rd b < b.length then 2 else 1) else 3 := by unfold putHow; rw [if_neg h]
theorem join_go {X a b : List Int} {rd : Bool} (hX : X.length ≤ 512) (h1 : putHow X rd a = 1) : putN X rd a + putN (X ++ a.take (putN X rd a)) rd b = putN X rd (a ++ b) ∧ (0 < b.length → putHow (X ++ a.take (putN X rd a)) rd b = putHow X rd (a ++ b)) ∧
    (X ++ a.take (putN X rd a)) ++ b.take (putN (X ++ a.take (putN X rd a)) rd b) = X ++ (a ++ b).take (putN X rd (a ++ b)) := by
  have hx : putN X rd a = a.length := by
    unfold putHow at h1
    split at h1
    · have := putN_le X rd a; omega
    · split at h1
      · split at h1
        · cases h1
        · have := putN_le X rd a; omega
      · cases h1
  have ht : a.take (putN X rd a) = a := by rw [hx, List.take_length]
  rw [ht, hx]
  have e1 : a.length + putN (X ++ a) rd b = putN X rd (a ++ b) := by
    cases rd with
    | true =>
      simp only [putN, if_true, List.length_append] at hx ⊢
      omega
    | false =>
      have h0 : a.length = 0 := by rw [← hx]; rfl
      show a.length + 0 = 0
      omega
  refine ⟨e1, fun hb => ?_, ?_⟩
  · rw [putHow_ne _ _ _ (by omega), putHow_ne _ _ _ (by rw [List.length_append]; omega), ← e1, List.length_append]
    by_cases h3 : putN (X ++ a) rd b < b.length
    · rw [if_pos h3, if_pos (show a.length + putN (X ++ a) rd b < a.length + b.length by omega)]
    · rw [if_neg h3, if_neg (show ¬ a.length + putN (X ++ a) rd b < a.length + b.length by omega)]
  · rw [← e1, List.append_assoc]
    congr 1
    rw [List.take_append, List.take_of_length_le (show a.length ≤ a.length + putN (X ++ a) rd b by omega), Nat.add_sub_cancel_left]
theorem join_stop {X a b : List Int} {rd : Bool} (hX : X.length ≤ 512) (h1 : putHow X rd a ≠ 1) : putN X rd a = putN X rd (a ++ b) ∧ putHow X rd a = putHow X rd (a ++ b) ∧ X ++ a.take (putN X rd a) = X ++ (a ++ b).take (putN X rd (a ++ b)) := by
  have ha : ¬ a.length = 0 := fun h => h1 (by unfold putHow; rw [if_pos h])
  have hal : ¬ (a ++ b).length = 0 := by rw [List.length_append]; omega
  rw [putHow_ne _ _ _ ha] at h1
  rw [putHow_ne _ _ _ ha, putHow_ne _ _ _ hal]
  cases rd with
  | true =>
    rw [if_pos rfl] at h1
    have hlt : putN X true a < a.length := by
      by_cases h : putN X true a < a.length
      · exact h
      · rw [if_neg h] at h1
        exact absurd rfl h1
    have e : putN X true a = putN X true (a ++ b) := by
      simp only [putN, if_true, List.length_append] at hlt ⊢
      omega
    refine ⟨e, ?_, ?_⟩
    · rw [← e, if_pos rfl, if_pos rfl, if_pos hlt, if_pos (by rw [List.length_append]; omega)]
    · rw [← e, List.take_append_of_le_length (by omega)]
  | false => exact ⟨by simp [putN], by simp, by simp [putN]⟩
theorem take_join (X : List Int) (m n : Int) (hm : 1 ≤ m) (hn : 1 ≤ n) : takeN X m + takeN (X.drop (takeN X m)) n = takeN X (m + n) ∧ X.take (takeN X m) ++ (X.drop (takeN X m)).take (takeN (X.drop (takeN X m)) n) = X.take (takeN X (m + n)) ∧ (X.drop (takeN X m)).drop (takeN (X.drop (takeN X m)) n) = X.drop (takeN X (m + n)) := by
  have e : takeN X m + takeN (X.drop (takeN X m)) n = takeN X (m + n) := by
    unfold takeN
    rw [List.length_drop]
    omega
  refine ⟨e, ?_, ?_⟩
  · rw [← e, List.take_add]
  · rw [← e, List.drop_drop]
/-- What made() gives: the pipe of the state, or a new one. -/
def mkX (n : Nat) (R S : Int) (xs : List Int) : List Int := if okS n R S then xs else []
def mkR (n : Nat) (R S : Int) : Int := if okS n R S then R else 0
def mkB (n : Nat) (R S : Int) (b : Bool) : Bool := if okS n R S then b else true
/-- The pipe that made() gives. -/
theorem made_any {w : World} {p : Option Addr} {n c : Nat} {xs : List Int} (R S : Int) (rd wt : Bool) (hB : Byt w p n c xs) (hy : ∀ y ∈ xs, 0 ≤ y ∧ y < 256) (hR : 0 ≤ R ∧ R < 4294967296) (hS : 0 ≤ S ∧ S < 4294967296) :
    Calls Try.prog 19 #[.agg #[.slice p n c, .int .u32 R, .int .u32 S, .bool rd, .bool wt]] w fun e w' => Below w.heap.size w w' ∧ ∃ b, w.heap.size ≤ b ∧ e = .returned (.pointer (some ⟨b, 0, .none⟩)) ∧
      Pip w' b (mkX n R S xs) (mkR n R S) (mkB n R S rd) (mkB n R S wt) := by
  have HB : Hid (Byt w p n c xs ∧ (∀ y ∈ xs, 0 ≤ y ∧ y < 256)) := ⟨hB, hy⟩
  clear hB hy
  go_enter Try.func19, Try.ntmps19
  go_upto_region 1 with fail
  have hs1 := sb_new w p n c R S rd wt
  have hb1 := Trn.new w (.cells #[.slice p n c, .int .u32 R, .int .u32 S, .bool rd, .bool wt] 36)
  generalize w.alloc (.cells #[.slice p n c, .int .u32 R, .int .u32 S, .bool rd, .bool wt] 36) = W1 at *
  have H1 : Hid (Sb W1 w.heap.size p n c R S rd wt ∧ Below w.heap.size w W1) := ⟨hs1, hb1⟩
  clear hs1 hb1
  refine wp_region_lit ?_
  refine wpList_load_mid rfl 36 (.tmp 1) rfl w.heap.size 0 (by rfl) _ _ H1.out.1.rangeAt Try.underlying36 rfl (by kernel_rfl) ?_
  simp only [Act.put, List.setIfInBounds_toArray, List.set_cons_succ, List.set_cons_zero]
  go_wp2_with fail
  refine (from_any R S rd wt (byt_below HB.out.1 H1.out.2) HB.out.2 hR hS).mono ?_
  rintro e W2 ⟨hb2, hr2⟩
  have hz := H1.out.2.size
  have H2 : Hid (Below w.heap.size w W2) := H1.out.2.trans (hb2.mono hz)
  rcases hr2 with ⟨hno, gg, rfl, _⟩ | ⟨hok, b, hb, rfl, hp⟩
  · have HN : Hid (¬ okS n R S) := hno
    clear hno hb2
    go_wp2_with fail
    refine (new_any W2).mono ?_
    rintro e W3 ⟨rfl, hp3, hb3⟩
    have H3 : Hid (Below w.heap.size w W3 ∧ Pip W3 W2.heap.size [] 0 true true ∧ w.heap.size ≤ W2.heap.size) := ⟨H2.out.trans (hb3.mono H2.out.size), hp3, H2.out.size⟩
    generalize W2.heap.size = b at *
    clear hp3 hb3
    go_wp2
    go_ret
    refine ⟨H3.out.1, b, H3.out.2.2, rfl, ?_⟩
    simp only [mkX, mkR, mkB, if_neg HN.out]
    exact H3.out.2.1
  · have HY : Hid (okS n R S ∧ Pip W2 b xs R rd wt ∧ w.heap.size ≤ b) := ⟨hok, hp, by omega⟩
    clear hok hb hp hb2
    go_wp2
    go_ret
    refine ⟨H2.out, b, HY.out.2.2, rfl, ?_⟩
    simp only [mkX, mkR, mkB, if_pos HY.out.1]
    exact HY.out.2.1
theorem pip_belowB {w v : World} {b B : Nat} {xs : List Int} {r : Int} {rd wt : Bool} (h : Pip w b xs r rd wt) (t : Below B w v) (hB : b < B) : Pip v b xs r rd wt := by
  obtain ⟨h1, C, h2, h3⟩ := h
  exact ⟨h1, C, ⟨fun i hi => (t.cell (p := ⟨b, i, .none⟩) hB).trans (h2.cb i hi), fun i => (t.frozen (p := ⟨b, i, .none⟩) hB).trans (h2.fb i), (t.cell (p := ⟨b, 512, .none⟩) hB).trans h2.c1, (t.cell (p := ⟨b, 513, .none⟩) hB).trans h2.c2, (t.cell (p := ⟨b, 514, .none⟩) hB).trans h2.c3, (t.cell (p := ⟨b, 515, .none⟩) hB).trans h2.c4, (t.cell (p := ⟨b, 516, .none⟩) hB).trans h2.c5, h2.bb, h2.br, h2.bs⟩, h3⟩
theorem own_below {w v : World} {X e sz : Nat} {m : Value} {n : Nat} {xs : List Value} (h : w.ownsRow X e sz m n xs) (t : Below w.heap.size w v) : v.ownsRow X e sz m n xs := by
  rcases h with ⟨h1, h2 | ⟨g, cap, cur, rfl, h3, h4, h5⟩⟩
  · exact ⟨h1, .inl h2⟩
  · have hg : g < w.heap.size := (Array.getElem?_eq_some_iff.1 h4).1
    exact ⟨h1, .inr ⟨g, cap, cur, rfl, h3, (t.block g hg).trans h4, h5⟩⟩
set_option maxHeartbeats 4000000 in
set_option maxRecDepth 100000 in
theorem joins_any (w : World) (sp : Option Addr) (sn sc : Nat) (sx : List Int) (R S : Int) (rd wt : Bool) (hB : Byt w sp sn sc sx) (hxb : ∀ y ∈ sx, 0 ≤ y ∧ y < 256) (hR : 0 ≤ R ∧ R < 4294967296) (hS : 0 ≤ S ∧ S < 4294967296)
    (pa : Option Addr) (na ca : Nat) (al : List Int) (hBa : Byt w pa na ca al) (hab : ∀ y ∈ al, 0 ≤ y ∧ y < 256) (pb : Option Addr) (nb cb : Nat) (bl : List Int) (hBb : Byt w pb nb cb bl) (hbb : ∀ y ∈ bl, 0 ≤ y ∧ y < 256) (hna : na ≤ 1048576) (hnb : nb ≤ 1048576) (M Nn : Int) :
    Calls Try.prog 7 #[.agg #[.slice sp sn sc, .int .u32 R, .int .u32 S, .bool rd, .bool wt], .slice pa na ca, .slice pb nb cb, .int .i64 M, .int .i64 Nn] w fun e w' => e = .returned (.bool true) ∧ Below w.heap.size w w' := by
  have HS : Hid (Byt w sp sn sc sx ∧ (∀ y ∈ sx, 0 ≤ y ∧ y < 256) ∧ (0 ≤ R ∧ R < 4294967296) ∧ (0 ≤ S ∧ S < 4294967296)) := ⟨hB, hxb, hR, hS⟩
  have HAB : Hid (Byt w pa na ca al ∧ (∀ y ∈ al, 0 ≤ y ∧ y < 256) ∧ Byt w pb nb cb bl ∧ (∀ y ∈ bl, 0 ≤ y ∧ y < 256)) := ⟨hBa, hab, hBb, hbb⟩
  have hla : Hid (al.length = na) := hBa.1
  have hlb : Hid (bl.length = nb) := hBb.1
  clear hB hxb hR hS hBa hab hBb hbb
  go_enter Try.func7, Try.ntmps7
  go_wp2_with fail
  have hs1 := sb_new w sp sn sc R S rd wt
  have hb1 := Trn.new w (.cells #[.slice sp sn sc, .int .u32 R, .int .u32 S, .bool rd, .bool wt] 36)
  have hz1 : (w.alloc (.cells #[.slice sp sn sc, .int .u32 R, .int .u32 S, .bool rd, .bool wt] 36)).heap.size = w.heap.size + 1 := by simp
  generalize w.alloc (.cells #[.slice sp sn sc, .int .u32 R, .int .u32 S, .bool rd, .bool wt] 36) = W1 at *
  refine (works_any W1).mono ?_
  rintro e W2 ⟨rfl, hb2⟩
  have H2 : Hid (Sb W2 w.heap.size sp sn sc R S rd wt ∧ Below w.heap.size w W2 ∧ w.heap.size < W2.heap.size) := ⟨hs1.below hb2, hb1.trans (hb2.mono (by omega)), by have := hb2.size; omega⟩
  clear hs1 hb1 hz1 hb2
  go_upto_region 3 with fail
  have kS : Sb W2.drew w.heap.size sp sn sc R S rd wt := ⟨H2.out.1.c0, H2.out.1.c1, H2.out.1.c2, H2.out.1.c3, H2.out.1.c4⟩
  refine wp_region_held_drew (S := fun U => Sb U w.heap.size sp sn sc R S rd wt) (by kernel_rfl) kS (fun hHeld => ?_)
  refine wpAnyH_take (i := 0) (v := (.agg #[.slice sp sn sc, .int .u32 R, .int .u32 S, .bool rd, .bool wt])) rfl (by kernel_rfl) (by kernel_rfl) (by kernel_rfl) (fun _ _ _ h => h) (yieldsIf_load_mid (by rfl) 36 (.tmp 5) rfl w.heap.size 0 (by rfl) _ _ (fun ww hSw => Sb.rangeAt hSw) Try.underlying36 rfl (by kernel_rfl)) (by assumption) ?_
  simp only [Act.put, List.setIfInBounds_toArray, List.set_cons_zero, List.set_cons_succ, List.getElem_toArray, List.getElem_cons_succ, List.getElem_cons_zero]
  refine wpAnyH_take (i := 2) (v := (.agg #[.slice sp sn sc, .int .u32 R, .int .u32 S, .bool rd, .bool wt])) rfl (by kernel_rfl) (by kernel_rfl) (by kernel_rfl) (fun _ _ _ h => h) (yieldsIf_load_mid (by rfl) 36 (.tmp 5) rfl w.heap.size 0 (by rfl) _ _ (fun ww hSw => Sb.rangeAt hSw) Try.underlying36 rfl (by kernel_rfl)) (by assumption) ?_
  simp only [Act.put, List.setIfInBounds_toArray, List.set_cons_zero, List.set_cons_succ, List.getElem_toArray, List.getElem_cons_succ, List.getElem_cons_zero]
  refine wpAnyH_ready (rs := [1]) (by kernel_rfl) (by simp) ?_
  refine AllReadyH.cons rfl (fun K hK => ?_) AllReadyH.nil
  go_simp
  have c19 := made_any (w := W2.drew) R S rd wt (byt_below HS.out.1 (v := W2.drew) H2.out.2.1.drew) HS.out.2.1 HS.out.2.2.1 HS.out.2.2.2
  refine c19.mono ?_
  rintro e W3 ⟨hb3, b1, hb1, rfl, hp1⟩
  have hz2 : W2.drew.heap.size = W2.heap.size := rfl
  rw [hz2] at hb1 hb3
  have H3 : Hid (Sb W3 w.heap.size sp sn sc R S rd wt ∧ Below w.heap.size w W3 ∧ W2.heap.size ≤ b1 ∧ b1 < W3.heap.size) := ⟨H2.out.1.below ⟨hb3.os, hb3.tape, hb3.output, hb3.size, hb3.block⟩, H2.out.2.1.trans ((Below.mono ⟨hb3.os, hb3.tape, hb3.output, hb3.size, hb3.block⟩ (Nat.le_of_lt H2.out.2.2))), hb1, hp1.lt⟩
  have kS3 := H3.out.1
  have c19 := made_any (w := W3) R S rd wt (byt_below HS.out.1 H3.out.2.1) HS.out.2.1 HS.out.2.2.1 HS.out.2.2.2
  refine hK.out _ _ kS3 (fun hHeld => ?_)
  clear hK K
  try simp only [Act.put, List.setIfInBounds_toArray, List.set_cons_zero, List.set_cons_succ, List.getElem_toArray, List.getElem_cons_succ, List.getElem_cons_zero]
  refine wpAnyH_ready (rs := [3]) (by kernel_rfl) (by simp) ?_
  refine AllReadyH.cons rfl (fun K hK => ?_) AllReadyH.nil
  go_simp
  refine c19.mono ?_
  rintro e W4 ⟨hb4, b2, hb2, rfl, hp2⟩
  have hs2 := H2.out.2.2
  have H4 : Hid (Tw w W4 b1 b2 (mkX sn R S sx) (mkR sn R S) (mkB sn R S rd) (mkB sn R S wt) (mkX sn R S sx) (mkR sn R S) (mkB sn R S rd) (mkB sn R S wt)) :=
    ⟨H3.out.2.1.trans (hb4.mono H3.out.2.1.size), by have := H3.out.2.2.1; omega, by have := H3.out.2.1.size; omega, by have := H3.out.2.2.2; omega, hp1.below hb4, hp2⟩
  have kS4 : Sb W4 w.heap.size sp sn sc R S rd wt := H3.out.1.below hb4
  refine hK.out _ _ kS4 (fun hHeld => ?_)
  clear hK K
  try simp only [Act.put, List.setIfInBounds_toArray, List.set_cons_zero, List.set_cons_succ, List.getElem_toArray, List.getElem_cons_succ, List.getElem_cons_zero]
  refine wpAnyH_take (i := 4) (v := (.pointer (some ⟨b1, 0, .none⟩))) rfl (by kernel_rfl) (by kernel_rfl) (by kernel_rfl) (fun _ _ _ h => h) (Or.inl ⟨by rfl, fun ww hSw => by (try dsimp only at hSw); go_simp⟩) (by assumption) ?_
  simp only [Act.put, List.setIfInBounds_toArray, List.set_cons_zero, List.set_cons_succ, List.getElem_toArray, List.getElem_cons_succ, List.getElem_cons_zero]
  refine wpAnyH_take (i := 5) (v := (.pointer (some ⟨b2, 0, .none⟩))) rfl (by kernel_rfl) (by kernel_rfl) (by kernel_rfl) (fun _ _ _ h => h) (Or.inl ⟨by rfl, fun ww hSw => by (try dsimp only at hSw); go_simp⟩) (by assumption) ?_
  simp only [Act.put, List.setIfInBounds_toArray, List.set_cons_zero, List.set_cons_succ, List.getElem_toArray, List.getElem_cons_succ, List.getElem_cons_zero]
  refine wpAnyH_done (by kernel_rfl) ?_ _
  clear c19 hp1 hp2 hb2 hb3 hb4 hb1 kS kS3 kS4 hHeld hs2 hz2 H3 H2
  generalize (mkX sn R S sx) = X at *
  generalize (mkR sn R S) = r at *
  generalize (mkB sn R S rd) = rd' at *
  generalize (mkB sn R S wt) = wt' at *
  clear HS
  go_wp2_with fail
  refine (copyBytes_any (byt_below HAB.out.1 H4.out.bel) (by omega)).mono ?_
  rintro e W5 ⟨cp, cc, rfl, hO5, hb5⟩
  rw [hla.out] at hO5 ⊢
  have H5 : Hid (Tw w W5 b1 b2 X r rd' wt' X r rd' wt' ∧ W5.ownsRow W4.heap.size 5 1 (.slice cp na cc) na (by8 al) ∧ W4.heap.size ≤ W5.heap.size ∧ b1 < W4.heap.size ∧ b2 < W4.heap.size) := ⟨H4.out.below hb5, hO5, hb5.size, H4.out.p1.lt, H4.out.p2.lt⟩
  clear hO5 hb5 H4
  have Bb5 : Hid (Byt W5 pb nb cb bl) := byt_below HAB.out.2.2.1 H5.out.1.bel
  go_wp2_with (first | (at_builtin; refine wpList_app rfl (.tmp 32) (.tmp 33) rfl W4.heap.size (.slice cp na cc) na al rfl pb nb cb bl rfl H5.out.2.1 Bb5.out ?c1 ?c2 ?_) | fail)
  case c1 => omega
  case c2 => exact H5.out.2.2.1
  intro v' W6 hO6 hg6 _
  obtain ⟨wp, wc, rfl⟩ := one_slice hO6
  have hbk6 : ∀ k, (Value.slice cp na cc).ownBlock = some k → W4.heap.size ≤ k := own_block H5.out.2.1
  have t6 : Below W4.heap.size W5 W6 := (Below.refl _ _).grown hg6 H5.out.2.2.1 hbk6
  have H6 : Hid (Tw w W6 b1 b2 X r rd' wt' X r rd' wt' ∧ W6.ownsRow W4.heap.size 5 1 (.slice wp (na + nb) wc) (na + nb) (by8 (al ++ bl)) ∧ b1 < W4.heap.size ∧ b2 < W4.heap.size) := by
    obtain ⟨h1, h2, h3, h4, h5⟩ := H5.out
    have tt : Trn W4.heap.size W5 W6 → True := fun _ => trivial
    refine ⟨⟨h1.bel.trans (t6.mono (Nat.le_trans h1.g1 (Nat.le_of_lt h4))), h1.g1, h1.g2, h1.ne, ?_, ?_⟩, hO6, h4, h5⟩
    · exact pip_belowB h1.p1 t6 h4
    · exact pip_belowB h1.p2 t6 h5
  generalize W4.heap.size = X0 at *
  clear hO6 hg6 t6 hbk6 H5 Bb5
  have hx512 := H6.out.1.p1.1
  go_wp2_with fail
  refine (lend_any (byt_below HAB.out.1 H6.out.1.bel) (by omega)).mono ?_
  rintro e V1 ⟨g1, cg1, rfl, hL1, hb1⟩
  have G1 : Hid (Tw w V1 b1 b2 X r rd' wt' X r rd' wt' ∧ V1.ownsRow X0 5 1 (.slice wp (na + nb) wc) (na + nb) (by8 (al ++ bl))) := ⟨H6.out.1.below hb1, own_below H6.out.2.1 hb1⟩
  have c10 := put_lent G1.out.1.l1 hL1 H6.out.1.p1.lt HAB.out.2.1 hla.out.symm
  clear hb1
  go_wp2_with fail
  refine c10.mono ?_
  rintro e V2 ⟨rfl, hp2, ht2⟩
  have HX0 : Hid (b1 < X0 ∧ b2 < X0) := H6.out.2.2
  have G2 : Hid (Tw w V2 b1 b2 (X ++ al.take (putN X rd' al)) r rd' wt' X r rd' wt' ∧ V2.ownsRow X0 5 1 (.slice wp (na + nb) wc) (na + nb) (by8 (al ++ bl))) := ⟨G1.out.1.t1 ht2 hp2.pip, ht2.own G1.out.2 (fun g hg e => by have := own_block G1.out.2 g hg; have := HX0.out.1; omega)⟩
  clear c10 hp2 ht2 hL1 G1 H6
  by_cases h1 : putHow X rd' al = 1
  · have HG := join_go (b := bl) hx512 h1
    have HJ : Hid (putN X rd' al + putN (X ++ al.take (putN X rd' al)) rd' bl = putN X rd' (al ++ bl) ∧ (0 < bl.length → putHow (X ++ al.take (putN X rd' al)) rd' bl = putHow X rd' (al ++ bl)) ∧ (X ++ al.take (putN X rd' al)) ++ bl.take (putN (X ++ al.take (putN X rd' al)) rd' bl) = X ++ (al ++ bl).take (putN X rd' (al ++ bl))) := HG
    clear HG
    rw [h1]
    have hxl := putN_le X rd' al
    rw [hla.out] at hxl
    generalize putN X rd' al = x at *
    generalize X ++ al.take x = Y0 at *
    go_wp2_with fail
    refine (lend_any (byt_below HAB.out.2.2.1 G2.out.1.bel) (by omega)).mono ?_
    rintro e V3 ⟨g3, cg3, rfl, hL3, hb3⟩
    have G3 : Hid (Tw w V3 b1 b2 Y0 r rd' wt' X r rd' wt' ∧ V3.ownsRow X0 5 1 (.slice wp (na + nb) wc) (na + nb) (by8 (al ++ bl))) := ⟨G2.out.1.below hb3, own_below G2.out.2 hb3⟩
    have c10 := put_lent G3.out.1.l1 hL3 G2.out.1.p1.lt HAB.out.2.2.2 hlb.out.symm
    clear hb3
    go_wp2_with fail
    refine c10.mono ?_
    rintro e V4 ⟨rfl, hp4, ht4⟩
    have GT : Hid (Tw w V4 b1 b2 (Y0 ++ bl.take (putN Y0 rd' bl)) r rd' wt' X r rd' wt' ∧ V4.ownsRow X0 5 1 (.slice wp (na + nb) wc) (na + nb) (by8 (al ++ bl))) := ⟨G3.out.1.t1 ht4 hp4.pip, ht4.own G3.out.2 (fun g hg e => by have := own_block G3.out.2 g hg; have := HX0.out.1; omega)⟩
    clear c10 hp4 ht4 hL3 G3 G2
    have hyl := putN_le Y0 rd' bl
    rw [hlb.out] at hyl
    generalize putHow Y0 rd' bl = h at *
    generalize putN Y0 rd' bl = y at *
    generalize Y0 ++ bl.take y = Y at *
    have Bw : Hid (Byt V4 wp (na + nb) wc (al ++ bl)) := byt_own GT.out.2
    go_wp2_with fail
    refine (lend_any Bw.out (by omega)).mono ?_
    rintro e U1 ⟨g1, cg1, rfl, hL1, hb1⟩
    have K1 : Hid (Tw w U1 b1 b2 Y r rd' wt' X r rd' wt') := GT.out.1.below hb1
    have c10 := put_lent K1.out.l2 hL1 GT.out.1.p2.lt (fun y hy => by
      rcases List.mem_append.1 hy with h | h
      · exact HAB.out.2.1 y h
      · exact HAB.out.2.2.2 y h) (n := na + nb) (by rw [List.length_append, hla.out, hlb.out])
    clear hb1
    go_wp2_with fail
    refine c10.mono ?_
    rintro e U2 ⟨rfl, hp2, ht2⟩
    have hp3 := hp2.pip
    rw [← HJ.out.2.2] at hp3
    have K2 : Hid (Tw w U2 b1 b2 Y r rd' wt' Y r rd' wt') := K1.out.t2 ht2 hp3
    clear c10 hp2 ht2 hL1 K1 GT hp3 Bw
    have hz := putN_le X rd' (al ++ bl)
    generalize putN X rd' (al ++ bl) = z at *
    generalize putHow X rd' (al ++ bl) = ah at *
    have ez : (x : Int) + y = z := by have := HJ.out.1; omega
    have hzb : z ≤ 2097152 := by rw [List.length_append, hla.out, hlb.out] at hz; omega
    have HJ2 : Hid (0 < nb → h = ah) := fun h0 => HJ.out.2.1 (by rw [hlb.out]; exact h0)
    have hY512 := K2.out.p1.1
    clear hz HJ
    by_cases hnb0 : nb = 0
    · have i0 : ¬ (0 : Int) < nb := by omega
      clear HJ2
      have ⟨Y1, hY1⟩ : ∃ Y1, Y1 = Y := ⟨_, rfl⟩
      have ⟨r1, hr1⟩ : ∃ r1, r1 = r := ⟨_, rfl⟩
      rw [← hY1, ← hr1] at K2
      rw [← hY1] at hY512
      clear hY1 hr1
      go_wp2_with fail
      refine (state_pip K2.out.p1).mono ?_
      rintro e A1 ⟨q1, d1, rfl, hO1, hb1, _⟩
      have S1 : Hid (Tw w A1 b1 b2 Y1 r1 rd' wt' Y1 r1 rd' wt' ∧ Byt A1 q1 Y1.length d1 Y1) := ⟨K2.out.below hb1, byt_own hO1⟩
      obtain ⟨s1, hs1⟩ : ∃ s, s = (r1 + (Y1.length : Int)) % 4294967296 := ⟨_, rfl⟩
      have HS1 : Hid (s1 = (r1 + (Y1.length : Int)) % 4294967296) := hs1
      have es1 : stt q1 Y1.length d1 r1 rd' wt' = .agg #[.slice q1 Y1.length d1, .int .u32 r1, .int .u32 s1, .bool rd', .bool wt'] := by rw [hs1]; rfl
      rw [es1]
      clear es1 hs1 hO1 hb1
      go_wp2_with fail
      refine (state_pip S1.out.1.p2).mono ?_
      rintro e B1 ⟨q2, d2, rfl, hO2, hb2, _⟩
      have es2 : stt q2 Y1.length d2 r1 rd' wt' = .agg #[.slice q2 Y1.length d2, .int .u32 r1, .int .u32 s1, .bool rd', .bool wt'] := by rw [HS1.out]; rfl
      rw [es2]
      have S2 : Hid (Tw w B1 b1 b2 Y1 r1 rd' wt' Y1 r1 rd' wt' ∧ Byt B1 q1 Y1.length d1 Y1 ∧ Byt B1 q2 Y1.length d2 Y1) := ⟨S1.out.1.below hb2, byt_below S1.out.2 hb2, byt_own hO2⟩
      clear es2 hO2 hb2 S1
      go_wp2_with fail
      refine (same_any r1 s1 rd' wt' S2.out.2.1 S2.out.2.2 (by omega)).mono ?_
      rintro e C1 ⟨rfl, hb3⟩
      have S3 : Hid (Tw w C1 b1 b2 Y1 r1 rd' wt' Y1 r1 rd' wt') := S2.out.1.below hb3
      clear hb3 S2
      by_cases hbad : M < 1 ∨ Nn < 1 ∨ 2305843009213693952 < M ∨ 2305843009213693952 < Nn
      · have HE : Hid (Below w.heap.size w C1) := S3.out.bel
        have HBD : Hid (M < 1 ∨ Nn < 1 ∨ 2305843009213693952 < M ∨ 2305843009213693952 < Nn) := hbad
        clear hbad
        by_cases j1 : M < 1
        · go_wp2
          go_ret
          exact ⟨rfl, HE.out⟩
        · by_cases j2 : Nn < 1
          · go_wp2
            go_ret
            exact ⟨rfl, HE.out⟩
          · by_cases j3 : 2305843009213693952 < M
            · go_wp2
              go_ret
              exact ⟨rfl, HE.out⟩
            · have j4 : 2305843009213693952 < Nn := by rcases HBD.out with h | h | h | h <;> first | exact absurd h j1 | exact absurd h j2 | exact absurd h j3 | exact h
              go_wp2
              go_ret
              exact ⟨rfl, HE.out⟩
      · have j1 : ¬ M < 1 := fun h => hbad (.inl h)
        have j2 : ¬ Nn < 1 := fun h => hbad (.inr (.inl h))
        have j3 : ¬ 2305843009213693952 < M := fun h => hbad (.inr (.inr (.inl h)))
        have j4 : ¬ 2305843009213693952 < Nn := fun h => hbad (.inr (.inr (.inr h)))
        clear hbad
        have hj := take_join Y1 M Nn (by omega) (by omega)
        have HJT : Hid (takeN Y1 M + takeN (Y1.drop (takeN Y1 M)) Nn = takeN Y1 (M + Nn) ∧ Y1.take (takeN Y1 M) ++ (Y1.drop (takeN Y1 M)).take (takeN (Y1.drop (takeN Y1 M)) Nn) = Y1.take (takeN Y1 (M + Nn)) ∧ (Y1.drop (takeN Y1 M)).drop (takeN (Y1.drop (takeN Y1 M)) Nn) = Y1.drop (takeN Y1 (M + Nn))) := hj
        clear hj
        go_wp2_with fail
        refine (take_pip S3.out.p1 M).mono ?_
        rintro e T1 ⟨tp, tc, rfl, hO1, _, hp1, ht1⟩
        have L1 : Hid (Tw w T1 b1 b2 (Y1.drop (takeN Y1 M)) ((r1 + takeN Y1 M) % 4294967296) rd' wt' Y1 r1 rd' wt' ∧ Byt T1 tp (takeN Y1 M) tc (Y1.take (takeN Y1 M)) ∧ (∀ g o, tp = some ⟨g, o, .none⟩ → C1.heap.size ≤ g) ∧ b1 < C1.heap.size ∧ b2 < C1.heap.size) := ⟨S3.out.t1 ht1 hp1, byt_own hO1, fun g o e => own_block hO1 g (by rw [e]; rfl), S3.out.p1.lt, S3.out.p2.lt⟩
        clear hO1 hp1 ht1
        go_wp2_with fail
        refine (take_pip L1.out.1.p1 Nn).mono ?_
        rintro e T2 ⟨up, uc, rfl, hO2, _, hp2, ht2⟩
        have L2 : Hid (Tw w T2 b1 b2 ((Y1.drop (takeN Y1 M)).drop (takeN (Y1.drop (takeN Y1 M)) Nn)) (((r1 + takeN Y1 M) % 4294967296 + takeN (Y1.drop (takeN Y1 M)) Nn) % 4294967296) rd' wt' Y1 r1 rd' wt' ∧ Byt T2 tp (takeN Y1 M) tc (Y1.take (takeN Y1 M)) ∧ Byt T2 up (takeN (Y1.drop (takeN Y1 M)) Nn) uc ((Y1.drop (takeN Y1 M)).take (takeN (Y1.drop (takeN Y1 M)) Nn)) ∧ (∀ g o, tp = some ⟨g, o, .none⟩ → C1.heap.size ≤ g) ∧ (∀ g o, up = some ⟨g, o, .none⟩ → T1.heap.size ≤ g) ∧ b1 < C1.heap.size ∧ b2 < C1.heap.size ∧ b2 < T1.heap.size) := ⟨L1.out.1.t1 ht2 hp2, ht2.byt L1.out.2.1 (fun _ g o e => by have := L1.out.2.2.1 g o e; have := L1.out.2.2.2.1; omega), byt_own hO2, L1.out.2.2.1, fun g o e => own_block hO2 g (by rw [e]; rfl), L1.out.2.2.2.1, L1.out.2.2.2.2, L1.out.1.p2.lt⟩
        clear hO2 hp2 ht2 L1
        have c11 := take_pip L2.out.1.p2 (M + Nn)
        rw [← HJT.out.1] at c11
        have e1 : (r1 + ((takeN Y1 M + takeN (Y1.drop (takeN Y1 M)) Nn : Nat) : Int)) % 4294967296 = ((r1 + takeN Y1 M) % 4294967296 + takeN (Y1.drop (takeN Y1 M)) Nn) % 4294967296 := by omega
        rw [e1] at c11
        clear e1
        have hk1 : takeN Y1 M ≤ 512 := by unfold takeN; omega
        have hk2 : takeN (Y1.drop (takeN Y1 M)) Nn ≤ 512 := by unfold takeN; rw [List.length_drop]; omega
        go_wp2_with fail
        refine c11.mono ?_
        rintro e T3 ⟨vp, vc, rfl, hO3, _, hp3, ht3⟩
        have HDR : Hid (Y1.take (takeN Y1 M + takeN (Y1.drop (takeN Y1 M)) Nn) = Y1.take (takeN Y1 M) ++ (Y1.drop (takeN Y1 M)).take (takeN (Y1.drop (takeN Y1 M)) Nn) ∧ Y1.drop (takeN Y1 M + takeN (Y1.drop (takeN Y1 M)) Nn) = (Y1.drop (takeN Y1 M)).drop (takeN (Y1.drop (takeN Y1 M)) Nn)) := ⟨by rw [HJT.out.1]; exact HJT.out.2.1.symm, by rw [HJT.out.1]; exact HJT.out.2.2.symm⟩
        rw [HDR.out.1] at hO3
        rw [HDR.out.2] at hp3
        have hY5 : ((Y1.drop (takeN Y1 M)).drop (takeN (Y1.drop (takeN Y1 M)) Nn)).length ≤ 512 := by rw [List.length_drop, List.length_drop]; omega
        have hlc : (Y1.take (takeN Y1 M)).length = takeN Y1 M := by rw [List.length_take]; unfold takeN; omega
        generalize (Y1.drop (takeN Y1 M)).drop (takeN (Y1.drop (takeN Y1 M)) Nn) = Y2 at *
        generalize ((r1 + takeN Y1 M) % 4294967296 + takeN (Y1.drop (takeN Y1 M)) Nn) % 4294967296 = r2 at *
        generalize hc2 : (Y1.drop (takeN Y1 M)).take (takeN (Y1.drop (takeN Y1 M)) Nn) = ws at *
        generalize takeN (Y1.drop (takeN Y1 M)) Nn = k2 at *
        generalize hc1 : Y1.take (takeN Y1 M) = us at *
        generalize takeN Y1 M = k1 at *
        have L3 : Hid (Tw w T3 b1 b2 Y2 r2 rd' wt' Y2 r2 rd' wt' ∧ Byt T3 tp k1 tc us ∧ Byt T3 up k2 uc ws ∧ Byt T3 vp (k1 + k2) vc (us ++ ws)) := ⟨L2.out.1.t2 ht3 hp3, ht3.byt L2.out.2.1 (fun _ g o e => by have := L2.out.2.2.2.1 g o e; have := L2.out.2.2.2.2.2.2.1; omega), ht3.byt L2.out.2.2.1 (fun _ g o e => by have := L2.out.2.2.2.2.1 g o e; have := L2.out.2.2.2.2.2.2.2; omega), byt_own hO3⟩
        clear hO3 hp3 ht3 c11 L2 HDR HJT hc1 hc2
        go_wp2_with fail
        refine (copyBytes_any L3.out.2.1 (by omega)).mono ?_
        rintro e T4 ⟨cp4, cc4, rfl, hO4, hb4⟩
        rw [hlc] at hO4 ⊢
        have L4 : Hid (Tw w T4 b1 b2 Y2 r2 rd' wt' Y2 r2 rd' wt' ∧ T4.ownsRow T3.heap.size 5 1 (.slice cp4 k1 cc4) k1 (by8 us) ∧ Byt T4 up k2 uc ws ∧ Byt T3 vp (k1 + k2) vc (us ++ ws) ∧ Below T3.heap.size T3 T4 ∧ b1 < T3.heap.size ∧ b2 < T3.heap.size) := ⟨L3.out.1.below hb4, hO4, byt_below L3.out.2.2.1 hb4, L3.out.2.2.2, hb4, L3.out.1.p1.lt, L3.out.1.p2.lt⟩
        clear hO4 hb4 L3
        go_wp2_with (first | (at_builtin; refine wpList_app rfl (.tmp 116) (.tmp 117) rfl T3.heap.size (.slice cp4 k1 cc4) k1 us rfl up k2 uc ws rfl L4.out.2.1 L4.out.2.2.1 ?c1 ?c2 ?_) | fail)
        case c1 => omega
        case c2 => exact L4.out.2.2.2.2.1.size
        intro v' T5 hO5 hg5 _
        obtain ⟨wp5, wc5, rfl⟩ := one_slice hO5
        have t5 : Below T3.heap.size T4 T5 := (Below.refl _ _).grown hg5 L4.out.2.2.2.2.1.size (own_block L4.out.2.1)
        have L5 : Hid (Tw w T5 b1 b2 Y2 r2 rd' wt' Y2 r2 rd' wt' ∧ Byt T5 wp5 (k1 + k2) wc5 (us ++ ws) ∧ Byt T5 vp (k1 + k2) vc (us ++ ws)) := by
          obtain ⟨h1, h2, h3, h4, h5, h6, h7⟩ := L4.out
          refine ⟨⟨h1.bel.trans (t5.mono (Nat.le_trans h1.g1 (Nat.le_of_lt h6))), h1.g1, h1.g2, h1.ne, pip_belowB h1.p1 t5 h6, pip_belowB h1.p2 t5 h7⟩, byt_own hO5, byt_below h4 (h5.trans t5)⟩
        clear hO5 hg5 t5 L4
        go_wp2_with fail
        refine (bytes_any wp5 vp (k1 + k2) wc5 vc (us ++ ws) T5 (by omega) L5.out.2.1 L5.out.2.2).mono ?_
        rintro e T6 ⟨rfl, kk, hkk⟩
        have L6 : Hid (Tw w T6 b1 b2 Y2 r2 rd' wt' Y2 r2 rd' wt') := L5.out.1.below (by subst hkk; exact ⟨rfl, rfl, rfl, Nat.le_refl _, fun _ _ => rfl⟩)
        clear hkk L5
        go_wp2_with fail
        refine (state_pip L6.out.p1).mono ?_
        rintro e A2 ⟨q1, d1, rfl, hO1, hb1, _⟩
        have S1 : Hid (Tw w A2 b1 b2 Y2 r2 rd' wt' Y2 r2 rd' wt' ∧ Byt A2 q1 Y2.length d1 Y2) := ⟨L6.out.below hb1, byt_own hO1⟩
        obtain ⟨s2, hs2⟩ : ∃ s, s = (r2 + (Y2.length : Int)) % 4294967296 := ⟨_, rfl⟩
        have HS2 : Hid (s2 = (r2 + (Y2.length : Int)) % 4294967296) := hs2
        have es1 : stt q1 Y2.length d1 r2 rd' wt' = .agg #[.slice q1 Y2.length d1, .int .u32 r2, .int .u32 s2, .bool rd', .bool wt'] := by rw [hs2]; rfl
        rw [es1]
        clear es1 hs2 hO1 hb1
        go_wp2_with fail
        refine (state_pip S1.out.1.p2).mono ?_
        rintro e B2 ⟨q2, d2, rfl, hO2, hb2, _⟩
        have es2 : stt q2 Y2.length d2 r2 rd' wt' = .agg #[.slice q2 Y2.length d2, .int .u32 r2, .int .u32 s2, .bool rd', .bool wt'] := by rw [HS2.out]; rfl
        rw [es2]
        have S2 : Hid (Tw w B2 b1 b2 Y2 r2 rd' wt' Y2 r2 rd' wt' ∧ Byt B2 q1 Y2.length d1 Y2 ∧ Byt B2 q2 Y2.length d2 Y2) := ⟨S1.out.1.below hb2, byt_below S1.out.2 hb2, byt_own hO2⟩
        clear es2 hO2 hb2 S1
        go_wp2_with fail
        refine (same_any r2 s2 rd' wt' S2.out.2.1 S2.out.2.2 (by omega)).mono ?_
        rintro e C2 ⟨rfl, hb3⟩
        have S3 : Hid (Tw w C2 b1 b2 Y2 r2 rd' wt' Y2 r2 rd' wt') := S2.out.1.below hb3
        clear hb3 S2
        have HE : Hid (Below w.heap.size w C2) := S3.out.bel
        go_wp2
        go_ret
        exact ⟨rfl, HE.out⟩
    · have i0 : (0 : Int) < nb := by omega
      obtain rfl : h = ah := HJ2.out (by omega)
      clear HJ2
      have ⟨Y1, hY1⟩ : ∃ Y1, Y1 = Y := ⟨_, rfl⟩
      have ⟨r1, hr1⟩ : ∃ r1, r1 = r := ⟨_, rfl⟩
      rw [← hY1, ← hr1] at K2
      rw [← hY1] at hY512
      clear hY1 hr1
      go_wp2_with fail
      refine (state_pip K2.out.p1).mono ?_
      rintro e A1 ⟨q1, d1, rfl, hO1, hb1, _⟩
      have S1 : Hid (Tw w A1 b1 b2 Y1 r1 rd' wt' Y1 r1 rd' wt' ∧ Byt A1 q1 Y1.length d1 Y1) := ⟨K2.out.below hb1, byt_own hO1⟩
      obtain ⟨s1, hs1⟩ : ∃ s, s = (r1 + (Y1.length : Int)) % 4294967296 := ⟨_, rfl⟩
      have HS1 : Hid (s1 = (r1 + (Y1.length : Int)) % 4294967296) := hs1
      have es1 : stt q1 Y1.length d1 r1 rd' wt' = .agg #[.slice q1 Y1.length d1, .int .u32 r1, .int .u32 s1, .bool rd', .bool wt'] := by rw [hs1]; rfl
      rw [es1]
      clear es1 hs1 hO1 hb1
      go_wp2_with fail
      refine (state_pip S1.out.1.p2).mono ?_
      rintro e B1 ⟨q2, d2, rfl, hO2, hb2, _⟩
      have es2 : stt q2 Y1.length d2 r1 rd' wt' = .agg #[.slice q2 Y1.length d2, .int .u32 r1, .int .u32 s1, .bool rd', .bool wt'] := by rw [HS1.out]; rfl
      rw [es2]
      have S2 : Hid (Tw w B1 b1 b2 Y1 r1 rd' wt' Y1 r1 rd' wt' ∧ Byt B1 q1 Y1.length d1 Y1 ∧ Byt B1 q2 Y1.length d2 Y1) := ⟨S1.out.1.below hb2, byt_below S1.out.2 hb2, byt_own hO2⟩
      clear es2 hO2 hb2 S1
      go_wp2_with fail
      refine (same_any r1 s1 rd' wt' S2.out.2.1 S2.out.2.2 (by omega)).mono ?_
      rintro e C1 ⟨rfl, hb3⟩
      have S3 : Hid (Tw w C1 b1 b2 Y1 r1 rd' wt' Y1 r1 rd' wt') := S2.out.1.below hb3
      clear hb3 S2
      by_cases hbad : M < 1 ∨ Nn < 1 ∨ 2305843009213693952 < M ∨ 2305843009213693952 < Nn
      · have HE : Hid (Below w.heap.size w C1) := S3.out.bel
        have HBD : Hid (M < 1 ∨ Nn < 1 ∨ 2305843009213693952 < M ∨ 2305843009213693952 < Nn) := hbad
        clear hbad
        by_cases j1 : M < 1
        · go_wp2
          go_ret
          exact ⟨rfl, HE.out⟩
        · by_cases j2 : Nn < 1
          · go_wp2
            go_ret
            exact ⟨rfl, HE.out⟩
          · by_cases j3 : 2305843009213693952 < M
            · go_wp2
              go_ret
              exact ⟨rfl, HE.out⟩
            · have j4 : 2305843009213693952 < Nn := by rcases HBD.out with h | h | h | h <;> first | exact absurd h j1 | exact absurd h j2 | exact absurd h j3 | exact h
              go_wp2
              go_ret
              exact ⟨rfl, HE.out⟩
      · have j1 : ¬ M < 1 := fun h => hbad (.inl h)
        have j2 : ¬ Nn < 1 := fun h => hbad (.inr (.inl h))
        have j3 : ¬ 2305843009213693952 < M := fun h => hbad (.inr (.inr (.inl h)))
        have j4 : ¬ 2305843009213693952 < Nn := fun h => hbad (.inr (.inr (.inr h)))
        clear hbad
        have hj := take_join Y1 M Nn (by omega) (by omega)
        have HJT : Hid (takeN Y1 M + takeN (Y1.drop (takeN Y1 M)) Nn = takeN Y1 (M + Nn) ∧ Y1.take (takeN Y1 M) ++ (Y1.drop (takeN Y1 M)).take (takeN (Y1.drop (takeN Y1 M)) Nn) = Y1.take (takeN Y1 (M + Nn)) ∧ (Y1.drop (takeN Y1 M)).drop (takeN (Y1.drop (takeN Y1 M)) Nn) = Y1.drop (takeN Y1 (M + Nn))) := hj
        clear hj
        go_wp2_with fail
        refine (take_pip S3.out.p1 M).mono ?_
        rintro e T1 ⟨tp, tc, rfl, hO1, _, hp1, ht1⟩
        have L1 : Hid (Tw w T1 b1 b2 (Y1.drop (takeN Y1 M)) ((r1 + takeN Y1 M) % 4294967296) rd' wt' Y1 r1 rd' wt' ∧ Byt T1 tp (takeN Y1 M) tc (Y1.take (takeN Y1 M)) ∧ (∀ g o, tp = some ⟨g, o, .none⟩ → C1.heap.size ≤ g) ∧ b1 < C1.heap.size ∧ b2 < C1.heap.size) := ⟨S3.out.t1 ht1 hp1, byt_own hO1, fun g o e => own_block hO1 g (by rw [e]; rfl), S3.out.p1.lt, S3.out.p2.lt⟩
        clear hO1 hp1 ht1
        go_wp2_with fail
        refine (take_pip L1.out.1.p1 Nn).mono ?_
        rintro e T2 ⟨up, uc, rfl, hO2, _, hp2, ht2⟩
        have L2 : Hid (Tw w T2 b1 b2 ((Y1.drop (takeN Y1 M)).drop (takeN (Y1.drop (takeN Y1 M)) Nn)) (((r1 + takeN Y1 M) % 4294967296 + takeN (Y1.drop (takeN Y1 M)) Nn) % 4294967296) rd' wt' Y1 r1 rd' wt' ∧ Byt T2 tp (takeN Y1 M) tc (Y1.take (takeN Y1 M)) ∧ Byt T2 up (takeN (Y1.drop (takeN Y1 M)) Nn) uc ((Y1.drop (takeN Y1 M)).take (takeN (Y1.drop (takeN Y1 M)) Nn)) ∧ (∀ g o, tp = some ⟨g, o, .none⟩ → C1.heap.size ≤ g) ∧ (∀ g o, up = some ⟨g, o, .none⟩ → T1.heap.size ≤ g) ∧ b1 < C1.heap.size ∧ b2 < C1.heap.size ∧ b2 < T1.heap.size) := ⟨L1.out.1.t1 ht2 hp2, ht2.byt L1.out.2.1 (fun _ g o e => by have := L1.out.2.2.1 g o e; have := L1.out.2.2.2.1; omega), byt_own hO2, L1.out.2.2.1, fun g o e => own_block hO2 g (by rw [e]; rfl), L1.out.2.2.2.1, L1.out.2.2.2.2, L1.out.1.p2.lt⟩
        clear hO2 hp2 ht2 L1
        have c11 := take_pip L2.out.1.p2 (M + Nn)
        rw [← HJT.out.1] at c11
        have e1 : (r1 + ((takeN Y1 M + takeN (Y1.drop (takeN Y1 M)) Nn : Nat) : Int)) % 4294967296 = ((r1 + takeN Y1 M) % 4294967296 + takeN (Y1.drop (takeN Y1 M)) Nn) % 4294967296 := by omega
        rw [e1] at c11
        clear e1
        have hk1 : takeN Y1 M ≤ 512 := by unfold takeN; omega
        have hk2 : takeN (Y1.drop (takeN Y1 M)) Nn ≤ 512 := by unfold takeN; rw [List.length_drop]; omega
        go_wp2_with fail
        refine c11.mono ?_
        rintro e T3 ⟨vp, vc, rfl, hO3, _, hp3, ht3⟩
        have HDR : Hid (Y1.take (takeN Y1 M + takeN (Y1.drop (takeN Y1 M)) Nn) = Y1.take (takeN Y1 M) ++ (Y1.drop (takeN Y1 M)).take (takeN (Y1.drop (takeN Y1 M)) Nn) ∧ Y1.drop (takeN Y1 M + takeN (Y1.drop (takeN Y1 M)) Nn) = (Y1.drop (takeN Y1 M)).drop (takeN (Y1.drop (takeN Y1 M)) Nn)) := ⟨by rw [HJT.out.1]; exact HJT.out.2.1.symm, by rw [HJT.out.1]; exact HJT.out.2.2.symm⟩
        rw [HDR.out.1] at hO3
        rw [HDR.out.2] at hp3
        have hY5 : ((Y1.drop (takeN Y1 M)).drop (takeN (Y1.drop (takeN Y1 M)) Nn)).length ≤ 512 := by rw [List.length_drop, List.length_drop]; omega
        have hlc : (Y1.take (takeN Y1 M)).length = takeN Y1 M := by rw [List.length_take]; unfold takeN; omega
        generalize (Y1.drop (takeN Y1 M)).drop (takeN (Y1.drop (takeN Y1 M)) Nn) = Y2 at *
        generalize ((r1 + takeN Y1 M) % 4294967296 + takeN (Y1.drop (takeN Y1 M)) Nn) % 4294967296 = r2 at *
        generalize hc2 : (Y1.drop (takeN Y1 M)).take (takeN (Y1.drop (takeN Y1 M)) Nn) = ws at *
        generalize takeN (Y1.drop (takeN Y1 M)) Nn = k2 at *
        generalize hc1 : Y1.take (takeN Y1 M) = us at *
        generalize takeN Y1 M = k1 at *
        have L3 : Hid (Tw w T3 b1 b2 Y2 r2 rd' wt' Y2 r2 rd' wt' ∧ Byt T3 tp k1 tc us ∧ Byt T3 up k2 uc ws ∧ Byt T3 vp (k1 + k2) vc (us ++ ws)) := ⟨L2.out.1.t2 ht3 hp3, ht3.byt L2.out.2.1 (fun _ g o e => by have := L2.out.2.2.2.1 g o e; have := L2.out.2.2.2.2.2.2.1; omega), ht3.byt L2.out.2.2.1 (fun _ g o e => by have := L2.out.2.2.2.2.1 g o e; have := L2.out.2.2.2.2.2.2.2; omega), byt_own hO3⟩
        clear hO3 hp3 ht3 c11 L2 HDR HJT hc1 hc2
        go_wp2_with fail
        refine (copyBytes_any L3.out.2.1 (by omega)).mono ?_
        rintro e T4 ⟨cp4, cc4, rfl, hO4, hb4⟩
        rw [hlc] at hO4 ⊢
        have L4 : Hid (Tw w T4 b1 b2 Y2 r2 rd' wt' Y2 r2 rd' wt' ∧ T4.ownsRow T3.heap.size 5 1 (.slice cp4 k1 cc4) k1 (by8 us) ∧ Byt T4 up k2 uc ws ∧ Byt T3 vp (k1 + k2) vc (us ++ ws) ∧ Below T3.heap.size T3 T4 ∧ b1 < T3.heap.size ∧ b2 < T3.heap.size) := ⟨L3.out.1.below hb4, hO4, byt_below L3.out.2.2.1 hb4, L3.out.2.2.2, hb4, L3.out.1.p1.lt, L3.out.1.p2.lt⟩
        clear hO4 hb4 L3
        go_wp2_with (first | (at_builtin; refine wpList_app rfl (.tmp 116) (.tmp 117) rfl T3.heap.size (.slice cp4 k1 cc4) k1 us rfl up k2 uc ws rfl L4.out.2.1 L4.out.2.2.1 ?c1 ?c2 ?_) | fail)
        case c1 => omega
        case c2 => exact L4.out.2.2.2.2.1.size
        intro v' T5 hO5 hg5 _
        obtain ⟨wp5, wc5, rfl⟩ := one_slice hO5
        have t5 : Below T3.heap.size T4 T5 := (Below.refl _ _).grown hg5 L4.out.2.2.2.2.1.size (own_block L4.out.2.1)
        have L5 : Hid (Tw w T5 b1 b2 Y2 r2 rd' wt' Y2 r2 rd' wt' ∧ Byt T5 wp5 (k1 + k2) wc5 (us ++ ws) ∧ Byt T5 vp (k1 + k2) vc (us ++ ws)) := by
          obtain ⟨h1, h2, h3, h4, h5, h6, h7⟩ := L4.out
          refine ⟨⟨h1.bel.trans (t5.mono (Nat.le_trans h1.g1 (Nat.le_of_lt h6))), h1.g1, h1.g2, h1.ne, pip_belowB h1.p1 t5 h6, pip_belowB h1.p2 t5 h7⟩, byt_own hO5, byt_below h4 (h5.trans t5)⟩
        clear hO5 hg5 t5 L4
        go_wp2_with fail
        refine (bytes_any wp5 vp (k1 + k2) wc5 vc (us ++ ws) T5 (by omega) L5.out.2.1 L5.out.2.2).mono ?_
        rintro e T6 ⟨rfl, kk, hkk⟩
        have L6 : Hid (Tw w T6 b1 b2 Y2 r2 rd' wt' Y2 r2 rd' wt') := L5.out.1.below (by subst hkk; exact ⟨rfl, rfl, rfl, Nat.le_refl _, fun _ _ => rfl⟩)
        clear hkk L5
        go_wp2_with fail
        refine (state_pip L6.out.p1).mono ?_
        rintro e A2 ⟨q1, d1, rfl, hO1, hb1, _⟩
        have S1 : Hid (Tw w A2 b1 b2 Y2 r2 rd' wt' Y2 r2 rd' wt' ∧ Byt A2 q1 Y2.length d1 Y2) := ⟨L6.out.below hb1, byt_own hO1⟩
        obtain ⟨s2, hs2⟩ : ∃ s, s = (r2 + (Y2.length : Int)) % 4294967296 := ⟨_, rfl⟩
        have HS2 : Hid (s2 = (r2 + (Y2.length : Int)) % 4294967296) := hs2
        have es1 : stt q1 Y2.length d1 r2 rd' wt' = .agg #[.slice q1 Y2.length d1, .int .u32 r2, .int .u32 s2, .bool rd', .bool wt'] := by rw [hs2]; rfl
        rw [es1]
        clear es1 hs2 hO1 hb1
        go_wp2_with fail
        refine (state_pip S1.out.1.p2).mono ?_
        rintro e B2 ⟨q2, d2, rfl, hO2, hb2, _⟩
        have es2 : stt q2 Y2.length d2 r2 rd' wt' = .agg #[.slice q2 Y2.length d2, .int .u32 r2, .int .u32 s2, .bool rd', .bool wt'] := by rw [HS2.out]; rfl
        rw [es2]
        have S2 : Hid (Tw w B2 b1 b2 Y2 r2 rd' wt' Y2 r2 rd' wt' ∧ Byt B2 q1 Y2.length d1 Y2 ∧ Byt B2 q2 Y2.length d2 Y2) := ⟨S1.out.1.below hb2, byt_below S1.out.2 hb2, byt_own hO2⟩
        clear es2 hO2 hb2 S1
        go_wp2_with fail
        refine (same_any r2 s2 rd' wt' S2.out.2.1 S2.out.2.2 (by omega)).mono ?_
        rintro e C2 ⟨rfl, hb3⟩
        have S3 : Hid (Tw w C2 b1 b2 Y2 r2 rd' wt' Y2 r2 rd' wt') := S2.out.1.below hb3
        clear hb3 S2
        have HE : Hid (Below w.heap.size w C2) := S3.out.bel
        go_wp2
        go_ret
        exact ⟨rfl, HE.out⟩
  · have HG := join_stop (b := bl) hx512 h1
    obtain ⟨y, hy0⟩ : ∃ y : Nat, y = 0 := ⟨_, rfl⟩
    have HJ : Hid (putN X rd' al + y = putN X rd' (al ++ bl) ∧ (0 < bl.length → putHow X rd' al = putHow X rd' (al ++ bl)) ∧ X ++ al.take (putN X rd' al) = X ++ (al ++ bl).take (putN X rd' (al ++ bl))) := ⟨by rw [hy0, Nat.add_zero]; exact HG.1, fun _ => HG.2.1, HG.2.2⟩
    clear HG
    have hxl := putN_le X rd' al
    rw [hla.out] at hxl
    generalize putHow X rd' al = h at *
    generalize putN X rd' al = x at *
    generalize X ++ al.take x = Y at *
    have GT := G2
    clear G2
    have hyl : y ≤ nb := by omega
    have Bw : Hid (Byt V2 wp (na + nb) wc (al ++ bl)) := byt_own GT.out.2
    go_wp2_with fail
    refine (lend_any Bw.out (by omega)).mono ?_
    rintro e U1 ⟨g1, cg1, rfl, hL1, hb1⟩
    have K1 : Hid (Tw w U1 b1 b2 Y r rd' wt' X r rd' wt') := GT.out.1.below hb1
    have c10 := put_lent K1.out.l2 hL1 GT.out.1.p2.lt (fun y hy => by
      rcases List.mem_append.1 hy with h | h
      · exact HAB.out.2.1 y h
      · exact HAB.out.2.2.2 y h) (n := na + nb) (by rw [List.length_append, hla.out, hlb.out])
    clear hb1
    go_wp2_with fail
    refine c10.mono ?_
    rintro e U2 ⟨rfl, hp2, ht2⟩
    have hp3 := hp2.pip
    rw [← HJ.out.2.2] at hp3
    have K2 : Hid (Tw w U2 b1 b2 Y r rd' wt' Y r rd' wt') := K1.out.t2 ht2 hp3
    clear c10 hp2 ht2 hL1 K1 GT hp3 Bw
    have hz := putN_le X rd' (al ++ bl)
    generalize putN X rd' (al ++ bl) = z at *
    generalize putHow X rd' (al ++ bl) = ah at *
    have ez : (x : Int) + 0 = z := by have := HJ.out.1; omega
    have hzb : z ≤ 2097152 := by rw [List.length_append, hla.out, hlb.out] at hz; omega
    have HJ2 : Hid (0 < nb → h = ah) := fun h0 => HJ.out.2.1 (by rw [hlb.out]; exact h0)
    have hY512 := K2.out.p1.1
    clear hz HJ
    by_cases hnb0 : nb = 0
    · have i0 : ¬ (0 : Int) < nb := by omega
      clear HJ2
      have ⟨Y1, hY1⟩ : ∃ Y1, Y1 = Y := ⟨_, rfl⟩
      have ⟨r1, hr1⟩ : ∃ r1, r1 = r := ⟨_, rfl⟩
      rw [← hY1, ← hr1] at K2
      rw [← hY1] at hY512
      clear hY1 hr1
      go_wp2_with fail
      refine (state_pip K2.out.p1).mono ?_
      rintro e A1 ⟨q1, d1, rfl, hO1, hb1, _⟩
      have S1 : Hid (Tw w A1 b1 b2 Y1 r1 rd' wt' Y1 r1 rd' wt' ∧ Byt A1 q1 Y1.length d1 Y1) := ⟨K2.out.below hb1, byt_own hO1⟩
      obtain ⟨s1, hs1⟩ : ∃ s, s = (r1 + (Y1.length : Int)) % 4294967296 := ⟨_, rfl⟩
      have HS1 : Hid (s1 = (r1 + (Y1.length : Int)) % 4294967296) := hs1
      have es1 : stt q1 Y1.length d1 r1 rd' wt' = .agg #[.slice q1 Y1.length d1, .int .u32 r1, .int .u32 s1, .bool rd', .bool wt'] := by rw [hs1]; rfl
      rw [es1]
      clear es1 hs1 hO1 hb1
      go_wp2_with fail
      refine (state_pip S1.out.1.p2).mono ?_
      rintro e B1 ⟨q2, d2, rfl, hO2, hb2, _⟩
      have es2 : stt q2 Y1.length d2 r1 rd' wt' = .agg #[.slice q2 Y1.length d2, .int .u32 r1, .int .u32 s1, .bool rd', .bool wt'] := by rw [HS1.out]; rfl
      rw [es2]
      have S2 : Hid (Tw w B1 b1 b2 Y1 r1 rd' wt' Y1 r1 rd' wt' ∧ Byt B1 q1 Y1.length d1 Y1 ∧ Byt B1 q2 Y1.length d2 Y1) := ⟨S1.out.1.below hb2, byt_below S1.out.2 hb2, byt_own hO2⟩
      clear es2 hO2 hb2 S1
      go_wp2_with fail
      refine (same_any r1 s1 rd' wt' S2.out.2.1 S2.out.2.2 (by omega)).mono ?_
      rintro e C1 ⟨rfl, hb3⟩
      have S3 : Hid (Tw w C1 b1 b2 Y1 r1 rd' wt' Y1 r1 rd' wt') := S2.out.1.below hb3
      clear hb3 S2
      by_cases hbad : M < 1 ∨ Nn < 1 ∨ 2305843009213693952 < M ∨ 2305843009213693952 < Nn
      · have HE : Hid (Below w.heap.size w C1) := S3.out.bel
        have HBD : Hid (M < 1 ∨ Nn < 1 ∨ 2305843009213693952 < M ∨ 2305843009213693952 < Nn) := hbad
        clear hbad
        by_cases j1 : M < 1
        · go_wp2
          go_ret
          exact ⟨rfl, HE.out⟩
        · by_cases j2 : Nn < 1
          · go_wp2
            go_ret
            exact ⟨rfl, HE.out⟩
          · by_cases j3 : 2305843009213693952 < M
            · go_wp2
              go_ret
              exact ⟨rfl, HE.out⟩
            · have j4 : 2305843009213693952 < Nn := by rcases HBD.out with h | h | h | h <;> first | exact absurd h j1 | exact absurd h j2 | exact absurd h j3 | exact h
              go_wp2
              go_ret
              exact ⟨rfl, HE.out⟩
      · have j1 : ¬ M < 1 := fun h => hbad (.inl h)
        have j2 : ¬ Nn < 1 := fun h => hbad (.inr (.inl h))
        have j3 : ¬ 2305843009213693952 < M := fun h => hbad (.inr (.inr (.inl h)))
        have j4 : ¬ 2305843009213693952 < Nn := fun h => hbad (.inr (.inr (.inr h)))
        clear hbad
        have hj := take_join Y1 M Nn (by omega) (by omega)
        have HJT : Hid (takeN Y1 M + takeN (Y1.drop (takeN Y1 M)) Nn = takeN Y1 (M + Nn) ∧ Y1.take (takeN Y1 M) ++ (Y1.drop (takeN Y1 M)).take (takeN (Y1.drop (takeN Y1 M)) Nn) = Y1.take (takeN Y1 (M + Nn)) ∧ (Y1.drop (takeN Y1 M)).drop (takeN (Y1.drop (takeN Y1 M)) Nn) = Y1.drop (takeN Y1 (M + Nn))) := hj
        clear hj
        go_wp2_with fail
        refine (take_pip S3.out.p1 M).mono ?_
        rintro e T1 ⟨tp, tc, rfl, hO1, _, hp1, ht1⟩
        have L1 : Hid (Tw w T1 b1 b2 (Y1.drop (takeN Y1 M)) ((r1 + takeN Y1 M) % 4294967296) rd' wt' Y1 r1 rd' wt' ∧ Byt T1 tp (takeN Y1 M) tc (Y1.take (takeN Y1 M)) ∧ (∀ g o, tp = some ⟨g, o, .none⟩ → C1.heap.size ≤ g) ∧ b1 < C1.heap.size ∧ b2 < C1.heap.size) := ⟨S3.out.t1 ht1 hp1, byt_own hO1, fun g o e => own_block hO1 g (by rw [e]; rfl), S3.out.p1.lt, S3.out.p2.lt⟩
        clear hO1 hp1 ht1
        go_wp2_with fail
        refine (take_pip L1.out.1.p1 Nn).mono ?_
        rintro e T2 ⟨up, uc, rfl, hO2, _, hp2, ht2⟩
        have L2 : Hid (Tw w T2 b1 b2 ((Y1.drop (takeN Y1 M)).drop (takeN (Y1.drop (takeN Y1 M)) Nn)) (((r1 + takeN Y1 M) % 4294967296 + takeN (Y1.drop (takeN Y1 M)) Nn) % 4294967296) rd' wt' Y1 r1 rd' wt' ∧ Byt T2 tp (takeN Y1 M) tc (Y1.take (takeN Y1 M)) ∧ Byt T2 up (takeN (Y1.drop (takeN Y1 M)) Nn) uc ((Y1.drop (takeN Y1 M)).take (takeN (Y1.drop (takeN Y1 M)) Nn)) ∧ (∀ g o, tp = some ⟨g, o, .none⟩ → C1.heap.size ≤ g) ∧ (∀ g o, up = some ⟨g, o, .none⟩ → T1.heap.size ≤ g) ∧ b1 < C1.heap.size ∧ b2 < C1.heap.size ∧ b2 < T1.heap.size) := ⟨L1.out.1.t1 ht2 hp2, ht2.byt L1.out.2.1 (fun _ g o e => by have := L1.out.2.2.1 g o e; have := L1.out.2.2.2.1; omega), byt_own hO2, L1.out.2.2.1, fun g o e => own_block hO2 g (by rw [e]; rfl), L1.out.2.2.2.1, L1.out.2.2.2.2, L1.out.1.p2.lt⟩
        clear hO2 hp2 ht2 L1
        have c11 := take_pip L2.out.1.p2 (M + Nn)
        rw [← HJT.out.1] at c11
        have e1 : (r1 + ((takeN Y1 M + takeN (Y1.drop (takeN Y1 M)) Nn : Nat) : Int)) % 4294967296 = ((r1 + takeN Y1 M) % 4294967296 + takeN (Y1.drop (takeN Y1 M)) Nn) % 4294967296 := by omega
        rw [e1] at c11
        clear e1
        have hk1 : takeN Y1 M ≤ 512 := by unfold takeN; omega
        have hk2 : takeN (Y1.drop (takeN Y1 M)) Nn ≤ 512 := by unfold takeN; rw [List.length_drop]; omega
        go_wp2_with fail
        refine c11.mono ?_
        rintro e T3 ⟨vp, vc, rfl, hO3, _, hp3, ht3⟩
        have HDR : Hid (Y1.take (takeN Y1 M + takeN (Y1.drop (takeN Y1 M)) Nn) = Y1.take (takeN Y1 M) ++ (Y1.drop (takeN Y1 M)).take (takeN (Y1.drop (takeN Y1 M)) Nn) ∧ Y1.drop (takeN Y1 M + takeN (Y1.drop (takeN Y1 M)) Nn) = (Y1.drop (takeN Y1 M)).drop (takeN (Y1.drop (takeN Y1 M)) Nn)) := ⟨by rw [HJT.out.1]; exact HJT.out.2.1.symm, by rw [HJT.out.1]; exact HJT.out.2.2.symm⟩
        rw [HDR.out.1] at hO3
        rw [HDR.out.2] at hp3
        have hY5 : ((Y1.drop (takeN Y1 M)).drop (takeN (Y1.drop (takeN Y1 M)) Nn)).length ≤ 512 := by rw [List.length_drop, List.length_drop]; omega
        have hlc : (Y1.take (takeN Y1 M)).length = takeN Y1 M := by rw [List.length_take]; unfold takeN; omega
        generalize (Y1.drop (takeN Y1 M)).drop (takeN (Y1.drop (takeN Y1 M)) Nn) = Y2 at *
        generalize ((r1 + takeN Y1 M) % 4294967296 + takeN (Y1.drop (takeN Y1 M)) Nn) % 4294967296 = r2 at *
        generalize hc2 : (Y1.drop (takeN Y1 M)).take (takeN (Y1.drop (takeN Y1 M)) Nn) = ws at *
        generalize takeN (Y1.drop (takeN Y1 M)) Nn = k2 at *
        generalize hc1 : Y1.take (takeN Y1 M) = us at *
        generalize takeN Y1 M = k1 at *
        have L3 : Hid (Tw w T3 b1 b2 Y2 r2 rd' wt' Y2 r2 rd' wt' ∧ Byt T3 tp k1 tc us ∧ Byt T3 up k2 uc ws ∧ Byt T3 vp (k1 + k2) vc (us ++ ws)) := ⟨L2.out.1.t2 ht3 hp3, ht3.byt L2.out.2.1 (fun _ g o e => by have := L2.out.2.2.2.1 g o e; have := L2.out.2.2.2.2.2.2.1; omega), ht3.byt L2.out.2.2.1 (fun _ g o e => by have := L2.out.2.2.2.2.1 g o e; have := L2.out.2.2.2.2.2.2.2; omega), byt_own hO3⟩
        clear hO3 hp3 ht3 c11 L2 HDR HJT hc1 hc2
        go_wp2_with fail
        refine (copyBytes_any L3.out.2.1 (by omega)).mono ?_
        rintro e T4 ⟨cp4, cc4, rfl, hO4, hb4⟩
        rw [hlc] at hO4 ⊢
        have L4 : Hid (Tw w T4 b1 b2 Y2 r2 rd' wt' Y2 r2 rd' wt' ∧ T4.ownsRow T3.heap.size 5 1 (.slice cp4 k1 cc4) k1 (by8 us) ∧ Byt T4 up k2 uc ws ∧ Byt T3 vp (k1 + k2) vc (us ++ ws) ∧ Below T3.heap.size T3 T4 ∧ b1 < T3.heap.size ∧ b2 < T3.heap.size) := ⟨L3.out.1.below hb4, hO4, byt_below L3.out.2.2.1 hb4, L3.out.2.2.2, hb4, L3.out.1.p1.lt, L3.out.1.p2.lt⟩
        clear hO4 hb4 L3
        go_wp2_with (first | (at_builtin; refine wpList_app rfl (.tmp 116) (.tmp 117) rfl T3.heap.size (.slice cp4 k1 cc4) k1 us rfl up k2 uc ws rfl L4.out.2.1 L4.out.2.2.1 ?c1 ?c2 ?_) | fail)
        case c1 => omega
        case c2 => exact L4.out.2.2.2.2.1.size
        intro v' T5 hO5 hg5 _
        obtain ⟨wp5, wc5, rfl⟩ := one_slice hO5
        have t5 : Below T3.heap.size T4 T5 := (Below.refl _ _).grown hg5 L4.out.2.2.2.2.1.size (own_block L4.out.2.1)
        have L5 : Hid (Tw w T5 b1 b2 Y2 r2 rd' wt' Y2 r2 rd' wt' ∧ Byt T5 wp5 (k1 + k2) wc5 (us ++ ws) ∧ Byt T5 vp (k1 + k2) vc (us ++ ws)) := by
          obtain ⟨h1, h2, h3, h4, h5, h6, h7⟩ := L4.out
          refine ⟨⟨h1.bel.trans (t5.mono (Nat.le_trans h1.g1 (Nat.le_of_lt h6))), h1.g1, h1.g2, h1.ne, pip_belowB h1.p1 t5 h6, pip_belowB h1.p2 t5 h7⟩, byt_own hO5, byt_below h4 (h5.trans t5)⟩
        clear hO5 hg5 t5 L4
        go_wp2_with fail
        refine (bytes_any wp5 vp (k1 + k2) wc5 vc (us ++ ws) T5 (by omega) L5.out.2.1 L5.out.2.2).mono ?_
        rintro e T6 ⟨rfl, kk, hkk⟩
        have L6 : Hid (Tw w T6 b1 b2 Y2 r2 rd' wt' Y2 r2 rd' wt') := L5.out.1.below (by subst hkk; exact ⟨rfl, rfl, rfl, Nat.le_refl _, fun _ _ => rfl⟩)
        clear hkk L5
        go_wp2_with fail
        refine (state_pip L6.out.p1).mono ?_
        rintro e A2 ⟨q1, d1, rfl, hO1, hb1, _⟩
        have S1 : Hid (Tw w A2 b1 b2 Y2 r2 rd' wt' Y2 r2 rd' wt' ∧ Byt A2 q1 Y2.length d1 Y2) := ⟨L6.out.below hb1, byt_own hO1⟩
        obtain ⟨s2, hs2⟩ : ∃ s, s = (r2 + (Y2.length : Int)) % 4294967296 := ⟨_, rfl⟩
        have HS2 : Hid (s2 = (r2 + (Y2.length : Int)) % 4294967296) := hs2
        have es1 : stt q1 Y2.length d1 r2 rd' wt' = .agg #[.slice q1 Y2.length d1, .int .u32 r2, .int .u32 s2, .bool rd', .bool wt'] := by rw [hs2]; rfl
        rw [es1]
        clear es1 hs2 hO1 hb1
        go_wp2_with fail
        refine (state_pip S1.out.1.p2).mono ?_
        rintro e B2 ⟨q2, d2, rfl, hO2, hb2, _⟩
        have es2 : stt q2 Y2.length d2 r2 rd' wt' = .agg #[.slice q2 Y2.length d2, .int .u32 r2, .int .u32 s2, .bool rd', .bool wt'] := by rw [HS2.out]; rfl
        rw [es2]
        have S2 : Hid (Tw w B2 b1 b2 Y2 r2 rd' wt' Y2 r2 rd' wt' ∧ Byt B2 q1 Y2.length d1 Y2 ∧ Byt B2 q2 Y2.length d2 Y2) := ⟨S1.out.1.below hb2, byt_below S1.out.2 hb2, byt_own hO2⟩
        clear es2 hO2 hb2 S1
        go_wp2_with fail
        refine (same_any r2 s2 rd' wt' S2.out.2.1 S2.out.2.2 (by omega)).mono ?_
        rintro e C2 ⟨rfl, hb3⟩
        have S3 : Hid (Tw w C2 b1 b2 Y2 r2 rd' wt' Y2 r2 rd' wt') := S2.out.1.below hb3
        clear hb3 S2
        have HE : Hid (Below w.heap.size w C2) := S3.out.bel
        go_wp2
        go_ret
        exact ⟨rfl, HE.out⟩
    · have i0 : (0 : Int) < nb := by omega
      obtain rfl : h = ah := HJ2.out (by omega)
      clear HJ2
      have ⟨Y1, hY1⟩ : ∃ Y1, Y1 = Y := ⟨_, rfl⟩
      have ⟨r1, hr1⟩ : ∃ r1, r1 = r := ⟨_, rfl⟩
      rw [← hY1, ← hr1] at K2
      rw [← hY1] at hY512
      clear hY1 hr1
      go_wp2_with fail
      refine (state_pip K2.out.p1).mono ?_
      rintro e A1 ⟨q1, d1, rfl, hO1, hb1, _⟩
      have S1 : Hid (Tw w A1 b1 b2 Y1 r1 rd' wt' Y1 r1 rd' wt' ∧ Byt A1 q1 Y1.length d1 Y1) := ⟨K2.out.below hb1, byt_own hO1⟩
      obtain ⟨s1, hs1⟩ : ∃ s, s = (r1 + (Y1.length : Int)) % 4294967296 := ⟨_, rfl⟩
      have HS1 : Hid (s1 = (r1 + (Y1.length : Int)) % 4294967296) := hs1
      have es1 : stt q1 Y1.length d1 r1 rd' wt' = .agg #[.slice q1 Y1.length d1, .int .u32 r1, .int .u32 s1, .bool rd', .bool wt'] := by rw [hs1]; rfl
      rw [es1]
      clear es1 hs1 hO1 hb1
      go_wp2_with fail
      refine (state_pip S1.out.1.p2).mono ?_
      rintro e B1 ⟨q2, d2, rfl, hO2, hb2, _⟩
      have es2 : stt q2 Y1.length d2 r1 rd' wt' = .agg #[.slice q2 Y1.length d2, .int .u32 r1, .int .u32 s1, .bool rd', .bool wt'] := by rw [HS1.out]; rfl
      rw [es2]
      have S2 : Hid (Tw w B1 b1 b2 Y1 r1 rd' wt' Y1 r1 rd' wt' ∧ Byt B1 q1 Y1.length d1 Y1 ∧ Byt B1 q2 Y1.length d2 Y1) := ⟨S1.out.1.below hb2, byt_below S1.out.2 hb2, byt_own hO2⟩
      clear es2 hO2 hb2 S1
      go_wp2_with fail
      refine (same_any r1 s1 rd' wt' S2.out.2.1 S2.out.2.2 (by omega)).mono ?_
      rintro e C1 ⟨rfl, hb3⟩
      have S3 : Hid (Tw w C1 b1 b2 Y1 r1 rd' wt' Y1 r1 rd' wt') := S2.out.1.below hb3
      clear hb3 S2
      by_cases hbad : M < 1 ∨ Nn < 1 ∨ 2305843009213693952 < M ∨ 2305843009213693952 < Nn
      · have HE : Hid (Below w.heap.size w C1) := S3.out.bel
        have HBD : Hid (M < 1 ∨ Nn < 1 ∨ 2305843009213693952 < M ∨ 2305843009213693952 < Nn) := hbad
        clear hbad
        by_cases j1 : M < 1
        · go_wp2
          go_ret
          exact ⟨rfl, HE.out⟩
        · by_cases j2 : Nn < 1
          · go_wp2
            go_ret
            exact ⟨rfl, HE.out⟩
          · by_cases j3 : 2305843009213693952 < M
            · go_wp2
              go_ret
              exact ⟨rfl, HE.out⟩
            · have j4 : 2305843009213693952 < Nn := by rcases HBD.out with h | h | h | h <;> first | exact absurd h j1 | exact absurd h j2 | exact absurd h j3 | exact h
              go_wp2
              go_ret
              exact ⟨rfl, HE.out⟩
      · have j1 : ¬ M < 1 := fun h => hbad (.inl h)
        have j2 : ¬ Nn < 1 := fun h => hbad (.inr (.inl h))
        have j3 : ¬ 2305843009213693952 < M := fun h => hbad (.inr (.inr (.inl h)))
        have j4 : ¬ 2305843009213693952 < Nn := fun h => hbad (.inr (.inr (.inr h)))
        clear hbad
        have hj := take_join Y1 M Nn (by omega) (by omega)
        have HJT : Hid (takeN Y1 M + takeN (Y1.drop (takeN Y1 M)) Nn = takeN Y1 (M + Nn) ∧ Y1.take (takeN Y1 M) ++ (Y1.drop (takeN Y1 M)).take (takeN (Y1.drop (takeN Y1 M)) Nn) = Y1.take (takeN Y1 (M + Nn)) ∧ (Y1.drop (takeN Y1 M)).drop (takeN (Y1.drop (takeN Y1 M)) Nn) = Y1.drop (takeN Y1 (M + Nn))) := hj
        clear hj
        go_wp2_with fail
        refine (take_pip S3.out.p1 M).mono ?_
        rintro e T1 ⟨tp, tc, rfl, hO1, _, hp1, ht1⟩
        have L1 : Hid (Tw w T1 b1 b2 (Y1.drop (takeN Y1 M)) ((r1 + takeN Y1 M) % 4294967296) rd' wt' Y1 r1 rd' wt' ∧ Byt T1 tp (takeN Y1 M) tc (Y1.take (takeN Y1 M)) ∧ (∀ g o, tp = some ⟨g, o, .none⟩ → C1.heap.size ≤ g) ∧ b1 < C1.heap.size ∧ b2 < C1.heap.size) := ⟨S3.out.t1 ht1 hp1, byt_own hO1, fun g o e => own_block hO1 g (by rw [e]; rfl), S3.out.p1.lt, S3.out.p2.lt⟩
        clear hO1 hp1 ht1
        go_wp2_with fail
        refine (take_pip L1.out.1.p1 Nn).mono ?_
        rintro e T2 ⟨up, uc, rfl, hO2, _, hp2, ht2⟩
        have L2 : Hid (Tw w T2 b1 b2 ((Y1.drop (takeN Y1 M)).drop (takeN (Y1.drop (takeN Y1 M)) Nn)) (((r1 + takeN Y1 M) % 4294967296 + takeN (Y1.drop (takeN Y1 M)) Nn) % 4294967296) rd' wt' Y1 r1 rd' wt' ∧ Byt T2 tp (takeN Y1 M) tc (Y1.take (takeN Y1 M)) ∧ Byt T2 up (takeN (Y1.drop (takeN Y1 M)) Nn) uc ((Y1.drop (takeN Y1 M)).take (takeN (Y1.drop (takeN Y1 M)) Nn)) ∧ (∀ g o, tp = some ⟨g, o, .none⟩ → C1.heap.size ≤ g) ∧ (∀ g o, up = some ⟨g, o, .none⟩ → T1.heap.size ≤ g) ∧ b1 < C1.heap.size ∧ b2 < C1.heap.size ∧ b2 < T1.heap.size) := ⟨L1.out.1.t1 ht2 hp2, ht2.byt L1.out.2.1 (fun _ g o e => by have := L1.out.2.2.1 g o e; have := L1.out.2.2.2.1; omega), byt_own hO2, L1.out.2.2.1, fun g o e => own_block hO2 g (by rw [e]; rfl), L1.out.2.2.2.1, L1.out.2.2.2.2, L1.out.1.p2.lt⟩
        clear hO2 hp2 ht2 L1
        have c11 := take_pip L2.out.1.p2 (M + Nn)
        rw [← HJT.out.1] at c11
        have e1 : (r1 + ((takeN Y1 M + takeN (Y1.drop (takeN Y1 M)) Nn : Nat) : Int)) % 4294967296 = ((r1 + takeN Y1 M) % 4294967296 + takeN (Y1.drop (takeN Y1 M)) Nn) % 4294967296 := by omega
        rw [e1] at c11
        clear e1
        have hk1 : takeN Y1 M ≤ 512 := by unfold takeN; omega
        have hk2 : takeN (Y1.drop (takeN Y1 M)) Nn ≤ 512 := by unfold takeN; rw [List.length_drop]; omega
        go_wp2_with fail
        refine c11.mono ?_
        rintro e T3 ⟨vp, vc, rfl, hO3, _, hp3, ht3⟩
        have HDR : Hid (Y1.take (takeN Y1 M + takeN (Y1.drop (takeN Y1 M)) Nn) = Y1.take (takeN Y1 M) ++ (Y1.drop (takeN Y1 M)).take (takeN (Y1.drop (takeN Y1 M)) Nn) ∧ Y1.drop (takeN Y1 M + takeN (Y1.drop (takeN Y1 M)) Nn) = (Y1.drop (takeN Y1 M)).drop (takeN (Y1.drop (takeN Y1 M)) Nn)) := ⟨by rw [HJT.out.1]; exact HJT.out.2.1.symm, by rw [HJT.out.1]; exact HJT.out.2.2.symm⟩
        rw [HDR.out.1] at hO3
        rw [HDR.out.2] at hp3
        have hY5 : ((Y1.drop (takeN Y1 M)).drop (takeN (Y1.drop (takeN Y1 M)) Nn)).length ≤ 512 := by rw [List.length_drop, List.length_drop]; omega
        have hlc : (Y1.take (takeN Y1 M)).length = takeN Y1 M := by rw [List.length_take]; unfold takeN; omega
        generalize (Y1.drop (takeN Y1 M)).drop (takeN (Y1.drop (takeN Y1 M)) Nn) = Y2 at *
        generalize ((r1 + takeN Y1 M) % 4294967296 + takeN (Y1.drop (takeN Y1 M)) Nn) % 4294967296 = r2 at *
        generalize hc2 : (Y1.drop (takeN Y1 M)).take (takeN (Y1.drop (takeN Y1 M)) Nn) = ws at *
        generalize takeN (Y1.drop (takeN Y1 M)) Nn = k2 at *
        generalize hc1 : Y1.take (takeN Y1 M) = us at *
        generalize takeN Y1 M = k1 at *
        have L3 : Hid (Tw w T3 b1 b2 Y2 r2 rd' wt' Y2 r2 rd' wt' ∧ Byt T3 tp k1 tc us ∧ Byt T3 up k2 uc ws ∧ Byt T3 vp (k1 + k2) vc (us ++ ws)) := ⟨L2.out.1.t2 ht3 hp3, ht3.byt L2.out.2.1 (fun _ g o e => by have := L2.out.2.2.2.1 g o e; have := L2.out.2.2.2.2.2.2.1; omega), ht3.byt L2.out.2.2.1 (fun _ g o e => by have := L2.out.2.2.2.2.1 g o e; have := L2.out.2.2.2.2.2.2.2; omega), byt_own hO3⟩
        clear hO3 hp3 ht3 c11 L2 HDR HJT hc1 hc2
        go_wp2_with fail
        refine (copyBytes_any L3.out.2.1 (by omega)).mono ?_
        rintro e T4 ⟨cp4, cc4, rfl, hO4, hb4⟩
        rw [hlc] at hO4 ⊢
        have L4 : Hid (Tw w T4 b1 b2 Y2 r2 rd' wt' Y2 r2 rd' wt' ∧ T4.ownsRow T3.heap.size 5 1 (.slice cp4 k1 cc4) k1 (by8 us) ∧ Byt T4 up k2 uc ws ∧ Byt T3 vp (k1 + k2) vc (us ++ ws) ∧ Below T3.heap.size T3 T4 ∧ b1 < T3.heap.size ∧ b2 < T3.heap.size) := ⟨L3.out.1.below hb4, hO4, byt_below L3.out.2.2.1 hb4, L3.out.2.2.2, hb4, L3.out.1.p1.lt, L3.out.1.p2.lt⟩
        clear hO4 hb4 L3
        go_wp2_with (first | (at_builtin; refine wpList_app rfl (.tmp 116) (.tmp 117) rfl T3.heap.size (.slice cp4 k1 cc4) k1 us rfl up k2 uc ws rfl L4.out.2.1 L4.out.2.2.1 ?c1 ?c2 ?_) | fail)
        case c1 => omega
        case c2 => exact L4.out.2.2.2.2.1.size
        intro v' T5 hO5 hg5 _
        obtain ⟨wp5, wc5, rfl⟩ := one_slice hO5
        have t5 : Below T3.heap.size T4 T5 := (Below.refl _ _).grown hg5 L4.out.2.2.2.2.1.size (own_block L4.out.2.1)
        have L5 : Hid (Tw w T5 b1 b2 Y2 r2 rd' wt' Y2 r2 rd' wt' ∧ Byt T5 wp5 (k1 + k2) wc5 (us ++ ws) ∧ Byt T5 vp (k1 + k2) vc (us ++ ws)) := by
          obtain ⟨h1, h2, h3, h4, h5, h6, h7⟩ := L4.out
          refine ⟨⟨h1.bel.trans (t5.mono (Nat.le_trans h1.g1 (Nat.le_of_lt h6))), h1.g1, h1.g2, h1.ne, pip_belowB h1.p1 t5 h6, pip_belowB h1.p2 t5 h7⟩, byt_own hO5, byt_below h4 (h5.trans t5)⟩
        clear hO5 hg5 t5 L4
        go_wp2_with fail
        refine (bytes_any wp5 vp (k1 + k2) wc5 vc (us ++ ws) T5 (by omega) L5.out.2.1 L5.out.2.2).mono ?_
        rintro e T6 ⟨rfl, kk, hkk⟩
        have L6 : Hid (Tw w T6 b1 b2 Y2 r2 rd' wt' Y2 r2 rd' wt') := L5.out.1.below (by subst hkk; exact ⟨rfl, rfl, rfl, Nat.le_refl _, fun _ _ => rfl⟩)
        clear hkk L5
        go_wp2_with fail
        refine (state_pip L6.out.p1).mono ?_
        rintro e A2 ⟨q1, d1, rfl, hO1, hb1, _⟩
        have S1 : Hid (Tw w A2 b1 b2 Y2 r2 rd' wt' Y2 r2 rd' wt' ∧ Byt A2 q1 Y2.length d1 Y2) := ⟨L6.out.below hb1, byt_own hO1⟩
        obtain ⟨s2, hs2⟩ : ∃ s, s = (r2 + (Y2.length : Int)) % 4294967296 := ⟨_, rfl⟩
        have HS2 : Hid (s2 = (r2 + (Y2.length : Int)) % 4294967296) := hs2
        have es1 : stt q1 Y2.length d1 r2 rd' wt' = .agg #[.slice q1 Y2.length d1, .int .u32 r2, .int .u32 s2, .bool rd', .bool wt'] := by rw [hs2]; rfl
        rw [es1]
        clear es1 hs2 hO1 hb1
        go_wp2_with fail
        refine (state_pip S1.out.1.p2).mono ?_
        rintro e B2 ⟨q2, d2, rfl, hO2, hb2, _⟩
        have es2 : stt q2 Y2.length d2 r2 rd' wt' = .agg #[.slice q2 Y2.length d2, .int .u32 r2, .int .u32 s2, .bool rd', .bool wt'] := by rw [HS2.out]; rfl
        rw [es2]
        have S2 : Hid (Tw w B2 b1 b2 Y2 r2 rd' wt' Y2 r2 rd' wt' ∧ Byt B2 q1 Y2.length d1 Y2 ∧ Byt B2 q2 Y2.length d2 Y2) := ⟨S1.out.1.below hb2, byt_below S1.out.2 hb2, byt_own hO2⟩
        clear es2 hO2 hb2 S1
        go_wp2_with fail
        refine (same_any r2 s2 rd' wt' S2.out.2.1 S2.out.2.2 (by omega)).mono ?_
        rintro e C2 ⟨rfl, hb3⟩
        have S3 : Hid (Tw w C2 b1 b2 Y2 r2 rd' wt' Y2 r2 rd' wt') := S2.out.1.below hb3
        clear hb3 S2
        have HE : Hid (Below w.heap.size w C2) := S3.out.bel
        go_wp2
        go_ret
        exact ⟨rfl, HE.out⟩
end Go.Proofs.Ytabhojfdkmeaoaa
