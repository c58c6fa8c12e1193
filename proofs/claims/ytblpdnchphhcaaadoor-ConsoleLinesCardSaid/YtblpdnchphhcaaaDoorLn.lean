import Derived.Test.YtblpdnchphhcaaaDoorBq
import Derived.Test.YtblpdnchphhcaaaDoorEc
import Derived.Test.YtblpdnchphhcaaaDoorFm
import Derived.Deep.DeepCutAuto
import Derived.Deep.CutBlock
namespace Go.Proofs.YtblpdnchphhcaaaDoor
open Go.RowKit
set_option linter.unusedVariables false
set_option linter.unusedSimpArgs false
/-- The law's own: the console and the book. -/
structure Lni (w wr : World) (b d : Nat) (vD vL : Value) (dn ln : List Int) (g : Nat) : Prop where
  con : Con wr b (dn.drop g) ln
  bok : Bok wr d (b + 1) vD vL dn ln g
  bel : Below w.heap.size w wr
  bb : b = w.heap.size
  dd : Dd wr
theorem Lni.drewN {w wr : World} {b d : Nat} {vD vL : Value} {dn ln : List Int} {g : Nat} (h : Lni w wr b d vD vL dn ln g) (k : Nat) : Lni w (wr.drewN k) b d vD vL dn ln g :=
  ⟨h.con.drewN k, h.bok.drewN k, ⟨h.bel.os, h.bel.tape, h.bel.output, h.bel.size, h.bel.block⟩, h.bb, h.dd⟩
theorem Lni.below {w wr v : World} {b d : Nat} {vD vL : Value} {dn ln : List Int} {g : Nat} (h : Lni w wr b d vD vL dn ln g) (t : Below wr.heap.size wr v) : Lni w v b d vD vL dn ln g :=
  ⟨h.con.below t, h.bok.below t, h.bel.trans (t.mono h.bel.size), h.bb, h.dd.below t⟩
theorem chg_bel {w v : World} {X : Nat} (h : Below X w v) : Chg (fun k => X ≤ k) w v := ⟨h.os, h.tape, h.output, h.size, fun k _ hn => h.block k (by omega)⟩
theorem Con.bel {w v : World} {b X : Nat} {rs ls : List Int} (H : Con w b rs ls) (t : Below X w v) (hb : b < X) : Con v b rs ls := H.keep (chg_bel t) (by show ¬ X ≤ b; omega)
theorem Dd.bel {w v : World} {X : Nat} (H : Dd w) (t : Below X w v) (hb : 0 < X) : Dd v := H.keep (chg_bel t) (by show ¬ X ≤ 0; omega)
set_option maxHeartbeats 16000000 in
set_option maxRecDepth 100000 in
theorem lines_any {w : World} {p : Option Addr} {n c : Nat} {xs : List Int} (hB : Byt w p n c xs) (hx : ∀ x ∈ xs, 0 ≤ x ∧ x < 256) (hd : Dd w) :
    Calls Tryd.prog 4 #[.slice p n c] w fun e w' => e = .returned (.bool true) ∧ Below w.heap.size w w' := by
  have hl := hB.1
  have hnc := hB.2.1
  have hcm : c ≤ 9223372036854775807 := hB.2.2.1
  have HB : Hid (Byt w p n c xs) := hB
  have HX : Hid (∀ x ∈ xs, 0 ≤ x ∧ x < 256) := hx
  have HD : Hid (Dd w) := hd
  have HL : Hid (xs.length = n) := hl
  clear hB hx hd hl
  go_enter Tryd.func4, Tryd.ntmps4
  go_wp2_with fail
  refine (new_any w).mono ?_
  rintro e W1 ⟨rfl, hC, hb1⟩
  obtain ⟨b, hb⟩ : ∃ b, b = w.heap.size := ⟨_, rfl⟩
  have HE : Hid (Con W1 b [] [] ∧ Below w.heap.size w W1 ∧ b = w.heap.size ∧ b < W1.heap.size) := ⟨by rw [hb]; exact hC, hb1, hb, by rw [hb]; exact hC.lt⟩
  rw [← hb]
  clear hC hb1 hb
  go_upto_region 5 with fail
  have HN : Hid (Lni w (W1.alloc (.cells #[.slice none 0 0, .int .i64 0, .slice none 0 0] 34)) b W1.heap.size (.slice none 0 0) (.slice none 0 0) [] [] 0) := by
    have t := Trn.new W1 (.cells #[.slice none 0 0, .int .i64 0, .slice none 0 0] 34)
    have h := HE.out
    have cc : ∀ j v, (#[.slice none 0 0, .int .i64 0, .slice none 0 0] : Array Value)[j]? = some v → (W1.alloc (.cells #[.slice none 0 0, .int .i64 0, .slice none 0 0] 34)).cell? ⟨W1.heap.size, j, .none⟩ = some v := fun j v hv => by
      rw [World.cell?_alloc_at _ _ _ _ rfl]
      exact hv
    refine ⟨h.1.below t, ⟨cc 0 _ rfl, cc 1 _ rfl, cc 2 _ rfl, fun i => froz_new _ _ _ _, World.ownsRow_nil _ _ _ _, World.ownsRow_nil _ _ _ _, (fun k hk => by cases hk), (fun k hk => by cases hk), Nat.le_refl _, by omega, by have := t.size; omega⟩, h.2.1.trans (t.mono h.2.1.size), h.2.2.1, HD.out.below (h.2.1.trans (t.mono h.2.1.size))⟩
  generalize W1.alloc (.cells #[.slice none 0 0, .int .i64 0, .slice none 0 0] 34) = W2 at *
  generalize W1.heap.size = d at *
  clear HE
  go_wp2
  go_loopw [5] (fun v wr => ∃ (I : Nat) (dn ln : List Int) (g : Nat) (vD vL : Value), v = .int .i64 I ∧ I ≤ 2401 ∧ I ≤ n ∧ Hid (Lni w wr b d vD vL dn ln g ∧ dn.length + ln.length ≤ I)) (fun v _ => (2402 - intOf v).toNat)
  case atStart => exact ⟨0, [], [], 0, _, _, rfl, by omega, by omega, HN.out, by simp⟩
  case round =>
    clear HN
    obtain ⟨I, dn, ln, g, vD, vL, rfl, hI, hIn, HH⟩ := hrel
    by_cases hlt : I < 2400 ∧ I < n
    · have g1 : (I : Int) < 2400 := by omega
      have g2 : (I : Int) < n := by omega
      go_upto_block 1 with fail
      go_step
      go_step
      go_cut [5] (fun s5 wc => ∃ (J : Nat) (dn ln : List Int) (g : Nat) (vD vL : Value), s5 = .int .i64 J ∧ I ≤ J ∧ J ≤ 2400 ∧ J < n ∧ Hid (Lni w wc b d vD vL dn ln g ∧ dn.length + ln.length ≤ J + 1))
      case first =>
        obtain ⟨bb, oo, rfl, hbb, hcl⟩ : ∃ bb oo, p = some ⟨bb, oo, .none⟩ ∧ bb < w.heap.size ∧ ∀ i x, xs[i]? = some x → w.cell? ⟨bb, oo + i, .none⟩ = some (.int .u8 x) := by
          rcases HB.out.2.2.2 with h0 | ⟨bb, oo, h1, h2, h3⟩
          · omega
          · exact ⟨bb, oo, h1, h2, h3⟩
        have HC : Hid (∀ (V : World) i x, Below w.heap.size w V → xs[i]? = some x → V.cell? ⟨bb, oo + i, .none⟩ = some (.int .u8 x)) := fun V i x hV hx => (hV.cell (p := ⟨bb, oo + i, .none⟩) hbb).trans (hcl i x hx)
        obtain ⟨x, hx⟩ : ∃ x, xs[I]? = some x := ⟨xs[I]'(by rw [HL.out]; omega), by simp⟩
        have HXI : Hid (xs[I]? = some x) := hx
        have hxb : 0 ≤ x ∧ x < 256 := HX.out x (List.mem_of_getElem? hx)
        have a0 : wr.cell? ⟨bb, oo + I, .none⟩ = some (.int .u8 x) := HC.out wr I x HH.out.1.bel hx
        clear hcl hx hbb hlt
        by_cases hA : x = 255 ∧ I + 1 < n
        · obtain ⟨rfl, hI1⟩ := hA
          have g3 : (I : Int) + 1 < n := by omega
          obtain ⟨y, hy⟩ : ∃ y, xs[I + 1]? = some y := ⟨xs[I + 1]'(by rw [HL.out]; omega), by simp⟩
          have hyb : 0 ≤ y ∧ y < 256 := HX.out y (List.mem_of_getElem? hy)
          have a1 : wr.cell? ⟨bb, oo + (I + 1), .none⟩ = some (.int .u8 y) := HC.out wr (I + 1) y HH.out.1.bel hy
          clear hy hxb
          by_cases h0 : dn.length - g = 0
          · have h0' : (dn.drop g).length = 0 := by rw [List.length_drop]; exact h0
            have c1 := peek_no HH.out.1.con h0' (1 + y)
            have c2 := take_no HH.out.1.con h0' (1 + y)
            have c3 := bytes_any none none 0 0 0 [] wr (by omega) ⟨rfl, Nat.le_refl _, by decide, .inl rfl⟩ ⟨rfl, Nat.le_refl _, by decide, .inl rfl⟩
            have HG : Hid (∀ k, Calls Tryd.prog 15 #[.pointer (some ⟨d, 0, .none⟩), .slice none 0 0, .bool false, .int .i64 (1 + y)] (wr.drewN k) fun e w' => e = .returned (.bool true) ∧ ∃ j, w' = (wr.drewN k).drewN j) := fun k => given_no (HH.out.1.bok.drewN k) h0 (1 + y) (by have := HH.out.2; omega)
            clear h0 h0'
            go_wp2_with fail
            refine c1.mono ?_
            rintro e w1 ⟨rfl, hw1⟩
            obtain rfl : wr = w1 := hw1.symm
            go_wp2_with fail
            refine c2.mono ?_
            rintro e w1 ⟨rfl, hw1⟩
            obtain rfl : wr = w1 := hw1.symm
            clear c1 c2
            go_wp2_with fail
            refine c3.mono ?_
            rintro e V1 ⟨rfl, k, hk⟩
            have H1 : Hid (Lni w V1 b d vD vL dn ln g) := by subst hk; exact HH.out.1.drewN k
            have c4 := HG.out k
            rw [← hk] at c4
            clear hk HG c3
            go_wp2_with fail
            refine c4.mono ?_
            rintro e V2 ⟨rfl, k, hk⟩
            have H2 : Hid (Lni w V2 b d vD vL dn ln g) := by subst hk; exact H1.out.drewN k
            clear hk c4
            go_wp2
            go_meet
            case rel => exact ⟨I + 1, dn, ln, g, vD, vL, rfl, by omega, by omega, by omega, H2.out, by have := HH.out.2; omega⟩
          · have h0p : 0 < dn.length - g := by omega
            have h0' : 0 < (dn.drop g).length := by rw [List.length_drop]; exact h0p
            have c1 := peek_any HH.out.1.con h0' (1 + y)
            have HTK : Hid (∀ V : World, Con V b (dn.drop g) ln → Calls Tryd.prog 14 #[.pointer (some ⟨b, 0, .none⟩), .int .i64 (1 + y)] V (Ty V b ((dn.drop g).drop (nxG (dn.drop g) (1 + y))) ln ((dn.drop g).take (nxT (dn.drop g) (1 + y))) true)) := fun V hV => take_any hV h0' (1 + y)
            have lt1 : ((dn.drop g).take (nxT (dn.drop g) (1 + y))).length = nxT (dn.drop g) (1 + y) := by rw [List.length_take]; have := nxT_le (dn.drop g) (1 + y); omega
            have HGV : Hid (∀ (V : World) (pl : Option Addr) (cl : Nat), Bok V d (b + 1) vD vL dn ln g → Byt V pl (nxT (dn.drop g) (1 + y)) cl ((dn.drop g).take (nxT (dn.drop g) (1 + y))) → (0 < nxT (dn.drop g) (1 + y) → ∀ k o, pl = some ⟨k, o, .none⟩ → k ≠ d) → Calls Tryd.prog 15 #[.pointer (some ⟨d, 0, .none⟩), .slice pl (nxT (dn.drop g) (1 + y)) cl, .bool true, .int .i64 (1 + y)] V fun e w' => e = .returned (.bool true) ∧ Bok w' d (b + 1) vD vL dn ln (g + nxG (dn.drop g) (1 + y)) ∧ Below (b + 1) V w') := fun V pl cl h1 h2 h3 => given_yes h1 h0p (1 + y) (by omega) (by have := HH.out.2; omega) rfl h2 h3
            have hTb : nxT (dn.drop g) (1 + y) ≤ 2400 := by have := nxT_le (dn.drop g) (1 + y); rw [List.length_drop] at this; have := HH.out.2; omega
            clear h0 h0p h0'
            have HDD : Hid (∀ G, (dn.drop g).drop G = dn.drop (g + G)) := fun G => by rw [List.drop_drop]
            generalize nxG (dn.drop g) (1 + y) = G at *
            generalize nxT (dn.drop g) (1 + y) = T at *
            have LT : Hid (((dn.drop g).take T).length = T) := lt1
            clear lt1
            go_wp2_with fail
            refine c1.mono ?_
            rintro e W3 ⟨pe, ce, rfl, hO, hC, hT⟩
            rw [LT.out] at hO ⊢
            have H3 : Hid (Con W3 b (dn.drop g) ln ∧ Bok W3 d (b + 1) vD vL dn ln g ∧ Below w.heap.size w W3 ∧ b = w.heap.size ∧ Dd W3 ∧ W3.ownsRow wr.heap.size 5 1 (.slice pe T ce) T (by8 ((dn.drop g).take T)) ∧ d < wr.heap.size ∧ b < wr.heap.size ∧ wr.heap.size ≤ W3.heap.size) := by
              have h := HH.out.1
              exact ⟨hC, h.bok.trn hT (by omega), h.bel.trans (hT.toBelow (by have := h.bb; omega) h.bel.size), h.bb, h.dd.keep (Chg.ofTrn hT) (fun e => (h.dd.ne h.con) e.symm), hO, h.bok.lt, h.con.lt, hT.size⟩
            clear hO hC hT c1
            go_wp2_with fail
            refine (HTK.out _ H3.out.1).mono ?_
            rintro e W4 ⟨pl, cl, rfl, hO, hC, hT⟩
            rw [LT.out] at hO ⊢
            have H4 : Hid (Con W4 b (dn.drop (g + G)) ln ∧ Bok W4 d (b + 1) vD vL dn ln g ∧ Below w.heap.size w W4 ∧ Dd W4 ∧ Byt W4 pe T ce ((dn.drop g).take T) ∧ Byt W4 pl T cl ((dn.drop g).take T) ∧ (0 < T → ∀ k o, pl = some ⟨k, o, .none⟩ → k ≠ d)) := by
              have h := H3.out
              refine ⟨by rw [← HDD.out]; exact hC, h.2.1.trn hT (by omega), h.2.2.1.trans (hT.toBelow (by have := h.2.2.2.1; omega) h.2.2.1.size), h.2.2.2.2.1.keep (Chg.ofTrn hT) (fun e => (h.2.2.2.2.1.ne h.1) e.symm), byt_own (hT.own h.2.2.2.2.2.1 (fun k hk e => ?_)), byt_own hO, fun h0 k o hk e => ?_⟩
              · have := own_block h.2.2.2.2.2.1 k hk
                have := h.2.2.2.2.2.2.2.1
                omega
              · obtain ⟨T', rfl⟩ : ∃ T', T = T' + 1 := ⟨T - 1, by omega⟩
                obtain ⟨g', hg'⟩ := own_some hO
                rw [hk] at hg'
                injection hg' with hg'
                injection hg' with h1 h2 h3
                have := own_block hO k (by rw [hk, h2]; rfl)
                have := h.2.2.2.2.2.2.1
                have := h.2.2.2.2.2.2.2.2
                omega
            clear hO hC hT HTK
            have c3 := bytes_any pe pl T ce cl _ W4 (by omega) H4.out.2.2.2.2.1 H4.out.2.2.2.2.2.1
            go_wp2_with fail
            refine c3.mono ?_
            rintro e V1 ⟨rfl, k, hk⟩
            have H5 : Hid (Con V1 b (dn.drop (g + G)) ln ∧ Bok V1 d (b + 1) vD vL dn ln g ∧ Below w.heap.size w V1 ∧ Dd V1 ∧ Byt V1 pl T cl ((dn.drop g).take T)) := by
              have h := H4.out
              subst hk
              exact ⟨h.1.drewN k, h.2.1.drewN k, ⟨h.2.2.1.os, h.2.2.1.tape, h.2.2.1.output, h.2.2.1.size, h.2.2.1.block⟩, h.2.2.2.1, h.2.2.2.2.2.1⟩
            clear hk c3
            have c4 := HGV.out V1 pl cl H5.out.2.1 H5.out.2.2.2.2 H4.out.2.2.2.2.2.2
            go_wp2_with fail
            refine c4.mono ?_
            rintro e V2 ⟨rfl, hb, hbl⟩
            have H6 : Hid (Lni w V2 b d vD vL dn ln (g + G)) := by
              have h := H5.out
              have h3 := H3.out.2.2.2.1
              exact ⟨h.1.bel hbl (by omega), hb, h.2.2.1.trans (hbl.mono (by omega)), h3, h.2.2.2.1.bel hbl (by omega)⟩
            clear hb hbl c4
            go_wp2
            go_meet
            case rel => exact ⟨I + 1, dn, ln, g + G, vD, vL, rfl, by omega, by omega, by omega, H6.out, by have := HH.out.2; omega⟩
        · have HxB : Hid (0 ≤ x ∧ x < 256) := hxb
          clear hxb
          have c1 := type_any HH.out.1.con HH.out.1.dd x HxB.out
          generalize hR' : tyR (dn.drop g) ln x = R' at c1
          generalize hL' : tyL (dn.drop g) ln x = L' at c1
          generalize tyE (dn.drop g) ln x = E' at c1
          generalize tyB (dn.drop g) ln x = B' at c1
          have HR' : Hid (tyR (dn.drop g) ln x = R') := hR'
          have HL' : Hid (tyL (dn.drop g) ln x = L') := hL'
          clear hR' hL'
          have hpick : (x == 255) = false ∨ (x == 255) = true ∧ ¬ ((I : Int) + 1 < n) := by
            by_cases h : x = 255
            · right
              exact ⟨by simpa using h, by omega⟩
            · left
              simpa using h
          clear hA
          rcases hpick with i1 | ⟨i1, i2⟩
          all_goals
            go_wp2_with fail
            refine c1.mono ?_
            rintro e W3 ⟨pe, ce, rfl, hO, hC, hT⟩
            have H3 : Hid (Con W3 b R' L' ∧ Bok W3 d (b + 1) vD vL dn ln g ∧ Below w.heap.size w W3 ∧ b = w.heap.size ∧ Dd W3) := by
              have h := HH.out.1
              exact ⟨hC, h.bok.trn hT (by omega), h.bel.trans (hT.toBelow (by have := h.bb; omega) h.bel.size), h.bb, h.dd.keep (Chg.ofTrn hT) (fun e => (h.dd.ne h.con) e.symm)⟩
            have a1 : W3.cell? ⟨bb, oo + I, .none⟩ = some (.int .u8 x) := HC.out W3 I x H3.out.2.2.1 HXI.out
            clear hO hC hT c1
            have c2 := typed_any H3.out.2.1 x (by have := HH.out.2; omega)
            rw [HR'.out, HL'.out] at c2
            go_wp2_with fail
            refine c2.mono ?_
            rintro e W4 ⟨⟨v, rfl⟩, ⟨vD', vL', dn', hb, hdr, hln⟩, hbl⟩
            have H4 : Hid (Lni w W4 b d vD' vL' dn' L' g ∧ dn'.length + L'.length ≤ I + 1) := by
              have h := H3.out
              refine ⟨⟨?_, hb, h.2.2.1.trans (hbl.mono (by have := h.2.2.2.1; omega)), h.2.2.2.1, h.2.2.2.2.bel hbl (by omega)⟩, by have := HH.out.2; omega⟩
              rw [hdr]
              exact h.1.bel hbl (by omega)
            clear hb hdr hln hbl c2 a0 a1
            go_wp2
            go_meet
            case rel => exact ⟨I, dn', L', g, vD', vL', rfl, by omega, by omega, by omega, H4.out⟩
      case rest =>
        clear g1 g2 hlt HH
        obtain ⟨J, dn, ln, g, vD, vL, rfl, hIJ, hJ, hJn, HT⟩ := hcut
        have cS := state_any HT.out.1.con
        go_wp2_with fail
        refine cS.mono ?_
        rintro e V1 ⟨p1, d1, q2, d2, X, rfl, hO1, hO2, hX, hlX, hb1⟩
        have H1 : Hid (Lni w V1 b d vD vL dn ln g ∧ Byt V1 p1 (dn.drop g).length d1 (dn.drop g) ∧ Byt V1 q2 ln.length d2 ln) := ⟨HT.out.1.below hb1, byt_own hO1, byt_own hO2⟩
        clear hO1 hO2 hX hlX hb1 cS
        go_upto_region 18 with fail
        have hs2 := sb_new V1 p1 (dn.length - g) d1 q2 ln.length d2
        have hb2 := Trn.new V1 (.cells #[.slice p1 (dn.length - g) d1, .slice q2 ln.length d2] 29)
        generalize V1.alloc (.cells #[.slice p1 (dn.length - g) d1, .slice q2 ln.length d2] 29) = V2 at *
        obtain ⟨pD, cD, rfl⟩ := one_slice H1.out.1.bok.rD
        obtain ⟨pL, cL, rfl⟩ := one_slice H1.out.1.bok.rL
        have H2 : Hid (Lni w V2 b d (.slice pD dn.length cD) (.slice pL ln.length cL) dn ln g ∧ Byt V2 p1 (dn.length - g) d1 (dn.drop g) ∧ Byt V2 q2 ln.length d2 ln ∧ Sb V2 V1.heap.size p1 (dn.length - g) d1 q2 ln.length d2) := by
          have h := H1.out
          rw [List.length_drop] at h
          exact ⟨h.1.below hb2, byt_below h.2.1 hb2, byt_below h.2.2 hb2, hs2⟩
        clear H1 hs2 hb2
        generalize V1.heap.size = sb at *
        have hgl := H2.out.1.bok.gl
        have hle := H2.out.1.con.le
        rw [List.length_drop] at hle
        have hDJ : dn.length + ln.length ≤ 2401 := by have := HT.out.2; omega
        have kS : Hid (∀ V : World, Lni w V b d (.slice pD dn.length cD) (.slice pL ln.length cL) dn ln g → Sb V sb p1 (dn.length - g) d1 q2 ln.length d2 → (V.cell? ⟨d, 0, .none⟩ = some (.slice pD dn.length cD) ∧ V.cell? ⟨d, 1, .none⟩ = some (.int .i64 g) ∧ V.cell? ⟨d, 2, .none⟩ = some (.slice pL ln.length cL) ∧ V.cell? ⟨sb, 0, .none⟩ = some (.slice p1 (dn.length - g) d1) ∧ V.cell? ⟨sb, 1, .none⟩ = some (.slice q2 ln.length d2))) := fun V h1 h2 => ⟨h1.bok.c0, h1.bok.c1, h1.bok.c2, h2.c0, h2.c1⟩
        have BD : Hid (Byt V2 (cutp pD cD g) (dn.length - g) (cD - g) (dn.drop g)) := by
          have := byt_cut (byt_own H2.out.1.bok.rD) g dn.length hgl (Nat.le_refl _)
          rw [List.take_length] at this
          exact this
        have BL : Hid (Byt V2 pL ln.length cL ln) := byt_own H2.out.1.bok.rL
        have ca := cutat pD dn.length cD
        have cf := cut_from pD dn.length cD g hgl
        have CR : Hid (Calls Tryd.prog 17 #[.pointer (some ⟨b, 0, .none⟩)] V2.drew fun e w' => e = .returned (.bool (decide (g < dn.length))) ∧ w' = V2.drew) := by
          have := ready_any (H2.out.1.con.drewN 1)
          rw [List.length_drop] at this
          rw [show decide (0 < dn.length - g) = decide (g < dn.length) from decide_eq_decide.2 (by omega)] at this
          exact this
        have CB1 : Hid (Calls Tryd.prog 11 #[.slice p1 (dn.length - g) d1, .slice (cutp pD cD g) (dn.length - g) (cD - g)] V2.drew fun e w' => e = .returned (.bool true) ∧ ∃ k, w' = V2.drew.drewN k) := bytes_any p1 (cutp pD cD g) (dn.length - g) d1 (cD - g) (dn.drop g) V2.drew (by omega) H2.out.2.1 BD.out
        have CB2 : Hid (∀ k, Calls Tryd.prog 11 #[.slice q2 ln.length d2, .slice pL ln.length cL] (V2.drew.drewN k) fun e w' => e = .returned (.bool true) ∧ ∃ k', w' = (V2.drew.drewN k).drewN k') := fun k => bytes_any q2 pL ln.length d2 cL ln (V2.drew.drewN k) (by omega) H2.out.2.2.1 BL.out
        have k0 := kS.out V2.drew (H2.out.1.drewN 1) ⟨H2.out.2.2.2.c0, H2.out.2.2.2.c1⟩
        have HLN : Hid (∀ V k, V = V2.drew.drewN k → (V.cell? ⟨d, 0, .none⟩ = some (.slice pD dn.length cD) ∧ V.cell? ⟨d, 1, .none⟩ = some (.int .i64 g) ∧ V.cell? ⟨d, 2, .none⟩ = some (.slice pL ln.length cL) ∧ V.cell? ⟨sb, 0, .none⟩ = some (.slice p1 (dn.length - g) d1) ∧ V.cell? ⟨sb, 1, .none⟩ = some (.slice q2 ln.length d2))) := fun V k e => by
          subst e
          exact kS.out _ ((H2.out.1.drewN 1).drewN k) ⟨H2.out.2.2.2.c0, H2.out.2.2.2.c1⟩
        have HLM : Hid (∀ V k k', V = (V2.drew.drewN k).drewN k' → Lni w V b d (.slice pD dn.length cD) (.slice pL ln.length cL) dn ln g ∧ (V.cell? ⟨d, 0, .none⟩ = some (.slice pD dn.length cD) ∧ V.cell? ⟨d, 1, .none⟩ = some (.int .i64 g) ∧ V.cell? ⟨d, 2, .none⟩ = some (.slice pL ln.length cL) ∧ V.cell? ⟨sb, 0, .none⟩ = some (.slice p1 (dn.length - g) d1) ∧ V.cell? ⟨sb, 1, .none⟩ = some (.slice q2 ln.length d2))) := fun V k k' e => by
          subst e
          exact ⟨((H2.out.1.drewN 1).drewN k).drewN k', kS.out _ (((H2.out.1.drewN 1).drewN k).drewN k') ⟨H2.out.2.2.2.c0, H2.out.2.2.2.c1⟩⟩
        have HDJ : Hid (dn.length + ln.length ≤ J + 1) := HT.out.2
        clear kS BD BL HT H2
        generalize hDl : dn.length = D at *
        have HDl : Hid (dn.length = D) := hDl
        clear hDl
        generalize hLl : ln.length = L at *
        have HLl : Hid (ln.length = L) := hLl
        clear hLl
        obtain ⟨R, hR⟩ : ∃ R, R = D - g := ⟨_, rfl⟩
        rw [← hR] at CB1 HLN HLM k0 cf
        have nb : (R : Int) + (L : Int) ≤ 128 := by omega
        have wrp : IntKind.i64.wrap ((R : Int) + (L : Int)) = (R : Int) + (L : Int) := by rw [IntKind.wrap_i64]; omega
        have HRe : Hid (R = D - g) := hR
        clear hR hle
        have cv : decide ((g : Int) < (D : Int)) = decide (g < D) := by simp
        generalize hrd : decide (g < D) = rd at *
        clear cv
        refine wp_region_held_drew (S := fun U => (U.cell? ⟨d, 0, .none⟩ = some (.slice pD D cD) ∧ U.cell? ⟨d, 1, .none⟩ = some (.int .i64 g) ∧ U.cell? ⟨d, 2, .none⟩ = some (.slice pL L cL) ∧ U.cell? ⟨sb, 0, .none⟩ = some (.slice p1 R d1) ∧ U.cell? ⟨sb, 1, .none⟩ = some (.slice q2 L d2))) (by kernel_rfl) k0 (fun hHeld => ?_)
        refine wpAnyH_take (i := 0) (v := (.pointer (some ⟨b, 0, .none⟩))) rfl (by kernel_rfl) (by kernel_rfl) (by kernel_rfl) (fun _ _ _ h => h) (Or.inl ⟨by rfl, fun ww hSw => by (try dsimp only at hSw); go_simp⟩) (by assumption) ?_
        simp only [Act.put, List.setIfInBounds_toArray, List.set_cons_zero, List.set_cons_succ, List.getElem_toArray, List.getElem_cons_succ, List.getElem_cons_zero]
        refine wpAnyH_take (i := 2) (v := (.pointer (some ⟨d, 0, .none⟩))) rfl (by kernel_rfl) (by kernel_rfl) (by kernel_rfl) (fun _ _ _ h => h) (Or.inl ⟨by rfl, fun ww hSw => by (try dsimp only at hSw); go_simp⟩) (by assumption) ?_
        simp only [Act.put, List.setIfInBounds_toArray, List.set_cons_zero, List.set_cons_succ, List.getElem_toArray, List.getElem_cons_succ, List.getElem_cons_zero]
        refine wpAnyH_take (i := 3) (v := (.pointer (some ⟨d, 0, .none⟩))) rfl (by kernel_rfl) (by kernel_rfl) (by kernel_rfl) (fun _ _ _ h => h) (Or.inl ⟨by rfl, fun ww hSw => by (try dsimp only at hSw); go_simp⟩) (by assumption) ?_
        simp only [Act.put, List.setIfInBounds_toArray, List.set_cons_zero, List.set_cons_succ, List.getElem_toArray, List.getElem_cons_succ, List.getElem_cons_zero]
        refine wpAnyH_take (i := 4) (v := (.pointer (some ⟨d, 1, .none⟩))) rfl (by kernel_rfl) (by kernel_rfl) (by kernel_rfl) (fun _ _ _ h => h) (Or.inl ⟨by rfl, fun ww hSw => by (try dsimp only at hSw); go_simp⟩) (by assumption) ?_
        simp only [Act.put, List.setIfInBounds_toArray, List.set_cons_zero, List.set_cons_succ, List.getElem_toArray, List.getElem_cons_succ, List.getElem_cons_zero]
        refine wpAnyH_take (i := 5) (v := (.int .i64 g)) rfl (by kernel_rfl) (by kernel_rfl) (by kernel_rfl) (fun _ _ _ h => h) (Or.inl ⟨by rfl, fun ww hSw => by (try dsimp only at hSw); go_simp⟩) (by assumption) ?_
        simp only [Act.put, List.setIfInBounds_toArray, List.set_cons_zero, List.set_cons_succ, List.getElem_toArray, List.getElem_cons_succ, List.getElem_cons_zero]
        refine wpAnyH_take (i := 6) (v := (.pointer (some ⟨d, 0, .none⟩))) rfl (by kernel_rfl) (by kernel_rfl) (by kernel_rfl) (fun _ _ _ h => h) (Or.inl ⟨by rfl, fun ww hSw => by (try dsimp only at hSw); go_simp⟩) (by assumption) ?_
        simp only [Act.put, List.setIfInBounds_toArray, List.set_cons_zero, List.set_cons_succ, List.getElem_toArray, List.getElem_cons_succ, List.getElem_cons_zero]
        refine wpAnyH_take (i := 7) (v := (.pointer (some ⟨d, 0, .none⟩))) rfl (by kernel_rfl) (by kernel_rfl) (by kernel_rfl) (fun _ _ _ h => h) (Or.inl ⟨by rfl, fun ww hSw => by (try dsimp only at hSw); go_simp⟩) (by assumption) ?_
        simp only [Act.put, List.setIfInBounds_toArray, List.set_cons_zero, List.set_cons_succ, List.getElem_toArray, List.getElem_cons_succ, List.getElem_cons_zero]
        refine wpAnyH_take (i := 8) (v := (.pointer (some ⟨d, 0, .none⟩))) rfl (by kernel_rfl) (by kernel_rfl) (by kernel_rfl) (fun _ _ _ h => h) (Or.inl ⟨by rfl, fun ww hSw => by (try dsimp only at hSw); go_simp⟩) (by assumption) ?_
        simp only [Act.put, List.setIfInBounds_toArray, List.set_cons_zero, List.set_cons_succ, List.getElem_toArray, List.getElem_cons_succ, List.getElem_cons_zero]
        refine wpAnyH_take (i := 9) (v := (.slice pD D cD)) rfl (by kernel_rfl) (by kernel_rfl) (by kernel_rfl) (fun _ _ _ h => h) (Or.inl ⟨by rfl, fun ww hSw => by (try dsimp only at hSw); go_simp⟩) (by assumption) ?_
        simp only [Act.put, List.setIfInBounds_toArray, List.set_cons_zero, List.set_cons_succ, List.getElem_toArray, List.getElem_cons_succ, List.getElem_cons_zero]
        refine wpAnyH_take (i := 10) (v := (.int .i64 D)) rfl (by kernel_rfl) (by kernel_rfl) (by kernel_rfl) (fun _ _ _ h => h) (Or.inl ⟨by rfl, fun ww hSw => by (try dsimp only at hSw); go_simp⟩) (by assumption) ?_
        simp only [Act.put, List.setIfInBounds_toArray, List.set_cons_zero, List.set_cons_succ, List.getElem_toArray, List.getElem_cons_succ, List.getElem_cons_zero]
        refine wpAnyH_take (i := 11) (v := (.bool rd)) rfl (by kernel_rfl) (by kernel_rfl) (by kernel_rfl) (fun _ _ _ h => h) (Or.inl ⟨by rfl, fun ww hSw => by (try dsimp only at hSw); go_simp⟩) (by assumption) ?_
        simp only [Act.put, List.setIfInBounds_toArray, List.set_cons_zero, List.set_cons_succ, List.getElem_toArray, List.getElem_cons_succ, List.getElem_cons_zero]
        refine wpAnyH_ready (rs := [1]) (by kernel_rfl) (by simp) ?_
        refine AllReadyH.cons rfl (fun K hK => ?_) AllReadyH.nil
        go_simp
        refine CR.out.mono ?_
        rintro e w1 ⟨rfl, hw1⟩
        obtain rfl : V2.drew = w1 := hw1.symm
        refine hK.out _ _ k0 (fun hHeld => ?_)
        clear hK K
        try simp only [Act.put, List.setIfInBounds_toArray, List.set_cons_zero, List.set_cons_succ, List.getElem_toArray, List.getElem_cons_succ, List.getElem_cons_zero]
        refine wpAnyH_take (i := 12) (v := (.bool false)) rfl (by kernel_rfl) (by kernel_rfl) (by kernel_rfl) (fun _ _ _ h => h) (Or.inl ⟨by rfl, fun ww hSw => by (try dsimp only at hSw); go_simp⟩) (by assumption) ?_
        simp only [Act.put, List.setIfInBounds_toArray, List.set_cons_zero, List.set_cons_succ, List.getElem_toArray, List.getElem_cons_succ, List.getElem_cons_zero]
        refine wpAnyH_take (i := 13) (v := (.bool false)) rfl (by kernel_rfl) (by kernel_rfl) (by kernel_rfl) (fun _ _ _ h => h) (Or.inl ⟨by rfl, fun ww hSw => by (try dsimp only at hSw); go_simp⟩) (by assumption) ?_
        simp only [Act.put, List.setIfInBounds_toArray, List.set_cons_zero, List.set_cons_succ, List.getElem_toArray, List.getElem_cons_succ, List.getElem_cons_zero]
        refine wpAnyH_take (i := 14) (v := (.pointer (some ⟨sb, 0, .none⟩))) rfl (by kernel_rfl) (by kernel_rfl) (by kernel_rfl) (fun _ _ _ h => h) (Or.inl ⟨by rfl, fun ww hSw => by (try dsimp only at hSw); go_simp⟩) (by assumption) ?_
        simp only [Act.put, List.setIfInBounds_toArray, List.set_cons_zero, List.set_cons_succ, List.getElem_toArray, List.getElem_cons_succ, List.getElem_cons_zero]
        refine wpAnyH_take (i := 15) (v := (.slice p1 R d1)) rfl (by kernel_rfl) (by kernel_rfl) (by kernel_rfl) (fun _ _ _ h => h) (Or.inl ⟨by rfl, fun ww hSw => by (try dsimp only at hSw); go_simp⟩) (by assumption) ?_
        simp only [Act.put, List.setIfInBounds_toArray, List.set_cons_zero, List.set_cons_succ, List.getElem_toArray, List.getElem_cons_succ, List.getElem_cons_zero]
        refine wpAnyH_take (i := 16) (v := (.int .i64 R)) rfl (by kernel_rfl) (by kernel_rfl) (by kernel_rfl) (fun _ _ _ h => h) (Or.inl ⟨by rfl, fun ww hSw => by (try dsimp only at hSw); go_simp⟩) (by assumption) ?_
        simp only [Act.put, List.setIfInBounds_toArray, List.set_cons_zero, List.set_cons_succ, List.getElem_toArray, List.getElem_cons_succ, List.getElem_cons_zero]
        refine wpAnyH_take (i := 17) (v := (.pointer (some ⟨sb, 1, .none⟩))) rfl (by kernel_rfl) (by kernel_rfl) (by kernel_rfl) (fun _ _ _ h => h) (Or.inl ⟨by rfl, fun ww hSw => by (try dsimp only at hSw); go_simp⟩) (by assumption) ?_
        simp only [Act.put, List.setIfInBounds_toArray, List.set_cons_zero, List.set_cons_succ, List.getElem_toArray, List.getElem_cons_succ, List.getElem_cons_zero]
        refine wpAnyH_take (i := 18) (v := (.slice q2 L d2)) rfl (by kernel_rfl) (by kernel_rfl) (by kernel_rfl) (fun _ _ _ h => h) (Or.inl ⟨by rfl, fun ww hSw => by (try dsimp only at hSw); go_simp⟩) (by assumption) ?_
        simp only [Act.put, List.setIfInBounds_toArray, List.set_cons_zero, List.set_cons_succ, List.getElem_toArray, List.getElem_cons_succ, List.getElem_cons_zero]
        refine wpAnyH_take (i := 19) (v := (.int .i64 L)) rfl (by kernel_rfl) (by kernel_rfl) (by kernel_rfl) (fun _ _ _ h => h) (Or.inl ⟨by rfl, fun ww hSw => by (try dsimp only at hSw); go_simp⟩) (by assumption) ?_
        simp only [Act.put, List.setIfInBounds_toArray, List.set_cons_zero, List.set_cons_succ, List.getElem_toArray, List.getElem_cons_succ, List.getElem_cons_zero]
        refine wpAnyH_take (i := 20) (v := (.int .i64 ((R : Int) + (L : Int)))) rfl (by kernel_rfl) (by kernel_rfl) (by kernel_rfl) (fun _ _ _ h => h) (Or.inl ⟨by rfl, fun ww hSw => by (try dsimp only at hSw); go_simp⟩) (by assumption) ?_
        simp only [Act.put, List.setIfInBounds_toArray, List.set_cons_zero, List.set_cons_succ, List.getElem_toArray, List.getElem_cons_succ, List.getElem_cons_zero]
        refine wpAnyH_take (i := 21) (v := (.bool false)) rfl (by kernel_rfl) (by kernel_rfl) (by kernel_rfl) (fun _ _ _ h => h) (Or.inl ⟨by rfl, fun ww hSw => by (try dsimp only at hSw); go_simp⟩) (by assumption) ?_
        simp only [Act.put, List.setIfInBounds_toArray, List.set_cons_zero, List.set_cons_succ, List.getElem_toArray, List.getElem_cons_succ, List.getElem_cons_zero]
        refine wpAnyH_take (i := 22) (v := (.bool false)) rfl (by kernel_rfl) (by kernel_rfl) (by kernel_rfl) (fun _ _ _ h => h) (Or.inl ⟨by rfl, fun ww hSw => by (try dsimp only at hSw); go_simp⟩) (by assumption) ?_
        simp only [Act.put, List.setIfInBounds_toArray, List.set_cons_zero, List.set_cons_succ, List.getElem_toArray, List.getElem_cons_succ, List.getElem_cons_zero]
        refine wpAnyH_take (i := 23) (v := (.bool false)) rfl (by kernel_rfl) (by kernel_rfl) (by kernel_rfl) (fun _ _ _ h => h) (Or.inl ⟨by rfl, fun ww hSw => by (try dsimp only at hSw); go_simp⟩) (by assumption) ?_
        simp only [Act.put, List.setIfInBounds_toArray, List.set_cons_zero, List.set_cons_succ, List.getElem_toArray, List.getElem_cons_succ, List.getElem_cons_zero]
        refine wpAnyH_take (i := 24) (v := (.pointer (some ⟨sb, 0, .none⟩))) rfl (by kernel_rfl) (by kernel_rfl) (by kernel_rfl) (fun _ _ _ h => h) (Or.inl ⟨by rfl, fun ww hSw => by (try dsimp only at hSw); go_simp⟩) (by assumption) ?_
        simp only [Act.put, List.setIfInBounds_toArray, List.set_cons_zero, List.set_cons_succ, List.getElem_toArray, List.getElem_cons_succ, List.getElem_cons_zero]
        refine wpAnyH_take (i := 25) (v := (.slice p1 R d1)) rfl (by kernel_rfl) (by kernel_rfl) (by kernel_rfl) (fun _ _ _ h => h) (Or.inl ⟨by rfl, fun ww hSw => by (try dsimp only at hSw); go_simp⟩) (by assumption) ?_
        simp only [Act.put, List.setIfInBounds_toArray, List.set_cons_zero, List.set_cons_succ, List.getElem_toArray, List.getElem_cons_succ, List.getElem_cons_zero]
        refine wpAnyH_take (i := 26) (v := (.pointer (some ⟨d, 0, .none⟩))) rfl (by kernel_rfl) (by kernel_rfl) (by kernel_rfl) (fun _ _ _ h => h) (Or.inl ⟨by rfl, fun ww hSw => by (try dsimp only at hSw); go_simp⟩) (by assumption) ?_
        simp only [Act.put, List.setIfInBounds_toArray, List.set_cons_zero, List.set_cons_succ, List.getElem_toArray, List.getElem_cons_succ, List.getElem_cons_zero]
        refine wpAnyH_take (i := 27) (v := (.pointer (some ⟨d, 0, .none⟩))) rfl (by kernel_rfl) (by kernel_rfl) (by kernel_rfl) (fun _ _ _ h => h) (Or.inl ⟨by rfl, fun ww hSw => by (try dsimp only at hSw); go_simp⟩) (by assumption) ?_
        simp only [Act.put, List.setIfInBounds_toArray, List.set_cons_zero, List.set_cons_succ, List.getElem_toArray, List.getElem_cons_succ, List.getElem_cons_zero]
        refine wpAnyH_take (i := 28) (v := (.pointer (some ⟨d, 0, .none⟩))) rfl (by kernel_rfl) (by kernel_rfl) (by kernel_rfl) (fun _ _ _ h => h) (Or.inl ⟨by rfl, fun ww hSw => by (try dsimp only at hSw); go_simp⟩) (by assumption) ?_
        simp only [Act.put, List.setIfInBounds_toArray, List.set_cons_zero, List.set_cons_succ, List.getElem_toArray, List.getElem_cons_succ, List.getElem_cons_zero]
        refine wpAnyH_take (i := 29) (v := (.slice pD D cD)) rfl (by kernel_rfl) (by kernel_rfl) (by kernel_rfl) (fun _ _ _ h => h) (Or.inl ⟨by rfl, fun ww hSw => by (try dsimp only at hSw); go_simp⟩) (by assumption) ?_
        simp only [Act.put, List.setIfInBounds_toArray, List.set_cons_zero, List.set_cons_succ, List.getElem_toArray, List.getElem_cons_succ, List.getElem_cons_zero]
        refine wpAnyH_take (i := 30) (v := (.pointer (some ⟨d, 0, .none⟩))) rfl (by kernel_rfl) (by kernel_rfl) (by kernel_rfl) (fun _ _ _ h => h) (Or.inl ⟨by rfl, fun ww hSw => by (try dsimp only at hSw); go_simp⟩) (by assumption) ?_
        simp only [Act.put, List.setIfInBounds_toArray, List.set_cons_zero, List.set_cons_succ, List.getElem_toArray, List.getElem_cons_succ, List.getElem_cons_zero]
        refine wpAnyH_take (i := 31) (v := (.pointer (some ⟨d, 0, .none⟩))) rfl (by kernel_rfl) (by kernel_rfl) (by kernel_rfl) (fun _ _ _ h => h) (Or.inl ⟨by rfl, fun ww hSw => by (try dsimp only at hSw); go_simp⟩) (by assumption) ?_
        simp only [Act.put, List.setIfInBounds_toArray, List.set_cons_zero, List.set_cons_succ, List.getElem_toArray, List.getElem_cons_succ, List.getElem_cons_zero]
        refine wpAnyH_take (i := 32) (v := (.pointer (some ⟨d, 1, .none⟩))) rfl (by kernel_rfl) (by kernel_rfl) (by kernel_rfl) (fun _ _ _ h => h) (Or.inl ⟨by rfl, fun ww hSw => by (try dsimp only at hSw); go_simp⟩) (by assumption) ?_
        simp only [Act.put, List.setIfInBounds_toArray, List.set_cons_zero, List.set_cons_succ, List.getElem_toArray, List.getElem_cons_succ, List.getElem_cons_zero]
        refine wpAnyH_take (i := 33) (v := (.int .i64 g)) rfl (by kernel_rfl) (by kernel_rfl) (by kernel_rfl) (fun _ _ _ h => h) (Or.inl ⟨by rfl, fun ww hSw => by (try dsimp only at hSw); go_simp⟩) (by assumption) ?_
        simp only [Act.put, List.setIfInBounds_toArray, List.set_cons_zero, List.set_cons_succ, List.getElem_toArray, List.getElem_cons_succ, List.getElem_cons_zero]
        refine wpAnyH_take (i := 34) (v := (.slice (cutp pD cD g) R (cD - g))) rfl (by kernel_rfl) (by kernel_rfl) (by kernel_rfl) (fun _ _ _ h => h) (Or.inl ⟨by rfl, fun ww hSw => by (try dsimp only at hSw); go_simp⟩) (by assumption) ?_
        simp only [Act.put, List.setIfInBounds_toArray, List.set_cons_zero, List.set_cons_succ, List.getElem_toArray, List.getElem_cons_succ, List.getElem_cons_zero]
        refine wpAnyH_ready (rs := [35]) (by kernel_rfl) (by simp) ?_
        refine AllReadyH.cons rfl (fun K hK => ?_) AllReadyH.nil
        go_simp
        refine CB1.out.mono ?_
        rintro e V3 ⟨rfl, k, hk⟩
        have k1 := HLN.out V3 k hk
        have CB3 := CB2.out k
        rw [← hk] at CB3
        have HK3 : Hid (V3 = V2.drew.drewN k) := hk
        clear hk
        refine hK.out _ _ k1 (fun hHeld => ?_)
        clear hK K
        try simp only [Act.put, List.setIfInBounds_toArray, List.set_cons_zero, List.set_cons_succ, List.getElem_toArray, List.getElem_cons_succ, List.getElem_cons_zero]
        refine wpAnyH_take (i := 36) (v := (.bool false)) rfl (by kernel_rfl) (by kernel_rfl) (by kernel_rfl) (fun _ _ _ h => h) (Or.inl ⟨by rfl, fun ww hSw => by (try dsimp only at hSw); go_simp⟩) (by assumption) ?_
        simp only [Act.put, List.setIfInBounds_toArray, List.set_cons_zero, List.set_cons_succ, List.getElem_toArray, List.getElem_cons_succ, List.getElem_cons_zero]
        refine wpAnyH_take (i := 37) (v := (.bool false)) rfl (by kernel_rfl) (by kernel_rfl) (by kernel_rfl) (fun _ _ _ h => h) (Or.inl ⟨by rfl, fun ww hSw => by (try dsimp only at hSw); go_simp⟩) (by assumption) ?_
        simp only [Act.put, List.setIfInBounds_toArray, List.set_cons_zero, List.set_cons_succ, List.getElem_toArray, List.getElem_cons_succ, List.getElem_cons_zero]
        refine wpAnyH_take (i := 38) (v := (.bool false)) rfl (by kernel_rfl) (by kernel_rfl) (by kernel_rfl) (fun _ _ _ h => h) (Or.inl ⟨by rfl, fun ww hSw => by (try dsimp only at hSw); go_simp⟩) (by assumption) ?_
        simp only [Act.put, List.setIfInBounds_toArray, List.set_cons_zero, List.set_cons_succ, List.getElem_toArray, List.getElem_cons_succ, List.getElem_cons_zero]
        refine wpAnyH_take (i := 39) (v := (.pointer (some ⟨sb, 1, .none⟩))) rfl (by kernel_rfl) (by kernel_rfl) (by kernel_rfl) (fun _ _ _ h => h) (Or.inl ⟨by rfl, fun ww hSw => by (try dsimp only at hSw); go_simp⟩) (by assumption) ?_
        simp only [Act.put, List.setIfInBounds_toArray, List.set_cons_zero, List.set_cons_succ, List.getElem_toArray, List.getElem_cons_succ, List.getElem_cons_zero]
        refine wpAnyH_take (i := 40) (v := (.slice q2 L d2)) rfl (by kernel_rfl) (by kernel_rfl) (by kernel_rfl) (fun _ _ _ h => h) (Or.inl ⟨by rfl, fun ww hSw => by (try dsimp only at hSw); go_simp⟩) (by assumption) ?_
        simp only [Act.put, List.setIfInBounds_toArray, List.set_cons_zero, List.set_cons_succ, List.getElem_toArray, List.getElem_cons_succ, List.getElem_cons_zero]
        refine wpAnyH_take (i := 41) (v := (.pointer (some ⟨d, 0, .none⟩))) rfl (by kernel_rfl) (by kernel_rfl) (by kernel_rfl) (fun _ _ _ h => h) (Or.inl ⟨by rfl, fun ww hSw => by (try dsimp only at hSw); go_simp⟩) (by assumption) ?_
        simp only [Act.put, List.setIfInBounds_toArray, List.set_cons_zero, List.set_cons_succ, List.getElem_toArray, List.getElem_cons_succ, List.getElem_cons_zero]
        refine wpAnyH_take (i := 42) (v := (.pointer (some ⟨d, 0, .none⟩))) rfl (by kernel_rfl) (by kernel_rfl) (by kernel_rfl) (fun _ _ _ h => h) (Or.inl ⟨by rfl, fun ww hSw => by (try dsimp only at hSw); go_simp⟩) (by assumption) ?_
        simp only [Act.put, List.setIfInBounds_toArray, List.set_cons_zero, List.set_cons_succ, List.getElem_toArray, List.getElem_cons_succ, List.getElem_cons_zero]
        refine wpAnyH_take (i := 43) (v := (.pointer (some ⟨d, 2, .none⟩))) rfl (by kernel_rfl) (by kernel_rfl) (by kernel_rfl) (fun _ _ _ h => h) (Or.inl ⟨by rfl, fun ww hSw => by (try dsimp only at hSw); go_simp⟩) (by assumption) ?_
        simp only [Act.put, List.setIfInBounds_toArray, List.set_cons_zero, List.set_cons_succ, List.getElem_toArray, List.getElem_cons_succ, List.getElem_cons_zero]
        refine wpAnyH_take (i := 44) (v := (.slice pL L cL)) rfl (by kernel_rfl) (by kernel_rfl) (by kernel_rfl) (fun _ _ _ h => h) (Or.inl ⟨by rfl, fun ww hSw => by (try dsimp only at hSw); go_simp⟩) (by assumption) ?_
        simp only [Act.put, List.setIfInBounds_toArray, List.set_cons_zero, List.set_cons_succ, List.getElem_toArray, List.getElem_cons_succ, List.getElem_cons_zero]
        refine wpAnyH_ready (rs := [45]) (by kernel_rfl) (by simp) ?_
        refine AllReadyH.cons rfl (fun K hK => ?_) AllReadyH.nil
        go_simp
        refine CB3.mono ?_
        rintro e V4 ⟨rfl, k', hk⟩
        have h4 := HLM.out V4 k k' (by rw [hk, HK3.out])
        have k2 := h4.2
        have H4 : Hid (Lni w V4 b d (.slice pD D cD) (.slice pL L cL) dn ln g) := h4.1
        clear hk h4 CB3
        refine hK.out _ _ k2 (fun hHeld => ?_)
        clear hK K
        try simp only [Act.put, List.setIfInBounds_toArray, List.set_cons_zero, List.set_cons_succ, List.getElem_toArray, List.getElem_cons_succ, List.getElem_cons_zero]
        refine wpAnyH_take (i := 46) (v := (.bool false)) rfl (by kernel_rfl) (by kernel_rfl) (by kernel_rfl) (fun _ _ _ h => h) (Or.inl ⟨by rfl, fun ww hSw => by (try dsimp only at hSw); go_simp⟩) (by assumption) ?_
        simp only [Act.put, List.setIfInBounds_toArray, List.set_cons_zero, List.set_cons_succ, List.getElem_toArray, List.getElem_cons_succ, List.getElem_cons_zero]
        refine wpAnyH_take (i := 47) (v := (.bool false)) rfl (by kernel_rfl) (by kernel_rfl) (by kernel_rfl) (fun _ _ _ h => h) (Or.inl ⟨by rfl, fun ww hSw => by (try dsimp only at hSw); go_simp⟩) (by assumption) ?_
        simp only [Act.put, List.setIfInBounds_toArray, List.set_cons_zero, List.set_cons_succ, List.getElem_toArray, List.getElem_cons_succ, List.getElem_cons_zero]
        refine wpAnyH_done (by kernel_rfl) ?_ _
        go_wp2
        exact ⟨⟨J + 1, dn, ln, g, _, _, rfl, by omega, by omega, H4.out, by rw [HDl.out, HLl.out]; exact HDJ.out⟩, by simp only [intOf]; omega⟩
    · by_cases g2 : (I : Int) < n
      · have g1 : ¬ (I : Int) < 2400 := by omega
        go_wp2
        go_ret
        exact ⟨rfl, HH.out.1.bel⟩
      · go_wp2
        go_ret
        exact ⟨rfl, HH.out.1.bel⟩

end Go.Proofs.YtblpdnchphhcaaaDoor
