import Derived.Test.YtblpdnchphhcaabDoorPs
import Derived.Test.YtblpdnchphhcaabDoorLo
import Derived.Deep.MidRow
namespace Go.Proofs.YtblpdnchphhcaabDoor
open Go.RowKit
set_option linter.unusedVariables false
set_option linter.unusedSimpArgs false
theorem Pw.rebase {w W V : World} {pb b dd : Nat} {D : Nat → Prop} {rs ls rs' ls' : List Int} (h : Pw W V pb b dd D rs ls rs' ls') (hb : Below w.heap.size w W) : Pw w V pb b dd D rs ls rs' ls' :=
  ⟨hb.trans (h.bel.mono hb.size), h.con, h.doc, h.p0, h.p1, h.fz, h.sb, h.Db, h.Dp, Nat.le_trans hb.size h.wb, Nat.le_trans hb.size h.wp, fun k hk => ⟨Nat.le_trans hb.size (h.wD k hk).1, (h.wD k hk).2⟩⟩
set_option maxHeartbeats 4000000 in
set_option maxRecDepth 100000 in
theorem pfrom_any {w : World} {p q : Option Addr} {n c m d : Nat} {rs ls : List Int} (hR : Byt w p n c rs) (hL : Byt w q m d ls) (hr : ∀ x ∈ rs, 0 ≤ x ∧ x < 256) (hl : ∀ x ∈ ls, 0 ≤ x ∧ x < 256) (hs : n + m ≤ 9223372036854775807) (hd : Dd w) :
    Calls Tryd.prog 4 #[.agg #[.slice p n c, .slice q m d]] w fun e V => Below w.heap.size w V ∧ (e = .returned (.tuple #[.pointer .none, .bool true]) ∨ ∃ pb, e = .returned (.tuple #[.pointer (some ⟨pb, 0, .none⟩), .bool true]) ∧ Pr w V pb) := by
  have HR : Hid (Byt w p n c rs) := hR
  have HL : Hid (Byt w q m d ls) := hL
  have Hr : Hid (∀ x ∈ rs, 0 ≤ x ∧ x < 256) := hr
  have Hl : Hid (∀ x ∈ ls, 0 ≤ x ∧ x < 256) := hl
  have HD : Hid (Dd w) := hd
  have HNM : Hid (n + m ≤ 9223372036854775807) := hs
  clear hR hL hr hl hd hs
  go_enter Tryd.func4, Tryd.ntmps4
  go_upto_region 1 with fail
  have hs1 := sb_new w p n c q m d
  have hb1 := Trn.new w (.cells #[.slice p n c, .slice q m d] 24)
  generalize w.alloc (.cells #[.slice p n c, .slice q m d] 24) = W1 at *
  have H1 : Hid (Sb W1 w.heap.size p n c q m d ∧ Below w.heap.size w W1 ∧ w.heap.size < W1.heap.size) := ⟨hs1, hb1, lt_cell hs1.c0⟩
  clear hs1 hb1
  refine wp_region_lit ?_
  refine wpList_load_mid rfl 24 (.tmp 1) rfl w.heap.size 0 (by rfl) _ _ H1.out.1.rangeAt Tryd.underlying24 rfl (by kernel_rfl) ?_
  simp only [Act.put, List.setIfInBounds_toArray, List.set_cons_succ, List.set_cons_zero]
  have cF := from_any (byt_below HR.out H1.out.2.1) (byt_below HL.out H1.out.2.1) Hr.out Hl.out HNM.out (HD.out.below H1.out.2.1)
  go_wp2_with fail
  refine cF.mono ?_
  rintro e W3 ⟨hb3, hcase⟩
  have H3 : Hid (Sb W3 w.heap.size p n c q m d ∧ Below w.heap.size w W3) := ⟨H1.out.1.below hb3, H1.out.2.1.trans (hb3.mono H1.out.2.1.size)⟩
  clear cF hb3
  have cG := rfrom_any (byt_below HR.out H3.out.2) (byt_below HL.out H3.out.2) Hr.out Hl.out HNM.out
  rcases hcase with ⟨hbad, gg, rfl, f0, f1, f2⟩ | ⟨hok, b, hb, rfl, hC⟩
  · have HBAD : Hid (okC rs ls = false ∧ W3.cell? ⟨gg, 0, .none⟩ = some (.string ramB) ∧ W3.cell? ⟨gg, 1, .none⟩ = some (.int .i64 0) ∧ W3.cell? ⟨gg, 2, .none⟩ = some (.iface 57 (.int .i64 4))) := ⟨hbad, f0, f1, f2⟩
    clear hbad f0 f1 f2
    go_upto_region 2 with fail
    refine wp_region_lit ?_
    refine wpList_load_mid rfl 24 (.tmp 1) rfl w.heap.size 0 (by rfl) _ _ H3.out.1.rangeAt Tryd.underlying24 rfl (by kernel_rfl) ?_
    simp only [Act.put, List.setIfInBounds_toArray, List.set_cons_succ, List.set_cons_zero]
    go_wp2_with fail
    refine cG.mono ?_
    rintro e V2 ⟨hb4, ⟨_, rfl⟩ | ⟨hok, _⟩⟩
    rotate_left
    · rw [HBAD.out.1] at hok
      cases hok
    have H6 : Hid (Below w.heap.size w V2 ∧ gg < V2.heap.size ∧ V2.cell? ⟨gg, 0, .none⟩ = some (.string ramB) ∧ V2.cell? ⟨gg, 1, .none⟩ = some (.int .i64 0) ∧ V2.cell? ⟨gg, 2, .none⟩ = some (.iface 57 (.int .i64 4))) := by
      have h := HBAD.out
      have hlt : gg < W3.heap.size := lt_cell h.2.1
      exact ⟨H3.out.2.trans (hb4.mono H3.out.2.size), Nat.lt_of_lt_of_le hlt hb4.size, (hb4.cell (p := ⟨gg, 0, .none⟩) hlt).trans h.2.1, (hb4.cell (p := ⟨gg, 1, .none⟩) hlt).trans h.2.2.1, (hb4.cell (p := ⟨gg, 2, .none⟩) hlt).trans h.2.2.2⟩
    clear hb4 cG
    go_wp2_with fail
    refine (rnew_any ⟨#[99, 111, 110, 115, 111, 108, 101]⟩ 0 4 V2).mono ?_
    rintro en W7 ⟨rfl, hw7⟩
    have hb7 : Below V2.heap.size V2 W7 := by rw [hw7]; exact ((Below.refl _ _).alloc (Nat.le_refl _) _).alloc (by simp only [World.size_alloc]; omega) _
    have hz7 : W7.heap.size = V2.heap.size + 2 := by rw [hw7]; simp
    have n0 : W7.cell? ⟨V2.heap.size + 1, 0, .none⟩ = some (.string ramB) := by rw [hw7, World.cell?_alloc_at _ _ _ _ (by simp)]; rfl
    have n1 : W7.cell? ⟨V2.heap.size + 1, 1, .none⟩ = some (.int .i64 0) := by rw [hw7, World.cell?_alloc_at _ _ _ _ (by simp)]; rfl
    have hFI : FaultIn W7 0 (.iface 56 (.pointer (some ⟨gg, 0, .none⟩))) 0 4 := by
      obtain ⟨_, h1, h2, h3, h4⟩ := H6.out
      exact ⟨gg, Nat.zero_le _, by omega, rfl, (hb7.cell (p := ⟨gg, 0, .none⟩) h1).trans h2, (hb7.cell (p := ⟨gg, 1, .none⟩) h1).trans h3, (hb7.cell (p := ⟨gg, 2, .none⟩) h1).trans h4⟩
    have c7 := is_fault (.iface 56 (.pointer (some ⟨gg, 0, .none⟩))) (V2.heap.size + 1) 1 0 4 W7 hFI (by decide) (by omega) n0 n1
    have HB7 : Hid (Below w.heap.size w W7) := H6.out.1.trans (hb7.mono H6.out.1.size)
    clear hw7 hb7 hz7 n0 n1 hFI
    go_wp2_with fail
    refine c7.mono ?_
    rintro en W8 ⟨rfl, hb8⟩
    have HE : Hid (Below w.heap.size w W8) := HB7.out.trans (hb8.mono HB7.out.size)
    clear c7 hb8
    go_wp2
    go_ret2
    exact ⟨HE.out, .inl rfl⟩
  · have HOK : Hid (okC rs ls = true ∧ Con W3 b rs ls ∧ w.heap.size ≤ b) := ⟨hok, hC, Nat.le_trans H1.out.2.1.size hb⟩
    clear hok hC hb
    go_upto_region 2 with fail
    refine wp_region_lit ?_
    refine wpList_load_mid rfl 24 (.tmp 1) rfl w.heap.size 0 (by rfl) _ _ H3.out.1.rangeAt Tryd.underlying24 rfl (by kernel_rfl) ?_
    simp only [Act.put, List.setIfInBounds_toArray, List.set_cons_succ, List.set_cons_zero]
    go_wp2_with fail
    refine cG.mono ?_
    rintro e W4 ⟨hb4, ⟨hbad, _⟩ | ⟨_, dd, D, rfl, hDoc, hDl⟩⟩
    · rw [HOK.out.1] at hbad
      cases hbad
    have H4 : Hid (Below w.heap.size w W4 ∧ Con W4 b rs ls ∧ Doc W4 dd (fun k => D k ∧ k < W4.heap.size) rs ls ∧ w.heap.size ≤ b ∧ b < W3.heap.size ∧ W3.heap.size ≤ W4.heap.size ∧ ∀ k, D k → W3.heap.size ≤ k) := ⟨H3.out.2.trans (hb4.mono H3.out.2.size), HOK.out.2.1.below hb4, hDoc.cut, HOK.out.2.2, HOK.out.2.1.lt, hb4.size, hDl⟩
    clear hb4 cG hDoc hDl
    go_wp2
    have HE : Hid (Below w.heap.size w (W4.alloc (.cells #[.pointer (some ⟨b, 0, .none⟩), .pointer (some ⟨dd, 0, .none⟩)] 47)) ∧ Pr w (W4.alloc (.cells #[.pointer (some ⟨b, 0, .none⟩), .pointer (some ⟨dd, 0, .none⟩)] 47)) W4.heap.size) := by
      have h := H4.out
      have t := Trn.new W4 (.cells #[.pointer (some ⟨b, 0, .none⟩), .pointer (some ⟨dd, 0, .none⟩)] 47)
      have ts := t.size
      have hbe := h.1.trans (t.mono h.1.size)
      have hsz := h.1.size
      have hwl := H3.out.2.size
      refine ⟨hbe, b, dd, _, rs, ls, ⟨hbe, h.2.1.below t, h.2.2.1.below t, ?_, ?_, froz_new _ _ _ _, by omega, fun e => ?_, fun e => ?_, h.2.2.2.1, hsz, fun k hk => ⟨?_, ?_⟩⟩, HOK.out.1⟩
      · rw [World.cell?_alloc_at _ _ _ _ rfl]; rfl
      · rw [World.cell?_alloc_at _ _ _ _ rfl]; rfl
      · have := h.2.2.2.2.2.2 b e.1; omega
      · have := e.2; omega
      · have := h.2.2.2.2.2.2 k hk.1; omega
      · have := hk.2; omega
    go_ret2
    exact ⟨HE.out.1, .inr ⟨_, rfl, HE.out.2⟩⟩
theorem Pr.bel {w V : World} {pb : Nat} (h : Pr w V pb) : Below w.heap.size w V := by
  obtain ⟨b, dd, D, rs, ls, h1, _⟩ := h
  exact h1.bel
set_option maxHeartbeats 8000000 in
set_option maxRecDepth 100000 in
theorem plays_any {w : World} {p q : Option Addr} {n c m d : Nat} {rs ls : List Int} (hR : Byt w p n c rs) (hr : ∀ x ∈ rs, 0 ≤ x ∧ x < 256) (hL : Byt w q m d ls) (hl : ∀ x ∈ ls, 0 ≤ x ∧ x < 256) (hn : n ≤ 140737488351232) (hm : m ≤ 140737488351232) (hd : Dd w) {oq : Option Addr} {om oc : Nat} {O : Nat → Orc} (hO : ArgC w oq om oc O) :
    Calls Tryd.prog 3 #[.agg #[.slice p n c, .slice q m d], .slice oq om oc] w fun e w' => e = .returned (.bool true) ∧ Below w.heap.size w w' := by
  have HR : Hid (Byt w p n c rs) := hR
  have HL : Hid (Byt w q m d ls) := hL
  have Hr : Hid (∀ x ∈ rs, 0 ≤ x ∧ x < 256) := hr
  have Hl : Hid (∀ x ∈ ls, 0 ≤ x ∧ x < 256) := hl
  have HD : Hid (Dd w) := hd
  have HNM : Hid (n + m ≤ 9223372036854775807) := by show _ ≤ _; omega
  have HO : Hid (ArgC w oq om oc O) := hO
  have holc := hO.lc.1
  have hocm : oc ≤ 9223372036854775807 := hO.lc.2
  clear hR hL hr hl hd hn hm hO
  go_enter Tryd.func3, Tryd.ntmps3
  go_upto_region 1 with fail
  have hs1 := sb_new w p n c q m d
  have hb1 := Trn.new w (.cells #[.slice p n c, .slice q m d] 24)
  generalize w.alloc (.cells #[.slice p n c, .slice q m d] 24) = W1 at *
  have H1 : Hid (Sb W1 w.heap.size p n c q m d ∧ Below w.heap.size w W1) := ⟨hs1, hb1⟩
  clear hs1 hb1
  refine wp_region_lit ?_
  refine wpList_load_mid rfl 24 (.tmp 2) rfl w.heap.size 0 (by rfl) _ _ H1.out.1.rangeAt Tryd.underlying24 rfl (by kernel_rfl) ?_
  simp only [Act.put, List.setIfInBounds_toArray, List.set_cons_succ, List.set_cons_zero]
  have cF := pfrom_any (byt_below HR.out H1.out.2) (byt_below HL.out H1.out.2) Hr.out Hl.out HNM.out (HD.out.below H1.out.2)
  go_wp2_with fail
  refine cF.mono ?_
  rintro e W2 ⟨hb2, rfl | ⟨pb, rfl, hPr⟩⟩
  · have HE : Hid (Below w.heap.size w W2) := H1.out.2.trans (hb2.mono H1.out.2.size)
    clear cF hb2
    go_wp2
    go_ret
    exact ⟨rfl, HE.out⟩
  have H2 : Hid (Pr w W2 pb) := by
    obtain ⟨b, dd, D, rs, ls, h1, h2⟩ := hPr
    exact ⟨b, dd, D, rs, ls, h1.rebase H1.out.2, h2⟩
  clear cF hb2 hPr
  go_wp2
  go_loopw [7] (fun v wr => ∃ i : Nat, i ≤ 600 ∧ i ≤ om ∧ v = .int .i64 i ∧ Hid (Pr w wr pb)) (fun v _ => (600 - intOf v).toNat)
  case atStart => exact ⟨0, by omega, by omega, rfl, H2⟩
  case round =>
    obtain ⟨i, hi6, hio, rfl, HH⟩ := hrel
    by_cases h1 : i < om
    · have g1 : (i : Int) < om := by omega
      by_cases h2 : i < 600
      · have g2 : (i : Int) < 600 := by omega
        obtain ⟨gq, ooq, rfl, hcells⟩ : ∃ b o, oq = some ⟨b, o, .none⟩ ∧ wr.rangeAt b (o + i * 4) [.int .i64 (O i).k, .int .u8 (O i).wh, .int .i64 (O i).n, .slice (O i).s (O i).ln (O i).cd] := by
          rcases HO.out.at' with h | ⟨b, o, h1', h2', h3⟩
          · omega
          · refine ⟨b, o, h1', fun j v hv => ?_⟩
            have h4 := h3 i h1
            have kp : ∀ a, wr.cell? ⟨b, a, .none⟩ = w.cell? ⟨b, a, .none⟩ := fun a => HH.out.bel.cell (p := ⟨b, a, .none⟩) h2'
            match j, hv with
            | 0, hv => cases hv; rw [kp]; exact h4.1
            | 1, hv => cases hv; rw [kp]; exact h4.2.1
            | 2, hv => cases hv; rw [kp]; exact h4.2.2.1
            | 3, hv => cases hv; rw [kp]; exact h4.2.2.2
        have c1 := step_any HH.out HD.out (O i).k (O i).wh (O i).n (HO.out.wh i h1) (HO.out.byt i h1) (HO.out.bd i h1)
        go_upto_region 7 with fail
        refine wp_region_lit ?_
        refine wpList_read rfl (.pointer (some ⟨pb, 0, .none⟩)) (by go_simp) ?_
        simp only [Act.put, List.setIfInBounds_toArray, List.set_cons_succ, List.set_cons_zero]
        refine wpList_read rfl (.slice (some ⟨gq, ooq, .none⟩) om oc) (by go_simp) ?_
        simp only [Act.put, List.setIfInBounds_toArray, List.set_cons_succ, List.set_cons_zero]
        refine wpList_read rfl (.int .i64 i) (by go_simp) ?_
        simp only [Act.put, List.setIfInBounds_toArray, List.set_cons_succ, List.set_cons_zero]
        refine wpList_read rfl (.pointer (some ⟨gq, ooq + i * 4, .none⟩)) (by go_simp) ?_
        simp only [Act.put, List.setIfInBounds_toArray, List.set_cons_succ, List.set_cons_zero]
        refine wpList_load_mid rfl 31 (.tmp 29) rfl gq (ooq + i * 4) (by rfl) _ _ hcells Tryd.underlying31 rfl (by kernel_rfl) ?_
        simp only [Act.put, List.setIfInBounds_toArray, List.set_cons_succ, List.set_cons_zero]
        generalize O i = oi at *
        clear hcells
        go_wp2_with fail
        refine c1.mono ?_
        rintro e V1 ⟨rfl, hP1⟩
        have H3 : Hid (Pr w V1 pb) := hP1
        clear hP1 c1
        have c2 := step_any H3.out HD.out 5 0 0 (by decide) (⟨rfl, Nat.le_refl _, by decide, .inl rfl⟩ : Byt w none 0 0 []) (fun x hx => by simp at hx)
        go_wp2_with fail
        refine c2.mono ?_
        rintro e V2 ⟨rfl, hP2⟩
        have H4 : Hid (Pr w V2 pb) := hP2
        clear hP2 c2
        go_wp2
        exact ⟨⟨i + 1, by omega, by omega, rfl, H4⟩, by simp only [intOf]; omega⟩
      · have g2 : ¬ (i : Int) < 600 := by omega
        go_wp2
        go_ret
        exact ⟨rfl, HH.out.bel⟩
    · have g1 : ¬ (i : Int) < om := by omega
      go_wp2
      go_ret
      exact ⟨rfl, HH.out.bel⟩
end Go.Proofs.YtblpdnchphhcaabDoor
