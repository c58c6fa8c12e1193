import Derived.Test.YtdfjjnkbnegecaaDoorXj
namespace Go.Proofs.YtdfjjnkbnegecaaDoor
open Go.RowKit Go.Shelf
set_option linter.unusedVariables false
set_option linter.unusedSimpArgs false
theorem lenT_tex {w : World} {X g c : Nat} {xs : List Bs} (h : LenT w X g c xs) : Tex w (some ⟨g, 0, .none⟩) xs.length c xs ∧ w.cell? ⟨g, xs.length, .none⟩ = some (sv mark) ∧ xs.length + 1 ≤ c ∧ c ≤ 9223372036854775807 := by
  have hc := own_cap h
  have hl := own_lt h
  have hcell : ∀ i x, (xs ++ [mark])[i]? = some x → w.cell? ⟨g, i, .none⟩ = some (sv x) := fun i x hx => by
    have := h.cells (g := g) rfl i (sv x) (by rw [List.getElem?_map, hx]; rfl)
    rwa [le_addr_add, Nat.zero_add] at this
  refine ⟨⟨rfl, by omega, hc.2, .inr ⟨g, 0, rfl, hl, fun i x hx => ?_⟩⟩, hcell _ _ (by simp), hc.1, hc.2⟩
  rw [Nat.zero_add]
  exact hcell i x (by rw [List.getElem?_append_left (List.getElem?_eq_some_iff.1 hx).1]; exact hx)
theorem LenT.below {w w' : World} {X g c : Nat} {xs : List Bs} (h : LenT w X g c xs) (hb : Below w.heap.size w w') : LenT w' X g c xs := owns_below h hb
set_option maxRecDepth 10000 in
set_option maxHeartbeats 1000000 in
theorem keptT_any {p : Option Addr} {n c X g cg : Nat} {xs : List Bs} {w : World} (h : Tex w p n c xs) (hn : n < 1000000) (hL : LenT w X g cg xs) :
    Calls Tryd.prog 10 #[.slice (some ⟨g, 0, .none⟩) n cg, .slice p n c] w fun e w' => e = .returned (.bool true) ∧ ∃ k, w' = w.drewN k := by
  obtain ⟨h1, h2, h3, h4⟩ := lenT_tex hL
  rw [h.1] at h1 h2 h3
  have c17 := texts_any (some ⟨g, 0, .none⟩) p n cg c xs w hn h1 h
  unfold sv mark at h2
  have hc := h.2.1
  have hc2 : c ≤ 9223372036854775807 := h.2.2.1
  clear h1 h hL
  go_enter Tryd.func10, Tryd.ntmps10
  go_wp2_with (go_at_call 17; refine c17.mono ?_; rintro _ w1 ⟨rfl, k, rfl⟩)
  go_ret
  exact ⟨rfl, k, rfl⟩
theorem below_drewN' (w : World) (k : Nat) : Below w.heap.size w (w.drewN k) := ⟨rfl, rfl, rfl, Nat.le_refl _, fun _ _ => rfl⟩
theorem byt_up {w w' : World} {p : Option Addr} {n c : Nat} {xs : List Int} (h : Byt w p n c xs) (hb : Below w.heap.size w w') : Byt w' p n c xs := by
  obtain ⟨h1, h2, h3, h4⟩ := h
  refine ⟨h1, h2, h3, ?_⟩
  rcases h4 with h4 | ⟨b, o, rfl, h5, h6⟩
  · exact .inl h4
  · exact .inr ⟨b, o, rfl, Nat.lt_of_lt_of_le h5 hb.size, fun i x hx => (hb.cell (p := ⟨b, o + i, .none⟩) h5).trans (h6 i x hx)⟩
set_option maxRecDepth 10000 in
set_option maxHeartbeats 2000000 in
theorem law_any {W : World} {fp : Option Addr} {fn fc : Nat} {ys : List Int} (hF : Byt W fp fn fc ys) (hyb : ∀ i, 0 ≤ ys.getD i 0 ∧ ys.getD i 0 < 256) {p : Option Addr} {n c : Nat} {xs : List Bs} (hT : Tex W p n c xs)
    (hf : fn ≤ 140737488351232) (hn : n ≤ 140737488351232) (hx : ∀ x ∈ xs, x.length ≤ 140737488351232) (hL : Laid W) :
    Calls Tryd.prog 3 #[.slice fp fn fc, .slice p n c] W fun e w' => e = .returned (.bool true) ∧ Below W.heap.size W w' := by
  have c4 := few_any fp p fn fc n c xs W hT hf hn hx
  have HF : Hid (Byt W fp fn fc ys ∧ Tex W p n c xs ∧ Laid W) := ⟨hF, hT, hL⟩
  have HY : Hid (∀ i, 0 ≤ ys.getD i 0 ∧ ys.getD i 0 < 256) := hyb
  have hfc : fn ≤ fc ∧ fc ≤ 9223372036854775807 := ⟨hF.2.1, hF.2.2.1⟩
  have hcc : n ≤ c ∧ c ≤ 9223372036854775807 := ⟨hT.2.1, hT.2.2.1⟩
  have c5 := lend_any hF (by omega)
  clear hF hyb hT hx hL
  go_enter Tryd.func3, Tryd.ntmps3
  go_upto_region 3 with (go_at_call 4; refine c4.mono ?_; rintro _ w0 ⟨⟨r, rfl, hr⟩, e0⟩; obtain rfl : W = w0 := e0.symm; have HR : Hid (r = true → fn ≤ 400000 ∧ n < 100 ∧ ∀ x ∈ xs, x.length ≤ 400000) := hr; clear hr c4; cases r)
  · go_ret
    exact ⟨rfl, Below.refl _ _⟩
  obtain ⟨hf4, hn1, hx4⟩ := HR.out trivial
  have HX4 : Hid (∀ x ∈ xs, x.length ≤ 400000) := hx4
  clear HR hx4
  obtain ⟨B, hB⟩ : ∃ B : Nat → Int, B = fun i => ys.getD i 0 := ⟨_, rfl⟩
  have HBy : Hid (∀ i, 0 ≤ B i ∧ B i < 256) := by rw [hB]; exact HY.out
  have HB : Hid (B = fun i => ys.getD i 0) := hB
  clear hB
  obtain ⟨ha, hr, hH⟩ := hd_ex B
  have HH : Hid (Hd B ha hr) := hH
  clear hH
  obtain ⟨dn, hdn⟩ : ∃ dn, dn = dmN (rdF fn B ha hr).1.2 (ePg (sgO fn B ha hr)) xs := ⟨_, rfl⟩
  obtain ⟨de, hde⟩ : ∃ de, de = dmE (rdF fn B ha hr).1.2 xs := ⟨_, rfl⟩
  have HD : Hid (dn = dmN (rdF fn B ha hr).1.2 (ePg (sgO fn B ha hr)) xs ∧ de = dmE (rdF fn B ha hr).1.2 xs) := ⟨hdn, hde⟩
  clear hdn hde
  go_upto_region 4 with (go_at_call 5; refine c5.mono ?_; rintro _ W2 ⟨g, cg, rfl, hL2, b2⟩; have H2 : Hid (Lent W2 W.heap.size g cg ys ∧ Below W.heap.size W W2) := ⟨hL2, b2⟩; clear hL2 b2 c5)
  have c6 := lent_any (HF.out.2.1.below H2.out.2) (by omega)
  go_upto_region 5 with (go_at_call 6; refine c6.mono ?_; rintro _ W3 ⟨g2, cg2, rfl, hL3, b3⟩; have H3 : Hid (LenT W3 W2.heap.size g2 cg2 xs ∧ Lent W3 W.heap.size g cg ys ∧ Below W.heap.size W W3) := ⟨hL3, owns_below H2.out.1 b3, H2.out.2.trans (b3.mono H2.out.2.size)⟩; clear hL3 b3 c6)
  have hcg : fn ≤ cg ∧ cg ≤ 9223372036854775807 := by
    have h1 := own_cap H3.out.2.1
    have h2 : cg ≤ 9223372036854775807 := h1.2
    have h3 := HF.out.1.1
    omega
  have t3 := lenT_tex H3.out.1
  rw [HF.out.2.1.1] at t3
  have c7 := demand_any (HF.out.2.2.below H3.out.2.2) (by have := lent_row H3.out.2.1; rw [HF.out.1.1, ← HB.out] at this; exact this) (own_lt H3.out.2.1) HBy.out hcg ha hr HH.out (⟨t3.1, hn1, HX4.out⟩ : Arg W3 (some ⟨g2, 0, .none⟩) n cg2 xs)
  rw [← HD.out.1, ← HD.out.2] at c7
  have hcg2 : n + 1 ≤ cg2 ∧ cg2 ≤ 9223372036854775807 := t3.2.2
  clear t3
  go_upto_region 6 with (go_at_call 7; refine c7.mono ?_; rintro _ W4 ⟨rfl, b4⟩; have H4 : Hid (LenT W4 W2.heap.size g2 cg2 xs ∧ Lent W4 W.heap.size g cg ys ∧ Below W.heap.size W W4) := ⟨H3.out.1.below b4, owns_below H3.out.2.1 b4, H3.out.2.2.trans (b4.mono H3.out.2.2.size)⟩; clear c7 b4)
  have hB4 : Byt W4 fp fn fc ys := byt_up HF.out.1 H4.out.2.2
  obtain ⟨rb, ro, hrow, hrp⟩ := byt_row hB4
  rw [← HB.out] at hrow
  have c8 := demandQ_any (fun h => hrp (by omega)) hrow HBy.out hfc (by omega) ha hr HH.out (⟨HF.out.2.1.below H4.out.2.2, hn1, HX4.out⟩ : Arg W4 p n c xs)
  clear hrow hrp hB4
  rw [← HD.out.1, ← HD.out.2] at c8
  go_upto_region 7 with (go_at_call 8; refine c8.mono ?_; rintro _ W5 ⟨rfl, b5⟩; have H5 : Hid (LenT W5 W2.heap.size g2 cg2 xs ∧ Lent W5 W.heap.size g cg ys ∧ Below W.heap.size W W5) := ⟨H4.out.1.below b5, owns_below H4.out.2.1 b5, H4.out.2.2.trans (b5.mono H4.out.2.2.size)⟩; clear c8 b5)
  have c9 := kept_any (byt_up HF.out.1 H5.out.2.2) (by omega) H5.out.2.1
  have c10 := fun k => keptT_any (w := W5.drewN k) ((HF.out.2.1.below H5.out.2.2).below (below_drewN' W5 k)) (by omega) (H5.out.1.below (below_drewN' W5 k))
  go_wp2_with first | (go_at_call 9; refine c9.mono ?_; rintro _ W6 ⟨rfl, k6, rfl⟩) | (go_at_call 10; refine (c10 _).mono ?_; rintro _ W7 ⟨rfl, k7, rfl⟩)
  go_ret
  exact ⟨rfl, H5.out.2.2.trans ((below_drewN' W5 (k6 + k7)).mono H5.out.2.2.size)⟩
end Go.Proofs.YtdfjjnkbnegecaaDoor
