import Derived.Test.YtacdgfojdkppmaaGreatDoorXg
namespace Go.Proofs.YtacdgfojdkppmaaGreatDoor
open Go.RowKit Go.Shelf
set_option linter.unusedVariables false
set_option linter.unusedSimpArgs false
set_option maxRecDepth 10000 in
set_option maxHeartbeats 4000000 in
theorem demand_any {W : World} {b o fn fc : Nat} {B : Nat → Int} (hL : Laid W) (hrow : Row W b o fn B) (hbW : b < W.heap.size) (hB : ∀ i, 0 ≤ B i ∧ B i < 256) (hc : fn ≤ fc ∧ fc ≤ 9223372036854775807) (ha hr : Int) (hH : Hd B ha hr)
  {p : Option Addr} {n c : Nat} {xs : List Bs} (hA : Arg W p n c xs) :
  Calls Tryz.prog 16 #[.slice (some ⟨b, o, .none⟩) fn fc, .slice p n c] W fun e w' => e = .returned (.tuple #[.int .i64 (dmN (rdF fn B ha hr).1.2 (ePg (sgO fn B ha hr)) xs), .int .i64 (dmE (rdF fn B ha hr).1.2 xs)]) ∧ Below W.heap.size W w' := by
 have cP := planOf_any hL hrow hbW hB hc ha hr hH hA
 generalize (rdF fn B ha hr).1.2 = r at cP ⊢
 generalize hSg : sgO fn B ha hr = Sg' at cP ⊢
 clear hSg
 obtain ⟨eP, hEP⟩ : ∃ eP, eP = ePg Sg' := ⟨_, rfl⟩
 rw [← hEP]
 have HEP : Hid (eP = ePg Sg') := hEP
 clear hEP
 clear hL hrow hbW hB hc hH hA
 unfold PlP at cP
 by_cases h0 : dmE r xs ≠ 0
 ·have hN : dmN r eP xs = 0 := by simp [dmN, h0]
  rw [hN]
  generalize dmE r xs = d at h0 cP ⊢
  have hd : (d != 0) = true := by simpa using h0
  clear hN
  go_enter Tryz.func16, Tryz.ntmps16
  go_wp2_with (go_at_call 24; refine cP.mono ?_; rintro _ w1 ⟨b1, h1⟩; obtain rfl : _ = _ := (by rcases h1 with ⟨_, h⟩ | ⟨h, _⟩; exact h; exact absurd h h0); clear h1 cP)
  refine bodyPost_ret (v := .tuple #[.int .i64 0, .int .i64 d]) (by simp [results, Tryz.results16, go_sem]) rfl ⟨rfl, b1.alloc b1.size _⟩
 ·have h0 : dmE r xs = 0 := by omega
  have hN : dmN r eP xs = eP + 6 + (eP + 513) / 512 := by simp [dmN, h0]
  rw [hN, h0]
  rw [h0] at cP
  have HN : Hid (dmE r xs = 0) := h0
  clear hN h0
  go_enter Tryz.func16, Tryz.ntmps16
  go_upto_region 2 with (go_at_call 24; refine cP.mono ?_; rintro _ w1 ⟨b1, h1⟩; rcases h1 with ⟨h, _⟩ | ⟨_, X, q, cs, E, B', et, pq, pn, pc, sp, rfl, sg, hE, hl, hp, -⟩; exact absurd rfl h)
  have HB : Hid (Below w1.heap.size w1 (w1.alloc (.cells #[.int .u64 et, .slice q E.length cs, .slice pq pn pc, .int .u64 sp] 75))) := (Below.refl _ _).alloc (Nat.le_refl _) _
  have c12 := demandP_any (sg.below HB.out) hE hl et sp pq pn pc
  rw [hp, ← HEP.out] at c12
  have HB1 : Hid (Below W.heap.size W w1) := b1
  clear sg hE hl hp cP b1
  go_wp2_with (go_at_call 26; refine c12.mono ?_; rintro _ w2 ⟨rfl, b2⟩)
  refine bodyPost_ret (v := .tuple #[.int .i64 (eP + 6 + (eP + 513) / 512), .int .i64 0]) (by simp [results, Tryz.results16, go_sem]) rfl ⟨rfl, HB1.out.trans ((HB.out.trans (b2.mono HB.out.size)).mono HB1.out.size)⟩
end Go.Proofs.YtacdgfojdkppmaaGreatDoor
namespace Go.Proofs.YtacdgfojdkppmaaGreatDoor
open Go.RowKit Go.Shelf
set_option linter.unusedVariables false
set_option linter.unusedSimpArgs false
theorem u8_eq {b c : UInt8} : (((b.toNat : Nat) : Int) == ((c.toNat : Nat) : Int)) = decide (b = c) := by
  by_cases h : b = c
  · subst h; simp
  · have : b.toNat ≠ c.toNat := fun e => h (UInt8.toNat_inj.1 e)
    rw [decide_eq_false h]
    simp only [beq_eq_false_iff_ne, ne_eq]
    omega
theorem getb {l : Bs} {i : Nat} (h : i < l.length) (h' : i < (⟨l.toArray⟩ : ByteArray).size) : (⟨l.toArray⟩ : ByteArray)[i]'h' = l[i] := rfl
/-- Two cells of a world. -/
structure C2 (w : World) (x : Nat) (a b : Value) : Prop where
  a : w.cell? ⟨x, 0, .none⟩ = some a
  b : w.cell? ⟨x, 1, .none⟩ = some b
  f : ∀ i, w.frozen? ⟨x, i, .none⟩ = false
theorem C2.below {w w' : World} {x : Nat} {a b : Value} (h : C2 w x a b) (k : Below w.heap.size w w') : C2 w' x a b :=
  ⟨(k.cell (lt_of_cell h.a)).trans h.a, (k.cell (lt_of_cell h.b)).trans h.b, fun i => (k.frozen (p := ⟨x, i, .none⟩) (show x < w.heap.size from lt_of_cell (x := ⟨x, 0, .none⟩) h.a)).trans (h.f i)⟩
theorem C2.new (w : World) (a b : Value) (t : TypeId) : C2 (w.alloc (.cells #[a, b] t)) w.heap.size a b :=
  ⟨by simp, by simp, fun i => World.frozen?_alloc_new _ _ _ _⟩
def RdP (w : World) (r e : Int) (xs : List Bs) (en : Ending) (w' : World) : Prop :=
  Below w.heap.size w w' ∧ ((dmE r xs ≠ 0 ∧ en = .returned (.tuple #[.agg #[.int .u64 0, .slice .none 0 0], .int .i64 (dmE r xs)])) ∨
   (dmE r xs = 0 ∧ ∃ X q cs E B et, en = .returned (.tuple #[.agg #[.int .u64 et, .slice q E.length cs], .int .i64 0]) ∧ Segs w' X (.slice q E.length cs) E B ∧ E ≠ [] ∧ E.length ≤ 8 ∧ ePg (E.map (·.1)) = e))
set_option maxRecDepth 10000 in
set_option maxHeartbeats 4000000 in
theorem readD_any {W : World} {fp : Option Addr} {b o fn fc : Nat} {B : Nat → Int} (hp : 64 ≤ fn → fp = some ⟨b, o, .none⟩) (hrow : Row W b o fn B) (hB : ∀ i, 0 ≤ B i ∧ B i < 256) (hc : fn ≤ fc ∧ fc ≤ 9223372036854775807) (hn3 : fn ≤ 400000) (ha hr : Int) (hH : Hd B ha hr)
    {p : Option Addr} {n c : Nat} {xs : List Bs} (hA : Arg W p n c xs) :
    Calls Tryz.prog 21 #[.slice fp fn fc, .slice p n c] W (RdP W (rdF fn B ha hr).1.2 (ePg (sgO fn B ha hr)) xs) := by
  obtain ⟨W1, hW1⟩ : ∃ W1, W1 = W.alloc (.cells #[.int .u64 0, .slice .none 0 0] 64) := ⟨_, rfl⟩
  have b1 : Below W.heap.size W W1 := by rw [hW1]; exact (Below.refl _ _).alloc (Nat.le_refl _) _
  have z1 : W1.heap.size = W.heap.size + 1 := by rw [hW1]; simp
  have k1 : C2 W1 W.heap.size (.int .u64 0) (.slice .none 0 0) := by
    rw [hW1]
    exact C2.new _ _ _ _
  have cR := readR hp (hrow.keep b1) hB hc hn3 ha hr hH
  obtain ⟨r, hr0⟩ : ∃ r, r = (rdF fn B ha hr).1.2 := ⟨_, rfl⟩
  obtain ⟨S, hS⟩ : ∃ S, S = sgO fn B ha hr := ⟨_, rfl⟩
  have hSn : r = 0 → S ≠ [] := fun h => by
    rw [hS]
    unfold sgO
    rw [if_neg (by rw [← hr0, h]; simp)]
    exact rd_some (by rw [← hr0, h]) hH
  have HX : Hid (r = 0 → S ≠ []) := hSn
  unfold QO at cR
  rw [← hr0, ← hS] at cR ⊢
  have HW : Hid (Below W.heap.size W W1 ∧ C2 W1 W.heap.size (.int .u64 0) (.slice .none 0 0) ∧ Arg W p n c xs) := ⟨b1, k1, hA⟩
  have hn1 : n ≤ c ∧ c ≤ 9223372036854775807 := ⟨hA.tex.2.1, hA.tex.2.2.1⟩
  have hfew := hA.few
  have HLn : Hid (xs.length = n) := hA.tex.1
  clear hp hrow hB hH hA b1 k1 hSn hr0 hS
  go_enter Tryz.func21, Tryz.ntmps21
  go_upto_region 1 with fail
  rw [← hW1]
  clear hW1
  go_upto_region 2 with (go_at_call 50; refine cR.mono ?_; rintro _ w2 ⟨q, cs, E, gp, gn, gc, rfl, eS, sg, hl8, hv, b2⟩; have H2 : Hid (Below W.heap.size W w2 ∧ C2 w2 W.heap.size (.int .u64 0) (.slice .none 0 0) ∧ Segs w2 W1.heap.size (.slice q E.length cs) E B ∧ E.length ≤ 8 ∧ E.map (·.1) = S ∧ RefR w2 (.agg #[.slice gp gn gc, .int .i64 r]) (rdF fn B ha hr).1.1 r) := ⟨HW.out.1.trans (b2.mono (by omega)), HW.out.2.1.below b2, sg, hl8, eS, hv⟩; clear eS sg hl8 hv b2 cR)
  obtain ⟨w3, hw3⟩ : ∃ w3, w3 = (w2.alloc (.cells #[.int .u64 (enO fn B ha hr), .slice q E.length cs] 64)).alloc (.cells #[.slice gp gn gc, .int .i64 r] 86) := ⟨_, rfl⟩
  have b3 : Below w2.heap.size w2 w3 := by rw [hw3]; exact ((Below.refl _ _).alloc (Nat.le_refl _) _).alloc (by simp) _
  have p0 : w3.cell? ⟨w2.heap.size, 0, .none⟩ = some (.int .u64 (enO fn B ha hr)) := by rw [hw3]; simp
  have p1 : w3.cell? ⟨w2.heap.size, 1, .none⟩ = some (.slice q E.length cs) := by rw [hw3]; simp
  have e0 : w3.cell? ⟨w2.heap.size + 1, 0, .none⟩ = some (.slice gp gn gc) := by
    rw [hw3]
    have : (w2.alloc (.cells #[.int .u64 (enO fn B ha hr), .slice q E.length cs] 64)).heap.size = w2.heap.size + 1 := by simp
    rw [← this]; simp
  have e1 : w3.cell? ⟨w2.heap.size + 1, 1, .none⟩ = some (.int .i64 r) := by
    rw [hw3]
    have : (w2.alloc (.cells #[.int .u64 (enO fn B ha hr), .slice q E.length cs] 64)).heap.size = w2.heap.size + 1 := by simp
    rw [← this]; simp
  have z3 : w3.heap.size = w2.heap.size + 2 := by rw [hw3]; simp
  have z2 := H2.out.1.size
  have H3 : Hid (Below W.heap.size W w3 ∧ C2 w3 W.heap.size (.int .u64 0) (.slice .none 0 0) ∧ Segs w3 W1.heap.size (.slice q E.length cs) E B ∧ C2 w3 w2.heap.size (.int .u64 (enO fn B ha hr)) (.slice q E.length cs)) := ⟨H2.out.1.trans (b3.mono H2.out.1.size), H2.out.2.1.below b3, H2.out.2.2.1.below b3, p0, p1, fun k => by
    have hA := C2.new w2 (.int .u64 (enO fn B ha hr)) (.slice q E.length cs) 64
    have hb : Below (w2.alloc (.cells #[.int .u64 (enO fn B ha hr), .slice q E.length cs] 64)).heap.size (w2.alloc (.cells #[.int .u64 (enO fn B ha hr), .slice q E.length cs] 64)) w3 := by rw [hw3]; exact (Below.refl _ _).alloc (Nat.le_refl _) _
    exact (hA.below hb).f k⟩
  have HE : Hid (E.length ≤ 8 ∧ E.map (·.1) = S ∧ (r = 0 → E ≠ [])) := ⟨H2.out.2.2.2.1, H2.out.2.2.2.2.1, fun h e => HX.out h (by rw [← H2.out.2.2.2.2.1, e]; rfl)⟩
  have c25 := any_any w3 _ _ _ (H2.out.2.2.2.2.2.below b3)
  have HS2 : Hid (Segs w2 W1.heap.size (.slice q E.length cs) E B) := H2.out.2.2.1
  rw [← hw3]
  clear hw3 b3 H2 p0 p1
  by_cases h0 : r ≠ 0
  · rw [decide_eq_true h0] at c25
    go_wp2_with fail
    refine c25.mono ?_
    rintro _ w4 ⟨rfl, b4⟩
    have H4 : Hid (Below W.heap.size W w4 ∧ C2 w4 W.heap.size (.int .u64 0) (.slice .none 0 0) ∧ True) := ⟨H3.out.1.trans (b4.mono H3.out.1.size), H3.out.2.1.below b4, trivial⟩
    have k0 := H4.out.2.1.a
    have k1 := H4.out.2.1.b
    have kf0 := H4.out.2.1.f 0
    have kf1 := H4.out.2.1.f 1
    clear c25 e0 e1
    go_wp2_with fail
    obtain ⟨s0, s1⟩ := set2' H4.out.2.1.a H4.out.2.1.b (.int .u64 0) (.slice .none 0 0)
    refine bodyPost_ret (v := .tuple #[.agg #[.int .u64 0, .slice .none 0 0], .int .i64 280]) (by simp [results, Tryz.results21, go_sem, s0, s1]) rfl ⟨?_, .inl ⟨?_, ?_⟩⟩
    · exact (H4.out.1.setCell (Nat.le_refl _) _).setCell (Nat.le_refl _) _
    · rw [dm_file h0]; decide
    · rw [dm_file h0]
  have H0 : Hid (r = 0) := by show r = 0; omega
  rw [decide_eq_false (by omega : ¬ r ≠ 0)] at c25
  clear h0
  by_cases h32 : 32 < n
  · have h32' : (32 : Int) < n := by omega
    go_wp2_with fail
    refine c25.mono ?_
    rintro _ w4 ⟨rfl, b4⟩
    have H4 : Hid (Below W.heap.size W w4 ∧ C2 w4 W.heap.size (.int .u64 0) (.slice .none 0 0) ∧ True) := ⟨H3.out.1.trans (b4.mono H3.out.1.size), H3.out.2.1.below b4, trivial⟩
    have k0 := H4.out.2.1.a
    have k1 := H4.out.2.1.b
    have kf0 := H4.out.2.1.f 0
    have kf1 := H4.out.2.1.f 1
    clear c25 e0 e1
    go_wp2_with fail
    obtain ⟨s0, s1⟩ := set2' H4.out.2.1.a H4.out.2.1.b (.int .u64 0) (.slice .none 0 0)
    refine bodyPost_ret (v := .tuple #[.agg #[.int .u64 0, .slice .none 0 0], .int .i64 281]) (by simp [results, Tryz.results21, go_sem, s0, s1]) rfl ⟨?_, .inl ⟨?_, ?_⟩⟩
    · exact (H4.out.1.setCell (Nat.le_refl _) _).setCell (Nat.le_refl _) _
    · rw [dm_args H0.out (by rw [HLn.out]; exact h32)]; decide
    · rw [dm_args H0.out (by rw [HLn.out]; exact h32)]
  have h32' : ¬ (32 : Int) < n := by omega
  go_wp2_with fail
  refine c25.mono ?_
  rintro _ w4 ⟨rfl, b4⟩
  have H4 : Hid (Below W.heap.size W w4 ∧ C2 w4 W.heap.size (.int .u64 0) (.slice .none 0 0) ∧ Segs w4 W1.heap.size (.slice q E.length cs) E B ∧ C2 w4 w2.heap.size (.int .u64 (enO fn B ha hr)) (.slice q E.length cs) ∧ True) := ⟨H3.out.1.trans (b4.mono H3.out.1.size), H3.out.2.1.below b4, H3.out.2.2.1.below b4, H3.out.2.2.2.below b4, trivial⟩
  clear c25 e0 e1 b4
  go_wp2_with fail
  have HAr : Hid (Arg w4 p n c xs) := HW.out.2.2.below H4.out.1
  go_loopw [8] (fun k wr => ∃ i : Nat, i ≤ n ∧ k = .int .i64 i ∧ wr = w4 ∧ Hid ((xs.take i).any hz = false)) (fun k _ => (n - intOf k).toNat)
  case atStart => exact ⟨0, by omega, rfl, rfl, by show _ = _; simp⟩
  case round =>
    obtain ⟨i, hi, rfl, rfl, HA⟩ := hrel
    by_cases hlt : i < n
    · have g0 : (i : Int) < n := by omega
      obtain ⟨pb, po, x, rfl, hxi, a0⟩ := HAr.out.tex.at hlt
      have hxl := HAr.out.len x (List.mem_of_getElem? hxi)
      have hnext : (xs.take (i + 1)).any hz = hz x := by
        rw [List.take_add_one, hxi, List.any_append, HA.out]
        simp
      have HNx : Hid ((xs.take (i + 1)).any hz = hz x ∧ xs[i]? = some x) := ⟨hnext, hxi⟩
      have hsz : (⟨x.toArray⟩ : ByteArray).size = x.length := by simp [ByteArray.size]
      clear hnext hxi
      go_wp2_with fail
      go_loopw [9] (fun k wv => ∃ j : Nat, j ≤ x.length ∧ k = .int .i64 j ∧ wv = wr ∧ Hid (∀ l, l < j → x[l]? ≠ some 0)) (fun k _ => (x.length - intOf k).toNat)
      case atStart => exact ⟨0, by omega, rfl, rfl, fun l hl => by omega⟩
      case round =>
        obtain ⟨j, hj, rfl, rfl, HJ⟩ := hrel
        by_cases hjl : j < x.length
        · have gj : (j : Int) < x.length := by omega
          by_cases z0 : x[j] = 0
          · have gz : ((((⟨x.toArray⟩ : ByteArray)[j]'(by rw [hsz]; exact hjl)).toNat : Int) == 0) = true := by
              rw [getb hjl]; exact (u8_eq (c := 0)).trans (decide_eq_true z0)
            have HZ : Hid (xs.any hz = true) := by
              show _ = _
              rw [List.any_eq_true]
              refine ⟨x, List.mem_of_getElem? HNx.out.2, ?_⟩
              unfold hz
              exact decide_eq_true (by rw [← z0]; exact List.getElem_mem _)
            clear z0
            have k0 := H4.out.2.1.a
            have k1 := H4.out.2.1.b
            have kf0 := H4.out.2.1.f 0
            have kf1 := H4.out.2.1.f 1
            go_wp2_with fail
            obtain ⟨s0, s1⟩ := set2' H4.out.2.1.a H4.out.2.1.b (.int .u64 0) (.slice .none 0 0)
            refine bodyPost_ret (v := .tuple #[.agg #[.int .u64 0, .slice .none 0 0], .int .i64 282]) (by simp [results, Tryz.results21, go_sem, s0, s1]) rfl ⟨?_, .inl ⟨?_, ?_⟩⟩
            · exact (H4.out.1.setCell (Nat.le_refl _) _).setCell (Nat.le_refl _) _
            · rw [dm_arg H0.out (by rw [HLn.out]; omega) HZ.out]; decide
            · rw [dm_arg H0.out (by rw [HLn.out]; omega) HZ.out]
          · have gz : ((((⟨x.toArray⟩ : ByteArray)[j]'(by rw [hsz]; exact hjl)).toNat : Int) == 0) = false := by
              rw [getb hjl]; exact (u8_eq (c := 0)).trans (decide_eq_false z0)
            have HJ2 : Hid (∀ l, l < j + 1 → x[l]? ≠ some 0) := fun l hl => by
              rcases Nat.lt_or_ge l j with e | e
              · exact HJ.out l e
              · obtain rfl : l = j := by omega
                rw [List.getElem?_eq_getElem hjl]
                intro e
                injection e with e
                exact z0 e
            clear z0
            go_wp2_with fail
            exact ⟨⟨j + 1, by omega, rfl, trivial, HJ2⟩, by simp only [intOf]; omega⟩
        · obtain rfl : j = x.length := by omega
          have HZ : Hid ((xs.take (i + 1)).any hz = false) := by
            show _ = _
            rw [HNx.out.1]
            unfold hz
            apply decide_eq_false
            intro hm
            obtain ⟨l, hl⟩ := List.mem_iff_getElem?.1 hm
            have hl2 : l < x.length := (List.getElem?_eq_some_iff.1 hl).1
            exact HJ.out l hl2 hl
          go_wp2_with fail
          exact ⟨⟨i + 1, by omega, rfl, trivial, HZ⟩, by simp only [intOf]; omega⟩
    · obtain rfl : i = n := by omega
      have HZ : Hid (xs.any hz = false) := by
        show _ = _
        have := HA.out
        rw [← HLn.out, List.take_length] at this
        exact this
      have c26 := stackQ_any wr p i c xs HAr.out.tex (by omega) HAr.out.len
      cases hrm : rm xs
      case false =>
        have HM : Hid (rm xs = false) := hrm
        rw [hrm] at c26
        clear hrm
        go_wp2_with (go_at_call 52; refine c26.mono ?_; rintro _ w6 ⟨⟨pq, pn, pc, sp, rfl⟩, b6⟩; have H6 : Hid (Below W.heap.size W w6 ∧ C2 w6 W.heap.size (.int .u64 0) (.slice .none 0 0) ∧ True) := ⟨H4.out.1.trans (b6.mono H4.out.1.size), H4.out.2.1.below b6, trivial⟩; have k0 := H6.out.2.1.a; have k1 := H6.out.2.1.b; have kf0 := H6.out.2.1.f 0; have kf1 := H6.out.2.1.f 1; clear c26)
        obtain ⟨s0, s1⟩ := set2' H6.out.2.1.a H6.out.2.1.b (.int .u64 0) (.slice .none 0 0)
        refine bodyPost_ret (v := .tuple #[.agg #[.int .u64 0, .slice .none 0 0], .int .i64 283]) (by simp [results, Tryz.results21, go_sem, s0, s1]) rfl ⟨?_, .inl ⟨?_, ?_⟩⟩
        · exact (H6.out.1.setCell (Nat.le_refl _) _).setCell (Nat.le_refl _) _
        · rw [dm_stack H0.out (by rw [HLn.out]; omega) HZ.out HM.out]; decide
        · rw [dm_stack H0.out (by rw [HLn.out]; omega) HZ.out HM.out]
      case true =>
        have HM : Hid (rm xs = true) := hrm
        rw [hrm] at c26
        clear hrm
        go_wp2_with (go_at_call 52; refine c26.mono ?_; rintro _ w6 ⟨⟨pq, pn, pc, sp, rfl⟩, b6⟩; have H6 : Hid (Below W.heap.size W w6 ∧ C2 w6 W.heap.size (.int .u64 0) (.slice .none 0 0) ∧ Segs w6 W1.heap.size (.slice q E.length cs) E B ∧ C2 w6 w2.heap.size (.int .u64 (enO fn B ha hr)) (.slice q E.length cs)) := ⟨H4.out.1.trans (b6.mono H4.out.1.size), H4.out.2.1.below b6, H4.out.2.2.1.below b6, H4.out.2.2.2.1.below b6⟩; have k0 := H6.out.2.1.a; have k1 := H6.out.2.1.b; have kf0 := H6.out.2.1.f 0; have kf1 := H6.out.2.1.f 1; have t0 := H6.out.2.2.2.a; have t1 := H6.out.2.2.2.b; clear c26)
        obtain ⟨s0, s1⟩ := set2' H6.out.2.1.a H6.out.2.1.b (.int .u64 (enO fn B ha hr)) (.slice q E.length cs)
        refine bodyPost_ret (v := .tuple #[.agg #[.int .u64 (enO fn B ha hr), .slice q E.length cs], .int .i64 0]) (by simp [results, Tryz.results21, go_sem, s0, s1]) rfl ⟨?_, .inr ⟨dm_ok H0.out (by rw [HLn.out]; omega) HZ.out HM.out, W1.heap.size, q, cs, E, B, enO fn B ha hr, rfl, ?_, HE.out.2.2 H0.out, HE.out.1, by rw [HE.out.2.1]⟩⟩
        · exact (H6.out.1.setCell (Nat.le_refl _) _).setCell (Nat.le_refl _) _
        · have hs1 : W.heap.size < W1.heap.size := by omega
          exact (H6.out.2.2.1.low (a := ⟨W.heap.size, 0, .none⟩) hs1 _).low (a := ⟨W.heap.size, 1, .none⟩) hs1 _
end Go.Proofs.YtacdgfojdkppmaaGreatDoor
