import Derived.Test.YtblmkkhiojbcjaaGreatGs
import Derived.Test.YtblmkkhiojbcjaaGreatGm
namespace Go.Proofs.YtblmkkhiojbcjaaGreat
open Go Go.RowKit
set_option linter.unusedVariables false
set_option linter.unusedSimpArgs false
section
variable {w W : World} {s p b m N r P ft : Nat} {size : Int} {B : Nat → Int} {L : List Nat} {F : Nat → Option Nat} {lf : Nat → Nat → Int} {fr : Nat → Nat} {c : Nat → Int}
theorem leaf_full (h : Ram w p b m N B L) (hP : PT N L B F lf) (hr : F 0 = some r) (va x : Int) (hv : 0 ≤ va ∧ va < 274877906944) (hx : lf (y0 va) (i0 va) = x) (hne : x ≠ 0) : Calls Tryz.prog 75 #[.agg #[.pointer (some ⟨p, 0, .none⟩), .int .u64 (ad r)], .int .u64 va] w fun e w' => e = .returned (.int .u64 x) ∧ Below w.heap.size w w' := by
  have hb := hP.held 0 r hr
  have hN := h.mem.n2
  have c := leaf_any h (ad r) va (by unfold ad; omega) (by omega)
  obtain ⟨h1, h2, h3⟩ := look_full hP hN hr va (by rw [hx]; exact hne)
  have hf : finds (look N L B (ad r) va) va = true := by
    unfold finds
    rw [h1, ext_low va hv]
    simp
  rw [hf, if_pos rfl] at c
  simp only [h2, h3, hx] at c
  exact c
/-- What Copy comes to. -/
def CoP (w : World) (s p b m N r P ft : Nat) (size : Int) (B : Nat → Int) (L : List Nat) (F : Nat → Option Nat) (lf : Nat → Nat → Int) (fr : Nat → Nat) (c : Nat → Int) (fp : Nat) (e : Ending) (W : World) : Prop := ∃ cb rc, e = .returned (.tuple #[.pointer (some ⟨cb, 0, .none⟩), .int .i64 0]) ∧ w.heap.size ≤ cb ∧ Fra p b m w W ∧ ∃ B' L' F' lf' fr' c', Two W s p b m N r P ft size cb rc P fp size B' L' F lf fr c F' lf' fr' c' ∧ L'.length + nodesF F' + P + 1 = L.length ∧ Oth L (fun _ => none) fr [] B L' F' fr' (List.range P) B' ∧ (∀ i, i < P → c' i = 214) ∧ (∀ i, i < P → ∀ j, j < 4096 → B' (fr i * 4096 + j) = B (fr i * 4096 + j)) ∧ ∀ i, i < P → ∀ j, j < 4096 → B' (fr' i * 4096 + j) = B (fr i * 4096 + j)
set_option maxRecDepth 10000 in
set_option maxHeartbeats 2000000 in
theorem copy_any (hS : SpT w s p b m N r P ft size B L F lf fr c) (hc : ∀ i, i < P → c i = 214) (fp : Nat) (hfp : 1 ≤ fp ∧ fp < N ∧ fp ∉ L ∧ fp ≠ ft) (hK : (P : Int) + ndP P ≤ L.length) :
    Calls Tryz.prog 40 #[.pointer (some ⟨s, 0, .none⟩), .int .u64 (ad fp)] w (CoP w s p b m N r P ft size B L F lf fr c fp) := by
  have hpm := hS.pm
  have hsz := hS.sz
  have hsn := hS.ne
  have hN := hS.ram.mem.n2
  have hN1 := hS.ram.mem.n1
  have hT := hS.tab.leafT
  have hLn := len_le hS.ram
  have b2 : 3 ≤ ndP P ∧ ndP P ≤ 20 := by unfold ndP; split <;> omega
  obtain ⟨i, L1, rfl⟩ : ∃ i L1, L = i :: L1 := by
    cases L with
    | nil => simp at hK; omega
    | cons f L2 => exact ⟨f, L2, rfl⟩
  have hb0 := ad_b 0 4096 (by omega) (by omega)
  have e0 := toP_val (ad 0) 74 ⟨hb0.1, hb0.2.1⟩ (by omega) (by omega)
  have hbf := ad_b ft 4096 (by have := hS.tab.ftb.2.1; omega) (by omega)
  have e1 := toP_val (ad ft) 198 ⟨hbf.1, hbf.2.1⟩ (by omega) (by omega)
  have c62a := fun W => frameOf_any (toP (ad 0) 74) (by rw [e0]; unfold ad; omega) W
  rw [show toP (ad 0) 74 / 1024 * 4096 = 2147483648 by rw [e0]; unfold ad; omega] at c62a
  have c62b := fun W => frameOf_any (toP (ad ft) 198) (by rw [e1]; have := hS.tab.ftb.2.1; unfold ad; omega) W
  rw [show toP (ad ft) 198 / 1024 * 4096 = ad ft by rw [e1]; unfold ad; omega] at c62b
  have c43 := made_sp hS.sp
  have c75 := leaf_full hS.ram hS.tab.pt hS.tab.rt 274877902848 _ (by omega) hT.2 (by rw [e0]; unfold ad; omega)
  have c75b := fun W (hb : Below w.heap.size w W) => leaf_full (hS.ram.below hb) hS.tab.pt hS.tab.rt 274877898752 _ (by omega) hT.1 (by rw [e1]; unfold ad; omega)
  have c76 : ∀ W, Below w.heap.size w W → Calls Tryz.prog 76 #[.pointer (some ⟨p, 0, .none⟩), .int .u64 (ad fp), .int .u64 2147483648] W fun e w' => e = .returned (.bool true) ∧ Below W.heap.size W w' := fun W hb => by
    obtain ⟨ok, h1, c⟩ := two_any (hS.ram.below hb) (ad fp) 2147483648 (by unfold ad; omega) (by omega)
    obtain rfl : ok = true := h1.2 ⟨⟨fp, hfp.2.1, hfp.2.2.1, rfl⟩, ⟨0, by omega, fun e => by have := (hS.ram.lt 0 e).1; omega, rfl⟩, by unfold ad; omega⟩
    exact c
  have c30 := fun W (hb : Below w.heap.size w W) => count_ram (hS.ram.below hb)
  have c19 := fun W (hb : Below w.heap.size w W) => pages_sp (hS.sp.below hb) (by omega)
  rw [hsz.2] at c19
  have c32 := fun W => ndP_any P (by omega) W
  have hfq : (ad fp == ad ft) = false := by simp; unfold ad; omega
  have k0 := hS.sp.c0
  have k1 := hS.sp.c1
  have HS : Hid (SpT w s p b m N r P ft size B (i :: L1) F lf fr c ∧ (∀ i, i < P → c i = 214) ∧ (1 ≤ fp ∧ fp < N ∧ fp ∉ i :: L1 ∧ fp ≠ ft)) := ⟨hS, hc, hfp⟩
  have hL3 : (P : Int) + ndP P ≤ (L1.length : Int) + 1 := by rw [List.length_cons] at hK; omega
  have h2L : 2 ≤ L1.length := by omega
  have HK : Hid ((P : Int) + ndP P ≤ (L1.length : Int) + 1) := hL3
  have hlen : ¬ (((i :: L1).length : Int) < (P : Int) + ndP P) := by omega
  clear hS hc hT e0 e1 hb0 hbf hK hL3
  generalize toP (ad 0) 74 = t0 at *
  generalize toP (ad ft) 198 = t1 at *
  generalize hg : (i :: L1).length = g at c30 hlen hLn
  clear hg
  have hnp : Hid (ndP P = ndP P) := rfl
  obtain ⟨np, hnp⟩ : ∃ np, np = ndP P := ⟨_, rfl⟩
  rw [← hnp] at c32 hlen b2
  clear hnp
  go_enter Tryz.func40, Tryz.ntmps40
  go_upto_region 3 with (go_at_call 43; refine c43.mono ?_; rintro _ w1 ⟨rfl, e1⟩; obtain rfl : w = w1 := e1.symm)
  go_upto_region 4 with first | (go_at_call 75; refine c75.mono ?_; rintro _ w1 ⟨rfl, b1⟩) | (go_at_call 62; refine (c62a _).mono ?_; rintro _ w2 ⟨rfl, e2⟩; obtain rfl : w1 = w2 := e2.symm)
  have k01 := (b1.cell (p := ⟨s, 0, .none⟩) (lt_of_cell k0)).trans k0
  go_upto_region 6 with first | (go_at_call 76; refine (c76 _ b1).mono ?_; rintro _ w2 ⟨rfl, b2x⟩; have b2' := b1.trans (b2x.mono b1.size); have k02 := (b2'.cell (p := ⟨s, 0, .none⟩) (lt_of_cell k0)).trans k0; have k12 := (b2'.cell (p := ⟨s, 1, .none⟩) (lt_of_cell k1)).trans k1) | (go_at_call 75; refine (c75b _ b2').mono ?_; rintro _ w3 ⟨rfl, b3⟩; have b3' := b2'.trans (b3.mono b2'.size)) | (go_at_call 62; refine (c62b _).mono ?_; rintro _ w4 ⟨rfl, e4⟩; obtain rfl : w3 = w4 := e4.symm)
  have k03 := (b3'.cell (p := ⟨s, 0, .none⟩) (lt_of_cell k0)).trans k0
  have H3 : Hid (Below w.heap.size w w3) := b3'
  clear b1 b2x b2' b3 b3' k01 k02 k12 c75 c75b c76 c62a c62b
  have c30 := c30 _ H3.out
  go_upto_region 8 with first | (go_at_call 30; refine c30.mono ?_; rintro _ w4 ⟨rfl, kk, rfl⟩; have H4 : Hid (Below w.heap.size w (w3.drewN kk)) := H3.out.trans ((below_dr w3 kk).mono H3.out.size)) | (go_at_call 19; refine (c19 _ H4.out).mono ?_; rintro _ w5 ⟨rfl, e5⟩; obtain rfl := e5) | (go_at_call 32; refine (c32 _).mono ?_; rintro _ w5 ⟨rfl, e5⟩; obtain rfl := e5)
  have k04 := (H4.out.cell (p := ⟨s, 0, .none⟩) (lt_of_cell k0)).trans k0
  have c78 := newTable_sl (HS.out.1.ram.below H4.out) h2L fp ⟨HS.out.2.2.1, HS.out.2.2.2.1, HS.out.2.2.2.2.1⟩ fr c
  go_wp2_with (go_at_call 78; refine c78.mono ?_; rintro _ w5 ⟨rfl, B5, L5, F5, lf5, T⟩)
  obtain ⟨w6, hw6⟩ : ∃ w6, w6 = w5.alloc (.cells #[.pointer (some ⟨p, 0, .none⟩), .int .u64 (ad i), .int .u64 0] 79) := ⟨_, rfl⟩
  rw [← hw6]
  have b6 : Below w5.heap.size w5 w6 := by rw [hw6]; exact (Below.refl _ _).alloc (Nat.le_refl _) _
  have f6 : Fra p b m w w6 := (((Fra.below H4.out).trans T.fra)).trans (Fra.below b6)
  have sc : Sp w6 w5.heap.size p (ad i) 0 := by rw [hw6]; exact ⟨by simp, by simp, by simp, fun k => World.frozen?_alloc_new _ _ _ _⟩
  have hh : w.heap.size ≤ w5.heap.size := Nat.le_trans H4.out.size T.fra.size
  have hpl := HS.out.1.ram.mem.plt
  have hbl := HS.out.1.ram.mem.blt
  have hml := HS.out.1.ram.mem.mlt
  have hsl := HS.out.1.sp.lt
  have d0 : Dis F fr (List.range P) ft (fun _ => none) fr [] := fun f _ h => by
    rcases h with ⟨x, hx⟩ | ⟨i, hi, _⟩
    · cases hx
    · cases hi
  obtain ⟨s5, d5, y5⟩ := HS.out.1.tab.beside d0 T.oth
  have hnC := SpL.nodes (P := 0) T.sl (by omega)
  rw [show ndP ((0 : Nat) : Int) = 3 from by decide] at hnC
  have S6 : SpT w6 s p b m N r P ft size B5 L5 F lf fr c := ⟨HS.out.1.sp.fra f6 hsn.1 hsn.2.1 hsn.2.2, hsz, hpm, T.ram.below b6, hsn, s5⟩
  have hl5 := T.len
  have c77 := copyInto_any S6 HS.out.2.1 sc T.sl d5 (by omega) (by omega) (by have := HK.out; omega)
  have HD : Hid (Fra p b m w w6 ∧ NS (w3.drewN kk) w5 p b m N B i L1 fp fr c B5 L5 F5 lf5 ∧ (∀ i ∈ List.range P, ∀ j, j < 4096 → B5 (fr i * 4096 + j) = B (fr i * 4096 + j)) ∧ ((nodesF F5 : Nat) : Int) + 1 = 3) := ⟨f6, T, y5, hnC⟩
  clear hw6 b6 f6 sc T d0 s5 d5 y5 hnC S6 hl5 c78 c30 c19 c32 c43
  go_at_call 77
  refine c77.mono ?_
  rintro _ w7 ⟨rfl, t7, B7, L7, F7, lf7, fr7, c7, two7, n7, o7, p7, y7, x7⟩
  have HE : Hid (Tch p b m w5.heap.size w6 w7 ∧ Two w7 s p b m N r P ft size w5.heap.size i P fp size B7 L7 F lf fr c F7 lf7 fr7 c7 ∧ L7.length + nodesF F7 + P = L5.length + nodesF F5 ∧ Oth L5 F5 fr [] B5 L7 F7 fr7 (List.range P) B7 ∧ (∀ i, i < P → c7 i = 214) ∧ (∀ i, i < P → ∀ j, j < 4096 → B7 (fr i * 4096 + j) = B5 (fr i * 4096 + j)) ∧ ∀ i, i < P → ∀ j, j < 4096 → B7 (fr7 i * 4096 + j) = B5 (fr i * 4096 + j)) := ⟨t7, two7, n7, o7, p7, y7, x7⟩
  clear t7 two7 n7 o7 p7 y7 x7 c77
  go_wp2_with fail
  refine bodyPost_ret (v := .tuple #[.pointer (some ⟨w5.heap.size, 0, .none⟩), .int .i64 0]) (by simp [results, Tryz.results40, go_sem]) rfl ?_
  obtain ⟨f6, T, y5, hnC⟩ := HD.out
  obtain ⟨t7, two7, n7, o7, p7, y7, x7⟩ := HE.out
  have hl5 := T.len
  exact ⟨w5.heap.size, i, rfl, hh, Tch.fra f6 t7 hh, B7, L7, F7, lf7, fr7, c7, two7, by rw [List.length_cons]; omega, T.oth.trans o7, p7, fun k hk j hj => (y7 k hk j hj).trans (y5 k (List.mem_range.2 hk) j hj), fun k hk j hj => (x7 k hk j hj).trans (y5 k (List.mem_range.2 hk) j hj)⟩
end
end Go.Proofs.YtblmkkhiojbcjaaGreat
