import Derived.Test.YtblmkkhiojbcjaaGreatGb
import Derived.Test.YtblmkkhiojbcjaaGreatYh
import Derived.Test.YtblmkkhiojbcjaaGreatSNo
import Derived.Test.YtblmkkhiojbcjaaGreatGg
import Derived.Test.YtblmkkhiojbcjaaGreatUl
namespace Go.Proofs.YtblmkkhiojbcjaaGreat
open Go Go.RowKit
set_option linter.unusedVariables false
set_option linter.unusedSimpArgs false
/-- What a new table is. -/
structure NS (w w' : World) (p b m N : Nat) (B : Nat → Int) (i : Nat) (L1 : List Nat) (ft : Nat) (fr : Nat → Nat) (c : Nat → Int) (B' : Nat → Int) (L' : List Nat) (F' : Nat → Option Nat) (lf' : Nat → Nat → Int) : Prop where
  ram : Ram w' p b m N B' L'
  sl : SpL N i ft B' L' F' lf' fr c []
  len : L'.length + 2 = L1.length
  oth : Oth (i :: L1) (fun _ => none) fr [] B L' F' fr [] B'
  fra : Fra p b m w w'
section
variable {w : World} {p b m N : Nat} {B : Nat → Int}
set_option maxHeartbeats 2000000 in
theorem newTable_sl {i : Nat} {L1 : List Nat} (h : Ram w p b m N B (i :: L1)) (hl : 2 ≤ L1.length) (ft : Nat) (hft : 1 ≤ ft ∧ ft < N ∧ ft ∉ i :: L1) (fr : Nat → Nat) (c : Nat → Int) :
    Calls Tryz.prog 78 #[.pointer (some ⟨p, 0, .none⟩), .int .u64 (ad ft), .int .u64 2147483648] w fun e w' => e = .returned (.agg #[.pointer (some ⟨p, 0, .none⟩), .int .u64 (ad i)]) ∧ ∃ B' L' F' lf', NS w w' p b m N B i L1 ft fr c B' L' F' lf' := by
  have hN := h.mem.n2
  have hi := h.lt i (List.mem_cons_self ..)
  have hnd := List.nodup_cons.1 h.nd
  have hil : i ∉ L1 := hnd.1
  have hfb := ad_b ft N hft.2.1 hN
  obtain ⟨w1, hw1⟩ : ∃ w1, w1 = w.alloc (.cells #[.pointer .none, .int .u64 0] 77) := ⟨_, rfl⟩
  have b1 : Below w.heap.size w w1 := by rw [hw1]; exact (Below.refl _ _).alloc (Nat.le_refl _) _
  have k0 : w1.cell? ⟨w.heap.size, 0, .none⟩ = some (.pointer .none) := by rw [hw1]; simp
  have k1 : w1.cell? ⟨w.heap.size, 1, .none⟩ = some (.int .u64 0) := by rw [hw1]; simp
  have kf : ∀ k, w1.frozen? ⟨w.heap.size, k, .none⟩ = false := fun k => by rw [hw1]; exact World.frozen?_alloc_new _ _ _ _
  have hp : p < w.heap.size := lt_of_cell h.mem.c0
  have hb : b < w.heap.size := lt_of_cell (h.mem.cb 0 (by have := h.mem.n1; omega))
  have hm : m < w.heap.size := h.mem.mlt
  have c106 := new_some i (h.below b1)
  have P0 : PT N L1 (zer B i) (fun x => if x = 0 then some i else none) (fun _ _ => 0) := PT.initY hi hil
  have HW : Hid (Below w.heap.size w w1 ∧ C2w w1 w.heap.size (.pointer .none) (.int .u64 0)) := ⟨b1, k0, k1, kf⟩
  have HP0 : Hid (PT N L1 (zer B i) (fun x => if x = 0 then some i else none) (fun _ _ => 0)) := P0
  have z1 : w1.heap.size = w.heap.size + 1 := by rw [hw1]; simp
  have HL : Hid (i ∉ L1) := hil
  clear h P0 b1 k0 k1 kf hnd hil
  go_enter Tryz.func78, Tryz.ntmps78
  go_upto_region 1 with fail
  rw [← hw1]
  clear hw1
  go_upto_region 2 with (go_at_call 109; refine c106.mono ?_; rintro _ w2 ⟨rfl, r2, f2⟩; have H2 : Hid (Ram w2 p b m N (zer B i) L1 ∧ Fra p b m w1 w2) := ⟨r2, f2⟩; clear r2 f2 c106)
  have c1 := map_pt H2.out.1 HP0.out (r := i) rfl 274877898752 (ad ft) 198 (by omega) (by omega) ⟨hfb.1, hfb.2.2, hfb.2.1⟩ perm198 (leaf_b _ _ ⟨hfb.1, hfb.2.2, hfb.2.1⟩ (by omega) (by omega) (by decide) (by decide)) rfl (by
    have : needY (fun x => if x = 0 then some i else none) 274877898752 = 2 := by
      unfold needY
      have : y1 274877898752 ≠ 0 := by have := y1_le 274877898752; omega
      simp [this]
    omega)
  go_wp2_with fail
  refine c1.mono ?_
  rintro _ w3 ⟨rfl, B1, L2, F1, R1, e1, r3, f3⟩
  have hn2 : needY (fun x => if x = 0 then some i else none) 274877898752 = 2 := by
    unfold needY
    have : y1 274877898752 ≠ 0 := by have := y1_le 274877898752; omega
    simp [this]
  rw [hn2] at e1
  have H3 : Hid (LP N 274877898752 (toP (ad ft) 198) L1 (zer B i) (fun x => if x = 0 then some i else none) (fun _ _ => 0) L2 B1 F1 ∧ L1 = L1.take 2 ++ L2 ∧ Ram w3 p b m N B1 L2 ∧ Fra p b m w1 w3) := ⟨R1, e1, r3, H2.out.2.trans f3⟩
  clear R1 e1 r3 f3 c1 H2 hn2
  have hF1 : F1 0 = some i := H3.out.1.ext 0 i rfl
  have hz0 : ad 0 = 2147483648 := rfl
  have c2 := map_pt H3.out.2.2.1 H3.out.1.pt (r := i) hF1 274877902848 (ad 0) 74 (by omega) (by omega) ⟨by decide, by decide, by decide⟩ perm74 (leaf_b _ _ ⟨by decide, by decide, by decide⟩ (by omega) (by omega) (by decide) (by decide)) (by
    unfold setE
    rw [if_neg (fun e => tt_i0 e.2)]) (by
    obtain ⟨g, q, h1, h2⟩ := H3.out.1.has
    unfold needY
    rw [tt_y1, tt_y0, h1, h2]
    simp)
  have HF1 : Hid (F1 0 = some i) := hF1
  rw [hz0] at c2
  clear hz0 hF1
  go_wp2_with fail
  refine c2.mono ?_
  rintro _ w4 ⟨rfl, B2, L3, F2, R2, e2, r4, f4⟩
  have hn2 : needY F1 274877902848 = 0 := by
    obtain ⟨g, q, h1, h2⟩ := H3.out.1.has
    unfold needY
    rw [tt_y1, tt_y0, h1, h2]
    simp
  rw [hn2, List.take_zero, List.nil_append] at e2
  have HR2 : Hid (LP N 274877902848 (toP 2147483648 74) L2 B1 F1 (setE (fun _ _ => 0) (y0 274877898752) (i0 274877898752) (toP (ad ft) 198)) L3 B2 F2) := R2
  have H4 : Hid (L2 = L3 ∧ Ram w4 p b m N B2 L3 ∧ Fra p b m w1 w4) := ⟨e2, r4, H3.out.2.2.2.trans f4⟩
  have k4 := HW.out.2.fra H4.out.2.2 (by omega) (by omega) (by omega)
  have k0 := k4.a
  have k1 := k4.b
  have kf0 := k4.f 0
  have kf1 := k4.f 1
  clear R2 e2 r4 f4 c2 hn2
  go_wp2_with fail
  have s0 : ((w4.setCell ⟨w.heap.size, 0, .none⟩ (.pointer (some ⟨p, 0, .none⟩))).setCell ⟨w.heap.size, 1, .none⟩ (.int .u64 (2147483648 + (i : Int) * 4096))).cell? ⟨w.heap.size, 0, .none⟩ = some (.pointer (some ⟨p, 0, .none⟩)) := by
    rw [World.cell?_setCell_other _ _ _ _ (by simp)]
    exact World.cell?_setCell_same' _ _ _ (by rw [k0]; rfl)
  have s1 : ((w4.setCell ⟨w.heap.size, 0, .none⟩ (.pointer (some ⟨p, 0, .none⟩))).setCell ⟨w.heap.size, 1, .none⟩ (.int .u64 (2147483648 + (i : Int) * 4096))).cell? ⟨w.heap.size, 1, .none⟩ = some (.int .u64 (2147483648 + (i : Int) * 4096)) := World.cell?_setCell_same' _ _ _ (by rw [World.cell?_setCell_other _ _ _ _ (by simp), k1]; rfl)
  have own1 : ∀ x f, F1 x = some f → f ∈ i :: L1 ∧ (x = 0 ∨ x = y1 274877898752 ∨ x = y0 274877898752) := fun x f hf => by
    rcases H3.out.1.new x f hf with e | ⟨e1, _, e2⟩
    · by_cases hx : x = 0
      · simp only [hx, if_true, Option.some.injEq] at e
        exact ⟨by rw [← e]; exact List.mem_cons_self .., .inl hx⟩
      · simp [hx] at e
    · exact ⟨List.mem_cons_of_mem _ e1, .inr e2⟩
  have own2 : ∀ x f, F2 x = some f → f ∈ i :: L1 ∧ (x = 0 ∨ x = y1 274877898752 ∨ x = y0 274877898752) := fun x f hf => by
    rcases HR2.out.new x f hf with e | ⟨e1, _, e2⟩
    · exact own1 x f e
    · rw [tt_y1, tt_y0] at e2
      exact ⟨List.mem_cons_of_mem _ (H3.out.1.sub f e1), .inr e2⟩
  have o1 : okP (274877898752, ad ft, 198) := ⟨⟨by simp only; omega, by simp only; omega, by simp only; omega⟩, hfb, ⟨by simp only; omega, by simp only; omega, by simp only; omega⟩, (leaf_b (ad ft) 198 ⟨hfb.1, hfb.2.2, hfb.2.1⟩ (by omega) (by omega) (by decide) (by decide)).1⟩
  have o2 : okP (274877902848, ad 0, 74) := ⟨⟨by simp only; omega, by simp only; omega, by simp only; omega⟩, ⟨by decide, by decide, by decide⟩, ⟨by simp only; omega, by simp only; omega, by simp only; omega⟩, (leaf_b (ad 0) 74 ⟨by decide, by decide, by decide⟩ (by omega) (by omega) (by decide) (by decide)).1⟩
  have t1 := TL.map (x := (274877898752, ad ft, 198)) (TL.init i) o1 (fun y hy => by cases hy) H3.out.1
  have t2 := TL.map (x := (274877902848, ad 0, 74)) t1 o2 (fun y hy => by rw [List.nil_append, List.mem_singleton] at hy; rw [hy]; simp) HR2.out
  have hS : SpL N i ft B2 L3 F2 _ fr c [] := ⟨HR2.out.pt, HR2.out.ext 0 i HF1.out, t2, List.nodup_nil, fun _ h => (by cases h), fun _ h => (by cases h), fun _ h => (by cases h), hft.1, hft.2.1, fun hm => hft.2.2 (List.mem_cons_of_mem _ (H3.out.1.sub _ (H4.out.1 ▸ hm))), fun x hx => hft.2.2 (own2 x _ hx).1⟩
  refine bodyPost_ret (v := .agg #[.pointer (some ⟨p, 0, .none⟩), .int .u64 (2147483648 + (i : Int) * 4096)]) (by simp [results, Tryz.results78, go_sem, s0, s1]) rfl ⟨rfl, B2, L3, F2, _, ?_, hS, ?_, fun f hf h2 h3 => ⟨fun hm => hf (List.mem_cons_of_mem _ (H3.out.1.sub _ (H4.out.1 ▸ hm))), fun x hx => hf (own2 x f hx).1, fun _ h => by (cases h), fun k hk => ?_⟩, ?_⟩
  · exact (H4.out.2.1.beside ⟨w.heap.size, 0, .none⟩ _ (by show p ≠ w.heap.size; omega) (by show b ≠ w.heap.size; omega) (by show m ≠ w.heap.size; omega)).beside ⟨w.heap.size, 1, .none⟩ _ (by show p ≠ w.heap.size; omega) (by show b ≠ w.heap.size; omega) (by show m ≠ w.heap.size; omega)
  · have e := congrArg List.length H3.out.2.1
    rw [List.length_append, List.length_take, H4.out.1] at e
    omega
  · rw [HR2.out.byt f (fun x hx => hf (own2 x f hx).1) k hk, H3.out.1.byt f (fun x hx => hf (own1 x f hx).1) k hk]
    have hfi : f ≠ i := fun e => hf (by rw [e]; exact List.mem_cons_self ..)
    exact zer_out _ _ _ (by rcases Nat.lt_or_gt_of_ne hfi with h | h <;> omega)
  · exact (((Fra.below HW.out.1).trans H4.out.2.2).beside ⟨w.heap.size, 0, .none⟩ _ (Nat.le_refl _)).beside ⟨w.heap.size, 1, .none⟩ _ (Nat.le_refl _)
set_option maxHeartbeats 2000000 in
theorem spNew_sl {i : Nat} {L1 : List Nat} (h : Ram w p b m N B (i :: L1)) (hl : 2 ≤ L1.length) (ft : Nat) (hft : 1 ≤ ft ∧ ft < N ∧ ft ∉ i :: L1) (fr : Nat → Nat) (c : Nat → Int) :
    Calls Tryz.prog 42 #[.pointer (some ⟨p, 0, .none⟩), .int .u64 (ad ft), .int .u64 2147483648] w fun e w' => ∃ s, e = .returned (.tuple #[.pointer (some ⟨s, 0, .none⟩), .int .i64 0]) ∧ w.heap.size ≤ s ∧ Sp w' s p (ad i) 0 ∧ ∃ B' L' F' lf', NS w w' p b m N B i L1 ft fr c B' L' F' lf' := by
  have hN := h.mem.n2
  have hfb := ad_b ft N hft.2.1 hN
  obtain ⟨ok, h1, c59⟩ := two_any h (ad ft) 2147483648 (by omega) (by omega)
  obtain rfl : ok = true := h1.2 ⟨⟨ft, hft.2.1, hft.2.2, rfl⟩, ⟨0, by have := h.mem.n1; omega, fun e => by have := (h.lt 0 e).1; omega, rfl⟩, by unfold ad; omega⟩
  have c25 := frames_any h.mem
  have n1 := h.mem.n1
  have hN0 : ((N : Int) == 0) = false := by simp; omega
  have HR : Hid (Ram w p b m N B (i :: L1)) := h
  have hp : p < w.heap.size := lt_of_cell h.mem.c0
  have hb : b < w.heap.size := lt_of_cell (h.mem.cb 0 (by omega))
  have hm : m < w.heap.size := h.mem.mlt
  have hlen : ¬ (((i :: L1).length : Int) < 3) := by simp only [List.length_cons]; omega
  clear h h1
  go_enter Tryz.func42, Tryz.ntmps42
  go_upto_region 5 with first | (go_at_call 64; refine c25.mono ?_; rintro _ w1 ⟨rfl, e1⟩; obtain rfl : w = w1 := e1.symm) | (go_at_call 76; refine c59.mono ?_; rintro _ w1 ⟨rfl, b1⟩; have H1 : Hid (Below w.heap.size w w1) := b1; clear b1)
  have c10 := count_ram (HR.out.below H1.out)
  generalize hg : (i :: L1).length = g at c10 hlen
  clear hg
  go_upto_region 7 with (go_at_call 30; refine c10.mono ?_; rintro _ w2 ⟨rfl, k2, rfl⟩)
  have H2 : Hid (Below w.heap.size w (w1.drewN k2)) := H1.out.trans ((below_dr w1 k2).mono H1.out.size)
  have c60 := newTable_sl (HR.out.below H2.out) hl ft hft fr c
  go_wp2_with (go_at_call 78; refine c60.mono ?_; rintro _ w3 ⟨rfl, B', L', F', lf', T⟩)
  refine bodyPost_ret (v := .tuple #[.pointer (some ⟨w3.heap.size, 0, .none⟩), .int .i64 0]) (by simp [results, Tryz.results42, go_sem]) rfl ⟨w3.heap.size, rfl, ?_, ?_, B', L', F', lf', ?_⟩
  · exact Nat.le_trans H2.out.size T.fra.size
  · exact ⟨by simp, by simp, by simp, fun k => World.frozen?_alloc_new _ _ _ _⟩
  · exact ⟨T.ram.below ((Below.refl _ _).alloc (Nat.le_refl _) _), T.sl, T.len, T.oth, (((Fra.below H2.out).trans T.fra)).alloc _⟩
/-- What made comes to. -/
def MdT (w : World) (n : Nat) (e : Ending) (w' : World) : Prop := ∃ s p b m B L F lf, e = .returned (.tuple #[.pointer (some ⟨p, 0, .none⟩), .pointer (some ⟨s, 0, .none⟩), .int .u64 (ad (n - 1))]) ∧ (w.heap.size ≤ s ∧ w.heap.size ≤ p ∧ w.heap.size ≤ b ∧ w.heap.size ≤ m) ∧
  SpT w' s p b m n (n - 2) 0 (n - 1) 0 B L F lf (fun _ => 0) (fun _ => 0) ∧ L.length + nodesF F + 3 = n ∧ Below w.heap.size w w'
set_option maxHeartbeats 1000000 in
theorem made_any (w : World) (n : Nat) (hn : 6 ≤ n ∧ n ≤ 4096) : Calls Tryz.prog 8 #[.int .i64 n] w (MdT w n) := by
  have c41 := new_any n (by omega) (by omega) w
  unfold NewP at c41
  obtain ⟨k, rfl⟩ : ∃ k, n = k + 3 := ⟨n - 3, by omega⟩
  have HE : Hid (3 ≤ k) := by show 3 ≤ k; omega
  go_enter Tryz.func8, Tryz.ntmps8
  go_wp2_with (go_at_call 41; refine c41.mono ?_; rintro e1 w1 ⟨p, b, m, hp, hb, hm, rfl, R1, b1⟩; have H1 : Hid (Ram w1 p b m (k + 3) (newB (k + 3 - 1)) (down (k + 3 - 1)) ∧ Below w.heap.size w w1) := ⟨R1, b1⟩; clear R1 b1)
  have hd : down (k + 3 - 1) = (k + 2) :: (k + 1) :: down k := rfl
  have R1 := H1.out.1
  rw [hd] at R1
  have c39 := alloc_some (k + 2) R1
  refine c39.mono ?_
  rintro e2 w2 ⟨rfl, R2, f2⟩
  have hft : 1 ≤ k + 2 ∧ k + 2 < k + 3 ∧ k + 2 ∉ (k + 1) :: down k := ⟨by omega, by omega, fun e => (List.mem_cons.1 e).elim (fun e => by omega) (fun e => by have := (down_mem _ _).1 e; omega)⟩
  have c42 := spNew_sl R2 (by rw [down_len]; have := HE.out; omega) (k + 2) hft (fun _ => 0) (fun _ => 0)
  have H2 : Hid (Ram w2 p b m (k + 3) (zer (newB (k + 3 - 1)) (k + 2)) ((k + 1) :: down k) ∧ Fra p b m w1 w2) := ⟨R2, f2⟩
  clear R1 R2 f2 hd c39 c41
  have ea : (2147483648 + ((k + 2 : Nat) : Int) * 4096 : Int) = ad (k + 2) := rfl
  rw [ea]
  go_wp2_with (go_at_call 42; refine c42.mono ?_; rintro e3 w3 ⟨s, rfl, hs, hsp, B', L', F', lf', T⟩; have H3 : Hid (Sp w3 s p (ad (k + 1)) 0 ∧ NS w2 w3 p b m (k + 3) (zer (newB (k + 3 - 1)) (k + 2)) (k + 1) (down k) (k + 2) (fun _ => 0) (fun _ => 0) B' L' F' lf') := ⟨hsp, T⟩; clear hsp T)
  refine bodyPost_ret (v := .tuple #[.pointer (some ⟨p, 0, .none⟩), .pointer (some ⟨s, 0, .none⟩), .int .u64 (ad (k + 2))]) (by simp [results, Tryz.results8, go_sem]) rfl ?_
  obtain ⟨R1, b1⟩ := H1.out
  obtain ⟨R2, f2⟩ := H2.out
  obtain ⟨hsp, T⟩ := H3.out
  have hpl := R2.mem.plt
  have hbl := R2.mem.blt
  have hml := R2.mem.mlt
  have z1 := b1.size
  have z2 := f2.size
  refine ⟨s, p, b, m, B', L', F', lf', rfl, ⟨by omega, hp, hb, hm⟩, ⟨hsp, by decide, by omega, T.ram, ⟨by omega, by omega, by omega⟩, T.sl⟩, ?_, ?_⟩
  · have e := T.len
    rw [down_len] at e
    have e2 := (SpL.nodes (P := 0) T.sl (by omega))
    have e3 : ndP ((0 : Nat) : Int) = 3 := rfl
    rw [e3] at e2
    omega
  · exact b1.trans ((f2.trans T.fra).toBelow z1 hp hb hm)
end
end Go.Proofs.YtblmkkhiojbcjaaGreat
namespace Go.Proofs.YtblmkkhiojbcjaaGreat
open Go Go.RowKit Fz
set_option linter.unusedVariables false
set_option linter.unusedSimpArgs false
section
variable {w : World} {s p b m N r P ft : Nat} {size : Int} {B : Nat → Int} {L : List Nat} {F : Nat → Option Nat} {lf : Nat → Nat → Int} {fr : Nat → Nat} {c : Nat → Int}
def ndO (x : Ev) : Option Int := if x.p.k = 3 then some (adE x.p.e) else none
/-- A node that is told is one. -/
theorem ndl_node (h : PT N L B F lf) (hN : N ≤ 4096) {cc : Nat} {a : Int} (hc : cc < 402653184) (ha : (ev F lf cc).bind ndO = some a) : ∃ x f, x ≠ 0 ∧ nK x = cc ∧ F x = some f ∧ a = ad f := by
  unfold ev at ha
  split at ha
  · next e =>
    split at ha
    · next e2 =>
      cases hf : F (x1 (cc / 3)) with
      | none => rw [hf] at ha; simp at ha
      | some g =>
        rw [hf] at ha
        simp only [Option.map_some, Option.bind_some, ndO, if_true, Option.some.injEq] at ha
        exact ⟨x1 (cc / 3), g, by unfold x1; omega, by rw [nK_1 _ (by omega)]; omega, hf, by rw [← ha, ptr_ad (h.held _ _ hf).2.1 hN]⟩
    · simp at ha
  · next e =>
    split at ha
    · next e1 =>
      split at ha
      · next e2 =>
        cases hf : F (x1 (cc / 3)) with
        | none => rw [hf] at ha; simp at ha
        | some g0 =>
          cases hg : F (x0 (cc / 3)) with
          | none => rw [hf, hg] at ha; simp at ha
          | some g =>
            rw [hf, hg] at ha
            simp only [Option.map_some, Option.bind_some, ndO, if_true, Option.some.injEq] at ha
            exact ⟨x0 (cc / 3), g, by unfold x0; omega, by rw [nK_0 _ (by omega)]; omega, hg, by rw [← ha, ptr_ad (h.held _ _ hg).2.1 hN]⟩
      · simp at ha
    · next e1 =>
      cases hf : F (x1 (cc / 3)) with
      | none => rw [hf] at ha; simp at ha
      | some g =>
        cases hg : F (x0 (cc / 3)) with
        | none => rw [hf, hg] at ha; simp at ha
        | some q =>
          rw [hf, hg] at ha
          simp only [Option.bind_some] at ha
          split at ha
          · simp at ha
          · simp [ndO] at ha
theorem ndl_eq (r : Nat) : ndl r (evs F lf 0) = ad r :: (List.range' 0 402653184).filterMap (fun cc => (ev F lf cc).bind ndO) := by
  unfold ndl evs
  rw [List.filterMap_filterMap]
  rfl
theorem ndl_mem (h : PT N L B F lf) (hN : N ≤ 4096) (hr : F 0 = some r) {a : Int} (ha : a ∈ ndl r (evs F lf 0)) : ∃ x f, F x = some f ∧ a = ad f := by
  rw [ndl_eq] at ha
  rcases List.mem_cons.1 ha with e | e
  · exact ⟨0, r, hr, e⟩
  · obtain ⟨cc, hc, hcc⟩ := List.mem_filterMap.1 e
    obtain ⟨x, f, _, _, h1, h2⟩ := ndl_node h hN (by have := List.mem_range'_1.1 hc; omega) hcc
    exact ⟨x, f, h1, h2⟩
theorem ndl_nodup (h : PT N L B F lf) (hN : N ≤ 4096) (hr : F 0 = some r) : (ndl r (evs F lf 0)).Nodup := by
  rw [ndl_eq]
  refine List.nodup_cons.2 ⟨fun hm => ?_, ?_⟩
  · obtain ⟨cc, hc, hcc⟩ := List.mem_filterMap.1 hm
    obtain ⟨x, f, h0, _, h1, h2⟩ := ndl_node h hN (by have := List.mem_range'_1.1 hc; omega) hcc
    have := ad_inj h2
    subst this
    exact h0 (h.inj x 0 r h1 hr)
  · unfold List.Nodup
    rw [List.pairwise_filterMap]
    refine List.Pairwise.imp_of_mem (R := fun a b => a ≠ b) (fun {a b} ha hb hab u hu v hv e => ?_) (List.nodup_range' ..)
    obtain ⟨x, f, _, e1, f1, a1⟩ := ndl_node h hN (by have := List.mem_range'_1.1 ha; omega) hu
    obtain ⟨y, g, _, e2, f2, a2⟩ := ndl_node h hN (by have := List.mem_range'_1.1 hb; omega) hv
    have hfg : f = g := ad_inj (by rw [← a1, ← a2, e])
    subst hfg
    have := h.inj x y f f1 f2
    subst this
    exact hab (e1.symm.trans e2)
/-- Nodes, sorted: they rise. -/
theorem sorted_lt {ys : List Int} (h1 : ys.Nodup) (h2 : ys.Pairwise (· ≤ ·)) : ys.Pairwise (· < ·) := (h1.and h2).imp (fun {a b} h => by have := h.1; have := h.2; omega)
theorem isFree_any (h : Ram w p b m N B L) (f : Nat) (hf : f < N ∧ f ∉ L) : Calls Tryz.prog 72 #[.pointer (some ⟨p, 0, .none⟩), .int .u64 (ad f)] w fun e w' => e = .returned (.bool false) ∧ Below w.heap.size w w' := by
  have hN := h.mem.n2
  have c64 := frames_any h.mem
  have c69 := isFrame_any (ad f) N (by unfold ad; omega) (by omega) (by omega) w
  have c70 := isHeld_any h.mem (ad f) (by unfold ad; omega)
  have e1 : isFr (ad f) N = true := isFr_addr f N hf.1
  have e2 : hdL N L (ad f) = true := by rw [show ad f = 2147483648 + f * 4096 from rfl, hdL_addr N L f hf.1]; simp [hf.2]
  rw [e1] at c69
  rw [e2] at c70
  clear h hf e1 e2
  generalize ad f = a at *
  go_enter Tryz.func72, Tryz.ntmps72
  go_wp2_with first | (go_at_call 64; refine c64.mono ?_; rintro _ w1 ⟨rfl, e1⟩; obtain rfl : w = w1 := e1.symm) | (go_at_call 69; refine c69.mono ?_; rintro _ w1 ⟨rfl, e1⟩; obtain rfl : w = w1 := e1.symm) | (go_at_call 70; refine c70.mono ?_; rintro _ w1 ⟨rfl, b1⟩; have H1 : Hid (Below w.heap.size w w1) := b1; clear b1)
  go_ret
  exact ⟨rfl, H1.out⟩
end
/-- Are all frames of a row held, unlike, and none of those that are barred? -/
structure Apt (N : Nat) (L : List Nat) (n n2 : Nat) (l l2 : Nat → Int) : Prop where
  held : ∀ i, i < n → ∃ f, l i = ad f ∧ f < N ∧ f ∉ L
  unl : ∀ i k, i < n → k < i → l k ≠ l i
  bar : ∀ i k, i < n → k < n2 → l2 k ≠ l i
set_option maxHeartbeats 2000000 in
theorem apart_any {w : World} {p b m N : Nat} {B : Nat → Int} {L : List Nat} (h : Ram w p b m N B L) {q q2 : Option Addr} {n n2 ca c2 : Nat} {l l2 : Nat → Int} (hs : See w .u64 q n l) (hs2 : See w .u64 q2 n2 l2) (hn : n ≤ 1000000000 ∧ n2 ≤ 1000000000) (hA : Apt N L n n2 l l2) :
    Calls Tryz.prog 37 #[.pointer (some ⟨p, 0, .none⟩), .slice q n ca, .slice q2 n2 c2] w fun e w' => e = .returned (.bool true) ∧ Below w.heap.size w w' := by
  have HR : Hid (Ram w p b m N B L ∧ See w .u64 q n l ∧ See w .u64 q2 n2 l2 ∧ Apt N L n n2 l l2) := ⟨h, hs, hs2, hA⟩
  clear h hs hs2 hA
  go_enter Tryz.func37, Tryz.ntmps37
  go_wp2_with fail
  go_loopw [7] (fun v wr => ∃ i : Nat, i ≤ n ∧ v = .int .i64 i ∧ Hid (Below w.heap.size w wr)) (fun v _ => (n - intOf v).toNat)
  case atStart => exact ⟨0, by omega, rfl, Below.refl _ _⟩
  case round =>
    obtain ⟨i, hi, rfl, HB⟩ := hrel
    by_cases hin : i < n
    · have hlt : (i : Int) < n := by omega
      have hbi : ¬ (n : Int) ≤ i := by omega
      have hpi : (0 : Int) ≤ i := by omega
      obtain ⟨f, hf1, hf2⟩ := HR.out.2.2.2.held i hin
      have hs := HR.out.2.1.below HB.out
      rcases hs with h | ⟨g, o, rfl, hg, hr⟩
      · omega
      have ki := hr i hin
      have c72 := isFree_any (HR.out.1.below HB.out) f hf2
      rw [← hf1] at c72
      have hmod : (l i).tmod 4096 = 0 := by rw [hf1]; unfold ad; rw [Int.tmod_eq_emod_of_nonneg (by omega)]; omega
      have HG : Hid (g < wr.heap.size ∧ ∀ i, i < n → wr.cell? ⟨g, o + i, .none⟩ = some (.int .u64 (l i))) := ⟨hg, hr⟩
      clear hf1 hf2 hr
      go_upto_region 6 with (go_at_call 72; refine c72.mono ?_; rintro _ w2 ⟨rfl, b2⟩; have ki2 := (b2.cell (p := ⟨g, o + i, .none⟩) hg).trans ki; have H2 : Hid (Below wr.heap.size wr w2) := b2; clear b2 c72)
      have HW2 : Hid (Below w.heap.size w w2) := HB.out.trans (H2.out.mono HB.out.size)
      clear ki ki2
      go_wp2_with fail
      go_loopw [8] (fun v wk => ∃ k : Nat, k ≤ i ∧ v = .int .i64 k ∧ Hid (Below w2.heap.size w2 wk)) (fun v _ => (i - intOf v).toNat)
      case atStart => exact ⟨0, by omega, rfl, Below.refl _ _⟩
      case round =>
        obtain ⟨k, hk, rfl, HK⟩ := hrel
        have HZ : Hid (∀ j, j < n → wr.cell? ⟨g, o + j, .none⟩ = some (.int .u64 (l j))) := fun j hj => by
          have hb2 := H2.out
          exact (HK.out.cell (p := ⟨g, o + j, .none⟩) (Nat.lt_of_lt_of_le hg hb2.size)).trans ((hb2.cell (p := ⟨g, o + j, .none⟩) hg).trans (HG.out.2 j hj))
        by_cases hki : k < i
        · have hlt2 : (k : Int) < i := by omega
          have hbk : ¬ (n : Int) ≤ k := by omega
          have hpk : (0 : Int) ≤ k := by omega
          have hbk2 : ¬ n ≤ k := by omega
          have hbi2 : ¬ n ≤ i := by omega
          have hne : (l k == l i) = false := by simpa using HR.out.2.2.2.unl i k hin hki
          have kk : wr.drew.cell? ⟨g, o + k, .none⟩ = some (.int .u64 (l k)) := HZ.out k (by omega)
          have ki : wr.drew.cell? ⟨g, o + i, .none⟩ = some (.int .u64 (l i)) := HZ.out i hin
          go_upto_region 9 with fail
          refine wp_region_held_drew (S := (fun U => U.cell? ⟨g, o + k, .none⟩ = some (.int .u64 (l k)) ∧ U.cell? ⟨g, o + i, .none⟩ = some (.int .u64 (l i)))) (by kernel_rfl) ⟨kk, ki⟩ (fun hHeld => ?_)
          refine wpAnyH_take (i := 0) (v := (.slice (some ⟨g, o, .none⟩) n ca)) rfl (by kernel_rfl) (by kernel_rfl) (by kernel_rfl) (fun _ _ _ h => h) (Or.inl ⟨by rfl, fun ww hSw => by (try dsimp only at hSw); go_simp⟩) (by assumption) ?_
          simp only [Act.put, List.setIfInBounds_toArray, List.set_cons_zero, List.set_cons_succ, List.getElem_toArray, List.getElem_cons_succ, List.getElem_cons_zero]
          refine wpAnyH_take (i := 1) (v := (.int .i64 k)) rfl (by kernel_rfl) (by kernel_rfl) (by kernel_rfl) (fun _ _ _ h => h) (Or.inl ⟨by rfl, fun ww hSw => by (try dsimp only at hSw); go_simp⟩) (by assumption) ?_
          simp only [Act.put, List.setIfInBounds_toArray, List.set_cons_zero, List.set_cons_succ, List.getElem_toArray, List.getElem_cons_succ, List.getElem_cons_zero]
          refine wpAnyH_take (i := 2) (v := (.pointer (some ⟨g, o + k, .none⟩))) rfl (by kernel_rfl) (by kernel_rfl) (by kernel_rfl) (fun _ _ _ h => h) (Or.inl ⟨by rfl, fun ww hSw => by (try dsimp only at hSw); go_simp⟩) (by assumption) ?_
          simp only [Act.put, List.setIfInBounds_toArray, List.set_cons_zero, List.set_cons_succ, List.getElem_toArray, List.getElem_cons_succ, List.getElem_cons_zero]
          refine wpAnyH_take (i := 3) (v := (.int .u64 (l k))) rfl (by kernel_rfl) (by kernel_rfl) (by kernel_rfl) (fun _ _ _ h => h) (Or.inl ⟨by rfl, fun ww hSw => by (try dsimp only at hSw); go_simp⟩) (by assumption) ?_
          simp only [Act.put, List.setIfInBounds_toArray, List.set_cons_zero, List.set_cons_succ, List.getElem_toArray, List.getElem_cons_succ, List.getElem_cons_zero]
          refine wpAnyH_take (i := 4) (v := (.slice (some ⟨g, o, .none⟩) n ca)) rfl (by kernel_rfl) (by kernel_rfl) (by kernel_rfl) (fun _ _ _ h => h) (Or.inl ⟨by rfl, fun ww hSw => by (try dsimp only at hSw); go_simp⟩) (by assumption) ?_
          simp only [Act.put, List.setIfInBounds_toArray, List.set_cons_zero, List.set_cons_succ, List.getElem_toArray, List.getElem_cons_succ, List.getElem_cons_zero]
          refine wpAnyH_take (i := 5) (v := (.int .i64 i)) rfl (by kernel_rfl) (by kernel_rfl) (by kernel_rfl) (fun _ _ _ h => h) (Or.inl ⟨by rfl, fun ww hSw => by (try dsimp only at hSw); go_simp⟩) (by assumption) ?_
          simp only [Act.put, List.setIfInBounds_toArray, List.set_cons_zero, List.set_cons_succ, List.getElem_toArray, List.getElem_cons_succ, List.getElem_cons_zero]
          refine wpAnyH_take (i := 6) (v := (.pointer (some ⟨g, o + i, .none⟩))) rfl (by kernel_rfl) (by kernel_rfl) (by kernel_rfl) (fun _ _ _ h => h) (Or.inl ⟨by rfl, fun ww hSw => by (try dsimp only at hSw); go_simp⟩) (by assumption) ?_
          simp only [Act.put, List.setIfInBounds_toArray, List.set_cons_zero, List.set_cons_succ, List.getElem_toArray, List.getElem_cons_succ, List.getElem_cons_zero]
          refine wpAnyH_take (i := 7) (v := (.int .u64 (l i))) rfl (by kernel_rfl) (by kernel_rfl) (by kernel_rfl) (fun _ _ _ h => h) (Or.inl ⟨by rfl, fun ww hSw => by (try dsimp only at hSw); go_simp⟩) (by assumption) ?_
          simp only [Act.put, List.setIfInBounds_toArray, List.set_cons_zero, List.set_cons_succ, List.getElem_toArray, List.getElem_cons_succ, List.getElem_cons_zero]
          refine wpAnyH_take (i := 8) (v := (.bool false)) rfl (by kernel_rfl) (by kernel_rfl) (by kernel_rfl) (fun _ _ _ h => h) (Or.inl ⟨by rfl, fun ww hSw => by (try dsimp only at hSw); go_simp⟩) (by assumption) ?_
          simp only [Act.put, List.setIfInBounds_toArray, List.set_cons_zero, List.set_cons_succ, List.getElem_toArray, List.getElem_cons_succ, List.getElem_cons_zero]
          refine wpAnyH_done (by kernel_rfl) ?_ _
          go_wp2_with fail
          exact ⟨⟨k + 1, by omega, by simp, HK.out.drew⟩, by simp only [intOf]; omega⟩
        · have hlt2 : ¬ (k : Int) < i := by omega
          have HW3 : Hid (Below w.heap.size w wr) := HW2.out.trans (HK.out.mono HW2.out.size)
          have HZ3 := HZ
          have hg3 : Hid (g < wr.heap.size) := Nat.lt_of_lt_of_le hg (Nat.le_trans H2.out.size HK.out.size)
          clear HZ
          go_wp2_with fail
          go_loopw [9] (fun v wk => ∃ k : Nat, k ≤ n2 ∧ v = .int .i64 k ∧ Hid (Below wr.heap.size wr wk)) (fun v _ => (n2 - intOf v).toNat)
          case atStart => exact ⟨0, by omega, rfl, Below.refl _ _⟩
          case round =>
            obtain ⟨k, hk, rfl, HK4⟩ := hrel
            by_cases hkn : k < n2
            · have hlt3 : (k : Int) < n2 := by omega
              have hs2 := HR.out.2.2.1.below HW3.out
              rcases hs2 with h | ⟨g2, o2, rfl, hg2, hr2⟩
              · omega
              have hbk : ¬ (n2 : Int) ≤ k := by omega
              have hpk : (0 : Int) ≤ k := by omega
              have hbk2 : ¬ n2 ≤ k := by omega
              have hbi2 : ¬ n ≤ i := by omega
              have hne : (l2 k == l i) = false := by simpa using HR.out.2.2.2.bar i k hin hkn
              have kk : wr.drew.cell? ⟨g2, o2 + k, .none⟩ = some (.int .u64 (l2 k)) := (HK4.out.cell (p := ⟨g2, o2 + k, .none⟩) hg2).trans (hr2 k hkn)
              have ki : wr.drew.cell? ⟨g, o + i, .none⟩ = some (.int .u64 (l i)) := (HK4.out.cell (p := ⟨g, o + i, .none⟩) hg3.out).trans (HZ3.out i hin)
              clear hr2
              go_upto_region 14 with fail
              refine wp_region_held_drew (S := (fun U => U.cell? ⟨g2, o2 + k, .none⟩ = some (.int .u64 (l2 k)) ∧ U.cell? ⟨g, o + i, .none⟩ = some (.int .u64 (l i)))) (by kernel_rfl) ⟨kk, ki⟩ (fun hHeld => ?_)
              refine wpAnyH_take (i := 0) (v := (.slice (some ⟨g2, o2, .none⟩) n2 c2)) rfl (by kernel_rfl) (by kernel_rfl) (by kernel_rfl) (fun _ _ _ h => h) (Or.inl ⟨by rfl, fun ww hSw => by (try dsimp only at hSw); go_simp⟩) (by assumption) ?_
              simp only [Act.put, List.setIfInBounds_toArray, List.set_cons_zero, List.set_cons_succ, List.getElem_toArray, List.getElem_cons_succ, List.getElem_cons_zero]
              refine wpAnyH_take (i := 1) (v := (.int .i64 k)) rfl (by kernel_rfl) (by kernel_rfl) (by kernel_rfl) (fun _ _ _ h => h) (Or.inl ⟨by rfl, fun ww hSw => by (try dsimp only at hSw); go_simp⟩) (by assumption) ?_
              simp only [Act.put, List.setIfInBounds_toArray, List.set_cons_zero, List.set_cons_succ, List.getElem_toArray, List.getElem_cons_succ, List.getElem_cons_zero]
              refine wpAnyH_take (i := 2) (v := (.pointer (some ⟨g2, o2 + k, .none⟩))) rfl (by kernel_rfl) (by kernel_rfl) (by kernel_rfl) (fun _ _ _ h => h) (Or.inl ⟨by rfl, fun ww hSw => by (try dsimp only at hSw); go_simp⟩) (by assumption) ?_
              simp only [Act.put, List.setIfInBounds_toArray, List.set_cons_zero, List.set_cons_succ, List.getElem_toArray, List.getElem_cons_succ, List.getElem_cons_zero]
              refine wpAnyH_take (i := 3) (v := (.int .u64 (l2 k))) rfl (by kernel_rfl) (by kernel_rfl) (by kernel_rfl) (fun _ _ _ h => h) (Or.inl ⟨by rfl, fun ww hSw => by (try dsimp only at hSw); go_simp⟩) (by assumption) ?_
              simp only [Act.put, List.setIfInBounds_toArray, List.set_cons_zero, List.set_cons_succ, List.getElem_toArray, List.getElem_cons_succ, List.getElem_cons_zero]
              refine wpAnyH_take (i := 4) (v := (.slice (some ⟨g, o, .none⟩) n ca)) rfl (by kernel_rfl) (by kernel_rfl) (by kernel_rfl) (fun _ _ _ h => h) (Or.inl ⟨by rfl, fun ww hSw => by (try dsimp only at hSw); go_simp⟩) (by assumption) ?_
              simp only [Act.put, List.setIfInBounds_toArray, List.set_cons_zero, List.set_cons_succ, List.getElem_toArray, List.getElem_cons_succ, List.getElem_cons_zero]
              refine wpAnyH_take (i := 5) (v := (.int .i64 i)) rfl (by kernel_rfl) (by kernel_rfl) (by kernel_rfl) (fun _ _ _ h => h) (Or.inl ⟨by rfl, fun ww hSw => by (try dsimp only at hSw); go_simp⟩) (by assumption) ?_
              simp only [Act.put, List.setIfInBounds_toArray, List.set_cons_zero, List.set_cons_succ, List.getElem_toArray, List.getElem_cons_succ, List.getElem_cons_zero]
              refine wpAnyH_take (i := 6) (v := (.pointer (some ⟨g, o + i, .none⟩))) rfl (by kernel_rfl) (by kernel_rfl) (by kernel_rfl) (fun _ _ _ h => h) (Or.inl ⟨by rfl, fun ww hSw => by (try dsimp only at hSw); go_simp⟩) (by assumption) ?_
              simp only [Act.put, List.setIfInBounds_toArray, List.set_cons_zero, List.set_cons_succ, List.getElem_toArray, List.getElem_cons_succ, List.getElem_cons_zero]
              refine wpAnyH_take (i := 7) (v := (.int .u64 (l i))) rfl (by kernel_rfl) (by kernel_rfl) (by kernel_rfl) (fun _ _ _ h => h) (Or.inl ⟨by rfl, fun ww hSw => by (try dsimp only at hSw); go_simp⟩) (by assumption) ?_
              simp only [Act.put, List.setIfInBounds_toArray, List.set_cons_zero, List.set_cons_succ, List.getElem_toArray, List.getElem_cons_succ, List.getElem_cons_zero]
              refine wpAnyH_take (i := 8) (v := (.bool false)) rfl (by kernel_rfl) (by kernel_rfl) (by kernel_rfl) (fun _ _ _ h => h) (Or.inl ⟨by rfl, fun ww hSw => by (try dsimp only at hSw); go_simp⟩) (by assumption) ?_
              simp only [Act.put, List.setIfInBounds_toArray, List.set_cons_zero, List.set_cons_succ, List.getElem_toArray, List.getElem_cons_succ, List.getElem_cons_zero]
              refine wpAnyH_done (by kernel_rfl) ?_ _
              go_wp2_with fail
              exact ⟨⟨k + 1, by omega, by simp, HK4.out.drew⟩, by simp only [intOf]; omega⟩
            · have hlt3 : ¬ (k : Int) < n2 := by omega
              go_wp2_with fail
              exact ⟨⟨i + 1, by omega, by simp, HW3.out.trans (HK4.out.mono HW3.out.size)⟩, by simp only [intOf]; omega⟩
    · have hlt : ¬ (i : Int) < n := by omega
      go_wp2_with fail
      go_ret
      exact ⟨rfl, HB.out⟩
end Go.Proofs.YtblmkkhiojbcjaaGreat
