import Derived.Test.YtblmkkhiojbcjaaGreatYc
namespace Go.Proofs.YtblmkkhiojbcjaaGreat
open Go.RowKit
set_option linter.unusedVariables false
set_option linter.unusedSimpArgs false
/-- Of a new table: one of its own, and what it took. -/
structure NT (w w' : World) (p b m N : Nat) (B : Nat → Int) (i : Nat) (L1 : List Nat) (B' : Nat → Int) (L' : List Nat) (F' : Nat → Option Nat) (lf' : Nat → Nat → Int) : Prop where
  ram : Ram w' p b m N B' L'
  pt : PT N L' B' F' lf'
  rt : F' 0 = some i
  ids : ∀ x f, F' x = some f → x = 0 ∨ x = y1 274877898752 ∨ x = y0 274877898752
  own : ∀ x f, F' x = some f → f ∈ i :: L1
  lfs : ∀ y k, y ≠ y0 274877898752 → lf' y k = 0
  cut : L1 = L1.take 2 ++ L'
  byt : ∀ f, f ∉ i :: L1 → ∀ k, k < 4096 → B' (f * 4096 + k) = B (f * 4096 + k)
  fra : Fra p b m w w'
theorem tt_y1 : y1 274877902848 = y1 274877898752 := by decide
theorem tt_y0 : y0 274877902848 = y0 274877898752 := by decide
theorem tt_i0 : i0 274877902848 ≠ i0 274877898752 := by decide
theorem perm198 : (!ho 198 18446744073709551361 && ho 198 10 && (!hs 198 4 || hs 198 2)) = true := by decide
theorem perm74 : (!ho 74 18446744073709551361 && ho 74 10 && (!hs 74 4 || hs 74 2)) = true := by decide
theorem leaf_b (pa c : Int) (hp : 0 ≤ pa ∧ pa % 4096 = 0 ∧ pa < 72057594037927936) (hc : 0 ≤ c ∧ c < 256) (he : c % 2 = 0) (h4 : ((c + 1).toNat &&& 4 = 4) → ((c + 1).toNat &&& 2 = 2)) (h10 : (c + 1).toNat &&& 10 ≠ 0) : kd (toP pa c) 0 = 2 ∧ 0 ≤ toP pa c ∧ toP pa c < 18446744073709551616 := by
  refine ⟨kd_leaf pa c ⟨hp.1, hp.2.2⟩ hp.2.1 hc he ?_ ?_, ?_⟩
  · have e4 : hs (toP pa c) 4 = ((((c + 1).toNat &&& 4 : Nat) : Int) == ((4 : Nat) : Int)) := hs_toP pa c ⟨hp.1, hp.2.2⟩ (by omega) he 4 (by omega)
    have e2 : hs (toP pa c) 2 = ((((c + 1).toNat &&& 2 : Nat) : Int) == ((2 : Nat) : Int)) := hs_toP pa c ⟨hp.1, hp.2.2⟩ (by omega) he 2 (by omega)
    rw [e4, e2]
    intro h
    have h1 : (c + 1).toNat &&& 4 = 4 := Int.ofNat.inj (beq_iff_eq.1 h)
    exact beq_iff_eq.2 (congrArg Int.ofNat (h4 h1))
  · have e10 : ho (toP pa c) 10 = ((((c + 1).toNat &&& 10 : Nat) : Int) != 0) := ho_toP pa c ⟨hp.1, hp.2.2⟩ (by omega) he 10 (by omega)
    rw [e10]
    simp only [bne_iff_ne, ne_eq]
    intro h
    exact h10 (Int.ofNat.inj h)
  · rw [toP_val pa c ⟨hp.1, hp.2.2⟩ (by omega) he]
    omega
/-- Two cells. -/
structure C2w (w : World) (x : Nat) (a b : Value) : Prop where
  a : w.cell? ⟨x, 0, .none⟩ = some a
  b : w.cell? ⟨x, 1, .none⟩ = some b
  f : ∀ k, w.frozen? ⟨x, k, .none⟩ = false
theorem C2w.fra {w w' : World} {x p b m : Nat} {u v : Value} (h : C2w w x u v) (f : Fra p b m w w') (h1 : x ≠ p) (h2 : x ≠ b) (h3 : x ≠ m) : C2w w' x u v :=
  have hl : x < w.heap.size := lt_of_cell h.a
  ⟨(f.cell (x := ⟨x, 0, .none⟩) hl h1 h2 h3).trans h.a, (f.cell (x := ⟨x, 1, .none⟩) hl h1 h2 h3).trans h.b, fun k => (f.frozen (x := ⟨x, k, .none⟩) hl h1 h2 h3).trans (h.f k)⟩
section
variable {w : World} {p b m N : Nat} {B : Nat → Int}
set_option maxHeartbeats 1000000 in
theorem newTable_any {i : Nat} {L1 : List Nat} (h : Ram w p b m N B (i :: L1)) (hl : 2 ≤ L1.length) (ft : Nat) (hft : ft < N) :
    Calls Tryz.prog 78 #[.pointer (some ⟨p, 0, .none⟩), .int .u64 (ad ft), .int .u64 2147483648] w fun e w' => e = .returned (.agg #[.pointer (some ⟨p, 0, .none⟩), .int .u64 (ad i)]) ∧ ∃ B' L' F' lf', NT w w' p b m N B i L1 B' L' F' lf' := by
  have hN := h.mem.n2
  have hi := h.lt i (List.mem_cons_self ..)
  have hnd := List.nodup_cons.1 h.nd
  have hil : i ∉ L1 := hnd.1
  have hfb := ad_b ft N hft hN
  obtain ⟨w1, hw1⟩ : ∃ w1, w1 = w.alloc (.cells #[.pointer .none, .int .u64 0] 77) := ⟨_, rfl⟩
  have b1 : Below w.heap.size w w1 := by rw [hw1]; exact (Below.refl _ _).alloc (Nat.le_refl _) _
  have k0 : w1.cell? ⟨w.heap.size, 0, .none⟩ = some (.pointer .none) := by rw [hw1]; simp
  have k1 : w1.cell? ⟨w.heap.size, 1, .none⟩ = some (.int .u64 0) := by rw [hw1]; simp
  have kf : ∀ k, w1.frozen? ⟨w.heap.size, k, .none⟩ = false := fun k => by rw [hw1]; exact World.frozen?_alloc_new _ _ _ _
  have hp : p < w.heap.size := lt_of_cell h.mem.c0
  have hb : b < w.heap.size := lt_of_cell (h.mem.cb 0 (by have := h.mem.n1; omega))
  have hm : m < w.heap.size := h.mem.mlt
  have c106 := new_some i (h.below b1)
  have P0 : PT N L1 (zer B i) (fun x => if x = 0 then some i else none) (fun _ _ => 0) := PT.initY hi hil
  have HW : Hid (Below w.heap.size w w1 ∧ C2w w1 w.heap.size (.pointer .none) (.int .u64 0)) := ⟨b1, k0, k1, kf⟩
  have HP0 : Hid (PT N L1 (zer B i) (fun x => if x = 0 then some i else none) (fun _ _ => 0)) := P0
  have z1 : w1.heap.size = w.heap.size + 1 := by rw [hw1]; simp
  have HL : Hid (i ∉ L1) := hil
  clear h P0 b1 k0 k1 kf hnd hil
  go_enter Tryz.func78, Tryz.ntmps78
  go_upto_region 1 with fail
  rw [← hw1]
  clear hw1
  go_upto_region 2 with (go_at_call 109; refine c106.mono ?_; rintro _ w2 ⟨rfl, r2, f2⟩; have H2 : Hid (Ram w2 p b m N (zer B i) L1 ∧ Fra p b m w1 w2) := ⟨r2, f2⟩; clear r2 f2 c106)
  have c1 := map_pt H2.out.1 HP0.out (r := i) rfl 274877898752 (ad ft) 198 (by omega) (by omega) ⟨hfb.1, hfb.2.2, hfb.2.1⟩ perm198 (leaf_b _ _ ⟨hfb.1, hfb.2.2, hfb.2.1⟩ (by omega) (by omega) (by decide) (by decide)) rfl (by
    have : needY (fun x => if x = 0 then some i else none) 274877898752 = 2 := by
      unfold needY
      have : y1 274877898752 ≠ 0 := by have := y1_le 274877898752; omega
      simp [this]
    omega)
  go_wp2_with fail
  refine c1.mono ?_
  rintro _ w3 ⟨rfl, B1, L2, F1, R1, e1, r3, f3⟩
  have hn2 : needY (fun x => if x = 0 then some i else none) 274877898752 = 2 := by
    unfold needY
    have : y1 274877898752 ≠ 0 := by have := y1_le 274877898752; omega
    simp [this]
  rw [hn2] at e1
  have H3 : Hid (LP N 274877898752 (toP (ad ft) 198) L1 (zer B i) (fun x => if x = 0 then some i else none) (fun _ _ => 0) L2 B1 F1 ∧ L1 = L1.take 2 ++ L2 ∧ Ram w3 p b m N B1 L2 ∧ Fra p b m w1 w3) := ⟨R1, e1, r3, H2.out.2.trans f3⟩
  clear R1 e1 r3 f3 c1 H2 hn2
  have hF1 : F1 0 = some i := H3.out.1.ext 0 i rfl
  have hz0 : ad 0 = 2147483648 := rfl
  have c2 := map_pt H3.out.2.2.1 H3.out.1.pt (r := i) hF1 274877902848 (ad 0) 74 (by omega) (by omega) ⟨by decide, by decide, by decide⟩ perm74 (leaf_b _ _ ⟨by decide, by decide, by decide⟩ (by omega) (by omega) (by decide) (by decide)) (by
    unfold setE
    rw [if_neg (fun e => tt_i0 e.2)]) (by
    obtain ⟨g, q, h1, h2⟩ := H3.out.1.has
    unfold needY
    rw [tt_y1, tt_y0, h1, h2]
    simp)
  have HF1 : Hid (F1 0 = some i) := hF1
  rw [hz0] at c2
  clear hz0 hF1
  go_wp2_with fail
  refine c2.mono ?_
  rintro _ w4 ⟨rfl, B2, L3, F2, R2, e2, r4, f4⟩
  have hn2 : needY F1 274877902848 = 0 := by
    obtain ⟨g, q, h1, h2⟩ := H3.out.1.has
    unfold needY
    rw [tt_y1, tt_y0, h1, h2]
    simp
  rw [hn2, List.take_zero, List.nil_append] at e2
  have HR2 : Hid (LP N 274877902848 (toP 2147483648 74) L2 B1 F1 (setE (fun _ _ => 0) (y0 274877898752) (i0 274877898752) (toP (ad ft) 198)) L3 B2 F2) := R2
  have H4 : Hid (L2 = L3 ∧ Ram w4 p b m N B2 L3 ∧ Fra p b m w1 w4) := ⟨e2, r4, H3.out.2.2.2.trans f4⟩
  have k4 := HW.out.2.fra H4.out.2.2 (by omega) (by omega) (by omega)
  have k0 := k4.a
  have k1 := k4.b
  have kf0 := k4.f 0
  have kf1 := k4.f 1
  clear R2 e2 r4 f4 c2 hn2
  go_wp2_with fail
  have s0 : ((w4.setCell ⟨w.heap.size, 0, .none⟩ (.pointer (some ⟨p, 0, .none⟩))).setCell ⟨w.heap.size, 1, .none⟩ (.int .u64 (2147483648 + (i : Int) * 4096))).cell? ⟨w.heap.size, 0, .none⟩ = some (.pointer (some ⟨p, 0, .none⟩)) := by
    rw [World.cell?_setCell_other _ _ _ _ (by simp)]
    exact World.cell?_setCell_same' _ _ _ (by rw [k0]; rfl)
  have s1 : ((w4.setCell ⟨w.heap.size, 0, .none⟩ (.pointer (some ⟨p, 0, .none⟩))).setCell ⟨w.heap.size, 1, .none⟩ (.int .u64 (2147483648 + (i : Int) * 4096))).cell? ⟨w.heap.size, 1, .none⟩ = some (.int .u64 (2147483648 + (i : Int) * 4096)) := World.cell?_setCell_same' _ _ _ (by rw [World.cell?_setCell_other _ _ _ _ (by simp), k1]; rfl)
  have own1 : ∀ x f, F1 x = some f → f ∈ i :: L1 ∧ (x = 0 ∨ x = y1 274877898752 ∨ x = y0 274877898752) := fun x f hf => by
    rcases H3.out.1.new x f hf with e | ⟨e1, _, e2⟩
    · by_cases hx : x = 0
      · simp only [hx, if_true, Option.some.injEq] at e
        exact ⟨by rw [← e]; exact List.mem_cons_self .., .inl hx⟩
      · simp [hx] at e
    · exact ⟨List.mem_cons_of_mem _ e1, .inr e2⟩
  have own2 : ∀ x f, F2 x = some f → f ∈ i :: L1 ∧ (x = 0 ∨ x = y1 274877898752 ∨ x = y0 274877898752) := fun x f hf => by
    rcases HR2.out.new x f hf with e | ⟨e1, _, e2⟩
    · exact own1 x f e
    · rw [tt_y1, tt_y0] at e2
      exact ⟨List.mem_cons_of_mem _ (H3.out.1.sub f e1), .inr e2⟩
  refine bodyPost_ret (v := .agg #[.pointer (some ⟨p, 0, .none⟩), .int .u64 (2147483648 + (i : Int) * 4096)]) (by simp [results, Tryz.results78, go_sem, s0, s1]) rfl ⟨rfl, B2, L3, F2, _, ?_, HR2.out.pt, HR2.out.ext 0 i HF1.out, fun x f hf => (own2 x f hf).2, fun x f hf => (own2 x f hf).1, fun y k hy => ?_, by rw [← H4.out.1]; exact H3.out.2.1, fun f hf k hk => ?_, ?_⟩
  · exact (H4.out.2.1.beside ⟨w.heap.size, 0, .none⟩ _ (by show p ≠ w.heap.size; omega) (by show b ≠ w.heap.size; omega) (by show m ≠ w.heap.size; omega)).beside ⟨w.heap.size, 1, .none⟩ _ (by show p ≠ w.heap.size; omega) (by show b ≠ w.heap.size; omega) (by show m ≠ w.heap.size; omega)
  · unfold setE
    rw [if_neg (fun e => hy (by rw [← tt_y0]; exact e.1)), if_neg (fun e => hy e.1)]
  · rw [HR2.out.byt f (fun x hx => hf (own2 x f hx).1) k hk, H3.out.1.byt f (fun x hx => hf (own1 x f hx).1) k hk]
    have hfi : f ≠ i := fun e => hf (by rw [e]; exact List.mem_cons_self ..)
    exact zer_out _ _ _ (by rcases Nat.lt_or_gt_of_ne hfi with h | h <;> omega)
  · exact (((Fra.below HW.out.1).trans H4.out.2.2).beside ⟨w.heap.size, 0, .none⟩ _ (Nat.le_refl _)).beside ⟨w.heap.size, 1, .none⟩ _ (Nat.le_refl _)
end
end Go.Proofs.YtblmkkhiojbcjaaGreat
namespace Go.Proofs.YtblmkkhiojbcjaaGreat
open Go.RowKit
set_option linter.unusedVariables false
set_option linter.unusedSimpArgs false
section
variable {w : World} {p b m N : Nat} {B : Nat → Int} {L : List Nat}
theorem len_le (h : Ram w p b m N B L) : L.length < N := length_le N L h.mem.n1 h.nd h.lt
theorem count_ram (h : Ram w p b m N B L) : Calls Tryz.prog 30 #[.pointer (some ⟨p, 0, .none⟩)] w fun e w' => e = .returned (.int .i64 L.length) ∧ ∃ k, w' = w.drewN k := by
  have h1 := len_le h
  refine (count_any h.mem (by omega)).mono fun e w' ⟨h2, h3⟩ => ⟨?_, h3⟩
  rw [h2]
  refine congrArg Ending.returned (congrArg (Value.int .i64) ?_)
  omega
theorem below_dr (w : World) (k : Nat) : Below w.heap.size w (w.drewN k) := ⟨rfl, rfl, rfl, Nat.le_refl _, fun _ _ => rfl⟩
/-- New, refused for its frames. -/
theorem spNew_no (h : Ram w p b m N B L) (tr : Int) (ht : 0 ≤ tr ∧ tr < 18446744073709551616) (hno : ¬ (isHd N L tr ∧ isHd N L 2147483648 ∧ tr ≠ 2147483648)) :
    Calls Tryz.prog 42 #[.pointer (some ⟨p, 0, .none⟩), .int .u64 tr, .int .u64 2147483648] w fun e w' => e = .returned (.tuple #[.pointer .none, .int .i64 160]) ∧ Below w.heap.size w w' := by
  obtain ⟨ok, h1, c59⟩ := two_any h tr 2147483648 ht (by omega)
  obtain rfl : ok = false := by
    cases ok
    · rfl
    · exact absurd (h1.1 rfl) hno
  have c25 := frames_any h.mem
  have n1 := h.mem.n1
  have hN0 : ((N : Int) == 0) = false := by simp; omega
  clear h h1 hno
  go_enter Tryz.func42, Tryz.ntmps42
  go_wp2_with first | (go_at_call 64; refine c25.mono ?_; rintro _ w1 ⟨rfl, e1⟩; obtain rfl : w = w1 := e1.symm) | (go_at_call 76; refine c59.mono ?_; rintro _ w1 ⟨rfl, b1⟩)
  refine bodyPost_ret (v := .tuple #[.pointer .none, .int .i64 160]) (by simp [results, Tryz.results42, go_sem]) rfl ⟨rfl, b1⟩
set_option maxHeartbeats 1000000 in
theorem spNew_ok {i : Nat} {L1 : List Nat} (h : Ram w p b m N B (i :: L1)) (hl : 2 ≤ L1.length) (ft : Nat) (hft : 1 ≤ ft ∧ ft < N ∧ ft ∉ i :: L1) :
    Calls Tryz.prog 42 #[.pointer (some ⟨p, 0, .none⟩), .int .u64 (ad ft), .int .u64 2147483648] w fun e w' => ∃ s, e = .returned (.tuple #[.pointer (some ⟨s, 0, .none⟩), .int .i64 0]) ∧ w.heap.size ≤ s ∧ Sp w' s p (ad i) 0 ∧ ∃ B' L' F' lf', NT w w' p b m N B i L1 B' L' F' lf' := by
  have hN := h.mem.n2
  have hfb := ad_b ft N hft.2.1 hN
  obtain ⟨ok, h1, c59⟩ := two_any h (ad ft) 2147483648 (by omega) (by omega)
  obtain rfl : ok = true := h1.2 ⟨⟨ft, hft.2.1, hft.2.2, rfl⟩, ⟨0, by have := h.mem.n1; omega, fun e => by have := (h.lt 0 e).1; omega, rfl⟩, by unfold ad; omega⟩
  have c25 := frames_any h.mem
  have n1 := h.mem.n1
  have hN0 : ((N : Int) == 0) = false := by simp; omega
  have HR : Hid (Ram w p b m N B (i :: L1)) := h
  have hp : p < w.heap.size := lt_of_cell h.mem.c0
  have hb : b < w.heap.size := lt_of_cell (h.mem.cb 0 (by omega))
  have hm : m < w.heap.size := h.mem.mlt
  have hlen : ¬ (((i :: L1).length : Int) < 3) := by simp only [List.length_cons]; omega
  clear h h1
  go_enter Tryz.func42, Tryz.ntmps42
  go_upto_region 5 with first | (go_at_call 64; refine c25.mono ?_; rintro _ w1 ⟨rfl, e1⟩; obtain rfl : w = w1 := e1.symm) | (go_at_call 76; refine c59.mono ?_; rintro _ w1 ⟨rfl, b1⟩; have H1 : Hid (Below w.heap.size w w1) := b1; clear b1)
  have c10 := count_ram (HR.out.below H1.out)
  generalize hg : (i :: L1).length = g at c10 hlen
  clear hg
  go_upto_region 7 with (go_at_call 30; refine c10.mono ?_; rintro _ w2 ⟨rfl, k2, rfl⟩)
  have H2 : Hid (Below w.heap.size w (w1.drewN k2)) := H1.out.trans ((below_dr w1 k2).mono H1.out.size)
  have c60 := newTable_any (HR.out.below H2.out) hl ft hft.2.1
  go_wp2_with (go_at_call 78; refine c60.mono ?_; rintro _ w3 ⟨rfl, B', L', F', lf', T⟩)
  refine bodyPost_ret (v := .tuple #[.pointer (some ⟨w3.heap.size, 0, .none⟩), .int .i64 0]) (by simp [results, Tryz.results42, go_sem]) rfl ⟨w3.heap.size, rfl, ?_, ?_, B', L', F', lf', ?_⟩
  · exact Nat.le_trans H2.out.size T.fra.size
  · exact ⟨by simp, by simp, by simp, fun k => World.frozen?_alloc_new _ _ _ _⟩
  · exact ⟨T.ram.below ((Below.refl _ _).alloc (Nat.le_refl _) _), T.pt, T.rt, T.ids, T.own, T.lfs, T.cut, T.byt, (((Fra.below H2.out).trans T.fra)).alloc _⟩
end
end Go.Proofs.YtblmkkhiojbcjaaGreat
namespace Go.Proofs.YtblmkkhiojbcjaaGreat
open Go.RowKit
set_option linter.unusedVariables false
set_option linter.unusedSimpArgs false
def LayP (w : World) (p b m N : Nat) (B : Nat → Int) (f : Nat) (L1 : List Nat) (F : Nat → Option Nat) (lf : Nat → Nat → Int) (pg perm : Int) (e : Ending) (w' : World) : Prop := e = .returned (.int .u64 (ad f)) ∧ ∃ B' L' F', LP N (pg * 4096) (toP (ad f) perm) L1 (zer B f) F lf L' B' F' ∧ L1 = L1.take (needY F (pg * 4096)) ++ L' ∧ Ram w' p b m N B' L' ∧ Fra p b m w w'
section
variable {w : World} {p b m N : Nat} {B : Nat → Int} {F : Nat → Option Nat} {lf : Nat → Nat → Int}
/-- A frame that no node has is zeroed: the table stays. -/
theorem PT.zero {f : Nat} {L1 : List Nat} (h : PT N (f :: L1) B F lf) : PT N L1 (zer B f) F lf := by
  have hfn : ∀ x q, F x = some q → q ≠ f := fun x q hx e => (h.held x q hx).2.2 (by rw [e]; exact List.mem_cons_self ..)
  exact h.keep (fun x q hx k hk => zer_out _ _ _ (by rcases Nat.lt_or_gt_of_ne (hfn x q hx) with h | h <;> omega)) (fun x q hx hm => (h.held x q hx).2.2 (List.mem_cons_of_mem _ hm))
set_option maxHeartbeats 1000000 in
/-- lay: a page with a frame of its own. -/
theorem lay_pt {f : Nat} {L1 : List Nat} (h : Ram w p b m N B (f :: L1)) (hP : PT N (f :: L1) B F lf) {r : Nat} (hr : F 0 = some r) (pg perm : Int) (hpg : 0 ≤ pg ∧ pg < 67108864)
    (hmp : (!ho perm 18446744073709551361 && ho perm 10 && (!hs perm 4 || hs perm 2)) = true) (hk : kd (toP (ad f) perm) 0 = 2 ∧ 0 ≤ toP (ad f) perm ∧ toP (ad f) perm < 18446744073709551616) (hz : lf (y0 (pg * 4096)) (i0 (pg * 4096)) = 0) (hn : needY F (pg * 4096) ≤ L1.length) :
    Calls Tryz.prog 48 #[.agg #[.pointer (some ⟨p, 0, .none⟩), .int .u64 (ad r)], .int .i64 pg, .int .u64 perm] w (LayP w p b m N B f L1 F lf pg perm) := by
  have hN := h.mem.n2
  have hf := h.lt f (List.mem_cons_self ..)
  have hfb := ad_b f N hf.2 hN
  obtain ⟨X, hX⟩ : ∃ X, X = w.heap.size := ⟨_, rfl⟩
  obtain ⟨w1, hw1⟩ : ∃ w1, w1 = w.alloc (.cells #[.pointer (some ⟨p, 0, .none⟩), .int .u64 (ad r)] 77) := ⟨_, rfl⟩
  have b1 : Below w.heap.size w w1 := by rw [hw1]; exact (Below.refl _ _).alloc (Nat.le_refl _) _
  have k1 : C2w w1 X (.pointer (some ⟨p, 0, .none⟩)) (.int .u64 (ad r)) := by
    rw [hw1, hX]
    exact ⟨by simp, by simp, fun k => World.frozen?_alloc_new _ _ _ _⟩
  have hp : p < X := by rw [hX]; exact lt_of_cell h.mem.c0
  have hb : b < X := by rw [hX]; exact lt_of_cell (h.mem.cb 0 (by have := h.mem.n1; omega))
  have hm : m < X := by rw [hX]; exact h.mem.mlt
  have c17 := alloc_some f (h.below b1)
  have HW : Hid (Below w.heap.size w w1 ∧ C2w w1 X (.pointer (some ⟨p, 0, .none⟩)) (.int .u64 (ad r))) := ⟨b1, k1⟩
  have HP : Hid (PT N L1 (zer B f) F lf ∧ F 0 = some r) := ⟨hP.zero, hr⟩
  have kc0 := k1.a
  have kc1 := k1.b
  clear h hP b1 k1 hr
  go_enter Tryz.func48, Tryz.ntmps48
  go_upto_region 1 with fail
  rw [← hw1, ← hX]
  have HXX : Hid (X = w.heap.size) := hX
  clear hw1 hX
  go_upto_region 2 with (go_at_call 39; refine c17.mono ?_; rintro _ w2 ⟨rfl, r2, f2⟩; have H2 : Hid (Ram w2 p b m N (zer B f) L1 ∧ Fra p b m w1 w2) := ⟨r2, f2⟩; clear r2 f2 c17)
  have k2 := HW.out.2.fra H2.out.2 (by omega) (by omega) (by omega)
  have kS : w2.drew.cell? ⟨X, 0, .none⟩ = some (.pointer (some ⟨p, 0, .none⟩)) ∧ w2.drew.cell? ⟨X, 1, .none⟩ = some (.int .u64 (ad r)) := ⟨k2.a, k2.b⟩
  have had : (2147483648 + (f : Int) * 4096) = ad f := rfl
  rw [had]
  clear kc0 kc1 had
  refine wp_region_held_drew (S := (fun U => U.cell? ⟨X, 0, .none⟩ = some (.pointer (some ⟨p, 0, .none⟩)) ∧ U.cell? ⟨X, 1, .none⟩ = some (.int .u64 (ad r)))) (by kernel_rfl) kS (fun hHeld => ?_)
  refine wpAnyH_take (i := 0) (v := (.pointer (some ⟨X, 0, .none⟩))) rfl (by kernel_rfl) (by kernel_rfl) (by kernel_rfl) (fun _ _ _ h => h) (Or.inl ⟨by rfl, fun ww hSw => by (try dsimp only at hSw); go_simp⟩) (by assumption) ?_
  simp only [Act.put, List.setIfInBounds_toArray, List.set_cons_zero, List.set_cons_succ, List.getElem_toArray, List.getElem_cons_succ, List.getElem_cons_zero]
  refine wpAnyH_take (i := 1) (v := (.pointer (some ⟨p, 0, .none⟩))) rfl (by kernel_rfl) (by kernel_rfl) (by kernel_rfl) (fun _ _ _ h => h) (Or.inl ⟨by rfl, fun ww hSw => by (try dsimp only at hSw); go_simp⟩) (by assumption) ?_
  simp only [Act.put, List.setIfInBounds_toArray, List.set_cons_zero, List.set_cons_succ, List.getElem_toArray, List.getElem_cons_succ, List.getElem_cons_zero]
  refine wpAnyH_take (i := 2) (v := (.pointer (some ⟨X, 1, .none⟩))) rfl (by kernel_rfl) (by kernel_rfl) (by kernel_rfl) (fun _ _ _ h => h) (Or.inl ⟨by rfl, fun ww hSw => by (try dsimp only at hSw); go_simp⟩) (by assumption) ?_
  simp only [Act.put, List.setIfInBounds_toArray, List.set_cons_zero, List.set_cons_succ, List.getElem_toArray, List.getElem_cons_succ, List.getElem_cons_zero]
  refine wpAnyH_take (i := 3) (v := (.int .u64 (ad r))) rfl (by kernel_rfl) (by kernel_rfl) (by kernel_rfl) (fun _ _ _ h => h) (Or.inl ⟨by rfl, fun ww hSw => by (try dsimp only at hSw); go_simp⟩) (by assumption) ?_
  simp only [Act.put, List.setIfInBounds_toArray, List.set_cons_zero, List.set_cons_succ, List.getElem_toArray, List.getElem_cons_succ, List.getElem_cons_zero]
  refine wpAnyH_take (i := 4) (v := (.int .i64 pg)) rfl (by kernel_rfl) (by kernel_rfl) (by kernel_rfl) (fun _ _ _ h => h) (Or.inl ⟨by rfl, fun ww hSw => by (try dsimp only at hSw); go_simp⟩) (by assumption) ?_
  simp only [Act.put, List.setIfInBounds_toArray, List.set_cons_zero, List.set_cons_succ, List.getElem_toArray, List.getElem_cons_succ, List.getElem_cons_zero]
  refine wpAnyH_take (i := 6) (v := (.int .u64 (ad f))) rfl (by kernel_rfl) (by kernel_rfl) (by kernel_rfl) (fun _ _ _ h => h) (Or.inl ⟨by rfl, fun ww hSw => by (try dsimp only at hSw); go_simp⟩) (by assumption) ?_
  simp only [Act.put, List.setIfInBounds_toArray, List.set_cons_zero, List.set_cons_succ, List.getElem_toArray, List.getElem_cons_succ, List.getElem_cons_zero]
  refine wpAnyH_take (i := 7) (v := (.int .u64 perm)) rfl (by kernel_rfl) (by kernel_rfl) (by kernel_rfl) (fun _ _ _ h => h) (Or.inl ⟨by rfl, fun ww hSw => by (try dsimp only at hSw); go_simp⟩) (by assumption) ?_
  simp only [Act.put, List.setIfInBounds_toArray, List.set_cons_zero, List.set_cons_succ, List.getElem_toArray, List.getElem_cons_succ, List.getElem_cons_zero]
  refine wpAnyH_ready (rs := [5]) (by kernel_rfl) (by simp) ?_
  refine AllReadyH.cons rfl (fun K hK => ?_) AllReadyH.nil
  go_simp
  go_at_call 87
  refine (addrOf_any pg (by omega) _).mono ?_
  rintro _ w3 ⟨rfl, e3⟩
  obtain rfl : w2.drew = w3 := e3.symm
  refine hK.out _ _ kS (fun hHeld => ?_)
  clear hK K
  try simp only [Act.put, List.setIfInBounds_toArray, List.set_cons_zero, List.set_cons_succ, List.getElem_toArray, List.getElem_cons_succ, List.getElem_cons_zero]
  refine wpAnyH_ready (rs := [8]) (by kernel_rfl) (by simp) ?_
  refine AllReadyH.cons rfl (fun K hK => ?_) AllReadyH.nil
  have c1 := map_pt (w := w2.drew) H2.out.1.drew HP.out.1 HP.out.2 (pg * 4096) (ad f) perm (by omega) (by omega) ⟨hfb.1, hfb.2.2, hfb.2.1⟩ hmp hk hz hn
  go_simp
  go_at_call 86
  refine c1.mono ?_
  rintro _ w3 ⟨rfl, B', L', F', R, e1, r3, f3⟩
  have H3 : Hid (LP N (pg * 4096) (toP (ad f) perm) L1 (zer B f) F lf L' B' F' ∧ L1 = L1.take (needY F (pg * 4096)) ++ L' ∧ Ram w3 p b m N B' L' ∧ Fra p b m w w3) := ⟨R, e1, r3, (Fra.below HW.out.1).trans (H2.out.2.trans ((Fra.below (Below.refl _ _).drew).trans f3))⟩
  have k3 := k2.fra ((Fra.below (Below.refl _ _).drew).trans f3) (by omega) (by omega) (by omega)
  clear R e1 r3 f3 c1
  refine hK.out _ _ ⟨k3.a, k3.b⟩ (fun hHeld => ?_)
  clear hK K
  try simp only [Act.put, List.setIfInBounds_toArray, List.set_cons_zero, List.set_cons_succ, List.getElem_toArray, List.getElem_cons_succ, List.getElem_cons_zero]
  refine wpAnyH_done (by kernel_rfl) ?_ _
  go_wp2_with fail
  go_ret
  exact ⟨rfl, B', L', F', H3.out⟩
end
end Go.Proofs.YtblmkkhiojbcjaaGreat
namespace Go.Proofs.YtblmkkhiojbcjaaGreat
open Go.RowKit
set_option linter.unusedVariables false
set_option linter.unusedSimpArgs false
def ndP (n : Int) : Int := if n = 0 then 3 else 4 + (n + 511) / 512
theorem ndP_any (n : Int) (h : 0 ≤ n ∧ n ≤ 4096) (w : World) : Calls Tryz.prog 32 #[.int .i64 n] w fun e w' => e = .returned (.int .i64 (ndP n)) ∧ w' = w := by
  unfold ndP
  by_cases h0 : n = 0
  · subst h0
    go_enter Tryz.func32, Tryz.ntmps32
    go_wp2
    go_ret
    exact ⟨rfl, rfl⟩
  · rw [if_neg h0, show n + 511 = n + 512 - 1 by omega]
    have h1 : (n == 0) = false := by simpa using h0
    have h2 : 0 < n := by omega
    go_enter Tryz.func32, Tryz.ntmps32
    go_wp2
    go_ret
    exact ⟨rfl, rfl⟩
/-- The rights that a page may have. -/
def rgt (c : Int) : Prop := c = 8 ∨ c = 2 ∨ c = 10 ∨ c = 6 ∨ c = 14
theorem mayS_any (c : Int) (h : rgt c) (w : World) : Calls Tryz.prog 44 #[.int .u64 c] w fun e w' => e = .returned (.bool true) ∧ w' = w := by
  rcases h with rfl | rfl | rfl | rfl | rfl
  all_goals
    go_enter Tryz.func44, Tryz.ntmps44
    go_wp2
    go_ret
    exact ⟨rfl, rfl⟩
theorem rgt_or {c : Int} (h : rgt c) : bits .or .u64 c 16 = c + 16 ∧ bits .or .u64 (c + 16) 64 = c + 80 ∧ bits .or .u64 (c + 80) 128 = c + 208 := by
  rcases h with rfl | rfl | rfl | rfl | rfl <;> decide
theorem rgt_ok {c : Int} (h : rgt c) : (!ho (c + 208) 18446744073709551361 && ho (c + 208) 10 && (!hs (c + 208) 4 || hs (c + 208) 2)) = true := by
  rcases h with rfl | rfl | rfl | rfl | rfl <;> decide
theorem rgt_leaf {c : Int} (h : rgt c) {f N : Nat} (hf : f < N) (hN : N ≤ 4096) : kd (toP (ad f) (c + 208)) 0 = 2 ∧ 0 ≤ toP (ad f) (c + 208) ∧ toP (ad f) (c + 208) < 18446744073709551616 := by
  have hb := ad_b f N hf hN
  rcases h with rfl | rfl | rfl | rfl | rfl <;> exact leaf_b _ _ ⟨hb.1, hb.2.2, hb.2.1⟩ (by decide) (by decide) (by decide) (by decide)
section
variable {w : World} {s p b m N : Nat} {root size : Int} {B : Nat → Int} {L : List Nat}
theorem each_zero (va : Int) (f g : Value) (w : World) (s : Nat) : Calls Tryz.prog 52 #[.pointer (some ⟨s, 0, .none⟩), .int .u64 va, .int .i64 0, f, g] w fun e w' => e = .returned (.bool true) ∧ w' = w := by
  go_enter Tryz.func52, Tryz.ntmps52
  go_wp2_with fail
  go_loopw [2] (fun k wr => k = .int .i64 0 ∧ wr = w) (fun _ _ => 0)
  case atStart => exact ⟨rfl, rfl⟩
  case round =>
    obtain ⟨rfl, rfl⟩ := hrel
    go_wp2
    go_ret
    exact ⟨rfl, rfl⟩
theorem end_any (h : Sp w s p root size) (hs : 0 ≤ size ∧ size ≤ 1099511627776) : Calls Tryz.prog 51 #[.pointer (some ⟨s, 0, .none⟩)] w fun e w' => e = .returned (.int .u64 ((size + 4095) / 4096 * 4096)) ∧ w' = w := by
  have c77 := pages_sp h hs
  have c76 := addrOf_any ((size + 4095) / 4096) (by omega) w
  clear h
  go_enter Tryz.func51, Tryz.ntmps51
  go_wp2_with first | (go_at_call 19; refine c77.mono ?_; rintro _ w1 ⟨rfl, e1⟩; obtain rfl : w = w1 := e1.symm) | (go_at_call 87; refine c76.mono ?_; rintro _ w1 ⟨rfl, e1⟩; obtain rfl : w = w1 := e1.symm)
  go_ret
  exact ⟨rfl, rfl⟩
set_option maxRecDepth 4000 in
theorem room_any (h : Sp w s p root size) (hR : Ram w p b m N B L) (P : Int) (hP : 0 ≤ P ∧ P < 4096) (hs : size = P * 4096) (hd : 1 + ndP (P + 1) - ndP P ≤ L.length) : Calls Tryz.prog 45 #[.pointer (some ⟨s, 0, .none⟩), .int .i64 (P + 1)] w fun e w' => e = .returned (.bool true) ∧ ∃ k, w' = w.drewN k := by
  have c77 := pages_sp h (by omega)
  rw [show (size + 4095) / 4096 = P by omega] at c77
  have c0 := h.c0
  have c10 := count_ram hR
  have d1 := ndP_any (P + 1) (by omega) w
  have d2 := ndP_any P (by omega) w
  have hl := len_le hR
  have n2 := hR.mem.n2
  have hb : 0 ≤ ndP P ∧ ndP P ≤ 100 ∧ 0 ≤ ndP (P + 1) ∧ ndP (P + 1) ≤ 100 := by unfold ndP; split <;> split <;> omega
  generalize ndP P = u at *
  generalize ndP (P + 1) = v at *
  generalize hg : L.length = g at *
  clear hs h hR hg
  have hd' : P + 1 - P + v - u ≤ (g : Int) := by omega
  clear hd
  go_enter Tryz.func45, Tryz.ntmps45
  go_wp2_with (go_at_call 19; refine c77.mono ?_; rintro _ w1 ⟨rfl, e1⟩; obtain rfl : w = w1 := e1.symm)
  refine d1.mono ?_
  rintro _ w1 ⟨rfl, e1⟩
  obtain rfl : w = w1 := e1.symm
  go_wp2_with (go_at_call 19; refine c77.mono ?_; rintro _ w1 ⟨rfl, e1⟩; obtain rfl : w = w1 := e1.symm)
  refine d2.mono ?_
  rintro _ w1 ⟨rfl, e1⟩
  obtain rfl : w = w1 := e1.symm
  go_wp2_with (go_at_call 30; refine c10.mono ?_; rintro _ w1 ⟨rfl, k1, rfl⟩)
  go_ret
  exact ⟨rfl, k1, rfl⟩
end
end Go.Proofs.YtblmkkhiojbcjaaGreat
namespace Go.Proofs.YtblmkkhiojbcjaaGreat
open Go.RowKit
set_option linter.unusedVariables false
set_option linter.unusedSimpArgs false
section
variable {w : World} {s p b m N : Nat} {root size : Int} {B : Nat → Int} {L : List Nat}
set_option maxHeartbeats 1000000 in
theorem tail_zero (h : Sp w s p root size) (hs : 0 ≤ size ∧ size ≤ 1099511627776) (ha : size % 4096 = 0) : Calls Tryz.prog 47 #[.pointer (some ⟨s, 0, .none⟩)] w fun e w' => e = .returned (.tuple #[]) ∧ Below w.heap.size w w' := by
  obtain ⟨X, hX⟩ : ∃ X, X = w.heap.size := ⟨_, rfl⟩
  obtain ⟨w1, hw1⟩ : ∃ w1, w1 = w.alloc (.cells #[.pointer (some ⟨s, 0, .none⟩)] 26) := ⟨_, rfl⟩
  have b1 : Below w.heap.size w w1 := by rw [hw1]; exact (Below.refl _ _).alloc (Nat.le_refl _) _
  have k1 : w1.cell? ⟨X, 0, .none⟩ = some (.pointer (some ⟨s, 0, .none⟩)) := by rw [hw1, hX]; simp
  have h1 := h.below b1
  have hd : (w1.drew).heap.size = w1.heap.size := rfl
  have bd : Below w1.heap.size w1 w1.drew := (Below.refl _ _).drew
  have h2 := h1.below bd
  have kS : w1.drew.cell? ⟨X, 0, .none⟩ = some (.pointer (some ⟨s, 0, .none⟩)) ∧ w1.drew.cell? ⟨s, 2, .none⟩ = some (.int .u64 size) := ⟨k1, h2.c2⟩
  have c35 := end_any h2 hs
  rw [show (size + 4095) / 4096 * 4096 = size by omega] at c35
  have HB : Hid (Below w.heap.size w w1) := b1
  have e0 : IntKind.u64.wrap (size - size) = 0 := by rw [IntKind.wrap_u64]; omega
  have z0 : IntKind.u64.wrap 0 = 0 := by decide
  have z1 : IntKind.i64.wrap 0 = 0 := by decide
  clear h h1 h2 b1 k1 hd bd ha
  go_enter Tryz.func47, Tryz.ntmps47
  go_upto_region 1 with fail
  rw [← hw1, ← hX]
  have HXX : Hid (X = w.heap.size) := hX
  clear hw1 hX
  refine wp_region_held_drew (S := (fun U => U.cell? ⟨X, 0, .none⟩ = some (.pointer (some ⟨s, 0, .none⟩)) ∧ U.cell? ⟨s, 2, .none⟩ = some (.int .u64 size))) (by kernel_rfl) kS (fun hHeld => ?_)
  refine wpAnyH_take (i := 0) (v := (.pointer (some ⟨s, 0, .none⟩))) rfl (by kernel_rfl) (by kernel_rfl) (by kernel_rfl) (fun _ _ _ h => h) (Or.inl ⟨by rfl, fun ww hSw => by (try dsimp only at hSw); go_simp⟩) (by assumption) ?_
  simp only [Act.put, List.setIfInBounds_toArray, List.set_cons_zero, List.set_cons_succ, List.getElem_toArray, List.getElem_cons_succ, List.getElem_cons_zero]
  refine wpAnyH_take (i := 2) (v := (.pointer (some ⟨s, 0, .none⟩))) rfl (by kernel_rfl) (by kernel_rfl) (by kernel_rfl) (fun _ _ _ h => h) (Or.inl ⟨by rfl, fun ww hSw => by (try dsimp only at hSw); go_simp⟩) (by assumption) ?_
  simp only [Act.put, List.setIfInBounds_toArray, List.set_cons_zero, List.set_cons_succ, List.getElem_toArray, List.getElem_cons_succ, List.getElem_cons_zero]
  refine wpAnyH_take (i := 3) (v := (.pointer (some ⟨s, 0, .none⟩))) rfl (by kernel_rfl) (by kernel_rfl) (by kernel_rfl) (fun _ _ _ h => h) (Or.inl ⟨by rfl, fun ww hSw => by (try dsimp only at hSw); go_simp⟩) (by assumption) ?_
  simp only [Act.put, List.setIfInBounds_toArray, List.set_cons_zero, List.set_cons_succ, List.getElem_toArray, List.getElem_cons_succ, List.getElem_cons_zero]
  refine wpAnyH_take (i := 4) (v := (.pointer (some ⟨s, 2, .none⟩))) rfl (by kernel_rfl) (by kernel_rfl) (by kernel_rfl) (fun _ _ _ h => h) (Or.inl ⟨by rfl, fun ww hSw => by (try dsimp only at hSw); go_simp⟩) (by assumption) ?_
  simp only [Act.put, List.setIfInBounds_toArray, List.set_cons_zero, List.set_cons_succ, List.getElem_toArray, List.getElem_cons_succ, List.getElem_cons_zero]
  refine wpAnyH_take (i := 5) (v := (.int .u64 size)) rfl (by kernel_rfl) (by kernel_rfl) (by kernel_rfl) (fun _ _ _ h => h) (Or.inl ⟨by rfl, fun ww hSw => by (try dsimp only at hSw); go_simp⟩) (by assumption) ?_
  simp only [Act.put, List.setIfInBounds_toArray, List.set_cons_zero, List.set_cons_succ, List.getElem_toArray, List.getElem_cons_succ, List.getElem_cons_zero]
  refine wpAnyH_ready (rs := [1]) (by kernel_rfl) (by simp) ?_
  refine AllReadyH.cons rfl (fun K hK => ?_) AllReadyH.nil
  go_simp
  go_at_call 51
  refine c35.mono ?_
  rintro _ w3 ⟨rfl, e3⟩
  obtain rfl : w1.drew = w3 := e3.symm
  refine hK.out _ _ kS (fun hHeld => ?_)
  clear hK K
  try simp only [Act.put, List.setIfInBounds_toArray, List.set_cons_zero, List.set_cons_succ, List.getElem_toArray, List.getElem_cons_succ, List.getElem_cons_zero]
  refine wpAnyH_take (i := 6) (v := (.int .u64 0)) rfl (by kernel_rfl) (by kernel_rfl) (by kernel_rfl) (fun _ _ _ h => h) (Or.inl ⟨by rfl, fun ww hSw => by (try dsimp only at hSw); go_simp⟩) (by assumption) ?_
  simp only [Act.put, List.setIfInBounds_toArray, List.set_cons_zero, List.set_cons_succ, List.getElem_toArray, List.getElem_cons_succ, List.getElem_cons_zero]
  refine wpAnyH_take (i := 7) (v := (.int .i64 0)) rfl (by kernel_rfl) (by kernel_rfl) (by kernel_rfl) (fun _ _ _ h => h) (Or.inl ⟨by rfl, fun ww hSw => by (try dsimp only at hSw); go_simp⟩) (by assumption) ?_
  simp only [Act.put, List.setIfInBounds_toArray, List.set_cons_zero, List.set_cons_succ, List.getElem_toArray, List.getElem_cons_succ, List.getElem_cons_zero]
  refine wpAnyH_take (i := 8) (v := (.int .i64 0)) rfl (by kernel_rfl) (by kernel_rfl) (by kernel_rfl) (fun _ _ _ h => h) (Or.inl ⟨by rfl, fun ww hSw => by (try dsimp only at hSw); go_simp⟩) (by assumption) ?_
  simp only [Act.put, List.setIfInBounds_toArray, List.set_cons_zero, List.set_cons_succ, List.getElem_toArray, List.getElem_cons_succ, List.getElem_cons_zero]
  refine wpAnyH_done (by kernel_rfl) ?_ _
  have kS2 : w1.drew.drew.cell? ⟨X, 0, .none⟩ = some (.pointer (some ⟨s, 0, .none⟩)) ∧ w1.drew.drew.cell? ⟨s, 2, .none⟩ = some (.int .u64 size) := kS
  go_upto_region 2 with fail
  refine wp_region_held_drew (S := (fun U => U.cell? ⟨X, 0, .none⟩ = some (.pointer (some ⟨s, 0, .none⟩)) ∧ U.cell? ⟨s, 2, .none⟩ = some (.int .u64 size))) (by kernel_rfl) kS2 (fun hHeld => ?_)
  refine wpAnyH_take (i := 0) (v := (.pointer (some ⟨s, 0, .none⟩))) rfl (by kernel_rfl) (by kernel_rfl) (by kernel_rfl) (fun _ _ _ h => h) (Or.inl ⟨by rfl, fun ww hSw => by (try dsimp only at hSw); go_simp⟩) (by assumption) ?_
  simp only [Act.put, List.setIfInBounds_toArray, List.set_cons_zero, List.set_cons_succ, List.getElem_toArray, List.getElem_cons_succ, List.getElem_cons_zero]
  refine wpAnyH_take (i := 1) (v := (.pointer (some ⟨s, 0, .none⟩))) rfl (by kernel_rfl) (by kernel_rfl) (by kernel_rfl) (fun _ _ _ h => h) (Or.inl ⟨by rfl, fun ww hSw => by (try dsimp only at hSw); go_simp⟩) (by assumption) ?_
  simp only [Act.put, List.setIfInBounds_toArray, List.set_cons_zero, List.set_cons_succ, List.getElem_toArray, List.getElem_cons_succ, List.getElem_cons_zero]
  refine wpAnyH_take (i := 2) (v := (.pointer (some ⟨s, 0, .none⟩))) rfl (by kernel_rfl) (by kernel_rfl) (by kernel_rfl) (fun _ _ _ h => h) (Or.inl ⟨by rfl, fun ww hSw => by (try dsimp only at hSw); go_simp⟩) (by assumption) ?_
  simp only [Act.put, List.setIfInBounds_toArray, List.set_cons_zero, List.set_cons_succ, List.getElem_toArray, List.getElem_cons_succ, List.getElem_cons_zero]
  refine wpAnyH_take (i := 3) (v := (.pointer (some ⟨s, 2, .none⟩))) rfl (by kernel_rfl) (by kernel_rfl) (by kernel_rfl) (fun _ _ _ h => h) (Or.inl ⟨by rfl, fun ww hSw => by (try dsimp only at hSw); go_simp⟩) (by assumption) ?_
  simp only [Act.put, List.setIfInBounds_toArray, List.set_cons_zero, List.set_cons_succ, List.getElem_toArray, List.getElem_cons_succ, List.getElem_cons_zero]
  refine wpAnyH_take (i := 4) (v := (.int .u64 size)) rfl (by kernel_rfl) (by kernel_rfl) (by kernel_rfl) (fun _ _ _ h => h) (Or.inl ⟨by rfl, fun ww hSw => by (try dsimp only at hSw); go_simp⟩) (by assumption) ?_
  simp only [Act.put, List.setIfInBounds_toArray, List.set_cons_zero, List.set_cons_succ, List.getElem_toArray, List.getElem_cons_succ, List.getElem_cons_zero]
  refine wpAnyH_take (i := 5) (v := (.int .i64 0)) rfl (by kernel_rfl) (by kernel_rfl) (by kernel_rfl) (fun _ _ _ h => h) (Or.inl ⟨by rfl, fun ww hSw => by (try dsimp only at hSw); go_simp⟩) (by assumption) ?_
  simp only [Act.put, List.setIfInBounds_toArray, List.set_cons_zero, List.set_cons_succ, List.getElem_toArray, List.getElem_cons_succ, List.getElem_cons_zero]
  refine wpAnyH_take (i := 6) (v := (.pointer (some ⟨s, 0, .none⟩))) rfl (by kernel_rfl) (by kernel_rfl) (by kernel_rfl) (fun _ _ _ h => h) (Or.inl ⟨by rfl, fun ww hSw => by (try dsimp only at hSw); go_simp⟩) (by assumption) ?_
  simp only [Act.put, List.setIfInBounds_toArray, List.set_cons_zero, List.set_cons_succ, List.getElem_toArray, List.getElem_cons_succ, List.getElem_cons_zero]
  refine wpAnyH_take (i := 7) (v := (.func (.func 58) #[.pointer (some ⟨s, 0, .none⟩)] #[])) rfl (by kernel_rfl) (by kernel_rfl) (by kernel_rfl) (fun _ _ _ h => h) (Or.inl ⟨by rfl, fun ww hSw => by (try dsimp only at hSw); go_simp⟩) (by assumption) ?_
  simp only [Act.put, List.setIfInBounds_toArray, List.set_cons_zero, List.set_cons_succ, List.getElem_toArray, List.getElem_cons_succ, List.getElem_cons_zero]
  refine wpAnyH_take (i := 8) (v := (.func (.func 84) #[] #[.pointer (some ⟨X, 0, .none⟩)])) rfl (by kernel_rfl) (by kernel_rfl) (by kernel_rfl) (fun _ _ _ h => h) (Or.inl ⟨by rfl, fun ww hSw => by (try dsimp only at hSw); go_simp⟩) (by assumption) ?_
  simp only [Act.put, List.setIfInBounds_toArray, List.set_cons_zero, List.set_cons_succ, List.getElem_toArray, List.getElem_cons_succ, List.getElem_cons_zero]
  refine wpAnyH_ready (rs := [9]) (by kernel_rfl) (by simp) ?_
  refine AllReadyH.cons rfl (fun K hK => ?_) AllReadyH.nil
  go_simp
  go_at_call 52
  refine (each_zero _ _ _ _ _).mono ?_
  rintro _ w3 ⟨rfl, e3⟩
  obtain rfl : w1.drew.drew = w3 := e3.symm
  refine hK.out _ _ kS2 (fun hHeld => ?_)
  clear hK K
  try simp only [Act.put, List.setIfInBounds_toArray, List.set_cons_zero, List.set_cons_succ, List.getElem_toArray, List.getElem_cons_succ, List.getElem_cons_zero]
  refine wpAnyH_done (by kernel_rfl) ?_ _
  go_wp2_with fail
  refine bodyPost_end (v := .tuple #[]) (by simp [results, Tryz.results47, go_sem]) rfl ⟨rfl, HB.out.drew.drew⟩
end
end Go.Proofs.YtblmkkhiojbcjaaGreat
