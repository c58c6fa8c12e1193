import Derived.Test.YtnghcadhilfgnaaRg
namespace Go.Proofs.Ytnghcadhilfgnaa
open Go.RowKit Go.Shelf
attribute [local go_sem] Oper.semAt_some
set_option linter.unusedVariables false
set_option linter.unusedSimpArgs false
theorem ranged_round {Z x p b m q hb N kb : Nat} {Y W W1 A2 A4 : World} {M0 : Nat → Prop} {L0 pre : List Nat} {fb1 fb2 fb4 : Nat → Nat} {lb1 lb2 lb4 : Nat} {B1 B4 : Nat → Int} {L1 L2 L4 : List Nat}
    (hP : Pq Z W x p b m q hb fb1 lb1 N B1 L1 B1 L1) (hW : ∀ k, k ≠ kb → W1.heap[k]? = W.heap[k]?) (sW : W1.heap.size = W.heap.size) (hF : Fx (fun i => i = kb ∨ M0 i) Y W1) (hk : W1.cell? ⟨kb, 0, .none⟩ = some (.int .i64 (pre.length : Nat))) (hkf : W1.frozen? ⟨kb, 0, .none⟩ = false) (hpre : pre <+: L0)
    (nk : ∀ k, Mb p b m q hb lb1 N fb1 L1 k → k ≠ kb) (hn : ∀ k, Mb p b m q hb lb1 N fb1 L1 k → M0 k ∨ Y.heap.size ≤ k) (f2 : Fx (Mb p b m q hb lb1 N fb1 L1) W1 A2) (hn2 : ∀ k, Mb p b m q hb lb2 N fb2 L2 k → Mb p b m q hb lb1 N fb1 L1 k ∨ W1.heap.size ≤ k)
    (f4 : Fx (Mb p b m q hb lb2 N fb2 L2) A2.drew A4) (hn4 : ∀ k, Mb p b m q hb lb4 N fb4 L4 k → Mb p b m q hb lb2 N fb2 L2 k ∨ A2.drew.heap.size ≤ k) (hP4 : Pq Z A4 x p b m q hb fb4 lb4 N B4 L4 B4 L4) (hmY : m < Y.heap.size) (hkY : kb < Y.heap.size) :
    KeepsFrom Y.heap.size W A4 ∧ KpR Z x p b m q hb N kb W A4 ∧ RI Z x p b m q hb N kb Y M0 L0 pre A4 := by
  have s2 := f2.size
  have s4 : A2.heap.size ≤ A4.heap.size := f4.size
  have sY := hF.size
  have tot : ∀ k, k < W1.heap.size → ¬ Mb p b m q hb lb1 N fb1 L1 k → A4.heap[k]? = W1.heap[k]? := fun k hk hm => by
    have h1 := f4.block k (show k < A2.heap.size by omega) (fun e => by
      rcases hn2 k e with e | e
      · exact hm e
      · omega)
    exact h1.trans (f2.block k hk hm)
  have m4 : ∀ k, Mb p b m q hb lb4 N fb4 L4 k → Mb p b m q hb lb1 N fb1 L1 k ∨ W1.heap.size ≤ k := fun k hk => by
    rcases hn4 k hk with e | e
    · exact hn2 k e
    · exact .inr (Nat.le_trans s2 e)
  refine ⟨⟨by omega, fun k o hYk hk ho => ?_⟩, fun g c t f hg hG => ?_, ⟨fb4, lb4, B4, L4, hP4, fun k hk => ?_, ⟨?_, ?_, ?_, by omega, fun i hi hne => ?_⟩, ?_, ?_, hpre⟩⟩
  · have hlt : k < W.heap.size := (Array.getElem?_eq_some_iff.1 hk).1
    rw [tot k (by omega) (fun e => ?_), hW k (by omega)]
    · exact hk
    · obtain ⟨o2, h3, h4⟩ := hP.cells k (.inl e) (by omega)
      rw [hk] at h3
      cases h3
      rw [ho] at h4
      cases h4
  · obtain ⟨gk, fb, lb, B, L, hPg, hng⟩ := hG
    have hlt : g < W.heap.size := (Array.getElem?_eq_some_iff.1 hg).1
    have n1 : ¬ Mb p b m q hb lb1 N fb1 L1 g := fun e => hng (hP.uniq hPg g e)
    refine ⟨?_, gk, fb4, lb4, B4, L4, hP4, fun e => ?_⟩
    · rw [tot g (by omega) n1, hW g gk]
      exact hg
    · rcases m4 g e with e | e
      · exact n1 e
      · omega
  · rcases m4 k hk with e | e
    · exact hn k e
    · exact .inr (by omega)
  · exact f4.os.trans (f2.os.trans hF.os)
  · exact f4.tape.trans (f2.tape.trans hF.tape)
  · exact f4.output.trans (f2.output.trans hF.output)
  · rw [tot i (by omega) (fun e => ?_)]
    · exact hF.block i hi hne
    · rcases hn i e with e | e
      · exact hne (.inr e)
      · omega
  · exact (World.cell?_of_block (tot kb (by omega) (fun e => nk kb e rfl))).trans hk
  · exact (World.frozen?_of_block (tot kb (by omega) (fun e => nk kb e rfl))).trans hkf
set_option maxHeartbeats 8000000 in
set_option maxRecDepth 100000 in
theorem ranged_any {Z x p b m q hb lb N : Nat} {fb : Nat → Nat} {B : Nat → Int} {L : List Nat} {w : World} (h : Pq Z w x p b m q hb fb lb N B L B L) (pa : Int) (hpa : 0 ≤ pa ∧ pa < 18446744073709551616) : Calls Try.prog 27 #[.pointer (some ⟨x, 0, .none⟩), .int .u64 pa] w fun e w' => e = .returned (.bool true) ∧ Pl Z w' x N ∧ Below Z w w' := by
  have hq := func67
  have n2 := h.r.mem.n2
  have ll := length_le N L h.r.mem.n1 h.r.nd h.r.lt
  have hB1 : Below w.heap.size w (((w.alloc (.cells #[.pointer (some ⟨x, 0, .none⟩)] 23)).alloc (.cells #[.int .u64 pa] 26)).alloc (.cells #[.bool false] 4)) := ((below_past _ _).alloc (by simp) _).alloc (by simp only [World.size_alloc]; omega) _
  have h1 := h.below hB1
  obtain ⟨lv, c1, hlr⟩ := h1.qm.lr
  have c30 := freeListQ_any _ q lv L c1 hlr (by omega) (fun i hi => by have := (h1.qm.rg i hi).2; omega)
  have k1 := h1.x1
  have E2 : (((w.alloc (.cells #[.pointer (some ⟨x, 0, .none⟩)] 23)).alloc (.cells #[.int .u64 pa] 26)).alloc (.cells #[.bool false] 4)).cell? ⟨w.heap.size, 0, .none⟩ = some (.pointer (some ⟨x, 0, .none⟩)) := by
    rw [World.cell?_alloc_past _ _ _ (by simp only [World.size_alloc]; omega), World.cell?_alloc_past _ _ _ (by simp), World.cell?_alloc_at _ _ _ _ rfl]; rfl
  have E3 : (((w.alloc (.cells #[.pointer (some ⟨x, 0, .none⟩)] 23)).alloc (.cells #[.int .u64 pa] 26)).alloc (.cells #[.bool false] 4)).cell? ⟨w.heap.size + 1, 0, .none⟩ = some (.int .u64 pa) := by
    rw [World.cell?_alloc_past _ _ _ (by simp only [World.size_alloc]; omega), World.cell?_alloc_at _ _ _ _ (by simp)]; rfl
  have E4 : (((w.alloc (.cells #[.pointer (some ⟨x, 0, .none⟩)] 23)).alloc (.cells #[.int .u64 pa] 26)).alloc (.cells #[.bool false] 4)).cell? ⟨w.heap.size + 1 + 1, 0, .none⟩ = some (.bool false) := by
    rw [World.cell?_alloc_at _ _ _ _ (by simp only [World.size_alloc])]; rfl
  have F4 : (((w.alloc (.cells #[.pointer (some ⟨x, 0, .none⟩)] 23)).alloc (.cells #[.int .u64 pa] 26)).alloc (.cells #[.bool false] 4)).frozen? ⟨w.heap.size + 1 + 1, 0, .none⟩ = false := by
    have := World.frozen?_alloc_new ((w.alloc (.cells #[.pointer (some ⟨x, 0, .none⟩)] 23)).alloc (.cells #[.int .u64 pa] 26)) #[.bool false] 4 0
    simpa only [World.size_alloc] using this
  have hz1 : (((w.alloc (.cells #[.pointer (some ⟨x, 0, .none⟩)] 23)).alloc (.cells #[.int .u64 pa] 26)).alloc (.cells #[.bool false] 4)).heap.size = w.heap.size + 1 + 1 + 1 := by simp only [World.size_alloc]
  have HM0 : Hid (∀ k, Mb p b m q hb lb N fb L k → k < w.heap.size) := h.mlt
  have xlw := h.xlt
  have HZ : Hid (Z ≤ w.heap.size ∧ ∀ k, Mb p b m q hb lb N fb L k → Z ≤ k) := ⟨by have := h.xlt; have := h.zx; omega, h.zm⟩
  clear c1 hlr
  refine (callsIn_wide (n := 3)).1 ?_
  refine callsIn_of_wp_marks Try.func27 rfl trivial ?_ rfl
  simp only [Try.ntmps27, List.size_toArray, List.length_cons, List.length_nil, Nat.reduceAdd, Nat.reduceSub, Array.replicate_succ, Array.replicate_zero, List.push_toArray, List.append_toArray, List.nil_append, List.cons_append]
  gi_wp2_with (first | (refine ⟨trivial, ?_⟩; gi_at_call 30; refine (callsIn_wide.2 c30).mono ?_; rintro e w1 ⟨pw, cw, rfl, hrow, hb1⟩; have k0 := (((h1.below hb1).below (below_past w1 (.cells #[.slice pw L.length cw] 37))).below (below_past _ (.cells #[.int .i64 0] 3))).x0; have k2 : ((w1.alloc (.cells #[.slice pw L.length cw] 37)).alloc (.cells #[.int .i64 0] 3)).cell? ⟨w.heap.size, 0, .none⟩ = some (.pointer (some ⟨x, 0, .none⟩)) := ((below_past (w1.alloc (.cells #[.slice pw L.length cw] 37)) (.cells #[.int .i64 0] 3)).cell (by show w.heap.size < _; have := hb1.size; simp only [World.size_alloc] at this ⊢; omega)).trans (((below_past w1 (.cells #[.slice pw L.length cw] 37)).cell (by show w.heap.size < _; have := hb1.size; simp only [World.size_alloc] at this; omega)).trans ((hb1.cell (lt_of_cell E2)).trans E2))) | (refine ⟨trivial, ?_⟩; gi_at_call 31; refine (callsIn_wide.2 (freeList_any (some ⟨p, 0, .none⟩))).mono ?_; rintro e w2 ⟨rfl, rfl⟩) | fail)
  have hb2 : Below w1.heap.size w1 (((w1.alloc (.cells #[.slice pw L.length cw] 37)).alloc (.cells #[.int .i64 0] 3)).alloc (.cells #[.pointer (some ⟨p, 0, .none⟩)] 30)) := ((below_past _ _).alloc (by simp) _).alloc (by simp only [World.size_alloc]; omega) _
  have hb12 := hb1.trans (hb2.mono hb1.size)
  have zw1 : w.heap.size + 1 + 1 + 1 ≤ w1.heap.size := by have := hb1.size; omega
  have zY : (((w1.alloc (.cells #[.slice pw L.length cw] 37)).alloc (.cells #[.int .i64 0] 3)).alloc (.cells #[.pointer (some ⟨p, 0, .none⟩)] 30)).heap.size = w1.heap.size + 1 + 1 + 1 := by simp only [World.size_alloc]
  have HPY : Hid (Pq Z (((w1.alloc (.cells #[.slice pw L.length cw] 37)).alloc (.cells #[.int .i64 0] 3)).alloc (.cells #[.pointer (some ⟨p, 0, .none⟩)] 30)) x p b m q hb fb lb N B L B L) := (h1.below hb1).below hb2
  have y2 := (hb12.cell (lt_of_cell E2)).trans E2
  have y3 := (hb12.cell (lt_of_cell E3)).trans E3
  have y4 := (hb12.cell (lt_of_cell E4)).trans E4
  have yf := (hb12.frozen (lt_of_cell E4)).trans F4
  have yw : (((w1.alloc (.cells #[.slice pw L.length cw] 37)).alloc (.cells #[.int .i64 0] 3)).alloc (.cells #[.pointer (some ⟨p, 0, .none⟩)] 30)).cell? ⟨w1.heap.size, 0, .none⟩ = some (.slice pw L.length cw) := by
    rw [World.cell?_alloc_past _ _ _ (by simp only [World.size_alloc]; omega), World.cell?_alloc_past _ _ _ (by simp), World.cell?_alloc_at _ _ _ _ rfl]; rfl
  have yk : (((w1.alloc (.cells #[.slice pw L.length cw] 37)).alloc (.cells #[.int .i64 0] 3)).alloc (.cells #[.pointer (some ⟨p, 0, .none⟩)] 30)).cell? ⟨w1.heap.size + 1, 0, .none⟩ = some (.int .i64 0) := by
    rw [World.cell?_alloc_past _ _ _ (by simp only [World.size_alloc]; omega), World.cell?_alloc_at _ _ _ _ (by simp)]; rfl
  have ykf : (((w1.alloc (.cells #[.slice pw L.length cw] 37)).alloc (.cells #[.int .i64 0] 3)).alloc (.cells #[.pointer (some ⟨p, 0, .none⟩)] 30)).frozen? ⟨w1.heap.size + 1, 0, .none⟩ = false := by
    rw [World.frozen?_alloc_old _ _ _ (by simp only [World.size_alloc]; omega)]
    have := World.frozen?_alloc_new (w1.alloc (.cells #[.slice pw L.length cw] 37)) #[.int .i64 0] 3 0
    rwa [World.size_alloc] at this
  have yb : (((w1.alloc (.cells #[.slice pw L.length cw] 37)).alloc (.cells #[.int .i64 0] 3)).alloc (.cells #[.pointer (some ⟨p, 0, .none⟩)] 30)).cell? ⟨w1.heap.size + 1 + 1, 0, .none⟩ = some (.pointer (some ⟨p, 0, .none⟩)) := by
    rw [World.cell?_alloc_at _ _ _ _ (by simp only [World.size_alloc])]; rfl
  have HRW : Hid (∀ k (hk : k < L.length), ∃ g, pw = some ⟨g, 0, .none⟩ ∧ w.heap.size ≤ g ∧ g < w1.heap.size ∧ (((w1.alloc (.cells #[.slice pw L.length cw] 37)).alloc (.cells #[.int .i64 0] 3)).alloc (.cells #[.pointer (some ⟨p, 0, .none⟩)] 30)).cell? ⟨g, k, .none⟩ = some (adv L[k])) := fun k hk => by
    rcases hrow.2 with ⟨_, h0⟩ | ⟨g, cap, cur, hv, hX, hh, hn, hc, hs, ht⟩
    · omega
    · injection hv with e1 e2 e3
      subst e1
      have hcell : w1.cell? ⟨g, k, .none⟩ = some (adv L[k]) := by
        simp only [World.cell?, hh]
        show cur[k]? = _
        rw [← Array.getElem?_toList, ← List.getElem?_take_of_lt (show k < L.length * 1 by omega), ht, List.getElem?_map, List.getElem?_eq_getElem hk]
        rfl
      exact ⟨g, rfl, by omega, lt_of_cell hcell, (hb2.cell (lt_of_cell hcell)).trans hcell⟩
  have HBY : Hid (Below w.heap.size w (((w1.alloc (.cells #[.slice pw L.length cw] 37)).alloc (.cells #[.int .i64 0] 3)).alloc (.cells #[.pointer (some ⟨p, 0, .none⟩)] 30))) := hB1.trans (hb12.mono hB1.size)
  generalize (((w1.alloc (.cells #[.slice pw L.length cw] 37)).alloc (.cells #[.int .i64 0] 3)).alloc (.cells #[.pointer (some ⟨p, 0, .none⟩)] 30)) = Y at *
  clear k0 k2 hrow hb1 hb2 hb12 E2 E3 E4 F4 k1 c30 hB1 hz1 h1 h
  have HY : Hid (Y.cell? ⟨w.heap.size, 0, .none⟩ = some (.pointer (some ⟨x, 0, .none⟩)) ∧ Y.cell? ⟨w.heap.size + 1, 0, .none⟩ = some (.int .u64 pa) ∧ Y.cell? ⟨w.heap.size + 1 + 1, 0, .none⟩ = some (.bool false) ∧ Y.frozen? ⟨w.heap.size + 1 + 1, 0, .none⟩ = false ∧ Y.cell? ⟨w1.heap.size, 0, .none⟩ = some (.slice pw L.length cw)) := ⟨y2, y3, y4, yf, yw⟩
  have HKC : Hid (∀ W c, Fx (fun i => i = w1.heap.size + 1 ∨ Mb p b m q hb lb N fb L i) Y W → w.heap.size ≤ c → c < Y.heap.size → c ≠ w1.heap.size + 1 → W.heap[c]? = Y.heap[c]?) := fun W c f h1 h2 h3 => f.block c h2 (fun e => by
    rcases e with e | e
    · exact h3 e
    · have := HM0.out c e; omega)
  have mY : m < Y.heap.size := HPY.out.r.mem.mlt
  clear y2 y3 y4 yf yw
  refine wpIn_rangeFunc_ownG (α := Nat) rfl (by omega) (gf := 61) (lb := #[.pointer (some ⟨w1.heap.size + 1 + 1, 0, .none⟩)]) rfl trivial (enters_of Try.func61 (by kernel_rfl) rfl)
    (free_seq HPY.out.r 2 (w1.heap.size + 1 + 1) (lt_of_cell yb) yb (KpR Z x p b m q hb N (w1.heap.size + 1)) (GoodR Z x p b m q hb N (w1.heap.size + 1)) (fun W W' g cur k hg hh => k g cur 26 (0, 0) hh hg) (fun W W2 g h1 h2 hg => ⟨by have := h1.size; omega, fb, lb, B, L, (HPY.out.below h1).below h2, fun e => by have := HM0.out g e; have := h1.size; omega⟩)) KpR.trans (fun W l o o' hl' ho hcs _ => KpR.put W l o o' (by omega) ho hcs) (Below.refl _ _) (fun _ => rfl)
    (RI Z x p b m q hb N (w1.heap.size + 1) Y (Mb p b m q hb lb N fb L) L) (fun c xs W => c = .ret ∧ ¬ xs <+: L) (RI.own mY) (fun c s A B row hs hg hr => hs) ⟨fb, lb, B, L, HPY.out, fun k hk => .inl hk, Fx.refl _ _, yk, ykf, List.nil_prefix⟩ ?aa ?assign ?body ?done ?stop
  case assign =>
    intro l x' W K hK
    gi_wp2
    exact hK
  case body =>
    rintro l pre x' W ⟨fb1, lb1, B1, L1, hP, hn, hf, hk, hkf, hpre⟩ hlt
    have cc : ∀ c o v, w.heap.size ≤ c → c ≠ w1.heap.size + 1 → Y.cell? ⟨c, o, .none⟩ = some v → W.cell? ⟨c, o, .none⟩ = some v := fun c o v h1 h2 h3 => (World.cell?_of_block (HKC.out W c hf h1 (lt_of_cell h3) h2)).trans h3
    have c2 := cc _ _ _ (Nat.le_refl _) (by omega) HY.out.1
    have c3 := cc _ _ _ (by omega) (by omega) HY.out.2.1
    have c4 := cc _ _ _ (by omega) (by omega) HY.out.2.2.1
    have c4f : W.frozen? ⟨w.heap.size + 1 + 1, 0, .none⟩ = false := (World.frozen?_of_block (HKC.out W _ hf (by show w.heap.size ≤ w.heap.size + 1 + 1; omega) (lt_of_cell HY.out.2.2.1) (by show w.heap.size + 1 + 1 ≠ _; omega))).trans HY.out.2.2.2.1
    have cw' := cc _ _ _ (by omega) (by omega) HY.out.2.2.2.2
    obtain ⟨g, rfl, hg1, hg2, hrow⟩ := HRW.out pre.length hlt
    have cr := cc _ _ _ hg1 (by omega) hrow
    have g0 : (pre.length : Int) < L.length := by omega
    have g1 : ¬ ((L.length : Int) ≤ pre.length) := by omega
    clear hrow
    simp only [adv] at cr ⊢
    have nk : ∀ k, Mb p b m q hb lb1 N fb1 L1 k → k ≠ w1.heap.size + 1 ∧ (k < w.heap.size ∨ Y.heap.size ≤ k) := fun k hk => by
      rcases hn k hk with e | e
      · have := HM0.out k e; omega
      · omega
    by_cases hx : x' = L[pre.length]
    · have xk : x ≠ w1.heap.size + 1 := by omega
      have hP1 : Pq Z (W.setCell ⟨w1.heap.size + 1, 0, .none⟩ (.int .i64 ((pre.length : Int) + 1))) x p b m q hb fb1 lb1 N B1 L1 B1 L1 := hP.kept (by rw [World.size_setCell]; exact Nat.le_refl _) (fun k hk' => Below.heap_setCell _ _ _ _ (by
        rcases hk' with e | e
        · exact (nk k e).1
        · rw [e]; exact xk))
      obtain ⟨a, ok, c15⟩ := pair_alloc hP1
      have d2 : (W.setCell ⟨w1.heap.size + 1, 0, .none⟩ (.int .i64 ((pre.length : Int) + 1))).cell? ⟨w.heap.size, 0, .none⟩ = some (.pointer (some ⟨x, 0, .none⟩)) := (World.cell?_setCell_other _ _ _ _ (by simp only [ne_eq, Addr.mk.injEq, and_true, not_and]; intro e; omega)).trans c2
      have d3 : (W.setCell ⟨w1.heap.size + 1, 0, .none⟩ (.int .i64 ((pre.length : Int) + 1))).cell? ⟨w.heap.size + 1, 0, .none⟩ = some (.int .u64 pa) := (World.cell?_setCell_other _ _ _ _ (by simp only [ne_eq, Addr.mk.injEq, and_true, not_and]; intro e; omega)).trans c3
      have dx0 := hP1.x0
      have hx' : ((2147483648 + (L[pre.length] : Int) * 4096) != (2147483648 + (x' : Int) * 4096)) = false := by rw [← hx]; simp
      have HW1 : Hid (Fx (fun i => i = w1.heap.size + 1 ∨ Mb p b m q hb lb N fb L i) Y (W.setCell ⟨w1.heap.size + 1, 0, .none⟩ (.int .i64 ((pre.length : Int) + 1))) ∧ (W.setCell ⟨w1.heap.size + 1, 0, .none⟩ (.int .i64 ((pre.length : Int) + 1))).cell? ⟨w1.heap.size + 1, 0, .none⟩ = some (.int .i64 ((pre ++ [x']).length : Nat)) ∧ (W.setCell ⟨w1.heap.size + 1, 0, .none⟩ (.int .i64 ((pre.length : Int) + 1))).frozen? ⟨w1.heap.size + 1, 0, .none⟩ = false ∧ (pre ++ [x']) <+: L ∧ (∀ k, Mb p b m q hb lb1 N fb1 L1 k → k ≠ w1.heap.size + 1 ∧ (k < w.heap.size ∨ Y.heap.size ≤ k)) ∧ (∀ k, Mb p b m q hb lb1 N fb1 L1 k → Mb p b m q hb lb N fb L k ∨ Y.heap.size ≤ k) ∧ Pq Z (W.setCell ⟨w1.heap.size + 1, 0, .none⟩ (.int .i64 ((pre.length : Int) + 1))) x p b m q hb fb1 lb1 N B1 L1 B1 L1 ∧ Pq Z W x p b m q hb fb1 lb1 N B1 L1 B1 L1) :=
        ⟨hf.setCell _ _ (.inl rfl), by rw [World.cell?_setCell_same' _ _ _ (by rw [hk]; rfl), List.length_append]; rfl, (World.frozen?_setCell ..).trans hkf, by rw [hx]; exact prefix_snoc hpre hlt, nk, hn, hP1, hP⟩
      have HWW : Hid (∀ k, k ≠ w1.heap.size + 1 → (W.setCell ⟨w1.heap.size + 1, 0, .none⟩ (.int .i64 ((pre.length : Int) + 1))).heap[k]? = W.heap[k]?) := fun k hk => Below.heap_setCell _ _ _ _ (by show k ≠ _; exact hk)
      have sW : (W.setCell ⟨w1.heap.size + 1, 0, .none⟩ (.int .i64 ((pre.length : Int) + 1))).heap.size = W.heap.size := World.size_setCell ..
      have sY : Y.heap.size ≤ (W.setCell ⟨w1.heap.size + 1, 0, .none⟩ (.int .i64 ((pre.length : Int) + 1))).heap.size := HW1.out.1.size
      clear hx hP1 hP nk hn hf cc hpre
      generalize 2147483648 + (L[pre.length] : Int) * 4096 = v1 at *
      generalize 2147483648 + (x' : Int) * 4096 = v2 at *
      gi_wp2_with (first | ((first | refine ⟨trivial, fun h => (by cases h), ?_⟩ | refine ⟨trivial, ?_⟩); gi_at_call 15; refine (CallsIn.inRound l (callsIn_wide.2 c15)).mono ?_; rintro e A1 ⟨rfl, hfA, c16⟩; have xA : A1.cell? ⟨x, 1, .none⟩ = some (.pointer (some ⟨q, 0, .none⟩)) := (World.cell?_of_block (hfA.block x HW1.out.2.2.2.2.2.2.1.xlt HW1.out.2.2.2.2.2.2.1.xm)).trans HW1.out.2.2.2.2.2.2.1.x1; have bA : A1.cell? ⟨w.heap.size, 0, .none⟩ = some (.pointer (some ⟨x, 0, .none⟩)) := (World.cell?_of_block (hfA.block _ (lt_of_cell d2) (fun e => by have := (HW1.out.2.2.2.2.1 w.heap.size e).2; omega))).trans d2) | ((first | refine ⟨trivial, fun h => (by cases h), ?_⟩ | refine ⟨trivial, ?_⟩); gi_at_call 16; refine (CallsIn.inRound l (callsIn_wide.2 (c16 A1 (Below.refl _ _)))).mono ?_; rintro e A2 ⟨rfl, hfA2, fb2, lb2, B2, L2, hP2, hn2⟩) | fail)
      have s2 := hfA2.size
      have nk2 : ∀ k, Mb p b m q hb lb2 N fb2 L2 k → k ≠ w1.heap.size + 1 ∧ (k < w.heap.size ∨ Y.heap.size ≤ k) := fun k hk => by
        rcases hn2 k hk with e | e
        · exact HW1.out.2.2.2.2.1 k e
        · omega
      have j2 : A2.cell? ⟨w.heap.size, 0, .none⟩ = some (.pointer (some ⟨x, 0, .none⟩)) := (World.cell?_of_block (hfA2.block _ (lt_of_cell d2) (fun e => by have := (HW1.out.2.2.2.2.1 w.heap.size e).2; omega))).trans d2
      have j3 : A2.cell? ⟨w.heap.size + 1, 0, .none⟩ = some (.int .u64 pa) := (World.cell?_of_block (hfA2.block _ (lt_of_cell d3) (fun e => by have := (HW1.out.2.2.2.2.1 (w.heap.size + 1) e).2; omega))).trans d3
      have hP2d := hP2.below ((Below.refl _ _).drew)
      obtain ⟨nn, c17⟩ := pair_free hP2d pa hpa
      have q0 := hP2d.x0
      have q1 := hP2d.x1
      have q2 : A2.drew.cell? ⟨w.heap.size, 0, .none⟩ = some (.pointer (some ⟨x, 0, .none⟩)) := j2
      have q3 : A2.drew.cell? ⟨w.heap.size + 1, 0, .none⟩ = some (.int .u64 pa) := j3
      have HA2 : Hid (Fx (Mb p b m q hb lb1 N fb1 L1) (W.setCell ⟨w1.heap.size + 1, 0, .none⟩ (.int .i64 ((pre.length : Int) + 1))) A2 ∧ (∀ k, Mb p b m q hb lb2 N fb2 L2 k → Mb p b m q hb lb1 N fb1 L1 k ∨ (W.setCell ⟨w1.heap.size + 1, 0, .none⟩ (.int .i64 ((pre.length : Int) + 1))).heap.size ≤ k)) := ⟨hfA2, hn2⟩
      have HKP : Hid (∀ A3, Fx (Mb p b m q hb lb2 N fb2 L2) A2.drew A3 → A3.cell? ⟨x, 0, .none⟩ = some (.pointer (some ⟨p, 0, .none⟩)) ∧ A3.cell? ⟨x, 1, .none⟩ = some (.pointer (some ⟨q, 0, .none⟩)) ∧ A3.cell? ⟨w.heap.size, 0, .none⟩ = some (.pointer (some ⟨x, 0, .none⟩)) ∧ A3.cell? ⟨w.heap.size + 1, 0, .none⟩ = some (.int .u64 pa)) := fun A3 f => ⟨(World.cell?_of_block (f.block x hP2d.xlt hP2d.xm)).trans q0, (World.cell?_of_block (f.block x hP2d.xlt hP2d.xm)).trans q1, (World.cell?_of_block (f.block _ (lt_of_cell q2) (fun e => by have := (nk2 w.heap.size e).2; omega))).trans q2, (World.cell?_of_block (f.block _ (lt_of_cell q3) (fun e => by have := (nk2 (w.heap.size + 1) e).2; omega))).trans q3⟩
      clear hfA2 hn2 nk2 hP2 hP2d c15 c16 hfA xA bA d2 d3 dx0
      refine wpIn_region_held (S := (fun V : World => V.cell? ⟨x, 0, .none⟩ = some (.pointer (some ⟨p, 0, .none⟩)) ∧ V.cell? ⟨x, 1, .none⟩ = some (.pointer (some ⟨q, 0, .none⟩)) ∧ V.cell? ⟨w.heap.size, 0, .none⟩ = some (.pointer (some ⟨x, 0, .none⟩)) ∧ V.cell? ⟨w.heap.size + 1, 0, .none⟩ = some (.int .u64 pa))) (by kernel_rfl) (no_defer_of (by kernel_rfl)) (fun hL => by obtain ⟨_, _, hL⟩ := hL; exact hL) ⟨q0, q1, q2, q3⟩ (fun hHeld => ?_)
      refine wpAnyH_take (i := 0) (v := (.int .u64 a)) rfl (by kernel_rfl) (by kernel_rfl) (by kernel_rfl) (fun _ _ _ h => h) (Or.inl ⟨by rfl, fun ww hSw => by (try dsimp only at hSw); go_simp⟩) (by assumption) ?_
      simp only [Act.put, List.setIfInBounds_toArray, List.set_cons_zero, List.set_cons_succ, List.getElem_toArray, List.getElem_cons_succ, List.getElem_cons_zero]
      refine wpAnyH_take (i := 1) (v := (.int .u64 a)) rfl (by kernel_rfl) (by kernel_rfl) (by kernel_rfl) (fun _ _ _ h => h) (Or.inl ⟨by rfl, fun ww hSw => by (try dsimp only at hSw); go_simp⟩) (by assumption) ?_
      simp only [Act.put, List.setIfInBounds_toArray, List.set_cons_zero, List.set_cons_succ, List.getElem_toArray, List.getElem_cons_succ, List.getElem_cons_zero]
      refine wpAnyH_take (i := 2) (v := (.bool false)) rfl (by kernel_rfl) (by kernel_rfl) (by kernel_rfl) (fun _ _ _ h => h) (Or.inl ⟨by rfl, fun ww hSw => by (try dsimp only at hSw); go_simp⟩) (by assumption) ?_
      simp only [Act.put, List.setIfInBounds_toArray, List.set_cons_zero, List.set_cons_succ, List.getElem_toArray, List.getElem_cons_succ, List.getElem_cons_zero]
      refine wpAnyH_take (i := 3) (v := (.bool false)) rfl (by kernel_rfl) (by kernel_rfl) (by kernel_rfl) (fun _ _ _ h => h) (Or.inl ⟨by rfl, fun ww hSw => by (try dsimp only at hSw); go_simp⟩) (by assumption) ?_
      simp only [Act.put, List.setIfInBounds_toArray, List.set_cons_zero, List.set_cons_succ, List.getElem_toArray, List.getElem_cons_succ, List.getElem_cons_zero]
      refine wpAnyH_take (i := 4) (v := (.bool ok)) rfl (by kernel_rfl) (by kernel_rfl) (by kernel_rfl) (fun _ _ _ h => h) (Or.inl ⟨by rfl, fun ww hSw => by (try dsimp only at hSw); go_simp⟩) (by assumption) ?_
      simp only [Act.put, List.setIfInBounds_toArray, List.set_cons_zero, List.set_cons_succ, List.getElem_toArray, List.getElem_cons_succ, List.getElem_cons_zero]
      refine wpAnyH_take (i := 5) (v := (.bool ok)) rfl (by kernel_rfl) (by kernel_rfl) (by kernel_rfl) (fun _ _ _ h => h) (Or.inl ⟨by rfl, fun ww hSw => by (try dsimp only at hSw); go_simp⟩) (by assumption) ?_
      simp only [Act.put, List.setIfInBounds_toArray, List.set_cons_zero, List.set_cons_succ, List.getElem_toArray, List.getElem_cons_succ, List.getElem_cons_zero]
      refine wpAnyH_take (i := 6) (v := (.bool false)) rfl (by kernel_rfl) (by kernel_rfl) (by kernel_rfl) (fun _ _ _ h => h) (Or.inl ⟨by rfl, fun ww hSw => by (try dsimp only at hSw); go_simp⟩) (by assumption) ?_
      simp only [Act.put, List.setIfInBounds_toArray, List.set_cons_zero, List.set_cons_succ, List.getElem_toArray, List.getElem_cons_succ, List.getElem_cons_zero]
      refine wpAnyH_take (i := 7) (v := (.bool false)) rfl (by kernel_rfl) (by kernel_rfl) (by kernel_rfl) (fun _ _ _ h => h) (Or.inl ⟨by rfl, fun ww hSw => by (try dsimp only at hSw); go_simp⟩) (by assumption) ?_
      simp only [Act.put, List.setIfInBounds_toArray, List.set_cons_zero, List.set_cons_succ, List.getElem_toArray, List.getElem_cons_succ, List.getElem_cons_zero]
      refine wpAnyH_take (i := 8) (v := (.bool false)) rfl (by kernel_rfl) (by kernel_rfl) (by kernel_rfl) (fun _ _ _ h => h) (Or.inl ⟨by rfl, fun ww hSw => by (try dsimp only at hSw); go_simp⟩) (by assumption) ?_
      simp only [Act.put, List.setIfInBounds_toArray, List.set_cons_zero, List.set_cons_succ, List.getElem_toArray, List.getElem_cons_succ, List.getElem_cons_zero]
      refine wpAnyH_take (i := 9) (v := (.pointer (some ⟨x, 0, .none⟩))) rfl (by kernel_rfl) (by kernel_rfl) (by kernel_rfl) (fun _ _ _ h => h) (Or.inl ⟨by rfl, fun ww hSw => by (try dsimp only at hSw); obtain ⟨q0, q1, q2, q3⟩ := hSw; go_simp⟩) (by assumption) ?_
      simp only [Act.put, List.setIfInBounds_toArray, List.set_cons_zero, List.set_cons_succ, List.getElem_toArray, List.getElem_cons_succ, List.getElem_cons_zero]
      refine wpAnyH_take (i := 10) (v := (.pointer (some ⟨x, 0, .none⟩))) rfl (by kernel_rfl) (by kernel_rfl) (by kernel_rfl) (fun _ _ _ h => h) (Or.inl ⟨by rfl, fun ww hSw => by (try dsimp only at hSw); go_simp⟩) (by assumption) ?_
      simp only [Act.put, List.setIfInBounds_toArray, List.set_cons_zero, List.set_cons_succ, List.getElem_toArray, List.getElem_cons_succ, List.getElem_cons_zero]
      refine wpAnyH_take (i := 11) (v := (.pointer (some ⟨x, 0, .none⟩))) rfl (by kernel_rfl) (by kernel_rfl) (by kernel_rfl) (fun _ _ _ h => h) (Or.inl ⟨by rfl, fun ww hSw => by (try dsimp only at hSw); go_simp⟩) (by assumption) ?_
      simp only [Act.put, List.setIfInBounds_toArray, List.set_cons_zero, List.set_cons_succ, List.getElem_toArray, List.getElem_cons_succ, List.getElem_cons_zero]
      refine wpAnyH_take (i := 12) (v := (.pointer (some ⟨p, 0, .none⟩))) rfl (by kernel_rfl) (by kernel_rfl) (by kernel_rfl) (fun _ _ _ h => h) (Or.inl ⟨by rfl, fun ww hSw => by (try dsimp only at hSw); obtain ⟨q0, q1, q2, q3⟩ := hSw; go_simp⟩) (by assumption) ?_
      simp only [Act.put, List.setIfInBounds_toArray, List.set_cons_zero, List.set_cons_succ, List.getElem_toArray, List.getElem_cons_succ, List.getElem_cons_zero]
      refine wpAnyH_take (i := 13) (v := (.int .u64 pa)) rfl (by kernel_rfl) (by kernel_rfl) (by kernel_rfl) (fun _ _ _ h => h) (Or.inl ⟨by rfl, fun ww hSw => by (try dsimp only at hSw); obtain ⟨q0, q1, q2, q3⟩ := hSw; go_simp⟩) (by assumption) ?_
      simp only [Act.put, List.setIfInBounds_toArray, List.set_cons_zero, List.set_cons_succ, List.getElem_toArray, List.getElem_cons_succ, List.getElem_cons_zero]
      refine wpAnyH_take (i := 15) (v := (.pointer (some ⟨x, 0, .none⟩))) rfl (by kernel_rfl) (by kernel_rfl) (by kernel_rfl) (fun _ _ _ h => h) (Or.inl ⟨by rfl, fun ww hSw => by (try dsimp only at hSw); obtain ⟨q0, q1, q2, q3⟩ := hSw; go_simp⟩) (by assumption) ?_
      simp only [Act.put, List.setIfInBounds_toArray, List.set_cons_zero, List.set_cons_succ, List.getElem_toArray, List.getElem_cons_succ, List.getElem_cons_zero]
      refine wpAnyH_take (i := 16) (v := (.pointer (some ⟨x, 0, .none⟩))) rfl (by kernel_rfl) (by kernel_rfl) (by kernel_rfl) (fun _ _ _ h => h) (Or.inl ⟨by rfl, fun ww hSw => by (try dsimp only at hSw); go_simp⟩) (by assumption) ?_
      simp only [Act.put, List.setIfInBounds_toArray, List.set_cons_zero, List.set_cons_succ, List.getElem_toArray, List.getElem_cons_succ, List.getElem_cons_zero]
      refine wpAnyH_take (i := 17) (v := (.pointer (some ⟨x, 1, .none⟩))) rfl (by kernel_rfl) (by kernel_rfl) (by kernel_rfl) (fun _ _ _ h => h) (Or.inl ⟨by rfl, fun ww hSw => by (try dsimp only at hSw); go_simp⟩) (by assumption) ?_
      simp only [Act.put, List.setIfInBounds_toArray, List.set_cons_zero, List.set_cons_succ, List.getElem_toArray, List.getElem_cons_succ, List.getElem_cons_zero]
      refine wpAnyH_take (i := 18) (v := (.pointer (some ⟨q, 0, .none⟩))) rfl (by kernel_rfl) (by kernel_rfl) (by kernel_rfl) (fun _ _ _ h => h) (Or.inl ⟨by rfl, fun ww hSw => by (try dsimp only at hSw); obtain ⟨q0, q1, q2, q3⟩ := hSw; go_simp⟩) (by assumption) ?_
      simp only [Act.put, List.setIfInBounds_toArray, List.set_cons_zero, List.set_cons_succ, List.getElem_toArray, List.getElem_cons_succ, List.getElem_cons_zero]
      refine wpAnyH_take (i := 19) (v := (.int .u64 pa)) rfl (by kernel_rfl) (by kernel_rfl) (by kernel_rfl) (fun _ _ _ h => h) (Or.inl ⟨by rfl, fun ww hSw => by (try dsimp only at hSw); obtain ⟨q0, q1, q2, q3⟩ := hSw; go_simp⟩) (by assumption) ?_
      simp only [Act.put, List.setIfInBounds_toArray, List.set_cons_zero, List.set_cons_succ, List.getElem_toArray, List.getElem_cons_succ, List.getElem_cons_zero]
      refine wpAnyH_ready (rs := [14]) (by kernel_rfl) (by simp) ?_
      refine AllReadyH.cons rfl (fun K hK => ?_) AllReadyH.nil
      go_simp
      go_at_call 17
      refine c17.mono ?_
      rintro e A3 ⟨rfl, hfA3, c18⟩
      have hS3 := HKP.out A3 hfA3
      refine hK.out _ _ hS3 (fun hHeld => ?_)
      clear hK K
      try simp only [Act.put, List.setIfInBounds_toArray, List.set_cons_zero, List.set_cons_succ, List.getElem_toArray, List.getElem_cons_succ, List.getElem_cons_zero]
      refine wpAnyH_ready (rs := [20]) (by kernel_rfl) (by simp) ?_
      refine AllReadyH.cons rfl (fun K hK => ?_) AllReadyH.nil
      go_simp
      go_at_call 18
      refine (c18 A3 (Below.refl _ _)).mono ?_
      rintro e A4 ⟨rfl, hfA4, fb4, lb4, B4, L4, hP4, hn4⟩
      have hS4 := HKP.out A4 hfA4
      refine hK.out _ _ hS4 (fun hHeld => ?_)
      clear hK K
      try simp only [Act.put, List.setIfInBounds_toArray, List.set_cons_zero, List.set_cons_succ, List.getElem_toArray, List.getElem_cons_succ, List.getElem_cons_zero]
      refine wpAnyH_take (i := 21) (v := (.bool false)) rfl (by kernel_rfl) (by kernel_rfl) (by kernel_rfl) (fun _ _ _ h => h) (Or.inl ⟨by rfl, fun ww hSw => by (try dsimp only at hSw); go_simp⟩) (by assumption) ?_
      simp only [Act.put, List.setIfInBounds_toArray, List.set_cons_zero, List.set_cons_succ, List.getElem_toArray, List.getElem_cons_succ, List.getElem_cons_zero]
      refine wpAnyH_take (i := 22) (v := (.bool false)) rfl (by kernel_rfl) (by kernel_rfl) (by kernel_rfl) (fun _ _ _ h => h) (Or.inl ⟨by rfl, fun ww hSw => by (try dsimp only at hSw); go_simp⟩) (by assumption) ?_
      simp only [Act.put, List.setIfInBounds_toArray, List.set_cons_zero, List.set_cons_succ, List.getElem_toArray, List.getElem_cons_succ, List.getElem_cons_zero]
      refine wpAnyH_done (by kernel_rfl) ?_ _
      gi_wp2
      exact ranged_round HW1.out.2.2.2.2.2.2.2 HWW.out sW HW1.out.1 HW1.out.2.1 HW1.out.2.2.1 HW1.out.2.2.2.1 (fun k hk => (HW1.out.2.2.2.2.1 k hk).1) HW1.out.2.2.2.2.2.1 HA2.out.1 HA2.out.2 hfA4 hn4 hP4 mY (by omega)
    · have HX : Hid (¬ (pre ++ [x']) <+: L) := fun e => hx (prefix_last e hlt)
      have hx' : ((2147483648 + (L[pre.length] : Int) * 4096) != (2147483648 + (x' : Int) * 4096)) = true := by rw [bne_iff_ne]; intro e; exact hx (by omega)
      clear hx
      generalize 2147483648 + (L[pre.length] : Int) * 4096 = v1 at *
      generalize 2147483648 + (x' : Int) * 4096 = v2 at *
      gi_wp2
      exact ⟨(KeepsOthers.setCell _ _ _).from _, rfl, HX.out⟩
  case done =>
    rintro D xs W hD hxs ⟨fb1, lb1, B1, L1, hP, hn, hf, hk, hkf, _⟩ hK
    rw [hxs] at hk
    clear hxs
    have cc : ∀ c o v, w.heap.size ≤ c → c ≠ w1.heap.size + 1 → Y.cell? ⟨c, o, .none⟩ = some v → W.cell? ⟨c, o, .none⟩ = some v := fun c o v h1 h2 h3 => (World.cell?_of_block (HKC.out W c hf h1 (lt_of_cell h3) h2)).trans h3
    have c2 := cc _ _ _ (Nat.le_refl _) (by omega) HY.out.1
    have c4 := cc _ _ _ (by omega) (by omega) HY.out.2.2.1
    have c4f : W.frozen? ⟨w.heap.size + 1 + 1, 0, .none⟩ = false := (World.frozen?_of_block (HKC.out W _ hf (by show w.heap.size ≤ w.heap.size + 1 + 1; omega) (lt_of_cell HY.out.2.2.1) (by show w.heap.size + 1 + 1 ≠ _; omega))).trans HY.out.2.2.2.1
    have cw' := cc _ _ _ (by omega) (by omega) HY.out.2.2.2.2
    have c9 := list_any hP (-1) (by omega)
    have zZ := HZ.out.1
    have HBW : Hid (Below Z w W) := (HBY.out.mono zZ).trans ⟨hf.os, hf.tape, hf.output, hf.size, fun i hi => hf.block i (by omega) (fun e => by
      rcases e with e | e
      · omega
      · have := HZ.out.2 i e; omega)⟩
    have HPW : Hid (Pq Z W x p b m q hb fb1 lb1 N B1 L1 B1 L1 ∧ ¬ Mb p b m q hb lb1 N fb1 L1 (w.heap.size + 1 + 1)) := ⟨hP, fun e => by
      rcases hn _ e with e | e
      · have := HM0.out _ e; omega
      · omega⟩
    have HD : Hid (Df W D) := hK
    clear hP hn hf cc hkf hK
    gi_wp2_with (first | ((first | refine ⟨trivial, fun h => (by cases h), ?_⟩ | refine ⟨trivial, ?_⟩); gi_at_call 9; refine (callsIn_wide.2 c9).mono ?_; rintro e W2 ⟨rfl, hb9⟩; have r4 := (hb9.cell (lt_of_cell c4)).trans c4; have r4f := (hb9.frozen (lt_of_cell c4)).trans c4f) | fail)
    have hD2 := HD.out.below hb9
    have hne : D ≠ w.heap.size + 1 + 1 := fun e => by
      have h := hD2
      rw [Df, e] at h
      simp [World.cell?, h] at r4
    have g9 : Df (W2.setCell ⟨w.heap.size + 1 + 1, 0, .none⟩ (.bool true)) D := (Below.heap_setCell _ _ _ _ (by show D ≠ _; exact hne)).trans hD2
    have e9 : (W2.setCell ⟨w.heap.size + 1 + 1, 0, .none⟩ (.bool true)).cell? ⟨w.heap.size + 1 + 1, 0, .none⟩ = some (.bool true) := World.cell?_setCell_same' _ _ _ (by rw [r4]; rfl)
    have p9 : Pq Z (W2.setCell ⟨w.heap.size + 1 + 1, 0, .none⟩ (.bool true)) x p b m q hb fb1 lb1 N B1 L1 B1 L1 := (HPW.out.1.below hb9).kept (by rw [World.size_setCell]; exact Nat.le_refl _) (fun k hk' => Below.heap_setCell _ _ _ _ (by
      show k ≠ w.heap.size + 1 + 1
      rcases hk' with e | e
      · intro e2; rw [e2] at e; exact HPW.out.2 e
      · omega))
    have b9 : Below Z w (W2.setCell ⟨w.heap.size + 1 + 1, 0, .none⟩ (.bool true)) := (HBW.out.trans (hb9.mono (by have := HPW.out.1.xlt; have := HPW.out.1.zx; omega))).setCell (p := ⟨w.heap.size + 1 + 1, 0, .none⟩) (by show Z ≤ w.heap.size + 1 + 1; omega) _
    generalize W2.setCell ⟨w.heap.size + 1 + 1, 0, .none⟩ (.bool true) = W9 at *
    refine ⟨by simp, .inl ⟨_, _, rfl, run_takeDeferred g9, ?_⟩⟩
    have f9 := cell_kept e9 (grownBy_putObj' W9 D (.deferred none)) (fun r e => by cases e; exact ⟨_, g9, rfl⟩)
    have pz : Pq Z (W9.putObj D (.deferred none)) x p b m q hb fb1 lb1 N B1 L1 B1 L1 := p9.kept (grownBy_putObj' W9 D (.deferred none)).size (fun k hk' => World.putObj_heap_other (fun e => by
      subst e
      obtain ⟨o2, h3, h4⟩ := p9.cells k hk' (by omega)
      rw [g9] at h3
      cases h3
      cases h4))
    have bz := b9.trans (belowK_b (w := w) zZ W9 D _ (.deferred none) (by have := HBY.out.size; omega) g9 rfl rfl)
    have hlt : w.heap.size + 1 + 1 < (W9.putObj D (.deferred none)).heap.size := lt_of_cell f9
    generalize W9.putObj D (.deferred none) = WZ at *
    exact ⟨.bool true, by simp [results, Try.results27, go_sem, f9, hlt], rfl, pz.pl, bz⟩
  case stop =>
    rintro D c pre W hD hsp ⟨rfl, hnp⟩ hK
    exact absurd hsp hnp
end Go.Proofs.Ytnghcadhilfgnaa
