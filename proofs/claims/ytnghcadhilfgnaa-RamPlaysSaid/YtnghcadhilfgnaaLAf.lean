import Derived.Test.YtnghcadhilfgnaaPC
import Derived.Test.YtnghcadhilfgnaaEach
import Derived.Test.YtnghcadhilfgnaaRfC
import Derived.RangeFuncRecord
import Derived.RangeFuncWrites
import Derived.ControlIn
namespace Go.Proofs.Ytnghcadhilfgnaa
open Go.RowKit Go.Shelf
attribute [local go_sem] Oper.semAt_some
set_option linter.unusedVariables false
set_option linter.unusedSimpArgs false
/-- A block for the rounds' deferred calls. -/
def Df (W : World) (D : Nat) : Prop := W.heap[D]? = some (.deferred (some []))
theorem Df.lt {W : World} {D : Nat} (h : Df W D) : D < W.heap.size := (Array.getElem?_eq_some_iff.1 h).1
theorem Df.below {A B : World} {D : Nat} (h : Df A D) (k : Below A.heap.size A B) : Df B D := (k.block D h.lt).trans h
theorem func67 (f : Nat) (c d : Array Value) (w : World) : (binOp .eql 67 (.func (.func f) c d) .nilFunc).run Try.prog w = .ok (.bool false) w := by kernel_rfl
/-- What the body of a ranging over the free frames keeps: all cells but those of kb. -/
def KpL (kb : Nat) (W W' : World) : Prop := ∀ k c t f, W.heap[k]? = some (.cells c t f) → k ≠ kb → W'.heap[k]? = some (.cells c t f)
theorem KpL.trans {kb : Nat} {A B C : World} (h : KpL kb A B) (k : KpL kb B C) : KpL kb A C := fun i c t f hi hk => k i c t f (h i c t f hi hk) hk
theorem KpL.put {kb : Nat} (W : World) (l : Nat) (o o' : Obj) (h : W.heap[l]? = some o) (ho : o.isCells = false) : KpL kb W (W.putObj l o') := fun i c t f hi hk => by
  rw [World.putObj_heap_other (fun e => by rw [e, h] at hi; cases hi; cases ho)]
  exact hi
/-- The law's own variables, and the memory, from U on. -/
structure LU (U : World) (A0 A1 Wb Bn : Nat) (cut : Int) (pw : Option Addr) (cw p b m N : Nat) (B : Nat → Int) (L : List Nat) : Prop where
  a0 : U.cell? ⟨A0, 0, .none⟩ = some (.int .i64 cut)
  a1 : U.cell? ⟨A1, 0, .none⟩ = some (.bool false)
  f1 : U.frozen? ⟨A1, 0, .none⟩ = false
  wb : U.cell? ⟨Wb, 0, .none⟩ = some (.slice pw L.length cw)
  row : ∀ k (hk : k < L.length), ∃ g, pw = some ⟨g, 0, .none⟩ ∧ U.cell? ⟨g, k, .none⟩ = some (adv L[k])
  bn : U.cell? ⟨Bn, 0, .none⟩ = some (.pointer (some ⟨p, 0, .none⟩))
  ram : Ram U p b m N B L
theorem LU.below {U V : World} {A0 A1 Wb Bn : Nat} {cut : Int} {pw : Option Addr} {cw p b m N : Nat} {B : Nat → Int} {L : List Nat} (h : LU U A0 A1 Wb Bn cut pw cw p b m N B L) (k : Below U.heap.size U V) : LU V A0 A1 Wb Bn cut pw cw p b m N B L :=
  ⟨(k.cell (lt_of_cell h.a0)).trans h.a0, (k.cell (lt_of_cell h.a1)).trans h.a1, (k.frozen (lt_of_cell h.a1)).trans h.f1, (k.cell (lt_of_cell h.wb)).trans h.wb, fun i hi => by
    obtain ⟨g, e, hc⟩ := h.row i hi
    exact ⟨g, e, (k.cell (lt_of_cell hc)).trans hc⟩, (k.cell (lt_of_cell h.bn)).trans h.bn, h.ram.below k⟩
theorem LU.fx {U V : World} {A0 A1 Wb Bn kb : Nat} {cut : Int} {pw : Option Addr} {cw p b m N : Nat} {B : Nat → Int} {L : List Nat} (h : LU U A0 A1 Wb Bn cut pw cw p b m N B L) (k : Below U.heap.size U V) {X : World} (f : Fx (fun i => i = kb) V X) (hk : U.heap.size ≤ kb) : LU X A0 A1 Wb Bn cut pw cw p b m N B L :=
  h.below ⟨f.os.trans k.os, f.tape.trans k.tape, f.output.trans k.output, Nat.le_trans k.size f.size, fun i hi => (f.block i (Nat.lt_of_lt_of_le hi k.size) (by omega)).trans (k.block i hi)⟩
theorem ownFrom_fx {β : Type} {V : World} {kb : Nat} : OwnFrom V.heap.size (fun (_ : β) W => Fx (fun i => i = kb) V W) := fun s A B row hs hg hr =>
  ⟨hg.os.trans hs.os, hg.tape.trans hs.tape, hg.output.trans hs.output, Nat.le_trans hs.size hg.size, fun i hi hk => (hg.block i (Nat.lt_of_lt_of_le hi hs.size) (fun e => by have := (hr i e.symm).1; omega)).trans (hs.block i hi hk)⟩
theorem prefix_snoc {L pre : List Nat} (h : pre <+: L) (hlt : pre.length < L.length) : pre ++ [L[pre.length]] <+: L := by
  obtain ⟨t, rfl⟩ := h
  cases t with
  | nil => simp at hlt
  | cons y t =>
    refine ⟨t, ?_⟩
    simp
theorem prefix_last {L pre : List Nat} {x : Nat} (h : pre ++ [x] <+: L) (hlt : pre.length < L.length) : x = L[pre.length] := by
  obtain ⟨t, rfl⟩ := h
  simp
/-- How the ranging stands. -/
def LI (V : World) (kb : Nat) (L pre : List Nat) (W : World) : Prop := (Fx (fun i => i = kb) V W) ∧ W.cell? ⟨kb, 0, .none⟩ = some (.int .i64 pre.length) ∧ W.frozen? ⟨kb, 0, .none⟩ = false ∧ pre <+: L
theorem LI.own {V : World} {kb : Nat} {L : List Nat} : OwnFrom V.heap.size (LI V kb L) := fun s A B row hs hg hr =>
  ⟨ownFrom_fx (β := List Nat) s A B row hs.1 hg hr, cell_kept hs.2.1 hg (fun r e => (hr r e).2), (frozen_kept hs.2.1 hg (fun r e => (hr r e).2)).trans hs.2.2.1, hs.2.2.2⟩
set_option maxHeartbeats 4000000 in
set_option maxRecDepth 100000 in
theorem list_any {Z x p b m q hb lb N : Nat} {fb : Nat → Nat} {B : Nat → Int} {L : List Nat} {w : World} (h : Pq Z w x p b m q hb fb lb N B L B L) (cut : Int) (hcut : -9223372036854775808 ≤ cut ∧ cut ≤ 9223372036854775807) : Calls Try.prog 9 #[.pointer (some ⟨x, 0, .none⟩), .int .i64 cut] w fun e w' => e = .returned (.bool true) ∧ Below w.heap.size w w' := by
  have hq := func67
  have n2 := h.r.mem.n2
  have ll := length_le N L h.r.mem.n1 h.r.nd h.r.lt
  have hB1 : Below w.heap.size w ((w.alloc (.cells #[.int .i64 cut] 3)).alloc (.cells #[.bool false] 4)) := (below_past _ _).alloc (by simp) _
  have h1 := h.below hB1
  obtain ⟨lv, c1, hlr⟩ := h1.qm.lr
  have c30 := freeListQ_any _ q lv L c1 hlr (by omega) (fun i hi => by have := (h1.qm.rg i hi).2; omega)
  have k1 := h1.x1
  have A0 : ((w.alloc (.cells #[.int .i64 cut] 3)).alloc (.cells #[.bool false] 4)).cell? ⟨w.heap.size, 0, .none⟩ = some (.int .i64 cut) := by
    rw [World.cell?_alloc_past _ _ _ (by simp), World.cell?_alloc_at _ _ _ _ rfl]; rfl
  have A1 : ((w.alloc (.cells #[.int .i64 cut] 3)).alloc (.cells #[.bool false] 4)).cell? ⟨w.heap.size + 1, 0, .none⟩ = some (.bool false) := by
    rw [World.cell?_alloc_at _ _ _ _ (by simp)]; rfl
  have F1 : ((w.alloc (.cells #[.int .i64 cut] 3)).alloc (.cells #[.bool false] 4)).frozen? ⟨w.heap.size + 1, 0, .none⟩ = false := by
    have := World.frozen?_alloc_new (w.alloc (.cells #[.int .i64 cut] 3)) #[.bool false] 4 0
    rwa [World.size_alloc] at this
  have hz1 : ((w.alloc (.cells #[.int .i64 cut] 3)).alloc (.cells #[.bool false] 4)).heap.size = w.heap.size + 1 + 1 := by simp only [World.size_alloc]
  clear c1 hlr
  refine (callsIn_wide (n := 3)).1 ?_
  refine callsIn_of_wp_marks Try.func9 rfl trivial ?_ rfl
  simp only [Try.ntmps9, List.size_toArray, List.length_cons, List.length_nil, Nat.reduceAdd, Nat.reduceSub, Array.replicate_succ, Array.replicate_zero, List.push_toArray, List.append_toArray, List.nil_append, List.cons_append]
  gi_wp2_with (first | (refine ⟨trivial, ?_⟩; gi_at_call 30; refine (callsIn_wide.2 c30).mono ?_; rintro e w1 ⟨pw, cw, rfl, hrow, hb1⟩; have k0 := ((h1.below hb1).below (below_past w1 (.cells #[.slice pw L.length cw] 37))).x0) | (refine ⟨trivial, ?_⟩; gi_at_call 31; refine (callsIn_wide.2 (freeList_any (some ⟨p, 0, .none⟩))).mono ?_; rintro e w2 ⟨rfl, rfl⟩) | fail)
  have hb2 : Below w1.heap.size w1 (((w1.alloc (.cells #[.slice pw L.length cw] 37)).alloc (.cells #[.pointer (some ⟨p, 0, .none⟩)] 30)).alloc (.cells #[.int .i64 0] 3)) := ((below_past _ _).alloc (by simp) _).alloc (by simp only [World.size_alloc]; omega) _
  have hb12 := hb1.trans (hb2.mono hb1.size)
  have HLU : Hid (LU (((w1.alloc (.cells #[.slice pw L.length cw] 37)).alloc (.cells #[.pointer (some ⟨p, 0, .none⟩)] 30)).alloc (.cells #[.int .i64 0] 3)) w.heap.size (w.heap.size + 1) w1.heap.size (w1.heap.size + 1) cut pw cw p b m N B L) := by
    refine ⟨(hb12.cell (lt_of_cell A0)).trans A0, (hb12.cell (lt_of_cell A1)).trans A1, (hb12.frozen (lt_of_cell A1)).trans F1, ?_, fun k hk => ?_, ?_, ((h1.below hb1).below hb2).r⟩
    · rw [World.cell?_alloc_past _ _ _ (by simp only [World.size_alloc]; omega), World.cell?_alloc_past _ _ _ (by simp), World.cell?_alloc_at _ _ _ _ rfl]; rfl
    · rcases hrow.2 with ⟨_, h0⟩ | ⟨g, cap, cur, hv, hX, hh, hn, hc, hs, ht⟩
      · omega
      · injection hv with e1 e2 e3
        subst e1
        have hcell : w1.cell? ⟨g, k, .none⟩ = some (adv L[k]) := by
          simp only [World.cell?, hh]
          show cur[k]? = _
          rw [← Array.getElem?_toList, ← List.getElem?_take_of_lt (show k < L.length * 1 by omega), ht, List.getElem?_map, List.getElem?_eq_getElem hk]
          rfl
        exact ⟨g, rfl, (hb2.cell (lt_of_cell hcell)).trans hcell⟩
    · rw [World.cell?_alloc_past _ _ _ (by simp only [World.size_alloc]; omega), World.cell?_alloc_at _ _ _ _ (by simp)]; rfl
  have t0 : (((w1.alloc (.cells #[.slice pw L.length cw] 37)).alloc (.cells #[.pointer (some ⟨p, 0, .none⟩)] 30)).alloc (.cells #[.int .i64 0] 3)).cell? ⟨w1.heap.size + 1 + 1, 0, .none⟩ = some (.int .i64 0) := by
    rw [World.cell?_alloc_at _ _ _ _ (by simp only [World.size_alloc])]; rfl
  have zU : (((w1.alloc (.cells #[.slice pw L.length cw] 37)).alloc (.cells #[.pointer (some ⟨p, 0, .none⟩)] 30)).alloc (.cells #[.int .i64 0] 3)).heap.size = w1.heap.size + 1 + 1 + 1 := by simp only [World.size_alloc]
  have HB0 : Hid (Below w.heap.size w (((w1.alloc (.cells #[.slice pw L.length cw] 37)).alloc (.cells #[.pointer (some ⟨p, 0, .none⟩)] 30)).alloc (.cells #[.int .i64 0] 3))) := hB1.trans (hb12.mono hB1.size)
  have zw1 : w.heap.size + 1 + 1 ≤ w1.heap.size := by have := hb1.size; omega
  have HBX : Hid (Below (((w1.alloc (.cells #[.slice pw L.length cw] 37)).alloc (.cells #[.pointer (some ⟨p, 0, .none⟩)] 30)).alloc (.cells #[.int .i64 0] 3)).heap.size (((w1.alloc (.cells #[.slice pw L.length cw] 37)).alloc (.cells #[.pointer (some ⟨p, 0, .none⟩)] 30)).alloc (.cells #[.int .i64 0] 3)) (((w1.alloc (.cells #[.slice pw L.length cw] 37)).alloc (.cells #[.pointer (some ⟨p, 0, .none⟩)] 30)).alloc (.cells #[.int .i64 0] 3))) := Below.refl _ _
  generalize (((w1.alloc (.cells #[.slice pw L.length cw] 37)).alloc (.cells #[.pointer (some ⟨p, 0, .none⟩)] 30)).alloc (.cells #[.int .i64 0] 3)) = U at *
  clear k0 hrow hb1 hb2 hb12 A0 A1 F1 k1 c30 hB1 hz1 h1 h
  refine wpIn_loop_rounds 3 ?_
  rw [roundsIn_succ]
  gi_wp2
  have hpast0 := below_past U (.cells #[.int .i64 0] 3)
  have HBY0 : Hid (Below U.heap.size U (U.alloc (.cells #[.int .i64 0] 3))) := HBX.out.trans (hpast0.mono HBX.out.size)
  have HT0 : Hid ((U.alloc (.cells #[.int .i64 0] 3)).cell? ⟨w1.heap.size + 1 + 1, 0, .none⟩ = some (.int .i64 0) ∧ w1.heap.size + 1 + 1 < U.heap.size) := ⟨(hpast0.cell (lt_of_cell t0)).trans t0, lt_of_cell t0⟩
  have kz0 : (U.alloc (.cells #[.int .i64 0] 3)).cell? ⟨U.heap.size, 0, .none⟩ = some (.int .i64 0) := by simp
  have kf0 : (U.alloc (.cells #[.int .i64 0] 3)).frozen? ⟨U.heap.size, 0, .none⟩ = false := World.frozen?_alloc_new _ _ _ _
  have ks0 : U.heap.size < (U.alloc (.cells #[.int .i64 0] 3)).heap.size := by simp
  have kU0 : U.heap.size ≤ U.heap.size := HBX.out.size
  have HLY0 : Hid (LU (U.alloc (.cells #[.int .i64 0] 3)) w.heap.size (w.heap.size + 1) w1.heap.size (w1.heap.size + 1) cut pw cw p b m N B L) := HLU.out.below HBY0.out
  clear hpast0 t0 HBX
  generalize hYe0 : U.alloc (.cells #[.int .i64 0] 3) = Y0 at *
  clear hYe0
  rw [zU] at kz0 kf0 ks0
  refine wpIn_rangeFunc_ownF (α := Nat) rfl (by omega) (gf := 61) (lb := #[.pointer (some ⟨w1.heap.size + 1, 0, .none⟩)]) rfl trivial (enters_of Try.func61 (by kernel_rfl) rfl)
    (free_seq HLY0.out.ram 2 (w1.heap.size + 1) (lt_of_cell HLY0.out.bn) HLY0.out.bn (KpL (w1.heap.size + 1 + 1 + 1)) (fun g _ => g ≠ (w1.heap.size + 1 + 1 + 1)) (fun W W' g cur k hg hh => ⟨k g cur 26 (0, 0) hh hg, hg⟩) (fun W W2 g h1 h2 hg => by have := h1.size; omega)) KpL.trans (fun W l o o' hl' ho hcs _ => KpL.put W l o o' ho hcs) (Below.refl _ _) (fun _ => rfl)
    (LI Y0 (w1.heap.size + 1 + 1 + 1) L) (fun c xs W => (c = .ret ∧ ¬ xs <+: L) ∨ (c = .exit 2 ∧ LI Y0 (w1.heap.size + 1 + 1 + 1) L xs W ∧ (xs.length : Int) = cut)) LI.own (fun c s A B row hs hg hr => by rcases hs with hs | ⟨h1, h2, h3⟩; exact .inl hs; exact .inr ⟨h1, LI.own s A B row h2 hg hr, h3⟩) ⟨Fx.refl _ _, kz0, kf0, List.nil_prefix⟩ ?aa1 ?assign1 ?body1 ?done1 ?stop1
  case assign1 =>
    intro l x' W K hK
    gi_wp2
    exact hK
  case body1 =>
    rintro l pre x' W ⟨hfx, hk, hkf, hpre⟩ hlt
    have hlu := HLU.out.fx HBY0.out hfx (by omega)
    have a0 := hlu.a0
    have a1 := hlu.a1
    have f1 := hlu.f1
    have wb := hlu.wb
    obtain ⟨g, rfl, hrow⟩ := hlu.row pre.length hlt
    have tt : W.cell? ⟨w1.heap.size + 1 + 1, 0, .none⟩ = some (.int .i64 0) := (World.cell?_of_block (hfx.block _ (lt_of_cell HT0.out.1) (by show ¬ w1.heap.size + 1 + 1 = (w1.heap.size + 1 + 1 + 1); have := HT0.out.2; omega))).trans HT0.out.1
    have g0 : (pre.length : Int) < L.length := by omega
    have g1 : ¬ ((L.length : Int) ≤ pre.length) := by omega
    have HI : Hid (LI Y0 (w1.heap.size + 1 + 1 + 1) L pre W ∧ pre <+: L) := ⟨⟨hfx, hk, hkf, hpre⟩, hpre⟩
    clear hlu hfx hpre
    simp only [adv] at hrow ⊢
    by_cases hx : x' = L[pre.length]
    · have HN : Hid (LI Y0 (w1.heap.size + 1 + 1 + 1) L (pre ++ [x']) (W.setCell ⟨(w1.heap.size + 1 + 1 + 1), 0, .none⟩ (.int .i64 ((pre.length : Int) + 1)))) := by
        refine ⟨HI.out.1.1.setCell _ _ rfl, ?_, (World.frozen?_setCell ..).trans hkf, ?_⟩
        · rw [World.cell?_setCell_same' _ _ _ (by rw [hk]; rfl), List.length_append]
          rfl
        · rw [hx]; exact prefix_snoc HI.out.2 hlt
      have HK : Hid (KeepsOthers W (W.setCell ⟨(w1.heap.size + 1 + 1 + 1), 0, .none⟩ (.int .i64 ((pre.length : Int) + 1))) ∧ KpL (w1.heap.size + 1 + 1 + 1) W (W.setCell ⟨(w1.heap.size + 1 + 1 + 1), 0, .none⟩ (.int .i64 ((pre.length : Int) + 1)))) := ⟨KeepsOthers.setCell _ _ _, fun i c t f hi hne => by rw [Below.heap_setCell _ _ _ _ (by show i ≠ (w1.heap.size + 1 + 1 + 1); exact hne)]; exact hi⟩
      have hx' : ((2147483648 + (L[pre.length] : Int) * 4096) != (2147483648 + (x' : Int) * 4096)) = false := by rw [← hx]; simp
      have kk : (W.setCell ⟨(w1.heap.size + 1 + 1 + 1), 0, .none⟩ (.int .i64 ((pre.length : Int) + 1))).cell? ⟨(w1.heap.size + 1 + 1 + 1), 0, .none⟩ = some (.int .i64 ((pre.length : Int) + 1)) := World.cell?_setCell_same' _ _ _ (by rw [hk]; rfl)
      have t2 : (W.setCell ⟨(w1.heap.size + 1 + 1 + 1), 0, .none⟩ (.int .i64 ((pre.length : Int) + 1))).cell? ⟨w1.heap.size + 1 + 1, 0, .none⟩ = some (.int .i64 0) := (World.cell?_setCell_other _ _ _ _ (by simp only [ne_eq, Addr.mk.injEq, and_true, not_and]; intro e; have := HT0.out.2; omega)).trans tt
      have a2 : (W.setCell ⟨(w1.heap.size + 1 + 1 + 1), 0, .none⟩ (.int .i64 ((pre.length : Int) + 1))).cell? ⟨w.heap.size, 0, .none⟩ = some (.int .i64 cut) := (World.cell?_setCell_other _ _ _ _ (by simp only [ne_eq, Addr.mk.injEq, and_true, not_and]; intro e; omega)).trans a0
      clear hx
      generalize 2147483648 + (L[pre.length] : Int) * 4096 = v1 at *
      generalize 2147483648 + (x' : Int) * 4096 = v2 at *
      by_cases hc : (pre.length : Int) + 1 = cut
      · have hc' : ((pre.length : Int) + 1 == cut) = true := by rw [beq_iff_eq]; exact hc
        have HC : Hid (((pre ++ [x']).length : Int) = cut) := by show _ = _; rw [← hc]; simp
        clear hc
        gi_wp2
        exact ⟨HK.out.1, .inr ⟨rfl, HN.out, HC.out⟩⟩
      · have hc' : ((pre.length : Int) + 1 == cut) = false := by rw [beq_eq_false_iff_ne]; exact hc
        clear hc
        gi_wp2
        exact ⟨HK.out.1, HK.out.2, HN.out⟩
    · have HX : Hid (¬ (pre ++ [x']) <+: L) := fun e => hx (prefix_last e hlt)
      have hx' : ((2147483648 + (L[pre.length] : Int) * 4096) != (2147483648 + (x' : Int) * 4096)) = true := by rw [bne_iff_ne]; intro e; exact hx (by omega)
      clear hx
      generalize 2147483648 + (L[pre.length] : Int) * 4096 = v1 at *
      generalize 2147483648 + (x' : Int) * 4096 = v2 at *
      gi_wp2
      exact ⟨KeepsOthers.setCell _ _ _, .inl ⟨rfl, HX.out⟩⟩
  case done1 =>
    rintro D0 xs W hD hxs ⟨hfx, hk, hkf, _⟩ hK
    rw [hxs] at hk
    clear hxs
    have hlu := HLU.out.fx HBY0.out hfx (by omega)
    have a0 := hlu.a0
    have wb := hlu.wb
    have tt : W.cell? ⟨w1.heap.size + 1 + 1, 0, .none⟩ = some (.int .i64 0) := (World.cell?_of_block (hfx.block _ (lt_of_cell HT0.out.1) (by show ¬ w1.heap.size + 1 + 1 = (w1.heap.size + 1 + 1 + 1); have := HT0.out.2; omega))).trans HT0.out.1
    have HBW0 : Hid (Below U.heap.size U W) := ⟨hfx.os.trans HBY0.out.os, hfx.tape.trans HBY0.out.tape, hfx.output.trans HBY0.out.output, Nat.le_trans HBY0.out.size hfx.size, fun i hi => (hfx.block i (Nat.lt_of_lt_of_le hi HBY0.out.size) (by omega)).trans (HBY0.out.block i hi)⟩
    have HDW0 : Hid (Df W D0) := hK
    have ne0 : D0 ≥ Y0.heap.size := hD
    clear hlu hfx hK hD
    gi_wp2
    have wpp := below_past W (.cells #[.int .i64 1] 3)
    have HBX1 : Hid (Below U.heap.size U (W.alloc (.cells #[.int .i64 1] 3))) := HBW0.out.trans (wpp.mono HBW0.out.size)
    have t1 : (W.alloc (.cells #[.int .i64 1] 3)).cell? ⟨W.heap.size, 0, .none⟩ = some (.int .i64 1) := by simp
    have HD0 : Hid (Df (W.alloc (.cells #[.int .i64 1] 3)) D0) := HDW0.out.below wpp
    clear wpp
    generalize hXe0 : (W.alloc (.cells #[.int .i64 1] 3)) = X1 at *
    clear hXe0
    generalize hTe0 : W.heap.size = T1 at *
    clear hTe0
    rw [roundsIn_succ]
    gi_wp2
    have hpast1 := below_past X1 (.cells #[.int .i64 0] 3)
    have HBY1 : Hid (Below U.heap.size U (X1.alloc (.cells #[.int .i64 0] 3))) := HBX1.out.trans (hpast1.mono HBX1.out.size)
    have HT1 : Hid ((X1.alloc (.cells #[.int .i64 0] 3)).cell? ⟨T1, 0, .none⟩ = some (.int .i64 1) ∧ T1 < X1.heap.size) := ⟨(hpast1.cell (lt_of_cell t1)).trans t1, lt_of_cell t1⟩
    have HDY1D0 : Hid (Df (X1.alloc (.cells #[.int .i64 0] 3)) D0 ∧ D0 < X1.heap.size) := ⟨HD0.out.below hpast1, HD0.out.lt⟩
    clear HD0
    have kz1 : (X1.alloc (.cells #[.int .i64 0] 3)).cell? ⟨X1.heap.size, 0, .none⟩ = some (.int .i64 0) := by simp
    have kf1 : (X1.alloc (.cells #[.int .i64 0] 3)).frozen? ⟨X1.heap.size, 0, .none⟩ = false := World.frozen?_alloc_new _ _ _ _
    have ks1 : X1.heap.size < (X1.alloc (.cells #[.int .i64 0] 3)).heap.size := by simp
    have kU1 : U.heap.size ≤ X1.heap.size := HBX1.out.size
    have HLY1 : Hid (LU (X1.alloc (.cells #[.int .i64 0] 3)) w.heap.size (w.heap.size + 1) w1.heap.size (w1.heap.size + 1) cut pw cw p b m N B L) := HLU.out.below HBY1.out
    clear hpast1 t1 HBX1
    generalize hYe1 : X1.alloc (.cells #[.int .i64 0] 3) = Y1 at *
    clear hYe1
    generalize hkb1 : X1.heap.size = kb1 at *
    clear hkb1
    refine wpIn_rangeFunc_ownF (α := Nat) rfl (by omega) (gf := 61) (lb := #[.pointer (some ⟨w1.heap.size + 1, 0, .none⟩)]) rfl trivial (enters_of Try.func61 (by kernel_rfl) rfl)
      (free_seq HLY1.out.ram 2 (w1.heap.size + 1) (lt_of_cell HLY1.out.bn) HLY1.out.bn (KpL kb1) (fun g _ => g ≠ kb1) (fun W W' g cur k hg hh => ⟨k g cur 26 (0, 0) hh hg, hg⟩) (fun W W2 g h1 h2 hg => by have := h1.size; omega)) KpL.trans (fun W l o o' hl' ho hcs _ => KpL.put W l o o' ho hcs) (Below.refl _ _) (fun _ => rfl)
      (LI Y1 kb1 L) (fun c xs W => c = .ret ∧ ¬ xs <+: L) LI.own (fun c s A B row hs hg hr => hs) ⟨Fx.refl _ _, kz1, kf1, List.nil_prefix⟩ ?aa2 ?assign2 ?body2 ?done2 ?stop2
    case assign2 =>
      intro l x' W K hK
      gi_wp2
      exact hK
    case body2 =>
      rintro l pre x' W ⟨hfx, hk, hkf, hpre⟩ hlt
      have hlu := HLU.out.fx HBY1.out hfx (by omega)
      have a0 := hlu.a0
      have a1 := hlu.a1
      have f1 := hlu.f1
      have wb := hlu.wb
      obtain ⟨g, rfl, hrow⟩ := hlu.row pre.length hlt
      have tt : W.cell? ⟨T1, 0, .none⟩ = some (.int .i64 1) := (World.cell?_of_block (hfx.block _ (lt_of_cell HT1.out.1) (by show ¬ T1 = kb1; have := HT1.out.2; omega))).trans HT1.out.1
      have g0 : (pre.length : Int) < L.length := by omega
      have g1 : ¬ ((L.length : Int) ≤ pre.length) := by omega
      have HI : Hid (LI Y1 kb1 L pre W ∧ pre <+: L) := ⟨⟨hfx, hk, hkf, hpre⟩, hpre⟩
      clear hlu hfx hpre
      simp only [adv] at hrow ⊢
      by_cases hx : x' = L[pre.length]
      · have HN : Hid (LI Y1 kb1 L (pre ++ [x']) (W.setCell ⟨kb1, 0, .none⟩ (.int .i64 ((pre.length : Int) + 1)))) := by
          refine ⟨HI.out.1.1.setCell _ _ rfl, ?_, (World.frozen?_setCell ..).trans hkf, ?_⟩
          · rw [World.cell?_setCell_same' _ _ _ (by rw [hk]; rfl), List.length_append]
            rfl
          · rw [hx]; exact prefix_snoc HI.out.2 hlt
        have HK : Hid (KeepsOthers W (W.setCell ⟨kb1, 0, .none⟩ (.int .i64 ((pre.length : Int) + 1))) ∧ KpL kb1 W (W.setCell ⟨kb1, 0, .none⟩ (.int .i64 ((pre.length : Int) + 1)))) := ⟨KeepsOthers.setCell _ _ _, fun i c t f hi hne => by rw [Below.heap_setCell _ _ _ _ (by show i ≠ kb1; exact hne)]; exact hi⟩
        have hx' : ((2147483648 + (L[pre.length] : Int) * 4096) != (2147483648 + (x' : Int) * 4096)) = false := by rw [← hx]; simp
        have kk : (W.setCell ⟨kb1, 0, .none⟩ (.int .i64 ((pre.length : Int) + 1))).cell? ⟨kb1, 0, .none⟩ = some (.int .i64 ((pre.length : Int) + 1)) := World.cell?_setCell_same' _ _ _ (by rw [hk]; rfl)
        have t2 : (W.setCell ⟨kb1, 0, .none⟩ (.int .i64 ((pre.length : Int) + 1))).cell? ⟨T1, 0, .none⟩ = some (.int .i64 1) := (World.cell?_setCell_other _ _ _ _ (by simp only [ne_eq, Addr.mk.injEq, and_true, not_and]; intro e; have := HT1.out.2; omega)).trans tt
        have a2 : (W.setCell ⟨kb1, 0, .none⟩ (.int .i64 ((pre.length : Int) + 1))).cell? ⟨w.heap.size, 0, .none⟩ = some (.int .i64 cut) := (World.cell?_setCell_other _ _ _ _ (by simp only [ne_eq, Addr.mk.injEq, and_true, not_and]; intro e; omega)).trans a0
        clear hx
        generalize 2147483648 + (L[pre.length] : Int) * 4096 = v1 at *
        generalize 2147483648 + (x' : Int) * 4096 = v2 at *
        gi_wp2
        exact ⟨HK.out.1, HK.out.2, HN.out⟩
      · have HX : Hid (¬ (pre ++ [x']) <+: L) := fun e => hx (prefix_last e hlt)
        have hx' : ((2147483648 + (L[pre.length] : Int) * 4096) != (2147483648 + (x' : Int) * 4096)) = true := by rw [bne_iff_ne]; intro e; exact hx (by omega)
        clear hx
        generalize 2147483648 + (L[pre.length] : Int) * 4096 = v1 at *
        generalize 2147483648 + (x' : Int) * 4096 = v2 at *
        gi_wp2
        exact ⟨KeepsOthers.setCell _ _ _, ⟨rfl, HX.out⟩⟩
    case done2 =>
      rintro D1 xs W hD hxs ⟨hfx, hk, hkf, _⟩ hK
      rw [hxs] at hk
      clear hxs
      have hlu := HLU.out.fx HBY1.out hfx (by omega)
      have a0 := hlu.a0
      have wb := hlu.wb
      have tt : W.cell? ⟨T1, 0, .none⟩ = some (.int .i64 1) := (World.cell?_of_block (hfx.block _ (lt_of_cell HT1.out.1) (by show ¬ T1 = kb1; have := HT1.out.2; omega))).trans HT1.out.1
      have HBW1 : Hid (Below U.heap.size U W) := ⟨hfx.os.trans HBY1.out.os, hfx.tape.trans HBY1.out.tape, hfx.output.trans HBY1.out.output, Nat.le_trans HBY1.out.size hfx.size, fun i hi => (hfx.block i (Nat.lt_of_lt_of_le hi HBY1.out.size) (by omega)).trans (HBY1.out.block i hi)⟩
      have HDW1 : Hid (Df W D1) := hK
      have HDW1D0 : Hid (Df W D0) := (hfx.block D0 HDY1D0.out.1.lt (by have := HDY1D0.out.2; omega)).trans HDY1D0.out.1
      have ne1 : D1 ≥ Y1.heap.size := hD
      clear hlu hfx hK hD
      gi_wp2
      have wpp := below_past W (.cells #[.int .i64 2] 3)
      have HBX2 : Hid (Below U.heap.size U (W.alloc (.cells #[.int .i64 2] 3))) := HBW1.out.trans (wpp.mono HBW1.out.size)
      have t2 : (W.alloc (.cells #[.int .i64 2] 3)).cell? ⟨W.heap.size, 0, .none⟩ = some (.int .i64 2) := by simp
      have HD0 : Hid (Df (W.alloc (.cells #[.int .i64 2] 3)) D0) := HDW1D0.out.below wpp
      have HD1 : Hid (Df (W.alloc (.cells #[.int .i64 2] 3)) D1) := HDW1.out.below wpp
      clear wpp
      generalize hXe1 : (W.alloc (.cells #[.int .i64 2] 3)) = X2 at *
      clear hXe1
      generalize hTe1 : W.heap.size = T2 at *
      clear hTe1
      have r2 := (HLU.out.below HBX2.out).a1
      have f2 := (HLU.out.below HBX2.out).f1
      rw [roundsIn_succ]
      gi_wp2
      have hB2 : Below w.heap.size w X2 := HB0.out.trans (HBX2.out.mono HB0.out.size)
      have hR0 : D0 ≠ w.heap.size + 1 := fun e => by
        have h := HD0.out
        rw [Df, e] at h
        simp [World.cell?, h] at r2
      have hR1 : D1 ≠ w.heap.size + 1 := fun e => by
        have h := HD1.out
        rw [Df, e] at h
        simp [World.cell?, h] at r2
      have hD10 : D0 ≠ D1 := by
        have := HDY1D0.out.2
        omega
      have g1 : Df (X2.setCell ⟨w.heap.size + 1, 0, .none⟩ (.bool true)) D1 := (Below.heap_setCell _ _ _ _ (by show D1 ≠ w.heap.size + 1; exact hR1)).trans HD1.out
      have g0 : Df (X2.setCell ⟨w.heap.size + 1, 0, .none⟩ (.bool true)) D0 := (Below.heap_setCell _ _ _ _ (by show D0 ≠ w.heap.size + 1; exact hR0)).trans HD0.out
      have e0 : (X2.setCell ⟨w.heap.size + 1, 0, .none⟩ (.bool true)).cell? ⟨w.heap.size + 1, 0, .none⟩ = some (.bool true) := World.cell?_setCell_same' _ _ _ (by rw [r2]; rfl)
      have hB9 : Below w.heap.size w (X2.setCell ⟨w.heap.size + 1, 0, .none⟩ (.bool true)) := hB2.setCell (p := ⟨w.heap.size + 1, 0, .none⟩) (by show w.heap.size ≤ w.heap.size + 1; omega) _
      generalize X2.setCell ⟨w.heap.size + 1, 0, .none⟩ (.bool true) = W9 at *
      have g0' : Df (W9.putObj D1 (.deferred none)) D0 := (World.putObj_heap_other hD10).trans g0
      have e1 := cell_kept e0 (grownBy_putObj' W9 D1 (.deferred none)) (fun r e => by cases e; exact ⟨_, g1, rfl⟩)
      have hB10 := hB9.trans (belowK_b (w := w) (Nat.le_refl _) W9 D1 _ (.deferred none) (by omega) g1 rfl rfl)
      have e2 := cell_kept e1 (grownBy_putObj' (W9.putObj D1 (.deferred none)) D0 (.deferred none)) (fun r e => by cases e; exact ⟨_, g0', rfl⟩)
      have hB11 := hB10.trans (belowK_b (w := w) (Nat.le_refl _) (W9.putObj D1 (.deferred none)) D0 _ (.deferred none) (by omega) g0' rfl rfl)
      refine ⟨by simp, .inl ⟨_, _, rfl, run_takeDeferred g1, by simp, .inl ⟨_, _, rfl, run_takeDeferred g0', ?_⟩⟩⟩
      have hlt : w.heap.size + 1 < ((W9.putObj D1 (.deferred none)).putObj D0 (.deferred none)).heap.size := lt_of_cell e2
      generalize (W9.putObj D1 (.deferred none)).putObj D0 (.deferred none) = WZ at *
      exact ⟨.bool true, by simp [results, Try.results9, go_sem, e2, hlt], rfl, hB11⟩
    case stop2 =>
      rintro D1 c pre W hD hsp ⟨rfl, hnp⟩ hK
      exact absurd hsp hnp
  case stop1 =>
    rintro D0 c pre W hD hsp hix hK
    rcases hix with ⟨rfl, hnp⟩ | ⟨rfl, ⟨hfx, hk, hkf, _⟩, hc⟩
    · exact absurd hsp hnp
    · have hc2 : ((pre.length : Int) != cut) = false := by rw [hc]; simp
      by_cases hkl : (pre.length : Int) = L.length
      · have hkl' : ((pre.length : Int) != L.length) = false := by rw [hkl]; simp
        clear hkl hc
        have hlu := HLU.out.fx HBY0.out hfx (by omega)
        have a0 := hlu.a0
        have wb := hlu.wb
        have tt : W.cell? ⟨w1.heap.size + 1 + 1, 0, .none⟩ = some (.int .i64 0) := (World.cell?_of_block (hfx.block _ (lt_of_cell HT0.out.1) (by show ¬ w1.heap.size + 1 + 1 = (w1.heap.size + 1 + 1 + 1); have := HT0.out.2; omega))).trans HT0.out.1
        have HBW0 : Hid (Below U.heap.size U W) := ⟨hfx.os.trans HBY0.out.os, hfx.tape.trans HBY0.out.tape, hfx.output.trans HBY0.out.output, Nat.le_trans HBY0.out.size hfx.size, fun i hi => (hfx.block i (Nat.lt_of_lt_of_le hi HBY0.out.size) (by omega)).trans (HBY0.out.block i hi)⟩
        have HDW0 : Hid (Df W D0) := hK
        have ne0 : D0 ≥ Y0.heap.size := hD
        clear hlu hfx hK hD
        gi_wp2
        have wpp := below_past W (.cells #[.int .i64 1] 3)
        have HBX1 : Hid (Below U.heap.size U (W.alloc (.cells #[.int .i64 1] 3))) := HBW0.out.trans (wpp.mono HBW0.out.size)
        have t1 : (W.alloc (.cells #[.int .i64 1] 3)).cell? ⟨W.heap.size, 0, .none⟩ = some (.int .i64 1) := by simp
        have HD0 : Hid (Df (W.alloc (.cells #[.int .i64 1] 3)) D0) := HDW0.out.below wpp
        clear wpp
        generalize hXe0 : (W.alloc (.cells #[.int .i64 1] 3)) = X1 at *
        clear hXe0
        generalize hTe0 : W.heap.size = T1 at *
        clear hTe0
        rw [roundsIn_succ]
        gi_wp2
        have hpast1 := below_past X1 (.cells #[.int .i64 0] 3)
        have HBY1 : Hid (Below U.heap.size U (X1.alloc (.cells #[.int .i64 0] 3))) := HBX1.out.trans (hpast1.mono HBX1.out.size)
        have HT1 : Hid ((X1.alloc (.cells #[.int .i64 0] 3)).cell? ⟨T1, 0, .none⟩ = some (.int .i64 1) ∧ T1 < X1.heap.size) := ⟨(hpast1.cell (lt_of_cell t1)).trans t1, lt_of_cell t1⟩
        have HDY1D0 : Hid (Df (X1.alloc (.cells #[.int .i64 0] 3)) D0 ∧ D0 < X1.heap.size) := ⟨HD0.out.below hpast1, HD0.out.lt⟩
        clear HD0
        have kz1 : (X1.alloc (.cells #[.int .i64 0] 3)).cell? ⟨X1.heap.size, 0, .none⟩ = some (.int .i64 0) := by simp
        have kf1 : (X1.alloc (.cells #[.int .i64 0] 3)).frozen? ⟨X1.heap.size, 0, .none⟩ = false := World.frozen?_alloc_new _ _ _ _
        have ks1 : X1.heap.size < (X1.alloc (.cells #[.int .i64 0] 3)).heap.size := by simp
        have kU1 : U.heap.size ≤ X1.heap.size := HBX1.out.size
        have HLY1 : Hid (LU (X1.alloc (.cells #[.int .i64 0] 3)) w.heap.size (w.heap.size + 1) w1.heap.size (w1.heap.size + 1) cut pw cw p b m N B L) := HLU.out.below HBY1.out
        clear hpast1 t1 HBX1
        generalize hYe1 : X1.alloc (.cells #[.int .i64 0] 3) = Y1 at *
        clear hYe1
        generalize hkb1 : X1.heap.size = kb1 at *
        clear hkb1
        refine wpIn_rangeFunc_ownF (α := Nat) rfl (by omega) (gf := 61) (lb := #[.pointer (some ⟨w1.heap.size + 1, 0, .none⟩)]) rfl trivial (enters_of Try.func61 (by kernel_rfl) rfl)
          (free_seq HLY1.out.ram 2 (w1.heap.size + 1) (lt_of_cell HLY1.out.bn) HLY1.out.bn (KpL kb1) (fun g _ => g ≠ kb1) (fun W W' g cur k hg hh => ⟨k g cur 26 (0, 0) hh hg, hg⟩) (fun W W2 g h1 h2 hg => by have := h1.size; omega)) KpL.trans (fun W l o o' hl' ho hcs _ => KpL.put W l o o' ho hcs) (Below.refl _ _) (fun _ => rfl)
          (LI Y1 kb1 L) (fun c xs W => c = .ret ∧ ¬ xs <+: L) LI.own (fun c s A B row hs hg hr => hs) ⟨Fx.refl _ _, kz1, kf1, List.nil_prefix⟩ ?aa3 ?assign3 ?body3 ?done3 ?stop3
        case assign3 =>
          intro l x' W K hK
          gi_wp2
          exact hK
        case body3 =>
          rintro l pre x' W ⟨hfx, hk, hkf, hpre⟩ hlt
          have hlu := HLU.out.fx HBY1.out hfx (by omega)
          have a0 := hlu.a0
          have a1 := hlu.a1
          have f1 := hlu.f1
          have wb := hlu.wb
          obtain ⟨g, rfl, hrow⟩ := hlu.row pre.length hlt
          have tt : W.cell? ⟨T1, 0, .none⟩ = some (.int .i64 1) := (World.cell?_of_block (hfx.block _ (lt_of_cell HT1.out.1) (by show ¬ T1 = kb1; have := HT1.out.2; omega))).trans HT1.out.1
          have g0 : (pre.length : Int) < L.length := by omega
          have g1 : ¬ ((L.length : Int) ≤ pre.length) := by omega
          have HI : Hid (LI Y1 kb1 L pre W ∧ pre <+: L) := ⟨⟨hfx, hk, hkf, hpre⟩, hpre⟩
          clear hlu hfx hpre
          simp only [adv] at hrow ⊢
          by_cases hx : x' = L[pre.length]
          · have HN : Hid (LI Y1 kb1 L (pre ++ [x']) (W.setCell ⟨kb1, 0, .none⟩ (.int .i64 ((pre.length : Int) + 1)))) := by
              refine ⟨HI.out.1.1.setCell _ _ rfl, ?_, (World.frozen?_setCell ..).trans hkf, ?_⟩
              · rw [World.cell?_setCell_same' _ _ _ (by rw [hk]; rfl), List.length_append]
                rfl
              · rw [hx]; exact prefix_snoc HI.out.2 hlt
            have HK : Hid (KeepsOthers W (W.setCell ⟨kb1, 0, .none⟩ (.int .i64 ((pre.length : Int) + 1))) ∧ KpL kb1 W (W.setCell ⟨kb1, 0, .none⟩ (.int .i64 ((pre.length : Int) + 1)))) := ⟨KeepsOthers.setCell _ _ _, fun i c t f hi hne => by rw [Below.heap_setCell _ _ _ _ (by show i ≠ kb1; exact hne)]; exact hi⟩
            have hx' : ((2147483648 + (L[pre.length] : Int) * 4096) != (2147483648 + (x' : Int) * 4096)) = false := by rw [← hx]; simp
            have kk : (W.setCell ⟨kb1, 0, .none⟩ (.int .i64 ((pre.length : Int) + 1))).cell? ⟨kb1, 0, .none⟩ = some (.int .i64 ((pre.length : Int) + 1)) := World.cell?_setCell_same' _ _ _ (by rw [hk]; rfl)
            have t2 : (W.setCell ⟨kb1, 0, .none⟩ (.int .i64 ((pre.length : Int) + 1))).cell? ⟨T1, 0, .none⟩ = some (.int .i64 1) := (World.cell?_setCell_other _ _ _ _ (by simp only [ne_eq, Addr.mk.injEq, and_true, not_and]; intro e; have := HT1.out.2; omega)).trans tt
            have a2 : (W.setCell ⟨kb1, 0, .none⟩ (.int .i64 ((pre.length : Int) + 1))).cell? ⟨w.heap.size, 0, .none⟩ = some (.int .i64 cut) := (World.cell?_setCell_other _ _ _ _ (by simp only [ne_eq, Addr.mk.injEq, and_true, not_and]; intro e; omega)).trans a0
            clear hx
            generalize 2147483648 + (L[pre.length] : Int) * 4096 = v1 at *
            generalize 2147483648 + (x' : Int) * 4096 = v2 at *
            gi_wp2
            exact ⟨HK.out.1, HK.out.2, HN.out⟩
          · have HX : Hid (¬ (pre ++ [x']) <+: L) := fun e => hx (prefix_last e hlt)
            have hx' : ((2147483648 + (L[pre.length] : Int) * 4096) != (2147483648 + (x' : Int) * 4096)) = true := by rw [bne_iff_ne]; intro e; exact hx (by omega)
            clear hx
            generalize 2147483648 + (L[pre.length] : Int) * 4096 = v1 at *
            generalize 2147483648 + (x' : Int) * 4096 = v2 at *
            gi_wp2
            exact ⟨KeepsOthers.setCell _ _ _, ⟨rfl, HX.out⟩⟩
        case done3 =>
          rintro D1 xs W hD hxs ⟨hfx, hk, hkf, _⟩ hK
          rw [hxs] at hk
          clear hxs
          have hlu := HLU.out.fx HBY1.out hfx (by omega)
          have a0 := hlu.a0
          have wb := hlu.wb
          have tt : W.cell? ⟨T1, 0, .none⟩ = some (.int .i64 1) := (World.cell?_of_block (hfx.block _ (lt_of_cell HT1.out.1) (by show ¬ T1 = kb1; have := HT1.out.2; omega))).trans HT1.out.1
          have HBW1 : Hid (Below U.heap.size U W) := ⟨hfx.os.trans HBY1.out.os, hfx.tape.trans HBY1.out.tape, hfx.output.trans HBY1.out.output, Nat.le_trans HBY1.out.size hfx.size, fun i hi => (hfx.block i (Nat.lt_of_lt_of_le hi HBY1.out.size) (by omega)).trans (HBY1.out.block i hi)⟩
          have HDW1 : Hid (Df W D1) := hK
          have HDW1D0 : Hid (Df W D0) := (hfx.block D0 HDY1D0.out.1.lt (by have := HDY1D0.out.2; omega)).trans HDY1D0.out.1
          have ne1 : D1 ≥ Y1.heap.size := hD
          clear hlu hfx hK hD
          gi_wp2
          have wpp := below_past W (.cells #[.int .i64 2] 3)
          have HBX2 : Hid (Below U.heap.size U (W.alloc (.cells #[.int .i64 2] 3))) := HBW1.out.trans (wpp.mono HBW1.out.size)
          have t2 : (W.alloc (.cells #[.int .i64 2] 3)).cell? ⟨W.heap.size, 0, .none⟩ = some (.int .i64 2) := by simp
          have HD0 : Hid (Df (W.alloc (.cells #[.int .i64 2] 3)) D0) := HDW1D0.out.below wpp
          have HD1 : Hid (Df (W.alloc (.cells #[.int .i64 2] 3)) D1) := HDW1.out.below wpp
          clear wpp
          generalize hXe1 : (W.alloc (.cells #[.int .i64 2] 3)) = X2 at *
          clear hXe1
          generalize hTe1 : W.heap.size = T2 at *
          clear hTe1
          have r2 := (HLU.out.below HBX2.out).a1
          have f2 := (HLU.out.below HBX2.out).f1
          rw [roundsIn_succ]
          gi_wp2
          have hB2 : Below w.heap.size w X2 := HB0.out.trans (HBX2.out.mono HB0.out.size)
          have hR0 : D0 ≠ w.heap.size + 1 := fun e => by
            have h := HD0.out
            rw [Df, e] at h
            simp [World.cell?, h] at r2
          have hR1 : D1 ≠ w.heap.size + 1 := fun e => by
            have h := HD1.out
            rw [Df, e] at h
            simp [World.cell?, h] at r2
          have hD10 : D0 ≠ D1 := by
            have := HDY1D0.out.2
            omega
          have g1 : Df (X2.setCell ⟨w.heap.size + 1, 0, .none⟩ (.bool true)) D1 := (Below.heap_setCell _ _ _ _ (by show D1 ≠ w.heap.size + 1; exact hR1)).trans HD1.out
          have g0 : Df (X2.setCell ⟨w.heap.size + 1, 0, .none⟩ (.bool true)) D0 := (Below.heap_setCell _ _ _ _ (by show D0 ≠ w.heap.size + 1; exact hR0)).trans HD0.out
          have e0 : (X2.setCell ⟨w.heap.size + 1, 0, .none⟩ (.bool true)).cell? ⟨w.heap.size + 1, 0, .none⟩ = some (.bool true) := World.cell?_setCell_same' _ _ _ (by rw [r2]; rfl)
          have hB9 : Below w.heap.size w (X2.setCell ⟨w.heap.size + 1, 0, .none⟩ (.bool true)) := hB2.setCell (p := ⟨w.heap.size + 1, 0, .none⟩) (by show w.heap.size ≤ w.heap.size + 1; omega) _
          generalize X2.setCell ⟨w.heap.size + 1, 0, .none⟩ (.bool true) = W9 at *
          have g0' : Df (W9.putObj D1 (.deferred none)) D0 := (World.putObj_heap_other hD10).trans g0
          have e1 := cell_kept e0 (grownBy_putObj' W9 D1 (.deferred none)) (fun r e => by cases e; exact ⟨_, g1, rfl⟩)
          have hB10 := hB9.trans (belowK_b (w := w) (Nat.le_refl _) W9 D1 _ (.deferred none) (by omega) g1 rfl rfl)
          have e2 := cell_kept e1 (grownBy_putObj' (W9.putObj D1 (.deferred none)) D0 (.deferred none)) (fun r e => by cases e; exact ⟨_, g0', rfl⟩)
          have hB11 := hB10.trans (belowK_b (w := w) (Nat.le_refl _) (W9.putObj D1 (.deferred none)) D0 _ (.deferred none) (by omega) g0' rfl rfl)
          refine ⟨by simp, .inl ⟨_, _, rfl, run_takeDeferred g1, by simp, .inl ⟨_, _, rfl, run_takeDeferred g0', ?_⟩⟩⟩
          have hlt : w.heap.size + 1 < ((W9.putObj D1 (.deferred none)).putObj D0 (.deferred none)).heap.size := lt_of_cell e2
          generalize (W9.putObj D1 (.deferred none)).putObj D0 (.deferred none) = WZ at *
          exact ⟨.bool true, by simp [results, Try.results9, go_sem, e2, hlt], rfl, hB11⟩
        case stop3 =>
          rintro D1 c pre W hD hsp ⟨rfl, hnp⟩ hK
          exact absurd hsp hnp
      · have hkl' : ((pre.length : Int) != L.length) = true := by rw [bne_iff_ne]; exact hkl
        clear hkl hc
        have hlu := HLU.out.fx HBY0.out hfx (by omega)
        have a0 := hlu.a0
        have wb := hlu.wb
        have tt : W.cell? ⟨w1.heap.size + 1 + 1, 0, .none⟩ = some (.int .i64 0) := (World.cell?_of_block (hfx.block _ (lt_of_cell HT0.out.1) (by show ¬ w1.heap.size + 1 + 1 = (w1.heap.size + 1 + 1 + 1); have := HT0.out.2; omega))).trans HT0.out.1
        have HBW0 : Hid (Below U.heap.size U W) := ⟨hfx.os.trans HBY0.out.os, hfx.tape.trans HBY0.out.tape, hfx.output.trans HBY0.out.output, Nat.le_trans HBY0.out.size hfx.size, fun i hi => (hfx.block i (Nat.lt_of_lt_of_le hi HBY0.out.size) (by omega)).trans (HBY0.out.block i hi)⟩
        have HDW0 : Hid (Df W D0) := hK
        have ne0 : D0 ≥ Y0.heap.size := hD
        clear hlu hfx hK hD
        gi_wp2
        have wpp := below_past W (.cells #[.int .i64 1] 3)
        have HBX1 : Hid (Below U.heap.size U (W.alloc (.cells #[.int .i64 1] 3))) := HBW0.out.trans (wpp.mono HBW0.out.size)
        have t1 : (W.alloc (.cells #[.int .i64 1] 3)).cell? ⟨W.heap.size, 0, .none⟩ = some (.int .i64 1) := by simp
        have HD0 : Hid (Df (W.alloc (.cells #[.int .i64 1] 3)) D0) := HDW0.out.below wpp
        clear wpp
        generalize hXe0 : (W.alloc (.cells #[.int .i64 1] 3)) = X1 at *
        clear hXe0
        generalize hTe0 : W.heap.size = T1 at *
        clear hTe0
        rw [roundsIn_succ]
        gi_wp2
        have hpast1 := below_past X1 (.cells #[.int .i64 0] 3)
        have HBY1 : Hid (Below U.heap.size U (X1.alloc (.cells #[.int .i64 0] 3))) := HBX1.out.trans (hpast1.mono HBX1.out.size)
        have HT1 : Hid ((X1.alloc (.cells #[.int .i64 0] 3)).cell? ⟨T1, 0, .none⟩ = some (.int .i64 1) ∧ T1 < X1.heap.size) := ⟨(hpast1.cell (lt_of_cell t1)).trans t1, lt_of_cell t1⟩
        have HDY1D0 : Hid (Df (X1.alloc (.cells #[.int .i64 0] 3)) D0 ∧ D0 < X1.heap.size) := ⟨HD0.out.below hpast1, HD0.out.lt⟩
        clear HD0
        have kz1 : (X1.alloc (.cells #[.int .i64 0] 3)).cell? ⟨X1.heap.size, 0, .none⟩ = some (.int .i64 0) := by simp
        have kf1 : (X1.alloc (.cells #[.int .i64 0] 3)).frozen? ⟨X1.heap.size, 0, .none⟩ = false := World.frozen?_alloc_new _ _ _ _
        have ks1 : X1.heap.size < (X1.alloc (.cells #[.int .i64 0] 3)).heap.size := by simp
        have kU1 : U.heap.size ≤ X1.heap.size := HBX1.out.size
        have HLY1 : Hid (LU (X1.alloc (.cells #[.int .i64 0] 3)) w.heap.size (w.heap.size + 1) w1.heap.size (w1.heap.size + 1) cut pw cw p b m N B L) := HLU.out.below HBY1.out
        clear hpast1 t1 HBX1
        generalize hYe1 : X1.alloc (.cells #[.int .i64 0] 3) = Y1 at *
        clear hYe1
        generalize hkb1 : X1.heap.size = kb1 at *
        clear hkb1
        refine wpIn_rangeFunc_ownF (α := Nat) rfl (by omega) (gf := 61) (lb := #[.pointer (some ⟨w1.heap.size + 1, 0, .none⟩)]) rfl trivial (enters_of Try.func61 (by kernel_rfl) rfl)
          (free_seq HLY1.out.ram 2 (w1.heap.size + 1) (lt_of_cell HLY1.out.bn) HLY1.out.bn (KpL kb1) (fun g _ => g ≠ kb1) (fun W W' g cur k hg hh => ⟨k g cur 26 (0, 0) hh hg, hg⟩) (fun W W2 g h1 h2 hg => by have := h1.size; omega)) KpL.trans (fun W l o o' hl' ho hcs _ => KpL.put W l o o' ho hcs) (Below.refl _ _) (fun _ => rfl)
          (LI Y1 kb1 L) (fun c xs W => c = .ret ∧ ¬ xs <+: L) LI.own (fun c s A B row hs hg hr => hs) ⟨Fx.refl _ _, kz1, kf1, List.nil_prefix⟩ ?aa4 ?assign4 ?body4 ?done4 ?stop4
        case assign4 =>
          intro l x' W K hK
          gi_wp2
          exact hK
        case body4 =>
          rintro l pre x' W ⟨hfx, hk, hkf, hpre⟩ hlt
          have hlu := HLU.out.fx HBY1.out hfx (by omega)
          have a0 := hlu.a0
          have a1 := hlu.a1
          have f1 := hlu.f1
          have wb := hlu.wb
          obtain ⟨g, rfl, hrow⟩ := hlu.row pre.length hlt
          have tt : W.cell? ⟨T1, 0, .none⟩ = some (.int .i64 1) := (World.cell?_of_block (hfx.block _ (lt_of_cell HT1.out.1) (by show ¬ T1 = kb1; have := HT1.out.2; omega))).trans HT1.out.1
          have g0 : (pre.length : Int) < L.length := by omega
          have g1 : ¬ ((L.length : Int) ≤ pre.length) := by omega
          have HI : Hid (LI Y1 kb1 L pre W ∧ pre <+: L) := ⟨⟨hfx, hk, hkf, hpre⟩, hpre⟩
          clear hlu hfx hpre
          simp only [adv] at hrow ⊢
          by_cases hx : x' = L[pre.length]
          · have HN : Hid (LI Y1 kb1 L (pre ++ [x']) (W.setCell ⟨kb1, 0, .none⟩ (.int .i64 ((pre.length : Int) + 1)))) := by
              refine ⟨HI.out.1.1.setCell _ _ rfl, ?_, (World.frozen?_setCell ..).trans hkf, ?_⟩
              · rw [World.cell?_setCell_same' _ _ _ (by rw [hk]; rfl), List.length_append]
                rfl
              · rw [hx]; exact prefix_snoc HI.out.2 hlt
            have HK : Hid (KeepsOthers W (W.setCell ⟨kb1, 0, .none⟩ (.int .i64 ((pre.length : Int) + 1))) ∧ KpL kb1 W (W.setCell ⟨kb1, 0, .none⟩ (.int .i64 ((pre.length : Int) + 1)))) := ⟨KeepsOthers.setCell _ _ _, fun i c t f hi hne => by rw [Below.heap_setCell _ _ _ _ (by show i ≠ kb1; exact hne)]; exact hi⟩
            have hx' : ((2147483648 + (L[pre.length] : Int) * 4096) != (2147483648 + (x' : Int) * 4096)) = false := by rw [← hx]; simp
            have kk : (W.setCell ⟨kb1, 0, .none⟩ (.int .i64 ((pre.length : Int) + 1))).cell? ⟨kb1, 0, .none⟩ = some (.int .i64 ((pre.length : Int) + 1)) := World.cell?_setCell_same' _ _ _ (by rw [hk]; rfl)
            have t2 : (W.setCell ⟨kb1, 0, .none⟩ (.int .i64 ((pre.length : Int) + 1))).cell? ⟨T1, 0, .none⟩ = some (.int .i64 1) := (World.cell?_setCell_other _ _ _ _ (by simp only [ne_eq, Addr.mk.injEq, and_true, not_and]; intro e; have := HT1.out.2; omega)).trans tt
            have a2 : (W.setCell ⟨kb1, 0, .none⟩ (.int .i64 ((pre.length : Int) + 1))).cell? ⟨w.heap.size, 0, .none⟩ = some (.int .i64 cut) := (World.cell?_setCell_other _ _ _ _ (by simp only [ne_eq, Addr.mk.injEq, and_true, not_and]; intro e; omega)).trans a0
            clear hx
            generalize 2147483648 + (L[pre.length] : Int) * 4096 = v1 at *
            generalize 2147483648 + (x' : Int) * 4096 = v2 at *
            gi_wp2
            exact ⟨HK.out.1, HK.out.2, HN.out⟩
          · have HX : Hid (¬ (pre ++ [x']) <+: L) := fun e => hx (prefix_last e hlt)
            have hx' : ((2147483648 + (L[pre.length] : Int) * 4096) != (2147483648 + (x' : Int) * 4096)) = true := by rw [bne_iff_ne]; intro e; exact hx (by omega)
            clear hx
            generalize 2147483648 + (L[pre.length] : Int) * 4096 = v1 at *
            generalize 2147483648 + (x' : Int) * 4096 = v2 at *
            gi_wp2
            exact ⟨KeepsOthers.setCell _ _ _, ⟨rfl, HX.out⟩⟩
        case done4 =>
          rintro D1 xs W hD hxs ⟨hfx, hk, hkf, _⟩ hK
          rw [hxs] at hk
          clear hxs
          have hlu := HLU.out.fx HBY1.out hfx (by omega)
          have a0 := hlu.a0
          have wb := hlu.wb
          have tt : W.cell? ⟨T1, 0, .none⟩ = some (.int .i64 1) := (World.cell?_of_block (hfx.block _ (lt_of_cell HT1.out.1) (by show ¬ T1 = kb1; have := HT1.out.2; omega))).trans HT1.out.1
          have HBW1 : Hid (Below U.heap.size U W) := ⟨hfx.os.trans HBY1.out.os, hfx.tape.trans HBY1.out.tape, hfx.output.trans HBY1.out.output, Nat.le_trans HBY1.out.size hfx.size, fun i hi => (hfx.block i (Nat.lt_of_lt_of_le hi HBY1.out.size) (by omega)).trans (HBY1.out.block i hi)⟩
          have HDW1 : Hid (Df W D1) := hK
          have HDW1D0 : Hid (Df W D0) := (hfx.block D0 HDY1D0.out.1.lt (by have := HDY1D0.out.2; omega)).trans HDY1D0.out.1
          have ne1 : D1 ≥ Y1.heap.size := hD
          clear hlu hfx hK hD
          gi_wp2
          have wpp := below_past W (.cells #[.int .i64 2] 3)
          have HBX2 : Hid (Below U.heap.size U (W.alloc (.cells #[.int .i64 2] 3))) := HBW1.out.trans (wpp.mono HBW1.out.size)
          have t2 : (W.alloc (.cells #[.int .i64 2] 3)).cell? ⟨W.heap.size, 0, .none⟩ = some (.int .i64 2) := by simp
          have HD0 : Hid (Df (W.alloc (.cells #[.int .i64 2] 3)) D0) := HDW1D0.out.below wpp
          have HD1 : Hid (Df (W.alloc (.cells #[.int .i64 2] 3)) D1) := HDW1.out.below wpp
          clear wpp
          generalize hXe1 : (W.alloc (.cells #[.int .i64 2] 3)) = X2 at *
          clear hXe1
          generalize hTe1 : W.heap.size = T2 at *
          clear hTe1
          have r2 := (HLU.out.below HBX2.out).a1
          have f2 := (HLU.out.below HBX2.out).f1
          rw [roundsIn_succ]
          gi_wp2
          have hB2 : Below w.heap.size w X2 := HB0.out.trans (HBX2.out.mono HB0.out.size)
          have hR0 : D0 ≠ w.heap.size + 1 := fun e => by
            have h := HD0.out
            rw [Df, e] at h
            simp [World.cell?, h] at r2
          have hR1 : D1 ≠ w.heap.size + 1 := fun e => by
            have h := HD1.out
            rw [Df, e] at h
            simp [World.cell?, h] at r2
          have hD10 : D0 ≠ D1 := by
            have := HDY1D0.out.2
            omega
          have g1 : Df (X2.setCell ⟨w.heap.size + 1, 0, .none⟩ (.bool true)) D1 := (Below.heap_setCell _ _ _ _ (by show D1 ≠ w.heap.size + 1; exact hR1)).trans HD1.out
          have g0 : Df (X2.setCell ⟨w.heap.size + 1, 0, .none⟩ (.bool true)) D0 := (Below.heap_setCell _ _ _ _ (by show D0 ≠ w.heap.size + 1; exact hR0)).trans HD0.out
          have e0 : (X2.setCell ⟨w.heap.size + 1, 0, .none⟩ (.bool true)).cell? ⟨w.heap.size + 1, 0, .none⟩ = some (.bool true) := World.cell?_setCell_same' _ _ _ (by rw [r2]; rfl)
          have hB9 : Below w.heap.size w (X2.setCell ⟨w.heap.size + 1, 0, .none⟩ (.bool true)) := hB2.setCell (p := ⟨w.heap.size + 1, 0, .none⟩) (by show w.heap.size ≤ w.heap.size + 1; omega) _
          generalize X2.setCell ⟨w.heap.size + 1, 0, .none⟩ (.bool true) = W9 at *
          have g0' : Df (W9.putObj D1 (.deferred none)) D0 := (World.putObj_heap_other hD10).trans g0
          have e1 := cell_kept e0 (grownBy_putObj' W9 D1 (.deferred none)) (fun r e => by cases e; exact ⟨_, g1, rfl⟩)
          have hB10 := hB9.trans (belowK_b (w := w) (Nat.le_refl _) W9 D1 _ (.deferred none) (by omega) g1 rfl rfl)
          have e2 := cell_kept e1 (grownBy_putObj' (W9.putObj D1 (.deferred none)) D0 (.deferred none)) (fun r e => by cases e; exact ⟨_, g0', rfl⟩)
          have hB11 := hB10.trans (belowK_b (w := w) (Nat.le_refl _) (W9.putObj D1 (.deferred none)) D0 _ (.deferred none) (by omega) g0' rfl rfl)
          refine ⟨by simp, .inl ⟨_, _, rfl, run_takeDeferred g1, by simp, .inl ⟨_, _, rfl, run_takeDeferred g0', ?_⟩⟩⟩
          have hlt : w.heap.size + 1 < ((W9.putObj D1 (.deferred none)).putObj D0 (.deferred none)).heap.size := lt_of_cell e2
          generalize (W9.putObj D1 (.deferred none)).putObj D0 (.deferred none) = WZ at *
          exact ⟨.bool true, by simp [results, Try.results9, go_sem, e2, hlt], rfl, hB11⟩
        case stop4 =>
          rintro D1 c pre W hD hsp ⟨rfl, hnp⟩ hK
          exact absurd hsp hnp
end Go.Proofs.Ytnghcadhilfgnaa
