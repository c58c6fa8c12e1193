import Derived.Test.YtnghcadhilfgnaaRam
import Derived.RegionTactic
import Derived.RangeFuncBox
import Derived.BigRegion
namespace Go.Proofs.Ytnghcadhilfgnaa
open Go.RowKit
set_option linter.unusedVariables false
set_option linter.unusedSimpArgs false
/-- A map of the call's own that is a set of addresses. -/
def MS (W : World) (m : Nat) (hs : Int → Bool) (k : Nat) : Prop := ∃ D : DataW Unit, W.ownsMap Try.prog 26 unitElem m (Maps.size D) D ∧ (∀ a : Int, 0 ≤ a → a < 18446744073709551616 → Maps.has D (.int .u64 a) = hs a) ∧ Maps.size D ≤ k
theorem MS.keep {W W' : World} {m k : Nat} {hs : Int → Bool} (h : MS W m hs k) (e : W'.heap[m]? = W.heap[m]?) : MS W' m hs k := by
  obtain ⟨D, ⟨es, cl, hes, r⟩, r2⟩ := h
  exact ⟨D, ⟨es, cl, e.trans hes, r⟩, r2⟩
theorem MS.lt {W : World} {m k : Nat} {hs : Int → Bool} (h : MS W m hs k) : m < W.heap.size := by
  obtain ⟨D, hD, _⟩ := h
  exact hD.lt
theorem MS.below {W W' : World} {m k : Nat} {hs : Int → Bool} (h : MS W m hs k) (b : Below W.heap.size W W') : MS W' m hs k := h.keep (b.block _ h.lt)
/-- What the first list's look finds wrong with an address. -/
def bad1 (hs : Int → Bool) (pa : Int) (n : Int) : Bool := hs pa || (pa == 2147483648) || !isFr pa n
set_option maxHeartbeats 4000000 in
set_option maxRecDepth 100000 in
theorem clo1_any (W : World) (m v i k : Nat) (hs : Int → Bool) (place pa n : Int) (hm : MS W m hs k) (hk : k < 9223372036854775807) (cv : W.cell? ⟨v, 0, .none⟩ = some (.map (some m))) (ci : W.cell? ⟨i, 0, .none⟩ = some (.int .i64 n)) (hp : 0 ≤ pa ∧ pa < 18446744073709551616) (h0 : 0 ≤ n) (h1 : n ≤ 4096) :
    Calls Try.prog 75 #[.int .i64 place, .int .u64 pa, .pointer (some ⟨v, 0, .none⟩), .pointer (some ⟨i, 0, .none⟩)] W fun e w' => e = .returned (.bool (bad1 hs pa n)) ∧ MS w' m (fun x => decide (x = pa) || hs x) (k + 1) ∧ Fra m m m W w' := by
  obtain ⟨D, hown, hhas, hsz⟩ := hm
  have hh := hhas pa hp.1 hp.2
  have hmax : Maps.size D < maxLen := by simp only [maxLen]; omega
  have lv : v < W.heap.size := lt_of_cell cv
  have li : i < W.heap.size := lt_of_cell ci
  have ev : v ≠ m := fun e => by
    subst e
    obtain ⟨es, cl, hb, _⟩ := hown
    simp [World.cell?, hb] at cv
  have ei : i ≠ m := fun e => by
    subst e
    obtain ⟨es, cl, hb, _⟩ := hown
    simp [World.cell?, hb] at ci
  have HH : Hid (∀ a : Int, 0 ≤ a → a < 18446744073709551616 → Maps.has D (.int .u64 a) = hs a) := hhas
  have HS : Hid (Maps.size D ≤ k) := hsz
  have c37 := fun w => isFrame_any pa n hp h0 h1 w
  clear hhas hsz
  have HC : Hid (∀ w4, (W.alloc (.cells #[] 77)).mapTurned w4 m → w4.cell? ⟨i, 0, .none⟩ = some (.int .i64 n)) := by
    intro w4 t
    have g := t.grown
    have b1 := g.block i (by simp only [World.size_alloc]; omega) (by simp [ei])
    exact (World.cell?_of_block b1).trans (((Below.refl _ _).alloc (Nat.le_refl _) _ : Below W.heap.size W (W.alloc (.cells #[] 77))).cell li |>.trans ci)
  have HP : Hid (∀ w4, w4.ownsMap Try.prog 26 unitElem m (Maps.size D + 1) (D.put (.int .u64 pa) (.agg [])) → (W.alloc (.cells #[] 77)).mapTurned w4 m → MS w4 m (fun x => decide (x = pa) || hs x) (k + 1) ∧ Fra m m m W w4) := by
    intro w4 o t
    refine ⟨⟨_, own_size o, fun x hx0 hx1 => ?_, ?_⟩, ((Fra.refl m m m W).alloc _).turned t⟩
    · by_cases e : x = pa
      · subst e
        rw [Maps.has_put_same hown.isMap (isKey _)]
        simp
      · rw [Maps.has_put_other (ne_lit e), HH.out x hx0 hx1]
        simp [e]
    · have := HS.out
      rw [Maps.size_put (hown.tidy law22)]
      split <;> omega
  by_cases hb : hs pa = true
  · have eb : bad1 hs pa n = true := by simp [bad1, hb]
    rw [eb]
    go_enter Try.func75, Try.ntmps75
    go_wp2_with (first | (at_lookup; refine wpList_lookup_own_unit _ rfl _ _ 58 rfl 26 77 law22 Try.underlying58 (zero91 _) m _ D rfl hown _ _ rfl (Maps.keyOf_int_mk Try.underlying26 (WalkArith.wf_u64 (by omega))) ?_) | (at_mapUpdate; refine wpList_mapUpdate_in _ rfl _ _ _ 58 rfl 26 77 law22 Try.underlying58 unitElem m _ D rfl (hown.alloc _) hmax _ _ _ rfl rfl (Maps.keyOf_int_mk Try.underlying26 (WalkArith.wf_u64 (by omega))) _ [] unitElem_mk ?_; intro w4 hown4 hturn; have ci4 : w4.cell? ⟨i, 0, .none⟩ = some (.int .i64 n) := HC.out w4 hturn; have HF : Hid (MS w4 m (fun x => decide (x = pa) || hs x) (k + 1) ∧ Fra m m m W w4) := HP.out w4 hown4 hturn; clear hown4 hturn) | fail)
    go_ret
    exact ⟨rfl, HF.out⟩
  · by_cases hq : pa = 2147483648
    · have eb : bad1 hs pa n = true := by simp [bad1, hq]
      rw [eb]
      have hq' : (pa == 2147483648) = true := by rw [beq_iff_eq]; exact hq
      clear hq eb
      go_enter Try.func75, Try.ntmps75
      go_wp2_with (first | (at_lookup; refine wpList_lookup_own_unit _ rfl _ _ 58 rfl 26 77 law22 Try.underlying58 (zero91 _) m _ D rfl hown _ _ rfl (Maps.keyOf_int_mk Try.underlying26 (WalkArith.wf_u64 (by omega))) ?_) | (at_mapUpdate; refine wpList_mapUpdate_in _ rfl _ _ _ 58 rfl 26 77 law22 Try.underlying58 unitElem m _ D rfl (hown.alloc _) hmax _ _ _ rfl rfl (Maps.keyOf_int_mk Try.underlying26 (WalkArith.wf_u64 (by omega))) _ [] unitElem_mk ?_; intro w4 hown4 hturn; have ci4 : w4.cell? ⟨i, 0, .none⟩ = some (.int .i64 n) := HC.out w4 hturn; have HF : Hid (MS w4 m (fun x => decide (x = pa) || hs x) (k + 1) ∧ Fra m m m W w4) := HP.out w4 hown4 hturn; clear hown4 hturn) | fail)
      go_ret
      exact ⟨rfl, HF.out⟩
    · have eb : bad1 hs pa n = !isFr pa n := by simp [bad1, hq, hb]
      rw [eb]
      have hq' : (pa == 2147483648) = false := by rw [beq_eq_false_iff_ne]; exact hq
      clear hq eb
      go_enter Try.func75, Try.ntmps75
      go_wp2_with (first | (at_lookup; refine wpList_lookup_own_unit _ rfl _ _ 58 rfl 26 77 law22 Try.underlying58 (zero91 _) m _ D rfl hown _ _ rfl (Maps.keyOf_int_mk Try.underlying26 (WalkArith.wf_u64 (by omega))) ?_) | (at_mapUpdate; refine wpList_mapUpdate_in _ rfl _ _ _ 58 rfl 26 77 law22 Try.underlying58 unitElem m _ D rfl (hown.alloc _) hmax _ _ _ rfl rfl (Maps.keyOf_int_mk Try.underlying26 (WalkArith.wf_u64 (by omega))) _ [] unitElem_mk ?_; intro w4 hown4 hturn; have ci4 : w4.cell? ⟨i, 0, .none⟩ = some (.int .i64 n) := HC.out w4 hturn; have HF : Hid (MS w4 m (fun x => decide (x = pa) || hs x) (k + 1) ∧ Fra m m m W w4) := HP.out w4 hown4 hturn; clear hown4 hturn) | (go_at_call 46; refine (c37 _).mono ?_; rintro e w5 ⟨rfl, rfl⟩) | fail)
      go_ret
      exact ⟨rfl, HF.out⟩
/-- A row of addresses that came in. -/
def Fs (W : World) (q : Option Addr) (nf : Nat) (F : Nat → Int) : Prop := nf = 0 ∨ ∃ b o, q = some ⟨b, o, .none⟩ ∧ b < W.heap.size ∧ ∀ i, i < nf → W.cell? ⟨b, o + i, .none⟩ = some (.int .u64 (F i))
/-- One of the first so many. -/
def among (F : Nat → Int) (k : Nat) (x : Int) : Bool := (List.range k).any fun j => F j == x
theorem among_succ (F : Nat → Int) (k : Nat) (x : Int) : among F (k + 1) x = (decide (x = F k) || among F k x) := by
  unfold among
  rw [List.range_succ, List.any_append, Bool.or_comm]
  congr 1
  simp only [List.any_cons, List.any_nil, Bool.or_false]
  by_cases e : x = F k
  · simp [e]
  · have e' : ¬ F k = x := fun h => e h.symm
    simp [e, e']
/-- The first list's first wrong place. -/
def First1 (F : Nat → Int) (n : Int) (nf r : Nat) : Prop := r ≤ nf ∧ (∀ i, i < r → bad1 (among F i) (F i) n = false) ∧ (r < nf → bad1 (among F r) (F r) n = true)
set_option maxHeartbeats 4000000 in
set_option maxRecDepth 100000 in
theorem first1_any (W : World) (m v i nf cf : Nat) (q : Option Addr) (F : Nat → Int) (n : Int) (hf : Fs W q nf F) (hF : ∀ i, 0 ≤ F i ∧ F i < 18446744073709551616) (hc : nf ≤ cf) (hcm : cf ≤ 9223372036854775807) (hm : MS W m (fun _ => false) 0) (cv : W.cell? ⟨v, 0, .none⟩ = some (.map (some m))) (ci : W.cell? ⟨i, 0, .none⟩ = some (.int .i64 n)) (h0 : 0 ≤ n) (h1 : n ≤ 4096) (hb : 0 < nf → ∀ b o, q = some ⟨b, o, .none⟩ → b ≠ m) (nv : v ≠ m) (ni : i ≠ m) :
    Calls Try.prog 74 #[.slice q nf cf, .func (.func 75) #[] #[.pointer (some ⟨v, 0, .none⟩), .pointer (some ⟨i, 0, .none⟩)]] W fun e w' => ∃ r, e = .returned (.int .i64 (r : Nat)) ∧ First1 F n nf r ∧ (r = nf → MS w' m (among F nf) nf) ∧ Fra m m m W w' := by
  have H0 : Hid (Fs W q nf F) := hf
  have HM : Hid (MS W m (fun _ => false) 0) := hm
  have HB : Hid ((0 < nf → ∀ b o, q = some ⟨b, o, .none⟩ → b ≠ m) ∧ v ≠ m ∧ i ≠ m ∧ W.cell? ⟨v, 0, .none⟩ = some (.map (some m)) ∧ W.cell? ⟨i, 0, .none⟩ = some (.int .i64 n)) := ⟨hb, nv, ni, cv, ci⟩
  clear hf hm hb nv ni cv ci
  go_enter Try.func74, Try.ntmps74
  go_wp2
  go_loopw [9] (fun a wr => ∃ k : Nat, k ≤ nf ∧ a = .int .i64 k ∧ Hid ((∀ j, j < k → bad1 (among F j) (F j) n = false) ∧ MS wr m (among F k) k ∧ Fra m m m W wr)) (fun a _ => (nf - intOf a).toNat)
  case atStart =>
    refine ⟨0, by omega, rfl, fun j hj => by omega, ?_, Fra.refl _ _ _ _⟩
    exact HM.out
  case round =>
    obtain ⟨k, hk, rfl, HI⟩ := hrel
    by_cases hlt : k < nf
    · have g0 : (k : Int) < nf := by omega
      obtain ⟨b, o, rfl, lb, hcell⟩ : ∃ b o, q = some ⟨b, o, .none⟩ ∧ b < W.heap.size ∧ ∀ i, i < nf → W.cell? ⟨b, o + i, .none⟩ = some (.int .u64 (F i)) := by
        rcases H0.out with h | h
        · omega
        · exact h
      have nb : b ≠ m := HB.out.1 (by omega) b o rfl
      have a0 : wr.cell? ⟨b, o + k, .none⟩ = some (.int .u64 (F k)) := (HI.out.2.2.cell (x := ⟨b, o + k, .none⟩) lb nb nb nb).trans (hcell k hlt)
      have lv : v < W.heap.size := lt_of_cell HB.out.2.2.2.1
      have li : i < W.heap.size := lt_of_cell HB.out.2.2.2.2
      have nv := HB.out.2.1
      have ni := HB.out.2.2.1
      have cv : wr.cell? ⟨v, 0, .none⟩ = some (.map (some m)) := (HI.out.2.2.cell (x := ⟨v, 0, .none⟩) lv nv nv nv).trans HB.out.2.2.2.1
      have ci : wr.cell? ⟨i, 0, .none⟩ = some (.int .i64 n) := (HI.out.2.2.cell (x := ⟨i, 0, .none⟩) li ni ni ni).trans HB.out.2.2.2.2
      have c36 := clo1_any wr m v i k (among F k) (k : Int) (F k) n HI.out.2.1 (by omega) cv ci (hF k) h0 h1
      clear hcell cv ci lv li nv ni nb
      cases hb : bad1 (among F k) (F k) n with
      | false =>
        have HN : Hid (bad1 (among F k) (F k) n = false) := hb
        rw [hb] at c36
        clear hb
        go_wp2_with (first | (go_at_call 75; refine c36.mono ?_; rintro e w5 ⟨rfl, hs5, fr5⟩; have HW : Hid (MS w5 m (among F (k + 1)) (k + 1) ∧ Fra m m m W w5) := ⟨by have e : among F (k + 1) = fun x => decide (x = F k) || among F k x := funext fun x => among_succ F k x; rw [e]; exact hs5, HI.out.2.2.trans fr5⟩; clear hs5 fr5) | fail)
        refine ⟨⟨k + 1, by omega, rfl, fun j hj => ?_, HW.out⟩, by simp only [intOf]; omega⟩
        by_cases e : j = k
        · rw [e]
          exact HN.out
        · exact HI.out.1 j (by omega)
      | true =>
        have HN : Hid (bad1 (among F k) (F k) n = true) := hb
        rw [hb] at c36
        clear hb
        go_wp2_with (first | (go_at_call 75; refine c36.mono ?_; rintro e w5 ⟨rfl, hs5, fr5⟩; have HW : Hid (MS w5 m (among F (k + 1)) (k + 1) ∧ Fra m m m W w5) := ⟨by have e : among F (k + 1) = fun x => decide (x = F k) || among F k x := funext fun x => among_succ F k x; rw [e]; exact hs5, HI.out.2.2.trans fr5⟩; clear hs5 fr5) | fail)
        go_ret
        exact ⟨k, rfl, ⟨by omega, HI.out.1, fun _ => HN.out⟩, fun h => by omega, HW.out.2⟩
    · obtain rfl : k = nf := by omega
      go_wp2
      go_ret
      exact ⟨k, rfl, ⟨Nat.le_refl _, HI.out.1, fun h => by omega⟩, fun _ => HI.out.2.1, HI.out.2.2⟩
end Go.Proofs.Ytnghcadhilfgnaa
