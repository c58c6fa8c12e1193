import Derived.Test.YtnghcadhilfgnaaWpB
import Derived.RangeFuncBox
namespace Go.Proofs.Ytnghcadhilfgnaa
open Go.RowKit
set_option linter.unusedVariables false
set_option linter.unusedSimpArgs false
def First2 (hs : Int → Bool) (PA : Nat → Int) (L : Nat → Nat) (n : Int) (nh r : Nat) : Prop := r ≤ nh ∧ (∀ i, i < r → bad2 hs PA L n i = false) ∧ (r < nh → bad2 hs PA L n r = true)
set_option maxHeartbeats 4000000 in
set_option maxRecDepth 100000 in
theorem first2_any (W : World) (m v hv i kk nh ch : Nat) (q : Option Addr) (hs : Int → Bool) (PA : Nat → Int) (P : Nat → Option Addr) (L C : Nat → Nat) (n : Int) (hm : MS W m hs kk) (cv : W.cell? ⟨v, 0, .none⟩ = some (.map (some m))) (chv : W.cell? ⟨hv, 0, .none⟩ = some (.slice q nh ch)) (ci : W.cell? ⟨i, 0, .none⟩ = some (.int .i64 n)) (hH : Hs W q nh PA P L C) (hP : ∀ i, 0 ≤ PA i ∧ PA i < 18446744073709551616) (hc : nh ≤ ch) (hcm : ch ≤ 9223372036854775807) (hl : ∀ i, L i ≤ 9223372036854775807) (h0 : 0 ≤ n) (h1 : n ≤ 4096) :
    Calls Try.prog 76 #[.slice q nh ch, .func (.func 77) #[] #[.pointer (some ⟨v, 0, .none⟩), .pointer (some ⟨hv, 0, .none⟩), .pointer (some ⟨i, 0, .none⟩)]] W fun e w' => ∃ r, e = .returned (.int .i64 (r : Nat)) ∧ First2 hs PA L n nh r ∧ Below W.heap.size W w' := by
  have H0 : Hid (MS W m hs kk ∧ W.cell? ⟨v, 0, .none⟩ = some (.map (some m)) ∧ W.cell? ⟨hv, 0, .none⟩ = some (.slice q nh ch) ∧ W.cell? ⟨i, 0, .none⟩ = some (.int .i64 n) ∧ Hs W q nh PA P L C) := ⟨hm, cv, chv, ci, hH⟩
  clear hm cv chv ci hH
  go_enter Try.func76, Try.ntmps76
  go_wp2
  go_loopw [9] (fun a wr => ∃ k : Nat, k ≤ nh ∧ a = .int .i64 k ∧ Hid ((∀ j, j < k → bad2 hs PA L n j = false) ∧ Below W.heap.size W wr)) (fun a _ => (nh - intOf a).toNat)
  case atStart => exact ⟨0, by omega, rfl, fun j hj => by omega, Below.refl _ _⟩
  case round =>
    obtain ⟨k, hk, rfl, HI⟩ := hrel
    by_cases hlt : k < nh
    · have g0 : (k : Int) < nh := by omega
      have b0 := HI.out.2
      have z0 := b0.size
      have hH := H0.out.2.2.2.2.keep b0 (Nat.le_refl _)
      obtain ⟨b, o, rfl, lb, hcell⟩ : ∃ b o, q = some ⟨b, o, .none⟩ ∧ b < wr.heap.size ∧ ∀ i, i < nh → wr.cell? ⟨b, o + i * 2, .none⟩ = some (.int .u64 (PA i)) ∧ wr.cell? ⟨b, o + i * 2 + 1, .none⟩ = some (.slice (P i) (L i) (C i)) := by
        rcases hH with h | h
        · omega
        · exact h
      obtain ⟨a0, a1⟩ := hcell k hlt
      have bA : Below W.heap.size W (wr.alloc (.cells #[.int .u64 (PA k), .slice (P k) (L k) (C k)] 70)) := b0.alloc z0 _
      have c39 := clo2_any (wr.alloc (.cells #[.int .u64 (PA k), .slice (P k) (L k) (C k)] 70)) m v hv i kk nh ch k (some ⟨b, o, .none⟩) hs PA P L C n (H0.out.1.keep (bA.block _ H0.out.1.lt)) ((bA.cell (lt_of_cell H0.out.2.1)).trans H0.out.2.1) ((bA.cell (lt_of_cell H0.out.2.2.1)).trans H0.out.2.2.1) ((bA.cell (lt_of_cell H0.out.2.2.2.1)).trans H0.out.2.2.2.1) (H0.out.2.2.2.2.keep bA (Nat.le_refl _)) hP hlt hc hcm (hl k) h0 h1
      have HB : Hid (Below W.heap.size W (wr.alloc (.cells #[.int .u64 (PA k), .slice (P k) (L k) (C k)] 70))) := bA
      clear hcell hH b0 bA
      cases hb : bad2 hs PA L n k with
      | false =>
        have HN : Hid (bad2 hs PA L n k = false) := hb
        rw [hb] at c39
        clear hb
        go_wp2_with (first | (go_at_call 77; refine c39.mono ?_; rintro e w5 ⟨rfl, b5⟩; have HW : Hid (Below W.heap.size W w5) := HB.out.trans (b5.mono HB.out.size); clear b5) | fail)
        refine ⟨⟨k + 1, by omega, rfl, fun j hj => ?_, HW.out⟩, by simp only [intOf]; omega⟩
        by_cases e : j = k
        · rw [e]
          exact HN.out
        · exact HI.out.1 j (by omega)
      | true =>
        have HN : Hid (bad2 hs PA L n k = true) := hb
        rw [hb] at c39
        clear hb
        go_wp2_with (first | (go_at_call 77; refine c39.mono ?_; rintro e w5 ⟨rfl, b5⟩; have HW : Hid (Below W.heap.size W w5) := HB.out.trans (b5.mono HB.out.size); clear b5) | fail)
        go_ret
        exact ⟨k, rfl, ⟨by omega, HI.out.1, fun _ => HN.out⟩, HW.out⟩
    · obtain rfl : k = nh := by omega
      go_wp2
      go_ret
      exact ⟨k, rfl, ⟨Nat.le_refl _, HI.out.1, fun h => by omega⟩, HI.out.2⟩
theorem fs_keep {W W' : World} {q : Option Addr} {nf B : Nat} {F : Nat → Int} (h : Fs W q nf F) (hb : Below B W W') (hB : W.heap.size ≤ B) : Fs W' q nf F := by
  rcases h with h | ⟨b, o, h1, h2, h3⟩
  · exact .inl h
  · exact .inr ⟨b, o, h1, Nat.lt_of_lt_of_le h2 hb.size, fun i hi => (hb.cell (by show b < B; omega)).trans (h3 i hi)⟩
/-- wrongPlace behind its first statements. -/
structure Wq (W V : World) (n : Int) (qf : Option Addr) (nf cf : Nat) (qh : Option Addr) (nh ch : Nat) : Prop where
  b : Below W.heap.size W V
  ms : MS V (W.heap.size + 1 + 1) (fun _ => false) 0
  cv : V.cell? ⟨W.heap.size + 1 + 1 + 1, 0, .none⟩ = some (.map (some (W.heap.size + 1 + 1)))
  ci : V.cell? ⟨W.heap.size, 0, .none⟩ = some (.int .i64 n)
  chv : V.cell? ⟨W.heap.size + 1, 0, .none⟩ = some (.slice qh nh ch)
theorem wq_new (W : World) (n : Int) (qf : Option Addr) (nf cf : Nat) (qh : Option Addr) (nh ch : Nat) : Wq W ((((W.alloc (.cells #[.int .i64 n, .slice qf nf cf, .slice qh nh ch] 40)).alloc (.cells #[.slice qh nh ch] 109)).alloc (.map #[] 0)).alloc (.cells #[.map (some (W.heap.size + 1 + 1))] 58)).drew n qf nf cf qh nh ch := by
  generalize hA : W.alloc (.cells #[.int .i64 n, .slice qf nf cf, .slice qh nh ch] 40) = A
  have zA : A.heap.size = W.heap.size + 1 := by rw [← hA, World.size_alloc]
  have bA : Below W.heap.size W A := by rw [← hA]; exact (Below.refl _ _).alloc (Nat.le_refl _) _
  have cA : A.cell? ⟨W.heap.size, 0, .none⟩ = some (.int .i64 n) := by rw [← hA]; simp
  clear hA
  generalize hB : A.alloc (.cells #[.slice qh nh ch] 109) = B
  have zB : B.heap.size = W.heap.size + 1 + 1 := by rw [← hB, World.size_alloc, zA]
  have bB : Below (W.heap.size + 1) A B := by rw [← hB]; exact (Below.refl _ _).alloc (by omega) _
  have cB : B.cell? ⟨W.heap.size + 1, 0, .none⟩ = some (.slice qh nh ch) := by rw [← hB, ← zA]; simp
  clear hB
  have bC : Below (W.heap.size + 1 + 1) B (B.alloc (.map #[] 0)) := (Below.refl _ _).alloc (by omega) _
  have zC : (B.alloc (.map #[] 0)).heap.size = W.heap.size + 1 + 1 + 1 := by rw [World.size_alloc, zB]
  have bD : Below (W.heap.size + 1 + 1 + 1) (B.alloc (.map #[] 0)) ((B.alloc (.map #[] 0)).alloc (.cells #[.map (some (W.heap.size + 1 + 1))] 58)) := (Below.refl _ _).alloc (by omega) _
  have bBD := (bC.trans (bD.mono (by omega))).drew
  refine ⟨bA.trans ((bB.mono (by omega)).trans (bBD.mono (by omega))), ?_, ?_, (bBD.cell (by show W.heap.size < _; omega)).trans ((bB.cell (by show W.heap.size < _; omega)).trans cA), (bBD.cell (by show W.heap.size + 1 < _; omega)).trans cB⟩
  · refine ⟨.map [], ?_, fun _ _ _ => rfl, Nat.le_refl _⟩
    have := (World.ownsMap_made (H := Unit) B Try.prog 26 unitElem).alloc (.cells #[.map (some (W.heap.size + 1 + 1))] 58)
    rw [zB] at this
    obtain ⟨es, cl, h1, h2⟩ := this
    exact ⟨es, cl, h1, h2⟩
  · show ((B.alloc (.map #[] 0)).alloc (.cells #[.map (some (W.heap.size + 1 + 1))] 58)).cell? _ = _
    rw [← zC]
    simp
/-- Where an image of a right size is none; 0: nowhere. -/
def Wrong (F : Nat → Int) (nf : Nat) (PA : Nat → Int) (L : Nat → Nat) (nh : Nat) (n : Int) (at_ : Int) : Prop :=
  ∃ r1, First1 F n nf r1 ∧ ((r1 < nf ∧ at_ = 1 + (r1 : Int)) ∨ (r1 = nf ∧ ∃ r2, First2 (among F nf) PA L n nh r2 ∧ ((r2 < nh ∨ (nf : Int) + r2 < n) ∧ at_ = 1 + (nf : Int) + r2 ∨ (r2 = nh ∧ n ≤ (nf : Int) + nh) ∧ at_ = 0)))
set_option maxHeartbeats 4000000 in
set_option maxRecDepth 100000 in
theorem wrong_any (W : World) (nf cf nh ch : Nat) (qf qh : Option Addr) (F PA : Nat → Int) (P : Nat → Option Addr) (L C : Nat → Nat) (n : Int) (hf : Fs W qf nf F) (hF : ∀ i, 0 ≤ F i ∧ F i < 18446744073709551616) (hcf : nf ≤ cf) (hcfm : cf ≤ 9223372036854775807) (hH : Hs W qh nh PA P L C) (hP : ∀ i, 0 ≤ PA i ∧ PA i < 18446744073709551616) (hc : nh ≤ ch) (hcm : ch ≤ 9223372036854775807) (hl : ∀ i, L i ≤ 9223372036854775807) (h0 : 0 ≤ n) (h1 : n ≤ 4096) (hs : nf ≤ 281474976710656 ∧ nh ≤ 281474976710656) :
    Calls Try.prog 71 #[.agg #[.int .i64 n, .slice qf nf cf, .slice qh nh ch]] W fun e w' => ∃ at_, e = .returned (.int .i64 at_) ∧ Wrong F nf PA L nh n at_ ∧ Below W.heap.size W w' := by
  have hmm := @run_makeMap Try.prog
  go_enter Try.func71, Try.ntmps71
  go_wp2
  go_region
  go_wp2_with fail
  have HQ : Hid (Wq W ((((W.alloc (.cells #[.int .i64 n, .slice qf nf cf, .slice qh nh ch] 40)).alloc (.cells #[.slice qh nh ch] 109)).alloc (.map #[] 0)).alloc (.cells #[.map (some (W.heap.size + 1 + 1))] 58)).drew n qf nf cf qh nh ch) := wq_new W n qf nf cf qh nh ch
  have HF : Hid (Fs W qf nf F ∧ Hs W qh nh PA P L C) := ⟨hf, hH⟩
  clear hf hH hmm
  generalize ((((W.alloc (.cells #[.int .i64 n, .slice qf nf cf, .slice qh nh ch] 40)).alloc (.cells #[.slice qh nh ch] 109)).alloc (.map #[] 0)).alloc (.cells #[.map (some (W.heap.size + 1 + 1))] 58)).drew = W4 at *
  have q := HQ.out
  refine (first1_any W4 (W.heap.size + 1 + 1) (W.heap.size + 1 + 1 + 1) W.heap.size nf cf qf F n (fs_keep HF.out.1 q.b (Nat.le_refl _)) hF hcf hcfm q.ms q.cv q.ci h0 h1 ?_ (by omega) (by omega)).mono ?_
  · intro hpos b o e
    rcases HF.out.1 with h | ⟨b', o', h2, h3, _⟩
    · omega
    · rw [e] at h2
      simp only [Option.some.injEq, Addr.mk.injEq, and_true] at h2
      omega
  rintro e W5 ⟨r1, rfl, hr1, hms, fr⟩
  have zq : W.heap.size + 1 + 1 + 1 < W4.heap.size := lt_of_cell q.cv
  have f5 : ∀ x : Nat, x < W4.heap.size → x ≠ W.heap.size + 1 + 1 → W5.heap[x]? = W4.heap[x]? := fun x h1 h2 => fr.block x h1 h2 h2 h2
  have b5 : Below W.heap.size W W5 := q.b.trans (fr.toBelow (by omega) (by omega) (by omega) (by omega))
  have k1 : W5.cell? ⟨W.heap.size + 1, 0, .none⟩ = some (.slice qh nh ch) := (World.cell?_of_block (f5 (W.heap.size + 1) (by omega) (by omega))).trans q.chv
  have k2 : W5.cell? ⟨W.heap.size, 0, .none⟩ = some (.int .i64 n) := (World.cell?_of_block (f5 W.heap.size (by omega) (by omega))).trans q.ci
  have k3 : W5.cell? ⟨W.heap.size + 1 + 1 + 1, 0, .none⟩ = some (.map (some (W.heap.size + 1 + 1))) := (World.cell?_of_block (f5 (W.heap.size + 1 + 1 + 1) (by omega) (by omega))).trans q.cv
  have HR : Hid (First1 F n nf r1) := hr1
  have HB : Hid (Below W.heap.size W W5) := b5
  by_cases hlt : r1 < nf
  · have g0 : (r1 : Int) < nf := by omega
    have l1 : (r1 : Int) ≤ 281474976710656 := by omega
    clear q fr f5 b5 hms k1 k2 k3 hr1 zq
    go_wp2
    go_ret
    exact ⟨_, rfl, ⟨r1, HR.out, .inl ⟨hlt, rfl⟩⟩, HB.out⟩
  · obtain rfl : r1 = nf := by have := hr1.1; omega
    have c38 := first2_any W5 (W.heap.size + 1 + 1) (W.heap.size + 1 + 1 + 1) (W.heap.size + 1) W.heap.size r1 nh ch qh (among F r1) PA P L C n (hms rfl) k3 k1 k2 (HF.out.2.keep b5 (Nat.le_refl _)) hP hc hcm hl h0 h1
    have lB := lt_of_cell k3
    have HK : Hid (W5.cell? ⟨W.heap.size, 0, .none⟩ = some (.int .i64 n) ∧ W5.cell? ⟨W.heap.size + 1, 0, .none⟩ = some (.slice qh nh ch)) := ⟨k2, k1⟩
    clear q fr f5 b5 hms hr1 zq hlt k2 k3
    go_wp2_with fail
    refine c38.mono ?_
    rintro e W6 ⟨r2, rfl, hr2, b6⟩
    clear k1 c38
    have m1 : W6.cell? ⟨W.heap.size + 1, 0, .none⟩ = some (.slice qh nh ch) := (b6.cell (lt_of_cell HK.out.2)).trans HK.out.2
    have m2 : W6.cell? ⟨W.heap.size, 0, .none⟩ = some (.int .i64 n) := (b6.cell (lt_of_cell HK.out.1)).trans HK.out.1
    have H2 : Hid (First2 (among F r1) PA L n nh r2 ∧ Below W.heap.size W W6) := ⟨hr2, HB.out.trans (b6.mono HB.out.size)⟩
    have hr := hr2.1
    clear hr2 b6 HK lB
    by_cases h2 : r2 < nh
    · have g0 : (r2 : Int) < nh := by omega
      go_wp2
      go_ret
      exact ⟨_, rfl, ⟨r1, HR.out, .inr ⟨rfl, r2, H2.out.1, .inl ⟨.inl h2, rfl⟩⟩⟩, H2.out.2⟩
    · obtain rfl : r2 = nh := by omega
      clear h2
      by_cases h3 : (r1 : Int) + r2 < n
      · go_wp2
        go_ret
        exact ⟨_, rfl, ⟨r1, HR.out, .inr ⟨rfl, r2, H2.out.1, .inl ⟨.inr h3, rfl⟩⟩⟩, H2.out.2⟩
      · have h4 : n ≤ (r1 : Int) + r2 := by omega
        go_wp2
        go_ret
        exact ⟨_, rfl, ⟨r1, HR.out, .inr ⟨rfl, r2, H2.out.1, .inr ⟨⟨rfl, h4⟩, rfl⟩⟩⟩, H2.out.2⟩
end Go.Proofs.Ytnghcadhilfgnaa
