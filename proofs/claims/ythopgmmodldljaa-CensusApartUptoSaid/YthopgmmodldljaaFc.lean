import Derived.Test.YthopgmmodldljaaFb
namespace Go.Proofs.Ythopgmmodldljaa
open Go Go.RowKit
set_option linter.unusedVariables false
set_option linter.unusedSimpArgs false
/-! named. -/
theorem cn_take (p : Nm → Bool) (A : List Nm) (i : Nat) (x : Nm) (h : A[i]? = some x) : cn p (A.take (i + 1)) = cn p (A.take i) + b2i (p x) := by
  rw [List.take_add_one, h, Option.toList_some, cn_app]
  show _ + (b2i (p x) + 0) = _
  omega
theorem cn_le (p : Nm → Bool) (A : List Nm) : cn p A ≤ A.length := by
  rw [← cn_filter]
  have := List.length_filter_le p A
  omega
set_option maxRecDepth 100000 in
set_option maxHeartbeats 2000000 in
theorem named_any {w : World} {X : Nat} {pv fv iv qv rv lv : Value} {L : Lk} (h : LkW w X pv fv iv qv rv lv L) (hX : X ≤ w.heap.size) {ev : Value} {fr : List Int} (hf : Wd w X ev fr) (hs : (allL L fr).length ≤ 1000000) (hR : LkR L) (hfr : ∀ a ∈ fr, u64R a) (N : Nat) (hN : N ≤ 4096) : Calls Try.prog 15 #[.int .i64 N, .agg (lkL L.tramp pv fv iv qv rv lv L.ticks L.next L.free).toArray, ev] w fun e w' => e = .returned (.int .i64 (cn (fun x => decide (isF N x.1)) (allL L fr))) ∧ Below w.heap.size w w' := by
  obtain ⟨lc, hlc⟩ : ∃ lc, lc = lkL L.tramp pv fv iv qv rv lv L.ticks L.next L.free := ⟨_, rfl⟩
  rw [← hlc]
  have HLC : Hid (lc.length = 10) := by rw [hlc]; exact rfl
  have HA : Hid (∀ V, Below w.heap.size w V → Calls Try.prog 38 #[.agg lc.toArray, ev] V fun e w' => ∃ v, e = .returned v ∧ w'.ownsRow V.heap.size 104 3 v (allL L fr).length (((allL L fr).map An).flatten) ∧ Below V.heap.size V w') := fun V hV => by
    rw [hlc]
    exact all_any (h.keep (Nat.le_refl _) (hV.mono hX)) (Nat.le_trans hX hV.size) (Wd.keep hf (Nat.le_refl _) (hV.mono hX)) hs hR.il
  have HBD : Hid (∀ x ∈ allL L fr, Bd64 x.1) := allL_mem hR hfr
  obtain ⟨ep, ec, rfl⟩ := hf.form
  clear h hX hf hR hfr hlc
  obtain ⟨A, hA⟩ : ∃ A, A = allL L fr := ⟨_, rfl⟩
  rw [← hA] at HA HBD hs ⊢
  clear hA
  obtain ⟨n, hn⟩ : ∃ n, n = A.length := ⟨_, rfl⟩
  have HNA : Hid (n = A.length) := hn
  have bn : n ≤ 1000000 := by omega
  have hw : IntKind.u64.wrap (N : Int) = (N : Int) := by rw [IntKind.wrap_u64]; omega
  clear hs
  go_enter Try.func15, Try.ntmps15
  go_wp2_with (first
    | (refine wpList_is (.box 33 (.tmp 1)) rfl ?_; refine wpList_boxG 33 lc 4 (.tmp 1) _ rfl rfl rfl rfl ?_; intro W1 hW1 hB1 hs1; have r1 : W1.rangeAt w.heap.size 0 lc := range_heap hW1)
    | (refine wpList_is (.load 33 (.tmp 4)) rfl ?_; refine wpList_loadG 33 10 176 info33 _ Try.underlying33 rfl lc HLC.out w.heap.size 0 (.tmp 4) rfl rfl rfl r1 (some 11) rfl ?_)
    | fail)
  clear r1
  go_at_call 38
  refine (HA.out _ hB1).mono ?_
  rintro e W2 ⟨v, rfl, hown, hB2⟩
  have hsl := Sl.ofA hown
  obtain ⟨p, c, rfl⟩ := own_form hown
  rw [← hn] at hsl ⊢
  have HSL : Hid (Sl W2 W2.heap.size 3 (fun x cs => cs = An x) (.slice p n c) A ∧ Below w.heap.size w W2) := ⟨hsl, hB1.trans (hB2.mono (by omega))⟩
  clear hsl hown hB1 hB2 hs1 hW1 HA hn
  go_wp2
  go_loopw [7, 9] (fun k7 k9 wr => ∃ i : Nat, i ≤ n ∧ k9 = .int .i64 i ∧ ∃ m : Int, k7 = .int .i64 m ∧ Hid (m = cn (fun x => decide (isF N x.1)) (A.take i) ∧ Below W2.heap.size W2 wr)) (fun _ v _ => (n - intOf v).toNat)
  case atStart => exact ⟨0, by omega, rfl, 0, rfl, rfl, Below.refl _ _⟩
  case round =>
    obtain ⟨i, hi, rfl, m, rfl, HB⟩ := hrel
    obtain ⟨hmm, hwr⟩ := HB.out
    have HWR : Hid (Below W2.heap.size W2 wr) := hwr
    clear hwr
    have HM : Hid (m = cn (fun x => decide (isF N x.1)) (A.take i)) := hmm
    have bm : 0 ≤ m ∧ m ≤ 1000000 := by
      have h1 := cn_nonneg (fun x => decide (isF N x.1)) (A.take i)
      have h2 := cn_le (fun x => decide (isF N x.1)) (A.take i)
      have h3 : (A.take i).length ≤ A.length := by rw [List.length_take]; omega
      have := HNA.out
      omega
    clear HB hmm
    by_cases hin : i < n
    · as_aux_lemma =>
        have i1 : (i : Int) < n := by omega
        obtain ⟨-, b, o, x, cs, rfl, hbX, hx, rfl, hcl, hr⟩ := HSL.out.1.at hin
        have kp : wr.cell? ⟨b, o + i * 3, .none⟩ = some (.int .u64 x.1) := by have := range_keep hr HWR.out hbX 0 _ rfl; rw [Nat.add_zero] at this; exact this
        have hbd := HBD.out x (List.mem_of_getElem? hx)
        have HC : Hid (cn (fun x => decide (isF N x.1)) (A.take (i + 1)) = m + b2i (decide (isF N x.1))) := by show _ = _; rw [cn_take _ A i x hx, ← HM.out]
        obtain ⟨pa, hpa⟩ : ∃ pa, pa = x.1 := ⟨_, rfl⟩
        rw [← hpa] at kp hbd HC
        obtain ⟨h0, h1⟩ := hbd
        clear hr hcl hbX hx hpa
        have ht : pa.tmod 4096 = pa % 4096 := Int.tmod_eq_emod_of_nonneg h0
        have hm1 : IntKind.i64.wrap (m + 1) = m + 1 := by rw [IntKind.wrap_i64]; omega
        by_cases a : 2147483648 ≤ pa
        case neg =>
          have hn : ¬ isF N pa := fun h => a h.1
          have HN : Hid (b2i (decide (isF N pa)) = 0) := by show _ = _; rw [decide_eq_false hn]; rfl
          clear hn
          go_wp2
          exact ⟨⟨i + 1, by omega, by go_num, m, rfl, by rw [HC.out, HN.out]; omega, HWR.out⟩, by simp [intOf]; omega⟩
        have hv : IntKind.u64.wrap (pa - 2147483648) = pa - 2147483648 := by rw [IntKind.wrap_u64]; omega
        have hd : (pa - 2147483648).tdiv 4096 = (pa - 2147483648) / 4096 := Int.tdiv_eq_ediv_of_nonneg (by omega)
        obtain ⟨r, hr⟩ : ∃ r, r = pa % 4096 := ⟨_, rfl⟩
        obtain ⟨q, hq⟩ : ∃ q, q = (pa - 2147483648) / 4096 := ⟨_, rfl⟩
        have q0 : 0 ≤ q := by omega
        have q1 : q ≤ 4503599627370496 := by omega
        have hwq : IntKind.u64.wrap q = q := by rw [IntKind.wrap_u64]; omega
        have HR : Hid (r = pa % 4096 ∧ q = (pa - 2147483648) / 4096) := ⟨hr, hq⟩
        rw [← hr] at ht
        rw [← hq] at hd
        clear hr hq
        by_cases b : r = 0
        case neg =>
          have b' : (r == 0) = false := by simpa using b
          have hn : ¬ isF N pa := fun h => by have h3 := h.2.1; rw [← HR.out.1] at h3; exact b h3
          have HN : Hid (b2i (decide (isF N pa)) = 0) := by show _ = _; rw [decide_eq_false hn]; rfl
          clear hn b
          go_wp2
          exact ⟨⟨i + 1, by omega, by go_num, m, rfl, by rw [HC.out, HN.out]; omega, HWR.out⟩, by simp [intOf]; omega⟩
        have b' : (r == 0) = true := by simpa using b
        have HB0 : Hid (r = 0) := b
        clear b
        by_cases c : q < N
        · have hi2 : isF N pa := ⟨a, by rw [← HR.out.1]; exact HB0.out, by rw [← HR.out.2]; exact c⟩
          have HN : Hid (b2i (decide (isF N pa)) = 1) := by show _ = _; rw [decide_eq_true hi2]; rfl
          have c' : ¬ (N : Int) ≤ q := by omega
          clear hi2
          go_wp2
          exact ⟨⟨i + 1, by omega, by go_num, m + 1, rfl, by rw [HC.out, HN.out], HWR.out⟩, by simp [intOf]; omega⟩
        · have hn : ¬ isF N pa := fun h => by have h3 := h.2.2; rw [← HR.out.2] at h3; omega
          have HN : Hid (b2i (decide (isF N pa)) = 0) := by show _ = _; rw [decide_eq_false hn]; rfl
          clear hn
          go_wp2
          exact ⟨⟨i + 1, by omega, by go_num, m, rfl, by rw [HC.out, HN.out]; omega, HWR.out⟩, by simp [intOf]; omega⟩
    · have i1 : ¬ (i : Int) < n := by omega
      obtain rfl : n = i := by omega
      have HQ : Hid (m = cn (fun x => decide (isF N x.1)) A) := by have := HM.out; rw [show A.take n = A by rw [HNA.out, List.take_length]] at this; exact this
      go_wp2
      go_ret
      exact ⟨by rw [← HQ.out]; rfl, HSL.out.2.trans (HWR.out.mono HSL.out.2.size)⟩
end Go.Proofs.Ythopgmmodldljaa
