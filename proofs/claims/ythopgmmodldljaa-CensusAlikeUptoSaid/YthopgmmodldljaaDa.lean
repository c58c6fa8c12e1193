import Derived.Test.YthopgmmodldljaaCl
namespace Go.Proofs.Ythopgmmodldljaa
open Go Go.RowKit
set_option linter.unusedVariables false
set_option linter.unusedSimpArgs false
/-- Two lists are alike, element by element. -/
def allB {α : Type} (f : α → α → Bool) : List α → List α → Bool
  | [], [] => true
  | x :: l, y :: m => f x y && allB f l m
  | _, _ => false
theorem allB_len {α : Type} {f : α → α → Bool} : ∀ {l m : List α}, l.length ≠ m.length → allB f l m = false
  | [], [], h => absurd rfl h
  | [], y :: m, _ => rfl
  | x :: l, [], _ => rfl
  | x :: l, y :: m, h => by
    simp only [allB]
    rw [allB_len (l := l) (m := m) (by simpa using h), Bool.and_false]
theorem allB_true {α : Type} {f : α → α → Bool} : ∀ {l m : List α}, l.length = m.length → (∀ (i : Nat) x y, l[i]? = some x → m[i]? = some y → f x y = true) → allB f l m = true
  | [], [], _, _ => rfl
  | [], y :: m, h, _ => by cases h
  | x :: l, [], h, _ => by cases h
  | x :: l, y :: m, h, hf => by
    simp only [allB]
    rw [hf 0 x y rfl rfl, allB_true (l := l) (m := m) (by simpa using h) (fun i a b h1 h2 => hf (i + 1) a b h1 h2)]
    rfl
theorem allB_false {α : Type} {f : α → α → Bool} : ∀ {l m : List α} {i : Nat} {x y : α}, l[i]? = some x → m[i]? = some y → f x y = false → allB f l m = false
  | [], _, i, x, y, h, _, _ => by simp at h
  | _ :: _, [], i, x, y, _, h, _ => by simp at h
  | a :: l, b :: m, 0, x, y, h1, h2, hf => by
    simp only [List.getElem?_cons_zero, Option.some.injEq] at h1 h2
    subst h1 h2
    simp [allB, hf]
  | a :: l, b :: m, i + 1, x, y, h1, h2, hf => by
    simp only [List.getElem?_cons_succ] at h1 h2
    simp only [allB]
    rw [allB_false h1 h2 hf, Bool.and_false]
set_option maxRecDepth 100000 in
set_option maxHeartbeats 2000000 in
theorem same39_any {α : Type} {Q1 Q2 : α → List Value → Prop} {w : World} {X Y : Nat} {u v : Value} {l m : List α} (h1 : Sl w X 70 Q1 u l) (h2 : Sl w Y 70 Q2 v m) (hX : X ≤ w.heap.size) (hY : Y ≤ w.heap.size) (hn : l.length ≤ 10000000) (hm : m.length ≤ 10000000) (f : α → α → Bool)
    (hC : ∀ w', Below w.heap.size w w' → ∀ x ∈ l, ∀ y ∈ m, ∀ cs cs', Q1 x cs → Q2 y cs' → cs.length = 70 → cs'.length = 70 → Calls Try.prog 40 #[.agg cs.toArray, .agg cs'.toArray] w' fun e w'' => e = .returned (.bool (f x y)) ∧ Below w'.heap.size w' w'') :
    Calls Try.prog 39 #[u, v, .func (.func 40) #[] #[]] w fun e w' => e = .returned (.bool (allB f l m)) ∧ Below w.heap.size w w' := by
  obtain ⟨p1, c1, rfl⟩ := h1.form
  obtain ⟨p2, c2, rfl⟩ := h2.form
  have HC : Hid ( ∀ w', Below w.heap.size w w' → ∀ x ∈ l, ∀ y ∈ m, ∀ cs cs', Q1 x cs → Q2 y cs' → cs.length = 70 → cs'.length = 70 → Calls Try.prog 40 #[.agg cs.toArray, .agg cs'.toArray] w' fun e w'' => e = .returned (.bool (f x y)) ∧ Below w'.heap.size w' w'') := hC
  clear hC
  by_cases hlm : l.length = m.length
  · obtain ⟨n, hnl⟩ : ∃ n, n = l.length := ⟨_, rfl⟩
    rw [← hlm] at h2 ⊢
    rw [← hnl] at h1 h2 hn ⊢
    have HL : Hid (Sl w X 70 Q1 (.slice p1 n c1) l ∧ Sl w Y 70 Q2 (.slice p2 n c2) m ∧ (n = l.length ∧ l.length = m.length) ∧ X ≤ w.heap.size ∧ Y ≤ w.heap.size) := ⟨h1, h2, ⟨hnl, hlm⟩, hX, hY⟩
    clear h1 h2 hX hY hnl hlm hm
    go_enter Try.func39, Try.ntmps39
    go_wp2
    go_loopw [15] (fun k wr => ∃ i : Nat, i ≤ n ∧ k = .int .i64 i ∧ Hid (Below w.heap.size w wr ∧ ∀ j, j < i → ∀ x y, l[j]? = some x → m[j]? = some y → f x y = true)) (fun v _ => (n - intOf v).toNat)
    case atStart => exact ⟨0, by omega, rfl, Below.refl _ _, fun j h => by omega⟩
    case round =>
      obtain ⟨i, hi, rfl, HB⟩ := hrel
      by_cases hin : i < n
      · as_aux_lemma =>
          have i1 : (i : Int) < n := by omega
          obtain ⟨-, b1, o1, x, cs1, rfl, hbX, hx, hq1, hc1, hr⟩ := HL.out.1.at hin
          obtain ⟨-, b2, o2, y, cs2, rfl, hbY, hy, hq2, hc2, hr2⟩ := HL.out.2.1.at hin
          have r1 := range_keep hr HB.out.1 (by have := HL.out.2.2.2.1; omega : b1 < w.heap.size)
          have r2 := range_keep hr2 HB.out.1 (by have := HL.out.2.2.2.2; omega : b2 < w.heap.size)
          have HQ : Hid (∀ w', Below w.heap.size w w' → Calls Try.prog 40 #[.agg cs1.toArray, .agg cs2.toArray] w' fun e w'' => e = .returned (.bool (f x y)) ∧ Below w'.heap.size w' w'') := fun w' hb => HC.out w' hb x (List.mem_of_getElem? hx) y (List.mem_of_getElem? hy) cs1 cs2 hq1 hq2 hc1 hc2
          clear hq1 hq2
          have HX : Hid (l[i]? = some x ∧ m[i]? = some y) := ⟨hx, hy⟩
          have hS : (fun w' : World => w'.rangeAt b1 (o1 + i * 70) cs1 ∧ w'.rangeAt b2 (o2 + i * 70) cs2) wr.drew := ⟨r1, r2⟩
          have HD : Hid (Below w.heap.size w wr.drew) := HB.out.1.drew
          clear hr hr2 hbX hbY hx hy
          go_upto_region 6 with fail
          clear r1 r2
          refine region_set (fun w' => w'.rangeAt b1 (o1 + i * 70) cs1 ∧ w'.rangeAt b2 (o2 + i * 70) cs2) 9 [0, 1, 2, 5, 6] (by kernel_rfl) ?_
          refine set_pure (i := 0) (v := .func (.func 40) #[] #[]) rfl (by kernel_rfl) (by kernel_rfl) (by kernel_rfl) (by kernel_rfl) (fun _ _ _ h => h) (Or.inl ⟨by rfl, fun ww hSw => by go_simp⟩) ?_
          simp only [Act.put, List.setIfInBounds_toArray, List.set_cons_zero, List.set_cons_succ, List.getElem_toArray, List.getElem_cons_succ, List.getElem_cons_zero]
          refine set_pure (i := 1) (v := .slice (some ⟨b1, o1, .none⟩) n c1) rfl (by kernel_rfl) (by kernel_rfl) (by kernel_rfl) (by kernel_rfl) (fun _ _ _ h => h) (Or.inl ⟨by rfl, fun ww hSw => by go_simp⟩) ?_
          simp only [Act.put, List.setIfInBounds_toArray, List.set_cons_zero, List.set_cons_succ, List.getElem_toArray, List.getElem_cons_succ, List.getElem_cons_zero]
          refine set_pure (i := 2) (v := .int .i64 i) rfl (by kernel_rfl) (by kernel_rfl) (by kernel_rfl) (by kernel_rfl) (fun _ _ _ h => h) (Or.inl ⟨by rfl, fun ww hSw => by go_simp⟩) ?_
          simp only [Act.put, List.setIfInBounds_toArray, List.set_cons_zero, List.set_cons_succ, List.getElem_toArray, List.getElem_cons_succ, List.getElem_cons_zero]
          refine set_pure (i := 5) (v := .slice (some ⟨b2, o2, .none⟩) n c2) rfl (by kernel_rfl) (by kernel_rfl) (by kernel_rfl) (by kernel_rfl) (fun _ _ _ h => h) (Or.inl ⟨by rfl, fun ww hSw => by go_simp⟩) ?_
          simp only [Act.put, List.setIfInBounds_toArray, List.set_cons_zero, List.set_cons_succ, List.getElem_toArray, List.getElem_cons_succ, List.getElem_cons_zero]
          refine set_pure (i := 6) (v := .int .i64 i) rfl (by kernel_rfl) (by kernel_rfl) (by kernel_rfl) (by kernel_rfl) (fun _ _ _ h => h) (Or.inl ⟨by rfl, fun ww hSw => by go_simp⟩) ?_
          simp only [Act.put, List.setIfInBounds_toArray, List.set_cons_zero, List.set_cons_succ, List.getElem_toArray, List.getElem_cons_succ, List.getElem_cons_zero]
          refine set_take (i := 3) (v := .pointer (some ⟨b1, o1 + i * 70, .none⟩)) rfl (by kernel_rfl) (by kernel_rfl) (by kernel_rfl) (by kernel_rfl) (fun _ _ _ h => h) (Or.inl ⟨by rfl, fun ww hSw => by obtain ⟨hs1, hs2⟩ := hSw; go_simp⟩) hS ?_
          simp only [Act.put, List.setIfInBounds_toArray, List.set_cons_zero, List.set_cons_succ, List.getElem_toArray, List.getElem_cons_succ, List.getElem_cons_zero]
          refine set_take (i := 4) (v := .agg (cs1).toArray) rfl (by kernel_rfl) (by kernel_rfl) (by kernel_rfl) (by kernel_rfl) (fun _ _ _ h => h) (yieldsIf_load_mid (by rfl) 55 (.tmp 21) rfl (b1) (o1 + i * 70) rfl (cs1) _ (fun ww hSw => hSw.1) Try.underlying55 rfl (by rw [hc1]; kernel_rfl)) hS ?_
          simp only [Act.put, List.setIfInBounds_toArray, List.set_cons_zero, List.set_cons_succ, List.getElem_toArray, List.getElem_cons_succ, List.getElem_cons_zero]
          refine set_take (i := 7) (v := .pointer (some ⟨b2, o2 + i * 70, .none⟩)) rfl (by kernel_rfl) (by kernel_rfl) (by kernel_rfl) (by kernel_rfl) (fun _ _ _ h => h) (Or.inl ⟨by rfl, fun ww hSw => by obtain ⟨hs1, hs2⟩ := hSw; go_simp⟩) hS ?_
          simp only [Act.put, List.setIfInBounds_toArray, List.set_cons_zero, List.set_cons_succ, List.getElem_toArray, List.getElem_cons_succ, List.getElem_cons_zero]
          refine set_take (i := 8) (v := .agg (cs2).toArray) rfl (by kernel_rfl) (by kernel_rfl) (by kernel_rfl) (by kernel_rfl) (fun _ _ _ h => h) (yieldsIf_load_mid (by rfl) 55 (.tmp 25) rfl (b2) (o2 + i * 70) rfl (cs2) _ (fun ww hSw => hSw.2) Try.underlying55 rfl (by rw [hc2]; kernel_rfl)) hS ?_
          simp only [Act.put, List.setIfInBounds_toArray, List.set_cons_zero, List.set_cons_succ, List.getElem_toArray, List.getElem_cons_succ, List.getElem_cons_zero]
          refine set_tail 2 9 _ _ _ _ (by kernel_rfl) (by decide) ?_
          simp only [List.toList_toArray, List.drop_succ_cons, List.drop_zero]
          clear hS
          generalize wr.drew = WD at *
          go_wp2_with fail
          go_at_call 40
          refine (HQ.out _ HD.out).mono ?_
          rintro e W7 ⟨rfl, hB7⟩
          have HE : Hid (Below w.heap.size w W7) := HD.out.trans (hB7.mono HD.out.size)
          clear hB7 HD
          cases hfb : f x y
          · go_wp2
            go_ret
            exact ⟨by rw [allB_false HX.out.1 HX.out.2 hfb]; rfl, HE.out⟩
          · have HF : Hid (f x y = true) := hfb
            clear hfb
            go_wp2
            refine ⟨⟨i + 1, by omega, by go_num, HE.out, fun j hj a b ha hb => ?_⟩, by simp [intOf]; omega⟩
            by_cases hji : j = i
            · subst hji
              rw [HX.out.1] at ha
              rw [HX.out.2] at hb
              cases ha
              cases hb
              exact HF.out
            · exact HB.out.2 j (by omega) a b ha hb
      · have hnn : i = n := by omega
        subst i
        have g0 : ¬ (n : Int) < n := by omega
        clear hi hin
        go_wp2
        go_ret
        exact ⟨by rw [allB_true HL.out.2.2.1.2 (fun i x y hx hy => HB.out.2 i (by have := (List.getElem?_eq_some_iff.1 hx).1; have := HL.out.2.2.1.1; omega) x y hx hy)]; rfl, HB.out.1⟩
  · rw [allB_len hlm]
    obtain ⟨n, hnl⟩ : ∃ n, n = l.length := ⟨_, rfl⟩
    obtain ⟨k, hkl⟩ : ∃ n, n = m.length := ⟨_, rfl⟩
    rw [← hnl, ← hkl]
    have hb : ((n : Int) != (k : Int)) = true := by
      have : ¬ n = k := by rw [hnl, hkl]; exact hlm
      simp only [bne_iff_ne, ne_eq]
      omega
    clear h1 h2 hX hY hnl hkl hlm hn hm
    go_enter Try.func39, Try.ntmps39
    go_wp2
    go_ret
    exact ⟨rfl, Below.refl _ _⟩
set_option maxRecDepth 100000 in
set_option maxHeartbeats 2000000 in
theorem same41_any {α : Type} {Q1 Q2 : α → List Value → Prop} {w : World} {X Y : Nat} {u v : Value} {l m : List α} (h1 : Sl w X 8 Q1 u l) (h2 : Sl w Y 8 Q2 v m) (hX : X ≤ w.heap.size) (hY : Y ≤ w.heap.size) (hn : l.length ≤ 10000000) (hm : m.length ≤ 10000000) (f : α → α → Bool)
    (hC : ∀ w', Below w.heap.size w w' → ∀ x ∈ l, ∀ y ∈ m, ∀ cs cs', Q1 x cs → Q2 y cs' → cs.length = 8 → cs'.length = 8 → Calls Try.prog 42 #[.agg cs.toArray, .agg cs'.toArray] w' fun e w'' => e = .returned (.bool (f x y)) ∧ Below w'.heap.size w' w'') :
    Calls Try.prog 41 #[u, v, .func (.func 42) #[] #[]] w fun e w' => e = .returned (.bool (allB f l m)) ∧ Below w.heap.size w w' := by
  obtain ⟨p1, c1, rfl⟩ := h1.form
  obtain ⟨p2, c2, rfl⟩ := h2.form
  have HC : Hid ( ∀ w', Below w.heap.size w w' → ∀ x ∈ l, ∀ y ∈ m, ∀ cs cs', Q1 x cs → Q2 y cs' → cs.length = 8 → cs'.length = 8 → Calls Try.prog 42 #[.agg cs.toArray, .agg cs'.toArray] w' fun e w'' => e = .returned (.bool (f x y)) ∧ Below w'.heap.size w' w'') := hC
  clear hC
  by_cases hlm : l.length = m.length
  · obtain ⟨n, hnl⟩ : ∃ n, n = l.length := ⟨_, rfl⟩
    rw [← hlm] at h2 ⊢
    rw [← hnl] at h1 h2 hn ⊢
    have HL : Hid (Sl w X 8 Q1 (.slice p1 n c1) l ∧ Sl w Y 8 Q2 (.slice p2 n c2) m ∧ (n = l.length ∧ l.length = m.length) ∧ X ≤ w.heap.size ∧ Y ≤ w.heap.size) := ⟨h1, h2, ⟨hnl, hlm⟩, hX, hY⟩
    clear h1 h2 hX hY hnl hlm hm
    go_enter Try.func41, Try.ntmps41
    go_wp2
    go_loopw [15] (fun k wr => ∃ i : Nat, i ≤ n ∧ k = .int .i64 i ∧ Hid (Below w.heap.size w wr ∧ ∀ j, j < i → ∀ x y, l[j]? = some x → m[j]? = some y → f x y = true)) (fun v _ => (n - intOf v).toNat)
    case atStart => exact ⟨0, by omega, rfl, Below.refl _ _, fun j h => by omega⟩
    case round =>
      obtain ⟨i, hi, rfl, HB⟩ := hrel
      by_cases hin : i < n
      · as_aux_lemma =>
          have i1 : (i : Int) < n := by omega
          obtain ⟨-, b1, o1, x, cs1, rfl, hbX, hx, hq1, hc1, hr⟩ := HL.out.1.at hin
          obtain ⟨-, b2, o2, y, cs2, rfl, hbY, hy, hq2, hc2, hr2⟩ := HL.out.2.1.at hin
          have r1 := range_keep hr HB.out.1 (by have := HL.out.2.2.2.1; omega : b1 < w.heap.size)
          have r2 := range_keep hr2 HB.out.1 (by have := HL.out.2.2.2.2; omega : b2 < w.heap.size)
          have HQ : Hid (∀ w', Below w.heap.size w w' → Calls Try.prog 42 #[.agg cs1.toArray, .agg cs2.toArray] w' fun e w'' => e = .returned (.bool (f x y)) ∧ Below w'.heap.size w' w'') := fun w' hb => HC.out w' hb x (List.mem_of_getElem? hx) y (List.mem_of_getElem? hy) cs1 cs2 hq1 hq2 hc1 hc2
          clear hq1 hq2
          have HX : Hid (l[i]? = some x ∧ m[i]? = some y) := ⟨hx, hy⟩
          have hS : (fun w' : World => w'.rangeAt b1 (o1 + i * 8) cs1 ∧ w'.rangeAt b2 (o2 + i * 8) cs2) wr.drew := ⟨r1, r2⟩
          have HD : Hid (Below w.heap.size w wr.drew) := HB.out.1.drew
          clear hr hr2 hbX hbY hx hy
          go_upto_region 6 with fail
          clear r1 r2
          refine region_set (fun w' => w'.rangeAt b1 (o1 + i * 8) cs1 ∧ w'.rangeAt b2 (o2 + i * 8) cs2) 9 [0, 1, 2, 5, 6] (by kernel_rfl) ?_
          refine set_pure (i := 0) (v := .func (.func 42) #[] #[]) rfl (by kernel_rfl) (by kernel_rfl) (by kernel_rfl) (by kernel_rfl) (fun _ _ _ h => h) (Or.inl ⟨by rfl, fun ww hSw => by go_simp⟩) ?_
          simp only [Act.put, List.setIfInBounds_toArray, List.set_cons_zero, List.set_cons_succ, List.getElem_toArray, List.getElem_cons_succ, List.getElem_cons_zero]
          refine set_pure (i := 1) (v := .slice (some ⟨b1, o1, .none⟩) n c1) rfl (by kernel_rfl) (by kernel_rfl) (by kernel_rfl) (by kernel_rfl) (fun _ _ _ h => h) (Or.inl ⟨by rfl, fun ww hSw => by go_simp⟩) ?_
          simp only [Act.put, List.setIfInBounds_toArray, List.set_cons_zero, List.set_cons_succ, List.getElem_toArray, List.getElem_cons_succ, List.getElem_cons_zero]
          refine set_pure (i := 2) (v := .int .i64 i) rfl (by kernel_rfl) (by kernel_rfl) (by kernel_rfl) (by kernel_rfl) (fun _ _ _ h => h) (Or.inl ⟨by rfl, fun ww hSw => by go_simp⟩) ?_
          simp only [Act.put, List.setIfInBounds_toArray, List.set_cons_zero, List.set_cons_succ, List.getElem_toArray, List.getElem_cons_succ, List.getElem_cons_zero]
          refine set_pure (i := 5) (v := .slice (some ⟨b2, o2, .none⟩) n c2) rfl (by kernel_rfl) (by kernel_rfl) (by kernel_rfl) (by kernel_rfl) (fun _ _ _ h => h) (Or.inl ⟨by rfl, fun ww hSw => by go_simp⟩) ?_
          simp only [Act.put, List.setIfInBounds_toArray, List.set_cons_zero, List.set_cons_succ, List.getElem_toArray, List.getElem_cons_succ, List.getElem_cons_zero]
          refine set_pure (i := 6) (v := .int .i64 i) rfl (by kernel_rfl) (by kernel_rfl) (by kernel_rfl) (by kernel_rfl) (fun _ _ _ h => h) (Or.inl ⟨by rfl, fun ww hSw => by go_simp⟩) ?_
          simp only [Act.put, List.setIfInBounds_toArray, List.set_cons_zero, List.set_cons_succ, List.getElem_toArray, List.getElem_cons_succ, List.getElem_cons_zero]
          refine set_take (i := 3) (v := .pointer (some ⟨b1, o1 + i * 8, .none⟩)) rfl (by kernel_rfl) (by kernel_rfl) (by kernel_rfl) (by kernel_rfl) (fun _ _ _ h => h) (Or.inl ⟨by rfl, fun ww hSw => by obtain ⟨hs1, hs2⟩ := hSw; go_simp⟩) hS ?_
          simp only [Act.put, List.setIfInBounds_toArray, List.set_cons_zero, List.set_cons_succ, List.getElem_toArray, List.getElem_cons_succ, List.getElem_cons_zero]
          refine set_take (i := 4) (v := .agg (cs1).toArray) rfl (by kernel_rfl) (by kernel_rfl) (by kernel_rfl) (by kernel_rfl) (fun _ _ _ h => h) (yieldsIf_load_mid (by rfl) 94 (.tmp 21) rfl (b1) (o1 + i * 8) rfl (cs1) _ (fun ww hSw => hSw.1) Try.underlying94 rfl (by rw [hc1]; kernel_rfl)) hS ?_
          simp only [Act.put, List.setIfInBounds_toArray, List.set_cons_zero, List.set_cons_succ, List.getElem_toArray, List.getElem_cons_succ, List.getElem_cons_zero]
          refine set_take (i := 7) (v := .pointer (some ⟨b2, o2 + i * 8, .none⟩)) rfl (by kernel_rfl) (by kernel_rfl) (by kernel_rfl) (by kernel_rfl) (fun _ _ _ h => h) (Or.inl ⟨by rfl, fun ww hSw => by obtain ⟨hs1, hs2⟩ := hSw; go_simp⟩) hS ?_
          simp only [Act.put, List.setIfInBounds_toArray, List.set_cons_zero, List.set_cons_succ, List.getElem_toArray, List.getElem_cons_succ, List.getElem_cons_zero]
          refine set_take (i := 8) (v := .agg (cs2).toArray) rfl (by kernel_rfl) (by kernel_rfl) (by kernel_rfl) (by kernel_rfl) (fun _ _ _ h => h) (yieldsIf_load_mid (by rfl) 94 (.tmp 25) rfl (b2) (o2 + i * 8) rfl (cs2) _ (fun ww hSw => hSw.2) Try.underlying94 rfl (by rw [hc2]; kernel_rfl)) hS ?_
          simp only [Act.put, List.setIfInBounds_toArray, List.set_cons_zero, List.set_cons_succ, List.getElem_toArray, List.getElem_cons_succ, List.getElem_cons_zero]
          refine set_tail 2 9 _ _ _ _ (by kernel_rfl) (by decide) ?_
          simp only [List.toList_toArray, List.drop_succ_cons, List.drop_zero]
          clear hS
          generalize wr.drew = WD at *
          go_wp2_with fail
          go_at_call 42
          refine (HQ.out _ HD.out).mono ?_
          rintro e W7 ⟨rfl, hB7⟩
          have HE : Hid (Below w.heap.size w W7) := HD.out.trans (hB7.mono HD.out.size)
          clear hB7 HD
          cases hfb : f x y
          · go_wp2
            go_ret
            exact ⟨by rw [allB_false HX.out.1 HX.out.2 hfb]; rfl, HE.out⟩
          · have HF : Hid (f x y = true) := hfb
            clear hfb
            go_wp2
            refine ⟨⟨i + 1, by omega, by go_num, HE.out, fun j hj a b ha hb => ?_⟩, by simp [intOf]; omega⟩
            by_cases hji : j = i
            · subst hji
              rw [HX.out.1] at ha
              rw [HX.out.2] at hb
              cases ha
              cases hb
              exact HF.out
            · exact HB.out.2 j (by omega) a b ha hb
      · have hnn : i = n := by omega
        subst i
        have g0 : ¬ (n : Int) < n := by omega
        clear hi hin
        go_wp2
        go_ret
        exact ⟨by rw [allB_true HL.out.2.2.1.2 (fun i x y hx hy => HB.out.2 i (by have := (List.getElem?_eq_some_iff.1 hx).1; have := HL.out.2.2.1.1; omega) x y hx hy)]; rfl, HB.out.1⟩
  · rw [allB_len hlm]
    obtain ⟨n, hnl⟩ : ∃ n, n = l.length := ⟨_, rfl⟩
    obtain ⟨k, hkl⟩ : ∃ n, n = m.length := ⟨_, rfl⟩
    rw [← hnl, ← hkl]
    have hb : ((n : Int) != (k : Int)) = true := by
      have : ¬ n = k := by rw [hnl, hkl]; exact hlm
      simp only [bne_iff_ne, ne_eq]
      omega
    clear h1 h2 hX hY hnl hkl hlm hn hm
    go_enter Try.func41, Try.ntmps41
    go_wp2
    go_ret
    exact ⟨rfl, Below.refl _ _⟩
set_option maxRecDepth 100000 in
set_option maxHeartbeats 2000000 in
theorem same43_any {α : Type} {Q1 Q2 : α → List Value → Prop} {w : World} {X Y : Nat} {u v : Value} {l m : List α} (h1 : Sl w X 8 Q1 u l) (h2 : Sl w Y 8 Q2 v m) (hX : X ≤ w.heap.size) (hY : Y ≤ w.heap.size) (hn : l.length ≤ 10000000) (hm : m.length ≤ 10000000) (f : α → α → Bool)
    (hC : ∀ w', Below w.heap.size w w' → ∀ x ∈ l, ∀ y ∈ m, ∀ cs cs', Q1 x cs → Q2 y cs' → cs.length = 8 → cs'.length = 8 → Calls Try.prog 44 #[.agg cs.toArray, .agg cs'.toArray] w' fun e w'' => e = .returned (.bool (f x y)) ∧ Below w'.heap.size w' w'') :
    Calls Try.prog 43 #[u, v, .func (.func 44) #[] #[]] w fun e w' => e = .returned (.bool (allB f l m)) ∧ Below w.heap.size w w' := by
  obtain ⟨p1, c1, rfl⟩ := h1.form
  obtain ⟨p2, c2, rfl⟩ := h2.form
  have HC : Hid ( ∀ w', Below w.heap.size w w' → ∀ x ∈ l, ∀ y ∈ m, ∀ cs cs', Q1 x cs → Q2 y cs' → cs.length = 8 → cs'.length = 8 → Calls Try.prog 44 #[.agg cs.toArray, .agg cs'.toArray] w' fun e w'' => e = .returned (.bool (f x y)) ∧ Below w'.heap.size w' w'') := hC
  clear hC
  by_cases hlm : l.length = m.length
  · obtain ⟨n, hnl⟩ : ∃ n, n = l.length := ⟨_, rfl⟩
    rw [← hlm] at h2 ⊢
    rw [← hnl] at h1 h2 hn ⊢
    have HL : Hid (Sl w X 8 Q1 (.slice p1 n c1) l ∧ Sl w Y 8 Q2 (.slice p2 n c2) m ∧ (n = l.length ∧ l.length = m.length) ∧ X ≤ w.heap.size ∧ Y ≤ w.heap.size) := ⟨h1, h2, ⟨hnl, hlm⟩, hX, hY⟩
    clear h1 h2 hX hY hnl hlm hm
    go_enter Try.func43, Try.ntmps43
    go_wp2
    go_loopw [15] (fun k wr => ∃ i : Nat, i ≤ n ∧ k = .int .i64 i ∧ Hid (Below w.heap.size w wr ∧ ∀ j, j < i → ∀ x y, l[j]? = some x → m[j]? = some y → f x y = true)) (fun v _ => (n - intOf v).toNat)
    case atStart => exact ⟨0, by omega, rfl, Below.refl _ _, fun j h => by omega⟩
    case round =>
      obtain ⟨i, hi, rfl, HB⟩ := hrel
      by_cases hin : i < n
      · as_aux_lemma =>
          have i1 : (i : Int) < n := by omega
          obtain ⟨-, b1, o1, x, cs1, rfl, hbX, hx, hq1, hc1, hr⟩ := HL.out.1.at hin
          obtain ⟨-, b2, o2, y, cs2, rfl, hbY, hy, hq2, hc2, hr2⟩ := HL.out.2.1.at hin
          have r1 := range_keep hr HB.out.1 (by have := HL.out.2.2.2.1; omega : b1 < w.heap.size)
          have r2 := range_keep hr2 HB.out.1 (by have := HL.out.2.2.2.2; omega : b2 < w.heap.size)
          have HQ : Hid (∀ w', Below w.heap.size w w' → Calls Try.prog 44 #[.agg cs1.toArray, .agg cs2.toArray] w' fun e w'' => e = .returned (.bool (f x y)) ∧ Below w'.heap.size w' w'') := fun w' hb => HC.out w' hb x (List.mem_of_getElem? hx) y (List.mem_of_getElem? hy) cs1 cs2 hq1 hq2 hc1 hc2
          clear hq1 hq2
          have HX : Hid (l[i]? = some x ∧ m[i]? = some y) := ⟨hx, hy⟩
          have hS : (fun w' : World => w'.rangeAt b1 (o1 + i * 8) cs1 ∧ w'.rangeAt b2 (o2 + i * 8) cs2) wr.drew := ⟨r1, r2⟩
          have HD : Hid (Below w.heap.size w wr.drew) := HB.out.1.drew
          clear hr hr2 hbX hbY hx hy
          go_upto_region 6 with fail
          clear r1 r2
          refine region_set (fun w' => w'.rangeAt b1 (o1 + i * 8) cs1 ∧ w'.rangeAt b2 (o2 + i * 8) cs2) 9 [0, 1, 2, 5, 6] (by kernel_rfl) ?_
          refine set_pure (i := 0) (v := .func (.func 44) #[] #[]) rfl (by kernel_rfl) (by kernel_rfl) (by kernel_rfl) (by kernel_rfl) (fun _ _ _ h => h) (Or.inl ⟨by rfl, fun ww hSw => by go_simp⟩) ?_
          simp only [Act.put, List.setIfInBounds_toArray, List.set_cons_zero, List.set_cons_succ, List.getElem_toArray, List.getElem_cons_succ, List.getElem_cons_zero]
          refine set_pure (i := 1) (v := .slice (some ⟨b1, o1, .none⟩) n c1) rfl (by kernel_rfl) (by kernel_rfl) (by kernel_rfl) (by kernel_rfl) (fun _ _ _ h => h) (Or.inl ⟨by rfl, fun ww hSw => by go_simp⟩) ?_
          simp only [Act.put, List.setIfInBounds_toArray, List.set_cons_zero, List.set_cons_succ, List.getElem_toArray, List.getElem_cons_succ, List.getElem_cons_zero]
          refine set_pure (i := 2) (v := .int .i64 i) rfl (by kernel_rfl) (by kernel_rfl) (by kernel_rfl) (by kernel_rfl) (fun _ _ _ h => h) (Or.inl ⟨by rfl, fun ww hSw => by go_simp⟩) ?_
          simp only [Act.put, List.setIfInBounds_toArray, List.set_cons_zero, List.set_cons_succ, List.getElem_toArray, List.getElem_cons_succ, List.getElem_cons_zero]
          refine set_pure (i := 5) (v := .slice (some ⟨b2, o2, .none⟩) n c2) rfl (by kernel_rfl) (by kernel_rfl) (by kernel_rfl) (by kernel_rfl) (fun _ _ _ h => h) (Or.inl ⟨by rfl, fun ww hSw => by go_simp⟩) ?_
          simp only [Act.put, List.setIfInBounds_toArray, List.set_cons_zero, List.set_cons_succ, List.getElem_toArray, List.getElem_cons_succ, List.getElem_cons_zero]
          refine set_pure (i := 6) (v := .int .i64 i) rfl (by kernel_rfl) (by kernel_rfl) (by kernel_rfl) (by kernel_rfl) (fun _ _ _ h => h) (Or.inl ⟨by rfl, fun ww hSw => by go_simp⟩) ?_
          simp only [Act.put, List.setIfInBounds_toArray, List.set_cons_zero, List.set_cons_succ, List.getElem_toArray, List.getElem_cons_succ, List.getElem_cons_zero]
          refine set_take (i := 3) (v := .pointer (some ⟨b1, o1 + i * 8, .none⟩)) rfl (by kernel_rfl) (by kernel_rfl) (by kernel_rfl) (by kernel_rfl) (fun _ _ _ h => h) (Or.inl ⟨by rfl, fun ww hSw => by obtain ⟨hs1, hs2⟩ := hSw; go_simp⟩) hS ?_
          simp only [Act.put, List.setIfInBounds_toArray, List.set_cons_zero, List.set_cons_succ, List.getElem_toArray, List.getElem_cons_succ, List.getElem_cons_zero]
          refine set_take (i := 4) (v := .agg (cs1).toArray) rfl (by kernel_rfl) (by kernel_rfl) (by kernel_rfl) (by kernel_rfl) (fun _ _ _ h => h) (yieldsIf_load_mid (by rfl) 66 (.tmp 21) rfl (b1) (o1 + i * 8) rfl (cs1) _ (fun ww hSw => hSw.1) Try.underlying66 rfl (by rw [hc1]; kernel_rfl)) hS ?_
          simp only [Act.put, List.setIfInBounds_toArray, List.set_cons_zero, List.set_cons_succ, List.getElem_toArray, List.getElem_cons_succ, List.getElem_cons_zero]
          refine set_take (i := 7) (v := .pointer (some ⟨b2, o2 + i * 8, .none⟩)) rfl (by kernel_rfl) (by kernel_rfl) (by kernel_rfl) (by kernel_rfl) (fun _ _ _ h => h) (Or.inl ⟨by rfl, fun ww hSw => by obtain ⟨hs1, hs2⟩ := hSw; go_simp⟩) hS ?_
          simp only [Act.put, List.setIfInBounds_toArray, List.set_cons_zero, List.set_cons_succ, List.getElem_toArray, List.getElem_cons_succ, List.getElem_cons_zero]
          refine set_take (i := 8) (v := .agg (cs2).toArray) rfl (by kernel_rfl) (by kernel_rfl) (by kernel_rfl) (by kernel_rfl) (fun _ _ _ h => h) (yieldsIf_load_mid (by rfl) 66 (.tmp 25) rfl (b2) (o2 + i * 8) rfl (cs2) _ (fun ww hSw => hSw.2) Try.underlying66 rfl (by rw [hc2]; kernel_rfl)) hS ?_
          simp only [Act.put, List.setIfInBounds_toArray, List.set_cons_zero, List.set_cons_succ, List.getElem_toArray, List.getElem_cons_succ, List.getElem_cons_zero]
          refine set_tail 2 9 _ _ _ _ (by kernel_rfl) (by decide) ?_
          simp only [List.toList_toArray, List.drop_succ_cons, List.drop_zero]
          clear hS
          generalize wr.drew = WD at *
          go_wp2_with fail
          go_at_call 44
          refine (HQ.out _ HD.out).mono ?_
          rintro e W7 ⟨rfl, hB7⟩
          have HE : Hid (Below w.heap.size w W7) := HD.out.trans (hB7.mono HD.out.size)
          clear hB7 HD
          cases hfb : f x y
          · go_wp2
            go_ret
            exact ⟨by rw [allB_false HX.out.1 HX.out.2 hfb]; rfl, HE.out⟩
          · have HF : Hid (f x y = true) := hfb
            clear hfb
            go_wp2
            refine ⟨⟨i + 1, by omega, by go_num, HE.out, fun j hj a b ha hb => ?_⟩, by simp [intOf]; omega⟩
            by_cases hji : j = i
            · subst hji
              rw [HX.out.1] at ha
              rw [HX.out.2] at hb
              cases ha
              cases hb
              exact HF.out
            · exact HB.out.2 j (by omega) a b ha hb
      · have hnn : i = n := by omega
        subst i
        have g0 : ¬ (n : Int) < n := by omega
        clear hi hin
        go_wp2
        go_ret
        exact ⟨by rw [allB_true HL.out.2.2.1.2 (fun i x y hx hy => HB.out.2 i (by have := (List.getElem?_eq_some_iff.1 hx).1; have := HL.out.2.2.1.1; omega) x y hx hy)]; rfl, HB.out.1⟩
  · rw [allB_len hlm]
    obtain ⟨n, hnl⟩ : ∃ n, n = l.length := ⟨_, rfl⟩
    obtain ⟨k, hkl⟩ : ∃ n, n = m.length := ⟨_, rfl⟩
    rw [← hnl, ← hkl]
    have hb : ((n : Int) != (k : Int)) = true := by
      have : ¬ n = k := by rw [hnl, hkl]; exact hlm
      simp only [bne_iff_ne, ne_eq]
      omega
    clear h1 h2 hX hY hnl hkl hlm hn hm
    go_enter Try.func43, Try.ntmps43
    go_wp2
    go_ret
    exact ⟨rfl, Below.refl _ _⟩
set_option maxRecDepth 100000 in
set_option maxHeartbeats 2000000 in
theorem same45_any {α : Type} {Q1 Q2 : α → List Value → Prop} {w : World} {X Y : Nat} {u v : Value} {l m : List α} (h1 : Sl w X 6 Q1 u l) (h2 : Sl w Y 6 Q2 v m) (hX : X ≤ w.heap.size) (hY : Y ≤ w.heap.size) (hn : l.length ≤ 10000000) (hm : m.length ≤ 10000000) (f : α → α → Bool)
    (hC : ∀ w', Below w.heap.size w w' → ∀ x ∈ l, ∀ y ∈ m, ∀ cs cs', Q1 x cs → Q2 y cs' → cs.length = 6 → cs'.length = 6 → Calls Try.prog 46 #[.agg cs.toArray, .agg cs'.toArray] w' fun e w'' => e = .returned (.bool (f x y)) ∧ Below w'.heap.size w' w'') :
    Calls Try.prog 45 #[u, v, .func (.func 46) #[] #[]] w fun e w' => e = .returned (.bool (allB f l m)) ∧ Below w.heap.size w w' := by
  obtain ⟨p1, c1, rfl⟩ := h1.form
  obtain ⟨p2, c2, rfl⟩ := h2.form
  have HC : Hid ( ∀ w', Below w.heap.size w w' → ∀ x ∈ l, ∀ y ∈ m, ∀ cs cs', Q1 x cs → Q2 y cs' → cs.length = 6 → cs'.length = 6 → Calls Try.prog 46 #[.agg cs.toArray, .agg cs'.toArray] w' fun e w'' => e = .returned (.bool (f x y)) ∧ Below w'.heap.size w' w'') := hC
  clear hC
  by_cases hlm : l.length = m.length
  · obtain ⟨n, hnl⟩ : ∃ n, n = l.length := ⟨_, rfl⟩
    rw [← hlm] at h2 ⊢
    rw [← hnl] at h1 h2 hn ⊢
    have HL : Hid (Sl w X 6 Q1 (.slice p1 n c1) l ∧ Sl w Y 6 Q2 (.slice p2 n c2) m ∧ (n = l.length ∧ l.length = m.length) ∧ X ≤ w.heap.size ∧ Y ≤ w.heap.size) := ⟨h1, h2, ⟨hnl, hlm⟩, hX, hY⟩
    clear h1 h2 hX hY hnl hlm hm
    go_enter Try.func45, Try.ntmps45
    go_wp2
    go_loopw [15] (fun k wr => ∃ i : Nat, i ≤ n ∧ k = .int .i64 i ∧ Hid (Below w.heap.size w wr ∧ ∀ j, j < i → ∀ x y, l[j]? = some x → m[j]? = some y → f x y = true)) (fun v _ => (n - intOf v).toNat)
    case atStart => exact ⟨0, by omega, rfl, Below.refl _ _, fun j h => by omega⟩
    case round =>
      obtain ⟨i, hi, rfl, HB⟩ := hrel
      by_cases hin : i < n
      · as_aux_lemma =>
          have i1 : (i : Int) < n := by omega
          obtain ⟨-, b1, o1, x, cs1, rfl, hbX, hx, hq1, hc1, hr⟩ := HL.out.1.at hin
          obtain ⟨-, b2, o2, y, cs2, rfl, hbY, hy, hq2, hc2, hr2⟩ := HL.out.2.1.at hin
          have r1 := range_keep hr HB.out.1 (by have := HL.out.2.2.2.1; omega : b1 < w.heap.size)
          have r2 := range_keep hr2 HB.out.1 (by have := HL.out.2.2.2.2; omega : b2 < w.heap.size)
          have HQ : Hid (∀ w', Below w.heap.size w w' → Calls Try.prog 46 #[.agg cs1.toArray, .agg cs2.toArray] w' fun e w'' => e = .returned (.bool (f x y)) ∧ Below w'.heap.size w' w'') := fun w' hb => HC.out w' hb x (List.mem_of_getElem? hx) y (List.mem_of_getElem? hy) cs1 cs2 hq1 hq2 hc1 hc2
          clear hq1 hq2
          have HX : Hid (l[i]? = some x ∧ m[i]? = some y) := ⟨hx, hy⟩
          have hS : (fun w' : World => w'.rangeAt b1 (o1 + i * 6) cs1 ∧ w'.rangeAt b2 (o2 + i * 6) cs2) wr.drew := ⟨r1, r2⟩
          have HD : Hid (Below w.heap.size w wr.drew) := HB.out.1.drew
          clear hr hr2 hbX hbY hx hy
          go_upto_region 6 with fail
          clear r1 r2
          refine region_set (fun w' => w'.rangeAt b1 (o1 + i * 6) cs1 ∧ w'.rangeAt b2 (o2 + i * 6) cs2) 9 [0, 1, 2, 5, 6] (by kernel_rfl) ?_
          refine set_pure (i := 0) (v := .func (.func 46) #[] #[]) rfl (by kernel_rfl) (by kernel_rfl) (by kernel_rfl) (by kernel_rfl) (fun _ _ _ h => h) (Or.inl ⟨by rfl, fun ww hSw => by go_simp⟩) ?_
          simp only [Act.put, List.setIfInBounds_toArray, List.set_cons_zero, List.set_cons_succ, List.getElem_toArray, List.getElem_cons_succ, List.getElem_cons_zero]
          refine set_pure (i := 1) (v := .slice (some ⟨b1, o1, .none⟩) n c1) rfl (by kernel_rfl) (by kernel_rfl) (by kernel_rfl) (by kernel_rfl) (fun _ _ _ h => h) (Or.inl ⟨by rfl, fun ww hSw => by go_simp⟩) ?_
          simp only [Act.put, List.setIfInBounds_toArray, List.set_cons_zero, List.set_cons_succ, List.getElem_toArray, List.getElem_cons_succ, List.getElem_cons_zero]
          refine set_pure (i := 2) (v := .int .i64 i) rfl (by kernel_rfl) (by kernel_rfl) (by kernel_rfl) (by kernel_rfl) (fun _ _ _ h => h) (Or.inl ⟨by rfl, fun ww hSw => by go_simp⟩) ?_
          simp only [Act.put, List.setIfInBounds_toArray, List.set_cons_zero, List.set_cons_succ, List.getElem_toArray, List.getElem_cons_succ, List.getElem_cons_zero]
          refine set_pure (i := 5) (v := .slice (some ⟨b2, o2, .none⟩) n c2) rfl (by kernel_rfl) (by kernel_rfl) (by kernel_rfl) (by kernel_rfl) (fun _ _ _ h => h) (Or.inl ⟨by rfl, fun ww hSw => by go_simp⟩) ?_
          simp only [Act.put, List.setIfInBounds_toArray, List.set_cons_zero, List.set_cons_succ, List.getElem_toArray, List.getElem_cons_succ, List.getElem_cons_zero]
          refine set_pure (i := 6) (v := .int .i64 i) rfl (by kernel_rfl) (by kernel_rfl) (by kernel_rfl) (by kernel_rfl) (fun _ _ _ h => h) (Or.inl ⟨by rfl, fun ww hSw => by go_simp⟩) ?_
          simp only [Act.put, List.setIfInBounds_toArray, List.set_cons_zero, List.set_cons_succ, List.getElem_toArray, List.getElem_cons_succ, List.getElem_cons_zero]
          refine set_take (i := 3) (v := .pointer (some ⟨b1, o1 + i * 6, .none⟩)) rfl (by kernel_rfl) (by kernel_rfl) (by kernel_rfl) (by kernel_rfl) (fun _ _ _ h => h) (Or.inl ⟨by rfl, fun ww hSw => by obtain ⟨hs1, hs2⟩ := hSw; go_simp⟩) hS ?_
          simp only [Act.put, List.setIfInBounds_toArray, List.set_cons_zero, List.set_cons_succ, List.getElem_toArray, List.getElem_cons_succ, List.getElem_cons_zero]
          refine set_take (i := 4) (v := .agg (cs1).toArray) rfl (by kernel_rfl) (by kernel_rfl) (by kernel_rfl) (by kernel_rfl) (fun _ _ _ h => h) (yieldsIf_load_mid (by rfl) 98 (.tmp 21) rfl (b1) (o1 + i * 6) rfl (cs1) _ (fun ww hSw => hSw.1) Try.underlying98 rfl (by rw [hc1]; kernel_rfl)) hS ?_
          simp only [Act.put, List.setIfInBounds_toArray, List.set_cons_zero, List.set_cons_succ, List.getElem_toArray, List.getElem_cons_succ, List.getElem_cons_zero]
          refine set_take (i := 7) (v := .pointer (some ⟨b2, o2 + i * 6, .none⟩)) rfl (by kernel_rfl) (by kernel_rfl) (by kernel_rfl) (by kernel_rfl) (fun _ _ _ h => h) (Or.inl ⟨by rfl, fun ww hSw => by obtain ⟨hs1, hs2⟩ := hSw; go_simp⟩) hS ?_
          simp only [Act.put, List.setIfInBounds_toArray, List.set_cons_zero, List.set_cons_succ, List.getElem_toArray, List.getElem_cons_succ, List.getElem_cons_zero]
          refine set_take (i := 8) (v := .agg (cs2).toArray) rfl (by kernel_rfl) (by kernel_rfl) (by kernel_rfl) (by kernel_rfl) (fun _ _ _ h => h) (yieldsIf_load_mid (by rfl) 98 (.tmp 25) rfl (b2) (o2 + i * 6) rfl (cs2) _ (fun ww hSw => hSw.2) Try.underlying98 rfl (by rw [hc2]; kernel_rfl)) hS ?_
          simp only [Act.put, List.setIfInBounds_toArray, List.set_cons_zero, List.set_cons_succ, List.getElem_toArray, List.getElem_cons_succ, List.getElem_cons_zero]
          refine set_tail 2 9 _ _ _ _ (by kernel_rfl) (by decide) ?_
          simp only [List.toList_toArray, List.drop_succ_cons, List.drop_zero]
          clear hS
          generalize wr.drew = WD at *
          go_wp2_with fail
          go_at_call 46
          refine (HQ.out _ HD.out).mono ?_
          rintro e W7 ⟨rfl, hB7⟩
          have HE : Hid (Below w.heap.size w W7) := HD.out.trans (hB7.mono HD.out.size)
          clear hB7 HD
          cases hfb : f x y
          · go_wp2
            go_ret
            exact ⟨by rw [allB_false HX.out.1 HX.out.2 hfb]; rfl, HE.out⟩
          · have HF : Hid (f x y = true) := hfb
            clear hfb
            go_wp2
            refine ⟨⟨i + 1, by omega, by go_num, HE.out, fun j hj a b ha hb => ?_⟩, by simp [intOf]; omega⟩
            by_cases hji : j = i
            · subst hji
              rw [HX.out.1] at ha
              rw [HX.out.2] at hb
              cases ha
              cases hb
              exact HF.out
            · exact HB.out.2 j (by omega) a b ha hb
      · have hnn : i = n := by omega
        subst i
        have g0 : ¬ (n : Int) < n := by omega
        clear hi hin
        go_wp2
        go_ret
        exact ⟨by rw [allB_true HL.out.2.2.1.2 (fun i x y hx hy => HB.out.2 i (by have := (List.getElem?_eq_some_iff.1 hx).1; have := HL.out.2.2.1.1; omega) x y hx hy)]; rfl, HB.out.1⟩
  · rw [allB_len hlm]
    obtain ⟨n, hnl⟩ : ∃ n, n = l.length := ⟨_, rfl⟩
    obtain ⟨k, hkl⟩ : ∃ n, n = m.length := ⟨_, rfl⟩
    rw [← hnl, ← hkl]
    have hb : ((n : Int) != (k : Int)) = true := by
      have : ¬ n = k := by rw [hnl, hkl]; exact hlm
      simp only [bne_iff_ne, ne_eq]
      omega
    clear h1 h2 hX hY hnl hkl hlm hn hm
    go_enter Try.func45, Try.ntmps45
    go_wp2
    go_ret
    exact ⟨rfl, Below.refl _ _⟩
set_option maxRecDepth 100000 in
set_option maxHeartbeats 2000000 in
theorem same47_any {w : World} {X Y : Nat} {u v : Value} {l m : List Int} (h1 : Sl w X 1 (qI .u8) u l) (h2 : Sl w Y 1 (qI .u8) v m) (hX : X ≤ w.heap.size) (hY : Y ≤ w.heap.size) (hn : l.length ≤ 10000000) (hm : m.length ≤ 10000000) (f : Int → Int → Bool)
    (hC : ∀ w', Below w.heap.size w w' → ∀ (x y : Int), Calls Try.prog 48 #[.int .u8 x, .int .u8 y] w' fun e w'' => e = .returned (.bool (f x y)) ∧ Below w'.heap.size w' w'') :
    Calls Try.prog 47 #[u, v, .func (.func 48) #[] #[]] w fun e w' => e = .returned (.bool (allB f l m)) ∧ Below w.heap.size w w' := by
  obtain ⟨p1, c1, rfl⟩ := h1.form
  obtain ⟨p2, c2, rfl⟩ := h2.form
  have HC : Hid ( ∀ w', Below w.heap.size w w' → ∀ (x y : Int), Calls Try.prog 48 #[.int .u8 x, .int .u8 y] w' fun e w'' => e = .returned (.bool (f x y)) ∧ Below w'.heap.size w' w'') := hC
  clear hC
  by_cases hlm : l.length = m.length
  · obtain ⟨n, hnl⟩ : ∃ n, n = l.length := ⟨_, rfl⟩
    rw [← hlm] at h2 ⊢
    rw [← hnl] at h1 h2 hn ⊢
    have HL : Hid (Sl w X 1 (qI .u8) (.slice p1 n c1) l ∧ Sl w Y 1 (qI .u8) (.slice p2 n c2) m ∧ (n = l.length ∧ l.length = m.length) ∧ X ≤ w.heap.size ∧ Y ≤ w.heap.size) := ⟨h1, h2, ⟨hnl, hlm⟩, hX, hY⟩
    clear h1 h2 hX hY hnl hlm hm
    go_enter Try.func47, Try.ntmps47
    go_wp2
    go_loopw [15] (fun k wr => ∃ i : Nat, i ≤ n ∧ k = .int .i64 i ∧ Hid (Below w.heap.size w wr ∧ ∀ j, j < i → ∀ x y, l[j]? = some x → m[j]? = some y → f x y = true)) (fun v _ => (n - intOf v).toNat)
    case atStart => exact ⟨0, by omega, rfl, Below.refl _ _, fun j h => by omega⟩
    case round =>
      obtain ⟨i, hi, rfl, HB⟩ := hrel
      by_cases hin : i < n
      · as_aux_lemma =>
          have i1 : (i : Int) < n := by omega
          obtain ⟨-, b1, o1, x, cs1, rfl, hbX, hx, hq1, hc1, hr⟩ := HL.out.1.at hin
          obtain ⟨-, b2, o2, y, cs2, rfl, hbY, hy, hq2, hc2, hr2⟩ := HL.out.2.1.at hin
          obtain rfl := hq1
          obtain rfl := hq2
          have r1 := (HB.out.1.cell (p := ⟨b1, o1 + i, .none⟩) (by have := HL.out.2.2.2.1; show b1 < _; omega)).trans (by simpa using hr 0 _ rfl)
          have r2 := (HB.out.1.cell (p := ⟨b2, o2 + i, .none⟩) (by have := HL.out.2.2.2.2; show b2 < _; omega)).trans (by simpa using hr2 0 _ rfl)
          have HQ : Hid (∀ w', Below w.heap.size w w' → Calls Try.prog 48 #[.int .u8 x, .int .u8 y] w' fun e w'' => e = .returned (.bool (f x y)) ∧ Below w'.heap.size w' w'') := fun w' hb => HC.out w' hb x y
          clear hc1 hc2
          have HX : Hid (l[i]? = some x ∧ m[i]? = some y) := ⟨hx, hy⟩
          have hS : (fun w' : World => w'.cell? ⟨b1, o1 + i, .none⟩ = some (.int .u8 x) ∧ w'.cell? ⟨b2, o2 + i, .none⟩ = some (.int .u8 y)) wr.drew := ⟨r1, r2⟩
          have HD : Hid (Below w.heap.size w wr.drew) := HB.out.1.drew
          clear hr hr2 hbX hbY hx hy
          go_upto_region 6 with fail
          clear r1 r2
          refine region_set (fun w' => w'.cell? ⟨b1, o1 + i, .none⟩ = some (.int .u8 x) ∧ w'.cell? ⟨b2, o2 + i, .none⟩ = some (.int .u8 y)) 9 [0, 1, 2, 5, 6] (by kernel_rfl) ?_
          refine set_pure (i := 0) (v := .func (.func 48) #[] #[]) rfl (by kernel_rfl) (by kernel_rfl) (by kernel_rfl) (by kernel_rfl) (fun _ _ _ h => h) (Or.inl ⟨by rfl, fun ww hSw => by go_simp⟩) ?_
          simp only [Act.put, List.setIfInBounds_toArray, List.set_cons_zero, List.set_cons_succ, List.getElem_toArray, List.getElem_cons_succ, List.getElem_cons_zero]
          refine set_pure (i := 1) (v := .slice (some ⟨b1, o1, .none⟩) n c1) rfl (by kernel_rfl) (by kernel_rfl) (by kernel_rfl) (by kernel_rfl) (fun _ _ _ h => h) (Or.inl ⟨by rfl, fun ww hSw => by go_simp⟩) ?_
          simp only [Act.put, List.setIfInBounds_toArray, List.set_cons_zero, List.set_cons_succ, List.getElem_toArray, List.getElem_cons_succ, List.getElem_cons_zero]
          refine set_pure (i := 2) (v := .int .i64 i) rfl (by kernel_rfl) (by kernel_rfl) (by kernel_rfl) (by kernel_rfl) (fun _ _ _ h => h) (Or.inl ⟨by rfl, fun ww hSw => by go_simp⟩) ?_
          simp only [Act.put, List.setIfInBounds_toArray, List.set_cons_zero, List.set_cons_succ, List.getElem_toArray, List.getElem_cons_succ, List.getElem_cons_zero]
          refine set_pure (i := 5) (v := .slice (some ⟨b2, o2, .none⟩) n c2) rfl (by kernel_rfl) (by kernel_rfl) (by kernel_rfl) (by kernel_rfl) (fun _ _ _ h => h) (Or.inl ⟨by rfl, fun ww hSw => by go_simp⟩) ?_
          simp only [Act.put, List.setIfInBounds_toArray, List.set_cons_zero, List.set_cons_succ, List.getElem_toArray, List.getElem_cons_succ, List.getElem_cons_zero]
          refine set_pure (i := 6) (v := .int .i64 i) rfl (by kernel_rfl) (by kernel_rfl) (by kernel_rfl) (by kernel_rfl) (fun _ _ _ h => h) (Or.inl ⟨by rfl, fun ww hSw => by go_simp⟩) ?_
          simp only [Act.put, List.setIfInBounds_toArray, List.set_cons_zero, List.set_cons_succ, List.getElem_toArray, List.getElem_cons_succ, List.getElem_cons_zero]
          refine set_take (i := 3) (v := .pointer (some ⟨b1, o1 + i, .none⟩)) rfl (by kernel_rfl) (by kernel_rfl) (by kernel_rfl) (by kernel_rfl) (fun _ _ _ h => h) (Or.inl ⟨by rfl, fun ww hSw => by obtain ⟨hs1, hs2⟩ := hSw; go_simp⟩) hS ?_
          simp only [Act.put, List.setIfInBounds_toArray, List.set_cons_zero, List.set_cons_succ, List.getElem_toArray, List.getElem_cons_succ, List.getElem_cons_zero]
          refine set_take (i := 4) (v := .int .u8 x) rfl (by kernel_rfl) (by kernel_rfl) (by kernel_rfl) (by kernel_rfl) (fun _ _ _ h => h) (Or.inl ⟨by rfl, fun ww hSw => by obtain ⟨hs1, hs2⟩ := hSw; go_simp⟩) hS ?_
          simp only [Act.put, List.setIfInBounds_toArray, List.set_cons_zero, List.set_cons_succ, List.getElem_toArray, List.getElem_cons_succ, List.getElem_cons_zero]
          refine set_take (i := 7) (v := .pointer (some ⟨b2, o2 + i, .none⟩)) rfl (by kernel_rfl) (by kernel_rfl) (by kernel_rfl) (by kernel_rfl) (fun _ _ _ h => h) (Or.inl ⟨by rfl, fun ww hSw => by obtain ⟨hs1, hs2⟩ := hSw; go_simp⟩) hS ?_
          simp only [Act.put, List.setIfInBounds_toArray, List.set_cons_zero, List.set_cons_succ, List.getElem_toArray, List.getElem_cons_succ, List.getElem_cons_zero]
          refine set_take (i := 8) (v := .int .u8 y) rfl (by kernel_rfl) (by kernel_rfl) (by kernel_rfl) (by kernel_rfl) (fun _ _ _ h => h) (Or.inl ⟨by rfl, fun ww hSw => by obtain ⟨hs1, hs2⟩ := hSw; go_simp⟩) hS ?_
          simp only [Act.put, List.setIfInBounds_toArray, List.set_cons_zero, List.set_cons_succ, List.getElem_toArray, List.getElem_cons_succ, List.getElem_cons_zero]
          refine set_tail 2 9 _ _ _ _ (by kernel_rfl) (by decide) ?_
          simp only [List.toList_toArray, List.drop_succ_cons, List.drop_zero]
          clear hS
          generalize wr.drew = WD at *
          go_wp2_with fail
          go_at_call 48
          refine (HQ.out _ HD.out).mono ?_
          rintro e W7 ⟨rfl, hB7⟩
          have HE : Hid (Below w.heap.size w W7) := HD.out.trans (hB7.mono HD.out.size)
          clear hB7 HD
          cases hfb : f x y
          · go_wp2
            go_ret
            exact ⟨by rw [allB_false HX.out.1 HX.out.2 hfb]; rfl, HE.out⟩
          · have HF : Hid (f x y = true) := hfb
            clear hfb
            go_wp2
            refine ⟨⟨i + 1, by omega, by go_num, HE.out, fun j hj a b ha hb => ?_⟩, by simp [intOf]; omega⟩
            by_cases hji : j = i
            · subst hji
              rw [HX.out.1] at ha
              rw [HX.out.2] at hb
              cases ha
              cases hb
              exact HF.out
            · exact HB.out.2 j (by omega) a b ha hb
      · have hnn : i = n := by omega
        subst i
        have g0 : ¬ (n : Int) < n := by omega
        clear hi hin
        go_wp2
        go_ret
        exact ⟨by rw [allB_true HL.out.2.2.1.2 (fun i x y hx hy => HB.out.2 i (by have := (List.getElem?_eq_some_iff.1 hx).1; have := HL.out.2.2.1.1; omega) x y hx hy)]; rfl, HB.out.1⟩
  · rw [allB_len hlm]
    obtain ⟨n, hnl⟩ : ∃ n, n = l.length := ⟨_, rfl⟩
    obtain ⟨k, hkl⟩ : ∃ n, n = m.length := ⟨_, rfl⟩
    rw [← hnl, ← hkl]
    have hb : ((n : Int) != (k : Int)) = true := by
      have : ¬ n = k := by rw [hnl, hkl]; exact hlm
      simp only [bne_iff_ne, ne_eq]
      omega
    clear h1 h2 hX hY hnl hkl hlm hn hm
    go_enter Try.func47, Try.ntmps47
    go_wp2
    go_ret
    exact ⟨rfl, Below.refl _ _⟩
set_option maxRecDepth 100000 in
set_option maxHeartbeats 2000000 in
theorem same61_any {α : Type} {Q1 Q2 : α → List Value → Prop} {w : World} {X Y : Nat} {u v : Value} {l m : List α} (h1 : Sl w X 3 Q1 u l) (h2 : Sl w Y 3 Q2 v m) (hX : X ≤ w.heap.size) (hY : Y ≤ w.heap.size) (hn : l.length ≤ 10000000) (hm : m.length ≤ 10000000) (f : α → α → Bool)
    (hC : ∀ w', Below w.heap.size w w' → ∀ x ∈ l, ∀ y ∈ m, ∀ cs cs', Q1 x cs → Q2 y cs' → cs.length = 3 → cs'.length = 3 → Calls Try.prog 62 #[.agg cs.toArray, .agg cs'.toArray] w' fun e w'' => e = .returned (.bool (f x y)) ∧ Below w'.heap.size w' w'') :
    Calls Try.prog 61 #[u, v, .func (.func 62) #[] #[]] w fun e w' => e = .returned (.bool (allB f l m)) ∧ Below w.heap.size w w' := by
  obtain ⟨p1, c1, rfl⟩ := h1.form
  obtain ⟨p2, c2, rfl⟩ := h2.form
  have HC : Hid ( ∀ w', Below w.heap.size w w' → ∀ x ∈ l, ∀ y ∈ m, ∀ cs cs', Q1 x cs → Q2 y cs' → cs.length = 3 → cs'.length = 3 → Calls Try.prog 62 #[.agg cs.toArray, .agg cs'.toArray] w' fun e w'' => e = .returned (.bool (f x y)) ∧ Below w'.heap.size w' w'') := hC
  clear hC
  by_cases hlm : l.length = m.length
  · obtain ⟨n, hnl⟩ : ∃ n, n = l.length := ⟨_, rfl⟩
    rw [← hlm] at h2 ⊢
    rw [← hnl] at h1 h2 hn ⊢
    have HL : Hid (Sl w X 3 Q1 (.slice p1 n c1) l ∧ Sl w Y 3 Q2 (.slice p2 n c2) m ∧ (n = l.length ∧ l.length = m.length) ∧ X ≤ w.heap.size ∧ Y ≤ w.heap.size) := ⟨h1, h2, ⟨hnl, hlm⟩, hX, hY⟩
    clear h1 h2 hX hY hnl hlm hm
    go_enter Try.func61, Try.ntmps61
    go_wp2
    go_loopw [15] (fun k wr => ∃ i : Nat, i ≤ n ∧ k = .int .i64 i ∧ Hid (Below w.heap.size w wr ∧ ∀ j, j < i → ∀ x y, l[j]? = some x → m[j]? = some y → f x y = true)) (fun v _ => (n - intOf v).toNat)
    case atStart => exact ⟨0, by omega, rfl, Below.refl _ _, fun j h => by omega⟩
    case round =>
      obtain ⟨i, hi, rfl, HB⟩ := hrel
      by_cases hin : i < n
      · as_aux_lemma =>
          have i1 : (i : Int) < n := by omega
          obtain ⟨-, b1, o1, x, cs1, rfl, hbX, hx, hq1, hc1, hr⟩ := HL.out.1.at hin
          obtain ⟨-, b2, o2, y, cs2, rfl, hbY, hy, hq2, hc2, hr2⟩ := HL.out.2.1.at hin
          have r1 := range_keep hr HB.out.1 (by have := HL.out.2.2.2.1; omega : b1 < w.heap.size)
          have r2 := range_keep hr2 HB.out.1 (by have := HL.out.2.2.2.2; omega : b2 < w.heap.size)
          have HQ : Hid (∀ w', Below w.heap.size w w' → Calls Try.prog 62 #[.agg cs1.toArray, .agg cs2.toArray] w' fun e w'' => e = .returned (.bool (f x y)) ∧ Below w'.heap.size w' w'') := fun w' hb => HC.out w' hb x (List.mem_of_getElem? hx) y (List.mem_of_getElem? hy) cs1 cs2 hq1 hq2 hc1 hc2
          clear hq1 hq2
          have HX : Hid (l[i]? = some x ∧ m[i]? = some y) := ⟨hx, hy⟩
          have hS : (fun w' : World => w'.rangeAt b1 (o1 + i * 3) cs1 ∧ w'.rangeAt b2 (o2 + i * 3) cs2) wr.drew := ⟨r1, r2⟩
          have HD : Hid (Below w.heap.size w wr.drew) := HB.out.1.drew
          clear hr hr2 hbX hbY hx hy
          go_upto_region 6 with fail
          clear r1 r2
          refine region_set (fun w' => w'.rangeAt b1 (o1 + i * 3) cs1 ∧ w'.rangeAt b2 (o2 + i * 3) cs2) 9 [0, 1, 2, 5, 6] (by kernel_rfl) ?_
          refine set_pure (i := 0) (v := .func (.func 62) #[] #[]) rfl (by kernel_rfl) (by kernel_rfl) (by kernel_rfl) (by kernel_rfl) (fun _ _ _ h => h) (Or.inl ⟨by rfl, fun ww hSw => by go_simp⟩) ?_
          simp only [Act.put, List.setIfInBounds_toArray, List.set_cons_zero, List.set_cons_succ, List.getElem_toArray, List.getElem_cons_succ, List.getElem_cons_zero]
          refine set_pure (i := 1) (v := .slice (some ⟨b1, o1, .none⟩) n c1) rfl (by kernel_rfl) (by kernel_rfl) (by kernel_rfl) (by kernel_rfl) (fun _ _ _ h => h) (Or.inl ⟨by rfl, fun ww hSw => by go_simp⟩) ?_
          simp only [Act.put, List.setIfInBounds_toArray, List.set_cons_zero, List.set_cons_succ, List.getElem_toArray, List.getElem_cons_succ, List.getElem_cons_zero]
          refine set_pure (i := 2) (v := .int .i64 i) rfl (by kernel_rfl) (by kernel_rfl) (by kernel_rfl) (by kernel_rfl) (fun _ _ _ h => h) (Or.inl ⟨by rfl, fun ww hSw => by go_simp⟩) ?_
          simp only [Act.put, List.setIfInBounds_toArray, List.set_cons_zero, List.set_cons_succ, List.getElem_toArray, List.getElem_cons_succ, List.getElem_cons_zero]
          refine set_pure (i := 5) (v := .slice (some ⟨b2, o2, .none⟩) n c2) rfl (by kernel_rfl) (by kernel_rfl) (by kernel_rfl) (by kernel_rfl) (fun _ _ _ h => h) (Or.inl ⟨by rfl, fun ww hSw => by go_simp⟩) ?_
          simp only [Act.put, List.setIfInBounds_toArray, List.set_cons_zero, List.set_cons_succ, List.getElem_toArray, List.getElem_cons_succ, List.getElem_cons_zero]
          refine set_pure (i := 6) (v := .int .i64 i) rfl (by kernel_rfl) (by kernel_rfl) (by kernel_rfl) (by kernel_rfl) (fun _ _ _ h => h) (Or.inl ⟨by rfl, fun ww hSw => by go_simp⟩) ?_
          simp only [Act.put, List.setIfInBounds_toArray, List.set_cons_zero, List.set_cons_succ, List.getElem_toArray, List.getElem_cons_succ, List.getElem_cons_zero]
          refine set_take (i := 3) (v := .pointer (some ⟨b1, o1 + i * 3, .none⟩)) rfl (by kernel_rfl) (by kernel_rfl) (by kernel_rfl) (by kernel_rfl) (fun _ _ _ h => h) (Or.inl ⟨by rfl, fun ww hSw => by obtain ⟨hs1, hs2⟩ := hSw; go_simp⟩) hS ?_
          simp only [Act.put, List.setIfInBounds_toArray, List.set_cons_zero, List.set_cons_succ, List.getElem_toArray, List.getElem_cons_succ, List.getElem_cons_zero]
          refine set_take (i := 4) (v := .agg (cs1).toArray) rfl (by kernel_rfl) (by kernel_rfl) (by kernel_rfl) (by kernel_rfl) (fun _ _ _ h => h) (yieldsIf_load_mid (by rfl) 81 (.tmp 21) rfl (b1) (o1 + i * 3) rfl (cs1) _ (fun ww hSw => hSw.1) Try.underlying81 rfl (by rw [hc1]; kernel_rfl)) hS ?_
          simp only [Act.put, List.setIfInBounds_toArray, List.set_cons_zero, List.set_cons_succ, List.getElem_toArray, List.getElem_cons_succ, List.getElem_cons_zero]
          refine set_take (i := 7) (v := .pointer (some ⟨b2, o2 + i * 3, .none⟩)) rfl (by kernel_rfl) (by kernel_rfl) (by kernel_rfl) (by kernel_rfl) (fun _ _ _ h => h) (Or.inl ⟨by rfl, fun ww hSw => by obtain ⟨hs1, hs2⟩ := hSw; go_simp⟩) hS ?_
          simp only [Act.put, List.setIfInBounds_toArray, List.set_cons_zero, List.set_cons_succ, List.getElem_toArray, List.getElem_cons_succ, List.getElem_cons_zero]
          refine set_take (i := 8) (v := .agg (cs2).toArray) rfl (by kernel_rfl) (by kernel_rfl) (by kernel_rfl) (by kernel_rfl) (fun _ _ _ h => h) (yieldsIf_load_mid (by rfl) 81 (.tmp 25) rfl (b2) (o2 + i * 3) rfl (cs2) _ (fun ww hSw => hSw.2) Try.underlying81 rfl (by rw [hc2]; kernel_rfl)) hS ?_
          simp only [Act.put, List.setIfInBounds_toArray, List.set_cons_zero, List.set_cons_succ, List.getElem_toArray, List.getElem_cons_succ, List.getElem_cons_zero]
          refine set_tail 2 9 _ _ _ _ (by kernel_rfl) (by decide) ?_
          simp only [List.toList_toArray, List.drop_succ_cons, List.drop_zero]
          clear hS
          generalize wr.drew = WD at *
          go_wp2_with fail
          go_at_call 62
          refine (HQ.out _ HD.out).mono ?_
          rintro e W7 ⟨rfl, hB7⟩
          have HE : Hid (Below w.heap.size w W7) := HD.out.trans (hB7.mono HD.out.size)
          clear hB7 HD
          cases hfb : f x y
          · go_wp2
            go_ret
            exact ⟨by rw [allB_false HX.out.1 HX.out.2 hfb]; rfl, HE.out⟩
          · have HF : Hid (f x y = true) := hfb
            clear hfb
            go_wp2
            refine ⟨⟨i + 1, by omega, by go_num, HE.out, fun j hj a b ha hb => ?_⟩, by simp [intOf]; omega⟩
            by_cases hji : j = i
            · subst hji
              rw [HX.out.1] at ha
              rw [HX.out.2] at hb
              cases ha
              cases hb
              exact HF.out
            · exact HB.out.2 j (by omega) a b ha hb
      · have hnn : i = n := by omega
        subst i
        have g0 : ¬ (n : Int) < n := by omega
        clear hi hin
        go_wp2
        go_ret
        exact ⟨by rw [allB_true HL.out.2.2.1.2 (fun i x y hx hy => HB.out.2 i (by have := (List.getElem?_eq_some_iff.1 hx).1; have := HL.out.2.2.1.1; omega) x y hx hy)]; rfl, HB.out.1⟩
  · rw [allB_len hlm]
    obtain ⟨n, hnl⟩ : ∃ n, n = l.length := ⟨_, rfl⟩
    obtain ⟨k, hkl⟩ : ∃ n, n = m.length := ⟨_, rfl⟩
    rw [← hnl, ← hkl]
    have hb : ((n : Int) != (k : Int)) = true := by
      have : ¬ n = k := by rw [hnl, hkl]; exact hlm
      simp only [bne_iff_ne, ne_eq]
      omega
    clear h1 h2 hX hY hnl hkl hlm hn hm
    go_enter Try.func61, Try.ntmps61
    go_wp2
    go_ret
    exact ⟨rfl, Below.refl _ _⟩
end Go.Proofs.Ythopgmmodldljaa
