import Derived.Test.YthopgmmodldljaaCka
import Derived.Deep.DeepCutAuto
import Derived.Great.BuildSlice
namespace Go.Proofs.Ythopgmmodldljaa
open Go Go.RowKit
set_option linter.unusedVariables false
set_option linter.unusedSimpArgs false
def chL (c : Nat → Int) : List Value := [.int .i64 (c 4), .int .i64 (c 5)]
def chB (c c1 : Nat → Int) : Bool := ((c 4 == c1 4) && ((c 5 == c1 5) && true))
def rgB (c c1 : Nat → Int) : Bool := (((List.range 32).all fun i => c (8 + i) == c1 (8 + i)) && ((c 40 == c1 40) && true))
def fdB (c c1 : Nat → Int) : Bool := (List.range 16).all fun i => c (46 + i) == c1 (46 + i)
def peB (c c1 : Nat → Int) : Bool := ((c 64 == c1 64) && (((List.range 3).all fun i => c (65 + i) == c1 (65 + i)) && ((c 68 == c1 68) && ((c 69 == c1 69) && true))))
/-- A process's first part, its second part: the same but for frames? -/
def pcB1 (p q : Pc) : Bool := (p.c 0 == q.c 0) && (p.c 1 == q.c 1) && (p.c 2 == q.c 2) && (p.c 3 == q.c 3) && chB p.c q.c && (p.kil == q.kil) && (p.c 7 == q.c 7) && rgB p.c q.c && (p.c 41 == q.c 41)
def pcB2 (p q : Pc) : Bool := fdB p.c q.c && (p.c 62 == q.c 62) && (p.inC == q.inC) && peB p.c q.c && ((p.nodes.length : Int) == q.nodes.length) && ((p.pages.length : Int) == q.pages.length)
def pgB (x y : Pg) : Bool := x.no == y.no && x.pm == y.pm
def pcB (p q : Pc) : Bool := pcB1 p q && pcB2 p q && (List.range p.pages.length).all fun i => pgB (p.pages.getD i ⟨0, 0, 0⟩) (q.pages.getD i ⟨0, 0, 0⟩)
theorem chB_self (c : Nat → Int) : chB c c = true := by simp [chB]
theorem rgB_self (c : Nat → Int) : rgB c c = true := by simp [rgB]
theorem fdB_self (c : Nat → Int) : fdB c c = true := by simp [fdB]
theorem peB_self (c : Nat → Int) : peB c c = true := by simp [peB]
def AK (w : World) (A B : List Value) (wr : World) : Prop := wr.heap[w.heap.size]? = some (.cells A.toArray 33) ∧ wr.heap[w.heap.size + 1]? = some (.cells B.toArray 33) ∧ w.heap.size + 2 ≤ wr.heap.size ∧ Below w.heap.size w wr
theorem AK.step {w wr wr' : World} {A B : List Value} (h : AK w A B wr) (hb : Below wr.heap.size wr wr') : AK w A B wr' :=
  ⟨(hb.block _ (by have := h.2.2.1; omega)).trans h.1, (hb.block _ (by have := h.2.2.1; omega)).trans h.2.1, Nat.le_trans h.2.2.1 hb.size, h.2.2.2.trans (hb.mono (by have := h.2.2.1; omega))⟩
/-- Two lists are alike, element by element. -/
def allB {α : Type} (f : α → α → Bool) : List α → List α → Bool
  | [], [] => true
  | x :: l, y :: m => f x y && allB f l m
  | _, _ => false
theorem allB_len {α : Type} {f : α → α → Bool} : ∀ {l m : List α}, l.length ≠ m.length → allB f l m = false
  | [], [], h => absurd rfl h
  | [], y :: m, _ => rfl
  | x :: l, [], _ => rfl
  | x :: l, y :: m, h => by
    simp only [allB]
    rw [allB_len (l := l) (m := m) (by simpa using h), Bool.and_false]
theorem allB_true {α : Type} {f : α → α → Bool} : ∀ {l m : List α}, l.length = m.length → (∀ (i : Nat) x y, l[i]? = some x → m[i]? = some y → f x y = true) → allB f l m = true
  | [], [], _, _ => rfl
  | [], y :: m, h, _ => by cases h
  | x :: l, [], h, _ => by cases h
  | x :: l, y :: m, h, hf => by
    simp only [allB]
    rw [hf 0 x y rfl rfl, allB_true (l := l) (m := m) (by simpa using h) (fun i a b h1 h2 => hf (i + 1) a b h1 h2)]
    rfl
theorem allB_false {α : Type} {f : α → α → Bool} : ∀ {l m : List α} {i : Nat} {x y : α}, l[i]? = some x → m[i]? = some y → f x y = false → allB f l m = false
  | [], _, i, x, y, h, _, _ => by simp at h
  | _ :: _, [], i, x, y, _, h, _ => by simp at h
  | a :: l, b :: m, 0, x, y, h1, h2, hf => by
    simp only [List.getElem?_cons_zero, Option.some.injEq] at h1 h2
    subst h1 h2
    simp [allB, hf]
  | a :: l, b :: m, i + 1, x, y, h1, h2, hf => by
    simp only [List.getElem?_cons_succ] at h1 h2
    simp only [allB]
    rw [allB_false h1 h2 hf, Bool.and_false]
set_option maxRecDepth 100000 in
set_option maxHeartbeats 2000000 in
theorem same39_any {α : Type} {Q1 Q2 : α → List Value → Prop} {w : World} {X Y : Nat} {u v : Value} {l m : List α} (h1 : Sl w X 70 Q1 u l) (h2 : Sl w Y 70 Q2 v m) (hX : X ≤ w.heap.size) (hY : Y ≤ w.heap.size) (hn : l.length ≤ 10000000) (hm : m.length ≤ 10000000) (f : α → α → Bool)
    (hC : ∀ w', Below w.heap.size w w' → ∀ x ∈ l, ∀ y ∈ m, ∀ cs cs', Q1 x cs → Q2 y cs' → cs.length = 70 → cs'.length = 70 → Calls Try.prog 40 #[.agg cs.toArray, .agg cs'.toArray] w' fun e w'' => e = .returned (.bool (f x y)) ∧ Below w'.heap.size w' w'') :
    Calls Try.prog 39 #[u, v, .func (.func 40) #[] #[]] w fun e w' => e = .returned (.bool (allB f l m)) ∧ Below w.heap.size w w' := by
  obtain ⟨p1, c1, rfl⟩ := h1.form
  obtain ⟨p2, c2, rfl⟩ := h2.form
  have HC : Hid ( ∀ w', Below w.heap.size w w' → ∀ x ∈ l, ∀ y ∈ m, ∀ cs cs', Q1 x cs → Q2 y cs' → cs.length = 70 → cs'.length = 70 → Calls Try.prog 40 #[.agg cs.toArray, .agg cs'.toArray] w' fun e w'' => e = .returned (.bool (f x y)) ∧ Below w'.heap.size w' w'') := hC
  clear hC
  by_cases hlm : l.length = m.length
  · obtain ⟨n, hnl⟩ : ∃ n, n = l.length := ⟨_, rfl⟩
    rw [← hlm] at h2 ⊢
    rw [← hnl] at h1 h2 hn ⊢
    have HL : Hid (Sl w X 70 Q1 (.slice p1 n c1) l ∧ Sl w Y 70 Q2 (.slice p2 n c2) m ∧ (n = l.length ∧ l.length = m.length) ∧ X ≤ w.heap.size ∧ Y ≤ w.heap.size) := ⟨h1, h2, ⟨hnl, hlm⟩, hX, hY⟩
    clear h1 h2 hX hY hnl hlm hm
    go_enter Try.func39, Try.ntmps39
    go_wp2
    go_loopw [15] (fun k wr => ∃ i : Nat, i ≤ n ∧ k = .int .i64 i ∧ Hid (Below w.heap.size w wr ∧ ∀ j, j < i → ∀ x y, l[j]? = some x → m[j]? = some y → f x y = true)) (fun v _ => (n - intOf v).toNat)
    case atStart => exact ⟨0, by omega, rfl, Below.refl _ _, fun j h => by omega⟩
    case round =>
      obtain ⟨i, hi, rfl, HB⟩ := hrel
      by_cases hin : i < n
      · as_aux_lemma =>
          have i1 : (i : Int) < n := by omega
          obtain ⟨-, b1, o1, x, cs1, rfl, hbX, hx, hq1, hc1, hr⟩ := HL.out.1.at hin
          obtain ⟨-, b2, o2, y, cs2, rfl, hbY, hy, hq2, hc2, hr2⟩ := HL.out.2.1.at hin
          have r1 := range_keep hr HB.out.1 (by have := HL.out.2.2.2.1; omega : b1 < w.heap.size)
          have r2 := range_keep hr2 HB.out.1 (by have := HL.out.2.2.2.2; omega : b2 < w.heap.size)
          have HQ : Hid (∀ w', Below w.heap.size w w' → Calls Try.prog 40 #[.agg cs1.toArray, .agg cs2.toArray] w' fun e w'' => e = .returned (.bool (f x y)) ∧ Below w'.heap.size w' w'') := fun w' hb => HC.out w' hb x (List.mem_of_getElem? hx) y (List.mem_of_getElem? hy) cs1 cs2 hq1 hq2 hc1 hc2
          clear hq1 hq2
          have HX : Hid (l[i]? = some x ∧ m[i]? = some y) := ⟨hx, hy⟩
          have hS : (fun w' : World => w'.rangeAt b1 (o1 + i * 70) cs1 ∧ w'.rangeAt b2 (o2 + i * 70) cs2) wr.drew := ⟨r1, r2⟩
          have HD : Hid (Below w.heap.size w wr.drew) := HB.out.1.drew
          clear hr hr2 hbX hbY hx hy
          go_upto_region 6 with fail
          clear r1 r2
          refine region_set (fun w' => w'.rangeAt b1 (o1 + i * 70) cs1 ∧ w'.rangeAt b2 (o2 + i * 70) cs2) 9 [0, 1, 2, 5, 6] (by kernel_rfl) ?_
          refine set_pure (i := 0) (v := .func (.func 40) #[] #[]) rfl (by kernel_rfl) (by kernel_rfl) (by kernel_rfl) (by kernel_rfl) (fun _ _ _ h => h) (Or.inl ⟨by rfl, fun ww hSw => by go_simp⟩) ?_
          simp only [Act.put, List.setIfInBounds_toArray, List.set_cons_zero, List.set_cons_succ, List.getElem_toArray, List.getElem_cons_succ, List.getElem_cons_zero]
          refine set_pure (i := 1) (v := .slice (some ⟨b1, o1, .none⟩) n c1) rfl (by kernel_rfl) (by kernel_rfl) (by kernel_rfl) (by kernel_rfl) (fun _ _ _ h => h) (Or.inl ⟨by rfl, fun ww hSw => by go_simp⟩) ?_
          simp only [Act.put, List.setIfInBounds_toArray, List.set_cons_zero, List.set_cons_succ, List.getElem_toArray, List.getElem_cons_succ, List.getElem_cons_zero]
          refine set_pure (i := 2) (v := .int .i64 i) rfl (by kernel_rfl) (by kernel_rfl) (by kernel_rfl) (by kernel_rfl) (fun _ _ _ h => h) (Or.inl ⟨by rfl, fun ww hSw => by go_simp⟩) ?_
          simp only [Act.put, List.setIfInBounds_toArray, List.set_cons_zero, List.set_cons_succ, List.getElem_toArray, List.getElem_cons_succ, List.getElem_cons_zero]
          refine set_pure (i := 5) (v := .slice (some ⟨b2, o2, .none⟩) n c2) rfl (by kernel_rfl) (by kernel_rfl) (by kernel_rfl) (by kernel_rfl) (fun _ _ _ h => h) (Or.inl ⟨by rfl, fun ww hSw => by go_simp⟩) ?_
          simp only [Act.put, List.setIfInBounds_toArray, List.set_cons_zero, List.set_cons_succ, List.getElem_toArray, List.getElem_cons_succ, List.getElem_cons_zero]
          refine set_pure (i := 6) (v := .int .i64 i) rfl (by kernel_rfl) (by kernel_rfl) (by kernel_rfl) (by kernel_rfl) (fun _ _ _ h => h) (Or.inl ⟨by rfl, fun ww hSw => by go_simp⟩) ?_
          simp only [Act.put, List.setIfInBounds_toArray, List.set_cons_zero, List.set_cons_succ, List.getElem_toArray, List.getElem_cons_succ, List.getElem_cons_zero]
          refine set_take (i := 3) (v := .pointer (some ⟨b1, o1 + i * 70, .none⟩)) rfl (by kernel_rfl) (by kernel_rfl) (by kernel_rfl) (by kernel_rfl) (fun _ _ _ h => h) (Or.inl ⟨by rfl, fun ww hSw => by obtain ⟨hs1, hs2⟩ := hSw; go_simp⟩) hS ?_
          simp only [Act.put, List.setIfInBounds_toArray, List.set_cons_zero, List.set_cons_succ, List.getElem_toArray, List.getElem_cons_succ, List.getElem_cons_zero]
          refine set_take (i := 4) (v := .agg (cs1).toArray) rfl (by kernel_rfl) (by kernel_rfl) (by kernel_rfl) (by kernel_rfl) (fun _ _ _ h => h) (yieldsIf_load_mid (by rfl) 55 (.tmp 21) rfl (b1) (o1 + i * 70) rfl (cs1) _ (fun ww hSw => hSw.1) Try.underlying55 rfl (by rw [hc1]; kernel_rfl)) hS ?_
          simp only [Act.put, List.setIfInBounds_toArray, List.set_cons_zero, List.set_cons_succ, List.getElem_toArray, List.getElem_cons_succ, List.getElem_cons_zero]
          refine set_take (i := 7) (v := .pointer (some ⟨b2, o2 + i * 70, .none⟩)) rfl (by kernel_rfl) (by kernel_rfl) (by kernel_rfl) (by kernel_rfl) (fun _ _ _ h => h) (Or.inl ⟨by rfl, fun ww hSw => by obtain ⟨hs1, hs2⟩ := hSw; go_simp⟩) hS ?_
          simp only [Act.put, List.setIfInBounds_toArray, List.set_cons_zero, List.set_cons_succ, List.getElem_toArray, List.getElem_cons_succ, List.getElem_cons_zero]
          refine set_take (i := 8) (v := .agg (cs2).toArray) rfl (by kernel_rfl) (by kernel_rfl) (by kernel_rfl) (by kernel_rfl) (fun _ _ _ h => h) (yieldsIf_load_mid (by rfl) 55 (.tmp 25) rfl (b2) (o2 + i * 70) rfl (cs2) _ (fun ww hSw => hSw.2) Try.underlying55 rfl (by rw [hc2]; kernel_rfl)) hS ?_
          simp only [Act.put, List.setIfInBounds_toArray, List.set_cons_zero, List.set_cons_succ, List.getElem_toArray, List.getElem_cons_succ, List.getElem_cons_zero]
          refine set_tail 2 9 _ _ _ _ (by kernel_rfl) (by decide) ?_
          simp only [List.toList_toArray, List.drop_succ_cons, List.drop_zero]
          clear hS
          generalize wr.drew = WD at *
          go_wp2_with fail
          go_at_call 40
          refine (HQ.out _ HD.out).mono ?_
          rintro e W7 ⟨rfl, hB7⟩
          have HE : Hid (Below w.heap.size w W7) := HD.out.trans (hB7.mono HD.out.size)
          clear hB7 HD
          cases hfb : f x y
          · go_wp2
            go_ret
            exact ⟨by rw [allB_false HX.out.1 HX.out.2 hfb]; rfl, HE.out⟩
          · have HF : Hid (f x y = true) := hfb
            clear hfb
            go_wp2
            refine ⟨⟨i + 1, by omega, by go_num, HE.out, fun j hj a b ha hb => ?_⟩, by simp [intOf]; omega⟩
            by_cases hji : j = i
            · subst hji
              rw [HX.out.1] at ha
              rw [HX.out.2] at hb
              cases ha
              cases hb
              exact HF.out
            · exact HB.out.2 j (by omega) a b ha hb
      · have hnn : i = n := by omega
        subst i
        have g0 : ¬ (n : Int) < n := by omega
        clear hi hin
        go_wp2
        go_ret
        exact ⟨by rw [allB_true HL.out.2.2.1.2 (fun i x y hx hy => HB.out.2 i (by have := (List.getElem?_eq_some_iff.1 hx).1; have := HL.out.2.2.1.1; omega) x y hx hy)]; rfl, HB.out.1⟩
  · rw [allB_len hlm]
    obtain ⟨n, hnl⟩ : ∃ n, n = l.length := ⟨_, rfl⟩
    obtain ⟨k, hkl⟩ : ∃ n, n = m.length := ⟨_, rfl⟩
    rw [← hnl, ← hkl]
    have hb : ((n : Int) != (k : Int)) = true := by
      have : ¬ n = k := by rw [hnl, hkl]; exact hlm
      simp only [bne_iff_ne, ne_eq]
      omega
    clear h1 h2 hX hY hnl hkl hlm hn hm
    go_enter Try.func39, Try.ntmps39
    go_wp2
    go_ret
    exact ⟨rfl, Below.refl _ _⟩
set_option maxRecDepth 100000 in
set_option maxHeartbeats 2000000 in
theorem same41_any {α : Type} {Q1 Q2 : α → List Value → Prop} {w : World} {X Y : Nat} {u v : Value} {l m : List α} (h1 : Sl w X 8 Q1 u l) (h2 : Sl w Y 8 Q2 v m) (hX : X ≤ w.heap.size) (hY : Y ≤ w.heap.size) (hn : l.length ≤ 10000000) (hm : m.length ≤ 10000000) (f : α → α → Bool)
    (hC : ∀ w', Below w.heap.size w w' → ∀ x ∈ l, ∀ y ∈ m, ∀ cs cs', Q1 x cs → Q2 y cs' → cs.length = 8 → cs'.length = 8 → Calls Try.prog 42 #[.agg cs.toArray, .agg cs'.toArray] w' fun e w'' => e = .returned (.bool (f x y)) ∧ Below w'.heap.size w' w'') :
    Calls Try.prog 41 #[u, v, .func (.func 42) #[] #[]] w fun e w' => e = .returned (.bool (allB f l m)) ∧ Below w.heap.size w w' := by
  obtain ⟨p1, c1, rfl⟩ := h1.form
  obtain ⟨p2, c2, rfl⟩ := h2.form
  have HC : Hid ( ∀ w', Below w.heap.size w w' → ∀ x ∈ l, ∀ y ∈ m, ∀ cs cs', Q1 x cs → Q2 y cs' → cs.length = 8 → cs'.length = 8 → Calls Try.prog 42 #[.agg cs.toArray, .agg cs'.toArray] w' fun e w'' => e = .returned (.bool (f x y)) ∧ Below w'.heap.size w' w'') := hC
  clear hC
  by_cases hlm : l.length = m.length
  · obtain ⟨n, hnl⟩ : ∃ n, n = l.length := ⟨_, rfl⟩
    rw [← hlm] at h2 ⊢
    rw [← hnl] at h1 h2 hn ⊢
    have HL : Hid (Sl w X 8 Q1 (.slice p1 n c1) l ∧ Sl w Y 8 Q2 (.slice p2 n c2) m ∧ (n = l.length ∧ l.length = m.length) ∧ X ≤ w.heap.size ∧ Y ≤ w.heap.size) := ⟨h1, h2, ⟨hnl, hlm⟩, hX, hY⟩
    clear h1 h2 hX hY hnl hlm hm
    go_enter Try.func41, Try.ntmps41
    go_wp2
    go_loopw [15] (fun k wr => ∃ i : Nat, i ≤ n ∧ k = .int .i64 i ∧ Hid (Below w.heap.size w wr ∧ ∀ j, j < i → ∀ x y, l[j]? = some x → m[j]? = some y → f x y = true)) (fun v _ => (n - intOf v).toNat)
    case atStart => exact ⟨0, by omega, rfl, Below.refl _ _, fun j h => by omega⟩
    case round =>
      obtain ⟨i, hi, rfl, HB⟩ := hrel
      by_cases hin : i < n
      · as_aux_lemma =>
          have i1 : (i : Int) < n := by omega
          obtain ⟨-, b1, o1, x, cs1, rfl, hbX, hx, hq1, hc1, hr⟩ := HL.out.1.at hin
          obtain ⟨-, b2, o2, y, cs2, rfl, hbY, hy, hq2, hc2, hr2⟩ := HL.out.2.1.at hin
          have r1 := range_keep hr HB.out.1 (by have := HL.out.2.2.2.1; omega : b1 < w.heap.size)
          have r2 := range_keep hr2 HB.out.1 (by have := HL.out.2.2.2.2; omega : b2 < w.heap.size)
          have HQ : Hid (∀ w', Below w.heap.size w w' → Calls Try.prog 42 #[.agg cs1.toArray, .agg cs2.toArray] w' fun e w'' => e = .returned (.bool (f x y)) ∧ Below w'.heap.size w' w'') := fun w' hb => HC.out w' hb x (List.mem_of_getElem? hx) y (List.mem_of_getElem? hy) cs1 cs2 hq1 hq2 hc1 hc2
          clear hq1 hq2
          have HX : Hid (l[i]? = some x ∧ m[i]? = some y) := ⟨hx, hy⟩
          have hS : (fun w' : World => w'.rangeAt b1 (o1 + i * 8) cs1 ∧ w'.rangeAt b2 (o2 + i * 8) cs2) wr.drew := ⟨r1, r2⟩
          have HD : Hid (Below w.heap.size w wr.drew) := HB.out.1.drew
          clear hr hr2 hbX hbY hx hy
          go_upto_region 6 with fail
          clear r1 r2
          refine region_set (fun w' => w'.rangeAt b1 (o1 + i * 8) cs1 ∧ w'.rangeAt b2 (o2 + i * 8) cs2) 9 [0, 1, 2, 5, 6] (by kernel_rfl) ?_
          refine set_pure (i := 0) (v := .func (.func 42) #[] #[]) rfl (by kernel_rfl) (by kernel_rfl) (by kernel_rfl) (by kernel_rfl) (fun _ _ _ h => h) (Or.inl ⟨by rfl, fun ww hSw => by go_simp⟩) ?_
          simp only [Act.put, List.setIfInBounds_toArray, List.set_cons_zero, List.set_cons_succ, List.getElem_toArray, List.getElem_cons_succ, List.getElem_cons_zero]
          refine set_pure (i := 1) (v := .slice (some ⟨b1, o1, .none⟩) n c1) rfl (by kernel_rfl) (by kernel_rfl) (by kernel_rfl) (by kernel_rfl) (fun _ _ _ h => h) (Or.inl ⟨by rfl, fun ww hSw => by go_simp⟩) ?_
          simp only [Act.put, List.setIfInBounds_toArray, List.set_cons_zero, List.set_cons_succ, List.getElem_toArray, List.getElem_cons_succ, List.getElem_cons_zero]
          refine set_pure (i := 2) (v := .int .i64 i) rfl (by kernel_rfl) (by kernel_rfl) (by kernel_rfl) (by kernel_rfl) (fun _ _ _ h => h) (Or.inl ⟨by rfl, fun ww hSw => by go_simp⟩) ?_
          simp only [Act.put, List.setIfInBounds_toArray, List.set_cons_zero, List.set_cons_succ, List.getElem_toArray, List.getElem_cons_succ, List.getElem_cons_zero]
          refine set_pure (i := 5) (v := .slice (some ⟨b2, o2, .none⟩) n c2) rfl (by kernel_rfl) (by kernel_rfl) (by kernel_rfl) (by kernel_rfl) (fun _ _ _ h => h) (Or.inl ⟨by rfl, fun ww hSw => by go_simp⟩) ?_
          simp only [Act.put, List.setIfInBounds_toArray, List.set_cons_zero, List.set_cons_succ, List.getElem_toArray, List.getElem_cons_succ, List.getElem_cons_zero]
          refine set_pure (i := 6) (v := .int .i64 i) rfl (by kernel_rfl) (by kernel_rfl) (by kernel_rfl) (by kernel_rfl) (fun _ _ _ h => h) (Or.inl ⟨by rfl, fun ww hSw => by go_simp⟩) ?_
          simp only [Act.put, List.setIfInBounds_toArray, List.set_cons_zero, List.set_cons_succ, List.getElem_toArray, List.getElem_cons_succ, List.getElem_cons_zero]
          refine set_take (i := 3) (v := .pointer (some ⟨b1, o1 + i * 8, .none⟩)) rfl (by kernel_rfl) (by kernel_rfl) (by kernel_rfl) (by kernel_rfl) (fun _ _ _ h => h) (Or.inl ⟨by rfl, fun ww hSw => by obtain ⟨hs1, hs2⟩ := hSw; go_simp⟩) hS ?_
          simp only [Act.put, List.setIfInBounds_toArray, List.set_cons_zero, List.set_cons_succ, List.getElem_toArray, List.getElem_cons_succ, List.getElem_cons_zero]
          refine set_take (i := 4) (v := .agg (cs1).toArray) rfl (by kernel_rfl) (by kernel_rfl) (by kernel_rfl) (by kernel_rfl) (fun _ _ _ h => h) (yieldsIf_load_mid (by rfl) 94 (.tmp 21) rfl (b1) (o1 + i * 8) rfl (cs1) _ (fun ww hSw => hSw.1) Try.underlying94 rfl (by rw [hc1]; kernel_rfl)) hS ?_
          simp only [Act.put, List.setIfInBounds_toArray, List.set_cons_zero, List.set_cons_succ, List.getElem_toArray, List.getElem_cons_succ, List.getElem_cons_zero]
          refine set_take (i := 7) (v := .pointer (some ⟨b2, o2 + i * 8, .none⟩)) rfl (by kernel_rfl) (by kernel_rfl) (by kernel_rfl) (by kernel_rfl) (fun _ _ _ h => h) (Or.inl ⟨by rfl, fun ww hSw => by obtain ⟨hs1, hs2⟩ := hSw; go_simp⟩) hS ?_
          simp only [Act.put, List.setIfInBounds_toArray, List.set_cons_zero, List.set_cons_succ, List.getElem_toArray, List.getElem_cons_succ, List.getElem_cons_zero]
          refine set_take (i := 8) (v := .agg (cs2).toArray) rfl (by kernel_rfl) (by kernel_rfl) (by kernel_rfl) (by kernel_rfl) (fun _ _ _ h => h) (yieldsIf_load_mid (by rfl) 94 (.tmp 25) rfl (b2) (o2 + i * 8) rfl (cs2) _ (fun ww hSw => hSw.2) Try.underlying94 rfl (by rw [hc2]; kernel_rfl)) hS ?_
          simp only [Act.put, List.setIfInBounds_toArray, List.set_cons_zero, List.set_cons_succ, List.getElem_toArray, List.getElem_cons_succ, List.getElem_cons_zero]
          refine set_tail 2 9 _ _ _ _ (by kernel_rfl) (by decide) ?_
          simp only [List.toList_toArray, List.drop_succ_cons, List.drop_zero]
          clear hS
          generalize wr.drew = WD at *
          go_wp2_with fail
          go_at_call 42
          refine (HQ.out _ HD.out).mono ?_
          rintro e W7 ⟨rfl, hB7⟩
          have HE : Hid (Below w.heap.size w W7) := HD.out.trans (hB7.mono HD.out.size)
          clear hB7 HD
          cases hfb : f x y
          · go_wp2
            go_ret
            exact ⟨by rw [allB_false HX.out.1 HX.out.2 hfb]; rfl, HE.out⟩
          · have HF : Hid (f x y = true) := hfb
            clear hfb
            go_wp2
            refine ⟨⟨i + 1, by omega, by go_num, HE.out, fun j hj a b ha hb => ?_⟩, by simp [intOf]; omega⟩
            by_cases hji : j = i
            · subst hji
              rw [HX.out.1] at ha
              rw [HX.out.2] at hb
              cases ha
              cases hb
              exact HF.out
            · exact HB.out.2 j (by omega) a b ha hb
      · have hnn : i = n := by omega
        subst i
        have g0 : ¬ (n : Int) < n := by omega
        clear hi hin
        go_wp2
        go_ret
        exact ⟨by rw [allB_true HL.out.2.2.1.2 (fun i x y hx hy => HB.out.2 i (by have := (List.getElem?_eq_some_iff.1 hx).1; have := HL.out.2.2.1.1; omega) x y hx hy)]; rfl, HB.out.1⟩
  · rw [allB_len hlm]
    obtain ⟨n, hnl⟩ : ∃ n, n = l.length := ⟨_, rfl⟩
    obtain ⟨k, hkl⟩ : ∃ n, n = m.length := ⟨_, rfl⟩
    rw [← hnl, ← hkl]
    have hb : ((n : Int) != (k : Int)) = true := by
      have : ¬ n = k := by rw [hnl, hkl]; exact hlm
      simp only [bne_iff_ne, ne_eq]
      omega
    clear h1 h2 hX hY hnl hkl hlm hn hm
    go_enter Try.func41, Try.ntmps41
    go_wp2
    go_ret
    exact ⟨rfl, Below.refl _ _⟩
set_option maxRecDepth 100000 in
set_option maxHeartbeats 2000000 in
theorem same43_any {α : Type} {Q1 Q2 : α → List Value → Prop} {w : World} {X Y : Nat} {u v : Value} {l m : List α} (h1 : Sl w X 8 Q1 u l) (h2 : Sl w Y 8 Q2 v m) (hX : X ≤ w.heap.size) (hY : Y ≤ w.heap.size) (hn : l.length ≤ 10000000) (hm : m.length ≤ 10000000) (f : α → α → Bool)
    (hC : ∀ w', Below w.heap.size w w' → ∀ x ∈ l, ∀ y ∈ m, ∀ cs cs', Q1 x cs → Q2 y cs' → cs.length = 8 → cs'.length = 8 → Calls Try.prog 44 #[.agg cs.toArray, .agg cs'.toArray] w' fun e w'' => e = .returned (.bool (f x y)) ∧ Below w'.heap.size w' w'') :
    Calls Try.prog 43 #[u, v, .func (.func 44) #[] #[]] w fun e w' => e = .returned (.bool (allB f l m)) ∧ Below w.heap.size w w' := by
  obtain ⟨p1, c1, rfl⟩ := h1.form
  obtain ⟨p2, c2, rfl⟩ := h2.form
  have HC : Hid ( ∀ w', Below w.heap.size w w' → ∀ x ∈ l, ∀ y ∈ m, ∀ cs cs', Q1 x cs → Q2 y cs' → cs.length = 8 → cs'.length = 8 → Calls Try.prog 44 #[.agg cs.toArray, .agg cs'.toArray] w' fun e w'' => e = .returned (.bool (f x y)) ∧ Below w'.heap.size w' w'') := hC
  clear hC
  by_cases hlm : l.length = m.length
  · obtain ⟨n, hnl⟩ : ∃ n, n = l.length := ⟨_, rfl⟩
    rw [← hlm] at h2 ⊢
    rw [← hnl] at h1 h2 hn ⊢
    have HL : Hid (Sl w X 8 Q1 (.slice p1 n c1) l ∧ Sl w Y 8 Q2 (.slice p2 n c2) m ∧ (n = l.length ∧ l.length = m.length) ∧ X ≤ w.heap.size ∧ Y ≤ w.heap.size) := ⟨h1, h2, ⟨hnl, hlm⟩, hX, hY⟩
    clear h1 h2 hX hY hnl hlm hm
    go_enter Try.func43, Try.ntmps43
    go_wp2
    go_loopw [15] (fun k wr => ∃ i : Nat, i ≤ n ∧ k = .int .i64 i ∧ Hid (Below w.heap.size w wr ∧ ∀ j, j < i → ∀ x y, l[j]? = some x → m[j]? = some y → f x y = true)) (fun v _ => (n - intOf v).toNat)
    case atStart => exact ⟨0, by omega, rfl, Below.refl _ _, fun j h => by omega⟩
    case round =>
      obtain ⟨i, hi, rfl, HB⟩ := hrel
      by_cases hin : i < n
      · as_aux_lemma =>
          have i1 : (i : Int) < n := by omega
          obtain ⟨-, b1, o1, x, cs1, rfl, hbX, hx, hq1, hc1, hr⟩ := HL.out.1.at hin
          obtain ⟨-, b2, o2, y, cs2, rfl, hbY, hy, hq2, hc2, hr2⟩ := HL.out.2.1.at hin
          have r1 := range_keep hr HB.out.1 (by have := HL.out.2.2.2.1; omega : b1 < w.heap.size)
          have r2 := range_keep hr2 HB.out.1 (by have := HL.out.2.2.2.2; omega : b2 < w.heap.size)
          have HQ : Hid (∀ w', Below w.heap.size w w' → Calls Try.prog 44 #[.agg cs1.toArray, .agg cs2.toArray] w' fun e w'' => e = .returned (.bool (f x y)) ∧ Below w'.heap.size w' w'') := fun w' hb => HC.out w' hb x (List.mem_of_getElem? hx) y (List.mem_of_getElem? hy) cs1 cs2 hq1 hq2 hc1 hc2
          clear hq1 hq2
          have HX : Hid (l[i]? = some x ∧ m[i]? = some y) := ⟨hx, hy⟩
          have hS : (fun w' : World => w'.rangeAt b1 (o1 + i * 8) cs1 ∧ w'.rangeAt b2 (o2 + i * 8) cs2) wr.drew := ⟨r1, r2⟩
          have HD : Hid (Below w.heap.size w wr.drew) := HB.out.1.drew
          clear hr hr2 hbX hbY hx hy
          go_upto_region 6 with fail
          clear r1 r2
          refine region_set (fun w' => w'.rangeAt b1 (o1 + i * 8) cs1 ∧ w'.rangeAt b2 (o2 + i * 8) cs2) 9 [0, 1, 2, 5, 6] (by kernel_rfl) ?_
          refine set_pure (i := 0) (v := .func (.func 44) #[] #[]) rfl (by kernel_rfl) (by kernel_rfl) (by kernel_rfl) (by kernel_rfl) (fun _ _ _ h => h) (Or.inl ⟨by rfl, fun ww hSw => by go_simp⟩) ?_
          simp only [Act.put, List.setIfInBounds_toArray, List.set_cons_zero, List.set_cons_succ, List.getElem_toArray, List.getElem_cons_succ, List.getElem_cons_zero]
          refine set_pure (i := 1) (v := .slice (some ⟨b1, o1, .none⟩) n c1) rfl (by kernel_rfl) (by kernel_rfl) (by kernel_rfl) (by kernel_rfl) (fun _ _ _ h => h) (Or.inl ⟨by rfl, fun ww hSw => by go_simp⟩) ?_
          simp only [Act.put, List.setIfInBounds_toArray, List.set_cons_zero, List.set_cons_succ, List.getElem_toArray, List.getElem_cons_succ, List.getElem_cons_zero]
          refine set_pure (i := 2) (v := .int .i64 i) rfl (by kernel_rfl) (by kernel_rfl) (by kernel_rfl) (by kernel_rfl) (fun _ _ _ h => h) (Or.inl ⟨by rfl, fun ww hSw => by go_simp⟩) ?_
          simp only [Act.put, List.setIfInBounds_toArray, List.set_cons_zero, List.set_cons_succ, List.getElem_toArray, List.getElem_cons_succ, List.getElem_cons_zero]
          refine set_pure (i := 5) (v := .slice (some ⟨b2, o2, .none⟩) n c2) rfl (by kernel_rfl) (by kernel_rfl) (by kernel_rfl) (by kernel_rfl) (fun _ _ _ h => h) (Or.inl ⟨by rfl, fun ww hSw => by go_simp⟩) ?_
          simp only [Act.put, List.setIfInBounds_toArray, List.set_cons_zero, List.set_cons_succ, List.getElem_toArray, List.getElem_cons_succ, List.getElem_cons_zero]
          refine set_pure (i := 6) (v := .int .i64 i) rfl (by kernel_rfl) (by kernel_rfl) (by kernel_rfl) (by kernel_rfl) (fun _ _ _ h => h) (Or.inl ⟨by rfl, fun ww hSw => by go_simp⟩) ?_
          simp only [Act.put, List.setIfInBounds_toArray, List.set_cons_zero, List.set_cons_succ, List.getElem_toArray, List.getElem_cons_succ, List.getElem_cons_zero]
          refine set_take (i := 3) (v := .pointer (some ⟨b1, o1 + i * 8, .none⟩)) rfl (by kernel_rfl) (by kernel_rfl) (by kernel_rfl) (by kernel_rfl) (fun _ _ _ h => h) (Or.inl ⟨by rfl, fun ww hSw => by obtain ⟨hs1, hs2⟩ := hSw; go_simp⟩) hS ?_
          simp only [Act.put, List.setIfInBounds_toArray, List.set_cons_zero, List.set_cons_succ, List.getElem_toArray, List.getElem_cons_succ, List.getElem_cons_zero]
          refine set_take (i := 4) (v := .agg (cs1).toArray) rfl (by kernel_rfl) (by kernel_rfl) (by kernel_rfl) (by kernel_rfl) (fun _ _ _ h => h) (yieldsIf_load_mid (by rfl) 66 (.tmp 21) rfl (b1) (o1 + i * 8) rfl (cs1) _ (fun ww hSw => hSw.1) Try.underlying66 rfl (by rw [hc1]; kernel_rfl)) hS ?_
          simp only [Act.put, List.setIfInBounds_toArray, List.set_cons_zero, List.set_cons_succ, List.getElem_toArray, List.getElem_cons_succ, List.getElem_cons_zero]
          refine set_take (i := 7) (v := .pointer (some ⟨b2, o2 + i * 8, .none⟩)) rfl (by kernel_rfl) (by kernel_rfl) (by kernel_rfl) (by kernel_rfl) (fun _ _ _ h => h) (Or.inl ⟨by rfl, fun ww hSw => by obtain ⟨hs1, hs2⟩ := hSw; go_simp⟩) hS ?_
          simp only [Act.put, List.setIfInBounds_toArray, List.set_cons_zero, List.set_cons_succ, List.getElem_toArray, List.getElem_cons_succ, List.getElem_cons_zero]
          refine set_take (i := 8) (v := .agg (cs2).toArray) rfl (by kernel_rfl) (by kernel_rfl) (by kernel_rfl) (by kernel_rfl) (fun _ _ _ h => h) (yieldsIf_load_mid (by rfl) 66 (.tmp 25) rfl (b2) (o2 + i * 8) rfl (cs2) _ (fun ww hSw => hSw.2) Try.underlying66 rfl (by rw [hc2]; kernel_rfl)) hS ?_
          simp only [Act.put, List.setIfInBounds_toArray, List.set_cons_zero, List.set_cons_succ, List.getElem_toArray, List.getElem_cons_succ, List.getElem_cons_zero]
          refine set_tail 2 9 _ _ _ _ (by kernel_rfl) (by decide) ?_
          simp only [List.toList_toArray, List.drop_succ_cons, List.drop_zero]
          clear hS
          generalize wr.drew = WD at *
          go_wp2_with fail
          go_at_call 44
          refine (HQ.out _ HD.out).mono ?_
          rintro e W7 ⟨rfl, hB7⟩
          have HE : Hid (Below w.heap.size w W7) := HD.out.trans (hB7.mono HD.out.size)
          clear hB7 HD
          cases hfb : f x y
          · go_wp2
            go_ret
            exact ⟨by rw [allB_false HX.out.1 HX.out.2 hfb]; rfl, HE.out⟩
          · have HF : Hid (f x y = true) := hfb
            clear hfb
            go_wp2
            refine ⟨⟨i + 1, by omega, by go_num, HE.out, fun j hj a b ha hb => ?_⟩, by simp [intOf]; omega⟩
            by_cases hji : j = i
            · subst hji
              rw [HX.out.1] at ha
              rw [HX.out.2] at hb
              cases ha
              cases hb
              exact HF.out
            · exact HB.out.2 j (by omega) a b ha hb
      · have hnn : i = n := by omega
        subst i
        have g0 : ¬ (n : Int) < n := by omega
        clear hi hin
        go_wp2
        go_ret
        exact ⟨by rw [allB_true HL.out.2.2.1.2 (fun i x y hx hy => HB.out.2 i (by have := (List.getElem?_eq_some_iff.1 hx).1; have := HL.out.2.2.1.1; omega) x y hx hy)]; rfl, HB.out.1⟩
  · rw [allB_len hlm]
    obtain ⟨n, hnl⟩ : ∃ n, n = l.length := ⟨_, rfl⟩
    obtain ⟨k, hkl⟩ : ∃ n, n = m.length := ⟨_, rfl⟩
    rw [← hnl, ← hkl]
    have hb : ((n : Int) != (k : Int)) = true := by
      have : ¬ n = k := by rw [hnl, hkl]; exact hlm
      simp only [bne_iff_ne, ne_eq]
      omega
    clear h1 h2 hX hY hnl hkl hlm hn hm
    go_enter Try.func43, Try.ntmps43
    go_wp2
    go_ret
    exact ⟨rfl, Below.refl _ _⟩
set_option maxRecDepth 100000 in
set_option maxHeartbeats 2000000 in
theorem same45_any {α : Type} {Q1 Q2 : α → List Value → Prop} {w : World} {X Y : Nat} {u v : Value} {l m : List α} (h1 : Sl w X 6 Q1 u l) (h2 : Sl w Y 6 Q2 v m) (hX : X ≤ w.heap.size) (hY : Y ≤ w.heap.size) (hn : l.length ≤ 10000000) (hm : m.length ≤ 10000000) (f : α → α → Bool)
    (hC : ∀ w', Below w.heap.size w w' → ∀ x ∈ l, ∀ y ∈ m, ∀ cs cs', Q1 x cs → Q2 y cs' → cs.length = 6 → cs'.length = 6 → Calls Try.prog 46 #[.agg cs.toArray, .agg cs'.toArray] w' fun e w'' => e = .returned (.bool (f x y)) ∧ Below w'.heap.size w' w'') :
    Calls Try.prog 45 #[u, v, .func (.func 46) #[] #[]] w fun e w' => e = .returned (.bool (allB f l m)) ∧ Below w.heap.size w w' := by
  obtain ⟨p1, c1, rfl⟩ := h1.form
  obtain ⟨p2, c2, rfl⟩ := h2.form
  have HC : Hid ( ∀ w', Below w.heap.size w w' → ∀ x ∈ l, ∀ y ∈ m, ∀ cs cs', Q1 x cs → Q2 y cs' → cs.length = 6 → cs'.length = 6 → Calls Try.prog 46 #[.agg cs.toArray, .agg cs'.toArray] w' fun e w'' => e = .returned (.bool (f x y)) ∧ Below w'.heap.size w' w'') := hC
  clear hC
  by_cases hlm : l.length = m.length
  · obtain ⟨n, hnl⟩ : ∃ n, n = l.length := ⟨_, rfl⟩
    rw [← hlm] at h2 ⊢
    rw [← hnl] at h1 h2 hn ⊢
    have HL : Hid (Sl w X 6 Q1 (.slice p1 n c1) l ∧ Sl w Y 6 Q2 (.slice p2 n c2) m ∧ (n = l.length ∧ l.length = m.length) ∧ X ≤ w.heap.size ∧ Y ≤ w.heap.size) := ⟨h1, h2, ⟨hnl, hlm⟩, hX, hY⟩
    clear h1 h2 hX hY hnl hlm hm
    go_enter Try.func45, Try.ntmps45
    go_wp2
    go_loopw [15] (fun k wr => ∃ i : Nat, i ≤ n ∧ k = .int .i64 i ∧ Hid (Below w.heap.size w wr ∧ ∀ j, j < i → ∀ x y, l[j]? = some x → m[j]? = some y → f x y = true)) (fun v _ => (n - intOf v).toNat)
    case atStart => exact ⟨0, by omega, rfl, Below.refl _ _, fun j h => by omega⟩
    case round =>
      obtain ⟨i, hi, rfl, HB⟩ := hrel
      by_cases hin : i < n
      · as_aux_lemma =>
          have i1 : (i : Int) < n := by omega
          obtain ⟨-, b1, o1, x, cs1, rfl, hbX, hx, hq1, hc1, hr⟩ := HL.out.1.at hin
          obtain ⟨-, b2, o2, y, cs2, rfl, hbY, hy, hq2, hc2, hr2⟩ := HL.out.2.1.at hin
          have r1 := range_keep hr HB.out.1 (by have := HL.out.2.2.2.1; omega : b1 < w.heap.size)
          have r2 := range_keep hr2 HB.out.1 (by have := HL.out.2.2.2.2; omega : b2 < w.heap.size)
          have HQ : Hid (∀ w', Below w.heap.size w w' → Calls Try.prog 46 #[.agg cs1.toArray, .agg cs2.toArray] w' fun e w'' => e = .returned (.bool (f x y)) ∧ Below w'.heap.size w' w'') := fun w' hb => HC.out w' hb x (List.mem_of_getElem? hx) y (List.mem_of_getElem? hy) cs1 cs2 hq1 hq2 hc1 hc2
          clear hq1 hq2
          have HX : Hid (l[i]? = some x ∧ m[i]? = some y) := ⟨hx, hy⟩
          have hS : (fun w' : World => w'.rangeAt b1 (o1 + i * 6) cs1 ∧ w'.rangeAt b2 (o2 + i * 6) cs2) wr.drew := ⟨r1, r2⟩
          have HD : Hid (Below w.heap.size w wr.drew) := HB.out.1.drew
          clear hr hr2 hbX hbY hx hy
          go_upto_region 6 with fail
          clear r1 r2
          refine region_set (fun w' => w'.rangeAt b1 (o1 + i * 6) cs1 ∧ w'.rangeAt b2 (o2 + i * 6) cs2) 9 [0, 1, 2, 5, 6] (by kernel_rfl) ?_
          refine set_pure (i := 0) (v := .func (.func 46) #[] #[]) rfl (by kernel_rfl) (by kernel_rfl) (by kernel_rfl) (by kernel_rfl) (fun _ _ _ h => h) (Or.inl ⟨by rfl, fun ww hSw => by go_simp⟩) ?_
          simp only [Act.put, List.setIfInBounds_toArray, List.set_cons_zero, List.set_cons_succ, List.getElem_toArray, List.getElem_cons_succ, List.getElem_cons_zero]
          refine set_pure (i := 1) (v := .slice (some ⟨b1, o1, .none⟩) n c1) rfl (by kernel_rfl) (by kernel_rfl) (by kernel_rfl) (by kernel_rfl) (fun _ _ _ h => h) (Or.inl ⟨by rfl, fun ww hSw => by go_simp⟩) ?_
          simp only [Act.put, List.setIfInBounds_toArray, List.set_cons_zero, List.set_cons_succ, List.getElem_toArray, List.getElem_cons_succ, List.getElem_cons_zero]
          refine set_pure (i := 2) (v := .int .i64 i) rfl (by kernel_rfl) (by kernel_rfl) (by kernel_rfl) (by kernel_rfl) (fun _ _ _ h => h) (Or.inl ⟨by rfl, fun ww hSw => by go_simp⟩) ?_
          simp only [Act.put, List.setIfInBounds_toArray, List.set_cons_zero, List.set_cons_succ, List.getElem_toArray, List.getElem_cons_succ, List.getElem_cons_zero]
          refine set_pure (i := 5) (v := .slice (some ⟨b2, o2, .none⟩) n c2) rfl (by kernel_rfl) (by kernel_rfl) (by kernel_rfl) (by kernel_rfl) (fun _ _ _ h => h) (Or.inl ⟨by rfl, fun ww hSw => by go_simp⟩) ?_
          simp only [Act.put, List.setIfInBounds_toArray, List.set_cons_zero, List.set_cons_succ, List.getElem_toArray, List.getElem_cons_succ, List.getElem_cons_zero]
          refine set_pure (i := 6) (v := .int .i64 i) rfl (by kernel_rfl) (by kernel_rfl) (by kernel_rfl) (by kernel_rfl) (fun _ _ _ h => h) (Or.inl ⟨by rfl, fun ww hSw => by go_simp⟩) ?_
          simp only [Act.put, List.setIfInBounds_toArray, List.set_cons_zero, List.set_cons_succ, List.getElem_toArray, List.getElem_cons_succ, List.getElem_cons_zero]
          refine set_take (i := 3) (v := .pointer (some ⟨b1, o1 + i * 6, .none⟩)) rfl (by kernel_rfl) (by kernel_rfl) (by kernel_rfl) (by kernel_rfl) (fun _ _ _ h => h) (Or.inl ⟨by rfl, fun ww hSw => by obtain ⟨hs1, hs2⟩ := hSw; go_simp⟩) hS ?_
          simp only [Act.put, List.setIfInBounds_toArray, List.set_cons_zero, List.set_cons_succ, List.getElem_toArray, List.getElem_cons_succ, List.getElem_cons_zero]
          refine set_take (i := 4) (v := .agg (cs1).toArray) rfl (by kernel_rfl) (by kernel_rfl) (by kernel_rfl) (by kernel_rfl) (fun _ _ _ h => h) (yieldsIf_load_mid (by rfl) 98 (.tmp 21) rfl (b1) (o1 + i * 6) rfl (cs1) _ (fun ww hSw => hSw.1) Try.underlying98 rfl (by rw [hc1]; kernel_rfl)) hS ?_
          simp only [Act.put, List.setIfInBounds_toArray, List.set_cons_zero, List.set_cons_succ, List.getElem_toArray, List.getElem_cons_succ, List.getElem_cons_zero]
          refine set_take (i := 7) (v := .pointer (some ⟨b2, o2 + i * 6, .none⟩)) rfl (by kernel_rfl) (by kernel_rfl) (by kernel_rfl) (by kernel_rfl) (fun _ _ _ h => h) (Or.inl ⟨by rfl, fun ww hSw => by obtain ⟨hs1, hs2⟩ := hSw; go_simp⟩) hS ?_
          simp only [Act.put, List.setIfInBounds_toArray, List.set_cons_zero, List.set_cons_succ, List.getElem_toArray, List.getElem_cons_succ, List.getElem_cons_zero]
          refine set_take (i := 8) (v := .agg (cs2).toArray) rfl (by kernel_rfl) (by kernel_rfl) (by kernel_rfl) (by kernel_rfl) (fun _ _ _ h => h) (yieldsIf_load_mid (by rfl) 98 (.tmp 25) rfl (b2) (o2 + i * 6) rfl (cs2) _ (fun ww hSw => hSw.2) Try.underlying98 rfl (by rw [hc2]; kernel_rfl)) hS ?_
          simp only [Act.put, List.setIfInBounds_toArray, List.set_cons_zero, List.set_cons_succ, List.getElem_toArray, List.getElem_cons_succ, List.getElem_cons_zero]
          refine set_tail 2 9 _ _ _ _ (by kernel_rfl) (by decide) ?_
          simp only [List.toList_toArray, List.drop_succ_cons, List.drop_zero]
          clear hS
          generalize wr.drew = WD at *
          go_wp2_with fail
          go_at_call 46
          refine (HQ.out _ HD.out).mono ?_
          rintro e W7 ⟨rfl, hB7⟩
          have HE : Hid (Below w.heap.size w W7) := HD.out.trans (hB7.mono HD.out.size)
          clear hB7 HD
          cases hfb : f x y
          · go_wp2
            go_ret
            exact ⟨by rw [allB_false HX.out.1 HX.out.2 hfb]; rfl, HE.out⟩
          · have HF : Hid (f x y = true) := hfb
            clear hfb
            go_wp2
            refine ⟨⟨i + 1, by omega, by go_num, HE.out, fun j hj a b ha hb => ?_⟩, by simp [intOf]; omega⟩
            by_cases hji : j = i
            · subst hji
              rw [HX.out.1] at ha
              rw [HX.out.2] at hb
              cases ha
              cases hb
              exact HF.out
            · exact HB.out.2 j (by omega) a b ha hb
      · have hnn : i = n := by omega
        subst i
        have g0 : ¬ (n : Int) < n := by omega
        clear hi hin
        go_wp2
        go_ret
        exact ⟨by rw [allB_true HL.out.2.2.1.2 (fun i x y hx hy => HB.out.2 i (by have := (List.getElem?_eq_some_iff.1 hx).1; have := HL.out.2.2.1.1; omega) x y hx hy)]; rfl, HB.out.1⟩
  · rw [allB_len hlm]
    obtain ⟨n, hnl⟩ : ∃ n, n = l.length := ⟨_, rfl⟩
    obtain ⟨k, hkl⟩ : ∃ n, n = m.length := ⟨_, rfl⟩
    rw [← hnl, ← hkl]
    have hb : ((n : Int) != (k : Int)) = true := by
      have : ¬ n = k := by rw [hnl, hkl]; exact hlm
      simp only [bne_iff_ne, ne_eq]
      omega
    clear h1 h2 hX hY hnl hkl hlm hn hm
    go_enter Try.func45, Try.ntmps45
    go_wp2
    go_ret
    exact ⟨rfl, Below.refl _ _⟩
set_option maxRecDepth 100000 in
set_option maxHeartbeats 2000000 in
theorem same47_any {w : World} {X Y : Nat} {u v : Value} {l m : List Int} (h1 : Sl w X 1 (qI .u8) u l) (h2 : Sl w Y 1 (qI .u8) v m) (hX : X ≤ w.heap.size) (hY : Y ≤ w.heap.size) (hn : l.length ≤ 10000000) (hm : m.length ≤ 10000000) (f : Int → Int → Bool)
    (hC : ∀ w', Below w.heap.size w w' → ∀ (x y : Int), Calls Try.prog 48 #[.int .u8 x, .int .u8 y] w' fun e w'' => e = .returned (.bool (f x y)) ∧ Below w'.heap.size w' w'') :
    Calls Try.prog 47 #[u, v, .func (.func 48) #[] #[]] w fun e w' => e = .returned (.bool (allB f l m)) ∧ Below w.heap.size w w' := by
  obtain ⟨p1, c1, rfl⟩ := h1.form
  obtain ⟨p2, c2, rfl⟩ := h2.form
  have HC : Hid ( ∀ w', Below w.heap.size w w' → ∀ (x y : Int), Calls Try.prog 48 #[.int .u8 x, .int .u8 y] w' fun e w'' => e = .returned (.bool (f x y)) ∧ Below w'.heap.size w' w'') := hC
  clear hC
  by_cases hlm : l.length = m.length
  · obtain ⟨n, hnl⟩ : ∃ n, n = l.length := ⟨_, rfl⟩
    rw [← hlm] at h2 ⊢
    rw [← hnl] at h1 h2 hn ⊢
    have HL : Hid (Sl w X 1 (qI .u8) (.slice p1 n c1) l ∧ Sl w Y 1 (qI .u8) (.slice p2 n c2) m ∧ (n = l.length ∧ l.length = m.length) ∧ X ≤ w.heap.size ∧ Y ≤ w.heap.size) := ⟨h1, h2, ⟨hnl, hlm⟩, hX, hY⟩
    clear h1 h2 hX hY hnl hlm hm
    go_enter Try.func47, Try.ntmps47
    go_wp2
    go_loopw [15] (fun k wr => ∃ i : Nat, i ≤ n ∧ k = .int .i64 i ∧ Hid (Below w.heap.size w wr ∧ ∀ j, j < i → ∀ x y, l[j]? = some x → m[j]? = some y → f x y = true)) (fun v _ => (n - intOf v).toNat)
    case atStart => exact ⟨0, by omega, rfl, Below.refl _ _, fun j h => by omega⟩
    case round =>
      obtain ⟨i, hi, rfl, HB⟩ := hrel
      by_cases hin : i < n
      · as_aux_lemma =>
          have i1 : (i : Int) < n := by omega
          obtain ⟨-, b1, o1, x, cs1, rfl, hbX, hx, hq1, hc1, hr⟩ := HL.out.1.at hin
          obtain ⟨-, b2, o2, y, cs2, rfl, hbY, hy, hq2, hc2, hr2⟩ := HL.out.2.1.at hin
          obtain rfl := hq1
          obtain rfl := hq2
          have r1 := (HB.out.1.cell (p := ⟨b1, o1 + i, .none⟩) (by have := HL.out.2.2.2.1; show b1 < _; omega)).trans (by simpa using hr 0 _ rfl)
          have r2 := (HB.out.1.cell (p := ⟨b2, o2 + i, .none⟩) (by have := HL.out.2.2.2.2; show b2 < _; omega)).trans (by simpa using hr2 0 _ rfl)
          have HQ : Hid (∀ w', Below w.heap.size w w' → Calls Try.prog 48 #[.int .u8 x, .int .u8 y] w' fun e w'' => e = .returned (.bool (f x y)) ∧ Below w'.heap.size w' w'') := fun w' hb => HC.out w' hb x y
          clear hc1 hc2
          have HX : Hid (l[i]? = some x ∧ m[i]? = some y) := ⟨hx, hy⟩
          have hS : (fun w' : World => w'.cell? ⟨b1, o1 + i, .none⟩ = some (.int .u8 x) ∧ w'.cell? ⟨b2, o2 + i, .none⟩ = some (.int .u8 y)) wr.drew := ⟨r1, r2⟩
          have HD : Hid (Below w.heap.size w wr.drew) := HB.out.1.drew
          clear hr hr2 hbX hbY hx hy
          go_upto_region 6 with fail
          clear r1 r2
          refine region_set (fun w' => w'.cell? ⟨b1, o1 + i, .none⟩ = some (.int .u8 x) ∧ w'.cell? ⟨b2, o2 + i, .none⟩ = some (.int .u8 y)) 9 [0, 1, 2, 5, 6] (by kernel_rfl) ?_
          refine set_pure (i := 0) (v := .func (.func 48) #[] #[]) rfl (by kernel_rfl) (by kernel_rfl) (by kernel_rfl) (by kernel_rfl) (fun _ _ _ h => h) (Or.inl ⟨by rfl, fun ww hSw => by go_simp⟩) ?_
          simp only [Act.put, List.setIfInBounds_toArray, List.set_cons_zero, List.set_cons_succ, List.getElem_toArray, List.getElem_cons_succ, List.getElem_cons_zero]
          refine set_pure (i := 1) (v := .slice (some ⟨b1, o1, .none⟩) n c1) rfl (by kernel_rfl) (by kernel_rfl) (by kernel_rfl) (by kernel_rfl) (fun _ _ _ h => h) (Or.inl ⟨by rfl, fun ww hSw => by go_simp⟩) ?_
          simp only [Act.put, List.setIfInBounds_toArray, List.set_cons_zero, List.set_cons_succ, List.getElem_toArray, List.getElem_cons_succ, List.getElem_cons_zero]
          refine set_pure (i := 2) (v := .int .i64 i) rfl (by kernel_rfl) (by kernel_rfl) (by kernel_rfl) (by kernel_rfl) (fun _ _ _ h => h) (Or.inl ⟨by rfl, fun ww hSw => by go_simp⟩) ?_
          simp only [Act.put, List.setIfInBounds_toArray, List.set_cons_zero, List.set_cons_succ, List.getElem_toArray, List.getElem_cons_succ, List.getElem_cons_zero]
          refine set_pure (i := 5) (v := .slice (some ⟨b2, o2, .none⟩) n c2) rfl (by kernel_rfl) (by kernel_rfl) (by kernel_rfl) (by kernel_rfl) (fun _ _ _ h => h) (Or.inl ⟨by rfl, fun ww hSw => by go_simp⟩) ?_
          simp only [Act.put, List.setIfInBounds_toArray, List.set_cons_zero, List.set_cons_succ, List.getElem_toArray, List.getElem_cons_succ, List.getElem_cons_zero]
          refine set_pure (i := 6) (v := .int .i64 i) rfl (by kernel_rfl) (by kernel_rfl) (by kernel_rfl) (by kernel_rfl) (fun _ _ _ h => h) (Or.inl ⟨by rfl, fun ww hSw => by go_simp⟩) ?_
          simp only [Act.put, List.setIfInBounds_toArray, List.set_cons_zero, List.set_cons_succ, List.getElem_toArray, List.getElem_cons_succ, List.getElem_cons_zero]
          refine set_take (i := 3) (v := .pointer (some ⟨b1, o1 + i, .none⟩)) rfl (by kernel_rfl) (by kernel_rfl) (by kernel_rfl) (by kernel_rfl) (fun _ _ _ h => h) (Or.inl ⟨by rfl, fun ww hSw => by obtain ⟨hs1, hs2⟩ := hSw; go_simp⟩) hS ?_
          simp only [Act.put, List.setIfInBounds_toArray, List.set_cons_zero, List.set_cons_succ, List.getElem_toArray, List.getElem_cons_succ, List.getElem_cons_zero]
          refine set_take (i := 4) (v := .int .u8 x) rfl (by kernel_rfl) (by kernel_rfl) (by kernel_rfl) (by kernel_rfl) (fun _ _ _ h => h) (Or.inl ⟨by rfl, fun ww hSw => by obtain ⟨hs1, hs2⟩ := hSw; go_simp⟩) hS ?_
          simp only [Act.put, List.setIfInBounds_toArray, List.set_cons_zero, List.set_cons_succ, List.getElem_toArray, List.getElem_cons_succ, List.getElem_cons_zero]
          refine set_take (i := 7) (v := .pointer (some ⟨b2, o2 + i, .none⟩)) rfl (by kernel_rfl) (by kernel_rfl) (by kernel_rfl) (by kernel_rfl) (fun _ _ _ h => h) (Or.inl ⟨by rfl, fun ww hSw => by obtain ⟨hs1, hs2⟩ := hSw; go_simp⟩) hS ?_
          simp only [Act.put, List.setIfInBounds_toArray, List.set_cons_zero, List.set_cons_succ, List.getElem_toArray, List.getElem_cons_succ, List.getElem_cons_zero]
          refine set_take (i := 8) (v := .int .u8 y) rfl (by kernel_rfl) (by kernel_rfl) (by kernel_rfl) (by kernel_rfl) (fun _ _ _ h => h) (Or.inl ⟨by rfl, fun ww hSw => by obtain ⟨hs1, hs2⟩ := hSw; go_simp⟩) hS ?_
          simp only [Act.put, List.setIfInBounds_toArray, List.set_cons_zero, List.set_cons_succ, List.getElem_toArray, List.getElem_cons_succ, List.getElem_cons_zero]
          refine set_tail 2 9 _ _ _ _ (by kernel_rfl) (by decide) ?_
          simp only [List.toList_toArray, List.drop_succ_cons, List.drop_zero]
          clear hS
          generalize wr.drew = WD at *
          go_wp2_with fail
          go_at_call 48
          refine (HQ.out _ HD.out).mono ?_
          rintro e W7 ⟨rfl, hB7⟩
          have HE : Hid (Below w.heap.size w W7) := HD.out.trans (hB7.mono HD.out.size)
          clear hB7 HD
          cases hfb : f x y
          · go_wp2
            go_ret
            exact ⟨by rw [allB_false HX.out.1 HX.out.2 hfb]; rfl, HE.out⟩
          · have HF : Hid (f x y = true) := hfb
            clear hfb
            go_wp2
            refine ⟨⟨i + 1, by omega, by go_num, HE.out, fun j hj a b ha hb => ?_⟩, by simp [intOf]; omega⟩
            by_cases hji : j = i
            · subst hji
              rw [HX.out.1] at ha
              rw [HX.out.2] at hb
              cases ha
              cases hb
              exact HF.out
            · exact HB.out.2 j (by omega) a b ha hb
      · have hnn : i = n := by omega
        subst i
        have g0 : ¬ (n : Int) < n := by omega
        clear hi hin
        go_wp2
        go_ret
        exact ⟨by rw [allB_true HL.out.2.2.1.2 (fun i x y hx hy => HB.out.2 i (by have := (List.getElem?_eq_some_iff.1 hx).1; have := HL.out.2.2.1.1; omega) x y hx hy)]; rfl, HB.out.1⟩
  · rw [allB_len hlm]
    obtain ⟨n, hnl⟩ : ∃ n, n = l.length := ⟨_, rfl⟩
    obtain ⟨k, hkl⟩ : ∃ n, n = m.length := ⟨_, rfl⟩
    rw [← hnl, ← hkl]
    have hb : ((n : Int) != (k : Int)) = true := by
      have : ¬ n = k := by rw [hnl, hkl]; exact hlm
      simp only [bne_iff_ne, ne_eq]
      omega
    clear h1 h2 hX hY hnl hkl hlm hn hm
    go_enter Try.func47, Try.ntmps47
    go_wp2
    go_ret
    exact ⟨rfl, Below.refl _ _⟩
set_option maxRecDepth 100000 in
set_option maxHeartbeats 2000000 in
theorem same61_any {α : Type} {Q1 Q2 : α → List Value → Prop} {w : World} {X Y : Nat} {u v : Value} {l m : List α} (h1 : Sl w X 3 Q1 u l) (h2 : Sl w Y 3 Q2 v m) (hX : X ≤ w.heap.size) (hY : Y ≤ w.heap.size) (hn : l.length ≤ 10000000) (hm : m.length ≤ 10000000) (f : α → α → Bool)
    (hC : ∀ w', Below w.heap.size w w' → ∀ x ∈ l, ∀ y ∈ m, ∀ cs cs', Q1 x cs → Q2 y cs' → cs.length = 3 → cs'.length = 3 → Calls Try.prog 62 #[.agg cs.toArray, .agg cs'.toArray] w' fun e w'' => e = .returned (.bool (f x y)) ∧ Below w'.heap.size w' w'') :
    Calls Try.prog 61 #[u, v, .func (.func 62) #[] #[]] w fun e w' => e = .returned (.bool (allB f l m)) ∧ Below w.heap.size w w' := by
  obtain ⟨p1, c1, rfl⟩ := h1.form
  obtain ⟨p2, c2, rfl⟩ := h2.form
  have HC : Hid ( ∀ w', Below w.heap.size w w' → ∀ x ∈ l, ∀ y ∈ m, ∀ cs cs', Q1 x cs → Q2 y cs' → cs.length = 3 → cs'.length = 3 → Calls Try.prog 62 #[.agg cs.toArray, .agg cs'.toArray] w' fun e w'' => e = .returned (.bool (f x y)) ∧ Below w'.heap.size w' w'') := hC
  clear hC
  by_cases hlm : l.length = m.length
  · obtain ⟨n, hnl⟩ : ∃ n, n = l.length := ⟨_, rfl⟩
    rw [← hlm] at h2 ⊢
    rw [← hnl] at h1 h2 hn ⊢
    have HL : Hid (Sl w X 3 Q1 (.slice p1 n c1) l ∧ Sl w Y 3 Q2 (.slice p2 n c2) m ∧ (n = l.length ∧ l.length = m.length) ∧ X ≤ w.heap.size ∧ Y ≤ w.heap.size) := ⟨h1, h2, ⟨hnl, hlm⟩, hX, hY⟩
    clear h1 h2 hX hY hnl hlm hm
    go_enter Try.func61, Try.ntmps61
    go_wp2
    go_loopw [15] (fun k wr => ∃ i : Nat, i ≤ n ∧ k = .int .i64 i ∧ Hid (Below w.heap.size w wr ∧ ∀ j, j < i → ∀ x y, l[j]? = some x → m[j]? = some y → f x y = true)) (fun v _ => (n - intOf v).toNat)
    case atStart => exact ⟨0, by omega, rfl, Below.refl _ _, fun j h => by omega⟩
    case round =>
      obtain ⟨i, hi, rfl, HB⟩ := hrel
      by_cases hin : i < n
      · as_aux_lemma =>
          have i1 : (i : Int) < n := by omega
          obtain ⟨-, b1, o1, x, cs1, rfl, hbX, hx, hq1, hc1, hr⟩ := HL.out.1.at hin
          obtain ⟨-, b2, o2, y, cs2, rfl, hbY, hy, hq2, hc2, hr2⟩ := HL.out.2.1.at hin
          have r1 := range_keep hr HB.out.1 (by have := HL.out.2.2.2.1; omega : b1 < w.heap.size)
          have r2 := range_keep hr2 HB.out.1 (by have := HL.out.2.2.2.2; omega : b2 < w.heap.size)
          have HQ : Hid (∀ w', Below w.heap.size w w' → Calls Try.prog 62 #[.agg cs1.toArray, .agg cs2.toArray] w' fun e w'' => e = .returned (.bool (f x y)) ∧ Below w'.heap.size w' w'') := fun w' hb => HC.out w' hb x (List.mem_of_getElem? hx) y (List.mem_of_getElem? hy) cs1 cs2 hq1 hq2 hc1 hc2
          clear hq1 hq2
          have HX : Hid (l[i]? = some x ∧ m[i]? = some y) := ⟨hx, hy⟩
          have hS : (fun w' : World => w'.rangeAt b1 (o1 + i * 3) cs1 ∧ w'.rangeAt b2 (o2 + i * 3) cs2) wr.drew := ⟨r1, r2⟩
          have HD : Hid (Below w.heap.size w wr.drew) := HB.out.1.drew
          clear hr hr2 hbX hbY hx hy
          go_upto_region 6 with fail
          clear r1 r2
          refine region_set (fun w' => w'.rangeAt b1 (o1 + i * 3) cs1 ∧ w'.rangeAt b2 (o2 + i * 3) cs2) 9 [0, 1, 2, 5, 6] (by kernel_rfl) ?_
          refine set_pure (i := 0) (v := .func (.func 62) #[] #[]) rfl (by kernel_rfl) (by kernel_rfl) (by kernel_rfl) (by kernel_rfl) (fun _ _ _ h => h) (Or.inl ⟨by rfl, fun ww hSw => by go_simp⟩) ?_
          simp only [Act.put, List.setIfInBounds_toArray, List.set_cons_zero, List.set_cons_succ, List.getElem_toArray, List.getElem_cons_succ, List.getElem_cons_zero]
          refine set_pure (i := 1) (v := .slice (some ⟨b1, o1, .none⟩) n c1) rfl (by kernel_rfl) (by kernel_rfl) (by kernel_rfl) (by kernel_rfl) (fun _ _ _ h => h) (Or.inl ⟨by rfl, fun ww hSw => by go_simp⟩) ?_
          simp only [Act.put, List.setIfInBounds_toArray, List.set_cons_zero, List.set_cons_succ, List.getElem_toArray, List.getElem_cons_succ, List.getElem_cons_zero]
          refine set_pure (i := 2) (v := .int .i64 i) rfl (by kernel_rfl) (by kernel_rfl) (by kernel_rfl) (by kernel_rfl) (fun _ _ _ h => h) (Or.inl ⟨by rfl, fun ww hSw => by go_simp⟩) ?_
          simp only [Act.put, List.setIfInBounds_toArray, List.set_cons_zero, List.set_cons_succ, List.getElem_toArray, List.getElem_cons_succ, List.getElem_cons_zero]
          refine set_pure (i := 5) (v := .slice (some ⟨b2, o2, .none⟩) n c2) rfl (by kernel_rfl) (by kernel_rfl) (by kernel_rfl) (by kernel_rfl) (fun _ _ _ h => h) (Or.inl ⟨by rfl, fun ww hSw => by go_simp⟩) ?_
          simp only [Act.put, List.setIfInBounds_toArray, List.set_cons_zero, List.set_cons_succ, List.getElem_toArray, List.getElem_cons_succ, List.getElem_cons_zero]
          refine set_pure (i := 6) (v := .int .i64 i) rfl (by kernel_rfl) (by kernel_rfl) (by kernel_rfl) (by kernel_rfl) (fun _ _ _ h => h) (Or.inl ⟨by rfl, fun ww hSw => by go_simp⟩) ?_
          simp only [Act.put, List.setIfInBounds_toArray, List.set_cons_zero, List.set_cons_succ, List.getElem_toArray, List.getElem_cons_succ, List.getElem_cons_zero]
          refine set_take (i := 3) (v := .pointer (some ⟨b1, o1 + i * 3, .none⟩)) rfl (by kernel_rfl) (by kernel_rfl) (by kernel_rfl) (by kernel_rfl) (fun _ _ _ h => h) (Or.inl ⟨by rfl, fun ww hSw => by obtain ⟨hs1, hs2⟩ := hSw; go_simp⟩) hS ?_
          simp only [Act.put, List.setIfInBounds_toArray, List.set_cons_zero, List.set_cons_succ, List.getElem_toArray, List.getElem_cons_succ, List.getElem_cons_zero]
          refine set_take (i := 4) (v := .agg (cs1).toArray) rfl (by kernel_rfl) (by kernel_rfl) (by kernel_rfl) (by kernel_rfl) (fun _ _ _ h => h) (yieldsIf_load_mid (by rfl) 81 (.tmp 21) rfl (b1) (o1 + i * 3) rfl (cs1) _ (fun ww hSw => hSw.1) Try.underlying81 rfl (by rw [hc1]; kernel_rfl)) hS ?_
          simp only [Act.put, List.setIfInBounds_toArray, List.set_cons_zero, List.set_cons_succ, List.getElem_toArray, List.getElem_cons_succ, List.getElem_cons_zero]
          refine set_take (i := 7) (v := .pointer (some ⟨b2, o2 + i * 3, .none⟩)) rfl (by kernel_rfl) (by kernel_rfl) (by kernel_rfl) (by kernel_rfl) (fun _ _ _ h => h) (Or.inl ⟨by rfl, fun ww hSw => by obtain ⟨hs1, hs2⟩ := hSw; go_simp⟩) hS ?_
          simp only [Act.put, List.setIfInBounds_toArray, List.set_cons_zero, List.set_cons_succ, List.getElem_toArray, List.getElem_cons_succ, List.getElem_cons_zero]
          refine set_take (i := 8) (v := .agg (cs2).toArray) rfl (by kernel_rfl) (by kernel_rfl) (by kernel_rfl) (by kernel_rfl) (fun _ _ _ h => h) (yieldsIf_load_mid (by rfl) 81 (.tmp 25) rfl (b2) (o2 + i * 3) rfl (cs2) _ (fun ww hSw => hSw.2) Try.underlying81 rfl (by rw [hc2]; kernel_rfl)) hS ?_
          simp only [Act.put, List.setIfInBounds_toArray, List.set_cons_zero, List.set_cons_succ, List.getElem_toArray, List.getElem_cons_succ, List.getElem_cons_zero]
          refine set_tail 2 9 _ _ _ _ (by kernel_rfl) (by decide) ?_
          simp only [List.toList_toArray, List.drop_succ_cons, List.drop_zero]
          clear hS
          generalize wr.drew = WD at *
          go_wp2_with fail
          go_at_call 62
          refine (HQ.out _ HD.out).mono ?_
          rintro e W7 ⟨rfl, hB7⟩
          have HE : Hid (Below w.heap.size w W7) := HD.out.trans (hB7.mono HD.out.size)
          clear hB7 HD
          cases hfb : f x y
          · go_wp2
            go_ret
            exact ⟨by rw [allB_false HX.out.1 HX.out.2 hfb]; rfl, HE.out⟩
          · have HF : Hid (f x y = true) := hfb
            clear hfb
            go_wp2
            refine ⟨⟨i + 1, by omega, by go_num, HE.out, fun j hj a b ha hb => ?_⟩, by simp [intOf]; omega⟩
            by_cases hji : j = i
            · subst hji
              rw [HX.out.1] at ha
              rw [HX.out.2] at hb
              cases ha
              cases hb
              exact HF.out
            · exact HB.out.2 j (by omega) a b ha hb
      · have hnn : i = n := by omega
        subst i
        have g0 : ¬ (n : Int) < n := by omega
        clear hi hin
        go_wp2
        go_ret
        exact ⟨by rw [allB_true HL.out.2.2.1.2 (fun i x y hx hy => HB.out.2 i (by have := (List.getElem?_eq_some_iff.1 hx).1; have := HL.out.2.2.1.1; omega) x y hx hy)]; rfl, HB.out.1⟩
  · rw [allB_len hlm]
    obtain ⟨n, hnl⟩ : ∃ n, n = l.length := ⟨_, rfl⟩
    obtain ⟨k, hkl⟩ : ∃ n, n = m.length := ⟨_, rfl⟩
    rw [← hnl, ← hkl]
    have hb : ((n : Int) != (k : Int)) = true := by
      have : ¬ n = k := by rw [hnl, hkl]; exact hlm
      simp only [bne_iff_ne, ne_eq]
      omega
    clear h1 h2 hX hY hnl hkl hlm hn hm
    go_enter Try.func61, Try.ntmps61
    go_wp2
    go_ret
    exact ⟨rfl, Below.refl _ _⟩
/-! The program's own comparisons. -/
def ppL (p : Pc) (n : Nat) : List Value := [.int .i64 (p.c 0), .int .i64 (p.c 1), .int .i64 (p.c 2), .int .i64 (p.c 3), .int .i64 (p.c 4), .int .i64 (p.c 5), .bool p.kil, .int .i32 (p.c 7), .int .u64 (p.c 8), .int .u64 (p.c 9), .int .u64 (p.c 10), .int .u64 (p.c 11), .int .u64 (p.c 12), .int .u64 (p.c 13), .int .u64 (p.c 14), .int .u64 (p.c 15), .int .u64 (p.c 16), .int .u64 (p.c 17), .int .u64 (p.c 18), .int .u64 (p.c 19), .int .u64 (p.c 20), .int .u64 (p.c 21), .int .u64 (p.c 22), .int .u64 (p.c 23), .int .u64 (p.c 24), .int .u64 (p.c 25), .int .u64 (p.c 26), .int .u64 (p.c 27), .int .u64 (p.c 28), .int .u64 (p.c 29), .int .u64 (p.c 30), .int .u64 (p.c 31), .int .u64 (p.c 32), .int .u64 (p.c 33), .int .u64 (p.c 34), .int .u64 (p.c 35), .int .u64 (p.c 36), .int .u64 (p.c 37), .int .u64 (p.c 38), .int .u64 (p.c 39), .int .u64 (p.c 40), .int .u64 (p.c 41), .int .i64 n, .int .i64 (p.c 46), .int .i64 (p.c 47), .int .i64 (p.c 48), .int .i64 (p.c 49), .int .i64 (p.c 50), .int .i64 (p.c 51), .int .i64 (p.c 52), .int .i64 (p.c 53), .int .i64 (p.c 54), .int .i64 (p.c 55), .int .i64 (p.c 56), .int .i64 (p.c 57), .int .i64 (p.c 58), .int .i64 (p.c 59), .int .i64 (p.c 60), .int .i64 (p.c 61), .int .i64 (p.c 62), .bool p.inC, .int .i64 (p.c 64), .int .u64 (p.c 65), .int .u64 (p.c 66), .int .u64 (p.c 67), .int .i64 (p.c 68), .int .u64 (p.c 69)]
def piL (x : In) (n : Nat) : List Value := [.int .i64 x.ino, .int .i64 x.ty, .int .i16 x.ma, .int .i16 x.mi, .int .i64 x.links, .int .i64 x.refs, .int .i64 x.size, .int .i64 n]
def pqL (x : Pp) : List Value := [.int .i64 x.num, .int .u32 x.rs, .int .u32 x.ws, .bool x.rd, .bool x.wr]
theorem eq_132 (d : Nat) (p q : Pc) (n m : Nat) : EqV (d + 4) 132 (.agg (ppL p n).toArray) (.agg (ppL q m).toArray) ((p.c 0 == q.c 0) && ((p.c 1 == q.c 1) && ((p.c 2 == q.c 2) && ((p.c 3 == q.c 3) && ((chB p.c q.c) && ((p.kil == q.kil) && ((p.c 7 == q.c 7) && ((rgB p.c q.c) && ((p.c 41 == q.c 41) && (((n : Int) == (m : Int)) && ((fdB p.c q.c) && ((p.c 62 == q.c 62) && ((p.inC == q.inC) && ((peB p.c q.c) && true)))))))))))))) :=
  eqv_struct (by kernel_rfl) (by kernel_rfl) (F := [("slot", 3, 0), ("pid", 3, 1), ("state", 3, 2), ("parent", 3, 3), ("channel", 45, 4), ("killed", 4, 6), ("status", 21, 7), ("regs", 48, 8), ("size", 24, 41), ("nodes", 3, 42), ("fds", 50, 43), ("cwd", 3, 59), ("inCall", 4, 60), ("pending", 53, 61)]) (by kernel_rfl) (.cons (by decide) (fun _ => by kernel_rfl) (fun _ => by kernel_rfl) (eqv_int (k := .i64) Try.underlying3 _ _) (.cons (by decide) (fun _ => by kernel_rfl) (fun _ => by kernel_rfl) (eqv_int (k := .i64) Try.underlying3 _ _) (.cons (by decide) (fun _ => by kernel_rfl) (fun _ => by kernel_rfl) (eqv_int (k := .i64) Try.underlying3 _ _) (.cons (by decide) (fun _ => by kernel_rfl) (fun _ => by kernel_rfl) (eqv_int (k := .i64) Try.underlying3 _ _) (.cons (by decide) (fun _ => by kernel_rfl) (fun _ => by kernel_rfl) (eq_chan (d + 0) _ _ _ _) (.cons (by decide) (fun _ => by kernel_rfl) (fun _ => by kernel_rfl) (eqv_bool Try.underlying4 _ _) (.cons (by decide) (fun _ => by kernel_rfl) (fun _ => by kernel_rfl) (eqv_int (k := .i32) Try.underlying21 _ _) (.cons (by decide) (fun _ => by kernel_rfl) (fun _ => by kernel_rfl) (eq_regs (d + 0) _ _) (.cons (by decide) (fun _ => by kernel_rfl) (fun _ => by kernel_rfl) (eqv_int (k := .u64) Try.underlying24 _ _) (.cons (by decide) (fun _ => by kernel_rfl) (fun _ => by kernel_rfl) (eqv_int (k := .i64) Try.underlying3 _ _) (.cons (by decide) (fun _ => by kernel_rfl) (fun _ => by kernel_rfl) (eq_fds (d + 1) _ _) (.cons (by decide) (fun _ => by kernel_rfl) (fun _ => by kernel_rfl) (eqv_int (k := .i64) Try.underlying3 _ _) (.cons (by decide) (fun _ => by kernel_rfl) (fun _ => by kernel_rfl) (eqv_bool Try.underlying4 _ _) (.cons (by decide) (fun _ => by kernel_rfl) (fun _ => by kernel_rfl) (eq_pend (d + 0) _ _) .nil))))))))))))))
theorem eq_137 (d : Nat) (x y : In) (n m : Nat) : EqV (d + 4) 137 (.agg (piL x n).toArray) (.agg (piL y m).toArray) ((x.ino == y.ino) && ((x.ty == y.ty) && ((x.ma == y.ma) && ((x.mi == y.mi) && ((x.links == y.links) && ((x.refs == y.refs) && ((x.size == y.size) && (((n : Int) == (m : Int)) && true)))))))) :=
  eqv_struct (by kernel_rfl) (by kernel_rfl) (F := [("ino", 3, 0), ("kind", 3, 1), ("major", 64, 2), ("minor", 64, 3), ("links", 3, 4), ("refs", 3, 5), ("size", 3, 6), ("blocks", 3, 7)]) (by kernel_rfl) (.cons (by decide) (fun _ => by kernel_rfl) (fun _ => by kernel_rfl) (eqv_int (k := .i64) Try.underlying3 _ _) (.cons (by decide) (fun _ => by kernel_rfl) (fun _ => by kernel_rfl) (eqv_int (k := .i64) Try.underlying3 _ _) (.cons (by decide) (fun _ => by kernel_rfl) (fun _ => by kernel_rfl) (eqv_int (k := .i16) Try.underlying64 _ _) (.cons (by decide) (fun _ => by kernel_rfl) (fun _ => by kernel_rfl) (eqv_int (k := .i16) Try.underlying64 _ _) (.cons (by decide) (fun _ => by kernel_rfl) (fun _ => by kernel_rfl) (eqv_int (k := .i64) Try.underlying3 _ _) (.cons (by decide) (fun _ => by kernel_rfl) (fun _ => by kernel_rfl) (eqv_int (k := .i64) Try.underlying3 _ _) (.cons (by decide) (fun _ => by kernel_rfl) (fun _ => by kernel_rfl) (eqv_int (k := .i64) Try.underlying3 _ _) (.cons (by decide) (fun _ => by kernel_rfl) (fun _ => by kernel_rfl) (eqv_int (k := .i64) Try.underlying3 _ _) .nil))))))))
theorem eq_140 (d : Nat) (x y : Pp) : EqV (d + 4) 140 (.agg (pqL x).toArray) (.agg (pqL y).toArray) ((x.num == y.num) && ((x.rs == y.rs) && ((x.ws == y.ws) && ((x.rd == y.rd) && ((x.wr == y.wr) && true))))) :=
  eqv_struct (by kernel_rfl) (by kernel_rfl) (F := [("num", 3, 0), ("reads", 78, 1), ("writes", 78, 2), ("reader", 4, 3), ("writer", 4, 4)]) (by kernel_rfl) (.cons (by decide) (fun _ => by kernel_rfl) (fun _ => by kernel_rfl) (eqv_int (k := .i64) Try.underlying3 _ _) (.cons (by decide) (fun _ => by kernel_rfl) (fun _ => by kernel_rfl) (eqv_int (k := .u32) Try.underlying78 _ _) (.cons (by decide) (fun _ => by kernel_rfl) (fun _ => by kernel_rfl) (eqv_int (k := .u32) Try.underlying78 _ _) (.cons (by decide) (fun _ => by kernel_rfl) (fun _ => by kernel_rfl) (eqv_bool Try.underlying4 _ _) (.cons (by decide) (fun _ => by kernel_rfl) (fun _ => by kernel_rfl) (eqv_bool Try.underlying4 _ _) .nil)))))
theorem info132 : ∃ i z, Try.prog.info? 132 = some i ∧ i.zero = some z ∧ i.size = 67 ∧ i.bytes = 528 ∧ z.cells.size = 67 := info_of 132 67 528 (by kernel_rfl) (by kernel_rfl)
theorem info137 : ∃ i z, Try.prog.info? 137 = some i ∧ i.zero = some z ∧ i.size = 8 ∧ i.bytes = 56 ∧ z.cells.size = 8 := info_of 137 8 56 (by kernel_rfl) (by kernel_rfl)
theorem info140 : ∃ i z, Try.prog.info? 140 = some i ∧ i.zero = some z ∧ i.size = 5 ∧ i.bytes = 24 ∧ z.cells.size = 5 := info_of 140 5 24 (by kernel_rfl) (by kernel_rfl)
set_option maxRecDepth 100000 in
set_option maxHeartbeats 2000000 in
theorem plainP_any (p : Pc) (np1 gp1 : Option Addr) (n nc1 g gc1 : Nat) (w : World) : Calls Try.prog 60 #[.agg (p.l (.slice np1 n nc1) (.slice gp1 g gc1)).toArray] w fun e w' => e = .returned (.agg (ppL p n).toArray) ∧ Below w.heap.size w w' := by
  go_enter Try.func60, Try.ntmps60
  go_upto_region 1 with (first
    | (refine wpList_is (.box 55 (.tmp 0)) rfl ?_; refine wpList_boxG 55 (p.l (.slice np1 n nc1) (.slice gp1 g gc1)) 1 (.tmp 0) _ rfl rfl rfl rfl ?_; intro W1 hW1 hB1 hs1)
    | (refine wpList_is (.alloc 132) rfl ?_; refine wpList_allocG 132 67 528 info132 2 _ rfl rfl rfl ?_; intro W2 zs hzs hW2 hB2 hs2)
    | fail)
  have hrg : W2.rangeAt w.heap.size 0 (p.l (.slice np1 n nc1) (.slice gp1 g gc1)) := range_keep (range_heap hW1) hB2 (by omega)
  rw [hs1] at hW2 ⊢
  have HB : Hid (Below w.heap.size w W2 ∧ W2.heap.size = w.heap.size + 2) := ⟨hB1.trans (hB2.mono (by omega)), by omega⟩
  have k0 : W2.cell? ⟨w.heap.size, 0, .none⟩ = some (.int .i64 (p.c 0)) := by have := hrg 0 _ rfl; rw [Nat.zero_add] at this; exact this
  have k1 : W2.cell? ⟨w.heap.size, 1, .none⟩ = some (.int .i64 (p.c 1)) := by have := hrg 1 _ rfl; rw [Nat.zero_add] at this; exact this
  have k2 : W2.cell? ⟨w.heap.size, 2, .none⟩ = some (.int .i64 (p.c 2)) := by have := hrg 2 _ rfl; rw [Nat.zero_add] at this; exact this
  have k3 : W2.cell? ⟨w.heap.size, 3, .none⟩ = some (.int .i64 (p.c 3)) := by have := hrg 3 _ rfl; rw [Nat.zero_add] at this; exact this
  have k6 : W2.cell? ⟨w.heap.size, 6, .none⟩ = some (.bool p.kil) := by have := hrg 6 _ rfl; rw [Nat.zero_add] at this; exact this
  have k7 : W2.cell? ⟨w.heap.size, 7, .none⟩ = some (.int .i32 (p.c 7)) := by have := hrg 7 _ rfl; rw [Nat.zero_add] at this; exact this
  have k41 : W2.cell? ⟨w.heap.size, 41, .none⟩ = some (.int .u64 (p.c 41)) := by have := hrg 41 _ rfl; rw [Nat.zero_add] at this; exact this
  have k44 : W2.cell? ⟨w.heap.size, 44, .none⟩ = some (.slice np1 n nc1) := by have := hrg 44 _ rfl; rw [Nat.zero_add] at this; exact this
  have k62 : W2.cell? ⟨w.heap.size, 62, .none⟩ = some (.int .i64 (p.c 62)) := by have := hrg 62 _ rfl; rw [Nat.zero_add] at this; exact this
  have k63 : W2.cell? ⟨w.heap.size, 63, .none⟩ = some (.bool p.inC) := by have := hrg 63 _ rfl; rw [Nat.zero_add] at this; exact this
  have r4 : W2.rangeAt w.heap.size 4 (chL p.c) := by have := range_sub (k := 4) hrg (sub_of (s := (chL p.c)) rfl); simpa using this
  have r8 : W2.rangeAt w.heap.size 8 (regL p.c) := by have := range_sub (k := 8) hrg (sub_of (s := (regL p.c)) rfl); simpa using this
  have r46 : W2.rangeAt w.heap.size 46 (fdL p.c) := by have := range_sub (k := 46) hrg (sub_of (s := (fdL p.c)) rfl); simpa using this
  have r64 : W2.rangeAt w.heap.size 64 (penL p.c) := by have := range_sub (k := 64) hrg (sub_of (s := (penL p.c)) rfl); simpa using this
  clear hrg hW1 hB1 hs1 hB2 hs2
  go_wp2_with (first
    | (refine wpList_is (.load 45 (.tmp 11)) rfl ?_; refine wpList_loadW 45 _ Try.underlying45 rfl (chL p.c) (by kernel_rfl) w.heap.size 4 (.tmp 11) rfl rfl rfl r4 (some 12) rfl ?_)
    | (refine wpList_is (.load 48 (.tmp 17)) rfl ?_; refine wpList_loadW 48 _ Try.underlying48 rfl (regL p.c) (by kernel_rfl) w.heap.size 8 (.tmp 17) rfl rfl rfl r8 (some 18) rfl ?_)
    | (refine wpList_is (.load 50 (.tmp 24)) rfl ?_; refine wpList_loadW 50 _ Try.underlying50 rfl (fdL p.c) (by kernel_rfl) w.heap.size 46 (.tmp 24) rfl rfl rfl r46 (some 25) rfl ?_)
    | (refine wpList_is (.load 53 (.tmp 30)) rfl ?_; refine wpList_loadW 53 _ Try.underlying53 rfl (penL p.c) (by kernel_rfl) w.heap.size 64 (.tmp 30) rfl rfl rfl r64 (some 31) rfl ?_)
    | (refine wpList_is (.build 132 #[(0, .tmp 4), (1, .tmp 6), (2, .tmp 8), (3, .tmp 10), (4, .tmp 12), (5, .tmp 14), (6, .tmp 16), (7, .tmp 18), (8, .tmp 20), (9, .tmp 23), (10, .tmp 25), (11, .tmp 27), (12, .tmp 29), (13, .tmp 31)]) rfl ?_; refine wpList_buildTo rfl 132 _ rfl (some 32) rfl (ppL p n).toArray (by kernel_rfl) ?_)
    | (refine wpList_is (.store 132 (.tmp 2) (.tmp 32)) rfl ?_; refine wpList_storeG 132 67 528 (w.heap.size + 1) info132 (ppL p n) zs rfl hzs (List.all_eq_true.1 (show (ppL p n).all (fun u => u.oneCell') = true from rfl)) (.tmp 2) (.tmp 32) _ rfl rfl rfl rfl rfl hW2 ?_; intro W6 hW6 hg6 hs6)
    | fail)
  refine bodyPost_ret (results_cell_any (p := 2) (ty := 132) rfl _ _ ⟨w.heap.size + 1, 0, .none⟩ _ rfl (run_loadVar_mid (P := Try.prog) _ (w.heap.size + 1) 0 132 (ppL p n) _ (range_heap hW6) Try.underlying132 rfl (by kernel_rfl))) rfl ?_
  exact ⟨rfl, HB.out.1.trans ⟨hg6.os, hg6.tape, hg6.output, hg6.size, fun k hk => hg6.block k (by have := HB.out.2; omega) (by intro e; injection e; omega)⟩⟩
set_option maxRecDepth 100000 in
set_option maxHeartbeats 2000000 in
theorem plainI_any (x : In) (np1 : Option Addr) (n nc1 : Nat) (w : World) : Calls Try.prog 63 #[.agg (x.l (.slice np1 n nc1)).toArray] w fun e w' => e = .returned (.agg (piL x n).toArray) ∧ Below w.heap.size w w' := by
  go_enter Try.func63, Try.ntmps63
  go_upto_region 1 with (first
    | (refine wpList_is (.box 66 (.tmp 0)) rfl ?_; refine wpList_boxG 66 (x.l (.slice np1 n nc1)) 1 (.tmp 0) _ rfl rfl rfl rfl ?_; intro W1 hW1 hB1 hs1)
    | (refine wpList_is (.alloc 137) rfl ?_; refine wpList_allocG 137 8 56 info137 2 _ rfl rfl rfl ?_; intro W2 zs hzs hW2 hB2 hs2)
    | fail)
  have hrg : W2.rangeAt w.heap.size 0 (x.l (.slice np1 n nc1)) := range_keep (range_heap hW1) hB2 (by omega)
  rw [hs1] at hW2 ⊢
  have HB : Hid (Below w.heap.size w W2 ∧ W2.heap.size = w.heap.size + 2) := ⟨hB1.trans (hB2.mono (by omega)), by omega⟩
  have k0 : W2.cell? ⟨w.heap.size, 0, .none⟩ = some (.int .i64 x.ino) := by have := hrg 0 _ rfl; rw [Nat.zero_add] at this; exact this
  have k1 : W2.cell? ⟨w.heap.size, 1, .none⟩ = some (.int .i64 x.ty) := by have := hrg 1 _ rfl; rw [Nat.zero_add] at this; exact this
  have k2 : W2.cell? ⟨w.heap.size, 2, .none⟩ = some (.int .i16 x.ma) := by have := hrg 2 _ rfl; rw [Nat.zero_add] at this; exact this
  have k3 : W2.cell? ⟨w.heap.size, 3, .none⟩ = some (.int .i16 x.mi) := by have := hrg 3 _ rfl; rw [Nat.zero_add] at this; exact this
  have k4 : W2.cell? ⟨w.heap.size, 4, .none⟩ = some (.int .i64 x.links) := by have := hrg 4 _ rfl; rw [Nat.zero_add] at this; exact this
  have k5 : W2.cell? ⟨w.heap.size, 5, .none⟩ = some (.int .i64 x.refs) := by have := hrg 5 _ rfl; rw [Nat.zero_add] at this; exact this
  have k6 : W2.cell? ⟨w.heap.size, 6, .none⟩ = some (.int .i64 x.size) := by have := hrg 6 _ rfl; rw [Nat.zero_add] at this; exact this
  have k7 : W2.cell? ⟨w.heap.size, 7, .none⟩ = some (.slice np1 n nc1) := by have := hrg 7 _ rfl; rw [Nat.zero_add] at this; exact this
  clear hrg hW1 hB1 hs1 hB2 hs2
  go_wp2_with (first
    | (refine wpList_is (.build 137 #[(0, .tmp 4), (1, .tmp 6), (2, .tmp 8), (3, .tmp 10), (4, .tmp 12), (5, .tmp 14), (6, .tmp 16), (7, .tmp 19)]) rfl ?_; refine wpList_buildTo rfl 137 _ rfl (some 20) rfl (piL x n).toArray (by kernel_rfl) ?_)
    | (refine wpList_is (.store 137 (.tmp 2) (.tmp 20)) rfl ?_; refine wpList_storeG 137 8 56 (w.heap.size + 1) info137 (piL x n) zs rfl hzs (List.all_eq_true.1 (show (piL x n).all (fun u => u.oneCell') = true from rfl)) (.tmp 2) (.tmp 20) _ rfl rfl rfl rfl rfl hW2 ?_; intro W6 hW6 hg6 hs6)
    | fail)
  refine bodyPost_ret (results_cell_any (p := 2) (ty := 137) rfl _ _ ⟨w.heap.size + 1, 0, .none⟩ _ rfl (run_loadVar_mid (P := Try.prog) _ (w.heap.size + 1) 0 137 (piL x n) _ (range_heap hW6) Try.underlying137 rfl (by kernel_rfl))) rfl ?_
  exact ⟨rfl, HB.out.1.trans ⟨hg6.os, hg6.tape, hg6.output, hg6.size, fun k hk => hg6.block k (by have := HB.out.2; omega) (by intro e; injection e; omega)⟩⟩
set_option maxRecDepth 100000 in
set_option maxHeartbeats 2000000 in
theorem plainQ_any (x : Pp) (bv : Value) (w : World) : Calls Try.prog 64 #[.agg (x.l bv).toArray] w fun e w' => e = .returned (.agg (pqL x).toArray) ∧ Below w.heap.size w w' := by
  go_enter Try.func64, Try.ntmps64
  go_upto_region 1 with (first
    | (refine wpList_is (.box 98 (.tmp 0)) rfl ?_; refine wpList_boxG 98 (x.l bv) 1 (.tmp 0) _ rfl rfl rfl rfl ?_; intro W1 hW1 hB1 hs1)
    | (refine wpList_is (.alloc 140) rfl ?_; refine wpList_allocG 140 5 24 info140 2 _ rfl rfl rfl ?_; intro W2 zs hzs hW2 hB2 hs2)
    | fail)
  have hrg : W2.rangeAt w.heap.size 0 (x.l bv) := range_keep (range_heap hW1) hB2 (by omega)
  rw [hs1] at hW2 ⊢
  have HB : Hid (Below w.heap.size w W2 ∧ W2.heap.size = w.heap.size + 2) := ⟨hB1.trans (hB2.mono (by omega)), by omega⟩
  have k0 : W2.cell? ⟨w.heap.size, 0, .none⟩ = some (.int .i64 x.num) := by have := hrg 0 _ rfl; rw [Nat.zero_add] at this; exact this
  have k2 : W2.cell? ⟨w.heap.size, 2, .none⟩ = some (.int .u32 x.rs) := by have := hrg 2 _ rfl; rw [Nat.zero_add] at this; exact this
  have k3 : W2.cell? ⟨w.heap.size, 3, .none⟩ = some (.int .u32 x.ws) := by have := hrg 3 _ rfl; rw [Nat.zero_add] at this; exact this
  have k4 : W2.cell? ⟨w.heap.size, 4, .none⟩ = some (.bool x.rd) := by have := hrg 4 _ rfl; rw [Nat.zero_add] at this; exact this
  have k5 : W2.cell? ⟨w.heap.size, 5, .none⟩ = some (.bool x.wr) := by have := hrg 5 _ rfl; rw [Nat.zero_add] at this; exact this
  clear hrg hW1 hB1 hs1 hB2 hs2
  go_wp2_with (first
    | (refine wpList_is (.build 140 #[(0, .tmp 4), (1, .tmp 7), (2, .tmp 10), (3, .tmp 13), (4, .tmp 16)]) rfl ?_; refine wpList_buildTo rfl 140 _ rfl (some 17) rfl (pqL x).toArray (by kernel_rfl) ?_)
    | (refine wpList_is (.store 140 (.tmp 2) (.tmp 17)) rfl ?_; refine wpList_storeG 140 5 24 (w.heap.size + 1) info140 (pqL x) zs rfl hzs (List.all_eq_true.1 (show (pqL x).all (fun u => u.oneCell') = true from rfl)) (.tmp 2) (.tmp 17) _ rfl rfl rfl rfl rfl hW2 ?_; intro W6 hW6 hg6 hs6)
    | fail)
  refine bodyPost_ret (results_cell_any (p := 2) (ty := 140) rfl _ _ ⟨w.heap.size + 1, 0, .none⟩ _ rfl (run_loadVar_mid (P := Try.prog) _ (w.heap.size + 1) 0 140 (pqL x) _ (range_heap hW6) Try.underlying140 rfl (by kernel_rfl))) rfl ?_
  exact ⟨rfl, HB.out.1.trans ⟨hg6.os, hg6.tape, hg6.output, hg6.size, fun k hk => hg6.block k (by have := HB.out.2; omega) (by intro e; injection e; omega)⟩⟩
end Go.Proofs.Ythopgmmodldljaa
