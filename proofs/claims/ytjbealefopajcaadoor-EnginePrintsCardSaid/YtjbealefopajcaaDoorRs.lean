import Derived.Test.YtjbealefopajcaaDoorRg
namespace Go.Proofs.YtjbealefopajcaaDoor.Rg
open Go Go.RowKit
set_option linter.unusedVariables false
/-! A region that draws: loads taken first under S; behind the operations Z S is not asked. -/
section
variable {P : Program} {ops : Array Oper} {Q : Exit → Act → World → Prop} {md : Region.Mode} {S : World → Prop} {Z : Nat → Bool}
/-- What waits for i can't come up while i has not. -/
theorem waits {i j : Nat} {listed : Array Bool} {oj : Oper} (hj : j ∈ Region.ready md ops listed) (hoj : ops[j]? = some oj) (hi : i ∈ Region.ready md ops listed) : ∀ e ∈ oj.after, Region.binds md e = true → e.on ≠ i := by
  intro e he hb heq
  obtain ⟨_, oj', hoj', hall⟩ := mem_ready.1 hj
  rw [hoj] at hoj'
  cases hoj'
  have h1 := hall e he hb
  have h0 := (mem_ready.1 hi).1
  rw [heq] at h1
  rcases Nat.lt_or_ge i listed.size with h' | h'
  · simp [h'] at h0 h1
    rw [h0] at h1
    cases h1
  · simp [Array.getElem?_eq_none h'] at h1
def wpSet (P : Program) (md : Region.Mode) (ops : Array Oper) (Q : Exit → Act → World → Prop) (S : World → Prop) (Z : Nat → Bool) : Nat → Array Bool → Act → World → Prop
  | 0, listed, a, w => Region.ready md ops listed = [] ∧ Q .normal a w
  | n + 1, listed, a, w => (Region.ready md ops listed = [] → Q .normal a w) ∧ ∀ i ∈ Region.ready md ops listed, wpOp P ops Q i (fun a' w' => (Z i = false → S w') ∧ wpSet P md ops Q S Z n (listed.setIfInBounds i true) a' w') a w
theorem wpSet.any : ∀ (n : Nat) (listed : Array Bool) (a : Act) (w : World), wpSet P md ops Q S Z n listed a w → wpAny P md ops Q n listed a w
  | 0, _, _, _, h => h
  | n + 1, _, _, _, h => ⟨h.1, fun i hi => wpOp_mono (fun a' w' h' => wpSet.any n _ a' w' h'.2) (h.2 i hi)⟩
/-- Who waits for i, at first or second hand. -/
def clo (md : Region.Mode) (ops : Array Oper) (i : Nat) : List Bool := ops.toList.foldl (fun acc o => acc ++ [o.after.any fun e => Region.binds md e && (e.on == i || acc.getD e.on false)]) []
def chk (md : Region.Mode) (ops : Array Oper) (Z : Nat → Bool) (listed : Array Bool) (i : Nat) (D : List Bool) : Bool :=
  ((List.range ops.size).all fun j => !(D.getD j false) || (match ops[j]? with | some o => o.after.any fun e => Region.binds md e && (e.on == i || D.getD e.on false) | none => false)) &&
  ((List.range ops.size).all fun j => !(Z j) || D.getD j false || listed.getD j true) && ((List.range ops.size).all fun j => !(D.getD j false) || !(listed.getD j true)) && decide (D.length = ops.size)
theorem set_first {i : Nat} {oi : Oper} {v : Value} {D : List Bool} (hi : ops[i]? = some oi) (hD : ∀ (j : Nat) (oj : Oper), ops[j]? = some oj → D.getD j false = true → ∃ e ∈ oj.after, Region.binds md e = true ∧ (e.on = i ∨ D.getD e.on false = true)) 
    (hsel : ∀ (j : Nat) (o : Oper) cs b, ops[j]? = some o → o.op ≠ .select cs b) (hQ : ∀ c a w, Q (.panic c) (a.put oi.dst v) w → Q (.panic c) a w) (n : Nat) :
    ∀ (listed : Array Bool) (a : Act) (w : World), (∀ (j : Nat) (oj : Oper), ops[j]? = some oj → Z j = true → listed.getD j true = false → D.getD j false = true) → (∀ j, D.getD j false = true → listed.getD j true = false) → (∀ j oj, ops[j]? = some oj → j ≠ i → listed.getD j true = false → (∀ e ∈ oj.after, Region.binds md e = true → e.on ≠ i) → oi.apart ops oj = true) → i ∈ Region.ready md ops listed → YieldsIf P ops S oi v a → S w →
      wpSet P md ops Q S Z n (listed.setIfInBounds i true) (a.put oi.dst v) w → wpSet P md ops Q S Z (n + 1) listed a w := by
  induction n with
  | zero =>
    intro listed a w _ _ _ hr hy hS H
    refine ⟨fun h => absurd hr (by rw [h]; simp), fun j hj => ?_⟩
    by_cases hji : j = i
    · rw [hji]
      exact hy.wpOp hi hS ⟨fun _ => hS, H⟩
    · exact absurd (ready_mono hj hji) (by rw [H.1]; simp)
  | succ n ih =>
    intro listed a w hZ hL hfree hr hy hS H
    refine ⟨fun h => absurd hr (by rw [h]; simp), fun j hj => ?_⟩
    by_cases hji : j = i
    · rw [hji]
      exact hy.wpOp hi hS ⟨fun _ => hS, H⟩
    obtain ⟨hjun, oj, hoj, hall⟩ := mem_ready.1 hj
    have hnot := waits hj hoj hr
    have hjD : D.getD j false = false := by
      cases hd : D.getD j false with
      | false => rfl
      | true =>
        obtain ⟨e, he, hb, hon⟩ := hD j oj hoj hd
        rcases hon with hon | hon
        · exact absurd hon (hnot e he hb)
        · have h1 := hall e he hb
          have h2 := hL _ hon
          rcases Nat.lt_or_ge e.on listed.size with h' | h'
          · simp [h'] at h1 h2
            rw [h2] at h1
            cases h1
          · simp [Array.getElem?_eq_none h'] at h1
    have hjZ : Z j = false := by
      cases hz : Z j with
      | false => rfl
      | true => rw [hZ j oj hoj hz hjun] at hjD; cases hjD
    refine wpOp_mono (fun a' w' h3 => ?_) (wpOp_putIf hoj (hfree j oj hoj hji hjun hnot) (fun cs b => hsel i oi cs b hi) (fun cs b => hsel j oj cs b hoj) hQ hy (H.2 j (ready_mono hj hji)))
    obtain ⟨y', s', h4⟩ := h3
    refine ⟨s', ih _ a' w' ?_ ?_ ?_ (ready_mono hr (Ne.symm hji)) y' (s' hjZ) (by rw [Array.setIfInBounds_comm _ _ hji]; exact h4)⟩
    · intro k ok hk hzk hun
      refine hZ k ok hk hzk ?_
      by_cases hjk : j = k
      · rw [← hjk]; exact hjun
      · rw [getD_set_ne true hjk] at hun; exact hun
    · intro k hk
      have hjk : j ≠ k := by rintro rfl; rw [hk] at hjD; cases hjD
      rw [getD_set_ne true hjk]
      exact hL k hk
    · intro k ok hk hki hun hno
      refine hfree k ok hk hki ?_ hno
      by_cases hjk : j = k
      · rw [← hjk]; exact hjun
      · rw [getD_set_ne true hjk] at hun; exact hun
theorem set_take {i : Nat} {oi : Oper} {v : Value} {n : Nat} {listed : Array Bool} {a : Act} {w : World} (hi : ops[i]? = some oi) (hc : chk md ops Z listed i (clo md ops i) = true)
    (hs : Region.noSelect ops = true) (hf : Region.free md ops listed i = true) (hr : (Region.ready md ops listed).contains i = true)
    (hQ : ∀ c a w, Q (.panic c) (a.put oi.dst v) w → Q (.panic c) a w) (hy : YieldsIf P ops S oi v a) (hS : S w)
    (h : wpSet P md ops Q S Z n (listed.setIfInBounds i true) (a.put oi.dst v) w) : wpSet P md ops Q S Z (n + 1) listed a w := by
  unfold chk at hc
  simp only [Bool.and_eq_true, List.all_eq_true, List.mem_range, Bool.or_eq_true, Bool.not_eq_true', decide_eq_true_eq] at hc
  obtain ⟨⟨⟨c1, c2⟩, c3⟩, c4⟩ := hc
  refine set_first (D := clo md ops i) hi ?_ (Region.noSelect_spec hs) hQ n listed a w ?_ ?_ (Region.free_spec hi hf) (by simpa using hr) hy hS h
  · intro j oj hoj hd
    have hj : j < ops.size := (Array.getElem?_eq_some_iff.1 hoj).1
    rcases c1 j hj with h1 | h1
    · rw [h1] at hd; cases hd
    · rw [hoj] at h1
      rw [Array.any_eq_true'] at h1
      obtain ⟨e, he, hb⟩ := h1
      simp only [Bool.and_eq_true, Bool.or_eq_true, beq_iff_eq] at hb
      exact ⟨e, he, hb.1, hb.2⟩
  · intro j oj hoj hz hun
    have hj : j < ops.size := (Array.getElem?_eq_some_iff.1 hoj).1
    rcases c2 j hj with (h1 | h1) | h1
    · rw [h1] at hz; cases hz
    · exact h1
    · rw [h1] at hun; cases hun
  · intro j hd
    by_cases hj : j < ops.size
    · rcases c3 j hj with h1 | h1
      · rw [h1] at hd; cases hd
      · exact h1
    · rw [List.getD_eq_getElem?_getD, List.getElem?_eq_none (by omega)] at hd
      cases hd
/-- What yields in whatever world. -/
theorem set_pureN {i : Nat} {oi : Oper} {v : Value} (hi : ops[i]? = some oi) (hz : Z i = true) (hsel : ∀ (j : Nat) (o : Oper) cs b, ops[j]? = some o → o.op ≠ .select cs b) (hQ : ∀ c a w, Q (.panic c) (a.put oi.dst v) w → Q (.panic c) a w) (n : Nat) :
    ∀ (listed : Array Bool) (a : Act) (w : World), (∀ j oj, ops[j]? = some oj → j ≠ i → listed.getD j true = false → (∀ e ∈ oj.after, Region.binds md e = true → e.on ≠ i) → oi.apart ops oj = true) → i ∈ Region.ready md ops listed → YieldsIf P ops (fun _ => True) oi v a →
      wpSet P md ops Q S Z n (listed.setIfInBounds i true) (a.put oi.dst v) w → wpSet P md ops Q S Z (n + 1) listed a w := by
  induction n with
  | zero =>
    intro listed a w _ hr hy H
    refine ⟨fun h => absurd hr (by rw [h]; simp), fun j hj => ?_⟩
    by_cases hji : j = i
    · rw [hji]
      exact hy.wpOp hi trivial ⟨fun h => (by rw [hz] at h; cases h), H⟩
    · exact absurd (ready_mono hj hji) (by rw [H.1]; simp)
  | succ n ih =>
    intro listed a w hfree hr hy H
    refine ⟨fun h => absurd hr (by rw [h]; simp), fun j hj => ?_⟩
    by_cases hji : j = i
    · rw [hji]
      exact hy.wpOp hi trivial ⟨fun h => (by rw [hz] at h; cases h), H⟩
    obtain ⟨hjun, oj, hoj, hall⟩ := mem_ready.1 hj
    have hnot := waits hj hoj hr
    refine wpOp_mono (fun a' w' h3 => ?_) (wpOp_putIf hoj (hfree j oj hoj hji hjun hnot) (fun cs b => hsel i oi cs b hi) (fun cs b => hsel j oj cs b hoj) hQ hy (H.2 j (ready_mono hj hji)))
    obtain ⟨y', s', h4⟩ := h3
    refine ⟨s', ih _ a' w' ?_ (ready_mono hr (Ne.symm hji)) y' (by rw [Array.setIfInBounds_comm _ _ hji]; exact h4)⟩
    intro k ok hk hki hun hno
    refine hfree k ok hk hki ?_ hno
    by_cases hjk : j = k
    · rw [← hjk]; exact hjun
    · rw [getD_set_ne true hjk] at hun; exact hun
/-- Number i yields in whatever world, and S is not asked behind it. -/
theorem set_pure {i : Nat} {oi : Oper} {v : Value} {n : Nat} {listed : Array Bool} {a : Act} {w : World} (hi : ops[i]? = some oi) (hz : Z i = true)
    (hs : Region.noSelect ops = true) (hf : Region.free md ops listed i = true) (hr : (Region.ready md ops listed).contains i = true)
    (hQ : ∀ c a w, Q (.panic c) (a.put oi.dst v) w → Q (.panic c) a w) (hy : YieldsIf P ops (fun _ => True) oi v a)
    (h : wpSet P md ops Q S Z n (listed.setIfInBounds i true) (a.put oi.dst v) w) : wpSet P md ops Q S Z (n + 1) listed a w :=
  set_pureN hi hz (Region.noSelect_spec hs) hQ n listed a w (Region.free_spec hi hf) (by simpa using hr) hy h
/-- The rest in its own order. -/
def seqB (md : Region.Mode) (ops : Array Oper) (Z : Nat → Bool) : Nat → Nat → Array Bool → Bool
  | 0, k, listed => (Region.ready md ops listed).isEmpty && decide (ops.size ≤ k)
  | m + 1, k, listed => decide (Region.ready md ops listed = [k]) && Z k && decide (k < ops.size) && seqB md ops Z m (k + 1) (listed.setIfInBounds k true)
theorem set_tail : ∀ (m k n : Nat) (listed : Array Bool) (a : Act) (w : World), seqB md ops Z m k listed = true → m ≤ n → wpList P ops Q (ops.toList.drop k) a w → wpSet P md ops Q S Z n listed a w
  | 0, k, n, listed, a, w, hq, _, h => by
    simp only [seqB, Bool.and_eq_true, List.isEmpty_iff, decide_eq_true_eq] at hq
    rw [List.drop_of_length_le (by simpa using hq.2)] at h
    cases n with
    | zero => exact ⟨hq.1, h⟩
    | succ n => exact ⟨fun _ => h, by rw [hq.1]; simp⟩
  | m + 1, k, 0, listed, a, w, _, hn, _ => by omega
  | m + 1, k, n + 1, listed, a, w, hq, hn, h => by
    simp only [seqB, Bool.and_eq_true, decide_eq_true_eq] at hq
    obtain ⟨⟨⟨q1, q2⟩, q3⟩, q4⟩ := hq
    refine ⟨fun h0 => (by rw [q1] at h0; cases h0), fun j hj => ?_⟩
    rw [q1, List.mem_singleton] at hj
    subst hj
    have hdrop : ops.toList.drop j = ops[j] :: ops.toList.drop (j + 1) := by
      rw [List.drop_eq_getElem_cons (by simpa using q3)]
      simp
    rw [hdrop] at h
    have h2 : wpOp P ops Q j (wpList P ops Q (ops.toList.drop (j + 1))) a w := by
      unfold wpOp
      rw [Array.getElem?_eq_getElem q3]
      exact h
    exact wpOp_mono (fun a' w' h3 => ⟨fun hz => (by rw [q2] at hz; cases hz), set_tail m (j + 1) n _ a' w' q4 (by omega) h3⟩) h2
theorem region_set {id : Nat} {a : Act} {w : World} (S : World → Prop) (k : Nat) (pu : List Nat) (hm : P.follows .mixedOrders = true) (h : wpSet P .any ops Q S (fun j => decide (k ≤ j) || pu.contains j) ops.size (Array.replicate ops.size false) a w.drew) : (Code.region id ops true).wp P Q a w :=
  wp_region_any hm (wpSet.any _ _ _ _ h)
theorem set_only {i n : Nat} {oi : Oper} {listed : Array Bool} {a : Act} {w : World} (hr : Region.ready md ops listed = [i]) (hi : ops[i]? = some oi) (hwd : Region.wanted oi (yielded ops a.tmps) = true)
    (h : ∀ K : Act → World → Prop, Hid (∀ a' w', (Z i = false → S w') → wpSet P md ops Q S Z n (listed.setIfInBounds i true) a' w' → K a' w') → oi.wp P a w K Q) : wpSet P md ops Q S Z (n + 1) listed a w := by
  refine ⟨fun h0 => (by rw [hr] at h0; cases h0), fun j hj => ?_⟩
  rw [hr, List.mem_singleton] at hj
  subst hj
  unfold wpOp
  simp only [hi, hwd, if_true]
  exact .inl (h _ (fun a' w' h1 h2 => ⟨h1, h2⟩))

theorem set_two {i j n : Nat} {oi oj : Oper} {listed : Array Bool} {a : Act} {w : World} (hr : Region.ready md ops listed = [i, j]) (hi : ops[i]? = some oi) (hj : ops[j]? = some oj) (hwi : Region.wanted oi (yielded ops a.tmps) = true) (hwj : Region.wanted oj (yielded ops a.tmps) = true)
    (h1 : ∀ K : Act → World → Prop, Hid (∀ a' w', (Z i = false → S w') → wpSet P md ops Q S Z n (listed.setIfInBounds i true) a' w' → K a' w') → oi.wp P a w K Q)
    (h2 : ∀ K : Act → World → Prop, Hid (∀ a' w', (Z j = false → S w') → wpSet P md ops Q S Z n (listed.setIfInBounds j true) a' w' → K a' w') → oj.wp P a w K Q) : wpSet P md ops Q S Z (n + 1) listed a w := by
  refine ⟨fun h0 => (by rw [hr] at h0; cases h0), fun k hk => ?_⟩
  rw [hr, List.mem_cons, List.mem_singleton] at hk
  rcases hk with rfl | rfl
  · unfold wpOp
    simp only [hi, hwi, if_true]
    exact .inl (h1 _ (fun a' w' h1 h2 => ⟨h1, h2⟩))
  · unfold wpOp
    simp only [hj, hwj, if_true]
    exact .inl (h2 _ (fun a' w' h1 h2 => ⟨h1, h2⟩))
/-- A take, with fewer words. -/
theorem sT {n : Nat} {listed : Array Bool} {a : Act} {w : World} {oi : Oper} (i : Nat) (v : Value) (hi : ops[i]? = some oi) (h : wpSet P md ops Q S Z n (listed.setIfInBounds i true) (a.put oi.dst v) w) (hy : ∀ ww, S ww → (execOp a.eval oi).run P ww = .ok (.value v) ww := by exact fun ww hSw => by (try dsimp only at hSw); go_simp) (hw : Region.wanted oi (yielded ops a.tmps) = true := by kernel_rfl) (hc : chk md ops Z listed i (clo md ops i) = true := by kernel_rfl) (hs : Region.noSelect ops = true := by kernel_rfl) (hf : Region.free md ops listed i = true := by kernel_rfl) (hr : (Region.ready md ops listed).contains i = true := by kernel_rfl) (hS : S w := by assumption) (hQ : ∀ c a w, Q (.panic c) (a.put oi.dst v) w → Q (.panic c) a w := by exact fun _ _ _ h => h) : wpSet P md ops Q S Z (n + 1) listed a w :=
  set_take hi hc hs hf hr hQ (.inl ⟨hw, hy⟩) hS h
theorem sP {n : Nat} {listed : Array Bool} {a : Act} {w : World} {oi : Oper} (i : Nat) (v : Value) (hi : ops[i]? = some oi) (h : wpSet P md ops Q S Z n (listed.setIfInBounds i true) (a.put oi.dst v) w) (hy : ∀ ww, (execOp a.eval oi).run P ww = .ok (.value v) ww := by exact fun ww => by go_simp) (hw : Region.wanted oi (yielded ops a.tmps) = true := by kernel_rfl) (hz : Z i = true := by kernel_rfl) (hs : Region.noSelect ops = true := by kernel_rfl) (hf : Region.free md ops listed i = true := by kernel_rfl) (hr : (Region.ready md ops listed).contains i = true := by kernel_rfl) (hQ : ∀ c a w, Q (.panic c) (a.put oi.dst v) w → Q (.panic c) a w := by exact fun _ _ _ h => h) : wpSet P md ops Q S Z (n + 1) listed a w :=
  set_pure hi hz hs hf hr hQ (.inl ⟨hw, fun ww _ => hy ww⟩) h
end
end Go.Proofs.YtjbealefopajcaaDoor.Rg
