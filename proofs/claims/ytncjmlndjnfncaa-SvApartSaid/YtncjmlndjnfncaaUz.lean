import Derived.Test.YtncjmlndjnfncaaUp
import Derived.Laws.AppendOwn
namespace Go.Proofs.Ytncjmlndjnfncaa
open Go Go.RowKit Fz
attribute [local go_sem] Oper.semAt_some
set_option linter.unusedVariables false
set_option linter.unusedSimpArgs false
/-- A row of pages, read. -/
def SeP (w : World) (q : Option Addr) (n : Nat) (V A P : Nat → Int) : Prop := n = 0 ∨ ∃ g, q = some ⟨g, 0, .none⟩ ∧ g < w.heap.size ∧ ∀ i, i < n → w.cell? ⟨g, i * 3, .none⟩ = some (.int .u64 (V i)) ∧ w.cell? ⟨g, i * 3 + 1, .none⟩ = some (.int .u64 (A i)) ∧ w.cell? ⟨g, i * 3 + 2, .none⟩ = some (.int .u64 (P i))
theorem SeP.keep {w w' : World} {q : Option Addr} {n : Nat} {V A P : Nat → Int} (h : SeP w q n V A P) (b : Below w.heap.size w w') : SeP w' q n V A P := by
  rcases h with h | ⟨g, hq, hg, hr⟩
  · exact .inl h
  · exact .inr ⟨g, hq, Nat.lt_of_lt_of_le hg b.size, fun i hi => ⟨(b.cell (p := ⟨g, i * 3, .none⟩) hg).trans (hr i hi).1, (b.cell (p := ⟨g, i * 3 + 1, .none⟩) hg).trans (hr i hi).2.1, (b.cell (p := ⟨g, i * 3 + 2, .none⟩) hg).trans (hr i hi).2.2⟩⟩
/-- The place of a page. -/
def Fnd (V : Nat → Int) (n : Nat) (va k : Int) : Prop := (k = -1 ∧ ∀ i, i < n → V i ≠ va) ∨ ∃ i : Nat, i < n ∧ k = i ∧ V i = va ∧ ∀ j, j < i → V j ≠ va
theorem find_any {w : World} {n c : Nat} {q : Option Addr} {V A P : Nat → Int} (ha : SeP w q n V A P) (hn : n ≤ 1000000) (va : Int) : Calls Try.prog 28 #[.slice q n c, .int .u64 va] w fun e w' => ∃ k, e = .returned (.int .i64 k) ∧ Fnd V n va k ∧ w' = w := by
  go_enter Try.func28, Try.ntmps28
  go_wp2
  go_loopw [5] (fun v wr => ∃ i : Nat, i ≤ n ∧ v = .int .i64 i ∧ wr = w ∧ Hid (∀ j, j < i → V j ≠ va)) (fun v _ => (n - intOf v).toNat)
  case atStart => exact ⟨0, by omega, rfl, rfl, fun j h => by omega⟩
  case round =>
    obtain ⟨i, hi, rfl, hw, HJ⟩ := hrel
    obtain rfl : wr = w := hw
    by_cases hin : i < n
    · rcases ha with h | ⟨g, rfl, hg, hr⟩
      · omega
      have i1 : (i : Int) < n := by omega
      have k0 := (hr i hin).1
      clear hr
      obtain ⟨x, hx⟩ : ∃ x, x = V i := ⟨_, rfl⟩
      rw [← hx] at k0
      have HX : Hid (x = V i) := hx
      clear hx
      by_cases hv : x = va
      · have e1 : (x == va) = true := by simpa using hv
        go_wp2
        go_ret
        exact ⟨i, rfl, .inr ⟨i, hin, rfl, by rw [← HX.out]; exact hv, HJ.out⟩, rfl⟩
      · have e1 : (x == va) = false := by simpa using hv
        go_wp2
        exact ⟨⟨i + 1, by omega, by go_num, by trivial, fun j hj => by
          by_cases e : j = i
          · subst e; rw [← HX.out]; exact hv
          · exact HJ.out j (by omega)⟩, by simp [intOf]; omega⟩
    · have i1 : ¬ (i : Int) < n := by omega
      obtain rfl : n = i := by omega
      clear ha
      go_wp2
      go_ret
      exact ⟨-1, rfl, .inl ⟨rfl, HJ.out⟩, rfl⟩
end Go.Proofs.Ytncjmlndjnfncaa
namespace Go.Proofs.Ytncjmlndjnfncaa
open Go Go.RowKit Fz
attribute [local go_sem] Oper.semAt_some
set_option linter.unusedVariables false
set_option linter.unusedSimpArgs false
/-- How many different parts there are. -/
def prt (V : Nat → Int) (s : Int) : Nat → Nat
  | 0 => 0
  | n + 1 => prt V s n + if ∀ k, k < n → V k / s ≠ V n / s then 1 else 0
theorem prt_le (V : Nat → Int) (s : Int) : ∀ n, prt V s n ≤ n
  | 0 => Nat.le_refl _
  | n + 1 => by have := prt_le V s n; unfold prt; split <;> omega
set_option maxHeartbeats 2000000 in
theorem parts_any {w : World} {n c : Nat} {q : Option Addr} {V A P : Nat → Int} (ha : SeP w q n V A P) (hb : ∀ i, 0 ≤ V i ∧ V i < 18446744073709551616) (s : Int) (hs : s = 1073741824 ∨ s = 2097152) (hn : n ≤ 1000000) : Calls Try.prog 29 #[.slice q n c, .int .u64 s] w fun e w' => e = .returned (.int .i64 (prt V s n)) ∧ Below w.heap.size w w' := by
  go_enter Try.func29, Try.ntmps29
  go_wp2
  go_loopw [5, 6] (fun u v wr => ∃ i : Nat, i ≤ n ∧ u = .int .i64 (prt V s i) ∧ v = .int .i64 i ∧ Hid (Below w.heap.size w wr)) (fun _ v _ => (n - intOf v).toNat)
  case atStart => exact ⟨0, by omega, rfl, rfl, Below.refl _ _⟩
  case round =>
    obtain ⟨i, hi, rfl, rfl, HB⟩ := hrel
    have hpi := prt_le V s i
    by_cases hin : i < n
    · have i1 : (i : Int) < n := by omega
      obtain ⟨g, rfl, hg, hr⟩ : ∃ g, q = some ⟨g, 0, .none⟩ ∧ g < w.heap.size ∧ ∀ i, i < n → w.cell? ⟨g, i * 3, .none⟩ = some (.int .u64 (V i)) ∧ w.cell? ⟨g, i * 3 + 1, .none⟩ = some (.int .u64 (A i)) ∧ w.cell? ⟨g, i * 3 + 2, .none⟩ = some (.int .u64 (P i)) := by
        rcases ha with h | h
        · omega
        · exact h
      clear ha
      have HR : Hid (∀ W, Below w.heap.size w W → ∀ i, i < n → W.cell? ⟨g, i * 3, .none⟩ = some (.int .u64 (V i))) := fun W b i hi => (b.cell (p := ⟨g, i * 3, .none⟩) hg).trans (hr i hi).1
      clear hr
      have HP : Hid (prt V s (i + 1) = prt V s i + if ∀ k, k < i → V k / s ≠ V i / s then 1 else 0) := rfl
      have HPL : Hid (prt V s (i + 1) ≤ i + 1) := prt_le V s (i + 1)
      generalize prt V s i = pi at *
      go_wp2
      go_loopw [7, 8] (fun u v wr => ∃ k : Nat, k ≤ i ∧ u = .bool (decide (∀ j, j < k → V j / s ≠ V i / s)) ∧ v = .int .i64 k ∧ Hid (Below w.heap.size w wr)) (fun _ v _ => (i - intOf v).toNat)
      case atStart => exact ⟨0, by omega, by simp, rfl, HB⟩
      case round =>
        clear HB
        obtain ⟨k, hk, rfl, rfl, HB⟩ := hrel
        by_cases hki : k < i
        · have i2 : (k : Int) < i := by omega
          have i3 : (k : Int) < n := by omega
          have k0 := HR.out wr HB.out k (by omega)
          have k1 := HR.out wr HB.out i (by omega)
          have b0 := hb k
          have b1 := hb i
          obtain ⟨x, hx⟩ : ∃ x, x = V k := ⟨_, rfl⟩
          obtain ⟨y, hy⟩ : ∃ y, y = V i := ⟨_, rfl⟩
          rw [← hx] at k0 b0
          rw [← hy] at k1 b1
          have HX : Hid (x = V k ∧ y = V i) := ⟨hx, hy⟩
          clear hx hy
          by_cases hd : ∀ j, j < k → V j / s ≠ V i / s
          · rw [decide_eq_true hd]
            have HD : Hid (decide (∀ j, j < k + 1 → V j / s ≠ V i / s) = !(x / s == y / s)) := by
              by_cases e : x / s = y / s
              · have e2 : (x / s == y / s) = true := by simpa using e
                rw [e2]
                exact decide_eq_false (fun h => h k (by omega) (by rw [← HX.out.1, ← HX.out.2]; exact e))
              · have e2 : (x / s == y / s) = false := by simpa using e
                rw [e2]
                refine decide_eq_true (fun j hj => ?_)
                by_cases e3 : j = k
                · subst e3; rw [← HX.out.1, ← HX.out.2]; exact e
                · exact hd j (by omega)
            clear hd
            go_wp2
            go_quiet (fail)
            go_wp2
            exact ⟨⟨k + 1, by omega, by rw [HD.out]; rfl, by go_num, HB.out.trans (blw_drewN _ _ _)⟩, by simp [intOf]; omega⟩
          · rw [decide_eq_false hd]
            have HD : Hid (decide (∀ j, j < k + 1 → V j / s ≠ V i / s) = false) := decide_eq_false (fun h => hd (fun j hj => h j (by omega)))
            clear hd
            go_wp2
            go_quiet (fail)
            go_wp2
            exact ⟨⟨k + 1, by omega, by rw [HD.out], by go_num, HB.out.trans (blw_drewN _ _ _)⟩, by simp [intOf]; omega⟩
        · have i2 : ¬ (k : Int) < i := by omega
          obtain rfl : k = i := by omega
          by_cases hd : ∀ j, j < k → V j / s ≠ V k / s
          · rw [decide_eq_true hd]
            have HQ : Hid (prt V s (k + 1) = pi + 1) := by show prt V s (k + 1) = pi + 1; rw [HP.out, if_pos hd]
            clear hd
            go_wp2
            exact ⟨⟨k + 1, by omega, by rw [HQ.out]; go_num, by go_num, HB⟩, by simp [intOf]; omega⟩
          · rw [decide_eq_false hd]
            have HQ : Hid (prt V s (k + 1) = pi) := by show prt V s (k + 1) = pi; rw [HP.out, if_neg hd, Nat.add_zero]
            clear hd
            go_wp2
            exact ⟨⟨k + 1, by omega, by rw [HQ.out], by go_num, HB⟩, by simp [intOf]; omega⟩
    · have i1 : ¬ (i : Int) < n := by omega
      obtain rfl : i = n := by omega
      clear ha
      go_wp2
      go_ret
      exact ⟨rfl, HB.out⟩
end Go.Proofs.Ytncjmlndjnfncaa
namespace Go.Proofs.Ytncjmlndjnfncaa
open Go Go.RowKit Fz
attribute [local go_sem] Oper.semAt_some
set_option linter.unusedVariables false
set_option linter.unusedSimpArgs false
abbrev Pg := Int × Int × Int
def pc (x : Pg) : List Value := [.int .u64 x.1, .int .u64 x.2.1, .int .u64 x.2.2]
def pcs (l : List Pg) : List Value := l.flatMap pc
theorem pcs_len (l : List Pg) : (pcs l).length = l.length * 3 := by
  induction l with
  | nil => rfl
  | cons x l ih => simp only [pcs, List.flatMap_cons, List.length_append, List.length_cons] at ih ⊢; rw [ih]; simp [pc]; omega
theorem pcs_app (l : List Pg) (x : Pg) : pcs (l ++ [x]) = pcs l ++ pc x := by simp [pcs]
theorem pcs_get (l : List Pg) (i : Nat) (x : Pg) (h : l[i]? = some x) : (pcs l)[i * 3]? = some (.int .u64 x.1) ∧ (pcs l)[i * 3 + 1]? = some (.int .u64 x.2.1) ∧ (pcs l)[i * 3 + 2]? = some (.int .u64 x.2.2) := by
  induction l generalizing i with
  | nil => simp at h
  | cons y l ih =>
    cases i with
    | zero =>
      simp only [List.getElem?_cons_zero, Option.some.injEq] at h
      subst h
      simp [pcs, pc]
    | succ i =>
      simp only [List.getElem?_cons_succ] at h
      obtain ⟨h1, h2, h3⟩ := ih i h
      have e : pcs (y :: l) = pc y ++ pcs l := by simp [pcs]
      have el : (pc y).length = 3 := rfl
      rw [e]
      refine ⟨?_, ?_, ?_⟩
      · rw [List.getElem?_append_right (by rw [el]; omega), el, show (i + 1) * 3 - 3 = i * 3 by omega]; exact h1
      · rw [List.getElem?_append_right (by rw [el]; omega), el, show (i + 1) * 3 + 1 - 3 = i * 3 + 1 by omega]; exact h2
      · rw [List.getElem?_append_right (by rw [el]; omega), el, show (i + 1) * 3 + 2 - 3 = i * 3 + 2 by omega]; exact h3
/-- A row of pages of one's own. -/
def PgR (W : World) (X : Nat) (v : Value) (l : List Pg) : Prop := W.ownsRow X 33 3 v l.length (pcs l)
def gV (l : List Pg) (i : Nat) : Int := (l.getD i (0, 0, 0)).1
def gA (l : List Pg) (i : Nat) : Int := (l.getD i (0, 0, 0)).2.1
def gP (l : List Pg) (i : Nat) : Int := (l.getD i (0, 0, 0)).2.2
theorem PgR.shape {W : World} {X : Nat} {v : Value} {l : List Pg} (h : PgR W X v l) : ∃ q c, v = .slice q l.length c := by
  rcases h.2 with ⟨rfl, h0⟩ | ⟨g, cap, cur, rfl, _⟩
  · exact ⟨none, 0, by rw [h0]⟩
  · exact ⟨_, _, rfl⟩
theorem PgR.see {W : World} {X c : Nat} {q : Option Addr} {l : List Pg} (h : PgR W X (.slice q l.length c) l) : SeP W q l.length (gV l) (gA l) (gP l) := by
  by_cases h0 : l.length = 0
  · exact .inl h0
  · obtain ⟨g, rfl⟩ : ∃ g, q = some ⟨g, 0, .none⟩ := by
      rcases h.2 with ⟨_, h1⟩ | ⟨g, cap, cur, hv, _⟩
      · exact absurd h1 h0
      · injection hv with e1 _ _
        exact ⟨g, e1⟩
    refine .inr ⟨g, rfl, (h.lt g rfl).2, fun i hi => ?_⟩
    have hx : l[i]? = some l[i] := List.getElem?_eq_getElem hi
    obtain ⟨h1, h2, h3⟩ := pcs_get l i l[i] hx
    have e : l.getD i (0, 0, 0) = l[i] := by rw [List.getD_eq_getElem?_getD, hx]; rfl
    unfold gV gA gP
    rw [e]
    exact ⟨(h.cellAt (i * 3) (by omega)).trans h1, (h.cellAt (i * 3 + 1) (by omega)).trans h2, (h.cellAt (i * 3 + 2) (by omega)).trans h3⟩
theorem page_info : ∃ i z, Try.prog.info? 33 = some i ∧ i.zero = some z ∧ i.size = 3 ∧ i.bytes = 24 ∧ z.cells.size = 3 := info_of 33 3 24 (by kernel_rfl) (by kernel_rfl)
theorem erase_same (l : List Pg) (i : Nat) : (l.take (i + 1)).eraseIdx i = (l.take i).eraseIdx i := by
  by_cases h : i < l.length
  · rw [List.take_add_one, List.getElem?_eq_getElem h, List.eraseIdx_append_of_length_le (by simp; omega)]
    have e1 : (List.take i l).length = i := by rw [List.length_take]; omega
    rw [e1, Nat.sub_self, List.eraseIdx_of_length_le (l := l.take i) (by omega)]
    simp
  · rw [List.take_of_length_le (by omega), List.take_of_length_le (by omega)]
theorem erase_next (l : List Pg) (i k : Nat) (x : Pg) (h : l[i]? = some x) (hk : i ≠ k) : (l.take (i + 1)).eraseIdx k = (l.take i).eraseIdx k ++ [x] := by
  have hi : i < l.length := (List.getElem?_eq_some_iff.1 h).1
  have e1 : (List.take i l).length = i := by rw [List.length_take]; omega
  rw [List.take_add_one, h]
  by_cases hlt : k < i
  · rw [List.eraseIdx_append_of_lt_length (by omega)]
    rfl
  · rw [List.eraseIdx_append_of_length_le (by omega), List.eraseIdx_of_length_le (l := l.take i) (by omega), e1]
    rw [List.eraseIdx_of_length_le (by simp; omega)]
    rfl
theorem three_new (w : World) (a b c : Value) (t : TypeId) : ∀ j u, [a, b, c][j]? = some u → (w.alloc (.cells #[a, b, c] t)).cell? ((⟨w.heap.size, 0, .none⟩ : Addr).add j) = some u := by
  have e0 : (w.alloc (.cells #[a, b, c] t)).cell? ⟨w.heap.size, 0, .none⟩ = some a := by simp
  have e1 : (w.alloc (.cells #[a, b, c] t)).cell? ⟨w.heap.size, 1, .none⟩ = some b := by simp
  have e2 : (w.alloc (.cells #[a, b, c] t)).cell? ⟨w.heap.size, 2, .none⟩ = some c := by simp
  intro j u hj
  match j, hj with
  | 0, hj => simp only [List.getElem?_cons_zero, Option.some.injEq] at hj; subst hj; exact e0
  | 1, hj => simp only [List.getElem?_cons_succ, List.getElem?_cons_zero, Option.some.injEq] at hj; subst hj; exact e1
  | 2, hj => simp only [List.getElem?_cons_succ, List.getElem?_cons_zero, Option.some.injEq] at hj; subst hj; exact e2
  | j + 3, hj => simp at hj
set_option maxRecDepth 100000 in
set_option maxHeartbeats 1000000 in
theorem without_any {w : World} {X c : Nat} {q : Option Addr} {l : List Pg} (h : PgR w X (.slice q l.length c) l) (hn : l.length ≤ 1000000) (k : Nat) : Calls Try.prog 24 #[.slice q l.length c, .int .i64 k] w fun e w' => ∃ v, e = .returned v ∧ PgR w' w.heap.size v (l.eraseIdx k) ∧ Below w.heap.size w w' := by
  have hsee := h.see
  clear h
  obtain ⟨i3, z3, hi3, hz3, hs3, hb3, hzs3⟩ := page_info
  obtain ⟨n, hnl⟩ : ∃ n, n = l.length := ⟨_, rfl⟩
  rw [← hnl] at hsee hn ⊢
  have HNL : Hid (n = l.length) := hnl
  clear hnl
  go_enter Try.func24, Try.ntmps24
  go_wp2
  go_loopw [5, 6] (fun u v wr => ∃ (i : Nat) (r : Value), i ≤ n ∧ v = .int .i64 i ∧ u = r ∧ Hid (PgR wr w.heap.size r ((l.take i).eraseIdx k) ∧ Below w.heap.size w wr)) (fun _ v _ => (n - intOf v).toNat)
  case atStart => exact ⟨0, _, by omega, rfl, rfl, by simpa [PgR, pcs] using World.ownsRow_nil _ _ _ _, Below.refl _ _⟩
  case round =>
    obtain ⟨i, u, hi, rfl, hu, HB⟩ := hrel
    have hu' := hu.symm
    clear hu
    subst hu'
    by_cases hin : i < n
    · have i1 : (i : Int) < n := by omega
      obtain ⟨g, rfl, hg, hr⟩ : ∃ g, q = some ⟨g, 0, .none⟩ ∧ g < w.heap.size ∧ ∀ i, i < n → w.cell? ⟨g, i * 3, .none⟩ = some (.int .u64 (gV l i)) ∧ w.cell? ⟨g, i * 3 + 1, .none⟩ = some (.int .u64 (gA l i)) ∧ w.cell? ⟨g, i * 3 + 2, .none⟩ = some (.int .u64 (gP l i)) := by
        rcases hsee with h | h
        · omega
        · exact h
      have k0 := (HB.out.2.cell (p := ⟨g, i * 3, .none⟩) hg).trans (hr i hin).1
      have k1 := (HB.out.2.cell (p := ⟨g, i * 3 + 1, .none⟩) hg).trans (hr i hin).2.1
      have k2 := (HB.out.2.cell (p := ⟨g, i * 3 + 2, .none⟩) hg).trans (hr i hin).2.2
      clear hr hsee
      by_cases hik : i = k
      · subst hik
        have HQ : Hid (PgR wr w.heap.size u ((l.take (i + 1)).eraseIdx i)) := by
          show PgR wr w.heap.size u ((l.take (i + 1)).eraseIdx i)
          rw [erase_same]
          exact HB.out.1
        go_wp2
        exact ⟨⟨i + 1, _, by omega, by go_num, rfl, HQ.out, HB.out.2⟩, by simp [intOf]; omega⟩
      · have i2 : ((i : Int) == k) = false := by simpa using (by omega : ¬ (i : Int) = k)
        have hx : l[i]? = some (gV l i, gA l i, gP l i) := by
          have := HNL.out
          unfold gV gA gP
          rw [List.getD_eq_getElem?_getD, List.getElem?_eq_getElem (by omega)]
          rfl
        have HE : Hid ((l.take (i + 1)).eraseIdx k = (l.take i).eraseIdx k ++ [(gV l i, gA l i, gP l i)]) := erase_next l i k _ hx hik
        obtain ⟨x0, e0⟩ : ∃ x, x = gV l i := ⟨_, rfl⟩
        obtain ⟨x1, e1⟩ : ∃ x, x = gA l i := ⟨_, rfl⟩
        obtain ⟨x2, e2⟩ : ∃ x, x = gP l i := ⟨_, rfl⟩
        rw [← e0, ← e1, ← e2] at HE
        rw [← e0] at k0
        rw [← e1] at k1
        rw [← e2] at k2
        clear hx e0 e1 e2
        obtain ⟨qa, ca, rfl⟩ := HB.out.1.shape
        have hal : ((l.take i).eraseIdx k).length ≤ i := by
          have h1 := List.length_eraseIdx_le (l.take i) k
          rw [List.length_take] at h1
          omega
        generalize hacc : (l.take i).eraseIdx k = acc at *
        have HB' : Hid (PgR wr w.heap.size (.slice qa acc.length ca) acc ∧ Below w.heap.size w wr) := HB
        obtain ⟨na, hna⟩ : ∃ na, na = acc.length := ⟨_, rfl⟩
        have HRow : Hid (∀ o, (wr.alloc o).ownsRow w.heap.size 33 3 (.slice qa na ca) na (pcs acc)) := fun o => by rw [hna]; exact World.ownsRow.alloc HB'.out.1 o
        rw [← hna] at hal ⊢
        have HNA : Hid (na = acc.length) := hna
        clear HB hna hacc
        go_wp2_with (first | (at_builtin; refine wpList_append_own _ rfl _ _ 61 rfl w.heap.size 33 i3 z3 3 24 Try.underlying61 hi3 hz3 hs3 hb3 hzs3 (by decide) _ na (pcs acc) rfl (HRow.out _) ⟨wr.heap.size, 0, .none⟩ 1 1 [.int .u64 x0, .int .u64 x1, .int .u64 x2] rfl rfl (three_new _ _ _ _ _) (by simp [Value.oneCell']) (by unfold maxLen; omega) (by omega) (by simp only [World.size_alloc]; exact Nat.le_succ_of_le HB'.out.2.size) ?_; intro v' w5 hown5 hgrow _) | fail)
        have hBA : Below w.heap.size w (wr.alloc (.cells #[.int .u64 x0, .int .u64 x1, .int .u64 x2] 33)) := HB'.out.2.alloc HB'.out.2.size _
        have hB5 : Below w.heap.size w w5 := hBA.grown hgrow hBA.size (fun k hk => ((HRow.out (.cells #[.int .u64 x0, .int .u64 x1, .int .u64 x2] 33)).lt k hk).1)
        refine ⟨⟨i + 1, v', by omega, by go_num, rfl, ?_, hB5⟩, by simp [intOf]; omega⟩
        rw [HE.out]
        unfold PgR
        rw [pcs_app, List.length_append, ← HNA.out]
        exact hown5
    · have i1 : ¬ (i : Int) < n := by omega
      obtain rfl : i = n := by omega
      have HQ : Hid (PgR wr w.heap.size u (l.eraseIdx k)) := by
        have := HB.out.1
        rw [HNL.out, List.take_length] at this
        exact this
      clear hsee
      go_wp2
      go_ret
      exact ⟨_, rfl, HQ.out, HB.out.2⟩
end Go.Proofs.Ytncjmlndjnfncaa
namespace Go.Proofs.Ytncjmlndjnfncaa
open Go Go.RowKit
set_option linter.unusedVariables false
set_option linter.unusedSimpArgs false
/-- A page that may be laid down. -/
def okP (x : Pg) : Prop := (0 ≤ x.1 ∧ x.1 < 274877906944 ∧ x.1 % 4096 = 0) ∧ (0 ≤ x.2.1 ∧ x.2.1 < 72057594037927936 ∧ x.2.1 % 4096 = 0) ∧ (0 ≤ x.2.2 ∧ x.2.2 < 256 ∧ x.2.2 % 2 = 0) ∧ kd (toP x.2.1 x.2.2) 0 = 2
theorem okP.ne {x : Pg} (h : okP x) : toP x.2.1 x.2.2 ≠ 0 := fun e => by
  have := h.2.2.2
  rw [e, kd_zero] at this
  omega
/-- A table has just these pages, and no node without one. -/
structure TL (F : Nat → Option Nat) (lf : Nat → Nat → Int) (l : List Pg) : Prop where
  ok : ∀ x ∈ l, okP x
  uniq : ∀ x ∈ l, ∀ y ∈ l, x.1 = y.1 → x = y
  leaf : ∀ x ∈ l, lf (y0 x.1) (i0 x.1) = toP x.2.1 x.2.2
  only : ∀ y k, 513 ≤ y → k < 512 → lf y k ≠ 0 → ∃ x ∈ l, y = y0 x.1 ∧ k = i0 x.1
  n0 : ∀ y, 513 ≤ y → F y ≠ none → ∃ k, k < 512 ∧ lf y k ≠ 0
  n1 : ∀ x, 1 ≤ x → x ≤ 512 → F x ≠ none → ∃ d, d < 512 ∧ F (ch x d) ≠ none
theorem TL.init (r : Nat) : TL (fun x => if x = 0 then some r else none) (fun _ _ => 0) [] :=
  ⟨fun x h => by simp at h, fun x h => by simp at h, fun x h => by simp at h, fun y k _ _ h => absurd rfl h, fun y hy h => by simp [show y ≠ 0 by omega] at h, fun x hx _ h => by simp [show x ≠ 0 by omega] at h⟩
/-- Two addresses of one place are one. -/
theorem va_inj {a c : Int} (ha : 0 ≤ a ∧ a < 274877906944 ∧ a % 4096 = 0) (hc : 0 ≤ c ∧ c < 274877906944 ∧ c % 4096 = 0) (h1 : y0 a = y0 c) (h2 : i0 a = i0 c) : a = c := by
  obtain ⟨h3, h4⟩ := ch_inj (y1_le a).1 (y1_le c).1 (i1_lt a) (i1_lt c) h1
  obtain ⟨_, h5⟩ := ch_inj (by omega) (by omega) (i2_lt a) (i2_lt c) h3
  have b0 := ix_b a 0
  have b1 := ix_b a 1
  have b2 := ix_b a 2
  have d0 := ix_b c 0
  have d1 := ix_b c 1
  have d2 := ix_b c 2
  unfold i0 at h2
  unfold i1 at h4
  unfold i2 at h5
  have e0 : ix a 0 = ix c 0 := by omega
  have e1 : ix a 1 = ix c 1 := by omega
  have e2 : ix a 2 = ix c 2 := by omega
  simp only [ix, spn0, spn1, show spn 2 = 1073741824 from rfl] at e0 e1 e2
  omega
section
variable {N : Nat} {L L' : List Nat} {B B' : Nat → Int} {F F' : Nat → Option Nat} {lf lf' : Nat → Nat → Int} {l : List Pg}
theorem TL.map {x : Pg} (h : TL F lf l) (hx : okP x) (hn : ∀ y ∈ l, y.1 ≠ x.1) (hl : LP N x.1 (toP x.2.1 x.2.2) L B F lf L' B' F') : TL F' (setE lf (y0 x.1) (i0 x.1) (toP x.2.1 x.2.2)) (l ++ [x]) := by
  have hy0 := y0_ge x.1
  have hy1 := y1_le x.1
  have hne := hx.ne
  refine ⟨fun y hy => ?_, fun y hy z hz e => ?_, fun y hy => ?_, fun y k h1 h2 h3 => ?_, fun y h1 h2 => ?_, fun y h0 h1 h2 => ?_⟩
  · rcases List.mem_append.1 hy with h1 | h1
    · exact h.ok y h1
    · rw [List.mem_singleton.1 h1]; exact hx
  · rcases List.mem_append.1 hy with h1 | h1 <;> rcases List.mem_append.1 hz with h2 | h2
    · exact h.uniq y h1 z h2 e
    · rw [List.mem_singleton.1 h2] at e; exact absurd e (hn y h1)
    · rw [List.mem_singleton.1 h1] at e; exact absurd e.symm (hn z h2)
    · rw [List.mem_singleton.1 h1, List.mem_singleton.1 h2]
  · unfold setE
    rcases List.mem_append.1 hy with h1 | h1
    · rw [if_neg (fun e => hn y h1 (va_inj (h.ok y h1).1 hx.1 e.1 e.2))]
      exact h.leaf y h1
    · rw [List.mem_singleton.1 h1, if_pos ⟨rfl, rfl⟩]
  · unfold setE at h3
    by_cases e : y = y0 x.1 ∧ k = i0 x.1
    · exact ⟨x, List.mem_append_right _ (List.mem_singleton.2 rfl), e.1, e.2⟩
    · rw [if_neg e] at h3
      obtain ⟨z, hz, e1, e2⟩ := h.only y k h1 h2 h3
      exact ⟨z, List.mem_append_left _ hz, e1, e2⟩
  · by_cases e : y = y0 x.1
    · exact ⟨i0 x.1, i0_lt _, by unfold setE; rw [if_pos ⟨e, rfl⟩]; exact hne⟩
    · cases hf : F' y with
      | none => exact absurd hf h2
      | some f =>
        rcases hl.new y f hf with h3 | ⟨_, _, h3⟩
        · obtain ⟨k, hk, h4⟩ := h.n0 y h1 (by rw [h3]; simp)
          exact ⟨k, hk, by unfold setE; rw [if_neg (fun e2 => e e2.1)]; exact h4⟩
        · omega
  · cases hf : F' y with
    | none => exact absurd hf h2
    | some f =>
      rcases hl.new y f hf with h3 | ⟨_, _, h3⟩
      · obtain ⟨d, hd, h4⟩ := h.n1 y h0 h1 (by rw [h3]; simp)
        refine ⟨d, hd, fun e => ?_⟩
        cases hc : F (ch y d) with
        | none => exact h4 hc
        | some g => rw [hl.ext _ g hc] at e; cases e
      · have e1 : y = y1 x.1 := by omega
        obtain ⟨g, q, _, h5⟩ := hl.has
        refine ⟨i1 x.1, i1_lt _, ?_⟩
        rw [e1, show ch (y1 x.1) (i1 x.1) = y0 x.1 from rfl, h5]
        simp
theorem TL.unmap {x : Pg} {q g : Nat} {lm : List Pg} (h : TL F lf l) (hx : x ∈ l) (hm : ∀ y, y ∈ lm ↔ y ∈ l ∧ y ≠ x) (hr : PrR L F (setE lf (y0 x.1) (i0 x.1) 0) x.1 q g L' F' lf') : TL F' lf' lm := by
  have hy0 := y0_ge x.1
  have hy1 := y1_le x.1
  have hlf : ∀ y k, 513 ≤ y → k < 512 → lf' y k = setE lf (y0 x.1) (i0 x.1) 0 y k := fun y k h1 h2 => by
    rcases hr with ⟨_, _, rfl, _⟩ | ⟨_, _, rfl, hz, _⟩ | ⟨_, _, rfl, hz, _⟩
    · rfl
    · unfold clrE
      split
      · next e => rw [e]; exact (hz k h2).symm
      · rfl
    · unfold clrE
      rw [if_neg (by omega)]
      split
      · next e => rw [e]; exact (hz k h2).symm
      · rfl
  refine ⟨fun y hy => h.ok y ((hm y).1 hy).1, fun y hy z hz e => h.uniq y ((hm y).1 hy).1 z ((hm z).1 hz).1 e, fun y hy => ?_, fun y k h1 h2 h3 => ?_, fun y h1 h2 => ?_, fun y h0 h1 h2 => ?_⟩
  · obtain ⟨h1, h2⟩ := (hm y).1 hy
    rw [hlf _ _ (y0_ge _) (i0_lt _)]
    unfold setE
    rw [if_neg (fun e => h2 (h.uniq y h1 x hx (va_inj (h.ok y h1).1 (h.ok x hx).1 e.1 e.2)))]
    exact h.leaf y h1
  · rw [hlf y k h1 h2] at h3
    unfold setE at h3
    by_cases e : y = y0 x.1 ∧ k = i0 x.1
    · rw [if_pos e] at h3; exact absurd rfl h3
    · rw [if_neg e] at h3
      obtain ⟨z, hz, e1, e2⟩ := h.only y k h1 h2 h3
      exact ⟨z, (hm z).2 ⟨hz, fun e3 => e (by rw [e1, e2, e3]; exact ⟨rfl, rfl⟩)⟩, e1, e2⟩
  · have key : y ≠ y0 x.1 → F y ≠ none → ∃ k, k < 512 ∧ lf' y k ≠ 0 := fun e h3 => by
      obtain ⟨k, hk, h4⟩ := h.n0 y h1 h3
      refine ⟨k, hk, ?_⟩
      rw [hlf y k h1 hk]
      unfold setE
      rw [if_neg (fun e2 => e e2.1)]
      exact h4
    rcases hr with ⟨_, rfl, rfl, hz⟩ | ⟨_, rfl, rfl, hz, _⟩ | ⟨_, rfl, rfl, hz, _⟩
    · by_cases e : y = y0 x.1
      · subst e
        refine Classical.byContradiction fun hc => hz fun k hk => Classical.byContradiction fun h5 => hc ⟨k, hk, h5⟩
      · exact key e h2
    · by_cases e : y = y0 x.1
      · rw [e] at h2; unfold setN at h2; rw [if_pos rfl] at h2; exact absurd rfl h2
      · unfold setN at h2; rw [if_neg e] at h2; exact key e h2
    · by_cases e : y = y0 x.1
      · rw [e] at h2; unfold setN at h2; rw [if_neg (by omega), if_pos rfl] at h2; exact absurd rfl h2
      · unfold setN at h2; rw [if_neg (by omega), if_neg e] at h2; exact key e h2
  · rcases hr with ⟨_, rfl, rfl, hz⟩ | ⟨_, rfl, rfl, hz, hd⟩ | ⟨_, rfl, rfl, hz, hd⟩
    · exact h.n1 y h0 h1 h2
    · by_cases e : y = y1 x.1
      · subst e
        refine Classical.byContradiction fun hc => hd fun d hd2 => Classical.byContradiction fun h5 => hc ⟨d, hd2, h5⟩
      · have h3 : F y ≠ none := by unfold setN at h2; rwa [if_neg (by omega)] at h2
        obtain ⟨d, hd2, h4⟩ := h.n1 y h0 h1 h3
        refine ⟨d, hd2, ?_⟩
        unfold setN
        rw [if_neg (show ¬ ch y d = y0 x.1 from fun e2 => e (ch_inj h1 hy1.1 hd2 (i1_lt _) e2).1)]
        exact h4
    · by_cases e : y = y1 x.1
      · rw [e] at h2; unfold setN at h2; rw [if_pos rfl] at h2; exact absurd rfl h2
      · have h3 : F y ≠ none := by unfold setN at h2; rwa [if_neg e, if_neg (by omega)] at h2
        obtain ⟨d, hd2, h4⟩ := h.n1 y h0 h1 h3
        refine ⟨d, hd2, ?_⟩
        unfold setN
        rw [if_neg (fun e2 => by have := e2; unfold ch at this; rw [if_neg (by omega)] at this; omega), if_neg (show ¬ ch y d = y0 x.1 from fun e2 => e (ch_inj h1 hy1.1 hd2 (i1_lt _) e2).1)]
        exact h4
end
end Go.Proofs.Ytncjmlndjnfncaa
namespace Go.Proofs.Ytncjmlndjnfncaa
open Go Go.RowKit
set_option linter.unusedVariables false
set_option linter.unusedSimpArgs false
/-- How many numbers below M have it. -/
def cnt (M : Nat) (p : Nat → Bool) : Nat := (List.range M).countP p
theorem cnt_succ (M : Nat) (p : Nat → Bool) : cnt (M + 1) p = cnt M p + if p M = true then 1 else 0 := by
  unfold cnt
  rw [List.range_succ, List.countP_append, List.countP_singleton]
theorem cnt_ext {M : Nat} {p q : Nat → Bool} (h : ∀ v, v < M → p v = q v) : cnt M p = cnt M q := by
  induction M with
  | zero => rfl
  | succ M ih => rw [cnt_succ, cnt_succ, ih (fun v hv => h v (by omega)), h M (by omega)]
theorem cnt_add {M v0 : Nat} {p q : Nat → Bool} (hv : v0 < M) (h0 : p v0 = false) (h1 : q v0 = true) (h : ∀ v, v < M → v ≠ v0 → q v = p v) : cnt M q = cnt M p + 1 := by
  induction M with
  | zero => omega
  | succ M ih =>
    rw [cnt_succ, cnt_succ]
    by_cases e : v0 = M
    · subst e
      rw [h0, h1, cnt_ext (fun v hv => h v (by omega) (by omega))]
      simp
    · rw [ih (by omega) (fun v hv hne => h v (by omega) hne), h M (by omega) (fun e2 => e e2.symm)]
      omega
theorem cnt_zero (M : Nat) : cnt M (fun _ => false) = 0 := by
  induction M with
  | zero => rfl
  | succ M ih => rw [cnt_succ, ih]; simp
/-- The parts are counted by their numbers. -/
theorem prt_cnt (V : Nat → Int) (s : Int) (M : Nat) : ∀ n, (∀ i, i < n → 0 ≤ V i / s ∧ V i / s < M) → prt V s n = cnt M (fun v => decide (∃ i : Nat, i < n ∧ V i / s = (v : Int)))
  | 0, h => by
    have : (fun v : Nat => decide (∃ i : Nat, i < 0 ∧ V i / s = (v : Int))) = fun _ => false := by
      funext v
      exact decide_eq_false (fun ⟨i, hi, _⟩ => by omega)
    rw [this, cnt_zero]
    rfl
  | n + 1, h => by
    have ih := prt_cnt V s M n (fun i hi => h i (by omega))
    have hb := h n (by omega)
    unfold prt
    rw [ih]
    by_cases hd : ∀ k, k < n → V k / s ≠ V n / s
    · rw [if_pos hd]
      refine (cnt_add (v0 := (V n / s).toNat) (by omega) ?_ ?_ (fun v hv hne => ?_)).symm
      · exact decide_eq_false (fun ⟨i, hi, e⟩ => hd i hi (by omega))
      · exact decide_eq_true ⟨n, by omega, by omega⟩
      · refine decide_eq_decide.2 ⟨fun ⟨i, hi, e⟩ => ⟨i, ?_, e⟩, fun ⟨i, hi, e⟩ => ⟨i, by omega, e⟩⟩
        by_cases e2 : i = n
        · subst e2; omega
        · omega
    · rw [if_neg hd, Nat.add_zero]
      refine cnt_ext fun v hv => decide_eq_decide.2 ⟨fun ⟨i, hi, e⟩ => ⟨i, by omega, e⟩, fun ⟨i, hi, e⟩ => ?_⟩
      by_cases e2 : i = n
      · subst e2
        obtain ⟨k, hk⟩ := Classical.not_forall.1 hd
        obtain ⟨hk1, hk2⟩ := Classical.not_imp.1 hk
        exact ⟨k, hk1, by rw [Classical.not_not.1 hk2]; exact e⟩
      · exact ⟨i, by omega, e⟩
end Go.Proofs.Ytncjmlndjnfncaa
namespace Go.Proofs.Ytncjmlndjnfncaa
open Go Go.RowKit
set_option linter.unusedVariables false
set_option linter.unusedSimpArgs false
attribute [local irreducible] eM
def isP (F : Nat → Option Nat) (lf : Nat → Nat → Int) (c : Nat) : Bool := ((ev F lf c).bind fun x => if x.p.k = 3 then some (adE x.p.e) else none).isSome
theorem ndl_len (r : Nat) (F : Nat → Option Nat) (lf : Nat → Nat → Int) : (ndl r (evs F lf 0)).length = 1 + cnt eM (isP F lf) := by
  unfold ndl evs cnt
  rw [List.length_cons, List.filterMap_filterMap, List.length_filterMap_eq_countP, Nat.sub_zero, ← List.range_eq_range']
  rw [Nat.add_comm]
  rfl
theorem nK_lt (x : Nat) (h0 : x ≠ 0) (h : x < 262657) : nK x < 402653184 := by
  unfold nK nP
  split <;> omega
theorem cnt_split (a b : Nat) (p : Nat → Bool) : cnt (a + b) p = cnt a p + cnt b (fun v => p (a + v)) := by
  induction b with
  | zero => rfl
  | succ b ih => rw [← Nat.add_assoc, cnt_succ, cnt_succ, ih]; omega
theorem cnt_split3 (a b c n : Nat) (h : n = a + b + c) (p : Nat → Bool) : cnt n p = cnt a p + cnt b (fun v => p (a + v)) + cnt c (fun v => p (a + b + v)) := by
  subst h
  rw [cnt_split, cnt_split]
section
variable {N : Nat} {L : List Nat} {B : Nat → Int} {F : Nat → Option Nat} {lf : Nat → Nat → Int}
theorem isP_iff (h : PT N L B F lf) (c : Nat) (hc : c < 402653184) : isP F lf c = true ↔ ∃ x, x < 262657 ∧ x ≠ 0 ∧ F x ≠ none ∧ nK x = c := by
  constructor
  · intro hp
    unfold isP ev at hp
    split at hp
    · next e =>
      split at hp
      · next e2 =>
        cases hf : F (x1 (c / 3)) with
        | none => rw [hf] at hp; simp at hp
        | some g => exact ⟨x1 (c / 3), h.dom _ (by rw [hf]; simp), by unfold x1; omega, by rw [hf]; simp, by rw [nK_1 _ (by omega)]; omega⟩
      · simp at hp
    · next e =>
      split at hp
      · next e1 =>
        split at hp
        · next e2 =>
          cases hf : F (x0 (c / 3)) with
          | none => rw [hf] at hp; simp at hp
          | some g => exact ⟨x0 (c / 3), h.dom _ (by rw [hf]; simp), by unfold x0; omega, by rw [hf]; simp, by rw [nK_0 _ (by omega)]; omega⟩
        · simp at hp
      · next e1 =>
        cases hf : F (x1 (c / 3)) with
        | none => rw [hf] at hp; simp at hp
        | some g =>
          cases hg : F (x0 (c / 3)) with
          | none => rw [hf, hg] at hp; simp at hp
          | some q =>
            rw [hf, hg] at hp
            simp only [Option.bind_some] at hp
            split at hp
            · simp at hp
            · simp at hp
  · rintro ⟨x, hx, h0, hf, rfl⟩
    cases hq : F x with
    | none => exact absurd hq hf
    | some f =>
      have hne := ev_node (lf := lf) h h0 hq
      have hmod := nK_mod x
      unfold isP
      unfold ev at hne ⊢
      split
      · next e =>
        rw [if_pos e] at hne
        split
        · next e2 =>
          rw [if_pos e2] at hne
          cases hg : F (x1 (nK x / 3)) with
          | none => rw [hg] at hne; simp at hne
          | some g => simp
        · next e2 => rw [if_neg e2] at hne; exact absurd rfl hne
      · next e =>
        rw [if_neg e] at hne
        split
        · next e1 =>
          rw [if_pos e1] at hne
          split
          · next e2 =>
            rw [if_pos e2] at hne
            cases hg : F (x1 (nK x / 3)) with
            | none => rw [hg] at hne; simp at hne
            | some g =>
              rw [hg] at hne
              cases hk : F (x0 (nK x / 3)) with
              | none => rw [hk] at hne; simp at hne
              | some q => simp
          · next e2 => rw [if_neg e2] at hne; exact absurd rfl hne
        · next e1 => omega
theorem cnt_nodes (F : Nat → Option Nat) : ∀ m, m ≤ 262657 → cnt 402653184 (fun c => decide (∃ x : Nat, x < m ∧ x ≠ 0 ∧ F x ≠ none ∧ nK x = c)) = cnt m (fun x => decide (x ≠ 0 ∧ F x ≠ none))
  | 0, _ => by
    have : (fun c : Nat => decide (∃ x : Nat, x < 0 ∧ x ≠ 0 ∧ F x ≠ none ∧ nK x = c)) = fun _ => false := by
      funext c
      exact decide_eq_false (fun ⟨i, hi, _⟩ => by omega)
    rw [this, cnt_zero]
    rfl
  | m + 1, hm => by
    have ih := cnt_nodes F m (by omega)
    rw [cnt_succ m, ← ih]
    by_cases e : m ≠ 0 ∧ F m ≠ none
    · rw [if_pos (decide_eq_true e)]
      refine cnt_add (v0 := nK m) (nK_lt m e.1 (by omega)) ?_ ?_ (fun v hv hne => ?_)
      · exact decide_eq_false (fun ⟨x, hx, h0, _, e2⟩ => by have := nK_inj h0 e.1 e2; omega)
      · exact decide_eq_true ⟨m, by omega, e.1, e.2, rfl⟩
      · refine decide_eq_decide.2 ⟨fun ⟨x, hx, h1⟩ => ⟨x, ?_, h1⟩, fun ⟨x, hx, h1⟩ => ⟨x, by omega, h1⟩⟩
        by_cases e2 : x = m
        · subst e2; exact absurd h1.2.2.symm hne
        · omega
    · rw [if_neg (by simpa using e)]
      refine Eq.trans (cnt_ext fun v hv => decide_eq_decide.2 ⟨fun ⟨x, hx, h1⟩ => ⟨x, ?_, h1⟩, fun ⟨x, hx, h1⟩ => ⟨x, by omega, h1⟩⟩) (Nat.add_zero _).symm
      by_cases e2 : x = m
      · subst e2; exact absurd ⟨h1.1, h1.2.1⟩ e
      · omega
/-- The nodes of a table, counted by their numbers. -/
theorem ndl_nodes (h : PT N L B F lf) (r : Nat) : (ndl r (evs F lf 0)).length = 1 + cnt 512 (fun v => decide (F (1 + v) ≠ none)) + cnt 262144 (fun v => decide (F (513 + v) ≠ none)) := by
  have a0 : cnt eM (isP F lf) = cnt 402653184 (isP F lf) := congrArg (fun n => cnt n (isP F lf)) eM_val
  have a1 : cnt 402653184 (isP F lf) = cnt 402653184 (fun c => decide (∃ x : Nat, x < 262657 ∧ x ≠ 0 ∧ F x ≠ none ∧ nK x = c)) := cnt_ext fun c hc => by
    have := isP_iff h c hc
    cases hb : isP F lf c with
    | true => exact (decide_eq_true (this.1 hb)).symm
    | false => exact (decide_eq_false (fun e => by rw [this.2 e] at hb; cases hb)).symm
  have a2 := cnt_nodes F 262657 (Nat.le_refl _)
  have a3 := cnt_split3 1 512 262144 262657 (by omega) (fun x => decide (x ≠ 0 ∧ F x ≠ none))
  have a4 := ndl_len r F lf
  have e1 : cnt 1 (fun x => decide (x ≠ 0 ∧ F x ≠ none)) = 0 := by simp [cnt]
  have e2 : cnt 512 (fun v => decide (1 + v ≠ 0 ∧ F (1 + v) ≠ none)) = cnt 512 (fun v => decide (F (1 + v) ≠ none)) := cnt_ext fun v hv => decide_eq_decide.2 ⟨fun e => e.2, fun e => ⟨by omega, e⟩⟩
  have e3 : cnt 262144 (fun v => decide (1 + 512 + v ≠ 0 ∧ F (1 + 512 + v) ≠ none)) = cnt 262144 (fun v => decide (F (513 + v) ≠ none)) := cnt_ext fun v hv => decide_eq_decide.2 ⟨fun e => e.2, fun e => ⟨by omega, e⟩⟩
  rw [a4, a0, a1, a2, a3, e1, e2, e3, Nat.zero_add, Nat.add_assoc]
end
end Go.Proofs.Ytncjmlndjnfncaa
namespace Go.Proofs.Ytncjmlndjnfncaa
open Go Go.RowKit
set_option linter.unusedVariables false
set_option linter.unusedSimpArgs false
theorem y1_val (va : Int) (h : 0 ≤ va ∧ va < 274877906944) : y1 va = 1 + (va / 1073741824).toNat := by
  unfold y1 i2 ch ix
  rw [show spn 2 = 1073741824 from rfl]
  simp only [if_true]
  omega
theorem y0_val (va : Int) (h : 0 ≤ va ∧ va < 274877906944) : y0 va = 513 + (va / 2097152).toNat := by
  have h1 := y1_val va h
  unfold y0 i1 ix
  rw [h1, spn1]
  unfold ch
  rw [if_neg (by omega)]
  omega
theorem mem_idx (l : List Pg) (P : Int → Prop) : (∃ i, i < l.length ∧ P (gV l i)) ↔ ∃ x ∈ l, P x.1 := by
  constructor
  · rintro ⟨i, hi, h⟩
    refine ⟨l[i], List.getElem_mem hi, ?_⟩
    unfold gV at h
    rw [List.getD_eq_getElem?_getD, List.getElem?_eq_getElem hi] at h
    exact h
  · rintro ⟨x, hx, h⟩
    obtain ⟨i, hi, rfl⟩ := List.getElem_of_mem hx
    refine ⟨i, hi, ?_⟩
    unfold gV
    rw [List.getD_eq_getElem?_getD, List.getElem?_eq_getElem hi]
    exact h
section
variable {N : Nat} {L : List Nat} {B : Nat → Int} {F : Nat → Option Nat} {lf : Nat → Nat → Int} {l : List Pg}
theorem TL.has0 (h : TL F lf l) (hP : PT N L B F lf) (v : Nat) : F (513 + v) ≠ none ↔ ∃ x ∈ l, x.1 / 2097152 = v := by
  constructor
  · intro hf
    obtain ⟨k, hk, hz⟩ := h.n0 (513 + v) (by omega) hf
    obtain ⟨x, hx, e, _⟩ := h.only (513 + v) k (by omega) hk hz
    have := (h.ok x hx).1
    rw [y0_val x.1 ⟨this.1, this.2.1⟩] at e
    exact ⟨x, hx, by omega⟩
  · rintro ⟨x, hx, e⟩
    have := (h.ok x hx).1
    obtain ⟨g, q, _, hq⟩ := hP.way x.1 (by rw [h.leaf x hx]; exact (h.ok x hx).ne)
    rw [y0_val x.1 ⟨this.1, this.2.1⟩, show (x.1 / 2097152).toNat = v by omega] at hq
    rw [hq]
    simp
theorem TL.has1 (h : TL F lf l) (hP : PT N L B F lf) (v : Nat) (hv : v < 512) : F (1 + v) ≠ none ↔ ∃ x ∈ l, x.1 / 1073741824 = v := by
  constructor
  · intro hf
    obtain ⟨d, hd, hc⟩ := h.n1 (1 + v) (by omega) (by omega) hf
    have hge : 513 ≤ ch (1 + v) d := by unfold ch; rw [if_neg (by omega)]; omega
    obtain ⟨k, hk, hz⟩ := h.n0 _ hge hc
    obtain ⟨x, hx, e, _⟩ := h.only _ k hge hk hz
    have := (h.ok x hx).1
    have e2 := (ch_inj (by omega) (y1_le x.1).1 hd (i1_lt _) e).1
    rw [y1_val x.1 ⟨this.1, this.2.1⟩] at e2
    exact ⟨x, hx, by omega⟩
  · rintro ⟨x, hx, e⟩
    have := (h.ok x hx).1
    obtain ⟨g, q, hg, _⟩ := hP.way x.1 (by rw [h.leaf x hx]; exact (h.ok x hx).ne)
    rw [y1_val x.1 ⟨this.1, this.2.1⟩, show (x.1 / 1073741824).toNat = v by omega] at hg
    rw [hg]
    simp
/-- P4.10: how many nodes a table has. -/
theorem TL.nodes (h : TL F lf l) (hP : PT N L B F lf) (r : Nat) : (ndl r (evs F lf 0)).length = 1 + prt (gV l) 1073741824 l.length + prt (gV l) 2097152 l.length := by
  have hb : ∀ i, i < l.length → 0 ≤ gV l i ∧ gV l i < 274877906944 := fun i hi => by
    unfold gV
    rw [List.getD_eq_getElem?_getD, List.getElem?_eq_getElem hi]
    have := (h.ok l[i] (List.getElem_mem hi)).1
    exact ⟨this.1, this.2.1⟩
  have p1 := prt_cnt (gV l) 1073741824 512 l.length (fun i hi => by have := hb i hi; omega)
  have p0 := prt_cnt (gV l) 2097152 262144 l.length (fun i hi => by have := hb i hi; omega)
  have q1 : cnt 512 (fun v => decide (F (1 + v) ≠ none)) = cnt 512 (fun v => decide (∃ i : Nat, i < l.length ∧ gV l i / 1073741824 = (v : Int))) := cnt_ext fun v hv => decide_eq_decide.2 ((h.has1 hP v hv).trans (mem_idx l (fun a => a / 1073741824 = (v : Int))).symm)
  have q0 : cnt 262144 (fun v => decide (F (513 + v) ≠ none)) = cnt 262144 (fun v => decide (∃ i : Nat, i < l.length ∧ gV l i / 2097152 = (v : Int))) := cnt_ext fun v hv => decide_eq_decide.2 ((h.has0 hP v).trans (mem_idx l (fun a => a / 2097152 = (v : Int))).symm)
  rw [ndl_nodes hP r, q1, q0, p1, p0]
end
end Go.Proofs.Ytncjmlndjnfncaa
namespace Go.Proofs.Ytncjmlndjnfncaa
open Go Go.RowKit
set_option linter.unusedVariables false
set_option linter.unusedSimpArgs false
/-- How many nodes a page wants. -/
def need (F : Nat → Option Nat) (va : Int) : Nat := if F (y1 va) = none then 2 else if F (y0 va) = none then 1 else 0
def nodesF (F : Nat → Option Nat) : Nat := cnt 512 (fun v => decide (F (1 + v) ≠ none)) + cnt 262144 (fun v => decide (F (513 + v) ≠ none))
theorem y0_lt (va : Int) : y0 va < 513 + 262144 := by
  have h1 := y1_le va
  have h2 := i1_lt va
  unfold y0 ch
  rw [if_neg (by omega)]
  omega
theorem nodes_y0 {F F' : Nat → Option Nat} {y : Nat} (hy : 513 ≤ y ∧ y < 513 + 262144) (h0 : F y = none) (h1 : F' y ≠ none) (h : ∀ z, z ≠ y → (F' z = none ↔ F z = none)) : nodesF F' = nodesF F + 1 := by
  unfold nodesF
  rw [cnt_ext (M := 512) (p := fun v => decide (F' (1 + v) ≠ none)) (q := fun v => decide (F (1 + v) ≠ none)) (fun v hv => decide_eq_decide.2 (not_congr (h _ (by omega)))),
    cnt_add (M := 262144) (v0 := y - 513) (p := fun v => decide (F (513 + v) ≠ none)) (q := fun v => decide (F' (513 + v) ≠ none)) (by omega) (by rw [show 513 + (y - 513) = y by omega]; simp [h0]) (by rw [show 513 + (y - 513) = y by omega]; simpa using h1) (fun v hv hne => decide_eq_decide.2 (not_congr (h _ (by omega))))]
  omega
theorem nodes_y1 {F F' : Nat → Option Nat} {y : Nat} (hy : 1 ≤ y ∧ y ≤ 512) (h0 : F y = none) (h1 : F' y ≠ none) (h : ∀ z, z ≠ y → (F' z = none ↔ F z = none)) : nodesF F' = nodesF F + 1 := by
  unfold nodesF
  rw [cnt_ext (M := 262144) (p := fun v => decide (F' (513 + v) ≠ none)) (q := fun v => decide (F (513 + v) ≠ none)) (fun v hv => decide_eq_decide.2 (not_congr (h _ (by omega)))),
    cnt_add (M := 512) (v0 := y - 1) (p := fun v => decide (F (1 + v) ≠ none)) (q := fun v => decide (F' (1 + v) ≠ none)) (by omega) (by rw [show 1 + (y - 1) = y by omega]; simp [h0]) (by rw [show 1 + (y - 1) = y by omega]; simpa using h1) (fun v hv hne => decide_eq_decide.2 (not_congr (h _ (by omega))))]
  omega
section
variable {N : Nat} {L L' : List Nat} {B B' : Nat → Int} {F F' : Nat → Option Nat} {lf lf' : Nat → Nat → Int}
theorem TL.nodesF {l : List Pg} (h : TL F lf l) (hP : PT N L B F lf) : nodesF F = prt (gV l) 1073741824 l.length + prt (gV l) 2097152 l.length := by
  have h1 := h.nodes hP 0
  have h2 := ndl_nodes hP 0
  unfold Go.Proofs.Ytncjmlndjnfncaa.nodesF
  omega
/-- The frames that a table takes: taking a page away. -/
theorem PrR.len {va : Int} {q g : Nat} (h : PrR L F lf va q g L' F' lf') (hg : F (y1 va) = some g) (hq : F (y0 va) = some q) : L'.length + nodesF F' = L.length + nodesF F := by
  have hy0 := y0_ge va
  have hy1 := y1_le va
  have hlt := y0_lt va
  have e1 : nodesF F = nodesF (setN F (y0 va)) + 1 := nodes_y0 (y := y0 va) ⟨hy0, hlt⟩ (by unfold setN; rw [if_pos rfl]) (by rw [hq]; simp) (fun z hz => by unfold setN; rw [if_neg hz])
  rcases h with ⟨rfl, rfl, _⟩ | ⟨rfl, rfl, _⟩ | ⟨rfl, rfl, _⟩
  · rfl
  · rw [List.length_cons]
    omega
  · have e2 : nodesF (setN F (y0 va)) = nodesF (setN (setN F (y0 va)) (y1 va)) + 1 := nodes_y1 (y := y1 va) ⟨hy1.2, hy1.1⟩ (by unfold setN; rw [if_pos rfl]) (by unfold setN; rw [if_neg (by omega), hg]; simp) (fun z hz => by
      show _ ↔ setN (setN F (y0 va)) (y1 va) z = none
      unfold setN
      rw [if_neg hz])
    rw [List.length_cons, List.length_cons]
    omega
/-- The frames that a table takes: laying a page down. -/
theorem LP.len {va leaf : Int} (h : LP N va leaf L B F lf L' B' F') (hP : PT N L B F lf) : nodesF F' = nodesF F + need F va := by
  have hy0 := y0_ge va
  have hy1 := y1_le va
  have hlt := y0_lt va
  obtain ⟨g, q, hg, hq⟩ := h.has
  have same : ∀ z, z ≠ y1 va → z ≠ y0 va → (F' z = none ↔ F z = none) := fun z h1 h2 => by
    constructor
    · intro e
      cases hf : F z with
      | none => rfl
      | some f => rw [h.ext z f hf] at e; cases e
    · intro e
      cases hf : F' z with
      | none => rfl
      | some f =>
        rcases h.new z f hf with h3 | ⟨_, _, h3⟩
        · rw [e] at h3; cases h3
        · omega
  unfold need
  cases e1 : F (y1 va) with
  | none =>
    have e0 : F (y0 va) = none := by
      cases hf : F (y0 va) with
      | none => rfl
      | some f => exact absurd e1 (hP.up (y1 va) (i1 va) hy1.1 (i1_lt va) (by rw [show ch (y1 va) (i1 va) = y0 va from rfl, hf]; simp))
    rw [if_pos rfl]
    have a1 : nodesF (setO F (y1 va) g) = nodesF F + 1 := nodes_y1 (y := y1 va) ⟨hy1.2, hy1.1⟩ e1 (by unfold setO; rw [if_pos rfl]; simp) (fun z hz => by unfold setO; rw [if_neg hz])
    have a2 : nodesF F' = nodesF (setO F (y1 va) g) + 1 := nodes_y0 (y := y0 va) ⟨hy0, hlt⟩ (by unfold setO; rw [if_neg (by omega)]; exact e0) (by rw [hq]; simp) (fun z hz => by
      unfold setO
      split
      · next e => rw [e, hg]
      · next e => exact same z e hz)
    omega
  | some g0 =>
    rw [if_neg (by simp)]
    have s1 : F' (y1 va) = some g0 := h.ext _ _ e1
    cases e0 : F (y0 va) with
    | none =>
      rw [if_pos rfl]
      exact nodes_y0 (y := y0 va) ⟨hy0, hlt⟩ e0 (by rw [hq]; simp) (fun z hz => by
        by_cases e : z = y1 va
        · rw [e, s1, e1]
        · exact same z e hz)
    | some q0 =>
      rw [if_neg (by simp)]
      have s0 : F' (y0 va) = some q0 := h.ext _ _ e0
      unfold nodesF
      have all : ∀ z, F' z = none ↔ F z = none := fun z => by
        by_cases e : z = y1 va
        · rw [e, s1, e1]
        · by_cases e2 : z = y0 va
          · rw [e2, s0, e0]
          · exact same z e e2
      rw [cnt_ext (M := 512) (p := fun v => decide (F' (1 + v) ≠ none)) (q := fun v => decide (F (1 + v) ≠ none)) (fun v hv => decide_eq_decide.2 (not_congr (all _))), cnt_ext (M := 262144) (p := fun v => decide (F' (513 + v) ≠ none)) (q := fun v => decide (F (513 + v) ≠ none)) (fun v hv => decide_eq_decide.2 (not_congr (all _)))]
      exact (Nat.add_zero _).symm
end
end Go.Proofs.Ytncjmlndjnfncaa
namespace Go.Proofs.Ytncjmlndjnfncaa
open Go Go.RowKit
set_option linter.unusedVariables false
set_option linter.unusedSimpArgs false
section
variable {w : World} {p b m N : Nat} {B : Nat → Int} {L : List Nat} {F : Nat → Option Nat} {lf : Nat → Nat → Int}
theorem look_need (h : PT N L B F lf) (hN : N ≤ 4096) {r : Nat} (hr : F 0 = some r) (va : Int) (hz : lf (y0 va) (i0 va) = 0) : (look N L B (ad r) va).k = 0 ∧ (look N L B (ad r) va).l = (need F va : Nat) := by
  unfold need
  cases h1 : F (y1 va) with
  | none =>
    rw [look_2 h hr va h1]
    simp
  | some g =>
    cases h0 : F (y0 va) with
    | none =>
      rw [look_1 h hN hr va h1 h0]
      simp
    | some q =>
      rw [look_0 h hN hr va h1 h0, hz]
      simp [kd_zero]
theorem look_full (h : PT N L B F lf) (hN : N ≤ 4096) {r : Nat} (hr : F 0 = some r) (va : Int) (hz : lf (y0 va) (i0 va) ≠ 0) : (look N L B (ad r) va).k = 2 ∧ (look N L B (ad r) va).l = 0 ∧ (look N L B (ad r) va).e = lf (y0 va) (i0 va) := by
  obtain ⟨g, q, h1, h0⟩ := h.way va hz
  rw [look_0 h hN hr va h1 h0]
  refine ⟨?_, rfl, rfl⟩
  rcases h.lv (y0 va) (i0 va) with h2 | h2
  · exact absurd h2 hz
  · exact h2.1
/-- P4.4 on a table. -/
theorem need_pt (h : Ram w p b m N B L) (hP : PT N L B F lf) {r : Nat} (hr : F 0 = some r) (va : Int) (hv : 0 ≤ va ∧ va < 274877906944 ∧ va % 4096 = 0) :
    Calls Try.prog 19 #[.pointer (some ⟨p, 0, .none⟩), .int .u64 (ad r), .int .u64 va] w fun e w' => e = .returned (.int .i64 (if lf (y0 va) (i0 va) = 0 then (need F va : Nat) else 0)) ∧ Below w.heap.size w w' := by
  have hN := h.mem.n2
  have hrN := hP.held 0 r hr
  have hrb : 0 ≤ ad r ∧ ad r < 18446744073709551616 := by unfold ad; omega
  refine (need_any h (ad r) va hrb ⟨hv.1, by omega⟩).mono fun e w' ⟨he, hb⟩ => ⟨?_, hb⟩
  rw [he]
  by_cases hz : lf (y0 va) (i0 va) = 0
  · obtain ⟨l1, l2⟩ := look_need hP hN hr va hz
    rw [if_pos hz, if_pos ⟨l1, hv.2.2, hv.2.1⟩, l2]
  · obtain ⟨l1, _⟩ := look_full hP hN hr va hz
    rw [if_neg hz, if_neg (fun e => by rw [l1] at e; omega)]
/-- P4.6 on a table, whole. -/
theorem map_full (h : Ram w p b m N B L) (hP : PT N L B F lf) {r : Nat} (hr : F 0 = some r) (x : Pg) (hx : okP x) (hmp : (!ho x.2.2 18446744073709551361 && ho x.2.2 10 && (!hs x.2.2 4 || hs x.2.2 2)) = true) :
    Calls Try.prog 11 #[.pointer (some ⟨p, 0, .none⟩), .int .u64 (ad r), .int .u64 x.1, .int .u64 x.2.1, .int .u64 x.2.2] w fun e w' =>
      (lf (y0 x.1) (i0 x.1) ≠ 0 ∧ e = .returned (.int .i64 84) ∧ Below w.heap.size w w') ∨ (lf (y0 x.1) (i0 x.1) = 0 ∧ L.length < need F x.1 ∧ e = .returned (.int .i64 85) ∧ Below w.heap.size w w') ∨
      (lf (y0 x.1) (i0 x.1) = 0 ∧ need F x.1 ≤ L.length ∧ e = .returned (.int .i64 0) ∧ ∃ B' L' F', LP N x.1 (toP x.2.1 x.2.2) L B F lf L' B' F' ∧ L.length = need F x.1 + L'.length ∧ Ram w' p b m N B' L' ∧ Fra p b m w w') := by
  have hN := h.mem.n2
  have hrN := hP.held 0 r hr
  have hrb : 0 ≤ ad r ∧ ad r < 18446744073709551616 := by unfold ad; omega
  obtain ⟨hv, hpa, hpm, hkd⟩ := hx
  have htp := toP_val x.2.1 x.2.2 ⟨hpa.1, hpa.2.1⟩ ⟨hpm.1, by omega⟩ hpm.2.2
  have hk : kd (toP x.2.1 x.2.2) 0 = 2 ∧ 0 ≤ toP x.2.1 x.2.2 ∧ toP x.2.1 x.2.2 < 18446744073709551616 := ⟨hkd, by omega, by omega⟩
  refine (map_late h (ad r) x.1 x.2.1 x.2.2 hrb ⟨hv.1, by omega⟩ ⟨hpa.1, by omega⟩ ⟨hv.2.2, hv.2.1⟩ ⟨hpa.2.2, hpa.2.1⟩ hmp).mono fun e w' hM => ?_
  unfold MapP at hM
  have hnd := hP.ndB hr
  by_cases hz : lf (y0 x.1) (i0 x.1) = 0
  · obtain ⟨l1, l2⟩ := look_need hP hN hr x.1 hz
    rw [l1, l2] at hM
    rcases hM with ⟨h1, _⟩ | ⟨_, h1, _⟩ | ⟨_, _, h1, h2, h3⟩ | ⟨_, _, h0, h2, B', L', h3, h4, h5, h6⟩
    · rw [hnd] at h1; cases h1
    · exact absurd rfl h1
    · exact .inr (.inl ⟨hz, by omega, h2, h3⟩)
    · obtain ⟨F', R⟩ := lays_pt hP hN h.nd h.lt hr hk h3
      refine .inr (.inr ⟨hz, by omega, h2, B', L', F', R, ?_, h5, h6⟩)
      have h7 := congrArg List.length h4
      rw [List.length_append, List.length_take] at h7
      simp only [Int.toNat_natCast] at h7
      omega
  · obtain ⟨l1, _⟩ := look_full hP hN hr x.1 hz
    rw [l1] at hM
    rcases hM with ⟨h1, _⟩ | ⟨_, _, h1, h2⟩ | ⟨_, h1, _⟩ | ⟨_, h1, _⟩
    · rw [hnd] at h1; cases h1
    · exact .inl ⟨hz, h1, h2⟩
    · omega
    · omega
end
end Go.Proofs.Ytncjmlndjnfncaa
