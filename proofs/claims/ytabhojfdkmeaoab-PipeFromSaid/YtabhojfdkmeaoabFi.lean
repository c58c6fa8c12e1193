import Derived.Test.YtabhojfdkmeaoabLp
namespace Go.Proofs.Ytabhojfdkmeaoab
open Go.RowKit
set_option linter.unusedVariables false
set_option linter.unusedSimpArgs false
theorem size_new (w : World) (n : Nat) (hn : n ≤ 512) : ∃ w', (Instr.makeSlice 22 (.int .i64 (n : Int)) (.int .i64 (n : Int))).run Try.prog w = .ok (.slice (some ⟨w.heap.size, 0, none⟩) n n) w' ∧ Below w.heap.size w w' ∧ ∃ cur, cur.size = n ∧ w'.heap[w.heap.size]? = some (.cells cur 5 (0, 0)) := by
  obtain ⟨i, z, hi, hz, hs, hb, hzs⟩ := byte_info
  have hr := run_make (P := Try.prog) w 22 5 i z Try.underlying22 hi hz .i64 .i64 n n (by omega) (by omega) (by rw [hb]; omega) (by omega)
  rw [Int.toNat_natCast, hs] at hr
  refine ⟨_, hr, (Below.refl _ _).alloc (Nat.le_refl _) _, _, ?_, heap_new _ _⟩
  rw [size_madeCells]; omega
/-- Cells of a row that was written. -/
theorem row_set {w : World} {g n : Nat} {cur : Array Value} (hg : w.heap[g]? = some (.cells cur 5 (0, 0))) (o : Nat) (vs : List Value) : ∃ cur', cur'.size = cur.size ∧ (w.setCells g o vs).heap[g]? = some (.cells cur' 5 (0, 0)) := by
  induction vs generalizing w o cur with
  | nil => exact ⟨cur, rfl, hg⟩
  | cons v vs ih =>
    have h1 : (w.setCell ⟨g, o, .none⟩ v).heap[g]? = some (.cells (cur.setIfInBounds o v) 5 (0, 0)) := by
      simp [World.setCell, Array.getElem?_modify, hg]
    obtain ⟨c', h2, h3⟩ := ih h1 (o + 1)
    exact ⟨c', by rw [h2]; simp, h3⟩
theorem own_of {w : World} {g n X : Nat} {cur : Array Value} {zs : List Int} (hg : w.heap[g]? = some (.cells cur 5 (0, 0))) (hc : cur.size = n) (hX : X ≤ g) (hn : n ≤ 512) (hz : zs.length = n) (hcell : ∀ j x, zs[j]? = some x → w.cell? ⟨g, j, .none⟩ = some (.int .u8 x)) : w.ownsRow X 5 1 (.slice (some ⟨g, 0, .none⟩) n n) n (by8 zs) := by
  refine ⟨by rw [by8_len]; omega, .inr ⟨g, n, cur, rfl, hX, hg, Nat.le_refl _, by simp only [maxLen]; omega, by omega, ?_⟩⟩
  apply List.ext_getElem?
  intro j
  rw [Nat.mul_one, List.getElem?_take]
  split
  · rename_i hj
    have h1 := hcell j zs[j] (by simp)
    rw [by8_get (x := zs[j]) (by simp)]
    simp only [World.cell?, hg] at h1
    simpa using h1
  · rw [List.getElem?_eq_none (by rw [by8_len]; omega)]
theorem cut_own (g n m : Nat) (hm : m ≤ n) (W : World) : (Instr.slice 22 (.slice (some ⟨g, 0, .none⟩) n n) (some (.int .i64 m)) none none).run Try.prog W = .ok (.slice (some ⟨g, if n = m then 0 else m, .none⟩) (n - m) (n - m)) W := by
  rw [cut_from _ _ _ _ hm]
  congr 2
  unfold cutp
  split
  · rfl
  · simp only [Option.map_some, le_addr_add, Nat.zero_add]
/-- The ring's bytes from a place on. -/
def rows (B : Nat → Int) (t n : Nat) : List Int := (List.range n).map fun j => B (t + j)
theorem rows_len (B : Nat → Int) (t n : Nat) : (rows B t n).length = n := by simp [rows]
theorem rows_get {B : Nat → Int} {t n j : Nat} {x : Int} (h : (rows B t n)[j]? = some x) : j < n ∧ x = B (t + j) := by
  simp only [rows, List.getElem?_map, Option.map_eq_some_iff] at h
  obtain ⟨i, hi, rfl⟩ := h
  obtain ⟨h1, h2⟩ := List.getElem?_eq_some_iff.1 hi
  simp at h1 h2
  exact ⟨h1, by rw [h2]⟩
theorem rows_at (B : Nat → Int) (t n j : Nat) (h : j < n) : (rows B t n)[j]? = some (B (t + j)) := by simp [rows, h]
theorem Rng.byt {w : World} {b : Nat} {B : Nat → Int} {r s : Int} {rd wt : Bool} (h : Rng w b B r s rd wt) (t n : Nat) (htn : t + n ≤ 512) : Byt w (some ⟨b, t, .none⟩) n n (rows B t n) :=
  ⟨rows_len _ _ _, Nat.le_refl _, by simp only [maxLen]; omega, .inr ⟨b, t, rfl, h.lt, fun i x hx => by
    obtain ⟨h1, rfl⟩ := rows_get hx
    exact h.cb _ (by omega)⟩⟩
theorem cur_cell {w : World} {g : Nat} {cur : Array Value} (hg : w.heap[g]? = some (.cells cur 5 (0, 0))) (j : Nat) (hj : j < cur.size) : (w.cell? ⟨g, j, .none⟩).isSome = true := by
  simp [World.cell?, hg, hj]
theorem cur_froz {w : World} {g : Nat} {cur : Array Value} (hg : w.heap[g]? = some (.cells cur 5 (0, 0))) (j : Nat) : w.frozen? ⟨g, j, .none⟩ = false := by
  simp [World.frozen?, hg]
set_option maxHeartbeats 1000000 in
theorem first_pip {w : World} {b : Nat} {xs : List Int} {r : Int} {rd wt : Bool} (h : Pip w b xs r rd wt) (n : Int) (k : Nat) (hk : k = min n.toNat xs.length) :
    Calls Try.prog 22 #[.pointer (some ⟨b, 0, .none⟩), .int .i64 n] w fun e w' => ∃ p c, e = .returned (.slice p k c) ∧ w'.ownsRow w.heap.size 5 1 (.slice p k c) k (by8 (xs.take k)) ∧ Below w.heap.size w w' ∧ (k = 0 → p = none ∧ c = 0) := by
  obtain ⟨h1, B, h2, h3⟩ := h
  have HX : Hid (∀ j x, xs[j]? = some x → B ((r.toNat + j) % 512) = x) := h3
  have HR : Hid (Rng w b B r ((r + xs.length) % 4294967296) rd wt) := h2
  have c26 := held_any h2 xs.length h1 rfl
  generalize hL : xs.length = L at *
  obtain ⟨N, hN⟩ : ∃ N, N = n.toNat := ⟨_, rfl⟩
  rw [← hN] at hk
  have e1 : (if n < 0 then (0 : Int) else n) = (N : Int) := by split <;> omega
  have e2 : (if L < N then (L : Int) else (N : Int)) = (k : Int) := by split <;> omega
  have hkL : k ≤ L := by omega
  clear h2 h3 hN hk
  go_enter Try.func22, Try.ntmps22
  go_wp2_with fail
  refine c26.mono ?_
  rintro e w1 ⟨rfl, q, hq⟩
  have HR1 : Hid (Rng w1 b B r ((r + L) % 4294967296) rd wt) := by rw [hq]; exact HR.out.drewN q
  have HW : Hid (Below w.heap.size w w1 ∧ w1.heap.size = w.heap.size) := by subst hq; exact ⟨⟨rfl, rfl, rfl, Nat.le_refl _, fun _ _ => rfl⟩, rfl⟩
  clear hq c26 HR
  by_cases hk0 : k = 0
  · subst hk0
    go_wp2
    go_ret
    exact ⟨none, 0, rfl, World.ownsRow_nil _ _ _ _, HW.out.1, by simp⟩
  · obtain ⟨w2, hmk, bel2, cur, hcs, hg2⟩ := size_new w1 k (by omega)
    obtain ⟨g, hgg⟩ : ∃ g, g = w1.heap.size := ⟨_, rfl⟩
    rw [← hgg] at hmk hg2 bel2
    have hbg : b < g := by rw [hgg]; exact HR1.out.lt
    have HR2 : Hid (Rng w2 b B r ((r + L) % 4294967296) rd wt) := HR1.out.keep (g := w1.heap.size) (Trn.ofBelow (by rw [← hgg]; exact bel2)) (by omega)
    have HG : Hid (Below w.heap.size w w2 ∧ w.heap.size ≤ g) := ⟨HW.out.1.trans (bel2.mono (by rw [hgg]; have := HW.out.2; omega)), by rw [hgg]; have := HW.out.2; omega⟩
    have HC : Hid (w2.heap[g]? = some (.cells cur 5 (0, 0)) ∧ cur.size = k) := ⟨hg2, hcs⟩
    have c1 := HR2.out.c1
    have br := HR1.out.br
    obtain ⟨R, hR⟩ : ∃ R : Nat, r = R := ⟨r.toNat, by omega⟩
    obtain ⟨t, ht⟩ : ∃ t, t = R % 512 := ⟨_, rfl⟩
    have cr := cut_ring b t (r.tmod 512) (by rw [Int.tmod_eq_emod_of_nonneg br.1]; omega) (by omega)
    have ar := all_ring b
    obtain ⟨m, hm⟩ : ∃ m, m = min (512 - t) k := ⟨_, rfl⟩
    have HM : Hid (m = Nat.min (512 - t) k) := hm
    have hmk2 : m ≤ k := by omega
    have ca := cutat (some ⟨g, 0, .none⟩) k k
    obtain ⟨z, hz⟩ : ∃ z, z = if k = m then 0 else m := ⟨_, rfl⟩
    have HZ : Hid (z = if k = m then 0 else m) := hz
    have cf := cut_own g k m hmk2
    rw [← hz] at cf
    clear hz
    have HT : Hid (r = R ∧ t = R % 512 ∧ t < 512 ∧ (m = min (512 - t) k)) := ⟨hR, ht, by omega, hm⟩
    have B1 : Hid (Byt w2.drew (some ⟨b, t, .none⟩) (512 - t) (512 - t) (rows B t (512 - t))) := HR2.out.byt t (512 - t) (by omega)
    have s2 : Hid (∀ j, j < m → (w2.drew.cell? ⟨g, 0 + j, .none⟩).isSome = true) := fun j hj => cur_cell HC.out.1 _ (by have := HC.out.2; omega)
    have s3 : Hid (∀ j, j < m → w2.drew.frozen? ⟨g, 0 + j, .none⟩ = false) := fun j hj => cur_froz HC.out.1 _
    have ik : IntKind.i64.wrap (k : Int) = k := by simp only [IntKind.wrap, IntKind.bits, IntKind.signed]; simp; omega
    clear hm ht hR hg2 hcs bel2 HR1 hgg
    go_upto_region 5 with fail
    go_region_law (refine step_copy_byt rfl (.tmp 16) (.tmp 25) rfl g 0 k k (some ⟨b, t, .none⟩) (512 - t) (512 - t) (rows B t (512 - t)) (by simp [Act.eval, Act.put]) (by simp [Act.eval, Act.put]) B1.out m HM.out s2.out s3.out ?_)
    obtain ⟨w3, hw3⟩ : ∃ w3, w3 = w2.drew.setCells g 0 (by8 ((rows B t (512 - t)).take m)) := ⟨_, rfl⟩
    have W3 : Hid (w3 = w2.drew.setCells g 0 (by8 ((rows B t (512 - t)).take m))) := hw3
    rw [← hw3]
    clear hw3 hmk c1
    have HR3 : Hid (Rng w3 b B r ((r + L) % 4294967296) rd wt) := by rw [W3.out]; exact HR2.out.keep ((Trn.drew g w2).trans (Trn.setCells _ _ _ _)) (by omega)
    have B2 : Hid (Byt w3.drew (some ⟨b, 0, .none⟩) 512 512 (rows B 0 512)) := HR3.out.byt 0 512 (by omega)
    obtain ⟨cur3, hcs3, hg3⟩ := row_set (n := k) (w := w2.drew) HC.out.1 0 (by8 ((rows B t (512 - t)).take m))
    rw [← W3.out] at hg3
    have HC3 : Hid (w3.heap[g]? = some (.cells cur3 5 (0, 0)) ∧ cur3.size = k) := ⟨hg3, hcs3.trans HC.out.2⟩
    clear hg3 hcs3
    have M2 : Hid (k - m = Nat.min 512 (k - m)) := (Nat.min_eq_right (by omega)).symm
    have hz0 : Hid (0 < k - m → z = m) := fun h => by rw [HZ.out, if_neg (by omega)]
    have k2 : Hid (∀ j, j < k - m → (w3.drew.cell? ⟨g, z + j, .none⟩).isSome = true) := fun j hj => cur_cell HC3.out.1 _ (by have := HC3.out.2; have := hz0.out (by omega); omega)
    have k3 : Hid (∀ j, j < k - m → w3.drew.frozen? ⟨g, z + j, .none⟩ = false) := fun j hj => cur_froz HC3.out.1 _
    go_upto_region 6 with fail
    go_region_law (refine step_copy_byt rfl (.tmp 29) (.tmp 33) rfl g z (k - m) (k - m) (some ⟨b, 0, .none⟩) 512 512 (rows B 0 512) (by simp [Act.eval, Act.put]) (by simp [Act.eval, Act.put]) B2.out (k - m) M2.out k2.out k3.out ?_)
    obtain ⟨w4, hw4⟩ : ∃ w4, w4 = w3.drew.setCells g z (by8 ((rows B 0 512).take (k - m))) := ⟨_, rfl⟩
    have W4 : Hid (w4 = w3.drew.setCells g z (by8 ((rows B 0 512).take (k - m)))) := hw4
    rw [← hw4]
    clear hw4
    go_wp2
    go_ret
    obtain ⟨cur4, hcs4, hg4⟩ := row_set (n := k) (w := w3.drew) HC3.out.1 z (by8 ((rows B 0 512).take (k - m)))
    rw [← W4.out] at hg4
    obtain ⟨e1, e2, e3, e4⟩ := HT.out
    refine ⟨_, _, rfl, own_of hg4 (hcs4.trans HC3.out.2) HG.out.2 (by omega) (by rw [List.length_take]; omega) ?_, ?_, fun h => absurd h hk0⟩
    · intro j x hj
      have hjk : j < k := by have := (List.getElem?_eq_some_iff.1 hj).1; rw [List.length_take] at this; omega
      rw [List.getElem?_take, if_pos hjk] at hj
      have hx := HX.out j x hj
      rw [e1, Int.toNat_natCast] at hx
      have l2 : (by8 ((rows B 0 512).take (k - m))).length = k - m := by rw [by8_len, List.length_take, rows_len]; omega
      have l1 : (by8 ((rows B t (512 - t)).take m)).length = m := by rw [by8_len, List.length_take, rows_len]; omega
      by_cases hjm : j < m
      · have c3 : w3.cell? ⟨g, j, .none⟩ = some (.int .u8 x) := by
          have := World.cell?_setCells_in g (by8 ((rows B t (512 - t)).take m)) 0 w2.drew (fun i hi => s2.out i (by omega)) j (by omega)
          rw [← W3.out, Nat.zero_add] at this
          rw [this]
          have hr : ((rows B t (512 - t)).take m)[j]? = some x := by
            rw [List.getElem?_take, if_pos hjm, rows_at _ _ _ _ (by omega), ← hx]
            congr 2
            omega
          have := by8_get hr
          rw [List.getElem?_eq_getElem (by omega)] at this
          exact this
        rw [W4.out]
        exact cell_out (w := w3.drew) c3 _ _ (by
          rw [l2]
          by_cases h0 : k - m = 0
          · right
            have := HZ.out
            rw [if_pos (by omega)] at this
            omega
          · left
            have := hz0.out (by omega)
            omega)
      · have hzm := hz0.out (by omega)
        have := World.cell?_setCells_in g (by8 ((rows B 0 512).take (k - m))) z w3.drew (fun i hi => k2.out i (by omega)) (j - m) (by omega)
        rw [← W4.out, show z + (j - m) = j by omega] at this
        rw [this]
        have hr : ((rows B 0 512).take (k - m))[j - m]? = some x := by
          rw [List.getElem?_take, if_pos (by omega), rows_at _ _ _ _ (by omega), ← hx]
          congr 2
          omega
        have := by8_get hr
        rw [List.getElem?_eq_getElem (by omega)] at this
        exact this
    · have t1 : Below w.heap.size w2 w3 := by
        rw [W3.out]
        exact ((Trn.drew g w2).trans (Trn.setCells _ _ _ _)).toBelow HG.out.2 HG.out.1.size
      have t2 : Below w.heap.size w3 w4 := by
        rw [W4.out]
        exact ((Trn.drew g w3).trans (Trn.setCells _ _ _ _)).toBelow HG.out.2 (Nat.le_trans HG.out.1.size t1.size)
      exact (HG.out.1.trans t1).trans t2
end Go.Proofs.Ytabhojfdkmeaoab
