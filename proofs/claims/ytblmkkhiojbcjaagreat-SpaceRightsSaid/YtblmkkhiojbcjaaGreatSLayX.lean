import Derived.Test.YtblmkkhiojbcjaaGreatSLayM
namespace Go.Proofs.YtblmkkhiojbcjaaGreat
open Go.RowKit
set_option linter.unusedVariables false
set_option linter.unusedSimpArgs false
theorem kd_zero (l : Int) : kd 0 l = 0 := by
  have h : hs 0 1 = false := by decide
  unfold kd
  rw [if_pos h]
theorem fi_adr (i : Nat) : fi (2147483648 + (i : Int) * 4096) = i := by unfold fi; omega
theorem ent_zero (B : Nat → Int) (nd va l : Int) (h : ∀ k, k < 4096 → B (fi nd * 4096 + k) = 0) : ent B nd va l = 0 := by
  have hi := ix_b va l
  have key : ∀ j, j ≤ 8 → num B (fi nd * 4096 + (ix va l).toNat * 8) j = 0 := by
    intro j
    induction j with
    | zero => intro _; rfl
    | succ j ih =>
      intro hj
      have e := h ((ix va l).toNat * 8 + j) (by omega)
      simp only [num, ih (by omega)]
      rw [show fi nd * 4096 + (ix va l).toNat * 8 + j = fi nd * 4096 + ((ix va l).toNat * 8 + j) by omega, e]
      simp
  exact key 8 (by omega)
theorem ndB_mk {N : Nat} {L : List Nat} {i : Nat} (h1 : 1 ≤ i) (h2 : i < N) (h3 : i ∉ L) : ndB N L (2147483648 + (i : Int) * 4096) = true := by
  unfold ndB
  rw [fi_adr]
  simp only [decide_eq_true_eq]
  exact ⟨trivial, h1, h2, h3⟩
theorem ndB_cons {N : Nat} {L : List Nat} {i : Nat} {nd : Int} (h : ndB N (i :: L) nd = true) : ndB N L nd = true ∧ fi nd ≠ i := by
  obtain ⟨h1, h2, h3, h4⟩ := ndB_spec h
  rw [List.mem_cons, not_or] at h4
  refine ⟨?_, h4.1⟩
  unfold ndB
  simp only [decide_eq_true_eq]
  exact ⟨h1, h2, h3, h4.2⟩
/-- A new node is empty, whatever entry has been laid down elsewhere. -/
theorem new_zero (B : Nat → Int) (i f o : Nat) (vs : List Int) (hv : vs.length = 8) (ho : o + 8 ≤ 4096) (hf : f ≠ i) : ∀ k, k < 4096 → over (zer B i) (f * 4096 + o) vs (fi (2147483648 + (i : Int) * 4096) * 4096 + k) = 0 := fun k hk => by
  rw [fi_adr]
  unfold over
  rw [if_neg (by rw [hv]; omega)]
  exact zer_in B i k hk
/-- Below an empty node there is room for a leaf, if there are frames. -/
theorem lays_zero (N : Nat) (va leaf : Int) : ∀ (l : Nat) (B : Nat → Int) (L : List Nat) (nd : Int), (∀ k, k < 4096 → B (fi nd * 4096 + k) = 0) → ndB N L nd = true → L.Nodup → (∀ i ∈ L, 1 ≤ i ∧ i < N) → l ≤ L.length → ∃ B' L', Lays N va leaf l B L nd B' L' ∧ L = L.take l ++ L'
  | 0, B, L, nd, hz, hn, hd, hl, hle => ⟨_, L, ⟨hn, by rw [ent_zero B nd va 0 hz]; exact kd_zero 0, rfl, rfl⟩, by simp⟩
  | l + 1, B, [], nd, hz, hn, hd, hl, hle => by simp at hle
  | l + 1, B, i :: L1, nd, hz, hn, hd, hl, hle => by
    obtain ⟨hn2, hne⟩ := ndB_cons hn
    obtain ⟨hi, hd2⟩ := List.nodup_cons.1 hd
    have hb := ix_b va (l + 1 : Nat)
    have hil := hl i (by simp)
    obtain ⟨B', L', h1, h2⟩ := lays_zero N va leaf l (over (zer B i) (fi nd * 4096 + (ix va (l + 1 : Nat)).toNat * 8) (le (toP (2147483648 + i * 4096) 0) 8)) L1 (2147483648 + (i : Int) * 4096)
      (new_zero B i (fi nd) ((ix va (l + 1 : Nat)).toNat * 8) _ (le_len _ _) (by omega) hne) (ndB_mk hil.1 hil.2 hi) hd2 (fun j hj => hl j (List.mem_cons_of_mem _ hj)) (by simpa using hle)
    refine ⟨B', L', ⟨hn, .inr ⟨by rw [ent_zero B nd va _ hz]; exact kd_zero _, i, L1, rfl, hn2, h1⟩⟩, ?_⟩
    rw [List.take_succ_cons, List.cons_append, ← h2]
/-- Where the walk down meets an empty entry, a leaf can be laid down, if there are frames enough. -/
theorem lays_look (N : Nat) (va leaf : Int) (B : Nat → Int) (L : List Nat) (hd : L.Nodup) (hl : ∀ i ∈ L, 1 ≤ i ∧ i < N) : ∀ (l : Nat) (nd a0 a1 a2 e : Int), (wk N L B va l nd a0 a1 a2 e).k = 0 → (wk N L B va l nd a0 a1 a2 e).l ≤ L.length → ∃ B' L', Lays N va leaf l B L nd B' L' ∧ L = L.take (wk N L B va l nd a0 a1 a2 e).l.toNat ++ L'
  | 0, nd, a0, a1, a2, e => fun hk hle => by
    by_cases hn : ndB N L nd = true
    · have ew := wk_stop0 (B := B) (va := va) (a0 := a0) (a1 := a1) (a2 := a2) (e := e) hn
      rw [ew] at hk ⊢
      exact ⟨_, L, ⟨hn, hk, rfl, rfl⟩, by simp⟩
    · have ew : wk N L B va 0 nd a0 a1 a2 e = ⟨a0, a1, a2, 0, e, 4⟩ := if_neg hn
      rw [ew] at hk
      simp at hk
  | l + 1, nd, a0, a1, a2, e => fun hk hle => by
    by_cases hn : ndB N L nd = true
    · by_cases h3 : kd (ent B nd va (l + 1 : Nat)) (l + 1 : Nat) = 3
      · have ew : wk N L B va (l + 1) nd a0 a1 a2 e = wk N L B va l (adE (ent B nd va (l + 1 : Nat))) a0 (if l = 0 then st nd va 1 else a1) (if l = 1 then st nd va 2 else a2) (ent B nd va (l + 1 : Nat)) := (if_pos hn).trans (if_pos h3)
        rw [ew] at hk hle ⊢
        obtain ⟨B', L', h1, h2⟩ := lays_look N va leaf B L hd hl l _ _ _ _ _ hk hle
        exact ⟨B', L', ⟨hn, .inl ⟨h3, h1⟩⟩, h2⟩
      · have ew : wk N L B va (l + 1) nd a0 a1 a2 e = ⟨a0, if l = 0 then st nd va 1 else a1, if l = 1 then st nd va 2 else a2, (l + 1 : Nat), ent B nd va (l + 1 : Nat), kd (ent B nd va (l + 1 : Nat)) (l + 1 : Nat)⟩ := (if_pos hn).trans (if_neg h3)
        rw [ew] at hk hle ⊢
        simp only at hk hle ⊢
        rw [Int.toNat_natCast]
        match L, hd, hl, hn, hle with
        | [], hd, hl, hn, hle => simp at hle; omega
        | i :: L1, hd, hl, hn, hle =>
          obtain ⟨hn2, hne⟩ := ndB_cons hn
          obtain ⟨hi, hd2⟩ := List.nodup_cons.1 hd
          have hb := ix_b va (l + 1 : Nat)
          have hil := hl i (by simp)
          obtain ⟨B', L', h1, h2⟩ := lays_zero N va leaf l (over (zer B i) (fi nd * 4096 + (ix va (l + 1 : Nat)).toNat * 8) (le (toP (2147483648 + i * 4096) 0) 8)) L1 (2147483648 + (i : Int) * 4096)
            (new_zero B i (fi nd) ((ix va (l + 1 : Nat)).toNat * 8) _ (le_len _ _) (by omega) hne) (ndB_mk hil.1 hil.2 hi) hd2 (fun j hj => hl j (List.mem_cons_of_mem _ hj)) (by simp at hle; omega)
          refine ⟨B', L', ⟨hn, .inr ⟨hk, i, L1, rfl, hn2, h1⟩⟩, ?_⟩
          rw [List.take_succ_cons, List.cons_append, ← h2]
    · have ew : wk N L B va (l + 1) nd a0 a1 a2 e = ⟨a0, a1, a2, (l + 1 : Nat), e, 4⟩ := if_neg hn
      rw [ew] at hk
      simp at hk
end Go.Proofs.YtblmkkhiojbcjaaGreat
