import Derived.Test.YtjbealefopajcaaDoorWb
namespace Go.Proofs.YtjbealefopajcaaDoor
open Go Go.RowKit Rg
set_option linter.unusedVariables false
set_option linter.unusedSimpArgs false
/-! The text of bytes and of ticks, chunk by chunk. -/
theorem jn_cons (x : ByteArray) (l : List ByteArray) : jnI (x :: l) = bsI x ++ l.flatMap (fun y => 32 :: bsI y) := by
  unfold jnI
  rw [List.map_cons, Lib.join_cons, List.map_append]
  have e : ∀ l : List ByteArray, (Lib.joinTail [32] (l.map (·.data.toList))).map (fun b => ((b.toNat : Nat) : Int)) = l.flatMap (fun y => 32 :: bsI y) := by
    intro l
    induction l with
    | nil => rfl
    | cons y l ih =>
      rw [List.flatMap_cons, ← ih]
      unfold Lib.joinTail
      simp only [List.map_cons, List.flatten_cons, List.map_append]
      rfl
  rw [e]
  rfl
theorem range_at {pre : List Nat} {x M : Nat} (h : pre ++ [x] <+: List.range M) : x = pre.length ∧ x < M := by
  obtain ⟨r, hr⟩ := h
  have h1 := congrArg (fun l => l[pre.length]?) hr
  simp only [List.append_assoc, List.singleton_append] at h1
  rw [List.getElem?_append_right (Nat.le_refl _), Nat.sub_self, List.getElem?_cons_zero] at h1
  have h2 := List.getElem?_eq_some_iff.1 h1.symm
  obtain ⟨hl, h3⟩ := h2
  rw [List.getElem_range] at h3
  rw [List.length_range] at hl
  exact ⟨h3.symm, by omega⟩
theorem take_get (l : List Int) (j k : Nat) (h : j + k < l.length) : (l.drop j).take (k + 1) = (l.drop j).take k ++ [l.getD (j + k) 0] := by
  rw [List.take_add_one, List.getElem?_drop, List.getElem?_eq_getElem h, List.getD_eq_getElem?_getD, List.getElem?_eq_getElem h]
  rfl
theorem take_all {l : List Int} {j K k : Nat} (h : l.length = j + k + 1 ∨ k + 1 = K) (hk : k + 1 ≤ K) : (l.drop j).take K = (l.drop j).take (k + 1) := by
  rcases h with h | h
  · rw [List.take_of_length_le (by rw [List.length_drop]; omega), List.take_of_length_le (by rw [List.length_drop]; omega)]
  · rw [h]
theorem blk_mid (ds : List Int) (j : Nat) : ∀ k, k < 32 → 32 * j + k < ds.length → blkP ds (32 * j + k) = blkP ds (32 * j) ++ ((ds.drop (32 * j)).take k).flatMap hexD
  | 0, _, _ => by simp
  | k + 1, h1, h2 => by
    rw [show 32 * j + (k + 1) = (32 * j + k) + 1 by omega, blkP, blk_mid ds j k (by omega) (by omega), if_neg (by omega), List.append_nil, take_get _ _ _ (by omega), List.flatMap_append, List.append_assoc]
    simp
theorem blk_end (ds : List Int) (j : Nat) (h : 32 * j < ds.length) : blkP ds (min ds.length (32 * (j + 1))) = blkP ds (min ds.length (32 * j)) ++ ((ds.drop (32 * j)).take 32).flatMap hexD ++ [10] := by
  obtain ⟨k, hk⟩ : ∃ k, min ds.length (32 * (j + 1)) = 32 * j + k + 1 := ⟨min ds.length (32 * (j + 1)) - 32 * j - 1, by omega⟩
  rw [hk, show min ds.length (32 * j) = 32 * j by omega, blkP, blk_mid ds j k (by omega) (by omega), if_pos (by omega), take_all (K := 32) (k := k) (by omega) (by omega), take_get _ _ _ (by omega), List.flatMap_append]
  simp [List.append_assoc]
def tickI : List Int := [116, 105, 99, 107]
def spT (ts : List Int) : List Int := ts.flatMap fun t => 32 :: itI t
theorem tk_mid (ts : List Int) (j : Nat) : ∀ k, k < 16 → 16 * j + k < ts.length → tkP ts (16 * j + k) = tkP ts (16 * j) ++ (if k = 0 then [] else tickI) ++ spT ((ts.drop (16 * j)).take k)
  | 0, _, _ => by simp [spT]
  | k + 1, h1, h2 => by
    rw [show 16 * j + (k + 1) = (16 * j + k) + 1 by omega, tkP, tk_mid ts j k (by omega) (by omega), if_neg (c := (16 * j + k) % 16 = 15 ∨ _) (by omega), List.append_nil, take_get _ _ _ (by omega)]
    unfold spT
    rw [List.flatMap_append, if_neg (c := k + 1 = 0) (by omega)]
    by_cases h0 : k = 0
    · subst h0
      rw [if_pos (by omega)]
      simp [tickI]
    · rw [if_neg h0, if_neg (by omega)]
      simp
theorem tk_end (ts : List Int) (j : Nat) (h : 16 * j < ts.length) : tkP ts (min ts.length (16 * (j + 1))) = tkP ts (min ts.length (16 * j)) ++ tickI ++ spT ((ts.drop (16 * j)).take 16) ++ [10] := by
  obtain ⟨k, hk⟩ : ∃ k, min ts.length (16 * (j + 1)) = 16 * j + k + 1 := ⟨min ts.length (16 * (j + 1)) - 16 * j - 1, by omega⟩
  rw [hk, show min ts.length (16 * j) = 16 * j by omega, tkP, tk_mid ts j k (by omega) (by omega), if_pos (c := (16 * j + k) % 16 = 15 ∨ _) (by omega), take_all (K := 16) (k := k) (by omega) (by omega), take_get _ _ _ (by omega)]
  unfold spT
  rw [List.flatMap_append]
  by_cases h0 : k = 0
  · subst h0
    rw [if_pos (c := (0 : Nat) = 0) rfl, if_pos (by omega)]
    simp [tickI]
  · rw [if_neg h0, if_neg (by omega)]
    simp
theorem jn_tick (l : List Int) : jnI (⟨#[116, 105, 99, 107]⟩ :: l.map itS) = tickI ++ spT l := by
  rw [jn_cons]
  unfold spT
  rw [List.flatMap_map]
  rfl
/-- A part of a slice of bytes. -/
theorem bt_part {w : World} {X bk o n c : Nat} {ds : List Int} (h : Bt w X (.slice (some ⟨bk, o, .none⟩) n c) ds) (t e : Nat) (he : t + e ≤ n) : Bt w X (.slice (some ⟨bk, o + t, .none⟩) e e) ((ds.drop t).take e) := by
  obtain ⟨p', c', hv, hlc, h2⟩ := h
  injection hv with e1 e2 e3
  have hl : ((ds.drop t).take e).length = e := by rw [List.length_take, List.length_drop]; omega
  refine ⟨_, _, by rw [hl], ⟨by omega, by omega⟩, ?_⟩
  rcases h2 with h2 | ⟨b, o', hp, hb, hr⟩
  · left
    rw [h2]; simp
  · right
    rw [hp] at e1
    injection e1 with e1
    injection e1 with e4 e5
    subst e4 e5
    refine ⟨bk, o + t, rfl, hb, fun i x hx => ?_⟩
    rw [List.getElem?_take] at hx
    split at hx
    · rw [List.getElem?_drop] at hx
      obtain ⟨cs, q, hlen, hrr⟩ := hr (t + i) x hx
      refine ⟨cs, q, hlen, ?_⟩
      rw [show o + t + i * 1 = o + (t + i) * 1 by omega]
      exact hrr
    · cases hx
end Go.Proofs.YtjbealefopajcaaDoor
