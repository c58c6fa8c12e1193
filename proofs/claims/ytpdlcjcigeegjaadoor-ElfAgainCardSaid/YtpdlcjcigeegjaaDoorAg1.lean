import Derived.Test.YtpdlcjcigeegjaaDoorAg0
import Derived.Test.YtpdlcjcigeegjaaDoorPg5n
import Derived.Test.YtpdlcjcigeegjaaDoorBk1
import Derived.Test.YtpdlcjcigeegjaaDoorSameA
namespace Go.Proofs.YtpdlcjcigeegjaaDoor
open Go.RowKit
set_option linter.unusedVariables false
set_option linter.unusedSimpArgs false
theorem hd_ex (B : Nat → Int) : ∃ a r, Hd B a r := by
  by_cases h : ∀ i, i < 12 → chk B i
  · exact ⟨0, 0, .inl ⟨rfl, rfl, h⟩⟩
  · have : ∃ i, i < 12 ∧ ¬ chk B i := by
      by_cases h2 : ∃ i, i < 12 ∧ ¬ chk B i
      · exact h2
      · exact absurd (fun i hi => by
          by_cases h3 : chk B i
          · exact h3
          · exact absurd ⟨i, hi, h3⟩ h2) h
    obtain ⟨m, hm⟩ := this
    have key : ∀ k, (∀ j, j < k → chk B j) ∨ ∃ i, i < k ∧ (∀ j, j < i → chk B j) ∧ ¬ chk B i := by
      intro k
      induction k with
      | zero => exact .inl (fun j hj => by omega)
      | succ k ih =>
        rcases ih with ih | ⟨i, h1, h2, h3⟩
        · by_cases hk : chk B k
          · exact .inl (fun j hj => by
              by_cases e : j = k
              · subst e; exact hk
              · exact ih j (by omega))
          · exact .inr ⟨k, by omega, ih, hk⟩
        · exact .inr ⟨i, by omega, h2, h3⟩
    rcases key 12 with h4 | ⟨i, h1, h2, h3⟩
    · exact absurd (h4 m hm.1) hm.2
    · exact ⟨hOf i, if i < 4 then 141 else 142, .inr ⟨i, h1, h2, h3, rfl, rfl⟩⟩
theorem Segs.low {w : World} {X : Nat} {sv : Value} {E : List (Sg × Value)} {B : Nat → Int} (h : Segs w X sv E B) {a : Addr} (ha : a.block < X) (v : Value) : Segs (w.setCell a v) X sv E B :=
  ⟨ownsRow_setCell_below h.own ha v, fun x hx => ownsRow_setCell_below (h.dat x hx) ha v, h.gd⟩
set_option maxHeartbeats 4000000 in
set_option maxRecDepth 100000 in
theorem copyBytes_any {p : Option Addr} {n c : Nat} {xs : List Int} {w : World} (h : Byt w p n c xs) (hn : n < 2000000) : Calls Tryd.prog 9 #[.slice p n c] w (Gb xs w) := by
  obtain ⟨hl, k1, m1, h1⟩ := h
  have m1 : c ≤ 9223372036854775807 := m1
  have HX : Hid (xs.length = n) := hl
  obtain ⟨i3, z3, hi3, hz3, hs3, hb3, hzs3⟩ := byte_info
  have HI : Hid (Tryd.prog.info? 5 = some i3 ∧ i3.zero = some z3 ∧ i3.size = 1 ∧ i3.bytes = 1 ∧ z3.cells.size = 1) := ⟨hi3, hz3, hs3, hb3, hzs3⟩
  clear hi3 hz3 hs3 hb3 hzs3
  by_cases h0 : n = 0
  · subst h0
    obtain rfl : xs = [] := List.eq_nil_of_length_eq_zero hl
    clear h1 hl
    go_enter Tryd.func9, Tryd.ntmps9
    go_wp2
    go_loopw [3, 4] (fun v k wr => v = .slice none 0 0 ∧ k = .int .i64 0 ∧ wr = w) (fun _ _ _ => 0)
    case atStart => exact ⟨rfl, rfl, rfl⟩
    case round =>
      obtain ⟨rfl, rfl, rfl⟩ := hrel
      go_wp2
      go_ret
      exact gb_nil _
  · rcases h1 with h1 | ⟨b1, o1, rfl, hb, h1⟩
    · omega
    have H1 : Hid (∀ i x, xs[i]? = some x → w.cell? ⟨b1, o1 + i, .none⟩ = some (.int .u8 x)) := h1
    clear h1 hl h0
    go_enter Tryd.func9, Tryd.ntmps9
    go_wp2
    go_loopw [3, 4] (fun v k wr => ∃ i : Nat, i ≤ n ∧ k = .int .i64 i ∧ ∃ q cq, v = .slice q i cq ∧ Hid (wr.ownsRow w.heap.size 5 1 (.slice q i cq) i (by8 (xs.take i)) ∧ Below w.heap.size w wr)) (fun _ k _ => (n - intOf k).toNat)
    case atStart => exact ⟨0, by omega, rfl, none, 0, rfl, World.ownsRow_nil _ _ _ _, Below.refl _ _⟩
    case round =>
      obtain ⟨i, hi, rfl, q, cq, rfl, HO⟩ := hrel
      by_cases hlt : i < n
      · have g0 : (i : Int) < n := by omega
        have hx : ∃ x, xs[i]? = some x := ⟨xs[i]'(by rw [HX.out]; exact hlt), by simp⟩
        obtain ⟨x, hx⟩ := hx
        have a0 : wr.cell? ⟨b1, o1 + i, .none⟩ = some (.int .u8 x) := (HO.out.2.cell hb).trans (H1.out i x hx)
        have HT : Hid (xs.take i ++ [x] = xs.take (i + 1)) := take_next hx
        have z1 := HO.out.2.size
        clear hx
        go_wp2_with (first | (at_builtin; refine wpList_append_own _ rfl _ _ 22 rfl w.heap.size 5 i3 z3 1 1 Tryd.underlying22 HI.out.1 HI.out.2.1 HI.out.2.2.1 HI.out.2.2.2.1 HI.out.2.2.2.2 (by decide) (.slice q i cq) i (by8 (xs.take i)) rfl (HO.out.1.alloc _) ⟨wr.heap.size, 0, .none⟩ 1 1 (by8 [x]) rfl rfl (le_cell1_new _ _ _) (by8_one _) ?c4 ?c5 ?c6 ?_) | go_in)
        case c4 => simp only [maxLen]; omega
        case c5 => omega
        case c6 => simp only [World.size_alloc]; omega
        intro v' w2 own' grow fb
        clear fb
        obtain ⟨p', c', rfl⟩ := one_slice own'
        have HW : Hid (w2.ownsRow w.heap.size 5 1 (.slice p' (i + 1) c') (i + 1) (by8 (xs.take (i + 1))) ∧ Below w.heap.size w w2) := by
          refine ⟨?_, below_append HO.out.2 _ grow z1 (own_block HO.out.1)⟩
          rw [← HT.out, by8_app]
          exact own'
        clear own' grow
        go_wp2
        exact ⟨⟨i + 1, by omega, rfl, p', c', rfl, HW.out⟩, by simp only [intOf]; omega⟩
      · obtain rfl : i = n := by omega
        clear hi hlt
        go_wp2
        go_ret
        have h := HO.out
        have e := HX.out
        subst e
        rw [List.take_length] at h
        exact ⟨q, cq, rfl, h.1, h.2⟩

/-- Segments that were read may be written. -/
theorem gk_app {S : List Sg} {s : Sg} (h : Gk S S.length) (h1 : okS s = true) (h2 : ris S s.va = true) : Gk (S ++ [s]) (S ++ [s]).length := by
  intro i t hi ht
  rw [List.length_append, List.length_singleton] at hi
  by_cases e : i < S.length
  · rw [List.getElem?_append_left e] at ht
    rw [List.take_append_of_le_length (by omega)]
    exact h i t e ht
  · have : i = S.length := by omega
    subst this
    rw [List.getElem?_append_right (Nat.le_refl _), Nat.sub_self] at ht
    simp only [List.getElem?_cons_zero, Option.some.injEq] at ht
    subst ht
    rw [List.take_left']
    · exact ⟨h1, h2⟩
    · rfl
theorem stp_gk {n : Nat} {B : Nat → Int} {S : List Sg} {a : Nat} (h : Gk S S.length ∧ S.length ≤ 8) (h0 : (stp n B S a).1 = 0) : Gk (stp n B S a).2 (stp n B S a).2.length ∧ (stp n B S a).2.length ≤ 8 := by
  unfold stp at h0 ⊢
  split at h0
  · rename_i c1
    rw [if_pos c1]
    exact h
  · rename_i c1
    rw [if_neg c1]
    split at h0
    · cases h0
    · rename_i c2
      rw [if_neg c2]
      split at h0
      · cases h0
      · rename_i c3
        rw [if_neg c3]
        split at h0
        · cases h0
        · rename_i c4
          rw [if_neg c4]
          split at h0
          · cases h0
          · rename_i c5
            rw [if_neg c5]
            refine ⟨gk_app h.1 (by have : ok1 (sgOf B a).va (sgOf B a).fl (sgOf B a).sz (sgOf B a).mem = true := by simpa using c3
                                   exact this) (by simpa using c5), ?_⟩
            show (S ++ [sgOf B a]).length ≤ 8
            rw [List.length_append, List.length_singleton]
            have := h.2
            omega
theorem lp_gk {n : Nat} {B : Nat → Int} : ∀ k a (S : List Sg), (Gk S S.length ∧ S.length ≤ 8) → (lp n B k a S).1.2 = 0 → Gk (lp n B k a S).2 (lp n B k a S).2.length ∧ (lp n B k a S).2.length ≤ 8
  | 0, a, S, h, _ => h
  | k + 1, a, S, h, h0 => by
    unfold lp at h0 ⊢
    by_cases c : (stp n B S a).1 = 0
    · rw [if_neg (by simpa using c)] at h0 ⊢
      exact lp_gk k (a + 56) _ (stp_gk h c) h0
    · rw [if_pos c] at h0
      exact absurd h0 c
theorem rdF_good {n : Nat} {B : Nat → Int} {ha hr : Int} (h : (rdF n B ha hr).1.2 = 0) : Good (num B 24 8) (rdF n B ha hr).2 := by
  unfold rdF at h ⊢
  split at h
  · cases h
  · rename_i c1
    rw [if_neg c1]
    split at h
    · cases h
    · rename_i c2
      rw [if_neg c2]
      split at h
      · rename_i c3
        exact absurd h c3
      · rename_i c3
        rw [if_neg c3]
        split at h
        · cases h
        · rename_i c4
          rw [if_neg c4]
          split at h
          · cases h
          · rename_i c5
            rw [if_neg c5]
            split at h
            · rename_i c6
              exact absurd h c6
            · rename_i c6
              rw [if_neg c6]
              split at h
              · cases h
              · rename_i c7
                rw [if_neg c7]
                split at h
                · cases h
                · rename_i c8
                  rw [if_neg c8]
                  have g := lp_gk (n := n) (B := B) (cntB B) (froB B) [] ⟨fun i s hi => (nomatch hi), by decide⟩ (by simpa using c6)
                  exact ⟨Nat.pos_of_ne_zero c7, g.2, g.1, by simpa using c8⟩
end Go.Proofs.YtpdlcjcigeegjaaDoor
