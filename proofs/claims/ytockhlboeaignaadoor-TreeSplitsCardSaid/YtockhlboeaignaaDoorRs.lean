import Derived.Test.YtockhlboeaignaaDoorSp2
import Derived.Test.YtockhlboeaignaaDoorKeep
import Derived.Deep.QuietTactic
import Derived.BigQuiet
import Derived.Deep.DeepCutAuto
namespace Go.Proofs.YtockhlboeaignaaDoor
open Go.RowKit
set_option linter.unusedVariables false
set_option linter.unusedSimpArgs false
set_option maxRecDepth 10000
theorem cut_any (l : Bs) (w : World) (hl : l.length < 9223372036854775808) : Calls Tryd.prog 17 #[.string ⟨l.toArray⟩] w fun e w' => e = .returned (.string ⟨(l.take 14).toArray⟩) ∧ w' = w := by
  have hsz : (⟨l.toArray⟩ : ByteArray).size = l.length := by simp [ByteArray.size]
  have hcut := ext_take l 14
  by_cases h : 14 < l.length
  · have i1 : (14 : Int) < l.length := by omega
    go_enter Tryd.func17, Tryd.ntmps17
    go_wp2
    go_ret
    exact ⟨by simp, rfl⟩
  · have i1 : ¬ ((14 : Int) < l.length) := by omega
    rw [List.take_of_length_le (by omega)]
    go_enter Tryd.func17, Tryd.ntmps17
    go_wp2
    go_ret
    exact ⟨rfl, rfl⟩
theorem u8_eq {b c : UInt8} : (((b.toNat : Nat) : Int) == ((c.toNat : Nat) : Int)) = decide (b = c) := by
  by_cases h : b = c
  · subst h; simp
  · have : b.toNat ≠ c.toNat := fun e => h (UInt8.toNat_inj.1 e)
    rw [decide_eq_false h]
    simp only [beq_eq_false_iff_ne, ne_eq]
    omega
theorem ext_sl (l : Bs) (f i : Nat) : (⟨l.toArray⟩ : ByteArray).extract f i = ⟨((l.take i).drop f).toArray⟩ := by
  apply ByteArray.ext
  simp [List.drop_take]
theorem getb {l : Bs} {i : Nat} (h : i < l.length) (h' : i < (⟨l.toArray⟩ : ByteArray).size) : (⟨l.toArray⟩ : ByteArray)[i]'h' = l[i] := rfl
theorem app_below {w A w1 : World} {n : Nat} {v : Value} {xs : List Value} {o : Obj} (hr : A.ownsRow w.heap.size 9 1 v n xs) (hb : Below w.heap.size w A) (hg : (A.alloc o).grownBy w1 v.ownBlock) : Below w.heap.size w w1 := by
  refine (hb.alloc hb.size o).grown hg (by have := hb.size; simp; omega) (fun k e => ?_)
  rcases hr.2 with ⟨rfl, _⟩ | ⟨g, cap, cur, rfl, hb, hgb, _⟩
  · cases e
  · cases e; exact hb
/-- The document's loop. -/
def RI (l : Bs) (w : World) (a b c : Value) (W : World) : Prop :=
  ∃ (f i : Nat) (A : List Bs) (q : Option Addr) (cp : Nat), a = .slice q A.length cp ∧ b = .int .i64 f ∧ c = .int .i64 i ∧ f ≤ i ∧ i ≤ l.length + 1 ∧ (∀ k, k < i → l[k]? ≠ some 0) ∧
    (i ≤ l.length → (∀ k, f ≤ k → k < i → l[k]? ≠ some 47) ∧ A ++ names (l.drop f) = names l) ∧ (i = l.length + 1 → A = names l) ∧ A.length ≤ i ∧
    W.ownsRow w.heap.size 9 1 a A.length (A.map sv) ∧ Below w.heap.size w W
set_option maxHeartbeats 2000000 in
theorem rsplit_any (l : Bs) (w : World) : Calls Tryd.prog 5 #[.string ⟨l.toArray⟩] w (SplP l w) := by
  have hsz : (⟨l.toArray⟩ : ByteArray).size = l.length := by simp [ByteArray.size]
  by_cases h1 : 128 ≤ l.length
  · have i1 : (128 : Int) ≤ l.length := by omega
    have HG : Hid (bad l) := .inl h1
    go_enter Tryd.func5, Tryd.ntmps5
    go_wp2
    go_ret2
    exact ⟨Below.refl _ _, .inl ⟨HG.out, rfl⟩⟩
  have i1 : ¬ ((128 : Int) ≤ l.length) := by omega
  have hl : l.length < 128 := by omega
  obtain ⟨i9, z9, hi9, hz9, hs9, hb9, hzs9⟩ := str_info
  have HI : Hid (Tryd.prog.info? 9 = some i9 ∧ i9.zero = some z9 ∧ i9.size = 1 ∧ i9.bytes = 16 ∧ z9.cells.size = 1) := ⟨hi9, hz9, hs9, hb9, hzs9⟩
  clear hi9 hz9 hs9 hb9 hzs9
  go_enter Tryd.func5, Tryd.ntmps5
  go_wp2
  go_loopw [4, 5, 6] (fun a b c W => RI l w a b c W) (fun _ _ c _ => l.length + 1 - (intOf c).toNat)
  case atStart => exact ⟨0, 0, [], .none, 0, rfl, rfl, rfl, by omega, by omega, fun k hk => by omega, fun _ => ⟨fun k _ hk => by omega, rfl⟩, fun h => by omega, by simp, World.ownsRow_nil _ _ _ _, Below.refl _ _⟩
  case round =>
    obtain ⟨f, i, A, q, cp, rfl, rfl, rfl, hfi, hil, hz, hm, he, hA, hr, hb⟩ := hrel
    by_cases h2 : i ≤ l.length
    · obtain ⟨hn, hnm⟩ := hm h2
      have j1 : (i : Int) ≤ l.length := by omega
      by_cases h3 : i < l.length
      · have j2 : (i : Int) < l.length := by omega
        have j3 : ¬ ((i : Int) = l.length) := by omega
        have hget : l[i]? = some l[i] := List.getElem?_eq_getElem h3
        by_cases z0 : l[i] = 0
        · have g0 : ((((⟨l.toArray⟩ : ByteArray)[i]'(by rw [hsz]; exact h3)).toNat : Int) == 0) = true := by
            rw [getb h3]; exact (u8_eq (c := 0)).trans (decide_eq_true z0)
          have HG : Hid (bad l ∧ Below w.heap.size w wr) := ⟨.inr ⟨i, by rw [hget, z0]⟩, hb⟩
          clear hr hb hz hn hnm hm he hA z0
          go_wp2
          go_ret2
          exact ⟨HG.out.2, .inl ⟨HG.out.1, rfl⟩⟩
        have g0 : ((((⟨l.toArray⟩ : ByteArray)[i]'(by rw [hsz]; exact h3)).toNat : Int) == 0) = false := by
          rw [getb h3]; exact (u8_eq (c := 0)).trans (decide_eq_false z0)
        have hz1 : ∀ k, k < i + 1 → l[k]? ≠ some 0 := fun k hk => by
          rcases Nat.lt_or_ge k i with e | e
          · exact hz k e
          · obtain rfl : k = i := by omega
            rw [hget]; intro e; injection e with e; exact z0 e
        by_cases z1 : l[i] = 47
        · have g1 : ((((⟨l.toArray⟩ : ByteArray)[i]'(by rw [hsz]; exact h3)).toNat : Int) == 47) = true := by
            rw [getb h3]; exact (u8_eq (c := 47)).trans (decide_eq_true z1)
          have hsp := names_slash hfi hn (hget.trans (by rw [z1]))
          by_cases h4 : f < i
          · have j4 : (f : Int) < i := by omega
            have hne : (l.take i).drop f ≠ [] := by intro e; have := congrArg List.length e; simp at this; omega
            rw [nms_one hne] at hsp
            have HQ : Hid (∀ v W, W.ownsRow w.heap.size 9 1 v (A.length + 1) (A.map sv ++ [sv (((l.take i).drop f).take 14)]) → Below w.heap.size w W → ∀ q' c', v = .slice q' (A.length + 1) c' → RI l w v (.int .i64 (i + 1 : Nat)) (.int .i64 (i + 1 : Nat)) W)   := fun v W h5 h6 q' c' hv => ⟨i + 1, i + 1, A ++ [((l.take i).drop f).take 14], q', c', by rw [hv, List.length_append]; rfl, rfl, rfl, Nat.le_refl _, by omega, hz1, fun _ => ⟨fun k h7 h8 => by omega, by rw [← hnm, hsp, List.append_assoc]⟩, fun h => by omega, by rw [List.length_append]; simp; omega, by rw [List.length_append, List.map_append]; exact h5, h6⟩
            have hsl := ext_sl l f i
            have j5 : (i : Int) ≤ l.length := by omega
            have c17 := cut_any ((l.take i).drop f) wr (by have : ((l.take i).drop f).length ≤ l.length := by { simp only [List.length_drop, List.length_take]; omega }; omega)
            have HR : Hid (wr.ownsRow w.heap.size 9 1 (.slice q A.length cp) A.length (A.map sv) ∧ Below w.heap.size w wr ∧ A.length < 200) := ⟨hr, hb, by omega⟩
            clear hr hb hz hn hnm hm he hA hsp hz1
            go_wp2_with (first | (go_at_call 17; refine c17.mono ?_; rintro _ X ⟨rfl, hX⟩; obtain rfl : wr = X := hX.symm) | (at_builtin; refine wpList_append_own _ rfl _ _ 25 rfl w.heap.size 9 i9 z9 1 16 Tryd.underlying25 HI.out.1 HI.out.2.1 HI.out.2.2.1 HI.out.2.2.2.1 HI.out.2.2.2.2 (by decide) (.slice q A.length cp) A.length (A.map sv) rfl (HR.out.1.alloc _) ⟨wr.heap.size, 0, .none⟩ 1 1 [sv (((l.take i).drop f).take 14)] rfl rfl (cell_one_new wr _ 9) (sv_one _) (by have := HR.out.2.2; unfold maxLen; omega) (by have := HR.out.2.2; omega) (by have := HR.out.2.1.size; simp; omega) ?_; intro v' w1 hown hgrow _; obtain ⟨g', cap', rfl⟩ := ownsRow_succ hown; have HN : Hid (RI l w (.slice (some ⟨g', 0, .none⟩) (A.length + 1) cap') (.int .i64 (i + 1 : Nat)) (.int .i64 (i + 1 : Nat)) w1) := HQ.out _ _ hown (app_below HR.out.1 HR.out.2.1 hgrow) _ _ rfl; clear hown hgrow))
            exact ⟨HN.out, by simp [intOf]; omega⟩
          · have j4 : ¬ ((f : Int) < i) := by omega
            obtain rfl : f = i := by omega
            rw [List.drop_take_self, nms_nil, List.nil_append] at hsp
            have HQ : Hid (RI l w (.slice q A.length cp) (.int .i64 (f + 1 : Nat)) (.int .i64 (f + 1 : Nat)) wr) := ⟨f + 1, f + 1, A, q, cp, rfl, rfl, rfl, Nat.le_refl _, by omega, hz1, fun _ => ⟨fun k h7 h8 => by omega, by rw [← hnm, hsp]⟩, fun h => by omega, by omega, hr, hb⟩
            clear hr hb hz hn hnm hm he hA hsp hz1
            go_wp2
            exact ⟨HQ.out, by simp [intOf]; omega⟩
        · have g1 : ((((⟨l.toArray⟩ : ByteArray)[i]'(by rw [hsz]; exact h3)).toNat : Int) == 47) = false := by
            rw [getb h3]; exact (u8_eq (c := 47)).trans (decide_eq_false z1)
          have HQ : Hid (RI l w (.slice q A.length cp) (.int .i64 f) (.int .i64 (i + 1 : Nat)) wr) := ⟨f, i + 1, A, q, cp, rfl, rfl, rfl, by omega, by omega, hz1, fun _ => ⟨fun k h7 h8 => by
            rcases Nat.lt_or_ge k i with e | e
            · exact hn k h7 e
            · obtain rfl : k = i := by omega
              rw [hget]; intro e; injection e with e; exact z1 e, hnm⟩, fun h => by omega, by omega, hr, hb⟩
          clear hr hb hz hn hnm hm he hA hz1
          have g2 : ((i : Int) == l.length) = false := by simp only [beq_eq_false_iff_ne, ne_eq]; omega
          go_wp2
          exact ⟨HQ.out, by simp [intOf]; omega⟩
      · obtain rfl : i = l.length := by omega
        have j2 : ¬ ((l.length : Int) < l.length) := by omega
        have g2 : ((l.length : Int) == l.length) = true := by simp
        have hsp := names_end (f := f) (fun k h7 h8 => hn k h7 h8)
        by_cases h4 : f < l.length
        · have j4 : (f : Int) < l.length := by omega
          have hne : l.drop f ≠ [] := by intro e; have := congrArg List.length e; simp at this; omega
          rw [nms_one hne] at hsp
          have hz1 : True := trivial
          have HQ : Hid (∀ v W, W.ownsRow w.heap.size 9 1 v (A.length + 1) (A.map sv ++ [sv ((l.drop f).take 14)]) → Below w.heap.size w W → ∀ q' c', v = .slice q' (A.length + 1) c' → RI l w v (.int .i64 (l.length + 1 : Nat)) (.int .i64 (l.length + 1 : Nat)) W) := fun v W h5 h6 q' c' hv => ⟨l.length + 1, l.length + 1, A ++ [(l.drop f).take 14], q', c', by rw [hv, List.length_append]; rfl, rfl, rfl, Nat.le_refl _, Nat.le_refl _, fun k hk => by
            rcases Nat.lt_or_ge k l.length with e | e
            · exact hz k e
            · rw [List.getElem?_eq_none e]; simp, fun h => by omega, fun _ => by rw [← hnm, hsp], by rw [List.length_append]; simp; omega, by rw [List.length_append, List.map_append]; exact h5, h6⟩
          have hsl := ext_drop l f
          have j5 : (l.length : Int) ≤ l.length := by omega
          have c17 := cut_any (l.drop f) wr (by have : (l.drop f).length ≤ l.length := by { simp only [List.length_drop, List.length_take]; omega }; omega)
          have HR : Hid (wr.ownsRow w.heap.size 9 1 (.slice q A.length cp) A.length (A.map sv) ∧ Below w.heap.size w wr ∧ A.length < 200) := ⟨hr, hb, by omega⟩
          clear hr hb hz hn hnm hm he hA hsp hz1
          go_wp2_with (first | (go_at_call 17; refine c17.mono ?_; rintro _ X ⟨rfl, hX⟩; obtain rfl : wr = X := hX.symm) | (at_builtin; refine wpList_append_own _ rfl _ _ 25 rfl w.heap.size 9 i9 z9 1 16 Tryd.underlying25 HI.out.1 HI.out.2.1 HI.out.2.2.1 HI.out.2.2.2.1 HI.out.2.2.2.2 (by decide) (.slice q A.length cp) A.length (A.map sv) rfl (HR.out.1.alloc _) ⟨wr.heap.size, 0, .none⟩ 1 1 [sv ((l.drop f).take 14)] rfl rfl (cell_one_new wr _ 9) (sv_one _) (by have := HR.out.2.2; unfold maxLen; omega) (by have := HR.out.2.2; omega) (by have := HR.out.2.1.size; simp; omega) ?_; intro v' w1 hown hgrow _; obtain ⟨g', cap', rfl⟩ := ownsRow_succ hown; have HN : Hid (RI l w (.slice (some ⟨g', 0, .none⟩) (A.length + 1) cap') (.int .i64 (l.length + 1 : Nat)) (.int .i64 (l.length + 1 : Nat)) w1) := HQ.out _ _ hown (app_below HR.out.1 HR.out.2.1 hgrow) _ _ rfl; clear hown hgrow))
          exact ⟨HN.out, by simp [intOf]⟩
        · have j4 : ¬ ((f : Int) < l.length) := by omega
          obtain rfl : f = l.length := by omega
          rw [List.drop_length, nms_nil] at hsp
          have HQ : Hid (RI l w (.slice q A.length cp) (.int .i64 (l.length + 1 : Nat)) (.int .i64 (l.length + 1 : Nat)) wr) := ⟨l.length + 1, l.length + 1, A, q, cp, rfl, rfl, rfl, Nat.le_refl _, Nat.le_refl _, fun k hk => by
            rcases Nat.lt_or_ge k l.length with e | e
            · exact hz k e
            · rw [List.getElem?_eq_none e]; simp, fun h => by omega, fun _ => by rw [← hnm, List.drop_length, hsp, List.append_nil], by omega, hr, hb⟩
          clear hr hb hz hn hnm hm he hA hsp
          go_wp2
          exact ⟨HQ.out, by simp [intOf]⟩
    · have j1 : ¬ ((i : Int) ≤ l.length) := by omega
      obtain rfl : A = names l := he (by omega)
      have hnb : ¬ bad l := by
        rintro (e | ⟨k, e⟩)
        · omega
        · rcases Nat.lt_or_ge k i with e1 | e1
          · exact hz k e1 e
          · rw [List.getElem?_eq_none (by omega)] at e; cases e
      have HG : Hid (Below w.heap.size w wr ∧ ¬ bad l ∧ wr.ownsRow w.heap.size 9 1 (.slice q (names l).length cp) (names l).length ((names l).map sv)) := ⟨hb, hnb, hr⟩
      clear hr hb hz hm he hA
      go_wp2
      go_ret2
      exact ⟨HG.out.1, .inr ⟨HG.out.2.1, q, cp, rfl, HG.out.2.2⟩⟩
end Go.Proofs.YtockhlboeaignaaDoor
