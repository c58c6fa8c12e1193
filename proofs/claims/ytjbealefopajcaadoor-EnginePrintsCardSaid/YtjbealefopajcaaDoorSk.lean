import Derived.Test.YtjbealefopajcaaDoorSj
namespace Go.Proofs.YtjbealefopajcaaDoor
open Go Go.RowKit Rg
set_option linter.unusedVariables false
set_option linter.unusedSimpArgs false
theorem at_ix (s : ByteArray) (i : Nat) (h : i < s.size) : (bsI s)[i]? = some ((s[i].toNat : Nat) : Int) := by
  unfold bsI
  rw [List.getElem?_map]
  have : s.data.toList[i]? = some s[i] := by
    rw [Array.getElem?_toList]
    exact Array.getElem?_eq_getElem h
  rw [this]
  rfl
set_option maxHeartbeats 2000000 in
theorem quote_any (s : ByteArray) (hs : s.size ≤ 10000000000) (w : World) : Calls Tryd.prog 29 #[.string s] w fun e w' => e = .returned (.string (toB (qt (bsI s)))) ∧ Below w.heap.size w w' := by
  obtain ⟨i3, z3, hi3, hz3, hs3, hb3, hzs3⟩ := byte_info
  have HI : Hid (Tryd.prog.info? 5 = some i3 ∧ i3.zero = some z3 ∧ i3.size = 1 ∧ i3.bytes = 1 ∧ z3.cells.size = 1) := ⟨hi3, hz3, hs3, hb3, hzs3⟩
  clear hi3 hz3 hs3 hb3 hzs3
  obtain ⟨base, hbase⟩ : ∃ base, base = w.heap.size := ⟨_, rfl⟩
  rw [← hbase]
  have HB : Hid (base = w.heap.size ∧ s.size ≤ 10000000000) := ⟨hbase, hs⟩
  have own0 : (w.alloc (.cells #[.int .u8 34] 5)).ownsRow base 5 1 (.slice (some ⟨base, 0, .none⟩) 1 1) 1 (by8 [34]) := by
    rw [hbase]
    exact bx_own (t := 5) (k := 1) (cs := [.int .u8 34]) (by show (w.heap.push _)[w.heap.size]? = _; simp) rfl (Nat.le_refl _)
  have HO0 : Hid ((w.alloc (.cells #[.int .u8 34] 5)).ownsRow base 5 1 (.slice (some ⟨base, 0, .none⟩) 1 1) 1 (by8 [34]) ∧ Below base w (w.alloc (.cells #[.int .u8 34] 5))) := ⟨own0, by rw [hbase]; exact below1 _ _⟩
  obtain ⟨n, hn⟩ : ∃ n, n = s.size := ⟨_, rfl⟩
  have HN : Hid (n = s.size ∧ n ≤ 10000000000) := ⟨hn, by omega⟩
  clear own0 hs
  go_enter Tryd.func29, Tryd.ntmps29
  go_upto_region 2 with fail
  rw [← hbase]
  generalize (w.alloc (.cells #[.int .u8 34] 5)) = w1 at *
  clear hbase
  have e0 : ((s.size : Nat) : Int) = (n : Int) := by rw [hn]
  clear hn
  go_wp2_with fail
  go_loopw [3, 8] (fun v k wr => ∃ i : Nat, i ≤ n ∧ k = .int .i64 i ∧ ∃ q m cq, v = .slice q m cq ∧ Hid (wr.ownsRow base 5 1 (.slice q m cq) m (by8 ([34] ++ ((bsI s).take i).flatMap qb)) ∧ ([34] ++ ((bsI s).take i).flatMap qb).length = m ∧ Below base w wr)) (fun _ k _ => (n - intOf k).toNat)
  case atStart => exact ⟨0, by omega, rfl, _, _, _, rfl, HO0.out.1, rfl, HO0.out.2⟩
  case round =>
    obtain ⟨i, hi, rfl, q, m, cq, rfl, HO⟩ := hrel
    have hm : m ≤ 50000000000 := by
      have h1 := HO.out.2.1
      have h2 := flat_len4 ((bsI s).take i)
      have h3 := HN.out.2
      rw [List.length_append] at h1
      have h4 : ((bsI s).take i).length ≤ i := List.length_take_le _ _
      simp only [List.length_singleton] at h1
      omega
    have HM : Hid (m ≤ 50000000000) := hm
    clear hm
    by_cases hlt : i < n
    · have g0 : (i : Int) < n := by omega
      have hs : i < s.size := by rw [← HN.out.1]; exact hlt
      have hsz : ((i : Nat) : Int).toNat < s.size := by simpa using hs
      have w1 : IntKind.i64.wrap ((i : Int) + 1) = (i : Int) + 1 := by rw [IntKind.wrap_i64]; have := HN.out.2; omega
      have c40 := quoted_any (base := base) (Nat.le_trans (by rw [HB.out.1]; exact Nat.le_refl _) HO.out.2.2.size) HO.out.1 HO.out.2.1 (by have := HM.out; omega) ((s[i].toNat : Nat) : Int) (by have := s[i].toNat_lt; omega)
      have HT : Hid ([34] ++ ((bsI s).take i).flatMap qb ++ qb ((s[i].toNat : Nat) : Int) = [34] ++ ((bsI s).take (i + 1)).flatMap qb) := by show _ = _; rw [List.append_assoc, take_flat (at_ix s i hs)]
      rw [HT.out] at c40
      go_wp2_with (go_at_call 40; refine c40.mono ?_; rintro _ w9 ⟨p5, c5, rfl, o5, b5⟩; have O5 : Hid (w9.ownsRow base 5 1 (.slice p5 ([34] ++ ((bsI s).take (i + 1)).flatMap qb).length c5) ([34] ++ ((bsI s).take (i + 1)).flatMap qb).length (by8 ([34] ++ ((bsI s).take (i + 1)).flatMap qb)) ∧ Below base wr w9) := ⟨o5, b5⟩; clear o5 b5; generalize hL : ([34] ++ ((bsI s).take (i + 1)).flatMap qb).length = L at *; have HL : Hid (([34] ++ ((bsI s).take (i + 1)).flatMap qb).length = L) := hL; clear hL)
      exact ⟨⟨i + 1, by omega, by go_num, _, _, _, rfl, O5.out.1, HL.out, HO.out.2.2.trans O5.out.2⟩, by simp only [intOf]; omega⟩
    · have g0 : ¬ (i : Int) < n := by omega
      obtain rfl : i = n := by omega
      have hb : base ≤ wr.heap.size := Nat.le_trans (by rw [HB.out.1]; exact Nat.le_refl _) HO.out.2.2.size
      have HBW : Hid (base ≤ wr.heap.size) := hb
      clear hb
      go_wp2_with (first | (at_builtin; refine wpList_append_own _ rfl _ _ 41 rfl base 5 i3 z3 1 1 Tryd.underlying41 HI.out.1 HI.out.2.1 HI.out.2.2.1 HI.out.2.2.2.1 HI.out.2.2.2.2 (by decide) (.slice q m cq) m (by8 ([34] ++ ((bsI s).take i).flatMap qb)) rfl (HO.out.1.alloc _) ⟨wr.heap.size, 0, .none⟩ 1 1 (by8 [34]) rfl rfl (le_cell1_new _ _ _) (by8_one _) ?c4 ?c5 ?c6 ?_) | fail)
      case c4 => have := HM.out; simp only [maxLen]; omega
      case c5 => have := HM.out; omega
      case c6 => exact Nat.le_trans HBW.out (by simp)
      intro v' w2 own' grow fb
      clear fb
      have HG : Hid (Below base w w2) := HO.out.2.2.trans (below_append (Below.refl _ _) _ grow HBW.out (fun k hk => own_block HO.out.1 k hk))
      obtain ⟨p', c', rfl⟩ := one_slice own'
      rw [← by8_app] at own'
      have hq : 34 :: ((bsI s).take i).flatMap qb ++ [34] = qt (bsI s) := by
        unfold qt
        rw [List.take_of_length_le (by rw [bsI_len, ← HN.out.1]; exact Nat.le_refl _)]
        rfl
      rw [hq] at own'
      have hl : (qt (bsI s)).length = m + 1 := by
        have h1 := HO.out.2.1
        rw [← hq]
        simp only [List.length_append, List.length_cons, List.length_nil] at h1 ⊢
        omega
      have hcv := conv_own own' hl (by omega)
      clear own' grow hq hl
      go_wp2
      go_ret
      exact ⟨rfl, HG.out⟩
end Go.Proofs.YtjbealefopajcaaDoor
