import Derived.Test.YtbpgdepgplmpnaaFreeM
import Derived.Test.YtbpgdepgplmpnaaKeep2
import Derived.Test.YtbpgdepgplmpnaaImgM
namespace Go.Proofs.Ytbpgdepgplmpnaa
open Go.RowKit
set_option linter.unusedVariables false
set_option linter.unusedSimpArgs false
/-- Two rows of frames that the call owns, and what else is as it was. -/
structure F2 (n1 n2 : Nat) (va vb : Value) (w wr : World) (xs ys : List Value) : Prop where
  rowA : wr.ownsRow 0 76 2 va n1 xs
  rowB : wr.ownsRow 0 76 2 vb n2 ys
  os : wr.os = w.os
  tape : wr.tape = w.tape
  output : wr.output = w.output
  size : w.heap.size ≤ wr.heap.size
  block : ∀ k, k < w.heap.size → some k ≠ va.ownBlock → some k ≠ vb.ownBlock → wr.heap[k]? = w.heap[k]?
theorem F2.setA {n1 n2 g ca : Nat} {vb : Value} {w wr : World} {xs ys : List Value} (h : F2 n1 n2 (.slice (some ⟨g, 0, .none⟩) n1 ca) vb w wr xs ys) (hap : vb.ownBlock ≠ some g) (j : Nat) (u : Value) :
    F2 n1 n2 (.slice (some ⟨g, 0, .none⟩) n1 ca) vb w (wr.setCell ⟨g, j, .none⟩ u) (xs.set j u) ys := by
  obtain ⟨s1, s2⟩ := h.rowA.stored j u
  refine ⟨s1, h.rowB.kept s2 (.inr hap), s2.os.trans h.os, s2.tape.trans h.tape, s2.output.trans h.output, Nat.le_trans h.size s2.size, fun k hk h1 h2 => ?_⟩
  rw [s2.block k (Nat.lt_of_lt_of_le hk h.size) h1]
  exact h.block k hk h1 h2
theorem F2.setB {n1 n2 g cb : Nat} {va : Value} {w wr : World} {xs ys : List Value} (h : F2 n1 n2 va (.slice (some ⟨g, 0, .none⟩) n2 cb) w wr xs ys) (hap : va.ownBlock ≠ some g) (j : Nat) (u : Value) :
    F2 n1 n2 va (.slice (some ⟨g, 0, .none⟩) n2 cb) w (wr.setCell ⟨g, j, .none⟩ u) xs (ys.set j u) := by
  obtain ⟨s1, s2⟩ := h.rowB.stored j u
  refine ⟨h.rowA.kept s2 (.inr hap), s1, s2.os.trans h.os, s2.tape.trans h.tape, s2.output.trans h.output, Nat.le_trans h.size s2.size, fun k hk h1 h2 => ?_⟩
  rw [s2.block k (Nat.lt_of_lt_of_le hk h.size) h2]
  exact h.block k hk h1 h2
theorem F2.alloc {n1 n2 : Nat} {va vb : Value} {w wr : World} {xs ys : List Value} (h : F2 n1 n2 va vb w wr xs ys) (o : Obj) : F2 n1 n2 va vb w (wr.alloc o) xs ys :=
  ⟨h.rowA.alloc o, h.rowB.alloc o, h.os, h.tape, h.output, by simp only [World.size_alloc]; have := h.size; omega, fun k hk h1 h2 => (Below.heap_alloc wr o k (Nat.lt_of_lt_of_le hk h.size)).trans (h.block k hk h1 h2)⟩
theorem F2.grown {n1 n2 : Nat} {va vb m : Value} {w w1 w2 : World} {xs ys : List Value} (h : F2 n1 n2 va vb w w1 xs ys) (hg : w1.grownBy w2 m.ownBlock) (hm : Blk w.heap.size va m ∨ Blk w.heap.size vb m) (kA : w2.ownsRow 0 76 2 va n1 xs) (kB : w2.ownsRow 0 76 2 vb n2 ys) : F2 n1 n2 va vb w w2 xs ys := by
  refine ⟨kA, kB, hg.os.trans h.os, hg.tape.trans h.tape, hg.output.trans h.output, Nat.le_trans h.size hg.size, fun k hk h1 h2 => ?_⟩
  rw [hg.block k (Nat.lt_of_lt_of_le hk h.size) (fun e => ?_)]
  · exact h.block k hk h1 h2
  · rcases hm with (hm | ⟨b, hm, hb⟩) | (hm | ⟨b, hm, hb⟩)
    · exact h1 (e.trans hm)
    · rw [hm] at e; simp only [Option.some.injEq] at e; omega
    · exact h2 (e.trans hm)
    · rw [hm] at e; simp only [Option.some.injEq] at e; omega
theorem set_first2 (xs : List Value) (k n : Nat) (u : Value) (hl : xs.length = n * 2) (hk : k < n) (h : ∀ j, j < k → xs[j * 2]? = some u) : ∀ j, j < k + 1 → (xs.set (k * 2) u)[j * 2]? = some u := by
  intro j hj
  by_cases e : j = k
  · subst e; rw [List.getElem?_set_self (by omega)]
  · rw [List.getElem?_set_ne (by omega)]; exact h j (by omega)
/-- A row of frames that has grown by K: the old addresses, the new ones. -/
def Grew (n K : Nat) (wx : World) (m o u : Value) : Prop := ∃ zs, wx.ownsRow 0 76 2 m (n + K) zs ∧ (∀ j, j < n → zs[j * 2]? = some o) ∧ ∀ j, j < K → zs[(n + j) * 2]? = some u
theorem grew_app {n K : Nat} {zs : List Value} {o u d : Value} (hl : zs.length = (n + K) * 2) (h1 : ∀ j, j < n → zs[j * 2]? = some o) (h2 : ∀ j, j < K → zs[(n + j) * 2]? = some u) : (∀ j, j < n → (zs ++ [u, d])[j * 2]? = some o) ∧ ∀ j, j < K + 1 → (zs ++ [u, d])[(n + j) * 2]? = some u := by
  refine ⟨fun j hj => ?_, fun j hj => ?_⟩
  · rw [List.getElem?_append_left (by omega)]; exact h1 j hj
  · by_cases e : j = K
    · subst e; rw [List.getElem?_append_right (by omega), hl]; simp
    · rw [List.getElem?_append_left (by omega)]; exact h2 j (by omega)
set_option maxHeartbeats 4000000 in
set_option maxRecDepth 100000 in
theorem apart_any (n1 n2 g1 g2 c1 c2 : Nat) (xs0 ys0 : List Value) (w : World) (hn1 : n1 ≤ 1000000) (hn2 : n2 ≤ 1000000) (hg : g1 ≠ g2) (hF0 : F2 n1 n2 (.slice (some ⟨g1, 0, .none⟩) n1 c1) (.slice (some ⟨g2, 0, .none⟩) n2 c2) w w xs0 ys0) :
    Calls Try.prog 31 #[.slice (some ⟨g1, 0, .none⟩) n1 c1, .slice (some ⟨g2, 0, .none⟩) n2 c2] w fun e w' => e = .returned (.bool true) ∧ ∃ xs ys, F2 n1 n2 (.slice (some ⟨g1, 0, .none⟩) n1 c1) (.slice (some ⟨g2, 0, .none⟩) n2 c2) w w' xs ys := by
  have HF0 : Hid (F2 n1 n2 (.slice (some ⟨g1, 0, .none⟩) n1 c1) (.slice (some ⟨g2, 0, .none⟩) n2 c2) w w xs0 ys0) := hF0
  have hap1 : Value.ownBlock (.slice (some ⟨g1, 0, .none⟩) n1 c1) ≠ some g2 := by simp [Value.ownBlock]; exact hg
  have hap2 : Value.ownBlock (.slice (some ⟨g2, 0, .none⟩) n2 c2) ≠ some g1 := by simp [Value.ownBlock]; exact fun e => hg e.symm
  have HA : Hid (Value.ownBlock (.slice (some ⟨g1, 0, .none⟩) n1 c1) ≠ some g2 ∧ Value.ownBlock (.slice (some ⟨g2, 0, .none⟩) n2 c2) ≠ some g1) := ⟨hap1, hap2⟩
  obtain ⟨i7, hi7, hz7, hs7, hb7⟩ := info76
  clear hF0 hap1 hap2 hg
  go_enter Try.func31, Try.ntmps31
  go_wp2
  go_loopw [5] (fun k wx => ∃ (K : Nat) (xs : List Value), K ≤ n1 ∧ k = .int .i64 K ∧ F2 n1 n2 (.slice (some ⟨g1, 0, .none⟩) n1 c1) (.slice (some ⟨g2, 0, .none⟩) n2 c2) w wx xs ys0 ∧ ∀ j, j < K → xs[j * 2]? = some (.int .u64 1)) (fun k _ => n1 - (intOf k).toNat)
  case atStart => exact ⟨0, xs0, by omega, rfl, HF0.out, fun j h => by omega⟩
  case round =>
    obtain ⟨K, xs, hK, rfl, hF, h1⟩ := hrel
    by_cases hlt : K < n1
    · have hlen : xs.length = n1 * 2 := hF.rowA.1
      have ck := hF.rowA.cellAt (K * 2) (by omega)
      rw [List.getElem?_eq_getElem (by omega)] at ck
      have fk := hF.rowA.frozenAt (K * 2)
      have e1 : (K : Int) < (n1 : Int) := by omega
      generalize xs[K * 2] = old at ck
      have HS : Hid (F2 n1 n2 _ _ w _ _ _) := hF.setA HA.out.2 (K * 2) (.int .u64 1)
      have HT : Hid (∀ j, j < K + 1 → _) := set_first2 xs K n1 (.int .u64 1) hlen hlt h1
      clear hF h1
      go_wp2
      exact ⟨⟨K + 1, xs.set (K * 2) (.int .u64 1), by omega, by go_num, HS.out, HT.out⟩, by simp [intOf]; omega⟩
    · have e1 : decide ((K : Int) < (n1 : Int)) = false := by simp; omega
      have HF1 : Hid (F2 n1 n2 (.slice (some ⟨g1, 0, .none⟩) n1 c1) (.slice (some ⟨g2, 0, .none⟩) n2 c2) w wr xs ys0) := hF
      have HX : Hid (∀ j, j < n1 → xs[j * 2]? = some (.int .u64 1)) := fun j hj => h1 j (by omega)
      clear hF h1
      go_wp2
      go_loopw [6] (fun k wx => ∃ (K : Nat) (ys : List Value), K ≤ n2 ∧ k = .int .i64 K ∧ F2 n1 n2 (.slice (some ⟨g1, 0, .none⟩) n1 c1) (.slice (some ⟨g2, 0, .none⟩) n2 c2) w wx xs ys ∧ ∀ j, j < K → ys[j * 2]? = some (.int .u64 2)) (fun k _ => n2 - (intOf k).toNat)
      case atStart => exact ⟨0, ys0, by omega, rfl, HF1.out, fun j h => by omega⟩
      case round =>
        obtain ⟨K, ys, hK, rfl, hF, h1⟩ := hrel
        by_cases hlt : K < n2
        · have hlen : ys.length = n2 * 2 := hF.rowB.1
          have ck := hF.rowB.cellAt (K * 2) (by omega)
          rw [List.getElem?_eq_getElem (by omega)] at ck
          have fk := hF.rowB.frozenAt (K * 2)
          have e1 : (K : Int) < (n2 : Int) := by omega
          generalize ys[K * 2] = old at ck
          have HS : Hid (F2 n1 n2 _ _ w _ _ _) := hF.setB HA.out.1 (K * 2) (.int .u64 2)
          have HT : Hid (∀ j, j < K + 1 → _) := set_first2 ys K n2 (.int .u64 2) hlen hlt h1
          clear hF h1
          go_wp2
          exact ⟨⟨K + 1, ys.set (K * 2) (.int .u64 2), by omega, by go_num, HS.out, HT.out⟩, by simp [intOf]; omega⟩
        · have e1 : decide ((K : Int) < (n2 : Int)) = false := by simp; omega
          have HF2 : Hid (F2 n1 n2 (.slice (some ⟨g1, 0, .none⟩) n1 c1) (.slice (some ⟨g2, 0, .none⟩) n2 c2) w wr xs ys) := hF
          have HY : Hid (∀ j, j < n2 → ys[j * 2]? = some (.int .u64 2)) := fun j hj => h1 j (by omega)
          clear hF h1
          go_wp2
          have HG1 : Hid (g1 < w.heap.size ∧ g2 < w.heap.size) := ⟨(HF0.out.rowA.lt g1 rfl).2, (HF0.out.rowB.lt g2 rfl).2⟩
          go_loopw [7, 8] (fun m k wx => ∃ K : Nat, K ≤ 8 ∧ k = .int .i64 K ∧ F2 n1 n2 (.slice (some ⟨g1, 0, .none⟩) n1 c1) (.slice (some ⟨g2, 0, .none⟩) n2 c2) w wx xs ys ∧ Grew n1 K wx m (.int .u64 1) (.int .u64 3) ∧ Blk w.heap.size (.slice (some ⟨g1, 0, .none⟩) n1 c1) m) (fun _ k _ => 8 - (intOf k).toNat)
          case atStart => exact ⟨0, by omega, rfl, HF2.out, ⟨xs, HF2.out.rowA, HX.out, fun j h => by omega⟩, .inl rfl⟩
          case round =>
            obtain ⟨K, hK, rfl, hF, ⟨zs, hO, ho, hu⟩, hBk⟩ := hrel
            have hsz := hF.size
            by_cases hlt : K < 8
            · have e1 : (K : Int) < 8 := by omega
              have hlen : zs.length = (n1 + K) * 2 := hO.1
              have HF3 : Hid (F2 n1 n2 (.slice (some ⟨g1, 0, .none⟩) n1 c1) (.slice (some ⟨g2, 0, .none⟩) n2 c2) w wr xs ys) := hF
              have HO2 : Hid (wr.ownsRow 0 76 2 u7 (n1 + K) zs) := hO
              have HZ2 : Hid ((∀ j, j < n1 → zs[j * 2]? = some (.int .u64 1)) ∧ ∀ j, j < K → zs[(n1 + j) * 2]? = some (.int .u64 3)) := ⟨ho, hu⟩
              have HB2 : Hid (Blk w.heap.size (.slice (some ⟨g1, 0, .none⟩) n1 c1) u7) := hBk
              clear hF hO ho hu hBk
              go_wp2_with (first
                | (at_builtin; refine wpList_append_keepS _ rfl _ _ 65 rfl 0 76 i7 (.agg #[.int .u64 0, .slice .none 0 0]) 2 32 Try.underlying65 hi7 hz7 hs7 hb7 rfl (by decide) _ (n1 + K) zs rfl (HO2.out.alloc _) ⟨wr.heap.size, 0, .none⟩ 1 [.int .u64 3, .slice .none 0 0] rfl rfl (cell2_new _ _ _ _) (by simp [Value.oneCell']) ?c4 ?c5 (Nat.zero_le _) ?_)
                | go_in)
              case c4 => unfold maxLen; omega
              case c5 => omega
              · intro v' w2 own' grow keep b fb fc
                have fresh : ∃ b, v'.ownBlock = some b ∧ (u7.ownBlock = some b ∨ _ ≤ b) := ⟨b, fb, fc⟩
                have HW : Hid (F2 n1 n2 (.slice (some ⟨g1, 0, .none⟩) n1 c1) (.slice (some ⟨g2, 0, .none⟩) n2 c2) w w2 xs ys ∧ Grew n1 (K + 1) w2 v' (.int .u64 1) (.int .u64 3) ∧ Blk w.heap.size (.slice (some ⟨g1, 0, .none⟩) n1 c1) v') := by
                  have fa := HF3.out.alloc (.cells #[.int .u64 3, .slice .none 0 0] 76)
                  have ga := grew_app (d := .slice .none 0 0) hlen HZ2.out.1 HZ2.out.2
                  refine ⟨fa.grown grow (.inl HB2.out) (keep _ _ _ (fun _ => by omega) fa.rowA) (keep _ _ _ (fun e => ?_) fa.rowB), ⟨_, own', ga.1, ga.2⟩, HB2.out.next fa.size (by simpa only [World.size_alloc] using fresh)⟩
                  rcases HB2.out with h | ⟨b', h, hb'⟩
                  · exact absurd (h.symm.trans e.symm).symm (fun e' => HA.out.1 (e'.symm.trans rfl))
                  · have := e.trans h
                    simp only [Value.ownBlock, Option.some.injEq] at this
                    have := HG1.out.2
                    omega
                clear own' grow keep fresh fb fc
                go_wp2
                go_roundw
                case rel =>
                  refine ⟨K + 1, by omega, ?_, HW.out.1, HW.out.2.1, HW.out.2.2⟩
                  go_num
                case measure => simp [intOf]; omega
            · have e1 : decide ((K : Int) < 8) = false := by simp; omega
              obtain rfl : K = 8 := by omega
              rcases hO.2 with ⟨_, h0⟩ | ⟨gx, cx, curx, rfl, _, hgx, _⟩
              · omega
              have HF3 : Hid (F2 n1 n2 (.slice (some ⟨g1, 0, .none⟩) n1 c1) (.slice (some ⟨g2, 0, .none⟩) n2 c2) w wr xs ys) := hF
              have HGr : Hid (Grew n1 8 wr (.slice (some ⟨gx, 0, .none⟩) (n1 + 8) cx) (.int .u64 1) (.int .u64 3)) := ⟨zs, hO, ho, hu⟩
              have HXb : Hid (gx ≠ g2 ∧ gx < wr.heap.size) := by
                refine ⟨fun e => ?_, (Array.getElem?_eq_some_iff.1 hgx).1⟩
                rcases hBk with h | ⟨b', h, hb'⟩
                · simp only [Value.ownBlock, Option.some.injEq] at h
                  exact HA.out.1 (by simp only [Value.ownBlock, Option.some.injEq]; omega)
                · simp only [Value.ownBlock, Option.some.injEq] at h
                  have := HG1.out.2
                  omega
              clear hF hO ho hu hBk hgx
              generalize hS1 : wr.heap.size = S1 at HXb hsz
              have hS : Hid (wr.heap.size = S1) := hS1
              clear hS1
              go_wp2
              go_loopw [9, 10] (fun m k wx => ∃ K : Nat, K ≤ 8 ∧ k = .int .i64 K ∧ F2 n1 n2 (.slice (some ⟨g1, 0, .none⟩) n1 c1) (.slice (some ⟨g2, 0, .none⟩) n2 c2) w wx xs ys ∧ Grew n2 K wx m (.int .u64 2) (.int .u64 4) ∧ Blk S1 (.slice (some ⟨g2, 0, .none⟩) n2 c2) m ∧ Grew n1 8 wx (.slice (some ⟨gx, 0, .none⟩) (n1 + 8) cx) (.int .u64 1) (.int .u64 3) ∧ S1 ≤ wx.heap.size) (fun _ k _ => 8 - (intOf k).toNat)
              case atStart => exact ⟨0, by omega, rfl, HF3.out, ⟨ys, HF3.out.rowB, HY.out, fun j h => by omega⟩, .inl rfl, HGr.out, Nat.le_of_eq hS.out.symm⟩
              case round =>
                obtain ⟨K, hK, rfl, hF, ⟨zs, hO, ho, hu⟩, hBk, hGr, hS1⟩ := hrel
                by_cases hlt : K < 8
                · have e1 : (K : Int) < 8 := by omega
                  have hlen : zs.length = (n2 + K) * 2 := hO.1
                  have HF4 : Hid (F2 n1 n2 (.slice (some ⟨g1, 0, .none⟩) n1 c1) (.slice (some ⟨g2, 0, .none⟩) n2 c2) w wr xs ys) := hF
                  have HO2 : Hid (wr.ownsRow 0 76 2 u9 (n2 + K) zs) := hO
                  have HZ2 : Hid ((∀ j, j < n2 → zs[j * 2]? = some (.int .u64 2)) ∧ ∀ j, j < K → zs[(n2 + j) * 2]? = some (.int .u64 4)) := ⟨ho, hu⟩
                  have HB2 : Hid (Blk S1 (.slice (some ⟨g2, 0, .none⟩) n2 c2) u9) := hBk
                  have HG2 : Hid (Grew n1 8 wr (.slice (some ⟨gx, 0, .none⟩) (n1 + 8) cx) (.int .u64 1) (.int .u64 3)) := hGr
                  clear hF hO ho hu hBk hGr
                  go_wp2_with (first
                    | (at_builtin; refine wpList_append_keepS _ rfl _ _ 65 rfl 0 76 i7 (.agg #[.int .u64 0, .slice .none 0 0]) 2 32 Try.underlying65 hi7 hz7 hs7 hb7 rfl (by decide) _ (n2 + K) zs rfl (HO2.out.alloc _) ⟨wr.heap.size, 0, .none⟩ 1 [.int .u64 4, .slice .none 0 0] rfl rfl (cell2_new _ _ _ _) (by simp [Value.oneCell']) ?c4 ?c5 (Nat.zero_le _) ?_)
                    | go_in)
                  case c4 => unfold maxLen; omega
                  case c5 => omega
                  · intro v' w2 own' grow keep b fb fc
                    have fresh : ∃ b, v'.ownBlock = some b ∧ (u9.ownBlock = some b ∨ _ ≤ b) := ⟨b, fb, fc⟩
                    have HW : Hid (F2 n1 n2 (.slice (some ⟨g1, 0, .none⟩) n1 c1) (.slice (some ⟨g2, 0, .none⟩) n2 c2) w w2 xs ys ∧ Grew n2 (K + 1) w2 v' (.int .u64 2) (.int .u64 4) ∧ Blk S1 (.slice (some ⟨g2, 0, .none⟩) n2 c2) v' ∧ Grew n1 8 w2 (.slice (some ⟨gx, 0, .none⟩) (n1 + 8) cx) (.int .u64 1) (.int .u64 3) ∧ S1 ≤ w2.heap.size) := by
                      have fa := HF4.out.alloc (.cells #[.int .u64 4, .slice .none 0 0] 76)
                      have ga := grew_app (d := .slice .none 0 0) hlen HZ2.out.1 HZ2.out.2
                      have hs2 : S1 ≤ (wr.alloc (.cells #[.int .u64 4, .slice .none 0 0] 76)).heap.size := by simp only [World.size_alloc]; omega
                      have hne : ∀ g, g ≠ g2 → g < S1 → some g ≠ u9.ownBlock := fun g h1 h2 e => by
                        rcases HB2.out with h | ⟨b', h, hb'⟩
                        · have := e.trans h
                          simp only [Value.ownBlock, Option.some.injEq] at this
                          exact h1 this
                        · have := e.trans h
                          simp only [Option.some.injEq] at this
                          omega
                      obtain ⟨zx, r1, r2, r3⟩ := HG2.out
                      exact ⟨fa.grown grow (.inr (HB2.out.mono hsz)) (keep _ _ _ (fun e => absurd e (hne g1 (fun e' => HA.out.1 (by simp only [Value.ownBlock, Option.some.injEq]; exact e')) (by have := HG1.out.1; omega))) fa.rowA) (keep _ _ _ (fun _ => by omega) fa.rowB), ⟨_, own', ga.1, ga.2⟩, HB2.out.next hs2 (by simpa only [World.size_alloc] using fresh), ⟨zx, keep _ _ _ (fun e => absurd e (hne gx HXb.out.1 HXb.out.2)) (r1.alloc _), r2, r3⟩, Nat.le_trans hs2 grow.size⟩
                    clear own' grow keep fresh fb fc
                    go_wp2
                    go_roundw
                    case rel =>
                      first | exact ⟨K + 1, by omega, by go_num, HW.out.1, HW.out.2.1, HW.out.2.2.1, HW.out.2.2.2.1, HW.out.2.2.2.2⟩ | exact ⟨_, _, _, _, _, _, ⟨K + 1, by omega, by go_num, HW.out.1, HW.out.2.1, HW.out.2.2.1, HW.out.2.2.2.1, HW.out.2.2.2.2⟩, rfl⟩ | exact ⟨_, _, _, _, _, _, _, ⟨K + 1, by omega, by go_num, HW.out.1, HW.out.2.1, HW.out.2.2.1, HW.out.2.2.2.1, HW.out.2.2.2.2⟩, rfl⟩ | exact ⟨_, _, _, _, _, _, _, _, ⟨K + 1, by omega, by go_num, HW.out.1, HW.out.2.1, HW.out.2.2.1, HW.out.2.2.2.1, HW.out.2.2.2.2⟩, rfl⟩ | exact ⟨_, _, _, _, _, _, _, _, _, ⟨K + 1, by omega, by go_num, HW.out.1, HW.out.2.1, HW.out.2.2.1, HW.out.2.2.2.1, HW.out.2.2.2.2⟩, rfl⟩ | exact ⟨_, _, _, _, _, _, _, _, _, _, ⟨K + 1, by omega, by go_num, HW.out.1, HW.out.2.1, HW.out.2.2.1, HW.out.2.2.2.1, HW.out.2.2.2.2⟩, rfl⟩ | exact ⟨_, _, _, _, _, _, _, _, _, _, _, ⟨K + 1, by omega, by go_num, HW.out.1, HW.out.2.1, HW.out.2.2.1, HW.out.2.2.2.1, HW.out.2.2.2.2⟩, rfl⟩ | exact ⟨_, _, _, _, _, _, _, _, _, _, _, _, ⟨K + 1, by omega, by go_num, HW.out.1, HW.out.2.1, HW.out.2.2.1, HW.out.2.2.2.1, HW.out.2.2.2.2⟩, rfl⟩ | exact ⟨_, _, _, _, _, _, _, _, _, _, _, _, _, ⟨K + 1, by omega, by go_num, HW.out.1, HW.out.2.1, HW.out.2.2.1, HW.out.2.2.2.1, HW.out.2.2.2.2⟩, rfl⟩ | exact ⟨_, _, _, _, _, _, _, _, _, _, _, _, _, _, ⟨K + 1, by omega, by go_num, HW.out.1, HW.out.2.1, HW.out.2.2.1, HW.out.2.2.2.1, HW.out.2.2.2.2⟩, rfl⟩ | exact ⟨_, _, _, _, _, _, _, _, _, _, _, _, _, _, _, ⟨K + 1, by omega, by go_num, HW.out.1, HW.out.2.1, HW.out.2.2.1, HW.out.2.2.2.1, HW.out.2.2.2.2⟩, rfl⟩
                    case measure => simp [intOf]; omega
                · have e1 : decide ((K : Int) < 8) = false := by simp; omega
                  obtain rfl : K = 8 := by omega
                  rcases hO.2 with ⟨_, h0⟩ | ⟨gy, cy, cury, rfl, _, hgy, _⟩
                  · omega
                  obtain ⟨zx, r1, r2, r3⟩ := hGr
                  have HC : Hid (∀ i, (i < n1 → wr.cell? ⟨gx, i * 2, .none⟩ = some (.int .u64 1) ∧ wr.cell? ⟨g1, i * 2, .none⟩ = some (.int .u64 1)) ∧ (n1 ≤ i → i < n1 + 8 → wr.cell? ⟨gx, i * 2, .none⟩ = some (.int .u64 3))) := fun i => ⟨fun hi => ⟨(r1.cellAt (i * 2) (by omega)).trans (r2 i hi), (hF.rowA.cellAt (i * 2) (by omega)).trans (HX.out i hi)⟩, fun h1 h2 => (r1.cellAt (i * 2) (by omega)).trans (by have := r3 (i - n1) (by omega); rwa [show n1 + (i - n1) = i by omega] at this)⟩
                  have HE : Hid (∀ i, (i < n2 → wr.cell? ⟨gy, i * 2, .none⟩ = some (.int .u64 2) ∧ wr.cell? ⟨g2, i * 2, .none⟩ = some (.int .u64 2)) ∧ (n2 ≤ i → i < n2 + 8 → wr.cell? ⟨gy, i * 2, .none⟩ = some (.int .u64 4))) := fun i => ⟨fun hi => ⟨(hO.cellAt (i * 2) (by omega)).trans (ho i hi), (hF.rowB.cellAt (i * 2) (by omega)).trans (HY.out i hi)⟩, fun h1 h2 => (hO.cellAt (i * 2) (by omega)).trans (by have := hu (i - n2) (by omega); rwa [show n2 + (i - n2) = i by omega] at this)⟩
                  have HF5 : Hid (F2 n1 n2 (.slice (some ⟨g1, 0, .none⟩) n1 c1) (.slice (some ⟨g2, 0, .none⟩) n2 c2) w wr xs ys) := hF
                  clear hF hO ho hu hBk hgy r1 r2 r3
                  go_wp2
                  go_loopw [11] (fun k wx => ∃ I : Nat, I ≤ n1 + 8 ∧ k = .int .i64 I ∧ wx = wr) (fun k _ => n1 + 8 - (intOf k).toNat)
                  case atStart => exact ⟨0, by omega, rfl, rfl⟩
                  case round =>
                    obtain ⟨I, hI, rfl, rfl⟩ := hrel
                    by_cases hI8 : I < n1 + 8
                    · have e1 : (I : Int) < (n1 : Int) + 8 := by omega
                      by_cases hIn : I < n1
                      · have e2 : (I : Int) < (n1 : Int) := by omega
                        have e3 : ¬ ((n1 : Int) ≤ (I : Int)) := by omega
                        obtain ⟨q0, q1⟩ := (HC.out I).1 hIn
                        go_wp2
                        exact ⟨⟨I + 1, by omega, by go_num, trivial⟩, by simp [intOf]; omega⟩
                      · have e2 : ¬ ((I : Int) < (n1 : Int)) := by omega
                        have e3 : (n1 : Int) ≤ (I : Int) := by omega
                        have q0 := (HC.out I).2 (by omega) hI8
                        go_wp2
                        exact ⟨⟨I + 1, by omega, by go_num, trivial⟩, by simp [intOf]; omega⟩
                    · have e1 : ¬ ((I : Int) < (n1 : Int) + 8) := by omega
                      go_wp2
                      go_loopw [12] (fun k wx => ∃ I : Nat, I ≤ n2 + 8 ∧ k = .int .i64 I ∧ wx = wr) (fun k _ => n2 + 8 - (intOf k).toNat)
                      case atStart => exact ⟨0, by omega, rfl, rfl⟩
                      case round =>
                        obtain ⟨J, hJ, rfl, rfl⟩ := hrel
                        by_cases hJ8 : J < n2 + 8
                        · have e4 : (J : Int) < (n2 : Int) + 8 := by omega
                          by_cases hJn : J < n2
                          · have e2 : (J : Int) < (n2 : Int) := by omega
                            have e3 : ¬ ((n2 : Int) ≤ (J : Int)) := by omega
                            obtain ⟨q0, q1⟩ := (HE.out J).1 hJn
                            go_wp2
                            exact ⟨⟨J + 1, by omega, by go_num, trivial⟩, by simp [intOf]; omega⟩
                          · have e2 : ¬ ((J : Int) < (n2 : Int)) := by omega
                            have e3 : (n2 : Int) ≤ (J : Int) := by omega
                            have q0 := (HE.out J).2 (by omega) hJ8
                            go_wp2
                            exact ⟨⟨J + 1, by omega, by go_num, trivial⟩, by simp [intOf]; omega⟩
                        · have e4 : ¬ ((J : Int) < (n2 : Int) + 8) := by omega
                          go_wp2
                          go_ret
                          exact ⟨rfl, xs, ys, HF5.out⟩
end Go.Proofs.Ytbpgdepgplmpnaa
