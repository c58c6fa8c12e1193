import Derived.Test.YtjbealefopajcaaDoorSv
namespace Go.Proofs.YtjbealefopajcaaDoor
open Go Go.RowKit Rg
set_option linter.unusedVariables false
set_option linter.unusedSimpArgs false
/-! WriteString, WriteByte, line. -/
theorem str_by8 (s : ByteArray) : Lib.strCells s = by8 (bsI s) := by
  unfold Lib.strCells by8 bsI
  rw [List.map_map]
  rfl
set_option maxRecDepth 100000 in
set_option maxHeartbeats 2000000 in
theorem writeString_any {w : World} {base b : Nat} {ys : List Int} (h : Wr w base b ys) (hb : base ≤ w.heap.size) (s : ByteArray) (hl : ys.length + s.size ≤ 140000000000000) : Calls Tryd.prog 36 #[.pointer (some ⟨b, 0, .none⟩), .string s] w fun e w' => e = .returned (.tuple #[.int .i64 s.size, .nilIface]) ∧ Wr w' base b (ys ++ bsI s) ∧ KW base b w w' := by
  obtain ⟨i3, hi3, hz3, hs3, hb3⟩ := byte_info2
  have HI : Hid (Tryd.prog.info? 5 = some i3 ∧ i3.zero = some (.int .u8 0) ∧ i3.size = 1 ∧ i3.bytes = 1) := ⟨hi3, hz3, hs3, hb3⟩
  clear hi3 hz3 hs3 hb3
  have c44 := check_any h
  have HB : Hid (base ≤ b ∧ base ≤ w.heap.size) := ⟨h.1, hb⟩
  clear h hb
  go_enter Tryd.func36, Tryd.ntmps36
  go_upto_region 2 with (go_at_call 44; refine c44.mono ?_; rintro _ w1 ⟨rfl, k1, v, hv, ho⟩; have H1 : Hid (KW base b w w1 ∧ w1.heap[b]? = some (.cells #[.pointer (some ⟨b, 0, .none⟩), v] 71 (0, 0)) ∧ w1.ownsRow base 5 1 v ys.length (by8 ys)) := ⟨k1, hv, ho⟩; clear k1 ho c44)
  have c1 : w1.cell? ⟨b, 1, .none⟩ = some v := cell_heap hv
  clear hv
  go_wp2_with (first | (at_builtin; refine Lib.wpList_append_own_string _ rfl _ _ 41 9 rfl base 5 i3 Tryd.underlying41 Tryd.underlying9 HI.out.1 HI.out.2.1 HI.out.2.2.1 HI.out.2.2.2 v ys.length (by8 ys) rfl H1.out.2.2 s rfl ?c4 ?c5 ?c6 ?_) | fail)
  case c4 => simp only [maxLen]; omega
  case c5 => omega
  case c6 => exact Nat.le_trans HB.out.2 H1.out.1.size
  intro v' w2 own' grow fb
  clear fb
  have hbk : w2.heap[b]? = some (.cells #[.pointer (some ⟨b, 0, .none⟩), v] 71 (0, 0)) := (grow.block b (hp_lt H1.out.2.1) (fun e => own_not H1.out.2.2 H1.out.2.1 e.symm)).trans H1.out.2.1
  have d1 : w2.cell? ⟨b, 1, .none⟩ = some v := cell_heap hbk
  have f1 : w2.frozen? ⟨b, 1, .none⟩ = false := frozen_heap hbk
  have HW2 : Hid (w2.heap[b]? = some (.cells #[.pointer (some ⟨b, 0, .none⟩), v] 71 (0, 0)) ∧ w2.ownsRow base 5 1 v' (ys.length + s.size) (by8 ys ++ Lib.strCells s) ∧ KW base b w w2) := ⟨hbk, own', H1.out.1.trans (kw_grow H1.out.2.2 grow)⟩
  obtain ⟨p', c', rfl⟩ := one_slice own'
  clear own' grow hbk
  go_wp2
  go_ret2
  have hq := HW2.out.2.1
  rw [str_by8, ← by8_app] at hq
  refine ⟨rfl, ⟨HB.out.1, _, _, .inr rfl, setCell_heap w2 b 1 _ HW2.out.1, ?_⟩, HW2.out.2.2.trans (kw_set _ _)⟩
  rw [List.length_append, bsI_len]
  exact own_keep_at hq (fun g hg => Below.heap_setCell _ _ _ _ (fun e => own_not hq HW2.out.1 (by rw [hg, e])))
set_option maxRecDepth 100000 in
set_option maxHeartbeats 2000000 in
theorem writeByte_any {w : World} {base b : Nat} {ys : List Int} (h : Wr w base b ys) (hb : base ≤ w.heap.size) (x : Int) (hl : ys.length + 1 ≤ 140000000000000) : Calls Tryd.prog 38 #[.pointer (some ⟨b, 0, .none⟩), .int .u8 x] w fun e w' => e = .returned .nilIface ∧ Wr w' base b (ys ++ [x]) ∧ KW base b w w' := by
  obtain ⟨i3, z3, hi3, hz3, hs3, hb3, hzs3⟩ := byte_info
  have HI : Hid (Tryd.prog.info? 5 = some i3 ∧ i3.zero = some z3 ∧ i3.size = 1 ∧ i3.bytes = 1 ∧ z3.cells.size = 1) := ⟨hi3, hz3, hs3, hb3, hzs3⟩
  clear hi3 hz3 hs3 hb3 hzs3
  have c44 := check_any h
  have HB : Hid (base ≤ b ∧ base ≤ w.heap.size) := ⟨h.1, hb⟩
  clear h hb
  go_enter Tryd.func38, Tryd.ntmps38
  go_upto_region 2 with (go_at_call 44; refine c44.mono ?_; rintro _ w1 ⟨rfl, k1, v, hv, ho⟩; have H1 : Hid (KW base b w w1 ∧ w1.heap[b]? = some (.cells #[.pointer (some ⟨b, 0, .none⟩), v] 71 (0, 0)) ∧ w1.ownsRow base 5 1 v ys.length (by8 ys)) := ⟨k1, hv, ho⟩; clear k1 ho c44)
  have c1 : w1.cell? ⟨b, 1, .none⟩ = some v := cell_heap hv
  clear hv
  go_wp2_with (first | (at_builtin; refine wpList_append_own _ rfl _ _ 41 rfl base 5 i3 z3 1 1 Tryd.underlying41 HI.out.1 HI.out.2.1 HI.out.2.2.1 HI.out.2.2.2.1 HI.out.2.2.2.2 (by decide) v ys.length (by8 ys) rfl (H1.out.2.2.alloc _) ⟨w1.heap.size, 0, .none⟩ 1 1 (by8 [x]) rfl rfl (le_cell1_new _ _ _) (by8_one _) ?c4 ?c5 ?c6 ?_) | fail)
  case c4 => simp only [maxLen]; omega
  case c5 => omega
  case c6 => exact Nat.le_trans HB.out.2 (Nat.le_trans H1.out.1.size (by simp))
  intro v' w2 own' grow fb
  clear fb
  have hba : (w1.alloc (.cells #[.int .u8 x] 5)).heap[b]? = some (.cells #[.pointer (some ⟨b, 0, .none⟩), v] 71 (0, 0)) := (Below.heap_alloc _ _ _ (hp_lt H1.out.2.1)).trans H1.out.2.1
  have hoa : (w1.alloc (.cells #[.int .u8 x] 5)).ownsRow base 5 1 v ys.length (by8 ys) := H1.out.2.2.alloc _
  have hbk : w2.heap[b]? = some (.cells #[.pointer (some ⟨b, 0, .none⟩), v] 71 (0, 0)) := (grow.block b (hp_lt hba) (fun e => own_not hoa hba e.symm)).trans hba
  have d1 : w2.cell? ⟨b, 1, .none⟩ = some v := cell_heap hbk
  have f1 : w2.frozen? ⟨b, 1, .none⟩ = false := frozen_heap hbk
  have HW2 : Hid (w2.heap[b]? = some (.cells #[.pointer (some ⟨b, 0, .none⟩), v] 71 (0, 0)) ∧ w2.ownsRow base 5 1 v' (ys.length + 1) (by8 ys ++ by8 [x]) ∧ KW base b w w2) := ⟨hbk, own', (H1.out.1.trans (KW.of (below1 _ _))).trans (kw_grow hoa grow)⟩
  obtain ⟨p', c', rfl⟩ := one_slice own'
  clear own' grow hbk hba hoa
  go_wp2
  go_ret
  have hq := HW2.out.2.1
  rw [← by8_app] at hq
  refine ⟨rfl, ⟨HB.out.1, _, _, .inr rfl, setCell_heap w2 b 1 _ HW2.out.1, ?_⟩, HW2.out.2.2.trans (kw_set _ _)⟩
  rw [List.length_append]
  exact own_keep_at hq (fun g hg => Below.heap_setCell _ _ _ _ (fun e => own_not hq HW2.out.1 (by rw [hg, e])))
end Go.Proofs.YtjbealefopajcaaDoor
namespace Go.Proofs.YtjbealefopajcaaDoor
open Go Go.RowKit Rg
set_option linter.unusedVariables false
set_option linter.unusedSimpArgs false
/-! A line of words. -/
def jnI (xs : List ByteArray) : List Int := (Lib.join (xs.map (·.data.toList)) [32]).map fun b => ((b.toNat : Nat) : Int)
theorem bsI_mk (l : List UInt8) : bsI ⟨l.toArray⟩ = l.map fun b => ((b.toNat : Nat) : Int) := rfl
theorem jn_len (xs : List ByteArray) : (jnI xs).length = (Lib.join (xs.map (·.data.toList)) [32]).length := by unfold jnI; rw [List.length_map]
set_option maxRecDepth 100000 in
set_option maxHeartbeats 2000000 in
theorem line_any {w : World} {base b : Nat} {ys : List Int} (h : Wr w base b ys) (hb : base ≤ w.heap.size) {q o c : Nat} {xs : List ByteArray} (hc : ∀ (j : Nat) x, xs[j]? = some x → w.cell? ⟨q, o + j, .none⟩ = some (.string x)) (hq : q < w.heap.size) (hxl : xs.length ≤ c) (hx9 : xs.length ≤ 1000) (hl : ys.length + (jnI xs).length + 1 ≤ 140000000000000) :
    Calls Tryd.prog 27 #[.pointer (some ⟨b, 0, .none⟩), .slice (some ⟨q, o, .none⟩) xs.length c] w fun e w' => e = .returned (.tuple #[]) ∧ Wr w' base b (ys ++ jnI xs ++ [10]) ∧ KW base b w w' := by
  have HJ : Hid ((jnI xs).length = (Lib.join (xs.map (·.data.toList)) [32]).length) := jn_len xs
  have c37 := Tryd.strings_Join q o c xs ⟨#[32]⟩ w.drew hc hq (by omega) hxl (by have := HJ.out; show (Lib.join _ [32]).length ≤ _; omega)
  have HB : Hid (Wr w base b ys ∧ base ≤ w.heap.size) := ⟨h, hb⟩
  clear h hb hc hq hxl
  have hT : True := trivial
  obtain ⟨n, hn⟩ : ∃ n, n = xs.length := ⟨_, rfl⟩
  rw [← hn] at c37 ⊢
  clear hn
  go_enter Tryd.func27, Tryd.ntmps27
  go_upto_region 0 with fail
  refine wp_region_held_drew (S := fun _ => True) (by kernel_rfl) trivial (fun hHeld => ?_)
  refine nT 0 (.pointer (some ⟨b, 0, .none⟩)) rfl ?_
  simp only [x0,x1,x2,x3,x4,x5,x6]
  refine nT 1 (.pointer (some ⟨b, 0, .none⟩)) rfl ?_
  simp only [x0,x1,x2,x3,x4,x5,x6]
  refine nT 2 (.pointer (some ⟨b, 0, .none⟩)) rfl ?_
  simp only [x0,x1,x2,x3,x4,x5,x6]
  refine nT 3 (.slice (some ⟨q, o, .none⟩) n c) rfl ?_
  simp only [x0,x1,x2,x3,x4,x5,x6]
  refine wpAnyH_ready (rs := [4]) (by kernel_rfl) (by simp) ?_
  refine AllReadyH.cons rfl (fun K hK => ?_) AllReadyH.nil
  go_simp
  go_at_call 37
  refine c37.mono ?_
  rintro _ w1 ⟨rfl, b1⟩
  have HW1 : Hid (Wr w1 base b ys ∧ KW base b w w1 ∧ base ≤ w1.heap.size) := ⟨(HB.out.1.keep (Below.refl _ _).drew).keep b1, (KW.of (Below.refl _ _).drew).trans (KW.of b1), Nat.le_trans HB.out.2 b1.size⟩
  clear b1 c37
  refine hK.out _ _ trivial (fun hHeld => ?_)
  clear hK K
  try simp only [x0,x1,x2,x3,x4,x5,x6]
  have c36 := writeString_any HW1.out.1 HW1.out.2.2 ⟨(Lib.join (xs.map (·.data.toList)) [32]).toArray⟩ (by have := HJ.out; simp only [ByteArray.size, List.size_toArray]; omega)
  refine wpAnyH_ready (rs := [5]) (by kernel_rfl) (by simp) ?_
  refine AllReadyH.cons rfl (fun K hK => ?_) AllReadyH.nil
  go_simp
  go_at_call 36
  refine c36.mono ?_
  rintro _ w2 ⟨rfl, wr2, k2⟩
  have HW2 : Hid (Wr w2 base b (ys ++ jnI xs) ∧ KW base b w w2 ∧ base ≤ w2.heap.size) := ⟨by rw [bsI_mk] at wr2; exact wr2, HW1.out.2.1.trans k2, Nat.le_trans HW1.out.2.2 k2.size⟩
  clear wr2 k2 c36
  refine hK.out _ _ trivial (fun hHeld => ?_)
  clear hK K
  try simp only [x0,x1,x2,x3,x4,x5,x6]
  refine wpAnyH_done (by kernel_rfl) ?_ _
  have c38 := writeByte_any HW2.out.1 HW2.out.2.2 10 (by rw [List.length_append]; omega)
  go_wp2_with (go_at_call 38; refine c38.mono ?_; rintro _ w3 ⟨rfl, wr3, k3⟩; have HW3 : Hid (Wr w3 base b (ys ++ jnI xs ++ [10]) ∧ KW base b w w3) := ⟨wr3, HW2.out.2.1.trans k3⟩; clear wr3 k3)
  go_end0
  exact ⟨rfl, HW3.out.1, HW3.out.2⟩
end Go.Proofs.YtjbealefopajcaaDoor
namespace Go.Proofs.YtjbealefopajcaaDoor
open Go Go.RowKit Rg
set_option linter.unusedVariables false
set_option linter.unusedSimpArgs false
/-! Numbers as words. -/
def TB (w : World) : Prop := Lib.TabIs Tryd.prog w "internal/strconv.uint64pow10" .u64 Lib.pow10Tab
theorem pow10_at : ∃ g, Tryd.prog.globalNamed "internal/strconv.uint64pow10" = some g ∧ g < 3 := by
  have h : (Tryd.prog.globalNamed "internal/strconv.uint64pow10").map (fun g => decide (g < 3)) = some true := by kernel_rfl
  obtain ⟨g, h1, h2⟩ := Option.map_eq_some_iff.1 h
  exact ⟨g, h1, of_decide_eq_true h2⟩
theorem TB.of {w w' : World} (h : TB w) (hk : ∀ g, g < 3 → w'.heap[g]? = w.heap[g]?) : TB w' := by
  obtain ⟨g, h1, h2⟩ := pow10_at
  unfold TB Lib.TabIs World.var? at *
  rw [h1] at h ⊢
  simp only [Option.bind_some] at h ⊢
  rw [hk g h2]
  exact h
theorem TB.lt {w : World} (h : TB w) : ∃ g, Tryd.prog.globalNamed "internal/strconv.uint64pow10" = some g ∧ g < w.heap.size := by
  obtain ⟨g, h1, h2⟩ := pow10_at
  refine ⟨g, h1, ?_⟩
  unfold TB Lib.TabIs World.var? at h
  rw [h1] at h
  simp only [Option.bind_some] at h
  cases hc : w.heap[g]? with
  | none => rw [hc] at h; cases h
  | some o => exact hp_lt hc
theorem TB.keep {w w' : World} (h : TB w) (hb : Below w.heap.size w w') : TB w' := by
  obtain ⟨g, h1, h2⟩ := h.lt
  unfold TB Lib.TabIs World.var? at *
  rw [h1] at h ⊢
  simp only [Option.bind_some] at h ⊢
  rw [hb.block g h2]
  exact h
theorem TB.kw {base b : Nat} {w w' : World} (h : TB w) (k : KW base b w w') (hb : 3 ≤ base) (hbb : base ≤ b) (hw : 3 ≤ w.heap.size) : TB w' := h.of fun g hg => by
  have e := Array.getElem?_eq_getElem (show g < w.heap.size by omega)
  rw [e]
  exact k.block g _ e (by omega) (.inl (by omega))
def itS (n : Int) : ByteArray := ⟨(Lib.itoa n).toArray⟩
theorem below_itoa (w : World) (k : Nat) (os : Array Obj) : Below w.heap.size w (Sort.grow (w.drewN k) os) := by
  have h : Below w.heap.size w (w.drewN k) := ⟨rfl, rfl, rfl, Nat.le_refl _, fun _ _ => rfl⟩
  refine ⟨h.os, h.tape, h.output, ?_, fun i hi => ?_⟩
  · have := h.size
    show w.heap.size ≤ ((w.drewN k).heap ++ os).size
    rw [Array.size_append]
    omega
  · show ((w.drewN k).heap ++ os)[i]? = _
    rw [Array.getElem?_append_left (by have := h.size; omega)]
    exact h.block i hi
theorem itoa_any (n : Int) (hn : i64b n) {w : World} (h : TB w) : Calls Tryd.prog 28 #[.int .i64 n] w fun e w' => e = .returned (.string (itS n)) ∧ Below w.heap.size w w' := by
  refine (Tryd.strconv_Itoa n hn.1 hn.2 w h).mono ?_
  rintro e w' ⟨rfl, k, os, rfl⟩
  exact ⟨rfl, below_itoa w k os⟩
theorem dec_any (n : Int) (hn : i64b n) {w : World} (h : TB w) : Calls Tryd.prog 17 #[.int .i64 n] w fun e w' => e = .returned (.string (itS n)) ∧ Below w.heap.size w w' := by
  have c28 := itoa_any n hn h
  go_enter Tryd.func17, Tryd.ntmps17
  go_wp2_with (go_at_call 28; refine c28.mono ?_; rintro _ w1 ⟨rfl, b1⟩)
  go_ret
  exact ⟨rfl, b1⟩
end Go.Proofs.YtjbealefopajcaaDoor
