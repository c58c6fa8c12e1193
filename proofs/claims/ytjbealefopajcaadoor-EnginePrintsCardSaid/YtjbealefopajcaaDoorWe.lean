import Derived.Test.YtjbealefopajcaaDoorWd
namespace Go.Proofs.YtjbealefopajcaaDoor
open Go Go.RowKit Rg
attribute [local go_sem] Oper.semAt_some
set_option linter.unusedVariables false
set_option linter.unusedSimpArgs false
set_option maxRecDepth 100000
/-! A file's lines: its bytes. -/
theorem region_only {P : Program} {id : Nat} {ops : Array Oper} {Q : Exit → Act → World → Prop} {a : Act} {w : World} (h : (Code.region id ops true).wp P (fun e a w => e = .normal ∧ Q .normal a w) a w) : (Code.region id ops true).wp P Q a w :=
  wp_mono h (fun e a w h => by obtain ⟨rfl, h⟩ := h; exact h)
theorem hexDs_bd {l : List Int} (h : ∀ x ∈ l, 0 ≤ x ∧ x < 256) : ∀ y ∈ l.flatMap hexD, 0 ≤ y ∧ y < 256 := by
  have hd : ∀ k : Int, 0 ≤ k → k < 16 → 0 ≤ dgt k ∧ dgt k < 256 := fun k h0 h1 => by unfold dgt; split <;> omega
  intro y hy
  obtain ⟨x, hx, hy⟩ := List.mem_flatMap.1 hy
  have hb := h x hx
  have h1 := hd (x / 16) (by omega) (by omega)
  have h2 := hd (x % 16) (by omega) (by omega)
  simp only [hexD, List.mem_cons, List.not_mem_nil, or_false] at hy
  rcases hy with rfl | rfl
  · exact h1
  · exact h2
theorem hexDs_len (l : List Int) : (l.flatMap hexD).length = 2 * l.length := by
  induction l with
  | nil => rfl
  | cons x l ih => rw [List.flatMap_cons, List.length_append, ih, List.length_cons, show (hexD x).length = 2 from rfl]; omega
theorem chunkB_any {w : World} {X z1 z2 n c : Nat} {p : Option Addr} {ds : List Int} (h : Bt w X (.slice p n c) ds) (hb : n ≤ 10000000000) (h1 : w.cell? ⟨z1, 0, .none⟩ = some (.slice p n c)) (h2 : w.cell? ⟨z2, 0, .none⟩ = some (.int .i64 32)) :
    ∃ bk o, (0 < n → p = some ⟨bk, o, .none⟩) ∧ ∀ m, SeqL Fence.wide m Tryd.prog 49 #[.pointer (some ⟨z1, 0, .none⟩), .pointer (some ⟨z2, 0, .none⟩)] (ckE 32 bk o n) (KpC z1 z2) (List.range (ckN 32 n)) w := by
  by_cases h0 : 0 < n
  · obtain ⟨-, bk, o, x, cs, rfl, -⟩ := h.at h0
    exact ⟨bk, o, fun _ => rfl, fun m => chunkB_seq m h1 h2 h.cap.2 hb⟩
  · obtain rfl : n = 0 := by omega
    exact ⟨0, 0, fun h => absurd h h0, fun m => chunkB_nil m h1⟩
set_option maxHeartbeats 8000000 in
theorem file2_any {w : World} {base b X : Nat} {ys : List Int} (h : Wr w base b ys) (hb : base ≤ w.heap.size) (f : Fl) (hty : f.ty = 2) {p : Option Addr} {n c : Nat} (hD : Bt w X (.slice p n c) f.data) (hX : X ≤ base) (hbd : ∀ x ∈ f.data, 0 ≤ x ∧ x < 256) (hs : f.path.size ≤ 10000000) (hn : n ≤ 10000000) (hl : ys.length ≤ 100000000000) :
    Calls Tryd.prog 30 #[.pointer (some ⟨b, 0, .none⟩), .agg #[.string f.path, .int .i64 2, .int .i16 f.mj, .int .i16 f.mn, .slice p n c]] w fun e w' => e = .returned (.tuple #[]) ∧ Wr w' base b (ys ++ flT f) ∧ KW base b w w' := by
  obtain ⟨s, ty, mj, mn, ds⟩ := f
  simp only at hty hs hD hbd
  subst hty
  have hnl : n = ds.length := hD.cap.1
  obtain ⟨T0, hT0⟩ : ∃ T0, T0 = ys ++ jnI [⟨#[98, 121, 116, 101, 115]⟩, toB (qt (bsI s))] ++ [10] := ⟨_, rfl⟩
  have hFT : Hid (ys ++ flT ⟨s, 2, mj, mn, ds⟩ = T0 ++ blkP ds n ++ [101, 110, 100] ++ [10]) := by
    show _ = _
    rw [hT0, jn_cons, hnl]
    simp only [List.flatMap_cons, List.flatMap_nil, List.append_nil, qtS]
    unfold flT
    simp [List.append_assoc]
    try rfl
  have HLN : Hid (T0.length ≤ 101000000000 ∧ (jnI [⟨#[98, 121, 116, 101, 115]⟩, toB (qt (bsI s))]).length ≤ 100000000 ∧ ∀ i, i ≤ n → (blkP ds i).length ≤ 30000000) := by
    have h1 := qt_len (bsI s)
    rw [bsI_len] at h1
    have h0 : (jnI [⟨#[98, 121, 116, 101, 115]⟩, toB (qt (bsI s))]).length ≤ 100000000 := by
      rw [jn_cons]
      simp only [List.flatMap_cons, List.flatMap_nil, List.append_nil, qtS, List.length_append, List.length_cons, bsI_len]
      have h5 : (⟨#[98, 121, 116, 101, 115]⟩ : ByteArray).size = 5 := rfl
      omega
    refine ⟨?_, h0, fun i hi => ?_⟩
    · rw [hT0, List.length_append, List.length_append, List.length_singleton]; omega
    · have := blkP_len ds i; omega
  obtain ⟨W, hW⟩ : ∃ W, W = (w.alloc (.cells #[.pointer (some ⟨b, 0, .none⟩)] 78)).alloc (.cells #[.string s, .int .i64 2, .int .i16 mj, .int .i16 mn, .slice p n c] 43) := ⟨_, rfl⟩
  have b1 : Below w.heap.size w W := by rw [hW]; exact ((Below.refl _ _).alloc (Nat.le_refl _) _).alloc (by simp) _
  have hz : W.heap.size = w.heap.size + 2 := by rw [hW]; simp
  obtain ⟨z, hzz⟩ : ∃ z, z = w.heap.size := ⟨_, rfl⟩
  have k0 : W.heap[z]? = some (.cells #[.pointer (some ⟨b, 0, .none⟩)] 78 (0, 0)) := by rw [hW, hzz, Below.heap_alloc _ _ _ (by simp)]; exact new_heap _ _
  have k1 : W.heap[z + 1]? = some (.cells #[.string s, .int .i64 2, .int .i16 mj, .int .i16 mn, .slice p n c] 43 (0, 0)) := by
    have h9 := new_heap (w.alloc (.cells #[.pointer (some ⟨b, 0, .none⟩)] 78)) (.cells #[.string s, .int .i64 2, .int .i16 mj, .int .i16 mn, .slice p n c] 43)
    rw [World.size_alloc] at h9
    rw [hW, hzz]; exact h9
  have hzb : b < z := by rw [hzz]; exact h.len
  have HZB : Hid (b < z ∧ base ≤ b ∧ X ≤ base) := ⟨hzb, h.1, hX⟩
  have HD : Hid (Bt w X (.slice p n c) ds ∧ n ≤ 10000000 ∧ n = ds.length ∧ (∀ x ∈ ds, 0 ≤ x ∧ x < 256) ∧ base ≤ w.heap.size ∧ s.size ≤ 10000000) := ⟨hD, hn, hnl, hbd, hb, hs⟩
  have HW : Hid (Wr W base b ys ∧ KW base b w W ∧ base ≤ W.heap.size ∧ z + 1 < W.heap.size) := ⟨h.keep b1, KW.of b1, by omega, by omega⟩
  have HT0 : Hid (T0 = ys ++ jnI [⟨#[98, 121, 116, 101, 115]⟩, toB (qt (bsI s))] ++ [10] ∧ ys.length ≤ 100000000000) := ⟨hT0, hl⟩
  have HWW : Hid (W = (w.alloc (.cells #[.pointer (some ⟨b, 0, .none⟩)] 78)).alloc (.cells #[.string s, .int .i64 2, .int .i16 mj, .int .i16 mn, .slice p n c] 43)) := hW
  have HZZ : Hid (z = w.heap.size) := hzz
  clear hW hzz b1 hz h hb hl hzb hT0 hnl hD hn hbd hX hs
  refine (callsIn_wide (n := 3)).1 ?_
  refine callsIn_of_wp_marks Tryd.func30 rfl trivial ?_ rfl
  refine wpIn_wide.2 ?_
  simp only [Tryd.ntmps30, List.size_toArray, List.length_cons, List.length_nil, Nat.reduceAdd, Nat.reduceSub, Array.replicate_succ, Array.replicate_zero, List.push_toArray, List.append_toArray, List.nil_append, List.cons_append]
  go_upto_region 7 with fail
  rw [← HWW.out, ← HZZ.out]
  clear HWW HZZ
  refine region_only ?_
  refine wp_region_held_drew (S := (fun U : World => U.heap[z]? = some (.cells #[.pointer (some ⟨b, 0, .none⟩)] 78 (0, 0)) ∧ U.heap[z + 1]? = some (.cells #[.string s, .int .i64 2, .int .i16 mj, .int .i16 mn, .slice p n c] 43 (0, 0)))) (by kernel_rfl) ⟨k0, k1⟩ (fun hHeld => ?_)
  refine nT 0 (.pointer (some ⟨b, 0, .none⟩)) rfl ?_ (fun ww hSw => by have c2 : ww.cell? ⟨z, 0, .none⟩ = some (.pointer (some ⟨b, 0, .none⟩)) := cell_heap hSw.1; go_simp) (hQ := fun _ _ _ h => nomatch h.1)
  simp only [x0,x1,x2,x3,x4,x5,x6]
  refine nT 1 (.pointer (some ⟨z + 1, 0, .none⟩)) rfl ?_ (fun ww hSw => by go_simp) (hQ := fun _ _ _ h => nomatch h.1)
  simp only [x0,x1,x2,x3,x4,x5,x6]
  refine nT 2 (.string s) rfl ?_ (fun ww hSw => by have c2 : ww.cell? ⟨z + 1, 0, .none⟩ = some (.string s) := cell_heap hSw.2; go_simp) (hQ := fun _ _ _ h => nomatch h.1)
  simp only [x0,x1,x2,x3,x4,x5,x6]
  have HS0 : Hid ((fun U : World => U.heap[z]? = some (.cells #[.pointer (some ⟨b, 0, .none⟩)] 78 (0, 0)) ∧ U.heap[z + 1]? = some (.cells #[.string s, .int .i64 2, .int .i16 mj, .int .i16 mn, .slice p n c] 43 (0, 0))) W) := ⟨k0, k1⟩
  clear k0 k1
  have c29 := quote_any s (by have := HD.out.2.2.2.2.2; omega) W.drew
  refine wpAnyH_ready (rs := [3]) (by kernel_rfl) (by simp) ?_
  refine AllReadyH.cons rfl (fun K hK => ?_) AllReadyH.nil
  go_simp
  go_at_call 29
  refine c29.mono ?_
  rintro _ w1 ⟨rfl, b1⟩
  have HW1 : Hid (Wr w1 base b ys ∧ KW base b w w1 ∧ base ≤ w1.heap.size ∧ z + 1 < w1.heap.size ∧ ((fun U : World => U.heap[z]? = some (.cells #[.pointer (some ⟨b, 0, .none⟩)] 78 (0, 0)) ∧ U.heap[z + 1]? = some (.cells #[.string s, .int .i64 2, .int .i16 mj, .int .i16 mn, .slice p n c] 43 (0, 0))) w1)) := by
    have c := HW.out
    have hb2 : Below W.heap.size W w1 := (Below.refl _ _).drew.trans b1
    refine ⟨c.1.keep hb2, c.2.1.trans (KW.of hb2), Nat.le_trans c.2.2.1 hb2.size, Nat.lt_of_lt_of_le c.2.2.2 hb2.size, ?_⟩
    have q := HS0.out
    have hz1 := c.2.2.2
    exact ⟨(hb2.block z (by omega)).trans q.1, (hb2.block (z + 1) (by omega)).trans q.2⟩
  clear b1 c29 HS0
  refine hK.out _ _ HW1.out.2.2.2.2 (fun hHeld => ?_)
  clear hK K
  try simp only [x0,x1,x2,x3,x4,x5,x6]
  refine wpAnyH_ready (rs := [4]) (by kernel_rfl) (by simp) ?_
  refine AllReadyH.cons rfl (fun K hK => ?_) AllReadyH.nil
  go_simp
  obtain ⟨V, hV⟩ : ∃ V, V = w1.alloc (.cells #[.string ⟨#[98, 121, 116, 101, 115]⟩, .string (toB (qt (bsI s)))] 9) := ⟨_, rfl⟩
  rw [← hV]
  have HV : Hid (Wr V base b ys ∧ KW base b w V ∧ base ≤ V.heap.size ∧ w1.heap.size < V.heap.size ∧ V.heap[w1.heap.size]? = some (.cells (([⟨#[98, 121, 116, 101, 115]⟩, toB (qt (bsI s))] : List ByteArray).map Value.string).toArray 9 (0, 0)) ∧ ((fun U : World => U.heap[z]? = some (.cells #[.pointer (some ⟨b, 0, .none⟩)] 78 (0, 0)) ∧ U.heap[z + 1]? = some (.cells #[.string s, .int .i64 2, .int .i16 mj, .int .i16 mn, .slice p n c] 43 (0, 0))) V)) := by
    have c := HW1.out
    have b1 : Below w1.heap.size w1 V := by rw [hV]; exact below1 _ _
    have q := c.2.2.2.2
    have hz1 := c.2.2.2.1
    refine ⟨c.1.keep b1, c.2.1.trans (KW.of b1), Nat.le_trans c.2.2.1 b1.size, by rw [hV]; simp, by rw [hV]; exact new_heap _ _, ?_⟩
    exact ⟨(b1.block z (by omega)).trans q.1, (b1.block (z + 1) (by omega)).trans q.2⟩
  clear hV
  refine hK.out _ _ HV.out.2.2.2.2.2 (fun hHeld => ?_)
  clear hK K
  try simp only [x0,x1,x2,x3,x4,x5,x6]
  have c27 := line_any (o := 0) HV.out.1 HV.out.2.2.1 (cells_list HV.out.2.2.2.2.1) HV.out.2.2.2.1 (xs := [⟨#[98, 121, 116, 101, 115]⟩, toB (qt (bsI s))]) (c := 2) (by simp) (by simp) (by have h1 := HLN.out.2.1; have h2 := HT0.out.2; omega)
  refine wpAnyH_ready (rs := [5]) (by kernel_rfl) (by simp) ?_
  refine AllReadyH.cons rfl (fun K hK => ?_) AllReadyH.nil
  go_simp
  go_at_call 27
  refine c27.mono ?_
  rintro _ w2 ⟨rfl, wr9, k9⟩
  have H2 : Hid (Wr w2 base b T0 ∧ KW base b w w2 ∧ base ≤ w2.heap.size ∧ z + 1 < w2.heap.size ∧ ((fun U : World => U.heap[z]? = some (.cells #[.pointer (some ⟨b, 0, .none⟩)] 78 (0, 0)) ∧ U.heap[z + 1]? = some (.cells #[.string s, .int .i64 2, .int .i16 mj, .int .i16 mn, .slice p n c] 43 (0, 0))) w2)) := by
    have hz1 := HW1.out.2.2.2.1
    have hz2 := HV.out.2.2.2.1
    refine ⟨by rw [HT0.out.1]; exact wr9, HV.out.2.1.trans k9, Nat.le_trans HV.out.2.2.1 k9.size, by have := k9.size; omega, k9.block z _ HV.out.2.2.2.2.2.1 (by have := HZB.out; omega) (.inr (by rintro ⟨cur, fz, e⟩; cases e)), k9.block (z + 1) _ HV.out.2.2.2.2.2.2 (by have := HZB.out; omega) (.inr (by rintro ⟨cur, fz, e⟩; cases e))⟩
  refine hK.out _ _ H2.out.2.2.2.2 (fun hHeld => ?_)
  clear hK K wr9 k9 c27 HW1 HV HW
  refine wpAnyH_done (by kernel_rfl) ?_ _
  refine ⟨rfl, ?_⟩
  have k4 : w2.cell? ⟨z + 1, 4, .none⟩ = some (.slice p n c) := cell_heap H2.out.2.2.2.2.2
  have c41 := chunkB_mk (.slice p n c) w2 rfl
  obtain ⟨z1, hz1⟩ : ∃ z1, z1 = w2.heap.size := ⟨_, rfl⟩
  have HZ1 : Hid (z1 = w2.heap.size) := hz1
  rw [← hz1] at c41
  obtain ⟨Y, hY⟩ : ∃ Y, Y = (w2.alloc (.cells #[.slice p n c] 41)).alloc (.cells #[.int .i64 32] 3) := ⟨_, rfl⟩
  rw [← hY] at c41
  have HY : Hid (Y = (w2.alloc (.cells #[.slice p n c] 41)).alloc (.cells #[.int .i64 32] 3)) := hY
  clear hY hz1 hHeld
  clear hHeld
  go_wp2_with (go_at_call 41; refine c41.mono ?_; rintro _ Y2 ⟨rfl, rfl⟩; clear c41 k4)
  have HB2 : Hid (Below w2.heap.size w2 Y2 ∧ Y2.heap.size = z1 + 2 ∧ Y2.heap[z1]? = some (.cells #[.slice p n c] 41 (0, 0)) ∧ Y2.heap[z1 + 1]? = some (.cells #[.int .i64 32] 3 (0, 0)) ∧ z1 = w2.heap.size) := by
    have e := HY.out
    have e2 := HZ1.out
    have h9 := new_heap (w2.alloc (.cells #[.slice p n c] 41)) (.cells #[.int .i64 32] 3)
    rw [World.size_alloc, ← e2] at h9
    refine ⟨by rw [e]; exact ((Below.refl _ _).alloc (Nat.le_refl _) _).alloc (by simp) _, by rw [e, e2]; simp, ?_, ?_, e2⟩
    · rw [e, e2, Below.heap_alloc _ _ _ (by simp)]; exact new_heap _ _
    · rw [e]; exact h9
  clear HY HZ1
  have HBT : Hid (Bt Y2 X (.slice p n c) ds ∧ Wr Y2 base b T0 ∧ KW base b w Y2 ∧ base ≤ Y2.heap.size ∧ Y2.heap[z]? = some (.cells #[.pointer (some ⟨b, 0, .none⟩)] 78 (0, 0)) ∧ z + 1 < z1) := by
    have q := H2.out
    have r := HB2.out
    have kk : KW base b w Y2 := q.2.1.trans (KW.of r.1)
    refine ⟨Wd.keep HD.out.1 (Nat.le_refl _) (kk.below HZB.out.2.1 HZB.out.2.2 (by have := HZB.out; have := HD.out; omega)), q.1.keep r.1, kk, Nat.le_trans q.2.2.1 r.1.size, (r.1.block z (by omega)).trans q.2.2.2.2.1, by omega⟩
  have hcb := chunkB_any HBT.out.1 (by have := HD.out.2.1; omega) (cell_heap HB2.out.2.2.1) (cell_heap HB2.out.2.2.2.1)
  obtain ⟨bk, o, hp, hseq⟩ := hcb
  have HSEQ : Hid ((0 < n → p = some ⟨bk, o, .none⟩) ∧ ∀ m, SeqL Fence.wide m Tryd.prog 49 #[.pointer (some ⟨z1, 0, .none⟩), .pointer (some ⟨z1 + 1, 0, .none⟩)] (ckE 32 bk o n) (KpC z1 (z1 + 1)) (List.range (ckN 32 n)) Y2) := ⟨hp, hseq⟩
  clear hp hseq
  have HI0 : Hid (LpI base b Y2 (fun pre : List Nat => T0 ++ blkP ds (min n (32 * pre.length))) [] Y2) := ⟨by simp only [List.length_nil, Nat.mul_zero, Nat.min_zero, blkP, List.append_nil]; exact HBT.out.2.1, KW.refl _ _ _⟩
  refine (wpIn_wide (n := 3)).1 ?_
  refine range_list (α := Nat) rfl (by omega) (gf := 49) (lb := #[.pointer (some ⟨z1, 0, .none⟩), .pointer (some ⟨z1 + 1, 0, .none⟩)]) rfl trivial (enters_of Tryd.func49 (by kernel_rfl) rfl) (Below.refl _ _) (HSEQ.out.2 2) KpC.trans (fun A l o' hl => ⟨World.putObj_heap_other (by have := HB2.out.2.1; omega), World.putObj_heap_other (by have := HB2.out.2.1; omega)⟩) (fun _ => rfl)
    (LpI base b Y2 (fun pre : List Nat => T0 ++ blkP ds (min n (32 * pre.length)))) (LpI.own base b Y2 _) HI0.out ?aa ?assign ?body ?done
  case assign =>
    intro l x A K hK
    simp only [ckE]
    gi_wp2
    exact hK
  case body =>
    rintro l pre x A hA hpre
    obtain ⟨rfl, hxm⟩ := range_at hpre
    have h32 : 32 * pre.length < n := by unfold ckN at hxm; omega
    obtain ⟨j, hj⟩ : ∃ j, j = pre.length := ⟨_, rfl⟩
    obtain ⟨e, he⟩ : ∃ e, e = min 32 (n - 32 * pre.length) := ⟨_, rfl⟩
    rw [← hj] at he h32 ⊢
    rw [← he]
    have HA : Hid (Wr A base b (T0 ++ blkP ds (min n (32 * j))) ∧ KW base b Y2 A ∧ base ≤ A.heap.size) := ⟨by have := hA.1; rw [hj]; exact this, hA.2, Nat.le_trans HBT.out.2.2.2.1 hA.2.size⟩
    have HPR : Hid (∀ U, Wr U base b (T0 ++ blkP ds (min n (32 * (j + 1)))) → KW base b Y2 U → LpI base b Y2 (fun pre : List Nat => T0 ++ blkP ds (min n (32 * pre.length))) (pre ++ [j]) U) := fun U h1 h2 => ⟨by simp only [List.length_append, List.length_singleton, ← hj]; exact h1, h2⟩
    have HE : Hid (e = min 32 (n - 32 * j) ∧ 32 * j < n ∧ 0 < e ∧ 32 * j + e ≤ n) := ⟨he, h32, by omega, by omega⟩
    have hpS := HSEQ.out.1 (by omega)
    have hbA : Below X Y2 A := HA.out.2.1.below HZB.out.2.1 HZB.out.2.2 (by have := HZB.out; have := HBT.out.2.2.2.1; omega)
    have hbt : Bt A X (.slice (some ⟨bk, o + 32 * j, .none⟩) e e) ((ds.drop (32 * j)).take e) := by
      have h5 := HBT.out.1
      rw [hpS] at h5
      exact bt_part (Wd.keep h5 (Nat.le_refl _) hbA) (32 * j) e HE.out.2.2.2
    have hlp : ((ds.drop (32 * j)).take e).length = e := by rw [List.length_take, List.length_drop]; have := HD.out.2.2.1; have := HE.out; omega
    have c42 := hexWord_any (w := A.drew) hbt (by have := HZB.out; have := HA.out.2.2; show X ≤ A.heap.size; omega) (fun x hx => HD.out.2.2.2.1 x (List.mem_of_mem_drop (List.mem_of_mem_take hx))) (by rw [hlp]; exact HE.out.2.2.1) (by rw [hlp]; have := HD.out.2.1; have := HE.out; omega)
    have k0 : A.heap[z]? = some (.cells #[.pointer (some ⟨b, 0, .none⟩)] 78 (0, 0)) := HA.out.2.1.block z _ HBT.out.2.2.2.2.1 (by have := HZB.out; omega) (.inr (by rintro ⟨cur, fz, e⟩; cases e))
    have HTX : Hid (bsI (toB (((ds.drop (32 * j)).take e).flatMap hexD)) = ((ds.drop (32 * j)).take 32).flatMap hexD ∧ (((ds.drop (32 * j)).take 32).flatMap hexD).length ≤ 64) := by
      have e1 : (ds.drop (32 * j)).take e = (ds.drop (32 * j)).take 32 := by
        have h1 := HE.out
        have h2 := HD.out.2.2.1
        rcases Nat.lt_or_ge (n - 32 * j) 32 with h3 | h3
        · rw [List.take_of_length_le (by rw [List.length_drop]; omega), List.take_of_length_le (by rw [List.length_drop]; omega)]
        · rw [show e = 32 by omega]
      rw [e1]
      have hbd2 : ∀ x ∈ (ds.drop (32 * j)).take 32, 0 ≤ x ∧ x < 256 := fun x hx => HD.out.2.2.2.1 x (List.mem_of_mem_drop (List.mem_of_mem_take hx))
      refine ⟨bsI_toB (hexDs_bd hbd2), ?_⟩
      rw [hexDs_len, List.length_take]
      omega
    clear hA hpre hxm h32 hj he hpS hbA hbt hlp
    gi_wp2
    refine wpIn_region_held (S := (fun U : World => U.heap[z]? = some (.cells #[.pointer (some ⟨b, 0, .none⟩)] 78 (0, 0)))) (by kernel_rfl) (no_defer_of (by kernel_rfl)) (fun hL => by obtain ⟨_, _, hL⟩ := hL; first | exact hL | (obtain ⟨h, _⟩ := hL; cases h)) k0 (fun hHeld => ?_)
    refine nT 0 (.pointer (some ⟨b, 0, .none⟩)) rfl ?_ (fun ww hSw => by have c2 : ww.cell? ⟨z, 0, .none⟩ = some (.pointer (some ⟨b, 0, .none⟩)) := cell_heap hSw; go_simp)
    simp only [x0,x1,x2,x3,x4,x5,x6]
    refine nT 1 (.slice (some ⟨bk, o + 32 * j, .none⟩) e e) rfl ?_ (fun ww hSw => by go_simp)
    simp only [x0,x1,x2,x3,x4,x5,x6]
    refine wpAnyH_ready (rs := [2]) (by kernel_rfl) (by simp) ?_
    refine AllReadyH.cons rfl (fun K hK => ?_) AllReadyH.nil
    go_simp
    go_at_call 42
    refine c42.mono ?_
    rintro _ A1 ⟨rfl, b1⟩
    have HA1 : Hid (Wr A1 base b (T0 ++ blkP ds (min n (32 * j))) ∧ KW base b Y2 A1 ∧ base ≤ A1.heap.size ∧ A1.heap[z]? = some (.cells #[.pointer (some ⟨b, 0, .none⟩)] 78 (0, 0)) ∧ KW base b A A1) := by
      have q := HA.out
      have b2 : Below A.heap.size A A1 := (Below.refl _ _).drew.trans b1
      exact ⟨q.1.keep b2, q.2.1.trans (KW.of b2), Nat.le_trans q.2.2 b2.size, (b2.block z (hp_lt k0)).trans k0, KW.of b2⟩
    clear c42 b1 k0
    refine hK.out _ _ HA1.out.2.2.2.1 (fun hHeld => ?_)
    clear hK K
    try simp only [x0,x1,x2,x3,x4,x5,x6]
    refine wpAnyH_ready (rs := [3]) (by kernel_rfl) (by simp) ?_
    refine AllReadyH.cons rfl (fun K hK => ?_) AllReadyH.nil
    go_simp
    obtain ⟨V, hV⟩ : ∃ V, V = A1.alloc (.cells #[.string (toB (((ds.drop (32 * j)).take e).flatMap hexD))] 9) := ⟨_, rfl⟩
    rw [← hV]
    have HV : Hid (Wr V base b (T0 ++ blkP ds (min n (32 * j))) ∧ KW base b Y2 V ∧ base ≤ V.heap.size ∧ A1.heap.size < V.heap.size ∧ V.heap[A1.heap.size]? = some (.cells (([toB (((ds.drop (32 * j)).take e).flatMap hexD)] : List ByteArray).map Value.string).toArray 9 (0, 0)) ∧ V.heap[z]? = some (.cells #[.pointer (some ⟨b, 0, .none⟩)] 78 (0, 0)) ∧ KW base b A V) := by
      have q := HA1.out
      have b1 : Below A1.heap.size A1 V := by rw [hV]; exact below1 _ _
      exact ⟨q.1.keep b1, q.2.1.trans (KW.of b1), Nat.le_trans q.2.2.1 b1.size, by rw [hV]; simp, by rw [hV]; exact new_heap _ _, (b1.block z (hp_lt q.2.2.2.1)).trans q.2.2.2.1, q.2.2.2.2.trans (KW.of b1)⟩
    clear hV
    refine hK.out _ _ HV.out.2.2.2.2.2.1 (fun hHeld => ?_)
    clear hK K
    try simp only [x0,x1,x2,x3,x4,x5,x6]
    have HJ : Hid (jnI [toB (((ds.drop (32 * j)).take e).flatMap hexD)] = ((ds.drop (32 * j)).take 32).flatMap hexD) := by
      show _ = _
      rw [jn_cons, List.flatMap_nil, List.append_nil]
      exact HTX.out.1
    have c27 := line_any (o := 0) HV.out.1 HV.out.2.2.1 (cells_list HV.out.2.2.2.2.1) HV.out.2.2.2.1 (xs := [toB (((ds.drop (32 * j)).take e).flatMap hexD)]) (c := 1) (by simp) (by simp) (by rw [HJ.out, List.length_append]; have h1 := HLN.out.1; have h2 := HLN.out.2.2 (min n (32 * j)) (Nat.min_le_left _ _); have h3 := HTX.out.2; omega)
    refine wpAnyH_ready (rs := [4]) (by kernel_rfl) (by simp) ?_
    refine AllReadyH.cons rfl (fun K hK => ?_) AllReadyH.nil
    go_simp
    go_at_call 27
    refine c27.mono ?_
    rintro _ A2 ⟨rfl, wr9, k9⟩
    have HA2 : Hid (Wr A2 base b (T0 ++ blkP ds (min n (32 * (j + 1)))) ∧ KW base b Y2 A2 ∧ KW base b A A2 ∧ A2.heap[z]? = some (.cells #[.pointer (some ⟨b, 0, .none⟩)] 78 (0, 0))) := by
      rw [HJ.out] at wr9
      have h1 := blk_end ds j (by have := HE.out; have := HD.out.2.2.1; omega)
      rw [← HD.out.2.2.1] at h1
      refine ⟨by rw [h1]; simpa only [List.append_assoc] using wr9, HV.out.2.1.trans k9, HV.out.2.2.2.2.2.2.trans k9, k9.block z _ HV.out.2.2.2.2.2.1 (by have := HZB.out; omega) (.inr (by rintro ⟨cur, fz, e⟩; cases e))⟩
    refine hK.out _ _ HA2.out.2.2.2 (fun hHeld => ?_)
    clear hK K wr9 k9 c27
    refine wpAnyH_done (by kernel_rfl) ?_ _
    have f1 := HA.out.2.1.block z1 _ HB2.out.2.2.1 (by have := HZB.out; have := HBT.out.2.2.2.2.2; omega) (.inr (by rintro ⟨cur, fz, e⟩; cases e))
    have f2 := HA.out.2.1.block (z1 + 1) _ HB2.out.2.2.2.1 (by have := HZB.out; have := HBT.out.2.2.2.2.2; omega) (.inr (by rintro ⟨cur, fz, e⟩; cases e))
    have g1 := HA2.out.2.1.block z1 _ HB2.out.2.2.1 (by have := HZB.out; have := HBT.out.2.2.2.2.2; omega) (.inr (by rintro ⟨cur, fz, e⟩; cases e))
    have g2 := HA2.out.2.1.block (z1 + 1) _ HB2.out.2.2.2.1 (by have := HZB.out; have := HBT.out.2.2.2.2.2; omega) (.inr (by rintro ⟨cur, fz, e⟩; cases e))
    have HFIN : Hid (KeepsFrom Y2.heap.size A A2 ∧ KpC z1 (z1 + 1) A A2 ∧ LpI base b Y2 (fun pre : List Nat => T0 ++ blkP ds (min n (32 * pre.length))) (pre ++ [j]) A2) :=
      ⟨HA2.out.2.2.1.keepsFrom (by have := HZB.out; have := HBT.out.2.2.2.2.2; have := HB2.out.2.1; omega), ⟨g1.trans f1.symm, g2.trans f2.symm⟩, HPR.out A2 HA2.out.1 HA2.out.2.1⟩
    clear f1 f2 g1 g2
    gi_wp2
    exact HFIN.out
  case done =>
    rintro D A hD hA hK
    have HA : Hid (Wr A base b (T0 ++ blkP ds n) ∧ KW base b Y2 A ∧ base ≤ A.heap.size ∧ A.heap[D]? = some (.deferred (some [])) ∧ Y2.heap.size ≤ D) := by
      refine ⟨?_, hA.2, Nat.le_trans HBT.out.2.2.2.1 hA.2.size, hK, hD⟩
      have h1 := hA.1
      simp only [List.length_range] at h1
      rwa [show min n (32 * ckN 32 n) = n by unfold ckN; omega] at h1
    have k0 : A.cell? ⟨z, 0, .none⟩ = some (.pointer (some ⟨b, 0, .none⟩)) := cell_heap (HA.out.2.1.block z _ HBT.out.2.2.2.2.1 (by have := HZB.out; omega) (.inr (by rintro ⟨cur, fz, e⟩; cases e)))
    clear hA hK hD
    obtain ⟨V, hV⟩ : ∃ V, V = A.alloc (.cells #[.string ⟨#[101, 110, 100]⟩] 9) := ⟨_, rfl⟩
    have b1 : Below A.heap.size A V := by rw [hV]; exact below1 _ _
    have hv1 : V.heap[A.heap.size]? = some (.cells (([⟨#[101, 110, 100]⟩] : List ByteArray).map Value.string).toArray 9 (0, 0)) := by rw [hV]; exact new_heap _ _
    have c27 := line_any (o := 0) (HA.out.1.keep b1) (Nat.le_trans HA.out.2.2.1 b1.size) (cells_list hv1) (by rw [hV]; simp) (xs := [⟨#[101, 110, 100]⟩]) (c := 1) (by simp) (by simp) (by
      rw [jn_cons, List.flatMap_nil, List.append_nil, bsI_len, List.length_append]
      have h1 := HLN.out.1
      have h2 := HLN.out.2.2 n (Nat.le_refl _)
      have h3 : (⟨#[101, 110, 100]⟩ : ByteArray).size = 3 := rfl
      omega)
    have HB1 : Hid (Below A.heap.size A V) := b1
    have HVV : Hid (V = A.alloc (.cells #[.string ⟨#[101, 110, 100]⟩] 9)) := hV
    rw [hV] at c27
    clear hV b1 hv1
    go_wp2_with (go_at_call 27; refine c27.mono ?_; rintro _ A9 ⟨rfl, wr9, k9⟩; have H9 : Hid (Wr A9 base b (ys ++ flT ⟨s, 2, mj, mn, ds⟩) ∧ KW base b w A9 ∧ A9.heap[D]? = some (.deferred (some []))) := (by
      have q := HA.out
      rw [← HVV.out] at k9
      have h5 := (HB1.out.block D (hp_lt q.2.2.2.1)).trans q.2.2.2.1
      refine ⟨?_, HBT.out.2.2.1.trans (q.2.1.trans ((KW.of HB1.out).trans k9)), k9.block D _ h5 (by have := HZB.out; have := HBT.out.2.2.2.2.2; have := HB2.out.2.1; have := q.2.2.2.2; omega) (.inr (by rintro ⟨cur, fz, e⟩; cases e))⟩
      rw [hFT.out]
      rw [jn_cons, List.flatMap_nil, List.append_nil] at wr9
      exact wr9); clear wr9 k9 c27 k0)
    gi_wp2
    refine ⟨by simp, .inl ⟨_, _, rfl, run_takeDeferred H9.out.2.2, ?_⟩⟩
    have hI2 := (LpI.own base b w (fun _ : List Nat => ys ++ flT ⟨s, 2, mj, mn, ds⟩)).putObj (s := []) (.deferred none) ⟨H9.out.1, H9.out.2.1⟩ (by have := HBT.out.2.2.1.size; have := HA.out.2.2.2.2; omega) H9.out.2.2 rfl
    exact ⟨_, results_none rfl _ _ _, rfl, hI2.1, hI2.2⟩
end Go.Proofs.YtjbealefopajcaaDoor
