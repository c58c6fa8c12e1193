import Derived.Test.YtjbealefopajcaaDoorWe
namespace Go.Proofs.YtjbealefopajcaaDoor
open Go Go.RowKit Rg
attribute [local go_sem] Oper.semAt_some
set_option linter.unusedVariables false
set_option linter.unusedSimpArgs false
set_option maxRecDepth 100000
/-! The ticks' lines. -/
/-- A part of a slice of numbers. -/
theorem nt_part {w : World} {X bk o n c : Nat} {ds : List Int} (h : Nt w X (.slice (some ⟨bk, o, .none⟩) n c) ds) (t e : Nat) (he : t + e ≤ n) : Nt w X (.slice (some ⟨bk, o + t, .none⟩) e e) ((ds.drop t).take e) := by
  obtain ⟨p', c', hv, hlc, h2⟩ := h
  injection hv with e1 e2 e3
  have hl : ((ds.drop t).take e).length = e := by rw [List.length_take, List.length_drop]; omega
  refine ⟨_, _, by rw [hl], ⟨by omega, by omega⟩, ?_⟩
  rcases h2 with h2 | ⟨b, o', hp, hb, hr⟩
  · left
    rw [h2]; simp
  · right
    rw [hp] at e1
    injection e1 with e1
    injection e1 with e4 e5
    subst e4 e5
    refine ⟨bk, o + t, rfl, hb, fun i x hx => ?_⟩
    rw [List.getElem?_take] at hx
    split at hx
    · rw [List.getElem?_drop] at hx
      obtain ⟨cs, q, hlen, hrr⟩ := hr (t + i) x hx
      refine ⟨cs, q, hlen, ?_⟩
      rw [show o + t + i * 1 = o + (t + i) * 1 by omega]
      exact hrr
    · cases hx
theorem str_info : ∃ i z, Tryd.prog.info? 9 = some i ∧ i.zero = some z ∧ i.size = 1 ∧ i.bytes = 16 ∧ z.cells.size = 1 := info_of 9 1 16 (by kernel_rfl) (by kernel_rfl)
theorem chunkI_any {w : World} {X z1 z2 n c : Nat} {p : Option Addr} {ds : List Int} (h : Nt w X (.slice p n c) ds) (hb : n ≤ 10000000000) (h1 : w.cell? ⟨z1, 0, .none⟩ = some (.slice p n c)) (h2 : w.cell? ⟨z2, 0, .none⟩ = some (.int .i64 16)) :
    ∃ bk o, (0 < n → p = some ⟨bk, o, .none⟩) ∧ ∀ m, SeqL Fence.wide m Tryd.prog 50 #[.pointer (some ⟨z1, 0, .none⟩), .pointer (some ⟨z2, 0, .none⟩)] (ckE 16 bk o n) (KpC z1 z2) (List.range (ckN 16 n)) w := by
  by_cases h0 : 0 < n
  · obtain ⟨-, bk, o, x, cs, rfl, -⟩ := h.at h0
    exact ⟨bk, o, fun _ => rfl, fun m => chunkI_seq m h1 h2 h.cap.2 hb⟩
  · obtain rfl : n = 0 := by omega
    exact ⟨0, 0, fun h => absurd h h0, fun m => chunkI_nil m h1⟩
theorem le_cell1s9 (w : World) (v : Value) (t : TypeId) : ∀ j u, [v][j]? = some u → (w.alloc (.cells #[v] t)).cell? ((⟨w.heap.size, 0, .none⟩ : Addr).add j) = some u := by
  intro j u hj
  rw [le_addr_add, World.cell?_alloc_at _ _ _ _ rfl, Nat.zero_add]
  simpa using hj
theorem tkP_len9 (ts : List Int) (h : ∀ t ∈ ts, i64b t) : ∀ i, i ≤ ts.length → (tkP ts i).length ≤ 30 * i
  | 0, _ => by simp [tkP]
  | i + 1, hi => by
    have h1 := tkP_len9 ts h i (by omega)
    have h2 : (itI (ts.getD i 0)).length ≤ 20 := itI_len _ (by
      rw [List.getD_eq_getElem?_getD, List.getElem?_eq_getElem (by omega)]
      exact h _ (List.getElem_mem _))
    rw [tkP]
    simp only [List.length_append]
    have h3 : (if i % 16 = 0 then [116, 105, 99, 107] else ([] : List Int)).length ≤ 4 := by split <;> simp
    have h4 : (if i % 16 = 15 ∨ i + 1 = ts.length then [10] else ([] : List Int)).length ≤ 1 := by split <;> simp
    simp only [List.length_singleton]
    omega
theorem spT_len9 (ts : List Int) (h : ∀ t ∈ ts, i64b t) : (spT ts).length ≤ 21 * ts.length := by
  induction ts with
  | nil => simp [spT]
  | cons t ts ih =>
    have h1 := ih (fun x hx => h x (by simp [hx]))
    have h2 := itI_len t (h t (by simp))
    unfold spT at *
    rw [List.flatMap_cons, List.length_append, List.length_cons, List.length_cons]
    omega
set_option maxHeartbeats 8000000 in
theorem ticks_any {w : World} {base b X : Nat} {ys : List Int} (h : Wr w base b ys) (hb : base ≤ w.heap.size) (hTB : TB w) (h3 : 3 ≤ base) {p : Option Addr} {n c : Nat} {ts : List Int} (hD : Nt w X (.slice p n c) ts) (hX : X ≤ base) (hbd : ∀ x ∈ ts, i64b x) (hn : n ≤ 10000000) (hl : ys.length ≤ 100000000000) :
    Calls Tryd.prog 31 #[.pointer (some ⟨b, 0, .none⟩), .slice p n c] w fun e w' => e = .returned (.tuple #[]) ∧ Wr w' base b (ys ++ tkP ts n) ∧ KW base b w w' := by
  obtain ⟨i3, zz3, hi3, hz3, hs3, hb3, hzs3⟩ := str_info
  have HI : Hid (Tryd.prog.info? 9 = some i3 ∧ i3.zero = some zz3 ∧ i3.size = 1 ∧ i3.bytes = 16 ∧ zz3.cells.size = 1) := ⟨hi3, hz3, hs3, hb3, hzs3⟩
  clear hi3 hz3 hs3 hb3 hzs3
  have hnl : n = ts.length := hD.cap.1
  have HLN : Hid (ys.length ≤ 100000000000 ∧ ∀ i, i ≤ n → (tkP ts i).length ≤ 300000000) := ⟨hl, fun i hi => by have := tkP_len9 ts hbd i (by omega); omega⟩
  obtain ⟨W, hW⟩ : ∃ W, W = w.alloc (.cells #[.pointer (some ⟨b, 0, .none⟩)] 78) := ⟨_, rfl⟩
  have b1 : Below w.heap.size w W := by rw [hW]; exact below1 _ _
  obtain ⟨z, hzz⟩ : ∃ z, z = w.heap.size := ⟨_, rfl⟩
  have k0 : W.heap[z]? = some (.cells #[.pointer (some ⟨b, 0, .none⟩)] 78 (0, 0)) := by rw [hW, hzz]; exact new_heap _ _
  have hzb : b < z := by rw [hzz]; exact h.len
  have HZB : Hid (b < z ∧ base ≤ b ∧ X ≤ base ∧ 3 ≤ base) := ⟨hzb, h.1, hX, h3⟩
  have HD : Hid (Nt w X (.slice p n c) ts ∧ n ≤ 10000000 ∧ n = ts.length ∧ (∀ x ∈ ts, i64b x) ∧ base ≤ w.heap.size) := ⟨hD, hn, hnl, hbd, hb⟩
  have HW : Hid (Wr W base b ys ∧ KW base b w W ∧ base ≤ W.heap.size ∧ z < W.heap.size ∧ W.heap[z]? = some (.cells #[.pointer (some ⟨b, 0, .none⟩)] 78 (0, 0)) ∧ TB W) := ⟨h.keep b1, KW.of b1, Nat.le_trans hb b1.size, hp_lt k0, k0, hTB.keep b1⟩
  have HWW : Hid (W = w.alloc (.cells #[.pointer (some ⟨b, 0, .none⟩)] 78)) := hW
  have HZZ : Hid (z = w.heap.size) := hzz
  clear hW hzz b1 h hb hl hzb hnl hD hn hbd hX k0 hTB h3
  have c43 := chunkI_mk (.slice p n c) W rfl
  obtain ⟨z1, hz1⟩ : ∃ z1, z1 = W.heap.size := ⟨_, rfl⟩
  have HZ1 : Hid (z1 = W.heap.size) := hz1
  rw [← hz1] at c43
  obtain ⟨Y, hY⟩ : ∃ Y, Y = (W.alloc (.cells #[.slice p n c] 23)).alloc (.cells #[.int .i64 16] 3) := ⟨_, rfl⟩
  rw [← hY] at c43
  have HY : Hid (Y = (W.alloc (.cells #[.slice p n c] 23)).alloc (.cells #[.int .i64 16] 3)) := hY
  rw [HWW.out] at c43
  clear hY hz1
  refine (callsIn_wide (n := 3)).1 ?_
  refine callsIn_of_wp_marks Tryd.func31 rfl trivial ?_ rfl
  refine wpIn_wide.2 ?_
  simp only [Tryd.ntmps31, List.size_toArray, List.length_cons, List.length_nil, Nat.reduceAdd, Nat.reduceSub, Array.replicate_succ, Array.replicate_zero, List.push_toArray, List.append_toArray, List.nil_append, List.cons_append]
  go_wp2_with (go_at_call 43; refine c43.mono ?_; rintro _ Y2 ⟨rfl, rfl⟩; clear c43)
  rw [← HZZ.out]
  have HB2 : Hid (Below W.heap.size W Y2 ∧ Y2.heap.size = z1 + 2 ∧ Y2.heap[z1]? = some (.cells #[.slice p n c] 23 (0, 0)) ∧ Y2.heap[z1 + 1]? = some (.cells #[.int .i64 16] 3 (0, 0)) ∧ z1 = W.heap.size) := by
    have e := HY.out
    have e2 := HZ1.out
    have h9 := new_heap (W.alloc (.cells #[.slice p n c] 23)) (.cells #[.int .i64 16] 3)
    rw [World.size_alloc, ← e2] at h9
    refine ⟨by rw [e]; exact ((Below.refl _ _).alloc (Nat.le_refl _) _).alloc (by simp) _, by rw [e, e2]; simp, ?_, ?_, e2⟩
    · rw [e, e2, Below.heap_alloc _ _ _ (by simp)]; exact new_heap _ _
    · rw [e]; exact h9
  clear HY HZ1 HWW
  have HBT : Hid (Nt Y2 X (.slice p n c) ts ∧ Wr Y2 base b ys ∧ KW base b w Y2 ∧ base ≤ Y2.heap.size ∧ Y2.heap[z]? = some (.cells #[.pointer (some ⟨b, 0, .none⟩)] 78 (0, 0)) ∧ z < z1 ∧ TB Y2) := by
    have q := HW.out
    have r := HB2.out
    have kk : KW base b w Y2 := q.2.1.trans (KW.of r.1)
    exact ⟨Wd.keep HD.out.1 (Nat.le_refl _) (kk.below HZB.out.2.1 HZB.out.2.2.1 (by have := HZB.out; have := HD.out; omega)), q.1.keep r.1, kk, Nat.le_trans q.2.2.1 r.1.size, (r.1.block z q.2.2.2.1).trans q.2.2.2.2.1, by omega, q.2.2.2.2.2.keep r.1⟩
  have hcb := chunkI_any HBT.out.1 (by have := HD.out.2.1; omega) (cell_heap HB2.out.2.2.1) (cell_heap HB2.out.2.2.2.1)
  obtain ⟨bk, o, hp, hseq⟩ := hcb
  have HSEQ : Hid ((0 < n → p = some ⟨bk, o, .none⟩) ∧ ∀ m, SeqL Fence.wide m Tryd.prog 50 #[.pointer (some ⟨z1, 0, .none⟩), .pointer (some ⟨z1 + 1, 0, .none⟩)] (ckE 16 bk o n) (KpC z1 (z1 + 1)) (List.range (ckN 16 n)) Y2) := ⟨hp, hseq⟩
  clear hp hseq
  have HI0 : Hid (LpI base b Y2 (fun pre : List Nat => ys ++ tkP ts (min n (16 * pre.length))) [] Y2) := ⟨by simp only [List.length_nil, Nat.mul_zero, Nat.min_zero, tkP, List.append_nil]; exact HBT.out.2.1, KW.refl _ _ _⟩
  refine (wpIn_wide (n := 3)).1 ?_
  refine range_list (α := Nat) rfl (by omega) (gf := 50) (lb := #[.pointer (some ⟨z1, 0, .none⟩), .pointer (some ⟨z1 + 1, 0, .none⟩)]) rfl trivial (enters_of Tryd.func50 (by kernel_rfl) rfl) (Below.refl _ _) (HSEQ.out.2 2) KpC.trans (fun A l o' hl => ⟨World.putObj_heap_other (by have := HB2.out.2.1; omega), World.putObj_heap_other (by have := HB2.out.2.1; omega)⟩) (fun _ => rfl)
    (LpI base b Y2 (fun pre : List Nat => ys ++ tkP ts (min n (16 * pre.length)))) (LpI.own base b Y2 _) HI0.out ?aa ?assign ?body ?done
  case assign =>
    intro l x A K hK
    simp only [ckE]
    gi_wp2
    exact hK
  case body =>
    rintro l pre x A hA hpre
    obtain ⟨rfl, hxm⟩ := range_at hpre
    have h16 : 16 * pre.length < n := by unfold ckN at hxm; omega
    obtain ⟨j, hj⟩ : ∃ j, j = pre.length := ⟨_, rfl⟩
    obtain ⟨e, he⟩ : ∃ e, e = min 16 (n - 16 * pre.length) := ⟨_, rfl⟩
    rw [← hj] at he h16 ⊢
    rw [← he]
    have HA : Hid (Wr A base b (ys ++ tkP ts (min n (16 * j))) ∧ KW base b Y2 A ∧ base ≤ A.heap.size ∧ TB A) := ⟨by have := hA.1; rw [hj]; exact this, hA.2, Nat.le_trans HBT.out.2.2.2.1 hA.2.size, HBT.out.2.2.2.2.2.2.kw hA.2 HZB.out.2.2.2 HZB.out.2.1 (Nat.le_trans HZB.out.2.2.2 HBT.out.2.2.2.1)⟩
    have HPR : Hid (∀ U, Wr U base b (ys ++ tkP ts (min n (16 * (j + 1)))) → KW base b Y2 U → LpI base b Y2 (fun pre : List Nat => ys ++ tkP ts (min n (16 * pre.length))) (pre ++ [j]) U) := fun U h1 h2 => ⟨by simp only [List.length_append, List.length_singleton, ← hj]; exact h1, h2⟩
    have HE : Hid (e = min 16 (n - 16 * j) ∧ 16 * j < n ∧ 0 < e ∧ 16 * j + e ≤ n ∧ e ≤ 16) := ⟨he, h16, by omega, by omega, by omega⟩
    have hpS := HSEQ.out.1 (by omega)
    have hbA : Below X Y2 A := HA.out.2.1.below HZB.out.2.1 HZB.out.2.2.1 (by have := HZB.out; have := HBT.out.2.2.2.1; omega)
    obtain ⟨xs, hxs⟩ : ∃ xs, xs = (ts.drop (16 * j)).take e := ⟨_, rfl⟩
    have hbt : Nt A X (.slice (some ⟨bk, o + 16 * j, .none⟩) e e) xs := by
      have h5 := HBT.out.1
      rw [hpS] at h5
      rw [hxs]
      exact nt_part (Wd.keep h5 (Nat.le_refl _) hbA) (16 * j) e HE.out.2.2.2.1
    have hlp : xs.length = e := by rw [hxs, List.length_take, List.length_drop]; have := HD.out.2.2.1; have := HE.out; omega
    have k0 : A.heap[z]? = some (.cells #[.pointer (some ⟨b, 0, .none⟩)] 78 (0, 0)) := HA.out.2.1.block z _ HBT.out.2.2.2.2.1 (by have := HZB.out; omega) (.inr (by rintro ⟨cur, fz, e⟩; cases e))
    have HTX : Hid (xs = (ts.drop (16 * j)).take 16 ∧ xs.length = e ∧ ∀ x ∈ xs, i64b x) := by
      refine ⟨?_, hlp, fun x hx => HD.out.2.2.2.1 x (List.mem_of_mem_drop (List.mem_of_mem_take (by rw [hxs] at hx; exact hx)))⟩
      rw [hxs]
      have h1 := HE.out
      have h2 := HD.out.2.2.1
      rcases Nat.lt_or_ge (n - 16 * j) 16 with h3 | h3
      · rw [List.take_of_length_le (by rw [List.length_drop]; omega), List.take_of_length_le (by rw [List.length_drop]; omega)]
      · rw [show e = 16 by omega]
    have HBT2 : Hid (Nt A X (.slice (some ⟨bk, o + 16 * j, .none⟩) e e) xs ∧ X ≤ A.heap.size ∧ A.heap[z]? = some (.cells #[.pointer (some ⟨b, 0, .none⟩)] 78 (0, 0))) := ⟨hbt, by have := HZB.out; have := HA.out.2.2.1; omega, k0⟩
    clear hA hpre hxm h16 hj he hpS hbA hbt hlp hxs k0
    obtain ⟨V, hV⟩ : ∃ V, V = A.alloc (.cells #[.string ⟨#[116, 105, 99, 107]⟩] 9) := ⟨_, rfl⟩
    obtain ⟨a0, ha0⟩ : ∃ a0, a0 = A.heap.size := ⟨_, rfl⟩
    have HV : Hid (Below A.heap.size A V ∧ V.ownsRow A.heap.size 9 1 (.slice (some ⟨a0, 0, .none⟩) 1 1) 1 (((⟨#[116, 105, 99, 107]⟩ : ByteArray) :: (xs.take 0).map itS).map Value.string) ∧ V = A.alloc (.cells #[.string ⟨#[116, 105, 99, 107]⟩] 9) ∧ a0 = A.heap.size) := by
      refine ⟨by rw [hV]; exact below1 _ _, ⟨by simp, .inr ⟨a0, 1, #[.string ⟨#[116, 105, 99, 107]⟩], rfl, by omega, ?_, by omega, by decide, by simp, by simp⟩⟩, hV, ha0⟩
      rw [hV, ha0]; exact new_heap _ _
    clear hV ha0
    gi_wp2
    rw [← HV.out.2.2.1, ← HV.out.2.2.2]
    gi_loopw [5, 7, 14] (fun v _ k U => ∃ i : Nat, i ≤ e ∧ k = .int .i64 i ∧ ∃ q cq, v = .slice q (i + 1) cq ∧ Hid (U.ownsRow A.heap.size 9 1 (.slice q (i + 1) cq) (i + 1) (((⟨#[116, 105, 99, 107]⟩ : ByteArray) :: (xs.take i).map itS).map Value.string) ∧ Below A.heap.size A U)) (fun _ _ k _ => (e - intOf k).toNat)
    case atStart => exact ⟨0, by omega, rfl, some ⟨a0, 0, .none⟩, 1, rfl, HV.out.2.1, HV.out.1⟩
    case round =>
      obtain ⟨i, hi, rfl, q, cq, rfl, HO⟩ := hrel
      have he16 : e ≤ 16 := HE.out.2.2.2.2
      have w1 : IntKind.i64.wrap ((i : Int) + 1) = (i : Int) + 1 := by rw [IntKind.wrap_i64]; omega
      by_cases hlt : i < e
      · have g0 : (i : Int) < e := by omega
        obtain ⟨-, bk', o', x, cs, hbo, hbX, hx, rfl, hcl, hr⟩ := HBT2.out.1.at hlt
        cases hbo
        have q0 := (HO.out.2.cell (p := ⟨bk, o + 16 * j + i * 1 + 0, .none⟩) (by show bk < _; have := HBT2.out.2.1; omega)).trans (hr 0 _ rfl)
        rw [Nat.add_zero, Nat.mul_one] at q0
        have c28 := itoa_any x (HTX.out.2.2 x (List.mem_of_getElem? hx)) (HA.out.2.2.2.keep HO.out.2)
        have HX : Hid (xs.take (i + 1) = xs.take i ++ [x]) := by show _ = _; rw [List.take_add_one, hx]; rfl
        clear hr hcl hx hbX
        gi_wp2_with (first | (refine ⟨trivial, ?_⟩; refine (CallsIn.inRound l (callsIn_wide.2 c28)).mono ?_; rintro _ U1 ⟨rfl, b1⟩; have HU : Hid (U1.ownsRow A.heap.size 9 1 (.slice q (i + 1) cq) (i + 1) (((⟨#[116, 105, 99, 107]⟩ : ByteArray) :: (xs.take i).map itS).map Value.string) ∧ Below A.heap.size A U1 ∧ A.heap.size ≤ U1.heap.size) := ⟨own_bel HO.out.1 b1 (fun g hg => (HO.out.1.lt g hg).2), HO.out.2.trans (b1.mono HO.out.2.size), Nat.le_trans HO.out.2.size b1.size⟩; clear b1 c28) | (gi_at_builtin; refine Hid.out ?_) | fail)
        unfold Hid
        have ho1 : (U1.alloc (.cells #[.string (itS x)] 9)).ownsRow A.heap.size 9 1 (.slice q (i + 1) cq) (i + 1) (((⟨#[116, 105, 99, 107]⟩ : ByteArray) :: (xs.take i).map itS).map Value.string) := (HU.out.1).alloc _
        refine wpListIn_append_own _ rfl (.tmp 18) (.tmp 21) 79 rfl A.heap.size 9 i3 zz3 1 16 Tryd.underlying79 HI.out.1 HI.out.2.1 HI.out.2.2.1 HI.out.2.2.2.1 HI.out.2.2.2.2 (by decide) (.slice q (i + 1) cq) (i + 1) (((⟨#[116, 105, 99, 107]⟩ : ByteArray) :: (xs.take i).map itS).map Value.string) rfl ho1 ⟨U1.heap.size, 0, .none⟩ 1 1 [.string (itS x)] rfl rfl (le_cell1s9 _ _ _) (by simp [Value.oneCell']) (by simp only [maxLen]; omega) (by omega) (by have := HU.out.2.2; simp only [World.size_alloc]; omega) ?_
        intro v' w2 own' grow fb
        clear fb
        have HG : Hid (Below A.heap.size A w2) := HU.out.2.1.trans (below_append (Below.refl _ _) _ grow HU.out.2.2 (fun k hk => own_block HU.out.1 k hk))
        have HO2 : Hid (w2.ownsRow A.heap.size 9 1 v' (i + 1 + 1) (((⟨#[116, 105, 99, 107]⟩ : ByteArray) :: (xs.take (i + 1)).map itS).map Value.string)) := by
          have h2 := own'
          rw [show ((⟨#[116, 105, 99, 107]⟩ : ByteArray) :: (xs.take i).map itS).map Value.string ++ [.string (itS x)] = ((⟨#[116, 105, 99, 107]⟩ : ByteArray) :: (xs.take (i + 1)).map itS).map Value.string by rw [HX.out]; simp] at h2
          exact h2
        obtain ⟨p', c', rfl⟩ := one_slice own'
        clear own' grow ho1 q0
        gi_wp2
        exact ⟨⟨i + 1, by omega, by go_num, _, _, rfl, HO2.out, HG.out⟩, by simp only [intOf]; omega⟩
      · have g0 : ¬ (i : Int) < e := by omega
        obtain rfl : i = e := by omega
        have ho := HO.out.1
        obtain ⟨g, cap, cur, hv, hbg, hg, hcap, hmax, hcs, htk⟩ := ho.2.resolve_left (by rintro ⟨_, h⟩; omega)
        cases hv
        have HWU : Hid (Wr wr base b (ys ++ tkP ts (min n (16 * j))) ∧ KW base b A wr ∧ base ≤ wr.heap.size ∧ KW base b Y2 wr) := ⟨HA.out.1.keep HO.out.2, KW.of HO.out.2, Nat.le_trans HA.out.2.2.1 HO.out.2.size, HA.out.2.1.trans (KW.of HO.out.2)⟩
        have kz : wr.cell? ⟨z, 0, .none⟩ = some (.pointer (some ⟨b, 0, .none⟩)) := cell_heap ((HO.out.2.block z (hp_lt HBT2.out.2.2)).trans HBT2.out.2.2)
        have HJ : Hid (jnI ((⟨#[116, 105, 99, 107]⟩ : ByteArray) :: xs.map itS) = tickI ++ spT xs ∧ (tickI ++ spT xs).length ≤ 400) := by
          refine ⟨jn_tick xs, ?_⟩
          have h1 := spT_len9 xs HTX.out.2.2
          have h2 := HTX.out.2.1
          rw [List.length_append]
          simp only [tickI, List.length_cons, List.length_nil]
          omega
        have hxl : xs.take i = xs := List.take_of_length_le (by have := HTX.out.2.1; omega)
        rw [hxl] at ho htk
        have hln : i + 1 = ((⟨#[116, 105, 99, 107]⟩ : ByteArray) :: xs.map itS).length := by rw [List.length_cons, List.length_map, HTX.out.2.1]
        have c27 := line_any (o := 0) (q := g) (c := cq) (xs := (⟨#[116, 105, 99, 107]⟩ : ByteArray) :: xs.map itS) HWU.out.1 HWU.out.2.2.1 (fun k x hk => by
          have h1 := ho.cells (g := g) rfl k (.string x) (by rw [List.getElem?_map, hk]; rfl)
          rwa [le_addr_add] at h1) (hp_lt hg) (by rw [← hln]; exact hcap) (by rw [← hln]; omega) (by rw [HJ.out.1, List.length_append]; have h1 := HLN.out.1; have h2 := HLN.out.2 (min n (16 * j)) (Nat.min_le_left _ _); have h3 := HJ.out.2; omega)
        rw [← hln] at c27
        have HFX : Hid (∀ U, Wr U base b (ys ++ tkP ts (min n (16 * j)) ++ jnI ((⟨#[116, 105, 99, 107]⟩ : ByteArray) :: xs.map itS) ++ [10]) → Wr U base b (ys ++ tkP ts (min n (16 * (j + 1))))) := by
          intro U hU
          rw [HJ.out.1, HTX.out.1] at hU
          have h1 := tk_end ts j (by have := HE.out; have := HD.out.2.2.1; omega)
          rw [← HD.out.2.2.1] at h1
          rw [h1]
          simpa only [List.append_assoc] using hU
        clear ho hg htk hcs hmax hcap hbg hln hxl
        gi_wp2_with (first | (refine ⟨trivial, ?_⟩; refine (CallsIn.inRound l (callsIn_wide.2 c27)).mono ?_; rintro _ U2 ⟨rfl, wr9, k9⟩) | fail)
        have f1 := HA.out.2.1.block z1 _ HB2.out.2.2.1 (by have := HZB.out; have := HBT.out.2.2.2.2.2.1; omega) (.inr (by rintro ⟨cur, fz, e⟩; cases e))
        have f2 := HA.out.2.1.block (z1 + 1) _ HB2.out.2.2.2.1 (by have := HZB.out; have := HBT.out.2.2.2.2.2.1; omega) (.inr (by rintro ⟨cur, fz, e⟩; cases e))
        have kY := HWU.out.2.2.2.trans k9
        have g1 := kY.block z1 _ HB2.out.2.2.1 (by have := HZB.out; have := HBT.out.2.2.2.2.2.1; omega) (.inr (by rintro ⟨cur, fz, e⟩; cases e))
        have g2 := kY.block (z1 + 1) _ HB2.out.2.2.2.1 (by have := HZB.out; have := HBT.out.2.2.2.2.2.1; omega) (.inr (by rintro ⟨cur, fz, e⟩; cases e))
        have HFIN : Hid (KeepsFrom Y2.heap.size A U2 ∧ KpC z1 (z1 + 1) A U2 ∧ LpI base b Y2 (fun pre : List Nat => ys ++ tkP ts (min n (16 * pre.length))) (pre ++ [j]) U2) :=
          ⟨(HWU.out.2.1.trans k9).keepsFrom (by have := HZB.out; have := HBT.out.2.2.2.2.2.1; have := HB2.out.2.1; omega), ⟨g1.trans f1.symm, g2.trans f2.symm⟩, HPR.out U2 (HFX.out U2 wr9) kY⟩
        clear f1 f2 g1 g2 kY wr9 k9 c27
        gi_wp2
        exact HFIN.out
  case done =>
    rintro D A hD hA hK
    have HA : Hid (Wr A base b (ys ++ tkP ts n) ∧ KW base b w A) := by
      refine ⟨?_, HBT.out.2.2.1.trans hA.2⟩
      have h1 := hA.1
      simp only [List.length_range] at h1
      rwa [show min n (16 * ckN 16 n) = n by unfold ckN; omega] at h1
    have HDD : Hid (w.heap.size ≤ D ∧ A.heap[D]? = some (.deferred (some []))) := ⟨by have := HBT.out.2.2.1.size; omega, hK⟩
    clear hA hK hD
    gi_wp2
    refine ⟨by simp, .inl ⟨_, _, rfl, run_takeDeferred HDD.out.2, ?_⟩⟩
    have hI2 := (LpI.own base b w (fun _ : List Nat => ys ++ tkP ts n)).putObj (s := []) (.deferred none) ⟨HA.out.1, HA.out.2⟩ HDD.out.1 HDD.out.2 rfl
    exact ⟨_, results_none rfl _ _ _, rfl, hI2.1, hI2.2⟩
end Go.Proofs.YtjbealefopajcaaDoor
