import Derived.Test.YtnghcadhilfgnaaQN
import Derived.Test.YtnghcadhilfgnaaQW
namespace Go.Proofs.Ytnghcadhilfgnaa
open Go.RowKit
set_option linter.unusedVariables false
set_option linter.unusedSimpArgs false
section
variable {W : World} {q hb lb N : Nat} {fb : Nat → Nat} {B : Nat → Int} {L : List Nat}
theorem nmd_fr (i : Nat) (hi : i < N) : nmd (2147483648 + (i : Int) * 4096) N = i := by
  unfold nmd
  rw [if_pos (isFr_addr i N hi)]
  unfold fi
  omega
theorem freeG_bad (h : Qm W q hb fb lb N B L) (pa : Int) (hp : 0 ≤ pa ∧ pa < 18446744073709551616) (hn : isFr pa N = false ∨ pa = 2147483648) : Calls Try.prog 18 #[.pointer (some ⟨q, 0, .none⟩), .int .u64 pa] W fun e w' => e = .returned (.int .i64 61) ∧ w' = W := by
  have c0 := h.c0
  have n1 := h.n1
  have n2 := h.n2
  have c := named_any c0 n2 pa hp
  have x : nmd pa N < 1 := by
    rcases hn with hn | hn
    · unfold nmd; rw [hn]; simp
    · rw [hn, show (2147483648 : Int) = 2147483648 + ((0 : Nat) : Int) * 4096 by omega, nmd_fr 0 (by omega)]; omega
  have i3 : ((N : Int) == 0) = false := by simp; omega
  clear h
  generalize nmd pa N = z at *
  go_enter Try.func18, Try.ntmps18
  go_wp2_with (go_at_call 47; refine c.mono ?_; rintro e w0 ⟨rfl, rfl⟩)
  go_ret
  exact ⟨rfl, rfl⟩
theorem freeG_free (h : Qm W q hb fb lb N B L) (i : Nat) (h1 : 1 ≤ i) (hi : i < N) (hL : i ∈ L) : Calls Try.prog 18 #[.pointer (some ⟨q, 0, .none⟩), .int .u64 (2147483648 + (i : Int) * 4096)] W fun e w' => e = .returned (.int .i64 62) ∧ w' = W := by
  have c0 := h.c0
  have n1 := h.n1
  have n2 := h.n2
  have c := named_any c0 n2 (2147483648 + (i : Int) * 4096) (by omega)
  rw [nmd_fr i hi] at c
  have hh := h.hf i hi hL
  have hq : ∀ W : World, (binOp .eql 27 (.slice .none 0 0) (.slice .none 0 0)).run Try.prog W = .ok (.bool true) W := fun W => Lib.run_eql_slice_nil W 27 5 .none 0 0 0 0 Try.underlying27
  have i3 : ((N : Int) == 0) = false := by simp; omega
  have i4 : ¬ ((i : Int) < 1) := by omega
  have i5 : (i : Int) < N := by omega
  clear h
  go_enter Try.func18, Try.ntmps18
  go_wp2_with (go_at_call 47; refine c.mono ?_; rintro e w0 ⟨rfl, rfl⟩)
  go_ret
  exact ⟨rfl, rfl⟩
/-- What a Free leaves. -/
def FreP (W : World) (q hb : Nat) (fb : Nat → Nat) (N : Nat) (B : Nat → Int) (L : List Nat) (w' : World) : Prop := ∃ lb', W.heap.size ≤ lb' ∧ Qm w' q hb fb lb' N B L ∧ Fx (fun k => k = q ∨ k = hb) W w'
theorem own_one (w : World) (x : Value) (X e : Nat) (hX : X ≤ w.heap.size) : (w.alloc (.cells #[x] e)).ownsRow X e 1 (.slice (some ⟨w.heap.size, 0, .none⟩) 1 1) 1 [x] := by
  refine ⟨rfl, .inr ⟨w.heap.size, 1, #[x], rfl, hX, World.alloc_heap_new w _, Nat.le_refl _, ?_, rfl, rfl⟩⟩
  unfold maxLen; omega
theorem Qm.freed (h : Qm W q hb fb lb N B L) (i : Nat) (h1 : 1 ≤ i) (hi : i < N) (hL : i ∉ L) {V : World} {g c : Nat} (own : V.ownsRow W.heap.size 3 1 (.slice (some ⟨g, 0, .none⟩) (L.length + 1) c) (L.length + 1) ((i :: L).map iv)) (be : Below W.heap.size (W.setCell ⟨hb, i, .none⟩ (.slice .none 0 0)) V) :
    FreP W q hb fb N B (i :: L) (V.setCell ⟨q, 1, .none⟩ (.slice (some ⟨g, 0, .none⟩) (L.length + 1) c)) := by
  have gX : W.heap.size ≤ g := (own.lt g rfl).1
  have ql := h.qlt
  have hl := h.hlt
  have qh := h.qh
  have ce : ∀ b o, b < W.heap.size → V.cell? ⟨b, o, .none⟩ = (W.setCell ⟨hb, i, .none⟩ (.slice .none 0 0)).cell? ⟨b, o, .none⟩ := fun b o hb' => be.cell hb'
  have fe : ∀ b o, b < W.heap.size → V.frozen? ⟨b, o, .none⟩ = W.frozen? ⟨b, o, .none⟩ := fun b o hb' => (be.frozen hb').trans (World.frozen?_setCell ..)
  have so : ∀ b o, (b ≠ q ∨ o ≠ 1) → (V.setCell ⟨q, 1, .none⟩ (.slice (some ⟨g, 0, .none⟩) (L.length + 1) c)).cell? ⟨b, o, .none⟩ = V.cell? ⟨b, o, .none⟩ := fun b o hx => World.cell?_setCell_other _ _ _ _ (by simp only [ne_eq, Addr.mk.injEq, and_true, not_and]; intro e1 e2; rcases hx with hx | hx <;> omega)
  have wo : ∀ b o, (b ≠ hb ∨ o ≠ i) → (W.setCell ⟨hb, i, .none⟩ (.slice .none 0 0)).cell? ⟨b, o, .none⟩ = W.cell? ⟨b, o, .none⟩ := fun b o hx => World.cell?_setCell_other _ _ _ _ (by simp only [ne_eq, Addr.mk.injEq, and_true, not_and]; intro e1 e2; rcases hx with hx | hx <;> omega)
  have ff : ∀ b o, b < W.heap.size → (V.setCell ⟨q, 1, .none⟩ (.slice (some ⟨g, 0, .none⟩) (L.length + 1) c)).frozen? ⟨b, o, .none⟩ = W.frozen? ⟨b, o, .none⟩ := fun b o hb' => (World.frozen?_setCell ..).trans (fe b o hb')
  obtain ⟨lv, q1, _⟩ := h.c1
  have q1s : (V.cell? ⟨q, 1, .none⟩).isSome = true := by rw [ce q 1 ql, wo q 1 (.inl qh), q1]; rfl
  refine ⟨g, gX, ⟨?_, ⟨_, World.cell?_setCell_same' _ _ _ q1s, .inr ⟨0, c, rfl, ?_, fun j v hj => ?_⟩⟩, (ff q 1 ql).trans h.g1, fun j hj hm => ?_, fun j hj hm => ?_, fun j hj => (ff hb j hl).trans (h.gh j hj), fun j hj hm k hk => ?_, fun j hj hm k hk => ?_, fun a b ha hb' hma hmb e => h.inj a b ha hb' (fun x => hma (List.mem_cons_of_mem _ x)) (fun x => hmb (List.mem_cons_of_mem _ x)) e, qh, ⟨by omega, by omega, fun j hj hm => ?_⟩, List.nodup_cons.2 ⟨hL, h.nd⟩, fun x hx => ?_, h.n1, h.n2, h.bb⟩, ?_⟩
  · rw [so q 0 (.inr (by omega)), ce q 0 ql, wo q 0 (.inl qh)]
    exact h.c0
  · rcases own.2 with ⟨e, _⟩ | ⟨g', cap, cur, e, hX, hh, hn, _⟩
    · cases e
    · simp only [Value.slice.injEq] at e
      obtain ⟨_, _, rfl⟩ := e
      exact hn
  · rw [so g _ (.inl (by omega))]
    rcases own.2 with ⟨e, _⟩ | ⟨g', cap, cur, e, hX, hh, hn, hc, hs, ht⟩
    · cases e
    · simp only [Value.slice.injEq, Option.some.injEq, Addr.mk.injEq, and_true] at e
      obtain ⟨rfl, _, rfl⟩ := e
      have hj' : j < L.length + 1 := by
        have := List.getElem?_eq_some_iff.1 hj
        obtain ⟨hlt, _⟩ := this
        simpa using hlt
      simp only [World.cell?, hh, Nat.zero_add]
      show cur[j]? = _
      rw [← Array.getElem?_toList, ← List.getElem?_take_of_lt (show j < (L.length + 1) * 1 by omega), ht, List.getElem?_map, hj]
      rfl
  · rw [so hb j (.inl (Ne.symm qh)), ce hb j hl]
    by_cases e : j = i
    · subst e
      exact World.cell?_setCell_same' _ _ _ (by rw [h.hh j hi hL]; rfl)
    · rw [wo hb j (.inr e)]
      exact h.hf j hj (by simpa [e] using hm)
  · have e : j ≠ i := fun e => hm (by simp [e])
    have hm' : j ∉ L := fun x => hm (List.mem_cons_of_mem _ x)
    rw [so hb j (.inl (Ne.symm qh)), ce hb j hl, wo hb j (.inr e)]
    exact h.hh j hj hm'
  · have hm' : j ∉ L := fun x => hm (List.mem_cons_of_mem _ x)
    have fq := h.fq j hj hm'
    rw [so _ _ (.inl fq.1), ce _ _ (h.flt j hj hm'), wo _ _ (.inl fq.2)]
    exact h.cb j hj hm' k hk
  · have hm' : j ∉ L := fun x => hm (List.mem_cons_of_mem _ x)
    exact (ff _ _ (h.flt j hj hm')).trans (h.gb j hj hm' k hk)
  · have hm' : j ∉ L := fun x => hm (List.mem_cons_of_mem _ x)
    have := h.flt j hj hm'
    omega
  · rcases List.mem_cons.1 hx with rfl | hx
    · exact ⟨h1, hi⟩
    · exact h.rg x hx
  · have f1 : Fx (fun k => k = q ∨ k = hb) W (W.setCell ⟨hb, i, .none⟩ (.slice .none 0 0)) := (Fx.refl _ W).setCell _ _ (.inr rfl)
    have sz : (W.setCell ⟨hb, i, .none⟩ (.slice .none 0 0)).heap.size = W.heap.size := World.size_setCell ..
    have f2 : Fx (fun k => k = q ∨ k = hb) (W.setCell ⟨hb, i, .none⟩ (.slice .none 0 0)) V := Fx.of_below (by rw [sz]; exact be)
    exact (f1.trans f2).setCell _ _ (.inl rfl)
theorem Qm.list_at (h : Qm W q hb fb lb N B L) : ∃ lp lc, W.cell? ⟨q, 1, .none⟩ = some (.slice lp L.length lc) ∧ ∀ k (hk : k < L.length), ∃ lo, lp = some ⟨lb, lo, .none⟩ ∧ W.cell? ⟨lb, lo + k, .none⟩ = some (.int .i64 (L[k] : Int)) := by
  obtain ⟨lv, c1, hl⟩ := h.c1
  rcases hl with ⟨_, _, rfl, rfl⟩ | ⟨lo, c, rfl, _, hc⟩
  · exact ⟨_, _, c1, fun k hk => by simp at hk⟩
  · exact ⟨_, _, c1, fun k hk => ⟨lo, rfl, hc k L[k] (List.getElem?_eq_getElem hk)⟩⟩
set_option maxHeartbeats 2000000 in
set_option maxRecDepth 100000 in
theorem freeG_held (h : Qm W q hb fb lb N B L) (i : Nat) (h1 : 1 ≤ i) (hi : i < N) (hL : i ∉ L) : Calls Try.prog 18 #[.pointer (some ⟨q, 0, .none⟩), .int .u64 (2147483648 + (i : Int) * 4096)] W fun e w' => e = .returned (.int .i64 0) ∧ FreP W q hb fb N B (i :: L) w' := by
  obtain ⟨j0, hj0, hjz, hj1, hj2⟩ := info3
  have c0 := h.c0
  have n1 := h.n1
  have n2 := h.n2
  have c := named_any c0 n2 (2147483648 + (i : Int) * 4096) (by omega)
  rw [nmd_fr i hi] at c
  have hh := h.hh i hi hL
  have gh := h.gh i hi
  have hq : ∀ W : World, (binOp .eql 27 (.slice (some ⟨fb i, 0, .none⟩) 4096 4096) (.slice .none 0 0)).run Try.prog W = .ok (.bool false) W := fun W => Lib.run_eql_slice_nil W 27 5 (some ⟨fb i, 0, .none⟩) 4096 4096 0 0 Try.underlying27
  have i3 : ((N : Int) == 0) = false := by simp; omega
  have i4 : ¬ ((i : Int) < 1) := by omega
  have i5 : (i : Int) < N := by omega
  have HQ : Hid (Qm W q hb fb lb N B L) := h
  have ll := nodup_le N L h.nd (fun x hx => (h.rg x hx).2)
  clear h
  go_enter Try.func18, Try.ntmps18
  go_wp2_with (first | (go_at_call 47; refine c.mono ?_; rintro e w0 ⟨rfl, rfl⟩) | fail)
  obtain ⟨lp, lc, q1, hlist⟩ := HQ.out.list_at
  have HB0 : Hid (Below w0.heap.size (w0.setCell ⟨hb, i, .none⟩ (.slice .none 0 0)) ((w0.setCell ⟨hb, i, .none⟩ (.slice .none 0 0)).alloc (.cells #[.int .i64 i] 3))) := (Below.refl _ _).alloc (by rw [World.size_setCell]; exact Nat.le_refl _) _
  have HO0 : Hid (((w0.setCell ⟨hb, i, .none⟩ (.slice .none 0 0)).alloc (.cells #[.int .i64 i] 3)).ownsRow w0.heap.size 3 1 (.slice (some ⟨w0.heap.size, 0, .none⟩) 1 1) 1 [iv i]) := by
    have := own_one (w0.setCell ⟨hb, i, .none⟩ (.slice .none 0 0)) (iv i) w0.heap.size 3 (by rw [World.size_setCell]; exact Nat.le_refl _)
    rw [World.size_setCell] at this
    exact this
  have HC : Hid (∀ V, Below w0.heap.size (w0.setCell ⟨hb, i, .none⟩ (.slice .none 0 0)) V → V.cell? ⟨q, 1, .none⟩ = some (.slice lp L.length lc) ∧ V.frozen? ⟨q, 1, .none⟩ = false ∧ ∀ k (hk : k < L.length), ∃ lo, lp = some ⟨lb, lo, .none⟩ ∧ V.cell? ⟨lb, lo + k, .none⟩ = some (.int .i64 (L[k] : Int))) := fun V be => by
    refine ⟨(be.cell HQ.out.qlt).trans ((World.cell?_setCell_other _ _ _ _ (by simp [Ne.symm HQ.out.qh])).trans q1), (be.frozen HQ.out.qlt).trans ((World.frozen?_setCell ..).trans HQ.out.g1), fun k hk => ?_⟩
    obtain ⟨lo, e, hc⟩ := hlist k hk
    exact ⟨lo, e, (be.cell (lt_of_cell hc)).trans ((World.cell?_setCell_other _ _ _ _ (by simp [Ne.symm HQ.out.lq.2.1])).trans hc)⟩
  clear hlist q1 hh gh c0
  generalize hW1 : (w0.setCell ⟨hb, i, .none⟩ (.slice .none 0 0)).alloc (.cells #[.int .i64 i] 3) = W1 at *
  clear hW1
  go_loopw [6, 7] (fun v a wr => ∃ k : Nat, k ≤ L.length ∧ a = .int .i64 k ∧ ∃ g cc, v = .slice (some ⟨g, 0, .none⟩) (k + 1) cc ∧ Hid (wr.ownsRow w0.heap.size 3 1 (.slice (some ⟨g, 0, .none⟩) (k + 1) cc) (k + 1) ((i :: L.take k).map iv) ∧ Below w0.heap.size (w0.setCell ⟨hb, i, .none⟩ (.slice .none 0 0)) wr)) (fun _ a _ => (L.length - intOf a).toNat)
  case atStart => exact ⟨0, by omega, rfl, w0.heap.size, 1, rfl, by simpa using HO0.out, HB0.out⟩
  case round =>
    obtain ⟨k, hk, rfl, g, cc, rfl, HO⟩ := hrel
    obtain ⟨a1, a2, a3⟩ := HC.out wr HO.out.2
    by_cases hlt : k < L.length
    · have g0 : (k : Int) < L.length := by omega
      obtain ⟨lo, rfl, a4⟩ := a3 k hlt
      have HT : Hid ((i :: L.take (k + 1)).map iv = (i :: L.take k).map iv ++ [iv L[k]]) := by
        show _ = _
        rw [List.take_add_one, List.getElem?_eq_getElem hlt]
        show iv i :: (L.take k ++ [L[k]]).map iv = iv i :: ((L.take k).map iv ++ [iv L[k]])
        rw [List.map_append]
        rfl
      have HOA : Hid (∀ o, (wr.alloc o).ownsRow w0.heap.size 3 1 (.slice (some ⟨g, 0, .none⟩) (k + 1) cc) (k + 1) ((i :: L.take k).map iv)) := fun o => HO.out.1.alloc o
      have HZ : Hid (w0.heap.size ≤ wr.heap.size) := by have := HO.out.2.size; rw [World.size_setCell] at this; exact this
      have e2 : Hid (iv L[k] = .int .i64 (L[k] : Int)) := rfl
      clear a2 a3
      generalize (L[k] : Int) = x at *
      go_wp2_with (first | (at_builtin; refine wpList_append_own _ rfl _ _ 62 rfl w0.heap.size 3 j0 (.int .i64 0) 1 8 Try.underlying62 hj0 hjz hj1 hj2 rfl (by decide) _ _ ((i :: L.take k).map iv) rfl (HOA.out _) ⟨wr.heap.size, 0, .none⟩ 1 1 [.int .i64 x] rfl rfl (cell1_new _ _ _) (by simp [Value.oneCell']) (by unfold maxLen; omega) (by omega) (by simp only [World.size_alloc]; exact Nat.le_succ_of_le HZ.out) ?_; intro v' w5 hown5 hgrow _; obtain ⟨gr, cap1, rfl⟩ := own_some hown5; have HR5 : Hid (w5.ownsRow w0.heap.size 3 1 (.slice (some ⟨gr, 0, .none⟩) (k + 1 + 1) cap1) (k + 1 + 1) ((i :: L.take (k + 1)).map iv) ∧ Below w0.heap.size (w0.setCell ⟨hb, i, .none⟩ (.slice .none 0 0)) w5) := ⟨by rw [HT.out, e2.out]; exact hown5, (HO.out.2.alloc HZ.out _).grown hgrow (by simp only [World.size_alloc]; have := HZ.out; omega) (fun r e => (HO.out.1.lt _ e).1)⟩; clear hown5 hgrow) | fail)
      exact ⟨⟨k + 1, by omega, by simp, _, _, rfl, HR5⟩, by simp [intOf]; omega⟩
    · obtain rfl : k = L.length := by omega
      have HR : Hid (FreP w0 q hb fb N B (i :: L) (wr.setCell ⟨q, 1, .none⟩ (.slice (some ⟨g, 0, .none⟩) (L.length + 1) cc))) := by
        have o := HO.out
        rw [List.take_length] at o
        exact HQ.out.freed i h1 hi hL o.1 o.2
      clear HO a3
      go_wp2
      go_ret
      exact ⟨rfl, HR.out⟩
end
end Go.Proofs.Ytnghcadhilfgnaa
namespace Go.Proofs.Ytnghcadhilfgnaa
open Go.RowKit
set_option linter.unusedVariables false
set_option linter.unusedSimpArgs false
/-- A row that is being filled. -/
def RwP (X V : World) (n k : Nat) (D : Nat → Int) : Prop := (∀ j, j < n → (V.cell? ⟨X.heap.size, j, .none⟩).isSome = true ∧ V.frozen? ⟨X.heap.size, j, .none⟩ = false) ∧ (∀ j, j < k → V.cell? ⟨X.heap.size, j, .none⟩ = some (.int .u8 (D j))) ∧ Below X.heap.size X V
theorem RwP.step {X V : World} {n k : Nat} {D : Nat → Int} (h : RwP X V n k D) (hk : k < n) : RwP X (V.setCell ⟨X.heap.size, k, .none⟩ (.int .u8 (D k))) n (k + 1) D := by
  have same : (V.setCell ⟨X.heap.size, k, .none⟩ (.int .u8 (D k))).cell? ⟨X.heap.size, k, .none⟩ = some (.int .u8 (D k)) := World.cell?_setCell_same' _ _ _ (h.1 k hk).1
  have other : ∀ j, j ≠ k → (V.setCell ⟨X.heap.size, k, .none⟩ (.int .u8 (D k))).cell? ⟨X.heap.size, j, .none⟩ = V.cell? ⟨X.heap.size, j, .none⟩ := fun j hj => World.cell?_setCell_other _ _ _ _ (by simp [Ne.symm hj])
  refine ⟨fun j hj => ⟨?_, by rw [World.frozen?_setCell]; exact (h.1 j hj).2⟩, fun j hj => ?_, h.2.2.setCell (p := ⟨X.heap.size, k, .none⟩) (Nat.le_refl _) _⟩
  · by_cases e : j = k
    · rw [e, same]; rfl
    · rw [other j e]; exact (h.1 j hj).1
  · by_cases e : j = k
    · rw [e, same]
    · rw [other j e]; exact h.2.1 j (by omega)
theorem RwP.new (X : World) (n : Nat) (D : Nat → Int) : RwP X (X.alloc (.cells (Zs n) 5)) n 0 D := by
  refine ⟨fun j hj => ⟨?_, World.frozen?_alloc_new _ _ _ _⟩, fun j hj => by omega, (Below.refl _ _).alloc (Nat.le_refl _) _⟩
  rw [World.cell?_alloc_at _ _ _ _ rfl, Zs_at n j hj]
  rfl
section
variable {W : World} {q hb lb N : Nat} {fb : Nat → Nat} {B : Nat → Int} {L : List Nat}
theorem Qm.lr (h : Qm W q hb fb lb N B L) : ∃ lv, W.cell? ⟨q, 1, .none⟩ = some lv ∧ Lr W lv L := by
  obtain ⟨lp, lc, c1, hc⟩ := h.list_at
  refine ⟨_, c1, lp, lc, rfl, ?_⟩
  by_cases e : L.length = 0
  · exact .inl e
  · obtain ⟨lo, rfl, _⟩ := hc 0 (by omega)
    refine .inr ⟨lb, lo, rfl, fun j hj => ?_⟩
    obtain ⟨lo', e', h'⟩ := hc j hj
    simp only [Option.some.injEq, Addr.mk.injEq, true_and, and_true] at e'
    rw [e']
    exact h'
theorem adr_drop (L : List Nat) (k : Nat) (h : k + 1 < L.length) : adr (L.drop (k + 1)) = 2147483648 + (L[k + 1] : Int) * 4096 := by
  rw [List.drop_eq_getElem_cons h]
  rfl
theorem adr_end (L : List Nat) (k : Nat) (h : ¬ k + 1 < L.length) : adr (L.drop (k + 1)) = 0 := by
  rw [List.drop_eq_nil_of_le (by omega)]
  rfl
set_option maxHeartbeats 2000000 in
theorem thread_fill (v : Int) (hv : 0 ≤ v ∧ v < 18446744073709551616) (h : Qm W q hb fb lb N B L) (k : Nat) (hk : k < L.length) (hl : adr (L.drop (k + 1)) = v) : Calls Try.prog 70 #[.pointer (some ⟨q, 0, .none⟩), .int .i64 k] W fun e w' => CpQ W 4096 (jb v) e w' := by
  have n2 := h.n2
  have ll := nodup_le N L h.nd (fun x hx => (h.rg x hx).2)
  obtain ⟨lp, lc, q1, hlist⟩ := h.list_at
  have HR0 : Hid (RwP W (W.alloc (.cells (Zs 4096) 5)) 4096 0 (jb v)) := RwP.new W 4096 _
  have hmk := make4096 W
  have HL : Hid ((∀ k (hk : k < L.length), ∃ lo, lp = some ⟨lb, lo, .none⟩ ∧ W.cell? ⟨lb, lo + k, .none⟩ = some (.int .i64 (L[k] : Int))) ∧ (∀ i ∈ L, 1 ≤ i ∧ i < N)) := ⟨hlist, h.rg⟩
  have q1' : (W.alloc (.cells (Zs 4096) 5)).cell? ⟨q, 1, .none⟩ = some (.slice lp L.length lc) := (HR0.out.2.2.cell h.qlt).trans q1
  have k1 : (k : Int) + 1 ≤ L.length := by omega
  have l1 : (L.length : Int) ≤ 4096 := by omega
  have HLD : Hid (adr (L.drop (k + 1)) = v) := hl
  have ql := h.qlt
  clear h hlist q1 hl
  by_cases hat : k + 1 < L.length
  · obtain ⟨lo, rfl, hc⟩ := HL.out.1 (k + 1) hat
    have hc' : (W.alloc (.cells (Zs 4096) 5)).cell? ⟨lb, lo + (k + 1), .none⟩ = some (.int .i64 (L[k + 1] : Int)) := (HR0.out.2.2.cell (lt_of_cell hc)).trans hc
    have c37 := fun w => addressQ_any L[k + 1] (by have := HL.out.2 L[k + 1] (List.getElem_mem hat); omega) w
    have HV : Hid (2147483648 + (L[k + 1] : Int) * 4096 = v) := by rw [← HLD.out]; exact (adr_drop L k hat).symm
    have g0 : (k : Int) + 1 < L.length := by omega
    simp only [adv] at c37
    rw [HV.out] at c37
    clear hc
    generalize (L[k + 1] : Int) = x at *
    generalize W.alloc (.cells (Zs 4096) 5) = W1 at *
    go_enter Try.func70, Try.ntmps70
    go_wp2_with (first | (go_at_call 37; refine (c37 _).mono ?_; rintro e w1 ⟨rfl, rfl⟩) | fail)
    go_loopw [6, 7] (fun x ix V => ∃ j : Nat, j ≤ 8 ∧ ix = .int .i64 j ∧ x = .int .u64 (v / 256 ^ j) ∧ Hid (RwP W V 4096 j (jb v))) (fun _ ix _ => 8 - (intOf ix).toNat)
    case atStart => exact ⟨0, by omega, rfl, by simp, HR0.out⟩
    case round =>
      obtain ⟨j, hj, rfl, rfl, HR⟩ := hrel
      by_cases hlt : j < 8
      · obtain ⟨s1, s2⟩ := HR.out.1 j (by omega)
        obtain ⟨u, s1'⟩ := Option.isSome_iff_exists.1 s1
        have HS : Hid (RwP W (wr.setCell ⟨W.heap.size, j, .none⟩ (.int .u8 (v / 256 ^ j % 256))) 4096 (j + 1) (jb v)) := by
          have := HR.out.step (show j < 4096 by omega)
          rw [show jb v j = v / 256 ^ j % 256 by unfold jb; rw [if_pos hlt]] at this
          exact this
        have db := div_b v hv j
        have dp : Hid (v / 256 ^ j / 256 = v / 256 ^ (j + 1)) := div_pow v j
        have j1 : (j : Int) < 8 := by omega
        clear HR s1
        generalize v / 256 ^ j = vj at *
        go_wp2
        go_roundw
        case rel => exact ⟨j + 1, by omega, by go_num, by rw [← dp.out], HS⟩
        case measure => simp [intOf]; omega
      · have j1 : ¬ (j : Int) < 8 := by omega
        obtain rfl : j = 8 := by omega
        generalize v / 256 ^ 8 = v8 at *
        go_wp2
        have HR8 : Hid (∃ j : Nat, 8 = j ∧ RwP W wr 4096 j (jb v)) := ⟨8, rfl, HR.out⟩
        clear HR
        go_loopw [8] (fun ix V => ∃ j : Nat, 8 ≤ j ∧ j ≤ 4096 ∧ ix = .int .i64 j ∧ Hid (RwP W V 4096 j (jb v))) (fun ix _ => 4096 - (intOf ix).toNat)
        case atStart =>
          obtain ⟨j, rfl, h8⟩ := HR8.out
          exact ⟨8, by omega, by omega, rfl, h8⟩
        case round =>
          obtain ⟨j, hj8, hj, rfl, HR⟩ := hrel
          by_cases hlt : j < 4096
          · obtain ⟨s1, s2⟩ := HR.out.1 j (by omega)
            obtain ⟨u, s1'⟩ := Option.isSome_iff_exists.1 s1
            have HS : Hid (RwP W (wr.setCell ⟨W.heap.size, j, .none⟩ (.int .u8 5)) 4096 (j + 1) (jb v)) := by
              have := HR.out.step (show j < 4096 by omega)
              rw [show jb v j = 5 by unfold jb; rw [if_neg (by omega)]] at this
              exact this
            have j1 : (j : Int) < 4096 := by omega
            clear HR s1
            go_wp2
            exact ⟨⟨j + 1, by omega, by omega, by simp, HS⟩, by simp [intOf]; omega⟩
          · have j1 : ¬ (j : Int) < 4096 := by omega
            obtain rfl : j = 4096 := by omega
            go_wp2
            go_ret
            exact ⟨rfl, HR.out.2⟩
  · have g0 : ¬ (k : Int) + 1 < L.length := by omega
    obtain rfl : v = 0 := by rw [← HLD.out]; exact adr_end L k hat
    generalize W.alloc (.cells (Zs 4096) 5) = W1 at *
    go_enter Try.func70, Try.ntmps70
    go_wp2
    go_loopw [6, 7] (fun x ix V => ∃ j : Nat, j ≤ 8 ∧ ix = .int .i64 j ∧ x = .int .u64 ((0 : Int) / 256 ^ j) ∧ Hid (RwP W V 4096 j (jb 0))) (fun _ ix _ => 8 - (intOf ix).toNat)
    case atStart => exact ⟨0, by omega, rfl, by simp, HR0.out⟩
    case round =>
      obtain ⟨j, hj, rfl, rfl, HR⟩ := hrel
      by_cases hlt : j < 8
      · obtain ⟨s1, s2⟩ := HR.out.1 j (by omega)
        obtain ⟨u, s1'⟩ := Option.isSome_iff_exists.1 s1
        have HS : Hid (RwP W (wr.setCell ⟨W.heap.size, j, .none⟩ (.int .u8 ((0 : Int) / 256 ^ j % 256))) 4096 (j + 1) (jb 0)) := by
          have := HR.out.step (show j < 4096 by omega)
          rw [show jb 0 j = (0 : Int) / 256 ^ j % 256 by unfold jb; rw [if_pos hlt]] at this
          exact this
        have db := div_b 0 hv j
        have dp : Hid ((0 : Int) / 256 ^ j / 256 = (0 : Int) / 256 ^ (j + 1)) := div_pow 0 j
        have j1 : (j : Int) < 8 := by omega
        clear HR s1
        generalize (0 : Int) / 256 ^ j = vj at *
        go_wp2
        go_roundw
        case rel => exact ⟨j + 1, by omega, by go_num, by rw [← dp.out], HS⟩
        case measure => simp [intOf]; omega
      · have j1 : ¬ (j : Int) < 8 := by omega
        obtain rfl : j = 8 := by omega
        generalize (0 : Int) / 256 ^ 8 = v8 at *
        go_wp2
        have HR8 : Hid (∃ j : Nat, 8 = j ∧ RwP W wr 4096 j (jb 0)) := ⟨8, rfl, HR.out⟩
        clear HR
        go_loopw [8] (fun ix V => ∃ j : Nat, 8 ≤ j ∧ j ≤ 4096 ∧ ix = .int .i64 j ∧ Hid (RwP W V 4096 j (jb 0))) (fun ix _ => 4096 - (intOf ix).toNat)
        case atStart =>
          obtain ⟨j, rfl, h8⟩ := HR8.out
          exact ⟨8, by omega, by omega, rfl, h8⟩
        case round =>
          obtain ⟨j, hj8, hj, rfl, HR⟩ := hrel
          by_cases hlt : j < 4096
          · obtain ⟨s1, s2⟩ := HR.out.1 j (by omega)
            obtain ⟨u, s1'⟩ := Option.isSome_iff_exists.1 s1
            have HS : Hid (RwP W (wr.setCell ⟨W.heap.size, j, .none⟩ (.int .u8 5)) 4096 (j + 1) (jb 0)) := by
              have := HR.out.step (show j < 4096 by omega)
              rw [show jb 0 j = 5 by unfold jb; rw [if_neg (by omega)]] at this
              exact this
            have j1 : (j : Int) < 4096 := by omega
            clear HR s1
            go_wp2
            exact ⟨⟨j + 1, by omega, by omega, by simp, HS⟩, by simp [intOf]; omega⟩
          · have j1 : ¬ (j : Int) < 4096 := by omega
            obtain rfl : j = 4096 := by omega
            go_wp2
            go_ret
            exact ⟨rfl, HR.out.2⟩
end
end Go.Proofs.Ytnghcadhilfgnaa
namespace Go.Proofs.Ytnghcadhilfgnaa
open Go.RowKit
set_option linter.unusedVariables false
set_option linter.unusedSimpArgs false
section
variable {W : World} {q hb lb N : Nat} {fb : Nat → Nat} {B : Nat → Int} {L : List Nat}
theorem thr_at : ∀ {L : List Nat} {B : Nat → Int}, Thr B L → ∀ k (hk : k < L.length) t, t < 4096 → B (L[k] * 4096 + t) = jb (adr (L.drop (k + 1))) t
  | i :: l, B, h, 0, hk, t, ht => h.1 t ht
  | i :: l, B, h, k + 1, hk, t, ht => by
    have := thr_at h.2 k (by simpa using hk) t ht
    simpa using this
theorem rawG_no (h : Qm W q hb fb lb N B L) (pa : Int) (hp : 0 ≤ pa ∧ pa < 18446744073709551616) (hn : isFr pa N = false) : Calls Try.prog 54 #[.pointer (some ⟨q, 0, .none⟩), .int .u64 pa] W fun e w' => e = .returned (.tuple #[.slice .none 0 0, .bool false]) ∧ w' = W := by
  have c := named_any h.c0 h.n2 pa hp
  rw [show nmd pa N = -1 by unfold nmd; rw [hn]; simp] at c
  clear h
  go_enter Try.func54, Try.ntmps54
  go_wp2_with (go_at_call 47; refine c.mono ?_; rintro e w0 ⟨rfl, rfl⟩)
  go_ret2
  exact ⟨rfl, rfl⟩
set_option maxHeartbeats 1000000 in
theorem rawG_held (h : Qm W q hb fb lb N B L) (i : Nat) (hi : i < N) (hL : i ∉ L) : Calls Try.prog 54 #[.pointer (some ⟨q, 0, .none⟩), .int .u64 (2147483648 + (i : Int) * 4096)] W fun e w' => CpT W 4096 (fun k => B (i * 4096 + k)) e w' := by
  have n2 := h.n2
  have c0 := h.c0
  have c := named_any h.c0 h.n2 (2147483648 + (i : Int) * 4096) (by omega)
  rw [nmd_fr i hi] at c
  have hh := h.hh i hi hL
  have hq : ∀ W : World, (binOp .neq 27 (.slice (some ⟨fb i, 0, .none⟩) 4096 4096) (.slice .none 0 0)).run Try.prog W = .ok (.bool true) W := fun W => run_neq_slice_nil W 27 5 (some ⟨fb i, 0, .none⟩) 4096 4096 Try.underlying27
  have cc := copiedQ_any W 4096 (fb i) 0 4096 (by omega) (by omega) (fun k => B (i * 4096 + k)) (fun j hj => by rw [Nat.zero_add]; exact h.cb i hi hL j hj)
  have i5 : (i : Int) < N := by omega
  clear h
  go_enter Try.func54, Try.ntmps54
  go_wp2_with (first | (go_at_call 47; refine c.mono ?_; rintro e w0 ⟨rfl, rfl⟩) | (go_at_call 38; refine cc.mono ?_; rintro e w1 ⟨rfl, hcp⟩; have HCP : Hid ((∀ j, j < 4096 → w1.cell? ⟨w0.heap.size, j, .none⟩ = some (.int .u8 (B (i * 4096 + j)))) ∧ Below w0.heap.size w0 w1) := hcp; clear hcp) | fail)
  go_ret2
  exact ⟨rfl, HCP.out⟩
set_option maxHeartbeats 1000000 in
theorem rawG_free (h : Qm W q hb fb lb N B L) (ht : Thr B L) (i : Nat) (hi : i < N) (hL : i ∈ L) : Calls Try.prog 54 #[.pointer (some ⟨q, 0, .none⟩), .int .u64 (2147483648 + (i : Int) * 4096)] W fun e w' => CpT W 4096 (fun k => B (i * 4096 + k)) e w' := by
  have n2 := h.n2
  have c0 := h.c0
  have c := named_any h.c0 h.n2 (2147483648 + (i : Int) * 4096) (by omega)
  rw [nmd_fr i hi] at c
  have hh := h.hf i hi hL
  have hq : ∀ W : World, (binOp .neq 27 (.slice .none 0 0) (.slice .none 0 0)).run Try.prog W = .ok (.bool false) W := fun W => run_neq_slice_nil W 27 5 .none 0 0 Try.underlying27
  have ll := nodup_le N L h.nd (fun x hx => (h.rg x hx).2)
  obtain ⟨lp, lc, q1, hlist⟩ := h.list_at
  have HL : Hid ((∀ k (hk : k < L.length), ∃ lo, lp = some ⟨lb, lo, .none⟩ ∧ W.cell? ⟨lb, lo + k, .none⟩ = some (.int .i64 (L[k] : Int))) ∧ Qm W q hb fb lb N B L ∧ Thr B L ∧ i ∈ L) := ⟨hlist, h, ht, hL⟩
  have i5 : (i : Int) < N := by omega
  clear h ht hlist
  go_enter Try.func54, Try.ntmps54
  go_wp2_with (first | (go_at_call 47; refine c.mono ?_; rintro e w0 ⟨rfl, rfl⟩) | fail)
  go_loopw [7] (fun a wr => ∃ k : Nat, k ≤ L.length ∧ a = .int .i64 k ∧ wr = w0 ∧ Hid (∀ j (h : j < L.length), j < k → L[j] ≠ i)) (fun a _ => (L.length - intOf a).toNat)
  case atStart => exact ⟨0, by omega, rfl, rfl, fun j h1 h2 => by omega⟩
  case round =>
    obtain ⟨k, hk, rfl, rfl, HN⟩ := hrel
    by_cases hlt : k < L.length
    · obtain ⟨lo, rfl, a0⟩ := HL.out.1 k hlt
      have g0 : (k : Int) < L.length := by omega
      by_cases he : L[k] = i
      · have he' : ((L[k] : Int) == (i : Int)) = true := by rw [beq_iff_eq]; omega
        have hv := adr_bd n2 (L := L.drop (k + 1)) (fun x hx => HL.out.2.1.rg x (List.mem_of_mem_drop hx))
        have ct := thread_fill _ hv HL.out.2.1 k hlt rfl
        have HE : Hid (∀ t, t < 4096 → jb (adr (L.drop (k + 1))) t = B (i * 4096 + t)) := fun t ht => by rw [← thr_at HL.out.2.2.1 k hlt t ht, he]
        clear he HN
        generalize adr (L.drop (k + 1)) = v at *
        generalize (L[k] : Int) = lk at *
        go_wp2_with (first | (go_at_call 70; refine ct.mono ?_; rintro e w1 ⟨rfl, hcp⟩; have HCP : Hid ((∀ j, j < 4096 → w1.cell? ⟨wr.heap.size, j, .none⟩ = some (.int .u8 (jb v j))) ∧ Below wr.heap.size wr w1) := hcp; clear hcp) | fail)
        go_ret2
        exact ⟨rfl, fun j hj => by rw [HCP.out.1 j hj, HE.out j hj], HCP.out.2⟩
      · have he' : ((L[k] : Int) == (i : Int)) = false := by rw [beq_eq_false_iff_ne]; omega
        have HN2 : Hid (∀ j (h : j < L.length), j < k + 1 → L[j] ≠ i) := fun j h1 h2 => by
          by_cases e : j = k
          · subst e; exact he
          · exact HN.out j h1 (by omega)
        clear he HN
        generalize (L[k] : Int) = lk at *
        go_wp2
        exact ⟨⟨k + 1, by omega, by simp, trivial, HN2⟩, by simp [intOf]; omega⟩
    · exfalso
      obtain ⟨j, hj, e⟩ := List.getElem_of_mem HL.out.2.2.2
      exact HN.out j hj (by omega) e
theorem isFreeG_any (h : Qm W q hb fb lb N B L) (pa : Int) (hp : 0 ≤ pa ∧ pa < 18446744073709551616) : Calls Try.prog 26 #[.pointer (some ⟨q, 0, .none⟩), .int .u64 pa] W fun e w' => e = .returned (.bool (isFr pa N && !hdL N L pa)) ∧ w' = W := by
  have n2 := h.n2
  have c0 := h.c0
  have c := named_any h.c0 h.n2 pa hp
  by_cases hf : isFr pa N = true
  · have hz := hf
    unfold isFr at hz
    rw [decide_eq_true_iff] at hz
    obtain ⟨i, hi⟩ : ∃ i : Nat, pa = 2147483648 + (i : Int) * 4096 := ⟨((pa - 2147483648) / 4096).toNat, by omega⟩
    subst hi
    have hiN : i < N := by omega
    rw [nmd_fr i hiN] at c
    rw [hf, hdL_in hiN]
    have i5 : (i : Int) < N := by omega
    by_cases hL : i ∈ L
    · have hh := h.hf i hiN hL
      have hq : ∀ W : World, (binOp .eql 27 (.slice .none 0 0) (.slice .none 0 0)).run Try.prog W = .ok (.bool true) W := fun W => Lib.run_eql_slice_nil W 27 5 .none 0 0 0 0 Try.underlying27
      rw [show (true && !!decide (i ∈ L)) = true by simp [hL]]
      clear h hz hf
      go_enter Try.func26, Try.ntmps26
      go_wp2_with (go_at_call 47; refine c.mono ?_; rintro e w0 ⟨rfl, rfl⟩)
      go_ret
      exact ⟨rfl, rfl⟩
    · have hh := h.hh i hiN hL
      have hq : ∀ W : World, (binOp .eql 27 (.slice (some ⟨fb i, 0, .none⟩) 4096 4096) (.slice .none 0 0)).run Try.prog W = .ok (.bool false) W := fun W => Lib.run_eql_slice_nil W 27 5 (some ⟨fb i, 0, .none⟩) 4096 4096 0 0 Try.underlying27
      rw [show (true && !!decide (i ∈ L)) = false by simp [hL]]
      clear h hz hf
      go_enter Try.func26, Try.ntmps26
      go_wp2_with (go_at_call 47; refine c.mono ?_; rintro e w0 ⟨rfl, rfl⟩)
      go_ret
      exact ⟨rfl, rfl⟩
  · have hf' : isFr pa N = false := by simpa using hf
    rw [show nmd pa N = -1 by unfold nmd; rw [hf']; simp] at c
    rw [hf']
    clear h hf
    go_enter Try.func26, Try.ntmps26
    go_wp2_with (go_at_call 47; refine c.mono ?_; rintro e w0 ⟨rfl, rfl⟩)
    go_ret
    exact ⟨rfl, rfl⟩
end
end Go.Proofs.Ytnghcadhilfgnaa
namespace Go.Proofs.Ytnghcadhilfgnaa
open Go.RowKit
set_option linter.unusedVariables false
set_option linter.unusedSimpArgs false
/-- The document's blocks. -/
def Qb (q hb lb N : Nat) (fb : Nat → Nat) (L : List Nat) (k : Nat) : Prop := k = q ∨ k = hb ∨ (k = lb ∧ L ≠ []) ∨ Fb N L fb k
/-- The blocks of both memories. -/
def Mb (p b m q hb lb N : Nat) (fb : Nat → Nat) (L : List Nat) (k : Nat) : Prop := (k = p ∨ k = b ∨ k = m) ∨ Qb q hb lb N fb L k
/-- BOTH MEMORIES, held by the law's World at x; all of it lies from Z on. -/
structure Pq (Z : Nat) (W : World) (x p b m q hb : Nat) (fb : Nat → Nat) (lb N : Nat) (B : Nat → Int) (L : List Nat) (Bq : Nat → Int) (Lq : List Nat) : Prop where
  r : Ram W p b m N B L
  qm : Qm W q hb fb lb N Bq Lq
  ap : ∀ k, Qb q hb lb N fb Lq k → k ≠ p ∧ k ≠ b ∧ k ≠ m
  x0 : W.cell? ⟨x, 0, .none⟩ = some (.pointer (some ⟨p, 0, .none⟩))
  x1 : W.cell? ⟨x, 1, .none⟩ = some (.pointer (some ⟨q, 0, .none⟩))
  f0 : W.frozen? ⟨x, 0, .none⟩ = false
  f1 : W.frozen? ⟨x, 1, .none⟩ = false
  xm : ¬ Mb p b m q hb lb N fb Lq x
  zx : Z ≤ x
  zm : ∀ k, Mb p b m q hb lb N fb Lq k → Z ≤ k
/-- Both memories, alike. -/
def Pl (Z : Nat) (W : World) (x N : Nat) : Prop := ∃ p b m q hb fb lb B L, Pq Z W x p b m q hb fb lb N B L B L
section
variable {Z : Nat} {W V : World} {x p b m q hb lb N : Nat} {fb fb' : Nat → Nat} {B B' Bq Bq' : Nat → Int} {L L' Lq Lq' : List Nat}
theorem Ram.below (h : Ram W p b m N B L) (k : Below W.heap.size W V) : Ram V p b m N B L := ⟨h.mem.below k, h.nd, h.lt, h.thr⟩
theorem Pq.xlt (h : Pq Z W x p b m q hb fb lb N B L Bq Lq) : x < W.heap.size := lt_of_cell h.x0
theorem Pq.mlt (h : Pq Z W x p b m q hb fb lb N B L Bq Lq) : ∀ k, Mb p b m q hb lb N fb Lq k → k < W.heap.size := by
  intro k hk
  rcases hk with (e | e | e) | e | e | ⟨e, hn⟩ | ⟨i, hi, hL, e⟩
  · rw [e]; exact h.r.mem.plt
  · rw [e]; exact h.r.mem.blt
  · rw [e]; exact h.r.mem.mlt
  · rw [e]; exact h.qm.qlt
  · rw [e]; exact h.qm.hlt
  · obtain ⟨lp, lc, _, hc⟩ := h.qm.list_at
    have : 0 < Lq.length := List.length_pos_iff.2 hn
    obtain ⟨lo, _, hc⟩ := hc 0 this
    rw [e]; exact lt_of_cell hc
  · rw [e]; exact h.qm.flt i hi hL
theorem Pq.below (h : Pq Z W x p b m q hb fb lb N B L Bq Lq) (k : Below W.heap.size W V) : Pq Z V x p b m q hb fb lb N B L Bq Lq :=
  ⟨h.r.below k, h.qm.below k, h.ap, (k.cell h.xlt).trans h.x0, (k.cell h.xlt).trans h.x1, (k.frozen h.xlt).trans h.f0, (k.frozen h.xlt).trans h.f1, h.xm, h.zx, h.zm⟩
theorem Pq.low (h : Pq Z W x p b m q hb fb lb N B L Bq Lq) (f : Fx (Mb p b m q hb lb N fb Lq) W V) : Below Z W V :=
  ⟨f.os, f.tape, f.output, f.size, fun k hk => f.block k (by have := h.xlt; have := h.zx; omega) (fun hm => by have := h.zm k hm; omega)⟩
theorem Ram.keep (h : Ram W p b m N B L) {V : World} (hp : V.heap[p]? = W.heap[p]?) (hb : V.heap[b]? = W.heap[b]?) (hm : V.heap[m]? = W.heap[m]?) : Ram V p b m N B L := ⟨h.mem.keep hp hb hm, h.nd, h.lt, h.thr⟩
theorem Fx.mb (f : Fra p b m W V) : Fx (Mb p b m q hb lb N fb Lq) W V := (Fx.of_fra f).mono (fun k _ h => .inl h)
/-- The program's memory has turned. -/
theorem Pq.turnR (h : Pq Z W x p b m q hb fb lb N B L Bq Lq) (f : Fra p b m W V) (r : Ram V p b m N B' L') : Pq Z V x p b m q hb fb lb N B' L' Bq Lq := by
  have nx : x ≠ p ∧ x ≠ b ∧ x ≠ m := ⟨fun e => h.xm (.inl (.inl e)), fun e => h.xm (.inl (.inr (.inl e))), fun e => h.xm (.inl (.inr (.inr e)))⟩
  refine ⟨r, h.qm.fx (Fx.of_fra f) (fun k hk e => ?_), h.ap, (f.cell h.xlt nx.1 nx.2.1 nx.2.2).trans h.x0, (f.cell h.xlt nx.1 nx.2.1 nx.2.2).trans h.x1, (f.frozen h.xlt nx.1 nx.2.1 nx.2.2).trans h.f0, (f.frozen h.xlt nx.1 nx.2.1 nx.2.2).trans h.f1, h.xm, h.zx, h.zm⟩
  have := h.ap k (by rcases hk with hk | hk | hk | hk; exact .inl hk; exact .inr (.inl hk); exact .inr (.inr (.inl hk)); exact .inr (.inr (.inr hk)))
  rcases e with e | e | e
  · exact this.1 e
  · exact this.2.1 e
  · exact this.2.2 e
/-- The document's memory has turned. -/
theorem Pq.turnQ {lb' : Nat} (h : Pq Z W x p b m q hb fb lb N B L Bq Lq) {S : Nat → Prop} (f : Fx S W V) (hS : ∀ k, S k → Qb q hb lb N fb Lq k) (k : Qm V q hb fb' lb' N Bq' Lq') (hn : ∀ k, Qb q hb lb' N fb' Lq' k → Qb q hb lb N fb Lq k ∨ W.heap.size ≤ k) : Pq Z V x p b m q hb fb' lb' N B L Bq' Lq' := by
  have key : ∀ c, c < W.heap.size → ¬ Qb q hb lb N fb Lq c → V.heap[c]? = W.heap[c]? := fun c hc e => f.block c hc (fun s => e (hS c s))
  have np : ¬ Qb q hb lb N fb Lq p := fun e => (h.ap p e).1 rfl
  have nb : ¬ Qb q hb lb N fb Lq b := fun e => (h.ap b e).2.1 rfl
  have nm : ¬ Qb q hb lb N fb Lq m := fun e => (h.ap m e).2.2 rfl
  have nx : ¬ Qb q hb lb N fb Lq x := fun e => h.xm (.inr e)
  have pl := h.r.mem.plt
  have bl := h.r.mem.blt
  have ml := h.r.mem.mlt
  have xl := h.xlt
  have zx := h.zx
  refine ⟨h.r.keep (key p pl np) (key b bl nb) (key m ml nm), k, fun c hc => ?_, (World.cell?_of_block (key x xl nx)).trans h.x0, (World.cell?_of_block (key x xl nx)).trans h.x1, (World.frozen?_of_block (key x xl nx)).trans h.f0, (World.frozen?_of_block (key x xl nx)).trans h.f1, fun e => ?_, h.zx, fun c hc => ?_⟩
  · rcases hn c hc with e | e
    · exact h.ap c e
    · omega
  · rcases e with e | e
    · exact h.xm (.inl e)
    · rcases hn x e with e | e
      · exact nx e
      · omega
  · rcases hc with e | e
    · exact h.zm c (.inl e)
    · rcases hn c e with e | e
      · exact h.zm c (.inr e)
      · omega
/-- Where the document's bytes differ only in free frames. -/
theorem Pq.congrQ (h : Pq Z W x p b m q hb fb lb N B L Bq Lq) (e : ∀ i, i < N → i ∉ Lq → ∀ k, k < 4096 → B (i * 4096 + k) = Bq (i * 4096 + k)) : Pq Z W x p b m q hb fb lb N B L B Lq :=
  ⟨h.r, h.qm.congr e h.r.mem.bb, h.ap, h.x0, h.x1, h.f0, h.f1, h.xm, h.zx, h.zm⟩
theorem Pq.pl (h : Pq Z W x p b m q hb fb lb N B L B L) : Pl Z W x N := ⟨_, _, _, _, _, _, _, _, _, h⟩
/-- What the second call of a pair leaves. -/
def Two (Z : Nat) (W : World) (x p b m q hb N : Nat) (M : Nat → Prop) (res : Value) (e : Ending) (w2 : World) : Prop := e = .returned res ∧ Fx M W w2 ∧ ∃ fb' lb' B' L', Pq Z w2 x p b m q hb fb' lb' N B' L' B' L' ∧ ∀ k, Mb p b m q hb lb' N fb' L' k → M k ∨ W.heap.size ≤ k
theorem Fx.then_below {M : Nat → Prop} {w1 : World} (h : Fx M W w1) (k : Below w1.heap.size w1 V) : Fx M W V := h.trans (Fx.of_below k)
theorem Two.same {res : Value} {e : Ending} (he : e = .returned res) (f : Fx (Mb p b m q hb lb N fb L) W V) (h : Pq Z V x p b m q hb fb lb N B L B L) : Two Z W x p b m q hb N (Mb p b m q hb lb N fb L) res e V := ⟨he, f, _, _, _, _, h, fun k hk => .inl hk⟩
theorem Two.turn {res : Value} {e : Ending} {lb' : Nat} {w2 : World} (he : e = .returned res) (f : Fx (Mb p b m q hb lb N fb Lq) W w2) (h : Pq Z w2 x p b m q hb fb' lb' N B' L' B' L') (hs : W.heap.size ≤ V.heap.size) (hn : ∀ k, Qb q hb lb' N fb' L' k → Qb q hb lb N fb Lq k ∨ V.heap.size ≤ k) : Two Z W x p b m q hb N (Mb p b m q hb lb N fb Lq) res e w2 :=
  ⟨he, f, _, _, _, _, h, fun k hk => by
    rcases hk with hk | hk
    · exact .inl (.inl hk)
    · rcases hn k hk with hk | hk
      · exact .inl (.inr hk)
      · exact .inr (Nat.le_trans hs hk)⟩
theorem Two.pl {res : Value} {e : Ending} {w2 : World} {M : Nat → Prop} (h : Two Z W x p b m q hb N M res e w2) : Pl Z w2 x N := by
  obtain ⟨_, _, fb', lb', B', L', h, _⟩ := h
  exact h.pl
end
end Go.Proofs.Ytnghcadhilfgnaa
namespace Go.Proofs.Ytnghcadhilfgnaa
open Go.RowKit
set_option linter.unusedVariables false
set_option linter.unusedSimpArgs false
section
variable {Z : Nat} {W : World} {x p b m q hb lb N : Nat} {fb : Nat → Nat} {B : Nat → Int} {L : List Nat}
theorem pair_alloc (h : Pq Z W x p b m q hb fb lb N B L B L) : ∃ (a : Int) (ok : Bool), Calls Try.prog 15 #[.pointer (some ⟨p, 0, .none⟩)] W fun e w1 => e = .returned (.tuple #[.int .u64 a, .bool ok]) ∧ Fx (Mb p b m q hb lb N fb L) W w1 ∧ ∀ V, Below w1.heap.size w1 V → Calls Try.prog 16 #[.pointer (some ⟨q, 0, .none⟩)] V fun e w2 => Two Z W x p b m q hb N (Mb p b m q hb lb N fb L) (.tuple #[.int .u64 a, .bool ok]) e w2 := by
  cases L with
  | nil =>
    refine ⟨0, false, (alloc_none h.r).mono ?_⟩
    rintro e w1 ⟨he, rfl⟩
    refine ⟨he, Fx.refl _ _, fun V k => ?_⟩
    have h2 := h.below k
    refine (allocQ_none h2.qm).mono ?_
    rintro e w2 ⟨he, rfl⟩
    exact Two.same he (Fx.of_below k) h2
  | cons i l =>
    refine ⟨2147483648 + (i : Int) * 4096, true, (alloc_some i h.r).mono ?_⟩
    rintro e w1 ⟨he, hr, hf⟩
    have h1 := h.turnR hf hr
    refine ⟨he, Fx.mb hf, fun V k => ?_⟩
    have h2 := h1.below k
    refine (allocQ_some i l h2.qm).mono ?_
    rintro e w2 ⟨he, g, hg, hq, hx⟩
    have hN : ∀ c, Qb q hb lb N (fun j => if j = i then g else fb j) l c → Qb q hb lb N fb (i :: l) c ∨ V.heap.size ≤ c := fun c hc => by
      rcases hc with hc | hc | ⟨hc, hn⟩ | ⟨j, hj, hL, hc⟩
      · exact .inl (.inl hc)
      · exact .inl (.inr (.inl hc))
      · exact .inl (.inr (.inr (.inl ⟨hc, by simp⟩)))
      · by_cases e : j = i
        · subst e; simp only [if_true] at hc; exact .inr (by omega)
        · simp only [if_neg e] at hc
          exact .inl (.inr (.inr (.inr ⟨j, hj, by simp [e, hL], hc⟩)))
    have h3 := h2.turnQ hx (fun c hc => by rcases hc with hc | hc; exact .inl hc; exact .inr (.inl hc)) hq hN
    exact Two.turn he (((Fx.mb hf).then_below k).trans (hx.mono (fun c _ hc => by rcases hc with hc | hc; exact .inr (.inl hc); exact .inr (.inr (.inl hc))))) h3 (Nat.le_trans hf.size k.size) hN
theorem isFr_ex {pa : Int} (h : isFr pa N = true) : ∃ i : Nat, i < N ∧ pa = 2147483648 + (i : Int) * 4096 := by
  unfold isFr at h
  rw [decide_eq_true_iff] at h
  exact ⟨((pa - 2147483648) / 4096).toNat, by omega, by omega⟩
theorem pair_free (h : Pq Z W x p b m q hb fb lb N B L B L) (pa : Int) (hp : 0 ≤ pa ∧ pa < 18446744073709551616) : ∃ n : Int, Calls Try.prog 17 #[.pointer (some ⟨p, 0, .none⟩), .int .u64 pa] W fun e w1 => e = .returned (.int .i64 n) ∧ Fx (Mb p b m q hb lb N fb L) W w1 ∧ ∀ V, Below w1.heap.size w1 V → Calls Try.prog 18 #[.pointer (some ⟨q, 0, .none⟩), .int .u64 pa] V fun e w2 => Two Z W x p b m q hb N (Mb p b m q hb lb N fb L) (.int .i64 n) e w2 := by
  by_cases hb0 : isFr pa N = false ∨ pa = 2147483648
  · refine ⟨61, (free_bad pa hp h.r hb0).mono ?_⟩
    rintro e w1 ⟨he, rfl⟩
    refine ⟨he, Fx.refl _ _, fun V k => ?_⟩
    have h2 := h.below k
    refine (freeG_bad h2.qm pa hp hb0).mono ?_
    rintro e w2 ⟨he, rfl⟩
    exact Two.same he (Fx.of_below k) h2
  · obtain ⟨i, hi, rfl⟩ : ∃ i : Nat, i < N ∧ pa = 2147483648 + (i : Int) * 4096 := isFr_ex (by
      cases hx : isFr pa N
      · exact absurd (.inl hx) hb0
      · rfl)
    have h1 : 1 ≤ i := by
      rcases Nat.eq_zero_or_pos i with e | e
      · exact absurd (.inr (by subst e; simp)) hb0
      · exact e
    by_cases hL : i ∈ L
    · refine ⟨62, (free_free i h.r h1 hi hL).mono ?_⟩
      rintro e w1 ⟨he, hbl⟩
      refine ⟨he, Fx.of_below hbl, fun V k => ?_⟩
      have h2 := (h.below hbl).below k
      refine (freeG_free h2.qm i h1 hi hL).mono ?_
      rintro e w2 ⟨he, rfl⟩
      exact Two.same he ((Fx.of_below hbl).then_below k) h2
    · refine ⟨0, (free_held i h.r h1 hi hL).mono ?_⟩
      rintro e w1 ⟨he, hr, hf⟩
      have h1' := h.turnR hf hr
      refine ⟨he, Fx.mb hf, fun V k => ?_⟩
      have h2 := h1'.below k
      refine (freeG_held h2.qm i h1 hi hL).mono ?_
      rintro e w2 ⟨he, g, hg, hq, hx⟩
      have hN : ∀ c, Qb q hb g N fb (i :: L) c → Qb q hb lb N fb L c ∨ V.heap.size ≤ c := fun c hc => by
        rcases hc with hc | hc | ⟨hc, hn⟩ | ⟨j, hj, hL', hc⟩
        · exact .inl (.inl hc)
        · exact .inl (.inr (.inl hc))
        · exact .inr (by omega)
        · exact .inl (.inr (.inr (.inr ⟨j, hj, fun z => hL' (List.mem_cons_of_mem _ z), hc⟩)))
      have h3 := h2.turnQ hx (fun c hc => by rcases hc with hc | hc; exact .inl hc; exact .inr (.inl hc)) hq hN
      have h4 := h3.congrQ (fun j hj hm k hk => thr_out B i (adr L) _ (by
        have e : j ≠ i := fun e => hm (by simp [e])
        omega))
      exact Two.turn he (((Fx.mb hf).then_below k).trans (hx.mono (fun c _ hc => by rcases hc with hc | hc; exact .inr (.inl hc); exact .inr (.inr (.inl hc))))) h4 (Nat.le_trans hf.size k.size) hN
theorem okR.held {pa : Int} {o n : Nat} (hk : okR N L pa n) (hp : pa = 2147483648 + (o : Int)) : ∀ f : Nat, o / 4096 ≤ f → f * 4096 < o + n → hdL N L (2147483648 + f * 4096) = true := fun f h1 h2 => by
  have := hk.2.1
  rw [hdL_in (by omega)]
  have := hk.2.2 f (by omega) (by omega)
  simp [this]
theorem okR.ex {pa : Int} {n : Nat} (hk : okR N L pa n) : ∃ o : Nat, pa = 2147483648 + (o : Int) ∧ o + n ≤ 4096 * N := ⟨(pa - 2147483648).toNat, by have := hk.1; omega, by have := hk.1; have := hk.2.1; omega⟩
/-- What the program's reach says where the bytes are not all held. -/
theorem reach_not (h : Ram W p b m N B L) (pa : Int) (n : Nat) (hn : 1 ≤ n) (hn2 : (n : Int) ≤ 9223372036854775807) (hp : 0 ≤ pa ∧ pa < 18446744073709551616) (hk : ¬ okR N L pa n) :
    Calls Try.prog 67 #[.pointer (some ⟨p, 0, .none⟩), .int .u64 pa, .int .i64 n] W fun e w' => e = .returned (.tuple #[.slice .none 0 0, .bool false]) ∧ Below W.heap.size W w' := by
  by_cases hin : 2147483648 ≤ pa ∧ pa - 2147483648 + n ≤ 4096 * N
  · obtain ⟨o, rfl⟩ : ∃ o : Nat, pa = 2147483648 + (o : Int) := ⟨(pa - 2147483648).toNat, by omega⟩
    have : ∃ f : Nat, (2147483648 + (o : Int) - 2147483648) / 4096 ≤ f ∧ (f : Int) * 4096 < 2147483648 + (o : Int) - 2147483648 + n ∧ f ∈ L := by
      refine Classical.byContradiction (fun hc => hk ⟨hin.1, hin.2, fun f a1 a2 a3 => hc ⟨f, a1, a2, a3⟩⟩)
    obtain ⟨f, a1, a2, a3⟩ := this
    exact reach_hole h.mem o n hn (by omega) f (by omega) (by omega) (by rw [hdL_in (by omega)]; simp [a3])
  · exact reach_out h.mem pa n hp (by omega) hn2 hin
theorem pair_load (h : Pq Z W x p b m q hb fb lb N B L B L) (pa n : Int) (hp : 0 ≤ pa ∧ pa < 18446744073709551616) (hn : -9223372036854775808 ≤ n ∧ n ≤ 9223372036854775807) : ∃ (v : Int) (ok : Bool), Calls Try.prog 19 #[.pointer (some ⟨p, 0, .none⟩), .int .u64 pa, .int .i64 n] W fun e w1 => e = .returned (.tuple #[.int .u64 v, .bool ok]) ∧ Fx (Mb p b m q hb lb N fb L) W w1 ∧ ∀ V, Below w1.heap.size w1 V → Calls Try.prog 20 #[.pointer (some ⟨q, 0, .none⟩), .int .u64 pa, .int .i64 n] V fun e w2 => Two Z W x p b m q hb N (Mb p b m q hb lb N fb L) (.tuple #[.int .u64 v, .bool ok]) e w2 := by
  by_cases hw : n = 1 ∨ n = 2 ∨ n = 4 ∨ n = 8
  · obtain ⟨k, rfl⟩ : ∃ k : Nat, n = (k : Int) := ⟨n.toNat, by omega⟩
    have hw' : k = 1 ∨ k = 2 ∨ k = 4 ∨ k = 8 := by omega
    by_cases hk : okR N L pa k
    · obtain ⟨o, rfl, ho⟩ := hk.ex
      refine ⟨num B o k, true, (load_ok h.r.mem o k hw' ho (hk.held rfl)).mono ?_⟩
      rintro e w1 ⟨he, hbl⟩
      refine ⟨he, Fx.of_below hbl, fun V k' => ?_⟩
      have h2 := (h.below hbl).below k'
      refine (loadG_ok h2.qm _ o k rfl hw' hk).mono ?_
      rintro e w2 ⟨he, rfl⟩
      exact Two.same he ((Fx.of_below hbl).then_below k') h2
    · refine ⟨0, false, (load_no pa k (access_no pa k 0 false (reach_not h.r pa k (by omega) (by omega) hp hk))).mono ?_⟩
      rintro e w1 ⟨he, hbl⟩
      refine ⟨he, Fx.of_below hbl, fun V k' => ?_⟩
      have h2 := (h.below hbl).below k'
      refine (loadG_no pa k hw (heldQ_no h2.qm pa k (by omega) (by omega) hp hk)).mono ?_
      rintro e w2 ⟨he, rfl⟩
      exact Two.same he ((Fx.of_below hbl).then_below k') h2
  · have acc : Calls Try.prog 48 #[.pointer (some ⟨p, 0, .none⟩), .int .u64 pa, .int .i64 n, .bool false, .int .u64 0] W fun e w' => e = .returned (.tuple #[.int .u64 0, .bool false]) ∧ Below W.heap.size W w' := by
      by_cases h0 : n < 0
      · exact access_no pa n 0 false ((reach_neg h.r.mem pa n h0).mono fun e w' ⟨a, c⟩ => ⟨a, by rw [c]; exact Below.refl _ _⟩)
      · obtain ⟨k, rfl⟩ : ∃ k : Nat, n = (k : Int) := ⟨n.toNat, by omega⟩
        by_cases hz : k = 0
        · subst hz
          exact access_width pa _ 0 false none 0 0 true (wide_no hw) ((reach_zero h.r.mem pa).mono fun e w' ⟨a, c⟩ => ⟨a, by rw [c]; exact Below.refl _ _⟩)
        · by_cases hk : okR N L pa k
          · obtain ⟨o, rfl, ho⟩ := hk.ex
            exact access_width _ _ 0 false _ _ _ true (wide_no hw) (reach_ok h.r.mem o k (by omega) ho (hk.held rfl))
          · exact access_no pa k 0 false (reach_not h.r pa k (by omega) (by omega) hp hk)
    refine ⟨0, false, (load_no pa n acc).mono ?_⟩
    rintro e w1 ⟨he, hbl⟩
    refine ⟨he, Fx.of_below hbl, fun V k' => ?_⟩
    have h2 := (h.below hbl).below k'
    refine (loadG_width pa n hw).mono ?_
    rintro e w2 ⟨he, rfl⟩
    exact Two.same he ((Fx.of_below hbl).then_below k') h2
theorem Ram.laidR {o : Nat} {vs : List Int} (h : Ram W p b m N B L) {V : World} (hm : Mem V p b m N (over B o vs) (adr L) (hdL N L) (N - L.length)) (hk : ∀ f : Nat, o / 4096 ≤ f → f * 4096 < o + vs.length → f ∉ L) : Ram V p b m N (over B o vs) L :=
  ⟨hm, h.nd, h.lt, h.thr.congr (fun i hi k hk' => over_out _ _ _ _ (by
    refine Classical.byContradiction (fun hc => hk i ?_ ?_ hi) <;> omega))⟩
theorem pair_store (h : Pq Z W x p b m q hb fb lb N B L B L) (pa n v : Int) (hp : 0 ≤ pa ∧ pa < 18446744073709551616) (hn : -9223372036854775808 ≤ n ∧ n ≤ 9223372036854775807) (hv : 0 ≤ v ∧ v < 18446744073709551616) : ∃ ok : Bool, Calls Try.prog 21 #[.pointer (some ⟨p, 0, .none⟩), .int .u64 pa, .int .i64 n, .int .u64 v] W fun e w1 => e = .returned (.bool ok) ∧ Fx (Mb p b m q hb lb N fb L) W w1 ∧ ∀ V, Below w1.heap.size w1 V → Calls Try.prog 22 #[.pointer (some ⟨q, 0, .none⟩), .int .u64 pa, .int .i64 n, .int .u64 v] V fun e w2 => Two Z W x p b m q hb N (Mb p b m q hb lb N fb L) (.bool ok) e w2 := by
  by_cases hw : n = 1 ∨ n = 2 ∨ n = 4 ∨ n = 8
  · obtain ⟨k, rfl⟩ : ∃ k : Nat, n = (k : Int) := ⟨n.toNat, by omega⟩
    have hw' : k = 1 ∨ k = 2 ∨ k = 4 ∨ k = 8 := by omega
    by_cases hk : okR N L pa k
    · obtain ⟨o, rfl, ho⟩ := hk.ex
      refine ⟨true, (store_ok h.r.mem o k hw' ho (hk.held rfl) v hv).mono ?_⟩
      rintro e w1 ⟨he, hm, hf⟩
      have hr := h.r.laidR hm (fun f a1 a2 => hk.2.2 f (by omega) (by rw [le_len] at a2; omega))
      have h1 := h.turnR hf hr
      refine ⟨he, Fx.mb hf, fun V k' => ?_⟩
      have h2 := h1.below k'
      refine (storeG_ok h2.qm _ o k rfl v hv hw' hk).mono ?_
      rintro e w2 ⟨he, hq, hx⟩
      have hN : ∀ c, Qb q hb lb N fb L c → Qb q hb lb N fb L c ∨ V.heap.size ≤ c := fun c hc => .inl hc
      have h3 := h2.turnQ hx (fun c hc => .inr (.inr (.inr hc))) hq hN
      exact Two.turn he (((Fx.mb hf).then_below k').trans (hx.mono (fun c _ hc => .inr (.inr (.inr (.inr hc)))))) h3 (Nat.le_trans hf.size k'.size) hN
    · refine ⟨false, (store_no pa k v (access_no pa k v true (reach_not h.r pa k (by omega) (by omega) hp hk))).mono ?_⟩
      rintro e w1 ⟨he, hbl⟩
      refine ⟨he, Fx.of_below hbl, fun V k' => ?_⟩
      have h2 := (h.below hbl).below k'
      refine (storeG_no pa k v hw (heldQ_no h2.qm pa k (by omega) (by omega) hp hk)).mono ?_
      rintro e w2 ⟨he, rfl⟩
      exact Two.same he ((Fx.of_below hbl).then_below k') h2
  · have acc : Calls Try.prog 48 #[.pointer (some ⟨p, 0, .none⟩), .int .u64 pa, .int .i64 n, .bool true, .int .u64 v] W fun e w' => e = .returned (.tuple #[.int .u64 0, .bool false]) ∧ Below W.heap.size W w' := by
      by_cases h0 : n < 0
      · exact access_no pa n v true ((reach_neg h.r.mem pa n h0).mono fun e w' ⟨a, c⟩ => ⟨a, by rw [c]; exact Below.refl _ _⟩)
      · obtain ⟨k, rfl⟩ : ∃ k : Nat, n = (k : Int) := ⟨n.toNat, by omega⟩
        by_cases hz : k = 0
        · subst hz
          exact access_width pa _ v true none 0 0 true (wide_no hw) ((reach_zero h.r.mem pa).mono fun e w' ⟨a, c⟩ => ⟨a, by rw [c]; exact Below.refl _ _⟩)
        · by_cases hk : okR N L pa k
          · obtain ⟨o, rfl, ho⟩ := hk.ex
            exact access_width _ _ v true _ _ _ true (wide_no hw) (reach_ok h.r.mem o k (by omega) ho (hk.held rfl))
          · exact access_no pa k v true (reach_not h.r pa k (by omega) (by omega) hp hk)
    refine ⟨false, (store_no pa n v acc).mono ?_⟩
    rintro e w1 ⟨he, hbl⟩
    refine ⟨he, Fx.of_below hbl, fun V k' => ?_⟩
    have h2 := (h.below hbl).below k'
    refine (storeG_width pa n v hw).mono ?_
    rintro e w2 ⟨he, rfl⟩
    exact Two.same he ((Fx.of_below hbl).then_below k') h2
end
end Go.Proofs.Ytnghcadhilfgnaa
