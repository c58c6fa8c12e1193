import Derived.Test.YthopgmmodldljabNi
namespace Go.Proofs.Ythopgmmodldljab
open Go Go.RowKit
set_option linter.unusedVariables false
set_option linter.unusedSimpArgs false
/-! The document's frame; what its Take has at hand. -/
theorem isF_ex {N : Nat} {a : Int} (h : isF N a) : ∃ k : Nat, k < N ∧ frN a = (k : Int) ∧ a = frA k := by
 obtain ⟨h1, h2, h3⟩ := h
 refine ⟨((a - 2147483648) / 4096).toNat, by omega, by unfold frN; omega, by unfold frA; omega⟩
theorem frA_isF {N k : Nat} (h : k < N) : isF N (frA k) := by
 unfold isF frA
 omega
theorem frA_one {j k : Nat} (h : frA j = frA k) : j = k := by
 unfold frA at h
 omega
theorem frL_get {N : Nat} {A : List Nm} {k : Nat} (hk : k < N) : (frL N A)[k]? = some ((owF A (frA k)).getD (0, 0, 0)) := by
 unfold frL
 rw [List.getElem?_map, List.getElem?_range hk]
 rfl
theorem frL_len (N : Nat) (A : List Nm) : (frL N A).length = N := by simp [frL]
theorem frL_hit {N : Nat} {A : List Nm} {x : Nm} {k : Nat} (hk : k < N) (hx : x.1 = frA k) : frL N (A ++ [x]) = (frL N A).set k (owStep (owF A (frA k)) x) := by
 apply List.ext_getElem?
 intro j
 by_cases hj : j < N
 ·rw [frL_get hj, owF_app]
  by_cases e : j = k
  ·subst e
   rw [if_pos hx, List.getElem?_set_self (by rw [frL_len]; exact hj)]
   rfl
  ·rw [if_neg (fun h => e (frA_one (hx.symm.trans h)).symm), List.getElem?_set_ne (fun h => e h.symm), frL_get hj]
 ·rw [List.getElem?_eq_none (by rw [frL_len]; omega), List.getElem?_eq_none (by rw [List.length_set, frL_len]; omega)]
theorem frL_miss {N : Nat} {A : List Nm} {x : Nm} (hx : ¬ isF N x.1) : frL N (A ++ [x]) = frL N A := by
 unfold frL
 apply List.map_congr_left
 intro k hk
 rw [owF_app, if_neg (fun h => hx (by rw [h]; exact frA_isF (List.mem_range.1 hk)))]
theorem frL_nil (N : Nat) : frL N [] = List.replicate N (0, 0, 0) := by
 unfold frL
 rw [List.eq_replicate_iff]
 refine ⟨by simp, fun b hb => ?_⟩
 obtain ⟨k, _, rfl⟩ := List.mem_map.1 hb
 rfl
theorem ow_pos {A : List Nm} {a : Int} {o : Ow} (h : owF A a = some o) : 1 ≤ o.2.2 := by
 unfold owF at h
 cases hf : A.find? (fun x => x.1 == a) with
 | none => rw [hf] at h; cases h
 | some x =>
  rw [hf] at h
  injection h with h
  rw [← h]
  have hm := List.mem_of_find?_eq_some hf
  have hp := List.find?_some hf
  have : x ∈ A.filter fun y => y.1 == a := List.mem_filter.2 ⟨hm, hp⟩
  have := List.length_pos_of_mem this
  show (1 : Int) ≤ ((A.filter fun y => y.1 == a).length : Int)
  omega
theorem ow_le (A : List Nm) (a : Int) : ((owF A a).getD (0, 0, 0)).2.2 ≤ A.length := by
 unfold owF
 cases A.find? (fun x => x.1 == a) with
 | none => simp
 | some x =>
  show ((A.filter fun y => y.1 == a).length : Int) ≤ _
  have := List.length_filter_le (fun y : Nm => y.1 == a) A
  omega
theorem step_new {A : List Nm} {a : Int} {x : Nm} (h : ((owF A a).getD (0, 0, 0)).2.2 = 0) : owStep (owF A a) x = (x.2.1, x.2.2, ((owF A a).getD (0, 0, 0)).2.2 + 1) := by
 cases ho : owF A a with
 | none => rfl
 | some o =>
  rw [ho] at h
  have := ow_pos ho
  have h2 : o.2.2 = 0 := h
  omega
theorem step_old {A : List Nm} {a : Int} {x : Nm} (h : ((owF A a).getD (0, 0, 0)).2.2 ≠ 0) : owStep (owF A a) x = (((owF A a).getD (0, 0, 0)).1, ((owF A a).getD (0, 0, 0)).2.1, ((owF A a).getD (0, 0, 0)).2.2 + 1) := by
 cases ho : owF A a with
 | none => rw [ho] at h; exact absurd rfl h
 | some o => rfl
theorem flat_len3 (l : List Ow) : (l.map owL).flatten.length = l.length * 3 := by
 induction l with
 | nil => rfl
 | cons o l ih =>
  rw [List.map_cons, List.flatten_cons, List.length_append, ih, List.length_cons]
  show 3 + _ = _
  omega
theorem flat_get3 {l : List Ow} {k : Nat} {o : Ow} (h : l[k]? = some o) (j : Nat) (u : Value) (hj : (owL o)[j]? = some u) : (l.map owL).flatten[k * 3 + j]? = some u :=
 flat_get (fun c hc => by obtain ⟨x, _, rfl⟩ := List.mem_map.1 hc; rfl) k _ (by rw [List.getElem?_map, h]; rfl) j u hj
theorem flat_set1 {l : List Ow} {k : Nat} {o : Ow} (h : l[k]? = some o) (t : Int) : (l.map owL).flatten.set (k * 3 + 2) (.int .i64 t) = ((l.set k (o.1, o.2.1, t)).map owL).flatten := by
 have hk := (List.getElem?_eq_some_iff.1 h).1
 have hs := flat_set (o.1, o.2.1, t) l k hk
 rw [← hs]
 have e0 : (l.map owL).flatten.set (k * 3) (.int .i64 o.1) = (l.map owL).flatten := by
  have := flat_get3 h 0 _ rfl
  rw [Nat.add_zero] at this
  obtain ⟨h1, h2⟩ := List.getElem?_eq_some_iff.1 this
  rw [← h2]
  exact List.set_getElem_self h1
 have e1 : (l.map owL).flatten.set (k * 3 + 1) (.int .i64 o.2.1) = (l.map owL).flatten := by
  obtain ⟨h1, h2⟩ := List.getElem?_eq_some_iff.1 (flat_get3 h 1 _ rfl)
  rw [← h2]
  exact List.set_getElem_self h1
 rw [e0, e1]
/-- What the document's Take has at hand: the look, the answer's place, the census in the making, its rows, and all that is named. -/
structure DT (w V : World) (z1 z2 : Nat) (lc zs : List Value) (F C1 C2 : List Ow) (gv cv dv av : Value) (A : List Nm) : Prop where
 own : Owns V w.heap.size [bx 31 10 w.heap.size lc, bx 41 5 z1 zs, bx 41 5 z2 (cwL gv cv dv (0, 0)), rowW F gv, rowC C1 cv, rowC C2 dv, rowA A av]
 bel : Below w.heap.size w V
section
variable {w V : World} {z1 z2 : Nat} {lc zs : List Value} {F C1 C2 : List Ow} {gv cv dv av : Value} {A : List Nm}
theorem DT.keep {V' : World} (h : DT w V z1 z2 lc zs F C1 C2 gv cv dv av A) (hb : Below V.heap.size V V') : DT w V' z1 z2 lc zs F C1 C2 gv cv dv av A := ⟨h.own.keep hb, h.bel.trans (hb.mono h.bel.size)⟩
theorem DT.lk (h : DT w V z1 z2 lc zs F C1 C2 gv cv dv av A) (j : Nat) : V.cell? ⟨w.heap.size, j, .none⟩ = lc[j]? := (h.own.cell (t := 31) (k := 10) (b := w.heap.size) (cs := lc) (by simp) j).1
theorem DT.cs (h : DT w V z1 z2 lc zs F C1 C2 gv cv dv av A) (j : Nat) : V.cell? ⟨z2, j, .none⟩ = (cwL gv cv dv (0, 0))[j]? ∧ V.frozen? ⟨z2, j, .none⟩ = false := h.own.cell (t := 41) (k := 5) (b := z2) (cs := cwL gv cv dv (0, 0)) (by simp) j
theorem DT.rl (h : DT w V z1 z2 lc zs F C1 C2 gv cv dv av A) : V.rangeAt w.heap.size 0 lc := range_heap (h.own.bx (t := 31) (k := 10) (by simp))
theorem DT.rc (h : DT w V z1 z2 lc zs F C1 C2 gv cv dv av A) : V.heap[z2]? = some (.cells (cwL gv cv dv (0, 0)).toArray 41 (0, 0)) := h.own.bx (t := 41) (k := 5) (by simp)
theorem DT.rz (h : DT w V z1 z2 lc zs F C1 C2 gv cv dv av A) : V.heap[z1]? = some (.cells zs.toArray 41 (0, 0)) := h.own.bx (t := 41) (k := 5) (by simp)
theorem DT.z2l (h : DT w V z1 z2 lc zs F C1 C2 gv cv dv av A) : w.heap.size ≤ z2 ∧ z2 < V.heap.size := h.own.lt z2 (by simp [blks, bx, Value.ownBlock])
theorem DT.z1l (h : DT w V z1 z2 lc zs F C1 C2 gv cv dv av A) : w.heap.size ≤ z1 ∧ z1 < V.heap.size := h.own.lt z1 (by simp [blks, bx, Value.ownBlock])
theorem DT.wl (h : DT w V z1 z2 lc zs F C1 C2 gv cv dv av A) : w.heap.size < V.heap.size := (h.own.lt w.heap.size (by simp [blks, bx, Value.ownBlock])).2
theorem DT.fr (h : DT w V z1 z2 lc zs F C1 C2 gv cv dv av A) : V.ownsRow w.heap.size 85 3 gv F.length ((F.map owL).flatten) := h.own.own (rowW F gv) (by simp)
theorem DT.c1 (h : DT w V z1 z2 lc zs F C1 C2 gv cv dv av A) : V.ownsRow w.heap.size 91 3 cv C1.length ((C1.map owL).flatten) := h.own.own (rowC C1 cv) (by simp)
theorem DT.c2 (h : DT w V z1 z2 lc zs F C1 C2 gv cv dv av A) : V.ownsRow w.heap.size 91 3 dv C2.length ((C2.map owL).flatten) := h.own.own (rowC C2 dv) (by simp)
theorem DT.al (h : DT w V z1 z2 lc zs F C1 C2 gv cv dv av A) : V.ownsRow w.heap.size 88 3 av A.length ((A.map An).flatten) := h.own.own (rowA A av) (by simp)
theorem DT.pushF {w5 : World} {v5 : Value} (h : DT w V z1 z2 lc zs F C1 C2 gv cv dv av A) (o : Ow) (hO : Owns w5 w.heap.size ([bx 31 10 w.heap.size lc, bx 41 5 z1 zs, bx 41 5 z2 (cwL gv cv dv (0, 0))] ++ ⟨85, 3, (rowW F gv).n + 1, v5, (rowW F gv).xs ++ owL o⟩ :: [rowC C1 cv, rowC C2 dv, rowA A av])) (hB : Below w.heap.size V w5) : DT w (w5.setCell ⟨z2, 0, .none⟩ v5) z1 z2 lc zs (F ++ [o]) C1 C2 v5 cv dv av A := by
 have e : rowW (F ++ [o]) v5 = ⟨85, 3, (rowW F gv).n + 1, v5, (rowW F gv).xs ++ owL o⟩ := by simp [rowW]
 rw [← e] at hO
 have o2 := Owns.setAt (A := [bx 31 10 w.heap.size lc, bx 41 5 z1 zs]) (g := z2) (j := 0) hO v5 rfl rfl (by show 0 < 5; omega)
 exact ⟨o2, (h.bel.trans hB).trans (set_bel _ h.z2l.1)⟩
theorem DT.pushC {w5 : World} {v5 : Value} (h : DT w V z1 z2 lc zs F C1 C2 gv cv dv av A) (o : Ow) (hO : Owns w5 w.heap.size ([bx 31 10 w.heap.size lc, bx 41 5 z1 zs, bx 41 5 z2 (cwL gv cv dv (0, 0)), rowW F gv] ++ ⟨91, 3, (rowC C1 cv).n + 1, v5, (rowC C1 cv).xs ++ owL o⟩ :: [rowC C2 dv, rowA A av])) (hB : Below w.heap.size V w5) : DT w (w5.setCell ⟨z2, 1, .none⟩ v5) z1 z2 lc zs F (C1 ++ [o]) C2 gv v5 dv av A := by
 have e : rowC (C1 ++ [o]) v5 = ⟨91, 3, (rowC C1 cv).n + 1, v5, (rowC C1 cv).xs ++ owL o⟩ := by simp [rowC]
 rw [← e] at hO
 have o2 := Owns.setAt (A := [bx 31 10 w.heap.size lc, bx 41 5 z1 zs]) (g := z2) (j := 1) hO v5 rfl rfl (by show 1 < 5; omega)
 exact ⟨o2, (h.bel.trans hB).trans (set_bel _ h.z2l.1)⟩
theorem DT.pushD {w5 : World} {v5 : Value} (h : DT w V z1 z2 lc zs F C1 C2 gv cv dv av A) (o : Ow) (hO : Owns w5 w.heap.size ([bx 31 10 w.heap.size lc, bx 41 5 z1 zs, bx 41 5 z2 (cwL gv cv dv (0, 0)), rowW F gv, rowC C1 cv] ++ ⟨91, 3, (rowC C2 dv).n + 1, v5, (rowC C2 dv).xs ++ owL o⟩ :: [rowA A av])) (hB : Below w.heap.size V w5) : DT w (w5.setCell ⟨z2, 2, .none⟩ v5) z1 z2 lc zs F C1 (C2 ++ [o]) gv cv v5 av A := by
 have e : rowC (C2 ++ [o]) v5 = ⟨91, 3, (rowC C2 dv).n + 1, v5, (rowC C2 dv).xs ++ owL o⟩ := by simp [rowC]
 rw [← e] at hO
 have o2 := Owns.setAt (A := [bx 31 10 w.heap.size lc, bx 41 5 z1 zs]) (g := z2) (j := 2) hO v5 rfl rfl (by show 2 < 5; omega)
 exact ⟨o2, (h.bel.trans hB).trans (set_bel _ h.z2l.1)⟩
/-- The frames' row: its cells. -/
theorem DT.cellF {g n c : Nat} (h : DT w V z1 z2 lc zs F C1 C2 (.slice (some ⟨g, 0, .none⟩) n c) cv dv av A) {k : Nat} {o : Ow} (hk : F[k]? = some o) (j : Nat) (u : Value) (hj : (owL o)[j]? = some u) : V.cell? ⟨g, k * 3 + j, .none⟩ = some u ∧ V.frozen? ⟨g, k * 3 + j, .none⟩ = false := by
 have hf := h.fr
 have h1 := hf.cells (g := g) rfl (k * 3 + j) u (flat_get3 hk j u hj)
 rw [Addr.add_mid, Nat.zero_add] at h1
 refine ⟨h1, ?_⟩
 rcases hf.2 with ⟨e, _⟩ | ⟨g', cap, cur, hv, _, hg, _⟩
 ·cases e
 ·injection hv with e1 _ _
  injection e1 with e1
  injection e1 with e1
  subst e1
  exact frozen_heap hg
theorem DT.setF1 {g n c : Nat} (h : DT w V z1 z2 lc zs F C1 C2 (.slice (some ⟨g, 0, .none⟩) n c) cv dv av A) (hn : F.length = n) {k : Nat} {o : Ow} (hk : F[k]? = some o) (t : Int) : DT w (V.setCell ⟨g, k * 3 + 2, .none⟩ (.int .i64 t)) z1 z2 lc zs (F.set k (o.1, o.2.1, t)) C1 C2 (.slice (some ⟨g, 0, .none⟩) n c) cv dv av A := by
 have hkl := (List.getElem?_eq_some_iff.1 hk).1
 have o2 := Owns.setAt (A := [bx 31 10 w.heap.size lc, bx 41 5 z1 zs, bx 41 5 z2 (cwL (.slice (some ⟨g, 0, .none⟩) n c) cv dv (0, 0))]) (r := rowW F (.slice (some ⟨g, 0, .none⟩) n c)) (g := g) (j := k * 3 + 2) h.own (.int .i64 t) rfl hn (by show _ < ((F.map owL).flatten).length; rw [flat_len3]; omega)
 have e : rowW (F.set k (o.1, o.2.1, t)) (.slice (some ⟨g, 0, .none⟩) n c) = ⟨85, 3, F.length, .slice (some ⟨g, 0, .none⟩) n c, (F.map owL).flatten.set (k * 3 + 2) (.int .i64 t)⟩ := by
  rw [flat_set1 hk]
  simp [rowW]
 refine ⟨?_, h.bel.trans (set_bel _ (h.own.lt g (by simp [blks, bx, rowW, Value.ownBlock])).1)⟩
 rw [e]
 exact o2
theorem DT.setF3 {g n c : Nat} (h : DT w V z1 z2 lc zs F C1 C2 (.slice (some ⟨g, 0, .none⟩) n c) cv dv av A) (hn : F.length = n) {k : Nat} (hk : k < n) (o : Ow) : DT w (((V.setCell ⟨g, k * 3, .none⟩ (.int .i64 o.1)).setCell ⟨g, k * 3 + 1, .none⟩ (.int .i64 o.2.1)).setCell ⟨g, k * 3 + 2, .none⟩ (.int .i64 o.2.2)) z1 z2 lc zs (F.set k o) C1 C2 (.slice (some ⟨g, 0, .none⟩) n c) cv dv av A := by
 have hgb := (h.own.lt g (by simp [blks, bx, rowW, Value.ownBlock])).1
 have hl := flat_len3 F
 have o1 := Owns.setAt (A := [bx 31 10 w.heap.size lc, bx 41 5 z1 zs, bx 41 5 z2 (cwL (.slice (some ⟨g, 0, .none⟩) n c) cv dv (0, 0))]) (r := rowW F (.slice (some ⟨g, 0, .none⟩) n c)) (g := g) (j := k * 3) h.own (.int .i64 o.1) rfl hn (by show _ < ((F.map owL).flatten).length; omega)
 have o2 := Owns.setAt (A := [bx 31 10 w.heap.size lc, bx 41 5 z1 zs, bx 41 5 z2 (cwL (.slice (some ⟨g, 0, .none⟩) n c) cv dv (0, 0))]) (g := g) (j := k * 3 + 1) o1 (.int .i64 o.2.1) rfl hn (by show _ < ((F.map owL).flatten.set _ _).length; rw [List.length_set]; omega)
 have o3 := Owns.setAt (A := [bx 31 10 w.heap.size lc, bx 41 5 z1 zs, bx 41 5 z2 (cwL (.slice (some ⟨g, 0, .none⟩) n c) cv dv (0, 0))]) (g := g) (j := k * 3 + 2) o2 (.int .i64 o.2.2) rfl hn (by show _ < (((F.map owL).flatten.set _ _).set _ _).length; rw [List.length_set, List.length_set]; omega)
 have e : rowW (F.set k o) (.slice (some ⟨g, 0, .none⟩) n c) = ⟨85, 3, F.length, .slice (some ⟨g, 0, .none⟩) n c, (((F.map owL).flatten.set (k * 3) (.int .i64 o.1)).set (k * 3 + 1) (.int .i64 o.2.1)).set (k * 3 + 2) (.int .i64 o.2.2)⟩ := by
  rw [flat_set o F k (by omega)]
  simp [rowW]
 refine ⟨?_, ((h.bel.trans (set_bel _ hgb)).trans (set_bel _ hgb)).trans (set_bel _ hgb)⟩
 rw [e]
 exact o3
end
set_option maxRecDepth 100000 in
theorem dframe_any (N : Nat) (pa : Int) (hN : N ≤ 4096) (hb : Bd64 pa) (w : World) : Calls Try.prog 20 #[.int .i64 N, .int .u64 pa] w fun e w' => e = .returned (.int .i64 (if isF N pa then frN pa else -1)) ∧ w' = w := by
 obtain ⟨k, hk⟩ : ∃ k, k = (if isF N pa then frN pa else -1) := ⟨_, rfl⟩
 rw [← hk]
 have HK : Hid (k = (if isF N pa then frN pa else -1)) := hk
 clear hk
 obtain ⟨h0, h1⟩ := hb
 have ht : pa.tmod 4096 = pa % 4096 := Int.tmod_eq_emod_of_nonneg h0
 have hw : IntKind.u64.wrap (N : Int) = (N : Int) := by rw [IntKind.wrap_u64]; omega
 by_cases a : pa < 2147483648
 ·have HN : Hid (¬ isF N pa) := fun h => by have := h.1; omega
  go_enter Try.func20, Try.ntmps20
  go_wp2
  go_ret
  exact ⟨by rw [HK.out, if_neg HN.out]; rfl, rfl⟩
 have hv : IntKind.u64.wrap (pa - 2147483648) = pa - 2147483648 := by rw [IntKind.wrap_u64]; omega
 have hd : (pa - 2147483648).tdiv 4096 = (pa - 2147483648) / 4096 := Int.tdiv_eq_ediv_of_nonneg (by omega)
 obtain ⟨r, hr⟩ : ∃ r, r = pa % 4096 := ⟨_, rfl⟩
 obtain ⟨q, hq⟩ : ∃ q, q = (pa - 2147483648) / 4096 := ⟨_, rfl⟩
 have q0 : 0 ≤ q := by omega
 have q1 : q ≤ 4503599627370496 := by omega
 have hwq : IntKind.u64.wrap q = q := by rw [IntKind.wrap_u64]; omega
 have hwi : IntKind.i64.wrap q = q := by rw [IntKind.wrap_i64]; omega
 have HR : Hid (r = pa % 4096 ∧ q = (pa - 2147483648) / 4096) := ⟨hr, hq⟩
 rw [← hr] at ht
 rw [← hq] at hd
 have HA : Hid (¬ pa < 2147483648) := a
 clear hr hq
 by_cases b : r = 0
 case neg =>
  have b' : (r != 0) = true := by simp [b]
  have HN : Hid (¬ isF N pa) := fun h => by have h3 := h.2.1; rw [← HR.out.1] at h3; exact b h3
  clear b
  go_enter Try.func20, Try.ntmps20
  go_wp2
  go_ret
  exact ⟨by rw [HK.out, if_neg HN.out]; rfl, rfl⟩
 have b' : (r != 0) = false := by simp [b]
 have HB0 : Hid (r = 0) := b
 clear b
 by_cases c : (N : Int) ≤ q
 ·have HN : Hid (¬ isF N pa) := fun h => by have h3 := h.2.2; rw [← HR.out.2] at h3; omega
  go_enter Try.func20, Try.ntmps20
  go_wp2
  go_ret
  exact ⟨by rw [HK.out, if_neg HN.out]; rfl, rfl⟩
 ·have HN : Hid (isF N pa ∧ frN pa = q) := ⟨⟨by have := HA.out; omega, by rw [← HR.out.1]; exact HB0.out, by rw [← HR.out.2]; omega⟩, by unfold frN; exact HR.out.2.symm⟩
  go_enter Try.func20, Try.ntmps20
  go_wp2
  go_ret
  exact ⟨by rw [HK.out, if_pos HN.out.1, HN.out.2]; rfl, rfl⟩
end Go.Proofs.Ythopgmmodldljab
