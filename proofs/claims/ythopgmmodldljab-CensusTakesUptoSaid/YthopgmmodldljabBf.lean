import Derived.Test.YthopgmmodldljabBd
namespace Go.Proofs.Ythopgmmodldljab
open Go Go.RowKit
set_option linter.unusedVariables false
set_option linter.unusedSimpArgs false
/-! Of each frame whose it is. -/
def rowW (l : List Ow) (v : Value) : Row := ⟨85, 3, l.length, v, (l.map owL).flatten⟩
theorem flat_all {l : List Ow} {u : Value} (h : ∀ o ∈ l, ∀ v ∈ owL o, v = u) : (l.map owL).flatten = List.replicate (l.length * 3) u := by
 rw [List.eq_replicate_iff]
 refine ⟨?_, ?_⟩
 ·rw [flat_len (sz := 3) (by intro c hc; obtain ⟨o, _, rfl⟩ := List.mem_map.1 hc; rfl)]
  simp
 ·intro v hv
  obtain ⟨c, hc, hvc⟩ := List.mem_flatten.1 hv
  obtain ⟨o, ho, rfl⟩ := List.mem_map.1 hc
  exact h o ho v hvc
theorem made59 (n : Nat) : (madeCells (owL (0, 0, 0)).toArray (n * 3)).toList = ((List.replicate n ((0, 0, 0) : Ow)).map owL).flatten := by
 rw [flat_all (u := .int .i64 0) (by intro o ho v hv; rw [List.mem_replicate] at ho; rw [ho.2] at hv; simp [owL] at hv; exact hv), List.length_replicate, List.eq_replicate_iff]
 unfold madeCells
 refine ⟨by simp, ?_⟩
 intro v hv
 simp only [Array.toList_map, List.mem_map] at hv
 obtain ⟨i, _, rfl⟩ := hv
 have h3 : i % 3 = 0 ∨ i % 3 = 1 ∨ i % 3 = 2 := by omega
 show (owL (0, 0, 0)).toArray[i % 3]! = _
 rcases h3 with h | h | h <;> rw [h] <;> rfl
theorem flat_set (o : Ow) : ∀ (l : List Ow) (k : Nat), k < l.length → ((((l.map owL).flatten.set (k * 3) (.int .i64 o.1)).set (k * 3 + 1) (.int .i64 o.2.1)).set (k * 3 + 2) (.int .i64 o.2.2)) = ((l.set k o).map owL).flatten
 | [], k, h => by simp at h
 | x :: l, 0, h => by simp [owL]
 | x :: l, k + 1, h => by
  have ih := flat_set o l k (by simpa using h)
  simp only [List.map_cons, List.flatten_cons, List.set_cons_succ]
  rw [← ih]
  have e1 : (k + 1) * 3 = k * 3 + 3 := by omega
  rw [e1]
  simp only [owL, List.cons_append, List.nil_append, List.set_cons_succ]
/-- A frame's entry is written over. -/
theorem Owns.setO {w : World} {base g c : Nat} {l : List Ow} {R : List Row} (h : Owns w base (rowW l (.slice (some ⟨g, 0, .none⟩) l.length c) :: R)) (k : Nat) (hk : k < l.length) (o : Ow) : Owns (w.setCells g (k * 3) (owL o)) base (rowW (l.set k o) (.slice (some ⟨g, 0, .none⟩) l.length c) :: R) := by
 have hl : ((l.map owL).flatten).length = l.length * 3 := by
  rw [flat_len (sz := 3) (by intro c hc; obtain ⟨o, _, rfl⟩ := List.mem_map.1 hc; rfl)]; simp
 have h1 := Owns.setAt (A := []) (g := g) (j := k * 3) h (.int .i64 o.1) rfl rfl (by show _ < ((l.map owL).flatten).length; rw [hl]; omega)
 have h2 := Owns.setAt (A := []) (g := g) (j := k * 3 + 1) h1 (.int .i64 o.2.1) rfl rfl (by show _ < (((l.map owL).flatten).set _ _).length; rw [List.length_set, hl]; omega)
 have h3 := Owns.setAt (A := []) (g := g) (j := k * 3 + 2) h2 (.int .i64 o.2.2) rfl rfl (by show _ < ((((l.map owL).flatten).set _ _).set _ _).length; rw [List.length_set, List.length_set, hl]; omega)
 have e : rowW (l.set k o) (.slice (some ⟨g, 0, .none⟩) l.length c) = ⟨85, 3, l.length, .slice (some ⟨g, 0, .none⟩) l.length c, ((((l.map owL).flatten.set (k * 3) (.int .i64 o.1)).set (k * 3 + 1) (.int .i64 o.2.1)).set (k * 3 + 2) (.int .i64 o.2.2))⟩ := by
  rw [flat_set o l k hk]
  simp [rowW]
 rw [e]
 exact h3
def frA (k : Nat) : Int := 2147483648 + 4096 * (k : Int)
theorem frA_bd (k : Nat) (h : k < 4096) : Bd64 (frA k) := by unfold Bd64 frA; omega
/-- Of each frame whose it is. -/
def frL (N : Nat) (l : List Nm) : List Ow := (List.range N).map fun k => (owF l (frA k)).getD (0, 0, 0)
end Go.Proofs.Ythopgmmodldljab
namespace Go.Proofs.Ythopgmmodldljab
open Go Go.RowKit
set_option linter.unusedVariables false
set_option linter.unusedSimpArgs false
theorem wpList_storeM {w : World} {ops : Array Oper} {rest : List Oper} {a : Act} {Q : Exit → Act → World → Prop} (t g f : Nat) (cs : List Value) (hi : (Try.prog.info? t).map (·.size) = some cs.length) (h1c : ∀ v ∈ cs, v.oneCell' = true) (x y : Operand) (o1 : Oper) (h4 : o1.guard = none) (h5 : o1.op = .store t x y) (h6 : o1.dst = none)
  (hx : a.eval x = .pointer (some ⟨g, f, .none⟩)) (hy : a.eval y = .agg cs.toArray) (hth : w.there g f cs.length) (h : wpList Try.prog ops Q rest a (w.setCells g f cs)) : wpList Try.prog ops Q (o1 :: rest) a w := by
 refine wpList_store_mid h4 t x y h5 g f cs.toArray hx hy (by simpa using hth) (by simpa using hi) (all_oneCell_toArray h1c) ?_
 rw [h6]
 exact h
theorem own_there {w : World} {base n c g k : Nat} {xs : List Value} (h : w.ownsRow base 85 3 (.slice (some ⟨g, 0, .none⟩) n c) n xs) (hk : k < n) : w.there g (k * 3) 3 := by
 rcases h.2 with ⟨h2, _⟩ | ⟨g', cap, cur, hv, _, hg, hc, _, hs, _⟩
 ·cases h2
 ·injection hv with e1 e2 e3
  injection e1 with e1
  injection e1 with e1
  subst e1 e3
  intro j hj
  refine ⟨?_, frozen_heap hg⟩
  rw [cell_heap hg, Array.getElem?_eq_getElem (by omega)]
  rfl
theorem info59z : (Try.prog.info? 85).map (fun i => (i.zero, i.size, i.bytes)) = some (some (.agg (owL (0, 0, 0)).toArray), 3, 24) := by kernel_rfl
def FrP (w : World) (N : Nat) (l : List Nm) (e : Ending) (w' : World) : Prop := ∃ fv, e = .returned fv ∧ w'.ownsRow w.heap.size 85 3 fv N (((frL N l).map owL).flatten) ∧ Below w.heap.size w w'
/-- How far it is. -/
def FrI (l : List Nm) (N : Nat) (left : Lit → Bool) (fl : List Ow) : Prop := fl.length = N ∧ ∀ k, k < N → fl[k]? = some (if left (.int .u64 (frA k)) then (0, 0, 0) else (owF l (frA k)).getD (0, 0, 0))
theorem FrI.done {l : List Nm} {N : Nat} {left : Lit → Bool} {fl : List Ow} (h : FrI l N left fl) (hl : ∀ kl, left kl = false) : fl = frL N l := by
 apply List.ext_getElem?
 intro k
 by_cases hk : k < N
 ·rw [h.2 k hk, hl]
  simp [frL, hk]
 ·rw [List.getElem?_eq_none (by rw [h.1]; omega), List.getElem?_eq_none (by simp [frL]; omega)]
theorem frA_inj {a : Int} {N : Nat} {k : Nat} (h : isF N a) (hk : frN a = (k : Int)) : a = frA k ∧ k < N := by
 obtain ⟨h1, h2, h3⟩ := h
 unfold frN at hk
 unfold frA
 omega
theorem isF_frA {N k : Nat} (hk : k < N) : isF N (frA k) := by unfold isF frA; omega
theorem FrI.skip {l : List Nm} {N : Nat} {left : Lit → Bool} {fl : List Ow} (h : FrI l N left fl) {a : Int} (ha : ¬ isF N a) : FrI l N (fun z => left z && !z.sameKey (.int .u64 a)) fl := by
 refine ⟨h.1, fun k hk => ?_⟩
 rw [h.2 k hk]
 have : (Lit.int .u64 (frA k)).sameKey (.int .u64 a) = false := Maps.sameKey_ne (fun e => by injection e with _ e; rw [← e] at ha; exact ha (isF_frA hk))
 simp [this]
theorem FrI.take {l : List Nm} {N : Nat} {left : Lit → Bool} {fl : List Ow} (h : FrI l N left fl) {a : Int} {o : Ow} (ho : owF l a = some o) {k : Nat} (hk : k < N) (hak : a = frA k) : FrI l N (fun z => left z && !z.sameKey (.int .u64 a)) (fl.set k o) := by
 refine ⟨by rw [List.length_set]; exact h.1, fun j hj => ?_⟩
 subst hak
 rw [List.getElem?_set]
 by_cases e : k = j
 ·subst e
  rw [if_pos rfl, if_pos (by rw [h.1]; exact hk)]
  simp [WideAt.sameKey_self (show WideAt.IsKeyLit (.int .u64 (frA k)) from trivial), ho]
 ·rw [if_neg e, h.2 j hj]
  have : (Lit.int .u64 (frA j)).sameKey (.int .u64 (frA k)) = false := Maps.sameKey_ne (fun e2 => by injection e2 with _ e2; unfold frA at e2; omega)
  simp [this]
theorem Owns.grown {w w' : World} {base g : Nat} {R : List Row} (h : Owns w base R) (hg : w.grownBy w' (some g)) (hn : g ∉ blks R) : Owns w' base R :=
 ⟨fun r hr => (h.own r hr).kept hg (by
  cases hv : r.v.ownBlock with
  | none => exact .inl rfl
  | some q => exact .inr (by intro e; injection e with e; subst e; exact hn (List.mem_filterMap.2 ⟨r, hr, hv⟩))), h.nd⟩
theorem bx_row {w : World} {base n c g : Nat} {xs : List Value} (h : w.ownsRow base 85 3 (.slice (some ⟨g, 0, .none⟩) n c) n xs) : ∃ cur, w.heap[g]? = some (.cells cur 85 (0, 0)) := by
 rcases h.2 with ⟨h2, _⟩ | ⟨g', cap, cur, hv, _, hg, _⟩
 ·cases h2
 ·injection hv with e1 e2 e3
  injection e1 with e1
  injection e1 with e1
  subst e1
  exact ⟨cur, hg⟩
theorem wf_bd {x : Int} (h : (Lit.int .u64 x).wf = true) : Bd64 x := by
 simp [Lit.wf, IntKind.min, IntKind.max, IntKind.signed, IntKind.bits] at h
 unfold Bd64
 omega
theorem grown_of {w w' : World} {B : Nat} (h : Below B w w') (hB : B = w.heap.size) : w.grownBy w' none := ⟨h.os, h.tape, h.output, h.size, fun k hk _ => h.block k (by omega)⟩
theorem setCells_grown (w : World) (g o : Nat) (cs : List Value) : w.grownBy (w.setCells g o cs) (some g) := by
 obtain ⟨s1, s2, s3, s4⟩ := setCells_size g cs o w
 exact ⟨s2, s3, s4, by omega, fun k _ hk => setCells_other _ _ _ _ _ (fun e => hk (by rw [e]))⟩
theorem has_of_at {D : DataW Unit} {kl : Lit} {o : Ow} (hD : ∃ es, D = .map es ∧ es.Pairwise (fun p q => p.1 ≠ q.1) ∧ ∀ p ∈ es, WideAt.IsKeyLit p.1) (h : ∀ zd, D.atKey kl zd = owD o) : Maps.has D kl = true := by
 obtain ⟨es, rfl, _⟩ := hD
 rw [Maps.has_eq]
 cases hf : es.find? (fun p => p.1.sameKey kl) with
 | none =>
  have h1 := h .nil
  unfold DataW.atKey at h1
  simp only [hf] at h1
  cases h1
 | some p => exact List.any_eq_true.2 ⟨p, List.mem_of_find?_eq_some hf, by have := List.find?_some hf; simpa using this⟩
set_option maxRecDepth 100000 in
set_option maxHeartbeats 4000000 in
theorem ownFrames_any {w : World} {X : Nat} {v : Value} {l : List Nm} (h : Sl w X 3 (fun x cs => cs = An x) v l) (hX : X ≤ w.heap.size) (hl : l.length ≤ 1000000) (hb : ∀ x ∈ l, Bd64 x.1) (N : Nat) (hN : N ≤ 4096) : Calls Try.prog 27 #[v, .int .i64 N] w (FrP w N l) := by
 obtain ⟨p, c, rfl⟩ := h.form
 obtain ⟨n, hn⟩ : ∃ n, n = l.length := ⟨_, rfl⟩
 rw [← hn] at h ⊢
 have HS : Hid (Sl w X 3 (fun x cs => cs = An x) (.slice p n c) l ∧ l.length ≤ 1000000 ∧ ∀ x ∈ l, Bd64 x.1) := ⟨h, hl, hb⟩
 clear h hn hb hl
 obtain ⟨i9, hi9, hz9, hs9, hb9⟩ := info_parts info59z
 obtain ⟨z, hz⟩ : ∃ z, z = w.heap.size := ⟨_, rfl⟩
 have HZ : Hid (z = w.heap.size) := hz
 go_enter Try.func27, Try.ntmps27
 go_wp2_with (first
  | (refine wpList_is (.makeSlice 36 (.tmp 10) (.tmp 10)) rfl ?_; refine wpList_make_full w rfl (.tmp 10) (.tmp 10) 36 rfl w.heap.size 85 i9 (.agg (owL (0, 0, 0)).toArray) 3 Try.underlying36 hi9 hz9 hs9 .i64 .i64 N N N rfl rfl rfl rfl (by rw [hb9]; omega) (by unfold maxLen; omega) (Nat.le_refl _) ?_; intro W1 hO1 hg1; rw [← hz] at hO1 ⊢; clear hz)
  | fail)
 have hO1' : W1.ownsRow z 85 3 (.slice (some ⟨z, 0, .none⟩) N N) N (((List.replicate N ((0, 0, 0) : Ow)).map owL).flatten) := by
  rw [← made59]
  exact hO1
 have hB1 : Below z w W1 := ⟨hg1.os, hg1.tape, hg1.output, hg1.size, fun k hk => hg1.block k (by have := HZ.out; omega) (by simp)⟩
 have hzl := HZ.out
 refine (owners_any (Sl.mono HS.out.1 (X' := z) (by omega) (hB1.mono (by omega)) (fun _ _ _ q => q)) (by have := hg1.size; omega) HS.out.2.1 HS.out.2.2).mono ?_
 rintro e W2 ⟨b, D, rfl, hM, hD, hbz, hB2⟩
 have hO2 : W2.ownsRow z 85 3 (.slice (some ⟨z, 0, .none⟩) N N) N (((List.replicate N ((0, 0, 0) : Ow)).map owL).flatten) := own_bel hO1' hB2 (fun g hg => (hO1'.lt g hg).2)
 have hzb : z < W1.heap.size := (hO1'.lt z rfl).2
 have HM : Hid (MapO D l ∧ z < b) := ⟨hD, by omega⟩
 have HB2 : Hid (Below z w W2) := hB1.trans (hB2.mono (by omega))
 clear hO1 hO1' hB1 hg1 hB2 hD hbz hzb hzl
 go_wp2_with (first
  | (refine wpList_is (.range 118 (.tmp 13)) rfl ?_; refine wpList_range_own W2 rfl (.tmp 13) 118 rfl 22 85 law24 Try.underlying118 R59 b l.length D rfl hM ?_; intro W3 hR3 hg3 hs3)
  | fail)
 go_frame
 obtain ⟨r, hr⟩ : ∃ r, r = W2.heap.size := ⟨_, rfl⟩
 rw [← hr] at hR3 ⊢
 have HR : Hid (z < r) := by have := HM.out.2; have := hM.lt; show z < r; omega
 have HI : Hid (∃ left cnt fl, W3.ranges Try.prog 22 R59 b r l.length D left cnt ∧ Owns W3 z [rowW fl (.slice (some ⟨z, 0, .none⟩) N N)] ∧ FrI l N left fl ∧ Below z w W3) := by
  refine ⟨_, _, List.replicate N (0, 0, 0), hR3, ⟨?_, by simp [blks, rowW, Value.ownBlock]⟩, ⟨by simp, fun k hk => ?_⟩, ?_⟩
  ·intro q hq
   rw [List.mem_singleton] at hq
   subst hq
   have := hO2.kept (w' := W3) hg3 (.inr (by simp [Value.ownBlock]))
   simpa [rowW] using this
  ·have h1 := (HM.out.1 (frA k) (frA_bd k (by omega))).1
   rw [List.getElem?_replicate, if_pos hk, h1]
   cases owF l (frA k) <;> simp
  ·exact HB2.out.grown hg3 (by have := HZ.out; have := HB2.out.size; omega) (by simp)
 clear hM hO2 hR3 hg3 hs3 hr HB2
 go_loopw [] (fun wr => Hid (∃ left cnt fl, wr.ranges Try.prog 22 R59 b r l.length D left cnt ∧ Owns wr z [rowW fl (.slice (some ⟨z, 0, .none⟩) N N)] ∧ FrI l N left fl ∧ Below z w wr)) (fun wr => wr.rangeLeft b r)
 case atStart => exact HI.out
 case round =>
  clear HI
  obtain ⟨left, cnt, fl, hR, hO, hF, hB⟩ := hrel
  have HQ : Hid (wr.ranges Try.prog 22 R59 b r l.length D left cnt ∧ Owns wr z [rowW fl (.slice (some ⟨z, 0, .none⟩) N N)] ∧ FrI l N left fl ∧ Below z w wr) := ⟨hR, hO, hF, hB⟩
  clear hR hO hF hB
  go_wp2_with (first
   | (refine wpList_is (.next (.tmp 14) false) rfl ?_; refine wpList_next_ranges wr rfl (.tmp 14) rfl 22 law24 R59 (Value.int .u64) (fun o : Ow => Value.agg (owL o).toArray) (fun key kl hk => by obtain ⟨x, rfl, _⟩ := Maps.keyOf_int_inv Try.underlying22 hk; exact ⟨x, rfl⟩) (fun v y hv => by obtain ⟨o, rfl, _⟩ := R59_inv hv; exact ⟨o, rfl⟩) b r l.length D left cnt rfl HQ.out.1 (fun hc0 hl0 => ?_) (fun x ov kl y W1 cnt1 hkey hlk hv hat hR1 hlt hg1 hs1 hen => ?_))
   | (refine wpList_is (.alloc 85) rfl ?_; refine wpList_allocG 85 3 24 info59 7 _ rfl rfl rfl ?_; intro W2 zs hzs hW2 hB2 hs2; rw [hs1] at hW2 hs2)
   | (refine wpList_is (.store 85 (.tmp 7) (.tmp 19)) rfl ?_; refine wpList_storeG 85 3 24 wr.heap.size info59 (owL ov) zs rfl hzs (owL_one ov) (.tmp 7) (.tmp 19) _ rfl rfl rfl rfl rfl hW2 ?_; intro W3 hW3 hg3 hs3)
   | fail)
  ·have hfin := HQ.out.2.2.1.done hl0
   go_ret
   refine ⟨_, rfl, ?_, by have := HZ.out; rw [← this]; exact HQ.out.2.2.2⟩
   have h1 := HQ.out.2.1.own (rowW fl (.slice (some ⟨z, 0, .none⟩) N N)) (by simp)
   have h2 : fl.length = N := HQ.out.2.2.1.1
   simp only [rowW, hfin, h2] at h1
   rw [hfin] at h2
   rw [h2] at h1
   have h3 := HZ.out
   rw [h3] at h1
   show wr.ownsRow w.heap.size 85 3 _ N _
   rw [← h3] at h1 ⊢
   exact h1
  ·obtain ⟨x', ex, rfl, hwx⟩ := Maps.keyOf_int_inv Try.underlying22 hkey
   injection ex with _ ex
   subst ex
   have hxb := wf_bd hwx
   obtain ⟨o', eo, rfl⟩ := R59_inv hv
   have ho : owF l x = some ov := by
    have h1 := (HM.out.1 x hxb)
    have h2 : Maps.has D (.int .u64 x) = true := has_of_at (HQ.out.1.owns.entries law24) hat
    rw [h2] at h1
    cases hq : owF l x with
    | none => rw [hq] at h1; simp at h1
    | some q =>
     have h3 := h1.2 q hq .nil
     rw [hat .nil] at h3
     have h4 : o' = q := owD_inj h3
     rw [← h4]
     injection eo with eo
     have h5 : owL ov = owL o' := by simpa using congrArg Array.toList eo
     simp only [owL, List.cons.injEq, Value.int.injEq, true_and, and_true] at h5
     exact congrArg some (Prod.ext h5.1.symm (Prod.ext h5.2.1.symm h5.2.2.symm))
   clear eo
   have hbw := HQ.out.1.owns.lt
   have hrw := HQ.out.1.lt
   have hrow : ∀ W, Owns W z [rowW fl (.slice (some ⟨z, 0, .none⟩) N N)] → W.ownsRow z 85 3 (.slice (some ⟨z, 0, .none⟩) N N) N ((fl.map owL).flatten) := fun W h => by
    have h1 := h.own (rowW fl (.slice (some ⟨z, 0, .none⟩) N N)) (by simp)
    simp only [rowW, HQ.out.2.2.1.1] at h1
    exact h1
   have hzw := (hrow _ HQ.out.2.1).lt z rfl
   have hmz := HM.out.2
   have hzr := HR.out
   have R2 : W2.ranges Try.prog 22 R59 b r l.length D (fun z => left z && !z.sameKey (.int .u64 x)) cnt1 := hR1.kept (grown_of hB2 rfl) (by simp) (by simp)
   have R3 := R2.kept hg3 (by intro e; injection e; omega) (by intro e; injection e; omega)
   have O1 := HQ.out.2.1.grown hg1 (by simp [blks, rowW, Value.ownBlock]; omega)
   have O2 := O1.keep hB2
   have O3 := O2.grown hg3 (by simp [blks, rowW, Value.ownBlock]; omega)
   have B3 : Below z w W3 := ((HQ.out.2.2.2.grown hg1 (by omega) (by intro k hk; injection hk; omega)).trans (hB2.mono (by omega))).grown hg3 (by omega) (by intro k hk; injection hk; omega)
   have HX3 : Hid (W3.ranges Try.prog 22 R59 b r l.length D (fun z => left z && !z.sameKey (.int .u64 x)) cnt1 ∧ Owns W3 z [rowW fl (.slice (some ⟨z, 0, .none⟩) N N)] ∧ Below z w W3 ∧ cnt1 < cnt ∧ owF l x = some ov ∧ FrI l N left fl ∧ wr.rangeLeft b r = cnt ∧ z ≠ b ∧ z ≠ r ∧ W3.there z 0 0 ∧ W3.ownsRow z 85 3 (.slice (some ⟨z, 0, .none⟩) N N) N ((fl.map owL).flatten)) := ⟨R3, O3, B3, hlt, ho, HQ.out.2.2.1, HQ.out.1.left_eq, by omega, by omega, fun j hj => (nomatch hj), hrow _ O3⟩
   refine (frameAt_any x N hxb.1 hxb.2 (by omega) (by omega) W3).mono ?_
   rintro e w4 ⟨rfl, rfl⟩
   have rg3 := range_heap hW3
   clear hrow R2 R3 O1 O2 O3 B3 hR1 hg1 hs1 hen hB2 hs2 hg3 hs3 hW2 hW3 hat hkey hv hlk hbw hrw hzw hmz hzr ho hlt hzs
   by_cases hf : isF N x
   ·obtain ⟨k, hk⟩ : ∃ k : Nat, frN x = k := ⟨(frN x).toNat, by have h1 := hf.1; unfold frN; omega⟩
    obtain ⟨hxk, hkN⟩ := frA_inj hf hk
    have HK : Hid (x = frA k ∧ k < N) := ⟨hxk, hkN⟩
    have hkN' : (k : Int) < N := by omega
    rw [if_pos hf, decide_eq_true hf, hk]
    have hth : w4.there z (k * 3) 3 := own_there HX3.out.2.2.2.2.2.2.2.2.2.2 hkN
    clear hf hk hxk hkN
    go_wp2_with (first
     | (refine wpList_is (.load 85 (.tmp 7)) rfl ?_; refine wpList_loadG 85 3 24 info59 _ Try.underlying85 rfl (owL ov) rfl wr.heap.size 0 (.tmp 7) rfl rfl rfl rg3 (some 29) rfl ?_)
     | (refine wpList_is (.store 85 (.tmp 30) (.tmp 29)) rfl ?_; refine wpList_storeM 85 z (k * 3) (owL ov) (by kernel_rfl) (owL_one ov) (.tmp 30) (.tmp 29) _ rfl rfl rfl rfl rfl hth ?_)
     | fail)
    obtain ⟨h1, h2, h3, h4, h5, h6, h7, h8, h9, h10, h11⟩ := HX3.out
    have hfl : fl.length = N := h6.1
    have o5 : Owns (w4.setCells z (k * 3) (owL ov)) z (rowW (fl.set k ov) (.slice (some ⟨z, 0, .none⟩) fl.length N) :: []) := Owns.setO (c := N) (by rw [hfl]; exact h2) k (by rw [hfl]; exact HK.out.2) ov
    rw [hfl] at o5
    have r5 := h1.kept (setCells_grown w4 z (k * 3) (owL ov)) (by intro e; injection e; omega) (by intro e; injection e; omega)
    refine ⟨⟨_, cnt1, fl.set k ov, r5, o5, h6.take h5 HK.out.2 HK.out.1, ?_⟩, ?_⟩
    ·have h12 := h3.size
     have h13 := HZ.out
     exact h3.grown (setCells_grown w4 z (k * 3) (owL ov)) (by omega) (by intro q hq; injection hq; omega)
    ·rw [r5.left_eq, h7]
     exact h4
   ·rw [if_neg hf, decide_eq_false hf]
    have HNF : Hid (¬ isF N x) := hf
    clear hf
    go_wp2
    refine ⟨⟨_, cnt1, fl, HX3.out.1, HX3.out.2.1, HX3.out.2.2.2.2.2.1.skip HNF.out, HX3.out.2.2.1⟩, ?_⟩
    rw [HX3.out.1.left_eq, HX3.out.2.2.2.2.2.2.1]
    exact HX3.out.2.2.2.1
end Go.Proofs.Ythopgmmodldljab
