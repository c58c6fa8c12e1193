import Derived.Test.YtdkidhipiglbkaaDoorLdC
import Derived.Deep.RegionHeld3
import Derived.Laws.AppendOwn
namespace Go.Proofs.YtdkidhipiglbkaaDoor
open Go.RowKit
set_option linter.unusedVariables false
set_option linter.unusedSimpArgs false
theorem laid_keep {B : Nat} {w w' : World} (h : Laid w) (hb : Below B w w') (h0 : 0 < B) : Laid w' := fun k hk => (hb.cell h0).trans (h k hk)
/-- An instruction's cells, in a block of their own. -/
def S6 (b : Nat) (op rd rs1 imm : Int) (w : World) : Prop := w.cell? ⟨b, 0, .none⟩ = some (.int .i64 op) ∧ w.cell? ⟨b, 1, .none⟩ = some (.int .i64 rd) ∧ w.cell? ⟨b, 2, .none⟩ = some (.int .i64 rs1) ∧ w.cell? ⟨b, 3, .none⟩ = some (.int .i64 0) ∧ w.cell? ⟨b, 4, .none⟩ = some (.int .i64 imm) ∧ w.cell? ⟨b, 5, .none⟩ = some (.int .i64 0)
theorem s6_new (w : World) (op rd rs1 imm : Int) (t : TypeId) : S6 w.heap.size op rd rs1 imm (w.alloc (.cells #[.int .i64 op, .int .i64 rd, .int .i64 rs1, .int .i64 0, .int .i64 imm, .int .i64 0] t)).drew := by
  refine ⟨?_, ?_, ?_, ?_, ?_, ?_⟩ <;> simp
theorem s6_keep {b B : Nat} {op rd rs1 imm : Int} {w w' : World} (h : S6 b op rd rs1 imm w) (hb : Below B w w') (h0 : b < B) : S6 b op rd rs1 imm w' := by
  obtain ⟨k0, k1, k2, k3, k4, k5⟩ := h
  exact ⟨(hb.cell h0).trans k0, (hb.cell h0).trans k1, (hb.cell h0).trans k2, (hb.cell h0).trans k3, (hb.cell h0).trans k4, (hb.cell h0).trans k5⟩
theorem own_mono {w : World} {b b' e k n : Nat} {v : Value} {xs : List Value} (h : w.ownsRow b e k v n xs) (hb : b' ≤ b) : w.ownsRow b' e k v n xs := by
  refine ⟨h.1, ?_⟩
  rcases h.2 with h | ⟨g, cap, cur, h1, h2, h3⟩
  · exact .inl h
  · exact .inr ⟨g, cap, cur, h1, by omega, h3⟩
/-- Ahead of the append: the row, and the instruction that is laid behind it. -/
structure Mid (B : Nat) (w2 W : World) (rd x : Int) (L : List (Int × Int × Int)) (p : Option Addr) (c : Nat) (ad : Addr) : Prop where
  own : W.ownsRow (B + 1) 29 6 (.slice p L.length c) L.length (cs rd L)
  news : ∀ j u, (ins 28 rd rd x)[j]? = some u → W.cell? (ad.add j) = some u
  s6 : S6 B 28 rd rd x W
  bel : Below B w2 W
  sz : B + 1 ≤ W.heap.size
theorem s6_alloc {b : Nat} {op rd rs1 imm : Int} {w : World} (h : S6 b op rd rs1 imm w) (o : Obj) (h0 : b < w.heap.size) : S6 b op rd rs1 imm (w.alloc o) := s6_keep h ((Below.refl (w.heap.size) w).alloc (Nat.le_refl _) o) h0
theorem midA {B : Nat} {w2 W1 W5 : World} {rd x : Int} {L : List (Int × Int × Int)} {p : Option Addr} {c : Nat} (hb : Below B w2 W1) (hz : W1.heap.size = B + 1) (h6 : S6 B 28 rd rd x W1)
    (ho : W5.ownsRow W1.heap.size 29 6 (.slice p L.length c) L.length (cs rd L)) (hk : Below W1.heap.size W1 W5) :
    Mid B w2 (W5.alloc (.cells #[.int .i64 28, .int .i64 rd, .int .i64 rd, .int .i64 0, .int .i64 x, .int .i64 0] 29)) rd x L p c ⟨W5.heap.size, 0, .none⟩ := by
  have := hk.size
  have k6 : S6 B 28 rd rd x W5 := s6_keep h6 hk (by omega)
  refine ⟨own_mono (ho.alloc _) (by omega), cells6_new _ _ _ _ _ _, s6_alloc k6 _ (by omega), (hb.trans (hk.mono (by omega))).alloc (by have := hb.size; omega) _, by simp only [World.size_alloc]; omega⟩
theorem midB {B : Nat} {w2 W1 W5 : World} {rd x : Int} {L : List (Int × Int × Int)} {p : Option Addr} {c : Nat} (hb : Below B w2 W1) (hz : W1.heap.size = B + 1) (h6 : S6 B 28 rd rd x W1)
    (ho : W5.ownsRow (W1.alloc (.cells #[.int .i64 28, .int .i64 rd, .int .i64 rd, .int .i64 0, .int .i64 x, .int .i64 0] 29)).heap.size 29 6 (.slice p L.length c) L.length (cs rd L))
    (hk : Below (W1.alloc (.cells #[.int .i64 28, .int .i64 rd, .int .i64 rd, .int .i64 0, .int .i64 x, .int .i64 0] 29)).heap.size (W1.alloc (.cells #[.int .i64 28, .int .i64 rd, .int .i64 rd, .int .i64 0, .int .i64 x, .int .i64 0] 29)) W5) :
    Mid B w2 W5 rd x L p c ⟨W1.heap.size, 0, .none⟩ := by
  have hs := hk.size
  simp only [World.size_alloc] at hs ho hk
  have k6 := s6_keep (s6_alloc h6 (.cells #[.int .i64 28, .int .i64 rd, .int .i64 rd, .int .i64 0, .int .i64 x, .int .i64 0] 29) (by omega)) hk (by omega)
  refine ⟨own_mono ho (by omega), fun j u hj => ?_, k6, (hb.alloc (by have := hb.size; omega) _).trans (hk.mono (by omega)), by omega⟩
  have := cells6_new W1 28 rd rd x 29 j u hj
  rw [addr_add] at *
  exact (hk.cell (by simp)).trans this
theorem mid_app {B : Nat} {w2 W W7 : World} {rd x : Int} {L : List (Int × Int × Int)} {p : Option Addr} {c : Nat} {ad : Addr} (h : Mid B w2 W rd x L p c ad) (hg : W.grownBy W7 (Value.ownBlock (.slice p L.length c))) :
    S6 B 28 rd rd x W7 ∧ Below B w2 W7 ∧ B + 1 ≤ W7.heap.size := by
  have b1 : Below (B + 1) W W7 := (Below.refl _ _).grown hg h.sz (own_block h.own)
  have := b1.size
  have := h.sz
  exact ⟨s6_keep h.s6 b1 (by omega), h.bel.trans (b1.mono (by omega)), by omega⟩
/-- An append as one step of a region that draws. -/
theorem step_append_at {P : Program} {ops : Array Oper} {o : Oper} {a : Act} {w : World} {K : Act → World → Prop} {Q : Exit → Act → World → Prop} {E : Prop} (hgd : o.guard = none) (s x : Operand) (t : TypeId)
    (hop : o.op = .call { callee := .builtin .append, args := #[s, x], argTypes := #[t, t] }) (base : Nat) (e : TypeId) (i : TypeInfo) (z : Value) (size bytes : Nat) (ht : P.underlying t = some (.slice e)) (hi : P.info? e = some i) (hz : i.zero = some z)
    (hsize : i.size = size) (hby : i.bytes = bytes) (hzs : z.cells.size = size) (hsz : 0 < size) (v : Value) (k : Nat) (xs : List Value) (hs : a.eval s = v) (hown : w.ownsRow base e size v k xs)
    (ad : Addr) (m c : Nat) (news : List Value) (hx : a.eval x = .slice (some ad) m c) (hl : news.length = m * size) (hnews : ∀ j u, news[j]? = some u → w.cell? (ad.add j) = some u) (h1 : ∀ u ∈ news, u.oneCell' = true)
    (h63 : k + m ≤ maxLen) (hbytes : (k + m) * bytes ≤ 140737488355328) (hbase : base ≤ w.heap.size)
    (h : ∀ v' w', w'.ownsRow base e size v' (k + m) (xs ++ news) → w.grownBy w' v.ownBlock → K (a.put o.dst v') w') : if Region.wanted o (yielded ops a.tmps) = true then Oper.wp P o a w K Q else E := by
  have hw : Region.wanted o (yielded ops a.tmps) = true := by simp [Region.wanted, hgd]
  rw [if_pos hw]
  obtain ⟨v', w', hrun, r1, r2, _⟩ := run_append_own (P := P) w base t o.type e i z size bytes ht hi hz hsize hby hzs hsz v k xs hown ad m c news hl hnews h1 h63 hbytes hbase
  unfold Oper.wp
  simp [execOp, hop, resolve, invoke, builtin, hs, hx, hrun, Result.andThen]
  exact h v' w' r1 r2
theorem fin_big {B : Nat} {w2 W8 : World} {rd x l : Int} {L : List (Int × Int × Int)} {p8 : Option Addr} {c8 : Nat}
    (h : W8.ownsRow (B + 1) 29 6 (.slice p8 (L.length + 1 + (lowI 22 rd l).length) c8) (L.length + 1 + (lowI 22 rd l).length) (cs rd L ++ ins 28 rd rd x ++ cs rd (lowI 22 rd l))) (hb : Below B w2 W8) (hB : w2.heap.size = B) :
    Gv rd (L ++ (28, rd, x) :: lowI 22 rd l) w2 (.returned (.slice p8 (L.length + 1 + (lowI 22 rd l).length) c8)) W8 := by
  subst hB
  have e1 : (L ++ (28, rd, x) :: lowI 22 rd l).length = L.length + 1 + (lowI 22 rd l).length := by simp; omega
  have e2 : cs rd (L ++ (28, rd, x) :: lowI 22 rd l) = cs rd L ++ ins 28 rd rd x ++ cs rd (lowI 22 rd l) := by simp [cs]
  refine ⟨p8, c8, by rw [e1], ?_, hb⟩
  rw [e1, e2]
  exact own_mono h (by omega)
set_option maxHeartbeats 2000000 in
set_option maxRecDepth 100000 in
theorem load_big (x v l rd h : Int) (s : Nat) (L : List (Int × Int × Int)) (w : World) (hx : wrap64 x = v) (hr0 : 0 ≤ rd) (hr1 : rd < 32) (hv : I64 v) (hs : ¬ (-2147483648 ≤ v ∧ v < 2147483648)) (hl : lo v = l) (hh : hi v = h) (hz : tz 64 h = s)
    (hT : Laid w) (h0 : 0 < w.heap.size) (hL : L.length < 100) (IH : ∀ W, Laid W → 0 < W.heap.size → Calls Tryd.prog 4 #[.int .u64 (IntKind.u64.wrap (h / 2 ^ s)), .int .i64 rd] W (Gv rd L W)) :
    Calls Tryd.prog 4 #[.int .u64 x, .int .i64 rd] w (Gv rd (L ++ (28, rd, 12 + (s : Int)) :: lowI 22 rd l) w) := by
  have c1 := lowOf_any v w hv
  have lb := lo_bd v
  have g1 : (v == lo v) = false := by rw [beq_eq_false_iff_ne]; unfold lo; omega
  have g2 : (v == wrap32 v) = false := by rw [beq_eq_false_iff_ne]; unfold wrap32; omega
  have g4 : wrap64 (wrap32 v) = wrap32 v := by unfold wrap64 wrap32; omega
  have hn : hi v ≠ 0 := hi_ne v hv (by omega)
  have hb : I64 (hi v) := by obtain ⟨a, b⟩ := hv; unfold hi wrap64 I64; omega
  have c2 := tail_any (IntKind.u64.wrap (hi v)) w (by unfold W64; rw [IntKind.wrap_u64]; omega) (by obtain ⟨a, b⟩ := hb; rw [IntKind.wrap_u64]; omega) hT
  have e2 : tz 64 (IntKind.u64.wrap (hi v)) = s := by
    rw [IntKind.wrap_u64, ← hz, ← hh]
    exact tz_mod 64 64 (hi v) (Nat.le_refl _)
  rw [e2] at c2
  have hd : wrap64 (v - lo v) / 4096 = h := by rw [← hh]; rfl
  have sl : s ≤ 64 := hz ▸ tz_le 64 h
  rw [hl] at c1 g1 lb hd
  rw [hh] at c2
  obtain ⟨l0, l1⟩ := lb
  clear hl hh hz e2 hn hb hv hs
  go_enter Tryd.func4, Tryd.ntmps4
  go_wp2_with fail
  refine c1.mono ?_
  rintro e w1 ⟨rfl, rfl⟩
  clear c1
  go_wp2_with fail
  refine c2.mono ?_
  rintro e w2 ⟨rfl, rfl⟩
  clear c2
  go_wp2_with fail
  --REGION
  have z1 : (w2.alloc (Obj.cells #[.int .i64 28, .int .i64 rd, .int .i64 rd, .int .i64 0, .int .i64 (12 + (s : Int)), .int .i64 0] 29)).heap.size = w2.heap.size + 1 := by simp only [World.size_alloc]
  have HB0 : Hid (Below (w2.heap.size) w2 (w2.alloc (Obj.cells #[.int .i64 28, .int .i64 rd, .int .i64 rd, .int .i64 0, .int .i64 (12 + (s : Int)), .int .i64 0] 29)).drew) := ((Below.refl _ w2).alloc (Nat.le_refl _) _).drew
  have HS0 : S6 w2.heap.size 28 rd rd (12 + (s : Int)) (w2.alloc (Obj.cells #[.int .i64 28, .int .i64 rd, .int .i64 rd, .int .i64 0, .int .i64 (12 + (s : Int)), .int .i64 0] 29)).drew := s6_new w2 28 rd rd (12 + (s : Int)) 29
  have hT0 : Laid (w2.alloc (Obj.cells #[.int .i64 28, .int .i64 rd, .int .i64 rd, .int .i64 0, .int .i64 (12 + (s : Int)), .int .i64 0] 29)).drew := laid_keep hT HB0.out h0
  have HT0 : Hid (Laid (w2.alloc (Obj.cells #[.int .i64 28, .int .i64 rd, .int .i64 rd, .int .i64 0, .int .i64 (12 + (s : Int)), .int .i64 0] 29)).drew) := hT0
  clear hT hT0
  refine wp_region_held_drew (S := S6 w2.heap.size 28 rd rd (12 + (s : Int))) (by kernel_rfl) HS0 (fun hHeld => ?_)
  have zd : (w2.alloc (Obj.cells #[.int .i64 28, .int .i64 rd, .int .i64 rd, .int .i64 0, .int .i64 (12 + (s : Int)), .int .i64 0] 29)).drew.heap.size = w2.heap.size + 1 := z1
  clear z1
  generalize (w2.alloc (Obj.cells #[.int .i64 28, .int .i64 rd, .int .i64 rd, .int .i64 0, .int .i64 (12 + (s : Int)), .int .i64 0] 29)).drew = W1 at *
  generalize hBB : w2.heap.size = B at *
  refine wpAnyH_take (i := 0) (v := (.int .i64 h)) rfl (by kernel_rfl) (by kernel_rfl) (by kernel_rfl) (fun _ _ _ h => h) (Or.inl ⟨by rfl, fun ww hSw => by (try dsimp only at hSw); go_simp⟩) (by assumption) ?_
  simp only [Act.put, List.setIfInBounds_toArray, List.set_cons_zero, List.set_cons_succ, List.getElem_toArray, List.getElem_cons_succ, List.getElem_cons_zero]
  refine wpAnyH_take (i := 1) (v := (.int .i64 (s : Int))) rfl (by kernel_rfl) (by kernel_rfl) (by kernel_rfl) (fun _ _ _ h => h) (Or.inl ⟨by rfl, fun ww hSw => by (try dsimp only at hSw); go_simp⟩) (by assumption) ?_
  simp only [Act.put, List.setIfInBounds_toArray, List.set_cons_zero, List.set_cons_succ, List.getElem_toArray, List.getElem_cons_succ, List.getElem_cons_zero]
  refine wpAnyH_take (i := 2) (v := (.int .i64 (h / 2 ^ s))) rfl (by kernel_rfl) (by kernel_rfl) (by kernel_rfl) (fun _ _ _ h => h) (Or.inl ⟨by rfl, fun ww hSw => by (try dsimp only at hSw); go_simp⟩) (by assumption) ?_
  simp only [Act.put, List.setIfInBounds_toArray, List.set_cons_zero, List.set_cons_succ, List.getElem_toArray, List.getElem_cons_succ, List.getElem_cons_zero]
  refine wpAnyH_take (i := 3) (v := (.int .u64 (IntKind.u64.wrap (h / 2 ^ s)))) rfl (by kernel_rfl) (by kernel_rfl) (by kernel_rfl) (fun _ _ _ h => h) (Or.inl ⟨by rfl, fun ww hSw => by (try dsimp only at hSw); go_simp⟩) (by assumption) ?_
  simp only [Act.put, List.setIfInBounds_toArray, List.set_cons_zero, List.set_cons_succ, List.getElem_toArray, List.getElem_cons_succ, List.getElem_cons_zero]
  refine wpAnyH_take (i := 4) (v := (.int .i64 rd)) rfl (by kernel_rfl) (by kernel_rfl) (by kernel_rfl) (fun _ _ _ h => h) (Or.inl ⟨by rfl, fun ww hSw => by (try dsimp only at hSw); go_simp⟩) (by assumption) ?_
  simp only [Act.put, List.setIfInBounds_toArray, List.set_cons_zero, List.set_cons_succ, List.getElem_toArray, List.getElem_cons_succ, List.getElem_cons_zero]
  refine wpAnyH_take (i := 6) (v := (.agg #[.int .i64 28, .int .i64 rd, .int .i64 rd, .int .i64 0, .int .i64 (12 + (s : Int)), .int .i64 0])) rfl (by kernel_rfl) (by kernel_rfl) (by kernel_rfl) (fun _ _ _ h => h) (Or.inl ⟨by rfl, fun ww hSw => by (try dsimp only at hSw); obtain ⟨q0, q1, q2, q3, q4, q5⟩ := hSw; go_simp⟩) (by assumption) ?_
  simp only [Act.put, List.setIfInBounds_toArray, List.set_cons_zero, List.set_cons_succ, List.getElem_toArray, List.getElem_cons_succ, List.getElem_cons_zero]
  refine wpAnyH_take (i := 9) (v := (.int .i64 rd)) rfl (by kernel_rfl) (by kernel_rfl) (by kernel_rfl) (fun _ _ _ h => h) (Or.inl ⟨by rfl, fun ww hSw => by (try dsimp only at hSw); go_simp⟩) (by assumption) ?_
  simp only [Act.put, List.setIfInBounds_toArray, List.set_cons_zero, List.set_cons_succ, List.getElem_toArray, List.getElem_cons_succ, List.getElem_cons_zero]
  refine wpAnyH_take (i := 10) (v := (.int .i64 l)) rfl (by kernel_rfl) (by kernel_rfl) (by kernel_rfl) (fun _ _ _ h => h) (Or.inl ⟨by rfl, fun ww hSw => by (try dsimp only at hSw); go_simp⟩) (by assumption) ?_
  simp only [Act.put, List.setIfInBounds_toArray, List.set_cons_zero, List.set_cons_succ, List.getElem_toArray, List.getElem_cons_succ, List.getElem_cons_zero]
  obtain ⟨i3, z3, hi3, hz3, hs3, hb3, hzs3⟩ := insn_info
  have HI : Hid (Tryd.prog.info? 29 = some i3 ∧ i3.zero = some z3 ∧ i3.size = 6 ∧ i3.bytes = 48 ∧ z3.cells.size = 6) := ⟨hi3, hz3, hs3, hb3, hzs3⟩
  clear hi3 hz3 hs3 hb3 hzs3
  refine wpAnyH_ready (rs := [5, 7]) (by kernel_rfl) (by simp) ?_
  refine AllReadyH.cons rfl (fun K hK => ?_) (AllReadyH.cons rfl (fun K hK => ?_) AllReadyH.nil)
  · go_simp
    go_at_call 4
    refine (IH W1 HT0.out (by omega)).mono ?_
    rintro e W5 ⟨p5, c5, rfl, o5, k5⟩
    have s5 := s6_keep HS0 k5 (by omega)
    have HM := (midA (x := (12 + (s : Int))) HB0.out zd HS0 o5 k5 : Hid _)
    clear o5 k5
    refine hK.out _ _ s5 (fun hHeld => ?_)
    clear hK K
    try simp only [Act.put, List.setIfInBounds_toArray, List.set_cons_zero, List.set_cons_succ, List.getElem_toArray, List.getElem_cons_succ, List.getElem_cons_zero]
    refine wpAnyH_ready (rs := [7]) (by kernel_rfl) (by simp) ?_
    refine AllReadyH.cons rfl (fun K hK => ?_) AllReadyH.nil
    go_simp
    refine hK.out _ _ HM.s6 (fun hHeld => ?_)
    clear hK K
    try simp only [Act.put, List.setIfInBounds_toArray, List.set_cons_zero, List.set_cons_succ, List.getElem_toArray, List.getElem_cons_succ, List.getElem_cons_zero]
    refine wpAnyH_ready (rs := [8]) (by kernel_rfl) (by simp) ?_
    refine AllReadyH.cons rfl (fun K hK => ?_) AllReadyH.nil
    refine step_append_at rfl (.tmp 62) (.tmp 64) 23 rfl (B + 1) 29 i3 z3 6 48 Tryd.underlying23 HI.out.1 HI.out.2.1 HI.out.2.2.1 HI.out.2.2.2.1 HI.out.2.2.2.2 (by decide) (.slice p5 L.length c5) L.length (cs rd L) (by simp [Act.eval, Act.put]) HM.own ⟨W5.heap.size, 0, .none⟩ 1 1 (ins 28 rd rd (12 + (s : Int))) (by simp [Act.eval, Act.put]) rfl HM.news (ins_one _ _ _ _) (by simp only [maxLen]; omega) (by omega) HM.sz ?_
    intro v7 W7 own7 grow7
    obtain ⟨p7, c7, rfl⟩ := one_slice own7
    obtain ⟨s7, b7, z7⟩ := mid_app HM grow7
    have H7 : Hid (W7.ownsRow (B + 1) 29 6 (.slice p7 (L.length + 1) c7) (L.length + 1) (cs rd L ++ ins 28 rd rd (12 + (s : Int))) ∧ Below B w2 W7) := ⟨own7, b7⟩
    clear own7 grow7 b7
    refine hK.out _ _ s7 (fun hHeld => ?_)
    clear hK K
    try simp only [Act.put, List.setIfInBounds_toArray, List.set_cons_zero, List.set_cons_succ, List.getElem_toArray, List.getElem_cons_succ, List.getElem_cons_zero]
    refine wpAnyH_ready (rs := [11]) (by kernel_rfl) (by simp) ?_
    refine AllReadyH.cons rfl (fun K hK => ?_) AllReadyH.nil
    go_simp
    go_at_call 8
    refine (addLow_any p7 (L.length + 1) c7 (B + 1) (cs rd L ++ ins 28 rd rd (12 + (s : Int))) 22 rd l W7 (by omega) z7 H7.out.1).mono ?_
    rintro e W8 ⟨p8, c8, rfl, k1, k2⟩
    have s8 := s6_keep s7 k2 (by omega)
    have H8 : Hid (W8.ownsRow (B + 1) 29 6 (.slice p8 (L.length + 1 + (lowI 22 rd l).length) c8) (L.length + 1 + (lowI 22 rd l).length) (cs rd L ++ ins 28 rd rd (12 + (s : Int)) ++ cs rd (lowI 22 rd l)) ∧ Below B w2 W8) := ⟨k1, H7.out.2.trans (k2.mono (by omega))⟩
    clear k1 k2
    refine hK.out _ _ s8 (fun hHeld => ?_)
    clear hK K
    try simp only [Act.put, List.setIfInBounds_toArray, List.set_cons_zero, List.set_cons_succ, List.getElem_toArray, List.getElem_cons_succ, List.getElem_cons_zero]
    refine wpAnyH_take (i := 12) (v := (.slice p8 (L.length + 1 + (lowI 22 rd l).length) c8)) rfl (by kernel_rfl) (by kernel_rfl) (by kernel_rfl) (fun _ _ _ h => h) (Or.inl ⟨by rfl, fun ww hSw => by (try dsimp only at hSw); go_simp⟩) (by assumption) ?_
    simp only [Act.put, List.setIfInBounds_toArray, List.set_cons_zero, List.set_cons_succ, List.getElem_toArray, List.getElem_cons_succ, List.getElem_cons_zero]
    refine wpAnyH_done (by kernel_rfl) ?_ _
    go_wp2
    go_ret
    exact fin_big H8.out.1 H8.out.2 hBB
  · go_simp
    have s5 := s6_alloc HS0 (.cells #[.int .i64 28, .int .i64 rd, .int .i64 rd, .int .i64 0, .int .i64 (12 + (s : Int)), .int .i64 0] 29) (by omega)
    refine hK.out _ _ s5 (fun hHeld => ?_)
    clear hK K
    try simp only [Act.put, List.setIfInBounds_toArray, List.set_cons_zero, List.set_cons_succ, List.getElem_toArray, List.getElem_cons_succ, List.getElem_cons_zero]
    refine wpAnyH_ready (rs := [5]) (by kernel_rfl) (by simp) ?_
    refine AllReadyH.cons rfl (fun K hK => ?_) AllReadyH.nil
    go_simp
    go_at_call 4
    refine (IH _ (laid_keep HT0.out ((Below.refl _ W1).alloc (Nat.le_refl _) _) (by omega)) (by simp only [World.size_alloc]; omega)).mono ?_
    rintro e W5 ⟨p5, c5, rfl, o5, k5⟩
    have HM := (midB (x := (12 + (s : Int))) HB0.out zd HS0 o5 k5 : Hid _)
    clear o5 k5
    refine hK.out _ _ HM.s6 (fun hHeld => ?_)
    clear hK K
    try simp only [Act.put, List.setIfInBounds_toArray, List.set_cons_zero, List.set_cons_succ, List.getElem_toArray, List.getElem_cons_succ, List.getElem_cons_zero]
    refine wpAnyH_ready (rs := [8]) (by kernel_rfl) (by simp) ?_
    refine AllReadyH.cons rfl (fun K hK => ?_) AllReadyH.nil
    refine step_append_at rfl (.tmp 62) (.tmp 64) 23 rfl (B + 1) 29 i3 z3 6 48 Tryd.underlying23 HI.out.1 HI.out.2.1 HI.out.2.2.1 HI.out.2.2.2.1 HI.out.2.2.2.2 (by decide) (.slice p5 L.length c5) L.length (cs rd L) (by simp [Act.eval, Act.put]) HM.own ⟨W1.heap.size, 0, .none⟩ 1 1 (ins 28 rd rd (12 + (s : Int))) (by simp [Act.eval, Act.put]) rfl HM.news (ins_one _ _ _ _) (by simp only [maxLen]; omega) (by omega) HM.sz ?_
    intro v7 W7 own7 grow7
    obtain ⟨p7, c7, rfl⟩ := one_slice own7
    obtain ⟨s7, b7, z7⟩ := mid_app HM grow7
    have H7 : Hid (W7.ownsRow (B + 1) 29 6 (.slice p7 (L.length + 1) c7) (L.length + 1) (cs rd L ++ ins 28 rd rd (12 + (s : Int))) ∧ Below B w2 W7) := ⟨own7, b7⟩
    clear own7 grow7 b7
    refine hK.out _ _ s7 (fun hHeld => ?_)
    clear hK K
    try simp only [Act.put, List.setIfInBounds_toArray, List.set_cons_zero, List.set_cons_succ, List.getElem_toArray, List.getElem_cons_succ, List.getElem_cons_zero]
    refine wpAnyH_ready (rs := [11]) (by kernel_rfl) (by simp) ?_
    refine AllReadyH.cons rfl (fun K hK => ?_) AllReadyH.nil
    go_simp
    go_at_call 8
    refine (addLow_any p7 (L.length + 1) c7 (B + 1) (cs rd L ++ ins 28 rd rd (12 + (s : Int))) 22 rd l W7 (by omega) z7 H7.out.1).mono ?_
    rintro e W8 ⟨p8, c8, rfl, k1, k2⟩
    have s8 := s6_keep s7 k2 (by omega)
    have H8 : Hid (W8.ownsRow (B + 1) 29 6 (.slice p8 (L.length + 1 + (lowI 22 rd l).length) c8) (L.length + 1 + (lowI 22 rd l).length) (cs rd L ++ ins 28 rd rd (12 + (s : Int)) ++ cs rd (lowI 22 rd l)) ∧ Below B w2 W8) := ⟨k1, H7.out.2.trans (k2.mono (by omega))⟩
    clear k1 k2
    refine hK.out _ _ s8 (fun hHeld => ?_)
    clear hK K
    try simp only [Act.put, List.setIfInBounds_toArray, List.set_cons_zero, List.set_cons_succ, List.getElem_toArray, List.getElem_cons_succ, List.getElem_cons_zero]
    refine wpAnyH_take (i := 12) (v := (.slice p8 (L.length + 1 + (lowI 22 rd l).length) c8)) rfl (by kernel_rfl) (by kernel_rfl) (by kernel_rfl) (fun _ _ _ h => h) (Or.inl ⟨by rfl, fun ww hSw => by (try dsimp only at hSw); go_simp⟩) (by assumption) ?_
    simp only [Act.put, List.setIfInBounds_toArray, List.set_cons_zero, List.set_cons_succ, List.getElem_toArray, List.getElem_cons_succ, List.getElem_cons_zero]
    refine wpAnyH_done (by kernel_rfl) ?_ _
    go_wp2
    go_ret
    exact fin_big H8.out.1 H8.out.2 hBB
end Go.Proofs.YtdkidhipiglbkaaDoor
