import Derived.Test.YtockhlboeaignaaDoorSr
import Derived.Test.YtockhlboeaignaaDoorRg
import Derived.Test.YtockhlboeaignaaDoorLeB
import Derived.Maps.AppendAt
import Derived.Deep.RegionHeld3
namespace Go.Proofs.YtockhlboeaignaaDoor
open Go.RowKit Go.Shelf
attribute [local go_sem] Oper.semAt_some
set_option linter.unusedVariables false
set_option linter.unusedSimpArgs false
set_option maxRecDepth 10000
theorem step_append_at {P : Program} {ops : Array Oper} {o : Oper} {a : Act} {w : World} {K : Act → World → Prop} {Q : Exit → Act → World → Prop} {E : Prop} (hgd : o.guard = none) (s x : Operand) (t : TypeId)
    (hop : o.op = .call { callee := .builtin .append, args := #[s, x], argTypes := #[t, t] }) (base : Nat) (e : TypeId) (i : TypeInfo) (z : Value) (size bytes : Nat) (ht : P.underlying t = some (.slice e)) (hi : P.info? e = some i) (hz : i.zero = some z)
    (hsize : i.size = size) (hby : i.bytes = bytes) (hzs : z.cells.size = size) (hsz : 0 < size) (v : Value) (k : Nat) (xs : List Value) (hs : a.eval s = v) (hown : w.ownsRow base e size v k xs)
    (ad : Addr) (m c : Nat) (news : List Value) (hx : a.eval x = .slice (some ad) m c) (hl : news.length = m * size) (hnews : ∀ j u, news[j]? = some u → w.cell? (ad.add j) = some u) (h1 : ∀ u ∈ news, u.oneCell' = true)
    (h63 : k + m ≤ maxLen) (hbytes : (k + m) * bytes ≤ 140737488355328) (hbase : base ≤ w.heap.size)
    (h : ∀ v' w', w'.ownsRow base e size v' (k + m) (xs ++ news) → w.grownBy w' v.ownBlock → (v'.ownBlock = v.ownBlock ∨ v'.ownBlock = some w.heap.size) → K (a.put o.dst v') w') : if Region.wanted o (yielded ops a.tmps) = true then Oper.wp P o a w K Q else E := by
  have hw : Region.wanted o (yielded ops a.tmps) = true := by simp [Region.wanted, hgd]
  rw [if_pos hw]
  obtain ⟨v', w', hrun, r1, r2, _, r4⟩ := run_append_own_at (P := P) w base t o.type e i z size bytes ht hi hz hsize hby hzs hsz v k xs hown ad m c news hl hnews h1 h63 hbytes hbase
  unfold Oper.wp
  simp [execOp, hop, resolve, invoke, builtin, hs, hx, hrun, Result.andThen]
  exact h v' w' r1 r2 r4
def sv (x : Bs) : Value := .string ⟨x.toArray⟩
theorem sv_one (x : Bs) : ∀ u ∈ [sv x], u.oneCell' = true := by intro u hu; simp at hu; subst hu; rfl
theorem str_info : ∃ i z, Tryd.prog.info? 9 = some i ∧ i.zero = some z ∧ i.size = 1 ∧ i.bytes = 16 ∧ z.cells.size = 1 := by
  have h : (Tryd.prog.info? 9).map (fun i => (i.size, i.bytes, i.zero.map (·.cells.size))) = some (1, 16, some 1) := by kernel_rfl
  cases hi : Tryd.prog.info? 9 with
  | none => rw [hi] at h; cases h
  | some i =>
    rw [hi] at h
    simp only [Option.map_some, Option.some.injEq, Prod.mk.injEq] at h
    obtain ⟨h1, h2, h3⟩ := h
    cases hz : i.zero with
    | none => rw [hz] at h3; cases h3
    | some z => rw [hz] at h3; exact ⟨i, z, rfl, hz, h1, h2, by simpa using h3⟩
/-- What a call of Split comes to. -/
def SplP (l : Bs) (w : World) (e : Ending) (w' : World) : Prop :=
  Below w.heap.size w w' ∧ ((bad l ∧ e = .returned (.tuple #[.slice .none 0 0, .bool false])) ∨ (¬ bad l ∧ ∃ q c, e = .returned (.tuple #[.slice q (names l).length c, .bool true]) ∧ w'.ownsRow w.heap.size 9 1 (.slice q (names l).length c) (names l).length ((names l).map sv)))
theorem bs_eta (s : ByteArray) : s = ⟨s.data.toList.toArray⟩ := by cases s; simp
theorem below_past (w : World) (o : Obj) : Below w.heap.size w (w.alloc o) := (Below.refl w.heap.size w).alloc (Nat.le_refl _) o
/-- What the loop holds. -/
def SI (w : World) (B n1 : Nat) (pre : List Bs) (W : World) : Prop :=
  (∃ v, Boxed W B 25 v ∧ W.ownsRow n1 9 1 v (nms pre).length ((nms pre).map sv) ∧ True) ∧ Below B w W ∧ n1 ≤ W.heap.size
theorem SI.own (w : World) (B n1 : Nat) (hB : B ≤ w.heap.size) (hn : B ≤ n1) : OwnFrom n1 (SI w B n1) := by
  refine OwnFrom.and (Own.from (holdsRow_own n1 B 25 9 1 (fun pre => (nms pre).length) (fun pre => (nms pre).map sv) (fun _ _ => True)) _) (OwnFrom.and (ownFrom_below hB hn) ?_)
  intro s A B' row hs hg hr
  exact Nat.le_trans hs hg.size
theorem SI.turn {w : World} {B n1 b : Nat} {pre : List Bs} {W : World} (h : SI w B n1 pre W) (h1 : B < b) (h2 : b < n1) (s : ByteArray) : SI w B n1 pre (W.setCell ⟨b, 0, .none⟩ (.string s)) := by
  obtain ⟨⟨v, hv, hr, _⟩, hb, hs⟩ := h
  refine ⟨⟨v, hv.other (by omega) _, ?_, trivial⟩, hb.setCell (p := ⟨b, 0, .none⟩) (by show B ≤ b; omega) _, by rw [World.size_setCell]; exact hs⟩
  refine hr.kept (grownBy_setCell' W b _) ?_
  rcases hr.2 with ⟨rfl, _⟩ | ⟨g, cap, cur, rfl, hg, _⟩
  · exact .inl rfl
  · refine .inr fun e => ?_
    have : g = b := by simpa [Value.ownBlock] using e
    omega
/-- An append to the row that a box holds, and the store behind it. -/
theorem app_step {A w1 : World} {B n1 k m : Nat} {t e : TypeId} {v v' : Value} {xs ys : List Value} (hv : Boxed A B t v) (hte : t ≠ e) (hr : A.ownsRow n1 e 1 v k xs) (hn : n1 ≤ A.heap.size) (hB : B < n1) (hown : w1.ownsRow n1 e 1 v' m ys) (hg : A.grownBy w1 v.ownBlock) :
    Boxed w1 B t v ∧ Boxed (w1.setCell ⟨B, 0, .none⟩ v') B t v' ∧ (w1.setCell ⟨B, 0, .none⟩ v').ownsRow n1 e 1 v' m ys ∧ KeepsOthers A (w1.setCell ⟨B, 0, .none⟩ v') ∧ (∀ k, B < k → k < n1 → (w1.setCell ⟨B, 0, .none⟩ v').heap[k]? = A.heap[k]?) ∧ Below B A (w1.setCell ⟨B, 0, .none⟩ v') := by
  have hv1 : Boxed w1 B t v := hv.kept hg (hv.not_row hte hr)
  have hrow : ∀ j, v.ownBlock = some j → n1 ≤ j ∧ ∃ o : Obj, A.heap[j]? = some o ∧ o.isCells = true := fun j hj => by
    rcases hr.2 with ⟨rfl, _⟩ | ⟨g, cap, cur, rfl, hb, hgb, _⟩
    · cases hj
    · cases hj; exact ⟨hb, _, hgb, rfl⟩
  refine ⟨hv1, hv1.set v', hown.kept (grownBy_setCell' w1 B v') (.inr (hv1.not_row hte hown).symm), ?_, ?_, ?_⟩
  · exact (KeepsOthers.of_grownBy hg fun j o ej hj => by obtain ⟨_, o', h1, h2⟩ := hrow j ej; rw [h1] at hj; cases hj; exact h2).trans (KeepsOthers.setCell _ _ _)
  · intro k h1 h2
    exact (heap_set _ _ _ _ (by omega)).trans (hg.block k (by omega) (fun e => by have := (hrow k e.symm).1; omega))
  · exact ((Below.refl B A).grown hg (by omega) (fun k e => by have := (hrow k e).1; omega)).setCell (p := ⟨B, 0, .none⟩) (Nat.le_refl _) _
theorem step_fin {w W w1 Y : World} {pre : List Bs} {x : Bs} {v' : Value} {o : Obj} (hx : x ≠ []) (hb : Below w.heap.size w W) (hn : w.heap.size + 4 ≤ W.heap.size) (hY4 : w.heap.size + 4 ≤ Y.heap.size)
    (hv2 : Boxed w1 w.heap.size 25 v') (hr2 : w1.ownsRow (w.heap.size + 4) 9 1 v' ((nms pre).length + 1) ((nms pre).map sv ++ [sv (x.take 14)])) (hk2 : KeepsOthers (W.alloc o).drew w1) (hq2 : ∀ k, w.heap.size < k → k < w.heap.size + 4 → w1.heap[k]? = (W.alloc o).drew.heap[k]?) (hb2 : Below w.heap.size (W.alloc o).drew w1) :
    Exit.normal = Exit.normal ∧ KeepsFrom Y.heap.size W w1 ∧ KpB (w.heap.size + 1) W w1 ∧ SI w w.heap.size (w.heap.size + 4) (pre ++ [x]) w1 := by
  refine ⟨rfl, (((KeepsOthers.alloc W _).trans (KeepsOthers.drew _)).trans hk2).from _, fun k h1 h2 => (hq2 k (by omega) (by omega)).trans (show (W.alloc _).heap[k]? = _ from Below.heap_alloc _ _ _ (by omega)), ⟨_, hv2, ?_, trivial⟩, ?_, ?_⟩
  · rw [nms_app, nms_one hx, List.length_append, List.map_append]; exact hr2
  · exact (hb.trans (((Below.refl _ W).alloc (by omega) _).drew)).trans hb2
  · have h1 := hk2.size
    have h2 : (W.alloc o).drew.heap.size = W.heap.size + 1 := by show (W.alloc o).heap.size = _; simp
    omega
theorem rebase {W : World} {a b : Nat} {e : TypeId} {v : Value} {k : Nat} {xs : List Value} (h : W.ownsRow a e 1 v k xs) (hab : b ≤ a) : W.ownsRow b e 1 v k xs := by
  refine ⟨h.1, ?_⟩
  rcases h.2 with h | ⟨g, cap, cur, hv, hb, hr⟩
  · exact .inl h
  · exact .inr ⟨g, cap, cur, hv, Nat.le_trans hab hb, hr⟩
set_option maxHeartbeats 2000000 in
theorem split_good (l : Bs) (w : World) (h1 : l.length < 128) (h2 : ∀ k : Nat, l[k]? ≠ some 0) : Calls Tryd.prog 4 #[.string ⟨l.toArray⟩] w (SplP l w) := by
  have hz : ix l 0 = -1 := ix_not h2
  have hsz : (⟨l.toArray⟩ : ByteArray).size = l.length := by simp [ByteArray.size]
  have c15 := indexByte_any ⟨l.toArray⟩ 0 w
  have hix : ix (⟨l.toArray⟩ : ByteArray).data.toList (0 : Int).toNat.toUInt8 = -1 := by simpa using hz
  rw [hix] at c15
  have HG : Hid (l.length < 128 ∧ ¬ bad l) := ⟨h1, fun e => by
    rcases e with e | ⟨k, e⟩
    · omega
    · exact h2 k e⟩
  have i1 : ¬ ((128 : Int) ≤ l.length) := by omega
  clear hz h2 hix
  refine (callsIn_wide (n := 3)).1 ?_
  refine callsIn_of_wp_marks Tryd.func4 rfl trivial ?_ rfl
  simp only [Tryd.ntmps4, List.size_toArray, List.length_cons, List.length_nil, Nat.reduceAdd, Nat.reduceSub, Array.replicate_succ, Array.replicate_zero, List.push_toArray, List.append_toArray, List.nil_append, List.cons_append]
  have c16 := splits_any ⟨l.toArray⟩ ⟨#[47]⟩ (w.alloc (.cells #[.slice .none 0 0] 25))
  gi_wp2_with (first | ((first | refine ⟨trivial, fun h => (by cases h), ?_⟩ | refine ⟨trivial, ?_⟩); gi_at_call 15; refine (callsIn_wide.2 c15).mono ?_; rintro _ X ⟨rfl, hX⟩; obtain rfl : w = X := hX.symm) | ((first | refine ⟨trivial, fun h => (by cases h), ?_⟩ | refine ⟨trivial, ?_⟩); gi_at_call 16; refine (callsIn_wide.2 c16).mono ?_; rintro _ _ ⟨rfl, rfl⟩))
  have b0 : Boxed ((((w.alloc (.cells #[.slice .none 0 0] 25)).alloc (.cells #[.string ⟨l.toArray⟩] 9)).alloc (.cells #[.string ⟨#[47]⟩] 9)).alloc (.cells #[.int .i64 0] 3)) w.heap.size 25 (.slice .none 0 0) := (((Boxed.new w 25 _).alloc _).alloc _).alloc _
  have hbx : Bxs (w.heap.size + 1) l ((((w.alloc (.cells #[.slice .none 0 0] 25)).alloc (.cells #[.string ⟨l.toArray⟩] 9)).alloc (.cells #[.string ⟨#[47]⟩] 9)).alloc (.cells #[.int .i64 0] 3)) := by
    refine ⟨?_, ?_, ?_, ?_⟩
    · rw [World.cell?_alloc_past _ _ _ (by simp only [World.size_alloc]; omega), World.cell?_alloc_past _ _ _ (by simp only [World.size_alloc]; omega), World.cell?_alloc_at _ _ _ _ (by simp)]; rfl
    · rw [World.cell?_alloc_past _ _ _ (by simp only [World.size_alloc]; omega), World.cell?_alloc_at _ _ _ _ (by simp)]; rfl
    · rw [World.cell?_alloc_at _ _ _ _ (by simp)]; rfl
    · rw [World.frozen?_alloc_past _ _ _ (by simp only [World.size_alloc]; omega), World.frozen?_alloc_past _ _ _ (by simp only [World.size_alloc]; omega), World.frozen?_alloc_at _ _ _ _ (by simp)]
  have sY : ((((w.alloc (.cells #[.slice .none 0 0] 25)).alloc (.cells #[.string ⟨l.toArray⟩] 9)).alloc (.cells #[.string ⟨#[47]⟩] 9)).alloc (.cells #[.int .i64 0] 3)).heap.size = w.heap.size + 4 := by simp
  have bY : Below w.heap.size w ((((w.alloc (.cells #[.slice .none 0 0] 25)).alloc (.cells #[.string ⟨l.toArray⟩] 9)).alloc (.cells #[.string ⟨#[47]⟩] 9)).alloc (.cells #[.int .i64 0] 3)) := (((below_past w _).alloc (by simp) _).alloc (by simp; omega) _).alloc (by simp; omega) _
  have HS0 : Hid (SI w w.heap.size (w.heap.size + 4) [] ((((w.alloc (.cells #[.slice .none 0 0] 25)).alloc (.cells #[.string ⟨l.toArray⟩] 9)).alloc (.cells #[.string ⟨#[47]⟩] 9)).alloc (.cells #[.int .i64 0] 3))) := ⟨⟨_, b0, World.ownsRow_nil _ _ _ _, trivial⟩, bY, by omega⟩
  generalize ((((w.alloc (.cells #[.slice .none 0 0] 25)).alloc (.cells #[.string ⟨l.toArray⟩] 9)).alloc (.cells #[.string ⟨#[47]⟩] 9)).alloc (.cells #[.int .i64 0] 3)) = Y at *
  clear c15 c16 b0 bY hsz
  obtain ⟨i9, z9, hi9, hz9, hs9, hb9, hzs9⟩ := str_info
  have HI : Hid (Tryd.prog.info? 9 = some i9 ∧ i9.zero = some z9 ∧ i9.size = 1 ∧ i9.bytes = 16 ∧ z9.cells.size = 1) := ⟨hi9, hz9, hs9, hb9, hzs9⟩
  clear hi9 hz9 hs9 hb9 hzs9
  have HO : Hid (OwnFrom Y.heap.size (SI w w.heap.size (w.heap.size + 4))) := by rw [sY]; exact SI.own w _ _ (Nat.le_refl _) (by omega)
  have hY4 : w.heap.size + 4 ≤ Y.heap.size := by omega
  clear sY
  refine range_turns (α := Bs) rfl (by omega) (gf := 26) (lb := #[.pointer (some ⟨w.heap.size + 1 + 1, 0, .none⟩), .pointer (some ⟨w.heap.size + 1, 0, .none⟩), .pointer (some ⟨w.heap.size + 1 + 1 + 1, 0, .none⟩)]) rfl trivial (enters_of Tryd.func26 (by kernel_rfl) rfl) (b := w.heap.size + 1) (by omega)
    (seq_turns (w.heap.size + 1) 2 l Y hbx (by have := HG.out.1; omega)) (fun h k i h1 h2 => (k i h1 h2).trans (h i h1 h2)) (fun W l' o' hl k h1 h2 => World.putObj_heap_other (by omega)) (fun _ => rfl)
    (SI w w.heap.size (w.heap.size + 4)) HO.out (fun pre W s h => h.turn (by omega) (by omega) s) HS0.out ?aa ?assign ?body ?done
  case assign =>
    intro l' x' W K hK
    gi_wp2
    exact hK
  case body =>
    rintro l' pre x W ⟨⟨v, hv, hr, _⟩, hb, hn⟩ hlt
    have hpl : pre.length < 128 := by have := pcs_len l; have := HG.out.1; omega
    have hnl : (nms pre).length < 128 := by have := nms_len pre; omega
    by_cases hx : x = []
    · subst hx
      gi_wp2
      refine ⟨KeepsFrom.refl _ _, fun k _ _ => rfl, ⟨v, hv, ?_, trivial⟩, hb, hn⟩
      rw [nms_app, nms_nil, List.append_nil]
      exact hr
    · have hx1 : List.isEmpty x = false := by simpa using hx
      have HR : Hid (W.ownsRow (w.heap.size + 4) 9 1 v (nms pre).length ((nms pre).map sv) ∧ Boxed W w.heap.size 25 v ∧ Below w.heap.size w W ∧ w.heap.size + 4 ≤ W.heap.size ∧ (nms pre).length < 128) := ⟨hr, hv, hb, hn, hnl⟩
      have hk := hv.cell
      have hxz : (⟨x.toArray⟩ : ByteArray).size = x.length := by simp [ByteArray.size]
      obtain ⟨m, hm, hm1, hm2⟩ : ∃ m : Nat, (if 14 < (x.length : Int) then (14 : Int) else (x.length : Int)) = m ∧ m ≤ x.length ∧ x.take m = x.take 14 := ⟨min x.length 14, by split <;> omega, by omega, by rw [← List.take_take]; rw [List.take_of_length_le (List.length_take_le' _ _)]⟩
      have m1 : (m : Int) ≤ x.length := by omega
      have hcut : ∀ n : Nat, (⟨x.toArray⟩ : ByteArray).extract 0 n = ⟨(x.take n).toArray⟩ := ext_take x
      have hw0 : w.heap.size < W.heap.size := by omega
      clear hr hb hn hnl hpl hlt
      gi_wp2
      refine wpIn_region_held (S := fun _ => True) (by kernel_rfl) (no_defer_of (by kernel_rfl)) (fun hL => by obtain ⟨_, _, hL⟩ := hL; exact nomatch (show Exit.outgrown = Exit.normal from hL.1)) trivial (fun hHeld => ?_)
      refine wpAnyH_take (i := 1) (v := .string ⟨x.toArray⟩) rfl (by kernel_rfl) (by kernel_rfl) (by kernel_rfl) (fun _ _ _ h => h) (Or.inl ⟨by rfl, fun ww hSw => by (try dsimp only at hSw); go_simp⟩) (by assumption) ?_
      simp only [Act.put, List.setIfInBounds_toArray, List.set_cons_zero, List.set_cons_succ, List.getElem_toArray, List.getElem_cons_succ, List.getElem_cons_zero]
      refine wpAnyH_take (i := 2) (v := .string ⟨x.toArray⟩) rfl (by kernel_rfl) (by kernel_rfl) (by kernel_rfl) (fun _ _ _ h => h) (Or.inl ⟨by rfl, fun ww hSw => by (try dsimp only at hSw); go_simp⟩) (by assumption) ?_
      simp only [Act.put, List.setIfInBounds_toArray, List.set_cons_zero, List.set_cons_succ, List.getElem_toArray, List.getElem_cons_succ, List.getElem_cons_zero]
      refine wpAnyH_take (i := 3) (v := .int .i64 (x.length : Int)) rfl (by kernel_rfl) (by kernel_rfl) (by kernel_rfl) (fun _ _ _ h => h) (Or.inl ⟨by rfl, fun ww hSw => by (try dsimp only at hSw); go_simp⟩) (by assumption) ?_
      simp only [Act.put, List.setIfInBounds_toArray, List.set_cons_zero, List.set_cons_succ, List.getElem_toArray, List.getElem_cons_succ, List.getElem_cons_zero]
      refine wpAnyH_take (i := 4) (v := .int .i64 (m : Int)) rfl (by kernel_rfl) (by kernel_rfl) (by kernel_rfl) (fun _ _ _ h => h) (Or.inl ⟨by rfl, fun ww hSw => by (try dsimp only at hSw); go_simp⟩) (by assumption) ?_
      simp only [Act.put, List.setIfInBounds_toArray, List.set_cons_zero, List.set_cons_succ, List.getElem_toArray, List.getElem_cons_succ, List.getElem_cons_zero]
      refine wpAnyH_take (i := 5) (v := .string ((⟨x.toArray⟩ : ByteArray).extract 0 m)) rfl (by kernel_rfl) (by kernel_rfl) (by kernel_rfl) (fun _ _ _ h => h) (Or.inl ⟨by rfl, fun ww hSw => by (try dsimp only at hSw); go_simp⟩) (by assumption) ?_
      simp only [Act.put, List.setIfInBounds_toArray, List.set_cons_zero, List.set_cons_succ, List.getElem_toArray, List.getElem_cons_succ, List.getElem_cons_zero]
      refine wpAnyH_ready (rs := [0, 6]) (by kernel_rfl) (by simp) ?_
      refine AllReadyH.cons rfl (fun K hK => ?_) (AllReadyH.cons rfl (fun K hK => ?_) AllReadyH.nil)
      · go_simp
        refine hK.out _ _ trivial (fun hHeld => ?_)
        clear hK K
        try simp only [Act.put, List.setIfInBounds_toArray, List.set_cons_zero, List.set_cons_succ, List.getElem_toArray, List.getElem_cons_succ, List.getElem_cons_zero]
        refine wpAnyH_ready (rs := [6]) (by kernel_rfl) (by simp) ?_
        refine AllReadyH.cons rfl (fun K hK => ?_) AllReadyH.nil
        go_simp
        refine hK.out _ _ trivial (fun hHeld => ?_)
        clear hK K
        try simp only [Act.put, List.setIfInBounds_toArray, List.set_cons_zero, List.set_cons_succ, List.getElem_toArray, List.getElem_cons_succ, List.getElem_cons_zero]
        refine wpAnyH_ready (rs := [7]) (by kernel_rfl) (by simp) ?_
        refine AllReadyH.cons rfl (fun K hK => ?_) AllReadyH.nil
        refine step_append_at rfl (.tmp 19) (.tmp 25) 25 rfl (w.heap.size + 4) 9 i9 z9 1 16 Tryd.underlying25 HI.out.1 HI.out.2.1 HI.out.2.2.1 HI.out.2.2.2.1 HI.out.2.2.2.2 (by decide) v (nms pre).length ((nms pre).map sv) (by simp [Act.eval]) (HR.out.1.alloc _).drew ⟨W.heap.size, 0, .none⟩ 1 1 [sv (x.take 14)] (by simp [Act.eval]) rfl (fun j u hj => (World.cell?_drew _ _).trans (cell_one_new W _ 9 j u hj)) (sv_one _) (by have := HR.out.2.2.2.2; unfold maxLen; omega) (by have := HR.out.2.2.2.2; omega) (by show _ ≤ (World.alloc _ _).heap.size; rw [World.size_alloc]; have := HR.out.2.2.2.1; omega) ?_
        intro v' w1 hown hgrow hblk
        obtain ⟨g', cap', rfl⟩ := ownsRow_succ hown
        obtain ⟨hv1, hv2, hr2, hk2, hq2, hb2⟩ := app_step (A := (W.alloc (.cells #[.string ⟨(x.take 14).toArray⟩] 9)).drew) (HR.out.2.1.alloc _) (by decide) ((HR.out.1.alloc _).drew) (by show _ ≤ (World.alloc _ _).heap.size; rw [World.size_alloc]; have := HR.out.2.2.2.1; omega) (by omega) hown hgrow
        have hc1 := hv1.cell
        have hf1 := hv1.frozen
        clear hgrow hblk hown hv1
        refine hK.out _ _ trivial (fun hHeld => ?_)
        clear hK K
        try simp only [Act.put, List.setIfInBounds_toArray, List.set_cons_zero, List.set_cons_succ, List.getElem_toArray, List.getElem_cons_succ, List.getElem_cons_zero]
        refine wpAnyH_ready (rs := [8]) (by kernel_rfl) (by simp) ?_
        refine AllReadyH.cons rfl (fun K hK => ?_) AllReadyH.nil
        go_simp
        refine hK.out _ _ trivial (fun hHeld => ?_)
        clear hK K
        try simp only [Act.put, List.setIfInBounds_toArray, List.set_cons_zero, List.set_cons_succ, List.getElem_toArray, List.getElem_cons_succ, List.getElem_cons_zero]
        refine wpAnyH_done (by kernel_rfl) ?_ _
        exact step_fin hx HR.out.2.2.1 HR.out.2.2.2.1 hY4 hv2 hr2 hk2 hq2 hb2
      · go_simp
        refine hK.out _ _ trivial (fun hHeld => ?_)
        clear hK K
        try simp only [Act.put, List.setIfInBounds_toArray, List.set_cons_zero, List.set_cons_succ, List.getElem_toArray, List.getElem_cons_succ, List.getElem_cons_zero]
        refine wpAnyH_ready (rs := [0]) (by kernel_rfl) (by simp) ?_
        refine AllReadyH.cons rfl (fun K hK => ?_) AllReadyH.nil
        go_simp
        refine hK.out _ _ trivial (fun hHeld => ?_)
        clear hK K
        try simp only [Act.put, List.setIfInBounds_toArray, List.set_cons_zero, List.set_cons_succ, List.getElem_toArray, List.getElem_cons_succ, List.getElem_cons_zero]
        refine wpAnyH_ready (rs := [7]) (by kernel_rfl) (by simp) ?_
        refine AllReadyH.cons rfl (fun K hK => ?_) AllReadyH.nil
        refine step_append_at rfl (.tmp 19) (.tmp 25) 25 rfl (w.heap.size + 4) 9 i9 z9 1 16 Tryd.underlying25 HI.out.1 HI.out.2.1 HI.out.2.2.1 HI.out.2.2.2.1 HI.out.2.2.2.2 (by decide) v (nms pre).length ((nms pre).map sv) (by simp [Act.eval]) (HR.out.1.alloc _).drew ⟨W.heap.size, 0, .none⟩ 1 1 [sv (x.take 14)] (by simp [Act.eval]) rfl (fun j u hj => (World.cell?_drew _ _).trans (cell_one_new W _ 9 j u hj)) (sv_one _) (by have := HR.out.2.2.2.2; unfold maxLen; omega) (by have := HR.out.2.2.2.2; omega) (by show _ ≤ (World.alloc _ _).heap.size; rw [World.size_alloc]; have := HR.out.2.2.2.1; omega) ?_
        intro v' w1 hown hgrow hblk
        obtain ⟨g', cap', rfl⟩ := ownsRow_succ hown
        obtain ⟨hv1, hv2, hr2, hk2, hq2, hb2⟩ := app_step (A := (W.alloc (.cells #[.string ⟨(x.take 14).toArray⟩] 9)).drew) (HR.out.2.1.alloc _) (by decide) ((HR.out.1.alloc _).drew) (by show _ ≤ (World.alloc _ _).heap.size; rw [World.size_alloc]; have := HR.out.2.2.2.1; omega) (by omega) hown hgrow
        have hc1 := hv1.cell
        have hf1 := hv1.frozen
        clear hgrow hblk hown hv1
        refine hK.out _ _ trivial (fun hHeld => ?_)
        clear hK K
        try simp only [Act.put, List.setIfInBounds_toArray, List.set_cons_zero, List.set_cons_succ, List.getElem_toArray, List.getElem_cons_succ, List.getElem_cons_zero]
        refine wpAnyH_ready (rs := [8]) (by kernel_rfl) (by simp) ?_
        refine AllReadyH.cons rfl (fun K hK => ?_) AllReadyH.nil
        go_simp
        refine hK.out _ _ trivial (fun hHeld => ?_)
        clear hK K
        try simp only [Act.put, List.setIfInBounds_toArray, List.set_cons_zero, List.set_cons_succ, List.getElem_toArray, List.getElem_cons_succ, List.getElem_cons_zero]
        refine wpAnyH_done (by kernel_rfl) ?_ _
        exact step_fin hx HR.out.2.2.1 HR.out.2.2.2.1 hY4 hv2 hr2 hk2 hq2 hb2
  case done =>
    rintro D xs W hD rfl ⟨⟨v, hv, hr, _⟩, hb, hn⟩ hK
    have hk := hv.cell
    obtain ⟨q, c, rfl⟩ : ∃ q c, v = .slice q (nms (pcs l)).length c := by
      rcases hr.2 with ⟨rfl, h0⟩ | ⟨g, cap, cur, rfl, _⟩
      · exact ⟨_, 0, by rw [h0]⟩
      · exact ⟨_, _, rfl⟩
    gi_wp2
    refine ⟨by simp, .inl ⟨_, _, rfl, run_takeDeferred hK, ?_⟩⟩
    have hbz := hb.trans (belowK_b (w := w) (Nat.le_refl _) W D _ (.deferred none) (by omega) hK rfl rfl)
    have hrz : (W.putObj D (.deferred none)).ownsRow (w.heap.size + 4) 9 1 (.slice q (nms (pcs l)).length c) (nms (pcs l)).length ((nms (pcs l)).map sv) := ownsRow_putObj hr _ hK rfl
    refine ⟨_, results_tmp2 rfl _ _ _, hbz, .inr ⟨HG.out.2, q, c, rfl, ?_⟩⟩
    exact rebase hrz (by omega)
theorem split_long (l : Bs) (w : World) (h1 : 128 ≤ l.length) : Calls Tryd.prog 4 #[.string ⟨l.toArray⟩] w (SplP l w) := by
  have hsz : (⟨l.toArray⟩ : ByteArray).size = l.length := by simp [ByteArray.size]
  have i1 : (128 : Int) ≤ l.length := by omega
  have HG : Hid (bad l) := .inl h1
  clear h1
  go_enter Tryd.func4, Tryd.ntmps4
  go_wp2
  go_ret2
  exact ⟨Below.refl _ _, .inl ⟨HG.out, rfl⟩⟩
theorem split_zero (l : Bs) (w : World) (h1 : l.length < 128) (h2 : ∃ k : Nat, l[k]? = some 0) : Calls Tryd.prog 4 #[.string ⟨l.toArray⟩] w (SplP l w) := by
  have hsz : (⟨l.toArray⟩ : ByteArray).size = l.length := by simp [ByteArray.size]
  have c15 := indexByte_any ⟨l.toArray⟩ 0 w
  obtain ⟨o, ho⟩ : ∃ o : Nat, ix l 0 = o := by
    rcases ix_cases l 0 with e | ⟨o, e, _⟩
    · obtain ⟨k, hk⟩ := h2
      exact absurd hk (Lib.indexByte_none e k)
    · exact ⟨o, e⟩
  have hix : ix (⟨l.toArray⟩ : ByteArray).data.toList (0 : Int).toNat.toUInt8 = o := by simpa using ho
  rw [hix] at c15
  have i1 : ¬ ((128 : Int) ≤ l.length) := by omega
  have i2 : (0 : Int) ≤ o := by omega
  have HG : Hid (bad l) := .inr h2
  clear h2 hix ho
  go_enter Tryd.func4, Tryd.ntmps4
  go_wp2_with (go_at_call 15; refine c15.mono ?_; rintro _ X ⟨rfl, hX⟩; obtain rfl : w = X := hX.symm)
  go_ret2
  exact ⟨Below.refl _ _, .inl ⟨HG.out, rfl⟩⟩
/-- tree.Split of any path. -/
theorem split_any (l : Bs) (w : World) : Calls Tryd.prog 4 #[.string ⟨l.toArray⟩] w (SplP l w) := by
  by_cases h1 : l.length < 128
  · by_cases h2 : ∃ k : Nat, l[k]? = some 0
    · exact split_zero l w h1 h2
    · exact split_good l w h1 (fun k e => h2 ⟨k, e⟩)
  · exact split_long l w (by omega)
end Go.Proofs.YtockhlboeaignaaDoor
