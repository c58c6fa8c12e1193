import Derived.Test.YthopgmmodldljaaAh
namespace Go.Proofs.Ythopgmmodldljaa
open Go Go.RowKit
set_option linter.unusedVariables false
set_option linter.unusedSimpArgs false
theorem worth_any (p : Pc) (np1 gp1 : Option Addr) (n nc1 g gc1 : Nat) (hn : n ≤ 1000000000) (hg : g ≤ 1000000000) (w : World) : Calls Try.prog 16 #[.agg (p.l (.slice np1 n nc1) (.slice gp1 g gc1)).toArray] w fun e w' => e = .returned (.int .i64 (1 + (g : Int) + n)) ∧ Below w.heap.size w w' := by
  have e1 : IntKind.i64.wrap (1 + (g : Int)) = 1 + (g : Int) := by rw [IntKind.wrap_i64]; omega
  have e2 : IntKind.i64.wrap (1 + (g : Int) + n) = 1 + (g : Int) + n := by rw [IntKind.wrap_i64]; omega
  go_enter Try.func16, Try.ntmps16
  go_wp2_with (first
    | (refine wpList_is (.box 55 (.tmp 0)) rfl ?_; refine wpList_boxG 55 (p.l (.slice np1 n nc1) (.slice gp1 g gc1)) 1 (.tmp 0) _ rfl rfl rfl rfl ?_; intro W1 hW1 hB1 hs1; have d1 := cell_heap (o := 45) hW1; have d2 := cell_heap (o := 44) hW1; rw [show (p.l (.slice np1 n nc1) (.slice gp1 g gc1)).toArray[45]? = some (.slice gp1 g gc1) from rfl] at d1; rw [show (p.l (.slice np1 n nc1) (.slice gp1 g gc1)).toArray[44]? = some (.slice np1 n nc1) from rfl] at d2)
    | fail)
  go_ret
  exact ⟨rfl, hB1⟩
theorem rworth_any (p : Pc) (np1 gp1 : Option Addr) (n nc1 g gc1 : Nat) (hn : n ≤ 1000000000) (hg : g ≤ 1000000000) (w : World) : Calls Try.prog 20 #[.agg (p.l (.slice np1 n nc1) (.slice gp1 g gc1)).toArray] w fun e w' => e = .returned (.int .i64 (1 + (g : Int) + n)) ∧ Below w.heap.size w w' := by
  have e1 : IntKind.i64.wrap (1 + (g : Int)) = 1 + (g : Int) := by rw [IntKind.wrap_i64]; omega
  have e2 : IntKind.i64.wrap (1 + (g : Int) + n) = 1 + (g : Int) + n := by rw [IntKind.wrap_i64]; omega
  go_enter Try.func20, Try.ntmps20
  go_wp2_with (first
    | (refine wpList_is (.box 55 (.tmp 0)) rfl ?_; refine wpList_boxG 55 (p.l (.slice np1 n nc1) (.slice gp1 g gc1)) 1 (.tmp 0) _ rfl rfl rfl rfl ?_; intro W1 hW1 hB1 hs1; have d1 := cell_heap (o := 45) hW1; have d2 := cell_heap (o := 44) hW1; rw [show (p.l (.slice np1 n nc1) (.slice gp1 g gc1)).toArray[45]? = some (.slice gp1 g gc1) from rfl] at d1; rw [show (p.l (.slice np1 n nc1) (.slice gp1 g gc1)).toArray[44]? = some (.slice np1 n nc1) from rfl] at d2)
    | fail)
  go_ret
  exact ⟨rfl, hB1⟩
/-- The frames of a process's pages that have these bits. -/
def rch (a : Int) (l : List Pg) : List Int := (l.filter fun g => bits .and .u64 g.pm a == a).map (·.fr)
theorem rch_app (a : Int) (l : List Pg) (g : Pg) : rch a (l ++ [g]) = if (bits .and .u64 g.pm a == a) = true then rch a l ++ [g.fr] else rch a l := by
  unfold rch
  rw [List.filter_append, List.map_append]
  split
  · rename_i h
    simp [h]
  · rename_i h
    simp [h]
def RcP (w : World) (l : List Int) (e : Ending) (w' : World) : Prop := ∃ u, e = .returned u ∧ w'.ownsRow w.heap.size 24 1 u l.length (l.map (.int .u64)) ∧ Below w.heap.size w w'
set_option maxRecDepth 100000 in
set_option maxHeartbeats 2000000 in
theorem reached_any {w : World} {X : Nat} (hX : X ≤ w.heap.size) (p : Pc) (nv : Value) (gp1 : Option Addr) (g gc1 : Nat) (hG : Gs w X (.slice gp1 g gc1) p.pages) (hg : g ≤ 1000000) (r a : Int) (ha : bits .or .u64 16 r = a) : Calls Try.prog 37 #[.agg (p.l nv (.slice gp1 g gc1)).toArray, .int .u64 r] w (RcP w (rch a p.pages)) := by
  have eg : g = p.pages.length := by obtain ⟨_, _, e⟩ := hG.form; injection e
  have HG : Hid (Gs w X (.slice gp1 g gc1) p.pages ∧ g = p.pages.length) := ⟨hG, eg⟩
  clear hG eg
  obtain ⟨i3, z3, hi3, hz3, hs3, hb3, hzs3⟩ := words_info
  obtain ⟨z, hz⟩ : ∃ z, z = w.heap.size := ⟨_, rfl⟩
  have HZ : Hid (z = w.heap.size) := hz
  go_enter Try.func37, Try.ntmps37
  go_wp2_with (first
    | (refine wpList_is (.box 55 (.tmp 0)) rfl ?_; refine wpList_boxG 55 (p.l nv (.slice gp1 g gc1)) 2 (.tmp 0) _ rfl rfl rfl rfl ?_; intro W1 hW1 hB1 hs1; rw [← hz] at hW1 hB1 hs1 ⊢; clear hz; have d1 := cell_heap (o := 45) hW1; rw [show (p.l nv (.slice gp1 g gc1)).toArray[45]? = some (.slice gp1 g gc1) from rfl] at d1)
    | fail)
  have HO : Hid (W1.ownsRow z 24 1 (.slice none 0 0) (rch a (p.pages.take 0)).length ((rch a (p.pages.take 0)).map (.int .u64)) ∧ Below z w W1) := ⟨World.ownsRow_nil _ _ _ _, hB1⟩
  clear hW1 hB1 hs1 d1
  go_loopw [5, 12] (fun v5 k wr => ∃ (i : Nat), i ≤ g ∧ k = .int .i64 i ∧ Hid (wr.ownsRow z 24 1 v5 (rch a (p.pages.take i)).length ((rch a (p.pages.take i)).map (.int .u64)) ∧ Below z w wr)) (fun _ v _ => (g - intOf v).toNat)
  case atStart => exact ⟨0, by omega, rfl, HO.out⟩
  case round =>
    clear HO
    obtain ⟨i, hi, rfl, HB⟩ := hrel
    by_cases hin : i < g
    · have i1 : (i : Int) < g := by omega
      obtain ⟨-, gb, go, xg, cs, rfl, hbX, hx, rfl, hcl, hr⟩ := HG.out.1.at hin
      have hr' := range_keep hr HB.out.2 (by have := HZ.out; omega : gb < z)
      have HX1 : Hid (∀ u ∈ xg.l, u.oneCell' = true) := by intro u hu; simp only [Pg.l, List.mem_cons, List.not_mem_nil, or_false] at hu; rcases hu with rfl | rfl | rfl <;> rfl
      have HE : Hid (p.pages.take (i + 1) = p.pages.take i ++ [xg]) := by show _ = _; rw [List.take_add_one, hx]; rfl
      have hlen : (rch a (p.pages.take i)).length ≤ 1000000 := by
        have h1 := List.length_filter_le (fun g : Pg => bits .and .u64 g.pm a == a) (p.pages.take i)
        rw [List.length_take] at h1
        unfold rch
        rw [List.length_map]
        omega
      obtain ⟨m, hm⟩ : ∃ m, m = (rch a (p.pages.take i)).length := ⟨_, rfl⟩
      have HM : Hid (m = (rch a (p.pages.take i)).length) := hm
      have HB' : Hid (wr.ownsRow z 24 1 u5 m ((rch a (p.pages.take i)).map (.int .u64)) ∧ Below z w wr) := by rw [hm]; exact HB.out
      rw [← hm] at hlen
      have hbase : z ≤ wr.heap.size := by have := HZ.out; have := HB.out.2.size; omega
      clear hr hcl hbX hx HB hm
      cases hb : (bits .and .u64 xg.pm a == a)
      · have hnn : ¬ bits .and .u64 xg.pm a = a := by simpa using hb
        go_wp2_with (first
          | (refine wpList_is (.load 81 (.tmp 14)) rfl ?_; refine wpList_loadG 81 3 24 info81 _ Try.underlying81 rfl xg.l rfl gb (go + i * 3) (.tmp 14) rfl rfl rfl hr' (some 15) rfl ?_)
          | (refine wpList_is (.alloc 81) rfl ?_; refine wpList_laidG 81 3 24 info81 xg.l rfl HX1.out 7 (.tmp 15) _ _ rfl rfl rfl rfl rfl rfl rfl rfl ?_; intro W1 hW1 hB1 hs1; have d2 := cell_heap (o := 2) hW1; rw [show xg.l.toArray[2]? = some (.int .u64 xg.pm) from rfl] at d2)
          | fail)
        refine ⟨⟨i + 1, by omega, by go_num, ?_, HB'.out.2.trans (hB1.mono hbase)⟩, by simp [intOf]; omega⟩
        rw [HE.out, rch_app, if_neg (by rw [hb]; simp), ← HM.out]
        exact own_bel HB'.out.1 hB1 (fun q hq => (HB'.out.1.lt q hq).2)
      · go_wp2_with (first
          | (refine wpList_is (.load 81 (.tmp 14)) rfl ?_; refine wpList_loadG 81 3 24 info81 _ Try.underlying81 rfl xg.l rfl gb (go + i * 3) (.tmp 14) rfl rfl rfl hr' (some 15) rfl ?_)
          | (refine wpList_is (.alloc 81) rfl ?_; refine wpList_laidG 81 3 24 info81 xg.l rfl HX1.out 7 (.tmp 15) _ _ rfl rfl rfl rfl rfl rfl rfl rfl ?_; intro W1 hW1 hB1 hs1; have d2 := cell_heap (o := 2) hW1; rw [show xg.l.toArray[2]? = some (.int .u64 xg.pm) from rfl] at d2; have d3 := cell_heap (o := 1) hW1; rw [show xg.l.toArray[1]? = some (.int .u64 xg.fr) from rfl] at d3)
          | (at_builtin; refine wpList_append_own _ rfl _ _ 34 rfl z 24 i3 z3 1 8 Try.underlying34 hi3 hz3 hs3 hb3 hzs3 (by decide) _ m ((rch a (p.pages.take i)).map (.int .u64)) rfl (World.ownsRow.alloc (own_bel HB'.out.1 hB1 (fun q hq => (HB'.out.1.lt q hq).2)) _) ⟨W1.heap.size, 0, .none⟩ 1 1 [.int .u64 xg.fr] (by rw [hs1]; rfl) rfl (cell_one_new _ _ _) (by simp [Value.oneCell']) (by unfold maxLen; omega) (by omega) (by simp only [World.size_alloc]; omega) ?_; intro v5 w5 hO5 hg5 _)
          | fail)
        have hBA : Below z w (W1.alloc (.cells #[.int .u64 xg.fr] 24)) := (HB'.out.2.trans (hB1.mono hbase)).alloc (by omega) _
        refine ⟨⟨i + 1, by omega, by go_num, ?_, hBA.grown hg5 (by simp; omega) (fun k hk => (HB'.out.1.lt k hk).1)⟩, by simp [intOf]; omega⟩
        rw [HE.out, rch_app, if_pos hb, List.length_append, ← HM.out, List.map_append]
        exact hO5
    · have i1 : ¬ (i : Int) < g := by omega
      obtain rfl : i = g := by omega
      have HQ : Hid (wr.ownsRow w.heap.size 24 1 u5 (rch a p.pages).length ((rch a p.pages).map (.int .u64)) ∧ Below w.heap.size w wr) := by
        have h1 := HB.out
        rw [List.take_of_length_le (by have := HG.out.2; omega), HZ.out] at h1
        exact h1
      clear HB
      go_wp2
      go_ret
      exact ⟨_, rfl, HQ.out⟩
/-- The slots of the processes whose parent is s, but s itself. -/
def kids (s : Int) (l : List Pc) : List Int := (l.filter fun p => p.c 3 == s && p.c 0 != s).map (·.c 0)
theorem kids_app (s : Int) (l : List Pc) (p : Pc) : kids s (l ++ [p]) = if (p.c 3 == s && p.c 0 != s) = true then kids s l ++ [p.c 0] else kids s l := by
  unfold kids
  rw [List.filter_append, List.map_append]
  split
  · rename_i h
    simp only [List.filter_cons, h, if_true, List.filter_nil, List.map_cons, List.map_nil]
  · rename_i h
    simp only [List.filter_cons, h, if_false, List.filter_nil, List.map_nil, List.append_nil, Bool.false_eq_true]
theorem int_info : ∃ i z, Try.prog.info? 3 = some i ∧ i.zero = some z ∧ i.size = 1 ∧ i.bytes = 8 ∧ z.cells.size = 1 := info_of 3 1 8 (by kernel_rfl) (by kernel_rfl)
def KdP (w : World) (l : List Int) (e : Ending) (w' : World) : Prop := ∃ u, e = .returned u ∧ w'.ownsRow w.heap.size 3 1 u l.length (l.map (.int .i64)) ∧ Below w.heap.size w w'
set_option maxRecDepth 100000 in
set_option maxHeartbeats 2000000 in
theorem children_any {w : World} {X : Nat} {pv fv iv qv rv lv : Value} {L : Lk} (h : Ps w X pv L.procs) (hX : X ≤ w.heap.size) (hs : L.procs.length ≤ 1048576) (s : Int) : Calls Try.prog 23 #[.agg (lkL L.tramp pv fv iv qv rv lv L.ticks L.next L.free).toArray, .int .i64 s] w (KdP w (kids s L.procs)) := by
  obtain ⟨pp, pc, rfl⟩ := h.form
  obtain ⟨np, hnp⟩ : ∃ n, n = L.procs.length := ⟨_, rfl⟩
  rw [← hnp] at h hs ⊢
  have HP : Hid (Ps w X (.slice pp np pc) L.procs ∧ np = L.procs.length) := ⟨h, hnp⟩
  clear h hnp
  obtain ⟨lc, hlc⟩ : ∃ lc, lc = lkL L.tramp (.slice pp np pc) fv iv qv rv lv L.ticks L.next L.free := ⟨_, rfl⟩
  rw [← hlc]
  have HL : Hid (lc[1]? = some (.slice pp np pc)) := by rw [hlc]; rfl
  clear hlc
  obtain ⟨i3, z3, hi3, hz3, hs3, hb3, hzs3⟩ := int_info
  obtain ⟨z, hz⟩ : ∃ z, z = w.heap.size := ⟨_, rfl⟩
  have HZ : Hid (z = w.heap.size) := hz
  go_enter Try.func23, Try.ntmps23
  go_wp2_with (first
    | (refine wpList_is (.box 33 (.tmp 0)) rfl ?_; refine wpList_boxG 33 lc 2 (.tmp 0) _ rfl rfl rfl rfl ?_; intro W1 hW1 hB1 hs1; rw [← hz] at hW1 hB1 hs1 ⊢; clear hz; have d1 := cell_heap (o := 1) hW1; rw [List.getElem?_toArray, HL.out] at d1)
    | fail)
  have HO : Hid (W1.ownsRow z 3 1 (.slice none 0 0) (kids s (L.procs.take 0)).length ((kids s (L.procs.take 0)).map (.int .i64)) ∧ Below z w W1) := ⟨World.ownsRow_nil _ _ _ _, hB1⟩
  clear hW1 hB1 hs1 d1
  go_loopw [5, 11] (fun v5 k wr => ∃ (i : Nat), i ≤ np ∧ k = .int .i64 i ∧ Hid (wr.ownsRow z 3 1 v5 (kids s (L.procs.take i)).length ((kids s (L.procs.take i)).map (.int .i64)) ∧ Below z w wr)) (fun _ v _ => (np - intOf v).toNat)
  case atStart => exact ⟨0, by omega, rfl, HO.out⟩
  case round =>
    clear HO
    obtain ⟨i, hi, rfl, HB⟩ := hrel
    by_cases hin : i < np
    · have i1 : (i : Int) < np := by omega
      obtain ⟨-, b, o, x, cs, rfl, hbX, hx, ⟨nv, gv, rfl, hN, hG⟩, hcl, hr⟩ := HP.out.1.at hin
      have hr' := range_keep hr HB.out.2 (by have := HZ.out; omega : b < z)
      have HX1 : Hid (∀ u ∈ x.l nv gv, u.oneCell' = true) := pcl_one x hN.one hG.one
      have HE : Hid (L.procs.take (i + 1) = L.procs.take i ++ [x]) := by show _ = _; rw [List.take_add_one, hx]; rfl
      have hlen : (kids s (L.procs.take i)).length ≤ 1048576 := by
        have h1 := List.length_filter_le (fun p : Pc => p.c 3 == s && p.c 0 != s) (L.procs.take i)
        rw [List.length_take] at h1
        unfold kids
        rw [List.length_map]
        omega
      obtain ⟨m, hm⟩ : ∃ m, m = (kids s (L.procs.take i)).length := ⟨_, rfl⟩
      have HM : Hid (m = (kids s (L.procs.take i)).length) := hm
      have HB' : Hid (wr.ownsRow z 3 1 u5 m ((kids s (L.procs.take i)).map (.int .i64)) ∧ Below z w wr) := by rw [hm]; exact HB.out
      rw [← hm] at hlen
      have hbase : z ≤ wr.heap.size := by have := HZ.out; have := HB.out.2.size; omega
      clear hr hcl hbX hx HB hm hN hG
      have CAN : ∀ (hc : (x.c 3 == s && x.c 0 != s) = false) (W1 : World), Below wr.heap.size wr W1 → Hid (W1.ownsRow z 3 1 u5 (kids s (L.procs.take (i + 1))).length ((kids s (L.procs.take (i + 1))).map (.int .i64)) ∧ Below z w W1) := fun hc W1 hB1 => by
        refine ⟨?_, HB'.out.2.trans (hB1.mono hbase)⟩
        rw [HE.out, kids_app, if_neg (by rw [hc]; simp), ← HM.out]
        exact own_bel HB'.out.1 hB1 (fun q hq => (HB'.out.1.lt q hq).2)
      have HCAN : Hid (∀ (hc : (x.c 3 == s && x.c 0 != s) = false) (W1 : World), Below wr.heap.size wr W1 → Hid (W1.ownsRow z 3 1 u5 (kids s (L.procs.take (i + 1))).length ((kids s (L.procs.take (i + 1))).map (.int .i64)) ∧ Below z w W1)) := CAN
      clear CAN
      cases hb : (x.c 3 == s)
      · have HBB : Hid ((x.c 3 == s && x.c 0 != s) = false) := by show _ = _; rw [hb]; rfl
        go_wp2_with (first
          | (refine wpList_is (.load 55 (.tmp 13)) rfl ?_; refine wpList_loadG 55 70 584 info55 _ Try.underlying55 rfl (x.l nv gv) rfl b (o + i * 70) (.tmp 13) rfl rfl rfl hr' (some 14) rfl ?_)
          | (refine wpList_is (.alloc 55) rfl ?_; refine wpList_laidG 55 70 584 info55 (x.l nv gv) rfl HX1.out 7 (.tmp 14) _ _ rfl rfl rfl rfl rfl rfl rfl rfl ?_; intro W1 hW1 hB1 hs1; have d0 := cell_heap (o := 0) hW1; rw [show (x.l nv gv).toArray[0]? = some (.int .i64 (x.c 0)) from rfl] at d0; have d3 := cell_heap (o := 3) hW1; rw [show (x.l nv gv).toArray[3]? = some (.int .i64 (x.c 3)) from rfl] at d3)
          | fail)
        exact ⟨⟨i + 1, by omega, by go_num, HCAN.out HBB.out W1 hB1⟩, by simp [intOf]; omega⟩
      · cases hb2 : (x.c 0 != s)
        · have HBB : Hid ((x.c 3 == s && x.c 0 != s) = false) := by show _ = _; rw [hb, hb2]; rfl
          go_wp2_with (first
            | (refine wpList_is (.load 55 (.tmp 13)) rfl ?_; refine wpList_loadG 55 70 584 info55 _ Try.underlying55 rfl (x.l nv gv) rfl b (o + i * 70) (.tmp 13) rfl rfl rfl hr' (some 14) rfl ?_)
            | (refine wpList_is (.alloc 55) rfl ?_; refine wpList_laidG 55 70 584 info55 (x.l nv gv) rfl HX1.out 7 (.tmp 14) _ _ rfl rfl rfl rfl rfl rfl rfl rfl ?_; intro W1 hW1 hB1 hs1; have d0 := cell_heap (o := 0) hW1; rw [show (x.l nv gv).toArray[0]? = some (.int .i64 (x.c 0)) from rfl] at d0; have d3 := cell_heap (o := 3) hW1; rw [show (x.l nv gv).toArray[3]? = some (.int .i64 (x.c 3)) from rfl] at d3)
            | fail)
          exact ⟨⟨i + 1, by omega, by go_num, HCAN.out HBB.out W1 hB1⟩, by simp [intOf]; omega⟩
        · have HBB : Hid ((x.c 3 == s && x.c 0 != s) = true) := by show _ = _; rw [hb, hb2]; rfl
          go_wp2_with (first
            | (refine wpList_is (.load 55 (.tmp 13)) rfl ?_; refine wpList_loadG 55 70 584 info55 _ Try.underlying55 rfl (x.l nv gv) rfl b (o + i * 70) (.tmp 13) rfl rfl rfl hr' (some 14) rfl ?_)
            | (refine wpList_is (.alloc 55) rfl ?_; refine wpList_laidG 55 70 584 info55 (x.l nv gv) rfl HX1.out 7 (.tmp 14) _ _ rfl rfl rfl rfl rfl rfl rfl rfl ?_; intro W1 hW1 hB1 hs1; have d0 := cell_heap (o := 0) hW1; rw [show (x.l nv gv).toArray[0]? = some (.int .i64 (x.c 0)) from rfl] at d0; have d3 := cell_heap (o := 3) hW1; rw [show (x.l nv gv).toArray[3]? = some (.int .i64 (x.c 3)) from rfl] at d3)
            | (at_builtin; refine wpList_append_own _ rfl _ _ 68 rfl z 3 i3 z3 1 8 Try.underlying68 hi3 hz3 hs3 hb3 hzs3 (by decide) _ m ((kids s (L.procs.take i)).map (.int .i64)) rfl (World.ownsRow.alloc (own_bel HB'.out.1 hB1 (fun q hq => (HB'.out.1.lt q hq).2)) _) ⟨W1.heap.size, 0, .none⟩ 1 1 [.int .i64 (x.c 0)] (by rw [hs1]; rfl) rfl (cell_one_new _ _ _) (by simp [Value.oneCell']) (by unfold maxLen; omega) (by omega) (by simp only [World.size_alloc]; omega) ?_; intro v5 w5 hO5 hg5 _)
            | fail)
          have hBA : Below z w (W1.alloc (.cells #[.int .i64 (x.c 0)] 3)) := (HB'.out.2.trans (hB1.mono hbase)).alloc (by omega) _
          refine ⟨⟨i + 1, by omega, by go_num, ?_, hBA.grown hg5 (by simp; omega) (fun k hk => (HB'.out.1.lt k hk).1)⟩, by simp [intOf]; omega⟩
          rw [HE.out, kids_app, if_pos HBB.out, List.length_append, ← HM.out, List.map_append]
          exact hO5
    · have i1 : ¬ (i : Int) < np := by omega
      obtain rfl : i = np := by omega
      have HQ : Hid (wr.ownsRow w.heap.size 3 1 u5 (kids s L.procs).length ((kids s L.procs).map (.int .i64)) ∧ Below w.heap.size w wr) := by
        have h1 := HB.out
        rw [List.take_of_length_le (by have := HP.out.2; omega), HZ.out] at h1
        exact h1
      clear HB
      go_wp2
      go_ret
      exact ⟨_, rfl, HQ.out⟩
end Go.Proofs.Ythopgmmodldljaa
