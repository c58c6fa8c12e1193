import Derived.Test.YthopgmmodldljaaCd
namespace Go.Proofs.Ythopgmmodldljaa
open Go Go.RowKit
set_option linter.unusedVariables false
set_option linter.unusedSimpArgs false
/-- The document's: what is reached, a zombie's pages none. -/
theorem rcL_some {s a : Int} {l : List Pc} {x : Pc} (h : l.find? (fun p => p.c 0 == s) = some x) : rcL s a l = if x.c 2 = 3 then [] else rch a x.pages := by
  unfold rcL rcP
  rw [h]
  by_cases e : x.c 2 = 3 <;> simp [e]
theorem rcL_none {s a : Int} {l : List Pc} (h : l.find? (fun p => p.c 0 == s) = none) : rcL s a l = [] := by
  unfold rcL rcP
  rw [h]
set_option maxRecDepth 100000 in
set_option maxHeartbeats 2000000 in
theorem rreach_any {w : World} {X : Nat} {pv fv iv qv rv lv : Value} {L : Lk} (h : Ps w X pv L.procs) (hX : X ≤ w.heap.size) (hs : L.procs.length ≤ 1048576) (hg : ∀ p ∈ L.procs, p.pages.length ≤ 1000000) (s a : Int) : Calls Try.prog 22 #[.agg (lkL L.tramp pv fv iv qv rv lv L.ticks L.next L.free).toArray, .int .i64 s, .int .u64 a] w (RcP w (rcL s a L.procs)) := by
  obtain ⟨pp, pc, rfl⟩ := h.form
  obtain ⟨np, hnp⟩ : ∃ n, n = L.procs.length := ⟨_, rfl⟩
  rw [← hnp] at h hs ⊢
  have HP : Hid (Ps w X (.slice pp np pc) L.procs ∧ np = L.procs.length ∧ ∀ p ∈ L.procs, p.pages.length ≤ 1000000) := ⟨h, hnp, hg⟩
  clear h hnp hg
  obtain ⟨lc, hlc⟩ : ∃ lc, lc = lkL L.tramp (.slice pp np pc) fv iv qv rv lv L.ticks L.next L.free := ⟨_, rfl⟩
  rw [← hlc]
  have HL : Hid (lc[1]? = some (.slice pp np pc) ∧ lc.length = 10) := by rw [hlc]; exact ⟨rfl, rfl⟩
  clear hlc
  obtain ⟨i3, z3, hi3, hz3, hs3, hb3, hzs3⟩ := words_info
  obtain ⟨z, hz⟩ : ∃ z, z = w.heap.size := ⟨_, rfl⟩
  have HZ : Hid (z = w.heap.size) := hz
  go_enter Try.func22, Try.ntmps22
  go_wp2_with (first
    | (refine wpList_is (.box 33 (.tmp 0)) rfl ?_; refine wpList_boxG 33 lc 3 (.tmp 0) _ rfl rfl rfl rfl ?_; intro W1 hW1 hB1 hs1; rw [← hz] at hW1 hB1 hs1 ⊢; clear hz)
    | fail)
  have HO : Hid (Owns W1 z [bx 33 10 z lc] ∧ Below z w W1) := by
    have hz := HZ.out
    have o1 := (Owns.nil w z).new (k := 10) (by rw [← hz]; exact hW1) (by rw [← hz]; exact hB1) HL.out.2 (by omega)
    rw [← hz] at o1
    exact ⟨o1, hB1⟩
  clear hW1 hB1 hs1
  go_loopw [7] (fun k wr => ∃ (i : Nat), i ≤ np ∧ k = .int .i64 i ∧ Hid ((L.procs.take i).find? (fun p => p.c 0 == s) = none ∧ Owns wr z [bx 33 10 z lc] ∧ Below z w wr)) (fun v _ => (np - intOf v).toNat)
  case atStart => exact ⟨0, by omega, rfl, rfl, HO.out⟩
  case round =>
    clear HO
    obtain ⟨i, hi, rfl, HB⟩ := hrel
    have c1 := (HB.out.2.1.cell (t := 33) (k := 10) (b := z) (cs := lc) (by simp) 1).1
    rw [HL.out.1] at c1
    by_cases hin : i < np
    · have i1 : (i : Int) < np := by omega
      obtain ⟨-, b, o, x, cs, rfl, hbX, hx, ⟨nv, gv, rfl, hN, hG⟩, hcl, hr⟩ := HP.out.1.at hin
      obtain ⟨gp1, gc1, rfl⟩ := hG.form
      obtain ⟨g, hgg⟩ : ∃ g, g = x.pages.length := ⟨_, rfl⟩
      rw [← hgg] at hG hr
      have bg : g ≤ 1000000 := by rw [hgg]; exact HP.out.2.2 x (List.mem_of_getElem? hx)
      have hr' := range_keep hr HB.out.2.2 (by have := HZ.out; omega : b < z)
      have HX1 : Hid (∀ u ∈ x.l nv (.slice gp1 g gc1), u.oneCell' = true) := pcl_one x hN.one rfl
      have HE : Hid (L.procs.take (i + 1) = L.procs.take i ++ [x]) := by show _ = _; rw [List.take_add_one, hx]; rfl
      have HF : Hid (x.c 0 = s → L.procs.find? (fun p => p.c 0 == s) = some x) := fun hc => by
        have h1 : L.procs = L.procs.take i ++ x :: L.procs.drop (i + 1) := by
          have h2 : L.procs = L.procs.take (i + 1) ++ L.procs.drop (i + 1) := (List.take_append_drop _ _).symm
          rw [HE.out] at h2
          rw [List.append_assoc] at h2
          exact h2
        rw [h1, List.find?_append, HB.out.1]
        simp [List.find?_cons, hc]
      have hbase : z ≤ wr.heap.size := by have := HZ.out; have := HB.out.2.2.size; omega
      have HGG : Hid (Gs w X (.slice gp1 g gc1) x.pages ∧ g = x.pages.length) := ⟨hG, hgg⟩
      clear hr hcl hbX hx hN hG hgg
      cases hb : (x.c 0 == s)
      · have hb2 : (x.c 0 != s) = true := by simpa using hb
        have HNE : Hid ((x.c 0 == s) = false) := hb
        go_wp2_with (first
          | (refine wpList_is (.load 55 (.tmp 21)) rfl ?_; refine wpList_loadG 55 70 584 info55 _ Try.underlying55 rfl (x.l nv (.slice gp1 g gc1)) rfl b (o + i * 70) (.tmp 21) rfl rfl rfl hr' (some 22) rfl ?_)
          | (refine wpList_is (.alloc 55) rfl ?_; refine wpList_laidG 55 70 584 info55 (x.l nv (.slice gp1 g gc1)) rfl HX1.out 8 (.tmp 22) _ _ rfl rfl rfl rfl rfl rfl rfl rfl ?_; intro W1 hW1 hB1 hs1; have d0 := cell_heap (o := 0) hW1; rw [show (x.l nv (.slice gp1 g gc1)).toArray[0]? = some (.int .i64 (x.c 0)) from rfl] at d0)
          | fail)
        refine ⟨⟨i + 1, by omega, by go_num, ?_, HB.out.2.1.keep hB1, HB.out.2.2.trans (hB1.mono hbase)⟩, by simp [intOf]; omega⟩
        rw [HE.out, List.find?_append, HB.out.1]
        simp [List.find?_cons, HNE.out]
      · have hxs : x.c 0 = s := by simpa using hb
        have HF2 : Hid (L.procs.find? (fun p => p.c 0 == s) = some x) := HF.out hxs
        have hb2 : (x.c 0 != s) = false := by simp [hxs]
        clear HF hxs
        go_wp2_with (first
          | (refine wpList_is (.load 55 (.tmp 21)) rfl ?_; refine wpList_loadG 55 70 584 info55 _ Try.underlying55 rfl (x.l nv (.slice gp1 g gc1)) rfl b (o + i * 70) (.tmp 21) rfl rfl rfl hr' (some 22) rfl ?_)
          | (refine wpList_is (.alloc 55) rfl ?_; refine wpList_laidG 55 70 584 info55 (x.l nv (.slice gp1 g gc1)) rfl HX1.out 8 (.tmp 22) _ _ rfl rfl rfl rfl rfl rfl rfl rfl ?_; intro W1 hW1 hB1 hs1; have d0 := cell_heap (o := 0) hW1; rw [show (x.l nv (.slice gp1 g gc1)).toArray[0]? = some (.int .i64 (x.c 0)) from rfl] at d0)
          | fail)
        obtain ⟨y, hy⟩ : ∃ y, y = wr.heap.size := ⟨_, rfl⟩
        rw [← hy]
        have HO : Hid (Owns W1 z ([bx 55 70 y (x.l nv (.slice gp1 g gc1))] ++ [rowN (rch a (x.pages.take 0)) (.slice none 0 0)]) ∧ Below z w W1) := by
          have o1 := (Owns.nil wr z).new (k := 70) hW1 hB1 rfl hbase
          rw [← hy] at o1
          have o2 : Owns W1 z (rowN (rch a (x.pages.take 0)) (.slice none 0 0) :: _) := o1.push (r := rowN (rch a (x.pages.take 0)) (.slice none 0 0)) (Below.refl _ _) (World.ownsRow_nil _ _ _ _) (by omega)
          exact ⟨o2.perm (List.Perm.swap _ _ _), HB.out.2.2.trans (hB1.mono hbase)⟩
        clear hW1 hB1 hs1 d0 c1 hr' hbase HB hy
        by_cases hz3 : x.c 2 = 3
        · have HRL : Hid (rcL s a L.procs = []) := by show _ = _; rw [rcL_some HF2.out, if_pos hz3]
          have d2 := (HO.out.1.cell (t := 55) (k := 70) (b := y) (cs := x.l nv (.slice gp1 g gc1)) (by simp) 2).1
          rw [show (x.l nv (.slice gp1 g gc1))[2]? = some (.int .i64 (x.c 2)) from rfl] at d2
          have d5 := (HO.out.1.cell (t := 55) (k := 70) (b := y) (cs := x.l nv (.slice gp1 g gc1)) (by simp) 45).1
          rw [show (x.l nv (.slice gp1 g gc1))[45]? = some (.slice gp1 g gc1) from rfl] at d5
          go_loopw [9, 10] (fun v9 k wq => v9 = .slice none 0 0 ∧ k = .int .i64 0 ∧ wq = W1) (fun _ _ _ => 0)
          case atStart => exact ⟨rfl, rfl, rfl⟩
          case round =>
            obtain ⟨rfl, rfl, rfl⟩ := hrel
            by_cases hg0 : 0 < g
            · have g1 : (0 : Int) < g := by omega
              go_wp2
              go_ret
              refine ⟨_, rfl, ?_, by rw [← HZ.out]; exact HO.out.2⟩
              rw [HRL.out]
              exact World.ownsRow_nil _ _ _ _
            · obtain rfl : g = 0 := by omega
              go_wp2
              go_ret
              refine ⟨_, rfl, ?_, by rw [← HZ.out]; exact HO.out.2⟩
              rw [HRL.out]
              exact World.ownsRow_nil _ _ _ _
        · have hz4 : (x.c 2 != 3) = true := by simpa using hz3
          have HRL : Hid (rcL s a L.procs = rch a x.pages) := by show _ = _; rw [rcL_some HF2.out, if_neg hz3]
          clear hz3
          go_loopw [9, 10] (fun v9 k wq => ∃ (m : Nat), m ≤ g ∧ k = .int .i64 m ∧ Hid (Owns wq z ([bx 55 70 y (x.l nv (.slice gp1 g gc1))] ++ [rowN (rch a (x.pages.take m)) v9]) ∧ Below z w wq)) (fun _ v _ => (g - intOf v).toNat)
          case atStart => exact ⟨0, by omega, rfl, HO.out⟩
          case round =>
            clear HO
            obtain ⟨m, hm, rfl, HB⟩ := hrel
            have d2 := (HB.out.1.cell (t := 55) (k := 70) (b := y) (cs := x.l nv (.slice gp1 g gc1)) (by simp) 2).1
            rw [show (x.l nv (.slice gp1 g gc1))[2]? = some (.int .i64 (x.c 2)) from rfl] at d2
            have d5 := (HB.out.1.cell (t := 55) (k := 70) (b := y) (cs := x.l nv (.slice gp1 g gc1)) (by simp) 45).1
            rw [show (x.l nv (.slice gp1 g gc1))[45]? = some (.slice gp1 g gc1) from rfl] at d5
            by_cases hmn : m < g
            · have i2 : (m : Int) < g := by omega
              obtain ⟨-, gb, go, xg, cs, rfl, hbX, hx, rfl, hcl, hr⟩ := HGG.out.1.at hmn
              have hr2 := range_keep hr HB.out.2 (by have := HZ.out; omega : gb < z)
              have a1 := hr2 1 _ rfl
              have a2 := hr2 2 _ rfl
              have HE2 : Hid (x.pages.take (m + 1) = x.pages.take m ++ [xg]) := by show _ = _; rw [List.take_add_one, hx]; rfl
              have hlen : (rch a (x.pages.take m)).length ≤ 1000000 := by
                have h1 := List.length_filter_le (fun g : Pg => bits .and .u64 g.pm a == a) (x.pages.take m)
                rw [List.length_take] at h1
                unfold rch
                rw [List.length_map]
                omega
              have hbase : z ≤ wr.heap.size := by have := HZ.out; have := HB.out.2.size; omega
              clear hr hcl hbX hx hr2
              cases hb3 : (bits .and .u64 xg.pm a == a)
              · have HQ : Hid (Owns wr z ([bx 55 70 y (x.l nv (.slice (some ⟨gb, go, .none⟩) g gc1))] ++ [rowN (rch a (x.pages.take (m + 1))) u9]) ∧ Below z w wr) := by
                  have h1 := HB.out
                  rw [HE2.out, rch_app, if_neg (by rw [hb3]; simp)]
                  exact h1
                go_wp2
                exact ⟨⟨m + 1, by omega, by go_num, HQ.out⟩, by simp [intOf]; omega⟩
              · have HRow : Hid (∀ ob, (wr.alloc ob).ownsRow z 24 1 u9 (rch a (x.pages.take m)).length ((rch a (x.pages.take m)).map (.int .u64))) := fun ob => World.ownsRow.alloc (HB.out.1.own (rowN (rch a (x.pages.take m)) u9) (by simp)) ob
                obtain ⟨q, hq⟩ : ∃ q, q = (rch a (x.pages.take m)).length := ⟨_, rfl⟩
                have HM : Hid (q = (rch a (x.pages.take m)).length ∧ (bits .and .u64 xg.pm a == a) = true) := ⟨hq, hb3⟩
                rw [← hq] at HRow hlen
                clear hq
                go_wp2_with (first
                  | (at_builtin; refine wpList_append_own_at _ rfl _ _ 34 rfl z 24 i3 z3 1 8 Try.underlying34 hi3 hz3 hs3 ‹_› hzs3 (by decide) _ q ((rch a (x.pages.take m)).map (.int .u64)) rfl (HRow.out _) ⟨wr.heap.size, 0, .none⟩ 1 1 [.int .u64 xg.fr] rfl rfl (cell_one_new _ _ _) (by simp [Value.oneCell']) (by unfold maxLen; omega) (by omega) (by simp only [World.size_alloc]; omega) ?_; intro v5 w5 hO5 hg5 _ hat5)
                  | fail)
                have hBA : Below z w (wr.alloc (.cells #[.int .u64 xg.fr] 24)) := HB.out.2.alloc hbase _
                refine ⟨⟨m + 1, by omega, by go_num, ?_, hBA.grown hg5 (by simp; omega) (fun k hk => ((HRow.out (.cells #[.int .u64 xg.fr] 24)).lt k hk).1)⟩, by simp [intOf]; omega⟩
                have oA := HB.out.1.alloc (.cells #[.int .u64 xg.fr] 24)
                have eR : rowN (rch a (x.pages.take (m + 1))) v5 = ⟨24, 1, q + 1, v5, (rch a (x.pages.take m)).map (.int .u64) ++ [.int .u64 xg.fr]⟩ := by
                  rw [HE2.out, rch_app, if_pos HM.out.2, HM.out.1]
                  simp [rowN]
                rw [eR]
                exact oA.appAt (A := [bx 55 70 y (x.l nv (.slice (some ⟨gb, go, .none⟩) g gc1))]) (B := []) (r' := ⟨24, 1, q + 1, v5, (rch a (x.pages.take m)).map (.int .u64) ++ [.int .u64 xg.fr]⟩) hO5 hg5 hat5
            · have i2 : ¬ (m : Int) < g := by omega
              obtain rfl : m = g := by omega
              have HQ : Hid (wr.ownsRow w.heap.size 24 1 u9 (rch a x.pages).length ((rch a x.pages).map (.int .u64)) ∧ Below w.heap.size w wr) := by
                have h1 := HB.out
                rw [show x.pages.take m = x.pages from List.take_of_length_le (by have := HGG.out.2; omega)] at h1
                rw [← HZ.out]
                exact ⟨h1.1.own (rowN (rch a x.pages) u9) (by simp), h1.2⟩
              clear HB
              go_wp2
              go_ret
              refine ⟨_, rfl, ?_⟩
              rw [HRL.out]
              exact HQ.out
    · have i1 : ¬ (i : Int) < np := by omega
      obtain rfl : i = np := by omega
      have HQ : Hid (rcL s a L.procs = [] ∧ Below z w wr) := by
        have h1 := HB.out
        rw [List.take_of_length_le (by have := HP.out.2.1; omega)] at h1
        exact ⟨rcL_none h1.1, h1.2.2⟩
      clear HB
      go_wp2
      go_ret
      refine ⟨_, rfl, ?_, by rw [← HZ.out]; exact HQ.out.2⟩
      rw [HQ.out.1]
      exact World.ownsRow_nil _ _ _ _
end Go.Proofs.Ythopgmmodldljaa
