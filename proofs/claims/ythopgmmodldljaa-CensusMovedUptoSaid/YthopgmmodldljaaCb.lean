import Derived.Test.YthopgmmodldljaaCa
namespace Go.Proofs.Ythopgmmodldljaa
open Go Go.RowKit
set_option linter.unusedVariables false
set_option linter.unusedSimpArgs false
/-- One alone may come up. -/
theorem set_only {P : Program} {ops : Array Oper} {Q : Exit → Act → World → Prop} {md : Region.Mode} {S : World → Prop} {Z : Nat → Bool} {i n : Nat} {oi : Oper} {listed : Array Bool} {a : Act} {w : World} (hr : Region.ready md ops listed = [i]) (hi : ops[i]? = some oi) (hwd : Region.wanted oi (yielded ops a.tmps) = true)
    (h : ∀ K : Act → World → Prop, Hid (∀ a' w', (Z i = false → S w') → wpSet P md ops Q S Z n (listed.setIfInBounds i true) a' w' → K a' w') → oi.wp P a w K Q) : wpSet P md ops Q S Z (n + 1) listed a w := by
  refine ⟨fun h0 => (by rw [hr] at h0; cases h0), fun j hj => ?_⟩
  rw [hr, List.mem_singleton] at hj
  subst hj
  unfold wpOp
  simp only [hi, hwd, if_true]
  exact .inl (h _ (fun a' w' h1 h2 => ⟨h1, h2⟩))
/-- The process whose pages are reached. -/
def rcP (s : Int) (l : List Pc) : Option Pc := match l.find? (fun p => p.c 0 == s) with
  | some p => if p.c 2 = 3 then none else some p
  | none => none
def rcL (s a : Int) (l : List Pc) : List Int := match rcP s l with | some p => rch a p.pages | none => []
def RhP (w : World) (s : Int) (l : List Pc) (e : Ending) (w' : World) : Prop := ∃ u1 u2 u3, e = .returned (.tuple #[u1, u2, u3]) ∧ Owns w' w.heap.size [rowN (rcL s 18 l) u1, rowN (rcL s 20 l) u2, rowN (rcL s 24 l) u3] ∧ Below w.heap.size w w'
theorem owns_nil3 (w : World) (z : Nat) : Owns w z [rowN [] (.slice none 0 0), rowN [] (.slice none 0 0), rowN [] (.slice none 0 0)] := by
  refine ⟨fun r hr => ?_, by simp [blks, rowN, Value.ownBlock]⟩
  simp only [List.mem_cons, List.not_mem_nil, or_false, or_self] at hr
  subst hr
  exact World.ownsRow_nil _ _ _ _
set_option maxRecDepth 100000 in
set_option maxHeartbeats 2000000 in
theorem reach_any {w : World} {X : Nat} {pv fv iv qv rv lv : Value} {L : Lk} (h : Ps w X pv L.procs) (hX : X ≤ w.heap.size) (hs : L.procs.length ≤ 1048576) (hg : ∀ p ∈ L.procs, p.pages.length ≤ 1000000) (s : Int) : Calls Try.prog 14 #[.agg (lkL L.tramp pv fv iv qv rv lv L.ticks L.next L.free).toArray, .int .i64 s] w (RhP w s L.procs) := by
  obtain ⟨pp, pc, rfl⟩ := h.form
  obtain ⟨np, hnp⟩ : ∃ n, n = L.procs.length := ⟨_, rfl⟩
  rw [← hnp] at h hs ⊢
  have HP : Hid (Ps w X (.slice pp np pc) L.procs ∧ np = L.procs.length ∧ ∀ p ∈ L.procs, p.pages.length ≤ 1000000) := ⟨h, hnp, hg⟩
  clear h hnp hg
  obtain ⟨lc, hlc⟩ : ∃ lc, lc = lkL L.tramp (.slice pp np pc) fv iv qv rv lv L.ticks L.next L.free := ⟨_, rfl⟩
  rw [← hlc]
  have HL : Hid (lc[1]? = some (.slice pp np pc)) := by rw [hlc]; rfl
  clear hlc
  obtain ⟨z, hz⟩ : ∃ z, z = w.heap.size := ⟨_, rfl⟩
  have HZ : Hid (z = w.heap.size) := hz
  go_enter Try.func14, Try.ntmps14
  go_wp2_with (first
    | (refine wpList_is (.box 33 (.tmp 0)) rfl ?_; refine wpList_boxG 33 lc 2 (.tmp 0) _ rfl rfl rfl rfl ?_; intro W1 hW1 hB1 hs1; rw [← hz] at hW1 hB1 hs1 ⊢; clear hz; have d1 := cell_heap (o := 1) hW1; rw [List.getElem?_toArray, HL.out] at d1)
    | fail)
  have HO : Hid (Below z w W1) := hB1
  clear hW1 hB1 hs1 d1
  go_loopw [12] (fun k wr => ∃ (i : Nat), i ≤ np ∧ k = .int .i64 i ∧ Hid ((L.procs.take i).find? (fun p => p.c 0 == s) = none ∧ Below z w wr)) (fun v _ => (np - intOf v).toNat)
  case atStart => exact ⟨0, by omega, rfl, rfl, HO.out⟩
  case round =>
    clear HO
    obtain ⟨i, hi, rfl, HB⟩ := hrel
    by_cases hin : i < np
    · have i1 : (i : Int) < np := by omega
      obtain ⟨-, b, o, x, cs, rfl, hbX, hx, ⟨nv, gv, rfl, hN, hG⟩, hcl, hr⟩ := HP.out.1.at hin
      obtain ⟨gp1, gc1, rfl⟩ := hG.form
      obtain ⟨g, hgg⟩ : ∃ g, g = x.pages.length := ⟨_, rfl⟩
      rw [← hgg] at hG hr
      have bg : g ≤ 1000000 := by rw [hgg]; exact HP.out.2.2 x (List.mem_of_getElem? hx)
      have hr' := range_keep hr HB.out.2 (by have := HZ.out; omega : b < z)
      have HX1 : Hid (∀ u ∈ x.l nv (.slice gp1 g gc1), u.oneCell' = true) := pcl_one x hN.one rfl
      have HE : Hid (L.procs.take (i + 1) = L.procs.take i ++ [x]) := by show _ = _; rw [List.take_add_one, hx]; rfl
      have HF : Hid (x.c 0 = s → L.procs.find? (fun p => p.c 0 == s) = some x) := fun hc => by
        have h1 : L.procs = L.procs.take i ++ x :: L.procs.drop (i + 1) := by
          have h2 : L.procs = L.procs.take (i + 1) ++ L.procs.drop (i + 1) := (List.take_append_drop _ _).symm
          rw [HE.out] at h2
          rw [List.append_assoc] at h2
          exact h2
        rw [h1, List.find?_append, HB.out.1]
        simp [List.find?_cons, hc]
      have hbase : z ≤ wr.heap.size := by have := HZ.out; have := HB.out.2.size; omega
      have HGG : Hid (Gs w X (.slice gp1 g gc1) x.pages) := hG
      clear hr hcl hbX hx hN hG hgg
      cases hb : (x.c 0 == s)
      · have hb2 : (x.c 0 != s) = true := by simpa using hb
        have HNE : Hid ((x.c 0 == s) = false) := hb
        go_wp2_with (first
          | (refine wpList_is (.load 55 (.tmp 14)) rfl ?_; refine wpList_loadG 55 70 584 info55 _ Try.underlying55 rfl (x.l nv (.slice gp1 g gc1)) rfl b (o + i * 70) (.tmp 14) rfl rfl rfl hr' (some 15) rfl ?_)
          | (refine wpList_is (.alloc 55) rfl ?_; refine wpList_laidG 55 70 584 info55 (x.l nv (.slice gp1 g gc1)) rfl HX1.out 8 (.tmp 15) _ _ rfl rfl rfl rfl rfl rfl rfl rfl ?_; intro W1 hW1 hB1 hs1; have d0 := cell_heap (o := 0) hW1; rw [show (x.l nv (.slice gp1 g gc1)).toArray[0]? = some (.int .i64 (x.c 0)) from rfl] at d0)
          | fail)
        refine ⟨⟨i + 1, by omega, by go_num, ?_, HB.out.2.trans (hB1.mono hbase)⟩, by simp [intOf]; omega⟩
        rw [HE.out, List.find?_append, HB.out.1]
        simp [List.find?_cons, HNE.out]
      · have hxs : x.c 0 = s := by simpa using hb
        have HFF := HF.out hxs
        have hb2 : (x.c 0 != s) = false := by simp [hxs]
        have HF2 : Hid (L.procs.find? (fun p => p.c 0 == s) = some x) := HFF
        clear HFF HF hxs
        cases hz3 : (x.c 2 == 3)
        · have HZ3 : Hid (rcP s L.procs = some x) := by show _ = _; unfold rcP; rw [HF2.out]; exact if_neg (by simpa using hz3)
          go_upto_region 6 with (first
            | (refine wpList_is (.load 55 (.tmp 14)) rfl ?_; refine wpList_loadG 55 70 584 info55 _ Try.underlying55 rfl (x.l nv (.slice gp1 g gc1)) rfl b (o + i * 70) (.tmp 14) rfl rfl rfl hr' (some 15) rfl ?_)
            | (refine wpList_is (.alloc 55) rfl ?_; refine wpList_laidG 55 70 584 info55 (x.l nv (.slice gp1 g gc1)) rfl HX1.out 8 (.tmp 15) _ _ rfl rfl rfl rfl rfl rfl rfl rfl ?_; intro W1 hW1 hB1 hs1; have d0 := cell_heap (o := 0) hW1; rw [show (x.l nv (.slice gp1 g gc1)).toArray[0]? = some (.int .i64 (x.c 0)) from rfl] at d0; have d2 := cell_heap (o := 2) hW1; rw [show (x.l nv (.slice gp1 g gc1)).toArray[2]? = some (.int .i64 (x.c 2)) from rfl] at d2)
            | fail)
          obtain ⟨y, hy⟩ : ∃ y, y = wr.heap.size := ⟨_, rfl⟩
          rw [← hy]
          have hyW : y < W1.heap.size := by rw [hs1, hy]; omega
          have rgy : W1.rangeAt y 0 (x.l nv (.slice gp1 g gc1)) := by rw [hy]; exact range_heap hW1
          have bW : Below z w W1 := HB.out.2.trans (hB1.mono hbase)
          have lW : z ≤ W1.heap.size := by omega
          have HK : Hid (∀ V, Below W1.heap.size W1 V → V.rangeAt y 0 (x.l nv (.slice gp1 g gc1)) ∧ Gs V X (.slice gp1 g gc1) x.pages ∧ Below z w V ∧ z ≤ V.heap.size) := fun V hV => ⟨range_keep rgy hV hyW, Gs.keep HGG.out (Nat.le_refl _) ((bW.trans (hV.mono lW)).mono (by have := HZ.out; omega)), bW.trans (hV.mono lW), by have := hV.size; omega⟩
          have HXZ : Hid (X ≤ z) := by have := HZ.out; show X ≤ z; omega
          have hS : (fun w' : World => w'.rangeAt y 0 (x.l nv (.slice gp1 g gc1)) ∧ Below W1.heap.size W1 w') W1.drew := ⟨rgy, (Below.refl _ _).drew⟩
          clear hW1 hB1 hs1 d0 d2 hy rgy bW hr'
          refine region_set (fun w' => w'.rangeAt y 0 (x.l nv (.slice gp1 g gc1)) ∧ Below W1.heap.size W1 w') 5 [] (by kernel_rfl) ?_
          refine set_take (i := 0) (v := .agg (x.l nv (.slice gp1 g gc1)).toArray) rfl (by kernel_rfl) (by kernel_rfl) (by kernel_rfl) (by kernel_rfl) (fun _ _ _ h => h) (yieldsIf_load_mid (by rfl) 55 (.tmp 8) rfl (y) (0) rfl (x.l nv (.slice gp1 g gc1)) _ (fun ww hSw => hSw.1) Try.underlying55 rfl (by first | kernel_rfl | (rw [show (x.l nv (.slice gp1 g gc1)).length = 70 from rfl]; kernel_rfl))) hS ?_
          simp only [Act.put, List.setIfInBounds_toArray, List.set_cons_zero, List.set_cons_succ, List.getElem_toArray, List.getElem_cons_succ, List.getElem_cons_zero]
          refine set_take (i := 2) (v := .agg (x.l nv (.slice gp1 g gc1)).toArray) rfl (by kernel_rfl) (by kernel_rfl) (by kernel_rfl) (by kernel_rfl) (fun _ _ _ h => h) (yieldsIf_load_mid (by rfl) 55 (.tmp 8) rfl (y) (0) rfl (x.l nv (.slice gp1 g gc1)) _ (fun ww hSw => hSw.1) Try.underlying55 rfl (by first | kernel_rfl | (rw [show (x.l nv (.slice gp1 g gc1)).length = 70 from rfl]; kernel_rfl))) hS ?_
          simp only [Act.put, List.setIfInBounds_toArray, List.set_cons_zero, List.set_cons_succ, List.getElem_toArray, List.getElem_cons_succ, List.getElem_cons_zero]
          refine set_take (i := 4) (v := .agg (x.l nv (.slice gp1 g gc1)).toArray) rfl (by kernel_rfl) (by kernel_rfl) (by kernel_rfl) (by kernel_rfl) (fun _ _ _ h => h) (yieldsIf_load_mid (by rfl) 55 (.tmp 8) rfl (y) (0) rfl (x.l nv (.slice gp1 g gc1)) _ (fun ww hSw => hSw.1) Try.underlying55 rfl (by first | kernel_rfl | (rw [show (x.l nv (.slice gp1 g gc1)).length = 70 from rfl]; kernel_rfl))) hS ?_
          simp only [Act.put, List.setIfInBounds_toArray, List.set_cons_zero, List.set_cons_succ, List.getElem_toArray, List.getElem_cons_succ, List.getElem_cons_zero]
          refine set_only (i := 1) (by kernel_rfl) rfl (by rfl) (fun K hK => ?_)
          go_simp
          go_at_call 37
          obtain ⟨k1, k2, k3, k4⟩ := HK.out W1.drew (Below.refl _ _).drew
          refine (reached_any (Nat.le_trans HXZ.out k4) x nv gp1 g gc1 k2 bg 2 18 (by rfl)).mono ?_
          rintro e V1 ⟨u1, rfl, o1, b1⟩
          have q1 : Below W1.heap.size W1 V1 := (Below.refl _ _).drew.trans b1
          refine hK.out _ _ (fun _ => ⟨(HK.out V1 q1).1, q1⟩) ?_
          clear hK K
          try simp only [Act.put, List.setIfInBounds_toArray, List.set_cons_zero, List.set_cons_succ, List.getElem_toArray, List.getElem_cons_succ, List.getElem_cons_zero]
          refine set_only (i := 3) (by kernel_rfl) rfl (by rfl) (fun K hK => ?_)
          go_simp
          go_at_call 37
          refine (reached_any (Nat.le_trans HXZ.out (HK.out V1 q1).2.2.2) x nv gp1 g gc1 (HK.out V1 q1).2.1 bg 4 20 (by rfl)).mono ?_
          rintro e V2 ⟨u2, rfl, o2, b2⟩
          have q2 : Below W1.heap.size W1 V2 := q1.trans (b2.mono q1.size)
          refine hK.out _ _ (fun _ => ⟨(HK.out V2 q2).1, q2⟩) ?_
          clear hK K
          try simp only [Act.put, List.setIfInBounds_toArray, List.set_cons_zero, List.set_cons_succ, List.getElem_toArray, List.getElem_cons_succ, List.getElem_cons_zero]
          refine set_only (i := 5) (by kernel_rfl) rfl (by rfl) (fun K hK => ?_)
          go_simp
          go_at_call 37
          refine (reached_any (Nat.le_trans HXZ.out (HK.out V2 q2).2.2.2) x nv gp1 g gc1 (HK.out V2 q2).2.1 bg 8 24 (by rfl)).mono ?_
          rintro e V3 ⟨u3, rfl, o3, b3⟩
          have q3 : Below W1.heap.size W1 V3 := q2.trans (b3.mono q2.size)
          refine hK.out _ _ (fun h => by cases h) ?_
          clear hK K
          try simp only [Act.put, List.setIfInBounds_toArray, List.set_cons_zero, List.set_cons_succ, List.getElem_toArray, List.getElem_cons_succ, List.getElem_cons_zero]
          refine set_tail 3 6 _ _ _ _ (by kernel_rfl) (by decide) ?_
          simp only [List.toList_toArray, List.drop_succ_cons, List.drop_zero]
          have HFIN : Hid (Owns V3 z [rowN (rch 18 x.pages) u1, rowN (rch 20 x.pages) u2, rowN (rch 24 x.pages) u3] ∧ Below z w V3) := by
            have l0 : z ≤ W1.drew.heap.size := lW
            have p1 : Owns V1 z [rowN (rch 18 x.pages) u1] := (Owns.nil W1.drew z).push (r := rowN (rch 18 x.pages) u1) b1 o1 l0
            have p2 := p1.push (r := rowN (rch 20 x.pages) u2) b2 o2 (HK.out V1 q1).2.2.2
            have p3 := p2.push (r := rowN (rch 24 x.pages) u3) b3 o3 (HK.out V2 q2).2.2.2
            exact ⟨p3.perm (List.reverse_perm _).symm, (HK.out V3 q3).2.2.1⟩
          clear o1 o2 o3 b1 b2 b3 q1 q2 q3 hS HK lW hyW
          go_wp2
          go_ret3
          have e1 : ∀ a, rcL s a L.procs = rch a x.pages := fun a => by unfold rcL; rw [HZ3.out]
          refine ⟨u1, u2, u3, rfl, ?_, ?_⟩
          · rw [e1, e1, e1, ← HZ.out]
            exact HFIN.out.1
          · rw [← HZ.out]
            exact HFIN.out.2
        · have HZ3 : Hid (rcP s L.procs = none) := by show _ = _; unfold rcP; rw [HF2.out]; exact if_pos (by simpa using hz3)
          have hz4 : x.c 2 = 3 := by simpa using hz3
          go_wp2_with (first
            | (refine wpList_is (.load 55 (.tmp 14)) rfl ?_; refine wpList_loadG 55 70 584 info55 _ Try.underlying55 rfl (x.l nv (.slice gp1 g gc1)) rfl b (o + i * 70) (.tmp 14) rfl rfl rfl hr' (some 15) rfl ?_)
            | (refine wpList_is (.alloc 55) rfl ?_; refine wpList_laidG 55 70 584 info55 (x.l nv (.slice gp1 g gc1)) rfl HX1.out 8 (.tmp 15) _ _ rfl rfl rfl rfl rfl rfl rfl rfl ?_; intro W1 hW1 hB1 hs1; have d0 := cell_heap (o := 0) hW1; rw [show (x.l nv (.slice gp1 g gc1)).toArray[0]? = some (.int .i64 (x.c 0)) from rfl] at d0; have d2 := cell_heap (o := 2) hW1; rw [show (x.l nv (.slice gp1 g gc1)).toArray[2]? = some (.int .i64 (x.c 2)) from rfl] at d2)
            | fail)
          go_ret3
          have e1 : ∀ a, rcL s a L.procs = [] := fun a => by unfold rcL; rw [HZ3.out]
          refine ⟨_, _, _, rfl, ?_, ?_⟩
          · rw [e1, e1, e1]
            exact owns_nil3 _ _
          · rw [← HZ.out]
            exact HB.out.2.trans (hB1.mono hbase)
    · have i1 : ¬ (i : Int) < np := by omega
      obtain rfl : i = np := by omega
      have HZ3 : Hid (rcP s L.procs = none ∧ Below z w wr) := by
        have h1 := HB.out
        rw [List.take_of_length_le (by have := HP.out.2.1; omega)] at h1
        refine ⟨?_, h1.2⟩
        unfold rcP
        rw [h1.1]
      clear HB
      go_wp2
      go_ret3
      have e1 : ∀ a, rcL s a L.procs = [] := fun a => by unfold rcL; rw [HZ3.out.1]
      refine ⟨_, _, _, rfl, ?_, ?_⟩
      · rw [e1, e1, e1]
        exact owns_nil3 _ _
      · rw [← HZ.out]
        exact HZ3.out.2
end Go.Proofs.Ythopgmmodldljaa
