import Derived.Test.YthopgmmodldljaaCc
namespace Go.Proofs.Ythopgmmodldljaa
open Go Go.RowKit
set_option linter.unusedVariables false
set_option linter.unusedSimpArgs false
set_option maxRecDepth 100000 in
set_option maxHeartbeats 2000000 in
theorem rchildren_any {w : World} {X : Nat} {pv fv iv qv rv lv : Value} {L : Lk} (h : Ps w X pv L.procs) (hX : X ≤ w.heap.size) (hs : L.procs.length ≤ 1048576) (s : Int) : Calls Try.prog 21 #[.agg (lkL L.tramp pv fv iv qv rv lv L.ticks L.next L.free).toArray, .int .i64 s] w (KdP w (kids s L.procs)) := by
  obtain ⟨pp, pc, rfl⟩ := h.form
  obtain ⟨np, hnp⟩ : ∃ n, n = L.procs.length := ⟨_, rfl⟩
  rw [← hnp] at h hs ⊢
  have HP : Hid (Ps w X (.slice pp np pc) L.procs ∧ np = L.procs.length) := ⟨h, hnp⟩
  clear h hnp
  obtain ⟨lc, hlc⟩ : ∃ lc, lc = lkL L.tramp (.slice pp np pc) fv iv qv rv lv L.ticks L.next L.free := ⟨_, rfl⟩
  rw [← hlc]
  have HL : Hid (lc[1]? = some (.slice pp np pc) ∧ lc.length = 10) := by rw [hlc]; exact ⟨rfl, rfl⟩
  clear hlc
  obtain ⟨z, hz⟩ : ∃ z, z = w.heap.size := ⟨_, rfl⟩
  have HZ : Hid (z = w.heap.size) := hz
  go_enter Try.func21, Try.ntmps21
  go_wp2_with (first
    | (refine wpList_is (.box 33 (.tmp 0)) rfl ?_; refine wpList_boxG 33 lc 2 (.tmp 0) _ rfl rfl rfl rfl ?_; intro W1 hW1 hB1 hs1; rw [← hz] at hW1 hB1 hs1 ⊢; clear hz)
    | fail)
  have HO : Hid (Owns W1 z ([bx 33 10 z lc] ++ [⟨3, 1, (kids s (L.procs.take 0)).length, .slice none 0 0, (kids s (L.procs.take 0)).map (.int .i64)⟩]) ∧ Below z w W1) := by
    have hz := HZ.out
    have o1 := (Owns.nil w z).new (k := 10) (by rw [← hz]; exact hW1) (by rw [← hz]; exact hB1) HL.out.2 (by omega)
    rw [← hz] at o1
    have o2 : Owns W1 z (⟨3, 1, (kids s (L.procs.take 0)).length, .slice none 0 0, (kids s (L.procs.take 0)).map (.int .i64)⟩ :: _) := o1.push (r := ⟨3, 1, (kids s (L.procs.take 0)).length, .slice none 0 0, (kids s (L.procs.take 0)).map (.int .i64)⟩) (Below.refl _ _) (World.ownsRow_nil _ _ _ _) (by omega)
    exact ⟨o2.perm (List.Perm.swap _ _ _), hB1⟩
  clear hW1 hB1 hs1
  go_loopw [5, 6] (fun v5 k wr => ∃ (i : Nat), i ≤ np ∧ k = .int .i64 i ∧ Hid (Owns wr z ([bx 33 10 z lc] ++ [⟨3, 1, (kids s (L.procs.take i)).length, v5, (kids s (L.procs.take i)).map (.int .i64)⟩]) ∧ Below z w wr)) (fun _ v _ => (np - intOf v).toNat)
  case atStart => exact ⟨0, by omega, rfl, HO.out⟩
  case round =>
    clear HO
    obtain ⟨i, hi, rfl, HB⟩ := hrel
    have d1 := (HB.out.1.cell (t := 33) (k := 10) (b := z) (cs := lc) (by simp) 1).1
    rw [HL.out.1] at d1
    by_cases hin : i < np
    · have i1 : (i : Int) < np := by omega
      obtain ⟨-, b, o, x, cs, rfl, hbX, hx, ⟨nv, gv, rfl, hN, hG⟩, hcl, hr⟩ := HP.out.1.at hin
      have hr' := range_keep hr HB.out.2 (by have := HZ.out; omega : b < z)
      have a0 := hr' 0 _ rfl
      rw [Nat.add_zero] at a0
      have a3 := hr' 3 _ rfl
      have HE : Hid (L.procs.take (i + 1) = L.procs.take i ++ [x]) := by show _ = _; rw [List.take_add_one, hx]; rfl
      have hlen : (kids s (L.procs.take i)).length ≤ 1048576 := by
        have h1 := List.length_filter_le (fun p : Pc => p.c 3 == s && p.c 0 != s) (L.procs.take i)
        rw [List.length_take] at h1
        unfold kids
        rw [List.length_map]
        omega
      have hbase : z ≤ wr.heap.size := by have := HZ.out; have := HB.out.2.size; omega
      have hl10 : (kids s (L.procs.take i)).length ≤ 10000000 := by omega
      clear hr hcl hbX hx hN hG hr' hlen
      have HCAN : Hid ((x.c 3 == s && x.c 0 != s) = false → Owns wr z ([bx 33 10 z lc] ++ [⟨3, 1, (kids s (L.procs.take (i + 1))).length, u5, (kids s (L.procs.take (i + 1))).map (.int .i64)⟩]) ∧ Below z w wr) := fun hc => by
        rw [HE.out, kids_app, if_neg (by rw [hc]; simp)]
        exact HB.out
      cases hb : (x.c 3 == s)
      · have HBB : Hid ((x.c 3 == s && x.c 0 != s) = false) := by show _ = _; rw [hb]; rfl
        go_wp2
        exact ⟨⟨i + 1, by omega, by go_num, HCAN.out HBB.out⟩, by simp [intOf]; omega⟩
      · cases hb2 : (x.c 0 != s)
        · have HBB : Hid ((x.c 3 == s && x.c 0 != s) = false) := by show _ = _; rw [hb, hb2]; rfl
          go_wp2
          exact ⟨⟨i + 1, by omega, by go_num, HCAN.out HBB.out⟩, by simp [intOf]; omega⟩
        · have HBB : Hid ((x.c 3 == s && x.c 0 != s) = true) := by show _ = _; rw [hb, hb2]; rfl
          obtain ⟨i3, z3, hi3, hz3, hs3, hb3, hzs3⟩ := int_info
          have HRow : Hid (∀ ob, (wr.alloc ob).ownsRow z 3 1 u5 (kids s (L.procs.take i)).length ((kids s (L.procs.take i)).map (.int .i64))) := fun ob => World.ownsRow.alloc (HB.out.1.own ⟨3, 1, (kids s (L.procs.take i)).length, u5, (kids s (L.procs.take i)).map (.int .i64)⟩ (by simp)) ob
          obtain ⟨m, hm⟩ : ∃ m, m = (kids s (L.procs.take i)).length := ⟨_, rfl⟩
          have HM : Hid (m = (kids s (L.procs.take i)).length) := hm
          rw [← hm] at HRow hl10
          clear hm
          go_wp2_with (first
            | (at_builtin; refine wpList_append_own_at _ rfl _ _ 68 rfl z 3 i3 z3 1 8 Try.underlying68 hi3 hz3 hs3 hb3 hzs3 (by decide) _ m ((kids s (L.procs.take i)).map (.int .i64)) rfl (HRow.out _) ⟨wr.heap.size, 0, .none⟩ 1 1 [.int .i64 (x.c 0)] rfl rfl (cell_one_new _ _ _) (by simp [Value.oneCell']) (by unfold maxLen; omega) (by omega) (by simp only [World.size_alloc]; omega) ?_; intro v5 w5 hO5 hg5 _ hat5)
            | fail)
          have hBA : Below z w (wr.alloc (.cells #[.int .i64 (x.c 0)] 3)) := HB.out.2.alloc hbase _
          refine ⟨⟨i + 1, by omega, by go_num, ?_, hBA.grown hg5 (by simp; omega) (fun k hk => ((HRow.out (.cells #[.int .i64 (x.c 0)] 3)).lt k hk).1)⟩, by simp [intOf]; omega⟩
          rw [HE.out, kids_app, if_pos HBB.out, List.length_append, ← HM.out, List.map_append]
          have oA := HB.out.1.alloc (.cells #[.int .i64 (x.c 0)] 3)
          exact oA.appAt (A := [bx 33 10 z lc]) (B := []) (r' := ⟨3, 1, m + 1, v5, (kids s (L.procs.take i)).map (.int .i64) ++ [.int .i64 (x.c 0)]⟩) hO5 hg5 hat5
    · have i1 : ¬ (i : Int) < np := by omega
      obtain rfl : i = np := by omega
      have HQ : Hid (wr.ownsRow w.heap.size 3 1 u5 (kids s L.procs).length ((kids s L.procs).map (.int .i64)) ∧ Below w.heap.size w wr) := by
        have h1 := HB.out
        rw [List.take_of_length_le (by have := HP.out.2; omega)] at h1
        rw [← HZ.out]
        exact ⟨h1.1.own ⟨3, 1, (kids s L.procs).length, u5, (kids s L.procs).map (.int .i64)⟩ (by simp), h1.2⟩
      clear HB
      go_wp2
      go_ret
      exact ⟨_, rfl, HQ.out⟩
end Go.Proofs.Ythopgmmodldljaa
