import Derived.Test.YtblmkkhiojbcjaaGreatGk
namespace Go.Proofs.YtblmkkhiojbcjaaGreat
open Go Go.RowKit Fz
set_option linter.unusedVariables false
set_option linter.unusedSimpArgs false
/-- The frames of a space's pages. -/
def frL (fr : Nat → Nat) (k : Nat) : List Int := (List.range k).map fun (i : Nat) => ad (fr i)
theorem frL_len (fr : Nat → Nat) (k : Nat) : (frL fr k).length = k := by unfold frL; simp
theorem frL_succ (fr : Nat → Nat) (k : Nat) : frL fr (k + 1) = frL fr k ++ [ad (fr k)] := by unfold frL; rw [List.range_succ, List.map_append]; rfl
theorem wv_len (l : List Int) : (wv l).length = l.length := by unfold wv; simp
theorem wv_app (l : List Int) (x : Int) : wv (l ++ [x]) = wv l ++ [.int .u64 x] := by unfold wv; simp
theorem wv_get {l : List Int} {i : Nat} {x : Int} (h : l[i]? = some x) : (wv l)[i]? = some (.int .u64 x) := by unfold wv; rw [List.getElem?_map, h]; rfl
/-- What frames comes to. -/
def FmP (w : World) (n P : Nat) (xs : List Int) (fr : Nat → Nat) (e : Ending) (w' : World) : Prop := ∃ ys q cq, e = .returned (.tuple #[.slice q (n + P : Nat) cq, .bool true]) ∧ (ys.Perm xs ∧ ys.Pairwise (· < ·)) ∧ w'.ownsRow w.heap.size 23 1 (.slice q (n + P : Nat) cq) (n + P) (wv (ys ++ frL fr P)) ∧ Below w.heap.size w w'
/-- The first loop, and the second. -/
def FmI (w3 : World) (ys : List Int) (k : Nat) (v : Value) (W : World) : Prop := (∃ q c, v = .slice q k c) ∧ W.ownsRow w3.heap.size 23 1 v k (wv (ys.take k)) ∧ Below w3.heap.size w3 W
def FmJ (w3 : World) (ys : List Int) (n : Nat) (fr : Nat → Nat) (k : Nat) (v : Value) (W : World) : Prop := (∃ q c, v = .slice q (n + k : Nat) c) ∧ W.ownsRow w3.heap.size 23 1 v (n + k) (wv (ys ++ frL fr k)) ∧ Below w3.heap.size w3 W
section
variable {w : World} {s p b m N r P ft : Nat} {size : Int} {B : Nat → Int} {L : List Nat} {F : Nat → Option Nat} {lf : Nat → Nat → Int} {fr : Nat → Nat} {c : Nat → Int}
set_option maxRecDepth 10000 in
set_option maxHeartbeats 4000000 in
theorem frames_sp (h : SpT w s p b m N r P ft size B L F lf fr c) (hn : nodesF F + 1 ≤ 12) : Calls Tryz.prog 36 #[.pointer (some ⟨s, 0, .none⟩)] w (FmP w (nodesF F + 1) P (ndl r (evs F lf 0)) fr) := by
  have c21 := slook_any h hn
  unfold LkP at c21
  have hnl := h.ndlen
  have hnd := ndl_nodup h.tab.pt h.ram.mem.n2 h.tab.rt
  have hnp := h.tab.nodes h.pm
  have hpm := h.pm
  have hsz := h.sz
  obtain ⟨j0, hj0, hjz, hj1, hj2⟩ := info28'
  generalize ndl r (evs F lf 0) = xs at *
  have hnq : ((nodesF F + 1 : Nat) : Int) = ndP P := by omega
  obtain ⟨n, hnn⟩ : ∃ n, n = nodesF F + 1 := ⟨_, rfl⟩
  rw [← hnn] at c21 hnl hn hnq ⊢
  have H0 : Hid (SpT w s p b m N r P ft size B L F lf fr c ∧ xs.length = n ∧ xs.Nodup ∧ (n : Int) = ndP P ∧ (size + 4095) / 4096 = P) := ⟨h, hnl, hnd, hnq, hsz.2⟩
  clear h hnl hnd hnp hnq hnn
  go_enter Tryz.func36, Tryz.ntmps36
  go_upto_region 2 with (go_at_call 21; refine c21.mono ?_; rintro _ w3 ⟨g, cp, ys, q, cq, rfl, ⟨y1, y2⟩, o1, o2, b3⟩; have H3 : Hid (ys.Perm xs ∧ ys.Pairwise (· < ·) ∧ w3.ownsRow w.heap.size 23 1 (.slice (some ⟨g, 0, .none⟩) n cp) n (wv ys) ∧ w3.ownsRow w.heap.size 99 3 (.slice q P cq) P (pcs (lkP fr c P)) ∧ Below w.heap.size w w3) := ⟨y1, sorted_lt (y1.nodup_iff.2 H0.out.2.2.1) y2, o1, o2, b3⟩; clear y1 y2 o1 o2 b3 c21)
  have S3 := H0.out.1.below H3.out.2.2.2.2
  have c19 := pages_sp S3.sp (by omega)
  rw [hsz.2] at c19
  have c10 := size_sp S3.sp
  have c32 := fun W => ndP_any P (by omega) W
  rw [← H0.out.2.2.2.1] at c32
  clear S3
  have e1 : IntKind.u64.wrap (P : Int) = P := by rw [IntKind.wrap_u64]; omega
  have e2 : IntKind.u64.wrap (size + 4095) = size + 4095 := by rw [IntKind.wrap_u64]; omega
  have e3 : (size + 4095).tdiv 4096 = P := by rw [Int.tdiv_eq_ediv_of_nonneg (by omega)]; exact hsz.2
  have hyl : ys.length = n := by rw [H3.out.1.length_eq]; exact H0.out.2.1
  go_upto_region 5 with first | (go_at_call 19; refine c19.mono ?_; rintro _ w1 ⟨rfl, q1⟩; obtain rfl : w3 = w1 := q1.symm) | (go_at_call 32; refine (c32 _).mono ?_; rintro _ w1 ⟨rfl, q1⟩; obtain rfl : w3 = w1 := q1.symm) | (go_at_call 10; refine c10.mono ?_; rintro _ w1 ⟨rfl, q1⟩; obtain rfl : w3 = w1 := q1.symm)
  go_wp2_with fail
  go_loopw [7, 8] (fun v k wr => ∃ i : Nat, i ≤ n ∧ k = .int .i64 i ∧ Hid (FmI w3 ys i v wr)) (fun _ k _ => (n - intOf k).toNat)
  case atStart => exact ⟨0, by omega, rfl, ⟨none, 0, rfl⟩, World.ownsRow_nil _ _ _ _, Below.refl _ _⟩
  case round =>
    obtain ⟨i0, hi0, rfl, HI⟩ := hrel
    obtain ⟨⟨qq, cc, rfl⟩, hI2⟩ := HI.out
    clear hI2
    by_cases hin : i0 < n
    · have hlt : (i0 : Int) < n := by omega
      obtain ⟨x, hx⟩ : ∃ x, ys[i0]? = some x := ⟨ys[i0]'(by omega), List.getElem?_eq_getElem _⟩
      have HX : Hid (ys[i0]? = some x) := hx
      have kx0 : wr.cell? ⟨g, i0, .none⟩ = some (.int .u64 x) := by
        rw [HI.out.2.2.cell (p := ⟨g, i0, .none⟩) (own_lt H3.out.2.2.1).2.1, H3.out.2.2.1.cellAt i0 (by omega)]
        exact wv_get hx
      have hb1 : ¬ (n : Int) ≤ i0 := by omega
      have hb2 : ¬ n ≤ i0 := by omega
      cases i0 with
      | zero =>
            clear hx
            go_upto_region 9 with fail
            refine wp_region_held_drew (S := (fun _ => True)) (by kernel_rfl) trivial (fun hHeld => ?_)
            refine wpAnyH_take (i := 0) (v := (.int .i64 ((0 : Nat) : Int))) rfl (by kernel_rfl) (by kernel_rfl) (by kernel_rfl) (fun _ _ _ h => h) (Or.inl ⟨by rfl, fun ww hSw => by (try dsimp only at hSw); go_simp⟩) (by assumption) ?_
            simp only [Act.put, List.setIfInBounds_toArray, List.set_cons_zero, List.set_cons_succ, List.getElem_toArray, List.getElem_cons_succ, List.getElem_cons_zero]
            refine wpAnyH_take (i := 1) (v := (.bool false)) rfl (by kernel_rfl) (by kernel_rfl) (by kernel_rfl) (fun _ _ _ h => h) (Or.inl ⟨by rfl, fun ww hSw => by (try dsimp only at hSw); go_simp⟩) (by assumption) ?_
            simp only [Act.put, List.setIfInBounds_toArray, List.set_cons_zero, List.set_cons_succ, List.getElem_toArray, List.getElem_cons_succ, List.getElem_cons_zero]
            refine wpAnyH_take (i := 2) (v := (.bool false)) rfl (by kernel_rfl) (by kernel_rfl) (by kernel_rfl) (fun _ _ _ h => h) (Or.inl ⟨by rfl, fun ww hSw => by (try dsimp only at hSw); go_simp⟩) (by assumption) ?_
            simp only [Act.put, List.setIfInBounds_toArray, List.set_cons_zero, List.set_cons_succ, List.getElem_toArray, List.getElem_cons_succ, List.getElem_cons_zero]
            refine wpAnyH_take (i := 3) (v := undef) rfl (by kernel_rfl) (by kernel_rfl) (by kernel_rfl) (fun _ _ _ h => h) (Or.inr ⟨by rfl, rfl⟩) (by assumption) ?_
            simp only [Act.put, List.setIfInBounds_toArray, List.set_cons_zero, List.set_cons_succ, List.getElem_toArray, List.getElem_cons_succ, List.getElem_cons_zero]
            refine wpAnyH_take (i := 4) (v := undef) rfl (by kernel_rfl) (by kernel_rfl) (by kernel_rfl) (fun _ _ _ h => h) (Or.inr ⟨by rfl, rfl⟩) (by assumption) ?_
            simp only [Act.put, List.setIfInBounds_toArray, List.set_cons_zero, List.set_cons_succ, List.getElem_toArray, List.getElem_cons_succ, List.getElem_cons_zero]
            refine wpAnyH_take (i := 5) (v := undef) rfl (by kernel_rfl) (by kernel_rfl) (by kernel_rfl) (fun _ _ _ h => h) (Or.inr ⟨by rfl, rfl⟩) (by assumption) ?_
            simp only [Act.put, List.setIfInBounds_toArray, List.set_cons_zero, List.set_cons_succ, List.getElem_toArray, List.getElem_cons_succ, List.getElem_cons_zero]
            refine wpAnyH_take (i := 6) (v := undef) rfl (by kernel_rfl) (by kernel_rfl) (by kernel_rfl) (fun _ _ _ h => h) (Or.inr ⟨by rfl, rfl⟩) (by assumption) ?_
            simp only [Act.put, List.setIfInBounds_toArray, List.set_cons_zero, List.set_cons_succ, List.getElem_toArray, List.getElem_cons_succ, List.getElem_cons_zero]
            refine wpAnyH_take (i := 7) (v := undef) rfl (by kernel_rfl) (by kernel_rfl) (by kernel_rfl) (fun _ _ _ h => h) (Or.inr ⟨by rfl, rfl⟩) (by assumption) ?_
            simp only [Act.put, List.setIfInBounds_toArray, List.set_cons_zero, List.set_cons_succ, List.getElem_toArray, List.getElem_cons_succ, List.getElem_cons_zero]
            refine wpAnyH_take (i := 8) (v := undef) rfl (by kernel_rfl) (by kernel_rfl) (by kernel_rfl) (fun _ _ _ h => h) (Or.inr ⟨by rfl, rfl⟩) (by assumption) ?_
            simp only [Act.put, List.setIfInBounds_toArray, List.set_cons_zero, List.set_cons_succ, List.getElem_toArray, List.getElem_cons_succ, List.getElem_cons_zero]
            refine wpAnyH_take (i := 9) (v := undef) rfl (by kernel_rfl) (by kernel_rfl) (by kernel_rfl) (fun _ _ _ h => h) (Or.inr ⟨by rfl, rfl⟩) (by assumption) ?_
            simp only [Act.put, List.setIfInBounds_toArray, List.set_cons_zero, List.set_cons_succ, List.getElem_toArray, List.getElem_cons_succ, List.getElem_cons_zero]
            refine wpAnyH_take (i := 10) (v := undef) rfl (by kernel_rfl) (by kernel_rfl) (by kernel_rfl) (fun _ _ _ h => h) (Or.inr ⟨by rfl, rfl⟩) (by assumption) ?_
            simp only [Act.put, List.setIfInBounds_toArray, List.set_cons_zero, List.set_cons_succ, List.getElem_toArray, List.getElem_cons_succ, List.getElem_cons_zero]
            refine wpAnyH_take (i := 11) (v := undef) rfl (by kernel_rfl) (by kernel_rfl) (by kernel_rfl) (fun _ _ _ h => h) (Or.inr ⟨by rfl, rfl⟩) (by assumption) ?_
            simp only [Act.put, List.setIfInBounds_toArray, List.set_cons_zero, List.set_cons_succ, List.getElem_toArray, List.getElem_cons_succ, List.getElem_cons_zero]
            refine wpAnyH_take (i := 12) (v := undef) rfl (by kernel_rfl) (by kernel_rfl) (by kernel_rfl) (fun _ _ _ h => h) (Or.inr ⟨by rfl, rfl⟩) (by assumption) ?_
            simp only [Act.put, List.setIfInBounds_toArray, List.set_cons_zero, List.set_cons_succ, List.getElem_toArray, List.getElem_cons_succ, List.getElem_cons_zero]
            refine wpAnyH_take (i := 13) (v := (.bool false)) rfl (by kernel_rfl) (by kernel_rfl) (by kernel_rfl) (fun _ _ _ h => h) (Or.inl ⟨by rfl, fun ww hSw => by (try dsimp only at hSw); go_simp⟩) (by assumption) ?_
            simp only [Act.put, List.setIfInBounds_toArray, List.set_cons_zero, List.set_cons_succ, List.getElem_toArray, List.getElem_cons_succ, List.getElem_cons_zero]
            refine wpAnyH_done (by kernel_rfl) ?_ _
            have kx : wr.drew.cell? ⟨g, 0, .none⟩ = some (.int .u64 x) := kx0
            obtain ⟨wd, hwd⟩ : ∃ wd, wd = wr.drew := ⟨_, rfl⟩
            rw [← hwd]
            have kxd : wd.cell? ⟨g, 0, .none⟩ = some (.int .u64 x) := by rw [hwd]; exact kx0
            have HO : Hid (wd.ownsRow w3.heap.size 23 1 (.slice qq (0 : Nat) cc) (0) (wv (ys.take (0)))) := by rw [hwd]; exact HI.out.2.1.drew
            have HOA : Hid (∀ o, (wd.alloc o).ownsRow w3.heap.size 23 1 (.slice qq (0 : Nat) cc) (0) (wv (ys.take (0)))) := fun o => HO.out.alloc o
            have HB : Hid (Below w3.heap.size w3 wd) := by rw [hwd]; exact HI.out.2.2.drew
            clear hwd kx kx0
            go_wp2_with (first | (at_builtin; (refine wpList_append_own _ rfl _ _ 22 rfl w3.heap.size 23 j0 (.int .u64 0) 1 8 Tryz.underlying22 hj0 hjz hj1 hj2 rfl (by decide) _ _ (wv (ys.take (0))) rfl (HOA.out _) ⟨wd.heap.size, 0, .none⟩ 1 1 [.int .u64 x] rfl rfl (cell_one_new _ _ _) (by simp [Value.oneCell']) (by unfold maxLen; omega) (by omega) (by simp only [World.size_alloc]; exact Nat.le_succ_of_le HB.out.size) ?_); intro v' w5 hown5 hgrow _) | fail)
            have hBA : Below w3.heap.size w3 (wd.alloc (.cells #[.int .u64 x] 23)) := HB.out.alloc HB.out.size _
            have hB5 : Below w3.heap.size w3 w5 := hBA.grown hgrow hBA.size (fun k hk => (HO.out.lt k hk).1)
            obtain ⟨g2, cap2, rfl⟩ := ownsRow_some hown5
            refine ⟨⟨0 + 1, by omega, by simp, ⟨_, _, rfl⟩, ?_, hB5⟩, by simp only [intOf]; omega⟩
            have e9 : wv (ys.take (0 + 1)) = wv (ys.take (0)) ++ [.int .u64 x] := by rw [List.take_add_one, HX.out, Option.toList_some, wv_app]
            rw [e9]
            exact hown5
      | succ i =>
            obtain ⟨y, hy⟩ : ∃ y, ys[i]? = some y := ⟨ys[i]'(by omega), List.getElem?_eq_getElem _⟩
            have ky0 : wr.cell? ⟨g, i, .none⟩ = some (.int .u64 y) := by
              rw [HI.out.2.2.cell (p := ⟨g, i, .none⟩) (own_lt H3.out.2.2.1).2.1, H3.out.2.2.1.cellAt i (by omega)]
              exact wv_get hy
            have hyx : ¬ x ≤ y := by
              have := List.pairwise_iff_getElem.1 H3.out.2.1 i (i + 1) (by omega) (by omega) (by omega)
              rw [List.getElem?_eq_getElem (by omega)] at hx hy
              have e1 := Option.some.inj hx
              have e2 := Option.some.inj hy
              rw [e1, e2] at this
              omega
            clear hx hy
            have kx : wr.drew.cell? ⟨g, i + 1, .none⟩ = some (.int .u64 x) := kx0
            have ky : wr.drew.cell? ⟨g, i, .none⟩ = some (.int .u64 y) := ky0
            have hpos : (0 : Int) < ((i + 1 : Nat) : Int) := by omega
            have hp1 : (0 : Int) ≤ (i : Int) + 1 := by omega
            have hp0 : (0 : Int) ≤ (i : Int) := by omega
            have hc1 : ¬ (n : Int) ≤ (i : Int) + 1 := by omega
            have hc0 : ¬ (n : Int) ≤ (i : Int) := by omega
            have hd0 : ¬ n ≤ i := by omega
            have hwj : IntKind.i64.wrap (i : Int) = i := by rw [IntKind.wrap_i64]; omega
            go_upto_region 9 with fail
            refine wp_region_held_drew (S := (fun U => U.cell? ⟨g, i + 1, .none⟩ = some (.int .u64 x) ∧ U.cell? ⟨g, i, .none⟩ = some (.int .u64 y))) (by kernel_rfl) ⟨kx, ky⟩ (fun hHeld => ?_)
            refine wpAnyH_take (i := 0) (v := (.int .i64 ((i + 1 : Nat) : Int))) rfl (by kernel_rfl) (by kernel_rfl) (by kernel_rfl) (fun _ _ _ h => h) (Or.inl ⟨by rfl, fun ww hSw => by (try dsimp only at hSw); go_simp⟩) (by assumption) ?_
            simp only [Act.put, List.setIfInBounds_toArray, List.set_cons_zero, List.set_cons_succ, List.getElem_toArray, List.getElem_cons_succ, List.getElem_cons_zero]
            refine wpAnyH_take (i := 1) (v := (.bool true)) rfl (by kernel_rfl) (by kernel_rfl) (by kernel_rfl) (fun _ _ _ h => h) (Or.inl ⟨by rfl, fun ww hSw => by (try dsimp only at hSw); go_simp⟩) (by assumption) ?_
            simp only [Act.put, List.setIfInBounds_toArray, List.set_cons_zero, List.set_cons_succ, List.getElem_toArray, List.getElem_cons_succ, List.getElem_cons_zero]
            refine wpAnyH_take (i := 2) (v := (.bool true)) rfl (by kernel_rfl) (by kernel_rfl) (by kernel_rfl) (fun _ _ _ h => h) (Or.inl ⟨by rfl, fun ww hSw => by (try dsimp only at hSw); go_simp⟩) (by assumption) ?_
            simp only [Act.put, List.setIfInBounds_toArray, List.set_cons_zero, List.set_cons_succ, List.getElem_toArray, List.getElem_cons_succ, List.getElem_cons_zero]
            refine wpAnyH_take (i := 3) (v := (.slice (some ⟨g, 0, .none⟩) n cp)) rfl (by kernel_rfl) (by kernel_rfl) (by kernel_rfl) (fun _ _ _ h => h) (Or.inl ⟨by rfl, fun ww hSw => by (try dsimp only at hSw); go_simp⟩) (by assumption) ?_
            simp only [Act.put, List.setIfInBounds_toArray, List.set_cons_zero, List.set_cons_succ, List.getElem_toArray, List.getElem_cons_succ, List.getElem_cons_zero]
            refine wpAnyH_take (i := 4) (v := (.int .i64 ((i + 1 : Nat) : Int))) rfl (by kernel_rfl) (by kernel_rfl) (by kernel_rfl) (fun _ _ _ h => h) (Or.inl ⟨by rfl, fun ww hSw => by (try dsimp only at hSw); go_simp⟩) (by assumption) ?_
            simp only [Act.put, List.setIfInBounds_toArray, List.set_cons_zero, List.set_cons_succ, List.getElem_toArray, List.getElem_cons_succ, List.getElem_cons_zero]
            refine wpAnyH_take (i := 5) (v := (.pointer (some ⟨g, i + 1, .none⟩))) rfl (by kernel_rfl) (by kernel_rfl) (by kernel_rfl) (fun _ _ _ h => h) (Or.inl ⟨by rfl, fun ww hSw => by (try dsimp only at hSw); go_simp⟩) (by assumption) ?_
            simp only [Act.put, List.setIfInBounds_toArray, List.set_cons_zero, List.set_cons_succ, List.getElem_toArray, List.getElem_cons_succ, List.getElem_cons_zero]
            refine wpAnyH_take (i := 6) (v := (.int .u64 x)) rfl (by kernel_rfl) (by kernel_rfl) (by kernel_rfl) (fun _ _ _ h => h) (Or.inl ⟨by rfl, fun ww hSw => by (try dsimp only at hSw); go_simp⟩) (by assumption) ?_
            simp only [Act.put, List.setIfInBounds_toArray, List.set_cons_zero, List.set_cons_succ, List.getElem_toArray, List.getElem_cons_succ, List.getElem_cons_zero]
            refine wpAnyH_take (i := 7) (v := (.slice (some ⟨g, 0, .none⟩) n cp)) rfl (by kernel_rfl) (by kernel_rfl) (by kernel_rfl) (fun _ _ _ h => h) (Or.inl ⟨by rfl, fun ww hSw => by (try dsimp only at hSw); go_simp⟩) (by assumption) ?_
            simp only [Act.put, List.setIfInBounds_toArray, List.set_cons_zero, List.set_cons_succ, List.getElem_toArray, List.getElem_cons_succ, List.getElem_cons_zero]
            refine wpAnyH_take (i := 8) (v := (.int .i64 ((i + 1 : Nat) : Int))) rfl (by kernel_rfl) (by kernel_rfl) (by kernel_rfl) (fun _ _ _ h => h) (Or.inl ⟨by rfl, fun ww hSw => by (try dsimp only at hSw); go_simp⟩) (by assumption) ?_
            simp only [Act.put, List.setIfInBounds_toArray, List.set_cons_zero, List.set_cons_succ, List.getElem_toArray, List.getElem_cons_succ, List.getElem_cons_zero]
            refine wpAnyH_take (i := 9) (v := (.int .i64 i)) rfl (by kernel_rfl) (by kernel_rfl) (by kernel_rfl) (fun _ _ _ h => h) (Or.inl ⟨by rfl, fun ww hSw => by (try dsimp only at hSw); go_simp⟩) (by assumption) ?_
            simp only [Act.put, List.setIfInBounds_toArray, List.set_cons_zero, List.set_cons_succ, List.getElem_toArray, List.getElem_cons_succ, List.getElem_cons_zero]
            refine wpAnyH_take (i := 10) (v := (.pointer (some ⟨g, i, .none⟩))) rfl (by kernel_rfl) (by kernel_rfl) (by kernel_rfl) (fun _ _ _ h => h) (Or.inl ⟨by rfl, fun ww hSw => by (try dsimp only at hSw); go_simp⟩) (by assumption) ?_
            simp only [Act.put, List.setIfInBounds_toArray, List.set_cons_zero, List.set_cons_succ, List.getElem_toArray, List.getElem_cons_succ, List.getElem_cons_zero]
            refine wpAnyH_take (i := 11) (v := (.int .u64 y)) rfl (by kernel_rfl) (by kernel_rfl) (by kernel_rfl) (fun _ _ _ h => h) (Or.inl ⟨by rfl, fun ww hSw => by (try dsimp only at hSw); go_simp⟩) (by assumption) ?_
            simp only [Act.put, List.setIfInBounds_toArray, List.set_cons_zero, List.set_cons_succ, List.getElem_toArray, List.getElem_cons_succ, List.getElem_cons_zero]
            refine wpAnyH_take (i := 12) (v := (.bool false)) rfl (by kernel_rfl) (by kernel_rfl) (by kernel_rfl) (fun _ _ _ h => h) (Or.inl ⟨by rfl, fun ww hSw => by (try dsimp only at hSw); go_simp⟩) (by assumption) ?_
            simp only [Act.put, List.setIfInBounds_toArray, List.set_cons_zero, List.set_cons_succ, List.getElem_toArray, List.getElem_cons_succ, List.getElem_cons_zero]
            refine wpAnyH_take (i := 13) (v := (.bool false)) rfl (by kernel_rfl) (by kernel_rfl) (by kernel_rfl) (fun _ _ _ h => h) (Or.inl ⟨by rfl, fun ww hSw => by (try dsimp only at hSw); go_simp⟩) (by assumption) ?_
            simp only [Act.put, List.setIfInBounds_toArray, List.set_cons_zero, List.set_cons_succ, List.getElem_toArray, List.getElem_cons_succ, List.getElem_cons_zero]
            refine wpAnyH_done (by kernel_rfl) ?_ _
            obtain ⟨wd, hwd⟩ : ∃ wd, wd = wr.drew := ⟨_, rfl⟩
            rw [← hwd]
            have kxd : wd.cell? ⟨g, i + 1, .none⟩ = some (.int .u64 x) := by rw [hwd]; exact kx0
            have HO : Hid (wd.ownsRow w3.heap.size 23 1 (.slice qq (i + 1 : Nat) cc) (i + 1) (wv (ys.take (i + 1)))) := by rw [hwd]; exact HI.out.2.1.drew
            have HOA : Hid (∀ o, (wd.alloc o).ownsRow w3.heap.size 23 1 (.slice qq (i + 1 : Nat) cc) (i + 1) (wv (ys.take (i + 1)))) := fun o => HO.out.alloc o
            have HB : Hid (Below w3.heap.size w3 wd) := by rw [hwd]; exact HI.out.2.2.drew
            clear hwd kx kx0
            go_wp2_with (first | (at_builtin; (refine wpList_append_own _ rfl _ _ 22 rfl w3.heap.size 23 j0 (.int .u64 0) 1 8 Tryz.underlying22 hj0 hjz hj1 hj2 rfl (by decide) _ _ (wv (ys.take (i + 1))) rfl (HOA.out _) ⟨wd.heap.size, 0, .none⟩ 1 1 [.int .u64 x] rfl rfl (cell_one_new _ _ _) (by simp [Value.oneCell']) (by unfold maxLen; omega) (by omega) (by simp only [World.size_alloc]; exact Nat.le_succ_of_le HB.out.size) ?_); intro v' w5 hown5 hgrow _) | fail)
            have hBA : Below w3.heap.size w3 (wd.alloc (.cells #[.int .u64 x] 23)) := HB.out.alloc HB.out.size _
            have hB5 : Below w3.heap.size w3 w5 := hBA.grown hgrow hBA.size (fun k hk => (HO.out.lt k hk).1)
            obtain ⟨g2, cap2, rfl⟩ := ownsRow_some hown5
            refine ⟨⟨i + 1 + 1, by omega, by simp, ⟨_, _, rfl⟩, ?_, hB5⟩, by simp only [intOf]; omega⟩
            have e9 : wv (ys.take (i + 1 + 1)) = wv (ys.take (i + 1)) ++ [.int .u64 x] := by rw [List.take_add_one, HX.out, Option.toList_some, wv_app]
            rw [e9]
            exact hown5
    · have hlt : ¬ (i0 : Int) < n := by omega
      have HJ0 : Hid (FmJ w3 ys n fr 0 (.slice qq i0 cc) wr) := by
        have e0 : i0 = n := by omega
        subst e0
        refine ⟨⟨qq, cc, rfl⟩, ?_, HI.out.2.2⟩
        have := HI.out.2.1
        rw [List.take_of_length_le (by omega)] at this
        rw [show frL fr 0 = [] from rfl, List.append_nil]
        exact this
      clear HI
      go_wp2_with fail
      go_loopw [7, 9] (fun v k wk => ∃ i : Nat, i ≤ P ∧ k = .int .i64 i ∧ Hid (FmJ w3 ys n fr i v wk)) (fun _ k _ => (P - intOf k).toNat)
      case atStart => exact ⟨0, by omega, rfl, HJ0⟩
      case round =>
        clear HJ0
        obtain ⟨i, hi, rfl, HI⟩ := hrel
        obtain ⟨⟨q7, c7, rfl⟩, hI2⟩ := HI.out
        clear hI2
        by_cases hiP : i < P
        · have hlt2 : (i : Int) < P := by omega
          have hb1 : ¬ (P : Int) ≤ i := by omega
          have hb2 : ¬ P ≤ i := by omega
          have hwi : IntKind.u64.wrap (i : Int) = i := by rw [IntKind.wrap_u64]; omega
          obtain ⟨P1, hP1⟩ : ∃ P1, P = P1 + 1 := ⟨P - 1, by omega⟩
          obtain ⟨gq, capq, hq⟩ : ∃ gq capq, Value.slice q P cq = .slice (some ⟨gq, 0, .none⟩) P capq := by
            have h9 := H3.out.2.2.2.1
            rcases h9.2 with ⟨_, h0⟩ | ⟨g9, c9, cur, hv, _⟩
            · omega
            · exact ⟨g9, c9, hv⟩
          injection hq with hq1 hq2 hq3
          subst hq1
          clear hq2 hq3 hP1
          have hgq := own_lt H3.out.2.2.2.1
          have hge : (lkP fr c P)[i]? = some ((i : Int), ad (fr i), bits .and .u64 (toP (ad (fr i)) (c i)) 30) := by unfold lkP; rw [List.getElem?_map, List.getElem?_range hiP]; rfl
          have hcells := pcs_get _ _ _ hge
          have k0 : wr.cell? ⟨gq, i * 3, .none⟩ = some (.int .u64 (i : Int)) := by
            rw [HI.out.2.2.cell (p := ⟨gq, i * 3, .none⟩) hgq.2.1, H3.out.2.2.2.1.cellAt (i * 3) (by omega)]
            exact hcells.1
          have k1 : wr.cell? ⟨gq, i * 3 + 1, .none⟩ = some (.int .u64 (ad (fr i))) := by
            rw [HI.out.2.2.cell (p := ⟨gq, i * 3 + 1, .none⟩) hgq.2.1, H3.out.2.2.2.1.cellAt (i * 3 + 1) (by omega)]
            exact hcells.2.1
          have HO : Hid (wr.ownsRow w3.heap.size 23 1 (.slice q7 (n + i : Nat) c7) (n + i) (wv (ys ++ frL fr i))) := HI.out.2.1
          have HOA : Hid (∀ o, (wr.alloc o).ownsRow w3.heap.size 23 1 (.slice q7 (n + i : Nat) c7) (n + i) (wv (ys ++ frL fr i))) := fun o => HO.out.alloc o
          have HB : Hid (Below w3.heap.size w3 wr) := HI.out.2.2
          have hbn : n + i ≤ 5000 := by omega
          generalize hxx : ad (fr i) = x at *
          have HX : Hid (ad (fr i) = x) := hxx
          clear hxx hge hcells hgq HI
          obtain ⟨ni, hni⟩ : ∃ ni, ni = n + i := ⟨_, rfl⟩
          have HN : Hid (ni = n + i) := hni
          rw [← hni] at HO HOA hbn ⊢
          clear hni
          go_wp2_with (first | (at_builtin; (refine wpList_append_own _ rfl _ _ 22 rfl w3.heap.size 23 j0 (.int .u64 0) 1 8 Tryz.underlying22 hj0 hjz hj1 hj2 rfl (by decide) _ _ (wv (ys ++ frL fr i)) rfl (HOA.out _) ⟨wr.heap.size, 0, .none⟩ 1 1 [.int .u64 x] rfl rfl (cell_one_new _ _ _) (by simp [Value.oneCell']) (by unfold maxLen; omega) (by omega) (by simp only [World.size_alloc]; exact Nat.le_succ_of_le HB.out.size) ?_); intro v' w5 hown5 hgrow _) | fail)
          have hBA : Below w3.heap.size w3 (wr.alloc (.cells #[.int .u64 x] 23)) := HB.out.alloc HB.out.size _
          have hB5 : Below w3.heap.size w3 w5 := hBA.grown hgrow hBA.size (fun k hk => (HO.out.lt k hk).1)
          obtain ⟨g2, cap2, rfl⟩ := ownsRow_some hown5
          refine ⟨⟨i + 1, by omega, by simp, ?_⟩, by simp only [intOf]; omega⟩
          have e9 : wv (ys ++ frL fr (i + 1)) = wv (ys ++ frL fr i) ++ [.int .u64 x] := by rw [frL_succ, ← List.append_assoc, wv_app, HX.out]
          have e8 := HN.out
          subst e8
          refine ⟨⟨_, _, rfl⟩, ?_, hB5⟩
          rw [e9]
          exact hown5
        · have hlt2 : ¬ (i : Int) < P := by omega
          have HE : Hid (FmP w n P xs fr (.returned (.tuple #[.slice q7 (n + i : Nat) c7, .bool true])) wr) := by
            have e0 : i = P := by omega
            subst e0
            have b3 := H3.out.2.2.2.2
            exact ⟨ys, q7, c7, rfl, ⟨H3.out.1, H3.out.2.1⟩, own_low HI.out.2.1 b3.size, b3.trans (HI.out.2.2.mono b3.size)⟩
          clear HI
          go_wp2_with fail
          refine bodyPost_ret (v := .tuple #[.slice q7 (n + i : Nat) c7, .bool true]) (by simp [results, Tryz.results36, go_sem]) rfl HE.out
end
end Go.Proofs.YtblmkkhiojbcjaaGreat
