import Derived.Test.YtblmkkhiojbcjaaGreatHe
namespace Go.Proofs.YtblmkkhiojbcjaaGreat
open Go Go.RowKit Fz
set_option linter.unusedVariables false
set_option linter.unusedSimpArgs false
section
variable {w W W' : World} {ga gb n ca cb : Nat} {xa xb : List Value} {g0 k : Nat} {x0 : List Value} {v : Int} {gx cx : Nat} {zs : List Value}
/-- One more page at the growing row. -/
theorem Lx.step (h : Lx w W ga gb n ca cb xa xb g0 x0 k v gx cx zs) (hg : (g0 = ga ∧ ga ≠ gb) ∨ (g0 = gb ∧ ga ≠ gb)) (hl : ga < w.heap.size ∧ gb < w.heap.size) {o : Obj} {g2 c2 : Nat}
    (own : W'.ownsRow 0 99 3 (.slice (some ⟨g2, 0, .none⟩) (n + k + 1) c2) (n + k + 1) ((x0 ++ zs) ++ [.int .u64 0, .int .u64 v, .int .u64 0])) (grow : (W.alloc o).grownBy W' (Value.ownBlock (.slice (some ⟨gx, 0, .none⟩) (n + k) cx)))
    (keep : ∀ v0 n0 xs0, (v0.ownBlock = Value.ownBlock (.slice (some ⟨gx, 0, .none⟩) (n + k) cx) → n0 ≤ n + k) → (W.alloc o).ownsRow 0 99 3 v0 n0 xs0 → W'.ownsRow 0 99 3 v0 n0 xs0) (blk : Value.ownBlock (.slice (some ⟨gx, 0, .none⟩) (n + k) cx) = some g2 ∨ (W.alloc o).heap.size ≤ g2) :
    Lx w W' ga gb n ca cb xa xb g0 x0 (k + 1) v g2 c2 (zs ++ [.int .u64 0, .int .u64 v, .int .u64 0]) := by
  have L1 := h.l.alloc o
  refine ⟨⟨keep _ n _ (fun _ => by omega) L1.a, keep _ n _ (fun _ => by omega) L1.b, L1.f.grown grow (fun x e => ?_)⟩, by rw [← List.append_assoc]; exact own, h.m.app h.len, by rw [List.length_append, h.len]; simp; omega, ?_⟩
  · have e1 : gx = x := by simpa [Value.ownBlock] using e
    rcases h.pl with h1 | h1
    · rcases hg with h2 | h2 <;> omega
    · omega
  · rcases blk with e | e
    · have e1 : gx = g2 := by simpa [Value.ownBlock] using e
      rw [← e1]
      exact h.pl
    · rw [World.size_alloc] at e
      have := h.l.f.size
      omega
end
set_option maxRecDepth 100000 in
set_option maxHeartbeats 4000000 in
theorem plone_any {w : World} {ga gb n ca cb : Nat} {xa xb : List Value} (h : Ln w w ga gb n ca cb xa xb) (hne : ga ≠ gb) (hn : n ≤ 1000000) :
    Calls Tryz.prog 29 #[.slice (some ⟨ga, 0, .none⟩) n ca, .slice (some ⟨gb, 0, .none⟩) n cb] w fun e w' => e = .returned (.bool true) ∧ Tch ga gb gb gb w w' := by
  obtain ⟨j0, z0, hj0, hjz, hj1, hj2, hjs⟩ := look_info
  have H0 : Hid (Ln w w ga gb n ca cb xa xb) := h
  have HG : Hid (ga < w.heap.size ∧ gb < w.heap.size) := ⟨(h.a.lt ga rfl).2, (h.b.lt gb rfl).2⟩
  clear h
  go_enter Tryz.func29, Tryz.ntmps29
  go_wp2
  go_loopw [5] (fun v wr => ∃ (i : Nat) (ya : List Value), i ≤ n ∧ v = .int .i64 i ∧ Hid (Ln w wr ga gb n ca cb ya xb ∧ Mid ya i 1)) (fun v _ => n - (intOf v).toNat)
  case atStart => exact ⟨0, xa, by omega, rfl, H0.out, fun j hj => by omega⟩
  case round =>
    obtain ⟨i, ya, hi, rfl, H1⟩ := hrel
    clear H0
    by_cases hin : i < n
    · have i1 : (i : Int) < n := by omega
      have hb1 : ¬ (n : Int) ≤ i := by omega
      have hb2 : ¬ n ≤ i := by omega
      have hlen : ya.length = n * 3 := H1.out.1.a.1
      have c1 := H1.out.1.a.cellAt (i * 3 + 1) (by omega)
      rw [List.getElem?_eq_getElem (by omega)] at c1
      have f1 := H1.out.1.a.frozenAt (i * 3 + 1)
      have H2 : Hid (Ln w (wr.setCell ⟨ga, i * 3 + 1, .none⟩ (.int .u64 1)) ga gb n ca cb (ya.set (i * 3 + 1) (.int .u64 1)) xb ∧ Mid (ya.set (i * 3 + 1) (.int .u64 1)) (i + 1) 1) := ⟨H1.out.1.setA hne _ _, H1.out.2.set (by omega)⟩
      generalize ya[i * 3 + 1] = old at c1
      clear H1 hlen
      go_wp2
      exact ⟨⟨i + 1, _, by omega, by simp, H2⟩, by simp [intOf]; omega⟩
    have i1 : ¬ (i : Int) < n := by omega
    have H2 : Hid (Ln w wr ga gb n ca cb ya xb ∧ Mid ya n 1) := by
      have e : i = n := by omega
      rw [← e]
      rw [← e] at H1
      exact H1
    clear H1
    go_wp2
    go_loopw [6] (fun v wr => ∃ (i : Nat) (yb : List Value), i ≤ n ∧ v = .int .i64 i ∧ Hid (Ln w wr ga gb n ca cb ya yb ∧ Mid ya n 1 ∧ Mid yb i 2)) (fun v _ => n - (intOf v).toNat)
    case atStart => exact ⟨0, xb, by omega, rfl, H2.out.1, H2.out.2, fun j hj => by omega⟩
    case round =>
      clear H2 i1 hin hi
      obtain ⟨i2, yb, hi, rfl, H1⟩ := hrel
      by_cases hin : i2 < n
      · have i1 : (i2 : Int) < n := by omega
        have hb1 : ¬ (n : Int) ≤ i2 := by omega
        have hb2 : ¬ n ≤ i2 := by omega
        have hlen : yb.length = n * 3 := H1.out.1.b.1
        have c1 := H1.out.1.b.cellAt (i2 * 3 + 1) (by omega)
        rw [List.getElem?_eq_getElem (by omega)] at c1
        have f1 := H1.out.1.b.frozenAt (i2 * 3 + 1)
        have H2 : Hid (Ln w (wr.setCell ⟨gb, i2 * 3 + 1, .none⟩ (.int .u64 2)) ga gb n ca cb ya (yb.set (i2 * 3 + 1) (.int .u64 2)) ∧ Mid ya n 1 ∧ Mid (yb.set (i2 * 3 + 1) (.int .u64 2)) (i2 + 1) 2) := ⟨H1.out.1.setB hne _ _, H1.out.2.1, H1.out.2.2.set (by omega)⟩
        generalize yb[i2 * 3 + 1] = old at c1
        clear H1 hlen
        go_wp2
        exact ⟨⟨i2 + 1, _, by omega, by simp, H2⟩, by simp [intOf]; omega⟩
      have i1 : ¬ (i2 : Int) < n := by omega
      have HM : Hid (Mid ya n 1 ∧ Mid yb n 2 ∧ ya.length = n * 3 ∧ yb.length = n * 3) := by
        have e : i2 = n := by omega
        have := H1.out.2.2
        rw [e] at this
        exact ⟨H1.out.2.1, this, H1.out.1.a.1, H1.out.1.b.1⟩
      have H2 : Hid (Ln w wr ga gb n ca cb ya yb) := H1.out.1
      clear H1
      go_wp2
      go_loopw [7, 8] (fun v7 v8 wr => ∃ (k gx cx : Nat) (zs : List Value), k ≤ 16 ∧ v7 = .slice (some ⟨gx, 0, .none⟩) (n + k) cx ∧ v8 = .int .i64 k ∧ Hid (Lx w wr ga gb n ca cb ya yb ga ya k 3 gx cx zs)) (fun _ v8 _ => 16 - (intOf v8).toNat)
      case atStart => exact ⟨0, ga, ca, [], by omega, rfl, rfl, ⟨H2.out, by rw [List.append_nil]; exact H2.out.a, fun j hj => by omega, rfl, .inl rfl⟩⟩
      case round =>
        clear H2 i1 hin hi
        obtain ⟨k, gx, cx, zs, hk, rfl, rfl, H3⟩ := hrel
        by_cases hk16 : k < 16
        · have i1 : (k : Int) < 16 := by omega
          have HA : Hid (∀ o, (wr.alloc o).ownsRow 0 99 3 (.slice (some ⟨gx, 0, .none⟩) (n + k) cx) (n + k) (ya ++ zs)) := fun o => H3.out.x.alloc o
          go_wp2_with (first | (at_builtin; refine wpList_append_keep3 _ rfl _ _ 44 rfl 0 99 j0 z0 24 Tryz.underlying44 hj0 hjz hj1 hj2 hjs _ (n + k) (ya ++ zs) rfl (HA.out _) ⟨wr.heap.size, 0, .none⟩ 1 [.int .u64 0, .int .u64 3, .int .u64 0] rfl rfl (three_new _ _ _ _ _) (by simp [Value.oneCell']) (by unfold maxLen; omega) (by omega) (Nat.zero_le _) ?_; intro v' w5 hown5 hgrow hkeep hblk) | fail)
          obtain ⟨g2, c2, rfl⟩ := own_slP hown5 (by omega)
          obtain ⟨b2, hb2, hb3⟩ := hblk
          obtain rfl : g2 = b2 := by simpa [Value.ownBlock] using hb2
          exact ⟨⟨k + 1, g2, c2, _, by omega, rfl, by simp, H3.out.step (.inl ⟨rfl, hne⟩) HG.out hown5 hgrow hkeep hb3⟩, by simp [intOf]; omega⟩
        have i1 : ¬ (k : Int) < 16 := by omega
        have hgx : gx ≠ gb := by
          have := HG.out
          rcases H3.out.pl with e | e <;> omega
        obtain ⟨nx, hnx⟩ : ∃ nx, nx = n + k := ⟨_, rfl⟩
        have HX : Hid (wr.ownsRow 0 99 3 (.slice (some ⟨gx, 0, .none⟩) nx cx) nx (ya ++ zs) ∧ Ln w wr ga gb n ca cb ya yb ∧ gx < wr.heap.size) := by
          rw [hnx]
          exact ⟨H3.out.x, H3.out.l, (H3.out.x.lt gx rfl).2⟩
        have HZ : Hid (Mid zs 16 3 ∧ nx = n + 16) := by
          have e : k = 16 := by omega
          rw [← e]
          exact ⟨H3.out.m, hnx⟩
        rw [← hnx]
        clear H3 hnx
        go_wp2
        go_loopw [9, 10] (fun v9 v10 wr => ∃ (k gy cy : Nat) (ys : List Value), k ≤ 16 ∧ v9 = .slice (some ⟨gy, 0, .none⟩) (n + k) cy ∧ v10 = .int .i64 k ∧ Hid (Lx w wr ga gb n ca cb ya yb gb yb k 4 gy cy ys ∧ wr.ownsRow 0 99 3 (.slice (some ⟨gx, 0, .none⟩) nx cx) nx (ya ++ zs) ∧ gy ≠ gx ∧ gx < wr.heap.size)) (fun _ v10 _ => 16 - (intOf v10).toNat)
        case atStart => exact ⟨0, gb, cb, [], by omega, rfl, rfl, ⟨HX.out.2.1, by rw [List.append_nil]; exact HX.out.2.1.b, fun j hj => by omega, rfl, .inl rfl⟩, HX.out.1, fun e => hgx e.symm, HX.out.2.2⟩
        case round =>
          clear HX i1 hk16 hk
          obtain ⟨k2, gy, cy, ys, hk, rfl, rfl, H3⟩ := hrel
          by_cases hk16 : k2 < 16
          · have i1 : (k2 : Int) < 16 := by omega
            have HA : Hid (∀ o, (wr.alloc o).ownsRow 0 99 3 (.slice (some ⟨gy, 0, .none⟩) (n + k2) cy) (n + k2) (yb ++ ys)) := fun o => H3.out.1.x.alloc o
            go_wp2_with (first | (at_builtin; refine wpList_append_keep3 _ rfl _ _ 44 rfl 0 99 j0 z0 24 Tryz.underlying44 hj0 hjz hj1 hj2 hjs _ (n + k2) (yb ++ ys) rfl (HA.out _) ⟨wr.heap.size, 0, .none⟩ 1 [.int .u64 0, .int .u64 4, .int .u64 0] rfl rfl (three_new _ _ _ _ _) (by simp [Value.oneCell']) (by unfold maxLen; omega) (by omega) (Nat.zero_le _) ?_; intro v' w5 hown5 hgrow hkeep hblk) | fail)
            obtain ⟨g2, c2, rfl⟩ := own_slP hown5 (by omega)
            obtain ⟨b2, hb2, hb3⟩ := hblk
            obtain rfl : g2 = b2 := by simpa [Value.ownBlock] using hb2
            refine ⟨⟨k2 + 1, g2, c2, _, by omega, rfl, by simp, H3.out.1.step (.inr ⟨rfl, hne⟩) HG.out hown5 hgrow hkeep hb3, ?_, ?_, ?_⟩, by simp [intOf]; omega⟩
            · exact hkeep _ nx _ (fun e => absurd (Option.some.inj (show some gx = some gy from e)) (fun e => H3.out.2.2.1 e.symm)) (H3.out.2.1.alloc _)
            · rcases hb3 with e | e
              · have e1 : gy = g2 := Option.some.inj (show some gy = some g2 from e)
                rw [← e1]
                exact H3.out.2.2.1
              · rw [World.size_alloc] at e
                have := H3.out.2.2.2
                omega
            · have := hgrow.size
              rw [World.size_alloc] at this
              have := H3.out.2.2.2
              omega
          have i1 : ¬ (k2 : Int) < 16 := by omega
          obtain ⟨ny, hny⟩ : ∃ ny, ny = n + k2 := ⟨_, rfl⟩
          have HF : Hid (Ln w wr ga gb n ca cb ya yb ∧ wr.ownsRow 0 99 3 (.slice (some ⟨gx, 0, .none⟩) nx cx) nx (ya ++ zs) ∧ wr.ownsRow 0 99 3 (.slice (some ⟨gy, 0, .none⟩) ny cy) ny (yb ++ ys)) := by
            rw [hny]
            exact ⟨H3.out.1.l, H3.out.2.1, H3.out.1.x⟩
          have HY : Hid (Mid ys 16 4 ∧ ny = n + 16) := by
            have e : k2 = 16 := by omega
            rw [← e]
            exact ⟨H3.out.1.m, hny⟩
          rw [← hny]
          clear H3 hny
          have hnxy : nx = n + 16 ∧ ny = n + 16 := ⟨HZ.out.2, HY.out.2⟩
          go_wp2
          go_loopw [11] (fun v wr => ∃ i : Nat, i ≤ nx ∧ v = .int .i64 i ∧ Hid (Ln w wr ga gb n ca cb ya yb ∧ wr.ownsRow 0 99 3 (.slice (some ⟨gx, 0, .none⟩) nx cx) nx (ya ++ zs) ∧ wr.ownsRow 0 99 3 (.slice (some ⟨gy, 0, .none⟩) ny cy) ny (yb ++ ys))) (fun v _ => nx - (intOf v).toNat)
          case atStart => exact ⟨0, by omega, rfl, HF⟩
          case round =>
            clear HF i1 hk16 hk
            obtain ⟨i, hi, rfl, H5⟩ := hrel
            by_cases hin : i < nx
            · have i1 : (i : Int) < nx := by omega
              have hb1 : ¬ (nx : Int) ≤ i := by omega
              have hb2 : ¬ nx ≤ i := by omega
              by_cases hin2 : i < n
              · have i2 : (i : Int) < n := by omega
                have hb3 : ¬ (n : Int) ≤ i := by omega
                have hb4 : ¬ n ≤ i := by omega
                have ka := (H5.out.1.a.cellAt (i * 3 + 1) (by omega)).trans (HM.out.1 i hin2)
                have kx := (H5.out.2.1.cellAt (i * 3 + 1) (by omega)).trans (HM.out.1.left (zs := zs) hin2 (by have := HM.out.2.2.1; omega))
                go_wp2
                exact ⟨⟨i + 1, by omega, by simp, H5⟩, by simp [intOf]; omega⟩
              · have i2 : ¬ (i : Int) < n := by omega
                have i3 : (n : Int) ≤ i := by omega
                have kx := (H5.out.2.1.cellAt (i * 3 + 1) (by omega)).trans (HZ.out.1.right (xs := ya) (n := n) (j := i) (by omega) HM.out.2.2.1)
                go_wp2
                exact ⟨⟨i + 1, by omega, by simp, H5⟩, by simp [intOf]; omega⟩
            have i1 : ¬ (i : Int) < nx := by omega
            go_wp2
            go_loopw [12] (fun v wr => ∃ i : Nat, i ≤ ny ∧ v = .int .i64 i ∧ Hid (Ln w wr ga gb n ca cb ya yb ∧ wr.ownsRow 0 99 3 (.slice (some ⟨gx, 0, .none⟩) nx cx) nx (ya ++ zs) ∧ wr.ownsRow 0 99 3 (.slice (some ⟨gy, 0, .none⟩) ny cy) ny (yb ++ ys))) (fun v _ => ny - (intOf v).toNat)
            case atStart => exact ⟨0, by omega, rfl, H5⟩
            case round =>
              clear H5 i1 hin hi
              obtain ⟨i5, hi, rfl, H5⟩ := hrel
              by_cases hin : i5 < ny
              · have i1 : (i5 : Int) < ny := by omega
                have hb1 : ¬ (ny : Int) ≤ i5 := by omega
                have hb2 : ¬ ny ≤ i5 := by omega
                by_cases hin2 : i5 < n
                · have i2 : (i5 : Int) < n := by omega
                  have hb3 : ¬ (n : Int) ≤ i5 := by omega
                  have hb4 : ¬ n ≤ i5 := by omega
                  have ka := (H5.out.1.b.cellAt (i5 * 3 + 1) (by omega)).trans (HM.out.2.1 i5 hin2)
                  have kx := (H5.out.2.2.cellAt (i5 * 3 + 1) (by omega)).trans (HM.out.2.1.left (zs := ys) hin2 (by have := HM.out.2.2.2; omega))
                  go_wp2
                  exact ⟨⟨i5 + 1, by omega, by simp, H5⟩, by simp [intOf]; omega⟩
                · have i2 : ¬ (i5 : Int) < n := by omega
                  have i3 : (n : Int) ≤ i5 := by omega
                  have kx := (H5.out.2.2.cellAt (i5 * 3 + 1) (by omega)).trans (HY.out.1.right (xs := yb) (n := n) (j := i5) (by omega) HM.out.2.2.2)
                  go_wp2
                  exact ⟨⟨i5 + 1, by omega, by simp, H5⟩, by simp [intOf]; omega⟩
              have i1 : ¬ (i5 : Int) < ny := by omega
              go_wp2
              go_ret
              exact ⟨rfl, H5.out.1.f⟩
end Go.Proofs.YtblmkkhiojbcjaaGreat
