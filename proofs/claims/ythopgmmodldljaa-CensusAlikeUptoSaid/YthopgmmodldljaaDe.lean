import Derived.Test.YthopgmmodldljaaDc
namespace Go.Proofs.Ythopgmmodldljaa
open Go Go.RowKit
set_option linter.unusedVariables false
set_option linter.unusedSimpArgs false
/-! The document's comparisons. -/
set_option maxRecDepth 100000 in
set_option maxHeartbeats 2000000 in
theorem bytes49_any {w : World} {X Y : Nat} {u v : Value} {l m : List Int} (h1 : Sl w X 1 (qI .u8) u l) (h2 : Sl w Y 1 (qI .u8) v m) (hX : X ≤ w.heap.size) (hY : Y ≤ w.heap.size) (hn : l.length ≤ 10000000) (hm : m.length ≤ 10000000) :
    Calls Try.prog 49 #[u, v] w fun e w' => e = .returned (.bool (allB cmB l m)) ∧ Below w.heap.size w w' := by
  obtain ⟨p1, c1, rfl⟩ := h1.form
  obtain ⟨p2, c2, rfl⟩ := h2.form
  by_cases hlm : l.length = m.length
  · obtain ⟨n, hnl⟩ : ∃ n, n = l.length := ⟨_, rfl⟩
    rw [← hlm] at h2 ⊢
    rw [← hnl] at h1 h2 hn ⊢
    have HL : Hid (Sl w X 1 (qI .u8) (.slice p1 n c1) l ∧ Sl w Y 1 (qI .u8) (.slice p2 n c2) m ∧ (n = l.length ∧ l.length = m.length) ∧ X ≤ w.heap.size ∧ Y ≤ w.heap.size) := ⟨h1, h2, ⟨hnl, hlm⟩, hX, hY⟩
    clear h1 h2 hX hY hnl hlm hm
    go_enter Try.func49, Try.ntmps49
    go_wp2
    go_loopw [5] (fun k wr => ∃ i : Nat, i ≤ n ∧ k = .int .i64 i ∧ Hid (Below w.heap.size w wr ∧ ∀ j, j < i → ∀ x y, l[j]? = some x → m[j]? = some y → cmB x y = true)) (fun v _ => (n - intOf v).toNat)
    case atStart => exact ⟨0, by omega, rfl, Below.refl _ _, fun j h => by omega⟩
    case round =>
      obtain ⟨i, hi, rfl, HB⟩ := hrel
      by_cases hin : i < n
      · as_aux_lemma =>
          have i1 : (i : Int) < n := by omega
          obtain ⟨-, b1, o1, x, cs1, rfl, hbX, hx, hq1, hc1, hr⟩ := HL.out.1.at hin
          obtain ⟨-, b2, o2, y, cs2, rfl, hbY, hy, hq2, hc2, hr2⟩ := HL.out.2.1.at hin
          obtain rfl := hq1
          obtain rfl := hq2
          have r1 := (HB.out.1.cell (p := ⟨b1, o1 + i, .none⟩) (by have := HL.out.2.2.2.1; show b1 < _; omega)).trans (by simpa using hr 0 _ rfl)
          have r2 := (HB.out.1.cell (p := ⟨b2, o2 + i, .none⟩) (by have := HL.out.2.2.2.2; show b2 < _; omega)).trans (by simpa using hr2 0 _ rfl)
          have HX : Hid (l[i]? = some x ∧ m[i]? = some y) := ⟨hx, hy⟩
          have hS : (fun w' : World => w'.cell? ⟨b1, o1 + i, .none⟩ = some (.int .u8 x) ∧ w'.cell? ⟨b2, o2 + i, .none⟩ = some (.int .u8 y)) wr.drew := ⟨r1, r2⟩
          have HD : Hid (Below w.heap.size w wr.drew) := HB.out.1.drew
          clear hr hr2 hbX hbY hx hy hc1 hc2
          go_upto_region 6 with fail
          clear r1 r2
          refine region_set (fun w' => w'.cell? ⟨b1, o1 + i, .none⟩ = some (.int .u8 x) ∧ w'.cell? ⟨b2, o2 + i, .none⟩ = some (.int .u8 y)) 8 [0, 1, 4, 5] (by kernel_rfl) ?_
          refine set_pure (i := 0) (v := .slice (some ⟨b1, o1, .none⟩) n c1) rfl (by kernel_rfl) (by kernel_rfl) (by kernel_rfl) (by kernel_rfl) (fun _ _ _ h => h) (Or.inl ⟨by rfl, fun ww hSw => by go_simp⟩) ?_
          simp only [Act.put, List.setIfInBounds_toArray, List.set_cons_zero, List.set_cons_succ, List.getElem_toArray, List.getElem_cons_succ, List.getElem_cons_zero]
          refine set_pure (i := 1) (v := .int .i64 i) rfl (by kernel_rfl) (by kernel_rfl) (by kernel_rfl) (by kernel_rfl) (fun _ _ _ h => h) (Or.inl ⟨by rfl, fun ww hSw => by go_simp⟩) ?_
          simp only [Act.put, List.setIfInBounds_toArray, List.set_cons_zero, List.set_cons_succ, List.getElem_toArray, List.getElem_cons_succ, List.getElem_cons_zero]
          refine set_pure (i := 4) (v := .slice (some ⟨b2, o2, .none⟩) n c2) rfl (by kernel_rfl) (by kernel_rfl) (by kernel_rfl) (by kernel_rfl) (fun _ _ _ h => h) (Or.inl ⟨by rfl, fun ww hSw => by go_simp⟩) ?_
          simp only [Act.put, List.setIfInBounds_toArray, List.set_cons_zero, List.set_cons_succ, List.getElem_toArray, List.getElem_cons_succ, List.getElem_cons_zero]
          refine set_pure (i := 5) (v := .int .i64 i) rfl (by kernel_rfl) (by kernel_rfl) (by kernel_rfl) (by kernel_rfl) (fun _ _ _ h => h) (Or.inl ⟨by rfl, fun ww hSw => by go_simp⟩) ?_
          simp only [Act.put, List.setIfInBounds_toArray, List.set_cons_zero, List.set_cons_succ, List.getElem_toArray, List.getElem_cons_succ, List.getElem_cons_zero]
          refine set_take (i := 2) (v := .pointer (some ⟨b1, o1 + i, .none⟩)) rfl (by kernel_rfl) (by kernel_rfl) (by kernel_rfl) (by kernel_rfl) (fun _ _ _ h => h) (Or.inl ⟨by rfl, fun ww hSw => by obtain ⟨hs1, hs2⟩ := hSw; go_simp⟩) hS ?_
          simp only [Act.put, List.setIfInBounds_toArray, List.set_cons_zero, List.set_cons_succ, List.getElem_toArray, List.getElem_cons_succ, List.getElem_cons_zero]
          refine set_take (i := 3) (v := .int .u8 x) rfl (by kernel_rfl) (by kernel_rfl) (by kernel_rfl) (by kernel_rfl) (fun _ _ _ h => h) (Or.inl ⟨by rfl, fun ww hSw => by obtain ⟨hs1, hs2⟩ := hSw; go_simp⟩) hS ?_
          simp only [Act.put, List.setIfInBounds_toArray, List.set_cons_zero, List.set_cons_succ, List.getElem_toArray, List.getElem_cons_succ, List.getElem_cons_zero]
          refine set_take (i := 6) (v := .pointer (some ⟨b2, o2 + i, .none⟩)) rfl (by kernel_rfl) (by kernel_rfl) (by kernel_rfl) (by kernel_rfl) (fun _ _ _ h => h) (Or.inl ⟨by rfl, fun ww hSw => by obtain ⟨hs1, hs2⟩ := hSw; go_simp⟩) hS ?_
          simp only [Act.put, List.setIfInBounds_toArray, List.set_cons_zero, List.set_cons_succ, List.getElem_toArray, List.getElem_cons_succ, List.getElem_cons_zero]
          refine set_take (i := 7) (v := .int .u8 y) rfl (by kernel_rfl) (by kernel_rfl) (by kernel_rfl) (by kernel_rfl) (fun _ _ _ h => h) (Or.inl ⟨by rfl, fun ww hSw => by obtain ⟨hs1, hs2⟩ := hSw; go_simp⟩) hS ?_
          simp only [Act.put, List.setIfInBounds_toArray, List.set_cons_zero, List.set_cons_succ, List.getElem_toArray, List.getElem_cons_succ, List.getElem_cons_zero]
          refine set_tail 1 8 _ _ _ _ (by kernel_rfl) (by decide) ?_
          simp only [List.toList_toArray, List.drop_succ_cons, List.drop_zero]
          clear hS
          generalize wr.drew = WD at *
          cases hfb : (x == y)
          · have hne : (x != y) = true := by simp [bne, hfb]
            have HF : Hid (cmB x y = false) := hfb
            clear hfb
            go_wp2
            go_ret
            exact ⟨by rw [allB_false HX.out.1 HX.out.2 HF.out]; rfl, HD.out⟩
          · have hne : (x != y) = false := by simp [bne, hfb]
            have HF : Hid (cmB x y = true) := hfb
            clear hfb
            go_wp2
            refine ⟨⟨i + 1, by omega, by go_num, HD.out, fun j hj a b ha hb => ?_⟩, by simp [intOf]; omega⟩
            by_cases hji : j = i
            · subst hji
              rw [HX.out.1] at ha
              rw [HX.out.2] at hb
              cases ha
              cases hb
              exact HF.out
            · exact HB.out.2 j (by omega) a b ha hb
      · have hnn : i = n := by omega
        subst i
        have g0 : ¬ (n : Int) < n := by omega
        clear hi hin
        go_wp2
        go_ret
        exact ⟨by rw [allB_true HL.out.2.2.1.2 (fun i x y hx hy => HB.out.2 i (by have := (List.getElem?_eq_some_iff.1 hx).1; have := HL.out.2.2.1.1; omega) x y hx hy)]; rfl, HB.out.1⟩
  · rw [allB_len hlm]
    obtain ⟨n, hnl⟩ : ∃ n, n = l.length := ⟨_, rfl⟩
    obtain ⟨k, hkl⟩ : ∃ n, n = m.length := ⟨_, rfl⟩
    rw [← hnl, ← hkl]
    have hb : ((n : Int) != (k : Int)) = true := by
      have : ¬ n = k := by rw [hnl, hkl]; exact hlm
      simp only [bne_iff_ne, ne_eq]
      omega
    clear h1 h2 hX hY hnl hkl hlm hn hm
    go_enter Try.func49, Try.ntmps49
    go_wp2
    go_ret
    exact ⟨rfl, Below.refl _ _⟩
set_option maxRecDepth 100000 in
set_option maxHeartbeats 2000000 in
theorem inode51_any (x y : In) (np1 np2 : Option Addr) (nc1 nc2 : Nat) (w : World) : Calls Try.prog 51 #[.agg (x.l (.slice np1 x.bl.length nc1)).toArray, .agg (y.l (.slice np2 y.bl.length nc2)).toArray] w fun e w' => e = .returned (.bool (cmI x y)) ∧ Below w.heap.size w w' := by
  obtain ⟨n, hn⟩ : ∃ n, n = x.bl.length := ⟨_, rfl⟩
  obtain ⟨m, hm⟩ : ∃ n, n = y.bl.length := ⟨_, rfl⟩
  obtain ⟨cb, hcb⟩ : ∃ b, b = cmI x y := ⟨_, rfl⟩
  rw [← hn, ← hm, ← hcb]
  have HC : Hid (cb = (((x.ino == y.ino)) && (((x.ty == y.ty)) && (((x.ma == y.ma)) && (((x.mi == y.mi)) && (((x.links == y.links)) && (((x.refs == y.refs)) && (((x.size == y.size)) && ((((n : Int) == (m : Int))) && true))))))))) := by show _ = _; rw [hcb, hn, hm]; rfl
  clear hcb hn hm
  go_enter Try.func51, Try.ntmps51
  go_upto_region 1 with (first
    | (refine wpList_is (.box 66 (.tmp 0)) rfl ?_; refine wpList_boxG 66 (x.l (.slice np1 n nc1)) 2 (.tmp 0) _ rfl rfl rfl rfl ?_; intro W1 hW1 hB1 hs1)
    | (refine wpList_is (.box 66 (.tmp 1)) rfl ?_; refine wpList_boxG 66 (y.l (.slice np2 m nc2)) 3 (.tmp 1) _ rfl rfl rfl rfl ?_; intro W2 hW2 hB2 hs2; rw [hs1] at hW2 hs2 ⊢)
    | fail)
  have r1 : W2.rangeAt w.heap.size 0 (x.l (.slice np1 n nc1)) := range_keep (range_heap hW1) hB2 (by omega)
  have r2 : W2.rangeAt (w.heap.size + 1) 0 (y.l (.slice np2 m nc2)) := range_heap hW2
  have HB : Hid (Below w.heap.size w W2 ∧ W2.heap.size = w.heap.size + 2) := ⟨hB1.trans (hB2.mono (by omega)), by omega⟩
  clear hW1 hW2 hB1 hB2 hs1 hs2
  have a0 : W2.cell? ⟨w.heap.size, 0, .none⟩ = some (.int .i64 x.ino) := by have := r1 0 _ rfl; rw [Nat.zero_add] at this; exact this
  have b0 : W2.cell? ⟨w.heap.size + 1, 0, .none⟩ = some (.int .i64 y.ino) := by have := r2 0 _ rfl; rw [Nat.zero_add] at this; exact this
  have a1 : W2.cell? ⟨w.heap.size, 1, .none⟩ = some (.int .i64 x.ty) := by have := r1 1 _ rfl; rw [Nat.zero_add] at this; exact this
  have b1 : W2.cell? ⟨w.heap.size + 1, 1, .none⟩ = some (.int .i64 y.ty) := by have := r2 1 _ rfl; rw [Nat.zero_add] at this; exact this
  have a2 : W2.cell? ⟨w.heap.size, 2, .none⟩ = some (.int .i16 x.ma) := by have := r1 2 _ rfl; rw [Nat.zero_add] at this; exact this
  have b2 : W2.cell? ⟨w.heap.size + 1, 2, .none⟩ = some (.int .i16 y.ma) := by have := r2 2 _ rfl; rw [Nat.zero_add] at this; exact this
  have a3 : W2.cell? ⟨w.heap.size, 3, .none⟩ = some (.int .i16 x.mi) := by have := r1 3 _ rfl; rw [Nat.zero_add] at this; exact this
  have b3 : W2.cell? ⟨w.heap.size + 1, 3, .none⟩ = some (.int .i16 y.mi) := by have := r2 3 _ rfl; rw [Nat.zero_add] at this; exact this
  have a4 : W2.cell? ⟨w.heap.size, 4, .none⟩ = some (.int .i64 x.links) := by have := r1 4 _ rfl; rw [Nat.zero_add] at this; exact this
  have b4 : W2.cell? ⟨w.heap.size + 1, 4, .none⟩ = some (.int .i64 y.links) := by have := r2 4 _ rfl; rw [Nat.zero_add] at this; exact this
  have a5 : W2.cell? ⟨w.heap.size, 5, .none⟩ = some (.int .i64 x.refs) := by have := r1 5 _ rfl; rw [Nat.zero_add] at this; exact this
  have b5 : W2.cell? ⟨w.heap.size + 1, 5, .none⟩ = some (.int .i64 y.refs) := by have := r2 5 _ rfl; rw [Nat.zero_add] at this; exact this
  have a6 : W2.cell? ⟨w.heap.size, 6, .none⟩ = some (.int .i64 x.size) := by have := r1 6 _ rfl; rw [Nat.zero_add] at this; exact this
  have b6 : W2.cell? ⟨w.heap.size + 1, 6, .none⟩ = some (.int .i64 y.size) := by have := r2 6 _ rfl; rw [Nat.zero_add] at this; exact this
  have a7 : W2.cell? ⟨w.heap.size, 7, .none⟩ = some (.slice np1 n nc1) := by have := r1 7 _ rfl; rw [Nat.zero_add] at this; exact this
  have b7 : W2.cell? ⟨w.heap.size + 1, 7, .none⟩ = some (.slice np2 m nc2) := by have := r2 7 _ rfl; rw [Nat.zero_add] at this; exact this
  clear r1 r2
  cases h0 : (x.ino == y.ino)
  · as_aux_lemma =>
      have HR : Hid (cb = false) := by show _ = _; rw [HC.out, h0]; rfl
      go_wp2
      go_ret
      exact ⟨by rw [HR.out]; rfl, HB.out.1⟩
  · skip
    cases h1 : (x.ty == y.ty)
    · as_aux_lemma =>
        have HR : Hid (cb = false) := by show _ = _; rw [HC.out, h0, h1]; rfl
        go_wp2
        go_ret
        exact ⟨by rw [HR.out]; rfl, HB.out.1⟩
    · skip
      cases h2 : (x.ma == y.ma)
      · as_aux_lemma =>
          have HR : Hid (cb = false) := by show _ = _; rw [HC.out, h0, h1, h2]; rfl
          go_wp2
          go_ret
          exact ⟨by rw [HR.out]; rfl, HB.out.1⟩
      · skip
        cases h3 : (x.mi == y.mi)
        · as_aux_lemma =>
            have HR : Hid (cb = false) := by show _ = _; rw [HC.out, h0, h1, h2, h3]; rfl
            go_wp2
            go_ret
            exact ⟨by rw [HR.out]; rfl, HB.out.1⟩
        · skip
          cases h4 : (x.links == y.links)
          · as_aux_lemma =>
              have HR : Hid (cb = false) := by show _ = _; rw [HC.out, h0, h1, h2, h3, h4]; rfl
              go_wp2
              go_ret
              exact ⟨by rw [HR.out]; rfl, HB.out.1⟩
          · skip
            cases h5 : (x.refs == y.refs)
            · as_aux_lemma =>
                have HR : Hid (cb = false) := by show _ = _; rw [HC.out, h0, h1, h2, h3, h4, h5]; rfl
                go_wp2
                go_ret
                exact ⟨by rw [HR.out]; rfl, HB.out.1⟩
            · skip
              cases h6 : (x.size == y.size)
              · as_aux_lemma =>
                  have HR : Hid (cb = false) := by show _ = _; rw [HC.out, h0, h1, h2, h3, h4, h5, h6]; rfl
                  go_wp2
                  go_ret
                  exact ⟨by rw [HR.out]; rfl, HB.out.1⟩
              · skip
                cases h7 : ((n : Int) == (m : Int))
                · as_aux_lemma =>
                    have HR : Hid (cb = false) := by show _ = _; rw [HC.out, h0, h1, h2, h3, h4, h5, h6, h7]; rfl
                    go_wp2
                    go_ret
                    exact ⟨by rw [HR.out]; rfl, HB.out.1⟩
                · as_aux_lemma =>
                    have HR : Hid (cb = true) := by show _ = _; rw [HC.out, h0, h1, h2, h3, h4, h5, h6, h7]; rfl
                    go_wp2
                    go_ret
                    exact ⟨by rw [HR.out]; rfl, HB.out.1⟩
theorem info96 : ∃ i z, Try.prog.info? 96 = some i ∧ i.zero = some z ∧ i.size = 5 ∧ i.bytes = 40 ∧ z.cells.size = 5 := info_of 96 5 40 (by kernel_rfl) (by kernel_rfl)
set_option maxRecDepth 100000 in
set_option maxHeartbeats 2000000 in
theorem pipe52_any {w : World} {X Y : Nat} (hX : X ≤ w.heap.size) (hY : Y ≤ w.heap.size) (x y : Pp) (np1 np2 : Option Addr) (nc1 nc2 : Nat) (h1 : Bt w X (.slice np1 x.bs.length nc1) x.bs) (h2 : Bt w Y (.slice np2 y.bs.length nc2) y.bs) (hn : x.bs.length ≤ 10000000) (hm : y.bs.length ≤ 10000000) : Calls Try.prog 52 #[.agg (x.l (.slice np1 x.bs.length nc1)).toArray, .agg (y.l (.slice np2 y.bs.length nc2)).toArray] w fun e w' => e = .returned (.bool (cmQ x y)) ∧ Below w.heap.size w w' := by
  have HG : Hid (∀ V, Below w.heap.size w V → Calls Try.prog 49 #[.slice np1 x.bs.length nc1, .slice np2 y.bs.length nc2] V fun e w' => e = .returned (.bool (allB cmB x.bs y.bs)) ∧ Below V.heap.size V w') := fun V hV => bytes49_any (Wd.keep h1 (X' := X) (Nat.le_refl _) (hV.mono hX)) (Wd.keep h2 (X' := Y) (Nat.le_refl _) (hV.mono hY)) (Nat.le_trans hX hV.size) (Nat.le_trans hY hV.size) hn hm
  obtain ⟨cb, hcb⟩ : ∃ b, b = cmQ x y := ⟨_, rfl⟩
  rw [← hcb]
  have HC : Hid (cb = ((((x.num == y.num)) && (((x.rs == y.rs)) && (((x.ws == y.ws)) && (((x.rd == y.rd)) && (((x.wr == y.wr)) && true))))) && allB cmB x.bs y.bs)) := hcb
  clear hcb h1 h2 hX hY hn hm
  go_enter Try.func52, Try.ntmps52
  go_upto_region 3 with (first
    | (refine wpList_is (.box 98 (.tmp 0)) rfl ?_; refine wpList_boxG 98 (x.l (.slice np1 x.bs.length nc1)) 2 (.tmp 0) _ rfl rfl rfl rfl ?_; intro W1 hW1 hB1 hs1)
    | (refine wpList_is (.box 98 (.tmp 1)) rfl ?_; refine wpList_boxG 98 (y.l (.slice np2 y.bs.length nc2)) 3 (.tmp 1) _ rfl rfl rfl rfl ?_; intro W2 hW2 hB2 hs2; rw [hs1] at hW2 hs2 ⊢; have r1 : W2.rangeAt w.heap.size 0 (x.l (.slice np1 x.bs.length nc1)) := range_keep (range_heap hW1) hB2 (by omega); have r2 : W2.rangeAt (w.heap.size + 1) 0 (y.l (.slice np2 y.bs.length nc2)) := range_heap hW2; have r3 : W2.rangeAt w.heap.size 1 [.slice np1 x.bs.length nc1, .int .u32 x.rs, .int .u32 x.ws, .bool x.rd, .bool x.wr] := (by have := range_sub (k := 1) r1 (sub_of (s := [.slice np1 x.bs.length nc1, .int .u32 x.rs, .int .u32 x.ws, .bool x.rd, .bool x.wr]) rfl); simpa using this); have r4 : W2.rangeAt (w.heap.size + 1) 1 [.slice np2 y.bs.length nc2, .int .u32 y.rs, .int .u32 y.ws, .bool y.rd, .bool y.wr] := (by have := range_sub (k := 1) r2 (sub_of (s := [.slice np2 y.bs.length nc2, .int .u32 y.rs, .int .u32 y.ws, .bool y.rd, .bool y.wr]) rfl); simpa using this))
    | (refine wpList_is (.load 96 (.tmp 7)) rfl ?_; refine wpList_loadG 96 5 40 info96 _ Try.underlying96 rfl [.slice np1 x.bs.length nc1, .int .u32 x.rs, .int .u32 x.ws, .bool x.rd, .bool x.wr] rfl w.heap.size 1 (.tmp 7) rfl rfl rfl r3 (some 8) rfl ?_)
    | (refine wpList_is (.load 96 (.tmp 9)) rfl ?_; refine wpList_loadG 96 5 40 info96 _ Try.underlying96 rfl [.slice np2 y.bs.length nc2, .int .u32 y.rs, .int .u32 y.ws, .bool y.rd, .bool y.wr] rfl (w.heap.size + 1) 1 (.tmp 9) rfl rfl rfl r6 (some 10) rfl ?_)
    | (refine wpList_is (.store 96 (.tmp 5) (.tmp 8)) rfl ?_; fail)
    | (refine wpList_is (.alloc 96) rfl ?_; refine wpList_laidG 96 5 40 info96 [.slice np1 x.bs.length nc1, .int .u32 x.rs, .int .u32 x.ws, .bool x.rd, .bool x.wr] rfl (List.all_eq_true.1 (show ([.slice np1 x.bs.length nc1, .int .u32 x.rs, .int .u32 x.ws, .bool x.rd, .bool x.wr] : List Value).all (fun u => u.oneCell') = true from rfl)) 5 (.tmp 8) _ _ rfl rfl rfl rfl rfl rfl rfl rfl ?_; intro W3 hW3 hB3 hs3; have r6 := range_keep r4 hB3 (by omega))
    | (refine wpList_is (.alloc 96) rfl ?_; refine wpList_laidG 96 5 40 info96 [.slice np2 y.bs.length nc2, .int .u32 y.rs, .int .u32 y.ws, .bool y.rd, .bool y.wr] rfl (List.all_eq_true.1 (show ([.slice np2 y.bs.length nc2, .int .u32 y.rs, .int .u32 y.ws, .bool y.rd, .bool y.wr] : List Value).all (fun u => u.oneCell') = true from rfl)) 6 (.tmp 10) _ _ rfl rfl rfl rfl rfl rfl rfl rfl ?_; intro W4 hW4 hB4 hs4)
    | fail)
  have a5 : W4.cell? ⟨w.heap.size, 0, .none⟩ = some (.int .i64 x.num) := by have := range_keep (range_keep r1 hB3 (by omega)) hB4 (by omega) 0 _ rfl; rw [Nat.zero_add] at this; exact this
  have b5 : W4.cell? ⟨w.heap.size + 1, 0, .none⟩ = some (.int .i64 y.num) := by have := range_keep (range_keep r2 hB3 (by omega)) hB4 (by omega) 0 _ rfl; rw [Nat.zero_add] at this; exact this
  have s3 : W4.rangeAt W2.heap.size 0 [.slice np1 x.bs.length nc1, .int .u32 x.rs, .int .u32 x.ws, .bool x.rd, .bool x.wr] := range_keep (range_heap hW3) hB4 (by omega)
  have s4 : W4.rangeAt (W2.heap.size + 1) 0 [.slice np2 y.bs.length nc2, .int .u32 y.rs, .int .u32 y.ws, .bool y.rd, .bool y.wr] := by have := range_heap hW4; rw [hs3] at this; exact this
  rw [hs3]
  have HB0 : Hid (Below w.heap.size w W4 ∧ W4.heap.size = W2.heap.size + 2) := ⟨((hB1.trans (hB2.mono (by omega))).trans (hB3.mono (by omega))).trans (hB4.mono (by omega)), by omega⟩
  clear hW1 hW2 hW3 hW4 hB1 hB2 hB3 hB4 hs1 hs3 hs4 r1 r2 r3 r4 r6
  rw [hs2] at s3 s4 HB0 ⊢
  clear hs2
  generalize w.heap.size + 1 + 1 = g1 at *
  have HB : Hid (Below w.heap.size w W4 ∧ W4.heap.size = g1 + 2) := HB0
  have r3 := s3
  have r4 := s4
  clear s3 s4 HB0
  have a0 : W4.cell? ⟨g1, 0, .none⟩ = some (.slice np1 x.bs.length nc1) := by have := r3 0 _ rfl; rw [Nat.zero_add] at this; exact this
  have b0 : W4.cell? ⟨g1 + 1, 0, .none⟩ = some (.slice np2 y.bs.length nc2) := by have := r4 0 _ rfl; rw [Nat.zero_add] at this; exact this
  have a1 : W4.cell? ⟨g1, 1, .none⟩ = some (.int .u32 x.rs) := by have := r3 1 _ rfl; rw [Nat.zero_add] at this; exact this
  have b1 : W4.cell? ⟨g1 + 1, 1, .none⟩ = some (.int .u32 y.rs) := by have := r4 1 _ rfl; rw [Nat.zero_add] at this; exact this
  have a2 : W4.cell? ⟨g1, 2, .none⟩ = some (.int .u32 x.ws) := by have := r3 2 _ rfl; rw [Nat.zero_add] at this; exact this
  have b2 : W4.cell? ⟨g1 + 1, 2, .none⟩ = some (.int .u32 y.ws) := by have := r4 2 _ rfl; rw [Nat.zero_add] at this; exact this
  have a3 : W4.cell? ⟨g1, 3, .none⟩ = some (.bool x.rd) := by have := r3 3 _ rfl; rw [Nat.zero_add] at this; exact this
  have b3 : W4.cell? ⟨g1 + 1, 3, .none⟩ = some (.bool y.rd) := by have := r4 3 _ rfl; rw [Nat.zero_add] at this; exact this
  have a4 : W4.cell? ⟨g1, 4, .none⟩ = some (.bool x.wr) := by have := r3 4 _ rfl; rw [Nat.zero_add] at this; exact this
  have b4 : W4.cell? ⟨g1 + 1, 4, .none⟩ = some (.bool y.wr) := by have := r4 4 _ rfl; rw [Nat.zero_add] at this; exact this
  cases h0 : (x.num == y.num)
  · as_aux_lemma =>
      have HR : Hid (cb = false) := by show _ = _; rw [HC.out, h0]; first | rfl | simp
      go_wp2
      go_ret
      exact ⟨by rw [HR.out]; rfl, HB.out.1⟩
  · skip
    cases h1 : (allB cmB x.bs y.bs)
    · as_aux_lemma =>
        have HR : Hid (cb = false) := by show _ = _; rw [HC.out, h0, h1]; first | rfl | simp
        go_wp2_with fail
        clear a0 a1 a2 a3 a4 b0 b1 b2 b3 b4
        go_at_call 49
        refine (HG.out _ HB.out.1).mono ?_
        rintro e V1 ⟨rfl, q1⟩
        rw [h1]
        have s1 := range_keep r3 q1 (by have := HB.out.2; omega)
        have s2 := range_keep r4 q1 (by have := HB.out.2; omega)
        have a0 : V1.cell? ⟨g1, 0, .none⟩ = some (.slice np1 x.bs.length nc1) := by have := s1 0 _ rfl; rw [Nat.zero_add] at this; exact this
        have b0 : V1.cell? ⟨g1 + 1, 0, .none⟩ = some (.slice np2 y.bs.length nc2) := by have := s2 0 _ rfl; rw [Nat.zero_add] at this; exact this
        have a1 : V1.cell? ⟨g1, 1, .none⟩ = some (.int .u32 x.rs) := by have := s1 1 _ rfl; rw [Nat.zero_add] at this; exact this
        have b1 : V1.cell? ⟨g1 + 1, 1, .none⟩ = some (.int .u32 y.rs) := by have := s2 1 _ rfl; rw [Nat.zero_add] at this; exact this
        have a2 : V1.cell? ⟨g1, 2, .none⟩ = some (.int .u32 x.ws) := by have := s1 2 _ rfl; rw [Nat.zero_add] at this; exact this
        have b2 : V1.cell? ⟨g1 + 1, 2, .none⟩ = some (.int .u32 y.ws) := by have := s2 2 _ rfl; rw [Nat.zero_add] at this; exact this
        have a3 : V1.cell? ⟨g1, 3, .none⟩ = some (.bool x.rd) := by have := s1 3 _ rfl; rw [Nat.zero_add] at this; exact this
        have b3 : V1.cell? ⟨g1 + 1, 3, .none⟩ = some (.bool y.rd) := by have := s2 3 _ rfl; rw [Nat.zero_add] at this; exact this
        have a4 : V1.cell? ⟨g1, 4, .none⟩ = some (.bool x.wr) := by have := s1 4 _ rfl; rw [Nat.zero_add] at this; exact this
        have b4 : V1.cell? ⟨g1 + 1, 4, .none⟩ = some (.bool y.wr) := by have := s2 4 _ rfl; rw [Nat.zero_add] at this; exact this
        clear s1 s2
        have HV : Hid (Below w.heap.size w V1) := HB.out.1.trans (q1.mono HB.out.1.size)
        clear q1 r3 r4
        go_wp2
        go_ret
        exact ⟨by rw [HR.out]; rfl, HV.out⟩
    · skip
      cases h2 : (x.rs == y.rs)
      · as_aux_lemma =>
          have HR : Hid (cb = false) := by show _ = _; rw [HC.out, h0, h2, h1]; first | rfl | simp
          go_wp2_with fail
          clear a0 a1 a2 a3 a4 b0 b1 b2 b3 b4
          go_at_call 49
          refine (HG.out _ HB.out.1).mono ?_
          rintro e V1 ⟨rfl, q1⟩
          rw [h1]
          have s1 := range_keep r3 q1 (by have := HB.out.2; omega)
          have s2 := range_keep r4 q1 (by have := HB.out.2; omega)
          have a0 : V1.cell? ⟨g1, 0, .none⟩ = some (.slice np1 x.bs.length nc1) := by have := s1 0 _ rfl; rw [Nat.zero_add] at this; exact this
          have b0 : V1.cell? ⟨g1 + 1, 0, .none⟩ = some (.slice np2 y.bs.length nc2) := by have := s2 0 _ rfl; rw [Nat.zero_add] at this; exact this
          have a1 : V1.cell? ⟨g1, 1, .none⟩ = some (.int .u32 x.rs) := by have := s1 1 _ rfl; rw [Nat.zero_add] at this; exact this
          have b1 : V1.cell? ⟨g1 + 1, 1, .none⟩ = some (.int .u32 y.rs) := by have := s2 1 _ rfl; rw [Nat.zero_add] at this; exact this
          have a2 : V1.cell? ⟨g1, 2, .none⟩ = some (.int .u32 x.ws) := by have := s1 2 _ rfl; rw [Nat.zero_add] at this; exact this
          have b2 : V1.cell? ⟨g1 + 1, 2, .none⟩ = some (.int .u32 y.ws) := by have := s2 2 _ rfl; rw [Nat.zero_add] at this; exact this
          have a3 : V1.cell? ⟨g1, 3, .none⟩ = some (.bool x.rd) := by have := s1 3 _ rfl; rw [Nat.zero_add] at this; exact this
          have b3 : V1.cell? ⟨g1 + 1, 3, .none⟩ = some (.bool y.rd) := by have := s2 3 _ rfl; rw [Nat.zero_add] at this; exact this
          have a4 : V1.cell? ⟨g1, 4, .none⟩ = some (.bool x.wr) := by have := s1 4 _ rfl; rw [Nat.zero_add] at this; exact this
          have b4 : V1.cell? ⟨g1 + 1, 4, .none⟩ = some (.bool y.wr) := by have := s2 4 _ rfl; rw [Nat.zero_add] at this; exact this
          clear s1 s2
          have HV : Hid (Below w.heap.size w V1) := HB.out.1.trans (q1.mono HB.out.1.size)
          clear q1 r3 r4
          go_wp2
          go_ret
          exact ⟨by rw [HR.out]; rfl, HV.out⟩
      · skip
        cases h3 : (x.ws == y.ws)
        · as_aux_lemma =>
            have HR : Hid (cb = false) := by show _ = _; rw [HC.out, h0, h2, h3, h1]; first | rfl | simp
            go_wp2_with fail
            clear a0 a1 a2 a3 a4 b0 b1 b2 b3 b4
            go_at_call 49
            refine (HG.out _ HB.out.1).mono ?_
            rintro e V1 ⟨rfl, q1⟩
            rw [h1]
            have s1 := range_keep r3 q1 (by have := HB.out.2; omega)
            have s2 := range_keep r4 q1 (by have := HB.out.2; omega)
            have a0 : V1.cell? ⟨g1, 0, .none⟩ = some (.slice np1 x.bs.length nc1) := by have := s1 0 _ rfl; rw [Nat.zero_add] at this; exact this
            have b0 : V1.cell? ⟨g1 + 1, 0, .none⟩ = some (.slice np2 y.bs.length nc2) := by have := s2 0 _ rfl; rw [Nat.zero_add] at this; exact this
            have a1 : V1.cell? ⟨g1, 1, .none⟩ = some (.int .u32 x.rs) := by have := s1 1 _ rfl; rw [Nat.zero_add] at this; exact this
            have b1 : V1.cell? ⟨g1 + 1, 1, .none⟩ = some (.int .u32 y.rs) := by have := s2 1 _ rfl; rw [Nat.zero_add] at this; exact this
            have a2 : V1.cell? ⟨g1, 2, .none⟩ = some (.int .u32 x.ws) := by have := s1 2 _ rfl; rw [Nat.zero_add] at this; exact this
            have b2 : V1.cell? ⟨g1 + 1, 2, .none⟩ = some (.int .u32 y.ws) := by have := s2 2 _ rfl; rw [Nat.zero_add] at this; exact this
            have a3 : V1.cell? ⟨g1, 3, .none⟩ = some (.bool x.rd) := by have := s1 3 _ rfl; rw [Nat.zero_add] at this; exact this
            have b3 : V1.cell? ⟨g1 + 1, 3, .none⟩ = some (.bool y.rd) := by have := s2 3 _ rfl; rw [Nat.zero_add] at this; exact this
            have a4 : V1.cell? ⟨g1, 4, .none⟩ = some (.bool x.wr) := by have := s1 4 _ rfl; rw [Nat.zero_add] at this; exact this
            have b4 : V1.cell? ⟨g1 + 1, 4, .none⟩ = some (.bool y.wr) := by have := s2 4 _ rfl; rw [Nat.zero_add] at this; exact this
            clear s1 s2
            have HV : Hid (Below w.heap.size w V1) := HB.out.1.trans (q1.mono HB.out.1.size)
            clear q1 r3 r4
            go_wp2
            go_ret
            exact ⟨by rw [HR.out]; rfl, HV.out⟩
        · skip
          cases h4 : (x.rd == y.rd)
          · as_aux_lemma =>
              have HR : Hid (cb = false) := by show _ = _; rw [HC.out, h0, h2, h3, h4, h1]; first | rfl | simp
              go_wp2_with fail
              clear a0 a1 a2 a3 a4 b0 b1 b2 b3 b4
              go_at_call 49
              refine (HG.out _ HB.out.1).mono ?_
              rintro e V1 ⟨rfl, q1⟩
              rw [h1]
              have s1 := range_keep r3 q1 (by have := HB.out.2; omega)
              have s2 := range_keep r4 q1 (by have := HB.out.2; omega)
              have a0 : V1.cell? ⟨g1, 0, .none⟩ = some (.slice np1 x.bs.length nc1) := by have := s1 0 _ rfl; rw [Nat.zero_add] at this; exact this
              have b0 : V1.cell? ⟨g1 + 1, 0, .none⟩ = some (.slice np2 y.bs.length nc2) := by have := s2 0 _ rfl; rw [Nat.zero_add] at this; exact this
              have a1 : V1.cell? ⟨g1, 1, .none⟩ = some (.int .u32 x.rs) := by have := s1 1 _ rfl; rw [Nat.zero_add] at this; exact this
              have b1 : V1.cell? ⟨g1 + 1, 1, .none⟩ = some (.int .u32 y.rs) := by have := s2 1 _ rfl; rw [Nat.zero_add] at this; exact this
              have a2 : V1.cell? ⟨g1, 2, .none⟩ = some (.int .u32 x.ws) := by have := s1 2 _ rfl; rw [Nat.zero_add] at this; exact this
              have b2 : V1.cell? ⟨g1 + 1, 2, .none⟩ = some (.int .u32 y.ws) := by have := s2 2 _ rfl; rw [Nat.zero_add] at this; exact this
              have a3 : V1.cell? ⟨g1, 3, .none⟩ = some (.bool x.rd) := by have := s1 3 _ rfl; rw [Nat.zero_add] at this; exact this
              have b3 : V1.cell? ⟨g1 + 1, 3, .none⟩ = some (.bool y.rd) := by have := s2 3 _ rfl; rw [Nat.zero_add] at this; exact this
              have a4 : V1.cell? ⟨g1, 4, .none⟩ = some (.bool x.wr) := by have := s1 4 _ rfl; rw [Nat.zero_add] at this; exact this
              have b4 : V1.cell? ⟨g1 + 1, 4, .none⟩ = some (.bool y.wr) := by have := s2 4 _ rfl; rw [Nat.zero_add] at this; exact this
              clear s1 s2
              have HV : Hid (Below w.heap.size w V1) := HB.out.1.trans (q1.mono HB.out.1.size)
              clear q1 r3 r4
              go_wp2
              go_ret
              exact ⟨by rw [HR.out]; rfl, HV.out⟩
          · skip
            cases h5 : (x.wr == y.wr)
            · as_aux_lemma =>
                have HR : Hid (cb = false) := by show _ = _; rw [HC.out, h0, h2, h3, h4, h5, h1]; first | rfl | simp
                go_wp2_with fail
                clear a0 a1 a2 a3 a4 b0 b1 b2 b3 b4
                go_at_call 49
                refine (HG.out _ HB.out.1).mono ?_
                rintro e V1 ⟨rfl, q1⟩
                rw [h1]
                have s1 := range_keep r3 q1 (by have := HB.out.2; omega)
                have s2 := range_keep r4 q1 (by have := HB.out.2; omega)
                have a0 : V1.cell? ⟨g1, 0, .none⟩ = some (.slice np1 x.bs.length nc1) := by have := s1 0 _ rfl; rw [Nat.zero_add] at this; exact this
                have b0 : V1.cell? ⟨g1 + 1, 0, .none⟩ = some (.slice np2 y.bs.length nc2) := by have := s2 0 _ rfl; rw [Nat.zero_add] at this; exact this
                have a1 : V1.cell? ⟨g1, 1, .none⟩ = some (.int .u32 x.rs) := by have := s1 1 _ rfl; rw [Nat.zero_add] at this; exact this
                have b1 : V1.cell? ⟨g1 + 1, 1, .none⟩ = some (.int .u32 y.rs) := by have := s2 1 _ rfl; rw [Nat.zero_add] at this; exact this
                have a2 : V1.cell? ⟨g1, 2, .none⟩ = some (.int .u32 x.ws) := by have := s1 2 _ rfl; rw [Nat.zero_add] at this; exact this
                have b2 : V1.cell? ⟨g1 + 1, 2, .none⟩ = some (.int .u32 y.ws) := by have := s2 2 _ rfl; rw [Nat.zero_add] at this; exact this
                have a3 : V1.cell? ⟨g1, 3, .none⟩ = some (.bool x.rd) := by have := s1 3 _ rfl; rw [Nat.zero_add] at this; exact this
                have b3 : V1.cell? ⟨g1 + 1, 3, .none⟩ = some (.bool y.rd) := by have := s2 3 _ rfl; rw [Nat.zero_add] at this; exact this
                have a4 : V1.cell? ⟨g1, 4, .none⟩ = some (.bool x.wr) := by have := s1 4 _ rfl; rw [Nat.zero_add] at this; exact this
                have b4 : V1.cell? ⟨g1 + 1, 4, .none⟩ = some (.bool y.wr) := by have := s2 4 _ rfl; rw [Nat.zero_add] at this; exact this
                clear s1 s2
                have HV : Hid (Below w.heap.size w V1) := HB.out.1.trans (q1.mono HB.out.1.size)
                clear q1 r3 r4
                go_wp2
                go_ret
                exact ⟨by rw [HR.out]; rfl, HV.out⟩
            · as_aux_lemma =>
                have HR : Hid (cb = true) := by show _ = _; rw [HC.out, h0, h2, h3, h4, h5, h1]; first | rfl | simp
                go_wp2_with fail
                clear a0 a1 a2 a3 a4 b0 b1 b2 b3 b4
                go_at_call 49
                refine (HG.out _ HB.out.1).mono ?_
                rintro e V1 ⟨rfl, q1⟩
                rw [h1]
                have s1 := range_keep r3 q1 (by have := HB.out.2; omega)
                have s2 := range_keep r4 q1 (by have := HB.out.2; omega)
                have a0 : V1.cell? ⟨g1, 0, .none⟩ = some (.slice np1 x.bs.length nc1) := by have := s1 0 _ rfl; rw [Nat.zero_add] at this; exact this
                have b0 : V1.cell? ⟨g1 + 1, 0, .none⟩ = some (.slice np2 y.bs.length nc2) := by have := s2 0 _ rfl; rw [Nat.zero_add] at this; exact this
                have a1 : V1.cell? ⟨g1, 1, .none⟩ = some (.int .u32 x.rs) := by have := s1 1 _ rfl; rw [Nat.zero_add] at this; exact this
                have b1 : V1.cell? ⟨g1 + 1, 1, .none⟩ = some (.int .u32 y.rs) := by have := s2 1 _ rfl; rw [Nat.zero_add] at this; exact this
                have a2 : V1.cell? ⟨g1, 2, .none⟩ = some (.int .u32 x.ws) := by have := s1 2 _ rfl; rw [Nat.zero_add] at this; exact this
                have b2 : V1.cell? ⟨g1 + 1, 2, .none⟩ = some (.int .u32 y.ws) := by have := s2 2 _ rfl; rw [Nat.zero_add] at this; exact this
                have a3 : V1.cell? ⟨g1, 3, .none⟩ = some (.bool x.rd) := by have := s1 3 _ rfl; rw [Nat.zero_add] at this; exact this
                have b3 : V1.cell? ⟨g1 + 1, 3, .none⟩ = some (.bool y.rd) := by have := s2 3 _ rfl; rw [Nat.zero_add] at this; exact this
                have a4 : V1.cell? ⟨g1, 4, .none⟩ = some (.bool x.wr) := by have := s1 4 _ rfl; rw [Nat.zero_add] at this; exact this
                have b4 : V1.cell? ⟨g1 + 1, 4, .none⟩ = some (.bool y.wr) := by have := s2 4 _ rfl; rw [Nat.zero_add] at this; exact this
                clear s1 s2
                have HV : Hid (Below w.heap.size w V1) := HB.out.1.trans (q1.mono HB.out.1.size)
                clear q1 r3 r4
                go_wp2
                go_ret
                exact ⟨by rw [HR.out]; rfl, HV.out⟩
end Go.Proofs.Ythopgmmodldljaa
