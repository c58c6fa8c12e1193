import Derived.Test.YtabhojfdkmeaoaaWk
namespace Go.Proofs.Ytabhojfdkmeaoaa
open Go.RowKit
set_option linter.unusedVariables false
set_option linter.unusedSimpArgs false
/-- A pipe that nobody made. -/
def Una (w : World) (v : Value) : Prop := v = .pointer .none ∨ ∃ b, v = .pointer (some ⟨b, 0, .none⟩) ∧ w.cell? ⟨b, 516, .none⟩ = some (.bool false)
theorem isMade_no {w : World} {v : Value} (h : Una w v) : Calls Try.prog 25 #[v] w fun e w' => e = .returned (.bool false) ∧ w' = w := by
  rcases h with rfl | ⟨b, rfl, hc⟩
  · go_enter Try.func25, Try.ntmps25
    go_wp2
    go_ret
    exact ⟨rfl, rfl⟩
  · go_enter Try.func25, Try.ntmps25
    go_wp2
    go_ret
    exact ⟨rfl, rfl⟩
theorem shut_no {w : World} {v : Value} (h : Una w v) (x : Bool) : Calls Try.prog 9 #[v, .bool x] w fun e w' => (∃ u, e = .returned u) ∧ w' = w := by
  have c := isMade_no h
  clear h
  go_enter Try.func9, Try.ntmps9
  go_wp2_with fail
  refine c.mono ?_
  rintro e w1 ⟨rfl, hw⟩
  obtain rfl : w = w1 := hw.symm
  go_wp2
  go_end0
  exact ⟨⟨_, rfl⟩, rfl⟩
theorem put_no {w : World} {v : Value} (h : Una w v) (x : Value) : Calls Try.prog 10 #[v, x] w fun e w' => e = .returned (.tuple #[.int .i64 0, .int .i64 3]) ∧ w' = w := by
  have c := isMade_no h
  clear h
  go_enter Try.func10, Try.ntmps10
  go_wp2_with fail
  refine c.mono ?_
  rintro e w1 ⟨rfl, hw⟩
  obtain rfl : w = w1 := hw.symm
  go_wp2
  go_ret2
  exact ⟨rfl, rfl⟩
theorem take_no {w : World} {v : Value} (h : Una w v) (x : Value) : Calls Try.prog 11 #[v, x] w fun e w' => e = .returned (.tuple #[.slice .none 0 0, .int .i64 1]) ∧ w' = w := by
  have c := isMade_no h
  clear h
  go_enter Try.func11, Try.ntmps11
  go_wp2_with fail
  refine c.mono ?_
  rintro e w1 ⟨rfl, hw⟩
  obtain rfl : w = w1 := hw.symm
  go_wp2
  go_ret2
  exact ⟨rfl, rfl⟩
theorem Una.below {w u : World} {v : Value} (h : Una w v) (hb : Below w.heap.size w u) : Una u v := by
  rcases h with rfl | ⟨b, rfl, hc⟩
  · exact .inl rfl
  · exact .inr ⟨b, rfl, (hb.cell (p := ⟨b, 516, .none⟩) (lt_cell hc)).trans hc⟩
theorem state_no {w : World} {v : Value} (h : Una w v) : Calls Try.prog 13 #[v] w fun e w' => e = .returned (.agg #[.slice .none 0 0, .int .u32 0, .int .u32 0, .bool false, .bool false]) ∧ Below w.heap.size w w' := by
  have c := isMade_no (h.below (Trn.new w (.cells #[.slice .none 0 0, .int .u32 0, .int .u32 0, .bool false, .bool false] 36)))
  clear h
  go_enter Try.func13, Try.ntmps13
  go_wp2_with fail
  refine c.mono ?_
  rintro e w1 ⟨rfl, hw⟩
  subst hw
  clear c
  go_upto_region 2 with fail
  go_wp2
  have hr := (sb_new w .none 0 0 0 0 false false).rangeAt
  have hb := Trn.new w (.cells #[.slice .none 0 0, .int .u32 0, .int .u32 0, .bool false, .bool false] 36)
  exact bodyPost_ret (results_cell_any (p := 2) (ty := 36) rfl _ _ ⟨w.heap.size, 0, .none⟩ _ rfl (run_loadVar_mid (P := Try.prog) _ w.heap.size 0 36 _ _ hr Try.underlying36 rfl (by kernel_rfl))) rfl ⟨rfl, hb⟩
/-- The law's own row of two. -/
structure Nb (w wr : World) (g b : Nat) : Prop where
  bel : Below w.heap.size w wr
  c0 : wr.cell? ⟨g, 0, .none⟩ = some (.pointer .none)
  c1 : wr.cell? ⟨g, 1, .none⟩ = some (.pointer (some ⟨b, 0, .none⟩))
  c5 : wr.cell? ⟨b, 516, .none⟩ = some (.bool false)
theorem Nb.below {w wr v : World} {g b : Nat} (h : Nb w wr g b) (hb : Below wr.heap.size wr v) : Nb w v g b :=
  ⟨h.bel.trans (hb.mono h.bel.size), (hb.cell (p := ⟨g, 0, .none⟩) (lt_cell h.c0)).trans h.c0, (hb.cell (p := ⟨g, 1, .none⟩) (lt_cell h.c1)).trans h.c1, (hb.cell (p := ⟨b, 516, .none⟩) (lt_cell h.c5)).trans h.c5⟩
theorem byt_nil (w : World) : Byt w none 0 0 [] := ⟨rfl, Nat.le_refl _, by decide, .inl rfl⟩
set_option maxHeartbeats 4000000 in
theorem nobody_any (w : World) (p : Option Addr) (n c : Nat) (k : Int) : Calls Try.prog 3 #[.slice p n c, .int .i64 k] w fun e w' => e = .returned (.bool true) ∧ Below w.heap.size w w' := by
  go_enter Try.func3, Try.ntmps3
  go_upto_region 1 with fail
  refine wp_region_lit ?_
  refine wpl_built rfl 27 _ rfl (some 16) rfl (pz 0 0 false false false) (by simp only [List.map_toArray, List.map_nil]; exact built_zero) ?_
  simp only [Act.put, List.setIfInBounds_toArray, List.set_cons_succ, List.set_cons_zero]
  refine Great.wpList_boxTo rfl 27 (.tmp 16) rfl (some 17) rfl w.heap.size rfl (pz 0 0 false false false) rfl ?_
  simp only [Act.put, List.setIfInBounds_toArray, List.set_cons_succ, List.set_cons_zero]
  have hb1 := Trn.new w (.cells (pz 0 0 false false false) 27)
  have hz1 : (w.alloc (.cells (pz 0 0 false false false) 27)).heap.size = w.heap.size + 1 := by simp
  have h5 : (w.alloc (.cells (pz 0 0 false false false) 27)).cell? ⟨w.heap.size, 516, .none⟩ = some (.bool false) := by
    rw [World.cell?_alloc_at _ _ _ _ rfl]
    exact pz_hi _ _ _ _ _ 4 516 rfl
  generalize w.alloc (.cells (pz 0 0 false false false) 27) = W1 at *
  generalize pz 0 0 false false false = Z at *
  refine wpList_slice rfl 28 23 2 _ rfl Try.underlying28 #[.pointer .none, .pointer (some ⟨w.heap.size, 0, .none⟩)] (by kernel_rfl) _ rfl ?_
  simp only [Act.put, List.setIfInBounds_toArray, List.set_cons_succ, List.set_cons_zero]
  have hb2 := Trn.new W1 (.cells #[.pointer .none, .pointer (some ⟨w.heap.size, 0, .none⟩)] 23)
  have d0 : (W1.alloc (.cells #[.pointer .none, .pointer (some ⟨w.heap.size, 0, .none⟩)] 23)).cell? ⟨W1.heap.size, 0, .none⟩ = some (.pointer .none) := by rw [World.cell?_alloc_at _ _ _ _ rfl]; rfl
  have d1 : (W1.alloc (.cells #[.pointer .none, .pointer (some ⟨w.heap.size, 0, .none⟩)] 23)).cell? ⟨W1.heap.size, 1, .none⟩ = some (.pointer (some ⟨w.heap.size, 0, .none⟩)) := by rw [World.cell?_alloc_at _ _ _ _ rfl]; rfl
  generalize W1.alloc (.cells #[.pointer .none, .pointer (some ⟨w.heap.size, 0, .none⟩)] 23) = W2 at *
  have HN : Hid (Nb w W2 W1.heap.size w.heap.size) := ⟨hb1.trans (hb2.mono (by omega)), d0, d1, (hb2.cell (p := ⟨w.heap.size, 516, .none⟩) (lt_cell h5)).trans h5⟩
  generalize W1.heap.size = g at *
  clear hb1 hb2 d0 d1 h5 hz1
  have kn : ∀ i j : Int, (decide (i = j)) = (i == j) := fun i j => by by_cases h : i = j <;> simp [h]
  clear kn
  go_wp2
  go_loopw [6] (fun i wr => ∃ I : Nat, I ≤ 2 ∧ i = .int .i64 I ∧ Hid (Nb w wr g w.heap.size)) (fun i _ => 2 - (intOf i).toNat)
  case atStart => exact ⟨0, by omega, rfl, HN⟩
  case round =>
    obtain ⟨I, hI, rfl, HM⟩ := hrel
    have m0 := HM.out.c0
    have m1 := HM.out.c1
    by_cases h2 : I = 2
    · subst h2
      clear m0 m1
      go_wp2_with fail
      refine (new_any wr).mono ?_
      rintro e V1 ⟨rfl, hp1, hb1⟩
      have hw0 := HM.out.bel.size
      have H1 : Hid (Pip V1 wr.heap.size [] 0 true true ∧ Below w.heap.size w V1) := ⟨hp1, HM.out.bel.trans (hb1.mono hw0)⟩
      clear hp1 hb1
      have kc := Lib.run_convert_bytes_const (P := Try.prog) V1 22 5 #[.int .u8 97] 1 1 Try.underlying22 Try.underlying5
      go_wp2_with fail
      clear kc
      have hz := heap_new V1 (.cells #[.int .u8 97] 5 (1, 2))
      have hb2 := Trn.new V1 (.cells #[.int .u8 97] 5 (1, 2))
      generalize hW2 : V1.alloc (.cells #[.int .u8 97] 5 (1, 2)) = V2 at *
      have hl1 := H1.out.1.lt
      have hs1 := H1.out.2.size
      have H2 : Hid (Pip V2 wr.heap.size [] 0 true true ∧ Below w.heap.size w V2 ∧ Byt V2 (some ⟨V1.heap.size, 0, .none⟩) 1 1 [97]) := ⟨H1.out.1.below hb2, H1.out.2.trans (hb2.mono hs1), byt_one _ _ _ hz⟩
      have c10 := put_pip H2.out.1 H2.out.2.2 (fun _ a ha => by injection ha with ha; subst ha; show V1.heap.size ≠ _; omega) (by decide)
      have e1 : putN [] true [97] = 1 := by decide
      have e2 : putHow [] true [97] = 1 := by decide
      rw [e1, e2] at c10
      clear e1 e2 hz hb2 hW2
      refine c10.mono ?_
      rintro e V3 ⟨rfl, hp3, ht3⟩
      have H3 : Hid (Pip V3 wr.heap.size [97] 0 true true ∧ Below w.heap.size w V3) := ⟨hp3, H2.out.2.1.trans (ht3.toBelow hw0 H2.out.2.1.size)⟩
      clear c10 hp3 ht3 hl1 hs1 H1 H2
      go_wp2_with fail
      have c11 := take_pip H3.out.1 2
      have e1 : takeN [97] 2 = 1 := by decide
      have e2 : takeHow [97] true 2 = 1 := by decide
      rw [e1, e2] at c11
      clear e1 e2
      refine c11.mono ?_
      rintro e V4 ⟨q, d, rfl, hO, _, hp4, ht4⟩
      have H4 : Hid (Below w.heap.size w V4 ∧ Byt V4 q 1 d [97]) := ⟨H3.out.2.trans (ht4.toBelow hw0 H3.out.2.size), byt_own hO⟩
      clear c11 hO hp4 ht4 H3
      have u1 : (convert 22 9 (.slice q 1 d)).run Try.prog V4 = .ok (.string ⟨#[97]⟩) V4 := conv1 H4.out.2 (by decide)
      go_wp2
      go_ret
      exact ⟨rfl, H4.out.1⟩
    · have hlt : (I : Int) < 2 := by omega
      obtain ⟨v, hv⟩ : ∃ v, v = if I = 0 then Value.pointer .none else .pointer (some ⟨w.heap.size, 0, .none⟩) := ⟨_, rfl⟩
      have mv : wr.cell? ⟨g, I, .none⟩ = some v := by
        by_cases h0 : I = 0
        · rw [hv, if_pos h0, h0]; exact m0
        · rw [hv, if_neg h0, show I = 1 by omega]; exact m1
      have HU : Hid (Una wr v) := by
        by_cases h0 : I = 0
        · exact .inl (by rw [hv, if_pos h0])
        · exact .inr ⟨w.heap.size, by rw [hv, if_neg h0], HM.out.c5⟩
      clear m0 m1 hv
      have c9 := shut_no HU.out (k == 1)
      have c10 := put_no HU.out (.slice p n c)
      have c11 := take_no HU.out (.int .i64 k)
      have c13 := state_no HU.out
      go_wp2_with fail
      refine c9.mono ?_
      rintro e w1 ⟨⟨u, rfl⟩, hw⟩
      obtain rfl : wr = w1 := hw.symm
      go_wp2_with fail
      refine c10.mono ?_
      rintro e w1 ⟨rfl, hw⟩
      obtain rfl : wr = w1 := hw.symm
      go_wp2_with fail
      refine c11.mono ?_
      rintro e w1 ⟨rfl, hw⟩
      obtain rfl : wr = w1 := hw.symm
      go_wp2_with fail
      refine c13.mono ?_
      rintro e V1 ⟨rfl, hb⟩
      clear c9 c10 c11 c13
      have H1 : Hid (Nb w V1 g w.heap.size) := HM.out.below hb
      clear hb
      go_wp2_with fail
      have c12 := same_any (w := V1) 0 0 false false (byt_nil V1) (byt_nil V1) (by decide)
      refine c12.mono ?_
      rintro e V2 ⟨rfl, hb⟩
      have H2 : Hid (Nb w V2 g w.heap.size) := H1.out.below hb
      clear hb c12
      go_wp2
      exact ⟨⟨I + 1, by omega, rfl, H2⟩, by simp only [intOf]; omega⟩
end Go.Proofs.Ytabhojfdkmeaoaa
