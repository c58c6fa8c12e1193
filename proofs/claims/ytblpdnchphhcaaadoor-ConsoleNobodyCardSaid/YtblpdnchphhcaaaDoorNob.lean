import Derived.Test.YtblpdnchphhcaaaDoorWk
namespace Go.Proofs.YtblpdnchphhcaaaDoor
open Go.RowKit
set_option linter.unusedVariables false
set_option linter.unusedSimpArgs false
/-- A console that nobody made. -/
def Una (w : World) (v : Value) : Prop := v = .pointer .none ∨ ∃ b, v = .pointer (some ⟨b, 0, .none⟩) ∧ w.cell? ⟨b, 130, .none⟩ = some (.bool false)
theorem isMade_no {w : World} {v : Value} (h : Una w v) : Calls Tryd.prog 31 #[v] w fun e w' => e = .returned (.bool false) ∧ w' = w := by
  rcases h with rfl | ⟨b, rfl, hc⟩
  · go_enter Tryd.func31, Tryd.ntmps31
    go_wp2
    go_ret
    exact ⟨rfl, rfl⟩
  · go_enter Tryd.func31, Tryd.ntmps31
    go_wp2
    go_ret
    exact ⟨rfl, rfl⟩
theorem ready_no {w : World} {v : Value} (h : Una w v) : Calls Tryd.prog 17 #[v] w fun e w' => e = .returned (.bool false) ∧ w' = w := by
  have c := isMade_no h
  clear h
  go_enter Tryd.func17, Tryd.ntmps17
  go_wp2_with fail
  refine c.mono ?_
  rintro e w1 ⟨rfl, hw⟩
  obtain rfl : w = w1 := hw.symm
  go_wp2
  go_ret
  exact ⟨rfl, rfl⟩
theorem type_no {w : World} {v : Value} (h : Una w v) (x : Value) : Calls Tryd.prog 10 #[v, x] w fun e w' => e = .returned (.tuple #[.slice .none 0 0, .bool false]) ∧ w' = w := by
  have c := isMade_no h
  clear h
  go_enter Tryd.func10, Tryd.ntmps10
  go_wp2_with fail
  refine c.mono ?_
  rintro e w1 ⟨rfl, hw⟩
  obtain rfl : w = w1 := hw.symm
  go_wp2
  go_ret2
  exact ⟨rfl, rfl⟩
theorem takeU {w : World} {v : Value} (h : Una w v) (x : Value) : Calls Tryd.prog 14 #[v, x] w fun e w' => e = .returned (.tuple #[.slice .none 0 0, .bool false]) ∧ w' = w := by
  have c := ready_no h
  clear h
  go_enter Tryd.func14, Tryd.ntmps14
  go_wp2_with fail
  refine c.mono ?_
  rintro e w1 ⟨rfl, hw⟩
  obtain rfl : w = w1 := hw.symm
  go_wp2
  go_ret2
  exact ⟨rfl, rfl⟩
theorem peekU {w : World} {v : Value} (h : Una w v) (x : Value) : Calls Tryd.prog 13 #[v, x] w fun e w' => e = .returned (.tuple #[.slice .none 0 0, .bool false]) ∧ w' = w := by
  have c := ready_no h
  clear h
  go_enter Tryd.func13, Tryd.ntmps13
  go_wp2_with fail
  refine c.mono ?_
  rintro e w1 ⟨rfl, hw⟩
  obtain rfl : w = w1 := hw.symm
  go_wp2
  go_ret2
  exact ⟨rfl, rfl⟩
theorem Una.below {w u : World} {v : Value} (h : Una w v) (hb : Below w.heap.size w u) : Una u v := by
  rcases h with rfl | ⟨b, rfl, hc⟩
  · exact .inl rfl
  · exact .inr ⟨b, rfl, (hb.cell (p := ⟨b, 130, .none⟩) (lt_cell hc)).trans hc⟩
theorem state_no {w : World} {v : Value} (h : Una w v) : Calls Tryd.prog 12 #[v] w fun e w' => e = .returned (.agg #[.slice .none 0 0, .slice .none 0 0]) ∧ Below w.heap.size w w' := by
  have c := isMade_no (h.below (Trn.new w (.cells #[.slice .none 0 0, .slice .none 0 0] 29)))
  clear h
  go_enter Tryd.func12, Tryd.ntmps12
  go_wp2_with fail
  refine c.mono ?_
  rintro e w1 ⟨rfl, hw⟩
  subst hw
  clear c
  go_upto_region 2 with fail
  go_wp2
  have hr := (sb_new w .none 0 0 .none 0 0).rangeAt
  have hb := Trn.new w (.cells #[.slice .none 0 0, .slice .none 0 0] 29)
  exact bodyPost_ret (results_cell_any (p := 2) (ty := 29) rfl _ _ ⟨w.heap.size, 0, .none⟩ _ rfl (run_loadVar_mid (P := Tryd.prog) _ w.heap.size 0 29 _ _ hr Tryd.underlying29 rfl (by kernel_rfl))) rfl ⟨rfl, hb⟩
/-- The law's own row of two. -/
structure Nb (w wr : World) (g b : Nat) : Prop where
  bel : Below w.heap.size w wr
  c0 : wr.cell? ⟨g, 0, .none⟩ = some (.pointer .none)
  c1 : wr.cell? ⟨g, 1, .none⟩ = some (.pointer (some ⟨b, 0, .none⟩))
  c5 : wr.cell? ⟨b, 130, .none⟩ = some (.bool false)
theorem Nb.below {w wr v : World} {g b : Nat} (h : Nb w wr g b) (hb : Below wr.heap.size wr v) : Nb w v g b :=
  ⟨h.bel.trans (hb.mono h.bel.size), (hb.cell (p := ⟨g, 0, .none⟩) (lt_cell h.c0)).trans h.c0, (hb.cell (p := ⟨g, 1, .none⟩) (lt_cell h.c1)).trans h.c1, (hb.cell (p := ⟨b, 130, .none⟩) (lt_cell h.c5)).trans h.c5⟩
theorem byt_nil (w : World) : Byt w none 0 0 [] := ⟨rfl, Nat.le_refl _, by decide, .inl rfl⟩
set_option maxHeartbeats 4000000 in
theorem nobody_any {w : World} (x k : Int) (hd : Dd w) : Calls Tryd.prog 6 #[.int .u8 x, .int .i64 k] w fun e w' => e = .returned (.bool true) ∧ Below w.heap.size w w' := by
  have HD : Hid (Dd w) := hd
  clear hd
  go_enter Tryd.func6, Tryd.ntmps6
  go_wp2_with fail
  refine (works_any HD.out).mono ?_
  rintro e W0 ⟨rfl, hb0⟩
  have H0 : Hid (Below w.heap.size w W0) := hb0
  clear hb0
  go_upto_region 3 with fail
  refine wp_region_lit ?_
  refine wpl_built rfl 47 _ rfl (some 16) rfl (cz false) (by simp only [List.map_toArray, List.map_nil]; exact built_zero) ?_
  simp only [Act.put, List.setIfInBounds_toArray, List.set_cons_succ, List.set_cons_zero]
  refine Great.wpList_boxTo rfl 47 (.tmp 16) rfl (some 17) rfl W0.heap.size rfl (cz false) rfl ?_
  simp only [Act.put, List.setIfInBounds_toArray, List.set_cons_succ, List.set_cons_zero]
  have hb1 := Trn.new W0 (.cells (cz false) 47)
  have hz1 : (W0.alloc (.cells (cz false) 47)).heap.size = W0.heap.size + 1 := by simp
  have h5 : (W0.alloc (.cells (cz false) 47)).cell? ⟨W0.heap.size, 130, .none⟩ = some (.bool false) := by
    rw [World.cell?_alloc_at _ _ _ _ rfl]
    exact cz_hi _ 2 130 rfl
  generalize W0.alloc (.cells (cz false) 47) = W1 at *
  generalize cz false = Z at *
  refine wpList_slice rfl 48 23 2 _ rfl Tryd.underlying48 #[.pointer .none, .pointer (some ⟨W0.heap.size, 0, .none⟩)] (by kernel_rfl) _ rfl ?_
  simp only [Act.put, List.setIfInBounds_toArray, List.set_cons_succ, List.set_cons_zero]
  have hb2 := Trn.new W1 (.cells #[.pointer .none, .pointer (some ⟨W0.heap.size, 0, .none⟩)] 23)
  have d0 : (W1.alloc (.cells #[.pointer .none, .pointer (some ⟨W0.heap.size, 0, .none⟩)] 23)).cell? ⟨W1.heap.size, 0, .none⟩ = some (.pointer .none) := by rw [World.cell?_alloc_at _ _ _ _ rfl]; rfl
  have d1 : (W1.alloc (.cells #[.pointer .none, .pointer (some ⟨W0.heap.size, 0, .none⟩)] 23)).cell? ⟨W1.heap.size, 1, .none⟩ = some (.pointer (some ⟨W0.heap.size, 0, .none⟩)) := by rw [World.cell?_alloc_at _ _ _ _ rfl]; rfl
  generalize W1.alloc (.cells #[.pointer .none, .pointer (some ⟨W0.heap.size, 0, .none⟩)] 23) = W2 at *
  have HN : Hid (Nb w W2 W1.heap.size W0.heap.size) := ⟨H0.out.trans ((hb1.mono H0.out.size).trans (hb2.mono (by have := H0.out.size; omega))), d0, d1, (hb2.cell (p := ⟨W0.heap.size, 130, .none⟩) (lt_cell h5)).trans h5⟩
  generalize W1.heap.size = g at *
  generalize W0.heap.size = b at *
  clear hb1 hb2 d0 d1 h5 hz1
  go_wp2
  go_loopw [6] (fun i wr => ∃ I : Nat, I ≤ 2 ∧ i = .int .i64 I ∧ Hid (Nb w wr g b)) (fun i _ => 2 - (intOf i).toNat)
  case atStart => exact ⟨0, by omega, rfl, HN⟩
  case round =>
    obtain ⟨I, hI, rfl, HM⟩ := hrel
    have m0 := HM.out.c0
    have m1 := HM.out.c1
    by_cases h2 : I = 2
    · subst h2
      clear m0 m1
      go_wp2
      go_ret
      exact ⟨rfl, HM.out.bel⟩
    · have hlt : (I : Int) < 2 := by omega
      obtain ⟨v, hv⟩ : ∃ v, v = if I = 0 then Value.pointer .none else .pointer (some ⟨b, 0, .none⟩) := ⟨_, rfl⟩
      have mv : wr.cell? ⟨g, I, .none⟩ = some v := by
        by_cases h0 : I = 0
        · rw [hv, if_pos h0, h0]; exact m0
        · rw [hv, if_neg h0, show I = 1 by omega]; exact m1
      have HU : Hid (Una wr v) := by
        by_cases h0 : I = 0
        · exact .inl (by rw [hv, if_pos h0])
        · exact .inr ⟨b, by rw [hv, if_neg h0], HM.out.c5⟩
      clear m0 m1 hv
      have c9 := type_no HU.out (.int .u8 x)
      have c10 := takeU HU.out (.int .i64 k)
      have c11 := peekU HU.out (.int .i64 k)
      have c12 := ready_no HU.out
      have c13 := state_no HU.out
      go_wp2_with fail
      refine c9.mono ?_
      rintro e w1 ⟨rfl, hw⟩
      obtain rfl : wr = w1 := hw.symm
      go_wp2_with fail
      refine c10.mono ?_
      rintro e w1 ⟨rfl, hw⟩
      obtain rfl : wr = w1 := hw.symm
      go_wp2_with fail
      refine c11.mono ?_
      rintro e w1 ⟨rfl, hw⟩
      obtain rfl : wr = w1 := hw.symm
      go_wp2_with fail
      refine c12.mono ?_
      rintro e w1 ⟨rfl, hw⟩
      obtain rfl : wr = w1 := hw.symm
      go_wp2_with fail
      refine c13.mono ?_
      rintro e V1 ⟨rfl, hb⟩
      clear c9 c10 c11 c12 c13
      have H1 : Hid (Nb w V1 g b) := HM.out.below hb
      clear hb
      have c14 := states_any (w := V1) (byt_nil V1) (byt_nil V1) (byt_nil V1) (byt_nil V1) (by decide) (by decide)
      go_wp2_with fail
      refine c14.mono ?_
      rintro e V2 ⟨rfl, hb⟩
      have H2 : Hid (Nb w V2 g b) := H1.out.below hb
      clear hb c14
      go_wp2
      exact ⟨⟨I + 1, by omega, rfl, H2⟩, by simp only [intOf]; omega⟩
end Go.Proofs.YtblpdnchphhcaaaDoor
