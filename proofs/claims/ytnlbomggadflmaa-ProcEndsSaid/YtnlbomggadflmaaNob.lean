import Derived.Test.YtnlbomggadflmaaNo
namespace Go.Proofs.Ytnlbomggadflmaa
open Go.RowKit
set_option linter.unusedVariables false
set_option linter.unusedSimpArgs false
set_option maxRecDepth 100000
theorem field_st (p : Pr) (w : World) : (Instr.field 28 (.agg p.l.toArray) 1).run Try.prog w = .ok (.int .i64 p.st) w := by kernel_rfl
theorem built_tab0 : Try.prog.built 56 [] = some (zT 0) := by kernel_rfl
section
attribute [local irreducible] sl tl zT
variable {w : World}
theorem noT_new (w : World) : NoT (w.alloc (.cells (zT 0) 56)) (some ⟨w.heap.size, 0, .none⟩) := .inr ⟨_, rfl, by rw [zT]; exact (tb_new w zS 0 _).cn⟩
set_option maxHeartbeats 4000000 in
theorem nobody_walk (s k m t : Int) : Calls Try.prog 6 #[.int .i64 s, .agg #[.int .i64 k, .int .i64 m], .int .i32 t] w fun e w' => e = .returned (.bool true) ∧ Below w.heap.size w w' := by
  have HB0 : Hid (Below w.heap.size w (w.alloc (.cells #[.int .i64 k, .int .i64 m] 26))) := below1 _ _
  have HC : Hid ((w.alloc (.cells #[.int .i64 k, .int .i64 m] 26)).cell? ⟨w.heap.size, 0, .none⟩ = some (.int .i64 k) ∧ (w.alloc (.cells #[.int .i64 k, .int .i64 m] 26)).cell? ⟨w.heap.size, 1, .none⟩ = some (.int .i64 m)) := ⟨by rw [World.cell?_alloc_at _ _ _ _ rfl]; rfl, by rw [World.cell?_alloc_at _ _ _ _ rfl]; rfl⟩
  have hsz : w.heap.size < (w.alloc (.cells #[.int .i64 k, .int .i64 m] 26)).heap.size := by simp
  go_enter Try.func6, Try.ntmps6
  go_upto_region 1 with fail
  generalize w.alloc (.cells #[.int .i64 k, .int .i64 m] 26) = w1 at *
  refine wp_region_lit ?_
  refine wpl_buildG rfl 56 #[] rfl (zT 0) (by simpa using built_tab0) ?_
  simp only [Act.put, List.setIfInBounds_toArray, List.set_cons_zero, List.set_cons_succ]
  refine Great.wpList_boxTo rfl 56 (.tmp 19) rfl _ rfl w1.heap.size rfl (zT 0) rfl ?_
  simp only [Act.put, List.setIfInBounds_toArray, List.set_cons_zero, List.set_cons_succ]
  have HN := noT_new w1
  have b2 : Below w1.heap.size w1 (w1.alloc (.cells (zT 0) 56)) := below1 _ _
  have hs2 : w1.heap.size < (w1.alloc (.cells (zT 0) 56)).heap.size := by simp
  generalize w1.alloc (.cells (zT 0) 56) = w2 at *
  have HH : Hid (∀ W, W = w2.alloc (.cells #[.pointer none, .pointer (some ⟨w1.heap.size, 0, .none⟩)] 36) → Below w.heap.size w W ∧ NoT W none ∧ NoT W (some ⟨w1.heap.size, 0, .none⟩) ∧ W.cell? ⟨w2.heap.size, 0, .none⟩ = some (.pointer none) ∧ W.cell? ⟨w2.heap.size, 1, .none⟩ = some (.pointer (some ⟨w1.heap.size, 0, .none⟩)) ∧ W.cell? ⟨w.heap.size, 0, .none⟩ = some (.int .i64 k) ∧ W.cell? ⟨w.heap.size, 1, .none⟩ = some (.int .i64 m)) := fun W hW => by
    subst hW
    have b3 := below1 w2 (.cells #[.pointer none, .pointer (some ⟨w1.heap.size, 0, .none⟩)] 36)
    have h12 : w.heap.size < w2.heap.size := by omega
    refine ⟨(HB0.out.trans (b2.mono (by omega))).trans (b3.mono (by omega)), .inl rfl, HN.bel b3, by rw [World.cell?_alloc_at _ _ _ _ rfl]; rfl, by rw [World.cell?_alloc_at _ _ _ _ rfl]; rfl, ?_, ?_⟩
    · exact (b3.cell (p := ⟨w.heap.size, 0, .none⟩) h12).trans ((b2.cell (p := ⟨w.heap.size, 0, .none⟩) hsz).trans HC.out.1)
    · exact (b3.cell (p := ⟨w.heap.size, 1, .none⟩) h12).trans ((b2.cell (p := ⟨w.heap.size, 1, .none⟩) hsz).trans HC.out.2)
  clear HB0 HC hsz HN b2 hs2
  go_wp2
  have HI := HH.out _ rfl
  clear HH
  generalize hx : w.heap.size = x at *
  have HX : Hid (w.heap.size = x) := hx
  clear hx
  generalize w2.alloc (.cells #[.pointer none, .pointer (some ⟨w1.heap.size, 0, .none⟩)] 36) = w3 at *
  generalize w2.heap.size = y at *
  generalize w1.heap.size = z at *
  have HII : Hid (Below x w w3 ∧ NoT w3 none ∧ NoT w3 (some ⟨z, 0, .none⟩) ∧ w3.cell? ⟨y, 0, .none⟩ = some (.pointer none) ∧ w3.cell? ⟨y, 1, .none⟩ = some (.pointer (some ⟨z, 0, .none⟩)) ∧ w3.cell? ⟨x, 0, .none⟩ = some (.int .i64 k) ∧ w3.cell? ⟨x, 1, .none⟩ = some (.int .i64 m)) := HI
  clear HI
  go_loopw [8] (fun i wr => ∃ n : Nat, n ≤ 2 ∧ i = .int .i64 n ∧ Hid (Below x w wr ∧ NoT wr none ∧ NoT wr (some ⟨z, 0, .none⟩) ∧ wr.cell? ⟨y, 0, .none⟩ = some (.pointer none) ∧ wr.cell? ⟨y, 1, .none⟩ = some (.pointer (some ⟨z, 0, .none⟩)) ∧ wr.cell? ⟨x, 0, .none⟩ = some (.int .i64 k) ∧ wr.cell? ⟨x, 1, .none⟩ = some (.int .i64 m))) (fun i _ => (2 - intOf i).toNat)
  case atStart => exact ⟨0, by omega, rfl, HII.out⟩
  case round =>
    clear HII
    obtain ⟨n, hn, rfl, HR⟩ := hrel
    by_cases hlt : n < 2
    · have g0 : (n : Int) < 2 := by omega
      obtain ⟨tq, htq, HT⟩ : ∃ tq, wr.cell? ⟨y, n, .none⟩ = some (.pointer tq) ∧ Hid (NoT wr tq) := by
        by_cases n0 : n = 0
        · subst n0; exact ⟨none, HR.out.2.2.2.1, HR.out.2.1⟩
        · obtain rfl : n = 1 := by omega
          exact ⟨some ⟨z, 0, .none⟩, HR.out.2.2.2.2.1, HR.out.2.2.1⟩
      have KS : Hid (∀ (W W' : World), (Below x w W ∧ NoT W none ∧ NoT W (some ⟨z, 0, .none⟩) ∧ W.cell? ⟨y, 0, .none⟩ = some (.pointer none) ∧ W.cell? ⟨y, 1, .none⟩ = some (.pointer (some ⟨z, 0, .none⟩)) ∧ W.cell? ⟨x, 0, .none⟩ = some (.int .i64 k) ∧ W.cell? ⟨x, 1, .none⟩ = some (.int .i64 m)) → Below W.heap.size W W' → (Below x w W' ∧ NoT W' none ∧ NoT W' (some ⟨z, 0, .none⟩) ∧ W'.cell? ⟨y, 0, .none⟩ = some (.pointer none) ∧ W'.cell? ⟨y, 1, .none⟩ = some (.pointer (some ⟨z, 0, .none⟩)) ∧ W'.cell? ⟨x, 0, .none⟩ = some (.int .i64 k) ∧ W'.cell? ⟨x, 1, .none⟩ = some (.int .i64 m))) := fun W W' h b => by
        obtain ⟨h1, h2, h3, h4, h5, h6, h7⟩ := h
        have hx : x ≤ W.heap.size := Nat.le_of_lt (lt_cell h6)
        exact ⟨h1.trans (b.mono hx), h2.bel b, h3.bel b, (b.cell (p := ⟨y, 0, .none⟩) (lt_cell h4)).trans h4, (b.cell (p := ⟨y, 1, .none⟩) (lt_cell h5)).trans h5, (b.cell (p := ⟨x, 0, .none⟩) (lt_cell h6)).trans h6, (b.cell (p := ⟨x, 1, .none⟩) (lt_cell h7)).trans h7⟩
      have kk := add_nob HT.out s
      go_wp2_with fail
      refine kk.mono ?_
      rintro e v0 ⟨rfl, hb⟩
      have HR0 : Hid (Below x w v0 ∧ NoT v0 none ∧ NoT v0 (some ⟨z, 0, .none⟩) ∧ v0.cell? ⟨y, 0, .none⟩ = some (.pointer none) ∧ v0.cell? ⟨y, 1, .none⟩ = some (.pointer (some ⟨z, 0, .none⟩)) ∧ v0.cell? ⟨x, 0, .none⟩ = some (.int .i64 k) ∧ v0.cell? ⟨x, 1, .none⟩ = some (.int .i64 m)) := KS.out _ _ HR.out hb
      have HT0 : Hid (NoT v0 tq) := HT.out.bel hb
      clear kk hb HR
      clear htq
      have kk := pick_nob HT0.out s
      go_wp2_with fail
      refine kk.mono ?_
      rintro e v1 ⟨rfl, hb⟩
      have HR1 : Hid (Below x w v1 ∧ NoT v1 none ∧ NoT v1 (some ⟨z, 0, .none⟩) ∧ v1.cell? ⟨y, 0, .none⟩ = some (.pointer none) ∧ v1.cell? ⟨y, 1, .none⟩ = some (.pointer (some ⟨z, 0, .none⟩)) ∧ v1.cell? ⟨x, 0, .none⟩ = some (.int .i64 k) ∧ v1.cell? ⟨x, 1, .none⟩ = some (.int .i64 m)) := KS.out _ _ HR0.out hb
      have HT1 : Hid (NoT v1 tq) := HT0.out.bel hb
      clear kk hb HR0
      have kk := end_nob HT1.out s t
      go_wp2_with fail
      refine kk.mono ?_
      rintro e v2 ⟨rfl, hb⟩
      have HR2 : Hid (Below x w v2 ∧ NoT v2 none ∧ NoT v2 (some ⟨z, 0, .none⟩) ∧ v2.cell? ⟨y, 0, .none⟩ = some (.pointer none) ∧ v2.cell? ⟨y, 1, .none⟩ = some (.pointer (some ⟨z, 0, .none⟩)) ∧ v2.cell? ⟨x, 0, .none⟩ = some (.int .i64 k) ∧ v2.cell? ⟨x, 1, .none⟩ = some (.int .i64 m)) := KS.out _ _ HR1.out hb
      have HT2 : Hid (NoT v2 tq) := HT1.out.bel hb
      clear kk hb HR1
      have kk := zombie_nob HT2.out s
      go_wp2_with fail
      refine kk.mono ?_
      rintro e v3 ⟨rfl, hb⟩
      have HR3 : Hid (Below x w v3 ∧ NoT v3 none ∧ NoT v3 (some ⟨z, 0, .none⟩) ∧ v3.cell? ⟨y, 0, .none⟩ = some (.pointer none) ∧ v3.cell? ⟨y, 1, .none⟩ = some (.pointer (some ⟨z, 0, .none⟩)) ∧ v3.cell? ⟨x, 0, .none⟩ = some (.int .i64 k) ∧ v3.cell? ⟨x, 1, .none⟩ = some (.int .i64 m)) := KS.out _ _ HR2.out hb
      have HT3 : Hid (NoT v3 tq) := HT2.out.bel hb
      clear kk hb HR2
      have kk := sleep_nob HT3.out s k m
      have cx0 := HR3.out.2.2.2.2.2.1
      have cx1 := HR3.out.2.2.2.2.2.2
      go_wp2_with fail
      refine kk.mono ?_
      rintro e v4 ⟨rfl, hb⟩
      have HR4 : Hid (Below x w v4 ∧ NoT v4 none ∧ NoT v4 (some ⟨z, 0, .none⟩) ∧ v4.cell? ⟨y, 0, .none⟩ = some (.pointer none) ∧ v4.cell? ⟨y, 1, .none⟩ = some (.pointer (some ⟨z, 0, .none⟩)) ∧ v4.cell? ⟨x, 0, .none⟩ = some (.int .i64 k) ∧ v4.cell? ⟨x, 1, .none⟩ = some (.int .i64 m)) := KS.out _ _ HR3.out hb
      have HT4 : Hid (NoT v4 tq) := HT3.out.bel hb
      clear kk hb HR3
      clear cx0 cx1
      have kk := wake_nob HT4.out k m
      have cx0 := HR4.out.2.2.2.2.2.1
      have cx1 := HR4.out.2.2.2.2.2.2
      go_wp2_with fail
      refine kk.mono ?_
      rintro e v5 ⟨rfl, hb⟩
      have HR5 : Hid (Below x w v5 ∧ NoT v5 none ∧ NoT v5 (some ⟨z, 0, .none⟩) ∧ v5.cell? ⟨y, 0, .none⟩ = some (.pointer none) ∧ v5.cell? ⟨y, 1, .none⟩ = some (.pointer (some ⟨z, 0, .none⟩)) ∧ v5.cell? ⟨x, 0, .none⟩ = some (.int .i64 k) ∧ v5.cell? ⟨x, 1, .none⟩ = some (.int .i64 m)) := KS.out _ _ HR4.out hb
      have HT5 : Hid (NoT v5 tq) := HT4.out.bel hb
      clear kk hb HR4
      clear cx0 cx1
      have kk := wakeOne_nob HT5.out s
      go_wp2_with fail
      refine kk.mono ?_
      rintro e v6 ⟨rfl, hb⟩
      have HR6 : Hid (Below x w v6 ∧ NoT v6 none ∧ NoT v6 (some ⟨z, 0, .none⟩) ∧ v6.cell? ⟨y, 0, .none⟩ = some (.pointer none) ∧ v6.cell? ⟨y, 1, .none⟩ = some (.pointer (some ⟨z, 0, .none⟩)) ∧ v6.cell? ⟨x, 0, .none⟩ = some (.int .i64 k) ∧ v6.cell? ⟨x, 1, .none⟩ = some (.int .i64 m)) := KS.out _ _ HR5.out hb
      have HT6 : Hid (NoT v6 tq) := HT5.out.bel hb
      clear kk hb HR5
      have kk := kill_nob HT6.out s
      go_wp2_with fail
      refine kk.mono ?_
      rintro e v7 ⟨rfl, hb⟩
      have HR7 : Hid (Below x w v7 ∧ NoT v7 none ∧ NoT v7 (some ⟨z, 0, .none⟩) ∧ v7.cell? ⟨y, 0, .none⟩ = some (.pointer none) ∧ v7.cell? ⟨y, 1, .none⟩ = some (.pointer (some ⟨z, 0, .none⟩)) ∧ v7.cell? ⟨x, 0, .none⟩ = some (.int .i64 k) ∧ v7.cell? ⟨x, 1, .none⟩ = some (.int .i64 m)) := KS.out _ _ HR6.out hb
      have HT7 : Hid (NoT v7 tq) := HT6.out.bel hb
      clear kk hb HR6
      have kk := free_nob HT7.out s
      go_wp2_with fail
      refine kk.mono ?_
      rintro e v8 ⟨rfl, hb⟩
      have HR8 : Hid (Below x w v8 ∧ NoT v8 none ∧ NoT v8 (some ⟨z, 0, .none⟩) ∧ v8.cell? ⟨y, 0, .none⟩ = some (.pointer none) ∧ v8.cell? ⟨y, 1, .none⟩ = some (.pointer (some ⟨z, 0, .none⟩)) ∧ v8.cell? ⟨x, 0, .none⟩ = some (.int .i64 k) ∧ v8.cell? ⟨x, 1, .none⟩ = some (.int .i64 m)) := KS.out _ _ HR7.out hb
      have HT8 : Hid (NoT v8 tq) := HT7.out.bel hb
      clear kk hb HR7
      have kk := room_nob HT8.out
      go_wp2_with fail
      refine kk.mono ?_
      rintro e v9 ⟨rfl, hb⟩
      have HR9 : Hid (Below x w v9 ∧ NoT v9 none ∧ NoT v9 (some ⟨z, 0, .none⟩) ∧ v9.cell? ⟨y, 0, .none⟩ = some (.pointer none) ∧ v9.cell? ⟨y, 1, .none⟩ = some (.pointer (some ⟨z, 0, .none⟩)) ∧ v9.cell? ⟨x, 0, .none⟩ = some (.int .i64 k) ∧ v9.cell? ⟨x, 1, .none⟩ = some (.int .i64 m)) := KS.out _ _ HR8.out hb
      have HT9 : Hid (NoT v9 tq) := HT8.out.bel hb
      clear kk hb HR8
      have kk := look_nob HT9.out s
      rw [Pr.l, zP] at kk
      dsimp only at kk
      go_wp2_with fail
      refine kk.mono ?_
      rintro e v10 ⟨rfl, hb⟩
      have HR10 : Hid (Below x w v10 ∧ NoT v10 none ∧ NoT v10 (some ⟨z, 0, .none⟩) ∧ v10.cell? ⟨y, 0, .none⟩ = some (.pointer none) ∧ v10.cell? ⟨y, 1, .none⟩ = some (.pointer (some ⟨z, 0, .none⟩)) ∧ v10.cell? ⟨x, 0, .none⟩ = some (.int .i64 k) ∧ v10.cell? ⟨x, 1, .none⟩ = some (.int .i64 m)) := KS.out _ _ HR9.out hb
      have HT10 : Hid (NoT v10 tq) := HT9.out.bel hb
      clear kk hb HR9
      have kk := state_nob HT10.out
      generalize hTT : (tl zS 0).toArray = TT at kk
      have HTT : Hid ((tl zS 0).toArray = TT) := hTT
      clear hTT
      go_wp2_with fail
      refine kk.mono ?_
      rintro e v11 ⟨rfl, hb⟩
      have HR11 : Hid (Below x w v11 ∧ NoT v11 none ∧ NoT v11 (some ⟨z, 0, .none⟩) ∧ v11.cell? ⟨y, 0, .none⟩ = some (.pointer none) ∧ v11.cell? ⟨y, 1, .none⟩ = some (.pointer (some ⟨z, 0, .none⟩)) ∧ v11.cell? ⟨x, 0, .none⟩ = some (.int .i64 k) ∧ v11.cell? ⟨x, 1, .none⟩ = some (.int .i64 m)) := KS.out _ _ HR10.out hb
      have HT11 : Hid (NoT v11 tq) := HT10.out.bel hb
      clear kk hb HR10
      rename_i K1 hK1
      refine hK1 _ _ ?_
      clear hK1 K1
      refine wpl_buildG rfl 31 #[] rfl TT (by rw [← HTT.out]; simpa using built_zero) ?_
      simp only [Act.put, List.setIfInBounds_toArray, List.set_cons_zero, List.set_cons_succ]
      refine wpl_neqG rfl 31 _ (.tmp 127) (.tmp 128) rfl (.agg TT) (.agg TT) rfl rfl false (guard_table _ _ _ _ _ _) (by rw [← HTT.out, neq_table, show tEq zS zS 0 0 = true by simp [tEq, sEq_iff]]; rfl) ?_
      simp only [Act.put, List.setIfInBounds_toArray, List.set_cons_zero, List.set_cons_succ]
      go_wp2
      exact ⟨⟨n + 1, by omega, rfl, HR11.out⟩, by simp only [intOf]; omega⟩
    · obtain rfl : n = 2 := by omega
      go_wp2
      go_ret
      exact ⟨rfl, by rw [HX.out]; exact HR.out.1⟩
end
end Go.Proofs.Ytnlbomggadflmaa
