import Derived.Test.YtnghcadhilfgnaaRfN
import Derived.RegionTactic
import Derived.BigRegion
import Derived.Deep.Cut
import Derived.Deep.RegionHeld3
namespace Go.Proofs.Ytnghcadhilfgnaa
open Go.RowKit
set_option linter.unusedVariables false
set_option linter.unusedSimpArgs false
/-- What the document's FromImage says of an image of a right size. -/
def RefP (W : World) (F : Nat → Int) (nf : Nat) (PA : Nat → Int) (L : Nat → Nat) (D : Nat → Nat → Int) (nh n : Nat) (e : Ending) (w' : World) : Prop :=
  ((∃ a, Wrong F nf PA L nh n a ∧ a ≠ 0 ∧ e = .returned (.tuple #[.pointer none, .int .i64 a, .int .i64 63])) ∨ (Wrong F nf PA L nh n 0 ∧ ∃ q, e = .returned (.tuple #[.pointer (some ⟨q, 0, .none⟩), .int .i64 0, .int .i64 0]) ∧ QI W w' q n F nf PA D nh)) ∧ Below W.heap.size W w'
set_option maxHeartbeats 4000000 in
set_option maxRecDepth 100000 in
theorem ref_from (W : World) (nf cf nh ch n : Nat) (qf qh : Option Addr) (F PA : Nat → Int) (P : Nat → Option Addr) (L C : Nat → Nat) (D : Nat → Nat → Int) (hf : Fs W qf nf F) (hF : ∀ i, 0 ≤ F i ∧ F i < 18446744073709551616) (hcf : nf ≤ cf) (hcfm : cf ≤ 9223372036854775807) (hH : Hs W qh nh PA P L C) (hP : ∀ i, 0 ≤ PA i ∧ PA i < 18446744073709551616) (hc : nh ≤ ch) (hcm : ch ≤ 9223372036854775807) (hl : ∀ i, L i ≤ 9223372036854775807) (hD : Ds W nh P L D) (h1 : 1 ≤ n) (h2 : n ≤ 4096) (hs : nf ≤ 281474976710656 ∧ nh ≤ 281474976710656) :
    Calls Try.prog 60 #[.agg #[.int .i64 n, .slice qf nf cf, .slice qh nh ch]] W fun e w' => RefP W F nf PA L D nh n e w' := by
  have hmr := make_rows n h2
  obtain ⟨j0, hj0, hjz, hj1, hj2⟩ := info3q
  have HZ : Hid (∀ i, i < n → (Zq n)[i]? = some (.slice .none 0 0)) := fun i hi => Zq_at n i hi
  have y1 : ¬ (n : Int) < 1 := by omega
  have y2 : ¬ (n : Int) > 4096 := by omega
  generalize Zq n = Z at *
  have HH : Hid (Fs W qf nf F ∧ Hs W qh nh PA P L C ∧ Ds W nh P L D) := ⟨hf, hH, hD⟩
  clear hf hH hD
  have HR0 : Hid (R1 W (((W.alloc (.cells #[.int .i64 n, .slice qf nf cf, .slice qh nh ch] 40)).alloc (.cells Z 27)).alloc (.cells #[.slice (some ⟨W.heap.size + 1, 0, .none⟩) n n, .slice .none 0 0] 64)) n nf cf nh ch qf qh F 0 (.slice .none 0 0)) := by
    refine ⟨?_, ?_, ?_, ?_, ?_, ?_, ⟨rfl, .inl ⟨rfl, rfl⟩⟩, fun i hi => ⟨?_, ?_⟩, ?_, ?_, fun i hi => by omega⟩
    · rw [World.cell?_alloc_past _ _ _ (by simp only [World.size_alloc]; omega), World.cell?_alloc_past _ _ _ (by simp), World.cell?_alloc_at _ _ _ _ rfl]; rfl
    · rw [World.cell?_alloc_past _ _ _ (by simp only [World.size_alloc]; omega), World.cell?_alloc_past _ _ _ (by simp), World.cell?_alloc_at _ _ _ _ rfl]; rfl
    · rw [World.cell?_alloc_past _ _ _ (by simp only [World.size_alloc]; omega), World.cell?_alloc_past _ _ _ (by simp), World.cell?_alloc_at _ _ _ _ rfl]; rfl
    · rw [World.cell?_alloc_at _ _ _ _ (by simp only [World.size_alloc])]; rfl
    · rw [World.cell?_alloc_at _ _ _ _ (by simp only [World.size_alloc])]; rfl
    · have := World.frozen?_alloc_new ((W.alloc (.cells #[.int .i64 n, .slice qf nf cf, .slice qh nh ch] 40)).alloc (.cells Z 27)) #[.slice (some ⟨W.heap.size + 1, 0, .none⟩) n n, .slice .none 0 0] 64 1
      rw [World.size_alloc, World.size_alloc] at this
      exact this
    · rw [World.cell?_alloc_past _ _ _ (by simp only [World.size_alloc]; omega), World.cell?_alloc_at _ _ _ _ (by simp only [World.size_alloc])]
      exact HZ.out i hi
    · rw [World.frozen?_alloc_old _ _ _ (by simp only [World.size_alloc]; omega)]
      have := World.frozen?_alloc_new (W.alloc (.cells #[.int .i64 n, .slice qf nf cf, .slice qh nh ch] 40)) Z 27 i
      rw [World.size_alloc] at this
      exact this
    · exact (((Below.refl _ _).alloc (Nat.le_refl _) _).alloc (by simp) _).alloc (by simp only [World.size_alloc]; omega) _
    · simp only [World.size_alloc]; omega
  go_enter Try.func60, Try.ntmps60
  go_wp2_with fail
  generalize (((W.alloc (.cells #[.int .i64 n, .slice qf nf cf, .slice qh nh ch] 40)).alloc (.cells Z 27)).alloc (.cells #[.slice (some ⟨W.heap.size + 1, 0, .none⟩) n n, .slice .none 0 0] 64)) = W1 at *
  clear hmr HZ
  go_loopw [6] (fun a wr => ∃ k : Nat, k ≤ nf ∧ a = .int .i64 k ∧ ∃ lv, Hid (R1 W wr n nf cf nh ch qf qh F k lv)) (fun a _ => (nf - intOf a).toNat)
  case atStart => exact ⟨0, by omega, rfl, _, HR0⟩
  case round =>
    obtain ⟨k, hk, rfl, lv, HR⟩ := hrel
    have i1 := HR.out.i1
    by_cases hlt : k < nf
    · have g0 : (k : Int) < nf := by omega
      obtain ⟨b, o, rfl, lb, hcell⟩ : ∃ b o, qf = some ⟨b, o, .none⟩ ∧ b < W.heap.size ∧ ∀ i, i < nf → W.cell? ⟨b, o + i, .none⟩ = some (.int .u64 (F i)) := by
        rcases HH.out.1 with h | h
        · omega
        · exact h
      have a0 : wr.cell? ⟨b, o + k, .none⟩ = some (.int .u64 (F k)) := (HR.out.be.cell lb).trans (hcell k hlt)
      have c20 := named_any HR.out.c0 h2 (F k) (hF k)
      have hbad := bad1_nmd (n := n) HR.out.ok
      have c1 := HR.out.c1
      have g1 := HR.out.g1
      have hnb : nmd (F k) n < 4096 := by
        unfold nmd
        split
        · rename_i e
          have := (fi_of e).1
          omega
        · omega
      clear hcell HH
      by_cases hx : nmd (F k) n < 1
      · have HW : Hid (Wrong F nf PA L nh n (1 + (k : Int)) ∧ Below W.heap.size W wr) := ⟨⟨k, ⟨by omega, HR.out.ok, fun _ => by rw [hbad, decide_eq_true hx]; rfl⟩, .inl ⟨hlt, rfl⟩⟩, HR.out.be⟩
        clear hbad HR
        generalize nmd (F k) n = x at *
        go_wp2_with (first | (go_at_call 47; refine c20.mono ?_; rintro e w1 ⟨rfl, rfl⟩) | fail)
        refine bodyPost_ret (v := .tuple #[.pointer none, .int .i64 (1 + (k : Int)), .int .i64 63]) (by simp [results, Try.results60, go_sem]) rfl ?_
        exact ⟨.inl ⟨_, HW.out.1, by omega, rfl⟩, HW.out.2⟩
      · have hfr : isFr (F k) n = true := by
          cases e : isFr (F k) n with
          | true => rfl
          | false => exact absurd (by rw [nmd, if_neg (by rw [e]; decide)]; decide) hx
        have ex : nmd (F k) n = (fi (F k) : Int) := by rw [nmd, if_pos hfr]
        have hb := (fi_of hfr).1
        rw [ex] at c20 hx hbad hnb
        rw [decide_eq_false hx, Bool.false_or] at hbad
        have hkn : k ≤ n := ok_le HR.out.ok
        have c21 := has_any wr lv (Lf F k) (fi (F k)) HR.out.lr (by omega) (by rw [Lf_len]; omega)
        rw [← hbad] at c21
        clear hbad ex
        cases hbb : bad1 (among F k) (F k) n with
        | true =>
          rw [hbb] at c21
          have HW : Hid (Wrong F nf PA L nh n (1 + (k : Int)) ∧ Below W.heap.size W wr) := ⟨⟨k, ⟨by omega, HR.out.ok, fun _ => hbb⟩, .inl ⟨hlt, rfl⟩⟩, HR.out.be⟩
          clear HR hbb
          generalize fi (F k) = x at *
          go_wp2_with (first | (go_at_call 47; refine c20.mono ?_; rintro e w1 ⟨rfl, rfl⟩) | (go_at_call 73; refine c21.mono ?_; rintro e w2 ⟨rfl, rfl⟩) | fail)
          refine bodyPost_ret (v := .tuple #[.pointer none, .int .i64 (1 + (k : Int)), .int .i64 63]) (by simp [results, Try.results60, go_sem]) rfl ?_
          exact ⟨.inl ⟨_, HW.out.1, by omega, rfl⟩, HW.out.2⟩
        | false =>
          rw [hbb] at c21
          obtain ⟨qv, cv, rfl⟩ : ∃ qv cv, lv = .slice qv k cv := by
            rcases HR.out.own.2 with ⟨rfl, rfl⟩ | ⟨g, cap, _, rfl, _⟩
            · exact ⟨_, _, rfl⟩
            · exact ⟨_, _, rfl⟩
          have HOA : Hid (∀ o, (wr.alloc o).ownsRow (W.heap.size + 1 + 1 + 1) 3 1 (.slice qv k cv) k ((Lf F k).map iv)) := fun o => HR.out.own.alloc o
          have HST : Hid (∀ (v' : Value) (w5 : World), w5.ownsRow (W.heap.size + 1 + 1 + 1) 3 1 v' (k + 1) ((Lf F k).map iv ++ [iv (fi (F k))]) → (wr.alloc (.cells #[.int .i64 (fi (F k) : Int)] 3)).grownBy w5 (Value.slice qv k cv).ownBlock → w5.cell? ⟨W.heap.size + 1 + 1, 1, .none⟩ = some (.slice qv k cv) ∧ w5.frozen? ⟨W.heap.size + 1 + 1, 1, .none⟩ = false ∧ R1 W (w5.setCell ⟨W.heap.size + 1 + 1, 1, .none⟩ v') n nf cf nh ch (some ⟨b, o, .none⟩) qh F (k + 1) v') := fun v' w5 ho hg => HR.out.step hbb ho hg
          have HSZ : Hid (W.heap.size + 1 + 1 + 1 ≤ wr.heap.size) := HR.out.sz
          have EV : Hid (iv (fi (F k)) = .int .i64 (fi (F k) : Int)) := rfl
          clear HR hbb
          generalize fi (F k) = x at *
          generalize hix : iv x = ivx at *
          go_wp2_with (first | (go_at_call 47; refine c20.mono ?_; rintro e w1 ⟨rfl, rfl⟩) | (go_at_call 73; refine c21.mono ?_; rintro e w2 ⟨rfl, rfl⟩) | (at_builtin; refine wpList_append_own _ rfl _ _ 62 rfl (W.heap.size + 1 + 1 + 1) 3 j0 (.int .i64 0) 1 8 Try.underlying62 hj0 hjz hj1 hj2 rfl (by decide) _ _ ((Lf F k).map iv) rfl (HOA.out _) ⟨w2.heap.size, 0, .none⟩ 1 1 [.int .i64 (x : Int)] rfl rfl (cell1_new _ _ _) (by simp [Value.oneCell']) (by unfold maxLen; omega) (by omega) (by simp only [World.size_alloc]; exact Nat.le_succ_of_le HSZ.out) ?_; intro v' w5 hown5 hgrow _; obtain ⟨gr, cap1, rfl⟩ := ownsRow_succ hown5; obtain ⟨k5, f5, hr5⟩ := HST.out _ _ (by rw [EV.out]; exact hown5) hgrow; have HR5 : Hid (R1 W (w5.setCell ⟨W.heap.size + 1 + 1, 1, .none⟩ (.slice (some ⟨gr, 0, .none⟩) (k + 1) cap1)) n nf cf nh ch (some ⟨b, o, .none⟩) qh F (k + 1) (.slice (some ⟨gr, 0, .none⟩) (k + 1) cap1)) := hr5; clear hr5 hown5 hgrow) | fail)
          exact ⟨⟨k + 1, by omega, by simp, _, HR5⟩, by simp [intOf]; omega⟩
    · obtain rfl : k = nf := by omega
      have HR20 : Hid (R2 W wr n k cf nh ch qf qh F PA L D 0 lv) := HR.out.to2
      have hkn : k ≤ n := ok_le HR.out.ok
      clear HR
      go_wp2_with fail
      go_loopw [8, 9] (fun a8 a9 wr => ∃ k2 : Nat, k2 ≤ nh ∧ a8 = .int .i64 (lst PA k2) ∧ a9 = .int .i64 k2 ∧ Hid (R2 W wr n k cf nh ch qf qh F PA L D k2 lv)) (fun _ a9 _ => (nh - intOf a9).toNat)
      case atStart => exact ⟨0, by omega, rfl, rfl, HR20⟩
      case round =>
        obtain ⟨k2, hk2, rfl, rfl, HR2⟩ := hrel
        clear i1
        have i1 := HR2.out.i1
        have i2 := HR2.out.i2
        have i0 := HR2.out.i0
        by_cases hlt2 : k2 < nh
        · have g0 : (k2 : Int) < nh := by omega
          obtain ⟨hb, ho, rfl, lb, hcell⟩ : ∃ b o, qh = some ⟨b, o, .none⟩ ∧ b < W.heap.size ∧ ∀ i, i < nh → W.cell? ⟨b, o + i * 2, .none⟩ = some (.int .u64 (PA i)) ∧ W.cell? ⟨b, o + i * 2 + 1, .none⟩ = some (.slice (P i) (L i) (C i)) := by
            rcases HH.out.2.1 with h | h
            · omega
            · exact h
          have a0 : wr.cell? ⟨hb, ho + k2 * 2, .none⟩ = some (.int .u64 (PA k2)) := (HR2.out.be.cell lb).trans (hcell k2 hlt2).1
          have a1 : wr.cell? ⟨hb, ho + k2 * 2 + 1, .none⟩ = some (.slice (P k2) (L k2) (C k2)) := (HR2.out.be.cell lb).trans (hcell k2 hlt2).2
          have c20 := named_any HR2.out.c0 h2 (PA k2) (hP k2)
          have hbad := bad2_nmd HR2.out.ok1 HR2.out.ok2
          have c1 := HR2.out.c1
          have hl2 := hl k2
          have hls : lst PA k2 ≤ 4096 := by
            unfold lst
            split
            · omega
            · have := (fi_of (bad2_fr (HR2.out.ok2 (k2 - 1) (by omega)))).1
              omega
          have hls0 : -1 ≤ lst PA k2 := by
            unfold lst
            split <;> omega
          have hnb : nmd (PA k2) n < 4096 ∧ -1 ≤ nmd (PA k2) n := by
            unfold nmd
            split
            · rename_i e
              have := (fi_of e).1
              omega
            · omega
          obtain ⟨hnb, hnb0⟩ := hnb
          clear hcell HR20 HR0
          by_cases hx : nmd (PA k2) n < 0
          · have c21 : True := trivial
            have HW : Hid (Wrong F k PA L nh n (1 + (k : Int) + (k2 : Int)) ∧ Below W.heap.size W wr) := ⟨⟨k, ⟨Nat.le_refl _, HR2.out.ok1, fun h => by omega⟩, .inr ⟨rfl, k2, ⟨by omega, HR2.out.ok2, fun _ => by rw [hbad]; simp [hx]⟩, .inl ⟨.inl hlt2, rfl⟩⟩⟩, HR2.out.be⟩
            clear hbad HR2
            generalize nmd (PA k2) n = x at *
            generalize lst PA k2 = ls at *
            go_wp2_with (first | (go_at_call 47; refine c20.mono ?_; rintro e w1 ⟨rfl, rfl⟩) | (go_at_call 73; refine c21.mono ?_; rintro e w2 ⟨rfl, rfl⟩) | fail)
            go_region
            go_wp2
            refine bodyPost_ret (v := .tuple #[.pointer none, .int .i64 (1 + (k : Int) + (k2 : Int)), .int .i64 63]) (by simp [results, Try.results60, go_sem]) rfl ?_
            exact ⟨.inl ⟨_, HW.out.1, by omega, rfl⟩, HW.out.2.drew⟩
          · have hfr : isFr (PA k2) n = true := by
              cases e : isFr (PA k2) n with
              | true => rfl
              | false => exact absurd (by rw [nmd, if_neg (by rw [e]; decide)]; decide) hx
            have ex : nmd (PA k2) n = (fi (PA k2) : Int) := by rw [nmd, if_pos hfr]
            have hfb := (fi_of hfr).1
            rw [ex] at c20 hx hbad hnb
            clear ex hnb0
            by_cases hy : (fi (PA k2) : Int) ≤ lst PA k2
            · have c21 : True := trivial
              have HW : Hid (Wrong F k PA L nh n (1 + (k : Int) + (k2 : Int)) ∧ Below W.heap.size W wr) := ⟨⟨k, ⟨Nat.le_refl _, HR2.out.ok1, fun h => by omega⟩, .inr ⟨rfl, k2, ⟨by omega, HR2.out.ok2, fun _ => by rw [hbad]; simp [hy]⟩, .inl ⟨.inl hlt2, rfl⟩⟩⟩, HR2.out.be⟩
              clear hbad HR2
              generalize fi (PA k2) = x at *
              generalize lst PA k2 = ls at *
              go_wp2_with (first | (go_at_call 47; refine c20.mono ?_; rintro e w1 ⟨rfl, rfl⟩) | (go_at_call 73; refine c21.mono ?_; rintro e w2 ⟨rfl, rfl⟩) | fail)
              go_region
              go_wp2
              refine bodyPost_ret (v := .tuple #[.pointer none, .int .i64 (1 + (k : Int) + (k2 : Int)), .int .i64 63]) (by simp [results, Try.results60, go_sem]) rfl ?_
              exact ⟨.inl ⟨_, HW.out.1, by omega, rfl⟩, HW.out.2.drew⟩
            · have c21 := has_any wr lv (Lf F k) (fi (PA k2)) HR2.out.lr (by omega) (by rw [Lf_len]; omega)
              by_cases hz : fi (PA k2) ∈ Lf F k
              · rw [decide_eq_true hz] at c21
                have HW : Hid (Wrong F k PA L nh n (1 + (k : Int) + (k2 : Int)) ∧ Below W.heap.size W wr) := ⟨⟨k, ⟨Nat.le_refl _, HR2.out.ok1, fun h => by omega⟩, .inr ⟨rfl, k2, ⟨by omega, HR2.out.ok2, fun _ => by rw [hbad]; simp [hz]⟩, .inl ⟨.inl hlt2, rfl⟩⟩⟩, HR2.out.be⟩
                clear hbad HR2
                clear hz
                generalize fi (PA k2) = x at *
                generalize lst PA k2 = ls at *
                go_wp2_with (first | (go_at_call 47; refine c20.mono ?_; rintro e w1 ⟨rfl, rfl⟩) | (go_at_call 73; refine c21.mono ?_; rintro e w2 ⟨rfl, rfl⟩) | fail)
                go_region
                go_wp2
                refine bodyPost_ret (v := .tuple #[.pointer none, .int .i64 (1 + (k : Int) + (k2 : Int)), .int .i64 63]) (by simp [results, Try.results60, go_sem]) rfl ?_
                exact ⟨.inl ⟨_, HW.out.1, by omega, rfl⟩, HW.out.2.drew⟩
              · rw [decide_eq_false hz] at c21
                by_cases h4 : L k2 = 4096
                · obtain ⟨db, dof, hPk, ldb, hdat⟩ : ∃ b o, P k2 = some ⟨b, o, .none⟩ ∧ b < W.heap.size ∧ ∀ j, j < L k2 → W.cell? ⟨b, o + j, .none⟩ = some (.int .u8 (D k2 j)) := by
                    rcases HH.out.2.2 k2 hlt2 with h | h
                    · omega
                    · exact h
                  have HB2 : Hid (bad2 (among F k) PA L n k2 = false ∧ ∀ j, j < k2 → fi (PA j) ≠ fi (PA k2)) := by
                    have hb2 : bad2 (among F k) PA L n k2 = false := by rw [hbad]; simp [hx, hy, hz, h4]
                    refine ⟨hb2, fun j hj e => ?_⟩
                    have hok : ∀ i, i < k2 + 1 → bad2 (among F k) PA L n i = false := fun i hi => by
                      by_cases e : i = k2
                      · rw [e]; exact hb2
                      · exact HR2.out.ok2 i (by omega)
                    have h5 := ok2_rise hok k2 (by omega) j hj
                    have h6 := fi_inj (bad2_fr (HR2.out.ok2 j hj)) (bad2_fr hb2) e
                    omega
                  rw [h4] at hdat a1
                  rw [hPk] at a1
                  have HST : Hid (R2 W wr.drew n k cf nh ch qf (some ⟨hb, ho, .none⟩) F PA L D k2 lv) := HR2.out.drew
                  have hd4 : Hid (∀ j, j < 4096 → wr.drew.cell? ⟨db, dof + j, .none⟩ = some (.int .u8 (D k2 j))) := fun j hj => (HR2.out.be.cell ldb).trans (hdat j hj)
                  have ELS : Hid (lst PA (k2 + 1) = (fi (PA k2) : Int)) := rfl
                  have b0 := HR2.out.c0
                  have lbx : hb ≠ W.heap.size + 1 := by omega
                  have HX : Hid (fi (PA k2) < n) := hfb
                  clear hbad hPk hdat HR2 hz h4 h1 hP hl hl2
                  generalize hfe : fi (PA k2) = x at *
                  generalize lst PA k2 = ls at *
                  go_wp2_with (first | (go_at_call 47; refine c20.mono ?_; rintro e w1 ⟨rfl, rfl⟩) | (go_at_call 73; refine c21.mono ?_; rintro e w2 ⟨rfl, rfl⟩) | fail)
                  refine wp_region_held_drew (S := (fun ww => ww.cell? ⟨W.heap.size + 1 + 1, 0, .none⟩ = some (.slice (some ⟨W.heap.size + 1, 0, .none⟩) n n) ∧ ww.cell? ⟨W.heap.size, 2, .none⟩ = some (.slice (some ⟨hb, ho, .none⟩) nh ch) ∧ ww.cell? ⟨hb, ho + k2 * 2 + 1, .none⟩ = some (.slice (some ⟨db, dof, .none⟩) 4096 (C k2)))) (by kernel_rfl) ⟨b0, i2, a1⟩ (fun hHeld => ?_)
                  refine wpAnyH_take (i := 0) (v := (.pointer (some ⟨W.heap.size + 1 + 1, 0, .none⟩))) rfl (by kernel_rfl) (by kernel_rfl) (by kernel_rfl) (fun _ _ _ h => h) (Or.inl ⟨by rfl, fun ww hSw => by (try dsimp only at hSw); go_simp⟩) (by assumption) ?_
                  simp only [Act.put, List.setIfInBounds_toArray, List.set_cons_zero, List.set_cons_succ, List.getElem_toArray, List.getElem_cons_succ, List.getElem_cons_zero]
                  refine wpAnyH_take (i := 1) (v := (.pointer (some ⟨W.heap.size + 1 + 1, 0, .none⟩))) rfl (by kernel_rfl) (by kernel_rfl) (by kernel_rfl) (fun _ _ _ h => h) (Or.inl ⟨by rfl, fun ww hSw => by (try dsimp only at hSw); go_simp⟩) (by assumption) ?_
                  simp only [Act.put, List.setIfInBounds_toArray, List.set_cons_zero, List.set_cons_succ, List.getElem_toArray, List.getElem_cons_succ, List.getElem_cons_zero]
                  refine wpAnyH_take (i := 2) (v := (.pointer (some ⟨W.heap.size + 1 + 1, 0, .none⟩))) rfl (by kernel_rfl) (by kernel_rfl) (by kernel_rfl) (fun _ _ _ h => h) (Or.inl ⟨by rfl, fun ww hSw => by (try dsimp only at hSw); go_simp⟩) (by assumption) ?_
                  simp only [Act.put, List.setIfInBounds_toArray, List.set_cons_zero, List.set_cons_succ, List.getElem_toArray, List.getElem_cons_succ, List.getElem_cons_zero]
                  refine wpAnyH_take (i := 3) (v := (.slice (some ⟨W.heap.size + 1, 0, .none⟩) n n)) rfl (by kernel_rfl) (by kernel_rfl) (by kernel_rfl) (fun _ _ _ h => h) (Or.inl ⟨by rfl, fun ww hSw => by (try dsimp only at hSw); obtain ⟨q0, q1, q2⟩ := hSw; go_simp⟩) (by assumption) ?_
                  simp only [Act.put, List.setIfInBounds_toArray, List.set_cons_zero, List.set_cons_succ, List.getElem_toArray, List.getElem_cons_succ, List.getElem_cons_zero]
                  refine wpAnyH_take (i := 4) (v := (.int .i64 (x : Int))) rfl (by kernel_rfl) (by kernel_rfl) (by kernel_rfl) (fun _ _ _ h => h) (Or.inl ⟨by rfl, fun ww hSw => by (try dsimp only at hSw); go_simp⟩) (by assumption) ?_
                  simp only [Act.put, List.setIfInBounds_toArray, List.set_cons_zero, List.set_cons_succ, List.getElem_toArray, List.getElem_cons_succ, List.getElem_cons_zero]
                  refine wpAnyH_take (i := 5) (v := (.pointer (some ⟨W.heap.size, 2, .none⟩))) rfl (by kernel_rfl) (by kernel_rfl) (by kernel_rfl) (fun _ _ _ h => h) (Or.inl ⟨by rfl, fun ww hSw => by (try dsimp only at hSw); go_simp⟩) (by assumption) ?_
                  simp only [Act.put, List.setIfInBounds_toArray, List.set_cons_zero, List.set_cons_succ, List.getElem_toArray, List.getElem_cons_succ, List.getElem_cons_zero]
                  refine wpAnyH_take (i := 6) (v := (.slice (some ⟨hb, ho, .none⟩) nh ch)) rfl (by kernel_rfl) (by kernel_rfl) (by kernel_rfl) (fun _ _ _ h => h) (Or.inl ⟨by rfl, fun ww hSw => by (try dsimp only at hSw); obtain ⟨q0, q1, q2⟩ := hSw; go_simp⟩) (by assumption) ?_
                  simp only [Act.put, List.setIfInBounds_toArray, List.set_cons_zero, List.set_cons_succ, List.getElem_toArray, List.getElem_cons_succ, List.getElem_cons_zero]
                  refine wpAnyH_take (i := 7) (v := (.int .i64 (k2 : Int))) rfl (by kernel_rfl) (by kernel_rfl) (by kernel_rfl) (fun _ _ _ h => h) (Or.inl ⟨by rfl, fun ww hSw => by (try dsimp only at hSw); go_simp⟩) (by assumption) ?_
                  simp only [Act.put, List.setIfInBounds_toArray, List.set_cons_zero, List.set_cons_succ, List.getElem_toArray, List.getElem_cons_succ, List.getElem_cons_zero]
                  refine wpAnyH_take (i := 8) (v := (.pointer (some ⟨hb, ho + k2 * 2, .none⟩))) rfl (by kernel_rfl) (by kernel_rfl) (by kernel_rfl) (fun _ _ _ h => h) (Or.inl ⟨by rfl, fun ww hSw => by (try dsimp only at hSw); go_simp⟩) (by assumption) ?_
                  simp only [Act.put, List.setIfInBounds_toArray, List.set_cons_zero, List.set_cons_succ, List.getElem_toArray, List.getElem_cons_succ, List.getElem_cons_zero]
                  refine wpAnyH_take (i := 9) (v := (.pointer (some ⟨hb, ho + k2 * 2 + 1, .none⟩))) rfl (by kernel_rfl) (by kernel_rfl) (by kernel_rfl) (fun _ _ _ h => h) (Or.inl ⟨by rfl, fun ww hSw => by (try dsimp only at hSw); go_simp⟩) (by assumption) ?_
                  simp only [Act.put, List.setIfInBounds_toArray, List.set_cons_zero, List.set_cons_succ, List.getElem_toArray, List.getElem_cons_succ, List.getElem_cons_zero]
                  refine wpAnyH_take (i := 10) (v := (.slice (some ⟨db, dof, .none⟩) 4096 (C k2))) rfl (by kernel_rfl) (by kernel_rfl) (by kernel_rfl) (fun _ _ _ h => h) (Or.inl ⟨by rfl, fun ww hSw => by (try dsimp only at hSw); obtain ⟨q0, q1, q2⟩ := hSw; go_simp⟩) (by assumption) ?_
                  simp only [Act.put, List.setIfInBounds_toArray, List.set_cons_zero, List.set_cons_succ, List.getElem_toArray, List.getElem_cons_succ, List.getElem_cons_zero]
                  refine wpAnyH_ready (rs := [11]) (by kernel_rfl) (by simp) ?_
                  refine AllReadyH.cons rfl (fun K hK => ?_) AllReadyH.nil
                  go_simp
                  go_at_call 38
                  refine (copiedQ_fz w2.drew 4096 db dof (C k2) (by omega) (by omega) (D k2) hd4.out).mono ?_
                  rintro e w4 ⟨⟨rfl, hcp, b4⟩, hfz⟩
                  obtain ⟨s1, s2, s3, hr4⟩ := HST.out.step HB2.out.1 (by rw [hfe]; exact HB2.out.2) b4 hcp hfz
                  rw [hfe] at s1 s2 hr4
                  obtain ⟨ov, s1'⟩ := Option.isSome_iff_exists.1 s1
                  have HR4 : Hid (R2 W (w4.setCell ⟨W.heap.size + 1, x, .none⟩ (.slice (some ⟨w2.drew.heap.size, 0, .none⟩) 4096 4096)) n k cf nh ch qf (some ⟨hb, ho, .none⟩) F PA L D (k2 + 1) lv) := hr4
                  have t1 : w4.cell? ⟨W.heap.size, 2, .none⟩ = some (.slice (some ⟨hb, ho, .none⟩) nh ch) := (b4.cell (lt_of_cell HST.out.i2)).trans HST.out.i2
                  have t2 : w4.cell? ⟨hb, ho + k2 * 2 + 1, .none⟩ = some (.slice (some ⟨db, dof, .none⟩) 4096 (C k2)) := (b4.cell (lt_of_cell (show w2.drew.cell? ⟨hb, ho + k2 * 2 + 1, .none⟩ = _ from a1))).trans a1
                  have u1 := HR4.out.c0
                  have u2 := HR4.out.i2
                  have u3 : (w4.setCell ⟨W.heap.size + 1, x, .none⟩ (.slice (some ⟨w2.drew.heap.size, 0, .none⟩) 4096 4096)).cell? ⟨hb, ho + k2 * 2 + 1, .none⟩ = some (.slice (some ⟨db, dof, .none⟩) 4096 (C k2)) := (World.cell?_setCell_other _ _ _ _ (by simp only [ne_eq, Addr.mk.injEq, not_and]; intro e; omega)).trans t2
                  clear hr4 s1 hcp hfz b4 HST hd4
                  refine hK.out _ _ ⟨s3, t1, t2⟩ (fun hHeld => ?_)
                  clear hK K
                  try simp only [Act.put, List.setIfInBounds_toArray, List.set_cons_zero, List.set_cons_succ, List.getElem_toArray, List.getElem_cons_succ, List.getElem_cons_zero]
                  have x0 : (x : Int) < n := by have := HX.out; omega
                  refine wpAnyH_take (i := 12) (v := (.pointer (some ⟨W.heap.size + 1, x, .none⟩))) rfl (by kernel_rfl) (by kernel_rfl) (by kernel_rfl) (fun _ _ _ h => h) (Or.inl ⟨by rfl, fun ww hSw => by (try dsimp only at hSw); go_simp⟩) (by assumption) ?_
                  simp only [Act.put, List.setIfInBounds_toArray, List.set_cons_zero, List.set_cons_succ, List.getElem_toArray, List.getElem_cons_succ, List.getElem_cons_zero]
                  refine wpAnyH_ready (rs := [13]) (by kernel_rfl) (by simp) ?_
                  refine AllReadyH.cons rfl (fun K hK => ?_) AllReadyH.nil
                  go_simp
                  refine hK.out _ _ ⟨u1, u2, u3⟩ (fun hHeld => ?_)
                  clear hK K
                  try simp only [Act.put, List.setIfInBounds_toArray, List.set_cons_zero, List.set_cons_succ, List.getElem_toArray, List.getElem_cons_succ, List.getElem_cons_zero]
                  refine wpAnyH_done (by kernel_rfl) ?_ _
                  go_wp2
                  exact ⟨⟨k2 + 1, by omega, by rw [ELS.out], by simp, HR4⟩, by simp [intOf]; omega⟩
                · have h4' : ((L k2 : Int) != 4096) = true := by rw [bne_iff_ne]; omega
                  have h4i : ¬ (L k2 : Int) = 4096 := by omega
                  have HW : Hid (Wrong F k PA L nh n (1 + (k : Int) + (k2 : Int)) ∧ Below W.heap.size W wr) := ⟨⟨k, ⟨Nat.le_refl _, HR2.out.ok1, fun h => by omega⟩, .inr ⟨rfl, k2, ⟨by omega, HR2.out.ok2, fun _ => by rw [hbad]; simp [h4]⟩, .inl ⟨.inl hlt2, rfl⟩⟩⟩, HR2.out.be⟩
                  clear hbad HR2
                  clear hz h4
                  generalize fi (PA k2) = x at *
                  generalize lst PA k2 = ls at *
                  go_wp2_with (first | (go_at_call 47; refine c20.mono ?_; rintro e w1 ⟨rfl, rfl⟩) | (go_at_call 73; refine c21.mono ?_; rintro e w2 ⟨rfl, rfl⟩) | fail)
                  go_region
                  go_wp2
                  refine bodyPost_ret (v := .tuple #[.pointer none, .int .i64 (1 + (k : Int) + (k2 : Int)), .int .i64 63]) (by simp [results, Try.results60, go_sem]) rfl ?_
                  exact ⟨.inl ⟨_, HW.out.1, by omega, rfl⟩, HW.out.2.drew⟩
        · obtain rfl : k2 = nh := by omega
          have hsl := sum_le HR2.out.ok1 HR2.out.ok2
          by_cases hsum : k + k2 = n
          · have hsum' : (k : Int) + k2 = n := by omega
            have HW : Hid (Wrong F k PA L k2 n 0 ∧ QI W wr (W.heap.size + 1 + 1) n F k PA D k2 ∧ Below W.heap.size W wr) := ⟨⟨k, ⟨Nat.le_refl _, HR2.out.ok1, fun h => by omega⟩, .inr ⟨rfl, k2, ⟨Nat.le_refl _, HR2.out.ok2, fun h => by omega⟩, .inr ⟨⟨rfl, by omega⟩, rfl⟩⟩⟩, HR2.out.out, HR2.out.be⟩
            have hne : ((k : Int) + k2 == n) = true := by rw [beq_iff_eq]; omega
            clear HR2 HR20 HR0 hsum hsum'
            go_wp2
            refine bodyPost_ret (v := .tuple #[.pointer (some ⟨W.heap.size + 1 + 1, 0, .none⟩), .int .i64 0, .int .i64 0]) (by simp [results, Try.results60, go_sem]) rfl ?_
            exact ⟨.inr ⟨HW.out.1, _, rfl, HW.out.2.1⟩, HW.out.2.2⟩
          · have HW : Hid (Wrong F k PA L k2 n (1 + (k : Int) + (k2 : Int)) ∧ Below W.heap.size W wr) := ⟨⟨k, ⟨Nat.le_refl _, HR2.out.ok1, fun h => by omega⟩, .inr ⟨rfl, k2, ⟨Nat.le_refl _, HR2.out.ok2, fun h => by omega⟩, .inl ⟨.inr (by omega), rfl⟩⟩⟩, HR2.out.be⟩
            have hne : ((k : Int) + k2 == n) = false := by rw [beq_eq_false_iff_ne]; omega
            clear HR2 HR20 HR0 hsum
            go_wp2_with fail
            go_region
            go_wp2
            refine bodyPost_ret (v := .tuple #[.pointer none, .int .i64 (1 + (k : Int) + (k2 : Int)), .int .i64 63]) (by simp [results, Try.results60, go_sem]) rfl ?_
            exact ⟨.inl ⟨_, HW.out.1, by omega, rfl⟩, HW.out.2.drew⟩
end Go.Proofs.Ytnghcadhilfgnaa
