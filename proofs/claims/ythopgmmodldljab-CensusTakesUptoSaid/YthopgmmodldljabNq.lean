import Derived.Test.YthopgmmodldljabNp
namespace Go.Proofs.Ythopgmmodldljab
open Go Go.RowKit
set_option linter.unusedVariables false
set_option linter.unusedSimpArgs false
/-! loneCounts. -/
theorem row_there {w : World} {base e n c g k : Nat} {xs : List Value} (h : w.ownsRow base e 3 (.slice (some ⟨g, 0, .none⟩) n c) n xs) (hk : k < n) : w.there g (k * 3) 3 := by
 rcases h.2 with ⟨h2, _⟩ | ⟨g', cap, cur, hv, _, hg, hc, _, hs, _⟩
 ·cases h2
 ·injection hv with e1 _ e3
  injection e1 with e1
  injection e1 with e1
  subst e1
  exact there_mid (n := cap * 3) (there_heap hg hs) (k * 3) 3 (by omega)
theorem row_range {w : World} {base e n g c : Nat} {l : List Ow} (h : w.ownsRow base e 3 (.slice (some ⟨g, 0, .none⟩) n c) n (frow l)) {k : Nat} {o : Ow} (hk : l[k]? = some o) : w.rangeAt g (k * 3) (owL o) := fun j u hj => (row_cell h (flat_get3 hk j u hj)).1
theorem slice_info : ∃ i z, Try.prog.info? 37 = some i ∧ i.zero = some z ∧ i.size = 1 ∧ i.bytes = 24 ∧ z.cells.size = 1 := info_of 37 1 24 (by kernel_rfl) (by kernel_rfl)
theorem rep_of {l : List Ow} {n : Nat} {o : Ow} (hl : l.length = n) (h : ∀ j, j < n → l[j]? = some o) : l = List.replicate n o := by
 apply List.ext_getElem?
 intro j
 by_cases hj : j < n
 ·rw [h j hj, List.getElem?_replicate, if_pos hj]
 ·rw [List.getElem?_eq_none (by omega), List.getElem?_eq_none (by simp; omega)]
abbrev mA (n : Nat → Nat) (t : Nat) : List Ow := List.replicate (n t) (1099511627776, (t : Int), 0)
abbrev mB (n : Nat → Nat) (t K : Nat) : List Ow := mA n t ++ List.replicate K (2199023255552, (t : Int), 0)
/-- How far the lists have grown. -/
def GR (w V : World) (v : Nat → Value) (n : Nat → Nat) (I K : Nat) (x mo : Value) : Prop := ∃ m B ms, LC w V v m (mA n) B ∧ m I = x ∧ B I = mB n I K ∧ V.ownsRow 0 37 1 mo I ms ∧ (∀ t, t < I → ms[t]? = some (m t) ∧ B t = mB n t 16) ∧ (∀ t, I < t → m t = v t ∧ B t = mA n t) ∧ (∀ g, mo.ownBlock = some g → w.heap.size ≤ g)
def GD (w V : World) (v : Nat → Value) (n : Nat → Nat) (I : Nat) (mo : Value) : Prop := ∃ m B ms, LC w V v m (mA n) B ∧ V.ownsRow 0 37 1 mo I ms ∧ (∀ t, t < I → ms[t]? = some (m t) ∧ B t = mB n t 16) ∧ (∀ t, I ≤ t → m t = v t ∧ B t = mA n t) ∧ (∀ g, mo.ownBlock = some g → w.heap.size ≤ g)
theorem GD.begin {w V : World} {v : Nat → Value} {n : Nat → Nat} {I : Nat} {mo : Value} (h : GD w V v n I mo) : GR w V v n I 0 (v I) mo := by
 obtain ⟨m, B, ms, h1, h2, h3, h4, h5⟩ := h
 refine ⟨m, B, ms, h1, (h4 I (Nat.le_refl _)).1, ?_, h2, h3, fun t ht => h4 t (by omega), h5⟩
 rw [(h4 I (Nat.le_refl _)).2]
 simp [mB]
theorem GR.row {w V : World} {v : Nat → Value} {n : Nat → Nat} {I K : Nat} {x mo : Value} (h : GR w V v n I K x mo) (hI : I < 4) : V.ownsRow 0 91 3 x (n I + K) (frow (mB n I K)) := by
 obtain ⟨m, B, ms, h1, h2, h3, _⟩ := h
 have := h1.rm I hI
 rw [h2, h3] at this
 simpa [mB, mA] using this
theorem GR.push {w V V' : World} {v : Nat → Value} {n : Nat → Nat} {I K : Nat} {x x' mo : Value} {ob : Obj} (h : GR w V v n I K x mo) (hI : I < 4) (h2 : V'.ownsRow 0 91 3 x' (n I + K + 1) (frow (mB n I K) ++ owL (2199023255552, (I : Int), 0))) (h3 : (V.alloc ob).grownBy V' x.ownBlock) (h4 : ∀ v0 n0 xs0, (v0.ownBlock = x.ownBlock → n0 ≤ n I + K) → V.ownsRow 0 91 3 v0 n0 xs0 → V'.ownsRow 0 91 3 v0 n0 xs0) (h5 : ∃ b, x'.ownBlock = some b ∧ (x.ownBlock = some b ∨ V.heap.size ≤ b)) : GR w V' v n I (K + 1) x' mo := by
 have hr := h.row hI
 obtain ⟨m, B, ms, a1, a2, a3, a4, a5, a6, a7⟩ := h
 have hl : (B I).length = n I + K := by rw [a3]; simp [mB, mA]
 subst a2
 have q := a1.push hI (2199023255552, (I : Int), 0) (by rw [hl, a3]; exact h2) h3 (by rw [hl]; exact h4) h5
 refine ⟨_, _, ms, q, fu_same _ _ _, by rw [fu_same, a3]; simp [mB, List.replicate_succ'], ?_, fun t ht => ?_, fun t ht => ?_, a7⟩
 ·have b1 := own_bel a4 (below1 V ob) (fun g hg => (a4.lt g hg).2)
  have b2 := own_bel hr (below1 V ob) (fun g hg => (hr.lt g hg).2)
  exact b1.kept h3 (by
   cases hv : mo.ownBlock with
   | none => exact .inl rfl
   | some q => exact .inr (fun e => kinds b1 b2 (by decide) hv e.symm))
 ·rw [fu_ne _ _ (by omega), fu_ne _ _ (by omega)]
  exact a5 t ht
 ·rw [fu_ne _ _ (by omega), fu_ne _ _ (by omega)]
  exact a6 t ht
theorem GR.next {w V V' : World} {v : Nat → Value} {n : Nat → Nat} {I : Nat} {x mo mo' : Value} {ob : Obj} {ms0 : List Value} (h : GR w V v n I 16 x mo) (hI : I < 4) (h2 : ∀ ms, V.ownsRow 0 37 1 mo I ms → V'.ownsRow 0 37 1 mo' (I + 1) (ms ++ [x])) (h3 : (V.alloc ob).grownBy V' mo.ownBlock) (h5 : mo'.ownBlock = mo.ownBlock ∨ mo'.ownBlock = some (V.alloc ob).heap.size) : GD w V' v n (I + 1) mo' := by
 obtain ⟨m, B, ms, a1, a2, a3, a4, a5, a6, a7⟩ := h
 have hm := own_bel a4 (below1 V ob) (fun g hg => (a4.lt g hg).2)
 refine ⟨m, B, ms ++ [x], a1.more (below1 V ob) hm h3 a7, h2 ms a4, fun t ht => ?_, fun t ht => a6 t (by omega), fun g hg => ?_⟩
 ·have hml : ms.length = I := by have := a4.1; omega
  by_cases e : t = I
  ·subst e
   refine ⟨?_, a3⟩
   rw [List.getElem?_append_right (by omega), hml, Nat.sub_self, a2]
   rfl
  ·rw [List.getElem?_append_left (by omega)]
   exact a5 t (by omega)
 ·rcases h5 with e | e
  ·exact a7 g (by rw [← e]; exact hg)
  ·rw [e] at hg
   injection hg with hg
   have := a1.ch.size
   simp at hg
   omega
/-- How far the lists are written over. -/
def GS (w V : World) (v : Nat → Value) (n : Nat → Nat) (I k : Nat) : Prop := ∃ A, LC w V v v A A ∧ (∀ t, t < 4 → (A t).length = n t) ∧ (∀ t, t < I → A t = mA n t) ∧ (∀ j, j < k → (A I)[j]? = some (1099511627776, (I : Int), 0))
theorem GS.set {w V : World} {v : Nat → Value} {n : Nat → Nat} {I k g c : Nat} (h : GS w V v n I k) (hI : I < 4) (hv : v I = .slice (some ⟨g, 0, .none⟩) (n I) c) (hk : k < n I) : GS w (V.setCells g (k * 3) (owL (1099511627776, (I : Int), 0))) v n I (k + 1) := by
 obtain ⟨A, a1, a2, a3, a4⟩ := h
 refine ⟨_, a1.setA hI hv (a2 I hI) hk _, fun t ht => ?_, fun t ht => ?_, fun j hj => ?_⟩
 ·by_cases e : t = I
  ·subst e; rw [fu_same, List.length_set]; exact a2 t ht
  ·rw [fu_ne _ _ e]; exact a2 t ht
 ·rw [fu_ne _ _ (by omega)]; exact a3 t ht
 ·rw [fu_same]
  by_cases e : j = k
  ·subst e; rw [List.getElem?_set_self (by rw [a2 I hI]; exact hk)]
  ·rw [List.getElem?_set_ne (by omega)]; exact a4 j (by omega)
theorem GS.next {w V : World} {v : Nat → Value} {n : Nat → Nat} {I : Nat} (h : GS w V v n I (n I)) (hI : I < 4) : GS w V v n (I + 1) 0 := by
 obtain ⟨A, a1, a2, a3, a4⟩ := h
 refine ⟨A, a1, a2, fun t ht => ?_, fun j hj => by omega⟩
 by_cases e : t = I
 ·subst e; exact rep_of (a2 t hI) a4
 ·exact a3 t (by omega)
theorem LC.congr {w V : World} {v m m' : Nat → Value} {A A' B B' : Nat → List Ow} (h : LC w V v m A B) (h1 : ∀ t, t < 4 → A t = A' t) (h2 : ∀ t, t < 4 → B t = B' t) (h3 : ∀ t, t < 4 → m t = m' t) : LC w V v m' A' B' :=
 ⟨h.ch, fun i hi => by rw [← h1 i hi]; exact h.ra i hi, fun i hi => by rw [← h2 i hi, ← h3 i hi]; exact h.rm i hi, fun i hi => by rw [← h1 i hi, ← h2 i hi]; exact h.le i hi, fun i hi => by rw [← h3 i hi]; exact h.km i hi, h.lt, h.ap, fun i j hi hj e g hg => by rw [← h3 i hi] at hg; rw [← h3 j hj]; exact h.am i j hi hj e g hg⟩
theorem GS.done {w V : World} {v : Nat → Value} {n : Nat → Nat} (h : GS w V v n 4 0) : GD w V v n 0 (.slice none 0 0) := by
 obtain ⟨A, a1, a2, a3, a4⟩ := h
 exact ⟨v, mA n, [], a1.congr a3 a3 (fun _ _ => rfl), World.ownsRow_nil _ _ _ _, fun t ht => by omega, fun t _ => ⟨rfl, rfl⟩, fun g hg => by cases hg⟩
theorem own_same {V : World} {e sz n : Nat} {x : Value} {xs ys : List Value} (h1 : V.ownsRow 0 e sz x n xs) (h2 : V.ownsRow 0 e sz x n ys) : xs = ys := by
 rcases h1.2 with ⟨q, e0⟩ | ⟨g1, c1, cur1, q, _, a1, _, _, _, t1⟩
 ·have l1 := h1.1
  have l2 := h2.1
  subst e0
  rw [Nat.zero_mul] at l1 l2
  rw [List.eq_nil_of_length_eq_zero l1, List.eq_nil_of_length_eq_zero l2]
 ·rcases h2.2 with ⟨q2, _⟩ | ⟨g2, c2, cur2, q2, _, a2, _, _, _, t2⟩
  ·rw [q] at q2; cases q2
  ·rw [q] at q2
   injection q2 with e1 _ _
   injection e1 with e1
   injection e1 with e1
   subst e1
   rw [a1] at a2
   injection a2 with a2
   injection a2 with a2
   rw [← t1, ← t2, a2]
set_option maxRecDepth 100000 in
set_option maxHeartbeats 8000000 in
theorem loneC_any {w : World} {G cap : Nat} {v : Nat → Value} {n : Nat → Nat} {xs : Nat → List Ow} (hG : w.heap[G]? = some (.cells #[v 0, v 1, v 2, v 3] 37)) (hr : ∀ t, t < 4 → w.ownsRow 0 91 3 (v t) (n t) (frow (xs t))) (hx : ∀ t, t < 4 → (xs t).length = n t) (hn : ∀ t, t < 4 → n t ≤ 1048576) (ap : ∀ i j, i < 4 → j < 4 → i ≠ j → ∀ g, (v i).ownBlock = some g → (v j).ownBlock ≠ some g) (hGv : ∀ t, t < 4 → (v t).ownBlock ≠ some G) : Calls Try.prog 13 #[.slice (some ⟨G, 0, .none⟩) 4 cap] w fun e w' => e = .returned (.bool true) ∧ Ch (fun k => ∃ i, i < 4 ∧ (v i).ownBlock = some k) w w' := by
 have HE : Hid (GS w w v n 0 0) := by
  have ra : ∀ t, t < 4 → w.ownsRow 0 91 3 (v t) (xs t).length (frow (xs t)) := fun t ht => by rw [hx t ht]; exact hr t ht
  exact ⟨xs, ⟨Ch.refl _ _, ra, ra, fun _ _ => Nat.le_refl _, fun _ _ => .inl rfl, fun i hi g hg => ((hr i hi).lt g hg).2, ap, ap⟩, hx, fun t ht => by omega, fun j hj => by omega⟩
 have HG : Hid (∀ V, Ch (fun k => ∃ i, i < 4 ∧ (v i).ownBlock = some k) w V → ∀ t, t < 4 → V.cell? ⟨G, t, .none⟩ = some (v t)) := fun V hV t ht => by
  have hg := (hV.blk G (Array.getElem?_eq_some_iff.1 hG).1 (fun ⟨i, hi, e⟩ => hGv i hi e)).trans hG
  have h4 : t = 0 ∨ t = 1 ∨ t = 2 ∨ t = 3 := by omega
  rcases h4 with rfl | rfl | rfl | rfl <;> exact cell_heap hg
 obtain ⟨P, hP⟩ : ∃ P : World → Prop, P = Ch (fun k => ∃ i, i < 4 ∧ (v i).ownBlock = some k) w := ⟨_, rfl⟩
 rw [← hP] at HG ⊢
 have HPC : Hid (∀ V m A B, LC w V v m A B → P V) := fun V m A B h => by rw [hP]; exact h.ch
 have HF : Hid (∀ t, t < 4 → ∃ p c, v t = .slice p (n t) c) := fun t ht => own_form (hr t ht)
 have HN : Hid (∀ t, t < 4 → n t ≤ 1048576) := hn
 clear hG hr hx hn ap hGv hP
 go_enter Try.func13, Try.ntmps13
 go_wp2
 go_loopw [3] (fun k wr => ∃ I : Nat, I ≤ 4 ∧ k = .int .i64 I ∧ Hid (GS w wr v n I 0)) (fun k _ => (4 - intOf k).toNat)
 case atStart => exact ⟨0, by omega, rfl, HE.out⟩
 case round =>
  clear HE
  obtain ⟨I, hI, rfl, HB⟩ := hrel
  rename World => wr
  by_cases hin : I < 4
  ·as_aux_lemma =>
    have i1 : (I : Int) < 4 := by omega
    have HIN : Hid (I < 4) := hin
    obtain ⟨p, c, hv⟩ := HF.out I hin
    obtain ⟨nI, hnI⟩ : ∃ k, k = n I := ⟨_, rfl⟩
    rw [← hnI] at hv
    have HV : Hid (v I = .slice p nI c ∧ nI = n I) := ⟨hv, hnI⟩
    have bn : nI ≤ 1048576 := by rw [hnI]; exact HN.out I hin
    clear hv hnI
    go_wp2
    go_loopw [4] (fun k wr => ∃ j : Nat, j ≤ nI ∧ k = .int .i64 j ∧ Hid (GS w wr v n I j)) (fun k _ => (nI - intOf k).toNat)
    case atStart => exact ⟨0, by omega, rfl, HB.out⟩
    case round =>
     clear HB
     obtain ⟨j, hj, rfl, HB⟩ := hrel
     rename World => wr
     have kI : wr.cell? ⟨G, I, .none⟩ = some (.slice p nI c) := by
      obtain ⟨A, a1, _⟩ := HB.out
      rw [← HV.out.1]
      exact HG.out wr (HPC.out _ _ _ _ a1) I HIN.out
     by_cases hjn : j < nI
     ·as_aux_lemma =>
       have j1 : (j : Int) < nI := by omega
       obtain ⟨A, a1, a2, -⟩ := HB.out
       have hrow := a1.ra I HIN.out
       rw [a2 I HIN.out, ← HV.out.2] at hrow
       obtain ⟨g, cc, hg⟩ := row_some hrow (by omega)
       have hv := HV.out.1
       rw [hg] at hv hrow
       injection hv with e1 _ e3
       subst e1
       subst e3
       have hth := row_there hrow hjn
       have HVI : Hid (v I = .slice (some ⟨g, 0, .none⟩) (n I) cc) := by rw [← HV.out.2]; exact hg
       have HJN : Hid (j < n I) := by rw [← HV.out.2]; exact hjn
       clear a1 a2 hrow hg A
       go_wp2_with (first
        | (refine wpList_is (.build 91 #[(0, .const (.int .i64 1099511627776)), (1, .tmp 33)]) rfl ?_; refine wpList_buildTo rfl 91 _ rfl (some 34) rfl (owL (1099511627776, (I : Int), 0)).toArray (by kernel_rfl) ?_)
        | (refine wpList_is (.store 91 (.tmp 35) (.tmp 34)) rfl ?_; refine wpList_storeM 91 g (j * 3) (owL (1099511627776, (I : Int), 0)) (by kernel_rfl) (owL_one _) (.tmp 35) (.tmp 34) _ rfl rfl rfl rfl rfl hth ?_)
        | fail)
       exact ⟨⟨j + 1, by omega, by go_num, HB.out.set HIN.out HVI.out HJN.out⟩, by simp [intOf]; omega⟩
     ·have j1 : ¬ (j : Int) < nI := by omega
      obtain rfl : nI = j := by omega
      have HQ : Hid (GS w wr v n (I + 1) 0) := by
       have h1 := HB.out
       rw [HV.out.2] at h1
       exact h1.next HIN.out
      clear HB
      go_wp2
      exact ⟨⟨I + 1, by omega, by go_num, HQ.out⟩, by simp [intOf]; omega⟩
  have i1 : ¬ (I : Int) < 4 := by omega
  obtain rfl : I = 4 := by omega
  have HE : Hid (GD w wr v n 0 (.slice none 0 0)) := HB.out.done
  clear HB hI hin
  go_wp2
  go_loopw [5, 6] (fun mo k wr => ∃ I : Nat, I ≤ 4 ∧ k = .int .i64 I ∧ Hid (GD w wr v n I mo)) (fun _ k _ => (4 - intOf k).toNat)
  case atStart => exact ⟨0, by omega, rfl, HE.out⟩
  case round =>
   clear HE
   obtain ⟨I, hI, rfl, HB⟩ := hrel
   rename World => wr
   by_cases hin : I < 4
   ·as_aux_lemma =>
     have i1 : (I : Int) < 4 := by omega
     have HIN : Hid (I < 4) := hin
     have kI : wr.cell? ⟨G, I, .none⟩ = some (v I) := by
      obtain ⟨m, B, ms, a1, _⟩ := HB.out
      exact HG.out wr (HPC.out _ _ _ _ a1) I hin
     have HR : Hid (GR w wr v n I 0 (v I) u5) := HB.out.begin
     have bn := HN.out I hin
     obtain ⟨x0, hx0⟩ : ∃ x, x = v I := ⟨_, rfl⟩
     rw [← hx0] at kI HR
     clear hx0 HB
     go_wp2
     go_loopw [7, 8] (fun x k wr => ∃ K : Nat, K ≤ 16 ∧ k = .int .i64 K ∧ Hid (GR w wr v n I K x u5)) (fun _ k _ => (16 - intOf k).toNat)
     case atStart => exact ⟨0, by omega, rfl, HR.out⟩
     case round =>
      clear HR
      obtain ⟨K, hK, rfl, HB⟩ := hrel
      rename World => wr
      by_cases hKn : K < 16
      ·as_aux_lemma =>
        have k1 : (K : Int) < 16 := by omega
        obtain ⟨q, hq⟩ : ∃ q, q = n I + K := ⟨_, rfl⟩
        have HX := HB.out.row HIN.out
        rw [← hq] at HX
        have HXX : Hid (wr.ownsRow 0 91 3 u7 q (frow (mB n I K))) := HX
        have hqb : q ≤ 10000000 := by omega
        have HQ : Hid (q = n I + K) := hq
        clear HX hq
        go_wp2_with (first
         | (refine wpList_is (.build 91 #[(0, .const (.int .i64 2199023255552)), (1, .tmp 51)]) rfl ?_; refine wpList_buildTo rfl 91 _ rfl (some 52) rfl (owL (2199023255552, (I : Int), 0)).toArray (by kernel_rfl) ?_)
         | (refine wpList_is (.buildSlice 37 1 #[(0, .tmp 52)]) rfl ?_; refine wpList_pushK (base := 0) 37 91 3 24 info117 Try.underlying37 (by decide) (by decide) (by decide) u7 q (frow (mB n I K)) HXX.out hqb (Nat.zero_le _) (owL (2199023255552, (I : Int), 0)) rfl (owL_one _) 52 53 (.tmp 50) rfl rfl rfl rfl rfl (some 54) rfl rfl rfl rfl ?_; intro x5 w5 o5 g5 kp5 bk5)
         | fail)
        rw [HQ.out] at o5 kp5
        exact ⟨⟨K + 1, by omega, by go_num, HB.out.push HIN.out o5 g5 kp5 bk5⟩, by simp [intOf]; omega⟩
      have k1 : ¬ (K : Int) < 16 := by omega
      obtain rfl : K = 16 := by omega
      obtain ⟨xp, xc, rfl⟩ := own_form (HB.out.row HIN.out)
      obtain ⟨i9, z9, hi9, hz9, hs9, hb9, hzs9⟩ := slice_info
      obtain ⟨q, hq⟩ : ∃ q, q = n I + 16 := ⟨_, rfl⟩
      have HB : Hid (GR w wr v n I 16 (.slice xp q xc) u5) := by rw [hq]; exact HB.out
      rw [← hq]
      obtain ⟨m, B, ms, a1, a2, a3, a4, a5⟩ := HB.out
      have HRow : Hid (∀ ob, (wr.alloc ob).ownsRow 0 37 1 u5 I ms) := fun ob => World.ownsRow.alloc a4 ob
      have HMS : Hid (wr.ownsRow 0 37 1 u5 I ms) := a4
      clear a1 a2 a3 a4 a5 hq m B
      go_wp2_with (first
       | (at_builtin; refine wpList_append_own_at _ rfl _ _ 48 rfl 0 37 i9 z9 1 24 Try.underlying48 hi9 hz9 hs9 hb9 hzs9 (by decide) _ I ms rfl (HRow.out _) ⟨wr.heap.size, 0, .none⟩ 1 1 [.slice xp q xc] rfl rfl (cell_one_new _ _ _) (by simp [Value.oneCell']) (by unfold maxLen; omega) (by omega) (Nat.zero_le _) ?_; intro v5 w5 hO5 hg5 _ hat5)
       | fail)
      refine ⟨⟨I + 1, by omega, by go_num, HB.out.next (ms0 := ms) HIN.out (fun ms2 h2 => ?_) hg5 hat5⟩, by simp [intOf]; omega⟩
      have e : ms2 = ms := own_same h2 HMS.out
      rw [e]
      exact hO5
   have i1 : ¬ (I : Int) < 4 := by omega
   obtain rfl : I = 4 := by omega
   clear hI hin
   obtain ⟨mp, mc, rfl⟩ : ∃ p c, u5 = .slice p 4 c := by obtain ⟨m, B, ms, _, a2, _⟩ := HB.out; exact own_form a2
   obtain ⟨wz, hwz⟩ : ∃ wz, wz = wr := ⟨_, rfl⟩
   subst hwz
   go_wp2
   go_loopw [9] (fun k wr => ∃ I : Nat, I ≤ 4 ∧ k = .int .i64 I ∧ wr = wz) (fun k _ => (4 - intOf k).toNat)
   case atStart => exact ⟨0, by omega, rfl, rfl⟩
   case round =>
    obtain ⟨I, hI, rfl, rfl⟩ := hrel
    by_cases hin : I < 4
    ·as_aux_lemma =>
      have i1 : (I : Int) < 4 := by omega
      have HIN : Hid (I < 4) := hin
      obtain ⟨p, c, hv⟩ := HF.out I hin
      obtain ⟨m, B, ms, a1, a2, a3, -⟩ := HB.out
      have kI : wr.cell? ⟨G, I, .none⟩ = some (.slice p (n I) c) := by rw [← hv]; exact HG.out wr (HPC.out _ _ _ _ a1) I hin
      obtain ⟨gm, cm, hgm⟩ := row_some a2 (by omega)
      injection hgm with e1 _ e3
      subst e1
      subst e3
      have kM : wr.cell? ⟨gm, I, .none⟩ = some (m I) := (row_cell a2 (a3 I hin).1).1
      have r1 := a1.ra I hin
      rw [hv, List.length_replicate] at r1
      have r2 := a1.rm I hin
      rw [(a3 I hin).2, show (mB n I 16).length = n I + 16 by simp [mB, mA]] at r2
      obtain ⟨gx, cx, hgx⟩ := row_some r2 (by omega)
      rw [hgx] at kM r2
      have bn := HN.out I hin
      obtain ⟨nI, hnI⟩ : ∃ k, k = n I := ⟨_, rfl⟩
      have HR1 : Hid (wr.ownsRow 0 91 3 (.slice p (n I) c) (n I) (frow (mA n I))) := r1
      have HR2 : Hid (wr.ownsRow 0 91 3 (.slice (some ⟨gx, 0, .none⟩) (n I + 16) cx) (n I + 16) (frow (mB n I 16))) := r2
      have HNI : Hid (nI = n I) := hnI
      rw [← hnI] at kI kM bn HR1 HR2
      have q91 : ∀ (a : Int) (w : World), (binOp .neq 91 (.agg (owL (a, (I : Int), 0)).toArray) (.agg (owL (a, (I : Int), 0)).toArray)).run Try.prog w = .ok (.bool false) w := fun a w => (eqv_neq (eq_117 9997 a I 0 a I 0) w).trans (by simp)
      have q1 := q91 1099511627776
      have q2 := q91 2199023255552
      have HKM : Hid (wr.cell? ⟨gm, I, .none⟩ = some (.slice (some ⟨gx, 0, .none⟩) (nI + 16) cx)) := kM
      clear a1 a2 a3 r1 r2 hgx hnI hv q91 m B ms kM
      go_wp2
      go_loopw [11] (fun k wx => ∃ j : Nat, j ≤ nI ∧ k = .int .i64 j ∧ wx = wr) (fun k _ => (nI - intOf k).toNat)
      case atStart => exact ⟨0, by omega, rfl, rfl⟩
      case round =>
       obtain ⟨j, hj, rfl, rfl⟩ := hrel
       by_cases hjn : j < nI
       ·as_aux_lemma =>
         have j1 : (j : Int) < nI := by omega
         have hr := HR1.out
         obtain ⟨g, cc, hg⟩ := row_some hr (by omega)
         injection hg with e1 _ e3
         subst e1
         subst e3
         have rr := row_range hr (k := j) (o := (1099511627776, (I : Int), 0)) (by rw [List.getElem?_replicate, if_pos (by rw [← HNI.out]; exact hjn)])
         clear hr
         go_wp2_with (first
          | (refine wpList_is (.load 91 (.tmp 80)) rfl ?_; refine wpList_loadG 91 3 24 info117 _ Try.underlying91 rfl (owL (1099511627776, (I : Int), 0)) rfl g (j * 3) (.tmp 80) rfl rfl rfl rr (some 81) rfl ?_)
          | (refine wpList_is (.build 91 #[(0, .const (.int .i64 1099511627776)), (1, .tmp 82)]) rfl ?_; refine wpList_buildTo rfl 91 _ rfl (some 83) rfl (owL (1099511627776, (I : Int), 0)).toArray (by kernel_rfl) ?_)
          | fail)
         exact ⟨⟨j + 1, by omega, by go_num, by first | rfl | trivial⟩, by simp [intOf]; omega⟩
       have j1 : ¬ (j : Int) < nI := by omega
       obtain ⟨wz, hwz⟩ : ∃ wz, wz = wr := ⟨_, rfl⟩
       subst hwz
       have kM := HKM.out
       go_wp2
       go_loopw [12] (fun k wx => ∃ j : Nat, j ≤ 16 ∧ k = .int .i64 j ∧ wx = wz) (fun k _ => (16 - intOf k).toNat)
       case atStart => exact ⟨0, by omega, rfl, rfl⟩
       case round =>
        obtain ⟨j2, hj2, rfl, rfl⟩ := hrel
        by_cases hjn2 : j2 < 16
        ·as_aux_lemma =>
          have j3 : (j2 : Int) < 16 := by omega
          have hw : IntKind.i64.wrap ((nI : Int) + j2) = (nI : Int) + j2 := by rw [IntKind.wrap_i64]; omega
          have rr := row_range HR2.out (k := nI + j2) (o := (2199023255552, (I : Int), 0)) (by
           rw [List.getElem?_append_right (by simp; have := HNI.out; omega), List.getElem?_replicate, if_pos (by simp; have := HNI.out; omega)])
          go_wp2_with (first
           | (refine wpList_is (.load 91 (.tmp 96)) rfl ?_; refine wpList_loadG 91 3 24 info117 _ Try.underlying91 rfl (owL (2199023255552, (I : Int), 0)) rfl gx ((nI + j2) * 3) (.tmp 96) rfl rfl rfl rr (some 97) rfl ?_)
           | (refine wpList_is (.build 91 #[(0, .const (.int .i64 2199023255552)), (1, .tmp 98)]) rfl ?_; refine wpList_buildTo rfl 91 _ rfl (some 99) rfl (owL (2199023255552, (I : Int), 0)).toArray (by kernel_rfl) ?_)
           | fail)
          exact ⟨⟨j2 + 1, by omega, by go_num, by first | rfl | trivial⟩, by simp [intOf]; omega⟩
        have j3 : ¬ (j2 : Int) < 16 := by omega
        go_wp2
        exact ⟨⟨I + 1, by omega, by go_num, by first | rfl | trivial⟩, by simp [intOf]; omega⟩
    have i1 : ¬ (I : Int) < 4 := by omega
    go_wp2
    go_ret
    obtain ⟨m, B, ms, a1, _⟩ := HB.out
    exact ⟨rfl, HPC.out _ _ _ _ a1⟩
end Go.Proofs.Ythopgmmodldljab
