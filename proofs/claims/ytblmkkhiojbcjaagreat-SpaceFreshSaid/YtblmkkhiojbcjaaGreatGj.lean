import Derived.Test.YtblmkkhiojbcjaaGreatGi
import Derived.Test.YtblmkkhiojbcjaaGreatYh
namespace Go.Proofs.YtblmkkhiojbcjaaGreat
open Go Go.RowKit
set_option linter.unusedVariables false
set_option linter.unusedSimpArgs false
theorem ndP_mono {a c : Int} (h0 : 0 ≤ a) (h : a ≤ c) : ndP a ≤ ndP c := by
  unfold ndP
  split <;> split <;> omega
section
variable {w : World} {s p b m N r P ft : Nat} {size : Int} {B : Nat → Int} {L : List Nat} {F : Nat → Option Nat} {lf : Nat → Nat → Int} {fr : Nat → Nat} {c : Nat → Int}
/-- How many nodes one page more wants. -/
theorem SpL.need {j : Nat} (h : SpL N r ft B L F lf fr c (List.range j)) (hj : j < 4096) : ((need F ((j : Int) * 4096) : Nat) : Int) = ndP (j + 1) - ndP j := by
  have e1 : y1 ((j : Int) * 4096) = 1 + 0 := by rw [y1_val _ (by omega)]; omega
  have e0 : y0 ((j : Int) * 4096) = 513 + j / 512 := by rw [y0_val _ (by omega)]; omega
  have h1 := h.tl.has1 h.pt 0 (by omega)
  have h0 := h.tl.has0 h.pt (j / 512)
  unfold Go.Proofs.YtblmkkhiojbcjaaGreat.need ndP
  rw [e1, e0]
  by_cases hj0 : j = 0
  · subst hj0
    have hn : F (1 + 0) = none := by
      cases hF : F (1 + 0) with
      | none => rfl
      | some f =>
        obtain ⟨x, hx, e⟩ := h1.1 (by rw [hF]; simp)
        rcases mem_pgL.1 hx with rfl | rfl | ⟨i, hi, rfl⟩
        · simp only at e; omega
        · simp only at e; omega
        · simp at hi
    rw [if_pos hn]
    decide
  · have hs : F (1 + 0) ≠ none := h1.2 ⟨upg fr c 0, mem_pgL.2 (.inr (.inr ⟨0, List.mem_range.2 (by omega), rfl⟩)), by unfold upg; simp only; omega⟩
    rw [if_neg hs, if_neg (show ¬ (j : Int) + 1 = 0 by omega), if_neg (show ¬ (j : Int) = 0 by omega)]
    by_cases hm : j % 512 = 0
    · have hn : F (513 + j / 512) = none := by
        cases hF : F (513 + j / 512) with
        | none => rfl
        | some f =>
          obtain ⟨x, hx, e⟩ := h0.1 (by rw [hF]; simp)
          rcases mem_pgL.1 hx with rfl | rfl | ⟨i, hi, rfl⟩
          · simp only at e; omega
          · simp only at e; omega
          · have := List.mem_range.1 hi
            unfold upg at e
            simp only at e
            omega
      rw [if_pos hn]
      omega
    · have hn : F (513 + j / 512) ≠ none := h0.2 ⟨upg fr c (j - 1), mem_pgL.2 (.inr (.inr ⟨j - 1, List.mem_range.2 (by omega), rfl⟩)), by unfold upg; simp only; omega⟩
      rw [if_neg hn]
      omega
theorem room_gen (h : SpT w s p b m N r P ft size B L F lf fr c) (Q : Nat) (hQ : Q ≤ 4096) : Calls Tryz.prog 45 #[.pointer (some ⟨s, 0, .none⟩), .int .i64 Q] w fun e w' => e = .returned (.bool (decide ((Q : Int) - P + ndP Q - ndP P ≤ L.length))) ∧ Below w.heap.size w w' := by
  have hpm := h.pm
  have hsz := h.sz
  have c19 := pages_sp h.sp (by omega)
  rw [hsz.2] at c19
  have c32a := fun W => ndP_any Q (by omega) W
  have c32b := fun W => ndP_any P (by omega) W
  have c30 := count_ram h.ram
  have k0 := h.sp.c0
  have hq4 : (Q : Int) ≤ 4096 := by omega
  have hLn := len_le h.ram
  have hN := h.ram.mem.n2
  generalize L.length = LL at *
  have b1 : 3 ≤ ndP Q ∧ ndP Q ≤ 20 := by unfold ndP; split <;> omega
  have b2 : 3 ≤ ndP P ∧ ndP P ≤ 20 := by unfold ndP; split <;> omega
  clear h
  generalize ndP (Q : Int) = nq at *
  generalize ndP (P : Int) = np at *
  go_enter Tryz.func45, Tryz.ntmps45
  go_wp2_with (go_at_call 19; refine c19.mono ?_; rintro _ w1 ⟨rfl, e1⟩; obtain rfl : w = w1 := e1.symm)
  refine (c32a _).mono ?_
  rintro _ w1 ⟨rfl, e1⟩
  obtain rfl : w = w1 := e1.symm
  go_wp2_with (go_at_call 19; refine c19.mono ?_; rintro _ w1 ⟨rfl, e1⟩; obtain rfl : w = w1 := e1.symm)
  refine (c32b _).mono ?_
  rintro _ w1 ⟨rfl, e1⟩
  obtain rfl : w = w1 := e1.symm
  go_wp2_with (go_at_call 30; refine c30.mono ?_; rintro _ w1 ⟨rfl, k3, rfl⟩)
  go_ret
  exact ⟨rfl, below_dr w k3⟩
/-- In the midst of Grow. -/
def GrI (w : World) (s p b m N r P ft : Nat) (size x : Int) (B : Nat → Int) (L : List Nat) (F : Nat → Option Nat) (fr : Nat → Nat) (c : Nat → Int) (j : Nat) (W : World) : Prop := Fra p b m w W ∧ ∃ B' L' F' lf' fr' c', Ram W p b m N B' L' ∧ SpL N r ft B' L' F' lf' fr' c' (List.range j) ∧ L'.length + nodesF F' + j = L.length + nodesF F + P ∧ Oth L F fr (List.range P) B L' F' fr' (List.range j) B' ∧ (∀ i, i < P → fr' i = fr i ∧ c' i = c i) ∧ ∀ i, P ≤ i → i < j → c' i = x + 208
/-- What Grow leaves. -/
def GwP (w : World) (s p b m N r P ft Q : Nat) (tz x : Int) (B : Nat → Int) (L : List Nat) (F : Nat → Option Nat) (fr : Nat → Nat) (c : Nat → Int) (e : Ending) (w' : World) : Prop :=
  ((Q : Int) - P + ndP Q - ndP P ≤ L.length ∧ e = .returned (.int .i64 0) ∧ Tch p b m s w w' ∧ ∃ B' L' F' lf' fr' c', SpT w' s p b m N r Q ft tz B' L' F' lf' fr' c' ∧ L'.length + nodesF F' + Q = L.length + nodesF F + P ∧ Oth L F fr (List.range P) B L' F' fr' (List.range Q) B' ∧ (∀ i, i < P → fr' i = fr i ∧ c' i = c i) ∧ ∀ i, P ≤ i → i < Q → c' i = x + 208) ∨
  (¬ (Q : Int) - P + ndP Q - ndP P ≤ L.length ∧ e = .returned (.int .i64 164) ∧ Below w.heap.size w w')
theorem GrI.step {x : Int} {j Q : Nat} {W : World} (hI : GrI w s p b m N r P ft size x B L F fr c j W) (hS : SpL N r ft B L F lf fr c (List.range P)) (hP : P ≤ 4096) (hx : rgt x) (hjQ : P ≤ j ∧ j < Q ∧ Q ≤ 4096) (hd : (Q : Int) - P + ndP Q - ndP P ≤ L.length) :
    Calls Tryz.prog 48 #[.agg #[.pointer (some ⟨p, 0, .none⟩), .int .u64 (ad r)], .int .i64 j, .int .u64 (x + 208)] W fun e w' => (∃ f, e = .returned (.int .u64 (ad f))) ∧ GrI w s p b m N r P ft size x B L F fr c (j + 1) w' := by
  obtain ⟨fw, B1, L1, F1, lf1, fr1, c1, r1, t1, n1, o1, a1, p1⟩ := hI
  have hN := r1.mem.n2
  have e1 := hS.nodes hP
  have e2 := t1.nodes (by omega)
  have e3 := t1.need (by omega)
  have e4 : ndP ((j : Int) + 1) ≤ ndP Q := ndP_mono (by omega) (by omega)
  have hlen : ((need F1 ((j : Int) * 4096) : Nat) : Int) + 1 ≤ L1.length := by omega
  obtain ⟨f, L2, rfl⟩ : ∃ f L2, L1 = f :: L2 := by
    cases L1 with
    | nil => simp at hlen; omega
    | cons f L2 => exact ⟨f, L2, rfl⟩
  rw [List.length_cons] at hlen
  have hf := r1.lt f (List.mem_cons_self ..)
  have hjr : j ∉ List.range j := fun h => by have := List.mem_range.1 h; omega
  have hlf := rgt_leaf hx hf.2 hN
  have hnd : needY F1 ((j : Int) * 4096) ≤ L2.length := by rw [need_eq]; omega
  refine (lay_pt r1 t1.pt t1.rt j (x + 208) (by omega) (rgt_ok hx) hlf (t1.zero hjr (by omega)) hnd).mono fun e w' hh => ?_
  obtain ⟨rfl, B3, L3, F3, R3, q3, r3, f3⟩ := hh
  have q4 : L2.length = need F1 ((j : Int) * 4096) + L3.length := by
    have := congrArg List.length q3
    rw [List.length_append, List.length_take, Nat.min_eq_left hnd] at this
    exact this
  obtain ⟨t3, n3, o3⟩ := t1.add r1.nd hf hN hjr (by omega) (rgt_b hx) hlf.1 R3 q4
  rw [← List.range_succ] at t3 o3
  refine ⟨⟨f, rfl⟩, fw.trans f3, B3, L3, F3, _, upd fr1 j f, upd c1 j (x + 208), r3, t3, by omega, o1.trans o3, fun i hi => ?_, fun i h1 h2 => ?_⟩
  · unfold upd
    rw [if_neg (by omega), if_neg (by omega)]
    exact a1 i hi
  · unfold upd
    by_cases e : i = j
    · rw [if_pos e]
    · rw [if_neg e]
      exact p1 i h1 (by omega)
set_option maxHeartbeats 2000000 in
theorem grow_any (h : SpT w s p b m N r P ft size B L F lf fr c) (tz x : Int) (hx : rgt x) (htz : size ≤ tz ∧ tz ≤ 16777216) (Q : Nat) (hQ : (tz + 4095) / 4096 = Q) :
    Calls Tryz.prog 9 #[.pointer (some ⟨s, 0, .none⟩), .int .u64 tz, .int .u64 x] w (GwP w s p b m N r P ft Q tz x B L F fr c) := by
  have hpm := h.pm
  have hsz := h.sz
  have hne := h.ne
  have hQ4 : P ≤ Q ∧ Q ≤ 4096 := by omega
  obtain ⟨o1, o2, o3⟩ := rgt_or hx
  have c43 := made_sp h.sp
  have c44 := fun W => mayS_any x hx W
  have c46 := fun W => pagesOf_any tz (by omega) W
  rw [hQ] at c46
  have c45 := room_gen h Q hQ4.2
  have k2 := h.sp.c2
  have hlt1 : ¬ tz < size := by omega
  have hlt2 : ¬ 274877894656 < tz := by omega
  have H0 : Hid (SpT w s p b m N r P ft size B L F lf fr c ∧ rgt x ∧ (P ≤ Q ∧ Q ≤ 4096) ∧ (tz + 4095) / 4096 = Q ∧ (size + 4095) / 4096 = P) := ⟨h, hx, hQ4, hQ, hsz.2⟩
  have hxb : 0 ≤ x ∧ x < 16 := by rcases hx with rfl | rfl | rfl | rfl | rfl <;> omega
  clear h hx hQ hsz
  by_cases hd : (Q : Int) - P + ndP Q - ndP P ≤ L.length
  · rw [decide_eq_true hd] at c45
    have HD : Hid ((Q : Int) - P + ndP Q - ndP P ≤ L.length) := hd
    clear hd
    go_enter Tryz.func9, Tryz.ntmps9
    go_upto_region 7 with first | (go_at_call 43; refine c43.mono ?_; rintro _ w1 ⟨rfl, e1⟩; obtain rfl : w = w1 := e1.symm) | (go_at_call 44; refine (c44 _).mono ?_; rintro _ w1 ⟨rfl, e1⟩; obtain rfl : w = w1 := e1.symm)
    go_upto_region 9 with first | (go_at_call 46; refine (c46 _).mono ?_; rintro _ w1 ⟨rfl, e1⟩; obtain rfl : w = w1 := e1.symm) | (go_at_call 45; refine c45.mono ?_; rintro _ wa ⟨rfl, ba⟩; have HA : Hid (Below w.heap.size w wa) := ba; clear ba c45)
    have Sa := H0.out.1.below HA.out
    have c47 := tail_any Sa
    unfold TaP at c47
    have ka2 := Sa.sp.c2
    have HSa : Hid (SpT wa s p b m N r P ft size B L F lf fr c) := Sa
    clear Sa k2
    by_cases hgt : size < tz
    · go_upto_region 11 with (go_at_call 47; refine c47.mono ?_; rintro _ wb ⟨rfl, fb, B9, S9, o9⟩; have HGI : Hid (GrI w s p b m N r P ft size x B L F fr c P wb) := ⟨(Fra.below HA.out).trans fb, B9, L, F, lf, fr, c, S9.ram, S9.tab, rfl, o9, fun _ _ => ⟨rfl, rfl⟩, fun i h1 h2 => absurd h2 (by omega)⟩; clear fb S9 o9 c47)
      have Sb := HGI.out.1
      have d19 := pages_sp (H0.out.1.sp.fra Sb hne.1 hne.2.1 hne.2.2) (by have := H0.out.1.sz; omega)
      rw [H0.out.2.2.2.2] at d19
      clear Sb
      go_wp2_with (go_at_call 19; refine d19.mono ?_; rintro _ w1 ⟨rfl, e1⟩; obtain rfl : wb = w1 := e1.symm)
      go_loopw [7] (fun k wr => ∃ j : Nat, P ≤ j ∧ j ≤ Q ∧ k = .int .i64 j ∧ Hid (GrI w s p b m N r P ft size x B L F fr c j wr)) (fun k _ => (Q - intOf k).toNat)
      case atStart => exact ⟨P, Nat.le_refl _, hQ4.1, rfl, HGI⟩
      case round =>
        clear HGI
        obtain ⟨j, hj1, hj2, rfl, HJ⟩ := hrel
        have Sr := H0.out.1.sp.fra HJ.out.1 hne.1 hne.2.1 hne.2.2
        have k0 := Sr.c0
        have k1 := Sr.c1
        have k2 := Sr.c2
        have kf := Sr.fr 2
        have HSr : Hid (Sp wr s p (ad r) size) := Sr
        clear Sr
        by_cases hjQ : j < Q
        · have hlt : (j : Int) < Q := by omega
          have c48 := GrI.step HJ.out H0.out.1.tab hpm H0.out.2.1 ⟨hj1, hjQ, hQ4.2⟩ HD.out
          clear HJ
          go_wp2_with first | (go_at_call 46; refine (c46 _).mono ?_; rintro _ w1 ⟨rfl, e1⟩; obtain rfl : wr = w1 := e1.symm) | (go_at_call 48; refine c48.mono ?_; rintro _ w2 ⟨⟨f2, rfl⟩, g2⟩; have HG : Hid (GrI w s p b m N r P ft size x B L F fr c (j + 1) w2) := g2; clear g2 c48)
          exact ⟨⟨j + 1, by omega, by omega, by simp, HG⟩, by simp only [intOf]; omega⟩
        · have hlt : ¬ (j : Int) < Q := by omega
          go_wp2_with (go_at_call 46; refine (c46 _).mono ?_; rintro _ w1 ⟨rfl, e1⟩; obtain rfl : wr = w1 := e1.symm)
          go_ret
          have ej : j = Q := by omega
          subst ej
          obtain ⟨fw, B1, L1, F1, lf1, fr1, c1, r1, t1, n1, o1', a1, p1⟩ := HJ.out
          refine .inl ⟨HD.out, rfl, (Tch.of fw).trans (Tch.set 2 _), B1, L1, F1, lf1, fr1, c1, ⟨HSr.out.resize, ⟨by have := H0.out.1.sz; omega, H0.out.2.2.2.1⟩, hQ4.2, ?_, hne, t1⟩, n1, o1', a1, p1⟩
          exact r1.beside ⟨s, 2, .none⟩ _ (fun e => hne.1 e.symm) (fun e => hne.2.1 e.symm) (fun e => hne.2.2 e.symm)
    · obtain ⟨wb, hwb⟩ : ∃ wb, wb = wa := ⟨_, rfl⟩
      have HGI : Hid (GrI w s p b m N r P ft size x B L F fr c P wb) := by
        rw [hwb]
        exact ⟨Fra.below HA.out, B, L, F, lf, fr, c, HSa.out.ram, HSa.out.tab, rfl, Oth.refl _ _ _ _ _, fun _ _ => ⟨rfl, rfl⟩, fun i h1 h2 => absurd h2 (by omega)⟩
      go_upto_region 11 with fail
      obtain rfl : wb = wa := hwb
      have Sb := HGI.out.1
      have d19 := pages_sp (H0.out.1.sp.fra Sb hne.1 hne.2.1 hne.2.2) (by have := H0.out.1.sz; omega)
      rw [H0.out.2.2.2.2] at d19
      clear Sb
      go_wp2_with (go_at_call 19; refine d19.mono ?_; rintro _ w1 ⟨rfl, e1⟩; obtain rfl : wb = w1 := e1.symm)
      go_loopw [7] (fun k wr => ∃ j : Nat, P ≤ j ∧ j ≤ Q ∧ k = .int .i64 j ∧ Hid (GrI w s p b m N r P ft size x B L F fr c j wr)) (fun k _ => (Q - intOf k).toNat)
      case atStart => exact ⟨P, Nat.le_refl _, hQ4.1, rfl, HGI⟩
      case round =>
        clear HGI
        obtain ⟨j, hj1, hj2, rfl, HJ⟩ := hrel
        have Sr := H0.out.1.sp.fra HJ.out.1 hne.1 hne.2.1 hne.2.2
        have k0 := Sr.c0
        have k1 := Sr.c1
        have k2 := Sr.c2
        have kf := Sr.fr 2
        have HSr : Hid (Sp wr s p (ad r) size) := Sr
        clear Sr
        by_cases hjQ : j < Q
        · have hlt : (j : Int) < Q := by omega
          have c48 := GrI.step HJ.out H0.out.1.tab hpm H0.out.2.1 ⟨hj1, hjQ, hQ4.2⟩ HD.out
          clear HJ
          go_wp2_with first | (go_at_call 46; refine (c46 _).mono ?_; rintro _ w1 ⟨rfl, e1⟩; obtain rfl : wr = w1 := e1.symm) | (go_at_call 48; refine c48.mono ?_; rintro _ w2 ⟨⟨f2, rfl⟩, g2⟩; have HG : Hid (GrI w s p b m N r P ft size x B L F fr c (j + 1) w2) := g2; clear g2 c48)
          exact ⟨⟨j + 1, by omega, by omega, by simp, HG⟩, by simp only [intOf]; omega⟩
        · have hlt : ¬ (j : Int) < Q := by omega
          go_wp2_with (go_at_call 46; refine (c46 _).mono ?_; rintro _ w1 ⟨rfl, e1⟩; obtain rfl : wr = w1 := e1.symm)
          go_ret
          have ej : j = Q := by omega
          subst ej
          obtain ⟨fw, B1, L1, F1, lf1, fr1, c1, r1, t1, n1, o1', a1, p1⟩ := HJ.out
          refine .inl ⟨HD.out, rfl, (Tch.of fw).trans (Tch.set 2 _), B1, L1, F1, lf1, fr1, c1, ⟨HSr.out.resize, ⟨by have := H0.out.1.sz; omega, H0.out.2.2.2.1⟩, hQ4.2, ?_, hne, t1⟩, n1, o1', a1, p1⟩
          exact r1.beside ⟨s, 2, .none⟩ _ (fun e => hne.1 e.symm) (fun e => hne.2.1 e.symm) (fun e => hne.2.2 e.symm)
  · rw [decide_eq_false hd] at c45
    have HD : Hid (¬ (Q : Int) - P + ndP Q - ndP P ≤ L.length) := hd
    clear hd
    go_enter Tryz.func9, Tryz.ntmps9
    go_upto_region 7 with first | (go_at_call 43; refine c43.mono ?_; rintro _ w1 ⟨rfl, e1⟩; obtain rfl : w = w1 := e1.symm) | (go_at_call 44; refine (c44 _).mono ?_; rintro _ w1 ⟨rfl, e1⟩; obtain rfl : w = w1 := e1.symm)
    go_wp2_with first | (go_at_call 46; refine (c46 _).mono ?_; rintro _ w1 ⟨rfl, e1⟩; obtain rfl : w = w1 := e1.symm) | (go_at_call 45; refine c45.mono ?_; rintro _ wa ⟨rfl, ba⟩; have HA : Hid (Below w.heap.size w wa) := ba; clear ba c45)
    go_ret
    exact .inr ⟨by have := HD.out; omega, rfl, HA.out⟩
end
end Go.Proofs.YtblmkkhiojbcjaaGreat
