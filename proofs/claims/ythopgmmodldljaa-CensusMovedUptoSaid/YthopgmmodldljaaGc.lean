import Derived.Test.YthopgmmodldljaaGb
namespace Go.Proofs.Ythopgmmodldljaa
open Go Go.RowKit
set_option linter.unusedVariables false
set_option linter.unusedSimpArgs false
theorem lk9 {w : World} {b : Nat} {t a7 a8 a9 : Int} {v1 v2 v3 v4 v5 v6 : Value} {fr : Nat × Nat} (h : w.heap[b]? = some (.cells (lkL t v1 v2 v3 v4 v5 v6 a7 a8 a9).toArray 33 fr)) : w.cell? ⟨b, 1, .none⟩ = some v1 ∧ w.cell? ⟨b, 2, .none⟩ = some v2 ∧ w.cell? ⟨b, 3, .none⟩ = some v3 ∧ w.cell? ⟨b, 4, .none⟩ = some v4 ∧ w.cell? ⟨b, 5, .none⟩ = some v5 ∧ w.cell? ⟨b, 6, .none⟩ = some v6 ∧ w.cell? ⟨b, 7, .none⟩ = some (.int .u64 a7) ∧ w.cell? ⟨b, 8, .none⟩ = some (.int .i64 a8) ∧ w.cell? ⟨b, 9, .none⟩ = some (.int .i64 a9) :=
  ⟨cell_heap (o := 1) h, cell_heap (o := 2) h, cell_heap (o := 3) h, cell_heap (o := 4) h, cell_heap (o := 5) h, cell_heap (o := 6) h, cell_heap (o := 7) h, cell_heap (o := 8) h, cell_heap (o := 9) h⟩
/-- Two looks are the same but for frames. -/
def alk (A B : Lk) : Bool := (A.ticks == B.ticks) && ((A.next == B.next) && ((A.free == B.free) && (allB cmP A.procs B.procs && (allB cmF A.files B.files && (allB cmI A.inos B.inos && (allB cmQ A.pipes B.pipes && (allB cmB A.ready B.ready && allB cmB A.line B.line)))))))
theorem proc40_any {w : World} {X Y : Nat} (hX : X ≤ w.heap.size) (hY : Y ≤ w.heap.size) (p q : Pc) (np1 gp1 np2 gp2 : Option Addr) (nc1 gc1 nc2 gc2 : Nat) (h1 : Gs w X (.slice gp1 p.pages.length gc1) p.pages) (h2 : Gs w Y (.slice gp2 q.pages.length gc2) q.pages) (hn : p.pages.length ≤ 10000000) (hm : q.pages.length ≤ 10000000) : Calls Try.prog 40 #[.agg (p.l (.slice np1 p.nodes.length nc1) (.slice gp1 p.pages.length gc1)).toArray, .agg (q.l (.slice np2 q.nodes.length nc2) (.slice gp2 q.pages.length gc2)).toArray] w fun e w' => e = .returned (.bool (cmP p q)) ∧ Below w.heap.size w w' := by
  cases hb : plP p q
  · exact proc40_false hX hY p q np1 gp1 np2 gp2 nc1 gc1 nc2 gc2 h1 h2 hn hm hb
  · exact proc40_true hX hY p q np1 gp1 np2 gp2 nc1 gc1 nc2 gc2 h1 h2 hn hm hb
theorem pipe46_any {w : World} {X Y : Nat} (hX : X ≤ w.heap.size) (hY : Y ≤ w.heap.size) (x y : Pp) (np1 np2 : Option Addr) (nc1 nc2 : Nat) (h1 : Bt w X (.slice np1 x.bs.length nc1) x.bs) (h2 : Bt w Y (.slice np2 y.bs.length nc2) y.bs) (hn : x.bs.length ≤ 10000000) (hm : y.bs.length ≤ 10000000) : Calls Try.prog 46 #[.agg (x.l (.slice np1 x.bs.length nc1)).toArray, .agg (y.l (.slice np2 y.bs.length nc2)).toArray] w fun e w' => e = .returned (.bool (cmQ x y)) ∧ Below w.heap.size w w' := by
  cases hb : plQ x y
  · exact pipe46_false hX hY x y np1 np2 nc1 nc2 h1 h2 hn hm hb
  · exact pipe46_true hX hY x y np1 np2 nc1 nc2 h1 h2 hn hm hb
set_option maxRecDepth 100000 in
set_option maxHeartbeats 4000000 in
theorem al17 {w : World} {pv fv iv qv rv lv pv' fv' iv' qv' rv' lv' : Value} (t1 t2 a7 a8 a9 c7 c8 c9 : Int) (b1 b2 b3 b4 b5 b6 b7 b8 b9 : Bool) (hpv : ∃ p n c, pv = .slice p n c) (hpv' : ∃ p n c, pv' = .slice p n c) (hfv : ∃ p n c, fv = .slice p n c) (hfv' : ∃ p n c, fv' = .slice p n c) (hiv : ∃ p n c, iv = .slice p n c) (hiv' : ∃ p n c, iv' = .slice p n c) (hqv : ∃ p n c, qv = .slice p n c) (hqv' : ∃ p n c, qv' = .slice p n c) (hrv : ∃ p n c, rv = .slice p n c) (hrv' : ∃ p n c, rv' = .slice p n c) (hlv : ∃ p n c, lv = .slice p n c) (hlv' : ∃ p n c, lv' = .slice p n c) (e1 : (a7 == c7) = b1) (e2 : (a8 == c8) = b2) (e3 : (a9 == c9) = b3)
    (C0 : ∀ V, Below w.heap.size w V → Calls Try.prog 39 #[pv, pv', .func (.func 40) #[] #[]] V fun e w' => e = .returned (.bool b4) ∧ Below V.heap.size V w') (C1 : ∀ V, Below w.heap.size w V → Calls Try.prog 41 #[fv, fv', .func (.func 42) #[] #[]] V fun e w' => e = .returned (.bool b5) ∧ Below V.heap.size V w') (C2 : ∀ V, Below w.heap.size w V → Calls Try.prog 43 #[iv, iv', .func (.func 44) #[] #[]] V fun e w' => e = .returned (.bool b6) ∧ Below V.heap.size V w') (C3 : ∀ V, Below w.heap.size w V → Calls Try.prog 45 #[qv, qv', .func (.func 46) #[] #[]] V fun e w' => e = .returned (.bool b7) ∧ Below V.heap.size V w') (C4 : ∀ V, Below w.heap.size w V → Calls Try.prog 47 #[rv, rv', .func (.func 48) #[] #[]] V fun e w' => e = .returned (.bool b8) ∧ Below V.heap.size V w') (C5 : ∀ V, Below w.heap.size w V → Calls Try.prog 47 #[lv, lv', .func (.func 48) #[] #[]] V fun e w' => e = .returned (.bool b9) ∧ Below V.heap.size V w') :
    Calls Try.prog 17 #[.agg (lkL t1 pv fv iv qv rv lv a7 a8 a9).toArray, .agg (lkL t2 pv' fv' iv' qv' rv' lv' c7 c8 c9).toArray] w fun e w' => e = .returned (.bool (b1 && (b2 && (b3 && (b4 && (b5 && (b6 && (b7 && (b8 && b9))))))))) ∧ Below w.heap.size w w' := by
  obtain ⟨pvp, pvn, pvc, rfl⟩ := hpv
  obtain ⟨pvp', pvn', pvc', rfl⟩ := hpv'
  obtain ⟨fvp, fvn, fvc, rfl⟩ := hfv
  obtain ⟨fvp', fvn', fvc', rfl⟩ := hfv'
  obtain ⟨ivp, ivn, ivc, rfl⟩ := hiv
  obtain ⟨ivp', ivn', ivc', rfl⟩ := hiv'
  obtain ⟨qvp, qvn, qvc, rfl⟩ := hqv
  obtain ⟨qvp', qvn', qvc', rfl⟩ := hqv'
  obtain ⟨rvp, rvn, rvc, rfl⟩ := hrv
  obtain ⟨rvp', rvn', rvc', rfl⟩ := hrv'
  obtain ⟨lvp, lvn, lvc, rfl⟩ := hlv
  obtain ⟨lvp', lvn', lvc', rfl⟩ := hlv'
  have H0 : Hid ( ∀ V, Below w.heap.size w V → Calls Try.prog 39 #[(.slice pvp pvn pvc), (.slice pvp' pvn' pvc'), .func (.func 40) #[] #[]] V fun e w' => e = .returned (.bool b4) ∧ Below V.heap.size V w') := C0
  have H1 : Hid ( ∀ V, Below w.heap.size w V → Calls Try.prog 41 #[(.slice fvp fvn fvc), (.slice fvp' fvn' fvc'), .func (.func 42) #[] #[]] V fun e w' => e = .returned (.bool b5) ∧ Below V.heap.size V w') := C1
  have H2 : Hid ( ∀ V, Below w.heap.size w V → Calls Try.prog 43 #[(.slice ivp ivn ivc), (.slice ivp' ivn' ivc'), .func (.func 44) #[] #[]] V fun e w' => e = .returned (.bool b6) ∧ Below V.heap.size V w') := C2
  have H3 : Hid ( ∀ V, Below w.heap.size w V → Calls Try.prog 45 #[(.slice qvp qvn qvc), (.slice qvp' qvn' qvc'), .func (.func 46) #[] #[]] V fun e w' => e = .returned (.bool b7) ∧ Below V.heap.size V w') := C3
  have H4 : Hid ( ∀ V, Below w.heap.size w V → Calls Try.prog 47 #[(.slice rvp rvn rvc), (.slice rvp' rvn' rvc'), .func (.func 48) #[] #[]] V fun e w' => e = .returned (.bool b8) ∧ Below V.heap.size V w') := C4
  have H5 : Hid ( ∀ V, Below w.heap.size w V → Calls Try.prog 47 #[(.slice lvp lvn lvc), (.slice lvp' lvn' lvc'), .func (.func 48) #[] #[]] V fun e w' => e = .returned (.bool b9) ∧ Below V.heap.size V w') := C5
  clear C0 C1 C2 C3 C4 C5
  go_enter Try.func17, Try.ntmps17
  go_upto_region 1 with (first
    | (refine wpList_is (.box 33 (.tmp 0)) rfl ?_; refine wpList_boxG 33 (lkL t1 (.slice pvp pvn pvc) (.slice fvp fvn fvc) (.slice ivp ivn ivc) (.slice qvp qvn qvc) (.slice rvp rvn rvc) (.slice lvp lvn lvc) a7 a8 a9) 2 (.tmp 0) _ rfl rfl rfl rfl ?_; intro W1 hW1 hB1 hs1)
    | (refine wpList_is (.box 33 (.tmp 1)) rfl ?_; refine wpList_boxG 33 (lkL t2 (.slice pvp' pvn' pvc') (.slice fvp' fvn' fvc') (.slice ivp' ivn' ivc') (.slice qvp' qvn' qvc') (.slice rvp' rvn' rvc') (.slice lvp' lvn' lvc') c7 c8 c9) 3 (.tmp 1) _ rfl rfl rfl rfl ?_; intro W2 hW2 hB2 hs2; rw [hs1] at hW2 hs2 ⊢)
    | fail)
  have HB2 : Hid (AK w (lkL t1 (.slice pvp pvn pvc) (.slice fvp fvn fvc) (.slice ivp ivn ivc) (.slice qvp qvn qvc) (.slice rvp rvn rvc) (.slice lvp lvn lvc) a7 a8 a9) (lkL t2 (.slice pvp' pvn' pvc') (.slice fvp' fvn' fvc') (.slice ivp' ivn' ivc') (.slice qvp' qvn' qvc') (.slice rvp' rvn' rvc') (.slice lvp' lvn' lvc') c7 c8 c9) W2) := ⟨(hB2.block _ (by omega)).trans hW1, hW2, by omega, hB1.trans (hB2.mono (by omega))⟩
  clear hW1 hW2 hB1 hB2 hs1 hs2
  obtain ⟨x1, x2, x3, x4, x5, x6, x7, x8, x9⟩ := lk9 HB2.out.1; obtain ⟨y1, y2, y3, y4, y5, y6, y7, y8, y9⟩ := lk9 HB2.out.2.1
  cases b1
  · as_aux_lemma =>
      go_wp2
      go_ret
      exact ⟨by rfl, HB2.out.2.2.2⟩
  · skip
    cases b2
    · as_aux_lemma =>
        go_wp2
        go_ret
        exact ⟨by rfl, HB2.out.2.2.2⟩
    · skip
      cases b3
      · as_aux_lemma =>
          go_wp2
          go_ret
          exact ⟨by rfl, HB2.out.2.2.2⟩
      · skip
        cases b4
        · as_aux_lemma =>
            go_wp2_with fail
            clear x1 y1 x2 y2 x3 y3 x4 y4 x5 y5 x6 y6 x7 y7 x8 y8 x9 y9
            go_at_call 39
            refine (H0.out _ HB2.out.2.2.2).mono ?_
            rintro e V0 ⟨rfl, q0⟩
            have HBv0 : Hid (AK w (lkL t1 (.slice pvp pvn pvc) (.slice fvp fvn fvc) (.slice ivp ivn ivc) (.slice qvp qvn qvc) (.slice rvp rvn rvc) (.slice lvp lvn lvc) a7 a8 a9) (lkL t2 (.slice pvp' pvn' pvc') (.slice fvp' fvn' fvc') (.slice ivp' ivn' ivc') (.slice qvp' qvn' qvc') (.slice rvp' rvn' rvc') (.slice lvp' lvn' lvc') c7 c8 c9) V0) := HB2.out.step q0
            clear HB2 q0
            obtain ⟨x1, x2, x3, x4, x5, x6, x7, x8, x9⟩ := lk9 HBv0.out.1; obtain ⟨y1, y2, y3, y4, y5, y6, y7, y8, y9⟩ := lk9 HBv0.out.2.1
            go_wp2
            go_ret
            exact ⟨by rfl, HBv0.out.2.2.2⟩
        · skip
          cases b5
          · as_aux_lemma =>
              go_wp2_with fail
              clear x1 y1 x2 y2 x3 y3 x4 y4 x5 y5 x6 y6 x7 y7 x8 y8 x9 y9
              go_at_call 39
              refine (H0.out _ HB2.out.2.2.2).mono ?_
              rintro e V0 ⟨rfl, q0⟩
              have HBv0 : Hid (AK w (lkL t1 (.slice pvp pvn pvc) (.slice fvp fvn fvc) (.slice ivp ivn ivc) (.slice qvp qvn qvc) (.slice rvp rvn rvc) (.slice lvp lvn lvc) a7 a8 a9) (lkL t2 (.slice pvp' pvn' pvc') (.slice fvp' fvn' fvc') (.slice ivp' ivn' ivc') (.slice qvp' qvn' qvc') (.slice rvp' rvn' rvc') (.slice lvp' lvn' lvc') c7 c8 c9) V0) := HB2.out.step q0
              clear HB2 q0
              obtain ⟨x1, x2, x3, x4, x5, x6, x7, x8, x9⟩ := lk9 HBv0.out.1; obtain ⟨y1, y2, y3, y4, y5, y6, y7, y8, y9⟩ := lk9 HBv0.out.2.1
              go_wp2_with fail
              clear x1 y1 x2 y2 x3 y3 x4 y4 x5 y5 x6 y6 x7 y7 x8 y8 x9 y9
              go_at_call 41
              refine (H1.out _ HBv0.out.2.2.2).mono ?_
              rintro e V1 ⟨rfl, q1⟩
              have HBv1 : Hid (AK w (lkL t1 (.slice pvp pvn pvc) (.slice fvp fvn fvc) (.slice ivp ivn ivc) (.slice qvp qvn qvc) (.slice rvp rvn rvc) (.slice lvp lvn lvc) a7 a8 a9) (lkL t2 (.slice pvp' pvn' pvc') (.slice fvp' fvn' fvc') (.slice ivp' ivn' ivc') (.slice qvp' qvn' qvc') (.slice rvp' rvn' rvc') (.slice lvp' lvn' lvc') c7 c8 c9) V1) := HBv0.out.step q1
              clear HBv0 q1
              obtain ⟨x1, x2, x3, x4, x5, x6, x7, x8, x9⟩ := lk9 HBv1.out.1; obtain ⟨y1, y2, y3, y4, y5, y6, y7, y8, y9⟩ := lk9 HBv1.out.2.1
              go_wp2
              go_ret
              exact ⟨by rfl, HBv1.out.2.2.2⟩
          · skip
            cases b6
            · as_aux_lemma =>
                go_wp2_with fail
                clear x1 y1 x2 y2 x3 y3 x4 y4 x5 y5 x6 y6 x7 y7 x8 y8 x9 y9
                go_at_call 39
                refine (H0.out _ HB2.out.2.2.2).mono ?_
                rintro e V0 ⟨rfl, q0⟩
                have HBv0 : Hid (AK w (lkL t1 (.slice pvp pvn pvc) (.slice fvp fvn fvc) (.slice ivp ivn ivc) (.slice qvp qvn qvc) (.slice rvp rvn rvc) (.slice lvp lvn lvc) a7 a8 a9) (lkL t2 (.slice pvp' pvn' pvc') (.slice fvp' fvn' fvc') (.slice ivp' ivn' ivc') (.slice qvp' qvn' qvc') (.slice rvp' rvn' rvc') (.slice lvp' lvn' lvc') c7 c8 c9) V0) := HB2.out.step q0
                clear HB2 q0
                obtain ⟨x1, x2, x3, x4, x5, x6, x7, x8, x9⟩ := lk9 HBv0.out.1; obtain ⟨y1, y2, y3, y4, y5, y6, y7, y8, y9⟩ := lk9 HBv0.out.2.1
                go_wp2_with fail
                clear x1 y1 x2 y2 x3 y3 x4 y4 x5 y5 x6 y6 x7 y7 x8 y8 x9 y9
                go_at_call 41
                refine (H1.out _ HBv0.out.2.2.2).mono ?_
                rintro e V1 ⟨rfl, q1⟩
                have HBv1 : Hid (AK w (lkL t1 (.slice pvp pvn pvc) (.slice fvp fvn fvc) (.slice ivp ivn ivc) (.slice qvp qvn qvc) (.slice rvp rvn rvc) (.slice lvp lvn lvc) a7 a8 a9) (lkL t2 (.slice pvp' pvn' pvc') (.slice fvp' fvn' fvc') (.slice ivp' ivn' ivc') (.slice qvp' qvn' qvc') (.slice rvp' rvn' rvc') (.slice lvp' lvn' lvc') c7 c8 c9) V1) := HBv0.out.step q1
                clear HBv0 q1
                obtain ⟨x1, x2, x3, x4, x5, x6, x7, x8, x9⟩ := lk9 HBv1.out.1; obtain ⟨y1, y2, y3, y4, y5, y6, y7, y8, y9⟩ := lk9 HBv1.out.2.1
                go_wp2_with fail
                clear x1 y1 x2 y2 x3 y3 x4 y4 x5 y5 x6 y6 x7 y7 x8 y8 x9 y9
                go_at_call 43
                refine (H2.out _ HBv1.out.2.2.2).mono ?_
                rintro e V2 ⟨rfl, q2⟩
                have HBv2 : Hid (AK w (lkL t1 (.slice pvp pvn pvc) (.slice fvp fvn fvc) (.slice ivp ivn ivc) (.slice qvp qvn qvc) (.slice rvp rvn rvc) (.slice lvp lvn lvc) a7 a8 a9) (lkL t2 (.slice pvp' pvn' pvc') (.slice fvp' fvn' fvc') (.slice ivp' ivn' ivc') (.slice qvp' qvn' qvc') (.slice rvp' rvn' rvc') (.slice lvp' lvn' lvc') c7 c8 c9) V2) := HBv1.out.step q2
                clear HBv1 q2
                obtain ⟨x1, x2, x3, x4, x5, x6, x7, x8, x9⟩ := lk9 HBv2.out.1; obtain ⟨y1, y2, y3, y4, y5, y6, y7, y8, y9⟩ := lk9 HBv2.out.2.1
                go_wp2
                go_ret
                exact ⟨by rfl, HBv2.out.2.2.2⟩
            · skip
              cases b7
              · as_aux_lemma =>
                  go_wp2_with fail
                  clear x1 y1 x2 y2 x3 y3 x4 y4 x5 y5 x6 y6 x7 y7 x8 y8 x9 y9
                  go_at_call 39
                  refine (H0.out _ HB2.out.2.2.2).mono ?_
                  rintro e V0 ⟨rfl, q0⟩
                  have HBv0 : Hid (AK w (lkL t1 (.slice pvp pvn pvc) (.slice fvp fvn fvc) (.slice ivp ivn ivc) (.slice qvp qvn qvc) (.slice rvp rvn rvc) (.slice lvp lvn lvc) a7 a8 a9) (lkL t2 (.slice pvp' pvn' pvc') (.slice fvp' fvn' fvc') (.slice ivp' ivn' ivc') (.slice qvp' qvn' qvc') (.slice rvp' rvn' rvc') (.slice lvp' lvn' lvc') c7 c8 c9) V0) := HB2.out.step q0
                  clear HB2 q0
                  obtain ⟨x1, x2, x3, x4, x5, x6, x7, x8, x9⟩ := lk9 HBv0.out.1; obtain ⟨y1, y2, y3, y4, y5, y6, y7, y8, y9⟩ := lk9 HBv0.out.2.1
                  go_wp2_with fail
                  clear x1 y1 x2 y2 x3 y3 x4 y4 x5 y5 x6 y6 x7 y7 x8 y8 x9 y9
                  go_at_call 41
                  refine (H1.out _ HBv0.out.2.2.2).mono ?_
                  rintro e V1 ⟨rfl, q1⟩
                  have HBv1 : Hid (AK w (lkL t1 (.slice pvp pvn pvc) (.slice fvp fvn fvc) (.slice ivp ivn ivc) (.slice qvp qvn qvc) (.slice rvp rvn rvc) (.slice lvp lvn lvc) a7 a8 a9) (lkL t2 (.slice pvp' pvn' pvc') (.slice fvp' fvn' fvc') (.slice ivp' ivn' ivc') (.slice qvp' qvn' qvc') (.slice rvp' rvn' rvc') (.slice lvp' lvn' lvc') c7 c8 c9) V1) := HBv0.out.step q1
                  clear HBv0 q1
                  obtain ⟨x1, x2, x3, x4, x5, x6, x7, x8, x9⟩ := lk9 HBv1.out.1; obtain ⟨y1, y2, y3, y4, y5, y6, y7, y8, y9⟩ := lk9 HBv1.out.2.1
                  go_wp2_with fail
                  clear x1 y1 x2 y2 x3 y3 x4 y4 x5 y5 x6 y6 x7 y7 x8 y8 x9 y9
                  go_at_call 43
                  refine (H2.out _ HBv1.out.2.2.2).mono ?_
                  rintro e V2 ⟨rfl, q2⟩
                  have HBv2 : Hid (AK w (lkL t1 (.slice pvp pvn pvc) (.slice fvp fvn fvc) (.slice ivp ivn ivc) (.slice qvp qvn qvc) (.slice rvp rvn rvc) (.slice lvp lvn lvc) a7 a8 a9) (lkL t2 (.slice pvp' pvn' pvc') (.slice fvp' fvn' fvc') (.slice ivp' ivn' ivc') (.slice qvp' qvn' qvc') (.slice rvp' rvn' rvc') (.slice lvp' lvn' lvc') c7 c8 c9) V2) := HBv1.out.step q2
                  clear HBv1 q2
                  obtain ⟨x1, x2, x3, x4, x5, x6, x7, x8, x9⟩ := lk9 HBv2.out.1; obtain ⟨y1, y2, y3, y4, y5, y6, y7, y8, y9⟩ := lk9 HBv2.out.2.1
                  go_wp2_with fail
                  clear x1 y1 x2 y2 x3 y3 x4 y4 x5 y5 x6 y6 x7 y7 x8 y8 x9 y9
                  go_at_call 45
                  refine (H3.out _ HBv2.out.2.2.2).mono ?_
                  rintro e V3 ⟨rfl, q3⟩
                  have HBv3 : Hid (AK w (lkL t1 (.slice pvp pvn pvc) (.slice fvp fvn fvc) (.slice ivp ivn ivc) (.slice qvp qvn qvc) (.slice rvp rvn rvc) (.slice lvp lvn lvc) a7 a8 a9) (lkL t2 (.slice pvp' pvn' pvc') (.slice fvp' fvn' fvc') (.slice ivp' ivn' ivc') (.slice qvp' qvn' qvc') (.slice rvp' rvn' rvc') (.slice lvp' lvn' lvc') c7 c8 c9) V3) := HBv2.out.step q3
                  clear HBv2 q3
                  obtain ⟨x1, x2, x3, x4, x5, x6, x7, x8, x9⟩ := lk9 HBv3.out.1; obtain ⟨y1, y2, y3, y4, y5, y6, y7, y8, y9⟩ := lk9 HBv3.out.2.1
                  go_wp2
                  go_ret
                  exact ⟨by rfl, HBv3.out.2.2.2⟩
              · skip
                cases b8
                · as_aux_lemma =>
                    go_wp2_with fail
                    clear x1 y1 x2 y2 x3 y3 x4 y4 x5 y5 x6 y6 x7 y7 x8 y8 x9 y9
                    go_at_call 39
                    refine (H0.out _ HB2.out.2.2.2).mono ?_
                    rintro e V0 ⟨rfl, q0⟩
                    have HBv0 : Hid (AK w (lkL t1 (.slice pvp pvn pvc) (.slice fvp fvn fvc) (.slice ivp ivn ivc) (.slice qvp qvn qvc) (.slice rvp rvn rvc) (.slice lvp lvn lvc) a7 a8 a9) (lkL t2 (.slice pvp' pvn' pvc') (.slice fvp' fvn' fvc') (.slice ivp' ivn' ivc') (.slice qvp' qvn' qvc') (.slice rvp' rvn' rvc') (.slice lvp' lvn' lvc') c7 c8 c9) V0) := HB2.out.step q0
                    clear HB2 q0
                    obtain ⟨x1, x2, x3, x4, x5, x6, x7, x8, x9⟩ := lk9 HBv0.out.1; obtain ⟨y1, y2, y3, y4, y5, y6, y7, y8, y9⟩ := lk9 HBv0.out.2.1
                    go_wp2_with fail
                    clear x1 y1 x2 y2 x3 y3 x4 y4 x5 y5 x6 y6 x7 y7 x8 y8 x9 y9
                    go_at_call 41
                    refine (H1.out _ HBv0.out.2.2.2).mono ?_
                    rintro e V1 ⟨rfl, q1⟩
                    have HBv1 : Hid (AK w (lkL t1 (.slice pvp pvn pvc) (.slice fvp fvn fvc) (.slice ivp ivn ivc) (.slice qvp qvn qvc) (.slice rvp rvn rvc) (.slice lvp lvn lvc) a7 a8 a9) (lkL t2 (.slice pvp' pvn' pvc') (.slice fvp' fvn' fvc') (.slice ivp' ivn' ivc') (.slice qvp' qvn' qvc') (.slice rvp' rvn' rvc') (.slice lvp' lvn' lvc') c7 c8 c9) V1) := HBv0.out.step q1
                    clear HBv0 q1
                    obtain ⟨x1, x2, x3, x4, x5, x6, x7, x8, x9⟩ := lk9 HBv1.out.1; obtain ⟨y1, y2, y3, y4, y5, y6, y7, y8, y9⟩ := lk9 HBv1.out.2.1
                    go_wp2_with fail
                    clear x1 y1 x2 y2 x3 y3 x4 y4 x5 y5 x6 y6 x7 y7 x8 y8 x9 y9
                    go_at_call 43
                    refine (H2.out _ HBv1.out.2.2.2).mono ?_
                    rintro e V2 ⟨rfl, q2⟩
                    have HBv2 : Hid (AK w (lkL t1 (.slice pvp pvn pvc) (.slice fvp fvn fvc) (.slice ivp ivn ivc) (.slice qvp qvn qvc) (.slice rvp rvn rvc) (.slice lvp lvn lvc) a7 a8 a9) (lkL t2 (.slice pvp' pvn' pvc') (.slice fvp' fvn' fvc') (.slice ivp' ivn' ivc') (.slice qvp' qvn' qvc') (.slice rvp' rvn' rvc') (.slice lvp' lvn' lvc') c7 c8 c9) V2) := HBv1.out.step q2
                    clear HBv1 q2
                    obtain ⟨x1, x2, x3, x4, x5, x6, x7, x8, x9⟩ := lk9 HBv2.out.1; obtain ⟨y1, y2, y3, y4, y5, y6, y7, y8, y9⟩ := lk9 HBv2.out.2.1
                    go_wp2_with fail
                    clear x1 y1 x2 y2 x3 y3 x4 y4 x5 y5 x6 y6 x7 y7 x8 y8 x9 y9
                    go_at_call 45
                    refine (H3.out _ HBv2.out.2.2.2).mono ?_
                    rintro e V3 ⟨rfl, q3⟩
                    have HBv3 : Hid (AK w (lkL t1 (.slice pvp pvn pvc) (.slice fvp fvn fvc) (.slice ivp ivn ivc) (.slice qvp qvn qvc) (.slice rvp rvn rvc) (.slice lvp lvn lvc) a7 a8 a9) (lkL t2 (.slice pvp' pvn' pvc') (.slice fvp' fvn' fvc') (.slice ivp' ivn' ivc') (.slice qvp' qvn' qvc') (.slice rvp' rvn' rvc') (.slice lvp' lvn' lvc') c7 c8 c9) V3) := HBv2.out.step q3
                    clear HBv2 q3
                    obtain ⟨x1, x2, x3, x4, x5, x6, x7, x8, x9⟩ := lk9 HBv3.out.1; obtain ⟨y1, y2, y3, y4, y5, y6, y7, y8, y9⟩ := lk9 HBv3.out.2.1
                    go_wp2_with fail
                    clear x1 y1 x2 y2 x3 y3 x4 y4 x5 y5 x6 y6 x7 y7 x8 y8 x9 y9
                    go_at_call 47
                    refine (H4.out _ HBv3.out.2.2.2).mono ?_
                    rintro e V4 ⟨rfl, q4⟩
                    have HBv4 : Hid (AK w (lkL t1 (.slice pvp pvn pvc) (.slice fvp fvn fvc) (.slice ivp ivn ivc) (.slice qvp qvn qvc) (.slice rvp rvn rvc) (.slice lvp lvn lvc) a7 a8 a9) (lkL t2 (.slice pvp' pvn' pvc') (.slice fvp' fvn' fvc') (.slice ivp' ivn' ivc') (.slice qvp' qvn' qvc') (.slice rvp' rvn' rvc') (.slice lvp' lvn' lvc') c7 c8 c9) V4) := HBv3.out.step q4
                    clear HBv3 q4
                    obtain ⟨x1, x2, x3, x4, x5, x6, x7, x8, x9⟩ := lk9 HBv4.out.1; obtain ⟨y1, y2, y3, y4, y5, y6, y7, y8, y9⟩ := lk9 HBv4.out.2.1
                    go_wp2
                    go_ret
                    exact ⟨by rfl, HBv4.out.2.2.2⟩
                · skip
                  cases b9
                  · as_aux_lemma =>
                      go_wp2_with fail
                      clear x1 y1 x2 y2 x3 y3 x4 y4 x5 y5 x6 y6 x7 y7 x8 y8 x9 y9
                      go_at_call 39
                      refine (H0.out _ HB2.out.2.2.2).mono ?_
                      rintro e V0 ⟨rfl, q0⟩
                      have HBv0 : Hid (AK w (lkL t1 (.slice pvp pvn pvc) (.slice fvp fvn fvc) (.slice ivp ivn ivc) (.slice qvp qvn qvc) (.slice rvp rvn rvc) (.slice lvp lvn lvc) a7 a8 a9) (lkL t2 (.slice pvp' pvn' pvc') (.slice fvp' fvn' fvc') (.slice ivp' ivn' ivc') (.slice qvp' qvn' qvc') (.slice rvp' rvn' rvc') (.slice lvp' lvn' lvc') c7 c8 c9) V0) := HB2.out.step q0
                      clear HB2 q0
                      obtain ⟨x1, x2, x3, x4, x5, x6, x7, x8, x9⟩ := lk9 HBv0.out.1; obtain ⟨y1, y2, y3, y4, y5, y6, y7, y8, y9⟩ := lk9 HBv0.out.2.1
                      go_wp2_with fail
                      clear x1 y1 x2 y2 x3 y3 x4 y4 x5 y5 x6 y6 x7 y7 x8 y8 x9 y9
                      go_at_call 41
                      refine (H1.out _ HBv0.out.2.2.2).mono ?_
                      rintro e V1 ⟨rfl, q1⟩
                      have HBv1 : Hid (AK w (lkL t1 (.slice pvp pvn pvc) (.slice fvp fvn fvc) (.slice ivp ivn ivc) (.slice qvp qvn qvc) (.slice rvp rvn rvc) (.slice lvp lvn lvc) a7 a8 a9) (lkL t2 (.slice pvp' pvn' pvc') (.slice fvp' fvn' fvc') (.slice ivp' ivn' ivc') (.slice qvp' qvn' qvc') (.slice rvp' rvn' rvc') (.slice lvp' lvn' lvc') c7 c8 c9) V1) := HBv0.out.step q1
                      clear HBv0 q1
                      obtain ⟨x1, x2, x3, x4, x5, x6, x7, x8, x9⟩ := lk9 HBv1.out.1; obtain ⟨y1, y2, y3, y4, y5, y6, y7, y8, y9⟩ := lk9 HBv1.out.2.1
                      go_wp2_with fail
                      clear x1 y1 x2 y2 x3 y3 x4 y4 x5 y5 x6 y6 x7 y7 x8 y8 x9 y9
                      go_at_call 43
                      refine (H2.out _ HBv1.out.2.2.2).mono ?_
                      rintro e V2 ⟨rfl, q2⟩
                      have HBv2 : Hid (AK w (lkL t1 (.slice pvp pvn pvc) (.slice fvp fvn fvc) (.slice ivp ivn ivc) (.slice qvp qvn qvc) (.slice rvp rvn rvc) (.slice lvp lvn lvc) a7 a8 a9) (lkL t2 (.slice pvp' pvn' pvc') (.slice fvp' fvn' fvc') (.slice ivp' ivn' ivc') (.slice qvp' qvn' qvc') (.slice rvp' rvn' rvc') (.slice lvp' lvn' lvc') c7 c8 c9) V2) := HBv1.out.step q2
                      clear HBv1 q2
                      obtain ⟨x1, x2, x3, x4, x5, x6, x7, x8, x9⟩ := lk9 HBv2.out.1; obtain ⟨y1, y2, y3, y4, y5, y6, y7, y8, y9⟩ := lk9 HBv2.out.2.1
                      go_wp2_with fail
                      clear x1 y1 x2 y2 x3 y3 x4 y4 x5 y5 x6 y6 x7 y7 x8 y8 x9 y9
                      go_at_call 45
                      refine (H3.out _ HBv2.out.2.2.2).mono ?_
                      rintro e V3 ⟨rfl, q3⟩
                      have HBv3 : Hid (AK w (lkL t1 (.slice pvp pvn pvc) (.slice fvp fvn fvc) (.slice ivp ivn ivc) (.slice qvp qvn qvc) (.slice rvp rvn rvc) (.slice lvp lvn lvc) a7 a8 a9) (lkL t2 (.slice pvp' pvn' pvc') (.slice fvp' fvn' fvc') (.slice ivp' ivn' ivc') (.slice qvp' qvn' qvc') (.slice rvp' rvn' rvc') (.slice lvp' lvn' lvc') c7 c8 c9) V3) := HBv2.out.step q3
                      clear HBv2 q3
                      obtain ⟨x1, x2, x3, x4, x5, x6, x7, x8, x9⟩ := lk9 HBv3.out.1; obtain ⟨y1, y2, y3, y4, y5, y6, y7, y8, y9⟩ := lk9 HBv3.out.2.1
                      go_wp2_with fail
                      clear x1 y1 x2 y2 x3 y3 x4 y4 x5 y5 x6 y6 x7 y7 x8 y8 x9 y9
                      go_at_call 47
                      refine (H4.out _ HBv3.out.2.2.2).mono ?_
                      rintro e V4 ⟨rfl, q4⟩
                      have HBv4 : Hid (AK w (lkL t1 (.slice pvp pvn pvc) (.slice fvp fvn fvc) (.slice ivp ivn ivc) (.slice qvp qvn qvc) (.slice rvp rvn rvc) (.slice lvp lvn lvc) a7 a8 a9) (lkL t2 (.slice pvp' pvn' pvc') (.slice fvp' fvn' fvc') (.slice ivp' ivn' ivc') (.slice qvp' qvn' qvc') (.slice rvp' rvn' rvc') (.slice lvp' lvn' lvc') c7 c8 c9) V4) := HBv3.out.step q4
                      clear HBv3 q4
                      obtain ⟨x1, x2, x3, x4, x5, x6, x7, x8, x9⟩ := lk9 HBv4.out.1; obtain ⟨y1, y2, y3, y4, y5, y6, y7, y8, y9⟩ := lk9 HBv4.out.2.1
                      go_wp2_with fail
                      clear x1 y1 x2 y2 x3 y3 x4 y4 x5 y5 x6 y6 x7 y7 x8 y8 x9 y9
                      go_at_call 47
                      refine (H5.out _ HBv4.out.2.2.2).mono ?_
                      rintro e V5 ⟨rfl, q5⟩
                      have HBv5 : Hid (AK w (lkL t1 (.slice pvp pvn pvc) (.slice fvp fvn fvc) (.slice ivp ivn ivc) (.slice qvp qvn qvc) (.slice rvp rvn rvc) (.slice lvp lvn lvc) a7 a8 a9) (lkL t2 (.slice pvp' pvn' pvc') (.slice fvp' fvn' fvc') (.slice ivp' ivn' ivc') (.slice qvp' qvn' qvc') (.slice rvp' rvn' rvc') (.slice lvp' lvn' lvc') c7 c8 c9) V5) := HBv4.out.step q5
                      clear HBv4 q5
                      obtain ⟨x1, x2, x3, x4, x5, x6, x7, x8, x9⟩ := lk9 HBv5.out.1; obtain ⟨y1, y2, y3, y4, y5, y6, y7, y8, y9⟩ := lk9 HBv5.out.2.1
                      go_wp2
                      go_ret
                      exact ⟨by rfl, HBv5.out.2.2.2⟩
                  · as_aux_lemma =>
                      go_wp2_with fail
                      clear x1 y1 x2 y2 x3 y3 x4 y4 x5 y5 x6 y6 x7 y7 x8 y8 x9 y9
                      go_at_call 39
                      refine (H0.out _ HB2.out.2.2.2).mono ?_
                      rintro e V0 ⟨rfl, q0⟩
                      have HBv0 : Hid (AK w (lkL t1 (.slice pvp pvn pvc) (.slice fvp fvn fvc) (.slice ivp ivn ivc) (.slice qvp qvn qvc) (.slice rvp rvn rvc) (.slice lvp lvn lvc) a7 a8 a9) (lkL t2 (.slice pvp' pvn' pvc') (.slice fvp' fvn' fvc') (.slice ivp' ivn' ivc') (.slice qvp' qvn' qvc') (.slice rvp' rvn' rvc') (.slice lvp' lvn' lvc') c7 c8 c9) V0) := HB2.out.step q0
                      clear HB2 q0
                      obtain ⟨x1, x2, x3, x4, x5, x6, x7, x8, x9⟩ := lk9 HBv0.out.1; obtain ⟨y1, y2, y3, y4, y5, y6, y7, y8, y9⟩ := lk9 HBv0.out.2.1
                      go_wp2_with fail
                      clear x1 y1 x2 y2 x3 y3 x4 y4 x5 y5 x6 y6 x7 y7 x8 y8 x9 y9
                      go_at_call 41
                      refine (H1.out _ HBv0.out.2.2.2).mono ?_
                      rintro e V1 ⟨rfl, q1⟩
                      have HBv1 : Hid (AK w (lkL t1 (.slice pvp pvn pvc) (.slice fvp fvn fvc) (.slice ivp ivn ivc) (.slice qvp qvn qvc) (.slice rvp rvn rvc) (.slice lvp lvn lvc) a7 a8 a9) (lkL t2 (.slice pvp' pvn' pvc') (.slice fvp' fvn' fvc') (.slice ivp' ivn' ivc') (.slice qvp' qvn' qvc') (.slice rvp' rvn' rvc') (.slice lvp' lvn' lvc') c7 c8 c9) V1) := HBv0.out.step q1
                      clear HBv0 q1
                      obtain ⟨x1, x2, x3, x4, x5, x6, x7, x8, x9⟩ := lk9 HBv1.out.1; obtain ⟨y1, y2, y3, y4, y5, y6, y7, y8, y9⟩ := lk9 HBv1.out.2.1
                      go_wp2_with fail
                      clear x1 y1 x2 y2 x3 y3 x4 y4 x5 y5 x6 y6 x7 y7 x8 y8 x9 y9
                      go_at_call 43
                      refine (H2.out _ HBv1.out.2.2.2).mono ?_
                      rintro e V2 ⟨rfl, q2⟩
                      have HBv2 : Hid (AK w (lkL t1 (.slice pvp pvn pvc) (.slice fvp fvn fvc) (.slice ivp ivn ivc) (.slice qvp qvn qvc) (.slice rvp rvn rvc) (.slice lvp lvn lvc) a7 a8 a9) (lkL t2 (.slice pvp' pvn' pvc') (.slice fvp' fvn' fvc') (.slice ivp' ivn' ivc') (.slice qvp' qvn' qvc') (.slice rvp' rvn' rvc') (.slice lvp' lvn' lvc') c7 c8 c9) V2) := HBv1.out.step q2
                      clear HBv1 q2
                      obtain ⟨x1, x2, x3, x4, x5, x6, x7, x8, x9⟩ := lk9 HBv2.out.1; obtain ⟨y1, y2, y3, y4, y5, y6, y7, y8, y9⟩ := lk9 HBv2.out.2.1
                      go_wp2_with fail
                      clear x1 y1 x2 y2 x3 y3 x4 y4 x5 y5 x6 y6 x7 y7 x8 y8 x9 y9
                      go_at_call 45
                      refine (H3.out _ HBv2.out.2.2.2).mono ?_
                      rintro e V3 ⟨rfl, q3⟩
                      have HBv3 : Hid (AK w (lkL t1 (.slice pvp pvn pvc) (.slice fvp fvn fvc) (.slice ivp ivn ivc) (.slice qvp qvn qvc) (.slice rvp rvn rvc) (.slice lvp lvn lvc) a7 a8 a9) (lkL t2 (.slice pvp' pvn' pvc') (.slice fvp' fvn' fvc') (.slice ivp' ivn' ivc') (.slice qvp' qvn' qvc') (.slice rvp' rvn' rvc') (.slice lvp' lvn' lvc') c7 c8 c9) V3) := HBv2.out.step q3
                      clear HBv2 q3
                      obtain ⟨x1, x2, x3, x4, x5, x6, x7, x8, x9⟩ := lk9 HBv3.out.1; obtain ⟨y1, y2, y3, y4, y5, y6, y7, y8, y9⟩ := lk9 HBv3.out.2.1
                      go_wp2_with fail
                      clear x1 y1 x2 y2 x3 y3 x4 y4 x5 y5 x6 y6 x7 y7 x8 y8 x9 y9
                      go_at_call 47
                      refine (H4.out _ HBv3.out.2.2.2).mono ?_
                      rintro e V4 ⟨rfl, q4⟩
                      have HBv4 : Hid (AK w (lkL t1 (.slice pvp pvn pvc) (.slice fvp fvn fvc) (.slice ivp ivn ivc) (.slice qvp qvn qvc) (.slice rvp rvn rvc) (.slice lvp lvn lvc) a7 a8 a9) (lkL t2 (.slice pvp' pvn' pvc') (.slice fvp' fvn' fvc') (.slice ivp' ivn' ivc') (.slice qvp' qvn' qvc') (.slice rvp' rvn' rvc') (.slice lvp' lvn' lvc') c7 c8 c9) V4) := HBv3.out.step q4
                      clear HBv3 q4
                      obtain ⟨x1, x2, x3, x4, x5, x6, x7, x8, x9⟩ := lk9 HBv4.out.1; obtain ⟨y1, y2, y3, y4, y5, y6, y7, y8, y9⟩ := lk9 HBv4.out.2.1
                      go_wp2_with fail
                      clear x1 y1 x2 y2 x3 y3 x4 y4 x5 y5 x6 y6 x7 y7 x8 y8 x9 y9
                      go_at_call 47
                      refine (H5.out _ HBv4.out.2.2.2).mono ?_
                      rintro e V5 ⟨rfl, q5⟩
                      have HBv5 : Hid (AK w (lkL t1 (.slice pvp pvn pvc) (.slice fvp fvn fvc) (.slice ivp ivn ivc) (.slice qvp qvn qvc) (.slice rvp rvn rvc) (.slice lvp lvn lvc) a7 a8 a9) (lkL t2 (.slice pvp' pvn' pvc') (.slice fvp' fvn' fvc') (.slice ivp' ivn' ivc') (.slice qvp' qvn' qvc') (.slice rvp' rvn' rvc') (.slice lvp' lvn' lvc') c7 c8 c9) V5) := HBv4.out.step q5
                      clear HBv4 q5
                      obtain ⟨x1, x2, x3, x4, x5, x6, x7, x8, x9⟩ := lk9 HBv5.out.1; obtain ⟨y1, y2, y3, y4, y5, y6, y7, y8, y9⟩ := lk9 HBv5.out.2.1
                      go_wp2
                      go_ret
                      exact ⟨by rfl, HBv5.out.2.2.2⟩
/-- What a look's bounds are for the comparisons. -/
structure Cb (L : Lk) : Prop where
  p : L.procs.length ≤ 1048576
  f : L.files.length ≤ 1048576
  i : L.inos.length ≤ 1048576
  q : L.pipes.length ≤ 1048576
  r : L.ready.length ≤ 10000000
  l : L.line.length ≤ 10000000
  pg : ∀ x ∈ L.procs, x.pages.length ≤ 10000000
  qb : ∀ x ∈ L.pipes, x.bs.length ≤ 10000000
theorem alike17_any {w : World} {X Y : Nat} {pv fv iv qv rv lv pv' fv' iv' qv' rv' lv' : Value} {L M : Lk} (t1 t2 : Int) (h1 : LkW w X pv fv iv qv rv lv L) (h2 : LkW w Y pv' fv' iv' qv' rv' lv' M) (hX : X ≤ w.heap.size) (hY : Y ≤ w.heap.size) (hL : Cb L) (hM : Cb M) :
    Calls Try.prog 17 #[.agg (lkL t1 pv fv iv qv rv lv L.ticks L.next L.free).toArray, .agg (lkL t2 pv' fv' iv' qv' rv' lv' M.ticks M.next M.free).toArray] w fun e w' => e = .returned (.bool (alk L M)) ∧ Below w.heap.size w w' := by
  have k1 : ∀ V, Below w.heap.size w V → LkW V X pv fv iv qv rv lv L ∧ LkW V Y pv' fv' iv' qv' rv' lv' M ∧ X ≤ V.heap.size ∧ Y ≤ V.heap.size := fun V hV => ⟨h1.keep (Nat.le_refl _) (hV.mono hX), h2.keep (Nat.le_refl _) (hV.mono hY), Nat.le_trans hX hV.size, Nat.le_trans hY hV.size⟩
  have fm : ∀ {α : Type} {w : World} {X sz : Nat} {Q : α → List Value → Prop} {v : Value} {l : List α}, Sl w X sz Q v l → ∃ p n c, v = .slice p n c := fun h => let ⟨p, c, e⟩ := h.form; ⟨p, _, c, e⟩
  refine al17 t1 t2 _ _ _ _ _ _ (L.ticks == M.ticks) (L.next == M.next) (L.free == M.free) (allB cmP L.procs M.procs) (allB cmF L.files M.files) (allB cmI L.inos M.inos) (allB cmQ L.pipes M.pipes) (allB cmB L.ready M.ready) (allB cmB L.line M.line) (fm h1.ps) (fm h2.ps) (fm h1.fs) (fm h2.fs) (fm h1.is) (fm h2.is) (fm h1.qs) (fm h2.qs) (fm h1.rd) (fm h2.rd) (fm h1.ln) (fm h2.ln) rfl rfl rfl ?_ ?_ ?_ ?_ ?_ ?_
  · intro V hV
    obtain ⟨a, b, c, d⟩ := k1 V hV
    refine same39_any a.ps b.ps c d (by have := hL.p; omega) (by have := hM.p; omega) cmP (fun w' hb x hx y hy cs cs' e1 e2 _ _ => ?_)
    obtain ⟨nv, gv, rfl, q1, q2⟩ := e1
    obtain ⟨nv', gv', rfl, q3, q4⟩ := e2
    obtain ⟨_, _, rfl⟩ := q1.form
    obtain ⟨_, _, rfl⟩ := q2.form
    obtain ⟨_, _, rfl⟩ := q3.form
    obtain ⟨_, _, rfl⟩ := q4.form
    exact proc40_any (Nat.le_trans c hb.size) (Nat.le_trans d hb.size) x y _ _ _ _ _ _ _ _ (q2.keep (Nat.le_refl _) (hb.mono c)) (q4.keep (Nat.le_refl _) (hb.mono d)) (hL.pg x hx) (hM.pg y hy)
  · intro V hV
    obtain ⟨a, b, c, d⟩ := k1 V hV
    exact same41_any a.fs b.fs c d (by have := hL.f; omega) (by have := hM.f; omega) cmF (fun w' hb x hx y hy cs cs' e1 e2 _ _ => by subst e1 e2; exact file42_any x y w')
  · intro V hV
    obtain ⟨a, b, c, d⟩ := k1 V hV
    refine same43_any a.is b.is c d (by have := hL.i; omega) (by have := hM.i; omega) cmI (fun w' hb x hx y hy cs cs' e1 e2 _ _ => ?_)
    obtain ⟨nv, rfl, q1⟩ := e1
    obtain ⟨nv', rfl, q3⟩ := e2
    obtain ⟨_, _, rfl⟩ := q1.form
    obtain ⟨_, _, rfl⟩ := q3.form
    exact inode44_any x y _ _ _ _ w'
  · intro V hV
    obtain ⟨a, b, c, d⟩ := k1 V hV
    refine same45_any a.qs b.qs c d (by have := hL.q; omega) (by have := hM.q; omega) cmQ (fun w' hb x hx y hy cs cs' e1 e2 _ _ => ?_)
    obtain ⟨nv, rfl, q1⟩ := e1
    obtain ⟨nv', rfl, q3⟩ := e2
    obtain ⟨_, _, rfl⟩ := q1.form
    obtain ⟨_, _, rfl⟩ := q3.form
    exact pipe46_any (Nat.le_trans c hb.size) (Nat.le_trans d hb.size) x y _ _ _ _ (Wd.keep q1 (Nat.le_refl _) (hb.mono c)) (Wd.keep q3 (Nat.le_refl _) (hb.mono d)) (hL.qb x hx) (hM.qb y hy)
  · intro V hV
    obtain ⟨a, b, c, d⟩ := k1 V hV
    exact same47_any a.rd b.rd c d hL.r hM.r cmB (fun w' _ x y => byte48_any x y w')
  · intro V hV
    obtain ⟨a, b, c, d⟩ := k1 V hV
    exact same47_any a.ln b.ln c d hL.l hM.l cmB (fun w' _ x y => byte48_any x y w')
end Go.Proofs.Ythopgmmodldljaa
