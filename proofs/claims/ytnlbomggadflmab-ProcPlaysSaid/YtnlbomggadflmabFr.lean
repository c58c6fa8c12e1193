import Derived.Test.YtnlbomggadflmabPh
namespace Go.Proofs.Ytnlbomggadflmab
open Go.RowKit
set_option linter.unusedVariables false
set_option linter.unusedSimpArgs false
set_option maxRecDepth 100000
theorem bx_cells (w : World) (p : Pr) (t : TypeId) : ∀ (j : Nat) (v : Value), p.l[j]? = some v → (w.alloc (.cells p.l.toArray t)).cell? ⟨w.heap.size, j, .none⟩ = some v := fun j v hj => by
  rw [World.cell?_alloc_at _ _ _ _ (by rfl)]
  simpa using hj
theorem eqlp (a c : Pr) (w : World) : (binOp .eql 33 (.agg #[.int .i64 a.pid, .int .i64 a.st, .int .i64 a.par, .int .i64 a.ck, .int .i64 a.cn, .bool a.kil, .int .i32 a.sta]) (.agg #[.int .i64 c.pid, .int .i64 c.st, .int .i64 c.par, .int .i64 c.ck, .int .i64 c.cn, .bool c.kil, .int .i32 c.sta])).run Try.prog w = .ok (.bool (pEq a c)) w := eql_proc a c w
/-- Has it what its state lets it have? -/
def fS (p : Pr) : Bool := if p.st = 1 then cEq p.ck p.cn 0 0 && p.sta == 0 else if p.st = 2 then isCh p.ck p.cn && !p.kil && p.sta == 0 else if p.st = 3 then cEq p.ck p.cn 0 0 else false
set_option maxHeartbeats 2000000 in
theorem fitsState_any (p : Pr) (w : World) : Calls Try.prog 68 #[.agg p.l.toArray] w fun e w' => e = .returned (.bool (fS p)) ∧ Below w.heap.size w w' := by
  obtain ⟨pid, st, par, ck, cn, kil, sta⟩ := p
  rw [Pr.l]
  dsimp only
  have heq : ∀ W, (binOp .eql 31 (.agg #[.int .i64 ck, .int .i64 cn]) (.agg #[.int .i64 0, .int .i64 0])).run Try.prog W = .ok (.bool (cEq ck cn 0 0)) W := fun W => eql_chan ck cn 0 0 W
  by_cases h1 : st = 1
  · have e : fS ⟨pid, st, par, ck, cn, kil, sta⟩ = (cEq ck cn 0 0 && sta == 0) := by simp [fS, h1]
    rw [e]
    subst h1
    clear e
    generalize cEq ck cn 0 0 = t at *
    cases t
    · go_enter Try.func68, Try.ntmps68
      go_wp2
      go_ret
      exact ⟨rfl, below1 _ _⟩
    · go_enter Try.func68, Try.ntmps68
      go_wp2
      go_ret
      exact ⟨by simp, below1 _ _⟩
  by_cases h2 : st = 2
  · have e : fS ⟨pid, st, par, ck, cn, kil, sta⟩ = (isCh ck cn && !kil && sta == 0) := by simp [fS, h2]
    rw [e]
    subst h2
    clear e heq
    have k := isChan_any ck cn (w.alloc (.cells #[.int .i64 pid, .int .i64 2, .int .i64 par, .int .i64 ck, .int .i64 cn, .bool kil, .int .i32 sta] 33))
    have HB : Hid (Below w.heap.size w (w.alloc (.cells #[.int .i64 pid, .int .i64 2, .int .i64 par, .int .i64 ck, .int .i64 cn, .bool kil, .int .i32 sta] 33))) := below1 _ _
    have hcs := bx_cells w ⟨pid, 2, par, ck, cn, kil, sta⟩ 33
    rw [Pr.l] at hcs
    dsimp only at hcs
    have hsz : w.heap.size < (w.alloc (.cells #[.int .i64 pid, .int .i64 2, .int .i64 par, .int .i64 ck, .int .i64 cn, .bool kil, .int .i32 sta] 33)).heap.size := by simp
    have HC : Hid (∀ W, Below (w.alloc (.cells #[.int .i64 pid, .int .i64 2, .int .i64 par, .int .i64 ck, .int .i64 cn, .bool kil, .int .i32 sta] 33)).heap.size (w.alloc (.cells #[.int .i64 pid, .int .i64 2, .int .i64 par, .int .i64 ck, .int .i64 cn, .bool kil, .int .i32 sta] 33)) W → W.cell? ⟨w.heap.size, 5, .none⟩ = some (.bool kil) ∧ W.cell? ⟨w.heap.size, 6, .none⟩ = some (.int .i32 sta) ∧ Below w.heap.size w W) := fun W hW => ⟨(hW.cell (p := ⟨w.heap.size, 5, .none⟩) hsz).trans (hcs 5 _ rfl), (hW.cell (p := ⟨w.heap.size, 6, .none⟩) hsz).trans (hcs 6 _ rfl), HB.out.trans (hW.mono HB.out.size)⟩
    clear hcs hsz HB h1
    generalize isCh ck cn = t at *
    go_enter Try.func68, Try.ntmps68
    go_wp2_with fail
    refine k.mono ?_
    rintro e w1 ⟨rfl, hb⟩
    obtain ⟨c5, c6, hB⟩ := HC.out w1 hb
    clear k hb HC
    cases t
    · go_wp2
      go_ret
      exact ⟨rfl, hB⟩
    · cases kil
      · go_wp2
        go_ret
        exact ⟨by simp, hB⟩
      · go_wp2
        go_ret
        exact ⟨rfl, hB⟩
  have g1 : (st == 1) = false := by simpa using h1
  have g2 : (st == 2) = false := by simpa using h2
  by_cases h3 : st = 3
  · have e : fS ⟨pid, st, par, ck, cn, kil, sta⟩ = cEq ck cn 0 0 := by simp [fS, h3]
    rw [e]
    subst h3
    clear e h1 h2 g1 g2
    generalize cEq ck cn 0 0 = t at *
    go_enter Try.func68, Try.ntmps68
    go_wp2
    go_ret
    exact ⟨rfl, below1 _ _⟩
  · have e : fS ⟨pid, st, par, ck, cn, kil, sta⟩ = false := by simp [fS, h1, h2, h3]
    rw [e]
    have g3 : (st == 3) = false := by simpa using h3
    clear e heq h1 h2 h3
    go_enter Try.func68, Try.ntmps68
    go_wp2
    go_ret
    exact ⟨rfl, below1 _ _⟩
theorem below_drw {B : Nat} {u W : World} (h : Below B u W) : Below B u W.drew := ⟨h.os, h.tape, h.output, h.size, h.block⟩
section
variable {w : World} {b : Nat} {P : Nat → Pr} {nx : Int}
/-- May the next pid be that? -/
def cN (P : Nat → Pr) (nx : Int) : Bool := decide (1 ≤ nx) && decide (nx ≤ 2147483648) && (decide (1 < nx) == anyP P)
set_option maxHeartbeats 2000000 in
theorem canBeNext_any (h : Tb w b P nx) : Calls Try.prog 60 #[.pointer (some ⟨b, 0, .none⟩)] w fun e w' => e = .returned (.bool (cN P nx)) ∧ Below w.heap.size w w' := by
  have k := least_proc h
  have HA : Hid ((rnd (fun i => !((P i).st == 0)) 0).isSome = anyP P) := rfl
  rw [HA.out] at k
  have HC : Hid (∀ W, Below w.heap.size w W → W.cell? ⟨b, 448, .none⟩ = some (.int .i64 nx)) := fun W hW => (h.bel hW).cn
  generalize rnI (rnd (fun i => !((P i).st == 0)) 0) = r at k
  have HE : Hid (cN P nx = (decide (1 ≤ nx) && decide (nx ≤ 2147483648) && (decide (1 < nx) == anyP P))) := rfl
  rw [HE.out]
  generalize anyP P = t at *
  clear h HA HE
  go_enter Try.func60, Try.ntmps60
  go_wp2_with fail
  refine k.mono ?_
  rintro e w1 ⟨rfl, hb⟩
  have c := HC.out w1 hb
  clear HC k
  by_cases h1 : 1 ≤ nx
  · by_cases h2 : nx ≤ 2147483648
    · go_wp2
      go_ret
      exact ⟨by rw [decide_eq_true h1, decide_eq_true h2]; simp, hb⟩
    · go_wp2
      go_ret
      exact ⟨by rw [decide_eq_false (show ¬ nx ≤ 2147483648 by omega)]; simp, hb⟩
  · go_wp2
    go_ret
    exact ⟨by rw [decide_eq_false (show ¬ 1 ≤ nx by omega)]; simp, hb⟩
set_option maxHeartbeats 2000000 in
theorem pid1_any (m : Int) (x : Nat) (p : Pr) (W : World) (hx : W.cell? ⟨x, 0, .none⟩ = some (.int .i64 m)) : Calls Try.prog 70 #[.agg p.l.toArray, .pointer (some ⟨x, 0, .none⟩)] W fun e w' => e = .returned (.bool (p.pid == m)) ∧ Below W.heap.size W w' := by
  have hxl := lt_cell hx
  rw [Pr.l]
  have hc := (below1 W (.cells #[.int .i64 p.pid, .int .i64 p.st, .int .i64 p.par, .int .i64 p.ck, .int .i64 p.cn, .bool p.kil, .int .i32 p.sta] 33)).cell (p := ⟨x, 0, .none⟩) hxl
  rw [hx] at hc
  clear hx
  go_enter Try.func70, Try.ntmps70
  go_wp2
  go_ret
  exact ⟨rfl, below1 _ _⟩
/-- May the slot have that pid? -/
def cP (P : Nat → Pr) (nx : Int) (i : Nat) : Bool := if i = 0 then (P 0).pid == 1 else decide (1 ≤ (P i).pid) && decide ((P i).pid < nx) && (rnI (rnd (fun j => (P j).pid == (P i).pid) 0) == (i : Int))
set_option maxHeartbeats 2000000 in
theorem canHavePid_any (h : Tb w b P nx) (i : Nat) (hi : i < 64) : Calls Try.prog 66 #[.pointer (some ⟨b, 0, .none⟩), .int .i64 (i : Int)] w fun e w' => e = .returned (.bool (cP P nx i)) ∧ Below w.heap.size w w' := by
  have gi : (i : Int) < 64 := by omega
  have c0 := (h.cells i hi).1
  have hmf : ∀ (fn : Fn) (first cap : Array Value) (w : World), (Instr.makeFunc fn first cap).run Try.prog w = .ok (.func fn first cap) w := fun _ _ _ _ => rfl
  have HB : Hid (Below w.heap.size w (w.alloc (.cells #[.int .i64 (P i).pid] 3))) := below1 _ _
  have hsz : w.heap.size < (w.alloc (.cells #[.int .i64 (P i).pid] 3)).heap.size := by simp
  have HC : (w.alloc (.cells #[.int .i64 (P i).pid] 3)).cell? ⟨w.heap.size, 0, .none⟩ = some (.int .i64 (P i).pid) := by rw [World.cell?_alloc_at _ _ _ _ rfl]; rfl
  have HT : Hid (Tb (w.alloc (.cells #[.int .i64 (P i).pid] 3)) b P nx) := h.bel (below1 _ _)
  by_cases i0 : i = 0
  · subst i0
    have e : cP P nx 0 = ((P 0).pid == 1) := by rw [cP, if_pos rfl]
    rw [e]
    simp only [Nat.zero_mul] at c0
    clear h HT hsz HC e
    go_enter Try.func66, Try.ntmps66
    go_wp2
    go_ret
    exact ⟨rfl, HB.out⟩
  · have e : cP P nx i = (decide (1 ≤ (P i).pid) && decide ((P i).pid < nx) && (rnI (rnd (fun j => (P j).pid == (P i).pid) 0) == (i : Int))) := by rw [cP, if_neg i0]
    rw [e]
    have g0 : ((i : Int) == 0) = false := by simpa using i0
    have k2 := least_any HT.out 70 (fun args w => by kernel_rfl) [.pointer (some ⟨w.heap.size, 0, .none⟩)] (fun p => p.pid == (P i).pid) (fun W => W.cell? ⟨w.heap.size, 0, .none⟩ = some (.int .i64 (P i).pid)) HC (fun W W' hS hW => (hW.cell (p := ⟨w.heap.size, 0, .none⟩) hsz).trans hS) (fun p W hS => pid1_any (P i).pid w.heap.size p W hS)
    have KB : ∀ W, Below (w.alloc (.cells #[.int .i64 (P i).pid] 3)).heap.size (w.alloc (.cells #[.int .i64 (P i).pid] 3)) W → W.cell? ⟨w.heap.size, 0, .none⟩ = some (.int .i64 (P i).pid) ∧ W.cell? ⟨b, 448, .none⟩ = some (.int .i64 nx) ∧ Below w.heap.size w W := fun W hW => ⟨(hW.cell (p := ⟨w.heap.size, 0, .none⟩) hsz).trans HC, (Tb.bel HT.out hW).cn, HB.out.trans (hW.mono HB.out.size)⟩
    generalize rnI (rnd (fun j => (P j).pid == (P i).pid) 0) = r at *
    generalize (rnd (fun j => (P j).pid == (P i).pid) 0).isSome = rs at *
    generalize (P i).pid = pid at *
    clear h HT hsz HC HB e i0
    by_cases h1 : 1 ≤ pid
    · have q1 : decide (1 ≤ pid) = true := decide_eq_true h1
      by_cases h2 : pid < nx
      · have q2 : decide (pid < nx) = true := decide_eq_true h2
        rw [q1, q2]
        go_enter Try.func66, Try.ntmps66
        go_wp2_with fail
        refine k2.mono ?_
        rintro e w1 ⟨rfl, hb⟩
        obtain ⟨d0, d1, hB⟩ := KB w1 hb
        clear k2 hb KB c0
        go_wp2
        go_region
        all_goals go_wp2
        all_goals go_ret
        all_goals exact ⟨by simp, below_drw hB⟩
      · have q2 : decide (pid < nx) = false := decide_eq_false h2
        rw [q2]
        go_enter Try.func66, Try.ntmps66
        go_wp2_with fail
        refine k2.mono ?_
        rintro e w1 ⟨rfl, hb⟩
        obtain ⟨d0, d1, hB⟩ := KB w1 hb
        clear k2 hb KB c0
        go_wp2
        go_region
        all_goals go_wp2
        all_goals go_ret
        all_goals exact ⟨by simp, below_drw hB⟩
    · have q1 : decide (1 ≤ pid) = false := decide_eq_false h1
      rw [q1]
      go_enter Try.func66, Try.ntmps66
      go_wp2_with fail
      refine k2.mono ?_
      rintro e w1 ⟨rfl, hb⟩
      obtain ⟨d0, d1, hB⟩ := KB w1 hb
      clear k2 hb KB c0
      go_wp2
      go_region
      all_goals go_wp2
      all_goals go_ret
      all_goals exact ⟨by simp, below_drw hB⟩
/-- May the slot have that parent? -/
def cR (P : Nat → Pr) (i : Nat) : Bool := if i = 0 then (P 0).par == 0 else if 0 ≤ (P i).par ∧ (P i).par < 64 then (if (P (P i).par.toNat).st = 0 ∨ (P i).pid ≤ (P (P i).par.toNat).pid then false else !((P (P i).par.toNat).st == 3) || (P i).par == 0) else false
set_option maxHeartbeats 4000000 in
theorem canHaveParent_any (h : Tb w b P nx) (i : Nat) (hi : i < 64) : Calls Try.prog 67 #[.pointer (some ⟨b, 0, .none⟩), .int .i64 (i : Int)] w fun e w' => e = .returned (.bool (cR P i)) ∧ Below w.heap.size w w' := by
  have gi : (i : Int) < 64 := by omega
  obtain ⟨c0, c1, c2, c3, c4, c5, c6⟩ := h.cells i hi
  have HB : Hid (Below w.heap.size w (w.alloc (.cells (P i).l.toArray 33))) := below1 _ _
  have hcs := bx_cells w (P i) 33
  have HT : Hid (Tb (w.alloc (.cells (P i).l.toArray 33)) b P nx) := h.bel (below1 _ _)
  have hsz : w.heap.size < (w.alloc (.cells (P i).l.toArray 33)).heap.size := by simp
  have d0 := hcs 0 _ rfl
  have d2 := hcs 2 _ rfl
  have eW : w.alloc (.cells #[.int .i64 (P i).pid, .int .i64 (P i).st, .int .i64 (P i).par, .int .i64 (P i).ck, .int .i64 (P i).cn, .bool (P i).kil, .int .i32 (P i).sta] 33) = w.alloc (.cells (P i).l.toArray 33) := rfl
  by_cases i0 : i = 0
  · subst i0
    have e : cR P 0 = ((P 0).par == 0) := by rw [cR, if_pos rfl]
    rw [e]
    simp only [Nat.zero_mul, Nat.zero_add] at c0 c1 c2 c3 c4 c5 c6
    clear h HT hsz hcs e eW d0 d2
    go_enter Try.func67, Try.ntmps67
    go_wp2
    go_ret
    exact ⟨rfl, HB.out⟩
  have g0 : ((i : Int) == 0) = false := by simpa using i0
  have hne : b ≠ w.heap.size := by have := h.lt; omega
  by_cases hr : 0 ≤ (P i).par ∧ (P i).par < 64
  · obtain ⟨j, hj⟩ : ∃ j : Nat, (P i).par = j := ⟨(P i).par.toNat, by omega⟩
    have hj64 : j < 64 := by omega
    have gj : (j : Int) < 64 := by omega
    have e0 : cR P i = (if (P j).st = 0 ∨ (P i).pid ≤ (P j).pid then false else !((P j).st == 3) || (j : Int) == 0) := by rw [cR, if_neg i0, if_pos hr, hj, Int.toNat_natCast]
    have E0 : Hid (cR P i = (if (P j).st = 0 ∨ (P i).pid ≤ (P j).pid then false else !((P j).st == 3) || (j : Int) == 0)) := e0
    have k1 := at_in b j hj64
    rw [← hj] at k1
    obtain ⟨x0, x1, x2, x3, x4, x5, x6⟩ := HT.out.cells j hj64
    have k2 := isFree_any (P j)
    rw [Pr.l] at k2
    have KB : Hid (∀ W, Below (w.alloc (.cells (P i).l.toArray 33)).heap.size (w.alloc (.cells (P i).l.toArray 33)) W → Tb W b P nx ∧ Below w.heap.size w W ∧ W.cell? ⟨w.heap.size, 0, .none⟩ = some (.int .i64 (P i).pid) ∧ W.cell? ⟨w.heap.size, 2, .none⟩ = some (.int .i64 (P i).par)) := fun W hW =>
      ⟨Tb.bel HT.out hW, HB.out.trans (hW.mono HB.out.size), (hW.cell (p := ⟨w.heap.size, 0, .none⟩) hsz).trans d0, (hW.cell (p := ⟨w.heap.size, 2, .none⟩) hsz).trans d2⟩
    have HJ : Hid ((P i).par = j) := hj
    clear HT hcs hr i0 hsz h e0 hj
    go_enter Try.func67, Try.ntmps67
    go_upto_region 4 with fail
    clear eW c0 c1 c2 c3 c4 c5 c6
    generalize w.alloc (.cells (P i).l.toArray 33) = w1 at *
    have HX : Hid (∃ y, y = w.heap.size) := ⟨_, rfl⟩
    obtain ⟨y, hy⟩ := HX.out
    have HY : Hid (y = w.heap.size) := hy
    rw [← hy] at d0 d2 KB HB hne ⊢
    clear hy HX
    refine wp_region_held_drew (S := (fun W => W = w1.drew)) (by kernel_rfl) rfl (fun hHeld => ?_)
    refine wpAnyH_take (i := 0) (v := (.pointer (some ⟨b, 0, .none⟩))) rfl (by kernel_rfl) (by kernel_rfl) (by kernel_rfl) (fun _ _ _ h => h) (Or.inl ⟨by rfl, fun ww hSw => by (try dsimp only at hSw); go_simp⟩) (by assumption) ?_
    simp only [Act.put, List.setIfInBounds_toArray, List.set_cons_zero, List.set_cons_succ, List.getElem_toArray, List.getElem_cons_succ, List.getElem_cons_zero]
    refine wpAnyH_take (i := 1) (v := (.pointer (some ⟨b, 0, .none⟩))) rfl (by kernel_rfl) (by kernel_rfl) (by kernel_rfl) (fun _ _ _ h => h) (Or.inl ⟨by rfl, fun ww hSw => by (try dsimp only at hSw); go_simp⟩) (by assumption) ?_
    simp only [Act.put, List.setIfInBounds_toArray, List.set_cons_zero, List.set_cons_succ, List.getElem_toArray, List.getElem_cons_succ, List.getElem_cons_zero]
    refine wpAnyH_take (i := 2) (v := (.pointer (some ⟨b, 0, .none⟩))) rfl (by kernel_rfl) (by kernel_rfl) (by kernel_rfl) (fun _ _ _ h => h) (Or.inl ⟨by rfl, fun ww hSw => by (try dsimp only at hSw); go_simp⟩) (by assumption) ?_
    simp only [Act.put, List.setIfInBounds_toArray, List.set_cons_zero, List.set_cons_succ, List.getElem_toArray, List.getElem_cons_succ, List.getElem_cons_zero]
    refine wpAnyH_take (i := 3) (v := (.pointer (some ⟨y, 2, .none⟩))) rfl (by kernel_rfl) (by kernel_rfl) (by kernel_rfl) (fun _ _ _ h => h) (Or.inl ⟨by rfl, fun ww hSw => by (try dsimp only at hSw); go_simp⟩) (by assumption) ?_
    simp only [Act.put, List.setIfInBounds_toArray, List.set_cons_zero, List.set_cons_succ, List.getElem_toArray, List.getElem_cons_succ, List.getElem_cons_zero]
    refine wpAnyH_take (i := 4) (v := (.int .i64 (P i).par)) rfl (by kernel_rfl) (by kernel_rfl) (by kernel_rfl) (fun _ _ _ h => h) (Or.inl ⟨by rfl, fun ww hSw => by (try dsimp only at hSw); subst hSw; go_simp⟩) (by assumption) ?_
    simp only [Act.put, List.setIfInBounds_toArray, List.set_cons_zero, List.set_cons_succ, List.getElem_toArray, List.getElem_cons_succ, List.getElem_cons_zero]
    refine wpAnyH_ready (rs := [5]) (by kernel_rfl) (by simp) ?_
    refine AllReadyH.cons rfl (fun K hK => ?_) AllReadyH.nil
    have kk := k1 w1.drew
    go_simp
    refine kk.mono ?_
    rintro e w2 ⟨rfl, hw2⟩
    clear kk
    refine hK.out _ _ hw2 (fun hHeld => ?_)
    clear hK K
    try simp only [Act.put, List.setIfInBounds_toArray, List.set_cons_zero, List.set_cons_succ, List.getElem_toArray, List.getElem_cons_succ, List.getElem_cons_zero]
    refine wpAnyH_ready (rs := [6]) (by kernel_rfl) (by simp) ?_
    refine AllReadyH.cons rfl (fun K hK => ?_) AllReadyH.nil
    go_simp
    refine hK.out _ _ rfl (fun hHeld => ?_)
    clear hK K
    try simp only [Act.put, List.setIfInBounds_toArray, List.set_cons_zero, List.set_cons_succ, List.getElem_toArray, List.getElem_cons_succ, List.getElem_cons_zero]
    refine wpAnyH_done (by kernel_rfl) ?_ _
    clear hHeld
    have KD : Hid (∀ W, Below w1.heap.size w1.drew W → Tb W b P nx ∧ Below y w W ∧ W.cell? ⟨y, 0, .none⟩ = some (.int .i64 (P i).pid) ∧ W.cell? ⟨y, 2, .none⟩ = some (.int .i64 (P i).par)) := fun W hW => KB.out W ⟨hW.os, hW.tape, hW.output, hW.size, hW.block⟩
    clear KB k1 x0 x1 x2 x3 x4 x5 x6 d0 d2
    go_upto_region 5 with fail
    refine wp_region_held_drew (S := (fun W => Below w1.heap.size w1.drew W)) (by kernel_rfl) (below_drw (Below.refl _ _)) (fun hHeld => ?_)
    refine wpAnyH_take (i := 0) (v := (.pointer (some ⟨b, j * 7, .none⟩))) rfl (by kernel_rfl) (by kernel_rfl) (by kernel_rfl) (fun _ _ _ h => h) (Or.inl ⟨by rfl, fun ww hSw => by (try dsimp only at hSw); go_simp⟩) (by assumption) ?_
    simp only [Act.put, List.setIfInBounds_toArray, List.set_cons_zero, List.set_cons_succ, List.getElem_toArray, List.getElem_cons_succ, List.getElem_cons_zero]
    refine wpAnyH_take (i := 1) (v := (.bool false)) rfl (by kernel_rfl) (by kernel_rfl) (by kernel_rfl) (fun _ _ _ h => h) (Or.inl ⟨by rfl, fun ww hSw => by (try dsimp only at hSw); go_simp⟩) (by assumption) ?_
    simp only [Act.put, List.setIfInBounds_toArray, List.set_cons_zero, List.set_cons_succ, List.getElem_toArray, List.getElem_cons_succ, List.getElem_cons_zero]
    refine wpAnyH_take (i := 2) (v := (.bool false)) rfl (by kernel_rfl) (by kernel_rfl) (by kernel_rfl) (fun _ _ _ h => h) (Or.inl ⟨by rfl, fun ww hSw => by (try dsimp only at hSw); go_simp⟩) (by assumption) ?_
    simp only [Act.put, List.setIfInBounds_toArray, List.set_cons_zero, List.set_cons_succ, List.getElem_toArray, List.getElem_cons_succ, List.getElem_cons_zero]
    refine wpAnyH_take (i := 3) (v := (.pointer (some ⟨b, j * 7, .none⟩))) rfl (by kernel_rfl) (by kernel_rfl) (by kernel_rfl) (fun _ _ _ h => h) (Or.inl ⟨by rfl, fun ww hSw => by (try dsimp only at hSw); go_simp⟩) (by assumption) ?_
    simp only [Act.put, List.setIfInBounds_toArray, List.set_cons_zero, List.set_cons_succ, List.getElem_toArray, List.getElem_cons_succ, List.getElem_cons_zero]
    refine wpAnyH_take (i := 4) (v := (.pointer (some ⟨b, j * 7, .none⟩))) rfl (by kernel_rfl) (by kernel_rfl) (by kernel_rfl) (fun _ _ _ h => h) (Or.inl ⟨by rfl, fun ww hSw => by (try dsimp only at hSw); go_simp⟩) (by assumption) ?_
    simp only [Act.put, List.setIfInBounds_toArray, List.set_cons_zero, List.set_cons_succ, List.getElem_toArray, List.getElem_cons_succ, List.getElem_cons_zero]
    refine wpAnyH_take (i := 5) (v := (.agg #[.int .i64 (P j).pid, .int .i64 (P j).st, .int .i64 (P j).par, .int .i64 (P j).ck, .int .i64 (P j).cn, .bool (P j).kil, .int .i32 (P j).sta])) rfl (by kernel_rfl) (by kernel_rfl) (by kernel_rfl) (fun _ _ _ h => h) (Or.inl ⟨by rfl, fun ww hSw => by (try dsimp only at hSw); obtain ⟨x0, x1, x2, x3, x4, x5, x6⟩ := (KD.out ww hSw).1.cells j hj64; go_simp⟩) (by assumption) ?_
    simp only [Act.put, List.setIfInBounds_toArray, List.set_cons_zero, List.set_cons_succ, List.getElem_toArray, List.getElem_cons_succ, List.getElem_cons_zero]
    refine wpAnyH_ready (rs := [6]) (by kernel_rfl) (by simp) ?_
    refine AllReadyH.cons rfl (fun K hK => ?_) AllReadyH.nil
    have kk := k2 w1.drew.drew
    go_simp
    refine kk.mono ?_
    rintro e w3 ⟨rfl, hb3⟩
    have kS : Below w1.heap.size w1.drew w3 := hHeld.trans hb3
    clear kk hb3 hHeld
    refine hK.out _ _ kS (fun hHeld => ?_)
    clear hK K
    try simp only [Act.put, List.setIfInBounds_toArray, List.set_cons_zero, List.set_cons_succ, List.getElem_toArray, List.getElem_cons_succ, List.getElem_cons_zero]
    clear k2
    obtain ⟨x0, x1, x2, x3, x4, x5, x6⟩ := (KD.out w3 kS).1.cells j hj64
    have y0 := (KD.out w3 kS).2.2.1
    have y2 := (KD.out w3 kS).2.2.2
    by_cases hs : (P j).st = 0
    · have HE : Hid ((if (P j).st = 0 ∨ (P i).pid ≤ (P j).pid then false else !((P j).st == 3) || (j : Int) == 0) = false) := if_pos (.inl hs)
      have gs : ((P j).st == 0) = true := by simpa using hs
      rw [gs]
      clear hs
      refine wpAnyH_take (i := 7) (v := (.bool true)) rfl (by kernel_rfl) (by kernel_rfl) (by kernel_rfl) (fun _ _ _ h => h) (Or.inl ⟨by rfl, fun ww hSw => by (try dsimp only at hSw); go_simp⟩) (by assumption) ?_
      simp only [Act.put, List.setIfInBounds_toArray, List.set_cons_zero, List.set_cons_succ, List.getElem_toArray, List.getElem_cons_succ, List.getElem_cons_zero]
      refine wpAnyH_take (i := 8) (v := (.bool true)) rfl (by kernel_rfl) (by kernel_rfl) (by kernel_rfl) (fun _ _ _ h => h) (Or.inl ⟨by rfl, fun ww hSw => by (try dsimp only at hSw); go_simp⟩) (by assumption) ?_
      simp only [Act.put, List.setIfInBounds_toArray, List.set_cons_zero, List.set_cons_succ, List.getElem_toArray, List.getElem_cons_succ, List.getElem_cons_zero]
      refine wpAnyH_take (i := 9) (v := undef) rfl (by kernel_rfl) (by kernel_rfl) (by kernel_rfl) (fun _ _ _ h => h) (Or.inr ⟨by rfl, rfl⟩) (by assumption) ?_
      simp only [Act.put, List.setIfInBounds_toArray, List.set_cons_zero, List.set_cons_succ, List.getElem_toArray, List.getElem_cons_succ, List.getElem_cons_zero]
      refine wpAnyH_take (i := 10) (v := undef) rfl (by kernel_rfl) (by kernel_rfl) (by kernel_rfl) (fun _ _ _ h => h) (Or.inr ⟨by rfl, rfl⟩) (by assumption) ?_
      simp only [Act.put, List.setIfInBounds_toArray, List.set_cons_zero, List.set_cons_succ, List.getElem_toArray, List.getElem_cons_succ, List.getElem_cons_zero]
      refine wpAnyH_take (i := 11) (v := undef) rfl (by kernel_rfl) (by kernel_rfl) (by kernel_rfl) (fun _ _ _ h => h) (Or.inr ⟨by rfl, rfl⟩) (by assumption) ?_
      simp only [Act.put, List.setIfInBounds_toArray, List.set_cons_zero, List.set_cons_succ, List.getElem_toArray, List.getElem_cons_succ, List.getElem_cons_zero]
      refine wpAnyH_take (i := 12) (v := undef) rfl (by kernel_rfl) (by kernel_rfl) (by kernel_rfl) (fun _ _ _ h => h) (Or.inr ⟨by rfl, rfl⟩) (by assumption) ?_
      simp only [Act.put, List.setIfInBounds_toArray, List.set_cons_zero, List.set_cons_succ, List.getElem_toArray, List.getElem_cons_succ, List.getElem_cons_zero]
      refine wpAnyH_take (i := 13) (v := undef) rfl (by kernel_rfl) (by kernel_rfl) (by kernel_rfl) (fun _ _ _ h => h) (Or.inr ⟨by rfl, rfl⟩) (by assumption) ?_
      simp only [Act.put, List.setIfInBounds_toArray, List.set_cons_zero, List.set_cons_succ, List.getElem_toArray, List.getElem_cons_succ, List.getElem_cons_zero]
      refine wpAnyH_take (i := 14) (v := undef) rfl (by kernel_rfl) (by kernel_rfl) (by kernel_rfl) (fun _ _ _ h => h) (Or.inr ⟨by rfl, rfl⟩) (by assumption) ?_
      simp only [Act.put, List.setIfInBounds_toArray, List.set_cons_zero, List.set_cons_succ, List.getElem_toArray, List.getElem_cons_succ, List.getElem_cons_zero]
      refine wpAnyH_take (i := 15) (v := undef) rfl (by kernel_rfl) (by kernel_rfl) (by kernel_rfl) (fun _ _ _ h => h) (Or.inr ⟨by rfl, rfl⟩) (by assumption) ?_
      simp only [Act.put, List.setIfInBounds_toArray, List.set_cons_zero, List.set_cons_succ, List.getElem_toArray, List.getElem_cons_succ, List.getElem_cons_zero]
      refine wpAnyH_take (i := 16) (v := (.bool true)) rfl (by kernel_rfl) (by kernel_rfl) (by kernel_rfl) (fun _ _ _ h => h) (Or.inl ⟨by rfl, fun ww hSw => by (try dsimp only at hSw); go_simp⟩) (by assumption) ?_
      simp only [Act.put, List.setIfInBounds_toArray, List.set_cons_zero, List.set_cons_succ, List.getElem_toArray, List.getElem_cons_succ, List.getElem_cons_zero]
      refine wpAnyH_done (by kernel_rfl) ?_ _
      go_wp2
      go_ret
      exact ⟨by rw [E0.out, HE.out]; rfl, by rw [← HY.out]; exact (KD.out w3 kS).2.1⟩
    have gs : ((P j).st == 0) = false := by simpa using hs
    rw [gs]
    by_cases hp : (P i).pid ≤ (P j).pid
    · have HE : Hid ((if (P j).st = 0 ∨ (P i).pid ≤ (P j).pid then false else !((P j).st == 3) || (j : Int) == 0) = false) := if_pos (.inr hp)
      refine wpAnyH_take (i := 7) (v := (.bool false)) rfl (by kernel_rfl) (by kernel_rfl) (by kernel_rfl) (fun _ _ _ h => h) (Or.inl ⟨by rfl, fun ww hSw => by (try dsimp only at hSw); go_simp⟩) (by assumption) ?_
      simp only [Act.put, List.setIfInBounds_toArray, List.set_cons_zero, List.set_cons_succ, List.getElem_toArray, List.getElem_cons_succ, List.getElem_cons_zero]
      refine wpAnyH_take (i := 8) (v := (.bool false)) rfl (by kernel_rfl) (by kernel_rfl) (by kernel_rfl) (fun _ _ _ h => h) (Or.inl ⟨by rfl, fun ww hSw => by (try dsimp only at hSw); go_simp⟩) (by assumption) ?_
      simp only [Act.put, List.setIfInBounds_toArray, List.set_cons_zero, List.set_cons_succ, List.getElem_toArray, List.getElem_cons_succ, List.getElem_cons_zero]
      refine wpAnyH_take (i := 9) (v := (.pointer (some ⟨b, j * 7, .none⟩))) rfl (by kernel_rfl) (by kernel_rfl) (by kernel_rfl) (fun _ _ _ h => h) (Or.inl ⟨by rfl, fun ww hSw => by (try dsimp only at hSw); go_simp⟩) (by assumption) ?_
      simp only [Act.put, List.setIfInBounds_toArray, List.set_cons_zero, List.set_cons_succ, List.getElem_toArray, List.getElem_cons_succ, List.getElem_cons_zero]
      refine wpAnyH_take (i := 10) (v := (.pointer (some ⟨b, j * 7, .none⟩))) rfl (by kernel_rfl) (by kernel_rfl) (by kernel_rfl) (fun _ _ _ h => h) (Or.inl ⟨by rfl, fun ww hSw => by (try dsimp only at hSw); go_simp⟩) (by assumption) ?_
      simp only [Act.put, List.setIfInBounds_toArray, List.set_cons_zero, List.set_cons_succ, List.getElem_toArray, List.getElem_cons_succ, List.getElem_cons_zero]
      refine wpAnyH_take (i := 11) (v := (.pointer (some ⟨b, j * 7, .none⟩))) rfl (by kernel_rfl) (by kernel_rfl) (by kernel_rfl) (fun _ _ _ h => h) (Or.inl ⟨by rfl, fun ww hSw => by (try dsimp only at hSw); go_simp⟩) (by assumption) ?_
      simp only [Act.put, List.setIfInBounds_toArray, List.set_cons_zero, List.set_cons_succ, List.getElem_toArray, List.getElem_cons_succ, List.getElem_cons_zero]
      refine wpAnyH_take (i := 12) (v := (.int .i64 (P j).pid)) rfl (by kernel_rfl) (by kernel_rfl) (by kernel_rfl) (fun _ _ _ h => h) (Or.inl ⟨by rfl, fun ww hSw => by (try dsimp only at hSw); have q0 := ((KD.out ww hSw).1.cells j hj64).1; go_simp⟩) (by assumption) ?_
      simp only [Act.put, List.setIfInBounds_toArray, List.set_cons_zero, List.set_cons_succ, List.getElem_toArray, List.getElem_cons_succ, List.getElem_cons_zero]
      refine wpAnyH_take (i := 13) (v := (.pointer (some ⟨y, 0, .none⟩))) rfl (by kernel_rfl) (by kernel_rfl) (by kernel_rfl) (fun _ _ _ h => h) (Or.inl ⟨by rfl, fun ww hSw => by (try dsimp only at hSw); go_simp⟩) (by assumption) ?_
      simp only [Act.put, List.setIfInBounds_toArray, List.set_cons_zero, List.set_cons_succ, List.getElem_toArray, List.getElem_cons_succ, List.getElem_cons_zero]
      refine wpAnyH_take (i := 14) (v := (.int .i64 (P i).pid)) rfl (by kernel_rfl) (by kernel_rfl) (by kernel_rfl) (fun _ _ _ h => h) (Or.inl ⟨by rfl, fun ww hSw => by (try dsimp only at hSw); have q0 := (KD.out ww hSw).2.2.1; go_simp⟩) (by assumption) ?_
      simp only [Act.put, List.setIfInBounds_toArray, List.set_cons_zero, List.set_cons_succ, List.getElem_toArray, List.getElem_cons_succ, List.getElem_cons_zero]
      refine wpAnyH_take (i := 15) (v := (.bool true)) rfl (by kernel_rfl) (by kernel_rfl) (by kernel_rfl) (fun _ _ _ h => h) (Or.inl ⟨by rfl, fun ww hSw => by (try dsimp only at hSw); go_simp⟩) (by assumption) ?_
      simp only [Act.put, List.setIfInBounds_toArray, List.set_cons_zero, List.set_cons_succ, List.getElem_toArray, List.getElem_cons_succ, List.getElem_cons_zero]
      refine wpAnyH_take (i := 16) (v := (.bool true)) rfl (by kernel_rfl) (by kernel_rfl) (by kernel_rfl) (fun _ _ _ h => h) (Or.inl ⟨by rfl, fun ww hSw => by (try dsimp only at hSw); go_simp⟩) (by assumption) ?_
      simp only [Act.put, List.setIfInBounds_toArray, List.set_cons_zero, List.set_cons_succ, List.getElem_toArray, List.getElem_cons_succ, List.getElem_cons_zero]
      refine wpAnyH_done (by kernel_rfl) ?_ _
      go_wp2
      go_ret
      exact ⟨by rw [E0.out, HE.out]; rfl, by rw [← HY.out]; exact (KD.out w3 kS).2.1⟩
    · have HE : Hid ((if (P j).st = 0 ∨ (P i).pid ≤ (P j).pid then false else !((P j).st == 3) || (j : Int) == 0) = (!((P j).st == 3) || (P i).par == 0)) := by rw [Hid, if_neg (fun x => x.elim hs hp), HJ.out]
      refine wpAnyH_take (i := 7) (v := (.bool false)) rfl (by kernel_rfl) (by kernel_rfl) (by kernel_rfl) (fun _ _ _ h => h) (Or.inl ⟨by rfl, fun ww hSw => by (try dsimp only at hSw); go_simp⟩) (by assumption) ?_
      simp only [Act.put, List.setIfInBounds_toArray, List.set_cons_zero, List.set_cons_succ, List.getElem_toArray, List.getElem_cons_succ, List.getElem_cons_zero]
      refine wpAnyH_take (i := 8) (v := (.bool false)) rfl (by kernel_rfl) (by kernel_rfl) (by kernel_rfl) (fun _ _ _ h => h) (Or.inl ⟨by rfl, fun ww hSw => by (try dsimp only at hSw); go_simp⟩) (by assumption) ?_
      simp only [Act.put, List.setIfInBounds_toArray, List.set_cons_zero, List.set_cons_succ, List.getElem_toArray, List.getElem_cons_succ, List.getElem_cons_zero]
      refine wpAnyH_take (i := 9) (v := (.pointer (some ⟨b, j * 7, .none⟩))) rfl (by kernel_rfl) (by kernel_rfl) (by kernel_rfl) (fun _ _ _ h => h) (Or.inl ⟨by rfl, fun ww hSw => by (try dsimp only at hSw); go_simp⟩) (by assumption) ?_
      simp only [Act.put, List.setIfInBounds_toArray, List.set_cons_zero, List.set_cons_succ, List.getElem_toArray, List.getElem_cons_succ, List.getElem_cons_zero]
      refine wpAnyH_take (i := 10) (v := (.pointer (some ⟨b, j * 7, .none⟩))) rfl (by kernel_rfl) (by kernel_rfl) (by kernel_rfl) (fun _ _ _ h => h) (Or.inl ⟨by rfl, fun ww hSw => by (try dsimp only at hSw); go_simp⟩) (by assumption) ?_
      simp only [Act.put, List.setIfInBounds_toArray, List.set_cons_zero, List.set_cons_succ, List.getElem_toArray, List.getElem_cons_succ, List.getElem_cons_zero]
      refine wpAnyH_take (i := 11) (v := (.pointer (some ⟨b, j * 7, .none⟩))) rfl (by kernel_rfl) (by kernel_rfl) (by kernel_rfl) (fun _ _ _ h => h) (Or.inl ⟨by rfl, fun ww hSw => by (try dsimp only at hSw); go_simp⟩) (by assumption) ?_
      simp only [Act.put, List.setIfInBounds_toArray, List.set_cons_zero, List.set_cons_succ, List.getElem_toArray, List.getElem_cons_succ, List.getElem_cons_zero]
      refine wpAnyH_take (i := 12) (v := (.int .i64 (P j).pid)) rfl (by kernel_rfl) (by kernel_rfl) (by kernel_rfl) (fun _ _ _ h => h) (Or.inl ⟨by rfl, fun ww hSw => by (try dsimp only at hSw); have q0 := ((KD.out ww hSw).1.cells j hj64).1; go_simp⟩) (by assumption) ?_
      simp only [Act.put, List.setIfInBounds_toArray, List.set_cons_zero, List.set_cons_succ, List.getElem_toArray, List.getElem_cons_succ, List.getElem_cons_zero]
      refine wpAnyH_take (i := 13) (v := (.pointer (some ⟨y, 0, .none⟩))) rfl (by kernel_rfl) (by kernel_rfl) (by kernel_rfl) (fun _ _ _ h => h) (Or.inl ⟨by rfl, fun ww hSw => by (try dsimp only at hSw); go_simp⟩) (by assumption) ?_
      simp only [Act.put, List.setIfInBounds_toArray, List.set_cons_zero, List.set_cons_succ, List.getElem_toArray, List.getElem_cons_succ, List.getElem_cons_zero]
      refine wpAnyH_take (i := 14) (v := (.int .i64 (P i).pid)) rfl (by kernel_rfl) (by kernel_rfl) (by kernel_rfl) (fun _ _ _ h => h) (Or.inl ⟨by rfl, fun ww hSw => by (try dsimp only at hSw); have q0 := (KD.out ww hSw).2.2.1; go_simp⟩) (by assumption) ?_
      simp only [Act.put, List.setIfInBounds_toArray, List.set_cons_zero, List.set_cons_succ, List.getElem_toArray, List.getElem_cons_succ, List.getElem_cons_zero]
      refine wpAnyH_take (i := 15) (v := (.bool false)) rfl (by kernel_rfl) (by kernel_rfl) (by kernel_rfl) (fun _ _ _ h => h) (Or.inl ⟨by rfl, fun ww hSw => by (try dsimp only at hSw); go_simp⟩) (by assumption) ?_
      simp only [Act.put, List.setIfInBounds_toArray, List.set_cons_zero, List.set_cons_succ, List.getElem_toArray, List.getElem_cons_succ, List.getElem_cons_zero]
      refine wpAnyH_take (i := 16) (v := (.bool false)) rfl (by kernel_rfl) (by kernel_rfl) (by kernel_rfl) (fun _ _ _ h => h) (Or.inl ⟨by rfl, fun ww hSw => by (try dsimp only at hSw); go_simp⟩) (by assumption) ?_
      simp only [Act.put, List.setIfInBounds_toArray, List.set_cons_zero, List.set_cons_succ, List.getElem_toArray, List.getElem_cons_succ, List.getElem_cons_zero]
      refine wpAnyH_done (by kernel_rfl) ?_ _
      have HF : Hid (Below y w w3) := (KD.out w3 kS).2.1
      by_cases h3 : (P j).st = 3
      · have g3 : ((P j).st == 3) = true := by simpa using h3
        have g4 : ((P j).st != 3) = false := by simpa using h3
        have G3 : Hid (((P j).st == 3) = true) := g3
        clear h3
        go_wp2
        go_ret
        exact ⟨by rw [E0.out, HE.out, G3.out]; simp, by rw [← HY.out]; exact HF.out⟩
      · have g3 : ((P j).st == 3) = false := by simpa using h3
        have g4 : ((P j).st != 3) = true := by simpa using h3
        have G3 : Hid (((P j).st == 3) = false) := g3
        go_wp2
        go_ret
        exact ⟨by rw [E0.out, HE.out, G3.out]; simp, by rw [← HY.out]; exact HF.out⟩
  · have e : cR P i = false := by rw [cR, if_neg i0, if_neg hr]
    rw [e]
    have k1 := at_out b (P i).par (by omega)
    clear HT hcs hr hsz h e
    go_enter Try.func67, Try.ntmps67
    go_upto_region 4 with fail
    clear eW c0 c1 c2 c3 c4 c5 c6
    generalize w.alloc (.cells (P i).l.toArray 33) = w1 at *
    have HX : Hid (∃ y, y = w.heap.size) := ⟨_, rfl⟩
    obtain ⟨y, hy⟩ := HX.out
    have HY : Hid (y = w.heap.size) := hy
    rw [← hy] at d0 d2 ⊢
    clear hy HX
    refine wp_region_held_drew (S := (fun W => W = w1.drew)) (by kernel_rfl) rfl (fun hHeld => ?_)
    refine wpAnyH_take (i := 0) (v := (.pointer (some ⟨b, 0, .none⟩))) rfl (by kernel_rfl) (by kernel_rfl) (by kernel_rfl) (fun _ _ _ h => h) (Or.inl ⟨by rfl, fun ww hSw => by (try dsimp only at hSw); go_simp⟩) (by assumption) ?_
    simp only [Act.put, List.setIfInBounds_toArray, List.set_cons_zero, List.set_cons_succ, List.getElem_toArray, List.getElem_cons_succ, List.getElem_cons_zero]
    refine wpAnyH_take (i := 1) (v := (.pointer (some ⟨b, 0, .none⟩))) rfl (by kernel_rfl) (by kernel_rfl) (by kernel_rfl) (fun _ _ _ h => h) (Or.inl ⟨by rfl, fun ww hSw => by (try dsimp only at hSw); go_simp⟩) (by assumption) ?_
    simp only [Act.put, List.setIfInBounds_toArray, List.set_cons_zero, List.set_cons_succ, List.getElem_toArray, List.getElem_cons_succ, List.getElem_cons_zero]
    refine wpAnyH_take (i := 2) (v := (.pointer (some ⟨b, 0, .none⟩))) rfl (by kernel_rfl) (by kernel_rfl) (by kernel_rfl) (fun _ _ _ h => h) (Or.inl ⟨by rfl, fun ww hSw => by (try dsimp only at hSw); go_simp⟩) (by assumption) ?_
    simp only [Act.put, List.setIfInBounds_toArray, List.set_cons_zero, List.set_cons_succ, List.getElem_toArray, List.getElem_cons_succ, List.getElem_cons_zero]
    refine wpAnyH_take (i := 3) (v := (.pointer (some ⟨y, 2, .none⟩))) rfl (by kernel_rfl) (by kernel_rfl) (by kernel_rfl) (fun _ _ _ h => h) (Or.inl ⟨by rfl, fun ww hSw => by (try dsimp only at hSw); go_simp⟩) (by assumption) ?_
    simp only [Act.put, List.setIfInBounds_toArray, List.set_cons_zero, List.set_cons_succ, List.getElem_toArray, List.getElem_cons_succ, List.getElem_cons_zero]
    refine wpAnyH_take (i := 4) (v := (.int .i64 (P i).par)) rfl (by kernel_rfl) (by kernel_rfl) (by kernel_rfl) (fun _ _ _ h => h) (Or.inl ⟨by rfl, fun ww hSw => by (try dsimp only at hSw); subst hSw; go_simp⟩) (by assumption) ?_
    simp only [Act.put, List.setIfInBounds_toArray, List.set_cons_zero, List.set_cons_succ, List.getElem_toArray, List.getElem_cons_succ, List.getElem_cons_zero]
    refine wpAnyH_ready (rs := [5]) (by kernel_rfl) (by simp) ?_
    refine AllReadyH.cons rfl (fun K hK => ?_) AllReadyH.nil
    have kk := k1 w1.drew
    go_simp
    refine kk.mono ?_
    rintro e w2 ⟨rfl, hw2⟩
    clear kk
    refine hK.out _ _ hw2 (fun hHeld => ?_)
    clear hK K
    try simp only [Act.put, List.setIfInBounds_toArray, List.set_cons_zero, List.set_cons_succ, List.getElem_toArray, List.getElem_cons_succ, List.getElem_cons_zero]
    refine wpAnyH_ready (rs := [6]) (by kernel_rfl) (by simp) ?_
    refine AllReadyH.cons rfl (fun K hK => ?_) AllReadyH.nil
    go_simp
    refine hK.out _ _ rfl (fun hHeld => ?_)
    clear hK K
    try simp only [Act.put, List.setIfInBounds_toArray, List.set_cons_zero, List.set_cons_succ, List.getElem_toArray, List.getElem_cons_succ, List.getElem_cons_zero]
    refine wpAnyH_done (by kernel_rfl) ?_ _
    clear hHeld
    go_wp2
    go_region
    all_goals go_wp2
    all_goals go_ret
    all_goals exact ⟨rfl, below_drw (below_drw HB.out)⟩
end
end Go.Proofs.Ytnlbomggadflmab
