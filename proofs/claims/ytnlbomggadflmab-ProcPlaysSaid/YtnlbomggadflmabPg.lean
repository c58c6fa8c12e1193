import Derived.Test.YtnlbomggadflmabPf
namespace Go.Proofs.Ytnlbomggadflmab
open Go.RowKit
set_option linter.unusedVariables false
set_option linter.unusedSimpArgs false
set_option maxRecDepth 100000
/-- The children of a slot are slot 0's. -/
def adop (A : Nat → Pr) (s : Int) : Nat → Pr := fun i => if chd s i (A i) then { A i with par := 0 } else A i
def adoZ (A : Nat → Pr) (s : Int) (n : Nat) : Bool := (List.range n).any fun i => chd s i (A i) && (A i).st == 3
theorem adoZ_succ (A : Nat → Pr) (s : Int) (n : Nat) : adoZ A s (n + 1) = (adoZ A s n || (chd s n (A n) && (A n).st == 3)) := by
  simp [adoZ, List.range_succ]
section
variable {w : World} {b : Nat} {P : Nat → Pr} {nx : Int}
set_option maxHeartbeats 2000000 in
theorem end1_any {A : Nat → Pr} (h : Tb w b A nx) (i : Nat) (hi : i < 64) (x : Nat) (z : Bool) (hx : w.cell? ⟨x, 0, .none⟩ = some (.bool z)) (hf : w.frozen? ⟨x, 0, .none⟩ = false) (hne : x ≠ b) : Calls Try.prog 57 #[.int .i64 (i : Int), .pointer (some ⟨b, i * 7, .none⟩), .pointer (some ⟨x, 0, .none⟩)] w fun e w' => e = .returned (.tuple #[]) ∧ w' = (w.setCell ⟨b, i * 7 + 2, .none⟩ (.int .i64 0)).setCell ⟨x, 0, .none⟩ (.bool (z || (A i).st == 3)) := by
  obtain ⟨c0, c1, c2, c3, c4, c5, c6⟩ := h.cells i hi
  have f2 := h.fr (i * 7 + 2) (by omega)
  have hne2 : b ≠ x := fun e => hne e.symm
  clear h
  cases z
  · go_enter Try.func57, Try.ntmps57
    go_wp2
    go_end0
    exact ⟨rfl, rfl⟩
  · go_enter Try.func57, Try.ntmps57
    go_wp2
    go_end0
    exact ⟨rfl, rfl⟩
/-- End: the answer, the slots. -/
def en1 (P : Nat → Pr) (s : Int) (sta : Int) : Nat → Pr := up P s.toNat { P s.toNat with st := 3, ck := 0, cn := 0, sta := sta }
def enE (P : Nat → Pr) (s : Int) : Int := if isP P s then (if (P s.toNat).st = 3 then 265 else 0) else 260
def enP (P : Nat → Pr) (s sta : Int) : Nat → Pr := if enE P s = 0 then (if s = 0 then en1 P s sta else adop (en1 P s sta) s) else P
def enZ (P : Nat → Pr) (s sta : Int) : Bool := if enE P s = 0 ∧ s ≠ 0 then adoZ (en1 P s sta) s 64 else false
structure EndJ (w0 : World) (b x : Nat) (A : Nat → Pr) (s : Int) (nx : Int) (i : Nat) (W : World) : Prop where
  tb : Tb W b (part_ i (adop A s) A) nx
  cx : W.cell? ⟨x, 0, .none⟩ = some (.bool (adoZ A s i))
  fx : W.frozen? ⟨x, 0, .none⟩ = false
  tr : Trn b w0 W
theorem frozen_set (w : World) (a : Addr) (v : Value) (p : Addr) : (w.setCell a v).frozen? p = w.frozen? p := World.frozen?_setCell ..
theorem Trn.fresh {b x : Nat} {w0 W : World} (h : Trn b w0 W) (hx : w0.heap.size ≤ x) (o : Nat) (v : Value) : Trn b w0 (W.setCell ⟨x, o, .none⟩ v) := by
  have t := Trn.setCell x o v W
  exact ⟨t.os.trans h.os, t.tape.trans h.tape, t.output.trans h.output, Nat.le_trans h.size t.size, fun k hk hb => (t.block k (Nat.lt_of_lt_of_le hk h.size) (by omega)).trans (h.block k hk hb)⟩
set_option maxHeartbeats 2000000 in
theorem end_each {w0 : World} (A : Nat → Pr) (s : Int) (x : Nat) (hne : x ≠ b) (hx0 : w0.heap.size ≤ x) (h : EndJ w0 b x A s nx 0 w) : Calls Try.prog 56 #[.pointer (some ⟨b, 0, .none⟩), .int .i64 s, .func (.func 57) #[] #[.pointer (some ⟨x, 0, .none⟩)]] w fun e w' => e = .returned (.tuple #[]) ∧ EndJ w0 b x A s nx 64 w' := by
  refine each_any s 57 (fun args w => by kernel_rfl) [.pointer (some ⟨x, 0, .none⟩)] (fun i => part_ i (adop A s) A) (EndJ w0 b x A s nx) (fun i W _ J => J.tb) ?_ ?_ ?_ h
  · intro i W W' _ J hW
    have hl := lt_cell J.cx
    exact ⟨J.tb.bel hW, (hW.cell (p := ⟨x, 0, .none⟩) hl).trans J.cx, (hW.frozen (p := ⟨x, 0, .none⟩) hl).trans J.fx, J.tr.trans (Trn.ofBelow hW)⟩
  · intro i W hi J hc
    rw [part_at] at hc
    refine ⟨?_, ?_, J.fx, J.tr⟩
    · rw [part_same _ _ _ (by rw [adop, hc]; rfl)]; exact J.tb
    · rw [adoZ_succ, hc, Bool.false_and, Bool.or_false]; exact J.cx
  · intro i W hi J hc
    rw [part_at] at hc
    refine (end1_any J.tb i hi x _ J.cx J.fx hne).mono ?_
    rintro e w' ⟨rfl, rfl⟩
    have T1 := J.tb.set i 2 hi (by omega) (.int .i64 0) { A i with par := 0 } (by rw [part_at]; rfl)
    have e1 : part_ (i + 1) (adop A s) A = up (part_ i (adop A s) A) i { A i with par := 0 } := by rw [part_up, adop, hc]; rfl
    have t1 : Trn b W (W.setCell ⟨b, i * 7 + 2, .none⟩ (.int .i64 0)) := Trn.setCell _ _ _ _
    have hl := lt_cell J.cx
    have cx1 := (t1.cell (p := ⟨x, 0, .none⟩) hl hne).trans J.cx
    refine ⟨rfl, ?_, ?_, ?_, ?_⟩
    · rw [e1]
      exact (Trn.setCell x 0 _ _).tb T1 (fun e => hne e.symm)
    · rw [adoZ_succ, hc, Bool.true_and, World.cell?_setCell_same' _ _ _ (by rw [cx1]; rfl), part_at]
    · rw [frozen_set, frozen_set]; exact J.fx
    · exact (J.tr.trans t1).fresh hx0 _ _
theorem tb_end (h : Tb w b P nx) (n : Nat) (g : n < 64) (sta : Int) : Tb ((((w.setCell ⟨b, n * 7 + 1, .none⟩ (.int .i64 3)).setCell ⟨b, n * 7 + 3, .none⟩ (.int .i64 0)).setCell ⟨b, n * 7 + 4, .none⟩ (.int .i64 0)).setCell ⟨b, n * 7 + 6, .none⟩ (.int .i32 sta)) b (en1 P n sta) nx := by
  have T1 := h.set n 1 g (by omega) (.int .i64 3) { P n with st := 3 } rfl
  have T2 := T1.set n 3 g (by omega) (.int .i64 0) { P n with st := 3, ck := 0 } (by rw [up_same]; rfl)
  have T3 := T2.set n 4 g (by omega) (.int .i64 0) { P n with st := 3, ck := 0, cn := 0 } (by rw [up_same]; rfl)
  have T4 := T3.set n 6 g (by omega) (.int .i32 sta) { P n with st := 3, ck := 0, cn := 0, sta := sta } (by rw [up_same]; rfl)
  simp only [up_up] at T4
  rw [en1, Int.toNat_natCast]
  exact T4
set_option maxHeartbeats 2000000 in
theorem end_any (h : Tb w b P nx) (hn : 1 ≤ nx) (s sta : Int) : Calls Try.prog 26 #[.pointer (some ⟨b, 0, .none⟩), .int .i64 s, .int .i32 sta] w fun e w' => e = .returned (.tuple #[.bool (enZ P s sta), .int .i64 (enE P s)]) ∧ Tb w' b (enP P s sta) nx ∧ Trn b w w' := by
  have hmf : ∀ (fn : Fn) (first cap : Array Value) (w : World), (Instr.makeFunc fn first cap).run Try.prog w = .ok (.func fn first cap) w := fun _ _ _ _ => rfl
  by_cases hp : isP P s
  · have hp' := hp
    obtain ⟨h1, h2, h3⟩ := hp
    obtain ⟨n, rfl⟩ : ∃ n : Nat, s = n := ⟨s.toNat, by omega⟩
    rw [Int.toNat_natCast] at h3
    have g : n < 64 := by omega
    have H : Hid (Tb w b P nx) := h
    have k1 := get_in h hn n (by omega) h3
    by_cases h4 : (P n).st = 3
    · have e1 : enE P n = 265 := by rw [enE, if_pos hp', Int.toNat_natCast, if_pos h4]
      have e2 : enP P n sta = P := by rw [enP, e1]; rfl
      have e3 : enZ P n sta = false := by rw [enZ, e1]; rfl
      rw [e1, e2, e3]
      have K : ∀ W, Below w.heap.size w W → W.cell? ⟨b, n * 7 + 1, .none⟩ = some (.int .i64 3) := fun W hW => by have := ((h.bel hW).cells n g).2.1; rw [h4] at this; exact this
      clear e1 e2 e3 h1 h2 h3 h4 hp' h
      go_enter Try.func26, Try.ntmps26
      go_wp2_with fail
      refine k1.mono ?_
      rintro e w1 ⟨rfl, hb⟩
      have c1 := K w1 hb
      clear K k1
      go_wp2
      go_ret2
      exact ⟨rfl, Tb.bel H.out hb, Trn.ofBelow hb⟩
    have e1 : enE P n = 0 := by rw [enE, if_pos hp', Int.toNat_natCast, if_neg h4]
    have g4 : ((P n).st == 3) = false := by simpa using h4
    by_cases h5 : n = 0
    · subst h5
      have e2 : enP P ((0 : Nat) : Int) sta = en1 P ((0 : Nat) : Int) sta := by rw [enP, e1]; rfl
      have e3 : enZ P ((0 : Nat) : Int) sta = false := by rw [enZ, if_neg (fun x => x.2 rfl)]
      rw [e1, e2, e3]
      clear e1 e2 e3 h1 h2 h3 h4 hp' h
      go_enter Try.func26, Try.ntmps26
      go_wp2_with fail
      refine k1.mono ?_
      rintro e w1 ⟨rfl, hb⟩
      have HT : Hid (Tb w1 b P nx) := Tb.bel H.out hb
      have HR : Hid (Trn b w w1) := Trn.ofBelow hb
      obtain ⟨c0, c1, c2, c3, c4, c5, c6⟩ := HT.out.cells 0 g
      have f1 := HT.out.fr (0 * 7 + 1) (by omega)
      have f3 := HT.out.fr (0 * 7 + 3) (by omega)
      have f4 := HT.out.fr (0 * 7 + 4) (by omega)
      have f6 := HT.out.fr (0 * 7 + 6) (by omega)
      clear k1 hb
      go_wp2
      go_ret2
      refine ⟨rfl, tb_end HT.out 0 g sta, ?_⟩
      exact (((HR.out.trans (Trn.setCell _ _ _ _)).trans (Trn.setCell _ _ _ _)).trans (Trn.setCell _ _ _ _)).trans (Trn.setCell _ _ _ _)
    · have h6 : (n : Int) ≠ 0 := by omega
      have g6 : ((n : Int) == 0) = false := by simpa using h6
      have e2 : enP P (n : Int) sta = adop (en1 P n sta) n := by rw [enP, e1, if_pos rfl, if_neg h6]
      have e3 : enZ P (n : Int) sta = adoZ (en1 P n sta) n 64 := by rw [enZ, if_pos ⟨e1, h6⟩]
      rw [e1, e2, e3]
      clear e1 e2 e3 h1 h2 h3 h4 hp' h h5 h6
      go_enter Try.func26, Try.ntmps26
      go_wp2_with fail
      refine k1.mono ?_
      rintro e w1 ⟨rfl, hb⟩
      have HT : Hid (Tb w1 b P nx) := Tb.bel H.out hb
      have HR : Hid (Trn b w w1) := Trn.ofBelow hb
      obtain ⟨c0, c1, c2, c3, c4, c5, c6⟩ := HT.out.cells n g
      have f1 := HT.out.fr (n * 7 + 1) (by omega)
      have f3 := HT.out.fr (n * 7 + 3) (by omega)
      have f4 := HT.out.fr (n * 7 + 4) (by omega)
      have f6 := HT.out.fr (n * 7 + 6) (by omega)
      have HT2 : Hid (Tb ((((w1.setCell ⟨b, n * 7 + 1, .none⟩ (.int .i64 3)).setCell ⟨b, n * 7 + 3, .none⟩ (.int .i64 0)).setCell ⟨b, n * 7 + 4, .none⟩ (.int .i64 0)).setCell ⟨b, n * 7 + 6, .none⟩ (.int .i32 sta)) b (en1 P n sta) nx) := tb_end HT.out n g sta
      have HR2 : Hid (Trn b w ((((w1.setCell ⟨b, n * 7 + 1, .none⟩ (.int .i64 3)).setCell ⟨b, n * 7 + 3, .none⟩ (.int .i64 0)).setCell ⟨b, n * 7 + 4, .none⟩ (.int .i64 0)).setCell ⟨b, n * 7 + 6, .none⟩ (.int .i32 sta))) := (((HR.out.trans (Trn.setCell _ _ _ _)).trans (Trn.setCell _ _ _ _)).trans (Trn.setCell _ _ _ _)).trans (Trn.setCell _ _ _ _)
      clear k1 hb
      go_upto_region 9 with fail
      clear c0 c1 c2 c3 c4 c5 c6 f1 f3 f4 f6 HT HR
      generalize (((w1.setCell ⟨b, n * 7 + 1, .none⟩ (.int .i64 3)).setCell ⟨b, n * 7 + 3, .none⟩ (.int .i64 0)).setCell ⟨b, n * 7 + 4, .none⟩ (.int .i64 0)).setCell ⟨b, n * 7 + 6, .none⟩ (.int .i32 sta) = w2 at *
      have hlt := HT2.out.lt
      have HJ : Hid (EndJ w b w2.heap.size (en1 P n sta) n nx 0 (w2.alloc (.cells #[.bool false] 4))) := by
        have t1 : Trn b w (w2.alloc (.cells #[.bool false] 4)) := HR2.out.trans (Trn.ofBelow (below1 _ _))
        refine ⟨?_, ?_, ?_, ?_⟩
        · rw [part_0]
          exact HT2.out.bel (below1 _ _)
        · rw [World.cell?_alloc_at _ _ _ _ rfl]; rfl
        · exact World.frozen?_alloc_new _ _ _ _
        · exact t1
      have k2 := end_each (en1 P n sta) n w2.heap.size (by omega) HR2.out.size HJ.out
      go_wp2_with fail
      refine k2.mono ?_
      rintro e w3 ⟨rfl, J⟩
      have cx := J.cx
      have HJ2 : Hid (Tb w3 b (adop (en1 P n sta) n) nx ∧ Trn b w w3) := ⟨J.tb.congr (fun i hi => if_pos hi), J.tr⟩
      clear J k2 HJ
      go_wp2
      go_ret2
      exact ⟨rfl, HJ2.out.1, HJ2.out.2⟩
  · have e1 : enE P s = 260 := by rw [enE, if_neg hp]
    have e2 : enP P s sta = P := by rw [enP, e1]; rfl
    have e3 : enZ P s sta = false := by rw [enZ, e1]; rfl
    have k1 := get_no h hn s hp
    have H : Hid (Tb w b P nx) := h
    rw [e1, e2, e3]
    clear h e1 e2 e3 hp
    go_enter Try.func26, Try.ntmps26
    go_wp2_with fail
    refine k1.mono ?_
    rintro e w1 ⟨rfl, hb⟩
    clear k1
    go_wp2
    go_ret2
    exact ⟨rfl, Tb.bel H.out hb, Trn.ofBelow hb⟩
/-- Zombie: is there a child; the least zombie. -/
def zoA (P : Nat → Pr) (par : Int) (n : Nat) : Bool := (List.range n).any fun i => chd par i (P i)
def zoS (P : Nat → Pr) (par : Int) (n : Nat) : Int := rnI ((List.range n).find? fun i => chd par i (P i) && (P i).st == 3)
theorem zoA_succ (P : Nat → Pr) (par : Int) (n : Nat) : zoA P par (n + 1) = (zoA P par n || chd par n (P n)) := by simp [zoA, List.range_succ]
theorem or_pick (o : Option Nat) (t : Bool) (n : Nat) : rnI (o.or (if t = true then some n else none)) = if rnI o < 0 ∧ t = true then (n : Int) else rnI o := by
  cases o with
  | none => cases t <;> simp [rnI]
  | some k =>
    have : ¬ ((k : Int) < 0) := by omega
    cases t
    · simp [rnI]
    · simp [rnI]; omega
theorem zoS_succ (P : Nat → Pr) (par : Int) (n : Nat) : zoS P par (n + 1) = if zoS P par n < 0 ∧ (chd par n (P n) && (P n).st == 3) = true then (n : Int) else zoS P par n := by
  have e1 : zoS P par (n + 1) = rnI (((List.range n).find? fun i => chd par i (P i) && (P i).st == 3).or (if (chd par n (P n) && (P n).st == 3) = true then some n else none)) := by
    rw [zoS, List.range_succ, List.find?_append]
    cases h2 : (chd par n (P n) && (P n).st == 3) <;> simp [List.find?, h2]
  rw [e1]
  exact or_pick _ _ _
structure ZoJ (w0 : World) (b x y : Nat) (P : Nat → Pr) (par : Int) (nx : Int) (i : Nat) (W : World) : Prop where
  tb : Tb W b P nx
  cx : W.cell? ⟨x, 0, .none⟩ = some (.bool (zoA P par i))
  fx : W.frozen? ⟨x, 0, .none⟩ = false
  cy : W.cell? ⟨y, 0, .none⟩ = some (.int .i64 (zoS P par i))
  fy : W.frozen? ⟨y, 0, .none⟩ = false
  be : Below w0.heap.size w0 W
set_option maxHeartbeats 2000000 in
theorem zom1_any (h : Tb w b P nx) (i : Nat) (hi : i < 64) (x y : Nat) (a : Bool) (z : Int) (hx : w.cell? ⟨x, 0, .none⟩ = some (.bool a)) (hf : w.frozen? ⟨x, 0, .none⟩ = false) (hy : w.cell? ⟨y, 0, .none⟩ = some (.int .i64 z)) (hg : w.frozen? ⟨y, 0, .none⟩ = false) (hne : x ≠ b) (hny : y ≠ b) (hxy : x ≠ y) : Calls Try.prog 59 #[.int .i64 (i : Int), .pointer (some ⟨b, i * 7, .none⟩), .pointer (some ⟨x, 0, .none⟩), .pointer (some ⟨y, 0, .none⟩)] w fun e w' => e = .returned (.tuple #[]) ∧ w' = (if z < 0 ∧ ((P i).st == 3) = true then (w.setCell ⟨x, 0, .none⟩ (.bool true)).setCell ⟨y, 0, .none⟩ (.int .i64 (i : Int)) else w.setCell ⟨x, 0, .none⟩ (.bool true)) := by
  obtain ⟨c0, c1, c2, c3, c4, c5, c6⟩ := h.cells i hi
  have h1 : b ≠ x := fun e => hne e.symm
  have h2 : b ≠ y := fun e => hny e.symm
  have h3 : y ≠ x := fun e => hxy e.symm
  clear h
  by_cases hz : z < 0
  · cases hq : ((P i).st == 3) with
    | true =>
      rw [if_pos ⟨hz, rfl⟩]
      go_enter Try.func59, Try.ntmps59
      go_wp2
      go_end0
      exact ⟨rfl, rfl⟩
    | false =>
      rw [if_neg (fun e => by cases e.2)]
      go_enter Try.func59, Try.ntmps59
      go_wp2
      go_end0
      exact ⟨rfl, rfl⟩
  · rw [if_neg (fun e => hz e.1)]
    go_enter Try.func59, Try.ntmps59
    go_wp2
    go_end0
    exact ⟨rfl, rfl⟩
set_option maxHeartbeats 2000000 in
theorem zom_each {w0 : World} (par : Int) (x y : Nat) (hne : x ≠ b) (hny : y ≠ b) (hxy : x ≠ y) (hx0 : w0.heap.size ≤ x) (hy0 : w0.heap.size ≤ y) (h : ZoJ w0 b x y P par nx 0 w) : Calls Try.prog 56 #[.pointer (some ⟨b, 0, .none⟩), .int .i64 par, .func (.func 59) #[] #[.pointer (some ⟨x, 0, .none⟩), .pointer (some ⟨y, 0, .none⟩)]] w fun e w' => e = .returned (.tuple #[]) ∧ ZoJ w0 b x y P par nx 64 w' := by
  refine each_any par 59 (fun args w => by kernel_rfl) [.pointer (some ⟨x, 0, .none⟩), .pointer (some ⟨y, 0, .none⟩)] (fun _ => P) (ZoJ w0 b x y P par nx) (fun i W _ J => J.tb) ?_ ?_ ?_ h
  · intro i W W' _ J hW
    have hl := lt_cell J.cx
    have hm := lt_cell J.cy
    exact ⟨J.tb.bel hW, (hW.cell (p := ⟨x, 0, .none⟩) hl).trans J.cx, (hW.frozen (p := ⟨x, 0, .none⟩) hl).trans J.fx, (hW.cell (p := ⟨y, 0, .none⟩) hm).trans J.cy, (hW.frozen (p := ⟨y, 0, .none⟩) hm).trans J.fy, J.be.trans (hW.mono J.be.size)⟩
  · intro i W hi J hc
    refine ⟨J.tb, ?_, J.fx, ?_, J.fy, J.be⟩
    · rw [zoA_succ, hc, Bool.or_false]; exact J.cx
    · rw [zoS_succ, hc, if_neg (fun e => by simp at e)]; exact J.cy
  · intro i W hi J hc
    refine (zom1_any J.tb i hi x y _ _ J.cx J.fx J.cy J.fy hne hny hxy).mono ?_
    rintro e w' ⟨rfl, rfl⟩
    have t1 : Trn x W (W.setCell ⟨x, 0, .none⟩ (.bool true)) := Trn.setCell _ _ _ _
    have hl := lt_cell J.cx
    have hm := lt_cell J.cy
    have b1 : Below w0.heap.size w0 (W.setCell ⟨x, 0, .none⟩ (.bool true)) := J.be.setCell (p := ⟨x, 0, .none⟩) hx0 _
    have T1 := t1.tb J.tb (fun e => hne e.symm)
    have cx : (W.setCell ⟨x, 0, .none⟩ (.bool true)).cell? ⟨x, 0, .none⟩ = some (.bool true) := World.cell?_setCell_same' _ _ _ (by rw [J.cx]; rfl)
    have cy := (t1.cell (p := ⟨y, 0, .none⟩) hm (fun e => hxy e.symm)).trans J.cy
    by_cases hq : zoS P par i < 0 ∧ ((P i).st == 3) = true
    · rw [if_pos hq]
      refine ⟨rfl, (Trn.setCell y 0 _ _).tb T1 (fun e => hny e.symm), ?_, ?_, ?_, ?_, b1.setCell (p := ⟨y, 0, .none⟩) hy0 _⟩
      · rw [zoA_succ, hc, Bool.or_true, World.cell?_setCell_other _ _ _ _ (by intro e; injection e with e; exact hxy e.symm)]; exact cx
      · rw [frozen_set, frozen_set]; exact J.fx
      · rw [zoS_succ, hc, Bool.true_and, if_pos hq]; exact World.cell?_setCell_same' _ _ _ (by rw [cy]; rfl)
      · rw [frozen_set, frozen_set]; exact J.fy
    · rw [if_neg hq]
      refine ⟨rfl, T1, ?_, ?_, ?_, ?_, b1⟩
      · rw [zoA_succ, hc, Bool.or_true]; exact cx
      · rw [frozen_set]; exact J.fx
      · rw [zoS_succ, hc, Bool.true_and, if_neg hq]; exact cy
      · rw [frozen_set]; exact J.fy
theorem results_cell2 {P : Program} {fn : Func} {p q : Tmp} {t u : TypeId} (h : fn.results = #[.cell p t, .cell q u]) (tmps : Array Value) (w : World) (ad ae : Addr) (v x : Value) (hp : tmps.getD p undef = .pointer (some ad)) (hq : tmps.getD q undef = .pointer (some ae)) (hl : (loadVar t ad).run P w = .ok v w) (hm : (loadVar u ae).run P w = .ok x w) : (results fn tmps).run P w = .ok (.tuple #[v, x]) w := by
  have hp' : tmps[p]?.getD undef = .pointer (some ad) := by simpa using hp
  have hq' : tmps[q]?.getD undef = .pointer (some ae) := by simpa using hq
  simp [results, h, hp', hq', asAddr, hl, hm]
set_option maxHeartbeats 4000000 in
theorem zombie_any (h : Tb w b P nx) (hn : 1 ≤ nx) (par : Int) : Calls Try.prog 28 #[.pointer (some ⟨b, 0, .none⟩), .int .i64 par] w fun e w' => e = .returned (.tuple #[.int .i64 (zoS P par 64), .bool (zoA P par 64)]) ∧ Below w.heap.size w w' := by
  have hmf : ∀ (fn : Fn) (first cap : Array Value) (w : World), (Instr.makeFunc fn first cap).run Try.prog w = .ok (.func fn first cap) w := fun _ _ _ _ => rfl
  have hb := h.lt
  have HB1 : Below w.heap.size w (w.alloc (.cells #[.int .i64 0] 3)) := below1 _ _
  have HB2 : Hid (Below w.heap.size w ((w.alloc (.cells #[.int .i64 0] 3)).alloc (.cells #[.bool false] 4))) := HB1.trans ((below1 _ _).mono HB1.size)
  have HT : Hid (Tb ((w.alloc (.cells #[.int .i64 0] 3)).alloc (.cells #[.bool false] 4)) b P nx) := h.bel HB2.out
  have k1 := isMade_any HT.out hn
  have HX : Hid (((w.alloc (.cells #[.int .i64 0] 3)).alloc (.cells #[.bool false] 4)).cell? ⟨w.heap.size + 1, 0, .none⟩ = some (.bool false) ∧ ((w.alloc (.cells #[.int .i64 0] 3)).alloc (.cells #[.bool false] 4)).frozen? ⟨w.heap.size + 1, 0, .none⟩ = false ∧ ((w.alloc (.cells #[.int .i64 0] 3)).alloc (.cells #[.bool false] 4)).cell? ⟨w.heap.size, 0, .none⟩ = some (.int .i64 0) ∧ ((w.alloc (.cells #[.int .i64 0] 3)).alloc (.cells #[.bool false] 4)).frozen? ⟨w.heap.size, 0, .none⟩ = false) := by
    refine ⟨?_, ?_, ?_, ?_⟩
    · rw [World.cell?_alloc_at _ _ _ _ (by simp)]; rfl
    · simp
    · rw [World.cell?_alloc_past _ _ _ (by simp), World.cell?_alloc_at _ _ _ _ rfl]; rfl
    · rw [World.frozen?_alloc_past _ _ _ (by simp)]; exact World.frozen?_alloc_new _ _ _ _
  clear h HB1
  go_enter Try.func28, Try.ntmps28
  go_wp2_with fail
  refine k1.mono ?_
  rintro e w1 ⟨rfl, hw⟩
  subst hw
  clear k1
  generalize (w.alloc (.cells #[.int .i64 0] 3)).alloc (.cells #[.bool false] 4) = w1 at *
  have q3 := HX.out.2.2.1
  have q4 := HX.out.2.2.2
  have HJ : Hid (ZoJ w b (w.heap.size + 1) w.heap.size P par nx 0 (w1.setCell ⟨w.heap.size, 0, .none⟩ (.int .i64 (-1)))) := by
    obtain ⟨x1, x2, x3, x4⟩ := HX.out
    refine ⟨(Trn.setCell _ _ _ _).tb HT.out (by omega), ?_, ?_, ?_, ?_, HB2.out.setCell (p := ⟨w.heap.size, 0, .none⟩) (Nat.le_refl _) _⟩
    · rw [World.cell?_setCell_other _ _ _ _ (by intro e; injection e with e; omega)]; exact x1
    · rw [frozen_set]; exact x2
    · exact World.cell?_setCell_same' _ _ _ (by rw [x3]; rfl)
    · rw [frozen_set]; exact x4
  have k2 := zom_each par (w.heap.size + 1) w.heap.size (by omega) (by omega) (by omega) (by omega) (Nat.le_refl _) HJ.out
  go_wp2_with fail
  refine k2.mono ?_
  rintro e w3 ⟨rfl, J⟩
  have HJ2 : Hid (ZoJ w b (w.heap.size + 1) w.heap.size P par nx 64 w3) := J
  have c1 := J.cx
  have c2 := J.fx
  have c3 := J.cy
  have c4 := J.fy
  clear J k2 HJ HX HT q3 q4
  have hne : w.heap.size ≠ w.heap.size + 1 := by omega
  have hne2 : w.heap.size + 1 ≠ w.heap.size := by omega
  go_wp2
  go_region
  all_goals go_wp2
  all_goals (
    obtain ⟨y1, y2, y3, y4, y5, y6⟩ := HJ2.out
    refine bodyPost_ret (v := .tuple #[.int .i64 (zoS P par 64), .bool (zoA P par 64)]) (results_cell2 rfl _ _ ⟨w.heap.size, 0, .none⟩ ⟨w.heap.size + 1, 0, .none⟩ _ _ rfl rfl (by go_simp) (by go_simp)) rfl ⟨rfl, ?_⟩
    have b1 := (y6.setCell (p := ⟨w.heap.size, 0, .none⟩) (Nat.le_refl _) (.int .i64 (zoS P par 64))).setCell (p := ⟨w.heap.size + 1, 0, .none⟩) (show w.heap.size ≤ w.heap.size + 1 by omega) (.bool (zoA P par 64))
    exact ⟨b1.os, b1.tape, b1.output, b1.size, b1.block⟩)
end
end Go.Proofs.Ytnlbomggadflmab
