import Derived.Test.YtnlbomggadflmabPd
namespace Go.Proofs.Ytnlbomggadflmab
open Go.RowKit
set_option linter.unusedVariables false
set_option linter.unusedSimpArgs false
set_option maxRecDepth 100000
section
variable {w : World} {b : Nat} {P : Nat → Pr} {nx : Int}
theorem look_end (W : World) (x : Nat) (p : Pr) (h : W.there x 0 7) : (loadVar 33 ⟨x, 0, .none⟩).run Try.prog (W.setCells x 0 p.l) = .ok (.agg p.l.toArray) (W.setCells x 0 p.l) :=
  run_loadVar_mid _ x 0 33 p.l _ (World.rangeAt_setCells_same W x 0 _ h) Try.underlying33 rfl (by kernel_rfl)
set_option maxHeartbeats 2000000 in
theorem look_any (h : Tb w b P nx) (hn : 1 ≤ nx) (s : Int) : Calls Try.prog 32 #[.pointer (some ⟨b, 0, .none⟩), .int .i64 s] w fun e w' => e = .returned (.agg (lkP P s).l.toArray) ∧ Below w.heap.size w w' := by
  have hb := h.lt
  have HB : Hid (Below w.heap.size w (w.alloc (.cells #[.int .i64 0, .int .i64 0, .int .i64 0, .int .i64 0, .int .i64 0, .bool false, .int .i32 0] 33))) := below1 _ _
  have HT : Hid (Tb (w.alloc (.cells #[.int .i64 0, .int .i64 0, .int .i64 0, .int .i64 0, .int .i64 0, .bool false, .int .i32 0] 33)) b P nx) := h.bel (below1 _ _)
  have HZ : Hid ((w.alloc (.cells #[.int .i64 0, .int .i64 0, .int .i64 0, .int .i64 0, .int .i64 0, .bool false, .int .i32 0] 33)).rangeAt w.heap.size 0 zP.l ∧ (w.alloc (.cells #[.int .i64 0, .int .i64 0, .int .i64 0, .int .i64 0, .int .i64 0, .bool false, .int .i32 0] 33)).there w.heap.size 0 7) := by
    refine ⟨fun j v hj => ?_, fun j hj => ⟨?_, World.frozen?_alloc_new _ _ _ _⟩⟩
    · rw [World.cell?_alloc_at _ _ _ _ (by rfl)]; simpa [zP, Pr.l] using hj
    · rw [World.cell?_alloc_at _ _ _ _ (by rfl)]
      have : j < zP.l.length := by rw [Pr.len]; exact hj
      simp [hj]
  have KB : ∀ W, Below (w.alloc (.cells #[.int .i64 0, .int .i64 0, .int .i64 0, .int .i64 0, .int .i64 0, .bool false, .int .i32 0] 33)).heap.size (w.alloc (.cells #[.int .i64 0, .int .i64 0, .int .i64 0, .int .i64 0, .int .i64 0, .bool false, .int .i32 0] 33)) W → Tb W b P nx ∧ Below w.heap.size w W ∧ W.rangeAt w.heap.size 0 zP.l ∧ W.there w.heap.size 0 7 := fun W hW => by
    have hsz : w.heap.size < (w.alloc (.cells #[.int .i64 0, .int .i64 0, .int .i64 0, .int .i64 0, .int .i64 0, .bool false, .int .i32 0] 33)).heap.size := by simp
    refine ⟨Tb.bel HT.out hW, HB.out.trans (hW.mono HB.out.size), fun j v hj => (hW.cell (p := ⟨w.heap.size, 0 + j, .none⟩) hsz).trans (HZ.out.1 j v hj), fun j hj => ?_⟩
    have := HZ.out.2 j hj
    exact ⟨by rw [hW.cell (p := ⟨w.heap.size, 0 + j, .none⟩) hsz]; exact this.1, by rw [hW.frozen (p := ⟨w.heap.size, 0 + j, .none⟩) hsz]; exact this.2⟩
  have gi := fun n a c => get_in HT.out hn n a c
  have gn := fun s c => get_no HT.out hn s c
  clear h HB HT HZ
  by_cases hp : isP P s
  · have e1 : lkP P s = P s.toNat := by rw [lkP, if_pos hp]
    rw [e1]
    obtain ⟨h1, h2, h3⟩ := hp
    obtain ⟨n, rfl⟩ : ∃ n : Nat, s = n := ⟨s.toNat, by omega⟩
    rw [Int.toNat_natCast] at h3 ⊢
    have g : n < 64 := by omega
    have k1 := gi n g h3
    clear e1 h1 h2 h3 gi gn
    go_enter Try.func32, Try.ntmps32
    go_wp2_with fail
    refine k1.mono ?_
    rintro e w1 ⟨rfl, hb1⟩
    obtain ⟨hT, hB, hR, hH⟩ := KB w1 hb1
    obtain ⟨c0, c1, c2, c3, c4, c5, c6⟩ := hT.cells n g
    have q0 := hR 0 _ rfl
    have q1 := hR 1 _ rfl
    have q2 := hR 2 _ rfl
    have q3 := hR 3 _ rfl
    have q4 := hR 4 _ rfl
    have q5 := hR 5 _ rfl
    have q6 := hR 6 _ rfl
    have f0 := (hH 0 (by omega)).2
    have f1 := (hH 1 (by omega)).2
    have f2 := (hH 2 (by omega)).2
    have f3 := (hH 3 (by omega)).2
    have f4 := (hH 4 (by omega)).2
    have f5 := (hH 5 (by omega)).2
    have f6 := (hH 6 (by omega)).2
    simp only [Nat.zero_add] at q0 q1 q2 q3 q4 q5 q6 f0 f1 f2 f3 f4 f5 f6
    have HT : Hid (Tb w1 b P nx ∧ Below w.heap.size w w1 ∧ w1.there w.heap.size 0 7) := ⟨hT, hB, hH⟩
    clear hT hB hR hH KB k1 hb1
    go_wp2
    refine bodyPost_ret (v := .agg (P n).l.toArray) (results_cell_any rfl _ _ ⟨w.heap.size, 0, .none⟩ _ rfl (look_end w1 w.heap.size (P n) HT.out.2.2)) rfl ⟨rfl, below_setCells HT.out.2.1 w.heap.size (Nat.le_refl _) 0 (P n).l⟩
  · have e1 : lkP P s = zP := by rw [lkP, if_neg hp]
    rw [e1]
    have k1 := gn s hp
    clear e1 gi gn hp
    go_enter Try.func32, Try.ntmps32
    go_wp2_with fail
    refine k1.mono ?_
    rintro e w1 ⟨rfl, hb1⟩
    obtain ⟨hT, hB, hR, hH⟩ := KB w1 hb1
    have q0 := hR 0 _ rfl
    have q1 := hR 1 _ rfl
    have q2 := hR 2 _ rfl
    have q3 := hR 3 _ rfl
    have q4 := hR 4 _ rfl
    have q5 := hR 5 _ rfl
    have q6 := hR 6 _ rfl
    have f0 := (hH 0 (by omega)).2
    have f1 := (hH 1 (by omega)).2
    have f2 := (hH 2 (by omega)).2
    have f3 := (hH 3 (by omega)).2
    have f4 := (hH 4 (by omega)).2
    have f5 := (hH 5 (by omega)).2
    have f6 := (hH 6 (by omega)).2
    simp only [Nat.zero_add] at q0 q1 q2 q3 q4 q5 q6 f0 f1 f2 f3 f4 f5 f6
    have HT : Hid (Tb w1 b P nx ∧ Below w.heap.size w w1 ∧ w1.there w.heap.size 0 7) := ⟨hT, hB, hH⟩
    clear hT hB hR hH KB k1 hb1
    go_wp2
    refine bodyPost_ret (v := .agg zP.l.toArray) (results_cell_any rfl _ _ ⟨w.heap.size, 0, .none⟩ _ rfl (look_end w1 w.heap.size zP HT.out.2.2)) rfl ⟨rfl, below_setCells HT.out.2.1 w.heap.size (Nat.le_refl _) 0 zP.l⟩
/-- A process of that pid? -/
def kq (m : Int) (p : Pr) : Bool := !(p.st == 0) && p.pid == m
set_option maxHeartbeats 2000000 in
theorem kill1_any (m : Int) (x : Nat) (p : Pr) (W : World) (hx : W.cell? ⟨x, 0, .none⟩ = some (.int .i64 m)) : Calls Try.prog 55 #[.agg p.l.toArray, .pointer (some ⟨x, 0, .none⟩)] W fun e w' => e = .returned (.bool (kq m p)) ∧ Below W.heap.size W w' := by
  have k := isProcess_any p
  have hxl := lt_cell hx
  rw [Pr.l] at k ⊢
  have HB : Hid (Below W.heap.size W (W.alloc (.cells #[.int .i64 p.pid, .int .i64 p.st, .int .i64 p.par, .int .i64 p.ck, .int .i64 p.cn, .bool p.kil, .int .i32 p.sta] 33))) := below1 _ _
  have HC : Hid ((W.alloc (.cells #[.int .i64 p.pid, .int .i64 p.st, .int .i64 p.par, .int .i64 p.ck, .int .i64 p.cn, .bool p.kil, .int .i32 p.sta] 33)).cell? ⟨W.heap.size, 0, .none⟩ = some (.int .i64 p.pid)) := by rw [Hid, World.cell?_alloc_at _ _ _ _ rfl]; rfl
  have hsz : W.heap.size < (W.alloc (.cells #[.int .i64 p.pid, .int .i64 p.st, .int .i64 p.par, .int .i64 p.ck, .int .i64 p.cn, .bool p.kil, .int .i32 p.sta] 33)).heap.size := by simp
  by_cases h0 : p.st = 0
  · have e : kq m p = false := by simp [kq, h0]
    rw [e]
    rw [show (!(p.st == 0)) = false by simp [h0]] at k
    clear h0 e
    have k := k (W.alloc (.cells #[.int .i64 p.pid, .int .i64 p.st, .int .i64 p.par, .int .i64 p.ck, .int .i64 p.cn, .bool p.kil, .int .i32 p.sta] 33))
    go_enter Try.func55, Try.ntmps55
    go_wp2_with fail
    refine k.mono ?_
    rintro e w1 ⟨rfl, hb⟩
    have HB2 : Hid (Below W.heap.size W w1) := HB.out.trans (hb.mono HB.out.size)
    clear hb k HC
    go_wp2
    go_ret
    exact ⟨rfl, HB2.out⟩
  · have e : kq m p = (p.pid == m) := by simp [kq, h0]
    rw [e]
    rw [show (!(p.st == 0)) = true by simp [h0]] at k
    clear h0 e
    have k := k (W.alloc (.cells #[.int .i64 p.pid, .int .i64 p.st, .int .i64 p.par, .int .i64 p.ck, .int .i64 p.cn, .bool p.kil, .int .i32 p.sta] 33))
    go_enter Try.func55, Try.ntmps55
    go_wp2_with fail
    refine k.mono ?_
    rintro e w1 ⟨rfl, hb⟩
    have HB2 : Hid (Below W.heap.size W w1) := HB.out.trans (hb.mono HB.out.size)
    have c1 := (hb.cell (p := ⟨W.heap.size, 0, .none⟩) hsz).trans HC.out
    have c2 := (HB2.out.cell (p := ⟨x, 0, .none⟩) hxl).trans hx
    clear hb k HC hx
    go_wp2
    go_ret
    exact ⟨rfl, HB2.out⟩
/-- Kill: the answer, the slots. -/
def klR (P : Nat → Pr) (m : Int) : Int := if (rnd (fun i => kq m (P i)) 0).isSome then 0 else 266
def klP (P : Nat → Pr) (m : Int) : Nat → Pr := match rnd (fun i => kq m (P i)) 0 with
  | none => P
  | some s => if (P s).st = 3 then P else up P s { (P s).wk with kil := true }
theorem rnd_lt {q : Nat → Bool} {f n : Nat} (h : rnd q f = some n) : n < 64 := by
  obtain ⟨k, _, _, _, e⟩ := rnd_some h
  rw [e]
  exact Nat.mod_lt _ (by omega)
set_option maxHeartbeats 2000000 in
theorem kill_any (h : Tb w b P nx) (hn : 1 ≤ nx) (m : Int) : Calls Try.prog 24 #[.pointer (some ⟨b, 0, .none⟩), .int .i64 m] w fun e w' => e = .returned (.int .i64 (klR P m)) ∧ Tb w' b (klP P m) nx ∧ Trn b w w' := by
  have HB : Hid (Below w.heap.size w (w.alloc (.cells #[.int .i64 m] 3))) := below1 _ _
  have hsz : w.heap.size < (w.alloc (.cells #[.int .i64 m] 3)).heap.size := by simp
  have HC : (w.alloc (.cells #[.int .i64 m] 3)).cell? ⟨w.heap.size, 0, .none⟩ = some (.int .i64 m) := by rw [World.cell?_alloc_at _ _ _ _ rfl]; rfl
  have HT : Hid (Tb (w.alloc (.cells #[.int .i64 m] 3)) b P nx) := h.bel (below1 _ _)
  have k1 := isMade_any HT.out hn
  have k2 := least_any HT.out 55 (fun args w => by kernel_rfl) [.pointer (some ⟨w.heap.size, 0, .none⟩)] (kq m) (fun W => W.cell? ⟨w.heap.size, 0, .none⟩ = some (.int .i64 m)) HC (fun W W' hS hW => (hW.cell (p := ⟨w.heap.size, 0, .none⟩) hsz).trans hS) (fun p W hS => kill1_any m w.heap.size p W hS)
  have KB : ∀ W, Below (w.alloc (.cells #[.int .i64 m] 3)).heap.size (w.alloc (.cells #[.int .i64 m] 3)) W → Tb W b P nx ∧ Trn b w W := fun W hW => ⟨Tb.bel HT.out hW, Trn.ofBelow (HB.out.trans (hW.mono HB.out.size))⟩
  have hmf : ∀ (fn : Fn) (first cap : Array Value) (w : World), (Instr.makeFunc fn first cap).run Try.prog w = .ok (.func fn first cap) w := fun _ _ _ _ => rfl
  clear h HB HC HT
  cases hr : rnd (fun i => kq m (P i)) 0 with
  | none =>
    have e1 : klR P m = 266 := by rw [klR, hr]; rfl
    have e2 : klP P m = P := by rw [klP, hr]
    rw [hr] at k2
    rw [e1, e2]
    clear e1 e2 hr
    go_enter Try.func24, Try.ntmps24
    go_wp2_with fail
    refine k1.mono ?_
    rintro e w1 ⟨rfl, hw⟩
    subst hw
    clear k1
    go_wp2_with fail
    refine k2.mono ?_
    rintro e w1 ⟨rfl, hb⟩
    have HK := KB w1 hb
    clear k2 hb KB
    go_wp2
    go_ret
    exact ⟨rfl, HK.1, HK.2⟩
  | some s =>
    have hs := rnd_lt hr
    have e1 : klR P m = 0 := by rw [klR, hr]; rfl
    rw [hr] at k2
    rw [e1]
    by_cases h3 : (P s).st = 3
    · have e2 : klP P m = P := by rw [klP, hr]; simp only; rw [if_pos h3]
      rw [e2]
      have H3 : Hid ((P s).st = 3) := h3
      clear e1 e2 hr h3
      go_enter Try.func24, Try.ntmps24
      go_wp2_with fail
      refine k1.mono ?_
      rintro e w1 ⟨rfl, hw⟩
      subst hw
      clear k1
      go_wp2_with fail
      refine k2.mono ?_
      rintro e w1 ⟨rfl, hb⟩
      have HK := KB w1 hb
      have c1 := (HK.1.cells s hs).2.1
      rw [H3.out] at c1
      clear k2 hb KB
      simp only [rnI, Option.isSome]
      go_wp2
      go_ret
      exact ⟨rfl, HK.1, HK.2⟩
    · have e2 : klP P m = up P s { (P s).wk with kil := true } := by rw [klP, hr]; simp only; rw [if_neg h3]
      rw [e2]
      have g3 : ((P s).st == 3) = false := by simpa using h3
      clear e1 e2 hr h3
      go_enter Try.func24, Try.ntmps24
      go_wp2_with fail
      refine k1.mono ?_
      rintro e w1 ⟨rfl, hw⟩
      subst hw
      clear k1
      go_wp2_with fail
      refine k2.mono ?_
      rintro e w1 ⟨rfl, hb⟩
      have HK := KB w1 hb
      have HKK : Hid (Tb w1 b P nx ∧ Trn b w w1) := HK
      have c1 := (HK.1.cells s hs).2.1
      have c5 := (HK.1.cells s hs).2.2.2.2.2.1
      have f5 := HK.1.fr (s * 7 + 5) (by omega)
      have T1 := HK.1.set s 5 hs (by omega) (.bool true) { P s with kil := true } rfl
      have k3 := wake_any T1 s hs
      rw [up_same, up_up] at k3
      clear k2 hb KB T1 HK
      simp only [rnI, Option.isSome]
      go_wp2_with fail
      refine k3.mono ?_
      rintro e w2 ⟨rfl, hT, hR⟩
      have HR : Hid (Trn b w w2) := (HKK.out.2.trans (Trn.setCell _ _ _ _)).trans hR
      clear k3 c1 c5 f5 hR HKK
      go_wp2
      go_ret
      exact ⟨rfl, hT, HR.out⟩
/-- There is a process. -/
def anyP (P : Nat → Pr) : Bool := (rnd (fun i => !((P i).st == 0)) 0).isSome
/-- Add: the answer, the slots, the next pid. -/
def adE (P : Nat → Pr) (nx par : Int) : Int := if anyP P = true ∧ cch P par = false then 261 else if 2147483647 < nx then 262 else if (rnd (fun i => (P i).st == 0) 0).isSome = false then 263 else 0
def adS (P : Nat → Pr) (nx par : Int) : Int := if adE P nx par = 0 then rnI (rnd (fun i => (P i).st == 0) 0) else -1
def adI (P : Nat → Pr) (nx par : Int) : Int := if adE P nx par = 0 then nx else -1
def adN (P : Nat → Pr) (nx par : Int) : Int := if adE P nx par = 0 then nx + 1 else nx
def adP (P : Nat → Pr) (nx par : Int) : Nat → Pr := if adE P nx par = 0 then up P (rnI (rnd (fun i => (P i).st == 0) 0)).toNat ⟨nx, 1, if anyP P = true then par else 0, 0, 0, false, 0⟩ else P
def AdP (w : World) (b : Nat) (P : Nat → Pr) (nx par : Int) (e : Ending) (w' : World) : Prop := e = .returned (.tuple #[.int .i64 (adS P nx par), .int .i64 (adI P nx par), .int .i64 (adE P nx par)]) ∧ Tb w' b (adP P nx par) (adN P nx par) ∧ Trn b w w'
theorem adp_no (h : Tb w b P nx) {par : Int} {E : Int} (e0 : adE P nx par = E) (hE : E ≠ 0) {w' : World} (k : Below w.heap.size w w') : AdP w b P nx par (.returned (.tuple #[.int .i64 (-1), .int .i64 (-1), .int .i64 E])) w' := by
  subst e0
  refine ⟨by rw [adS, adI, if_neg hE, if_neg hE], ?_, Trn.ofBelow k⟩
  rw [adP, adN, if_neg hE, if_neg hE]
  exact h.bel k
set_option maxHeartbeats 4000000 in
theorem add_any (h : Tb w b P nx) (hn : 1 ≤ nx) (hm : nx ≤ 2147483648) (par : Int) : Calls Try.prog 14 #[.pointer (some ⟨b, 0, .none⟩), .int .i64 par] w (AdP w b P nx par) := by
  have k1 := isMade_any h hn
  have k2 := least_proc h
  have k3 : ∀ W, Below w.heap.size w W → Calls Try.prog 42 #[.pointer (some ⟨b, 0, .none⟩), .int .i64 par] W fun e w' => e = .returned (.bool (cch P par)) ∧ Below W.heap.size W w' := fun W hW => canHaveChild_any (h.bel hW) hn par
  have k4 : ∀ W, Below w.heap.size w W → Calls Try.prog 43 #[.pointer (some ⟨b, 0, .none⟩)] W fun e w' => e = .returned (.bool (decide (nx ≤ 2147483647))) ∧ w' = W := fun W hW => hasPid_any (h.bel hW)
  have k5 : ∀ W, Below w.heap.size w W → Calls Try.prog 40 #[.pointer (some ⟨b, 0, .none⟩), .func (.func 44) #[] #[]] W fun e w' => e = .returned (.tuple #[.int .i64 (rnI (rnd (fun i => (P i).st == 0) 0)), .bool (rnd (fun i => (P i).st == 0) 0).isSome]) ∧ Below W.heap.size W w' := fun W hW => least_free (h.bel hW)
  have H : Hid (Tb w b P nx) := h
  have HA : Hid ((rnd (fun i => !((P i).st == 0)) 0).isSome = anyP P) := rfl
  rw [HA.out] at k2
  generalize rnI (rnd (fun i => !((P i).st == 0)) 0) = r0 at k2
  clear h HA
  by_cases hA : anyP P = true ∧ cch P par = false
  · have HE : Hid (adE P nx par = 261) := by rw [Hid, adE, if_pos hA]
    rw [hA.1] at k2
    rw [hA.2] at k3
    clear hA k4 k5
    go_enter Try.func14, Try.ntmps14
    go_wp2_with fail
    refine k1.mono ?_
    rintro e w1 ⟨rfl, hw⟩
    obtain rfl : w = w1 := hw.symm
    clear k1
    go_wp2_with fail
    refine k2.mono ?_
    rintro e w1 ⟨rfl, hb⟩
    have HB : Hid (Below w.heap.size w w1) := hb
    clear k2 hb
    have k3 := k3 w1 HB.out
    go_wp2_with fail
    refine k3.mono ?_
    rintro e w2 ⟨rfl, hb⟩
    have HB2 : Hid (Below w.heap.size w w2) := HB.out.trans (hb.mono HB.out.size)
    clear k3 hb
    go_wp2
    go_ret3
    exact adp_no H.out HE.out (by decide) HB2.out
  have HNA : Hid (¬ (anyP P = true ∧ cch P par = false)) := hA
  clear hA
  by_cases hB : anyP P = true
  · have hC : cch P par = true := by
      cases q : cch P par
      · exact absurd ⟨hB, q⟩ HNA.out
      · rfl
    have HP : Hid ((if anyP P = true then par else 0) = par) := by rw [Hid, if_pos hB]
    rw [hB] at k2
    rw [hC] at k3
    clear hB hC
    by_cases hN : 2147483647 < nx
    · have HE : Hid (adE P nx par = 262) := by rw [Hid, adE, if_neg HNA.out, if_pos hN]
      rw [show decide (nx ≤ 2147483647) = false by simpa using hN] at k4
      clear hN k5
      go_enter Try.func14, Try.ntmps14
      go_wp2_with fail
      refine k1.mono ?_
      rintro e w1 ⟨rfl, hw⟩
      obtain rfl : w = w1 := hw.symm
      clear k1
      go_wp2_with fail
      refine k2.mono ?_
      rintro e w1 ⟨rfl, hb⟩
      have HB : Hid (Below w.heap.size w w1) := hb
      clear k2 hb
      have k3 := k3 w1 HB.out
      go_wp2_with fail
      refine k3.mono ?_
      rintro e w2 ⟨rfl, hb⟩
      have HB2 : Hid (Below w.heap.size w w2) := HB.out.trans (hb.mono HB.out.size)
      clear k3 hb HB
      have k4 := k4 w2 HB2.out
      go_wp2_with fail
      refine k4.mono ?_
      rintro e w3 ⟨rfl, hw⟩
      obtain rfl : w2 = w3 := hw.symm
      clear k4 hw
      go_wp2
      go_ret3
      exact adp_no H.out HE.out (by decide) HB2.out
    · rw [show decide (nx ≤ 2147483647) = true by simpa using hN] at k4
      cases hr : rnd (fun i => (P i).st == 0) 0 with
      | none =>
        have HE : Hid (adE P nx par = 263) := by rw [Hid, adE, if_neg HNA.out, if_neg hN, hr]; rfl
        rw [hr] at k5
        clear hN hr
        go_enter Try.func14, Try.ntmps14
        go_wp2_with fail
        refine k1.mono ?_
        rintro e w1 ⟨rfl, hw⟩
        obtain rfl : w = w1 := hw.symm
        clear k1
        go_wp2_with fail
        refine k2.mono ?_
        rintro e w1 ⟨rfl, hb⟩
        have HB : Hid (Below w.heap.size w w1) := hb
        clear k2 hb
        have k3 := k3 w1 HB.out
        go_wp2_with fail
        refine k3.mono ?_
        rintro e w2 ⟨rfl, hb⟩
        have HB2 : Hid (Below w.heap.size w w2) := HB.out.trans (hb.mono HB.out.size)
        clear k3 hb HB
        have k4 := k4 w2 HB2.out
        go_wp2_with fail
        refine k4.mono ?_
        rintro e w3 ⟨rfl, hw⟩
        obtain rfl : w2 = w3 := hw.symm
        clear k4 hw
        have k5 := k5 w2 HB2.out
        go_wp2_with fail
        refine k5.mono ?_
        rintro e w4 ⟨rfl, hb⟩
        have HB4 : Hid (Below w.heap.size w w4) := HB2.out.trans (hb.mono HB2.out.size)
        clear k5 hb HB2
        go_wp2
        go_ret3
        exact adp_no H.out HE.out (by decide) HB4.out
      | some s =>
        have HE : Hid (adE P nx par = 0) := by rw [Hid, adE, if_neg HNA.out, if_neg hN, hr]; rfl
        have HR : Hid (rnd (fun i => (P i).st == 0) 0 = some s) := hr
        have hs := rnd_lt hr
        rw [hr] at k5
        simp only [rnI, Option.isSome] at k5
        clear hr
        go_enter Try.func14, Try.ntmps14
        go_wp2_with fail
        refine k1.mono ?_
        rintro e w1 ⟨rfl, hw⟩
        obtain rfl : w = w1 := hw.symm
        clear k1
        go_wp2_with fail
        refine k2.mono ?_
        rintro e w1 ⟨rfl, hb⟩
        have HB : Hid (Below w.heap.size w w1) := hb
        clear k2 hb
        have k3 := k3 w1 HB.out
        go_wp2_with fail
        refine k3.mono ?_
        rintro e w2 ⟨rfl, hb⟩
        have HB2 : Hid (Below w.heap.size w w2) := HB.out.trans (hb.mono HB.out.size)
        clear k3 hb HB
        have k4 := k4 w2 HB2.out
        go_wp2_with fail
        refine k4.mono ?_
        rintro e w3 ⟨rfl, hw⟩
        obtain rfl : w2 = w3 := hw.symm
        clear k4 hw
        have k5 := k5 w2 HB2.out
        go_wp2_with fail
        refine k5.mono ?_
        rintro e w4 ⟨rfl, hb⟩
        have HB4 : Hid (Below w.heap.size w w4) := HB2.out.trans (hb.mono HB2.out.size)
        clear k5 hb HB2
        have HT : Hid (Tb w4 b P nx) := Tb.bel H.out HB4.out
        have c := HT.out.cn
        obtain ⟨c0, c1, c2, c3, c4, c5, c6⟩ := HT.out.cells s hs
        have fn := HT.out.fr 448 (by omega)
        have f0 := HT.out.fr (s * 7) (by omega)
        have f1 := HT.out.fr (s * 7 + 1) (by omega)
        have f2 := HT.out.fr (s * 7 + 2) (by omega)
        have f3 := HT.out.fr (s * 7 + 3) (by omega)
        have f4 := HT.out.fr (s * 7 + 4) (by omega)
        have f5 := HT.out.fr (s * 7 + 5) (by omega)
        have f6 := HT.out.fr (s * 7 + 6) (by omega)
        go_wp2
        go_ret3
        have T1 := Tb.setN HT.out (nx + 1)
        have T2 := T1.put s hs ⟨nx, 1, par, 0, 0, false, 0⟩
        refine ⟨?_, ?_, ?_⟩
        · rw [adS, adI, HE.out, HR.out]; rfl
        · rw [adP, adN, HE.out, HR.out, HP.out, if_pos rfl, if_pos rfl]
          exact T2
        · exact ((Trn.ofBelow HB4.out).trans (Trn.setCell b 448 _ w4)).trans (Trn.setCells b (s * 7) (Pr.l ⟨nx, 1, par, 0, 0, false, 0⟩) _)
  · have HP : Hid ((if anyP P = true then par else 0) = 0) := by rw [Hid, if_neg hB]
    rw [show anyP P = false by simpa using hB] at k2
    clear hB k3
    by_cases hN : 2147483647 < nx
    · have HE : Hid (adE P nx par = 262) := by rw [Hid, adE, if_neg HNA.out, if_pos hN]
      rw [show decide (nx ≤ 2147483647) = false by simpa using hN] at k4
      clear hN k5
      go_enter Try.func14, Try.ntmps14
      go_wp2_with fail
      refine k1.mono ?_
      rintro e w1 ⟨rfl, hw⟩
      obtain rfl : w = w1 := hw.symm
      clear k1
      go_wp2_with fail
      refine k2.mono ?_
      rintro e w1 ⟨rfl, hb⟩
      have HB : Hid (Below w.heap.size w w1) := hb
      clear k2 hb
      have k4 := k4 w1 HB.out
      go_wp2_with fail
      refine k4.mono ?_
      rintro e w3 ⟨rfl, hw⟩
      obtain rfl : w1 = w3 := hw.symm
      clear k4 hw
      go_wp2
      go_ret3
      exact adp_no H.out HE.out (by decide) HB.out
    · rw [show decide (nx ≤ 2147483647) = true by simpa using hN] at k4
      cases hr : rnd (fun i => (P i).st == 0) 0 with
      | none =>
        have HE : Hid (adE P nx par = 263) := by rw [Hid, adE, if_neg HNA.out, if_neg hN, hr]; rfl
        rw [hr] at k5
        clear hN hr
        go_enter Try.func14, Try.ntmps14
        go_wp2_with fail
        refine k1.mono ?_
        rintro e w1 ⟨rfl, hw⟩
        obtain rfl : w = w1 := hw.symm
        clear k1
        go_wp2_with fail
        refine k2.mono ?_
        rintro e w1 ⟨rfl, hb⟩
        have HB : Hid (Below w.heap.size w w1) := hb
        clear k2 hb
        have k4 := k4 w1 HB.out
        go_wp2_with fail
        refine k4.mono ?_
        rintro e w3 ⟨rfl, hw⟩
        obtain rfl : w1 = w3 := hw.symm
        clear k4 hw
        have k5 := k5 w1 HB.out
        go_wp2_with fail
        refine k5.mono ?_
        rintro e w4 ⟨rfl, hb⟩
        have HB4 : Hid (Below w.heap.size w w4) := HB.out.trans (hb.mono HB.out.size)
        clear k5 hb HB
        go_wp2
        go_ret3
        exact adp_no H.out HE.out (by decide) HB4.out
      | some s =>
        have HE : Hid (adE P nx par = 0) := by rw [Hid, adE, if_neg HNA.out, if_neg hN, hr]; rfl
        have HR : Hid (rnd (fun i => (P i).st == 0) 0 = some s) := hr
        have hs := rnd_lt hr
        rw [hr] at k5
        simp only [rnI, Option.isSome] at k5
        clear hr
        go_enter Try.func14, Try.ntmps14
        go_wp2_with fail
        refine k1.mono ?_
        rintro e w1 ⟨rfl, hw⟩
        obtain rfl : w = w1 := hw.symm
        clear k1
        go_wp2_with fail
        refine k2.mono ?_
        rintro e w1 ⟨rfl, hb⟩
        have HB : Hid (Below w.heap.size w w1) := hb
        clear k2 hb
        have k4 := k4 w1 HB.out
        go_wp2_with fail
        refine k4.mono ?_
        rintro e w3 ⟨rfl, hw⟩
        obtain rfl : w1 = w3 := hw.symm
        clear k4 hw
        have k5 := k5 w1 HB.out
        go_wp2_with fail
        refine k5.mono ?_
        rintro e w4 ⟨rfl, hb⟩
        have HB4 : Hid (Below w.heap.size w w4) := HB.out.trans (hb.mono HB.out.size)
        clear k5 hb HB
        have HT : Hid (Tb w4 b P nx) := Tb.bel H.out HB4.out
        have c := HT.out.cn
        obtain ⟨c0, c1, c2, c3, c4, c5, c6⟩ := HT.out.cells s hs
        have fn := HT.out.fr 448 (by omega)
        have f0 := HT.out.fr (s * 7) (by omega)
        have f1 := HT.out.fr (s * 7 + 1) (by omega)
        have f2 := HT.out.fr (s * 7 + 2) (by omega)
        have f3 := HT.out.fr (s * 7 + 3) (by omega)
        have f4 := HT.out.fr (s * 7 + 4) (by omega)
        have f5 := HT.out.fr (s * 7 + 5) (by omega)
        have f6 := HT.out.fr (s * 7 + 6) (by omega)
        go_wp2
        go_ret3
        have T1 := Tb.setN HT.out (nx + 1)
        have T2 := T1.put s hs ⟨nx, 1, 0, 0, 0, false, 0⟩
        refine ⟨?_, ?_, ?_⟩
        · rw [adS, adI, HE.out, HR.out]; rfl
        · rw [adP, adN, HE.out, HR.out, HP.out, if_pos rfl, if_pos rfl]
          exact T2
        · exact ((Trn.ofBelow HB4.out).trans (Trn.setCell b 448 _ w4)).trans (Trn.setCells b (s * 7) (Pr.l ⟨nx, 1, 0, 0, 0, false, 0⟩) _)
end
end Go.Proofs.Ytnlbomggadflmab
