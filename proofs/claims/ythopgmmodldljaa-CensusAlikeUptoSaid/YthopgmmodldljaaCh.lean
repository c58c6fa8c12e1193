import Derived.Test.YthopgmmodldljaaCg
import Derived.Test.YthopgmmodldljaaAi
import Derived.Deep.DeepCutAuto
namespace Go.Proofs.Ythopgmmodldljaa
open Go Go.RowKit
set_option linter.unusedVariables false
set_option linter.unusedSimpArgs false
theorem range_sub {w : World} {b o k : Nat} {l s : List Value} (h : w.rangeAt b o l) (hs : ∀ j v, s[j]? = some v → l[k + j]? = some v) : w.rangeAt b (o + k) s := fun j v hj => by
  have := h (k + j) v (hs j v hj)
  rwa [← Nat.add_assoc] at this
/-- A load of a whole struct, guarded, and wanted. -/
theorem wpList_loadW {w : World} {ops : Array Oper} {rest : List Oper} {o : Oper} {a : Act} {Q : Exit → Act → World → Prop} (t : Nat) (d : TypeDesc) (hu : Try.prog.underlying t = some d) (hd : d.isRow = true) (cs : List Value) (hi : (Try.prog.info? t).map (·.size) = some cs.length) (g f : Nat) (x : Operand) (hw : Region.wanted o (yielded ops a.tmps) = true) (ho : o.op = .load t x) (hx : a.eval x = .pointer (some ⟨g, f, .none⟩)) (hr : w.rangeAt g f cs) (e : Option Tmp) (he : o.dst = e)
    (h : wpList Try.prog ops Q rest (a.put e (.agg cs.toArray)) w) : wpList Try.prog ops Q (o :: rest) a w := by
  subst he
  unfold wpList
  rw [if_pos hw]
  exact .inl (wp_load_mid t x ho g f hx cs d hr hu hd hi h)
theorem sub_of {l s : List Value} {k : Nat} (h : (l.drop k).take s.length = s) : ∀ (j : Nat) (v : Value), s[j]? = some v → l[k + j]? = some v := by
  intro j v hj
  have hl : j < s.length := (List.getElem?_eq_some_iff.1 hj).1
  rw [← h, List.getElem?_take, if_pos hl, List.getElem?_drop] at hj
  exact hj
def chL (c : Nat → Int) : List Value := [.int .i64 (c 4), .int .i64 (c 5)]
def chB (c c1 : Nat → Int) : Bool := ((c 4 == c1 4) && ((c 5 == c1 5) && true))
def rgB (c c1 : Nat → Int) : Bool := (((List.range 32).all fun i => c (8 + i) == c1 (8 + i)) && ((c 40 == c1 40) && true))
def fdB (c c1 : Nat → Int) : Bool := (List.range 16).all fun i => c (46 + i) == c1 (46 + i)
def peB (c c1 : Nat → Int) : Bool := ((c 64 == c1 64) && (((List.range 3).all fun i => c (65 + i) == c1 (65 + i)) && ((c 68 == c1 68) && ((c 69 == c1 69) && true))))
/-- A process's first part, its second part: the same but for frames? -/
def pcB1 (p q : Pc) : Bool := (p.c 0 == q.c 0) && (p.c 1 == q.c 1) && (p.c 2 == q.c 2) && (p.c 3 == q.c 3) && chB p.c q.c && (p.kil == q.kil) && (p.c 7 == q.c 7) && rgB p.c q.c && (p.c 41 == q.c 41)
def pcB2 (p q : Pc) : Bool := fdB p.c q.c && (p.c 62 == q.c 62) && (p.inC == q.inC) && peB p.c q.c && ((p.nodes.length : Int) == q.nodes.length) && ((p.pages.length : Int) == q.pages.length)
def pgB (x y : Pg) : Bool := x.no == y.no && x.pm == y.pm
def pcB (p q : Pc) : Bool := pcB1 p q && pcB2 p q && (List.range p.pages.length).all fun i => pgB (p.pages.getD i ⟨0, 0, 0⟩) (q.pages.getD i ⟨0, 0, 0⟩)
theorem chB_self (c : Nat → Int) : chB c c = true := by simp [chB]
theorem rgB_self (c : Nat → Int) : rgB c c = true := by simp [rgB]
theorem fdB_self (c : Nat → Int) : fdB c c = true := by simp [fdB]
theorem peB_self (c : Nat → Int) : peB c c = true := by simp [peB]
set_option maxRecDepth 100000 in
set_option maxHeartbeats 800000 in
theorem sameProc_eq {w : World} {X Y : Nat} (hX : X ≤ w.heap.size) (hY : Y ≤ w.heap.size) (p : Pc) (np1 gp1 np2 gp2 : Option Addr) (n nc1 g gc1 nc2 gc2 : Nat) (hb : p.pages.length ≤ 10000000) (hG1 : Gs w X (.slice gp1 g gc1) p.pages) (hG2 : Gs w Y (.slice gp2 g gc2) p.pages) : Calls Try.prog 50 #[.agg (p.l (.slice np1 n nc1) (.slice gp1 g gc1)).toArray, .agg (p.l (.slice np2 n nc2) (.slice gp2 g gc2)).toArray] w fun e w' => e = .returned (.bool true) ∧ Below w.heap.size w w' := by
  have HG : Hid (Gs w X (.slice gp1 g gc1) p.pages ∧ Gs w Y (.slice gp2 g gc2) p.pages) := ⟨hG1, hG2⟩
  have hg : g ≤ 10000000 := by obtain ⟨_, _, e⟩ := hG1.form; injection e; omega
  clear hG1 hG2 hb
  have g45 : ∀ op x y xs ys (w : World), (eqGuard op 45 x y (.agg xs) (.agg ys)).run Try.prog w = .ok () w := fun op x y xs ys w => run_eqGuard_agg w op 45 x y xs ys (by kernel_rfl)
  have g48 : ∀ op x y xs ys (w : World), (eqGuard op 48 x y (.agg xs) (.agg ys)).run Try.prog w = .ok () w := fun op x y xs ys w => run_eqGuard_agg w op 48 x y xs ys (by kernel_rfl)
  have g50 : ∀ op x y xs ys (w : World), (eqGuard op 50 x y (.agg xs) (.agg ys)).run Try.prog w = .ok () w := fun op x y xs ys w => run_eqGuard_agg w op 50 x y xs ys (by kernel_rfl)
  have g53 : ∀ op x y xs ys (w : World), (eqGuard op 53 x y (.agg xs) (.agg ys)).run Try.prog w = .ok () w := fun op x y xs ys w => run_eqGuard_agg w op 53 x y xs ys (by kernel_rfl)
  have q45 : ∀ w : World, (binOp .neq 45 (.agg (chL p.c).toArray) (.agg (chL p.c).toArray)).run Try.prog w = .ok (.bool false) w := fun w => by rw [show false = !chB p.c p.c by rw [chB_self]; rfl]; exact eqv_neq (eq_chan 9997 _ _ _ _) w
  have q48 : ∀ w : World, (binOp .neq 48 (.agg (regL p.c).toArray) (.agg (regL p.c).toArray)).run Try.prog w = .ok (.bool false) w := fun w => by rw [show false = !rgB p.c p.c by rw [rgB_self]; rfl]; exact eqv_neq (eq_regs 9997 _ _) w
  have q50 : ∀ w : World, (binOp .neq 50 (.agg (fdL p.c).toArray) (.agg (fdL p.c).toArray)).run Try.prog w = .ok (.bool false) w := fun w => by rw [show false = !fdB p.c p.c by rw [fdB_self]; rfl]; exact eqv_neq (eq_fds 9998 _ _) w
  have q53 : ∀ w : World, (binOp .neq 53 (.agg (penL p.c).toArray) (.agg (penL p.c).toArray)).run Try.prog w = .ok (.bool false) w := fun w => by rw [show false = !peB p.c p.c by rw [peB_self]; rfl]; exact eqv_neq (eq_pend 9997 _ _) w
  obtain ⟨z, hz⟩ : ∃ z, z = w.heap.size := ⟨_, rfl⟩
  obtain ⟨W2, hW2, z1, hz1, k1, k2, hB2⟩ : ∃ W2, W2 = (w.alloc (.cells (p.l (.slice np1 n nc1) (.slice gp1 g gc1)).toArray 55)).alloc (.cells (p.l (.slice np2 n nc2) (.slice gp2 g gc2)).toArray 55) ∧ ∃ z1, z1 = z + 1 ∧ W2.heap[z]? = some (.cells (p.l (.slice np1 n nc1) (.slice gp1 g gc1)).toArray 55 (0, 0)) ∧ W2.heap[z1]? = some (.cells (p.l (.slice np2 n nc2) (.slice gp2 g gc2)).toArray 55 (0, 0)) ∧ Below z w W2 := by
    refine ⟨_, rfl, z + 1, rfl, ?_, ?_, ?_⟩
    · rw [hz]
      show ((w.heap.push _).push _)[w.heap.size]? = _
      rw [Array.getElem?_push, if_neg (by simp)]
      simp
    · rw [hz]
      show ((w.heap.push _).push _)[w.heap.size + 1]? = _
      rw [Array.getElem?_push, if_pos (by simp)]
    · rw [hz]
      exact ((Below.refl _ _).alloc (Nat.le_refl _) _).alloc (by simp) _
  have HW : Hid (W2 = (w.alloc (.cells (p.l (.slice np1 n nc1) (.slice gp1 g gc1)).toArray 55)).alloc (.cells (p.l (.slice np2 n nc2) (.slice gp2 g gc2)).toArray 55) ∧ z1 = z + 1 ∧ z = w.heap.size ∧ Below z w W2) := ⟨hW2, hz1, hz, hB2⟩
  have hrp := range_heap k1
  have hrq := range_heap k2
  have rp4 : W2.rangeAt z 4 (chL p.c) := by have := range_sub (k := 4) hrp (sub_of (s := chL p.c) rfl); simpa using this
  have rq4 : W2.rangeAt z1 4 (chL p.c) := by have := range_sub (k := 4) hrq (sub_of (s := chL p.c) rfl); simpa using this
  have rp8 : W2.rangeAt z 8 (regL p.c) := by have := range_sub (k := 8) hrp (sub_of (s := regL p.c) rfl); simpa using this
  have rq8 : W2.rangeAt z1 8 (regL p.c) := by have := range_sub (k := 8) hrq (sub_of (s := regL p.c) rfl); simpa using this
  have rp46 : W2.rangeAt z 46 (fdL p.c) := by have := range_sub (k := 46) hrp (sub_of (s := fdL p.c) rfl); simpa using this
  have rq46 : W2.rangeAt z1 46 (fdL p.c) := by have := range_sub (k := 46) hrq (sub_of (s := fdL p.c) rfl); simpa using this
  have rp64 : W2.rangeAt z 64 (penL p.c) := by have := range_sub (k := 64) hrp (sub_of (s := penL p.c) rfl); simpa using this
  have rq64 : W2.rangeAt z1 64 (penL p.c) := by have := range_sub (k := 64) hrq (sub_of (s := penL p.c) rfl); simpa using this
  have cp0 : W2.cell? ⟨z, 0, .none⟩ = some (.int .i64 (p.c 0)) := by have := hrp 0 _ rfl; rw [Nat.zero_add] at this; exact this
  have cq0 : W2.cell? ⟨z1, 0, .none⟩ = some (.int .i64 (p.c 0)) := by have := hrq 0 _ rfl; rw [Nat.zero_add] at this; exact this
  have cp1 : W2.cell? ⟨z, 1, .none⟩ = some (.int .i64 (p.c 1)) := by have := hrp 1 _ rfl; rw [Nat.zero_add] at this; exact this
  have cq1 : W2.cell? ⟨z1, 1, .none⟩ = some (.int .i64 (p.c 1)) := by have := hrq 1 _ rfl; rw [Nat.zero_add] at this; exact this
  have cp2 : W2.cell? ⟨z, 2, .none⟩ = some (.int .i64 (p.c 2)) := by have := hrp 2 _ rfl; rw [Nat.zero_add] at this; exact this
  have cq2 : W2.cell? ⟨z1, 2, .none⟩ = some (.int .i64 (p.c 2)) := by have := hrq 2 _ rfl; rw [Nat.zero_add] at this; exact this
  have cp3 : W2.cell? ⟨z, 3, .none⟩ = some (.int .i64 (p.c 3)) := by have := hrp 3 _ rfl; rw [Nat.zero_add] at this; exact this
  have cq3 : W2.cell? ⟨z1, 3, .none⟩ = some (.int .i64 (p.c 3)) := by have := hrq 3 _ rfl; rw [Nat.zero_add] at this; exact this
  have cp6 : W2.cell? ⟨z, 6, .none⟩ = some (.bool p.kil) := by have := hrp 6 _ rfl; rw [Nat.zero_add] at this; exact this
  have cq6 : W2.cell? ⟨z1, 6, .none⟩ = some (.bool p.kil) := by have := hrq 6 _ rfl; rw [Nat.zero_add] at this; exact this
  have cp7 : W2.cell? ⟨z, 7, .none⟩ = some (.int .i32 (p.c 7)) := by have := hrp 7 _ rfl; rw [Nat.zero_add] at this; exact this
  have cq7 : W2.cell? ⟨z1, 7, .none⟩ = some (.int .i32 (p.c 7)) := by have := hrq 7 _ rfl; rw [Nat.zero_add] at this; exact this
  have cp41 : W2.cell? ⟨z, 41, .none⟩ = some (.int .u64 (p.c 41)) := by have := hrp 41 _ rfl; rw [Nat.zero_add] at this; exact this
  have cq41 : W2.cell? ⟨z1, 41, .none⟩ = some (.int .u64 (p.c 41)) := by have := hrq 41 _ rfl; rw [Nat.zero_add] at this; exact this
  have cp44 : W2.cell? ⟨z, 44, .none⟩ = some (.slice np1 n nc1) := by have := hrp 44 _ rfl; rw [Nat.zero_add] at this; exact this
  have cq44 : W2.cell? ⟨z1, 44, .none⟩ = some (.slice np2 n nc2) := by have := hrq 44 _ rfl; rw [Nat.zero_add] at this; exact this
  have cp45 : W2.cell? ⟨z, 45, .none⟩ = some (.slice gp1 g gc1) := by have := hrp 45 _ rfl; rw [Nat.zero_add] at this; exact this
  have cq45 : W2.cell? ⟨z1, 45, .none⟩ = some (.slice gp2 g gc2) := by have := hrq 45 _ rfl; rw [Nat.zero_add] at this; exact this
  have cp62 : W2.cell? ⟨z, 62, .none⟩ = some (.int .i64 (p.c 62)) := by have := hrp 62 _ rfl; rw [Nat.zero_add] at this; exact this
  have cq62 : W2.cell? ⟨z1, 62, .none⟩ = some (.int .i64 (p.c 62)) := by have := hrq 62 _ rfl; rw [Nat.zero_add] at this; exact this
  have cp63 : W2.cell? ⟨z, 63, .none⟩ = some (.bool p.inC) := by have := hrp 63 _ rfl; rw [Nat.zero_add] at this; exact this
  have cq63 : W2.cell? ⟨z1, 63, .none⟩ = some (.bool p.inC) := by have := hrq 63 _ rfl; rw [Nat.zero_add] at this; exact this
  have HRR : Hid (W2.rangeAt z 0 (p.l (.slice np1 n nc1) (.slice gp1 g gc1)) ∧ W2.rangeAt z1 0 (p.l (.slice np2 n nc2) (.slice gp2 g gc2))) := ⟨hrp, hrq⟩
  clear hrp hrq k1 k2 hB2
  have HGW : Hid (Gs W2 X (.slice gp1 g gc1) p.pages ∧ Gs W2 Y (.slice gp2 g gc2) p.pages) := by
    have hb := HW.out.2.2.2
    have hzz := HW.out.2.2.1
    exact ⟨Sl.mono HG.out.1 (Nat.le_refl _) (hb.mono (by omega)) (fun _ _ _ q => q), Sl.mono HG.out.2 (Nat.le_refl _) (hb.mono (by omega)) (fun _ _ _ q => q)⟩
  have HWB : Hid (Below w.heap.size w W2) := by
    have hb := HW.out.2.2.2
    rw [HW.out.2.2.1] at hb
    exact hb
  go_enter Try.func50, Try.ntmps50
  go_upto_region 1 with (first
    | (refine wpList_is (.box 55 (.tmp 0)) rfl ?_; refine Great.wpList_boxTo rfl 55 (.tmp 0) rfl (some 2) rfl z hz.symm (p.l (.slice np1 n nc1) (.slice gp1 g gc1)).toArray rfl ?_)
    | (refine wpList_is (.box 55 (.tmp 1)) rfl ?_; refine Great.wpList_boxTo rfl 55 (.tmp 1) rfl (some 3) rfl z1 (by rw [hz1, hz]; simp) (p.l (.slice np2 n nc2) (.slice gp2 g gc2)).toArray rfl ?_; rw [← hW2]; clear hW2 hz hz1)
    | fail)
  go_cut [66] (fun s wc => s = .bool false ∧ wc = W2)
  case first =>
    go_wp2_with (first
        | (refine wpList_is (.load 45 (.tmp 33)) rfl ?_; refine wpList_loadW 45 _ Try.underlying45 rfl (chL p.c) (by kernel_rfl) z 4 (.tmp 33) rfl rfl rfl rp4 (some 34) rfl ?_)
        | (refine wpList_is (.load 45 (.tmp 35)) rfl ?_; refine wpList_loadW 45 _ Try.underlying45 rfl (chL p.c) (by kernel_rfl) z1 4 (.tmp 35) rfl rfl rfl rq4 (some 36) rfl ?_)
        | (refine wpList_is (.load 48 (.tmp 54)) rfl ?_; refine wpList_loadW 48 _ Try.underlying48 rfl (regL p.c) (by kernel_rfl) z 8 (.tmp 54) rfl rfl rfl rp8 (some 55) rfl ?_)
        | (refine wpList_is (.load 48 (.tmp 56)) rfl ?_; refine wpList_loadW 48 _ Try.underlying48 rfl (regL p.c) (by kernel_rfl) z1 8 (.tmp 56) rfl rfl rfl rq8 (some 57) rfl ?_)
        | fail)
    go_meet
    case rel => exact ⟨rfl, rfl⟩
  case rest =>
    obtain ⟨rfl, hwc⟩ := hcut
    rw [hwc]
    clear hwc
    go_wp2_with (first
        | (refine wpList_is (.load 50 (.tmp 67)) rfl ?_; refine wpList_loadW 50 _ Try.underlying50 rfl (fdL p.c) (by kernel_rfl) z 46 (.tmp 67) rfl rfl rfl rp46 (some 68) rfl ?_)
        | (refine wpList_is (.load 50 (.tmp 69)) rfl ?_; refine wpList_loadW 50 _ Try.underlying50 rfl (fdL p.c) (by kernel_rfl) z1 46 (.tmp 69) rfl rfl rfl rq46 (some 70) rfl ?_)
        | (refine wpList_is (.load 53 (.tmp 87)) rfl ?_; refine wpList_loadW 53 _ Try.underlying53 rfl (penL p.c) (by kernel_rfl) z 64 (.tmp 87) rfl rfl rfl rp64 (some 88) rfl ?_)
        | (refine wpList_is (.load 53 (.tmp 89)) rfl ?_; refine wpList_loadW 53 _ Try.underlying53 rfl (penL p.c) (by kernel_rfl) z1 64 (.tmp 89) rfl rfl rfl rq64 (some 90) rfl ?_)
        | fail)
    go_loopw [5] (fun k wr => ∃ i : Nat, i ≤ g ∧ k = .int .i64 i ∧ ∃ j, wr = W2.drewN j) (fun k _ => (g - intOf k).toNat)
    case atStart => exact ⟨0, by omega, rfl, 0, rfl⟩
    case round =>
      obtain ⟨i, hi, rfl, j, rfl⟩ := hrel
      by_cases hlt : i < g
      · have g0 : (i : Int) < g := by omega
        obtain ⟨-, b1, o1, x, cs, rfl, _, hx, rfl, _, hr1⟩ := HGW.out.1.at hlt
        obtain ⟨-, b2, o2, x2, cs2, rfl, _, hx2, rfl, _, hr2⟩ := HGW.out.2.at hlt
        rw [hx] at hx2
        injection hx2 with hx2
        subst hx2
        have a0 := hr1 0 _ rfl
        have a2 := hr1 2 _ rfl
        have b0 := hr2 0 _ rfl
        have b2' := hr2 2 _ rfl
        rw [Nat.add_zero] at a0 b0
        clear hx hr1 hr2
        go_wp2
        go_region
        go_wp2
        exact ⟨⟨i + 1, by omega, rfl, j + 1, rfl⟩, by simp only [intOf]; omega⟩
      · obtain rfl : i = g := by omega
        have g0 : ¬ (i : Int) < i := by omega
        clear hi hlt
        go_wp2
        go_ret
        exact ⟨rfl, HWB.out.trans (below_drewN _ _ _)⟩
end Go.Proofs.Ythopgmmodldljaa
