import Derived.Test.YthdlefbaegbldaaGreatDoorFt
import Derived.Laws.StructEq
namespace Go.Proofs.YthdlefbaegbldaaGreatDoor
open Go.RowKit
set_option linter.unusedVariables false
set_option linter.unusedSimpArgs false
set_option maxRecDepth 100000
theorem results_cell_tmp {P : Program} {fn : Func} {a p : Tmp} {ty : TypeId} (h : fn.results = #[.cell p ty, .tmp a]) (tmps : Array Value) (w : World) (ad : Addr) (v : Value) (hp : tmps.getD p undef = .pointer (some ad)) (hl : (loadVar ty ad).run P w = .ok v w) : (results fn tmps).run P w = .ok (.tuple #[v, tmps.getD a undef]) w := by
  have hp' : tmps[p]?.getD undef = .pointer (some ad) := by simpa using hp
  simp [results, h, hp', asAddr, hl]
theorem fieldsC : ∃ f g : Field, (Tryz.prog.fieldsOf 37).toList = [f, g] ∧ f.name ≠ "_" ∧ f.type = 3 ∧ f.offset = 0 ∧ g.name ≠ "_" ∧ g.type = 3 ∧ g.offset = 1 := by
  have h : (Tryz.prog.fieldsOf 37).toList.map (fun f => (f.name, f.type, f.offset)) = [("Kind", 3, 0), ("N", 3, 1)] := by kernel_rfl
  generalize (Tryz.prog.fieldsOf 37).toList = L at h
  cases L with
  | nil => cases h
  | cons f L =>
    cases L with
    | nil => simp at h
    | cons g L =>
      cases L with
      | cons _ _ => simp at h
      | nil =>
        simp only [List.map_cons, List.map_nil, List.cons.injEq, Prod.mk.injEq, and_true] at h
        obtain ⟨⟨a1, a2, a3⟩, b1, b2, b3⟩ := h
        exact ⟨f, g, rfl, by rw [a1]; decide, a2, a3, by rw [b1]; decide, b2, b3⟩
theorem eqC (a b c d : Int) (w : World) : (binOp .eql 37 (.agg #[.int .i64 a, .int .i64 b]) (.agg #[.int .i64 c, .int .i64 d])).run Tryz.prog w = .ok (.bool (a == c && b == d)) w := by
  obtain ⟨f, g, e, a1, a2, a3, b1, b2, b3⟩ := fieldsC
  have p0 : ∀ (a b : Int) (w : World), (part 3 #[.int .i64 a, .int .i64 b] 0).run Tryz.prog w = .ok (.int .i64 a) w := fun a b w => by kernel_rfl
  have p1 : ∀ (a b : Int) (w : World), (part 3 #[.int .i64 a, .int .i64 b] 1).run Tryz.prog w = .ok (.int .i64 b) w := fun a b w => by kernel_rfl
  rw [run_eql_struct, show (10000 : Nat) = 9999 + 1 from rfl, run_equalIn_struct w 9999 37 _ _ (by kernel_rfl) (by kernel_rfl), e]
  by_cases h1 : a = c
  · by_cases h2 : b = d
    · simp [Op.eqFields, a1, a2, a3, b1, b2, b3, p0, p1, run_equalIn_int _ 9998 3 _ _ _ _ Tryz.underlying3, h1, h2]
    · simp [Op.eqFields, a1, a2, a3, b1, b2, b3, p0, p1, run_equalIn_int _ 9998 3 _ _ _ _ Tryz.underlying3, h1, h2]
  · simp [Op.eqFields, a1, a2, a3, b1, b2, b3, p0, p1, run_equalIn_int _ 9998 3 _ _ _ _ Tryz.underlying3, h1]
theorem neC (a b c d : Int) (w : World) : (binOp .neq 37 (.agg #[.int .i64 a, .int .i64 b]) (.agg #[.int .i64 c, .int .i64 d])).run Tryz.prog w = .ok (.bool (!(a == c && b == d))) w := by
  obtain ⟨f, g, e, a1, a2, a3, b1, b2, b3⟩ := fieldsC
  have p0 : ∀ (a b : Int) (w : World), (part 3 #[.int .i64 a, .int .i64 b] 0).run Tryz.prog w = .ok (.int .i64 a) w := fun a b w => by kernel_rfl
  have p1 : ∀ (a b : Int) (w : World), (part 3 #[.int .i64 a, .int .i64 b] 1).run Tryz.prog w = .ok (.int .i64 b) w := fun a b w => by kernel_rfl
  rw [run_neq_struct, show (10000 : Nat) = 9999 + 1 from rfl, run_equalIn_struct w 9999 37 _ _ (by kernel_rfl) (by kernel_rfl), e]
  by_cases h1 : a = c
  · by_cases h2 : b = d
    · simp [Op.eqFields, a1, a2, a3, b1, b2, b3, p0, p1, run_equalIn_int _ 9998 3 _ _ _ _ Tryz.underlying3, h1, h2]
    · simp [Op.eqFields, a1, a2, a3, b1, b2, b3, p0, p1, run_equalIn_int _ 9998 3 _ _ _ _ Tryz.underlying3, h1, h2]
  · simp [Op.eqFields, a1, a2, a3, b1, b2, b3, p0, p1, run_equalIn_int _ 9998 3 _ _ _ _ Tryz.underlying3, h1]
end Go.Proofs.YthdlefbaegbldaaGreatDoor
namespace Go.Proofs.YthdlefbaegbldaaGreatDoor
open Go.RowKit
set_option linter.unusedVariables false
set_option linter.unusedSimpArgs false
set_option maxRecDepth 100000
attribute [local go_sem] eqC neC
theorem guardC (op : BinOp) (x y : Operand) (xs ys : Array Value) (w : World) : (eqGuard op 37 x y (.agg xs) (.agg ys)).run Tryz.prog w = .ok () w := run_eqGuard_agg w op 37 x y _ _ (by kernel_rfl)
attribute [local go_sem] guardC
theorem chans_nn (w : World) : Calls Tryz.prog 10 #[.slice none 0 0, .slice none 0 0] w fun e w' => e = .returned (.bool true) ∧ ∃ k, w' = w.drewN k := by
  go_enter Tryz.func10, Tryz.ntmps10
  go_wp2
  go_loopw [5] (fun k wr => k = .int .i64 0 ∧ wr = w) (fun _ _ => 0)
  case atStart => exact ⟨rfl, rfl⟩
  case round =>
    obtain ⟨rfl, rfl⟩ := hrel
    go_wp2
    go_ret
    exact ⟨rfl, 0, rfl⟩
theorem chans_no (w : World) (p : Option Addr) (c n m d : Nat) (q : Option Addr) (hn : n < 1000) (hm : m < 1000) (h : n ≠ m) : Calls Tryz.prog 10 #[.slice p n c, .slice q m d] w fun e w' => e = .returned (.bool false) ∧ ∃ k, w' = w.drewN k := by
  have i0 : ((n : Int) == (m : Int)) = false := by simp; omega
  have i1 : ((n : Int) != (m : Int)) = true := by simp; omega
  go_enter Tryz.func10, Tryz.ntmps10
  go_wp2
  go_ret
  exact ⟨rfl, 0, rfl⟩
set_option maxHeartbeats 1000000 in
theorem chans_oo (w : World) (g h : Nat) (l pp : Int) (a0 : w.cell? ⟨g, 0, .none⟩ = some (.int .i64 l)) (a1 : w.cell? ⟨g, 1, .none⟩ = some (.int .i64 pp)) (b0 : w.cell? ⟨h, 0, .none⟩ = some (.int .i64 l)) (b1 : w.cell? ⟨h, 1, .none⟩ = some (.int .i64 pp)) :
    Calls Tryz.prog 10 #[.slice (some ⟨g, 0, .none⟩) 1 1, .slice (some ⟨h, 0, .none⟩) 1 1] w fun e w' => e = .returned (.bool true) ∧ ∃ k, w' = w.drewN k := by
  have hne : (!(l == l && pp == pp)) = false := by simp
  go_enter Tryz.func10, Tryz.ntmps10
  go_wp2
  go_loopw [5] (fun k wr => ∃ i : Nat, i ≤ 1 ∧ k = .int .i64 i ∧ ∃ j, wr = w.drewN j) (fun k _ => (1 - intOf k).toNat)
  case atStart => exact ⟨0, by omega, rfl, 0, rfl⟩
  case round =>
    obtain ⟨i, hi, rfl, j, rfl⟩ := hrel
    by_cases hlt : i < 1
    · obtain rfl : i = 0 := by omega
      go_wp2
      go_region
      go_wp2
      exact ⟨⟨1, by omega, rfl, j + 1, rfl⟩, by simp only [intOf]; omega⟩
    · obtain rfl : i = 1 := by omega
      clear hi hlt
      go_wp2
      go_ret
      exact ⟨rfl, j, rfl⟩
theorem Ch1.sl {w : World} {base : Nat} {v : Value} {y : Bool} {l pp : Int} (h : Ch1 w base v y l pp) : (y = false ∧ v = .slice none 0 0) ∨ (y = true ∧ ∃ g, base ≤ g ∧ v = .slice (some ⟨g, 0, .none⟩) 1 1 ∧ w.cell? ⟨g, 0, .none⟩ = some (.int .i64 l) ∧ w.cell? ⟨g, 1, .none⟩ = some (.int .i64 pp)) := h
theorem chans_same {w : World} {ba bb : Nat} {a b : Value} {y : Bool} {l pp : Int} (ha : Ch1 w ba a y l pp) (hb : Ch1 w bb b y l pp) : Calls Tryz.prog 10 #[a, b] w fun e w' => e = .returned (.bool true) ∧ ∃ k, w' = w.drewN k := by
  rcases ha.sl with ⟨rfl, rfl⟩ | ⟨rfl, g, _, rfl, a0, a1⟩
  · rcases hb.sl with ⟨_, rfl⟩ | ⟨h, _⟩
    · exact chans_nn w
    · cases h
  · rcases hb.sl with ⟨h, _⟩ | ⟨_, h, _, rfl, b0, b1⟩
    · cases h
    · exact chans_oo w g h l pp a0 a1 b0 b1
/-- Against a list of just that one channel. -/
theorem chans_one {w : World} {ba h : Nat} {a : Value} {y : Bool} {l pp : Int} (ha : Ch1 w ba a y l pp) (b0 : w.cell? ⟨h, 0, .none⟩ = some (.int .i64 l)) (b1 : w.cell? ⟨h, 1, .none⟩ = some (.int .i64 pp)) : Calls Tryz.prog 10 #[a, .slice (some ⟨h, 0, .none⟩) 1 1] w fun e w' => e = .returned (.bool y) ∧ ∃ k, w' = w.drewN k := by
  rcases ha.sl with ⟨rfl, rfl⟩ | ⟨rfl, g, _, rfl, a0, a1⟩
  · exact chans_no w none 0 0 1 1 _ (by omega) (by omega) (by omega)
  · exact chans_oo w g h l pp a0 a1 b0 b1
end Go.Proofs.YthdlefbaegbldaaGreatDoor
namespace Go.Proofs.YthdlefbaegbldaaGreatDoor
open Go.RowKit
set_option linter.unusedVariables false
set_option linter.unusedSimpArgs false
set_option maxRecDepth 100000
attribute [local go_sem] eqC neC guardC
/-- An answer in a box of its own. -/
structure G5 (w : World) (z : Nat) (a0 : Int) (d : Value) (k n : Int) (v : Value) : Prop where
  c0 : w.cell? ⟨z, 0, .none⟩ = some (.int .i64 a0)
  c1 : w.cell? ⟨z, 1, .none⟩ = some d
  c2 : w.cell? ⟨z, 2, .none⟩ = some (.int .i64 k)
  c3 : w.cell? ⟨z, 3, .none⟩ = some (.int .i64 n)
  c4 : w.cell? ⟨z, 4, .none⟩ = some v
theorem G5.new (w : World) (a0 : Int) (d : Value) (k n : Int) (v : Value) : G5 (w.alloc (.cells #[.int .i64 a0, d, .int .i64 k, .int .i64 n, v] 45)) w.heap.size a0 d k n v :=
  ⟨by rw [World.cell?_alloc_at _ _ _ _ rfl]; rfl, by rw [World.cell?_alloc_at _ _ _ _ rfl]; rfl, by rw [World.cell?_alloc_at _ _ _ _ rfl]; rfl, by rw [World.cell?_alloc_at _ _ _ _ rfl]; rfl, by rw [World.cell?_alloc_at _ _ _ _ rfl]; rfl⟩
theorem G5.keep {w w' : World} {z : Nat} {a0 : Int} {d : Value} {k n : Int} {v : Value} (h : G5 w z a0 d k n v) (hb : w'.heap[z]? = w.heap[z]?) : G5 w' z a0 d k n v :=
  ⟨(World.cell?_of_block hb).trans h.c0, (World.cell?_of_block hb).trans h.c1, (World.cell?_of_block hb).trans h.c2, (World.cell?_of_block hb).trans h.c3, (World.cell?_of_block hb).trans h.c4⟩
set_option maxHeartbeats 2000000 in
theorem got_any {w : World} {ba bb : Nat} (a0 : Int) (p1 p2 : Option Addr) (m c1 c2 : Nat) (xs : List Int) (hm : m < 140737488355000) (h1 : Byt w p1 m c1 xs) (h2 : Byt w p2 m c2 xs) (k pp : Int) (q1 q2 : Option Addr) (m1 m2 d1 d2 : Nat) {y : Bool} {l pl : Int} (ha : Ch1 w ba (.slice q1 m1 d1) y l pl) (hb : Ch1 w bb (.slice q2 m2 d2) y l pl) :
    Calls Tryz.prog 13 #[.agg #[.int .i64 a0, .slice p1 m c1, .int .i64 k, .int .i64 pp, .slice q1 m1 d1], .agg #[.int .i64 a0, .slice p2 m c2, .int .i64 k, .int .i64 pp, .slice q2 m2 d2]] w fun e w' => e = .returned (.bool true) ∧ Below w.heap.size w w' := by
  obtain ⟨W, hW⟩ : ∃ W, W = (w.alloc (.cells #[.int .i64 a0, .slice p1 m c1, .int .i64 k, .int .i64 pp, .slice q1 m1 d1] 45)).alloc (.cells #[.int .i64 a0, .slice p2 m c2, .int .i64 k, .int .i64 pp, .slice q2 m2 d2] 45) := ⟨_, rfl⟩
  have HB : Hid (Below w.heap.size w W ∧ G5 W w.heap.size a0 (.slice p1 m c1) k pp (.slice q1 m1 d1) ∧ G5 W (w.heap.size + 1) a0 (.slice p2 m c2) k pp (.slice q2 m2 d2)) := by
    rw [hW]
    refine ⟨((Below.refl _ _).alloc (Nat.le_refl _) _).alloc (by simp) _, (G5.new w _ _ _ _ _).keep (Below.heap_alloc _ _ _ (by simp)), ?_⟩
    have := G5.new (w.alloc (.cells #[.int .i64 a0, .slice p1 m c1, .int .i64 k, .int .i64 pp, .slice q1 m1 d1] 45)) a0 (.slice p2 m c2) k pp (.slice q2 m2 d2)
    rwa [World.size_alloc] at this
  have HW : Hid ((w.alloc (.cells #[.int .i64 a0, .slice p1 m c1, .int .i64 k, .int .i64 pp, .slice q1 m1 d1] 45)).alloc (.cells #[.int .i64 a0, .slice p2 m c2, .int .i64 k, .int .i64 pp, .slice q2 m2 d2] 45) = W) := hW.symm
  have cb := bytes_any p1 p2 m c1 c2 xs W hm (byt_below h1 HB.out.1) (byt_below h2 HB.out.1)
  have HC : Hid (Ch1 W ba (.slice q1 m1 d1) y l pl ∧ Ch1 W bb (.slice q2 m2 d2) y l pl) := ⟨ha.below HB.out.1, hb.below HB.out.1⟩
  have e1 : (a0 == a0) = true := by simp
  have e2 : (k == k && pp == pp) = true := by simp
  clear hW h1 h2 ha hb
  have x0 := HB.out.2.1.c0
  have x1 := HB.out.2.1.c1
  have x2 := HB.out.2.1.c2
  have x3 := HB.out.2.1.c3
  have x4 := HB.out.2.1.c4
  have y0 := HB.out.2.2.c0
  have y1 := HB.out.2.2.c1
  have y2 := HB.out.2.2.c2
  have y3 := HB.out.2.2.c3
  have y4 := HB.out.2.2.c4
  go_enter Tryz.func13, Tryz.ntmps13
  go_upto_region 1 with fail
  rw [HW.out]
  clear HW
  go_wp2_with fail
  refine cb.mono ?_
  rintro _ V ⟨rfl, j, rfl⟩
  have cc := chans_same (w := W.drewN j) (HC.out.1.below ⟨rfl, rfl, rfl, Nat.le_refl _, fun _ _ => rfl⟩) (HC.out.2.below ⟨rfl, rfl, rfl, Nat.le_refl _, fun _ _ => rfl⟩)
  clear cb
  go_wp2_with fail
  refine cc.mono ?_
  rintro _ V ⟨rfl, j2, rfl⟩
  clear cc
  go_wp2
  go_ret
  exact ⟨rfl, HB.out.1.os, HB.out.1.tape, HB.out.1.output, HB.out.1.size, HB.out.1.block⟩
end Go.Proofs.YthdlefbaegbldaaGreatDoor
