import Derived.Test.YtacdgfojdkppmaaGreatDoorYp
import Derived.Test.YtacdgfojdkppmaaGreatDoorXj
namespace Go.Proofs.YtacdgfojdkppmaaGreatDoor
open Go.RowKit Go.Shelf
set_option linter.unusedVariables false
set_option linter.unusedSimpArgs false
/-- exec's own table, as a world has it. -/
structure Laid3 (w : World) : Prop where
  c0 : w.cell? ⟨3, 0, .none⟩ = some (.int .u32 4)
  c1 : w.cell? ⟨3, 1, .none⟩ = some (.int .u64 2)
  c2 : w.cell? ⟨3, 2, .none⟩ = some (.int .u32 2)
  c3 : w.cell? ⟨3, 3, .none⟩ = some (.int .u64 4)
  c4 : w.cell? ⟨3, 4, .none⟩ = some (.int .u32 1)
  c5 : w.cell? ⟨3, 5, .none⟩ = some (.int .u64 8)
theorem Laid3.below {w w' : World} (h : Laid3 w) (b : Below w.heap.size w w') : Laid3 w' :=
  have hl : 3 < w.heap.size := lt_of_cell h.c0
  ⟨(b.cell (p := ⟨3, 0, .none⟩) hl).trans h.c0, (b.cell (p := ⟨3, 1, .none⟩) hl).trans h.c1, (b.cell (p := ⟨3, 2, .none⟩) hl).trans h.c2, (b.cell (p := ⟨3, 3, .none⟩) hl).trans h.c3, (b.cell (p := ⟨3, 4, .none⟩) hl).trans h.c4, (b.cell (p := ⟨3, 5, .none⟩) hl).trans h.c5⟩
/-- A segment's rights, row by row. -/
def rga (fl : Int) (i : Nat) : Int := (if 1 ≤ i ∧ (fl = 4 ∨ fl = 5 ∨ fl = 6 ∨ fl = 7) then 2 else 0) + (if 2 ≤ i ∧ (fl = 6 ∨ fl = 7) then 4 else 0) + (if 3 ≤ i ∧ (fl = 1 ∨ fl = 5 ∨ fl = 7) then 8 else 0)
theorem rga_rgt {fl : Int} (h : fl = 1 ∨ fl = 4 ∨ fl = 5 ∨ fl = 6 ∨ fl = 7) : Rm.rgt (rga fl 3) := by
  unfold Rm.rgt
  rcases h with rfl | rfl | rfl | rfl | rfl <;> decide
theorem ix0 (w : World) : (Instr.index 209 (.agg #[.int .u32 4, .int .u64 2, .int .u32 2, .int .u64 4, .int .u32 1, .int .u64 8]) (.int .i64 0)).run Tryz.prog w = .ok (.agg #[.int .u32 4, .int .u64 2]) w := by kernel_rfl
theorem ix1 (w : World) : (Instr.index 209 (.agg #[.int .u32 4, .int .u64 2, .int .u32 2, .int .u64 4, .int .u32 1, .int .u64 8]) (.int .i64 1)).run Tryz.prog w = .ok (.agg #[.int .u32 2, .int .u64 4]) w := by kernel_rfl
theorem ix2 (w : World) : (Instr.index 209 (.agg #[.int .u32 4, .int .u64 2, .int .u32 2, .int .u64 4, .int .u32 1, .int .u64 8]) (.int .i64 2)).run Tryz.prog w = .ok (.agg #[.int .u32 1, .int .u64 8]) w := by kernel_rfl
set_option maxRecDepth 4000 in
set_option maxHeartbeats 2000000 in
theorem rightsOf_any {w : World} (h : Laid3 w) (fl : Int) (hf : fl = 1 ∨ fl = 4 ∨ fl = 5 ∨ fl = 6 ∨ fl = 7) : Calls Tryz.prog 110 #[.int .u32 fl] w fun e w' => e = .returned (.int .u64 (rga fl 3)) ∧ Below w.heap.size w w' := by
  obtain ⟨c0, c1, c2, c3, c4, c5⟩ := h
  have x0 := ix0
  have x1 := ix1
  have x2 := ix2
  rcases hf with rfl | rfl | rfl | rfl | rfl
  all_goals
    go_enter Tryz.func110, Tryz.ntmps110
    go_wp2_with fail
    clear c0 c1 c2 c3 c4 c5
  · go_loopw [3, 7] (fun a k wr => ∃ i : Nat, i ≤ 3 ∧ k = .int .i64 i ∧ a = .int .u64 (rga 1 i) ∧ Hid (Below w.heap.size w wr)) (fun _ k _ => (3 - intOf k).toNat)
    case atStart => exact ⟨0, by omega, rfl, by rw [show rga 1 0 = 0 by decide], Below.refl _ _⟩
    case round =>
      obtain ⟨i, hi, rfl, rfl, HB⟩ := hrel
      rcases (show i = 0 ∨ i = 1 ∨ i = 2 ∨ i = 3 by omega) with rfl | rfl | rfl | rfl
      · rw [show rga 1 0 = 0 by decide]
        go_wp2_with fail
        exact ⟨⟨1, by omega, rfl, (congrArg (Value.int .u64) (by decide)), HB.out.alloc HB.out.size _⟩, by simp only [intOf]; omega⟩
      · rw [show rga 1 1 = 0 by decide]
        go_wp2_with fail
        exact ⟨⟨2, by omega, rfl, (congrArg (Value.int .u64) (by decide)), HB.out.alloc HB.out.size _⟩, by simp only [intOf]; omega⟩
      · rw [show rga 1 2 = 0 by decide]
        go_wp2_with fail
        exact ⟨⟨3, by omega, rfl, (congrArg (Value.int .u64) (by decide)), HB.out.alloc HB.out.size _⟩, by simp only [intOf]; omega⟩
      · rw [show rga 1 3 = 8 by decide]
        go_wp2_with fail
        go_ret
        exact ⟨rfl, HB.out⟩
  · go_loopw [3, 7] (fun a k wr => ∃ i : Nat, i ≤ 3 ∧ k = .int .i64 i ∧ a = .int .u64 (rga 4 i) ∧ Hid (Below w.heap.size w wr)) (fun _ k _ => (3 - intOf k).toNat)
    case atStart => exact ⟨0, by omega, rfl, by rw [show rga 4 0 = 0 by decide], Below.refl _ _⟩
    case round =>
      obtain ⟨i, hi, rfl, rfl, HB⟩ := hrel
      rcases (show i = 0 ∨ i = 1 ∨ i = 2 ∨ i = 3 by omega) with rfl | rfl | rfl | rfl
      · rw [show rga 4 0 = 0 by decide]
        go_wp2_with fail
        exact ⟨⟨1, by omega, rfl, (congrArg (Value.int .u64) (by decide)), HB.out.alloc HB.out.size _⟩, by simp only [intOf]; omega⟩
      · rw [show rga 4 1 = 2 by decide]
        go_wp2_with fail
        exact ⟨⟨2, by omega, rfl, (congrArg (Value.int .u64) (by decide)), HB.out.alloc HB.out.size _⟩, by simp only [intOf]; omega⟩
      · rw [show rga 4 2 = 2 by decide]
        go_wp2_with fail
        exact ⟨⟨3, by omega, rfl, (congrArg (Value.int .u64) (by decide)), HB.out.alloc HB.out.size _⟩, by simp only [intOf]; omega⟩
      · rw [show rga 4 3 = 2 by decide]
        go_wp2_with fail
        go_ret
        exact ⟨rfl, HB.out⟩
  · go_loopw [3, 7] (fun a k wr => ∃ i : Nat, i ≤ 3 ∧ k = .int .i64 i ∧ a = .int .u64 (rga 5 i) ∧ Hid (Below w.heap.size w wr)) (fun _ k _ => (3 - intOf k).toNat)
    case atStart => exact ⟨0, by omega, rfl, by rw [show rga 5 0 = 0 by decide], Below.refl _ _⟩
    case round =>
      obtain ⟨i, hi, rfl, rfl, HB⟩ := hrel
      rcases (show i = 0 ∨ i = 1 ∨ i = 2 ∨ i = 3 by omega) with rfl | rfl | rfl | rfl
      · rw [show rga 5 0 = 0 by decide]
        go_wp2_with fail
        exact ⟨⟨1, by omega, rfl, (congrArg (Value.int .u64) (by decide)), HB.out.alloc HB.out.size _⟩, by simp only [intOf]; omega⟩
      · rw [show rga 5 1 = 2 by decide]
        go_wp2_with fail
        exact ⟨⟨2, by omega, rfl, (congrArg (Value.int .u64) (by decide)), HB.out.alloc HB.out.size _⟩, by simp only [intOf]; omega⟩
      · rw [show rga 5 2 = 2 by decide]
        go_wp2_with fail
        exact ⟨⟨3, by omega, rfl, (congrArg (Value.int .u64) (by decide)), HB.out.alloc HB.out.size _⟩, by simp only [intOf]; omega⟩
      · rw [show rga 5 3 = 10 by decide]
        go_wp2_with fail
        go_ret
        exact ⟨rfl, HB.out⟩
  · go_loopw [3, 7] (fun a k wr => ∃ i : Nat, i ≤ 3 ∧ k = .int .i64 i ∧ a = .int .u64 (rga 6 i) ∧ Hid (Below w.heap.size w wr)) (fun _ k _ => (3 - intOf k).toNat)
    case atStart => exact ⟨0, by omega, rfl, by rw [show rga 6 0 = 0 by decide], Below.refl _ _⟩
    case round =>
      obtain ⟨i, hi, rfl, rfl, HB⟩ := hrel
      rcases (show i = 0 ∨ i = 1 ∨ i = 2 ∨ i = 3 by omega) with rfl | rfl | rfl | rfl
      · rw [show rga 6 0 = 0 by decide]
        go_wp2_with fail
        exact ⟨⟨1, by omega, rfl, (congrArg (Value.int .u64) (by decide)), HB.out.alloc HB.out.size _⟩, by simp only [intOf]; omega⟩
      · rw [show rga 6 1 = 2 by decide]
        go_wp2_with fail
        exact ⟨⟨2, by omega, rfl, (congrArg (Value.int .u64) (by decide)), HB.out.alloc HB.out.size _⟩, by simp only [intOf]; omega⟩
      · rw [show rga 6 2 = 6 by decide]
        go_wp2_with fail
        exact ⟨⟨3, by omega, rfl, (congrArg (Value.int .u64) (by decide)), HB.out.alloc HB.out.size _⟩, by simp only [intOf]; omega⟩
      · rw [show rga 6 3 = 6 by decide]
        go_wp2_with fail
        go_ret
        exact ⟨rfl, HB.out⟩
  · go_loopw [3, 7] (fun a k wr => ∃ i : Nat, i ≤ 3 ∧ k = .int .i64 i ∧ a = .int .u64 (rga 7 i) ∧ Hid (Below w.heap.size w wr)) (fun _ k _ => (3 - intOf k).toNat)
    case atStart => exact ⟨0, by omega, rfl, by rw [show rga 7 0 = 0 by decide], Below.refl _ _⟩
    case round =>
      obtain ⟨i, hi, rfl, rfl, HB⟩ := hrel
      rcases (show i = 0 ∨ i = 1 ∨ i = 2 ∨ i = 3 by omega) with rfl | rfl | rfl | rfl
      · rw [show rga 7 0 = 0 by decide]
        go_wp2_with fail
        exact ⟨⟨1, by omega, rfl, (congrArg (Value.int .u64) (by decide)), HB.out.alloc HB.out.size _⟩, by simp only [intOf]; omega⟩
      · rw [show rga 7 1 = 2 by decide]
        go_wp2_with fail
        exact ⟨⟨2, by omega, rfl, (congrArg (Value.int .u64) (by decide)), HB.out.alloc HB.out.size _⟩, by simp only [intOf]; omega⟩
      · rw [show rga 7 2 = 6 by decide]
        go_wp2_with fail
        exact ⟨⟨3, by omega, rfl, (congrArg (Value.int .u64) (by decide)), HB.out.alloc HB.out.size _⟩, by simp only [intOf]; omega⟩
      · rw [show rga 7 3 = 14 by decide]
        go_wp2_with fail
        go_ret
        exact ⟨rfl, HB.out⟩
end Go.Proofs.YtacdgfojdkppmaaGreatDoor
namespace Go.Proofs.YtacdgfojdkppmaaGreatDoor
open Go.RowKit Go.Shelf
set_option linter.unusedVariables false
set_option linter.unusedSimpArgs false
/-- The pages below a segment's end. -/
def pgs (s : Sg) : Int := (s.va + s.mem + 4095) / 4096
/-- What may be done with a page. -/
def rgP (S : List Sg) (pg : Int) : Int := match S.find? (fun s => decide (pg < pgs s)) with | some s => rga s.fl 3 | none => 6
theorem rgP_hit {S : List Sg} {pg : Int} {i : Nat} {x : Sg} (hx : S[i]? = some x) (hb : ∀ j y, j < i → S[j]? = some y → ¬ pg < pgs y) (hp : pg < pgs x) : rgP S pg = rga x.fl 3 := by
  unfold rgP
  have : S.find? (fun s => decide (pg < pgs s)) = some x := by
    obtain ⟨hl, he⟩ := List.getElem?_eq_some_iff.1 hx
    rw [List.find?_eq_some_iff_getElem]
    exact ⟨by simpa using hp, i, hl, he, fun j hj => by
      have := hb j S[j] hj (List.getElem?_eq_getElem (by omega))
      simpa using this⟩
  rw [this]
theorem rgP_miss {S : List Sg} {pg : Int} (hb : ∀ (j : Nat) y, S[j]? = some y → ¬ pg < pgs y) : rgP S pg = 6 := by
  unfold rgP
  have : S.find? (fun s => decide (pg < pgs s)) = none := by
    rw [List.find?_eq_none]
    intro y hy
    obtain ⟨j, hj⟩ := List.mem_iff_getElem?.1 hy
    simpa using hb j y hj
  rw [this]
set_option maxRecDepth 4000 in
set_option maxHeartbeats 2000000 in
theorem rights_any {w : World} {X c : Nat} {q : Option Addr} {E : List (Sg × Value)} {B : Nat → Int} (h : Segs w X (.slice q E.length c) E B) (hL : Laid3 w) (hl : E.length ≤ 8) (en sp : Int) (dp : Option Addr) (dn dc : Nat) (pg : Int) :
    Calls Tryz.prog 62 #[.agg #[.int .u64 en, .slice q E.length c, .slice dp dn dc, .int .u64 sp], .int .i64 pg] w fun e w' => e = .returned (.int .u64 (rgP (E.map (·.1)) pg)) ∧ Below w.heap.size w w' := by
  obtain ⟨q', c', e', hc1, hc2, hq⟩ := own_form h.own
  cases e'
  have HS : Hid (Segs w X (.slice q E.length c) E B ∧ Laid3 w) := ⟨h, hL⟩
  obtain ⟨w1, hw1⟩ : ∃ w1, w1 = w.alloc (.cells #[.int .u64 en, .slice q E.length c, .slice dp dn dc, .int .u64 sp] 75) := ⟨_, rfl⟩
  have b1 : Below w.heap.size w w1 := by rw [hw1]; exact (Below.refl _ _).alloc (Nat.le_refl _) _
  have k1 : w1.cell? ⟨w.heap.size, 1, .none⟩ = some (.slice q E.length c) := by rw [hw1]; simp
  have HB1 : Hid (Below w.heap.size w w1) := b1
  clear h hL b1
  go_enter Tryz.func62, Tryz.ntmps62
  go_upto_region 1 with fail
  rw [← hw1]
  clear hw1
  go_wp2_with fail
  clear k1
  go_loopw [11] (fun a wr => ∃ i : Nat, i ≤ E.length ∧ a = .int .i64 i ∧ Hid ((∀ j y, j < i → (E.map (·.1))[j]? = some y → ¬ pg < pgs y) ∧ Below w.heap.size w wr)) (fun a _ => (E.length - intOf a).toNat)
  case atStart => exact ⟨0, by omega, rfl, fun j y hj => by omega, HB1.out⟩
  case round =>
    obtain ⟨i, hi, rfl, HR⟩ := hrel
    by_cases hlt : i < E.length
    · have g0 : (i : Int) < E.length := by omega
      obtain ⟨x, hx⟩ : ∃ x, E[i]? = some x := ⟨E[i], List.getElem?_eq_getElem hlt⟩
      have HS1 := HS.out.1.below HR.out.2
      obtain ⟨f0, f1, f2, f3⟩ := flatE_get E _ x hx
      obtain ⟨g, rfl, a0⟩ := own_cell HS1.own f0 (by omega) (by omega)
      obtain ⟨g1, e1, a1⟩ := own_cell HS1.own f1 (by omega) (by omega)
      obtain ⟨g2, e2, a2⟩ := own_cell HS1.own f2 (by omega) (by omega)
      obtain ⟨g3, e3, a3⟩ := own_cell HS1.own f3 (by omega) (by omega)
      simp only [Option.some.injEq, Addr.mk.injEq, and_true] at e1 e2 e3
      subst e1 e2 e3
      have hgd := HS1.gd x (List.mem_of_getElem? hx)
      obtain ⟨ldq, ldc, hld, _⟩ := own_form (HS1.dat x (List.mem_of_getElem? hx))
      rw [hld] at a2
      have c109 := fun W => below_any x.1.va x.1.fl x.1.mem ldq x.1.sz ldc W hgd.v hgd.m hgd.e
      have hxm : (E.map (·.1))[i]? = some x.1 := by rw [List.getElem?_map, hx]; rfl
      have HX : Hid ((E.map (·.1))[i]? = some x.1 ∧ (x.1.fl = 1 ∨ x.1.fl = 4 ∨ x.1.fl = 5 ∨ x.1.fl = 6 ∨ x.1.fl = 7)) := ⟨hxm, hgd.f⟩
      have hpg : (x.1.va + x.1.mem + 4095) / 4096 = pgs x.1 := rfl
      rw [hpg] at c109
      clear f0 f1 f2 f3 HS1 hgd hq hxm hx hld hpg
      generalize hpv : pgs x.1 = pv at c109
      have HV : Hid (pgs x.1 = pv) := hpv
      clear hpv
      have HA : Hid (Below w.heap.size w (wr.alloc (.cells #[.int .u64 x.1.va, .int .u32 x.1.fl, .slice ldq x.1.sz ldc, .int .u64 x.1.mem] 61))) := HR.out.2.alloc HR.out.2.size _
      by_cases hp : pg < pv
      · have HH : Hid (rgP (E.map (·.1)) pg = rga x.1.fl 3) := rgP_hit HX.out.1 (fun j y hj hy => HR.out.1 j y hj hy) (by rw [HV.out]; exact hp)
        go_upto_region 5 with (go_at_call 109; refine (c109 _).mono ?_; rintro _ w2 ⟨rfl, b2⟩; have H2 : Hid (Below w.heap.size w w2 ∧ w2.cell? ⟨wr.heap.size, 1, .none⟩ = some (.int .u32 x.1.fl)) := ⟨HA.out.trans (b2.mono HA.out.size), (b2.cell (p := ⟨wr.heap.size, 1, .none⟩) (by simp)).trans (by simp)⟩; clear b2)
        have k2 := H2.out.2
        have c110 := rightsOf_any (HS.out.2.below H2.out.1) x.1.fl HX.out.2
        go_wp2_with (go_at_call 110; refine c110.mono ?_; rintro _ w3 ⟨rfl, b3⟩)
        go_ret
        exact ⟨by rw [HH.out]; rfl, H2.out.1.trans (b3.mono H2.out.1.size)⟩
      · go_wp2_with (go_at_call 109; refine (c109 _).mono ?_; rintro _ w2 ⟨rfl, b2⟩; have H2 : Hid (Below w.heap.size w w2) := HA.out.trans (b2.mono HA.out.size); clear b2)
        refine ⟨⟨i + 1, by omega, rfl, fun j y hj hy => ?_, H2.out⟩, by simp only [intOf]; omega⟩
        rcases Nat.lt_or_ge j i with e | e
        · exact Int.not_lt.2 (HR.out.1 j y e hy)
        · obtain rfl : j = i := by omega
          rw [HX.out.1] at hy
          injection hy with hy
          rw [← hy, HV.out]
          exact Int.not_lt.2 hp
    · obtain rfl : i = E.length := by omega
      have HM : Hid (rgP (E.map (·.1)) pg = 6) := rgP_miss (fun j y hy => HR.out.1 j y (by have := (List.getElem?_eq_some_iff.1 hy).1; rw [List.length_map] at this; exact this) hy)
      go_wp2_with fail
      go_ret
      exact ⟨by rw [HM.out]; rfl, HR.out.2⟩
end Go.Proofs.YtacdgfojdkppmaaGreatDoor
namespace Go.Proofs.YtacdgfojdkppmaaGreatDoor
open Go.RowKit Go.Shelf
set_option linter.unusedVariables false
set_option linter.unusedSimpArgs false
theorem low_y1 (i : Nat) (h : i < 512) : Rm.y1 ((i : Int) * 4096) = 1 := by
  unfold Rm.y1 Rm.ch Rm.i2 Rm.ix Rm.spn
  simp
  omega
theorem low_y0 (i : Nat) (h : i < 512) : Rm.y0 ((i : Int) * 4096) = 513 := by
  unfold Rm.y0
  rw [low_y1 i h]
  unfold Rm.ch Rm.i1 Rm.ix Rm.spn
  simp
  omega
theorem low_i0 (i : Nat) (h : i < 512) : Rm.i0 ((i : Int) * 4096) = i := by
  unfold Rm.i0 Rm.ix Rm.spn
  simp
  omega
/-- A space in the making: so many pages, each with its rights, in the first node of level 0. -/
structure SpN (w : World) (s p b m N r : Nat) (S : List Sg) (j : Nat) (B : Nat → Int) (L : List Nat) (F : Nat → Option Nat) (lf : Nat → Nat → Int) : Prop where
  sp : Rm.Sp w s p (Rm.ad r) ((j : Int) * 4096)
  ram : Rm.Ram w p b m N B L
  pt : Rm.PT N L B F lf
  rt : F 0 = some r
  ne : s ≠ p ∧ s ≠ b ∧ s ≠ m
  pag : ∀ i : Nat, i < j → ∃ q, Rm.Pag N L F lf ((i : Int) * 4096) q (rgP S i + 208)
  zer : ∀ k, j ≤ k → k < 512 → lf 513 k = 0
  nod : j = 0 → F 1 = none
/-- What one more page wants. -/
def wnt (j : Nat) : Nat := if j = 0 then 2 else 0
theorem SpN.need {w : World} {s p b m N r : Nat} {S : List Sg} {j : Nat} {B : Nat → Int} {L : List Nat} {F : Nat → Option Nat} {lf : Nat → Nat → Int} (h : SpN w s p b m N r S j B L F lf) (hj : j < 512) : Rm.need F ((j : Int) * 4096) = wnt j := by
  unfold Rm.need wnt
  rw [low_y1 j hj, low_y0 j hj]
  by_cases h0 : j = 0
  · rw [if_pos (h.nod h0), if_pos h0]
  · obtain ⟨q, hq⟩ := h.pag 0 (by omega)
    obtain ⟨g1, e1⟩ := hq.w1
    obtain ⟨g0, e0⟩ := hq.w0
    rw [low_y1 0 (by omega)] at e1
    rw [low_y0 0 (by omega)] at e0
    rw [e1, e0, if_neg h0]
    simp
theorem rgP_b (S : List Sg) (hS : ∀ s ∈ S, s.fl = 1 ∨ s.fl = 4 ∨ s.fl = 5 ∨ s.fl = 6 ∨ s.fl = 7) (pg : Int) : Rm.rgt (rgP S pg) := by
  unfold rgP
  cases hf : S.find? (fun s => decide (pg < pgs s)) with
  | none => exact .inr (.inr (.inr (.inl rfl)))
  | some s => exact rga_rgt (hS s (List.mem_of_find?_eq_some hf))
theorem rgt_b {c : Int} (h : Rm.rgt c) : 0 ≤ c + 208 ∧ c + 208 < 256 ∧ (c + 208) % 2 = 0 := by rcases h with rfl | rfl | rfl | rfl | rfl <;> omega
/-- One more page, as a plain thing. -/
theorem SpN.step {w w' : World} {s p b m N r f : Nat} {S : List Sg} {j : Nat} {B B' : Nat → Int} {L1 L' : List Nat} {F F' : Nat → Option Nat} {lf : Nat → Nat → Int} (h : SpN w s p b m N r S j B (f :: L1) F lf) (hj : j < 512) (hS : ∀ s ∈ S, s.fl = 1 ∨ s.fl = 4 ∨ s.fl = 5 ∨ s.fl = 6 ∨ s.fl = 7)
    (hp : Rm.Sp w' s p (Rm.ad r) (((j : Int) + 1) * 4096)) (R : Rm.LP N ((j : Int) * 4096) (Rm.toP (Rm.ad f) (rgP S j + 208)) L1 (Rm.zer B f) F lf L' B' F') (hr : Rm.Ram w' p b m N B' L') :
    SpN w' s p b m N r S (j + 1) B' L' F' (Rm.setE lf 513 j (Rm.toP (Rm.ad f) (rgP S j + 208))) := by
  have hf := h.ram.lt f (List.mem_cons_self ..)
  have hN := h.ram.mem.n2
  have hnd := List.nodup_cons.1 h.ram.nd
  have hfL' : f ∉ L' := fun hm => hnd.1 (R.sub f hm)
  have hc := rgP_b S hS j
  have hpt := R.pt
  rw [low_y0 j hj, low_i0 j hj] at hpt
  refine ⟨by rw [show (((j + 1 : Nat) : Int)) = (j : Int) + 1 by omega]; exact hp, hr, hpt, R.ext 0 r h.rt, h.ne, fun i hi => ?_, fun k h1 h2 => ?_, fun e => by omega⟩
  · by_cases hij : i = j
    · subst hij
      obtain ⟨g, q, e1, e0⟩ := R.has
      refine ⟨f, ⟨g, e1⟩, ⟨q, e0⟩, ?_, (Rm.rgt_leaf hc hf.2 hN).1, rgt_b hc, ⟨hf.2, hfL'⟩, fun x hx => ?_⟩
      · rw [low_y0 i hj, low_i0 i hj]
        unfold Rm.setE
        rw [if_pos ⟨rfl, rfl⟩]
      · rcases R.new x f hx with e | ⟨e, _⟩
        · exact (h.pt.held x f e).2.2 (List.mem_cons_self ..)
        · exact hnd.1 e
    · obtain ⟨q, hq⟩ := h.pag i (by omega)
      obtain ⟨g1, e1⟩ := hq.w1
      obtain ⟨g0, e0⟩ := hq.w0
      refine ⟨q, ⟨g1, R.ext _ _ e1⟩, ⟨g0, R.ext _ _ e0⟩, ?_, hq.k, hq.cb, ⟨hq.qb.1, fun hm => hq.qb.2 (List.mem_cons_of_mem _ (R.sub q hm))⟩, fun x hx => ?_⟩
      · have := hq.l
        rw [low_y0 i (by omega), low_i0 i (by omega)] at this ⊢
        unfold Rm.setE
        rw [if_neg (fun e => hij e.2)]
        exact this
      · rcases R.new x q hx with e | ⟨e, _⟩
        · exact hq.nn x e
        · exact hq.qb.2 (List.mem_cons_of_mem _ e)
  · unfold Rm.setE
    rw [if_neg (fun e => by omega)]
    exact h.zer k (by omega) h2
end Go.Proofs.YtacdgfojdkppmaaGreatDoor
namespace Go.Proofs.YtacdgfojdkppmaaGreatDoor
open Go.RowKit Go.Shelf
set_option linter.unusedVariables false
set_option linter.unusedSimpArgs false
theorem SpN.below {w w' : World} {s p b m N r : Nat} {S : List Sg} {j : Nat} {B : Nat → Int} {L : List Nat} {F : Nat → Option Nat} {lf : Nat → Nat → Int} (h : SpN w s p b m N r S j B L F lf) (k : Below w.heap.size w w') : SpN w' s p b m N r S j B L F lf :=
  ⟨h.sp.below k, h.ram.below k, h.pt, h.rt, h.ne, h.pag, h.zer, h.nod⟩
theorem own_fra {w w' : World} {p b m X e k n : Nat} {v : Value} {xs : List Value} (h : w.ownsRow X e k v n xs) (f : Rm.Fra p b m w w') (hx : p < X ∧ b < X ∧ m < X) : w'.ownsRow X e k v n xs := by
  refine ⟨h.1, ?_⟩
  rcases h.2 with h0 | ⟨g, cap, cur, hv, h1, h2, h3⟩
  · exact .inl h0
  · exact .inr ⟨g, cap, cur, hv, h1, (f.block g (Array.getElem?_eq_some_iff.1 h2).1 (by omega) (by omega) (by omega)).trans h2, h3⟩
theorem Segs.fra {w w' : World} {p b m X : Nat} {sv : Value} {E : List (Sg × Value)} {B : Nat → Int} (h : Segs w X sv E B) (f : Rm.Fra p b m w w') (hx : p < X ∧ b < X ∧ m < X) : Segs w' X sv E B :=
  ⟨own_fra h.own f hx, fun x hm => own_fra (h.dat x hm) f hx, h.gd⟩
theorem Laid3.fra {w w' : World} {p b m : Nat} (h : Laid3 w) (f : Rm.Fra p b m w w') (h1 : 3 < p ∧ 3 < b ∧ 3 < m) : Laid3 w' :=
  have hl : 3 < w.heap.size := lt_of_cell h.c0
  have k : ∀ i, w'.cell? ⟨3, i, .none⟩ = w.cell? ⟨3, i, .none⟩ := fun i => f.cell (x := ⟨3, i, .none⟩) hl (by show 3 ≠ p; omega) (by show 3 ≠ b; omega) (by show 3 ≠ m; omega)
  ⟨(k 0).trans h.c0, (k 1).trans h.c1, (k 2).trans h.c2, (k 3).trans h.c3, (k 4).trans h.c4, (k 5).trans h.c5⟩
/-- How many frames pages take. -/
def tk (j : Nat) : Nat := if j = 0 then 0 else j + 2
def GwP (w0 w1 : World) (s p b m N r : Nat) (S : List Sg) (j n : Nat) (w : World) : Prop := Rm.Fra p b m w0 w ∧ Rm.Tch p b m s w1 w ∧ ∃ B L F lf, SpN w s p b m N r S j B L F lf ∧ L.length + tk j = n
theorem ndP_step (j : Nat) (h : j < 512) : 1 + Rm.ndP ((j : Int) + 1) - Rm.ndP j = if j = 0 then 3 else 1 := by
  unfold Rm.ndP
  split <;> split <;> split <;> omega
set_option maxRecDepth 4000 in
set_option maxHeartbeats 2000000 in
theorem exGrow_any {w0 wi w : World} {s p b m N r : Nat} {X c : Nat} {q : Option Addr} {E : List (Sg × Value)} {Bq : Nat → Int} (hE : Segs w0 X (.slice q E.length c) E Bq) (hL : Laid3 w0) (hl : E.length ≤ 8) (en sp : Int) (dp : Option Addr) (dn dc : Nat)
    (hX : p < X ∧ b < X ∧ m < X) (h3 : 3 < p ∧ 3 < b ∧ 3 < m) (hs : w0.heap.size ≤ s) (n P : Nat) (hP : 1 ≤ P ∧ P ≤ 512) (hn : P + 2 ≤ n) (h0 : GwP w0 wi s p b m N r (E.map (·.1)) 0 n w) :
    Calls Tryz.prog 61 #[.pointer (some ⟨s, 0, .none⟩), .int .i64 P, .func (.func 62) #[.agg #[.int .u64 en, .slice q E.length c, .slice dp dn dc, .int .u64 sp]] #[]] w fun e w' => e = .returned (.tuple #[]) ∧ GwP w0 wi s p b m N r (E.map (·.1)) P n w' := by
  have HE : Hid (Segs w0 X (.slice q E.length c) E Bq ∧ Laid3 w0) := ⟨hE, hL⟩
  have H0 : Hid (GwP w0 wi s p b m N r (E.map (·.1)) 0 n w) := h0
  have HF : Hid (∀ y ∈ E.map (·.1), y.fl = 1 ∨ y.fl = 4 ∨ y.fl = 5 ∨ y.fl = 6 ∨ y.fl = 7) := fun y hy => by
    obtain ⟨x, hx, rfl⟩ := List.mem_map.1 hy
    exact (hE.gd x hx).f
  obtain ⟨hP1, hP2⟩ := hP
  clear hE hL h0
  go_enter Tryz.func61, Tryz.ntmps61
  go_wp2_with fail
  go_loopw [8] (fun k wr => ∃ j : Nat, j ≤ P ∧ k = .int .i64 j ∧ Hid (GwP w0 wi s p b m N r (E.map (·.1)) j n wr)) (fun k _ => (P - intOf k).toNat)
  case atStart => exact ⟨0, by omega, rfl, H0⟩
  case round =>
    obtain ⟨j, hj, rfl, HG⟩ := hrel
    by_cases hlt : j < P
    · have g0 : (j : Int) < P := by omega
      obtain ⟨hfr, htc, B, L, F, lf, hN, hlen⟩ := HG.out
      obtain ⟨f, L1, rfl⟩ : ∃ f L1, L = f :: L1 := by
        cases L with
        | nil => unfold tk at hlen; split at hlen <;> simp at hlen <;> omega
        | cons f L1 => exact ⟨f, L1, rfl⟩
      have c62 := rights_any (HE.out.1.fra hfr hX) (HE.out.2.fra hfr h3) hl en sp dp dn dc (j : Int)
      have c104 := fun W => addr_any ((j : Int) + 1) W (by omega)
      have hjj : j < 512 := by omega
      have hnd := ndP_step j hjj
      have hneed := hN.need hjj
      have hlen' : wnt j ≤ L1.length ∧ (if j = 0 then (3 : Int) else 1) ≤ (f :: L1).length := by
        unfold wnt
        unfold tk at hlen
        simp only [List.length_cons] at hlen ⊢
        split at hlen <;> rename_i e <;> simp only [e, if_true, if_false] <;> omega
      have hz : lf (Rm.y0 ((j : Int) * 4096)) (Rm.i0 ((j : Int) * 4096)) = 0 := by rw [low_y0 j hjj, low_i0 j hjj]; exact hN.zer j (Nat.le_refl _) hjj
      have hN4 := hN.ram.mem.n2
      have hlenN := Rm.len_le hN.ram
      have HN : Hid (SpN wr s p b m N r (E.map (·.1)) j B (f :: L1) F lf ∧ Rm.Fra p b m w0 wr ∧ (f :: L1).length + tk j = n ∧ Rm.Tch p b m s wi wr) := ⟨hN, hfr, hlen, htc⟩
      have HC : Hid (∀ W, Below wr.heap.size wr W → Calls Tryz.prog 108 #[.pointer (some ⟨s, 0, .none⟩), .int .u64 (((j : Int) + 1) * 4096), .int .u64 (rgP (E.map (·.1)) j)] W fun e w' => e = .returned (.int .i64 0) ∧ Rm.GrP W s p b m N B f L1 F lf r (j : Int) (rgP (E.map (·.1)) j) w') := fun W bW => by
        have h1 := hN.below bW
        exact Rm.grow_pt h1.sp h1.ram h1.pt h1.rt h1.ne (by omega) (rgP_b _ HF.out _) hz (by rw [hneed]; exact hlen'.1) (by rw [hnd]; exact hlen'.2)
      generalize hrg : rgP (E.map (·.1)) j = rg at c62 HC
      have HR : Hid (rgP (E.map (·.1)) j = rg ∧ Rm.need F ((j : Int) * 4096) = wnt j ∧ wnt j ≤ L1.length) := ⟨hrg, hneed, hlen'.1⟩
      clear hrg hN hfr hlen hz hneed hnd hlen' htc
      go_wp2_with first | (go_at_call 104; refine (c104 _).mono ?_; rintro _ w1 ⟨rfl, e1⟩; obtain rfl : wr = w1 := e1.symm) | (go_at_call 62; refine c62.mono ?_; rintro _ w2 ⟨rfl, b2⟩; have H2 : Hid (Below wr.heap.size wr w2) := b2; clear b2) | (go_at_call 108; refine (HC.out _ H2.out).mono ?_; rintro _ w3 ⟨rfl, hg⟩; have H3 : Hid (Rm.GrP w2 s p b m N B f L1 F lf r (j : Int) rg w3) := hg; clear hg)
      refine ⟨⟨j + 1, by omega, rfl, ?_⟩, by simp only [intOf]; omega⟩
      obtain ⟨g1, ⟨B', L', F', R, ec, rm⟩, gs, go1, go2, go3, gb⟩ := H3.out
      have hst := (HN.out.1.below H2.out).step hjj HF.out g1 (by rw [HR.out.1]; exact R) rm
      rw [HR.out.1] at hst
      refine ⟨⟨go1.trans (H2.out.os.trans HN.out.2.1.os), go2.trans (H2.out.tape.trans HN.out.2.1.tape), go3.trans (H2.out.output.trans HN.out.2.1.output), Nat.le_trans HN.out.2.1.size (Nat.le_trans H2.out.size gs), fun k hk h1 h2 h3 => ?_⟩, (HN.out.2.2.2.trans (Rm.Tch.of (Rm.Fra.below H2.out))).trans ⟨go1, go2, go3, gs, gb⟩, B', L', F', _, hst, ?_⟩
      · have hkw : k < wr.heap.size := Nat.lt_of_lt_of_le hk HN.out.2.1.size
        rw [gb k (Nat.lt_of_lt_of_le hkw H2.out.size) h1 h2 h3 (by omega), H2.out.block k hkw]
        exact HN.out.2.1.block k hk h1 h2 h3
      · have e1 := congrArg List.length ec
        rw [HR.out.2.1, List.length_append, List.length_take, Nat.min_eq_left HR.out.2.2] at e1
        have e2 := HN.out.2.2.1
        simp only [List.length_cons] at e2
        unfold tk at e2 ⊢
        unfold wnt at e1
        split at e2 <;> rename_i e <;> simp only [e, if_true, if_false] at e1 <;> simp <;> omega
    · obtain rfl : j = P := by omega
      go_wp2_with fail
      exact bodyPost_end (v := .tuple #[]) (by simp [results, Tryz.results61, go_sem]) rfl ⟨rfl, HG.out⟩
end Go.Proofs.YtacdgfojdkppmaaGreatDoor
namespace Go.Proofs.YtacdgfojdkppmaaGreatDoor
open Go.RowKit Go.Shelf
set_option linter.unusedVariables false
set_option linter.unusedSimpArgs false
/-- Bytes poked into a page: the space stays. -/
theorem SpN.poke {w w' : World} {s p b m N r q o n : Nat} {S : List Sg} {j : Nat} {B : Nat → Int} {L : List Nat} {F : Nat → Option Nat} {lf : Nat → Nat → Int} {R : Nat → Int} (h : SpN w s p b m N r S j B L F lf) (hq : ∀ x, F x ≠ some q) (ho : o + n ≤ 4096)
    (hr : Rm.Ram w' p b m N (Rm.over B (q * 4096 + o) ((List.range n).map R)) L) (f : Rm.Fra p b m w w') : SpN w' s p b m N r S j (Rm.over B (q * 4096 + o) ((List.range n).map R)) L F lf := by
  refine ⟨h.sp.fra f h.ne.1 h.ne.2.1 h.ne.2.2, hr, h.pt.keep (fun x g hx k hk => ?_) (fun x g hx => (h.pt.held x g hx).2.2), h.rt, h.ne, h.pag, h.zer, h.nod⟩
  have hgq : g ≠ q := fun e => hq x (by rw [← e]; exact hx)
  unfold Rm.over
  rw [if_neg]
  simp only [List.length_map, List.length_range]
  rcases Nat.lt_or_gt_of_ne hgq with h | h <;> omega
end Go.Proofs.YtacdgfojdkppmaaGreatDoor
namespace Go.Proofs.YtacdgfojdkppmaaGreatDoor
open Go.RowKit Go.Shelf
set_option linter.unusedVariables false
set_option linter.unusedSimpArgs false
/-- A plan's four cells. -/
def Z4 (w : World) (Z : Nat) (en : Int) (g c gp : Nat) (sp : Int) : Prop := w.cell? ⟨Z, 0, .none⟩ = some (.int .u64 en) ∧ w.cell? ⟨Z, 1, .none⟩ = some (.slice (some ⟨g, 0, .none⟩) 1 c) ∧ w.cell? ⟨Z, 2, .none⟩ = some (.slice (some ⟨gp, 0, .none⟩) 4096 4096) ∧ w.cell? ⟨Z, 3, .none⟩ = some (.int .u64 sp)
theorem Z4.of {w w' : World} {Z : Nat} {en : Int} {g c gp : Nat} {sp : Int} (h : Z4 w Z en g c gp sp) (k : w'.heap[Z]? = w.heap[Z]?) : Z4 w' Z en g c gp sp :=
  ⟨(cell_heap k _ _).trans h.1, (cell_heap k _ _).trans h.2.1, (cell_heap k _ _).trans h.2.2.1, (cell_heap k _ _).trans h.2.2.2⟩
def LiP (w0 : World) (p b m N e n : Nat) (en : Ending) (w' : World) : Prop := en = .returned (.tuple #[]) ∧ Rm.Fra p b m w0 w' ∧ ∃ B L, Rm.Ram w' p b m N B L ∧ L.length + tk (e + 2) = n
set_option maxRecDepth 4000 in
set_option maxHeartbeats 4000000 in
theorem layInto_any {w0 w : World} {s p b m N r : Nat} {X c g gp : Nat} {x : Sg × Value} {Bq Rp : Nat → Int} (hE : Segs w0 X (.slice (some ⟨g, 0, .none⟩) 1 c) [x] Bq) (hL : Laid3 w0) (en sp : Int)
    (hX : p < X ∧ b < X ∧ m < X) (hgp : p < gp ∧ b < gp ∧ m < gp ∧ gp < w0.heap.size) (hRp : ∀ i, 0 ≤ Rp i ∧ Rp i < 256) (hpg : ∀ i, i < 4096 → w0.cell? ⟨gp, i, .none⟩ = some (.int .u8 (Rp i))) (h3 : 3 < p ∧ 3 < b ∧ 3 < m) (hpw : p < w0.heap.size ∧ b < w0.heap.size ∧ m < w0.heap.size) (hs : w0.heap.size ≤ s)
    (hB : ∀ i, 0 ≤ Bq i ∧ Bq i < 256) (hva : x.1.va = 0) (hsz : 1 ≤ x.1.sz ∧ x.1.sz ≤ 4096) (e : Nat) (he : pgs x.1 = e) (he2 : 1 ≤ e ∧ e + 2 ≤ 512) (n : Nat) (hn : e + 4 ≤ n) (h0 : GwP w0 w s p b m N r [x.1] 0 n w) :
    Calls Tryz.prog 28 #[(.agg #[.int .u64 en, .slice (some ⟨g, 0, .none⟩) 1 c, .slice (some ⟨gp, 0, .none⟩) 4096 4096, .int .u64 sp]), .pointer (some ⟨s, 0, .none⟩)] w (LiP w0 p b m N e n) := by
  obtain ⟨Z, hZ⟩ : ∃ Z, Z = w.heap.size := ⟨_, rfl⟩
  obtain ⟨w1, hw1⟩ : ∃ w1, w1 = w.alloc (.cells #[.int .u64 en, .slice (some ⟨g, 0, .none⟩) 1 c, .slice (some ⟨gp, 0, .none⟩) 4096 4096, .int .u64 sp] 75) := ⟨_, rfl⟩
  have b1 : Below w.heap.size w w1 := by rw [hw1]; exact (Below.refl _ _).alloc (Nat.le_refl _) _
  have z1 : w1.heap.size = Z + 1 := by rw [hw1, hZ]; simp
  have kS : Z4 w1.drew Z en g c gp sp := by
    have : Z4 w1 Z en g c gp sp := by rw [hw1, hZ]; exact ⟨by simp, by simp, by simp, by simp⟩
    exact this
  obtain ⟨hf0, _, B, L, F, lf, hN0, hlen0⟩ := h0
  have hsw : s < w.heap.size := hN0.sp.lt
  have hw0 : w0.heap.size ≤ w.heap.size := hf0.size
  have hePg : ePg ([x].map (·.1)) = (e : Int) := by rw [← he]; rfl
  have f1 : Rm.Fra p b m w0 w1.drew := hf0.trans ((Rm.Fra.below b1).trans (Rm.Fra.below (Below.refl _ _).drew))
  have hE1 := hE.fra f1 hX
  have c58 := pages_any (w := w1.drew) (E := [x]) hE1 (by simp) (by simp) en sp (some ⟨gp, 0, .none⟩) 4096 4096
  rw [hePg] at c58
  have HN0 : Hid (SpN w1.drew s p b m N r [x.1] 0 B L F lf ∧ L.length + tk 0 = n) := ⟨(hN0.below b1).below (Below.refl _ _).drew, hlen0⟩
  have HE : Hid (Segs w0 X (.slice (some ⟨g, 0, .none⟩) 1 c) [x] Bq ∧ Laid3 w0 ∧ Rm.Fra p b m w0 w1.drew) := ⟨hE, hL, f1⟩
  have HR : Hid ((∀ i, 0 ≤ Rp i ∧ Rp i < 256) ∧ (∀ i, i < 4096 → w0.cell? ⟨gp, i, .none⟩ = some (.int .u8 (Rp i))) ∧ (∀ i, 0 ≤ Bq i ∧ Bq i < 256)) := ⟨hRp, hpg, hB⟩
  clear hE hL hRp hpg hB hN0 hlen0 hf0 f1 hE1
  go_enter Tryz.func28, Tryz.ntmps28
  go_upto_region 1 with fail
  rw [← hw1, ← hZ]
  have HZ : Hid (Z = w.heap.size ∧ Below w.heap.size w w1) := ⟨hZ, b1⟩
  have hZge : w.heap.size ≤ Z := by omega
  clear hw1 hZ b1
  refine wp_region_held_drew (S := (fun U => Z4 U Z en g c gp sp)) (by kernel_rfl) kS (fun hHeld => ?_)
  refine wpAnyH_take (i := 0) (v := (.pointer (some ⟨s, 0, .none⟩))) rfl (by kernel_rfl) (by kernel_rfl) (by kernel_rfl) (fun _ _ _ h => h) (Or.inl ⟨by rfl, fun ww hSw => by obtain ⟨q0, q1, q2, q3⟩ := hSw; go_simp⟩) (by assumption) ?_
  simp only [Act.put, List.setIfInBounds_toArray, List.set_cons_zero, List.set_cons_succ, List.getElem_toArray, List.getElem_cons_succ, List.getElem_cons_zero]
  refine wpAnyH_take (i := 1) (v := (.agg #[.int .u64 en, .slice (some ⟨g, 0, .none⟩) 1 c, .slice (some ⟨gp, 0, .none⟩) 4096 4096, .int .u64 sp])) rfl (by kernel_rfl) (by kernel_rfl) (by kernel_rfl) (fun _ _ _ h => h) (Or.inl ⟨by rfl, fun ww hSw => by obtain ⟨q0, q1, q2, q3⟩ := hSw; go_simp⟩) (by assumption) ?_
  simp only [Act.put, List.setIfInBounds_toArray, List.set_cons_zero, List.set_cons_succ, List.getElem_toArray, List.getElem_cons_succ, List.getElem_cons_zero]
  refine wpAnyH_take (i := 3) (v := (.agg #[.int .u64 en, .slice (some ⟨g, 0, .none⟩) 1 c, .slice (some ⟨gp, 0, .none⟩) 4096 4096, .int .u64 sp])) rfl (by kernel_rfl) (by kernel_rfl) (by kernel_rfl) (fun _ _ _ h => h) (Or.inl ⟨by rfl, fun ww hSw => by obtain ⟨q0, q1, q2, q3⟩ := hSw; go_simp⟩) (by assumption) ?_
  simp only [Act.put, List.setIfInBounds_toArray, List.set_cons_zero, List.set_cons_succ, List.getElem_toArray, List.getElem_cons_succ, List.getElem_cons_zero]
  refine wpAnyH_take (i := 4) (v := (.func (.func 62) #[(.agg #[.int .u64 en, .slice (some ⟨g, 0, .none⟩) 1 c, .slice (some ⟨gp, 0, .none⟩) 4096 4096, .int .u64 sp])] #[])) rfl (by kernel_rfl) (by kernel_rfl) (by kernel_rfl) (fun _ _ _ h => h) (Or.inl ⟨by rfl, fun ww hSw => by obtain ⟨q0, q1, q2, q3⟩ := hSw; go_simp⟩) (by assumption) ?_
  simp only [Act.put, List.setIfInBounds_toArray, List.set_cons_zero, List.set_cons_succ, List.getElem_toArray, List.getElem_cons_succ, List.getElem_cons_zero]
  refine wpAnyH_ready (rs := [2]) (by kernel_rfl) (by simp) ?_
  refine AllReadyH.cons rfl (fun K hK => ?_) AllReadyH.nil
  go_simp
  go_at_call 58
  refine c58.mono ?_
  rintro _ w2 ⟨rfl, b2⟩
  have kS2 : Z4 w2 Z en g c gp sp := kS.of (b2.block Z (by show Z < w1.heap.size; omega))
  have HB2 : Hid (Below w1.drew.heap.size w1.drew w2 ∧ Rm.Fra p b m w0 w2) := ⟨b2, HE.out.2.2.trans (Rm.Fra.below b2)⟩
  have hz2 : Z + 1 ≤ w2.heap.size := by have := b2.size; show Z + 1 ≤ _; have hh : w1.drew.heap.size = w1.heap.size := rfl; omega
  clear b2 c58
  refine hK.out _ _ kS2 (fun hHeld => ?_)
  clear hK K
  try simp only [Act.put, List.setIfInBounds_toArray, List.set_cons_zero, List.set_cons_succ, List.getElem_toArray, List.getElem_cons_succ, List.getElem_cons_zero]
  have c61 := exGrow_any (w0 := w0) (wi := w2) (w := w2) (E := [x]) HE.out.1 HE.out.2.1 (by simp) en sp (some ⟨gp, 0, .none⟩) 4096 4096 hX h3 hs n (e + 2) (by omega) (by omega) ⟨HB2.out.2, Rm.Tch.of (Rm.Fra.refl _ _ _ _), B, L, F, lf, HN0.out.1.below HB2.out.1, HN0.out.2⟩
  rw [show (((e + 2 : Nat) : Int)) = (e : Int) + 2 by omega] at c61
  refine wpAnyH_ready (rs := [5]) (by kernel_rfl) (by simp) ?_
  refine AllReadyH.cons rfl (fun K hK => ?_) AllReadyH.nil
  go_simp
  go_at_call 61
  refine c61.mono ?_
  rintro _ w3 ⟨rfl, hf3, ht3, B3, L3, F3, lf3, hN3, hlen3⟩
  have kS3 : Z4 w3 Z en g c gp sp := kS2.of (ht3.block Z (by omega) (by omega) (by omega) (by omega) (by have := HZ.out.1; omega))
  have H3 : Hid (Rm.Fra p b m w0 w3 ∧ SpN w3 s p b m N r [x.1] (e + 2) B3 L3 F3 lf3 ∧ L3.length + tk (e + 2) = n) := ⟨hf3, hN3, hlen3⟩
  have hz3 := ht3.size
  clear hf3 ht3 hN3 hlen3 c61
  refine hK.out _ _ kS3 (fun hHeld => ?_)
  clear hK K
  try simp only [Act.put, List.setIfInBounds_toArray, List.set_cons_zero, List.set_cons_succ, List.getElem_toArray, List.getElem_cons_succ, List.getElem_cons_zero]
  refine wpAnyH_done (by kernel_rfl) ?_ _
  have hpag0 := H3.out.2.1.pag 0 (by omega)
  obtain ⟨q0, hq0⟩ := hpag0
  rw [show (((0 : Nat) : Int) * 4096) = 0 from rfl] at hq0
  have hE3 := HE.out.1.fra H3.out.1 hX
  obtain ⟨f0, f1, f2, f3⟩ := flatE_get [x] 0 x rfl
  obtain ⟨g0, eg0, a0⟩ := own_cell hE3.own f0 (by simp) (by simp)
  obtain ⟨g1, eg1, a1⟩ := own_cell hE3.own f1 (by simp) (by simp)
  obtain ⟨g2, eg2, a2⟩ := own_cell hE3.own f2 (by simp) (by simp)
  obtain ⟨g3, eg3, a3⟩ := own_cell hE3.own f3 (by simp) (by simp)
  simp only [Option.some.injEq, Addr.mk.injEq, and_true] at eg0 eg1 eg2 eg3
  subst eg0 eg1 eg2 eg3
  have hdat := hE3.dat x (by simp)
  obtain ⟨dq, dc, hld, hdc1, hdc2, hdn⟩ := own_form hdat
  obtain ⟨gd, rfl⟩ : ∃ gd, dq = some ⟨gd, 0, .none⟩ := by
    rw [hld] at hdat
    obtain ⟨k, hk⟩ : ∃ k, x.1.sz = k + 1 := ⟨x.1.sz - 1, by omega⟩
    rw [hk] at hdat
    exact own_some hdat
  rw [hld] at a2 hdat
  have hdcell : ∀ i, i < x.1.sz → w3.cell? ⟨gd, 0 + i, .none⟩ = some (.int .u8 (Bq (x.1.wh + i))) := fun i hi => by
    have h1 : (by8 (byt Bq x.1))[i]? = some (.int .u8 (Bq (x.1.wh + i))) := by8_get (byt_get Bq x.1 i hi)
    obtain ⟨g', eg, hc⟩ := own_cell hdat h1 (by omega) (by omega)
    cases eg
    rw [Nat.zero_add]
    exact hc
  have hcb : 1 ≤ c ∧ c ≤ 9223372036854775807 := by
    obtain ⟨_, _, e', h1, h2, _⟩ := own_form hE3.own
    cases e'
    exact ⟨h1, h2⟩
  have HD : Hid (∀ i, i < x.1.sz → w3.cell? ⟨gd, 0 + i, .none⟩ = some (.int .u8 (Bq (x.1.wh + i)))) := hdcell
  have HQ0 : Hid (Rm.Pag N L3 F3 lf3 0 q0 (rgP [x.1] (0 : Nat) + 208)) := hq0
  have gdl : gd < w3.heap.size := lt_of_cell (hdcell 0 (by omega))
  obtain ⟨k0, k1, k2, k3⟩ := kS3
  have HK : Hid (Z4 w3 Z en g c gp sp) := ⟨k0, k1, k2, k3⟩
  simp only [Nat.zero_mul, Nat.zero_add] at a0 a1 a2 a3
  rw [hva] at a0
  clear hdcell hq0 hE3 f0 f1 f2 f3 hdat hld hdn kS kS2
  go_wp2_with fail
  go_loopw [16] (fun k wr => (k = .int .i64 0 ∧ wr = w3) ∨ (k = .int .i64 1 ∧ Hid (Rm.Fra p b m w3 wr ∧ ∃ B', SpN wr s p b m N r [x.1] (e + 2) B' L3 F3 lf3))) (fun k _ => (1 - intOf k).toNat)
  case atStart => exact .inl ⟨rfl, rfl⟩
  case round =>
    rcases hrel with ⟨rfl, rfl⟩ | ⟨rfl, HG⟩
    · have HA : Hid (Below wr.heap.size wr (wr.alloc (.cells #[.int .u64 0, .int .u32 x.1.fl, .slice (some ⟨gd, 0, .none⟩) x.1.sz dc, .int .u64 x.1.mem] 61))) := (Below.refl _ _).alloc (Nat.le_refl _) _
      have hNa := H3.out.2.1.below HA.out
      have c63 := Rm.poke_any hNa.sp hNa.ram hNa.pt hNa.rt 0 (by omega) HQ0.out 0 x.1.sz rfl hsz.1 (by omega) gd 0 dc ⟨hdc1, hdc2⟩ (fun i => Bq (x.1.wh + i)) (fun i => HR.out.2.2 _) (fun i hi => (HA.out.cell (p := ⟨gd, 0 + i, .none⟩) gdl).trans (HD.out i hi)) (by omega)
      unfold Rm.PkP at c63
      clear hNa
      go_wp2_with (go_at_call 63; refine c63.mono ?_; rintro _ w4 ⟨rfl, r4, f4⟩; have HG : Hid (Rm.Fra p b m wr w4 ∧ ∃ B', SpN w4 s p b m N r [x.1] (e + 2) B' L3 F3 lf3) := ⟨(Rm.Fra.below HA.out).trans f4, _, (H3.out.2.1.below HA.out).poke HQ0.out.nn (by omega) r4 f4⟩; clear r4 f4 c63)
      exact ⟨.inr ⟨rfl, HG⟩, by simp only [intOf]; omega⟩
    · obtain ⟨hf4, B4, hN4⟩ := HG.out
      have hz4 := hf4.size
      have f04 : Rm.Fra p b m w0 wr := H3.out.1.trans hf4
      have kS4 : Z4 wr.drew Z en g c gp sp := HK.out.of (hf4.block Z (by omega) (by omega) (by omega) (by omega))
      have c57 := stackAt_any (w := wr.drew) (E := [x]) (HE.out.1.fra (f04.trans (Rm.Fra.below (Below.refl _ _).drew)) hX) (by simp) (by simp) en sp (some ⟨gp, 0, .none⟩) 4096 4096
      rw [hePg] at c57
      have H4 : Hid (Rm.Fra p b m w0 wr.drew ∧ SpN wr.drew s p b m N r [x.1] (e + 2) B4 L3 F3 lf3) := ⟨f04.trans (Rm.Fra.below (Below.refl _ _).drew), hN4.below (Below.refl _ _).drew⟩
      obtain ⟨q1, hq1⟩ := hN4.pag (e + 1) (by omega)
      obtain ⟨q2, hq2⟩ := hN4.pag e (by omega)
      rw [show (((e + 1 : Nat) : Int)) = (e : Int) + 1 by omega] at hq1
      have hr6 : rgP [x.1] (e : Int) = 6 := rgP_miss (fun j y hy => by
        cases j with
        | zero =>
          simp only [List.getElem?_cons_zero, Option.some.injEq] at hy
          rw [← hy, he]
          omega
        | succ j => simp at hy)
      rw [hr6] at hq2
      have HQ : Hid (Rm.Pag N L3 F3 lf3 (((e : Int) + 1) * 4096) q1 (rgP [x.1] ((e : Int) + 1) + 208) ∧ Rm.Pag N L3 F3 lf3 ((e : Int) * 4096) q2 214) := ⟨hq1, hq2⟩
      have hk0 : Rm.kd (lf3 (Rm.y0 ((e : Int) * 4096)) 0) 0 = 2 := by
        have h1 := HQ0.out.l
        have e1 : Rm.y0 0 = 513 := low_y0 0 (by omega)
        have e2 : Rm.i0 0 = 0 := low_i0 0 (by omega)
        rw [e1, e2] at h1
        rw [low_y0 e (by omega), h1]
        exact HQ0.out.k
      have hi0 : (0 : Nat) ≠ Rm.i0 ((e : Int) * 4096) := by rw [low_i0 e (by omega)]; omega
      have HKK : Hid (Rm.kd (lf3 (Rm.y0 ((e : Int) * 4096)) 0) 0 = 2 ∧ (0 : Nat) ≠ Rm.i0 ((e : Int) * 4096)) := ⟨hk0, hi0⟩
      clear hf4 hN4 f04 hq1 hq2 hr6 hk0 hi0 HG
      go_upto_region 7 with fail
      refine wp_region_held_drew (S := (fun U => Z4 U Z en g c gp sp)) (by kernel_rfl) kS4 (fun hHeld => ?_)
      refine wpAnyH_take (i := 0) (v := (.pointer (some ⟨s, 0, .none⟩))) rfl (by kernel_rfl) (by kernel_rfl) (by kernel_rfl) (fun _ _ _ h => h) (Or.inl ⟨by rfl, fun ww hSw => by obtain ⟨q0, q1, q2, q3⟩ := hSw; go_simp⟩) (by assumption) ?_
      simp only [Act.put, List.setIfInBounds_toArray, List.set_cons_zero, List.set_cons_succ, List.getElem_toArray, List.getElem_cons_succ, List.getElem_cons_zero]
      refine wpAnyH_take (i := 1) (v := (.agg #[.int .u64 en, .slice (some ⟨g, 0, .none⟩) 1 c, .slice (some ⟨gp, 0, .none⟩) 4096 4096, .int .u64 sp])) rfl (by kernel_rfl) (by kernel_rfl) (by kernel_rfl) (fun _ _ _ h => h) (Or.inl ⟨by rfl, fun ww hSw => by obtain ⟨q0, q1, q2, q3⟩ := hSw; go_simp⟩) (by assumption) ?_
      simp only [Act.put, List.setIfInBounds_toArray, List.set_cons_zero, List.set_cons_succ, List.getElem_toArray, List.getElem_cons_succ, List.getElem_cons_zero]
      refine wpAnyH_take (i := 3) (v := (.pointer (some ⟨Z, 2, .none⟩))) rfl (by kernel_rfl) (by kernel_rfl) (by kernel_rfl) (fun _ _ _ h => h) (Or.inl ⟨by rfl, fun ww hSw => by obtain ⟨q0, q1, q2, q3⟩ := hSw; go_simp⟩) (by assumption) ?_
      simp only [Act.put, List.setIfInBounds_toArray, List.set_cons_zero, List.set_cons_succ, List.getElem_toArray, List.getElem_cons_succ, List.getElem_cons_zero]
      refine wpAnyH_take (i := 4) (v := (.pointer (some ⟨Z, 2, .none⟩))) rfl (by kernel_rfl) (by kernel_rfl) (by kernel_rfl) (fun _ _ _ h => h) (Or.inl ⟨by rfl, fun ww hSw => by obtain ⟨q0, q1, q2, q3⟩ := hSw; go_simp⟩) (by assumption) ?_
      simp only [Act.put, List.setIfInBounds_toArray, List.set_cons_zero, List.set_cons_succ, List.getElem_toArray, List.getElem_cons_succ, List.getElem_cons_zero]
      refine wpAnyH_take (i := 5) (v := (.slice (some ⟨gp, 0, .none⟩) 4096 4096)) rfl (by kernel_rfl) (by kernel_rfl) (by kernel_rfl) (fun _ _ _ h => h) (Or.inl ⟨by rfl, fun ww hSw => by obtain ⟨q0, q1, q2, q3⟩ := hSw; go_simp⟩) (by assumption) ?_
      simp only [Act.put, List.setIfInBounds_toArray, List.set_cons_zero, List.set_cons_succ, List.getElem_toArray, List.getElem_cons_succ, List.getElem_cons_zero]
      refine wpAnyH_ready (rs := [2]) (by kernel_rfl) (by simp) ?_
      refine AllReadyH.cons rfl (fun K hK => ?_) AllReadyH.nil
      go_simp
      go_at_call 57
      refine c57.mono ?_
      rintro _ w5 ⟨rfl, b5⟩
      have kS5 : Z4 w5 Z en g c gp sp := kS4.of (b5.block Z (by show Z < wr.heap.size; omega))
      have H5 : Hid (Rm.Fra p b m w0 w5 ∧ SpN w5 s p b m N r [x.1] (e + 2) B4 L3 F3 lf3) := ⟨H4.out.1.trans (Rm.Fra.below b5), H4.out.2.below b5⟩
      have hz5 : wr.heap.size ≤ w5.heap.size := b5.size
      clear b5 c57
      refine hK.out _ _ kS5 (fun hHeld => ?_)
      clear hK K
      try simp only [Act.put, List.setIfInBounds_toArray, List.set_cons_zero, List.set_cons_succ, List.getElem_toArray, List.getElem_cons_succ, List.getElem_cons_zero]
      have c63 := Rm.poke_any H5.out.2.sp H5.out.2.ram H5.out.2.pt H5.out.2.rt (((e : Int) + 1) * 4096) (by omega) HQ.out.1 0 4096 (by omega) (by omega) (by omega) gp 0 4096 (by omega) Rp HR.out.1 (fun i hi => by
        rw [Nat.zero_add]
        exact (H5.out.1.cell (x := ⟨gp, i, .none⟩) hgp.2.2.2 (by show gp ≠ p; omega) (by show gp ≠ b; omega) (by show gp ≠ m; omega)).trans (HR.out.2.1 i hi)) (by omega)
      unfold Rm.PkP at c63
      refine wpAnyH_ready (rs := [6]) (by kernel_rfl) (by simp) ?_
      refine AllReadyH.cons rfl (fun K hK => ?_) AllReadyH.nil
      go_simp
      go_at_call 63
      refine c63.mono ?_
      rintro _ w6 ⟨rfl, r6, f6⟩
      have kS6 : Z4 w6 Z en g c gp sp := kS5.of (f6.block Z (by omega) (by omega) (by omega) (by omega))
      have H6 : Hid (Rm.Fra p b m w0 w6 ∧ ∃ B', SpN w6 s p b m N r [x.1] (e + 2) B' L3 F3 lf3) := ⟨H5.out.1.trans f6, _, H5.out.2.poke HQ.out.1.nn (by omega) r6 f6⟩
      have hz6 := f6.size
      clear r6 f6 c63
      refine hK.out _ _ kS6 (fun hHeld => ?_)
      clear hK K
      try simp only [Act.put, List.setIfInBounds_toArray, List.set_cons_zero, List.set_cons_succ, List.getElem_toArray, List.getElem_cons_succ, List.getElem_cons_zero]
      refine wpAnyH_done (by kernel_rfl) ?_ _
      obtain ⟨h61, B6, h62⟩ := H6.out
      have c65 := guard_any (w := w6) (E := [x]) (HE.out.1.fra h61 hX) (by simp) (by simp) en sp (some ⟨gp, 0, .none⟩) 4096 4096
      rw [hePg] at c65
      have HN6 : Hid (SpN w6 s p b m N r [x.1] (e + 2) B6 L3 F3 lf3) := h62
      obtain ⟨k0, k1, k2, k3⟩ := kS6
      clear h61 h62
      have HC : Hid (∀ W, Below w6.heap.size w6 W → Calls Tryz.prog 64 #[.pointer (some ⟨s, 0, .none⟩), .int .i64 e] W fun e w' => e = .returned (.int .i64 0) ∧ Rm.Fra p b m W w' ∧ ∃ B', Rm.Ram w' p b m N B' L3) := fun W bW => by
        have hW := HN6.out.below bW
        exact Rm.guard_pt hW.sp hW.ram hW.pt hW.rt hW.ne (e : Int) (by omega) (by omega) HQ.out.2 0 ⟨by omega, HKK.out.2, HKK.out.1⟩
      go_wp2_with first | (go_at_call 65; refine c65.mono ?_; rintro _ w7 ⟨rfl, b7⟩; have H7 : Hid (Below w6.heap.size w6 w7) := b7; clear b7) | (go_at_call 64; refine (HC.out _ H7.out).mono ?_; rintro _ w8 ⟨rfl, f8, B8, r8⟩)
      refine bodyPost_end (v := .tuple #[]) (by simp [results, Tryz.results28, go_sem]) rfl ⟨rfl, H6.out.1.trans ((Rm.Fra.below H7.out).trans f8), B8, L3, r8, H3.out.2.2⟩
end Go.Proofs.YtacdgfojdkppmaaGreatDoor
namespace Go.Proofs.YtacdgfojdkppmaaGreatDoor
open Go.RowKit Go.Shelf
set_option linter.unusedVariables false
set_option linter.unusedSimpArgs false
theorem start_any (en sp : Int) (q dp : Option Addr) (n c dn dc : Nat) (w : World) : Calls Tryz.prog 29 #[.agg #[.int .u64 en, .slice q n c, .slice dp dn dc, .int .u64 sp]] w fun e w' => e = .returned (.agg #[.int .u64 en, .int .u64 sp, .int .u64 sp]) ∧ Below w.heap.size w w' := by
  go_enter Tryz.func29, Tryz.ntmps29
  go_wp2_with fail
  refine bodyPost_ret (v := .agg #[.int .u64 en, .int .u64 sp, .int .u64 sp]) (by simp [results, Tryz.results29, go_sem]) rfl ⟨rfl, ?_⟩
  exact ((Below.refl _ _).alloc (Nat.le_refl _) _).alloc (by simp) _
end Go.Proofs.YtacdgfojdkppmaaGreatDoor
