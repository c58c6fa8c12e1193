import Derived.Test.YthdlefbaegbldaaGreatDoorCx
import Derived.Test.YthdlefbaegbldaaGreatDoorRows
import Derived.ProofKit
import Derived.OpenShut
import Derived.ChangeOld
import Derived.SizedLaws
import Derived.Carry
import Derived.LaidMore
import Derived.Lib.LaidTab
import Derived.Lib.SmallJoins
import Derived.Deep.Slices
import Derived.Test.YthdlefbaegbldaaGreatDoorGb
namespace Go.Proofs.YthdlefbaegbldaaGreatDoor
open Go.ChangeShapes Go.WideShapes Go.ChangeAt Go.RowKit
set_option linter.unusedVariables false
set_option linter.unusedSimpArgs false
set_option maxRecDepth 100000
theorem cellsD : Tryz.prog.cellsOf 183 = 1 := by kernel_rfl
theorem cells5 : Tryz.prog.cellsOf 5 = 1 := by kernel_rfl
theorem tab1 {w : World} {fuel t m : Nat} {cs : List Value} {d : DataW Unit} {p : List MemPlace} (ht : Tryz.prog.underlying t = some (.array m 183)) (h : DataW.trod (fun _ => ()) Tryz.prog w 0 (fun _ => true) false fuel t cs = some (d, p)) :
    cs.length = Tryz.prog.cellsOf t ∧ ∃ A : Nat → Int, d = .agg ((List.range m).map fun i => .lit (.int .u8 (A i))) ∧ ∀ i, i < m → cs[i]? = some (.int .u8 (A i)) := by
  obtain ⟨xs, k, _, hx, hcl, hl, hf⟩ := DataW.trod_array ht h
  refine ⟨hcl, ?_⟩
  have each : ∀ i, i < m → ∃ z : Int, (xs[i]?).map (·.1) = some (.lit (.int .u8 z)) ∧ cs[i]? = some (.int .u8 z) := by
    intro i hi
    have h1 := hf i hi
    rw [cellsD, Nat.mul_one, List.getElem?_eq_getElem (by omega)] at h1
    obtain ⟨z0, e0, f0, _⟩ := DataW.trod_int Tryz.underlying183 h1
    refine ⟨z0, ?_, ?_⟩
    · rw [List.getElem?_eq_getElem (by omega), Option.map_some, f0]
    · have := congrArg (·[0]?) e0
      simpa [List.getElem?_take, List.getElem?_drop] using this
  obtain ⟨q, hq⟩ := Deep.choose_lt each
  refine ⟨q, ?_, fun i hi => (hq i hi).2⟩
  have hd : d = .agg (xs.map (·.1)) := congrArg Prod.fst hx
  rw [hd]
  congr 1
  apply List.ext_getElem?
  intro i
  by_cases hi : i < m
  · rw [List.getElem?_map, (hq i hi).1, List.getElem?_map, List.getElem?_range hi]
    rfl
  · rw [List.getElem?_eq_none (by simp; omega), List.getElem?_eq_none (by simp; omega)]
theorem laid_dd {H : Type} : (Rows.laid_hartix_console_deeds : DataW H) = .agg ((List.range 128).map fun (i : Nat) => .lit (.int .u8 (dd (i : Int)))) := by kernel_rfl
theorem laid_of {W : World} (h : laidMet Tryz.prog [("hartix/console.deeds", Rows.laid_hartix_console_deeds)] W) : Dd W := by
  have hg0 : Tryz.prog.globalNamed "hartix/console.deeds" = some 0 := by kernel_rfl
  have ht0 : (Tryz.prog.globals[0]?).map (·.type) = some 198 := by kernel_rfl
  obtain ⟨ps, ⟨g', t', cs, fuel, p, q, hg', ht', hvar, hd, _⟩, _⟩ := h
  obtain rfl := Option.some.inj (hg0.symm.trans hg')
  obtain rfl := Option.some.inj (ht0.symm.trans ht')
  obtain ⟨hcl, A, e1, c1⟩ := tab1 Tryz.underlying198 hd
  rw [show Tryz.prog.cellsOf 198 = 128 by kernel_rfl] at hcl
  have v1 : ∀ i, W.cell? ⟨0, i, .none⟩ = cs.toList[i]? := fun i => by
    have := World.var?_cell hg0 hvar i
    rw [this, ← Array.getElem?_toList]
  rw [laid_dd] at e1
  have f1 : ∀ i, i < 128 → A i = dd i := by
    intro i hi
    have e2 := DataW.agg.inj e1
    have e3 := congrArg (·[i]?) e2
    simp only [List.getElem?_map, List.getElem?_range hi, Option.map_some, Option.some.injEq, DataW.lit.injEq, Lit.int.injEq, true_and] at e3
    exact e3.symm
  have hc : ∀ i : Nat, W.cell? ⟨0, i, .none⟩ = if i < 128 then some (.int .u8 (dd i)) else none := fun i => by
    rw [v1 i]
    split
    · rename_i hi
      rw [c1 i hi, f1 i hi]
    · exact List.getElem?_eq_none (by omega)
  have h0 := hc 0
  rw [if_pos (by decide)] at h0
  exact ⟨lt_cell h0, hc⟩
theorem wf_u8 (z : Int) (h : (Lit.int .u8 z).wf = true) : 0 ≤ z ∧ z < 256 := by
  simp [Lit.wf, IntKind.min, IntKind.max, IntKind.signed, IntKind.bits] at h
  omega
theorem open_byt {H : Type} {enc : TypeId × Value → H} {w : World} {base : Nat} {held : Bool} {fuel : Nat} {v : Value} {x : DataW H × List MemPlace}
    (h : DataW.trod enc Tryz.prog w base (fun _ => true) held fuel 35 [v] = some x) : ∃ p n c xs, v = .slice p n c ∧ Byt w p n c xs ∧ ∀ y ∈ xs, 0 ≤ y ∧ y < 256 := by
  rcases open_ints Tryz.underlying35 Tryz.underlying5 cells5 h with ⟨hcs, hx⟩ | ⟨a, len, cap, zs, hcs, _, hlc, hmax, hlen, hx, hcell, hwf⟩
  · simp only [List.cons.injEq, and_true] at hcs
    exact ⟨none, 0, 0, [], hcs, ⟨rfl, Nat.le_refl _, by decide, .inl rfl⟩, fun i => by simp⟩
  · simp only [List.cons.injEq, and_true] at hcs
    have hz : zs.length = cap := by simpa using hlen
    refine ⟨some a, len, cap, zs.take len, hcs, ⟨by simp; omega, hlc, hmax, ?_⟩, fun y hy => wf_u8 y (hwf y (List.mem_of_mem_take hy))⟩
    by_cases h0 : len = 0
    · exact .inl h0
    · have hc0 := hcell 0 (by omega)
      obtain ⟨b, off, spot⟩ := a
      have hspot : spot = none := by simpa [Addr.add] using World.cell?_spot hc0
      subst hspot
      refine .inr ⟨b, off, rfl, ?_, fun i y hy => ?_⟩
      · rw [le_addr_add] at hc0
        exact lt_cell hc0
      · have hi : i < len := by have := (List.getElem?_eq_some_iff.1 hy).1; simp at this; omega
        have := hcell i (by omega)
        rw [le_addr_add] at this
        rw [this]
        rw [List.getElem?_take, if_pos hi] at hy
        rw [List.getD_eq_getElem?_getD, hy]
        rfl
theorem own : ownKnob Tryz.prog.godebug = none := by kernel_rfl
theorem laidOut : laidOutB Tryz.prog = true := by kernel_rfl
theorem door_met (os : Os) (args : Array Value) : laidMetH Tryz.prog [("hartix/console.deeds", Rows.laid_hartix_console_deeds)] ((World.doorLaid Tryz.prog 400 os).forCall (fun _ _ => 0) ⟨#[], args, []⟩).memory :=
  laidMetH_of_parts3 (fuel := 8) (laidMet_of_run' 8 (by kernel_rfl) (by kernel_rfl)) (by kernel_rfl) (by kernel_rfl)
end Go.Proofs.YthdlefbaegbldaaGreatDoor
namespace Go.Proofs.YthdlefbaegbldaaGreatDoor
open Go.ChangeShapes Go.WideShapes Go.ChangeAt Go.RowKit
set_option linter.unusedVariables false
set_option linter.unusedSimpArgs false
set_option maxRecDepth 100000
theorem bytes5 : Tryz.prog.bytesOf 5 = 1 := by kernel_rfl
theorem cells22 : Tryz.prog.cellsOf 35 = 1 := by kernel_rfl
theorem open_byw {H : Type} {enc : TypeId × Value → H} {w : World} {base : Nat} {held : Bool} {fuel : Nat} {v : Value} {x : DataW H × List MemPlace}
    (h : DataW.trod enc Tryz.prog w base (fun _ => true) held fuel 35 [v] = some x) : ∃ p n c xs, v = .slice p n c ∧ Byt w p n c xs ∧ (∀ y ∈ xs, 0 ≤ y ∧ y < 256) ∧ ∀ M', (∀ k ∈ x.1.weights Tryz.prog 35, k ≤ M') → n ≤ M' := by
  rcases open_ints Tryz.underlying35 Tryz.underlying5 cells5 h with ⟨hcs, hx⟩ | ⟨a, len, cap, zs, hcs, _, hlc, hmax, hlen, hx, hcell, hwf⟩
  · simp only [List.cons.injEq, and_true] at hcs
    exact ⟨none, 0, 0, [], hcs, ⟨rfl, Nat.le_refl _, by decide, .inl rfl⟩, fun y hy => (nomatch hy), fun _ _ => Nat.zero_le _⟩
  · simp only [List.cons.injEq, and_true] at hcs
    have hz : zs.length = cap := by simpa using hlen
    refine ⟨some a, len, cap, zs.take len, hcs, ⟨by simp; omega, hlc, hmax, ?_⟩, fun y hy => wf_u8 y (hwf y (List.mem_of_mem_take hy)), ?_⟩
    · by_cases h0 : len = 0
      · exact .inl h0
      · have hc0 := hcell 0 (by omega)
        obtain ⟨b, off, spot⟩ := a
        have hspot : spot = none := by simpa [Addr.add] using World.cell?_spot hc0
        subst hspot
        refine .inr ⟨b, off, rfl, ?_, fun i y hy => ?_⟩
        · rw [le_addr_add] at hc0
          exact lt_cell hc0
        · have hi : i < len := by have := (List.getElem?_eq_some_iff.1 hy).1; simp at this; omega
          have := hcell i (by omega)
          rw [le_addr_add] at this
          rw [this]
          rw [List.getElem?_take, if_pos hi] at hy
          rw [List.getD_eq_getElem?_getD, hy]
          rfl
    · intro M' hM'
      have h1 := hM' ((len + (cap - len)) * Tryz.prog.bytesOf 5) (by
        rw [hx]
        simp only [DataW.weights, Tryz.underlying35]
        have el : ((lits .u8 (zs.take len)).length (α := DataW H)) = len := by simp [lits]; omega
        have ed : ((lits .u8 (zs.drop len)).length (α := DataW H)) = cap - len := by simp [lits]; omega
        rw [el, ed]
        exact List.mem_cons_self ..)
      rw [bytes5] at h1
      omega
end Go.Proofs.YthdlefbaegbldaaGreatDoor
namespace Go.Proofs.YthdlefbaegbldaaGreatDoor
open Go.ChangeShapes Go.WideShapes Go.ChangeAt Go.RowKit
set_option linter.unusedVariables false
set_option linter.unusedSimpArgs false
set_option maxRecDepth 100000
theorem cells3 : Tryz.prog.cellsOf 3 = 1 := by kernel_rfl
theorem open_rows {H : Type} {enc : TypeId × Value → H} {w : World} {base : Nat} {held : Bool} {fuel : Nat} {v : Value} {x : DataW H × List MemPlace}
    (h : DataW.trod enc Tryz.prog w base (fun _ => true) held fuel 22 [v] = some x) : ∃ (q : Option Addr) (m c : Nat) (S : Nat → Option Addr) (L C : Nat → Nat) (Y : Nat → List Int), v = .slice q m c ∧ ArgW w q m c S L C Y := by
  rcases Deep.open_slice Tryz.underlying22 h with ⟨hcs, hx⟩ | ⟨a, len, cap, m, n, D, Pl, hcs, _, hlc, hmax, hm, hx, hc⟩
  · simp only [List.cons.injEq, and_true] at hcs
    exact ⟨none, 0, 0, fun _ => none, fun _ => 0, fun _ => 0, fun _ => [], hcs, .inl rfl, ⟨Nat.le_refl _, by decide⟩, fun i hi => (nomatch hi), fun i hi => (nomatch hi)⟩
  · simp only [List.cons.injEq, and_true] at hcs
    have hlm : len ≤ m := by rw [hm]; split <;> omega
    have each : ∀ i, i < len → ∃ q : (Option Addr × Nat × Nat) × List Int, w.cell? (a.add i) = some (.slice q.1.1 q.1.2.1 q.1.2.2) ∧ Byt w q.1.1 q.1.2.1 q.1.2.2 q.2 ∧ ∀ y ∈ q.2, 0 ≤ y ∧ y < 256 := by
      intro i hi
      obtain ⟨cs', h1, h2⟩ := hc i (by omega)
      rw [cells22] at h1
      obtain ⟨_, hlen, hcell⟩ := World.cells?_some h1
      match cs', hlen with
      | [v0], _ =>
        obtain ⟨p, nn, c, xs, hv, hby, hyb⟩ := open_byt h2
        have e0 := hcell 0 (by omega)
        rw [Deep.add_add] at e0
        refine ⟨((p, nn, c), xs), ?_, hby, hyb⟩
        simp only [List.getElem?_cons_zero, Nat.add_zero, Nat.mul_one, List.getElem_cons_zero] at e0
        rw [hv] at e0
        simpa using e0
    obtain ⟨q, hq⟩ := Deep.choose_lt each
    refine ⟨some a, len, cap, fun i => (q i).1.1, fun i => (q i).1.2.1, fun i => (q i).1.2.2, fun i => (q i).2, hcs, ?_, ⟨hlc, hmax⟩, fun i hi => (hq i hi).2.1, fun i hi => (hq i hi).2.2⟩
    by_cases h0 : len = 0
    · exact .inl h0
    · have hc0 := (hq 0 (by omega)).1
      obtain ⟨b, off, spot⟩ := a
      have hspot : spot = none := by simpa [Addr.add] using World.cell?_spot hc0
      subst hspot
      refine .inr ⟨b, off, rfl, ?_, fun i hi => ?_⟩
      · rw [le_addr_add] at hc0
        exact lt_cell hc0
      · have := (hq i hi).1
        rwa [le_addr_add] at this
theorem open_ns {H : Type} {enc : TypeId × Value → H} {w : World} {base : Nat} {held : Bool} {fuel : Nat} {v : Value} {x : DataW H × List MemPlace}
    (h : DataW.trod enc Tryz.prog w base (fun _ => true) held fuel 23 [v] = some x) : ∃ (q : Option Addr) (m c : Nat) (R : Nat → Int), v = .slice q m c ∧ ArgI w q m c R := by
  rcases open_ints Tryz.underlying23 Tryz.underlying3 cells3 h with ⟨hcs, hx⟩ | ⟨a, len, cap, zs, hcs, _, hlc, hmax, hlen, hx, hcell, hwf⟩
  · simp only [List.cons.injEq, and_true] at hcs
    exact ⟨none, 0, 0, fun _ => 0, hcs, .inl rfl, ⟨Nat.le_refl _, by decide⟩⟩
  · simp only [List.cons.injEq, and_true] at hcs
    have hz : zs.length = cap := by simpa using hlen
    refine ⟨some a, len, cap, fun i => zs.getD i 0, hcs, ?_, ⟨hlc, hmax⟩⟩
    by_cases h0 : len = 0
    · exact .inl h0
    · have hc0 := hcell 0 (by omega)
      obtain ⟨b, off, spot⟩ := a
      have hspot : spot = none := by simpa [Addr.add] using World.cell?_spot hc0
      subst hspot
      refine .inr ⟨b, off, rfl, ?_, fun i hi => ?_⟩
      · rw [le_addr_add] at hc0
        exact lt_cell hc0
      · have := hcell i (by omega)
        rwa [le_addr_add] at this
end Go.Proofs.YthdlefbaegbldaaGreatDoor
