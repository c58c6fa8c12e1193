import Derived.Test.YtnlbomggadflmabTr
import Derived.Test.YtnlbomggadflmabRows
import Derived.ProofKit
import Derived.OpenShut
import Derived.ShutString
import Derived.ChangeOld
import Derived.SizedLaws
import Derived.Carry
import Derived.Deep.Slices
namespace Go.Proofs.Ytnlbomggadflmab
open Go.ChangeShapes Go.WideShapes Go.ChangeAt Go.RowKit
set_option linter.unusedVariables false
set_option linter.unusedSimpArgs false
set_option maxRecDepth 100000
theorem own : ownKnob Try.prog.godebug = none := by kernel_rfl
theorem laidOut : laidOutB Try.prog = true := by kernel_rfl
theorem cells3 : Try.prog.cellsOf 3 = 1 := by kernel_rfl
theorem cells4 : Try.prog.cellsOf 4 = 1 := by kernel_rfl
theorem cells21 : Try.prog.cellsOf 21 = 1 := by kernel_rfl
theorem cellsCh : Try.prog.cellsOf 31 = 2 := by kernel_rfl
theorem cellsOp : Try.prog.cellsOf 40 = 5 := by kernel_rfl
theorem le_addr_add (b o j : Nat) : (⟨b, o, .none⟩ : Addr).add j = ⟨b, o + j, .none⟩ := by unfold Addr.add; split <;> simp_all
set_option maxRecDepth 100000 in
/-- A channel. -/
theorem open_ch {H : Type} {enc : TypeId × Value → H} {w : World} {base : Nat} {held : Bool} {n : Nat} {u v : Value} {x : DataW H × List MemPlace} (h : DataW.trod enc Try.prog w base (fun _ => true) held n 31 [u, v] = some x) : ∃ a b : Int, u = .int .i64 a ∧ v = .int .i64 b := by
  obtain ⟨xs, k, hk, hxy, _, hxl, hf⟩ := DataW.trod_struct Try.underlying31 h
  have hxl : xs.length = 2 := hxl
  match xs, hxl with
  | [y0, y1], _ =>
    have g0 := hf 0 _ rfl
    have g1 := hf 1 _ rfl
    simp [cells3] at g0 g1
    obtain ⟨z0, f0, _, _⟩ := DataW.trod_int Try.underlying3 g0
    obtain ⟨z1, f1, _, _⟩ := DataW.trod_int Try.underlying3 g1
    simp only [List.cons.injEq, and_true] at f0 f1
    exact ⟨z0, z1, f0, f1⟩
set_option maxRecDepth 100000 in
theorem open_op {H : Type} {enc : TypeId × Value → H} {w : World} {base : Nat} {held : Bool} {n i : Nat} {a : Addr} {cs : List Value} {d : DataW H} {pl : List MemPlace} (h1 : w.cells? base (a.add (i * 5)) 5 = some cs) (h2 : DataW.trod enc Try.prog w base (fun _ => true) held n 40 cs = some (d, pl)) : ∃ q : Opr, ∀ j v, q.l[j]? = some v → w.cell? (a.add (i * 5 + j)) = some v := by
  obtain ⟨_, hlen, hcell⟩ := World.cells?_some h1
  obtain ⟨xs, k, hk, hxy, _, hxl, hf⟩ := DataW.trod_struct Try.underlying40 h2
  have hxl : xs.length = 4 := hxl
  match xs, hxl, cs, hlen with
  | [y0, y1, y2, y3], _, [v0, v1, v2, v3, v4], _ =>
    have g0 := hf 0 _ rfl
    have g1 := hf 1 _ rfl
    have g2 := hf 2 _ rfl
    have g3 := hf 3 _ rfl
    simp [cells3, cells21, cellsCh] at g0 g1 g2 g3
    have e0 := hcell 0 (by omega)
    have e1 := hcell 1 (by omega)
    have e2 := hcell 2 (by omega)
    have e3 := hcell 3 (by omega)
    have e4 := hcell 4 (by omega)
    rw [Deep.add_add] at e0 e1 e2 e3 e4
    obtain ⟨z0, f0, _, _⟩ := DataW.trod_int Try.underlying3 g0
    obtain ⟨z1, f1, _, _⟩ := DataW.trod_int Try.underlying3 g1
    obtain ⟨z2, z3, f2, f3⟩ := open_ch g2
    obtain ⟨z4, f4, _, _⟩ := DataW.trod_int Try.underlying21 g3
    simp only [List.cons.injEq, and_true] at f0 f1 f4
    subst f0 f1 f2 f3 f4
    refine ⟨⟨z0, z1, z2, z3, z4⟩, fun j v hj => ?_⟩
    simp only [Opr.l] at hj
    match j, hj with
    | 0, hj => cases hj; simpa using e0
    | 1, hj => cases hj; simpa using e1
    | 2, hj => cases hj; simpa using e2
    | 3, hj => cases hj; simpa using e3
    | 4, hj => cases hj; simpa using e4
    | j + 5, hj => simp at hj
theorem open_ops {H : Type} {enc : TypeId × Value → H} {w : World} {base : Nat} {held : Bool} {fuel : Nat} {v : Value} {x : DataW H × List MemPlace}
    (h : DataW.trod enc Try.prog w base (fun _ => true) held fuel 22 [v] = some x) : ∃ (q : Option Addr) (m c : Nat) (O : Nat → Opr), v = .slice q m c ∧ ArgO w q m c O := by
  rcases Deep.open_slice Try.underlying22 h with ⟨hcs, hx⟩ | ⟨a, len, cap, m, n, D, Pl, hcs, _, hlc, hmax, hm, hx, hc⟩
  · simp only [List.cons.injEq, and_true] at hcs
    exact ⟨none, 0, 0, fun _ => default, hcs, .inl rfl, ⟨Nat.le_refl _, by decide⟩⟩
  · simp only [List.cons.injEq, and_true] at hcs
    have hlm : len ≤ m := by rw [hm]; split <;> omega
    have each : ∀ i, i < len → ∃ q : Opr, ∀ j v, q.l[j]? = some v → w.cell? (a.add (i * 5 + j)) = some v := by
      intro i hi
      obtain ⟨cs', h1, h2⟩ := hc i (by omega)
      rw [cellsOp] at h1
      exact open_op h1 h2
    obtain ⟨q, hq⟩ := Deep.choose_lt each
    refine ⟨some a, len, cap, q, hcs, ?_, ⟨hlc, hmax⟩⟩
    by_cases h0 : len = 0
    · exact .inl h0
    · have hc0 := hq 0 (by omega) 0 _ rfl
      obtain ⟨b, off, spot⟩ := a
      have hspot : spot = none := by simpa [Addr.add] using World.cell?_spot hc0
      subst hspot
      refine .inr ⟨b, off, rfl, ?_, fun i hi j v hj => ?_⟩
      · rw [le_addr_add] at hc0
        exact lt_cell hc0
      · have := hq i hi j v hj
        rwa [le_addr_add, ← Nat.add_assoc] at this
/-- A channel as an argument. -/
theorem open_chan {H : Type} {enc : TypeId × Value → H} {w : World} {base base' : Nat} {held : Bool} {r : Reach} {v : Value} {d : DataW H} {p : List MemPlace}
    (hv : Value.okWide Try.prog w r base' 31 v) (h : DataW.Trod enc Try.prog w base (fun _ => true) held 31 v d p) : ∃ a b : Int, v = .agg #[.int .i64 a, .int .i64 b] := by
  obtain ⟨cs, rfl, hsz⟩ := okWide_struct Try.underlying31 hv
  have hsz2 : cs.toList.length = 2 := by
    have : cs.size = 2 := hsz.trans (by kernel_rfl)
    simpa using this
  obtain ⟨l, rfl⟩ : ∃ l : List Value, cs = l.toArray := ⟨cs.toList, by simp⟩
  match l, hsz2 with
  | [u, v], _ =>
    obtain ⟨fuel, hf⟩ := h
    obtain ⟨a, b, rfl, rfl⟩ := open_ch (show DataW.trod enc Try.prog w base (fun _ => true) held fuel 31 [u, v] = some _ from hf)
    exact ⟨a, b, rfl⟩
end Go.Proofs.Ytnlbomggadflmab
