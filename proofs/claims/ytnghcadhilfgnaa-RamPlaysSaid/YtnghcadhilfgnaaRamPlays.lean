import Derived.Test.YtnghcadhilfgnaaRP
import Derived.Test.YtnghcadhilfgnaaRows
import Derived.ProofKit
import Derived.OpenShut
import Derived.ShutString
import Derived.ChangeOld
import Derived.SizedLaws
import Derived.Carry
import Derived.Deep.Slices
import Derived.JoinedCond
namespace Go.Proofs.Ytnghcadhilfgnaa
open Go.ChangeShapes Go.WideShapes Go.ChangeAt Go.RowKit
set_option linter.unusedVariables false
set_option linter.unusedSimpArgs false
theorem wts_all {H : Type} {e : TypeId} {d : DataW H} {k : Nat} : ∀ {l : List (DataW H)}, d ∈ l → k ∈ d.weights Try.prog e → k ∈ DataW.weightsAll Try.prog e l
  | x :: l, h, hk => by
    simp only [DataW.weightsAll, List.mem_append]
    rcases List.mem_cons.1 h with rfl | h
    · exact .inl hk
    · exact .inr (wts_all h hk)
theorem bytes5 : Try.prog.bytesOf 5 = 1 := by kernel_rfl
theorem cells5 : Try.prog.cellsOf 5 = 1 := by kernel_rfl
theorem cells3 : Try.prog.cellsOf 3 = 1 := by kernel_rfl
theorem cells26 : Try.prog.cellsOf 26 = 1 := by kernel_rfl
theorem cells27 : Try.prog.cellsOf 27 = 1 := by kernel_rfl
theorem cells29 : Try.prog.cellsOf 29 = 5 := by kernel_rfl
theorem wf_u8 (z : Int) (h : (Lit.int .u8 z).wf = true) : 0 ≤ z ∧ z < 256 := by
  simp [Lit.wf, IntKind.min, IntKind.max, IntKind.signed, IntKind.bits] at h
  omega
theorem wf_u64 (z : Int) (h : (Lit.int .u64 z).wf = true) : 0 ≤ z ∧ z < 18446744073709551616 := by
  simp [Lit.wf, IntKind.min, IntKind.max, IntKind.signed, IntKind.bits] at h
  omega
theorem wf_i64 (z : Int) (h : (Lit.int .i64 z).wf = true) : -9223372036854775808 ≤ z ∧ z ≤ 9223372036854775807 := by
  simp [Lit.wf, IntKind.min, IntKind.max, IntKind.signed, IntKind.bits] at h
  omega
theorem open_byt {H : Type} {enc : TypeId × Value → H} {w : World} {base : Nat} {held : Bool} {fuel : Nat} {v : Value} {x : DataW H × List MemPlace}
    (h : DataW.trod enc Try.prog w base (fun _ => true) held fuel 27 [v] = some x) : ∃ p n c xs, v = .slice p n c ∧ Byt w p n c xs ∧ (∀ y ∈ xs, 0 ≤ y ∧ y < 256) ∧ ∀ M', (∀ k ∈ x.1.weights Try.prog 27, k ≤ M') → n ≤ M' := by
  rcases open_ints Try.underlying27 Try.underlying5 cells5 h with ⟨hcs, hx⟩ | ⟨a, len, cap, zs, hcs, _, hlc, hmax, hlen, hx, hcell, hwf⟩
  · simp only [List.cons.injEq, and_true] at hcs
    exact ⟨none, 0, 0, [], hcs, ⟨rfl, Nat.le_refl _, by decide, .inl rfl⟩, fun y hy => (nomatch hy), fun _ _ => Nat.zero_le _⟩
  · simp only [List.cons.injEq, and_true] at hcs
    have hz : zs.length = cap := by simpa using hlen
    refine ⟨some a, len, cap, zs.take len, hcs, ⟨by simp; omega, hlc, hmax, ?_⟩, fun y hy => wf_u8 y (hwf y (List.mem_of_mem_take hy)), ?_⟩
    · by_cases h0 : len = 0
      · exact .inl h0
      · have hc0 := hcell 0 (by omega)
        obtain ⟨b, off, spot⟩ := a
        have hspot : spot = none := by simpa [Addr.add] using World.cell?_spot hc0
        subst hspot
        refine .inr ⟨b, off, rfl, ?_, fun i y hy => ?_⟩
        · rw [le_addr_add] at hc0
          exact lt_of_cell hc0
        · have hi : i < len := by have := (List.getElem?_eq_some_iff.1 hy).1; simp at this; omega
          have := hcell i (by omega)
          rw [le_addr_add] at this
          rw [this]
          rw [List.getElem?_take, if_pos hi] at hy
          rw [List.getD_eq_getElem?_getD, hy]
          rfl
    · intro M' hM'
      have h1 := hM' ((len + (cap - len)) * Try.prog.bytesOf 5) (by
        rw [hx]
        simp only [DataW.weights, Try.underlying27]
        have el : ((lits .u8 (zs.take len)).length (α := DataW H)) = len := by simp [lits]; omega
        have ed : ((lits .u8 (zs.drop len)).length (α := DataW H)) = cap - len := by simp [lits]; omega
        rw [el, ed]
        exact List.mem_cons_self ..)
      rw [bytes5] at h1
      omega
/-- One call of the script. -/
structure Orec where
  k : Int
  pa : Int
  n : Int
  v : Int
  s : Option Addr
  ln : Nat
  cd : Nat
  xs : List Int
instance : Inhabited Orec := ⟨⟨0, 0, 0, 0, none, 0, 0, []⟩⟩
def OpAt {H : Type} (w : World) (a : Addr) (i : Nat) (d : DataW H) (q : Orec) : Prop :=
  w.cell? (a.add (i * 5)) = some (.int .i64 q.k) ∧ w.cell? (a.add (i * 5 + 1)) = some (.int .u64 q.pa) ∧ w.cell? (a.add (i * 5 + 2)) = some (.int .i64 q.n) ∧ w.cell? (a.add (i * 5 + 3)) = some (.int .u64 q.v) ∧ w.cell? (a.add (i * 5 + 4)) = some (.slice q.s q.ln q.cd) ∧
  (0 ≤ q.pa ∧ q.pa < 18446744073709551616) ∧ (-9223372036854775808 ≤ q.n ∧ q.n ≤ 9223372036854775807) ∧ (0 ≤ q.v ∧ q.v < 18446744073709551616) ∧ Byt w q.s q.ln q.cd q.xs ∧ (∀ y ∈ q.xs, 0 ≤ y ∧ y < 256) ∧ ∀ M', (∀ k ∈ d.weights Try.prog 29, k ≤ M') → q.ln ≤ M'
set_option maxRecDepth 100000 in
theorem open_op {H : Type} {enc : TypeId × Value → H} {w : World} {base : Nat} {held : Bool} {n i : Nat} {a : Addr} {cs : List Value} {d : DataW H} {pl : List MemPlace} (h1 : w.cells? base (a.add (i * 5)) 5 = some cs) (h2 : DataW.trod enc Try.prog w base (fun _ => true) held n 29 cs = some (d, pl)) : ∃ q, OpAt w a i d q := by
  obtain ⟨_, hlen, hcell⟩ := World.cells?_some h1
  obtain ⟨xs, k, hk, hxy, _, hxl, hf⟩ := DataW.trod_struct Try.underlying29 h2
  have hxl : xs.length = 5 := hxl
  match xs, hxl, cs, hlen with
  | [y0, y1, y2, y3, y4], _, [v0, v1, v2, v3, v4], _ =>
    have g0 := hf 0 _ rfl
    have g1 := hf 1 _ rfl
    have g2 := hf 2 _ rfl
    have g3 := hf 3 _ rfl
    have g4 := hf 4 _ rfl
    simp [cells3, cells26, cells27] at g0 g1 g2 g3 g4
    have e0 := hcell 0 (by omega)
    have e1 := hcell 1 (by omega)
    have e2 := hcell 2 (by omega)
    have e3 := hcell 3 (by omega)
    have e4 := hcell 4 (by omega)
    rw [Deep.add_add] at e0 e1 e2 e3 e4
    obtain ⟨z0, f0, _, hz0⟩ := DataW.trod_int Try.underlying3 g0
    obtain ⟨z1, f1, _, hz1⟩ := DataW.trod_int Try.underlying26 g1
    obtain ⟨z2, f2, _, hz2⟩ := DataW.trod_int Try.underlying3 g2
    obtain ⟨z3, f3, _, hz3⟩ := DataW.trod_int Try.underlying26 g3
    obtain ⟨p, nn, c, R, f4, hby, hyb, hwt⟩ := open_byt g4
    simp only [List.cons.injEq, and_true] at f0 f1 f2 f3
    subst f0 f1 f2 f3 f4
    refine ⟨⟨z0, z1, z2, z3, p, nn, c, R⟩, by simpa using e0, by simpa using e1, by simpa using e2, by simpa using e3, by simpa using e4, wf_u64 _ hz1, wf_i64 _ hz2, wf_u64 _ hz3, hby, hyb, fun M' hM' => ?_⟩
    refine hwt M' fun k hk => hM' k ?_
    have hd : d = .agg [y0.1, y1.1, y2.1, y3.1, y4.1] := congrArg Prod.fst hxy
    rw [hd]
    simp only [DataW.weights, Try.underlying29]
    exact DataW.weights_mem_each (j := 4) (t := 27) (d := y4.1) rfl rfl k hk
theorem open_ops {H : Type} {enc : TypeId × Value → H} {w : World} {base : Nat} {held : Bool} {fuel : Nat} {v : Value} {x : DataW H × List MemPlace}
    (h : DataW.trod enc Try.prog w base (fun _ => true) held fuel 22 [v] = some x) (hk : ∀ k ∈ x.1.weights Try.prog 22, k ≤ 140737488351232) : ∃ (q : Option Addr) (m c : Nat) (K PA NN VV : Nat → Int) (SD : Nat → Option Addr) (LN CD : Nat → Nat) (XS : Nat → List Int), v = .slice q m c ∧ ArgO w q m c K PA NN VV SD LN CD XS := by
  rcases Deep.open_slice Try.underlying22 h with ⟨hcs, hx⟩ | ⟨a, len, cap, m, n, D, Pl, hcs, _, hlc, hmax, hm, hx, hc⟩
  · simp only [List.cons.injEq, and_true] at hcs
    exact ⟨none, 0, 0, fun _ => 0, fun _ => 0, fun _ => 0, fun _ => 0, fun _ => none, fun _ => 0, fun _ => 0, fun _ => [], hcs, .inl rfl, ⟨Nat.le_refl _, by decide⟩, fun i hi => (nomatch hi), fun i hi => (nomatch hi), fun i hi => (nomatch hi), fun i hi => (nomatch hi), fun i hi => (nomatch hi), fun i hi => (nomatch hi)⟩
  · simp only [List.cons.injEq, and_true] at hcs
    have hlm : len ≤ m := by rw [hm]; split <;> omega
    have each : ∀ i, i < len → ∃ q : Orec, OpAt w a i (D i) q := by
      intro i hi
      obtain ⟨cs', h1, h2⟩ := hc i (by omega)
      rw [cells29] at h1
      exact open_op h1 h2
    obtain ⟨q, hq⟩ := Deep.choose_lt each
    have hx1 : x.1 = .slice ((List.range len).map D) ((List.range (m - len)).map fun j => D (len + j)) := by rw [hx]
    have hw : ∀ i, i < len → ∀ k ∈ (D i).weights Try.prog 29, k ≤ 140737488351232 := by
      intro i hi k hkk
      refine hk k ?_
      rw [hx1]
      simp only [DataW.weights, Try.underlying22]
      exact List.mem_cons.2 (.inr (List.mem_append.2 (.inl (wts_all (d := D i) (List.mem_map.2 ⟨i, List.mem_range.2 hi, rfl⟩) hkk))))
    refine ⟨some a, len, cap, fun i => (q i).k, fun i => (q i).pa, fun i => (q i).n, fun i => (q i).v, fun i => (q i).s, fun i => (q i).ln, fun i => (q i).cd, fun i => (q i).xs, hcs, ?_, ⟨hlc, hmax⟩, fun i hi => (hq i hi).2.2.2.2.2.1, fun i hi => (hq i hi).2.2.2.2.2.2.1, fun i hi => (hq i hi).2.2.2.2.2.2.2.1, fun i hi => (hq i hi).2.2.2.2.2.2.2.2.1, fun i hi => (hq i hi).2.2.2.2.2.2.2.2.2.1, fun i hi => ?_⟩
    · by_cases h0 : len = 0
      · exact .inl h0
      · have hc0 := (hq 0 (by omega)).1
        obtain ⟨b, off, spot⟩ := a
        have hspot : spot = none := by simpa [Addr.add] using World.cell?_spot hc0
        subst hspot
        refine .inr ⟨b, off, rfl, ?_, fun i hi => ⟨?_, ?_, ?_, ?_, ?_⟩⟩
        · rw [le_addr_add] at hc0
          exact lt_of_cell hc0
        · have := (hq i hi).1
          rwa [le_addr_add] at this
        · have := (hq i hi).2.1
          rwa [le_addr_add, ← Nat.add_assoc] at this
        · have := (hq i hi).2.2.1
          rwa [le_addr_add, ← Nat.add_assoc] at this
        · have := (hq i hi).2.2.2.1
          rwa [le_addr_add, ← Nat.add_assoc] at this
        · have := (hq i hi).2.2.2.2.1
          rwa [le_addr_add, ← Nat.add_assoc] at this
    · have := (hq i hi).2.2.2.2.2.2.2.2.2.2 _ (hw i hi)
      show (q i).ln < _
      omega
theorem own : ownKnob Try.prog.godebug = none := by kernel_rfl
theorem laidOut : laidOutB Try.prog = true := by kernel_rfl
set_option maxRecDepth 100000 in
theorem ramPlays_lifted (os : Os) (started : os.Started) (H : Type) (enc : TypeId × Value → H) :
    ReturnsInHanded {} Try.checked os 3 .any (Rows.ramPlaysSpec.pre6 enc Try.prog Try.f3 Rows.ramPlaysRow.domain false) (Rows.ramPlaysSpec.post enc Try.prog Try.f3 false true false false) := by
  refine returnsInHanded_of_change_sized (C := Try.checked) own started (by kernel_rfl) Try.func3
    (ChangeSpec.witness6 (enc := enc) (C := Try.checked) false ⟨#[], #[.int .i64 0, .slice .none 0 0], []⟩ 8 (by kernel_rfl) (by kernel_rfl) (by kernel_rfl) (by kernel_rfl)) ?_
  intro W base args ds gs before hval0 hW hcnd hsz hsized
  have hval : ∀ (j : Nat) t v, Try.f3.params[j]? = some t → args[j]? = some v → Value.okWide Try.prog W .any base t v := hval0
  have hW' := hW
  obtain ⟨p, q, hA0, hV, rfl, hfz, hnd⟩ := hW
  have hA : DataW.TrodAll enc Try.prog W 0 (fun _ => true) true Try.f3.params.toList args.toList ds p := hA0
  rw [Try.params3] at hA hval
  obtain ⟨v0, vs0, d0, ds0, p0, q0, hargs, rfl, rfl, h0, r0⟩ := trodAll_cons hA
  obtain ⟨v1, vs1, d1, ds1, p1, q1, rfl, rfl, rfl, h1, r1⟩ := trodAll_cons r0
  obtain ⟨rfl, rfl, rfl⟩ := trodAll_nil r1
  obtain rfl : args = #[v0, v1] := by cases args; simp_all
  obtain ⟨rfl, rfl⟩ := trodVars_none hV
  obtain ⟨a0, rfl, rfl, rfl, w0⟩ := open_int Try.underlying3 (hval 0 3 v0 rfl rfl) h0
  clear hA0 hval0
  simp only [List.append_nil, List.nil_append] at hW'
  have hlt : ∀ x ∈ p1, x.block < W.heap.size := fun x hx => by simpa using hW'.lt x (by simpa using hx)
  have h1k := h1
  have hz : (DataW.weightsEach Try.prog [3, 22] [.lit (.int .i64 a0), d1]).all (· ≤ reachBytes) = true := hsz
  have rb : reachBytes = 140737488351232 := by decide
  have hb : ∀ k ∈ d1.weights Try.prog 22, k ≤ 140737488351232 := by
    intro k hk
    have h2 := List.all_eq_true.1 hz k (DataW.weights_mem_each (P := Try.prog) (ts := [3, 22]) (ds := [.lit (.int .i64 a0), d1]) (j := 1) rfl rfl k hk)
    rw [rb] at h2
    exact of_decide_eq_true h2
  obtain ⟨sa, len, cap, rfl⟩ := okWide_slice Try.underlying22 (hval 1 22 v1 rfl rfl)
  obtain ⟨fuel, hf⟩ := h1
  have hargs' : ∀ W', Below W.heap.size W W' → DataW.Trod enc Try.prog W' 0 (fun b => decide (b < W.heap.size)) true 22 (.slice sa len cap) d1 p1 :=
    fun W' hn => Below.trod laidOut (by kernel_rfl) (of_decide_eq_true (by kernel_rfl)) h1k hn hlt
  obtain ⟨sq, sl, sc, K, PA, NN, VV, SD, LN, CD, XS, e1, hArg⟩ := open_ops hf hb
  injection e1 with e1 e2 e3
  subst e1 e2 e3
  refine (plays_any a0 W sa len cap K PA NN VV SD LN CD XS hArg).mono fun e W' ⟨he, bel⟩ => ?_
  subst he
  exact ⟨_, rfl, _, _, _, [], _, [], hW', trodAll_mk1 (shut_bool Try.underlying4 _), (trodAll_cons_mk (shut_int Try.underlying3 w0) (trodAll_cons_mk (hargs' W' bel) trodAll_mk0)), rfl, bel.frame _, fun h => by cases h⟩
theorem ramPlays_holds : Rows.RamPlaysSaid :=
  OpenClaim.holds_of_wide 3 Try.f3 rfl rfl rfl rfl rfl rfl rfl ⟨rfl, rfl, rfl, rfl, rfl⟩ rfl rfl rfl rfl rfl (by kernel_rfl) Try.func3 (by kernel_rfl)
    (of_decide_eq_true (by kernel_rfl)) (by unfold Func.isWrapper; first | (rw [if_pos (by decide +kernel)]; kernel_rfl) | (rw [if_neg (by decide +kernel)]; exact ⟨rfl, rfl⟩))
    (fun os started H enc _ => ramPlays_lifted os started H enc)
#print axioms ramPlays_holds
end Go.Proofs.Ytnghcadhilfgnaa
