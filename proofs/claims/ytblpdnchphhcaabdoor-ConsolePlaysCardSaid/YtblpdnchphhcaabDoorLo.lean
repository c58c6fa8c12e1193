import Derived.Test.YtblpdnchphhcaabDoorLg
namespace Go.Proofs.YtblpdnchphhcaabDoor
open Go.ChangeShapes Go.WideShapes Go.ChangeAt Go.RowKit
set_option linter.unusedVariables false
set_option linter.unusedSimpArgs false
theorem wts_all {H : Type} {e : TypeId} {d : DataW H} {k : Nat} : ∀ {l : List (DataW H)}, d ∈ l → k ∈ d.weights Tryd.prog e → k ∈ DataW.weightsAll Tryd.prog e l
  | x :: l, h, hk => by
    simp only [DataW.weightsAll, List.mem_append]
    rcases List.mem_cons.1 h with rfl | h
    · exact .inl hk
    · exact .inr (wts_all h hk)
theorem wf_i64 (z : Int) (h : (Lit.int .i64 z).wf = true) : -9223372036854775808 ≤ z ∧ z ≤ 9223372036854775807 := by
  simp [Lit.wf, IntKind.min, IntKind.max, IntKind.signed, IntKind.bits] at h
  omega
theorem cells3 : Tryd.prog.cellsOf 3 = 1 := by kernel_rfl
theorem cellsOp : Tryd.prog.cellsOf 31 = 4 := by kernel_rfl
theorem bytesOp : Tryd.prog.bytesOf 31 = 48 := by kernel_rfl
/-- One act of the script. -/
structure Orc where
  k : Int
  wh : Int
  n : Int
  s : Option Addr
  ln : Nat
  cd : Nat
  xs : List Int
instance : Inhabited Orc := ⟨⟨0, 0, 0, none, 0, 0, []⟩⟩
def OpAtC {H : Type} (w : World) (a : Addr) (i : Nat) (d : DataW H) (q : Orc) : Prop :=
  w.cell? (a.add (i * 4)) = some (.int .i64 q.k) ∧ w.cell? (a.add (i * 4 + 1)) = some (.int .u8 q.wh) ∧ w.cell? (a.add (i * 4 + 2)) = some (.int .i64 q.n) ∧ w.cell? (a.add (i * 4 + 3)) = some (.slice q.s q.ln q.cd) ∧
  (0 ≤ q.wh ∧ q.wh < 256) ∧ (-9223372036854775808 ≤ q.n ∧ q.n ≤ 9223372036854775807) ∧ Byt w q.s q.ln q.cd q.xs ∧ (∀ y ∈ q.xs, 0 ≤ y ∧ y < 256) ∧ ∀ M', (∀ k ∈ d.weights Tryd.prog 31, k ≤ M') → q.ln ≤ M'
set_option maxRecDepth 100000 in
theorem open_opC {H : Type} {enc : TypeId × Value → H} {w : World} {base : Nat} {held : Bool} {n i : Nat} {a : Addr} {cs : List Value} {d : DataW H} {pl : List MemPlace} (h1 : w.cells? base (a.add (i * 4)) 4 = some cs) (h2 : DataW.trod enc Tryd.prog w base (fun _ => true) held n 31 cs = some (d, pl)) : ∃ q, OpAtC w a i d q := by
  obtain ⟨_, hlen, hcell⟩ := World.cells?_some h1
  obtain ⟨xs, k, hk, hxy, _, hxl, hf⟩ := DataW.trod_struct Tryd.underlying31 h2
  have hxl : xs.length = 4 := hxl
  match xs, hxl, cs, hlen with
  | [y0, y1, y2, y3], _, [v0, v1, v2, v3], _ =>
    have g0 := hf 0 _ rfl
    have g1 := hf 1 _ rfl
    have g2 := hf 2 _ rfl
    have g3 := hf 3 _ rfl
    simp [cells3, cells5, cells22] at g0 g1 g2 g3
    have e0 := hcell 0 (by omega)
    have e1 := hcell 1 (by omega)
    have e2 := hcell 2 (by omega)
    have e3 := hcell 3 (by omega)
    rw [Deep.add_add] at e0 e1 e2 e3
    obtain ⟨z0, f0, _, hz0⟩ := DataW.trod_int Tryd.underlying3 g0
    obtain ⟨z1, f1, _, hz1⟩ := DataW.trod_int Tryd.underlying5 g1
    obtain ⟨z3, f2, _, hz3⟩ := DataW.trod_int Tryd.underlying3 g2
    obtain ⟨p, nn, c, R, f3, hby, hyb, hwt⟩ := open_byw g3
    simp only [List.cons.injEq, and_true] at f0 f1 f2
    subst f0 f1 f2 f3
    refine ⟨⟨z0, z1, z3, p, nn, c, R⟩, by simpa using e0, by simpa using e1, by simpa using e2, by simpa using e3, wf_u8 _ hz1, wf_i64 _ hz3, hby, hyb, fun M' hM' => ?_⟩
    refine hwt M' fun k hk => hM' k ?_
    have hd : d = .agg [y0.1, y1.1, y2.1, y3.1] := congrArg Prod.fst hxy
    rw [hd]
    simp only [DataW.weights, Tryd.underlying31]
    exact DataW.weights_mem_each (j := 3) (t := 22) (d := y3.1) rfl rfl k hk
/-- The script as it is handed in. -/
structure ArgC (w : World) (q : Option Addr) (m c : Nat) (O : Nat → Orc) : Prop where
  at' : m = 0 ∨ ∃ b o, q = some ⟨b, o, .none⟩ ∧ b < w.heap.size ∧ ∀ i, i < m → w.cell? ⟨b, o + i * 4, .none⟩ = some (.int .i64 (O i).k) ∧ w.cell? ⟨b, o + i * 4 + 1, .none⟩ = some (.int .u8 (O i).wh) ∧ w.cell? ⟨b, o + i * 4 + 2, .none⟩ = some (.int .i64 (O i).n) ∧ w.cell? ⟨b, o + i * 4 + 3, .none⟩ = some (.slice (O i).s (O i).ln (O i).cd)
  lc : m ≤ c ∧ c ≤ maxLen
  mm : m ≤ 2932031007402
  wh : ∀ i, i < m → 0 ≤ (O i).wh ∧ (O i).wh < 256
  n : ∀ i, i < m → -9223372036854775808 ≤ (O i).n ∧ (O i).n ≤ 9223372036854775807
  byt : ∀ i, i < m → Byt w (O i).s (O i).ln (O i).cd (O i).xs
  bd : ∀ i, i < m → ∀ y ∈ (O i).xs, 0 ≤ y ∧ y < 256
  ln : ∀ i, i < m → (O i).ln < 140737488355000
theorem open_opsC {H : Type} {enc : TypeId × Value → H} {w : World} {base : Nat} {held : Bool} {fuel : Nat} {v : Value} {x : DataW H × List MemPlace}
    (h : DataW.trod enc Tryd.prog w base (fun _ => true) held fuel 25 [v] = some x) (hk : ∀ k ∈ x.1.weights Tryd.prog 25, k ≤ 140737488351232) : ∃ (q : Option Addr) (m c : Nat) (O : Nat → Orc), v = .slice q m c ∧ ArgC w q m c O := by
  rcases Deep.open_slice Tryd.underlying25 h with ⟨hcs, hx⟩ | ⟨a, len, cap, m, n, D, Pl, hcs, _, hlc, hmax, hm, hx, hc⟩
  · simp only [List.cons.injEq, and_true] at hcs
    exact ⟨none, 0, 0, fun _ => default, hcs, .inl rfl, ⟨Nat.le_refl _, by decide⟩, by decide, fun i hi => (nomatch hi), fun i hi => (nomatch hi), fun i hi => (nomatch hi), fun i hi => (nomatch hi), fun i hi => (nomatch hi)⟩
  · simp only [List.cons.injEq, and_true] at hcs
    have hlm : len ≤ m := by rw [hm]; split <;> omega
    have each : ∀ i, i < len → ∃ q : Orc, OpAtC w a i (D i) q := by
      intro i hi
      obtain ⟨cs', h1, h2⟩ := hc i (by omega)
      rw [cellsOp] at h1
      exact open_opC h1 h2
    obtain ⟨q, hq⟩ := Deep.choose_lt each
    have hx1 : x.1 = .slice ((List.range len).map D) ((List.range (m - len)).map fun j => D (len + j)) := by rw [hx]
    have hw : ∀ i, i < len → ∀ k ∈ (D i).weights Tryd.prog 31, k ≤ 140737488351232 := by
      intro i hi k hkk
      refine hk k ?_
      rw [hx1]
      simp only [DataW.weights, Tryd.underlying25]
      exact List.mem_cons.2 (.inr (List.mem_append.2 (.inl (wts_all (d := D i) (List.mem_map.2 ⟨i, List.mem_range.2 hi, rfl⟩) hkk))))
    have hmm : len ≤ 2932031007402 := by
      have h1 := hk ((((List.range len).map D).length + ((List.range (m - len)).map fun j => D (len + j)).length) * Tryd.prog.bytesOf 31) (by
        rw [hx1]
        simp only [DataW.weights, Tryd.underlying25]
        exact List.mem_cons_self ..)
      rw [bytesOp] at h1
      simp only [List.length_map, List.length_range] at h1
      omega
    refine ⟨some a, len, cap, q, hcs, ?_, ⟨hlc, hmax⟩, hmm, fun i hi => (hq i hi).2.2.2.2.1, fun i hi => (hq i hi).2.2.2.2.2.1, fun i hi => (hq i hi).2.2.2.2.2.2.1, fun i hi => (hq i hi).2.2.2.2.2.2.2.1, fun i hi => ?_⟩
    · by_cases h0 : len = 0
      · exact .inl h0
      · have hc0 := (hq 0 (by omega)).1
        obtain ⟨b, off, spot⟩ := a
        have hspot : spot = none := by simpa [Addr.add] using World.cell?_spot hc0
        subst hspot
        refine .inr ⟨b, off, rfl, ?_, fun i hi => ⟨?_, ?_, ?_, ?_⟩⟩
        · rw [le_addr_add] at hc0
          exact lt_cell hc0
        · have := (hq i hi).1
          rwa [le_addr_add] at this
        · have := (hq i hi).2.1
          rwa [le_addr_add, ← Nat.add_assoc] at this
        · have := (hq i hi).2.2.1
          rwa [le_addr_add, ← Nat.add_assoc] at this
        · have := (hq i hi).2.2.2.1
          rwa [le_addr_add, ← Nat.add_assoc] at this
    · have := (hq i hi).2.2.2.2.2.2.2.2 _ (hw i hi)
      show (q i).ln < _
      omega
end Go.Proofs.YtblpdnchphhcaabDoor
