import Derived.Test.YtabhojfdkmeaoabHl
import Derived.Test.YtabhojfdkmeaoabRows
import Derived.ProofKit
import Derived.OpenShut
import Derived.ShutString
import Derived.ChangeOld
import Derived.SizedLaws
import Derived.Carry
import Derived.Deep.Slices
namespace Go.Proofs.Ytabhojfdkmeaoab
open Go.ChangeShapes Go.WideShapes Go.ChangeAt Go.RowKit
set_option linter.unusedVariables false
set_option linter.unusedSimpArgs false
theorem wts_all {H : Type} {e : TypeId} {d : DataW H} {k : Nat} : ∀ {l : List (DataW H)}, d ∈ l → k ∈ d.weights Try.prog e → k ∈ DataW.weightsAll Try.prog e l
  | x :: l, h, hk => by
    simp only [DataW.weightsAll, List.mem_append]
    rcases List.mem_cons.1 h with rfl | h
    · exact .inl hk
    · exact .inr (wts_all h hk)
theorem bytes5 : Try.prog.bytesOf 5 = 1 := by kernel_rfl
theorem bytes43 : Try.prog.bytesOf 50 = 48 := by kernel_rfl
theorem cells5 : Try.prog.cellsOf 5 = 1 := by kernel_rfl
theorem cells3 : Try.prog.cellsOf 3 = 1 := by kernel_rfl
theorem cells4 : Try.prog.cellsOf 4 = 1 := by kernel_rfl
theorem cells22 : Try.prog.cellsOf 22 = 1 := by kernel_rfl
theorem cells25 : Try.prog.cellsOf 23 = 1 := by kernel_rfl
theorem cells36 : Try.prog.cellsOf 25 = 5 := by kernel_rfl
theorem cells43 : Try.prog.cellsOf 50 = 4 := by kernel_rfl
theorem wf_u8 (z : Int) (h : (Lit.int .u8 z).wf = true) : 0 ≤ z ∧ z < 256 := by
  simp [Lit.wf, IntKind.min, IntKind.max, IntKind.signed, IntKind.bits] at h
  omega
theorem wf_u32 (z : Int) (h : (Lit.int .u32 z).wf = true) : 0 ≤ z ∧ z < 4294967296 := by
  simp [Lit.wf, IntKind.min, IntKind.max, IntKind.signed, IntKind.bits] at h
  omega
theorem wf_i64 (z : Int) (h : (Lit.int .i64 z).wf = true) : -9223372036854775808 ≤ z ∧ z ≤ 9223372036854775807 := by
  simp [Lit.wf, IntKind.min, IntKind.max, IntKind.signed, IntKind.bits] at h
  omega
/-- A row of bytes as it is handed in. -/
structure Arg (w : World) (p : Option Addr) (n c : Nat) (xs : List Int) : Prop where
  byt : Byt w p n c xs
  bd : ∀ y ∈ xs, 0 ≤ y ∧ y < 256
  nb : ∀ a, p = some a → a.block < w.heap.size
theorem open_byt {H : Type} {enc : TypeId × Value → H} {w : World} {base : Nat} {held : Bool} {fuel : Nat} {v : Value} {x : DataW H × List MemPlace}
    (h : DataW.trod enc Try.prog w base (fun _ => true) held fuel 22 [v] = some x) : ∃ p n c xs, v = .slice p n c ∧ Byt w p n c xs ∧ (∀ y ∈ xs, 0 ≤ y ∧ y < 256) ∧ ∀ M', (∀ k ∈ x.1.weights Try.prog 22, k ≤ M') → n ≤ M' := by
  rcases open_ints Try.underlying22 Try.underlying5 cells5 h with ⟨hcs, hx⟩ | ⟨a, len, cap, zs, hcs, _, hlc, hmax, hlen, hx, hcell, hwf⟩
  · simp only [List.cons.injEq, and_true] at hcs
    exact ⟨none, 0, 0, [], hcs, ⟨rfl, Nat.le_refl _, by decide, .inl rfl⟩, fun y hy => (nomatch hy), fun _ _ => Nat.zero_le _⟩
  · simp only [List.cons.injEq, and_true] at hcs
    have hz : zs.length = cap := by simpa using hlen
    refine ⟨some a, len, cap, zs.take len, hcs, ⟨by simp; omega, hlc, hmax, ?_⟩, fun y hy => wf_u8 y (hwf y (List.mem_of_mem_take hy)), ?_⟩
    · by_cases h0 : len = 0
      · exact .inl h0
      · have hc0 := hcell 0 (by omega)
        obtain ⟨b, off, spot⟩ := a
        have hspot : spot = none := by simpa [Addr.add] using World.cell?_spot hc0
        subst hspot
        refine .inr ⟨b, off, rfl, ?_, fun i y hy => ?_⟩
        · rw [le_addr_add] at hc0
          exact lt_cell hc0
        · have hi : i < len := by have := (List.getElem?_eq_some_iff.1 hy).1; simp at this; omega
          have := hcell i (by omega)
          rw [le_addr_add] at this
          rw [this]
          rw [List.getElem?_take, if_pos hi] at hy
          rw [List.getD_eq_getElem?_getD, hy]
          rfl
    · intro M' hM'
      have h1 := hM' ((len + (cap - len)) * Try.prog.bytesOf 5) (by
        rw [hx]
        simp only [DataW.weights, Try.underlying22]
        have el : ((lits .u8 (zs.take len)).length (α := DataW H)) = len := by simp [lits]; omega
        have ed : ((lits .u8 (zs.drop len)).length (α := DataW H)) = cap - len := by simp [lits]; omega
        rw [el, ed]
        exact List.mem_cons_self ..)
      rw [bytes5] at h1
      omega
/-- One act of the script. -/
structure Orec where
  k : Int
  wh : Int
  n : Int
  s : Option Addr
  ln : Nat
  cd : Nat
  xs : List Int
instance : Inhabited Orec := ⟨⟨0, 0, 0, none, 0, 0, []⟩⟩
def OpAt {H : Type} (w : World) (a : Addr) (i : Nat) (d : DataW H) (q : Orec) : Prop :=
  w.cell? (a.add (i * 4)) = some (.int .i64 q.k) ∧ w.cell? (a.add (i * 4 + 1)) = some (.int .i64 q.wh) ∧ w.cell? (a.add (i * 4 + 2)) = some (.slice q.s q.ln q.cd) ∧ w.cell? (a.add (i * 4 + 3)) = some (.int .i64 q.n) ∧
  (-9223372036854775808 ≤ q.wh ∧ q.wh ≤ 9223372036854775807) ∧ (-9223372036854775808 ≤ q.n ∧ q.n ≤ 9223372036854775807) ∧ Byt w q.s q.ln q.cd q.xs ∧ (∀ y ∈ q.xs, 0 ≤ y ∧ y < 256) ∧ ∀ M', (∀ k ∈ d.weights Try.prog 50, k ≤ M') → q.ln ≤ M'
set_option maxRecDepth 100000 in
theorem open_op {H : Type} {enc : TypeId × Value → H} {w : World} {base : Nat} {held : Bool} {n i : Nat} {a : Addr} {cs : List Value} {d : DataW H} {pl : List MemPlace} (h1 : w.cells? base (a.add (i * 4)) 4 = some cs) (h2 : DataW.trod enc Try.prog w base (fun _ => true) held n 50 cs = some (d, pl)) : ∃ q, OpAt w a i d q := by
  obtain ⟨_, hlen, hcell⟩ := World.cells?_some h1
  obtain ⟨xs, k, hk, hxy, _, hxl, hf⟩ := DataW.trod_struct Try.underlying50 h2
  have hxl : xs.length = 4 := hxl
  match xs, hxl, cs, hlen with
  | [y0, y1, y2, y3], _, [v0, v1, v2, v3], _ =>
    have g0 := hf 0 _ rfl
    have g1 := hf 1 _ rfl
    have g2 := hf 2 _ rfl
    have g3 := hf 3 _ rfl
    simp [cells3, cells22] at g0 g1 g2 g3
    have e0 := hcell 0 (by omega)
    have e1 := hcell 1 (by omega)
    have e2 := hcell 2 (by omega)
    have e3 := hcell 3 (by omega)
    rw [Deep.add_add] at e0 e1 e2 e3
    obtain ⟨z0, f0, _, hz0⟩ := DataW.trod_int Try.underlying3 g0
    obtain ⟨z1, f1, _, hz1⟩ := DataW.trod_int Try.underlying3 g1
    obtain ⟨z3, f3, _, hz3⟩ := DataW.trod_int Try.underlying3 g3
    obtain ⟨p, nn, c, R, f2, hby, hyb, hwt⟩ := open_byt g2
    simp only [List.cons.injEq, and_true] at f0 f1 f3
    subst f0 f1 f2 f3
    refine ⟨⟨z0, z1, z3, p, nn, c, R⟩, by simpa using e0, by simpa using e1, by simpa using e2, by simpa using e3, wf_i64 _ hz1, wf_i64 _ hz3, hby, hyb, fun M' hM' => ?_⟩
    refine hwt M' fun k hk => hM' k ?_
    have hd : d = .agg [y0.1, y1.1, y2.1, y3.1] := congrArg Prod.fst hxy
    rw [hd]
    simp only [DataW.weights, Try.underlying50]
    exact DataW.weights_mem_each (j := 2) (t := 22) (d := y2.1) rfl rfl k hk
/-- The script as it is handed in. -/
structure ArgO (w : World) (q : Option Addr) (m c : Nat) (O : Nat → Orec) : Prop where
  at' : m = 0 ∨ ∃ b o, q = some ⟨b, o, .none⟩ ∧ b < w.heap.size ∧ ∀ i, i < m → w.cell? ⟨b, o + i * 4, .none⟩ = some (.int .i64 (O i).k) ∧ w.cell? ⟨b, o + i * 4 + 1, .none⟩ = some (.int .i64 (O i).wh) ∧ w.cell? ⟨b, o + i * 4 + 2, .none⟩ = some (.slice (O i).s (O i).ln (O i).cd) ∧ w.cell? ⟨b, o + i * 4 + 3, .none⟩ = some (.int .i64 (O i).n)
  lc : m ≤ c ∧ c ≤ maxLen
  mm : m ≤ 2932031007402
  wh : ∀ i, i < m → -9223372036854775808 ≤ (O i).wh ∧ (O i).wh ≤ 9223372036854775807
  n : ∀ i, i < m → -9223372036854775808 ≤ (O i).n ∧ (O i).n ≤ 9223372036854775807
  byt : ∀ i, i < m → Byt w (O i).s (O i).ln (O i).cd (O i).xs
  bd : ∀ i, i < m → ∀ y ∈ (O i).xs, 0 ≤ y ∧ y < 256
  ln : ∀ i, i < m → (O i).ln < 140737488355000
theorem open_ops {H : Type} {enc : TypeId × Value → H} {w : World} {base : Nat} {held : Bool} {fuel : Nat} {v : Value} {x : DataW H × List MemPlace}
    (h : DataW.trod enc Try.prog w base (fun _ => true) held fuel 26 [v] = some x) (hk : ∀ k ∈ x.1.weights Try.prog 26, k ≤ 140737488351232) : ∃ (q : Option Addr) (m c : Nat) (O : Nat → Orec), v = .slice q m c ∧ ArgO w q m c O := by
  rcases Deep.open_slice Try.underlying26 h with ⟨hcs, hx⟩ | ⟨a, len, cap, m, n, D, Pl, hcs, _, hlc, hmax, hm, hx, hc⟩
  · simp only [List.cons.injEq, and_true] at hcs
    exact ⟨none, 0, 0, fun _ => default, hcs, .inl rfl, ⟨Nat.le_refl _, by decide⟩, by decide, fun i hi => (nomatch hi), fun i hi => (nomatch hi), fun i hi => (nomatch hi), fun i hi => (nomatch hi), fun i hi => (nomatch hi)⟩
  · simp only [List.cons.injEq, and_true] at hcs
    have hlm : len ≤ m := by rw [hm]; split <;> omega
    have each : ∀ i, i < len → ∃ q : Orec, OpAt w a i (D i) q := by
      intro i hi
      obtain ⟨cs', h1, h2⟩ := hc i (by omega)
      rw [cells43] at h1
      exact open_op h1 h2
    obtain ⟨q, hq⟩ := Deep.choose_lt each
    have hx1 : x.1 = .slice ((List.range len).map D) ((List.range (m - len)).map fun j => D (len + j)) := by rw [hx]
    have hw : ∀ i, i < len → ∀ k ∈ (D i).weights Try.prog 50, k ≤ 140737488351232 := by
      intro i hi k hkk
      refine hk k ?_
      rw [hx1]
      simp only [DataW.weights, Try.underlying26]
      exact List.mem_cons.2 (.inr (List.mem_append.2 (.inl (wts_all (d := D i) (List.mem_map.2 ⟨i, List.mem_range.2 hi, rfl⟩) hkk))))
    have hmm : len ≤ 2932031007402 := by
      have h1 := hk ((((List.range len).map D).length + ((List.range (m - len)).map fun j => D (len + j)).length) * Try.prog.bytesOf 50) (by
        rw [hx1]
        simp only [DataW.weights, Try.underlying26]
        exact List.mem_cons_self ..)
      rw [bytes43] at h1
      simp only [List.length_map, List.length_range] at h1
      omega
    refine ⟨some a, len, cap, q, hcs, ?_, ⟨hlc, hmax⟩, hmm, fun i hi => (hq i hi).2.2.2.2.1, fun i hi => (hq i hi).2.2.2.2.2.1, fun i hi => (hq i hi).2.2.2.2.2.2.1, fun i hi => (hq i hi).2.2.2.2.2.2.2.1, fun i hi => ?_⟩
    · by_cases h0 : len = 0
      · exact .inl h0
      · have hc0 := (hq 0 (by omega)).1
        obtain ⟨b, off, spot⟩ := a
        have hspot : spot = none := by simpa [Addr.add] using World.cell?_spot hc0
        subst hspot
        refine .inr ⟨b, off, rfl, ?_, fun i hi => ⟨?_, ?_, ?_, ?_⟩⟩
        · rw [le_addr_add] at hc0
          exact lt_cell hc0
        · have := (hq i hi).1
          rwa [le_addr_add] at this
        · have := (hq i hi).2.1
          rwa [le_addr_add, ← Nat.add_assoc] at this
        · have := (hq i hi).2.2.1
          rwa [le_addr_add, ← Nat.add_assoc] at this
        · have := (hq i hi).2.2.2.1
          rwa [le_addr_add, ← Nat.add_assoc] at this
    · have := (hq i hi).2.2.2.2.2.2.2.2 _ (hw i hi)
      show (q i).ln < _
      omega
theorem list5 {l : List Value} (h : l.length = 5) : ∃ a b c d e, l = [a, b, c, d, e] := by
  match l, h with
  | [a, b, c, d, e], _ => exact ⟨a, b, c, d, e, rfl⟩
/-- A state as it is handed in. -/
theorem open_st {H : Type} {enc : TypeId × Value → H} {w : World} {base base' : Nat} {held : Bool} {r : Reach} {v : Value} {d : DataW H} {p : List MemPlace}
    (hv : Value.okWide Try.prog w r base' 25 v) (h : DataW.Trod enc Try.prog w base (fun _ => true) held 25 v d p) :
    ∃ (q : Option Addr) (n c : Nat) (xs : List Int) (R S : Int) (rd wt : Bool), v = .agg #[.slice q n c, .int .u32 R, .int .u32 S, .bool rd, .bool wt] ∧ Byt w q n c xs ∧ (∀ y ∈ xs, 0 ≤ y ∧ y < 256) ∧ (0 ≤ R ∧ R < 4294967296) ∧ (0 ≤ S ∧ S < 4294967296) ∧ ∀ M', (∀ k ∈ d.weights Try.prog 25, k ≤ M') → n ≤ M' := by
  obtain ⟨cs, rfl, hsz⟩ := okWide_struct Try.underlying25 hv
  have hsz2 : cs.toList.length = 5 := by
    have : cs.size = 5 := hsz.trans (by kernel_rfl)
    simpa using this
  obtain ⟨c0, c1, c2, c3, c4, hcs⟩ := list5 hsz2
  obtain ⟨fuel, hf⟩ := h
  obtain ⟨xs, n, _, hx, hl, hlen, hf⟩ := DataW.trod_struct Try.underlying25 hf
  simp only [Value.cells, hcs] at hf
  have hl2 : xs.length = 5 := hlen
  match xs, hl2 with
  | [y0, y1, y2, y3, y4], _ =>
    have g0 := hf 0 _ rfl
    have g1 := hf 1 _ rfl
    have g2 := hf 2 _ rfl
    have g3 := hf 3 _ rfl
    have g4 := hf 4 _ rfl
    simp [cells22, cells25, cells4] at g0 g1 g2 g3 g4
    obtain ⟨q, nn, c, R, f0, hby, hyb, hwt⟩ := open_byt g0
    obtain ⟨z1, f1, _, hz1⟩ := DataW.trod_int Try.underlying23 g1
    obtain ⟨z2, f2, _, hz2⟩ := DataW.trod_int Try.underlying23 g2
    obtain ⟨z3, f3, _⟩ := DataW.trod_bool Try.underlying4 g3
    obtain ⟨z4, f4, _⟩ := DataW.trod_bool Try.underlying4 g4
    simp only [List.cons.injEq, and_true] at f1 f2 f3 f4
    refine ⟨q, nn, c, R, z1, z2, z3, z4, ?_, hby, hyb, wf_u32 _ hz1, wf_u32 _ hz2, fun M' hM' => ?_⟩
    · subst f0 f1 f2 f3 f4
      congr 1
      rw [← Array.toArray_toList (xs := cs), hcs]
    · refine hwt M' fun k hk => hM' k ?_
      have hd : d = .agg [y0.1, y1.1, y2.1, y3.1, y4.1] := congrArg Prod.fst hx
      rw [hd]
      simp only [DataW.weights, Try.underlying25]
      exact DataW.weights_mem_each (j := 0) (t := 22) (d := y0.1) rfl rfl k hk
theorem own : ownKnob Try.prog.godebug = none := by kernel_rfl
theorem laidOut : laidOutB Try.prog = true := by kernel_rfl
end Go.Proofs.Ytabhojfdkmeaoab
