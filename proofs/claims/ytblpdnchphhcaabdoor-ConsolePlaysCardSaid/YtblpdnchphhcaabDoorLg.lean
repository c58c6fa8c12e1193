import Derived.Test.YtblpdnchphhcaabDoorLc
namespace Go.Proofs.YtblpdnchphhcaabDoor
open Go.ChangeShapes Go.WideShapes Go.ChangeAt Go.RowKit
set_option linter.unusedVariables false
set_option linter.unusedSimpArgs false
theorem bytes5 : Tryd.prog.bytesOf 5 = 1 := by kernel_rfl
theorem cells22 : Tryd.prog.cellsOf 22 = 1 := by kernel_rfl
theorem open_byw {H : Type} {enc : TypeId × Value → H} {w : World} {base : Nat} {held : Bool} {fuel : Nat} {v : Value} {x : DataW H × List MemPlace}
    (h : DataW.trod enc Tryd.prog w base (fun _ => true) held fuel 22 [v] = some x) : ∃ p n c xs, v = .slice p n c ∧ Byt w p n c xs ∧ (∀ y ∈ xs, 0 ≤ y ∧ y < 256) ∧ ∀ M', (∀ k ∈ x.1.weights Tryd.prog 22, k ≤ M') → n ≤ M' := by
  rcases open_ints Tryd.underlying22 Tryd.underlying5 cells5 h with ⟨hcs, hx⟩ | ⟨a, len, cap, zs, hcs, _, hlc, hmax, hlen, hx, hcell, hwf⟩
  · simp only [List.cons.injEq, and_true] at hcs
    exact ⟨none, 0, 0, [], hcs, ⟨rfl, Nat.le_refl _, by decide, .inl rfl⟩, fun y hy => (nomatch hy), fun _ _ => Nat.zero_le _⟩
  · simp only [List.cons.injEq, and_true] at hcs
    have hz : zs.length = cap := by simpa using hlen
    refine ⟨some a, len, cap, zs.take len, hcs, ⟨by simp; omega, hlc, hmax, ?_⟩, fun y hy => wf_u8 y (hwf y (List.mem_of_mem_take hy)), ?_⟩
    · by_cases h0 : len = 0
      · exact .inl h0
      · have hc0 := hcell 0 (by omega)
        obtain ⟨b, off, spot⟩ := a
        have hspot : spot = none := by simpa [Addr.add] using World.cell?_spot hc0
        subst hspot
        refine .inr ⟨b, off, rfl, ?_, fun i y hy => ?_⟩
        · rw [le_addr_add] at hc0
          exact lt_cell hc0
        · have hi : i < len := by have := (List.getElem?_eq_some_iff.1 hy).1; simp at this; omega
          have := hcell i (by omega)
          rw [le_addr_add] at this
          rw [this]
          rw [List.getElem?_take, if_pos hi] at hy
          rw [List.getD_eq_getElem?_getD, hy]
          rfl
    · intro M' hM'
      have h1 := hM' ((len + (cap - len)) * Tryd.prog.bytesOf 5) (by
        rw [hx]
        simp only [DataW.weights, Tryd.underlying22]
        have el : ((lits .u8 (zs.take len)).length (α := DataW H)) = len := by simp [lits]; omega
        have ed : ((lits .u8 (zs.drop len)).length (α := DataW H)) = cap - len := by simp [lits]; omega
        rw [el, ed]
        exact List.mem_cons_self ..)
      rw [bytes5] at h1
      omega
/-- One act of the script. -/
structure Orec where
  k : Int
  wh : Int
  n : Int
  s : Option Addr
  ln : Nat
  cd : Nat
  xs : List Int
instance : Inhabited Orec := ⟨⟨0, 0, 0, none, 0, 0, []⟩⟩
def OpAt {H : Type} (w : World) (a : Addr) (i : Nat) (d : DataW H) (q : Orec) : Prop :=
  w.cell? (a.add (i * 4)) = some (.int .i64 q.k) ∧ w.cell? (a.add (i * 4 + 1)) = some (.int .i64 q.wh) ∧ w.cell? (a.add (i * 4 + 2)) = some (.slice q.s q.ln q.cd) ∧ w.cell? (a.add (i * 4 + 3)) = some (.int .i64 q.n) ∧
  (-9223372036854775808 ≤ q.wh ∧ q.wh ≤ 9223372036854775807) ∧ (-9223372036854775808 ≤ q.n ∧ q.n ≤ 9223372036854775807) ∧ Byt w q.s q.ln q.cd q.xs ∧ (∀ y ∈ q.xs, 0 ≤ y ∧ y < 256) ∧ ∀ M', (∀ k ∈ d.weights Tryd.prog 43, k ≤ M') → q.ln ≤ M'
set_option maxRecDepth 100000 in
theorem list2 {α : Type} : ∀ {l : List α}, l.length = 2 → ∃ a b, l = [a, b]
  | [a, b], _ => ⟨a, b, rfl⟩
/-- A state as it is handed in. -/
theorem open_st {H : Type} {enc : TypeId × Value → H} {w : World} {base base' : Nat} {held : Bool} {r : Reach} {v : Value} {d : DataW H} {p : List MemPlace}
    (hv : Value.okWide Tryd.prog w r base' 24 v) (h : DataW.Trod enc Tryd.prog w base (fun _ => true) held 24 v d p) :
    ∃ (q : Option Addr) (n c : Nat) (q2 : Option Addr) (m e : Nat) (xs ys : List Int), v = .agg #[.slice q n c, .slice q2 m e] ∧ Byt w q n c xs ∧ (∀ y ∈ xs, 0 ≤ y ∧ y < 256) ∧ Byt w q2 m e ys ∧ (∀ y ∈ ys, 0 ≤ y ∧ y < 256) ∧ ∀ M', (∀ k ∈ d.weights Tryd.prog 24, k ≤ M') → n ≤ M' ∧ m ≤ M' := by
  obtain ⟨cs, rfl, hsz⟩ := okWide_struct Tryd.underlying24 hv
  have hsz2 : cs.toList.length = 2 := by
    have : cs.size = 2 := hsz.trans (by kernel_rfl)
    simpa using this
  obtain ⟨c0, c1, hcs⟩ := list2 hsz2
  obtain ⟨fuel, hf⟩ := h
  obtain ⟨xs, n, _, hx, hl, hlen, hf⟩ := DataW.trod_struct Tryd.underlying24 hf
  simp only [Value.cells, hcs] at hf
  have hl2 : xs.length = 2 := hlen
  match xs, hl2 with
  | [y0, y1], _ =>
    have g0 := hf 0 _ rfl
    have g1 := hf 1 _ rfl
    simp [cells22] at g0 g1
    obtain ⟨q, nn, c, R, f0, hby, hyb, hwt⟩ := open_byw g0
    obtain ⟨q2, mm, c2, R2, f1, hby2, hyb2, hwt2⟩ := open_byw g1
    have hd : d = .agg [y0.1, y1.1] := congrArg Prod.fst hx
    refine ⟨q, nn, c, q2, mm, c2, R, R2, ?_, hby, hyb, hby2, hyb2, fun M' hM' => ⟨hwt M' fun k hk => hM' k ?_, hwt2 M' fun k hk => hM' k ?_⟩⟩
    · subst f0 f1
      congr 1
      rw [← Array.toArray_toList (xs := cs), hcs]
    · rw [hd]
      simp only [DataW.weights, Tryd.underlying24]
      exact DataW.weights_mem_each (j := 0) (t := 22) (d := y0.1) rfl rfl k hk
    · rw [hd]
      simp only [DataW.weights, Tryd.underlying24]
      exact DataW.weights_mem_each (j := 1) (t := 22) (d := y1.1) rfl rfl k hk
end Go.Proofs.YtblpdnchphhcaabDoor
