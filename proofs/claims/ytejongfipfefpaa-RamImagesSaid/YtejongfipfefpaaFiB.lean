import Derived.Test.YtejongfipfefpaaFiA
import Derived.Test.YtejongfipfefpaaAcc
import Derived.Deep.RegionHeld3
namespace Go.Proofs.Ytejongfipfefpaa
open Go.RowKit
set_option linter.unusedVariables false
set_option linter.unusedSimpArgs false
/-- Which frame an address names. -/
def fi (x : Int) : Nat := ((x - 2147483648) / 4096).toNat
theorem fi_of {x : Int} {n : Nat} (h : isFr x n = true) : fi x < n ∧ x = 2147483648 + (fi x : Int) * 4096 := by
  unfold isFr at h
  unfold fi
  simp at h
  omega
/-- A frame's bytes. -/
def row4 (R : Nat → Int) : List Int := (List.range 4096).map R
theorem row4_len (R : Nat → Int) : (row4 R).length = 4096 := by simp [row4]
theorem row4_get (R : Nat → Int) (j : Nat) (h : j < 4096) : (row4 R)[j]? = some (R j) := by simp [row4, h]
/-- The bytes behind the first k of the held frames. -/
def hbm (PA : Nat → Int) (D : Nat → Nat → Int) : Nat → Nat → Int
  | 0 => fun _ => 0
  | k + 1 => over (hbm PA D k) (fi (PA k) * 4096) (row4 (D k))
/-- The bytes that came with the held frames. -/
def Ds (W : World) (nh : Nat) (P : Nat → Option Addr) (L : Nat → Nat) (D : Nat → Nat → Int) : Prop := ∀ i, i < nh → L i = 0 ∨ ∃ b o, P i = some ⟨b, o, .none⟩ ∧ b < W.heap.size ∧ ∀ j, j < L i → W.cell? ⟨b, o + j, .none⟩ = some (.int .u8 (D i j))
/-- A map's store as one step of a region that draws. -/
theorem step_mapUpdate_in {H : Type} {P : Program} {ops : Array Oper} {o : Oper} {a : Act} {w : World} {K : Act → World → Prop} {Q : Exit → Act → World → Prop} {E : Prop} (hgd : o.guard = none) (m x v : Operand) (t : TypeId) (hop : o.op = Op.mapUpdate t m x v)
    (k e : TypeId) (Kd : Maps.Keyed P k) (ht : P.underlying t = some (.map k e)) (R : Value → Option (DataW H × List MemPlace)) (b n : Nat) (D : DataW H)
    (hm : a.eval m = .map (some b)) (hown : w.ownsMap P k R b n D) (hn : n < maxLen) (key val : Value) (kl : Lit) (hx : a.eval x = key) (hv : a.eval v = val) (hkey : keyOf P k key = some kl)
    (d : DataW H) (ps : List MemPlace) (hval : R val = some (d, ps))
    (h : ∀ w', w'.ownsMap P k R b (n + 1) (D.put kl d) → w.mapTurned w' b → K (a.put o.dst undef) w') : if Region.wanted o (yielded ops a.tmps) = true then Oper.wp P o a w K Q else E := by
  have hw : Region.wanted o (yielded ops a.tmps) = true := by simp [Region.wanted, hgd]
  rw [if_pos hw]
  obtain ⟨w', hrun, r1, r2⟩ := hown.store Kd ht hn hkey hval
  unfold Oper.wp
  simp [execOp, hop, hm, hx, hv, hrun, Result.andThen]
  exact h w' r1 r2
theorem copy_frame {w : World} {p b m N cnt : Nat} {B : Nat → Int} {nx : Int} {hd : Int → Bool} (h : Mem w p b m N B nx hd cnt) (i : Nat) (hi : i < N) (db o cap : Nat) (R : Nat → Int) (hc : ∀ j, j < 4096 → w.cell? ⟨db, o + j, .none⟩ = some (.int .u8 (R j))) (hne : db ≠ b) (ty : TypeId) :
    (Builtin.copy_ #[27, 27] ty #[.slice (some ⟨b, i * 4096, .none⟩) 4096 (4096 * N - i * 4096), .slice (some ⟨db, o, .none⟩) 4096 cap]).run Try.prog w = .ok (.int .i64 4096) (w.setCells b (i * 4096) ((row4 R).map (.int .u8))) := by
  have := run_copy_cells (P := Try.prog) w 27 27 ty 5 b (i * 4096) 4096 (4096 * N - i * 4096) ⟨db, o, .none⟩ 4096 cap ((row4 R).map (.int .u8)) Try.underlying27 info5 (by simp [row4_len])
    (fun j v hj => by
      rw [addr_add]
      rw [List.getElem?_map] at hj
      by_cases hjn : j < 4096
      · rw [row4_get _ _ hjn] at hj
        simp only [Option.map_some, Option.some.injEq] at hj
        subst hj
        exact hc j hjn
      · rw [List.getElem?_eq_none (by rw [row4_len]; omega)] at hj
        cases hj)
    (fun j hj => by rw [h.cb _ (by simp [row4_len] at hj; omega)]; rfl) (fun j hj => by exact h.fb _ (by simp [row4_len] at hj; omega)) (fun v hv => by simp only [List.mem_map] at hv; obtain ⟨i, _, rfl⟩ := hv; rfl)
  simpa [goInt, row4_len] using this
/-- FromImage behind the first k of the held frames. -/
structure Hi (W V : World) (p b m x5 : Nat) (n : Nat) (qf : Option Addr) (nf cf : Nat) (PA : Nat → Int) (D : Nat → Nat → Int) (k : Nat) : Prop where
  mem : Mem V p b m n (hbm PA D k) 0 (among PA k) k
  box : V.cell? ⟨x5, 0, .none⟩ = some (.pointer (some ⟨p, 0, .none⟩))
  fx : V.frozen? ⟨x5, 0, .none⟩ = false
  im : V.cell? ⟨W.heap.size, 1, .none⟩ = some (.slice qf nf cf)
  i0 : V.cell? ⟨W.heap.size, 0, .none⟩ = some (.int .i64 n)
  be : Below W.heap.size W V
  ge : W.heap.size ≤ p ∧ W.heap.size ≤ b ∧ W.heap.size ≤ m ∧ W.heap.size ≤ x5
theorem map_ne {w : World} {m n : Nat} {D : DataW Unit} {x : Addr} {v : Value} (h : w.ownsMap Try.prog 26 unitElem m n D) (hc : w.cell? x = some v) : x.block ≠ m := fun e => by
  obtain ⟨es, cl, hb, _⟩ := h
  simp [World.cell?, e, hb] at hc
section
variable {W V V' : World} {p b m x5 n : Nat} {qf : Option Addr} {nf cf : Nat} {PA : Nat → Int} {D : Nat → Nat → Int} {k : Nat}
theorem Hi.below (h : Hi W V p b m x5 n qf nf cf PA D k) (hb : Below V.heap.size V V') : Hi W V' p b m x5 n qf nf cf PA D k :=
  ⟨h.mem.below hb, (hb.cell (lt_of_cell h.box)).trans h.box, (hb.frozen (lt_of_cell h.box)).trans h.fx, (hb.cell (lt_of_cell h.im)).trans h.im, (hb.cell (lt_of_cell h.i0)).trans h.i0, h.be.trans (hb.mono h.be.size), h.ge⟩
/-- .. behind one more. -/
theorem Hi.step (h : Hi W V p b m x5 n qf nf cf PA D k) (hn : isFr (PA k) n = true) (hf : among PA k (PA k) = false) (hp : 0 ≤ PA k ∧ PA k < 18446744073709551616) (hD : ∀ j, 0 ≤ D k j ∧ D k j < 256) {Dm : DataW Unit} (hown : V.ownsMap Try.prog 26 unitElem m (Maps.size Dm) Dm) (hhas : ∀ a : Int, 0 ≤ a → a < 18446744073709551616 → Maps.has Dm (.int .u64 a) = among PA k a) (hsz : Maps.size Dm = k) {c : Nat}
    (o : V'.ownsMap Try.prog 26 unitElem m c (Dm.put (.int .u64 (PA k)) (.agg []))) (t : V.mapTurned V' m) :
    Hi W (V'.setCells b (fi (PA k) * 4096) ((row4 (D k)).map (.int .u8))) p b m x5 n qf nf cf PA D (k + 1) ∧ Mem V' p b m n (hbm PA D k) 0 (among PA (k + 1)) (k + 1) ∧ (∀ x, x < V.heap.size → x ≠ m → V'.heap[x]? = V.heap[x]?) := by
  obtain ⟨f1, f2⟩ := fi_of hn
  have hm := h.mem.put hown hhas hsz (PA k) hp hf o t
  have e : (fun x => decide (x = PA k) || among PA k x) = among PA (k + 1) := funext fun x => (among_succ PA k x).symm
  rw [e] at hm
  have g := t.grown
  have hb : ∀ x, x < V.heap.size → x ≠ m → V'.heap[x]? = V.heap[x]? := fun x h1 h2 => g.block x h1 (by simpa using h2)
  have hm2 := hm.setCells (fi (PA k) * 4096) (row4 (D k)) (by rw [row4_len]; omega) (fun v hv => by
    simp only [row4, List.mem_map] at hv
    obtain ⟨j, _, rfl⟩ := hv
    exact hD j)
  have F := (Fra.refl p b m V').setCells (fi (PA k) * 4096) ((row4 (D k)).map (.int .u8))
  have FF : Fra p b m V (V'.setCells b (fi (PA k) * 4096) ((row4 (D k)).map (.int .u8))) := ((Fra.refl p b m V).turned t).trans F
  obtain ⟨g1, g2, g3, g4⟩ := h.ge
  have np : ∀ x, V.cell? ⟨x, 0, .none⟩ = some (.pointer (some ⟨p, 0, .none⟩)) ∨ V.cell? ⟨x, 0, .none⟩ = some (.int .i64 n) → x ≠ p ∧ x ≠ b ∧ x ≠ m := by
    intro x hx
    refine ⟨fun e => ?_, fun e => ?_, fun e => ?_⟩
    · rw [e, h.mem.c0] at hx
      rcases hx with hx | hx <;> cases hx
    · rw [e, h.mem.cb 0 (by have := h.mem.n1; omega)] at hx
      rcases hx with hx | hx <;> cases hx
    · rcases hx with hx | hx <;> exact map_ne hown hx e
  obtain ⟨a1, a2, a3⟩ := np x5 (.inl h.box)
  obtain ⟨b1, b2, b3⟩ := np W.heap.size (.inr h.i0)
  refine ⟨⟨hm2, (FF.cell (x := ⟨x5, 0, .none⟩) (lt_of_cell h.box) a1 a2 a3).trans h.box, (FF.frozen (x := ⟨x5, 0, .none⟩) (lt_of_cell h.box) a1 a2 a3).trans h.fx, (FF.cell (x := ⟨W.heap.size, 1, .none⟩) (lt_of_cell h.im) b1 b2 b3).trans h.im, (FF.cell (x := ⟨W.heap.size, 0, .none⟩) (lt_of_cell h.i0) b1 b2 b3).trans h.i0, h.be.trans (FF.toBelow (h.be.size) g1 g2 g3), h.ge⟩, hm, hb⟩
end
end Go.Proofs.Ytejongfipfefpaa
