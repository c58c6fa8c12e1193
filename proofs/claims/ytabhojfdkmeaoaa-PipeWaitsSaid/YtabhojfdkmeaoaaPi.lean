import Derived.Test.YtabhojfdkmeaoaaLeB
import Derived.Laws.IdiomCopy
import Derived.Deep.MidRow
import Derived.Deep.RegionLaw
import Derived.Deep.Cut
import Derived.Deep.Upon
namespace Go.Proofs.Ytabhojfdkmeaoaa
open Go.RowKit
set_option linter.unusedVariables false
set_option linter.unusedSimpArgs false
theorem info5 : (Try.prog.info? 5).map (·.size) = some 1 := by kernel_rfl
/-- 'copy' of a row of bytes as one step of a region that draws. -/
theorem step_copy_byt {ops : Array Oper} {o : Oper} {a : Act} {w : World} {K : Act → World → Prop} {Q : Exit → Act → World → Prop} {E : Prop} (hgd : o.guard = none) (d s : Operand)
    (ho : o.op = .call { callee := .builtin .copy, args := #[d, s], argTypes := #[22, 22] }) (b off dLen dCap : Nat) (p : Option Addr) (n c : Nat) (ys : List Int) (hd : a.eval d = .slice (some ⟨b, off, .none⟩) dLen dCap) (hs : a.eval s = .slice p n c)
    (hB : Byt w p n c ys) (k : Nat) (hk : k = Nat.min n dLen) (hc : ∀ j, j < k → (w.cell? ⟨b, off + j, .none⟩).isSome = true) (hf : ∀ j, j < k → w.frozen? ⟨b, off + j, .none⟩ = false)
    (h : K (a.put o.dst (goInt k)) (w.setCells b off (by8 (ys.take k)))) : if Region.wanted o (yielded ops a.tmps) = true then Oper.wp Try.prog o a w K Q else E := by
  have hw : Region.wanted o (yielded ops a.tmps) = true := by simp [Region.wanted, hgd]
  rw [if_pos hw]
  have hrun : (Builtin.copy_ #[22, 22] o.type #[.slice (some ⟨b, off, .none⟩) dLen dCap, .slice p n c]).run Try.prog w = .ok (goInt k) (w.setCells b off (by8 (ys.take k))) := by
    by_cases h0 : k = 0
    · rw [h0]
      have := run_copy_none (P := Try.prog) w 22 22 o.type 5 (some ⟨b, off, .none⟩) p dLen dCap n c Try.underlying22 info5 (by omega)
      exact this
    · obtain ⟨hl, _, _, h4⟩ := hB
      have hm : Nat.min n dLen ≤ n := Nat.min_le_left _ _
      rcases h4 with h4 | ⟨sb, so, rfl, _, h5⟩
      · omega
      · have hln : (by8 (ys.take k)).length = k := by rw [by8_len, List.length_take]; omega
        have := run_copy_cells (P := Try.prog) w 22 22 o.type 5 b off dLen dCap ⟨sb, so, .none⟩ n c (by8 (ys.take k)) Try.underlying22 info5 (by rw [hln]; exact hk)
          (fun j v hj => by
            rw [le_addr_add]
            simp only [by8, List.getElem?_map, Option.map_eq_some_iff] at hj
            obtain ⟨x, hx, rfl⟩ := hj
            refine h5 j x ?_
            rw [List.getElem?_take] at hx
            split at hx
            · exact hx
            · cases hx)
          (fun j hj => hc j (by omega)) (fun j hj => hf j (by omega)) (by8_one _)
        rw [hln] at this
        exact this
  unfold Oper.wp
  simp [execOp, ho, resolve, invoke, builtin, hd, hs, hrun, Result.andThen]
  exact h
/-- One block may have turned; what is new is new. -/
structure Trn (b : Nat) (w w' : World) : Prop where
  os : w'.os = w.os
  tape : w'.tape = w.tape
  output : w'.output = w.output
  size : w.heap.size ≤ w'.heap.size
  block : ∀ k, k < w.heap.size → k ≠ b → w'.heap[k]? = w.heap[k]?
theorem Trn.refl (b : Nat) (w : World) : Trn b w w := ⟨rfl, rfl, rfl, Nat.le_refl _, fun _ _ _ => rfl⟩
theorem Trn.trans {b : Nat} {w v u : World} (h : Trn b w v) (k : Trn b v u) : Trn b w u :=
  ⟨k.os.trans h.os, k.tape.trans h.tape, k.output.trans h.output, Nat.le_trans h.size k.size, fun i hi hb => (k.block i (Nat.lt_of_lt_of_le hi h.size) hb).trans (h.block i hi hb)⟩
theorem Trn.ofBelow {b : Nat} {w v : World} (h : Below w.heap.size w v) : Trn b w v := ⟨h.os, h.tape, h.output, h.size, fun k hk _ => h.block k hk⟩
theorem Trn.ofDrewN {b : Nat} {w v : World} {k : Nat} (h : v = w.drewN k) : Trn b w v := by subst h; exact ⟨rfl, rfl, rfl, Nat.le_refl _, fun _ _ _ => rfl⟩
theorem Trn.toBelow {b B : Nat} {w v : World} (h : Trn b w v) (hb : B ≤ b) (hB : B ≤ w.heap.size) : Below B w v := ⟨h.os, h.tape, h.output, h.size, fun k hk => h.block k (by omega) (by omega)⟩
theorem Trn.cell {b : Nat} {w v : World} (h : Trn b w v) {p : Addr} (hp : p.block < w.heap.size) (hne : p.block ≠ b) : v.cell? p = w.cell? p := World.cell?_of_block (w := w) (h.block p.block hp hne)
theorem Trn.frozen {b : Nat} {w v : World} (h : Trn b w v) {p : Addr} (hp : p.block < w.heap.size) (hne : p.block ≠ b) : v.frozen? p = w.frozen? p := World.frozen?_of_block (w := w) (h.block p.block hp hne)
theorem size_setCells (b : Nat) : ∀ (vs : List Value) (o : Nat) (w : World), (w.setCells b o vs).heap.size = w.heap.size
  | [], _, _ => rfl
  | v :: vs, o, w => by rw [World.setCells, size_setCells b vs]; simp [World.setCell]
theorem tape_setCells (b : Nat) : ∀ (vs : List Value) (o : Nat) (w : World), (w.setCells b o vs).tape = w.tape
  | [], _, _ => rfl
  | v :: vs, o, w => by rw [World.setCells, tape_setCells b vs]; rfl
theorem Trn.setCells (b o : Nat) (vs : List Value) (w : World) : Trn b w (w.setCells b o vs) :=
  ⟨World.os_setCells _ _ _ _, tape_setCells _ _ _ _, World.output_setCells _ _ _ _, Nat.le_of_eq (size_setCells _ _ _ _).symm, fun k hk hne => World.heap_setCells_other _ _ _ _ hk hne⟩
theorem Trn.setCell (b o : Nat) (u : Value) (w : World) : Trn b w (w.setCell ⟨b, o, .none⟩ u) := Trn.setCells b o [u] w
theorem Trn.drew (b : Nat) (w : World) : Trn b w w.drew := ⟨rfl, rfl, rfl, Nat.le_refl _, fun _ _ _ => rfl⟩
theorem Trn.byt {b : Nat} {w v : World} (h : Trn b w v) {p : Option Addr} {n c : Nat} {xs : List Int} (hB : Byt w p n c xs) (hp : 0 < n → ∀ g o, p = some ⟨g, o, .none⟩ → g ≠ b) : Byt v p n c xs := by
  obtain ⟨h1, h2, h3, h4⟩ := hB
  refine ⟨h1, h2, h3, ?_⟩
  by_cases h0 : n = 0
  · exact .inl h0
  rcases h4 with h4 | ⟨g, o, rfl, h5, h6⟩
  · exact .inl h4
  · exact .inr ⟨g, o, rfl, Nat.lt_of_lt_of_le h5 h.size, fun i x hx => (h.cell (p := ⟨g, o + i, .none⟩) h5 (hp (by omega) g o rfl)).trans (h6 i x hx)⟩
theorem Trn.own {b : Nat} {w v : World} (h : Trn b w v) {X e sz : Nat} {m : Value} {n : Nat} {xs : List Value} (hO : w.ownsRow X e sz m n xs) (hm : ∀ g, m.ownBlock = some g → g ≠ b) : v.ownsRow X e sz m n xs := by
  rcases hO with ⟨h1, h2 | ⟨g, cap, cur, rfl, h3, h4, h5⟩⟩
  · exact ⟨h1, .inl h2⟩
  · have hg : g < w.heap.size := (Array.getElem?_eq_some_iff.1 h4).1
    exact ⟨h1, .inr ⟨g, cap, cur, rfl, h3, (h.block g hg (hm g rfl)).trans h4, h5⟩⟩
/-- The cells of a pipe that was made. -/
structure Rng (w : World) (b : Nat) (B : Nat → Int) (r s : Int) (rd wt : Bool) : Prop where
  cb : ∀ i, i < 512 → w.cell? ⟨b, i, .none⟩ = some (.int .u8 (B i))
  fb : ∀ i, w.frozen? ⟨b, i, .none⟩ = false
  c1 : w.cell? ⟨b, 512, .none⟩ = some (.int .u32 r)
  c2 : w.cell? ⟨b, 513, .none⟩ = some (.int .u32 s)
  c3 : w.cell? ⟨b, 514, .none⟩ = some (.bool rd)
  c4 : w.cell? ⟨b, 515, .none⟩ = some (.bool wt)
  c5 : w.cell? ⟨b, 516, .none⟩ = some (.bool true)
  bb : ∀ i, 0 ≤ B i ∧ B i < 256
  br : 0 ≤ r ∧ r < 4294967296
  bs : 0 ≤ s ∧ s < 4294967296
theorem lt_cell {w : World} {a : Addr} {v : Value} (h : w.cell? a = some v) : a.block < w.heap.size := by
  rcases Nat.lt_or_ge a.block w.heap.size with h1 | h1
  · exact h1
  · simp [World.cell?, Array.getElem?_eq_none h1] at h
theorem Rng.lt {w : World} {b : Nat} {B : Nat → Int} {r s : Int} {rd wt : Bool} (h : Rng w b B r s rd wt) : b < w.heap.size := lt_cell h.c1
theorem Rng.keep {w v : World} {b g : Nat} {B : Nat → Int} {r s : Int} {rd wt : Bool} (h : Rng w b B r s rd wt) (t : Trn g w v) (hg : b ≠ g) : Rng v b B r s rd wt :=
  ⟨fun i hi => (t.cell (p := ⟨b, i, .none⟩) h.lt hg).trans (h.cb i hi), fun i => (t.frozen (p := ⟨b, i, .none⟩) h.lt hg).trans (h.fb i), (t.cell (p := ⟨b, 512, .none⟩) h.lt hg).trans h.c1, (t.cell (p := ⟨b, 513, .none⟩) h.lt hg).trans h.c2,
    (t.cell (p := ⟨b, 514, .none⟩) h.lt hg).trans h.c3, (t.cell (p := ⟨b, 515, .none⟩) h.lt hg).trans h.c4, (t.cell (p := ⟨b, 516, .none⟩) h.lt hg).trans h.c5, h.bb, h.br, h.bs⟩
/-- A pipe with these bytes in it. -/
def Pip (w : World) (b : Nat) (xs : List Int) (r : Int) (rd wt : Bool) : Prop :=
  xs.length ≤ 512 ∧ ∃ B, Rng w b B r ((r + xs.length) % 4294967296) rd wt ∧ ∀ j x, xs[j]? = some x → B ((r.toNat + j) % 512) = x
theorem Pip.keep {w v : World} {b g : Nat} {xs : List Int} {r : Int} {rd wt : Bool} (h : Pip w b xs r rd wt) (t : Trn g w v) (hg : b ≠ g) : Pip v b xs r rd wt := by
  obtain ⟨h1, B, h2, h3⟩ := h
  exact ⟨h1, B, h2.keep t hg, h3⟩
theorem Pip.lt {w : World} {b : Nat} {xs : List Int} {r : Int} {rd wt : Bool} (h : Pip w b xs r rd wt) : b < w.heap.size := by
  obtain ⟨h1, B, h2, h3⟩ := h
  exact h2.lt
theorem Pip.below {w v : World} {b : Nat} {xs : List Int} {r : Int} {rd wt : Bool} (h : Pip w b xs r rd wt) (t : Below w.heap.size w v) : Pip v b xs r rd wt :=
  h.keep (g := w.heap.size) (Trn.ofBelow t) (by have := h.lt; omega)
theorem Pip.bytes {w : World} {b : Nat} {xs : List Int} {r : Int} {rd wt : Bool} (h : Pip w b xs r rd wt) : ∀ x ∈ xs, 0 ≤ x ∧ x < 256 := by
  obtain ⟨h1, B, h2, h3⟩ := h
  intro x hx
  obtain ⟨j, hj⟩ := List.mem_iff_getElem?.1 hx
  rw [← h3 j x hj]
  exact h2.bb _
/-- A row of bytes is not a pipe's block. -/
theorem Rng.ne_own {w : World} {b : Nat} {B : Nat → Int} {r s : Int} {rd wt : Bool} (h : Rng w b B r s rd wt) {X : Nat} {v : Value} {n : Nat} {xs : List Int} (hO : w.ownsRow X 5 1 v n (by8 xs)) (hn : 516 < n) : v.ownBlock ≠ some b := by
  intro e
  rcases hO.2 with ⟨rfl, _⟩ | ⟨g, cap, cur, rfl, _⟩
  · cases e
  · simp only [Value.ownBlock, Option.some.injEq] at e
    subst e
    have hl := hO.1
    rw [by8_len] at hl
    have hx : xs[516]? = some (xs[516]'(by omega)) := by simp
    have := World.ownsRow.cells hO (g := g) rfl 516 _ (by8_get hx)
    rw [le_addr_add, Nat.zero_add, h.c5] at this
    cases this
set_option maxHeartbeats 1000000 in
theorem isMade_any {w : World} {b : Nat} {B : Nat → Int} {r s : Int} {rd wt : Bool} (h : Rng w b B r s rd wt) : Calls Try.prog 25 #[.pointer (some ⟨b, 0, .none⟩)] w fun e w' => e = .returned (.bool true) ∧ w' = w := by
  have c5 := h.c5
  clear h
  go_enter Try.func25, Try.ntmps25
  go_wp2
  go_ret
  exact ⟨rfl, rfl⟩
set_option maxHeartbeats 1000000 in
theorem held_any {w : World} {b : Nat} {B : Nat → Int} {r s : Int} {rd wt : Bool} (h : Rng w b B r s rd wt) (n : Nat) (hn : n ≤ 512) (hs : s = (r + n) % 4294967296) : Calls Try.prog 26 #[.pointer (some ⟨b, 0, .none⟩)] w fun e w' => e = .returned (.int .i64 n) ∧ ∃ k, w' = w.drewN k := by
  have c1 := h.c1
  have c2 := h.c2
  have br := h.br
  have e1 : IntKind.u32.wrap (s - r) = n := by simp only [IntKind.wrap, IntKind.bits, IntKind.signed]; simp; omega
  clear h hs
  go_enter Try.func26, Try.ntmps26
  go_wp2
  go_region
  go_wp2
  go_ret
  exact ⟨rfl, _, rfl⟩
end Go.Proofs.Ytabhojfdkmeaoaa
