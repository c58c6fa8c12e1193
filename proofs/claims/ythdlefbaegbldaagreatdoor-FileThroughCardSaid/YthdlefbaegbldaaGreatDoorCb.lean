import Derived.Test.YthdlefbaegbldaaGreatDoorLeB
import Derived.Test.YthdlefbaegbldaaGreatDoorEPure
import Derived.Laws.IdiomCopy
import Derived.Deep.MidRow
import Derived.Deep.RegionLaw
import Derived.Deep.RegionHeld
import Derived.Deep.Cut
import Derived.Deep.Upon
import Derived.Great.Ranges
import Derived.Lib.SlBytesRow
namespace Go.Proofs.YthdlefbaegbldaaGreatDoor
open Go.RowKit
set_option linter.unusedVariables false
set_option linter.unusedSimpArgs false
set_option maxRecDepth 100000
theorem info5 : (Tryz.prog.info? 5).map (·.size) = some 1 := by kernel_rfl
/-- 'copy' of a row of bytes as one step of a region that draws. -/
theorem step_copy_byt {ops : Array Oper} {o : Oper} {a : Act} {w : World} {K : Act → World → Prop} {Q : Exit → Act → World → Prop} {E : Prop} (hgd : o.guard = none) (d s : Operand)
    (ho : o.op = .call { callee := .builtin .copy, args := #[d, s], argTypes := #[35, 35] }) (b off dLen dCap : Nat) (p : Option Addr) (n c : Nat) (ys : List Int) (hd : a.eval d = .slice (some ⟨b, off, .none⟩) dLen dCap) (hs : a.eval s = .slice p n c)
    (hB : Byt w p n c ys) (k : Nat) (hk : k = Nat.min n dLen) (hc : ∀ j, j < k → (w.cell? ⟨b, off + j, .none⟩).isSome = true) (hf : ∀ j, j < k → w.frozen? ⟨b, off + j, .none⟩ = false)
    (h : K (a.put o.dst (goInt k)) (w.setCells b off (by8 (ys.take k)))) : if Region.wanted o (yielded ops a.tmps) = true then Oper.wp Tryz.prog o a w K Q else E := by
  have hw : Region.wanted o (yielded ops a.tmps) = true := by simp [Region.wanted, hgd]
  rw [if_pos hw]
  have hrun : (Builtin.copy_ #[35, 35] o.type #[.slice (some ⟨b, off, .none⟩) dLen dCap, .slice p n c]).run Tryz.prog w = .ok (goInt k) (w.setCells b off (by8 (ys.take k))) := by
    by_cases h0 : k = 0
    · rw [h0]
      have := run_copy_none (P := Tryz.prog) w 35 35 o.type 5 (some ⟨b, off, .none⟩) p dLen dCap n c Tryz.underlying35 info5 (by omega)
      exact this
    · obtain ⟨hl, _, _, h4⟩ := hB
      have hm : Nat.min n dLen ≤ n := Nat.min_le_left _ _
      rcases h4 with h4 | ⟨sb, so, rfl, _, h5⟩
      · omega
      · have hln : (by8 (ys.take k)).length = k := by rw [by8_len, List.length_take]; omega
        have := run_copy_cells (P := Tryz.prog) w 35 35 o.type 5 b off dLen dCap ⟨sb, so, .none⟩ n c (by8 (ys.take k)) Tryz.underlying35 info5 (by rw [hln]; exact hk)
          (fun j v hj => by
            rw [le_addr_add]
            simp only [by8, List.getElem?_map, Option.map_eq_some_iff] at hj
            obtain ⟨x, hx, rfl⟩ := hj
            refine h5 j x ?_
            rw [List.getElem?_take] at hx
            split at hx
            · exact hx
            · cases hx)
          (fun j hj => hc j (by omega)) (fun j hj => hf j (by omega)) (by8_one _)
        rw [hln] at this
        exact this
  unfold Oper.wp
  simp [execOp, ho, resolve, invoke, builtin, hd, hs, hrun, Result.andThen]
  exact h
/-- One block may have turned; what is new is new. -/
structure Trn (b : Nat) (w w' : World) : Prop where
  os : w'.os = w.os
  tape : w'.tape = w.tape
  output : w'.output = w.output
  size : w.heap.size ≤ w'.heap.size
  block : ∀ k, k < w.heap.size → k ≠ b → w'.heap[k]? = w.heap[k]?
theorem Trn.refl (b : Nat) (w : World) : Trn b w w := ⟨rfl, rfl, rfl, Nat.le_refl _, fun _ _ _ => rfl⟩
theorem Trn.trans {b : Nat} {w v u : World} (h : Trn b w v) (k : Trn b v u) : Trn b w u :=
  ⟨k.os.trans h.os, k.tape.trans h.tape, k.output.trans h.output, Nat.le_trans h.size k.size, fun i hi hb => (k.block i (Nat.lt_of_lt_of_le hi h.size) hb).trans (h.block i hi hb)⟩
theorem Trn.ofBelow {b : Nat} {w v : World} (h : Below w.heap.size w v) : Trn b w v := ⟨h.os, h.tape, h.output, h.size, fun k hk _ => h.block k hk⟩
theorem Trn.ofDrewN {b : Nat} {w v : World} {k : Nat} (h : v = w.drewN k) : Trn b w v := by subst h; exact ⟨rfl, rfl, rfl, Nat.le_refl _, fun _ _ _ => rfl⟩
theorem Trn.toBelow {b B : Nat} {w v : World} (h : Trn b w v) (hb : B ≤ b) (hB : B ≤ w.heap.size) : Below B w v := ⟨h.os, h.tape, h.output, h.size, fun k hk => h.block k (by omega) (by omega)⟩
theorem Trn.cell {b : Nat} {w v : World} (h : Trn b w v) {p : Addr} (hp : p.block < w.heap.size) (hne : p.block ≠ b) : v.cell? p = w.cell? p := World.cell?_of_block (w := w) (h.block p.block hp hne)
theorem Trn.frozen {b : Nat} {w v : World} (h : Trn b w v) {p : Addr} (hp : p.block < w.heap.size) (hne : p.block ≠ b) : v.frozen? p = w.frozen? p := World.frozen?_of_block (w := w) (h.block p.block hp hne)
theorem size_setCells (b : Nat) : ∀ (vs : List Value) (o : Nat) (w : World), (w.setCells b o vs).heap.size = w.heap.size
  | [], _, _ => rfl
  | v :: vs, o, w => by rw [World.setCells, size_setCells b vs]; simp [World.setCell]
theorem tape_setCells (b : Nat) : ∀ (vs : List Value) (o : Nat) (w : World), (w.setCells b o vs).tape = w.tape
  | [], _, _ => rfl
  | v :: vs, o, w => by rw [World.setCells, tape_setCells b vs]; rfl
theorem Trn.setCells (b o : Nat) (vs : List Value) (w : World) : Trn b w (w.setCells b o vs) :=
  ⟨World.os_setCells _ _ _ _, tape_setCells _ _ _ _, World.output_setCells _ _ _ _, Nat.le_of_eq (size_setCells _ _ _ _).symm, fun k hk hne => World.heap_setCells_other _ _ _ _ hk hne⟩
theorem Trn.setCell (b o : Nat) (u : Value) (w : World) : Trn b w (w.setCell ⟨b, o, .none⟩ u) := Trn.setCells b o [u] w
theorem Trn.drew (b : Nat) (w : World) : Trn b w w.drew := ⟨rfl, rfl, rfl, Nat.le_refl _, fun _ _ _ => rfl⟩
theorem Trn.byt {b : Nat} {w v : World} (h : Trn b w v) {p : Option Addr} {n c : Nat} {xs : List Int} (hB : Byt w p n c xs) (hp : 0 < n → ∀ g o, p = some ⟨g, o, .none⟩ → g ≠ b) : Byt v p n c xs := by
  obtain ⟨h1, h2, h3, h4⟩ := hB
  refine ⟨h1, h2, h3, ?_⟩
  by_cases h0 : n = 0
  · exact .inl h0
  rcases h4 with h4 | ⟨g, o, rfl, h5, h6⟩
  · exact .inl h4
  · exact .inr ⟨g, o, rfl, Nat.lt_of_lt_of_le h5 h.size, fun i x hx => (h.cell (p := ⟨g, o + i, .none⟩) h5 (hp (by omega) g o rfl)).trans (h6 i x hx)⟩
theorem Trn.own {b : Nat} {w v : World} (h : Trn b w v) {X e sz : Nat} {m : Value} {n : Nat} {xs : List Value} (hO : w.ownsRow X e sz m n xs) (hm : ∀ g, m.ownBlock = some g → g ≠ b) : v.ownsRow X e sz m n xs := by
  rcases hO with ⟨h1, h2 | ⟨g, cap, cur, rfl, h3, h4, h5⟩⟩
  · exact ⟨h1, .inl h2⟩
  · have hg : g < w.heap.size := (Array.getElem?_eq_some_iff.1 h4).1
    exact ⟨h1, .inr ⟨g, cap, cur, rfl, h3, (h.block g hg (hm g rfl)).trans h4, h5⟩⟩
theorem lt_cell {w : World} {a : Addr} {v : Value} (h : w.cell? a = some v) : a.block < w.heap.size := by
  rcases Nat.lt_or_ge a.block w.heap.size with h1 | h1
  · exact h1
  · simp [World.cell?, Array.getElem?_eq_none h1] at h
/-- Where a cut slice begins. -/
def cutp (p : Option Addr) (c m : Nat) : Option Addr := if c = m then p else p.map (·.add m)
theorem elem22 (W : World) : (sizeOf (Tryz.prog.elem 35)).run Tryz.prog W = .ok 1 W := by
  have e : Tryz.prog.elem 35 = 5 := by kernel_rfl
  obtain ⟨i, z, hi, _, hs, _⟩ := byte_info
  rw [e]
  simp [sizeOf, typeInfo, hi, hs]
theorem cut_from (p : Option Addr) (n c m : Nat) (hm : m ≤ n) (W : World) : (Instr.slice 35 (.slice p n c) (some (.int .i64 m)) none none).run Tryz.prog W = .ok (.slice (cutp p c m) (n - m) (c - m)) W := by
  rw [run_slice_l W 35 p n c (by kernel_rfl) .i64 m (by omega) (by omega), Int.toNat_natCast, elem22]
  simp [Result.andThen, sliced, cutp]
theorem cut_to (p : Option Addr) (n c m : Nat) (hm : m ≤ c) (W : World) : (Instr.slice 35 (.slice p n c) none (some (.int .i64 m)) none).run Tryz.prog W = .ok (.slice (cutp p c 0) m c) W := by
  rw [run_slice_h W 35 p n c (by kernel_rfl) .i64 m (by omega) (by omega), Int.toNat_natCast, elem22]
  simp [Result.andThen, sliced, cutp]
theorem cutat (p : Option Addr) (n c : Nat) (lo hi : Option Value) (W : World) : (Instr.sliceAt 35 (.slice p n c) lo hi none).run Tryz.prog W = (Instr.slice 35 (.slice p n c) lo hi none).run Tryz.prog W := run_sliceAt_slice W 35 _ _ _ _ (by kernel_rfl)
theorem byt_cut {w : World} {p : Option Addr} {n c : Nat} {ys : List Int} (h : Byt w p n c ys) (l k : Nat) (hlk : l ≤ k) (hk : k ≤ n) : Byt w (cutp p c l) (k - l) (c - l) ((ys.take k).drop l) := by
  obtain ⟨h1, h2, h3, h4⟩ := h
  refine ⟨by rw [List.length_drop, List.length_take]; omega, by omega, by omega, ?_⟩
  by_cases h0 : k - l = 0
  · exact .inl h0
  · rcases h4 with h4 | ⟨g, o, rfl, h5, h6⟩
    · omega
    · refine .inr ⟨g, o + l, ?_, h5, fun i x hx => ?_⟩
      · rw [cutp, if_neg (by omega)]
        simp only [Option.map_some, le_addr_add]
      · rw [List.getElem?_drop, List.getElem?_take] at hx
        split at hx
        · have := h6 _ x hx
          rwa [← Nat.add_assoc] at this
        · cases hx
/-- A slice is not of this block. -/
def NB (p : Option Addr) (b : Nat) : Prop := ∀ a, p = some a → a.block ≠ b
theorem add_block (a : Addr) (m : Nat) : (a.add m).block = a.block := by unfold Addr.add; split <;> rfl
theorem cutp_blk {p : Option Addr} {c m b : Nat} (hp : NB p b) : NB (cutp p c m) b := by
  intro a h
  unfold cutp at h
  split at h
  · exact hp a h
  · rw [Option.map_eq_some_iff] at h
    obtain ⟨a', h1, rfl⟩ := h
    rw [add_block]
    exact hp _ h1
theorem NB.at {p : Option Addr} {b : Nat} (h : NB p b) : ∀ g o, p = some ⟨g, o, .none⟩ → g ≠ b := fun g o e => h _ e
theorem NB.of {w : World} {p : Option Addr} {n c : Nat} {xs : List Int} {b : Nat} (hb : w.heap.size ≤ b) (h : Byt w p n c xs) (hn : 0 < n) : NB p b := by
  intro a ha
  rcases h.2.2.2 with h0 | ⟨g, o, rfl, h1, _⟩
  · omega
  · injection ha with ha
    subst ha
    show g ≠ b
    omega
section
variable {w : World} {b i : Nat} {v : Value}
theorem cell_out (h : w.cell? ⟨b, i, .none⟩ = some v) (o : Nat) (vs : List Value) (ho : i < o ∨ o + vs.length ≤ i) : (w.setCells b o vs).cell? ⟨b, i, .none⟩ = some v := by
  rw [World.cell?_setCells_out _ _ _ _ _ (fun _ _ => ho)]
  exact h
theorem cell_one (h : w.cell? ⟨b, i, .none⟩ = some v) (u : Value) : (w.setCell ⟨b, i, .none⟩ u).cell? ⟨b, i, .none⟩ = some u := by
  have := World.cell?_setCells_in b [u] i w (fun j hj => by
    obtain rfl : j = 0 := by simp at hj; omega
    rw [Nat.add_zero, h]; rfl) 0 (by simp)
  exact this
theorem cell_off (h : w.cell? ⟨b, i, .none⟩ = some v) (o : Nat) (u : Value) (ho : i ≠ o) : (w.setCell ⟨b, o, .none⟩ u).cell? ⟨b, i, .none⟩ = some v := cell_out h o [u] (by simp; omega)
end
/-- Cells of a row that was written. -/
theorem row_set {w : World} {g n : Nat} {cur : Array Value} (hg : w.heap[g]? = some (.cells cur 5 (0, 0))) (o : Nat) (vs : List Value) : ∃ cur', cur'.size = cur.size ∧ (w.setCells g o vs).heap[g]? = some (.cells cur' 5 (0, 0)) := by
  induction vs generalizing w o cur with
  | nil => exact ⟨cur, rfl, hg⟩
  | cons v vs ih =>
    have h1 : (w.setCell ⟨g, o, .none⟩ v).heap[g]? = some (.cells (cur.setIfInBounds o v) 5 (0, 0)) := by
      simp [World.setCell, Array.getElem?_modify, hg]
    obtain ⟨c', h2, h3⟩ := ih h1 (o + 1)
    exact ⟨c', by rw [h2]; simp, h3⟩
theorem own_of {w : World} {g n X : Nat} {cur : Array Value} {zs : List Int} (hg : w.heap[g]? = some (.cells cur 5 (0, 0))) (hc : cur.size = n) (hX : X ≤ g) (hn : n ≤ 512) (hz : zs.length = n) (hcell : ∀ j x, zs[j]? = some x → w.cell? ⟨g, j, .none⟩ = some (.int .u8 x)) : w.ownsRow X 5 1 (.slice (some ⟨g, 0, .none⟩) n n) n (by8 zs) := by
  refine ⟨by rw [by8_len]; omega, .inr ⟨g, n, cur, rfl, hX, hg, Nat.le_refl _, by simp only [maxLen]; omega, by omega, ?_⟩⟩
  apply List.ext_getElem?
  intro j
  rw [Nat.mul_one, List.getElem?_take]
  split
  · rename_i hj
    have h1 := hcell j zs[j] (by simp)
    rw [by8_get (x := zs[j]) (by simp)]
    simp only [World.cell?, hg] at h1
    simpa using h1
  · rw [List.getElem?_eq_none (by rw [by8_len]; omega)]
theorem cur_cell {w : World} {g : Nat} {cur : Array Value} (hg : w.heap[g]? = some (.cells cur 5 (0, 0))) (j : Nat) (hj : j < cur.size) : (w.cell? ⟨g, j, .none⟩).isSome = true := by
  simp [World.cell?, hg, hj]
theorem cur_froz {w : World} {g : Nat} {cur : Array Value} (hg : w.heap[g]? = some (.cells cur 5 (0, 0))) (j : Nat) : w.frozen? ⟨g, j, .none⟩ = false := by
  simp [World.frozen?, hg]
theorem size_new (w : World) (n : Nat) (hn : n ≤ 512) : ∃ w', (Instr.makeSlice 35 (.int .i64 (n : Int)) (.int .i64 (n : Int))).run Tryz.prog w = .ok (.slice (some ⟨w.heap.size, 0, none⟩) n n) w' ∧ Below w.heap.size w w' ∧ ∃ cur, cur.size = n ∧ w'.heap[w.heap.size]? = some (.cells cur 5 (0, 0)) := by
  obtain ⟨i, z, hi, hz, hs, hb, hzs⟩ := byte_info
  have hr := run_make (P := Tryz.prog) w 35 5 i z Tryz.underlying35 hi hz .i64 .i64 n n (by omega) (by omega) (by rw [hb]; omega) (by omega)
  rw [Int.toNat_natCast, hs] at hr
  refine ⟨_, hr, (Below.refl _ _).alloc (Nat.le_refl _) _, _, ?_, heap_new _ _⟩
  rw [size_madeCells]; omega
/-- 'copy' of a row of bytes. -/
theorem run_copy_byt {w : World} (ty : TypeId) (b off dLen dCap : Nat) (p : Option Addr) (n c : Nat) (ys : List Int)
    (hB : Byt w p n c ys) (k : Nat) (hk : k = Nat.min n dLen) (hc : ∀ j, j < k → (w.cell? ⟨b, off + j, .none⟩).isSome = true) (hf : ∀ j, j < k → w.frozen? ⟨b, off + j, .none⟩ = false) :
    (Builtin.copy_ #[35, 35] ty #[.slice (some ⟨b, off, .none⟩) dLen dCap, .slice p n c]).run Tryz.prog w = .ok (goInt k) (w.setCells b off (by8 (ys.take k))) := by
  by_cases h0 : k = 0
  · rw [h0]
    have := run_copy_none (P := Tryz.prog) w 35 35 ty 5 (some ⟨b, off, .none⟩) p dLen dCap n c Tryz.underlying35 info5 (by omega)
    exact this
  · obtain ⟨hl, _, _, h4⟩ := hB
    have hm : Nat.min n dLen ≤ n := Nat.min_le_left _ _
    rcases h4 with h4 | ⟨sb, so, rfl, _, h5⟩
    · omega
    · have hln : (by8 (ys.take k)).length = k := by rw [by8_len, List.length_take]; omega
      have := run_copy_cells (P := Tryz.prog) w 35 35 ty 5 b off dLen dCap ⟨sb, so, .none⟩ n c (by8 (ys.take k)) Tryz.underlying35 info5 (by rw [hln]; exact hk)
        (fun j v hj => by
          rw [le_addr_add]
          simp only [by8, List.getElem?_map, Option.map_eq_some_iff] at hj
          obtain ⟨x, hx, rfl⟩ := hj
          refine h5 j x ?_
          rw [List.getElem?_take] at hx
          split at hx
          · exact hx
          · cases hx)
        (fun j hj => hc j (by omega)) (fun j hj => hf j (by omega)) (by8_one _)
      rw [hln] at this
      exact this
theorem wpList_copy_byt {w : World} {ops : Array Oper} {rest : List Oper} {o : Oper} {a : Act} {Q : Exit → Act → World → Prop} (hgd : o.guard = none) (d s : Operand)
    (ho : o.op = .call { callee := .builtin .copy, args := #[d, s], argTypes := #[35, 35] }) (b off dLen dCap : Nat) (p : Option Addr) (n c : Nat) (ys : List Int) (hd : a.eval d = .slice (some ⟨b, off, .none⟩) dLen dCap) (hs : a.eval s = .slice p n c)
    (hB : Byt w p n c ys) (k : Nat) (hk : k = Nat.min n dLen) (hc : ∀ j, j < k → (w.cell? ⟨b, off + j, .none⟩).isSome = true) (hf : ∀ j, j < k → w.frozen? ⟨b, off + j, .none⟩ = false)
    (h : wpList Tryz.prog ops Q rest (a.put o.dst (goInt k)) (w.setCells b off (by8 (ys.take k)))) : wpList Tryz.prog ops Q (o :: rest) a w := by
  refine wpList_plain hgd fun K hK => ?_
  unfold Oper.wp execOp
  simp only [ho, resolve, invoke, builtin, Sem.run_bind, Sem.run_pure, Result.andThen_ok, List.map_toArray, List.map_cons, List.map_nil, hd, hs, run_copy_byt o.type b off dLen dCap p n c ys hB k hk hc hf]
  exact hK _ _ h
theorem results_cell_any {P : Program} {fn : Func} {p : Tmp} {ty : TypeId} (h : fn.results = #[.cell p ty]) (tmps : Array Value) (w : World) (ad : Addr) (v : Value) (hp : tmps.getD p undef = .pointer (some ad)) (hl : (loadVar ty ad).run P w = .ok v w) : (results fn tmps).run P w = .ok v w := by
  have hp' : tmps[p]?.getD undef = .pointer (some ad) := by simpa using hp
  simp [results, h, hp', asAddr, hl]
theorem range_new (w : World) (l : List Value) (t : TypeId) : (w.alloc (.cells l.toArray t)).rangeAt w.heap.size 0 l := by
  intro j v hv
  rw [Nat.zero_add, World.cell?_alloc_at _ _ _ _ rfl]
  simpa using hv
theorem step_store_mid {P : Program} {ops : Array Oper} {op : Oper} {a : Act} {w : World} {K : Act → World → Prop} {Q : Exit → Act → World → Prop} {E : Prop} (hgd : op.guard = none) (ty : TypeId) (x y : Operand) (ho : op.op = .store ty x y)
    (b o : Nat) (cells : Array Value) (hx : a.eval x = .pointer (some ⟨b, o, none⟩)) (hy : a.eval y = .agg cells)
    (ht : w.there b o cells.size) (hi : (P.info? ty).map (·.size) = some cells.size) (h1 : cells.all (·.oneCell') = true)
    (h : K (a.put op.dst undef) (w.setCells b o cells.toList)) : if Region.wanted op (yielded ops a.tmps) = true then Oper.wp P op a w K Q else E := by
  have hw : Region.wanted op (yielded ops a.tmps) = true := by simp [Region.wanted, hgd]
  rw [if_pos hw]
  exact wp_store_mid ty x y ho b o cells hx hy ht hi h1 h
theorem froz_new (w : World) (cs : Array Value) (t : TypeId) (j : Nat) : (w.alloc (.cells cs t)).frozen? ⟨w.heap.size, j, .none⟩ = false := by
  have h := heap_new w (.cells cs t)
  simp only [World.frozen?]
  rw [h]
  simp
theorem wpl_built {ops : Array Oper} {rest : List Oper} {o : Oper} {a : Act} {w : World} {Q : Exit → Act → World → Prop} (hg : o.guard = .none) (t : TypeId) (ps : Array (Nat × Operand)) (ho : o.op = .build t ps)
    (d : Option Tmp) (hd : o.dst = d) (cs : Array Value) (hb : Tryz.prog.built t (ps.map fun (i, x) => (i, a.eval x)).toList = some cs) (h : wpList Tryz.prog ops Q rest (a.put d (.agg cs)) w) : wpList Tryz.prog ops Q (o :: rest) a w := by
  subst hd
  refine wpList_pureStep (a' := a.put o.dst (.agg cs)) ?_ h
  unfold pureStep
  simp only [hg, ho]
  rw [hb]
  rfl
theorem Trn.new (w : World) (o : Obj) : Below w.heap.size w (w.alloc o) := (Below.refl _ _).alloc (Nat.le_refl _) _
theorem byt_below {w v : World} {p : Option Addr} {n c : Nat} {xs : List Int} (h : Byt w p n c xs) (hb : Below w.heap.size w v) : Byt v p n c xs := by
  obtain ⟨h1, h2, h3, h4⟩ := h
  refine ⟨h1, h2, h3, ?_⟩
  rcases h4 with h4 | ⟨b, o, rfl, h5, h6⟩
  · exact .inl h4
  · exact .inr ⟨b, o, rfl, Nat.lt_of_lt_of_le h5 hb.size, fun i x hx => (hb.cell (p := ⟨b, o + i, .none⟩) h5).trans (h6 i x hx)⟩
theorem byt_belowB {B : Nat} {w v : World} {p : Option Addr} {n c : Nat} {xs : List Int} (h : Byt w p n c xs) (hb : Below B w v) (hB : w.heap.size ≤ B) : Byt v p n c xs := byt_below h (hb.mono hB)
/-- string(b) of one byte. -/
theorem conv1 {w : World} {p : Option Addr} {c : Nat} {x : Int} (h : Byt w p 1 c [x]) (hx : 0 ≤ x ∧ x < 256) : (convert 35 9 (.slice p 1 c)).run Tryz.prog w = .ok (.string ⟨#[x.toNat.toUInt8]⟩) w := by
  rcases h.2.2.2 with h0 | ⟨b, o, rfl, _, h6⟩
  · cases h0
  · have hb : Lib.Bytes w b o ⟨#[x.toNat.toUInt8]⟩ := by
      intro i hi
      have hi0 : i < 1 := hi
      obtain rfl : i = 0 := by omega
      have := h6 0 x rfl
      rw [this]
      have e : ((⟨#[x.toNat.toUInt8]⟩ : ByteArray)[0]'hi) = x.toNat.toUInt8 := rfl
      rw [e]
      congr 2
      have e2 : x.toNat.toUInt8.toNat = x.toNat % 256 := by simp
      rw [e2]; omega
    have := Lib.run_convert_whole (P := Tryz.prog) w 35 5 9 Tryz.underlying35 Tryz.underlying5 Tryz.underlying9 b o ⟨#[x.toNat.toUInt8]⟩ hb c
    exact this
theorem run_append_none (g n cp : Nat) (p : Option Addr) (c : Nat) (ty : TypeId) (w : World) (hn : n ≤ cp) : (Builtin.append_ #[35, 35] ty #[.slice (some ⟨g, 0, .none⟩) n cp, .slice p 0 c]).run Tryz.prog w = .ok (.slice (some ⟨g, 0, .none⟩) n cp) w := by
  obtain ⟨i, z, hi, _⟩ := byte_info
  cases p <;> simp [Builtin.append_, run_underlying Tryz.underlying35, sizeOf, typeInfo, hi, Builtin.lenOf, Builtin.firstCells, loadCells, loadCellsFrom, hn] <;> rfl
theorem run_append_nn (p : Option Addr) (c : Nat) (ty : TypeId) (w : World) : (Builtin.append_ #[35, 35] ty #[.slice none 0 0, .slice p 0 c]).run Tryz.prog w = .ok (.slice none 0 0) w := by
  obtain ⟨i, z, hi, _⟩ := byte_info
  cases p <;> simp [Builtin.append_, run_underlying Tryz.underlying35, sizeOf, typeInfo, hi, Builtin.lenOf, Builtin.firstCells, loadCells, loadCellsFrom]
/-- append(v, b...): a row of one's own, and any bytes. -/
theorem app_byt {w : World} {base : Nat} {v : Value} {n : Nat} {xs : List Int} (hown : w.ownsRow base 5 1 v n (by8 xs)) {p : Option Addr} {k c : Nat} {ys : List Int} (hB : Byt w p k c ys) (hbytes : n + k ≤ 140737488355328) (hbase : base ≤ w.heap.size) (ty : TypeId) :
    ∃ v' w', (Builtin.append_ #[35, 35] ty #[v, .slice p k c]).run Tryz.prog w = .ok v' w' ∧ w'.ownsRow base 5 1 v' (n + k) (by8 (xs ++ ys)) ∧ w.grownBy w' v.ownBlock ∧ (∀ g, v'.ownBlock = some g → v.ownBlock = some g ∨ w.heap.size ≤ g) := by
  by_cases h0 : k = 0
  · subst h0
    obtain rfl : ys = [] := List.length_eq_zero_iff.1 hB.1
    rw [List.append_nil, Nat.add_zero]
    rcases hown.2 with ⟨rfl, rfl⟩ | ⟨g, cap, cur, rfl, hbg, hg, hnc, _⟩
    · exact ⟨_, _, run_append_nn p c ty w, hown, ⟨rfl, rfl, rfl, Nat.le_refl _, fun _ _ _ => rfl⟩, fun g h => .inl h⟩
    · exact ⟨_, _, run_append_none g n cap p c ty w hnc, hown, ⟨rfl, rfl, rfl, Nat.le_refl _, fun _ _ _ => rfl⟩, fun g h => .inl h⟩
  · obtain ⟨hl, hkc, hcm, h4⟩ := hB
    rcases h4 with h4 | ⟨sb, so, rfl, hsb, h5⟩
    · omega
    · obtain ⟨i, z, hi, hz, hs, hb, hzs⟩ := byte_info
      have hnews := byt_cells h5
      have h1 := by8_one ys
      have hlen : (by8 ys).length = k * 1 := by rw [by8_len]; omega
      have h63 : n + k ≤ maxLen := by simp only [maxLen]; omega
      obtain ⟨v', w', hr, h2, h3, _⟩ := run_append_own (P := Tryz.prog) w base 35 ty 5 i z 1 1 Tryz.underlying35 hi hz hs hb hzs (by decide) v n (by8 xs) hown ⟨sb, so, .none⟩ k c (by8 ys) hlen hnews h1 h63 (by omega) hbase
      refine ⟨v', w', hr, by rw [by8_app]; exact h2, h3, ?_⟩
      rcases hown.2 with ⟨rfl, rfl⟩ | ⟨g, cap, cur, rfl, hbg, hg, hnc, hcm', hcs, htake⟩
      · have hr' := run_append_nil (P := Tryz.prog) w 35 ty 5 i z Tryz.underlying35 hi hz ⟨sb, so, .none⟩ k c (by8 ys) (by rw [hs]; exact hlen) hnews (by omega) (by omega) (by rw [hb]; omega)
        rw [hr] at hr'
        simp only [Result.ok.injEq] at hr'
        obtain ⟨rfl, rfl⟩ := hr'
        intro g hg
        simp only [Value.ownBlock, Option.some.injEq] at hg
        exact .inr (by omega)
      · by_cases hroom : n + k ≤ cap
        · have hr' := run_append_room (P := Tryz.prog) w 35 ty 5 i Tryz.underlying35 hi g n cap cur hg ⟨sb, so, .none⟩ k c (by8 ys) (by rw [hs]; exact hlen) hnews h1 hroom (by rw [hs, hcs, by8_len]; omega)
          rw [hr] at hr'
          simp only [Result.ok.injEq] at hr'
          obtain ⟨rfl, rfl⟩ := hr'
          exact fun g' h => .inl h
        · have hr' := run_append_grow (P := Tryz.prog) w 35 ty 5 i z Tryz.underlying35 hi hz ⟨g, 0, none⟩ n cap (by8 xs) (by rw [hs]; exact hown.1) (hown.cells (g := g) rfl) ⟨sb, so, .none⟩ k c (by8 ys) (by rw [hs]; exact hlen) hnews (by omega) (by omega) (growslice_fits (by omega) (by rw [hb]; omega))
          rw [hr] at hr'
          simp only [Result.ok.injEq] at hr'
          obtain ⟨rfl, rfl⟩ := hr'
          intro g' hg'
          simp only [Value.ownBlock, Option.some.injEq] at hg'
          refine .inr ?_
          have : w.drew.heap.size = w.heap.size := rfl
          omega
theorem wpList_app {w : World} {ops : Array Oper} {rest : List Oper} {o : Oper} {a : Act} {Q : Exit → Act → World → Prop} (hgd : o.guard = none) (s x : Operand)
    (ho : o.op = .call { callee := .builtin .append, args := #[s, x], argTypes := #[35, 35] }) (base : Nat) (v : Value) (n : Nat) (xs : List Int) (hs : a.eval s = v) (p : Option Addr) (k c : Nat) (ys : List Int) (hx : a.eval x = .slice p k c)
    (hown : w.ownsRow base 5 1 v n (by8 xs)) (hB : Byt w p k c ys) (hbytes : n + k ≤ 140737488355328) (hbase : base ≤ w.heap.size)
    (h : ∀ v' w', w'.ownsRow base 5 1 v' (n + k) (by8 (xs ++ ys)) → w.grownBy w' v.ownBlock → (∀ g, v'.ownBlock = some g → v.ownBlock = some g ∨ w.heap.size ≤ g) → wpList Tryz.prog ops Q rest (a.put o.dst v') w') : wpList Tryz.prog ops Q (o :: rest) a w := by
  obtain ⟨v', w', hr, h2, h3, h4⟩ := app_byt hown hB hbytes hbase o.type
  refine wpList_plain hgd fun K hK => ?_
  unfold Oper.wp execOp
  simp only [ho, resolve, invoke, builtin, Sem.run_bind, Sem.run_pure, Result.andThen_ok, List.map_toArray, List.map_cons, List.map_nil, hs, hx, hr]
  exact hK _ _ (h v' w' h2 h3 h4)
/-- Some blocks may have turned; what is new is new. -/
structure Chg (S : Nat → Prop) (w w' : World) : Prop where
  os : w'.os = w.os
  tape : w'.tape = w.tape
  output : w'.output = w.output
  size : w.heap.size ≤ w'.heap.size
  block : ∀ k, k < w.heap.size → ¬ S k → w'.heap[k]? = w.heap[k]?
theorem Chg.refl (S : Nat → Prop) (w : World) : Chg S w w := ⟨rfl, rfl, rfl, Nat.le_refl _, fun _ _ _ => rfl⟩
theorem Chg.trans {S S2 : Nat → Prop} {w v u : World} (h : Chg S w v) (k : Chg S2 v u) (hs : ∀ k, k < w.heap.size → S2 k → S k) : Chg S w u :=
  ⟨k.os.trans h.os, k.tape.trans h.tape, k.output.trans h.output, Nat.le_trans h.size k.size, fun i hi hb => (k.block i (Nat.lt_of_lt_of_le hi h.size) (fun e => hb (hs i hi e))).trans (h.block i hi hb)⟩
theorem Chg.mono {S S2 : Nat → Prop} {w v : World} (h : Chg S w v) (hs : ∀ k, k < w.heap.size → S k → S2 k) : Chg S2 w v := ⟨h.os, h.tape, h.output, h.size, fun k hk hn => h.block k hk (fun e => hn (hs k hk e))⟩
theorem Chg.ofBelow {S : Nat → Prop} {w v : World} (h : Below w.heap.size w v) : Chg S w v := ⟨h.os, h.tape, h.output, h.size, fun k hk _ => h.block k hk⟩
theorem Chg.ofTrn {b : Nat} {w v : World} (h : Trn b w v) : Chg (· = b) w v := ⟨h.os, h.tape, h.output, h.size, fun k hk hn => h.block k hk hn⟩
theorem Chg.ofGrown {w v : World} {row : Option Nat} (h : w.grownBy v row) : Chg (fun k => row = some k) w v := ⟨h.os, h.tape, h.output, h.size, fun k hk hn => h.block k hk (fun e => hn e.symm)⟩
theorem Chg.cell {S : Nat → Prop} {w v : World} (h : Chg S w v) {p : Addr} (hp : p.block < w.heap.size) (hne : ¬ S p.block) : v.cell? p = w.cell? p := World.cell?_of_block (w := w) (h.block p.block hp hne)
theorem Chg.frozen {S : Nat → Prop} {w v : World} (h : Chg S w v) {p : Addr} (hp : p.block < w.heap.size) (hne : ¬ S p.block) : v.frozen? p = w.frozen? p := World.frozen?_of_block (w := w) (h.block p.block hp hne)
theorem Chg.toTrn {S : Nat → Prop} {w v : World} (h : Chg S w v) {B : Nat} (hB : B ≤ w.heap.size) (hS : ∀ k, k < B → ¬ S k) : Below B w v := ⟨h.os, h.tape, h.output, h.size, fun k hk => h.block k (by omega) (hS k hk)⟩
theorem Chg.own {S : Nat → Prop} {w v : World} (h : Chg S w v) {X e sz : Nat} {m : Value} {n : Nat} {xs : List Value} (hO : w.ownsRow X e sz m n xs) (hm : ∀ g, m.ownBlock = some g → ¬ S g) : v.ownsRow X e sz m n xs := by
  rcases hO with ⟨h1, h2 | ⟨g, cap, cur, rfl, h3, h4, h5⟩⟩
  · exact ⟨h1, .inl h2⟩
  · have hg : g < w.heap.size := (Array.getElem?_eq_some_iff.1 h4).1
    exact ⟨h1, .inr ⟨g, cap, cur, rfl, h3, (h.block g hg (hm g rfl)).trans h4, h5⟩⟩
theorem Chg.byt {S : Nat → Prop} {w v : World} (h : Chg S w v) {p : Option Addr} {n c : Nat} {xs : List Int} (hB : Byt w p n c xs) (hp : 0 < n → ∀ g o, p = some ⟨g, o, .none⟩ → ¬ S g) : Byt v p n c xs := by
  obtain ⟨h1, h2, h3, h4⟩ := hB
  refine ⟨h1, h2, h3, ?_⟩
  by_cases h0 : n = 0
  · exact .inl h0
  rcases h4 with h4 | ⟨g, o, rfl, h5, h6⟩
  · exact .inl h4
  · exact .inr ⟨g, o, rfl, Nat.lt_of_lt_of_le h5 h.size, fun i x hx => (h.cell (p := ⟨g, o + i, .none⟩) h5 (hp (by omega) g o rfl)).trans (h6 i x hx)⟩
theorem own_ltC {w : World} {X e sz n : Nat} {v : Value} {xs : List Value} (h : w.ownsRow X e sz v n xs) : ∀ g, v.ownBlock = some g → g < w.heap.size := by
  intro g hg
  rcases h.2 with ⟨rfl, _⟩ | ⟨g', cap, cur, rfl, _, h4, _⟩
  · cases hg
  · simp only [Value.ownBlock, Option.some.injEq] at hg
    subst hg
    exact (Array.getElem?_eq_some_iff.1 h4).1
/-- A row is the one it was, or new. -/
def Sof (w : World) (e e' : Value) : Prop := ∀ g, e'.ownBlock = some g → e.ownBlock = some g ∨ w.heap.size ≤ g
theorem Sof.refl (w : World) (e : Value) : Sof w e e := fun g h => .inl h
theorem Sof.trans {w v : World} {e f g : Value} (h : Sof w e f) (k : Sof v f g) (hs : w.heap.size ≤ v.heap.size) : Sof w e g := fun x hx => by
  rcases k x hx with h1 | h1
  · exact h x h1
  · exact .inr (by omega)
theorem chg_set (d o : Nat) (u : Value) (w : World) : Chg (· = d) w (w.setCell ⟨d, o, .none⟩ u) := Chg.ofTrn (Trn.setCell d o u w)
/-- A cell of d's is no row's. -/
theorem own_setd {w : World} {d o X n : Nat} {m : Value} {zs : List Value} (hO : w.ownsRow X 5 1 m n zs) (hd : ∀ g, m.ownBlock = some g → g ≠ d) (u : Value) : (w.setCell ⟨d, o, .none⟩ u).ownsRow X 5 1 m n zs := (chg_set d o u w).own hO hd
end Go.Proofs.YthdlefbaegbldaaGreatDoor
