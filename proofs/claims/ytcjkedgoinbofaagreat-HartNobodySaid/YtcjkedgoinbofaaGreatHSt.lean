import Derived.Test.YtcjkedgoinbofaaGreatHCa
import Derived.Deep.MidRow
namespace Go.Proofs.YtcjkedgoinbofaaGreat
open Go.RowKit
set_option linter.unusedVariables false
set_option linter.unusedSimpArgs false
/-- The registers, with Pc behind them. -/
def rl (X : Nat → Int) : List Value := [.int .u64 (X 0), .int .u64 (X 1), .int .u64 (X 2), .int .u64 (X 3), .int .u64 (X 4), .int .u64 (X 5), .int .u64 (X 6), .int .u64 (X 7), .int .u64 (X 8), .int .u64 (X 9), .int .u64 (X 10), .int .u64 (X 11), .int .u64 (X 12), .int .u64 (X 13), .int .u64 (X 14), .int .u64 (X 15), .int .u64 (X 16), .int .u64 (X 17), .int .u64 (X 18), .int .u64 (X 19), .int .u64 (X 20), .int .u64 (X 21), .int .u64 (X 22), .int .u64 (X 23), .int .u64 (X 24), .int .u64 (X 25), .int .u64 (X 26), .int .u64 (X 27), .int .u64 (X 28), .int .u64 (X 29), .int .u64 (X 30), .int .u64 (X 31), .int .u64 (X 32)]
theorem rl_map (X : Nat → Int) : rl X = (List.range 33).map fun i => .int .u64 (X i) := rfl
theorem rl_len (X : Nat → Int) : (rl X).length = 33 := rfl
theorem rl_get (X : Nat → Int) (i : Nat) (h : i < 33) : (rl X)[i]? = some (.int .u64 (X i)) := by
  rw [rl_map]
  simp [List.getElem?_range h]
theorem rl_one (X : Nat → Int) : (rl X).toArray.all (·.oneCell') = true := by
  refine all_oneCell_toArray fun v hv => ?_
  rw [rl_map] at hv
  obtain ⟨i, _, rfl⟩ := List.mem_map.1 hv
  rfl
theorem rl_size (X : Nat → Int) : (rl X).toArray.size = 33 := rfl
/-- x0 is 0. -/
def z0 (X : Nat → Int) : Nat → Int := fun i => if i = 0 then 0 else X i
theorem rl_set (X : Nat → Int) : rl (z0 X) = (rl X).set 0 (.int .u64 0) := rfl
theorem rl_set0 {W : World} {k : Nat} {X : Nat → Int} (h : W.rangeAt k 0 (rl X)) : (W.setCell ⟨k, 0, .none⟩ (.int .u64 0)).rangeAt k 0 (rl (z0 X)) := by
  intro j v hj
  rw [rl_set] at hj
  simp only [Nat.zero_add]
  by_cases e : j = 0
  · subst e
    rw [List.getElem?_set_self (by rw [rl_len]; omega)] at hj
    cases hj
    exact World.cell?_setCell_same' _ _ _ (by have := h 0 _ (rl_get X 0 (by omega)); simp only [Nat.add_zero] at this; rw [this]; rfl)
  · rw [List.getElem?_set_ne (fun x => e x.symm)] at hj
    rw [World.cell?_setCell_other _ _ _ _ (by simp [e])]
    have := h j v hj
    simpa using this
theorem makeF (fn : Fn) (first cap : Array Value) (w : World) : (Instr.makeFunc fn first cap).run Tryz.prog w = .ok (.func fn first cap) w := rfl
theorem st_func (P : Program) (w : World) (a : Addr) (f : Fn) (c d : Array Value) (m : Mode) (hc : (w.cell? a).isSome = true) (hf : w.frozen? a = false) :
    (store a (.func f c d) m).run P w = .ok () (w.setCell a (.func f c d)) := by
  obtain ⟨u, hu⟩ := Option.isSome_iff_exists.1 hc
  rw [run_store P w a (.func f c d) m rfl, hu]
  simp [hf]
section
attribute [local go_sem] st_func
/-- What throughTable gives. -/
def ThP (W : World) (q : Option Addr) (root : Int) (e : Ending) (w' : World) : Prop := ∃ b0 b1, e = .returned (mm b0 b1 (.pointer q)) ∧ W.heap.size ≤ b0 ∧ W.heap.size ≤ b1 ∧ w'.cell? ⟨b0, 0, .none⟩ = some (.pointer q) ∧ w'.cell? ⟨b1, 0, .none⟩ = some (.int .u64 root) ∧ Below W.heap.size W w'
set_option maxHeartbeats 1000000 in
theorem thr_any (q : Option Addr) (root : Int) (W : World) : Calls Tryz.prog 32 #[.pointer q, .int .u64 root] W fun e w' => ThP W q root e w' := by
  have hmf := makeF
  go_enter Tryz.func32, Tryz.ntmps32
  go_wp2
  refine bodyPost_ret (v := mm W.heap.size (W.heap.size + 1) (.pointer q)) (by simp [results, Tryz.results32, go_sem, mm]) rfl ⟨W.heap.size, W.heap.size + 1, rfl, Nat.le_refl _, by omega, ?_, ?_, below3 _ _ _ _⟩
  · rw [World.cell?_alloc_past _ _ _ (by simp only [World.size_alloc]; omega), World.cell?_alloc_past _ _ _ (by simp only [World.size_alloc]; omega), World.cell?_alloc_at _ _ _ _ rfl]; rfl
  · rw [World.cell?_alloc_past _ _ _ (by simp only [World.size_alloc]; omega), World.cell?_alloc_at _ _ _ _ (by simp only [World.size_alloc])]; rfl
end
/-- A step as its cells: the memory, the registers with Pc, what Pc will be, the instruction, the row. -/
def sl (b0 b1 : Nat) (v : Value) (Y : Nat → Int) (nx op rd r1 r2 im cs : Int) (f : Value) (lk : Int) : List Value := [.func (.func 69) #[] #[.pointer (some ⟨b0, 0, .none⟩), .pointer (some ⟨b1, 0, .none⟩)], .func (.func 13) #[v] #[], .func (.func 12) #[v] #[]] ++ rl Y ++ [.int .u64 nx, .int .i64 op, .int .i64 rd, .int .i64 r1, .int .i64 r2, .int .i64 im, .int .i64 cs, f, .int .i64 lk]
theorem built101 (b0 b1 : Nat) (q : Option Addr) (Y : Nat → Int) (w : World) : (Instr.build 101 #[(0, .agg #[.func (.func 69) #[] #[.pointer (some ⟨b0, 0, .none⟩), .pointer (some ⟨b1, 0, .none⟩)], .func (.func 13) #[.pointer q] #[], .func (.func 12) #[.pointer q] #[]]), (1, .agg (rl Y).toArray)]).run Tryz.prog w = .ok (.agg (sl b0 b1 (.pointer q) Y 0 0 0 0 0 0 0 .nilFunc 0).toArray) w := by kernel_rfl
theorem there_new (w : World) (cs : Array Value) (t : TypeId) : (w.alloc (.cells cs t)).there w.heap.size 0 cs.size := fun j hj => by
  refine ⟨?_, World.frozen?_alloc_new _ _ _ _⟩
  rw [World.cell?_alloc_at _ _ _ _ rfl]
  simp [hj]
theorem there_below {W W' : World} {B b o n : Nat} (h : W.there b o n) (hb : b < B) (k : Below B W W') : W'.there b o n := fun j hj => by
  have := h j hj
  exact ⟨by rw [k.cell (p := ⟨b, o + j, .none⟩) hb]; exact this.1, by rw [k.frozen (p := ⟨b, o + j, .none⟩) hb]; exact this.2⟩
theorem range_below {W W' : World} {B b o : Nat} {cs : List Value} (h : W.rangeAt b o cs) (hb : b < B) (k : Below B W W') : W'.rangeAt b o cs := fun j v hj => (k.cell (p := ⟨b, o + j, .none⟩) hb).trans (h j v hj)
theorem range_new (w : World) (cs : List Value) (t : TypeId) : (w.alloc (.cells cs.toArray t)).rangeAt w.heap.size 0 cs := fun j v hj => by
  rw [World.cell?_alloc_at _ _ _ _ rfl]
  simpa using hj
theorem range_at {W : World} {k : Nat} {cs : List Value} (h : W.rangeAt k 0 cs) (i : Nat) (v : Value) (hi : cs[i]? = some v) : W.cell? ⟨k, i, .none⟩ = some v := by
  have := h i v hi
  rwa [Nat.zero_add] at this
/-- Behind the first statements of Step: the registers that came in, room for those that are told, the trap. -/
structure S3 (w W : World) (X : Nat → Int) : Prop where
  r0 : W.rangeAt w.heap.size 0 (rl X)
  t0 : W.there w.heap.size 0 33
  t1 : W.there (w.heap.size + 1) 0 33
  c0 : W.cell? ⟨w.heap.size + 1 + 1, 0, .none⟩ = some (.bool false)
  c1 : W.cell? ⟨w.heap.size + 1 + 1, 1, .none⟩ = some (.int .u64 0)
  c2 : W.cell? ⟨w.heap.size + 1 + 1, 2, .none⟩ = some (.int .u64 0)
  t2 : W.there (w.heap.size + 1 + 1) 0 3
  b : Below w.heap.size w W
theorem S3.mk3 (w : World) (X : Nat → Int) : S3 w (((w.alloc (.cells (rl X).toArray 25)).alloc (.cells #[.int .u64 0, .int .u64 0, .int .u64 0, .int .u64 0, .int .u64 0, .int .u64 0, .int .u64 0, .int .u64 0, .int .u64 0, .int .u64 0, .int .u64 0, .int .u64 0, .int .u64 0, .int .u64 0, .int .u64 0, .int .u64 0, .int .u64 0, .int .u64 0, .int .u64 0, .int .u64 0, .int .u64 0, .int .u64 0, .int .u64 0, .int .u64 0, .int .u64 0, .int .u64 0, .int .u64 0, .int .u64 0, .int .u64 0, .int .u64 0, .int .u64 0, .int .u64 0, .int .u64 0] 25)).alloc (.cells #[.bool false, .int .u64 0, .int .u64 0] 37)) X := by
  have b1 := below1 (w.alloc (.cells (rl X).toArray 25)) (.cells #[.int .u64 0, .int .u64 0, .int .u64 0, .int .u64 0, .int .u64 0, .int .u64 0, .int .u64 0, .int .u64 0, .int .u64 0, .int .u64 0, .int .u64 0, .int .u64 0, .int .u64 0, .int .u64 0, .int .u64 0, .int .u64 0, .int .u64 0, .int .u64 0, .int .u64 0, .int .u64 0, .int .u64 0, .int .u64 0, .int .u64 0, .int .u64 0, .int .u64 0, .int .u64 0, .int .u64 0, .int .u64 0, .int .u64 0, .int .u64 0, .int .u64 0, .int .u64 0, .int .u64 0] 25)
  have b2 := below1 ((w.alloc (.cells (rl X).toArray 25)).alloc (.cells #[.int .u64 0, .int .u64 0, .int .u64 0, .int .u64 0, .int .u64 0, .int .u64 0, .int .u64 0, .int .u64 0, .int .u64 0, .int .u64 0, .int .u64 0, .int .u64 0, .int .u64 0, .int .u64 0, .int .u64 0, .int .u64 0, .int .u64 0, .int .u64 0, .int .u64 0, .int .u64 0, .int .u64 0, .int .u64 0, .int .u64 0, .int .u64 0, .int .u64 0, .int .u64 0, .int .u64 0, .int .u64 0, .int .u64 0, .int .u64 0, .int .u64 0, .int .u64 0, .int .u64 0] 25)) (.cells #[.bool false, .int .u64 0, .int .u64 0] 37)
  have e1 : (w.alloc (.cells (rl X).toArray 25)).heap.size = w.heap.size + 1 := World.size_alloc ..
  have e2 : ((w.alloc (.cells (rl X).toArray 25)).alloc (.cells #[.int .u64 0, .int .u64 0, .int .u64 0, .int .u64 0, .int .u64 0, .int .u64 0, .int .u64 0, .int .u64 0, .int .u64 0, .int .u64 0, .int .u64 0, .int .u64 0, .int .u64 0, .int .u64 0, .int .u64 0, .int .u64 0, .int .u64 0, .int .u64 0, .int .u64 0, .int .u64 0, .int .u64 0, .int .u64 0, .int .u64 0, .int .u64 0, .int .u64 0, .int .u64 0, .int .u64 0, .int .u64 0, .int .u64 0, .int .u64 0, .int .u64 0, .int .u64 0, .int .u64 0] 25)).heap.size = w.heap.size + 1 + 1 := by simp only [World.size_alloc]
  refine ⟨?_, ?_, ?_, ?_, ?_, ?_, ?_, below3 _ _ _ _⟩
  · exact range_below (range_below (range_new w _ _) (by omega) b1) (by omega) b2
  · exact there_below (there_below (there_new w (rl X).toArray 25) (by omega) b1) (by omega) b2
  · have := there_below (there_new (w.alloc (.cells (rl X).toArray 25)) #[.int .u64 0, .int .u64 0, .int .u64 0, .int .u64 0, .int .u64 0, .int .u64 0, .int .u64 0, .int .u64 0, .int .u64 0, .int .u64 0, .int .u64 0, .int .u64 0, .int .u64 0, .int .u64 0, .int .u64 0, .int .u64 0, .int .u64 0, .int .u64 0, .int .u64 0, .int .u64 0, .int .u64 0, .int .u64 0, .int .u64 0, .int .u64 0, .int .u64 0, .int .u64 0, .int .u64 0, .int .u64 0, .int .u64 0, .int .u64 0, .int .u64 0, .int .u64 0, .int .u64 0] 25) (by omega) b2
    rw [e1] at this
    exact this
  · rw [World.cell?_alloc_at _ _ _ _ (by omega)]; rfl
  · rw [World.cell?_alloc_at _ _ _ _ (by omega)]; rfl
  · rw [World.cell?_alloc_at _ _ _ _ (by omega)]; rfl
  · have := there_new ((w.alloc (.cells (rl X).toArray 25)).alloc (.cells #[.int .u64 0, .int .u64 0, .int .u64 0, .int .u64 0, .int .u64 0, .int .u64 0, .int .u64 0, .int .u64 0, .int .u64 0, .int .u64 0, .int .u64 0, .int .u64 0, .int .u64 0, .int .u64 0, .int .u64 0, .int .u64 0, .int .u64 0, .int .u64 0, .int .u64 0, .int .u64 0, .int .u64 0, .int .u64 0, .int .u64 0, .int .u64 0, .int .u64 0, .int .u64 0, .int .u64 0, .int .u64 0, .int .u64 0, .int .u64 0, .int .u64 0, .int .u64 0, .int .u64 0] 25)) #[.bool false, .int .u64 0, .int .u64 0] 37
    rw [e2] at this
    exact this
theorem S3.lt {w W : World} {X : Nat → Int} (h : S3 w W X) : w.heap.size + 1 + 1 < W.heap.size := lt_of_cell h.c0
theorem S3.upto {w W W' : World} {X : Nat → Int} (h : S3 w W X) {B : Nat} (hl : w.heap.size + 1 + 1 < B) (k : Below B W W') : S3 w W' X :=
  ⟨range_below h.r0 (by omega) k, there_below h.t0 (by omega) k, there_below h.t1 (by omega) k, (k.cell (p := ⟨w.heap.size + 1 + 1, 0, .none⟩) hl).trans h.c0, (k.cell (p := ⟨w.heap.size + 1 + 1, 1, .none⟩) hl).trans h.c1, (k.cell (p := ⟨w.heap.size + 1 + 1, 2, .none⟩) hl).trans h.c2, there_below h.t2 (by omega) k, h.b.trans (k.mono (by omega))⟩
theorem S3.below {w W W' : World} {X : Nat → Int} (h : S3 w W X) (k : Below W.heap.size W W') : S3 w W' X := h.upto h.lt k
theorem there_setCell {W : World} {b o n : Nat} (h : W.there b o n) (a : Addr) (v : Value) : (W.setCell a v).there b o n := fun j hj => by
  have := h j hj
  refine ⟨?_, by rw [World.frozen?_setCell]; exact this.2⟩
  by_cases e : a = ⟨b, o + j, .none⟩
  · subst e
    rw [World.cell?_setCell_same' _ _ _ this.1]
    rfl
  · rw [World.cell?_setCell_other _ _ _ _ e]
    exact this.1
theorem S3.zero {w W : World} {X : Nat → Int} (h : S3 w W X) : S3 w (W.setCell ⟨w.heap.size, 0, .none⟩ (.int .u64 0)) (z0 X) :=
  ⟨rl_set0 h.r0, there_setCell h.t0 _ _, there_setCell h.t1 _ _, (World.cell?_setCell_other _ _ _ _ (by simp)).trans h.c0, (World.cell?_setCell_other _ _ _ _ (by simp)).trans h.c1, (World.cell?_setCell_other _ _ _ _ (by simp)).trans h.c2, there_setCell h.t2 _ _, h.b.setCell (p := ⟨w.heap.size, 0, .none⟩) (Nat.le_refl _) _⟩
/-- Where the registers are told too. -/
structure S5 (w W : World) (Y : Nat → Int) : Prop where
  s : S3 w W Y
  r1 : W.rangeAt (w.heap.size + 1) 0 (rl Y)
theorem S5.upto {w W W' : World} {X : Nat → Int} (h : S5 w W X) {B : Nat} (hl : w.heap.size + 1 + 1 < B) (k : Below B W W') : S5 w W' X := ⟨h.s.upto hl k, range_below h.r1 (by omega) k⟩
theorem S5.below {w W W' : World} {X : Nat → Int} (h : S5 w W X) (k : Below W.heap.size W W') : S5 w W' X := h.upto h.s.lt k
theorem below_setCells {B : Nat} {u W : World} (h : Below B u W) (b : Nat) (hb : B ≤ b) : ∀ (o : Nat) (vs : List Value), Below B u (W.setCells b o vs) := by
  intro o vs
  induction vs generalizing o W with
  | nil => exact h
  | cons v vs ih => exact ih (h.setCell (p := ⟨b, o, .none⟩) hb v) (o + 1)
theorem S3.tell {w W : World} {Y : Nat → Int} (h : S3 w W Y) : S5 w (W.setCells (w.heap.size + 1) 0 (rl Y)) Y := by
  refine ⟨⟨World.rangeAt_setCells_apart h.r0 _ _ _ (.inl (by omega)), ?_, ?_, ?_, ?_, ?_, ?_, below_setCells h.b _ (by omega) _ _⟩, World.rangeAt_setCells_same _ _ _ _ h.t1⟩
  · exact World.there_setCells h.t0 _ _ _
  · exact World.there_setCells h.t1 _ _ _
  · exact (World.cell?_setCells_out _ _ _ _ _ (fun e => by have e' : w.heap.size + 1 + 1 = w.heap.size + 1 := e; omega)).trans h.c0
  · exact (World.cell?_setCells_out _ _ _ _ _ (fun e => by have e' : w.heap.size + 1 + 1 = w.heap.size + 1 := e; omega)).trans h.c1
  · exact (World.cell?_setCells_out _ _ _ _ _ (fun e => by have e' : w.heap.size + 1 + 1 = w.heap.size + 1 := e; omega)).trans h.c2
  · exact World.there_setCells h.t2 _ _ _
theorem step_store_mid {P : Program} {ops : Array Oper} {op : Oper} {a : Act} {w : World} {K : Act → World → Prop} {Q : Exit → Act → World → Prop} {E : Prop} (hgd : op.guard = none) (ty : TypeId) (x y : Operand) (ho : op.op = .store ty x y)
    (b o : Nat) (cells : Array Value) (hx : a.eval x = .pointer (some ⟨b, o, .none⟩)) (hy : a.eval y = .agg cells)
    (ht : w.there b o cells.size) (hi : (P.info? ty).map (·.size) = some cells.size) (h1 : cells.all (·.oneCell') = true)
    (h : K (a.put op.dst undef) (w.setCells b o cells.toList)) : if Region.wanted op (yielded ops a.tmps) = true then Oper.wp P op a w K Q else E := by
  have hw : Region.wanted op (yielded ops a.tmps) = true := by simp [Region.wanted, hgd]
  rw [if_pos hw]
  exact wp_store_mid ty x y ho b o cells hx hy ht hi h1 h
theorem sl_one (b0 b1 : Nat) (q : Option Addr) (Y : Nat → Int) : (sl b0 b1 (.pointer q) Y 0 0 0 0 0 0 0 .nilFunc 0).toArray.all (·.oneCell') = true := by
  refine all_oneCell_toArray fun v hv => ?_
  simp only [sl, List.mem_append, List.mem_cons, List.not_mem_nil, or_false] at hv
  rcases hv with (hv | hv) | hv
  · rcases hv with rfl | rfl | rfl <;> rfl
  · rw [rl_map] at hv
    obtain ⟨i, _, rfl⟩ := List.mem_map.1 hv
    rfl
  · rcases hv with rfl | rfl | rfl | rfl | rfl | rfl | rfl | rfl | rfl <;> rfl
theorem sl_size (b0 b1 : Nat) (q : Option Addr) (Y : Nat → Int) : (sl b0 b1 (.pointer q) Y 0 0 0 0 0 0 0 .nilFunc 0).toArray.size = 45 := rfl
/-- Behind the fifth statement of Step: the step is laid down. -/
structure S6 (w W : World) (s b0 b1 : Nat) (q : Option Addr) (root : Int) (Y : Nat → Int) : Prop where
  h5 : S5 w W Y
  bx : Bx w W b0 b1 (.pointer q) root
  r : W.rangeAt s 0 (sl b0 b1 (.pointer q) Y 0 0 0 0 0 0 0 .nilFunc 0)
  t : W.there s 0 45
  ls : w.heap.size + 1 + 1 < s
theorem S6.mk6 {w V : World} {s b0 b1 : Nat} {q : Option Addr} {root : Int} {Y : Nat → Int} (h5 : S5 w V Y) (hb : Bx w V b0 b1 (.pointer q) root) (ht : V.there s 0 45) (hs : w.heap.size + 1 + 1 < s) (n0 : b0 ≠ s) (n1 : b1 ≠ s) : S6 w (V.setCells s 0 (sl b0 b1 (.pointer q) Y 0 0 0 0 0 0 0 .nilFunc 0)) s b0 b1 q root Y := by
  have k : Below (w.heap.size + 1 + 1 + 1) V (V.setCells s 0 (sl b0 b1 (.pointer q) Y 0 0 0 0 0 0 0 .nilFunc 0)) := below_setCells (Below.refl _ _) s (by omega) _ _
  refine ⟨h5.upto (by omega) k, ⟨hb.b.trans (k.mono (by omega)), hb.l0, hb.l1, ?_, ?_⟩, World.rangeAt_setCells_same _ _ _ _ ht, World.there_setCells ht _ _ _, hs⟩
  · exact (World.cell?_setCells_out _ _ _ _ _ (fun e => absurd e n0)).trans hb.k0
  · exact (World.cell?_setCells_out _ _ _ _ _ (fun e => absurd e n1)).trans hb.k1
theorem res9 (tmps : Array Value) (k1 k2 : Nat) (W : World) (Y : Nat → Int) (t : Bool) (c x : Int) (h6 : tmps[6]? = some (.pointer (some ⟨k1, 0, .none⟩))) (h7 : tmps[7]? = some (.pointer (some ⟨k2, 0, .none⟩))) (r1 : W.rangeAt k1 0 (rl Y)) (r2 : W.rangeAt k2 0 [.bool t, .int .u64 c, .int .u64 x]) :
    (results Tryz.f9 tmps).run Tryz.prog W = .ok (.tuple #[.agg (rl Y).toArray, .agg #[.bool t, .int .u64 c, .int .u64 x]]) W := by
  have l1 : (loadVar 25 ⟨k1, 0, .none⟩).run Tryz.prog W = .ok (.agg (rl Y).toArray) W := run_loadVar_mid W k1 0 25 (rl Y) _ r1 Tryz.underlying25 rfl (by kernel_rfl)
  have l2 : (loadVar 37 ⟨k2, 0, .none⟩).run Tryz.prog W = .ok (.agg #[.bool t, .int .u64 c, .int .u64 x]) W := run_loadVar_mid W k2 0 37 [.bool t, .int .u64 c, .int .u64 x] _ r2 Tryz.underlying37 rfl (by kernel_rfl)
  simp [results, Tryz.results9, asAddr, h6, h7, l1, l2]
theorem S5.caught {w V : World} {Y : Nat → Int} (h : S5 w V Y) (o : Obj) (t : Bool) (c x : Int) : let W := (((V.alloc o).setCell ⟨w.heap.size + 1 + 1, 0, .none⟩ (.bool t)).setCell ⟨w.heap.size + 1 + 1, 1, .none⟩ (.int .u64 c)).setCell ⟨w.heap.size + 1 + 1, 2, .none⟩ (.int .u64 x); W.rangeAt (w.heap.size + 1) 0 (rl Y) ∧ W.rangeAt (w.heap.size + 1 + 1) 0 [.bool t, .int .u64 c, .int .u64 x] ∧ Below w.heap.size w W := by
  intro W
  have h1 := h.below (below1 V o)
  have k : Below (w.heap.size + 1 + 1) (V.alloc o) W := (((Below.refl _ _).setCell (p := ⟨w.heap.size + 1 + 1, 0, .none⟩) (Nat.le_refl _) _).setCell (p := ⟨w.heap.size + 1 + 1, 1, .none⟩) (Nat.le_refl _) _).setCell (p := ⟨w.heap.size + 1 + 1, 2, .none⟩) (Nat.le_refl _) _
  refine ⟨range_below h1.r1 (by omega) k, ?_, h1.s.b.trans (k.mono (by omega))⟩
  have e : W = (V.alloc o).setCells (w.heap.size + 1 + 1) 0 [.bool t, .int .u64 c, .int .u64 x] := rfl
  rw [e]
  exact World.rangeAt_setCells_same _ _ _ _ h1.s.t2
set_option maxHeartbeats 4000000 in
set_option maxRecDepth 100000 in
theorem step_up (q : Option Addr) (root c x : Int) (X : Nat → Int) (w : World) (p : ∀ b0 b1, Rdd w b0 b1 (.pointer q) root 1 (X 32) 4 (up c x)) : Calls Tryz.prog 9 #[.pointer q, .int .u64 root, .agg (rl X).toArray] w fun e w' => e = .returned (.tuple #[.agg (rl (z0 X)).toArray, tr c x]) ∧ Below w.heap.size w w' := by
  have hmf := makeF
  go_enter_defers Tryz.func9, Tryz.ntmps9
  go_upto_region 1 with fail
  have H3 : Hid (S3 w _ X) := S3.mk3 w X
  generalize (((w.alloc (.cells (rl X).toArray 25)).alloc (.cells #[.int .u64 0, .int .u64 0, .int .u64 0, .int .u64 0, .int .u64 0, .int .u64 0, .int .u64 0, .int .u64 0, .int .u64 0, .int .u64 0, .int .u64 0, .int .u64 0, .int .u64 0, .int .u64 0, .int .u64 0, .int .u64 0, .int .u64 0, .int .u64 0, .int .u64 0, .int .u64 0, .int .u64 0, .int .u64 0, .int .u64 0, .int .u64 0, .int .u64 0, .int .u64 0, .int .u64 0, .int .u64 0, .int .u64 0, .int .u64 0, .int .u64 0, .int .u64 0, .int .u64 0] 25)).alloc (.cells #[.bool false, .int .u64 0, .int .u64 0] 37)) = W3 at *
  have u0 : W3.cell? ⟨w.heap.size, 0, .none⟩ = some (.int .u64 (X 0)) := range_at H3.out.r0 0 _ (rl_get X 0 (by omega))
  have u1 : W3.frozen? ⟨w.heap.size, 0, .none⟩ = false := (H3.out.t0 0 (by omega)).2
  go_upto_region 2 with fail
  have H4 : Hid (S3 w _ (z0 X)) := H3.out.zero
  clear u0 u1 H3
  generalize W3.setCell ⟨w.heap.size, 0, .none⟩ (.int .u64 0) = W4 at *
  refine wp_region_lit ?_
  refine wpList_load_mid rfl 25 (.tmp 5) rfl w.heap.size 0 (by simp [Act.eval]) (rl (z0 X)) _ H4.out.r0 Tryz.underlying25 rfl (by kernel_rfl) ?_
  refine wpList_store_mid rfl 25 (.tmp 6) (.tmp 11) rfl (w.heap.size + 1) 0 (rl (z0 X)).toArray (by simp [Act.eval, Act.put]) (by simp [Act.eval, Act.put]) H4.out.t1 (by kernel_rfl) (rl_one _) ?_
  simp only [Act.put, List.setIfInBounds_toArray, List.set_cons_zero, List.set_cons_succ]
  have H5 : Hid (S5 w _ (z0 X)) := H4.out.tell
  clear H4
  generalize W4.setCells (w.heap.size + 1) 0 (rl (z0 X)) = W5 at *
  go_wp2
  have hbu := built101
  go_cut [8] from 8 to 26 (fun s8 W => ∃ s b0 b1, s8 = .pointer (some ⟨s, 0, .none⟩) ∧ S6 w W s b0 b1 q root (z0 X))
  case first =>
    refine wp_region_noPanic ?_
    refine wp_region_held_drew (S := (fun W2 => W2.rangeAt w.heap.size 0 (rl (z0 X)))) (by kernel_rfl) (range_below H5.out.s.r0 (by have := H5.out.s.lt; omega) (blw_drewN W5.heap.size W5 1)) (fun hHeld => ?_)
    refine wpAnyH_take (i := 0) (v := (.pointer q)) rfl (by kernel_rfl) (by kernel_rfl) (by kernel_rfl) (fun _ _ _ h => h) (Or.inl ⟨by rfl, fun ww hSw => by clear hSw; go_simp⟩) (by assumption) ?_
    simp only [Act.put, List.setIfInBounds_toArray, List.set_cons_zero, List.set_cons_succ, List.getElem_toArray, List.getElem_cons_succ, List.getElem_cons_zero]
    refine wpAnyH_take (i := 1) (v := (.int .u64 root)) rfl (by kernel_rfl) (by kernel_rfl) (by kernel_rfl) (fun _ _ _ h => h) (Or.inl ⟨by rfl, fun ww hSw => by clear hSw; go_simp⟩) (by assumption) ?_
    simp only [Act.put, List.setIfInBounds_toArray, List.set_cons_zero, List.set_cons_succ, List.getElem_toArray, List.getElem_cons_succ, List.getElem_cons_zero]
    refine wpAnyH_take (i := 3) (v := (.agg (rl (z0 X)).toArray)) rfl (by kernel_rfl) (by kernel_rfl) (by kernel_rfl) (fun _ _ _ h => h) (yieldsIf_load_mid (by rfl) 25 (.tmp 5) rfl w.heap.size 0 (by simp [Act.eval]) (rl (z0 X)) _ (fun _ h => h) Tryz.underlying25 rfl (by kernel_rfl)) (by assumption) ?_
    simp only [Act.put, List.setIfInBounds_toArray, List.set_cons_zero, List.set_cons_succ, List.getElem_toArray, List.getElem_cons_succ, List.getElem_cons_zero]
    have H6 : Hid (S5 w W5.drew (z0 X)) := H5.out.below (blw_drewN W5.heap.size W5 1)
    clear H5
    generalize W5.drew = W6 at *
    refine wpAnyH_ready (rs := [2, 5]) (by kernel_rfl) (by simp) ?_
    refine AllReadyH.cons rfl (fun K hK => ?_) ?_
    · go_simp
      go_at_call 32
      refine (thr_any q root _).mono ?_
      rintro e V ⟨b0, b1, rfl, l0, l1, k0, k1, hb⟩
      have h5 := H6.out.below hb
      simp only [mm]
      refine hK.out _ _ h5.s.r0 (fun hHeld => ?_)
      clear hK K
      try simp only [Act.put, List.setIfInBounds_toArray, List.set_cons_zero, List.set_cons_succ, List.getElem_toArray, List.getElem_cons_succ, List.getElem_cons_zero]
      refine wpAnyH_take (i := 4) (v := (.agg (sl b0 b1 (.pointer q) (z0 X) 0 0 0 0 0 0 0 .nilFunc 0).toArray)) rfl (by kernel_rfl) (by kernel_rfl) (by kernel_rfl) (fun _ _ _ h => h) (Or.inl ⟨by rfl, fun ww hSw => by kernel_rfl⟩) (by assumption) ?_
      simp only [Act.put, List.setIfInBounds_toArray, List.set_cons_zero, List.set_cons_succ, List.getElem_toArray, List.getElem_cons_succ, List.getElem_cons_zero]
      refine wpAnyH_ready (rs := [5]) (by kernel_rfl) (by simp) ?_
      refine AllReadyH.cons rfl (fun K hK => ?_) AllReadyH.nil
      go_simp
      have h7 := h5.below (below1 V (.cells #[.nilFunc, .nilFunc, .nilFunc, .int .u64 0, .int .u64 0, .int .u64 0, .int .u64 0, .int .u64 0, .int .u64 0, .int .u64 0, .int .u64 0, .int .u64 0, .int .u64 0, .int .u64 0, .int .u64 0, .int .u64 0, .int .u64 0, .int .u64 0, .int .u64 0, .int .u64 0, .int .u64 0, .int .u64 0, .int .u64 0, .int .u64 0, .int .u64 0, .int .u64 0, .int .u64 0, .int .u64 0, .int .u64 0, .int .u64 0, .int .u64 0, .int .u64 0, .int .u64 0, .int .u64 0, .int .u64 0, .int .u64 0, .int .u64 0, .int .i64 0, .int .i64 0, .int .i64 0, .int .i64 0, .int .i64 0, .int .i64 0, .nilFunc, .int .i64 0] 101))
      have bx : Bx w V b0 b1 (.pointer q) root := ⟨h5.s.b, by have := H6.out.s.b.size; omega, by have := H6.out.s.b.size; omega, k0, k1⟩
      have b7 := bx.below (below1 V (.cells #[.nilFunc, .nilFunc, .nilFunc, .int .u64 0, .int .u64 0, .int .u64 0, .int .u64 0, .int .u64 0, .int .u64 0, .int .u64 0, .int .u64 0, .int .u64 0, .int .u64 0, .int .u64 0, .int .u64 0, .int .u64 0, .int .u64 0, .int .u64 0, .int .u64 0, .int .u64 0, .int .u64 0, .int .u64 0, .int .u64 0, .int .u64 0, .int .u64 0, .int .u64 0, .int .u64 0, .int .u64 0, .int .u64 0, .int .u64 0, .int .u64 0, .int .u64 0, .int .u64 0, .int .u64 0, .int .u64 0, .int .u64 0, .int .u64 0, .int .i64 0, .int .i64 0, .int .i64 0, .int .i64 0, .int .i64 0, .int .i64 0, .nilFunc, .int .i64 0] 101))
      have t7 : (V.alloc (.cells #[.nilFunc, .nilFunc, .nilFunc, .int .u64 0, .int .u64 0, .int .u64 0, .int .u64 0, .int .u64 0, .int .u64 0, .int .u64 0, .int .u64 0, .int .u64 0, .int .u64 0, .int .u64 0, .int .u64 0, .int .u64 0, .int .u64 0, .int .u64 0, .int .u64 0, .int .u64 0, .int .u64 0, .int .u64 0, .int .u64 0, .int .u64 0, .int .u64 0, .int .u64 0, .int .u64 0, .int .u64 0, .int .u64 0, .int .u64 0, .int .u64 0, .int .u64 0, .int .u64 0, .int .u64 0, .int .u64 0, .int .u64 0, .int .u64 0, .int .i64 0, .int .i64 0, .int .i64 0, .int .i64 0, .int .i64 0, .int .i64 0, .nilFunc, .int .i64 0] 101)).there V.heap.size 0 45 := there_new V #[.nilFunc, .nilFunc, .nilFunc, .int .u64 0, .int .u64 0, .int .u64 0, .int .u64 0, .int .u64 0, .int .u64 0, .int .u64 0, .int .u64 0, .int .u64 0, .int .u64 0, .int .u64 0, .int .u64 0, .int .u64 0, .int .u64 0, .int .u64 0, .int .u64 0, .int .u64 0, .int .u64 0, .int .u64 0, .int .u64 0, .int .u64 0, .int .u64 0, .int .u64 0, .int .u64 0, .int .u64 0, .int .u64 0, .int .u64 0, .int .u64 0, .int .u64 0, .int .u64 0, .int .u64 0, .int .u64 0, .int .u64 0, .int .u64 0, .int .i64 0, .int .i64 0, .int .i64 0, .int .i64 0, .int .i64 0, .int .i64 0, .nilFunc, .int .i64 0] 101
      have hl7 := h5.s.lt
      have n0 : b0 ≠ V.heap.size := Nat.ne_of_lt (lt_of_cell k0)
      have n1 : b1 ≠ V.heap.size := Nat.ne_of_lt (lt_of_cell k1)
      generalize hs7 : V.heap.size = s7 at *
      generalize V.alloc (.cells #[.nilFunc, .nilFunc, .nilFunc, .int .u64 0, .int .u64 0, .int .u64 0, .int .u64 0, .int .u64 0, .int .u64 0, .int .u64 0, .int .u64 0, .int .u64 0, .int .u64 0, .int .u64 0, .int .u64 0, .int .u64 0, .int .u64 0, .int .u64 0, .int .u64 0, .int .u64 0, .int .u64 0, .int .u64 0, .int .u64 0, .int .u64 0, .int .u64 0, .int .u64 0, .int .u64 0, .int .u64 0, .int .u64 0, .int .u64 0, .int .u64 0, .int .u64 0, .int .u64 0, .int .u64 0, .int .u64 0, .int .u64 0, .int .u64 0, .int .i64 0, .int .i64 0, .int .i64 0, .int .i64 0, .int .i64 0, .int .i64 0, .nilFunc, .int .i64 0] 101) = V7 at *
      refine hK.out _ _ h7.s.r0 (fun hHeld => ?_)
      clear hK K
      try simp only [Act.put, List.setIfInBounds_toArray, List.set_cons_zero, List.set_cons_succ, List.getElem_toArray, List.getElem_cons_succ, List.getElem_cons_zero]
      refine wpAnyH_ready (rs := [6]) (by kernel_rfl) (by simp) ?_
      refine AllReadyH.cons rfl (fun K hK => ?_) AllReadyH.nil
      refine step_store_mid rfl 101 (.tmp 8) (.tmp 17) rfl s7 0 (sl b0 b1 (.pointer q) (z0 X) 0 0 0 0 0 0 0 .nilFunc 0).toArray (by simp [Act.eval]) (by simp [Act.eval]) (by rw [sl_size]; exact t7) (by kernel_rfl) (sl_one _ _ _ _) ?_
      have h8 := S6.mk6 h7 b7 t7 hl7 n0 n1
      refine hK.out _ _ h8.h5.s.r0 (fun hHeld => ?_)
      clear hK K
      try simp only [Act.put, List.setIfInBounds_toArray, List.set_cons_zero, List.set_cons_succ, List.getElem_toArray, List.getElem_cons_succ, List.getElem_cons_zero]
      refine wpAnyH_done (by kernel_rfl) ?_ _
      refine NoPanic.normal ?_
      go_wp2
      go_meet
      exact ⟨s7, b0, b1, rfl, h8⟩
    · refine AllReadyH.cons rfl (fun K hK => ?_) AllReadyH.nil
      go_simp
      have h7 := H6.out.below (below1 W6 (.cells #[.nilFunc, .nilFunc, .nilFunc, .int .u64 0, .int .u64 0, .int .u64 0, .int .u64 0, .int .u64 0, .int .u64 0, .int .u64 0, .int .u64 0, .int .u64 0, .int .u64 0, .int .u64 0, .int .u64 0, .int .u64 0, .int .u64 0, .int .u64 0, .int .u64 0, .int .u64 0, .int .u64 0, .int .u64 0, .int .u64 0, .int .u64 0, .int .u64 0, .int .u64 0, .int .u64 0, .int .u64 0, .int .u64 0, .int .u64 0, .int .u64 0, .int .u64 0, .int .u64 0, .int .u64 0, .int .u64 0, .int .u64 0, .int .u64 0, .int .i64 0, .int .i64 0, .int .i64 0, .int .i64 0, .int .i64 0, .int .i64 0, .nilFunc, .int .i64 0] 101))
      have t7 : (W6.alloc (.cells #[.nilFunc, .nilFunc, .nilFunc, .int .u64 0, .int .u64 0, .int .u64 0, .int .u64 0, .int .u64 0, .int .u64 0, .int .u64 0, .int .u64 0, .int .u64 0, .int .u64 0, .int .u64 0, .int .u64 0, .int .u64 0, .int .u64 0, .int .u64 0, .int .u64 0, .int .u64 0, .int .u64 0, .int .u64 0, .int .u64 0, .int .u64 0, .int .u64 0, .int .u64 0, .int .u64 0, .int .u64 0, .int .u64 0, .int .u64 0, .int .u64 0, .int .u64 0, .int .u64 0, .int .u64 0, .int .u64 0, .int .u64 0, .int .u64 0, .int .i64 0, .int .i64 0, .int .i64 0, .int .i64 0, .int .i64 0, .int .i64 0, .nilFunc, .int .i64 0] 101)).there W6.heap.size 0 45 := there_new W6 #[.nilFunc, .nilFunc, .nilFunc, .int .u64 0, .int .u64 0, .int .u64 0, .int .u64 0, .int .u64 0, .int .u64 0, .int .u64 0, .int .u64 0, .int .u64 0, .int .u64 0, .int .u64 0, .int .u64 0, .int .u64 0, .int .u64 0, .int .u64 0, .int .u64 0, .int .u64 0, .int .u64 0, .int .u64 0, .int .u64 0, .int .u64 0, .int .u64 0, .int .u64 0, .int .u64 0, .int .u64 0, .int .u64 0, .int .u64 0, .int .u64 0, .int .u64 0, .int .u64 0, .int .u64 0, .int .u64 0, .int .u64 0, .int .u64 0, .int .i64 0, .int .i64 0, .int .i64 0, .int .i64 0, .int .i64 0, .int .i64 0, .nilFunc, .int .i64 0] 101
      have hl7 := H6.out.s.lt
      have hs8 : W6.heap.size < (W6.alloc (.cells #[.nilFunc, .nilFunc, .nilFunc, .int .u64 0, .int .u64 0, .int .u64 0, .int .u64 0, .int .u64 0, .int .u64 0, .int .u64 0, .int .u64 0, .int .u64 0, .int .u64 0, .int .u64 0, .int .u64 0, .int .u64 0, .int .u64 0, .int .u64 0, .int .u64 0, .int .u64 0, .int .u64 0, .int .u64 0, .int .u64 0, .int .u64 0, .int .u64 0, .int .u64 0, .int .u64 0, .int .u64 0, .int .u64 0, .int .u64 0, .int .u64 0, .int .u64 0, .int .u64 0, .int .u64 0, .int .u64 0, .int .u64 0, .int .u64 0, .int .i64 0, .int .i64 0, .int .i64 0, .int .i64 0, .int .i64 0, .int .i64 0, .nilFunc, .int .i64 0] 101)).heap.size := by rw [World.size_alloc]; omega
      clear H6
      generalize hs7 : W6.heap.size = s7 at *
      generalize W6.alloc (.cells #[.nilFunc, .nilFunc, .nilFunc, .int .u64 0, .int .u64 0, .int .u64 0, .int .u64 0, .int .u64 0, .int .u64 0, .int .u64 0, .int .u64 0, .int .u64 0, .int .u64 0, .int .u64 0, .int .u64 0, .int .u64 0, .int .u64 0, .int .u64 0, .int .u64 0, .int .u64 0, .int .u64 0, .int .u64 0, .int .u64 0, .int .u64 0, .int .u64 0, .int .u64 0, .int .u64 0, .int .u64 0, .int .u64 0, .int .u64 0, .int .u64 0, .int .u64 0, .int .u64 0, .int .u64 0, .int .u64 0, .int .u64 0, .int .u64 0, .int .i64 0, .int .i64 0, .int .i64 0, .int .i64 0, .int .i64 0, .int .i64 0, .nilFunc, .int .i64 0] 101) = V7 at *
      refine hK.out _ _ h7.s.r0 (fun hHeld => ?_)
      clear hK K
      try simp only [Act.put, List.setIfInBounds_toArray, List.set_cons_zero, List.set_cons_succ, List.getElem_toArray, List.getElem_cons_succ, List.getElem_cons_zero]
      refine wpAnyH_ready (rs := [2]) (by kernel_rfl) (by simp) ?_
      refine AllReadyH.cons rfl (fun K hK => ?_) AllReadyH.nil
      go_simp
      go_at_call 32
      refine (thr_any q root _).mono ?_
      rintro e V ⟨b0, b1, rfl, l0, l1, k0, k1, hb⟩
      have h8 := h7.below hb
      have t8 := there_below t7 hs8 hb
      have bx : Bx w V b0 b1 (.pointer q) root := ⟨h8.s.b, by have := h7.s.b.size; omega, by have := h7.s.b.size; omega, k0, k1⟩
      simp only [mm]
      refine hK.out _ _ h8.s.r0 (fun hHeld => ?_)
      clear hK K
      try simp only [Act.put, List.setIfInBounds_toArray, List.set_cons_zero, List.set_cons_succ, List.getElem_toArray, List.getElem_cons_succ, List.getElem_cons_zero]
      refine wpAnyH_take (i := 4) (v := (.agg (sl b0 b1 (.pointer q) (z0 X) 0 0 0 0 0 0 0 .nilFunc 0).toArray)) rfl (by kernel_rfl) (by kernel_rfl) (by kernel_rfl) (fun _ _ _ h => h) (Or.inl ⟨by rfl, fun ww hSw => by kernel_rfl⟩) (by assumption) ?_
      simp only [Act.put, List.setIfInBounds_toArray, List.set_cons_zero, List.set_cons_succ, List.getElem_toArray, List.getElem_cons_succ, List.getElem_cons_zero]
      refine wpAnyH_ready (rs := [6]) (by kernel_rfl) (by simp) ?_
      refine AllReadyH.cons rfl (fun K hK => ?_) AllReadyH.nil
      refine step_store_mid rfl 101 (.tmp 8) (.tmp 17) rfl s7 0 (sl b0 b1 (.pointer q) (z0 X) 0 0 0 0 0 0 0 .nilFunc 0).toArray (by simp [Act.eval]) (by simp [Act.eval]) (by rw [sl_size]; exact t8) (by kernel_rfl) (sl_one _ _ _ _) ?_
      have h9 := S6.mk6 h8 bx t8 hl7 (by omega) (by omega)
      refine hK.out _ _ h9.h5.s.r0 (fun hHeld => ?_)
      clear hK K
      try simp only [Act.put, List.setIfInBounds_toArray, List.set_cons_zero, List.set_cons_succ, List.getElem_toArray, List.getElem_cons_succ, List.getElem_cons_zero]
      refine wpAnyH_done (by kernel_rfl) ?_ _
      refine NoPanic.normal ?_
      go_wp2
      go_meet
      exact ⟨s7, b0, b1, rfl, h9⟩
  case rest =>
    obtain ⟨s, b0, b1, rfl, h6⟩ := hcut
    have sm : Sm wc s b0 b1 (.pointer q) (X 32) := ⟨range_at h6.r 0 _ rfl, range_at h6.r 1 _ rfl, range_at h6.r 2 _ rfl, range_at h6.r 35 _ rfl⟩
    have c33 := do_up h6.bx s (X 32) c x sm (p b0 b1)
    have H6 : Hid (S6 w wc s b0 b1 q root (z0 X)) := h6
    clear h6 sm p hbu
    go_wp2_with (go_at_call 33; refine c33.mono ?_; rintro e V ⟨rfl, hb⟩)
    have h7 := H6.out.h5.below hb
    refine leaves_cons (f := 31) (args := #[.pointer (some ⟨w.heap.size + 1 + 1, 0, .none⟩)]) (by simp) (by simp [go_sem]) ?_
    refine (catch_up (w.heap.size + 1 + 1) c x [] V _ _ _ h7.s.c0 h7.s.c1 h7.s.c2 (h7.s.t2 0 (by omega)).2 (h7.s.t2 1 (by omega)).2 (h7.s.t2 2 (by omega)).2).mono ?_
    rintro e u' w'' ⟨rfl, rfl, rfl⟩
    have hf := h7.caught (.cells #[.bool true, .int .u64 c, .int .u64 x] 37) true c x
    exact ⟨_, res9 _ _ _ _ _ _ _ _ rfl rfl hf.1 hf.2.1, rfl, hf.2.2⟩
end Go.Proofs.YtcjkedgoinbofaaGreat
