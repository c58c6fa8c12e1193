import Derived.Test.YtabhojfdkmeaoabDp
import Derived.Test.YtabhojfdkmeaoabFreeB
namespace Go.Proofs.Ytabhojfdkmeaoab
open Go.RowKit
set_option linter.unusedVariables false
set_option linter.unusedSimpArgs false
/-- The shelf: what is kept, and as it was. -/
structure Shf (w : World) (X sh cnt Mk Mu : Nat) (kv uv : Nat → Value) (kx : Nat → List Int) (kr ur : Value) : Prop where
  c1 : w.cell? ⟨sh, 1, .none⟩ = some kr
  c2 : w.cell? ⟨sh, 2, .none⟩ = some ur
  c3 : w.cell? ⟨sh, 3, .none⟩ = some (.int .i64 cnt)
  fz : ∀ j, w.frozen? ⟨sh, j, .none⟩ = false
  hX : sh < X
  wX : X ≤ w.heap.size
  okr : w.ownsRow X 22 1 kr Mk ((List.range Mk).map kv)
  our : w.ownsRow X 22 1 ur Mu ((List.range Mu).map uv)
  rk : ∀ i, i < Mk → w.ownsRow X 5 1 (kv i) (kx i).length (by8 (kx i))
  ru : ∀ i, i < Mu → w.ownsRow X 5 1 (uv i) (kx i).length (by8 (kx i))
  len : ∀ i, i < Mk → (kx i).length ≤ 512
  ap : Apart Mk kv
  ku : ∀ g, kr.ownBlock = some g → ur.ownBlock ≠ some g
  hu : Mu ≤ Mk
def fpS (Mk Mu : Nat) (kv uv : Nat → Value) (kr ur : Value) (g : Nat) : Prop := kr.ownBlock = some g ∨ ur.ownBlock = some g ∨ (∃ i, i < Mk ∧ (kv i).ownBlock = some g) ∨ ∃ i, i < Mu ∧ (uv i).ownBlock = some g
section
variable {S : Nat → Prop} {w v : World} {X sh cnt Mk Mu : Nat} {kv uv : Nat → Value} {kx : Nat → List Int} {kr ur : Value}
theorem Shf.keep (h : Shf w X sh cnt Mk Mu kv uv kx kr ur) (t : Chg S w v) (hs : ¬ S sh) (hf : ∀ g, fpS Mk Mu kv uv kr ur g → ¬ S g) : Shf v X sh cnt Mk Mu kv uv kx kr ur := by
  have hl : sh < w.heap.size := lt_cell h.c1
  exact ⟨(t.cell (p := ⟨sh, 1, .none⟩) hl hs).trans h.c1, (t.cell (p := ⟨sh, 2, .none⟩) hl hs).trans h.c2, (t.cell (p := ⟨sh, 3, .none⟩) hl hs).trans h.c3, fun j => (t.frozen (p := ⟨sh, j, .none⟩) hl hs).trans (h.fz j), h.hX, Nat.le_trans h.wX t.size,
    t.own h.okr (fun g hg => hf g (.inl hg)), t.own h.our (fun g hg => hf g (.inr (.inl hg))), fun i hi => t.own (h.rk i hi) (fun g hg => hf g (.inr (.inr (.inl ⟨i, hi, hg⟩)))), fun i hi => t.own (h.ru i hi) (fun g hg => hf g (.inr (.inr (.inr ⟨i, hi, hg⟩)))), h.len, h.ap, h.ku, h.hu⟩
theorem Shf.ge (h : Shf w X sh cnt Mk Mu kv uv kx kr ur) : ∀ g, fpS Mk Mu kv uv kr ur g → X ≤ g ∧ g < w.heap.size := by
  intro g hg
  rcases hg with hg | hg | ⟨i, hi, hg⟩ | ⟨i, hi, hg⟩
  · exact ⟨own_block h.okr g hg, own_ltC h.okr g hg⟩
  · exact ⟨own_block h.our g hg, own_ltC h.our g hg⟩
  · exact ⟨own_block (h.rk i hi) g hg, own_ltC (h.rk i hi) g hg⟩
  · exact ⟨own_block (h.ru i hi) g hg, own_ltC (h.ru i hi) g hg⟩
theorem Shf.below (h : Shf w X sh cnt Mk Mu kv uv kx kr ur) (t : Below w.heap.size w v) : Shf v X sh cnt Mk Mu kv uv kx kr ur := h.keep (S := fun _ => False) (Chg.ofBelow t) (fun h => h) (fun _ _ h => h)
theorem sh_froz (h : ∀ j, w.frozen? ⟨sh, j, .none⟩ = false) (o : Nat) (u : Value) : ∀ i, (w.setCell ⟨sh, o, .none⟩ u).frozen? ⟨sh, i, .none⟩ = false := fun i => by
  have := World.frozen?_setCells sh [u] o w ⟨sh, i, .none⟩
  exact this.trans (h i)
theorem size_set (b o : Nat) (u : Value) : (w.setCell ⟨b, o, .none⟩ u).heap.size = w.heap.size := by simp [World.setCell]
theorem Shf.setc (h : Shf w X sh cnt Mk Mu kv uv kx kr ur) (cnt' : Nat) : Shf (w.setCell ⟨sh, 3, .none⟩ (.int .i64 cnt')) X sh cnt' Mk Mu kv uv kx kr ur :=
  ⟨cell_off h.c1 _ _ (by decide), cell_off h.c2 _ _ (by decide), cell_one h.c3 _, sh_froz h.fz _ _, h.hX, by rw [size_set]; exact h.wX, ownsRow_setCell_below h.okr h.hX _, ownsRow_setCell_below h.our h.hX _, fun i hi => ownsRow_setCell_below (h.rk i hi) h.hX _, fun i hi => ownsRow_setCell_below (h.ru i hi) h.hX _, h.len, h.ap, h.ku, h.hu⟩
end
/-- The shelf, with the blocks that it has. -/
def Shel (w : World) (X sh cnt : Nat) (F : Nat → Prop) : Prop := ∃ kv uv kx kr ur, Shf w X sh cnt (cnt / 2) (cnt / 2) kv uv kx kr ur ∧ ∀ g, F g ↔ fpS (cnt / 2) (cnt / 2) kv uv kr ur g
theorem Shel.keep {S F : Nat → Prop} {w v : World} {X sh cnt : Nat} (h : Shel w X sh cnt F) (t : Chg S w v) (hs : ¬ S sh) (hf : ∀ g, F g → ¬ S g) : Shel v X sh cnt F := by
  obtain ⟨kv, uv, kx, kr, ur, h1, h2⟩ := h
  exact ⟨kv, uv, kx, kr, ur, h1.keep t hs (fun g hg => hf g ((h2 g).2 hg)), h2⟩
theorem Shel.ge {F : Nat → Prop} {w : World} {X sh cnt : Nat} (h : Shel w X sh cnt F) : ∀ g, F g → X ≤ g ∧ g < w.heap.size := by
  obtain ⟨kv, uv, kx, kr, ur, h1, h2⟩ := h
  exact fun g hg => h1.ge g ((h2 g).1 hg)
theorem Shel.lt {F : Nat → Prop} {w : World} {X sh cnt : Nat} (h : Shel w X sh cnt F) : sh < X ∧ X ≤ w.heap.size := by
  obtain ⟨kv, uv, kx, kr, ur, h1, h2⟩ := h
  exact ⟨h1.hX, h1.wX⟩
/-- One more row of one kind than was. -/
theorem rng_succ (f : Nat → Value) (M : Nat) : (List.range (M + 1)).map f = (List.range M).map f ++ [f M] := by rw [List.range_succ, List.map_append]; rfl
def upd {α : Type} (f : Nat → α) (M : Nat) (a : α) : Nat → α := fun i => if i = M then a else f i
theorem upd_at {α : Type} (f : Nat → α) (M : Nat) (a : α) : upd f M a M = a := if_pos rfl
theorem upd_lt {α : Type} (f : Nat → α) (M : Nat) (a : α) (i : Nat) (h : i < M) : upd f M a i = f i := if_neg (by omega)
theorem rng_upd (f : Nat → Value) (M : Nat) (a : Value) : (List.range (M + 1)).map (upd f M a) = (List.range M).map f ++ [a] := by
  rw [rng_succ, upd_at]
  congr 1
  exact List.map_congr_left (fun i hi => upd_lt f M a i (List.mem_range.1 hi))
theorem info22 : ∃ i z, Try.prog.info? 22 = some i ∧ i.zero = some z ∧ i.size = 1 ∧ i.bytes = 24 ∧ z.cells.size = 1 := info_ofF 22 24 (by kernel_rfl) (by kernel_rfl)
theorem cell1_new (w : World) (x : Value) (t : TypeId) : ∀ j u, [x][j]? = some u → (w.alloc (.cells #[x] t)).cell? ((⟨w.heap.size, 0, .none⟩ : Addr).add j) = some u := by
  intro j u hj
  rw [le_addr_add, World.cell?_alloc_at _ _ _ _ rfl, Nat.zero_add]
  simpa using hj
theorem wpList_append_at {P : Program} {w : World} {ops : Array Oper} {rest : List Oper} {o : Oper} {a : Act} {Q : Exit → Act → World → Prop} (hgd : o.guard = none) (s x : Operand) (t : TypeId)
    (hop : o.op = .call { callee := .builtin .append, args := #[s, x], argTypes := #[t, t] }) (base : Nat) (e : TypeId) (i : TypeInfo) (z : Value) (size bytes : Nat) (ht : P.underlying t = some (.slice e)) (hi : P.info? e = some i) (hz : i.zero = some z)
    (hsize : i.size = size) (hby : i.bytes = bytes) (hzs : z.cells.size = size) (hsz : 0 < size) (v : Value) (k : Nat) (xs : List Value) (hs : a.eval s = v) (hown : w.ownsRow base e size v k xs)
    (ad : Addr) (m c : Nat) (news : List Value) (hx : a.eval x = .slice (some ad) m c) (hl : news.length = m * size) (hnews : ∀ j u, news[j]? = some u → w.cell? (ad.add j) = some u) (h1 : ∀ u ∈ news, u.oneCell' = true)
    (h63 : k + m ≤ maxLen) (hbytes : (k + m) * bytes ≤ 140737488355328) (hbase : base ≤ w.heap.size)
    (h : ∀ v' w', w'.ownsRow base e size v' (k + m) (xs ++ news) → w.grownBy w' v.ownBlock → (v'.ownBlock = v.ownBlock ∨ v'.ownBlock = some w.heap.size) → wpList P ops Q rest (a.put o.dst v') w') : wpList P ops Q (o :: rest) a w := by
  obtain ⟨v', w', hrun, r1, r2, _, r4⟩ := run_append_own_at (P := P) w base t o.type e i z size bytes ht hi hz hsize hby hzs hsz v k xs hown ad m c news hl hnews h1 h63 hbytes hbase
  refine wpList_plain hgd fun K hK => ?_
  unfold Oper.wp execOp
  simp only [hop, resolve, invoke, builtin, Sem.run_bind, Sem.run_pure, Result.andThen_ok, List.map_toArray, List.map_cons, List.map_nil, hs, hx, hrun]
  exact hK _ _ (h v' w' r1 r2 r4)
/-- Rows of bytes and rows of slices are apart. -/
theorem apart_522 {w : World} {X n k : Nat} {v m : Value} {xs ys : List Value} (hv : w.ownsRow X 5 1 v n xs) (hm : w.ownsRow X 22 1 m k ys) : ∀ g, v.ownBlock = some g → ¬ m.ownBlock = some g := by
  intro g hg e
  rcases kinds_apart1 hv hm (by decide) with h | h
  · rw [hg] at h; cases h
  · exact h (hg.trans e.symm)
section
variable {w U : World} {X sh cnt Mk Mu : Nat} {kv uv : Nat → Value} {kx : Nat → List Int} {kr ur lv kr' : Value} {ls : List Int}
/-- One row more is kept. -/
theorem Shf.pushk (h : Shf w X sh cnt Mk Mu kv uv kx kr ur) (hl : w.ownsRow X 5 1 lv ls.length (by8 ls)) (h5 : ls.length ≤ 512) (hlk : ∀ i, i < Mk → ∀ g, lv.ownBlock = some g → (kv i).ownBlock ≠ some g)
    (t : Chg (fun k => kr.ownBlock = some k) w U) (hO : U.ownsRow X 22 1 kr' (Mk + 1) ((List.range Mk).map kv ++ [lv])) (hb : ∀ g, kr'.ownBlock = some g → kr.ownBlock = some g ∨ w.heap.size ≤ g) :
    Shf (U.setCell ⟨sh, 1, .none⟩ kr') X sh cnt (Mk + 1) Mu (upd kv Mk lv) uv (upd kx Mk ls) kr' ur := by
  have hlt : sh < w.heap.size := lt_cell h.c1
  have hns : ¬ kr.ownBlock = some sh := fun e => by have := own_block h.okr sh e; have := h.hX; omega
  have hu := h.hu
  have c1 := (t.cell (p := ⟨sh, 1, .none⟩) hlt hns).trans h.c1
  have c2 := (t.cell (p := ⟨sh, 2, .none⟩) hlt hns).trans h.c2
  have c3 := (t.cell (p := ⟨sh, 3, .none⟩) hlt hns).trans h.c3
  refine ⟨cell_one c1 _, cell_off c2 _ _ (by decide), cell_off c3 _ _ (by decide), sh_froz (fun j => (t.frozen (p := ⟨sh, j, .none⟩) hlt hns).trans (h.fz j)) _ _, h.hX, by rw [size_set]; exact Nat.le_trans h.wX t.size, ?_, ?_, fun i hi => ?_, fun i hi => ?_, fun i hi => ?_, fun i j hi hj hij g hg => ?_, fun g hg e => ?_, by omega⟩
  · rw [rng_upd]
    exact ownsRow_setCell_below hO h.hX _
  · exact ownsRow_setCell_below (t.own h.our (fun g hg e => h.ku g e hg)) h.hX _
  · by_cases e : i = Mk
    · subst e
      rw [upd_at, upd_at]
      exact ownsRow_setCell_below (t.own hl (fun g hg => apart_522 hl h.okr g hg)) h.hX _
    · rw [upd_lt _ _ _ i (by omega), upd_lt _ _ _ i (by omega)]
      exact ownsRow_setCell_below (t.own (h.rk i (by omega)) (fun g hg => apart_522 (h.rk i (by omega)) h.okr g hg)) h.hX _
  · rw [upd_lt _ _ _ i (by omega)]
    exact ownsRow_setCell_below (t.own (h.ru i hi) (fun g hg => apart_522 (h.ru i hi) h.okr g hg)) h.hX _
  · by_cases e : i = Mk
    · subst e; rw [upd_at]; exact h5
    · rw [upd_lt _ _ _ i (by omega)]; exact h.len i (by omega)
  · by_cases ei : i = Mk
    · subst ei
      rw [upd_at] at hg
      rw [upd_lt _ _ _ j (by omega)]
      exact hlk j (by omega) g hg
    · rw [upd_lt _ _ _ i (by omega)] at hg
      by_cases ej : j = Mk
      · subst ej
        rw [upd_at]
        exact fun e => hlk i (by omega) g e hg
      · rw [upd_lt _ _ _ j (by omega)]
        exact h.ap i j (by omega) (by omega) hij g hg
  · rcases hb g hg with h1 | h1
    · exact h.ku g h1 e
    · have := own_ltC h.our g e
      omega
/-- And one as it was. -/
theorem Shf.pushu {ur' cv : Value} (h : Shf w X sh cnt Mk Mu kv uv kx kr ur) (hm : Mu < Mk) (hl : w.ownsRow X 5 1 cv (kx Mu).length (by8 (kx Mu)))
    (t : Chg (fun k => ur.ownBlock = some k) w U) (hO : U.ownsRow X 22 1 ur' (Mu + 1) ((List.range Mu).map uv ++ [cv])) (hb : ∀ g, ur'.ownBlock = some g → ur.ownBlock = some g ∨ w.heap.size ≤ g) :
    Shf (U.setCell ⟨sh, 2, .none⟩ ur') X sh cnt Mk (Mu + 1) kv (upd uv Mu cv) kx kr ur' := by
  have hlt : sh < w.heap.size := lt_cell h.c1
  have hns : ¬ ur.ownBlock = some sh := fun e => by have := own_block h.our sh e; have := h.hX; omega
  have c1 := (t.cell (p := ⟨sh, 1, .none⟩) hlt hns).trans h.c1
  have c2 := (t.cell (p := ⟨sh, 2, .none⟩) hlt hns).trans h.c2
  have c3 := (t.cell (p := ⟨sh, 3, .none⟩) hlt hns).trans h.c3
  refine ⟨cell_off c1 _ _ (by decide), cell_one c2 _, cell_off c3 _ _ (by decide), sh_froz (fun j => (t.frozen (p := ⟨sh, j, .none⟩) hlt hns).trans (h.fz j)) _ _, h.hX, by rw [size_set]; exact Nat.le_trans h.wX t.size, ?_, ?_, fun i hi => ?_, fun i hi => ?_, h.len, h.ap, fun g hg e => ?_, by omega⟩
  · exact ownsRow_setCell_below (t.own h.okr (fun g hg e => h.ku g hg e)) h.hX _
  · rw [rng_upd]
    exact ownsRow_setCell_below hO h.hX _
  · exact ownsRow_setCell_below (t.own (h.rk i hi) (fun g hg => apart_522 (h.rk i hi) h.our g hg)) h.hX _
  · by_cases e : i = Mu
    · subst e
      rw [upd_at]
      exact ownsRow_setCell_below (t.own hl (fun g hg => apart_522 hl h.our g hg)) h.hX _
    · rw [upd_lt _ _ _ i (by omega)]
      exact ownsRow_setCell_below (t.own (h.ru i (by omega)) (fun g hg => apart_522 (h.ru i (by omega)) h.our g hg)) h.hX _
  · rcases hb g e with h1 | h1
    · exact h.ku g hg h1
    · have := own_ltC h.okr g hg
      omega
end
theorem free_nil (w : World) : Calls Try.prog 31 #[.slice none 0 0] w fun e w' => e = .returned (.bool true) ∧ w' = w := by
  go_enter Try.func31, Try.ntmps31
  go_wp2
  go_loopw [3] (fun i wr => i = .int .i64 0 ∧ wr = w) (fun _ _ => 0)
  case atStart => exact ⟨rfl, rfl⟩
  case round =>
    obtain ⟨rfl, rfl⟩ := hrel
    go_wp2
    go_loopw [5, 6] (fun mo i wx => mo = .slice none 0 0 ∧ i = .int .i64 0 ∧ wx = wr) (fun _ _ _ => 0)
    case atStart => exact ⟨rfl, rfl, rfl⟩
    case round =>
      obtain ⟨rfl, rfl, rfl⟩ := hrel
      go_wp2
      go_loopw [9] (fun i wx => i = .int .i64 0 ∧ wx = wr) (fun _ _ => 0)
      case atStart => exact ⟨rfl, rfl⟩
      case round =>
        obtain ⟨rfl, rfl⟩ := hrel
        go_wp2
        go_ret
        exact ⟨rfl, rfl⟩
end Go.Proofs.Ytabhojfdkmeaoab
