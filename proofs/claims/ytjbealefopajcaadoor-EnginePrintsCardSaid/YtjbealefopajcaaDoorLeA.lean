import Derived.Test.YtjbealefopajcaaDoorRows
import Derived.WalkKit
import Derived.WalkSpells
import Derived.RowKit3
import Derived.Deep.QuietTactic
import Derived.BigQuiet
import Derived.WalkSmall
import Derived.Below
import Derived.Deep.Heap
import Derived.Laws.AppendOwn
import Derived.Laws.OwnMore
import Derived.RegionTactic
import Derived.BigRegion
namespace Go.Proofs.YtjbealefopajcaaDoor
open Go.RowKit
set_option linter.unusedVariables false
set_option linter.unusedSimpArgs false
theorem info_of (t : TypeId) (k b : Nat) (h1 : (Tryd.prog.info? t).map (fun i => (i.size, i.bytes)) = some (k, b)) (h2 : ((Tryd.prog.info? t).bind (·.zero)).map (·.cells.size) = some k) :
    ∃ i z, Tryd.prog.info? t = some i ∧ i.zero = some z ∧ i.size = k ∧ i.bytes = b ∧ z.cells.size = k := by
  cases hi : Tryd.prog.info? t with
  | none => rw [hi] at h1; cases h1
  | some i =>
    rw [hi] at h1 h2
    simp only [Option.map_some, Option.some.injEq, Prod.mk.injEq, Option.bind_some] at h1 h2
    cases hz : i.zero with
    | none => rw [hz] at h2; cases h2
    | some z =>
      rw [hz] at h2
      exact ⟨i, z, rfl, hz, h1.1, h1.2, by simpa using h2⟩
theorem byte_info : ∃ i z, Tryd.prog.info? 5 = some i ∧ i.zero = some z ∧ i.size = 1 ∧ i.bytes = 1 ∧ z.cells.size = 1 := info_of 5 1 1 (by kernel_rfl) (by kernel_rfl)
theorem le_addr_add (b o j : Nat) : (⟨b, o, .none⟩ : Addr).add j = ⟨b, o + j, .none⟩ := by unfold Addr.add; split <;> simp_all
theorem heap_new (w : World) (o : Obj) : (w.alloc o).heap[w.heap.size]? = some o := by
  rw [World.alloc]
  simp
theorem below_append {B : Nat} {a w w' : World} {row : Option Nat} (h : Below B a w) (o : Obj) (hg : (w.alloc o).grownBy w' row) (hB : B ≤ w.heap.size) (hr : ∀ k, row = some k → B ≤ k) : Below B a w' :=
  (h.alloc hB o).grown hg (by simp only [World.size_alloc]; omega) hr
theorem own_block {w : World} {base e n sz : Nat} {v : Value} {xs : List Value} (h : w.ownsRow base e sz v n xs) : ∀ k, v.ownBlock = some k → base ≤ k := by
  intro k hk
  rcases h.2 with ⟨rfl, rfl⟩ | ⟨g, cap, cur, rfl, hb, _⟩
  · cases hk
  · simp only [Value.ownBlock, Option.some.injEq] at hk; omega
theorem one_slice {w : World} {base e n sz : Nat} {m : Value} {zs : List Value} (h : w.ownsRow base e sz m n zs) : ∃ p c, m = .slice p n c := by
  rcases h.2 with ⟨rfl, rfl⟩ | ⟨g, cap, cur, rfl, _⟩
  · exact ⟨_, _, rfl⟩
  · exact ⟨_, _, rfl⟩
theorem own_mono {w : World} {b b' e k n : Nat} {v : Value} {xs : List Value} (h : w.ownsRow b e k v n xs) (hb : b' ≤ b) : w.ownsRow b' e k v n xs := by
  refine ⟨h.1, ?_⟩
  rcases h.2 with h | ⟨g, cap, cur, h1, h2, h3⟩
  · exact .inl h
  · exact .inr ⟨g, cap, cur, h1, by omega, h3⟩
/-- A row of bytes. -/
def by8 (xs : List Int) : List Value := xs.map (.int .u8)
theorem by8_len (xs : List Int) : (by8 xs).length = xs.length := by simp [by8]
theorem by8_app (xs ys : List Int) : by8 (xs ++ ys) = by8 xs ++ by8 ys := by simp [by8]
theorem by8_get {xs : List Int} {i : Nat} {x : Int} (h : xs[i]? = some x) : (by8 xs)[i]? = some (.int .u8 x) := by simp [by8, h]
theorem by8_one (xs : List Int) : ∀ u ∈ by8 xs, u.oneCell' = true := by
  intro u hu
  simp only [by8, List.mem_map] at hu
  obtain ⟨x, _, rfl⟩ := hu
  rfl
/-- A slice shows these bytes. -/
def Byt (w : World) (p : Option Addr) (n c : Nat) (xs : List Int) : Prop :=
  xs.length = n ∧ n ≤ c ∧ c ≤ maxLen ∧ (n = 0 ∨ ∃ b o, p = some ⟨b, o, .none⟩ ∧ b < w.heap.size ∧ ∀ i x, xs[i]? = some x → w.cell? ⟨b, o + i, .none⟩ = some (.int .u8 x))
theorem byt_keep {B : Nat} {w w' : World} {p : Option Addr} {n c : Nat} {xs : List Int} (h : Byt w p n c xs) (hb : Below B w w') (hp : ∀ b o, p = some ⟨b, o, .none⟩ → b < B) : Byt w' p n c xs := by
  obtain ⟨h1, h2, h3, h4⟩ := h
  refine ⟨h1, h2, h3, ?_⟩
  rcases h4 with h4 | ⟨b, o, rfl, h5, h6⟩
  · exact .inl h4
  · exact .inr ⟨b, o, rfl, Nat.lt_of_lt_of_le h5 hb.size, fun i x hx => (hb.cell (hp b o rfl)).trans (h6 i x hx)⟩
theorem byt_lt {w : World} {p : Option Addr} {n c : Nat} {xs : List Int} (h : Byt w p n c xs) (hn : 0 < n) : ∀ b o, p = some ⟨b, o, .none⟩ → b < w.heap.size := by
  intro b o hp
  rcases h.2.2.2 with h4 | ⟨b', o', h4, h5, _⟩
  · omega
  · rw [hp] at h4
    simp only [Option.some.injEq, Addr.mk.injEq, and_true] at h4
    omega
theorem byt_own {w : World} {base : Nat} {p : Option Addr} {n c : Nat} {xs : List Int} (h : w.ownsRow base 5 1 (.slice p n c) n (by8 xs)) : Byt w p n c xs := by
  have hl : xs.length = n := by have := h.1; rw [by8_len] at this; omega
  rcases h.2 with ⟨hv, h0⟩ | ⟨g, cap, cur, hv, hb, hg, hn, hm, _⟩
  · simp only [Value.slice.injEq] at hv
    obtain ⟨rfl, _, rfl⟩ := hv
    exact ⟨hl, by omega, by decide, .inl h0⟩
  · simp only [Value.slice.injEq, true_and] at hv
    obtain ⟨rfl, rfl⟩ := hv
    refine ⟨hl, hn, hm, .inr ⟨g, 0, rfl, (Array.getElem?_eq_some_iff.1 hg).1, fun i x hx => ?_⟩⟩
    have := h.cells (g := g) rfl i _ (by8_get hx)
    rwa [le_addr_add] at this
set_option maxHeartbeats 4000000 in
set_option maxRecDepth 100000 in
theorem bytes_any (p1 p2 : Option Addr) (n c1 c2 : Nat) (xs : List Int) (w : World) (hn : n < 140737488355000) (h1 : Byt w p1 n c1 xs) (h2 : Byt w p2 n c2 xs) :
    Calls Tryd.prog 35 #[.slice p1 n c1, .slice p2 n c2] w fun e w' => e = .returned (.bool true) ∧ ∃ k, w' = w.drewN k := by
  obtain ⟨hl, k1, m1, h1⟩ := h1
  obtain ⟨_, k2, m2, h2⟩ := h2
  have m1 : c1 ≤ 9223372036854775807 := m1
  have m2 : c2 ≤ 9223372036854775807 := m2
  have HX : Hid (xs.length = n) := hl
  by_cases h0 : n = 0
  · subst h0
    clear h1 h2 hl
    go_enter Tryd.func35, Tryd.ntmps35
    go_wp2
    go_loopw [5] (fun k wr => k = .int .i64 0 ∧ wr = w) (fun _ _ => 0)
    case atStart => exact ⟨rfl, rfl⟩
    case round =>
      obtain ⟨rfl, rfl⟩ := hrel
      go_wp2
      go_ret
      exact ⟨rfl, 0, rfl⟩
  · rcases h1 with h1 | ⟨b1, o1, rfl, _, h1⟩
    · omega
    rcases h2 with h2 | ⟨b2, o2, rfl, _, h2⟩
    · omega
    have H1 : Hid (∀ i x, xs[i]? = some x → w.cell? ⟨b1, o1 + i, .none⟩ = some (.int .u8 x)) := h1
    have H2 : Hid (∀ i x, xs[i]? = some x → w.cell? ⟨b2, o2 + i, .none⟩ = some (.int .u8 x)) := h2
    clear h1 h2 hl h0
    go_enter Tryd.func35, Tryd.ntmps35
    go_wp2
    go_loopw [5] (fun k wr => ∃ i : Nat, i ≤ n ∧ k = .int .i64 i ∧ ∃ j, wr = w.drewN j) (fun k _ => (n - intOf k).toNat)
    case atStart => exact ⟨0, by omega, rfl, 0, rfl⟩
    case round =>
      obtain ⟨i, hi, rfl, j, rfl⟩ := hrel
      by_cases hlt : i < n
      · have g0 : (i : Int) < n := by omega
        have hx : ∃ x, xs[i]? = some x := ⟨xs[i]'(by rw [HX.out]; exact hlt), by simp⟩
        obtain ⟨x, hx⟩ := hx
        have a0 := H1.out i x hx
        have b0 := H2.out i x hx
        clear hx
        go_wp2
        go_region
        go_wp2
        exact ⟨⟨i + 1, by omega, rfl, j + 1, rfl⟩, by simp only [intOf]; omega⟩
      · obtain rfl : i = n := by omega
        clear hi hlt
        go_wp2
        go_ret
        exact ⟨rfl, j, rfl⟩
theorem run_append_zero (p : Option Addr) (c : Nat) (ty : TypeId) (w : World) : (Builtin.append_ #[41, 41] ty #[.slice none 0 0, .slice p 0 c]).run Tryd.prog w = .ok (.slice none 0 0) w := by
  obtain ⟨i, z, hi, _⟩ := byte_info
  cases p <;> simp [Builtin.append_, run_underlying Tryd.underlying41, sizeOf, typeInfo, hi, Builtin.lenOf, Builtin.firstCells, loadCells, loadCellsFrom]
theorem wpList_append_zero {w : World} {ops : Array Oper} {rest : List Oper} {o : Oper} {a : Act} {Q : Exit → Act → World → Prop} (hgd : o.guard = none) (s x : Operand)
    (ho : o.op = .call { callee := .builtin .append, args := #[s, x], argTypes := #[41, 41] }) (p : Option Addr) (c : Nat) (hs : a.eval s = .slice none 0 0) (hx : a.eval x = .slice p 0 c)
    (h : wpList Tryd.prog ops Q rest (a.put o.dst (.slice none 0 0)) w) : wpList Tryd.prog ops Q (o :: rest) a w := by
  refine wpList_plain hgd fun K hK => ?_
  unfold Oper.wp execOp
  simp only [ho, resolve, invoke, builtin, Sem.run_bind, Sem.run_pure, Result.andThen_ok, List.map_toArray, List.map_cons, List.map_nil, hs, hx, run_append_zero]
  exact hK _ _ h
/-- A call has handed back a row of bytes of its own. -/
def Gb (xs : List Int) (w : World) (e : Ending) (w' : World) : Prop :=
  ∃ p c, e = .returned (.slice p xs.length c) ∧ w'.ownsRow w.heap.size 5 1 (.slice p xs.length c) xs.length (by8 xs) ∧ Below w.heap.size w w'
theorem gb_nil (w : World) : Gb [] w (.returned (.slice none 0 0)) w := ⟨none, 0, rfl, World.ownsRow_nil _ _ _ _, Below.refl _ _⟩
theorem byt_cells {w : World} {b o : Nat} {xs : List Int} (h : ∀ i x, xs[i]? = some x → w.cell? ⟨b, o + i, .none⟩ = some (.int .u8 x)) : ∀ j u, (by8 xs)[j]? = some u → w.cell? ((⟨b, o, .none⟩ : Addr).add j) = some u := by
  intro j u hj
  rw [le_addr_add]
  simp only [by8, List.getElem?_map, Option.map_eq_some_iff] at hj
  obtain ⟨x, hx, rfl⟩ := hj
  exact h j x hx
end Go.Proofs.YtjbealefopajcaaDoor
