import Derived.Test.YtnghcadhilfgnaaRows
import Derived.WalkKit
import Derived.WalkSpells
import Derived.RowKit3
import Derived.Deep.QuietTactic
import Derived.BigQuiet
import Derived.WalkSmall
import Derived.Below
import Derived.Deep.Heap
import Derived.Laws.AppendOwn
import Derived.Laws.OwnMore
import Derived.RegionTactic
import Derived.BigRegion
import Derived.Laws.MakeOwn
import Derived.Test.YtnghcadhilfgnaaRfC
import Derived.Test.YtnghcadhilfgnaaPC
import Derived.OneCell
namespace Go.Proofs.Ytnghcadhilfgnaa
open Go.RowKit
set_option linter.unusedVariables false
set_option linter.unusedSimpArgs false
theorem info_of (t : TypeId) (k b : Nat) (h1 : (Try.prog.info? t).map (fun i => (i.size, i.bytes)) = some (k, b)) (h2 : ((Try.prog.info? t).bind (·.zero)).map (·.cells.size) = some k) :
    ∃ i z, Try.prog.info? t = some i ∧ i.zero = some z ∧ i.size = k ∧ i.bytes = b ∧ z.cells.size = k := by
  cases hi : Try.prog.info? t with
  | none => rw [hi] at h1; cases h1
  | some i =>
    rw [hi] at h1 h2
    simp only [Option.map_some, Option.some.injEq, Prod.mk.injEq, Option.bind_some] at h1 h2
    cases hz : i.zero with
    | none => rw [hz] at h2; cases h2
    | some z =>
      rw [hz] at h2
      exact ⟨i, z, rfl, hz, h1.1, h1.2, by simpa using h2⟩
theorem byte_info : ∃ i z, Try.prog.info? 5 = some i ∧ i.zero = some z ∧ i.size = 1 ∧ i.bytes = 1 ∧ z.cells.size = 1 := info_of 5 1 1 (by kernel_rfl) (by kernel_rfl)
theorem le_addr_add (b o j : Nat) : (⟨b, o, .none⟩ : Addr).add j = ⟨b, o + j, .none⟩ := by unfold Addr.add; split <;> simp_all
theorem heap_new (w : World) (o : Obj) : (w.alloc o).heap[w.heap.size]? = some o := by
  rw [World.alloc]
  simp
theorem below_append {B : Nat} {a w w' : World} {row : Option Nat} (h : Below B a w) (o : Obj) (hg : (w.alloc o).grownBy w' row) (hB : B ≤ w.heap.size) (hr : ∀ k, row = some k → B ≤ k) : Below B a w' :=
  (h.alloc hB o).grown hg (by simp only [World.size_alloc]; omega) hr
theorem own_block {w : World} {base e n sz : Nat} {v : Value} {xs : List Value} (h : w.ownsRow base e sz v n xs) : ∀ k, v.ownBlock = some k → base ≤ k := by
  intro k hk
  rcases h.2 with ⟨rfl, rfl⟩ | ⟨g, cap, cur, rfl, hb, _⟩
  · cases hk
  · simp only [Value.ownBlock, Option.some.injEq] at hk; omega
theorem one_slice {w : World} {base e n sz : Nat} {m : Value} {zs : List Value} (h : w.ownsRow base e sz m n zs) : ∃ p c, m = .slice p n c := by
  rcases h.2 with ⟨rfl, rfl⟩ | ⟨g, cap, cur, rfl, _⟩
  · exact ⟨_, _, rfl⟩
  · exact ⟨_, _, rfl⟩
theorem own_mono {w : World} {b b' e k n : Nat} {v : Value} {xs : List Value} (h : w.ownsRow b e k v n xs) (hb : b' ≤ b) : w.ownsRow b' e k v n xs := by
  refine ⟨h.1, ?_⟩
  rcases h.2 with h | ⟨g, cap, cur, h1, h2, h3⟩
  · exact .inl h
  · exact .inr ⟨g, cap, cur, h1, by omega, h3⟩
/-- A row of bytes. -/
def by8 (xs : List Int) : List Value := xs.map (.int .u8)
theorem by8_len (xs : List Int) : (by8 xs).length = xs.length := by simp [by8]
theorem by8_app (xs ys : List Int) : by8 (xs ++ ys) = by8 xs ++ by8 ys := by simp [by8]
theorem by8_get {xs : List Int} {i : Nat} {x : Int} (h : xs[i]? = some x) : (by8 xs)[i]? = some (.int .u8 x) := by simp [by8, h]
theorem by8_one (xs : List Int) : ∀ u ∈ by8 xs, u.oneCell' = true := by
  intro u hu
  simp only [by8, List.mem_map] at hu
  obtain ⟨x, _, rfl⟩ := hu
  rfl
/-- A slice shows these bytes. -/
def Byt (w : World) (p : Option Addr) (n c : Nat) (xs : List Int) : Prop :=
  xs.length = n ∧ n ≤ c ∧ c ≤ maxLen ∧ (n = 0 ∨ ∃ b o, p = some ⟨b, o, .none⟩ ∧ b < w.heap.size ∧ ∀ i x, xs[i]? = some x → w.cell? ⟨b, o + i, .none⟩ = some (.int .u8 x))
theorem byt_keep {B : Nat} {w w' : World} {p : Option Addr} {n c : Nat} {xs : List Int} (h : Byt w p n c xs) (hb : Below B w w') (hp : ∀ b o, p = some ⟨b, o, .none⟩ → b < B) : Byt w' p n c xs := by
  obtain ⟨h1, h2, h3, h4⟩ := h
  refine ⟨h1, h2, h3, ?_⟩
  rcases h4 with h4 | ⟨b, o, rfl, h5, h6⟩
  · exact .inl h4
  · exact .inr ⟨b, o, rfl, Nat.lt_of_lt_of_le h5 hb.size, fun i x hx => (hb.cell (hp b o rfl)).trans (h6 i x hx)⟩
theorem byt_lt {w : World} {p : Option Addr} {n c : Nat} {xs : List Int} (h : Byt w p n c xs) (hn : 0 < n) : ∀ b o, p = some ⟨b, o, .none⟩ → b < w.heap.size := by
  intro b o hp
  rcases h.2.2.2 with h4 | ⟨b', o', h4, h5, _⟩
  · omega
  · rw [hp] at h4
    simp only [Option.some.injEq, Addr.mk.injEq, and_true] at h4
    omega
theorem byt_own {w : World} {base : Nat} {p : Option Addr} {n c : Nat} {xs : List Int} (h : w.ownsRow base 5 1 (.slice p n c) n (by8 xs)) : Byt w p n c xs := by
  have hl : xs.length = n := by have := h.1; rw [by8_len] at this; omega
  rcases h.2 with ⟨hv, h0⟩ | ⟨g, cap, cur, hv, hb, hg, hn, hm, _⟩
  · simp only [Value.slice.injEq] at hv
    obtain ⟨rfl, _, rfl⟩ := hv
    exact ⟨hl, by omega, by decide, .inl h0⟩
  · simp only [Value.slice.injEq, true_and] at hv
    obtain ⟨rfl, rfl⟩ := hv
    refine ⟨hl, hn, hm, .inr ⟨g, 0, rfl, (Array.getElem?_eq_some_iff.1 hg).1, fun i x hx => ?_⟩⟩
    have := h.cells (g := g) rfl i _ (by8_get hx)
    rwa [le_addr_add] at this
set_option maxHeartbeats 4000000 in
set_option maxRecDepth 100000 in
theorem bytes_any (p1 p2 : Option Addr) (n c1 c2 : Nat) (xs : List Int) (w : World) (hn : n < 140737488355000) (h1 : Byt w p1 n c1 xs) (h2 : Byt w p2 n c2 xs) :
    Calls Try.prog 32 #[.slice p1 n c1, .slice p2 n c2] w fun e w' => e = .returned (.bool true) ∧ ∃ k, w' = w.drewN k := by
  obtain ⟨hl, k1, m1, h1⟩ := h1
  obtain ⟨_, k2, m2, h2⟩ := h2
  have m1 : c1 ≤ 9223372036854775807 := m1
  have m2 : c2 ≤ 9223372036854775807 := m2
  have HX : Hid (xs.length = n) := hl
  by_cases h0 : n = 0
  · subst h0
    clear h1 h2 hl
    go_enter Try.func32, Try.ntmps32
    go_wp2
    go_loopw [5] (fun k wr => k = .int .i64 0 ∧ wr = w) (fun _ _ => 0)
    case atStart => exact ⟨rfl, rfl⟩
    case round =>
      obtain ⟨rfl, rfl⟩ := hrel
      go_wp2
      go_ret
      exact ⟨rfl, 0, rfl⟩
  · rcases h1 with h1 | ⟨b1, o1, rfl, _, h1⟩
    · omega
    rcases h2 with h2 | ⟨b2, o2, rfl, _, h2⟩
    · omega
    have H1 : Hid (∀ i x, xs[i]? = some x → w.cell? ⟨b1, o1 + i, .none⟩ = some (.int .u8 x)) := h1
    have H2 : Hid (∀ i x, xs[i]? = some x → w.cell? ⟨b2, o2 + i, .none⟩ = some (.int .u8 x)) := h2
    clear h1 h2 hl h0
    go_enter Try.func32, Try.ntmps32
    go_wp2
    go_loopw [5] (fun k wr => ∃ i : Nat, i ≤ n ∧ k = .int .i64 i ∧ ∃ j, wr = w.drewN j) (fun k _ => (n - intOf k).toNat)
    case atStart => exact ⟨0, by omega, rfl, 0, rfl⟩
    case round =>
      obtain ⟨i, hi, rfl, j, rfl⟩ := hrel
      by_cases hlt : i < n
      · have g0 : (i : Int) < n := by omega
        have hx : ∃ x, xs[i]? = some x := ⟨xs[i]'(by rw [HX.out]; exact hlt), by simp⟩
        obtain ⟨x, hx⟩ := hx
        have a0 := H1.out i x hx
        have b0 := H2.out i x hx
        clear hx
        go_wp2
        go_region
        go_wp2
        exact ⟨⟨i + 1, by omega, rfl, j + 1, rfl⟩, by simp only [intOf]; omega⟩
      · obtain rfl : i = n := by omega
        clear hi hlt
        go_wp2
        go_ret
        exact ⟨rfl, j, rfl⟩
theorem run_append_zero (p : Option Addr) (c : Nat) (ty : TypeId) (w : World) : (Builtin.append_ #[27, 27] ty #[.slice none 0 0, .slice p 0 c]).run Try.prog w = .ok (.slice none 0 0) w := by
  obtain ⟨i, z, hi, _⟩ := byte_info
  cases p <;> simp [Builtin.append_, run_underlying Try.underlying27, sizeOf, typeInfo, hi, Builtin.lenOf, Builtin.firstCells, loadCells, loadCellsFrom]
theorem wpList_append_zero {w : World} {ops : Array Oper} {rest : List Oper} {o : Oper} {a : Act} {Q : Exit → Act → World → Prop} (hgd : o.guard = none) (s x : Operand)
    (ho : o.op = .call { callee := .builtin .append, args := #[s, x], argTypes := #[27, 27] }) (p : Option Addr) (c : Nat) (hs : a.eval s = .slice none 0 0) (hx : a.eval x = .slice p 0 c)
    (h : wpList Try.prog ops Q rest (a.put o.dst (.slice none 0 0)) w) : wpList Try.prog ops Q (o :: rest) a w := by
  refine wpList_plain hgd fun K hK => ?_
  unfold Oper.wp execOp
  simp only [ho, resolve, invoke, builtin, Sem.run_bind, Sem.run_pure, Result.andThen_ok, List.map_toArray, List.map_cons, List.map_nil, hs, hx, run_append_zero]
  exact hK _ _ h
/-- A call has handed back a row of bytes of its own. -/
def Gb (xs : List Int) (w : World) (e : Ending) (w' : World) : Prop :=
  ∃ p c, e = .returned (.slice p xs.length c) ∧ w'.ownsRow w.heap.size 5 1 (.slice p xs.length c) xs.length (by8 xs) ∧ Below w.heap.size w w'
theorem gb_nil (w : World) : Gb [] w (.returned (.slice none 0 0)) w := ⟨none, 0, rfl, World.ownsRow_nil _ _ _ _, Below.refl _ _⟩
theorem byt_cells {w : World} {b o : Nat} {xs : List Int} (h : ∀ i x, xs[i]? = some x → w.cell? ⟨b, o + i, .none⟩ = some (.int .u8 x)) : ∀ j u, (by8 xs)[j]? = some u → w.cell? ((⟨b, o, .none⟩ : Addr).add j) = some u := by
  intro j u hj
  rw [le_addr_add]
  simp only [by8, List.getElem?_map, Option.map_eq_some_iff] at hj
  obtain ⟨x, hx, rfl⟩ := hj
  exact h j x hx
end Go.Proofs.Ytnghcadhilfgnaa
namespace Go.Proofs.Ytnghcadhilfgnaa
open Go.RowKit
set_option linter.unusedVariables false
set_option linter.unusedSimpArgs false
theorem le_cell1_new (w : World) (x : Int) (t : TypeId) : ∀ j u, (by8 [x])[j]? = some u → (w.alloc (.cells #[.int .u8 x] t)).cell? ((⟨w.heap.size, 0, .none⟩ : Addr).add j) = some u := by
  intro j u hj
  rw [le_addr_add, World.cell?_alloc_at _ _ _ _ rfl, Nat.zero_add]
  simpa [by8] using hj
theorem take_next {xs : List Int} {i : Nat} {x : Int} (h : xs[i]? = some x) : xs.take i ++ [x] = xs.take (i + 1) := by
  rw [List.take_add_one, h]
  rfl
/-- The marks behind what is lent. -/
def marks : List Int := (List.range 64).map fun (i : Nat) => (160 : Int) + (i : Int)
theorem marks_len : marks.length = 64 := by decide
theorem marks_get (i : Nat) (h : i < 64) : marks[i]? = some (160 + (i : Int)) := by simp [marks, h]
/-- What is lent: the bytes, and the marks in the room behind. -/
def Lent (w : World) (base g c : Nat) (xs : List Int) : Prop := w.ownsRow base 5 1 (.slice (some ⟨g, 0, .none⟩) (xs.length + 64) c) (xs.length + 64) (by8 (xs ++ marks))
theorem own_zero (w : World) (n : Nat) (zs : Array Value) (hn : zs.size = n) (hm : n ≤ maxLen) : (w.alloc (.cells zs 5)).ownsRow w.heap.size 5 1 (.slice (some ⟨w.heap.size, 0, .none⟩) 0 n) 0 [] :=
  ⟨rfl, .inr ⟨w.heap.size, n, zs, rfl, Nat.le_refl _, heap_new _ _, Nat.zero_le _, hm, by omega, by simp⟩⟩
theorem own_cap {w : World} {base e sz n c g : Nat} {xs : List Value} (h : w.ownsRow base e sz (.slice (some ⟨g, 0, .none⟩) n c) n xs) : n ≤ c ∧ c ≤ maxLen := by
  rcases h.2 with ⟨hv, _⟩ | ⟨g', cap, cur, hv, hb, hg, hn, hm, _⟩
  · cases hv
  · simp only [Value.slice.injEq, true_and] at hv
    obtain ⟨_, rfl⟩ := hv
    exact ⟨hn, hm⟩
theorem own_lt {w : World} {base e sz n c g : Nat} {xs : List Value} (h : w.ownsRow base e sz (.slice (some ⟨g, 0, .none⟩) n c) n xs) : g < w.heap.size := by
  rcases h.2 with ⟨hv, _⟩ | ⟨g', cap, cur, hv, hb, hg, _⟩
  · cases hv
  · simp only [Value.slice.injEq, Option.some.injEq, Addr.mk.injEq, and_true, true_and] at hv
    obtain ⟨rfl, rfl⟩ := hv
    exact (Array.getElem?_eq_some_iff.1 hg).1
theorem own_someL {w : World} {base e sz n c : Nat} {p : Option Addr} {xs : List Value} (h : w.ownsRow base e sz (.slice p (n + 1) c) (n + 1) xs) : ∃ g, p = some ⟨g, 0, .none⟩ := by
  rcases h.2 with ⟨_, h0⟩ | ⟨g, cap, cur, hv, _⟩
  · omega
  · simp only [Value.slice.injEq] at hv
    exact ⟨g, hv.1⟩
set_option maxHeartbeats 4000000 in
set_option maxRecDepth 100000 in
theorem lend_any {p : Option Addr} {n c : Nat} {xs : List Int} {w : World} (h : Byt w p n c xs) (hn : n < 140737488355000) :
    Calls Try.prog 55 #[.slice p n c] w fun e w' => ∃ g cg, e = .returned (.slice (some ⟨g, 0, .none⟩) n cg) ∧ Lent w' w.heap.size g cg xs ∧ Below w.heap.size w w' := by
  obtain ⟨hl, k1, m1, h1⟩ := h
  have m1 : c ≤ 9223372036854775807 := m1
  have HX : Hid (xs.length = n) := hl
  obtain ⟨i3, z3, hi3, hz3, hs3, hb3, hzs3⟩ := byte_info
  have HI : Hid (Try.prog.info? 5 = some i3 ∧ i3.zero = some z3 ∧ i3.size = 1 ∧ i3.bytes = 1 ∧ z3.cells.size = 1) := ⟨hi3, hz3, hs3, hb3, hzs3⟩
  clear hi3 hz3 hs3 hb3 hzs3
  have H1 : Hid (∀ i x, xs[i]? = some x → ∃ b1 o1, p = some ⟨b1, o1, .none⟩ ∧ b1 < w.heap.size ∧ w.cell? ⟨b1, o1 + i, .none⟩ = some (.int .u8 x)) := by
    intro i x hx
    rcases h1 with h1 | ⟨b1, o1, h2, hb, h3⟩
    · rw [List.getElem?_eq_none (by omega)] at hx
      cases hx
    · exact ⟨b1, o1, h2, hb, h3 i x hx⟩
  clear h1 hl
  obtain ⟨w1, hmk, own1, gr1⟩ := run_make_own (P := Try.prog) w w.heap.size 27 5 i3 z3 1 Try.underlying27 HI.out.1 HI.out.2.1 HI.out.2.2.1 .i64 .i64 (n + 64) (by rw [HI.out.2.2.2.1]; omega) (by simp only [maxLen]; omega) (Nat.le_refl _)
  have hmk : (Instr.makeSlice 27 (.int .i64 0) (.int .i64 ((n : Int) + 64))).run Try.prog w = .ok (.slice (some ⟨w.heap.size, 0, .none⟩) 0 (n + 64)) w1 := by
    have e : ((n + 64 : Nat) : Int) = (n : Int) + 64 := by omega
    rw [e] at hmk
    exact hmk
  have b1 : Below w.heap.size w w1 := (Below.refl _ _).grown gr1 (Nat.le_refl _) (fun k hk => by cases hk)
  have HO1 : Hid (w1.ownsRow w.heap.size 5 1 (.slice (some ⟨w.heap.size, 0, .none⟩) 0 (n + 64)) 0 [] ∧ Below w.heap.size w w1) := ⟨own1, b1⟩
  clear own1 gr1 b1
  go_enter Try.func55, Try.ntmps55
  go_wp2
  clear hmk
  go_loopw [3, 4] (fun v k wr => ∃ i : Nat, i ≤ n ∧ k = .int .i64 i ∧ ∃ q cq, v = .slice q i cq ∧ Hid (wr.ownsRow w.heap.size 5 1 (.slice q i cq) i (by8 (xs.take i)) ∧ Below w.heap.size w wr ∧ ∃ g, q = some ⟨g, 0, .none⟩)) (fun _ k _ => (n - intOf k).toNat)
  case atStart => exact ⟨0, by omega, rfl, _, _, rfl, HO1.out.1, HO1.out.2, _, rfl⟩
  case round =>
    obtain ⟨i, hi, rfl, q, cq, rfl, HO⟩ := hrel
    by_cases hlt : i < n
    · have g0 : (i : Int) < n := by omega
      have hx : ∃ x, xs[i]? = some x := ⟨xs[i]'(by rw [HX.out]; exact hlt), by simp⟩
      obtain ⟨x, hx⟩ := hx
      obtain ⟨b1, o1, rfl, hb, hc⟩ := H1.out i x hx
      have a0 : wr.cell? ⟨b1, o1 + i, .none⟩ = some (.int .u8 x) := (HO.out.2.1.cell hb).trans hc
      have HT : Hid (xs.take i ++ [x] = xs.take (i + 1)) := take_next hx
      have z1 := HO.out.2.1.size
      clear hx hc
      go_wp2_with (first | (at_builtin; refine wpList_append_own _ rfl _ _ 27 rfl w.heap.size 5 i3 z3 1 1 Try.underlying27 HI.out.1 HI.out.2.1 HI.out.2.2.1 HI.out.2.2.2.1 HI.out.2.2.2.2 (by decide) (.slice q i cq) i (by8 (xs.take i)) rfl (HO.out.1.alloc _) ⟨wr.heap.size, 0, .none⟩ 1 1 (by8 [x]) rfl rfl (le_cell1_new _ _ _) (by8_one _) ?c4 ?c5 ?c6 ?_) | go_in)
      case c4 => simp only [maxLen]; omega
      case c5 => omega
      case c6 => simp only [World.size_alloc]; omega
      intro v' w2 own' grow fb
      clear fb
      obtain ⟨p', c', rfl⟩ := one_slice own'
      have HW : Hid (w2.ownsRow w.heap.size 5 1 (.slice p' (i + 1) c') (i + 1) (by8 (xs.take (i + 1))) ∧ Below w.heap.size w w2 ∧ ∃ g, p' = some ⟨g, 0, .none⟩) := by
        refine ⟨?_, below_append HO.out.2.1 _ grow z1 (own_block HO.out.1), own_someL own'⟩
        rw [← HT.out, by8_app]
        exact own'
      clear own' grow
      go_wp2
      exact ⟨⟨i + 1, by omega, rfl, p', c', rfl, HW.out⟩, by simp only [intOf]; omega⟩
    · obtain rfl : i = n := by omega
      have HO3 : Hid (wr.ownsRow w.heap.size 5 1 (.slice q i cq) i (by8 xs) ∧ Below w.heap.size w wr ∧ ∃ g, q = some ⟨g, 0, .none⟩) := by
        have h := HO.out
        rw [← HX.out, List.take_length, HX.out] at h
        exact h
      clear hi hlt HO HO1
      go_wp2
      go_loopw [3, 5] (fun v k W => ∃ j : Nat, j ≤ 64 ∧ k = .int .i64 j ∧ ∃ q cq, v = .slice q (i + j) cq ∧ Hid (W.ownsRow w.heap.size 5 1 (.slice q (i + j) cq) (i + j) (by8 (xs ++ marks.take j)) ∧ Below w.heap.size w W ∧ ∃ g, q = some ⟨g, 0, .none⟩)) (fun _ k _ => (64 - intOf k).toNat)
      case atStart =>
        refine ⟨0, by omega, rfl, q, cq, rfl, ?_⟩
        have h := HO3.out
        rw [← List.append_nil xs] at h
        exact h
      case round =>
        clear HO3
        obtain ⟨j, hj, rfl, q, cq, rfl, HO⟩ := hrel
        by_cases hlt : j < 64
        · have g0 : (j : Int) < 64 := by omega
          have gm : IntKind.u8.wrap (160 + (j : Int)) = 160 + (j : Int) := by simp only [IntKind.wrap, IntKind.bits, IntKind.signed]; simp; omega
          have HT : Hid (marks.take j ++ [160 + (j : Int)] = marks.take (j + 1)) := take_next (marks_get j hlt)
          have z1 := HO.out.2.1.size
          go_wp2_with (first | (at_builtin; refine wpList_append_own _ rfl _ _ 27 rfl w.heap.size 5 i3 z3 1 1 Try.underlying27 HI.out.1 HI.out.2.1 HI.out.2.2.1 HI.out.2.2.2.1 HI.out.2.2.2.2 (by decide) (.slice q (i + j) cq) (i + j) (by8 (xs ++ marks.take j)) rfl (HO.out.1.alloc _) ⟨wr.heap.size, 0, .none⟩ 1 1 (by8 [160 + (j : Int)]) rfl rfl (le_cell1_new _ _ _) (by8_one _) ?c4 ?c5 ?c6 ?_) | go_in)
          case c4 => simp only [maxLen]; omega
          case c5 => omega
          case c6 => simp only [World.size_alloc]; omega
          intro v' w2 own' grow fb
          clear fb
          obtain ⟨p', c', rfl⟩ := one_slice own'
          have HW : Hid (w2.ownsRow w.heap.size 5 1 (.slice p' (i + (j + 1)) c') (i + (j + 1)) (by8 (xs ++ marks.take (j + 1))) ∧ Below w.heap.size w w2 ∧ ∃ g, p' = some ⟨g, 0, .none⟩) := by
            refine ⟨?_, below_append HO.out.2.1 _ grow z1 (own_block HO.out.1), own_someL own'⟩
            rw [← HT.out, ← List.append_assoc, by8_app]
            exact own'
          clear own' grow
          go_wp2
          exact ⟨⟨j + 1, by omega, rfl, p', c', rfl, HW.out⟩, by simp only [intOf]; omega⟩
        · obtain rfl : j = 64 := by omega
          clear hj hlt
          obtain ⟨h1, h2, g, rfl⟩ := HO.out
          have hcap := own_cap h1
          have HL : Hid (Lent wr w.heap.size g cq xs ∧ Below w.heap.size w wr) := by
            refine ⟨?_, h2⟩
            unfold Lent
            rw [HX.out]
            have e : marks.take 64 = marks := List.take_of_length_le (by rw [marks_len]; exact Nat.le_refl _)
            rw [e] at h1
            exact h1
          clear h1 h2 HO
          go_wp2
          go_ret
          exact ⟨g, cq, rfl, HL.out.1, HL.out.2⟩
set_option maxHeartbeats 4000000 in
set_option maxRecDepth 100000 in
theorem kept_any {p : Option Addr} {n c base g cg : Nat} {xs : List Int} {w : World} (h : Byt w p n c xs) (hn : n < 140737488355000) (hL : Lent w base g cg xs) :
    Calls Try.prog 58 #[.slice (some ⟨g, 0, .none⟩) n cg, .slice p n c] w fun e w' => e = .returned (.bool true) ∧ ∃ k, w' = w.drewN k := by
  have hl := h.1
  have hcap : xs.length + 64 ≤ cg ∧ cg ≤ maxLen := own_cap hL
  have hm : cg ≤ 9223372036854775807 := hcap.2
  have hcell : ∀ i x, (xs ++ marks)[i]? = some x → w.cell? ⟨g, i, .none⟩ = some (.int .u8 x) := by
    intro i x hx
    have := World.ownsRow.cells hL (g := g) rfl i _ (by8_get hx)
    rwa [le_addr_add, Nat.zero_add] at this
  have hB : Byt w (some ⟨g, 0, .none⟩) n cg xs := by
    refine ⟨hl, by omega, hcap.2, .inr ⟨g, 0, rfl, own_lt hL, fun i x hx => ?_⟩⟩
    rw [Nat.zero_add]
    exact hcell i x (by rw [List.getElem?_append_left (by have := (List.getElem?_eq_some_iff.1 hx).1; omega)]; exact hx)
  have c1 := bytes_any (some ⟨g, 0, .none⟩) p n cg c xs w hn hB h
  have HM : Hid (∀ j : Nat, j < 64 → w.cell? ⟨g, n + j, .none⟩ = some (.int .u8 (160 + (j : Int)))) := by
    intro j hj
    refine hcell (n + j) _ ?_
    rw [List.getElem?_append_right (by omega), hl, Nat.add_sub_cancel_left]
    exact marks_get j hj
  have k2 : n + 64 ≤ cg := by omega
  clear hcell hB hL h hl hcap
  go_enter Try.func58, Try.ntmps58
  go_wp2_with fail
  refine c1.mono ?_
  rintro e w1 ⟨rfl, k, rfl⟩
  clear c1
  go_wp2
  go_loopw [6] (fun v W => ∃ j : Nat, j ≤ 64 ∧ v = .int .i64 j ∧ ∃ k, W = w.drewN k) (fun v _ => (64 - intOf v).toNat)
  case atStart => exact ⟨0, by omega, rfl, k, rfl⟩
  case round =>
    obtain ⟨j, hj, rfl, k', rfl⟩ := hrel
    by_cases hlt : j < 64
    · have g0 : (j : Int) < 64 := by omega
      have gm : IntKind.u8.wrap (160 + (j : Int)) = 160 + (j : Int) := by simp only [IntKind.wrap, IntKind.bits, IntKind.signed]; simp; omega
      have a0 := HM.out j hlt
      go_wp2
      exact ⟨⟨j + 1, by omega, rfl, k', rfl⟩, by simp only [intOf]; omega⟩
    · obtain rfl : j = 64 := by omega
      clear hj hlt
      go_wp2
      go_ret
      exact ⟨rfl, k', rfl⟩
end Go.Proofs.Ytnghcadhilfgnaa
namespace Go.Proofs.Ytnghcadhilfgnaa
open Go.RowKit
set_option linter.unusedVariables false
set_option linter.unusedSimpArgs false
/-- The document's memory, as Image reads it. -/
structure Qv (W : World) (q hb n : Nat) (lv : Value) (B : Nat → Int) (L : List Nat) : Prop where
  c0 : W.cell? ⟨q, 0, .none⟩ = some (.slice (some ⟨hb, 0, .none⟩) n n)
  c1 : W.cell? ⟨q, 1, .none⟩ = some lv
  lr : Lr W lv L
  hn : ∀ i, i < n → i ∈ L → W.cell? ⟨hb, i, .none⟩ = some (.slice .none 0 0)
  hh : ∀ i, i < n → i ∉ L → ∃ fb, W.cell? ⟨hb, i, .none⟩ = some (.slice (some ⟨fb, 0, .none⟩) 4096 4096) ∧ ∀ t, t < 4096 → W.cell? ⟨fb, t, .none⟩ = some (.int .u8 (B (i * 4096 + t)))
  le : L.length ≤ 4096
  lt : ∀ i ∈ L, i < 4096
  n1 : 1 ≤ n
  n2 : n ≤ 4096
theorem Qv.below {W V : World} {q hb n : Nat} {lv : Value} {B : Nat → Int} {L : List Nat} (h : Qv W q hb n lv B L) (b : Below W.heap.size W V) : Qv V q hb n lv B L := by
  have k : ∀ {x : Addr} {v : Value}, W.cell? x = some v → V.cell? x = some v := fun {x v} hc => (b.cell (lt_of_cell hc)).trans hc
  refine ⟨k h.c0, k h.c1, h.lr.below b, fun i hi hm => k (h.hn i hi hm), fun i hi hm => ?_, h.le, h.lt, h.n1, h.n2⟩
  obtain ⟨fb, h1, h2⟩ := h.hh i hi hm
  exact ⟨fb, k h1, fun t ht => k (h2 t ht)⟩
/-- While the document's Image gathers the held frames. -/
structure HQ (w W : World) (X N : Nat) (B : Nat → Int) (L : List Nat) (qf : Option Addr) (cf i : Nat) (hs : List (Nat × Nat)) (q2 : Option Addr) (c2 : Nat) : Prop where
  fs : hs.map (·.1) = heldTo L i
  c : C3 W (w.heap.size + 1) (.int .i64 N) (.slice qf L.length cf) (.slice q2 hs.length c2)
  r : C3 W w.heap.size (.int .i64 0) (.slice .none 0 0) (.slice .none 0 0)
  fr : W.ownsRow X 26 1 (.slice qf L.length cf) L.length (L.map adv)
  hr : W.ownsRow X 70 2 (.slice q2 hs.length c2) hs.length (flatH hs)
  da : ∀ x ∈ hs, X ≤ x.2 ∧ (∀ t, t < 4096 → W.cell? ⟨x.2, t, .none⟩ = some (.int .u8 (B (x.1 * 4096 + t)))) ∧ Value.ownBlock (.slice q2 hs.length c2) ≠ some x.2
  fq : ∀ k, Value.ownBlock (.slice q2 hs.length c2) = some k → Value.ownBlock (.slice qf L.length cf) ≠ some k
  be : Below w.heap.size w W
  xs : X ≤ W.heap.size
section
variable {w W : World} {X N cf i c2 : Nat} {B : Nat → Int} {L : List Nat} {qf q2 : Option Addr} {hs : List (Nat × Nat)}
theorem HQ.below {W' : World} (h : HQ w W X N B L qf cf i hs q2 c2) (k : Below W.heap.size W W') : HQ w W' X N B L qf cf i hs q2 c2 :=
  ⟨h.fs, h.c.below k, h.r.below k, owns_below h.fr k, owns_below h.hr k, fun x hx => ⟨(h.da x hx).1, fun t ht => (k.cell (lt_of_cell ((h.da x hx).2.1 t ht))).trans ((h.da x hx).2.1 t ht), (h.da x hx).2.2⟩, h.fq, h.be.trans (k.mono h.be.size), Nat.le_trans h.xs k.size⟩
theorem HQ.skip (h : HQ w W X N B L qf cf i hs q2 c2) (hi : i ∈ L) : HQ w W X N B L qf cf (i + 1) hs q2 c2 :=
  ⟨by rw [heldTo_in L i hi]; exact h.fs, h.c, h.r, h.fr, h.hr, h.da, h.fq, h.be, h.xs⟩
theorem HQ.step (h : HQ w W X N B L qf cf i hs q2 c2) (hX : w.heap.size + 1 + 1 ≤ X) (hi : i ∉ L) {g : Nat} (g1 : X ≤ g) (g2 : ∀ t, t < 4096 → W.cell? ⟨g, t, .none⟩ = some (.int .u8 (B (i * 4096 + t)))) (g3 : Value.ownBlock (.slice q2 hs.length c2) ≠ some g) {o : Obj} {w5 : World} {gr cap : Nat}
    (hown : w5.ownsRow X 70 2 (.slice (some ⟨gr, 0, .none⟩) (hs.length + 1) cap) (hs.length + 1) (flatH hs ++ [adv i, .slice (some ⟨g, 0, .none⟩) 4096 4096])) (hg : (W.alloc o).grownBy w5 (Value.ownBlock (.slice q2 hs.length c2)))
    (hat : Value.ownBlock (.slice (some ⟨gr, 0, .none⟩) (hs.length + 1) cap) = Value.ownBlock (.slice q2 hs.length c2) ∨ Value.ownBlock (.slice (some ⟨gr, 0, .none⟩) (hs.length + 1) cap) = some (W.alloc o).heap.size) :
    w5.cell? ⟨w.heap.size + 1, 2, .none⟩ = some (.slice q2 hs.length c2) ∧ w5.frozen? ⟨w.heap.size + 1, 2, .none⟩ = false ∧ HQ w (w5.setCell ⟨w.heap.size + 1, 2, .none⟩ (.slice (some ⟨gr, 0, .none⟩) (hs.length + 1) cap)) X N B L qf cf (i + 1) (hs ++ [(i, g)]) (some ⟨gr, 0, .none⟩) cap := by
  have xs := h.xs
  obtain ⟨a0, a1, a2, z0, z1, z2⟩ := h.c
  obtain ⟨b0, b1, b2, y0, y1, y2⟩ := h.r
  have bl : ∀ x, x < W.heap.size → Value.ownBlock (.slice q2 hs.length c2) ≠ some x → w5.heap[x]? = W.heap[x]? := fun x hx hne => (hg.block x (by simp only [World.size_alloc]; omega) (fun e => hne e.symm)).trans (Below.heap_alloc _ _ _ hx)
  have lo : ∀ x, x < X → x < W.heap.size → w5.heap[x]? = W.heap[x]? := fun x h1 h2 => bl x h2 (fun e => by have := (h.hr.lt _ e).1; omega)
  have cl : ∀ x o, x < X → w5.cell? ⟨x, o, .none⟩ = W.cell? ⟨x, o, .none⟩ := fun x o hx => World.cell?_of_block (lo x hx (by omega))
  have fl : ∀ x o, x < X → w5.frozen? ⟨x, o, .none⟩ = W.frozen? ⟨x, o, .none⟩ := fun x o hx => World.frozen?_of_block (lo x hx (by omega))
  have so : ∀ x o, (x ≠ w.heap.size + 1 ∨ o ≠ 2) → (w5.setCell ⟨w.heap.size + 1, 2, .none⟩ (.slice (some ⟨gr, 0, .none⟩) (hs.length + 1) cap)).cell? ⟨x, o, .none⟩ = w5.cell? ⟨x, o, .none⟩ := fun x o hx => World.cell?_setCell_other _ _ _ _ (by simp only [ne_eq, Addr.mk.injEq, and_true, not_and]; intro e1 e2; rcases hx with hx | hx <;> omega)
  have hlen : (hs ++ [(i, g)]).length = hs.length + 1 := by simp
  have k2 := (cl (w.heap.size + 1) 2 (by omega)).trans a2
  have hgr : X ≤ gr := (hown.lt gr rfl).1
  have rowne : ∀ x, x < W.heap.size → Value.ownBlock (.slice q2 hs.length c2) ≠ some x → gr ≠ x := fun x h1 h2 e => by
    rcases hat with h3 | h3
    · exact h2 (by rw [← h3, e]; rfl)
    · simp only [Value.ownBlock, World.size_alloc, Option.some.injEq] at h3
      omega
  refine ⟨k2, (fl _ _ (by omega)).trans z2, ?_⟩
  refine ⟨by rw [List.map_append, h.fs, heldTo_out L i hi]; rfl, ?_, ?_, ?_, ?_, ?_, ?_, ?_, ?_⟩
  · rw [hlen]
    exact ⟨(so _ _ (.inr (by decide))).trans ((cl _ _ (by omega)).trans a0), (so _ _ (.inr (by decide))).trans ((cl _ _ (by omega)).trans a1), World.cell?_setCell_same' _ _ _ (by rw [k2]; rfl), (World.frozen?_setCell ..).trans ((fl _ _ (by omega)).trans z0), (World.frozen?_setCell ..).trans ((fl _ _ (by omega)).trans z1), (World.frozen?_setCell ..).trans ((fl _ _ (by omega)).trans z2)⟩
  · exact ⟨(so _ _ (.inl (by omega))).trans ((cl _ _ (by omega)).trans b0), (so _ _ (.inl (by omega))).trans ((cl _ _ (by omega)).trans b1), (so _ _ (.inl (by omega))).trans ((cl _ _ (by omega)).trans b2), (World.frozen?_setCell ..).trans ((fl _ _ (by omega)).trans y0), (World.frozen?_setCell ..).trans ((fl _ _ (by omega)).trans y1), (World.frozen?_setCell ..).trans ((fl _ _ (by omega)).trans y2)⟩
  · refine ownsRow_setCell_below ?_ (a := ⟨w.heap.size + 1, 2, .none⟩) (by show w.heap.size + 1 < X; omega) _
    refine (h.fr.alloc o).kept hg ?_
    cases e : Value.ownBlock (.slice qf L.length cf) with
    | none => exact .inl rfl
    | some k => exact .inr fun e' => h.fq k e'.symm e
  · rw [hlen, flatH_append]
    exact ownsRow_setCell_below hown (a := ⟨w.heap.size + 1, 2, .none⟩) (by show w.heap.size + 1 < X; omega) _
  · intro x hx
    rw [hlen]
    rcases List.mem_append.1 hx with hx | hx
    · obtain ⟨d1, d2, d3⟩ := h.da x hx
      have lx : x.2 < W.heap.size := lt_of_cell (d2 0 (by omega))
      refine ⟨d1, fun t ht => (so _ _ (.inl (by omega))).trans ((World.cell?_of_block (bl x.2 lx d3)).trans (d2 t ht)), fun e => ?_⟩
      simp only [Value.ownBlock, Option.some.injEq] at e
      exact rowne _ lx d3 e
    · obtain rfl : x = (i, g) := by simpa using hx
      have lx : g < W.heap.size := lt_of_cell (g2 0 (by omega))
      refine ⟨g1, fun t ht => (so _ _ (.inl (by omega))).trans ((World.cell?_of_block (bl g lx g3)).trans (g2 t ht)), fun e => ?_⟩
      simp only [Value.ownBlock, Option.some.injEq] at e
      exact rowne _ lx g3 e
  · intro k e
    rw [hlen] at e
    rcases hat with h3 | h3
    · exact h.fq k (h3 ▸ e)
    · intro e2
      have := (h.fr.lt k e2).2
      rw [h3] at e
      simp only [World.size_alloc, Option.some.injEq] at e
      omega
  · refine ((h.be.alloc h.be.size o).grown hg (by simp only [World.size_alloc]; have := h.be.size; omega) (fun r e => by have := (h.hr.lt _ e).1; omega)).setCell (p := ⟨w.heap.size + 1, 2, .none⟩) (by show w.heap.size ≤ w.heap.size + 1; omega) _
  · have := hg.size
    simp only [World.size_alloc] at this
    rw [World.size_setCell]
    omega
end
end Go.Proofs.Ytnghcadhilfgnaa
namespace Go.Proofs.Ytnghcadhilfgnaa
open Go.RowKit
set_option linter.unusedVariables false
set_option linter.unusedSimpArgs false
theorem sorted_ext : ∀ (a b : List Nat), a.Pairwise (· < ·) → b.Pairwise (· < ·) → (∀ x, x ∈ a ↔ x ∈ b) → a = b
  | [], [], _, _, _ => rfl
  | [], y :: b, _, _, h => absurd ((h y).2 (List.mem_cons_self ..)) (by simp)
  | x :: a, [], _, _, h => absurd ((h x).1 (List.mem_cons_self ..)) (by simp)
  | x :: a, y :: b, ha, hb, h => by
    obtain ⟨a1, a2⟩ := List.pairwise_cons.1 ha
    obtain ⟨b1, b2⟩ := List.pairwise_cons.1 hb
    have e : x = y := by
      rcases List.mem_cons.1 ((h x).1 (List.mem_cons_self ..)) with e | e
      · exact e
      · rcases List.mem_cons.1 ((h y).2 (List.mem_cons_self ..)) with e' | e'
        · exact e'.symm
        · have := a1 y e'
          have := b1 x e
          omega
    subst e
    congr 1
    refine sorted_ext a b a2 b2 fun z => ⟨fun hz => ?_, fun hz => ?_⟩
    · rcases List.mem_cons.1 ((h z).1 (List.mem_cons_of_mem _ hz)) with e | e
      · have := a1 z hz
        omega
      · exact e
    · rcases List.mem_cons.1 ((h z).2 (List.mem_cons_of_mem _ hz)) with e | e
      · have := b1 z hz
        omega
      · exact e
section
variable {F : Nat → Int} {nf : Nat} {PA : Nat → Int} {L : Nat → Nat} {nh n : Nat}
/-- The frames that are not free are the held ones, in their order. -/
theorem Fine.held_eq (h : Fine F nf PA L nh n) : heldTo (Lf F nf) n = Lf PA nh := by
  refine sorted_ext _ _ (List.pairwise_lt_range.filter _) ?_ fun x => ?_
  · rw [List.pairwise_iff_getElem]
    intro i j hi hj hij
    rw [Lf_len] at hi hj
    have r := h.rise hj i hij
    have a := (fi_of (h.held hi).1).2
    have b := (fi_of (h.held hj).1).2
    simp only [Lf, List.getElem_map, List.getElem_range]
    omega
  · unfold heldTo
    rw [List.mem_filter, List.mem_range]
    constructor
    · rintro ⟨h1, h2⟩
      rcases h.all.2 x h1 with h3 | h3
      · simp [h3] at h2
      · exact h3
    · intro hx
      exact ⟨h.ltH x hx, by simp [h.apart hx]⟩
end
theorem flatH_get : ∀ (hs : List (Nat × Nat)) (i : Nat) (x : Nat × Nat), hs[i]? = some x → (flatH hs)[i * 2]? = some (adv x.1) ∧ (flatH hs)[i * 2 + 1]? = some (.slice (some ⟨x.2, 0, .none⟩) 4096 4096)
  | [], i, x, h => by simp at h
  | y :: hs, 0, x, h => by
    simp only [List.getElem?_cons_zero, Option.some.injEq] at h
    subst h
    exact ⟨rfl, rfl⟩
  | y :: hs, i + 1, x, h => by
    simp only [List.getElem?_cons_succ] at h
    have := flatH_get hs i x h
    rw [show (i + 1) * 2 = i * 2 + 1 + 1 by omega]
    exact this
theorem own_cell {w : World} {X e s n c k : Nat} {q : Option Addr} {xs : List Value} {v : Value} (h : w.ownsRow X e s (.slice q n c) n xs) (hk : xs[k]? = some v) (hn : 0 < n) (hl : k < n * s) : ∃ g, q = some ⟨g, 0, .none⟩ ∧ w.cell? ⟨g, k, .none⟩ = some v := by
  rcases h.2 with ⟨_, h0⟩ | ⟨g, cap, cur, hv, hX, hh, hn', hc, hs, ht⟩
  · omega
  · injection hv with e1 e2 e3
    subst e1
    refine ⟨g, rfl, ?_⟩
    simp only [World.cell?, hh]
    show cur[k]? = _
    rw [← Array.getElem?_toList, ← List.getElem?_take_of_lt hl, ht, hk]
/-- What an image that was handed out shows: the free frames. -/
theorem see_free {w : World} {X cf nf : Nat} {qf : Option Addr} {F : Nat → Int} {n : Nat} (hfr : ∀ i, i < nf → isFr (F i) n = true) (h : w.ownsRow X 26 1 (.slice qf (Lf F nf).length cf) (Lf F nf).length ((Lf F nf).map adv)) : See w .u64 qf nf F := by
  by_cases h0 : nf = 0
  · exact .inl h0
  · rw [Lf_len] at h
    have g0 : ∀ i, i < nf → ((Lf F nf).map adv)[i]? = some (.int .u64 (F i)) := fun i hi => by
      simp only [Lf, List.map_map, List.getElem?_map, List.getElem?_range hi, Option.map_some, Function.comp]
      rw [adv, ← (fi_of (hfr i hi)).2]
    obtain ⟨g, e, c⟩ := own_cell h (g0 0 (by omega)) (by omega) (by omega)
    refine .inr ⟨g, 0, e, lt_of_cell c, fun i hi => ?_⟩
    obtain ⟨g', e', c'⟩ := own_cell h (g0 i hi) (by omega) (by omega)
    rw [e] at e'
    simp only [Option.some.injEq, Addr.mk.injEq, and_true] at e'
    rw [Nat.zero_add, e']
    exact c'
/-- .. and the held ones. -/
theorem see_held {w : World} {X c2 nh n : Nat} {q2 : Option Addr} {PA : Nat → Int} {D : Nat → Nat → Int} {B : Nat → Int} {hs : List (Nat × Nat)} (hfr : ∀ i, i < nh → isFr (PA i) n = true) (hm : hs.map (·.1) = Lf PA nh) (h : w.ownsRow X 70 2 (.slice q2 hs.length c2) hs.length (flatH hs)) (hd : ∀ x ∈ hs, ∀ t, t < 4096 → w.cell? ⟨x.2, t, .none⟩ = some (.int .u8 (B (x.1 * 4096 + t)))) (hB : ∀ i, i < nh → ∀ j, j < 4096 → B (fi (PA i) * 4096 + j) = D i j) :
    hs.length = nh ∧ SeeH w q2 nh PA (fun _ => 4096) D := by
  have hl : hs.length = nh := by have := congrArg List.length hm; rwa [List.length_map, Lf_len] at this
  refine ⟨hl, ?_⟩
  by_cases h0 : nh = 0
  · exact .inl h0
  · rw [hl] at h
    have g0 : ∀ i, i < nh → ∃ x, hs[i]? = some x ∧ x.1 = fi (PA i) := fun i hi => by
      have hi' : i < hs.length := by omega
      refine ⟨hs[i], List.getElem?_eq_getElem hi', ?_⟩
      have := congrArg (fun l => l[i]?) hm
      simp only [List.getElem?_map, List.getElem?_eq_getElem hi', Lf, List.getElem?_range hi, Option.map_some, Option.some.injEq] at this
      exact this
    obtain ⟨x0, hx0, _⟩ := g0 0 (by omega)
    obtain ⟨g, e, c⟩ := own_cell h (flatH_get hs 0 x0 hx0).1 (by omega) (by omega)
    refine .inr ⟨g, 0, e, lt_of_cell c, fun i hi => ?_⟩
    obtain ⟨x, hx, ex⟩ := g0 i hi
    obtain ⟨f1, f2⟩ := flatH_get hs i x hx
    obtain ⟨g', e', c'⟩ := own_cell h f1 (by omega) (by omega)
    obtain ⟨g'', e'', c''⟩ := own_cell h f2 (by omega) (by omega)
    rw [e] at e' e''
    simp only [Option.some.injEq, Addr.mk.injEq, and_true] at e' e''
    subst e'
    subst e''
    rw [Nat.zero_add]
    have hxm : x ∈ hs := List.mem_of_getElem? hx
    refine ⟨?_, some ⟨x.2, 0, .none⟩, 4096, c'', .inr ⟨x.2, 0, rfl, lt_of_cell (hd x hxm 0 (by omega)), fun t ht => ?_⟩⟩
    · rw [c', adv, ex, ← (fi_of (hfr i hi)).2]
    · rw [Nat.zero_add, hd x hxm t ht, ex, hB i hi t ht]
end Go.Proofs.Ytnghcadhilfgnaa
namespace Go.Proofs.Ytnghcadhilfgnaa
open Go.RowKit
set_option linter.unusedVariables false
set_option linter.unusedSimpArgs false
/-- What the program tells: a refusal, or nothing. -/
def ErrR (w : World) (v : Value) (a r : Int) : Prop := (r ≠ 0 ∧ FaultIn w 0 v a r) ∨ (r = 0 ∧ v = .nilIface)
/-- What the document tells. -/
def RefR (w : World) (g : Value) (a r : Int) : Prop := (r ≠ 0 ∧ LFault w g a r) ∨ (r = 0 ∧ g = .agg #[.slice .none 0 0, .int .i64 0])
theorem ErrR.below {w w' : World} {v : Value} {a r : Int} (h : ErrR w v a r) (b : Below w.heap.size w w') : ErrR w' v a r := by
  rcases h with ⟨h1, h2⟩ | h
  · exact .inl ⟨h1, FaultIn.below b h2⟩
  · exact .inr h
theorem RefR.below {w w' : World} {v : Value} {a r : Int} (h : RefR w v a r) (b : Below w.heap.size w w') : RefR w' v a r := by
  rcases h with ⟨h1, h2⟩ | h
  · exact .inl ⟨h1, LFault.below b h2⟩
  · exact .inr h
end Go.Proofs.Ytnghcadhilfgnaa
namespace Go.Proofs.Ytnghcadhilfgnaa
open Go.RowKit
set_option linter.unusedVariables false
set_option linter.unusedSimpArgs false
/-- A frame's bytes as a list. -/
def bl (l : Nat) (R : Nat → Int) : List Int := (List.range l).map R
theorem bl_len (l : Nat) (R : Nat → Int) : (bl l R).length = l := by simp [bl]
theorem bl_get (l : Nat) (R : Nat → Int) (i : Nat) (h : i < l) : (bl l R)[i]? = some (R i) := by simp [bl, h]
/-- The copied list of held frames, cell by cell. -/
def flatI (PA : Nat → Int) (L : Nat → Nat) : List (Nat × Nat) → List Value
  | [] => []
  | l => (List.range l.length).flatMap fun j => [.int .u64 (PA j), .slice (some ⟨(l.getD j (0, 0)).1, 0, .none⟩) (L j) (l.getD j (0, 0)).2]
theorem flatI_eq (PA : Nat → Int) (L : Nat → Nat) (l : List (Nat × Nat)) : flatI PA L l = (List.range l.length).flatMap fun j => [.int .u64 (PA j), .slice (some ⟨(l.getD j (0, 0)).1, 0, .none⟩) (L j) (l.getD j (0, 0)).2] := by
  cases l with
  | nil => rfl
  | cons x l => rfl
theorem flatI_snoc (PA : Nat → Int) (L : Nat → Nat) (l : List (Nat × Nat)) (x : Nat × Nat) : flatI PA L (l ++ [x]) = flatI PA L l ++ [.int .u64 (PA l.length), .slice (some ⟨x.1, 0, .none⟩) (L l.length) x.2] := by
  rw [flatI_eq, flatI_eq, List.length_append, List.length_singleton, List.range_succ, List.flatMap_append]
  congr 1
  · rw [List.flatMap_def, List.flatMap_def]
    congr 1
    apply List.map_congr_left
    intro j hj
    have := List.mem_range.1 hj
    simp [List.getD_eq_getElem?_getD, List.getElem?_append_left this]
  · simp [List.getD_eq_getElem?_getD]
/-- The law's own copy of the image, while its held frames are copied. -/
structure In (W V : World) (n : Int) (nf cf nh ch : Nat) (qf qh : Option Addr) (F PA : Nat → Int) (L : Nat → Nat) (D : Nat → Nat → Int) (fq : Option Addr) (fc : Nat) (hq : Option Addr) (hc : Nat) (gs : List (Nat × Nat)) : Prop where
  p : C3 V W.heap.size (.int .i64 n) (.slice qf nf cf) (.slice qh nh ch)
  c : C3 V (W.heap.size + 1) (.int .i64 n) (.slice fq nf fc) (.slice hq gs.length hc)
  fr : V.ownsRow (W.heap.size + 1 + 1) 26 1 (.slice fq nf fc) nf ((List.range nf).map fun i => .int .u64 (F i))
  hr : V.ownsRow (W.heap.size + 1 + 1) 70 2 (.slice hq gs.length hc) gs.length (flatI PA L gs)
  le : ∀ j x, gs[j]? = some x → Lent V (W.heap.size + 1 + 1) x.1 x.2 (bl (L j) (D j))
  nd : (gs.map (·.1)).Nodup
  be : Below W.heap.size W V
  xs : W.heap.size + 1 + 1 ≤ V.heap.size
theorem Lent.lt {V : World} {X g c : Nat} {xs : List Int} (h : Lent V X g c xs) : X ≤ g ∧ g < V.heap.size := by
  unfold Lent at h
  exact h.lt g rfl
theorem Lent.blk {V : World} {X g c : Nat} {xs : List Int} (h : Lent V X g c xs) : ∃ cur, V.heap[g]? = some (.cells cur 5 (0, 0)) := by
  rcases h.2 with ⟨h0, _⟩ | ⟨g', cap, cur, hv, hX, hh, _⟩
  · cases h0
  · injection hv with e1
    simp only [Option.some.injEq, Addr.mk.injEq, and_true] at e1
    subst e1
    exact ⟨cur, hh⟩
theorem own_blk {V : World} {X e s n c g : Nat} {q : Option Addr} {xs : List Value} (h : V.ownsRow X e s (.slice q n c) n xs) (hg : Value.ownBlock (.slice q n c) = some g) : ∃ cur, V.heap[g]? = some (.cells cur e (0, 0)) := by
  rcases h.2 with ⟨h0, _⟩ | ⟨g', cap, cur, hv, hX, hh, _⟩
  · injection h0 with h0
    subst h0
    simp [Value.ownBlock] at hg
  · injection hv with e1
    subst e1
    simp only [Value.ownBlock, Option.some.injEq] at hg
    subst hg
    exact ⟨cur, hh⟩
section
variable {W V : World} {n : Int} {nf cf nh ch : Nat} {qf qh : Option Addr} {F PA : Nat → Int} {L : Nat → Nat} {D : Nat → Nat → Int} {fq : Option Addr} {fc : Nat} {hq : Option Addr} {hc : Nat} {gs : List (Nat × Nat)}
theorem lent_below {V' : World} {X g c : Nat} {xs : List Int} (h : Lent V X g c xs) (b : Below V.heap.size V V') : Lent V' X g c xs := owns_below h b
theorem In.below {V' : World} (h : In W V n nf cf nh ch qf qh F PA L D fq fc hq hc gs) (b : Below V.heap.size V V') : In W V' n nf cf nh ch qf qh F PA L D fq fc hq hc gs :=
  ⟨h.p.below b, h.c.below b, owns_below h.fr b, owns_below h.hr b, fun j x hj => lent_below (h.le j x hj) b, h.nd, h.be.trans (b.mono h.be.size), Nat.le_trans h.xs b.size⟩
/-- One more held frame is copied: V has the lent bytes already. -/
theorem In.step (h : In W V n nf cf nh ch qf qh F PA L D fq fc hq hc gs) {g cg : Nat} (hg1 : Lent V (W.heap.size + 1 + 1) g cg (bl (L gs.length) (D gs.length))) (hnew : g ∉ gs.map (·.1)) {o : Obj} {w5 : World} {gr cap : Nat}
    (hown : w5.ownsRow (W.heap.size + 1 + 1) 70 2 (.slice (some ⟨gr, 0, .none⟩) (gs.length + 1) cap) (gs.length + 1) (flatI PA L gs ++ [.int .u64 (PA gs.length), .slice (some ⟨g, 0, .none⟩) (L gs.length) cg])) (hg : (V.alloc o).grownBy w5 (Value.ownBlock (.slice hq gs.length hc))) :
    w5.cell? ⟨W.heap.size + 1, 2, .none⟩ = some (.slice hq gs.length hc) ∧ w5.frozen? ⟨W.heap.size + 1, 2, .none⟩ = false ∧ In W (w5.setCell ⟨W.heap.size + 1, 2, .none⟩ (.slice (some ⟨gr, 0, .none⟩) (gs.length + 1) cap)) n nf cf nh ch qf qh F PA L D fq fc (some ⟨gr, 0, .none⟩) cap (gs ++ [(g, cg)]) := by
  have xs := h.xs
  obtain ⟨a0, a1, a2, z0, z1, z2⟩ := h.c
  obtain ⟨b0, b1, b2, y0, y1, y2⟩ := h.p
  have blk : ∀ x, x < V.heap.size → Value.ownBlock (.slice hq gs.length hc) ≠ some x → w5.heap[x]? = V.heap[x]? := fun x hx hne => (hg.block x (by simp only [World.size_alloc]; omega) (fun e => hne e.symm)).trans (Below.heap_alloc _ _ _ hx)
  have lo : ∀ x, x < W.heap.size + 1 + 1 → w5.heap[x]? = V.heap[x]? := fun x h1 => blk x (by omega) (fun e => by have := (h.hr.lt _ e).1; omega)
  have cl : ∀ x o, x < W.heap.size + 1 + 1 → w5.cell? ⟨x, o, .none⟩ = V.cell? ⟨x, o, .none⟩ := fun x o hx => World.cell?_of_block (lo x hx)
  have fl : ∀ x o, x < W.heap.size + 1 + 1 → w5.frozen? ⟨x, o, .none⟩ = V.frozen? ⟨x, o, .none⟩ := fun x o hx => World.frozen?_of_block (lo x hx)
  have so : ∀ x o, (x ≠ W.heap.size + 1 ∨ o ≠ 2) → (w5.setCell ⟨W.heap.size + 1, 2, .none⟩ (.slice (some ⟨gr, 0, .none⟩) (gs.length + 1) cap)).cell? ⟨x, o, .none⟩ = w5.cell? ⟨x, o, .none⟩ := fun x o hx => World.cell?_setCell_other _ _ _ _ (by simp only [ne_eq, Addr.mk.injEq, and_true, not_and]; intro e1 e2; rcases hx with hx | hx <;> omega)
  have hlen : (gs ++ [(g, cg)]).length = gs.length + 1 := by simp
  have k2 := (cl (W.heap.size + 1) 2 (by omega)).trans a2
  have keepL : ∀ {g c : Nat} {ys : List Int}, Lent V (W.heap.size + 1 + 1) g c ys → Lent (w5.setCell ⟨W.heap.size + 1, 2, .none⟩ (.slice (some ⟨gr, 0, .none⟩) (gs.length + 1) cap)) (W.heap.size + 1 + 1) g c ys := fun {g c ys} hl => by
    refine ownsRow_setCell_below (a := ⟨W.heap.size + 1, 2, .none⟩) ?_ (by show W.heap.size + 1 < W.heap.size + 1 + 1; omega) _
    refine (World.ownsRow.alloc hl o).kept hg (.inr fun e => ?_)
    obtain ⟨c1, e1⟩ := hl.blk
    obtain ⟨c2, e2⟩ := own_blk h.hr e.symm
    rw [e1] at e2
    cases e2
  refine ⟨k2, (fl _ _ (by omega)).trans z2, ?_⟩
  refine ⟨?_, ?_, ?_, ?_, ?_, ?_, ?_, ?_⟩
  · exact ⟨(so _ _ (.inl (by omega))).trans ((cl _ _ (by omega)).trans b0), (so _ _ (.inl (by omega))).trans ((cl _ _ (by omega)).trans b1), (so _ _ (.inl (by omega))).trans ((cl _ _ (by omega)).trans b2), (World.frozen?_setCell ..).trans ((fl _ _ (by omega)).trans y0), (World.frozen?_setCell ..).trans ((fl _ _ (by omega)).trans y1), (World.frozen?_setCell ..).trans ((fl _ _ (by omega)).trans y2)⟩
  · rw [hlen]
    exact ⟨(so _ _ (.inr (by decide))).trans ((cl _ _ (by omega)).trans a0), (so _ _ (.inr (by decide))).trans ((cl _ _ (by omega)).trans a1), World.cell?_setCell_same' _ _ _ (by rw [k2]; rfl), (World.frozen?_setCell ..).trans ((fl _ _ (by omega)).trans z0), (World.frozen?_setCell ..).trans ((fl _ _ (by omega)).trans z1), (World.frozen?_setCell ..).trans ((fl _ _ (by omega)).trans z2)⟩
  · refine ownsRow_setCell_below ?_ (a := ⟨W.heap.size + 1, 2, .none⟩) (by show W.heap.size + 1 < W.heap.size + 1 + 1; omega) _
    refine (h.fr.alloc o).kept hg ?_
    cases e : Value.ownBlock (.slice fq nf fc) with
    | none => exact .inl rfl
    | some k =>
      refine .inr fun e' => ?_
      obtain ⟨c1, e1⟩ := own_blk h.fr e
      obtain ⟨c2, e2⟩ := own_blk h.hr e'.symm
      rw [e1] at e2
      cases e2
  · rw [hlen, flatI_snoc]
    exact ownsRow_setCell_below hown (a := ⟨W.heap.size + 1, 2, .none⟩) (by show W.heap.size + 1 < W.heap.size + 1 + 1; omega) _
  · intro j x hj
    by_cases hjl : j < gs.length
    · rw [List.getElem?_append_left hjl] at hj
      exact keepL (h.le j x hj)
    · rw [List.getElem?_append_right (by omega)] at hj
      have : j - gs.length = 0 := by
        have := (List.getElem?_eq_some_iff.1 hj).1
        simp at this
        omega
      rw [this] at hj
      simp only [List.getElem?_cons_zero, Option.some.injEq] at hj
      subst hj
      obtain rfl : j = gs.length := by omega
      exact keepL hg1
  · rw [List.map_append, List.nodup_append]
    refine ⟨h.nd, by simp, fun a ha b hb e => ?_⟩
    simp only [List.map_cons, List.map_nil, List.mem_singleton] at hb
    subst hb
    subst e
    exact hnew ha
  · refine ((h.be.alloc h.be.size o).grown hg (by simp only [World.size_alloc]; have := h.be.size; omega) (fun r e => by have := (h.hr.lt _ e).1; omega)).setCell (p := ⟨W.heap.size + 1, 2, .none⟩) (by show W.heap.size ≤ W.heap.size + 1; omega) _
  · have := hg.size
    simp only [World.size_alloc] at this
    rw [World.size_setCell]
    omega
end
end Go.Proofs.Ytnghcadhilfgnaa
namespace Go.Proofs.Ytnghcadhilfgnaa
open Go.RowKit
set_option linter.unusedVariables false
set_option linter.unusedSimpArgs false
theorem C3.other {V : World} {a : Nat} {x y z : Value} (h : C3 V a x y z) {b : Addr} (hb : b.block ≠ a) (u : Value) : C3 (V.setCell b u) a x y z := by
  obtain ⟨a0, a1, a2, z0, z1, z2⟩ := h
  have so : ∀ o, (V.setCell b u).cell? ⟨a, o, .none⟩ = V.cell? ⟨a, o, .none⟩ := fun o => World.cell?_setCell_other _ _ _ _ (fun e => hb (by rw [e]))
  exact ⟨(so 0).trans a0, (so 1).trans a1, (so 2).trans a2, (World.frozen?_setCell ..).trans z0, (World.frozen?_setCell ..).trans z1, (World.frozen?_setCell ..).trans z2⟩
theorem bl_congr {l : Nat} {R R' : Nat → Int} (h : ∀ t, t < l → R t = R' t) : bl l R = bl l R' := by
  unfold bl
  apply List.map_congr_left
  intro t ht
  exact h t (List.mem_range.1 ht)
theorem bl_set {l : Nat} (R : Nat → Int) (v : Int) (h : 0 < l) : (by8 (bl l R ++ marks)).set 0 (.int .u8 v) = by8 (bl l (fun t => if t = 0 then v else R t) ++ marks) := by
  apply List.ext_getElem?
  intro i
  rw [List.getElem?_set]
  have hb : (bl l R).length = l := bl_len l R
  have hb' : (bl l (fun t => if t = 0 then v else R t)).length = l := bl_len l _
  by_cases h0 : 0 = i
  · subst h0
    rw [if_pos rfl, if_pos (by simp [by8, hb]; omega)]
    simp only [by8, List.getElem?_map]
    rw [List.getElem?_append_left (by omega), bl_get _ _ _ h]
    rfl
  · rw [if_neg h0]
    simp only [by8, List.getElem?_map]
    by_cases hl : i < l
    · rw [List.getElem?_append_left (by omega), List.getElem?_append_left (by omega), bl_get _ _ _ hl, bl_get _ _ _ hl, if_neg (by omega)]
    · rw [List.getElem?_append_right (by omega), List.getElem?_append_right (by omega), hb, hb']
section
variable {W V : World} {n : Int} {nf cf nh ch : Nat} {qf qh : Option Addr} {F PA : Nat → Int} {L : Nat → Nat} {D : Nat → Nat → Int} {fq : Option Addr} {fc : Nat} {hq : Option Addr} {hc : Nat} {gs : List (Nat × Nat)} {fg : Nat}
/-- The first byte of a lent frame is written over. -/
theorem In.bump (h : In W V n nf cf nh ch qf qh F PA L D fq fc hq hc gs) {j g cg : Nat} (hj : gs[j]? = some (g, cg)) (hl : 0 < L j) (v : Int) :
    In W (V.setCell ⟨g, 0, .none⟩ (.int .u8 v)) n nf cf nh ch qf qh F PA L (fun i t => if i = j then (if t = 0 then v else D i t) else D i t) fq fc hq hc gs := by
  have hlent := h.le j _ hj
  obtain ⟨g1, g2⟩ := hlent.lt
  obtain ⟨cur, hcur⟩ := hlent.blk
  simp only at g1 g2 hcur
  refine ⟨h.p.other (by show g ≠ W.heap.size; omega) _, h.c.other (by show g ≠ W.heap.size + 1; omega) _, ?_, ?_, fun i x hi => ?_, h.nd, h.be.setCell (p := ⟨g, 0, .none⟩) (by show W.heap.size ≤ g; omega) _, by rw [World.size_setCell]; exact h.xs⟩
  · refine ownsRow_setCell_other h.fr (a := ⟨g, 0, .none⟩) (fun e => ?_) _
    obtain ⟨c1, e1⟩ := own_blk h.fr e
    rw [hcur] at e1
    cases e1
  · refine ownsRow_setCell_other h.hr (a := ⟨g, 0, .none⟩) (fun e => ?_) _
    obtain ⟨c1, e1⟩ := own_blk h.hr e
    rw [hcur] at e1
    cases e1
  · by_cases e : i = j
    · subst e
      rw [hj] at hi
      obtain rfl : x = (g, cg) := by simpa using hi.symm
      have e1 : bl (L i) (fun t => if i = i then (if t = 0 then v else D i t) else D i t) = bl (L i) (fun t => if t = 0 then v else D i t) := bl_congr fun t _ => by rw [if_pos rfl]
      rw [e1]
      have s := (World.ownsRow.stored hlent 0 (.int .u8 v)).1
      rw [bl_set (D i) v hl] at s
      unfold Lent
      simp only [bl_len] at s ⊢
      exact s
    · have e1 : bl (L i) (fun t => if i = j then (if t = 0 then v else D i t) else D i t) = bl (L i) (D i) := bl_congr fun t _ => by rw [if_neg e]
      rw [e1]
      refine ownsRow_setCell_other (h.le i x hi) (a := ⟨g, 0, .none⟩) (fun e' => ?_) _
      simp only [Value.ownBlock, Option.some.injEq] at e'
      have hi' := (List.getElem?_eq_some_iff.1 hi)
      have hj' := (List.getElem?_eq_some_iff.1 hj)
      obtain ⟨li, ei⟩ := hi'
      obtain ⟨lj, ej⟩ := hj'
      have nd := List.pairwise_iff_getElem.1 h.nd
      rcases Nat.lt_or_gt_of_ne e with hlt | hlt
      · exact nd i j (by simpa using li) (by simpa using lj) hlt (by simp [ei, ej, e'])
      · exact nd j i (by simpa using lj) (by simpa using li) hlt (by simp [ei, ej, e'])
/-- An address of the copied list is written over. -/
theorem In.free (h : In W V n nf cf nh ch qf qh F PA L D (some ⟨fg, 0, .none⟩) fc hq hc gs) {i : Nat} (hi : i < nf) (v : Int) :
    In W (V.setCell ⟨fg, i, .none⟩ (.int .u64 v)) n nf cf nh ch qf qh (fun k => if k = i then v else F k) PA L D (some ⟨fg, 0, .none⟩) fc hq hc gs := by
  obtain ⟨g1, g2⟩ := h.fr.lt fg rfl
  obtain ⟨cur, hcur⟩ := own_blk h.fr (g := fg) rfl
  refine ⟨h.p.other (by show fg ≠ W.heap.size; omega) _, h.c.other (by show fg ≠ W.heap.size + 1; omega) _, ?_, ?_, fun j x hj => ?_, h.nd, h.be.setCell (p := ⟨fg, i, .none⟩) (by show W.heap.size ≤ fg; omega) _, by rw [World.size_setCell]; exact h.xs⟩
  · have s := (World.ownsRow.stored h.fr i (.int .u64 v)).1
    have e : ((List.range nf).map fun i => Value.int .u64 (F i)).set i (.int .u64 v) = (List.range nf).map fun k => Value.int .u64 (if k = i then v else F k) := by
      apply List.ext_getElem?
      intro k
      rw [List.getElem?_set]
      by_cases hk : i = k
      · subst hk
        rw [if_pos rfl, if_pos (by simpa using hi), List.getElem?_map, List.getElem?_range hi]
        simp
      · rw [if_neg hk]
        by_cases hkn : k < nf
        · rw [List.getElem?_map, List.getElem?_map, List.getElem?_range hkn]
          have : ¬ k = i := fun e => hk e.symm
          simp [this]
        · rw [List.getElem?_eq_none (by simp; omega), List.getElem?_eq_none (by simp; omega)]
    rw [e] at s
    exact s
  · refine ownsRow_setCell_other h.hr (a := ⟨fg, i, .none⟩) (fun e => ?_) _
    obtain ⟨c1, e1⟩ := own_blk h.hr e
    rw [hcur] at e1
    cases e1
  · refine ownsRow_setCell_other (h.le j x hj) (a := ⟨fg, i, .none⟩) (fun e => ?_) _
    obtain ⟨c1, e1⟩ := (h.le j x hj).blk
    simp only [Value.ownBlock, Option.some.injEq] at e
    rw [e, hcur] at e1
    cases e1
end
end Go.Proofs.Ytnghcadhilfgnaa
namespace Go.Proofs.Ytnghcadhilfgnaa
open Go.RowKit
set_option linter.unusedVariables false
set_option linter.unusedSimpArgs false
theorem flat2_get (f g : Nat → Value) : ∀ (k : Nat), ((List.range k).flatMap fun j => [f j, g j]).length = k * 2 ∧ ∀ i, i < k → ((List.range k).flatMap fun j => [f j, g j])[i * 2]? = some (f i) ∧ ((List.range k).flatMap fun j => [f j, g j])[i * 2 + 1]? = some (g i)
  | 0 => ⟨rfl, fun i hi => by omega⟩
  | k + 1 => by
    obtain ⟨h1, h2⟩ := flat2_get f g k
    have e : ((List.range (k + 1)).flatMap fun j => [f j, g j]) = ((List.range k).flatMap fun j => [f j, g j]) ++ [f k, g k] := by
      rw [List.range_succ, List.flatMap_append]
      simp
    rw [e]
    refine ⟨by rw [List.length_append, h1]; simp; omega, fun i hi => ?_⟩
    by_cases hk : i < k
    · rw [List.getElem?_append_left (by omega), List.getElem?_append_left (by omega)]
      exact h2 i hk
    · obtain rfl : i = k := by omega
      rw [List.getElem?_append_right (by omega), List.getElem?_append_right (by omega), h1, Nat.sub_self, show i * 2 + 1 - i * 2 = 1 by omega]
      exact ⟨rfl, rfl⟩
theorem flatI_get (PA : Nat → Int) (L : Nat → Nat) (gs : List (Nat × Nat)) (i : Nat) (x : Nat × Nat) (h : gs[i]? = some x) : (flatI PA L gs)[i * 2]? = some (.int .u64 (PA i)) ∧ (flatI PA L gs)[i * 2 + 1]? = some (.slice (some ⟨x.1, 0, .none⟩) (L i) x.2) := by
  rw [flatI_eq]
  have hi := (List.getElem?_eq_some_iff.1 h).1
  obtain ⟨h1, h2⟩ := (flat2_get (fun j => .int .u64 (PA j)) (fun j => .slice (some ⟨(gs.getD j (0, 0)).1, 0, .none⟩) (L j) (gs.getD j (0, 0)).2) gs.length).2 i hi
  refine ⟨h1, h2.trans ?_⟩
  rw [List.getD_eq_getElem?_getD, h]
  rfl
section
variable {W V : World} {n : Int} {nf cf nh ch : Nat} {qf qh : Option Addr} {F PA : Nat → Int} {L : Nat → Nat} {D : Nat → Nat → Int} {fq : Option Addr} {fc : Nat} {hq : Option Addr} {hc : Nat} {gs : List (Nat × Nat)}
theorem In.fs (h : In W V n nf cf nh ch qf qh F PA L D fq fc hq hc gs) : Fs V fq nf F := by
  by_cases h0 : nf = 0
  · exact .inl h0
  · have g0 : ∀ i, i < nf → ((List.range nf).map fun i => Value.int .u64 (F i))[i]? = some (.int .u64 (F i)) := fun i hi => by rw [List.getElem?_map, List.getElem?_range hi]; rfl
    obtain ⟨g, e, c⟩ := own_cell h.fr (g0 0 (by omega)) (by omega) (by omega)
    refine .inr ⟨g, 0, e, lt_of_cell c, fun i hi => ?_⟩
    obtain ⟨g', e', c'⟩ := own_cell h.fr (g0 i hi) (by omega) (by omega)
    rw [e] at e'
    simp only [Option.some.injEq, Addr.mk.injEq, and_true] at e'
    rw [Nat.zero_add, e']
    exact c'
theorem In.hs (h : In W V n nf cf nh ch qf qh F PA L D fq fc hq hc gs) : Hs V hq gs.length PA (fun j => some ⟨(gs.getD j (0, 0)).1, 0, .none⟩) L (fun j => (gs.getD j (0, 0)).2) := by
  by_cases h0 : gs.length = 0
  · exact .inl h0
  · have g0 : ∀ i, i < gs.length → gs[i]? = some (gs.getD i (0, 0)) := fun i hi => by rw [List.getD_eq_getElem?_getD, List.getElem?_eq_getElem hi]; rfl
    obtain ⟨g, e, c⟩ := own_cell h.hr (flatI_get PA L gs 0 _ (g0 0 (by omega))).1 (by omega) (by omega)
    refine .inr ⟨g, 0, e, lt_of_cell c, fun i hi => ?_⟩
    obtain ⟨f1, f2⟩ := flatI_get PA L gs i _ (g0 i hi)
    obtain ⟨g', e', c'⟩ := own_cell h.hr f1 (by omega) (by omega)
    obtain ⟨g'', e'', c''⟩ := own_cell h.hr f2 (by omega) (by omega)
    rw [e] at e' e''
    simp only [Option.some.injEq, Addr.mk.injEq, and_true] at e' e''
    subst e'
    subst e''
    rw [Nat.zero_add]
    exact ⟨c', c''⟩
theorem lent_cell {X g c : Nat} {l : Nat} {R : Nat → Int} (h : Lent V X g c (bl l R)) (t : Nat) (ht : t < l) : V.cell? ⟨g, t, .none⟩ = some (.int .u8 (R t)) := by
  have hl : (bl l R).length = l := bl_len l R
  have e : (by8 (bl l R ++ marks))[t]? = some (.int .u8 (R t)) := by
    simp only [by8, List.getElem?_map]
    rw [List.getElem?_append_left (by omega), bl_get _ _ _ ht]
    rfl
  obtain ⟨g', e', c'⟩ := own_cell h e (by omega) (by omega)
  simp only [Option.some.injEq, Addr.mk.injEq, and_true] at e'
  rw [e']
  exact c'
theorem In.ds (h : In W V n nf cf nh ch qf qh F PA L D fq fc hq hc gs) : Ds V gs.length (fun j => some ⟨(gs.getD j (0, 0)).1, 0, .none⟩) L D := by
  intro i hi
  have g0 : gs[i]? = some (gs.getD i (0, 0)) := by rw [List.getD_eq_getElem?_getD, List.getElem?_eq_getElem hi]; rfl
  have hl := h.le i _ g0
  refine .inr ⟨_, 0, rfl, hl.lt.2, fun j hj => ?_⟩
  rw [Nat.zero_add]
  exact lent_cell hl j hj
/-- What the copy shows. -/
theorem In.see (h : In W V n nf cf nh ch qf qh F PA L D fq fc hq hc gs) : See V .u64 fq nf F ∧ SeeH V hq gs.length PA L D := by
  refine ⟨h.fs, ?_⟩
  rcases h.hs with h0 | ⟨g, o, e, l, hc⟩
  · exact .inl h0
  · refine .inr ⟨g, o, e, l, fun i hi => ⟨(hc i hi).1, _, _, (hc i hi).2, ?_⟩⟩
    rcases h.ds i hi with h0 | ⟨b, o', e', l', hd⟩
    · exact .inl h0
    · exact .inr ⟨b, o', e', l', hd⟩
end
end Go.Proofs.Ytnghcadhilfgnaa
