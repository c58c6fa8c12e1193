import Derived.Test.YtdkidhipiglbkaaDoorLdA
import Derived.Laws.AppendOwn
import Derived.Laws.OwnMore
import Derived.RegionTactic
import Derived.BigRegion
namespace Go.Proofs.YtdkidhipiglbkaaDoor
open Go.RowKit
set_option linter.unusedVariables false
set_option linter.unusedSimpArgs false
theorem info_of (t : TypeId) (k b : Nat) (h1 : (Tryd.prog.info? t).map (fun i => (i.size, i.bytes)) = some (k, b)) (h2 : ((Tryd.prog.info? t).bind (·.zero)).map (·.cells.size) = some k) :
    ∃ i z, Tryd.prog.info? t = some i ∧ i.zero = some z ∧ i.size = k ∧ i.bytes = b ∧ z.cells.size = k := by
  cases hi : Tryd.prog.info? t with
  | none => rw [hi] at h1; cases h1
  | some i =>
    rw [hi] at h1 h2
    simp only [Option.map_some, Option.some.injEq, Prod.mk.injEq, Option.bind_some] at h1 h2
    cases hz : i.zero with
    | none => rw [hz] at h2; cases h2
    | some z =>
      rw [hz] at h2
      exact ⟨i, z, rfl, hz, h1.1, h1.2, by simpa using h2⟩
theorem insn_info : ∃ i z, Tryd.prog.info? 29 = some i ∧ i.zero = some z ∧ i.size = 6 ∧ i.bytes = 48 ∧ z.cells.size = 6 := info_of 29 6 48 (by kernel_rfl) (by kernel_rfl)
/-- An instruction's cells. -/
def ins (op rd rs1 imm : Int) : List Value := [.int .i64 op, .int .i64 rd, .int .i64 rs1, .int .i64 0, .int .i64 imm, .int .i64 0]
theorem ins_one (op rd rs1 imm : Int) : ∀ u ∈ ins op rd rs1 imm, u.oneCell' = true := by
  intro u hu
  simp only [ins, List.mem_cons, List.not_mem_nil, or_false] at hu
  rcases hu with rfl | rfl | rfl | rfl | rfl | rfl <;> rfl
theorem addr_add (b o j : Nat) : (⟨b, o, .none⟩ : Addr).add j = ⟨b, o + j, .none⟩ := by unfold Addr.add; split <;> simp_all
theorem cells6_new (w : World) (op rd rs1 imm : Int) (t : TypeId) : ∀ j u, (ins op rd rs1 imm)[j]? = some u → (w.alloc (.cells #[.int .i64 op, .int .i64 rd, .int .i64 rs1, .int .i64 0, .int .i64 imm, .int .i64 0] t)).cell? ((⟨w.heap.size, 0, .none⟩ : Addr).add j) = some u := by
  intro j u hj
  rw [addr_add, World.cell?_alloc_at _ _ _ _ rfl, Nat.zero_add]
  simpa [ins] using hj
theorem below_append {B : Nat} {a w w' : World} {row : Option Nat} (h : Below B a w) (o : Obj) (hg : (w.alloc o).grownBy w' row) (hB : B ≤ w.heap.size) (hr : ∀ k, row = some k → B ≤ k) : Below B a w' :=
  (h.alloc hB o).grown hg (by simp only [World.size_alloc]; omega) hr
theorem own_block {w : World} {base e n sz : Nat} {v : Value} {xs : List Value} (h : w.ownsRow base e sz v n xs) : ∀ k, v.ownBlock = some k → base ≤ k := by
  intro k hk
  rcases h.2 with ⟨rfl, rfl⟩ | ⟨g, cap, cur, rfl, hb, _⟩
  · cases hk
  · simp only [Value.ownBlock, Option.some.injEq] at hk; omega
theorem one_slice {w : World} {base e n sz : Nat} {m : Value} {zs : List Value} (h : w.ownsRow base e sz m n zs) : ∃ p c, m = .slice p n c := by
  rcases h.2 with ⟨rfl, rfl⟩ | ⟨g, cap, cur, rfl, _⟩
  · exact ⟨_, _, rfl⟩
  · exact ⟨_, _, rfl⟩
theorem addLow_zero (v : Value) (op rd : Int) (w : World) : Calls Tryd.prog 8 #[v, .int .i64 op, .int .i64 rd, .int .i64 0] w fun e w' => e = .returned v ∧ w' = w := by
  go_enter Tryd.func8, Tryd.ntmps8
  go_wp2
  go_ret
  exact ⟨rfl, rfl⟩
set_option maxHeartbeats 2000000 in
set_option maxRecDepth 100000 in
theorem addLow_some (p : Option Addr) (n c base : Nat) (xs : List Value) (op rd low : Int) (w : World) (hl : low ≠ 0) (hn : n < 1000) (hb : base ≤ w.heap.size) (hown : w.ownsRow base 29 6 (.slice p n c) n xs) :
    Calls Tryd.prog 8 #[.slice p n c, .int .i64 op, .int .i64 rd, .int .i64 low] w fun e w' => ∃ p' c', e = .returned (.slice p' (n + 1) c') ∧ w'.ownsRow base 29 6 (.slice p' (n + 1) c') (n + 1) (xs ++ ins op rd rd low) ∧ Below base w w' := by
  have g : (low == 0) = false := by rw [beq_eq_false_iff_ne]; exact hl
  clear hl
  obtain ⟨i3, z3, hi3, hz3, hs3, hb3, hzs3⟩ := insn_info
  have HI : Hid (Tryd.prog.info? 29 = some i3 ∧ i3.zero = some z3 ∧ i3.size = 6 ∧ i3.bytes = 48 ∧ z3.cells.size = 6) := ⟨hi3, hz3, hs3, hb3, hzs3⟩
  have HO : Hid (w.ownsRow base 29 6 (.slice p n c) n xs) := hown
  clear hi3 hz3 hs3 hb3 hzs3 hown
  go_enter Tryd.func8, Tryd.ntmps8
  go_wp2_with (first
    | (at_builtin; refine wpList_append_own _ rfl _ _ 23 rfl base 29 i3 z3 6 48 Tryd.underlying23 HI.out.1 HI.out.2.1 HI.out.2.2.1 HI.out.2.2.2.1 HI.out.2.2.2.2 (by decide) (.slice p n c) n xs rfl (HO.out.alloc _) ⟨w.heap.size, 0, .none⟩ 1 1 (ins op rd rd low) rfl rfl (cells6_new _ _ _ _ _ _) (ins_one _ _ _ _) ?c4 ?c5 ?c6 ?_)
    | go_in)
  case c4 => simp only [maxLen]; omega
  case c5 => omega
  case c6 => simp only [World.size_alloc]; omega
  · intro v' w2 own' grow fb
    clear fb
    obtain ⟨p', c', rfl⟩ := one_slice own'
    have HW : Hid (w2.ownsRow base 29 6 (.slice p' (n + 1) c') (n + 1) (xs ++ ins op rd rd low) ∧ Below base w w2) := ⟨own', below_append (Below.refl _ _) _ grow hb (own_block HO.out)⟩
    clear own' grow
    go_wp2
    go_ret
    exact ⟨p', c', rfl, HW.out.1, HW.out.2⟩
end Go.Proofs.YtdkidhipiglbkaaDoor
