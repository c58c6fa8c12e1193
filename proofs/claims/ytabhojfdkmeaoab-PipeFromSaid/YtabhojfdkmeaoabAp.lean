import Derived.Test.YtabhojfdkmeaoabAc
namespace Go.Proofs.Ytabhojfdkmeaoab
open Go.RowKit
set_option linter.unusedVariables false
set_option linter.unusedSimpArgs false
theorem run_append_none (g n cp : Nat) (p : Option Addr) (c : Nat) (ty : TypeId) (w : World) (hn : n ≤ cp) : (Builtin.append_ #[22, 22] ty #[.slice (some ⟨g, 0, .none⟩) n cp, .slice p 0 c]).run Try.prog w = .ok (.slice (some ⟨g, 0, .none⟩) n cp) w := by
  obtain ⟨i, z, hi, _⟩ := byte_info
  cases p <;> simp [Builtin.append_, run_underlying Try.underlying22, sizeOf, typeInfo, hi, Builtin.lenOf, Builtin.firstCells, loadCells, loadCellsFrom, hn] <;> rfl
theorem run_append_nn (p : Option Addr) (c : Nat) (ty : TypeId) (w : World) : (Builtin.append_ #[22, 22] ty #[.slice none 0 0, .slice p 0 c]).run Try.prog w = .ok (.slice none 0 0) w := by
  obtain ⟨i, z, hi, _⟩ := byte_info
  cases p <;> simp [Builtin.append_, run_underlying Try.underlying22, sizeOf, typeInfo, hi, Builtin.lenOf, Builtin.firstCells, loadCells, loadCellsFrom]
/-- append(v, b...): a row of one's own, and any bytes. -/
theorem app_byt {w : World} {base : Nat} {v : Value} {n : Nat} {xs : List Int} (hown : w.ownsRow base 5 1 v n (by8 xs)) {p : Option Addr} {k c : Nat} {ys : List Int} (hB : Byt w p k c ys) (hbytes : n + k ≤ 140737488355328) (hbase : base ≤ w.heap.size) (ty : TypeId) :
    ∃ v' w', (Builtin.append_ #[22, 22] ty #[v, .slice p k c]).run Try.prog w = .ok v' w' ∧ w'.ownsRow base 5 1 v' (n + k) (by8 (xs ++ ys)) ∧ w.grownBy w' v.ownBlock ∧ (∀ g, v'.ownBlock = some g → v.ownBlock = some g ∨ w.heap.size ≤ g) := by
  by_cases h0 : k = 0
  · subst h0
    obtain rfl : ys = [] := List.length_eq_zero_iff.1 hB.1
    rw [List.append_nil, Nat.add_zero]
    rcases hown.2 with ⟨rfl, rfl⟩ | ⟨g, cap, cur, rfl, hbg, hg, hnc, _⟩
    · exact ⟨_, _, run_append_nn p c ty w, hown, ⟨rfl, rfl, rfl, Nat.le_refl _, fun _ _ _ => rfl⟩, fun g h => .inl h⟩
    · exact ⟨_, _, run_append_none g n cap p c ty w hnc, hown, ⟨rfl, rfl, rfl, Nat.le_refl _, fun _ _ _ => rfl⟩, fun g h => .inl h⟩
  · obtain ⟨hl, hkc, hcm, h4⟩ := hB
    rcases h4 with h4 | ⟨sb, so, rfl, hsb, h5⟩
    · omega
    · obtain ⟨i, z, hi, hz, hs, hb, hzs⟩ := byte_info
      have hnews := byt_cells h5
      have h1 := by8_one ys
      have hlen : (by8 ys).length = k * 1 := by rw [by8_len]; omega
      have h63 : n + k ≤ maxLen := by simp only [maxLen]; omega
      obtain ⟨v', w', hr, h2, h3, _⟩ := run_append_own (P := Try.prog) w base 22 ty 5 i z 1 1 Try.underlying22 hi hz hs hb hzs (by decide) v n (by8 xs) hown ⟨sb, so, .none⟩ k c (by8 ys) hlen hnews h1 h63 (by omega) hbase
      refine ⟨v', w', hr, by rw [by8_app]; exact h2, h3, ?_⟩
      rcases hown.2 with ⟨rfl, rfl⟩ | ⟨g, cap, cur, rfl, hbg, hg, hnc, hcm', hcs, htake⟩
      · have hr' := run_append_nil (P := Try.prog) w 22 ty 5 i z Try.underlying22 hi hz ⟨sb, so, .none⟩ k c (by8 ys) (by rw [hs]; exact hlen) hnews (by omega) (by omega) (by rw [hb]; omega)
        rw [hr] at hr'
        simp only [Result.ok.injEq] at hr'
        obtain ⟨rfl, rfl⟩ := hr'
        intro g hg
        simp only [Value.ownBlock, Option.some.injEq] at hg
        exact .inr (by omega)
      · by_cases hroom : n + k ≤ cap
        · have hr' := run_append_room (P := Try.prog) w 22 ty 5 i Try.underlying22 hi g n cap cur hg ⟨sb, so, .none⟩ k c (by8 ys) (by rw [hs]; exact hlen) hnews h1 hroom (by rw [hs, hcs, by8_len]; omega)
          rw [hr] at hr'
          simp only [Result.ok.injEq] at hr'
          obtain ⟨rfl, rfl⟩ := hr'
          exact fun g' h => .inl h
        · have hr' := run_append_grow (P := Try.prog) w 22 ty 5 i z Try.underlying22 hi hz ⟨g, 0, none⟩ n cap (by8 xs) (by rw [hs]; exact hown.1) (hown.cells (g := g) rfl) ⟨sb, so, .none⟩ k c (by8 ys) (by rw [hs]; exact hlen) hnews (by omega) (by omega) (growslice_fits (by omega) (by rw [hb]; omega))
          rw [hr] at hr'
          simp only [Result.ok.injEq] at hr'
          obtain ⟨rfl, rfl⟩ := hr'
          intro g' hg'
          simp only [Value.ownBlock, Option.some.injEq] at hg'
          refine .inr ?_
          have : w.drew.heap.size = w.heap.size := rfl
          omega
theorem wpList_app {w : World} {ops : Array Oper} {rest : List Oper} {o : Oper} {a : Act} {Q : Exit → Act → World → Prop} (hgd : o.guard = none) (s x : Operand)
    (ho : o.op = .call { callee := .builtin .append, args := #[s, x], argTypes := #[22, 22] }) (base : Nat) (v : Value) (n : Nat) (xs : List Int) (hs : a.eval s = v) (p : Option Addr) (k c : Nat) (ys : List Int) (hx : a.eval x = .slice p k c)
    (hown : w.ownsRow base 5 1 v n (by8 xs)) (hB : Byt w p k c ys) (hbytes : n + k ≤ 140737488355328) (hbase : base ≤ w.heap.size)
    (h : ∀ v' w', w'.ownsRow base 5 1 v' (n + k) (by8 (xs ++ ys)) → w.grownBy w' v.ownBlock → (∀ g, v'.ownBlock = some g → v.ownBlock = some g ∨ w.heap.size ≤ g) → wpList Try.prog ops Q rest (a.put o.dst v') w') : wpList Try.prog ops Q (o :: rest) a w := by
  obtain ⟨v', w', hr, h2, h3, h4⟩ := app_byt hown hB hbytes hbase o.type
  refine wpList_plain hgd fun K hK => ?_
  unfold Oper.wp execOp
  simp only [ho, resolve, invoke, builtin, Sem.run_bind, Sem.run_pure, Result.andThen_ok, List.map_toArray, List.map_cons, List.map_nil, hs, hx, hr]
  exact hK _ _ (h v' w' h2 h3 h4)
end Go.Proofs.Ytabhojfdkmeaoab
