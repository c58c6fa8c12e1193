import Derived.Test.YthopgmmodldljabNl
import Derived.Laws.AppendOwn
import Derived.Laws.OwnMore
namespace Go.Proofs.Ythopgmmodldljab
open Go Go.RowKit
set_option linter.unusedVariables false
set_option linter.unusedSimpArgs false
/-! An append to a row of one's own of structs, and what stays beside it. -/
theorem run_append_keepG (P : Program) (w : World) (base : Nat) (t ty e : TypeId) (i : TypeInfo) (z : Value) (k bytes : Nat) (ht : P.underlying t = some (.slice e)) (hi : P.info? e = some i) (hz : i.zero = some z)
  (hsize : i.size = k) (hby : i.bytes = bytes) (hzs : z.cells.size = k) (hk : 0 < k) (v : Value) (n : Nat) (xs : List Value) (hown : w.ownsRow base e k v n xs)
  (a : Addr) (c : Nat) (cs : List Value) (hcl : cs.length = k) (hnews : ∀ j u, cs[j]? = some u → w.cell? (a.add j) = some u) (h1 : ∀ u ∈ cs, u.oneCell' = true) (h63 : n + 1 ≤ maxLen) (hbytes : (n + 1) * bytes ≤ 140737488355328) (hbase : base ≤ w.heap.size) :
  ∃ v' w', (Builtin.append_ #[t, t] ty #[v, .slice (some a) 1 c]).run P w = .ok v' w' ∧ w'.ownsRow base e k v' (n + 1) (xs ++ cs) ∧ w.grownBy w' v.ownBlock ∧
   (∀ v0 n0 xs0, (v0.ownBlock = v.ownBlock → n0 ≤ n) → w.ownsRow base e k v0 n0 xs0 → w'.ownsRow base e k v0 n0 xs0) ∧ (∃ b, v'.ownBlock = some b ∧ (v.ownBlock = some b ∨ w.heap.size ≤ b)) := by
 have h63' : n + 1 ≤ 9223372036854775807 := by simp only [maxLen] at h63; omega
 have hc1 : cs.length = 1 * k := by omega
 obtain ⟨v', w', hr, h2, h3, h4⟩ := run_append_own (P := P) w base t ty e i z k bytes ht hi hz hsize hby hzs hk v n xs hown a 1 c cs hc1 hnews h1 h63 hbytes hbase
 refine ⟨v', w', hr, h2, h3, ?_, ?_⟩
 ·rcases hown.2 with ⟨rfl, rfl⟩ | ⟨g, cap, cur, rfl, hbg, hg, hnc, hcm, hcs, htake⟩
  ·intro v0 n0 xs0 hn0 h0
   exact h0.kept h3 (by cases v0.ownBlock <;> simp [Value.ownBlock])
  ·intro v0 n0 xs0 hn0 h0
   by_cases hroom : n + 1 ≤ cap
   ·have hrk : (n + 1) * k ≤ cap * k := Nat.mul_le_mul_right k hroom
    have hr' := run_append_room (P := P) w t ty e i ht hi g n cap cur hg a 1 c cs (by rw [hsize]; exact hc1) hnews h1 hroom (by rw [hsize, hcs, hcl]; rw [Nat.succ_mul] at hrk; exact hrk)
    rw [hr] at hr'
    simp only [Result.ok.injEq] at hr'
    obtain ⟨rfl, rfl⟩ := hr'
    rcases h0.2 with ⟨rfl, rfl⟩ | ⟨g0, cap0, cur0, rfl, hb0, hg0, hn0', hc0, hs0, ht0⟩
    ·exact ⟨h0.1, .inl ⟨rfl, rfl⟩⟩
    ·by_cases hgg : g0 = g
     ·subst hgg
      have hn0 := hn0 rfl
      have hcc : cur0 = cur := by
       have e := hg0.symm.trans hg
       simp only [Option.some.injEq, Obj.cells.injEq] at e
       exact e.1
      subst hcc
      have hnk : n0 * k ≤ n * k := Nat.mul_le_mul_right k hn0
      have hnk1 : (n + 1) * k = n * k + k := Nat.succ_mul n k
      refine ⟨h0.1, .inr ⟨g0, cap0, _, rfl, hb0, setRow_heap w g0 cur0 _ e _ hg, hn0', hc0, ?_, ?_⟩⟩
      ·rw [hsize]
       simp only [List.size_toArray, List.length_append, List.length_take, List.length_drop, Array.length_toList]
       rw [hcl]
       omega
      ·rw [hsize]
       simp only [List.append_assoc]
       rw [List.take_append_of_le_length (by simp only [List.length_take, Array.length_toList]; omega), List.take_take, Nat.min_eq_left hnk]
       exact ht0
     ·exact h0.kept h3 (.inr (by simp [Value.ownBlock, hgg]))
   ·have hr' := run_append_grow (P := P) w t ty e i z ht hi hz ⟨g, 0, none⟩ n cap xs (by rw [hsize]; exact hown.1) (hown.cells (g := g) rfl) a 1 c cs (by rw [hsize]; exact hc1) hnews (by omega) (by omega) (growslice_fits (by omega) (by rw [hby]; exact hbytes))
    rw [hr] at hr'
    simp only [Result.ok.injEq] at hr'
    obtain ⟨rfl, rfl⟩ := hr'
    exact h0.kept (row := none) ⟨rfl, rfl, rfl, by simp, fun k hk _ => RowKit.Below.heap_alloc w.drew _ k hk⟩ (by cases v0.ownBlock <;> simp)
 ·rcases hown.2 with ⟨rfl, rfl⟩ | ⟨g, cap, cur, rfl, hbg, hg, hnc, hcm, hcs, htake⟩
  ·have hr' := run_append_nil (P := P) w t ty e i z ht hi hz a 1 c cs (by rw [hsize]; exact hc1) hnews (by omega) (by omega) (by have := hbytes; rw [hby]; omega)
   rw [hr] at hr'
   simp only [Result.ok.injEq] at hr'
   obtain ⟨rfl, rfl⟩ := hr'
   exact ⟨_, rfl, .inr (Nat.le_refl _)⟩
  ·by_cases hroom : n + 1 ≤ cap
   ·have hr' := run_append_room (P := P) w t ty e i ht hi g n cap cur hg a 1 c cs (by rw [hsize]; exact hc1) hnews h1 hroom (by have hrk : (n + 1) * k ≤ cap * k := Nat.mul_le_mul_right k hroom; rw [hsize, hcs, hcl]; rw [Nat.succ_mul] at hrk; exact hrk)
    rw [hr] at hr'
    simp only [Result.ok.injEq] at hr'
    obtain ⟨rfl, rfl⟩ := hr'
    exact ⟨_, rfl, .inl rfl⟩
   ·have hr' := run_append_grow (P := P) w t ty e i z ht hi hz ⟨g, 0, none⟩ n cap xs (by rw [hsize]; exact hown.1) (hown.cells (g := g) rfl) a 1 c cs (by rw [hsize]; exact hc1) hnews (by omega) (by omega) (growslice_fits (by omega) (by rw [hby]; exact hbytes))
    rw [hr] at hr'
    simp only [Result.ok.injEq] at hr'
    obtain ⟨rfl, rfl⟩ := hr'
    exact ⟨_, rfl, .inr (Nat.le_refl _)⟩
/-- A slice of one struct made, and appended: as wpList_pushG, and what stays. -/
theorem wpList_pushK {w : World} {ops : Array Oper} {rest : List Oper} {o1 o2 : Oper} {a : Act} {Q : Exit → Act → World → Prop} {base : Nat} (T E k b : Nat) (hinfo : ∃ i z, Try.prog.info? E = some i ∧ i.zero = some z ∧ i.size = k ∧ i.bytes = b ∧ z.cells.size = k) (hu : Try.prog.underlying T = some (.slice E)) (hk : 0 < k) (hk2 : k ≤ 1000) (hb2 : b ≤ 10000) (v : Value) (n : Nat) (xs : List Value) (hown : w.ownsRow base E k v n xs) (hn : n ≤ 10000000) (hbase : base ≤ w.heap.size)
  (cs : List Value) (hl : cs.length = k) (h1c : ∀ u ∈ cs, u.oneCell' = true) (s d : Tmp) (m : Operand) (g1 : o1.guard = none) (p1 : o1.op = .buildSlice T 1 #[(0, .tmp s)]) (q1 : o1.dst = some d) (g2 : o2.guard = none) (p2 : o2.op = .call { callee := .builtin .append, args := #[m, .tmp d], argTypes := #[T, T] }) (dd : Option Tmp) (q2 : o2.dst = dd)
  (hs : a.eval (.tmp s) = .agg cs.toArray) (hm : (a.put (some d) (.slice (some ⟨w.heap.size, 0, .none⟩) 1 1)).eval m = v) (hd : (a.put (some d) (.slice (some ⟨w.heap.size, 0, .none⟩) 1 1)).eval (.tmp d) = .slice (some ⟨w.heap.size, 0, .none⟩) 1 1)
  (h : ∀ v' w', w'.ownsRow base E k v' (n + 1) (xs ++ cs) → (w.alloc (.cells cs.toArray E)).grownBy w' v.ownBlock → (∀ v0 n0 xs0, (v0.ownBlock = v.ownBlock → n0 ≤ n) → w.ownsRow base E k v0 n0 xs0 → w'.ownsRow base E k v0 n0 xs0) → (∃ b, v'.ownBlock = some b ∧ (v.ownBlock = some b ∨ w.heap.size ≤ b)) →
   wpList Try.prog ops Q rest ((a.put (some d) (.slice (some ⟨w.heap.size, 0, .none⟩) 1 1)).put dd v') w') : wpList Try.prog ops Q (o1 :: o2 :: rest) a w := by
 refine wpList_sliceG T E k b hinfo hk hk2 hu cs hl s g1 p1 (some d) q1 hs ?_
 obtain ⟨i, z, hi, hz, hsz', hb, hzs⟩ := hinfo
 have hb1 := below1 w (.cells cs.toArray E)
 have ha := own_bel hown hb1 (fun g hg => (hown.lt g hg).2)
 obtain ⟨v', w', hr, h2, h3, h4, h5⟩ := run_append_keepG Try.prog (w.alloc (.cells cs.toArray E)) base T o2.type E i z k b hu hi hz hsz' hb hzs hk v n xs ha ⟨w.heap.size, 0, .none⟩ 1 cs hl (fun j u hj => by rw [Addr.add_mid]; exact range_new w cs E j u hj) h1c (by unfold maxLen; omega) (by
  calc (n + 1) * b ≤ 10000001 * 10000 := Nat.mul_le_mul (by omega) hb2
   _ ≤ _ := by decide) (by simp; omega)
 refine wpList_plain g2 fun K hK => ?_
 unfold Oper.wp execOp
 simp only [p2, resolve, invoke, builtin, Sem.run_bind, Sem.run_pure, Result.andThen_ok, List.map_toArray, List.map_cons, List.map_nil, hm, hd, hr]
 refine hK _ _ ?_
 rw [q2]
 refine h v' w' h2 h3 (fun v0 n0 xs0 hn0 h0 => h4 v0 n0 xs0 hn0 (own_bel h0 hb1 (fun g hg => (h0.lt g hg).2))) ?_
 obtain ⟨b', e1, e2⟩ := h5
 exact ⟨b', e1, e2.imp id (fun h => by simp at h; omega)⟩
end Go.Proofs.Ythopgmmodldljab
