import Derived.Test.YtloldhcljdmofaaDoorPg2
namespace Go.Proofs.YtloldhcljdmofaaDoor
open Go.RowKit
set_option linter.unusedVariables false
set_option linter.unusedSimpArgs false
/-- How many bytes the first so many segments have. -/
def szs : List Sg → Nat → Nat
  | _, 0 => 0
  | [], _ + 1 => 0
  | s :: S, i + 1 => s.sz + szs S i
theorem szs_succ : ∀ (S : List Sg) (i : Nat) (s : Sg), S[i]? = some s → szs S (i + 1) = szs S i + s.sz
  | [], i, s, h => by simp at h
  | x :: S, 0, s, h => by
    simp only [List.getElem?_cons_zero, Option.some.injEq] at h
    subst h
    simp [szs]
  | x :: S, i + 1, s, h => by
    simp only [List.getElem?_cons_succ] at h
    have := szs_succ S i s h
    simp only [szs] at *
    omega
theorem szs_mono : ∀ (S : List Sg) (i j : Nat), i ≤ j → szs S i ≤ szs S j
  | S, 0, j, _ => by simp [szs]
  | [], i + 1, j, h => by
    obtain ⟨k, rfl⟩ : ∃ k, j = k + 1 := ⟨j - 1, by omega⟩
    simp [szs]
  | s :: S, i + 1, j, h => by
    obtain ⟨k, rfl⟩ : ∃ k, j = k + 1 := ⟨j - 1, by omega⟩
    have := szs_mono S i k (by omega)
    simp only [szs]
    omega
/-- The segments' bytes lie one behind the other, behind the headers. -/
def Plc (S : List Sg) : Prop := ∀ i s, S[i]? = some s → s.wh = 64 + 56 * S.length + szs S i
def sgB (S : List Sg) (i : Nat) : Nat → Int := match S[i]? with | some s => segB s.va s.fl s.mem s.wh s.sz | none => fun _ => 0
/-- The file's bytes. -/
def fil (en : Int) (S : List Sg) (B : Nat → Int) : Nat → Int := fun k => if k < 64 then headB en S.length k else if k < 64 + 56 * S.length then sgB S ((k - 64) / 56) ((k - 64) % 56) else B k
theorem lst_size (H : Nat → Int) (n : Nat) : (lst H n).toArray.size = n := by rw [List.size_toArray, lst_len]
theorem lst_add (H : Nat → Int) (n k : Nat) : lst H (n + k) = lst H n ++ (List.range k).map fun j => .int .u8 (H (n + j)) := by
  simp only [lst]
  rw [List.range_add, List.map_append, List.map_map]
  rfl
theorem fil_head (en : Int) (S : List Sg) (B : Nat → Int) : lst (fil en S B) 64 = lst (headB en S.length) 64 := by
  simp only [lst]
  apply List.map_congr_left
  intro k hk
  simp only [fil, if_pos (List.mem_range.1 hk)]
theorem fil_seg (en : Int) (S : List Sg) (B : Nat → Int) (i : Nat) (s : Sg) (hs : S[i]? = some s) : lst (fil en S B) (64 + 56 * (i + 1)) = lst (fil en S B) (64 + 56 * i) ++ lst (segB s.va s.fl s.mem s.wh s.sz) 56 := by
  have hlt := (List.getElem?_eq_some_iff.1 hs).1
  rw [show 64 + 56 * (i + 1) = 64 + 56 * i + 56 by omega, lst_add]
  congr 1
  simp only [lst]
  apply List.map_congr_left
  intro k hk
  have hk := List.mem_range.1 hk
  simp only [fil, if_neg (show ¬ 64 + 56 * i + k < 64 by omega), if_pos (show 64 + 56 * i + k < 64 + 56 * S.length by omega)]
  rw [show (64 + 56 * i + k - 64) / 56 = i by omega, show (64 + 56 * i + k - 64) % 56 = k by omega]
  simp only [sgB, hs]
theorem fil_dat (en : Int) (S : List Sg) (B : Nat → Int) (hP : Plc S) (i : Nat) (s : Sg) (hs : S[i]? = some s) : lst (fil en S B) (64 + 56 * S.length + szs S (i + 1)) = lst (fil en S B) (64 + 56 * S.length + szs S i) ++ by8 (byt B s) := by
  rw [szs_succ S i s hs, ← Nat.add_assoc, lst_add]
  congr 1
  simp only [by8, byt, List.map_map]
  apply List.map_congr_left
  intro k hk
  have := hP i s hs
  simp only [fil, Function.comp, if_neg (show ¬ 64 + 56 * S.length + szs S i + k < 64 by omega), if_neg (show ¬ 64 + 56 * S.length + szs S i + k < 64 + 56 * S.length by omega)]
  rw [this]
theorem there_z (w : World) (n : Nat) (t : TypeId) : (w.alloc (.cells (List.replicate n (.int .u8 0)).toArray t)).there w.heap.size 0 n := by
  intro j hj
  constructor
  · rw [World.cell?_alloc_at _ _ _ _ rfl]
    simp [hj]
  · simp
theorem wpList_readP {P : Program} {ops : Array Oper} {rest : List Oper} {o : Oper} {a : Act} {w : World} {Q : Exit → Act → World → Prop} (hg : o.guard = .none) (v : Value) (hrun : (execOp a.eval o).run P w = .ok (.value v) w)
    (h : wpList P ops Q rest (a.put o.dst v) w) : wpList P ops Q (o :: rest) a w := wpList_plain hg fun K hK => by
  unfold Oper.wp
  rw [hrun, Oper.upon_value]
  exact hK _ _ h
theorem wpList_new {P : Program} {ops : Array Oper} {rest : List Oper} {o : Oper} {a : Act} {w : World} {Q : Exit → Act → World → Prop} (hg : o.guard = .none) (v : Value) (ob : Obj) (hrun : (execOp a.eval o).run P w = .ok (.value v) (w.alloc ob))
    (h : wpList P ops Q rest (a.put o.dst v) (w.alloc ob)) : wpList P ops Q (o :: rest) a w := wpList_plain hg fun K hK => by
  unfold Oper.wp
  rw [hrun, Oper.upon_value]
  exact hK _ _ h
end Go.Proofs.YtloldhcljdmofaaDoor
