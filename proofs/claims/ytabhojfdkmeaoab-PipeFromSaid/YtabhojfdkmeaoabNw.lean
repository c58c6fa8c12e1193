import Derived.Test.YtabhojfdkmeaoabSh
import Derived.Test.YtabhojfdkmeaoabEPure
import Derived.Great.Ranges
namespace Go.Proofs.Ytabhojfdkmeaoab
open Go.RowKit
set_option linter.unusedVariables false
set_option linter.unusedSimpArgs false
/-- A pipe's cells when it is made. -/
def pz (r s : Int) (rd wt md : Bool) : Array Value := (List.replicate 512 (Value.int .u8 0) ++ ([.int .u32 r, .int .u32 s, .bool rd, .bool wt, .bool md] : List Value)).toArray
theorem pz_low (r s : Int) (rd wt md : Bool) (i : Nat) (h : i < 512) : (pz r s rd wt md)[i]? = some (.int .u8 0) := by
  unfold pz
  rw [List.getElem?_toArray, List.getElem?_append_left (by rw [List.length_replicate]; exact h), List.getElem?_replicate, if_pos h]
theorem pz_hi (r s : Int) (rd wt md : Bool) (j : Nat) (i : Nat) (hi : i = 512 + j) : (pz r s rd wt md)[i]? = ([.int .u32 r, .int .u32 s, .bool rd, .bool wt, .bool md] : List Value)[j]? := by
  subst hi
  unfold pz
  rw [List.getElem?_toArray, List.getElem?_append_right (by rw [List.length_replicate]; omega), List.length_replicate, Nat.add_sub_cancel_left]
theorem built_new : Try.prog.built 60 [(3, .bool true), (4, .bool true), (5, .bool true)] = some (pz 0 0 true true true) := by kernel_rfl
theorem built_from (r s : Int) (rd wt : Bool) : Try.prog.built 60 [(1, .int .u32 r), (2, .int .u32 s), (3, .bool rd), (4, .bool wt), (5, .bool true)] = some (pz r s rd wt true) := by kernel_rfl
theorem built_zero : Try.prog.built 60 [] = some (pz 0 0 false false false) := by kernel_rfl
theorem wpl_built {ops : Array Oper} {rest : List Oper} {o : Oper} {a : Act} {w : World} {Q : Exit → Act → World → Prop} (hg : o.guard = .none) (t : TypeId) (ps : Array (Nat × Operand)) (ho : o.op = .build t ps)
    (d : Option Tmp) (hd : o.dst = d) (cs : Array Value) (hb : Try.prog.built t (ps.map fun (i, x) => (i, a.eval x)).toList = some cs) (h : wpList Try.prog ops Q rest (a.put d (.agg cs)) w) : wpList Try.prog ops Q (o :: rest) a w := by
  subst hd
  refine wpList_pureStep (a' := a.put o.dst (.agg cs)) ?_ h
  unfold pureStep
  simp only [hg, ho]
  rw [hb]
  rfl
theorem rng_new (w : World) (r s : Int) (rd wt : Bool) (hr : 0 ≤ r ∧ r < 4294967296) (hs : 0 ≤ s ∧ s < 4294967296) : Rng (w.alloc (.cells (pz r s rd wt true) 60)) w.heap.size (fun _ => 0) r s rd wt := by
  have hc : ∀ i v, (pz r s rd wt true)[i]? = some v → (w.alloc (.cells (pz r s rd wt true) 60)).cell? ⟨w.heap.size, i, .none⟩ = some v := fun i v h => by
    rw [World.cell?_alloc_at _ _ _ _ rfl]
    exact h
  exact ⟨fun i hi => hc i _ (pz_low _ _ _ _ _ i hi), fun i => froz_new _ _ _ _, hc _ _ (pz_hi _ _ _ _ _ 0 512 rfl), hc _ _ (pz_hi _ _ _ _ _ 1 513 rfl), hc _ _ (pz_hi _ _ _ _ _ 2 514 rfl), hc _ _ (pz_hi _ _ _ _ _ 3 515 rfl), hc _ _ (pz_hi _ _ _ _ _ 4 516 rfl), fun _ => by decide, hr, hs⟩
theorem pip_new (w : World) (r : Int) (rd wt : Bool) (hr : 0 ≤ r ∧ r < 4294967296) : Pip (w.alloc (.cells (pz r r rd wt true) 60)) w.heap.size [] r rd wt := by
  refine ⟨by simp, fun _ => 0, ?_, fun j x h => by simp at h⟩
  have e : (r + (([] : List Int).length : Int)) % 4294967296 = r := by simp; omega
  rw [e]
  exact rng_new w r r rd wt hr hr
/-- Is it the state of a pipe? -/
def okS (n : Nat) (R S : Int) : Prop := n ≤ 512 ∧ (S - R) % 4294967296 = n
instance (n : Nat) (R S : Int) : Decidable (okS n R S) := by unfold okS; infer_instance
set_option maxHeartbeats 1000000 in
theorem canBe_any (w : World) (p : Option Addr) (n c : Nat) (R S : Int) (rd wt : Bool) (hn : n ≤ 9223372036854775807) :
    Calls Try.prog 15 #[.agg #[.slice p n c, .int .u32 R, .int .u32 S, .bool rd, .bool wt]] w fun e w' => e = .returned (.bool (decide (okS n R S))) ∧ Below w.heap.size w w' := by
  have ew : IntKind.u32.wrap (S - R) = (S - R) % 4294967296 := by simp [IntKind.wrap, IntKind.bits, IntKind.signed]
  by_cases h1 : n ≤ 512
  · have ew2 : IntKind.u32.wrap n = n := by simp [IntKind.wrap, IntKind.bits, IntKind.signed]; omega
    have i1 : (n : Int) ≤ 512 := by omega
    obtain ⟨x, hx⟩ : ∃ x, x = (S - R) % 4294967296 := ⟨_, rfl⟩
    have HD : Hid (decide (okS n R S) = (x == (n : Int))) := by
      show decide (okS n R S) = _
      rw [hx]
      by_cases h2 : (S - R) % 4294967296 = n
      · rw [decide_eq_true ⟨h1, h2⟩]; simp [h2]
      · rw [decide_eq_false (fun h => h2 h.2)]; simp [h2]
    rw [← hx] at ew
    clear hx
    go_enter Try.func15, Try.ntmps15
    go_wp2
    go_ret
    refine ⟨by rw [HD.out]; rfl, (Below.refl _ _).alloc (Nat.le_refl _) _⟩
  · have i1 : ¬ (n : Int) ≤ 512 := by omega
    have HD : Hid (decide (okS n R S) = false) := decide_eq_false (fun h => h1 h.1)
    go_enter Try.func15, Try.ntmps15
    go_wp2
    go_ret
    exact ⟨by rw [HD.out]; rfl, (Below.refl _ _).alloc (Nat.le_refl _) _⟩
end Go.Proofs.Ytabhojfdkmeaoab
