import Derived.Test.YtjbealefopajcaaDoorEAcc
import Derived.Deep.QuietTactic
import Derived.BigQuiet
import Derived.WalkSmall
import Derived.LoopTactic
import Derived.RegionTactic
import Derived.BigRegion
import Derived.Deep.RegionLawGrows
import Derived.Lib.SmallJoins
namespace Go.Proofs.YtjbealefopajcaaDoor
open Go.RowKit
set_option linter.unusedVariables false
def ramB : ByteArray := ⟨#[101, 110, 103, 105, 110, 101]⟩
def FaultIn (w' : World) (B : Nat) (v : Value) (a r : Int) : Prop :=
  ∃ b, B ≤ b ∧ b < w'.heap.size ∧ v = .iface 49 (.pointer (some ⟨b, 0, .none⟩)) ∧ w'.cell? ⟨b, 0, .none⟩ = some (.string ramB) ∧ w'.cell? ⟨b, 1, .none⟩ = some (.int .i64 a) ∧ w'.cell? ⟨b, 2, .none⟩ = some (.iface 51 (.int .i64 r))
theorem faultIn_new (w : World) (B : Nat) (a r : Int) (h : B ≤ w.heap.size) : FaultIn (w.alloc (.cells #[.string ramB, .int .i64 a, .iface 51 (.int .i64 r)] 66)) B (.iface 49 (.pointer (some ⟨w.heap.size, 0, .none⟩))) a r :=
  ⟨w.heap.size, h, by simp, rfl, by simp, by simp, by simp⟩
theorem faultIn_keep {W w' : World} {B : Nat} {v : Value} {a r : Int} (h : Below W.heap.size W w') (hF : FaultIn W B v a r) : FaultIn w' 0 v a r := by
  obtain ⟨b, _, hb, hv, f0, f1, f2⟩ := hF
  exact ⟨b, Nat.zero_le _, Nat.lt_of_lt_of_le hb h.size, hv, (h.cell hb).trans f0, (h.cell hb).trans f1, (h.cell hb).trans f2⟩
set_option maxHeartbeats 1000000 in
theorem told_nil (w : World) :
    Calls Tryd.prog 21 #[.nilIface] w fun e w' => e = .returned (.tuple #[.agg #[.slice .none 0 0, .int .i64 0], .bool true]) ∧ Below w.heap.size w w' := by
  go_enter Tryd.func21, Tryd.ntmps21
  go_wp2
  refine wp_loop_once ?_
  go_wp2
  go_region
  go_wp2
  exact bodyPost_ret (v := .tuple #[.agg #[.slice .none 0 0, .int .i64 0], .bool true]) (by simp [results, Tryd.results21, go_sem]) rfl ⟨rfl, ((below_past _ _).alloc (by simp only [World.size_alloc]; omega) _).drew⟩
theorem link_info : ∃ i z, Tryd.prog.info? 77 = some i ∧ i.zero = some z ∧ i.size = 2 ∧ i.bytes = 24 ∧ z.cells.size = 2 := by
  have h1 : (Tryd.prog.info? 77).map (fun i => (i.size, i.bytes)) = some (2, 24) := by kernel_rfl
  have h2 : ((Tryd.prog.info? 77).bind (·.zero)).map (·.cells.size) = some 2 := by kernel_rfl
  cases hi : Tryd.prog.info? 77 with
  | none => rw [hi] at h1; cases h1
  | some i =>
    rw [hi] at h1 h2
    simp only [Option.map_some, Option.some.injEq, Prod.mk.injEq, Option.bind_some] at h1 h2
    cases hz : i.zero with
    | none => rw [hz] at h2; cases h2
    | some z =>
      rw [hz] at h2
      exact ⟨i, z, rfl, hz, h1.1, h1.2, by simpa using h2⟩
theorem two_of (x y : Value) (Z : Array Value) : (#[x, y] ++ Z)[0]? = some x ∧ (#[x, y] ++ Z)[1]? = some y := by
  constructor <;> simp [Array.getElem?_append]
/-- Behind the first round of Told: the fault has one link, in a row of its own. -/
def ToldMid (w wr : World) (a : Int) : Prop :=
  ∃ (C : Nat) (T : Array Value), wr = ((((w.alloc (.cells #[.slice .none 0 0, .int .i64 0] 35)).alloc (.cells #[.slice (some ⟨w.heap.size + 1 + 1 + 1, 0, .none⟩) 1 C, .int .i64 0] 35)).alloc (.cells #[.string ramB, .int .i64 a] 77)).alloc (.cells T 77)).drew.drew ∧
    T[0]? = some (.string ramB) ∧ T[1]? = some (.int .i64 a)
set_option maxHeartbeats 1000000 in
theorem told_fault (b : Nat) (a r : Int) (w : World) (hb : b < w.heap.size) (hr : r ≠ 0) (h0 : w.cell? ⟨b, 0, .none⟩ = some (.string ramB)) (h1 : w.cell? ⟨b, 1, .none⟩ = some (.int .i64 a)) (h2 : w.cell? ⟨b, 2, .none⟩ = some (.iface 51 (.int .i64 r))) :
    Calls Tryd.prog 21 #[.iface 49 (.pointer (some ⟨b, 0, .none⟩))] w fun e w' => (∃ B cap, e = .returned (.tuple #[.agg #[.slice (some ⟨B, 0, .none⟩) 1 cap, .int .i64 r], .bool true]) ∧ B < w'.heap.size ∧ w'.cell? ⟨B, 0, .none⟩ = some (.string ramB) ∧ w'.cell? ⟨B, 1, .none⟩ = some (.int .i64 a)) ∧ Below w.heap.size w w' := by
  have hcap : ¬ 281474976710656 < Builtin.nextslicecap 1 0 * Tryd.t77.bytes := of_decide_eq_false (by kernel_rfl)
  have hb1 : b < w.heap.size + 1 := by omega
  have hb2 : b < w.heap.size + 1 + 1 := by omega
  have hb3 : b < w.heap.size + 1 + 1 + 1 := by omega
  go_enter Tryd.func21, Tryd.ntmps21
  go_wp2
  go_loopw [0, 5] (fun er i wr => (er = .iface 49 (.pointer (some ⟨b, 0, .none⟩)) ∧ i = .int .i64 0 ∧ wr = (w.alloc (.cells #[.slice .none 0 0, .int .i64 0] 35)).alloc (.cells #[.slice .none 0 0, .int .i64 0] 35)) ∨
    (er = .iface 51 (.int .i64 r) ∧ i = .int .i64 1 ∧ ToldMid w wr a)) (fun _ i _ => (2 - intOf i).toNat)
  case atStart => exact .inl ⟨rfl, rfl, rfl⟩
  case round =>
    rcases hrel with ⟨rfl, rfl, rfl⟩ | ⟨rfl, rfl, hmid⟩
    · go_upto_region 11 with fail
      refine wp_region_lit ?_
      refine wpList_read rfl (.tuple #[.pointer (some ⟨b, 0, .none⟩), .bool true]) (by kernel_rfl) ?_
      simp only [Act.put, List.setIfInBounds_toArray, List.set_cons_succ, List.set_cons_zero]
      go_upto_region 15 with fail
      go_region
      go_wp2
      exact ⟨.inr ⟨rfl, rfl, _, _, rfl, (two_of _ _ _).1, (two_of _ _ _).2⟩, by simp [intOf]⟩
    · obtain ⟨C, T, rfl, t0, t1⟩ := hmid
      have gr : (r != 0) = true := by simpa using hr
      clear hr
      go_upto_region 11 with fail
      refine wp_region_lit ?_
      refine wpList_read rfl (.tuple #[.pointer .none, .bool false]) (by kernel_rfl) ?_
      simp only [Act.put, List.setIfInBounds_toArray, List.set_cons_succ, List.set_cons_zero]
      go_upto_region 17 with fail
      refine wp_region_lit ?_
      refine wpList_read rfl (.tuple #[.int .i64 r, .bool true]) (by kernel_rfl) ?_
      simp only [Act.put, List.setIfInBounds_toArray, List.set_cons_succ, List.set_cons_zero]
      go_wp2
      go_region
      go_wp2
      refine bodyPost_ret (v := .tuple #[.agg #[.slice (some ⟨w.heap.size + 1 + 1 + 1, 0, .none⟩) 1 C, .int .i64 r], .bool true]) (by simp [results, Tryd.results21, go_sem]) rfl ⟨⟨_, _, rfl, ?_, ?_, ?_⟩, ?_⟩
      · simp
      · simpa [World.cell?_alloc_at] using t0
      · simpa [World.cell?_alloc_at] using t1
      · exact (((((below_past _ _).alloc (by simp only [World.size_alloc]; omega) _).alloc (by simp only [World.size_alloc]; omega) _).alloc (by simp only [World.size_alloc]; omega) _).drew).drew.drew
end Go.Proofs.YtjbealefopajcaaDoor
