import Derived.Test.YthdahigckflohaaRows
import Derived.Test.YthdahigckflohaaPure
import Derived.WalkKit
import Derived.WalkSpells
import Derived.RowKit3
import Derived.Deep.Cut
import Derived.LoopTactic
import Derived.Below
import Derived.Laws.NewBlocks
namespace Go.Proofs.Ythdahigckflohaa
open Go.RowKit
set_option linter.unusedVariables false
set_option linter.unusedSimpArgs false
theorem bseq {W a b : World} (h : Below W.heap.size W a) (k : Below a.heap.size a b) : Below W.heap.size W b := h.trans (k.mono h.size)
theorem below_past (w : World) (b : Obj) : Below w.heap.size w (w.alloc b) := (Below.refl _ _).alloc (Nat.le_refl _) _
theorem run_store_func (P : Program) (w : World) (a : Addr) (f : Fn) (c d : Array Value) (m : Mode) (hc : (w.cell? a).isSome = true) (hf : w.frozen? a = false) :
    (store a (.func f c d) m).run P w = .ok () (w.setCell a (.func f c d)) := by
  obtain ⟨u, hu⟩ := Option.isSome_iff_exists.1 hc
  rw [run_store P w a (.func f c d) m rfl, hu]
  simp [hf]
theorem run_store_nilFunc (P : Program) (w : World) (a : Addr) (m : Mode) (hc : (w.cell? a).isSome = true) (hf : w.frozen? a = false) :
    (store a .nilFunc m).run P w = .ok () (w.setCell a .nilFunc) := by
  obtain ⟨u, hu⟩ := Option.isSome_iff_exists.1 hc
  rw [run_store P w a .nilFunc m rfl, hu]
  simp [hf]
attribute [local go_sem] run_store_func run_store_nilFunc
theorem bel4 {w wr : World} (h : Below w.heap.size w wr) (a b c d : Value) : Below w.heap.size w ((((wr.setCell ⟨w.heap.size, 0, .none⟩ a).setCell ⟨w.heap.size, 1, .none⟩ b).setCell ⟨w.heap.size, 2, .none⟩ c).setCell ⟨w.heap.size, 3, .none⟩ d) :=
  (((h.setCell (Nat.le_refl _) _).setCell (Nat.le_refl _) _).setCell (Nat.le_refl _) _).setCell (Nat.le_refl _) _
theorem agg57 (w : World) : (isAgg 57).run Try.prog w = .ok true w := by kernel_rfl
def TA : Array Value := #[.int .i64 11, .int .i64 1, .func (.func 38) #[] #[], .nilFunc, .int .i64 12, .int .i64 2, .func (.func 38) #[] #[], .nilFunc, .int .i64 13, .int .i64 4, .func (.func 38) #[] #[], .nilFunc, .int .i64 14, .int .i64 8, .func (.func 38) #[] #[], .nilFunc, .int .i64 15, .int .i64 1, .func (.func 39) #[] #[], .nilFunc, .int .i64 16, .int .i64 2, .func (.func 39) #[] #[], .nilFunc, .int .i64 17, .int .i64 4, .func (.func 39) #[] #[], .nilFunc, .int .i64 18, .int .i64 1, .nilFunc, .func (.func 39) #[] #[], .int .i64 19, .int .i64 2, .nilFunc, .func (.func 39) #[] #[], .int .i64 20, .int .i64 4, .nilFunc, .func (.func 39) #[] #[], .int .i64 21, .int .i64 8, .nilFunc, .func (.func 39) #[] #[]]
def acc (op : Int) : Array Value :=
  if op = 11 then #[.int .i64 11, .int .i64 1, .func (.func 38) #[] #[], .nilFunc]
  else if op = 12 then #[.int .i64 12, .int .i64 2, .func (.func 38) #[] #[], .nilFunc]
  else if op = 13 then #[.int .i64 13, .int .i64 4, .func (.func 38) #[] #[], .nilFunc]
  else if op = 14 then #[.int .i64 14, .int .i64 8, .func (.func 38) #[] #[], .nilFunc]
  else if op = 15 then #[.int .i64 15, .int .i64 1, .func (.func 39) #[] #[], .nilFunc]
  else if op = 16 then #[.int .i64 16, .int .i64 2, .func (.func 39) #[] #[], .nilFunc]
  else if op = 17 then #[.int .i64 17, .int .i64 4, .func (.func 39) #[] #[], .nilFunc]
  else if op = 18 then #[.int .i64 18, .int .i64 1, .nilFunc, .func (.func 39) #[] #[]]
  else if op = 19 then #[.int .i64 19, .int .i64 2, .nilFunc, .func (.func 39) #[] #[]]
  else if op = 20 then #[.int .i64 20, .int .i64 4, .nilFunc, .func (.func 39) #[] #[]]
  else if op = 21 then #[.int .i64 21, .int .i64 8, .nilFunc, .func (.func 39) #[] #[]]
  else #[.int .i64 0, .int .i64 0, .nilFunc, .nilFunc]
theorem ta0 (w : World) : (Instr.index 74 (.agg TA) (.int .i64 0)).run Try.prog w = .ok (.agg #[.int .i64 11, .int .i64 1, .func (.func 38) #[] #[], .nilFunc]) w := by
  rw [run_index_agg w 74 57 11 4 TA 0 (by kernel_rfl) (by kernel_rfl) agg57 (by decide) (by decide)]
  rfl
theorem acc0 : acc 11 = #[.int .i64 11, .int .i64 1, .func (.func 38) #[] #[], .nilFunc] := by simp [acc]
theorem ta1 (w : World) : (Instr.index 74 (.agg TA) (.int .i64 1)).run Try.prog w = .ok (.agg #[.int .i64 12, .int .i64 2, .func (.func 38) #[] #[], .nilFunc]) w := by
  rw [run_index_agg w 74 57 11 4 TA 1 (by kernel_rfl) (by kernel_rfl) agg57 (by decide) (by decide)]
  rfl
theorem acc1 : acc 12 = #[.int .i64 12, .int .i64 2, .func (.func 38) #[] #[], .nilFunc] := by simp [acc]
theorem ta2 (w : World) : (Instr.index 74 (.agg TA) (.int .i64 2)).run Try.prog w = .ok (.agg #[.int .i64 13, .int .i64 4, .func (.func 38) #[] #[], .nilFunc]) w := by
  rw [run_index_agg w 74 57 11 4 TA 2 (by kernel_rfl) (by kernel_rfl) agg57 (by decide) (by decide)]
  rfl
theorem acc2 : acc 13 = #[.int .i64 13, .int .i64 4, .func (.func 38) #[] #[], .nilFunc] := by simp [acc]
theorem ta3 (w : World) : (Instr.index 74 (.agg TA) (.int .i64 3)).run Try.prog w = .ok (.agg #[.int .i64 14, .int .i64 8, .func (.func 38) #[] #[], .nilFunc]) w := by
  rw [run_index_agg w 74 57 11 4 TA 3 (by kernel_rfl) (by kernel_rfl) agg57 (by decide) (by decide)]
  rfl
theorem acc3 : acc 14 = #[.int .i64 14, .int .i64 8, .func (.func 38) #[] #[], .nilFunc] := by simp [acc]
theorem ta4 (w : World) : (Instr.index 74 (.agg TA) (.int .i64 4)).run Try.prog w = .ok (.agg #[.int .i64 15, .int .i64 1, .func (.func 39) #[] #[], .nilFunc]) w := by
  rw [run_index_agg w 74 57 11 4 TA 4 (by kernel_rfl) (by kernel_rfl) agg57 (by decide) (by decide)]
  rfl
theorem acc4 : acc 15 = #[.int .i64 15, .int .i64 1, .func (.func 39) #[] #[], .nilFunc] := by simp [acc]
theorem ta5 (w : World) : (Instr.index 74 (.agg TA) (.int .i64 5)).run Try.prog w = .ok (.agg #[.int .i64 16, .int .i64 2, .func (.func 39) #[] #[], .nilFunc]) w := by
  rw [run_index_agg w 74 57 11 4 TA 5 (by kernel_rfl) (by kernel_rfl) agg57 (by decide) (by decide)]
  rfl
theorem acc5 : acc 16 = #[.int .i64 16, .int .i64 2, .func (.func 39) #[] #[], .nilFunc] := by simp [acc]
theorem ta6 (w : World) : (Instr.index 74 (.agg TA) (.int .i64 6)).run Try.prog w = .ok (.agg #[.int .i64 17, .int .i64 4, .func (.func 39) #[] #[], .nilFunc]) w := by
  rw [run_index_agg w 74 57 11 4 TA 6 (by kernel_rfl) (by kernel_rfl) agg57 (by decide) (by decide)]
  rfl
theorem acc6 : acc 17 = #[.int .i64 17, .int .i64 4, .func (.func 39) #[] #[], .nilFunc] := by simp [acc]
theorem ta7 (w : World) : (Instr.index 74 (.agg TA) (.int .i64 7)).run Try.prog w = .ok (.agg #[.int .i64 18, .int .i64 1, .nilFunc, .func (.func 39) #[] #[]]) w := by
  rw [run_index_agg w 74 57 11 4 TA 7 (by kernel_rfl) (by kernel_rfl) agg57 (by decide) (by decide)]
  rfl
theorem acc7 : acc 18 = #[.int .i64 18, .int .i64 1, .nilFunc, .func (.func 39) #[] #[]] := by simp [acc]
theorem ta8 (w : World) : (Instr.index 74 (.agg TA) (.int .i64 8)).run Try.prog w = .ok (.agg #[.int .i64 19, .int .i64 2, .nilFunc, .func (.func 39) #[] #[]]) w := by
  rw [run_index_agg w 74 57 11 4 TA 8 (by kernel_rfl) (by kernel_rfl) agg57 (by decide) (by decide)]
  rfl
theorem acc8 : acc 19 = #[.int .i64 19, .int .i64 2, .nilFunc, .func (.func 39) #[] #[]] := by simp [acc]
theorem ta9 (w : World) : (Instr.index 74 (.agg TA) (.int .i64 9)).run Try.prog w = .ok (.agg #[.int .i64 20, .int .i64 4, .nilFunc, .func (.func 39) #[] #[]]) w := by
  rw [run_index_agg w 74 57 11 4 TA 9 (by kernel_rfl) (by kernel_rfl) agg57 (by decide) (by decide)]
  rfl
theorem acc9 : acc 20 = #[.int .i64 20, .int .i64 4, .nilFunc, .func (.func 39) #[] #[]] := by simp [acc]
theorem ta10 (w : World) : (Instr.index 74 (.agg TA) (.int .i64 10)).run Try.prog w = .ok (.agg #[.int .i64 21, .int .i64 8, .nilFunc, .func (.func 39) #[] #[]]) w := by
  rw [run_index_agg w 74 57 11 4 TA 10 (by kernel_rfl) (by kernel_rfl) agg57 (by decide) (by decide)]
  rfl
theorem acc10 : acc 21 = #[.int .i64 21, .int .i64 8, .nilFunc, .func (.func 39) #[] #[]] := by simp [acc]
theorem acc_out (op : Int) (h0 : op ≠ 11) (h1 : op ≠ 12) (h2 : op ≠ 13) (h3 : op ≠ 14) (h4 : op ≠ 15) (h5 : op ≠ 16) (h6 : op ≠ 17) (h7 : op ≠ 18) (h8 : op ≠ 19) (h9 : op ≠ 20) (h10 : op ≠ 21) : acc op = #[.int .i64 0, .int .i64 0, .nilFunc, .nilFunc] := by simp [acc, h0, h1, h2, h3, h4, h5, h6, h7, h8, h9, h10]
set_option maxHeartbeats 4000000 in
set_option maxRecDepth 10000 in
theorem access_any (op : Int) (w : World) :
    Calls Try.prog 23 #[.int .i64 op] w fun e w' => e = .returned (.agg (acc op)) ∧ Below w.heap.size w w' := by
  go_enter Try.func23, Try.ntmps23
  go_upto_region 1 with fail
  refine wp_region_lit ?_
  refine wpList_pure 13 ⟨#[.int .i64 op, undef, .pointer (some ⟨w.heap.size, 0, .none⟩), undef, undef, .agg #[.int .i64 11, .int .i64 1, .func (.func 38) #[] #[], .nilFunc], .agg #[.int .i64 12, .int .i64 2, .func (.func 38) #[] #[], .nilFunc], .agg #[.int .i64 13, .int .i64 4, .func (.func 38) #[] #[], .nilFunc], .agg #[.int .i64 14, .int .i64 8, .func (.func 38) #[] #[], .nilFunc], .agg #[.int .i64 15, .int .i64 1, .func (.func 39) #[] #[], .nilFunc], .agg #[.int .i64 16, .int .i64 2, .func (.func 39) #[] #[], .nilFunc], .agg #[.int .i64 17, .int .i64 4, .func (.func 39) #[] #[], .nilFunc], .agg #[.int .i64 18, .int .i64 1, .nilFunc, .func (.func 39) #[] #[]], .agg #[.int .i64 19, .int .i64 2, .nilFunc, .func (.func 39) #[] #[]], .agg #[.int .i64 20, .int .i64 4, .nilFunc, .func (.func 39) #[] #[]], .agg #[.int .i64 21, .int .i64 8, .nilFunc, .func (.func 39) #[] #[]], .agg TA, .int .i64 0, undef, undef, undef, undef, undef, undef, undef, undef, undef], []⟩ (by kernel_rfl) ?_
  conv => arg 4; whnf
  go_wp2
  go_loopw [17] (fun k wr => ∃ n : Nat, n ≤ 11 ∧ k = .int .i64 n ∧ (∀ j : Nat, j < n → op ≠ 11 + j) ∧ Below (w.heap.size + 1) (w.alloc (.cells #[.int .i64 0, .int .i64 0, .nilFunc, .nilFunc] 57)) wr) (fun k _ => 11 - (intOf k).toNat)
  case atStart => exact ⟨0, by omega, rfl, fun j h => by omega, by have := Below.refl (w.alloc (.cells #[.int .i64 0, .int .i64 0, .nilFunc, .nilFunc] 57)).heap.size (w.alloc (.cells #[.int .i64 0, .int .i64 0, .nilFunc, .nilFunc] 57)); simpa using this⟩
  case round =>
    obtain ⟨n, hn, rfl, hne, hB⟩ := hrel
    have hz : w.heap.size < wr.heap.size := by have := hB.size; simp only [World.size_alloc] at this; omega
    have c0 : wr.cell? ⟨w.heap.size, 0, .none⟩ = some (.int .i64 0) := (hB.cell (Nat.lt_succ_self _)).trans (by simp)
    have c1 : wr.cell? ⟨w.heap.size, 1, .none⟩ = some (.int .i64 0) := (hB.cell (Nat.lt_succ_self _)).trans (by simp)
    have c2 : wr.cell? ⟨w.heap.size, 2, .none⟩ = some .nilFunc := (hB.cell (Nat.lt_succ_self _)).trans (by simp)
    have c3 : wr.cell? ⟨w.heap.size, 3, .none⟩ = some .nilFunc := (hB.cell (Nat.lt_succ_self _)).trans (by simp)
    have d0 : wr.frozen? ⟨w.heap.size, 0, .none⟩ = false := (hB.frozen (Nat.lt_succ_self _)).trans (by simp)
    have d1 : wr.frozen? ⟨w.heap.size, 1, .none⟩ = false := (hB.frozen (Nat.lt_succ_self _)).trans (by simp)
    have d2 : wr.frozen? ⟨w.heap.size, 2, .none⟩ = false := (hB.frozen (Nat.lt_succ_self _)).trans (by simp)
    have d3 : wr.frozen? ⟨w.heap.size, 3, .none⟩ = false := (hB.frozen (Nat.lt_succ_self _)).trans (by simp)
    have hW : Below w.heap.size w wr := (below_past _ _).trans (hB.mono (by omega))
    have hN : n = 0 ∨ n = 1 ∨ n = 2 ∨ n = 3 ∨ n = 4 ∨ n = 5 ∨ n = 6 ∨ n = 7 ∨ n = 8 ∨ n = 9 ∨ n = 10 ∨ n = 11 := by omega
    rcases hN with rfl | rfl | rfl | rfl | rfl | rfl | rfl | rfl | rfl | rfl | rfl | rfl
    · have hI := ta0
      by_cases he : op = 11
      · subst he
        clear hne
        go_wp2
        exact bodyPost_ret (v := .agg #[.int .i64 11, .int .i64 1, .func (.func 38) #[] #[], .nilFunc]) (by simp [results, Try.results23, go_sem, hz, c0, c1, c2, c3]) rfl ⟨by rw [acc0], (bel4 hW _ _ _ _).alloc (by simp; omega) _⟩
      · have g : (11 == op) = false := by simpa using fun h => he h.symm
        go_wp2
        exact ⟨⟨1, by omega, rfl, fun j hj => by by_cases h : j < 0; exact hne j h; have : j = 0 := (by omega); subst this; exact he, hB.alloc (by omega) _⟩, by simp [intOf]⟩
    · have hI := ta1
      by_cases he : op = 12
      · subst he
        clear hne
        go_wp2
        exact bodyPost_ret (v := .agg #[.int .i64 12, .int .i64 2, .func (.func 38) #[] #[], .nilFunc]) (by simp [results, Try.results23, go_sem, hz, c0, c1, c2, c3]) rfl ⟨by rw [acc1], (bel4 hW _ _ _ _).alloc (by simp; omega) _⟩
      · have g : (12 == op) = false := by simpa using fun h => he h.symm
        go_wp2
        exact ⟨⟨2, by omega, rfl, fun j hj => by by_cases h : j < 1; exact hne j h; have : j = 1 := (by omega); subst this; exact he, hB.alloc (by omega) _⟩, by simp [intOf]⟩
    · have hI := ta2
      by_cases he : op = 13
      · subst he
        clear hne
        go_wp2
        exact bodyPost_ret (v := .agg #[.int .i64 13, .int .i64 4, .func (.func 38) #[] #[], .nilFunc]) (by simp [results, Try.results23, go_sem, hz, c0, c1, c2, c3]) rfl ⟨by rw [acc2], (bel4 hW _ _ _ _).alloc (by simp; omega) _⟩
      · have g : (13 == op) = false := by simpa using fun h => he h.symm
        go_wp2
        exact ⟨⟨3, by omega, rfl, fun j hj => by by_cases h : j < 2; exact hne j h; have : j = 2 := (by omega); subst this; exact he, hB.alloc (by omega) _⟩, by simp [intOf]⟩
    · have hI := ta3
      by_cases he : op = 14
      · subst he
        clear hne
        go_wp2
        exact bodyPost_ret (v := .agg #[.int .i64 14, .int .i64 8, .func (.func 38) #[] #[], .nilFunc]) (by simp [results, Try.results23, go_sem, hz, c0, c1, c2, c3]) rfl ⟨by rw [acc3], (bel4 hW _ _ _ _).alloc (by simp; omega) _⟩
      · have g : (14 == op) = false := by simpa using fun h => he h.symm
        go_wp2
        exact ⟨⟨4, by omega, rfl, fun j hj => by by_cases h : j < 3; exact hne j h; have : j = 3 := (by omega); subst this; exact he, hB.alloc (by omega) _⟩, by simp [intOf]⟩
    · have hI := ta4
      by_cases he : op = 15
      · subst he
        clear hne
        go_wp2
        exact bodyPost_ret (v := .agg #[.int .i64 15, .int .i64 1, .func (.func 39) #[] #[], .nilFunc]) (by simp [results, Try.results23, go_sem, hz, c0, c1, c2, c3]) rfl ⟨by rw [acc4], (bel4 hW _ _ _ _).alloc (by simp; omega) _⟩
      · have g : (15 == op) = false := by simpa using fun h => he h.symm
        go_wp2
        exact ⟨⟨5, by omega, rfl, fun j hj => by by_cases h : j < 4; exact hne j h; have : j = 4 := (by omega); subst this; exact he, hB.alloc (by omega) _⟩, by simp [intOf]⟩
    · have hI := ta5
      by_cases he : op = 16
      · subst he
        clear hne
        go_wp2
        exact bodyPost_ret (v := .agg #[.int .i64 16, .int .i64 2, .func (.func 39) #[] #[], .nilFunc]) (by simp [results, Try.results23, go_sem, hz, c0, c1, c2, c3]) rfl ⟨by rw [acc5], (bel4 hW _ _ _ _).alloc (by simp; omega) _⟩
      · have g : (16 == op) = false := by simpa using fun h => he h.symm
        go_wp2
        exact ⟨⟨6, by omega, rfl, fun j hj => by by_cases h : j < 5; exact hne j h; have : j = 5 := (by omega); subst this; exact he, hB.alloc (by omega) _⟩, by simp [intOf]⟩
    · have hI := ta6
      by_cases he : op = 17
      · subst he
        clear hne
        go_wp2
        exact bodyPost_ret (v := .agg #[.int .i64 17, .int .i64 4, .func (.func 39) #[] #[], .nilFunc]) (by simp [results, Try.results23, go_sem, hz, c0, c1, c2, c3]) rfl ⟨by rw [acc6], (bel4 hW _ _ _ _).alloc (by simp; omega) _⟩
      · have g : (17 == op) = false := by simpa using fun h => he h.symm
        go_wp2
        exact ⟨⟨7, by omega, rfl, fun j hj => by by_cases h : j < 6; exact hne j h; have : j = 6 := (by omega); subst this; exact he, hB.alloc (by omega) _⟩, by simp [intOf]⟩
    · have hI := ta7
      by_cases he : op = 18
      · subst he
        clear hne
        go_wp2
        exact bodyPost_ret (v := .agg #[.int .i64 18, .int .i64 1, .nilFunc, .func (.func 39) #[] #[]]) (by simp [results, Try.results23, go_sem, hz, c0, c1, c2, c3]) rfl ⟨by rw [acc7], (bel4 hW _ _ _ _).alloc (by simp; omega) _⟩
      · have g : (18 == op) = false := by simpa using fun h => he h.symm
        go_wp2
        exact ⟨⟨8, by omega, rfl, fun j hj => by by_cases h : j < 7; exact hne j h; have : j = 7 := (by omega); subst this; exact he, hB.alloc (by omega) _⟩, by simp [intOf]⟩
    · have hI := ta8
      by_cases he : op = 19
      · subst he
        clear hne
        go_wp2
        exact bodyPost_ret (v := .agg #[.int .i64 19, .int .i64 2, .nilFunc, .func (.func 39) #[] #[]]) (by simp [results, Try.results23, go_sem, hz, c0, c1, c2, c3]) rfl ⟨by rw [acc8], (bel4 hW _ _ _ _).alloc (by simp; omega) _⟩
      · have g : (19 == op) = false := by simpa using fun h => he h.symm
        go_wp2
        exact ⟨⟨9, by omega, rfl, fun j hj => by by_cases h : j < 8; exact hne j h; have : j = 8 := (by omega); subst this; exact he, hB.alloc (by omega) _⟩, by simp [intOf]⟩
    · have hI := ta9
      by_cases he : op = 20
      · subst he
        clear hne
        go_wp2
        exact bodyPost_ret (v := .agg #[.int .i64 20, .int .i64 4, .nilFunc, .func (.func 39) #[] #[]]) (by simp [results, Try.results23, go_sem, hz, c0, c1, c2, c3]) rfl ⟨by rw [acc9], (bel4 hW _ _ _ _).alloc (by simp; omega) _⟩
      · have g : (20 == op) = false := by simpa using fun h => he h.symm
        go_wp2
        exact ⟨⟨10, by omega, rfl, fun j hj => by by_cases h : j < 9; exact hne j h; have : j = 9 := (by omega); subst this; exact he, hB.alloc (by omega) _⟩, by simp [intOf]⟩
    · have hI := ta10
      by_cases he : op = 21
      · subst he
        clear hne
        go_wp2
        exact bodyPost_ret (v := .agg #[.int .i64 21, .int .i64 8, .nilFunc, .func (.func 39) #[] #[]]) (by simp [results, Try.results23, go_sem, hz, c0, c1, c2, c3]) rfl ⟨by rw [acc10], (bel4 hW _ _ _ _).alloc (by simp; omega) _⟩
      · have g : (21 == op) = false := by simpa using fun h => he h.symm
        go_wp2
        exact ⟨⟨11, by omega, rfl, fun j hj => by by_cases h : j < 10; exact hne j h; have : j = 10 := (by omega); subst this; exact he, hB.alloc (by omega) _⟩, by simp [intOf]⟩
    · have e0 := acc_out op (hne 0 (by decide)) (hne 1 (by decide)) (hne 2 (by decide)) (hne 3 (by decide)) (hne 4 (by decide)) (hne 5 (by decide)) (hne 6 (by decide)) (hne 7 (by decide)) (hne 8 (by decide)) (hne 9 (by decide)) (hne 10 (by decide))
      clear hne
      go_wp2
      exact bodyPost_ret (v := .agg #[.int .i64 0, .int .i64 0, .nilFunc, .nilFunc]) (by simp [results, Try.results23, go_sem, hz, c0, c1, c2, c3]) rfl ⟨by rw [e0], bel4 hW _ _ _ _⟩
end Go.Proofs.Ythdahigckflohaa
