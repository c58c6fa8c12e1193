import Derived.Test.YtnlbomggadflmaaMi
namespace Go.Proofs.Ytnlbomggadflmaa
open Go.RowKit
set_option linter.unusedVariables false
set_option linter.unusedSimpArgs false
set_option maxRecDepth 100000
/-- A step. -/
structure Opr where
  k : Int
  s : Int
  ck : Int
  cn : Int
  sta : Int
def Opr.l (x : Opr) : List Value := [.int .i64 x.k, .int .i64 x.s, .int .i64 x.ck, .int .i64 x.cn, .int .i32 x.sta]
/-- What a step leaves. -/
def DoP (w : World) (b : Nat) (e : Ending) (w' : World) : Prop := e = .returned (.tuple #[]) ∧ ∃ P' n', Tb w' b P' n' ∧ Inv P' n' ∧ Trn b w w'
section
variable {w : World} {b : Nat} {P : Nat → Pr} {nx : Int}
set_option maxHeartbeats 4000000 in
theorem do_any (h : Tb w b P nx) (hI : Inv P nx) (x : Opr) : Calls Try.prog 13 #[.pointer (some ⟨b, 0, .none⟩), .agg x.l.toArray] w (DoP w b) := by
  obtain ⟨k, s, ck, cn, sta⟩ := x
  rw [Opr.l]
  dsimp only
  have H : Hid (Tb (w.alloc (.cells #[.int .i64 k, .int .i64 s, .int .i64 ck, .int .i64 cn, .int .i32 sta] 46)) b P nx) := h.bel (below1 _ _)
  have HT : Hid (Trn b w (w.alloc (.cells #[.int .i64 k, .int .i64 s, .int .i64 ck, .int .i64 cn, .int .i32 sta] 46))) := Trn.ofBelow (below1 _ _)
  have HI : Hid (Inv P nx) := hI
  have HN := hI.n1
  have HM := hI.n2
  clear h hI
  by_cases h1 : k = 1
  · subst h1
    have kk := add_any H.out HN HM s
    clear HN HM
    go_enter Try.func13, Try.ntmps13
    go_wp2_with fail
    refine kk.mono ?_
    rintro e w1 ⟨rfl, hT, hR⟩
    clear kk
    go_wp2
    go_end0
    exact ⟨rfl, _, _, hT, HI.out.add s, HT.out.trans hR⟩
  have g1 : (k == 1) = false := by simpa using h1
  clear h1
  by_cases h3 : k = 3
  · subst h3
    have kk := sleep_any H.out HN s ck cn
    clear HN HM
    go_enter Try.func13, Try.ntmps13
    go_wp2_with fail
    refine kk.mono ?_
    rintro e w1 ⟨rfl, hT, hR⟩
    clear kk
    go_wp2
    go_end0
    exact ⟨rfl, _, _, hT, HI.out.sleep s ck cn, HT.out.trans hR⟩
  have g3 : (k == 3) = false := by simpa using h3
  clear h3
  by_cases h4 : k = 4
  · subst h4
    have kk := wakeC_any H.out HN ck cn
    clear HN HM
    go_enter Try.func13, Try.ntmps13
    go_wp2_with fail
    refine kk.mono ?_
    rintro e w1 ⟨rfl, hT, hR⟩
    clear kk
    go_wp2
    go_end0
    exact ⟨rfl, _, _, hT, HI.out.wake ck cn, HT.out.trans hR⟩
  have g4 : (k == 4) = false := by simpa using h4
  clear h4
  by_cases h5 : k = 5
  · subst h5
    have kk := wakeOne_any H.out HN s
    clear HN HM
    go_enter Try.func13, Try.ntmps13
    go_wp2_with fail
    refine kk.mono ?_
    rintro e w1 ⟨rfl, hT, hR⟩
    clear kk
    go_wp2
    go_end0
    exact ⟨rfl, _, _, hT, HI.out.wake1 s, HT.out.trans hR⟩
  have g5 : (k == 5) = false := by simpa using h5
  clear h5
  by_cases h6 : k = 6
  · subst h6
    have kk := kill_any H.out HN s
    clear HN HM
    go_enter Try.func13, Try.ntmps13
    go_wp2_with fail
    refine kk.mono ?_
    rintro e w1 ⟨rfl, hT, hR⟩
    clear kk
    go_wp2
    go_end0
    exact ⟨rfl, _, _, hT, HI.out.kill s, HT.out.trans hR⟩
  have g6 : (k == 6) = false := by simpa using h6
  clear h6
  by_cases h7 : k = 7
  · subst h7
    have kk := end_any H.out HN s sta
    clear HN HM
    go_enter Try.func13, Try.ntmps13
    go_wp2_with fail
    refine kk.mono ?_
    rintro e w1 ⟨rfl, hT, hR⟩
    clear kk
    go_wp2
    go_end0
    exact ⟨rfl, _, _, hT, HI.out.ends s sta, HT.out.trans hR⟩
  have g7 : (k == 7) = false := by simpa using h7
  clear h7
  by_cases h9 : k = 9
  · subst h9
    have kk := free_any H.out HN s
    clear HN HM
    go_enter Try.func13, Try.ntmps13
    go_wp2_with fail
    refine kk.mono ?_
    rintro e w1 ⟨rfl, hT, hR⟩
    clear kk
    go_wp2
    go_end0
    exact ⟨rfl, _, _, hT, HI.out.free s, HT.out.trans hR⟩
  have g9 : (k == 9) = false := by simpa using h9
  clear h9
  clear HN HM
  go_enter Try.func13, Try.ntmps13
  go_wp2
  go_end0
  exact ⟨rfl, _, _, H.out, HI.out, HT.out⟩
/-- A table as it is told is laid into a new variable. -/
theorem wpList_laid {ops : Array Oper} {rest : List Oper} {a : Act} {Q : Exit → Act → World → Prop} (d s : Tmp) (o1 o2 : Oper) (h1 : o1.guard = none) (h2 : o1.op = .alloc 31) (h3 : o1.dst = some d) (h4 : o2.guard = none) (h5 : o2.op = .store 31 (.tmp d) (.tmp s)) (h6 : o2.dst = none)
    (hd : (a.put (some d) (.pointer (some ⟨w.heap.size, 0, .none⟩))).eval (.tmp d) = .pointer (some ⟨w.heap.size, 0, .none⟩)) (hs : (a.put (some d) (.pointer (some ⟨w.heap.size, 0, .none⟩))).eval (.tmp s) = .agg (tl P nx).toArray)
    (h : ∀ W, Tb W w.heap.size P nx → Below w.heap.size w W → wpList Try.prog ops Q rest (a.put (some d) (.pointer (some ⟨w.heap.size, 0, .none⟩))) W) : wpList Try.prog ops Q (o1 :: o2 :: rest) a w := by
  refine Great.wpList_allocTo h1 _ h3 _ _ (alloc_state _ _ h2 w) ?_
  have T := tb_new w zS 0 31
  refine wpList_store_mid h4 31 (.tmp d) (.tmp s) h5 w.heap.size 0 (tl P nx).toArray hd hs (by have := T.th; rw [← tl_len P nx] at this; exact this) (by rw [List.size_toArray, tl_len]; kernel_rfl) (all_oneCell_toArray (tl_one P nx)) ?_
  rw [h6]
  exact h _ (T.setCells P nx) (below_setCells (below1 _ _) _ (Nat.le_refl _) _ _)
theorem wpList_boxed {ops : Array Oper} {rest : List Oper} {a : Act} {Q : Exit → Act → World → Prop} (d s : Tmp) (o1 : Oper) (h1 : o1.guard = none) (h2 : o1.op = .box 31 (.tmp s)) (h3 : o1.dst = some d)
    (hs : a.eval (.tmp s) = .agg (tl P nx).toArray)
    (h : ∀ W, Tb W w.heap.size P nx → Below w.heap.size w W → wpList Try.prog ops Q rest (a.put (some d) (.pointer (some ⟨w.heap.size, 0, .none⟩))) W) : wpList Try.prog ops Q (o1 :: rest) a w := by
  refine Great.wpList_boxTo h1 31 (.tmp s) h2 (some d) h3 w.heap.size rfl (tl P nx).toArray (by rw [hs]; rfl) ?_
  exact h _ (tb_new w P nx _) (below1 _ _)
theorem info_tab : (Try.prog.info? 31).map (·.size) = some 449 := by kernel_rfl
end
end Go.Proofs.Ytnlbomggadflmaa
