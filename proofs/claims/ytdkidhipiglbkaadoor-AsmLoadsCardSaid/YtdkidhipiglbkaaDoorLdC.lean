import Derived.Test.YtdkidhipiglbkaaDoorLdB
import Derived.Deep.Heap
namespace Go.Proofs.YtdkidhipiglbkaaDoor
open Go.RowKit
set_option linter.unusedVariables false
set_option linter.unusedSimpArgs false
/-- The upper part. -/
def hi (v : Int) : Int := wrap64 (v - lo v) / 4096
/-- The instructions of a number of 32 places: operation, first register, number. -/
def ldB (rd v : Int) : List (Int × Int × Int) := if -2048 ≤ v ∧ v < 2048 then [(22, 0, v)] else (1, 0, wrap32 (v - lo v)) :: (if lo v = 0 then [] else [(41, rd, lo v)])
def ldF : Nat → Int → Int → List (Int × Int × Int)
  | 0, rd, v => ldB rd v
  | n + 1, rd, v => if -2147483648 ≤ v ∧ v < 2147483648 then ldB rd v else ldF n rd (od 64 (hi v)) ++ (28, rd, 12 + (tz 64 (hi v) : Int)) :: (if lo v = 0 then [] else [(22, rd, lo v)])
theorem ldF_len (n : Nat) : ∀ rd v : Int, (ldF n rd v).length ≤ 2 + 2 * n ∧ 0 < (ldF n rd v).length := by
  have hB : ∀ rd v : Int, (ldB rd v).length ≤ 2 ∧ 0 < (ldB rd v).length := by
    intro rd v
    unfold ldB
    split
    · simp
    · split <;> simp
  induction n with
  | zero => intro rd v; simpa [ldF] using hB rd v
  | succ n ih =>
    intro rd v
    have := hB rd v
    have := ih rd (od 64 (hi v))
    simp only [ldF]
    split
    · omega
    · split <;> simp <;> omega
def cs (rd : Int) (L : List (Int × Int × Int)) : List Value := L.flatMap fun x => ins x.1 rd x.2.1 x.2.2
theorem cs_app (rd : Int) (L M : List (Int × Int × Int)) : cs rd (L ++ M) = cs rd L ++ cs rd M := by simp [cs]
/-- A call has handed back a row of its own with these instructions. -/
def Gv (rd : Int) (L : List (Int × Int × Int)) (w : World) (e : Ending) (w' : World) : Prop :=
  ∃ p c, e = .returned (.slice p L.length c) ∧ w'.ownsRow w.heap.size 29 6 (.slice p L.length c) L.length (cs rd L) ∧ Below w.heap.size w w'
theorem heap_new (w : World) (o : Obj) : (w.alloc o).heap[w.heap.size]? = some o := by
  rw [World.alloc]
  simp
theorem own_new (w : World) (base : Nat) (op rd rs1 imm : Int) (hb : base ≤ w.heap.size) : (w.alloc (.cells #[.int .i64 op, .int .i64 rd, .int .i64 rs1, .int .i64 0, .int .i64 imm, .int .i64 0] 29)).ownsRow base 29 6 (.slice (some ⟨w.heap.size, 0, .none⟩) 1 1) 1 (ins op rd rs1 imm) :=
  ⟨rfl, .inr ⟨w.heap.size, 1, #[.int .i64 op, .int .i64 rd, .int .i64 rs1, .int .i64 0, .int .i64 imm, .int .i64 0], rfl, hb, heap_new _ _, Nat.le_refl _, by decide, rfl, rfl⟩⟩
/-- The lower part's own instruction, if it has one. -/
def lowI (op rd l : Int) : List (Int × Int × Int) := if l = 0 then [] else [(op, rd, l)]
theorem addLow_any (p : Option Addr) (n c base : Nat) (xs : List Value) (op rd low : Int) (w : World) (hn : n < 1000) (hb : base ≤ w.heap.size) (hown : w.ownsRow base 29 6 (.slice p n c) n xs) :
    Calls Tryd.prog 8 #[.slice p n c, .int .i64 op, .int .i64 rd, .int .i64 low] w fun e w' => ∃ p' c', e = .returned (.slice p' (n + (lowI op rd low).length) c') ∧ w'.ownsRow base 29 6 (.slice p' (n + (lowI op rd low).length) c') (n + (lowI op rd low).length) (xs ++ cs rd (lowI op rd low)) ∧ Below base w w' := by
  unfold lowI
  by_cases h : low = 0
  · subst h
    refine (addLow_zero _ op rd w).mono ?_
    rintro e w' ⟨rfl, rfl⟩
    refine ⟨p, c, rfl, ?_, Below.refl _ _⟩
    simpa [cs] using hown
  · refine (addLow_some p n c base xs op rd low w h hn hb hown).mono ?_
    rintro e w' ⟨p', c', rfl, k1, k2⟩
    refine ⟨p', c', by simp [h], ?_, k2⟩
    simpa [h, cs] using k1
theorem od_bd (n : Nat) (B : Int) (hB : 0 ≤ B) : ∀ h : Int, -B ≤ h → h ≤ B → -B ≤ od n h ∧ od n h ≤ B := by
  induction n with
  | zero => intro h h0 h1; exact ⟨h0, h1⟩
  | succ n ih =>
    intro h h0 h1
    simp only [od]
    split
    · exact ih (h / 2) (by omega) (by omega)
    · exact ⟨h0, h1⟩
theorem hi_bd (v P : Int) (hv : I64 v) (hP : 1073741824 ≤ P) (h0 : -(2048 * P) ≤ v) (h1 : v ≤ 2048 * P) : -P ≤ hi v ∧ hi v ≤ P := by
  obtain ⟨v0, v1⟩ := hv
  unfold hi wrap64 lo
  omega
theorem hi_ne (v : Int) (hv : I64 v) (h : ¬ (-2048 ≤ v ∧ v < 2048)) : hi v ≠ 0 := by
  obtain ⟨v0, v1⟩ := hv
  unfold hi wrap64 lo
  omega
set_option maxHeartbeats 2000000 in
set_option maxRecDepth 100000 in
theorem load_small (x v rd : Int) (w : World) (hx : wrap64 x = v) (hr0 : 0 ≤ rd) (hr1 : rd < 32) (hv : I64 v) (hs : -2048 ≤ v ∧ v < 2048) :
    Calls Tryd.prog 4 #[.int .u64 x, .int .i64 rd] w (Gv rd [(22, 0, v)] w) := by
  have c1 := lowOf_any v w hv
  have hl : lo v = v := by unfold lo; omega
  rw [hl] at c1
  clear hl
  obtain ⟨s0, s1⟩ := hs
  go_enter Tryd.func4, Tryd.ntmps4
  go_wp2_with fail
  refine c1.mono ?_
  rintro e w1 ⟨rfl, rfl⟩
  go_wp2
  go_ret
  exact ⟨_, _, rfl, own_new _ _ _ _ _ _ (Nat.le_refl _), (Below.refl _ _).alloc (Nat.le_refl _) _⟩
set_option maxHeartbeats 2000000 in
set_option maxRecDepth 100000 in
theorem load_mid (x v l rd : Int) (w : World) (hx : wrap64 x = v) (hr0 : 0 ≤ rd) (hr1 : rd < 32) (hv : I64 v) (hs : ¬ (-2048 ≤ v ∧ v < 2048)) (hm : -2147483648 ≤ v ∧ v < 2147483648) (hl : lo v = l) :
    Calls Tryd.prog 4 #[.int .u64 x, .int .i64 rd] w (Gv rd ((1, 0, wrap32 (v - l)) :: lowI 41 rd l) w) := by
  have c1 := lowOf_any v w hv
  have lb := lo_bd v
  have g1 : (v == lo v) = false := by rw [beq_eq_false_iff_ne]; unfold lo; omega
  have g2 : wrap32 v = v := by unfold wrap32; omega
  have g3 : wrap64 (wrap32 (v - l)) = wrap32 (v - l) := by unfold wrap64 wrap32; omega
  rw [hl] at c1 g1 lb
  obtain ⟨l0, l1⟩ := lb
  clear hl
  obtain ⟨s0, s1⟩ := hm
  clear hs
  go_enter Tryd.func4, Tryd.ntmps4
  go_wp2_with fail
  refine c1.mono ?_
  rintro e w1 ⟨rfl, rfl⟩
  clear c1
  go_wp2_with fail
  refine (addLow_any _ 1 1 w1.heap.size (ins 1 rd 0 (wrap32 (v - l))) 41 rd l _ (by decide) ?_ ?_).mono ?_
  · simp only [World.size_alloc]; omega
  · have := own_new (w1.alloc (.cells #[.int .i64 1, .int .i64 rd, .int .i64 0, .int .i64 0, .int .i64 (wrap32 (v - l)), .int .i64 0] 29)) w1.heap.size 1 rd 0 (wrap32 (v - l)) (by simp only [World.size_alloc]; omega)
    rw [World.size_alloc] at this
    exact this
  · rintro e w2 ⟨p', c', rfl, k1, k2⟩
    have HK : Hid (w2.ownsRow w1.heap.size 29 6 (.slice p' (1 + (lowI 41 rd l).length) c') (1 + (lowI 41 rd l).length) (ins 1 rd 0 (wrap32 (v - l)) ++ cs rd (lowI 41 rd l)) ∧ Below w1.heap.size w1 w2) := ⟨k1, (((Below.refl _ w1).alloc (Nat.le_refl _) _).alloc (by simp only [World.size_alloc]; omega) _).trans k2⟩
    clear k1 k2
    go_wp2
    go_ret
    refine ⟨p', c', ?_, ?_, HK.out.2⟩
    · simp [Nat.add_comm]
    · have := HK.out.1
      simpa [cs, Nat.add_comm] using this
end Go.Proofs.YtdkidhipiglbkaaDoor
