import Derived.Test.YthdahigckflohabAcc
namespace Go.Proofs.Ythdahigckflohab
open Go.RowKit
set_option linter.unusedVariables false
set_option linter.unusedSimpArgs false
attribute [local go_sem] run_store_func run_store_nilFunc
def wnum (n : Nat) : Int := [31, 32, 33, 34, 35, 36, 37, 38, 39, 40, 50, 51, 52, 53, 54, 55, 56, 57].getD n 0
def wordId (n : Nat) : Nat := [40, 41, 42, 43, 44, 45, 46, 47, 48, 49, 50, 51, 52, 53, 54, 55, 56, 57].getD n 0
def cnum (n : Nat) : Int := [5, 6, 7, 8, 9, 10].getD n 0
def condId (n : Nat) : Nat := [34, 35, 36, 37, 38, 39].getD n 0
def hnum (n : Nat) : Int := [45, 46, 47, 48, 49, 58, 59, 60, 61, 62].getD n 0
def halfId (n : Nat) : Nat := [40, 41, 42, 46, 47, 50, 54, 55, 56, 57].getD n 0
def firstId (n : Nat) : Nat := [58, 58, 59, 59, 58, 58, 58, 59, 58, 59].getD n 0
def secondId (n : Nat) : Nat := [58, 58, 60, 60, 60, 58, 58, 59, 58, 59].getD n 0
def rowW (n : Nat) : List Value := [.int .i64 (wnum n), .func (.func (wordId n)) #[] #[]]
def rowC (n : Nat) : List Value := [.int .i64 (cnum n), .func (.func (condId n)) #[] #[]]
def rowH (n : Nat) : List Value := [.int .i64 (hnum n), .func (.func (halfId n)) #[] #[], .func (.func (firstId n)) #[] #[], .func (.func (secondId n)) #[] #[]]
def TW : Array Value := ((List.range 18).flatMap rowW).toArray
theorem tW_all : (List.range 18).map (fun n => TW.extract (n * 2) (n * 2 + 2)) = (List.range 18).map (fun n => (rowW n).toArray) := by kernel_rfl
theorem tW_at (n : Nat) (h : n < 18) : TW.extract (n * 2) (n * 2 + 2) = (rowW n).toArray := by
  have := congrArg (fun l => l[n]?) tW_all
  simpa [h] using this
theorem aggW (w : World) : (isAgg 73).run Try.prog w = .ok true w := by kernel_rfl
theorem idxW (n : Nat) (h : n < 18) (w : World) : (Instr.index 74 (.agg TW) (.int .i64 n)).run Try.prog w = .ok (.agg (rowW n).toArray) w := by
  rw [run_index_agg w 74 73 18 2 TW n (by kernel_rfl) (by kernel_rfl) aggW (by omega) (by omega), Int.toNat_natCast, tW_at n h]
def TC : Array Value := ((List.range 6).flatMap rowC).toArray
theorem tC_all : (List.range 6).map (fun n => TC.extract (n * 2) (n * 2 + 2)) = (List.range 6).map (fun n => (rowC n).toArray) := by kernel_rfl
theorem tC_at (n : Nat) (h : n < 6) : TC.extract (n * 2) (n * 2 + 2) = (rowC n).toArray := by
  have := congrArg (fun l => l[n]?) tC_all
  simpa [h] using this
theorem aggC (w : World) : (isAgg 67).run Try.prog w = .ok true w := by kernel_rfl
theorem idxC (n : Nat) (h : n < 6) (w : World) : (Instr.index 68 (.agg TC) (.int .i64 n)).run Try.prog w = .ok (.agg (rowC n).toArray) w := by
  rw [run_index_agg w 68 67 6 2 TC n (by kernel_rfl) (by kernel_rfl) aggC (by omega) (by omega), Int.toNat_natCast, tC_at n h]
def TH : Array Value := ((List.range 10).flatMap rowH).toArray
theorem tH_all : (List.range 10).map (fun n => TH.extract (n * 4) (n * 4 + 4)) = (List.range 10).map (fun n => (rowH n).toArray) := by kernel_rfl
theorem tH_at (n : Nat) (h : n < 10) : TH.extract (n * 4) (n * 4 + 4) = (rowH n).toArray := by
  have := congrArg (fun l => l[n]?) tH_all
  simpa [h] using this
theorem aggH (w : World) : (isAgg 76).run Try.prog w = .ok true w := by kernel_rfl
theorem idxH (n : Nat) (h : n < 10) (w : World) : (Instr.index 77 (.agg TH) (.int .i64 n)).run Try.prog w = .ok (.agg (rowH n).toArray) w := by
  rw [run_index_agg w 77 76 10 4 TH n (by kernel_rfl) (by kernel_rfl) aggH (by omega) (by omega), Int.toNat_natCast, tH_at n h]
set_option maxHeartbeats 4000000 in
set_option maxRecDepth 10000 in
theorem hitW (m : Nat) (hm : m < 18) (w : World) :
    Calls Try.prog 20 #[.int .i64 (wnum m)] w fun e w' => e = .returned (.func (.func (wordId m)) #[] #[]) ∧ Below w.heap.size w w' := by
  have hI := idxW
  have hne : ∀ n : Nat, n < m → (wnum n == wnum m) = false := by
    have : ∀ m : Nat, m < 18 → ∀ n : Nat, n < m → (wnum n == wnum m) = false := by decide
    exact this m hm
  go_enter Try.func20, Try.ntmps20
  go_upto_region 1 with fail
  refine wp_region_lit ?_
  refine wpList_pure 20 ⟨#[.int .i64 (wnum m), undef, .nilFunc, undef, undef, .agg (rowW 0).toArray, .agg (rowW 1).toArray, .agg (rowW 2).toArray, .agg (rowW 3).toArray, .agg (rowW 4).toArray, .agg (rowW 5).toArray, .agg (rowW 6).toArray, .agg (rowW 7).toArray, .agg (rowW 8).toArray, .agg (rowW 9).toArray, .agg (rowW 10).toArray, .agg (rowW 11).toArray, .agg (rowW 12).toArray, .agg (rowW 13).toArray, .agg (rowW 14).toArray, .agg (rowW 15).toArray, .agg (rowW 16).toArray, .agg (rowW 17).toArray, .agg TW, .int .i64 0, undef, undef, undef, undef, undef, undef, undef, undef, undef], []⟩ (by kernel_rfl) ?_
  conv => arg 4; whnf
  generalize hT : TW = T at *
  clear hT
  generalize (Value.agg (rowW 0).toArray) = S0; generalize (Value.agg (rowW 1).toArray) = S1; generalize (Value.agg (rowW 2).toArray) = S2; generalize (Value.agg (rowW 3).toArray) = S3; generalize (Value.agg (rowW 4).toArray) = S4; generalize (Value.agg (rowW 5).toArray) = S5; generalize (Value.agg (rowW 6).toArray) = S6; generalize (Value.agg (rowW 7).toArray) = S7; generalize (Value.agg (rowW 8).toArray) = S8; generalize (Value.agg (rowW 9).toArray) = S9; generalize (Value.agg (rowW 10).toArray) = S10; generalize (Value.agg (rowW 11).toArray) = S11; generalize (Value.agg (rowW 12).toArray) = S12; generalize (Value.agg (rowW 13).toArray) = S13; generalize (Value.agg (rowW 14).toArray) = S14; generalize (Value.agg (rowW 15).toArray) = S15; generalize (Value.agg (rowW 16).toArray) = S16; generalize (Value.agg (rowW 17).toArray) = S17;
  go_wp2
  go_loopw [24] (fun k wr => ∃ n : Nat, n ≤ m ∧ k = .int .i64 n ∧ Below w.heap.size w wr) (fun k _ => 18 - (intOf k).toNat)
  case atStart => exact ⟨0, by omega, rfl, Below.refl _ _⟩
  case round =>
    obtain ⟨n, hn, rfl, hB⟩ := hrel
    have hz := hB.size
    have hI' : ∀ w : World, (Instr.index 74 (.agg T) (.int .i64 n)).run Try.prog w = .ok (.agg #[.int .i64 (wnum n), .func (.func (wordId n)) #[] #[]]) w := hI n (by omega)
    have e1 : (n : Int) < 18 := by omega
    by_cases he : n = m
    · subst he
      clear hI hne
      generalize wnum n = q at *
      generalize hr0 : wordId n = r at *
      have hr : Hid (wordId n = r) := hr0
      clear hr0
      go_wp2
      go_ret
      exact ⟨by rw [hr.out]; rfl, hB.alloc hz _⟩
    · have g := hne n (by omega)
      have hlt : n < m := by omega
      clear hI hne
      generalize wnum n = q at *
      generalize wordId n = r at *
      generalize wnum m = p at *
      go_wp2
      exact ⟨⟨n + 1, by omega, by go_num, hB.alloc hz _⟩, by simp [intOf]; omega⟩
set_option maxHeartbeats 4000000 in
set_option maxRecDepth 10000 in
theorem missW (op : Int) (hne : ∀ n : Nat, n < 18 → (wnum n == op) = false) (w : World) :
    Calls Try.prog 20 #[.int .i64 op] w fun e w' => e = .returned .nilFunc ∧ Below w.heap.size w w' := by
  have hI := idxW
  go_enter Try.func20, Try.ntmps20
  go_upto_region 1 with fail
  refine wp_region_lit ?_
  refine wpList_pure 20 ⟨#[.int .i64 op, undef, .nilFunc, undef, undef, .agg (rowW 0).toArray, .agg (rowW 1).toArray, .agg (rowW 2).toArray, .agg (rowW 3).toArray, .agg (rowW 4).toArray, .agg (rowW 5).toArray, .agg (rowW 6).toArray, .agg (rowW 7).toArray, .agg (rowW 8).toArray, .agg (rowW 9).toArray, .agg (rowW 10).toArray, .agg (rowW 11).toArray, .agg (rowW 12).toArray, .agg (rowW 13).toArray, .agg (rowW 14).toArray, .agg (rowW 15).toArray, .agg (rowW 16).toArray, .agg (rowW 17).toArray, .agg TW, .int .i64 0, undef, undef, undef, undef, undef, undef, undef, undef, undef], []⟩ (by kernel_rfl) ?_
  conv => arg 4; whnf
  generalize hT : TW = T at *
  clear hT
  generalize (Value.agg (rowW 0).toArray) = S0; generalize (Value.agg (rowW 1).toArray) = S1; generalize (Value.agg (rowW 2).toArray) = S2; generalize (Value.agg (rowW 3).toArray) = S3; generalize (Value.agg (rowW 4).toArray) = S4; generalize (Value.agg (rowW 5).toArray) = S5; generalize (Value.agg (rowW 6).toArray) = S6; generalize (Value.agg (rowW 7).toArray) = S7; generalize (Value.agg (rowW 8).toArray) = S8; generalize (Value.agg (rowW 9).toArray) = S9; generalize (Value.agg (rowW 10).toArray) = S10; generalize (Value.agg (rowW 11).toArray) = S11; generalize (Value.agg (rowW 12).toArray) = S12; generalize (Value.agg (rowW 13).toArray) = S13; generalize (Value.agg (rowW 14).toArray) = S14; generalize (Value.agg (rowW 15).toArray) = S15; generalize (Value.agg (rowW 16).toArray) = S16; generalize (Value.agg (rowW 17).toArray) = S17;
  go_wp2
  go_loopw [24] (fun k wr => ∃ n : Nat, n ≤ 18 ∧ k = .int .i64 n ∧ Below w.heap.size w wr) (fun k _ => 18 - (intOf k).toNat)
  case atStart => exact ⟨0, by omega, rfl, Below.refl _ _⟩
  case round =>
    obtain ⟨n, hn, rfl, hB⟩ := hrel
    have hz := hB.size
    by_cases he : n < 18
    · have hI' : ∀ w : World, (Instr.index 74 (.agg T) (.int .i64 n)).run Try.prog w = .ok (.agg #[.int .i64 (wnum n), .func (.func (wordId n)) #[] #[]]) w := hI n he
      have e1 : (n : Int) < 18 := by omega
      have g := hne n he
      clear hI hne
      generalize wnum n = q at *
      generalize wordId n = r at *
      go_wp2
      exact ⟨⟨n + 1, by omega, by go_num, hB.alloc hz _⟩, by simp [intOf]; omega⟩
    · have e1 : decide ((n : Int) < 18) = false := by simp; omega
      clear hI hne
      go_wp2
      go_ret
      exact ⟨rfl, hB⟩
set_option maxHeartbeats 4000000 in
set_option maxRecDepth 10000 in
theorem hitC (m : Nat) (hm : m < 6) (w : World) :
    Calls Try.prog 18 #[.int .i64 (cnum m)] w fun e w' => e = .returned (.func (.func (condId m)) #[] #[]) ∧ Below w.heap.size w w' := by
  have hI := idxC
  have hne : ∀ n : Nat, n < m → (cnum n == cnum m) = false := by
    have : ∀ m : Nat, m < 6 → ∀ n : Nat, n < m → (cnum n == cnum m) = false := by decide
    exact this m hm
  go_enter Try.func18, Try.ntmps18
  go_upto_region 1 with fail
  refine wp_region_lit ?_
  refine wpList_pure 8 ⟨#[.int .i64 (cnum m), undef, .nilFunc, undef, undef, .agg (rowC 0).toArray, .agg (rowC 1).toArray, .agg (rowC 2).toArray, .agg (rowC 3).toArray, .agg (rowC 4).toArray, .agg (rowC 5).toArray, .agg TC, .int .i64 0, undef, undef, undef, undef, undef, undef, undef, undef, undef], []⟩ (by kernel_rfl) ?_
  conv => arg 4; whnf
  generalize hT : TC = T at *
  clear hT
  generalize (Value.agg (rowC 0).toArray) = S0; generalize (Value.agg (rowC 1).toArray) = S1; generalize (Value.agg (rowC 2).toArray) = S2; generalize (Value.agg (rowC 3).toArray) = S3; generalize (Value.agg (rowC 4).toArray) = S4; generalize (Value.agg (rowC 5).toArray) = S5;
  go_wp2
  go_loopw [12] (fun k wr => ∃ n : Nat, n ≤ m ∧ k = .int .i64 n ∧ Below w.heap.size w wr) (fun k _ => 6 - (intOf k).toNat)
  case atStart => exact ⟨0, by omega, rfl, Below.refl _ _⟩
  case round =>
    obtain ⟨n, hn, rfl, hB⟩ := hrel
    have hz := hB.size
    have hI' : ∀ w : World, (Instr.index 68 (.agg T) (.int .i64 n)).run Try.prog w = .ok (.agg #[.int .i64 (cnum n), .func (.func (condId n)) #[] #[]]) w := hI n (by omega)
    have e1 : (n : Int) < 6 := by omega
    by_cases he : n = m
    · subst he
      clear hI hne
      generalize cnum n = q at *
      generalize hr0 : condId n = r at *
      have hr : Hid (condId n = r) := hr0
      clear hr0
      go_wp2
      go_ret
      exact ⟨by rw [hr.out]; rfl, hB.alloc hz _⟩
    · have g := hne n (by omega)
      have hlt : n < m := by omega
      clear hI hne
      generalize cnum n = q at *
      generalize condId n = r at *
      generalize cnum m = p at *
      go_wp2
      exact ⟨⟨n + 1, by omega, by go_num, hB.alloc hz _⟩, by simp [intOf]; omega⟩
set_option maxHeartbeats 4000000 in
set_option maxRecDepth 10000 in
theorem missC (op : Int) (hne : ∀ n : Nat, n < 6 → (cnum n == op) = false) (w : World) :
    Calls Try.prog 18 #[.int .i64 op] w fun e w' => e = .returned .nilFunc ∧ Below w.heap.size w w' := by
  have hI := idxC
  go_enter Try.func18, Try.ntmps18
  go_upto_region 1 with fail
  refine wp_region_lit ?_
  refine wpList_pure 8 ⟨#[.int .i64 op, undef, .nilFunc, undef, undef, .agg (rowC 0).toArray, .agg (rowC 1).toArray, .agg (rowC 2).toArray, .agg (rowC 3).toArray, .agg (rowC 4).toArray, .agg (rowC 5).toArray, .agg TC, .int .i64 0, undef, undef, undef, undef, undef, undef, undef, undef, undef], []⟩ (by kernel_rfl) ?_
  conv => arg 4; whnf
  generalize hT : TC = T at *
  clear hT
  generalize (Value.agg (rowC 0).toArray) = S0; generalize (Value.agg (rowC 1).toArray) = S1; generalize (Value.agg (rowC 2).toArray) = S2; generalize (Value.agg (rowC 3).toArray) = S3; generalize (Value.agg (rowC 4).toArray) = S4; generalize (Value.agg (rowC 5).toArray) = S5;
  go_wp2
  go_loopw [12] (fun k wr => ∃ n : Nat, n ≤ 6 ∧ k = .int .i64 n ∧ Below w.heap.size w wr) (fun k _ => 6 - (intOf k).toNat)
  case atStart => exact ⟨0, by omega, rfl, Below.refl _ _⟩
  case round =>
    obtain ⟨n, hn, rfl, hB⟩ := hrel
    have hz := hB.size
    by_cases he : n < 6
    · have hI' : ∀ w : World, (Instr.index 68 (.agg T) (.int .i64 n)).run Try.prog w = .ok (.agg #[.int .i64 (cnum n), .func (.func (condId n)) #[] #[]]) w := hI n he
      have e1 : (n : Int) < 6 := by omega
      have g := hne n he
      clear hI hne
      generalize cnum n = q at *
      generalize condId n = r at *
      go_wp2
      exact ⟨⟨n + 1, by omega, by go_num, hB.alloc hz _⟩, by simp [intOf]; omega⟩
    · have e1 : decide ((n : Int) < 6) = false := by simp; omega
      clear hI hne
      go_wp2
      go_ret
      exact ⟨rfl, hB⟩
def Clo (w : World) (B : Nat) (x y z : Nat) : Prop := B + 2 < w.heap.size ∧ w.cell? ⟨B, 0, .none⟩ = some (.func (.func x) #[] #[]) ∧ w.cell? ⟨B + 1, 0, .none⟩ = some (.func (.func y) #[] #[]) ∧ w.cell? ⟨B + 2, 0, .none⟩ = some (.func (.func z) #[] #[])
def cloV (B : Nat) : Value := .func (.func 80) #[] #[.pointer (some ⟨B, 0, .none⟩), .pointer (some ⟨B + 1, 0, .none⟩), .pointer (some ⟨B + 2, 0, .none⟩)]
theorem ofHalves_any (x y z : Nat) (w : World) : Calls Try.prog 61 #[.func (.func x) #[] #[], .func (.func y) #[] #[], .func (.func z) #[] #[]] w fun e w' => e = .returned (cloV w.heap.size) ∧ Clo w' w.heap.size x y z ∧ Below w.heap.size w w' := by
  unfold cloV
  go_enter Try.func61, Try.ntmps61
  go_wp2
  go_ret
  refine ⟨rfl, ⟨?_, ?_, ?_, ?_⟩, ?_⟩
  · simp only [World.size_alloc]; omega
  · rw [World.cell?_alloc_past _ _ _ (by simp only [World.size_alloc]; omega), World.cell?_alloc_past _ _ _ (by simp only [World.size_alloc]; omega)]; simp
  · rw [World.cell?_alloc_past _ _ _ (by simp only [World.size_alloc]; omega), World.cell?_alloc_at _ _ _ _ (by simp only [World.size_alloc])]; rfl
  · rw [World.cell?_alloc_at _ _ _ _ (by simp only [World.size_alloc])]; rfl
  exact (((Below.refl _ _).alloc (Nat.le_refl _) _).alloc (by simp only [World.size_alloc]; omega) _).alloc (by simp only [World.size_alloc]; omega) _
set_option maxHeartbeats 4000000 in
set_option maxRecDepth 10000 in
theorem hitH (m : Nat) (hm : m < 10) (w : World) :
    Calls Try.prog 21 #[.int .i64 (hnum m)] w fun e w' => (∃ B, w.heap.size ≤ B ∧ e = .returned (cloV B) ∧ Clo w' B (halfId m) (firstId m) (secondId m)) ∧ Below w.heap.size w w' := by
  have hI := idxH
  have hne : ∀ n : Nat, n < m → (hnum n == hnum m) = false := by
    have : ∀ m : Nat, m < 10 → ∀ n : Nat, n < m → (hnum n == hnum m) = false := by decide
    exact this m hm
  go_enter Try.func21, Try.ntmps21
  go_upto_region 1 with fail
  refine wp_region_lit ?_
  refine wpList_pure 12 ⟨#[.int .i64 (hnum m), undef, .nilFunc, undef, undef, .agg (rowH 0).toArray, .agg (rowH 1).toArray, .agg (rowH 2).toArray, .agg (rowH 3).toArray, .agg (rowH 4).toArray, .agg (rowH 5).toArray, .agg (rowH 6).toArray, .agg (rowH 7).toArray, .agg (rowH 8).toArray, .agg (rowH 9).toArray, .agg TH, .int .i64 0, undef, undef, undef, undef, undef, undef, undef, undef, undef, undef, undef, undef, undef, undef], []⟩ (by kernel_rfl) ?_
  conv => arg 4; whnf
  generalize hT : TH = T at *
  clear hT
  generalize (Value.agg (rowH 0).toArray) = S0; generalize (Value.agg (rowH 1).toArray) = S1; generalize (Value.agg (rowH 2).toArray) = S2; generalize (Value.agg (rowH 3).toArray) = S3; generalize (Value.agg (rowH 4).toArray) = S4; generalize (Value.agg (rowH 5).toArray) = S5; generalize (Value.agg (rowH 6).toArray) = S6; generalize (Value.agg (rowH 7).toArray) = S7; generalize (Value.agg (rowH 8).toArray) = S8; generalize (Value.agg (rowH 9).toArray) = S9;
  go_wp2
  go_loopw [16] (fun k wr => ∃ n : Nat, n ≤ m ∧ k = .int .i64 n ∧ Below w.heap.size w wr) (fun k _ => 10 - (intOf k).toNat)
  case atStart => exact ⟨0, by omega, rfl, Below.refl _ _⟩
  case round =>
    obtain ⟨n, hn, rfl, hB⟩ := hrel
    have hz := hB.size
    have hI' : ∀ w : World, (Instr.index 77 (.agg T) (.int .i64 n)).run Try.prog w = .ok (.agg #[.int .i64 (hnum n), .func (.func (halfId n)) #[] #[], .func (.func (firstId n)) #[] #[], .func (.func (secondId n)) #[] #[]]) w := hI n (by omega)
    have e1 : (n : Int) < 10 := by omega
    by_cases he : n = m
    · subst he
      clear hI hne
      generalize hnum n = q at *
      generalize hr0 : halfId n = r at *
      generalize hr1 : firstId n = s at *
      generalize hr2 : secondId n = t at *
      have hr : Hid (halfId n = r ∧ firstId n = s ∧ secondId n = t) := ⟨hr0, hr1, hr2⟩
      clear hr0 hr1 hr2
      go_wp2_with fail
      refine (ofHalves_any r s t _).mono ?_
      rintro e w1 ⟨rfl, hC, hb1⟩
      unfold cloV
      go_wp2
      go_ret
      refine ⟨⟨_, ?_, rfl, by rw [hr.out.1, hr.out.2.1, hr.out.2.2]; simpa only [World.size_alloc] using hC⟩, (hB.alloc hz _).trans (hb1.mono ?_)⟩
      · omega
      · simp only [World.size_alloc]; omega
    · have g := hne n (by omega)
      have hlt : n < m := by omega
      clear hI hne
      generalize hnum n = q at *
      generalize halfId n = r at *
      generalize firstId n = s at *
      generalize secondId n = t at *
      generalize hnum m = p at *
      go_wp2
      exact ⟨⟨n + 1, by omega, by go_num, hB.alloc hz _⟩, by simp [intOf]; omega⟩
set_option maxHeartbeats 4000000 in
set_option maxRecDepth 10000 in
theorem missH (op : Int) (hne : ∀ n : Nat, n < 10 → (hnum n == op) = false) (w : World) :
    Calls Try.prog 21 #[.int .i64 op] w fun e w' => e = .returned .nilFunc ∧ Below w.heap.size w w' := by
  have hI := idxH
  go_enter Try.func21, Try.ntmps21
  go_upto_region 1 with fail
  refine wp_region_lit ?_
  refine wpList_pure 12 ⟨#[.int .i64 op, undef, .nilFunc, undef, undef, .agg (rowH 0).toArray, .agg (rowH 1).toArray, .agg (rowH 2).toArray, .agg (rowH 3).toArray, .agg (rowH 4).toArray, .agg (rowH 5).toArray, .agg (rowH 6).toArray, .agg (rowH 7).toArray, .agg (rowH 8).toArray, .agg (rowH 9).toArray, .agg TH, .int .i64 0, undef, undef, undef, undef, undef, undef, undef, undef, undef, undef, undef, undef, undef, undef], []⟩ (by kernel_rfl) ?_
  conv => arg 4; whnf
  generalize hT : TH = T at *
  clear hT
  generalize (Value.agg (rowH 0).toArray) = S0; generalize (Value.agg (rowH 1).toArray) = S1; generalize (Value.agg (rowH 2).toArray) = S2; generalize (Value.agg (rowH 3).toArray) = S3; generalize (Value.agg (rowH 4).toArray) = S4; generalize (Value.agg (rowH 5).toArray) = S5; generalize (Value.agg (rowH 6).toArray) = S6; generalize (Value.agg (rowH 7).toArray) = S7; generalize (Value.agg (rowH 8).toArray) = S8; generalize (Value.agg (rowH 9).toArray) = S9;
  go_wp2
  go_loopw [16] (fun k wr => ∃ n : Nat, n ≤ 10 ∧ k = .int .i64 n ∧ Below w.heap.size w wr) (fun k _ => 10 - (intOf k).toNat)
  case atStart => exact ⟨0, by omega, rfl, Below.refl _ _⟩
  case round =>
    obtain ⟨n, hn, rfl, hB⟩ := hrel
    have hz := hB.size
    by_cases he : n < 10
    · have hI' : ∀ w : World, (Instr.index 77 (.agg T) (.int .i64 n)).run Try.prog w = .ok (.agg #[.int .i64 (hnum n), .func (.func (halfId n)) #[] #[], .func (.func (firstId n)) #[] #[], .func (.func (secondId n)) #[] #[]]) w := hI n he
      have e1 : (n : Int) < 10 := by omega
      have g := hne n he
      clear hI hne
      generalize hnum n = q at *
      generalize halfId n = r at *
      generalize firstId n = s at *
      generalize secondId n = t at *
      go_wp2
      exact ⟨⟨n + 1, by omega, by go_num, hB.alloc hz _⟩, by simp [intOf]; omega⟩
    · have e1 : decide ((n : Int) < 10) = false := by simp; omega
      clear hI hne
      go_wp2
      go_ret
      exact ⟨rfl, hB⟩
end Go.Proofs.Ythdahigckflohab
