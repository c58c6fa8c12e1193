import Derived.Test.YthdahigckflohabZImm
namespace Go.Proofs.Ythdahigckflohab
open Go.RowKit
set_option linter.unusedVariables false
theorem run_store_func (P : Program) (w : World) (a : Addr) (f : Fn) (c d : Array Value) (m : Mode) (hc : (w.cell? a).isSome = true) (hf : w.frozen? a = false) :
    (store a (.func f c d) m).run P w = .ok () (w.setCell a (.func f c d)) := by
  obtain ⟨u, hu⟩ := Option.isSome_iff_exists.1 hc
  rw [run_store P w a (.func f c d) m rfl, hu]
  simp [hf]
attribute [local go_sem] run_store_func
def takeId (s : Int) : Nat := [100, 102, 104, 106, 102, 108, 110, 112, 114, 116, 100, 100, 100, 117].getD (s - 1).toNat 0
def putId (s : Int) : Nat := [101, 103, 105, 107, 103, 109, 111, 113, 115, 103, 101, 101, 101, 118].getD (s - 1).toNat 0
def fxb (s : Int) : Int := [4261441663, 28799, 4227887231, 4261441663, 28799, 28799, 28799, 127, 127, 28799, 4294967295, 4261445631, 28799, 28799].getD (s - 1).toNat 0
theorem shapes14 (s : Int) (h0 : 1 ≤ s) (h1 : s ≤ 14) : s = 1 ∨ s = 2 ∨ s = 3 ∨ s = 4 ∨ s = 5 ∨ s = 6 ∨ s = 7 ∨ s = 8 ∨ s = 9 ∨ s = 10 ∨ s = 11 ∨ s = 12 ∨ s = 13 ∨ s = 14 := by omega
theorem take_any (s x : Int) (w : World) (hs0 : 1 ≤ s) (hs1 : s ≤ 14) (h0 : 0 ≤ x) (h1 : x < 4294967296) :
    Calls Try.prog (takeId s) #[.int .u32 x] w fun e w' => e = .returned (.int .i64 (tk s x)) ∧ ∃ n, w' = w.drewN n := by
  rcases shapes14 s hs0 hs1 with rfl | rfl | rfl | rfl | rfl | rfl | rfl | rfl | rfl | rfl | rfl | rfl | rfl | rfl
  · exact take45 x w h0 h1
  · exact take47 x w h0 h1
  · exact take49 x w h0 h1
  · exact take51 x w h0 h1
  · exact take47 x w h0 h1
  · exact take53 x w h0 h1
  · exact take55 x w h0 h1
  · exact take57 x w h0 h1
  · exact take59 x w h0 h1
  · exact take61 x w h0 h1
  · exact take45 x w h0 h1
  · exact take45 x w h0 h1
  · exact take45 x w h0 h1
  · exact take62 x w h0 h1
theorem put_any (s y : Int) (w : World) (hs0 : 1 ≤ s) (hs1 : s ≤ 14) :
    Calls Try.prog (putId s) #[.int .i64 y] w fun e w' => e = .returned (.int .u32 (pt s y)) ∧ ∃ n, w' = w.drewN n := by
  rcases shapes14 s hs0 hs1 with rfl | rfl | rfl | rfl | rfl | rfl | rfl | rfl | rfl | rfl | rfl | rfl | rfl | rfl
  · exact put46 y w
  · exact put48 y w
  · exact put50 y w
  · exact put52 y w
  · exact put48 y w
  · exact put54 y w
  · exact put56 y w
  · exact put58 y w
  · exact put60 y w
  · exact put48 y w
  · exact put46 y w
  · exact put46 y w
  · exact put46 y w
  · exact put63 y w
theorem takeId_enters (s : Int) (hs0 : 1 ≤ s) (hs1 : s ≤ 14) (args : Array Value) (w : World) : (callFunc (takeId s) args).run Try.prog w = .ok (.enter (takeId s) args) w := by
  rcases shapes14 s hs0 hs1 with rfl | rfl | rfl | rfl | rfl | rfl | rfl | rfl | rfl | rfl | rfl | rfl | rfl | rfl <;> kernel_rfl
theorem putId_enters (s : Int) (hs0 : 1 ≤ s) (hs1 : s ≤ 14) (args : Array Value) (w : World) : (callFunc (putId s) args).run Try.prog w = .ok (.enter (putId s) args) w := by
  rcases shapes14 s hs0 hs1 with rfl | rfl | rfl | rfl | rfl | rfl | rfl | rfl | rfl | rfl | rfl | rfl | rfl | rfl <;> kernel_rfl
set_option maxHeartbeats 4000000 in
theorem layout_any (s : Int) (w : World) (hs0 : 1 ≤ s) (hs1 : s ≤ 14) :
    Calls Try.prog 95 #[.int .i64 s] w fun e w' => e = .returned (.agg #[.int .u32 (fxb s), .func (.func (takeId s)) #[] #[], .func (.func (putId s)) #[] #[]]) ∧ Below w.heap.size w w' := by
  rcases shapes14 s hs0 hs1 with rfl | rfl | rfl | rfl | rfl | rfl | rfl | rfl | rfl | rfl | rfl | rfl | rfl | rfl
  · go_enter Try.func95, Try.ntmps95
    go_wp2
    exact bodyPost_ret (v := .agg #[.int .u32 4261441663, .func (.func 100) #[] #[], .func (.func 101) #[] #[]]) (by simp [results, Try.results95, go_sem]) rfl ⟨rfl, (Below.refl _ _).alloc (Nat.le_refl _) _⟩
  · go_enter Try.func95, Try.ntmps95
    go_wp2
    exact bodyPost_ret (v := .agg #[.int .u32 28799, .func (.func 102) #[] #[], .func (.func 103) #[] #[]]) (by simp [results, Try.results95, go_sem]) rfl ⟨rfl, (Below.refl _ _).alloc (Nat.le_refl _) _⟩
  · go_enter Try.func95, Try.ntmps95
    go_wp2
    exact bodyPost_ret (v := .agg #[.int .u32 4227887231, .func (.func 104) #[] #[], .func (.func 105) #[] #[]]) (by simp [results, Try.results95, go_sem]) rfl ⟨rfl, (Below.refl _ _).alloc (Nat.le_refl _) _⟩
  · go_enter Try.func95, Try.ntmps95
    go_wp2
    exact bodyPost_ret (v := .agg #[.int .u32 4261441663, .func (.func 106) #[] #[], .func (.func 107) #[] #[]]) (by simp [results, Try.results95, go_sem]) rfl ⟨rfl, (Below.refl _ _).alloc (Nat.le_refl _) _⟩
  · go_enter Try.func95, Try.ntmps95
    go_wp2
    exact bodyPost_ret (v := .agg #[.int .u32 28799, .func (.func 102) #[] #[], .func (.func 103) #[] #[]]) (by simp [results, Try.results95, go_sem]) rfl ⟨rfl, (Below.refl _ _).alloc (Nat.le_refl _) _⟩
  · go_enter Try.func95, Try.ntmps95
    go_wp2
    exact bodyPost_ret (v := .agg #[.int .u32 28799, .func (.func 108) #[] #[], .func (.func 109) #[] #[]]) (by simp [results, Try.results95, go_sem]) rfl ⟨rfl, (Below.refl _ _).alloc (Nat.le_refl _) _⟩
  · go_enter Try.func95, Try.ntmps95
    go_wp2
    exact bodyPost_ret (v := .agg #[.int .u32 28799, .func (.func 110) #[] #[], .func (.func 111) #[] #[]]) (by simp [results, Try.results95, go_sem]) rfl ⟨rfl, (Below.refl _ _).alloc (Nat.le_refl _) _⟩
  · go_enter Try.func95, Try.ntmps95
    go_wp2
    exact bodyPost_ret (v := .agg #[.int .u32 127, .func (.func 112) #[] #[], .func (.func 113) #[] #[]]) (by simp [results, Try.results95, go_sem]) rfl ⟨rfl, (Below.refl _ _).alloc (Nat.le_refl _) _⟩
  · go_enter Try.func95, Try.ntmps95
    go_wp2
    exact bodyPost_ret (v := .agg #[.int .u32 127, .func (.func 114) #[] #[], .func (.func 115) #[] #[]]) (by simp [results, Try.results95, go_sem]) rfl ⟨rfl, (Below.refl _ _).alloc (Nat.le_refl _) _⟩
  · go_enter Try.func95, Try.ntmps95
    go_wp2
    exact bodyPost_ret (v := .agg #[.int .u32 28799, .func (.func 116) #[] #[], .func (.func 103) #[] #[]]) (by simp [results, Try.results95, go_sem]) rfl ⟨rfl, (Below.refl _ _).alloc (Nat.le_refl _) _⟩
  · go_enter Try.func95, Try.ntmps95
    go_wp2
    exact bodyPost_ret (v := .agg #[.int .u32 4294967295, .func (.func 100) #[] #[], .func (.func 101) #[] #[]]) (by simp [results, Try.results95, go_sem]) rfl ⟨rfl, (Below.refl _ _).alloc (Nat.le_refl _) _⟩
  · go_enter Try.func95, Try.ntmps95
    go_wp2
    exact bodyPost_ret (v := .agg #[.int .u32 4261445631, .func (.func 100) #[] #[], .func (.func 101) #[] #[]]) (by simp [results, Try.results95, go_sem]) rfl ⟨rfl, (Below.refl _ _).alloc (Nat.le_refl _) _⟩
  · go_enter Try.func95, Try.ntmps95
    go_wp2
    exact bodyPost_ret (v := .agg #[.int .u32 28799, .func (.func 100) #[] #[], .func (.func 101) #[] #[]]) (by simp [results, Try.results95, go_sem]) rfl ⟨rfl, (Below.refl _ _).alloc (Nat.le_refl _) _⟩
  · go_enter Try.func95, Try.ntmps95
    go_wp2
    exact bodyPost_ret (v := .agg #[.int .u32 28799, .func (.func 117) #[] #[], .func (.func 118) #[] #[]]) (by simp [results, Try.results95, go_sem]) rfl ⟨rfl, (Below.refl _ _).alloc (Nat.le_refl _) _⟩
def insnB : ByteArray := ⟨#[105, 110, 115, 110]⟩
theorem fault_any (a r : Int) (w : World) :
    Calls Try.prog 93 #[.int .i64 a, .int .i64 r] w fun e w' => e = .returned (.iface 69 (.pointer (some ⟨w.heap.size, 0, .none⟩))) ∧ w' = w.alloc (.cells #[.string insnB, .int .i64 a, .iface 53 (.int .i64 r)] 71) := by
  go_enter Try.func93, Try.ntmps93
  go_wp2
  go_ret
  exact ⟨rfl, rfl⟩
end Go.Proofs.Ythdahigckflohab
