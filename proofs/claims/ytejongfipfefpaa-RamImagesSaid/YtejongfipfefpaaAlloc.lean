import Derived.Test.YtejongfipfefpaaRam
namespace Go.Proofs.Ytejongfipfefpaa
open Go.RowKit
set_option linter.unusedVariables false
set_option linter.unusedSimpArgs false
def zeros : List Int := List.replicate 4096 0
theorem zeros_len : zeros.length = 4096 := List.length_replicate
theorem zeros_map : zeros.map (Value.int .u8) = List.replicate 4096 (.int .u8 0) := List.map_replicate
theorem zeros_bd : ∀ x ∈ zeros, 0 ≤ x ∧ x < 256 := fun x hx => by rw [List.eq_of_mem_replicate hx]; omega
/-- The bytes behind a frame's zeroing. -/
def zer (B : Nat → Int) (i : Nat) : Nat → Int := over B (i * 4096) zeros
theorem zeros_get (k : Nat) : zeros.getD k 0 = 0 := by
  simp only [zeros, List.getD_eq_getElem?_getD, List.getElem?_replicate]
  split <;> rfl
theorem zer_in (B : Nat → Int) (i k : Nat) (hk : k < 4096) : zer B i (i * 4096 + k) = 0 := by
  unfold zer over
  rw [zeros_len, if_pos (by omega), zeros_get]
theorem zer_out (B : Nat → Int) (i j : Nat) (hj : j < i * 4096 ∨ i * 4096 + 4096 ≤ j) : zer B i j = B j := by
  unfold zer over
  rw [zeros_len, if_neg (by omega)]
theorem zero5 (w : World) : (zeroValue 5).run Try.prog w = .ok (.int .u8 0) w := by kernel_rfl
theorem clear_frame {w : World} {p b m N cnt : Nat} {B : Nat → Int} {nx : Int} {hd : Int → Bool} (h : Mem w p b m N B nx hd cnt) (i : Nat) (hi : i < N) (c : Nat) :
    ∃ w', (∀ ty, (Builtin.clear_ #[27] ty #[.slice (some ⟨b, i * 4096, .none⟩) 4096 c]).run Try.prog w = .ok (.tuple #[]) w') ∧ Mem w' p b m N (zer B i) nx hd cnt ∧ Fra p b m w w' := by
  refine ⟨w.setCells b (i * 4096) (zeros.map (.int .u8)), fun ty => ?_, h.setCells _ _ (by rw [zeros_len]; omega) zeros_bd, (Fra.refl p b m w).setCells _ _⟩
  rw [zeros_map]
  exact Lib.run_clear_slice w 27 5 ty (.int .u8 0) Try.underlying27 zero5 rfl rfl b (i * 4096) 4096 c (by omega) (fun j hj => by rw [h.cb _ (by omega)]; rfl) (fun j hj => h.fb _ (by omega))
theorem isFr_addr (i N : Nat) (hi : i < N) : isFr (2147483648 + i * 4096) N = true := by
  simp only [isFr, decide_eq_true_eq]
  omega
theorem addr_frame (i : Nat) : ((2147483648 + (i : Int) * 4096 - 2147483648) / 4096).toNat = i := by omega
theorem hdL_addr (N : Nat) (L : List Nat) (i : Nat) (hi : i < N) : hdL N L (2147483648 + i * 4096) = !decide (i ∈ L) := by
  unfold hdL
  rw [isFr_addr i N hi, addr_frame]
  simp
theorem hdL_cons (N : Nat) (i : Nat) (l : List Nat) (hi : i < N) (hn : i ∉ l) (a : Int) : (decide (a = 2147483648 + (i : Int) * 4096) || hdL N (i :: l) a) = hdL N l a := by
  by_cases e : a = 2147483648 + (i : Int) * 4096
  · subst e
    rw [hdL_addr N l i hi]
    simp [hn]
  · unfold hdL
    cases hf : isFr a N with
    | false => simp [e]
    | true =>
      have hf' : a % 4096 = 0 ∧ 2147483648 ≤ a ∧ a < 2147483648 + (N : Int) * 4096 := by simpa [isFr] using hf
      have : ((a - 2147483648) / 4096).toNat ≠ i := by omega
      simp [e, this]
section
variable {w : World} {p b m N : Nat} {B : Nat → Int} {l L : List Nat}
theorem hdL_del (N : Nat) (i : Nat) (L : List Nat) (hi : i < N) (a : Int) : (!decide (a = 2147483648 + (i : Int) * 4096) && hdL N L a) = hdL N (i :: L) a := by
  by_cases e : a = 2147483648 + (i : Int) * 4096
  · subst e
    rw [hdL_addr N (i :: L) i hi]
    simp
  · unfold hdL
    cases hf : isFr a N with
    | false => simp [e]
    | true =>
      have hf' : a % 4096 = 0 ∧ 2147483648 ≤ a ∧ a < 2147483648 + (N : Int) * 4096 := by simpa [isFr] using hf
      have : ((a - 2147483648) / 4096).toNat ≠ i := by omega
      simp [e, this]
end
end Go.Proofs.Ytejongfipfefpaa
