import Derived.Test.YtnghcadhilfgnaaBad
import Derived.Test.YtnghcadhilfgnaaRfC
namespace Go.Proofs.Ytnghcadhilfgnaa
open Go.RowKit
set_option linter.unusedVariables false
set_option linter.unusedSimpArgs false
/-- The document's list of free frames. -/
def Lst (W : World) (lb : Nat) (lv : Value) (L : List Nat) : Prop := (∃ a c, lv = .slice a 0 c ∧ L = []) ∨ ∃ lo c, lv = .slice (some ⟨lb, lo, .none⟩) L.length c ∧ L.length ≤ c ∧ ∀ (j v : Nat), L[j]? = some v → W.cell? ⟨lb, lo + j, .none⟩ = some (.int .i64 v)
/-- THE DOCUMENT'S MEMORY: of the same bytes and the same list as the program's. -/
structure Qm (W : World) (q hb : Nat) (fb : Nat → Nat) (lb : Nat) (N : Nat) (B : Nat → Int) (L : List Nat) : Prop where
  c0 : W.cell? ⟨q, 0, .none⟩ = some (.slice (some ⟨hb, 0, .none⟩) N N)
  c1 : ∃ lv, W.cell? ⟨q, 1, .none⟩ = some lv ∧ Lst W lb lv L
  g1 : W.frozen? ⟨q, 1, .none⟩ = false
  hf : ∀ i, i < N → i ∈ L → W.cell? ⟨hb, i, .none⟩ = some (.slice .none 0 0)
  hh : ∀ i, i < N → i ∉ L → W.cell? ⟨hb, i, .none⟩ = some (.slice (some ⟨fb i, 0, .none⟩) 4096 4096)
  gh : ∀ i, i < N → W.frozen? ⟨hb, i, .none⟩ = false
  cb : ∀ i, i < N → i ∉ L → ∀ k, k < 4096 → W.cell? ⟨fb i, k, .none⟩ = some (.int .u8 (B (i * 4096 + k)))
  gb : ∀ i, i < N → i ∉ L → ∀ k, k < 4096 → W.frozen? ⟨fb i, k, .none⟩ = false
  inj : ∀ i j, i < N → j < N → i ∉ L → j ∉ L → fb i = fb j → i = j
  qh : q ≠ hb
  lq : lb ≠ q ∧ lb ≠ hb ∧ ∀ i, i < N → i ∉ L → fb i ≠ lb
  nd : L.Nodup
  rg : ∀ i ∈ L, 1 ≤ i ∧ i < N
  n1 : 1 ≤ N
  n2 : N ≤ 4096
  bb : ∀ i, 0 ≤ B i ∧ B i < 256
section
variable {W : World} {q hb lb N : Nat} {fb : Nat → Nat} {B : Nat → Int} {L : List Nat}
theorem Qm.fq (h : Qm W q hb fb lb N B L) (i : Nat) (hi : i < N) (hL : i ∉ L) : fb i ≠ q ∧ fb i ≠ hb := by
  have c := h.cb i hi hL 0 (by omega)
  constructor
  · intro e
    rw [e, h.c0] at c
    cases c
  · intro e
    rw [e] at c
    have h0 : 0 ∉ L := fun x => by have := h.rg 0 x; omega
    rw [h.hh 0 (by have := h.n1; omega) h0] at c
    cases c
theorem Qm.qlt (h : Qm W q hb fb lb N B L) : q < W.heap.size := lt_of_cell h.c0
theorem Qm.z (h : Qm W q hb fb lb N B L) : 0 ∉ L := fun x => by have := h.rg 0 x; omega
theorem Qm.hlt (h : Qm W q hb fb lb N B L) : hb < W.heap.size := lt_of_cell (h.hh 0 (by have := h.n1; omega) h.z)
theorem Qm.flt (h : Qm W q hb fb lb N B L) (i : Nat) (hi : i < N) (hL : i ∉ L) : fb i < W.heap.size := lt_of_cell (h.cb i hi hL 0 (by omega))
/-- What keeps the blocks keeps the memory. -/
theorem Qm.keep (h : Qm W q hb fb lb N B L) {W' : World} (hs : W.heap.size ≤ W'.heap.size) (k : ∀ b, b < W.heap.size → (b = q ∨ b = hb ∨ (b = lb ∧ L ≠ []) ∨ ∃ i, i < N ∧ i ∉ L ∧ b = fb i) → W'.heap[b]? = W.heap[b]?) : Qm W' q hb fb lb N B L := by
  have cc : ∀ b, b < W.heap.size → (b = q ∨ b = hb ∨ (b = lb ∧ L ≠ []) ∨ ∃ i, i < N ∧ i ∉ L ∧ b = fb i) → ∀ o, W'.cell? ⟨b, o, .none⟩ = W.cell? ⟨b, o, .none⟩ := fun b h1 h2 o => by simp only [World.cell?, k b h1 h2]
  have ff : ∀ b, b < W.heap.size → (b = q ∨ b = hb ∨ (b = lb ∧ L ≠ []) ∨ ∃ i, i < N ∧ i ∉ L ∧ b = fb i) → ∀ o, W'.frozen? ⟨b, o, .none⟩ = W.frozen? ⟨b, o, .none⟩ := fun b h1 h2 o => by simp only [World.frozen?, k b h1 h2]
  obtain ⟨lv, h1, h2⟩ := h.c1
  refine ⟨(cc q h.qlt (.inl rfl) 0).trans h.c0, ⟨lv, (cc q h.qlt (.inl rfl) 1).trans h1, ?_⟩, (ff q h.qlt (.inl rfl) 1).trans h.g1, fun i hi hL => (cc hb h.hlt (.inr (.inl rfl)) i).trans (h.hf i hi hL), fun i hi hL => (cc hb h.hlt (.inr (.inl rfl)) i).trans (h.hh i hi hL), fun i hi => (ff hb h.hlt (.inr (.inl rfl)) i).trans (h.gh i hi),
    fun i hi hL j hj => (cc (fb i) (h.flt i hi hL) (.inr (.inr (.inr ⟨i, hi, hL, rfl⟩))) j).trans (h.cb i hi hL j hj), fun i hi hL j hj => (ff (fb i) (h.flt i hi hL) (.inr (.inr (.inr ⟨i, hi, hL, rfl⟩))) j).trans (h.gb i hi hL j hj), h.inj, h.qh, h.lq, h.nd, h.rg, h.n1, h.n2, h.bb⟩
  rcases h2 with h2 | ⟨lo, c, e, hc, hl⟩
  · exact .inl h2
  · exact .inr ⟨lo, c, e, hc, fun j v hj => (cc lb (lt_of_cell (hl j v hj)) (.inr (.inr (.inl ⟨rfl, fun e => by rw [e] at hj; simp at hj⟩))) (lo + j)).trans (hl j v hj)⟩
theorem Qm.below (h : Qm W q hb fb lb N B L) {W' : World} (k : Below W.heap.size W W') : Qm W' q hb fb lb N B L := h.keep k.size (fun b hb _ => k.block b hb)
theorem Qm.congr (h : Qm W q hb fb lb N B L) {B' : Nat → Int} (e : ∀ i, i < N → i ∉ L → ∀ k, k < 4096 → B' (i * 4096 + k) = B (i * 4096 + k)) (hb' : ∀ i, 0 ≤ B' i ∧ B' i < 256) : Qm W q hb fb lb N B' L :=
  ⟨h.c0, h.c1, h.g1, h.hf, h.hh, h.gh, fun i hi hL k hk => by rw [e i hi hL k hk]; exact h.cb i hi hL k hk, h.gb, h.inj, h.qh, h.lq, h.nd, h.rg, h.n1, h.n2, hb'⟩
/-- Which frame an address is of, and where in it. -/
theorem number_in (h : Qm W q hb fb lb N B L) (pa : Int) (i off : Nat) (hi : i < N) (ho : off < 4096) (hp : pa = 2147483648 + ((i * 4096 + off : Nat) : Int)) : Calls Try.prog 50 #[.pointer (some ⟨q, 0, .none⟩), .int .u64 pa] W fun e w' => e = .returned (.tuple #[.int .i64 i, .int .i64 off]) ∧ w' = W := by
  have c0 := h.c0
  have n2 := h.n2
  clear h
  have x1 : pa - 2147483648 < 4096 * N := by omega
  have x4 : (0 : Int) ≤ pa - 2147483648 := by omega
  have x5 : 2147483648 ≤ pa := by omega
  have X2 : Hid ((pa - 2147483648) / 4096 = i) := by show (pa - 2147483648) / 4096 = i; omega
  have X3 : Hid ((pa - 2147483648) % 4096 = off) := by show (pa - 2147483648) % 4096 = off; omega
  clear hp
  go_enter Try.func50, Try.ntmps50
  go_wp2
  go_ret2
  exact ⟨ret2i X2.out X3.out, rfl⟩
theorem number_out (h : Qm W q hb fb lb N B L) (pa : Int) (hp : 0 ≤ pa ∧ pa < 18446744073709551616) (ho : ¬ (2147483648 ≤ pa ∧ pa < 2147483648 + 4096 * N)) : Calls Try.prog 50 #[.pointer (some ⟨q, 0, .none⟩), .int .u64 pa] W fun e w' => e = .returned (.tuple #[.int .i64 (-1), .int .i64 0]) ∧ w' = W := by
  have c0 := h.c0
  have n2 := h.n2
  clear h
  by_cases h1 : pa < 2147483648
  · go_enter Try.func50, Try.ntmps50
    go_wp2
    go_ret2
    exact ⟨rfl, rfl⟩
  · have h2 : 4096 * (N : Int) ≤ pa - 2147483648 := by omega
    have h3 : 0 ≤ pa - 2147483648 := by omega
    have h4 : ¬ (pa - 2147483648 < 4096 * (N : Int)) := by omega
    go_enter Try.func50, Try.ntmps50
    go_wp2
    go_ret2
    exact ⟨rfl, rfl⟩
theorem frames_q (h : Qm W q hb fb lb N B L) : Calls Try.prog 8 #[.pointer (some ⟨q, 0, .none⟩)] W fun e w' => e = .returned (.int .i64 N) ∧ w' = W := by
  have c0 := h.c0
  clear h
  go_enter Try.func8, Try.ntmps8
  go_wp2
  go_ret
  exact ⟨rfl, rfl⟩
theorem count_q (h : Qm W q hb fb lb N B L) : Calls Try.prog 7 #[.pointer (some ⟨q, 0, .none⟩)] W fun e w' => e = .returned (.int .i64 L.length) ∧ w' = W := by
  obtain ⟨lv, c1, hl⟩ := h.c1
  clear h
  rcases hl with ⟨_, _, rfl, rfl⟩ | ⟨lo, c, rfl, _, _⟩
  · go_enter Try.func7, Try.ntmps7
    go_wp2
    go_ret
    exact ⟨rfl, rfl⟩
  · go_enter Try.func7, Try.ntmps7
    go_wp2
    go_ret
    exact ⟨rfl, rfl⟩
end
end Go.Proofs.Ytnghcadhilfgnaa
