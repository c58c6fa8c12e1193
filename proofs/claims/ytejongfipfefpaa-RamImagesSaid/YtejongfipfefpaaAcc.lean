import Derived.Test.YtejongfipfefpaaReach
namespace Go.Proofs.Ytejongfipfefpaa
open Go.RowKit
set_option linter.unusedVariables false
set_option linter.unusedSimpArgs false
/-- A row of bytes at the beginning of a block. -/
def RowB (w : World) (g n : Nat) (R : Nat → Int) : Prop := ∀ i, i < n → w.cell? ⟨g, i, .none⟩ = some (.int .u8 (R i))
theorem RowB.below {w w' : World} {g n k : Nat} {R : Nat → Int} (h : RowB w g n R) (b : Below k w w') (hg : g < k) : RowB w' g n R := fun i hi => (b.cell (p := ⟨g, i, .none⟩) hg).trans (h i hi)
section
variable {w : World} {p b m N cnt : Nat} {B : Nat → Int} {nx : Int} {hd : Int → Bool}
/-- A copy of bytes. -/
def CopyP (w : World) (n : Nat) (R : Nat → Int) (e : Ending) (w' : World) : Prop := ∃ g, w.heap.size ≤ g ∧ g < w'.heap.size ∧ e = .returned (.slice (some ⟨g, 0, .none⟩) n n) ∧ RowB w' g n R ∧ (∀ i, i < n → w'.frozen? ⟨g, i, .none⟩ = false) ∧ Below w.heap.size w w'
theorem copied_any (b o n cap : Nat) (R : Nat → Int) (w : World) (hn : 1 ≤ n) (hn2 : n ≤ 16777216) (hc : ∀ i, i < n → w.cell? ⟨b, o + i, .none⟩ = some (.int .u8 (R i))) :
    Calls Try.prog 32 #[.slice (some ⟨b, o, .none⟩) n cap] w fun e w' => CopyP w n R e w' := by
  have hmk := make_bytes n hn2 w
  have hb : b < w.heap.size := lt_of_cell (hc 0 hn)
  have HZ : ∀ i, i < n → (w.alloc (.cells (Zs n) 5)).cell? ⟨w.heap.size, i, .none⟩ = some (.int .u8 0) := fun i hi => by
    rw [World.cell?_alloc_at _ _ _ _ rfl]
    exact Zs_at n i hi
  have HZf : ∀ i, i < n → (w.alloc (.cells (Zs n) 5)).frozen? ⟨w.heap.size, i, .none⟩ = false := fun i hi => World.frozen?_alloc_new _ _ _ _
  have hg : w.heap.size < (w.alloc (.cells (Zs n) 5)).heap.size := by simp
  have hB0 : Below w.heap.size w (w.alloc (.cells (Zs n) 5)) := (Below.refl _ _).alloc (Nat.le_refl _) _
  have hcp : ∀ ty, (Builtin.copy_ #[27, 27] ty #[.slice (some ⟨w.heap.size, 0, .none⟩) n n, .slice (some ⟨b, o, .none⟩) n cap]).run Try.prog (w.alloc (.cells (Zs n) 5)) = .ok (.int .i64 n) ((w.alloc (.cells (Zs n) 5)).setCells w.heap.size 0 ((List.range n).map fun i => .int .u8 (R i))) := fun ty => by
    have := run_copy_cells (P := Try.prog) (w.alloc (.cells (Zs n) 5)) 27 27 ty 5 w.heap.size 0 n n ⟨b, o, .none⟩ n cap ((List.range n).map fun i => .int .u8 (R i)) Try.underlying27 info5 (by simp)
      (fun j v hj => by
        rw [addr_add]
        rw [List.getElem?_map] at hj
        by_cases hjn : j < n
        · rw [List.getElem?_range hjn] at hj
          simp only [Option.map_some, Option.some.injEq] at hj
          subst hj
          rw [World.cell?_alloc_past _ _ _ (show b < w.heap.size from hb)]
          exact hc j hjn
        · rw [List.getElem?_eq_none (by simp; omega)] at hj
          cases hj)
      (fun j hj => by rw [Nat.zero_add, HZ j (by simpa using hj)]; rfl) (fun j hj => by rw [Nat.zero_add]; exact HZf j (by simpa using hj)) (fun v hv => by simp only [List.mem_map] at hv; obtain ⟨i, _, rfl⟩ := hv; rfl)
    rw [this]
    simp [goInt]
  have HR : Hid (RowB ((w.alloc (.cells (Zs n) 5)).setCells w.heap.size 0 ((List.range n).map fun i => .int .u8 (R i))) w.heap.size n R) := fun i hi => by
    have := World.cell?_setCells_in w.heap.size ((List.range n).map fun i => Value.int .u8 (R i)) 0 (w.alloc (.cells (Zs n) 5)) (fun j hj => by rw [Nat.zero_add, HZ j (by simpa using hj)]; rfl) i (by simpa using hi)
    rw [Nat.zero_add] at this
    rw [this]
    simp
  have HRf : Hid (∀ i, i < n → ((w.alloc (.cells (Zs n) 5)).setCells w.heap.size 0 ((List.range n).map fun i => .int .u8 (R i))).frozen? ⟨w.heap.size, i, .none⟩ = false) := fun i hi => by rw [World.frozen?_setCells]; exact HZf i hi
  have HBl : Hid (Below w.heap.size w ((w.alloc (.cells (Zs n) 5)).setCells w.heap.size 0 ((List.range n).map fun i => .int .u8 (R i)))) := by
    have key : ∀ (us : List Value) (o : Nat) (w1 : World), Below w.heap.size w w1 → Below w.heap.size w (w1.setCells w.heap.size o us) := by
      intro us
      induction us with
      | nil => intro o w1 h; exact h
      | cons u us ih => intro o w1 h; exact ih (o + 1) _ (h.setCell (p := ⟨w.heap.size, o, .none⟩) (Nat.le_refl _) _)
    exact key _ 0 _ hB0
  have HS : Hid (w.heap.size < ((w.alloc (.cells (Zs n) 5)).setCells w.heap.size 0 ((List.range n).map fun i => .int .u8 (R i))).heap.size) := lt_of_cell (HR.out 0 hn)
  generalize (w.alloc (.cells (Zs n) 5)).setCells w.heap.size 0 ((List.range n).map fun i => .int .u8 (R i)) = w2 at *
  clear hc HZ HZf hB0 hg
  generalize w.alloc (.cells (Zs n) 5) = w1 at *
  go_enter Try.func32, Try.ntmps32
  go_wp2
  go_ret
  exact ⟨w.heap.size, Nat.le_refl _, HS.out, rfl, HR.out, HRf.out, HBl.out⟩
end
end Go.Proofs.Ytejongfipfefpaa
