import Derived.Test.YtblmkkhiojbcjaaGreatReach
namespace Go.Proofs.YtblmkkhiojbcjaaGreat
open Go.RowKit
set_option linter.unusedVariables false
set_option linter.unusedSimpArgs false
/-- A row of bytes at the beginning of a block. -/
def RowB (w : World) (g n : Nat) (R : Nat → Int) : Prop := ∀ i, i < n → w.cell? ⟨g, i, .none⟩ = some (.int .u8 (R i))
theorem RowB.below {w w' : World} {g n k : Nat} {R : Nat → Int} (h : RowB w g n R) (b : Below k w w') (hg : g < k) : RowB w' g n R := fun i hi => (b.cell (p := ⟨g, i, .none⟩) hg).trans (h i hi)
section
variable {w : World} {p b m N cnt : Nat} {B : Nat → Int} {nx : Int} {hd : Int → Bool}
set_option maxHeartbeats 1000000 in
theorem access_write (h : Mem w p b m N B nx hd cnt) (o n : Nat) (hn : n = 1 ∨ n = 2 ∨ n = 4 ∨ n = 8) (ho : o + n ≤ 4096 * N) (hh : ∀ f : Nat, o / 4096 ≤ f → f * 4096 < o + n → hd (2147483648 + f * 4096) = true) (v : Int) (hv : 0 ≤ v ∧ v < 18446744073709551616) :
    Calls Tryz.prog 141 #[.pointer (some ⟨p, 0, .none⟩), .int .u64 (2147483648 + o), .int .i64 n, .bool true, .int .u64 v] w fun e w' => e = .returned (.tuple #[.int .u64 (md v n), .bool true]) ∧ Mem w' p b m N (over B o (le v n)) nx hd cnt ∧ Fra p b m w w' := by
  have c := reach_ok h o n (by omega) ho hh
  have HM : Hid (Mem w p b m N B nx hd cnt) := h
  clear h hh
  have hR := fun w1 => number_write b o n n (4096 * N - o) hn v w1 (Nat.le_refl _)
  have HE : Hid (∀ w1 w2, Below w.heap.size w w1 → w2 = w1.setCells b o ((le v n).map (.int .u8)) → Mem w2 p b m N (over B o (le v n)) nx hd cnt ∧ Fra p b m w w2) := fun w1 w2 hb e => by
    subst e
    exact ⟨(HM.out.below hb).setCells o _ (by rw [le_len]; exact ho) (le_bd v _), (Fra.below (p := p) (b := b) (m := m) hb).setCells o _⟩
  rcases hn with rfl | rfl | rfl | rfl
  all_goals
    go_enter Tryz.func141, Tryz.ntmps141
    go_wp2_with fail
    refine c.mono ?_
    rintro e w1 ⟨rfl, hb⟩
    have M1 := HM.out.below hb
    have c2 := hR w1 (fun i hi => by rw [M1.cb _ (by omega)]; rfl) (fun i hi => M1.fb _ (by omega)) hv
    simp only [Nat.reduceEqDiff, if_true, if_false, reduceIte] at c2
    clear M1 c hR
    go_wp2_with (first | (go_at_call 154; refine c2.mono ?_; rintro e w2 ⟨rfl, hw⟩; have hE := HE.out w1 w2 hb hw; clear hw) | (go_at_call 155; refine c2.mono ?_; rintro e w2 ⟨rfl, hw⟩; have hE := HE.out w1 w2 hb hw; clear hw) | (go_at_call 82; refine c2.mono ?_; rintro e w2 ⟨rfl, hw⟩; have hE := HE.out w1 w2 hb hw; clear hw) | (go_at_call 105; refine c2.mono ?_; rintro e w2 ⟨rfl, hw⟩; have hE := HE.out w1 w2 hb hw; clear hw))
    go_ret2
    exact ⟨rfl, hE⟩
theorem load_ok (h : Mem w p b m N B nx hd cnt) (o n : Nat) (hn : n = 1 ∨ n = 2 ∨ n = 4 ∨ n = 8) (ho : o + n ≤ 4096 * N) (hh : ∀ f : Nat, o / 4096 ≤ f → f * 4096 < o + n → hd (2147483648 + f * 4096) = true) :
    Calls Tryz.prog 118 #[.pointer (some ⟨p, 0, .none⟩), .int .u64 (2147483648 + o), .int .i64 n] w fun e w' => e = .returned (.tuple #[.int .u64 (num B o n), .bool true]) ∧ Below w.heap.size w w' := by
  have c := access_read h o n hn ho hh 0
  clear h hh hn
  go_enter Tryz.func118, Tryz.ntmps118
  go_wp2_with (go_at_call 141; refine c.mono ?_; rintro e w1 ⟨rfl, hb⟩)
  go_ret2
  exact ⟨rfl, hb⟩
theorem store_ok (h : Mem w p b m N B nx hd cnt) (o n : Nat) (hn : n = 1 ∨ n = 2 ∨ n = 4 ∨ n = 8) (ho : o + n ≤ 4096 * N) (hh : ∀ f : Nat, o / 4096 ≤ f → f * 4096 < o + n → hd (2147483648 + f * 4096) = true) (v : Int) (hv : 0 ≤ v ∧ v < 18446744073709551616) :
    Calls Tryz.prog 116 #[.pointer (some ⟨p, 0, .none⟩), .int .u64 (2147483648 + o), .int .i64 n, .int .u64 v] w fun e w' => e = .returned (.bool true) ∧ Mem w' p b m N (over B o (le v n)) nx hd cnt ∧ Fra p b m w w' := by
  have c := access_write h o n hn ho hh v hv
  clear h hh hn hv
  go_enter Tryz.func116, Tryz.ntmps116
  go_wp2_with (go_at_call 141; refine c.mono ?_; rintro e w1 ⟨rfl, hM, hF⟩)
  go_ret
  exact ⟨rfl, hM, hF⟩
/-- A copy of bytes. -/
def CopyP (w : World) (n : Nat) (R : Nat → Int) (e : Ending) (w' : World) : Prop := ∃ g, w.heap.size ≤ g ∧ g < w'.heap.size ∧ e = .returned (.slice (some ⟨g, 0, .none⟩) n n) ∧ RowB w' g n R ∧ (∀ i, i < n → w'.frozen? ⟨g, i, .none⟩ = false) ∧ Below w.heap.size w w'
theorem copied_any (b o n cap : Nat) (R : Nat → Int) (w : World) (hn : 1 ≤ n) (hn2 : n ≤ 16777216) (hc : ∀ i, i < n → w.cell? ⟨b, o + i, .none⟩ = some (.int .u8 (R i))) :
    Calls Tryz.prog 91 #[.slice (some ⟨b, o, .none⟩) n cap] w fun e w' => CopyP w n R e w' := by
  have hmk := make_bytes n hn2 w
  have hb : b < w.heap.size := lt_of_cell (hc 0 hn)
  have HZ : ∀ i, i < n → (w.alloc (.cells (Zs n) 5)).cell? ⟨w.heap.size, i, .none⟩ = some (.int .u8 0) := fun i hi => by
    rw [World.cell?_alloc_at _ _ _ _ rfl]
    exact Zs_at n i hi
  have HZf : ∀ i, i < n → (w.alloc (.cells (Zs n) 5)).frozen? ⟨w.heap.size, i, .none⟩ = false := fun i hi => World.frozen?_alloc_new _ _ _ _
  have hg : w.heap.size < (w.alloc (.cells (Zs n) 5)).heap.size := by simp
  have hB0 : Below w.heap.size w (w.alloc (.cells (Zs n) 5)) := (Below.refl _ _).alloc (Nat.le_refl _) _
  have hcp : ∀ ty, (Builtin.copy_ #[24, 24] ty #[.slice (some ⟨w.heap.size, 0, .none⟩) n n, .slice (some ⟨b, o, .none⟩) n cap]).run Tryz.prog (w.alloc (.cells (Zs n) 5)) = .ok (.int .i64 n) ((w.alloc (.cells (Zs n) 5)).setCells w.heap.size 0 ((List.range n).map fun i => .int .u8 (R i))) := fun ty => by
    have := run_copy_cells (P := Tryz.prog) (w.alloc (.cells (Zs n) 5)) 24 24 ty 5 w.heap.size 0 n n ⟨b, o, .none⟩ n cap ((List.range n).map fun i => .int .u8 (R i)) Tryz.underlying24 info5 (by simp)
      (fun j v hj => by
        rw [addr_add]
        rw [List.getElem?_map] at hj
        by_cases hjn : j < n
        · rw [List.getElem?_range hjn] at hj
          simp only [Option.map_some, Option.some.injEq] at hj
          subst hj
          rw [World.cell?_alloc_past _ _ _ (show b < w.heap.size from hb)]
          exact hc j hjn
        · rw [List.getElem?_eq_none (by simp; omega)] at hj
          cases hj)
      (fun j hj => by rw [Nat.zero_add, HZ j (by simpa using hj)]; rfl) (fun j hj => by rw [Nat.zero_add]; exact HZf j (by simpa using hj)) (fun v hv => by simp only [List.mem_map] at hv; obtain ⟨i, _, rfl⟩ := hv; rfl)
    rw [this]
    simp [goInt]
  have HR : Hid (RowB ((w.alloc (.cells (Zs n) 5)).setCells w.heap.size 0 ((List.range n).map fun i => .int .u8 (R i))) w.heap.size n R) := fun i hi => by
    have := World.cell?_setCells_in w.heap.size ((List.range n).map fun i => Value.int .u8 (R i)) 0 (w.alloc (.cells (Zs n) 5)) (fun j hj => by rw [Nat.zero_add, HZ j (by simpa using hj)]; rfl) i (by simpa using hi)
    rw [Nat.zero_add] at this
    rw [this]
    simp
  have HRf : Hid (∀ i, i < n → ((w.alloc (.cells (Zs n) 5)).setCells w.heap.size 0 ((List.range n).map fun i => .int .u8 (R i))).frozen? ⟨w.heap.size, i, .none⟩ = false) := fun i hi => by rw [World.frozen?_setCells]; exact HZf i hi
  have HBl : Hid (Below w.heap.size w ((w.alloc (.cells (Zs n) 5)).setCells w.heap.size 0 ((List.range n).map fun i => .int .u8 (R i)))) := by
    have key : ∀ (us : List Value) (o : Nat) (w1 : World), Below w.heap.size w w1 → Below w.heap.size w (w1.setCells w.heap.size o us) := by
      intro us
      induction us with
      | nil => intro o w1 h; exact h
      | cons u us ih => intro o w1 h; exact ih (o + 1) _ (h.setCell (p := ⟨w.heap.size, o, .none⟩) (Nat.le_refl _) _)
    exact key _ 0 _ hB0
  have HS : Hid (w.heap.size < ((w.alloc (.cells (Zs n) 5)).setCells w.heap.size 0 ((List.range n).map fun i => .int .u8 (R i))).heap.size) := lt_of_cell (HR.out 0 hn)
  generalize (w.alloc (.cells (Zs n) 5)).setCells w.heap.size 0 ((List.range n).map fun i => .int .u8 (R i)) = w2 at *
  clear hc HZ HZf hB0 hg
  generalize w.alloc (.cells (Zs n) 5) = w1 at *
  go_enter Tryz.func91, Tryz.ntmps91
  go_wp2
  go_ret
  exact ⟨w.heap.size, Nat.le_refl _, HS.out, rfl, HR.out, HRf.out, HBl.out⟩
end
end Go.Proofs.YtblmkkhiojbcjaaGreat
