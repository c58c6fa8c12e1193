import Derived.Test.YtabhojfdkmeaoaaNw
namespace Go.Proofs.Ytabhojfdkmeaoaa
open Go.RowKit
set_option linter.unusedVariables false
set_option linter.unusedSimpArgs false
/-- The state as a value. -/
def sv (p : Option Addr) (n c : Nat) (R S : Int) (rd wt : Bool) : Value := .agg #[.slice p n c, .int .u32 R, .int .u32 S, .bool rd, .bool wt]
/-- The law's own box of a state. -/
structure Sb (w : World) (b : Nat) (p : Option Addr) (n c : Nat) (R S : Int) (rd wt : Bool) : Prop where
  c0 : w.cell? ⟨b, 0, .none⟩ = some (.slice p n c)
  c1 : w.cell? ⟨b, 1, .none⟩ = some (.int .u32 R)
  c2 : w.cell? ⟨b, 2, .none⟩ = some (.int .u32 S)
  c3 : w.cell? ⟨b, 3, .none⟩ = some (.bool rd)
  c4 : w.cell? ⟨b, 4, .none⟩ = some (.bool wt)
theorem sb_new (w : World) (p : Option Addr) (n c : Nat) (R S : Int) (rd wt : Bool) : Sb (w.alloc (.cells #[.slice p n c, .int .u32 R, .int .u32 S, .bool rd, .bool wt] 36)) w.heap.size p n c R S rd wt := by
  constructor <;> rw [World.cell?_alloc_at _ _ _ _ rfl] <;> rfl
theorem Sb.keep {w v : World} {b g : Nat} {p : Option Addr} {n c : Nat} {R S : Int} {rd wt : Bool} (h : Sb w b p n c R S rd wt) (t : Trn g w v) (hb : b ≠ g) : Sb v b p n c R S rd wt :=
  ⟨(t.cell (p := ⟨b, 0, .none⟩) (lt_cell h.c0) hb).trans h.c0, (t.cell (p := ⟨b, 1, .none⟩) (lt_cell h.c1) hb).trans h.c1, (t.cell (p := ⟨b, 2, .none⟩) (lt_cell h.c2) hb).trans h.c2, (t.cell (p := ⟨b, 3, .none⟩) (lt_cell h.c3) hb).trans h.c3, (t.cell (p := ⟨b, 4, .none⟩) (lt_cell h.c4) hb).trans h.c4⟩
theorem Sb.below {w v : World} {b : Nat} {p : Option Addr} {n c : Nat} {R S : Int} {rd wt : Bool} (h : Sb w b p n c R S rd wt) (t : Below w.heap.size w v) : Sb v b p n c R S rd wt :=
  h.keep (g := w.heap.size) (Trn.ofBelow t) (by have := lt_cell h.c0; show b ≠ _; exact Nat.ne_of_lt this)
theorem Sb.rangeAt {w : World} {b : Nat} {p : Option Addr} {n c : Nat} {R S : Int} {rd wt : Bool} (h : Sb w b p n c R S rd wt) : w.rangeAt b 0 [.slice p n c, .int .u32 R, .int .u32 S, .bool rd, .bool wt] := by
  intro j v hv
  match j, hv with
  | 0, hv => cases hv; exact h.c0
  | 1, hv => cases hv; exact h.c1
  | 2, hv => cases hv; exact h.c2
  | 3, hv => cases hv; exact h.c3
  | 4, hv => cases hv; exact h.c4
/-- What a refused state comes to. -/
def Bad4 (w w' : World) (e : Ending) : Prop := ∃ g, e = .returned (.tuple #[.pointer .none, .iface 67 (.pointer (some ⟨g, 0, .none⟩))]) ∧ w'.cell? ⟨g, 0, .none⟩ = some (.string ⟨#[112, 105, 112, 101]⟩) ∧ w'.cell? ⟨g, 1, .none⟩ = some (.int .i64 0) ∧ w'.cell? ⟨g, 2, .none⟩ = some (.iface 68 (.int .i64 4))
set_option maxHeartbeats 2000000 in
theorem from_any {w : World} {p : Option Addr} {n c : Nat} {xs : List Int} (R S : Int) (rd wt : Bool) (hB : Byt w p n c xs) (hy : ∀ y ∈ xs, 0 ≤ y ∧ y < 256) (hR : 0 ≤ R ∧ R < 4294967296) (hS : 0 ≤ S ∧ S < 4294967296) :
    Calls Try.prog 18 #[.agg #[.slice p n c, .int .u32 R, .int .u32 S, .bool rd, .bool wt]] w fun e w' => Below w.heap.size w w' ∧
      ((¬ okS n R S ∧ Bad4 w w' e) ∨ (okS n R S ∧ ∃ b, w.heap.size ≤ b ∧ e = .returned (.tuple #[.pointer (some ⟨b, 0, .none⟩), .nilIface]) ∧ Pip w' b xs R rd wt)) := by
  have hl := hB.1
  have hnc := hB.2.1
  have hcm : c ≤ 9223372036854775807 := hB.2.2.1
  have HB : Hid (Byt w p n c xs) := hB
  have HY : Hid (∀ y ∈ xs, 0 ≤ y ∧ y < 256) := hy
  have HN : Hid (∀ k, w.heap.size ≤ k → 0 < n → NB p k) := fun k hk h0 => NB.of hk hB h0
  clear hB hy
  go_enter Try.func18, Try.ntmps18
  go_upto_region 1 with fail
  have hs1 := sb_new w p n c R S rd wt
  have hb1 : Below w.heap.size w (w.alloc (.cells #[.slice p n c, .int .u32 R, .int .u32 S, .bool rd, .bool wt] 36)) := (Below.refl _ _).alloc (Nat.le_refl _) _
  have hz1 : (w.alloc (.cells #[.slice p n c, .int .u32 R, .int .u32 S, .bool rd, .bool wt] 36)).heap.size = w.heap.size + 1 := by simp
  generalize w.alloc (.cells #[.slice p n c, .int .u32 R, .int .u32 S, .bool rd, .bool wt] 36) = W1 at *
  have H1 : Hid (Sb W1 w.heap.size p n c R S rd wt ∧ Below w.heap.size w W1 ∧ W1.heap.size = w.heap.size + 1) := ⟨hs1, hb1, hz1⟩
  clear hs1 hb1 hz1
  refine wp_region_lit ?_
  refine wpList_load_mid rfl 36 (.tmp 1) rfl w.heap.size 0 (by rfl) _ _ H1.out.1.rangeAt Try.underlying36 rfl (by kernel_rfl) ?_
  simp only [Act.put, List.setIfInBounds_toArray, List.set_cons_succ, List.set_cons_zero]
  go_wp2_with fail
  have c29 := canBe_any W1 p n c R S rd wt (by omega)
  refine c29.mono ?_
  rintro e W2 ⟨rfl, hb2⟩
  have H2 : Hid (Sb W2 w.heap.size p n c R S rd wt ∧ Below w.heap.size w W2 ∧ w.heap.size < W2.heap.size) := ⟨H1.out.1.below hb2, H1.out.2.1.trans (hb2.mono (by have := H1.out.2.2; omega)), by have := H1.out.2.2; have := hb2.size; omega⟩
  clear c29 hb2 H1
  by_cases hok : okS n R S
  · have d1 : decide (okS n R S) = true := decide_eq_true hok
    rw [d1]
    have q0 := H2.out.1.c0
    have q1 := H2.out.1.c1
    have q3 := H2.out.1.c3
    have q4 := H2.out.1.c4
    have HO : Hid (okS n R S) := hok
    clear hok d1
    go_upto_region 3 with fail
    refine wp_region_lit ?_
    refine wpList_read rfl (.pointer (some ⟨w.heap.size, 1, .none⟩)) (by go_simp) ?_
    simp only [Act.put, List.setIfInBounds_toArray, List.set_cons_succ, List.set_cons_zero]
    refine wpList_read rfl (.int .u32 R) (by go_simp) ?_
    simp only [Act.put, List.setIfInBounds_toArray, List.set_cons_succ, List.set_cons_zero]
    refine wpList_read rfl (.pointer (some ⟨w.heap.size, 1, .none⟩)) (by go_simp) ?_
    simp only [Act.put, List.setIfInBounds_toArray, List.set_cons_succ, List.set_cons_zero]
    refine wpList_read rfl (.int .u32 R) (by go_simp) ?_
    simp only [Act.put, List.setIfInBounds_toArray, List.set_cons_succ, List.set_cons_zero]
    refine wpList_read rfl (.pointer (some ⟨w.heap.size, 3, .none⟩)) (by go_simp) ?_
    simp only [Act.put, List.setIfInBounds_toArray, List.set_cons_succ, List.set_cons_zero]
    refine wpList_read rfl (.bool rd) (by go_simp) ?_
    simp only [Act.put, List.setIfInBounds_toArray, List.set_cons_succ, List.set_cons_zero]
    refine wpList_read rfl (.pointer (some ⟨w.heap.size, 4, .none⟩)) (by go_simp) ?_
    simp only [Act.put, List.setIfInBounds_toArray, List.set_cons_succ, List.set_cons_zero]
    refine wpList_read rfl (.bool wt) (by go_simp) ?_
    simp only [Act.put, List.setIfInBounds_toArray, List.set_cons_succ, List.set_cons_zero]
    refine wpl_built rfl 27 _ rfl (some 20) rfl (pz R R rd wt true) (by simp only [List.map_toArray, List.map_cons, List.map_nil, Act.eval]; exact built_from _ _ _ _) ?_
    simp only [Act.put, List.setIfInBounds_toArray, List.set_cons_succ, List.set_cons_zero]
    refine Great.wpList_boxTo rfl 27 (.tmp 20) rfl (some 21) rfl W2.heap.size rfl (pz R R rd wt true) rfl ?_
    simp only [Act.put, List.setIfInBounds_toArray, List.set_cons_succ, List.set_cons_zero]
    have hp3 := pip_new W2 R rd wt hR
    have hb3 : Below W2.heap.size W2 (W2.alloc (.cells (pz R R rd wt true) 27)) := (Below.refl _ _).alloc (Nat.le_refl _) _
    generalize W2.alloc (.cells (pz R R rd wt true) 27) = W3 at *
    generalize pz R R rd wt true = Z at *
    have H3 : Hid (Pip W3 W2.heap.size [] R rd wt ∧ Sb W3 w.heap.size p n c R S rd wt ∧ Below w.heap.size w W3 ∧ w.heap.size < W3.heap.size) := ⟨hp3, H2.out.1.below hb3, H2.out.2.1.trans (hb3.mono (Nat.le_of_lt H2.out.2.2)), Nat.lt_of_lt_of_le H2.out.2.2 hb3.size⟩
    have hbk : w.heap.size ≤ W2.heap.size := Nat.le_of_lt H2.out.2.2
    have HN2 : Hid (0 < n → NB p W2.heap.size) := HN.out _ hbk
    generalize W2.heap.size = b at *
    have z0 := H3.out.2.1.c0
    clear hp3 hb3 q0 q1 q3 q4 H2
    have B3 : Hid (Byt W3 p n c xs) := by
      have := H3.out.2.2.1
      exact (Trn.ofBelow (b := w.heap.size) this).byt HB.out (fun h => (HN.out _ (Nat.le_refl _) h).at)
    have c27 := lay_pip H3.out.1 B3.out HN2.out HY.out (by have := HO.out.1; simpa using this)
    go_wp2_with fail
    refine c27.mono ?_
    rintro e W4 ⟨⟨v, rfl⟩, hp4, ht4⟩
    have H4 : Hid (Pip W4 b xs R rd wt ∧ Below w.heap.size w W4) := ⟨by simpa using hp4, H3.out.2.2.1.trans (ht4.toBelow hbk (Nat.le_of_lt H3.out.2.2.2))⟩
    clear c27 hp4 ht4
    go_wp2
    go_ret2
    exact ⟨H4.out.2, .inr ⟨HO.out, b, hbk, rfl, H4.out.1⟩⟩
  · have d1 : decide (okS n R S) = false := decide_eq_false hok
    rw [d1]
    have HO : Hid (¬ okS n R S) := hok
    clear hok d1
    go_wp2
    go_ret2
    refine ⟨?_, .inl ⟨HO.out, _, rfl, ?_, ?_, ?_⟩⟩
    · exact H2.out.2.1.alloc (Nat.le_of_lt H2.out.2.2) _
    all_goals (rw [World.cell?_alloc_at _ _ _ _ rfl]; rfl)
end Go.Proofs.Ytabhojfdkmeaoaa
