import Derived.Test.YtacdgfojdkppmaaGreatDoorZh
import Derived.Test.YtacdgfojdkppmaaGreatDoorZg
namespace Go.Proofs.YtacdgfojdkppmaaGreatDoor
open Go.RowKit Go.Shelf
set_option linter.unusedVariables false
set_option linter.unusedSimpArgs false
/-- The verdict on a memory that nobody gave. -/
def unE (r : Int) (xs : List Bs) : Int := if dmE r xs = 0 then 3 else dmE r xs
set_option maxRecDepth 10000 in
set_option maxHeartbeats 2000000 in
theorem load_un {W : World} {v : Value} (hU : Rm.Unm W v) {fp : Option Addr} {fn fc : Nat} {B : Nat → Int} (hL : Laid W) (hF : Fp W fp fn B) (hB : ∀ i, 0 ≤ B i ∧ B i < 256) (hc : fn ≤ fc ∧ fc ≤ 9223372036854775807) (ha hr : Int) (hH : Hd B ha hr)
    {p : Option Addr} {n c : Nat} {xs : List Bs} (hA : Arg W p n c xs) (tr : Int) :
    Calls Tryz.prog 8 #[v, .slice fp fn fc, .slice p n c, .int .u64 tr, .int .u64 2147483648] W fun e w' => e = .returned (.tuple #[.pointer .none, .agg #[.int .u64 0, .int .u64 0, .int .u64 0], .int .i64 (unE (rdF fn B ha hr).1.2 xs)]) ∧ Below W.heap.size W w' := by
  obtain ⟨W1, hW1⟩ : ∃ W1, W1 = W.alloc (.cells #[.int .u64 0, .int .u64 0, .int .u64 0] 34) := ⟨_, rfl⟩
  have b1 : Below W.heap.size W W1 := by rw [hW1]; exact (Below.refl _ _).alloc (Nat.le_refl _) _
  have k0 : W1.cell? ⟨W.heap.size, 0, .none⟩ = some (.int .u64 0) := by rw [hW1]; simp
  have k1 : W1.cell? ⟨W.heap.size, 1, .none⟩ = some (.int .u64 0) := by rw [hW1]; simp
  have k2 : W1.cell? ⟨W.heap.size, 2, .none⟩ = some (.int .u64 0) := by rw [hW1]; simp
  have k4 : ∀ i, W1.frozen? ⟨W.heap.size, i, .none⟩ = false := fun i => by rw [hW1]; exact World.frozen?_alloc_new _ _ _ i
  have hF1 : Fp W1 fp fn B := by
    rcases hF with ⟨b, o, e, h1, h2⟩ | h
    · exact .inl ⟨b, o, e, h1.keep b1, Nat.lt_of_lt_of_le h2 b1.size⟩
    · exact .inr h
  have cP := planF_any (hL.below b1) hF1 hB hc ha hr hH (hA.below b1)
  have HU : Hid (Rm.Unm W1 v ∧ Below W.heap.size W W1 ∧ ∀ i, W1.frozen? ⟨W.heap.size, i, .none⟩ = false) := ⟨hU.below b1, b1, k4⟩
  generalize (rdF fn B ha hr).1.2 = r at cP ⊢
  generalize sgO fn B ha hr = Sg' at cP
  clear hU hL hF hB hH hA b1 k4 hF1
  unfold PlP at cP
  obtain ⟨x, hx⟩ : ∃ x, x = W.heap.size := ⟨_, rfl⟩
  have HX : Hid (x = W.heap.size) := hx
  by_cases h0 : dmE r xs ≠ 0
  · have hE : unE r xs = dmE r xs := by unfold unE; rw [if_neg h0]
    rw [hE]
    generalize dmE r xs = d at h0 cP ⊢
    have hd : (d != 0) = true := by simpa using h0
    clear hE
    go_enter Tryz.func8, Tryz.ntmps8
    go_upto_region 1 with fail
    rw [← hW1, ← hx]
    rw [← hx] at k0 k1 k2
    clear hW1 hx
    go_upto_region 2 with (go_at_call 24; refine cP.mono ?_; rintro _ w2 ⟨b2, h2⟩; obtain rfl : _ = _ := (by rcases h2 with ⟨_, h⟩ | ⟨h, _⟩; exact h; exact absurd h h0); have H2 : Hid (Below W1.heap.size W1 w2) := b2; clear h2 cP b2)
    obtain ⟨w3, hw3⟩ : ∃ w3, w3 = w2.alloc (.cells #[.int .u64 0, .slice .none 0 0, .slice .none 0 0, .int .u64 0] 75) := ⟨_, rfl⟩
    have B3 : Hid (Below W1.heap.size W1 w3) := by rw [hw3]; exact H2.out.alloc H2.out.size _
    rw [← hw3]
    clear hw3 H2
    have l0 := (B3.out.cell (lt_of_cell k0)).trans k0
    have l1 := (B3.out.cell (lt_of_cell k1)).trans k1
    have l2 := (B3.out.cell (lt_of_cell k2)).trans k2
    have f0 : w3.frozen? ⟨x, 0, .none⟩ = false := (B3.out.frozen (p := ⟨x, 0, .none⟩) (lt_of_cell k0)).trans (by rw [HX.out]; exact HU.out.2.2 0)
    have f1 : w3.frozen? ⟨x, 1, .none⟩ = false := (B3.out.frozen (p := ⟨x, 1, .none⟩) (lt_of_cell k1)).trans (by rw [HX.out]; exact HU.out.2.2 1)
    have f2 : w3.frozen? ⟨x, 2, .none⟩ = false := (B3.out.frozen (p := ⟨x, 2, .none⟩) (lt_of_cell k2)).trans (by rw [HX.out]; exact HU.out.2.2 2)
    go_wp2_with fail
    have hxw := HX.out
    refine bodyPost_ret (v := .tuple #[.pointer .none, .agg #[.int .u64 0, .int .u64 0, .int .u64 0], .int .i64 d]) (by simp [results, Tryz.results8, go_sem, l0, l1, l2]) rfl ⟨rfl, ?_⟩
    have hb := HU.out.2.1.trans (B3.out.mono HU.out.2.1.size)
    exact ((hb.setCell (by show W.heap.size ≤ x; omega) _).setCell (by show W.heap.size ≤ x; omega) _).setCell (by show W.heap.size ≤ x; omega) _
  · have h0 : dmE r xs = 0 := by omega
    have hE : unE r xs = 3 := by unfold unE; rw [if_pos h0]
    rw [hE]
    rw [h0] at cP
    clear hE h0
    go_enter Tryz.func8, Tryz.ntmps8
    go_upto_region 1 with fail
    rw [← hW1, ← hx]
    rw [← hx] at k0 k1 k2
    clear hW1 hx
    go_upto_region 2 with (go_at_call 24; refine cP.mono ?_; rintro _ w2 ⟨b2, h2⟩; rcases h2 with ⟨h, _⟩ | ⟨_, X, q, cs, E, B', et, pq, pn, pc, sp, rfl, _⟩; exact absurd rfl h; have H2 : Hid (Below W1.heap.size W1 w2) := b2; clear cP b2)
    obtain ⟨w3, hw3⟩ : ∃ w3, w3 = w2.alloc (.cells #[.int .u64 et, .slice q E.length cs, .slice pq pn pc, .int .u64 sp] 75) := ⟨_, rfl⟩
    have B3 : Hid (Below W1.heap.size W1 w3) := by rw [hw3]; exact H2.out.alloc H2.out.size _
    rw [← hw3]
    clear hw3 H2
    have l0 := (B3.out.cell (lt_of_cell k0)).trans k0
    have l1 := (B3.out.cell (lt_of_cell k1)).trans k1
    have l2 := (B3.out.cell (lt_of_cell k2)).trans k2
    have f0 : w3.frozen? ⟨x, 0, .none⟩ = false := (B3.out.frozen (p := ⟨x, 0, .none⟩) (lt_of_cell k0)).trans (by rw [HX.out]; exact HU.out.2.2 0)
    have f1 : w3.frozen? ⟨x, 1, .none⟩ = false := (B3.out.frozen (p := ⟨x, 1, .none⟩) (lt_of_cell k1)).trans (by rw [HX.out]; exact HU.out.2.2 1)
    have f2 : w3.frozen? ⟨x, 2, .none⟩ = false := (B3.out.frozen (p := ⟨x, 2, .none⟩) (lt_of_cell k2)).trans (by rw [HX.out]; exact HU.out.2.2 2)
    have c25 := Rm.no_frames (HU.out.1.below B3.out)
    go_wp2_with (go_at_call 25; refine c25.mono ?_; rintro _ w4 ⟨rfl, e4⟩; obtain rfl : w3 = w4 := e4.symm)
    have hxw := HX.out
    refine bodyPost_ret (v := .tuple #[.pointer .none, .agg #[.int .u64 0, .int .u64 0, .int .u64 0], .int .i64 3]) (by simp [results, Tryz.results8, go_sem, l0, l1, l2]) rfl ⟨rfl, ?_⟩
    have hb := HU.out.2.1.trans (B3.out.mono HU.out.2.1.size)
    exact ((hb.setCell (by show W.heap.size ≤ x; omega) _).setCell (by show W.heap.size ≤ x; omega) _).setCell (by show W.heap.size ≤ x; omega) _
end Go.Proofs.YtacdgfojdkppmaaGreatDoor
