import Derived.Test.YtnghcadhilfgnaaQR
namespace Go.Proofs.Ytnghcadhilfgnaa
open Go.RowKit
set_option linter.unusedVariables false
set_option linter.unusedSimpArgs false
section
variable {W : World} {q hb lb N : Nat} {fb : Nat → Nat} {B : Nat → Int} {L : List Nat}
/-- Bytes read, in a row of their own. -/
def CpT (W : World) (n : Nat) (D : Nat → Int) (e : Ending) (w' : World) : Prop := e = .returned (.tuple #[.slice (some ⟨W.heap.size, 0, .none⟩) n n, .bool true]) ∧ (∀ j, j < n → w'.cell? ⟨W.heap.size, j, .none⟩ = some (.int .u8 (D j))) ∧ Below W.heap.size W w'
set_option maxHeartbeats 2000000 in
theorem readG_ok (h : Qm W q hb fb lb N B L) (pa : Int) (o n : Nat) (hp : pa = 2147483648 + (o : Int)) (hn : 1 ≤ n) (hk : okR N L pa n) : Calls Try.prog 52 #[.pointer (some ⟨q, 0, .none⟩), .int .u64 pa, .int .i64 n] W fun e w' => CpT W n (fun i => B (o + i)) e w' := by
  have n1 := h.n1
  have n2 := h.n2
  have o1 : (o : Int) + n ≤ 4096 * N := by have := hk.2.1; omega
  have c := heldQ_yes h pa n (by omega) (by omega) (by omega) hk
  have hmk := make_bytes n (by omega) W
  have c0 := h.c0
  have HZ : Hid (∀ i, i < n → (Zs n)[i]? = some (.int .u8 0)) := fun i hi => Zs_at _ i hi
  generalize Zs n = Z at *
  have HA : Hid ((∀ j, j < n → ((W.alloc (.cells Z 5)).cell? ⟨W.heap.size, j, .none⟩).isSome = true ∧ (W.alloc (.cells Z 5)).frozen? ⟨W.heap.size, j, .none⟩ = false) ∧ Below W.heap.size W (W.alloc (.cells Z 5))) := by
    refine ⟨fun j hj => ⟨?_, World.frozen?_alloc_new _ _ _ _⟩, (Below.refl _ _).alloc (Nat.le_refl _) _⟩
    rw [World.cell?_alloc_at _ _ _ _ rfl, HZ.out j hj]
    rfl
  have HQ : Hid (Qm W q hb fb lb N B L ∧ okR N L pa n) := ⟨h, hk⟩
  have HP : Hid (pa = 2147483648 + (o : Int)) := hp
  have o3 : pa + n < 18446744073709551616 := by omega
  have o4 : (0 : Int) ≤ pa := by omega
  have i1 : ¬ ((n : Int) < 0) := by omega
  have i2 : ((n : Int) == 0) = false := by simp; omega
  have i3 : ((N : Int) == 0) = false := by simp; omega
  clear h hk hp
  go_enter Try.func52, Try.ntmps52
  go_wp2_with (go_at_call 49; refine c.mono ?_; rintro e w0 ⟨rfl, rfl⟩)
  generalize w0.alloc (.cells Z 5) = W1 at *
  go_loopw [10] (fun a wr => ∃ k : Nat, k ≤ n ∧ a = .int .i64 k ∧ Hid ((∀ j, j < n → (wr.cell? ⟨w0.heap.size, j, .none⟩).isSome = true ∧ wr.frozen? ⟨w0.heap.size, j, .none⟩ = false) ∧ (∀ j, j < k → wr.cell? ⟨w0.heap.size, j, .none⟩ = some (.int .u8 (B (o + j)))) ∧ Below w0.heap.size w0 wr)) (fun a _ => (n - intOf a).toNat)
  case atStart => exact ⟨0, by omega, rfl, HA.out.1, fun j h => by omega, HA.out.2⟩
  case round =>
    obtain ⟨k, hk, rfl, HN⟩ := hrel
    by_cases hlt : k < n
    · have g0 : (k : Int) < n := by omega
      have hQ := HQ.out.1.below HN.out.2.2
      obtain ⟨f, off, hfN, hoff, hL, hfo⟩ := HQ.out.2.at k hlt
      have cN := number_in hQ (pa + k) f off hfN hoff hfo
      have c0' := hQ.c0
      have cH := hQ.hh f hfN hL
      have cB := hQ.cb f hfN hL off hoff
      have e : f * 4096 + off = o + k := by have := HP.out; omega
      rw [e] at cB
      obtain ⟨s1, s2⟩ := HN.out.1 k hlt
      obtain ⟨v, s1'⟩ := Option.isSome_iff_exists.1 s1
      have f1 : (f : Int) < N := by omega
      have o5 : (off : Int) < 4096 := by omega
      have HS : Hid ((∀ j, j < n → ((wr.setCell ⟨w0.heap.size, k, .none⟩ (.int .u8 (B (o + k)))).cell? ⟨w0.heap.size, j, .none⟩).isSome = true ∧ (wr.setCell ⟨w0.heap.size, k, .none⟩ (.int .u8 (B (o + k)))).frozen? ⟨w0.heap.size, j, .none⟩ = false) ∧ (∀ j, j < k + 1 → (wr.setCell ⟨w0.heap.size, k, .none⟩ (.int .u8 (B (o + k)))).cell? ⟨w0.heap.size, j, .none⟩ = some (.int .u8 (B (o + j)))) ∧ Below w0.heap.size w0 (wr.setCell ⟨w0.heap.size, k, .none⟩ (.int .u8 (B (o + k))))) := by
        have same : (wr.setCell ⟨w0.heap.size, k, .none⟩ (.int .u8 (B (o + k)))).cell? ⟨w0.heap.size, k, .none⟩ = some (.int .u8 (B (o + k))) := World.cell?_setCell_same' _ _ _ s1
        have other : ∀ j, j ≠ k → (wr.setCell ⟨w0.heap.size, k, .none⟩ (.int .u8 (B (o + k)))).cell? ⟨w0.heap.size, j, .none⟩ = wr.cell? ⟨w0.heap.size, j, .none⟩ := fun j hj => World.cell?_setCell_other _ _ _ _ (by simp [Ne.symm hj])
        refine ⟨fun j hj => ⟨?_, by rw [World.frozen?_setCell]; exact (HN.out.1 j hj).2⟩, fun j hj => ?_, HN.out.2.2.setCell (p := ⟨w0.heap.size, k, .none⟩) (Nat.le_refl _) _⟩
        · by_cases e : j = k
          · rw [e, same]; rfl
          · rw [other j e]; exact (HN.out.1 j hj).1
        · by_cases e : j = k
          · rw [e, same]
          · rw [other j e]; exact HN.out.2.1 j (by omega)
      clear HN s1 hQ hfo e
      generalize B (o + k) = bv at *
      go_wp2_with (go_at_call 50; refine cN.mono ?_; rintro e w1 ⟨rfl, rfl⟩)
      exact ⟨⟨k + 1, by omega, by simp, HS.out⟩, by simp [intOf]; omega⟩
    · obtain rfl : k = n := by omega
      go_wp2
      go_ret2
      exact ⟨rfl, HN.out.2⟩
theorem readG_neg (h : Qm W q hb fb lb N B L) (pa n : Int) (hn : n < 0) : Calls Try.prog 52 #[.pointer (some ⟨q, 0, .none⟩), .int .u64 pa, .int .i64 n] W fun e w' => e = .returned (.tuple #[.slice .none 0 0, .bool false]) ∧ w' = W := by
  have c0 := h.c0
  have n1 := h.n1
  have i3 : ((N : Int) == 0) = false := by simp; omega
  clear h
  go_enter Try.func52, Try.ntmps52
  go_wp2
  go_ret2
  exact ⟨rfl, rfl⟩
theorem readG_zero (h : Qm W q hb fb lb N B L) (pa : Int) : Calls Try.prog 52 #[.pointer (some ⟨q, 0, .none⟩), .int .u64 pa, .int .i64 0] W fun e w' => e = .returned (.tuple #[.slice .none 0 0, .bool true]) ∧ w' = W := by
  have c0 := h.c0
  have n1 := h.n1
  have i3 : ((N : Int) == 0) = false := by simp; omega
  clear h
  go_enter Try.func52, Try.ntmps52
  go_wp2
  go_ret2
  exact ⟨rfl, rfl⟩
theorem readG_no (h : Qm W q hb fb lb N B L) (pa : Int) (n : Nat) (hn : 1 ≤ n) (c : Calls Try.prog 49 #[.pointer (some ⟨q, 0, .none⟩), .int .u64 pa, .int .i64 n] W fun e w' => e = .returned (.bool false) ∧ w' = W) : Calls Try.prog 52 #[.pointer (some ⟨q, 0, .none⟩), .int .u64 pa, .int .i64 n] W fun e w' => e = .returned (.tuple #[.slice .none 0 0, .bool false]) ∧ w' = W := by
  have c0 := h.c0
  have n1 := h.n1
  have i3 : ((N : Int) == 0) = false := by simp; omega
  have i1 : ¬ ((n : Int) < 0) := by omega
  have i2 : ((n : Int) == 0) = false := by simp; omega
  clear h
  go_enter Try.func52, Try.ntmps52
  go_wp2_with (go_at_call 49; refine c.mono ?_; rintro e w0 ⟨rfl, rfl⟩)
  go_ret2
  exact ⟨rfl, rfl⟩
theorem StP.drew {w' : World} (h : StP W q hb fb lb N B L w') : StP W q hb fb lb N B L w'.drew := ⟨h.1.below ((Below.refl _ _).drew), ⟨h.2.os, h.2.tape, h.2.output, h.2.size, h.2.block⟩⟩
set_option maxHeartbeats 2000000 in
theorem writeG_ok (h : Qm W q hb fb lb N B L) (pa : Int) (o n : Nat) (hp : pa = 2147483648 + (o : Int)) (hn : 1 ≤ n) (hk : okR N L pa n) (g k c : Nat) (R : Nat → Int) (hR : ∀ i, 0 ≤ R i ∧ R i < 256) (hg : ∀ i, i < n → W.cell? ⟨g, k + i, .none⟩ = some (.int .u8 (R i))) (hap : ¬ Fb N L fb g) :
    Calls Try.prog 57 #[.pointer (some ⟨q, 0, .none⟩), .int .u64 pa, .slice (some ⟨g, k, .none⟩) n c] W fun e w' => e = .returned (.bool true) ∧ StP W q hb fb lb N (over B o ((List.range n).map R)) L w' := by
  have n1 := h.n1
  have n2 := h.n2
  have o1 : (o : Int) + n ≤ 4096 * N := by have := hk.2.1; omega
  have ch := heldQ_yes h pa n (by omega) (by omega) (by omega) hk
  have c0 := h.c0
  have H0 : Hid (Qm W q hb fb lb N (over B o ((List.range 0).map R)) L) := by
    have e : over B o ((List.range 0).map R) = B := by funext i; exact over_out _ _ _ _ (by simp; omega)
    show Qm W q hb fb lb N (over B o ((List.range 0).map R)) L
    rw [e]; exact h
  have HK : Hid (okR N L pa n ∧ (∀ i, 0 ≤ R i ∧ R i < 256) ∧ (∀ i, i < n → W.cell? ⟨g, k + i, .none⟩ = some (.int .u8 (R i))) ∧ ¬ Fb N L fb g ∧ g < W.heap.size) := ⟨hk, hR, hg, hap, lt_of_cell (hg 0 (by omega))⟩
  have HP : Hid (pa = 2147483648 + (o : Int)) := hp
  have o3 : pa + n < 18446744073709551616 := by omega
  have o4 : (0 : Int) ≤ pa := by omega
  have i2 : ((n : Int) == 0) = false := by simp; omega
  have i3 : ((N : Int) == 0) = false := by simp; omega
  clear h hk hp hR hg hap
  go_enter Try.func57, Try.ntmps57
  go_wp2_with (go_at_call 49; refine ch.mono ?_; rintro e w0 ⟨rfl, rfl⟩)
  go_loopw [8] (fun a wr => ∃ j : Nat, j ≤ n ∧ a = .int .i64 j ∧ Hid (StP w0 q hb fb lb N (over B o ((List.range j).map R)) L wr)) (fun a _ => (n - intOf a).toNat)
  case atStart => exact ⟨0, by omega, rfl, H0.out, Fx.refl _ _⟩
  case round =>
    obtain ⟨j, hj, rfl, HS⟩ := hrel
    by_cases hlt : j < n
    · have g0 : (j : Int) < n := by omega
      obtain ⟨f, off, hfN, hoff, hL, hfo⟩ := HK.out.1.at j hlt
      have cN := number_in HS.out.1 (pa + j) f off hfN hoff hfo
      have c0' := HS.out.1.c0
      have cH := HS.out.1.hh f hfN hL
      have cB := HS.out.1.cb f hfN hL off hoff
      have cF := HS.out.1.gb f hfN hL off hoff
      have cD : wr.cell? ⟨g, k + j, .none⟩ = some (.int .u8 (R j)) := (World.cell?_of_block (HS.out.2.block g HK.out.2.2.2.2 HK.out.2.2.2.1)).trans (HK.out.2.2.1 j hlt)
      have HW : Hid (StP w0 q hb fb lb N (over B o ((List.range (j + 1)).map R)) L (wr.setCell ⟨fb f, off, .none⟩ (.int .u8 (R j))).drew) := by
        have e : f * 4096 + off = o + ((List.range j).map R).length := by have := HP.out; simp; omega
        have := HS.out.1.poke f off (R j) hfN hL hoff (HK.out.2.1 j)
        rw [e, over_snoc] at this
        have e2 : (List.range j).map R ++ [R j] = (List.range (j + 1)).map R := by simp [List.range_succ]
        rw [e2] at this
        exact StP.drew ⟨this, HS.out.2.setCell _ _ ⟨f, hfN, hL, rfl⟩⟩
      have f1 : (f : Int) < N := by omega
      have o5 : (off : Int) < 4096 := by omega
      clear hfo HS
      generalize over B o ((List.range j).map R) (f * 4096 + off) = bb at *
      go_wp2_with (first | (go_at_call 50; refine cN.mono ?_; rintro e w1 ⟨rfl, rfl⟩) | fail)
      go_region
      go_wp2
      exact ⟨⟨j + 1, by omega, by simp, HW⟩, by simp [intOf]; omega⟩
    · obtain rfl : j = n := by omega
      go_wp2
      go_ret
      exact ⟨rfl, HS.out⟩
theorem writeG_zero (h : Qm W q hb fb lb N B L) (pa : Int) (sa : Option Addr) (cap : Nat) : Calls Try.prog 57 #[.pointer (some ⟨q, 0, .none⟩), .int .u64 pa, .slice sa 0 cap] W fun e w' => e = .returned (.bool true) ∧ w' = W := by
  have c0 := h.c0
  have n1 := h.n1
  have i3 : ((N : Int) == 0) = false := by simp; omega
  clear h
  go_enter Try.func57, Try.ntmps57
  go_wp2
  go_ret
  exact ⟨rfl, rfl⟩
theorem writeG_no (h : Qm W q hb fb lb N B L) (pa : Int) (sa : Option Addr) (n cap : Nat) (hn : 1 ≤ n) (c : Calls Try.prog 49 #[.pointer (some ⟨q, 0, .none⟩), .int .u64 pa, .int .i64 n] W fun e w' => e = .returned (.bool false) ∧ w' = W) : Calls Try.prog 57 #[.pointer (some ⟨q, 0, .none⟩), .int .u64 pa, .slice sa n cap] W fun e w' => e = .returned (.bool false) ∧ w' = W := by
  have c0 := h.c0
  have n1 := h.n1
  have i3 : ((N : Int) == 0) = false := by simp; omega
  have i2 : ((n : Int) == 0) = false := by simp; omega
  clear h
  go_enter Try.func57, Try.ntmps57
  go_wp2_with (go_at_call 49; refine c.mono ?_; rintro e w0 ⟨rfl, rfl⟩)
  go_ret
  exact ⟨rfl, rfl⟩
end
end Go.Proofs.Ytnghcadhilfgnaa
