import Derived.Test.YtnghcadhilfgnaaFiD
namespace Go.Proofs.Ytnghcadhilfgnaa
open Go.RowKit
set_option linter.unusedVariables false
set_option linter.unusedSimpArgs false
theorem ret2i {k : IntKind} {a b c d : Int} (h : a = c) (h' : b = d) : Ending.returned (.tuple #[.int k a, .int k b]) = .returned (.tuple #[.int k c, .int k d]) := by rw [h, h']
section
variable {W : World} {q hb N : Nat}
theorem numberI_in (c0 : W.cell? ⟨q, 0, .none⟩ = some (.slice (some ⟨hb, 0, .none⟩) N N)) (n2 : N ≤ 4096) (pa : Int) (i off : Nat) (hi : i < N) (ho : off < 4096) (hp : pa = 2147483648 + ((i * 4096 + off : Nat) : Int)) : Calls Try.prog 50 #[.pointer (some ⟨q, 0, .none⟩), .int .u64 pa] W fun e w' => e = .returned (.tuple #[.int .i64 i, .int .i64 off]) ∧ w' = W := by
  have x1 : pa - 2147483648 < 4096 * N := by omega
  have x4 : (0 : Int) ≤ pa - 2147483648 := by omega
  have x5 : 2147483648 ≤ pa := by omega
  have X2 : Hid ((pa - 2147483648) / 4096 = i) := by show (pa - 2147483648) / 4096 = i; omega
  have X3 : Hid ((pa - 2147483648) % 4096 = off) := by show (pa - 2147483648) % 4096 = off; omega
  clear hp
  go_enter Try.func50, Try.ntmps50
  go_wp2
  go_ret2
  exact ⟨ret2i X2.out X3.out, rfl⟩
theorem numberI_out (c0 : W.cell? ⟨q, 0, .none⟩ = some (.slice (some ⟨hb, 0, .none⟩) N N)) (n2 : N ≤ 4096) (pa : Int) (hp : 0 ≤ pa ∧ pa < 18446744073709551616) (ho : ¬ (2147483648 ≤ pa ∧ pa < 2147483648 + 4096 * N)) : Calls Try.prog 50 #[.pointer (some ⟨q, 0, .none⟩), .int .u64 pa] W fun e w' => e = .returned (.tuple #[.int .i64 (-1), .int .i64 0]) ∧ w' = W := by
  by_cases h1 : pa < 2147483648
  · go_enter Try.func50, Try.ntmps50
    go_wp2
    go_ret2
    exact ⟨rfl, rfl⟩
  · have h2 : 4096 * (N : Int) ≤ pa - 2147483648 := by omega
    have h3 : 0 ≤ pa - 2147483648 := by omega
    have h4 : ¬ (pa - 2147483648 < 4096 * (N : Int)) := by omega
    go_enter Try.func50, Try.ntmps50
    go_wp2
    go_ret2
    exact ⟨rfl, rfl⟩
/-- The frame that an address names; -1: none. -/
def nmd (pa : Int) (N : Nat) : Int := if isFr pa N = true then (fi pa : Int) else -1
theorem named_any (c0 : W.cell? ⟨q, 0, .none⟩ = some (.slice (some ⟨hb, 0, .none⟩) N N)) (n2 : N ≤ 4096) (pa : Int) (hp : 0 ≤ pa ∧ pa < 18446744073709551616) : Calls Try.prog 47 #[.pointer (some ⟨q, 0, .none⟩), .int .u64 pa] W fun e w' => e = .returned (.int .i64 (nmd pa N)) ∧ w' = W := by
  by_cases hin : 2147483648 ≤ pa ∧ pa < 2147483648 + 4096 * N
  · obtain ⟨i, hi⟩ : ∃ i : Nat, (pa - 2147483648) / 4096 = i := Int.eq_ofNat_of_zero_le (by omega)
    obtain ⟨off, ho⟩ : ∃ off : Nat, (pa - 2147483648) % 4096 = off := Int.eq_ofNat_of_zero_le (by omega)
    have c := numberI_in c0 n2 pa i off (by omega) (by omega) (by omega)
    by_cases h0 : off = 0
    · subst h0
      have e : nmd pa N = i := by
        have : isFr pa N = true := by simp [isFr]; omega
        rw [nmd, if_pos this]
        simp [fi, hi]
      rw [e]
      clear hi ho e
      go_enter Try.func47, Try.ntmps47
      go_wp2_with (first | (go_at_call 50; refine c.mono ?_; rintro e w1 ⟨rfl, rfl⟩) | fail)
      go_ret
      exact ⟨rfl, rfl⟩
    · have e : nmd pa N = -1 := by
        have : ¬ isFr pa N = true := by simp [isFr]; omega
        rw [nmd, if_neg this]
      rw [e]
      have h0' : ((off : Int) == 0) = false := by rw [beq_eq_false_iff_ne]; omega
      clear hi ho e
      go_enter Try.func47, Try.ntmps47
      go_wp2_with (first | (go_at_call 50; refine c.mono ?_; rintro e w1 ⟨rfl, rfl⟩) | fail)
      go_ret
      exact ⟨rfl, rfl⟩
  · have c := numberI_out c0 n2 pa hp hin
    have e : nmd pa N = -1 := by
      have : ¬ isFr pa N = true := by simp [isFr]; omega
      rw [nmd, if_neg this]
    rw [e]
    clear e
    go_enter Try.func47, Try.ntmps47
    go_wp2_with (first | (go_at_call 50; refine c.mono ?_; rintro e w1 ⟨rfl, rfl⟩) | fail)
    go_ret
    exact ⟨rfl, rfl⟩
end
/-- A row of numbers of frames. -/
def Lr (W : World) (lv : Value) (L : List Nat) : Prop := ∃ p c, lv = .slice p L.length c ∧ (L.length = 0 ∨ ∃ g o, p = some ⟨g, o, .none⟩ ∧ ∀ j (h : j < L.length), W.cell? ⟨g, o + j, .none⟩ = some (.int .i64 (L[j] : Int)))
set_option maxHeartbeats 1000000 in
theorem has_any (W : World) (lv : Value) (L : List Nat) (x : Nat) (h : Lr W lv L) (hx : x ≤ 1000000) (hl : L.length ≤ 1000000) : Calls Try.prog 73 #[lv, .int .i64 x] W fun e w' => e = .returned (.bool (decide (x ∈ L))) ∧ w' = W := by
  obtain ⟨p, c, rfl, hc⟩ := h
  go_enter Try.func73, Try.ntmps73
  go_wp2
  go_loopw [5] (fun a wr => ∃ k : Nat, k ≤ L.length ∧ a = .int .i64 k ∧ wr = W ∧ Hid (∀ j (h : j < L.length), j < k → L[j] ≠ x)) (fun a _ => (L.length - intOf a).toNat)
  case atStart => exact ⟨0, Nat.zero_le _, rfl, rfl, fun j _ h => by omega⟩
  case round =>
    obtain ⟨k, hk, rfl, rfl, HN⟩ := hrel
    by_cases hlt : k < L.length
    · have g0 : (k : Int) < L.length := by omega
      obtain ⟨g, o, rfl, hcell⟩ : ∃ g o, p = some ⟨g, o, .none⟩ ∧ ∀ j (h : j < L.length), wr.cell? ⟨g, o + j, .none⟩ = some (.int .i64 (L[j] : Int)) := by
        rcases hc with h | h
        · omega
        · exact h
      have a0 := hcell k hlt
      clear hcell hc
      by_cases he : L[k] = x
      · have HM : Hid (decide (x ∈ L) = true) := by show decide (x ∈ L) = true; simp [← he]
        have he' : ((L[k] : Int) == (x : Int)) = true := by rw [beq_iff_eq]; omega
        clear he
        generalize (L[k] : Int) = lk at *
        go_wp2
        go_ret
        exact ⟨by rw [HM.out]; rfl, rfl⟩
      · have he' : ((L[k] : Int) == (x : Int)) = false := by rw [beq_eq_false_iff_ne]; omega
        have HN2 : Hid (∀ j (h : j < L.length), j < k + 1 → L[j] ≠ x) := fun j h1 h2 => by
          by_cases e : j = k
          · subst e; exact he
          · exact HN.out j h1 (by omega)
        clear he HN
        generalize (L[k] : Int) = lk at *
        go_wp2
        exact ⟨⟨k + 1, by omega, by simp, trivial, HN2⟩, by simp [intOf]; omega⟩
    · obtain rfl : k = L.length := by omega
      have HM : Hid (decide (x ∈ L) = false) := by
        show decide (x ∈ L) = false
        rw [decide_eq_false_iff_not]
        intro h
        obtain ⟨j, hj, e⟩ := List.getElem_of_mem h
        exact HN.out j hj hj e
      clear HN hc
      go_wp2
      go_ret
      exact ⟨by rw [HM.out]; rfl, rfl⟩
/-- A copy of a frame's bytes. -/
def CpQ (W : World) (n : Nat) (D : Nat → Int) (e : Ending) (w' : World) : Prop := e = .returned (.slice (some ⟨W.heap.size, 0, .none⟩) n n) ∧ (∀ j, j < n → w'.cell? ⟨W.heap.size, j, .none⟩ = some (.int .u8 (D j))) ∧ Below W.heap.size W w'
set_option maxHeartbeats 1000000 in
theorem copiedQ_fz (W : World) (n b o cap : Nat) (hn : 1 ≤ n) (hn2 : n ≤ 16777216) (D : Nat → Int) (hc : ∀ j, j < n → W.cell? ⟨b, o + j, .none⟩ = some (.int .u8 (D j))) : Calls Try.prog 38 #[.slice (some ⟨b, o, .none⟩) n cap] W fun e w' => CpQ W n D e w' ∧ ∀ j, j < n → w'.frozen? ⟨W.heap.size, j, .none⟩ = false := by
  have hmk := make_bytes n hn2 W
  have lb : b < W.heap.size := lt_of_cell (hc 0 (by omega))
  have HZ : Hid (∀ i, i < n → (Zs n)[i]? = some (.int .u8 0)) := fun i hi => Zs_at _ i hi
  generalize Zs n = Z at *
  have HC : Hid (∀ j, j < n → W.cell? ⟨b, o + j, .none⟩ = some (.int .u8 (D j))) := hc
  clear hc
  have HA : Hid ((∀ j, j < n → ((W.alloc (.cells Z 5)).cell? ⟨W.heap.size, j, .none⟩).isSome = true ∧ (W.alloc (.cells Z 5)).frozen? ⟨W.heap.size, j, .none⟩ = false) ∧ Below W.heap.size W (W.alloc (.cells Z 5))) := by
    refine ⟨fun j hj => ⟨?_, World.frozen?_alloc_new _ _ _ _⟩, (Below.refl _ _).alloc (Nat.le_refl _) _⟩
    rw [World.cell?_alloc_at _ _ _ _ rfl, HZ.out j hj]
    rfl
  go_enter Try.func38, Try.ntmps38
  go_wp2
  generalize W.alloc (.cells Z 5) = W1 at *
  go_loopw [4] (fun a wr => ∃ k : Nat, k ≤ n ∧ a = .int .i64 k ∧ Hid ((∀ j, j < n → (wr.cell? ⟨W.heap.size, j, .none⟩).isSome = true ∧ wr.frozen? ⟨W.heap.size, j, .none⟩ = false) ∧ (∀ j, j < k → wr.cell? ⟨W.heap.size, j, .none⟩ = some (.int .u8 (D j))) ∧ Below W.heap.size W wr)) (fun a _ => (n - intOf a).toNat)
  case atStart => exact ⟨0, by omega, rfl, HA.out.1, fun j h => by omega, HA.out.2⟩
  case round =>
    obtain ⟨k, hk, rfl, HN⟩ := hrel
    by_cases hlt : k < n
    · have g0 : (k : Int) < n := by omega
      have a0 : wr.cell? ⟨b, o + k, .none⟩ = some (.int .u8 (D k)) := (HN.out.2.2.cell lb).trans (HC.out k hlt)
      obtain ⟨s1, s2⟩ := HN.out.1 k hlt
      obtain ⟨v, s1'⟩ := Option.isSome_iff_exists.1 s1
      have HS : Hid ((∀ j, j < n → ((wr.setCell ⟨W.heap.size, k, .none⟩ (.int .u8 (D k))).cell? ⟨W.heap.size, j, .none⟩).isSome = true ∧ (wr.setCell ⟨W.heap.size, k, .none⟩ (.int .u8 (D k))).frozen? ⟨W.heap.size, j, .none⟩ = false) ∧ (∀ j, j < k + 1 → (wr.setCell ⟨W.heap.size, k, .none⟩ (.int .u8 (D k))).cell? ⟨W.heap.size, j, .none⟩ = some (.int .u8 (D j))) ∧ Below W.heap.size W (wr.setCell ⟨W.heap.size, k, .none⟩ (.int .u8 (D k)))) := by
        have same : (wr.setCell ⟨W.heap.size, k, .none⟩ (.int .u8 (D k))).cell? ⟨W.heap.size, k, .none⟩ = some (.int .u8 (D k)) := World.cell?_setCell_same' _ _ _ s1
        have other : ∀ j, j ≠ k → (wr.setCell ⟨W.heap.size, k, .none⟩ (.int .u8 (D k))).cell? ⟨W.heap.size, j, .none⟩ = wr.cell? ⟨W.heap.size, j, .none⟩ := fun j hj => World.cell?_setCell_other _ _ _ _ (by simp [Ne.symm hj])
        refine ⟨fun j hj => ⟨?_, by rw [World.frozen?_setCell]; exact (HN.out.1 j hj).2⟩, fun j hj => ?_, HN.out.2.2.setCell (p := ⟨W.heap.size, k, .none⟩) (Nat.le_refl _) _⟩
        · by_cases e : j = k
          · rw [e, same]; rfl
          · rw [other j e]; exact (HN.out.1 j hj).1
        · by_cases e : j = k
          · rw [e, same]
          · rw [other j e]; exact HN.out.2.1 j (by omega)
      clear HN s1
      go_wp2
      exact ⟨⟨k + 1, by omega, by simp, HS.out⟩, by simp [intOf]; omega⟩
    · obtain rfl : k = n := by omega
      go_wp2
      go_ret
      exact ⟨⟨rfl, HN.out.2⟩, fun j hj => (HN.out.1 j hj).2⟩
theorem copiedQ_any (W : World) (n b o cap : Nat) (hn : 1 ≤ n) (hn2 : n ≤ 16777216) (D : Nat → Int) (hc : ∀ j, j < n → W.cell? ⟨b, o + j, .none⟩ = some (.int .u8 (D j))) : Calls Try.prog 38 #[.slice (some ⟨b, o, .none⟩) n cap] W fun e w' => CpQ W n D e w' := (copiedQ_fz W n b o cap hn hn2 D hc).mono fun e w' h => h.1
end Go.Proofs.Ytnghcadhilfgnaa
