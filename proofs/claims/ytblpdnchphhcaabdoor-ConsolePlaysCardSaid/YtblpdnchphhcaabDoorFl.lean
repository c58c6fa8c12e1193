import Derived.Test.YtblpdnchphhcaabDoorFn
import Derived.Test.YtblpdnchphhcaabDoorRe
namespace Go.Proofs.YtblpdnchphhcaabDoor
open Go.RowKit
set_option linter.unusedVariables false
set_option linter.unusedSimpArgs false
theorem byt_lit (w : World) (g : Nat) (f : Nat × Nat) (xs : List Int) (h : w.heap[g]? = some (.cells (by8 xs).toArray 5 f)) (hl : xs.length ≤ 1000) : Byt w (some ⟨g, 0, .none⟩) xs.length xs.length xs :=
  ⟨rfl, Nat.le_refl _, by show _ ≤ 9223372036854775807; omega, .inr ⟨g, 0, rfl, (Array.getElem?_eq_some_iff.1 h).1, fun i x hx => by
    have : (by8 xs)[i]? = some (.int .u8 x) := by unfold by8; rw [List.getElem?_map, hx]; rfl
    simp [World.cell?, h, this]⟩⟩
set_option maxHeartbeats 2000000 in
theorem states_any {w : World} {p1 p2 q1 q2 : Option Addr} {n c1 c2 m d1 d2 : Nat} {rs ls : List Int} (h1 : Byt w p1 n c1 rs) (h2 : Byt w p2 n c2 rs) (h3 : Byt w q1 m d1 ls) (h4 : Byt w q2 m d2 ls) (hn : n < 140737488355000) (hm : m < 140737488355000) :
    Calls Tryd.prog 18 #[.agg #[.slice p1 n c1, .slice q1 m d1], .agg #[.slice p2 n c2, .slice q2 m d2]] w fun e w' => e = .returned (.bool true) ∧ Below w.heap.size w w' := by
  have HS : Hid (Byt w p1 n c1 rs ∧ Byt w p2 n c2 rs ∧ Byt w q1 m d1 ls ∧ Byt w q2 m d2 ls) := ⟨h1, h2, h3, h4⟩
  clear h1 h2 h3 h4
  go_enter Tryd.func18, Tryd.ntmps18
  go_upto_region 1 with fail
  have s1 := sb_new w p1 n c1 q1 m d1
  have b1 := Trn.new w (.cells #[.slice p1 n c1, .slice q1 m d1] 24)
  have z1 : (w.alloc (.cells #[.slice p1 n c1, .slice q1 m d1] 24)).heap.size = w.heap.size + 1 := by simp
  generalize w.alloc (.cells #[.slice p1 n c1, .slice q1 m d1] 24) = W1 at *
  have s2 := sb_new W1 p2 n c2 q2 m d2
  have b2 := Trn.new W1 (.cells #[.slice p2 n c2, .slice q2 m d2] 24)
  generalize W1.alloc (.cells #[.slice p2 n c2, .slice q2 m d2] 24) = W2 at *
  have s1' := s1.below b2
  have H2 : Hid (Below w.heap.size w W2) := b1.trans (b2.mono b1.size)
  have x1 := s1'.c0
  have x2 := s1'.c1
  have x3 := s2.c0
  have x4 := s2.c1
  clear s1 s1' s2 b1 b2
  have cA := bytes_any p1 p2 n c1 c2 rs W2 hn (byt_below HS.out.1 H2.out) (byt_below HS.out.2.1 H2.out)
  have HC : Hid (∀ k, Calls Tryd.prog 13 #[.slice q1 m d1, .slice q2 m d2] (W2.drewN k) fun e w' => e = .returned (.bool true) ∧ ∃ k', w' = (W2.drewN k).drewN k') := fun k => bytes_any q1 q2 m d1 d2 ls (W2.drewN k) hm (byt_below HS.out.2.2.1 ⟨H2.out.os, H2.out.tape, H2.out.output, H2.out.size, H2.out.block⟩) (byt_below HS.out.2.2.2 ⟨H2.out.os, H2.out.tape, H2.out.output, H2.out.size, H2.out.block⟩)
  rw [z1] at x3 x4
  go_wp2_with fail
  refine cA.mono ?_
  rintro e V1 ⟨rfl, k, hk⟩
  have cB := HC.out k
  rw [← hk] at cB
  have y1 : V1.cell? ⟨w.heap.size, 1, .none⟩ = some (.slice q1 m d1) := by rw [hk]; exact x2
  have y2 : V1.cell? ⟨w.heap.size + 1, 1, .none⟩ = some (.slice q2 m d2) := by rw [hk]; exact x4
  have HK : Hid (V1 = W2.drewN k) := hk
  clear hk x1 x2 x3 x4 cA HC
  go_wp2_with fail
  refine cB.mono ?_
  rintro e V2 ⟨rfl, k', hk⟩
  have HE : Hid (Below w.heap.size w V2) := by
    rw [hk, HK.out]
    exact ⟨H2.out.os, H2.out.tape, H2.out.output, H2.out.size, H2.out.block⟩
  clear hk cB y1 y2
  go_wp2
  go_ret
  exact ⟨rfl, HE.out⟩
theorem take_all {w : World} {b : Nat} {rs ls : List Int} (h : Con w b rs ls) (n : Int) :
    Calls Tryd.prog 11 #[.pointer (some ⟨b, 0, .none⟩), .int .i64 n] w (Ty w b (rs.drop (nxG rs n)) ls (rs.take (nxT rs n)) (decide (0 < rs.length))) := by
  by_cases h0 : 0 < rs.length
  · rw [decide_eq_true h0]
    exact take_any h h0 n
  · obtain rfl : rs = [] := List.eq_nil_of_length_eq_zero (by omega)
    refine (take_no h rfl n).mono ?_
    rintro e w' ⟨rfl, rfl⟩
    refine ⟨none, 0, by simp, ?_, by simpa using h, Trn.refl _ _⟩
    simp only [List.take_nil]
    exact World.ownsRow_nil _ _ _ _
theorem peek_all {w : World} {b : Nat} {rs ls : List Int} (h : Con w b rs ls) (n : Int) :
    Calls Tryd.prog 14 #[.pointer (some ⟨b, 0, .none⟩), .int .i64 n] w (Ty w b rs ls (rs.take (nxT rs n)) (decide (0 < rs.length))) := by
  by_cases h0 : 0 < rs.length
  · rw [decide_eq_true h0]
    exact peek_any h h0 n
  · obtain rfl : rs = [] := List.eq_nil_of_length_eq_zero (by omega)
    refine (peek_no h rfl n).mono ?_
    rintro e w' ⟨rfl, rfl⟩
    refine ⟨none, 0, by simp, ?_, h, Trn.refl _ _⟩
    simp only [List.take_nil]
    exact World.ownsRow_nil _ _ _ _
theorem Doc.cut {w : World} {d : Nat} {D : Nat → Prop} {rs ls : List Int} (h : Doc w d D rs ls) : Doc w d (fun k => D k ∧ k < w.heap.size) rs ls := by
  obtain ⟨vD, vL, h1, h2, h3, h4⟩ := h
  exact ⟨vD, vL, h1, ⟨h2, h1.lt⟩, fun k hk => ⟨h3 k hk, own_ltC h1.rD k hk⟩, fun k hk => ⟨h4 k hk, own_ltC h1.rL k hk⟩⟩
section
variable {w : World}
theorem own_short {X n c k : Nat} {gg : Nat} {zs : List Int} (h : w.ownsRow X 5 1 (.slice (some ⟨gg, 0, .none⟩) n c) n (by8 zs)) (hk : k ≤ n) : w.ownsRow X 5 1 (.slice (some ⟨gg, 0, .none⟩) k c) k (by8 (zs.take k)) := by
  obtain ⟨h1, h2⟩ := h
  rw [by8_len, Nat.mul_one] at h1
  rcases h2 with ⟨h3, _⟩ | ⟨g', cap, cur, h3, h4, h5, h6, h7, h8, h9⟩
  · cases h3
  · injection h3 with e1 e2 e3
    injection e1 with e1
    injection e1 with e1
    subst e1 e3
    refine ⟨by rw [by8_len, List.length_take]; omega, .inr ⟨gg, c, cur, rfl, h4, h5, by omega, h7, h8, ?_⟩⟩
    rw [Nat.mul_one] at h9 ⊢
    have : (by8 zs).take k = by8 (zs.take k) := by unfold by8; rw [List.map_take]
    rw [← this, ← h9, List.take_take, Nat.min_eq_left hk]
end
theorem cut_line (gg n c : Nat) (hn : 0 < n) (hc : n ≤ c) (W : World) : (Instr.slice 22 (.slice (some ⟨gg, 0, .none⟩) n c) none (some (.int .i64 ((n : Int) - 1))) none).run Tryd.prog W = .ok (.slice (some ⟨gg, 0, .none⟩) (n - 1) c) W := by
  have := cut_to (some ⟨gg, 0, .none⟩) n c (n - 1) (by omega) W
  rw [show ((n - 1 : Nat) : Int) = (n : Int) - 1 by omega] at this
  rw [this]
  unfold cutp
  rw [if_neg (by omega)]
  simp [le_addr_add]
end Go.Proofs.YtblpdnchphhcaabDoor
