import Derived.Test.YtblpdnchphhcaaaDoorFn
import Derived.Lib.SlBytesConst
namespace Go.Proofs.YtblpdnchphhcaaaDoor
open Go.RowKit
set_option linter.unusedVariables false
set_option linter.unusedSimpArgs false
def u8s (xs : List Int) : ByteArray := ⟨(xs.map fun x => x.toNat.toUInt8).toArray⟩
theorem convL {w : World} {p : Option Addr} {c : Nat} {xs : List Int} (h : Byt w p xs.length c xs) (h0 : 0 < xs.length) (hx : ∀ x ∈ xs, 0 ≤ x ∧ x < 256) : (convert 22 9 (.slice p xs.length c)).run Tryd.prog w = .ok (.string (u8s xs)) w := by
  rcases h.2.2.2 with h1 | ⟨b, o, rfl, _, h6⟩
  · omega
  · have hsz : (u8s xs).size = xs.length := by show ((xs.map fun x => x.toNat.toUInt8).toArray).size = _; simp
    have hb : Lib.Bytes w b o (u8s xs) := by
      intro i hi
      have hi0 : i < xs.length := by omega
      have := h6 i xs[i] (by simp)
      rw [this]
      have e : ((u8s xs)[i]'hi) = xs[i].toNat.toUInt8 := by
        show (((xs.map fun x => x.toNat.toUInt8).toArray)[i]'(by simpa using hi0)) = _
        simp
      rw [e]
      congr 2
      have e2 : xs[i].toNat.toUInt8.toNat = xs[i].toNat % 256 := by simp
      have := hx xs[i] (by simp)
      rw [e2]; omega
    have := Lib.run_convert_whole (P := Tryd.prog) w 22 5 9 Tryd.underlying22 Tryd.underlying5 Tryd.underlying9 b o (u8s xs) hb c
    rw [hsz] at this
    exact this
theorem byt_lit (w : World) (g : Nat) (f : Nat × Nat) (xs : List Int) (h : w.heap[g]? = some (.cells (by8 xs).toArray 5 f)) (hl : xs.length ≤ 1000) : Byt w (some ⟨g, 0, .none⟩) xs.length xs.length xs :=
  ⟨rfl, Nat.le_refl _, by show _ ≤ 9223372036854775807; omega, .inr ⟨g, 0, rfl, (Array.getElem?_eq_some_iff.1 h).1, fun i x hx => by
    have : (by8 xs)[i]? = some (.int .u8 x) := by unfold by8; rw [List.getElem?_map, hx]; rfl
    simp [World.cell?, h, this]⟩⟩
/-- A row that is not the console's. -/
def Rk (w : World) (b : Nat) (p : Option Addr) (c : Nat) (xs : List Int) : Prop := Byt w p xs.length c xs ∧ (0 < xs.length → ∀ g o, p = some ⟨g, o, .none⟩ → g ≠ b)
theorem Rk.trn {w v : World} {b c : Nat} {p : Option Addr} {xs : List Int} (h : Rk w b p c xs) (t : Trn b w v) : Rk v b p c xs := ⟨t.byt h.1 h.2, h.2⟩
theorem Rk.below {w v : World} {b c : Nat} {p : Option Addr} {xs : List Int} (h : Rk w b p c xs) (t : Below w.heap.size w v) : Rk v b p c xs := ⟨byt_below h.1 t, h.2⟩
theorem Rk.of {w : World} {b c X : Nat} {p : Option Addr} {xs : List Int} (hO : w.ownsRow X 5 1 (.slice p xs.length c) xs.length (by8 xs)) (hb : b < X) : Rk w b p c xs := by
  refine ⟨byt_own hO, fun h0 g o hg e => ?_⟩
  obtain ⟨T', hT'⟩ : ∃ T', xs.length = T' + 1 := ⟨xs.length - 1, by omega⟩
  rw [hT'] at hO
  obtain ⟨g', hg'⟩ := own_some hO
  rw [hg] at hg'
  injection hg' with hg'
  injection hg' with h1 h2 h3
  have := own_block hO g (by rw [hg, h2]; rfl)
  omega
set_option maxHeartbeats 2000000 in
theorem states_any {w : World} {p1 p2 q1 q2 : Option Addr} {n c1 c2 m d1 d2 : Nat} {rs ls : List Int} (h1 : Byt w p1 n c1 rs) (h2 : Byt w p2 n c2 rs) (h3 : Byt w q1 m d1 ls) (h4 : Byt w q2 m d2 ls) (hn : n < 140737488355000) (hm : m < 140737488355000) :
    Calls Tryd.prog 20 #[.agg #[.slice p1 n c1, .slice q1 m d1], .agg #[.slice p2 n c2, .slice q2 m d2]] w fun e w' => e = .returned (.bool true) ∧ Below w.heap.size w w' := by
  have HS : Hid (Byt w p1 n c1 rs ∧ Byt w p2 n c2 rs ∧ Byt w q1 m d1 ls ∧ Byt w q2 m d2 ls) := ⟨h1, h2, h3, h4⟩
  clear h1 h2 h3 h4
  go_enter Tryd.func20, Tryd.ntmps20
  go_upto_region 1 with fail
  have s1 := sb_new w p1 n c1 q1 m d1
  have b1 := Trn.new w (.cells #[.slice p1 n c1, .slice q1 m d1] 29)
  have z1 : (w.alloc (.cells #[.slice p1 n c1, .slice q1 m d1] 29)).heap.size = w.heap.size + 1 := by simp
  generalize w.alloc (.cells #[.slice p1 n c1, .slice q1 m d1] 29) = W1 at *
  have s2 := sb_new W1 p2 n c2 q2 m d2
  have b2 := Trn.new W1 (.cells #[.slice p2 n c2, .slice q2 m d2] 29)
  generalize W1.alloc (.cells #[.slice p2 n c2, .slice q2 m d2] 29) = W2 at *
  have s1' := s1.below b2
  have H2 : Hid (Below w.heap.size w W2) := b1.trans (b2.mono b1.size)
  have x1 := s1'.c0
  have x2 := s1'.c1
  have x3 := s2.c0
  have x4 := s2.c1
  clear s1 s1' s2 b1 b2
  have cA := bytes_any p1 p2 n c1 c2 rs W2 hn (byt_below HS.out.1 H2.out) (byt_below HS.out.2.1 H2.out)
  have HC : Hid (∀ k, Calls Tryd.prog 11 #[.slice q1 m d1, .slice q2 m d2] (W2.drewN k) fun e w' => e = .returned (.bool true) ∧ ∃ k', w' = (W2.drewN k).drewN k') := fun k => bytes_any q1 q2 m d1 d2 ls (W2.drewN k) hm (byt_below HS.out.2.2.1 ⟨H2.out.os, H2.out.tape, H2.out.output, H2.out.size, H2.out.block⟩) (byt_below HS.out.2.2.2 ⟨H2.out.os, H2.out.tape, H2.out.output, H2.out.size, H2.out.block⟩)
  rw [z1] at x3 x4
  go_wp2_with fail
  refine cA.mono ?_
  rintro e V1 ⟨rfl, k, hk⟩
  have cB := HC.out k
  rw [← hk] at cB
  have y1 : V1.cell? ⟨w.heap.size, 1, .none⟩ = some (.slice q1 m d1) := by rw [hk]; exact x2
  have y2 : V1.cell? ⟨w.heap.size + 1, 1, .none⟩ = some (.slice q2 m d2) := by rw [hk]; exact x4
  have HK : Hid (V1 = W2.drewN k) := hk
  clear hk x1 x2 x3 x4 cA HC
  go_wp2_with fail
  refine cB.mono ?_
  rintro e V2 ⟨rfl, k', hk⟩
  have HE : Hid (Below w.heap.size w V2) := by
    rw [hk, HK.out]
    exact ⟨H2.out.os, H2.out.tape, H2.out.output, H2.out.size, H2.out.block⟩
  clear hk cB y1 y2
  go_wp2
  go_ret
  exact ⟨rfl, HE.out⟩
set_option maxHeartbeats 4000000 in
theorem works_any {w : World} (hd : Dd w) : Calls Tryd.prog 18 #[] w fun e w' => e = .returned (.bool true) ∧ Below w.heap.size w w' := by
  have HD : Hid (Dd w) := hd
  clear hd
  go_enter Tryd.func18, Tryd.ntmps18
  have k1 := Lib.run_convert_bytes_const (P := Tryd.prog) w 22 5 #[.int .u8 97, .int .u8 98, .int .u8 10] 3 3 Tryd.underlying22 Tryd.underlying5
  have k2 := Lib.run_convert_bytes_const (P := Tryd.prog) (w.alloc (.cells #[.int .u8 97, .int .u8 98, .int .u8 10] 5 (3, 4))) 22 5 #[.int .u8 99] 1 1 Tryd.underlying22 Tryd.underlying5
  simp only [World.size_alloc] at k2
  have B1 : Hid (Below w.heap.size w ((w.alloc (.cells #[.int .u8 97, .int .u8 98, .int .u8 10] 5 (3, 4))).alloc (.cells #[.int .u8 99] 5 (1, 2))) ∧ Byt ((w.alloc (.cells #[.int .u8 97, .int .u8 98, .int .u8 10] 5 (3, 4))).alloc (.cells #[.int .u8 99] 5 (1, 2))) (some ⟨w.heap.size, 0, .none⟩) 3 3 [97, 98, 10] ∧ Byt ((w.alloc (.cells #[.int .u8 97, .int .u8 98, .int .u8 10] 5 (3, 4))).alloc (.cells #[.int .u8 99] 5 (1, 2))) (some ⟨w.heap.size + 1, 0, .none⟩) 1 1 [99]) := by
    have t1 := Trn.new w (.cells #[.int .u8 97, .int .u8 98, .int .u8 10] 5 (3, 4))
    have t2 := Trn.new (w.alloc (.cells #[.int .u8 97, .int .u8 98, .int .u8 10] 5 (3, 4))) (.cells #[.int .u8 99] 5 (1, 2))
    have u1 := byt_lit _ _ _ [97, 98, 10] (heap_new w (.cells #[.int .u8 97, .int .u8 98, .int .u8 10] 5 (3, 4))) (by decide)
    have u2 := byt_lit _ _ _ [99] (heap_new (w.alloc (.cells #[.int .u8 97, .int .u8 98, .int .u8 10] 5 (3, 4))) (.cells #[.int .u8 99] 5 (1, 2))) (by decide)
    have z1 : (w.alloc (.cells #[.int .u8 97, .int .u8 98, .int .u8 10] 5 (3, 4))).heap.size = w.heap.size + 1 := by simp
    rw [z1] at u2
    exact ⟨t1.trans (t2.mono t1.size), byt_below u1 t2, u2⟩
  go_wp2_with fail
  clear k1 k2
  generalize (w.alloc (.cells #[.int .u8 97, .int .u8 98, .int .u8 10] 5 (3, 4))).alloc (.cells #[.int .u8 99] 5 (1, 2)) = W1 at *
  have cF := from_any B1.out.2.1 B1.out.2.2 (by decide) (by decide) (by decide) (HD.out.below B1.out.1)
  refine cF.mono ?_
  rintro e W2 ⟨hb2, ⟨hbad, _⟩ | ⟨_, b, hb, rfl, hC⟩⟩
  · exact absurd hbad (by decide)
  have H2 : Hid (Con W2 b [97, 98, 10] [99] ∧ Below w.heap.size w W2 ∧ w.heap.size ≤ b ∧ Dd W2) := ⟨hC, B1.out.1.trans (hb2.mono B1.out.1.size), Nat.le_trans B1.out.1.size hb, HD.out.below (B1.out.1.trans (hb2.mono B1.out.1.size))⟩
  clear cF hb2 hb hC B1
  have c1 := take_any H2.out.1 (by decide) 1
  rw [show nxT [97, 98, 10] 1 = 1 by decide, show nxG [97, 98, 10] 1 = 1 by decide] at c1
  go_wp2_with fail
  refine c1.mono ?_
  rintro e W3 ⟨p1, d1, rfl, hO, hC, hT⟩
  have H3 : Hid (Con W3 b [98, 10] [99] ∧ Below w.heap.size w W3 ∧ w.heap.size ≤ b ∧ Dd W3 ∧ Rk W3 b p1 d1 [97]) := by
    have h := H2.out
    exact ⟨hC, h.2.1.trans (hT.toBelow h.2.2.1 h.2.1.size), h.2.2.1, h.2.2.2.keep (Chg.ofTrn hT) (fun e => h.2.2.2.ne h.1 e.symm), Rk.of hO h.1.lt⟩
  clear c1 hO hC hT H2
  have c1 := take_any H3.out.1 (by decide) 5
  rw [show nxT [98, 10] 5 = 2 by decide, show nxG [98, 10] 5 = 2 by decide] at c1
  go_wp2_with fail
  refine c1.mono ?_
  rintro e W4 ⟨p2, d2, rfl, hO, hC, hT⟩
  have H4 : Hid (Con W4 b [] [99] ∧ Below w.heap.size w W4 ∧ w.heap.size ≤ b ∧ Dd W4 ∧ Rk W4 b p1 d1 [97] ∧ Rk W4 b p2 d2 [98, 10]) := by
    have h := H3.out
    exact ⟨hC, h.2.1.trans (hT.toBelow h.2.2.1 h.2.1.size), h.2.2.1, h.2.2.2.1.keep (Chg.ofTrn hT) (fun e => h.2.2.2.1.ne h.1 e.symm), h.2.2.2.2.trn hT, Rk.of hO h.1.lt⟩
  clear c1 hO hC hT H3
  have c1 := type_any H4.out.1 H4.out.2.2.2.1 10 (by decide)
  rw [show tyR [] [99] 10 = [99, 10] by decide, show tyL [] [99] 10 = [] by decide, show tyE [] [99] 10 = [10] by decide, show tyB [] [99] 10 = true by decide] at c1
  go_wp2_with fail
  refine c1.mono ?_
  rintro e W5 ⟨p3, d3, rfl, hO, hC, hT⟩
  have H5 : Hid (Con W5 b [99, 10] [] ∧ Below w.heap.size w W5 ∧ w.heap.size ≤ b ∧ Rk W5 b p1 d1 [97] ∧ Rk W5 b p2 d2 [98, 10] ∧ Rk W5 b p3 d3 [10]) := by
    have h := H4.out
    exact ⟨hC, h.2.1.trans (hT.toBelow h.2.2.1 h.2.1.size), h.2.2.1, h.2.2.2.2.1.trn hT, h.2.2.2.2.2.trn hT, Rk.of hO h.1.lt⟩
  clear c1 hO hC hT H4
  have c1 := take_any H5.out.1 (by decide) 5
  rw [show nxT [99, 10] 5 = 2 by decide, show nxG [99, 10] 5 = 2 by decide] at c1
  go_wp2_with fail
  refine c1.mono ?_
  rintro e W6 ⟨p4, d4, rfl, hO, hC, hT⟩
  have H6 : Hid (Below w.heap.size w W6 ∧ Rk W6 b p1 d1 [97] ∧ Rk W6 b p2 d2 [98, 10] ∧ Rk W6 b p3 d3 [10] ∧ Rk W6 b p4 d4 [99, 10]) := by
    have h := H5.out
    exact ⟨h.2.1.trans (hT.toBelow h.2.2.1 h.2.1.size), h.2.2.2.1.trn hT, h.2.2.2.2.1.trn hT, h.2.2.2.2.2.trn hT, Rk.of hO h.1.lt⟩
  clear c1 hO hC hT H5
  have v1 : (convert 22 9 (.slice p1 1 d1)).run Tryd.prog W6 = .ok (.string ⟨#[97]⟩) W6 := convL H6.out.2.1.1 (by decide) (by decide)
  have v2 : (convert 22 9 (.slice p2 2 d2)).run Tryd.prog W6 = .ok (.string ⟨#[98, 10]⟩) W6 := convL H6.out.2.2.1.1 (by decide) (by decide)
  have v3 : (convert 22 9 (.slice p3 1 d3)).run Tryd.prog W6 = .ok (.string ⟨#[10]⟩) W6 := convL H6.out.2.2.2.1.1 (by decide) (by decide)
  have v4 : (convert 22 9 (.slice p4 2 d4)).run Tryd.prog W6 = .ok (.string ⟨#[99, 10]⟩) W6 := convL H6.out.2.2.2.2.1 (by decide) (by decide)
  have HE : Hid (Below w.heap.size w W6) := H6.out.1
  clear H6
  go_wp2
  go_ret
  exact ⟨rfl, HE.out⟩
end Go.Proofs.YtblpdnchphhcaaaDoor
