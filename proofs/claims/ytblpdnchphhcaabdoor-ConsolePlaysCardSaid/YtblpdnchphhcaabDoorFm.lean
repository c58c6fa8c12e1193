import Derived.Test.YtblpdnchphhcaabDoorCx
import Derived.LoopTactic
namespace Go.Proofs.YtblpdnchphhcaabDoor
open Go.RowKit
set_option linter.unusedVariables false
set_option linter.unusedSimpArgs false
/-- May such a state be? -/
def okR (x : Int) : Bool := dd x == 0 || fin x
def okL (x : Int) : Bool := dd x == 0
def okC (rs ls : List Int) : Bool := decide (rs.length + ls.length ≤ 128) && (decide (rs.length + ls.length ≠ 128) || decide (ls.length = 0)) && rs.all okR && ls.all okL
/-- A box of a state. -/
structure Sb (w : World) (b : Nat) (p : Option Addr) (n c : Nat) (q : Option Addr) (m d : Nat) : Prop where
  c0 : w.cell? ⟨b, 0, .none⟩ = some (.slice p n c)
  c1 : w.cell? ⟨b, 1, .none⟩ = some (.slice q m d)
section
variable {w v : World} {b : Nat} {p q : Option Addr} {n c m d : Nat}
theorem sb_new (w : World) (p : Option Addr) (n c : Nat) (q : Option Addr) (m d : Nat) : Sb (w.alloc (.cells #[.slice p n c, .slice q m d] 24)) w.heap.size p n c q m d := by
  constructor <;> rw [World.cell?_alloc_at _ _ _ _ rfl] <;> rfl
theorem Sb.keep (h : Sb w b p n c q m d) {S : Nat → Prop} (t : Chg S w v) (hb : ¬ S b) : Sb v b p n c q m d :=
  ⟨(t.cell (p := ⟨b, 0, .none⟩) (lt_cell h.c0) hb).trans h.c0, (t.cell (p := ⟨b, 1, .none⟩) (lt_cell h.c1) hb).trans h.c1⟩
theorem Sb.below (h : Sb w b p n c q m d) (t : Below w.heap.size w v) : Sb v b p n c q m d := h.keep (S := fun _ => False) (Chg.ofBelow t) (fun h => h)
theorem Sb.rangeAt (h : Sb w b p n c q m d) : w.rangeAt b 0 [.slice p n c, .slice q m d] := by
  intro j v hv
  match j, hv with
  | 0, hv => cases hv; exact h.c0
  | 1, hv => cases hv; exact h.c1
end
theorem all_take {f : Int → Bool} {xs : List Int} {i : Nat} {x : Int} (h : (xs.take i).all f = true) (hx : xs[i]? = some x) (hf : f x = true) : (xs.take (i + 1)).all f = true := by
  rw [List.take_add_one, hx]
  simp only [Option.toList, List.all_append, h, Bool.true_and, List.all_cons, List.all_nil, hf]
theorem all_not {f : Int → Bool} {xs : List Int} {i : Nat} {x : Int} (hx : xs[i]? = some x) (hf : f x = false) : xs.all f = false := by
  cases h : xs.all f
  · rfl
  · have := (List.all_eq_true.1 h) x (List.mem_of_getElem? hx)
    rw [this] at hf
    cases hf
set_option maxHeartbeats 4000000 in
theorem canBe_any {w : World} {p q : Option Addr} {n c m d : Nat} {rs ls : List Int} (hR : Byt w p n c rs) (hL : Byt w q m d ls) (hr : ∀ x ∈ rs, 0 ≤ x ∧ x < 256) (hl : ∀ x ∈ ls, 0 ≤ x ∧ x < 256) (hs : n + m ≤ 9223372036854775807) (hd : Dd w) :
    Calls Tryd.prog 21 #[.agg #[.slice p n c, .slice q m d]] w fun e w' => e = .returned (.bool (okC rs ls)) ∧ Below w.heap.size w w' := by
  have e1 := hR.1
  have e2 := hL.1
  have HR : Hid (Byt w p n c rs) := hR
  have HL : Hid (Byt w q m d ls) := hL
  have Hr : Hid (∀ x ∈ rs, 0 ≤ x ∧ x < 256) := hr
  have Hl : Hid (∀ x ∈ ls, 0 ≤ x ∧ x < 256) := hl
  have HD : Hid (Dd w) := hd
  have E1 : Hid (rs.length = n) := e1
  have E2 : Hid (ls.length = m) := e2
  clear hR hL hr hl hd e1 e2
  go_enter Tryd.func21, Tryd.ntmps21
  go_upto_region 1 with fail
  have hs1 := sb_new w p n c q m d
  have hb1 := Trn.new w (.cells #[.slice p n c, .slice q m d] 24)
  generalize w.alloc (.cells #[.slice p n c, .slice q m d] 24) = W at *
  have q0 := hs1.c0
  have q1 := hs1.c1
  have HW : Hid (Below w.heap.size w W ∧ Byt W p n c rs ∧ Byt W q m d ls ∧ Dd W) := ⟨hb1, byt_below HR.out hb1, byt_below HL.out hb1, HD.out.below hb1⟩
  clear hs1 hb1
  by_cases hbig : 128 < n + m
  · have g1 : (128 : Int) < (n : Int) + m := by omega
    have fin1 : okC rs ls = false := by
      unfold okC
      rw [E1.out, E2.out, decide_eq_false (by omega)]
      rfl
    have OK : Hid (okC rs ls = false) := fin1
    clear fin1 hbig
    go_wp2
    go_ret
    exact ⟨by first | (rw [OK.out]; done) | (rw [OK.out]; rfl), HW.out.1⟩
  have g1 : ¬ (128 : Int) < (n : Int) + m := by omega
  by_cases hful : n + m = 128 ∧ 0 < m
  · have g2 : ((n : Int) + m == 128) = true := by simp; omega
    have g3 : (0 : Int) < m := by omega
    have fin1 : okC rs ls = false := by
      unfold okC
      rw [E1.out, E2.out, decide_eq_false (p := n + m ≠ 128) (by omega), decide_eq_false (p := m = 0) (by omega)]
      simp
    have OK : Hid (okC rs ls = false) := fin1
    clear fin1 hbig hful
    go_wp2
    go_ret
    exact ⟨by first | (rw [OK.out]; done) | (rw [OK.out]; rfl), HW.out.1⟩
  have HO : Hid (okC rs ls = (rs.all okR && ls.all okL)) := by
    show _ = _
    unfold okC
    rw [E1.out, E2.out, decide_eq_true (p := n + m ≤ 128) (by omega)]
    by_cases h : n + m = 128
    · have : m = 0 := by omega
      simp [this]
    · simp [h]
  have hn : n ≤ 128 := by omega
  have hm : m ≤ 128 := by omega
  have key : Hid (∀ Q : Exit → Act → World → Prop, True) := fun _ => trivial
  clear key
  have gt : ((n : Int) + m == 128) = false ∨ ((n : Int) + m == 128) = true ∧ ¬ ((0 : Int) < m) := by
    by_cases h : n + m = 128
    · right
      exact ⟨by simp; omega, by omega⟩
    · left
      simp; omega
  clear hbig hful hs
  rcases gt with g2 | ⟨g2, g3⟩
  all_goals
    go_wp2
    go_loopw [30] (fun v wr => ∃ i : Nat, i ≤ n ∧ v = .int .i64 i ∧ Hid ((rs.take i).all okR = true) ∧ wr = W) (fun v _ => (n - intOf v).toNat)
    case atStart => exact ⟨0, Nat.zero_le _, rfl, (by show _ = _; simp), rfl⟩
    case round =>
      obtain ⟨i, hi, rfl, HA, rfl⟩ := hrel
      by_cases hlt : i < n
      · have g4 : (i : Int) < n := by omega
        obtain ⟨gb, o, rfl, hcl⟩ : ∃ gb o, p = some ⟨gb, o, .none⟩ ∧ ∀ i x, rs[i]? = some x → wr.cell? ⟨gb, o + i, .none⟩ = some (.int .u8 x) := by
          rcases HW.out.2.1.2.2.2 with h | ⟨gb, o, h1, _, h3⟩
          · omega
          · exact ⟨gb, o, h1, h3⟩
        obtain ⟨x, hx⟩ : ∃ x, rs[i]? = some x := ⟨rs[i]'(by rw [E1.out]; omega), by simp⟩
        have a1 := hcl i x hx
        have hxb := Hr.out x (List.mem_of_getElem? hx)
        have c1 := deedOf_any HW.out.2.2.2 x hxb
        have c2 := finishes_any HW.out.2.2.2 x hxb
        have HXI : Hid (rs[i]? = some x) := hx
        clear hcl hx
        by_cases h0 : dd x = 0
        · rw [h0] at c1
          have OK : Hid ((rs.take (i + 1)).all okR = true) := all_take HA.out HXI.out (by simp [okR, h0])
          clear h0
          go_wp2_with fail
          refine c1.mono ?_
          rintro e w1 ⟨rfl, hw1⟩
          obtain rfl : wr = w1 := hw1.symm
          go_wp2
          exact ⟨⟨i + 1, by omega, rfl, OK, (by first | rfl | trivial)⟩, by simp only [intOf]; omega⟩
        · have n0 : (dd x == 0) = false := by simpa using h0
          have HN0 : Hid ((dd x == 0) = false) := n0
          clear h0
          by_cases hf : fin x = true
          · have OK : Hid ((rs.take (i + 1)).all okR = true) := all_take HA.out HXI.out (by simp [okR, hf])
            rw [hf] at c2
            clear hf
            generalize dd x = D at *
            go_wp2_with fail
            refine c1.mono ?_
            rintro e w1 ⟨rfl, hw1⟩
            obtain rfl : wr = w1 := hw1.symm
            have n1 : ¬ (D = 0) := by have := HN0.out; simpa using this
            go_wp2_with fail
            refine c2.mono ?_
            rintro e w1 ⟨rfl, hw1⟩
            obtain rfl : wr = w1 := hw1.symm
            go_wp2
            exact ⟨⟨i + 1, by omega, rfl, OK, (by first | rfl | trivial)⟩, by simp only [intOf]; omega⟩
          · have hf : fin x = false := by simpa using hf
            have OK : Hid (okC rs ls = false) := by
              show _ = _
              rw [HO.out, all_not HXI.out (by simp only [okR, HN0.out, hf]; rfl)]
              rfl
            rw [hf] at c2
            clear hf
            generalize dd x = D at *
            go_wp2_with fail
            refine c1.mono ?_
            rintro e w1 ⟨rfl, hw1⟩
            obtain rfl : wr = w1 := hw1.symm
            have n1 : ¬ (D = 0) := by have := HN0.out; simpa using this
            go_wp2_with fail
            refine c2.mono ?_
            rintro e w1 ⟨rfl, hw1⟩
            obtain rfl : wr = w1 := hw1.symm
            go_wp2
            go_ret
            exact ⟨by first | (rw [OK.out]; done) | (rw [OK.out]; rfl), HW.out.1⟩
      · obtain rfl : i = n := by omega
        have HRA : Hid (rs.all okR = true) := by
          have := HA.out
          rw [List.take_of_length_le (by rw [E1.out]; omega)] at this
          exact this
        clear HA hlt hi
        go_wp2
        go_loopw [46] (fun v wx => ∃ j : Nat, j ≤ m ∧ v = .int .i64 j ∧ Hid ((ls.take j).all okL = true) ∧ wx = wr) (fun v _ => (m - intOf v).toNat)
        case atStart => exact ⟨0, Nat.zero_le _, rfl, (by show _ = _; simp), rfl⟩
        case round =>
          obtain ⟨j, hj, rfl, HB, rfl⟩ := hrel
          by_cases hlt : j < m
          · have g5 : (j : Int) < m := by omega
            obtain ⟨gb, o, rfl, hcl⟩ : ∃ gb o, q = some ⟨gb, o, .none⟩ ∧ ∀ i x, ls[i]? = some x → wr.cell? ⟨gb, o + i, .none⟩ = some (.int .u8 x) := by
              rcases HW.out.2.2.1.2.2.2 with h | ⟨gb, o, h1, _, h3⟩
              · omega
              · exact ⟨gb, o, h1, h3⟩
            obtain ⟨x, hx⟩ : ∃ x, ls[j]? = some x := ⟨ls[j]'(by rw [E2.out]; omega), by simp⟩
            have a1 := hcl j x hx
            have hxb := Hl.out x (List.mem_of_getElem? hx)
            have c1 := deedOf_any HW.out.2.2.2 x hxb
            have HXI : Hid (ls[j]? = some x) := hx
            clear hcl hx
            by_cases h0 : dd x = 0
            · rw [h0] at c1
              have OK : Hid ((ls.take (j + 1)).all okL = true) := all_take HB.out HXI.out (by simp [okL, h0])
              clear h0
              go_wp2_with fail
              refine c1.mono ?_
              rintro e w1 ⟨rfl, hw1⟩
              obtain rfl : wr = w1 := hw1.symm
              go_wp2
              exact ⟨⟨j + 1, by omega, rfl, OK, (by first | rfl | trivial)⟩, by simp only [intOf]; omega⟩
            · have n0 : (dd x == 0) = false := by simpa using h0
              have OK : Hid (okC rs ls = false) := by
                show _ = _
                rw [HO.out, all_not (f := okL) HXI.out n0, Bool.and_false]
              clear h0
              generalize dd x = D at *
              go_wp2_with fail
              refine c1.mono ?_
              rintro e w1 ⟨rfl, hw1⟩
              obtain rfl : wr = w1 := hw1.symm
              go_wp2
              all_goals go_ret
              all_goals exact ⟨by first | (rw [OK.out]; done) | (rw [OK.out]; rfl), HW.out.1⟩
          · obtain rfl : j = m := by omega
            have OK : Hid (okC rs ls = true) := by
              show _ = _
              have := HB.out
              rw [List.take_of_length_le (by rw [E2.out]; omega)] at this
              rw [HO.out, HRA.out, this]
              rfl
            clear hlt hj
            go_wp2
            go_ret
            exact ⟨by first | (rw [OK.out]; done) | (rw [OK.out]; rfl), HW.out.1⟩
end Go.Proofs.YtblpdnchphhcaabDoor
