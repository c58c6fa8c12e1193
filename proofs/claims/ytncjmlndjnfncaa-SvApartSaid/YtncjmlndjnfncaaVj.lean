import Derived.Test.YtncjmlndjnfncaaVi
namespace Go.Proofs.Ytncjmlndjnfncaa
open Go Go.RowKit Go.Shelf
set_option linter.unusedVariables false
set_option linter.unusedSimpArgs false
attribute [local irreducible] eM evs
section
variable {w : World} {p b m N r c : Nat} {B : Nat → Int} {L : List Nat} {F : Nat → Option Nat} {lf : Nat → Nat → Int} {l : List Pg} {q : Option Addr}
set_option maxHeartbeats 2000000 in
theorem goes_none (hR : Ram w p b m N B L) (hP : PT N L B F lf) (hr : F 0 = some r) (hT : TL F lf l) (hn : l.length ≤ 1000) (hsee : SeP w q l.length (gV l) (gA l) (gP l)) (va off : Int) (hv : 0 ≤ va ∧ va < 274877906944 ∧ va % 4096 = 0) (ho : 0 ≤ off ∧ off < 18446744073709551616) (hno : ∀ i, i < l.length → gV l i ≠ va) :
    Calls Try.prog 30 #[.pointer (some ⟨p, 0, .none⟩), .int .u64 (ad r), .slice q l.length c, .int .u64 va, .int .u64 off] w fun e w' => e = .returned (.bool true) ∧ Below w.heap.size w w' := by
  have c28 : Calls Try.prog 28 #[.slice q l.length c, .int .u64 va] w fun e w' => e = .returned (.int .i64 (-1)) ∧ w' = w := (find_any hsee (by omega) va).mono (fun e w' h => by
    obtain ⟨k, h1, h2, h3⟩ := h
    rcases h2 with ⟨rfl, _⟩ | ⟨i, hi, _, h4, _⟩
    · exact ⟨h1, h3⟩
    · exact absurd h4 (hno i hi))
  have hz : lf (y0 va) (i0 va) = 0 := hT.none_at va hv (fun x hx e => by
    obtain ⟨i, hi, he⟩ := List.getElem_of_mem hx
    refine hno i hi ?_
    unfold gV
    rw [List.getD_eq_getElem?_getD, List.getElem?_eq_getElem hi, Option.getD_some, he]
    exact e)
  obtain ⟨W1, hW1⟩ : ∃ W1, W1 = w.alloc (.cells #[.int .u64 8, .int .u64 2, .int .u64 132] 28) := ⟨_, rfl⟩
  have b1 : Below w.heap.size w W1 := by rw [hW1]; exact below1 _ _
  have hs1 : W1.heap.size = w.heap.size + 1 := by rw [hW1]; simp
  have d0 : W1.cell? ⟨w.heap.size, 0, .none⟩ = some (.int .u64 8) := by rw [hW1]; simp
  have d1 : W1.cell? ⟨w.heap.size, 1, .none⟩ = some (.int .u64 2) := by rw [hW1]; simp
  have d2 : W1.cell? ⟨w.heap.size, 2, .none⟩ = some (.int .u64 132) := by rw [hW1]; simp
  have HC : Hid (∀ W, Below W1.heap.size W1 W → W.cell? ⟨w.heap.size, 0, .none⟩ = some (.int .u64 8) ∧ W.cell? ⟨w.heap.size, 1, .none⟩ = some (.int .u64 2) ∧ W.cell? ⟨w.heap.size, 2, .none⟩ = some (.int .u64 132)) := fun W b => ⟨(b.cell (p := ⟨w.heap.size, 0, .none⟩) (by simp only; omega)).trans d0, (b.cell (p := ⟨w.heap.size, 1, .none⟩) (by simp only; omega)).trans d1, (b.cell (p := ⟨w.heap.size, 2, .none⟩) (by simp only; omega)).trans d2⟩
  clear d0 d1 d2
  have hrem : IntKind.u64.wrap (off.tmod 4096) = off % 4096 := by rw [Int.tmod_eq_emod_of_nonneg (by omega), IntKind.wrap_u64]; omega
  have hadd : IntKind.u64.wrap (va + off % 4096) = va + off % 4096 := by rw [IntKind.wrap_u64]; omega
  have h88 : bits .or .u64 80 8 = 88 := by decide
  have h82 : bits .or .u64 80 2 = 82 := by decide
  have h212 : bits .or .u64 80 132 = 212 := by decide
  have c18 : ∀ (a : Int) W, Below W1.heap.size W1 W → Calls Try.prog 18 #[.pointer (some ⟨p, 0, .none⟩), .int .u64 (ad r), .int .u64 (va + off % 4096), .int .i64 a] W fun e w' => e = .returned (.tuple #[.int .u64 0, .bool false]) ∧ Below W1.heap.size W1 w' := fun a W hW => (tra_none ((hR.below b1).below hW) hP hr va (off % 4096) a hv (by omega) hz).mono (fun e w' h => ⟨h.1, hW.trans (h.2.mono hW.size)⟩)
  have H1 : Hid (Below w.heap.size w W1 ∧ W1.heap.size = w.heap.size + 1) := ⟨b1, hs1⟩
  have H8 : Hid (∀ (a : Int) W, Below W1.heap.size W1 W → Calls Try.prog 18 #[.pointer (some ⟨p, 0, .none⟩), .int .u64 (ad r), .int .u64 (va + off % 4096), .int .i64 a] W fun e w' => e = .returned (.tuple #[.int .u64 0, .bool false]) ∧ Below W1.heap.size W1 w') := c18
  clear hR hP hr hT hsee hno hz b1 hs1 c18
  go_enter Try.func30, Try.ntmps30
  go_wp2_with (go_at_call 28; refine c28.mono ?_; rintro _ w0 ⟨rfl, rfl⟩)
  rw [← hW1]
  clear hW1 c28
  go_loopw [14] (fun v wr => ∃ i : Nat, i ≤ 3 ∧ v = .int .i64 i ∧ Hid (Below W1.heap.size W1 wr)) (fun v _ => (3 - intOf v).toNat)
  case atStart => exact ⟨0, by omega, rfl, Below.refl _ _⟩
  case round =>
    obtain ⟨i, hi, rfl, HB⟩ := hrel
    by_cases hin : i < 3
    · obtain rfl | rfl | rfl : i = 0 ∨ i = 1 ∨ i = 2 := by omega
      · have c := H8.out 1 wr HB.out
        clear hi hin HB
        go_wp2_with (go_at_call 18; refine c.mono ?_; rintro _ w2 ⟨rfl, k2⟩; obtain ⟨e0, e1, e2⟩ := HC.out w2 k2; have HB : Hid (Below W1.heap.size W1 w2) := k2; clear k2)
        exact ⟨⟨1, by omega, rfl, HB⟩, by simp [intOf]⟩
      · have c := H8.out 2 wr HB.out
        clear hi hin HB
        go_wp2_with (go_at_call 18; refine c.mono ?_; rintro _ w2 ⟨rfl, k2⟩; obtain ⟨e0, e1, e2⟩ := HC.out w2 k2; have HB : Hid (Below W1.heap.size W1 w2) := k2; clear k2)
        exact ⟨⟨2, by omega, rfl, HB⟩, by simp [intOf]⟩
      · have c := H8.out 3 wr HB.out
        clear hi hin HB
        go_wp2_with (go_at_call 18; refine c.mono ?_; rintro _ w2 ⟨rfl, k2⟩; obtain ⟨e0, e1, e2⟩ := HC.out w2 k2; have HB : Hid (Below W1.heap.size W1 w2) := k2; clear k2)
        exact ⟨⟨3, by omega, rfl, HB⟩, by simp [intOf]⟩
    · obtain rfl : i = 3 := by omega
      clear hi hin
      go_wp2
      go_ret
      exact ⟨rfl, H1.out.1.trans (HB.out.mono H1.out.1.size)⟩
set_option maxHeartbeats 2000000 in
theorem goes_some (hR : Ram w p b m N B L) (hP : PT N L B F lf) (hr : F 0 = some r) (hT : TL F lf l) (hn : l.length ≤ 1000) (hsee : SeP w q l.length (gV l) (gA l) (gP l)) (y : Pg) (hy : y ∈ l) (off : Int) (ho : 0 ≤ off ∧ off < 18446744073709551616) :
    Calls Try.prog 30 #[.pointer (some ⟨p, 0, .none⟩), .int .u64 (ad r), .slice q l.length c, .int .u64 y.1, .int .u64 off] w fun e w' => e = .returned (.bool true) ∧ Below w.heap.size w w' := by
  have hok := hT.ok y hy
  have hne := hok.ne
  have hle := hT.leaf y hy
  have c28 : Calls Try.prog 28 #[.slice q l.length c, .int .u64 y.1] w fun e w' => ∃ i : Nat, (i < l.length ∧ gA l i = y.2.1 ∧ gP l i = y.2.2) ∧ e = .returned (.int .i64 i) ∧ w' = w := (find_any hsee (by omega) y.1).mono (fun e w' h => by
    obtain ⟨k, h1, h2, h3⟩ := h
    obtain ⟨i, hi, hk, ha, hp⟩ := fnd_page hT.uniq hy h2
    rw [hk] at h1
    exact ⟨i, ⟨hi, ha, hp⟩, h1, h3⟩)
  obtain ⟨va, pa, pm⟩ := y
  obtain ⟨hv, hpa, hpm, _⟩ := hok
  simp only at hv hpa hpm hne hle c28 ⊢
  obtain ⟨W1, hW1⟩ : ∃ W1, W1 = w.alloc (.cells #[.int .u64 8, .int .u64 2, .int .u64 132] 28) := ⟨_, rfl⟩
  have b1 : Below w.heap.size w W1 := by rw [hW1]; exact below1 _ _
  have hs1 : W1.heap.size = w.heap.size + 1 := by rw [hW1]; simp
  have d0 : W1.cell? ⟨w.heap.size, 0, .none⟩ = some (.int .u64 8) := by rw [hW1]; simp
  have d1 : W1.cell? ⟨w.heap.size, 1, .none⟩ = some (.int .u64 2) := by rw [hW1]; simp
  have d2 : W1.cell? ⟨w.heap.size, 2, .none⟩ = some (.int .u64 132) := by rw [hW1]; simp
  have HC : Hid (∀ W, Below W1.heap.size W1 W → W.cell? ⟨w.heap.size, 0, .none⟩ = some (.int .u64 8) ∧ W.cell? ⟨w.heap.size, 1, .none⟩ = some (.int .u64 2) ∧ W.cell? ⟨w.heap.size, 2, .none⟩ = some (.int .u64 132)) := fun W b => ⟨(b.cell (p := ⟨w.heap.size, 0, .none⟩) (by simp only; omega)).trans d0, (b.cell (p := ⟨w.heap.size, 1, .none⟩) (by simp only; omega)).trans d1, (b.cell (p := ⟨w.heap.size, 2, .none⟩) (by simp only; omega)).trans d2⟩
  clear d0 d1 d2
  have hrem : IntKind.u64.wrap (off.tmod 4096) = off % 4096 := by rw [Int.tmod_eq_emod_of_nonneg (by omega), IntKind.wrap_u64]; omega
  have hadd : IntKind.u64.wrap (va + off % 4096) = va + off % 4096 := by rw [IntKind.wrap_u64]; omega
  have h88 : bits .or .u64 80 8 = 88 := by decide
  have h82 : bits .or .u64 80 2 = 82 := by decide
  have h212 : bits .or .u64 80 132 = 212 := by decide
  have H8 : Hid (∀ (t : Nat) W, t < 3 → Below W1.heap.size W1 W → Calls Try.prog 18 #[.pointer (some ⟨p, 0, .none⟩), .int .u64 (ad r), .int .u64 (va + off % 4096), .int .i64 (1 + t)] W fun e w' => e = .returned (.tuple #[.int .u64 (if hs pm (wnt t) then pa + off % 4096 else 0), .bool (hs pm (wnt t))]) ∧ Below W1.heap.size W1 w') := fun t W ht hW => (tra_some ((hR.below b1).below hW) hP hr va (off % 4096) pa pm t ht hv (by omega) hpa hpm hle hne).mono (fun e w' h => ⟨h.1, hW.trans (h.2.mono hW.size)⟩)
  have hadd2 : IntKind.u64.wrap (pa + off % 4096) = pa + off % 4096 := by rw [IntKind.wrap_u64]; omega
  have H1 : Hid (Below w.heap.size w W1 ∧ W1.heap.size = w.heap.size + 1) := ⟨b1, hs1⟩
  have HS : Hid (SeP W1 q l.length (gV l) (gA l) (gP l)) := hsee.keep b1
  clear hR hP hr hT hsee hle hne b1 hs1 hy
  go_enter Try.func30, Try.ntmps30
  go_wp2_with (go_at_call 28; refine c28.mono ?_; rintro _ w0 ⟨k, hk, rfl, rfl⟩)
  rw [← hW1]
  clear hW1 c28
  obtain ⟨hkl, hka, hkp⟩ := hk
  rcases HS.out with h0 | ⟨g2, rfl, hg2, hcells⟩
  · omega
  have HG : Hid (∀ W, Below W1.heap.size W1 W → W.cell? ⟨g2, k * 3 + 1, .none⟩ = some (.int .u64 pa) ∧ W.cell? ⟨g2, k * 3 + 2, .none⟩ = some (.int .u64 pm)) := fun W b => by
    obtain ⟨_, x1, x2⟩ := hcells k hkl
    rw [hka] at x1
    rw [hkp] at x2
    exact ⟨(b.cell (p := ⟨g2, k * 3 + 1, .none⟩) hg2).trans x1, (b.cell (p := ⟨g2, k * 3 + 2, .none⟩) hg2).trans x2⟩
  obtain ⟨nl, hnl⟩ : ∃ nl, nl = l.length := ⟨_, rfl⟩
  rw [← hnl] at hkl ⊢
  have hkl2 : (k : Int) < nl := by omega
  clear hcells hka hkp HS hg2 hnl hn
  go_loopw [14] (fun v wr => ∃ i : Nat, i ≤ 3 ∧ v = .int .i64 i ∧ Hid (Below W1.heap.size W1 wr)) (fun v _ => (3 - intOf v).toNat)
  case atStart => exact ⟨0, by omega, rfl, Below.refl _ _⟩
  case round =>
    obtain ⟨i, hi, rfl, HB⟩ := hrel
    by_cases hin : i < 3
    · obtain rfl | rfl | rfl : i = 0 ∨ i = 1 ∨ i = 2 := by omega
      · have c := H8.out 0 wr (by omega) HB.out
        rw [show ((wnt 0 : Nat) : Int) = 88 from rfl] at c
        cases hh : hs pm 88
        rotate_left
        · have e9 : (bits .and .u64 pm 88 == 88) = true := hh
          have c' : Calls Try.prog 18 #[.pointer (some ⟨p, 0, .none⟩), .int .u64 (ad r), .int .u64 (va + off % 4096), .int .i64 1] wr fun e w' => e = .returned (.tuple #[.int .u64 (pa + off % 4096), .bool true]) ∧ Below W1.heap.size W1 w' := c.mono (fun e w' h => by simp only [hh, if_true, Bool.false_eq_true, if_false] at h; exact h)
          clear hi hin HB c hh
          go_wp2_with (go_at_call 18; refine c'.mono ?_; rintro _ w2 ⟨rfl, k2⟩; obtain ⟨e0, e1, e2⟩ := HC.out w2 k2; obtain ⟨e3, e4⟩ := HG.out w2 k2; have HB : Hid (Below W1.heap.size W1 w2) := k2; clear k2)
          exact ⟨⟨1, by omega, rfl, HB⟩, by simp [intOf]⟩
        · have e9 : (bits .and .u64 pm 88 == 88) = false := hh
          have c' : Calls Try.prog 18 #[.pointer (some ⟨p, 0, .none⟩), .int .u64 (ad r), .int .u64 (va + off % 4096), .int .i64 1] wr fun e w' => e = .returned (.tuple #[.int .u64 0, .bool false]) ∧ Below W1.heap.size W1 w' := c.mono (fun e w' h => by simp only [hh, if_true, Bool.false_eq_true, if_false] at h; exact h)
          clear hi hin HB c hh
          go_wp2_with (go_at_call 18; refine c'.mono ?_; rintro _ w2 ⟨rfl, k2⟩; obtain ⟨e0, e1, e2⟩ := HC.out w2 k2; obtain ⟨e3, e4⟩ := HG.out w2 k2; have HB : Hid (Below W1.heap.size W1 w2) := k2; clear k2)
          exact ⟨⟨1, by omega, rfl, HB⟩, by simp [intOf]⟩
      · have c := H8.out 1 wr (by omega) HB.out
        rw [show ((wnt 1 : Nat) : Int) = 82 from rfl] at c
        cases hh : hs pm 82
        rotate_left
        · have e9 : (bits .and .u64 pm 82 == 82) = true := hh
          have c' : Calls Try.prog 18 #[.pointer (some ⟨p, 0, .none⟩), .int .u64 (ad r), .int .u64 (va + off % 4096), .int .i64 2] wr fun e w' => e = .returned (.tuple #[.int .u64 (pa + off % 4096), .bool true]) ∧ Below W1.heap.size W1 w' := c.mono (fun e w' h => by simp only [hh, if_true, Bool.false_eq_true, if_false] at h; exact h)
          clear hi hin HB c hh
          go_wp2_with (go_at_call 18; refine c'.mono ?_; rintro _ w2 ⟨rfl, k2⟩; obtain ⟨e0, e1, e2⟩ := HC.out w2 k2; obtain ⟨e3, e4⟩ := HG.out w2 k2; have HB : Hid (Below W1.heap.size W1 w2) := k2; clear k2)
          exact ⟨⟨2, by omega, rfl, HB⟩, by simp [intOf]⟩
        · have e9 : (bits .and .u64 pm 82 == 82) = false := hh
          have c' : Calls Try.prog 18 #[.pointer (some ⟨p, 0, .none⟩), .int .u64 (ad r), .int .u64 (va + off % 4096), .int .i64 2] wr fun e w' => e = .returned (.tuple #[.int .u64 0, .bool false]) ∧ Below W1.heap.size W1 w' := c.mono (fun e w' h => by simp only [hh, if_true, Bool.false_eq_true, if_false] at h; exact h)
          clear hi hin HB c hh
          go_wp2_with (go_at_call 18; refine c'.mono ?_; rintro _ w2 ⟨rfl, k2⟩; obtain ⟨e0, e1, e2⟩ := HC.out w2 k2; obtain ⟨e3, e4⟩ := HG.out w2 k2; have HB : Hid (Below W1.heap.size W1 w2) := k2; clear k2)
          exact ⟨⟨2, by omega, rfl, HB⟩, by simp [intOf]⟩
      · have c := H8.out 2 wr (by omega) HB.out
        rw [show ((wnt 2 : Nat) : Int) = 212 from rfl] at c
        cases hh : hs pm 212
        rotate_left
        · have e9 : (bits .and .u64 pm 212 == 212) = true := hh
          have c' : Calls Try.prog 18 #[.pointer (some ⟨p, 0, .none⟩), .int .u64 (ad r), .int .u64 (va + off % 4096), .int .i64 3] wr fun e w' => e = .returned (.tuple #[.int .u64 (pa + off % 4096), .bool true]) ∧ Below W1.heap.size W1 w' := c.mono (fun e w' h => by simp only [hh, if_true, Bool.false_eq_true, if_false] at h; exact h)
          clear hi hin HB c hh
          go_wp2_with (go_at_call 18; refine c'.mono ?_; rintro _ w2 ⟨rfl, k2⟩; obtain ⟨e0, e1, e2⟩ := HC.out w2 k2; obtain ⟨e3, e4⟩ := HG.out w2 k2; have HB : Hid (Below W1.heap.size W1 w2) := k2; clear k2)
          exact ⟨⟨3, by omega, rfl, HB⟩, by simp [intOf]⟩
        · have e9 : (bits .and .u64 pm 212 == 212) = false := hh
          have c' : Calls Try.prog 18 #[.pointer (some ⟨p, 0, .none⟩), .int .u64 (ad r), .int .u64 (va + off % 4096), .int .i64 3] wr fun e w' => e = .returned (.tuple #[.int .u64 0, .bool false]) ∧ Below W1.heap.size W1 w' := c.mono (fun e w' h => by simp only [hh, if_true, Bool.false_eq_true, if_false] at h; exact h)
          clear hi hin HB c hh
          go_wp2_with (go_at_call 18; refine c'.mono ?_; rintro _ w2 ⟨rfl, k2⟩; obtain ⟨e0, e1, e2⟩ := HC.out w2 k2; obtain ⟨e3, e4⟩ := HG.out w2 k2; have HB : Hid (Below W1.heap.size W1 w2) := k2; clear k2)
          exact ⟨⟨3, by omega, rfl, HB⟩, by simp [intOf]⟩
    · obtain rfl : i = 3 := by omega
      clear hi hin
      go_wp2
      go_ret
      exact ⟨rfl, H1.out.1.trans (HB.out.mono H1.out.1.size)⟩
theorem goes_any (hR : Ram w p b m N B L) (hP : PT N L B F lf) (hr : F 0 = some r) (hT : TL F lf l) (hn : l.length ≤ 1000) (hsee : SeP w q l.length (gV l) (gA l) (gP l)) (va off : Int) (hv : 0 ≤ va ∧ va < 274877906944 ∧ va % 4096 = 0) (ho : 0 ≤ off ∧ off < 18446744073709551616) :
    Calls Try.prog 30 #[.pointer (some ⟨p, 0, .none⟩), .int .u64 (ad r), .slice q l.length c, .int .u64 va, .int .u64 off] w fun e w' => e = .returned (.bool true) ∧ Below w.heap.size w w' := by
  by_cases h : ∃ y ∈ l, y.1 = va
  · obtain ⟨y, hy, rfl⟩ := h
    exact goes_some hR hP hr hT hn hsee y hy off ho
  · refine goes_none hR hP hr hT hn hsee va off hv ho (fun i hi e => h ⟨l[i], List.getElem_mem hi, ?_⟩)
    unfold gV at e
    rw [List.getD_eq_getElem?_getD, List.getElem?_eq_getElem hi, Option.getD_some] at e
    exact e
end
end Go.Proofs.Ytncjmlndjnfncaa
