import Derived.Test.YtacdgfojdkppmaaGreatDoorXi
import Derived.Laws.MakeOwn
namespace Go.Proofs.YtacdgfojdkppmaaGreatDoor
open Go.RowKit Go.Shelf
set_option linter.unusedVariables false
set_option linter.unusedSimpArgs false
set_option maxRecDepth 10000 in
set_option maxHeartbeats 4000000 in
theorem demandQ_any {W : World} {fp : Option Addr} {b o fn fc : Nat} {B : Nat → Int} (hp : 64 ≤ fn → fp = some ⟨b, o, .none⟩) (hrow : Row W b o fn B) (hB : ∀ i, 0 ≤ B i ∧ B i < 256) (hc : fn ≤ fc ∧ fc ≤ 9223372036854775807) (hn3 : fn ≤ 400000) (ha hr : Int) (hH : Hd B ha hr)
    {p : Option Addr} {n c : Nat} {xs : List Bs} (hA : Arg W p n c xs) :
    Calls Tryz.prog 7 #[.slice fp fn fc, .slice p n c] W fun e w' => e = .returned (.tuple #[.int .i64 (dmN (rdF fn B ha hr).1.2 (ePg (sgO fn B ha hr)) xs), .int .i64 (dmE (rdF fn B ha hr).1.2 xs)]) ∧ Below W.heap.size W w' := by
  have cP := readD_any hp hrow hB hc hn3 ha hr hH hA
  generalize (rdF fn B ha hr).1.2 = r at cP ⊢
  generalize ePg (sgO fn B ha hr) = eP at cP ⊢
  clear hp hrow hB hc hH hA hn3
  unfold RdP at cP
  by_cases h0 : dmE r xs ≠ 0
  · have hN : dmN r eP xs = 0 := by simp [dmN, h0]
    rw [hN]
    generalize dmE r xs = d at h0 cP ⊢
    have hd : (d != 0) = true := by simpa using h0
    clear hN
    go_enter Tryz.func7, Tryz.ntmps7
    go_wp2_with (go_at_call 21; refine cP.mono ?_; rintro _ w1 ⟨b1, h1⟩; obtain rfl : _ = _ := (by rcases h1 with ⟨_, h⟩ | ⟨h, _⟩; exact h; exact absurd h h0); clear h1 cP)
    refine bodyPost_ret (v := .tuple #[.int .i64 0, .int .i64 d]) (by simp [results, Tryz.results7, go_sem]) rfl ⟨rfl, b1.alloc b1.size _⟩
  · have h0 : dmE r xs = 0 := by omega
    have hN : dmN r eP xs = eP + 6 + (eP + 513) / 512 := by simp [dmN, h0]
    rw [hN, h0]
    rw [h0] at cP
    clear hN h0
    go_enter Tryz.func7, Tryz.ntmps7
    go_upto_region 2 with (go_at_call 21; refine cP.mono ?_; rintro _ w1 ⟨b1, h1⟩; rcases h1 with ⟨h, _⟩ | ⟨_, X, q, cs, E, B', et, rfl, sg, hE, hl, hp⟩; exact absurd rfl h)
    have HB : Hid (Below w1.heap.size w1 (w1.alloc (.cells #[.int .u64 et, .slice q E.length cs] 64))) := (Below.refl _ _).alloc (Nat.le_refl _) _
    have c14 := pagesQ_any (sg.below HB.out) hE hl et
    have hbd := ePg_bound E sg.gd
    rw [hp] at c14 hbd
    have HB1 : Hid (Below W.heap.size W w1) := b1
    clear sg hE hl hp cP b1
    go_wp2_with first | (go_at_call 22; refine c14.mono ?_; rintro _ w2 ⟨rfl, b2⟩) | (go_at_call 23; refine (nodes_any _ _ (by omega)).mono ?_; rintro _ _ ⟨rfl, rfl⟩)
    refine bodyPost_ret (v := .tuple #[.int .i64 (eP + 6 + (eP + 513) / 512), .int .i64 0]) ?_ rfl ⟨rfl, HB1.out.trans ((HB.out.trans (b2.mono HB.out.size)).mono HB1.out.size)⟩
    have e1 : eP + 2 + (4 + (eP + 2 + 511) / 512) = eP + 6 + (eP + 513) / 512 := by omega
    simp [results, Tryz.results7, go_sem]
    omega
def FewP (w : World) (fn n : Nat) (xs : List Bs) (e : Ending) (w' : World) : Prop := (∃ r, e = .returned (.bool r) ∧ (r = true → fn ≤ 400000 ∧ n < 100 ∧ ∀ x ∈ xs, x.length ≤ 400000)) ∧ w' = w
set_option maxRecDepth 10000 in
set_option maxHeartbeats 1000000 in
theorem few_any (fp p : Option Addr) (fn fc n c : Nat) (xs : List Bs) (w : World) (h : Tex w p n c xs) (hf : fn ≤ 140737488351232) (hn : n ≤ 140737488351232) (hx : ∀ x ∈ xs, x.length ≤ 140737488351232) :
    Calls Tryz.prog 6 #[.slice fp fn fc, .slice p n c] w (FewP w fn n xs) := by
  have HT : Hid (Tex w p n c xs) := h
  have HL : Hid (xs.length = n) := h.1
  have HX : Hid (∀ x ∈ xs, x.length ≤ 140737488351232) := hx
  have hc : n ≤ c ∧ c ≤ 9223372036854775807 := ⟨h.2.1, h.2.2.1⟩
  clear h hx
  go_enter Tryz.func6, Tryz.ntmps6
  go_wp2_with fail
  go_loopw [5, 6] (fun s k wr => ∃ i : Nat, i ≤ n ∧ i ≤ 100 ∧ k = .int .i64 i ∧ ∃ t : Int, s = .int .i64 t ∧ wr = w ∧ Hid (fn ≤ t ∧ t ≤ 140737488351232 * (i + 1) ∧ ∀ j x, j < i → xs[j]? = some x → (x.length : Int) ≤ t)) (fun _ k _ => (n - intOf k).toNat)
  case atStart => exact ⟨0, by omega, by omega, rfl, fn, rfl, rfl, by omega, by omega, fun j x hj => by omega⟩
  case round =>
    obtain ⟨i, hi, hi2, rfl, t, rfl, rfl, HR⟩ := hrel
    have r1 := HR.out.1
    have r2 := HR.out.2.1
    by_cases hlt : i < n ∧ i < 100
    · have g0 : (i : Int) < n := by omega
      have g1 : (i : Int) < 100 := by omega
      obtain ⟨b, o, x, rfl, hxi, a0⟩ := HT.out.at hlt.1
      have hxl := HX.out x (List.mem_of_getElem? hxi)
      have HN : Hid (∀ j y, j < i + 1 → xs[j]? = some y → (y.length : Int) ≤ t + x.length) := fun j y hj hy => by
        rcases Nat.lt_or_ge j i with e | e
        · have := HR.out.2.2 j y e hy; omega
        · obtain rfl : j = i := by omega
          rw [hxi] at hy
          injection hy with e
          subst e
          omega
      clear hxi
      go_wp2_with fail
      exact ⟨⟨i + 1, by omega, by omega, rfl, t + x.length, rfl, trivial, by omega, by omega, HN.out⟩, by simp only [intOf]; omega⟩
    · by_cases hn2 : i < n
      · have g0 : (i : Int) < n := by omega
        obtain rfl : i = 100 := by omega
        have g2 : ¬ ((n : Int) < 100) := by omega
        go_wp2_with fail
        all_goals go_ret
        all_goals exact ⟨⟨false, rfl, fun h => by cases h⟩, rfl⟩
      · obtain rfl : i = n := by omega
        have HJ : Hid (t ≤ 400000 → (i : Int) < 100 → fn ≤ 400000 ∧ i < 100 ∧ ∀ x ∈ xs, x.length ≤ 400000) := fun h1 h2 => ⟨by omega, by omega, fun x hx => by
          obtain ⟨j, hj⟩ := List.mem_iff_getElem?.1 hx
          have hj2 : j < i := by rw [← HL.out]; exact (List.getElem?_eq_some_iff.1 hj).1
          have := HR.out.2.2 j x hj2 hj
          omega⟩
        by_cases ht : t ≤ 400000
        · go_wp2_with fail
          go_ret
          exact ⟨⟨_, rfl, fun h => HJ.out ht (of_decide_eq_true h)⟩, rfl⟩
        · go_wp2_with fail
          go_ret
          exact ⟨⟨false, rfl, fun h => by cases h⟩, rfl⟩
theorem str_info : ∃ i z, Tryz.prog.info? 9 = some i ∧ i.zero = some z ∧ i.size = 1 ∧ i.bytes = 16 ∧ z.cells.size = 1 := info_of 9 1 16 (by kernel_rfl) (by kernel_rfl)
def mark : Bs := [109, 97, 114, 107]
/-- A list of one's own, a mark behind its end. -/
def LenT (w : World) (X g c : Nat) (xs : List Bs) : Prop := w.ownsRow X 9 1 (.slice (some ⟨g, 0, .none⟩) (xs.length + 1) c) (xs.length + 1) ((xs ++ [mark]).map sv)
end Go.Proofs.YtacdgfojdkppmaaGreatDoor
