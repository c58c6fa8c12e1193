import Derived.Test.YtabhojfdkmeaoaaFi
namespace Go.Proofs.Ytabhojfdkmeaoaa
open Go.RowKit
set_option linter.unusedVariables false
set_option linter.unusedSimpArgs false
theorem pip_made {w : World} {b : Nat} {xs : List Int} {r : Int} {rd wt : Bool} (h : Pip w b xs r rd wt) : Calls Try.prog 25 #[.pointer (some ⟨b, 0, .none⟩)] w fun e w' => e = .returned (.bool true) ∧ w' = w := by
  obtain ⟨h1, B, h2, h3⟩ := h
  exact isMade_any h2
theorem pip_held {w : World} {b : Nat} {xs : List Int} {r : Int} {rd wt : Bool} (h : Pip w b xs r rd wt) : Calls Try.prog 26 #[.pointer (some ⟨b, 0, .none⟩)] w fun e w' => e = .returned (.int .i64 xs.length) ∧ ∃ k, w' = w.drewN k := by
  obtain ⟨h1, B, h2, h3⟩ := h
  exact held_any h2 _ h1 rfl
theorem Pip.drewN {w : World} {b : Nat} {xs : List Int} {r : Int} {rd wt : Bool} (h : Pip w b xs r rd wt) (k : Nat) : Pip (w.drewN k) b xs r rd wt := by
  obtain ⟨h1, B, h2, h3⟩ := h
  exact ⟨h1, B, h2.drewN k, h3⟩
/-- What a Put does. -/
def putN (xs : List Int) (rd : Bool) (ys : List Int) : Nat := if rd then min ys.length (512 - xs.length) else 0
def putHow (xs : List Int) (rd : Bool) (ys : List Int) : Int := if ys.length = 0 then 1 else if rd then (if putN xs rd ys < ys.length then 2 else 1) else 3
set_option maxHeartbeats 1000000 in
theorem put_pip {w : World} {b : Nat} {xs : List Int} {r : Int} {rd wt : Bool} (h : Pip w b xs r rd wt) {p : Option Addr} {n c : Nat} {ys : List Int} (hB : Byt w p n c ys) (hp : 0 < n → NB p b) (hy : ∀ y ∈ ys, 0 ≤ y ∧ y < 256) :
    Calls Try.prog 10 #[.pointer (some ⟨b, 0, .none⟩), .slice p n c] w fun e w' => e = .returned (.tuple #[.int .i64 (putN xs rd ys), .int .i64 (putHow xs rd ys)]) ∧ Pip w' b (xs ++ ys.take (putN xs rd ys)) r rd wt ∧ Trn b w w' := by
  have c25 := pip_made h
  have hl := hB.1
  have hnc := hB.2.1
  have hcm : c ≤ 9223372036854775807 := hB.2.2.1
  have hx := h.1
  have HP : Hid (Pip w b xs r rd wt) := h
  have HB : Hid (Byt w p n c ys) := hB
  have HN : Hid (0 < n → NB p b) := hp
  have HY : Hid (∀ y ∈ ys, 0 ≤ y ∧ y < 256) := hy
  have c3 : w.cell? ⟨b, 514, .none⟩ = some (.bool rd) := by obtain ⟨h1, B, h2, h3⟩ := h; exact h2.c3
  clear h hB hp hy
  by_cases h0 : n = 0
  · subst h0
    have e0 : ys = [] := List.length_eq_zero_iff.1 hl
    subst e0
    go_enter Try.func10, Try.ntmps10
    go_wp2_with fail
    refine c25.mono ?_
    rintro e w1 ⟨rfl, hw1⟩
    obtain rfl : w = w1 := hw1.symm
    go_wp2
    go_ret2
    have e1 : putN xs rd [] = 0 := by simp [putN]
    rw [e1]
    exact ⟨by simp [putHow], by simpa using HP.out, Trn.refl _ _⟩
  · cases rd with
    | false =>
      go_enter Try.func10, Try.ntmps10
      go_wp2_with fail
      refine c25.mono ?_
      rintro e w1 ⟨rfl, hw1⟩
      obtain rfl : w = w1 := hw1.symm
      go_wp2
      go_ret2
      have e1 : putN xs false ys = 0 := by simp [putN]
      rw [e1]
      exact ⟨by simp only [putHow]; rw [if_neg (by omega)]; rfl, by simpa using HP.out, Trn.refl _ _⟩
    | true =>
      obtain ⟨m, hm⟩ : ∃ m, m = putN xs true ys := ⟨_, rfl⟩
      have HM : Hid (m = min n (512 - xs.length)) := by show m = _; rw [hm]; simp [putN, hl]
      have HH : Hid (putHow xs true ys = if m < n then 2 else 1) := by
        show putHow xs true ys = _
        simp only [putHow, ← hm, hl, if_neg h0, if_true]
      rw [← hm]
      clear hm
      have hmn : m ≤ n := by have := HM.out; omega
      have e1 : (if (512 : Int) - xs.length < n then (512 : Int) - xs.length else n) = m := by have := HM.out; split <;> omega
      have ca := cutat p n c
      have ct := cut_to p n c m (by omega)
      have c26 := pip_held HP.out
      generalize hL : xs.length = L at *
      go_enter Try.func10, Try.ntmps10
      go_wp2_with fail
      refine c25.mono ?_
      rintro e w1 ⟨rfl, hw1⟩
      obtain rfl : w = w1 := hw1.symm
      go_wp2_with fail
      refine c26.mono ?_
      rintro e w1 ⟨rfl, k, hk⟩
      have HP1 : Hid (Pip w1 b xs r true wt) := by rw [hk]; exact HP.out.drewN k
      have HT1 : Hid (Trn b w w1) := Trn.ofDrewN hk
      clear hk c26 c25
      have B1 : Hid (Byt w1 (cutp p c 0) m c (ys.take m)) := HT1.out.byt (byt_cut HB.out 0 m (by omega) hmn) (fun h => (cutp_blk (HN.out (by omega))).at)
      have c27 := lay_pip HP1.out B1.out (fun h => cutp_blk (HN.out (by omega))) (fun y h => HY.out y (List.mem_of_mem_take h)) (by have := HM.out; omega)
      go_wp2_with fail
      refine c27.mono ?_
      rintro e w2 ⟨⟨v, rfl⟩, hP2, hT2⟩
      have H2 : Hid (Pip w2 b (xs ++ ys.take m) r true wt ∧ Trn b w w2) := ⟨hP2, HT1.out.trans hT2⟩
      clear c27 hP2 hT2
      by_cases hlt : m < n
      · have i1 : (m : Int) < n := by omega
        go_wp2
        go_ret2
        exact ⟨by rw [HH.out, if_pos hlt]; rfl, H2.out.1, H2.out.2⟩
      · have i1 : ¬ (m : Int) < n := by omega
        go_wp2
        go_ret2
        exact ⟨by rw [HH.out, if_neg hlt]; rfl, H2.out.1, H2.out.2⟩
/-- What a Take gives. -/
def takeN (xs : List Int) (n : Int) : Nat := min n.toNat xs.length
def takeHow (xs : List Int) (wt : Bool) (n : Int) : Int := if 1 ≤ n ∧ xs.length = 0 ∧ wt = true then 2 else 1
theorem ring_take {w : World} {b : Nat} {xs : List Int} {r : Int} {rd wt : Bool} (h : Pip w b xs r rd wt) (k : Nat) (hk : k ≤ xs.length) (v : World) (hv : v = w.setCell ⟨b, 512, .none⟩ (.int .u32 ((r + k) % 4294967296))) : Pip v b (xs.drop k) ((r + k) % 4294967296) rd wt := by
  obtain ⟨h1, B, h2, h3⟩ := h
  have br := h2.br
  subst hv
  have hs := h2.setR ((r + k) % 4294967296) (by omega)
  have e : ((r + k) % 4294967296 + ((xs.drop k).length : Int)) % 4294967296 = (r + (xs.length : Int)) % 4294967296 := by rw [List.length_drop]; omega
  refine ⟨by rw [List.length_drop]; omega, B, by rw [e]; exact hs, fun j x hj => ?_⟩
  rw [List.getElem?_drop] at hj
  rw [← h3 _ x hj]
  congr 1
  omega
set_option maxHeartbeats 1000000 in
theorem take_pip {w : World} {b : Nat} {xs : List Int} {r : Int} {rd wt : Bool} (h : Pip w b xs r rd wt) (n : Int) :
    Calls Try.prog 11 #[.pointer (some ⟨b, 0, .none⟩), .int .i64 n] w fun e w' => ∃ p c, e = .returned (.tuple #[.slice p (takeN xs n) c, .int .i64 (takeHow xs wt n)]) ∧ w'.ownsRow w.heap.size 5 1 (.slice p (takeN xs n) c) (takeN xs n) (by8 (xs.take (takeN xs n))) ∧ (takeN xs n = 0 → p = none ∧ c = 0) ∧
      Pip w' b (xs.drop (takeN xs n)) ((r + takeN xs n) % 4294967296) rd wt ∧ Trn b w w' := by
  have c25 := pip_made h
  obtain ⟨k, hk⟩ : ∃ k, k = takeN xs n := ⟨_, rfl⟩
  have c28 := first_pip h n k hk
  have HK : Hid (k = min n.toNat xs.length) := hk
  have hx := h.1
  have HP : Hid (Pip w b xs r rd wt) := h
  rw [← hk]
  clear hk h
  go_enter Try.func11, Try.ntmps11
  go_wp2_with fail
  refine c25.mono ?_
  rintro e w1 ⟨rfl, hw1⟩
  obtain rfl : w = w1 := hw1.symm
  go_wp2_with fail
  refine c28.mono ?_
  rintro e w1 ⟨p, c, rfl, hO, hb, h0⟩
  have H1 : Hid (w1.ownsRow w.heap.size 5 1 (.slice p k c) k (by8 (xs.take k)) ∧ Below w.heap.size w w1 ∧ (k = 0 → p = none ∧ c = 0)) := ⟨hO, hb, h0⟩
  have HP1 : Hid (Pip w1 b xs r rd wt) := HP.out.below hb
  clear hO hb h0 c25 c28
  have c1 : w1.cell? ⟨b, 512, .none⟩ = some (.int .u32 r) := by obtain ⟨h1, B, h2, h3⟩ := HP1.out; exact h2.c1
  have c4 : w1.cell? ⟨b, 515, .none⟩ = some (.bool wt) := by obtain ⟨h1, B, h2, h3⟩ := HP1.out; exact h2.c4
  have f1 : w1.frozen? ⟨b, 512, .none⟩ = false := by obtain ⟨h1, B, h2, h3⟩ := HP1.out; exact h2.fb _
  have ew : IntKind.u32.wrap (r + k) = (r + k) % 4294967296 := by simp [IntKind.wrap, IntKind.bits, IntKind.signed]
  have ew2 : IntKind.u32.wrap k = k := by have := HK.out; simp [IntKind.wrap, IntKind.bits, IntKind.signed]; omega
  have c5 := cell_off (i := 515) c4 512 (.int .u32 ((r + k) % 4294967296)) (by decide)
  have HQ : Hid (Pip (w1.setCell ⟨b, 512, .none⟩ (.int .u32 ((r + k) % 4294967296))) b (xs.drop k) ((r + k) % 4294967296) rd wt) := ring_take HP1.out k (by have := HK.out; omega) _ rfl
  have HE : Hid ((w1.setCell ⟨b, 512, .none⟩ (.int .u32 ((r + k) % 4294967296))).ownsRow w.heap.size 5 1 (.slice p k c) k (by8 (xs.take k)) ∧ Trn b w (w1.setCell ⟨b, 512, .none⟩ (.int .u32 ((r + k) % 4294967296)))) := by
    refine ⟨?_, (Trn.ofBelow H1.out.2.1).trans (Trn.setCell _ _ _ _)⟩
    refine (Trn.setCell b 512 _ w1).own H1.out.1 (fun g hg e => ?_)
    have := own_block H1.out.1 g hg
    have := HP.out.lt
    omega
  by_cases hw : 1 ≤ n ∧ xs.length = 0 ∧ wt = true
  · obtain ⟨hn, hx0, rfl⟩ := hw
    have hk0 : k = 0 := by have := HK.out; omega
    have HH : Hid (takeHow xs true n = 2) := by unfold takeHow; rw [if_pos ⟨hn, hx0, rfl⟩]; rfl
    have hke : ((k : Int) == 0) = true := by simp [hk0]
    have K0 : Hid (k = 0) := hk0
    clear hk0 hx0
    go_wp2
    go_ret2
    obtain rfl : k = 0 := K0.out
    exact ⟨none, 0, by rw [HH.out]; rfl, World.ownsRow_nil _ _ _ _, by simp, HQ.out, HE.out.2⟩
  · have HH : Hid (takeHow xs wt n = 1) := by unfold takeHow; rw [if_neg hw]; rfl
    have fin : ∃ p' c', Ending.returned (.tuple #[.slice p k c, .int .i64 1]) = Ending.returned (.tuple #[.slice p' k c', .int .i64 (takeHow xs wt n)]) ∧ (w1.setCell ⟨b, 512, .none⟩ (.int .u32 ((r + k) % 4294967296))).ownsRow w.heap.size 5 1 (.slice p' k c') k (by8 (xs.take k)) ∧ (k = 0 → p' = none ∧ c' = 0) ∧
        Pip (w1.setCell ⟨b, 512, .none⟩ (.int .u32 ((r + k) % 4294967296))) b (xs.drop k) ((r + k) % 4294967296) rd wt ∧ Trn b w (w1.setCell ⟨b, 512, .none⟩ (.int .u32 ((r + k) % 4294967296))) := ⟨p, c, by rw [HH.out], HE.out.1, H1.out.2.2, HQ.out, HE.out.2⟩
    have FIN : Hid _ := fin
    clear fin
    by_cases hn : 1 ≤ n
    · by_cases hk0 : k = 0
      · have hwt : wt = false := by
          cases wt with
          | false => rfl
          | true => exact absurd ⟨hn, by have := HK.out; omega, rfl⟩ hw
        subst hwt
        have hke : ((k : Int) == 0) = true := by simp [hk0]
        clear hk0
        go_wp2
        go_ret2
        exact FIN.out
      · have hk1 : ¬ (k : Int) = 0 := by omega
        go_wp2
        go_ret2
        exact FIN.out
    · go_wp2
      go_ret2
      exact FIN.out
end Go.Proofs.Ytabhojfdkmeaoaa
