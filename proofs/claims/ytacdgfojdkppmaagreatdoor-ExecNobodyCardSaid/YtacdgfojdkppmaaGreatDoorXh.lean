import Derived.Test.YtacdgfojdkppmaaGreatDoorXg
namespace Go.Proofs.YtacdgfojdkppmaaGreatDoor
open Go.RowKit Go.Shelf
set_option linter.unusedVariables false
set_option linter.unusedSimpArgs false
set_option maxRecDepth 10000 in
set_option maxHeartbeats 4000000 in
theorem demand_any {W : World} {b o fn fc : Nat} {B : Nat → Int} (hL : Laid W) (hrow : Row W b o fn B) (hbW : b < W.heap.size) (hB : ∀ i, 0 ≤ B i ∧ B i < 256) (hc : fn ≤ fc ∧ fc ≤ 9223372036854775807) (ha hr : Int) (hH : Hd B ha hr)
    {p : Option Addr} {n c : Nat} {xs : List Bs} (hA : Arg W p n c xs) :
    Calls Tryz.prog 16 #[.slice (some ⟨b, o, .none⟩) fn fc, .slice p n c] W fun e w' => e = .returned (.tuple #[.int .i64 (dmN (rdF fn B ha hr).1.2 (ePg (sgO fn B ha hr)) xs), .int .i64 (dmE (rdF fn B ha hr).1.2 xs)]) ∧ Below W.heap.size W w' := by
  have cP := planOf_any hL hrow hbW hB hc ha hr hH hA
  generalize (rdF fn B ha hr).1.2 = r at cP ⊢
  generalize hSg : sgO fn B ha hr = Sg' at cP ⊢
  clear hSg
  obtain ⟨eP, hEP⟩ : ∃ eP, eP = ePg Sg' := ⟨_, rfl⟩
  rw [← hEP]
  have HEP : Hid (eP = ePg Sg') := hEP
  clear hEP
  clear hL hrow hbW hB hc hH hA
  unfold PlP at cP
  by_cases h0 : dmE r xs ≠ 0
  · have hN : dmN r eP xs = 0 := by simp [dmN, h0]
    rw [hN]
    generalize dmE r xs = d at h0 cP ⊢
    have hd : (d != 0) = true := by simpa using h0
    clear hN
    go_enter Tryz.func16, Tryz.ntmps16
    go_wp2_with (go_at_call 24; refine cP.mono ?_; rintro _ w1 ⟨b1, h1⟩; obtain rfl : _ = _ := (by rcases h1 with ⟨_, h⟩ | ⟨h, _⟩; exact h; exact absurd h h0); clear h1 cP)
    refine bodyPost_ret (v := .tuple #[.int .i64 0, .int .i64 d]) (by simp [results, Tryz.results16, go_sem]) rfl ⟨rfl, b1.alloc b1.size _⟩
  · have h0 : dmE r xs = 0 := by omega
    have hN : dmN r eP xs = eP + 6 + (eP + 513) / 512 := by simp [dmN, h0]
    rw [hN, h0]
    rw [h0] at cP
    have HN : Hid (dmE r xs = 0) := h0
    clear hN h0
    go_enter Tryz.func16, Tryz.ntmps16
    go_upto_region 2 with (go_at_call 24; refine cP.mono ?_; rintro _ w1 ⟨b1, h1⟩; rcases h1 with ⟨h, _⟩ | ⟨_, X, q, cs, E, B', et, pq, pn, pc, sp, rfl, sg, hE, hl, hp, _, _⟩; exact absurd rfl h)
    have HB : Hid (Below w1.heap.size w1 (w1.alloc (.cells #[.int .u64 et, .slice q E.length cs, .slice pq pn pc, .int .u64 sp] 75))) := (Below.refl _ _).alloc (Nat.le_refl _) _
    have c12 := demandP_any (sg.below HB.out) hE hl et sp pq pn pc
    rw [hp, ← HEP.out] at c12
    have HB1 : Hid (Below W.heap.size W w1) := b1
    clear sg hE hl hp cP b1
    go_wp2_with (go_at_call 26; refine c12.mono ?_; rintro _ w2 ⟨rfl, b2⟩)
    refine bodyPost_ret (v := .tuple #[.int .i64 (eP + 6 + (eP + 513) / 512), .int .i64 0]) (by simp [results, Tryz.results16, go_sem]) rfl ⟨rfl, HB1.out.trans ((HB.out.trans (b2.mono HB.out.size)).mono HB1.out.size)⟩
end Go.Proofs.YtacdgfojdkppmaaGreatDoor
