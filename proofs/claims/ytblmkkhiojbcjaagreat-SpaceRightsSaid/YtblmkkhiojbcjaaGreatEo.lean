import Derived.Test.YtblmkkhiojbcjaaGreatEm
import Derived.Test.YtblmkkhiojbcjaaGreatReach
namespace Go.Proofs.YtblmkkhiojbcjaaGreat
open Go Go.RowKit
set_option linter.unusedVariables false
set_option linter.unusedSimpArgs false
/-- What made(60) comes to. -/
def MdP (w : World) (e : Ending) (w' : World) : Prop := ∃ s p b m r B L F lf, e = .returned (.tuple #[.pointer (some ⟨p, 0, .none⟩), .pointer (some ⟨s, 0, .none⟩), .int .u64 (ad 59)]) ∧ w.heap.size ≤ s ∧ w.heap.size ≤ p ∧ w.heap.size ≤ b ∧ w.heap.size ≤ m ∧
  SpG w' s p b m 60 r 0 55 B L F lf (fun _ => 0) (fun _ => 0) ∧ Below w.heap.size w w'
section
variable {w : World}
set_option maxHeartbeats 1000000 in
theorem made_60 (w : World) : Calls Tryz.prog 8 #[.int .i64 60] w (MdP w) := by
  have c41 := new_any 60 (by omega) (by omega) w
  go_enter Tryz.func8, Tryz.ntmps8
  go_wp2_with (go_at_call 41; refine c41.mono ?_; rintro e1 w1 ⟨p, b, m, hp, hb, hm, rfl, R1, b1⟩; have H1 : Hid (Ram w1 p b m 60 (newB (60 - 1)) (down (60 - 1)) ∧ Below w.heap.size w w1) := ⟨R1, b1⟩; clear R1 b1)
  have hd : down (60 - 1) = 59 :: 58 :: down 57 := rfl
  have R1 := H1.out.1
  rw [hd] at R1
  have c39 := alloc_some 59 R1
  refine c39.mono ?_
  rintro e2 w2 ⟨rfl, R2, f2⟩
  have c42 := spNew_ok R2 (by rw [down_len]; omega) 59 ⟨by omega, by omega, fun e => (List.mem_cons.1 e).elim (fun e => by omega) (fun e => by have := (down_mem _ _).1 e; omega)⟩
  have H2 : Hid (Ram w2 p b m 60 (zer (newB (60 - 1)) 59) (58 :: down 57) ∧ Fra p b m w1 w2) := ⟨R2, f2⟩
  clear R1 R2 f2 hd c39 c41
  have ea : (2147483648 + (59 : Nat) * 4096 : Int) = ad 59 := rfl
  go_wp2_with (go_at_call 42; refine c42.mono ?_; rintro e3 w3 ⟨s, rfl, hs, hsp, B', L', F', lf', T⟩; have H3 : Hid (Sp w3 s p (ad 58) 0 ∧ NT w2 w3 p b m 60 (zer (newB (60 - 1)) 59) 58 (down 57) B' L' F' lf') := ⟨hsp, T⟩; clear hsp T)
  refine bodyPost_ret (v := .tuple #[.pointer (some ⟨p, 0, .none⟩), .pointer (some ⟨s, 0, .none⟩), .int .u64 (ad 59)]) (by simp [results, Tryz.results8, go_sem, ad]) rfl ?_
  obtain ⟨R1, b1⟩ := H1.out
  obtain ⟨R2, f2⟩ := H2.out
  obtain ⟨hsp, T⟩ := H3.out
  have hpl := R2.mem.plt
  have hbl := R2.mem.blt
  have hml := R2.mem.mlt
  have z1 := b1.size
  have z2 := f2.size
  have hF1 : F' 1 = none := by
    cases hF : F' 1 with
    | none => rfl
    | some f =>
      rcases T.ids 1 f hF with e | e | e
      · omega
      · exact absurd e (by decide)
      · exact absurd e (by decide)
  refine ⟨s, p, b, m, 58, B', L', F', lf', rfl, by omega, hp, hb, hm, ⟨⟨hsp, by decide, by omega, T.ram, T.pt, T.rt, ⟨by omega, by omega, by omega⟩, fun i hi => by omega⟩, fun k _ _ => T.lfs 513 k (by decide), fun _ => hF1, ?_, fun i j hi => by omega⟩, ?_⟩
  · have := congrArg List.length T.cut
    rw [List.length_append, List.length_take, down_len] at this
    rw [if_pos rfl]
    omega
  · exact b1.trans ((f2.trans T.fra).toBelow z1 hp hb hm)
end
end Go.Proofs.YtblmkkhiojbcjaaGreat
namespace Go.Proofs.YtblmkkhiojbcjaaGreat
open Go Go.RowKit
set_option linter.unusedVariables false
set_option linter.unusedSimpArgs false
section
variable {w : World} {s p b m N r P K : Nat} {B : Nat → Int} {L : List Nat} {F : Nat → Option Nat} {lf : Nat → Nat → Int} {fr : Nat → Nat} {c : Nat → Int}
theorem mayS_no (c : Int) (h : c = 0 ∨ c = 4 ∨ c = 12) (w : World) : Calls Tryz.prog 44 #[.int .u64 c] w fun e w' => e = .returned (.bool false) ∧ w' = w := by
  rcases h with rfl | rfl | rfl
  all_goals
    go_enter Tryz.func44, Tryz.ntmps44
    go_wp2
    go_ret
    exact ⟨rfl, rfl⟩
theorem grow_no {root size : Int} (h : Sp w s p root size) (t : Int) (ht : size ≤ t ∧ t ≤ 274877894656) (x : Int) (hx : x = 0 ∨ x = 4 ∨ x = 12) : Calls Tryz.prog 9 #[.pointer (some ⟨s, 0, .none⟩), .int .u64 t, .int .u64 x] w fun e w' => e = .returned (.int .i64 162) ∧ w' = w := by
  have c43 := made_sp h
  have c44 := mayS_no x hx w
  have k2 := h.c2
  have h1 : ¬ t < size := by omega
  have h2 : ¬ 274877894656 < t := by omega
  clear h hx
  go_enter Tryz.func9, Tryz.ntmps9
  go_wp2_with first | (go_at_call 43; refine c43.mono ?_; rintro _ w1 ⟨rfl, e1⟩; obtain rfl : w = w1 := e1.symm) | (go_at_call 44; refine c44.mono ?_; rintro _ w1 ⟨rfl, e1⟩; obtain rfl : w = w1 := e1.symm)
  go_ret
  exact ⟨rfl, rfl⟩
theorem and14 (x : Int) (h : 0 ≤ x ∧ x < 18446744073709551616) : rgt (bits .and .u64 x 14) ∨ bits .and .u64 x 14 = 0 ∨ bits .and .u64 x 14 = 4 ∨ bits .and .u64 x 14 = 12 := by
  have h1 : bits .and .u64 x ((14 : Nat) : Int) = (((x % 1024).toNat &&& 14 : Nat) : Int) := and_low x h 14 (by omega)
  have h2 : bits .and .u64 x 14 = (((x % 1024).toNat &&& 14 : Nat) : Int) := h1
  rw [h2]
  have h3 : (x % 1024).toNat &&& 14 = ((x % 1024).toNat % 16) &&& 14 := by
    have e1 := Nat.and_two_pow_sub_one_eq_mod (x % 1024).toNat 4
    rw [show (16 : Nat) = 2 ^ 4 by decide, ← e1, Nat.and_assoc]
    rfl
  rw [h3]
  have h4 : (x % 1024).toNat % 16 < 16 := by omega
  generalize (x % 1024).toNat % 16 = q at *
  unfold rgt
  have : q = 0 ∨ q = 1 ∨ q = 2 ∨ q = 3 ∨ q = 4 ∨ q = 5 ∨ q = 6 ∨ q = 7 ∨ q = 8 ∨ q = 9 ∨ q = 10 ∨ q = 11 ∨ q = 12 ∨ q = 13 ∨ q = 14 ∨ q = 15 := by omega
  rcases this with rfl | rfl | rfl | rfl | rfl | rfl | rfl | rfl | rfl | rfl | rfl | rfl | rfl | rfl | rfl | rfl <;> decide
end
end Go.Proofs.YtblmkkhiojbcjaaGreat
