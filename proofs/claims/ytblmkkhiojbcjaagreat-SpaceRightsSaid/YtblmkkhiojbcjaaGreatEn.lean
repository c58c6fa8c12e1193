import Derived.Test.YtblmkkhiojbcjaaGreatEm
import Derived.Test.YtblmkkhiojbcjaaGreatNew
namespace Go.Proofs.YtblmkkhiojbcjaaGreat
open Go Go.RowKit
set_option linter.unusedVariables false
set_option linter.unusedSimpArgs false
/-- What made(60) comes to. -/
def MdP (w : World) (e : Ending) (w' : World) : Prop := ∃ s p b m r B L F lf, e = .returned (.tuple #[.pointer (some ⟨p, 0, .none⟩), .pointer (some ⟨s, 0, .none⟩), .int .u64 (ad 59)]) ∧ w.heap.size ≤ s ∧ w.heap.size ≤ p ∧ w.heap.size ≤ b ∧ w.heap.size ≤ m ∧
  SpG w' s p b m 60 r 0 55 B L F lf (fun _ => 0) (fun _ => 0) ∧ Below w.heap.size w w'
section
variable {w : World}
set_option maxHeartbeats 1000000 in
theorem made_60 (w : World) : Calls Tryz.prog 8 #[.int .i64 60] w (MdP w) := by
  have c41 := new_any 60 (by omega) (by omega) w
  go_enter Tryz.func8, Tryz.ntmps8
  go_wp2_with (go_at_call 41; refine c41.mono ?_; rintro e1 w1 ⟨p, b, m, hp, hb, hm, rfl, R1, b1⟩; have H1 : Hid (Ram w1 p b m 60 (newB (60 - 1)) (down (60 - 1)) ∧ Below w.heap.size w w1) := ⟨R1, b1⟩; clear R1 b1)
  have hd : down (60 - 1) = 59 :: 58 :: down 57 := rfl
  have R1 := H1.out.1
  rw [hd] at R1
  have c39 := alloc_some 59 R1
  refine c39.mono ?_
  rintro e2 w2 ⟨rfl, R2, f2⟩
  have c42 := spNew_ok R2 (by rw [down_len]; omega) 59 ⟨by omega, by omega, fun e => (List.mem_cons.1 e).elim (fun e => by omega) (fun e => by have := (down_mem _ _).1 e; omega)⟩
  have H2 : Hid (Ram w2 p b m 60 (zer (newB (60 - 1)) 59) (58 :: down 57) ∧ Fra p b m w1 w2) := ⟨R2, f2⟩
  clear R1 R2 f2 hd c39 c41
  have ea : (2147483648 + (59 : Nat) * 4096 : Int) = ad 59 := rfl
  go_wp2_with (go_at_call 42; refine c42.mono ?_; rintro e3 w3 ⟨s, rfl, hs, hsp, B', L', F', lf', T⟩; have H3 : Hid (Sp w3 s p (ad 58) 0 ∧ NT w2 w3 p b m 60 (zer (newB (60 - 1)) 59) 58 (down 57) B' L' F' lf') := ⟨hsp, T⟩; clear hsp T)
  refine bodyPost_ret (v := .tuple #[.pointer (some ⟨p, 0, .none⟩), .pointer (some ⟨s, 0, .none⟩), .int .u64 (ad 59)]) (by simp [results, Tryz.results8, go_sem, ad]) rfl ?_
  obtain ⟨R1, b1⟩ := H1.out
  obtain ⟨R2, f2⟩ := H2.out
  obtain ⟨hsp, T⟩ := H3.out
  have hpl := R2.mem.plt
  have hbl := R2.mem.blt
  have hml := R2.mem.mlt
  have z1 := b1.size
  have z2 := f2.size
  have hF1 : F' 1 = none := by
    cases hF : F' 1 with
    | none => rfl
    | some f =>
      rcases T.ids 1 f hF with e | e | e
      · omega
      · exact absurd e (by decide)
      · exact absurd e (by decide)
  refine ⟨s, p, b, m, 58, B', L', F', lf', rfl, by omega, hp, hb, hm, ⟨⟨hsp, by decide, by omega, T.ram, T.pt, T.rt, ⟨by omega, by omega, by omega⟩, fun i hi => by omega⟩, fun k _ _ => T.lfs 513 k (by decide), fun _ => hF1, ?_, fun i j hi => by omega⟩, ?_⟩
  · have := congrArg List.length T.cut
    rw [List.length_append, List.length_take, down_len] at this
    rw [if_pos rfl]
    omega
  · exact b1.trans ((f2.trans T.fra).toBelow z1 hp hb hm)
end
end Go.Proofs.YtblmkkhiojbcjaaGreat
