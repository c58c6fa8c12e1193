import Derived.Test.YtblmkkhiojbcjaaGreatYd
namespace Go.Proofs.YtblmkkhiojbcjaaGreat
open Go.RowKit
set_option linter.unusedVariables false
set_option linter.unusedSimpArgs false
section
variable {w : World} {p b m N : Nat} {B : Nat → Int} {L : List Nat}
theorem len_le (h : Ram w p b m N B L) : L.length < N := length_le N L h.mem.n1 h.nd h.lt
theorem count_ram (h : Ram w p b m N B L) : Calls Tryz.prog 30 #[.pointer (some ⟨p, 0, .none⟩)] w fun e w' => e = .returned (.int .i64 L.length) ∧ ∃ k, w' = w.drewN k := by
  have h1 := len_le h
  refine (count_any h.mem (by omega)).mono fun e w' ⟨h2, h3⟩ => ⟨?_, h3⟩
  rw [h2]
  refine congrArg Ending.returned (congrArg (Value.int .i64) ?_)
  omega
theorem below_dr (w : World) (k : Nat) : Below w.heap.size w (w.drewN k) := ⟨rfl, rfl, rfl, Nat.le_refl _, fun _ _ => rfl⟩
/-- New, refused for its frames. -/
theorem spNew_no (h : Ram w p b m N B L) (tr : Int) (ht : 0 ≤ tr ∧ tr < 18446744073709551616) (hno : ¬ (isHd N L tr ∧ isHd N L 2147483648 ∧ tr ≠ 2147483648)) :
    Calls Tryz.prog 42 #[.pointer (some ⟨p, 0, .none⟩), .int .u64 tr, .int .u64 2147483648] w fun e w' => e = .returned (.tuple #[.pointer .none, .int .i64 160]) ∧ Below w.heap.size w w' := by
  obtain ⟨ok, h1, c59⟩ := two_any h tr 2147483648 ht (by omega)
  obtain rfl : ok = false := by
    cases ok
    · rfl
    · exact absurd (h1.1 rfl) hno
  have c25 := frames_any h.mem
  have n1 := h.mem.n1
  have hN0 : ((N : Int) == 0) = false := by simp; omega
  clear h h1 hno
  go_enter Tryz.func42, Tryz.ntmps42
  go_wp2_with first | (go_at_call 64; refine c25.mono ?_; rintro _ w1 ⟨rfl, e1⟩; obtain rfl : w = w1 := e1.symm) | (go_at_call 76; refine c59.mono ?_; rintro _ w1 ⟨rfl, b1⟩)
  refine bodyPost_ret (v := .tuple #[.pointer .none, .int .i64 160]) (by simp [results, Tryz.results42, go_sem]) rfl ⟨rfl, b1⟩
set_option maxHeartbeats 1000000 in
theorem spNew_ok {i : Nat} {L1 : List Nat} (h : Ram w p b m N B (i :: L1)) (hl : 2 ≤ L1.length) (ft : Nat) (hft : 1 ≤ ft ∧ ft < N ∧ ft ∉ i :: L1) :
    Calls Tryz.prog 42 #[.pointer (some ⟨p, 0, .none⟩), .int .u64 (ad ft), .int .u64 2147483648] w fun e w' => ∃ s, e = .returned (.tuple #[.pointer (some ⟨s, 0, .none⟩), .int .i64 0]) ∧ w.heap.size ≤ s ∧ Sp w' s p (ad i) 0 ∧ ∃ B' L' F' lf', NT w w' p b m N B i L1 B' L' F' lf' := by
  have hN := h.mem.n2
  have hfb := ad_b ft N hft.2.1 hN
  obtain ⟨ok, h1, c59⟩ := two_any h (ad ft) 2147483648 (by omega) (by omega)
  obtain rfl : ok = true := h1.2 ⟨⟨ft, hft.2.1, hft.2.2, rfl⟩, ⟨0, by have := h.mem.n1; omega, fun e => by have := (h.lt 0 e).1; omega, rfl⟩, by unfold ad; omega⟩
  have c25 := frames_any h.mem
  have n1 := h.mem.n1
  have hN0 : ((N : Int) == 0) = false := by simp; omega
  have HR : Hid (Ram w p b m N B (i :: L1)) := h
  have hp : p < w.heap.size := lt_of_cell h.mem.c0
  have hb : b < w.heap.size := lt_of_cell (h.mem.cb 0 (by omega))
  have hm : m < w.heap.size := h.mem.mlt
  have hlen : ¬ (((i :: L1).length : Int) < 3) := by simp only [List.length_cons]; omega
  clear h h1
  go_enter Tryz.func42, Tryz.ntmps42
  go_upto_region 5 with first | (go_at_call 64; refine c25.mono ?_; rintro _ w1 ⟨rfl, e1⟩; obtain rfl : w = w1 := e1.symm) | (go_at_call 76; refine c59.mono ?_; rintro _ w1 ⟨rfl, b1⟩; have H1 : Hid (Below w.heap.size w w1) := b1; clear b1)
  have c10 := count_ram (HR.out.below H1.out)
  generalize hg : (i :: L1).length = g at c10 hlen
  clear hg
  go_upto_region 7 with (go_at_call 30; refine c10.mono ?_; rintro _ w2 ⟨rfl, k2, rfl⟩)
  have H2 : Hid (Below w.heap.size w (w1.drewN k2)) := H1.out.trans ((below_dr w1 k2).mono H1.out.size)
  have c60 := newTable_any (HR.out.below H2.out) hl ft hft.2.1
  go_wp2_with (go_at_call 78; refine c60.mono ?_; rintro _ w3 ⟨rfl, B', L', F', lf', T⟩)
  refine bodyPost_ret (v := .tuple #[.pointer (some ⟨w3.heap.size, 0, .none⟩), .int .i64 0]) (by simp [results, Tryz.results42, go_sem]) rfl ⟨w3.heap.size, rfl, ?_, ?_, B', L', F', lf', ?_⟩
  · exact Nat.le_trans H2.out.size T.fra.size
  · exact ⟨by simp, by simp, by simp, fun k => World.frozen?_alloc_new _ _ _ _⟩
  · exact ⟨T.ram.below ((Below.refl _ _).alloc (Nat.le_refl _) _), T.pt, T.rt, T.ids, T.own, T.lfs, T.cut, T.byt, (((Fra.below H2.out).trans T.fra)).alloc _⟩
end
end Go.Proofs.YtblmkkhiojbcjaaGreat
