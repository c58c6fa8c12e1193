import Derived.Test.YtjbealefopajcaaDoorSq
import Derived.Lib.Builder
import Derived.Lib.AppendStr
namespace Go.Proofs.YtjbealefopajcaaDoor
open Go Go.RowKit Rg
set_option linter.unusedVariables false
set_option linter.unusedSimpArgs false
/-! Bytes as one word of digits. -/
theorem flat_len2 : ∀ (ds : List Int), (ds.flatMap hexD).length = 2 * ds.length
  | [] => by simp
  | x :: ds => by
    have := flat_len2 ds
    rw [List.flatMap_cons, List.length_append, List.length_cons, this]
    show 2 + _ = _
    omega
theorem take_hex {ds : List Int} {i : Nat} {x : Int} (h : ds[i]? = some x) : (ds.take i).flatMap hexD ++ hexD x = (ds.take (i + 1)).flatMap hexD := by
  rw [List.take_add_one, h, List.flatMap_append]
  simp
set_option maxHeartbeats 2000000 in
theorem hexWord_any {w : World} {X : Nat} {v : Value} {ds : List Int} (h : Bt w X v ds) (hX : X ≤ w.heap.size) (hbd : ∀ x ∈ ds, 0 ≤ x ∧ x < 256) (h0 : 0 < ds.length) (h1 : ds.length ≤ 10000000000) : Calls Tryd.prog 42 #[v] w fun e w' => e = .returned (.string (toB (ds.flatMap hexD))) ∧ Below w.heap.size w w' := by
  obtain ⟨p, c, rfl⟩ := h.form
  obtain ⟨base, hbase⟩ : ∃ base, base = w.heap.size := ⟨_, rfl⟩
  rw [← hbase]
  obtain ⟨n, hn⟩ : ∃ n, n = ds.length := ⟨_, rfl⟩
  rw [← hn] at h h0 h1 ⊢
  have H : Hid (Bt w X (.slice p n c) ds ∧ X ≤ base ∧ base = w.heap.size ∧ n = ds.length ∧ 0 < n ∧ n ≤ 10000000000 ∧ ∀ x ∈ ds, 0 ≤ x ∧ x < 256) := ⟨h, by omega, hbase, hn, h0, h1, hbd⟩
  clear h h0 h1 hbd hX hn hbase
  go_enter Tryd.func42, Tryd.ntmps42
  go_wp2_with fail
  go_loopw [3, 8] (fun v k wr => ∃ i : Nat, i ≤ n ∧ k = .int .i64 i ∧ ∃ q m cq, v = .slice q m cq ∧ Hid (wr.ownsRow base 5 1 (.slice q m cq) m (by8 ((ds.take i).flatMap hexD)) ∧ ((ds.take i).flatMap hexD).length = m ∧ Below base w wr)) (fun _ k _ => (n - intOf k).toNat)
  case atStart => exact ⟨0, by omega, rfl, _, _, _, rfl, World.ownsRow_nil _ _ _ _, rfl, Below.refl _ _⟩
  case round =>
    obtain ⟨i, hi, rfl, q, m, cq, rfl, HO⟩ := hrel
    have hm : m = 2 * i := by
      have h1 := HO.out.2.1
      rw [flat_len2, List.length_take_of_le (by have := H.out.2.2.2.1; omega)] at h1
      omega
    have HM : Hid (m = 2 * i) := hm
    clear hm
    have w1 : IntKind.i64.wrap ((i : Int) + 1) = (i : Int) + 1 := by rw [IntKind.wrap_i64]; have := H.out.2.2.2.2.2.1; omega
    by_cases hlt : i < n
    · have g0 : (i : Int) < n := by omega
      obtain ⟨-, b, o, x, cs, rfl, hbX, hx, rfl, hcl, hr⟩ := H.out.1.at hlt
      have hbb : b < base := by have := H.out.2.1; omega
      have q0 := (HO.out.2.2.cell (p := ⟨b, o + i * 1 + 0, .none⟩) hbb).trans (hr 0 _ rfl)
      rw [Nat.add_zero, Nat.mul_one] at q0
      have c48 := digits_any (base := base) (Nat.le_trans (by rw [H.out.2.2.1]; exact Nat.le_refl _) HO.out.2.2.size) HO.out.1 HO.out.2.1 (by have := HM.out; have := H.out.2.2.2.2.2.1; omega) x (H.out.2.2.2.2.2.2 x (List.mem_of_getElem? hx))
      have HT : Hid ((ds.take i).flatMap hexD ++ hexD x = (ds.take (i + 1)).flatMap hexD) := take_hex hx
      rw [HT.out] at c48
      clear hr hcl hx hbX
      go_wp2_with (go_at_call 48; refine c48.mono ?_; rintro _ w9 ⟨p5, c5, rfl, o5, b5⟩; have O5 : Hid (w9.ownsRow base 5 1 (.slice p5 ((ds.take (i + 1)).flatMap hexD).length c5) ((ds.take (i + 1)).flatMap hexD).length (by8 ((ds.take (i + 1)).flatMap hexD)) ∧ Below base wr w9) := ⟨o5, b5⟩; clear o5 b5; generalize hL : ((ds.take (i + 1)).flatMap hexD).length = L at *; have HL : Hid (((ds.take (i + 1)).flatMap hexD).length = L) := hL; clear hL)
      exact ⟨⟨i + 1, by omega, by go_num, _, _, _, rfl, O5.out.1, HL.out, HO.out.2.2.trans O5.out.2⟩, by simp only [intOf]; omega⟩
    · have g0 : ¬ (i : Int) < n := by omega
      obtain rfl : i = n := by omega
      have ho := HO.out.1
      have hl := HO.out.2.1
      rw [List.take_of_length_le (by have := H.out.2.2.2.1; omega)] at ho hl
      have hcv := conv_own ho hl (by have := HM.out; have := H.out.2.2.2.2.1; omega)
      clear ho hl w1
      go_wp2
      go_ret
      exact ⟨rfl, HO.out.2.2⟩
end Go.Proofs.YtjbealefopajcaaDoor
namespace Go.Proofs.YtjbealefopajcaaDoor
open Go Go.RowKit Rg
set_option linter.unusedVariables false
set_option linter.unusedSimpArgs false
/-! A text that is being written: a builder that is a field. -/
theorem info69 : (Tryd.prog.info? 69).map (·.size) = some 2 := by kernel_rfl
theorem lies69 : liesAt Tryd.prog Tryd.prog.depth 71 (2 / Tryd.prog.cellsOf 71) 0 69 1 = true := by kernel_rfl
set_option maxRecDepth 100000 in
set_option maxHeartbeats 1000000 in
theorem check_used (b : Nat) (w : World) (h0 : w.cell? ⟨b, 0, .none⟩ = some (.pointer (some ⟨b, 0, .none⟩))) : Calls Tryd.prog 44 #[.pointer (some ⟨b, 0, .none⟩)] w fun e w' => e = .returned (.tuple #[]) ∧ w' = w := by
  obtain ⟨j, hj, _⟩ := Option.map_eq_some_iff.1 info69
  go_enter Tryd.func44, Tryd.ntmps44
  go_wp2
  rw [Lib.run_neq_ptr_same w _ Tryd.underlying67 hj]
  go_wp2
  go_end0
  exact ⟨rfl, rfl⟩
set_option maxRecDepth 100000 in
set_option maxHeartbeats 1000000 in
theorem check_fresh (b : Nat) (w : World) (h0 : w.cell? ⟨b, 0, .none⟩ = some (.pointer .none)) (hsh : w.shape? b = some (71, 2)) (hfz : w.frozen? ⟨b, 0, .none⟩ = false) :
    Calls Tryd.prog 44 #[.pointer (some ⟨b, 0, .none⟩)] w fun e w' => e = .returned (.tuple #[]) ∧ w' = w.setCell ⟨b, 0, .none⟩ (.pointer (some ⟨b, 0, .none⟩)) := by
  obtain ⟨j, hj, hjs⟩ := Option.map_eq_some_iff.1 info69
  go_enter Tryd.func44, Tryd.ntmps44
  go_wp2
  rw [Lib.run_to_unsafe w ⟨b, 0, .none⟩ Tryd.underlying67 Tryd.underlying97 hj (by rw [hjs]; decide) hsh (Nat.zero_lt_succ 1)]
  simp only [Result.andThen]
  rw [Oper.upon_value]
  go_wp2
  rw [run_callFunc_extern Tryd.func51 (by kernel_rfl) (by kernel_rfl) (by kernel_rfl) (e := Extern.AbiNoEscape.same) (by kernel_rfl)]
  rw [Lib.run_noEscape]
  simp only [Result.andThen]
  rw [Oper.upon_value]
  go_wp2
  rw [Lib.run_from_unsafe w ⟨b, 0, .none⟩ Tryd.underlying97 Tryd.underlying67 hj hsh lies69]
  simp only [Result.andThen]
  rw [Oper.upon_value]
  go_wp2
  go_end0
  exact ⟨rfl, rfl⟩
end Go.Proofs.YtjbealefopajcaaDoor
namespace Go.Proofs.YtjbealefopajcaaDoor
open Go Go.RowKit Rg
set_option linter.unusedVariables false
set_option linter.unusedSimpArgs false
/-! A text that is being written: what its writer holds, what stands beside. -/
def Fr5 (o : Obj) : Prop := ∃ cur fz, o = .cells cur 5 fz
/-- All but the writer's block and the rows of bytes from base on. -/
structure KW (base b : Nat) (w w' : World) : Prop where
  os : w'.os = w.os
  tape : w'.tape = w.tape
  output : w'.output = w.output
  size : w.heap.size ≤ w'.heap.size
  block : ∀ k o, w.heap[k]? = some o → k ≠ b → (k < base ∨ ¬ Fr5 o) → w'.heap[k]? = some o
theorem KW.refl (base b : Nat) (w : World) : KW base b w w := ⟨rfl, rfl, rfl, Nat.le_refl _, fun _ _ h _ _ => h⟩
theorem KW.trans {base b : Nat} {u v w : World} (h : KW base b u v) (k : KW base b v w) : KW base b u w := ⟨k.os.trans h.os, k.tape.trans h.tape, k.output.trans h.output, Nat.le_trans h.size k.size, fun i o h1 h2 h3 => k.block i o (h.block i o h1 h2 h3) h2 h3⟩
theorem hp_lt {w : World} {k : Nat} {o : Obj} (h : w.heap[k]? = some o) : k < w.heap.size := (Array.getElem?_eq_some_iff.1 h).1
theorem KW.of {base b : Nat} {w w' : World} (h : Below w.heap.size w w') : KW base b w w' := ⟨h.os, h.tape, h.output, h.size, fun k o h1 _ _ => (h.block k (hp_lt h1)).trans h1⟩
theorem KW.drew {base b : Nat} {w w' : World} (h : KW base b w w') : KW base b w w'.drew := h.trans (KW.of (Below.refl _ _).drew)
theorem KW.below {base b : Nat} {w w' : World} (h : KW base b w w') (hb : base ≤ b) {B : Nat} (hB : B ≤ base) (hw : B ≤ w.heap.size) : Below B w w' := ⟨h.os, h.tape, h.output, h.size, fun k hk => by
  have hlt : k < w.heap.size := by omega
  have e := Array.getElem?_eq_getElem hlt
  rw [e]
  exact h.block k _ e (by omega) (.inl (by omega))⟩
/-- A writer that holds the bytes ys. -/
def Wr (w : World) (base b : Nat) (ys : List Int) : Prop := base ≤ b ∧ ∃ p v, (p = .pointer .none ∨ p = .pointer (some ⟨b, 0, .none⟩)) ∧ w.heap[b]? = some (.cells #[p, v] 71 (0, 0)) ∧ w.ownsRow base 5 1 v ys.length (by8 ys)
theorem own_kind {w : World} {base n : Nat} {v : Value} {xs : List Value} (h : w.ownsRow base 5 1 v n xs) {g : Nat} (hg : v.ownBlock = some g) : base ≤ g ∧ ∃ o, w.heap[g]? = some o ∧ Fr5 o := by
  rcases h.2 with ⟨rfl, _⟩ | ⟨g', cap, cur, rfl, h1, h2, _⟩
  · cases hg
  · cases hg
    exact ⟨h1, _, h2, _, _, rfl⟩
theorem own_not {w : World} {base n b : Nat} {v : Value} {xs : List Value} {cs : Array Value} (h : w.ownsRow base 5 1 v n xs) (hb : w.heap[b]? = some (.cells cs 71 (0, 0))) : v.ownBlock ≠ some b := by
  intro e
  obtain ⟨_, o, ho, cur, fz, rfl⟩ := own_kind h e
  rw [hb] at ho
  cases ho
theorem own_keep_at {w w' : World} {base n : Nat} {v : Value} {xs : List Value} (h : w.ownsRow base 5 1 v n xs) (hk : ∀ g, v.ownBlock = some g → w'.heap[g]? = w.heap[g]?) : w'.ownsRow base 5 1 v n xs := by
  refine ⟨h.1, ?_⟩
  rcases h.2 with h2 | ⟨g, cap, cur, hv, hb, hg, r⟩
  · exact .inl h2
  · exact .inr ⟨g, cap, cur, hv, hb, (hk g (by rw [hv]; rfl)).trans hg, r⟩
/-- Others' rows may grow: the writer stands. -/
theorem Wr.keep {w w' : World} {base b : Nat} {ys : List Int} (h : Wr w base b ys) (hb : Below w.heap.size w w') : Wr w' base b ys := by
  obtain ⟨h1, p, v, h2, h3, h4⟩ := h
  exact ⟨h1, p, v, h2, (hb.block b (hp_lt h3)).trans h3, own_bel h4 hb (fun g hg => (h4.lt g hg).2)⟩
theorem Wr.len {w : World} {base b : Nat} {ys : List Int} (h : Wr w base b ys) : b < w.heap.size := by
  obtain ⟨h1, p, v, h2, h3, h4⟩ := h
  exact hp_lt h3
theorem kw_grow {base b : Nat} {w w' : World} {v : Value} {n : Nat} {xs : List Value} (h : w.ownsRow base 5 1 v n xs) (hg : w.grownBy w' v.ownBlock) : KW base b w w' := ⟨hg.os, hg.tape, hg.output, hg.size, fun k o h1 _ h3 => by
  refine (hg.block k (hp_lt h1) (fun e => ?_)).trans h1
  obtain ⟨h4, o', ho, hf⟩ := own_kind h e.symm
  rw [h1] at ho
  cases ho
  rcases h3 with h3 | h3
  · omega
  · exact h3 hf⟩
theorem kw_set {base b : Nat} {w : World} (j : Nat) (u : Value) : KW base b w (w.setCell ⟨b, j, .none⟩ u) := ⟨rfl, rfl, rfl, by simp [World.setCell], fun k o h1 h2 _ => (Below.heap_setCell _ _ _ _ h2).trans h1⟩
theorem byte_info2 : ∃ i, Tryd.prog.info? 5 = some i ∧ i.zero = some (.int .u8 0) ∧ i.size = 1 ∧ i.bytes = 1 := by
  have h : (Tryd.prog.info? 5).map (fun i => (i.zero, i.size, i.bytes)) = some (some (.int .u8 0), 1, 1) := by kernel_rfl
  obtain ⟨i, h1, h2⟩ := Option.map_eq_some_iff.1 h
  injection h2 with h3 h4
  injection h4 with h5 h6
  exact ⟨i, h1, h3, h5, h6⟩
theorem check_any {w : World} {base b : Nat} {ys : List Int} (h : Wr w base b ys) : Calls Tryd.prog 44 #[.pointer (some ⟨b, 0, .none⟩)] w fun e w' => e = .returned (.tuple #[]) ∧ KW base b w w' ∧ ∃ v, w'.heap[b]? = some (.cells #[.pointer (some ⟨b, 0, .none⟩), v] 71 (0, 0)) ∧ w'.ownsRow base 5 1 v ys.length (by8 ys) := by
  obtain ⟨h1, p, v, h2, h3, h4⟩ := h
  rcases h2 with rfl | rfl
  · refine (check_fresh b w (cell_heap h3) (by simp [World.shape?, h3]) (frozen_heap h3)).mono ?_
    rintro e w' ⟨rfl, rfl⟩
    refine ⟨rfl, kw_set _ _, v, setCell_heap w b 0 _ h3, ?_⟩
    refine own_keep_at h4 (fun g hg => Below.heap_setCell _ _ _ _ (fun e => own_not h4 h3 (by rw [hg, e])))
  · refine (check_used b w (cell_heap h3)).mono ?_
    rintro e w' ⟨rfl, rfl⟩
    exact ⟨rfl, KW.refl _ _ _, v, h3, h4⟩
end Go.Proofs.YtjbealefopajcaaDoor
