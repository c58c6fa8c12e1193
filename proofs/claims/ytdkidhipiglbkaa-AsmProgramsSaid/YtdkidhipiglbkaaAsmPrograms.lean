import Derived.Test.YtdkidhipiglbkaaPrH
import Derived.ProofKit
import Derived.OpenShut
import Derived.ShutString
import Derived.ChangeOld
import Derived.LoopTactic
import Derived.SizedLaws
import Derived.Carry
namespace Go.Proofs.Ytdkidhipiglbkaa
open Go.ChangeShapes Go.WideShapes Go.ChangeAt Go.RowKit
set_option linter.unusedVariables false
set_option maxHeartbeats 2000000 in
set_option maxRecDepth 100000 in
theorem progs_long (J : Im) (w : World) (s : 300000 < J.n1 + J.n2) (m1 : J.n1 ≤ maxLen) (m2 : J.n2 ≤ maxLen) (b1 : J.n1 ≤ 281474976710656) (b2 : J.n2 ≤ 281474976710656) :
    Calls Try.prog 3 #[.agg #[.slice J.p1 J.n1 J.c1, .slice J.p2 J.n2 J.c2, .int .u64 J.da, .int .u64 J.ba, .int .u64 J.bs, .int .u64 J.en, .slice J.p3 J.n3 J.c3]] w fun e w' => e = .returned (.bool true) ∧ Below w.heap.size w w' := by
  have g1 : (300000 : Int) < (J.n1 : Int) + (J.n2 : Int) := by omega
  have g2 : IntKind.i64.wrap ((J.n1 : Int) + (J.n2 : Int)) = (J.n1 : Int) + (J.n2 : Int) := by rw [IntKind.wrap_i64]; omega
  clear s m1 m2
  go_enter Try.func3, Try.ntmps3
  go_wp2
  go_ret
  exact ⟨rfl, (Below.refl _ _).alloc (Nat.le_refl _) _⟩
theorem list7 {l : List Value} (h : l.length = 7) : ∃ a b c d e f g, l = [a, b, c, d, e, f, g] := by
  match l, h with
  | [a, b, c, d, e, f, g], _ => exact ⟨a, b, c, d, e, f, g, rfl⟩
theorem cells5 : Try.prog.cellsOf 5 = 1 := by kernel_rfl
theorem cells22 : Try.prog.cellsOf 22 = 1 := by kernel_rfl
theorem cells23 : Try.prog.cellsOf 23 = 1 := by kernel_rfl
theorem cells24 : Try.prog.cellsOf 24 = 1 := by kernel_rfl
theorem open_byt {H : Type} {enc : TypeId × Value → H} {w : World} {base : Nat} {held : Bool} {fuel : Nat} {v : Value} {x : DataW H × List MemPlace}
    (h : DataW.trod enc Try.prog w base (fun _ => true) held fuel 22 [v] = some x) : ∃ p n c xs, v = .slice p n c ∧ Byt w p n c xs ∧ (n = 0 ∨ ∃ es sp, x.1 = .slice es sp ∧ es.length = n) := by
  rcases open_ints Try.underlying22 Try.underlying5 cells5 h with ⟨hcs, hx⟩ | ⟨a, len, cap, zs, hcs, _, hlc, hmax, hlen, hx, hcell, hwf⟩
  · simp only [List.cons.injEq, and_true] at hcs
    exact ⟨none, 0, 0, [], hcs, ⟨rfl, Nat.le_refl _, by decide, .inl rfl⟩, .inl rfl⟩
  · simp only [List.cons.injEq, and_true] at hcs
    have hz : zs.length = cap := by simpa using hlen
    refine ⟨some a, len, cap, zs.take len, hcs, ⟨by simp; omega, hlc, hmax, ?_⟩, .inr ⟨_, _, congrArg Prod.fst hx, by simp [lits]; omega⟩⟩
    by_cases h0 : len = 0
    · exact .inl h0
    · have hc0 := hcell 0 (by omega)
      obtain ⟨b, off, spot⟩ := a
      have hspot : spot = none := by simpa [Addr.add] using World.cell?_spot hc0
      subst hspot
      refine .inr ⟨b, off, rfl, ?_, fun i y hy => ?_⟩
      · rw [addr_add] at hc0
        exact lt_of_cell hc0
      · have hi : i < len := by have := (List.getElem?_eq_some_iff.1 hy).1; simp at this; omega
        have := hcell i (by omega)
        rw [addr_add] at this
        rw [this]
        rw [List.getElem?_take, if_pos hi] at hy
        rw [List.getD_eq_getElem?_getD, hy]
        rfl
theorem open_image {H : Type} {enc : TypeId × Value → H} {w : World} {base base' : Nat} {held : Bool} {r : Reach} {v : Value} {d : DataW H} {p : List MemPlace}
    (hv : Value.okWide Try.prog w r base' 26 v) (h : DataW.Trod enc Try.prog w base (fun _ => true) held 26 v d p) :
    ∃ (J : Im) (xs ys : List Int), v = .agg #[.slice J.p1 J.n1 J.c1, .slice J.p2 J.n2 J.c2, .int .u64 J.da, .int .u64 J.ba, .int .u64 J.bs, .int .u64 J.en, .slice J.p3 J.n3 J.c3] ∧ Byt w J.p1 J.n1 J.c1 xs ∧ Byt w J.p2 J.n2 J.c2 ys ∧ ((DataW.weightsEach Try.prog [26] [d]).all (· ≤ reachBytes) = true → J.n1 ≤ reachBytes ∧ J.n2 ≤ reachBytes) := by
  obtain ⟨cs, rfl, hsz⟩ := okWide_struct Try.underlying26 hv
  have hsz7 : cs.toList.length = 7 := by
    have : cs.size = 7 := hsz.trans (by kernel_rfl)
    simpa using this
  obtain ⟨c0, c1, c2, c3, c4, c5, c6, hcs⟩ := list7 hsz7
  obtain ⟨fuel, hf⟩ := h
  obtain ⟨xs, n, _, hx, hl, hlen, hf⟩ := DataW.trod_struct Try.underlying26 hf
  simp only [Value.cells, hcs] at hf
  have g0 := hf 0 _ rfl
  have g1 := hf 1 _ rfl
  have g2 := hf 2 _ rfl
  have g3 := hf 3 _ rfl
  have g4 := hf 4 _ rfl
  have g5 := hf 5 _ rfl
  have g6 := hf 6 _ rfl
  simp [cells22, cells23, cells24] at g0 g1 g2 g3 g4 g5 g6
  have hl7 : xs.length = 7 := hlen
  rw [List.getElem?_eq_getElem (by omega)] at g0 g1 g2 g3 g4 g5 g6
  obtain ⟨p1, n1, d1, y1, e0, b0, w0⟩ := open_byt g0
  obtain ⟨p2, n2, d2, y2, e1, b1, w1⟩ := open_byt g1
  obtain ⟨a2, e2, _⟩ := DataW.trod_int Try.underlying23 g2
  obtain ⟨a3, e3, _⟩ := DataW.trod_int Try.underlying23 g3
  obtain ⟨a4, e4, _⟩ := DataW.trod_int Try.underlying23 g4
  obtain ⟨a5, e5, _⟩ := DataW.trod_int Try.underlying23 g5
  have e6 : ∃ q k d, c6 = .slice q k d := by
    rcases DataW.trod_slice Try.underlying24 g6 with ⟨h0, _⟩ | ⟨a, len, cap, elems, rest, n, _, h0, _⟩
    · simp only [List.cons.injEq, and_true] at h0
      exact ⟨_, _, _, h0⟩
    · simp only [List.cons.injEq, and_true] at h0
      exact ⟨_, _, _, h0⟩
  obtain ⟨q, k, d3, e6⟩ := e6
  simp only [List.cons.injEq, and_true] at e2 e3 e4 e5
  subst e0 e1 e2 e3 e4 e5 e6
  refine ⟨⟨p1, n1, d1, p2, n2, d2, a2, a3, a4, a5, q, k, d3⟩, y1, y2, ?_, b0, b1, fun hz => ?_⟩
  · congr 1
    rw [← Array.toArray_toList (xs := cs), hcs]
  · have hd : d = .agg (xs.map (·.1)) := congrArg Prod.fst hx
    have key : ∀ j (hj : j < xs.length), ([22, 22, 23, 23, 23, 23, 24] : List TypeId)[j]? = some 22 → ∀ es sp, xs[j].1 = .slice es sp → es.length ≤ reachBytes := by
      intro j hj ht es sp he
      have hm := DataW.weights_mem_each (P := Try.prog) (ts := [22, 22, 23, 23, 23, 23, 24]) (ds := xs.map (·.1)) (j := j) ht (d := .slice es sp) (by simp [hj, he]) ((es.length + sp.length) * Try.prog.bytesOf 5) (by simp [DataW.weights, Try.underlying22])
      have := List.all_eq_true.1 hz _ (DataW.weights_mem_each (P := Try.prog) (ts := [26]) (ds := [d]) (j := 0) rfl rfl _ (by rw [hd]; simp only [DataW.weights, Try.underlying26]; exact hm))
      rw [show Try.prog.bytesOf 5 = 1 by kernel_rfl] at this
      simp at this
      omega
    refine ⟨?_, ?_⟩
    · rcases w0 with rfl | ⟨es, sp, h1, h2⟩
      · exact Nat.zero_le _
      · show n1 ≤ _
        rw [← h2]
        exact key 0 (by omega) rfl es sp h1
    · rcases w1 with rfl | ⟨es, sp, h1, h2⟩
      · exact Nat.zero_le _
      · show n2 ≤ _
        rw [← h2]
        exact key 1 (by omega) rfl es sp h1
theorem own : ownKnob Try.prog.godebug = none := by kernel_rfl
theorem laidOut : laidOutB Try.prog = true := by kernel_rfl
set_option maxRecDepth 100000 in
theorem asmPrograms_lifted (os : Os) (started : os.Started) (H : Type) (enc : TypeId × Value → H) :
    ReturnsInHanded {} Try.checked os 3 .any (Rows.asmProgramsSpec.pre6 enc Try.prog Try.f3 Rows.asmProgramsRow.domain false) (Rows.asmProgramsSpec.post enc Try.prog Try.f3 false true false false) := by
  refine returnsInHanded_of_change_sized (C := Try.checked) own started (by kernel_rfl) Try.func3
    (ChangeSpec.witness6 (enc := enc) (C := Try.checked) false ⟨#[], #[.agg #[.slice .none 0 0, .slice .none 0 0, .int .u64 0, .int .u64 0, .int .u64 0, .int .u64 0, .slice .none 0 0]], []⟩ 8 (by kernel_rfl) (by kernel_rfl) (by kernel_rfl) (by kernel_rfl)) ?_
  intro W base args ds gs before hval0 hW hcnd hsz hsized
  have hval : ∀ (j : Nat) t v, Try.f3.params[j]? = some t → args[j]? = some v → Value.okWide Try.prog W .any base t v := hval0
  have hW' := hW
  obtain ⟨p, q, hA0, hV, rfl, hfz, hnd⟩ := hW
  have hA : DataW.TrodAll enc Try.prog W 0 (fun _ => true) true Try.f3.params.toList args.toList ds p := hA0
  rw [Try.params3] at hA hval
  obtain ⟨v0, vs0, d0, ds0, p0, q0, hargs, rfl, rfl, h0, r0⟩ := trodAll_cons hA
  obtain ⟨rfl, rfl, rfl⟩ := trodAll_nil r0
  obtain rfl : args = #[v0] := by cases args; simp_all
  obtain ⟨rfl, rfl⟩ := trodVars_none hV
  clear hA0 hval0
  have k0 := h0
  have lt0 : ∀ x ∈ p0, x.block < W.heap.size := by obtain ⟨m, hm⟩ := k0; exact DataW.trod_lt m _ _ _ hm
  have h0' : DataW.Trod enc Try.prog W 0 (fun _ => true) true 26 v0 d0 p0 := h0
  obtain ⟨J, xs, ys, rfl, b1, b2, hw⟩ := open_image (hval 0 26 v0 rfl rfl) h0'
  have hz : (DataW.weightsEach Try.prog [26] [d0]).all (· ≤ reachBytes) = true := hsz
  obtain ⟨r1, r2⟩ := hw hz
  have rb := reachBytes_lt
  have rb2 : (2 : Nat) ^ 47 = 140737488355328 := by decide
  have key : Calls Try.prog 3 #[.agg #[.slice J.p1 J.n1 J.c1, .slice J.p2 J.n2 J.c2, .int .u64 J.da, .int .u64 J.ba, .int .u64 J.bs, .int .u64 J.en, .slice J.p3 J.n3 J.c3]] W fun e w' => e = .returned (.bool true) ∧ Below W.heap.size W w' := by
    by_cases hs : J.n1 + J.n2 ≤ 300000
    · exact progs_any J xs ys _ W b1 b2 hs rfl (by rw [IntKind.wrap_u64]; omega)
    · exact progs_long J W (by omega) (Nat.le_trans b1.2.1 b1.2.2.1) (Nat.le_trans b2.2.1 b2.2.2.1) (by omega) (by omega)
  refine key.mono fun e W' ⟨he, bel⟩ => ?_
  subst he
  exact ⟨_, rfl, _, _, _, [], _, [], hW', trodAll_mk1 (shut_bool Try.underlying4 _), (trodAll_cons_mk (Below.trod laidOut (by kernel_rfl) (of_decide_eq_true (by kernel_rfl)) k0 bel lt0) trodAll_mk0), rfl, bel.frame _, fun h => by cases h⟩
theorem asmPrograms_holds : Rows.AsmProgramsSaid :=
  OpenClaim.holds_of_wide 3 Try.f3 rfl rfl rfl rfl rfl rfl rfl ⟨rfl, rfl, rfl, rfl, rfl⟩ rfl rfl rfl rfl rfl (by kernel_rfl) Try.func3 (by kernel_rfl)
    (of_decide_eq_true (by kernel_rfl)) (by unfold Func.isWrapper; first | (rw [if_pos (by decide +kernel)]; kernel_rfl) | (rw [if_neg (by decide +kernel)]; exact ⟨rfl, rfl⟩))
    (fun os started H enc _ => asmPrograms_lifted os started H enc)
#print axioms asmPrograms_holds
end Go.Proofs.Ytdkidhipiglbkaa
