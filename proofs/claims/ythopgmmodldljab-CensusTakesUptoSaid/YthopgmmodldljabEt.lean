import Derived.Test.YthopgmmodldljabEs
namespace Go.Proofs.Ythopgmmodldljab
open Go Go.RowKit
set_option linter.unusedVariables false
set_option linter.unusedSimpArgs false
/-! The table of the checks. -/
abbrev Ce := Nat × Nat × List Value × List Value
def Ce.l (c : Ce) : List Value := [.int .i64 c.1, .func (.func c.2.1) c.2.2.1.toArray c.2.2.2.toArray]
abbrev pt (b : Nat) : Value := .pointer (some ⟨b, 0, .none⟩)
def ckT (s sb lb nA nF nP nQ nI nK : Nat) : List Ce := [(nA, 48, [pt s], []), (nF, 49, [pt s], []), (1, 50, [], [pt lb, pt sb]), (nP, 52, [], [pt sb, pt lb]), (nP, 54, [], [pt lb]), (nP, 56, [], [pt sb, pt lb]), (nQ, 58, [], [pt sb, pt lb]), (nI, 60, [], [pt sb, pt lb]), (nK, 62, [], [pt sb, pt lb])]
def ckC (s sb lb nA nF nP nQ nI nK : Nat) : List Value := ((ckT s sb lb nA nF nP nQ nI nK).map Ce.l).flatten
theorem info130z : (Try.prog.info? 106).map (fun i => (i.zero, i.size, i.bytes)) = some (some (.agg #[.int .i64 0, .nilFunc]), 2, 16) := by kernel_rfl
theorem info130 : ∃ i z, Try.prog.info? 106 = some i ∧ i.zero = some z ∧ i.size = 2 ∧ i.bytes = 16 ∧ z.cells.size = 2 := info_of 106 2 16 (by kernel_rfl) (by kernel_rfl)
theorem wpList_slice9 {w : World} {ops : Array Oper} {rest : List Oper} {o : Oper} {a : Act} {Q : Exit → Act → World → Prop} (parts : Array (Nat × Operand)) (hg : o.guard = none) (ho : o.op = .buildSlice 102 9 parts) (d : Option Tmp) (hd : o.dst = d) (cells : Array Value)
  (hf : Instr.fill (fun i => some (i * 2, 2)) ((Array.range (9 * 2)).map ((Value.agg #[.int .i64 0, .nilFunc]).cells[· % (Value.agg #[.int .i64 0, .nilFunc]).cells.size]!)) (parts.map fun (i, x) => (i, a.eval x)).toList = some cells)
  (h : wpList Try.prog ops Q rest (a.put d (.slice (some ⟨w.heap.size, 0, .none⟩) 9 9)) (w.alloc (.cells cells 106))) : wpList Try.prog ops Q (o :: rest) a w := by
 have hz := info130z
 cases hi : Try.prog.info? 106 with
 | none => rw [hi] at hz; cases hz
 | some ie =>
  rw [hi] at hz
  simp only [Option.map_some, Option.some.injEq, Prod.mk.injEq] at hz
  obtain ⟨h1, h2, h3⟩ := hz
  refine wpList_buildSlice hg 102 106 9 parts ho cells ie _ Try.underlying102 hi h1 (by rw [h2]; decide) (by rw [h2]; decide) (by rw [h2]; exact hf) (by rw [hd]; exact h)
def ChP (w : World) (s m1 m2 : Nat) (L : Lk) (fr : List Int) (N : Nat) (pv fv iv qv rv lv nv gv : Value) (pf nf : Th → Option Int) (e : Ending) (w' : World) : Prop := ∃ g sb lb, e = .returned (.slice (some ⟨g, 0, .none⟩) 9 9) ∧ w'.rangeAt g 0 (ckC s sb lb (allL L fr).length N L.procs.length L.files.length L.inos.length L.pipes.length) ∧ g < w'.heap.size ∧ Cx w' s m1 m2 L fr N pv fv iv qv rv lv nv gv pf nf sb lb ∧ Below w.heap.size w w'
set_option maxRecDepth 100000 in
set_option maxHeartbeats 4000000 in
theorem checks_any {w : World} {s m1 m2 : Nat} {L : Lk} {fr : List Int} {N : Nat} {pv fv iv qv rv lv nv gv : Value} {pf nf : Th → Option Int} (h : Sy w s m1 m2 L fr N pv fv iv qv rv lv nv gv pf nf) : Calls Try.prog 32 #[.pointer (some ⟨s, 0, .none⟩)] w (ChP w s m1 m2 L fr N pv fv iv qv rv lv nv gv pf nf) := by
 obtain ⟨pp, pc, rfl⟩ := h.lk.ps.form
 obtain ⟨fp, fc, rfl⟩ := h.lk.fs.form
 obtain ⟨ip, ic, rfl⟩ := h.lk.is.form
 obtain ⟨qp, qc, rfl⟩ := h.lk.qs.form
 obtain ⟨ap, ac, rfl⟩ := h.nm.form
 obtain ⟨gp, gc, rfl⟩ := h.fw.form
 have hlen : (frL N (allL L fr)).length = N := by simp [frL]
 rw [hlen] at h ⊢
 obtain ⟨nA, hA⟩ : ∃ n, n = (allL L fr).length := ⟨_, rfl⟩
 obtain ⟨nP, hP⟩ : ∃ n, n = L.procs.length := ⟨_, rfl⟩
 obtain ⟨nQ, hQ⟩ : ∃ n, n = L.files.length := ⟨_, rfl⟩
 obtain ⟨nI, hI⟩ : ∃ n, n = L.inos.length := ⟨_, rfl⟩
 obtain ⟨nK, hK⟩ : ∃ n, n = L.pipes.length := ⟨_, rfl⟩
 rw [← hA, ← hP, ← hQ, ← hI, ← hK] at h ⊢
 obtain ⟨nF, hF⟩ : ∃ n, n = N := ⟨_, rfl⟩
 have HN : Hid (nA = (allL L fr).length ∧ nP = L.procs.length ∧ nQ = L.files.length ∧ nI = L.inos.length ∧ nK = L.pipes.length ∧ nF = N) := ⟨hA, hP, hQ, hI, hK, hF⟩
 obtain ⟨AL, hAL⟩ : ∃ AL, AL = lkL L.tramp (.slice pp nP pc) (.slice fp nQ fc) (.slice ip nI ic) (.slice qp nK qc) rv lv L.ticks L.next L.free := ⟨_, rfl⟩
 have HAL : Hid (AL = lkL L.tramp (.slice pp nP pc) (.slice fp nQ fc) (.slice ip nI ic) (.slice qp nK qc) rv lv L.ticks L.next L.free) := hAL
 have HSY : Hid (Sy w s m1 m2 L fr N (.slice pp nP pc) (.slice fp nQ fc) (.slice ip nI ic) (.slice qp nK qc) rv lv (.slice ap nA ac) (.slice gp N gc) pf nf) := h
 have hs := h.sv.lt.1
 have HRS : Hid (∀ V, Below w.heap.size w V → V.rangeAt s 0 AL) := fun V hV => by
  rw [hAL]
  have h0 : w.rangeAt s 0 (svL L (.slice pp nP pc) (.slice fp nQ fc) (.slice ip nI ic) (.slice qp nK qc) rv lv fr.length (.slice ap nA ac) (.slice gp N gc) m1 m2) := range_heap h.sv.hp
  have h1 := range_sub (k := 0) h0 (sub_of (s := lkL L.tramp (.slice pp nP pc) (.slice fp nQ fc) (.slice ip nI ic) (.slice qp nK qc) rv lv L.ticks L.next L.free) rfl)
  rw [Nat.zero_add] at h1
  exact range_keep h1 hV hs
 have HAO : Hid (AL.length = 10 ∧ ∀ v ∈ AL, v.oneCell' = true) := by rw [hAL]; exact ⟨rfl, lkL_one _ _ _ _ rfl rfl rfl rfl h.lk.rd.one h.lk.ln.one⟩
 have HS0 : Hid (s < w.heap.size) := hs
 clear h hlen hA hP hQ hI hK hAL hs hF
 go_enter Try.func32, Try.ntmps32
 go_upto_region 2 with (first
  | (refine wpList_is (.box 74 (.tmp 0)) rfl ?_; refine Great.wpList_boxTo rfl 74 (.tmp 0) rfl (some 1) rfl w.heap.size rfl #[.pointer (some ⟨s, 0, .none⟩)] rfl ?_; obtain ⟨W1, hW1e⟩ : ∃ W1, W1 = w.alloc (.cells #[.pointer (some ⟨s, 0, .none⟩)] 74) := ⟨_, rfl⟩; rw [← hW1e]; have hB1 : Below w.heap.size w W1 := (by rw [hW1e]; exact below1 _ _); have hs1 : W1.heap.size = w.heap.size + 1 := (by rw [hW1e]; simp); have hW1 : W1.heap[w.heap.size]? = some (.cells #[.pointer (some ⟨s, 0, .none⟩)] 74 (0, 0)) := (by rw [hW1e]; show (w.heap.push _)[w.heap.size]? = _; simp); clear hW1e; have k0 : W1.cell? ⟨w.heap.size, 0, .none⟩ = some (.pointer (some ⟨s, 0, .none⟩)) := cell_heap (o := 0) hW1)
  | (refine wpList_is (.load 31 (.tmp 6)) rfl ?_; refine wpList_loadG 31 10 176 info33 _ Try.underlying31 rfl AL HAO.out.1 s 0 (.tmp 6) rfl rfl rfl (HRS.out _ hB1) (some 7) rfl ?_)
  | (refine wpList_is (.alloc 31) rfl ?_; refine wpList_laidG 31 10 176 info33 AL HAO.out.1 HAO.out.2 3 (.tmp 7) _ _ rfl rfl rfl rfl rfl rfl rfl rfl ?_; intro W2 hW2 hB2 hs2)
  | fail)
 obtain ⟨sb, hsb⟩ : ∃ sb, sb = w.heap.size := ⟨_, rfl⟩
 obtain ⟨lb, hlb⟩ : ∃ lb, lb = W1.heap.size := ⟨_, rfl⟩
 have k0' : W2.cell? ⟨sb, 0, .none⟩ = some (.pointer (some ⟨s, 0, .none⟩)) := by rw [hsb]; exact (hB2.cell (p := ⟨w.heap.size, 0, .none⟩) (by show w.heap.size < _; omega)).trans k0
 have hW2' : W2.heap[lb]? = some (.cells AL.toArray 31) := by rw [hlb]; exact hW2
 have hB02 : Below w.heap.size w W2 := hB1.trans (hB2.mono (by omega))
 have HCX : Hid (∀ V, Below W2.heap.size W2 V → Cx V s m1 m2 L fr N (.slice pp nP pc) (.slice fp nQ fc) (.slice ip nI ic) (.slice qp nK qc) rv lv (.slice ap nA ac) (.slice gp N gc) pf nf sb lb) := fun V hV => by
  refine Cx.keep (w := W2) ⟨HSY.out.keep hB02, k0', by rw [← HAL.out]; exact range_heap hW2', by omega, by omega⟩ hV
 have HFB : Hid (∀ V, Below W2.heap.size W2 V → Below w.heap.size w V) := fun V hV => hB02.trans (hV.mono (by omega))
 rw [show w.heap.size = sb from hsb.symm]
 rw [show W1.heap.size = lb from hlb.symm]
 have hS : (fun V : World => V.cell? ⟨sb, 0, .none⟩ = some (.pointer (some ⟨s, 0, .none⟩)) ∧ V.cell? ⟨s, 11, .none⟩ = some (.slice ap nA ac) ∧ V.cell? ⟨s, 12, .none⟩ = some (.slice gp nF gc) ∧ V.cell? ⟨lb, 1, .none⟩ = some (.slice pp nP pc) ∧ V.cell? ⟨lb, 2, .none⟩ = some (.slice fp nQ fc) ∧ V.cell? ⟨lb, 3, .none⟩ = some (.slice ip nI ic) ∧ V.cell? ⟨lb, 4, .none⟩ = some (.slice qp nK qc)) W2.drew := by
  have hc := HCX.out W2.drew (Below.refl _ _).drew
  have e6 : nF = N := HN.out.2.2.2.2.2
  exact ⟨hc.cb, hc.sy.cell 11 _ rfl, by rw [e6]; exact hc.sy.cell 12 _ rfl, hc.at 1 _ rfl, hc.at 2 _ rfl, hc.at 3 _ rfl, hc.at 4 _ rfl⟩
 clear hW1 hB1 hs1 k0 hW2 hB2 hs2 hsb hlb k0' hW2' hB02
 refine region_set (fun V => V.cell? ⟨sb, 0, .none⟩ = some (.pointer (some ⟨s, 0, .none⟩)) ∧ V.cell? ⟨s, 11, .none⟩ = some (.slice ap nA ac) ∧ V.cell? ⟨s, 12, .none⟩ = some (.slice gp nF gc) ∧ V.cell? ⟨lb, 1, .none⟩ = some (.slice pp nP pc) ∧ V.cell? ⟨lb, 2, .none⟩ = some (.slice fp nQ fc) ∧ V.cell? ⟨lb, 3, .none⟩ = some (.slice ip nI ic) ∧ V.cell? ⟨lb, 4, .none⟩ = some (.slice qp nK qc)) 48 [] (by kernel_rfl) ?_
 refine sT 0 (.pointer (some ⟨s, 0, .none⟩)) rfl (fun ww hSw => by obtain ⟨q1, q2, q3, q4, q5, q6, q7⟩ := hSw; go_simp) hS ?_
 simp only [x0,x1,x2,x3,x4,x5,x6]
 refine sT 1 (.pointer (some ⟨s, 0, .none⟩)) rfl (fun ww hSw => by obtain ⟨q1, q2, q3, q4, q5, q6, q7⟩ := hSw; go_simp) hS ?_
 simp only [x0,x1,x2,x3,x4,x5,x6]
 refine sT 2 (.pointer (some ⟨s, 11, .none⟩)) rfl (fun ww hSw => by obtain ⟨q1, q2, q3, q4, q5, q6, q7⟩ := hSw; go_simp) hS ?_
 simp only [x0,x1,x2,x3,x4,x5,x6]
 refine sT 3 (.slice ap nA ac) rfl (fun ww hSw => by obtain ⟨q1, q2, q3, q4, q5, q6, q7⟩ := hSw; go_simp) hS ?_
 simp only [x0,x1,x2,x3,x4,x5,x6]
 refine sT 4 (.int .i64 (nA : Nat)) rfl (fun ww hSw => by obtain ⟨q1, q2, q3, q4, q5, q6, q7⟩ := hSw; go_simp) hS ?_
 simp only [x0,x1,x2,x3,x4,x5,x6]
 refine sT 5 (.pointer (some ⟨s, 0, .none⟩)) rfl (fun ww hSw => by obtain ⟨q1, q2, q3, q4, q5, q6, q7⟩ := hSw; go_simp) hS ?_
 simp only [x0,x1,x2,x3,x4,x5,x6]
 refine sT 6 (.func (.func 48) #[.pointer (some ⟨s, 0, .none⟩)] #[]) rfl (fun ww hSw => by obtain ⟨q1, q2, q3, q4, q5, q6, q7⟩ := hSw; go_simp) hS ?_
 simp only [x0,x1,x2,x3,x4,x5,x6]
 refine sT 7 (.agg #[.int .i64 (nA : Nat), .func (.func 48) #[.pointer (some ⟨s, 0, .none⟩)] #[]]) rfl (fun ww hSw => by obtain ⟨q1, q2, q3, q4, q5, q6, q7⟩ := hSw; go_simp) hS ?_
 simp only [x0,x1,x2,x3,x4,x5,x6]
 refine sT 8 (.pointer (some ⟨s, 0, .none⟩)) rfl (fun ww hSw => by obtain ⟨q1, q2, q3, q4, q5, q6, q7⟩ := hSw; go_simp) hS ?_
 simp only [x0,x1,x2,x3,x4,x5,x6]
 refine sT 9 (.pointer (some ⟨s, 0, .none⟩)) rfl (fun ww hSw => by obtain ⟨q1, q2, q3, q4, q5, q6, q7⟩ := hSw; go_simp) hS ?_
 simp only [x0,x1,x2,x3,x4,x5,x6]
 refine sT 10 (.pointer (some ⟨s, 12, .none⟩)) rfl (fun ww hSw => by obtain ⟨q1, q2, q3, q4, q5, q6, q7⟩ := hSw; go_simp) hS ?_
 simp only [x0,x1,x2,x3,x4,x5,x6]
 refine sT 11 (.slice gp nF gc) rfl (fun ww hSw => by obtain ⟨q1, q2, q3, q4, q5, q6, q7⟩ := hSw; go_simp) hS ?_
 simp only [x0,x1,x2,x3,x4,x5,x6]
 refine sT 12 (.int .i64 (nF : Nat)) rfl (fun ww hSw => by obtain ⟨q1, q2, q3, q4, q5, q6, q7⟩ := hSw; go_simp) hS ?_
 simp only [x0,x1,x2,x3,x4,x5,x6]
 refine sT 13 (.pointer (some ⟨s, 0, .none⟩)) rfl (fun ww hSw => by obtain ⟨q1, q2, q3, q4, q5, q6, q7⟩ := hSw; go_simp) hS ?_
 simp only [x0,x1,x2,x3,x4,x5,x6]
 refine sT 14 (.func (.func 49) #[.pointer (some ⟨s, 0, .none⟩)] #[]) rfl (fun ww hSw => by obtain ⟨q1, q2, q3, q4, q5, q6, q7⟩ := hSw; go_simp) hS ?_
 simp only [x0,x1,x2,x3,x4,x5,x6]
 refine sT 15 (.agg #[.int .i64 (nF : Nat), .func (.func 49) #[.pointer (some ⟨s, 0, .none⟩)] #[]]) rfl (fun ww hSw => by obtain ⟨q1, q2, q3, q4, q5, q6, q7⟩ := hSw; go_simp) hS ?_
 simp only [x0,x1,x2,x3,x4,x5,x6]
 refine sT 16 (.func (.func 50) #[] #[.pointer (some ⟨lb, 0, .none⟩), .pointer (some ⟨sb, 0, .none⟩)]) rfl (fun ww hSw => by obtain ⟨q1, q2, q3, q4, q5, q6, q7⟩ := hSw; go_simp) hS ?_
 simp only [x0,x1,x2,x3,x4,x5,x6]
 refine sT 17 (.agg #[.int .i64 1, .func (.func 50) #[] #[.pointer (some ⟨lb, 0, .none⟩), .pointer (some ⟨sb, 0, .none⟩)]]) rfl (fun ww hSw => by obtain ⟨q1, q2, q3, q4, q5, q6, q7⟩ := hSw; go_simp) hS ?_
 simp only [x0,x1,x2,x3,x4,x5,x6]
 refine sT 18 (.pointer (some ⟨lb, 1, .none⟩)) rfl (fun ww hSw => by obtain ⟨q1, q2, q3, q4, q5, q6, q7⟩ := hSw; go_simp) hS ?_
 simp only [x0,x1,x2,x3,x4,x5,x6]
 refine sT 19 (.slice pp nP pc) rfl (fun ww hSw => by obtain ⟨q1, q2, q3, q4, q5, q6, q7⟩ := hSw; go_simp) hS ?_
 simp only [x0,x1,x2,x3,x4,x5,x6]
 refine sT 20 (.int .i64 (nP : Nat)) rfl (fun ww hSw => by obtain ⟨q1, q2, q3, q4, q5, q6, q7⟩ := hSw; go_simp) hS ?_
 simp only [x0,x1,x2,x3,x4,x5,x6]
 refine sT 21 (.func (.func 52) #[] #[.pointer (some ⟨sb, 0, .none⟩), .pointer (some ⟨lb, 0, .none⟩)]) rfl (fun ww hSw => by obtain ⟨q1, q2, q3, q4, q5, q6, q7⟩ := hSw; go_simp) hS ?_
 simp only [x0,x1,x2,x3,x4,x5,x6]
 refine sT 22 (.agg #[.int .i64 (nP : Nat), .func (.func 52) #[] #[.pointer (some ⟨sb, 0, .none⟩), .pointer (some ⟨lb, 0, .none⟩)]]) rfl (fun ww hSw => by obtain ⟨q1, q2, q3, q4, q5, q6, q7⟩ := hSw; go_simp) hS ?_
 simp only [x0,x1,x2,x3,x4,x5,x6]
 refine sT 23 (.pointer (some ⟨lb, 1, .none⟩)) rfl (fun ww hSw => by obtain ⟨q1, q2, q3, q4, q5, q6, q7⟩ := hSw; go_simp) hS ?_
 simp only [x0,x1,x2,x3,x4,x5,x6]
 refine sT 24 (.slice pp nP pc) rfl (fun ww hSw => by obtain ⟨q1, q2, q3, q4, q5, q6, q7⟩ := hSw; go_simp) hS ?_
 simp only [x0,x1,x2,x3,x4,x5,x6]
 refine sT 25 (.int .i64 (nP : Nat)) rfl (fun ww hSw => by obtain ⟨q1, q2, q3, q4, q5, q6, q7⟩ := hSw; go_simp) hS ?_
 simp only [x0,x1,x2,x3,x4,x5,x6]
 refine sT 26 (.func (.func 54) #[] #[.pointer (some ⟨lb, 0, .none⟩)]) rfl (fun ww hSw => by obtain ⟨q1, q2, q3, q4, q5, q6, q7⟩ := hSw; go_simp) hS ?_
 simp only [x0,x1,x2,x3,x4,x5,x6]
 refine sT 27 (.agg #[.int .i64 (nP : Nat), .func (.func 54) #[] #[.pointer (some ⟨lb, 0, .none⟩)]]) rfl (fun ww hSw => by obtain ⟨q1, q2, q3, q4, q5, q6, q7⟩ := hSw; go_simp) hS ?_
 simp only [x0,x1,x2,x3,x4,x5,x6]
 refine sT 28 (.pointer (some ⟨lb, 1, .none⟩)) rfl (fun ww hSw => by obtain ⟨q1, q2, q3, q4, q5, q6, q7⟩ := hSw; go_simp) hS ?_
 simp only [x0,x1,x2,x3,x4,x5,x6]
 refine sT 29 (.slice pp nP pc) rfl (fun ww hSw => by obtain ⟨q1, q2, q3, q4, q5, q6, q7⟩ := hSw; go_simp) hS ?_
 simp only [x0,x1,x2,x3,x4,x5,x6]
 refine sT 30 (.int .i64 (nP : Nat)) rfl (fun ww hSw => by obtain ⟨q1, q2, q3, q4, q5, q6, q7⟩ := hSw; go_simp) hS ?_
 simp only [x0,x1,x2,x3,x4,x5,x6]
 refine sT 31 (.func (.func 56) #[] #[.pointer (some ⟨sb, 0, .none⟩), .pointer (some ⟨lb, 0, .none⟩)]) rfl (fun ww hSw => by obtain ⟨q1, q2, q3, q4, q5, q6, q7⟩ := hSw; go_simp) hS ?_
 simp only [x0,x1,x2,x3,x4,x5,x6]
 refine sT 32 (.agg #[.int .i64 (nP : Nat), .func (.func 56) #[] #[.pointer (some ⟨sb, 0, .none⟩), .pointer (some ⟨lb, 0, .none⟩)]]) rfl (fun ww hSw => by obtain ⟨q1, q2, q3, q4, q5, q6, q7⟩ := hSw; go_simp) hS ?_
 simp only [x0,x1,x2,x3,x4,x5,x6]
 refine sT 33 (.pointer (some ⟨lb, 2, .none⟩)) rfl (fun ww hSw => by obtain ⟨q1, q2, q3, q4, q5, q6, q7⟩ := hSw; go_simp) hS ?_
 simp only [x0,x1,x2,x3,x4,x5,x6]
 refine sT 34 (.slice fp nQ fc) rfl (fun ww hSw => by obtain ⟨q1, q2, q3, q4, q5, q6, q7⟩ := hSw; go_simp) hS ?_
 simp only [x0,x1,x2,x3,x4,x5,x6]
 refine sT 35 (.int .i64 (nQ : Nat)) rfl (fun ww hSw => by obtain ⟨q1, q2, q3, q4, q5, q6, q7⟩ := hSw; go_simp) hS ?_
 simp only [x0,x1,x2,x3,x4,x5,x6]
 refine sT 36 (.func (.func 58) #[] #[.pointer (some ⟨sb, 0, .none⟩), .pointer (some ⟨lb, 0, .none⟩)]) rfl (fun ww hSw => by obtain ⟨q1, q2, q3, q4, q5, q6, q7⟩ := hSw; go_simp) hS ?_
 simp only [x0,x1,x2,x3,x4,x5,x6]
 refine sT 37 (.agg #[.int .i64 (nQ : Nat), .func (.func 58) #[] #[.pointer (some ⟨sb, 0, .none⟩), .pointer (some ⟨lb, 0, .none⟩)]]) rfl (fun ww hSw => by obtain ⟨q1, q2, q3, q4, q5, q6, q7⟩ := hSw; go_simp) hS ?_
 simp only [x0,x1,x2,x3,x4,x5,x6]
 refine sT 38 (.pointer (some ⟨lb, 3, .none⟩)) rfl (fun ww hSw => by obtain ⟨q1, q2, q3, q4, q5, q6, q7⟩ := hSw; go_simp) hS ?_
 simp only [x0,x1,x2,x3,x4,x5,x6]
 refine sT 39 (.slice ip nI ic) rfl (fun ww hSw => by obtain ⟨q1, q2, q3, q4, q5, q6, q7⟩ := hSw; go_simp) hS ?_
 simp only [x0,x1,x2,x3,x4,x5,x6]
 refine sT 40 (.int .i64 (nI : Nat)) rfl (fun ww hSw => by obtain ⟨q1, q2, q3, q4, q5, q6, q7⟩ := hSw; go_simp) hS ?_
 simp only [x0,x1,x2,x3,x4,x5,x6]
 refine sT 41 (.func (.func 60) #[] #[.pointer (some ⟨sb, 0, .none⟩), .pointer (some ⟨lb, 0, .none⟩)]) rfl (fun ww hSw => by obtain ⟨q1, q2, q3, q4, q5, q6, q7⟩ := hSw; go_simp) hS ?_
 simp only [x0,x1,x2,x3,x4,x5,x6]
 refine sT 42 (.agg #[.int .i64 (nI : Nat), .func (.func 60) #[] #[.pointer (some ⟨sb, 0, .none⟩), .pointer (some ⟨lb, 0, .none⟩)]]) rfl (fun ww hSw => by obtain ⟨q1, q2, q3, q4, q5, q6, q7⟩ := hSw; go_simp) hS ?_
 simp only [x0,x1,x2,x3,x4,x5,x6]
 refine sT 43 (.pointer (some ⟨lb, 4, .none⟩)) rfl (fun ww hSw => by obtain ⟨q1, q2, q3, q4, q5, q6, q7⟩ := hSw; go_simp) hS ?_
 simp only [x0,x1,x2,x3,x4,x5,x6]
 refine sT 44 (.slice qp nK qc) rfl (fun ww hSw => by obtain ⟨q1, q2, q3, q4, q5, q6, q7⟩ := hSw; go_simp) hS ?_
 simp only [x0,x1,x2,x3,x4,x5,x6]
 refine sT 45 (.int .i64 (nK : Nat)) rfl (fun ww hSw => by obtain ⟨q1, q2, q3, q4, q5, q6, q7⟩ := hSw; go_simp) hS ?_
 simp only [x0,x1,x2,x3,x4,x5,x6]
 refine sT 46 (.func (.func 62) #[] #[.pointer (some ⟨sb, 0, .none⟩), .pointer (some ⟨lb, 0, .none⟩)]) rfl (fun ww hSw => by obtain ⟨q1, q2, q3, q4, q5, q6, q7⟩ := hSw; go_simp) hS ?_
 simp only [x0,x1,x2,x3,x4,x5,x6]
 refine sT 47 (.agg #[.int .i64 (nK : Nat), .func (.func 62) #[] #[.pointer (some ⟨sb, 0, .none⟩), .pointer (some ⟨lb, 0, .none⟩)]]) rfl (fun ww hSw => by obtain ⟨q1, q2, q3, q4, q5, q6, q7⟩ := hSw; go_simp) hS ?_
 simp only [x0,x1,x2,x3,x4,x5,x6]
 refine set_tail 2 48 _ _ _ _ (by kernel_rfl) (by decide) ?_
 simp only [List.toList_toArray, List.drop_succ_cons, List.drop_zero]
 clear hS
 have HBd : Hid (Below W2.heap.size W2 W2.drew) := (Below.refl _ _).drew
 generalize W2.drew = WD at *
 go_wp2_with (first
  | (refine wpList_is (.buildSlice 102 9 #[(0, .tmp 15), (1, .tmp 23), (2, .tmp 25), (3, .tmp 30), (4, .tmp 35), (5, .tmp 40), (6, .tmp 45), (7, .tmp 50), (8, .tmp 55)]) rfl ?_; refine wpList_slice9 _ rfl rfl (some 56) rfl (ckC s sb lb nA nF nP nQ nI nK).toArray (by kernel_rfl) ?_)
  | fail)
 go_ret
 have hBB : Below W2.heap.size W2 (WD.alloc (.cells (ckC s sb lb nA nF nP nQ nI nK).toArray 106)) := HBd.out.trans ((below1 _ _).mono HBd.out.size)
 obtain ⟨n1, n2, n3, n4, n5, n6⟩ := HN.out
 refine ⟨WD.heap.size, sb, lb, rfl, ?_, by simp, HCX.out _ hBB, HFB.out _ hBB⟩
 rw [← n1, ← n2, ← n3, ← n4, ← n5, ← n6]
 exact range_new WD _ 106
end Go.Proofs.Ythopgmmodldljab
