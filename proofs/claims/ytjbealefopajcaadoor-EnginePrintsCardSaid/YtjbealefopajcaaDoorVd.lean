import Derived.Test.YtjbealefopajcaaDoorVz
import Derived.Deep.CutBlock
namespace Go.Proofs.YtjbealefopajcaaDoor
open Go Go.RowKit Rg
set_option linter.unusedVariables false
set_option linter.unusedSimpArgs false
theorem i16_64 {x : Int} (h : i16b x) : i64b x := ⟨by have := h.1; omega, by have := h.2; omega⟩
theorem cell_hp {w w' : World} {b : Nat} (h : w'.heap[b]? = w.heap[b]?) (k : Nat) : w'.cell? ⟨b, k, .none⟩ = w.cell? ⟨b, k, .none⟩ := by simp [World.cell?, h]
theorem own_lt_wr {w : World} {base g n c : Nat} {ys : List Int} (h : ownT w base (.slice (some ⟨g, 0, .none⟩) n c) ys) {k : Nat} (e : some g = some k) : k < w.heap.size := (h.lt k e).2
theorem blk_bd (ds : List Int) (h : ∀ x ∈ ds, 0 ≤ x ∧ x < 256) : ∀ y ∈ blkP ds ds.length ++ [101, 110, 100, 10], 0 ≤ y ∧ y < 256 := by
  have hd : ∀ k : Int, 0 ≤ k → k < 16 → 0 ≤ dgt k ∧ dgt k < 256 := fun k h0 h1 => by unfold dgt; split <;> omega
  have H : ∀ i, ∀ y ∈ blkP ds i, 0 ≤ y ∧ y < 256 := by
    intro i
    induction i with
    | zero => intro y hy; cases hy
    | succ i ih =>
      intro y hy
      rw [blkP, List.mem_append, List.mem_append] at hy
      have hx : 0 ≤ ds.getD i 0 ∧ ds.getD i 0 < 256 := by
        rw [List.getD_eq_getElem?_getD]
        cases hc : ds[i]? with
        | none => simp
        | some x => exact h x (List.mem_of_getElem? hc)
      rcases hy with (hy | hy) | hy
      · exact ih y hy
      · simp only [hexD, List.mem_cons, List.not_mem_nil, or_false] at hy
        rcases hy with rfl | rfl
        · exact hd _ (by omega) (by omega)
        · exact hd _ (by omega) (by omega)
      · split at hy
        · simp only [List.mem_singleton] at hy
          omega
        · cases hy
  intro y hy
  rw [List.mem_append] at hy
  rcases hy with hy | hy
  · exact H _ y hy
  · simp only [List.mem_cons, List.not_mem_nil, or_false] at hy
    omega
theorem tkP_len (ts : List Int) (h : ∀ t ∈ ts, i64b t) : ∀ i, (tkP ts i).length ≤ 26 * i
  | 0 => by simp [tkP]
  | i + 1 => by
    have h1 := tkP_len ts h i
    have h2 : (itI (ts.getD i 0)).length ≤ 20 := by
      apply itI_len
      rw [List.getD_eq_getElem?_getD]
      cases hc : ts[i]? with
      | none => exact ⟨by decide, by decide⟩
      | some x => exact h x (List.mem_of_getElem? hc)
    rw [tkP, List.length_append, List.length_append, List.length_append, List.length_append]
    have h3 : (if i % 16 = 0 then ([116, 105, 99, 107] : List Int) else []).length ≤ 4 := by split <;> simp
    have h4 : (if i % 16 = 15 ∨ i + 1 = ts.length then ([10] : List Int) else []).length ≤ 1 := by split <;> simp
    simp only [List.length_cons, List.length_nil]
    omega
theorem conv_bt {w : World} {X n c : Nat} {p : Option Addr} {ds : List Int} (h : Bt w X (.slice p n c) ds) : (convert 41 9 (.slice p n c)).run Tryd.prog w = .ok (.string (toB ds)) w := by
  obtain ⟨p', c', hv, hlc, h⟩ := h
  cases hv
  by_cases h0 : ds = []
  · subst h0
    cases p with
    | none => exact Lib.run_convert_nil_bytes w 41 9 5 c Tryd.underlying41 Tryd.underlying5 Tryd.underlying9
    | some a =>
      show (convert 41 9 (.slice (some a) 0 c)).run Tryd.prog w = _
      rw [run_convert_bytes_string w 41 9 5 _ 0 c Tryd.underlying41 Tryd.underlying5 Tryd.underlying9]
      exact run_bytesToString w _ 0 c [] (by simpa using run_loadCells_list (P := Tryd.prog) (w := w) a [] (fun j v hj => by simp at hj))
  · rcases h with h | ⟨b, o, rfl, hb, hr⟩
    · exact absurd h h0
    · rw [run_convert_bytes_string w 41 9 5 _ ds.length c Tryd.underlying41 Tryd.underlying5 Tryd.underlying9]
      have hl : (loadCells (⟨b, o, .none⟩ : Addr) ds.length).run Tryd.prog w = .ok (ds.map (Value.int .u8)).toArray w := by
        have := run_loadCells_list (P := Tryd.prog) (w := w) ⟨b, o, .none⟩ (by8 ds) (fun j v hj => by
          unfold by8 at hj
          rw [List.getElem?_map, Option.map_eq_some_iff] at hj
          obtain ⟨x, hx, rfl⟩ := hj
          obtain ⟨cs, hq, hl, hc⟩ := hr j x hx
          obtain rfl : cs = [.int .u8 x] := hq
          have := hc 0 _ rfl
          rw [Nat.mul_one, Nat.add_zero] at this
          rw [le_addr_add]
          exact this)
        rw [by8_len] at this
        exact this
      exact run_bytesToString w _ _ c ds hl
theorem cvt_run {w : World} {X n c : Nat} {p : Option Addr} {ds : List Int} (h : Bt w X (.slice p n c) ds) (ρ : Operand → Value) (o : Oper) (x : Operand) (ho : o.op = .convert 41 9 x) (hx : ρ x = .slice p n c) : (execOp ρ o).run Tryd.prog w = .ok (.value (.string (toB ds))) w := by
  unfold execOp
  simp only [ho, hx]
  have := conv_bt h
  go_simp
theorem cvo_run {w : World} {base n c : Nat} {p : Option Addr} {ys : List Int} (h : ownT w base (.slice p n c) ys) (ρ : Operand → Value) (o : Oper) (x : Operand) (ho : o.op = .convert 41 9 x) (hx : ρ x = .slice p n c) : (execOp ρ o).run Tryd.prog w = .ok (.value (.string (toB ys))) w := by
  unfold execOp
  simp only [ho, hx]
  have hc : (convert 41 9 (.slice p n c)).run Tryd.prog w = .ok (.string (toB ys)) w := by
    have h2 := h
    obtain ⟨g, c', hv⟩ := h.form
    cases hv
    rw [run_convert_bytes_string w 41 9 5 _ ys.length c Tryd.underlying41 Tryd.underlying5 Tryd.underlying9]
    have hl : (loadCells (⟨g, 0, .none⟩ : Addr) ys.length).run Tryd.prog w = .ok (ys.map (Value.int .u8)).toArray w := by
      have := run_loadCells_list (P := Tryd.prog) (w := w) ⟨g, 0, .none⟩ (by8 ys) (fun j v hj => h2.cells j v hj)
      rw [by8_len] at this
      exact this
    exact run_bytesToString w _ _ c ys hl
  go_simp
theorem ownT.set {w : World} {base b k : Nat} {u v : Value} {ys : List Int} (h : ownT w base v ys) (hb : b < base) : ownT (w.setCell ⟨b, k, .none⟩ u) base v ys := by
  obtain ⟨g, cap, cur, fz, hv, h1, hg, r⟩ := h
  exact ⟨g, cap, cur, fz, hv, h1, (Below.heap_setCell _ _ _ _ (by show g ≠ b; omega)).trans hg, r⟩
theorem inT_len (f : Ip) (h : i64b f.tm) : (inT f).length ≤ 40 + 4 * iSz f := by
  have hq := qt_len f.data
  have ha := itI_len _ h
  unfold inT iSz
  simp only [List.length_append, List.length_cons, List.length_nil, bsI_len]
  have : (⟨#[105, 110, 112, 117, 116, 32]⟩ : ByteArray).size = 6 := rfl
  omega
theorem ins_len : ∀ (l : List Ip), (∀ f ∈ l, i64b f.tm) → (l.flatMap inT).length ≤ 40 * l.length + 4 * sumN (l.map iSz)
  | [], _ => by simp [sumN]
  | f :: l, h => by
    have h1 := ins_len l (fun g hg => h g (by simp [hg]))
    have h2 := inT_len f (h f (by simp))
    rw [List.flatMap_cons, List.length_append, List.map_cons, List.length_cons]
    simp only [sumN]
    omega
theorem take_in {l : List Ip} {i : Nat} {x : Ip} (h : l[i]? = some x) : (l.take (i + 1)).flatMap inT = (l.take i).flatMap inT ++ inT x := by
  rw [List.take_add_one, h, List.flatMap_append]
  simp
theorem cell_ne (w : World) (b i : Nat) (u : Value) {c : Addr} (h : b ≠ c.block) : (w.setCell ⟨b, i, .none⟩ u).cell? c = w.cell? c := World.cell?_setCell_other _ _ _ _ (fun e => h (by rw [← e]))
theorem cat_run (a b : ByteArray) (h : a.size + b.size ≤ 9223372036854775807) : ∀ (w : World) (ρ : Operand → Value) (o : Oper) (x y : Operand), o.op = .binOp .add 9 x y 9 → ρ x = .string a → ρ y = .string b → (execOp ρ o).run Tryd.prog w = .ok (.value (.string (a ++ b))) w := by
  intro w ρ o x y ho hx hy
  unfold execOp
  simp only [ho, hx, hy]
  go_simp
set_option maxRecDepth 100000 in
set_option maxHeartbeats 8000000 in
theorem rprint_any {w : World} {X : Nat} {fv tv iv : Value} {S : Sc} (h : ScW w X fv tv iv S) (hX : X ≤ w.heap.size) (hB : ScB S) (hF : Few S) (hT : TB w) : Calls Tryd.prog 7 #[.agg (scL S fv tv iv).toArray] w (PrQ S w) := by
  obtain ⟨fp, fc, rfl⟩ := h.fs.form
  obtain ⟨tp, tc, rfl⟩ := h.ts.form
  obtain ⟨ip, ic, rfl⟩ := h.is.form
  obtain ⟨nf, hnf⟩ : ∃ n, n = S.files.length := ⟨_, rfl⟩
  obtain ⟨nt, hnt⟩ : ∃ n, n = S.ticks.length := ⟨_, rfl⟩
  obtain ⟨ni, hni⟩ : ∃ n, n = S.ins.length := ⟨_, rfl⟩
  rw [← hnf, ← hnt, ← hni] at h ⊢
  have hsz := hF.sz
  have hz1 : lenS S ≤ 1100000 := by unfold fewN at hsz; unfold lenS; omega
  have H : Hid (ScW w X (.slice fp nf fc) (.slice tp nt tc) (.slice ip ni ic) S ∧ X ≤ w.heap.size ∧ TB w) := ⟨h, hX, hT⟩
  have HN : Hid (nf = S.files.length ∧ nt = S.ticks.length ∧ ni = S.ins.length ∧ (nf ≤ 5000 ∧ nt ≤ 1100000 ∧ ni ≤ 5000) ∧ Few S ∧ ScB S ∧ lenS S ≤ 1100000) := ⟨hnf, hnt, hni, by have := hF.nf; have := hF.nt; have := hF.ni; omega, hF, hB, hz1⟩
  clear h hnf hnt hni hF hB hX hsz hz1 hT
  go_enter Tryd.func7, Tryd.ntmps7
  go_upto_region 1 with fail
  obtain ⟨z, hz⟩ : ∃ z, z = w.heap.size := ⟨_, rfl⟩
  obtain ⟨W0, hW0⟩ : ∃ W0, W0 = w.alloc (.cells (scL S (.slice fp nf fc) (.slice tp nt tc) (.slice ip ni ic)).toArray 26) := ⟨_, rfl⟩
  obtain ⟨W1, hW1⟩ : ∃ W1, W1 = W0.alloc (.cells #[.slice .none 0 0, .int .i64 0] 35) := ⟨_, rfl⟩
  have hs0 : W0.heap.size = z + 1 := by rw [hW0, hz]; simp
  have b0 : Below w.heap.size w W0 := by rw [hW0]; exact below1 _ _
  have b1 : Below W0.heap.size W0 W1 := by rw [hW1]; exact below1 _ _
  have z0 : ScZ W1 z S (.slice fp nf fc) (.slice tp nt tc) (.slice ip ni ic) := ScZ.keep (by rw [hW0, hz]; exact scz_new w S _ _ _) b1 (by omega)
  have hf : W1.heap[z + 1]? = some (.cells #[.slice .none 0 0, .int .i64 0] 35 (0, 0)) := by rw [hW1, ← hs0]; show (W0.heap.push _)[W0.heap.size]? = _; simp
  have H1 : Hid (ScZ W1 z S (.slice fp nf fc) (.slice tp nt tc) (.slice ip ni ic) ∧ Below w.heap.size w W1 ∧ z = w.heap.size ∧ W1.heap[z + 1]? = some (.cells #[.slice .none 0 0, .int .i64 0] 35 (0, 0)) ∧ z + 2 ≤ W1.heap.size) := ⟨z0, b0.trans (b1.mono b0.size), hz, hf, hp_lt hf⟩
  have c0 := z0.c0
  have c1 := z0.c1
  have c2 := z0.c2
  have c3 := z0.c3
  have c4 := z0.c4
  have c5 := z0.c5
  rw [← hW0, ← hW1, ← hz]
  clear hW0 hW1 hs0 b0 b1 z0 hf hz
  have c15 := rwrong_any (w := W1) (X := w.heap.size) (H.out.1.keep H.out.2.1 (H1.out.2.1.mono H.out.2.1)) H1.out.2.1.size HN.out.2.2.2.2.1
  have HPS : Hid (∀ e w' (s : ByteArray) (a r : Int) (g : Value), prS S = (s, a, r) → e = .returned (.tuple #[.string s, g]) → RefR w' g a r → Below w.heap.size w w' → PrQ S w e w') := fun e w' s a r g h1 h2 h3 h4 => ⟨g, by rw [h2, h1], by rw [h1]; exact h3, h4⟩
  rcases hwv : wrongF S with _ | k
  case some =>
    have HWV : Hid (wrongF S = some k) := hwv
    have c15 : Calls Tryd.prog 15 #[.agg (scL S (.slice fp nf fc) (.slice tp nt tc) (.slice ip ni ic)).toArray] W1 fun e w' => e = .returned (.int .i64 (k : Int)) ∧ Below W1.heap.size W1 w' := c15.mono (fun e w' h => by unfold WrQ at h; rw [hwv] at h; exact h)
    clear hwv
    have g0 : (0 : Int) ≤ k := by omega
    go_upto_region 3 with (go_at_call 15; refine c15.mono ?_; rintro _ w2 ⟨rfl, b2⟩; have H2 : Hid (Below W1.heap.size W1 w2) := b2; clear b2 c15)
    clear c0 c1 c2 c3 c4 c5 g0
    have hf2 : w2.heap[z + 1]? = some (.cells #[.slice .none 0 0, .int .i64 0] 35 (0, 0)) := (H2.out.block (z + 1) (by have := H1.out.2.2.2.2; omega)).trans H1.out.2.2.2.1
    have c16 := rnew_any ramB k 366 w2
    obtain ⟨w3, hw3⟩ : ∃ w3, w3 = (w2.alloc (.cells #[.slice (some ⟨w2.heap.size + 1, 0, .none⟩) 1 1, .int .i64 366] 35)).alloc (.cells #[.string ramB, .int .i64 k] 77) := ⟨_, rfl⟩
    rw [← hw3] at c16
    have b3 : Below w2.heap.size w2 w3 := by rw [hw3]; exact (below1 _ _).alloc (by simp) _
    have hf3 : w3.heap[z + 1]? = some (.cells #[.slice .none 0 0, .int .i64 0] 35 (0, 0)) := (b3.block (z + 1) (hp_lt hf2)).trans hf2
    have d0 : w3.cell? ⟨z + 1, 0, .none⟩ = some (.slice .none 0 0) := cell_heap hf3
    have d1 : w3.cell? ⟨z + 1, 1, .none⟩ = some (.int .i64 0) := cell_heap hf3
    have f0 : w3.frozen? ⟨z + 1, 0, .none⟩ = false := frozen_heap hf3
    have f1 : w3.frozen? ⟨z + 1, 1, .none⟩ = false := frozen_heap hf3
    have k0 : w3.cell? ⟨w2.heap.size + 1, 0, .none⟩ = some (.string ramB) := by rw [hw3]; simp
    have k1 : w3.cell? ⟨w2.heap.size + 1, 1, .none⟩ = some (.int .i64 k) := by rw [hw3]; simp
    have HK : Hid (w3.cell? ⟨w2.heap.size + 1, 0, .none⟩ = some (.string ramB) ∧ w3.cell? ⟨w2.heap.size + 1, 1, .none⟩ = some (.int .i64 k) ∧ w2.heap.size + 1 < w3.heap.size ∧ z + 1 < w2.heap.size ∧ Below w.heap.size w w3) := ⟨k0, k1, by rw [hw3]; simp, hp_lt hf2, H1.out.2.1.trans ((H2.out.mono H1.out.2.1.size).trans (b3.mono (Nat.le_trans H1.out.2.1.size H2.out.size)))⟩
    clear hw3 k0 k1 hf2 hf3 b3
    go_wp2_with (go_at_call 16; refine c16.mono ?_; rintro _ w4 ⟨rfl, e4⟩; obtain rfl : w3 = w4 := e4.symm; clear e4 c16)
    refine bodyPost_ret (v := .tuple #[.string ⟨#[]⟩, .agg #[.slice (some ⟨w2.heap.size + 1, 0, .none⟩) 1 1, .int .i64 366]]) (by simp [results, Tryd.results7, go_sem, d0, d1]) rfl ?_
    have hz := H1.out.2.2.1
    have hk := HK.out
    refine HPS.out _ _ _ _ _ _ (by unfold prS; rw [HWV.out]) rfl (.inl ⟨by decide, w2.heap.size + 1, ?_, rfl, ?_, ?_⟩) ?_
    · simpa [World.setCell] using hk.2.2.1
    · refine (cell_ne _ _ _ _ ?_).trans ((cell_ne _ _ _ _ ?_).trans hk.1) <;> (show z + 1 ≠ w2.heap.size + 1; omega)
    · refine (cell_ne _ _ _ _ ?_).trans ((cell_ne _ _ _ _ ?_).trans hk.2.1) <;> (show z + 1 ≠ w2.heap.size + 1; omega)
    · exact (hk.2.2.2.2.setCell (by show w.heap.size ≤ z + 1; omega) _).setCell (by show w.heap.size ≤ z + 1; omega) _
  have HWV : Hid (wrongF S = none) := hwv
  have c15 : Calls Tryd.prog 15 #[.agg (scL S (.slice fp nf fc) (.slice tp nt tc) (.slice ip ni ic)).toArray] W1 fun e w' => e = .returned (.int .i64 (-1)) ∧ Below W1.heap.size W1 w' := c15.mono (fun e w' h => by unfold WrQ at h; rw [hwv] at h; exact h)
  clear hwv
  go_upto_region 4 with (go_at_call 15; refine c15.mono ?_; rintro _ w2 ⟨rfl, b2⟩; have H2 : Hid (Below W1.heap.size W1 w2) := b2; clear b2 c15)
  clear c0 c1 c2 c3 c4 c5
  have HZ2 : Hid (ScZ w2 z S (.slice fp nf fc) (.slice tp nt tc) (.slice ip ni ic) ∧ Below w.heap.size w w2 ∧ z < w2.heap.size ∧ z = w.heap.size) := ⟨H1.out.1.keep H2.out (by have := H1.out.2.2.2.2; omega), H1.out.2.1.trans (H2.out.mono H1.out.2.1.size), by have := H1.out.2.2.2.2; have := H2.out.size; omega, H1.out.2.2.1⟩
  have c2 := HZ2.out.1.c2
  obtain ⟨c0, hc0⟩ : ∃ c : Nat, c = S.init.size := ⟨_, rfl⟩
  have e0 : ((S.init.size : Nat) : Int) = (c0 : Int) := by rw [hc0]
  have HC0 : Hid (c0 = S.init.size) := hc0
  clear hc0
  go_upto_region 5 with fail
  clear c2 e0
  go_wp2_with fail
  go_loopw [5, 6] (fun a k wr => ∃ i : Nat, i ≤ nf ∧ k = .int .i64 i ∧ a = .int .i64 ((c0 : Int) + sumN ((S.files.take i).map fSz)) ∧ Hid (Below w2.heap.size w2 wr)) (fun _ k _ => (nf - intOf k).toNat)
  case atStart => exact ⟨0, by omega, rfl, by simp [sumN], Below.refl _ _⟩
  case round =>
    obtain ⟨i, hi, rfl, rfl, HR⟩ := hrel
    obtain ⟨s, hsv⟩ : ∃ s : Int, s = (c0 : Int) + sumN ((S.files.take i).map fSz) := ⟨_, rfl⟩
    rw [← hsv]
    have w1 : IntKind.i64.wrap ((i : Int) + 1) = (i : Int) + 1 := by rw [IntKind.wrap_i64]; have := HN.out; omega
    have c1 := (HR.out.cell (p := ⟨z, 1, .none⟩) HZ2.out.2.2.1).trans HZ2.out.1.c1
    by_cases hlt : i < nf
    · have g0 : (i : Int) < nf := by omega
      obtain ⟨-, b, o, x, cs, rfl, hbX, hx, ⟨dv, rfl, hD⟩, hcl, hr⟩ := H.out.1.fs.at hlt
      obtain ⟨dp, dc, rfl⟩ := hD.form
      have hbw : b < w.heap.size := by have := H.out.2; omega
      have hbb : b < w2.heap.size := by have := HZ2.out.2.1.size; omega
      have Q : ∀ j v, (x.l (.slice dp x.data.length dc))[j]? = some v → wr.cell? ⟨b, o + i * 5 + j, .none⟩ = some v := fun j v hj => ((HR.out.cell (p := ⟨b, o + i * 5 + j, .none⟩) hbb).trans (HZ2.out.2.1.cell (p := ⟨b, o + i * 5 + j, .none⟩) hbw)).trans (hr j v hj)
      have q0 := Q 0 _ rfl
      have q4 := Q 4 _ rfl
      rw [Nat.add_zero] at q0
      have hnx := take_sum fSz hx
      have hb2 := sumN_take (S.files.map fSz) (i + 1)
      rw [← List.map_take, hnx] at hb2
      have hfz : fSz x = x.path.size + x.data.length := rfl
      have hle : c0 + sumN (S.files.map fSz) ≤ 1100000 := by have h1 := HN.out.2.2.2.2.2.2; unfold lenS at h1; have := HC0.out; omega
      have e1 : IntKind.i64.wrap ((x.path.size : Nat) + ((x.data.length : Nat) : Int)) = ((x.path.size : Nat) : Int) + ((x.data.length : Nat) : Int) := by rw [IntKind.wrap_i64]; omega
      have e2 : IntKind.i64.wrap (s + (((x.path.size : Nat) : Int) + ((x.data.length : Nat) : Int))) = s + (((x.path.size : Nat) : Int) + ((x.data.length : Nat) : Int)) := by rw [IntKind.wrap_i64]; omega
      have HNX : Hid (s + (((x.path.size : Nat) : Int) + ((x.data.length : Nat) : Int)) = (c0 : Int) + sumN ((S.files.take (i + 1)).map fSz)) := by show _ = _; rw [hnx]; omega
      have hS : (fun w' : World => w'.cell? ⟨z, 1, .none⟩ = some (.slice (some ⟨b, o, .none⟩) nf fc) ∧ w'.cell? ⟨b, o + i * 5, .none⟩ = some (.string x.path) ∧ w'.cell? ⟨b, o + i * 5 + 4, .none⟩ = some (.slice dp x.data.length dc)) wr.drew := ⟨c1, q0, q4⟩
      clear Q hr hcl hD hx hbX hbw hbb hnx hb2 hfz hle hsv q0 q4
      go_upto_region 8 with fail
      refine wp_region_held (S := fun w' : World => w'.cell? ⟨z, 1, .none⟩ = some (.slice (some ⟨b, o, .none⟩) nf fc) ∧ w'.cell? ⟨b, o + i * 5, .none⟩ = some (.string x.path) ∧ w'.cell? ⟨b, o + i * 5 + 4, .none⟩ = some (.slice dp x.data.length dc)) (by kernel_rfl) ?_
      refine nT 0 (.int .i64 s) rfl ?_ (fun ww hSw => by obtain ⟨hs1, hs2, hs3⟩ := hSw; go_simp)
      simp only [x0,x1,x2,x3,x4,x5,x6]
      refine nT 1 (.pointer (some ⟨z, 1, .none⟩)) rfl ?_ (fun ww hSw => by obtain ⟨hs1, hs2, hs3⟩ := hSw; go_simp)
      simp only [x0,x1,x2,x3,x4,x5,x6]
      refine nT 2 (.slice (some ⟨b, o, .none⟩) nf fc) rfl ?_ (fun ww hSw => by obtain ⟨hs1, hs2, hs3⟩ := hSw; go_simp)
      simp only [x0,x1,x2,x3,x4,x5,x6]
      refine nT 3 (.int .i64 i) rfl ?_ (fun ww hSw => by obtain ⟨hs1, hs2, hs3⟩ := hSw; go_simp)
      simp only [x0,x1,x2,x3,x4,x5,x6]
      refine nT 4 (.pointer (some ⟨b, o + i * 5, .none⟩)) rfl ?_ (fun ww hSw => by obtain ⟨hs1, hs2, hs3⟩ := hSw; go_simp)
      simp only [x0,x1,x2,x3,x4,x5,x6]
      refine nT 5 (.pointer (some ⟨b, o + i * 5, .none⟩)) rfl ?_ (fun ww hSw => by obtain ⟨hs1, hs2, hs3⟩ := hSw; go_simp)
      simp only [x0,x1,x2,x3,x4,x5,x6]
      refine nT 6 (.string x.path) rfl ?_ (fun ww hSw => by obtain ⟨hs1, hs2, hs3⟩ := hSw; go_simp)
      simp only [x0,x1,x2,x3,x4,x5,x6]
      refine nT 7 (.int .i64 (x.path.size : Nat)) rfl ?_ (fun ww hSw => by obtain ⟨hs1, hs2, hs3⟩ := hSw; go_simp)
      simp only [x0,x1,x2,x3,x4,x5,x6]
      refine nT 8 (.pointer (some ⟨z, 1, .none⟩)) rfl ?_ (fun ww hSw => by obtain ⟨hs1, hs2, hs3⟩ := hSw; go_simp)
      simp only [x0,x1,x2,x3,x4,x5,x6]
      refine nT 9 (.slice (some ⟨b, o, .none⟩) nf fc) rfl ?_ (fun ww hSw => by obtain ⟨hs1, hs2, hs3⟩ := hSw; go_simp)
      simp only [x0,x1,x2,x3,x4,x5,x6]
      refine nT 10 (.int .i64 i) rfl ?_ (fun ww hSw => by obtain ⟨hs1, hs2, hs3⟩ := hSw; go_simp)
      simp only [x0,x1,x2,x3,x4,x5,x6]
      refine nT 11 (.pointer (some ⟨b, o + i * 5, .none⟩)) rfl ?_ (fun ww hSw => by obtain ⟨hs1, hs2, hs3⟩ := hSw; go_simp)
      simp only [x0,x1,x2,x3,x4,x5,x6]
      refine nT 12 (.pointer (some ⟨b, o + i * 5 + 4, .none⟩)) rfl ?_ (fun ww hSw => by obtain ⟨hs1, hs2, hs3⟩ := hSw; go_simp)
      simp only [x0,x1,x2,x3,x4,x5,x6]
      refine nT 13 (.slice dp x.data.length dc) rfl ?_ (fun ww hSw => by obtain ⟨hs1, hs2, hs3⟩ := hSw; go_simp)
      simp only [x0,x1,x2,x3,x4,x5,x6]
      refine nT 14 (.int .i64 (x.data.length : Nat)) rfl ?_ (fun ww hSw => by obtain ⟨hs1, hs2, hs3⟩ := hSw; go_simp)
      simp only [x0,x1,x2,x3,x4,x5,x6]
      refine nT 15 (.int .i64 (((x.path.size : Nat) : Int) + ((x.data.length : Nat) : Int))) rfl ?_ (fun ww hSw => by obtain ⟨hs1, hs2, hs3⟩ := hSw; go_simp)
      simp only [x0,x1,x2,x3,x4,x5,x6]
      refine nT 16 (.int .i64 (s + (((x.path.size : Nat) : Int) + ((x.data.length : Nat) : Int)))) rfl ?_ (fun ww hSw => by obtain ⟨hs1, hs2, hs3⟩ := hSw; go_simp)
      simp only [x0,x1,x2,x3,x4,x5,x6]
      refine nT 17 (.int .i64 (s + (((x.path.size : Nat) : Int) + ((x.data.length : Nat) : Int)))) rfl ?_ (fun ww hSw => by obtain ⟨hs1, hs2, hs3⟩ := hSw; go_simp)
      simp only [x0,x1,x2,x3,x4,x5,x6]
      refine wpAnyH_done (by kernel_rfl) ?_ _
      clear hS
      go_wp2
      exact ⟨⟨i + 1, by omega, by go_num, by rw [HNX.out], HR.out.drew⟩, by simp only [intOf]; omega⟩
    · have g0 : ¬ (i : Int) < nf := by omega
      obtain rfl : i = nf := by omega
      have HES : Hid (s = (c0 : Int) + sumN (S.files.map fSz)) := by
        show _ = _
        rw [hsv, List.take_of_length_le (by have := HN.out.1; omega)]
      clear hsv w1
      go_upto_region 9 with fail
      clear c1 g0
      go_wp2_with fail
      go_loopw [5, 7] (fun a k wr => ∃ j : Nat, j ≤ ni ∧ k = .int .i64 j ∧ a = .int .i64 (s + sumN ((S.ins.take j).map iSz)) ∧ Hid (Below w2.heap.size w2 wr)) (fun _ k _ => (ni - intOf k).toNat)
      case atStart => exact ⟨0, by omega, rfl, by simp [sumN], HR.out⟩
      case round =>
        obtain ⟨j, hj, rfl, rfl, HR⟩ := hrel
        obtain ⟨t, htv⟩ : ∃ t : Int, t = s + sumN ((S.ins.take j).map iSz) := ⟨_, rfl⟩
        rw [← htv]
        have w1 : IntKind.i64.wrap ((j : Int) + 1) = (j : Int) + 1 := by rw [IntKind.wrap_i64]; have := HN.out; omega
        have c5 := (HR.out.cell (p := ⟨z, 5, .none⟩) HZ2.out.2.2.1).trans HZ2.out.1.c5
        by_cases hlt : j < ni
        · have g0 : (j : Int) < ni := by omega
          obtain ⟨-, b, o, x, cs, rfl, hbX, hx, ⟨dv, rfl, hD⟩, hcl, hr⟩ := H.out.1.is.at hlt
          obtain ⟨dp, dc, rfl⟩ := hD.form
          have hbw : b < w.heap.size := by have := H.out.2; omega
          have hbb : b < w2.heap.size := by have := HZ2.out.2.1.size; omega
          have q1 := ((HR.out.cell (p := ⟨b, o + j * 2 + 1, .none⟩) hbb).trans (HZ2.out.2.1.cell (p := ⟨b, o + j * 2 + 1, .none⟩) hbw)).trans (hr 1 _ rfl)
          have hnx := take_sum iSz hx
          have hb2 := sumN_take (S.ins.map iSz) (j + 1)
          rw [← List.map_take, hnx] at hb2
          have hfz : iSz x = x.data.length := rfl
          have hle : s + sumN (S.ins.map iSz) ≤ 1100000 ∧ 0 ≤ s := by have h1 := HN.out.2.2.2.2.2.2; unfold lenS at h1; have := HC0.out; have := HES.out; omega
          have e1 : IntKind.i64.wrap (t + ((x.data.length : Nat) : Int)) = t + ((x.data.length : Nat) : Int) := by rw [IntKind.wrap_i64]; omega
          have HNX : Hid (t + ((x.data.length : Nat) : Int) = s + sumN ((S.ins.take (j + 1)).map iSz)) := by show _ = _; rw [hnx]; omega
          clear hr hcl hD hx hbX hbw hbb hnx hb2 hfz hle htv
          go_wp2_with fail
          exact ⟨⟨j + 1, by omega, by go_num, by rw [HNX.out], HR.out⟩, by simp only [intOf]; omega⟩
        · have g0 : ¬ (j : Int) < ni := by omega
          obtain rfl : j = ni := by omega
          have HT : Hid (t = ((lenS S : Nat) : Int)) := by
            show _ = _
            rw [htv, List.take_of_length_le (by have := HN.out.2.2.1; omega)]
            have h1 := HES.out
            have h2 := HC0.out
            unfold lenS
            omega
          clear htv w1
          go_upto_region 13 with fail
          clear c5 g0
          have HWr : Hid (ScZ wr z S (.slice fp i fc) (.slice tp nt tc) (.slice ip j ic) ∧ Below w.heap.size w wr ∧ wr.heap[z + 1]? = some (.cells #[.slice .none 0 0, .int .i64 0] 35 (0, 0)) ∧ z = w.heap.size) := ⟨HZ2.out.1.keep HR.out HZ2.out.2.2.1, HZ2.out.2.1.trans (HR.out.mono HZ2.out.2.1.size), (HR.out.block (z + 1) (by have := H1.out.2.2.2.2; have := H2.out.size; omega)).trans ((H2.out.block (z + 1) (by have := H1.out.2.2.2.2; omega)).trans H1.out.2.2.2.1), HZ2.out.2.2.2⟩
          by_cases hfar : (1048576 : Int) < t
          · have HFA : Hid (1048576 < lenS S) := by have := HT.out; show _ < _; omega
            go_upto_region 14 with fail
            have hf2 := HWr.out.2.2.1
            have HWB : Hid (Below w.heap.size w wr ∧ z = w.heap.size) := ⟨HWr.out.2.1, HWr.out.2.2.2⟩
            have c16 := rnew_any ramB (0) 360 wr
            obtain ⟨w3, hw3⟩ : ∃ w3, w3 = (wr.alloc (.cells #[.slice (some ⟨wr.heap.size + 1, 0, .none⟩) 1 1, .int .i64 360] 35)).alloc (.cells #[.string ramB, .int .i64 (0)] 77) := ⟨_, rfl⟩
            rw [← hw3] at c16
            have b3 : Below wr.heap.size wr w3 := by rw [hw3]; exact (below1 _ _).alloc (by simp) _
            have hf3 : w3.heap[z + 1]? = some (.cells #[.slice .none 0 0, .int .i64 0] 35 (0, 0)) := (b3.block (z + 1) (hp_lt hf2)).trans hf2
            have d0 : w3.cell? ⟨z + 1, 0, .none⟩ = some (.slice .none 0 0) := cell_heap hf3
            have d1 : w3.cell? ⟨z + 1, 1, .none⟩ = some (.int .i64 0) := cell_heap hf3
            have f0 : w3.frozen? ⟨z + 1, 0, .none⟩ = false := frozen_heap hf3
            have f1 : w3.frozen? ⟨z + 1, 1, .none⟩ = false := frozen_heap hf3
            have k0 : w3.cell? ⟨wr.heap.size + 1, 0, .none⟩ = some (.string ramB) := by rw [hw3]; simp
            have k1 : w3.cell? ⟨wr.heap.size + 1, 1, .none⟩ = some (.int .i64 (0)) := by rw [hw3]; simp
            have HK : Hid (w3.cell? ⟨wr.heap.size + 1, 0, .none⟩ = some (.string ramB) ∧ w3.cell? ⟨wr.heap.size + 1, 1, .none⟩ = some (.int .i64 (0)) ∧ wr.heap.size + 1 < w3.heap.size ∧ z + 1 < wr.heap.size ∧ Below w.heap.size w w3 ∧ z = w.heap.size) := ⟨k0, k1, by rw [hw3]; simp, hp_lt hf2, HWB.out.1.trans (b3.mono HWB.out.1.size), HWB.out.2⟩
            clear hw3 k0 k1 hf2 hf3 b3
            go_wp2_with (go_at_call 16; refine c16.mono ?_; rintro _ w4 ⟨rfl, e4⟩; obtain rfl : w3 = w4 := e4.symm; clear e4 c16)
            refine bodyPost_ret (v := .tuple #[.string ⟨#[]⟩, .agg #[.slice (some ⟨wr.heap.size + 1, 0, .none⟩) 1 1, .int .i64 360]]) (by simp [results, Tryd.results7, go_sem, d0, d1]) rfl ?_
            have hk := HK.out
            have hz := hk.2.2.2.2.2
            refine HPS.out _ _ _ (0) 360 _ (by unfold prS; rw [HWV.out]; simp only []; rw [if_pos HFA.out]) rfl (.inl ⟨by decide, wr.heap.size + 1, ?_, rfl, ?_, ?_⟩) ?_
            · simpa [World.setCell] using hk.2.2.1
            · refine (cell_ne _ _ _ _ ?_).trans ((cell_ne _ _ _ _ ?_).trans hk.1) <;> (show z + 1 ≠ wr.heap.size + 1; omega)
            · refine (cell_ne _ _ _ _ ?_).trans ((cell_ne _ _ _ _ ?_).trans hk.2.1) <;> (show z + 1 ≠ wr.heap.size + 1; omega)
            · exact (hk.2.2.2.2.1.setCell (by show w.heap.size ≤ z + 1; omega) _).setCell (by show w.heap.size ≤ z + 1; omega) _
          have HNF : Hid (¬ 1048576 < lenS S) := by have := HT.out; show ¬ _ < _; omega
          go_upto_region 15 with fail
          clear hfar
          obtain ⟨A1, hA1⟩ : ∃ A, A = itS S.fr := ⟨_, rfl⟩
          obtain ⟨A2, hA2⟩ : ∃ A, A = itS S.bu := ⟨_, rfl⟩
          obtain ⟨A3, hA3⟩ : ∃ A, A = toB (qt (bsI S.init)) := ⟨_, rfl⟩
          have z1 : A1.size ≤ 20 := by rw [hA1]; exact itS_size _ HN.out.2.2.2.2.2.1.fr
          have z2 : A2.size ≤ 20 := by rw [hA2]; exact itS_size _ HN.out.2.2.2.2.2.1.bu
          have z3 : A3.size ≤ 5000000 := by
            rw [hA3, toB_size]
            have h1 := qt_len (bsI S.init)
            rw [bsI_len] at h1
            have h2 := HN.out.2.2.2.2.2.2
            unfold lenS at h2
            omega
          have HA : Hid (A1 = itS S.fr ∧ A2 = itS S.bu ∧ A3 = toB (qt (bsI S.init)) ∧ A1.size ≤ 20 ∧ A2.size ≤ 20 ∧ A3.size ≤ 5000000) := ⟨hA1, hA2, hA3, z1, z2, z3⟩
          obtain ⟨s3, hs3⟩ : ∃ s, s = (⟨#[102, 114, 97, 109, 101, 115, 32]⟩ : ByteArray) ++ A1 := ⟨_, rfl⟩
          obtain ⟨s4, hs4⟩ : ∃ s, s = s3 ++ (⟨#[10, 98, 117, 100, 103, 101, 116, 32]⟩ : ByteArray) := ⟨_, rfl⟩
          obtain ⟨s8, hs8⟩ : ∃ s, s = s4 ++ A2 := ⟨_, rfl⟩
          obtain ⟨s9, hs9⟩ : ∃ s, s = s8 ++ (⟨#[10, 105, 110, 105, 116, 32]⟩ : ByteArray) := ⟨_, rfl⟩
          obtain ⟨s13, hs13⟩ : ∃ s, s = s9 ++ A3 := ⟨_, rfl⟩
          obtain ⟨s14, hs14⟩ : ∃ s, s = s13 ++ (⟨#[10]⟩ : ByteArray) := ⟨_, rfl⟩
          have r3 := cat_run (⟨#[102, 114, 97, 109, 101, 115, 32]⟩ : ByteArray) A1 (by show 7 + A1.size ≤ _; omega)
          have l3 : s3.size = 7 + A1.size := by rw [hs3, ByteArray.size_append]; rfl
          have r4 := cat_run s3 (⟨#[10, 98, 117, 100, 103, 101, 116, 32]⟩ : ByteArray) (by show s3.size + 8 ≤ _; omega)
          have l4 : s4.size = s3.size + 8 := by rw [hs4, ByteArray.size_append]; rfl
          have r8 := cat_run s4 A2 (by omega)
          have l8 : s8.size = s4.size + A2.size := by rw [hs8, ByteArray.size_append]
          have r9 := cat_run s8 (⟨#[10, 105, 110, 105, 116, 32]⟩ : ByteArray) (by show s8.size + 6 ≤ _; omega)
          have l9 : s9.size = s8.size + 6 := by rw [hs9, ByteArray.size_append]; rfl
          have r13 := cat_run s9 A3 (by omega)
          have l13 : s13.size = s9.size + A3.size := by rw [hs13, ByteArray.size_append]
          have r14 := cat_run s13 (⟨#[10]⟩ : ByteArray) (by show s13.size + 1 ≤ _; omega)
          rw [← hs3] at r3
          rw [← hs4] at r4
          rw [← hs8] at r8
          rw [← hs9] at r9
          rw [← hs13] at r13
          rw [← hs14] at r14
          have kS : wr.drew.cell? ⟨z, 0, .none⟩ = some (.int .i64 S.fr) ∧ wr.drew.cell? ⟨z, 2, .none⟩ = some (.string S.init) ∧ wr.drew.cell? ⟨z, 3, .none⟩ = some (.int .i64 S.bu) := ⟨HWr.out.1.c0, HWr.out.1.c2, HWr.out.1.c3⟩
          have HTB : Hid (TB wr.drew) := H.out.2.2.keep HWr.out.2.1.drew
          have c17 := dec_any S.fr HN.out.2.2.2.2.2.1.fr HTB.out
          rw [← hA1] at c17
          have HS : Hid (s3 = (⟨#[102, 114, 97, 109, 101, 115, 32]⟩ : ByteArray) ++ A1 ∧ s4 = s3 ++ (⟨#[10, 98, 117, 100, 103, 101, 116, 32]⟩ : ByteArray) ∧ s8 = s4 ++ A2 ∧ s9 = s8 ++ (⟨#[10, 105, 110, 105, 116, 32]⟩ : ByteArray) ∧ s13 = s9 ++ A3 ∧ s14 = s13 ++ (⟨#[10]⟩ : ByteArray) ∧ s14.size ≤ 5000100) := ⟨hs3, hs4, hs8, hs9, hs13, hs14, by have := l3; rw [hs14, ByteArray.size_append]; show s13.size + 1 ≤ _; omega⟩
          have kS0 := kS
          have kS : Hid (wr.drew.cell? ⟨z, 0, .none⟩ = some (.int .i64 S.fr) ∧ wr.drew.cell? ⟨z, 2, .none⟩ = some (.string S.init) ∧ wr.drew.cell? ⟨z, 3, .none⟩ = some (.int .i64 S.bu)) := kS0
          clear kS0 hs3 hs4 hs8 hs9 hs13 hs14 l3 l4 l8 l9 l13 z1 z2 z3 hA1
          refine wp_region_held_drew (S := fun U => U.cell? ⟨z, 0, .none⟩ = some (.int .i64 S.fr) ∧ U.cell? ⟨z, 2, .none⟩ = some (.string S.init) ∧ U.cell? ⟨z, 3, .none⟩ = some (.int .i64 S.bu)) (by kernel_rfl) kS.out (fun hHeld => ?_)
          refine nT 0 (.pointer (some ⟨z, 0, .none⟩)) rfl ?_ (fun ww hSw => by obtain ⟨hs0, hs2, hs3⟩ := hSw; go_simp)
          simp only [x0,x1,x2,x3,x4,x5,x6]
          refine nT 1 (.int .i64 S.fr) rfl ?_ (fun ww hSw => by obtain ⟨hs0, hs2, hs3⟩ := hSw; go_simp)
          simp only [x0,x1,x2,x3,x4,x5,x6]
          refine nT 5 (.pointer (some ⟨z, 3, .none⟩)) rfl ?_ (fun ww hSw => by obtain ⟨hs0, hs2, hs3⟩ := hSw; go_simp)
          simp only [x0,x1,x2,x3,x4,x5,x6]
          refine nT 6 (.int .i64 S.bu) rfl ?_ (fun ww hSw => by obtain ⟨hs0, hs2, hs3⟩ := hSw; go_simp)
          simp only [x0,x1,x2,x3,x4,x5,x6]
          refine nT 10 (.pointer (some ⟨z, 2, .none⟩)) rfl ?_ (fun ww hSw => by obtain ⟨hs0, hs2, hs3⟩ := hSw; go_simp)
          simp only [x0,x1,x2,x3,x4,x5,x6]
          refine nT 11 (.string S.init) rfl ?_ (fun ww hSw => by obtain ⟨hs0, hs2, hs3⟩ := hSw; go_simp)
          simp only [x0,x1,x2,x3,x4,x5,x6]
          refine wpAnyH_ready (rs := [2]) (by kernel_rfl) (by simp) ?_
          refine AllReadyH.cons rfl (fun K hK => ?_) AllReadyH.nil
          go_simp
          go_at_call 17
          refine (c17).mono ?_
          rintro _ wa ⟨rfl, ba⟩
          have BA : Hid (Below wr.drew.heap.size wr.drew wa) := ba
          clear ba c17
          have kSa : Hid (wa.cell? ⟨z, 0, .none⟩ = some (.int .i64 S.fr) ∧ wa.cell? ⟨z, 2, .none⟩ = some (.string S.init) ∧ wa.cell? ⟨z, 3, .none⟩ = some (.int .i64 S.bu)) := ⟨(BA.out.cell (lt_of_cell kS.out.1)).trans kS.out.1, (BA.out.cell (lt_of_cell kS.out.2.1)).trans kS.out.2.1, (BA.out.cell (lt_of_cell kS.out.2.2)).trans kS.out.2.2⟩
          have c17 := dec_any S.bu HN.out.2.2.2.2.2.1.bu (HTB.out.keep BA.out)
          rw [← hA2] at c17
          refine hK.out _ _ (kSa.out) (fun hHeld => ?_)
          clear hK K
          try simp only [x0,x1,x2,x3,x4,x5,x6]
          refine nT 3 (.string s3) rfl ?_ (fun ww hSw => r3 ww _ _ _ _ rfl rfl rfl)
          simp only [x0,x1,x2,x3,x4,x5,x6]
          refine nT 4 (.string s4) rfl ?_ (fun ww hSw => r4 ww _ _ _ _ rfl rfl rfl)
          simp only [x0,x1,x2,x3,x4,x5,x6]
          refine wpAnyH_ready (rs := [7]) (by kernel_rfl) (by simp) ?_
          refine AllReadyH.cons rfl (fun K hK => ?_) AllReadyH.nil
          go_simp
          go_at_call 17
          refine (c17).mono ?_
          rintro _ wb ⟨rfl, bb⟩
          have BB : Hid (Below wr.drew.heap.size wr.drew wb) := BA.out.trans (bb.mono BA.out.size)
          clear bb c17
          have kSb : Hid (wb.cell? ⟨z, 0, .none⟩ = some (.int .i64 S.fr) ∧ wb.cell? ⟨z, 2, .none⟩ = some (.string S.init) ∧ wb.cell? ⟨z, 3, .none⟩ = some (.int .i64 S.bu)) := ⟨(BB.out.cell (lt_of_cell kS.out.1)).trans kS.out.1, (BB.out.cell (lt_of_cell kS.out.2.1)).trans kS.out.2.1, (BB.out.cell (lt_of_cell kS.out.2.2)).trans kS.out.2.2⟩
          have c18 := rquote_any S.init (by have h2 := HN.out.2.2.2.2.2.2; unfold lenS at h2; omega) wb
          rw [← hA3] at c18
          refine hK.out _ _ (kSb.out) (fun hHeld => ?_)
          clear hK K
          try simp only [x0,x1,x2,x3,x4,x5,x6]
          refine nT 8 (.string s8) rfl ?_ (fun ww hSw => r8 ww _ _ _ _ rfl rfl rfl)
          simp only [x0,x1,x2,x3,x4,x5,x6]
          refine nT 9 (.string s9) rfl ?_ (fun ww hSw => r9 ww _ _ _ _ rfl rfl rfl)
          simp only [x0,x1,x2,x3,x4,x5,x6]
          refine wpAnyH_ready (rs := [12]) (by kernel_rfl) (by simp) ?_
          refine AllReadyH.cons rfl (fun K hK => ?_) AllReadyH.nil
          go_simp
          go_at_call 18
          refine (c18).mono ?_
          rintro _ wc ⟨rfl, bc⟩
          have BC : Hid (Below wr.drew.heap.size wr.drew wc) := BB.out.trans (bc.mono BB.out.size)
          clear bc c18
          have kSc : Hid (wc.cell? ⟨z, 0, .none⟩ = some (.int .i64 S.fr) ∧ wc.cell? ⟨z, 2, .none⟩ = some (.string S.init) ∧ wc.cell? ⟨z, 3, .none⟩ = some (.int .i64 S.bu)) := ⟨(BC.out.cell (lt_of_cell kS.out.1)).trans kS.out.1, (BC.out.cell (lt_of_cell kS.out.2.1)).trans kS.out.2.1, (BC.out.cell (lt_of_cell kS.out.2.2)).trans kS.out.2.2⟩
          refine hK.out _ _ (kSc.out) (fun hHeld => ?_)
          clear hK K
          try simp only [x0,x1,x2,x3,x4,x5,x6]
          refine nT 13 (.string s13) rfl ?_ (fun ww hSw => r13 ww _ _ _ _ rfl rfl rfl)
          simp only [x0,x1,x2,x3,x4,x5,x6]
          refine nT 14 (.string s14) rfl ?_ (fun ww hSw => r14 ww _ _ _ _ rfl rfl rfl)
          simp only [x0,x1,x2,x3,x4,x5,x6]
          obtain ⟨cT, wt, hcv, hot, hbt⟩ := convT wc s14 (by have := HS.out.2.2.2.2.2.2; omega)
          have BT : Hid (ownT wt wc.heap.size (.slice (some ⟨wc.heap.size, 0, .none⟩) s14.size cT) (bsI s14) ∧ Below wr.drew.heap.size wr.drew wt ∧ wr.heap.size ≤ wc.heap.size) := ⟨hot, BC.out.trans (hbt.mono BC.out.size), BC.out.size⟩
          clear hot hbt
          have kSt : Hid (wt.cell? ⟨z, 0, .none⟩ = some (.int .i64 S.fr) ∧ wt.cell? ⟨z, 2, .none⟩ = some (.string S.init) ∧ wt.cell? ⟨z, 3, .none⟩ = some (.int .i64 S.bu)) := ⟨(BT.out.2.1.cell (lt_of_cell kS.out.1)).trans kS.out.1, (BT.out.2.1.cell (lt_of_cell kS.out.2.1)).trans kS.out.2.1, (BT.out.2.1.cell (lt_of_cell kS.out.2.2)).trans kS.out.2.2⟩
          refine wpAnyH_ready (rs := [15]) (by kernel_rfl) (by simp) ?_
          refine AllReadyH.cons rfl (fun K hK => ?_) AllReadyH.nil
          go_simp
          refine hK.out _ _ kSt.out (fun hHeld => ?_)
          clear hK K hcv
          try simp only [x0,x1,x2,x3,x4,x5,x6]
          refine nT 16 (.slice (some ⟨wc.heap.size, 0, .none⟩) s14.size cT) rfl ?_ (fun ww hSw => by obtain ⟨hs0, hs2, hs3⟩ := hSw; go_simp)
          simp only [x0,x1,x2,x3,x4,x5,x6]
          refine wpAnyH_done (by kernel_rfl) ?_ _
          have hhd : bsI s14 = hdT S := by
            have h := HS.out
            have ha := HA.out
            rw [h.2.2.2.2.2.1, h.2.2.2.2.1, h.2.2.2.1, h.2.2.1, h.2.1, h.1, bsI_app, bsI_app, bsI_app, bsI_app, bsI_app, bsI_app, ha.1, ha.2.1, ha.2.2.1, qtS]
            rfl
          obtain ⟨tb, htb⟩ : ∃ tb, tb = wc.heap.size := ⟨_, rfl⟩
          have HTx : Hid (ownT wt tb (.slice (some ⟨wc.heap.size, 0, .none⟩) s14.size cT) (hdT S) ∧ s14.size = (hdT S).length ∧ (hdT S).length ≤ 5000100) := ⟨by rw [htb, ← hhd]; exact BT.out.1, by rw [← hhd, bsI_len], by rw [← hhd, bsI_len]; exact HS.out.2.2.2.2.2.2⟩
          have HWt : Hid (ScZ wt z S (.slice fp i fc) (.slice tp nt tc) (.slice ip j ic) ∧ Below w.heap.size w wt ∧ wt.heap[z + 1]? = some (.cells #[.slice .none 0 0, .int .i64 0] 35 (0, 0)) ∧ z = w.heap.size ∧ z + 1 < tb ∧ tb ≤ wt.heap.size ∧ w.heap.size ≤ tb) := by
            have hz1 := hp_lt HWr.out.2.2.1
            have h0 : Below wr.heap.size wr wt := (Below.refl _ _).drew.trans BT.out.2.1
            have h1 := HTx.out.1.lt _ rfl
            have h2 := BT.out.2.2
            exact ⟨HWr.out.1.keep h0 HWr.out.1.lt, HWr.out.2.1.trans (h0.mono HWr.out.2.1.size), (h0.block _ hz1).trans HWr.out.2.2.1, HWr.out.2.2.2, by omega, by omega, by have := HWr.out.2.1.size; omega⟩
          clear hhd kSt kSc kSb kSa kS HTB
          have HTl : Hid (∀ m, m ≤ i → (hdT S ++ (S.files.take m).flatMap flT).length ≤ 15000000) := by
            intro m hm
            have h1 := flats_len (S.files.take m) (fun f hf => by have := HN.out.2.2.2.2.2.1.fs f (List.mem_of_mem_take hf); exact ⟨i16_64 this.2.2.1, i16_64 this.2.2.2.1⟩)
            have h2 := sumN_take (S.files.map fSz) m
            rw [← List.map_take] at h2
            have h3 : (S.files.take m).length ≤ m := List.length_take_le _ _
            have h4 := HN.out.2.2.2.2.2.2
            unfold lenS at h4
            have h5 := HTx.out.2.2
            have h6 := HN.out.2.2.2.1
            rw [List.length_append]
            omega
          have hsl : s14.size = (hdT S ++ (S.files.take 0).flatMap flT).length := by rw [HTx.out.2.1]; simp
          go_wp2_with fail
          go_loopw [8, 9] (fun v k wr => ∃ m : Nat, m ≤ i ∧ k = .int .i64 m ∧ ∃ g n c, v = .slice (some ⟨g, 0, .none⟩) n c ∧ Hid (ownT wr tb (.slice (some ⟨g, 0, .none⟩) n c) (hdT S ++ (S.files.take m).flatMap flT) ∧ Below tb wt wr ∧ n = (hdT S ++ (S.files.take m).flatMap flT).length)) (fun _ k _ => (i - intOf k).toNat)
          case atStart => exact ⟨0, by omega, rfl, _, _, _, rfl, by have h := HTx.out.1; simpa using h, Below.refl _ _, hsl⟩
          case round =>
            obtain ⟨m, hm, rfl, g, n, c, rfl, HR⟩ := hrel
            clear hsl
            have w1 : IntKind.i64.wrap ((m : Int) + 1) = (m : Int) + 1 := by rw [IntKind.wrap_i64]; have := HN.out.2.2.2.1; omega
            have hzt : z < tb := by have := HWt.out.2.2.2.2.1; omega
            have c1 := (HR.out.2.1.cell (p := ⟨z, 1, .none⟩) hzt).trans HWt.out.1.c1
            have HWB : Hid (Below w.heap.size w wr ∧ tb ≤ wr.heap.size ∧ n ≤ 15000000) := ⟨HWt.out.2.1.trans (HR.out.2.1.mono HWt.out.2.2.2.2.2.2), Nat.le_trans HWt.out.2.2.2.2.2.1 HR.out.2.1.size, by have := HTl.out m hm; have := HR.out.2.2; omega⟩
            by_cases hlt : m < i
            · have g0 : (m : Int) < i := by omega
              obtain ⟨-, b, o, x, cs, rfl, hbX, hx, ⟨dv, rfl, hD⟩, hcl, hr⟩ := H.out.1.fs.at hlt
              obtain ⟨dp, dc, rfl⟩ := hD.form
              have hbw : b < w.heap.size := by have := H.out.2.1; omega
              have Q : ∀ j v, (x.l (.slice dp x.data.length dc))[j]? = some v → wr.cell? ⟨b, o + m * 5 + j, .none⟩ = some v := fun j v hj => (HWB.out.1.cell (p := ⟨b, o + m * 5 + j, .none⟩) hbw).trans (hr j v hj)
              have q0 := Q 0 _ rfl
              have q1 := Q 1 _ rfl
              have q2 := Q 2 _ rfl
              have q3 := Q 3 _ rfl
              have q4 := Q 4 _ rfl
              rw [Nat.add_zero] at q0
              have HX : Hid (S.files[m]? = some x ∧ Bt w X (.slice dp x.data.length dc) x.data) := ⟨hx, hD⟩
              clear Q hr hcl hD hx hbX hbw
              go_upto_region 20 with fail
              clear q0 q1 q2 q3 q4 c1
              obtain ⟨wy, hwy⟩ : ∃ wy, wy = wr.alloc (.cells #[.string x.path, .int .i64 x.ty, .int .i16 x.mj, .int .i16 x.mn, .slice dp x.data.length dc] 43) := ⟨_, rfl⟩
              have by1 : Below wr.heap.size wr wy := by rw [hwy]; exact below1 _ _
              have y0 : wy.cell? ⟨wr.heap.size, 0, .none⟩ = some (.string x.path) := by rw [hwy]; simp
              have y1 : wy.cell? ⟨wr.heap.size, 1, .none⟩ = some (.int .i64 x.ty) := by rw [hwy]; simp
              have y2 : wy.cell? ⟨wr.heap.size, 2, .none⟩ = some (.int .i16 x.mj) := by rw [hwy]; simp
              have y3 : wy.cell? ⟨wr.heap.size, 3, .none⟩ = some (.int .i16 x.mn) := by rw [hwy]; simp
              have y4 : wy.cell? ⟨wr.heap.size, 4, .none⟩ = some (.slice dp x.data.length dc) := by rw [hwy]; simp
              rw [← hwy]
              have HY : Hid (Below wr.heap.size wr wy ∧ ownT wy tb (.slice (some ⟨g, 0, .none⟩) n c) (hdT S ++ (S.files.take m).flatMap flT) ∧ Below tb wt wy ∧ tb ≤ wy.heap.size ∧ Below w.heap.size w wy ∧ wr.heap.size < wy.heap.size) := ⟨by1, HR.out.1.bel by1, HR.out.2.1.trans (by1.mono HWB.out.2.1), Nat.le_trans HWB.out.2.1 by1.size, HWB.out.1.trans (by1.mono HWB.out.1.size), lt_of_cell y0⟩
              clear hwy by1
              obtain ⟨yb, hyb⟩ : ∃ yb, yb = wr.heap.size := ⟨_, rfl⟩
              rw [← hyb] at y0 y1 y2 y3 y4 ⊢
              have HYB : Hid (yb = wr.heap.size) := hyb
              clear hyb
              have HFIN : Hid (∀ (zs : List Int) (v' : Value) (w' : World), flT x = zs → ownT w' tb v' (hdT S ++ (S.files.take m).flatMap flT ++ zs) → Below tb wy w' → ∃ g n c, v' = .slice (some ⟨g, 0, .none⟩) n c ∧ Hid (ownT w' tb (.slice (some ⟨g, 0, .none⟩) n c) (hdT S ++ (S.files.take (m + 1)).flatMap flT) ∧ Below tb wt w' ∧ n = (hdT S ++ (S.files.take (m + 1)).flatMap flT).length)) := by
                intro zs v' w' hz ho hb
                rw [List.append_assoc, ← hz, ← take_fl HX.out.1] at ho
                obtain ⟨g', c', rfl⟩ := ho.form
                exact ⟨g', _, c', rfl, ho, HY.out.2.2.1.trans hb, rfl⟩
              have HXB : Hid (x.path.size ≤ 1100000 ∧ x.data.length ≤ 1100000 ∧ i64b x.mj ∧ i64b x.mn ∧ (∀ y ∈ x.data, 0 ≤ y ∧ y < 256)) := by
                have h1 := sumN_mem (List.mem_map_of_mem (f := fSz) (List.mem_of_getElem? HX.out.1))
                have h2 := HN.out.2.2.2.2.2.2
                unfold lenS at h2
                have h3 : fSz x = x.path.size + x.data.length := rfl
                have h4 := HN.out.2.2.2.2.2.1.fs x (List.mem_of_getElem? HX.out.1)
                exact ⟨by omega, by omega, i16_64 h4.2.2.1, i16_64 h4.2.2.2.1, h4.2.2.2.2.2⟩
              go_upto_block 6 with fail
              have zq := qt_len (bsI x.path)
              rw [bsI_len] at zq
              obtain ⟨AQ, hAQ⟩ : ∃ A, A = toB (qt (bsI x.path)) := ⟨_, rfl⟩
              have zA : AQ.size ≤ 4400010 := by rw [hAQ, toB_size]; have := HXB.out.1; omega
              have HAQ : Hid (AQ = toB (qt (bsI x.path)) ∧ AQ.size ≤ 4400010 ∧ bsI AQ = qt (bsI x.path)) := ⟨hAQ, zA, by rw [hAQ, qtS]⟩
              have c18 : ∀ U, Calls Tryd.prog 18 #[.string x.path] U fun e w' => e = .returned (.string AQ) ∧ Below U.heap.size U w' := fun U => by rw [hAQ]; exact rquote_any x.path (by have := HXB.out.1; omega) U
              clear hAQ zq
              by_cases t1 : x.ty = 1
              · have h1 : ¬ 9223372036854775807 < 4 + AQ.size := by omega
                have h2 : ¬ 9223372036854775807 < 4 + AQ.size + 1 := by omega
                have h3 : ¬ 9223372036854775807 < ((⟨#[100, 105, 114, 32]⟩ : ByteArray) ++ AQ).size + 1 := by rw [ByteArray.size_append]; show ¬ _ < 4 + AQ.size + 1; omega
                go_wp2_with (first | (go_at_call 18; refine (c18 _).mono ?_; rintro _ wa ⟨rfl, ba⟩; obtain ⟨v2, w2a, hap, hot, hgr⟩ := appStr (HY.out.2.1.bel ba) ((⟨#[100, 105, 114, 32]⟩ : ByteArray) ++ AQ ++ (⟨#[10]⟩ : ByteArray)) (by rw [ByteArray.size_append, ByteArray.size_append, ← HR.out.2.2]; have := HWB.out.2.2; show n + (4 + AQ.size + 1) ≤ _; omega) (Nat.le_trans HY.out.2.2.2.1 ba.size) 41; have H2A : Hid (ownT w2a tb v2 ((hdT S ++ (S.files.take m).flatMap flT) ++ bsI ((⟨#[100, 105, 114, 32]⟩ : ByteArray) ++ AQ ++ (⟨#[10]⟩ : ByteArray))) ∧ Below tb wy w2a) := ⟨hot, (ba.mono HY.out.2.2.2.1).trans ((Below.refl tb wa).grown hgr (Nat.le_trans HY.out.2.2.2.1 ba.size) (fun k hk => ((HY.out.2.1.bel ba).lt k hk).1))⟩; clear hot hgr ba) | (at_builtin; refine wpList_app rfl _ _ 41 9 rfl rfl rfl hap ?_; clear hap) | fail)
                refine ⟨⟨m + 1, by omega, by go_num, HFIN.out _ _ _ ?_ H2A.out.1 H2A.out.2⟩, by simp only [intOf]; omega⟩
                unfold flT
                rw [if_pos t1, bsI_app, bsI_app, HAQ.out.2.2]
                rfl
              by_cases t2 : x.ty = 2
              · have r1 := cat_run (⟨#[98, 121, 116, 101, 115, 32]⟩ : ByteArray) AQ (by show 6 + AQ.size ≤ _; omega)
                obtain ⟨S1, hS1⟩ : ∃ s, s = (⟨#[98, 121, 116, 101, 115, 32]⟩ : ByteArray) ++ AQ := ⟨_, rfl⟩
                have l1 : S1.size = 6 + AQ.size := by rw [hS1, ByteArray.size_append]; rfl
                have r2 := cat_run S1 (⟨#[10]⟩ : ByteArray) (by show S1.size + 1 ≤ _; omega)
                obtain ⟨S2, hS2⟩ : ∃ s, s = S1 ++ (⟨#[10]⟩ : ByteArray) := ⟨_, rfl⟩
                have l2 : S2.size = S1.size + 1 := by rw [hS2, ByteArray.size_append]; rfl
                obtain ⟨AB, hAB⟩ : ∃ A, A = toB (blkP x.data x.data.length ++ [101, 110, 100, 10]) := ⟨_, rfl⟩
                have lB : AB.size ≤ 3300010 := by rw [hAB, toB_size, List.length_append]; have := blkP_len x.data x.data.length; have := HXB.out.2.1; simp only [List.length_cons, List.length_nil]; omega
                have r3 := cat_run S2 AB (by omega)
                obtain ⟨S3, hS3⟩ : ∃ s, s = S2 ++ AB := ⟨_, rfl⟩
                have l3 : S3.size = S2.size + AB.size := by rw [hS3, ByteArray.size_append]
                rw [← hS1] at r1
                rw [← hS2] at r2
                rw [← hS3] at r3
                have HSS : Hid (S1 = (⟨#[98, 121, 116, 101, 115, 32]⟩ : ByteArray) ++ AQ ∧ S2 = S1 ++ (⟨#[10]⟩ : ByteArray) ∧ S3 = S2 ++ AB ∧ AB = toB (blkP x.data x.data.length ++ [101, 110, 100, 10]) ∧ S3.size ≤ 9000000) := ⟨hS1, hS2, hS3, hAB, by omega⟩
                clear hS1 hS2 hS3 l1 l2 lB l3
                have kS : Hid (wy.drew.cell? ⟨yb, 0, .none⟩ = some (.string x.path) ∧ wy.drew.cell? ⟨yb, 4, .none⟩ = some (.slice dp x.data.length dc)) := ⟨y0, y4⟩
                go_upto_region 24 with fail
                refine wp_region_held_drew (S := fun U => U.cell? ⟨yb, 0, .none⟩ = some (.string x.path) ∧ U.cell? ⟨yb, 4, .none⟩ = some (.slice dp x.data.length dc)) (by kernel_rfl) kS.out (fun hHeld => ?_)
                refine nT 0 (.slice (some ⟨g, 0, .none⟩) n c) rfl ?_ (fun ww hSw => by obtain ⟨hs0, hs4⟩ := hSw; go_simp)
                simp only [x0,x1,x2,x3,x4,x5,x6]
                refine nT 1 (.pointer (some ⟨yb, 0, .none⟩)) rfl ?_ (fun ww hSw => by obtain ⟨hs0, hs4⟩ := hSw; go_simp)
                simp only [x0,x1,x2,x3,x4,x5,x6]
                refine nT 2 (.string x.path) rfl ?_ (fun ww hSw => by obtain ⟨hs0, hs4⟩ := hSw; go_simp)
                simp only [x0,x1,x2,x3,x4,x5,x6]
                refine nT 6 (.pointer (some ⟨yb, 4, .none⟩)) rfl ?_ (fun ww hSw => by obtain ⟨hs0, hs4⟩ := hSw; go_simp)
                simp only [x0,x1,x2,x3,x4,x5,x6]
                refine nT 7 (.slice dp x.data.length dc) rfl ?_ (fun ww hSw => by obtain ⟨hs0, hs4⟩ := hSw; go_simp)
                simp only [x0,x1,x2,x3,x4,x5,x6]
                refine wpAnyH_ready (rs := [3]) (by kernel_rfl) (by simp) ?_
                refine AllReadyH.cons rfl (fun K hK => ?_) AllReadyH.nil
                go_simp
                go_at_call 18
                refine (c18 _).mono ?_
                rintro _ wa ⟨rfl, ba⟩
                have BA : Hid (Below wy.heap.size wy wa) := (Below.refl _ _).drew.trans ba
                clear ba c18
                have kSa : Hid (wa.cell? ⟨yb, 0, .none⟩ = some (.string x.path) ∧ wa.cell? ⟨yb, 4, .none⟩ = some (.slice dp x.data.length dc)) := ⟨(BA.out.cell (lt_of_cell kS.out.1)).trans kS.out.1, (BA.out.cell (lt_of_cell kS.out.2)).trans kS.out.2⟩
                have c19 := block_any (w := wa) (X := X) (Wd.keep HX.out.2 (Nat.le_refl _) ((HY.out.2.2.2.2.1.trans (BA.out.mono HY.out.2.2.2.2.1.size)).mono H.out.2.1)) (Nat.le_trans H.out.2.1 (Nat.le_trans HY.out.2.2.2.2.1.size BA.out.size)) HXB.out.2.2.2.2 (by have := HXB.out.2.1; omega)
                rw [← HSS.out.2.2.2.1] at c19
                refine hK.out _ _ (kSa.out) (fun hHeld => ?_)
                clear hK K
                try simp only [x0,x1,x2,x3,x4,x5,x6]
                refine nT 4 (.string S1) rfl ?_ (fun ww hSw => r1 ww _ _ _ _ rfl rfl rfl)
                simp only [x0,x1,x2,x3,x4,x5,x6]
                refine nT 5 (.string S2) rfl ?_ (fun ww hSw => r2 ww _ _ _ _ rfl rfl rfl)
                simp only [x0,x1,x2,x3,x4,x5,x6]
                refine wpAnyH_ready (rs := [8]) (by kernel_rfl) (by simp) ?_
                refine AllReadyH.cons rfl (fun K hK => ?_) AllReadyH.nil
                go_simp
                go_at_call 19
                refine (c19).mono ?_
                rintro _ wb ⟨rfl, bb⟩
                have BB : Hid (Below wy.heap.size wy wb) := BA.out.trans (bb.mono BA.out.size)
                clear bb c19
                have kSb : Hid (wb.cell? ⟨yb, 0, .none⟩ = some (.string x.path) ∧ wb.cell? ⟨yb, 4, .none⟩ = some (.slice dp x.data.length dc)) := ⟨(BB.out.cell (lt_of_cell kS.out.1)).trans kS.out.1, (BB.out.cell (lt_of_cell kS.out.2)).trans kS.out.2⟩
                refine hK.out _ _ (kSb.out) (fun hHeld => ?_)
                clear hK K
                try simp only [x0,x1,x2,x3,x4,x5,x6]
                refine nT 9 (.string S3) rfl ?_ (fun ww hSw => r3 ww _ _ _ _ rfl rfl rfl)
                simp only [x0,x1,x2,x3,x4,x5,x6]
                have kSx : Hid (wb.cell? ⟨yb, 0, .none⟩ = some (.string x.path) ∧ wb.cell? ⟨yb, 4, .none⟩ = some (.slice dp x.data.length dc)) := kSb
                obtain ⟨v2, w2a, hap, hot, hgr⟩ := appStr (HY.out.2.1.bel BB.out) S3 (by rw [← HR.out.2.2]; have := HWB.out.2.2; have := HSS.out; omega) (Nat.le_trans HY.out.2.2.2.1 BB.out.size) 41
                have hcg : ∀ k, w2a.cell? ⟨yb, k, .none⟩ = wb.cell? ⟨yb, k, .none⟩ := fun k => by
                  refine cell_hp (hgr.block yb (Nat.lt_of_lt_of_le (by rw [HYB.out]; exact HY.out.2.2.2.2.2) BB.out.size) (fun e => ?_)) k
                  have e2 : some yb = some g := e
                  have e3 := Option.some.inj e2
                  have h3 := (HR.out.1.lt g rfl).2
                  have h4 := HYB.out
                  omega
                have H2A : Hid (ownT w2a tb v2 ((hdT S ++ (S.files.take m).flatMap flT) ++ bsI S3) ∧ Below tb wy w2a ∧ (w2a.cell? ⟨yb, 0, .none⟩ = some (.string x.path) ∧ w2a.cell? ⟨yb, 4, .none⟩ = some (.slice dp x.data.length dc))) := ⟨hot, (BB.out.mono HY.out.2.2.2.1).trans ((Below.refl tb wb).grown hgr (Nat.le_trans HY.out.2.2.2.1 BB.out.size) (fun k hk => ((HY.out.2.1.bel BB.out).lt k hk).1)), ⟨(hcg 0).trans kSx.out.1, (hcg 4).trans kSx.out.2⟩⟩
                clear hot hgr hcg
                refine wpAnyH_ready (rs := [10]) (by kernel_rfl) (by simp) ?_
                refine AllReadyH.cons rfl (fun K hK => ?_) AllReadyH.nil
                rw [if_pos (by rfl)]
                refine wp_app _ _ 41 9 rfl rfl rfl hap ?_
                refine hK.out _ _ H2A.out.2.2 (fun hHeld => ?_)
                clear hK K hap
                try simp only [x0,x1,x2,x3,x4,x5,x6]
                refine nT 11 (v2) rfl ?_ (fun ww hSw => by (try dsimp only at hSw); go_simp)
                simp only [x0,x1,x2,x3,x4,x5,x6]
                refine wpAnyH_done (by kernel_rfl) ?_ _
                clear hHeld
                go_wp2
                refine ⟨⟨m + 1, by omega, by go_num, HFIN.out _ _ _ ?_ H2A.out.1 H2A.out.2.1⟩, by simp only [intOf]; omega⟩
                have h := HSS.out
                unfold flT
                rw [if_neg t1, if_pos t2, h.2.2.1, h.2.1, h.1, bsI_app, bsI_app, bsI_app, HAQ.out.2.2, h.2.2.2.1, bsI_toB (blk_bd x.data HXB.out.2.2.2.2)]
                rfl
              by_cases t3 : x.ty = 3
              · obtain ⟨M1, hM1⟩ : ∃ A, A = itS x.mj := ⟨_, rfl⟩
                obtain ⟨M2, hM2⟩ : ∃ A, A = itS x.mn := ⟨_, rfl⟩
                have lm1 : M1.size ≤ 20 := by rw [hM1]; exact itS_size _ HXB.out.2.2.1
                have lm2 : M2.size ≤ 20 := by rw [hM2]; exact itS_size _ HXB.out.2.2.2.1
                have r1 := cat_run (⟨#[100, 101, 118, 32]⟩ : ByteArray) AQ (by show 4 + AQ.size ≤ _; omega)
                obtain ⟨S1, hS1⟩ : ∃ s, s = (⟨#[100, 101, 118, 32]⟩ : ByteArray) ++ AQ := ⟨_, rfl⟩
                have l1 : S1.size = 4 + AQ.size := by rw [hS1, ByteArray.size_append]; rfl
                have r2 := cat_run S1 (⟨#[32]⟩ : ByteArray) (by show S1.size + 1 ≤ _; omega)
                obtain ⟨S2, hS2⟩ : ∃ s, s = S1 ++ (⟨#[32]⟩ : ByteArray) := ⟨_, rfl⟩
                have l2 : S2.size = S1.size + 1 := by rw [hS2, ByteArray.size_append]; rfl
                have r3 := cat_run S2 M1 (by omega)
                obtain ⟨S3, hS3⟩ : ∃ s, s = S2 ++ M1 := ⟨_, rfl⟩
                have l3 : S3.size = S2.size + M1.size := by rw [hS3, ByteArray.size_append]
                have r4 := cat_run S3 (⟨#[32]⟩ : ByteArray) (by show S3.size + 1 ≤ _; omega)
                obtain ⟨S4, hS4⟩ : ∃ s, s = S3 ++ (⟨#[32]⟩ : ByteArray) := ⟨_, rfl⟩
                have l4 : S4.size = S3.size + 1 := by rw [hS4, ByteArray.size_append]; rfl
                have r5 := cat_run S4 M2 (by omega)
                obtain ⟨S5, hS5⟩ : ∃ s, s = S4 ++ M2 := ⟨_, rfl⟩
                have l5 : S5.size = S4.size + M2.size := by rw [hS5, ByteArray.size_append]
                have r6 := cat_run S5 (⟨#[10]⟩ : ByteArray) (by show S5.size + 1 ≤ _; omega)
                obtain ⟨S6, hS6⟩ : ∃ s, s = S5 ++ (⟨#[10]⟩ : ByteArray) := ⟨_, rfl⟩
                have l6 : S6.size = S5.size + 1 := by rw [hS6, ByteArray.size_append]; rfl
                rw [← hS1] at r1
                rw [← hS2] at r2
                rw [← hS3] at r3
                rw [← hS4] at r4
                rw [← hS5] at r5
                rw [← hS6] at r6
                have HSS : Hid ((S1 = (⟨#[100, 101, 118, 32]⟩ : ByteArray) ++ AQ ∧ S2 = S1 ++ (⟨#[32]⟩ : ByteArray) ∧ S3 = S2 ++ M1 ∧ S4 = S3 ++ (⟨#[32]⟩ : ByteArray) ∧ S5 = S4 ++ M2 ∧ S6 = S5 ++ (⟨#[10]⟩ : ByteArray) ∧ M1 = itS x.mj ∧ M2 = itS x.mn) ∧ S6.size ≤ 9000000) := ⟨⟨hS1, hS2, hS3, hS4, hS5, hS6, hM1, hM2⟩, by omega⟩
                clear hS1 hS2 hS3 hS4 hS5 hS6 l1 l2 l3 l4 l5 l6 lm1 lm2
                have kS : Hid (wy.drew.cell? ⟨yb, 0, .none⟩ = some (.string x.path) ∧ wy.drew.cell? ⟨yb, 2, .none⟩ = some (.int .i16 x.mj) ∧ wy.drew.cell? ⟨yb, 3, .none⟩ = some (.int .i16 x.mn)) := ⟨y0, y2, y3⟩
                have wj1 : IntKind.i64.wrap x.mj = x.mj := by rw [IntKind.wrap_i64]; have := HXB.out.2.2.1.1; have := HXB.out.2.2.1.2; omega
                have wj2 : IntKind.i64.wrap x.mn = x.mn := by rw [IntKind.wrap_i64]; have := HXB.out.2.2.2.1.1; have := HXB.out.2.2.2.1.2; omega
                go_upto_region 26 with fail
                refine wp_region_held_drew (S := fun U => U.cell? ⟨yb, 0, .none⟩ = some (.string x.path) ∧ U.cell? ⟨yb, 2, .none⟩ = some (.int .i16 x.mj) ∧ U.cell? ⟨yb, 3, .none⟩ = some (.int .i16 x.mn)) (by kernel_rfl) kS.out (fun hHeld => ?_)
                refine nT 0 (.slice (some ⟨g, 0, .none⟩) n c) rfl ?_ (fun ww hSw => by obtain ⟨hs0, hs2, hs3⟩ := hSw; go_simp)
                simp only [x0,x1,x2,x3,x4,x5,x6]
                refine nT 1 (.pointer (some ⟨yb, 0, .none⟩)) rfl ?_ (fun ww hSw => by obtain ⟨hs0, hs2, hs3⟩ := hSw; go_simp)
                simp only [x0,x1,x2,x3,x4,x5,x6]
                refine nT 2 (.string x.path) rfl ?_ (fun ww hSw => by obtain ⟨hs0, hs2, hs3⟩ := hSw; go_simp)
                simp only [x0,x1,x2,x3,x4,x5,x6]
                refine nT 6 (.pointer (some ⟨yb, 2, .none⟩)) rfl ?_ (fun ww hSw => by obtain ⟨hs0, hs2, hs3⟩ := hSw; go_simp)
                simp only [x0,x1,x2,x3,x4,x5,x6]
                refine nT 7 (.int .i16 x.mj) rfl ?_ (fun ww hSw => by obtain ⟨hs0, hs2, hs3⟩ := hSw; go_simp)
                simp only [x0,x1,x2,x3,x4,x5,x6]
                refine nT 8 (.int .i64 x.mj) rfl ?_ (fun ww hSw => by obtain ⟨hs0, hs2, hs3⟩ := hSw; go_simp)
                simp only [x0,x1,x2,x3,x4,x5,x6]
                refine nT 12 (.pointer (some ⟨yb, 3, .none⟩)) rfl ?_ (fun ww hSw => by obtain ⟨hs0, hs2, hs3⟩ := hSw; go_simp)
                simp only [x0,x1,x2,x3,x4,x5,x6]
                refine nT 13 (.int .i16 x.mn) rfl ?_ (fun ww hSw => by obtain ⟨hs0, hs2, hs3⟩ := hSw; go_simp)
                simp only [x0,x1,x2,x3,x4,x5,x6]
                refine nT 14 (.int .i64 x.mn) rfl ?_ (fun ww hSw => by obtain ⟨hs0, hs2, hs3⟩ := hSw; go_simp)
                simp only [x0,x1,x2,x3,x4,x5,x6]
                refine wpAnyH_ready (rs := [3]) (by kernel_rfl) (by simp) ?_
                refine AllReadyH.cons rfl (fun K hK => ?_) AllReadyH.nil
                go_simp
                go_at_call 18
                refine (c18 _).mono ?_
                rintro _ wa ⟨rfl, ba⟩
                have BA : Hid (Below wy.heap.size wy wa) := (Below.refl _ _).drew.trans ba
                clear ba c18
                have kSa : Hid (wa.cell? ⟨yb, 0, .none⟩ = some (.string x.path) ∧ wa.cell? ⟨yb, 2, .none⟩ = some (.int .i16 x.mj) ∧ wa.cell? ⟨yb, 3, .none⟩ = some (.int .i16 x.mn)) := ⟨(BA.out.cell (lt_of_cell kS.out.1)).trans kS.out.1, (BA.out.cell (lt_of_cell kS.out.2.1)).trans kS.out.2.1, (BA.out.cell (lt_of_cell kS.out.2.2)).trans kS.out.2.2⟩
                have c17 := dec_any x.mj HXB.out.2.2.1 (H.out.2.2.keep (HY.out.2.2.2.2.1.trans (BA.out.mono HY.out.2.2.2.2.1.size)))
                rw [← HSS.out.1.2.2.2.2.2.2.1] at c17
                refine hK.out _ _ (kSa.out) (fun hHeld => ?_)
                clear hK K
                try simp only [x0,x1,x2,x3,x4,x5,x6]
                refine nT 4 (.string S1) rfl ?_ (fun ww hSw => r1 ww _ _ _ _ rfl rfl rfl)
                simp only [x0,x1,x2,x3,x4,x5,x6]
                refine nT 5 (.string S2) rfl ?_ (fun ww hSw => r2 ww _ _ _ _ rfl rfl rfl)
                simp only [x0,x1,x2,x3,x4,x5,x6]
                refine wpAnyH_ready (rs := [9]) (by kernel_rfl) (by simp) ?_
                refine AllReadyH.cons rfl (fun K hK => ?_) AllReadyH.nil
                go_simp
                go_at_call 17
                refine (c17).mono ?_
                rintro _ wb ⟨rfl, bb⟩
                have BB : Hid (Below wy.heap.size wy wb) := BA.out.trans (bb.mono BA.out.size)
                clear bb c17
                have kSb : Hid (wb.cell? ⟨yb, 0, .none⟩ = some (.string x.path) ∧ wb.cell? ⟨yb, 2, .none⟩ = some (.int .i16 x.mj) ∧ wb.cell? ⟨yb, 3, .none⟩ = some (.int .i16 x.mn)) := ⟨(BB.out.cell (lt_of_cell kS.out.1)).trans kS.out.1, (BB.out.cell (lt_of_cell kS.out.2.1)).trans kS.out.2.1, (BB.out.cell (lt_of_cell kS.out.2.2)).trans kS.out.2.2⟩
                have c17 := dec_any x.mn HXB.out.2.2.2.1 (H.out.2.2.keep (HY.out.2.2.2.2.1.trans (BB.out.mono HY.out.2.2.2.2.1.size)))
                rw [← HSS.out.1.2.2.2.2.2.2.2] at c17
                refine hK.out _ _ (kSb.out) (fun hHeld => ?_)
                clear hK K
                try simp only [x0,x1,x2,x3,x4,x5,x6]
                refine nT 10 (.string S3) rfl ?_ (fun ww hSw => r3 ww _ _ _ _ rfl rfl rfl)
                simp only [x0,x1,x2,x3,x4,x5,x6]
                refine nT 11 (.string S4) rfl ?_ (fun ww hSw => r4 ww _ _ _ _ rfl rfl rfl)
                simp only [x0,x1,x2,x3,x4,x5,x6]
                refine wpAnyH_ready (rs := [15]) (by kernel_rfl) (by simp) ?_
                refine AllReadyH.cons rfl (fun K hK => ?_) AllReadyH.nil
                go_simp
                go_at_call 17
                refine (c17).mono ?_
                rintro _ wc2 ⟨rfl, bc⟩
                have BC2 : Hid (Below wy.heap.size wy wc2) := BB.out.trans (bc.mono BB.out.size)
                clear bc c17
                have kSc : Hid (wc2.cell? ⟨yb, 0, .none⟩ = some (.string x.path) ∧ wc2.cell? ⟨yb, 2, .none⟩ = some (.int .i16 x.mj) ∧ wc2.cell? ⟨yb, 3, .none⟩ = some (.int .i16 x.mn)) := ⟨(BC2.out.cell (lt_of_cell kS.out.1)).trans kS.out.1, (BC2.out.cell (lt_of_cell kS.out.2.1)).trans kS.out.2.1, (BC2.out.cell (lt_of_cell kS.out.2.2)).trans kS.out.2.2⟩
                refine hK.out _ _ (kSc.out) (fun hHeld => ?_)
                clear hK K
                try simp only [x0,x1,x2,x3,x4,x5,x6]
                refine nT 16 (.string S5) rfl ?_ (fun ww hSw => r5 ww _ _ _ _ rfl rfl rfl)
                simp only [x0,x1,x2,x3,x4,x5,x6]
                refine nT 17 (.string S6) rfl ?_ (fun ww hSw => r6 ww _ _ _ _ rfl rfl rfl)
                simp only [x0,x1,x2,x3,x4,x5,x6]
                have kSx : Hid (wc2.cell? ⟨yb, 0, .none⟩ = some (.string x.path) ∧ wc2.cell? ⟨yb, 2, .none⟩ = some (.int .i16 x.mj) ∧ wc2.cell? ⟨yb, 3, .none⟩ = some (.int .i16 x.mn)) := kSc
                obtain ⟨v2, w2a, hap, hot, hgr⟩ := appStr (HY.out.2.1.bel BC2.out) S6 (by rw [← HR.out.2.2]; have := HWB.out.2.2; have := HSS.out; omega) (Nat.le_trans HY.out.2.2.2.1 BC2.out.size) 41
                have hcg : ∀ k, w2a.cell? ⟨yb, k, .none⟩ = wc2.cell? ⟨yb, k, .none⟩ := fun k => by
                  refine cell_hp (hgr.block yb (Nat.lt_of_lt_of_le (by rw [HYB.out]; exact HY.out.2.2.2.2.2) BC2.out.size) (fun e => ?_)) k
                  have e2 : some yb = some g := e
                  have e3 := Option.some.inj e2
                  have h3 := (HR.out.1.lt g rfl).2
                  have h4 := HYB.out
                  omega
                have H2A : Hid (ownT w2a tb v2 ((hdT S ++ (S.files.take m).flatMap flT) ++ bsI S6) ∧ Below tb wy w2a ∧ (w2a.cell? ⟨yb, 0, .none⟩ = some (.string x.path) ∧ w2a.cell? ⟨yb, 2, .none⟩ = some (.int .i16 x.mj) ∧ w2a.cell? ⟨yb, 3, .none⟩ = some (.int .i16 x.mn))) := ⟨hot, (BC2.out.mono HY.out.2.2.2.1).trans ((Below.refl tb wc2).grown hgr (Nat.le_trans HY.out.2.2.2.1 BC2.out.size) (fun k hk => ((HY.out.2.1.bel BC2.out).lt k hk).1)), ⟨(hcg 0).trans kSx.out.1, (hcg 2).trans kSx.out.2.1, (hcg 3).trans kSx.out.2.2⟩⟩
                clear hot hgr hcg
                refine wpAnyH_ready (rs := [18]) (by kernel_rfl) (by simp) ?_
                refine AllReadyH.cons rfl (fun K hK => ?_) AllReadyH.nil
                rw [if_pos (by rfl)]
                refine wp_app _ _ 41 9 rfl rfl rfl hap ?_
                refine hK.out _ _ H2A.out.2.2 (fun hHeld => ?_)
                clear hK K hap
                try simp only [x0,x1,x2,x3,x4,x5,x6]
                refine nT 19 (v2) rfl ?_ (fun ww hSw => by (try dsimp only at hSw); go_simp)
                simp only [x0,x1,x2,x3,x4,x5,x6]
                refine wpAnyH_done (by kernel_rfl) ?_ _
                clear hHeld
                go_wp2
                refine ⟨⟨m + 1, by omega, by go_num, HFIN.out _ _ _ ?_ H2A.out.1 H2A.out.2.1⟩, by simp only [intOf]; omega⟩
                have h := HSS.out.1
                unfold flT
                rw [if_neg t1, if_neg t2, if_pos t3, h.2.2.2.2.2.1, h.2.2.2.2.1, h.2.2.2.1, h.2.2.1, h.2.1, h.1, bsI_app, bsI_app, bsI_app, bsI_app, bsI_app, bsI_app, HAQ.out.2.2, h.2.2.2.2.2.2.1, h.2.2.2.2.2.2.2]
                rfl
              · have f1 : (x.ty == 1) = false := by rw [beq_eq_false_iff_ne]; exact t1
                have f2 : (x.ty == 2) = false := by rw [beq_eq_false_iff_ne]; exact t2
                have f3 : (x.ty == 3) = false := by rw [beq_eq_false_iff_ne]; exact t3
                have hz : flT x = [] := by unfold flT; rw [if_neg t1, if_neg t2, if_neg t3]
                have HQ := HFIN.out [] _ _ hz (by rw [List.append_nil]; exact HY.out.2.1) (Below.refl _ _)
                have HQ9 : Hid (∃ g' n' c', (.slice (some ⟨g, 0, .none⟩) n c : Value) = .slice (some ⟨g', 0, .none⟩) n' c' ∧ Hid (ownT wy tb (.slice (some ⟨g', 0, .none⟩) n' c') (hdT S ++ (S.files.take (m + 1)).flatMap flT) ∧ Below tb wt wy ∧ n' = (hdT S ++ (S.files.take (m + 1)).flatMap flT).length)) := HQ
                clear HQ hz t1 t2 t3
                go_wp2
                exact ⟨⟨m + 1, by omega, by go_num, HQ9.out⟩, by simp only [intOf]; omega⟩
            · have g0 : ¬ (m : Int) < i := by omega
              obtain rfl : m = i := by omega
              have hfl : S.files.take m = S.files := List.take_of_length_le (by have := HN.out.1; omega)
              have HT1 : Hid (ownT wr tb (.slice (some ⟨g, 0, .none⟩) n c) (hdT S ++ S.files.flatMap flT) ∧ Below tb wt wr ∧ n = (hdT S ++ S.files.flatMap flT).length ∧ n ≤ 15000000) := by
                have h := HR.out
                rw [hfl] at h
                exact ⟨h.1, h.2.1, h.2.2, HWB.out.2.2⟩
              obtain ⟨T1, hT1⟩ : ∃ T, T = (hdT S ++ S.files.flatMap flT) := ⟨_, rfl⟩
              rw [← hT1] at HT1
              have HTE : Hid (T1 = (hdT S ++ S.files.flatMap flT)) := hT1
              clear hT1 hfl w1 hzt
              go_upto_region 27 with fail
              clear c1 g0
              go_wp2_with fail
              go_loopw [8, 11] (fun v k wr => ∃ q : Nat, q ≤ nt ∧ k = .int .i64 q ∧ ∃ g n c, v = .slice (some ⟨g, 0, .none⟩) n c ∧ Hid (ownT wr tb (.slice (some ⟨g, 0, .none⟩) n c) (T1 ++ tkP S.ticks q) ∧ Below tb wt wr ∧ n = (T1 ++ tkP S.ticks q).length)) (fun _ k _ => (nt - intOf k).toNat)
              case atStart => exact ⟨0, by omega, rfl, _, _, _, rfl, by have h := HT1.out.1; simpa [tkP] using h, HT1.out.2.1, by have h := HT1.out.2.2.1; simpa [tkP] using h⟩
              case round =>
                obtain ⟨q, hq, rfl, g, n, c, rfl, HR⟩ := hrel
                have w1 : IntKind.i64.wrap ((q : Int) + 1) = (q : Int) + 1 := by rw [IntKind.wrap_i64]; have := HN.out.2.2.2.1; omega
                have hzt : z < tb := by have := HWt.out.2.2.2.2.1; omega
                have c4 := (HR.out.2.1.cell (p := ⟨z, 4, .none⟩) hzt).trans HWt.out.1.c4
                have HWB : Hid (Below w.heap.size w wr ∧ tb ≤ wr.heap.size ∧ n ≤ 45000000 ∧ z < tb) := ⟨HWt.out.2.1.trans (HR.out.2.1.mono HWt.out.2.2.2.2.2.2), Nat.le_trans HWt.out.2.2.2.2.2.1 HR.out.2.1.size, by have h1 := HR.out.2.2; have h2 := HT1.out.2.2; have h3 := tkP_len S.ticks HN.out.2.2.2.2.2.1.ts q; have h4 := HN.out.2.2.2.1; rw [List.length_append] at h1; omega, hzt⟩
                by_cases hlt : q < nt
                · have g0 : (q : Int) < nt := by omega
                  obtain ⟨-, b, o, x, cs, rfl, hbX, hx, rfl, hcl, hr⟩ := H.out.1.ts.at hlt
                  have hr0 := hr 0 _ rfl
                  rw [Nat.add_zero, Nat.mul_one] at hr0
                  have HX : Hid (S.ticks[q]? = some x ∧ w.cell? ⟨b, o + q, .none⟩ = some (.int .i64 x) ∧ b < w.heap.size ∧ i64b x) := ⟨hx, hr0, by have := H.out.2.1; omega, HN.out.2.2.2.2.2.1.ts x (List.mem_of_getElem? hx)⟩
                  clear hcl hr hx hbX hr0
                  by_cases g1 : q % 16 = 0
                  · have f1 : ((q : Int) % 16 == 0) = true := by rw [beq_iff_eq]; omega
                    have PREQ : (if q % 16 = 0 then ([116, 105, 99, 107] : List Int) else []) = bsI (⟨#[116, 105, 99, 107]⟩ : ByteArray) := by rw [if_pos g1]; rfl
                    obtain ⟨v1, wA, hap, hot, hgr⟩ := appStr HR.out.1 (⟨#[116, 105, 99, 107]⟩ : ByteArray) (by rw [← HR.out.2.2]; have := HWB.out.2.2.1; show n + 4 ≤ _; omega) HWB.out.2.1 41
                    have HBg : Hid (Below tb wr wA) := (Below.refl tb wr).grown hgr HWB.out.2.1 (fun k hk => (HR.out.1.lt k hk).1)
                    obtain ⟨gA, cA, rfl⟩ := hot.form
                    obtain ⟨nA, hnA⟩ : ∃ nA, nA = (T1 ++ tkP S.ticks q ++ bsI (⟨#[116, 105, 99, 107]⟩ : ByteArray)).length := ⟨_, rfl⟩
                    rw [← hnA] at hap hot
                    have HS1 : Hid (ownT wA tb (.slice (some ⟨gA, 0, .none⟩) nA cA) (T1 ++ tkP S.ticks q ++ bsI (⟨#[116, 105, 99, 107]⟩ : ByteArray)) ∧ Below tb wt wA ∧ nA = (T1 ++ tkP S.ticks q ++ bsI (⟨#[116, 105, 99, 107]⟩ : ByteArray)).length ∧ tb ≤ wA.heap.size ∧ Below w.heap.size w wA ∧ z < tb ∧ nA ≤ 45000004) := ⟨hot, HR.out.2.1.trans HBg.out, hnA, Nat.le_trans HWB.out.2.1 HBg.out.size, HWB.out.1.trans (HBg.out.mono HWt.out.2.2.2.2.2.2), HWB.out.2.2.2, by rw [hnA, List.length_append, ← HR.out.2.2]; have := HWB.out.2.2.1; show n + 4 ≤ _; omega⟩
                    clear hot hgr hnA hzt
                    go_upto_region 32 with (first | (at_builtin; refine wpList_app rfl _ _ 41 9 rfl rfl rfl hap ?_; clear hap) | fail)
                    clear c4 f1
                    have hzz := HS1.out.2.2.2.2.2.1
                    have c4A := (HS1.out.2.1.cell (p := ⟨z, 4, .none⟩) hzz).trans HWt.out.1.c4
                    have q0A := (HS1.out.2.2.2.2.1.cell (p := ⟨b, o + q, .none⟩) HX.out.2.2.1).trans HX.out.2.1
                    have c17 := dec_any x HX.out.2.2.2 (H.out.2.2.keep HS1.out.2.2.2.2.1)
                    have h1 : ¬ 9223372036854775807 < 1 + (itS x).size := by have := itS_size x HX.out.2.2.2; omega
                    go_upto_region 33 with (first | (go_at_call 17; refine c17.mono ?_; rintro _ wa ⟨rfl, ba⟩; obtain ⟨v2, w2a, hap, hot, hgr⟩ := appStr (HS1.out.1.bel ba) ((⟨#[32]⟩ : ByteArray) ++ itS x) (by rw [← HS1.out.2.2.1, ByteArray.size_append]; have := itS_size x HX.out.2.2.2; have := HS1.out.2.2.2.2.2.2; show nA + (1 + (itS x).size) ≤ _; omega) (Nat.le_trans HS1.out.2.2.2.1 ba.size) 41; obtain ⟨L, hL⟩ : ∃ L, L = (T1 ++ tkP S.ticks q ++ bsI (⟨#[116, 105, 99, 107]⟩ : ByteArray) ++ bsI ((⟨#[32]⟩ : ByteArray) ++ itS x)).length := ⟨_, rfl⟩; obtain ⟨g2, c2, e2⟩ := hot.form; rw [← hL] at e2; subst e2; have H2A : Hid (ownT w2a tb (.slice (some ⟨g2, 0, .none⟩) L c2) (T1 ++ tkP S.ticks q ++ bsI (⟨#[116, 105, 99, 107]⟩ : ByteArray) ++ bsI ((⟨#[32]⟩ : ByteArray) ++ itS x)) ∧ Below tb wt w2a ∧ L = (T1 ++ tkP S.ticks q ++ bsI (⟨#[116, 105, 99, 107]⟩ : ByteArray) ++ bsI ((⟨#[32]⟩ : ByteArray) ++ itS x)).length) := ⟨hot, HS1.out.2.1.trans ((ba.mono HS1.out.2.2.2.1).trans ((Below.refl tb wa).grown hgr (Nat.le_trans HS1.out.2.2.2.1 ba.size) (fun k hk => ((HS1.out.1.bel ba).lt k hk).1))), hL⟩; clear hL; clear hot hgr ba) | (at_builtin; refine wpList_app rfl _ _ 41 9 rfl rfl rfl hap ?_; clear hap) | fail)
                    clear c4A q0A c17 h1 hzz
                    have hLb : L ≤ 45000100 := by rw [H2A.out.2.2, List.length_append, ← HS1.out.2.2.1, bsI_len, ByteArray.size_append]; have := itS_size x HX.out.2.2.2; have := HS1.out.2.2.2.2.2.2; show nA + (1 + (itS x).size) ≤ _; omega
                    have H2A0 := H2A
                    have H2A : Hid (ownT w2a tb (.slice (some ⟨g2, 0, .none⟩) L c2) (T1 ++ tkP S.ticks q ++ bsI (⟨#[116, 105, 99, 107]⟩ : ByteArray) ++ bsI ((⟨#[32]⟩ : ByteArray) ++ itS x)) ∧ Below tb wt w2a ∧ L = (T1 ++ tkP S.ticks q ++ bsI (⟨#[116, 105, 99, 107]⟩ : ByteArray) ++ bsI ((⟨#[32]⟩ : ByteArray) ++ itS x)).length ∧ L ≤ 45000100 ∧ tb ≤ w2a.heap.size) := ⟨H2A0.out.1, H2A0.out.2.1, H2A0.out.2.2, hLb, Nat.le_trans HWt.out.2.2.2.2.2.1 H2A0.out.2.1.size⟩
                    clear H2A0 hLb
                    have HT2 : Hid (∀ zs, (if q % 16 = 15 ∨ q + 1 = nt then ([10] : List Int) else []) = zs → T1 ++ tkP S.ticks (q + 1) = T1 ++ tkP S.ticks q ++ bsI (⟨#[116, 105, 99, 107]⟩ : ByteArray) ++ bsI ((⟨#[32]⟩ : ByteArray) ++ itS x) ++ zs) := by
                      intro zs hz
                      have hx2 : S.ticks.getD q 0 = x := by rw [List.getD_eq_getElem?_getD, HX.out.1]; rfl
                      have e32 : bsI (⟨#[32]⟩ : ByteArray) = [32] := rfl
                      rw [tkP, hx2, PREQ, ← HN.out.2.1, hz, bsI_app, e32]
                      unfold itI
                      simp only [List.append_assoc]
                    have c4B := (H2A.out.2.1.cell (p := ⟨z, 4, .none⟩) HWB.out.2.2.2).trans HWt.out.1.c4
                    have wn1 : IntKind.i64.wrap ((nt : Int) - 1) = (nt : Int) - 1 := by rw [IntKind.wrap_i64]; have := HN.out.2.2.2.1; omega
                    by_cases g15 : q % 16 = 15
                    · exfalso
                      omega
                    · have f15 : ((q : Int) % 16 == 15) = false := by rw [beq_eq_false_iff_ne]; omega
                      by_cases gl : (q : Int) = (nt : Int) - 1
                      · have fl : ((q : Int) == (nt : Int) - 1) = true := by rw [beq_iff_eq]; exact gl
                        have GL : Hid (q + 1 = nt) := by show _ = _; omega
                        clear gl g15
                        have hal : Below w2a.heap.size w2a (w2a.alloc (.cells #[.int .u8 10] 5)) := below1 _ _
                        obtain ⟨v3, w3, hap, hot, hgr⟩ := appOne (H2A.out.1.bel hal) 10 (by rw [← H2A.out.2.2.1]; have := H2A.out.2.2.2.1; omega) (Nat.le_trans H2A.out.2.2.2.2 hal.size) 41 (qb := w2a.heap.size) (qo := 0) (qc := 1) (by simp)
                        have H3A : Hid (ownT w3 tb v3 (T1 ++ tkP S.ticks (q + 1)) ∧ Below tb wt w3) := ⟨by rw [HT2.out [10] (if_pos (by exact .inr GL.out))]; exact hot, H2A.out.2.1.trans ((hal.mono H2A.out.2.2.2.2).trans ((Below.refl tb _).grown hgr (Nat.le_trans H2A.out.2.2.2.2 hal.size) (fun k hk => ((H2A.out.1.bel hal).lt k hk).1)))⟩
                        obtain ⟨n3, hn3⟩ : ∃ n3, n3 = (T1 ++ tkP S.ticks (q + 1)).length := ⟨_, rfl⟩
                        obtain ⟨g3, c3, e3⟩ := H3A.out.1.form
                        rw [← hn3] at e3
                        subst e3
                        have H3B : Hid (n3 = (T1 ++ tkP S.ticks (q + 1)).length) := hn3
                        clear hn3 hot hgr hal
                        go_upto_region 34 with fail
                        go_wp2_with (first | (at_builtin; refine wpList_app rfl _ _ 41 41 rfl rfl rfl hap ?_; clear hap) | fail)
                        exact ⟨⟨q + 1, by omega, by go_num, _, _, _, rfl, H3A.out.1, H3A.out.2, H3B.out⟩, by simp only [intOf]; omega⟩
                      · have fl : ((q : Int) == (nt : Int) - 1) = false := by rw [beq_eq_false_iff_ne]; exact gl
                        have H3A : Hid (ownT w2a tb (.slice (some ⟨g2, 0, .none⟩) L c2) (T1 ++ tkP S.ticks (q + 1)) ∧ Below tb wt w2a ∧ L = (T1 ++ tkP S.ticks (q + 1)).length) := by
                          have e := HT2.out [] (if_neg (by omega))
                          rw [List.append_nil] at e
                          rw [e]
                          exact ⟨H2A.out.1, H2A.out.2.1, H2A.out.2.2.1⟩
                        clear gl g15
                        go_wp2
                        exact ⟨⟨q + 1, by omega, by go_num, _, _, _, rfl, H3A.out.1, H3A.out.2.1, H3A.out.2.2⟩, by simp only [intOf]; omega⟩
                  · have f1 : ((q : Int) % 16 == 0) = false := by rw [beq_eq_false_iff_ne]; omega
                    have PREQ : (if q % 16 = 0 then ([116, 105, 99, 107] : List Int) else []) = [] := if_neg g1
                    obtain ⟨nA, hnA⟩ : ∃ nA, nA = n := ⟨_, rfl⟩
                    rw [← hnA]
                    have HS1 : Hid (ownT wr tb (.slice (some ⟨g, 0, .none⟩) nA c) (T1 ++ tkP S.ticks q ++ []) ∧ Below tb wt wr ∧ nA = (T1 ++ tkP S.ticks q ++ []).length ∧ tb ≤ wr.heap.size ∧ Below w.heap.size w wr ∧ z < tb ∧ nA ≤ 45000004) := ⟨by rw [hnA, List.append_nil]; exact HR.out.1, HR.out.2.1, by rw [hnA, List.append_nil]; exact HR.out.2.2, HWB.out.2.1, HWB.out.1, HWB.out.2.2.2, by rw [hnA]; have := HWB.out.2.2.1; omega⟩
                    clear hnA hzt
                    go_upto_region 32 with fail
                    clear c4 f1
                    have hzz := HS1.out.2.2.2.2.2.1
                    have c4A := (HS1.out.2.1.cell (p := ⟨z, 4, .none⟩) hzz).trans HWt.out.1.c4
                    have q0A := (HS1.out.2.2.2.2.1.cell (p := ⟨b, o + q, .none⟩) HX.out.2.2.1).trans HX.out.2.1
                    have c17 := dec_any x HX.out.2.2.2 (H.out.2.2.keep HS1.out.2.2.2.2.1)
                    have h1 : ¬ 9223372036854775807 < 1 + (itS x).size := by have := itS_size x HX.out.2.2.2; omega
                    go_upto_region 33 with (first | (go_at_call 17; refine c17.mono ?_; rintro _ wa ⟨rfl, ba⟩; obtain ⟨v2, w2a, hap, hot, hgr⟩ := appStr (HS1.out.1.bel ba) ((⟨#[32]⟩ : ByteArray) ++ itS x) (by rw [← HS1.out.2.2.1, ByteArray.size_append]; have := itS_size x HX.out.2.2.2; have := HS1.out.2.2.2.2.2.2; show nA + (1 + (itS x).size) ≤ _; omega) (Nat.le_trans HS1.out.2.2.2.1 ba.size) 41; obtain ⟨L, hL⟩ : ∃ L, L = (T1 ++ tkP S.ticks q ++ [] ++ bsI ((⟨#[32]⟩ : ByteArray) ++ itS x)).length := ⟨_, rfl⟩; obtain ⟨g2, c2, e2⟩ := hot.form; rw [← hL] at e2; subst e2; have H2A : Hid (ownT w2a tb (.slice (some ⟨g2, 0, .none⟩) L c2) (T1 ++ tkP S.ticks q ++ [] ++ bsI ((⟨#[32]⟩ : ByteArray) ++ itS x)) ∧ Below tb wt w2a ∧ L = (T1 ++ tkP S.ticks q ++ [] ++ bsI ((⟨#[32]⟩ : ByteArray) ++ itS x)).length) := ⟨hot, HS1.out.2.1.trans ((ba.mono HS1.out.2.2.2.1).trans ((Below.refl tb wa).grown hgr (Nat.le_trans HS1.out.2.2.2.1 ba.size) (fun k hk => ((HS1.out.1.bel ba).lt k hk).1))), hL⟩; clear hL; clear hot hgr ba) | (at_builtin; refine wpList_app rfl _ _ 41 9 rfl rfl rfl hap ?_; clear hap) | fail)
                    clear c4A q0A c17 h1 hzz
                    have hLb : L ≤ 45000100 := by rw [H2A.out.2.2, List.length_append, ← HS1.out.2.2.1, bsI_len, ByteArray.size_append]; have := itS_size x HX.out.2.2.2; have := HS1.out.2.2.2.2.2.2; show nA + (1 + (itS x).size) ≤ _; omega
                    have H2A0 := H2A
                    have H2A : Hid (ownT w2a tb (.slice (some ⟨g2, 0, .none⟩) L c2) (T1 ++ tkP S.ticks q ++ [] ++ bsI ((⟨#[32]⟩ : ByteArray) ++ itS x)) ∧ Below tb wt w2a ∧ L = (T1 ++ tkP S.ticks q ++ [] ++ bsI ((⟨#[32]⟩ : ByteArray) ++ itS x)).length ∧ L ≤ 45000100 ∧ tb ≤ w2a.heap.size) := ⟨H2A0.out.1, H2A0.out.2.1, H2A0.out.2.2, hLb, Nat.le_trans HWt.out.2.2.2.2.2.1 H2A0.out.2.1.size⟩
                    clear H2A0 hLb
                    have HT2 : Hid (∀ zs, (if q % 16 = 15 ∨ q + 1 = nt then ([10] : List Int) else []) = zs → T1 ++ tkP S.ticks (q + 1) = T1 ++ tkP S.ticks q ++ [] ++ bsI ((⟨#[32]⟩ : ByteArray) ++ itS x) ++ zs) := by
                      intro zs hz
                      have hx2 : S.ticks.getD q 0 = x := by rw [List.getD_eq_getElem?_getD, HX.out.1]; rfl
                      have e32 : bsI (⟨#[32]⟩ : ByteArray) = [32] := rfl
                      rw [tkP, hx2, PREQ, ← HN.out.2.1, hz, bsI_app, e32]
                      unfold itI
                      simp only [List.append_assoc]
                    have c4B := (H2A.out.2.1.cell (p := ⟨z, 4, .none⟩) HWB.out.2.2.2).trans HWt.out.1.c4
                    have wn1 : IntKind.i64.wrap ((nt : Int) - 1) = (nt : Int) - 1 := by rw [IntKind.wrap_i64]; have := HN.out.2.2.2.1; omega
                    by_cases g15 : q % 16 = 15
                    · have f15 : ((q : Int) % 16 == 15) = true := by rw [beq_iff_eq]; omega
                      have G15 : Hid (q % 16 = 15) := g15
                      clear g15
                      have hal : Below w2a.heap.size w2a (w2a.alloc (.cells #[.int .u8 10] 5)) := below1 _ _
                      obtain ⟨v3, w3, hap, hot, hgr⟩ := appOne (H2A.out.1.bel hal) 10 (by rw [← H2A.out.2.2.1]; have := H2A.out.2.2.2.1; omega) (Nat.le_trans H2A.out.2.2.2.2 hal.size) 41 (qb := w2a.heap.size) (qo := 0) (qc := 1) (by simp)
                      have H3A : Hid (ownT w3 tb v3 (T1 ++ tkP S.ticks (q + 1)) ∧ Below tb wt w3) := ⟨by rw [HT2.out [10] (if_pos (by exact .inl G15.out))]; exact hot, H2A.out.2.1.trans ((hal.mono H2A.out.2.2.2.2).trans ((Below.refl tb _).grown hgr (Nat.le_trans H2A.out.2.2.2.2 hal.size) (fun k hk => ((H2A.out.1.bel hal).lt k hk).1)))⟩
                      obtain ⟨n3, hn3⟩ : ∃ n3, n3 = (T1 ++ tkP S.ticks (q + 1)).length := ⟨_, rfl⟩
                      obtain ⟨g3, c3, e3⟩ := H3A.out.1.form
                      rw [← hn3] at e3
                      subst e3
                      have H3B : Hid (n3 = (T1 ++ tkP S.ticks (q + 1)).length) := hn3
                      clear hn3 hot hgr hal
                      go_upto_region 34 with fail
                      go_wp2_with (first | (at_builtin; refine wpList_app rfl _ _ 41 41 rfl rfl rfl hap ?_; clear hap) | fail)
                      exact ⟨⟨q + 1, by omega, by go_num, _, _, _, rfl, H3A.out.1, H3A.out.2, H3B.out⟩, by simp only [intOf]; omega⟩
                    · have f15 : ((q : Int) % 16 == 15) = false := by rw [beq_eq_false_iff_ne]; omega
                      by_cases gl : (q : Int) = (nt : Int) - 1
                      · have fl : ((q : Int) == (nt : Int) - 1) = true := by rw [beq_iff_eq]; exact gl
                        have GL : Hid (q + 1 = nt) := by show _ = _; omega
                        clear gl g15
                        have hal : Below w2a.heap.size w2a (w2a.alloc (.cells #[.int .u8 10] 5)) := below1 _ _
                        obtain ⟨v3, w3, hap, hot, hgr⟩ := appOne (H2A.out.1.bel hal) 10 (by rw [← H2A.out.2.2.1]; have := H2A.out.2.2.2.1; omega) (Nat.le_trans H2A.out.2.2.2.2 hal.size) 41 (qb := w2a.heap.size) (qo := 0) (qc := 1) (by simp)
                        have H3A : Hid (ownT w3 tb v3 (T1 ++ tkP S.ticks (q + 1)) ∧ Below tb wt w3) := ⟨by rw [HT2.out [10] (if_pos (by exact .inr GL.out))]; exact hot, H2A.out.2.1.trans ((hal.mono H2A.out.2.2.2.2).trans ((Below.refl tb _).grown hgr (Nat.le_trans H2A.out.2.2.2.2 hal.size) (fun k hk => ((H2A.out.1.bel hal).lt k hk).1)))⟩
                        obtain ⟨n3, hn3⟩ : ∃ n3, n3 = (T1 ++ tkP S.ticks (q + 1)).length := ⟨_, rfl⟩
                        obtain ⟨g3, c3, e3⟩ := H3A.out.1.form
                        rw [← hn3] at e3
                        subst e3
                        have H3B : Hid (n3 = (T1 ++ tkP S.ticks (q + 1)).length) := hn3
                        clear hn3 hot hgr hal
                        go_upto_region 34 with fail
                        go_wp2_with (first | (at_builtin; refine wpList_app rfl _ _ 41 41 rfl rfl rfl hap ?_; clear hap) | fail)
                        exact ⟨⟨q + 1, by omega, by go_num, _, _, _, rfl, H3A.out.1, H3A.out.2, H3B.out⟩, by simp only [intOf]; omega⟩
                      · have fl : ((q : Int) == (nt : Int) - 1) = false := by rw [beq_eq_false_iff_ne]; exact gl
                        have H3A : Hid (ownT w2a tb (.slice (some ⟨g2, 0, .none⟩) L c2) (T1 ++ tkP S.ticks (q + 1)) ∧ Below tb wt w2a ∧ L = (T1 ++ tkP S.ticks (q + 1)).length) := by
                          have e := HT2.out [] (if_neg (by omega))
                          rw [List.append_nil] at e
                          rw [e]
                          exact ⟨H2A.out.1, H2A.out.2.1, H2A.out.2.2.1⟩
                        clear gl g15
                        go_wp2
                        exact ⟨⟨q + 1, by omega, by go_num, _, _, _, rfl, H3A.out.1, H3A.out.2.1, H3A.out.2.2⟩, by simp only [intOf]; omega⟩
                · have g0 : ¬ (q : Int) < nt := by omega
                  obtain rfl : q = nt := by omega
                  have hqt : q = S.ticks.length := HN.out.2.1
                  obtain ⟨T2, hT2⟩ : ∃ T, T = T1 ++ tkP S.ticks q := ⟨_, rfl⟩
                  have HT2 : Hid (ownT wr tb (.slice (some ⟨g, 0, .none⟩) n c) T2 ∧ Below tb wt wr ∧ n = T2.length ∧ n ≤ 45000000) := by
                    have h := HR.out
                    rw [← hT2] at h
                    exact ⟨h.1, h.2.1, h.2.2, HWB.out.2.2.1⟩
                  have HT2E : Hid (T2 = hdT S ++ S.files.flatMap flT ++ tkP S.ticks S.ticks.length) := by show _ = _; rw [hT2, HTE.out, ← hqt]
                  clear hT2 hqt w1 hzt
                  go_upto_region 35 with fail
                  clear c4 g0
                  have HIL : Hid (∀ m, m ≤ j → (T2 ++ (S.ins.take m).flatMap inT).length ≤ 50000000) := by
                    intro m hm
                    have h1 := ins_len (S.ins.take m) (fun f hf => (HN.out.2.2.2.2.2.1.is f (List.mem_of_mem_take hf)).1)
                    have h2 := sumN_take (S.ins.map iSz) m
                    rw [← List.map_take] at h2
                    have h3 : (S.ins.take m).length ≤ m := List.length_take_le _ _
                    have h4 := HN.out.2.2.2.2.2.2
                    unfold lenS at h4
                    have h5 := HT2.out.2.2
                    have h6 := HN.out.2.2.2.1
                    rw [List.length_append]
                    omega
                  go_wp2_with fail
                  go_loopw [8, 12] (fun v k wr => ∃ p : Nat, p ≤ j ∧ k = .int .i64 p ∧ ∃ g n c, v = .slice (some ⟨g, 0, .none⟩) n c ∧ Hid (ownT wr tb (.slice (some ⟨g, 0, .none⟩) n c) (T2 ++ (S.ins.take p).flatMap inT) ∧ Below tb wt wr ∧ n = (T2 ++ (S.ins.take p).flatMap inT).length)) (fun _ k _ => (j - intOf k).toNat)
                  case atStart => exact ⟨0, by omega, rfl, _, _, _, rfl, by have h := HT2.out.1; simpa using h, HT2.out.2.1, by have h := HT2.out.2.2.1; simpa using h⟩
                  case round =>
                    obtain ⟨p, hp, rfl, g, n, c, rfl, HR⟩ := hrel
                    have w1 : IntKind.i64.wrap ((p : Int) + 1) = (p : Int) + 1 := by rw [IntKind.wrap_i64]; have := HN.out.2.2.2.1; omega
                    have hzt : z < tb := by have := HWt.out.2.2.2.2.1; omega
                    have c5 := (HR.out.2.1.cell (p := ⟨z, 5, .none⟩) hzt).trans HWt.out.1.c5
                    have HWB : Hid (Below w.heap.size w wr ∧ tb ≤ wr.heap.size ∧ n ≤ 50000000 ∧ z < tb) := ⟨HWt.out.2.1.trans (HR.out.2.1.mono HWt.out.2.2.2.2.2.2), Nat.le_trans HWt.out.2.2.2.2.2.1 HR.out.2.1.size, by rw [HR.out.2.2]; exact HIL.out p hp, hzt⟩
                    by_cases hlt : p < j
                    · have g0 : (p : Int) < j := by omega
                      obtain ⟨-, b, o, x, cs, rfl, hbX, hx, ⟨dv, rfl, hD⟩, hcl, hr⟩ := H.out.1.is.at hlt
                      obtain ⟨dp, dc, rfl⟩ := hD.form
                      have hbw : b < w.heap.size := by have := H.out.2.1; omega
                      have q0 := (HWB.out.1.cell (p := ⟨b, o + p * 2, .none⟩) hbw).trans (hr 0 _ rfl)
                      have q1 := (HWB.out.1.cell (p := ⟨b, o + p * 2 + 1, .none⟩) hbw).trans (hr 1 _ rfl)
                      have HX : Hid (S.ins[p]? = some x ∧ Bt w X (.slice dp x.data.length dc) x.data) := ⟨hx, hD⟩
                      have HXB : Hid (x.data.length ≤ 1100000 ∧ i64b x.tm ∧ (∀ y ∈ x.data, 0 ≤ y ∧ y < 256)) := by
                        have h1 := sumN_mem (List.mem_map_of_mem (f := iSz) (List.mem_of_getElem? HX.out.1))
                        have h2 := HN.out.2.2.2.2.2.2
                        unfold lenS at h2
                        have h3 : iSz x = x.data.length := rfl
                        have h4 := HN.out.2.2.2.2.2.1.is x (List.mem_of_getElem? HX.out.1)
                        exact ⟨by omega, h4.1, h4.2.2⟩
                      have HXBW : Hid (b < w.heap.size) := hbw
                      have HXW : Hid (X ≤ wr.drew.heap.size) := Nat.le_trans H.out.2.1 HWB.out.1.size
                      have kS : Hid (wr.drew.cell? ⟨z, 5, .none⟩ = some (.slice (some ⟨b, o, .none⟩) j ic) ∧ wr.drew.cell? ⟨b, o + p * 2, .none⟩ = some (.int .i64 x.tm) ∧ wr.drew.cell? ⟨b, o + p * 2 + 1, .none⟩ = some (.slice dp x.data.length dc) ∧ Bt wr.drew X (.slice dp x.data.length dc) x.data) := ⟨c5, q0, q1, Wd.keep HX.out.2 (Nat.le_refl _) (HWB.out.1.drew.mono H.out.2.1)⟩
                      have zq := qt_len x.data
                      obtain ⟨AQ, hAQ⟩ : ∃ A, A = toB (qt x.data) := ⟨_, rfl⟩
                      have zA : AQ.size ≤ 4400010 := by rw [hAQ, toB_size]; have := HXB.out.1; omega
                      have HAQ : Hid (AQ = toB (qt x.data) ∧ AQ.size ≤ 4400010 ∧ bsI AQ = qt x.data) := ⟨hAQ, zA, by rw [hAQ]; exact bsI_toB (qt_bd HXB.out.2.2)⟩
                      have c18 : ∀ U, Calls Tryd.prog 18 #[.string (toB x.data)] U fun e w' => e = .returned (.string AQ) ∧ Below U.heap.size U w' := fun U => by
                        have h := rquote_any (toB x.data) (by rw [toB_size]; have := HXB.out.1; omega) U
                        rw [bsI_toB HXB.out.2.2, ← hAQ] at h
                        exact h
                      obtain ⟨M1, hM1⟩ : ∃ A, A = itS x.tm := ⟨_, rfl⟩
                      have lm1 : M1.size ≤ 20 := by rw [hM1]; exact itS_size _ HXB.out.2.1
                      have c17 : Calls Tryd.prog 17 #[.int .i64 x.tm] wr.drew fun e w' => e = .returned (.string M1) ∧ Below wr.drew.heap.size wr.drew w' := by rw [hM1]; exact dec_any x.tm HXB.out.2.1 ((H.out.2.2.keep HWB.out.1).keep (Below.refl _ _).drew)
                      have r1 := cat_run (⟨#[105, 110, 112, 117, 116, 32]⟩ : ByteArray) M1 (by show 6 + M1.size ≤ _; omega)
                      obtain ⟨S1, hS1⟩ : ∃ s, s = (⟨#[105, 110, 112, 117, 116, 32]⟩ : ByteArray) ++ M1 := ⟨_, rfl⟩
                      have l1 : S1.size = 6 + M1.size := by rw [hS1, ByteArray.size_append]; rfl
                      have r2 := cat_run S1 (⟨#[32]⟩ : ByteArray) (by show S1.size + 1 ≤ _; omega)
                      obtain ⟨S2, hS2⟩ : ∃ s, s = S1 ++ (⟨#[32]⟩ : ByteArray) := ⟨_, rfl⟩
                      have l2 : S2.size = S1.size + 1 := by rw [hS2, ByteArray.size_append]; rfl
                      have r3 := cat_run S2 AQ (by omega)
                      obtain ⟨S3, hS3⟩ : ∃ s, s = S2 ++ AQ := ⟨_, rfl⟩
                      have l3 : S3.size = S2.size + AQ.size := by rw [hS3, ByteArray.size_append]
                      have r4 := cat_run S3 (⟨#[10]⟩ : ByteArray) (by show S3.size + 1 ≤ _; omega)
                      obtain ⟨S4, hS4⟩ : ∃ s, s = S3 ++ (⟨#[10]⟩ : ByteArray) := ⟨_, rfl⟩
                      have l4 : S4.size = S3.size + 1 := by rw [hS4, ByteArray.size_append]; rfl
                      rw [← hS1] at r1
                      rw [← hS2] at r2
                      rw [← hS3] at r3
                      rw [← hS4] at r4
                      have HSS : Hid (bsI S4 = inT x ∧ S4.size ≤ 5000000) := ⟨by rw [hS4, hS3, hS2, hS1, bsI_app, bsI_app, bsI_app, bsI_app, HAQ.out.2.2, hM1]; rfl, by omega⟩
                      clear hS1 hS2 hS3 hS4 l1 l2 l3 l4 hM1 lm1 hAQ zq zA hr hcl hD hx hbX hbw
                      go_upto_region 38 with fail
                      clear q0 q1 c5
                      refine wp_region_held_drew (S := fun U => U.cell? ⟨z, 5, .none⟩ = some (.slice (some ⟨b, o, .none⟩) j ic) ∧ U.cell? ⟨b, o + p * 2, .none⟩ = some (.int .i64 x.tm) ∧ U.cell? ⟨b, o + p * 2 + 1, .none⟩ = some (.slice dp x.data.length dc) ∧ Bt U X (.slice dp x.data.length dc) x.data) (by kernel_rfl) kS.out (fun hHeld => ?_)
                      refine nT 0 (.slice (some ⟨g, 0, .none⟩) n c) rfl ?_ (fun ww hSw => by obtain ⟨hs1, hs2, hs3, hs4⟩ := hSw; go_simp)
                      simp only [x0,x1,x2,x3,x4,x5,x6]
                      refine nT 1 (.pointer (some ⟨z, 5, .none⟩)) rfl ?_ (fun ww hSw => by obtain ⟨hs1, hs2, hs3, hs4⟩ := hSw; go_simp)
                      simp only [x0,x1,x2,x3,x4,x5,x6]
                      refine nT 2 (.slice (some ⟨b, o, .none⟩) j ic) rfl ?_ (fun ww hSw => by obtain ⟨hs1, hs2, hs3, hs4⟩ := hSw; go_simp)
                      simp only [x0,x1,x2,x3,x4,x5,x6]
                      refine nT 3 (.int .i64 p) rfl ?_ (fun ww hSw => by obtain ⟨hs1, hs2, hs3, hs4⟩ := hSw; go_simp)
                      simp only [x0,x1,x2,x3,x4,x5,x6]
                      refine nT 4 (.pointer (some ⟨b, o + p * 2, .none⟩)) rfl ?_ (fun ww hSw => by obtain ⟨hs1, hs2, hs3, hs4⟩ := hSw; go_simp)
                      simp only [x0,x1,x2,x3,x4,x5,x6]
                      refine nT 5 (.pointer (some ⟨b, o + p * 2, .none⟩)) rfl ?_ (fun ww hSw => by obtain ⟨hs1, hs2, hs3, hs4⟩ := hSw; go_simp)
                      simp only [x0,x1,x2,x3,x4,x5,x6]
                      refine nT 6 (.int .i64 x.tm) rfl ?_ (fun ww hSw => by obtain ⟨hs1, hs2, hs3, hs4⟩ := hSw; go_simp)
                      simp only [x0,x1,x2,x3,x4,x5,x6]
                      refine nT 10 (.pointer (some ⟨z, 5, .none⟩)) rfl ?_ (fun ww hSw => by obtain ⟨hs1, hs2, hs3, hs4⟩ := hSw; go_simp)
                      simp only [x0,x1,x2,x3,x4,x5,x6]
                      refine nT 11 (.slice (some ⟨b, o, .none⟩) j ic) rfl ?_ (fun ww hSw => by obtain ⟨hs1, hs2, hs3, hs4⟩ := hSw; go_simp)
                      simp only [x0,x1,x2,x3,x4,x5,x6]
                      refine nT 12 (.int .i64 p) rfl ?_ (fun ww hSw => by obtain ⟨hs1, hs2, hs3, hs4⟩ := hSw; go_simp)
                      simp only [x0,x1,x2,x3,x4,x5,x6]
                      refine nT 13 (.pointer (some ⟨b, o + p * 2, .none⟩)) rfl ?_ (fun ww hSw => by obtain ⟨hs1, hs2, hs3, hs4⟩ := hSw; go_simp)
                      simp only [x0,x1,x2,x3,x4,x5,x6]
                      refine nT 14 (.pointer (some ⟨b, o + p * 2 + 1, .none⟩)) rfl ?_ (fun ww hSw => by obtain ⟨hs1, hs2, hs3, hs4⟩ := hSw; go_simp)
                      simp only [x0,x1,x2,x3,x4,x5,x6]
                      refine nT 15 (.slice dp x.data.length dc) rfl ?_ (fun ww hSw => by obtain ⟨hs1, hs2, hs3, hs4⟩ := hSw; go_simp)
                      simp only [x0,x1,x2,x3,x4,x5,x6]
                      refine nT 16 (.string (toB x.data)) rfl ?_ (fun ww hSw => cvt_run hSw.2.2.2 _ _ _ rfl rfl)
                      simp only [x0,x1,x2,x3,x4,x5,x6]
                      refine wpAnyH_ready (rs := [7]) (by kernel_rfl) (by simp) ?_
                      refine AllReadyH.cons rfl (fun K hK => ?_) AllReadyH.nil
                      go_simp
                      go_at_call 17
                      refine (c17).mono ?_
                      rintro _ wa ⟨rfl, ba⟩
                      have BA : Hid (Below wr.drew.heap.size wr.drew wa) := ba
                      clear ba c17
                      have kSa : Hid (wa.cell? ⟨z, 5, .none⟩ = some (.slice (some ⟨b, o, .none⟩) j ic) ∧ wa.cell? ⟨b, o + p * 2, .none⟩ = some (.int .i64 x.tm) ∧ wa.cell? ⟨b, o + p * 2 + 1, .none⟩ = some (.slice dp x.data.length dc) ∧ Bt wa X (.slice dp x.data.length dc) x.data) := ⟨(BA.out.cell (lt_of_cell kS.out.1)).trans kS.out.1, (BA.out.cell (lt_of_cell kS.out.2.1)).trans kS.out.2.1, (BA.out.cell (lt_of_cell kS.out.2.2.1)).trans kS.out.2.2.1, Wd.keep kS.out.2.2.2 (Nat.le_refl _) (BA.out.mono HXW.out)⟩
                      refine hK.out _ _ (kSa.out) (fun hHeld => ?_)
                      clear hK K
                      try simp only [x0,x1,x2,x3,x4,x5,x6]
                      refine nT 8 (.string S1) rfl ?_ (fun ww hSw => r1 ww _ _ _ _ rfl rfl rfl)
                      simp only [x0,x1,x2,x3,x4,x5,x6]
                      refine nT 9 (.string S2) rfl ?_ (fun ww hSw => r2 ww _ _ _ _ rfl rfl rfl)
                      simp only [x0,x1,x2,x3,x4,x5,x6]
                      refine wpAnyH_ready (rs := [17]) (by kernel_rfl) (by simp) ?_
                      refine AllReadyH.cons rfl (fun K hK => ?_) AllReadyH.nil
                      go_simp
                      go_at_call 18
                      refine (c18 _).mono ?_
                      rintro _ wb ⟨rfl, bb⟩
                      have BB : Hid (Below wr.drew.heap.size wr.drew wb) := BA.out.trans (bb.mono BA.out.size)
                      clear bb c18
                      have kSb : Hid (wb.cell? ⟨z, 5, .none⟩ = some (.slice (some ⟨b, o, .none⟩) j ic) ∧ wb.cell? ⟨b, o + p * 2, .none⟩ = some (.int .i64 x.tm) ∧ wb.cell? ⟨b, o + p * 2 + 1, .none⟩ = some (.slice dp x.data.length dc) ∧ Bt wb X (.slice dp x.data.length dc) x.data) := ⟨(BB.out.cell (lt_of_cell kS.out.1)).trans kS.out.1, (BB.out.cell (lt_of_cell kS.out.2.1)).trans kS.out.2.1, (BB.out.cell (lt_of_cell kS.out.2.2.1)).trans kS.out.2.2.1, Wd.keep kS.out.2.2.2 (Nat.le_refl _) (BB.out.mono HXW.out)⟩
                      refine hK.out _ _ (kSb.out) (fun hHeld => ?_)
                      clear hK K
                      try simp only [x0,x1,x2,x3,x4,x5,x6]
                      refine nT 18 (.string S3) rfl ?_ (fun ww hSw => r3 ww _ _ _ _ rfl rfl rfl)
                      simp only [x0,x1,x2,x3,x4,x5,x6]
                      refine nT 19 (.string S4) rfl ?_ (fun ww hSw => r4 ww _ _ _ _ rfl rfl rfl)
                      simp only [x0,x1,x2,x3,x4,x5,x6]
                      obtain ⟨v2, w2a, hap, hot, hgr⟩ := appStr ((HR.out.1.bel (Below.refl _ _).drew).bel BB.out) S4 (by rw [← HR.out.2.2]; have := HWB.out.2.2.1; have := HSS.out.2; omega) (Nat.le_trans HWB.out.2.1 BB.out.size) 41
                      obtain ⟨n3, hn3⟩ : ∃ n3, n3 = ((T2 ++ (S.ins.take p).flatMap inT) ++ bsI S4).length := ⟨_, rfl⟩
                      obtain ⟨g3, c3, e3⟩ := hot.form
                      rw [← hn3] at e3
                      subst e3
                      have hbl : Below tb wr w2a := ((Below.refl tb wr).drew.trans (BB.out.mono HWB.out.2.1)).trans ((Below.refl tb wb).grown hgr (Nat.le_trans HWB.out.2.1 BB.out.size) (fun k hk => (((HR.out.1.bel (Below.refl _ _).drew).bel BB.out).lt k hk).1))
                      have kSx : Hid (w2a.cell? ⟨z, 5, .none⟩ = some (.slice (some ⟨b, o, .none⟩) j ic) ∧ w2a.cell? ⟨b, o + p * 2, .none⟩ = some (.int .i64 x.tm) ∧ w2a.cell? ⟨b, o + p * 2 + 1, .none⟩ = some (.slice dp x.data.length dc) ∧ Bt w2a X (.slice dp x.data.length dc) x.data) := by
                        have hzz := HWB.out.2.2.2
                        have hb2 : Below w.heap.size w w2a := HWB.out.1.trans (hbl.mono HWt.out.2.2.2.2.2.2)
                        exact ⟨(hbl.cell (p := ⟨z, 5, .none⟩) hzz).trans kS.out.1, (hbl.cell (p := ⟨b, o + p * 2, .none⟩) (Nat.lt_of_lt_of_le HXBW.out HWt.out.2.2.2.2.2.2)).trans kS.out.2.1, (hbl.cell (p := ⟨b, o + p * 2 + 1, .none⟩) (Nat.lt_of_lt_of_le HXBW.out HWt.out.2.2.2.2.2.2)).trans kS.out.2.2.1, Wd.keep HX.out.2 (Nat.le_refl _) (hb2.mono H.out.2.1)⟩
                      have H2A : Hid (ownT w2a tb (.slice (some ⟨g3, 0, .none⟩) n3 c3) (T2 ++ (S.ins.take (p + 1)).flatMap inT) ∧ Below tb wt w2a ∧ n3 = (T2 ++ (S.ins.take (p + 1)).flatMap inT).length) := by
                        have e : T2 ++ (S.ins.take (p + 1)).flatMap inT = (T2 ++ (S.ins.take p).flatMap inT) ++ bsI S4 := by rw [take_in HX.out.1, HSS.out.1, List.append_assoc]
                        rw [e]
                        exact ⟨hot, HR.out.2.1.trans hbl, hn3⟩
                      clear hot hgr hn3 hbl
                      refine wpAnyH_ready (rs := [20]) (by kernel_rfl) (by simp) ?_
                      refine AllReadyH.cons rfl (fun K hK => ?_) AllReadyH.nil
                      rw [if_pos (by rfl)]
                      refine wp_app _ _ 41 9 rfl rfl rfl hap ?_
                      refine hK.out _ _ kSx.out (fun hHeld => ?_)
                      clear hK K hap
                      try simp only [x0,x1,x2,x3,x4,x5,x6]
                      refine nT 21 (.slice (some ⟨g3, 0, .none⟩) n3 c3) rfl ?_ (fun ww hSw => by go_simp)
                      simp only [x0,x1,x2,x3,x4,x5,x6]
                      refine wpAnyH_done (by kernel_rfl) ?_ _
                      clear hHeld
                      go_wp2
                      exact ⟨⟨p + 1, by omega, by go_num, _, _, _, rfl, H2A.out.1, H2A.out.2.1, H2A.out.2.2⟩, by simp only [intOf]; omega⟩
                    · have g0 : ¬ (p : Int) < j := by omega
                      obtain rfl : p = j := by omega
                      have hfl : S.ins.take p = S.ins := List.take_of_length_le (by have := HN.out.2.2.1; omega)
                      have HT3 : Hid (ownT wr tb (.slice (some ⟨g, 0, .none⟩) n c) (txT S) ∧ Below tb wt wr ∧ n = (txT S).length ∧ n ≤ 50000000) := by
                        have h := HR.out
                        have e : T2 ++ (S.ins.take p).flatMap inT = txT S := by rw [hfl, HT2E.out]; rfl
                        rw [e] at h
                        exact ⟨h.1, h.2.1, h.2.2, HWB.out.2.2.1⟩
                      clear hfl w1 hzt
                      go_upto_region 39 with fail
                      clear c5 g0
                      have hf2 : wr.heap[z + 1]? = some (.cells #[.slice .none 0 0, .int .i64 0] 35 (0, 0)) := (HR.out.2.1.block (z + 1) HWt.out.2.2.2.2.1).trans HWt.out.2.2.1
                      have HWq : Hid (Below w.heap.size w wr ∧ z = w.heap.size) := ⟨HWB.out.1, HWt.out.2.2.2.1⟩
                      by_cases hlong : (1048576 : Int) < n
                      · have HLG : Hid (1048576 < (txT S).length) := by have := HT3.out.2.2.1; show _ < _; omega
                        go_upto_region 40 with fail
                        clear hlong
                        have c16 := rnew_any ramB (0) 360 wr
                        obtain ⟨w3, hw3⟩ : ∃ w3, w3 = (wr.alloc (.cells #[.slice (some ⟨wr.heap.size + 1, 0, .none⟩) 1 1, .int .i64 360] 35)).alloc (.cells #[.string ramB, .int .i64 (0)] 77) := ⟨_, rfl⟩
                        rw [← hw3] at c16
                        have b3 : Below wr.heap.size wr w3 := by rw [hw3]; exact (below1 _ _).alloc (by simp) _
                        have hf3 : w3.heap[z + 1]? = some (.cells #[.slice .none 0 0, .int .i64 0] 35 (0, 0)) := (b3.block (z + 1) (hp_lt hf2)).trans hf2
                        have d0 : w3.cell? ⟨z + 1, 0, .none⟩ = some (.slice .none 0 0) := cell_heap hf3
                        have d1 : w3.cell? ⟨z + 1, 1, .none⟩ = some (.int .i64 0) := cell_heap hf3
                        have f0 : w3.frozen? ⟨z + 1, 0, .none⟩ = false := frozen_heap hf3
                        have f1 : w3.frozen? ⟨z + 1, 1, .none⟩ = false := frozen_heap hf3
                        have k0 : w3.cell? ⟨wr.heap.size + 1, 0, .none⟩ = some (.string ramB) := by rw [hw3]; simp
                        have k1 : w3.cell? ⟨wr.heap.size + 1, 1, .none⟩ = some (.int .i64 (0)) := by rw [hw3]; simp
                        have HK : Hid (w3.cell? ⟨wr.heap.size + 1, 0, .none⟩ = some (.string ramB) ∧ w3.cell? ⟨wr.heap.size + 1, 1, .none⟩ = some (.int .i64 (0)) ∧ wr.heap.size + 1 < w3.heap.size ∧ z + 1 < wr.heap.size ∧ Below w.heap.size w w3 ∧ z = w.heap.size) := ⟨k0, k1, by rw [hw3]; simp, hp_lt hf2, HWq.out.1.trans (b3.mono HWq.out.1.size), HWq.out.2⟩
                        clear hw3 k0 k1 hf2 hf3 b3
                        go_wp2_with (go_at_call 16; refine c16.mono ?_; rintro _ w4 ⟨rfl, e4⟩; obtain rfl : w3 = w4 := e4.symm; clear e4 c16)
                        refine bodyPost_ret (v := .tuple #[.string ⟨#[]⟩, .agg #[.slice (some ⟨wr.heap.size + 1, 0, .none⟩) 1 1, .int .i64 360]]) (by simp [results, Tryd.results7, go_sem, d0, d1]) rfl ?_
                        have hk := HK.out
                        have hz := hk.2.2.2.2.2
                        refine HPS.out _ _ _ (0) 360 _ (by unfold prS; rw [HWV.out]; simp only []; rw [if_neg HNF.out, if_pos HLG.out]) rfl (.inl ⟨by decide, wr.heap.size + 1, ?_, rfl, ?_, ?_⟩) ?_
                        · simpa [World.setCell] using hk.2.2.1
                        · refine (cell_ne _ _ _ _ ?_).trans ((cell_ne _ _ _ _ ?_).trans hk.1) <;> (show z + 1 ≠ wr.heap.size + 1; omega)
                        · refine (cell_ne _ _ _ _ ?_).trans ((cell_ne _ _ _ _ ?_).trans hk.2.1) <;> (show z + 1 ≠ wr.heap.size + 1; omega)
                        · exact (hk.2.2.2.2.1.setCell (by show w.heap.size ≤ z + 1; omega) _).setCell (by show w.heap.size ≤ z + 1; omega) _
                      · have HLG : Hid (¬ 1048576 < (txT S).length) := by have := HT3.out.2.2.1; show ¬ _ < _; omega
                        go_upto_region 41 with fail
                        clear hlong
                        refine wp_region_held_drew (S := fun U => ownT U tb (.slice (some ⟨g, 0, .none⟩) n c) (txT S)) (by kernel_rfl) (HT3.out.1.bel (Below.refl _ _).drew) (fun hHeld => ?_)
                        refine nT 0 (.slice (some ⟨g, 0, .none⟩) n c) rfl ?_ (fun ww hSw => by go_simp)
                        simp only [x0,x1,x2,x3,x4,x5,x6]
                        refine nT 1 (.string (toB (txT S))) rfl ?_ (fun ww hSw => cvo_run hSw _ _ _ rfl rfl)
                        simp only [x0,x1,x2,x3,x4,x5,x6]
                        have c20 := none_any wr.drew
                        obtain ⟨w3, hw3⟩ : ∃ w3, w3 = wr.drew.alloc (.cells #[.slice .none 0 0, .int .i64 0] 35) := ⟨_, rfl⟩
                        rw [← hw3] at c20
                        have b3 : Below wr.heap.size wr w3 := by rw [hw3]; exact (Below.refl _ _).drew.alloc (by simp) _
                        have hf3 : w3.heap[z + 1]? = some (.cells #[.slice .none 0 0, .int .i64 0] 35 (0, 0)) := (b3.block (z + 1) (hp_lt hf2)).trans hf2
                        have d0 : w3.cell? ⟨z + 1, 0, .none⟩ = some (.slice .none 0 0) := cell_heap hf3
                        have d1 : w3.cell? ⟨z + 1, 1, .none⟩ = some (.int .i64 0) := cell_heap hf3
                        have f0 : w3.frozen? ⟨z + 1, 0, .none⟩ = false := frozen_heap hf3
                        have f1 : w3.frozen? ⟨z + 1, 1, .none⟩ = false := frozen_heap hf3
                        have HO3 : Hid (ownT w3 tb (.slice (some ⟨g, 0, .none⟩) n c) (txT S)) := HT3.out.1.bel b3
                        have HK : Hid (Below w.heap.size w w3 ∧ z = w.heap.size) := ⟨HWq.out.1.trans (b3.mono HWq.out.1.size), HWq.out.2⟩
                        clear hw3 hf2 hf3 b3
                        refine wpAnyH_ready (rs := [2]) (by kernel_rfl) (by simp) ?_
                        refine AllReadyH.cons rfl (fun K hK => ?_) AllReadyH.nil
                        go_simp
                        go_at_call 20
                        refine c20.mono ?_
                        rintro _ w4 ⟨rfl, e4⟩
                        obtain rfl : w3 = w4 := e4.symm
                        clear e4 c20
                        refine hK.out _ _ HO3.out (fun hHeld => ?_)
                        clear hK K
                        try simp only [x0,x1,x2,x3,x4,x5,x6]
                        refine nT 3 (.string (toB (txT S))) rfl ?_ (fun ww hSw => by go_simp)
                        simp only [x0,x1,x2,x3,x4,x5,x6]
                        refine wpAnyH_ready (rs := [4]) (by kernel_rfl) (by simp) ?_
                        refine AllReadyH.cons rfl (fun K hK => ?_) AllReadyH.nil
                        go_simp
                        refine hK.out _ _ ((HO3.out.set (by have := HWt.out.2.2.2.2.1; omega)).set (by have := HWt.out.2.2.2.2.1; omega)) (fun hHeld => ?_)
                        clear hK K
                        try simp only [x0,x1,x2,x3,x4,x5,x6]
                        refine wpAnyH_done (by kernel_rfl) ?_ _
                        clear hHeld
                        go_wp2
                        refine bodyPost_ret (v := .tuple #[.string (toB (txT S)), .agg #[.slice .none 0 0, .int .i64 0]]) (by simp [results, Tryd.results7, go_sem, d0, d1]) rfl ?_
                        have hz := HK.out.2
                        refine HPS.out _ _ _ 0 0 _ (by unfold prS; rw [HWV.out]; simp only []; rw [if_neg HNF.out, if_neg HLG.out]) rfl (.inr ⟨rfl, rfl⟩) ?_
                        exact (HK.out.1.setCell (by show w.heap.size ≤ z + 1; omega) _).setCell (by show w.heap.size ≤ z + 1; omega) _
end Go.Proofs.YtjbealefopajcaaDoor
