import Derived.Test.YtdfjjnkbnegecaaDoorXi
import Derived.Test.YtdfjjnkbnegecaaDoorRk
import Derived.Laws.MakeOwn
namespace Go.Proofs.YtdfjjnkbnegecaaDoor
open Go.RowKit Go.Shelf
set_option linter.unusedVariables false
set_option linter.unusedSimpArgs false
set_option maxRecDepth 10000 in
set_option maxHeartbeats 4000000 in
theorem demandQ_any {W : World} {fp : Option Addr} {b o fn fc : Nat} {B : Nat → Int} (hp : 64 ≤ fn → fp = some ⟨b, o, .none⟩) (hrow : Row W b o fn B) (hB : ∀ i, 0 ≤ B i ∧ B i < 256) (hc : fn ≤ fc ∧ fc ≤ 9223372036854775807) (hn3 : fn ≤ 400000) (ha hr : Int) (hH : Hd B ha hr)
    {p : Option Addr} {n c : Nat} {xs : List Bs} (hA : Arg W p n c xs) :
    Calls Tryd.prog 8 #[.slice fp fn fc, .slice p n c] W fun e w' => e = .returned (.tuple #[.int .i64 (dmN (rdF fn B ha hr).1.2 (ePg (sgO fn B ha hr)) xs), .int .i64 (dmE (rdF fn B ha hr).1.2 xs)]) ∧ Below W.heap.size W w' := by
  have cP := readD_any hp hrow hB hc hn3 ha hr hH hA
  generalize (rdF fn B ha hr).1.2 = r at cP ⊢
  generalize ePg (sgO fn B ha hr) = eP at cP ⊢
  clear hp hrow hB hc hH hA hn3
  unfold RdP at cP
  by_cases h0 : dmE r xs ≠ 0
  · have hN : dmN r eP xs = 0 := by simp [dmN, h0]
    rw [hN]
    generalize dmE r xs = d at h0 cP ⊢
    have hd : (d != 0) = true := by simpa using h0
    clear hN
    go_enter Tryd.func8, Tryd.ntmps8
    go_wp2_with (go_at_call 13; refine cP.mono ?_; rintro _ w1 ⟨b1, h1⟩; obtain rfl : _ = _ := (by rcases h1 with ⟨_, h⟩ | ⟨h, _⟩; exact h; exact absurd h h0); clear h1 cP)
    refine bodyPost_ret (v := .tuple #[.int .i64 0, .int .i64 d]) (by simp [results, Tryd.results8, go_sem]) rfl ⟨rfl, b1.alloc b1.size _⟩
  · have h0 : dmE r xs = 0 := by omega
    have hN : dmN r eP xs = eP + 6 + (eP + 513) / 512 := by simp [dmN, h0]
    rw [hN, h0]
    rw [h0] at cP
    clear hN h0
    go_enter Tryd.func8, Tryd.ntmps8
    go_upto_region 2 with (go_at_call 13; refine cP.mono ?_; rintro _ w1 ⟨b1, h1⟩; rcases h1 with ⟨h, _⟩ | ⟨_, X, q, cs, E, B', et, rfl, sg, hE, hl, hp⟩; exact absurd rfl h)
    have HB : Hid (Below w1.heap.size w1 (w1.alloc (.cells #[.int .u64 et, .slice q E.length cs] 37))) := (Below.refl _ _).alloc (Nat.le_refl _) _
    have c14 := pagesQ_any (sg.below HB.out) hE hl et
    have hbd := ePg_bound E sg.gd
    rw [hp] at c14 hbd
    have HB1 : Hid (Below W.heap.size W w1) := b1
    clear sg hE hl hp cP b1
    go_wp2_with first | (go_at_call 14; refine c14.mono ?_; rintro _ w2 ⟨rfl, b2⟩) | (go_at_call 15; refine (nodes_any _ _ (by omega)).mono ?_; rintro _ _ ⟨rfl, rfl⟩)
    refine bodyPost_ret (v := .tuple #[.int .i64 (eP + 6 + (eP + 513) / 512), .int .i64 0]) ?_ rfl ⟨rfl, HB1.out.trans ((HB.out.trans (b2.mono HB.out.size)).mono HB1.out.size)⟩
    have e1 : eP + 2 + (4 + (eP + 2 + 511) / 512) = eP + 6 + (eP + 513) / 512 := by omega
    simp [results, Tryd.results8, go_sem]
    omega
set_option maxHeartbeats 4000000 in
set_option maxRecDepth 100000 in
theorem texts_any (p1 p2 : Option Addr) (n c1 c2 : Nat) (xs : List Bs) (w : World) (hn : n < 1000000) (h1 : Tex w p1 n c1 xs) (h2 : Tex w p2 n c2 xs) :
    Calls Tryd.prog 17 #[.slice p1 n c1, .slice p2 n c2] w fun e w' => e = .returned (.bool true) ∧ ∃ k, w' = w.drewN k := by
  obtain ⟨hl, k1, m1, h1⟩ := h1
  obtain ⟨_, k2, m2, h2⟩ := h2
  have m1 : c1 ≤ 9223372036854775807 := m1
  have m2 : c2 ≤ 9223372036854775807 := m2
  have HX : Hid (xs.length = n) := hl
  by_cases h0 : n = 0
  · subst h0
    clear h1 h2 hl
    go_enter Tryd.func17, Tryd.ntmps17
    go_wp2
    go_loopw [5] (fun k wr => k = .int .i64 0 ∧ wr = w) (fun _ _ => 0)
    case atStart => exact ⟨rfl, rfl⟩
    case round =>
      obtain ⟨rfl, rfl⟩ := hrel
      go_wp2
      go_ret
      exact ⟨rfl, 0, rfl⟩
  · rcases h1 with h1 | ⟨b1, o1, rfl, _, h1⟩
    · omega
    rcases h2 with h2 | ⟨b2, o2, rfl, _, h2⟩
    · omega
    have H1 : Hid (∀ i x, xs[i]? = some x → w.cell? ⟨b1, o1 + i, .none⟩ = some (sv x)) := h1
    have H2 : Hid (∀ i x, xs[i]? = some x → w.cell? ⟨b2, o2 + i, .none⟩ = some (sv x)) := h2
    clear h1 h2 hl h0
    go_enter Tryd.func17, Tryd.ntmps17
    go_wp2
    go_loopw [5] (fun k wr => ∃ i : Nat, i ≤ n ∧ k = .int .i64 i ∧ ∃ j, wr = w.drewN j) (fun k _ => (n - intOf k).toNat)
    case atStart => exact ⟨0, by omega, rfl, 0, rfl⟩
    case round =>
      obtain ⟨i, hi, rfl, j, rfl⟩ := hrel
      by_cases hlt : i < n
      · have g0 : (i : Int) < n := by omega
        have hx : ∃ x, xs[i]? = some x := ⟨xs[i]'(by rw [HX.out]; exact hlt), by simp⟩
        obtain ⟨x, hx⟩ := hx
        have a0 := H1.out i x hx
        have b0 := H2.out i x hx
        simp only [sv] at a0 b0
        clear hx
        go_wp2
        go_region
        go_wp2
        exact ⟨⟨i + 1, by omega, rfl, j + 1, rfl⟩, by simp only [intOf]; omega⟩
      · obtain rfl : i = n := by omega
        clear hi hlt
        go_wp2
        go_ret
        exact ⟨rfl, j, rfl⟩
def FewP (w : World) (fn n : Nat) (xs : List Bs) (e : Ending) (w' : World) : Prop := (∃ r, e = .returned (.bool r) ∧ (r = true → fn ≤ 400000 ∧ n < 100 ∧ ∀ x ∈ xs, x.length ≤ 400000)) ∧ w' = w
set_option maxRecDepth 10000 in
set_option maxHeartbeats 1000000 in
theorem few_any (fp p : Option Addr) (fn fc n c : Nat) (xs : List Bs) (w : World) (h : Tex w p n c xs) (hf : fn ≤ 140737488351232) (hn : n ≤ 140737488351232) (hx : ∀ x ∈ xs, x.length ≤ 140737488351232) :
    Calls Tryd.prog 4 #[.slice fp fn fc, .slice p n c] w (FewP w fn n xs) := by
  have HT : Hid (Tex w p n c xs) := h
  have HL : Hid (xs.length = n) := h.1
  have HX : Hid (∀ x ∈ xs, x.length ≤ 140737488351232) := hx
  have hc : n ≤ c ∧ c ≤ 9223372036854775807 := ⟨h.2.1, h.2.2.1⟩
  clear h hx
  go_enter Tryd.func4, Tryd.ntmps4
  go_wp2_with fail
  go_loopw [5, 6] (fun s k wr => ∃ i : Nat, i ≤ n ∧ i ≤ 100 ∧ k = .int .i64 i ∧ ∃ t : Int, s = .int .i64 t ∧ wr = w ∧ Hid (fn ≤ t ∧ t ≤ 140737488351232 * (i + 1) ∧ ∀ j x, j < i → xs[j]? = some x → (x.length : Int) ≤ t)) (fun _ k _ => (n - intOf k).toNat)
  case atStart => exact ⟨0, by omega, by omega, rfl, fn, rfl, rfl, by omega, by omega, fun j x hj => by omega⟩
  case round =>
    obtain ⟨i, hi, hi2, rfl, t, rfl, rfl, HR⟩ := hrel
    have r1 := HR.out.1
    have r2 := HR.out.2.1
    by_cases hlt : i < n ∧ i < 100
    · have g0 : (i : Int) < n := by omega
      have g1 : (i : Int) < 100 := by omega
      obtain ⟨b, o, x, rfl, hxi, a0⟩ := HT.out.at hlt.1
      have hxl := HX.out x (List.mem_of_getElem? hxi)
      have HN : Hid (∀ j y, j < i + 1 → xs[j]? = some y → (y.length : Int) ≤ t + x.length) := fun j y hj hy => by
        rcases Nat.lt_or_ge j i with e | e
        · have := HR.out.2.2 j y e hy; omega
        · obtain rfl : j = i := by omega
          rw [hxi] at hy
          injection hy with e
          subst e
          omega
      clear hxi
      go_wp2_with fail
      exact ⟨⟨i + 1, by omega, by omega, rfl, t + x.length, rfl, trivial, by omega, by omega, HN.out⟩, by simp only [intOf]; omega⟩
    · by_cases hn2 : i < n
      · have g0 : (i : Int) < n := by omega
        obtain rfl : i = 100 := by omega
        have g2 : ¬ ((n : Int) < 100) := by omega
        go_wp2_with fail
        all_goals go_ret
        all_goals exact ⟨⟨false, rfl, fun h => by cases h⟩, rfl⟩
      · obtain rfl : i = n := by omega
        have HJ : Hid (t ≤ 400000 → (i : Int) < 100 → fn ≤ 400000 ∧ i < 100 ∧ ∀ x ∈ xs, x.length ≤ 400000) := fun h1 h2 => ⟨by omega, by omega, fun x hx => by
          obtain ⟨j, hj⟩ := List.mem_iff_getElem?.1 hx
          have hj2 : j < i := by rw [← HL.out]; exact (List.getElem?_eq_some_iff.1 hj).1
          have := HR.out.2.2 j x hj2 hj
          omega⟩
        by_cases ht : t ≤ 400000
        · go_wp2_with fail
          go_ret
          exact ⟨⟨_, rfl, fun h => HJ.out ht (of_decide_eq_true h)⟩, rfl⟩
        · go_wp2_with fail
          go_ret
          exact ⟨⟨false, rfl, fun h => by cases h⟩, rfl⟩
theorem str_info : ∃ i z, Tryd.prog.info? 9 = some i ∧ i.zero = some z ∧ i.size = 1 ∧ i.bytes = 16 ∧ z.cells.size = 1 := info_of 9 1 16 (by kernel_rfl) (by kernel_rfl)
def mark : Bs := [109, 97, 114, 107]
/-- A list of one's own, a mark behind its end. -/
def LenT (w : World) (X g c : Nat) (xs : List Bs) : Prop := w.ownsRow X 9 1 (.slice (some ⟨g, 0, .none⟩) (xs.length + 1) c) (xs.length + 1) ((xs ++ [mark]).map sv)
theorem run_append_noneS (g n cp : Nat) (p : Option Addr) (c : Nat) (ty : TypeId) (w : World) (hn : n ≤ cp) : (Builtin.append_ #[23, 23] ty #[.slice (some ⟨g, 0, .none⟩) n cp, .slice p 0 c]).run Tryd.prog w = .ok (.slice (some ⟨g, 0, .none⟩) n cp) w := by
  obtain ⟨i, z, hi, _⟩ := str_info
  cases p <;> simp [Builtin.append_, run_underlying Tryd.underlying23, sizeOf, typeInfo, hi, Builtin.lenOf, Builtin.firstCells, loadCells, loadCellsFrom, hn] <;> rfl
theorem wpList_append_noneS {w : World} {ops : Array Oper} {rest : List Oper} {o : Oper} {a : Act} {Q : Exit → Act → World → Prop} (hgd : o.guard = none) (s x : Operand)
    (ho : o.op = .call { callee := .builtin .append, args := #[s, x], argTypes := #[23, 23] }) (g n cp : Nat) (hn : n ≤ cp) (p : Option Addr) (c : Nat) (hs : a.eval s = .slice (some ⟨g, 0, .none⟩) n cp) (hx : a.eval x = .slice p 0 c)
    (h : wpList Tryd.prog ops Q rest (a.put o.dst (.slice (some ⟨g, 0, .none⟩) n cp)) w) : wpList Tryd.prog ops Q (o :: rest) a w := by
  refine wpList_plain hgd fun K hK => ?_
  unfold Oper.wp execOp
  simp only [ho, resolve, invoke, builtin, Sem.run_bind, Sem.run_pure, Result.andThen_ok, List.map_toArray, List.map_cons, List.map_nil, hs, hx, run_append_noneS _ _ _ _ _ _ _ hn]
  exact hK _ _ h
set_option maxRecDepth 10000 in
set_option maxHeartbeats 1000000 in
theorem lent_any {p : Option Addr} {n c : Nat} {xs : List Bs} {w : World} (h : Tex w p n c xs) (hn : n ≤ 1048576) :
    Calls Tryd.prog 6 #[.slice p n c] w fun e w' => ∃ g cg, e = .returned (.slice (some ⟨g, 0, .none⟩) n cg) ∧ LenT w' w.heap.size g cg xs ∧ Below w.heap.size w w' := by
  obtain ⟨hl, k1, m1, h1⟩ := h
  have m1 : c ≤ 9223372036854775807 := m1
  have HX : Hid (xs.length = n) := hl
  obtain ⟨i3, z3, hi3, hz3, hs3, hb3, hzs3⟩ := str_info
  have HI : Hid (Tryd.prog.info? 9 = some i3 ∧ i3.zero = some z3 ∧ i3.size = 1 ∧ i3.bytes = 16 ∧ z3.cells.size = 1) := ⟨hi3, hz3, hs3, hb3, hzs3⟩
  clear hi3 hz3 hs3 hb3 hzs3
  obtain ⟨w1, hmk, own1, gr1⟩ := run_make_own (P := Tryd.prog) w w.heap.size 23 9 i3 z3 1 Tryd.underlying23 HI.out.1 HI.out.2.1 HI.out.2.2.1 .i64 .i64 (n + 1) (by rw [HI.out.2.2.2.1]; omega) (by simp only [maxLen]; omega) (Nat.le_refl _)
  have hmk : (Instr.makeSlice 23 (.int .i64 0) (.int .i64 ((n : Int) + 1))).run Tryd.prog w = .ok (.slice (some ⟨w.heap.size, 0, .none⟩) 0 (n + 1)) w1 := by
    have e : ((n + 1 : Nat) : Int) = (n : Int) + 1 := by omega
    rw [e] at hmk
    exact hmk
  have b1 : Below w.heap.size w w1 := (Below.refl _ _).grown gr1 (Nat.le_refl _) (fun k hk => by cases hk)
  have HO1 : Hid (w1.ownsRow w.heap.size 9 1 (.slice (some ⟨w.heap.size, 0, .none⟩) 0 (n + 1)) 0 [] ∧ Below w.heap.size w w1) := ⟨own1, b1⟩
  clear own1 gr1 b1
  go_enter Tryd.func6, Tryd.ntmps6
  go_upto_region 2 with fail
  clear hmk
  by_cases h0 : n = 0
  · subst h0
    obtain rfl : xs = [] := List.eq_nil_of_length_eq_zero HX.out
    go_upto_region 3 with (at_builtin; refine wpList_append_noneS rfl _ _ rfl w.heap.size 0 1 (by omega) p c rfl rfl ?_)
    have HO2 : Hid (w1.ownsRow w.heap.size 9 1 (.slice (some ⟨w.heap.size, 0, .none⟩) 0 1) 0 (([] : List Bs).map sv) ∧ Below w.heap.size w w1) := HO1
    have zz := HO2.out.2.size
    have hcc : 0 ≤ 1 ∧ 1 ≤ 9223372036854775807 := own_cap HO2.out.1
    go_wp2_with (first | (at_builtin; refine wpList_append_own _ rfl _ _ 23 rfl w.heap.size 9 i3 z3 1 16 Tryd.underlying23 HI.out.1 HI.out.2.1 HI.out.2.2.1 HI.out.2.2.2.1 HI.out.2.2.2.2 (by decide) (.slice (some ⟨w.heap.size, 0, .none⟩) 0 1) 0 (([] : List Bs).map sv) rfl (HO2.out.1.alloc _) ⟨w1.heap.size, 0, .none⟩ 1 1 [sv mark] rfl rfl (cell1_new _ _ _) (fun u hu => by rw [List.mem_singleton] at hu; rw [hu]; rfl) ?c4 ?c5 ?c6 ?_) | go_in)
    case c4 => simp only [maxLen]; omega
    try case c5 => omega
    case c6 => first | (simp only [World.size_alloc]; omega) | omega
    intro v' w3 own' grow fb
    clear fb
    obtain ⟨p', c2, rfl⟩ := one_slice own'
    obtain ⟨g3, rfl⟩ := own_some own'
    have hc3 : 0 + 1 ≤ c2 ∧ c2 ≤ 9223372036854775807 := own_cap own'
    have HW : Hid (LenT w3 w.heap.size g3 c2 [] ∧ Below w.heap.size w w3) := by
      refine ⟨?_, below_append HO2.out.2 _ grow zz (own_block HO2.out.1)⟩
      unfold LenT
      exact own'
    clear own' grow
    go_wp2
    go_ret
    exact ⟨g3, c2, rfl, HW.out.1, HW.out.2⟩
  · rcases h1 with h1 | ⟨b, o, rfl, hb, h1⟩
    · omega
    have HC : Hid (∀ j u, (xs.map sv)[j]? = some u → w1.cell? ((⟨b, o, .none⟩ : Addr).add j) = some u) := by
      intro j u hj
      rw [le_addr_add, HO1.out.2.cell hb]
      rw [List.getElem?_map, Option.map_eq_some_iff] at hj
      obtain ⟨x, hx, rfl⟩ := hj
      exact h1 j x hx
    have z0 := HO1.out.2.size
    clear h1
    go_upto_region 3 with (at_builtin; refine wpList_append_own _ rfl _ _ 23 rfl w.heap.size 9 i3 z3 1 16 Tryd.underlying23 HI.out.1 HI.out.2.1 HI.out.2.2.1 HI.out.2.2.2.1 HI.out.2.2.2.2 (by decide) (.slice (some ⟨w.heap.size, 0, .none⟩) 0 (n + 1)) 0 [] rfl HO1.out.1 ⟨b, o, .none⟩ n c (xs.map sv) rfl (by rw [List.length_map, HX.out]; omega) HC.out (fun u hu => by rw [List.mem_map] at hu; obtain ⟨x, _, rfl⟩ := hu; rfl) (by simp only [maxLen]; omega) (by omega) z0 ?_; intro v' w2 own' grow fb; clear fb; rw [Nat.zero_add, List.nil_append] at own'; obtain ⟨p', c2, rfl⟩ := one_slice own'; have HO2 : Hid (w2.ownsRow w.heap.size 9 1 (.slice p' n c2) n (xs.map sv) ∧ Below w.heap.size w w2) := ⟨own', HO1.out.2.grown grow z0 (own_block HO1.out.1)⟩; clear own' grow)
    obtain ⟨g2, rfl⟩ : ∃ g, p' = some ⟨g, 0, .none⟩ := by
      obtain ⟨m, rfl⟩ : ∃ m, n = m + 1 := ⟨n - 1, by omega⟩
      exact own_some HO2.out.1
    have zz := HO2.out.2.size
    have hcc : n ≤ c2 ∧ c2 ≤ 9223372036854775807 := own_cap HO2.out.1
    go_wp2_with (first | (at_builtin; refine wpList_append_own _ rfl _ _ 23 rfl w.heap.size 9 i3 z3 1 16 Tryd.underlying23 HI.out.1 HI.out.2.1 HI.out.2.2.1 HI.out.2.2.2.1 HI.out.2.2.2.2 (by decide) (.slice (some ⟨g2, 0, .none⟩) n c2) n (xs.map sv) rfl (HO2.out.1.alloc _) ⟨w2.heap.size, 0, .none⟩ 1 1 [sv mark] rfl rfl (cell1_new _ _ _) (fun u hu => by rw [List.mem_singleton] at hu; rw [hu]; rfl) ?d4 ?d5 ?d6 ?_) | go_in)
    case d4 => simp only [maxLen]; omega
    case d5 => omega
    case d6 => first | (simp only [World.size_alloc]; omega) | omega
    intro v' w3 own' grow fb
    clear fb
    obtain ⟨p3, c3, rfl⟩ := one_slice own'
    obtain ⟨g3, rfl⟩ := own_some own'
    have hc3 : n + 1 ≤ c3 ∧ c3 ≤ 9223372036854775807 := own_cap own'
    have HW : Hid (LenT w3 w.heap.size g3 c3 xs ∧ Below w.heap.size w w3) := by
      refine ⟨?_, below_append HO2.out.2 _ grow zz (own_block HO2.out.1)⟩
      unfold LenT
      rw [HX.out, List.map_append]
      exact own'
    clear own' grow
    go_wp2
    go_ret
    exact ⟨g3, c3, rfl, HW.out.1, HW.out.2⟩
end Go.Proofs.YtdfjjnkbnegecaaDoor
