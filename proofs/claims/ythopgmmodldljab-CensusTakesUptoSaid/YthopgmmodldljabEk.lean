import Derived.Test.YthopgmmodldljabEj
namespace Go.Proofs.Ythopgmmodldljab
open Go Go.RowKit
set_option linter.unusedVariables false
set_option linter.unusedSimpArgs false
/-! Numbers that rise. -/
theorem wpList_loadGG {w : World} {ops : Array Oper} {rest : List Oper} {o : Oper} {a : Act} {Q : Exit → Act → World → Prop} (t k b : Nat) (hinfo : ∃ i z, Try.prog.info? t = some i ∧ i.zero = some z ∧ i.size = k ∧ i.bytes = b ∧ z.cells.size = k) (d : TypeDesc) (hu : Try.prog.underlying t = some d) (hd : d.isRow = true) (cs : List Value) (hl : cs.length = k) (g f : Nat) (x : Operand) (hw : Region.wanted o (yielded ops a.tmps) = true) (ho : o.op = .load t x) (hx : a.eval x = .pointer (some ⟨g, f, .none⟩)) (hr : w.rangeAt g f cs) (e : Option Tmp) (he : o.dst = e)
  (h : wpList Try.prog ops Q rest (a.put e (.agg cs.toArray)) w) : wpList Try.prog ops Q (o :: rest) a w := by
 subst he
 obtain ⟨i, z, hi, hz, hs, hb, hzs⟩ := hinfo
 unfold wpList
 rw [if_pos hw]
 exact .inl (wp_load_mid t x ho g f hx cs d hr hu hd (by rw [hi, Option.map_some, hs, hl]) h)
def ltO (o : Option Int) (m : Int) : Bool := match o with
 | none => false
 | some y => decide (y < m)
def numB {α : Type} (f : α → Int) (l : List α) (i : Nat) (lo hi : Int) : Bool := ((l[i]?).map fun x => decide (lo ≤ f x) && (decide (f x ≤ hi) && (decide (i = 0) || ltO ((l[i - 1]?).map f) (f x)))).getD false
theorem numB_of {α : Type} (f : α → Int) {l : List α} {i : Nat} {x : α} (hx : l[i]? = some x) {m : Int} (hm : m = f x) (lo hi : Int) : numB f l i lo hi = (decide (lo ≤ m) && (decide (m ≤ hi) && (decide (i = 0) || ltO ((l[i - 1]?).map f) m))) := by unfold numB; rw [hx, hm]; rfl
set_option maxRecDepth 100000 in
theorem num86_any (x : Pc) (nv gv : Value) (w : World) : Calls Try.prog 68 #[.agg (x.l nv gv).toArray] w fun e w' => e = .returned (.int .i64 (x.c 0)) ∧ Below w.heap.size w w' := by
 go_enter Try.func68, Try.ntmps68
 go_wp2_with (first
  | (refine wpList_is (.box 60 (.tmp 0)) rfl ?_; refine wpList_boxG 60 (x.l nv gv) 1 (.tmp 0) _ rfl rfl rfl rfl ?_; intro W1 hW1 hB1 hs1; have k0 : W1.cell? ⟨w.heap.size, 0, .none⟩ = some (.int .i64 (x.c 0)) := cell_heap (o := 0) hW1)
  | fail)
 go_ret
 exact ⟨rfl, hB1⟩
set_option maxRecDepth 100000 in
theorem num88_any (x : Fi) (w : World) : Calls Try.prog 72 #[.agg (x.l).toArray] w fun e w' => e = .returned (.int .i64 (x.num)) ∧ Below w.heap.size w w' := by
 go_enter Try.func72, Try.ntmps72
 go_wp2_with (first
  | (refine wpList_is (.box 67 (.tmp 0)) rfl ?_; refine wpList_boxG 67 (x.l) 1 (.tmp 0) _ rfl rfl rfl rfl ?_; intro W1 hW1 hB1 hs1; have k0 : W1.cell? ⟨w.heap.size, 0, .none⟩ = some (.int .i64 (x.num)) := cell_heap (o := 0) hW1)
  | fail)
 go_ret
 exact ⟨rfl, hB1⟩
set_option maxRecDepth 100000 in
theorem num91_any (x : In) (bv : Value) (w : World) : Calls Try.prog 75 #[.agg (x.l bv).toArray] w fun e w' => e = .returned (.int .i64 (x.ino)) ∧ Below w.heap.size w w' := by
 go_enter Try.func75, Try.ntmps75
 go_wp2_with (first
  | (refine wpList_is (.box 63 (.tmp 0)) rfl ?_; refine wpList_boxG 63 (x.l bv) 1 (.tmp 0) _ rfl rfl rfl rfl ?_; intro W1 hW1 hB1 hs1; have k0 : W1.cell? ⟨w.heap.size, 0, .none⟩ = some (.int .i64 (x.ino)) := cell_heap (o := 0) hW1)
  | fail)
 go_ret
 exact ⟨rfl, hB1⟩
set_option maxRecDepth 100000 in
theorem num93_any (x : Pp) (bv : Value) (w : World) : Calls Try.prog 77 #[.agg (x.l bv).toArray] w fun e w' => e = .returned (.int .i64 (x.num)) ∧ Below w.heap.size w w' := by
 go_enter Try.func77, Try.ntmps77
 go_wp2_with (first
  | (refine wpList_is (.box 72 (.tmp 0)) rfl ?_; refine wpList_boxG 72 (x.l bv) 1 (.tmp 0) _ rfl rfl rfl rfl ?_; intro W1 hW1 hB1 hs1; have k0 : W1.cell? ⟨w.heap.size, 0, .none⟩ = some (.int .i64 (x.num)) := cell_heap (o := 0) hW1)
  | fail)
 go_ret
 exact ⟨rfl, hB1⟩
set_option maxRecDepth 100000 in
set_option maxHeartbeats 1000000 in
theorem isn87_any {w : World} {X : Nat} {v : Value} {l : List Pc} (h : Ps w X v l) (hX : X ≤ w.heap.size) (hl : l.length ≤ 1048576) (i : Nat) (hi : i < l.length) (lo hh : Int) : Calls Try.prog 69 #[v, .int .i64 i, .func (.func 68) #[] #[], .int .i64 lo, .int .i64 hh] w fun e w' => e = .returned (.bool (numB (fun p : Pc => p.c 0) l i lo hh)) ∧ Below w.heap.size w w' := by
 obtain ⟨p, c, rfl⟩ := h.form
 obtain ⟨n, hn⟩ : ∃ n, n = l.length := ⟨_, rfl⟩
 rw [← hn] at h hl hi ⊢
 obtain ⟨-, b, o, x, cs, rfl, hbX, hx, ⟨nv, gv, rfl, hN, hG⟩, hcl, hr⟩ := h.at hi
 have i1 : (i : Int) < n := by omega
 have HX : Hid (l[i]? = some x ∧ b < w.heap.size ∧ Ps w X (.slice (some ⟨b, o, .none⟩) n c) l) := ⟨hx, by show b < _; omega, h⟩
 clear h hx hcl hn
 obtain ⟨m, hm⟩ : ∃ m, m = (fun p : Pc => p.c 0) x := ⟨_, rfl⟩
 have HNB : Hid (numB (fun p : Pc => p.c 0) l i lo hh = (decide (lo ≤ m) && (decide (m ≤ hh) && (decide (i = 0) || ltO ((l[i - 1]?).map (fun p : Pc => p.c 0)) m)))) := numB_of (fun p : Pc => p.c 0) HX.out.1 hm lo hh
 go_enter Try.func69, Try.ntmps69
 go_wp2_with (first
  | (refine wpList_is (.load 60 (.tmp 15)) rfl ?_; refine wpList_loadG 60 70 584 info55 _ Try.underlying60 rfl (x.l nv gv) rfl b (o + i * 70) (.tmp 15) rfl rfl rfl hr (some 16) rfl ?_)
  | fail)
 go_at_call 68
 refine (num86_any x nv gv _).mono ?_
 rintro e W1 ⟨rfl, hB1⟩
 have e1 : (fun p : Pc => p.c 0) x = m := hm.symm
 simp only [] at e1
 rw [e1]
 clear e1 hm hr
 have HB1 : Hid (Below w.heap.size w W1) := hB1
 clear hB1 hbX hX
 by_cases h1 : lo ≤ m
 case neg =>
  have HT : Hid (decide (lo ≤ m) = false) := decide_eq_false h1
  go_wp2
  go_ret
  exact ⟨by rw [HNB.out, HT.out]; rfl, HB1.out⟩
 by_cases h2 : m ≤ hh
 case neg =>
  have HT : Hid (decide (lo ≤ m) = true ∧ decide (m ≤ hh) = false) := ⟨decide_eq_true h1, decide_eq_false h2⟩
  go_wp2
  go_ret
  exact ⟨by rw [HNB.out, HT.out.1, HT.out.2]; rfl, HB1.out⟩
 have HT : Hid (decide (lo ≤ m) = true ∧ decide (m ≤ hh) = true) := ⟨decide_eq_true h1, decide_eq_true h2⟩
 by_cases h3 : i = 0
 ·have e3 : ((i : Int) == 0) = true := by simp [h3]
  have HD : Hid (decide (i = 0) = true) := decide_eq_true h3
  clear h3
  go_wp2
  go_ret
  exact ⟨by rw [HNB.out, HT.out.1, HT.out.2, HD.out]; rfl, HB1.out⟩
 ·have e3 : ((i : Int) == 0) = false := by simp; omega
  have HD : Hid (decide (i = 0) = false) := decide_eq_false h3
  obtain ⟨-, b', o', y, cs', hp', hbY, hy, ⟨nv2, gv2, rfl, hN2, hG2⟩, hcl', hr'⟩ := HX.out.2.2.at (i := i - 1) (by omega)
  have ep : b' = b ∧ o' = o := by injection hp' with e; injection e with e1 e2; exact ⟨e1.symm, e2.symm⟩
  obtain ⟨rfl, rfl⟩ := ep
  have r2 : W1.rangeAt b' (o' + (i - 1) * 70) (y.l nv2 gv2) := range_keep hr' HB1.out HX.out.2.1
  have HY2 : Hid ((l[i - 1]?).map (fun p : Pc => p.c 0) = some ((fun p : Pc => p.c 0) y)) := by show _ = _; rw [hy]; rfl
  obtain ⟨j, hj⟩ : ∃ j, j = i - 1 := ⟨_, rfl⟩
  rw [← hj] at r2
  have hji : (i : Int) - 1 = (j : Int) := by omega
  have hj1 : (j : Int) < n := by omega
  have hw1 : IntKind.i64.wrap ((i : Int) - 1) = (j : Int) := by rw [IntKind.wrap_i64]; omega
  have HY : Hid (b' < w.heap.size ∧ b' < W1.heap.size) := ⟨HX.out.2.1, by have := HB1.out.size; have := HX.out.2.1; show b' < _; omega⟩
  clear h3 hp' hbY hy hcl' hr' hj hji
  go_wp2_with (first
   | (refine wpList_is (.load 60 (.tmp 34)) rfl ?_; refine wpList_loadGG 60 70 584 info55 _ Try.underlying60 rfl (y.l nv2 gv2) rfl b' (o' + j * 70) (.tmp 34) rfl rfl rfl r2 (some 35) rfl ?_)
   | fail)
  go_at_call 68
  refine (num86_any y nv2 gv2 _).mono ?_
  rintro e W2 ⟨rfl, hB2⟩
  have HB2 : Hid (Below w.heap.size w W2) := HB1.out.trans (hB2.mono HB1.out.size)
  clear hB2 r2
  go_wp2
  go_ret
  exact ⟨by rw [HNB.out, HT.out.1, HT.out.2, HD.out, HY2.out]; simp [ltO], HB2.out⟩
set_option maxRecDepth 100000 in
set_option maxHeartbeats 1000000 in
theorem isn89_any {w : World} {X : Nat} {v : Value} {l : List Fi} (h : Fs w X v l) (hX : X ≤ w.heap.size) (hl : l.length ≤ 1048576) (i : Nat) (hi : i < l.length) (lo hh : Int) : Calls Try.prog 73 #[v, .int .i64 i, .func (.func 72) #[] #[], .int .i64 lo, .int .i64 hh] w fun e w' => e = .returned (.bool (numB (fun f : Fi => f.num) l i lo hh)) ∧ Below w.heap.size w w' := by
 obtain ⟨p, c, rfl⟩ := h.form
 obtain ⟨n, hn⟩ : ∃ n, n = l.length := ⟨_, rfl⟩
 rw [← hn] at h hl hi ⊢
 obtain ⟨-, b, o, x, cs, rfl, hbX, hx, rfl, hcl, hr⟩ := h.at hi
 have i1 : (i : Int) < n := by omega
 have HX : Hid (l[i]? = some x ∧ b < w.heap.size ∧ Fs w X (.slice (some ⟨b, o, .none⟩) n c) l) := ⟨hx, by show b < _; omega, h⟩
 clear h hx hcl hn
 obtain ⟨m, hm⟩ : ∃ m, m = (fun f : Fi => f.num) x := ⟨_, rfl⟩
 have HNB : Hid (numB (fun f : Fi => f.num) l i lo hh = (decide (lo ≤ m) && (decide (m ≤ hh) && (decide (i = 0) || ltO ((l[i - 1]?).map (fun f : Fi => f.num)) m)))) := numB_of (fun f : Fi => f.num) HX.out.1 hm lo hh
 go_enter Try.func73, Try.ntmps73
 go_wp2_with (first
  | (refine wpList_is (.load 67 (.tmp 15)) rfl ?_; refine wpList_loadG 67 8 56 info94 _ Try.underlying67 rfl (x.l) rfl b (o + i * 8) (.tmp 15) rfl rfl rfl hr (some 16) rfl ?_)
  | fail)
 go_at_call 72
 refine (num88_any x _).mono ?_
 rintro e W1 ⟨rfl, hB1⟩
 have e1 : (fun f : Fi => f.num) x = m := hm.symm
 simp only [] at e1
 rw [e1]
 clear e1 hm hr
 have HB1 : Hid (Below w.heap.size w W1) := hB1
 clear hB1 hbX hX
 by_cases h1 : lo ≤ m
 case neg =>
  have HT : Hid (decide (lo ≤ m) = false) := decide_eq_false h1
  go_wp2
  go_ret
  exact ⟨by rw [HNB.out, HT.out]; rfl, HB1.out⟩
 by_cases h2 : m ≤ hh
 case neg =>
  have HT : Hid (decide (lo ≤ m) = true ∧ decide (m ≤ hh) = false) := ⟨decide_eq_true h1, decide_eq_false h2⟩
  go_wp2
  go_ret
  exact ⟨by rw [HNB.out, HT.out.1, HT.out.2]; rfl, HB1.out⟩
 have HT : Hid (decide (lo ≤ m) = true ∧ decide (m ≤ hh) = true) := ⟨decide_eq_true h1, decide_eq_true h2⟩
 by_cases h3 : i = 0
 ·have e3 : ((i : Int) == 0) = true := by simp [h3]
  have HD : Hid (decide (i = 0) = true) := decide_eq_true h3
  clear h3
  go_wp2
  go_ret
  exact ⟨by rw [HNB.out, HT.out.1, HT.out.2, HD.out]; rfl, HB1.out⟩
 ·have e3 : ((i : Int) == 0) = false := by simp; omega
  have HD : Hid (decide (i = 0) = false) := decide_eq_false h3
  obtain ⟨-, b', o', y, cs', hp', hbY, hy, rfl, hcl', hr'⟩ := HX.out.2.2.at (i := i - 1) (by omega)
  have ep : b' = b ∧ o' = o := by injection hp' with e; injection e with e1 e2; exact ⟨e1.symm, e2.symm⟩
  obtain ⟨rfl, rfl⟩ := ep
  have r2 : W1.rangeAt b' (o' + (i - 1) * 8) (y.l) := range_keep hr' HB1.out HX.out.2.1
  have HY2 : Hid ((l[i - 1]?).map (fun f : Fi => f.num) = some ((fun f : Fi => f.num) y)) := by show _ = _; rw [hy]; rfl
  obtain ⟨j, hj⟩ : ∃ j, j = i - 1 := ⟨_, rfl⟩
  rw [← hj] at r2
  have hji : (i : Int) - 1 = (j : Int) := by omega
  have hj1 : (j : Int) < n := by omega
  have hw1 : IntKind.i64.wrap ((i : Int) - 1) = (j : Int) := by rw [IntKind.wrap_i64]; omega
  have HY : Hid (b' < w.heap.size ∧ b' < W1.heap.size) := ⟨HX.out.2.1, by have := HB1.out.size; have := HX.out.2.1; show b' < _; omega⟩
  clear h3 hp' hbY hy hcl' hr' hj hji
  go_wp2_with (first
   | (refine wpList_is (.load 67 (.tmp 34)) rfl ?_; refine wpList_loadGG 67 8 56 info94 _ Try.underlying67 rfl (y.l) rfl b' (o' + j * 8) (.tmp 34) rfl rfl rfl r2 (some 35) rfl ?_)
   | fail)
  go_at_call 72
  refine (num88_any y _).mono ?_
  rintro e W2 ⟨rfl, hB2⟩
  have HB2 : Hid (Below w.heap.size w W2) := HB1.out.trans (hB2.mono HB1.out.size)
  clear hB2 r2
  go_wp2
  go_ret
  exact ⟨by rw [HNB.out, HT.out.1, HT.out.2, HD.out, HY2.out]; simp [ltO], HB2.out⟩
set_option maxRecDepth 100000 in
set_option maxHeartbeats 1000000 in
theorem isn92_any {w : World} {X : Nat} {v : Value} {l : List In} (h : Is w X v l) (hX : X ≤ w.heap.size) (hl : l.length ≤ 1048576) (i : Nat) (hi : i < l.length) (lo hh : Int) : Calls Try.prog 76 #[v, .int .i64 i, .func (.func 75) #[] #[], .int .i64 lo, .int .i64 hh] w fun e w' => e = .returned (.bool (numB (fun f : In => f.ino) l i lo hh)) ∧ Below w.heap.size w w' := by
 obtain ⟨p, c, rfl⟩ := h.form
 obtain ⟨n, hn⟩ : ∃ n, n = l.length := ⟨_, rfl⟩
 rw [← hn] at h hl hi ⊢
 obtain ⟨-, b, o, x, cs, rfl, hbX, hx, ⟨bv, rfl, hN⟩, hcl, hr⟩ := h.at hi
 have i1 : (i : Int) < n := by omega
 have HX : Hid (l[i]? = some x ∧ b < w.heap.size ∧ Is w X (.slice (some ⟨b, o, .none⟩) n c) l) := ⟨hx, by show b < _; omega, h⟩
 clear h hx hcl hn
 obtain ⟨m, hm⟩ : ∃ m, m = (fun f : In => f.ino) x := ⟨_, rfl⟩
 have HNB : Hid (numB (fun f : In => f.ino) l i lo hh = (decide (lo ≤ m) && (decide (m ≤ hh) && (decide (i = 0) || ltO ((l[i - 1]?).map (fun f : In => f.ino)) m)))) := numB_of (fun f : In => f.ino) HX.out.1 hm lo hh
 go_enter Try.func76, Try.ntmps76
 go_wp2_with (first
  | (refine wpList_is (.load 63 (.tmp 15)) rfl ?_; refine wpList_loadG 63 8 72 info66 _ Try.underlying63 rfl (x.l bv) rfl b (o + i * 8) (.tmp 15) rfl rfl rfl hr (some 16) rfl ?_)
  | fail)
 go_at_call 75
 refine (num91_any x bv _).mono ?_
 rintro e W1 ⟨rfl, hB1⟩
 have e1 : (fun f : In => f.ino) x = m := hm.symm
 simp only [] at e1
 rw [e1]
 clear e1 hm hr
 have HB1 : Hid (Below w.heap.size w W1) := hB1
 clear hB1 hbX hX
 by_cases h1 : lo ≤ m
 case neg =>
  have HT : Hid (decide (lo ≤ m) = false) := decide_eq_false h1
  go_wp2
  go_ret
  exact ⟨by rw [HNB.out, HT.out]; rfl, HB1.out⟩
 by_cases h2 : m ≤ hh
 case neg =>
  have HT : Hid (decide (lo ≤ m) = true ∧ decide (m ≤ hh) = false) := ⟨decide_eq_true h1, decide_eq_false h2⟩
  go_wp2
  go_ret
  exact ⟨by rw [HNB.out, HT.out.1, HT.out.2]; rfl, HB1.out⟩
 have HT : Hid (decide (lo ≤ m) = true ∧ decide (m ≤ hh) = true) := ⟨decide_eq_true h1, decide_eq_true h2⟩
 by_cases h3 : i = 0
 ·have e3 : ((i : Int) == 0) = true := by simp [h3]
  have HD : Hid (decide (i = 0) = true) := decide_eq_true h3
  clear h3
  go_wp2
  go_ret
  exact ⟨by rw [HNB.out, HT.out.1, HT.out.2, HD.out]; rfl, HB1.out⟩
 ·have e3 : ((i : Int) == 0) = false := by simp; omega
  have HD : Hid (decide (i = 0) = false) := decide_eq_false h3
  obtain ⟨-, b', o', y, cs', hp', hbY, hy, ⟨bv2, rfl, hN2⟩, hcl', hr'⟩ := HX.out.2.2.at (i := i - 1) (by omega)
  have ep : b' = b ∧ o' = o := by injection hp' with e; injection e with e1 e2; exact ⟨e1.symm, e2.symm⟩
  obtain ⟨rfl, rfl⟩ := ep
  have r2 : W1.rangeAt b' (o' + (i - 1) * 8) (y.l bv2) := range_keep hr' HB1.out HX.out.2.1
  have HY2 : Hid ((l[i - 1]?).map (fun f : In => f.ino) = some ((fun f : In => f.ino) y)) := by show _ = _; rw [hy]; rfl
  obtain ⟨j, hj⟩ : ∃ j, j = i - 1 := ⟨_, rfl⟩
  rw [← hj] at r2
  have hji : (i : Int) - 1 = (j : Int) := by omega
  have hj1 : (j : Int) < n := by omega
  have hw1 : IntKind.i64.wrap ((i : Int) - 1) = (j : Int) := by rw [IntKind.wrap_i64]; omega
  have HY : Hid (b' < w.heap.size ∧ b' < W1.heap.size) := ⟨HX.out.2.1, by have := HB1.out.size; have := HX.out.2.1; show b' < _; omega⟩
  clear h3 hp' hbY hy hcl' hr' hj hji
  go_wp2_with (first
   | (refine wpList_is (.load 63 (.tmp 34)) rfl ?_; refine wpList_loadGG 63 8 72 info66 _ Try.underlying63 rfl (y.l bv2) rfl b' (o' + j * 8) (.tmp 34) rfl rfl rfl r2 (some 35) rfl ?_)
   | fail)
  go_at_call 75
  refine (num91_any y bv2 _).mono ?_
  rintro e W2 ⟨rfl, hB2⟩
  have HB2 : Hid (Below w.heap.size w W2) := HB1.out.trans (hB2.mono HB1.out.size)
  clear hB2 r2
  go_wp2
  go_ret
  exact ⟨by rw [HNB.out, HT.out.1, HT.out.2, HD.out, HY2.out]; simp [ltO], HB2.out⟩
set_option maxRecDepth 100000 in
set_option maxHeartbeats 1000000 in
theorem isn94_any {w : World} {X : Nat} {v : Value} {l : List Pp} (h : Qs w X v l) (hX : X ≤ w.heap.size) (hl : l.length ≤ 1048576) (i : Nat) (hi : i < l.length) (lo hh : Int) : Calls Try.prog 78 #[v, .int .i64 i, .func (.func 77) #[] #[], .int .i64 lo, .int .i64 hh] w fun e w' => e = .returned (.bool (numB (fun f : Pp => f.num) l i lo hh)) ∧ Below w.heap.size w w' := by
 obtain ⟨p, c, rfl⟩ := h.form
 obtain ⟨n, hn⟩ : ∃ n, n = l.length := ⟨_, rfl⟩
 rw [← hn] at h hl hi ⊢
 obtain ⟨-, b, o, x, cs, rfl, hbX, hx, ⟨bv, rfl, hN⟩, hcl, hr⟩ := h.at hi
 have i1 : (i : Int) < n := by omega
 have HX : Hid (l[i]? = some x ∧ b < w.heap.size ∧ Qs w X (.slice (some ⟨b, o, .none⟩) n c) l) := ⟨hx, by show b < _; omega, h⟩
 clear h hx hcl hn
 obtain ⟨m, hm⟩ : ∃ m, m = (fun f : Pp => f.num) x := ⟨_, rfl⟩
 have HNB : Hid (numB (fun f : Pp => f.num) l i lo hh = (decide (lo ≤ m) && (decide (m ≤ hh) && (decide (i = 0) || ltO ((l[i - 1]?).map (fun f : Pp => f.num)) m)))) := numB_of (fun f : Pp => f.num) HX.out.1 hm lo hh
 go_enter Try.func78, Try.ntmps78
 go_wp2_with (first
  | (refine wpList_is (.load 72 (.tmp 15)) rfl ?_; refine wpList_loadG 72 6 48 info98 _ Try.underlying72 rfl (x.l bv) rfl b (o + i * 6) (.tmp 15) rfl rfl rfl hr (some 16) rfl ?_)
  | fail)
 go_at_call 77
 refine (num93_any x bv _).mono ?_
 rintro e W1 ⟨rfl, hB1⟩
 have e1 : (fun f : Pp => f.num) x = m := hm.symm
 simp only [] at e1
 rw [e1]
 clear e1 hm hr
 have HB1 : Hid (Below w.heap.size w W1) := hB1
 clear hB1 hbX hX
 by_cases h1 : lo ≤ m
 case neg =>
  have HT : Hid (decide (lo ≤ m) = false) := decide_eq_false h1
  go_wp2
  go_ret
  exact ⟨by rw [HNB.out, HT.out]; rfl, HB1.out⟩
 by_cases h2 : m ≤ hh
 case neg =>
  have HT : Hid (decide (lo ≤ m) = true ∧ decide (m ≤ hh) = false) := ⟨decide_eq_true h1, decide_eq_false h2⟩
  go_wp2
  go_ret
  exact ⟨by rw [HNB.out, HT.out.1, HT.out.2]; rfl, HB1.out⟩
 have HT : Hid (decide (lo ≤ m) = true ∧ decide (m ≤ hh) = true) := ⟨decide_eq_true h1, decide_eq_true h2⟩
 by_cases h3 : i = 0
 ·have e3 : ((i : Int) == 0) = true := by simp [h3]
  have HD : Hid (decide (i = 0) = true) := decide_eq_true h3
  clear h3
  go_wp2
  go_ret
  exact ⟨by rw [HNB.out, HT.out.1, HT.out.2, HD.out]; rfl, HB1.out⟩
 ·have e3 : ((i : Int) == 0) = false := by simp; omega
  have HD : Hid (decide (i = 0) = false) := decide_eq_false h3
  obtain ⟨-, b', o', y, cs', hp', hbY, hy, ⟨bv2, rfl, hN2⟩, hcl', hr'⟩ := HX.out.2.2.at (i := i - 1) (by omega)
  have ep : b' = b ∧ o' = o := by injection hp' with e; injection e with e1 e2; exact ⟨e1.symm, e2.symm⟩
  obtain ⟨rfl, rfl⟩ := ep
  have r2 : W1.rangeAt b' (o' + (i - 1) * 6) (y.l bv2) := range_keep hr' HB1.out HX.out.2.1
  have HY2 : Hid ((l[i - 1]?).map (fun f : Pp => f.num) = some ((fun f : Pp => f.num) y)) := by show _ = _; rw [hy]; rfl
  obtain ⟨j, hj⟩ : ∃ j, j = i - 1 := ⟨_, rfl⟩
  rw [← hj] at r2
  have hji : (i : Int) - 1 = (j : Int) := by omega
  have hj1 : (j : Int) < n := by omega
  have hw1 : IntKind.i64.wrap ((i : Int) - 1) = (j : Int) := by rw [IntKind.wrap_i64]; omega
  have HY : Hid (b' < w.heap.size ∧ b' < W1.heap.size) := ⟨HX.out.2.1, by have := HB1.out.size; have := HX.out.2.1; show b' < _; omega⟩
  clear h3 hp' hbY hy hcl' hr' hj hji
  go_wp2_with (first
   | (refine wpList_is (.load 72 (.tmp 34)) rfl ?_; refine wpList_loadGG 72 6 48 info98 _ Try.underlying72 rfl (y.l bv2) rfl b' (o' + j * 6) (.tmp 34) rfl rfl rfl r2 (some 35) rfl ?_)
   | fail)
  go_at_call 77
  refine (num93_any y bv2 _).mono ?_
  rintro e W2 ⟨rfl, hB2⟩
  have HB2 : Hid (Below w.heap.size w W2) := HB1.out.trans (hB2.mono HB1.out.size)
  clear hB2 r2
  go_wp2
  go_ret
  exact ⟨by rw [HNB.out, HT.out.1, HT.out.2, HD.out, HY2.out]; simp [ltO], HB2.out⟩
end Go.Proofs.Ythopgmmodldljab
