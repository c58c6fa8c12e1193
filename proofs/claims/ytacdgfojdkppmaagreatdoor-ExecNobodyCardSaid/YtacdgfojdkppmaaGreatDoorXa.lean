import Derived.Test.YtacdgfojdkppmaaGreatDoorRd9
namespace Go.Proofs.YtacdgfojdkppmaaGreatDoor
open Go.RowKit
set_option linter.unusedVariables false
set_option linter.unusedSimpArgs false
/-- The pages from 0 to the last segment's end. -/
def ePg (S : List Sg) : Int := match S.getLast? with | none => 0 | some l => (l.va + l.mem + 4095) / 4096
theorem ePg_bound (E : List (Sg × Value)) (h : ∀ x ∈ E, Gd x.1) : 0 ≤ ePg (E.map (·.1)) ∧ ePg (E.map (·.1)) ≤ 262144 := by
  unfold ePg
  rw [List.getLast?_map]
  cases hl : E.getLast? with
  | none => simp
  | some l =>
    have hg := h l (List.mem_of_getLast? hl)
    have h1 := hg.v
    have h2 := hg.m
    have h3 := hg.e
    simp only [Option.map_some]
    omega
theorem below_any (va fl mem : Int) (dp : Option Addr) (dn dc : Nat) (w : World) (hv : 0 ≤ va) (hm : 0 ≤ mem) (he : va + mem ≤ 1073741824) :
    Calls Tryz.prog 109 #[.agg #[.int .u64 va, .int .u32 fl, .slice dp dn dc, .int .u64 mem]] w fun e w' => e = .returned (.int .i64 ((va + mem + 4095) / 4096)) ∧ Below w.heap.size w w' := by
  have h1 : IntKind.u64.wrap (va + mem) = va + mem := by rw [IntKind.wrap_u64]; omega
  have h2 : IntKind.u64.wrap (va + mem + 4096) = va + mem + 4096 := by rw [IntKind.wrap_u64]; omega
  have h3 : IntKind.u64.wrap (va + mem + 4096 - 1) = va + mem + 4095 := by rw [IntKind.wrap_u64]; omega
  go_enter Tryz.func109, Tryz.ntmps109
  go_wp2
  go_ret
  exact ⟨rfl, (Below.refl _ _).alloc (Nat.le_refl _) _⟩
theorem addr_any (k : Int) (w : World) (h : 0 ≤ k ∧ k ≤ 1000000) : Calls Tryz.prog 104 #[.int .i64 k] w fun e w' => e = .returned (.int .u64 (k * 4096)) ∧ w' = w := by
  have h1 : IntKind.u64.wrap k = k := by rw [IntKind.wrap_u64]; omega
  have h2 : IntKind.u64.wrap (k * 4096) = k * 4096 := by rw [IntKind.wrap_u64]; omega
  go_enter Tryz.func104, Tryz.ntmps104
  go_wp2
  go_ret
  exact ⟨rfl, rfl⟩
theorem nodes_any (k : Int) (w : World) (h : 0 ≤ k ∧ k ≤ 1000000) : Calls Tryz.prog 23 #[.int .i64 k] w fun e w' => e = .returned (.int .i64 (4 + (k + 511) / 512)) ∧ w' = w := by
  go_enter Tryz.func23, Tryz.ntmps23
  go_wp2
  go_ret
  exact ⟨rfl, rfl⟩
set_option maxHeartbeats 1000000 in
theorem guard_any {w : World} {X c : Nat} {q : Option Addr} {E : List (Sg × Value)} {B : Nat → Int} (h : Segs w X (.slice q E.length c) E B) (h0 : E ≠ []) (hl : E.length ≤ 8) (en sp : Int) (dp : Option Addr) (dn dc : Nat) :
    Calls Tryz.prog 65 #[.agg #[.int .u64 en, .slice q E.length c, .slice dp dn dc, .int .u64 sp]] w fun e w' => e = .returned (.int .i64 (ePg (E.map (·.1)))) ∧ Below w.heap.size w w' := by
  obtain ⟨q', c', e', hc1, hc2, hq⟩ := own_form h.own
  cases e'
  obtain ⟨l, hlast⟩ : ∃ l, E.getLast? = some l := ⟨E.getLast h0, List.getLast?_eq_some_getLast h0⟩
  have hn : 0 < E.length := List.length_pos_iff.2 h0
  obtain ⟨m, hm⟩ : ∃ m, E.length = m + 1 := ⟨E.length - 1, by omega⟩
  have hg : E[m]? = some l := by
    have : E.length - 1 = m := by omega
    rw [← this, ← List.getLast?_eq_getElem?]
    exact hlast
  have hP : ePg (E.map (·.1)) = (l.1.va + l.1.mem + 4095) / 4096 := by simp [ePg, List.getLast?_map, hlast]
  obtain ⟨f0, f1, f2, f3⟩ := flatE_get E _ l hg
  obtain ⟨g, rfl, a0⟩ := own_cell h.own f0 hn (by omega)
  obtain ⟨g1, e1, a1⟩ := own_cell h.own f1 hn (by omega)
  obtain ⟨g2, e2, a2⟩ := own_cell h.own f2 hn (by omega)
  obtain ⟨g3, e3, a3⟩ := own_cell h.own f3 hn (by omega)
  simp only [Option.some.injEq, Addr.mk.injEq, and_true] at e1 e2 e3
  subst e1 e2 e3
  have hgd := h.gd l (List.mem_of_getElem? hg)
  obtain ⟨ldq, ldc, hld, _⟩ := own_form (h.dat l (List.mem_of_getElem? hg))
  rw [hld] at a2
  have HB : Hid (Below w.heap.size w (w.alloc (.cells #[.int .u64 en, .slice (some ⟨g, 0, .none⟩) E.length c, .slice dp dn dc, .int .u64 sp] 75))) := (Below.refl _ _).alloc (Nat.le_refl _) _
  have b0 := (HB.out.cell (lt_of_cell a0)).trans a0
  have b1 := (HB.out.cell (lt_of_cell a1)).trans a1
  have b2 := (HB.out.cell (lt_of_cell a2)).trans a2
  have b3 := (HB.out.cell (lt_of_cell a3)).trans a3
  have hv := hgd.v
  have hmm := hgd.m
  have he := hgd.e
  have c1 := fun wx => below_any l.1.va l.1.fl l.1.mem ldq l.1.sz ldc wx hv hmm he
  rw [hP, hm]
  rw [hm] at HB b0 b1 b2 b3
  have hm8 : m < 8 := by omega
  have gi : (m : Int) < m + 1 := by omega
  clear h hlast hg f0 f1 f2 f3 a0 a1 a2 a3 hld hgd hP hl hc1 hn hm h0 hq
  go_enter Tryz.func65, Tryz.ntmps65
  go_wp2_with (go_at_call 109; refine (c1 _).mono ?_; rintro _ w1 ⟨rfl, hb1⟩)
  go_ret
  exact ⟨rfl, HB.out.trans (hb1.mono HB.out.size)⟩
theorem pages_any {w : World} {X c : Nat} {q : Option Addr} {E : List (Sg × Value)} {B : Nat → Int} (h : Segs w X (.slice q E.length c) E B) (h0 : E ≠ []) (hl : E.length ≤ 8) (en sp : Int) (dp : Option Addr) (dn dc : Nat) :
    Calls Tryz.prog 58 #[.agg #[.int .u64 en, .slice q E.length c, .slice dp dn dc, .int .u64 sp]] w fun e w' => e = .returned (.int .i64 (ePg (E.map (·.1)) + 2)) ∧ Below w.heap.size w w' := by
  have HB : Hid (Below w.heap.size w (w.alloc (.cells #[.int .u64 en, .slice q E.length c, .slice dp dn dc, .int .u64 sp] 75))) := (Below.refl _ _).alloc (Nat.le_refl _) _
  have c1 := guard_any (h.below HB.out) h0 hl en sp dp dn dc
  have hb := ePg_bound E h.gd
  clear h
  go_enter Tryz.func58, Tryz.ntmps58
  go_wp2_with (go_at_call 65; refine c1.mono ?_; rintro _ w1 ⟨rfl, hb1⟩)
  go_ret
  exact ⟨rfl, HB.out.trans (hb1.mono HB.out.size)⟩
theorem stackAt_any {w : World} {X c : Nat} {q : Option Addr} {E : List (Sg × Value)} {B : Nat → Int} (h : Segs w X (.slice q E.length c) E B) (h0 : E ≠ []) (hl : E.length ≤ 8) (en sp : Int) (dp : Option Addr) (dn dc : Nat) :
    Calls Tryz.prog 57 #[.agg #[.int .u64 en, .slice q E.length c, .slice dp dn dc, .int .u64 sp]] w fun e w' => e = .returned (.int .u64 ((ePg (E.map (·.1)) + 1) * 4096)) ∧ Below w.heap.size w w' := by
  have HB : Hid (Below w.heap.size w (w.alloc (.cells #[.int .u64 en, .slice q E.length c, .slice dp dn dc, .int .u64 sp] 75))) := (Below.refl _ _).alloc (Nat.le_refl _) _
  have c1 := pages_any (h.below HB.out) h0 hl en sp dp dn dc
  have hb := ePg_bound E h.gd
  clear h
  go_enter Tryz.func57, Tryz.ntmps57
  go_wp2_with first | (go_at_call 58; refine c1.mono ?_; rintro _ w1 ⟨rfl, hb1⟩) | (go_at_call 104; refine (addr_any _ _ (by omega)).mono ?_; rintro _ _ ⟨rfl, rfl⟩)
  go_ret
  refine ⟨congrArg Ending.returned (congrArg (Value.int .u64) ?_), HB.out.trans (hb1.mono HB.out.size)⟩
  omega
theorem demandP_any {w : World} {X c : Nat} {q : Option Addr} {E : List (Sg × Value)} {B : Nat → Int} (h : Segs w X (.slice q E.length c) E B) (h0 : E ≠ []) (hl : E.length ≤ 8) (en sp : Int) (dp : Option Addr) (dn dc : Nat) :
    Calls Tryz.prog 26 #[.agg #[.int .u64 en, .slice q E.length c, .slice dp dn dc, .int .u64 sp]] w fun e w' => e = .returned (.int .i64 (ePg (E.map (·.1)) + 6 + (ePg (E.map (·.1)) + 513) / 512)) ∧ Below w.heap.size w w' := by
  have HB : Hid (Below w.heap.size w (w.alloc (.cells #[.int .u64 en, .slice q E.length c, .slice dp dn dc, .int .u64 sp] 75))) := (Below.refl _ _).alloc (Nat.le_refl _) _
  have c1 := pages_any (h.below HB.out) h0 hl en sp dp dn dc
  have hb := ePg_bound E h.gd
  clear h
  go_enter Tryz.func26, Tryz.ntmps26
  go_wp2_with (go_at_call 58; refine c1.mono ?_; rintro _ w1 ⟨rfl, hb1⟩)
  go_ret
  refine ⟨congrArg Ending.returned (congrArg (Value.int .i64) ?_), HB.out.trans (hb1.mono HB.out.size)⟩
  omega
set_option maxHeartbeats 1000000 in
theorem pagesQ_any {w : World} {X c : Nat} {q : Option Addr} {E : List (Sg × Value)} {B : Nat → Int} (h : Segs w X (.slice q E.length c) E B) (h0 : E ≠ []) (hl : E.length ≤ 8) (en : Int) :
    Calls Tryz.prog 22 #[.agg #[.int .u64 en, .slice q E.length c]] w fun e w' => e = .returned (.int .i64 (ePg (E.map (·.1)))) ∧ Below w.heap.size w w' := by
  obtain ⟨q', c', e', hc1, hc2, hq⟩ := own_form h.own
  cases e'
  obtain ⟨l, hlast⟩ : ∃ l, E.getLast? = some l := ⟨E.getLast h0, List.getLast?_eq_some_getLast h0⟩
  have hn : 0 < E.length := List.length_pos_iff.2 h0
  obtain ⟨m, hm⟩ : ∃ m, E.length = m + 1 := ⟨E.length - 1, by omega⟩
  have hg : E[m]? = some l := by
    have : E.length - 1 = m := by omega
    rw [← this, ← List.getLast?_eq_getElem?]
    exact hlast
  have hP : ePg (E.map (·.1)) = (l.1.va + l.1.mem + 4095) / 4096 := by simp [ePg, List.getLast?_map, hlast]
  obtain ⟨f0, f1, f2, f3⟩ := flatE_get E _ l hg
  obtain ⟨g, rfl, a0⟩ := own_cell h.own f0 hn (by omega)
  obtain ⟨g1, e1, a1⟩ := own_cell h.own f1 hn (by omega)
  obtain ⟨g2, e2, a2⟩ := own_cell h.own f2 hn (by omega)
  obtain ⟨g3, e3, a3⟩ := own_cell h.own f3 hn (by omega)
  simp only [Option.some.injEq, Addr.mk.injEq, and_true] at e1 e2 e3
  subst e1 e2 e3
  have hgd := h.gd l (List.mem_of_getElem? hg)
  obtain ⟨ldq, ldc, hld, _⟩ := own_form (h.dat l (List.mem_of_getElem? hg))
  rw [hld] at a2
  have HB : Hid (Below w.heap.size w (w.alloc (.cells #[.int .u64 en, .slice (some ⟨g, 0, .none⟩) E.length c] 64))) := (Below.refl _ _).alloc (Nat.le_refl _) _
  have b0 := (HB.out.cell (lt_of_cell a0)).trans a0
  have b1 := (HB.out.cell (lt_of_cell a1)).trans a1
  have b2 := (HB.out.cell (lt_of_cell a2)).trans a2
  have b3 := (HB.out.cell (lt_of_cell a3)).trans a3
  have hv := hgd.v
  have hmm := hgd.m
  have he := hgd.e
  rw [hP, hm]
  rw [hm] at HB b0 b1 b2 b3
  have hm8 : m < 8 := by omega
  have gi : (m : Int) < m + 1 := by omega
  have h1 : IntKind.u64.wrap (l.1.va + l.1.mem) = l.1.va + l.1.mem := by rw [IntKind.wrap_u64]; omega
  have h2 : IntKind.u64.wrap (l.1.va + l.1.mem + 4096) = l.1.va + l.1.mem + 4096 := by rw [IntKind.wrap_u64]; omega
  have h3 : IntKind.u64.wrap (l.1.va + l.1.mem + 4096 - 1) = l.1.va + l.1.mem + 4095 := by rw [IntKind.wrap_u64]; omega
  clear h hlast hg f0 f1 f2 f3 a0 a1 a2 a3 hld hgd hP hl hc1 hn hm h0 hq
  go_enter Tryz.func22, Tryz.ntmps22
  go_wp2
  go_ret
  exact ⟨rfl, HB.out.alloc HB.out.size _⟩
end Go.Proofs.YtacdgfojdkppmaaGreatDoor
