import Derived.Test.YtacdgfojdkppmaaGreatDoorXe
import Derived.Test.YtacdgfojdkppmaaGreatDoorRd9
namespace Go.Proofs.YtacdgfojdkppmaaGreatDoor
open Go.RowKit Go.Shelf
set_option linter.unusedVariables false
set_option linter.unusedSimpArgs false
theorem cell1_new (w : World) (v : Value) (t : TypeId) : ∀ j u, [v][j]? = some u → (w.alloc (.cells #[v] t)).cell? ((⟨w.heap.size, 0, .none⟩ : Addr).add j) = some u := by
 intro j u hj
 rw [le_addr_add]
 match j, hj with
 | 0, hj =>
  simp at hj
  subst hj
  simp
 | j + 1, hj => simp at hj
theorem u64_info : ∃ i z, Tryz.prog.info? 24 = some i ∧ i.zero = some z ∧ i.size = 1 ∧ i.bytes = 8 ∧ z.cells.size = 1 := info_of 24 1 8 (by kernel_rfl) (by kernel_rfl)
/-- The document's page in the making. -/
structure Pq (w wr : World) : Prop where
 pg : ∃ f, wr.rowIs w.heap.size 5 4096 f
 bel : Below w.heap.size w wr
 sz : w.heap.size + 1 ≤ wr.heap.size
theorem Pq.set {w wr : World} (h : Pq w wr) (k : Nat) (v : Value) : Pq w (wr.setCell ⟨w.heap.size, k, .none⟩ v) := by
 obtain ⟨⟨f, h1⟩, h2, h3⟩ := h
 exact ⟨⟨_, h1.set k v⟩, h2.setCell (Nat.le_refl _) _, by simpa [World.setCell] using h3⟩
theorem Pq.above {w a b : World} (h : Pq w a) (hb : Below (w.heap.size + 1) a b) : Pq w b := by
 obtain ⟨⟨f, h1⟩, h2, h3⟩ := h
 exact ⟨⟨f, h1.of_block (hb.block _ (by omega))⟩, h2.trans (hb.mono (by omega)), Nat.le_trans h3 hb.size⟩
theorem Pq.at {w wr : World} (h : Pq w wr) {k : Nat} (hk : k < 4096) : (∃ v, wr.cell? ⟨w.heap.size, k, .none⟩ = some v) ∧ wr.frozen? ⟨w.heap.size, k, .none⟩ = false := by
 obtain ⟨⟨f, h1⟩, h2, h3⟩ := h
 exact ⟨⟨_, h1.cell hk⟩, h1.frozen k⟩
theorem pageQ_new (w : World) : ∃ w2, (Instr.makeSlice 22 (.int .i64 4096) (.int .i64 4096)).run Tryz.prog w = .ok (.slice (some ⟨w.heap.size, 0, .none⟩) 4096 4096) w2 ∧ Hid (Pq w w2) := by
 have h := run_make_row' (P := Tryz.prog) 22 5 (.int .u8 0) 1 Tryz.underlying22 info5 rfl .i64 .i64 4096 (by decide) (by decide) w
 have hr := World.rowIs_made w (.int .u8 0) 4096 5
 exact ⟨_, h, ⟨_, hr⟩, (Below.refl _ _).alloc (Nat.le_refl _) _, by simp⟩
/-- Numbers of eight bytes. -/
def w64 (ys : List Int) : List Value := ys.map (.int .u64)
structure Aq (w wr : World) (q : Option Addr) (i c : Nat) (ys : List Int) : Prop where
 own : wr.ownsRow (w.heap.size + 1) 24 1 (.slice q i c) i (w64 ys)
 bd : ∀ y ∈ ys, 0 ≤ y ∧ y < 5000
theorem Aq.set {w wr : World} {q : Option Addr} {i c : Nat} {ys : List Int} (h : Aq w wr q i c ys) (k : Nat) (v : Value) : Aq w (wr.setCell ⟨w.heap.size, k, .none⟩ v) q i c ys :=
 ⟨own_same h.own (fun g hg => Below.heap_setCell _ _ _ _ (fun e => by have : g = w.heap.size := e; omega)), h.bd⟩
set_option maxRecDepth 10000 in
set_option maxHeartbeats 2000000 in
theorem stackQ_any (w : World) (p : Option Addr) (n c : Nat) (xs : List Bs) (h : Tex w p n c xs) (hn : n ≤ 32) (hx : ∀ x ∈ xs, x.length ≤ 400000) :
  Calls Tryz.prog 52 #[.slice p n c, .int .u64 0] w fun e w' => (∃ pq pn pc sp, e = .returned (.tuple #[.slice pq pn pc, .int .u64 sp, .bool (rm xs)])) ∧ Below w.heap.size w w' := by
 have HT : Hid (Tex w p n c xs) := h
 have HL : Hid (xs.length = n) := h.1
 have HX : Hid (∀ x ∈ xs, x.length ≤ 400000) := hx
 have hc : n ≤ c ∧ c ≤ 9223372036854775807 := ⟨h.2.1, h.2.2.1⟩
 clear h hx
 obtain ⟨i3, z3, hi3, hz3, hs3, hb3, hzs3⟩ := u64_info
 have HI : Hid (Tryz.prog.info? 24 = some i3 ∧ i3.zero = some z3 ∧ i3.size = 1 ∧ i3.bytes = 8 ∧ z3.cells.size = 1) := ⟨hi3, hz3, hs3, hb3, hzs3⟩
 clear hi3 hz3 hs3 hb3 hzs3
 obtain ⟨w2, hmk, HP0⟩ := pageQ_new w
 go_enter Tryz.func52, Tryz.ntmps52
 go_wp2_with fail
 clear hmk
 go_loopw [8, 9, 10] (fun s v k wr => ∃ i : Nat, i ≤ n ∧ k = .int .i64 i ∧ ∃ pl q' c', s = .int .i64 pl ∧ v = .slice q' i c' ∧ Hid (pl = stx 4096 (xs.take i) ∧ 0 ≤ pl ∧ Pq w wr ∧ ∃ ys, Aq w wr q' i c' ys)) (fun _ _ k _ => (n - intOf k).toNat)
 case atStart => exact ⟨0, by omega, rfl, 4096, none, 0, rfl, rfl, by simp [stx], by omega, HP0.out, [], World.ownsRow_nil _ _ _ _, fun b hb => by simp at hb⟩
 case round =>
  obtain ⟨i, hi, rfl, pl, q', c', rfl, rfl, HR⟩ := hrel
  have h0 : 0 ≤ pl := HR.out.2.1
  have h1 : pl ≤ 4096 := by rw [HR.out.1]; exact stx_le _ _
  by_cases hlt : i < n
  ·have g0 : (i : Int) < n := by omega
   obtain ⟨b, o, x, rfl, hxi, aw⟩ := HT.out.at hlt
   have hxl := HX.out x (List.mem_of_getElem? hxi)
   have hnx := stx_next hxi 4096
   rw [← HR.out.1] at hnx
   have HN : Hid (stx 4096 (xs.take (i + 1)) = (pl - x.length - 1) / 16 * 16) := hnx
   have HA : Hid (w.cell? ⟨b, o + i, .none⟩ = some (.string ⟨x.toArray⟩)) := aw
   have a0 : wr.cell? ⟨b, o + i, .none⟩ = some (.string ⟨x.toArray⟩) := (HR.out.2.2.1.bel.cell (lt_of_cell aw)).trans aw
   clear hnx hxi aw
   by_cases hneg : pl - x.length - 1 < 0
   ·go_wp2_with fail
    refine bodyPost_ret (v := .tuple #[.slice .none 0 0, .int .u64 0, .bool false]) (by simp [results, Tryz.results52, go_sem]) rfl ⟨⟨none, 0, 0, 0, ?_⟩, HR.out.2.2.1.bel⟩
    rw [rm_no (i := i + 1) (by rw [HN.out]; omega)]
   ·obtain ⟨y, hy⟩ : ∃ y, y = (pl - x.length - 1) / 16 * 16 := ⟨_, rfl⟩
    have hy0 : 0 ≤ y ∧ y + x.length < 4096 := by omega
    have HY : Hid (y = (pl - x.length - 1) / 16 * 16) := hy
    have hq1 : 0 ≤ pl - x.length - 1 := by omega
    obtain ⟨ys, HQ⟩ : ∃ ys, Hid (Aq w wr q' i c' ys) := HR.out.2.2.2
    clear hneg
    rw [← HY.out] at HN
    clear hy
    go_wp2_with fail
    rw [← HY.out]
    go_loopw [11] (fun k wv => ∃ j : Nat, j ≤ x.length ∧ k = .int .i64 j ∧ Hid (Pq w wv ∧ Aq w wv q' i c' ys)) (fun k _ => (x.length - intOf k).toNat)
    case atStart => exact ⟨0, by omega, rfl, HR.out.2.2.1, HQ.out⟩
    case round =>
     obtain ⟨j, hj, rfl, HJ⟩ := hrel
     have a0 : wr.cell? ⟨b, o + i, .none⟩ = some (.string ⟨x.toArray⟩) := (HJ.out.1.bel.cell (lt_of_cell HA.out)).trans HA.out
     by_cases hjl : j < x.length
     ·have gj : (j : Int) < x.length := by omega
      obtain ⟨⟨v0, cv⟩, cf⟩ := HJ.out.1.at (k := (y + j).toNat) (by omega)
      have hsj : y + (j : Int) < 4096 := by omega
      go_wp2_with fail
      exact ⟨⟨j + 1, by omega, rfl, HJ.out.1.set _ _, HJ.out.2.set _ _⟩, by simp only [intOf]; omega⟩
     ·obtain rfl : j = x.length := by omega
      have z1 := HJ.out.1.sz
      have hwy : IntKind.u64.wrap y = y := by rw [IntKind.wrap_u64]; omega
      clear hjl hj
      go_wp2_with (first | (at_builtin; refine wpList_append_own _ rfl _ _ 154 rfl (w.heap.size + 1) 24 i3 z3 1 8 Tryz.underlying154 HI.out.1 HI.out.2.1 HI.out.2.2.1 HI.out.2.2.2.1 HI.out.2.2.2.2 (by decide) (.slice q' i c') i (w64 ys) rfl (HJ.out.2.own.alloc _) ⟨wr.heap.size, 0, .none⟩ 1 1 [.int .u64 y] rfl rfl (cell1_new _ _ _) (fun u hu => by rw [List.mem_singleton] at hu; rw [hu]; rfl) ?c4 ?c5 ?c6 ?_) | go_in)
      case c4 => simp only [maxLen]; omega
      case c5 => omega
      case c6 => simp only [World.size_alloc]; omega
      intro v' w2 own' grow fb
      clear fb
      obtain ⟨p', c2, rfl⟩ := one_slice own'
      have HW : Hid (Pq w w2 ∧ Aq w w2 p' (i + 1) c2 (ys ++ [y])) := by
       refine ⟨HJ.out.1.above (below_append (Below.refl _ _) _ grow z1 (own_block HJ.out.2.own)), ?_, ?_⟩
       ·unfold w64
        rw [List.map_append]
        exact own'
       ·intro b hb
        rcases List.mem_append.1 hb with hb | hb
        ·exact HJ.out.2.bd b hb
        ·rw [List.mem_singleton] at hb
         omega
      clear own' grow
      go_wp2
      exact ⟨⟨i + 1, by omega, rfl, y, p', c2, rfl, rfl, HN.out.symm, hy0.1, HW.out.1, _, HW.out.2⟩, by simp only [intOf]; omega⟩
  ·obtain rfl : i = n := by omega
   have hst : stx 4096 xs = pl := by rw [HR.out.1, ← HL.out, List.take_length]
   have hR : rm xs = decide (0 ≤ pl - 8 * (i + 1)) := by
    unfold rm
    rw [hst, HL.out]
   have HM : Hid (rm xs = decide (0 ≤ pl - 8 * (i + 1))) := hR
   obtain ⟨ys, HQ⟩ : ∃ ys, Hid (Aq w wr q' i c' ys) := HR.out.2.2.2
   clear hR hst hi
   by_cases hneg : pl - 8 * (i + 1) < 0
   ·go_wp2_with fail
    refine bodyPost_ret (v := .tuple #[.slice .none 0 0, .int .u64 0, .bool false]) (by simp [results, Tryz.results52, go_sem]) rfl ⟨⟨none, 0, 0, 0, ?_⟩, HR.out.2.2.1.bel⟩
    rw [HM.out]
    congr 3
    simp
    omega
   ·obtain ⟨y, hy⟩ : ∃ y, y = (pl - 8 * (i + 1)) / 16 * 16 := ⟨_, rfl⟩
    have hy0 : 0 ≤ y ∧ y + 8 * i + 8 ≤ 4096 := by omega
    have HY : Hid (y = (pl - 8 * (i + 1)) / 16 * 16) := hy
    have hq1 : 0 ≤ pl - 8 * (i + 1) := by omega
    clear hneg hy
    go_wp2_with fail
    rw [← HY.out]
    have HM2 : Hid (rm xs = true) := by
     show _ = _
     rw [HM.out]; simp; omega
    go_loopw [12] (fun k wv => ∃ j : Nat, j ≤ i ∧ k = .int .i64 j ∧ Hid (Pq w wv ∧ Aq w wv q' i c' ys)) (fun k _ => (i - intOf k).toNat)
    case atStart => exact ⟨0, by omega, rfl, HR.out.2.2.1, HQ.out⟩
    case round =>
     obtain ⟨j, hj, rfl, HJ⟩ := hrel
     by_cases hjl : j < i
     ·have gj : (j : Int) < i := by omega
      obtain ⟨v, hv⟩ : ∃ v, ys[j]? = some v := by
       have hl : ys.length = i := by have := HJ.out.2.own.1; simp only [w64, List.length_map] at this; omega
       exact ⟨ys[j]'(by omega), List.getElem?_eq_getElem _⟩
      have hv0 := HJ.out.2.bd v (List.mem_of_getElem? hv)
      have hvw : (w64 ys)[j]? = some (.int .u64 v) := by simp [w64, hv]
      obtain ⟨g, rfl, ag⟩ := own_cell HJ.out.2.own hvw (by omega) (by omega)
      have hgl : w.heap.size + 1 ≤ g := own_block HJ.out.2.own g rfl
      have HG : Hid (w.heap.size + 1 ≤ g) := hgl
      obtain ⟨_, _, e9, hc9⟩ := own_form HJ.out.2.own
      cases e9
      have hcc : i ≤ c' ∧ c' ≤ 9223372036854775807 := ⟨hc9.1, hc9.2.1⟩
      have HV : Hid (wr.cell? ⟨g, j, .none⟩ = some (.int .u64 v)) := by
       exact ag
      clear hv hvw ag hgl hc9
      go_wp2_with fail
      go_loopw [13] (fun k wv => ∃ l : Nat, l ≤ 8 ∧ k = .int .i64 l ∧ Hid (Pq w wv ∧ Aq w wv (some ⟨g, 0, .none⟩) i c' ys ∧ wv.cell? ⟨g, j, .none⟩ = some (.int .u64 v))) (fun k _ => (8 - intOf k).toNat)
      case atStart => exact ⟨0, by omega, rfl, HJ.out.1, HJ.out.2, HV.out⟩
      case round =>
       obtain ⟨l, hl, rfl, HK⟩ := hrel
       by_cases hll : l < 8
       ·have gl : (l : Int) < 8 := by omega
        have av := HK.out.2.2
        obtain ⟨⟨v0, cv⟩, cf⟩ := HK.out.1.at (k := (y + 8 * (j : Int) + l).toNat) (by omega)
        have hsj : y + 8 * (j : Int) + l < 4096 := by omega
        have hwl : IntKind.u64.wrap (8 * (l : Int)) = 8 * l := by rw [IntKind.wrap_u64]; omega
        go_wp2_with fail
        exact ⟨⟨l + 1, by omega, rfl, HK.out.1.set _ _, HK.out.2.1.set _ _, (World.cell?_setCell_other _ _ _ _ (by have := HG.out; simp only [ne_eq, Addr.mk.injEq, not_and]; intro e; omega)).trans av⟩, by simp only [intOf]; omega⟩
       ·obtain rfl : l = 8 := by omega
        go_wp2_with fail
        exact ⟨⟨j + 1, by omega, rfl, HK.out.1, HK.out.2.1⟩, by simp only [intOf]; omega⟩
     ·obtain rfl : j = i := by omega
      have hwy : IntKind.u64.wrap y = y := by rw [IntKind.wrap_u64]; omega
      go_wp2_with fail
      refine bodyPost_ret (v := .tuple #[.slice (some ⟨w.heap.size, 0, .none⟩) 4096 4096, .int .u64 y, .bool true]) (by simp [results, Tryz.results52, go_sem]) rfl ⟨⟨some ⟨w.heap.size, 0, .none⟩, 4096, 4096, y, ?_⟩, HJ.out.1.bel⟩
      rw [HM2.out]
end Go.Proofs.YtacdgfojdkppmaaGreatDoor
namespace Go.Proofs.YtacdgfojdkppmaaGreatDoor
open Go.RowKit
set_option linter.unusedVariables false
set_option linter.unusedSimpArgs false
set_option maxHeartbeats 1000000 in
theorem value_any (b o n c at_ k : Nat) (B : Nat → Int) (w : World) (hn : at_ + k ≤ n) (hc : n ≤ c) (hcm : c ≤ 9223372036854775807) (hk : k ≤ 8) (hB : ∀ i, 0 ≤ B i ∧ B i < 256) (h : Row w b o n B) :
  Calls Tryz.prog 94 #[.slice (some ⟨b, o, .none⟩) n c, .int .i64 at_, .int .i64 k] w fun e w' => e = .returned (.int .u64 (num B at_ k)) ∧ w' = w := by
 go_enter Tryz.func94, Tryz.ntmps94
 go_wp2_with fail
 go_loopw [7, 8] (fun v a wr => ∃ j : Nat, j ≤ k ∧ a = .int .i64 ((j : Int) - 1) ∧ v = .int .u64 (num B (at_ + j) (k - j)) ∧ wr = w) (fun _ a _ => (intOf a + 1).toNat)
 case atStart => exact ⟨k, Nat.le_refl _, rfl, by rw [Nat.sub_self]; rfl, rfl⟩
 case round =>
  obtain ⟨j, hj, rfl, rfl, rfl⟩ := hrel
  cases j with
  | zero =>
   go_wp2_with fail
   go_ret
   exact ⟨by simp, rfl⟩
  | succ j =>
   have a0 : wr.cell? ⟨b, o + (at_ + j), .none⟩ = some (.int .u8 (B (at_ + j))) := h (at_ + j) (by omega)
   have bb := hB (at_ + j)
   have ho := or_front B hB (at_ + j) (k - (j + 1)) (by omega)
   rw [show k - (j + 1) + 1 = k - j by omega] at ho
   have e1 : ((j + 1 : Nat) : Int) - 1 = j := by omega
   rw [e1]
   have g1 : (at_ : Int) + j < n := by omega
   rw [show at_ + (j + 1) = at_ + j + 1 by omega]
   go_wp2_with fail
   exact ⟨⟨j, by omega, rfl, rfl, trivial⟩, by simp [intOf]⟩
theorem liesQ_any (n : Nat) (a k : Int) (w : World) (hn : n ≤ 300000) (ha : 0 ≤ a ∧ a < 18446744073709551616) (hk : 0 ≤ k ∧ k < 18446744073709551616) :
  Calls Tryz.prog 95 #[.int .u64 a, .int .u64 k, .int .i64 n] w fun e w' => e = .returned (.bool (decide (a + k ≤ n))) ∧ w' = w := by
 by_cases h1 : a ≤ n
 ·go_enter Tryz.func95, Tryz.ntmps95
  go_wp2
  all_goals go_ret
  all_goals exact ⟨by simp; omega, rfl⟩
 ·go_enter Tryz.func95, Tryz.ntmps95
  go_wp2
  all_goals go_ret
  all_goals exact ⟨by simp; omega, rfl⟩
theorem next_any (x : Int) (w : World) (hx : 0 ≤ x ∧ x ≤ 1073741824) : Calls Tryz.prog 116 #[.int .u64 x] w fun e w' => e = .returned (.int .u64 ((x + 4095) / 4096 * 4096)) ∧ w' = w := by
 go_enter Tryz.func116, Tryz.ntmps116
 go_wp2
 go_ret
 refine ⟨?_, rfl⟩
 have e : x + 4096 - 1 = x + 4095 := by omega
 simp [e]
set_option maxHeartbeats 1000000 in
theorem one_any (va fl sz mem : Int) (w : World) (hv : 0 ≤ va ∧ va < 18446744073709551616) (hf : 0 ≤ fl ∧ fl < 4294967296) (hs : 0 ≤ sz ∧ sz < 18446744073709551616) (hm : 0 ≤ mem ∧ mem < 18446744073709551616) :
  Calls Tryz.prog 115 #[.int .u64 va, .int .u32 fl, .int .u64 sz, .int .u64 mem] w fun e w' => e = .returned (.bool (ok1 va fl sz mem)) ∧ w' = w := by
 by_cases h0 : va % 4096 = 0
 ·by_cases h1 : va > 1073741824
  ·go_enter Tryz.func115, Tryz.ntmps115
   go_wp2
   all_goals go_ret
   all_goals exact ⟨by simp [ok1]; omega, rfl⟩
  ·by_cases h2 : mem < 1
   ·go_enter Tryz.func115, Tryz.ntmps115
    go_wp2
    all_goals go_ret
    all_goals exact ⟨by simp [ok1]; omega, rfl⟩
   ·by_cases h3 : mem < sz
    ·go_enter Tryz.func115, Tryz.ntmps115
     go_wp2
     all_goals go_ret
     all_goals exact ⟨by simp [ok1]; omega, rfl⟩
    ·by_cases h4 : mem > 1073741824 - va
     ·go_enter Tryz.func115, Tryz.ntmps115
      go_wp2
      all_goals go_ret
      all_goals exact ⟨by simp [ok1]; omega, rfl⟩
     ·have q1 : decide (1 ≤ mem) = true := by simp; omega
      have q2 : decide (sz ≤ mem) = true := by simp; omega
      have q3 : decide (va + mem ≤ 1073741824) = true := by simp; omega
      have q0 : decide (va % 4096 = 0) = true := by simpa using h0
      have e : ok1 va fl sz mem = mf fl := by simp only [ok1, q0, q1, q2, q3, Bool.and_true, Bool.true_and]
      rw [e]
      clear q0 q1 q2 q3 e
      by_cases h : 1 ≤ fl ∧ fl ≤ 7
      ·have : fl = 1 ∨ fl = 2 ∨ fl = 3 ∨ fl = 4 ∨ fl = 5 ∨ fl = 6 ∨ fl = 7 := by omega
       rcases this with rfl | rfl | rfl | rfl | rfl | rfl | rfl
       all_goals
        go_enter Tryz.func115, Tryz.ntmps115
        go_wp2
        all_goals go_ret
        all_goals exact ⟨by rfl, rfl⟩
      ·go_enter Tryz.func115, Tryz.ntmps115
       go_wp2
       all_goals go_ret
       all_goals exact ⟨by simp [mf]; omega, rfl⟩
 ·have h0' : (va % 4096 != 0) = true := by simpa using h0
  go_enter Tryz.func115, Tryz.ntmps115
  go_wp2
  all_goals go_ret
  all_goals exact ⟨by simp [ok1, h0], rfl⟩
end Go.Proofs.YtacdgfojdkppmaaGreatDoor
namespace Go.Proofs.YtacdgfojdkppmaaGreatDoor
open Go.RowKit
set_option linter.unusedVariables false
set_option linter.unusedSimpArgs false
theorem below_past (w : World) (b : Obj) : Below w.heap.size w (w.alloc b) := (Below.refl _ _).alloc (Nat.le_refl _) _
theorem none_any (w : World) : Calls Tryz.prog 117 #[] w fun e w' => e = .returned (.agg #[.slice .none 0 0, .int .i64 0]) ∧ w' = w.alloc (.cells #[.slice .none 0 0, .int .i64 0] 86) := by
 go_enter Tryz.func117, Tryz.ntmps117
 go_wp2
 exact bodyPost_ret (v := .agg #[.slice .none 0 0, .int .i64 0]) (by simp [results, Tryz.results117, go_sem]) rfl ⟨rfl, rfl⟩
theorem rnew_any (s : ByteArray) (a r : Int) (w : World) : Calls Tryz.prog 118 #[.string s, .int .i64 a, .int .i64 r] w fun e w' => e = .returned (.agg #[.slice (some ⟨w.heap.size + 1, 0, .none⟩) 1 1, .int .i64 r]) ∧
  w' = (w.alloc (.cells #[.slice (some ⟨w.heap.size + 1, 0, .none⟩) 1 1, .int .i64 r] 86)).alloc (.cells #[.string s, .int .i64 a] 212) := by
 go_enter Tryz.func118, Tryz.ntmps118
 go_wp2
 exact bodyPost_ret (v := .agg #[.slice (some ⟨w.heap.size + 1, 0, .none⟩) 1 1, .int .i64 r]) (by simp [results, Tryz.results118, go_sem]) rfl ⟨rfl, rfl⟩
/-- The document's fault, with a place. -/
def LFault (w : World) (v : Value) (a r : Int) : Prop := ∃ B, B < w.heap.size ∧ v = .agg #[.slice (some ⟨B, 0, .none⟩) 1 1, .int .i64 r] ∧ w.cell? ⟨B, 0, .none⟩ = some (.string ramB) ∧ w.cell? ⟨B, 1, .none⟩ = some (.int .i64 a)
theorem LFault.below {W w' : World} {v : Value} {a r : Int} (k : LFault W v a r) (h : Below W.heap.size W w') : LFault w' v a r := by
 obtain ⟨B, hB, e, c0, c1⟩ := k
 exact ⟨B, Nat.lt_of_lt_of_le hB h.size, e, (h.cell hB).trans c0, (h.cell hB).trans c1⟩
theorem FaultIn.below {W w' : World} {k : Nat} {v : Value} {a r : Int} (f : FaultIn W k v a r) (h : Below W.heap.size W w') : FaultIn w' k v a r := by
 obtain ⟨b, h1, h2, rfl, c0, c1, c2⟩ := f
 exact ⟨b, h1, Nat.lt_of_lt_of_le h2 h.size, rfl, (h.cell h2).trans c0, (h.cell h2).trans c1, (h.cell h2).trans c2⟩
/-- What the document tells: a fault, or none. -/
def RefR (w : World) (g : Value) (a r : Int) : Prop := (r ≠ 0 ∧ LFault w g a r) ∨ (r = 0 ∧ g = .agg #[.slice .none 0 0, .int .i64 0])
theorem RefR.below {w w' : World} {v : Value} {a r : Int} (h : RefR w v a r) (b : Below w.heap.size w w') : RefR w' v a r := by
 rcases h with ⟨h1, h2⟩ | h
 ·exact .inl ⟨h1, h2.below b⟩
 ·exact .inr h
theorem RefR.form {w : World} {v : Value} {a r : Int} (h : RefR w v a r) : ∃ p n c, v = .agg #[.slice p n c, .int .i64 r] := by
 rcases h with ⟨h1, B, _, rfl, _⟩ | ⟨rfl, rfl⟩
 ·exact ⟨_, _, _, rfl⟩
 ·exact ⟨_, _, _, rfl⟩
set_option maxHeartbeats 1000000 in
theorem no_any (r a : Int) (w : World) : Calls Tryz.prog 73 #[.int .i64 r, .int .i64 a] w fun e w' => (∃ v, e = .returned v ∧ LFault w' v a r) ∧ Below w.heap.size w w' := by
 have c := rnew_any ramB a r (w.alloc (.cells #[.slice .none 0 0, .int .i64 0] 86))
 go_enter Tryz.func73, Tryz.ntmps73
 go_wp2_with fail
 refine c.mono ?_
 rintro e w1 ⟨rfl, rfl⟩
 go_wp2
 refine bodyPost_ret (v := .agg #[.slice (some ⟨w.heap.size + 1 + 1, 0, .none⟩) 1 1, .int .i64 r]) (by simp [results, Tryz.results73, go_sem]) rfl ⟨⟨_, rfl, w.heap.size + 1 + 1, ?_, rfl, ?_, ?_⟩, ?_⟩
 ·simp
 ·simp [World.cell?_alloc_at]
 ·simp [World.cell?_alloc_at]
 ·exact ((below_past _ _).alloc (by simp only [World.size_alloc]; omega) _).alloc (by simp only [World.size_alloc]; omega) _
theorem any_any (w : World) (g : Value) (a r : Int) (h : RefR w g a r) : Calls Tryz.prog 51 #[g] w fun e w' => e = .returned (.bool (decide (r ≠ 0))) ∧ Below w.heap.size w w' := by
 rcases h with ⟨h1, B, _, rfl, _⟩ | ⟨rfl, rfl⟩
 ·have h2 : (r != 0) = true := by simpa using h1
  go_enter Tryz.func51, Tryz.ntmps51
  go_wp2
  go_ret
  exact ⟨by simp [h1], (Below.refl _ _).alloc (Nat.le_refl _) _⟩
 ·go_enter Tryz.func51, Tryz.ntmps51
  go_wp2
  go_ret
  exact ⟨rfl, (Below.refl _ _).alloc (Nat.le_refl _) _⟩
end Go.Proofs.YtacdgfojdkppmaaGreatDoor
