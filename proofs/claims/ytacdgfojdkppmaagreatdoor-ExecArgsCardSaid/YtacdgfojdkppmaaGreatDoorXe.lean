import Derived.Test.YtacdgfojdkppmaaGreatDoorXc
import Derived.Lib.SlBytesRow
import Derived.Laws.BytesArg
import Derived.Deep.OwnRows
namespace Go.Proofs.YtacdgfojdkppmaaGreatDoor
open Go.RowKit Go.Shelf
set_option linter.unusedVariables false
set_option linter.unusedSimpArgs false
/-- Where the place comes to behind these texts. -/
def stx (s : Int) (xs : List Bs) : Int := xs.foldl (fun s x => (s - x.length - 1) / 16 * 16) s
theorem stx_le : ∀ (xs : List Bs) (s : Int), stx s xs ≤ s
 | [], s => Int.le_refl _
 | x :: r, s => Int.le_trans (stx_le r ((s - x.length - 1) / 16 * 16)) (by omega)
theorem stx_next {xs : List Bs} {i : Nat} {x : Bs} (h : xs[i]? = some x) (s : Int) : stx s (xs.take (i + 1)) = (stx s (xs.take i) - x.length - 1) / 16 * 16 := by
 rw [List.take_add_one, h]
 simp [stx, List.foldl_append]
/-- Have they room? -/
def rm (xs : List Bs) : Bool := decide (0 ≤ stx 4096 xs - 8 * (xs.length + 1))
theorem rm_no {xs : List Bs} {i : Nat} (h : stx 4096 (xs.take i) < 0) : rm xs = false := by
 have h1 : stx 4096 xs = stx (stx 4096 (xs.take i)) (xs.drop i) := by
  conv => lhs; rw [← List.take_append_drop i xs]
  simp only [stx, List.foldl_append]
 have h2 := stx_le (xs.drop i) (stx 4096 (xs.take i))
 simp only [rm, decide_eq_false_iff_not]
 omega
/-- So many arguments are laid. -/
def StI (at_ : Int) (xs : List Bs) (i : Nat) (R : Nat → Int) (bs : List Int) : Prop :=
 bs.length = 8 * i ∧ (∀ j : Nat, (j : Int) < stx 4096 (xs.take i) → R j = 0) ∧
 ∀ k x, k < i → xs[k]? = some x → ∃ p : Nat, stx 4096 (xs.take (k + 1)) = (p : Int) ∧ stx 4096 (xs.take i) ≤ p ∧ p + x.length + 1 ≤ 4096 ∧ (∀ j y, x[j]? = some y → R (p + j) = (y.toNat : Int)) ∧ R (p + x.length) = 0 ∧ ∀ l, l < 8 → bs[8 * k + l]? = some ((at_ + p) / 256 ^ l % 256)
theorem StI.zero (at_ : Int) (xs : List Bs) : StI at_ xs 0 (fun _ => 0) [] := ⟨rfl, fun _ _ => rfl, fun k x h => by omega⟩
theorem StI.step {at_ : Int} {xs : List Bs} {i : Nat} {R : Nat → Int} {bs : List Int} (h : StI at_ xs i R bs) {x : Bs} (hx : xs[i]? = some x) {y : Nat} (hy : stx 4096 (xs.take (i + 1)) = y) : StI at_ xs (i + 1) (layR R y x) (bs ++ l8 (at_ + y) 8) := by
 have hn := stx_next hx 4096
 have hle := stx_le (xs.take i) 4096
 rw [hy] at hn
 obtain ⟨h1, h2, h3⟩ := h
 refine ⟨by rw [List.length_append, l8_len, h1]; omega, fun j hj => ?_, fun k z hk hz => ?_⟩
 ·rw [hy] at hj
  unfold layR
  rw [if_neg (by omega)]
  exact h2 j (by omega)
 ·rw [hy]
  by_cases hki : k = i
  ·subst hki
   rw [hx] at hz
   injection hz with hz
   subst hz
   refine ⟨y, hy, by omega, by omega, fun j u hu => ?_, ?_, fun l hl => ?_⟩
   ·have hj := (List.getElem?_eq_some_iff.1 hu).1
    unfold layR
    rw [if_pos (by omega), show y + j - y = j by omega, List.getD_eq_getElem?_getD, hu]
    rfl
   ·unfold layR
    rw [if_neg (by omega)]
    exact h2 _ (by omega)
   ·rw [List.getElem?_append_right (by omega), h1, show 8 * k + l - 8 * k = l by omega]
    exact l8_get _ hl
  ·obtain ⟨p, p0, p1, p2, p3, p4, p5⟩ := h3 k z (by omega) hz
   refine ⟨p, p0, by omega, p2, fun j u hu => ?_, ?_, fun l hl => ?_⟩
   ·unfold layR
    rw [if_neg (by omega)]
    exact p3 j u hu
   ·unfold layR
    rw [if_neg (by omega)]
    exact p4
   ·rw [List.getElem?_append_left (by omega)]
    exact p5 l hl
/-- A stack's page with the arguments, and their addresses ahead of them. -/
def StkR (at_ : Int) (xs : List Bs) (R : Nat → Int) (sp : Nat) : Prop :=
 (∀ l, l < 8 → R (sp + 8 * xs.length + l) = 0) ∧ sp + 8 * xs.length + 8 ≤ 4096 ∧ sp % 16 = 0 ∧
 ∀ k x, xs[k]? = some x → ∃ p : Nat, stx 4096 (xs.take (k + 1)) = (p : Int) ∧ sp + 8 * xs.length + 8 ≤ p ∧ p + x.length + 1 ≤ 4096 ∧ (∀ j y, x[j]? = some y → R (p + j) = (y.toNat : Int)) ∧ R (p + x.length) = 0 ∧ ∀ l, l < 8 → R (sp + 8 * k + l) = (at_ + p) / 256 ^ l % 256
theorem StI.done {at_ : Int} {xs : List Bs} {R : Nat → Int} {bs : List Int} (h : StI at_ xs xs.length R bs) {t : Bs} (ht : t.map (fun u => (u.toNat : Int)) = bs) {sp : Nat} (hs : (stx 4096 xs - 8 * (xs.length + 1)) / 16 * 16 = (sp : Int)) : StkR at_ xs (layR R sp t) sp := by
 obtain ⟨h1, h2, h3⟩ := h
 have hle := stx_le xs 4096
 rw [List.take_length] at h2
 have htl : t.length = 8 * xs.length := by rw [← h1, ← ht, List.length_map]
 have hb : ∀ j v, bs[j]? = some v → layR R sp t (sp + j) = v := fun j v hv => by
  have hj := (List.getElem?_eq_some_iff.1 hv).1
  rw [← ht, List.getElem?_map] at hv
  unfold layR
  rw [if_pos (by omega), show sp + j - sp = j by omega, List.getD_eq_getElem?_getD]
  cases hq : t[j]? with
  | none => rw [hq] at hv; cases hv
  | some u => rw [hq] at hv; injection hv
 refine ⟨fun l hl => ?_, by omega, by omega, fun k x hx => ?_⟩
 ·unfold layR
  rw [if_neg (by omega)]
  exact h2 _ (by omega)
 ·have hk := (List.getElem?_eq_some_iff.1 hx).1
  obtain ⟨p, p0, p1, p2, p3, p4, p5⟩ := h3 k x hk hx
  rw [List.take_length] at p1
  refine ⟨p, p0, by omega, p2, fun j u hu => ?_, ?_, fun l hl => ?_⟩
  ·unfold layR
   rw [if_neg (by omega)]
   exact p3 j u hu
  ·unfold layR
   rw [if_neg (by omega)]
   exact p4
  ·rw [Nat.add_assoc]
   exact hb _ _ (p5 l hl)
structure Sk (w wr : World) (R : Nat → Int) (pl : Int) : Prop where
 pgs : Pgs wr w.heap.size R pl
 r0 : wr.cell? ⟨w.heap.size, 0, .none⟩ = some (.slice .none 0 0)
 r1 : wr.cell? ⟨w.heap.size, 1, .none⟩ = some (.int .u64 0)
 rf : ∀ k, wr.frozen? ⟨w.heap.size, k, .none⟩ = false
 bel : Below w.heap.size w wr
 sz : w.heap.size + 4 ≤ wr.heap.size
theorem Pgs.above {w w' : World} {s : Nat} {R : Nat → Int} {pl : Int} (h : Pgs w s R pl) (hb : Below (s + 4) w w') : Pgs w' s R pl := by
 obtain ⟨⟨hR, h1⟩, h2, h3, h4⟩ := h
 exact ⟨⟨hR, h1.of_block (hb.block (s + 1) (by omega))⟩, (hb.cell (p := ⟨s + 2, 0, .none⟩) (by show s + 2 < s + 4; omega)).trans h2, (hb.cell (p := ⟨s + 3, 0, .none⟩) (by show s + 3 < s + 4; omega)).trans h3, (frozen_heap (hb.block (s + 3) (by omega)) _ _).trans h4⟩
theorem Sk.above {w a b : World} {R : Nat → Int} {pl : Int} (h : Sk w a R pl) (hb : Below (w.heap.size + 4) a b) : Sk w b R pl :=
 ⟨h.pgs.above hb, (hb.cell (p := ⟨w.heap.size, 0, .none⟩) (by show w.heap.size < _; omega)).trans h.r0, (hb.cell (p := ⟨w.heap.size, 1, .none⟩) (by show w.heap.size < _; omega)).trans h.r1, fun k => (frozen_heap (hb.block w.heap.size (by omega)) _ _).trans (h.rf k), h.bel.trans (hb.mono (by omega)), Nat.le_trans h.sz hb.size⟩
theorem Sk.laid {w a b : World} {R R' : Nat → Int} {pl pl' : Int} (h : Sk w a R pl) (hp : Pgs b w.heap.size R' pl') (hl : Lyd w.heap.size a b) : Sk w b R' pl' :=
 ⟨hp, (cell_heap (hl.oth _ (by omega) (by omega)) _ _).trans h.r0, (cell_heap (hl.oth _ (by omega) (by omega)) _ _).trans h.r1, fun k => (frozen_heap (hl.oth _ (by omega) (by omega)) _ _).trans (h.rf k), h.bel.trans (hl.bel.mono (by omega)), by rw [hl.sz]; exact h.sz⟩
/-- string(bytes of one's own). -/
theorem conv_own {w : World} {base n c : Nat} {q : Option Addr} {bs : List Int} (h : w.ownsRow base 5 1 (.slice q n c) n (by8 bs)) (hU : U8 bs) : ∃ t : Bs, t.length = n ∧ (convert 22 9 (.slice q n c)).run Tryz.prog w = .ok (.string ⟨t.toArray⟩) w ∧ t.map (fun u => (u.toNat : Int)) = bs := by
 have hl : bs.length = n := by have := h.1; rw [by8_len] at this; omega
 have hB := byt_own h
 obtain ⟨_, k2, k3, k4⟩ := hB
 have hst : (strOfNums bs).data.toList.map (fun u => (u.toNat : Int)) = bs := by
  unfold strOfNums
  rw [List.toList_toArray, List.map_map]
  refine (List.map_congr_left fun v hv => ?_).trans (List.map_id _)
  have := hU v hv
  simp only [Function.comp, id]
  rw [show v.toNat.toUInt8.toNat = v.toNat % 256 from rfl]
  omega
 have key : ∃ y : ByteArray, y.size = n ∧ (convert 22 9 (.slice q n c)).run Tryz.prog w = .ok (.string y) w ∧ y.data.toList.map (fun u => (u.toNat : Int)) = bs := by
  rcases k4 with k4 | ⟨b, o, rfl, k5, k6⟩
  ·cases q with
   | none => exact ⟨ByteArray.empty, by rw [k4]; rfl, run_convert_bytes_nil w 22 5 Tryz.underlying22 Tryz.underlying5 n c 9 Tryz.underlying9, (List.eq_nil_of_length_eq_zero (by omega : bs.length = 0)) ▸ rfl⟩
   | some a =>
    obtain ⟨ab, ao, ap⟩ := a
    obtain ⟨g, hg⟩ : ∃ g, (⟨ab, ao, ap⟩ : Addr) = ⟨g, 0, .none⟩ := by
     rcases h.2 with ⟨hv, _⟩ | ⟨g, cap, cur, hv, _⟩
     ·cases hv
     ·simp only [Value.slice.injEq, Option.some.injEq] at hv
      exact ⟨g, hv.1⟩
    rw [hg]
    exact ⟨strOfNums bs, by simp [strOfNums, ByteArray.size, hl], run_convert_bytes_arg w 22 5 Tryz.underlying22 Tryz.underlying5 g 0 n c bs hl (fun i hi => by omega) 9 Tryz.underlying9, hst⟩
  ·exact ⟨strOfNums bs, by simp [strOfNums, ByteArray.size, hl], run_convert_bytes_arg w 22 5 Tryz.underlying22 Tryz.underlying5 b o n c bs hl (fun i hi => by
    rw [List.getD_eq_getElem?_getD, List.getElem?_eq_getElem (by omega)]
    exact k6 i _ (List.getElem?_eq_getElem (by omega))) 9 Tryz.underlying9, hst⟩
 obtain ⟨y, hy, hr, hm⟩ := key
 exact ⟨y.data.toList, by simpa using hy, hr, hm⟩
theorem info5 : (Tryz.prog.info? 5).map (fun i => (i.zero, i.size, i.bytes)) = some (some (.int .u8 0), 1, 1) := by kernel_rfl
/-- The beginning: the page is made. -/
theorem page_new (w : World) : ∃ w2, (Instr.makeSlice 22 (.int .i64 4096) (.int .i64 4096)).run Tryz.prog (w.alloc (.cells #[.slice .none 0 0, .int .u64 0] 73)) = .ok (.slice (some ⟨w.heap.size + 1, 0, .none⟩) 4096 4096) w2 ∧ w2.heap.size = w.heap.size + 2 ∧
  Hid (Sk w ((w2.alloc (.cells #[.slice (some ⟨w.heap.size + 1, 0, .none⟩) 4096 4096] 22)).alloc (.cells #[.int .i64 4096] 3)) (fun _ => 0) 4096) := by
 have h := run_make_row' (P := Tryz.prog) 22 5 (.int .u8 0) 1 Tryz.underlying22 info5 rfl .i64 .i64 4096 (by decide) (by decide) (w.alloc (.cells #[.slice .none 0 0, .int .u64 0] 73))
 have hr := World.rowIs_made (w.alloc (.cells #[.slice .none 0 0, .int .u64 0] 73)) (.int .u8 0) 4096 5
 generalize madeCells #[.int .u8 0] 4096 = Z at h hr
 refine ⟨(w.alloc (.cells #[.slice .none 0 0, .int .u64 0] 73)).alloc (.cells Z 5), ?_, ?_, ?_⟩
 ·rw [World.size_alloc] at h
  exact h
 ·simp
 ·rw [World.size_alloc] at hr
  obtain ⟨A, hA⟩ : ∃ A, A = w.alloc (.cells #[.slice .none 0 0, .int .u64 0] 73) := ⟨_, rfl⟩
  have a0 : A.cell? ⟨w.heap.size, 0, .none⟩ = some (.slice .none 0 0) := by rw [hA]; simp
  have a1 : A.cell? ⟨w.heap.size, 1, .none⟩ = some (.int .u64 0) := by rw [hA]; simp
  have af : ∀ k, A.frozen? ⟨w.heap.size, k, .none⟩ = false := fun k => by rw [hA]; exact World.frozen?_alloc_new _ _ _ _
  have az : A.heap.size = w.heap.size + 1 := by rw [hA]; simp
  have aw : Below w.heap.size w A := by rw [hA]; exact (Below.refl _ _).alloc (Nat.le_refl _) _
  rw [← hA] at hr ⊢
  obtain ⟨B, hB⟩ : ∃ B, B = A.alloc (.cells Z 5) := ⟨_, rfl⟩
  have bz : B.heap.size = w.heap.size + 2 := by rw [hB]; simp [az]
  have ab : Below A.heap.size A B := by rw [hB]; exact (Below.refl _ _).alloc (Nat.le_refl _) _
  rw [← hB] at hr ⊢
  obtain ⟨C, hC⟩ : ∃ C, C = B.alloc (.cells #[.slice (some ⟨w.heap.size + 1, 0, .none⟩) 4096 4096] 22) := ⟨_, rfl⟩
  have cz : C.heap.size = w.heap.size + 3 := by rw [hC]; simp [bz]
  have bc : Below B.heap.size B C := by rw [hC]; exact (Below.refl _ _).alloc (Nat.le_refl _) _
  have c0 : C.cell? ⟨w.heap.size + 2, 0, .none⟩ = some (.slice (some ⟨w.heap.size + 1, 0, .none⟩) 4096 4096) := by rw [← bz, hC]; simp
  have hr2 := hr.alloc (.cells #[.slice (some ⟨w.heap.size + 1, 0, .none⟩) 4096 4096] 22)
  rw [← hC] at hr2 ⊢
  have cd : Below C.heap.size C (C.alloc (.cells #[.int .i64 4096] 3)) := (Below.refl _ _).alloc (Nat.le_refl _) _
  have bd := bc.trans (cd.mono (by omega))
  have ad := ab.trans (bd.mono (by omega))
  refine ⟨⟨⟨fun _ => by show (0 : Int) ≤ 0 ∧ (0 : Int) < 256; omega, hr2.alloc _⟩, ?_, ?_, ?_⟩, ?_, ?_, ?_, ?_, ?_⟩
  ·exact (cd.cell (p := ⟨w.heap.size + 2, 0, .none⟩) (by show w.heap.size + 2 < _; omega)).trans c0
  ·rw [← cz]; simp
  ·rw [← cz]; exact World.frozen?_alloc_new _ _ _ _
  ·exact (ad.cell (p := ⟨w.heap.size, 0, .none⟩) (by show w.heap.size < _; omega)).trans a0
  ·exact (ad.cell (p := ⟨w.heap.size, 1, .none⟩) (by show w.heap.size < _; omega)).trans a1
  ·exact fun k => (frozen_heap (ad.block w.heap.size (by omega)) _ _).trans (af k)
  ·exact aw.trans (ad.mono (by omega))
  ·simp [cz]
end Go.Proofs.YtacdgfojdkppmaaGreatDoor
namespace Go.Proofs.YtacdgfojdkppmaaGreatDoor
open Go.RowKit Go.Shelf
set_option linter.unusedVariables false
set_option linter.unusedSimpArgs false
theorem set2' {V : World} {rs : Nat} {x y : Value} (r0 : V.cell? ⟨rs, 0, .none⟩ = some x) (r1 : V.cell? ⟨rs, 1, .none⟩ = some y) (a b : Value) :
  ((V.setCell ⟨rs, 0, .none⟩ a).setCell ⟨rs, 1, .none⟩ b).cell? ⟨rs, 0, .none⟩ = some a ∧ ((V.setCell ⟨rs, 0, .none⟩ a).setCell ⟨rs, 1, .none⟩ b).cell? ⟨rs, 1, .none⟩ = some b := by
 refine ⟨?_, ?_⟩
 ·rw [World.cell?_setCell_other _ _ _ _ (by simp)]
  exact World.cell?_setCell_same' _ _ _ (by rw [r0]; rfl)
 ·exact World.cell?_setCell_same' _ _ _ (by rw [World.cell?_setCell_other _ _ _ _ (by simp), r1]; rfl)
/-- The stack's page as it is handed on: a row of its own, all bytes. -/
def PgB (w w' : World) (pq : Option Addr) (pn pc : Nat) (at_ : Int) (xs : List Bs) (spv : Int) : Prop := ∃ g, ∃ R : Nat → Int, pq = some ⟨g, 0, .none⟩ ∧ pn = 4096 ∧ pc = 4096 ∧ w.heap.size ≤ g ∧ (∀ i, 0 ≤ R i ∧ R i < 256) ∧ (∀ i, i < 4096 → w'.cell? ⟨g, i, .none⟩ = some (.int .u8 (R i))) ∧ ∃ sp : Nat, spv = at_ + sp ∧ (stx 4096 xs - 8 * (xs.length + 1)) / 16 * 16 = (sp : Int) ∧ StkR at_ xs R sp
def StP (w : World) (at_ : Int) (xs : List Bs) (e : Ending) (w' : World) : Prop := ∃ pq pn pc sp, e = .returned (.tuple #[.agg #[.slice pq pn pc, .int .u64 sp], .bool (rm xs)]) ∧ Below w.heap.size w w' ∧ (rm xs = true → PgB w w' pq pn pc at_ xs sp)
set_option maxRecDepth 10000 in
set_option maxHeartbeats 2000000 in
theorem stackOf_any (w : World) (p : Option Addr) (n c : Nat) (xs : List Bs) (h : Tex w p n c xs) (hn : n ≤ 32) (hx : ∀ x ∈ xs, x.length ≤ 400000) (at_ : Int) (hat : 0 ≤ at_ ∧ at_ ≤ 2000000000) :
  Calls Tryz.prog 56 #[.int .u64 at_, .slice p n c] w (StP w at_ xs) := by
 have HT : Hid (Tex w p n c xs) := h
 have HL : Hid (xs.length = n) := h.1
 have HX : Hid (∀ x ∈ xs, x.length ≤ 400000) := hx
 have hc : n ≤ c ∧ c ≤ 9223372036854775807 := ⟨h.2.1, h.2.2.1⟩
 clear h hx
 obtain ⟨w2, hmk, hz2, HS0⟩ := page_new w
 go_enter Tryz.func56, Tryz.ntmps56
 go_wp2_with fail
 clear hmk
 go_loopw [9, 18] (fun v k wr => ∃ i : Nat, i ≤ n ∧ k = .int .i64 i ∧ ∃ q' c' R bs, v = .slice q' (8 * i) c' ∧ Hid (0 ≤ stx 4096 (xs.take i) ∧ Sk w wr R (stx 4096 (xs.take i)) ∧ wr.ownsRow (w.heap.size + 4) 5 1 (.slice q' (8 * i) c') (8 * i) (by8 bs) ∧ U8 bs) ∧ Hid (StI at_ xs i R bs)) (fun _ k _ => (n - intOf k).toNat)
 case atStart => exact ⟨0, by omega, rfl, none, 0, fun _ => 0, [], rfl, ⟨by simp [stx], HS0.out, World.ownsRow_nil _ _ _ _, fun b hb => by simp at hb⟩, StI.zero _ _⟩
 case round =>
  obtain ⟨i, hi, rfl, q', c', R, bs, rfl, HR, HT9⟩ := hrel
  obtain ⟨pl, hpl⟩ : ∃ pl, pl = stx 4096 (xs.take i) := ⟨_, rfl⟩
  rw [← hpl] at HR
  have h0 : 0 ≤ pl := HR.out.1
  have h1 : pl ≤ 4096 := by rw [hpl]; exact stx_le _ _
  by_cases hlt : i < n
  ·have g0 : (i : Int) < n := by omega
   obtain ⟨b, o, x, rfl, hxi, a0⟩ := (HT.out.below HR.out.2.1.bel).at hlt
   have hxl := HX.out x (List.mem_of_getElem? hxi)
   have hnx := stx_next hxi 4096
   rw [← hpl] at hnx
   have c1 := lay_any HR.out.2.1.pgs ⟨h0, h1⟩ x hxl 1 (by omega)
   have HN : Hid (stx 4096 (xs.take (i + 1)) = (pl - x.length - 1) / 16 * 16) := hnx
   have HP : Hid (pl = stx 4096 (xs.take i)) := hpl
   have HXI : Hid (xs[i]? = some x) := hxi
   clear hnx hpl hxi
   by_cases hneg : pl - x.length - 1 < 0
   ·have hd : decide (0 ≤ pl - x.length - 1) = false := by simp; omega
    unfold LyP at c1
    rw [hd] at c1
    clear hd
    go_wp2_with (go_at_call 102; refine c1.mono ?_; rintro _ w3 ⟨rfl, hP3, hL3⟩; have H3 : Hid (∃ R', Sk w w3 R' ((pl - x.length - 1) / 16 * 16)) := ⟨_, HR.out.2.1.laid hP3 hL3⟩; obtain ⟨R3, h3⟩ := H3.out; have r0 := h3.r0; have r1 := h3.r1; have rf0 := h3.rf 0; have rf1 := h3.rf 1; have HBL : Hid (Below w.heap.size w w3) := h3.bel; clear hP3 hL3 c1 h3)
    obtain ⟨s0, s1⟩ := set2' r0 r1 (.slice .none 0 0) (.int .u64 0)
    refine bodyPost_ret (v := .tuple #[.agg #[.slice .none 0 0, .int .u64 0], .bool false]) (by simp [results, Tryz.results56, go_sem, s0, s1]) rfl ⟨none, 0, 0, 0, ?_, ?_, fun e => by rw [rm_no (i := i + 1) (by rw [HN.out]; omega)] at e; cases e⟩
    ·rw [rm_no (i := i + 1) (by rw [HN.out]; omega)]
    ·exact (HBL.out.setCell (Nat.le_refl _) _).setCell (Nat.le_refl _) _
   ·have hd : decide (0 ≤ pl - x.length - 1) = true := by simp; omega
    unfold LyP at c1
    rw [hd] at c1
    clear hd
    obtain ⟨y, hy⟩ : ∃ y, y = (pl - x.length - 1) / 16 * 16 := ⟨_, rfl⟩
    rw [← hy, if_pos (show 0 ≤ pl - (x.length : Int) - 1 by omega)] at c1
    rw [← hy] at HN
    have hy0 : 0 ≤ y ∧ y ≤ 4096 := by omega
    have hw0 : IntKind.u64.wrap y = y := by rw [IntKind.wrap_u64]; omega
    have hw1 : IntKind.u64.wrap (at_ + y) = at_ + y := by rw [IntKind.wrap_u64]; omega
    have HY : Hid (y = (pl - x.length - 1) / 16 * 16) := hy
    obtain ⟨ob, ub⟩ := HR.out.2.2
    have HO : Hid (wr.ownsRow (w.heap.size + 4) 5 1 (.slice q' (8 * i) c') (8 * i) (by8 bs) ∧ U8 bs) := ⟨ob, ub⟩
    clear ob ub hy
    have hneg' := hneg
    clear hneg
    go_wp2_with first | (go_at_call 102; refine c1.mono ?_; rintro _ w3 ⟨rfl, hP3, hL3⟩; have H3 : Hid (Sk w w3 (layR R y.toNat x) y) := HR.out.2.1.laid hP3 hL3; have O3 : Hid (w3.ownsRow (w.heap.size + 4) 5 1 (.slice q' (8 * i) c') (8 * i) (by8 bs)) := own_same HO.out.1 (fun g hg => hL3.oth g (by omega) (by omega)); have r3 := H3.out.pgs.pc; clear hP3 hL3 c1) | (go_at_call 103; refine (appendA_any O3.out HO.out.2 (by have := H3.out.sz; omega) (by omega) (at_ + y) (by omega)).mono ?_; rintro _ w4 ⟨q4, c4, rfl, o4, u4, b4⟩; have H4 : Hid (Sk w w4 (layR R y.toNat x) y ∧ w4.ownsRow (w.heap.size + 4) 5 1 (.slice q4 (8 * i + 8) c4) (8 * i + 8) (by8 (bs ++ l8 (at_ + y) 8)) ∧ U8 (bs ++ l8 (at_ + y) 8)) := ⟨H3.out.above b4, o4, u4⟩; clear o4 u4 b4 r3)
    refine ⟨⟨i + 1, by omega, rfl, q4, c4, layR R y.toNat x, bs ++ l8 (at_ + y) 8, rfl, ⟨?_, ?_, ?_, H4.out.2.2⟩, ?_⟩, by simp only [intOf]; omega⟩
    ·rw [HN.out]; omega
    ·rw [HN.out]; exact H4.out.1
    ·exact H4.out.2.1
    ·have := HT9.out.step HXI.out (y := y.toNat) (by rw [HN.out]; omega)
     rw [show ((y.toNat : Nat) : Int) = y by omega] at this
     exact this
  ·obtain rfl : i = n := by omega
   obtain ⟨ob, ub⟩ := HR.out.2.2
   obtain ⟨t, ht, hcv, htm⟩ := conv_own ob ub
   have HTM : Hid (t.map (fun u => (u.toNat : Int)) = bs) := htm
   have HST : Hid (pl = stx 4096 xs) := by show _ = _; rw [hpl, ← HL.out, List.take_length]
   clear htm
   have c1 := lay_any HR.out.2.1.pgs ⟨h0, h1⟩ t (by omega) 8 (by omega)
   have hst : stx 4096 xs = pl := by rw [hpl, ← HL.out, List.take_length]
   have hR : rm xs = decide (0 ≤ pl - t.length - 8) := by
    unfold rm
    rw [hst, HL.out]
    congr 1
    apply propext
    omega
   have HR2 : Hid (rm xs = decide (0 ≤ pl - t.length - 8)) := hR
   clear ob ub hR hst hpl
   by_cases hneg : pl - t.length - 8 < 0
   ·have hd : decide (0 ≤ pl - t.length - 8) = false := by simp; omega
    unfold LyP at c1
    rw [hd] at c1 HR2
    clear hd
    go_wp2_with (go_at_call 102; refine c1.mono ?_; rintro _ w3 ⟨rfl, hP3, hL3⟩; have H3 : Hid (∃ R', Sk w w3 R' ((pl - t.length - 8) / 16 * 16)) := ⟨_, HR.out.2.1.laid hP3 hL3⟩; obtain ⟨R3, h3⟩ := H3.out; have r0 := h3.r0; have r1 := h3.r1; have rf0 := h3.rf 0; have rf1 := h3.rf 1; have HBL : Hid (Below w.heap.size w w3) := h3.bel; clear hP3 hL3 c1 h3)
    obtain ⟨s0, s1⟩ := set2' r0 r1 (.slice .none 0 0) (.int .u64 0)
    refine bodyPost_ret (v := .tuple #[.agg #[.slice .none 0 0, .int .u64 0], .bool false]) (by simp [results, Tryz.results56, go_sem, s0, s1]) rfl ⟨none, 0, 0, 0, ?_, ?_, fun e => by rw [HR2.out] at e; cases e⟩
    ·rw [HR2.out]
    ·exact (HBL.out.setCell (Nat.le_refl _) _).setCell (Nat.le_refl _) _
   ·have hd : decide (0 ≤ pl - t.length - 8) = true := by simp; omega
    unfold LyP at c1
    rw [hd] at c1 HR2
    clear hd
    obtain ⟨y, hy⟩ : ∃ y, y = (pl - t.length - 8) / 16 * 16 := ⟨_, rfl⟩
    rw [← hy, if_pos (show 0 ≤ pl - (t.length : Int) - 8 by omega)] at c1
    have hy0 : 0 ≤ y ∧ y ≤ 4096 := by omega
    have hw0 : IntKind.u64.wrap y = y := by rw [IntKind.wrap_u64]; omega
    have hw1 : IntKind.u64.wrap (at_ + y) = at_ + y := by rw [IntKind.wrap_u64]; omega
    have HSP : Hid (StkR at_ xs (layR R y.toNat t) y.toNat ∧ (stx 4096 xs - 8 * (xs.length + 1)) / 16 * 16 = ((y.toNat : Nat) : Int)) := by
     have e9 : (stx 4096 xs - 8 * (xs.length + 1)) / 16 * 16 = ((y.toNat : Nat) : Int) := by rw [← HST.out, HL.out]; omega
     have e8 := HT9.out
     rw [← HL.out] at e8
     exact ⟨e8.done HTM.out e9, e9⟩
    clear hy hneg
    go_wp2_with (go_at_call 102; refine c1.mono ?_; rintro _ w3 ⟨rfl, hP3, hL3⟩; have H3 : Hid (Sk w w3 (layR R y.toNat t) y) := HR.out.2.1.laid hP3 hL3; have r0 := H3.out.r0; have r1 := H3.out.r1; have rf0 := H3.out.rf 0; have rf1 := H3.out.rf 1; have r3 := H3.out.pgs.pc; have r4 := H3.out.pgs.pp; clear hP3 hL3 c1)
    obtain ⟨s0, s1⟩ := set2' r0 r1 (.slice (some ⟨w.heap.size + 1, 0, .none⟩) 4096 4096) (.int .u64 (at_ + y))
    refine bodyPost_ret (v := .tuple #[.agg #[.slice (some ⟨w.heap.size + 1, 0, .none⟩) 4096 4096, .int .u64 (at_ + y)], .bool true]) (by simp [results, Tryz.results56, go_sem, s0, s1]) rfl ⟨some ⟨w.heap.size + 1, 0, .none⟩, 4096, 4096, at_ + y, ?_, ?_, fun _ => ?_⟩
    ·rw [HR2.out]
    ·exact (H3.out.bel.setCell (Nat.le_refl _) _).setCell (Nat.le_refl _) _
    ·obtain ⟨hR, hrow⟩ := H3.out.pgs.pg
     refine ⟨w.heap.size + 1, _, rfl, rfl, rfl, by omega, hR, fun i hi => ?_, y.toNat, by omega, HSP.out.2, HSP.out.1⟩
     rw [World.cell?_setCell_other _ _ _ _ (by simp), World.cell?_setCell_other _ _ _ _ (by simp)]
     exact hrow.cell hi
end Go.Proofs.YtacdgfojdkppmaaGreatDoor
