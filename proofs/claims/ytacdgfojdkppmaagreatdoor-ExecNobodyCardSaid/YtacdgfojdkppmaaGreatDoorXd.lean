import Derived.Test.YtacdgfojdkppmaaGreatDoorXc
import Derived.Lib.SlBytesRow
import Derived.Laws.BytesArg
import Derived.Deep.OwnRows
namespace Go.Proofs.YtacdgfojdkppmaaGreatDoor
open Go.RowKit Go.Shelf
set_option linter.unusedVariables false
set_option linter.unusedSimpArgs false
/-- Where the place comes to behind these texts. -/
def stx (s : Int) (xs : List Bs) : Int := xs.foldl (fun s x => (s - x.length - 1) / 16 * 16) s
theorem stx_le : ∀ (xs : List Bs) (s : Int), stx s xs ≤ s
  | [], s => Int.le_refl _
  | x :: r, s => Int.le_trans (stx_le r ((s - x.length - 1) / 16 * 16)) (by omega)
theorem stx_next {xs : List Bs} {i : Nat} {x : Bs} (h : xs[i]? = some x) (s : Int) : stx s (xs.take (i + 1)) = (stx s (xs.take i) - x.length - 1) / 16 * 16 := by
  rw [List.take_add_one, h]
  simp [stx, List.foldl_append]
/-- Have they room? -/
def rm (xs : List Bs) : Bool := decide (0 ≤ stx 4096 xs - 8 * (xs.length + 1))
theorem rm_no {xs : List Bs} {i : Nat} (h : stx 4096 (xs.take i) < 0) : rm xs = false := by
  have h1 : stx 4096 xs = stx (stx 4096 (xs.take i)) (xs.drop i) := by
    conv => lhs; rw [← List.take_append_drop i xs]
    simp only [stx, List.foldl_append]
  have h2 := stx_le (xs.drop i) (stx 4096 (xs.take i))
  simp only [rm, decide_eq_false_iff_not]
  omega
structure Sk (w wr : World) (pl : Int) : Prop where
  pgs : Pgs wr w.heap.size pl
  r0 : wr.cell? ⟨w.heap.size, 0, .none⟩ = some (.slice .none 0 0)
  r1 : wr.cell? ⟨w.heap.size, 1, .none⟩ = some (.int .u64 0)
  rf : ∀ k, wr.frozen? ⟨w.heap.size, k, .none⟩ = false
  bel : Below w.heap.size w wr
  sz : w.heap.size + 4 ≤ wr.heap.size
theorem Pgs.above {w w' : World} {s : Nat} {pl : Int} (h : Pgs w s pl) (hb : Below (s + 4) w w') : Pgs w' s pl := by
  obtain ⟨⟨R, hR, h1⟩, h2, h3, h4⟩ := h
  exact ⟨⟨R, hR, h1.of_block (hb.block (s + 1) (by omega))⟩, (hb.cell (p := ⟨s + 2, 0, .none⟩) (by show s + 2 < s + 4; omega)).trans h2, (hb.cell (p := ⟨s + 3, 0, .none⟩) (by show s + 3 < s + 4; omega)).trans h3, (frozen_heap (hb.block (s + 3) (by omega)) _ _).trans h4⟩
theorem Sk.above {w a b : World} {pl : Int} (h : Sk w a pl) (hb : Below (w.heap.size + 4) a b) : Sk w b pl :=
  ⟨h.pgs.above hb, (hb.cell (p := ⟨w.heap.size, 0, .none⟩) (by show w.heap.size < _; omega)).trans h.r0, (hb.cell (p := ⟨w.heap.size, 1, .none⟩) (by show w.heap.size < _; omega)).trans h.r1, fun k => (frozen_heap (hb.block w.heap.size (by omega)) _ _).trans (h.rf k), h.bel.trans (hb.mono (by omega)), Nat.le_trans h.sz hb.size⟩
theorem Sk.laid {w a b : World} {pl pl' : Int} (h : Sk w a pl) (hp : Pgs b w.heap.size pl') (hl : Lyd w.heap.size a b) : Sk w b pl' :=
  ⟨hp, (cell_heap (hl.oth _ (by omega) (by omega)) _ _).trans h.r0, (cell_heap (hl.oth _ (by omega) (by omega)) _ _).trans h.r1, fun k => (frozen_heap (hl.oth _ (by omega) (by omega)) _ _).trans (h.rf k), h.bel.trans (hl.bel.mono (by omega)), by rw [hl.sz]; exact h.sz⟩
/-- string(bytes of one's own). -/
theorem conv_own {w : World} {base n c : Nat} {q : Option Addr} {bs : List Int} (h : w.ownsRow base 5 1 (.slice q n c) n (by8 bs)) (hU : U8 bs) : ∃ t : Bs, t.length = n ∧ (convert 22 9 (.slice q n c)).run Tryz.prog w = .ok (.string ⟨t.toArray⟩) w := by
  have hl : bs.length = n := by have := h.1; rw [by8_len] at this; omega
  have hB := byt_own h
  obtain ⟨_, k2, k3, k4⟩ := hB
  have key : ∃ y : ByteArray, y.size = n ∧ (convert 22 9 (.slice q n c)).run Tryz.prog w = .ok (.string y) w := by
    rcases k4 with k4 | ⟨b, o, rfl, k5, k6⟩
    · cases q with
      | none => exact ⟨ByteArray.empty, by rw [k4]; rfl, run_convert_bytes_nil w 22 5 Tryz.underlying22 Tryz.underlying5 n c 9 Tryz.underlying9⟩
      | some a =>
        obtain ⟨ab, ao, ap⟩ := a
        obtain ⟨g, hg⟩ : ∃ g, (⟨ab, ao, ap⟩ : Addr) = ⟨g, 0, .none⟩ := by
          rcases h.2 with ⟨hv, _⟩ | ⟨g, cap, cur, hv, _⟩
          · cases hv
          · simp only [Value.slice.injEq, Option.some.injEq] at hv
            exact ⟨g, hv.1⟩
        rw [hg]
        exact ⟨strOfNums bs, by simp [strOfNums, ByteArray.size, hl], run_convert_bytes_arg w 22 5 Tryz.underlying22 Tryz.underlying5 g 0 n c bs hl (fun i hi => by omega) 9 Tryz.underlying9⟩
    · exact ⟨strOfNums bs, by simp [strOfNums, ByteArray.size, hl], run_convert_bytes_arg w 22 5 Tryz.underlying22 Tryz.underlying5 b o n c bs hl (fun i hi => by
        rw [List.getD_eq_getElem?_getD, List.getElem?_eq_getElem (by omega)]
        exact k6 i _ (List.getElem?_eq_getElem (by omega))) 9 Tryz.underlying9⟩
  obtain ⟨y, hy, hr⟩ := key
  exact ⟨y.data.toList, by simpa using hy, hr⟩
theorem info5 : (Tryz.prog.info? 5).map (fun i => (i.zero, i.size, i.bytes)) = some (some (.int .u8 0), 1, 1) := by kernel_rfl
/-- The beginning: the page is made. -/
theorem page_new (w : World) : ∃ w2, (Instr.makeSlice 22 (.int .i64 4096) (.int .i64 4096)).run Tryz.prog (w.alloc (.cells #[.slice .none 0 0, .int .u64 0] 73)) = .ok (.slice (some ⟨w.heap.size + 1, 0, .none⟩) 4096 4096) w2 ∧ w2.heap.size = w.heap.size + 2 ∧
    Hid (Sk w ((w2.alloc (.cells #[.slice (some ⟨w.heap.size + 1, 0, .none⟩) 4096 4096] 22)).alloc (.cells #[.int .i64 4096] 3)) 4096) := by
  have h := run_make_row' (P := Tryz.prog) 22 5 (.int .u8 0) 1 Tryz.underlying22 info5 rfl .i64 .i64 4096 (by decide) (by decide) (w.alloc (.cells #[.slice .none 0 0, .int .u64 0] 73))
  have hr := World.rowIs_made (w.alloc (.cells #[.slice .none 0 0, .int .u64 0] 73)) (.int .u8 0) 4096 5
  generalize madeCells #[.int .u8 0] 4096 = Z at h hr
  refine ⟨(w.alloc (.cells #[.slice .none 0 0, .int .u64 0] 73)).alloc (.cells Z 5), ?_, ?_, ?_⟩
  · rw [World.size_alloc] at h
    exact h
  · simp
  · rw [World.size_alloc] at hr
    obtain ⟨A, hA⟩ : ∃ A, A = w.alloc (.cells #[.slice .none 0 0, .int .u64 0] 73) := ⟨_, rfl⟩
    have a0 : A.cell? ⟨w.heap.size, 0, .none⟩ = some (.slice .none 0 0) := by rw [hA]; simp
    have a1 : A.cell? ⟨w.heap.size, 1, .none⟩ = some (.int .u64 0) := by rw [hA]; simp
    have af : ∀ k, A.frozen? ⟨w.heap.size, k, .none⟩ = false := fun k => by rw [hA]; exact World.frozen?_alloc_new _ _ _ _
    have az : A.heap.size = w.heap.size + 1 := by rw [hA]; simp
    have aw : Below w.heap.size w A := by rw [hA]; exact (Below.refl _ _).alloc (Nat.le_refl _) _
    rw [← hA] at hr ⊢
    obtain ⟨B, hB⟩ : ∃ B, B = A.alloc (.cells Z 5) := ⟨_, rfl⟩
    have bz : B.heap.size = w.heap.size + 2 := by rw [hB]; simp [az]
    have ab : Below A.heap.size A B := by rw [hB]; exact (Below.refl _ _).alloc (Nat.le_refl _) _
    rw [← hB] at hr ⊢
    obtain ⟨C, hC⟩ : ∃ C, C = B.alloc (.cells #[.slice (some ⟨w.heap.size + 1, 0, .none⟩) 4096 4096] 22) := ⟨_, rfl⟩
    have cz : C.heap.size = w.heap.size + 3 := by rw [hC]; simp [bz]
    have bc : Below B.heap.size B C := by rw [hC]; exact (Below.refl _ _).alloc (Nat.le_refl _) _
    have c0 : C.cell? ⟨w.heap.size + 2, 0, .none⟩ = some (.slice (some ⟨w.heap.size + 1, 0, .none⟩) 4096 4096) := by rw [← bz, hC]; simp
    have hr2 := hr.alloc (.cells #[.slice (some ⟨w.heap.size + 1, 0, .none⟩) 4096 4096] 22)
    rw [← hC] at hr2 ⊢
    have cd : Below C.heap.size C (C.alloc (.cells #[.int .i64 4096] 3)) := (Below.refl _ _).alloc (Nat.le_refl _) _
    have bd := bc.trans (cd.mono (by omega))
    have ad := ab.trans (bd.mono (by omega))
    refine ⟨⟨⟨fun _ => 0, fun _ => by show (0 : Int) ≤ 0 ∧ (0 : Int) < 256; omega, hr2.alloc _⟩, ?_, ?_, ?_⟩, ?_, ?_, ?_, ?_, ?_⟩
    · exact (cd.cell (p := ⟨w.heap.size + 2, 0, .none⟩) (by show w.heap.size + 2 < _; omega)).trans c0
    · rw [← cz]; simp
    · rw [← cz]; exact World.frozen?_alloc_new _ _ _ _
    · exact (ad.cell (p := ⟨w.heap.size, 0, .none⟩) (by show w.heap.size < _; omega)).trans a0
    · exact (ad.cell (p := ⟨w.heap.size, 1, .none⟩) (by show w.heap.size < _; omega)).trans a1
    · exact fun k => (frozen_heap (ad.block w.heap.size (by omega)) _ _).trans (af k)
    · exact aw.trans (ad.mono (by omega))
    · simp [cz]
end Go.Proofs.YtacdgfojdkppmaaGreatDoor
