import Derived.Test.YtacdgfojdkppmaaGreatDoorRows
import Derived.Test.YtacdgfojdkppmaaGreatDoorLeB
import Derived.Shelf.Abstract
import Derived.Shelf.RegionOpen
import Derived.WalkKit
import Derived.WalkSpells
import Derived.RowKit3
import Derived.LoopTactic
import Derived.WalkSmall
import Derived.Laws.Externs
import Derived.Lib.Bytealg
import Derived.Lib.IndexLaws
import Derived.Lib.BytesEntry
namespace Go.Proofs.YtacdgfojdkppmaaGreatDoor
open Go.RowKit Go.Shelf
attribute [local go_sem] Oper.semAt_some
set_option linter.unusedVariables false
set_option linter.unusedSimpArgs false
set_option maxRecDepth 10000
abbrev Bs := List UInt8
/-- Where the first byte c stands; -1: nowhere. -/
abbrev ix (l : Bs) (c : UInt8) : Int := Lib.indexByte l c
theorem ix_cases (l : Bs) (c : UInt8) : ix l c = -1 ∨ ∃ o : Nat, ix l c = o ∧ o < l.length := by
  have h : -1 ≤ ix l c := Lib.indexByte_ge l c
  by_cases e : ix l c = -1
  · exact .inl e
  · right
    refine ⟨(ix l c).toNat, by omega, ?_⟩
    have h1 := (Lib.indexByte_some (l := l) (c := c) (o := (ix l c).toNat) (show ix l c = _ by omega)).1
    exact (List.getElem?_eq_some_iff.1 h1).1
/-- Has it a byte 0? -/
def hz (l : Bs) : Bool := decide (0 ∈ l)
theorem ix_hz (l : Bs) : decide (0 ≤ ix l 0) = hz l := by
  unfold hz
  rcases ix_cases l 0 with e | ⟨o, e, ho⟩
  · have hn : (0 : UInt8) ∉ l := fun hm => by
      obtain ⟨k, hk⟩ := List.mem_iff_getElem?.1 hm
      exact absurd hk (Lib.indexByte_none e k)
    rw [e]
    simp [hn]
  · have hm : (0 : UInt8) ∈ l := List.mem_iff_getElem?.2 ⟨o, (Lib.indexByte_some e).1⟩
    rw [e]
    simp [hm]
theorem idxS_any (s : ByteArray) (c : Int) (w : World) : Calls Tryz.prog 138 #[.string s, .int .u8 c] w fun e w' => e = .returned (.int .i64 (ix s.data.toList c.toNat.toUInt8)) ∧ w' = w := by
  go_enter Tryz.func138, Tryz.ntmps138
  go_wp2
  rw [run_callFunc_extern Tryz.func165 (by kernel_rfl) (by kernel_rfl) (by kernel_rfl) (e := Extern.BytealgIndexByte.indexByte) (by kernel_rfl), Lib.run_indexByteString]
  simp only [Result.andThen]
  rw [Oper.upon_value]
  go_wp2
  go_ret
  exact ⟨rfl, rfl⟩
theorem indexByte_any (s : ByteArray) (c : Int) (w : World) : Calls Tryz.prog 101 #[.string s, .int .u8 c] w fun e w' => e = .returned (.int .i64 (ix s.data.toList c.toNat.toUInt8)) ∧ w' = w := by
  have c1 := idxS_any s c w
  go_enter Tryz.func101, Tryz.ntmps101
  go_wp2_with (go_at_call 138; refine c1.mono ?_; rintro _ _ ⟨rfl, rfl⟩)
  go_ret
  exact ⟨rfl, rfl⟩
def sv (x : Bs) : Value := .string ⟨x.toArray⟩
theorem hasZero_any (l : Bs) (w : World) : Calls Tryz.prog 55 #[sv l] w fun e w' => e = .returned (.bool (hz l)) ∧ w' = w := by
  have c1 : Calls Tryz.prog 101 #[.string ⟨l.toArray⟩, .int .u8 0] w fun e w' => e = .returned (.int .i64 (ix l 0)) ∧ w' = w := indexByte_any ⟨l.toArray⟩ 0 w
  have h0 := ix_hz l
  unfold sv
  generalize ix l 0 = z at *
  rw [← h0]
  clear h0
  go_enter Tryz.func55, Tryz.ntmps55
  go_wp2_with (go_at_call 101; refine c1.mono ?_; rintro _ _ ⟨rfl, rfl⟩)
  go_ret
  exact ⟨rfl, rfl⟩
/-- A slice shows these texts. -/
def Tex (w : World) (p : Option Addr) (n c : Nat) (xs : List Bs) : Prop :=
  xs.length = n ∧ n ≤ c ∧ c ≤ maxLen ∧ (n = 0 ∨ ∃ b o, p = some ⟨b, o, .none⟩ ∧ b < w.heap.size ∧ ∀ i x, xs[i]? = some x → w.cell? ⟨b, o + i, .none⟩ = some (sv x))
theorem tex_own {w : World} {base : Nat} {p : Option Addr} {n c : Nat} {xs : List Bs} (h : w.ownsRow base 9 1 (.slice p n c) n (xs.map sv)) : Tex w p n c xs := by
  have hl : xs.length = n := by have := h.1; rw [List.length_map] at this; omega
  rcases h.2 with ⟨hv, h0⟩ | ⟨g, cap, cur, hv, hb, hg, hn, hm, _⟩
  · simp only [Value.slice.injEq] at hv
    obtain ⟨rfl, _, rfl⟩ := hv
    exact ⟨hl, by omega, by decide, .inl h0⟩
  · simp only [Value.slice.injEq, true_and] at hv
    obtain ⟨rfl, rfl⟩ := hv
    refine ⟨hl, hn, hm, .inr ⟨g, 0, rfl, (Array.getElem?_eq_some_iff.1 hg).1, fun i x hx => ?_⟩⟩
    have := h.cells (g := g) rfl i (sv x) (by rw [List.getElem?_map, hx]; rfl)
    rwa [le_addr_add] at this
theorem Tex.below {w w' : World} {p : Option Addr} {n c : Nat} {xs : List Bs} (h : Tex w p n c xs) (hb : Below w.heap.size w w') : Tex w' p n c xs := by
  obtain ⟨h1, h2, h3, h4⟩ := h
  refine ⟨h1, h2, h3, ?_⟩
  rcases h4 with h4 | ⟨b, o, rfl, h5, h6⟩
  · exact .inl h4
  · exact .inr ⟨b, o, rfl, Nat.lt_of_lt_of_le h5 hb.size, fun i x hx => (hb.cell (p := ⟨b, o + i, .none⟩) h5).trans (h6 i x hx)⟩
/-- The i-th text. -/
theorem Tex.at {w : World} {p : Option Addr} {n c i : Nat} {xs : List Bs} (h : Tex w p n c xs) (hi : i < n) : ∃ b o x, p = some ⟨b, o, .none⟩ ∧ xs[i]? = some x ∧ w.cell? ⟨b, o + i, .none⟩ = some (.string ⟨x.toArray⟩) := by
  obtain ⟨h1, h2, h3, h4⟩ := h
  rcases h4 with h4 | ⟨b, o, rfl, h5, h6⟩
  · omega
  · exact ⟨b, o, xs[i]'(by omega), rfl, List.getElem?_eq_getElem _, h6 i _ (List.getElem?_eq_getElem _)⟩
/-- The first that has a 0. -/
def fz (xs : List Bs) : Option Nat := xs.findIdx? hz
set_option maxHeartbeats 1000000 in
theorem indexF_any (p : Option Addr) (n c : Nat) (xs : List Bs) (w : World) (hn : n < 1000000) (h : Tex w p n c xs) :
    Calls Tryz.prog 100 #[.slice p n c, .func (.func 55) #[] #[]] w fun e w' => (∃ z : Int, e = .returned (.int .i64 z) ∧ decide (0 ≤ z) = xs.any hz) ∧ w' = w := by
  have HT : Hid (Tex w p n c xs) := h
  have hc : c ≤ 9223372036854775807 := h.2.2.1
  have hnc : n ≤ c := h.2.1
  have HL : Hid (xs.length = n) := h.1
  clear h
  go_enter Tryz.func100, Tryz.ntmps100
  go_wp2_with fail
  go_loopw [8] (fun a wr => ∃ i : Nat, i ≤ n ∧ a = .int .i64 i ∧ Hid ((xs.take i).any hz = false) ∧ wr = w) (fun a _ => (n - intOf a).toNat)
  case atStart => exact ⟨0, by omega, rfl, by show _ = _; simp, rfl⟩
  case round =>
    obtain ⟨i, hi, rfl, HA, rfl⟩ := hrel
    by_cases hlt : i < n
    · have g0 : (i : Int) < n := by omega
      obtain ⟨b, o, x, rfl, hx, a0⟩ := HT.out.at hlt
      have hnext : (xs.take (i + 1)).any hz = hz x := by
        rw [List.take_add_one, hx, List.any_append, HA.out]
        simp
      have c1 := hasZero_any x wr
      unfold sv at c1
      have HX : Hid (xs[i]? = some x) := hx
      clear hx
      cases hzx : hz x with
      | true =>
        rw [hzx] at c1 hnext
        have HN : Hid ((xs.take (i + 1)).any hz = true) := hnext
        clear hnext hzx
        go_wp2_with (go_at_call 55; refine c1.mono ?_; rintro _ _ ⟨rfl, rfl⟩)
        go_ret
        refine ⟨⟨i, rfl, ?_⟩, rfl⟩
        have : xs.any hz = true := by
          rw [← List.take_append_drop (i + 1) xs, List.any_append, HN.out]; rfl
        rw [this]; simp
      | false =>
        rw [hzx] at c1 hnext
        have HN : Hid ((xs.take (i + 1)).any hz = false) := hnext
        clear hnext hzx
        go_wp2_with (go_at_call 55; refine c1.mono ?_; rintro _ _ ⟨rfl, rfl⟩)
        exact ⟨⟨i + 1, by omega, rfl, HN, trivial⟩, by simp only [intOf]; omega⟩
    · obtain rfl : i = n := by omega
      go_wp2
      go_ret
      refine ⟨⟨-1, rfl, ?_⟩, rfl⟩
      have := HA.out
      rw [← HL.out, List.take_length] at this
      rw [this]; rfl
theorem contains_any (p : Option Addr) (n c : Nat) (xs : List Bs) (w : World) (hn : n < 1000000) (h : Tex w p n c xs) :
    Calls Tryz.prog 54 #[.slice p n c, .func (.func 55) #[] #[]] w fun e w' => e = .returned (.bool (xs.any hz)) ∧ w' = w := by
  have c1 := indexF_any p n c xs w hn h
  clear h
  go_enter Tryz.func54, Tryz.ntmps54
  go_wp2_with (go_at_call 100; refine c1.mono ?_; rintro _ _ ⟨⟨z, rfl, hz1⟩, rfl⟩; have HZ : Hid (decide (0 ≤ z) = xs.any hz) := hz1; clear hz1 c1)
  go_ret
  exact ⟨by rw [← HZ.out]; rfl, rfl⟩
end Go.Proofs.YtacdgfojdkppmaaGreatDoor
