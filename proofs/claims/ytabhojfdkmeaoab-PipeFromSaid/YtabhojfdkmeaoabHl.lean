import Derived.Test.YtabhojfdkmeaoabFr
import Derived.Lib.SlBytesRow
namespace Go.Proofs.Ytabhojfdkmeaoab
open Go.RowKit
set_option linter.unusedVariables false
set_option linter.unusedSimpArgs false
theorem Trn.new (w : World) (o : Obj) : Below w.heap.size w (w.alloc o) := (Below.refl _ _).alloc (Nat.le_refl _) _
theorem byt_below {w v : World} {p : Option Addr} {n c : Nat} {xs : List Int} (h : Byt w p n c xs) (hb : Below w.heap.size w v) : Byt v p n c xs := by
  obtain ⟨h1, h2, h3, h4⟩ := h
  refine ⟨h1, h2, h3, ?_⟩
  rcases h4 with h4 | ⟨b, o, rfl, h5, h6⟩
  · exact .inl h4
  · exact .inr ⟨b, o, rfl, Nat.lt_of_lt_of_le h5 hb.size, fun i x hx => (hb.cell (p := ⟨b, o + i, .none⟩) h5).trans (h6 i x hx)⟩
theorem byt_belowB {B : Nat} {w v : World} {p : Option Addr} {n c : Nat} {xs : List Int} (h : Byt w p n c xs) (hb : Below B w v) (hB : w.heap.size ≤ B) : Byt v p n c xs := byt_below h (hb.mono hB)
/-- string(b) of one byte. -/
theorem conv1 {w : World} {p : Option Addr} {c : Nat} {x : Int} (h : Byt w p 1 c [x]) (hx : 0 ≤ x ∧ x < 256) : (convert 22 9 (.slice p 1 c)).run Try.prog w = .ok (.string ⟨#[x.toNat.toUInt8]⟩) w := by
  rcases h.2.2.2 with h0 | ⟨b, o, rfl, _, h6⟩
  · cases h0
  · have hb : Lib.Bytes w b o ⟨#[x.toNat.toUInt8]⟩ := by
      intro i hi
      have hi0 : i < 1 := hi
      obtain rfl : i = 0 := by omega
      have := h6 0 x rfl
      rw [this]
      have e : ((⟨#[x.toNat.toUInt8]⟩ : ByteArray)[0]'hi) = x.toNat.toUInt8 := rfl
      rw [e]
      congr 2
      have e2 : x.toNat.toUInt8.toNat = x.toNat % 256 := by simp
      rw [e2]; omega
    have := Lib.run_convert_whole (P := Try.prog) w 22 5 9 Try.underlying22 Try.underlying5 Try.underlying9 b o ⟨#[x.toNat.toUInt8]⟩ hb c
    exact this
set_option maxHeartbeats 1000000 in
/-- Two states that read alike. -/
theorem same_any {w : World} {p1 p2 : Option Addr} {n c1 c2 : Nat} {xs : List Int} (R S : Int) (rd wt : Bool) (h1 : Byt w p1 n c1 xs) (h2 : Byt w p2 n c2 xs) (hn : n < 140737488355000) :
    Calls Try.prog 10 #[.agg #[.slice p1 n c1, .int .u32 R, .int .u32 S, .bool rd, .bool wt], .agg #[.slice p2 n c2, .int .u32 R, .int .u32 S, .bool rd, .bool wt]] w fun e w' => e = .returned (.bool true) ∧ Below w.heap.size w w' := by
  have HB : Hid (Byt w p1 n c1 xs ∧ Byt w p2 n c2 xs) := ⟨h1, h2⟩
  clear h1 h2
  go_enter Try.func10, Try.ntmps10
  go_upto_region 1 with fail
  have hs1 := sb_new w p1 n c1 R S rd wt
  have hb1 := Trn.new w (.cells #[.slice p1 n c1, .int .u32 R, .int .u32 S, .bool rd, .bool wt] 25)
  have hz1 : (w.alloc (.cells #[.slice p1 n c1, .int .u32 R, .int .u32 S, .bool rd, .bool wt] 25)).heap.size = w.heap.size + 1 := by simp
  generalize w.alloc (.cells #[.slice p1 n c1, .int .u32 R, .int .u32 S, .bool rd, .bool wt] 25) = W1 at *
  have hs2 := sb_new W1 p2 n c2 R S rd wt
  have hb2 := Trn.new W1 (.cells #[.slice p2 n c2, .int .u32 R, .int .u32 S, .bool rd, .bool wt] 25)
  have hs3 := hs1.below hb2
  generalize W1.alloc (.cells #[.slice p2 n c2, .int .u32 R, .int .u32 S, .bool rd, .bool wt] 25) = W2 at *
  rw [hz1] at *
  have HW : Hid (Sb W2 w.heap.size p1 n c1 R S rd wt ∧ Sb W2 (w.heap.size + 1) p2 n c2 R S rd wt ∧ Below w.heap.size w W2) := ⟨hs3, hs2, hb1.trans (hb2.mono (by omega))⟩
  clear hs1 hs2 hs3 hb1 hb2 hz1
  have a0 := HW.out.1.c0
  have a1 := HW.out.1.c1
  have a2 := HW.out.1.c2
  have a3 := HW.out.1.c3
  have a4 := HW.out.1.c4
  have b0 := HW.out.2.1.c0
  have b1 := HW.out.2.1.c1
  have b2 := HW.out.2.1.c2
  have b3 := HW.out.2.1.c3
  have b4 := HW.out.2.1.c4
  go_wp2_with fail
  have c17 := bytes_any p1 p2 n c1 c2 xs W2 hn (byt_below HB.out.1 HW.out.2.2) (byt_below HB.out.2 HW.out.2.2)
  refine c17.mono ?_
  rintro e W3 ⟨rfl, k, rfl⟩
  clear c17
  go_wp2
  go_ret
  refine ⟨by simp, HW.out.2.2.trans ⟨rfl, rfl, rfl, Nat.le_refl _, fun _ _ => rfl⟩⟩
theorem row_two (w : World) (g : Nat) (h : w.heap[g]? = some (.cells #[.int .u8 97, .int .u8 98] 5 (0, 0))) : Byt w (some ⟨g, 0, .none⟩) 2 2 [97, 98] :=
  ⟨rfl, Nat.le_refl _, by decide, .inr ⟨g, 0, rfl, (Array.getElem?_eq_some_iff.1 h).1, fun i x hx => by
    match i, hx with
    | 0, hx => cases hx; simp [World.cell?, h]
    | 1, hx => cases hx; simp [World.cell?, h]⟩⟩
theorem row_one (w : World) (g : Nat) (h : w.heap[g]? = some (.cells #[.int .u8 97] 5 (0, 0))) : Byt w (some ⟨g, 0, .none⟩) 1 1 [97] :=
  ⟨rfl, Nat.le_refl _, by decide, .inr ⟨g, 0, rfl, (Array.getElem?_eq_some_iff.1 h).1, fun i x hx => by
    match i, hx with
    | 0, hx => cases hx; simp [World.cell?, h]⟩⟩
end Go.Proofs.Ytabhojfdkmeaoab
