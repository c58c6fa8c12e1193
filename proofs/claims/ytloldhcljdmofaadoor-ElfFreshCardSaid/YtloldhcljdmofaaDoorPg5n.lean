import Derived.Test.YtloldhcljdmofaaDoorPg5
import Derived.Test.YtloldhcljdmofaaDoorPg4n
namespace Go.Proofs.YtloldhcljdmofaaDoor
open Go.RowKit
set_option linter.unusedVariables false
set_option linter.unusedSimpArgs false
set_option maxHeartbeats 4000000 in
set_option maxRecDepth 100000 in
theorem writeN_any {w : World} {X : Nat} {sv : Value} {E : List (Sg × Value)} {B : Nat → Int} (h : Prs w X sv E B) (hl : E.length ≤ 1000) (hP : Plc (E.map (·.1))) (hL : Laid w) (en : Int) (he : 0 ≤ en ∧ en < 18446744073709551616) :
    Calls Tryd.prog 7 #[.agg #[.int .u64 en, sv]] w fun e w' => WrP w E B en e w' := by
  obtain ⟨q, c, rfl, hc1, hc2, hq⟩ := own_form h.own
  have HB : Hid (Below w.heap.size w (w.alloc (.cells #[.int .u64 en, .slice q E.length c] 25))) := (Below.refl _ _).alloc (Nat.le_refl _) _
  have q0 : (w.alloc (.cells #[.int .u64 en, .slice q E.length c] 25)).cell? ⟨w.heap.size, 0, .none⟩ = some (.int .u64 en) := World.cell?_alloc_at _ _ _ _ rfl
  have q1 : (w.alloc (.cells #[.int .u64 en, .slice q E.length c] 25)).cell? ⟨w.heap.size, 1, .none⟩ = some (.slice q E.length c) := World.cell?_alloc_at _ _ _ _ rfl
  have HQ0 : Hid _ := q0
  have HQ1 : Hid _ := q1
  have c10 := check_any (h.below HB.out) hl en he
  have HPl : Hid (Plc (E.map (·.1))) := hP
  have HL : Hid (Laid w) := hL
  have HP : Hid (Prs w X (.slice q E.length c) E B) := h
  clear h hP hL
  go_enter Tryd.func7, Tryd.ntmps7
  go_upto_region 1 with fail
  generalize (w.alloc (.cells #[.int .u64 en, .slice q E.length c] 25)) = W1 at *
  go_upto_region 2 with (go_at_call 20; refine c10.mono ?_; rintro e1 W2 ⟨hb2, hc⟩; rcases hc with ⟨hg, rfl⟩ | ⟨hg, p, rfl⟩)
  · have HB2 : Hid (Below W1.heap.size W1 W2) := hb2
    have HG : Hid (Good en (E.map (·.1))) := hg
    have hE : (E.map (·.1)).length = E.length := List.length_map ..
    have h0 : 0 < E.length := by rw [← hE]; exact hg.1
    have h8 : E.length ≤ 8 := by rw [← hE]; exact hg.2.1
    clear hb2 hg c10 q0 q1
    have HA2 : Hid (Below w.heap.size w W2) := HB.out.trans (HB2.out.mono HB.out.size)
    have HP2 : Hid (Prs W2 X (.slice q E.length c) E B) := HP.out.below HA2.out
    have k0 : W2.cell? ⟨w.heap.size, 0, .none⟩ = some (.int .u64 en) := (HB2.out.cell (lt_of_cell HQ0.out)).trans HQ0.out
    have k1 : W2.cell? ⟨w.heap.size, 1, .none⟩ = some (.slice q E.length c) := (HB2.out.cell (lt_of_cell HQ1.out)).trans HQ1.out
    have c11 := size_any HP2.out h0 h8 ⟨hc1, hc2⟩
    have hzb : szs (E.map (·.1)) E.length ≤ E.length * 400000 := by
      refine szs_bd _ _ fun s hs => ?_
      obtain ⟨x, hx, rfl⟩ := List.mem_map.1 hs
      exact HP.out.sz x hx
    generalize hz : szs (E.map (·.1)) E.length = z at *
    have HZ : Hid (szs (E.map (·.1)) E.length = z) := hz
    clear hz
    go_upto_region 5 with (go_at_call 21; refine c11.mono ?_; rintro _ W3 ⟨rfl, hb3⟩)
    have HB3 : Hid (Below W2.heap.size W2 W3) := hb3
    have HA3 : Hid (Below w.heap.size w W3) := HA2.out.trans (HB3.out.mono HA2.out.size)
    have l0 : W3.cell? ⟨w.heap.size, 0, .none⟩ = some (.int .u64 en) := (hb3.cell (lt_of_cell k0)).trans k0
    have l1 : W3.cell? ⟨w.heap.size, 1, .none⟩ = some (.slice q E.length c) := (hb3.cell (lt_of_cell k1)).trans k1
    clear hb3 k0 k1 c11
    by_cases hbig : 64 + 56 * E.length + z ≤ 262144
    · have hbi : ¬ (262144 : Int) < 64 + 56 * E.length + z := by omega
      have c13 := layN_any (HP.out.below HA3.out) h0 h8 HPl.out (HL.out.below HA3.out) en he (by rw [HZ.out]; omega)
      rw [HZ.out, show ((64 + 56 * E.length + z : Nat) : Int) = 64 + 56 * E.length + z by push_cast; rfl] at c13
      go_wp2_with (first | (go_at_call 23; refine c13.mono ?_; rintro _ W4 ⟨v, rfl, own4, hb4⟩) | fail)
      go_ret2
      refine ⟨HA3.out.trans (hb4.mono HA3.out.size), .inl ⟨HG.out, by rw [HZ.out]; exact hbig, v, rfl, ?_⟩⟩
      rw [HZ.out]
      exact own_mono own4 HA3.out.size
    · have hbi : (262144 : Int) < 64 + 56 * E.length + z := by omega
      go_wp2_with (go_at_call 22; refine (refusal_any _ _ _).mono ?_; rintro _ _ ⟨rfl, rfl⟩)
      go_ret2
      exact ⟨HA3.out.alloc HA3.out.size _, .inr ⟨fun h => by rw [HZ.out] at h; exact hbig h.2, _, rfl⟩⟩
  · have HB2 : Hid (Below W1.heap.size W1 W2) := hb2
    have HG : Hid (¬ Good en (E.map (·.1))) := hg
    clear hb2 hg c10
    go_wp2_with fail
    go_ret2
    exact ⟨HB.out.trans (HB2.out.mono HB.out.size), .inr ⟨fun h => HG.out h.1, _, rfl⟩⟩
end Go.Proofs.YtloldhcljdmofaaDoor
