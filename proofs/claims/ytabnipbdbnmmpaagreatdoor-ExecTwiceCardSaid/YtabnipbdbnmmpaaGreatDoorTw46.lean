import Derived.Test.YtabnipbdbnmmpaaGreatDoorTw44
import Derived.Test.YtabnipbdbnmmpaaGreatDoorTw45
import Derived.Test.YtabnipbdbnmmpaaGreatDoorTw30
set_option linter.unusedVariables false
set_option linter.unusedSimpArgs false
namespace Go.Proofs.YtabnipbdbnmmpaaGreatDoor
open Go.RowKit
structure Sr where
 va : Int
 fl : Int
 q : Option Addr
 n : Nat
 c : Nat
 mem : Int
structure Sgs (w : World) (b o : Nat) (S : Nat → Sr) (m : Nat) : Prop where
 c0 : ∀ i, i < m → w.cell? ⟨b, o + i * 4, .none⟩ = some (.int .u64 (S i).va)
 c1 : ∀ i, i < m → w.cell? ⟨b, o + i * 4 + 1, .none⟩ = some (.int .u32 (S i).fl)
 c2 : ∀ i, i < m → w.cell? ⟨b, o + i * 4 + 2, .none⟩ = some (.slice (S i).q (S i).n (S i).c)
 c3 : ∀ i, i < m → w.cell? ⟨b, o + i * 4 + 3, .none⟩ = some (.int .u64 (S i).mem)
theorem Sgs.below {w w' : World} {b o m : Nat} {S : Nat → Sr} (h : Sgs w b o S m) (k : Below w.heap.size w w') : Sgs w' b o S m :=
 ⟨fun i hi => (k.cell (lt_of_cell (h.c0 i hi))).trans (h.c0 i hi), fun i hi => (k.cell (lt_of_cell (h.c1 i hi))).trans (h.c1 i hi), fun i hi => (k.cell (lt_of_cell (h.c2 i hi))).trans (h.c2 i hi), fun i hi => (k.cell (lt_of_cell (h.c3 i hi))).trans (h.c3 i hi)⟩
def sumN (S : Nat → Sr) : Nat → Nat
 | 0 => 0
 | i + 1 => sumN S i + (S i).n
theorem sum_le (S : Nat → Sr) (m : Nat) (hn : ∀ i, i < m → (S i).n ≤ 1073741824 ∧ (S i).n ≤ (S i).c ∧ (S i).c ≤ 9223372036854775807) : ∀ i, i ≤ m → sumN S i ≤ i * 1073741824
 | 0, _ => by simp [sumN]
 | i + 1, h => by
  have := sum_le S m hn i (by omega)
  have := (hn i (by omega)).1
  simp only [sumN]
  omega
set_option maxHeartbeats 1000000 in
theorem fileSize_any (b o m c : Nat) (S : Nat → Sr) (w : World) (h : Sgs w b o S m) (hm : m ≤ 8) (hc : m ≤ c ∧ c ≤ 9223372036854775807) (hn : ∀ i, i < m → (S i).n ≤ 1073741824 ∧ (S i).n ≤ (S i).c ∧ (S i).c ≤ 9223372036854775807) :
  Calls Tryz.prog 37 #[.slice (some ⟨b, o, .none⟩) m c] w fun e w' => e = .returned (.int .u64 (64 + 56 * m + sumN S m)) ∧ Below w.heap.size w w' := by
 have c20 := fun w' => begin_any (some ⟨b, o, .none⟩) m c w' (by omega) hc
 have HG : Hid (Sgs w b o S m) := h
 clear h
 go_enter Tryz.func37, Tryz.ntmps37
 go_wp2_with (first | (go_at_call 82; refine (c20 _).mono ?_; rintro e w1 ⟨rfl, hw1⟩; rw [hw1]; clear hw1 w1) | fail)
 go_loopw [3, 10] (fun a k wr => ∃ i : Nat, i ≤ m ∧ k = .int .i64 i ∧ a = .int .u64 (64 + 56 * m + sumN S i) ∧ Hid (Below w.heap.size w wr)) (fun _ k _ => (m - intOf k).toNat)
 case atStart => exact ⟨0, by omega, rfl, by simp [sumN], Below.refl _ _⟩
 case round =>
  obtain ⟨i, hi, rfl, rfl, HS⟩ := hrel
  by_cases hlt : i < m
  ·have g0 : (i : Int) < m := by omega
   have hg := HG.out.below HS.out
   have r0 := hg.c0 i hlt
   have r1 := hg.c1 i hlt
   have r2 := hg.c2 i hlt
   have r3 := hg.c3 i hlt
   clear hg
   have hb := hn i hlt
   have hs := sum_le S m hn i hi
   have hs2 : sumN S (i + 1) = sumN S i + (S i).n := rfl
   have HN : Hid (Below w.heap.size w (wr.alloc (.cells #[.int .u64 (S i).va, .int .u32 (S i).fl, .slice (S i).q (S i).n (S i).c, .int .u64 (S i).mem] 38))) := HS.out.alloc HS.out.size _
   go_wp2_with fail
   exact ⟨⟨i + 1, by omega, by simp, by rw [hs2]; congr 1; push_cast; omega, HN⟩, by simp [intOf]; omega⟩
  ·have he : i = m := by omega
   have hn9 : ¬ ((i : Int) < m) := by omega
   subst he
   go_wp2_with fail
   go_ret
   exact ⟨rfl, HS.out⟩
end Go.Proofs.YtabnipbdbnmmpaaGreatDoor
namespace Go.Proofs.YtabnipbdbnmmpaaGreatDoor
open Go.RowKit
structure Prs (w : World) (X : Nat) (sv : Value) (E : List (Sg × Value)) (B : Nat → Int) : Prop where
 own : w.ownsRow X 38 4 sv E.length (flatE E)
 dat : ∀ x ∈ E, w.ownsRow X 5 1 x.2 x.1.sz (by8 (byt B x.1))
 va : ∀ x ∈ E, 0 ≤ x.1.va ∧ x.1.va < 18446744073709551616
 fl : ∀ x ∈ E, 0 ≤ x.1.fl ∧ x.1.fl < 4294967296
 mem : ∀ x ∈ E, 0 ≤ x.1.mem ∧ x.1.mem < 18446744073709551616
 sz : ∀ x ∈ E, x.1.sz ≤ 400000
theorem Prs.below {w w' : World} {X : Nat} {sv : Value} {E : List (Sg × Value)} {B : Nat → Int} (h : Prs w X sv E B) (b : Below w.heap.size w w') : Prs w' X sv E B :=
 ⟨owns_below h.own b, fun x hx => owns_below (h.dat x hx) b, h.va, h.fl, h.mem, h.sz⟩
theorem flatE_take : ∀ (E : List (Sg × Value)) (k : Nat), (flatE E).take (k * 4) = flatE (E.take k)
 | [], k => by simp [flatE]
 | x :: E, 0 => by simp [flatE]
 | x :: E, k + 1 => by
  rw [List.take_succ_cons, flatE, flatE, ← flatE_take E k, show (k + 1) * 4 = k * 4 + 1 + 1 + 1 + 1 by omega]
  rfl
theorem own_prefix {w : World} {X e s n c : Nat} {q : Option Addr} {xs : List Value} (h : w.ownsRow X e s (.slice q n c) n xs) (k : Nat) (hk : k ≤ n) (hn : 0 < n) : w.ownsRow X e s (.slice q k c) k (xs.take (k * s)) := by
 have hl := h.1
 refine ⟨?_, ?_⟩
 ·rw [List.length_take, hl]
  exact Nat.min_eq_left (Nat.mul_le_mul_right _ hk)
 ·rcases h.2 with ⟨_, h0⟩ | ⟨g, cap, cur, hv, h1, h2, h3, h4, h5, h6⟩
  ·omega
  ·injection hv with e1 e2 e3
   subst e1 e3
   refine .inr ⟨g, _, cur, rfl, h1, h2, by omega, h4, h5, ?_⟩
   rw [← h6, List.take_take, Nat.min_eq_left (Nat.mul_le_mul_right _ hk)]
theorem Prs.pre {w : World} {X c : Nat} {q : Option Addr} {E : List (Sg × Value)} {B : Nat → Int} (h : Prs w X (.slice q E.length c) E B) (hn : 0 < E.length) (k : Nat) (hk : k ≤ E.length) (hg : ∀ x ∈ E.take k, Gd x.1) : Segs w X (.slice q k c) (E.take k) B := by
 have hl : (E.take k).length = k := by rw [List.length_take]; omega
 refine ⟨?_, fun x hx => h.dat x (List.mem_of_mem_take hx), hg⟩
 rw [hl, ← flatE_take]
 exact own_prefix h.own k hk hn
def okS (s : Sg) : Bool := ok1 s.va s.fl s.sz s.mem
def Gk (S : List Sg) (k : Nat) : Prop := ∀ i s, i < k → S[i]? = some s → okS s = true ∧ ris (S.take i) s.va = true
def Good (en : Int) (S : List Sg) : Prop := 0 < S.length ∧ S.length ≤ 8 ∧ Gk S S.length ∧ hasE S en = true
theorem Gk.gd {w : World} {X : Nat} {sv : Value} {E : List (Sg × Value)} {B : Nat → Int} (h : Prs w X sv E B) {k : Nat} (hk : k ≤ E.length) (hg : Gk (E.map (·.1)) k) : ∀ x ∈ E.take k, Gd x.1 := by
 intro x hx
 obtain ⟨j, hj, hje⟩ := List.getElem_of_mem hx
 have hj' : j < k := by rw [List.length_take] at hj; omega
 have hm : x ∈ E := List.mem_of_mem_take hx
 have hx2 : E[j]? = some x := by
  rw [← hje, List.getElem_take, List.getElem?_eq_getElem]
 have := (hg j x.1 hj' (by rw [List.getElem?_map, hx2]; rfl)).1
 exact ok1_gd this (h.va x hm).1 (by have := h.sz x hm; omega)
theorem Prs.cells {w : World} {X c : Nat} {q : Option Addr} {E : List (Sg × Value)} {B : Nat → Int} (h : Prs w X (.slice q E.length c) E B) {i : Nat} {x : Sg × Value} (hx : E[i]? = some x) : ∃ g dq dc, q = some ⟨g, 0, .none⟩ ∧ x.2 = .slice dq x.1.sz dc ∧ x.1.sz ≤ dc ∧ dc ≤ 9223372036854775807 ∧ w.cell? ⟨g, i * 4, .none⟩ = some (.int .u64 x.1.va) ∧ w.cell? ⟨g, i * 4 + 1, .none⟩ = some (.int .u32 x.1.fl) ∧ w.cell? ⟨g, i * 4 + 2, .none⟩ = some (.slice dq x.1.sz dc) ∧ w.cell? ⟨g, i * 4 + 3, .none⟩ = some (.int .u64 x.1.mem) := by
 have hlt : i < E.length := (List.getElem?_eq_some_iff.1 hx).1
 obtain ⟨f0, f1, f2, f3⟩ := flatE_get E _ x hx
 obtain ⟨g, rfl, a0⟩ := own_cell h.own f0 (by omega) (by omega)
 obtain ⟨g1, e1, a1⟩ := own_cell h.own f1 (by omega) (by omega)
 obtain ⟨g2, e2, a2⟩ := own_cell h.own f2 (by omega) (by omega)
 obtain ⟨g3, e3, a3⟩ := own_cell h.own f3 (by omega) (by omega)
 simp only [Option.some.injEq, Addr.mk.injEq, and_true] at e1 e2 e3
 subst e1 e2 e3
 obtain ⟨dq, dc, hd, h1, h2, _⟩ := own_form (h.dat x (List.mem_of_getElem? hx))
 rw [hd] at a2
 exact ⟨g, dq, dc, rfl, hd, h1, h2, a0, a1, a2, a3⟩
end Go.Proofs.YtabnipbdbnmmpaaGreatDoor
namespace Go.Proofs.YtabnipbdbnmmpaaGreatDoor
open Go.RowKit
theorem Gk.succ {S : List Sg} {i : Nat} {s : Sg} (h : Gk S i) (hs : S[i]? = some s) (h1 : okS s = true) (h2 : ris (S.take i) s.va = true) : Gk S (i + 1) := by
 intro j t hj ht
 by_cases e : j = i
 ·subst e
  rw [hs] at ht
  injection ht with ht
  subst ht
  exact ⟨h1, h2⟩
 ·exact h j t (by omega) ht
theorem not_good1 {S : List Sg} {en : Int} {i : Nat} {s : Sg} (hs : S[i]? = some s) (h1 : okS s = false) : ¬ Good en S := fun h => by
 have hlt := (List.getElem?_eq_some_iff.1 hs).1
 have := (h.2.2.1 i s hlt hs).1
 rw [h1] at this
 cases this
theorem not_good2 {S : List Sg} {en : Int} {i : Nat} {s : Sg} (hs : S[i]? = some s) (h1 : ris (S.take i) s.va = false) : ¬ Good en S := fun h => by
 have hlt := (List.getElem?_eq_some_iff.1 hs).1
 have := (h.2.2.1 i s hlt hs).2
 rw [h1] at this
 cases this
set_option maxHeartbeats 4000000 in
set_option maxRecDepth 100000 in
theorem check_any {w : World} {X : Nat} {sv : Value} {E : List (Sg × Value)} {B : Nat → Int} (h : Prs w X sv E B) (hl : E.length ≤ 1000) (en : Int) (he : 0 ≤ en ∧ en < 18446744073709551616) :
  Calls Tryz.prog 36 #[.agg #[.int .u64 en, sv]] w fun e w' => Below w.heap.size w w' ∧ ((Good en (E.map (·.1)) ∧ e = .returned .nilIface) ∨ (¬ Good en (E.map (·.1)) ∧ ∃ p, e = .returned (.iface 86 (.pointer p)))) := by
 obtain ⟨q, c, rfl, hc1, hc2, hq⟩ := own_form h.own
 have HP : Hid (Prs w X (.slice q E.length c) E B) := h
 have HB : Hid (Below w.heap.size w (w.alloc (.cells #[.int .u64 en, .slice q E.length c] 41))) := (Below.refl _ _).alloc (Nat.le_refl _) _
 have q0 : (w.alloc (.cells #[.int .u64 en, .slice q E.length c] 41)).cell? ⟨w.heap.size, 0, .none⟩ = some (.int .u64 en) := World.cell?_alloc_at _ _ _ _ rfl
 have q1 : (w.alloc (.cells #[.int .u64 en, .slice q E.length c] 41)).cell? ⟨w.heap.size, 1, .none⟩ = some (.slice q E.length c) := World.cell?_alloc_at _ _ _ _ rfl
 have hE : (E.map (·.1)).length = E.length := List.length_map ..
 clear h
 by_cases h0 : E.length = 0
 ·rw [h0] at HB ⊢
  go_enter Tryz.func36, Tryz.ntmps36
  go_wp2_with (go_at_call 38; refine (refusal_any _ _ _).mono ?_; rintro _ _ ⟨rfl, rfl⟩)
  go_ret
  exact ⟨HB.out.alloc HB.out.size _, .inr ⟨fun hg => by have := hg.1; omega, _, rfl⟩⟩
 ·by_cases h8 : 8 < E.length
  ·have h8i : (8 : Int) < E.length := by omega
   go_enter Tryz.func36, Tryz.ntmps36
   go_wp2_with (go_at_call 38; refine (refusal_any _ _ _).mono ?_; rintro _ _ ⟨rfl, rfl⟩)
   go_ret
   exact ⟨HB.out.alloc HB.out.size _, .inr ⟨fun hg => by have := hg.2.1; omega, _, rfl⟩⟩
  ·have h8i : ¬ (8 : Int) < E.length := by omega
   have h0i : ¬ (E.length : Int) = 0 := by omega
   have HQ0 : Hid _ := q0
   have HQ1 : Hid _ := q1
   go_enter Tryz.func36, Tryz.ntmps36
   go_upto_region 3 with fail
   clear q0
   generalize (w.alloc (.cells #[.int .u64 en, .slice q E.length c] 41)) = W1 at *
   go_wp2_with fail
   go_loopw [20] (fun a wr => ∃ i : Nat, i ≤ E.length ∧ a = .int .i64 i ∧ Hid (Gk (E.map (·.1)) i ∧ Below W1.heap.size W1 wr)) (fun a _ => (E.length - intOf a).toNat)
   case atStart => exact ⟨0, by omega, rfl, fun j x hj => by omega, Below.refl _ _⟩
   case round =>
    obtain ⟨i, hi, rfl, HR⟩ := hrel
    by_cases hlt : i < E.length
    ·have g0 : (i : Int) < E.length := by omega
     obtain ⟨x, hx⟩ : ∃ x, E[i]? = some x := ⟨E[i], List.getElem?_eq_getElem hlt⟩
     have hxm : (E.map (·.1))[i]? = some x.1 := by rw [List.getElem?_map, hx]; rfl
     have HX : Hid ((E.map (·.1))[i]? = some x.1) := hxm
     have HP1 : Hid (Prs wr X (.slice q E.length c) E B) := HP.out.below (HB.out.trans (HR.out.2.mono HB.out.size))
     obtain ⟨g, dq, dc, rfl, hd, hd1, hd2, a0, a1, a2, a3⟩ := HP1.out.cells hx
     have hm := List.mem_of_getElem? hx
     have hv := HP1.out.va x hm
     have hf := HP1.out.fl x hm
     have hmm := HP1.out.mem x hm
     have hs := HP1.out.sz x hm
     have d1 : wr.cell? ⟨w.heap.size, 1, .none⟩ = some (.slice (some ⟨g, 0, .none⟩) E.length c) := (HR.out.2.cell (lt_of_cell HQ1.out)).trans HQ1.out
     have HB2 : Hid (Below wr.heap.size wr (wr.alloc (.cells #[.int .u64 x.1.va, .int .u32 x.1.fl, .slice dq x.1.sz dc, .int .u64 x.1.mem] 38))) := (Below.refl _ _).alloc (Nat.le_refl _) _
     have k0 : (wr.alloc (.cells #[.int .u64 x.1.va, .int .u32 x.1.fl, .slice dq x.1.sz dc, .int .u64 x.1.mem] 38)).cell? ⟨wr.heap.size, 0, .none⟩ = some (.int .u64 x.1.va) := World.cell?_alloc_at _ _ _ _ rfl
     have k1 : (wr.alloc (.cells #[.int .u64 x.1.va, .int .u32 x.1.fl, .slice dq x.1.sz dc, .int .u64 x.1.mem] 38)).cell? ⟨wr.heap.size, 1, .none⟩ = some (.int .u32 x.1.fl) := World.cell?_alloc_at _ _ _ _ rfl
     have k2 : (wr.alloc (.cells #[.int .u64 x.1.va, .int .u32 x.1.fl, .slice dq x.1.sz dc, .int .u64 x.1.mem] 38)).cell? ⟨wr.heap.size, 2, .none⟩ = some (.slice dq x.1.sz dc) := World.cell?_alloc_at _ _ _ _ rfl
     have k3 : (wr.alloc (.cells #[.int .u64 x.1.va, .int .u32 x.1.fl, .slice dq x.1.sz dc, .int .u64 x.1.mem] 38)).cell? ⟨wr.heap.size, 3, .none⟩ = some (.int .u64 x.1.mem) := World.cell?_alloc_at _ _ _ _ rfl
     have d2 : (wr.alloc (.cells #[.int .u64 x.1.va, .int .u32 x.1.fl, .slice dq x.1.sz dc, .int .u64 x.1.mem] 38)).cell? ⟨w.heap.size, 1, .none⟩ = some (.slice (some ⟨g, 0, .none⟩) E.length c) := (HB2.out.cell (lt_of_cell d1)).trans d1
     have HP2 : Hid (Prs (wr.alloc (.cells #[.int .u64 x.1.va, .int .u32 x.1.fl, .slice dq x.1.sz dc, .int .u64 x.1.mem] 38)) X (.slice (some ⟨g, 0, .none⟩) E.length c) E B) := HP1.out.below HB2.out
     clear d1
     go_upto_region 6 with fail
     generalize hW2 : (wr.alloc (.cells #[.int .u64 x.1.va, .int .u32 x.1.fl, .slice dq x.1.sz dc, .int .u64 x.1.mem] 38)) = W2 at *
     clear hW2 a0 a1 a2 a3
     have c17 := mayBe_any x.1.va x.1.fl x.1.sz x.1.mem (.slice dq x.1.sz dc) W2 hv hf ⟨by omega, by omega⟩ hmm ⟨_, _, _, rfl⟩
     cases hok : ok1 x.1.va x.1.fl x.1.sz x.1.mem with
     | false =>
      rw [hok] at c17
      have HK : Hid (ok1 x.1.va x.1.fl x.1.sz x.1.mem = false) := hok
      clear hok
      go_wp2_with (first | (go_at_call 79; refine c17.mono ?_; rintro _ W3 ⟨rfl, hW3⟩; have HB3 : Hid (Below W2.heap.size W2 W3) := hW3; clear hW3) | (go_at_call 38; refine (refusal_any _ _ _).mono ?_; rintro _ _ ⟨rfl, rfl⟩))
      go_ret
      have hb4 := HB.out.trans ((HR.out.2.trans ((HB2.out.trans (HB3.out.mono HB2.out.size)).mono HR.out.2.size)).mono HB.out.size)
      exact ⟨hb4.alloc hb4.size _, .inr ⟨not_good1 HX.out HK.out, _, rfl⟩⟩
     | true =>
      rw [hok] at c17
      have HK : Hid (ok1 x.1.va x.1.fl x.1.sz x.1.mem = true) := hok
      clear hok
      go_upto_region 8 with (go_at_call 79; refine c17.mono ?_; rintro _ W3 ⟨rfl, hW3⟩; have HB3 : Hid (Below W2.heap.size W2 W3) := hW3; clear hW3)
      have e0 := (HB3.out.cell (lt_of_cell k0)).trans k0
      have e1 := (HB3.out.cell (lt_of_cell k1)).trans k1
      have e2 := (HB3.out.cell (lt_of_cell k2)).trans k2
      have e3 := (HB3.out.cell (lt_of_cell k3)).trans k3
      have e4 := (HB3.out.cell (lt_of_cell d2)).trans d2
      have HP3 : Hid (Prs W3 X (.slice (some ⟨g, 0, .none⟩) E.length c) E B) := HP2.out.below HB3.out
      clear k0 k1 k2 k3 d2 c17
      have hSg := HP3.out.pre (by omega) i hi (HR.out.1.gd HP3.out hi)
      have bd : Below W3.heap.size W3 W3.drew := (Below.refl _ _).drew
      have c18 := rises_any (hSg.below bd) (by rw [List.length_take]; omega) x.1.va x.1.fl x.1.mem dq x.1.sz dc
      have em : (E.take i).map (·.1) = (E.map (·.1)).take i := List.map_take
      rw [em] at c18
      clear hSg em
      have hid : 0 ≤ (i : Int) := by omega
      have hic : (i : Int) ≤ c := by omega
      have kS : (W3.drew.cell? ⟨w.heap.size, 1, .none⟩ = some (.slice (some ⟨g, 0, .none⟩) E.length c) ∧ W3.drew.cell? ⟨wr.heap.size, 0, .none⟩ = some (.int .u64 x.1.va) ∧ W3.drew.cell? ⟨wr.heap.size, 1, .none⟩ = some (.int .u32 x.1.fl) ∧ W3.drew.cell? ⟨wr.heap.size, 2, .none⟩ = some (.slice dq x.1.sz dc) ∧ W3.drew.cell? ⟨wr.heap.size, 3, .none⟩ = some (.int .u64 x.1.mem)) := ⟨(bd.cell (lt_of_cell e4)).trans e4, (bd.cell (lt_of_cell e0)).trans e0, (bd.cell (lt_of_cell e1)).trans e1, (bd.cell (lt_of_cell e2)).trans e2, (bd.cell (lt_of_cell e3)).trans e3⟩
      have HBd : Hid (Below W3.heap.size W3 W3.drew) := bd
      clear bd e0 e1 e2 e3 e4
      have HRI : Hid (∃ b, ris ((E.map (·.1)).take i) x.1.va = b) := ⟨_, rfl⟩
      generalize hri : ris ((E.map (·.1)).take i) x.1.va = rb at *
      have HI : Hid (ris ((E.map (·.1)).take i) x.1.va = rb) := hri
      clear hri HRI
      refine wp_region_held_drew (S := fun U2 => (U2.cell? ⟨w.heap.size, 1, .none⟩ = some (.slice (some ⟨g, 0, .none⟩) E.length c) ∧ U2.cell? ⟨wr.heap.size, 0, .none⟩ = some (.int .u64 x.1.va) ∧ U2.cell? ⟨wr.heap.size, 1, .none⟩ = some (.int .u32 x.1.fl) ∧ U2.cell? ⟨wr.heap.size, 2, .none⟩ = some (.slice dq x.1.sz dc) ∧ U2.cell? ⟨wr.heap.size, 3, .none⟩ = some (.int .u64 x.1.mem))) (by kernel_rfl) kS (fun hHeld => ?_)
      refine wpAnyH_take (i := 0) (v := (.pointer (some ⟨w.heap.size, 1, .none⟩))) rfl (by kernel_rfl) (by kernel_rfl) (by kernel_rfl) (fun _ _ _ h => h) (Or.inl ⟨by rfl, fun ww hSw => by (try dsimp only at hSw); go_simp⟩) (by assumption) ?_
      simp only [Act.put, List.setIfInBounds_toArray, List.set_cons_zero, List.set_cons_succ, List.getElem_toArray, List.getElem_cons_succ, List.getElem_cons_zero]
      refine wpAnyH_take (i := 1) (v := (.slice (some ⟨g, 0, .none⟩) E.length c)) rfl (by kernel_rfl) (by kernel_rfl) (by kernel_rfl) (fun _ _ _ h => h) (Or.inl ⟨by rfl, fun ww hSw => by (try dsimp only at hSw); go_simp⟩) (by assumption) ?_
      simp only [Act.put, List.setIfInBounds_toArray, List.set_cons_zero, List.set_cons_succ, List.getElem_toArray, List.getElem_cons_succ, List.getElem_cons_zero]
      refine wpAnyH_take (i := 2) (v := (.int .i64 i)) rfl (by kernel_rfl) (by kernel_rfl) (by kernel_rfl) (fun _ _ _ h => h) (Or.inl ⟨by rfl, fun ww hSw => by (try dsimp only at hSw); go_simp⟩) (by assumption) ?_
      simp only [Act.put, List.setIfInBounds_toArray, List.set_cons_zero, List.set_cons_succ, List.getElem_toArray, List.getElem_cons_succ, List.getElem_cons_zero]
      refine wpAnyH_take (i := 3) (v := (.slice (some ⟨g, 0, .none⟩) i c)) rfl (by kernel_rfl) (by kernel_rfl) (by kernel_rfl) (fun _ _ _ h => h) (Or.inl ⟨by rfl, fun ww hSw => by (try dsimp only at hSw); go_simp⟩) (by assumption) ?_
      simp only [Act.put, List.setIfInBounds_toArray, List.set_cons_zero, List.set_cons_succ, List.getElem_toArray, List.getElem_cons_succ, List.getElem_cons_zero]
      refine wpAnyH_take (i := 4) (v := (.agg #[.int .u64 x.1.va, .int .u32 x.1.fl, .slice dq x.1.sz dc, .int .u64 x.1.mem])) rfl (by kernel_rfl) (by kernel_rfl) (by kernel_rfl) (fun _ _ _ h => h) (Or.inl ⟨by rfl, fun ww hSw => by (try dsimp only at hSw); go_simp⟩) (by assumption) ?_
      simp only [Act.put, List.setIfInBounds_toArray, List.set_cons_zero, List.set_cons_succ, List.getElem_toArray, List.getElem_cons_succ, List.getElem_cons_zero]
      refine wpAnyH_ready (rs := [5]) (by kernel_rfl) (by simp) ?_
      refine AllReadyH.cons rfl (fun K hK => ?_) AllReadyH.nil
      go_simp
      go_at_call 80
      refine c18.mono ?_
      rintro _ W4 ⟨rfl, hW4⟩
      have kS4 : (W4.cell? ⟨w.heap.size, 1, .none⟩ = some (.slice (some ⟨g, 0, .none⟩) E.length c) ∧ W4.cell? ⟨wr.heap.size, 0, .none⟩ = some (.int .u64 x.1.va) ∧ W4.cell? ⟨wr.heap.size, 1, .none⟩ = some (.int .u32 x.1.fl) ∧ W4.cell? ⟨wr.heap.size, 2, .none⟩ = some (.slice dq x.1.sz dc) ∧ W4.cell? ⟨wr.heap.size, 3, .none⟩ = some (.int .u64 x.1.mem)) := ⟨(hW4.cell (lt_of_cell kS.1)).trans kS.1, (hW4.cell (lt_of_cell kS.2.1)).trans kS.2.1, (hW4.cell (lt_of_cell kS.2.2.1)).trans kS.2.2.1, (hW4.cell (lt_of_cell kS.2.2.2.1)).trans kS.2.2.2.1, (hW4.cell (lt_of_cell kS.2.2.2.2)).trans kS.2.2.2.2⟩
      have HB4 : Hid (Below W1.heap.size W1 W4) := HR.out.2.trans ((HB2.out.trans ((HB3.out.trans ((HBd.out.trans (hW4.mono HBd.out.size)).mono HB3.out.size)).mono HB2.out.size)).mono HR.out.2.size)
      refine hK.out _ _ kS4 (fun hHeld => ?_)
      clear hK K
      try simp only [Act.put, List.setIfInBounds_toArray, List.set_cons_zero, List.set_cons_succ, List.getElem_toArray, List.getElem_cons_succ, List.getElem_cons_zero]
      clear hW4 kS c18
      refine wpAnyH_take (i := 6) (v := (.bool (!rb))) rfl (by kernel_rfl) (by kernel_rfl) (by kernel_rfl) (fun _ _ _ h => h) (Or.inl ⟨by rfl, fun ww hSw => by (try dsimp only at hSw); go_simp⟩) (by assumption) ?_
      simp only [Act.put, List.setIfInBounds_toArray, List.set_cons_zero, List.set_cons_succ, List.getElem_toArray, List.getElem_cons_succ, List.getElem_cons_zero]
      refine wpAnyH_done (by kernel_rfl) ?_ _
      clear kS4
      cases rb with
      | false =>
       go_wp2_with (go_at_call 38; refine (refusal_any _ _ _).mono ?_; rintro _ _ ⟨rfl, rfl⟩)
       go_ret
       have hb5 := HB.out.trans (HB4.out.mono HB.out.size)
       exact ⟨hb5.alloc hb5.size _, .inr ⟨not_good2 HX.out HI.out, _, rfl⟩⟩
      | true =>
       go_wp2_with fail
       exact ⟨⟨i + 1, by omega, by simp, HR.out.1.succ HX.out HK.out HI.out, HB4.out⟩, by simp [intOf]; omega⟩
    ·have he' : i = E.length := by omega
     have hn : ¬ ((i : Int) < E.length) := by omega
     subst he'
     have HPe : Hid (Prs wr X (.slice q E.length c) E B) := HP.out.below (HB.out.trans (HR.out.2.mono HB.out.size))
     have hSe := HPe.out.pre (by omega) E.length (Nat.le_refl _) (HR.out.1.gd HPe.out (Nat.le_refl _))
     rw [List.take_length] at hSe
     have c19 := hasEntry_any hSe (by omega) en he
     have d0 : wr.cell? ⟨w.heap.size, 0, .none⟩ = some (.int .u64 en) := (HR.out.2.cell (lt_of_cell HQ0.out)).trans HQ0.out
     have d1 : wr.cell? ⟨w.heap.size, 1, .none⟩ = some (.slice q E.length c) := (HR.out.2.cell (lt_of_cell HQ1.out)).trans HQ1.out
     clear hSe
     cases hh : hasE (E.map (·.1)) en with
     | false =>
      rw [hh] at c19
      have HH : Hid (hasE (E.map (·.1)) en = false) := hh
      clear hh
      go_wp2_with (first | (go_at_call 81; refine c19.mono ?_; rintro _ W4 ⟨rfl, hW4⟩; have HB4 : Hid (Below wr.heap.size wr W4) := hW4; clear hW4) | (go_at_call 38; refine (refusal_any _ _ _).mono ?_; rintro _ _ ⟨rfl, rfl⟩))
      go_ret
      have hb5 := HB.out.trans ((HR.out.2.trans (HB4.out.mono HR.out.2.size)).mono HB.out.size)
      exact ⟨hb5.alloc hb5.size _, .inr ⟨fun hg => Bool.noConfusion (HH.out.symm.trans hg.2.2.2), _, rfl⟩⟩
     | true =>
      rw [hh] at c19
      have HH : Hid (hasE (E.map (·.1)) en = true) := hh
      clear hh
      go_wp2_with (first | (go_at_call 81; refine c19.mono ?_; rintro _ W4 ⟨rfl, hW4⟩; have HB4 : Hid (Below wr.heap.size wr W4) := hW4; clear hW4) | fail)
      go_ret
      have hb5 := HB.out.trans ((HR.out.2.trans (HB4.out.mono HR.out.2.size)).mono HB.out.size)
      have hgk : Gk (E.map (·.1)) (E.map (·.1)).length := by rw [hE]; exact HR.out.1
      exact ⟨hb5, .inl ⟨⟨by omega, by omega, hgk, HH.out⟩, rfl⟩⟩
end Go.Proofs.YtabnipbdbnmmpaaGreatDoor
