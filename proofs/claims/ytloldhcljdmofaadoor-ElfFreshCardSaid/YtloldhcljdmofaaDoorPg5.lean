import Derived.Test.YtloldhcljdmofaaDoorPg4
namespace Go.Proofs.YtloldhcljdmofaaDoor
open Go.RowKit
set_option linter.unusedVariables false
set_option linter.unusedSimpArgs false
def srOf (x : Sg × Value) : Sr := match x.2 with | .slice q _ c => ⟨x.1.va, x.1.fl, q, x.1.sz, c, x.1.mem⟩ | _ => ⟨0, 0, none, 0, 0, 0⟩
def srs (E : List (Sg × Value)) (i : Nat) : Sr := match E[i]? with | some x => srOf x | none => ⟨0, 0, none, 0, 0, 0⟩
theorem srs_some {E : List (Sg × Value)} {i : Nat} {x : Sg × Value} (h : E[i]? = some x) : srs E i = srOf x := by unfold srs; rw [h]
theorem srs_n {E : List (Sg × Value)} (hd : ∀ x ∈ E, ∃ q n c, x.2 = .slice q n c) {i : Nat} {x : Sg × Value} (h : E[i]? = some x) : (srs E i).n = x.1.sz := by
  obtain ⟨q, n, c, e⟩ := hd x (List.mem_of_getElem? h)
  rw [srs_some h, srOf, e]
theorem sum_szs {E : List (Sg × Value)} (hd : ∀ x ∈ E, ∃ q n c, x.2 = .slice q n c) : ∀ i, i ≤ E.length → sumN (srs E) i = szs (E.map (·.1)) i
  | 0, _ => by cases E <;> rfl
  | i + 1, h => by
    obtain ⟨x, hx⟩ : ∃ x, E[i]? = some x := ⟨E[i], List.getElem?_eq_getElem (by omega)⟩
    rw [szs_succ (E.map (·.1)) i x.1 (by rw [List.getElem?_map, hx]; rfl), sumN, sum_szs hd i (by omega), srs_n hd hx]
set_option maxHeartbeats 2000000 in
theorem size_any {w : World} {X c : Nat} {q : Option Addr} {E : List (Sg × Value)} {B : Nat → Int} (h : Prs w X (.slice q E.length c) E B) (h0 : 0 < E.length) (h8 : E.length ≤ 8) (hc : E.length ≤ c ∧ c ≤ 9223372036854775807) :
    Calls Tryd.prog 21 #[.slice q E.length c] w fun e w' => e = .returned (.int .u64 (64 + 56 * E.length + szs (E.map (·.1)) E.length)) ∧ Below w.heap.size w w' := by
  have hd : ∀ x ∈ E, ∃ q n c, x.2 = .slice q n c := fun x hx => by
    obtain ⟨dq, dc, e, _⟩ := own_form (h.dat x hx)
    exact ⟨_, _, _, e⟩
  obtain ⟨x0, hx0⟩ : ∃ x, E[0]? = some x := ⟨E[0], List.getElem?_eq_getElem h0⟩
  obtain ⟨g, _, _, rfl, _⟩ := h.cells hx0
  have hg : Sgs w g 0 (srs E) E.length := by
    have key : ∀ i, i < E.length → ∃ x dq dc, E[i]? = some x ∧ x.2 = .slice dq x.1.sz dc ∧ srs E i = ⟨x.1.va, x.1.fl, dq, x.1.sz, dc, x.1.mem⟩ ∧ w.cell? ⟨g, i * 4, .none⟩ = some (.int .u64 x.1.va) ∧ w.cell? ⟨g, i * 4 + 1, .none⟩ = some (.int .u32 x.1.fl) ∧ w.cell? ⟨g, i * 4 + 2, .none⟩ = some (.slice dq x.1.sz dc) ∧ w.cell? ⟨g, i * 4 + 3, .none⟩ = some (.int .u64 x.1.mem) := by
      intro i hi
      obtain ⟨x, hx⟩ : ∃ x, E[i]? = some x := ⟨E[i], List.getElem?_eq_getElem hi⟩
      obtain ⟨g', dq, dc, eg, hd, hd1, hd2, a0, a1, a2, a3⟩ := h.cells hx
      injection eg with eg
      injection eg with eg
      subst eg
      exact ⟨x, dq, dc, hx, hd, by rw [srs_some hx, srOf, hd], a0, a1, a2, a3⟩
    refine ⟨fun i hi => ?_, fun i hi => ?_, fun i hi => ?_, fun i hi => ?_⟩ <;> obtain ⟨x, dq, dc, hx, hd, es, a0, a1, a2, a3⟩ := key i hi <;> rw [es, Nat.zero_add] <;> assumption
  have hn : ∀ i, i < E.length → (srs E i).n ≤ 1073741824 ∧ (srs E i).n ≤ (srs E i).c ∧ (srs E i).c ≤ 9223372036854775807 := by
    intro i hi
    obtain ⟨x, hx⟩ : ∃ x, E[i]? = some x := ⟨E[i], List.getElem?_eq_getElem hi⟩
    obtain ⟨g', dq, dc, eg, hd, hd1, hd2, _⟩ := h.cells hx
    rw [srs_some hx, srOf, hd]
    have := h.sz x (List.mem_of_getElem? hx)
    exact ⟨by show x.1.sz ≤ _; omega, hd1, hd2⟩
  have c11 := fileSize_any g 0 E.length c (srs E) w hg h8 hc hn
  rw [sum_szs hd E.length (Nat.le_refl _)] at c11
  exact c11
theorem szs_bd : ∀ (S : List Sg) (i : Nat) (hs : ∀ s ∈ S, s.sz ≤ 400000), szs S i ≤ i * 400000
  | S, 0, _ => by cases S <;> simp [szs]
  | [], i + 1, _ => by simp [szs]
  | s :: S, i + 1, h => by
    have h1 := szs_bd S i (fun t ht => h t (List.mem_cons_of_mem _ ht))
    have h2 := h s List.mem_cons_self
    simp only [szs]
    omega
/-- What elf.Write comes to: refused, or the file. -/
def WrP (w : World) (E : List (Sg × Value)) (B : Nat → Int) (en : Int) (e : Ending) (w' : World) : Prop :=
  Below w.heap.size w w' ∧ ((Good en (E.map (·.1)) ∧ 64 + 56 * E.length + szs (E.map (·.1)) E.length ≤ 262144 ∧ ∃ v, e = .returned (.tuple #[v, .nilIface]) ∧ w'.ownsRow w.heap.size 5 1 v (64 + 56 * E.length + szs (E.map (·.1)) E.length) (lst (fil en (E.map (·.1)) B) (64 + 56 * E.length + szs (E.map (·.1)) E.length))) ∨ (¬ (Good en (E.map (·.1)) ∧ 64 + 56 * E.length + szs (E.map (·.1)) E.length ≤ 262144) ∧ ∃ p, e = .returned (.tuple #[.slice .none 0 0, .iface 59 (.pointer p)])))
set_option maxHeartbeats 4000000 in
set_option maxRecDepth 100000 in
theorem write_any {w : World} {X : Nat} {sv : Value} {E : List (Sg × Value)} {B : Nat → Int} (h : Prs w X sv E B) (hsome : ∀ x ∈ E, ∃ g c, x.2 = .slice (some ⟨g, 0, .none⟩) x.1.sz c) (hl : E.length ≤ 1000) (hP : Plc (E.map (·.1))) (hL : Laid w) (en : Int) (he : 0 ≤ en ∧ en < 18446744073709551616) :
    Calls Tryd.prog 7 #[.agg #[.int .u64 en, sv]] w fun e w' => WrP w E B en e w' := by
  obtain ⟨q, c, rfl, hc1, hc2, hq⟩ := own_form h.own
  have HB : Hid (Below w.heap.size w (w.alloc (.cells #[.int .u64 en, .slice q E.length c] 25))) := (Below.refl _ _).alloc (Nat.le_refl _) _
  have q0 : (w.alloc (.cells #[.int .u64 en, .slice q E.length c] 25)).cell? ⟨w.heap.size, 0, .none⟩ = some (.int .u64 en) := World.cell?_alloc_at _ _ _ _ rfl
  have q1 : (w.alloc (.cells #[.int .u64 en, .slice q E.length c] 25)).cell? ⟨w.heap.size, 1, .none⟩ = some (.slice q E.length c) := World.cell?_alloc_at _ _ _ _ rfl
  have HQ0 : Hid _ := q0
  have HQ1 : Hid _ := q1
  have c10 := check_any (h.below HB.out) hl en he
  have HPl : Hid (Plc (E.map (·.1))) := hP
  have HL : Hid (Laid w) := hL
  have HP : Hid (Prs w X (.slice q E.length c) E B) := h
  clear h hP hL
  go_enter Tryd.func7, Tryd.ntmps7
  go_upto_region 1 with fail
  generalize (w.alloc (.cells #[.int .u64 en, .slice q E.length c] 25)) = W1 at *
  go_upto_region 2 with (go_at_call 20; refine c10.mono ?_; rintro e1 W2 ⟨hb2, hc⟩; rcases hc with ⟨hg, rfl⟩ | ⟨hg, p, rfl⟩)
  · have HB2 : Hid (Below W1.heap.size W1 W2) := hb2
    have HG : Hid (Good en (E.map (·.1))) := hg
    have hE : (E.map (·.1)).length = E.length := List.length_map ..
    have h0 : 0 < E.length := by rw [← hE]; exact hg.1
    have h8 : E.length ≤ 8 := by rw [← hE]; exact hg.2.1
    clear hb2 hg c10 q0 q1
    have HA2 : Hid (Below w.heap.size w W2) := HB.out.trans (HB2.out.mono HB.out.size)
    have HP2 : Hid (Prs W2 X (.slice q E.length c) E B) := HP.out.below HA2.out
    have k0 : W2.cell? ⟨w.heap.size, 0, .none⟩ = some (.int .u64 en) := (HB2.out.cell (lt_of_cell HQ0.out)).trans HQ0.out
    have k1 : W2.cell? ⟨w.heap.size, 1, .none⟩ = some (.slice q E.length c) := (HB2.out.cell (lt_of_cell HQ1.out)).trans HQ1.out
    have c11 := size_any HP2.out h0 h8 ⟨hc1, hc2⟩
    have hzb : szs (E.map (·.1)) E.length ≤ E.length * 400000 := by
      refine szs_bd _ _ fun s hs => ?_
      obtain ⟨x, hx, rfl⟩ := List.mem_map.1 hs
      exact HP.out.sz x hx
    generalize hz : szs (E.map (·.1)) E.length = z at *
    have HZ : Hid (szs (E.map (·.1)) E.length = z) := hz
    clear hz
    go_upto_region 5 with (go_at_call 21; refine c11.mono ?_; rintro _ W3 ⟨rfl, hb3⟩)
    have HB3 : Hid (Below W2.heap.size W2 W3) := hb3
    have HA3 : Hid (Below w.heap.size w W3) := HA2.out.trans (HB3.out.mono HA2.out.size)
    have l0 : W3.cell? ⟨w.heap.size, 0, .none⟩ = some (.int .u64 en) := (hb3.cell (lt_of_cell k0)).trans k0
    have l1 : W3.cell? ⟨w.heap.size, 1, .none⟩ = some (.slice q E.length c) := (hb3.cell (lt_of_cell k1)).trans k1
    clear hb3 k0 k1 c11
    by_cases hbig : 64 + 56 * E.length + z ≤ 262144
    · have hbi : ¬ (262144 : Int) < 64 + 56 * E.length + z := by omega
      have c13 := lay_any (HP.out.below HA3.out) hsome h0 h8 HPl.out (HL.out.below HA3.out) en he (by rw [HZ.out]; omega)
      rw [HZ.out, show ((64 + 56 * E.length + z : Nat) : Int) = 64 + 56 * E.length + z by push_cast; rfl] at c13
      go_wp2_with (first | (go_at_call 23; refine c13.mono ?_; rintro _ W4 ⟨v, rfl, own4, hb4⟩) | fail)
      go_ret2
      refine ⟨HA3.out.trans (hb4.mono HA3.out.size), .inl ⟨HG.out, by rw [HZ.out]; exact hbig, v, rfl, ?_⟩⟩
      rw [HZ.out]
      exact own_mono own4 HA3.out.size
    · have hbi : (262144 : Int) < 64 + 56 * E.length + z := by omega
      go_wp2_with (go_at_call 22; refine (refusal_any _ _ _).mono ?_; rintro _ _ ⟨rfl, rfl⟩)
      go_ret2
      exact ⟨HA3.out.alloc HA3.out.size _, .inr ⟨fun h => by rw [HZ.out] at h; exact hbig h.2, _, rfl⟩⟩
  · have HB2 : Hid (Below W1.heap.size W1 W2) := hb2
    have HG : Hid (¬ Good en (E.map (·.1))) := hg
    clear hb2 hg c10
    go_wp2_with fail
    go_ret2
    exact ⟨HB.out.trans (HB2.out.mono HB.out.size), .inr ⟨fun h => HG.out h.1, _, rfl⟩⟩
end Go.Proofs.YtloldhcljdmofaaDoor
