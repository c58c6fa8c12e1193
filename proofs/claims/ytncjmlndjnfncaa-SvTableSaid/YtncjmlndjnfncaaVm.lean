import Derived.Test.YtncjmlndjnfncaaVl
import Derived.Deep.DeepCutAuto
namespace Go.Proofs.Ytncjmlndjnfncaa
open Go Go.RowKit Go.Shelf Fz
attribute [local go_sem] Oper.semAt_some
set_option linter.unusedVariables false
set_option linter.unusedSimpArgs false
attribute [local irreducible] eM evs
/-- What the law holds: the table with its pages, and their row. -/
structure TIn (w : World) (p b m N r K X : Nat) (v : Value) (l : List Pg) (W : World) : Prop where
  bel : Below w.heap.size w W
  tb : Tb p b m N r K l W
  row : PgR W X v l
  xs : X ≤ W.heap.size
theorem PgR.keep {W W' : World} {X : Nat} {v : Value} {l : List Pg} (h : PgR W X v l) (hb : ∀ k, X ≤ k → k < W.heap.size → W'.heap[k]? = W.heap[k]?) : PgR W' X v l := by
  refine ⟨h.1, ?_⟩
  rcases h.2 with h1 | ⟨g, cap, cur, h1, h2, h3, h4⟩
  · exact .inl h1
  · exact .inr ⟨g, cap, cur, h1, h2, (hb g h2 (Array.getElem?_eq_some_iff.1 h3).1).trans h3, h4⟩
theorem PgR.base {W : World} {X Y : Nat} {v : Value} {l : List Pg} (h : PgR W Y v l) (hx : X ≤ Y) : PgR W X v l := by
  refine ⟨h.1, ?_⟩
  rcases h.2 with h1 | ⟨g, cap, cur, h1, h2, h3⟩
  · exact .inl h1
  · exact .inr ⟨g, cap, cur, h1, Nat.le_trans hx h2, h3⟩
section
variable {w W W' : World} {p b m N r K X : Nat} {v : Value} {l : List Pg}
theorem TIn.below (h : TIn w p b m N r K X v l W) (k : Below W.heap.size W W') : TIn w p b m N r K X v l W' :=
  ⟨h.bel.trans (k.mono h.bel.size), h.tb.below k, h.row.keep (fun j _ hj => k.block j hj), Nat.le_trans h.xs k.size⟩
theorem C3.fra {P : Nat} {x0 x1 x2 : Value} (h : C3 W P x0 x1 x2) (f : Fra p b m W W') (h1 : P ≠ p) (h2 : P ≠ b) (h3 : P ≠ m) : C3 W' P x0 x1 x2 := by
  have hp : P < W.heap.size := lt_of_cell h.c0
  have e := f.block P hp h1 h2 h3
  have ec : ∀ o, W'.cell? ⟨P, o, .none⟩ = W.cell? ⟨P, o, .none⟩ := fun o => by simp only [World.cell?, e]
  have ef : ∀ o, W'.frozen? ⟨P, o, .none⟩ = W.frozen? ⟨P, o, .none⟩ := fun o => by simp only [World.frozen?, e]
  exact ⟨(ec 0).trans h.c0, (ec 1).trans h.c1, (ec 2).trans h.c2, (ef 0).trans h.f0, (ef 1).trans h.f1, (ef 2).trans h.f2⟩
end
theorem Tb.init {p b m K : Nat} {B : Nat → Int} {W : World} (h : Ram W p b m (K + 2) (zer B (K + 1)) (down K)) : Tb p b m (K + 2) (K + 1) K [] W := by
  have hP : PT (K + 2) (down K) (zer B (K + 1)) (fun x => if x = 0 then some (K + 1) else none) (fun _ _ => 0) := PT.init (by omega) (fun h => by have := (down_mem K (K + 1)).1 h; omega)
  have hT := TL.init (K + 1)
  refine ⟨⟨_, _, _, _, h, hP, by simp, hT, ?_⟩, List.Pairwise.nil⟩
  have := hT.nodesF hP
  rw [this, down_len]
  rfl
def lenOf : Value → Nat
  | .slice _ n _ => n
  | _ => 0
theorem no_of {l : List Pg} {va : Int} {n : Nat} (hn : n = l.length) (h : ∀ i, i < n → gV l i ≠ va) : ∀ x ∈ l, x.1 ≠ va := fun x hx e => by
  obtain ⟨i, hi, he⟩ := List.getElem_of_mem hx
  refine h i (by omega) ?_
  unfold gV
  rw [List.getD_eq_getElem?_getD, List.getElem?_eq_getElem hi, Option.getD_some, he]
  exact e
theorem at_of {l : List Pg} {i : Nat} (hi : i < l.length) : ∃ y, y ∈ l ∧ l[i]? = some y ∧ gV l i = y.1 ∧ gA l i = y.2.1 ∧ gP l i = y.2.2 := by
  refine ⟨l[i], List.getElem_mem hi, List.getElem?_eq_getElem hi, ?_, ?_, ?_⟩
  · unfold gV; rw [List.getD_eq_getElem?_getD, List.getElem?_eq_getElem hi, Option.getD_some]
  · unfold gA; rw [List.getD_eq_getElem?_getD, List.getElem?_eq_getElem hi, Option.getD_some]
  · unfold gP; rw [List.getD_eq_getElem?_getD, List.getElem?_eq_getElem hi, Option.getD_some]
theorem erase_mem {l : List Pg} {i : Nat} {y : Pg} (hp : l.Pairwise (fun a b => a.1 ≠ b.1)) (hi : l[i]? = some y) : ∀ z, z ∈ l.eraseIdx i ↔ z ∈ l ∧ z ≠ y := by
  have hlt : i < l.length := (List.getElem?_eq_some_iff.1 hi).1
  have hy : l[i] = y := (List.getElem?_eq_some_iff.1 hi).2
  have e : l = l.take i ++ y :: l.drop (i + 1) := by rw [← hy, List.getElem_cons_drop, List.take_append_drop]
  have e2 : l.eraseIdx i = l.take i ++ l.drop (i + 1) := List.eraseIdx_eq_take_drop_succ l i
  have hp2 := hp
  rw [e, List.pairwise_append, List.pairwise_cons] at hp2
  intro z
  rw [e2, List.mem_append]
  constructor
  · rintro (h | h)
    · exact ⟨List.mem_of_mem_take h, fun e9 => hp2.2.2 z h y (by simp) (by rw [e9])⟩
    · exact ⟨List.mem_of_mem_drop h, fun e9 => hp2.2.1.1 z h (by rw [e9])⟩
  · rintro ⟨h, hne⟩
    rw [e, List.mem_append, List.mem_cons] at h
    rcases h with h | h | h
    · exact .inl h
    · exact absurd h hne
    · exact .inr h
theorem Tb.blocks {p b m N r K : Nat} {l : List Pg} {W W' : World} (h : Tb p b m N r K l W) (h1 : W'.heap[p]? = W.heap[p]?) (h2 : W'.heap[b]? = W.heap[b]?) (h3 : W'.heap[m]? = W.heap[m]?) : Tb p b m N r K l W' := by
  obtain ⟨⟨B, L, F, lf, k1, k2⟩, k3⟩ := h
  exact ⟨⟨B, L, F, lf, ⟨k1.mem.keep h1 h2 h3, k1.nd, k1.lt, k1.thr⟩, k2⟩, k3⟩
set_option maxHeartbeats 4000000 in
set_option maxRecDepth 100000 in
theorem table_any {w : World} {na ca nb cb nc cc : Nat} {qa qb qc : Option Addr} {Ra Rb Rc : Nat → Int} (ha : See w .u64 qa na Ra) (hb : See w .u64 qb nb Rb) (hc : See w .u64 qc nc Rc) (ra : ∀ i, 0 ≤ Ra i ∧ Ra i < 18446744073709551616) (rb : ∀ i, 0 ≤ Rb i ∧ Rb i < 18446744073709551616) (rc : ∀ i, 0 ≤ Rc i ∧ Rc i < 18446744073709551616) (fr : Int) :
    Calls Try.prog 6 #[.slice qa na ca, .slice qb nb cb, .slice qc nc cc, .int .i64 fr] w fun e w' => e = .returned (.bool true) ∧ Below w.heap.size w w' := by
  have HA : Hid (See w .u64 qa na Ra ∧ See w .u64 qb nb Rb ∧ See w .u64 qc nc Rc ∧ (∀ i, 0 ≤ Ra i ∧ Ra i < 18446744073709551616) ∧ (∀ i, 0 ≤ Rb i ∧ Rb i < 18446744073709551616) ∧ (∀ i, 0 ≤ Rc i ∧ Rc i < 18446744073709551616)) := ⟨ha, hb, hc, ra, rb, rc⟩
  clear ha hb hc ra rb rc
  obtain ⟨K, hK⟩ : ∃ K : Nat, ((K + 2 : Nat) : Int) = 4 + fr % 4294967296 % 60 := ⟨(2 + fr % 4294967296 % 60).toNat, by omega⟩
  have hK2 : 2 ≤ K ∧ K ≤ 61 := by omega
  have c7 : Calls Try.prog 7 #[.int .i64 (K + 2 : Nat)] w fun e w' => NewP w (K + 2) e w' := new_any (K + 2) (by omega) (by omega) w
  have HK : Hid (((K + 2 : Nat) : Int) = 4 + fr % 4294967296 % 60) := hK
  clear hK
  go_enter Try.func6, Try.ntmps6
  go_upto_region 2 with fail
  rw [← HK.out]
  generalize fr % 4294967296 % 60 = f1
  generalize fr % 4294967296 = f2
  clear HK
  go_upto_region 5 with (go_at_call 7; refine c7.mono ?_; rintro _ w1 ⟨p, b, m, hp, hb, hm, rfl, hR, hB⟩; have H1 : Hid (Ram w1 p b m (K + 2) (newB (K + 1)) ((K + 1) :: down K) ∧ Below w.heap.size w w1 ∧ w.heap.size ≤ p ∧ w.heap.size ≤ b ∧ w.heap.size ≤ m) := ⟨hR, hB, hp, hb, hm⟩; clear hR hB c7 hp hb hm)
  have c27 : Calls Try.prog 27 #[.pointer (some ⟨p, 0, .none⟩)] w1 fun e w' => e = .returned (.int .i64 (K + 1 : Nat)) ∧ Below w1.heap.size w1 w' := by
    have h1 := H1.out.1
    refine (count_any h1.mem (by omega)).mono fun e w9 ⟨h7, k, h8⟩ => ⟨?_, ?_⟩
    · rw [h7]
      refine congrArg Ending.returned (congrArg (Value.int .i64) ?_)
      rw [List.length_cons, down_len]
      omega
    · rw [h8]; exact blw_drewN _ _ _
  go_upto_region 6 with (go_at_call 27; refine c27.mono ?_; rintro _ w2 ⟨rfl, b2⟩; have H2 : Hid (Ram w2 p b m (K + 2) (newB (K + 1)) ((K + 1) :: down K) ∧ Below w.heap.size w w2) := ⟨H1.out.1.below b2, H1.out.2.1.trans (b2.mono H1.out.2.1.size)⟩; clear b2 c27)
  obtain ⟨r, hr⟩ : ∃ r, r = K + 1 := ⟨_, rfl⟩
  have HT : Hid (∀ W, Ram W p b m (K + 2) (zer (newB (K + 1)) (K + 1)) (down K) → Tb p b m (K + 2) r K [] W) := fun W h => by rw [hr]; exact Tb.init h
  have c8 : Calls Try.prog 8 #[.pointer (some ⟨p, 0, .none⟩)] w2 fun e w' => e = .returned (.tuple #[.int .u64 (ad r), .int .i64 0]) ∧ Ram w' p b m (K + 2) (zer (newB (K + 1)) (K + 1)) (down K) ∧ Fra p b m w2 w' := by rw [hr]; exact new_some (K + 1) H2.out.1
  clear hr
  go_upto_region 9 with (go_at_call 8; refine c8.mono ?_; rintro _ w3 ⟨rfl, hR, hF⟩; have H3 : Hid (Below w.heap.size w w3 ∧ Tb p b m (K + 2) r K [] w3) := ⟨H2.out.2.trans (hF.toBelow H2.out.2.size H1.out.2.2.1 H1.out.2.2.2.1 H1.out.2.2.2.2), HT.out _ hR⟩; clear hR hF c8)
  have HX : Hid ((p < w3.heap.size ∧ b < w3.heap.size ∧ m < w3.heap.size) ∧ w.heap.size ≤ p ∧ w.heap.size ≤ b ∧ w.heap.size ≤ m) := ⟨H3.out.2.lt, H1.out.2.2⟩
  have H4 : Hid (TIn w p b m (K + 2) r K w3.heap.size (.slice none 0 0) [] w3) := ⟨H3.out.1, H3.out.2, ⟨rfl, .inl ⟨rfl, rfl⟩⟩, Nat.le_refl _⟩
  clear H1 H2 H3 HT
  generalize w3.heap.size = X at *
  generalize K + 2 = nn at *
  go_wp2
  go_loopw [15, 16] (fun u v wr => ∃ (i : Nat) (l : List Pg), i ≤ 60 ∧ l.length ≤ i ∧ v = .int .i64 i ∧ Hid (TIn w p b m nn r K X u l wr)) (fun _ v _ => (60 - intOf v).toNat)
  case atStart => exact ⟨0, [], by omega, by simp, rfl, H4⟩
  case round =>
    clear H4
    obtain ⟨i, l, hi, hli, rfl, HR⟩ := hrel
    obtain ⟨q, cl, rfl⟩ := HR.out.row.shape
    obtain ⟨ln, hln⟩ : ∃ ln, ln = l.length := ⟨_, rfl⟩
    rw [← hln] at hli HR ⊢
    have HLN : Hid (ln = l.length) := hln
    clear hln
    go_upto_region 11 with fail
    go_cut [58] (fun s wc => s = .bool (decide (i < na ∧ i < 60)) ∧ wc = wr)
    case first =>
      by_cases h1 : i < na
      · have g1 : (i : Int) < na := by omega
        by_cases h2 : i < 60
        · have g2 : (i : Int) < 60 := by omega
          have HE : Hid (decide (i < na ∧ i < 60) = true) := decide_eq_true ⟨h1, h2⟩
          go_wp2
          go_meet
          case rel => exact ⟨by rw [HE.out], rfl⟩
        · have g2 : ¬ (i : Int) < 60 := by omega
          have HE : Hid (decide (i < na ∧ i < 60) = false) := decide_eq_false (fun h => h2 h.2)
          go_wp2
          go_meet
          case rel => exact ⟨by rw [HE.out], rfl⟩
      · have g1 : ¬ (i : Int) < na := by omega
        have HE : Hid (decide (i < na ∧ i < 60) = false) := decide_eq_false (fun h => h1 h.1)
        go_wp2
        go_meet
        case rel => exact ⟨by rw [HE.out], rfl⟩
    case rest =>
      obtain ⟨rfl, hwc⟩ := hcut
      obtain rfl : wr = wc := hwc.symm
      by_cases hlt : i < na ∧ i < 60
      · rw [decide_eq_true hlt]
        obtain ⟨hlt, hl2⟩ := hlt
        have g0 : (i : Int) < na := by omega
        obtain ⟨g, o, rfl, hg, hr⟩ : ∃ g o, qa = some ⟨g, o, .none⟩ ∧ g < wr.heap.size ∧ ∀ i, i < na → wr.cell? ⟨g, o + i, .none⟩ = some (.int .u64 (Ra i)) := by
          rcases See.below HA.out.1 HR.out.bel with h | h
          · omega
          · exact h
        have k0 := hr i hlt
        clear hr
        obtain ⟨x, hx⟩ : ∃ x, x = Ra i := ⟨_, rfl⟩
        obtain ⟨y, hy⟩ : ∃ y, y = atv Rb nb i := ⟨_, rfl⟩
        obtain ⟨z, hz⟩ : ∃ z, z = atv Rc nc i := ⟨_, rfl⟩
        rw [← hx] at k0
        have HXY : Hid ((0 ≤ x ∧ x < 18446744073709551616) ∧ (0 ≤ y ∧ y < 18446744073709551616) ∧ (0 ≤ z ∧ z < 18446744073709551616)) := by
          refine ⟨by rw [hx]; exact HA.out.2.2.2.1 i, ?_, ?_⟩
          · rw [hy]
            unfold atv
            split
            · exact HA.out.2.2.2.2.1 i
            · omega
          · rw [hz]
            unfold atv
            split
            · exact HA.out.2.2.2.2.2 i
            · omega
        have HY : Hid (atv Rb nb i = y) := hy.symm
        have HZ : Hid (atv Rc nc i = z) := hz.symm
        clear hx hy hz
        have HSb : Hid (∀ U, Below wr.heap.size wr U → See U .u64 qb nb Rb) := fun U k => (See.below HA.out.2.1 HR.out.bel).below k
        have HSc : Hid (∀ U, Below wr.heap.size wr U → See U .u64 qc nc Rc) := fun U k => (See.below HA.out.2.2.1 HR.out.bel).below k
        have kS : Below wr.heap.size wr wr.drew := (Below.refl _ _).drew
        go_upto_region 13 with fail
        go_cut [17] (fun s W => ∃ P, s = .pointer (some ⟨P, 0, .none⟩) ∧ Hid (wr.heap.size ≤ P ∧ C3 W P (.int .u64 (pgV x)) (.int .u64 (pgA y)) (.int .u64 (pgP z)) ∧ Below wr.heap.size wr W))
        case first =>
          as_aux_lemma =>
            refine wp_region_held_drew (S := fun U => Below wr.heap.size wr U) (by kernel_rfl) kS (fun hHeld => ?_)
            generalize wr.drew = U0 at *
            refine wpAnyH_take (i := 0) (v := (.slice (some ⟨g, o, .none⟩) na ca)) rfl (by kernel_rfl) (by kernel_rfl) (by kernel_rfl) (fun _ _ _ h => h) (Or.inl ⟨by rfl, fun ww hSw => by (try dsimp only at hSw); go_simp⟩) (by assumption) ?_
            simp only [Act.put, List.setIfInBounds_toArray, List.set_cons_zero, List.set_cons_succ, List.getElem_toArray, List.getElem_cons_succ, List.getElem_cons_zero]
            refine wpAnyH_take (i := 1) (v := (.int .i64 i)) rfl (by kernel_rfl) (by kernel_rfl) (by kernel_rfl) (fun _ _ _ h => h) (Or.inl ⟨by rfl, fun ww hSw => by (try dsimp only at hSw); go_simp⟩) (by assumption) ?_
            simp only [Act.put, List.setIfInBounds_toArray, List.set_cons_zero, List.set_cons_succ, List.getElem_toArray, List.getElem_cons_succ, List.getElem_cons_zero]
            refine wpAnyH_take (i := 2) (v := (.pointer (some ⟨g, o + i, .none⟩))) rfl (by kernel_rfl) (by kernel_rfl) (by kernel_rfl) (fun _ _ _ h => h) (Or.inl ⟨by rfl, fun ww hSw => by (try dsimp only at hSw); go_simp⟩) (by assumption) ?_
            simp only [Act.put, List.setIfInBounds_toArray, List.set_cons_zero, List.set_cons_succ, List.getElem_toArray, List.getElem_cons_succ, List.getElem_cons_zero]
            refine wpAnyH_take (i := 3) (v := (.int .u64 x)) rfl (by kernel_rfl) (by kernel_rfl) (by kernel_rfl) (fun _ _ _ h => h) (Or.inl ⟨by rfl, fun ww hSw => by (try dsimp only at hSw); have k0' := (hSw.cell (p := ⟨g, o + i, .none⟩) hg).trans k0; go_simp⟩) (by assumption) ?_
            simp only [Act.put, List.setIfInBounds_toArray, List.set_cons_zero, List.set_cons_succ, List.getElem_toArray, List.getElem_cons_succ, List.getElem_cons_zero]
            refine wpAnyH_take (i := 4) (v := (.slice qb nb cb)) rfl (by kernel_rfl) (by kernel_rfl) (by kernel_rfl) (fun _ _ _ h => h) (Or.inl ⟨by rfl, fun ww hSw => by (try dsimp only at hSw); go_simp⟩) (by assumption) ?_
            simp only [Act.put, List.setIfInBounds_toArray, List.set_cons_zero, List.set_cons_succ, List.getElem_toArray, List.getElem_cons_succ, List.getElem_cons_zero]
            refine wpAnyH_take (i := 5) (v := (.int .i64 i)) rfl (by kernel_rfl) (by kernel_rfl) (by kernel_rfl) (fun _ _ _ h => h) (Or.inl ⟨by rfl, fun ww hSw => by (try dsimp only at hSw); go_simp⟩) (by assumption) ?_
            simp only [Act.put, List.setIfInBounds_toArray, List.set_cons_zero, List.set_cons_succ, List.getElem_toArray, List.getElem_cons_succ, List.getElem_cons_zero]
            refine wpAnyH_take (i := 7) (v := (.slice qc nc cc)) rfl (by kernel_rfl) (by kernel_rfl) (by kernel_rfl) (fun _ _ _ h => h) (Or.inl ⟨by rfl, fun ww hSw => by (try dsimp only at hSw); go_simp⟩) (by assumption) ?_
            simp only [Act.put, List.setIfInBounds_toArray, List.set_cons_zero, List.set_cons_succ, List.getElem_toArray, List.getElem_cons_succ, List.getElem_cons_zero]
            refine wpAnyH_take (i := 8) (v := (.int .i64 i)) rfl (by kernel_rfl) (by kernel_rfl) (by kernel_rfl) (fun _ _ _ h => h) (Or.inl ⟨by rfl, fun ww hSw => by (try dsimp only at hSw); go_simp⟩) (by assumption) ?_
            simp only [Act.put, List.setIfInBounds_toArray, List.set_cons_zero, List.set_cons_succ, List.getElem_toArray, List.getElem_cons_succ, List.getElem_cons_zero]
            refine wpAnyH_ready (rs := [6, 11]) (by kernel_rfl) (by simp) ?_
            refine AllReadyH.cons rfl (fun K9 hK => ?_) (AllReadyH.cons rfl (fun K9 hK => ?_) AllReadyH.nil)
            ·
              go_simp
              go_at_call 10
              refine (at_any (HSb.out _ kS) i).mono ?_
              rw [HY.out]
              rintro _ w9 ⟨rfl, e9⟩
              obtain rfl : U0 = w9 := e9.symm
              clear e9
              refine hK.out _ _ kS (fun hHeld => ?_)
              clear hK K9
              try simp only [Act.put, List.setIfInBounds_toArray, List.set_cons_zero, List.set_cons_succ, List.getElem_toArray, List.getElem_cons_succ, List.getElem_cons_zero]
              refine wpAnyH_ready (rs := [9, 11]) (by kernel_rfl) (by simp) ?_
              refine AllReadyH.cons rfl (fun K9 hK => ?_) (AllReadyH.cons rfl (fun K9 hK => ?_) AllReadyH.nil)
              ·
                go_simp
                go_at_call 10
                refine (at_any (HSc.out _ kS) i).mono ?_
                rw [HZ.out]
                rintro _ w9 ⟨rfl, e9⟩
                obtain rfl : U0 = w9 := e9.symm
                clear e9
                refine hK.out _ _ kS (fun hHeld => ?_)
                clear hK K9
                try simp only [Act.put, List.setIfInBounds_toArray, List.set_cons_zero, List.set_cons_succ, List.getElem_toArray, List.getElem_cons_succ, List.getElem_cons_zero]
                refine wpAnyH_ready (rs := [10, 11]) (by kernel_rfl) (by simp) ?_
                refine AllReadyH.cons rfl (fun K9 hK => ?_) (AllReadyH.cons rfl (fun K9 hK => ?_) AllReadyH.nil)
                ·
                  go_simp
                  go_at_call 9
                  refine (page_gen x y z HXY.out.1 HXY.out.2.1).mono ?_
                  rintro _ w2 ⟨rfl, b2⟩
                  have kSp : Below wr.heap.size wr w2 := kS.trans (b2.mono kS.size)
                  refine hK.out _ _ kSp (fun hHeld => ?_)
                  clear hK K9
                  try simp only [Act.put, List.setIfInBounds_toArray, List.set_cons_zero, List.set_cons_succ, List.getElem_toArray, List.getElem_cons_succ, List.getElem_cons_zero]
                  refine wpAnyH_ready (rs := [11]) (by kernel_rfl) (by simp) ?_
                  refine AllReadyH.cons rfl (fun K9 hK => ?_) AllReadyH.nil
                  go_simp
                  have ka : Below wr.heap.size wr (w2.alloc (.cells #[.int .u64 0, .int .u64 0, .int .u64 0] 33)) := kSp.alloc kSp.size _
                  have D3 : C3 (w2.alloc (.cells #[.int .u64 0, .int .u64 0, .int .u64 0] 33)) w2.heap.size (.int .u64 0) (.int .u64 0) (.int .u64 0) := C3.new w2 _ _ _ 33
                  have hP0 : wr.heap.size ≤ w2.heap.size := kSp.size
                  generalize w2.heap.size = P0 at *
                  generalize w2.alloc (.cells #[.int .u64 0, .int .u64 0, .int .u64 0] 33) = wa at *
                  refine hK.out _ _ ka (fun hHeld => ?_)
                  clear hK K9
                  try simp only [Act.put, List.setIfInBounds_toArray, List.set_cons_zero, List.set_cons_succ, List.getElem_toArray, List.getElem_cons_succ, List.getElem_cons_zero]
                  refine wpAnyH_ready (rs := [12]) (by kernel_rfl) (by simp) ?_
                  refine AllReadyH.cons rfl (fun K9 hK => ?_) AllReadyH.nil
                  have HC2 := D3
                  obtain ⟨z0, z1, z2, y0, y1, y2⟩ := D3
                  go_simp
                  clear z0 z1 z2 y0 y1 y2
                  have C9 := HC2.set (.int .u64 (pgV x)) (.int .u64 (pgA y)) (.int .u64 (pgP z))
                  have B9 := belowC (B := wr.heap.size) ka hP0 (.int .u64 (pgV x)) (.int .u64 (pgA y)) (.int .u64 (pgP z))
                  refine hK.out _ _ B9 (fun hHeld => ?_)
                  clear hK K9
                  refine wpAnyH_done (by kernel_rfl) ?_ _
                  go_wp2
                  go_meet
                  exact ⟨_, rfl, hP0, C9, B9⟩
                ·
                  go_simp
                  have ka : Below wr.heap.size wr (U0.alloc (.cells #[.int .u64 0, .int .u64 0, .int .u64 0] 33)) := kS.alloc kS.size _
                  have D3 : C3 (U0.alloc (.cells #[.int .u64 0, .int .u64 0, .int .u64 0] 33)) U0.heap.size (.int .u64 0) (.int .u64 0) (.int .u64 0) := C3.new U0 _ _ _ 33
                  have hP0 : wr.heap.size ≤ U0.heap.size := kS.size
                  generalize U0.heap.size = P0 at *
                  generalize U0.alloc (.cells #[.int .u64 0, .int .u64 0, .int .u64 0] 33) = wa at *
                  refine hK.out _ _ ka (fun hHeld => ?_)
                  clear hK K9
                  try simp only [Act.put, List.setIfInBounds_toArray, List.set_cons_zero, List.set_cons_succ, List.getElem_toArray, List.getElem_cons_succ, List.getElem_cons_zero]
                  refine wpAnyH_ready (rs := [10]) (by kernel_rfl) (by simp) ?_
                  refine AllReadyH.cons rfl (fun K9 hK => ?_) AllReadyH.nil
                  go_simp
                  go_at_call 9
                  refine (page_gen x y z HXY.out.1 HXY.out.2.1).mono ?_
                  rintro _ w2 ⟨rfl, b2⟩
                  have kap : Below wr.heap.size wr w2 := ka.trans (b2.mono ka.size)
                  have D3 := D3.below b2
                  refine hK.out _ _ kap (fun hHeld => ?_)
                  clear hK K9
                  try simp only [Act.put, List.setIfInBounds_toArray, List.set_cons_zero, List.set_cons_succ, List.getElem_toArray, List.getElem_cons_succ, List.getElem_cons_zero]
                  refine wpAnyH_ready (rs := [12]) (by kernel_rfl) (by simp) ?_
                  refine AllReadyH.cons rfl (fun K9 hK => ?_) AllReadyH.nil
                  have HC2 := D3
                  obtain ⟨z0, z1, z2, y0, y1, y2⟩ := D3
                  go_simp
                  clear z0 z1 z2 y0 y1 y2
                  have C9 := HC2.set (.int .u64 (pgV x)) (.int .u64 (pgA y)) (.int .u64 (pgP z))
                  have B9 := belowC (B := wr.heap.size) kap hP0 (.int .u64 (pgV x)) (.int .u64 (pgA y)) (.int .u64 (pgP z))
                  refine hK.out _ _ B9 (fun hHeld => ?_)
                  clear hK K9
                  refine wpAnyH_done (by kernel_rfl) ?_ _
                  go_wp2
                  go_meet
                  exact ⟨_, rfl, hP0, C9, B9⟩
              ·
                go_simp
                have ka : Below wr.heap.size wr (U0.alloc (.cells #[.int .u64 0, .int .u64 0, .int .u64 0] 33)) := kS.alloc kS.size _
                have D3 : C3 (U0.alloc (.cells #[.int .u64 0, .int .u64 0, .int .u64 0] 33)) U0.heap.size (.int .u64 0) (.int .u64 0) (.int .u64 0) := C3.new U0 _ _ _ 33
                have hP0 : wr.heap.size ≤ U0.heap.size := kS.size
                generalize U0.heap.size = P0 at *
                generalize U0.alloc (.cells #[.int .u64 0, .int .u64 0, .int .u64 0] 33) = wa at *
                refine hK.out _ _ ka (fun hHeld => ?_)
                clear hK K9
                try simp only [Act.put, List.setIfInBounds_toArray, List.set_cons_zero, List.set_cons_succ, List.getElem_toArray, List.getElem_cons_succ, List.getElem_cons_zero]
                refine wpAnyH_ready (rs := [9]) (by kernel_rfl) (by simp) ?_
                refine AllReadyH.cons rfl (fun K9 hK => ?_) AllReadyH.nil
                go_simp
                go_at_call 10
                refine (at_any (HSc.out _ ka) i).mono ?_
                rw [HZ.out]
                rintro _ w9 ⟨rfl, e9⟩
                obtain rfl : wa = w9 := e9.symm
                clear e9
                refine hK.out _ _ ka (fun hHeld => ?_)
                clear hK K9
                try simp only [Act.put, List.setIfInBounds_toArray, List.set_cons_zero, List.set_cons_succ, List.getElem_toArray, List.getElem_cons_succ, List.getElem_cons_zero]
                refine wpAnyH_ready (rs := [10]) (by kernel_rfl) (by simp) ?_
                refine AllReadyH.cons rfl (fun K9 hK => ?_) AllReadyH.nil
                go_simp
                go_at_call 9
                refine (page_gen x y z HXY.out.1 HXY.out.2.1).mono ?_
                rintro _ w2 ⟨rfl, b2⟩
                have kap : Below wr.heap.size wr w2 := ka.trans (b2.mono ka.size)
                have D3 := D3.below b2
                refine hK.out _ _ kap (fun hHeld => ?_)
                clear hK K9
                try simp only [Act.put, List.setIfInBounds_toArray, List.set_cons_zero, List.set_cons_succ, List.getElem_toArray, List.getElem_cons_succ, List.getElem_cons_zero]
                refine wpAnyH_ready (rs := [12]) (by kernel_rfl) (by simp) ?_
                refine AllReadyH.cons rfl (fun K9 hK => ?_) AllReadyH.nil
                have HC2 := D3
                obtain ⟨z0, z1, z2, y0, y1, y2⟩ := D3
                go_simp
                clear z0 z1 z2 y0 y1 y2
                have C9 := HC2.set (.int .u64 (pgV x)) (.int .u64 (pgA y)) (.int .u64 (pgP z))
                have B9 := belowC (B := wr.heap.size) kap hP0 (.int .u64 (pgV x)) (.int .u64 (pgA y)) (.int .u64 (pgP z))
                refine hK.out _ _ B9 (fun hHeld => ?_)
                clear hK K9
                refine wpAnyH_done (by kernel_rfl) ?_ _
                go_wp2
                go_meet
                exact ⟨_, rfl, hP0, C9, B9⟩
            ·
              go_simp
              have ka : Below wr.heap.size wr (U0.alloc (.cells #[.int .u64 0, .int .u64 0, .int .u64 0] 33)) := kS.alloc kS.size _
              have D3 : C3 (U0.alloc (.cells #[.int .u64 0, .int .u64 0, .int .u64 0] 33)) U0.heap.size (.int .u64 0) (.int .u64 0) (.int .u64 0) := C3.new U0 _ _ _ 33
              have hP0 : wr.heap.size ≤ U0.heap.size := kS.size
              generalize U0.heap.size = P0 at *
              generalize U0.alloc (.cells #[.int .u64 0, .int .u64 0, .int .u64 0] 33) = wa at *
              refine hK.out _ _ ka (fun hHeld => ?_)
              clear hK K9
              try simp only [Act.put, List.setIfInBounds_toArray, List.set_cons_zero, List.set_cons_succ, List.getElem_toArray, List.getElem_cons_succ, List.getElem_cons_zero]
              refine wpAnyH_ready (rs := [6]) (by kernel_rfl) (by simp) ?_
              refine AllReadyH.cons rfl (fun K9 hK => ?_) AllReadyH.nil
              go_simp
              go_at_call 10
              refine (at_any (HSb.out _ ka) i).mono ?_
              rw [HY.out]
              rintro _ w9 ⟨rfl, e9⟩
              obtain rfl : wa = w9 := e9.symm
              clear e9
              refine hK.out _ _ ka (fun hHeld => ?_)
              clear hK K9
              try simp only [Act.put, List.setIfInBounds_toArray, List.set_cons_zero, List.set_cons_succ, List.getElem_toArray, List.getElem_cons_succ, List.getElem_cons_zero]
              refine wpAnyH_ready (rs := [9]) (by kernel_rfl) (by simp) ?_
              refine AllReadyH.cons rfl (fun K9 hK => ?_) AllReadyH.nil
              go_simp
              go_at_call 10
              refine (at_any (HSc.out _ ka) i).mono ?_
              rw [HZ.out]
              rintro _ w9 ⟨rfl, e9⟩
              obtain rfl : wa = w9 := e9.symm
              clear e9
              refine hK.out _ _ ka (fun hHeld => ?_)
              clear hK K9
              try simp only [Act.put, List.setIfInBounds_toArray, List.set_cons_zero, List.set_cons_succ, List.getElem_toArray, List.getElem_cons_succ, List.getElem_cons_zero]
              refine wpAnyH_ready (rs := [10]) (by kernel_rfl) (by simp) ?_
              refine AllReadyH.cons rfl (fun K9 hK => ?_) AllReadyH.nil
              go_simp
              go_at_call 9
              refine (page_gen x y z HXY.out.1 HXY.out.2.1).mono ?_
              rintro _ w2 ⟨rfl, b2⟩
              have kap : Below wr.heap.size wr w2 := ka.trans (b2.mono ka.size)
              have D3 := D3.below b2
              refine hK.out _ _ kap (fun hHeld => ?_)
              clear hK K9
              try simp only [Act.put, List.setIfInBounds_toArray, List.set_cons_zero, List.set_cons_succ, List.getElem_toArray, List.getElem_cons_succ, List.getElem_cons_zero]
              refine wpAnyH_ready (rs := [12]) (by kernel_rfl) (by simp) ?_
              refine AllReadyH.cons rfl (fun K9 hK => ?_) AllReadyH.nil
              have HC2 := D3
              obtain ⟨z0, z1, z2, y0, y1, y2⟩ := D3
              go_simp
              clear z0 z1 z2 y0 y1 y2
              have C9 := HC2.set (.int .u64 (pgV x)) (.int .u64 (pgA y)) (.int .u64 (pgP z))
              have B9 := belowC (B := wr.heap.size) kap hP0 (.int .u64 (pgV x)) (.int .u64 (pgA y)) (.int .u64 (pgP z))
              refine hK.out _ _ B9 (fun hHeld => ?_)
              clear hK K9
              refine wpAnyH_done (by kernel_rfl) ?_ _
              go_wp2
              go_meet
              exact ⟨_, rfl, hP0, C9, B9⟩
        case rest =>
          obtain ⟨P, rfl, HC⟩ := hcut
          have HW : Hid (TIn w p b m nn r K X (.slice q ln cl) l wc) := HR.out.below HC.out.2.2
          have HRW : Hid (wr.heap.size ≤ P ∧ PgR wr X (.slice q ln cl) l) := ⟨HC.out.1, HR.out.row⟩
          have HO : Hid (okP (pgV x, pgA y, pgP z) ∧ (!ho (pgP z) 18446744073709551361 && ho (pgP z) 10 && (!hs (pgP z) 4 || hs (pgP z) 2)) = true) := pg_ok x y z HXY.out.2.2
          have HP : Hid (X ≤ P ∧ C3 wc P (.int .u64 (pgV x)) (.int .u64 (pgA y)) (.int .u64 (pgP z))) := ⟨Nat.le_trans HR.out.xs HC.out.1, HC.out.2.1⟩
          generalize pgV x = va at *
          generalize pgA y = pa at *
          generalize pgP z = pm at *
          have HSB : Hid (See wc .u64 qb nb Rb) := HSb.out wc HC.out.2.2
          have HYB : Hid (0 ≤ y ∧ y < 18446744073709551616) := HXY.out.2.1
          have c28 := find_any (c := cl) (by have := HW.out.row; rw [HLN.out] at this; exact this.see) (by have := HLN.out; omega) va
          rw [← HLN.out] at c28
          obtain ⟨z0, z1, z2, y0, y1, y2⟩ := HP.out.2
          clear kS k0 HSb HSc HR HC HXY HZ
          have c10 := at_any (c := cb) HSB.out i
          rw [HY.out] at c10
          go_upto_if 80 with (first | (go_at_call 28; refine c28.mono ?_; rintro _ w9 ⟨k, rfl, hf, e9⟩; obtain rfl : wc = w9 := e9.symm; have HF : Hid (Fnd (gV l) ln va k) := hf; clear e9 hf c28) | (go_at_call 10; refine c10.mono ?_; rintro _ w9 ⟨rfl, e9⟩; obtain rfl : wc = w9 := e9.symm; clear e9 c10))
          go_cut [15] (fun s W => ∃ l' : List Pg, l'.length ≤ i + 1 ∧ Hid (TIn w p b m nn r K X s l' W ∧ C3 W P (.int .u64 va) (.int .u64 pa) (.int .u64 pm)))
          case first =>
            have hvb := HO.out.1.1
            simp only at hvb
            by_cases ht : 9 < y / 1152921504606846976
            · rcases HF.out with ⟨rfl, hno⟩ | ⟨ki, hki, rfl, hvk, _⟩
              · as_aux_lemma =>
                  have c16 := HW.out.tb.unmapNone va hvb (no_of HLN.out hno)
                  clear hno
                  go_upto_region 17 with (go_at_call 16; refine c16.mono ?_; rintro _ w4 ⟨rfl, b4⟩; have H4 : Hid (Below wc.heap.size wc w4.drew) := b4.drew; clear b4 c16)
                  refine wp_region_held_drew (S := fun _ => True) (by kernel_rfl) trivial (fun hHeld => ?_)
                  generalize w4.drew = w5 at *
                  refine wpAnyH_take (i := 0) (v := (.int .i64 (-1))) rfl (by kernel_rfl) (by kernel_rfl) (by kernel_rfl) (fun _ _ _ h => h) (Or.inl ⟨by rfl, fun ww hSw => by (try dsimp only at hSw); go_simp⟩) (by first | exact trivial | assumption) ?_
                  simp only [Act.put, List.setIfInBounds_toArray, List.set_cons_zero, List.set_cons_succ, List.getElem_toArray, List.getElem_cons_succ, List.getElem_cons_zero]
                  refine wpAnyH_take (i := 1) (v := (.bool true)) rfl (by kernel_rfl) (by kernel_rfl) (by kernel_rfl) (fun _ _ _ h => h) (Or.inl ⟨by rfl, fun ww hSw => by (try dsimp only at hSw); go_simp⟩) (by first | exact trivial | assumption) ?_
                  simp only [Act.put, List.setIfInBounds_toArray, List.set_cons_zero, List.set_cons_succ, List.getElem_toArray, List.getElem_cons_succ, List.getElem_cons_zero]
                  refine wpAnyH_take (i := 2) (v := (.bool true)) rfl (by kernel_rfl) (by kernel_rfl) (by kernel_rfl) (fun _ _ _ h => h) (Or.inl ⟨by rfl, fun ww hSw => by (try dsimp only at hSw); go_simp⟩) (by first | exact trivial | assumption) ?_
                  simp only [Act.put, List.setIfInBounds_toArray, List.set_cons_zero, List.set_cons_succ, List.getElem_toArray, List.getElem_cons_succ, List.getElem_cons_zero]
                  refine wpAnyH_take (i := 3) (v := (.int .i64 86)) rfl (by kernel_rfl) (by kernel_rfl) (by kernel_rfl) (fun _ _ _ h => h) (Or.inl ⟨by rfl, fun ww hSw => by (try dsimp only at hSw); go_simp⟩) (by first | exact trivial | assumption) ?_
                  simp only [Act.put, List.setIfInBounds_toArray, List.set_cons_zero, List.set_cons_succ, List.getElem_toArray, List.getElem_cons_succ, List.getElem_cons_zero]
                  refine wpAnyH_take (i := 4) (v := (.bool false)) rfl (by kernel_rfl) (by kernel_rfl) (by kernel_rfl) (fun _ _ _ h => h) (Or.inl ⟨by rfl, fun ww hSw => by (try dsimp only at hSw); go_simp⟩) (by first | exact trivial | assumption) ?_
                  simp only [Act.put, List.setIfInBounds_toArray, List.set_cons_zero, List.set_cons_succ, List.getElem_toArray, List.getElem_cons_succ, List.getElem_cons_zero]
                  refine wpAnyH_take (i := 5) (v := (.bool false)) rfl (by kernel_rfl) (by kernel_rfl) (by kernel_rfl) (fun _ _ _ h => h) (Or.inl ⟨by rfl, fun ww hSw => by (try dsimp only at hSw); go_simp⟩) (by first | exact trivial | assumption) ?_
                  simp only [Act.put, List.setIfInBounds_toArray, List.set_cons_zero, List.set_cons_succ, List.getElem_toArray, List.getElem_cons_succ, List.getElem_cons_zero]
                  refine wpAnyH_take (i := 6) (v := (.int .u64 0)) rfl (by kernel_rfl) (by kernel_rfl) (by kernel_rfl) (fun _ _ _ h => h) (Or.inl ⟨by rfl, fun ww hSw => by (try dsimp only at hSw); go_simp⟩) (by first | exact trivial | assumption) ?_
                  simp only [Act.put, List.setIfInBounds_toArray, List.set_cons_zero, List.set_cons_succ, List.getElem_toArray, List.getElem_cons_succ, List.getElem_cons_zero]
                  refine wpAnyH_take (i := 7) (v := (.bool false)) rfl (by kernel_rfl) (by kernel_rfl) (by kernel_rfl) (fun _ _ _ h => h) (Or.inl ⟨by rfl, fun ww hSw => by (try dsimp only at hSw); go_simp⟩) (by first | exact trivial | assumption) ?_
                  simp only [Act.put, List.setIfInBounds_toArray, List.set_cons_zero, List.set_cons_succ, List.getElem_toArray, List.getElem_cons_succ, List.getElem_cons_zero]
                  refine wpAnyH_take (i := 8) (v := (.bool false)) rfl (by kernel_rfl) (by kernel_rfl) (by kernel_rfl) (fun _ _ _ h => h) (Or.inl ⟨by rfl, fun ww hSw => by (try dsimp only at hSw); go_simp⟩) (by first | exact trivial | assumption) ?_
                  simp only [Act.put, List.setIfInBounds_toArray, List.set_cons_zero, List.set_cons_succ, List.getElem_toArray, List.getElem_cons_succ, List.getElem_cons_zero]
                  refine wpAnyH_take (i := 9) (v := (.bool false)) rfl (by kernel_rfl) (by kernel_rfl) (by kernel_rfl) (fun _ _ _ h => h) (Or.inl ⟨by rfl, fun ww hSw => by (try dsimp only at hSw); go_simp⟩) (by first | exact trivial | assumption) ?_
                  simp only [Act.put, List.setIfInBounds_toArray, List.set_cons_zero, List.set_cons_succ, List.getElem_toArray, List.getElem_cons_succ, List.getElem_cons_zero]
                  refine wpAnyH_take (i := 10) (v := (.bool false)) rfl (by kernel_rfl) (by kernel_rfl) (by kernel_rfl) (fun _ _ _ h => h) (Or.inl ⟨by rfl, fun ww hSw => by (try dsimp only at hSw); go_simp⟩) (by first | exact trivial | assumption) ?_
                  simp only [Act.put, List.setIfInBounds_toArray, List.set_cons_zero, List.set_cons_succ, List.getElem_toArray, List.getElem_cons_succ, List.getElem_cons_zero]
                  refine wpAnyH_take (i := 11) (v := (.int .i64 (-1))) rfl (by kernel_rfl) (by kernel_rfl) (by kernel_rfl) (fun _ _ _ h => h) (Or.inl ⟨by rfl, fun ww hSw => by (try dsimp only at hSw); go_simp⟩) (by first | exact trivial | assumption) ?_
                  simp only [Act.put, List.setIfInBounds_toArray, List.set_cons_zero, List.set_cons_succ, List.getElem_toArray, List.getElem_cons_succ, List.getElem_cons_zero]
                  refine wpAnyH_take (i := 12) (v := (.bool false)) rfl (by kernel_rfl) (by kernel_rfl) (by kernel_rfl) (fun _ _ _ h => h) (Or.inl ⟨by rfl, fun ww hSw => by (try dsimp only at hSw); go_simp⟩) (by first | exact trivial | assumption) ?_
                  simp only [Act.put, List.setIfInBounds_toArray, List.set_cons_zero, List.set_cons_succ, List.getElem_toArray, List.getElem_cons_succ, List.getElem_cons_zero]
                  refine wpAnyH_take (i := 13) (v := (.bool false)) rfl (by kernel_rfl) (by kernel_rfl) (by kernel_rfl) (fun _ _ _ h => h) (Or.inl ⟨by rfl, fun ww hSw => by (try dsimp only at hSw); go_simp⟩) (by first | exact trivial | assumption) ?_
                  simp only [Act.put, List.setIfInBounds_toArray, List.set_cons_zero, List.set_cons_succ, List.getElem_toArray, List.getElem_cons_succ, List.getElem_cons_zero]
                  refine wpAnyH_take (i := 14) (v := undef) rfl (by kernel_rfl) (by kernel_rfl) (by kernel_rfl) (fun _ _ _ h => h) (Or.inr ⟨by rfl, rfl⟩) (by first | exact trivial | assumption) ?_
                  simp only [Act.put, List.setIfInBounds_toArray, List.set_cons_zero, List.set_cons_succ, List.getElem_toArray, List.getElem_cons_succ, List.getElem_cons_zero]
                  refine wpAnyH_take (i := 15) (v := undef) rfl (by kernel_rfl) (by kernel_rfl) (by kernel_rfl) (fun _ _ _ h => h) (Or.inr ⟨by rfl, rfl⟩) (by first | exact trivial | assumption) ?_
                  simp only [Act.put, List.setIfInBounds_toArray, List.set_cons_zero, List.set_cons_succ, List.getElem_toArray, List.getElem_cons_succ, List.getElem_cons_zero]
                  refine wpAnyH_take (i := 16) (v := undef) rfl (by kernel_rfl) (by kernel_rfl) (by kernel_rfl) (fun _ _ _ h => h) (Or.inr ⟨by rfl, rfl⟩) (by first | exact trivial | assumption) ?_
                  simp only [Act.put, List.setIfInBounds_toArray, List.set_cons_zero, List.set_cons_succ, List.getElem_toArray, List.getElem_cons_succ, List.getElem_cons_zero]
                  refine wpAnyH_take (i := 17) (v := undef) rfl (by kernel_rfl) (by kernel_rfl) (by kernel_rfl) (fun _ _ _ h => h) (Or.inr ⟨by rfl, rfl⟩) (by first | exact trivial | assumption) ?_
                  simp only [Act.put, List.setIfInBounds_toArray, List.set_cons_zero, List.set_cons_succ, List.getElem_toArray, List.getElem_cons_succ, List.getElem_cons_zero]
                  refine wpAnyH_take (i := 18) (v := undef) rfl (by kernel_rfl) (by kernel_rfl) (by kernel_rfl) (fun _ _ _ h => h) (Or.inr ⟨by rfl, rfl⟩) (by first | exact trivial | assumption) ?_
                  simp only [Act.put, List.setIfInBounds_toArray, List.set_cons_zero, List.set_cons_succ, List.getElem_toArray, List.getElem_cons_succ, List.getElem_cons_zero]
                  refine wpAnyH_take (i := 19) (v := undef) rfl (by kernel_rfl) (by kernel_rfl) (by kernel_rfl) (fun _ _ _ h => h) (Or.inr ⟨by rfl, rfl⟩) (by first | exact trivial | assumption) ?_
                  simp only [Act.put, List.setIfInBounds_toArray, List.set_cons_zero, List.set_cons_succ, List.getElem_toArray, List.getElem_cons_succ, List.getElem_cons_zero]
                  refine wpAnyH_take (i := 20) (v := undef) rfl (by kernel_rfl) (by kernel_rfl) (by kernel_rfl) (fun _ _ _ h => h) (Or.inr ⟨by rfl, rfl⟩) (by first | exact trivial | assumption) ?_
                  simp only [Act.put, List.setIfInBounds_toArray, List.set_cons_zero, List.set_cons_succ, List.getElem_toArray, List.getElem_cons_succ, List.getElem_cons_zero]
                  refine wpAnyH_take (i := 21) (v := undef) rfl (by kernel_rfl) (by kernel_rfl) (by kernel_rfl) (fun _ _ _ h => h) (Or.inr ⟨by rfl, rfl⟩) (by first | exact trivial | assumption) ?_
                  simp only [Act.put, List.setIfInBounds_toArray, List.set_cons_zero, List.set_cons_succ, List.getElem_toArray, List.getElem_cons_succ, List.getElem_cons_zero]
                  refine wpAnyH_take (i := 22) (v := undef) rfl (by kernel_rfl) (by kernel_rfl) (by kernel_rfl) (fun _ _ _ h => h) (Or.inr ⟨by rfl, rfl⟩) (by first | exact trivial | assumption) ?_
                  simp only [Act.put, List.setIfInBounds_toArray, List.set_cons_zero, List.set_cons_succ, List.getElem_toArray, List.getElem_cons_succ, List.getElem_cons_zero]
                  refine wpAnyH_take (i := 23) (v := undef) rfl (by kernel_rfl) (by kernel_rfl) (by kernel_rfl) (fun _ _ _ h => h) (Or.inr ⟨by rfl, rfl⟩) (by first | exact trivial | assumption) ?_
                  simp only [Act.put, List.setIfInBounds_toArray, List.set_cons_zero, List.set_cons_succ, List.getElem_toArray, List.getElem_cons_succ, List.getElem_cons_zero]
                  refine wpAnyH_take (i := 24) (v := undef) rfl (by kernel_rfl) (by kernel_rfl) (by kernel_rfl) (fun _ _ _ h => h) (Or.inr ⟨by rfl, rfl⟩) (by first | exact trivial | assumption) ?_
                  simp only [Act.put, List.setIfInBounds_toArray, List.set_cons_zero, List.set_cons_succ, List.getElem_toArray, List.getElem_cons_succ, List.getElem_cons_zero]
                  refine wpAnyH_take (i := 25) (v := undef) rfl (by kernel_rfl) (by kernel_rfl) (by kernel_rfl) (fun _ _ _ h => h) (Or.inr ⟨by rfl, rfl⟩) (by first | exact trivial | assumption) ?_
                  simp only [Act.put, List.setIfInBounds_toArray, List.set_cons_zero, List.set_cons_succ, List.getElem_toArray, List.getElem_cons_succ, List.getElem_cons_zero]
                  refine wpAnyH_take (i := 26) (v := undef) rfl (by kernel_rfl) (by kernel_rfl) (by kernel_rfl) (fun _ _ _ h => h) (Or.inr ⟨by rfl, rfl⟩) (by first | exact trivial | assumption) ?_
                  simp only [Act.put, List.setIfInBounds_toArray, List.set_cons_zero, List.set_cons_succ, List.getElem_toArray, List.getElem_cons_succ, List.getElem_cons_zero]
                  refine wpAnyH_take (i := 27) (v := undef) rfl (by kernel_rfl) (by kernel_rfl) (by kernel_rfl) (fun _ _ _ h => h) (Or.inr ⟨by rfl, rfl⟩) (by first | exact trivial | assumption) ?_
                  simp only [Act.put, List.setIfInBounds_toArray, List.set_cons_zero, List.set_cons_succ, List.getElem_toArray, List.getElem_cons_succ, List.getElem_cons_zero]
                  refine wpAnyH_take (i := 28) (v := undef) rfl (by kernel_rfl) (by kernel_rfl) (by kernel_rfl) (fun _ _ _ h => h) (Or.inr ⟨by rfl, rfl⟩) (by first | exact trivial | assumption) ?_
                  simp only [Act.put, List.setIfInBounds_toArray, List.set_cons_zero, List.set_cons_succ, List.getElem_toArray, List.getElem_cons_succ, List.getElem_cons_zero]
                  refine wpAnyH_take (i := 29) (v := undef) rfl (by kernel_rfl) (by kernel_rfl) (by kernel_rfl) (fun _ _ _ h => h) (Or.inr ⟨by rfl, rfl⟩) (by first | exact trivial | assumption) ?_
                  simp only [Act.put, List.setIfInBounds_toArray, List.set_cons_zero, List.set_cons_succ, List.getElem_toArray, List.getElem_cons_succ, List.getElem_cons_zero]
                  refine wpAnyH_take (i := 30) (v := undef) rfl (by kernel_rfl) (by kernel_rfl) (by kernel_rfl) (fun _ _ _ h => h) (Or.inr ⟨by rfl, rfl⟩) (by first | exact trivial | assumption) ?_
                  simp only [Act.put, List.setIfInBounds_toArray, List.set_cons_zero, List.set_cons_succ, List.getElem_toArray, List.getElem_cons_succ, List.getElem_cons_zero]
                  refine wpAnyH_take (i := 31) (v := undef) rfl (by kernel_rfl) (by kernel_rfl) (by kernel_rfl) (fun _ _ _ h => h) (Or.inr ⟨by rfl, rfl⟩) (by first | exact trivial | assumption) ?_
                  simp only [Act.put, List.setIfInBounds_toArray, List.set_cons_zero, List.set_cons_succ, List.getElem_toArray, List.getElem_cons_succ, List.getElem_cons_zero]
                  refine wpAnyH_take (i := 32) (v := undef) rfl (by kernel_rfl) (by kernel_rfl) (by kernel_rfl) (fun _ _ _ h => h) (Or.inr ⟨by rfl, rfl⟩) (by first | exact trivial | assumption) ?_
                  simp only [Act.put, List.setIfInBounds_toArray, List.set_cons_zero, List.set_cons_succ, List.getElem_toArray, List.getElem_cons_succ, List.getElem_cons_zero]
                  refine wpAnyH_take (i := 33) (v := undef) rfl (by kernel_rfl) (by kernel_rfl) (by kernel_rfl) (fun _ _ _ h => h) (Or.inr ⟨by rfl, rfl⟩) (by first | exact trivial | assumption) ?_
                  simp only [Act.put, List.setIfInBounds_toArray, List.set_cons_zero, List.set_cons_succ, List.getElem_toArray, List.getElem_cons_succ, List.getElem_cons_zero]
                  refine wpAnyH_take (i := 34) (v := (.bool false)) rfl (by kernel_rfl) (by kernel_rfl) (by kernel_rfl) (fun _ _ _ h => h) (Or.inl ⟨by rfl, fun ww hSw => by (try dsimp only at hSw); go_simp⟩) (by first | exact trivial | assumption) ?_
                  simp only [Act.put, List.setIfInBounds_toArray, List.set_cons_zero, List.set_cons_succ, List.getElem_toArray, List.getElem_cons_succ, List.getElem_cons_zero]
                  refine wpAnyH_take (i := 35) (v := (.bool false)) rfl (by kernel_rfl) (by kernel_rfl) (by kernel_rfl) (fun _ _ _ h => h) (Or.inl ⟨by rfl, fun ww hSw => by (try dsimp only at hSw); go_simp⟩) (by first | exact trivial | assumption) ?_
                  simp only [Act.put, List.setIfInBounds_toArray, List.set_cons_zero, List.set_cons_succ, List.getElem_toArray, List.getElem_cons_succ, List.getElem_cons_zero]
                  refine wpAnyH_done (by kernel_rfl) ?_ _
                  go_wp2
                  go_meet
                  exact ⟨l, by have := HLN.out; omega, HW.out.below H4.out, HP.out.2.below H4.out⟩
              · as_aux_lemma =>
                  obtain ⟨yk, hyl, hyi, hv9, ha9, hp9⟩ := at_of (l := l) (i := ki) (by rw [← HLN.out]; exact hki)
                  have hpw := HW.out.tb.2
                  have c16 := HW.out.tb.unmap hyl (erase_mem hpw hyi) (hpw.sublist (List.eraseIdx_sublist l ki))
                  have hyo := (HW.out.tb.ok).1 yk hyl
                  have hsee := HW.out.row
                  rw [HLN.out] at hsee
                  have hsee := hsee.see
                  obtain ⟨v9, pk, mk⟩ := yk
                  obtain ⟨_, hb2, hb3, _⟩ := hyo
                  simp only at hv9 ha9 hp9 c16 hb2 hb3
                  obtain rfl : va = v9 := hvk.symm.trans hv9
                  rcases hsee with h0 | ⟨g2, rfl, hg2, hcells⟩
                  · have := HLN.out; omega
                  obtain ⟨_, q1, q2⟩ := hcells ki (by rw [← HLN.out]; exact hki)
                  rw [ha9] at q1
                  rw [hp9] at q2
                  have hgX : X ≤ g2 := (HW.out.row.lt g2 rfl).1
                  have hx := HX.out
                  have HQ : Hid (∀ W, Fra p b m wc W → W.cell? ⟨g2, ki * 3 + 1, .none⟩ = some (.int .u64 pk) ∧ W.cell? ⟨g2, ki * 3 + 2, .none⟩ = some (.int .u64 mk)) := fun W f => ⟨(f.cell (x := ⟨g2, ki * 3 + 1, .none⟩) hg2 (by simp only; omega) (by simp only; omega) (by simp only; omega)).trans q1, (f.cell (x := ⟨g2, ki * 3 + 2, .none⟩) hg2 (by simp only; omega) (by simp only; omega) (by simp only; omega)).trans q2⟩
                  have hquo : IntKind.u64.wrap (pk.tdiv 4096) = pk / 4096 := by rw [Int.tdiv_eq_ediv_of_nonneg (by omega), IntKind.wrap_u64]; omega
                  have hshl : IntKind.u64.wrap (pk / 4096 * 1024) = pk / 4096 * 1024 := by rw [IntKind.wrap_u64]; omega
                  have hkn : (ki : Int) < ln := by omega
                  have HK9 : Hid (l[ki]? = some (va, pk, mk)) := hyi
                  clear hcells q1 q2 ha9 hp9 hv9 hvk hyl hyi hpw hx hgX hg2
                  go_upto_region 17 with (go_at_call 16; refine c16.mono ?_; rintro _ w4 ⟨rfl, t4, f4⟩; have H4 : Hid (Tb p b m nn r K (l.eraseIdx ki) w4.drew ∧ Fra p b m wc w4.drew) := ⟨t4.below (Below.refl _ _).drew, f4.trans (Fra.below (Below.refl _ _).drew)⟩; clear t4 f4 c16)
                  have kS := HQ.out w4.drew H4.out.2
                  refine wp_region_held_drew (S := fun W => W.cell? ⟨g2, ki * 3 + 1, .none⟩ = some (.int .u64 pk) ∧ W.cell? ⟨g2, ki * 3 + 2, .none⟩ = some (.int .u64 mk)) (by kernel_rfl) kS (fun hHeld => ?_)
                  generalize w4.drew = w5 at *
                  refine wpAnyH_take (i := 0) (v := (.int .i64 ki)) rfl (by kernel_rfl) (by kernel_rfl) (by kernel_rfl) (fun _ _ _ h => h) (Or.inl ⟨by rfl, fun ww hSw => by (try dsimp only at hSw); go_simp⟩) (by first | exact trivial | assumption) ?_
                  simp only [Act.put, List.setIfInBounds_toArray, List.set_cons_zero, List.set_cons_succ, List.getElem_toArray, List.getElem_cons_succ, List.getElem_cons_zero]
                  refine wpAnyH_take (i := 1) (v := (.bool false)) rfl (by kernel_rfl) (by kernel_rfl) (by kernel_rfl) (fun _ _ _ h => h) (Or.inl ⟨by rfl, fun ww hSw => by (try dsimp only at hSw); go_simp⟩) (by first | exact trivial | assumption) ?_
                  simp only [Act.put, List.setIfInBounds_toArray, List.set_cons_zero, List.set_cons_succ, List.getElem_toArray, List.getElem_cons_succ, List.getElem_cons_zero]
                  refine wpAnyH_take (i := 2) (v := (.bool false)) rfl (by kernel_rfl) (by kernel_rfl) (by kernel_rfl) (fun _ _ _ h => h) (Or.inl ⟨by rfl, fun ww hSw => by (try dsimp only at hSw); go_simp⟩) (by first | exact trivial | assumption) ?_
                  simp only [Act.put, List.setIfInBounds_toArray, List.set_cons_zero, List.set_cons_succ, List.getElem_toArray, List.getElem_cons_succ, List.getElem_cons_zero]
                  refine wpAnyH_take (i := 3) (v := undef) rfl (by kernel_rfl) (by kernel_rfl) (by kernel_rfl) (fun _ _ _ h => h) (Or.inr ⟨by rfl, rfl⟩) (by first | exact trivial | assumption) ?_
                  simp only [Act.put, List.setIfInBounds_toArray, List.set_cons_zero, List.set_cons_succ, List.getElem_toArray, List.getElem_cons_succ, List.getElem_cons_zero]
                  refine wpAnyH_take (i := 4) (v := undef) rfl (by kernel_rfl) (by kernel_rfl) (by kernel_rfl) (fun _ _ _ h => h) (Or.inr ⟨by rfl, rfl⟩) (by first | exact trivial | assumption) ?_
                  simp only [Act.put, List.setIfInBounds_toArray, List.set_cons_zero, List.set_cons_succ, List.getElem_toArray, List.getElem_cons_succ, List.getElem_cons_zero]
                  refine wpAnyH_take (i := 5) (v := undef) rfl (by kernel_rfl) (by kernel_rfl) (by kernel_rfl) (fun _ _ _ h => h) (Or.inr ⟨by rfl, rfl⟩) (by first | exact trivial | assumption) ?_
                  simp only [Act.put, List.setIfInBounds_toArray, List.set_cons_zero, List.set_cons_succ, List.getElem_toArray, List.getElem_cons_succ, List.getElem_cons_zero]
                  refine wpAnyH_take (i := 6) (v := undef) rfl (by kernel_rfl) (by kernel_rfl) (by kernel_rfl) (fun _ _ _ h => h) (Or.inr ⟨by rfl, rfl⟩) (by first | exact trivial | assumption) ?_
                  simp only [Act.put, List.setIfInBounds_toArray, List.set_cons_zero, List.set_cons_succ, List.getElem_toArray, List.getElem_cons_succ, List.getElem_cons_zero]
                  refine wpAnyH_take (i := 7) (v := undef) rfl (by kernel_rfl) (by kernel_rfl) (by kernel_rfl) (fun _ _ _ h => h) (Or.inr ⟨by rfl, rfl⟩) (by first | exact trivial | assumption) ?_
                  simp only [Act.put, List.setIfInBounds_toArray, List.set_cons_zero, List.set_cons_succ, List.getElem_toArray, List.getElem_cons_succ, List.getElem_cons_zero]
                  refine wpAnyH_take (i := 8) (v := undef) rfl (by kernel_rfl) (by kernel_rfl) (by kernel_rfl) (fun _ _ _ h => h) (Or.inr ⟨by rfl, rfl⟩) (by first | exact trivial | assumption) ?_
                  simp only [Act.put, List.setIfInBounds_toArray, List.set_cons_zero, List.set_cons_succ, List.getElem_toArray, List.getElem_cons_succ, List.getElem_cons_zero]
                  refine wpAnyH_take (i := 9) (v := (.bool false)) rfl (by kernel_rfl) (by kernel_rfl) (by kernel_rfl) (fun _ _ _ h => h) (Or.inl ⟨by rfl, fun ww hSw => by (try dsimp only at hSw); go_simp⟩) (by first | exact trivial | assumption) ?_
                  simp only [Act.put, List.setIfInBounds_toArray, List.set_cons_zero, List.set_cons_succ, List.getElem_toArray, List.getElem_cons_succ, List.getElem_cons_zero]
                  refine wpAnyH_take (i := 10) (v := (.bool false)) rfl (by kernel_rfl) (by kernel_rfl) (by kernel_rfl) (fun _ _ _ h => h) (Or.inl ⟨by rfl, fun ww hSw => by (try dsimp only at hSw); go_simp⟩) (by first | exact trivial | assumption) ?_
                  simp only [Act.put, List.setIfInBounds_toArray, List.set_cons_zero, List.set_cons_succ, List.getElem_toArray, List.getElem_cons_succ, List.getElem_cons_zero]
                  refine wpAnyH_take (i := 11) (v := (.int .i64 ki)) rfl (by kernel_rfl) (by kernel_rfl) (by kernel_rfl) (fun _ _ _ h => h) (Or.inl ⟨by rfl, fun ww hSw => by (try dsimp only at hSw); go_simp⟩) (by first | exact trivial | assumption) ?_
                  simp only [Act.put, List.setIfInBounds_toArray, List.set_cons_zero, List.set_cons_succ, List.getElem_toArray, List.getElem_cons_succ, List.getElem_cons_zero]
                  refine wpAnyH_take (i := 12) (v := (.bool true)) rfl (by kernel_rfl) (by kernel_rfl) (by kernel_rfl) (fun _ _ _ h => h) (Or.inl ⟨by rfl, fun ww hSw => by (try dsimp only at hSw); go_simp⟩) (by first | exact trivial | assumption) ?_
                  simp only [Act.put, List.setIfInBounds_toArray, List.set_cons_zero, List.set_cons_succ, List.getElem_toArray, List.getElem_cons_succ, List.getElem_cons_zero]
                  refine wpAnyH_take (i := 13) (v := (.bool true)) rfl (by kernel_rfl) (by kernel_rfl) (by kernel_rfl) (fun _ _ _ h => h) (Or.inl ⟨by rfl, fun ww hSw => by (try dsimp only at hSw); go_simp⟩) (by first | exact trivial | assumption) ?_
                  simp only [Act.put, List.setIfInBounds_toArray, List.set_cons_zero, List.set_cons_succ, List.getElem_toArray, List.getElem_cons_succ, List.getElem_cons_zero]
                  refine wpAnyH_take (i := 14) (v := (.int .i64 0)) rfl (by kernel_rfl) (by kernel_rfl) (by kernel_rfl) (fun _ _ _ h => h) (Or.inl ⟨by rfl, fun ww hSw => by (try dsimp only at hSw); go_simp⟩) (by first | exact trivial | assumption) ?_
                  simp only [Act.put, List.setIfInBounds_toArray, List.set_cons_zero, List.set_cons_succ, List.getElem_toArray, List.getElem_cons_succ, List.getElem_cons_zero]
                  refine wpAnyH_take (i := 15) (v := (.bool false)) rfl (by kernel_rfl) (by kernel_rfl) (by kernel_rfl) (fun _ _ _ h => h) (Or.inl ⟨by rfl, fun ww hSw => by (try dsimp only at hSw); go_simp⟩) (by first | exact trivial | assumption) ?_
                  simp only [Act.put, List.setIfInBounds_toArray, List.set_cons_zero, List.set_cons_succ, List.getElem_toArray, List.getElem_cons_succ, List.getElem_cons_zero]
                  refine wpAnyH_take (i := 16) (v := (.bool false)) rfl (by kernel_rfl) (by kernel_rfl) (by kernel_rfl) (fun _ _ _ h => h) (Or.inl ⟨by rfl, fun ww hSw => by (try dsimp only at hSw); go_simp⟩) (by first | exact trivial | assumption) ?_
                  simp only [Act.put, List.setIfInBounds_toArray, List.set_cons_zero, List.set_cons_succ, List.getElem_toArray, List.getElem_cons_succ, List.getElem_cons_zero]
                  refine wpAnyH_take (i := 17) (v := (.int .u64 (toP pk mk))) rfl (by kernel_rfl) (by kernel_rfl) (by kernel_rfl) (fun _ _ _ h => h) (Or.inl ⟨by rfl, fun ww hSw => by (try dsimp only at hSw); go_simp⟩) (by first | exact trivial | assumption) ?_
                  simp only [Act.put, List.setIfInBounds_toArray, List.set_cons_zero, List.set_cons_succ, List.getElem_toArray, List.getElem_cons_succ, List.getElem_cons_zero]
                  refine wpAnyH_take (i := 18) (v := (.slice (some ⟨g2, 0, .none⟩) ln cl)) rfl (by kernel_rfl) (by kernel_rfl) (by kernel_rfl) (fun _ _ _ h => h) (Or.inl ⟨by rfl, fun ww hSw => by (try dsimp only at hSw); go_simp⟩) (by first | exact trivial | assumption) ?_
                  simp only [Act.put, List.setIfInBounds_toArray, List.set_cons_zero, List.set_cons_succ, List.getElem_toArray, List.getElem_cons_succ, List.getElem_cons_zero]
                  refine wpAnyH_take (i := 19) (v := (.int .i64 ki)) rfl (by kernel_rfl) (by kernel_rfl) (by kernel_rfl) (fun _ _ _ h => h) (Or.inl ⟨by rfl, fun ww hSw => by (try dsimp only at hSw); go_simp⟩) (by first | exact trivial | assumption) ?_
                  simp only [Act.put, List.setIfInBounds_toArray, List.set_cons_zero, List.set_cons_succ, List.getElem_toArray, List.getElem_cons_succ, List.getElem_cons_zero]
                  refine wpAnyH_take (i := 20) (v := (.pointer (some ⟨g2, ki * 3, .none⟩))) rfl (by kernel_rfl) (by kernel_rfl) (by kernel_rfl) (fun _ _ _ h => h) (Or.inl ⟨by rfl, fun ww hSw => by (try dsimp only at hSw); go_simp⟩) (by first | exact trivial | assumption) ?_
                  simp only [Act.put, List.setIfInBounds_toArray, List.set_cons_zero, List.set_cons_succ, List.getElem_toArray, List.getElem_cons_succ, List.getElem_cons_zero]
                  refine wpAnyH_take (i := 21) (v := (.pointer (some ⟨g2, ki * 3 + 1, .none⟩))) rfl (by kernel_rfl) (by kernel_rfl) (by kernel_rfl) (fun _ _ _ h => h) (Or.inl ⟨by rfl, fun ww hSw => by (try dsimp only at hSw); go_simp⟩) (by first | exact trivial | assumption) ?_
                  simp only [Act.put, List.setIfInBounds_toArray, List.set_cons_zero, List.set_cons_succ, List.getElem_toArray, List.getElem_cons_succ, List.getElem_cons_zero]
                  refine wpAnyH_take (i := 22) (v := (.int .u64 pk)) rfl (by kernel_rfl) (by kernel_rfl) (by kernel_rfl) (fun _ _ _ h => h) (Or.inl ⟨by rfl, fun ww hSw => by (try dsimp only at hSw); obtain ⟨s1, s2⟩ := hSw; go_simp⟩) (by first | exact trivial | assumption) ?_
                  simp only [Act.put, List.setIfInBounds_toArray, List.set_cons_zero, List.set_cons_succ, List.getElem_toArray, List.getElem_cons_succ, List.getElem_cons_zero]
                  refine wpAnyH_take (i := 23) (v := (.int .u64 (pk / 4096))) rfl (by kernel_rfl) (by kernel_rfl) (by kernel_rfl) (fun _ _ _ h => h) (Or.inl ⟨by rfl, fun ww hSw => by (try dsimp only at hSw); go_simp⟩) (by first | exact trivial | assumption) ?_
                  simp only [Act.put, List.setIfInBounds_toArray, List.set_cons_zero, List.set_cons_succ, List.getElem_toArray, List.getElem_cons_succ, List.getElem_cons_zero]
                  refine wpAnyH_take (i := 24) (v := (.int .u64 (pk / 4096 * 1024))) rfl (by kernel_rfl) (by kernel_rfl) (by kernel_rfl) (fun _ _ _ h => h) (Or.inl ⟨by rfl, fun ww hSw => by (try dsimp only at hSw); go_simp⟩) (by first | exact trivial | assumption) ?_
                  simp only [Act.put, List.setIfInBounds_toArray, List.set_cons_zero, List.set_cons_succ, List.getElem_toArray, List.getElem_cons_succ, List.getElem_cons_zero]
                  refine wpAnyH_take (i := 25) (v := (.slice (some ⟨g2, 0, .none⟩) ln cl)) rfl (by kernel_rfl) (by kernel_rfl) (by kernel_rfl) (fun _ _ _ h => h) (Or.inl ⟨by rfl, fun ww hSw => by (try dsimp only at hSw); go_simp⟩) (by first | exact trivial | assumption) ?_
                  simp only [Act.put, List.setIfInBounds_toArray, List.set_cons_zero, List.set_cons_succ, List.getElem_toArray, List.getElem_cons_succ, List.getElem_cons_zero]
                  refine wpAnyH_take (i := 26) (v := (.int .i64 ki)) rfl (by kernel_rfl) (by kernel_rfl) (by kernel_rfl) (fun _ _ _ h => h) (Or.inl ⟨by rfl, fun ww hSw => by (try dsimp only at hSw); go_simp⟩) (by first | exact trivial | assumption) ?_
                  simp only [Act.put, List.setIfInBounds_toArray, List.set_cons_zero, List.set_cons_succ, List.getElem_toArray, List.getElem_cons_succ, List.getElem_cons_zero]
                  refine wpAnyH_take (i := 27) (v := (.pointer (some ⟨g2, ki * 3, .none⟩))) rfl (by kernel_rfl) (by kernel_rfl) (by kernel_rfl) (fun _ _ _ h => h) (Or.inl ⟨by rfl, fun ww hSw => by (try dsimp only at hSw); go_simp⟩) (by first | exact trivial | assumption) ?_
                  simp only [Act.put, List.setIfInBounds_toArray, List.set_cons_zero, List.set_cons_succ, List.getElem_toArray, List.getElem_cons_succ, List.getElem_cons_zero]
                  refine wpAnyH_take (i := 28) (v := (.pointer (some ⟨g2, ki * 3 + 2, .none⟩))) rfl (by kernel_rfl) (by kernel_rfl) (by kernel_rfl) (fun _ _ _ h => h) (Or.inl ⟨by rfl, fun ww hSw => by (try dsimp only at hSw); go_simp⟩) (by first | exact trivial | assumption) ?_
                  simp only [Act.put, List.setIfInBounds_toArray, List.set_cons_zero, List.set_cons_succ, List.getElem_toArray, List.getElem_cons_succ, List.getElem_cons_zero]
                  refine wpAnyH_take (i := 29) (v := (.int .u64 mk)) rfl (by kernel_rfl) (by kernel_rfl) (by kernel_rfl) (fun _ _ _ h => h) (Or.inl ⟨by rfl, fun ww hSw => by (try dsimp only at hSw); obtain ⟨s1, s2⟩ := hSw; go_simp⟩) (by first | exact trivial | assumption) ?_
                  simp only [Act.put, List.setIfInBounds_toArray, List.set_cons_zero, List.set_cons_succ, List.getElem_toArray, List.getElem_cons_succ, List.getElem_cons_zero]
                  refine wpAnyH_take (i := 30) (v := (.int .u64 (bits .or .u64 (pk / 4096 * 1024) mk))) rfl (by kernel_rfl) (by kernel_rfl) (by kernel_rfl) (fun _ _ _ h => h) (Or.inl ⟨by rfl, fun ww hSw => by (try dsimp only at hSw); go_simp⟩) (by first | exact trivial | assumption) ?_
                  simp only [Act.put, List.setIfInBounds_toArray, List.set_cons_zero, List.set_cons_succ, List.getElem_toArray, List.getElem_cons_succ, List.getElem_cons_zero]
                  refine wpAnyH_take (i := 31) (v := (.int .u64 (toP pk mk))) rfl (by kernel_rfl) (by kernel_rfl) (by kernel_rfl) (fun _ _ _ h => h) (Or.inl ⟨by rfl, fun ww hSw => by (try dsimp only at hSw); go_simp; rfl⟩) (by first | exact trivial | assumption) ?_
                  simp only [Act.put, List.setIfInBounds_toArray, List.set_cons_zero, List.set_cons_succ, List.getElem_toArray, List.getElem_cons_succ, List.getElem_cons_zero]
                  refine wpAnyH_take (i := 32) (v := (.bool false)) rfl (by kernel_rfl) (by kernel_rfl) (by kernel_rfl) (fun _ _ _ h => h) (Or.inl ⟨by rfl, fun ww hSw => by (try dsimp only at hSw); go_simp⟩) (by first | exact trivial | assumption) ?_
                  simp only [Act.put, List.setIfInBounds_toArray, List.set_cons_zero, List.set_cons_succ, List.getElem_toArray, List.getElem_cons_succ, List.getElem_cons_zero]
                  refine wpAnyH_take (i := 33) (v := (.bool false)) rfl (by kernel_rfl) (by kernel_rfl) (by kernel_rfl) (fun _ _ _ h => h) (Or.inl ⟨by rfl, fun ww hSw => by (try dsimp only at hSw); go_simp⟩) (by first | exact trivial | assumption) ?_
                  simp only [Act.put, List.setIfInBounds_toArray, List.set_cons_zero, List.set_cons_succ, List.getElem_toArray, List.getElem_cons_succ, List.getElem_cons_zero]
                  refine wpAnyH_take (i := 34) (v := (.bool false)) rfl (by kernel_rfl) (by kernel_rfl) (by kernel_rfl) (fun _ _ _ h => h) (Or.inl ⟨by rfl, fun ww hSw => by (try dsimp only at hSw); go_simp⟩) (by first | exact trivial | assumption) ?_
                  simp only [Act.put, List.setIfInBounds_toArray, List.set_cons_zero, List.set_cons_succ, List.getElem_toArray, List.getElem_cons_succ, List.getElem_cons_zero]
                  refine wpAnyH_take (i := 35) (v := (.bool false)) rfl (by kernel_rfl) (by kernel_rfl) (by kernel_rfl) (fun _ _ _ h => h) (Or.inl ⟨by rfl, fun ww hSw => by (try dsimp only at hSw); go_simp⟩) (by first | exact trivial | assumption) ?_
                  simp only [Act.put, List.setIfInBounds_toArray, List.set_cons_zero, List.set_cons_succ, List.getElem_toArray, List.getElem_cons_succ, List.getElem_cons_zero]
                  refine wpAnyH_done (by kernel_rfl) ?_ _
                  clear hHeld kS hquo hshl hb2 hb3
                  have hrow5 : PgR w5 X (.slice (some ⟨g2, 0, .none⟩) ln cl) l := HW.out.row.keep (fun j hj hl => by have := HX.out; exact H4.out.2.block j hl (by omega) (by omega) (by omega))
                  have c24 := without_any (c := cl) (by rw [HLN.out] at hrow5; exact hrow5) (by have := HLN.out; omega) ki
                  rw [← HLN.out] at c24
                  clear hrow5
                  go_wp2_with (first | (go_at_call 24; refine c24.mono ?_; rintro _ w6 ⟨v6, rfl, r6, b6⟩; have H6 : Hid (PgR w6 w5.heap.size v6 (l.eraseIdx ki) ∧ Below w5.heap.size w5 w6) := ⟨r6, b6⟩; clear r6 b6 c24))
                  go_meet
                  have hx := HX.out
                  have f4 := H4.out.2
                  have hbw : Below w.heap.size w w5 := HW.out.bel.trans (f4.toBelow HW.out.bel.size hx.2.1 hx.2.2.1 hx.2.2.2)
                  have hxs := Nat.le_trans HW.out.xs f4.size
                  have hPX := HP.out.1
                  exact ⟨l.eraseIdx ki, by have h1 := List.length_eraseIdx_le l ki; have := HLN.out; omega, ⟨hbw.trans (H6.out.2.mono hbw.size), H4.out.1.below H6.out.2, H6.out.1.base hxs, Nat.le_trans hxs H6.out.2.size⟩, (HP.out.2.fra f4 (by omega) (by omega) (by omega)).below H6.out.2⟩
            · obtain ⟨nd, hnd, c19, hM⟩ := HW.out.tb.map (va, pa, pm) HO.out.1 HO.out.2
              simp only at c19 hM
              have HM : Hid (∀ W1, Below wc.heap.size wc W1 → Calls Try.prog 11 #[.pointer (some ⟨p, 0, .none⟩), .int .u64 (ad r), .int .u64 va, .int .u64 pa, .int .u64 pm] W1 (MpP p b m nn r K nd l (va, pa, pm) W1)) := hM
              clear hM
              go_upto_region 22 with (go_at_call 19; refine c19.mono ?_; rintro _ w4 ⟨rfl, b4⟩; have H4 : Hid (Below wc.heap.size wc w4) := b4; clear b4 c19)
              have c11 := HM.out w4 H4.out
              clear HM z0 z1 z2 y0 y1 y2
              obtain ⟨z0, z1, z2, y0, y1, y2⟩ := HP.out.2.below H4.out
              have hx := HX.out
              have hPX := HP.out.1
              rcases HF.out with ⟨rfl, hno⟩ | ⟨ki, hki, rfl, hvk, _⟩
              · have hno2 := no_of HLN.out hno
                obtain ⟨t1, ht1⟩ : ∃ t1, t1 = prt (gV l) 1073741824 l.length := ⟨_, rfl⟩
                obtain ⟨t2, ht2⟩ : ∃ t2, t2 = prt (gV l) 2097152 l.length := ⟨_, rfl⟩
                have c11' : Calls Try.prog 11 #[.pointer (some ⟨p, 0, .none⟩), .int .u64 (ad r), .int .u64 va, .int .u64 pa, .int .u64 pm] w4 fun e w' => ∃ ve, e = .returned (.int .i64 ve) ∧ ((K < nd + t1 + t2 ∧ ve = 85 ∧ Below w4.heap.size w4 w') ∨ (nd + t1 + t2 ≤ K ∧ ve = 0 ∧ Tb p b m nn r K (l ++ [(va, pa, pm)]) w' ∧ Fra p b m w4 w')) := c11.mono fun e w' h => by
                  rw [ht1, ht2]
                  rcases h with ⟨⟨y9, h9, e9⟩, _⟩ | ⟨_, h1, h2, h3⟩ | ⟨_, h1, h2, h3, h4⟩
                  · exact absurd e9 (hno2 y9 h9)
                  · exact ⟨_, h2, .inl ⟨h1, rfl, h3⟩⟩
                  · exact ⟨_, h2, .inr ⟨h1, rfl, h3, h4⟩⟩
                clear c11 hno hno2
                have hb9 : ∀ i, 0 ≤ gV l i ∧ gV l i < 18446744073709551616 := gV_b HW.out.tb.ok.1
                have hpr := HW.out.tb.parts
                rw [← ht1, ← ht2] at hpr
                have HPR : Hid (t1 = prt (gV l) 1073741824 l.length ∧ t2 = prt (gV l) 2097152 l.length ∧ (∀ i, 0 ≤ gV l i ∧ gV l i < 18446744073709551616)) := ⟨ht1, ht2, hb9⟩
                clear ht1 ht2 hb9
                go_upto_region 23 with (go_at_call 11; refine c11'.mono ?_; rintro _ w5 ⟨ve, rfl, hM⟩; have H5 : Hid ((K < nd + t1 + t2 ∧ ve = 85 ∧ Below w4.heap.size w4 w5) ∨ (nd + t1 + t2 ≤ K ∧ ve = 0 ∧ Tb p b m nn r K (l ++ [(va, pa, pm)]) w5 ∧ Fra p b m w4 w5)) := hM; clear hM c11' z0 z1 z2 y0 y1 y2)
                have hF5 : Fra p b m wc w5 := by
                  rcases H5.out with ⟨_, _, h⟩ | ⟨_, _, _, h⟩
                  · exact (Fra.below H4.out).trans (Fra.below h)
                  · exact (Fra.below H4.out).trans h
                have hrow5 : PgR w5 X (.slice q ln cl) l := HW.out.row.keep (fun j hj hl => hF5.block j hl (by omega) (by omega) (by omega))
                have H6 : Hid (Fra p b m wc w5 ∧ PgR w5 X (.slice q ln cl) l ∧ Below w.heap.size w w5 ∧ X ≤ w5.heap.size ∧ C3 w5 P (.int .u64 va) (.int .u64 pa) (.int .u64 pm)) := ⟨hF5, hrow5, HW.out.bel.trans (hF5.toBelow HW.out.bel.size hx.2.1 hx.2.2.1 hx.2.2.2), Nat.le_trans HW.out.xs hF5.size, HP.out.2.fra hF5 (by omega) (by omega) (by omega)⟩
                have hsee5 : SeP w5 q ln (gV l) (gA l) (gP l) := by rw [HLN.out] at hrow5 ⊢; exact hrow5.see
                have c29a : Calls Try.prog 29 #[.slice q ln cl, .int .u64 1073741824] w5 fun e w' => e = .returned (.int .i64 t1) ∧ Below w5.heap.size w5 w' := by rw [HPR.out.1, ← HLN.out]; exact parts_any hsee5 HPR.out.2.2 1073741824 (.inl rfl) (by have := HLN.out; omega)
                have H29 : Hid (∀ W, Below w5.heap.size w5 W → Calls Try.prog 29 #[.slice q ln cl, .int .u64 2097152] W fun e w' => e = .returned (.int .i64 t2) ∧ Below W.heap.size W w') := fun W hW => by rw [HPR.out.2.1, ← HLN.out]; exact parts_any (hsee5.keep hW) HPR.out.2.2 2097152 (.inr rfl) (by have := HLN.out; omega)
                clear hF5 hrow5 hsee5
                have hw1 : IntKind.i64.wrap ((K : Int) - t1) = K - t1 := by rw [IntKind.wrap_i64]; omega
                have hw2 : IntKind.i64.wrap ((K : Int) - t1 - t2) = K - t1 - t2 := by rw [IntKind.wrap_i64]; omega
                rcases H5.out with ⟨h1, rfl, b5⟩ | ⟨h1, rfl, t5, f5⟩
                · as_aux_lemma =>
                    have hcmp : (K : Int) - t1 - t2 < nd := by omega
                    have HT5 : Hid (Tb p b m nn r K l w5) := (HW.out.tb.below H4.out).below b5
                    clear b5 H5 h1
                    go_wp2_with fail
                    refine c29a.mono ?_
                    rintro _ w6 ⟨rfl, b6⟩
                    have c29b := H29.out w6 b6
                    have H7 : Hid (Below w5.heap.size w5 w6) := b6
                    clear b6 c29a H29
                    go_wp2_with fail
                    refine c29b.mono ?_
                    rintro _ w7 ⟨rfl, b7⟩
                    have H8 : Hid (Below w5.heap.size w5 w7) := H7.out.trans (b7.mono H7.out.size)
                    clear b7 c29b H7
                    go_wp2_with fail
                    go_meet
                    exact ⟨l, by have := HLN.out; omega, TIn.below ⟨H6.out.2.2.1, HT5.out, H6.out.2.1, H6.out.2.2.2.1⟩ H8.out, H6.out.2.2.2.2.below H8.out⟩
                · as_aux_lemma =>
                    have hcmp : ¬ (K : Int) - t1 - t2 < nd := by omega
                    have HT5 : Hid (Tb p b m nn r K (l ++ [(va, pa, pm)]) w5) := t5
                    have HG : Hid (∀ k, (Value.slice q ln cl).ownBlock = some k → X ≤ k ∧ k < P) := fun k hk => ⟨(HW.out.row.lt k hk).1, Nat.lt_of_lt_of_le (HRW.out.2.lt k hk).2 HRW.out.1⟩
                    clear t5 f5 H5 h1
                    go_wp2_with fail
                    refine c29a.mono ?_
                    rintro _ w6 ⟨rfl, b6⟩
                    have c29b := H29.out w6 b6
                    have H7 : Hid (Below w5.heap.size w5 w6) := b6
                    clear b6 c29a H29
                    go_wp2_with fail
                    refine c29b.mono ?_
                    rintro _ w7 ⟨rfl, b7⟩
                    have H8 : Hid (Below w5.heap.size w5 w7) := H7.out.trans (b7.mono H7.out.size)
                    clear b7 c29b H7
                    obtain ⟨i3, z3, hi3, hz3, hs3, hb3, hzs3⟩ := page_info
                    have HRow : Hid (∀ o, (w7.alloc o).ownsRow X 33 3 (.slice q ln cl) ln (pcs l)) := fun o => by
                      have := H6.out.2.1.keep (W' := w7) (fun j _ hj => H8.out.block j hj)
                      rw [HLN.out]
                      rw [HLN.out] at this
                      exact World.ownsRow.alloc this o
                    obtain ⟨z0, z1, z2, y0, y1, y2⟩ := H6.out.2.2.2.2.below H8.out
                    have hX7 := Nat.le_trans H6.out.2.2.2.1 H8.out.size
                    have hln60 : ln ≤ 60 := by omega
                    skip
                    go_wp2_with (first | (at_builtin; refine wpList_append_own _ rfl _ _ 61 rfl X 33 i3 z3 3 24 Try.underlying61 hi3 hz3 hs3 hb3 hzs3 (by decide) _ ln (pcs l) rfl (HRow.out _) ⟨w7.heap.size, 0, .none⟩ 1 1 [.int .u64 va, .int .u64 pa, .int .u64 pm] rfl rfl (three_new _ _ _ _ _) (by simp [Value.oneCell']) (by unfold maxLen; omega) (by omega) (by simp only [World.size_alloc]; omega) ?_; intro v' w8 hown8 hgrow _) | fail)
                    go_meet
                    have bA : Below w7.heap.size w7 (w7.alloc (.cells #[.int .u64 va, .int .u64 pa, .int .u64 pm] 33)) := below1 _ _
                    have kb : ∀ j, j < w7.heap.size → (∀ k, (Value.slice q ln cl).ownBlock = some k → j ≠ k) → w8.heap[j]? = w7.heap[j]? := fun j hj hne => (hgrow.block j (by simp; omega) (fun e => hne j e.symm rfl)).trans (bA.block j hj)
                    have hlt5 := HT5.out.lt
                    have hs8 := H8.out.size
                    have hT7 := HT5.out.below H8.out
                    have hP7 : P < w7.heap.size := lt_of_cell z0
                    have hT8 : Tb p b m nn r K (l ++ [(va, pa, pm)]) w8 := hT7.blocks (kb p (by omega) (fun k hk => by have := (HG.out k hk).1; omega)) (kb b (by omega) (fun k hk => by have := (HG.out k hk).1; omega)) (kb m (by omega) (fun k hk => by have := (HG.out k hk).1; omega))
                    have hb7 : Below w.heap.size w w7 := H6.out.2.2.1.trans (H8.out.mono H6.out.2.2.1.size)
                    have hgs : w7.heap.size ≤ w8.heap.size := Nat.le_trans (by simp) hgrow.size
                    have hwX : w.heap.size ≤ X := by omega
                    have hb8 : Below w.heap.size w w8 := ⟨hgrow.os.trans hb7.os, hgrow.tape.trans hb7.tape, hgrow.output.trans hb7.output, Nat.le_trans hb7.size hgs, fun k hk => (kb k (by have := hb7.size; omega) (fun k9 hk9 => by have := (HG.out k9 hk9).1; omega)).trans (hb7.block k hk)⟩
                    have eP : w8.heap[P]? = w7.heap[P]? := kb P hP7 (fun k hk => by have := (HG.out k hk).2; omega)
                    have ec : ∀ o, w8.cell? ⟨P, o, .none⟩ = w7.cell? ⟨P, o, .none⟩ := fun o => by simp only [World.cell?, eP]
                    have ef : ∀ o, w8.frozen? ⟨P, o, .none⟩ = w7.frozen? ⟨P, o, .none⟩ := fun o => by simp only [World.frozen?, eP]
                    refine ⟨l ++ [(va, pa, pm)], by have := HLN.out; simp; omega, ⟨hb8, hT8, ?_, by omega⟩, ⟨(ec 0).trans z0, (ec 1).trans z1, (ec 2).trans z2, (ef 0).trans y0, (ef 1).trans y1, (ef 2).trans y2⟩⟩
                    unfold PgR
                    rw [pcs_app, List.length_append, ← HLN.out]
                    exact hown8
              · as_aux_lemma =>
                  obtain ⟨yk, hyl, hyi, hv9, ha9, hp9⟩ := at_of (l := l) (i := ki) (by rw [← HLN.out]; exact hki)
                  have c11' : Calls Try.prog 11 #[.pointer (some ⟨p, 0, .none⟩), .int .u64 (ad r), .int .u64 va, .int .u64 pa, .int .u64 pm] w4 fun e w' => e = .returned (.int .i64 84) ∧ Below w4.heap.size w4 w' := c11.mono fun e w' h => by
                    rcases h with ⟨_, h2, h3⟩ | ⟨h1, _⟩ | ⟨h1, _⟩
                    · exact ⟨h2, h3⟩
                    · exact absurd (hv9.symm.trans hvk) (h1 yk hyl)
                    · exact absurd (hv9.symm.trans hvk) (h1 yk hyl)
                  clear c11 hyl hyi hv9 ha9 hp9 hvk
                  go_upto_region 23 with (go_at_call 11; refine c11'.mono ?_; rintro _ w5 ⟨rfl, b5⟩; have H5 : Hid (Below wc.heap.size wc w5) := H4.out.trans (b5.mono H4.out.size); clear b5 c11' z0 z1 z2 y0 y1 y2)
                  go_wp2_with fail
                  go_meet
                  exact ⟨l, by have := HLN.out; omega, HW.out.below H5.out, HP.out.2.below H5.out⟩
          case rest =>
            as_aux_lemma =>
              obtain ⟨l2, hl2, HE⟩ := hcut
              obtain ⟨q2, c2, rfl⟩ := HE.out.1.row.shape
              obtain ⟨n2, hn2⟩ : ∃ n2, n2 = l2.length := ⟨_, rfl⟩
              have hrow := HE.out.1.row
              have hsee := hrow.see
              obtain ⟨t1, ht1⟩ : ∃ t1, t1 = prt (gV l2) 1073741824 l2.length := ⟨_, rfl⟩
              obtain ⟨t2, ht2⟩ : ∃ t2, t2 = prt (gV l2) 2097152 l2.length := ⟨_, rfl⟩
              have hpr := HE.out.1.tb.parts
              have hb9 : ∀ i, 0 ≤ gV l2 i ∧ gV l2 i < 18446744073709551616 := gV_b HE.out.1.tb.ok.1
              have c25 : ∀ W, Below wc.heap.size wc W → Calls Try.prog 25 #[.pointer (some ⟨p, 0, .none⟩), .int .u64 (ad r), .slice q2 l2.length c2] W fun e w' => e = .returned (.bool true) ∧ Below wc.heap.size wc w' := fun W hW => ((HE.out.1.tb.below hW).holds (by omega) (hsee.keep hW)).mono (fun e w' h => ⟨h.1, hW.trans (h.2.mono hW.size)⟩)
              have c27 : ∀ W, Below wc.heap.size wc W → Calls Try.prog 27 #[.pointer (some ⟨p, 0, .none⟩)] W fun e w' => e = .returned (.int .i64 ((K : Int) - t1 - t2)) ∧ Below wc.heap.size wc w' := fun W hW => by rw [ht1, ht2]; exact (HE.out.1.tb.below hW).count.mono (fun e w' h => ⟨h.1, hW.trans (h.2.mono hW.size)⟩)
              have c29a : ∀ W, Below wc.heap.size wc W → Calls Try.prog 29 #[.slice q2 l2.length c2, .int .u64 1073741824] W fun e w' => e = .returned (.int .i64 t1) ∧ Below wc.heap.size wc w' := fun W hW => by rw [ht1]; exact (parts_any (hsee.keep hW) hb9 1073741824 (.inl rfl) (by omega)).mono (fun e w' h => ⟨h.1, hW.trans (h.2.mono hW.size)⟩)
              have c29b : ∀ W, Below wc.heap.size wc W → Calls Try.prog 29 #[.slice q2 l2.length c2, .int .u64 2097152] W fun e w' => e = .returned (.int .i64 t2) ∧ Below wc.heap.size wc w' := fun W hW => by rw [ht2]; exact (parts_any (hsee.keep hW) hb9 2097152 (.inr rfl) (by omega)).mono (fun e w' h => ⟨h.1, hW.trans (h.2.mono hW.size)⟩)
              have c10 : ∀ W, Below wc.heap.size wc W → Calls Try.prog 10 #[.slice qb nb cb, .int .i64 i] W fun e w' => e = .returned (.int .u64 y) ∧ Below wc.heap.size wc w' := fun W hW => (at_any ((See.below HA.out.2.1 HE.out.1.bel).below hW) i).mono (fun e w' h => ⟨by rw [h.1, HY.out], by rw [h.2]; exact hW⟩)
              have hvb := HO.out.1.1
              simp only at hvb
              have c30 : ∀ W, Below wc.heap.size wc W → Calls Try.prog 30 #[.pointer (some ⟨p, 0, .none⟩), .int .u64 (ad r), .slice q2 l2.length c2, .int .u64 va, .int .u64 y] W fun e w' => e = .returned (.bool true) ∧ Below wc.heap.size wc w' := fun W hW => ((HE.out.1.tb.below hW).goes (by omega) (hsee.keep hW) va y hvb HYB.out).mono (fun e w' h => ⟨h.1, hW.trans (h.2.mono hW.size)⟩)
              rw [← ht1, ← ht2] at hpr
              clear ht1 ht2 hb9 hrow hsee hvb
              have HE2 : Hid (TIn w p b m nn r K X (.slice q2 n2 c2) l2 wc ∧ n2 = l2.length) := ⟨by rw [hn2]; exact HE.out.1, hn2⟩
              have hl22 : n2 ≤ i + 1 := by omega
              rw [← hn2] at c25 c29a c29b c30 ⊢
              have hP0 := HE.out.2.c0
              have hPlt : P < wc.heap.size := lt_of_cell hP0
              clear hn2 hl2 HE
              have hw0 : IntKind.i64.wrap (K : Int) = K := by rw [IntKind.wrap_i64]; omega
              have hw1 : IntKind.i64.wrap ((K : Int) - t1) = K - t1 := by rw [IntKind.wrap_i64]; omega
              have hw2 : IntKind.i64.wrap ((K : Int) - t1 - t2) = K - t1 - t2 := by rw [IntKind.wrap_i64]; omega
              have kS : Below wc.heap.size wc wc.drew := (Below.refl _ _).drew
              go_upto_region 32 with fail
              refine wp_region_held_drew (S := fun U => Below wc.heap.size wc U) (by kernel_rfl) kS (fun hHeld => ?_)
              refine wpAnyH_take (i := 0) (v := (.pointer (some ⟨p, 0, .none⟩))) rfl (by kernel_rfl) (by kernel_rfl) (by kernel_rfl) (fun _ _ _ h => h) (Or.inl ⟨by rfl, fun ww hSw => by (try dsimp only at hSw); go_simp⟩) (by first | exact trivial | assumption) ?_
              simp only [Act.put, List.setIfInBounds_toArray, List.set_cons_zero, List.set_cons_succ, List.getElem_toArray, List.getElem_cons_succ, List.getElem_cons_zero]
              refine wpAnyH_take (i := 1) (v := (.int .u64 (ad r))) rfl (by kernel_rfl) (by kernel_rfl) (by kernel_rfl) (fun _ _ _ h => h) (Or.inl ⟨by rfl, fun ww hSw => by (try dsimp only at hSw); go_simp⟩) (by first | exact trivial | assumption) ?_
              simp only [Act.put, List.setIfInBounds_toArray, List.set_cons_zero, List.set_cons_succ, List.getElem_toArray, List.getElem_cons_succ, List.getElem_cons_zero]
              refine wpAnyH_take (i := 2) (v := (.slice q2 n2 c2)) rfl (by kernel_rfl) (by kernel_rfl) (by kernel_rfl) (fun _ _ _ h => h) (Or.inl ⟨by rfl, fun ww hSw => by (try dsimp only at hSw); go_simp⟩) (by first | exact trivial | assumption) ?_
              simp only [Act.put, List.setIfInBounds_toArray, List.set_cons_zero, List.set_cons_succ, List.getElem_toArray, List.getElem_cons_succ, List.getElem_cons_zero]
              refine wpAnyH_ready (rs := [3]) (by kernel_rfl) (by simp) ?_
              refine AllReadyH.cons rfl (fun K9 hK => ?_) AllReadyH.nil
              go_simp
              go_at_call 25
              refine (c25 _ hHeld).mono ?_
              rintro _ x1 ⟨rfl, b9⟩
              clear hHeld
              refine hK.out _ _ b9 (fun hHeld => ?_)
              clear hK K9 b9
              try simp only [Act.put, List.setIfInBounds_toArray, List.set_cons_zero, List.set_cons_succ, List.getElem_toArray, List.getElem_cons_succ, List.getElem_cons_zero]
              refine wpAnyH_take (i := 4) (v := (.bool false)) rfl (by kernel_rfl) (by kernel_rfl) (by kernel_rfl) (fun _ _ _ h => h) (Or.inl ⟨by rfl, fun ww hSw => by (try dsimp only at hSw); go_simp⟩) (by first | exact trivial | assumption) ?_
              simp only [Act.put, List.setIfInBounds_toArray, List.set_cons_zero, List.set_cons_succ, List.getElem_toArray, List.getElem_cons_succ, List.getElem_cons_zero]
              refine wpAnyH_take (i := 5) (v := (.bool false)) rfl (by kernel_rfl) (by kernel_rfl) (by kernel_rfl) (fun _ _ _ h => h) (Or.inl ⟨by rfl, fun ww hSw => by (try dsimp only at hSw); go_simp⟩) (by first | exact trivial | assumption) ?_
              simp only [Act.put, List.setIfInBounds_toArray, List.set_cons_zero, List.set_cons_succ, List.getElem_toArray, List.getElem_cons_succ, List.getElem_cons_zero]
              refine wpAnyH_take (i := 6) (v := (.pointer (some ⟨p, 0, .none⟩))) rfl (by kernel_rfl) (by kernel_rfl) (by kernel_rfl) (fun _ _ _ h => h) (Or.inl ⟨by rfl, fun ww hSw => by (try dsimp only at hSw); go_simp⟩) (by first | exact trivial | assumption) ?_
              simp only [Act.put, List.setIfInBounds_toArray, List.set_cons_zero, List.set_cons_succ, List.getElem_toArray, List.getElem_cons_succ, List.getElem_cons_zero]
              refine wpAnyH_take (i := 8) (v := (.int .i64 (K + 1))) rfl (by kernel_rfl) (by kernel_rfl) (by kernel_rfl) (fun _ _ _ h => h) (Or.inl ⟨by rfl, fun ww hSw => by (try dsimp only at hSw); go_simp⟩) (by first | exact trivial | assumption) ?_
              simp only [Act.put, List.setIfInBounds_toArray, List.set_cons_zero, List.set_cons_succ, List.getElem_toArray, List.getElem_cons_succ, List.getElem_cons_zero]
              refine wpAnyH_take (i := 9) (v := (.int .i64 K)) rfl (by kernel_rfl) (by kernel_rfl) (by kernel_rfl) (fun _ _ _ h => h) (Or.inl ⟨by rfl, fun ww hSw => by (try dsimp only at hSw); go_simp⟩) (by first | exact trivial | assumption) ?_
              simp only [Act.put, List.setIfInBounds_toArray, List.set_cons_zero, List.set_cons_succ, List.getElem_toArray, List.getElem_cons_succ, List.getElem_cons_zero]
              refine wpAnyH_take (i := 10) (v := (.slice q2 n2 c2)) rfl (by kernel_rfl) (by kernel_rfl) (by kernel_rfl) (fun _ _ _ h => h) (Or.inl ⟨by rfl, fun ww hSw => by (try dsimp only at hSw); go_simp⟩) (by first | exact trivial | assumption) ?_
              simp only [Act.put, List.setIfInBounds_toArray, List.set_cons_zero, List.set_cons_succ, List.getElem_toArray, List.getElem_cons_succ, List.getElem_cons_zero]
              refine wpAnyH_take (i := 13) (v := (.slice q2 n2 c2)) rfl (by kernel_rfl) (by kernel_rfl) (by kernel_rfl) (fun _ _ _ h => h) (Or.inl ⟨by rfl, fun ww hSw => by (try dsimp only at hSw); go_simp⟩) (by first | exact trivial | assumption) ?_
              simp only [Act.put, List.setIfInBounds_toArray, List.set_cons_zero, List.set_cons_succ, List.getElem_toArray, List.getElem_cons_succ, List.getElem_cons_zero]
              refine wpAnyH_ready (rs := [7]) (by kernel_rfl) (by simp) ?_
              refine AllReadyH.cons rfl (fun K9 hK => ?_) AllReadyH.nil
              go_simp
              go_at_call 27
              refine (c27 _ hHeld).mono ?_
              rintro _ x2 ⟨rfl, b9⟩
              clear hHeld
              refine hK.out _ _ b9 (fun hHeld => ?_)
              clear hK K9 b9
              try simp only [Act.put, List.setIfInBounds_toArray, List.set_cons_zero, List.set_cons_succ, List.getElem_toArray, List.getElem_cons_succ, List.getElem_cons_zero]
              refine wpAnyH_ready (rs := [11]) (by kernel_rfl) (by simp) ?_
              refine AllReadyH.cons rfl (fun K9 hK => ?_) AllReadyH.nil
              go_simp
              go_at_call 29
              refine (c29a _ hHeld).mono ?_
              rintro _ x3 ⟨rfl, b9⟩
              clear hHeld
              refine hK.out _ _ b9 (fun hHeld => ?_)
              clear hK K9 b9
              try simp only [Act.put, List.setIfInBounds_toArray, List.set_cons_zero, List.set_cons_succ, List.getElem_toArray, List.getElem_cons_succ, List.getElem_cons_zero]
              refine wpAnyH_take (i := 12) (v := (.int .i64 (K - t1))) rfl (by kernel_rfl) (by kernel_rfl) (by kernel_rfl) (fun _ _ _ h => h) (Or.inl ⟨by rfl, fun ww hSw => by (try dsimp only at hSw); go_simp⟩) (by first | exact trivial | assumption) ?_
              simp only [Act.put, List.setIfInBounds_toArray, List.set_cons_zero, List.set_cons_succ, List.getElem_toArray, List.getElem_cons_succ, List.getElem_cons_zero]
              refine wpAnyH_ready (rs := [14]) (by kernel_rfl) (by simp) ?_
              refine AllReadyH.cons rfl (fun K9 hK => ?_) AllReadyH.nil
              go_simp
              go_at_call 29
              refine (c29b _ hHeld).mono ?_
              rintro _ x4 ⟨rfl, b9⟩
              clear hHeld
              refine hK.out _ _ b9 (fun hHeld => ?_)
              clear hK K9 b9
              try simp only [Act.put, List.setIfInBounds_toArray, List.set_cons_zero, List.set_cons_succ, List.getElem_toArray, List.getElem_cons_succ, List.getElem_cons_zero]
              refine wpAnyH_take (i := 15) (v := (.int .i64 (K - t1 - t2))) rfl (by kernel_rfl) (by kernel_rfl) (by kernel_rfl) (fun _ _ _ h => h) (Or.inl ⟨by rfl, fun ww hSw => by (try dsimp only at hSw); go_simp⟩) (by first | exact trivial | assumption) ?_
              simp only [Act.put, List.setIfInBounds_toArray, List.set_cons_zero, List.set_cons_succ, List.getElem_toArray, List.getElem_cons_succ, List.getElem_cons_zero]
              refine wpAnyH_take (i := 16) (v := (.bool false)) rfl (by kernel_rfl) (by kernel_rfl) (by kernel_rfl) (fun _ _ _ h => h) (Or.inl ⟨by rfl, fun ww hSw => by (try dsimp only at hSw); go_simp⟩) (by first | exact trivial | assumption) ?_
              simp only [Act.put, List.setIfInBounds_toArray, List.set_cons_zero, List.set_cons_succ, List.getElem_toArray, List.getElem_cons_succ, List.getElem_cons_zero]
              refine wpAnyH_take (i := 17) (v := (.bool false)) rfl (by kernel_rfl) (by kernel_rfl) (by kernel_rfl) (fun _ _ _ h => h) (Or.inl ⟨by rfl, fun ww hSw => by (try dsimp only at hSw); go_simp⟩) (by first | exact trivial | assumption) ?_
              simp only [Act.put, List.setIfInBounds_toArray, List.set_cons_zero, List.set_cons_succ, List.getElem_toArray, List.getElem_cons_succ, List.getElem_cons_zero]
              refine wpAnyH_take (i := 18) (v := (.bool false)) rfl (by kernel_rfl) (by kernel_rfl) (by kernel_rfl) (fun _ _ _ h => h) (Or.inl ⟨by rfl, fun ww hSw => by (try dsimp only at hSw); go_simp⟩) (by first | exact trivial | assumption) ?_
              simp only [Act.put, List.setIfInBounds_toArray, List.set_cons_zero, List.set_cons_succ, List.getElem_toArray, List.getElem_cons_succ, List.getElem_cons_zero]
              refine wpAnyH_take (i := 19) (v := (.pointer (some ⟨p, 0, .none⟩))) rfl (by kernel_rfl) (by kernel_rfl) (by kernel_rfl) (fun _ _ _ h => h) (Or.inl ⟨by rfl, fun ww hSw => by (try dsimp only at hSw); go_simp⟩) (by first | exact trivial | assumption) ?_
              simp only [Act.put, List.setIfInBounds_toArray, List.set_cons_zero, List.set_cons_succ, List.getElem_toArray, List.getElem_cons_succ, List.getElem_cons_zero]
              refine wpAnyH_take (i := 20) (v := (.int .u64 (ad r))) rfl (by kernel_rfl) (by kernel_rfl) (by kernel_rfl) (fun _ _ _ h => h) (Or.inl ⟨by rfl, fun ww hSw => by (try dsimp only at hSw); go_simp⟩) (by first | exact trivial | assumption) ?_
              simp only [Act.put, List.setIfInBounds_toArray, List.set_cons_zero, List.set_cons_succ, List.getElem_toArray, List.getElem_cons_succ, List.getElem_cons_zero]
              refine wpAnyH_take (i := 21) (v := (.slice q2 n2 c2)) rfl (by kernel_rfl) (by kernel_rfl) (by kernel_rfl) (fun _ _ _ h => h) (Or.inl ⟨by rfl, fun ww hSw => by (try dsimp only at hSw); go_simp⟩) (by first | exact trivial | assumption) ?_
              simp only [Act.put, List.setIfInBounds_toArray, List.set_cons_zero, List.set_cons_succ, List.getElem_toArray, List.getElem_cons_succ, List.getElem_cons_zero]
              refine wpAnyH_take (i := 22) (v := (.pointer (some ⟨P, 0, .none⟩))) rfl (by kernel_rfl) (by kernel_rfl) (by kernel_rfl) (fun _ _ _ h => h) (Or.inl ⟨by rfl, fun ww hSw => by (try dsimp only at hSw); go_simp⟩) (by first | exact trivial | assumption) ?_
              simp only [Act.put, List.setIfInBounds_toArray, List.set_cons_zero, List.set_cons_succ, List.getElem_toArray, List.getElem_cons_succ, List.getElem_cons_zero]
              refine wpAnyH_take (i := 23) (v := (.int .u64 va)) rfl (by kernel_rfl) (by kernel_rfl) (by kernel_rfl) (fun _ _ _ h => h) (Or.inl ⟨by rfl, fun ww hSw => by (try dsimp only at hSw); have q0 := (Below.cell hSw (p := ⟨P, 0, .none⟩) hPlt).trans hP0; go_simp⟩) (by first | exact trivial | assumption) ?_
              simp only [Act.put, List.setIfInBounds_toArray, List.set_cons_zero, List.set_cons_succ, List.getElem_toArray, List.getElem_cons_succ, List.getElem_cons_zero]
              refine wpAnyH_take (i := 24) (v := (.slice qb nb cb)) rfl (by kernel_rfl) (by kernel_rfl) (by kernel_rfl) (fun _ _ _ h => h) (Or.inl ⟨by rfl, fun ww hSw => by (try dsimp only at hSw); go_simp⟩) (by first | exact trivial | assumption) ?_
              simp only [Act.put, List.setIfInBounds_toArray, List.set_cons_zero, List.set_cons_succ, List.getElem_toArray, List.getElem_cons_succ, List.getElem_cons_zero]
              refine wpAnyH_take (i := 25) (v := (.int .i64 i)) rfl (by kernel_rfl) (by kernel_rfl) (by kernel_rfl) (fun _ _ _ h => h) (Or.inl ⟨by rfl, fun ww hSw => by (try dsimp only at hSw); go_simp⟩) (by first | exact trivial | assumption) ?_
              simp only [Act.put, List.setIfInBounds_toArray, List.set_cons_zero, List.set_cons_succ, List.getElem_toArray, List.getElem_cons_succ, List.getElem_cons_zero]
              refine wpAnyH_ready (rs := [26]) (by kernel_rfl) (by simp) ?_
              refine AllReadyH.cons rfl (fun K9 hK => ?_) AllReadyH.nil
              go_simp
              go_at_call 10
              refine (c10 _ hHeld).mono ?_
              rintro _ x5 ⟨rfl, b9⟩
              clear hHeld
              refine hK.out _ _ b9 (fun hHeld => ?_)
              clear hK K9 b9
              try simp only [Act.put, List.setIfInBounds_toArray, List.set_cons_zero, List.set_cons_succ, List.getElem_toArray, List.getElem_cons_succ, List.getElem_cons_zero]
              refine wpAnyH_ready (rs := [27]) (by kernel_rfl) (by simp) ?_
              refine AllReadyH.cons rfl (fun K9 hK => ?_) AllReadyH.nil
              go_simp
              go_at_call 30
              refine (c30 _ hHeld).mono ?_
              rintro _ x6 ⟨rfl, b9⟩
              clear hHeld
              refine hK.out _ _ b9 (fun hHeld => ?_)
              clear hK K9 b9
              try simp only [Act.put, List.setIfInBounds_toArray, List.set_cons_zero, List.set_cons_succ, List.getElem_toArray, List.getElem_cons_succ, List.getElem_cons_zero]
              refine wpAnyH_take (i := 28) (v := (.bool false)) rfl (by kernel_rfl) (by kernel_rfl) (by kernel_rfl) (fun _ _ _ h => h) (Or.inl ⟨by rfl, fun ww hSw => by (try dsimp only at hSw); go_simp⟩) (by first | exact trivial | assumption) ?_
              simp only [Act.put, List.setIfInBounds_toArray, List.set_cons_zero, List.set_cons_succ, List.getElem_toArray, List.getElem_cons_succ, List.getElem_cons_zero]
              refine wpAnyH_take (i := 29) (v := (.bool false)) rfl (by kernel_rfl) (by kernel_rfl) (by kernel_rfl) (fun _ _ _ h => h) (Or.inl ⟨by rfl, fun ww hSw => by (try dsimp only at hSw); go_simp⟩) (by first | exact trivial | assumption) ?_
              simp only [Act.put, List.setIfInBounds_toArray, List.set_cons_zero, List.set_cons_succ, List.getElem_toArray, List.getElem_cons_succ, List.getElem_cons_zero]
              refine wpAnyH_done (by kernel_rfl) ?_ _
              have H9 : Hid (TIn w p b m nn r K X (.slice q2 n2 c2) l2 x6) := HE2.out.1.below hHeld
              clear c25 c27 c29a c29b c10 c30 hw0 hw1 hw2 kS hHeld hpr
              go_wp2_with fail
              exact ⟨⟨i + 1, l2, by omega, by have := HE2.out.2; omega, by go_num, H9⟩, by simp only [intOf]; omega⟩
      · rw [decide_eq_false hlt]
        have hl60 : ln ≤ 60 := by omega
        have HR2 : Hid (TIn w p b m nn r K X (.slice q ln cl) l wr) := HR
        clear HR HA hli hi
        go_wp2_with fail
        go_loopw [15] (fun u wq => ∃ l : List Pg, l.length ≤ 60 ∧ Hid (TIn w p b m nn r K X u l wq)) (fun u _ => lenOf u)
        case atStart => exact ⟨l, by have := HLN.out; omega, HR2⟩
        case round =>
          obtain ⟨l3, hl3, H3⟩ := hrel
          obtain ⟨q3, c3, rfl⟩ := H3.out.row.shape
          clear HR2
          have hx := HX.out
          by_cases hz : l3 = []
          · as_aux_lemma =>
              subst hz
              have hw0 : IntKind.i64.wrap (K : Int) = K := by rw [IntKind.wrap_i64]; omega
              have HB3 : Hid (Tb p b m nn r K [] wr ∧ Below w.heap.size w wr) := ⟨H3.out.tb, H3.out.bel⟩
              clear H3
              have c25 : Calls Try.prog 25 #[.pointer (some ⟨p, 0, .none⟩), .int .u64 (ad r), .slice none 0 0] wr fun e w' => e = .returned (.bool true) ∧ Below wr.heap.size wr w' := HB3.out.1.holds (q := none) (c := 0) (by simp) (.inl rfl)
              simp only [List.length_nil]
              go_wp2_with fail
              refine c25.mono ?_
              rintro _ x1 ⟨rfl, b1⟩
              have HB4 : Hid (Tb p b m nn r K [] x1 ∧ Below w.heap.size w x1) := ⟨HB3.out.1.below b1, HB3.out.2.trans (b1.mono HB3.out.2.size)⟩
              clear b1 HB3 c25
              have c27 : Calls Try.prog 27 #[.pointer (some ⟨p, 0, .none⟩)] x1 fun e w' => e = .returned (.int .i64 K) ∧ Below x1.heap.size x1 w' := HB4.out.1.count.mono (fun e w' h => ⟨by rw [h.1]; refine congrArg Ending.returned (congrArg (Value.int .i64) ?_); simp [prt], h.2⟩)
              go_wp2_with fail
              refine c27.mono ?_
              rintro _ x2 ⟨rfl, b2⟩
              have HB5 : Hid (Tb p b m nn r K [] x2 ∧ Below w.heap.size w x2) := ⟨HB4.out.1.below b2, HB4.out.2.trans (b2.mono HB4.out.2.size)⟩
              clear b2 HB4 c27
              have c20 := HB5.out.1.freeAll
              go_wp2_with fail
              refine c20.mono ?_
              rintro _ x3 ⟨rfl, f3, c27⟩
              have HB6 : Hid (Below w.heap.size w x3) := HB5.out.2.trans (f3.toBelow HB5.out.2.size hx.2.1 hx.2.2.1 hx.2.2.2)
              clear f3 HB5 c20
              go_wp2_with fail
              refine c27.mono ?_
              rintro _ x4 ⟨rfl, b4⟩
              have HB7 : Hid (Below w.heap.size w x4) := HB6.out.trans (b4.mono HB6.out.size)
              clear b4 HB6 c27
              go_wp2_with fail
              go_ret
              exact ⟨rfl, HB7.out⟩
          · as_aux_lemma =>
              have hpos : 0 < l3.length := List.length_pos_iff.2 hz
              have hrow := H3.out.row
              have hsee := hrow.see
              obtain ⟨yk, hyl, hyi, hv9, ha9, hp9⟩ := at_of (l := l3) (i := 0) hpos
              rcases hsee with h0 | ⟨g3, rfl, hg3, hcells⟩
              · omega
              have q0 : wr.cell? ⟨g3, 0, .none⟩ = some (.int .u64 yk.1) := by
                have := (hcells 0 hpos).1
                rw [hv9] at this
                simpa using this
              have hgX : X ≤ g3 := (hrow.lt g3 rfl).1
              have hpw := H3.out.tb.2
              have H16 : Hid (∀ W, Below wr.heap.size wr W → Calls Try.prog 16 #[.pointer (some ⟨p, 0, .none⟩), .int .u64 (ad r), .int .u64 yk.1] W fun e w' => e = .returned (.tuple #[.int .u64 (toP yk.2.1 yk.2.2), .int .i64 0]) ∧ Tb p b m nn r K (l3.eraseIdx 0) w' ∧ Fra p b m W w') := fun W hW => (H3.out.tb.below hW).unmap hyl (erase_mem hpw hyi) (hpw.sublist (List.eraseIdx_sublist l3 0))
              have c20 := H3.out.tb.freeLeft hz
              obtain ⟨n3, hn3⟩ : ∃ n3, n3 = l3.length := ⟨_, rfl⟩
              have HN3 : Hid (n3 = l3.length) := hn3
              rw [← hn3] at hpos hl3 ⊢
              have hpos2 : (0 : Int) < n3 := by omega
              obtain ⟨y9, hy9⟩ : ∃ y9, y9 = yk.1 := ⟨_, rfl⟩
              rw [← hy9] at q0 H16
              generalize toP yk.2.1 yk.2.2 = e9 at *
              clear hy9 hn3 hcells hyl hyi hv9 ha9 hp9 hpw hrow
              go_wp2_with fail
              refine c20.mono ?_
              rintro _ x1 ⟨rfl, b1⟩
              have q1 := (b1.cell (p := ⟨g3, 0, .none⟩) hg3).trans q0
              have c16 := H16.out x1 b1
              have H4 : Hid (Below wr.heap.size wr x1) := b1
              clear b1 c20 q0 H16
              go_wp2_with fail
              refine c16.mono ?_
              rintro _ x2 ⟨rfl, t2, f2⟩
              have H5 : Hid (Tb p b m nn r K (l3.eraseIdx 0) x2 ∧ Fra p b m wr x2) := ⟨t2, (Fra.below H4.out).trans f2⟩
              clear t2 f2 c16 q1 H4
              have hrow2 : PgR x2 X (.slice (some ⟨g3, 0, .none⟩) l3.length c3) l3 := H3.out.row.keep (fun j hj hl => H5.out.2.block j hl (by omega) (by omega) (by omega))
              have c24 : Calls Try.prog 24 #[.slice (some ⟨g3, 0, .none⟩) n3 c3, .int .i64 0] x2 fun e w' => ∃ v, e = .returned v ∧ PgR w' x2.heap.size v (l3.eraseIdx 0) ∧ Below x2.heap.size x2 w' := by
                rw [HN3.out]
                exact without_any hrow2 (by have := HN3.out; omega) 0
              clear hrow2
              go_wp2_with fail
              refine c24.mono ?_
              rintro _ x3 ⟨v3, rfl, r3, b3⟩
              have H6 : Hid (PgR x3 x2.heap.size v3 (l3.eraseIdx 0) ∧ Below x2.heap.size x2 x3) := ⟨r3, b3⟩
              clear r3 b3 c24
              go_wp2_with fail
              have f4 := H5.out.2
              have hbw : Below w.heap.size w x2 := H3.out.bel.trans (f4.toBelow H3.out.bel.size hx.2.1 hx.2.2.1 hx.2.2.2)
              have hxs := Nat.le_trans H3.out.xs f4.size
              have hlen : (l3.eraseIdx 0).length = n3 - 1 := by rw [List.length_eraseIdx, if_pos (by have := HN3.out; omega), HN3.out]
              refine ⟨⟨l3.eraseIdx 0, by omega, ⟨hbw.trans (H6.out.2.mono hbw.size), H5.out.1.below H6.out.2, H6.out.1.base hxs, Nat.le_trans hxs H6.out.2.size⟩⟩, ?_⟩
              obtain ⟨q9, c9, e9⟩ := H6.out.1.shape
              rw [e9]
              simp only [lenOf]
              omega
end Go.Proofs.Ytncjmlndjnfncaa
