import Derived.Test.YtncjmlndjnfncaaVq
import Derived.Lib.SlBytesConst
import Derived.Laws.BytesArg
import Derived.Deep.DeepCutAuto
namespace Go.Proofs.Ytncjmlndjnfncaa
open Go Go.RowKit Go.Shelf Fz
attribute [local go_sem] Oper.semAt_some
set_option linter.unusedVariables false
set_option linter.unusedSimpArgs false
attribute [local irreducible] eM evs
theorem conv42 (w : World) : (Go.convert 42 42 (.slice (some ⟨w.heap.size, 0, .none⟩) 4 4)).run Try.prog (w.alloc (.cells #[.int .u8 109, .int .u8 105, .int .u8 110, .int .u8 101] 5)) = .ok (.slice (some ⟨w.heap.size, 0, .none⟩) 4 4) (w.alloc (.cells #[.int .u8 109, .int .u8 105, .int .u8 110, .int .u8 101] 5 (4, 5))) :=
  Go.Lib.run_convert_bytes_const w 42 5 _ 4 4 (by kernel_rfl) (by kernel_rfl)
attribute [local go_sem] conv42
/-- What the law of two tables holds. -/
structure TwI (w : World) (p b m ra rb fm X : Nat) (va : Value) (la : List Pg) (vb : Value) (lb : List Pg) (W : World) : Prop where
  bel : Below w.heap.size w W
  tw : Tw p b m ra rb fm la lb W
  rowa : PgR W X va la
  rowb : PgR W X vb lb
  xs : X ≤ W.heap.size
  apart : ∀ k, va.ownBlock = some k → vb.ownBlock ≠ some k
section
variable {w W W' : World} {p b m ra rb fm X : Nat} {va vb : Value} {la lb : List Pg}
theorem TwI.below (h : TwI w p b m ra rb fm X va la vb lb W) (k : Below W.heap.size W W') : TwI w p b m ra rb fm X va la vb lb W' :=
  ⟨h.bel.trans (k.mono h.bel.size), h.tw.below k, h.rowa.keep (fun j _ hj => k.block j hj), h.rowb.keep (fun j _ hj => k.block j hj), Nat.le_trans h.xs k.size, h.apart⟩
theorem TwI.symm (h : TwI w p b m ra rb fm X va la vb lb W) : TwI w p b m rb ra fm X vb lb va la W :=
  ⟨h.bel, h.tw.symm, h.rowb, h.rowa, h.xs, fun k h1 h2 => h.apart k h2 h1⟩
/-- A page that was laid down is put into its row. -/
theorem TwI.add {x : Pg} {v' : Value} {w8 : World} (hb : Below w.heap.size w W) (tw : Tw p b m ra rb fm (la ++ [x]) lb W) (rowa : PgR W X va la) (rowb : PgR W X vb lb) (xs : X ≤ W.heap.size) (ap : ∀ k, va.ownBlock = some k → vb.ownBlock ≠ some k) (hX : p < X ∧ b < X ∧ m < X) (hwX : w.heap.size ≤ X)
    (hown : w8.ownsRow X 33 3 v' (la.length + 1) (pcs la ++ pc x)) (o : Obj) (hgrow : (W.alloc o).grownBy w8 va.ownBlock) (hor : v'.ownBlock = va.ownBlock ∨ v'.ownBlock = some (W.alloc o).heap.size) : TwI w p b m ra rb fm X v' (la ++ [x]) vb lb w8 ∧ ∀ j, j < W.heap.size → (∀ k, va.ownBlock = some k → j ≠ k) → w8.heap[j]? = W.heap[j]? := by
  have bA : Below W.heap.size W (W.alloc o) := below1 _ _
  have hla : ∀ k, va.ownBlock = some k → X ≤ k ∧ k < W.heap.size := fun k hk => rowa.lt k hk
  have hlb : ∀ k, vb.ownBlock = some k → X ≤ k ∧ k < W.heap.size := fun k hk => rowb.lt k hk
  have kb : ∀ j, j < W.heap.size → (∀ k, va.ownBlock = some k → j ≠ k) → w8.heap[j]? = W.heap[j]? := fun j hj hne => (hgrow.block j (by simp; omega) (fun e => hne j e.symm rfl)).trans (bA.block j hj)
  have hlt := tw.lt
  have hgs : W.heap.size ≤ w8.heap.size := Nat.le_trans (by simp) hgrow.size
  refine ⟨⟨⟨hgrow.os.trans hb.os, hgrow.tape.trans hb.tape, hgrow.output.trans hb.output, Nat.le_trans hb.size hgs, fun k hk => (kb k (by have := hb.size; omega) (fun k9 hk9 => by have := (hla k9 hk9).1; omega)).trans (hb.block k hk)⟩, tw.blocks (kb p (by omega) (fun k hk => by have := (hla k hk).1; omega)) (kb b (by omega) (fun k hk => by have := (hla k hk).1; omega)) (kb m (by omega) (fun k hk => by have := (hla k hk).1; omega)), ?_, ?_, by omega, ?_⟩, kb⟩
  · unfold PgR
    rw [pcs_app, List.length_append]
    exact hown
  · refine ⟨rowb.1, ?_⟩
    rcases rowb.2 with h1 | ⟨g, cap, cur, h1, h2, h3, h4⟩
    · exact .inl h1
    · have hg : vb.ownBlock = some g := by rw [h1]; rfl
      exact .inr ⟨g, cap, cur, h1, h2, (kb g (hlb g hg).2 (fun k hk e => ap k hk (by rw [← e]; exact hg))).trans h3, h4⟩
  · intro k h1 h2
    rcases hor with e | e
    · exact ap k (e.symm.trans h1) h2
    · rw [e] at h1
      injection h1 with h1
      have := (hlb k h2).2
      simp at h1
      omega
end
theorem Tw.init {p b m : Nat} {B : Nat → Int} {W : World} (h : Ram W p b m 64 (over (zer (zer (zer B 63) 62) 61) (61 * 4096) [109, 105, 110, 101]) (down 60)) : Tw p b m 63 62 61 [] [] W := by
  have zf : ∀ (B : Nat → Int) (f g : Nat), f ≠ g → ∀ k, k < 4096 → zer B g (f * 4096 + k) = B (f * 4096 + k) := fun B f g hne k hk => zer_out _ _ _ (by omega)
  have of : ∀ (B : Nat → Int) (f : Nat), f ≠ 61 → ∀ k, k < 4096 → over B (61 * 4096) [109, 105, 110, 101] (f * 4096 + k) = B (f * 4096 + k) := fun B f hne k hk => by unfold over; rw [if_neg (by simp; omega)]
  have hd : ∀ n i, i ∈ down n → i ≤ n := fun n i h => ((down_mem n i).1 h).2
  have hA : On 64 (zer B 63) (down 60) (fun x => if x = 0 then some 63 else none) (fun _ _ => 0) 63 [] := ⟨PT.init (by omega) (fun h => by have := hd _ _ h; omega), by simp, TL.init 63, List.Pairwise.nil⟩
  have hB : On 64 (zer (zer B 63) 62) (down 60) (fun x => if x = 0 then some 62 else none) (fun _ _ => 0) 62 [] := ⟨PT.init (by omega) (fun h => by have := hd _ _ h; omega), by simp, TL.init 62, List.Pairwise.nil⟩
  have fr : ∀ (r x f : Nat), (if x = 0 then some r else none) = some f → f = r := fun r x f h => by split at h; (· injection h with h; exact h.symm); (· cases h)
  refine ⟨_, _, _, _, _, _, h, hA.keep (fun x f hf k hk => ?_) (fun x f hf hm => ?_), hB.keep (fun x f hf k hk => ?_) (fun x f hf hm => ?_), fun x y f hx hy => ?_, ⟨by omega, by omega, fun h => by have := hd _ _ h; omega, fun k hk => ?_⟩, fun x hx => ?_, fun x hx => ?_⟩
  · have e := fr _ _ _ hf
    subst e
    rw [of _ _ (by omega) k hk, zf _ _ _ (by omega) k hk, zf _ _ _ (by omega) k hk]
  · have e := fr _ _ _ hf; have := hd _ _ hm; omega
  · have e := fr _ _ _ hf
    subst e
    rw [of _ _ (by omega) k hk, zf _ _ _ (by omega) k hk]
  · have e := fr _ _ _ hf; have := hd _ _ hm; omega
  · have e1 := fr _ _ _ hx; have e2 := fr _ _ _ hy; omega
  · obtain rfl | rfl | rfl | rfl | h4 : k = 0 ∨ k = 1 ∨ k = 2 ∨ k = 3 ∨ 4 ≤ k := by omega
    · rfl
    · rfl
    · rfl
    · rfl
    · unfold over
      rw [if_neg (by simp; omega), zer_in _ _ _ (by omega)]
      unfold mn
      rw [if_neg (by omega), if_neg (by omega), if_neg (by omega), if_neg (by omega)]
  · have e := fr _ _ _ hx; omega
  · have e := fr _ _ _ hx; omega
set_option maxHeartbeats 4000000 in
set_option maxRecDepth 100000 in
theorem apart_any {w : World} {na ca nb cb nc cc : Nat} {qa qb qc : Option Addr} {Ra Rb Rc : Nat → Int} (ha : See w .u64 qa na Ra) (hb : See w .u64 qb nb Rb) (hc : See w .u64 qc nc Rc) (ra : ∀ i, 0 ≤ Ra i ∧ Ra i < 18446744073709551616) (rb : ∀ i, 0 ≤ Rb i ∧ Rb i < 18446744073709551616) (rc : ∀ i, 0 ≤ Rc i ∧ Rc i < 18446744073709551616) :
    Calls Try.prog 5 #[.slice qa na ca, .slice qb nb cb, .slice qc nc cc] w fun e w' => e = .returned (.bool true) ∧ Below w.heap.size w w' := by
  have HA : Hid (See w .u64 qa na Ra ∧ See w .u64 qb nb Rb ∧ See w .u64 qc nc Rc ∧ (∀ i, 0 ≤ Ra i ∧ Ra i < 18446744073709551616) ∧ (∀ i, 0 ≤ Rb i ∧ Rb i < 18446744073709551616) ∧ (∀ i, 0 ≤ Rc i ∧ Rc i < 18446744073709551616)) := ⟨ha, hb, hc, ra, rb, rc⟩
  clear ha hb hc ra rb rc
  have c7 : Calls Try.prog 7 #[.int .i64 64] w fun e w' => NewP w 64 e w' := new_any 64 (by omega) (by omega) w
  go_enter Try.func5, Try.ntmps5
  go_upto_region 4 with (go_at_call 7; refine c7.mono ?_; rintro _ w1 ⟨p, b, m, hp, hb, hm, rfl, hR, hB⟩; have H1 : Hid (Ram w1 p b m 64 (newB 63) (63 :: down 62) ∧ Below w.heap.size w w1 ∧ w.heap.size ≤ p ∧ w.heap.size ≤ b ∧ w.heap.size ≤ m) := ⟨hR, hB, hp, hb, hm⟩; clear hR hB c7 hp hb hm)
  have c8 : Calls Try.prog 8 #[.pointer (some ⟨p, 0, .none⟩)] w1 fun e w' => e = .returned (.tuple #[.int .u64 2147741696, .int .i64 0]) ∧ Ram w' p b m 64 (zer (newB 63) 63) (62 :: down 61) ∧ Fra p b m w1 w' := new_some 63 H1.out.1
  go_upto_region 5 with (go_at_call 8; refine c8.mono ?_; rintro _ w2 ⟨rfl, hR, hF⟩; have H2 : Hid (Ram w2 p b m 64 (zer (newB 63) 63) (62 :: down 61) ∧ Below w.heap.size w w2) := ⟨hR, H1.out.2.1.trans (hF.toBelow H1.out.2.1.size H1.out.2.2.1 H1.out.2.2.2.1 H1.out.2.2.2.2)⟩; clear hR hF c8)
  have c8 : Calls Try.prog 8 #[.pointer (some ⟨p, 0, .none⟩)] w2 fun e w' => e = .returned (.tuple #[.int .u64 2147737600, .int .i64 0]) ∧ Ram w' p b m 64 (zer (zer (newB 63) 63) 62) (61 :: down 60) ∧ Fra p b m w2 w' := new_some 62 H2.out.1
  go_upto_region 6 with (go_at_call 8; refine c8.mono ?_; rintro _ w3 ⟨rfl, hR, hF⟩; have H3 : Hid (Ram w3 p b m 64 (zer (zer (newB 63) 63) 62) (61 :: down 60) ∧ Below w.heap.size w w3) := ⟨hR, H2.out.2.trans (hF.toBelow H2.out.2.size H1.out.2.2.1 H1.out.2.2.2.1 H1.out.2.2.2.2)⟩; clear hR hF c8)
  have c22 : Calls Try.prog 22 #[.pointer (some ⟨p, 0, .none⟩)] w3 fun e w' => e = .returned (.tuple #[.int .u64 2147733504, .bool true]) ∧ Ram w' p b m 64 (zer (zer (zer (newB 63) 63) 62) 61) (down 60) ∧ Fra p b m w3 w' := alloc_some 61 H3.out.1
  go_upto_region 7 with (go_at_call 22; refine c22.mono ?_; rintro _ w4 ⟨rfl, hR, hF⟩; have H4 : Hid (Ram w4 p b m 64 (zer (zer (zer (newB 63) 63) 62) 61) (down 60) ∧ Below w.heap.size w w4) := ⟨hR, H3.out.2.trans (hF.toBelow H3.out.2.size H1.out.2.2.1 H1.out.2.2.2.1 H1.out.2.2.2.2)⟩; clear hR hF c22)
  obtain ⟨w5, hw5⟩ : ∃ w5, w5 = w4.alloc (.cells #[.int .u8 109, .int .u8 105, .int .u8 110, .int .u8 101] 5 (4, 5)) := ⟨_, rfl⟩
  have b5 : Below w4.heap.size w4 w5 := by rw [hw5]; exact below1 _ _
  obtain ⟨ra, hra⟩ : ∃ ra, ra = 63 := ⟨_, rfl⟩
  obtain ⟨rb, hrb⟩ : ∃ rb, rb = 62 := ⟨_, rfl⟩
  obtain ⟨fm, hfm⟩ : ∃ fm, fm = 61 := ⟨_, rfl⟩
  have c23 : Calls Try.prog 23 #[.pointer (some ⟨p, 0, .none⟩), .int .u64 2147733504, .slice (some ⟨w4.heap.size, 0, .none⟩) 4 4] w5 fun e w' => e = .returned (.bool true) ∧ Tw p b m ra rb fm [] [] w' ∧ Fra p b m w5 w' := by
    rw [hra, hrb, hfm]
    have hR5 := H4.out.1.below b5
    have hh5 : w5.heap[w4.heap.size]? = some (.cells #[.int .u8 109, .int .u8 105, .int .u8 110, .int .u8 101] 5 (4, 5)) := by rw [hw5]; exact World.alloc_heap_new w4 _
    have hc : ∀ i, i < 4 → w5.cell? ⟨w4.heap.size, 0 + i, .none⟩ = some (.int .u8 (mn i)) := fun i hi => by
      obtain rfl | rfl | rfl | rfl : i = 0 ∨ i = 1 ∨ i = 2 ∨ i = 3 := by omega
      all_goals simp [World.cell?, hh5, mn]
    refine (write_ok hR5.mem (61 * 4096) 4 (by omega) (by omega) (fun f e1 e2 => ?_) w4.heap.size 0 4 mn (fun i => ?_) hc).mono fun e w' ⟨k1, k2, k3⟩ => ⟨k1, Tw.init (B := newB 63) (hR5.laid k2 (fun j hj => ?_)), k3⟩
    · obtain rfl : f = 61 := by omega
      rw [hdL_in (by omega)]
      have : 61 ∉ down 60 := fun h => by have := (down_mem 60 61).1 h; omega
      simpa using this
    · unfold mn; split <;> (try split) <;> (try split) <;> (try split) <;> omega
    · have := ((down_mem 60 j).1 hj).2
      simp
      omega
  have HX1 : Hid (w.heap.size ≤ p ∧ w.heap.size ≤ b ∧ w.heap.size ≤ m) := H1.out.2.2
  have H5 : Hid (Below w.heap.size w w5) := H4.out.2.trans (b5.mono H4.out.2.size)
  clear b5 H1 H2 H3 H4
  go_wp2_with fail
  rw [← hw5]
  clear hw5
  refine c23.mono ?_
  rintro _ w6 ⟨rfl, t6, f6⟩
  have H6 : Hid (TwI w p b m ra rb fm w6.heap.size (.slice none 0 0) [] (.slice none 0 0) [] w6) := ⟨H5.out.trans (f6.toBelow H5.out.size HX1.out.1 HX1.out.2.1 HX1.out.2.2), t6, ⟨rfl, .inl ⟨rfl, rfl⟩⟩, ⟨rfl, .inl ⟨rfl, rfl⟩⟩, Nat.le_refl _, fun k h => by cases h⟩
  have HX : Hid ((p < w6.heap.size ∧ b < w6.heap.size ∧ m < w6.heap.size) ∧ w.heap.size ≤ p ∧ w.heap.size ≤ b ∧ w.heap.size ≤ m) := ⟨t6.lt, HX1.out⟩
  clear t6 f6 c23 H5 HX1
  generalize w6.heap.size = X at *
  have e63 : (2147741696 : Int) = ad ra := by rw [hra]; rfl
  have e62 : (2147737600 : Int) = ad rb := by rw [hrb]; rfl
  have e61 : (2147733504 : Int) = ad fm := by rw [hfm]; rfl
  rw [e63, e62, e61]
  clear e63 e62 e61 hra hrb hfm
  go_wp2_with fail
  go_loopw [15, 16, 17] (fun u t v wr => ∃ (i : Nat) (la lb : List Pg), i ≤ 40 ∧ la.length ≤ i ∧ lb.length ≤ i ∧ v = .int .i64 i ∧ Hid (TwI w p b m ra rb fm X u la t lb wr)) (fun _ _ v _ => (40 - intOf v).toNat)
  case atStart => exact ⟨0, [], [], by omega, by simp, by simp, rfl, H6⟩
  case round =>
    clear H6
    obtain ⟨i, la, lb, hi, hli, hmi, rfl, HR⟩ := hrel
    obtain ⟨q, cl, rfl⟩ := HR.out.rowa.shape
    obtain ⟨q4, c4, rfl⟩ := HR.out.rowb.shape
    obtain ⟨ln, hln⟩ : ∃ ln, ln = la.length := ⟨_, rfl⟩
    obtain ⟨mn4, hmn⟩ : ∃ mn4, mn4 = lb.length := ⟨_, rfl⟩
    rw [← hln, ← hmn] at HR ⊢
    rw [← hln] at hli
    rw [← hmn] at hmi
    have HLN : Hid (ln = la.length ∧ mn4 = lb.length) := ⟨hln, hmn⟩
    clear hln hmn
    go_upto_region 12 with fail
    go_cut [78] (fun s wc => s = .bool (decide (i < na ∧ i < 40)) ∧ wc = wr)
    case first =>
      by_cases h1 : i < na
      · have g1 : (i : Int) < na := by omega
        by_cases h2 : i < 40
        · have g2 : (i : Int) < 40 := by omega
          have HE : Hid (decide (i < na ∧ i < 40) = true) := decide_eq_true ⟨h1, h2⟩
          go_wp2
          go_meet
          case rel => exact ⟨by rw [HE.out], rfl⟩
        · have g2 : ¬ (i : Int) < 40 := by omega
          have HE : Hid (decide (i < na ∧ i < 40) = false) := decide_eq_false (fun h => h2 h.2)
          go_wp2
          go_meet
          case rel => exact ⟨by rw [HE.out], rfl⟩
      · have g1 : ¬ (i : Int) < na := by omega
        have HE : Hid (decide (i < na ∧ i < 40) = false) := decide_eq_false (fun h => h1 h.1)
        go_wp2
        go_meet
        case rel => exact ⟨by rw [HE.out], rfl⟩
    case rest =>
      obtain ⟨rfl, hwc⟩ := hcut
      obtain rfl : wr = wc := hwc.symm
      by_cases hlt : i < na ∧ i < 40
      · rw [decide_eq_true hlt]
        obtain ⟨hlt, hl2⟩ := hlt
        have g0 : (i : Int) < na := by omega
        obtain ⟨g, o, rfl, hg, hr⟩ : ∃ g o, qa = some ⟨g, o, .none⟩ ∧ g < wr.heap.size ∧ ∀ i, i < na → wr.cell? ⟨g, o + i, .none⟩ = some (.int .u64 (Ra i)) := by
          rcases See.below HA.out.1 HR.out.bel with h | h
          · omega
          · exact h
        have k0 := hr i hlt
        clear hr
        obtain ⟨x, hx⟩ : ∃ x, x = Ra i := ⟨_, rfl⟩
        obtain ⟨y, hy⟩ : ∃ y, y = atv Rb nb i := ⟨_, rfl⟩
        obtain ⟨z, hz⟩ : ∃ z, z = atv Rc nc i := ⟨_, rfl⟩
        rw [← hx] at k0
        have HXY : Hid ((0 ≤ x ∧ x < 18446744073709551616) ∧ (0 ≤ y ∧ y < 18446744073709551616) ∧ (0 ≤ z ∧ z < 18446744073709551616)) := by
          refine ⟨by rw [hx]; exact HA.out.2.2.2.1 i, ?_, ?_⟩
          · rw [hy]
            unfold atv
            split
            · exact HA.out.2.2.2.2.1 i
            · omega
          · rw [hz]
            unfold atv
            split
            · exact HA.out.2.2.2.2.2 i
            · omega
        have HY : Hid (atv Rb nb i = y) := hy.symm
        have HZ : Hid (atv Rc nc i = z) := hz.symm
        clear hx hy hz
        have HSb : Hid (∀ U, Below wr.heap.size wr U → See U .u64 qb nb Rb) := fun U k => (See.below HA.out.2.1 HR.out.bel).below k
        have HSc : Hid (∀ U, Below wr.heap.size wr U → See U .u64 qc nc Rc) := fun U k => (See.below HA.out.2.2.1 HR.out.bel).below k
        have kS : Below wr.heap.size wr wr.drew := (Below.refl _ _).drew
        go_upto_region 14 with fail
        go_cut [18] (fun s W => ∃ P, s = .pointer (some ⟨P, 0, .none⟩) ∧ Hid (wr.heap.size ≤ P ∧ C3 W P (.int .u64 (pgV x)) (.int .u64 (pgA y)) (.int .u64 (pgP z)) ∧ Below wr.heap.size wr W))
        case first =>
          as_aux_lemma =>
            refine wp_region_held_drew (S := fun U => Below wr.heap.size wr U) (by kernel_rfl) kS (fun hHeld => ?_)
            generalize wr.drew = U0 at *
            refine wpAnyH_take (i := 0) (v := (.slice (some ⟨g, o, .none⟩) na ca)) rfl (by kernel_rfl) (by kernel_rfl) (by kernel_rfl) (fun _ _ _ h => h) (Or.inl ⟨by rfl, fun ww hSw => by (try dsimp only at hSw); go_simp⟩) (by assumption) ?_
            simp only [Act.put, List.setIfInBounds_toArray, List.set_cons_zero, List.set_cons_succ, List.getElem_toArray, List.getElem_cons_succ, List.getElem_cons_zero]
            refine wpAnyH_take (i := 1) (v := (.int .i64 i)) rfl (by kernel_rfl) (by kernel_rfl) (by kernel_rfl) (fun _ _ _ h => h) (Or.inl ⟨by rfl, fun ww hSw => by (try dsimp only at hSw); go_simp⟩) (by assumption) ?_
            simp only [Act.put, List.setIfInBounds_toArray, List.set_cons_zero, List.set_cons_succ, List.getElem_toArray, List.getElem_cons_succ, List.getElem_cons_zero]
            refine wpAnyH_take (i := 2) (v := (.pointer (some ⟨g, o + i, .none⟩))) rfl (by kernel_rfl) (by kernel_rfl) (by kernel_rfl) (fun _ _ _ h => h) (Or.inl ⟨by rfl, fun ww hSw => by (try dsimp only at hSw); go_simp⟩) (by assumption) ?_
            simp only [Act.put, List.setIfInBounds_toArray, List.set_cons_zero, List.set_cons_succ, List.getElem_toArray, List.getElem_cons_succ, List.getElem_cons_zero]
            refine wpAnyH_take (i := 3) (v := (.int .u64 x)) rfl (by kernel_rfl) (by kernel_rfl) (by kernel_rfl) (fun _ _ _ h => h) (Or.inl ⟨by rfl, fun ww hSw => by (try dsimp only at hSw); have k0' := (hSw.cell (p := ⟨g, o + i, .none⟩) hg).trans k0; go_simp⟩) (by assumption) ?_
            simp only [Act.put, List.setIfInBounds_toArray, List.set_cons_zero, List.set_cons_succ, List.getElem_toArray, List.getElem_cons_succ, List.getElem_cons_zero]
            refine wpAnyH_take (i := 4) (v := (.slice qb nb cb)) rfl (by kernel_rfl) (by kernel_rfl) (by kernel_rfl) (fun _ _ _ h => h) (Or.inl ⟨by rfl, fun ww hSw => by (try dsimp only at hSw); go_simp⟩) (by assumption) ?_
            simp only [Act.put, List.setIfInBounds_toArray, List.set_cons_zero, List.set_cons_succ, List.getElem_toArray, List.getElem_cons_succ, List.getElem_cons_zero]
            refine wpAnyH_take (i := 5) (v := (.int .i64 i)) rfl (by kernel_rfl) (by kernel_rfl) (by kernel_rfl) (fun _ _ _ h => h) (Or.inl ⟨by rfl, fun ww hSw => by (try dsimp only at hSw); go_simp⟩) (by assumption) ?_
            simp only [Act.put, List.setIfInBounds_toArray, List.set_cons_zero, List.set_cons_succ, List.getElem_toArray, List.getElem_cons_succ, List.getElem_cons_zero]
            refine wpAnyH_take (i := 7) (v := (.slice qc nc cc)) rfl (by kernel_rfl) (by kernel_rfl) (by kernel_rfl) (fun _ _ _ h => h) (Or.inl ⟨by rfl, fun ww hSw => by (try dsimp only at hSw); go_simp⟩) (by assumption) ?_
            simp only [Act.put, List.setIfInBounds_toArray, List.set_cons_zero, List.set_cons_succ, List.getElem_toArray, List.getElem_cons_succ, List.getElem_cons_zero]
            refine wpAnyH_take (i := 8) (v := (.int .i64 i)) rfl (by kernel_rfl) (by kernel_rfl) (by kernel_rfl) (fun _ _ _ h => h) (Or.inl ⟨by rfl, fun ww hSw => by (try dsimp only at hSw); go_simp⟩) (by assumption) ?_
            simp only [Act.put, List.setIfInBounds_toArray, List.set_cons_zero, List.set_cons_succ, List.getElem_toArray, List.getElem_cons_succ, List.getElem_cons_zero]
            refine wpAnyH_ready (rs := [6, 11]) (by kernel_rfl) (by simp) ?_
            refine AllReadyH.cons rfl (fun K9 hK => ?_) (AllReadyH.cons rfl (fun K9 hK => ?_) AllReadyH.nil)
            ·
              go_simp
              go_at_call 10
              refine (at_any (HSb.out _ kS) i).mono ?_
              rw [HY.out]
              rintro _ w9 ⟨rfl, e9⟩
              obtain rfl : U0 = w9 := e9.symm
              clear e9
              refine hK.out _ _ kS (fun hHeld => ?_)
              clear hK K9
              try simp only [Act.put, List.setIfInBounds_toArray, List.set_cons_zero, List.set_cons_succ, List.getElem_toArray, List.getElem_cons_succ, List.getElem_cons_zero]
              refine wpAnyH_ready (rs := [9, 11]) (by kernel_rfl) (by simp) ?_
              refine AllReadyH.cons rfl (fun K9 hK => ?_) (AllReadyH.cons rfl (fun K9 hK => ?_) AllReadyH.nil)
              ·
                go_simp
                go_at_call 10
                refine (at_any (HSc.out _ kS) i).mono ?_
                rw [HZ.out]
                rintro _ w9 ⟨rfl, e9⟩
                obtain rfl : U0 = w9 := e9.symm
                clear e9
                refine hK.out _ _ kS (fun hHeld => ?_)
                clear hK K9
                try simp only [Act.put, List.setIfInBounds_toArray, List.set_cons_zero, List.set_cons_succ, List.getElem_toArray, List.getElem_cons_succ, List.getElem_cons_zero]
                refine wpAnyH_ready (rs := [10, 11]) (by kernel_rfl) (by simp) ?_
                refine AllReadyH.cons rfl (fun K9 hK => ?_) (AllReadyH.cons rfl (fun K9 hK => ?_) AllReadyH.nil)
                ·
                  go_simp
                  go_at_call 9
                  refine (page_gen x y z HXY.out.1 HXY.out.2.1).mono ?_
                  rintro _ w2 ⟨rfl, b2⟩
                  have kSp : Below wr.heap.size wr w2 := kS.trans (b2.mono kS.size)
                  refine hK.out _ _ kSp (fun hHeld => ?_)
                  clear hK K9
                  try simp only [Act.put, List.setIfInBounds_toArray, List.set_cons_zero, List.set_cons_succ, List.getElem_toArray, List.getElem_cons_succ, List.getElem_cons_zero]
                  refine wpAnyH_ready (rs := [11]) (by kernel_rfl) (by simp) ?_
                  refine AllReadyH.cons rfl (fun K9 hK => ?_) AllReadyH.nil
                  go_simp
                  have ka : Below wr.heap.size wr (w2.alloc (.cells #[.int .u64 0, .int .u64 0, .int .u64 0] 33)) := kSp.alloc kSp.size _
                  have D3 : C3 (w2.alloc (.cells #[.int .u64 0, .int .u64 0, .int .u64 0] 33)) w2.heap.size (.int .u64 0) (.int .u64 0) (.int .u64 0) := C3.new w2 _ _ _ 33
                  have hP0 : wr.heap.size ≤ w2.heap.size := kSp.size
                  generalize w2.heap.size = P0 at *
                  generalize w2.alloc (.cells #[.int .u64 0, .int .u64 0, .int .u64 0] 33) = wa at *
                  refine hK.out _ _ ka (fun hHeld => ?_)
                  clear hK K9
                  try simp only [Act.put, List.setIfInBounds_toArray, List.set_cons_zero, List.set_cons_succ, List.getElem_toArray, List.getElem_cons_succ, List.getElem_cons_zero]
                  refine wpAnyH_ready (rs := [12]) (by kernel_rfl) (by simp) ?_
                  refine AllReadyH.cons rfl (fun K9 hK => ?_) AllReadyH.nil
                  have HC2 := D3
                  obtain ⟨z0, z1, z2, y0, y1, y2⟩ := D3
                  go_simp
                  clear z0 z1 z2 y0 y1 y2
                  have C9 := HC2.set (.int .u64 (pgV x)) (.int .u64 (pgA y)) (.int .u64 (pgP z))
                  have B9 := belowC (B := wr.heap.size) ka hP0 (.int .u64 (pgV x)) (.int .u64 (pgA y)) (.int .u64 (pgP z))
                  refine hK.out _ _ B9 (fun hHeld => ?_)
                  clear hK K9
                  refine wpAnyH_done (by kernel_rfl) ?_ _
                  go_wp2
                  go_meet
                  exact ⟨_, rfl, hP0, C9, B9⟩
                ·
                  go_simp
                  have ka : Below wr.heap.size wr (U0.alloc (.cells #[.int .u64 0, .int .u64 0, .int .u64 0] 33)) := kS.alloc kS.size _
                  have D3 : C3 (U0.alloc (.cells #[.int .u64 0, .int .u64 0, .int .u64 0] 33)) U0.heap.size (.int .u64 0) (.int .u64 0) (.int .u64 0) := C3.new U0 _ _ _ 33
                  have hP0 : wr.heap.size ≤ U0.heap.size := kS.size
                  generalize U0.heap.size = P0 at *
                  generalize U0.alloc (.cells #[.int .u64 0, .int .u64 0, .int .u64 0] 33) = wa at *
                  refine hK.out _ _ ka (fun hHeld => ?_)
                  clear hK K9
                  try simp only [Act.put, List.setIfInBounds_toArray, List.set_cons_zero, List.set_cons_succ, List.getElem_toArray, List.getElem_cons_succ, List.getElem_cons_zero]
                  refine wpAnyH_ready (rs := [10]) (by kernel_rfl) (by simp) ?_
                  refine AllReadyH.cons rfl (fun K9 hK => ?_) AllReadyH.nil
                  go_simp
                  go_at_call 9
                  refine (page_gen x y z HXY.out.1 HXY.out.2.1).mono ?_
                  rintro _ w2 ⟨rfl, b2⟩
                  have kap : Below wr.heap.size wr w2 := ka.trans (b2.mono ka.size)
                  have D3 := D3.below b2
                  refine hK.out _ _ kap (fun hHeld => ?_)
                  clear hK K9
                  try simp only [Act.put, List.setIfInBounds_toArray, List.set_cons_zero, List.set_cons_succ, List.getElem_toArray, List.getElem_cons_succ, List.getElem_cons_zero]
                  refine wpAnyH_ready (rs := [12]) (by kernel_rfl) (by simp) ?_
                  refine AllReadyH.cons rfl (fun K9 hK => ?_) AllReadyH.nil
                  have HC2 := D3
                  obtain ⟨z0, z1, z2, y0, y1, y2⟩ := D3
                  go_simp
                  clear z0 z1 z2 y0 y1 y2
                  have C9 := HC2.set (.int .u64 (pgV x)) (.int .u64 (pgA y)) (.int .u64 (pgP z))
                  have B9 := belowC (B := wr.heap.size) kap hP0 (.int .u64 (pgV x)) (.int .u64 (pgA y)) (.int .u64 (pgP z))
                  refine hK.out _ _ B9 (fun hHeld => ?_)
                  clear hK K9
                  refine wpAnyH_done (by kernel_rfl) ?_ _
                  go_wp2
                  go_meet
                  exact ⟨_, rfl, hP0, C9, B9⟩
              ·
                go_simp
                have ka : Below wr.heap.size wr (U0.alloc (.cells #[.int .u64 0, .int .u64 0, .int .u64 0] 33)) := kS.alloc kS.size _
                have D3 : C3 (U0.alloc (.cells #[.int .u64 0, .int .u64 0, .int .u64 0] 33)) U0.heap.size (.int .u64 0) (.int .u64 0) (.int .u64 0) := C3.new U0 _ _ _ 33
                have hP0 : wr.heap.size ≤ U0.heap.size := kS.size
                generalize U0.heap.size = P0 at *
                generalize U0.alloc (.cells #[.int .u64 0, .int .u64 0, .int .u64 0] 33) = wa at *
                refine hK.out _ _ ka (fun hHeld => ?_)
                clear hK K9
                try simp only [Act.put, List.setIfInBounds_toArray, List.set_cons_zero, List.set_cons_succ, List.getElem_toArray, List.getElem_cons_succ, List.getElem_cons_zero]
                refine wpAnyH_ready (rs := [9]) (by kernel_rfl) (by simp) ?_
                refine AllReadyH.cons rfl (fun K9 hK => ?_) AllReadyH.nil
                go_simp
                go_at_call 10
                refine (at_any (HSc.out _ ka) i).mono ?_
                rw [HZ.out]
                rintro _ w9 ⟨rfl, e9⟩
                obtain rfl : wa = w9 := e9.symm
                clear e9
                refine hK.out _ _ ka (fun hHeld => ?_)
                clear hK K9
                try simp only [Act.put, List.setIfInBounds_toArray, List.set_cons_zero, List.set_cons_succ, List.getElem_toArray, List.getElem_cons_succ, List.getElem_cons_zero]
                refine wpAnyH_ready (rs := [10]) (by kernel_rfl) (by simp) ?_
                refine AllReadyH.cons rfl (fun K9 hK => ?_) AllReadyH.nil
                go_simp
                go_at_call 9
                refine (page_gen x y z HXY.out.1 HXY.out.2.1).mono ?_
                rintro _ w2 ⟨rfl, b2⟩
                have kap : Below wr.heap.size wr w2 := ka.trans (b2.mono ka.size)
                have D3 := D3.below b2
                refine hK.out _ _ kap (fun hHeld => ?_)
                clear hK K9
                try simp only [Act.put, List.setIfInBounds_toArray, List.set_cons_zero, List.set_cons_succ, List.getElem_toArray, List.getElem_cons_succ, List.getElem_cons_zero]
                refine wpAnyH_ready (rs := [12]) (by kernel_rfl) (by simp) ?_
                refine AllReadyH.cons rfl (fun K9 hK => ?_) AllReadyH.nil
                have HC2 := D3
                obtain ⟨z0, z1, z2, y0, y1, y2⟩ := D3
                go_simp
                clear z0 z1 z2 y0 y1 y2
                have C9 := HC2.set (.int .u64 (pgV x)) (.int .u64 (pgA y)) (.int .u64 (pgP z))
                have B9 := belowC (B := wr.heap.size) kap hP0 (.int .u64 (pgV x)) (.int .u64 (pgA y)) (.int .u64 (pgP z))
                refine hK.out _ _ B9 (fun hHeld => ?_)
                clear hK K9
                refine wpAnyH_done (by kernel_rfl) ?_ _
                go_wp2
                go_meet
                exact ⟨_, rfl, hP0, C9, B9⟩
            ·
              go_simp
              have ka : Below wr.heap.size wr (U0.alloc (.cells #[.int .u64 0, .int .u64 0, .int .u64 0] 33)) := kS.alloc kS.size _
              have D3 : C3 (U0.alloc (.cells #[.int .u64 0, .int .u64 0, .int .u64 0] 33)) U0.heap.size (.int .u64 0) (.int .u64 0) (.int .u64 0) := C3.new U0 _ _ _ 33
              have hP0 : wr.heap.size ≤ U0.heap.size := kS.size
              generalize U0.heap.size = P0 at *
              generalize U0.alloc (.cells #[.int .u64 0, .int .u64 0, .int .u64 0] 33) = wa at *
              refine hK.out _ _ ka (fun hHeld => ?_)
              clear hK K9
              try simp only [Act.put, List.setIfInBounds_toArray, List.set_cons_zero, List.set_cons_succ, List.getElem_toArray, List.getElem_cons_succ, List.getElem_cons_zero]
              refine wpAnyH_ready (rs := [6]) (by kernel_rfl) (by simp) ?_
              refine AllReadyH.cons rfl (fun K9 hK => ?_) AllReadyH.nil
              go_simp
              go_at_call 10
              refine (at_any (HSb.out _ ka) i).mono ?_
              rw [HY.out]
              rintro _ w9 ⟨rfl, e9⟩
              obtain rfl : wa = w9 := e9.symm
              clear e9
              refine hK.out _ _ ka (fun hHeld => ?_)
              clear hK K9
              try simp only [Act.put, List.setIfInBounds_toArray, List.set_cons_zero, List.set_cons_succ, List.getElem_toArray, List.getElem_cons_succ, List.getElem_cons_zero]
              refine wpAnyH_ready (rs := [9]) (by kernel_rfl) (by simp) ?_
              refine AllReadyH.cons rfl (fun K9 hK => ?_) AllReadyH.nil
              go_simp
              go_at_call 10
              refine (at_any (HSc.out _ ka) i).mono ?_
              rw [HZ.out]
              rintro _ w9 ⟨rfl, e9⟩
              obtain rfl : wa = w9 := e9.symm
              clear e9
              refine hK.out _ _ ka (fun hHeld => ?_)
              clear hK K9
              try simp only [Act.put, List.setIfInBounds_toArray, List.set_cons_zero, List.set_cons_succ, List.getElem_toArray, List.getElem_cons_succ, List.getElem_cons_zero]
              refine wpAnyH_ready (rs := [10]) (by kernel_rfl) (by simp) ?_
              refine AllReadyH.cons rfl (fun K9 hK => ?_) AllReadyH.nil
              go_simp
              go_at_call 9
              refine (page_gen x y z HXY.out.1 HXY.out.2.1).mono ?_
              rintro _ w2 ⟨rfl, b2⟩
              have kap : Below wr.heap.size wr w2 := ka.trans (b2.mono ka.size)
              have D3 := D3.below b2
              refine hK.out _ _ kap (fun hHeld => ?_)
              clear hK K9
              try simp only [Act.put, List.setIfInBounds_toArray, List.set_cons_zero, List.set_cons_succ, List.getElem_toArray, List.getElem_cons_succ, List.getElem_cons_zero]
              refine wpAnyH_ready (rs := [12]) (by kernel_rfl) (by simp) ?_
              refine AllReadyH.cons rfl (fun K9 hK => ?_) AllReadyH.nil
              have HC2 := D3
              obtain ⟨z0, z1, z2, y0, y1, y2⟩ := D3
              go_simp
              clear z0 z1 z2 y0 y1 y2
              have C9 := HC2.set (.int .u64 (pgV x)) (.int .u64 (pgA y)) (.int .u64 (pgP z))
              have B9 := belowC (B := wr.heap.size) kap hP0 (.int .u64 (pgV x)) (.int .u64 (pgA y)) (.int .u64 (pgP z))
              refine hK.out _ _ B9 (fun hHeld => ?_)
              clear hK K9
              refine wpAnyH_done (by kernel_rfl) ?_ _
              go_wp2
              go_meet
              exact ⟨_, rfl, hP0, C9, B9⟩
        case rest =>
          obtain ⟨P, rfl, HC⟩ := hcut
          have HW : Hid (TwI w p b m ra rb fm X (.slice q ln cl) la (.slice q4 mn4 c4) lb wc) := HR.out.below HC.out.2.2
          have HRW : Hid (wr.heap.size ≤ P ∧ PgR wr X (.slice q ln cl) la ∧ PgR wr X (.slice q4 mn4 c4) lb) := ⟨HC.out.1, HR.out.rowa, HR.out.rowb⟩
          have HO : Hid (okP (pgV x, pgA y, pgP z) ∧ (!ho (pgP z) 18446744073709551361 && ho (pgP z) 10 && (!hs (pgP z) 4 || hs (pgP z) 2)) = true) := pg_ok x y z HXY.out.2.2
          have HP : Hid (C3 wc P (.int .u64 (pgV x)) (.int .u64 (pgA y)) (.int .u64 (pgP z))) := HC.out.2.1
          generalize pgV x = va at *
          generalize pgA y = pa at *
          generalize pgP z = pm at *
          obtain ⟨z0, z1, z2, y0, y1, y2⟩ := HP.out
          have HXR : Hid (X ≤ wr.heap.size) := HR.out.xs
          clear kS k0 HSb HSc HR HC HXY HZ HY
          go_upto_if 94 with fail
          go_cut [15, 16] (fun s t W => ∃ la' lb' : List Pg, la'.length ≤ i + 1 ∧ lb'.length ≤ i + 1 ∧ Hid (TwI w p b m ra rb fm X s la' t lb' W))
          case first =>
            by_cases h2 : i % 2 = 0
            · as_aux_lemma =>
                have HRX : Hid (X ≤ wr.heap.size) := HXR
                have g1 : ((i : Int) % 2 == 0) = true := by rw [beq_iff_eq]; omega
                have g2 : ((i : Int).tmod 2 == 0) = true := by rw [beq_iff_eq, Int.tmod_eq_emod_of_nonneg (by omega)]; omega
                clear h2
                have c11 := HW.out.tw.map (va, pa, pm) HO.out.1 HO.out.2
                simp only at c11
                go_wp2_with fail
                refine c11.mono ?_
                rintro _ w4 ⟨v, rfl, hM⟩
                clear c11
                rcases hM with ⟨hv0, b4⟩ | ⟨rfl, t4, f4⟩
                · have hv1 : (v == 0) = false := by rw [beq_eq_false_iff_ne]; exact hv0
                  have H4 : Hid (Below wc.heap.size wc w4) := b4
                  clear b4 hv0 z0 z1 z2 y0 y1 y2
                  go_wp2_with fail
                  go_meet
                  exact ⟨la, lb, by have := HLN.out; omega, by have := HLN.out; omega, HW.out.below H4.out⟩
                · have hx := HX.out
                  have hxw := HW.out.xs
                  have hPr := HRW.out.1
                  have hPX : X ≤ P := Nat.le_trans HRX.out hPr
                  have hra4 : PgR w4 X (.slice q ln cl) la := HW.out.rowa.keep (fun j hj hl => f4.block j hl (by omega) (by omega) (by omega))
                  have hrb4 : PgR w4 X (.slice q4 mn4 c4) lb := HW.out.rowb.keep (fun j hj hl => f4.block j hl (by omega) (by omega) (by omega))
                  have hX4 : X ≤ w4.heap.size := Nat.le_trans hxw f4.size
                  have hb4 : Below w.heap.size w w4 := HW.out.bel.trans (f4.toBelow HW.out.bel.size hx.2.1 hx.2.2.1 hx.2.2.2)
                  have H4 : Hid (Tw p b m ra rb fm (la ++ [(va, pa, pm)]) lb w4 ∧ PgR w4 X (.slice q ln cl) la ∧ PgR w4 X (.slice q4 mn4 c4) lb ∧ Below w.heap.size w w4) := ⟨t4, hra4, hrb4, hb4⟩
                  obtain ⟨i3, z3, hi3, hz3, hs3, hb3, hzs3⟩ := page_info
                  have HRow : Hid (∀ o, (w4.alloc o).ownsRow X 33 3 (.slice q ln cl) ln (pcs la)) := fun o => by
                    rw [HLN.out.1]
                    rw [HLN.out.1] at hra4
                    exact World.ownsRow.alloc hra4 o
                  clear z0 z1 z2 y0 y1 y2
                  obtain ⟨z0, z1, z2, y0, y1, y2⟩ := HP.out.fra f4 (by omega) (by omega) (by omega)
                  clear t4 f4 hra4 hrb4 hb4
                  go_wp2_with (first | (at_builtin; refine wpList_append_own_at _ rfl _ _ 61 rfl X 33 i3 z3 3 24 Try.underlying61 hi3 hz3 hs3 hb3 hzs3 (by decide) _ ln (pcs la) rfl (HRow.out _) ⟨w4.heap.size, 0, .none⟩ 1 1 [.int .u64 va, .int .u64 pa, .int .u64 pm] rfl rfl (three_new _ _ _ _ _) (by simp [Value.oneCell']) (by unfold maxLen; omega) (by omega) (by simp only [World.size_alloc]; omega) ?_; intro v' w8 hown8 hgrow _ hor) | fail)
                  go_meet
                  have hadd := TwI.add H4.out.2.2.2 H4.out.1 H4.out.2.1 H4.out.2.2.1 hX4 HW.out.apart hx.1 (by omega) (by rw [← HLN.out.1]; exact hown8) _ hgrow hor
                  exact ⟨la ++ [(va, pa, pm)], lb, by have := HLN.out; simp; omega, by have := HLN.out; omega, hadd.1⟩
            · as_aux_lemma =>
                have HRX : Hid (X ≤ wr.heap.size) := HXR
                have g1 : ((i : Int) % 2 == 0) = false := by rw [beq_eq_false_iff_ne]; omega
                have g2 : ((i : Int).tmod 2 == 0) = false := by rw [beq_eq_false_iff_ne, Int.tmod_eq_emod_of_nonneg (by omega)]; omega
                clear h2
                have c11 := HW.out.symm.tw.map (va, pa, pm) HO.out.1 HO.out.2
                simp only at c11
                go_wp2_with fail
                refine c11.mono ?_
                rintro _ w4 ⟨v, rfl, hM⟩
                clear c11
                rcases hM with ⟨hv0, b4⟩ | ⟨rfl, t4, f4⟩
                · have hv1 : (v == 0) = false := by rw [beq_eq_false_iff_ne]; exact hv0
                  have H4 : Hid (Below wc.heap.size wc w4) := b4
                  clear b4 hv0 z0 z1 z2 y0 y1 y2
                  go_wp2_with fail
                  go_meet
                  exact ⟨la, lb, by have := HLN.out; omega, by have := HLN.out; omega, HW.out.below H4.out⟩
                · have hx := HX.out
                  have hxw := HW.out.xs
                  have hPr := HRW.out.1
                  have hPX : X ≤ P := Nat.le_trans HRX.out hPr
                  have hra4 : PgR w4 X (.slice q4 mn4 c4) lb := HW.out.symm.rowa.keep (fun j hj hl => f4.block j hl (by omega) (by omega) (by omega))
                  have hrb4 : PgR w4 X (.slice q ln cl) la := HW.out.symm.rowb.keep (fun j hj hl => f4.block j hl (by omega) (by omega) (by omega))
                  have hX4 : X ≤ w4.heap.size := Nat.le_trans hxw f4.size
                  have hb4 : Below w.heap.size w w4 := HW.out.bel.trans (f4.toBelow HW.out.bel.size hx.2.1 hx.2.2.1 hx.2.2.2)
                  have H4 : Hid (Tw p b m rb ra fm (lb ++ [(va, pa, pm)]) la w4 ∧ PgR w4 X (.slice q4 mn4 c4) lb ∧ PgR w4 X (.slice q ln cl) la ∧ Below w.heap.size w w4) := ⟨t4, hra4, hrb4, hb4⟩
                  obtain ⟨i3, z3, hi3, hz3, hs3, hb3, hzs3⟩ := page_info
                  have HRow : Hid (∀ o, (w4.alloc o).ownsRow X 33 3 (.slice q4 mn4 c4) mn4 (pcs lb)) := fun o => by
                    rw [HLN.out.2]
                    rw [HLN.out.2] at hra4
                    exact World.ownsRow.alloc hra4 o
                  clear z0 z1 z2 y0 y1 y2
                  obtain ⟨z0, z1, z2, y0, y1, y2⟩ := HP.out.fra f4 (by omega) (by omega) (by omega)
                  clear t4 f4 hra4 hrb4 hb4
                  go_wp2_with (first | (at_builtin; refine wpList_append_own_at _ rfl _ _ 61 rfl X 33 i3 z3 3 24 Try.underlying61 hi3 hz3 hs3 hb3 hzs3 (by decide) _ mn4 (pcs lb) rfl (HRow.out _) ⟨w4.heap.size, 0, .none⟩ 1 1 [.int .u64 va, .int .u64 pa, .int .u64 pm] rfl rfl (three_new _ _ _ _ _) (by simp [Value.oneCell']) (by unfold maxLen; omega) (by omega) (by simp only [World.size_alloc]; omega) ?_; intro v' w8 hown8 hgrow _ hor) | fail)
                  go_meet
                  have hadd := TwI.add H4.out.2.2.2 H4.out.1 H4.out.2.1 H4.out.2.2.1 hX4 HW.out.symm.apart hx.1 (by omega) (by rw [← HLN.out.2]; exact hown8) _ hgrow hor
                  exact ⟨la, lb ++ [(va, pa, pm)], by have := HLN.out; omega, by have := HLN.out; simp; omega, hadd.1.symm⟩
          case rest =>
            obtain ⟨la2, lb2, hla2, hlb2, HW2⟩ := hcut
            obtain ⟨q5, c5, rfl⟩ := HW2.out.rowa.shape
            obtain ⟨q6, c6, rfl⟩ := HW2.out.rowb.shape
            obtain ⟨n5, hn5⟩ : ∃ n5, n5 = la2.length := ⟨_, rfl⟩
            have HN5 : Hid (n5 = la2.length) := hn5
            rw [← hn5] at hla2 HW2 ⊢
            clear hn5
            go_upto_region 20 with fail
            go_cut [130] (fun s wd => s = .bool (decide (i % 5 = 4 ∧ 0 < n5)) ∧ Hid (TwI w p b m ra rb fm X (.slice q5 n5 c5) la2 (.slice q6 lb2.length c6) lb2 wd))
            case first =>
              have hm5 : (i : Int).tmod 5 = ((i % 5 : Nat) : Int) := by rw [Int.tmod_eq_emod_of_nonneg (by omega)]; omega
              by_cases h1 : i % 5 = 4
              · have g1 : ((i : Int) % 5 == 4) = true := by rw [beq_iff_eq]; omega
                by_cases h2 : 0 < n5
                · have g2 : (0 : Int) < n5 := by omega
                  have HE : Hid (decide (i % 5 = 4 ∧ 0 < n5) = true) := decide_eq_true ⟨h1, h2⟩
                  go_wp2
                  go_meet
                  case rel => exact ⟨by first | rw [HE.out] | rw [decide_eq_true h2], HW2⟩
                · have g2 : ¬ (0 : Int) < n5 := by omega
                  have HE : Hid (decide (i % 5 = 4 ∧ 0 < n5) = false) := decide_eq_false (fun h => h2 h.2)
                  go_wp2
                  go_meet
                  case rel => exact ⟨by first | rw [HE.out] | rw [decide_eq_false h2], HW2⟩
              · have g1 : ((i : Int) % 5 == 4) = false := by rw [beq_eq_false_iff_ne]; omega
                have HE : Hid (decide (i % 5 = 4 ∧ 0 < n5) = false) := decide_eq_false (fun h => h1 h.1)
                go_wp2
                go_meet
                case rel => exact ⟨by rw [HE.out], HW2⟩
            case rest =>
            clear HW2
            obtain ⟨rfl, HW2⟩ := hcut
            go_upto_if 130 with fail
            go_cut [15] (fun s W => ∃ la' : List Pg, la'.length ≤ i + 1 ∧ Hid (TwI w p b m ra rb fm X s la' (.slice q6 lb2.length c6) lb2 W))
            case first =>
              by_cases hd : i % 5 = 4 ∧ 0 < n5
              · as_aux_lemma =>
                  rw [decide_eq_true hd]
                  obtain ⟨_, hpos⟩ := hd
                  have hx := HX.out
                  have hrow := HW2.out.rowa
                  rw [HN5.out] at hrow
                  have hsee := hrow.see
                  obtain ⟨yk, hyl, hyi, hv9, ha9, hp9⟩ := at_of (l := la2) (i := 0) (by rw [← HN5.out]; exact hpos)
                  rcases hsee with h0 | ⟨g3, rfl, hg3, hcells⟩
                  · have := HN5.out; omega
                  have q0 : wc.cell? ⟨g3, 0, .none⟩ = some (.int .u64 yk.1) := by
                    have := (hcells 0 (by rw [← HN5.out]; exact hpos)).1
                    rw [hv9] at this
                    simpa using this
                  have hpw := HW2.out.tw.ok.2
                  have c16 := HW2.out.tw.unmap hyl (erase_mem hpw hyi) (hpw.sublist (List.eraseIdx_sublist la2 0))
                  have hpos2 : (0 : Int) < n5 := by omega
                  generalize toP yk.2.1 yk.2.2 = e9 at *
                  generalize yk.1 = y9 at *
                  clear hcells hyl hyi hv9 ha9 hp9 hpw hrow
                  go_wp2_with fail
                  refine c16.mono ?_
                  rintro _ x2 ⟨rfl, t2, f2⟩
                  have H5 : Hid (Tw p b m ra rb fm (la2.eraseIdx 0) lb2 x2 ∧ Fra p b m wc x2) := ⟨t2, f2⟩
                  clear t2 f2 c16 q0
                  have hrow2 : PgR x2 X (.slice (some ⟨g3, 0, .none⟩) n5 c5) la2 := HW2.out.rowa.keep (fun j hj hl => H5.out.2.block j hl (by omega) (by omega) (by omega))
                  have c24 : Calls Try.prog 24 #[.slice (some ⟨g3, 0, .none⟩) n5 c5, .int .i64 0] x2 fun e w' => ∃ v, e = .returned v ∧ PgR w' x2.heap.size v (la2.eraseIdx 0) ∧ Below x2.heap.size x2 w' := by
                    rw [HN5.out] at hrow2 ⊢
                    exact without_any hrow2 (by have := HN5.out; omega) 0
                  clear hrow2
                  go_wp2_with fail
                  refine c24.mono ?_
                  rintro _ x3 ⟨v3, rfl, r3, b3⟩
                  have H6 : Hid (PgR x3 x2.heap.size v3 (la2.eraseIdx 0) ∧ Below x2.heap.size x2 x3) := ⟨r3, b3⟩
                  clear r3 b3 c24
                  go_wp2_with fail
                  go_meet
                  have f4 := H5.out.2
                  have hbw : Below w.heap.size w x2 := HW2.out.bel.trans (f4.toBelow HW2.out.bel.size hx.2.1 hx.2.2.1 hx.2.2.2)
                  have hxs := Nat.le_trans HW2.out.xs f4.size
                  have hlen := List.length_eraseIdx_le la2 0
                  have hrb2 : PgR x2 X (.slice q6 lb2.length c6) lb2 := HW2.out.rowb.keep (fun j hj hl => f4.block j hl (by omega) (by omega) (by omega))
                  refine ⟨la2.eraseIdx 0, by have := HN5.out; omega, ⟨hbw.trans (H6.out.2.mono hbw.size), H5.out.1.below H6.out.2, H6.out.1.base hxs, hrb2.keep (fun j _ hj => H6.out.2.block j hj), Nat.le_trans hxs H6.out.2.size, fun k h1 h2 => ?_⟩⟩
                  have i1 := (H6.out.1.lt k h1).1
                  have i2 := (hrb2.lt k h2).2
                  omega
              · rw [decide_eq_false hd]
                go_wp2_with fail
                go_meet
                exact ⟨la2, by have := HN5.out; omega, HW2⟩
            case rest =>
              as_aux_lemma =>
                clear HW2
                obtain ⟨la3, hla3, HW3⟩ := hcut
                obtain ⟨q7, c7, rfl⟩ := HW3.out.rowa.shape
                have c25a := HW3.out.tw.holds (c := c7) (by omega) HW3.out.rowa.see
                have H25 : Hid (∀ W, Below wc.heap.size wc W → Calls Try.prog 25 #[.pointer (some ⟨p, 0, .none⟩), .int .u64 (ad rb), .slice q6 lb2.length c6] W fun e w' => e = .returned (.bool true) ∧ Below W.heap.size W w') := fun W hW => (HW3.out.tw.symm.below hW).holds (by omega) (HW3.out.rowb.see.keep hW)
                obtain ⟨n7, hn7⟩ : ∃ n7, n7 = la3.length := ⟨_, rfl⟩
                obtain ⟨n8, hn8⟩ : ∃ n8, n8 = lb2.length := ⟨_, rfl⟩
                have HN7 : Hid (n7 = la3.length ∧ n8 = lb2.length) := ⟨hn7, hn8⟩
                rw [← hn7] at HW3 c25a hla3 ⊢
                rw [← hn8] at HW3 H25 hlb2 ⊢
                clear hn7 hn8
                go_wp2_with fail
                refine c25a.mono ?_
                rintro _ x1 ⟨rfl, b1⟩
                have c25b := H25.out x1 b1
                have HB1 : Hid (Below wc.heap.size wc x1) := b1
                clear b1 c25a H25
                go_wp2_with fail
                refine c25b.mono ?_
                rintro _ x2 ⟨rfl, b2⟩
                have H9 : Hid (TwI w p b m ra rb fm X (.slice q7 n7 c7) la3 (.slice q6 n8 c6) lb2 x2) := (HW3.out.below HB1.out).below b2
                clear b2 c25b HB1
                go_wp2_with fail
                exact ⟨⟨i + 1, la3, lb2, by omega, by have := HN7.out; omega, by have := HN7.out; omega, by go_num, H9⟩, by simp only [intOf]; omega⟩
      · rw [decide_eq_false hlt]
        have hl40 : ln ≤ 40 ∧ mn4 ≤ 40 := by omega
        have HR2 : Hid (TwI w p b m ra rb fm X (.slice q ln cl) la (.slice q4 mn4 c4) lb wr) := HR
        obtain ⟨w10, hw10⟩ : ∃ w10, w10 = wr := ⟨_, rfl⟩
        clear HR HA hi hlt
        go_wp2_with fail
        go_loopw [21] (fun v wq => ∃ j : Nat, j ≤ ln ∧ v = .int .i64 j ∧ Hid (Tw p b m ra rb fm (la.drop j) lb wq ∧ Below w.heap.size w wq ∧ PgR wq X (.slice q ln cl) la ∧ PgR wq X (.slice q4 mn4 c4) lb ∧ X ≤ wq.heap.size)) (fun v _ => (ln - intOf v).toNat)
        case atStart => exact ⟨0, by omega, rfl, HR2.out.tw, HR2.out.bel, HR2.out.rowa, HR2.out.rowb, HR2.out.xs⟩
        case round =>
          clear HR2
          obtain ⟨j, hj, rfl, H3⟩ := hrel
          have hx := HX.out
          by_cases hjn : j < ln
          · as_aux_lemma =>
              have hj2 : (j : Int) < ln := by omega
              have hrow := H3.out.2.2.1
              rw [HLN.out.1] at hrow
              have hsee := hrow.see
              obtain ⟨yk, hyl, hyi, hv9, ha9, hp9⟩ := at_of (l := la) (i := j) (by rw [← HLN.out.1]; exact hjn)
              rcases hsee with h0 | ⟨g3, rfl, hg3, hcells⟩
              · have := HLN.out.1; omega
              have q0 : wr.cell? ⟨g3, j * 3, .none⟩ = some (.int .u64 yk.1) := by
                have := (hcells j (by rw [← HLN.out.1]; exact hjn)).1
                rw [hv9] at this
                exact this
              have hdr : la.drop j = yk :: la.drop (j + 1) := by
                have h9 := (List.getElem?_eq_some_iff.1 hyi)
                rw [← h9.2, List.getElem_cons_drop]
              have hpw := H3.out.1.ok.2
              rw [hdr] at hpw
              have c16 := H3.out.1.unmap (y := yk) (lm := la.drop (j + 1)) (by rw [hdr]; simp) (fun z => by
                rw [hdr, List.mem_cons]
                rw [List.pairwise_cons] at hpw
                constructor
                · exact fun h => ⟨.inr h, fun e => hpw.1 z h (by rw [e])⟩
                · rintro ⟨h | h, hne⟩
                  · exact absurd h hne
                  · exact h) (List.pairwise_cons.1 hpw).2
              generalize toP yk.2.1 yk.2.2 = e9 at *
              generalize yk.1 = y9 at *
              clear hcells hyl hyi hv9 ha9 hp9 hpw hdr hrow
              go_wp2_with fail
              refine c16.mono ?_
              rintro _ x2 ⟨rfl, t2, f2⟩
              have H4 : Hid (Tw p b m ra rb fm (la.drop (j + 1)) lb x2 ∧ Below w.heap.size w x2 ∧ PgR x2 X (.slice (some ⟨g3, 0, .none⟩) ln cl) la ∧ PgR x2 X (.slice q4 mn4 c4) lb ∧ X ≤ x2.heap.size) := by
                have h3 := H3.out
                exact ⟨t2, h3.2.1.trans (f2.toBelow h3.2.1.size hx.2.1 hx.2.2.1 hx.2.2.2), h3.2.2.1.keep (fun k hk hl => f2.block k hl (by omega) (by omega) (by omega)), h3.2.2.2.1.keep (fun k hk hl => f2.block k hl (by omega) (by omega) (by omega)), Nat.le_trans h3.2.2.2.2 f2.size⟩
              clear t2 f2 c16 q0 H3
              go_wp2_with fail
              exact ⟨⟨j + 1, by omega, by go_num, H4⟩, by simp only [intOf]; omega⟩
          · as_aux_lemma =>
              have hj2 : ¬ (j : Int) < ln := by omega
              have hdr : la.drop j = [] := List.drop_eq_nil_of_le (by rw [← HLN.out.1]; omega)
              have ht := H3.out.1
              rw [hdr] at ht
              have c20 := ht.freeAll
              have H4 : Hid (Below w.heap.size w wr ∧ PgR wr X (.slice q4 mn4 c4) lb) := ⟨H3.out.2.1, H3.out.2.2.2.1⟩
              clear ht hdr H3
              go_wp2_with fail
              refine c20.mono ?_
              rintro _ x1 ⟨rfl, t1, f1⟩
              have hrow1 : PgR x1 X (.slice q4 mn4 c4) lb := H4.out.2.keep (fun k hk hl => f1.block k hl (by omega) (by omega) (by omega))
              have H5 : Hid (Tn p b m rb fm lb x1 ∧ Below w.heap.size w x1) := ⟨t1, H4.out.1.trans (f1.toBelow H4.out.1.size hx.2.1 hx.2.2.1 hx.2.2.2)⟩
              have c25 : Calls Try.prog 25 #[.pointer (some ⟨p, 0, .none⟩), .int .u64 (ad rb), .slice q4 mn4 c4] x1 fun e w' => e = .returned (.bool true) ∧ Below x1.heap.size x1 w' := by
                rw [HLN.out.2] at hrow1 ⊢
                exact t1.holds (by have := HLN.out.2; omega) hrow1.see
              clear t1 f1 hrow1 c20 H4
              go_wp2_with fail
              refine c25.mono ?_
              rintro _ x2 ⟨rfl, b2⟩
              have H6 : Hid (Tn p b m rb fm lb x2 ∧ Below w.heap.size w x2) := ⟨H5.out.1.below b2, H5.out.2.trans (b2.mono H5.out.2.size)⟩
              have c26 := H6.out.1.read
              clear b2 c25 H5
              go_wp2_with fail
              refine c26.mono ?_
              rintro _ x3 ⟨g9, k1, k2, rfl, k3, k4, k5⟩
              have H7 : Hid (Below w.heap.size w x3) := H6.out.2.trans (k5.mono H6.out.2.size)
              have hconv : (Go.convert 42 9 (.slice (some ⟨g9, 0, .none⟩) 8 8)).run Try.prog x3 = .ok (.string ⟨#[109, 105, 110, 101, 0, 0, 0, 0]⟩) x3 :=
                run_convert_bytes_arg x3 42 5 (by kernel_rfl) (by kernel_rfl) g9 0 8 8 [109, 105, 110, 101, 0, 0, 0, 0] rfl (fun i hi => by
                  rw [Nat.zero_add, k3 i hi]
                  obtain rfl | rfl | rfl | rfl | rfl | rfl | rfl | rfl : i = 0 ∨ i = 1 ∨ i = 2 ∨ i = 3 ∨ i = 4 ∨ i = 5 ∨ i = 6 ∨ i = 7 := by omega
                  all_goals rfl) 9 (by kernel_rfl)
              clear k1 k2 k3 k4 k5 c26 H6
              go_wp2_with fail
              go_ret
              exact ⟨rfl, H7.out⟩
end Go.Proofs.Ytncjmlndjnfncaa
