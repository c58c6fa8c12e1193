import Derived.Test.YtabnipbdbnmmpaaGreatDoorTw47
import Derived.Test.YtabnipbdbnmmpaaGreatDoorTw32
import Derived.Test.YtabnipbdbnmmpaaGreatDoorTw43
set_option linter.unusedVariables false
set_option linter.unusedSimpArgs false
namespace Go.Proofs.YtabnipbdbnmmpaaGreatDoor
open Go.RowKit
def srOf (x : Sg × Value) : Sr := match x.2 with | .slice q _ c => ⟨x.1.va, x.1.fl, q, x.1.sz, c, x.1.mem⟩ | _ => ⟨0, 0, none, 0, 0, 0⟩
def srs (E : List (Sg × Value)) (i : Nat) : Sr := match E[i]? with | some x => srOf x | none => ⟨0, 0, none, 0, 0, 0⟩
theorem srs_some {E : List (Sg × Value)} {i : Nat} {x : Sg × Value} (h : E[i]? = some x) : srs E i = srOf x := by unfold srs; rw [h]
theorem srs_n {E : List (Sg × Value)} (hd : ∀ x ∈ E, ∃ q n c, x.2 = .slice q n c) {i : Nat} {x : Sg × Value} (h : E[i]? = some x) : (srs E i).n = x.1.sz := by
 obtain ⟨q, n, c, e⟩ := hd x (List.mem_of_getElem? h)
 rw [srs_some h, srOf, e]
theorem sum_szs {E : List (Sg × Value)} (hd : ∀ x ∈ E, ∃ q n c, x.2 = .slice q n c) : ∀ i, i ≤ E.length → sumN (srs E) i = szs (E.map (·.1)) i
 | 0, _ => by cases E <;> rfl
 | i + 1, h => by
  obtain ⟨x, hx⟩ : ∃ x, E[i]? = some x := ⟨E[i], List.getElem?_eq_getElem (by omega)⟩
  rw [szs_succ (E.map (·.1)) i x.1 (by rw [List.getElem?_map, hx]; rfl), sumN, sum_szs hd i (by omega), srs_n hd hx]
set_option maxHeartbeats 2000000 in
theorem size_any {w : World} {X c : Nat} {q : Option Addr} {E : List (Sg × Value)} {B : Nat → Int} (h : Prs w X (.slice q E.length c) E B) (h0 : 0 < E.length) (h8 : E.length ≤ 8) (hc : E.length ≤ c ∧ c ≤ 9223372036854775807) :
  Calls Tryz.prog 37 #[.slice q E.length c] w fun e w' => e = .returned (.int .u64 (64 + 56 * E.length + szs (E.map (·.1)) E.length)) ∧ Below w.heap.size w w' := by
 have hd : ∀ x ∈ E, ∃ q n c, x.2 = .slice q n c := fun x hx => by
  obtain ⟨dq, dc, e, _⟩ := own_form (h.dat x hx)
  exact ⟨_, _, _, e⟩
 obtain ⟨x0, hx0⟩ : ∃ x, E[0]? = some x := ⟨E[0], List.getElem?_eq_getElem h0⟩
 obtain ⟨g, _, _, rfl, _⟩ := h.cells hx0
 have hg : Sgs w g 0 (srs E) E.length := by
  have key : ∀ i, i < E.length → ∃ x dq dc, E[i]? = some x ∧ x.2 = .slice dq x.1.sz dc ∧ srs E i = ⟨x.1.va, x.1.fl, dq, x.1.sz, dc, x.1.mem⟩ ∧ w.cell? ⟨g, i * 4, .none⟩ = some (.int .u64 x.1.va) ∧ w.cell? ⟨g, i * 4 + 1, .none⟩ = some (.int .u32 x.1.fl) ∧ w.cell? ⟨g, i * 4 + 2, .none⟩ = some (.slice dq x.1.sz dc) ∧ w.cell? ⟨g, i * 4 + 3, .none⟩ = some (.int .u64 x.1.mem) := by
   intro i hi
   obtain ⟨x, hx⟩ : ∃ x, E[i]? = some x := ⟨E[i], List.getElem?_eq_getElem hi⟩
   obtain ⟨g', dq, dc, eg, hd, hd1, hd2, a0, a1, a2, a3⟩ := h.cells hx
   injection eg with eg
   injection eg with eg
   subst eg
   exact ⟨x, dq, dc, hx, hd, by rw [srs_some hx, srOf, hd], a0, a1, a2, a3⟩
  refine ⟨fun i hi => ?_, fun i hi => ?_, fun i hi => ?_, fun i hi => ?_⟩ <;> obtain ⟨x, dq, dc, hx, hd, es, a0, a1, a2, a3⟩ := key i hi <;> rw [es, Nat.zero_add] <;> assumption
 have hn : ∀ i, i < E.length → (srs E i).n ≤ 1073741824 ∧ (srs E i).n ≤ (srs E i).c ∧ (srs E i).c ≤ 9223372036854775807 := by
  intro i hi
  obtain ⟨x, hx⟩ : ∃ x, E[i]? = some x := ⟨E[i], List.getElem?_eq_getElem hi⟩
  obtain ⟨g', dq, dc, eg, hd, hd1, hd2, _⟩ := h.cells hx
  rw [srs_some hx, srOf, hd]
  have := h.sz x (List.mem_of_getElem? hx)
  exact ⟨by show x.1.sz ≤ _; omega, hd1, hd2⟩
 have c11 := fileSize_any g 0 E.length c (srs E) w hg h8 hc hn
 rw [sum_szs hd E.length (Nat.le_refl _)] at c11
 exact c11
theorem szs_bd : ∀ (S : List Sg) (i : Nat) (hs : ∀ s ∈ S, s.sz ≤ 400000), szs S i ≤ i * 400000
 | S, 0, _ => by cases S <;> simp [szs]
 | [], i + 1, _ => by simp [szs]
 | s :: S, i + 1, h => by
  have h1 := szs_bd S i (fun t ht => h t (List.mem_cons_of_mem _ ht))
  have h2 := h s List.mem_cons_self
  simp only [szs]
  omega
def WrP (w : World) (E : List (Sg × Value)) (B : Nat → Int) (en : Int) (e : Ending) (w' : World) : Prop :=
 Below w.heap.size w w' ∧ ((Good en (E.map (·.1)) ∧ 64 + 56 * E.length + szs (E.map (·.1)) E.length ≤ 262144 ∧ ∃ v, e = .returned (.tuple #[v, .nilIface]) ∧ w'.ownsRow w.heap.size 5 1 v (64 + 56 * E.length + szs (E.map (·.1)) E.length) (lst (fil en (E.map (·.1)) B) (64 + 56 * E.length + szs (E.map (·.1)) E.length))) ∨ (¬ (Good en (E.map (·.1)) ∧ 64 + 56 * E.length + szs (E.map (·.1)) E.length ≤ 262144) ∧ ∃ p, e = .returned (.tuple #[.slice .none 0 0, .iface 86 (.pointer p)])))
set_option maxHeartbeats 4000000 in
set_option maxRecDepth 100000 in
theorem write_any {w : World} {X : Nat} {sv : Value} {E : List (Sg × Value)} {B : Nat → Int} (h : Prs w X sv E B) (hsome : ∀ x ∈ E, ∃ g c, x.2 = .slice (some ⟨g, 0, .none⟩) x.1.sz c) (hl : E.length ≤ 1000) (hP : Plc (E.map (·.1))) (hL : Laid w) (en : Int) (he : 0 ≤ en ∧ en < 18446744073709551616) :
  Calls Tryz.prog 10 #[.agg #[.int .u64 en, sv]] w fun e w' => WrP w E B en e w' := by
 obtain ⟨q, c, rfl, hc1, hc2, hq⟩ := own_form h.own
 have HB : Hid (Below w.heap.size w (w.alloc (.cells #[.int .u64 en, .slice q E.length c] 41))) := (Below.refl _ _).alloc (Nat.le_refl _) _
 have q0 : (w.alloc (.cells #[.int .u64 en, .slice q E.length c] 41)).cell? ⟨w.heap.size, 0, .none⟩ = some (.int .u64 en) := World.cell?_alloc_at _ _ _ _ rfl
 have q1 : (w.alloc (.cells #[.int .u64 en, .slice q E.length c] 41)).cell? ⟨w.heap.size, 1, .none⟩ = some (.slice q E.length c) := World.cell?_alloc_at _ _ _ _ rfl
 have HQ0 : Hid _ := q0
 have HQ1 : Hid _ := q1
 have c10 := check_any (h.below HB.out) hl en he
 have HPl : Hid (Plc (E.map (·.1))) := hP
 have HL : Hid (Laid w) := hL
 have HP : Hid (Prs w X (.slice q E.length c) E B) := h
 clear h hP hL
 go_enter Tryz.func10, Tryz.ntmps10
 go_upto_region 1 with fail
 generalize (w.alloc (.cells #[.int .u64 en, .slice q E.length c] 41)) = W1 at *
 go_upto_region 2 with (go_at_call 36; refine c10.mono ?_; rintro e1 W2 ⟨hb2, hc⟩; rcases hc with ⟨hg, rfl⟩ | ⟨hg, p, rfl⟩)
 ·have HB2 : Hid (Below W1.heap.size W1 W2) := hb2
  have HG : Hid (Good en (E.map (·.1))) := hg
  have hE : (E.map (·.1)).length = E.length := List.length_map ..
  have h0 : 0 < E.length := by rw [← hE]; exact hg.1
  have h8 : E.length ≤ 8 := by rw [← hE]; exact hg.2.1
  clear hb2 hg c10 q0 q1
  have HA2 : Hid (Below w.heap.size w W2) := HB.out.trans (HB2.out.mono HB.out.size)
  have HP2 : Hid (Prs W2 X (.slice q E.length c) E B) := HP.out.below HA2.out
  have k0 : W2.cell? ⟨w.heap.size, 0, .none⟩ = some (.int .u64 en) := (HB2.out.cell (lt_of_cell HQ0.out)).trans HQ0.out
  have k1 : W2.cell? ⟨w.heap.size, 1, .none⟩ = some (.slice q E.length c) := (HB2.out.cell (lt_of_cell HQ1.out)).trans HQ1.out
  have c11 := size_any HP2.out h0 h8 ⟨hc1, hc2⟩
  have hzb : szs (E.map (·.1)) E.length ≤ E.length * 400000 := by
   refine szs_bd _ _ fun s hs => ?_
   obtain ⟨x, hx, rfl⟩ := List.mem_map.1 hs
   exact HP.out.sz x hx
  generalize hz : szs (E.map (·.1)) E.length = z at *
  have HZ : Hid (szs (E.map (·.1)) E.length = z) := hz
  clear hz
  go_upto_region 5 with (go_at_call 37; refine c11.mono ?_; rintro _ W3 ⟨rfl, hb3⟩)
  have HB3 : Hid (Below W2.heap.size W2 W3) := hb3
  have HA3 : Hid (Below w.heap.size w W3) := HA2.out.trans (HB3.out.mono HA2.out.size)
  have l0 : W3.cell? ⟨w.heap.size, 0, .none⟩ = some (.int .u64 en) := (hb3.cell (lt_of_cell k0)).trans k0
  have l1 : W3.cell? ⟨w.heap.size, 1, .none⟩ = some (.slice q E.length c) := (hb3.cell (lt_of_cell k1)).trans k1
  clear hb3 k0 k1 c11
  by_cases hbig : 64 + 56 * E.length + z ≤ 262144
  ·have hbi : ¬ (262144 : Int) < 64 + 56 * E.length + z := by omega
   have c13 := elay_any (HP.out.below HA3.out) hsome h0 h8 HPl.out (HL.out.below HA3.out) en he (by rw [HZ.out]; omega)
   rw [HZ.out, show ((64 + 56 * E.length + z : Nat) : Int) = 64 + 56 * E.length + z by push_cast; rfl] at c13
   go_wp2_with (first | (go_at_call 39; refine c13.mono ?_; rintro _ W4 ⟨v, rfl, own4, hb4⟩) | fail)
   go_ret2
   refine ⟨HA3.out.trans (hb4.mono HA3.out.size), .inl ⟨HG.out, by rw [HZ.out]; exact hbig, v, rfl, ?_⟩⟩
   rw [HZ.out]
   exact own_mono own4 HA3.out.size
  ·have hbi : (262144 : Int) < 64 + 56 * E.length + z := by omega
   go_wp2_with (go_at_call 38; refine (refusal_any _ _ _).mono ?_; rintro _ _ ⟨rfl, rfl⟩)
   go_ret2
   exact ⟨HA3.out.alloc HA3.out.size _, .inr ⟨fun h => by rw [HZ.out] at h; exact hbig h.2, _, rfl⟩⟩
 ·have HB2 : Hid (Below W1.heap.size W1 W2) := hb2
  have HG : Hid (¬ Good en (E.map (·.1))) := hg
  clear hb2 hg c10
  go_wp2_with fail
  go_ret2
  exact ⟨HB.out.trans (HB2.out.mono HB.out.size), .inr ⟨fun h => HG.out h.1, _, rfl⟩⟩
end Go.Proofs.YtabnipbdbnmmpaaGreatDoor
namespace Go.Proofs.YtabnipbdbnmmpaaGreatDoor
open Go.RowKit
theorem num_congr {B C : Nat → Int} {o p : Nat} : ∀ k, (∀ j, j < k → B (o + j) = C (p + j)) → num B o k = num C p k
 | 0, _ => rfl
 | k + 1, h => by
  have h1 := num_congr (B := B) (C := C) (o := o) (p := p) k (fun j hj => h j (by omega))
  simp only [num]
  rw [h1, h k (by omega)]
theorem emod_split (v a : Int) (ha : 0 < a) : v % (a * 256) = v % a + a * (v / a % 256) := by
 have h1 : v = a * (v / a) + v % a := (Int.mul_ediv_add_emod v a).symm
 have h2 : v / a = 256 * (v / a / 256) + v / a % 256 := (Int.mul_ediv_add_emod (v / a) 256).symm
 have h3 := Int.emod_nonneg v (show a ≠ 0 by omega)
 have h4 := Int.emod_lt_of_pos v ha
 have h5 : 0 ≤ v / a % 256 := Int.emod_nonneg _ (by decide)
 have h6 : v / a % 256 < 256 := Int.emod_lt_of_pos _ (by decide)
 have h7 : a * (v / a % 256) ≤ a * 255 := Int.mul_le_mul_of_nonneg_left (by omega) (by omega)
 have h8 : 0 ≤ a * (v / a % 256) := Int.mul_nonneg (by omega) h5
 have e : v = (v % a + a * (v / a % 256)) + a * 256 * (v / a / 256) := by
  have h9 : a * (v / a) = a * 256 * (v / a / 256) + a * (v / a % 256) := by
   rw [Int.mul_assoc, ← Int.mul_add, ← h2]
  omega
 have h10 : v % (a * 256) = (v % a + a * (v / a % 256)) % (a * 256) := by
  conv => lhs; rw [e]
  exact Int.add_mul_emod_self_left _ _ _
 rw [h10]
 exact Int.emod_eq_of_lt (by omega) (by omega)
theorem num_put (H : Nat → Int) (o n : Nat) (v : Int) : ∀ k, k ≤ n → num (putB H o n v) o k = v % 256 ^ k
 | 0, _ => by simp [num]
 | k + 1, h => by
  simp only [num]
  rw [num_put H o n v k (by omega), Int.pow_succ, emod_split _ _ (Int.pow_pos (by decide))]
  congr 2
  simp only [putB, if_pos (show o ≤ o + k ∧ o + k < o + n by omega), Nat.add_sub_cancel_left]
theorem put_out (H : Nat → Int) (o n : Nat) (v : Int) (i : Nat) (h : i < o ∨ o + n ≤ i) : putB H o n v i = H i := by
 simp only [putB]
 rw [if_neg (by omega)]
theorem put_bd (H : Nat → Int) (o n : Nat) (v : Int) (hH : ∀ i, 0 ≤ H i ∧ H i < 256) : ∀ i, 0 ≤ putB H o n v i ∧ putB H o n v i < 256 := fun i => by
 simp only [putB]
 split
 ·exact ⟨Int.emod_nonneg _ (by decide), Int.emod_lt_of_pos _ (by decide)⟩
 ·exact hH i
theorem hdP_bd : ∀ n i, 0 ≤ hdP n i ∧ hdP n i < 256
 | 0, i => by simp [hdP]
 | n + 1, i => put_bd _ _ _ _ (hdP_bd n) i
theorem sdP_bd : ∀ n i, 0 ≤ sdP n i ∧ sdP n i < 256
 | 0, i => by simp [sdP]
 | n + 1, i => put_bd _ _ _ _ (sdP_bd n) i
theorem headB_bd (en : Int) (n : Nat) : ∀ i, 0 ≤ headB en n i ∧ headB en n i < 256 := put_bd _ _ _ _ (put_bd _ _ _ _ (put_bd _ _ _ _ (hdP_bd 12)))
theorem segB_bd (va fl mem at_ : Int) (n : Nat) : ∀ i, 0 ≤ segB va fl mem at_ n i ∧ segB va fl mem at_ n i < 256 := put_bd _ _ _ _ (put_bd _ _ _ _ (put_bd _ _ _ _ (put_bd _ _ _ _ (put_bd _ _ _ _ (put_bd _ _ _ _ (sdP_bd 8))))))
theorem fil_bd (en : Int) (S : List Sg) (B : Nat → Int) (hB : ∀ i, 0 ≤ B i ∧ B i < 256) : ∀ i, 0 ≤ fil en S B i ∧ fil en S B i < 256 := fun i => by
 simp only [fil]
 split
 ·exact headB_bd _ _ _
 ·split
  ·unfold sgB
   cases S[(i - 64) / 56]? with
   | some s => exact segB_bd _ _ _ _ _ _
   | none => exact ⟨Int.le_refl _, (by omega : (0 : Int) < 256)⟩
  ·exact hB i
section
variable {en : Int} {S : List Sg} {B : Nat → Int}
theorem num_head (o k : Nat) (h : o + k ≤ 64) : num (fil en S B) o k = num (headB en S.length) o k :=
 num_congr k fun j hj => by simp only [fil, if_pos (show o + j < 64 by omega)]
theorem num_segF {i : Nat} {s : Sg} (hs : S[i]? = some s) (o k : Nat) (h : o + k ≤ 56) : num (fil en S B) (64 + 56 * i + o) k = num (segB s.va s.fl s.mem s.wh s.sz) o k :=
 num_congr k fun j hj => by
  have hlt := (List.getElem?_eq_some_iff.1 hs).1
  simp only [fil, if_neg (show ¬ 64 + 56 * i + o + j < 64 by omega), if_pos (show 64 + 56 * i + o + j < 64 + 56 * S.length by omega)]
  rw [show (64 + 56 * i + o + j - 64) / 56 = i by omega, show (64 + 56 * i + o + j - 64) % 56 = o + j by omega]
  simp only [sgB, hs]
theorem head_fix (n o k : Nat) (h : o + k ≤ 24 ∨ (40 ≤ o ∧ o + k ≤ 56) ∨ 58 ≤ o) : num (headB en n) o k = num (hdP 12) o k :=
 num_congr k fun j hj => by
  simp only [headB]
  rw [put_out _ _ _ _ _ (by omega), put_out _ _ _ _ _ (by omega), put_out _ _ _ _ _ (by omega)]
theorem fix_all : ∀ i, i < 12 → hFx i ≠ 0 → num (hdP 12) (hOf i) (hBy i) = hFx i ∧ (hOf i + hBy i ≤ 24 ∨ (40 ≤ hOf i ∧ hOf i + hBy i ≤ 56) ∨ 58 ≤ hOf i) := by decide
theorem hd_fil : Hd (fil en S B) 0 0 := by
 refine .inl ⟨rfl, rfl, fun i hi => ?_⟩
 by_cases h0 : hFx i = 0
 ·exact .inl h0
 ·obtain ⟨h1, h2⟩ := fix_all i hi h0
  refine .inr ?_
  rw [num_head _ _ (hOf_le i hi).1, head_fix _ _ _ h2, h1]
theorem num_en (he : 0 ≤ en ∧ en < 18446744073709551616) : num (fil en S B) 24 8 = en := by
 rw [num_head _ _ (by omega)]
 have : num (headB en S.length) 24 8 = num (putB (hdP 12) 24 8 en) 24 8 := num_congr 8 fun j hj => by
  simp only [headB]
  rw [put_out _ _ _ _ _ (by omega), put_out _ _ _ _ _ (by omega)]
 rw [this, num_put _ _ _ _ 8 (Nat.le_refl _), pow8]
 omega
theorem num_fro : num (fil en S B) 32 8 = 64 := by
 rw [num_head _ _ (by omega)]
 have : num (headB en S.length) 32 8 = num (putB (putB (hdP 12) 24 8 en) 32 8 64) 32 8 := num_congr 8 fun j hj => by
  simp only [headB]
  rw [put_out _ _ _ _ _ (by omega)]
 rw [this, num_put _ _ _ _ 8 (Nat.le_refl _), pow8]
 decide
theorem num_cnt (h : S.length ≤ 8) : num (fil en S B) 56 2 = S.length := by
 rw [num_head _ _ (by omega)]
 simp only [headB]
 rw [num_put _ _ _ _ 2 (Nat.le_refl _), show (256 : Int) ^ 2 = 65536 by decide]
 omega
theorem seg_ty (va fl mem at_ : Int) (n : Nat) : num (segB va fl mem at_ n) 0 4 = 1 := by
 have : num (segB va fl mem at_ n) 0 4 = num (sdP 8) 0 4 := num_congr 4 fun j hj => by
  simp only [segB]
  rw [put_out _ _ _ _ _ (by omega), put_out _ _ _ _ _ (by omega), put_out _ _ _ _ _ (by omega), put_out _ _ _ _ _ (by omega), put_out _ _ _ _ _ (by omega), put_out _ _ _ _ _ (by omega)]
 rw [this]
 decide
theorem seg_fl (va fl mem at_ : Int) (n : Nat) (h : 0 ≤ fl ∧ fl < 4294967296) : num (segB va fl mem at_ n) 4 4 = fl := by
 have : num (segB va fl mem at_ n) 4 4 = num (putB (sdP 8) 4 4 fl) 4 4 := num_congr 4 fun j hj => by
  simp only [segB]
  rw [put_out _ _ _ _ _ (by omega), put_out _ _ _ _ _ (by omega), put_out _ _ _ _ _ (by omega), put_out _ _ _ _ _ (by omega), put_out _ _ _ _ _ (by omega)]
 rw [this, num_put _ _ _ _ 4 (Nat.le_refl _), pow4]
 omega
theorem seg_at (va fl mem at_ : Int) (n : Nat) (h : 0 ≤ at_ ∧ at_ < 18446744073709551616) : num (segB va fl mem at_ n) 8 8 = at_ := by
 have : num (segB va fl mem at_ n) 8 8 = num (putB (putB (sdP 8) 4 4 fl) 8 8 at_) 8 8 := num_congr 8 fun j hj => by
  simp only [segB]
  rw [put_out _ _ _ _ _ (by omega), put_out _ _ _ _ _ (by omega), put_out _ _ _ _ _ (by omega), put_out _ _ _ _ _ (by omega)]
 rw [this, num_put _ _ _ _ 8 (Nat.le_refl _), pow8]
 omega
theorem seg_va (va fl mem at_ : Int) (n : Nat) (h : 0 ≤ va ∧ va < 18446744073709551616) : num (segB va fl mem at_ n) 16 8 = va := by
 have : num (segB va fl mem at_ n) 16 8 = num (putB (putB (putB (sdP 8) 4 4 fl) 8 8 at_) 16 8 va) 16 8 := num_congr 8 fun j hj => by
  simp only [segB]
  rw [put_out _ _ _ _ _ (by omega), put_out _ _ _ _ _ (by omega), put_out _ _ _ _ _ (by omega)]
 rw [this, num_put _ _ _ _ 8 (Nat.le_refl _), pow8]
 omega
theorem seg_n (va fl mem at_ : Int) (n : Nat) (h : n < 18446744073709551616) : num (segB va fl mem at_ n) 32 8 = n := by
 have : num (segB va fl mem at_ n) 32 8 = num (putB (putB (putB (putB (putB (sdP 8) 4 4 fl) 8 8 at_) 16 8 va) 24 8 va) 32 8 n) 32 8 := num_congr 8 fun j hj => by
  simp only [segB]
  rw [put_out _ _ _ _ _ (by omega)]
 rw [this, num_put _ _ _ _ 8 (Nat.le_refl _), pow8]
 omega
theorem seg_mem (va fl mem at_ : Int) (n : Nat) (h : 0 ≤ mem ∧ mem < 18446744073709551616) : num (segB va fl mem at_ n) 40 8 = mem := by
 simp only [segB]
 rw [num_put _ _ _ _ 8 (Nat.le_refl _), pow8]
 omega
end
end Go.Proofs.YtabnipbdbnmmpaaGreatDoor
namespace Go.Proofs.YtabnipbdbnmmpaaGreatDoor
open Go.RowKit
theorem ok1_b {va fl sz mem : Int} (h : ok1 va fl sz mem = true) (hv : 0 ≤ va) (hz : 0 ≤ sz) : va < 18446744073709551616 ∧ (0 ≤ fl ∧ fl < 4294967296) ∧ (0 ≤ mem ∧ mem < 18446744073709551616) ∧ sz ≤ 1073741824 := by
 unfold ok1 mf at h
 simp only [Bool.and_eq_true, decide_eq_true_eq, Bool.or_eq_true, beq_iff_eq] at h
 obtain ⟨⟨⟨⟨h1, h2⟩, h3⟩, h4⟩, h5⟩ := h
 omega
section
variable {en : Int} {S : List Sg} {B : Nat → Int}
theorem sgOf_fil {i : Nat} {s : Sg} (hs : S[i]? = some s) (hk : okS s = true) (hv : 0 ≤ s.va) (hw : s.wh < 18446744073709551616) : sgOf (fil en S B) (64 + 56 * i) = s ∧ num (fil en S B) (64 + 56 * i) 4 = 1 := by
 obtain ⟨b1, b2, b3, b4⟩ := ok1_b hk hv (by omega)
 have e0 := num_segF (en := en) (B := B) hs 0 4 (by omega)
 have e1 := num_segF (en := en) (B := B) hs 16 8 (by omega)
 have e2 := num_segF (en := en) (B := B) hs 4 4 (by omega)
 have e3 := num_segF (en := en) (B := B) hs 40 8 (by omega)
 have e4 := num_segF (en := en) (B := B) hs 8 8 (by omega)
 have e5 := num_segF (en := en) (B := B) hs 32 8 (by omega)
 rw [seg_ty] at e0
 rw [seg_va _ _ _ _ _ ⟨hv, b1⟩] at e1
 rw [seg_fl _ _ _ _ _ b2] at e2
 rw [seg_mem _ _ _ _ _ b3] at e3
 rw [seg_at _ _ _ _ _ ⟨by omega, by omega⟩] at e4
 rw [seg_n _ _ _ _ _ (by omega)] at e5
 refine ⟨?_, e0⟩
 unfold sgOf
 rw [e1, e2, e3, e4, e5]
 cases s
 simp
theorem lp_fil {T : Nat} (h8 : S.length ≤ 8) (hG : Gk S S.length) (hP : Plc S) (hT : T = 64 + 56 * S.length + szs S S.length) (hT2 : T ≤ 262144) (hv : ∀ s ∈ S, 0 ≤ s.va) : ∀ k i, i + k = S.length → lp T (fil en S B) k (64 + 56 * i) (S.take i) = ((0, 0), S)
 | 0, i, h => by
  have : i = S.length := by omega
  subst this
  rw [List.take_length]
  rfl
 | k + 1, i, h => by
  obtain ⟨s, hs⟩ : ∃ s, S[i]? = some s := ⟨S[i]'(by omega), List.getElem?_eq_getElem (by omega)⟩
  obtain ⟨g1, g2⟩ := hG i s (by omega) hs
  have hw := hP i s hs
  have hss := szs_succ S i s hs
  have hmo := szs_mono S (i + 1) S.length (by omega)
  obtain ⟨e1, e2⟩ := sgOf_fil (en := en) (B := B) hs g1 (hv s (List.mem_of_getElem? hs)) (by omega)
  have hl : (S.take i).length = i := by rw [List.length_take]; omega
  have est : stp T (fil en S B) (S.take i) (64 + 56 * i) = (0, S.take (i + 1)) := by
   unfold stp
   rw [e1, e2, if_neg (by decide), hl, if_neg (by omega), if_neg (by have : ok1 s.va s.fl s.sz s.mem = true := g1; rw [this]; decide), if_neg (by omega), if_neg (by rw [g2]; decide), List.take_add_one, hs]
   rfl
  unfold lp
  rw [est]
  simp only [ne_eq, not_true_eq_false, if_false]
  have := lp_fil h8 hG hP hT hT2 hv k (i + 1) (by omega)
  rw [show 64 + 56 * (i + 1) = 64 + 56 * i + 56 by omega] at this
  exact this
theorem rdF_fil {T : Nat} (he : 0 ≤ en ∧ en < 18446744073709551616) (hg : Good en S) (hP : Plc S) (hT : T = 64 + 56 * S.length + szs S S.length) (hT2 : T ≤ 262144) (hv : ∀ s ∈ S, 0 ≤ s.va) : rdF T (fil en S B) 0 0 = ((0, 0), S) := by
 obtain ⟨h0, h8, hG, hE⟩ := hg
 have c1 : cntB (fil en S B) = S.length := by unfold cntB; rw [num_cnt h8]; rfl
 have c2 : froB (fil en S B) = 64 := by unfold froB; rw [num_fro]; rfl
 have l := lp_fil (en := en) (B := B) h8 hG hP hT hT2 hv S.length 0 (by omega)
 rw [List.take_zero] at l
 unfold rdF
 rw [c1, c2, l, num_en he]
 rw [if_neg (by omega), if_neg (by omega), if_neg (by decide), if_neg (by omega), if_neg (by omega), if_neg (fun h => h rfl), if_neg (by show ¬ S.length = 0; omega), if_neg (by show ¬ hasE S en = false; rw [hE]; decide)]
end
end Go.Proofs.YtabnipbdbnmmpaaGreatDoor
namespace Go.Proofs.YtabnipbdbnmmpaaGreatDoor
open Go.RowKit Go.Shelf
def wkX : List Bs := [[97, 98], [99]]
theorem Laid3.lt {w : World} (h : Laid3 w) : 2 < w.heap.size := lt_of_cell h.c0
structure WkR (R : Nat → Int) : Prop where
 a0 : R 4032 = 240
 a1 : R 4033 = 47
 a8 : R 4040 = 224
 a9 : R 4041 = 47
 b0 : R 4048 = 0
 c0 : R 4064 = 99
 c1 : R 4065 = 0
 d0 : R 4080 = 97
 d1 : R 4081 = 98
 d2 : R 4082 = 0
theorem wk_of {R : Nat → Int} (h : StkR 8192 wkX R 4032) : WkR R := by
 obtain ⟨h1, h2, h3, h4⟩ := h
 obtain ⟨p, p0, p1, p2, p3, p4, p5⟩ := h4 0 [97, 98] rfl
 obtain ⟨q, q0, q1, q2, q3, q4, q5⟩ := h4 1 [99] rfl
 have e1 : stx 4096 (wkX.take (0 + 1)) = 4080 := by decide
 have e2 : stx 4096 (wkX.take (1 + 1)) = 4064 := by decide
 rw [e1] at p0
 rw [e2] at q0
 obtain rfl : p = 4080 := by omega
 obtain rfl : q = 4064 := by omega
 exact ⟨(p5 0 (by omega)).trans (by decide), (p5 1 (by omega)).trans (by decide), (q5 0 (by omega)).trans (by decide), (q5 1 (by omega)).trans (by decide), h1 0 (by omega), (q3 0 99 rfl).trans (by decide), q4, (p3 0 97 rfl).trans (by decide), (p3 1 98 rfl).trans (by decide), p4⟩
def smC : Nat → Int := Rm.upd (cS [smG]) 1 198
def WkP (W : World) (p b m : Nat) (e : Ending) (w' : World) : Prop := ∃ s r Rp K, e = .returned (.tuple #[.pointer (some ⟨s, 0, .none⟩), .agg #[.int .u64 0, .int .u64 12224, .int .u64 12224], .int .i64 0]) ∧ Rm.Fra p b m W w' ∧ Rm.SpM (Rm.oxt0 19) w' s p b m 20 r 3 K (pgM smB [smG] 1 Rp) smC ∧ WkR Rp
theorem wk_load {w2 w4 : World} {p b m : Nat} {Bm : Nat → Int} {q : Option Addr} {cq : Nat} (hR : Rm.Ram w2 p b m 20 Bm (18 :: Rm.down 17)) (hL : Laid w2) (hL3 : Laid3 w2) (h3 : 2 < p ∧ 2 < b ∧ 2 < m) (b4 : Below w2.heap.size w2 w4) (hq : Byt w4 q 124 cq smF) :
  Hid (∀ T, Calls Tryz.prog 11 #[.pointer (some ⟨p, 0, .none⟩), .slice q 124 cq, .slice (some ⟨w4.heap.size, 0, .none⟩) 2 2, .int .u64 (Rm.ad 19), .int .u64 2147483648] (w4.alloc (.cells #[.string ⟨#[97, 98]⟩, .string ⟨#[99]⟩] T)) (WkP (w4.alloc (.cells #[.string ⟨#[97, 98]⟩, .string ⟨#[99]⟩] T)) p b m)) := by
 intro T
 have b5 : Below w4.heap.size w4 (w4.alloc (.cells #[.string ⟨#[97, 98]⟩, .string ⟨#[99]⟩] T)) := (Below.refl _ _).alloc (Nat.le_refl _) _
 have b25 := b4.trans (b5.mono b4.size)
 obtain ⟨fb, fo, rfl, hrow, hfb⟩ : ∃ b o, q = some ⟨b, o, .none⟩ ∧ Row w4 b o 124 smB ∧ b < w4.heap.size := by
  rcases byt_fp hq with h | h
  ·exact h
  ·omega
 have hcq : 124 ≤ cq ∧ cq ≤ 9223372036854775807 := ⟨hq.2.1, hq.2.2.1⟩
 have hA : Arg (w4.alloc (.cells #[.string ⟨#[97, 98]⟩, .string ⟨#[99]⟩] T)) (some ⟨w4.heap.size, 0, .none⟩) 2 2 wkX := by
  refine ⟨⟨rfl, Nat.le_refl _, by decide, .inr ⟨w4.heap.size, 0, rfl, by simp, fun i x hx => ?_⟩⟩, by omega, fun x hx => ?_⟩
  ·match i, hx with
   | 0, hx =>
    simp only [wkX, List.getElem?_cons_zero, Option.some.injEq] at hx
    subst hx
    simp [sv]
   | 1, hx =>
    simp only [wkX, List.getElem?_cons_succ, List.getElem?_cons_zero, Option.some.injEq] at hx
    subst hx
    simp [sv]
   | k + 2, hx => simp [wkX] at hx
  ·simp only [wkX, List.mem_cons, List.not_mem_nil, or_false] at hx
   rcases hx with rfl | rfl <;> decide
 refine (load_20 (hR.below b25) (hL.below b25) (hL3.below b25) h3 (hrow.keep b5) (Nat.lt_of_lt_of_le hfb b5.size) hcq hA (by decide)).mono fun e w' h9 => ?_
 obtain ⟨s, r, Rp, spn, K, rfl, hf, hs, hM, hK, hspn, hstk⟩ := h9
 have e1 : (stx 4096 wkX - 8 * ((wkX.length : Int) + 1)) / 16 * 16 = 4032 := by decide
 have e2 : spn = 4032 := by
  have : (stx 4096 wkX - 8 * ((wkX.length : Int) + 1)) / 16 * 16 = (spn : Int) := hspn
  omega
 subst e2
 have e3 : (((1 : Nat) : Int) + 1) * 4096 = 8192 := by decide
 rw [e3] at hstk
 exact ⟨s, r, Rp, K, by rfl, hf, hM, wk_of hstk⟩
end Go.Proofs.YtabnipbdbnmmpaaGreatDoor
