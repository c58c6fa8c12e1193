import Derived.Test.YtblmkkhiojbcjaaGreatGk
import Derived.Test.YtblmkkhiojbcjaaGreatEm
import Derived.Test.YtblmkkhiojbcjaaGreatYh
namespace Go.Proofs.YtblmkkhiojbcjaaGreat
open Go Go.RowKit
set_option linter.unusedVariables false
set_option linter.unusedSimpArgs false
/-- A table from which the two highest pages are to be taken away. -/
structure HiT (w W : World) (p b m N r : Nat) (B : Nat → Int) (L : List Nat) (F : Nat → Option Nat) (l : List Pg) (B' : Nat → Int) (L' : List Nat) (F' : Nat → Option Nat) (lf' : Nat → Nat → Int) : Prop where
  ram : Ram W p b m N B' L'
  fra : Fra p b m w W
  pt : PT N L' B' F' lf'
  rt : F' 0 = some r
  tl : TL F' lf' l
  len : L'.length + nodesF F' = L.length + nodesF F
  sub : ∀ x f, F' x = some f → F x = some f
  els : ∀ f, f ∉ L → (∀ x, F x ≠ some f) → f ∉ L' ∧ ∀ j, j < 4096 → B' (f * 4096 + j) = B (f * 4096 + j)
section
variable {w W : World} {s p b m N r P ft : Nat} {size : Int} {B B' : Nat → Int} {L L' : List Nat} {F F' : Nat → Option Nat} {lf lf' : Nat → Nat → Int} {fr : Nat → Nat} {c : Nat → Int} {l lm : List Pg}
/-- What taking one of them away leaves. -/
def HiP (w : World) (p b m N r : Nat) (B : Nat → Int) (L : List Nat) (F : Nat → Option Nat) (lm : List Pg) (e : Ending) (W' : World) : Prop := (∃ u v, e = .returned (.tuple #[.int .u64 u, .int .i64 v])) ∧ ∃ B2 L2 F2 lf2, HiT w W' p b m N r B L F lm B2 L2 F2 lf2
theorem HiT.unmap (h : HiT w W p b m N r B L F l B' L' F' lf') {x : Pg} (hx : x ∈ l) (hm : ∀ y, y ∈ lm ↔ y ∈ l ∧ y ≠ x) : Calls Tryz.prog 88 #[.pointer (some ⟨p, 0, .none⟩), .int .u64 (ad r), .int .u64 x.1] W (HiP w p b m N r B L F lm) := by
  have hok := h.tl.ok x hx
  have hl := h.tl.leaf x hx
  refine (unmap_byt h.ram h.pt h.rt x.1 hok.1 (by rw [hl]; exact hok.ne)).mono fun e W' hh => ?_
  obtain ⟨rfl, g, q, B2, L2, F2, lf2, hg, hq, P2, R2, r2, f2, y2⟩ := hh
  obtain ⟨s1, s2, s3⟩ := PrR.sub R2
  refine ⟨⟨_, _, rfl⟩, B2, L2, F2, lf2, r2, h.fra.trans f2, P2, s3.trans h.rt, TL.unmap h.tl hx hm R2, ?_, fun y f hf => h.sub y f (s1 y f hf), fun f h1 h2 => ?_⟩
  · have := R2.len hg hq
    have := h.len
    omega
  · obtain ⟨a1, a2⟩ := h.els f h1 h2
    have hn : ∀ y, F' y ≠ some f := fun y hy => h2 y (h.sub y f hy)
    refine ⟨fun hmm => ?_, fun j hj => (y2 f hn j hj).trans (a2 j hj)⟩
    rcases s2 f hmm with e | e | e
    · exact a1 e
    · exact hn _ (by rw [e]; exact hq)
    · exact hn _ (by rw [e]; exact hg)
def TfP (w : World) (p b m N : Nat) (B : Nat → Int) (L : List Nat) (F : Nat → Option Nat) (fr : Nat → Nat) (w' : World) : Prop := Fra p b m w w' ∧ ∃ B' L', Ram w' p b m N B' L' ∧ L'.length = L.length + nodesF F + 1 ∧ Oth L F fr [] B L' (fun _ => none) fr [] B'
theorem HiT.free (h : HiT w W p b m N r B L F [] B' L' F' lf') : Calls Tryz.prog 104 #[.pointer (some ⟨p, 0, .none⟩), .int .u64 (ad r)] W fun e w' => e = .returned (.int .i64 0) ∧ TfP w p b m N B L F fr w' := by
  refine (free_all2 h.ram h.pt h.rt h.tl List.Pairwise.nil rfl).mono fun e w' hh => ?_
  obtain ⟨rfl, r2, f2⟩ := hh
  have hn : nodesF F' = 0 := by rw [h.tl.nodesF h.pt]; rfl
  refine ⟨rfl, h.fra.trans f2, _, _, r2, ?_, fun f h1 h2 h3 => ?_⟩
  · have := h.len
    rw [List.length_cons]
    omega
  · obtain ⟨a1, a2⟩ := h.els f h1 h2
    have hne : f ≠ r := fun e => h2 0 (by rw [e]; exact h.sub 0 r h.rt)
    refine ⟨fun hm => ?_, fun x => by simp, h3, fun j hj => ?_⟩
    · rcases List.mem_cons.1 hm with e | e
      · exact hne e
      · exact a1 e
    · rw [thr_frame B' _ hne j hj]
      exact a2 j hj
set_option maxHeartbeats 1000000 in
theorem tfree_any (h : Ram w p b m N B L) (hs : SpL N r ft B L F lf fr c []) : Calls Tryz.prog 68 #[.agg #[.pointer (some ⟨p, 0, .none⟩), .int .u64 (ad r)]] w fun e w' => e = .returned (.tuple #[]) ∧ TfP w p b m N B L F fr w' := by
  obtain ⟨X, hX⟩ : ∃ X, X = w.heap.size := ⟨_, rfl⟩
  obtain ⟨w1, hw1⟩ : ∃ w1, w1 = w.alloc (.cells #[.pointer (some ⟨p, 0, .none⟩), .int .u64 (ad r)] 77) := ⟨_, rfl⟩
  have b1 : Below w.heap.size w w1 := by rw [hw1]; exact (Below.refl _ _).alloc (Nat.le_refl _) _
  have k1 : C2w w1 X (.pointer (some ⟨p, 0, .none⟩)) (.int .u64 (ad r)) := by
    rw [hw1, hX]
    exact ⟨by simp, by simp, fun k => World.frozen?_alloc_new _ _ _ _⟩
  have hp : p < X := by rw [hX]; exact lt_of_cell h.mem.c0
  have hb : b < X := by rw [hX]; exact lt_of_cell (h.mem.cb 0 (by have := h.mem.n1; omega))
  have hm : m < X := by rw [hX]; exact h.mem.mlt
  have hl : pgL ft fr c [] = [(274877898752, ad ft, 198), (274877902848, ad 0, 74)] := rfl
  have t0 : HiT w1 w1 p b m N r B L F [(274877898752, ad ft, 198), (274877902848, ad 0, 74)] B L F lf := ⟨h.below b1, Fra.refl .., hs.pt, hs.rt, by rw [← hl]; exact hs.tl, rfl, fun _ _ h => h, fun f h1 _ => ⟨h1, fun _ _ => rfl⟩⟩
  have c1 := t0.unmap (lm := [(274877902848, ad 0, 74)]) (x := (274877898752, ad ft, 198)) (by simp) (fun y => by
    rw [List.mem_singleton, List.mem_cons, List.mem_singleton]
    constructor
    · rintro rfl
      exact ⟨.inr rfl, by simp⟩
    · rintro ⟨e | e, hne⟩
      · exact absurd e hne
      · exact e)
  unfold HiP at c1
  have HK : Hid (Below w.heap.size w w1 ∧ C2w w1 X (.pointer (some ⟨p, 0, .none⟩)) (.int .u64 (ad r))) := ⟨b1, k1⟩
  have k0 := k1.a
  have kr := k1.b
  clear h hs hl t0 b1 k1
  go_enter Tryz.func68, Tryz.ntmps68
  go_upto_region 1 with fail
  rw [← hw1, ← hX]
  have HXX : Hid (X = w.heap.size) := hX
  clear hw1 hX
  go_upto_region 2 with (go_at_call 88; refine c1.mono ?_; rintro _ w2 ⟨⟨u2, v2, rfl⟩, B2, L2, F2, lf2, t2⟩; have H2 : Hid (HiT w1 w2 p b m N r B L F [(274877902848, ad 0, 74)] B2 L2 F2 lf2) := t2; clear t2 c1)
  have k2 := HK.out.2.fra H2.out.fra (by omega) (by omega) (by omega)
  have c2 := H2.out.unmap (lm := []) (x := (274877902848, ad 0, 74)) (by simp) (fun y => by
    rw [List.mem_singleton]
    constructor
    · intro h
      cases h
    · rintro ⟨e, hne⟩
      exact absurd e hne)
  unfold HiP at c2
  have k0 := k2.a
  have kr := k2.b
  clear k2
  go_upto_region 3 with (go_at_call 88; refine c2.mono ?_; rintro _ w3 ⟨⟨u3, v3, rfl⟩, B3, L3, F3, lf3, t3⟩; have H3 : Hid (HiT w1 w3 p b m N r B L F [] B3 L3 F3 lf3) := t3; clear t3 c2)
  have k3 := HK.out.2.fra H3.out.fra (by omega) (by omega) (by omega)
  have c3 := H3.out.free (fr := fr)
  have k0 := k3.a
  have kr := k3.b
  clear k3
  go_wp2_with (go_at_call 104; refine c3.mono ?_; rintro _ w4 ⟨rfl, t4⟩; have H4 : Hid (TfP w1 p b m N B L F fr w4) := t4; clear t4 c3)
  exact bodyPost_end (v := .tuple #[]) (by simp [results, Tryz.results68, go_sem]) rfl ⟨rfl, (Fra.below HK.out.1).trans H4.out.1, H4.out.2⟩
theorem smade_nil (hc : w.cell? ⟨s, 0, .none⟩ = some (.pointer .none)) : Calls Tryz.prog 43 #[.pointer (some ⟨s, 0, .none⟩)] w fun e w' => e = .returned (.bool false) ∧ w' = w := by
  go_enter Tryz.func43, Tryz.ntmps43
  go_wp2_with fail
  go_ret
  exact ⟨rfl, rfl⟩
theorem free_nil (hc : w.cell? ⟨s, 0, .none⟩ = some (.pointer .none)) : Calls Tryz.prog 34 #[.pointer (some ⟨s, 0, .none⟩)] w fun e w' => e = .returned (.int .i64 3) ∧ w' = w := by
  have c43 := smade_nil hc
  go_enter Tryz.func34, Tryz.ntmps34
  go_wp2_with (go_at_call 43; refine c43.mono ?_; rintro _ w1 ⟨rfl, e1⟩; obtain rfl : w = w1 := e1.symm)
  go_ret
  exact ⟨rfl, rfl⟩
/-- What Free leaves. -/
def FeP (w : World) (s p b m N P : Nat) (B : Nat → Int) (L : List Nat) (F : Nat → Option Nat) (fr : Nat → Nat) (e : Ending) (w' : World) : Prop := e = .returned (.int .i64 0) ∧ Tch p b m s w w' ∧ w'.cell? ⟨s, 0, .none⟩ = some (.pointer .none) ∧ ∃ B' L', Ram w' p b m N B' L' ∧ L'.length = L.length + nodesF F + P + 1 ∧ Oth L F fr (List.range P) B L' (fun _ => none) fr [] B'
set_option maxHeartbeats 1000000 in
theorem sfree_any (h : SpT w s p b m N r P ft size B L F lf fr c) : Calls Tryz.prog 34 #[.pointer (some ⟨s, 0, .none⟩)] w (FeP w s p b m N P B L F fr) := by
  have hne := h.ne
  have c43 := made_sp h.sp
  have c31 := shrink_any h 0 ⟨by omega, h.sz.1⟩ 0 rfl
  unfold ShP at c31
  clear h
  go_enter Tryz.func34, Tryz.ntmps34
  go_upto_region 4 with first | (go_at_call 43; refine c43.mono ?_; rintro _ w1 ⟨rfl, e1⟩; obtain rfl : w = w1 := e1.symm) | (go_at_call 31; refine c31.mono ?_; rintro _ w2 ⟨rfl, t2, B2, L2, F2, lf2, S2, n2, o2⟩; have H2 : Hid (Tch p b m s w w2 ∧ SpT w2 s p b m N r 0 ft 0 B2 L2 F2 lf2 fr c ∧ L2.length + nodesF F2 + 0 = L.length + nodesF F + P ∧ Oth L F fr (List.range P) B L2 F2 fr (List.range 0) B2) := ⟨t2, S2, n2, o2⟩; clear t2 S2 n2 o2 c31)
  have c68 := tfree_any H2.out.2.1.ram H2.out.2.1.tab
  have k0 := H2.out.2.1.sp.c0
  have kr := H2.out.2.1.sp.c1
  go_upto_region 5 with (go_at_call 68; refine c68.mono ?_; rintro _ w3 ⟨rfl, t3⟩; have H3 : Hid (TfP w2 p b m N B2 L2 F2 fr w3) := t3; clear t3 c68)
  have S3 := H2.out.2.1.sp.fra H3.out.1 hne.1 hne.2.1 hne.2.2
  have k0 := S3.c0
  have k1 := S3.c1
  have k2 := S3.c2
  have f0 := S3.fr 0
  have f1 := S3.fr 1
  have f2 := S3.fr 2
  clear S3 kr
  go_wp2_with fail
  go_ret
  obtain ⟨q1, B3, L3, q2, q3, q4⟩ := H3.out
  refine ⟨rfl, (((H2.out.1.trans (Tch.of q1)).trans (Tch.set 0 _)).trans (Tch.set 1 _)).trans (Tch.set 2 _), ?_, B3, L3, ?_, ?_, H2.out.2.2.2.trans q4⟩
  · rw [World.cell?_setCell_other _ _ _ _ (by simp), World.cell?_setCell_other _ _ _ _ (by simp)]
    exact World.cell?_setCell_same' _ _ _ (by rw [k0]; rfl)
  · exact ((q2.beside ⟨s, 0, .none⟩ _ (fun e => hne.1 e.symm) (fun e => hne.2.1 e.symm) (fun e => hne.2.2 e.symm)).beside ⟨s, 1, .none⟩ _ (fun e => hne.1 e.symm) (fun e => hne.2.1 e.symm) (fun e => hne.2.2 e.symm)).beside ⟨s, 2, .none⟩ _ (fun e => hne.1 e.symm) (fun e => hne.2.1 e.symm) (fun e => hne.2.2 e.symm)
  · have := H2.out.2.2.1
    omega
end
end Go.Proofs.YtblmkkhiojbcjaaGreat
namespace Go.Proofs.YtblmkkhiojbcjaaGreat
open Go Go.RowKit
set_option linter.unusedVariables false
set_option linter.unusedSimpArgs false
set_option maxHeartbeats 2000000 in
theorem each_clear {w : World} {s : Nat} {d1 : Nat} (va : Int) (n : Nat) (hv : 0 ≤ va ∧ va + n ≤ 274877906944) (J : Nat → World → Prop) (Jf : World → Prop) (pa : Nat → Int) (ok dok : Nat → Bool)
    (hat : ∀ k W, k < n → J k W → Calls Tryz.prog 58 #[.pointer (some ⟨s, 0, .none⟩), .int .u64 (va + k)] W fun e W' => e = .returned (.tuple #[.int .u64 (pa k), .bool (ok k)]) ∧ J k W')
    (hno : ∀ k W, k < n → ok k = false → J k W → Jf W)
    (hdo : ∀ k W, k < n → ok k = true → J k W → Calls Tryz.prog 84 #[.int .u64 (pa k), .int .i64 (pce va n k), .pointer (some ⟨d1, 0, .none⟩)] W fun e W' => e = .returned (.bool (dok k)) ∧ (dok k = true → J (k + pce va n k) W') ∧ (dok k = false → Jf W')) (h0 : J 0 w) :
    Calls Tryz.prog 52 #[.pointer (some ⟨s, 0, .none⟩), .int .u64 va, .int .i64 n, .func (.func 58) #[.pointer (some ⟨s, 0, .none⟩)] #[], .func (.func 84) #[] #[.pointer (some ⟨d1, 0, .none⟩)]] w (EaP n J Jf) := by
  have HA : Hid (∀ k W, k < n → J k W → Calls Tryz.prog 58 #[.pointer (some ⟨s, 0, .none⟩), .int .u64 (va + k)] W fun e W' => e = .returned (.tuple #[.int .u64 (pa k), .bool (ok k)]) ∧ J k W') := hat
  have HN : Hid (∀ k W, k < n → ok k = false → J k W → Jf W) := hno
  have HD : Hid (∀ k W, k < n → ok k = true → J k W → Calls Tryz.prog 84 #[.int .u64 (pa k), .int .i64 (pce va n k), .pointer (some ⟨d1, 0, .none⟩)] W fun e W' => e = .returned (.bool (dok k)) ∧ (dok k = true → J (k + pce va n k) W') ∧ (dok k = false → Jf W')) := hdo
  have H0 : Hid (J 0 w) := h0
  clear hat hno hdo h0
  go_enter Tryz.func52, Tryz.ntmps52
  go_wp2_with fail
  go_loopw [1, 2] (fun v j wr => ∃ k : Nat, k ≤ n ∧ v = .int .u64 (va + k) ∧ j = .int .i64 (n - k) ∧ Hid (J k wr)) (fun _ j _ => (intOf j).toNat)
  case atStart => exact ⟨0, by omega, by simp, by simp, H0⟩
  case round =>
    clear H0
    obtain ⟨k, hk, rfl, rfl, HJ⟩ := hrel
    by_cases hkn : k < n
    · have hpos : (0 : Int) < n - k := by omega
      have ca := HA.out k wr hkn HJ.out
      have hb := pce_b va n k hkn
      have hrem : IntKind.u64.wrap ((va + k).tmod 4096) = (va + k) % 4096 := by rw [Int.tmod_eq_emod_of_nonneg (by omega), IntKind.wrap_u64]; omega
      have hsub : IntKind.u64.wrap (4096 - (va + k) % 4096) = 4096 - (va + k) % 4096 := by rw [IntKind.wrap_u64]; omega
      have hcv : IntKind.i64.wrap (4096 - (va + k) % 4096) = 4096 - (va + k) % 4096 := by rw [IntKind.wrap_i64]; omega
      have hpu : IntKind.u64.wrap (pce va n k : Int) = pce va n k := by rw [IntKind.wrap_u64]; omega
      have hva2 : IntKind.u64.wrap (va + k + pce va n k) = va + k + pce va n k := by rw [IntKind.wrap_u64]; omega
      by_cases hm : (n : Int) - k ≤ 4096 - (va + k) % 4096
      · have hm2 : ¬ 4096 - (va + k) % 4096 < (n : Int) - k := by omega
        obtain ⟨pc, hpc⟩ : ∃ pc, pc = pce va n k := ⟨_, rfl⟩
        have e9 : (n : Int) - k = (pc : Int) := by rw [hpc]; unfold pce; omega
        rw [← hpc] at hb hpu hva2
        have HPC : Hid (pc = pce va n k) := hpc
        clear hpc
        have hnx : IntKind.i64.wrap ((n : Int) - k - pc) = n - k - pc := by rw [IntKind.wrap_i64]; omega
        go_wp2_with fail
        refine ca.mono ?_
        rintro _ w1 ⟨rfl, j1⟩
        have HJ1 : Hid (J k w1) := j1
        clear j1 ca HJ
        cases hok : ok k
        · have HF : Hid (Jf w1) := HN.out k w1 hkn hok HJ1.out
          go_wp2_with fail
          go_ret
          exact .inr ⟨rfl, HF.out⟩
        · have cd := HD.out k w1 hkn hok HJ1.out
          rw [← HPC.out] at cd
          cases hdk : dok k
          · rw [hdk] at cd
            go_wp2_with fail
            refine cd.mono ?_
            rintro _ w2 ⟨rfl, _, hf⟩
            have HF : Hid (Jf w2) := hf (by first | rfl | trivial)
            clear hf cd
            go_wp2_with fail
            go_ret
            exact .inr ⟨rfl, HF.out⟩
          · rw [hdk] at cd
            go_wp2_with fail
            refine cd.mono ?_
            rintro _ w2 ⟨rfl, ht, _⟩
            have HT : Hid (J (k + pc) w2) := ht (by first | rfl | trivial)
            clear ht cd
            go_wp2_with fail
            exact ⟨⟨k + pc, by omega, by congr 1; omega, by congr 1; omega, HT⟩, by simp only [intOf]; omega⟩
      · have hm2 : 4096 - (va + k) % 4096 < (n : Int) - k := by omega
        obtain ⟨pc, hpc⟩ : ∃ pc, pc = pce va n k := ⟨_, rfl⟩
        have e9 : 4096 - (va + k) % 4096 = (pc : Int) := by rw [hpc]; unfold pce; omega
        rw [← hpc] at hb hpu hva2
        have HPC : Hid (pc = pce va n k) := hpc
        clear hpc
        have hnx : IntKind.i64.wrap ((n : Int) - k - pc) = n - k - pc := by rw [IntKind.wrap_i64]; omega
        go_wp2_with fail
        refine ca.mono ?_
        rintro _ w1 ⟨rfl, j1⟩
        have HJ1 : Hid (J k w1) := j1
        clear j1 ca HJ
        cases hok : ok k
        · have HF : Hid (Jf w1) := HN.out k w1 hkn hok HJ1.out
          go_wp2_with fail
          go_ret
          exact .inr ⟨rfl, HF.out⟩
        · have cd := HD.out k w1 hkn hok HJ1.out
          rw [← HPC.out] at cd
          cases hdk : dok k
          · rw [hdk] at cd
            go_wp2_with fail
            refine cd.mono ?_
            rintro _ w2 ⟨rfl, _, hf⟩
            have HF : Hid (Jf w2) := hf (by first | rfl | trivial)
            clear hf cd
            go_wp2_with fail
            go_ret
            exact .inr ⟨rfl, HF.out⟩
          · rw [hdk] at cd
            go_wp2_with fail
            refine cd.mono ?_
            rintro _ w2 ⟨rfl, ht, _⟩
            have HT : Hid (J (k + pc) w2) := ht (by first | rfl | trivial)
            clear ht cd
            go_wp2_with fail
            exact ⟨⟨k + pc, by omega, by congr 1; omega, by congr 1; omega, HT⟩, by simp only [intOf]; omega⟩
    · obtain rfl : k = n := by omega
      go_wp2_with fail
      go_ret
      exact .inl ⟨rfl, HJ.out⟩

end Go.Proofs.YtblmkkhiojbcjaaGreat
namespace Go.Proofs.YtblmkkhiojbcjaaGreat
open Go Go.RowKit
set_option linter.unusedVariables false
set_option linter.unusedSimpArgs false
/-- A piece of a page is 0 now. -/
def CtP (w : World) (p b m N : Nat) (B : Nat → Int) (L : List Nat) (q o n : Nat) (e : Ending) (w' : World) : Prop := e = .returned (.bool true) ∧ Ram w' p b m N (over B (q * 4096 + o) ((List.range n).map fun _ => 0)) L ∧ Fra p b m w w'
section
variable {w : World} {s p b m N r P ft : Nat} {size : Int} {B B' : Nat → Int} {L : List Nat} {F : Nat → Option Nat} {lf : Nat → Nat → Int} {fr : Nat → Nat} {c : Nat → Int} {I : List Nat}
set_option maxHeartbeats 1000000 in
theorem clear1_any (h : Ram w p b m N B L) (q o n : Nat) (hq : q < N ∧ q ∉ L) (hn : 1 ≤ n) (ho : o + n ≤ 4096) (bx : Nat) (kb : w.cell? ⟨bx, 0, .none⟩ = some (.pointer (some ⟨s, 0, .none⟩))) (k0 : w.cell? ⟨s, 0, .none⟩ = some (.pointer (some ⟨p, 0, .none⟩))) :
    Calls Tryz.prog 84 #[.int .u64 (ad q + o), .int .i64 n, .pointer (some ⟨bx, 0, .none⟩)] w (CtP w p b m N B L q o n) := by
  have c55 := read_ok h.mem (q * 4096 + o) n hn (by omega) (fun f h1 h2 => by
    have : f = q := by omega
    rw [this, hdL_in hq.1]
    simp [hq.2])
  rw [show (2147483648 + ((q * 4096 + o : Nat) : Int)) = ad q + o by unfold ad; omega] at c55
  unfold ReadP at c55
  have hlt : p < w.heap.size ∧ b < w.heap.size ∧ m < w.heap.size := ⟨h.mem.plt, h.mem.blt, h.mem.mlt⟩
  have HR : Hid (Ram w p b m N B L ∧ (q < N ∧ q ∉ L)) := ⟨h, hq⟩
  clear h hq
  go_enter Tryz.func84, Tryz.ntmps84
  go_upto_region 2 with (go_at_call 55; refine c55.mono ?_; rintro _ w3 ⟨g, hg1, hg2, rfl, row3, fz3, b3⟩; have H3 : Hid (w.heap.size ≤ g ∧ g < w3.heap.size ∧ RowB w3 g n (fun i => B (q * 4096 + o + i)) ∧ (∀ i, i < n → w3.frozen? ⟨g, i, .none⟩ = false) ∧ Below w.heap.size w w3) := ⟨hg1, hg2, row3, fz3, b3⟩; clear hg1 hg2 row3 fz3 b3 c55)
  obtain ⟨w5, hw5⟩ : ∃ w5, w5 = w3.setCells g 0 (List.replicate n (.int .u8 0)) := ⟨_, rfl⟩
  have hcl : ∀ ty, (Builtin.clear_ #[24] ty #[.slice (some ⟨g, 0, .none⟩) n n]).run Tryz.prog w3 = .ok (.tuple #[]) w5 := fun ty => by
    rw [hw5]
    exact Lib.run_clear_slice w3 24 5 ty (.int .u8 0) Tryz.underlying24 zero5 rfl rfl g 0 n n (by omega) (fun j hj => by rw [Nat.zero_add, H3.out.2.2.1 j hj]; rfl) (fun j hj => by rw [Nat.zero_add]; exact H3.out.2.2.2.1 j hj)
  have b5 : Below w.heap.size w w5 := by rw [hw5]; exact below_setCells H3.out.1 _ _ _ H3.out.2.2.2.2
  have hrow : ∀ i, i < n → w5.cell? ⟨g, 0 + i, .none⟩ = some (.int .u8 ((fun _ => 0) i)) := fun i hi => by
    rw [hw5, World.cell?_setCells_in g _ 0 w3 (fun j hj => by rw [List.length_replicate] at hj; rw [Nat.zero_add, H3.out.2.2.1 j hj]; rfl) i (by rw [List.length_replicate]; exact hi), List.getElem_replicate]
  have c85 := write_pg (HR.out.1.below b5) q o n HR.out.2 hn ho g 0 n (fun _ => 0) (fun _ => by omega) hrow
  have kb5 := (b5.cell (p := ⟨bx, 0, .none⟩) (lt_of_cell kb)).trans kb
  have k05 := (b5.cell (p := ⟨s, 0, .none⟩) (lt_of_cell k0)).trans k0
  have H5 : Hid (Below w.heap.size w w5) := b5
  clear hw5 b5 hrow kb k0
  go_wp2_with (go_at_call 85; refine c85.mono ?_; rintro _ w6 ⟨rfl, r6, f6⟩; have H6 : Hid (Ram w6 p b m N (over B (q * 4096 + o) ((List.range n).map fun _ => 0)) L ∧ Fra p b m w w6) := ⟨r6, (Fra.below H5.out).trans f6⟩; clear r6 f6 c85)
  go_ret
  exact ⟨rfl, H6.out⟩
theorem SpL.bytes (h : SpL N r ft B L F lf fr c I) (hB : ∀ x f, F x = some f → ∀ k, k < 4096 → B' (f * 4096 + k) = B (f * 4096 + k)) : SpL N r ft B' L F lf fr c I :=
  ⟨h.pt.keep hB (fun x f hx => (h.pt.held x f hx).2.2), h.rt, h.tl, h.nd, h.bd, h.inj, h.pg, h.ftb⟩
/-- Bytes of a page are written over. -/
theorem SpL.over {i : Nat} (h : SpL N r ft B L F lf fr c I) (hi : i ∈ I) (o : Nat) (vs : List Int) (ho : o + vs.length ≤ 4096) : SpL N r ft (over B (fr i * 4096 + o) vs) L F lf fr c I ∧ Oth L F fr I B L F fr I (Go.Proofs.YtblmkkhiojbcjaaGreat.over B (fr i * 4096 + o) vs) := by
  have key : ∀ f, f ≠ fr i → ∀ k, k < 4096 → Go.Proofs.YtblmkkhiojbcjaaGreat.over B (fr i * 4096 + o) vs (f * 4096 + k) = B (f * 4096 + k) := fun f hf k hk => by
    unfold Go.Proofs.YtblmkkhiojbcjaaGreat.over
    rw [if_neg]
    rcases Nat.lt_or_gt_of_ne hf with e | e <;> omega
  exact ⟨h.bytes (fun x f hx k hk => key f (fun e => (h.pg i hi).2.2.2.1 x (by rw [← e]; exact hx)) k hk), fun f h1 h2 h3 => ⟨h1, h2, h3, fun j hj => key f (fun e => h3 i hi e.symm) j hj⟩⟩
/-- What a row of bytes that is written leaves. -/
theorem SpT.wr {va n : Nat} {R : Nat → Int} {e : Ending} {w' : World} (h : SpT w s p b m N r P ft size B L F lf fr c) (hv : va + n ≤ P * 4096) (k : WrP w s p b m N r P size B L F lf fr c va n R e w') : SpT w' s p b m N r P ft size (wrU B fr va R n) L F lf fr c ∧ Oth L F fr (List.range P) B L F fr (List.range P) (wrU B fr va R n) ∧ Fra p b m w w' := by
  have key : ∀ f, (∀ i, i < P → fr i ≠ f) → ∀ j, j < 4096 → wrU B fr va R n (f * 4096 + j) = B (f * 4096 + j) := fun f hf j hj => wrU_else B fr va R f j hj n (fun i hi => hf _ (by omega))
  refine ⟨⟨k.2.1.sp, h.sz, h.pm, k.2.1.ram, h.ne, h.tab.bytes (fun x f hx j hj => key f (fun i hi e => (h.tab.pg i (List.mem_range.2 hi)).2.2.2.1 x (by rw [e]; exact hx)) j hj)⟩, fun f h1 h2 h3 => ⟨h1, h2, h3, fun j hj => key f (fun i hi => h3 i (List.mem_range.2 hi)) j hj⟩, k.2.2⟩
/-- What clearing the tail leaves, in its midst too. -/
def TaJ (w : World) (s p b m N r P ft : Nat) (size : Int) (B : Nat → Int) (L : List Nat) (F : Nat → Option Nat) (lf : Nat → Nat → Int) (fr : Nat → Nat) (c : Nat → Int) (t k : Nat) (W : World) : Prop := Fra p b m w W ∧ Sp W s p (ad r) size ∧ (k = 0 → Below w.heap.size w W) ∧ (k ≠ 0 → k = t) ∧ ∃ B', Ram W p b m N B' L ∧ SpL N r ft B' L F lf fr c (List.range P) ∧ Oth L F fr (List.range P) B L F fr (List.range P) B'
def TaP (w : World) (s p b m N r P ft : Nat) (size : Int) (B : Nat → Int) (L : List Nat) (F : Nat → Option Nat) (lf : Nat → Nat → Int) (fr : Nat → Nat) (c : Nat → Int) (e : Ending) (w' : World) : Prop := e = .returned (.tuple #[]) ∧ Fra p b m w w' ∧ ∃ B', SpT w' s p b m N r P ft size B' L F lf fr c ∧ Oth L F fr (List.range P) B L F fr (List.range P) B'
theorem each_tail {w1 : World} (h : SpT w1 s p b m N r P ft size B L F lf fr c) (t : Nat) (ht : (size : Int) + t = P * 4096 ∧ 1 ≤ t ∧ t < 4096) (X : Nat) (kX : w1.cell? ⟨X, 0, .none⟩ = some (.pointer (some ⟨s, 0, .none⟩))) (hX : X ≠ p ∧ X ≠ b ∧ X ≠ m) :
    Calls Tryz.prog 52 #[.pointer (some ⟨s, 0, .none⟩), .int .u64 size, .int .i64 t, .func (.func 58) #[.pointer (some ⟨s, 0, .none⟩)] #[], .func (.func 84) #[] #[.pointer (some ⟨X, 0, .none⟩)]] w1 (EaP t (TaJ w1 s p b m N r P ft size B L F lf fr c t) (fun _ => False)) := by
  have hpm := h.pm
  have hs0 := h.sz.1
  obtain ⟨i, hi⟩ : ∃ i, P = i + 1 := ⟨P - 1, by omega⟩
  have hiP : i ∈ List.range P := List.mem_range.2 (by omega)
  have hpg := h.tab.pg i hiP
  obtain ⟨o, ho⟩ : ∃ o : Nat, size = (i : Int) * 4096 + o := ⟨(size - (i : Int) * 4096).toNat, by omega⟩
  have hpce : pce size t 0 = t := by unfold pce; omega
  have hpag := h.tab.pag hiP
  refine each_clear size t ⟨hs0, by omega⟩ (TaJ w1 s p b m N r P ft size B L F lf fr c t) (fun _ => False) (fun k => ad (fr i) + (o : Int)) (fun _ => true) (fun _ => true) (fun k W hk hJ => ?_) (fun k W hk e => by simp at e) (fun k W hk _ hJ => ?_) ?_
  · obtain ⟨j1, j2, j3, j4, B', j5, j6, j7⟩ := hJ
    have hk0 : k = 0 := by
      by_cases h0 : k = 0
      · exact h0
      · have := j4 h0; omega
    subst hk0
    have c58 := kern_pt j2 j5 j6.pt j6.rt size ⟨hs0, by omega⟩ (q := fr i) (c := c i) (by
      rw [ho]
      exact (j6.pag hiP).off ⟨by omega, by omega, by omega⟩ ⟨by omega, by omega⟩)
    rw [show ad (fr i) + size % 4096 = ad (fr i) + (o : Int) by omega] at c58
    rw [show size + ((0 : Nat) : Int) = size by omega]
    refine c58.mono fun e W' ⟨h1, h2⟩ => ⟨h1, j1.trans (Fra.below h2), j2.below h2, fun _ => (j3 rfl).trans (h2.mono (j3 rfl).size), fun e => absurd rfl e, B', j5.below h2, j6, j7⟩
  · obtain ⟨j1, j2, j3, j4, B', j5, j6, j7⟩ := hJ
    have hk0 : k = 0 := by
      by_cases h0 : k = 0
      · exact h0
      · have := j4 h0; omega
    subst hk0
    rw [hpce, Nat.zero_add]
    have kXW := (j1.cell (x := ⟨X, 0, .none⟩) (lt_of_cell kX) hX.1 hX.2.1 hX.2.2).trans kX
    have c84 := clear1_any j5 (fr i) o t ⟨hpg.2.1, hpg.2.2.1⟩ (by omega) (by omega) X kXW j2.c0
    refine c84.mono fun e W' ⟨h1, h2, h3⟩ => ⟨h1, fun _ => ?_, fun e => by simp at e⟩
    have hov := j6.over hiP o ((List.range t).map fun _ => 0) (by simp; omega)
    exact ⟨j1.trans h3, j2.fra h3 h.ne.1 h.ne.2.1 h.ne.2.2, fun e => by omega, fun _ => rfl, _, h2, hov.1, j7.trans hov.2⟩
  · exact ⟨Fra.refl .., h.sp, fun _ => Below.refl _ _, fun e => absurd rfl e, B, h.ram, h.tab, Oth.refl _ _ _ _ _⟩
set_option maxHeartbeats 1000000 in
theorem tail_some (h : SpT w s p b m N r P ft size B L F lf fr c) (t : Nat) (ht : (size : Int) + t = P * 4096 ∧ 1 ≤ t ∧ t < 4096) : Calls Tryz.prog 47 #[.pointer (some ⟨s, 0, .none⟩)] w (TaP w s p b m N r P ft size B L F lf fr c) := by
  have hpm := h.pm
  have hsz := h.sz
  obtain ⟨X, hX⟩ : ∃ X, X = w.heap.size := ⟨_, rfl⟩
  obtain ⟨w1, hw1⟩ : ∃ w1, w1 = w.alloc (.cells #[.pointer (some ⟨s, 0, .none⟩)] 26) := ⟨_, rfl⟩
  have b1 : Below w.heap.size w w1 := by rw [hw1]; exact (Below.refl _ _).alloc (Nat.le_refl _) _
  have k1 : w1.cell? ⟨X, 0, .none⟩ = some (.pointer (some ⟨s, 0, .none⟩)) := by rw [hw1, hX]; simp
  have h1 := h.below b1
  have h2 := h1.below (Below.refl _ _).drew
  have h3 := h2.below (Below.refl _ _).drew
  have kS : w1.drew.cell? ⟨X, 0, .none⟩ = some (.pointer (some ⟨s, 0, .none⟩)) ∧ w1.drew.cell? ⟨s, 2, .none⟩ = some (.int .u64 size) := ⟨k1, h2.sp.c2⟩
  have kS2 : w1.drew.drew.cell? ⟨X, 0, .none⟩ = some (.pointer (some ⟨s, 0, .none⟩)) ∧ w1.drew.drew.cell? ⟨s, 2, .none⟩ = some (.int .u64 size) := ⟨k1, h3.sp.c2⟩
  have c51 := end_any h2.sp (by omega)
  rw [hsz.2] at c51
  have hXn : X ≠ p ∧ X ≠ b ∧ X ≠ m := by rw [hX]; have := h.ram.mem.plt; have := h.ram.mem.blt; have := h.ram.mem.mlt; omega
  have c52 := each_tail h3 t ht X kS2.1 hXn
  unfold EaP at c52
  have HB : Hid (Below w.heap.size w w1 ∧ SpT w s p b m N r P ft size B L F lf fr c) := ⟨b1, h⟩
  have e0 : IntKind.u64.wrap ((P : Int) * 4096 - size) = t := by rw [IntKind.wrap_u64]; omega
  have z0 : IntKind.u64.wrap (t : Int) = t := by rw [IntKind.wrap_u64]; omega
  have z1 : IntKind.i64.wrap (t : Int) = t := by rw [IntKind.wrap_i64]; omega
  clear h h1 h2 h3 b1 k1
  go_enter Tryz.func47, Tryz.ntmps47
  go_upto_region 1 with fail
  rw [← hw1, ← hX]
  have HXX : Hid (X = w.heap.size) := hX
  clear hw1 hX
  refine wp_region_held_drew (S := (fun U => U.cell? ⟨X, 0, .none⟩ = some (.pointer (some ⟨s, 0, .none⟩)) ∧ U.cell? ⟨s, 2, .none⟩ = some (.int .u64 size))) (by kernel_rfl) kS (fun hHeld => ?_)
  refine wpAnyH_take (i := 0) (v := (.pointer (some ⟨s, 0, .none⟩))) rfl (by kernel_rfl) (by kernel_rfl) (by kernel_rfl) (fun _ _ _ h => h) (Or.inl ⟨by rfl, fun ww hSw => by (try dsimp only at hSw); go_simp⟩) (by assumption) ?_
  simp only [Act.put, List.setIfInBounds_toArray, List.set_cons_zero, List.set_cons_succ, List.getElem_toArray, List.getElem_cons_succ, List.getElem_cons_zero]
  refine wpAnyH_take (i := 2) (v := (.pointer (some ⟨s, 0, .none⟩))) rfl (by kernel_rfl) (by kernel_rfl) (by kernel_rfl) (fun _ _ _ h => h) (Or.inl ⟨by rfl, fun ww hSw => by (try dsimp only at hSw); go_simp⟩) (by assumption) ?_
  simp only [Act.put, List.setIfInBounds_toArray, List.set_cons_zero, List.set_cons_succ, List.getElem_toArray, List.getElem_cons_succ, List.getElem_cons_zero]
  refine wpAnyH_take (i := 3) (v := (.pointer (some ⟨s, 0, .none⟩))) rfl (by kernel_rfl) (by kernel_rfl) (by kernel_rfl) (fun _ _ _ h => h) (Or.inl ⟨by rfl, fun ww hSw => by (try dsimp only at hSw); go_simp⟩) (by assumption) ?_
  simp only [Act.put, List.setIfInBounds_toArray, List.set_cons_zero, List.set_cons_succ, List.getElem_toArray, List.getElem_cons_succ, List.getElem_cons_zero]
  refine wpAnyH_take (i := 4) (v := (.pointer (some ⟨s, 2, .none⟩))) rfl (by kernel_rfl) (by kernel_rfl) (by kernel_rfl) (fun _ _ _ h => h) (Or.inl ⟨by rfl, fun ww hSw => by (try dsimp only at hSw); go_simp⟩) (by assumption) ?_
  simp only [Act.put, List.setIfInBounds_toArray, List.set_cons_zero, List.set_cons_succ, List.getElem_toArray, List.getElem_cons_succ, List.getElem_cons_zero]
  refine wpAnyH_take (i := 5) (v := (.int .u64 size)) rfl (by kernel_rfl) (by kernel_rfl) (by kernel_rfl) (fun _ _ _ h => h) (Or.inl ⟨by rfl, fun ww hSw => by (try dsimp only at hSw); go_simp⟩) (by assumption) ?_
  simp only [Act.put, List.setIfInBounds_toArray, List.set_cons_zero, List.set_cons_succ, List.getElem_toArray, List.getElem_cons_succ, List.getElem_cons_zero]
  refine wpAnyH_ready (rs := [1]) (by kernel_rfl) (by simp) ?_
  refine AllReadyH.cons rfl (fun K hK => ?_) AllReadyH.nil
  go_simp
  go_at_call 51
  refine (c51).mono ?_
  rintro _ w3 ⟨rfl, e3⟩
  obtain rfl : w1.drew = w3 := e3.symm
  refine hK.out _ _ kS (fun hHeld => ?_)
  clear hK K
  try simp only [Act.put, List.setIfInBounds_toArray, List.set_cons_zero, List.set_cons_succ, List.getElem_toArray, List.getElem_cons_succ, List.getElem_cons_zero]
  refine wpAnyH_take (i := 6) (v := (.int .u64 t)) rfl (by kernel_rfl) (by kernel_rfl) (by kernel_rfl) (fun _ _ _ h => h) (Or.inl ⟨by rfl, fun ww hSw => by (try dsimp only at hSw); go_simp⟩) (by assumption) ?_
  simp only [Act.put, List.setIfInBounds_toArray, List.set_cons_zero, List.set_cons_succ, List.getElem_toArray, List.getElem_cons_succ, List.getElem_cons_zero]
  refine wpAnyH_take (i := 7) (v := (.int .i64 t)) rfl (by kernel_rfl) (by kernel_rfl) (by kernel_rfl) (fun _ _ _ h => h) (Or.inl ⟨by rfl, fun ww hSw => by (try dsimp only at hSw); go_simp⟩) (by assumption) ?_
  simp only [Act.put, List.setIfInBounds_toArray, List.set_cons_zero, List.set_cons_succ, List.getElem_toArray, List.getElem_cons_succ, List.getElem_cons_zero]
  refine wpAnyH_take (i := 8) (v := (.int .i64 t)) rfl (by kernel_rfl) (by kernel_rfl) (by kernel_rfl) (fun _ _ _ h => h) (Or.inl ⟨by rfl, fun ww hSw => by (try dsimp only at hSw); go_simp⟩) (by assumption) ?_
  simp only [Act.put, List.setIfInBounds_toArray, List.set_cons_zero, List.set_cons_succ, List.getElem_toArray, List.getElem_cons_succ, List.getElem_cons_zero]
  refine wpAnyH_done (by kernel_rfl) ?_ _
  go_upto_region 2 with fail
  refine wp_region_held_drew (S := (fun U => U.cell? ⟨X, 0, .none⟩ = some (.pointer (some ⟨s, 0, .none⟩)) ∧ U.cell? ⟨s, 2, .none⟩ = some (.int .u64 size))) (by kernel_rfl) kS2 (fun hHeld => ?_)
  refine wpAnyH_take (i := 0) (v := (.pointer (some ⟨s, 0, .none⟩))) rfl (by kernel_rfl) (by kernel_rfl) (by kernel_rfl) (fun _ _ _ h => h) (Or.inl ⟨by rfl, fun ww hSw => by (try dsimp only at hSw); go_simp⟩) (by assumption) ?_
  simp only [Act.put, List.setIfInBounds_toArray, List.set_cons_zero, List.set_cons_succ, List.getElem_toArray, List.getElem_cons_succ, List.getElem_cons_zero]
  refine wpAnyH_take (i := 1) (v := (.pointer (some ⟨s, 0, .none⟩))) rfl (by kernel_rfl) (by kernel_rfl) (by kernel_rfl) (fun _ _ _ h => h) (Or.inl ⟨by rfl, fun ww hSw => by (try dsimp only at hSw); go_simp⟩) (by assumption) ?_
  simp only [Act.put, List.setIfInBounds_toArray, List.set_cons_zero, List.set_cons_succ, List.getElem_toArray, List.getElem_cons_succ, List.getElem_cons_zero]
  refine wpAnyH_take (i := 2) (v := (.pointer (some ⟨s, 0, .none⟩))) rfl (by kernel_rfl) (by kernel_rfl) (by kernel_rfl) (fun _ _ _ h => h) (Or.inl ⟨by rfl, fun ww hSw => by (try dsimp only at hSw); go_simp⟩) (by assumption) ?_
  simp only [Act.put, List.setIfInBounds_toArray, List.set_cons_zero, List.set_cons_succ, List.getElem_toArray, List.getElem_cons_succ, List.getElem_cons_zero]
  refine wpAnyH_take (i := 3) (v := (.pointer (some ⟨s, 2, .none⟩))) rfl (by kernel_rfl) (by kernel_rfl) (by kernel_rfl) (fun _ _ _ h => h) (Or.inl ⟨by rfl, fun ww hSw => by (try dsimp only at hSw); go_simp⟩) (by assumption) ?_
  simp only [Act.put, List.setIfInBounds_toArray, List.set_cons_zero, List.set_cons_succ, List.getElem_toArray, List.getElem_cons_succ, List.getElem_cons_zero]
  refine wpAnyH_take (i := 4) (v := (.int .u64 size)) rfl (by kernel_rfl) (by kernel_rfl) (by kernel_rfl) (fun _ _ _ h => h) (Or.inl ⟨by rfl, fun ww hSw => by (try dsimp only at hSw); go_simp⟩) (by assumption) ?_
  simp only [Act.put, List.setIfInBounds_toArray, List.set_cons_zero, List.set_cons_succ, List.getElem_toArray, List.getElem_cons_succ, List.getElem_cons_zero]
  refine wpAnyH_take (i := 5) (v := (.int .i64 t)) rfl (by kernel_rfl) (by kernel_rfl) (by kernel_rfl) (fun _ _ _ h => h) (Or.inl ⟨by rfl, fun ww hSw => by (try dsimp only at hSw); go_simp⟩) (by assumption) ?_
  simp only [Act.put, List.setIfInBounds_toArray, List.set_cons_zero, List.set_cons_succ, List.getElem_toArray, List.getElem_cons_succ, List.getElem_cons_zero]
  refine wpAnyH_take (i := 6) (v := (.pointer (some ⟨s, 0, .none⟩))) rfl (by kernel_rfl) (by kernel_rfl) (by kernel_rfl) (fun _ _ _ h => h) (Or.inl ⟨by rfl, fun ww hSw => by (try dsimp only at hSw); go_simp⟩) (by assumption) ?_
  simp only [Act.put, List.setIfInBounds_toArray, List.set_cons_zero, List.set_cons_succ, List.getElem_toArray, List.getElem_cons_succ, List.getElem_cons_zero]
  refine wpAnyH_take (i := 7) (v := (.func (.func 58) #[.pointer (some ⟨s, 0, .none⟩)] #[])) rfl (by kernel_rfl) (by kernel_rfl) (by kernel_rfl) (fun _ _ _ h => h) (Or.inl ⟨by rfl, fun ww hSw => by (try dsimp only at hSw); go_simp⟩) (by assumption) ?_
  simp only [Act.put, List.setIfInBounds_toArray, List.set_cons_zero, List.set_cons_succ, List.getElem_toArray, List.getElem_cons_succ, List.getElem_cons_zero]
  refine wpAnyH_take (i := 8) (v := (.func (.func 84) #[] #[.pointer (some ⟨X, 0, .none⟩)])) rfl (by kernel_rfl) (by kernel_rfl) (by kernel_rfl) (fun _ _ _ h => h) (Or.inl ⟨by rfl, fun ww hSw => by (try dsimp only at hSw); go_simp⟩) (by assumption) ?_
  simp only [Act.put, List.setIfInBounds_toArray, List.set_cons_zero, List.set_cons_succ, List.getElem_toArray, List.getElem_cons_succ, List.getElem_cons_zero]
  refine wpAnyH_ready (rs := [9]) (by kernel_rfl) (by simp) ?_
  refine AllReadyH.cons rfl (fun K hK => ?_) AllReadyH.nil
  go_simp
  go_at_call 52
  refine (c52).mono ?_
  rintro _ w3 Z
  obtain ⟨rfl, hJ⟩ | ⟨rfl, hF⟩ := Z
  rotate_left
  · exact absurd hF (by simp)
  have H3 : Hid (TaJ w1.drew.drew s p b m N r P ft size B L F lf fr c t t w3) := hJ
  have kS3 : w3.cell? ⟨X, 0, .none⟩ = some (.pointer (some ⟨s, 0, .none⟩)) ∧ w3.cell? ⟨s, 2, .none⟩ = some (.int .u64 size) := ⟨(hJ.1.cell (x := ⟨X, 0, .none⟩) (lt_of_cell kS.1) hXn.1 hXn.2.1 hXn.2.2).trans kS.1, hJ.2.1.c2⟩
  clear hJ c52
  refine hK.out _ _ kS3 (fun hHeld => ?_)
  clear hK K
  try simp only [Act.put, List.setIfInBounds_toArray, List.set_cons_zero, List.set_cons_succ, List.getElem_toArray, List.getElem_cons_succ, List.getElem_cons_zero]
  refine wpAnyH_done (by kernel_rfl) ?_ _
  go_wp2_with fail
  refine bodyPost_end (v := .tuple #[]) (by simp [results, Tryz.results47, go_sem]) rfl ?_
  obtain ⟨j1, j2, j3, j4, B', j5, j6, j7⟩ := H3.out
  have hh := HB.out.2
  exact ⟨rfl, (Fra.below HB.out.1.drew.drew).trans j1, B', ⟨j2, hh.sz, hh.pm, j5, hh.ne, j6⟩, j7⟩
theorem tail_any (h : SpT w s p b m N r P ft size B L F lf fr c) : Calls Tryz.prog 47 #[.pointer (some ⟨s, 0, .none⟩)] w (TaP w s p b m N r P ft size B L F lf fr c) := by
  have hsz := h.sz
  have hpm := h.pm
  by_cases ha : size % 4096 = 0
  · refine (tail_zero h.sp (by omega) ha).mono fun e w' ⟨h1, h2⟩ => ⟨h1, Fra.below h2, B, h.below h2, Oth.refl _ _ _ _ _⟩
  · exact tail_some h (P * 4096 - size).toNat (by omega)
end
end Go.Proofs.YtblmkkhiojbcjaaGreat
