import Derived.Test.YtejongfipfefpaaLwH
import Derived.Deep.RegionLaw
import Derived.Deep.Cut
import Derived.Deep.DeepCutAuto
import Derived.Deep.CutBlock
namespace Go.Proofs.Ytejongfipfefpaa
open Go.RowKit
set_option linter.unusedVariables false
set_option linter.unusedSimpArgs false
theorem C3.of_block {A B : World} {a : Nat} {x y z : Value} (h : C3 A a x y z) (e : B.heap[a]? = A.heap[a]?) : C3 B a x y z :=
  ⟨(World.cell?_of_block e).trans h.1, (World.cell?_of_block e).trans h.2.1, (World.cell?_of_block e).trans h.2.2.1, (World.frozen?_of_block e).trans h.2.2.2.1, (World.frozen?_of_block e).trans h.2.2.2.2.1, (World.frozen?_of_block e).trans h.2.2.2.2.2⟩
theorem own_base {w : World} {base b' e sz n : Nat} {v : Value} {xs : List Value} (h : w.ownsRow base e sz v n xs) (hb : b' ≤ base) : w.ownsRow b' e sz v n xs := by
  refine ⟨h.1, ?_⟩
  rcases h.2 with h0 | ⟨g, cap, cur, hv, h1, h2⟩
  · exact .inl h0
  · exact .inr ⟨g, cap, cur, hv, Nat.le_trans hb h1, h2⟩
theorem In.newL {W V V5 : World} {n : Int} {nf cf nh ch : Nat} {qf qh : Option Addr} {F PA : Nat → Int} {L : Nat → Nat} {D : Nat → Nat → Int} {fq hq : Option Addr} {fc hc : Nat} {gs : List (Nat × Nat)} (h : In W V n nf cf nh ch qf qh F PA L D fq fc hq hc gs) {X g cg : Nat} {xs : List Int} (hl : Lent V5 X g cg xs) (hX : V.heap.size ≤ X) : g ∉ gs.map (·.1) := by
  intro hm
  obtain ⟨x, hx, rfl⟩ := List.mem_map.1 hm
  obtain ⟨j, hj, hje⟩ := List.getElem_of_mem hx
  have h1 := (h.le j x (by rw [List.getElem?_eq_getElem hj, hje])).lt.2
  have h2 := hl.lt.1
  omega
theorem Ram.below {w w' : World} {p b m N : Nat} {B : Nat → Int} {L : List Nat} (h : Ram w p b m N B L) (k : Below w.heap.size w w') : Ram w' p b m N B L := ⟨h.mem.below k, h.nd, h.lt, h.thr⟩
theorem wrap8e (x : Int) : IntKind.u8.wrap x = x % 256 := by simp [IntKind.wrap, IntKind.signed, IntKind.bits]
/-- What the end needs of a world. -/
def Cx (W Wc V2 : World) (n : Int) (nf cf nh ch : Nat) (qf qh : Option Addr) (w : World) : Prop := Below W.heap.size W w ∧ C3 w W.heap.size (.int .i64 n) (.slice qf nf cf) (.slice qh nh ch) ∧ Tl Wc.heap.size V2 w
theorem Cx.below {W Wc V2 : World} {n : Int} {nf cf nh ch : Nat} {qf qh : Option Addr} {w w' : World} (h : Cx W Wc V2 n nf cf nh ch qf qh w) (b : Below w.heap.size w w') : Cx W Wc V2 n nf cf nh ch qf qh w' := ⟨h.1.trans (b.mono h.1.size), h.2.1.below b, h.2.2.below b⟩
theorem own_slice {w : World} {base e sz n : Nat} {v : Value} {xs : List Value} (h : w.ownsRow base e sz v n xs) (hn : n ≠ 0) : ∃ g c, v = .slice (some ⟨g, 0, .none⟩) n c := by
  rcases h.2 with ⟨_, h0⟩ | ⟨g, cap, cur, hv, _⟩
  · exact absurd h0 hn
  · exact ⟨g, cap, hv⟩
set_option maxHeartbeats 4000000 in
set_option maxRecDepth 100000 in
theorem law_any (W : World) (nf cf nh ch : Nat) (n : Int) (qf qh : Option Addr) (F PA : Nat → Int) (P : Nat → Option Addr) (L C : Nat → Nat) (D : Nat → Nat → Int) (A : Arg W nf cf nh ch qf qh F PA P L C D) :
    Calls Try.prog 3 #[.agg #[.int .i64 n, .slice qf nf cf, .slice qh nh ch]] W fun e w' => e = .returned (.bool true) ∧ Below W.heap.size W w' := by
  have HAr : Hid (Arg W nf cf nh ch qf qh F PA P L C D) := A
  have sm := A.sm
  obtain ⟨j0, hj0, hjz, hj1, hj2⟩ := info22'
  clear A
  have HB : Hid (C3 ((W.alloc (.cells #[.int .i64 n, .slice qf nf cf, .slice qh nh ch] 25)).alloc (.cells #[.int .i64 n, .slice .none 0 0, .slice .none 0 0] 25)) W.heap.size (.int .i64 n) (.slice qf nf cf) (.slice qh nh ch) ∧ C3 ((W.alloc (.cells #[.int .i64 n, .slice qf nf cf, .slice qh nh ch] 25)).alloc (.cells #[.int .i64 n, .slice .none 0 0, .slice .none 0 0] 25)) (W.heap.size + 1) (.int .i64 n) (.slice .none 0 0) (.slice .none 0 0) ∧ Below W.heap.size W ((W.alloc (.cells #[.int .i64 n, .slice qf nf cf, .slice qh nh ch] 25)).alloc (.cells #[.int .i64 n, .slice .none 0 0, .slice .none 0 0] 25)) ∧ ((W.alloc (.cells #[.int .i64 n, .slice qf nf cf, .slice qh nh ch] 25)).alloc (.cells #[.int .i64 n, .slice .none 0 0, .slice .none 0 0] 25)).heap.size = W.heap.size + 1 + 1) := by
    have k1 : C3 ((W.alloc (.cells #[.int .i64 n, .slice qf nf cf, .slice qh nh ch] 25)).alloc (.cells #[.int .i64 n, .slice .none 0 0, .slice .none 0 0] 25)) (W.heap.size + 1) (.int .i64 n) (.slice .none 0 0) (.slice .none 0 0) := by
      have := C3.new (W.alloc (.cells #[.int .i64 n, .slice qf nf cf, .slice qh nh ch] 25)) (.int .i64 n) (.slice .none 0 0) (.slice .none 0 0) 25
      rwa [World.size_alloc] at this
    exact ⟨(C3.new W (.int .i64 n) (.slice qf nf cf) (.slice qh nh ch) 25).alloc _, k1, ((Below.refl _ _).alloc (Nat.le_refl _) _).alloc (by simp) _, by simp only [World.size_alloc]⟩
  go_enter Try.func3, Try.ntmps3
  go_upto_region 3 with fail
  go_cut [] (fun wx => ∃ fg fc, Hid (In W wx n nf cf nh ch qf qh F PA L D (some ⟨fg, 0, .none⟩) fc none 0 []))
  case first =>
    generalize ((W.alloc (.cells #[.int .i64 n, .slice qf nf cf, .slice qh nh ch] 25)).alloc (.cells #[.int .i64 n, .slice .none 0 0, .slice .none 0 0] 25)) = W2 at *
    obtain ⟨hp, hc, hb, hz⟩ := HB.out
    have HO : Hid ((W2.alloc (.cells #[] 26)).ownsRow (W.heap.size + 1 + 1) 26 1 (.slice (some ⟨W2.heap.size, 0, .none⟩) 0 0) 0 []) := ⟨rfl, .inr ⟨W2.heap.size, 0, #[], rfl, by omega, heap_new _ _, Nat.le_refl _, by decide, rfl, rfl⟩⟩
    have HP2 : Hid (C3 (W2.alloc (.cells #[] 26)) W.heap.size (.int .i64 n) (.slice qf nf cf) (.slice qh nh ch) ∧ C3 (W2.alloc (.cells #[] 26)) (W.heap.size + 1) (.int .i64 n) (.slice .none 0 0) (.slice .none 0 0) ∧ Below W.heap.size W (W2.alloc (.cells #[] 26))) := ⟨hp.alloc _, hc.alloc _, hb.alloc hb.size _⟩
    have b1 := HP2.out.1.2.1
    have a1 := HP2.out.2.1.2.1
    have z1 := HP2.out.2.1.2.2.2.2.1
    have HZ : Hid (W2.heap.size = W.heap.size + 1 + 1) := hz
    clear hp hc hb hz HB
    by_cases h0 : nf = 0
    · subst h0
      go_wp2_with (first | (at_builtin; refine wpList_append_zero22 rfl _ _ rfl _ _ _ rfl rfl ?_) | fail)
      go_meet
      case rel => exact ⟨_, _, in0 HP2.out.1 HP2.out.2.1 HO.out HP2.out.2.2 (by simp only [World.size_alloc]; have := HZ.out; omega)⟩
    · obtain ⟨fb, fo, hqf, hfl, hfc⟩ := HAr.out.fs.resolve_left h0
      have HFc : Hid (∀ j u, ((List.range nf).map fun i => Value.int .u64 (F i))[j]? = some u → (W2.alloc (.cells #[] 26)).cell? ((⟨fb, fo, .none⟩ : Addr).add j) = some u) := by
        intro j u hj
        rw [le_addr_add]
        simp only [List.getElem?_map, Option.map_eq_some_iff] at hj
        obtain ⟨i, hi, rfl⟩ := hj
        obtain ⟨hi1, hi2⟩ := List.getElem?_eq_some_iff.1 hi
        simp only [List.getElem_range] at hi2
        subst hi2
        exact (HP2.out.2.2.cell (p := ⟨fb, fo + j, .none⟩) hfl).trans (hfc j (by simpa using hi1))
      clear hfc hfl
      subst hqf
      go_wp2_with (first | (at_builtin; refine wpList_append_own _ rfl _ _ 22 rfl (W.heap.size + 1 + 1) 26 j0 (.int .u64 0) 1 8 Try.underlying22 hj0 hjz hj1 hj2 rfl (by decide) (.slice (some ⟨W2.heap.size, 0, .none⟩) 0 0) 0 [] rfl HO.out ⟨fb, fo, .none⟩ nf cf ((List.range nf).map fun i => Value.int .u64 (F i)) rfl (by simp) HFc.out (by intro u hu; simp only [List.mem_map] at hu; obtain ⟨i, _, rfl⟩ := hu; rfl) (by unfold maxLen; omega) (by omega) (by simp only [World.size_alloc]; have := HZ.out; omega) ?_; intro v' w5 hown5 hgr5 _; simp only [Nat.zero_add, List.nil_append] at hown5; obtain ⟨fg, fc, rfl⟩ := own_slice hown5 h0; have HP5 : Hid (C3 w5 W.heap.size (.int .i64 n) (.slice (some ⟨fb, fo, .none⟩) nf cf) (.slice qh nh ch) ∧ C3 w5 (W.heap.size + 1) (.int .i64 n) (.slice .none 0 0) (.slice .none 0 0) ∧ Below W.heap.size W w5 ∧ W.heap.size + 1 + 1 ≤ w5.heap.size) := (by
        have z := HZ.out
        have sz := hgr5.size
        simp only [World.size_alloc] at sz
        exact ⟨HP2.out.1.of_block (hgr5.block _ (by simp only [World.size_alloc]; omega) (by simp only [Value.ownBlock, ne_eq, Option.some.injEq]; omega)), HP2.out.2.1.of_block (hgr5.block _ (by simp only [World.size_alloc]; omega) (by simp only [Value.ownBlock, ne_eq, Option.some.injEq]; omega)), HP2.out.2.2.grown hgr5 (by simp only [World.size_alloc]; omega) (fun r e => by simp only [Value.ownBlock, Option.some.injEq] at e; omega), by omega⟩); have HO5 : Hid (w5.ownsRow (W.heap.size + 1 + 1) 26 1 (.slice (some ⟨fg, 0, .none⟩) nf fc) nf ((List.range nf).map fun i => Value.int .u64 (F i))) := hown5; have a5 := HP5.out.2.1.2.1; have z5 := HP5.out.2.1.2.2.2.2.1; clear hown5 hgr5) | fail)
      go_meet
      case rel => exact ⟨_, _, in0 HP5.out.1 HP5.out.2.1 HO5.out HP5.out.2.2.1 HP5.out.2.2.2⟩
  case rest =>
    obtain ⟨fg, fc, HI0⟩ := hcut
    clear HB hj0 hjz hj1 hj2
    go_upto_block 0 with fail
    go_cut [4] (fun a wx => ∃ hq hc gs, gs.length = nh ∧ Hid (In W wx n nf cf nh ch qf qh F PA L D (some ⟨fg, 0, .none⟩) fc hq hc gs))
    case first =>
      go_wp2_with fail
      go_loopw [4] (fun a wr => ∃ i : Nat, i ≤ nh ∧ a = .int .i64 i ∧ ∃ hq hc gs, gs.length = i ∧ Hid (In W wr n nf cf nh ch qf qh F PA L D (some ⟨fg, 0, .none⟩) fc hq hc gs)) (fun a _ => (nh - intOf a).toNat)
      case atStart => exact ⟨0, by omega, rfl, none, 0, [], rfl, HI0⟩
      case round =>
        obtain ⟨i, hi, rfl, hq, hc, gs, hlen, HS⟩ := hrel
        subst hlen
        clear HI0
        have b2 := HS.out.p.2.2.1
        by_cases hlt : gs.length < nh
        · have g0 : (gs.length : Int) < nh := by omega
          obtain ⟨hb, ho, hqh, hhl, hhc⟩ := HAr.out.hs.resolve_left (by omega)
          have k2 := HS.out.c.2.2.1
          have HC0 : Hid (hb < W.heap.size ∧ W.cell? ⟨hb, ho + gs.length * 2, .none⟩ = some (.int .u64 (PA gs.length)) ∧ W.cell? ⟨hb, ho + gs.length * 2 + 1, .none⟩ = some (.slice (P gs.length) (L gs.length) (C gs.length))) := ⟨hhl, hhc _ hlt⟩
          clear hhc hhl
          subst hqh
          have a0 : wr.cell? ⟨hb, ho + gs.length * 2, .none⟩ = some (.int .u64 (PA gs.length)) := (HS.out.be.cell HC0.out.1).trans HC0.out.2.1
          have a1 : wr.cell? ⟨hb, ho + gs.length * 2 + 1, .none⟩ = some (.slice (P gs.length) (L gs.length) (C gs.length)) := (HS.out.be.cell HC0.out.1).trans HC0.out.2.2
          have c4 : ∀ W', Below wr.heap.size wr W' → Calls Try.prog 4 #[.slice (P gs.length) (L gs.length) (C gs.length)] W' fun e w' => ∃ g cg, e = .returned (.slice (some ⟨g, 0, .none⟩) (L gs.length) cg) ∧ Lent w' W'.heap.size g cg (bl (L gs.length) (D gs.length)) ∧ Below W'.heap.size W' w' := fun W' hbw => lend_any ((HAr.out.below (HS.out.be.trans (hbw.mono HS.out.be.size))).byt hlt) (HAr.out.lm _)
          have hb0 : Below wr.heap.size wr wr.drew := (Below.refl _ _).drew
          obtain ⟨j1, hk0, hkz, hk1, hk2⟩ := info76
          have k0 : (wr.drew.cell? ⟨W.heap.size, 2, .none⟩ = some (.slice (some ⟨hb, ho, .none⟩) nh ch) ∧ wr.drew.cell? ⟨hb, ho + gs.length * 2, .none⟩ = some (.int .u64 (PA gs.length))) ∧ wr.drew.cell? ⟨hb, ho + gs.length * 2 + 1, .none⟩ = some (.slice (P gs.length) (L gs.length) (C gs.length)) := ⟨⟨HS.out.p.2.2.1, (HS.out.be.cell HC0.out.1).trans HC0.out.2.1⟩, (HS.out.be.cell HC0.out.1).trans HC0.out.2.2⟩
          clear a0 a1
          go_upto_region 7 with fail
          refine wp_region_held_drew (S := fun U2 => (U2.cell? ⟨W.heap.size, 2, .none⟩ = some (.slice (some ⟨hb, ho, .none⟩) nh ch) ∧ U2.cell? ⟨hb, ho + gs.length * 2, .none⟩ = some (.int .u64 (PA gs.length))) ∧ U2.cell? ⟨hb, ho + gs.length * 2 + 1, .none⟩ = some (.slice (P gs.length) (L gs.length) (C gs.length))) (by kernel_rfl) k0 (fun hHeld => ?_)
          refine wpAnyH_take (i := 0) (v := (.pointer (some ⟨W.heap.size + 1, 2, .none⟩))) rfl (by kernel_rfl) (by kernel_rfl) (by kernel_rfl) (fun _ _ _ h => h) (Or.inl ⟨by rfl, fun ww hSw => by (try dsimp only at hSw); go_simp⟩) (by assumption) ?_
          simp only [Act.put, List.setIfInBounds_toArray, List.set_cons_zero, List.set_cons_succ, List.getElem_toArray, List.getElem_cons_succ, List.getElem_cons_zero]
          refine wpAnyH_take (i := 2) (v := (.pointer (some ⟨W.heap.size, 2, .none⟩))) rfl (by kernel_rfl) (by kernel_rfl) (by kernel_rfl) (fun _ _ _ h => h) (Or.inl ⟨by rfl, fun ww hSw => by (try dsimp only at hSw); go_simp⟩) (by assumption) ?_
          simp only [Act.put, List.setIfInBounds_toArray, List.set_cons_zero, List.set_cons_succ, List.getElem_toArray, List.getElem_cons_succ, List.getElem_cons_zero]
          refine wpAnyH_take (i := 3) (v := (.slice (some ⟨hb, ho, .none⟩) nh ch)) rfl (by kernel_rfl) (by kernel_rfl) (by kernel_rfl) (fun _ _ _ h => h) (Or.inl ⟨by rfl, fun ww hSw => by (try dsimp only at hSw); go_simp⟩) (by assumption) ?_
          simp only [Act.put, List.setIfInBounds_toArray, List.set_cons_zero, List.set_cons_succ, List.getElem_toArray, List.getElem_cons_succ, List.getElem_cons_zero]
          refine wpAnyH_take (i := 4) (v := (.int .i64 gs.length)) rfl (by kernel_rfl) (by kernel_rfl) (by kernel_rfl) (fun _ _ _ h => h) (Or.inl ⟨by rfl, fun ww hSw => by (try dsimp only at hSw); go_simp⟩) (by assumption) ?_
          simp only [Act.put, List.setIfInBounds_toArray, List.set_cons_zero, List.set_cons_succ, List.getElem_toArray, List.getElem_cons_succ, List.getElem_cons_zero]
          refine wpAnyH_take (i := 5) (v := (.pointer (some ⟨hb, ho + gs.length * 2, .none⟩))) rfl (by kernel_rfl) (by kernel_rfl) (by kernel_rfl) (fun _ _ _ h => h) (Or.inl ⟨by rfl, fun ww hSw => by (try dsimp only at hSw); go_simp⟩) (by assumption) ?_
          simp only [Act.put, List.setIfInBounds_toArray, List.set_cons_zero, List.set_cons_succ, List.getElem_toArray, List.getElem_cons_succ, List.getElem_cons_zero]
          refine wpAnyH_take (i := 6) (v := (.pointer (some ⟨hb, ho + gs.length * 2, .none⟩))) rfl (by kernel_rfl) (by kernel_rfl) (by kernel_rfl) (fun _ _ _ h => h) (Or.inl ⟨by rfl, fun ww hSw => by (try dsimp only at hSw); go_simp⟩) (by assumption) ?_
          simp only [Act.put, List.setIfInBounds_toArray, List.set_cons_zero, List.set_cons_succ, List.getElem_toArray, List.getElem_cons_succ, List.getElem_cons_zero]
          refine wpAnyH_take (i := 7) (v := (.int .u64 (PA gs.length))) rfl (by kernel_rfl) (by kernel_rfl) (by kernel_rfl) (fun _ _ _ h => h) (Or.inl ⟨by rfl, fun ww hSw => by (try dsimp only at hSw); go_simp⟩) (by assumption) ?_
          simp only [Act.put, List.setIfInBounds_toArray, List.set_cons_zero, List.set_cons_succ, List.getElem_toArray, List.getElem_cons_succ, List.getElem_cons_zero]
          refine wpAnyH_take (i := 8) (v := (.pointer (some ⟨W.heap.size, 2, .none⟩))) rfl (by kernel_rfl) (by kernel_rfl) (by kernel_rfl) (fun _ _ _ h => h) (Or.inl ⟨by rfl, fun ww hSw => by (try dsimp only at hSw); go_simp⟩) (by assumption) ?_
          simp only [Act.put, List.setIfInBounds_toArray, List.set_cons_zero, List.set_cons_succ, List.getElem_toArray, List.getElem_cons_succ, List.getElem_cons_zero]
          refine wpAnyH_take (i := 9) (v := (.slice (some ⟨hb, ho, .none⟩) nh ch)) rfl (by kernel_rfl) (by kernel_rfl) (by kernel_rfl) (fun _ _ _ h => h) (Or.inl ⟨by rfl, fun ww hSw => by (try dsimp only at hSw); go_simp⟩) (by assumption) ?_
          simp only [Act.put, List.setIfInBounds_toArray, List.set_cons_zero, List.set_cons_succ, List.getElem_toArray, List.getElem_cons_succ, List.getElem_cons_zero]
          refine wpAnyH_take (i := 10) (v := (.int .i64 gs.length)) rfl (by kernel_rfl) (by kernel_rfl) (by kernel_rfl) (fun _ _ _ h => h) (Or.inl ⟨by rfl, fun ww hSw => by (try dsimp only at hSw); go_simp⟩) (by assumption) ?_
          simp only [Act.put, List.setIfInBounds_toArray, List.set_cons_zero, List.set_cons_succ, List.getElem_toArray, List.getElem_cons_succ, List.getElem_cons_zero]
          refine wpAnyH_take (i := 11) (v := (.pointer (some ⟨hb, ho + gs.length * 2, .none⟩))) rfl (by kernel_rfl) (by kernel_rfl) (by kernel_rfl) (fun _ _ _ h => h) (Or.inl ⟨by rfl, fun ww hSw => by (try dsimp only at hSw); go_simp⟩) (by assumption) ?_
          simp only [Act.put, List.setIfInBounds_toArray, List.set_cons_zero, List.set_cons_succ, List.getElem_toArray, List.getElem_cons_succ, List.getElem_cons_zero]
          refine wpAnyH_take (i := 12) (v := (.pointer (some ⟨hb, ho + gs.length * 2 + 1, .none⟩))) rfl (by kernel_rfl) (by kernel_rfl) (by kernel_rfl) (fun _ _ _ h => h) (Or.inl ⟨by rfl, fun ww hSw => by (try dsimp only at hSw); go_simp⟩) (by assumption) ?_
          simp only [Act.put, List.setIfInBounds_toArray, List.set_cons_zero, List.set_cons_succ, List.getElem_toArray, List.getElem_cons_succ, List.getElem_cons_zero]
          refine wpAnyH_take (i := 13) (v := (.slice (P gs.length) (L gs.length) (C gs.length))) rfl (by kernel_rfl) (by kernel_rfl) (by kernel_rfl) (fun _ _ _ h => h) (Or.inl ⟨by rfl, fun ww hSw => by (try dsimp only at hSw); go_simp⟩) (by assumption) ?_
          simp only [Act.put, List.setIfInBounds_toArray, List.set_cons_zero, List.set_cons_succ, List.getElem_toArray, List.getElem_cons_succ, List.getElem_cons_zero]
          refine wpAnyH_ready (rs := [1, 14]) (by kernel_rfl) (by simp) ?_
          refine AllReadyH.cons rfl (fun K hK => ?_) (AllReadyH.cons rfl (fun K hK => ?_) AllReadyH.nil)
          ·
            go_simp
            refine hK.out _ _ k0 (fun hHeld => ?_)
            clear hK K
            try simp only [Act.put, List.setIfInBounds_toArray, List.set_cons_zero, List.set_cons_succ, List.getElem_toArray, List.getElem_cons_succ, List.getElem_cons_zero]
            refine wpAnyH_ready (rs := [14]) (by kernel_rfl) (by simp) ?_
            refine AllReadyH.cons rfl (fun K hK => ?_) AllReadyH.nil
            go_simp
            go_at_call 4
            refine (c4 _ (by assumption)).mono ?_
            rintro e W5 ⟨g, cg, rfl, hlent, hbg⟩
            have HV5 : Hid (In W W5 n nf cf nh ch qf (some ⟨hb, ho, .none⟩) F PA L D (some ⟨fg, 0, .none⟩) fc hq hc gs) := HS.out.below (hb0.trans (hbg.mono (by simp)))
            have HL5 : Hid (Lent W5 (W.heap.size + 1 + 1) g cg (bl (L gs.length) (D gs.length)) ∧ g ∉ gs.map (·.1)) := ⟨own_base hlent (by have := HS.out.xs; simpa using this), HS.out.newL hlent (by simp)⟩
            have HA5 : Hid (∀ o, (W5.alloc o).ownsRow (W.heap.size + 1 + 1) 29 2 (.slice hq gs.length hc) gs.length (flatI PA L gs)) := (fun o => HV5.out.hr.alloc o)
            have HV6 : Hid (In W (W5.alloc (.cells #[.int .u64 (PA gs.length), .slice (some ⟨g, 0, .none⟩) (L gs.length) cg] 29)) n nf cf nh ch qf (some ⟨hb, ho, .none⟩) F PA L D (some ⟨fg, 0, .none⟩) fc hq hc gs) := HV5.out.below ((Below.refl _ _).alloc (Nat.le_refl _) _)
            clear hlent hbg
            have k5 : (W5.cell? ⟨W.heap.size, 2, .none⟩ = some (.slice (some ⟨hb, ho, .none⟩) nh ch) ∧ W5.cell? ⟨hb, ho + gs.length * 2, .none⟩ = some (.int .u64 (PA gs.length))) ∧ W5.cell? ⟨hb, ho + gs.length * 2 + 1, .none⟩ = some (.slice (P gs.length) (L gs.length) (C gs.length)) := ⟨⟨HV5.out.p.2.2.1, (HV5.out.be.cell HC0.out.1).trans HC0.out.2.1⟩, (HV5.out.be.cell HC0.out.1).trans HC0.out.2.2⟩
            have k6 : ((W5.alloc (.cells #[.int .u64 (PA gs.length), .slice (some ⟨g, 0, .none⟩) (L gs.length) cg] 29)).cell? ⟨W.heap.size, 2, .none⟩ = some (.slice (some ⟨hb, ho, .none⟩) nh ch) ∧ (W5.alloc (.cells #[.int .u64 (PA gs.length), .slice (some ⟨g, 0, .none⟩) (L gs.length) cg] 29)).cell? ⟨hb, ho + gs.length * 2, .none⟩ = some (.int .u64 (PA gs.length))) ∧ (W5.alloc (.cells #[.int .u64 (PA gs.length), .slice (some ⟨g, 0, .none⟩) (L gs.length) cg] 29)).cell? ⟨hb, ho + gs.length * 2 + 1, .none⟩ = some (.slice (P gs.length) (L gs.length) (C gs.length)) := ⟨⟨HV6.out.p.2.2.1, (HV6.out.be.cell HC0.out.1).trans HC0.out.2.1⟩, (HV6.out.be.cell HC0.out.1).trans HC0.out.2.2⟩
            have k2a := HV5.out.c.2.2.1
            have k2b := HV6.out.c.2.2.1
            refine hK.out _ _ k5 (fun hHeld => ?_)
            clear hK K
            try simp only [Act.put, List.setIfInBounds_toArray, List.set_cons_zero, List.set_cons_succ, List.getElem_toArray, List.getElem_cons_succ, List.getElem_cons_zero]
            refine wpAnyH_take (i := 15) (v := (.agg #[.int .u64 (PA gs.length), .slice (some ⟨g, 0, .none⟩) (L gs.length) cg])) rfl (by kernel_rfl) (by kernel_rfl) (by kernel_rfl) (fun _ _ _ h => h) (Or.inl ⟨by rfl, fun ww hSw => by (try dsimp only at hSw); go_simp⟩) (by assumption) ?_
            simp only [Act.put, List.setIfInBounds_toArray, List.set_cons_zero, List.set_cons_succ, List.getElem_toArray, List.getElem_cons_succ, List.getElem_cons_zero]
            refine wpAnyH_ready (rs := [16]) (by kernel_rfl) (by simp) ?_
            refine AllReadyH.cons rfl (fun K hK => ?_) AllReadyH.nil
            go_simp
            refine hK.out _ _ k6 (fun hHeld => ?_)
            clear hK K
            try simp only [Act.put, List.setIfInBounds_toArray, List.set_cons_zero, List.set_cons_succ, List.getElem_toArray, List.getElem_cons_succ, List.getElem_cons_zero]
            refine wpAnyH_ready (rs := [17]) (by kernel_rfl) (by simp) ?_
            refine AllReadyH.cons rfl (fun K hK => ?_) AllReadyH.nil
            refine step_append_at rfl (.tmp 30) (.tmp 45) 23 rfl (W.heap.size + 1 + 1) 29 j1 (.agg #[.int .u64 0, .slice .none 0 0]) 2 32 Try.underlying23 hk0 hkz hk1 hk2 rfl (by decide) (.slice hq gs.length hc) gs.length (flatI PA L gs) (by simp [Act.eval, Act.put]) (HA5.out _) ⟨W5.heap.size, 0, .none⟩ 1 1 [.int .u64 (PA gs.length), .slice (some ⟨g, 0, .none⟩) (L gs.length) cg] (by simp [Act.eval, Act.put]) rfl (cell2_new _ _ _ _) (by simp [Value.oneCell']) (by unfold maxLen; omega) (by omega) (by simp only [World.size_alloc]; exact Nat.le_succ_of_le HV5.out.xs) ?_
            intro v' w5 hown5 hgr5 hat5
            obtain ⟨gr, cap1, rfl⟩ := ownsRow_succ hown5
            obtain ⟨m2, n5, hn5⟩ := HV5.out.step HL5.out.1 HL5.out.2 hown5 hgr5
            have HN : Hid (In W (w5.setCell ⟨W.heap.size + 1, 2, .none⟩ (.slice (some ⟨gr, 0, .none⟩) (gs.length + 1) cap1)) n nf cf nh ch qf (some ⟨hb, ho, .none⟩) F PA L D (some ⟨fg, 0, .none⟩) fc (some ⟨gr, 0, .none⟩) cap1 (gs ++ [(g, cg)])) := hn5
            have k8 : ((w5.setCell ⟨W.heap.size + 1, 2, .none⟩ (.slice (some ⟨gr, 0, .none⟩) (gs.length + 1) cap1)).cell? ⟨W.heap.size, 2, .none⟩ = some (.slice (some ⟨hb, ho, .none⟩) nh ch) ∧ (w5.setCell ⟨W.heap.size + 1, 2, .none⟩ (.slice (some ⟨gr, 0, .none⟩) (gs.length + 1) cap1)).cell? ⟨hb, ho + gs.length * 2, .none⟩ = some (.int .u64 (PA gs.length))) ∧ (w5.setCell ⟨W.heap.size + 1, 2, .none⟩ (.slice (some ⟨gr, 0, .none⟩) (gs.length + 1) cap1)).cell? ⟨hb, ho + gs.length * 2 + 1, .none⟩ = some (.slice (P gs.length) (L gs.length) (C gs.length)) := ⟨⟨HN.out.p.2.2.1, (HN.out.be.cell HC0.out.1).trans HC0.out.2.1⟩, (HN.out.be.cell HC0.out.1).trans HC0.out.2.2⟩
            have k7 : (w5.cell? ⟨W.heap.size, 2, .none⟩ = some (.slice (some ⟨hb, ho, .none⟩) nh ch) ∧ w5.cell? ⟨hb, ho + gs.length * 2, .none⟩ = some (.int .u64 (PA gs.length))) ∧ w5.cell? ⟨hb, ho + gs.length * 2 + 1, .none⟩ = some (.slice (P gs.length) (L gs.length) (C gs.length)) := by
              obtain ⟨⟨x1, x2⟩, x3⟩ := k8
              have hl := HC0.out.1
              rw [World.cell?_setCell_other _ _ _ _ (by simp)] at x1
              rw [World.cell?_setCell_other _ _ _ _ (by simp only [ne_eq, Addr.mk.injEq, not_and]; intro e; omega)] at x2 x3
              exact ⟨⟨x1, x2⟩, x3⟩
            clear hown5 hgr5 hat5 hn5 k2a k2b k5 k6 HA5 HV6
            refine hK.out _ _ k7 (fun hHeld => ?_)
            clear hK K
            try simp only [Act.put, List.setIfInBounds_toArray, List.set_cons_zero, List.set_cons_succ, List.getElem_toArray, List.getElem_cons_succ, List.getElem_cons_zero]
            refine wpAnyH_take (i := 18) (v := (.pointer (some ⟨W.heap.size + 1, 2, .none⟩))) rfl (by kernel_rfl) (by kernel_rfl) (by kernel_rfl) (fun _ _ _ h => h) (Or.inl ⟨by rfl, fun ww hSw => by (try dsimp only at hSw); go_simp⟩) (by assumption) ?_
            simp only [Act.put, List.setIfInBounds_toArray, List.set_cons_zero, List.set_cons_succ, List.getElem_toArray, List.getElem_cons_succ, List.getElem_cons_zero]
            refine wpAnyH_ready (rs := [19]) (by kernel_rfl) (by simp) ?_
            refine AllReadyH.cons rfl (fun K hK => ?_) AllReadyH.nil
            go_simp
            refine hK.out _ _ k8 (fun hHeld => ?_)
            clear hK K
            try simp only [Act.put, List.setIfInBounds_toArray, List.set_cons_zero, List.set_cons_succ, List.getElem_toArray, List.getElem_cons_succ, List.getElem_cons_zero]
            refine wpAnyH_done (by kernel_rfl) ?_ _
            clear hHeld k8 k7 m2 n5
            generalize (w5.setCell ⟨W.heap.size + 1, 2, .none⟩ (.slice (some ⟨gr, 0, .none⟩) (gs.length + 1) cap1)) = w6 at *
            go_wp2_with fail
            exact ⟨⟨gs.length + 1, by omega, by simp, _, _, _, by simp, HN⟩, by simp [intOf]; omega⟩
          ·
            go_simp
            go_at_call 4
            refine (c4 _ (by assumption)).mono ?_
            rintro e W5 ⟨g, cg, rfl, hlent, hbg⟩
            have HV5 : Hid (In W W5 n nf cf nh ch qf (some ⟨hb, ho, .none⟩) F PA L D (some ⟨fg, 0, .none⟩) fc hq hc gs) := HS.out.below (hb0.trans (hbg.mono (by simp)))
            have HL5 : Hid (Lent W5 (W.heap.size + 1 + 1) g cg (bl (L gs.length) (D gs.length)) ∧ g ∉ gs.map (·.1)) := ⟨own_base hlent (by have := HS.out.xs; simpa using this), HS.out.newL hlent (by simp)⟩
            have HA5 : Hid (∀ o, (W5.alloc o).ownsRow (W.heap.size + 1 + 1) 29 2 (.slice hq gs.length hc) gs.length (flatI PA L gs)) := (fun o => HV5.out.hr.alloc o)
            have HV6 : Hid (In W (W5.alloc (.cells #[.int .u64 (PA gs.length), .slice (some ⟨g, 0, .none⟩) (L gs.length) cg] 29)) n nf cf nh ch qf (some ⟨hb, ho, .none⟩) F PA L D (some ⟨fg, 0, .none⟩) fc hq hc gs) := HV5.out.below ((Below.refl _ _).alloc (Nat.le_refl _) _)
            clear hlent hbg
            have k5 : (W5.cell? ⟨W.heap.size, 2, .none⟩ = some (.slice (some ⟨hb, ho, .none⟩) nh ch) ∧ W5.cell? ⟨hb, ho + gs.length * 2, .none⟩ = some (.int .u64 (PA gs.length))) ∧ W5.cell? ⟨hb, ho + gs.length * 2 + 1, .none⟩ = some (.slice (P gs.length) (L gs.length) (C gs.length)) := ⟨⟨HV5.out.p.2.2.1, (HV5.out.be.cell HC0.out.1).trans HC0.out.2.1⟩, (HV5.out.be.cell HC0.out.1).trans HC0.out.2.2⟩
            have k6 : ((W5.alloc (.cells #[.int .u64 (PA gs.length), .slice (some ⟨g, 0, .none⟩) (L gs.length) cg] 29)).cell? ⟨W.heap.size, 2, .none⟩ = some (.slice (some ⟨hb, ho, .none⟩) nh ch) ∧ (W5.alloc (.cells #[.int .u64 (PA gs.length), .slice (some ⟨g, 0, .none⟩) (L gs.length) cg] 29)).cell? ⟨hb, ho + gs.length * 2, .none⟩ = some (.int .u64 (PA gs.length))) ∧ (W5.alloc (.cells #[.int .u64 (PA gs.length), .slice (some ⟨g, 0, .none⟩) (L gs.length) cg] 29)).cell? ⟨hb, ho + gs.length * 2 + 1, .none⟩ = some (.slice (P gs.length) (L gs.length) (C gs.length)) := ⟨⟨HV6.out.p.2.2.1, (HV6.out.be.cell HC0.out.1).trans HC0.out.2.1⟩, (HV6.out.be.cell HC0.out.1).trans HC0.out.2.2⟩
            have k2a := HV5.out.c.2.2.1
            have k2b := HV6.out.c.2.2.1
            refine hK.out _ _ k5 (fun hHeld => ?_)
            clear hK K
            try simp only [Act.put, List.setIfInBounds_toArray, List.set_cons_zero, List.set_cons_succ, List.getElem_toArray, List.getElem_cons_succ, List.getElem_cons_zero]
            refine wpAnyH_take (i := 15) (v := (.agg #[.int .u64 (PA gs.length), .slice (some ⟨g, 0, .none⟩) (L gs.length) cg])) rfl (by kernel_rfl) (by kernel_rfl) (by kernel_rfl) (fun _ _ _ h => h) (Or.inl ⟨by rfl, fun ww hSw => by (try dsimp only at hSw); go_simp⟩) (by assumption) ?_
            simp only [Act.put, List.setIfInBounds_toArray, List.set_cons_zero, List.set_cons_succ, List.getElem_toArray, List.getElem_cons_succ, List.getElem_cons_zero]
            refine wpAnyH_ready (rs := [1, 16]) (by kernel_rfl) (by simp) ?_
            refine AllReadyH.cons rfl (fun K hK => ?_) (AllReadyH.cons rfl (fun K hK => ?_) AllReadyH.nil)
            ·
              go_simp
              refine hK.out _ _ k5 (fun hHeld => ?_)
              clear hK K
              try simp only [Act.put, List.setIfInBounds_toArray, List.set_cons_zero, List.set_cons_succ, List.getElem_toArray, List.getElem_cons_succ, List.getElem_cons_zero]
              refine wpAnyH_ready (rs := [16]) (by kernel_rfl) (by simp) ?_
              refine AllReadyH.cons rfl (fun K hK => ?_) AllReadyH.nil
              go_simp
              refine hK.out _ _ k6 (fun hHeld => ?_)
              clear hK K
              try simp only [Act.put, List.setIfInBounds_toArray, List.set_cons_zero, List.set_cons_succ, List.getElem_toArray, List.getElem_cons_succ, List.getElem_cons_zero]
              refine wpAnyH_ready (rs := [17]) (by kernel_rfl) (by simp) ?_
              refine AllReadyH.cons rfl (fun K hK => ?_) AllReadyH.nil
              refine step_append_at rfl (.tmp 30) (.tmp 45) 23 rfl (W.heap.size + 1 + 1) 29 j1 (.agg #[.int .u64 0, .slice .none 0 0]) 2 32 Try.underlying23 hk0 hkz hk1 hk2 rfl (by decide) (.slice hq gs.length hc) gs.length (flatI PA L gs) (by simp [Act.eval, Act.put]) (HA5.out _) ⟨W5.heap.size, 0, .none⟩ 1 1 [.int .u64 (PA gs.length), .slice (some ⟨g, 0, .none⟩) (L gs.length) cg] (by simp [Act.eval, Act.put]) rfl (cell2_new _ _ _ _) (by simp [Value.oneCell']) (by unfold maxLen; omega) (by omega) (by simp only [World.size_alloc]; exact Nat.le_succ_of_le HV5.out.xs) ?_
              intro v' w5 hown5 hgr5 hat5
              obtain ⟨gr, cap1, rfl⟩ := ownsRow_succ hown5
              obtain ⟨m2, n5, hn5⟩ := HV5.out.step HL5.out.1 HL5.out.2 hown5 hgr5
              have HN : Hid (In W (w5.setCell ⟨W.heap.size + 1, 2, .none⟩ (.slice (some ⟨gr, 0, .none⟩) (gs.length + 1) cap1)) n nf cf nh ch qf (some ⟨hb, ho, .none⟩) F PA L D (some ⟨fg, 0, .none⟩) fc (some ⟨gr, 0, .none⟩) cap1 (gs ++ [(g, cg)])) := hn5
              have k8 : ((w5.setCell ⟨W.heap.size + 1, 2, .none⟩ (.slice (some ⟨gr, 0, .none⟩) (gs.length + 1) cap1)).cell? ⟨W.heap.size, 2, .none⟩ = some (.slice (some ⟨hb, ho, .none⟩) nh ch) ∧ (w5.setCell ⟨W.heap.size + 1, 2, .none⟩ (.slice (some ⟨gr, 0, .none⟩) (gs.length + 1) cap1)).cell? ⟨hb, ho + gs.length * 2, .none⟩ = some (.int .u64 (PA gs.length))) ∧ (w5.setCell ⟨W.heap.size + 1, 2, .none⟩ (.slice (some ⟨gr, 0, .none⟩) (gs.length + 1) cap1)).cell? ⟨hb, ho + gs.length * 2 + 1, .none⟩ = some (.slice (P gs.length) (L gs.length) (C gs.length)) := ⟨⟨HN.out.p.2.2.1, (HN.out.be.cell HC0.out.1).trans HC0.out.2.1⟩, (HN.out.be.cell HC0.out.1).trans HC0.out.2.2⟩
              have k7 : (w5.cell? ⟨W.heap.size, 2, .none⟩ = some (.slice (some ⟨hb, ho, .none⟩) nh ch) ∧ w5.cell? ⟨hb, ho + gs.length * 2, .none⟩ = some (.int .u64 (PA gs.length))) ∧ w5.cell? ⟨hb, ho + gs.length * 2 + 1, .none⟩ = some (.slice (P gs.length) (L gs.length) (C gs.length)) := by
                obtain ⟨⟨x1, x2⟩, x3⟩ := k8
                have hl := HC0.out.1
                rw [World.cell?_setCell_other _ _ _ _ (by simp)] at x1
                rw [World.cell?_setCell_other _ _ _ _ (by simp only [ne_eq, Addr.mk.injEq, not_and]; intro e; omega)] at x2 x3
                exact ⟨⟨x1, x2⟩, x3⟩
              clear hown5 hgr5 hat5 hn5 k2a k2b k5 k6 HA5 HV6
              refine hK.out _ _ k7 (fun hHeld => ?_)
              clear hK K
              try simp only [Act.put, List.setIfInBounds_toArray, List.set_cons_zero, List.set_cons_succ, List.getElem_toArray, List.getElem_cons_succ, List.getElem_cons_zero]
              refine wpAnyH_take (i := 18) (v := (.pointer (some ⟨W.heap.size + 1, 2, .none⟩))) rfl (by kernel_rfl) (by kernel_rfl) (by kernel_rfl) (fun _ _ _ h => h) (Or.inl ⟨by rfl, fun ww hSw => by (try dsimp only at hSw); go_simp⟩) (by assumption) ?_
              simp only [Act.put, List.setIfInBounds_toArray, List.set_cons_zero, List.set_cons_succ, List.getElem_toArray, List.getElem_cons_succ, List.getElem_cons_zero]
              refine wpAnyH_ready (rs := [19]) (by kernel_rfl) (by simp) ?_
              refine AllReadyH.cons rfl (fun K hK => ?_) AllReadyH.nil
              go_simp
              refine hK.out _ _ k8 (fun hHeld => ?_)
              clear hK K
              try simp only [Act.put, List.setIfInBounds_toArray, List.set_cons_zero, List.set_cons_succ, List.getElem_toArray, List.getElem_cons_succ, List.getElem_cons_zero]
              refine wpAnyH_done (by kernel_rfl) ?_ _
              clear hHeld k8 k7 m2 n5
              generalize (w5.setCell ⟨W.heap.size + 1, 2, .none⟩ (.slice (some ⟨gr, 0, .none⟩) (gs.length + 1) cap1)) = w6 at *
              go_wp2_with fail
              exact ⟨⟨gs.length + 1, by omega, by simp, _, _, _, by simp, HN⟩, by simp [intOf]; omega⟩
            ·
              go_simp
              refine hK.out _ _ k6 (fun hHeld => ?_)
              clear hK K
              try simp only [Act.put, List.setIfInBounds_toArray, List.set_cons_zero, List.set_cons_succ, List.getElem_toArray, List.getElem_cons_succ, List.getElem_cons_zero]
              refine wpAnyH_ready (rs := [1]) (by kernel_rfl) (by simp) ?_
              refine AllReadyH.cons rfl (fun K hK => ?_) AllReadyH.nil
              go_simp
              refine hK.out _ _ k6 (fun hHeld => ?_)
              clear hK K
              try simp only [Act.put, List.setIfInBounds_toArray, List.set_cons_zero, List.set_cons_succ, List.getElem_toArray, List.getElem_cons_succ, List.getElem_cons_zero]
              refine wpAnyH_ready (rs := [17]) (by kernel_rfl) (by simp) ?_
              refine AllReadyH.cons rfl (fun K hK => ?_) AllReadyH.nil
              refine step_append_at rfl (.tmp 30) (.tmp 45) 23 rfl (W.heap.size + 1 + 1) 29 j1 (.agg #[.int .u64 0, .slice .none 0 0]) 2 32 Try.underlying23 hk0 hkz hk1 hk2 rfl (by decide) (.slice hq gs.length hc) gs.length (flatI PA L gs) (by simp [Act.eval, Act.put]) (HA5.out _) ⟨W5.heap.size, 0, .none⟩ 1 1 [.int .u64 (PA gs.length), .slice (some ⟨g, 0, .none⟩) (L gs.length) cg] (by simp [Act.eval, Act.put]) rfl (cell2_new _ _ _ _) (by simp [Value.oneCell']) (by unfold maxLen; omega) (by omega) (by simp only [World.size_alloc]; exact Nat.le_succ_of_le HV5.out.xs) ?_
              intro v' w5 hown5 hgr5 hat5
              obtain ⟨gr, cap1, rfl⟩ := ownsRow_succ hown5
              obtain ⟨m2, n5, hn5⟩ := HV5.out.step HL5.out.1 HL5.out.2 hown5 hgr5
              have HN : Hid (In W (w5.setCell ⟨W.heap.size + 1, 2, .none⟩ (.slice (some ⟨gr, 0, .none⟩) (gs.length + 1) cap1)) n nf cf nh ch qf (some ⟨hb, ho, .none⟩) F PA L D (some ⟨fg, 0, .none⟩) fc (some ⟨gr, 0, .none⟩) cap1 (gs ++ [(g, cg)])) := hn5
              have k8 : ((w5.setCell ⟨W.heap.size + 1, 2, .none⟩ (.slice (some ⟨gr, 0, .none⟩) (gs.length + 1) cap1)).cell? ⟨W.heap.size, 2, .none⟩ = some (.slice (some ⟨hb, ho, .none⟩) nh ch) ∧ (w5.setCell ⟨W.heap.size + 1, 2, .none⟩ (.slice (some ⟨gr, 0, .none⟩) (gs.length + 1) cap1)).cell? ⟨hb, ho + gs.length * 2, .none⟩ = some (.int .u64 (PA gs.length))) ∧ (w5.setCell ⟨W.heap.size + 1, 2, .none⟩ (.slice (some ⟨gr, 0, .none⟩) (gs.length + 1) cap1)).cell? ⟨hb, ho + gs.length * 2 + 1, .none⟩ = some (.slice (P gs.length) (L gs.length) (C gs.length)) := ⟨⟨HN.out.p.2.2.1, (HN.out.be.cell HC0.out.1).trans HC0.out.2.1⟩, (HN.out.be.cell HC0.out.1).trans HC0.out.2.2⟩
              have k7 : (w5.cell? ⟨W.heap.size, 2, .none⟩ = some (.slice (some ⟨hb, ho, .none⟩) nh ch) ∧ w5.cell? ⟨hb, ho + gs.length * 2, .none⟩ = some (.int .u64 (PA gs.length))) ∧ w5.cell? ⟨hb, ho + gs.length * 2 + 1, .none⟩ = some (.slice (P gs.length) (L gs.length) (C gs.length)) := by
                obtain ⟨⟨x1, x2⟩, x3⟩ := k8
                have hl := HC0.out.1
                rw [World.cell?_setCell_other _ _ _ _ (by simp)] at x1
                rw [World.cell?_setCell_other _ _ _ _ (by simp only [ne_eq, Addr.mk.injEq, not_and]; intro e; omega)] at x2 x3
                exact ⟨⟨x1, x2⟩, x3⟩
              clear hown5 hgr5 hat5 hn5 k2a k2b k5 k6 HA5 HV6
              refine hK.out _ _ k7 (fun hHeld => ?_)
              clear hK K
              try simp only [Act.put, List.setIfInBounds_toArray, List.set_cons_zero, List.set_cons_succ, List.getElem_toArray, List.getElem_cons_succ, List.getElem_cons_zero]
              refine wpAnyH_take (i := 18) (v := (.pointer (some ⟨W.heap.size + 1, 2, .none⟩))) rfl (by kernel_rfl) (by kernel_rfl) (by kernel_rfl) (fun _ _ _ h => h) (Or.inl ⟨by rfl, fun ww hSw => by (try dsimp only at hSw); go_simp⟩) (by assumption) ?_
              simp only [Act.put, List.setIfInBounds_toArray, List.set_cons_zero, List.set_cons_succ, List.getElem_toArray, List.getElem_cons_succ, List.getElem_cons_zero]
              refine wpAnyH_ready (rs := [19]) (by kernel_rfl) (by simp) ?_
              refine AllReadyH.cons rfl (fun K hK => ?_) AllReadyH.nil
              go_simp
              refine hK.out _ _ k8 (fun hHeld => ?_)
              clear hK K
              try simp only [Act.put, List.setIfInBounds_toArray, List.set_cons_zero, List.set_cons_succ, List.getElem_toArray, List.getElem_cons_succ, List.getElem_cons_zero]
              refine wpAnyH_done (by kernel_rfl) ?_ _
              clear hHeld k8 k7 m2 n5
              generalize (w5.setCell ⟨W.heap.size + 1, 2, .none⟩ (.slice (some ⟨gr, 0, .none⟩) (gs.length + 1) cap1)) = w6 at *
              go_wp2_with fail
              exact ⟨⟨gs.length + 1, by omega, by simp, _, _, _, by simp, HN⟩, by simp [intOf]; omega⟩
        · have he : gs.length = nh := by omega
          have HE : Hid (In W wr n nf cf nh ch qf qh F PA L D (some ⟨fg, 0, .none⟩) fc hq hc gs) := HS
          have hn : ¬ ((gs.length : Int) < nh) := by omega
          go_wp2_with fail
          go_meet
          case rel => exact ⟨hq, hc, gs, he, HE⟩
    case rest =>
      obtain ⟨hq, hc, gs, hlen, HI⟩ := hcut
      clear HI0
      obtain ⟨Wc, hWc⟩ : ∃ u, u = wc := ⟨_, rfl⟩
      subst hWc
      have HCc : Hid (C3 Wc (W.heap.size + 1) (.int .i64 n) (.slice (some ⟨fg, 0, .none⟩) nf fc) (.slice hq nh hc)) := by have := HI.out.c; rw [hlen] at this; exact this
      obtain ⟨a0, a1, a2, _, _, _⟩ := HCc.out
      go_wp2_with fail
      refine (from_in HI.out hlen HAr.out.fb HAr.out.pb HAr.out.db HAr.out.lm sm).mono ?_
      rintro e V1 ⟨a, r, hv, hcase⟩
      clear a0 a1 a2
      rcases hcase with ⟨hr, v, rfl, hfi, hb1⟩ | ⟨rfl, rfl, N, rfl, hN1, hN2, hfine, p, b, m, B, hp, hb, hm, rfl, hram, hB, hb1⟩
      · have HI1 : Hid (In W V1 n nf cf nh ch qf qh F PA L D (some ⟨fg, 0, .none⟩) fc hq hc gs) := HI.out.below hb1
        obtain ⟨p0, p1, p2, _, _, _⟩ := HI1.out.p
        have HF : Hid (FaultIn V1 0 v a r) := faultIn_mono hfi (Nat.zero_le _)
        have HV : Hid (Verd F nf PA L nh n a r) := hv
        clear hv hfi hb1
        go_wp2_with fail
        refine (ref_arg (HAr.out.below HI1.out.be)).mono ?_
        rintro e V2 ⟨⟨a', r', hv', hcase⟩, hb2⟩
        obtain ⟨rfl, rfl⟩ := verd_one HV.out hv'
        obtain rfl := (hcase.resolve_right (fun h => hr h.1)).2
        clear hcase
        clear p0 p1 p2 hv'
        have HI2 : Hid (In W V2 n nf cf nh ch qf qh F PA L D (some ⟨fg, 0, .none⟩) fc hq hc gs) := HI1.out.below hb2
        have HE2 : Hid (ErrR V2 v a r) := .inl ⟨hr, HF.out.below hb2⟩
        clear hb2
        go_wp2_with (first | (go_at_call 8; refine (lfaultR_any a r _).mono ?_; rintro e V3 ⟨⟨g, rfl, hg⟩, hb3⟩; have HG : Hid (RefR V3 g a r) := hg; have HI3 : Hid (In W V3 n nf cf nh ch qf qh F PA L D (some ⟨fg, 0, .none⟩) fc hq hc gs) := HI2.out.below hb3; have HE3 : Hid (ErrR V3 v a r) := HE2.out.below hb3; clear hg hb3) | (go_at_call 7; refine (isR_any v g a r _ HE3.out HG.out).mono ?_; rintro e V4 ⟨rfl, hb4⟩; have HI4 : Hid (In W V4 n nf cf nh ch qf qh F PA L D (some ⟨fg, 0, .none⟩) fc hq hc gs) := HI3.out.below hb4; have HC4 : Hid (C3 V4 (W.heap.size + 1) (.int .i64 n) (.slice (some ⟨fg, 0, .none⟩) nf fc) (.slice hq nh hc)) := (by have := HI4.out.c; rw [hlen] at this; exact this); obtain ⟨c40, c41, c42, _, _, _⟩ := HC4.out; obtain ⟨d40, d41, d42, _, _, _⟩ := HI4.out.p; clear hb4) | (go_at_call 9; refine (images_in HI4.out hlen (HAr.out.below HI4.out.be)).mono ?_; rintro e V5 ⟨rfl, hb5⟩; have HB5 : Hid (Below W.heap.size W V5) := HI4.out.be.trans (hb5.mono HI4.out.be.size); clear hb5))
        go_ret
        exact ⟨rfl, HB5.out⟩
      · have HI1 : Hid (In W V1 N nf cf nh ch qf qh F PA L D (some ⟨fg, 0, .none⟩) fc hq hc gs) := HI.out.below hb1
        obtain ⟨p0, p1, p2, _, _, _⟩ := HI1.out.p
        have HV : Hid (Verd F nf PA L nh N 0 0 ∧ Fine F nf PA L nh N) := ⟨hv, hfine⟩
        have HR : Hid (Wc.heap.size ≤ p ∧ Wc.heap.size ≤ b ∧ Wc.heap.size ≤ m ∧ Ram V1 p b m N B (Lf F nf) ∧ (∀ i, i < nh → ∀ j, j < 4096 → B (fi (PA i) * 4096 + j) = D i j) ∧ Wc.heap.size ≤ V1.heap.size) := ⟨hp, hb, hm, hram, hB, hb1.size⟩
        clear hv hfine hb1 hp hb hm hram hB
        go_wp2_with fail
        refine (ref_arg (HAr.out.below HI1.out.be)).mono ?_
        rintro e V2 ⟨⟨a', r', hv', hcase⟩, hb2⟩
        obtain ⟨rfl, rfl⟩ := verd_one HV.out.1 hv'
        obtain ⟨_, _, N', hN', _, _, _, q, rfl, hqi⟩ := hcase.resolve_left (fun h => h.1 rfl)
        have hN'' : N' = N := by omega
        subst hN''
        clear p0 p1 p2 hv' hcase hN'
        have HI2 : Hid (In W V2 N' nf cf nh ch qf qh F PA L D (some ⟨fg, 0, .none⟩) fc hq hc gs) := HI1.out.below hb2
        have HE2 : Hid (ErrR V2 .nilIface 0 0) := .inr ⟨rfl, rfl⟩
        have HK2 : Hid (∀ V', Tl Wc.heap.size V2 V' → Ram V' p b m N' B (Lf F nf) ∧ ∃ hb lv, Qv V' q hb N' lv B (Lf F nf)) := fun V' ht => ⟨((HR.out.2.2.2.1).below hb2).tl HR.out.1 HR.out.2.1 HR.out.2.2.1 ht, hqi.qv HV.out.2 hN1 hN2 HR.out.2.2.2.2.1 (fun x h1 h2 => ht.2 x (Nat.le_trans HR.out.2.2.2.2.2 h1) h2)⟩
        clear hb2 hqi
        go_upto_block 2 with (first | (go_at_call 8; refine (lfaultR_any 0 0 _).mono ?_; rintro e V3 ⟨⟨g, rfl, hg⟩, hb3⟩; have HG : Hid (RefR V3 g 0 0) := hg; have HI3 : Hid (In W V3 N' nf cf nh ch qf qh F PA L D (some ⟨fg, 0, .none⟩) fc hq hc gs) := HI2.out.below hb3; have HE3 : Hid (ErrR V3 .nilIface 0 0) := HE2.out.below hb3; have HT3 : Hid (Tl Wc.heap.size V2 V3) := (Tl.refl _ _).below hb3; clear hg hb3) | (go_at_call 7; refine (isR_any .nilIface g 0 0 _ HE3.out HG.out).mono ?_; rintro e V4 ⟨rfl, hb4⟩; have HI4 : Hid (In W V4 N' nf cf nh ch qf qh F PA L D (some ⟨fg, 0, .none⟩) fc hq hc gs) := HI3.out.below hb4; have HT4 : Hid (Tl Wc.heap.size V2 V4) := HT3.out.below hb4; have HC4 : Hid (C3 V4 (W.heap.size + 1) (.int .i64 N') (.slice (some ⟨fg, 0, .none⟩) nf fc) (.slice hq nh hc)) := (by have := HI4.out.c; rw [hlen] at this; exact this); obtain ⟨c40, c41, c42, _, _, _⟩ := HC4.out; obtain ⟨d40, d41, d42, _, _, _⟩ := HI4.out.p; clear hb4) | (go_at_call 9; refine (images_in HI4.out hlen (HAr.out.below HI4.out.be)).mono ?_; rintro e V5 ⟨rfl, hb5⟩; have HI5 : Hid (In W V5 N' nf cf nh ch qf qh F PA L D (some ⟨fg, 0, .none⟩) fc hq hc gs ∧ Tl Wc.heap.size V2 V5) := ⟨HI4.out.below hb5, HT4.out.below hb5⟩; clear hb5 c40 c41 c42 d40 d41 d42))
        go_cut [10] (fun a wx => Hid (In W wx N' nf cf nh ch qf qh F PA L (D2 D nh) (some ⟨fg, 0, .none⟩) fc hq hc gs ∧ Tl Wc.heap.size V2 wx))
        case first =>
          go_wp2_with fail
          go_loopw [10] (fun a wr => ∃ i : Nat, i ≤ nh ∧ a = .int .i64 i ∧ Hid (In W wr N' nf cf nh ch qf qh F PA L (D2 D i) (some ⟨fg, 0, .none⟩) fc hq hc gs ∧ Tl Wc.heap.size V2 wr)) (fun a _ => (nh - intOf a).toNat)
          case atStart => exact ⟨0, by omega, rfl, by rw [D2_zero]; exact HI5⟩
          case round =>
            obtain ⟨i, hi, rfl, HS⟩ := hrel
            clear HI5
            have HSc : Hid (C3 wr (W.heap.size + 1) (.int .i64 N') (.slice (some ⟨fg, 0, .none⟩) nf fc) (.slice hq nh hc)) := (by have := HS.out.1.c; rw [hlen] at this; exact this)
            have k2 := HSc.out.2.2.1
            by_cases hlt : i < nh
            · have g0 : (i : Int) < nh := by omega
              obtain ⟨⟨g, cg⟩, hgi⟩ : ∃ x, gs[i]? = some x := ⟨gs[i]'(by omega), List.getElem?_eq_getElem _⟩
              obtain ⟨hb, ho, hqh, hhl, hhc⟩ := HAr.out.hs.resolve_left (by omega)
              obtain ⟨rb, ro, hqr, hrl, hrc⟩ := HS.out.1.hs.resolve_left (by omega)
              have hgd : gs.getD i (0, 0) = (g, cg) := by rw [List.getD_eq_getElem?_getD, hgi]; rfl
              have r1 := (hrc i (by omega)).2
              dsimp only at r1
              rw [hgd] at r1
              have r2 := (HS.out.1.be.cell (p := ⟨hb, ho + i * 2 + 1, .none⟩) hhl).trans (hhc i hlt).2
              have r3 := HS.out.1.p.2.2.1
              have HL : Hid (Lent wr (W.heap.size + 1 + 1) g cg (bl (L i) (D i)) ∧ L i = 4096 ∧ g < Wc.heap.size) := ⟨by have h7 := HS.out.1.le i _ hgi; rw [bl_congr (fun t _ => D2_at D i t)] at h7; exact h7, (HV.out.2.held hlt).2.1, (HI.out.le i _ hgi).lt.2⟩
              clear hrc hhc hgd hhl hrl
              subst hqh
              subst hqr
              have c10 := kept_any ((HAr.out.below (HS.out.1.be.trans ((Below.refl _ _).drew : Below W.heap.size wr wr.drew))).byt hlt) (HAr.out.lm i) (lent_below HL.out.1 ((Below.refl _ _).drew))
              have k0 : (wr.drew.cell? ⟨W.heap.size, 2, .none⟩ = some (.slice (some ⟨hb, ho, .none⟩) nh ch) ∧ wr.drew.cell? ⟨hb, ho + i * 2 + 1, .none⟩ = some (.slice (P i) (L i) (C i))) ∧ wr.drew.cell? ⟨W.heap.size + 1, 2, .none⟩ = some (.slice (some ⟨rb, ro, .none⟩) nh hc) ∧ wr.drew.cell? ⟨rb, ro + i * 2 + 1, .none⟩ = some (.slice (some ⟨g, 0, .none⟩) (L i) cg) := ⟨⟨r3, r2⟩, k2, r1⟩
              go_upto_region 17 with fail
              refine wp_region_held_drew (S := fun U2 => (U2.cell? ⟨W.heap.size, 2, .none⟩ = some (.slice (some ⟨hb, ho, .none⟩) nh ch) ∧ U2.cell? ⟨hb, ho + i * 2 + 1, .none⟩ = some (.slice (P i) (L i) (C i))) ∧ U2.cell? ⟨W.heap.size + 1, 2, .none⟩ = some (.slice (some ⟨rb, ro, .none⟩) nh hc) ∧ U2.cell? ⟨rb, ro + i * 2 + 1, .none⟩ = some (.slice (some ⟨g, 0, .none⟩) (L i) cg)) (by kernel_rfl) k0 (fun hHeld => ?_)
              refine wpAnyH_take (i := 0) (v := (.pointer (some ⟨W.heap.size + 1, 2, .none⟩))) rfl (by kernel_rfl) (by kernel_rfl) (by kernel_rfl) (fun _ _ _ h => h) (Or.inl ⟨by rfl, fun ww hSw => by (try dsimp only at hSw); go_simp⟩) (by assumption) ?_
              simp only [Act.put, List.setIfInBounds_toArray, List.set_cons_zero, List.set_cons_succ, List.getElem_toArray, List.getElem_cons_succ, List.getElem_cons_zero]
              refine wpAnyH_take (i := 1) (v := (.slice (some ⟨rb, ro, .none⟩) nh hc)) rfl (by kernel_rfl) (by kernel_rfl) (by kernel_rfl) (fun _ _ _ h => h) (Or.inl ⟨by rfl, fun ww hSw => by (try dsimp only at hSw); go_simp⟩) (by assumption) ?_
              simp only [Act.put, List.setIfInBounds_toArray, List.set_cons_zero, List.set_cons_succ, List.getElem_toArray, List.getElem_cons_succ, List.getElem_cons_zero]
              refine wpAnyH_take (i := 2) (v := (.int .i64 i)) rfl (by kernel_rfl) (by kernel_rfl) (by kernel_rfl) (fun _ _ _ h => h) (Or.inl ⟨by rfl, fun ww hSw => by (try dsimp only at hSw); go_simp⟩) (by assumption) ?_
              simp only [Act.put, List.setIfInBounds_toArray, List.set_cons_zero, List.set_cons_succ, List.getElem_toArray, List.getElem_cons_succ, List.getElem_cons_zero]
              refine wpAnyH_take (i := 3) (v := (.pointer (some ⟨rb, ro + i * 2, .none⟩))) rfl (by kernel_rfl) (by kernel_rfl) (by kernel_rfl) (fun _ _ _ h => h) (Or.inl ⟨by rfl, fun ww hSw => by (try dsimp only at hSw); go_simp⟩) (by assumption) ?_
              simp only [Act.put, List.setIfInBounds_toArray, List.set_cons_zero, List.set_cons_succ, List.getElem_toArray, List.getElem_cons_succ, List.getElem_cons_zero]
              refine wpAnyH_take (i := 4) (v := (.pointer (some ⟨rb, ro + i * 2 + 1, .none⟩))) rfl (by kernel_rfl) (by kernel_rfl) (by kernel_rfl) (fun _ _ _ h => h) (Or.inl ⟨by rfl, fun ww hSw => by (try dsimp only at hSw); go_simp⟩) (by assumption) ?_
              simp only [Act.put, List.setIfInBounds_toArray, List.set_cons_zero, List.set_cons_succ, List.getElem_toArray, List.getElem_cons_succ, List.getElem_cons_zero]
              refine wpAnyH_take (i := 5) (v := (.slice (some ⟨g, 0, .none⟩) (L i) cg)) rfl (by kernel_rfl) (by kernel_rfl) (by kernel_rfl) (fun _ _ _ h => h) (Or.inl ⟨by rfl, fun ww hSw => by (try dsimp only at hSw); go_simp⟩) (by assumption) ?_
              simp only [Act.put, List.setIfInBounds_toArray, List.set_cons_zero, List.set_cons_succ, List.getElem_toArray, List.getElem_cons_succ, List.getElem_cons_zero]
              refine wpAnyH_take (i := 6) (v := (.pointer (some ⟨W.heap.size, 2, .none⟩))) rfl (by kernel_rfl) (by kernel_rfl) (by kernel_rfl) (fun _ _ _ h => h) (Or.inl ⟨by rfl, fun ww hSw => by (try dsimp only at hSw); go_simp⟩) (by assumption) ?_
              simp only [Act.put, List.setIfInBounds_toArray, List.set_cons_zero, List.set_cons_succ, List.getElem_toArray, List.getElem_cons_succ, List.getElem_cons_zero]
              refine wpAnyH_take (i := 7) (v := (.slice (some ⟨hb, ho, .none⟩) nh ch)) rfl (by kernel_rfl) (by kernel_rfl) (by kernel_rfl) (fun _ _ _ h => h) (Or.inl ⟨by rfl, fun ww hSw => by (try dsimp only at hSw); go_simp⟩) (by assumption) ?_
              simp only [Act.put, List.setIfInBounds_toArray, List.set_cons_zero, List.set_cons_succ, List.getElem_toArray, List.getElem_cons_succ, List.getElem_cons_zero]
              refine wpAnyH_take (i := 8) (v := (.int .i64 i)) rfl (by kernel_rfl) (by kernel_rfl) (by kernel_rfl) (fun _ _ _ h => h) (Or.inl ⟨by rfl, fun ww hSw => by (try dsimp only at hSw); go_simp⟩) (by assumption) ?_
              simp only [Act.put, List.setIfInBounds_toArray, List.set_cons_zero, List.set_cons_succ, List.getElem_toArray, List.getElem_cons_succ, List.getElem_cons_zero]
              refine wpAnyH_take (i := 9) (v := (.pointer (some ⟨hb, ho + i * 2, .none⟩))) rfl (by kernel_rfl) (by kernel_rfl) (by kernel_rfl) (fun _ _ _ h => h) (Or.inl ⟨by rfl, fun ww hSw => by (try dsimp only at hSw); go_simp⟩) (by assumption) ?_
              simp only [Act.put, List.setIfInBounds_toArray, List.set_cons_zero, List.set_cons_succ, List.getElem_toArray, List.getElem_cons_succ, List.getElem_cons_zero]
              refine wpAnyH_take (i := 10) (v := (.pointer (some ⟨hb, ho + i * 2 + 1, .none⟩))) rfl (by kernel_rfl) (by kernel_rfl) (by kernel_rfl) (fun _ _ _ h => h) (Or.inl ⟨by rfl, fun ww hSw => by (try dsimp only at hSw); go_simp⟩) (by assumption) ?_
              simp only [Act.put, List.setIfInBounds_toArray, List.set_cons_zero, List.set_cons_succ, List.getElem_toArray, List.getElem_cons_succ, List.getElem_cons_zero]
              refine wpAnyH_take (i := 11) (v := (.slice (P i) (L i) (C i))) rfl (by kernel_rfl) (by kernel_rfl) (by kernel_rfl) (fun _ _ _ h => h) (Or.inl ⟨by rfl, fun ww hSw => by (try dsimp only at hSw); go_simp⟩) (by assumption) ?_
              simp only [Act.put, List.setIfInBounds_toArray, List.set_cons_zero, List.set_cons_succ, List.getElem_toArray, List.getElem_cons_succ, List.getElem_cons_zero]
              refine wpAnyH_ready (rs := [12]) (by kernel_rfl) (by simp) ?_
              refine AllReadyH.cons rfl (fun K hK => ?_) AllReadyH.nil
              go_simp
              go_at_call 10
              refine c10.mono ?_
              rintro e w1 ⟨rfl, kk, rfl⟩
              have k1 : ((wr.drew.drewN kk).cell? ⟨W.heap.size, 2, .none⟩ = some (.slice (some ⟨hb, ho, .none⟩) nh ch) ∧ (wr.drew.drewN kk).cell? ⟨hb, ho + i * 2 + 1, .none⟩ = some (.slice (P i) (L i) (C i))) ∧ (wr.drew.drewN kk).cell? ⟨W.heap.size + 1, 2, .none⟩ = some (.slice (some ⟨rb, ro, .none⟩) nh hc) ∧ (wr.drew.drewN kk).cell? ⟨rb, ro + i * 2 + 1, .none⟩ = some (.slice (some ⟨g, 0, .none⟩) (L i) cg) := k0
              refine hK.out _ _ k1 (fun hHeld => ?_)
              clear hK K
              try simp only [Act.put, List.setIfInBounds_toArray, List.set_cons_zero, List.set_cons_succ, List.getElem_toArray, List.getElem_cons_succ, List.getElem_cons_zero]
              refine wpAnyH_take (i := 13) (v := (.bool false)) rfl (by kernel_rfl) (by kernel_rfl) (by kernel_rfl) (fun _ _ _ h => h) (Or.inl ⟨by rfl, fun ww hSw => by (try dsimp only at hSw); go_simp⟩) (by assumption) ?_
              simp only [Act.put, List.setIfInBounds_toArray, List.set_cons_zero, List.set_cons_succ, List.getElem_toArray, List.getElem_cons_succ, List.getElem_cons_zero]
              refine wpAnyH_done (by kernel_rfl) ?_ _
              have bd : Below wr.heap.size wr (wr.drew.drewN kk) := ⟨rfl, rfl, rfl, Nat.le_refl _, fun _ _ => rfl⟩
              have HS1 : Hid (In W (wr.drew.drewN kk) N' nf cf nh ch qf (some ⟨hb, ho, .none⟩) F PA L (D2 D i) (some ⟨fg, 0, .none⟩) fc (some ⟨rb, ro, .none⟩) hc gs ∧ Tl Wc.heap.size V2 (wr.drew.drewN kk)) := ⟨HS.out.1.below bd, HS.out.2.below bd⟩
              have HL1 : Hid (Lent (wr.drew.drewN kk) (W.heap.size + 1 + 1) g cg (bl (L i) (D i)) ∧ L i = 4096 ∧ g < Wc.heap.size) := ⟨lent_below HL.out.1 bd, HL.out.2⟩
              clear hHeld c10 k0 r1 r2 r3 bd HS HL k2 HSc
              generalize wr.drew.drewN kk = wd at *
              obtain ⟨⟨r3, r2⟩, k2, r1⟩ := k1
              have q0 := lent_cell HL1.out.1 0 (by have := HL1.out.2.1; omega)
              have q1 : wd.frozen? ⟨g, 0, .none⟩ = false := HL1.out.1.frozenAt 0
              have lp : 0 < L i := by have := HL1.out.2.1; omega
              have dd := HAr.out.db i 0
              have HN : Hid (In W (wd.drew.setCell ⟨g, 0, .none⟩ (.int .u8 (IntKind.u8.wrap (D i 0 + 1)))) N' nf cf nh ch qf (some ⟨hb, ho, .none⟩) F PA L (D2 D (i + 1)) (some ⟨fg, 0, .none⟩) fc (some ⟨rb, ro, .none⟩) hc gs ∧ Tl Wc.heap.size V2 (wd.drew.setCell ⟨g, 0, .none⟩ (.int .u8 (IntKind.u8.wrap (D i 0 + 1))))) := by
                have bd : Below wd.heap.size wd wd.drew := (Below.refl _ _).drew
                have h7 := (HS1.out.1.below bd).bump hgi lp (IntKind.u8.wrap (D i 0 + 1))
                rw [D2_succ] at h7
                exact ⟨h7, (HS1.out.2.below bd).set (a := ⟨g, 0, .none⟩) HL1.out.2.2 _⟩
              have k0 : wd.drew.cell? ⟨W.heap.size + 1, 2, .none⟩ = some (.slice (some ⟨rb, ro, .none⟩) nh hc) ∧ wd.drew.cell? ⟨rb, ro + i * 2 + 1, .none⟩ = some (.slice (some ⟨g, 0, .none⟩) (L i) cg) := ⟨k2, r1⟩
              have k9 : (wd.drew.setCell ⟨g, 0, .none⟩ (.int .u8 (IntKind.u8.wrap (D i 0 + 1)))).cell? ⟨W.heap.size + 1, 2, .none⟩ = some (.slice (some ⟨rb, ro, .none⟩) nh hc) ∧ (wd.drew.setCell ⟨g, 0, .none⟩ (.int .u8 (IntKind.u8.wrap (D i 0 + 1)))).cell? ⟨rb, ro + i * 2 + 1, .none⟩ = some (.slice (some ⟨g, 0, .none⟩) (L i) cg) := by
                have h7 := HN.out.1.c.2.2.1
                rw [hlen] at h7
                refine ⟨h7, ?_⟩
                rw [World.cell?_setCell_other _ _ _ _ (by
                  simp only [ne_eq, Addr.mk.injEq, not_and]
                  intro e
                  obtain ⟨cu, hcu⟩ := HL1.out.1.blk
                  have h8 := HS1.out.1.hr
                  obtain ⟨cu2, hcu2⟩ := own_blk h8 (g := rb) rfl
                  rw [e, hcu2] at hcu
                  cases hcu)]
                exact r1
              clear r2 r3 HS1
              go_upto_region 19 with fail
              refine wp_region_held_drew (S := fun U2 => U2.cell? ⟨W.heap.size + 1, 2, .none⟩ = some (.slice (some ⟨rb, ro, .none⟩) nh hc) ∧ U2.cell? ⟨rb, ro + i * 2 + 1, .none⟩ = some (.slice (some ⟨g, 0, .none⟩) (L i) cg)) (by kernel_rfl) k0 (fun hHeld => ?_)
              refine wpAnyH_take (i := 0) (v := (.pointer (some ⟨W.heap.size + 1, 2, .none⟩))) rfl (by kernel_rfl) (by kernel_rfl) (by kernel_rfl) (fun _ _ _ h => h) (Or.inl ⟨by rfl, fun ww hSw => by (try dsimp only at hSw); go_simp⟩) (by assumption) ?_
              simp only [Act.put, List.setIfInBounds_toArray, List.set_cons_zero, List.set_cons_succ, List.getElem_toArray, List.getElem_cons_succ, List.getElem_cons_zero]
              refine wpAnyH_take (i := 1) (v := (.slice (some ⟨rb, ro, .none⟩) nh hc)) rfl (by kernel_rfl) (by kernel_rfl) (by kernel_rfl) (fun _ _ _ h => h) (Or.inl ⟨by rfl, fun ww hSw => by (try dsimp only at hSw); go_simp⟩) (by assumption) ?_
              simp only [Act.put, List.setIfInBounds_toArray, List.set_cons_zero, List.set_cons_succ, List.getElem_toArray, List.getElem_cons_succ, List.getElem_cons_zero]
              refine wpAnyH_take (i := 2) (v := (.int .i64 i)) rfl (by kernel_rfl) (by kernel_rfl) (by kernel_rfl) (fun _ _ _ h => h) (Or.inl ⟨by rfl, fun ww hSw => by (try dsimp only at hSw); go_simp⟩) (by assumption) ?_
              simp only [Act.put, List.setIfInBounds_toArray, List.set_cons_zero, List.set_cons_succ, List.getElem_toArray, List.getElem_cons_succ, List.getElem_cons_zero]
              refine wpAnyH_take (i := 3) (v := (.pointer (some ⟨rb, ro + i * 2, .none⟩))) rfl (by kernel_rfl) (by kernel_rfl) (by kernel_rfl) (fun _ _ _ h => h) (Or.inl ⟨by rfl, fun ww hSw => by (try dsimp only at hSw); go_simp⟩) (by assumption) ?_
              simp only [Act.put, List.setIfInBounds_toArray, List.set_cons_zero, List.set_cons_succ, List.getElem_toArray, List.getElem_cons_succ, List.getElem_cons_zero]
              refine wpAnyH_take (i := 4) (v := (.pointer (some ⟨rb, ro + i * 2 + 1, .none⟩))) rfl (by kernel_rfl) (by kernel_rfl) (by kernel_rfl) (fun _ _ _ h => h) (Or.inl ⟨by rfl, fun ww hSw => by (try dsimp only at hSw); go_simp⟩) (by assumption) ?_
              simp only [Act.put, List.setIfInBounds_toArray, List.set_cons_zero, List.set_cons_succ, List.getElem_toArray, List.getElem_cons_succ, List.getElem_cons_zero]
              refine wpAnyH_take (i := 5) (v := (.slice (some ⟨g, 0, .none⟩) (L i) cg)) rfl (by kernel_rfl) (by kernel_rfl) (by kernel_rfl) (fun _ _ _ h => h) (Or.inl ⟨by rfl, fun ww hSw => by (try dsimp only at hSw); go_simp⟩) (by assumption) ?_
              simp only [Act.put, List.setIfInBounds_toArray, List.set_cons_zero, List.set_cons_succ, List.getElem_toArray, List.getElem_cons_succ, List.getElem_cons_zero]
              refine wpAnyH_take (i := 6) (v := (.pointer (some ⟨W.heap.size + 1, 2, .none⟩))) rfl (by kernel_rfl) (by kernel_rfl) (by kernel_rfl) (fun _ _ _ h => h) (Or.inl ⟨by rfl, fun ww hSw => by (try dsimp only at hSw); go_simp⟩) (by assumption) ?_
              simp only [Act.put, List.setIfInBounds_toArray, List.set_cons_zero, List.set_cons_succ, List.getElem_toArray, List.getElem_cons_succ, List.getElem_cons_zero]
              refine wpAnyH_take (i := 7) (v := (.slice (some ⟨rb, ro, .none⟩) nh hc)) rfl (by kernel_rfl) (by kernel_rfl) (by kernel_rfl) (fun _ _ _ h => h) (Or.inl ⟨by rfl, fun ww hSw => by (try dsimp only at hSw); go_simp⟩) (by assumption) ?_
              simp only [Act.put, List.setIfInBounds_toArray, List.set_cons_zero, List.set_cons_succ, List.getElem_toArray, List.getElem_cons_succ, List.getElem_cons_zero]
              refine wpAnyH_take (i := 8) (v := (.int .i64 i)) rfl (by kernel_rfl) (by kernel_rfl) (by kernel_rfl) (fun _ _ _ h => h) (Or.inl ⟨by rfl, fun ww hSw => by (try dsimp only at hSw); go_simp⟩) (by assumption) ?_
              simp only [Act.put, List.setIfInBounds_toArray, List.set_cons_zero, List.set_cons_succ, List.getElem_toArray, List.getElem_cons_succ, List.getElem_cons_zero]
              refine wpAnyH_take (i := 9) (v := (.pointer (some ⟨rb, ro + i * 2, .none⟩))) rfl (by kernel_rfl) (by kernel_rfl) (by kernel_rfl) (fun _ _ _ h => h) (Or.inl ⟨by rfl, fun ww hSw => by (try dsimp only at hSw); go_simp⟩) (by assumption) ?_
              simp only [Act.put, List.setIfInBounds_toArray, List.set_cons_zero, List.set_cons_succ, List.getElem_toArray, List.getElem_cons_succ, List.getElem_cons_zero]
              refine wpAnyH_take (i := 10) (v := (.pointer (some ⟨rb, ro + i * 2 + 1, .none⟩))) rfl (by kernel_rfl) (by kernel_rfl) (by kernel_rfl) (fun _ _ _ h => h) (Or.inl ⟨by rfl, fun ww hSw => by (try dsimp only at hSw); go_simp⟩) (by assumption) ?_
              simp only [Act.put, List.setIfInBounds_toArray, List.set_cons_zero, List.set_cons_succ, List.getElem_toArray, List.getElem_cons_succ, List.getElem_cons_zero]
              refine wpAnyH_take (i := 11) (v := (.slice (some ⟨g, 0, .none⟩) (L i) cg)) rfl (by kernel_rfl) (by kernel_rfl) (by kernel_rfl) (fun _ _ _ h => h) (Or.inl ⟨by rfl, fun ww hSw => by (try dsimp only at hSw); go_simp⟩) (by assumption) ?_
              simp only [Act.put, List.setIfInBounds_toArray, List.set_cons_zero, List.set_cons_succ, List.getElem_toArray, List.getElem_cons_succ, List.getElem_cons_zero]
              refine wpAnyH_take (i := 12) (v := (.pointer (some ⟨g, 0, .none⟩))) rfl (by kernel_rfl) (by kernel_rfl) (by kernel_rfl) (fun _ _ _ h => h) (Or.inl ⟨by rfl, fun ww hSw => by (try dsimp only at hSw); go_simp⟩) (by assumption) ?_
              simp only [Act.put, List.setIfInBounds_toArray, List.set_cons_zero, List.set_cons_succ, List.getElem_toArray, List.getElem_cons_succ, List.getElem_cons_zero]
              refine wpAnyH_ready (rs := [13]) (by kernel_rfl) (by simp) ?_
              refine AllReadyH.cons rfl (fun K hK => ?_) AllReadyH.nil
              go_simp
              refine hK.out _ _ k0 (fun hHeld => ?_)
              clear hK K
              try simp only [Act.put, List.setIfInBounds_toArray, List.set_cons_zero, List.set_cons_succ, List.getElem_toArray, List.getElem_cons_succ, List.getElem_cons_zero]
              refine wpAnyH_take (i := 14) (v := (.int .u8 (IntKind.u8.wrap (D i 0 + 1)))) rfl (by kernel_rfl) (by kernel_rfl) (by kernel_rfl) (fun _ _ _ h => h) (Or.inl ⟨by rfl, fun ww hSw => by (try dsimp only at hSw); go_simp⟩) (by assumption) ?_
              simp only [Act.put, List.setIfInBounds_toArray, List.set_cons_zero, List.set_cons_succ, List.getElem_toArray, List.getElem_cons_succ, List.getElem_cons_zero]
              refine wpAnyH_take (i := 15) (v := (.pointer (some ⟨g, 0, .none⟩))) rfl (by kernel_rfl) (by kernel_rfl) (by kernel_rfl) (fun _ _ _ h => h) (Or.inl ⟨by rfl, fun ww hSw => by (try dsimp only at hSw); go_simp⟩) (by assumption) ?_
              simp only [Act.put, List.setIfInBounds_toArray, List.set_cons_zero, List.set_cons_succ, List.getElem_toArray, List.getElem_cons_succ, List.getElem_cons_zero]
              refine wpAnyH_ready (rs := [16]) (by kernel_rfl) (by simp) ?_
              refine AllReadyH.cons rfl (fun K hK => ?_) AllReadyH.nil
              go_simp
              refine hK.out _ _ k9 (fun hHeld => ?_)
              clear hK K
              try simp only [Act.put, List.setIfInBounds_toArray, List.set_cons_zero, List.set_cons_succ, List.getElem_toArray, List.getElem_cons_succ, List.getElem_cons_zero]
              refine wpAnyH_done (by kernel_rfl) ?_ _
              clear hHeld k0 k9 k2 r1 q0 q1
              rw [wrap8e] at HN
              go_wp2_with fail
              exact ⟨⟨i + 1, by omega, by simp, HN⟩, by simp [intOf]; omega⟩
            · have he : i = nh := by omega
              have hn : ¬ ((i : Int) < nh) := by omega
              subst he
              go_wp2_with fail
              go_meet
              case rel => exact HS
        case rest =>
          clear HI5
          have HJ : Hid (In W wc N' nf cf nh ch qf qh F PA L (D2 D nh) (some ⟨fg, 0, .none⟩) fc hq hc gs ∧ Tl Wc.heap.size V2 wc) := hcut
          clear hcut
          have HCc2 : Hid (C3 wc (W.heap.size + 1) (.int .i64 N') (.slice (some ⟨fg, 0, .none⟩) nf fc) (.slice hq nh hc)) := by have := HJ.out.1.c; rw [hlen] at this; exact this
          obtain ⟨a0, a1, a2, _, _, _⟩ := HCc2.out
          go_wp2_with fail
          refine (from_in HJ.out.1 hlen HAr.out.fb HAr.out.pb (D2_b HAr.out.db nh) HAr.out.lm sm).mono ?_
          rintro e X1 ⟨a', r', hv', hcase⟩
          clear a0 a1 a2
          obtain ⟨rfl, rfl⟩ := verd_one HV.out.1 hv'
          obtain ⟨_, _, N2, hN', _, _, _, p', b', m', B', _, _, _, rfl, hram, hB, hb1⟩ := hcase.resolve_left (fun h => h.1 rfl)
          have hN'' : N2 = N' := by omega
          subst hN''
          clear hN' hcase hv'
          have HJ1 : Hid (In W X1 N2 nf cf nh ch qf qh F PA L (D2 D nh) (some ⟨fg, 0, .none⟩) fc hq hc gs ∧ Tl Wc.heap.size V2 X1) := ⟨HJ.out.1.below hb1, HJ.out.2.below hb1⟩
          have HR1 : Hid (Ram X1 p' b' m' N2 B' (Lf F nf) ∧ ∀ i, i < nh → ∀ j, j < 4096 → B' (fi (PA i) * 4096 + j) = D2 D nh i j) := ⟨hram, hB⟩
          clear hram hB hb1
          go_upto_region 21 with fail
          have HJ2 : Hid (In W X1.drew N2 nf cf nh ch qf qh F PA L (D2 D nh) (some ⟨fg, 0, .none⟩) fc hq hc gs ∧ Tl Wc.heap.size V2 X1.drew) := ⟨HJ1.out.1.below ((Below.refl _ _).drew), HJ1.out.2.below ((Below.refl _ _).drew)⟩
          have HR2 : Hid (Ram X1.drew p' b' m' N2 B' (Lf F nf)) := HR1.out.1.below ((Below.refl _ _).drew)
          have k0 : (X1.drew.cell? ⟨W.heap.size + 1, 0, .none⟩ = some (.int .i64 N2) ∧ X1.drew.cell? ⟨W.heap.size + 1, 1, .none⟩ = some (.slice (some ⟨fg, 0, .none⟩) nf fc)) ∧ X1.drew.cell? ⟨W.heap.size + 1, 2, .none⟩ = some (.slice hq nh hc) := (by have h7 := HJ2.out.1.c; rw [hlen] at h7; exact ⟨⟨h7.1, h7.2.1⟩, h7.2.2.1⟩)
          clear HJ HJ1
          refine wp_region_held_drew (S := fun U2 => (U2.cell? ⟨W.heap.size + 1, 0, .none⟩ = some (.int .i64 N2) ∧ U2.cell? ⟨W.heap.size + 1, 1, .none⟩ = some (.slice (some ⟨fg, 0, .none⟩) nf fc)) ∧ U2.cell? ⟨W.heap.size + 1, 2, .none⟩ = some (.slice hq nh hc)) (by kernel_rfl) k0 (fun hHeld => ?_)
          refine wpAnyH_take (i := 0) (v := .nilIface) rfl (by kernel_rfl) (by kernel_rfl) (by kernel_rfl) (fun _ _ _ h => h) (Or.inl ⟨by rfl, fun ww hSw => by (try dsimp only at hSw); go_simp⟩) (by assumption) ?_
          simp only [Act.put, List.setIfInBounds_toArray, List.set_cons_zero, List.set_cons_succ, List.getElem_toArray, List.getElem_cons_succ, List.getElem_cons_zero]
          refine wpAnyH_take (i := 1) (v := (.bool false)) rfl (by kernel_rfl) (by kernel_rfl) (by kernel_rfl) (fun _ _ _ h => h) (Or.inl ⟨by rfl, fun ww hSw => by (try dsimp only at hSw); go_simp⟩) (by assumption) ?_
          simp only [Act.put, List.setIfInBounds_toArray, List.set_cons_zero, List.set_cons_succ, List.getElem_toArray, List.getElem_cons_succ, List.getElem_cons_zero]
          refine wpAnyH_take (i := 2) (v := (.bool false)) rfl (by kernel_rfl) (by kernel_rfl) (by kernel_rfl) (fun _ _ _ h => h) (Or.inl ⟨by rfl, fun ww hSw => by (try dsimp only at hSw); go_simp⟩) (by assumption) ?_
          simp only [Act.put, List.setIfInBounds_toArray, List.set_cons_zero, List.set_cons_succ, List.getElem_toArray, List.getElem_cons_succ, List.getElem_cons_zero]
          refine wpAnyH_take (i := 3) (v := (.pointer (some ⟨p', 0, .none⟩))) rfl (by kernel_rfl) (by kernel_rfl) (by kernel_rfl) (fun _ _ _ h => h) (Or.inl ⟨by rfl, fun ww hSw => by (try dsimp only at hSw); go_simp⟩) (by assumption) ?_
          simp only [Act.put, List.setIfInBounds_toArray, List.set_cons_zero, List.set_cons_succ, List.getElem_toArray, List.getElem_cons_succ, List.getElem_cons_zero]
          refine wpAnyH_take (i := 4) (v := (.bool false)) rfl (by kernel_rfl) (by kernel_rfl) (by kernel_rfl) (fun _ _ _ h => h) (Or.inl ⟨by rfl, fun ww hSw => by (try dsimp only at hSw); go_simp⟩) (by assumption) ?_
          simp only [Act.put, List.setIfInBounds_toArray, List.set_cons_zero, List.set_cons_succ, List.getElem_toArray, List.getElem_cons_succ, List.getElem_cons_zero]
          refine wpAnyH_take (i := 5) (v := (.bool false)) rfl (by kernel_rfl) (by kernel_rfl) (by kernel_rfl) (fun _ _ _ h => h) (Or.inl ⟨by rfl, fun ww hSw => by (try dsimp only at hSw); go_simp⟩) (by assumption) ?_
          simp only [Act.put, List.setIfInBounds_toArray, List.set_cons_zero, List.set_cons_succ, List.getElem_toArray, List.getElem_cons_succ, List.getElem_cons_zero]
          refine wpAnyH_take (i := 6) (v := (.bool false)) rfl (by kernel_rfl) (by kernel_rfl) (by kernel_rfl) (fun _ _ _ h => h) (Or.inl ⟨by rfl, fun ww hSw => by (try dsimp only at hSw); go_simp⟩) (by assumption) ?_
          simp only [Act.put, List.setIfInBounds_toArray, List.set_cons_zero, List.set_cons_succ, List.getElem_toArray, List.getElem_cons_succ, List.getElem_cons_zero]
          refine wpAnyH_take (i := 7) (v := (.pointer (some ⟨p', 0, .none⟩))) rfl (by kernel_rfl) (by kernel_rfl) (by kernel_rfl) (fun _ _ _ h => h) (Or.inl ⟨by rfl, fun ww hSw => by (try dsimp only at hSw); go_simp⟩) (by assumption) ?_
          simp only [Act.put, List.setIfInBounds_toArray, List.set_cons_zero, List.set_cons_succ, List.getElem_toArray, List.getElem_cons_succ, List.getElem_cons_zero]
          refine wpAnyH_take (i := 9) (v := (.agg #[.int .i64 N2, .slice (some ⟨fg, 0, .none⟩) nf fc, .slice hq nh hc])) rfl (by kernel_rfl) (by kernel_rfl) (by kernel_rfl) (fun _ _ _ h => h) (Or.inl ⟨by rfl, fun ww hSw => by (try dsimp only at hSw); go_simp⟩) (by assumption) ?_
          simp only [Act.put, List.setIfInBounds_toArray, List.set_cons_zero, List.set_cons_succ, List.getElem_toArray, List.getElem_cons_succ, List.getElem_cons_zero]
          refine wpAnyH_ready (rs := [8]) (by kernel_rfl) (by simp) ?_
          refine AllReadyH.cons rfl (fun K hK => ?_) AllReadyH.nil
          go_simp
          go_at_call 11
          refine (image_any HR2.out).mono ?_
          intro e X2 him
          obtain ⟨iqf, icf, iqh, ich, rfl, hs1, hs2, hb2⟩ := see_imgP him HV.out.2 HR1.out.2
          have HJ3 : Hid (In W X2 N2 nf cf nh ch qf qh F PA L (D2 D nh) (some ⟨fg, 0, .none⟩) fc hq hc gs ∧ Tl Wc.heap.size V2 X2) := ⟨HJ2.out.1.below hb2, HJ2.out.2.below hb2⟩
          have HSi : Hid (See X2 .u64 iqf nf F ∧ SeeH X2 iqh nh PA (fun _ => 4096) (D2 D nh)) := ⟨hs1, hs2⟩
          have k1 : (X2.cell? ⟨W.heap.size + 1, 0, .none⟩ = some (.int .i64 N2) ∧ X2.cell? ⟨W.heap.size + 1, 1, .none⟩ = some (.slice (some ⟨fg, 0, .none⟩) nf fc)) ∧ X2.cell? ⟨W.heap.size + 1, 2, .none⟩ = some (.slice hq nh hc) := (by have h7 := HJ3.out.1.c; rw [hlen] at h7; exact ⟨⟨h7.1, h7.2.1⟩, h7.2.2.1⟩)
          clear him hs1 hs2 hb2 HJ2 HR2
          refine hK.out _ _ k1 (fun hHeld => ?_)
          clear hK K
          try simp only [Act.put, List.setIfInBounds_toArray, List.set_cons_zero, List.set_cons_succ, List.getElem_toArray, List.getElem_cons_succ, List.getElem_cons_zero]
          refine wpAnyH_ready (rs := [10]) (by kernel_rfl) (by simp) ?_
          refine AllReadyH.cons rfl (fun K hK => ?_) AllReadyH.nil
          go_simp
          go_at_call 9
          refine (images_two sm HSi.out (HJ3.out.1.shows hlen HV.out.2)).mono ?_
          rintro e X3 ⟨rfl, hb3⟩
          have HJ4 : Hid (In W X3 N2 nf cf nh ch qf qh F PA L (D2 D nh) (some ⟨fg, 0, .none⟩) fc hq hc gs ∧ Tl Wc.heap.size V2 X3) := ⟨HJ3.out.1.below hb3, HJ3.out.2.below hb3⟩
          have k2 : (X3.cell? ⟨W.heap.size + 1, 0, .none⟩ = some (.int .i64 N2) ∧ X3.cell? ⟨W.heap.size + 1, 1, .none⟩ = some (.slice (some ⟨fg, 0, .none⟩) nf fc)) ∧ X3.cell? ⟨W.heap.size + 1, 2, .none⟩ = some (.slice hq nh hc) := (by have h7 := HJ4.out.1.c; rw [hlen] at h7; exact ⟨⟨h7.1, h7.2.1⟩, h7.2.2.1⟩)
          clear hb3 HJ3 HSi
          refine hK.out _ _ k2 (fun hHeld => ?_)
          clear hK K
          try simp only [Act.put, List.setIfInBounds_toArray, List.set_cons_zero, List.set_cons_succ, List.getElem_toArray, List.getElem_cons_succ, List.getElem_cons_zero]
          refine wpAnyH_take (i := 11) (v := (.bool false)) rfl (by kernel_rfl) (by kernel_rfl) (by kernel_rfl) (fun _ _ _ h => h) (Or.inl ⟨by rfl, fun ww hSw => by (try dsimp only at hSw); go_simp⟩) (by assumption) ?_
          simp only [Act.put, List.setIfInBounds_toArray, List.set_cons_zero, List.set_cons_succ, List.getElem_toArray, List.getElem_cons_succ, List.getElem_cons_zero]
          refine wpAnyH_take (i := 12) (v := (.bool false)) rfl (by kernel_rfl) (by kernel_rfl) (by kernel_rfl) (fun _ _ _ h => h) (Or.inl ⟨by rfl, fun ww hSw => by (try dsimp only at hSw); go_simp⟩) (by assumption) ?_
          simp only [Act.put, List.setIfInBounds_toArray, List.set_cons_zero, List.set_cons_succ, List.getElem_toArray, List.getElem_cons_succ, List.getElem_cons_zero]
          refine wpAnyH_done (by kernel_rfl) ?_ _
          clear hHeld k0 k1 k2 HR1
          go_upto_block 4 with fail
          go_cut [12] (fun a wx => Hid (In W wx N2 nf cf nh ch qf qh (F3 F nf) PA L (D2 D nh) (some ⟨fg, 0, .none⟩) fc hq hc gs ∧ Tl Wc.heap.size V2 wx))
          case first =>
            go_wp2_with fail
            go_loopw [12] (fun a wr => ∃ i : Nat, i ≤ nf ∧ a = .int .i64 i ∧ Hid (In W wr N2 nf cf nh ch qf qh (F3 F i) PA L (D2 D nh) (some ⟨fg, 0, .none⟩) fc hq hc gs ∧ Tl Wc.heap.size V2 wr)) (fun a _ => (nf - intOf a).toNat)
            case atStart => exact ⟨0, by omega, rfl, by rw [F3_zero]; exact HJ4⟩
            case round =>
              obtain ⟨i, hi, rfl, HS⟩ := hrel
              clear HJ4
              have k1 := HS.out.1.c.2.1
              by_cases hlt : i < nf
              · have g0 : (i : Int) < nf := by omega
                obtain ⟨fg', hfe, fcell⟩ := own_cell HS.out.1.fr (show ((List.range nf).map fun i_1 => Value.int .u64 (F3 F i i_1))[i]? = some (.int .u64 (F3 F i i)) by rw [List.getElem?_map, List.getElem?_range hlt]; rfl) (by omega) (by omega)
                simp only [Option.some.injEq, Addr.mk.injEq, and_true] at hfe
                subst hfe
                have ffz : wr.frozen? ⟨fg, i, .none⟩ = false := HS.out.1.fr.frozenAt i
                have HN : Hid (In W (wr.setCell ⟨fg, i, .none⟩ (.int .u64 7)) N2 nf cf nh ch qf qh (F3 F (i + 1)) PA L (D2 D nh) (some ⟨fg, 0, .none⟩) fc hq hc gs ∧ Tl Wc.heap.size V2 (wr.setCell ⟨fg, i, .none⟩ (.int .u64 7))) := by
                  have h7 := HS.out.1.free hlt 7
                  rw [F3_succ] at h7
                  exact ⟨h7, HS.out.2.set (a := ⟨fg, i, .none⟩) (HI.out.fr.lt fg rfl).2 _⟩
                clear HS
                go_wp2_with fail
                exact ⟨⟨i + 1, by omega, by simp, HN⟩, by simp [intOf]; omega⟩
              · have he : i = nf := by omega
                have hn : ¬ ((i : Int) < nf) := by omega
                subst he
                go_wp2_with fail
                go_meet
                case rel => exact HS
          case rest =>
            clear HJ4
            have HM : Hid (In W wc N2 nf cf nh ch qf qh (F3 F nf) PA L (D2 D nh) (some ⟨fg, 0, .none⟩) fc hq hc gs ∧ Tl Wc.heap.size V2 wc) := hcut
            clear hcut
            have HBB : Hid (∀ i, i < nh → ∀ j, j < 4096 → B (fi (PA i) * 4096 + j) = D i j) := HR.out.2.2.2.2.1
            have HC3c : Hid (C3 wc (W.heap.size + 1) (.int .i64 N2) (.slice (some ⟨fg, 0, .none⟩) nf fc) (.slice hq nh hc)) := by have := HM.out.1.c; rw [hlen] at this; exact this
            obtain ⟨a0, a1, a2, _, _, _⟩ := HC3c.out
            go_wp2_with fail
            refine (from_in HM.out.1 hlen (F3_b HAr.out.fb nf) HAr.out.pb (D2_b HAr.out.db nh) HAr.out.lm sm).mono ?_
            rintro e Z1 ⟨a, r, hv, hcase⟩
            clear a0 a1 a2
            rcases hcase with ⟨hr, v, rfl, hfi, hb1⟩ | ⟨rfl, rfl, N3, hN3, _, _, _, p9, b9, m9, B9, _, _, _, rfl, _, _, hb1⟩
            · have HM1 : Hid (In W Z1 N2 nf cf nh ch qf qh (F3 F nf) PA L (D2 D nh) (some ⟨fg, 0, .none⟩) fc hq hc gs ∧ Tl Wc.heap.size V2 Z1) := ⟨HM.out.1.below hb1, HM.out.2.below hb1⟩
              have HF : Hid (FaultIn Z1 0 v a r ∧ Verd (F3 F nf) nf PA L nh N2 a r) := ⟨faultIn_mono hfi (Nat.zero_le _), hv⟩
              have HC3d : Hid (C3 Z1 (W.heap.size + 1) (.int .i64 N2) (.slice (some ⟨fg, 0, .none⟩) nf fc) (.slice hq nh hc)) := by have := HM1.out.1.c; rw [hlen] at this; exact this
              obtain ⟨a0, a1, a2, _, _, _⟩ := HC3d.out
              clear hv hfi hb1 HM
              go_wp2_with fail
              refine (ref_in HM1.out.1 hlen (F3_b HAr.out.fb nf) HAr.out.pb HAr.out.lm sm).mono ?_
              rintro e Y0 ⟨⟨a', r', hv', hcase⟩, hb2⟩
              obtain ⟨rfl, rfl⟩ := verd_one HF.out.2 hv'
              obtain rfl := (hcase.resolve_right (fun h => hr h.1)).2
              have hrt : (r != 0) = true := by simpa using hr
              have hrf : (r == 0) = false := by simpa using hr
              have HCY : Hid (Cx W Wc V2 N2 nf cf nh ch qf qh Y0) := ⟨HM1.out.1.be.trans (hb2.mono HM1.out.1.be.size), HM1.out.1.p.below hb2, HM1.out.2.below hb2⟩
              have HEY : Hid (ErrR Y0 v a r) := .inl ⟨hr, HF.out.1.below hb2⟩
              clear a0 a1 a2 hv' hcase hb2 HM1 HF
              have HC0 : Hid (Cx W Wc V2 N2 nf cf nh ch qf qh Y0.drew) := HCY.out.below ((Below.refl _ _).drew)
              have HE0 : Hid (ErrR Y0.drew v a r) := HEY.out.below ((Below.refl _ _).drew)
              have k0 : (Y0.drew.cell? ⟨W.heap.size, 0, .none⟩ = some (.int .i64 N2) ∧ Y0.drew.cell? ⟨W.heap.size, 1, .none⟩ = some (.slice qf nf cf)) ∧ Y0.drew.cell? ⟨W.heap.size, 2, .none⟩ = some (.slice qh nh ch) := ⟨⟨HC0.out.2.1.1, HC0.out.2.1.2.1⟩, HC0.out.2.1.2.2.1⟩
              clear HCY HEY
              go_upto_region 29 with fail
              refine wp_region_held_drew (S := fun U2 => (U2.cell? ⟨W.heap.size, 0, .none⟩ = some (.int .i64 N2) ∧ U2.cell? ⟨W.heap.size, 1, .none⟩ = some (.slice qf nf cf)) ∧ U2.cell? ⟨W.heap.size, 2, .none⟩ = some (.slice qh nh ch)) (by kernel_rfl) k0 (fun hHeld => ?_)
              refine wpAnyH_take (i := 0) (v := (.pointer none)) rfl (by kernel_rfl) (by kernel_rfl) (by kernel_rfl) (fun _ _ _ h => h) (Or.inl ⟨by rfl, fun ww hSw => by (try dsimp only at hSw); go_simp⟩) (by assumption) ?_
              simp only [Act.put, List.setIfInBounds_toArray, List.set_cons_zero, List.set_cons_succ, List.getElem_toArray, List.getElem_cons_succ, List.getElem_cons_zero]
              refine wpAnyH_take (i := 1) (v := (.bool true)) rfl (by kernel_rfl) (by kernel_rfl) (by kernel_rfl) (fun _ _ _ h => h) (Or.inl ⟨by rfl, fun ww hSw => by (try dsimp only at hSw); go_simp⟩) (by assumption) ?_
              simp only [Act.put, List.setIfInBounds_toArray, List.set_cons_zero, List.set_cons_succ, List.getElem_toArray, List.getElem_cons_succ, List.getElem_cons_zero]
              refine wpAnyH_take (i := 2) (v := (.int .i64 r)) rfl (by kernel_rfl) (by kernel_rfl) (by kernel_rfl) (fun _ _ _ h => h) (Or.inl ⟨by rfl, fun ww hSw => by (try dsimp only at hSw); go_simp⟩) (by assumption) ?_
              simp only [Act.put, List.setIfInBounds_toArray, List.set_cons_zero, List.set_cons_succ, List.getElem_toArray, List.getElem_cons_succ, List.getElem_cons_zero]
              refine wpAnyH_take (i := 3) (v := (.bool true)) rfl (by kernel_rfl) (by kernel_rfl) (by kernel_rfl) (fun _ _ _ h => h) (Or.inl ⟨by rfl, fun ww hSw => by (try dsimp only at hSw); go_simp⟩) (by assumption) ?_
              simp only [Act.put, List.setIfInBounds_toArray, List.set_cons_zero, List.set_cons_succ, List.getElem_toArray, List.getElem_cons_succ, List.getElem_cons_zero]
              refine wpAnyH_take (i := 4) (v := (.bool true)) rfl (by kernel_rfl) (by kernel_rfl) (by kernel_rfl) (fun _ _ _ h => h) (Or.inl ⟨by rfl, fun ww hSw => by (try dsimp only at hSw); go_simp⟩) (by assumption) ?_
              simp only [Act.put, List.setIfInBounds_toArray, List.set_cons_zero, List.set_cons_succ, List.getElem_toArray, List.getElem_cons_succ, List.getElem_cons_zero]
              refine wpAnyH_take (i := 5) (v := (.bool true)) rfl (by kernel_rfl) (by kernel_rfl) (by kernel_rfl) (fun _ _ _ h => h) (Or.inl ⟨by rfl, fun ww hSw => by (try dsimp only at hSw); go_simp⟩) (by assumption) ?_
              simp only [Act.put, List.setIfInBounds_toArray, List.set_cons_zero, List.set_cons_succ, List.getElem_toArray, List.getElem_cons_succ, List.getElem_cons_zero]
              refine wpAnyH_take (i := 6) (v := v) rfl (by kernel_rfl) (by kernel_rfl) (by kernel_rfl) (fun _ _ _ h => h) (Or.inl ⟨by rfl, fun ww hSw => by (try dsimp only at hSw); go_simp⟩) (by assumption) ?_
              simp only [Act.put, List.setIfInBounds_toArray, List.set_cons_zero, List.set_cons_succ, List.getElem_toArray, List.getElem_cons_succ, List.getElem_cons_zero]
              refine wpAnyH_take (i := 7) (v := (.int .i64 a)) rfl (by kernel_rfl) (by kernel_rfl) (by kernel_rfl) (fun _ _ _ h => h) (Or.inl ⟨by rfl, fun ww hSw => by (try dsimp only at hSw); go_simp⟩) (by assumption) ?_
              simp only [Act.put, List.setIfInBounds_toArray, List.set_cons_zero, List.set_cons_succ, List.getElem_toArray, List.getElem_cons_succ, List.getElem_cons_zero]
              refine wpAnyH_take (i := 8) (v := (.int .i64 r)) rfl (by kernel_rfl) (by kernel_rfl) (by kernel_rfl) (fun _ _ _ h => h) (Or.inl ⟨by rfl, fun ww hSw => by (try dsimp only at hSw); go_simp⟩) (by assumption) ?_
              simp only [Act.put, List.setIfInBounds_toArray, List.set_cons_zero, List.set_cons_succ, List.getElem_toArray, List.getElem_cons_succ, List.getElem_cons_zero]
              refine wpAnyH_ready (rs := [9]) (by kernel_rfl) (by simp) ?_
              refine AllReadyH.cons rfl (fun K hK => ?_) AllReadyH.nil
              go_simp
              go_at_call 8
              refine (lfaultR_any a r _).mono ?_
              rintro e Y1 ⟨⟨g, rfl, hg⟩, hb⟩
              have HC1 : Hid (Cx W Wc V2 N2 nf cf nh ch qf qh Y1) := HC0.out.below hb
              have k1 : (Y1.cell? ⟨W.heap.size, 0, .none⟩ = some (.int .i64 N2) ∧ Y1.cell? ⟨W.heap.size, 1, .none⟩ = some (.slice qf nf cf)) ∧ Y1.cell? ⟨W.heap.size, 2, .none⟩ = some (.slice qh nh ch) := ⟨⟨HC1.out.2.1.1, HC1.out.2.1.2.1⟩, HC1.out.2.1.2.2.1⟩
              have HE1 : Hid (ErrR Y1 v a r ∧ RefR Y1 g a r) := ⟨HE0.out.below hb, hg⟩
              clear hb hg HE0 HC0
              refine hK.out _ _ k1 (fun hHeld => ?_)
              clear hK K
              try simp only [Act.put, List.setIfInBounds_toArray, List.set_cons_zero, List.set_cons_succ, List.getElem_toArray, List.getElem_cons_succ, List.getElem_cons_zero]
              refine wpAnyH_ready (rs := [10]) (by kernel_rfl) (by simp) ?_
              refine AllReadyH.cons rfl (fun K hK => ?_) AllReadyH.nil
              go_simp
              go_at_call 7
              refine (isR_any v g a r _ HE1.out.1 HE1.out.2).mono ?_
              rintro e Y2 ⟨rfl, hb⟩
              have HC2 : Hid (Cx W Wc V2 N2 nf cf nh ch qf qh Y2) := HC1.out.below hb
              have k2 : (Y2.cell? ⟨W.heap.size, 0, .none⟩ = some (.int .i64 N2) ∧ Y2.cell? ⟨W.heap.size, 1, .none⟩ = some (.slice qf nf cf)) ∧ Y2.cell? ⟨W.heap.size, 2, .none⟩ = some (.slice qh nh ch) := ⟨⟨HC2.out.2.1.1, HC2.out.2.1.2.1⟩, HC2.out.2.1.2.2.1⟩
              clear hb HE1 HC1 k1
              refine hK.out _ _ k2 (fun hHeld => ?_)
              clear hK K
              try simp only [Act.put, List.setIfInBounds_toArray, List.set_cons_zero, List.set_cons_succ, List.getElem_toArray, List.getElem_cons_succ, List.getElem_cons_zero]
              refine wpAnyH_take (i := 11) (v := (.bool true)) rfl (by kernel_rfl) (by kernel_rfl) (by kernel_rfl) (fun _ _ _ h => h) (Or.inl ⟨by rfl, fun ww hSw => by (try dsimp only at hSw); go_simp⟩) (by assumption) ?_
              simp only [Act.put, List.setIfInBounds_toArray, List.set_cons_zero, List.set_cons_succ, List.getElem_toArray, List.getElem_cons_succ, List.getElem_cons_zero]
              refine wpAnyH_take (i := 12) (v := (.bool true)) rfl (by kernel_rfl) (by kernel_rfl) (by kernel_rfl) (fun _ _ _ h => h) (Or.inl ⟨by rfl, fun ww hSw => by (try dsimp only at hSw); go_simp⟩) (by assumption) ?_
              simp only [Act.put, List.setIfInBounds_toArray, List.set_cons_zero, List.set_cons_succ, List.getElem_toArray, List.getElem_cons_succ, List.getElem_cons_zero]
              refine wpAnyH_take (i := 13) (v := (.pointer (some ⟨p, 0, .none⟩))) rfl (by kernel_rfl) (by kernel_rfl) (by kernel_rfl) (fun _ _ _ h => h) (Or.inl ⟨by rfl, fun ww hSw => by (try dsimp only at hSw); go_simp⟩) (by assumption) ?_
              simp only [Act.put, List.setIfInBounds_toArray, List.set_cons_zero, List.set_cons_succ, List.getElem_toArray, List.getElem_cons_succ, List.getElem_cons_zero]
              refine wpAnyH_take (i := 15) (v := (.pointer (some ⟨q, 0, .none⟩))) rfl (by kernel_rfl) (by kernel_rfl) (by kernel_rfl) (fun _ _ _ h => h) (Or.inl ⟨by rfl, fun ww hSw => by (try dsimp only at hSw); go_simp⟩) (by assumption) ?_
              simp only [Act.put, List.setIfInBounds_toArray, List.set_cons_zero, List.set_cons_succ, List.getElem_toArray, List.getElem_cons_succ, List.getElem_cons_zero]
              refine wpAnyH_ready (rs := [14]) (by kernel_rfl) (by simp) ?_
              refine AllReadyH.cons rfl (fun K hK => ?_) AllReadyH.nil
              go_simp
              go_at_call 11
              refine (image_any (HK2.out _ HC2.out.2.2).1).mono ?_
              intro e Y3 him
              obtain ⟨iqf, icf, iqh, ich, rfl, hs1, hs2, hb⟩ := see_imgP him HV.out.2 HBB.out
              have HC3 : Hid (Cx W Wc V2 N2 nf cf nh ch qf qh Y3) := HC2.out.below hb
              have k3 : (Y3.cell? ⟨W.heap.size, 0, .none⟩ = some (.int .i64 N2) ∧ Y3.cell? ⟨W.heap.size, 1, .none⟩ = some (.slice qf nf cf)) ∧ Y3.cell? ⟨W.heap.size, 2, .none⟩ = some (.slice qh nh ch) := ⟨⟨HC3.out.2.1.1, HC3.out.2.1.2.1⟩, HC3.out.2.1.2.2.1⟩
              have HS3 : Hid (See Y3 .u64 iqf nf F ∧ SeeH Y3 iqh nh PA (fun _ => 4096) D) := ⟨hs1, hs2⟩
              clear him hs1 hs2 hb HC2 k2
              obtain ⟨qb, lv, hqv⟩ := (HK2.out _ HC3.out.2.2).2
              have HQ3 : Hid (Qv Y3 q qb N2 lv B (Lf F nf)) := hqv
              clear hqv
              refine hK.out _ _ k3 (fun hHeld => ?_)
              clear hK K
              try simp only [Act.put, List.setIfInBounds_toArray, List.set_cons_zero, List.set_cons_succ, List.getElem_toArray, List.getElem_cons_succ, List.getElem_cons_zero]
              refine wpAnyH_ready (rs := [16]) (by kernel_rfl) (by simp) ?_
              refine AllReadyH.cons rfl (fun K hK => ?_) AllReadyH.nil
              go_simp
              go_at_call 12
              refine (imageQ_any Y3 q qb N2 lv B _ HQ3.out).mono ?_
              intro e Y4 him
              obtain ⟨jqf, jcf, jqh, jch, rfl, hs1, hs2, hb⟩ := see_imgQ him HV.out.2 HBB.out
              have HC4 : Hid (Cx W Wc V2 N2 nf cf nh ch qf qh Y4) := HC3.out.below hb
              have k4 : (Y4.cell? ⟨W.heap.size, 0, .none⟩ = some (.int .i64 N2) ∧ Y4.cell? ⟨W.heap.size, 1, .none⟩ = some (.slice qf nf cf)) ∧ Y4.cell? ⟨W.heap.size, 2, .none⟩ = some (.slice qh nh ch) := ⟨⟨HC4.out.2.1.1, HC4.out.2.1.2.1⟩, HC4.out.2.1.2.2.1⟩
              have HS4 : Hid (See Y4 .u64 iqf nf F ∧ SeeH Y4 iqh nh PA (fun _ => 4096) D) := ⟨HS3.out.1.below hb, HS3.out.2.below hb⟩
              have HT4 : Hid (See Y4 .u64 jqf nf F ∧ SeeH Y4 jqh nh PA (fun _ => 4096) D) := ⟨hs1, hs2⟩
              clear him hs1 hs2 hb HC3 k3 HS3 HQ3
              refine hK.out _ _ k4 (fun hHeld => ?_)
              clear hK K
              try simp only [Act.put, List.setIfInBounds_toArray, List.set_cons_zero, List.set_cons_succ, List.getElem_toArray, List.getElem_cons_succ, List.getElem_cons_zero]
              refine wpAnyH_ready (rs := [17]) (by kernel_rfl) (by simp) ?_
              refine AllReadyH.cons rfl (fun K hK => ?_) AllReadyH.nil
              go_simp
              go_at_call 9
              refine (images_two sm HS4.out HT4.out).mono ?_
              rintro e Y5 ⟨rfl, hb⟩
              have HC5 : Hid (Cx W Wc V2 N2 nf cf nh ch qf qh Y5) := HC4.out.below hb
              have k5 : (Y5.cell? ⟨W.heap.size, 0, .none⟩ = some (.int .i64 N2) ∧ Y5.cell? ⟨W.heap.size, 1, .none⟩ = some (.slice qf nf cf)) ∧ Y5.cell? ⟨W.heap.size, 2, .none⟩ = some (.slice qh nh ch) := ⟨⟨HC5.out.2.1.1, HC5.out.2.1.2.1⟩, HC5.out.2.1.2.2.1⟩
              clear hb HC4 k4 HS4 HT4
              obtain ⟨qb2, lv2, hqv⟩ := (HK2.out _ HC5.out.2.2).2
              have HQ5 : Hid (Qv Y5 q qb2 N2 lv2 B (Lf F nf)) := hqv
              clear hqv
              refine hK.out _ _ k5 (fun hHeld => ?_)
              clear hK K
              try simp only [Act.put, List.setIfInBounds_toArray, List.set_cons_zero, List.set_cons_succ, List.getElem_toArray, List.getElem_cons_succ, List.getElem_cons_zero]
              refine wpAnyH_take (i := 18) (v := (.bool true)) rfl (by kernel_rfl) (by kernel_rfl) (by kernel_rfl) (fun _ _ _ h => h) (Or.inl ⟨by rfl, fun ww hSw => by (try dsimp only at hSw); go_simp⟩) (by assumption) ?_
              simp only [Act.put, List.setIfInBounds_toArray, List.set_cons_zero, List.set_cons_succ, List.getElem_toArray, List.getElem_cons_succ, List.getElem_cons_zero]
              refine wpAnyH_take (i := 19) (v := (.bool true)) rfl (by kernel_rfl) (by kernel_rfl) (by kernel_rfl) (fun _ _ _ h => h) (Or.inl ⟨by rfl, fun ww hSw => by (try dsimp only at hSw); go_simp⟩) (by assumption) ?_
              simp only [Act.put, List.setIfInBounds_toArray, List.set_cons_zero, List.set_cons_succ, List.getElem_toArray, List.getElem_cons_succ, List.getElem_cons_zero]
              refine wpAnyH_take (i := 20) (v := (.pointer (some ⟨q, 0, .none⟩))) rfl (by kernel_rfl) (by kernel_rfl) (by kernel_rfl) (fun _ _ _ h => h) (Or.inl ⟨by rfl, fun ww hSw => by (try dsimp only at hSw); go_simp⟩) (by assumption) ?_
              simp only [Act.put, List.setIfInBounds_toArray, List.set_cons_zero, List.set_cons_succ, List.getElem_toArray, List.getElem_cons_succ, List.getElem_cons_zero]
              refine wpAnyH_take (i := 22) (v := (.agg #[.int .i64 N2, .slice qf nf cf, .slice qh nh ch])) rfl (by kernel_rfl) (by kernel_rfl) (by kernel_rfl) (fun _ _ _ h => h) (Or.inl ⟨by rfl, fun ww hSw => by (try dsimp only at hSw); go_simp⟩) (by assumption) ?_
              simp only [Act.put, List.setIfInBounds_toArray, List.set_cons_zero, List.set_cons_succ, List.getElem_toArray, List.getElem_cons_succ, List.getElem_cons_zero]
              refine wpAnyH_ready (rs := [21]) (by kernel_rfl) (by simp) ?_
              refine AllReadyH.cons rfl (fun K hK => ?_) AllReadyH.nil
              go_simp
              go_at_call 12
              refine (imageQ_any Y5 q qb2 N2 lv2 B _ HQ5.out).mono ?_
              intro e Y6 him
              obtain ⟨kqf, kcf, kqh, kch, rfl, hs1, hs2, hb⟩ := see_imgQ him HV.out.2 HBB.out
              have HC6 : Hid (Cx W Wc V2 N2 nf cf nh ch qf qh Y6) := HC5.out.below hb
              have k6 : (Y6.cell? ⟨W.heap.size, 0, .none⟩ = some (.int .i64 N2) ∧ Y6.cell? ⟨W.heap.size, 1, .none⟩ = some (.slice qf nf cf)) ∧ Y6.cell? ⟨W.heap.size, 2, .none⟩ = some (.slice qh nh ch) := ⟨⟨HC6.out.2.1.1, HC6.out.2.1.2.1⟩, HC6.out.2.1.2.2.1⟩
              have HS6 : Hid (See Y6 .u64 kqf nf F ∧ SeeH Y6 kqh nh PA (fun _ => 4096) D) := ⟨hs1, hs2⟩
              clear him hs1 hs2 hb HC5 k5 HQ5
              refine hK.out _ _ k6 (fun hHeld => ?_)
              clear hK K
              try simp only [Act.put, List.setIfInBounds_toArray, List.set_cons_zero, List.set_cons_succ, List.getElem_toArray, List.getElem_cons_succ, List.getElem_cons_zero]
              refine wpAnyH_ready (rs := [23]) (by kernel_rfl) (by simp) ?_
              refine AllReadyH.cons rfl (fun K hK => ?_) AllReadyH.nil
              go_simp
              go_at_call 9
              refine (images_two sm HS6.out ((HAr.out.below HC6.out.1).shows HV.out.2)).mono ?_
              rintro e Y7 ⟨rfl, hb⟩
              have HC7 : Hid (Cx W Wc V2 N2 nf cf nh ch qf qh Y7) := HC6.out.below hb
              have k7 : (Y7.cell? ⟨W.heap.size, 0, .none⟩ = some (.int .i64 N2) ∧ Y7.cell? ⟨W.heap.size, 1, .none⟩ = some (.slice qf nf cf)) ∧ Y7.cell? ⟨W.heap.size, 2, .none⟩ = some (.slice qh nh ch) := ⟨⟨HC7.out.2.1.1, HC7.out.2.1.2.1⟩, HC7.out.2.1.2.2.1⟩
              clear hb HC6 k6 HS6
              refine hK.out _ _ k7 (fun hHeld => ?_)
              clear hK K
              try simp only [Act.put, List.setIfInBounds_toArray, List.set_cons_zero, List.set_cons_succ, List.getElem_toArray, List.getElem_cons_succ, List.getElem_cons_zero]
              refine wpAnyH_take (i := 24) (v := (.bool true)) rfl (by kernel_rfl) (by kernel_rfl) (by kernel_rfl) (fun _ _ _ h => h) (Or.inl ⟨by rfl, fun ww hSw => by (try dsimp only at hSw); go_simp⟩) (by assumption) ?_
              simp only [Act.put, List.setIfInBounds_toArray, List.set_cons_zero, List.set_cons_succ, List.getElem_toArray, List.getElem_cons_succ, List.getElem_cons_zero]
              refine wpAnyH_take (i := 25) (v := (.bool true)) rfl (by kernel_rfl) (by kernel_rfl) (by kernel_rfl) (fun _ _ _ h => h) (Or.inl ⟨by rfl, fun ww hSw => by (try dsimp only at hSw); go_simp⟩) (by assumption) ?_
              simp only [Act.put, List.setIfInBounds_toArray, List.set_cons_zero, List.set_cons_succ, List.getElem_toArray, List.getElem_cons_succ, List.getElem_cons_zero]
              refine wpAnyH_done (by kernel_rfl) ?_ _
              clear hHeld k0 k7
              go_wp2_with fail
              go_ret
              exact ⟨rfl, HC7.out.1⟩
            · have HM1 : Hid (In W Z1 N2 nf cf nh ch qf qh (F3 F nf) PA L (D2 D nh) (some ⟨fg, 0, .none⟩) fc hq hc gs ∧ Tl Wc.heap.size V2 Z1) := ⟨HM.out.1.below hb1, HM.out.2.below hb1⟩
              have HF : Hid (Verd (F3 F nf) nf PA L nh N2 0 0) := hv
              have HC3d : Hid (C3 Z1 (W.heap.size + 1) (.int .i64 N2) (.slice (some ⟨fg, 0, .none⟩) nf fc) (.slice hq nh hc)) := by have := HM1.out.1.c; rw [hlen] at this; exact this
              obtain ⟨a0, a1, a2, _, _, _⟩ := HC3d.out
              clear hv hb1 HM hN3
              go_wp2_with fail
              refine (ref_in HM1.out.1 hlen (F3_b HAr.out.fb nf) HAr.out.pb HAr.out.lm sm).mono ?_
              rintro e Y0 ⟨⟨a', r', hv', hcase⟩, hb2⟩
              obtain ⟨rfl, rfl⟩ := verd_one HF.out hv'
              obtain ⟨_, _, N5, _, _, _, _, q9, rfl, _⟩ := hcase.resolve_left (fun h => h.1 rfl)
              have HCY : Hid (Cx W Wc V2 N2 nf cf nh ch qf qh Y0) := ⟨HM1.out.1.be.trans (hb2.mono HM1.out.1.be.size), HM1.out.1.p.below hb2, HM1.out.2.below hb2⟩
              have HEY : Hid (ErrR Y0 .nilIface 0 0) := .inr ⟨rfl, rfl⟩
              clear a0 a1 a2 hv' hcase hb2 HM1 HF
              have HC0 : Hid (Cx W Wc V2 N2 nf cf nh ch qf qh Y0.drew) := HCY.out.below ((Below.refl _ _).drew)
              have HE0 : Hid (ErrR Y0.drew .nilIface 0 0) := HEY.out.below ((Below.refl _ _).drew)
              have k0 : (Y0.drew.cell? ⟨W.heap.size, 0, .none⟩ = some (.int .i64 N2) ∧ Y0.drew.cell? ⟨W.heap.size, 1, .none⟩ = some (.slice qf nf cf)) ∧ Y0.drew.cell? ⟨W.heap.size, 2, .none⟩ = some (.slice qh nh ch) := ⟨⟨HC0.out.2.1.1, HC0.out.2.1.2.1⟩, HC0.out.2.1.2.2.1⟩
              clear HCY HEY
              go_upto_region 29 with fail
              refine wp_region_held_drew (S := fun U2 => (U2.cell? ⟨W.heap.size, 0, .none⟩ = some (.int .i64 N2) ∧ U2.cell? ⟨W.heap.size, 1, .none⟩ = some (.slice qf nf cf)) ∧ U2.cell? ⟨W.heap.size, 2, .none⟩ = some (.slice qh nh ch)) (by kernel_rfl) k0 (fun hHeld => ?_)
              refine wpAnyH_take (i := 0) (v := (.pointer (some ⟨p9, 0, .none⟩))) rfl (by kernel_rfl) (by kernel_rfl) (by kernel_rfl) (fun _ _ _ h => h) (Or.inl ⟨by rfl, fun ww hSw => by (try dsimp only at hSw); go_simp⟩) (by assumption) ?_
              simp only [Act.put, List.setIfInBounds_toArray, List.set_cons_zero, List.set_cons_succ, List.getElem_toArray, List.getElem_cons_succ, List.getElem_cons_zero]
              refine wpAnyH_take (i := 1) (v := (.bool false)) rfl (by kernel_rfl) (by kernel_rfl) (by kernel_rfl) (fun _ _ _ h => h) (Or.inl ⟨by rfl, fun ww hSw => by (try dsimp only at hSw); go_simp⟩) (by assumption) ?_
              simp only [Act.put, List.setIfInBounds_toArray, List.set_cons_zero, List.set_cons_succ, List.getElem_toArray, List.getElem_cons_succ, List.getElem_cons_zero]
              refine wpAnyH_take (i := 2) (v := (.int .i64 0)) rfl (by kernel_rfl) (by kernel_rfl) (by kernel_rfl) (fun _ _ _ h => h) (Or.inl ⟨by rfl, fun ww hSw => by (try dsimp only at hSw); go_simp⟩) (by assumption) ?_
              simp only [Act.put, List.setIfInBounds_toArray, List.set_cons_zero, List.set_cons_succ, List.getElem_toArray, List.getElem_cons_succ, List.getElem_cons_zero]
              refine wpAnyH_take (i := 3) (v := (.bool false)) rfl (by kernel_rfl) (by kernel_rfl) (by kernel_rfl) (fun _ _ _ h => h) (Or.inl ⟨by rfl, fun ww hSw => by (try dsimp only at hSw); go_simp⟩) (by assumption) ?_
              simp only [Act.put, List.setIfInBounds_toArray, List.set_cons_zero, List.set_cons_succ, List.getElem_toArray, List.getElem_cons_succ, List.getElem_cons_zero]
              refine wpAnyH_take (i := 4) (v := (.bool true)) rfl (by kernel_rfl) (by kernel_rfl) (by kernel_rfl) (fun _ _ _ h => h) (Or.inl ⟨by rfl, fun ww hSw => by (try dsimp only at hSw); go_simp⟩) (by assumption) ?_
              simp only [Act.put, List.setIfInBounds_toArray, List.set_cons_zero, List.set_cons_succ, List.getElem_toArray, List.getElem_cons_succ, List.getElem_cons_zero]
              refine wpAnyH_take (i := 5) (v := (.bool true)) rfl (by kernel_rfl) (by kernel_rfl) (by kernel_rfl) (fun _ _ _ h => h) (Or.inl ⟨by rfl, fun ww hSw => by (try dsimp only at hSw); go_simp⟩) (by assumption) ?_
              simp only [Act.put, List.setIfInBounds_toArray, List.set_cons_zero, List.set_cons_succ, List.getElem_toArray, List.getElem_cons_succ, List.getElem_cons_zero]
              refine wpAnyH_take (i := 6) (v := .nilIface) rfl (by kernel_rfl) (by kernel_rfl) (by kernel_rfl) (fun _ _ _ h => h) (Or.inl ⟨by rfl, fun ww hSw => by (try dsimp only at hSw); go_simp⟩) (by assumption) ?_
              simp only [Act.put, List.setIfInBounds_toArray, List.set_cons_zero, List.set_cons_succ, List.getElem_toArray, List.getElem_cons_succ, List.getElem_cons_zero]
              refine wpAnyH_take (i := 7) (v := (.int .i64 0)) rfl (by kernel_rfl) (by kernel_rfl) (by kernel_rfl) (fun _ _ _ h => h) (Or.inl ⟨by rfl, fun ww hSw => by (try dsimp only at hSw); go_simp⟩) (by assumption) ?_
              simp only [Act.put, List.setIfInBounds_toArray, List.set_cons_zero, List.set_cons_succ, List.getElem_toArray, List.getElem_cons_succ, List.getElem_cons_zero]
              refine wpAnyH_take (i := 8) (v := (.int .i64 0)) rfl (by kernel_rfl) (by kernel_rfl) (by kernel_rfl) (fun _ _ _ h => h) (Or.inl ⟨by rfl, fun ww hSw => by (try dsimp only at hSw); go_simp⟩) (by assumption) ?_
              simp only [Act.put, List.setIfInBounds_toArray, List.set_cons_zero, List.set_cons_succ, List.getElem_toArray, List.getElem_cons_succ, List.getElem_cons_zero]
              refine wpAnyH_ready (rs := [9]) (by kernel_rfl) (by simp) ?_
              refine AllReadyH.cons rfl (fun K hK => ?_) AllReadyH.nil
              go_simp
              go_at_call 8
              refine (lfaultR_any 0 0 _).mono ?_
              rintro e Y1 ⟨⟨g, rfl, hg⟩, hb⟩
              have HC1 : Hid (Cx W Wc V2 N2 nf cf nh ch qf qh Y1) := HC0.out.below hb
              have k1 : (Y1.cell? ⟨W.heap.size, 0, .none⟩ = some (.int .i64 N2) ∧ Y1.cell? ⟨W.heap.size, 1, .none⟩ = some (.slice qf nf cf)) ∧ Y1.cell? ⟨W.heap.size, 2, .none⟩ = some (.slice qh nh ch) := ⟨⟨HC1.out.2.1.1, HC1.out.2.1.2.1⟩, HC1.out.2.1.2.2.1⟩
              have HE1 : Hid (ErrR Y1 .nilIface 0 0 ∧ RefR Y1 g 0 0) := ⟨HE0.out.below hb, hg⟩
              clear hb hg HE0 HC0
              refine hK.out _ _ k1 (fun hHeld => ?_)
              clear hK K
              try simp only [Act.put, List.setIfInBounds_toArray, List.set_cons_zero, List.set_cons_succ, List.getElem_toArray, List.getElem_cons_succ, List.getElem_cons_zero]
              refine wpAnyH_ready (rs := [10]) (by kernel_rfl) (by simp) ?_
              refine AllReadyH.cons rfl (fun K hK => ?_) AllReadyH.nil
              go_simp
              go_at_call 7
              refine (isR_any .nilIface g 0 0 _ HE1.out.1 HE1.out.2).mono ?_
              rintro e Y2 ⟨rfl, hb⟩
              have HC2 : Hid (Cx W Wc V2 N2 nf cf nh ch qf qh Y2) := HC1.out.below hb
              have k2 : (Y2.cell? ⟨W.heap.size, 0, .none⟩ = some (.int .i64 N2) ∧ Y2.cell? ⟨W.heap.size, 1, .none⟩ = some (.slice qf nf cf)) ∧ Y2.cell? ⟨W.heap.size, 2, .none⟩ = some (.slice qh nh ch) := ⟨⟨HC2.out.2.1.1, HC2.out.2.1.2.1⟩, HC2.out.2.1.2.2.1⟩
              clear hb HE1 HC1 k1
              refine hK.out _ _ k2 (fun hHeld => ?_)
              clear hK K
              try simp only [Act.put, List.setIfInBounds_toArray, List.set_cons_zero, List.set_cons_succ, List.getElem_toArray, List.getElem_cons_succ, List.getElem_cons_zero]
              refine wpAnyH_take (i := 11) (v := (.bool true)) rfl (by kernel_rfl) (by kernel_rfl) (by kernel_rfl) (fun _ _ _ h => h) (Or.inl ⟨by rfl, fun ww hSw => by (try dsimp only at hSw); go_simp⟩) (by assumption) ?_
              simp only [Act.put, List.setIfInBounds_toArray, List.set_cons_zero, List.set_cons_succ, List.getElem_toArray, List.getElem_cons_succ, List.getElem_cons_zero]
              refine wpAnyH_take (i := 12) (v := (.bool true)) rfl (by kernel_rfl) (by kernel_rfl) (by kernel_rfl) (fun _ _ _ h => h) (Or.inl ⟨by rfl, fun ww hSw => by (try dsimp only at hSw); go_simp⟩) (by assumption) ?_
              simp only [Act.put, List.setIfInBounds_toArray, List.set_cons_zero, List.set_cons_succ, List.getElem_toArray, List.getElem_cons_succ, List.getElem_cons_zero]
              refine wpAnyH_take (i := 13) (v := (.pointer (some ⟨p, 0, .none⟩))) rfl (by kernel_rfl) (by kernel_rfl) (by kernel_rfl) (fun _ _ _ h => h) (Or.inl ⟨by rfl, fun ww hSw => by (try dsimp only at hSw); go_simp⟩) (by assumption) ?_
              simp only [Act.put, List.setIfInBounds_toArray, List.set_cons_zero, List.set_cons_succ, List.getElem_toArray, List.getElem_cons_succ, List.getElem_cons_zero]
              refine wpAnyH_take (i := 15) (v := (.pointer (some ⟨q, 0, .none⟩))) rfl (by kernel_rfl) (by kernel_rfl) (by kernel_rfl) (fun _ _ _ h => h) (Or.inl ⟨by rfl, fun ww hSw => by (try dsimp only at hSw); go_simp⟩) (by assumption) ?_
              simp only [Act.put, List.setIfInBounds_toArray, List.set_cons_zero, List.set_cons_succ, List.getElem_toArray, List.getElem_cons_succ, List.getElem_cons_zero]
              refine wpAnyH_ready (rs := [14]) (by kernel_rfl) (by simp) ?_
              refine AllReadyH.cons rfl (fun K hK => ?_) AllReadyH.nil
              go_simp
              go_at_call 11
              refine (image_any (HK2.out _ HC2.out.2.2).1).mono ?_
              intro e Y3 him
              obtain ⟨iqf, icf, iqh, ich, rfl, hs1, hs2, hb⟩ := see_imgP him HV.out.2 HBB.out
              have HC3 : Hid (Cx W Wc V2 N2 nf cf nh ch qf qh Y3) := HC2.out.below hb
              have k3 : (Y3.cell? ⟨W.heap.size, 0, .none⟩ = some (.int .i64 N2) ∧ Y3.cell? ⟨W.heap.size, 1, .none⟩ = some (.slice qf nf cf)) ∧ Y3.cell? ⟨W.heap.size, 2, .none⟩ = some (.slice qh nh ch) := ⟨⟨HC3.out.2.1.1, HC3.out.2.1.2.1⟩, HC3.out.2.1.2.2.1⟩
              have HS3 : Hid (See Y3 .u64 iqf nf F ∧ SeeH Y3 iqh nh PA (fun _ => 4096) D) := ⟨hs1, hs2⟩
              clear him hs1 hs2 hb HC2 k2
              obtain ⟨qb, lv, hqv⟩ := (HK2.out _ HC3.out.2.2).2
              have HQ3 : Hid (Qv Y3 q qb N2 lv B (Lf F nf)) := hqv
              clear hqv
              refine hK.out _ _ k3 (fun hHeld => ?_)
              clear hK K
              try simp only [Act.put, List.setIfInBounds_toArray, List.set_cons_zero, List.set_cons_succ, List.getElem_toArray, List.getElem_cons_succ, List.getElem_cons_zero]
              refine wpAnyH_ready (rs := [16]) (by kernel_rfl) (by simp) ?_
              refine AllReadyH.cons rfl (fun K hK => ?_) AllReadyH.nil
              go_simp
              go_at_call 12
              refine (imageQ_any Y3 q qb N2 lv B _ HQ3.out).mono ?_
              intro e Y4 him
              obtain ⟨jqf, jcf, jqh, jch, rfl, hs1, hs2, hb⟩ := see_imgQ him HV.out.2 HBB.out
              have HC4 : Hid (Cx W Wc V2 N2 nf cf nh ch qf qh Y4) := HC3.out.below hb
              have k4 : (Y4.cell? ⟨W.heap.size, 0, .none⟩ = some (.int .i64 N2) ∧ Y4.cell? ⟨W.heap.size, 1, .none⟩ = some (.slice qf nf cf)) ∧ Y4.cell? ⟨W.heap.size, 2, .none⟩ = some (.slice qh nh ch) := ⟨⟨HC4.out.2.1.1, HC4.out.2.1.2.1⟩, HC4.out.2.1.2.2.1⟩
              have HS4 : Hid (See Y4 .u64 iqf nf F ∧ SeeH Y4 iqh nh PA (fun _ => 4096) D) := ⟨HS3.out.1.below hb, HS3.out.2.below hb⟩
              have HT4 : Hid (See Y4 .u64 jqf nf F ∧ SeeH Y4 jqh nh PA (fun _ => 4096) D) := ⟨hs1, hs2⟩
              clear him hs1 hs2 hb HC3 k3 HS3 HQ3
              refine hK.out _ _ k4 (fun hHeld => ?_)
              clear hK K
              try simp only [Act.put, List.setIfInBounds_toArray, List.set_cons_zero, List.set_cons_succ, List.getElem_toArray, List.getElem_cons_succ, List.getElem_cons_zero]
              refine wpAnyH_ready (rs := [17]) (by kernel_rfl) (by simp) ?_
              refine AllReadyH.cons rfl (fun K hK => ?_) AllReadyH.nil
              go_simp
              go_at_call 9
              refine (images_two sm HS4.out HT4.out).mono ?_
              rintro e Y5 ⟨rfl, hb⟩
              have HC5 : Hid (Cx W Wc V2 N2 nf cf nh ch qf qh Y5) := HC4.out.below hb
              have k5 : (Y5.cell? ⟨W.heap.size, 0, .none⟩ = some (.int .i64 N2) ∧ Y5.cell? ⟨W.heap.size, 1, .none⟩ = some (.slice qf nf cf)) ∧ Y5.cell? ⟨W.heap.size, 2, .none⟩ = some (.slice qh nh ch) := ⟨⟨HC5.out.2.1.1, HC5.out.2.1.2.1⟩, HC5.out.2.1.2.2.1⟩
              clear hb HC4 k4 HS4 HT4
              obtain ⟨qb2, lv2, hqv⟩ := (HK2.out _ HC5.out.2.2).2
              have HQ5 : Hid (Qv Y5 q qb2 N2 lv2 B (Lf F nf)) := hqv
              clear hqv
              refine hK.out _ _ k5 (fun hHeld => ?_)
              clear hK K
              try simp only [Act.put, List.setIfInBounds_toArray, List.set_cons_zero, List.set_cons_succ, List.getElem_toArray, List.getElem_cons_succ, List.getElem_cons_zero]
              refine wpAnyH_take (i := 18) (v := (.bool true)) rfl (by kernel_rfl) (by kernel_rfl) (by kernel_rfl) (fun _ _ _ h => h) (Or.inl ⟨by rfl, fun ww hSw => by (try dsimp only at hSw); go_simp⟩) (by assumption) ?_
              simp only [Act.put, List.setIfInBounds_toArray, List.set_cons_zero, List.set_cons_succ, List.getElem_toArray, List.getElem_cons_succ, List.getElem_cons_zero]
              refine wpAnyH_take (i := 19) (v := (.bool true)) rfl (by kernel_rfl) (by kernel_rfl) (by kernel_rfl) (fun _ _ _ h => h) (Or.inl ⟨by rfl, fun ww hSw => by (try dsimp only at hSw); go_simp⟩) (by assumption) ?_
              simp only [Act.put, List.setIfInBounds_toArray, List.set_cons_zero, List.set_cons_succ, List.getElem_toArray, List.getElem_cons_succ, List.getElem_cons_zero]
              refine wpAnyH_take (i := 20) (v := (.pointer (some ⟨q, 0, .none⟩))) rfl (by kernel_rfl) (by kernel_rfl) (by kernel_rfl) (fun _ _ _ h => h) (Or.inl ⟨by rfl, fun ww hSw => by (try dsimp only at hSw); go_simp⟩) (by assumption) ?_
              simp only [Act.put, List.setIfInBounds_toArray, List.set_cons_zero, List.set_cons_succ, List.getElem_toArray, List.getElem_cons_succ, List.getElem_cons_zero]
              refine wpAnyH_take (i := 22) (v := (.agg #[.int .i64 N2, .slice qf nf cf, .slice qh nh ch])) rfl (by kernel_rfl) (by kernel_rfl) (by kernel_rfl) (fun _ _ _ h => h) (Or.inl ⟨by rfl, fun ww hSw => by (try dsimp only at hSw); go_simp⟩) (by assumption) ?_
              simp only [Act.put, List.setIfInBounds_toArray, List.set_cons_zero, List.set_cons_succ, List.getElem_toArray, List.getElem_cons_succ, List.getElem_cons_zero]
              refine wpAnyH_ready (rs := [21]) (by kernel_rfl) (by simp) ?_
              refine AllReadyH.cons rfl (fun K hK => ?_) AllReadyH.nil
              go_simp
              go_at_call 12
              refine (imageQ_any Y5 q qb2 N2 lv2 B _ HQ5.out).mono ?_
              intro e Y6 him
              obtain ⟨kqf, kcf, kqh, kch, rfl, hs1, hs2, hb⟩ := see_imgQ him HV.out.2 HBB.out
              have HC6 : Hid (Cx W Wc V2 N2 nf cf nh ch qf qh Y6) := HC5.out.below hb
              have k6 : (Y6.cell? ⟨W.heap.size, 0, .none⟩ = some (.int .i64 N2) ∧ Y6.cell? ⟨W.heap.size, 1, .none⟩ = some (.slice qf nf cf)) ∧ Y6.cell? ⟨W.heap.size, 2, .none⟩ = some (.slice qh nh ch) := ⟨⟨HC6.out.2.1.1, HC6.out.2.1.2.1⟩, HC6.out.2.1.2.2.1⟩
              have HS6 : Hid (See Y6 .u64 kqf nf F ∧ SeeH Y6 kqh nh PA (fun _ => 4096) D) := ⟨hs1, hs2⟩
              clear him hs1 hs2 hb HC5 k5 HQ5
              refine hK.out _ _ k6 (fun hHeld => ?_)
              clear hK K
              try simp only [Act.put, List.setIfInBounds_toArray, List.set_cons_zero, List.set_cons_succ, List.getElem_toArray, List.getElem_cons_succ, List.getElem_cons_zero]
              refine wpAnyH_ready (rs := [23]) (by kernel_rfl) (by simp) ?_
              refine AllReadyH.cons rfl (fun K hK => ?_) AllReadyH.nil
              go_simp
              go_at_call 9
              refine (images_two sm HS6.out ((HAr.out.below HC6.out.1).shows HV.out.2)).mono ?_
              rintro e Y7 ⟨rfl, hb⟩
              have HC7 : Hid (Cx W Wc V2 N2 nf cf nh ch qf qh Y7) := HC6.out.below hb
              have k7 : (Y7.cell? ⟨W.heap.size, 0, .none⟩ = some (.int .i64 N2) ∧ Y7.cell? ⟨W.heap.size, 1, .none⟩ = some (.slice qf nf cf)) ∧ Y7.cell? ⟨W.heap.size, 2, .none⟩ = some (.slice qh nh ch) := ⟨⟨HC7.out.2.1.1, HC7.out.2.1.2.1⟩, HC7.out.2.1.2.2.1⟩
              clear hb HC6 k6 HS6
              refine hK.out _ _ k7 (fun hHeld => ?_)
              clear hK K
              try simp only [Act.put, List.setIfInBounds_toArray, List.set_cons_zero, List.set_cons_succ, List.getElem_toArray, List.getElem_cons_succ, List.getElem_cons_zero]
              refine wpAnyH_take (i := 24) (v := (.bool true)) rfl (by kernel_rfl) (by kernel_rfl) (by kernel_rfl) (fun _ _ _ h => h) (Or.inl ⟨by rfl, fun ww hSw => by (try dsimp only at hSw); go_simp⟩) (by assumption) ?_
              simp only [Act.put, List.setIfInBounds_toArray, List.set_cons_zero, List.set_cons_succ, List.getElem_toArray, List.getElem_cons_succ, List.getElem_cons_zero]
              refine wpAnyH_take (i := 25) (v := (.bool true)) rfl (by kernel_rfl) (by kernel_rfl) (by kernel_rfl) (fun _ _ _ h => h) (Or.inl ⟨by rfl, fun ww hSw => by (try dsimp only at hSw); go_simp⟩) (by assumption) ?_
              simp only [Act.put, List.setIfInBounds_toArray, List.set_cons_zero, List.set_cons_succ, List.getElem_toArray, List.getElem_cons_succ, List.getElem_cons_zero]
              refine wpAnyH_done (by kernel_rfl) ?_ _
              clear hHeld k0 k7
              go_wp2_with fail
              go_ret
              exact ⟨rfl, HC7.out.1⟩
end Go.Proofs.Ytejongfipfefpaa
