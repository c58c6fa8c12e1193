import Derived.Test.YtabhojfdkmeaoabAt
import Derived.Test.YtabhojfdkmeaoabRf
import Derived.Test.YtabhojfdkmeaoabEIsA
import Derived.Laws.BitsAllLaws
namespace Go.Proofs.Ytabhojfdkmeaoab
open Go.RowKit
set_option linter.unusedVariables false
set_option linter.unusedSimpArgs false
set_option maxRecDepth 20000 in
theorem xor255 : ∀ x : Fin 256, bits .xor .u8 ((x : Nat) : Int) 255 = 255 - ((x : Nat) : Int) := by decide
theorem xor_any (x : Int) (h : 0 ≤ x ∧ x < 256) : bits .xor .u8 x 255 = 255 - x := by
  have := xor255 ⟨x.toNat, by omega⟩
  have e : ((x.toNat : Nat) : Int) = x := by omega
  rwa [e] at this
/-- What the law holds: the state, its own copy, the pipe and the document's. -/
structure Fl (w U : World) (p : Option Addr) (n c : Nat) (xs us : List Int) (R S : Int) (rd wt : Bool) (og g cg b d : Nat) (e : Value) : Prop where
  bel : Below w.heap.size w U
  s : Sb U w.heap.size p n c R S rd wt
  o : Sb U og (some ⟨g, 0, .none⟩) n cg R S rd wt
  x : Byt U p n c xs
  gr : ∀ (j : Nat) u, us[j]? = some u → U.cell? ⟨g, j, .none⟩ = some (.int .u8 u)
  gf : ∀ j, U.frozen? ⟨g, j, .none⟩ = false
  pp : Pip U b xs R rd wt
  dr : Dr U d e R S rd wt
  row : U.ownsRow 0 5 1 e n (by8 xs)
  gl : g < U.heap.size
theorem Fl.below {w U V : World} {p : Option Addr} {n c : Nat} {xs us : List Int} {R S : Int} {rd wt : Bool} {og g cg b d : Nat} {e : Value} (h : Fl w U p n c xs us R S rd wt og g cg b d e) (t : Below U.heap.size U V) : Fl w V p n c xs us R S rd wt og g cg b d e :=
  ⟨h.bel.trans (t.mono h.bel.size), h.s.below t, h.o.below t, byt_below h.x t, fun j u hj => (t.cell (p := ⟨g, j, .none⟩) h.gl).trans (h.gr j u hj), fun j => (t.frozen (p := ⟨g, j, .none⟩) h.gl).trans (h.gf j), h.pp.below t, h.dr.keep (S := fun _ => False) (Chg.ofBelow t) (fun h => h), (Chg.ofBelow (S := fun _ => False) t).own h.row (fun _ _ h => h), Nat.lt_of_lt_of_le h.gl t.size⟩
theorem Fl.ob {w U : World} {p : Option Addr} {n c : Nat} {xs us : List Int} {R S : Int} {rd wt : Bool} {og g cg b d : Nat} {e : Value} (h : Fl w U p n c xs us R S rd wt og g cg b d e) (hl : us.length = n) (hc : n ≤ cg ∧ cg ≤ maxLen) : Byt U (some ⟨g, 0, .none⟩) n cg us :=
  ⟨hl, hc.1, hc.2, .inr ⟨g, 0, rfl, h.gl, fun i x hx => by rw [Nat.zero_add]; exact h.gr i x hx⟩⟩
/-- What the loop over the acts holds. -/
structure Lp (w wr : World) (X b d sh cnt : Nat) (e : Value) (F : Nat → Prop) (xs : List Int) (r : Int) (rd wt : Bool) (og g cg i b2 : Nat) (us : List Int) (R S : Int) (rd0 wt0 : Bool) : Prop where
  st : St wr w.heap.size X b d sh cnt e F xs r rd wt xs r rd wt
  bel : Below w.heap.size w wr
  o : Sb wr og (some ⟨g, 0, .none⟩) i cg R S rd0 wt0
  x : Byt wr (some ⟨g, 0, .none⟩) i cg us
  p2 : Pip wr b2 us R rd0 wt0
  ee : ∀ k, e.ownBlock = some k → k ≠ b2 ∧ k ≠ og ∧ k ≠ g
section
variable {w wr v : World} {X b d sh cnt : Nat} {e : Value} {F : Nat → Prop} {xs : List Int} {r : Int} {rd wt : Bool} {og g cg i b2 : Nat} {us : List Int} {R S : Int} {rd0 wt0 : Bool}
theorem Lp.below (h : Lp w wr X b d sh cnt e F xs r rd wt og g cg i b2 us R S rd0 wt0) (t : Below wr.heap.size wr v) : Lp w v X b d sh cnt e F xs r rd wt og g cg i b2 us R S rd0 wt0 :=
  ⟨h.st.below t, h.bel.trans (t.mono h.bel.size), h.o.below t, byt_below h.x t, h.p2.below t, h.ee⟩
theorem Lp.act (h : Lp w wr X b d sh cnt e F xs r rd wt og g cg i b2 us R S rd0 wt0) (hX : og < X ∧ g < X ∧ b2 < X) (ho : og ≠ b ∧ og ≠ d ∧ og ≠ sh) (hg : g ≠ b ∧ g ≠ d ∧ g ≠ sh) (h2 : b2 ≠ b ∧ b2 ≠ d ∧ b2 ≠ sh) (he : Ended wr v w.heap.size X b d sh cnt e F) :
    ∃ cnt' e F xs r rd wt, cnt' ≤ cnt + 2 ∧ Lp w v X b d sh cnt' e F xs r rd wt og g cg i b2 us R S rd0 wt0 := by
  obtain ⟨xs', r', rd', wt', e', F', cnt', hs, hsof, hF, hc, ht⟩ := he
  have nb : ∀ k, k < X → k ≠ b → k ≠ d → k ≠ sh → (∀ k', e.ownBlock = some k' → k' ≠ k) → ¬ (k = b ∨ k = d ∨ k = sh ∨ e.ownBlock = some k ∨ F k) := fun k hk h1 h2 h3 h4 h0 => by
    rcases h0 with h0 | h0 | h0 | h0 | h0
    · exact h1 h0
    · exact h2 h0
    · exact h3 h0
    · exact h4 k h0 rfl
    · have := (h.st.s.ge k h0).1; omega
  have hog := nb og hX.1 ho.1 ho.2.1 ho.2.2 (fun k hk => (h.ee k hk).2.1)
  have hgg := nb g hX.2.1 hg.1 hg.2.1 hg.2.2 (fun k hk => (h.ee k hk).2.2)
  have hb2 := nb b2 hX.2.2 h2.1 h2.2.1 h2.2.2 (fun k hk => (h.ee k hk).1)
  refine ⟨cnt', e', F', xs', r', rd', wt', hc, hs, h.bel.trans (ht.toTrn h.bel.size (fun k hk h0 => ?_)), h.o.keepC ht hog, ht.byt h.x (fun _ k o e0 => ?_), ht.pip h.p2 hb2, fun k hk => ?_⟩
  · have z1 := h.st.zb
    have z2 := h.st.zd
    have z3 := h.st.zs
    have z4 := h.st.bX
    rcases h0 with h0 | h0 | h0 | h0 | h0
    · omega
    · omega
    · omega
    · have := (h.st.eX k h0).1; omega
    · have := (h.st.s.ge k h0).1; omega
  · injection e0 with e0
    injection e0 with e1 _ _
    subst e1
    exact hgg
  · rcases hsof k hk with h0 | h0
    · exact h.ee k h0
    · have := h.st.wX
      exact ⟨by omega, by omega, by omega⟩
end
/-- One byte of the law's own copy is turned. -/
theorem Fl.setg {w U : World} {p : Option Addr} {n c : Nat} {xs us : List Int} {R S : Int} {rd wt : Bool} {og g cg b d : Nat} {e : Value} (h : Fl w U p n c xs us R S rd wt og g cg b d e) (i : Nat) (x : Int) (hi : i < us.length) (h1 : w.heap.size < og) (h2 : og < g) (h3 : g < b) (h4 : g < d) (h5 : ∀ k, e.ownBlock = some k → k ≠ g) (hx : 0 < n → ∀ k o, p = some ⟨k, o, .none⟩ → k < w.heap.size) :
    Fl w (U.setCell ⟨g, i, .none⟩ (.int .u8 x)) p n c xs (us.set i x) R S rd wt og g cg b d e := by
  have t : Trn g U (U.setCell ⟨g, i, .none⟩ (.int .u8 x)) := Trn.setCell _ _ _ _
  refine ⟨h.bel.trans (t.toBelow (by omega) h.bel.size), h.s.keep t (by omega), h.o.keep t (by omega), t.byt h.x (fun h0 k o e0 => by have := hx h0 k o e0; omega), fun j u hj => ?_, fun j => ?_, h.pp.keep t (by omega), h.dr.keep (Chg.ofTrn t) (by omega), t.own h.row h5, by rw [size_set]; exact h.gl⟩
  · by_cases e1 : j = i
    · subst e1
      rw [List.getElem?_set_self hi] at hj
      cases hj
      exact cell_one (h.gr j _ (List.getElem?_eq_getElem hi)) _
    · rw [List.getElem?_set_ne (fun h => e1 h.symm)] at hj
      exact cell_off (h.gr j u hj) _ _ e1
  · have := World.frozen?_setCells g [.int .u8 x] i U ⟨g, j, .none⟩
    exact this.trans (h.gf j)
/-- The bytes turned over, the first i of them. -/
def mix (xs : List Int) (i : Nat) : List Int := (xs.take i).map (fun x => 255 - x) ++ xs.drop i
theorem mix_len (xs : List Int) (i : Nat) (h : i ≤ xs.length) : (mix xs i).length = xs.length := by
  unfold mix; rw [List.length_append, List.length_map, List.length_take, List.length_drop]; omega
theorem mix_at (xs : List Int) (i : Nat) (x : Int) (h : xs[i]? = some x) : (mix xs i)[i]? = some x ∧ (mix xs i).set i (255 - x) = mix xs (i + 1) := by
  have hi : i < xs.length := (List.getElem?_eq_some_iff.1 h).1
  have hl : ((xs.take i).map (fun x => 255 - x)).length = i := by rw [List.length_map, List.length_take]; omega
  have hd : xs.drop i = x :: xs.drop (i + 1) := by
    rw [List.drop_eq_getElem_cons hi]
    congr 1
    have := (List.getElem?_eq_some_iff.1 h).2
    exact this
  have ht : xs.take (i + 1) = xs.take i ++ [x] := by rw [List.take_add_one, h]; rfl
  unfold mix
  constructor
  · rw [List.getElem?_append_right (by omega), hl, Nat.sub_self, hd]; rfl
  · rw [List.set_append_right _ _ (by omega), hl, Nat.sub_self, hd, ht, List.map_append, List.append_assoc]
    rfl
theorem mix_all (xs : List Int) (h : ∀ y ∈ xs, 0 ≤ y ∧ y < 256) : ∀ y ∈ mix xs xs.length, 0 ≤ y ∧ y < 256 := by
  intro y hy
  unfold mix at hy
  rw [List.take_length, List.drop_length, List.append_nil, List.mem_map] at hy
  obtain ⟨x, hx, rfl⟩ := hy
  have := h x hx
  omega
set_option maxHeartbeats 8000000 in
set_option maxRecDepth 100000 in
theorem from_law (w : World) (p : Option Addr) (n c : Nat) (xs : List Int) (R S : Int) (rd wt : Bool) (hB : Byt w p n c xs) (hxb : ∀ y ∈ xs, 0 ≤ y ∧ y < 256) (hn : n < 140737488355000) (hR : 0 ≤ R ∧ R < 4294967296) (hS : 0 ≤ S ∧ S < 4294967296) (q : Option Addr) (m cq : Nat) (O : Nat → Orec) (hA : ArgO w q m cq O) :
    Calls Try.prog 3 #[.agg #[.slice p n c, .int .u32 R, .int .u32 S, .bool rd, .bool wt], .slice q m cq] w fun en w' => en = .returned (.bool true) ∧ Below w.heap.size w w' := by
  have HA : Hid (ArgO w q m cq O) := hA
  have hmc := hA.lc.1
  have hmm := hA.mm
  have hcm : cq ≤ 9223372036854775807 := hA.lc.2
  have HS : Hid (Byt w p n c xs ∧ (∀ y ∈ xs, 0 ≤ y ∧ y < 256)) := ⟨hB, hxb⟩
  have HRS : Hid ((0 ≤ R ∧ R < 4294967296) ∧ (0 ≤ S ∧ S < 4294967296)) := ⟨hR, hS⟩
  have hl : Hid (xs.length = n) := hB.1
  clear hA hB hxb hR hS
  go_enter Try.func3, Try.ntmps3
  go_upto_region 1 with fail
  have hs1 := sb_new w p n c R S rd wt
  have hb1 := Trn.new w (.cells #[.slice p n c, .int .u32 R, .int .u32 S, .bool rd, .bool wt] 25)
  have hz1 : (w.alloc (.cells #[.slice p n c, .int .u32 R, .int .u32 S, .bool rd, .bool wt] 25)).heap.size = w.heap.size + 1 := by simp
  generalize w.alloc (.cells #[.slice p n c, .int .u32 R, .int .u32 S, .bool rd, .bool wt] 25) = W1 at *
  have H1 : Hid (Sb W1 w.heap.size p n c R S rd wt ∧ Below w.heap.size w W1 ∧ W1.heap.size = w.heap.size + 1) := ⟨hs1, hb1, hz1⟩
  clear hs1 hb1 hz1
  refine wp_region_lit ?_
  refine wpList_load_mid rfl 25 (.tmp 2) rfl w.heap.size 0 (by rfl) _ _ H1.out.1.rangeAt Try.underlying25 rfl (by kernel_rfl) ?_
  simp only [Act.put, List.setIfInBounds_toArray, List.set_cons_succ, List.set_cons_zero]
  go_upto_region 2 with fail
  have hs2 := sb_new W1 p n c R S rd wt
  have hf2 := froz_new W1 #[.slice p n c, .int .u32 R, .int .u32 S, .bool rd, .bool wt] 25
  have hb2 := Trn.new W1 (.cells #[.slice p n c, .int .u32 R, .int .u32 S, .bool rd, .bool wt] 25)
  have hz2 : (W1.alloc (.cells #[.slice p n c, .int .u32 R, .int .u32 S, .bool rd, .bool wt] 25)).heap.size = W1.heap.size + 1 := by simp
  generalize W1.alloc (.cells #[.slice p n c, .int .u32 R, .int .u32 S, .bool rd, .bool wt] 25) = W2 at *
  have H2 : Hid (Sb W2 w.heap.size p n c R S rd wt ∧ Sb W2 W1.heap.size p n c R S rd wt ∧ Below w.heap.size w W2 ∧ w.heap.size < W1.heap.size ∧ W2.heap.size = W1.heap.size + 1 ∧ (∀ j, W2.frozen? ⟨W1.heap.size, j, .none⟩ = false)) := ⟨H1.out.1.below hb2, hs2, H1.out.2.1.trans (hb2.mono (by have := H1.out.2.2; omega)), by have := H1.out.2.2; omega, hz2, hf2⟩
  generalize W1.heap.size = og at *
  clear hs2 hf2 hb2 hz2 H1
  have a0 := H2.out.1.c0
  go_wp2_with fail
  refine (lend_any (byt_below HS.out.1 H2.out.2.2.1) hn).mono ?_
  rintro en W3 ⟨g, cg, rfl, hL3, hb3⟩
  have hgl := lent_le hL3
  have hog : og < W2.heap.size := by have := H2.out.2.2.2.2.1; omega
  have y0 : W3.cell? ⟨og, 0, .none⟩ = some (.slice p n c) := (H2.out.2.1.below hb3).c0
  have yf : W3.frozen? ⟨og, 0, .none⟩ = false := (hb3.frozen (p := ⟨og, 0, .none⟩) hog).trans (H2.out.2.2.2.2.2 0)
  go_upto_region 3 with fail
  have t4 : Trn og W3 (W3.setCell ⟨og, 0, .none⟩ (.slice (some ⟨g, 0, .none⟩) n cg)) := Trn.setCell _ _ _ _
  have hso : Sb (W3.setCell ⟨og, 0, .none⟩ (.slice (some ⟨g, 0, .none⟩) n cg)) og (some ⟨g, 0, .none⟩) n cg R S rd wt := by
    have h := H2.out.2.1.below hb3
    exact ⟨cell_one h.c0 _, cell_off h.c1 _ _ (by decide), cell_off h.c2 _ _ (by decide), cell_off h.c3 _ _ (by decide), cell_off h.c4 _ _ (by decide)⟩
  generalize W3.setCell ⟨og, 0, .none⟩ (.slice (some ⟨g, 0, .none⟩) n cg) = W4 at *
  have hg4 : g < W4.heap.size := by have := lent_lt hL3; have := t4.size; omega
  have H4 : Hid (Sb W4 w.heap.size p n c R S rd wt ∧ Sb W4 og (some ⟨g, 0, .none⟩) n cg R S rd wt ∧ Below w.heap.size w W4 ∧ Lent W4 W2.heap.size g cg xs ∧ (w.heap.size < og ∧ og < g ∧ g < W4.heap.size)) := by
    have hw := H2.out.2.2.2.1
    have hb5 := H2.out.2.2.1.trans (hb3.mono (by have := H2.out.2.2.2.2.1; omega))
    refine ⟨(H2.out.1.below hb3).keep t4 (by omega), hso, hb5.trans (t4.toBelow (by omega) hb5.size), lent_keep hL3 (Chg.ofTrn t4) (by show ¬ g = og; omega), by omega, by omega, hg4⟩
  have hcg : n ≤ cg ∧ cg ≤ maxLen := by
    have h := own_cap hL3
    have := hl.out
    exact ⟨by omega, h.2⟩
  have HCG : Hid (n ≤ cg ∧ cg ≤ maxLen) := hcg
  have hcg1 := hcg.1
  have hcg2 : cg ≤ 9223372036854775807 := hcg.2
  clear hL3 hb3 hgl hog y0 yf t4 hso hg4 a0 H2 hcg
  refine wp_region_lit ?_
  refine wpList_load_mid rfl 25 (.tmp 5) rfl og 0 (by rfl) _ _ H4.out.2.1.rangeAt Try.underlying25 rfl (by kernel_rfl) ?_
  simp only [Act.put, List.setIfInBounds_toArray, List.set_cons_succ, List.set_cons_zero]
  have Bo : Hid (Byt W4 (some ⟨g, 0, .none⟩) n cg xs) := by
    have := lent_byt H4.out.2.2.2.1
    rw [hl.out] at this
    exact this
  go_wp2_with fail
  refine (from_any R S rd wt Bo.out HS.out.2 HRS.out.1 HRS.out.2).mono ?_
  rintro en W5 ⟨hb5, hr5⟩
  have H5 : Hid (Sb W5 w.heap.size p n c R S rd wt ∧ Sb W5 og (some ⟨g, 0, .none⟩) n cg R S rd wt ∧ Below w.heap.size w W5 ∧ Lent W5 W2.heap.size g cg xs ∧ (w.heap.size < og ∧ og < g ∧ g < W4.heap.size ∧ W4.heap.size ≤ W5.heap.size)) := ⟨H4.out.1.below hb5, H4.out.2.1.below hb5, H4.out.2.2.1.trans (hb5.mono H4.out.2.2.1.size), lent_keep (S := fun _ => False) H4.out.2.2.2.1 (Chg.ofBelow hb5) (fun h => h), H4.out.2.2.2.2.1, H4.out.2.2.2.2.2.1, H4.out.2.2.2.2.2.2, hb5.size⟩
  have c6 := rfrom_any R S rd wt (byt_below HS.out.1 H5.out.2.2.1) HRS.out.1 HRS.out.2
  rcases hr5 with ⟨hno, gg, rfl, f0, f1, f2⟩ | ⟨hok, b, hbb, rfl, hp5⟩
  · have HF : Hid (¬ okS n R S ∧ gg < W5.heap.size ∧ W5.cell? ⟨gg, 0, .none⟩ = some (.string ⟨#[112, 105, 112, 101]⟩) ∧ W5.cell? ⟨gg, 1, .none⟩ = some (.int .i64 0) ∧ W5.cell? ⟨gg, 2, .none⟩ = some (.iface 55 (.int .i64 4))) := ⟨hno, lt_cell f0, f0, f1, f2⟩
    clear hno f0 f1 f2 hb5
    go_upto_region 4 with fail
    refine wp_region_lit ?_
    refine wpList_load_mid rfl 25 (.tmp 2) rfl w.heap.size 0 (by rfl) _ _ H5.out.1.rangeAt Try.underlying25 rfl (by kernel_rfl) ?_
    simp only [Act.put, List.setIfInBounds_toArray, List.set_cons_succ, List.set_cons_zero]
    go_wp2_with fail
    refine c6.mono ?_
    rintro en W6 ⟨hb6, hr6⟩
    have hen : en = .returned (.tuple #[.pointer .none, .bool false]) := by
      rcases hr6 with h | h
      · exact h.2
      · exact absurd h.1 HF.out.1
    subst hen
    have H6 : Hid (Below w.heap.size w W6 ∧ gg < W6.heap.size ∧ W6.cell? ⟨gg, 0, .none⟩ = some (.string ⟨#[112, 105, 112, 101]⟩) ∧ W6.cell? ⟨gg, 1, .none⟩ = some (.int .i64 0) ∧ W6.cell? ⟨gg, 2, .none⟩ = some (.iface 55 (.int .i64 4))) := by
      obtain ⟨_, h1, h2, h3, h4⟩ := HF.out
      exact ⟨H5.out.2.2.1.trans (hb6.mono H5.out.2.2.1.size), Nat.lt_of_lt_of_le h1 hb6.size, (hb6.cell (p := ⟨gg, 0, .none⟩) h1).trans h2, (hb6.cell (p := ⟨gg, 1, .none⟩) h1).trans h3, (hb6.cell (p := ⟨gg, 2, .none⟩) h1).trans h4⟩
    clear c6 hb6 hr6
    go_wp2_with fail
    refine (rnew_any ⟨#[112, 105, 112, 101]⟩ 0 4 W6).mono ?_
    rintro en W7 ⟨rfl, hw7⟩
    have hb7 : Below W6.heap.size W6 W7 := by rw [hw7]; exact ((Below.refl _ _).alloc (Nat.le_refl _) _).alloc (by simp only [World.size_alloc]; omega) _
    have hz7 : W7.heap.size = W6.heap.size + 2 := by rw [hw7]; simp
    have n0 : W7.cell? ⟨W6.heap.size + 1, 0, .none⟩ = some (.string ramB) := by rw [hw7, World.cell?_alloc_at _ _ _ _ (by simp)]; rfl
    have n1 : W7.cell? ⟨W6.heap.size + 1, 1, .none⟩ = some (.int .i64 0) := by rw [hw7, World.cell?_alloc_at _ _ _ _ (by simp)]; rfl
    have hFI : FaultIn W7 0 (.iface 54 (.pointer (some ⟨gg, 0, .none⟩))) 0 4 := by
      obtain ⟨_, h1, h2, h3, h4⟩ := H6.out
      exact ⟨gg, Nat.zero_le _, by omega, rfl, (hb7.cell (p := ⟨gg, 0, .none⟩) h1).trans h2, (hb7.cell (p := ⟨gg, 1, .none⟩) h1).trans h3, (hb7.cell (p := ⟨gg, 2, .none⟩) h1).trans h4⟩
    have c7 := is_fault (.iface 54 (.pointer (some ⟨gg, 0, .none⟩))) (W6.heap.size + 1) 1 0 4 W7 hFI (by decide) (by omega) n0 n1
    have HB7 : Hid (Below w.heap.size w W7) := H6.out.1.trans (hb7.mono H6.out.1.size)
    clear hw7 hb7 hz7 n0 n1 hFI
    go_wp2_with fail
    refine c7.mono ?_
    rintro en W8 ⟨rfl, hb8⟩
    have HE : Hid (Below w.heap.size w W8) := HB7.out.trans (hb8.mono HB7.out.size)
    clear c7 hb8
    go_wp2
    go_ret
    exact ⟨rfl, HE.out⟩
  · have HO : Hid (okS n R S ∧ Pip W5 b xs R rd wt ∧ W4.heap.size ≤ b ∧ b < W5.heap.size) := ⟨hok, hp5, hbb, hp5.lt⟩
    clear hok hp5 hbb hb5
    go_upto_region 4 with fail
    refine wp_region_lit ?_
    refine wpList_load_mid rfl 25 (.tmp 2) rfl w.heap.size 0 (by rfl) _ _ H5.out.1.rangeAt Try.underlying25 rfl (by kernel_rfl) ?_
    simp only [Act.put, List.setIfInBounds_toArray, List.set_cons_succ, List.set_cons_zero]
    go_wp2_with fail
    refine c6.mono ?_
    rintro en W6 ⟨hb6, hr6⟩
    obtain ⟨d, hd1, hd2, rfl, e, hDr, hrow, hed⟩ : ∃ d, W5.heap.size ≤ d ∧ d < W6.heap.size ∧ en = .returned (.tuple #[.pointer (some ⟨d, 0, .none⟩), .bool true]) ∧ ∃ e, Dr W6 d e R S rd wt ∧ W6.ownsRow W5.heap.size 5 1 e n (by8 xs) ∧ ∀ g, e.ownBlock = some g → g ≠ d := by
      rcases hr6 with h | h
      · exact absurd HO.out.1 h.1
      · exact h.2
    have hL6 : Lent W6 W2.heap.size g cg xs := lent_keep (S := fun _ => False) H5.out.2.2.2.1 (Chg.ofBelow hb6) (fun h => h)
    have HORD : Hid (w.heap.size < og ∧ og < g ∧ g < b ∧ b < d ∧ d < W6.heap.size ∧ ∀ k, e.ownBlock = some k → b < k ∧ k ≠ d) := by
      obtain ⟨_, _, _, _, h1, h2, h3, h4⟩ := H5.out
      have h5 := HO.out.2.2
      exact ⟨h1, h2, by omega, by omega, hd2, fun k hk => ⟨by have := own_block hrow k hk; omega, hed k hk⟩⟩
    have HFL : Hid (Fl w W6 p n c xs (mix xs 0) R S rd wt og g cg b d e) := by
      have hbb6 := H5.out.2.2.1.trans (hb6.mono H5.out.2.2.1.size)
      refine ⟨hbb6, H5.out.1.below hb6, H5.out.2.1.below hb6, byt_below HS.out.1 hbb6, fun j u hj => ?_, fun j => ?_, HO.out.2.1.below hb6, hDr, own_mono hrow (Nat.zero_le _), lent_lt hL6⟩
      · have := lent_byt hL6
        rcases this.2.2.2 with h0 | ⟨g', o', e', _, h6⟩
        · unfold mix at hj
          rw [List.take_zero, List.drop_zero, List.map_nil, List.nil_append, List.length_eq_zero_iff.1 h0] at hj
          cases hj
        · injection e' with e'
          injection e' with e1 e2 _
          subst e1 e2
          have := h6 j u hj
          rwa [Nat.zero_add] at this
      · exact World.ownsRow.frozenAt hL6 j
    have HL6 : Hid (Lent W6 W2.heap.size g cg xs) := hL6
    have HPX : Hid (0 < n → ∀ k o, p = some ⟨k, o, .none⟩ → k < w.heap.size) := fun h0 k o e0 => by
      rcases HS.out.1.2.2.2 with h1 | ⟨g', o', e', h2, _⟩
      · omega
      · rw [e0] at e'
        injection e' with e'
        injection e' with e1 _ _
        omega
    clear hd1 hd2 hDr hrow hed hL6 hb6 hr6 c6 H5 H4 Bo
    have z0 := HFL.out.o.c0
    have z1 := HFL.out.s.c0
    go_wp2_with fail
    refine (kept_any HFL.out.x hn HL6.out).mono ?_
    rintro en W7 ⟨rfl, k7, hk7⟩
    have H7 : Hid (Fl w W7 p n c xs (mix xs 0) R S rd wt og g cg b d e) := HFL.out.below (by subst hk7; exact ⟨rfl, rfl, rfl, Nat.le_refl _, fun _ _ => rfl⟩)
    clear hk7 z0 z1 HFL HL6
    go_wp2
    go_loopw [10] (fun iv wr => ∃ i : Nat, i ≤ n ∧ iv = .int .i64 i ∧ Hid (Fl w wr p n c xs (mix xs i) R S rd wt og g cg b d e)) (fun iv _ => (n - intOf iv).toNat)
    case atStart => exact ⟨0, by omega, rfl, H7⟩
    case round =>
      obtain ⟨i, hi, rfl, HW⟩ := hrel
      clear H7
      have z0 := HW.out.o.c0
      by_cases hlt : i < n
      · have g0 : (i : Int) < n := by omega
        have hx : ∃ x, xs[i]? = some x := ⟨xs[i]'(by rw [hl.out]; exact hlt), by simp⟩
        obtain ⟨x, hx⟩ := hx
        have hxb := HS.out.2 x (List.mem_of_getElem? hx)
        obtain ⟨hm1, hm2⟩ := mix_at xs i x hx
        have hxx := xor_any x hxb
        have HN : Hid (Fl w (wr.setCell ⟨g, i, .none⟩ (.int .u8 (255 - x))).drew p n c xs (mix xs (i + 1)) R S rd wt og g cg b d e) := by
          obtain ⟨h1, h2, h3, h4, h5, h6⟩ := HORD.out
          have := (HW.out.below (V := wr.drew) ((Below.refl _ _).drew)).setg i (255 - x) (by rw [mix_len _ _ (by rw [hl.out]; omega), hl.out]; exact hlt) h1 h2 h3 (by omega) (fun k hk => by have := (h6 k hk).1; omega) HPX.out
          rw [hm2] at this
          exact this
        have gx : wr.drew.cell? ⟨g, i, .none⟩ = some (.int .u8 x) := HW.out.gr i x hm1
        have gf : wr.drew.frozen? ⟨g, i, .none⟩ = false := HW.out.gf i
        have kS : wr.drew.cell? ⟨og, 0, .none⟩ = some (.slice (some ⟨g, 0, .none⟩) n cg) := z0
        have kS2 : (wr.setCell ⟨g, i, .none⟩ (.int .u8 (255 - x))).drew.cell? ⟨og, 0, .none⟩ = some (.slice (some ⟨g, 0, .none⟩) n cg) := HN.out.o.c0
        clear hx hm1 hm2
        go_upto_region 12 with fail
        refine wp_region_held_drew (S := fun U => U.cell? ⟨og, 0, .none⟩ = some (.slice (some ⟨g, 0, .none⟩) n cg)) (by kernel_rfl) kS (fun hHeld => ?_)
        refine wpAnyH_take (i := 0) (v := (.pointer (some ⟨og, 0, .none⟩))) rfl (by kernel_rfl) (by kernel_rfl) (by kernel_rfl) (fun _ _ _ h => h) (Or.inl ⟨by rfl, fun ww hSw => by (try dsimp only at hSw); go_simp⟩) (by assumption) ?_
        simp only [Act.put, List.setIfInBounds_toArray, List.set_cons_zero, List.set_cons_succ, List.getElem_toArray, List.getElem_cons_succ, List.getElem_cons_zero]
        refine wpAnyH_take (i := 1) (v := (.slice (some ⟨g, 0, .none⟩) n cg)) rfl (by kernel_rfl) (by kernel_rfl) (by kernel_rfl) (fun _ _ _ h => h) (Or.inl ⟨by rfl, fun ww hSw => by (try dsimp only at hSw); go_simp⟩) (by assumption) ?_
        simp only [Act.put, List.setIfInBounds_toArray, List.set_cons_zero, List.set_cons_succ, List.getElem_toArray, List.getElem_cons_succ, List.getElem_cons_zero]
        refine wpAnyH_take (i := 2) (v := (.int .i64 i)) rfl (by kernel_rfl) (by kernel_rfl) (by kernel_rfl) (fun _ _ _ h => h) (Or.inl ⟨by rfl, fun ww hSw => by (try dsimp only at hSw); go_simp⟩) (by assumption) ?_
        simp only [Act.put, List.setIfInBounds_toArray, List.set_cons_zero, List.set_cons_succ, List.getElem_toArray, List.getElem_cons_succ, List.getElem_cons_zero]
        refine wpAnyH_take (i := 3) (v := (.pointer (some ⟨og, 0, .none⟩))) rfl (by kernel_rfl) (by kernel_rfl) (by kernel_rfl) (fun _ _ _ h => h) (Or.inl ⟨by rfl, fun ww hSw => by (try dsimp only at hSw); go_simp⟩) (by assumption) ?_
        simp only [Act.put, List.setIfInBounds_toArray, List.set_cons_zero, List.set_cons_succ, List.getElem_toArray, List.getElem_cons_succ, List.getElem_cons_zero]
        refine wpAnyH_take (i := 4) (v := (.slice (some ⟨g, 0, .none⟩) n cg)) rfl (by kernel_rfl) (by kernel_rfl) (by kernel_rfl) (fun _ _ _ h => h) (Or.inl ⟨by rfl, fun ww hSw => by (try dsimp only at hSw); go_simp⟩) (by assumption) ?_
        simp only [Act.put, List.setIfInBounds_toArray, List.set_cons_zero, List.set_cons_succ, List.getElem_toArray, List.getElem_cons_succ, List.getElem_cons_zero]
        refine wpAnyH_take (i := 5) (v := (.int .i64 i)) rfl (by kernel_rfl) (by kernel_rfl) (by kernel_rfl) (fun _ _ _ h => h) (Or.inl ⟨by rfl, fun ww hSw => by (try dsimp only at hSw); go_simp⟩) (by assumption) ?_
        simp only [Act.put, List.setIfInBounds_toArray, List.set_cons_zero, List.set_cons_succ, List.getElem_toArray, List.getElem_cons_succ, List.getElem_cons_zero]
        refine wpAnyH_take (i := 6) (v := (.pointer (some ⟨g, i, .none⟩))) rfl (by kernel_rfl) (by kernel_rfl) (by kernel_rfl) (fun _ _ _ h => h) (Or.inl ⟨by rfl, fun ww hSw => by (try dsimp only at hSw); go_simp⟩) (by assumption) ?_
        simp only [Act.put, List.setIfInBounds_toArray, List.set_cons_zero, List.set_cons_succ, List.getElem_toArray, List.getElem_cons_succ, List.getElem_cons_zero]
        refine wpAnyH_ready (rs := [7]) (by kernel_rfl) (by simp) ?_
        refine AllReadyH.cons rfl (fun K hK => ?_) AllReadyH.nil
        go_simp
        refine hK.out _ _ kS (fun hHeld => ?_)
        clear hK K
        try simp only [Act.put, List.setIfInBounds_toArray, List.set_cons_zero, List.set_cons_succ, List.getElem_toArray, List.getElem_cons_succ, List.getElem_cons_zero]
        refine wpAnyH_take (i := 8) (v := (.int .u8 (255 - x))) rfl (by kernel_rfl) (by kernel_rfl) (by kernel_rfl) (fun _ _ _ h => h) (Or.inl ⟨by rfl, fun ww hSw => by (try dsimp only at hSw); go_simp⟩) (by assumption) ?_
        simp only [Act.put, List.setIfInBounds_toArray, List.set_cons_zero, List.set_cons_succ, List.getElem_toArray, List.getElem_cons_succ, List.getElem_cons_zero]
        refine wpAnyH_take (i := 9) (v := (.pointer (some ⟨g, i, .none⟩))) rfl (by kernel_rfl) (by kernel_rfl) (by kernel_rfl) (fun _ _ _ h => h) (Or.inl ⟨by rfl, fun ww hSw => by (try dsimp only at hSw); go_simp⟩) (by assumption) ?_
        simp only [Act.put, List.setIfInBounds_toArray, List.set_cons_zero, List.set_cons_succ, List.getElem_toArray, List.getElem_cons_succ, List.getElem_cons_zero]
        refine wpAnyH_ready (rs := [10]) (by kernel_rfl) (by simp) ?_
        refine AllReadyH.cons rfl (fun K hK => ?_) AllReadyH.nil
        go_simp
        refine hK.out _ _ kS2 (fun hHeld => ?_)
        clear hK K
        try simp only [Act.put, List.setIfInBounds_toArray, List.set_cons_zero, List.set_cons_succ, List.getElem_toArray, List.getElem_cons_succ, List.getElem_cons_zero]
        refine wpAnyH_done (by kernel_rfl) ?_ _
        generalize (wr.setCell ⟨g, i, .none⟩ (.int .u8 (255 - x))).drew = U1 at *
        clear hHeld kS kS2 gx gf hxx
        go_wp2
        exact ⟨⟨i + 1, by omega, rfl, HN⟩, by simp only [intOf]; omega⟩
      · obtain rfl : i = n := by omega
        obtain ⟨us, hus⟩ : ∃ us, us = mix xs i := ⟨_, rfl⟩
        have HU : Hid (us.length = i ∧ ∀ y ∈ us, 0 ≤ y ∧ y < 256) := by
          rw [hus]
          refine ⟨by rw [mix_len _ _ (by rw [hl.out]; omega), hl.out], ?_⟩
          have := mix_all xs HS.out.2
          rw [hl.out] at this
          exact this
        rw [← hus] at HW
        clear hus
        go_upto_region 13 with fail
        clear z0
        refine wp_region_lit ?_
        refine wpList_load_mid rfl 25 (.tmp 5) rfl og 0 (by rfl) _ _ HW.out.o.rangeAt Try.underlying25 rfl (by kernel_rfl) ?_
        simp only [Act.put, List.setIfInBounds_toArray, List.set_cons_succ, List.set_cons_zero]
        go_wp2_with fail
        refine (from_any R S rd wt (HW.out.ob HU.out.1 HCG.out) HU.out.2 HRS.out.1 HRS.out.2).mono ?_
        rintro en V1 ⟨hb1, hr1⟩
        obtain ⟨b2, hb2, rfl, hp2⟩ : ∃ b, wr.heap.size ≤ b ∧ en = .returned (.tuple #[.pointer (some ⟨b, 0, .none⟩), .nilIface]) ∧ Pip V1 b us R rd wt := by
          rcases hr1 with h | h
          · exact absurd HO.out.1 h.1
          · exact h.2
        have hdlt : d < wr.heap.size := lt_cell HW.out.dr.c0
        have M1 : Hid (Fl w V1 p i c xs us R S rd wt og g cg b d e ∧ Pip V1 b2 us R rd wt ∧ d < b2 ∧ (∀ k, e.ownBlock = some k → k ≠ b2)) := ⟨HW.out.below hb1, hp2, by omega, fun k hk => by have := own_ltC HW.out.row k hk; omega⟩
        clear hb1 hr1 hb2 hp2 HW hdlt
        go_upto_region 14 with fail
        have esS : ∀ ys : List Int, ys.length = i → (R + (ys.length : Int)) % 4294967296 = S := fun ys hy => by
          have h1 := HO.out.1.2
          have h2 := HRS.out
          rw [hy]
          omega
        have HES : Hid (∀ ys : List Int, ys.length = i → (R + (ys.length : Int)) % 4294967296 = S) := esS
        clear esS
        have h512 : i ≤ 512 := HO.out.1.1
        have kS : Sb V1.drew og (some ⟨g, 0, .none⟩) i cg R S rd wt ∧ Sb V1.drew w.heap.size p i c R S rd wt := ⟨⟨M1.out.1.o.c0, M1.out.1.o.c1, M1.out.1.o.c2, M1.out.1.o.c3, M1.out.1.o.c4⟩, ⟨M1.out.1.s.c0, M1.out.1.s.c1, M1.out.1.s.c2, M1.out.1.s.c3, M1.out.1.s.c4⟩⟩
        have M2 : Hid (Fl w V1.drew p i c xs us R S rd wt og g cg b d e ∧ Pip V1.drew b2 us R rd wt) := ⟨M1.out.1.below ((Below.refl _ _).drew), M1.out.2.1.below ((Below.refl _ _).drew)⟩
        refine wp_region_held_drew (S := fun U => Sb U og (some ⟨g, 0, .none⟩) i cg R S rd wt ∧ Sb U w.heap.size p i c R S rd wt) (by kernel_rfl) kS (fun hHeld => ?_)
        refine wpAnyH_take (i := 0) (v := (.pointer (some ⟨b2, 0, .none⟩))) rfl (by kernel_rfl) (by kernel_rfl) (by kernel_rfl) (fun _ _ _ h => h) (Or.inl ⟨by rfl, fun ww hSw => by (try dsimp only at hSw); go_simp⟩) (by assumption) ?_
        simp only [Act.put, List.setIfInBounds_toArray, List.set_cons_zero, List.set_cons_succ, List.getElem_toArray, List.getElem_cons_succ, List.getElem_cons_zero]
        refine wpAnyH_take (i := 1) (v := (.bool false)) rfl (by kernel_rfl) (by kernel_rfl) (by kernel_rfl) (fun _ _ _ h => h) (Or.inl ⟨by rfl, fun ww hSw => by (try dsimp only at hSw); go_simp⟩) (by assumption) ?_
        simp only [Act.put, List.setIfInBounds_toArray, List.set_cons_zero, List.set_cons_succ, List.getElem_toArray, List.getElem_cons_succ, List.getElem_cons_zero]
        refine wpAnyH_take (i := 2) (v := (.bool false)) rfl (by kernel_rfl) (by kernel_rfl) (by kernel_rfl) (fun _ _ _ h => h) (Or.inl ⟨by rfl, fun ww hSw => by (try dsimp only at hSw); go_simp⟩) (by assumption) ?_
        simp only [Act.put, List.setIfInBounds_toArray, List.set_cons_zero, List.set_cons_succ, List.getElem_toArray, List.getElem_cons_succ, List.getElem_cons_zero]
        refine wpAnyH_take (i := 3) (v := .nilIface) rfl (by kernel_rfl) (by kernel_rfl) (by kernel_rfl) (fun _ _ _ h => h) (Or.inl ⟨by rfl, fun ww hSw => by (try dsimp only at hSw); go_simp⟩) (by assumption) ?_
        simp only [Act.put, List.setIfInBounds_toArray, List.set_cons_zero, List.set_cons_succ, List.getElem_toArray, List.getElem_cons_succ, List.getElem_cons_zero]
        refine wpAnyH_take (i := 4) (v := (.bool false)) rfl (by kernel_rfl) (by kernel_rfl) (by kernel_rfl) (fun _ _ _ h => h) (Or.inl ⟨by rfl, fun ww hSw => by (try dsimp only at hSw); go_simp⟩) (by assumption) ?_
        simp only [Act.put, List.setIfInBounds_toArray, List.set_cons_zero, List.set_cons_succ, List.getElem_toArray, List.getElem_cons_succ, List.getElem_cons_zero]
        refine wpAnyH_take (i := 5) (v := (.bool false)) rfl (by kernel_rfl) (by kernel_rfl) (by kernel_rfl) (fun _ _ _ h => h) (Or.inl ⟨by rfl, fun ww hSw => by (try dsimp only at hSw); go_simp⟩) (by assumption) ?_
        simp only [Act.put, List.setIfInBounds_toArray, List.set_cons_zero, List.set_cons_succ, List.getElem_toArray, List.getElem_cons_succ, List.getElem_cons_zero]
        refine wpAnyH_take (i := 6) (v := (.bool false)) rfl (by kernel_rfl) (by kernel_rfl) (by kernel_rfl) (fun _ _ _ h => h) (Or.inl ⟨by rfl, fun ww hSw => by (try dsimp only at hSw); go_simp⟩) (by assumption) ?_
        simp only [Act.put, List.setIfInBounds_toArray, List.set_cons_zero, List.set_cons_succ, List.getElem_toArray, List.getElem_cons_succ, List.getElem_cons_zero]
        refine wpAnyH_take (i := 7) (v := (.pointer (some ⟨b2, 0, .none⟩))) rfl (by kernel_rfl) (by kernel_rfl) (by kernel_rfl) (fun _ _ _ h => h) (Or.inl ⟨by rfl, fun ww hSw => by (try dsimp only at hSw); go_simp⟩) (by assumption) ?_
        simp only [Act.put, List.setIfInBounds_toArray, List.set_cons_zero, List.set_cons_succ, List.getElem_toArray, List.getElem_cons_succ, List.getElem_cons_zero]
        refine wpAnyH_take (i := 9) (v := .agg #[.slice (some ⟨g, 0, .none⟩) i cg, .int .u32 R, .int .u32 S, .bool rd, .bool wt]) rfl (by kernel_rfl) (by kernel_rfl) (by kernel_rfl) (fun _ _ _ h => h) (yieldsIf_load_mid (by rfl) 25 (.tmp 5) rfl og 0 (by rfl) _ _ (fun ww hSw => Sb.rangeAt hSw.1) Try.underlying25 rfl (by kernel_rfl)) (by assumption) ?_
        simp only [Act.put, List.setIfInBounds_toArray, List.set_cons_zero, List.set_cons_succ, List.getElem_toArray, List.getElem_cons_succ, List.getElem_cons_zero]
        refine wpAnyH_ready (rs := [8]) (by kernel_rfl) (by simp) ?_
        refine AllReadyH.cons rfl (fun K hK => ?_) AllReadyH.nil
        go_simp
        refine (state_pip M2.out.2).mono ?_
        rintro en A1 ⟨ap1, ac1, rfl, hO1, hb1, _⟩
        have es1 : stt ap1 us.length ac1 R rd wt = .agg #[.slice ap1 i ac1, .int .u32 R, .int .u32 S, .bool rd, .bool wt] := by unfold stt; rw [HES.out us HU.out.1, HU.out.1]
        rw [es1]
        have hBa1 : Byt A1 ap1 i ac1 us := by have := byt_own hO1; rwa [HU.out.1] at this
        have Q1 : Fl w A1 p i c xs us R S rd wt og g cg b d e ∧ Pip A1 b2 us R rd wt := ⟨M2.out.1.below hb1, M2.out.2.below hb1⟩
        clear es1 hO1 hb1
        refine hK.out _ _ ⟨Q1.1.o, Q1.1.s⟩ (fun hHeld => ?_)
        clear hK K
        try simp only [Act.put, List.setIfInBounds_toArray, List.set_cons_zero, List.set_cons_succ, List.getElem_toArray, List.getElem_cons_succ, List.getElem_cons_zero]
        refine wpAnyH_ready (rs := [10]) (by kernel_rfl) (by simp) ?_
        refine AllReadyH.cons rfl (fun K hK => ?_) AllReadyH.nil
        go_simp
        refine (same_any R S rd wt hBa1 (Q1.1.ob HU.out.1 HCG.out) (by omega)).mono ?_
        rintro en B1 ⟨rfl, hc1⟩
        have P1 : Fl w B1 p i c xs us R S rd wt og g cg b d e ∧ Pip B1 b2 us R rd wt := ⟨Q1.1.below hc1, Q1.2.below hc1⟩
        clear hc1 hBa1 Q1
        refine hK.out _ _ ⟨P1.1.o, P1.1.s⟩ (fun hHeld => ?_)
        clear hK K
        try simp only [Act.put, List.setIfInBounds_toArray, List.set_cons_zero, List.set_cons_succ, List.getElem_toArray, List.getElem_cons_succ, List.getElem_cons_zero]
        refine wpAnyH_take (i := 11) (v := (.bool false)) rfl (by kernel_rfl) (by kernel_rfl) (by kernel_rfl) (fun _ _ _ h => h) (Or.inl ⟨by rfl, fun ww hSw => by (try dsimp only at hSw); go_simp⟩) (by assumption) ?_
        simp only [Act.put, List.setIfInBounds_toArray, List.set_cons_zero, List.set_cons_succ, List.getElem_toArray, List.getElem_cons_succ, List.getElem_cons_zero]
        refine wpAnyH_take (i := 12) (v := (.bool false)) rfl (by kernel_rfl) (by kernel_rfl) (by kernel_rfl) (fun _ _ _ h => h) (Or.inl ⟨by rfl, fun ww hSw => by (try dsimp only at hSw); go_simp⟩) (by assumption) ?_
        simp only [Act.put, List.setIfInBounds_toArray, List.set_cons_zero, List.set_cons_succ, List.getElem_toArray, List.getElem_cons_succ, List.getElem_cons_zero]
        refine wpAnyH_take (i := 13) (v := (.bool false)) rfl (by kernel_rfl) (by kernel_rfl) (by kernel_rfl) (fun _ _ _ h => h) (Or.inl ⟨by rfl, fun ww hSw => by (try dsimp only at hSw); go_simp⟩) (by assumption) ?_
        simp only [Act.put, List.setIfInBounds_toArray, List.set_cons_zero, List.set_cons_succ, List.getElem_toArray, List.getElem_cons_succ, List.getElem_cons_zero]
        refine wpAnyH_take (i := 14) (v := (.pointer (some ⟨b, 0, .none⟩))) rfl (by kernel_rfl) (by kernel_rfl) (by kernel_rfl) (fun _ _ _ h => h) (Or.inl ⟨by rfl, fun ww hSw => by (try dsimp only at hSw); go_simp⟩) (by assumption) ?_
        simp only [Act.put, List.setIfInBounds_toArray, List.set_cons_zero, List.set_cons_succ, List.getElem_toArray, List.getElem_cons_succ, List.getElem_cons_zero]
        refine wpAnyH_take (i := 16) (v := .agg #[.slice p i c, .int .u32 R, .int .u32 S, .bool rd, .bool wt]) rfl (by kernel_rfl) (by kernel_rfl) (by kernel_rfl) (fun _ _ _ h => h) (yieldsIf_load_mid (by rfl) 25 (.tmp 2) rfl w.heap.size 0 (by rfl) _ _ (fun ww hSw => Sb.rangeAt hSw.2) Try.underlying25 rfl (by kernel_rfl)) (by assumption) ?_
        simp only [Act.put, List.setIfInBounds_toArray, List.set_cons_zero, List.set_cons_succ, List.getElem_toArray, List.getElem_cons_succ, List.getElem_cons_zero]
        refine wpAnyH_ready (rs := [15]) (by kernel_rfl) (by simp) ?_
        refine AllReadyH.cons rfl (fun K hK => ?_) AllReadyH.nil
        go_simp
        refine (state_pip P1.1.pp).mono ?_
        rintro en A2 ⟨ap2, ac2, rfl, hO2, hb2, _⟩
        have es2 : stt ap2 xs.length ac2 R rd wt = .agg #[.slice ap2 i ac2, .int .u32 R, .int .u32 S, .bool rd, .bool wt] := by unfold stt; rw [HES.out xs hl.out, hl.out]
        rw [es2]
        have hBa2 : Byt A2 ap2 i ac2 xs := by have := byt_own hO2; rwa [hl.out] at this
        have Q2 : Fl w A2 p i c xs us R S rd wt og g cg b d e ∧ Pip A2 b2 us R rd wt := ⟨P1.1.below hb2, P1.2.below hb2⟩
        clear es2 hO2 hb2
        refine hK.out _ _ ⟨Q2.1.o, Q2.1.s⟩ (fun hHeld => ?_)
        clear hK K
        try simp only [Act.put, List.setIfInBounds_toArray, List.set_cons_zero, List.set_cons_succ, List.getElem_toArray, List.getElem_cons_succ, List.getElem_cons_zero]
        refine wpAnyH_ready (rs := [17]) (by kernel_rfl) (by simp) ?_
        refine AllReadyH.cons rfl (fun K hK => ?_) AllReadyH.nil
        go_simp
        refine (same_any R S rd wt hBa2 (Q2.1.x) (by omega)).mono ?_
        rintro en B2 ⟨rfl, hc2⟩
        have P2 : Fl w B2 p i c xs us R S rd wt og g cg b d e ∧ Pip B2 b2 us R rd wt := ⟨Q2.1.below hc2, Q2.2.below hc2⟩
        clear hc2 hBa2 Q2
        refine hK.out _ _ ⟨P2.1.o, P2.1.s⟩ (fun hHeld => ?_)
        clear hK K
        try simp only [Act.put, List.setIfInBounds_toArray, List.set_cons_zero, List.set_cons_succ, List.getElem_toArray, List.getElem_cons_succ, List.getElem_cons_zero]
        refine wpAnyH_take (i := 18) (v := (.bool false)) rfl (by kernel_rfl) (by kernel_rfl) (by kernel_rfl) (fun _ _ _ h => h) (Or.inl ⟨by rfl, fun ww hSw => by (try dsimp only at hSw); go_simp⟩) (by assumption) ?_
        simp only [Act.put, List.setIfInBounds_toArray, List.set_cons_zero, List.set_cons_succ, List.getElem_toArray, List.getElem_cons_succ, List.getElem_cons_zero]
        refine wpAnyH_take (i := 19) (v := (.bool false)) rfl (by kernel_rfl) (by kernel_rfl) (by kernel_rfl) (fun _ _ _ h => h) (Or.inl ⟨by rfl, fun ww hSw => by (try dsimp only at hSw); go_simp⟩) (by assumption) ?_
        simp only [Act.put, List.setIfInBounds_toArray, List.set_cons_zero, List.set_cons_succ, List.getElem_toArray, List.getElem_cons_succ, List.getElem_cons_zero]
        refine wpAnyH_done (by kernel_rfl) ?_ _
        have M3 : Hid (Fl w B2 p i c xs us R S rd wt og g cg b d e ∧ Pip B2 b2 us R rd wt) := P2
        clear hHeld kS M2 P1 P2
        go_upto_region 17 with fail
        have hb7 := Trn.new B2 (.cells #[.slice none 0 0, .slice none 0 0, .slice none 0 0, .int .i64 0] 47)
        have hz7 : (B2.alloc (.cells #[.slice none 0 0, .slice none 0 0, .slice none 0 0, .int .i64 0] 47)).heap.size = B2.heap.size + 1 := by simp
        have hfz := froz_new B2 #[.slice none 0 0, .slice none 0 0, .slice none 0 0, .int .i64 0] 47
        have s1 : (B2.alloc (.cells #[.slice none 0 0, .slice none 0 0, .slice none 0 0, .int .i64 0] 47)).cell? ⟨B2.heap.size, 1, .none⟩ = some (.slice none 0 0) := by rw [World.cell?_alloc_at _ _ _ _ rfl]; rfl
        have s2 : (B2.alloc (.cells #[.slice none 0 0, .slice none 0 0, .slice none 0 0, .int .i64 0] 47)).cell? ⟨B2.heap.size, 2, .none⟩ = some (.slice none 0 0) := by rw [World.cell?_alloc_at _ _ _ _ rfl]; rfl
        have s3 : (B2.alloc (.cells #[.slice none 0 0, .slice none 0 0, .slice none 0 0, .int .i64 0] 47)).cell? ⟨B2.heap.size, 3, .none⟩ = some (.int .i64 ((0 : Nat) : Int)) := by rw [World.cell?_alloc_at _ _ _ _ rfl]; rfl
        generalize B2.alloc (.cells #[.slice none 0 0, .slice none 0 0, .slice none 0 0, .int .i64 0] 47) = W8 at *
        have hd8 : d < B2.heap.size := lt_cell M3.out.1.dr.c0
        have hb28 : b2 < B2.heap.size := M3.out.2.lt
        have hg8 := M3.out.1.gl
        have HL0 : Hid (∃ F, Lp w W8 W8.heap.size b d B2.heap.size 0 e F xs R rd wt og g cg i b2 us R S rd wt) := by
          obtain ⟨o1, o2, o3, o4, _, o6⟩ := HORD.out
          have hshel : Shel W8 W8.heap.size B2.heap.size 0 (fpS (0 / 2) (0 / 2) (fun _ => .slice none 0 0) (fun _ => .slice none 0 0) (.slice none 0 0) (.slice none 0 0)) :=
            ⟨fun _ => .slice none 0 0, fun _ => .slice none 0 0, fun _ => [], .slice none 0 0, .slice none 0 0, ⟨s1, s2, s3, hfz, by omega, Nat.le_refl _, World.ownsRow_nil _ _ _ _, World.ownsRow_nil _ _ _ _, fun i hi => (by omega), fun i hi => (by omega), fun i hi => (by omega), fun i j hi => (by omega), (fun g hg => by cases hg), Nat.le_refl _⟩, fun g => Iff.rfl⟩
          have f8 := M3.out.1.below hb7
          have hq8 : Dq W8 d e W8.heap.size xs R rd wt := ⟨by rw [HES.out xs hl.out]; exact f8.dr, by rw [hl.out]; exact f8.row, by omega, Nat.le_refl _, HRS.out.1, by rw [hl.out]; exact h512, fun k hk => (o6 k hk).2⟩
          refine ⟨_, ⟨f8.pp, hq8, hshel, fun k hk hf => ?_, by omega, by omega, by omega, by omega, by omega, by omega, by omega, fun k hk => ?_⟩, f8.bel, f8.o, f8.ob HU.out.1 HCG.out, M3.out.2.below hb7, fun k hk => ?_⟩
          · rcases hf with h | h | ⟨_, h, _⟩ | ⟨_, h, _⟩
            · cases h
            · cases h
            · omega
            · omega
          · have h1 := (o6 k hk).1
            have h2 := own_ltC M3.out.1.row k hk
            exact ⟨by omega, by omega, by omega⟩
          · have h1 := (o6 k hk).1
            exact ⟨M1.out.2.2.2 k hk, by omega, by omega⟩
        have HXX : Hid ((og < W8.heap.size ∧ g < W8.heap.size ∧ b2 < W8.heap.size) ∧ (og ≠ b ∧ og ≠ d ∧ og ≠ B2.heap.size) ∧ (g ≠ b ∧ g ≠ d ∧ g ≠ B2.heap.size) ∧ (b2 ≠ b ∧ b2 ≠ d ∧ b2 ≠ B2.heap.size)) := by
          obtain ⟨o1, o2, o3, o4, _, o6⟩ := HORD.out
          have h1 := M1.out.2.2.1
          exact ⟨⟨by omega, by omega, by omega⟩, ⟨by omega, by omega, by omega⟩, ⟨by omega, by omega, by omega⟩, by omega, by omega, by omega⟩
        clear hb7 hz7 hfz s1 s2 s3 hd8 hb28 hg8 M3 M1
        generalize B2.heap.size = sh at *
        generalize W8.heap.size = X at *
        go_wp2
        go_loopw [13] (fun iv wr => ∃ I : Nat, I ≤ m ∧ iv = .int .i64 I ∧ Hid (∃ cnt e F xs r rd' wt', cnt ≤ 2 * I ∧ Lp w wr X b d sh cnt e F xs r rd' wt' og g cg i b2 us R S rd wt)) (fun iv _ => (m - intOf iv).toNat)
        case atStart =>
          obtain ⟨F, h⟩ := HL0.out
          exact ⟨0, by omega, rfl, 0, e, F, _, _, _, _, by omega, h⟩
        case round =>
          obtain ⟨I, hI, rfl, HM⟩ := hrel
          clear HL0
          obtain ⟨cnt, e, F, xa, ra, rda, wta, hcn, hT⟩ := HM.out
          have HP : Hid (Lp w wr X b d sh cnt e F xa ra rda wta og g cg i b2 us R S rd wt) := hT
          clear HM hT
          by_cases hlt : I < m
          · have g0 : (I : Int) < m := by omega
            obtain ⟨ab, ao, hq, hab, k0, k1, k2, k3⟩ := HA.out.cells HP.out.bel I hlt
            have HKR : Hid (wr.rangeAt ab (ao + I * 4) [.int .i64 (O I).k, .int .i64 (O I).wh, .slice (O I).s (O I).ln (O I).cd, .int .i64 (O I).n]) := fun j u hj => by
              match j, hj with
              | 0, hj => cases hj; exact k0
              | 1, hj => cases hj; exact k1
              | 2, hj => cases hj; exact k2
              | 3, hj => cases hj; exact k3
            have HD : Hid (Byt w (O I).s (O I).ln (O I).cd (O I).xs ∧ (∀ y ∈ (O I).xs, 0 ≤ y ∧ y < 256) ∧ (O I).ln < 140737488355000) := ⟨HA.out.byt I hlt, HA.out.bd I hlt, HA.out.ln I hlt⟩
            subst hq
            generalize (O I).k = Kd at *
            generalize (O I).wh = wh at *
            generalize (O I).n = Nn at *
            generalize (O I).s = ds at *
            generalize (O I).ln = dl at *
            generalize (O I).cd = dc at *
            generalize (O I).xs = ys at *
            clear k0 k1 k2 k3
            have hdz : 0 < dl → ∀ g o, ds = some ⟨g, o, .none⟩ → g < w.heap.size := fun h0 g o e => by
              rcases HD.out.1.2.2.2 with h1 | ⟨g', o', e', h2, _⟩
              · omega
              · rw [e] at e'
                injection e' with e'
                injection e' with e1 _ _
                omega
            have c12 := act_any HP.out.st (by omega) Kd wh Nn (byt_below HD.out.1 HP.out.bel) HD.out.2.1 HD.out.2.2 hdz
            clear hdz
            go_wp2_with (first | (refine wpList_load_mid rfl 50 (.tmp 106) rfl ab (ao + I * 4) (by rfl) _ _ HKR.out Try.underlying50 rfl (by kernel_rfl) ?_) | fail)
            refine c12.mono ?_
            rintro en V1 ⟨rfl, hE⟩
            obtain ⟨cnt', e', F', xs', r', rd', wt', hc', hT'⟩ := HP.out.act HXX.out.1 HXX.out.2.1 HXX.out.2.2.1 HXX.out.2.2.2 hE
            have HN : Hid (∃ cnt e F xs r rd' wt', cnt ≤ 2 * (I + 1) ∧ Lp w V1 X b d sh cnt e F xs r rd' wt' og g cg i b2 us R S rd wt) := ⟨_, _, _, _, _, _, _, by omega, hT'⟩
            clear c12 hE hT'
            go_wp2
            exact ⟨⟨I + 1, by omega, rfl, HN⟩, by simp only [intOf]; omega⟩
          · obtain rfl : I = m := by omega
            go_upto_region 22 with fail
            have P0 := HP.out.below (v := wr.drew) ((Below.refl _ _).drew)
            have hx5 := HP.out.st.p.1
            have kS : Sb wr.drew og (some ⟨g, 0, .none⟩) i cg R S rd wt := P0.o
            refine wp_region_held_drew (S := fun U => Sb U og (some ⟨g, 0, .none⟩) i cg R S rd wt) (by kernel_rfl) kS (fun hHeld => ?_)
            refine wpAnyH_take (i := 0) (v := (.pointer (some ⟨b, 0, .none⟩))) rfl (by kernel_rfl) (by kernel_rfl) (by kernel_rfl) (fun _ _ _ h => h) (Or.inl ⟨by rfl, fun ww hSw => by (try dsimp only at hSw); go_simp⟩) (by assumption) ?_
            simp only [Act.put, List.setIfInBounds_toArray, List.set_cons_zero, List.set_cons_succ, List.getElem_toArray, List.getElem_cons_succ, List.getElem_cons_zero]
            refine wpAnyH_take (i := 2) (v := (.pointer (some ⟨d, 0, .none⟩))) rfl (by kernel_rfl) (by kernel_rfl) (by kernel_rfl) (fun _ _ _ h => h) (Or.inl ⟨by rfl, fun ww hSw => by (try dsimp only at hSw); go_simp⟩) (by assumption) ?_
            simp only [Act.put, List.setIfInBounds_toArray, List.set_cons_zero, List.set_cons_succ, List.getElem_toArray, List.getElem_cons_succ, List.getElem_cons_zero]
            refine wpAnyH_ready (rs := [1]) (by kernel_rfl) (by simp) ?_
            refine AllReadyH.cons rfl (fun K hK => ?_) AllReadyH.nil
            go_simp
            refine (state_pip P0.st.p).mono ?_
            rintro en A1 ⟨ap1, ac1, rfl, hO1, hb1, _⟩
            have P1 := P0.below hb1
            have Ba1 := byt_own hO1
            clear hO1 hb1
            refine hK.out _ _ P1.o (fun hHeld => ?_)
            clear hK K
            try simp only [Act.put, List.setIfInBounds_toArray, List.set_cons_zero, List.set_cons_succ, List.getElem_toArray, List.getElem_cons_succ, List.getElem_cons_zero]
            refine wpAnyH_ready (rs := [3]) (by kernel_rfl) (by simp) ?_
            refine AllReadyH.cons rfl (fun K hK => ?_) AllReadyH.nil
            go_simp
            refine (rstate_any P1.st.q).mono ?_
            rintro en A2 ⟨ap2, ac2, rfl, hB2, _, hb2⟩
            have P2 := P1.below hb2
            have Ba2 := byt_below Ba1 hb2
            clear hb2 Ba1
            refine hK.out _ _ P2.o (fun hHeld => ?_)
            clear hK K
            try simp only [Act.put, List.setIfInBounds_toArray, List.set_cons_zero, List.set_cons_succ, List.getElem_toArray, List.getElem_cons_succ, List.getElem_cons_zero]
            refine wpAnyH_ready (rs := [4]) (by kernel_rfl) (by simp) ?_
            refine AllReadyH.cons rfl (fun K hK => ?_) AllReadyH.nil
            go_simp
            refine (same_any ra ((ra + (xa.length : Int)) % 4294967296) rda wta Ba2 hB2 (by omega)).mono ?_
            rintro en A3 ⟨rfl, hb3⟩
            have P3 := P2.below hb3
            clear hb3 Ba2 hB2 P1 P2
            refine hK.out _ _ P3.o (fun hHeld => ?_)
            clear hK K
            try simp only [Act.put, List.setIfInBounds_toArray, List.set_cons_zero, List.set_cons_succ, List.getElem_toArray, List.getElem_cons_succ, List.getElem_cons_zero]
            refine wpAnyH_take (i := 5) (v := (.bool true)) rfl (by kernel_rfl) (by kernel_rfl) (by kernel_rfl) (fun _ _ _ h => h) (Or.inl ⟨by rfl, fun ww hSw => by (try dsimp only at hSw); go_simp⟩) (by assumption) ?_
            simp only [Act.put, List.setIfInBounds_toArray, List.set_cons_zero, List.set_cons_succ, List.getElem_toArray, List.getElem_cons_succ, List.getElem_cons_zero]
            refine wpAnyH_take (i := 6) (v := (.pointer (some ⟨b2, 0, .none⟩))) rfl (by kernel_rfl) (by kernel_rfl) (by kernel_rfl) (fun _ _ _ h => h) (Or.inl ⟨by rfl, fun ww hSw => by (try dsimp only at hSw); go_simp⟩) (by assumption) ?_
            simp only [Act.put, List.setIfInBounds_toArray, List.set_cons_zero, List.set_cons_succ, List.getElem_toArray, List.getElem_cons_succ, List.getElem_cons_zero]
            refine wpAnyH_take (i := 8) (v := .agg #[.slice (some ⟨g, 0, .none⟩) i cg, .int .u32 R, .int .u32 S, .bool rd, .bool wt]) rfl (by kernel_rfl) (by kernel_rfl) (by kernel_rfl) (fun _ _ _ h => h) (yieldsIf_load_mid (by rfl) 25 (.tmp 5) rfl og 0 (by rfl) _ _ (fun ww hSw => Sb.rangeAt hSw) Try.underlying25 rfl (by kernel_rfl)) (by assumption) ?_
            simp only [Act.put, List.setIfInBounds_toArray, List.set_cons_zero, List.set_cons_succ, List.getElem_toArray, List.getElem_cons_succ, List.getElem_cons_zero]
            refine wpAnyH_ready (rs := [7]) (by kernel_rfl) (by simp) ?_
            refine AllReadyH.cons rfl (fun K hK => ?_) AllReadyH.nil
            go_simp
            refine (state_pip P3.p2).mono ?_
            rintro en A4 ⟨ap4, ac4, rfl, hO4, hb4, _⟩
            have es4 : stt ap4 us.length ac4 R rd wt = .agg #[.slice ap4 i ac4, .int .u32 R, .int .u32 S, .bool rd, .bool wt] := by unfold stt; rw [HES.out us HU.out.1, HU.out.1]
            rw [es4]
            have Ba4 : Byt A4 ap4 i ac4 us := by have := byt_own hO4; rwa [HU.out.1] at this
            have P4 := P3.below hb4
            clear es4 hO4 hb4
            refine hK.out _ _ P4.o (fun hHeld => ?_)
            clear hK K
            try simp only [Act.put, List.setIfInBounds_toArray, List.set_cons_zero, List.set_cons_succ, List.getElem_toArray, List.getElem_cons_succ, List.getElem_cons_zero]
            refine wpAnyH_ready (rs := [9]) (by kernel_rfl) (by simp) ?_
            refine AllReadyH.cons rfl (fun K hK => ?_) AllReadyH.nil
            go_simp
            refine (same_any R S rd wt Ba4 P4.x (by omega)).mono ?_
            rintro en A5 ⟨rfl, hb5⟩
            have P5 := P4.below hb5
            clear hb5 Ba4 P4
            refine hK.out _ _ P5.o (fun hHeld => ?_)
            clear hK K
            try simp only [Act.put, List.setIfInBounds_toArray, List.set_cons_zero, List.set_cons_succ, List.getElem_toArray, List.getElem_cons_succ, List.getElem_cons_zero]
            refine wpAnyH_take (i := 10) (v := (.bool true)) rfl (by kernel_rfl) (by kernel_rfl) (by kernel_rfl) (fun _ _ _ h => h) (Or.inl ⟨by rfl, fun ww hSw => by (try dsimp only at hSw); go_simp⟩) (by assumption) ?_
            simp only [Act.put, List.setIfInBounds_toArray, List.set_cons_zero, List.set_cons_succ, List.getElem_toArray, List.getElem_cons_succ, List.getElem_cons_zero]
            refine wpAnyH_take (i := 11) (v := (.bool true)) rfl (by kernel_rfl) (by kernel_rfl) (by kernel_rfl) (fun _ _ _ h => h) (Or.inl ⟨by rfl, fun ww hSw => by (try dsimp only at hSw); go_simp⟩) (by assumption) ?_
            simp only [Act.put, List.setIfInBounds_toArray, List.set_cons_zero, List.set_cons_succ, List.getElem_toArray, List.getElem_cons_succ, List.getElem_cons_zero]
            refine wpAnyH_take (i := 12) (v := (.pointer (some ⟨sh, 0, .none⟩))) rfl (by kernel_rfl) (by kernel_rfl) (by kernel_rfl) (fun _ _ _ h => h) (Or.inl ⟨by rfl, fun ww hSw => by (try dsimp only at hSw); go_simp⟩) (by assumption) ?_
            simp only [Act.put, List.setIfInBounds_toArray, List.set_cons_zero, List.set_cons_succ, List.getElem_toArray, List.getElem_cons_succ, List.getElem_cons_zero]
            refine wpAnyH_ready (rs := [13]) (by kernel_rfl) (by simp) ?_
            refine AllReadyH.cons rfl (fun K hK => ?_) AllReadyH.nil
            go_simp
            refine (send_any P5.st.s (by omega)).mono ?_
            rintro en A6 ⟨rfl, ht6⟩
            have HE : Hid (Below w.heap.size w A6) := P5.bel.trans (ht6.toTrn P5.bel.size (fun k hk hf => by have := (P5.st.s.ge k hf).1; have := P5.st.bX; have := P5.st.zb; omega))
            have kS6 : Sb A6 og (some ⟨g, 0, .none⟩) i cg R S rd wt := P5.o.keepC ht6 (fun h => by have := (P5.st.s.ge og h).1; have := HXX.out.1.1; omega)
            clear ht6
            refine hK.out _ _ kS6 (fun hHeld => ?_)
            clear hK K
            try simp only [Act.put, List.setIfInBounds_toArray, List.set_cons_zero, List.set_cons_succ, List.getElem_toArray, List.getElem_cons_succ, List.getElem_cons_zero]
            refine wpAnyH_take (i := 14) (v := (.bool true)) rfl (by kernel_rfl) (by kernel_rfl) (by kernel_rfl) (fun _ _ _ h => h) (Or.inl ⟨by rfl, fun ww hSw => by (try dsimp only at hSw); go_simp⟩) (by assumption) ?_
            simp only [Act.put, List.setIfInBounds_toArray, List.set_cons_zero, List.set_cons_succ, List.getElem_toArray, List.getElem_cons_succ, List.getElem_cons_zero]
            refine wpAnyH_take (i := 15) (v := (.bool true)) rfl (by kernel_rfl) (by kernel_rfl) (by kernel_rfl) (fun _ _ _ h => h) (Or.inl ⟨by rfl, fun ww hSw => by (try dsimp only at hSw); go_simp⟩) (by assumption) ?_
            simp only [Act.put, List.setIfInBounds_toArray, List.set_cons_zero, List.set_cons_succ, List.getElem_toArray, List.getElem_cons_succ, List.getElem_cons_zero]
            refine wpAnyH_done (by kernel_rfl) ?_ _
            clear hHeld kS kS6 P0 P3 P5
            go_wp2
            go_ret
            exact ⟨rfl, HE.out⟩
end Go.Proofs.Ytabhojfdkmeaoab
