import Derived.Test.YtabhojfdkmeaoabAp
import Derived.Test.YtabhojfdkmeaoabCp
import Derived.Deep.RegionHeld
namespace Go.Proofs.Ytabhojfdkmeaoab
open Go.RowKit
set_option linter.unusedVariables false
set_option linter.unusedSimpArgs false
/-- Some blocks may have turned; what is new is new. -/
structure Chg (S : Nat → Prop) (w w' : World) : Prop where
  os : w'.os = w.os
  tape : w'.tape = w.tape
  output : w'.output = w.output
  size : w.heap.size ≤ w'.heap.size
  block : ∀ k, k < w.heap.size → ¬ S k → w'.heap[k]? = w.heap[k]?
theorem Chg.refl (S : Nat → Prop) (w : World) : Chg S w w := ⟨rfl, rfl, rfl, Nat.le_refl _, fun _ _ _ => rfl⟩
theorem Chg.trans {S S2 : Nat → Prop} {w v u : World} (h : Chg S w v) (k : Chg S2 v u) (hs : ∀ k, k < w.heap.size → S2 k → S k) : Chg S w u :=
  ⟨k.os.trans h.os, k.tape.trans h.tape, k.output.trans h.output, Nat.le_trans h.size k.size, fun i hi hb => (k.block i (Nat.lt_of_lt_of_le hi h.size) (fun e => hb (hs i hi e))).trans (h.block i hi hb)⟩
theorem Chg.mono {S S2 : Nat → Prop} {w v : World} (h : Chg S w v) (hs : ∀ k, k < w.heap.size → S k → S2 k) : Chg S2 w v := ⟨h.os, h.tape, h.output, h.size, fun k hk hn => h.block k hk (fun e => hn (hs k hk e))⟩
theorem Chg.ofBelow {S : Nat → Prop} {w v : World} (h : Below w.heap.size w v) : Chg S w v := ⟨h.os, h.tape, h.output, h.size, fun k hk _ => h.block k hk⟩
theorem Chg.ofTrn {b : Nat} {w v : World} (h : Trn b w v) : Chg (· = b) w v := ⟨h.os, h.tape, h.output, h.size, fun k hk hn => h.block k hk hn⟩
theorem Chg.ofGrown {w v : World} {row : Option Nat} (h : w.grownBy v row) : Chg (fun k => row = some k) w v := ⟨h.os, h.tape, h.output, h.size, fun k hk hn => h.block k hk (fun e => hn e.symm)⟩
theorem Chg.cell {S : Nat → Prop} {w v : World} (h : Chg S w v) {p : Addr} (hp : p.block < w.heap.size) (hne : ¬ S p.block) : v.cell? p = w.cell? p := World.cell?_of_block (w := w) (h.block p.block hp hne)
theorem Chg.frozen {S : Nat → Prop} {w v : World} (h : Chg S w v) {p : Addr} (hp : p.block < w.heap.size) (hne : ¬ S p.block) : v.frozen? p = w.frozen? p := World.frozen?_of_block (w := w) (h.block p.block hp hne)
theorem Chg.toTrn {S : Nat → Prop} {w v : World} (h : Chg S w v) {B : Nat} (hB : B ≤ w.heap.size) (hS : ∀ k, k < B → ¬ S k) : Below B w v := ⟨h.os, h.tape, h.output, h.size, fun k hk => h.block k (by omega) (hS k hk)⟩
theorem Chg.own {S : Nat → Prop} {w v : World} (h : Chg S w v) {X e sz : Nat} {m : Value} {n : Nat} {xs : List Value} (hO : w.ownsRow X e sz m n xs) (hm : ∀ g, m.ownBlock = some g → ¬ S g) : v.ownsRow X e sz m n xs := by
  rcases hO with ⟨h1, h2 | ⟨g, cap, cur, rfl, h3, h4, h5⟩⟩
  · exact ⟨h1, .inl h2⟩
  · have hg : g < w.heap.size := (Array.getElem?_eq_some_iff.1 h4).1
    exact ⟨h1, .inr ⟨g, cap, cur, rfl, h3, (h.block g hg (hm g rfl)).trans h4, h5⟩⟩
theorem Chg.byt {S : Nat → Prop} {w v : World} (h : Chg S w v) {p : Option Addr} {n c : Nat} {xs : List Int} (hB : Byt w p n c xs) (hp : 0 < n → ∀ g o, p = some ⟨g, o, .none⟩ → ¬ S g) : Byt v p n c xs := by
  obtain ⟨h1, h2, h3, h4⟩ := hB
  refine ⟨h1, h2, h3, ?_⟩
  by_cases h0 : n = 0
  · exact .inl h0
  rcases h4 with h4 | ⟨g, o, rfl, h5, h6⟩
  · exact .inl h4
  · exact .inr ⟨g, o, rfl, Nat.lt_of_lt_of_le h5 h.size, fun i x hx => (h.cell (p := ⟨g, o + i, .none⟩) h5 (hp (by omega) g o rfl)).trans (h6 i x hx)⟩
theorem Chg.pip {S : Nat → Prop} {w v : World} (h : Chg S w v) {b : Nat} {xs : List Int} {r : Int} {rd wt : Bool} (hp : Pip w b xs r rd wt) (hb : ¬ S b) : Pip v b xs r rd wt := by
  have hl := hp.lt
  obtain ⟨h1, C, h2, h3⟩ := hp
  exact ⟨h1, C, ⟨fun i hi => (h.cell (p := ⟨b, i, .none⟩) hl hb).trans (h2.cb i hi), fun i => (h.frozen (p := ⟨b, i, .none⟩) hl hb).trans (h2.fb i), (h.cell (p := ⟨b, 512, .none⟩) hl hb).trans h2.c1, (h.cell (p := ⟨b, 513, .none⟩) hl hb).trans h2.c2, (h.cell (p := ⟨b, 514, .none⟩) hl hb).trans h2.c3, (h.cell (p := ⟨b, 515, .none⟩) hl hb).trans h2.c4, (h.cell (p := ⟨b, 516, .none⟩) hl hb).trans h2.c5, h2.bb, h2.br, h2.bs⟩, h3⟩
theorem own_ltC {w : World} {X e sz n : Nat} {v : Value} {xs : List Value} (h : w.ownsRow X e sz v n xs) : ∀ g, v.ownBlock = some g → g < w.heap.size := by
  intro g hg
  rcases h.2 with ⟨rfl, _⟩ | ⟨g', cap, cur, rfl, _, h4, _⟩
  · cases hg
  · simp only [Value.ownBlock, Option.some.injEq] at hg
    subst hg
    exact (Array.getElem?_eq_some_iff.1 h4).1
/-- A row is the one it was, or new. -/
def Sof (w : World) (e e' : Value) : Prop := ∀ g, e'.ownBlock = some g → e.ownBlock = some g ∨ w.heap.size ≤ g
theorem Sof.refl (w : World) (e : Value) : Sof w e e := fun g h => .inl h
theorem Sof.trans {w v : World} {e f g : Value} (h : Sof w e f) (k : Sof v f g) (hs : w.heap.size ≤ v.heap.size) : Sof w e g := fun x hx => by
  rcases k x hx with h1 | h1
  · exact h x h1
  · exact .inr (by omega)
/-- The document's pipe, its cells apart from its row. -/
structure Dr (w : World) (d : Nat) (e : Value) (r s : Int) (rd wt : Bool) : Prop where
  c0 : w.cell? ⟨d, 0, .none⟩ = some e
  c1 : w.cell? ⟨d, 1, .none⟩ = some (.int .u32 r)
  c2 : w.cell? ⟨d, 2, .none⟩ = some (.int .u32 s)
  c3 : w.cell? ⟨d, 3, .none⟩ = some (.bool rd)
  c4 : w.cell? ⟨d, 4, .none⟩ = some (.bool wt)
  fz : ∀ j, w.frozen? ⟨d, j, .none⟩ = false
/-- The document's pipe. -/
structure Dq (w : World) (d : Nat) (e : Value) (X : Nat) (xs : List Int) (r : Int) (rd wt : Bool) : Prop where
  raw : Dr w d e r ((r + xs.length) % 4294967296) rd wt
  row : w.ownsRow 0 5 1 e xs.length (by8 xs)
  dX : d < X
  wX : X ≤ w.heap.size
  br : 0 ≤ r ∧ r < 4294967296
  l512 : xs.length ≤ 512
  ed : ∀ g, e.ownBlock = some g → g ≠ d
section
variable {S : Nat → Prop} {w v : World} {d X : Nat} {e e' : Value} {xs ys : List Int} {r s r' s' : Int} {rd wt : Bool}
theorem Dr.keep (h : Dr w d e r s rd wt) (t : Chg S w v) (hd : ¬ S d) : Dr v d e r s rd wt := by
  have hl : d < w.heap.size := lt_cell h.c0
  exact ⟨(t.cell (p := ⟨d, 0, .none⟩) hl hd).trans h.c0, (t.cell (p := ⟨d, 1, .none⟩) hl hd).trans h.c1, (t.cell (p := ⟨d, 2, .none⟩) hl hd).trans h.c2, (t.cell (p := ⟨d, 3, .none⟩) hl hd).trans h.c3, (t.cell (p := ⟨d, 4, .none⟩) hl hd).trans h.c4, fun j => (t.frozen (p := ⟨d, j, .none⟩) hl hd).trans (h.fz j)⟩
theorem Dr.froz (h : Dr w d e r s rd wt) (o : Nat) (u : Value) : ∀ i, (w.setCell ⟨d, o, .none⟩ u).frozen? ⟨d, i, .none⟩ = false := fun i => by
  have := World.frozen?_setCells d [u] o w ⟨d, i, .none⟩
  exact this.trans (h.fz i)
theorem Dr.set0 (h : Dr w d e r s rd wt) (e' : Value) : Dr (w.setCell ⟨d, 0, .none⟩ e') d e' r s rd wt :=
  ⟨cell_one h.c0 _, cell_off h.c1 _ _ (by decide), cell_off h.c2 _ _ (by decide), cell_off h.c3 _ _ (by decide), cell_off h.c4 _ _ (by decide), h.froz _ _⟩
theorem Dr.set1 (h : Dr w d e r s rd wt) (r' : Int) : Dr (w.setCell ⟨d, 1, .none⟩ (.int .u32 r')) d e r' s rd wt :=
  ⟨cell_off h.c0 _ _ (by decide), cell_one h.c1 _, cell_off h.c2 _ _ (by decide), cell_off h.c3 _ _ (by decide), cell_off h.c4 _ _ (by decide), h.froz _ _⟩
theorem Dr.set2 (h : Dr w d e r s rd wt) (s' : Int) : Dr (w.setCell ⟨d, 2, .none⟩ (.int .u32 s')) d e r s' rd wt :=
  ⟨cell_off h.c0 _ _ (by decide), cell_off h.c1 _ _ (by decide), cell_one h.c2 _, cell_off h.c3 _ _ (by decide), cell_off h.c4 _ _ (by decide), h.froz _ _⟩
theorem Dr.set3 (h : Dr w d e r s rd wt) (x : Bool) : Dr (w.setCell ⟨d, 3, .none⟩ (.bool x)) d e r s x wt :=
  ⟨cell_off h.c0 _ _ (by decide), cell_off h.c1 _ _ (by decide), cell_off h.c2 _ _ (by decide), cell_one h.c3 _, cell_off h.c4 _ _ (by decide), h.froz _ _⟩
theorem Dr.set4 (h : Dr w d e r s rd wt) (x : Bool) : Dr (w.setCell ⟨d, 4, .none⟩ (.bool x)) d e r s rd x :=
  ⟨cell_off h.c0 _ _ (by decide), cell_off h.c1 _ _ (by decide), cell_off h.c2 _ _ (by decide), cell_off h.c3 _ _ (by decide), cell_one h.c4 _, h.froz _ _⟩
theorem Dq.keep (h : Dq w d e X xs r rd wt) (t : Chg S w v) (hd : ¬ S d) (he : ∀ g, e.ownBlock = some g → ¬ S g) : Dq v d e X xs r rd wt :=
  ⟨h.raw.keep t hd, t.own h.row he, h.dX, Nat.le_trans h.wX t.size, h.br, h.l512, h.ed⟩
theorem Dq.below (h : Dq w d e X xs r rd wt) (t : Below w.heap.size w v) : Dq v d e X xs r rd wt := h.keep (S := fun _ => False) (Chg.ofBelow t) (fun h => h) (fun _ _ h => h)
end
theorem chg_set (d o : Nat) (u : Value) (w : World) : Chg (· = d) w (w.setCell ⟨d, o, .none⟩ u) := Chg.ofTrn (Trn.setCell d o u w)
/-- A cell of d's is no row's. -/
theorem own_setd {w : World} {d o X n : Nat} {m : Value} {zs : List Value} (hO : w.ownsRow X 5 1 m n zs) (hd : ∀ g, m.ownBlock = some g → g ≠ d) (u : Value) : (w.setCell ⟨d, o, .none⟩ u).ownsRow X 5 1 m n zs := (chg_set d o u w).own hO hd
set_option maxHeartbeats 1000000 in
theorem rshut_any {w : World} {d X : Nat} {e : Value} {xs : List Int} {r : Int} {rd wt : Bool} (h : Dq w d e X xs r rd wt) (x : Bool) :
    Calls Try.prog 30 #[.pointer (some ⟨d, 0, .none⟩), .bool x] w fun en w' => (∃ v, en = .returned v) ∧ Dq w' d e X xs r (if x then false else rd) (if x then wt else false) ∧ Chg (· = d) w w' := by
  have HP : Hid (Dq w d e X xs r rd wt) := h
  have c3 := h.raw.c3
  have c4 := h.raw.c4
  have f3 := h.raw.fz 3
  have f4 := h.raw.fz 4
  clear h
  cases x with
  | true =>
    go_enter Try.func30, Try.ntmps30
    go_wp2
    go_end0
    exact ⟨⟨_, rfl⟩, ⟨HP.out.raw.set3 false, own_setd HP.out.row HP.out.ed _, HP.out.dX, by have := HP.out.wX; simp [World.setCell]; omega, HP.out.br, HP.out.l512, HP.out.ed⟩, chg_set _ _ _ _⟩
  | false =>
    go_enter Try.func30, Try.ntmps30
    go_wp2
    go_end0
    exact ⟨⟨_, rfl⟩, ⟨HP.out.raw.set4 false, own_setd HP.out.row HP.out.ed _, HP.out.dX, by have := HP.out.wX; simp [World.setCell]; omega, HP.out.br, HP.out.l512, HP.out.ed⟩, chg_set _ _ _ _⟩
set_option maxHeartbeats 2000000 in
theorem rstate_any {w : World} {d X : Nat} {e : Value} {xs : List Int} {r : Int} {rd wt : Bool} (h : Dq w d e X xs r rd wt) :
    Calls Try.prog 13 #[.pointer (some ⟨d, 0, .none⟩)] w fun en w' => ∃ p c, en = .returned (stt p xs.length c r rd wt) ∧ Byt w' p xs.length c xs ∧ (0 < xs.length → ∀ g o, p = some ⟨g, o, .none⟩ → w.heap.size ≤ g) ∧ Below w.heap.size w w' := by
  obtain ⟨ep, ec, rfl⟩ := one_slice h.row
  have hlt : d < w.heap.size := lt_cell h.raw.c0
  have HP : Hid (Dq w d (.slice ep xs.length ec) X xs r rd wt) := h
  have hl5 := h.l512
  obtain ⟨s, hs⟩ : ∃ s, s = (r + (xs.length : Int)) % 4294967296 := ⟨_, rfl⟩
  have HS : Hid (s = (r + (xs.length : Int)) % 4294967296) := hs
  clear h hs
  have ZZ : Hid (∀ V : World, V = w.alloc (.cells #[.slice .none 0 0, .int .u32 0, .int .u32 0, .bool false, .bool false] 25) → Dq V d (.slice ep xs.length ec) X xs r rd wt ∧ Below w.heap.size w V ∧ V.heap.size = w.heap.size + 1 ∧ V.there w.heap.size 0 5) := by
    intro V hV
    have hb : Below w.heap.size w V := by rw [hV]; exact (Below.refl _ _).alloc (Nat.le_refl _) _
    refine ⟨HP.out.below hb, hb, by rw [hV]; simp, fun j hj => ?_⟩
    rw [hV]
    constructor
    · rw [World.cell?_alloc_at _ _ _ _ rfl]
      simp; omega
    · exact froz_new _ _ _ _
  go_enter Try.func13, Try.ntmps13
  go_upto_region 1 with fail
  generalize hV : w.alloc (.cells #[.slice .none 0 0, .int .u32 0, .int .u32 0, .bool false, .bool false] 25) = V
  have hV2 := ZZ.out V hV.symm
  have H1 : Hid (Dq V d (.slice ep xs.length ec) X xs r rd wt ∧ Below w.heap.size w V ∧ V.heap.size = w.heap.size + 1 ∧ V.there w.heap.size 0 5) := hV2
  clear hV hV2 ZZ
  have kS : (V.drew.cell? ⟨d, 0, .none⟩ = some (.slice ep xs.length ec) ∧ V.drew.cell? ⟨d, 1, .none⟩ = some (.int .u32 r) ∧ V.drew.cell? ⟨d, 2, .none⟩ = some (.int .u32 s) ∧ V.drew.cell? ⟨d, 3, .none⟩ = some (.bool rd) ∧ V.drew.cell? ⟨d, 4, .none⟩ = some (.bool wt)) := by
    have := H1.out.1.raw
    rw [← HS.out] at this
    exact ⟨this.c0, this.c1, this.c2, this.c3, this.c4⟩
  refine wp_region_held_drew (S := fun U => (U.cell? ⟨d, 0, .none⟩ = some (.slice ep xs.length ec) ∧ U.cell? ⟨d, 1, .none⟩ = some (.int .u32 r) ∧ U.cell? ⟨d, 2, .none⟩ = some (.int .u32 s) ∧ U.cell? ⟨d, 3, .none⟩ = some (.bool rd) ∧ U.cell? ⟨d, 4, .none⟩ = some (.bool wt))) (by kernel_rfl) kS (fun hHeld => ?_)
  refine wpAnyH_take (i := 0) (v := (.pointer (some ⟨d, 0, .none⟩))) rfl (by kernel_rfl) (by kernel_rfl) (by kernel_rfl) (fun _ _ _ h => h) (Or.inl ⟨by rfl, fun ww hSw => by (try dsimp only at hSw); go_simp⟩) (by assumption) ?_
  simp only [Act.put, List.setIfInBounds_toArray, List.set_cons_zero, List.set_cons_succ, List.getElem_toArray, List.getElem_cons_succ, List.getElem_cons_zero]
  refine wpAnyH_take (i := 1) (v := (.pointer (some ⟨d, 0, .none⟩))) rfl (by kernel_rfl) (by kernel_rfl) (by kernel_rfl) (fun _ _ _ h => h) (Or.inl ⟨by rfl, fun ww hSw => by (try dsimp only at hSw); go_simp⟩) (by assumption) ?_
  simp only [Act.put, List.setIfInBounds_toArray, List.set_cons_zero, List.set_cons_succ, List.getElem_toArray, List.getElem_cons_succ, List.getElem_cons_zero]
  refine wpAnyH_take (i := 2) (v := (.pointer (some ⟨d, 0, .none⟩))) rfl (by kernel_rfl) (by kernel_rfl) (by kernel_rfl) (fun _ _ _ h => h) (Or.inl ⟨by rfl, fun ww hSw => by (try dsimp only at hSw); go_simp⟩) (by assumption) ?_
  simp only [Act.put, List.setIfInBounds_toArray, List.set_cons_zero, List.set_cons_succ, List.getElem_toArray, List.getElem_cons_succ, List.getElem_cons_zero]
  refine wpAnyH_take (i := 3) (v := (.slice ep xs.length ec)) rfl (by kernel_rfl) (by kernel_rfl) (by kernel_rfl) (fun _ _ _ h => h) (Or.inl ⟨by rfl, fun ww hSw => by (try dsimp only at hSw); go_simp⟩) (by assumption) ?_
  simp only [Act.put, List.setIfInBounds_toArray, List.set_cons_zero, List.set_cons_succ, List.getElem_toArray, List.getElem_cons_succ, List.getElem_cons_zero]
  refine wpAnyH_take (i := 5) (v := (.pointer (some ⟨d, 0, .none⟩))) rfl (by kernel_rfl) (by kernel_rfl) (by kernel_rfl) (fun _ _ _ h => h) (Or.inl ⟨by rfl, fun ww hSw => by (try dsimp only at hSw); go_simp⟩) (by assumption) ?_
  simp only [Act.put, List.setIfInBounds_toArray, List.set_cons_zero, List.set_cons_succ, List.getElem_toArray, List.getElem_cons_succ, List.getElem_cons_zero]
  refine wpAnyH_take (i := 6) (v := (.pointer (some ⟨d, 0, .none⟩))) rfl (by kernel_rfl) (by kernel_rfl) (by kernel_rfl) (fun _ _ _ h => h) (Or.inl ⟨by rfl, fun ww hSw => by (try dsimp only at hSw); go_simp⟩) (by assumption) ?_
  simp only [Act.put, List.setIfInBounds_toArray, List.set_cons_zero, List.set_cons_succ, List.getElem_toArray, List.getElem_cons_succ, List.getElem_cons_zero]
  refine wpAnyH_take (i := 7) (v := (.pointer (some ⟨d, 1, .none⟩))) rfl (by kernel_rfl) (by kernel_rfl) (by kernel_rfl) (fun _ _ _ h => h) (Or.inl ⟨by rfl, fun ww hSw => by (try dsimp only at hSw); go_simp⟩) (by assumption) ?_
  simp only [Act.put, List.setIfInBounds_toArray, List.set_cons_zero, List.set_cons_succ, List.getElem_toArray, List.getElem_cons_succ, List.getElem_cons_zero]
  refine wpAnyH_take (i := 8) (v := (.int .u32 r)) rfl (by kernel_rfl) (by kernel_rfl) (by kernel_rfl) (fun _ _ _ h => h) (Or.inl ⟨by rfl, fun ww hSw => by (try dsimp only at hSw); go_simp⟩) (by assumption) ?_
  simp only [Act.put, List.setIfInBounds_toArray, List.set_cons_zero, List.set_cons_succ, List.getElem_toArray, List.getElem_cons_succ, List.getElem_cons_zero]
  refine wpAnyH_take (i := 9) (v := (.pointer (some ⟨d, 0, .none⟩))) rfl (by kernel_rfl) (by kernel_rfl) (by kernel_rfl) (fun _ _ _ h => h) (Or.inl ⟨by rfl, fun ww hSw => by (try dsimp only at hSw); go_simp⟩) (by assumption) ?_
  simp only [Act.put, List.setIfInBounds_toArray, List.set_cons_zero, List.set_cons_succ, List.getElem_toArray, List.getElem_cons_succ, List.getElem_cons_zero]
  refine wpAnyH_take (i := 10) (v := (.pointer (some ⟨d, 0, .none⟩))) rfl (by kernel_rfl) (by kernel_rfl) (by kernel_rfl) (fun _ _ _ h => h) (Or.inl ⟨by rfl, fun ww hSw => by (try dsimp only at hSw); go_simp⟩) (by assumption) ?_
  simp only [Act.put, List.setIfInBounds_toArray, List.set_cons_zero, List.set_cons_succ, List.getElem_toArray, List.getElem_cons_succ, List.getElem_cons_zero]
  refine wpAnyH_take (i := 11) (v := (.pointer (some ⟨d, 2, .none⟩))) rfl (by kernel_rfl) (by kernel_rfl) (by kernel_rfl) (fun _ _ _ h => h) (Or.inl ⟨by rfl, fun ww hSw => by (try dsimp only at hSw); go_simp⟩) (by assumption) ?_
  simp only [Act.put, List.setIfInBounds_toArray, List.set_cons_zero, List.set_cons_succ, List.getElem_toArray, List.getElem_cons_succ, List.getElem_cons_zero]
  refine wpAnyH_take (i := 12) (v := (.int .u32 s)) rfl (by kernel_rfl) (by kernel_rfl) (by kernel_rfl) (fun _ _ _ h => h) (Or.inl ⟨by rfl, fun ww hSw => by (try dsimp only at hSw); go_simp⟩) (by assumption) ?_
  simp only [Act.put, List.setIfInBounds_toArray, List.set_cons_zero, List.set_cons_succ, List.getElem_toArray, List.getElem_cons_succ, List.getElem_cons_zero]
  refine wpAnyH_take (i := 13) (v := (.pointer (some ⟨d, 0, .none⟩))) rfl (by kernel_rfl) (by kernel_rfl) (by kernel_rfl) (fun _ _ _ h => h) (Or.inl ⟨by rfl, fun ww hSw => by (try dsimp only at hSw); go_simp⟩) (by assumption) ?_
  simp only [Act.put, List.setIfInBounds_toArray, List.set_cons_zero, List.set_cons_succ, List.getElem_toArray, List.getElem_cons_succ, List.getElem_cons_zero]
  refine wpAnyH_take (i := 14) (v := (.pointer (some ⟨d, 0, .none⟩))) rfl (by kernel_rfl) (by kernel_rfl) (by kernel_rfl) (fun _ _ _ h => h) (Or.inl ⟨by rfl, fun ww hSw => by (try dsimp only at hSw); go_simp⟩) (by assumption) ?_
  simp only [Act.put, List.setIfInBounds_toArray, List.set_cons_zero, List.set_cons_succ, List.getElem_toArray, List.getElem_cons_succ, List.getElem_cons_zero]
  refine wpAnyH_take (i := 15) (v := (.pointer (some ⟨d, 3, .none⟩))) rfl (by kernel_rfl) (by kernel_rfl) (by kernel_rfl) (fun _ _ _ h => h) (Or.inl ⟨by rfl, fun ww hSw => by (try dsimp only at hSw); go_simp⟩) (by assumption) ?_
  simp only [Act.put, List.setIfInBounds_toArray, List.set_cons_zero, List.set_cons_succ, List.getElem_toArray, List.getElem_cons_succ, List.getElem_cons_zero]
  refine wpAnyH_take (i := 16) (v := (.bool rd)) rfl (by kernel_rfl) (by kernel_rfl) (by kernel_rfl) (fun _ _ _ h => h) (Or.inl ⟨by rfl, fun ww hSw => by (try dsimp only at hSw); go_simp⟩) (by assumption) ?_
  simp only [Act.put, List.setIfInBounds_toArray, List.set_cons_zero, List.set_cons_succ, List.getElem_toArray, List.getElem_cons_succ, List.getElem_cons_zero]
  refine wpAnyH_take (i := 17) (v := (.pointer (some ⟨d, 0, .none⟩))) rfl (by kernel_rfl) (by kernel_rfl) (by kernel_rfl) (fun _ _ _ h => h) (Or.inl ⟨by rfl, fun ww hSw => by (try dsimp only at hSw); go_simp⟩) (by assumption) ?_
  simp only [Act.put, List.setIfInBounds_toArray, List.set_cons_zero, List.set_cons_succ, List.getElem_toArray, List.getElem_cons_succ, List.getElem_cons_zero]
  refine wpAnyH_take (i := 18) (v := (.pointer (some ⟨d, 0, .none⟩))) rfl (by kernel_rfl) (by kernel_rfl) (by kernel_rfl) (fun _ _ _ h => h) (Or.inl ⟨by rfl, fun ww hSw => by (try dsimp only at hSw); go_simp⟩) (by assumption) ?_
  simp only [Act.put, List.setIfInBounds_toArray, List.set_cons_zero, List.set_cons_succ, List.getElem_toArray, List.getElem_cons_succ, List.getElem_cons_zero]
  refine wpAnyH_take (i := 19) (v := (.pointer (some ⟨d, 4, .none⟩))) rfl (by kernel_rfl) (by kernel_rfl) (by kernel_rfl) (fun _ _ _ h => h) (Or.inl ⟨by rfl, fun ww hSw => by (try dsimp only at hSw); go_simp⟩) (by assumption) ?_
  simp only [Act.put, List.setIfInBounds_toArray, List.set_cons_zero, List.set_cons_succ, List.getElem_toArray, List.getElem_cons_succ, List.getElem_cons_zero]
  refine wpAnyH_take (i := 20) (v := (.bool wt)) rfl (by kernel_rfl) (by kernel_rfl) (by kernel_rfl) (fun _ _ _ h => h) (Or.inl ⟨by rfl, fun ww hSw => by (try dsimp only at hSw); go_simp⟩) (by assumption) ?_
  simp only [Act.put, List.setIfInBounds_toArray, List.set_cons_zero, List.set_cons_succ, List.getElem_toArray, List.getElem_cons_succ, List.getElem_cons_zero]
  refine wpAnyH_ready (rs := [4]) (by kernel_rfl) (by simp) ?_
  refine AllReadyH.cons rfl (fun K hK => ?_) AllReadyH.nil
  go_simp
  have B1 : Byt V.drew ep xs.length ec xs := byt_own H1.out.1.row
  refine (copied_any B1 (by omega)).mono ?_
  rintro en V2 ⟨p, c, rfl, hO, hb2⟩
  have hz : V.drew.heap.size = w.heap.size + 1 := H1.out.2.2.1
  rw [hz] at hO hb2
  have H3 : Hid (Dq V2 d (.slice ep xs.length ec) X xs r rd wt ∧ Below w.heap.size w V2 ∧ w.heap.size < V2.heap.size ∧ V2.there w.heap.size 0 5 ∧ V2.ownsRow (w.heap.size + 1) 5 1 (.slice p xs.length c) xs.length (by8 xs)) := by
    have hb3 : Below V.heap.size V V2 := by rw [H1.out.2.2.1]; exact ⟨hb2.os, hb2.tape, hb2.output, hb2.size, hb2.block⟩
    refine ⟨H1.out.1.below hb3, H1.out.2.1.trans (hb3.mono (by have := H1.out.2.2.1; omega)), by have := hb3.size; have := H1.out.2.2.1; omega, fun j hj => ?_, hO⟩
    have := H1.out.2.2.2 j hj
    exact ⟨by rw [hb3.cell (p := ⟨w.heap.size, 0 + j, .none⟩) (by show w.heap.size < _; have := H1.out.2.2.1; omega)]; exact this.1, by rw [hb3.frozen (p := ⟨w.heap.size, 0 + j, .none⟩) (by show w.heap.size < _; have := H1.out.2.2.1; omega)]; exact this.2⟩
  have kS2 : (V2.cell? ⟨d, 0, .none⟩ = some (.slice ep xs.length ec) ∧ V2.cell? ⟨d, 1, .none⟩ = some (.int .u32 r) ∧ V2.cell? ⟨d, 2, .none⟩ = some (.int .u32 s) ∧ V2.cell? ⟨d, 3, .none⟩ = some (.bool rd) ∧ V2.cell? ⟨d, 4, .none⟩ = some (.bool wt)) := by
    have := H3.out.1.raw
    rw [← HS.out] at this
    exact ⟨this.c0, this.c1, this.c2, this.c3, this.c4⟩
  clear hO hb2 B1 hz
  refine hK.out _ _ kS2 (fun hHeld => ?_)
  clear hK K
  try simp only [Act.put, List.setIfInBounds_toArray, List.set_cons_zero, List.set_cons_succ, List.getElem_toArray, List.getElem_cons_succ, List.getElem_cons_zero]
  refine wpAnyH_take (i := 21) (v := (.agg #[.slice p xs.length c, .int .u32 r, .int .u32 s, .bool rd, .bool wt])) rfl (by kernel_rfl) (by kernel_rfl) (by kernel_rfl) (fun _ _ _ h => h) (Or.inl ⟨by rfl, fun ww hSw => by (try dsimp only at hSw); go_simp⟩) (by assumption) ?_
  simp only [Act.put, List.setIfInBounds_toArray, List.set_cons_zero, List.set_cons_succ, List.getElem_toArray, List.getElem_cons_succ, List.getElem_cons_zero]
  refine wpAnyH_ready (rs := [22]) (by kernel_rfl) (by simp) ?_
  refine AllReadyH.cons rfl (fun K hK => ?_) AllReadyH.nil
  refine step_store_mid rfl 25 (.tmp 2) (.tmp 24) rfl w.heap.size 0 #[.slice p xs.length c, .int .u32 r, .int .u32 s, .bool rd, .bool wt] (by simp [Act.eval]) (by simp [Act.eval]) H3.out.2.2.2.1 (by kernel_rfl) (by simp [Value.oneCell']) ?_
  have t3 : Trn w.heap.size V2 (V2.setCells w.heap.size 0 [.slice p xs.length c, .int .u32 r, .int .u32 s, .bool rd, .bool wt]) := Trn.setCells _ _ _ _
  have hr3 : (V2.setCells w.heap.size 0 [.slice p xs.length c, .int .u32 r, .int .u32 s, .bool rd, .bool wt]).rangeAt w.heap.size 0 [.slice p xs.length c, .int .u32 r, .int .u32 s, .bool rd, .bool wt] := World.rangeAt_setCells_same _ _ _ _ H3.out.2.2.2.1
  generalize hV3 : V2.setCells w.heap.size 0 [.slice p xs.length c, .int .u32 r, .int .u32 s, .bool rd, .bool wt] = V3 at t3 hr3
  have hq3 : ¬ w.heap.size = d := by omega
  have H4 : Hid (Dr V3 d (.slice ep xs.length ec) r s rd wt ∧ Below w.heap.size w V3 ∧ V3.ownsRow (w.heap.size + 1) 5 1 (.slice p xs.length c) xs.length (by8 xs)) := by
    refine ⟨?_, H3.out.2.1.trans (t3.toBelow (Nat.le_refl _) (by have := H3.out.2.2.1; omega)), t3.own H3.out.2.2.2.2 (fun g hg e => ?_)⟩
    · have := H3.out.1.raw
      rw [← HS.out] at this
      exact this.keep (Chg.ofTrn t3) (fun h => hq3 h.symm)
    · have := own_block H3.out.2.2.2.2 g hg
      omega
  have HR : Hid (V3.rangeAt w.heap.size 0 [.slice p xs.length c, .int .u32 r, .int .u32 s, .bool rd, .bool wt]) := hr3
  have kS3 : (V3.cell? ⟨d, 0, .none⟩ = some (.slice ep xs.length ec) ∧ V3.cell? ⟨d, 1, .none⟩ = some (.int .u32 r) ∧ V3.cell? ⟨d, 2, .none⟩ = some (.int .u32 s) ∧ V3.cell? ⟨d, 3, .none⟩ = some (.bool rd) ∧ V3.cell? ⟨d, 4, .none⟩ = some (.bool wt)) := ⟨H4.out.1.c0, H4.out.1.c1, H4.out.1.c2, H4.out.1.c3, H4.out.1.c4⟩
  clear t3 hr3
  try clear hV3
  refine hK.out _ _ kS3 (fun hHeld => ?_)
  clear hK K
  try simp only [Act.put, List.setIfInBounds_toArray, List.set_cons_zero, List.set_cons_succ, List.getElem_toArray, List.getElem_cons_succ, List.getElem_cons_zero]
  refine wpAnyH_done (by kernel_rfl) ?_ _
  go_wp2
  exact bodyPost_ret (results_cell_any (p := 2) (ty := 25) rfl _ _ ⟨w.heap.size, 0, .none⟩ _ rfl (run_loadVar_mid (P := Try.prog) _ w.heap.size 0 25 _ _ HR.out Try.underlying25 rfl (by kernel_rfl))) rfl ⟨p, c, by rw [HS.out]; rfl, byt_own H4.out.2.2, fun _ g o e => by have := own_block H4.out.2.2 g (by rw [e]; rfl); omega, H4.out.2.1⟩
end Go.Proofs.Ytabhojfdkmeaoab
