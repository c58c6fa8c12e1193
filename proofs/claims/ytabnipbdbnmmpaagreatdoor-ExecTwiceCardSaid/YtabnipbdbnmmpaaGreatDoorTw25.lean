import Derived.Test.YtabnipbdbnmmpaaGreatDoorTw23
import Derived.Test.YtabnipbdbnmmpaaGreatDoorTw22
import Derived.Test.YtabnipbdbnmmpaaGreatDoorTw24
set_option linter.unusedVariables false
set_option linter.unusedSimpArgs false
namespace Go.Proofs.YtabnipbdbnmmpaaGreatDoor.Rm
open Go Go.RowKit Go.Shelf
attribute [local go_sem] Oper.semAt_some
attribute [local irreducible] eM evs
def mn (k : Nat) : Int := if k = 0 then 109 else if k = 1 then 105 else if k = 2 then 110 else if k = 3 then 101 else 0
def Min (N : Nat) (B : Nat → Int) (L : List Nat) (fm : Nat) : Prop := 1 ≤ fm ∧ fm < N ∧ fm ∉ L ∧ ∀ k, k < 8 → B (fm * 4096 + k) = mn k
structure On (N : Nat) (B : Nat → Int) (L : List Nat) (F : Nat → Option Nat) (lf : Nat → Nat → Int) (r : Nat) (l : List Pg) : Prop where
 pt : PT N L B F lf
 rt : F 0 = some r
 tl : TL F lf l
 pw : l.Pairwise (fun a b => a.1 ≠ b.1)
theorem On.keep {N : Nat} {B B' : Nat → Int} {L L' : List Nat} {F : Nat → Option Nat} {lf : Nat → Nat → Int} {r : Nat} {l : List Pg} (h : On N B L F lf r l) (hB : ∀ x f, F x = some f → ∀ k, k < 4096 → B' (f * 4096 + k) = B (f * 4096 + k)) (hL : ∀ x f, F x = some f → f ∉ L') : On N B' L' F lf r l :=
 ⟨h.pt.keep hB hL, h.rt, h.tl, h.pw⟩
def Tw (p b m ra rb fm : Nat) (la lb : List Pg) (W : World) : Prop :=
 ∃ B L Fa lfa Fb lfb, Ram W p b m 64 B L ∧ On 64 B L Fa lfa ra la ∧ On 64 B L Fb lfb rb lb ∧ (∀ x y f, Fa x = some f → Fb y ≠ some f) ∧ Min 64 B L fm ∧ (∀ x, Fa x ≠ some fm) ∧ (∀ x, Fb x ≠ some fm)
section
variable {p b m ra rb fm : Nat} {la lb : List Pg} {W : World}
theorem Tw.symm (h : Tw p b m ra rb fm la lb W) : Tw p b m rb ra fm lb la W := by
 obtain ⟨B, L, Fa, lfa, Fb, lfb, h1, h2, h3, h4, h5, h6, h7⟩ := h
 exact ⟨B, L, Fb, lfb, Fa, lfa, h1, h3, h2, fun x y f hx hy => h4 y x f hy hx, h5, h7, h6⟩
theorem Tw.below {W' : World} (h : Tw p b m ra rb fm la lb W) (k : Below W.heap.size W W') : Tw p b m ra rb fm la lb W' := by
 obtain ⟨B, L, Fa, lfa, Fb, lfb, h1, h2⟩ := h
 exact ⟨B, L, Fa, lfa, Fb, lfb, h1.below k, h2⟩
theorem Tw.lt (h : Tw p b m ra rb fm la lb W) : p < W.heap.size ∧ b < W.heap.size ∧ m < W.heap.size := by
 obtain ⟨B, L, Fa, lfa, Fb, lfb, h1, h2⟩ := h
 exact ⟨h1.mem.plt, h1.mem.blt, h1.mem.mlt⟩
theorem Tw.ok (h : Tw p b m ra rb fm la lb W) : (∀ x ∈ la, okP x) ∧ la.Pairwise (fun a b => a.1 ≠ b.1) := by
 obtain ⟨B, L, Fa, lfa, Fb, lfb, h1, h2, _⟩ := h
 exact ⟨h2.tl.ok, h2.pw⟩
def MwP (p b m ra rb fm : Nat) (la lb : List Pg) (x : Pg) (W : World) (e : Ending) (w' : World) : Prop :=
 ∃ v : Int, e = .returned (.int .i64 v) ∧ ((v ≠ 0 ∧ Below W.heap.size W w') ∨ (v = 0 ∧ Tw p b m ra rb fm (la ++ [x]) lb w' ∧ Fra p b m W w'))
theorem Tw.map (h : Tw p b m ra rb fm la lb W) (x : Pg) (hx : okP x) (hmp : (!ho x.2.2 18446744073709551361 && ho x.2.2 10 && (!hs x.2.2 4 || hs x.2.2 2)) = true) : Calls Tryz.prog 145 #[.pointer (some ⟨p, 0, .none⟩), .int .u64 (ad ra), .int .u64 x.1, .int .u64 x.2.1, .int .u64 x.2.2] W (MwP p b m ra rb fm la lb x W) := by
 obtain ⟨B, L, Fa, lfa, Fb, lfb, h1, h2, h3, h4, h5, h6, h7⟩ := h
 refine (map_full h1 h2.pt h2.rt x hx hmp).mono fun e w' hM => ?_
 rcases hM with ⟨k1, k2, k3⟩ | ⟨k1, k2, k3, k4⟩ | ⟨k1, k2, k3, B', L', F', k4, k5, k6, k7⟩
 ·exact ⟨84, k2, .inl ⟨by omega, k3⟩⟩
 ·exact ⟨85, k3, .inl ⟨by omega, k4⟩⟩
 ·have hnone : ∀ y ∈ la, y.1 ≠ x.1 := by
   intro y hy he
   have := h2.tl.leaf y hy
   rw [he, k1] at this
   exact (h2.tl.ok y hy).ne this.symm
  have hels : ∀ f, f ∉ L → (∀ z, Fa z ≠ some f) → ∀ z, F' z ≠ some f := fun f e1 e2 z hz => by
   rcases k4.new z f hz with e3 | ⟨e3, _⟩
   ·exact e2 z e3
   ·exact e1 e3
  refine ⟨0, k3, .inr ⟨rfl, ⟨B', L', F', _, Fb, lfb, k6, ⟨k4.pt, k4.ext 0 ra h2.rt, h2.tl.map hx hnone k4, ?_⟩, ?_, ?_, ?_, hels fm h5.2.2.1 h6, h7⟩, k7⟩⟩
  ·rw [List.pairwise_append]
   exact ⟨h2.pw, by simp, fun a ha c hc => by rw [List.mem_singleton] at hc; rw [hc]; exact hnone a ha⟩
  ·exact h3.keep (fun z f hf k hk => k4.byt f (hels f (h3.pt.held z f hf).2.2 (fun y e => h4 y z f e hf)) k hk) (fun z f hf hm => (h3.pt.held z f hf).2.2 (k4.sub f hm))
  ·exact fun z y f hz hy => hels f (h3.pt.held y f hy).2.2 (fun z e => h4 z y f e hy) z hz
  ·exact ⟨h5.1, h5.2.1, fun hm => h5.2.2.1 (k4.sub fm hm), fun k hk => (k4.byt fm (hels fm h5.2.2.1 h6) k (by omega)).trans (h5.2.2.2 k hk)⟩
def Tn (p b m rb fm : Nat) (lb : List Pg) (W : World) : Prop := ∃ B L Fb lfb, Ram W p b m 64 B L ∧ On 64 B L Fb lfb rb lb ∧ Min 64 B L fm
theorem Tn.below {W' : World} (h : Tn p b m rb fm lb W) (k : Below W.heap.size W W') : Tn p b m rb fm lb W' := by
 obtain ⟨B, L, Fb, lfb, h1, h2⟩ := h
 exact ⟨B, L, Fb, lfb, h1.below k, h2⟩
theorem Tn.read (h : Tn p b m rb fm lb W) : Calls Tryz.prog 20 #[.pointer (some ⟨p, 0, .none⟩), .int .u64 (ad fm), .int .i64 8] W fun e w' => ReadP W 8 mn e w' := by
 obtain ⟨B, L, Fb, lfb, h1, h2, h3⟩ := h
 have := read_ok h1.mem (fm * 4096) 8 (by omega) (by have := h3.2.1; omega) (fun f e1 e2 => by
  obtain rfl : f = fm := by omega
  rw [hdL_in h3.2.1]
  simpa using h3.2.2.1)
 refine Calls.mono (by
  have e : ad fm = 2147483648 + ((fm * 4096 : Nat) : Int) := by unfold ad; omega
  rw [e]
  exact this) fun e w' h => ?_
 obtain ⟨g, k1, k2, k3, k4, k5, k6⟩ := h
 refine ⟨g, k1, k2, k3, ?_, k5, k6⟩
 intro i hi
 have := k4 i hi
 rw [this]
 simp only
 rw [h3.2.2.2 i hi]
end
end Go.Proofs.YtabnipbdbnmmpaaGreatDoor.Rm
namespace Go.Proofs.YtabnipbdbnmmpaaGreatDoor.Rm
open Go Go.RowKit
def tpg (ft : Nat) : List Pg := [(274877898752, ad ft, 198), (274877902848, ad 0, 74)]
def upg (fr : Nat → Nat) (c : Nat → Int) (i : Nat) : Pg := ((i : Int) * 4096, ad (fr i), c i)
def pgL (ft : Nat) (fr : Nat → Nat) (c : Nat → Int) (I : List Nat) : List Pg := tpg ft ++ I.map (upg fr c)
theorem mem_pgL {ft : Nat} {fr : Nat → Nat} {c : Nat → Int} {I : List Nat} {x : Pg} : x ∈ pgL ft fr c I ↔ x = (274877898752, ad ft, 198) ∨ x = (274877902848, ad 0, 74) ∨ ∃ i ∈ I, x = upg fr c i := by
 unfold pgL tpg
 rw [List.mem_append, List.mem_map]
 constructor
 ·rintro (h | ⟨i, hi, rfl⟩)
  ·simp at h
   rcases h with h | h
   ·exact .inl h
   ·exact .inr (.inl h)
  ·exact .inr (.inr ⟨i, hi, rfl⟩)
 ·rintro (rfl | rfl | ⟨i, hi, rfl⟩)
  ·exact .inl (by simp)
  ·exact .inl (by simp)
  ·exact .inr ⟨i, hi, rfl⟩
structure SpL (N r ft : Nat) (B : Nat → Int) (L : List Nat) (F : Nat → Option Nat) (lf : Nat → Nat → Int) (fr : Nat → Nat) (c : Nat → Int) (I : List Nat) : Prop where
 pt : PT N L B F lf
 rt : F 0 = some r
 tl : TL F lf (pgL ft fr c I)
 nd : I.Nodup
 bd : ∀ i ∈ I, i < 4096
 inj : ∀ i ∈ I, ∀ j ∈ I, fr i = fr j → i = j
 pg : ∀ i ∈ I, 1 ≤ fr i ∧ fr i < N ∧ fr i ∉ L ∧ (∀ x, F x ≠ some (fr i)) ∧ fr i ≠ ft
 ftb : 1 ≤ ft ∧ ft < N ∧ ft ∉ L ∧ ∀ x, F x ≠ some ft
def Oth (L : List Nat) (F : Nat → Option Nat) (fr : Nat → Nat) (I : List Nat) (B : Nat → Int) (L' : List Nat) (F' : Nat → Option Nat) (fr' : Nat → Nat) (I' : List Nat) (B' : Nat → Int) : Prop :=
 ∀ f, f ∉ L → (∀ x, F x ≠ some f) → (∀ i ∈ I, fr i ≠ f) → f ∉ L' ∧ (∀ x, F' x ≠ some f) ∧ (∀ i ∈ I', fr' i ≠ f) ∧ ∀ j, j < 4096 → B' (f * 4096 + j) = B (f * 4096 + j)
theorem Oth.refl (L : List Nat) (F : Nat → Option Nat) (fr : Nat → Nat) (I : List Nat) (B : Nat → Int) : Oth L F fr I B L F fr I B := fun f h1 h2 h3 => ⟨h1, h2, h3, fun _ _ => rfl⟩
theorem Oth.trans {L F fr I B L' F' fr' I' B' L2 F2 fr2 I2 B2} (h : Oth L F fr I B L' F' fr' I' B') (k : Oth L' F' fr' I' B' L2 F2 fr2 I2 B2) : Oth L F fr I B L2 F2 fr2 I2 B2 := fun f h1 h2 h3 => by
 obtain ⟨a1, a2, a3, a4⟩ := h f h1 h2 h3
 obtain ⟨b1, b2, b3, b4⟩ := k f a1 a2 a3
 exact ⟨b1, b2, b3, fun j hj => (b4 j hj).trans (a4 j hj)⟩
section
variable {N r ft : Nat} {B B' : Nat → Int} {L L' : List Nat} {F F' : Nat → Option Nat} {lf lf' : Nat → Nat → Int} {fr : Nat → Nat} {c : Nat → Int} {I I' : List Nat}
theorem SpL.ok (h : SpL N r ft B L F lf fr c I) {i : Nat} (hi : i ∈ I) : okP (upg fr c i) := h.tl.ok _ (mem_pgL.2 (.inr (.inr ⟨i, hi, rfl⟩)))
theorem SpL.leaf (h : SpL N r ft B L F lf fr c I) {i : Nat} (hi : i ∈ I) : lf (y0 ((i : Int) * 4096)) (i0 ((i : Int) * 4096)) = toP (ad (fr i)) (c i) := h.tl.leaf _ (mem_pgL.2 (.inr (.inr ⟨i, hi, rfl⟩)))
theorem SpL.pag (h : SpL N r ft B L F lf fr c I) {i : Nat} (hi : i ∈ I) : Pag N L F lf ((i : Int) * 4096) (fr i) (c i) := by
 have hk := h.ok hi
 have hl := h.leaf hi
 have hp := h.pg i hi
 obtain ⟨g, q, e1, e0⟩ := h.pt.way ((i : Int) * 4096) (by rw [hl]; exact hk.ne)
 exact ⟨⟨g, e1⟩, ⟨q, e0⟩, hl, hk.2.2.2, hk.2.2.1, ⟨hp.2.1, hp.2.2.1⟩, hp.2.2.2.1⟩
theorem SpL.zero (h : SpL N r ft B L F lf fr c I) {i : Nat} (hi : i ∉ I) (hb : i < 4096) : lf (y0 ((i : Int) * 4096)) (i0 ((i : Int) * 4096)) = 0 := by
 refine h.tl.none_at _ ⟨by omega, by omega, by omega⟩ fun x hx => ?_
 rcases mem_pgL.1 hx with rfl | rfl | ⟨j, hj, rfl⟩
 ·simp only [ne_eq]; omega
 ·simp only [ne_eq]; omega
 ·unfold upg
  simp only [ne_eq]
  intro e
  have : j = i := by omega
  exact hi (this ▸ hj)
theorem need_eq (F : Nat → Option Nat) (va : Int) : needY F va = need F va := rfl
theorem SpL.add {i f : Nat} {x : Int} {L1 : List Nat} (h : SpL N r ft B (f :: L1) F lf fr c I) (hd : (f :: L1).Nodup) (hf : 1 ≤ f ∧ f < N) (hN : N ≤ 4096) (hi : i ∉ I) (hb : i < 4096) (hx : 0 ≤ x ∧ x < 256 ∧ x % 2 = 0) (hk : kd (toP (ad f) x) 0 = 2)
  (R : LP N ((i : Int) * 4096) (toP (ad f) x) L1 (zer B f) F lf L' B' F') (hl : L1.length = need F ((i : Int) * 4096) + L'.length) :
  SpL N r ft B' L' F' (setE lf (y0 ((i : Int) * 4096)) (i0 ((i : Int) * 4096)) (toP (ad f) x)) (upd fr i f) (upd c i x) (I ++ [i]) ∧ L'.length + nodesF F' + 1 = (f :: L1).length + nodesF F ∧ Oth (f :: L1) F fr I B L' F' (upd fr i f) (I ++ [i]) B' := by
 have hnd := List.nodup_cons.1 hd
 have hfL' : f ∉ L' := fun hm => hnd.1 (R.sub f hm)
 have hfn : ∀ j ∈ I, fr j ≠ f := fun j hj e => (h.pg j hj).2.2.1 (by rw [e]; exact List.mem_cons_self ..)
 have hff : f ≠ ft := fun e => h.ftb.2.2.1 (by rw [← e]; exact List.mem_cons_self ..)
 have hFf : ∀ y, F' y ≠ some f := fun y hy => by
  rcases R.new y f hy with e | ⟨e, _⟩
  ·exact (h.pt.held y f e).2.2 (List.mem_cons_self ..)
  ·exact hnd.1 e
 have hu : ∀ j ∈ I, upd fr i f j = fr j := fun j hj => by unfold upd; rw [if_neg (fun e : j = i => hi (e ▸ hj))]
 have huc : ∀ j ∈ I, upd c i x j = c j := fun j hj => by unfold upd; rw [if_neg (fun e : j = i => hi (e ▸ hj))]
 have hui : upd fr i f i = f := by unfold upd; rw [if_pos rfl]
 have huci : upd c i x i = x := by unfold upd; rw [if_pos rfl]
 have hok : okP ((i : Int) * 4096, ad f, x) := ⟨⟨by simp only; omega, by simp only; omega, by simp only; omega⟩, ad_b f N hf.2 hN, hx, hk⟩
 have hpn : ∀ y ∈ pgL ft fr c I, y.1 ≠ (i : Int) * 4096 := fun y hy => by
  rcases mem_pgL.1 hy with rfl | rfl | ⟨j, hj, rfl⟩
  ·simp only [ne_eq]; omega
  ·simp only [ne_eq]; omega
  ·unfold upg
   simp only [ne_eq]
   intro e
   have : j = i := by omega
   exact hi (this ▸ hj)
 have hT := TL.map (x := ((i : Int) * 4096, ad f, x)) h.tl hok hpn R
 have e1 : I.map (upg (upd fr i f) (upd c i x)) = I.map (upg fr c) := List.map_congr_left fun j hj => by unfold upg; rw [hu j hj, huc j hj]
 have e2 : [i].map (upg (upd fr i f) (upd c i x)) = [((i : Int) * 4096, ad f, x)] := by
  unfold upg
  simp only [List.map_cons, List.map_nil]
  rw [hui, huci]
 have heq : pgL ft (upd fr i f) (upd c i x) (I ++ [i]) = pgL ft fr c I ++ [((i : Int) * 4096, ad f, x)] := by
  unfold pgL
  rw [List.map_append, e1, e2, List.append_assoc]
 refine ⟨⟨R.pt, R.ext 0 r h.rt, by rw [heq]; exact hT, ?_, fun j hj => ?_, fun j hj k hk2 e => ?_, fun j hj => ?_, ?_⟩, ?_, fun g h1 h2 h3 => ?_⟩
 ·rw [List.nodup_append]
  exact ⟨h.nd, by simp, fun a ha b hb2 e => by rw [List.mem_singleton.1 hb2] at e; exact hi (e ▸ ha)⟩
 ·rcases List.mem_append.1 hj with e | e
  ·exact h.bd j e
  ·rw [List.mem_singleton.1 e]; exact hb
 ·rcases List.mem_append.1 hj with e1 | e1 <;> rcases List.mem_append.1 hk2 with e2 | e2
  ·rw [hu j e1, hu k e2] at e
   exact h.inj j e1 k e2 e
  ·rw [List.mem_singleton.1 e2, hu j e1, hui] at e
   exact absurd e (hfn j e1)
  ·rw [List.mem_singleton.1 e1, hu k e2, hui] at e
   exact absurd e.symm (hfn k e2)
  ·rw [List.mem_singleton.1 e1, List.mem_singleton.1 e2]
 ·rcases List.mem_append.1 hj with e | e
  ·rw [hu j e]
   have hp := h.pg j e
   refine ⟨hp.1, hp.2.1, fun hm => hp.2.2.1 (List.mem_cons_of_mem _ (R.sub _ hm)), fun y hy => ?_, hp.2.2.2.2⟩
   rcases R.new y _ hy with e2 | ⟨e2, _⟩
   ·exact hp.2.2.2.1 y e2
   ·exact hp.2.2.1 (List.mem_cons_of_mem _ e2)
  ·rw [List.mem_singleton.1 e, hui]
   exact ⟨hf.1, hf.2, hfL', hFf, hff⟩
 ·refine ⟨h.ftb.1, h.ftb.2.1, fun hm => h.ftb.2.2.1 (List.mem_cons_of_mem _ (R.sub _ hm)), fun y hy => ?_⟩
  rcases R.new y _ hy with e2 | ⟨e2, _⟩
  ·exact h.ftb.2.2.2 y e2
  ·exact h.ftb.2.2.1 (List.mem_cons_of_mem _ e2)
 ·have := R.len h.pt.zero
  rw [List.length_cons]
  omega
 ·have hgf : g ≠ f := fun e => h1 (by rw [e]; exact List.mem_cons_self ..)
  have hgF : ∀ y, F' y ≠ some g := fun y hy => by
   rcases R.new y g hy with e | ⟨e, _⟩
   ·exact h2 y e
   ·exact h1 (List.mem_cons_of_mem _ e)
  refine ⟨fun hm => h1 (List.mem_cons_of_mem _ (R.sub _ hm)), hgF, fun j hj => ?_, fun k hk2 => ?_⟩
  ·rcases List.mem_append.1 hj with e | e
   ·rw [hu j e]; exact h3 j e
   ·rw [List.mem_singleton.1 e, hui]; exact fun e2 => hgf e2.symm
  ·rw [R.byt g hgF k hk2, zer_out]
   rcases Nat.lt_or_gt_of_ne hgf with e | e <;> omega
theorem PrR.sub {va : Int} {q g : Nat} (R : PrR L F lf va q g L' F' lf') : (∀ x f, F' x = some f → F x = some f) ∧ (∀ f, f ∈ L' → f ∈ L ∨ f = q ∨ f = g) ∧ F' 0 = F 0 := by
 have h0 := y0_ge va
 have h1 := y1_le va
 rcases R with ⟨rfl, rfl, rfl, _⟩ | ⟨rfl, rfl, rfl, _⟩ | ⟨rfl, rfl, rfl, _⟩
 ·exact ⟨fun _ _ h => h, fun _ h => .inl h, rfl⟩
 ·refine ⟨fun x f h => ?_, fun f h => ?_, ?_⟩
  ·unfold setN at h
   split at h
   ·cases h
   ·exact h
  ·rcases List.mem_cons.1 h with e | e
   ·exact .inr (.inl e)
   ·exact .inl e
  ·unfold setN
   rw [if_neg (by omega)]
 ·refine ⟨fun x f h => ?_, fun f h => ?_, ?_⟩
  ·unfold setN at h
   split at h
   ·cases h
   ·split at h
    ·cases h
    ·exact h
  ·rcases List.mem_cons.1 h with e | e
   ·exact .inr (.inr e)
   ·rcases List.mem_cons.1 e with e | e
    ·exact .inr (.inl e)
    ·exact .inl e
  ·unfold setN
   rw [if_neg (by omega), if_neg (by omega)]
theorem cnt_low (M k a : Nat) (hk : k ≤ a) (ha : a < M) : cnt M (fun v => decide (v < k ∨ v = a)) = k + 1 := by
 have h1 : ∀ M k, k ≤ M → cnt M (fun v => decide (v < k)) = k := fun M => by
  induction M with
  | zero => intro k hk; have : k = 0 := by omega
            subst this; rfl
  | succ M ih =>
   intro k hk
   rw [cnt_succ]
   by_cases e : k = M + 1
   ·subst e
    rw [cnt_ext (q := fun v => decide (v < M)) (fun v hv => decide_eq_decide.2 (by omega)), ih M (Nat.le_refl _)]
    simp
   ·rw [ih k (by omega), if_neg (by simp; omega)]
    rfl
 rw [cnt_add (v0 := a) (p := fun v => decide (v < k)) ha (decide_eq_false (by omega)) (decide_eq_true (.inr rfl)) (fun v hv hne => decide_eq_decide.2 (by omega)), h1 M k (by omega)]
theorem SpL.nodes {P : Nat} (h : SpL N r ft B L F lf fr c (List.range P)) (hP : P ≤ 4096) : ((nodesF F : Nat) : Int) + 1 = ndP P := by
 have e1 : cnt 512 (fun v => decide (F (1 + v) ≠ none)) = (if P = 0 then 0 else 1) + 1 := by
  rw [← cnt_low 512 (if P = 0 then 0 else 1) 255 (by split <;> omega) (by omega)]
  refine cnt_ext fun v hv => decide_eq_decide.2 ((h.tl.has1 h.pt v hv).trans ⟨?_, ?_⟩)
  ·rintro ⟨x, hx, e⟩
   rcases mem_pgL.1 hx with rfl | rfl | ⟨i, hi, rfl⟩
   ·right; simp only at e; omega
   ·right; simp only at e; omega
   ·have := List.mem_range.1 hi
    left
    unfold upg at e
    simp only at e
    rw [if_neg (by omega)]
    omega
  ·rintro (e | rfl)
   ·have h0 : P ≠ 0 := fun h0 => by rw [if_pos h0] at e; omega
    rw [if_neg h0] at e
    refine ⟨upg fr c 0, mem_pgL.2 (.inr (.inr ⟨0, List.mem_range.2 (by omega), rfl⟩)), ?_⟩
    unfold upg
    simp only
    omega
   ·exact ⟨_, mem_pgL.2 (.inl rfl), by simp only; omega⟩
 have e0 : cnt 262144 (fun v => decide (F (513 + v) ≠ none)) = (P + 511) / 512 + 1 := by
  rw [← cnt_low 262144 ((P + 511) / 512) 131071 (by omega) (by omega)]
  refine cnt_ext fun v hv => decide_eq_decide.2 ((h.tl.has0 h.pt v).trans ⟨?_, ?_⟩)
  ·rintro ⟨x, hx, e⟩
   rcases mem_pgL.1 hx with rfl | rfl | ⟨i, hi, rfl⟩
   ·right; simp only at e; omega
   ·right; simp only at e; omega
   ·have := List.mem_range.1 hi
    left
    unfold upg at e
    simp only at e
    omega
  ·rintro (e | rfl)
   ·refine ⟨upg fr c (v * 512), mem_pgL.2 (.inr (.inr ⟨v * 512, List.mem_range.2 (by omega), rfl⟩)), ?_⟩
    unfold upg
    simp only
    omega
   ·exact ⟨_, mem_pgL.2 (.inl rfl), by simp only; omega⟩
 unfold nodesF ndP
 rw [e1, e0]
 by_cases h0 : P = 0
 ·subst h0; rfl
 ·rw [if_neg h0, if_neg (by omega)]
  omega
end
end Go.Proofs.YtabnipbdbnmmpaaGreatDoor.Rm
namespace Go.Proofs.YtabnipbdbnmmpaaGreatDoor.Rm
open Go Go.RowKit
section
variable {w : World} {s p b m N r ft : Nat} {B : Nat → Int} {L : List Nat} {F : Nat → Option Nat} {lf : Nat → Nat → Int} {fr : Nat → Nat} {c : Nat → Int} {I I' : List Nat}
end
structure SpT (W : World) (s p b m N r P ft : Nat) (size : Int) (B : Nat → Int) (L : List Nat) (F : Nat → Option Nat) (lf : Nat → Nat → Int) (fr : Nat → Nat) (c : Nat → Int) : Prop where
 sp : Sp W s p (ad r) size
 sz : 0 ≤ size ∧ (size + 4095) / 4096 = P
 pm : P ≤ 4096
 ram : Ram W p b m N B L
 ne : s ≠ p ∧ s ≠ b ∧ s ≠ m
 tab : SpL N r ft B L F lf fr c (List.range P)
section
variable {w w' : World} {s p b m N r P ft : Nat} {size : Int} {B : Nat → Int} {L : List Nat} {F : Nat → Option Nat} {lf : Nat → Nat → Int} {fr : Nat → Nat} {c : Nat → Int}
theorem SpT.below (h : SpT w s p b m N r P ft size B L F lf fr c) (k : Below w.heap.size w w') : SpT w' s p b m N r P ft size B L F lf fr c := ⟨h.sp.below k, h.sz, h.pm, h.ram.below k, h.ne, h.tab⟩
theorem SpT.su (h : SpT w s p b m N r P ft size B L F lf fr c) : SpU w s p b m N r P size B L F lf fr c := ⟨h.sp, h.sz, h.pm, h.ram, h.tab.pt, h.tab.rt, h.ne, fun i hi => h.tab.pag (List.mem_range.2 hi)⟩
end
end Go.Proofs.YtabnipbdbnmmpaaGreatDoor.Rm
