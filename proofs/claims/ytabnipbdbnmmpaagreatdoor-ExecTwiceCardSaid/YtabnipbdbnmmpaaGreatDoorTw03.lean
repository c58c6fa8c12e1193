import Derived.Test.YtabnipbdbnmmpaaGreatDoorTw02
set_option linter.unusedVariables false
set_option linter.unusedSimpArgs false
namespace Go.Proofs.YtabnipbdbnmmpaaGreatDoor.Rm
open Go.RowKit
theorem own_size {w : World} {m n : Nat} {D : DataW Unit} (h : w.ownsMap Tryz.prog 23 unitElem m n D) : w.ownsMap Tryz.prog 23 unitElem m (Maps.size D) D := by
 obtain ⟨es, cl, h1, h2, h3, rfl⟩ := h
 exact ⟨es, cl, h1, h2, by simp [Maps.size, length_sorted], rfl⟩
theorem isKey (a : Int) : WideAt.IsKeyLit (.int .u64 a) := by trivial
theorem ne_lit {a x : Int} (h : x ≠ a) : (Lit.int .u64 x) ≠ .int .u64 a := fun e => h (by injection e)
section
variable {w w' : World} {p b m N cnt : Nat} {B : Nat → Int} {nx : Int} {hd hd' : Int → Bool} {D : DataW Unit}
theorem Mem.congr (h : Mem w p b m N B nx hd cnt) (e : ∀ a : Int, 0 ≤ a → a < 18446744073709551616 → hd a = hd' a) : Mem w p b m N B nx hd' cnt := by
 obtain ⟨D, h1, h2, h3⟩ := h.hm
 exact ⟨h.c0, h.c1, h.c2, h.f1, h.cb, h.fb, ⟨D, h1, fun a h4 h5 => (h2 a h4 h5).trans (e a h4 h5), h3⟩, h.n1, h.n2, h.bb, h.nb⟩
theorem Mem.turn (h : Mem w p b m N B nx hd cnt) (t : w.mapTurned w' m) {D' : DataW Unit} {n : Nat} (hown : w'.ownsMap Tryz.prog 23 unitElem m n D') (hh : ∀ a : Int, 0 ≤ a → a < 18446744073709551616 → Maps.has D' (.int .u64 a) = hd' a) {cnt' : Nat} (hc : Maps.size D' = cnt') : Mem w' p b m N B nx hd' cnt' := by
 have g := t.grown
 have hp : w'.heap[p]? = w.heap[p]? := g.block p h.plt (by simpa using fun e => h.mp e.symm)
 have hb : w'.heap[b]? = w.heap[b]? := g.block b h.blt (by simpa using fun e => h.mb e.symm)
 have cp : ∀ i, w'.cell? ⟨p, i, .none⟩ = w.cell? ⟨p, i, .none⟩ := fun i => by simp only [World.cell?, hp]
 have cb : ∀ i, w'.cell? ⟨b, i, .none⟩ = w.cell? ⟨b, i, .none⟩ := fun i => by simp only [World.cell?, hb]
 exact ⟨(cp 0).trans h.c0, (cp 1).trans h.c1, (cp 2).trans h.c2, (t.frozen _).trans h.f1, fun i hi => (cb i).trans (h.cb i hi), fun i hi => (t.frozen _).trans (h.fb i hi), ⟨D', own_size hown, hh, hc⟩, h.n1, h.n2, h.bb, h.nb⟩
theorem Mem.put (h : Mem w p b m N B nx hd cnt) (hown : w.ownsMap Tryz.prog 23 unitElem m (Maps.size D) D) (hhas : ∀ a : Int, 0 ≤ a → a < 18446744073709551616 → Maps.has D (.int .u64 a) = hd a) (hsz : Maps.size D = cnt)
  (a : Int) (ha : 0 ≤ a ∧ a < 18446744073709551616) (hf : hd a = false) {n : Nat} (h1 : w'.ownsMap Tryz.prog 23 unitElem m n (D.put (.int .u64 a) (.agg []))) (t : w.mapTurned w' m) :
  Mem w' p b m N B nx (fun x => decide (x = a) || hd x) (cnt + 1) := by
 refine h.turn t h1 (fun x hx0 hx1 => ?_) ?_
 ·by_cases e : x = a
  ·subst e
   rw [Maps.has_put_same hown.isMap (isKey _)]
   simp
  ·rw [Maps.has_put_other (ne_lit e), hhas x hx0 hx1]
   simp [e]
 ·rw [Maps.size_put (hown.tidy law22), hhas a ha.1 ha.2, hf]
  simp [hsz]
theorem Mem.del (h : Mem w p b m N B nx hd cnt) (hown : w.ownsMap Tryz.prog 23 unitElem m (Maps.size D) D) (hhas : ∀ a : Int, 0 ≤ a → a < 18446744073709551616 → Maps.has D (.int .u64 a) = hd a) (hsz : Maps.size D = cnt)
  (a : Int) (ha : 0 ≤ a ∧ a < 18446744073709551616) (hf : hd a = true) {n : Nat} (h1 : w'.ownsMap Tryz.prog 23 unitElem m n (D.del (.int .u64 a))) (t : w.mapTurned w' m) :
  Mem w' p b m N B nx (fun x => !decide (x = a) && hd x) (cnt - 1) := by
 refine h.turn t h1 (fun x hx0 hx1 => ?_) ?_
 ·by_cases e : x = a
  ·subst e
   rw [Maps.has_del_same]
   simp
  ·rw [Maps.has_del_other (ne_lit e), hhas x hx0 hx1]
   simp [e]
 ·have := Maps.size_del (k := .int .u64 a) (hown.tidy law22)
  rw [hhas a ha.1 ha.2, hf, hsz] at this
  simp at this
  omega
end
def adr : List Nat → Int
 | [] => 0
 | i :: _ => 2147483648 + i * 4096
theorem adr_bd {N : Nat} (hN : N ≤ 4096) {L : List Nat} (h : ∀ i ∈ L, 1 ≤ i ∧ i < N) : 0 ≤ adr L ∧ adr L < 18446744073709551616 := by
 cases L with
 | nil => simp [adr]
 | cons i l =>
  have := h i (List.mem_cons_self ..)
  simp only [adr]
  omega
def jb (v : Int) (k : Nat) : Int := if k < 8 then v / 256 ^ k % 256 else 5
def Thr (B : Nat → Int) : List Nat → Prop
 | [] => True
 | i :: l => (∀ k, k < 4096 → B (i * 4096 + k) = jb (adr l) k) ∧ Thr B l
def hdL (N : Nat) (L : List Nat) (a : Int) : Bool := isFr a N && !decide (((a - 2147483648) / 4096).toNat ∈ L)
theorem le_get (v : Int) (n k : Nat) (h : k < n) : (le v n).getD k 0 = v / 256 ^ k % 256 := by
 simp [le, List.getD_eq_getElem?_getD, List.getElem?_range h]
theorem junk_get (k : Nat) (h : k < 4088) : junk.getD k 0 = 5 := by
 simp only [junk, List.getD_eq_getElem?_getD, List.getElem?_replicate, if_pos h]
 rfl
theorem thr_in (B : Nat → Int) (i : Nat) (v : Int) (k : Nat) (hk : k < 4096) : thr B i v (i * 4096 + k) = jb v k := by
 unfold thr over jb
 rw [le_len, junk_len]
 by_cases h8 : k < 8
 ·rw [if_neg (by omega), if_pos (by omega), if_pos h8, show i * 4096 + k - i * 4096 = k by omega, le_get v 8 k h8]
 ·rw [if_pos (by omega), if_neg h8, junk_get _ (by omega)]
theorem thr_out (B : Nat → Int) (i : Nat) (v : Int) (j : Nat) (hj : j < i * 4096 ∨ i * 4096 + 4096 ≤ j) : thr B i v j = B j := by
 unfold thr over
 rw [le_len, junk_len, if_neg (by omega), if_neg (by omega)]
theorem Thr.congr {B B' : Nat → Int} : ∀ {L : List Nat}, Thr B L → (∀ i ∈ L, ∀ k, k < 4096 → B' (i * 4096 + k) = B (i * 4096 + k)) → Thr B' L
 | [], _, _ => trivial
 | i :: l, h, e => ⟨fun k hk => (e i (List.mem_cons_self ..) k hk).trans (h.1 k hk), Thr.congr h.2 (fun j hj => e j (List.mem_cons_of_mem _ hj))⟩
theorem Thr.cons {B : Nat → Int} {L : List Nat} (h : Thr B L) (i : Nat) (hi : i ∉ L) : Thr (thr B i (adr L)) (i :: L) :=
 ⟨fun k hk => thr_in B i _ k hk, h.congr (fun j hj k hk => thr_out B i _ _ (by have : j ≠ i := fun e => hi (e ▸ hj); omega))⟩
theorem nodup_le : ∀ (n : Nat) (L : List Nat), L.Nodup → (∀ i ∈ L, i < n) → L.length ≤ n
 | 0, L, _, h => by
  cases L with
  | nil => exact Nat.le_refl _
  | cons i l => exact absurd (h i (List.mem_cons_self ..)) (Nat.not_lt_zero _)
 | n + 1, L, hn, h => by
  have h1 := nodup_le n (L.erase n) (hn.erase n) (fun i hi => by
   rw [hn.mem_erase_iff] at hi
   have := h i hi.2
   omega)
  have h2 := List.length_erase (a := n) (l := L)
  split at h2 <;> omega
theorem length_le (N : Nat) (L : List Nat) (hN : 1 ≤ N) (hn : L.Nodup) (hl : ∀ i ∈ L, 1 ≤ i ∧ i < N) : L.length + 1 ≤ N := by
 refine nodup_le N (0 :: L) (List.nodup_cons.2 ⟨fun h => by have := hl 0 h; omega, hn⟩) (fun i hi => ?_)
 rcases List.mem_cons.1 hi with rfl | h
 ·omega
 ·exact (hl i h).2
structure Ram (w : World) (p b m N : Nat) (B : Nat → Int) (L : List Nat) : Prop where
 mem : Mem w p b m N B (adr L) (hdL N L) (N - L.length)
 nd : L.Nodup
 lt : ∀ i ∈ L, 1 ≤ i ∧ i < N
 thr : Thr B L
theorem num_jb (B : Nat → Int) (o : Nat) (v : Int) (hv : 0 ≤ v ∧ v < 18446744073709551616) (h : ∀ k, k < 8 → B (o + k) = v / 256 ^ k % 256) : num B o 8 = v := by
 have key : ∀ n, n ≤ 8 → num B o n = md v n := by
  intro n
  induction n with
  | zero => intro _; rw [md_zero]; rfl
  | succ n ih => intro hn; rw [md_step]; simp only [num]; rw [ih (by omega), h n (by omega), Int.mul_comm]
 rw [key 8 (by omega)]
 unfold md
 omega
end Go.Proofs.YtabnipbdbnmmpaaGreatDoor.Rm
namespace Go.Proofs.YtabnipbdbnmmpaaGreatDoor.Rm
open Go.RowKit
def zeros : List Int := List.replicate 4096 0
theorem zeros_len : zeros.length = 4096 := List.length_replicate
theorem zeros_map : zeros.map (Value.int .u8) = List.replicate 4096 (.int .u8 0) := List.map_replicate
theorem zeros_bd : ∀ x ∈ zeros, 0 ≤ x ∧ x < 256 := fun x hx => by rw [List.eq_of_mem_replicate hx]; omega
def zer (B : Nat → Int) (i : Nat) : Nat → Int := over B (i * 4096) zeros
theorem zeros_get (k : Nat) : zeros.getD k 0 = 0 := by
 simp only [zeros, List.getD_eq_getElem?_getD, List.getElem?_replicate]
 split <;> rfl
theorem zer_in (B : Nat → Int) (i k : Nat) (hk : k < 4096) : zer B i (i * 4096 + k) = 0 := by
 unfold zer over
 rw [zeros_len, if_pos (by omega), zeros_get]
theorem zer_out (B : Nat → Int) (i j : Nat) (hj : j < i * 4096 ∨ i * 4096 + 4096 ≤ j) : zer B i j = B j := by
 unfold zer over
 rw [zeros_len, if_neg (by omega)]
theorem zero5 (w : World) : (zeroValue 5).run Tryz.prog w = .ok (.int .u8 0) w := by kernel_rfl
theorem clear_frame {w : World} {p b m N cnt : Nat} {B : Nat → Int} {nx : Int} {hd : Int → Bool} (h : Mem w p b m N B nx hd cnt) (i : Nat) (hi : i < N) (c : Nat) :
  ∃ w', (∀ ty, (Builtin.clear_ #[24] ty #[.slice (some ⟨b, i * 4096, .none⟩) 4096 c]).run Tryz.prog w = .ok (.tuple #[]) w') ∧ Mem w' p b m N (zer B i) nx hd cnt ∧ Fra p b m w w' := by
 refine ⟨w.setCells b (i * 4096) (zeros.map (.int .u8)), fun ty => ?_, h.setCells _ _ (by rw [zeros_len]; omega) zeros_bd, (Fra.refl p b m w).setCells _ _⟩
 rw [zeros_map]
 exact Lib.run_clear_slice w 24 5 ty (.int .u8 0) Tryz.underlying24 zero5 rfl rfl b (i * 4096) 4096 c (by omega) (fun j hj => by rw [h.cb _ (by omega)]; rfl) (fun j hj => h.fb _ (by omega))
theorem isFr_addr (i N : Nat) (hi : i < N) : isFr (2147483648 + i * 4096) N = true := by
 simp only [isFr, decide_eq_true_eq]
 omega
theorem addr_frame (i : Nat) : ((2147483648 + (i : Int) * 4096 - 2147483648) / 4096).toNat = i := by omega
theorem hdL_addr (N : Nat) (L : List Nat) (i : Nat) (hi : i < N) : hdL N L (2147483648 + i * 4096) = !decide (i ∈ L) := by
 unfold hdL
 rw [isFr_addr i N hi, addr_frame]
 simp
theorem hdL_cons (N : Nat) (i : Nat) (l : List Nat) (hi : i < N) (hn : i ∉ l) (a : Int) : (decide (a = 2147483648 + (i : Int) * 4096) || hdL N (i :: l) a) = hdL N l a := by
 by_cases e : a = 2147483648 + (i : Int) * 4096
 ·subst e
  rw [hdL_addr N l i hi]
  simp [hn]
 ·unfold hdL
  cases hf : isFr a N with
  | false => simp [e]
  | true =>
   have hf' : a % 4096 = 0 ∧ 2147483648 ≤ a ∧ a < 2147483648 + (N : Int) * 4096 := by simpa [isFr] using hf
   have : ((a - 2147483648) / 4096).toNat ≠ i := by omega
   simp [e, this]
section
variable {w : World} {p b m N : Nat} {B : Nat → Int} {l L : List Nat}
set_option maxHeartbeats 1000000 in
theorem alloc_some (i : Nat) (h : Ram w p b m N B (i :: l)) : Calls Tryz.prog 9 #[.pointer (some ⟨p, 0, .none⟩)] w fun e w' => e = .returned (.tuple #[.int .u64 (2147483648 + i * 4096), .bool true]) ∧ Ram w' p b m N (zer B i) l ∧ Fra p b m w w' := by
 have hi := h.lt i (List.mem_cons_self ..)
 have n2 := h.mem.n2
 have hn := List.nodup_cons.1 h.nd
 have ha := adr_bd n2 (L := l) (fun j hj => h.lt j (List.mem_cons_of_mem _ hj))
 have c := made_some p b _ _ w h.mem.c0
 have c1 := behind_any h.mem i hi.2
 rw [num_jb B (i * 4096) (adr l) ha (fun k hk => (h.thr.1 k (by omega)).trans (by simp [jb, hk]))] at c1
 have h1 := h.mem.setNext (adr l) ha
 have c2 := frame_any h1 i hi.2
 have F1 : Fra p b m w (w.setCell ⟨p, 1, .none⟩ (.int .u64 (adr l))) := (Fra.refl p b m w).setCell _ _ (.inl rfl)
 obtain ⟨w2, hcl, h2, F2⟩ := clear_frame h1 i hi.2 (4096 * N - i * 4096)
 have k0 : w.cell? ⟨p, 1, .none⟩ = some (.int .u64 (2147483648 + i * 4096)) := h.mem.c1
 have k1 := h.mem.f1
 have k2 := h2.c2
 have HR : Hid (Ram w p b m N B (i :: l)) := h
 have HF : Hid (Fra p b m w w2) := F1.trans F2
 have H2 : Hid (Mem w2 p b m N (zer B i) (adr l) (hdL N (i :: l)) (N - (i :: l).length)) := h2
 clear h h1 h2 F1 F2
 obtain ⟨D, hown, hhas, hsz⟩ := H2.out.hm
 have hmax : Maps.size D < maxLen := by rw [hsz]; unfold maxLen; omega
 generalize hA : adr l = A at *
 have HA : Hid (adr l = A) := hA
 clear hA
 go_enter Tryz.func9, Tryz.ntmps9
 go_wp2_with (first | (go_at_call 33; refine c.mono ?_; rintro e w0 ⟨rfl, rfl⟩) | (go_at_call 34; refine c1.mono ?_; rintro e w0 ⟨rfl, rfl⟩) | (go_at_call 35; refine c2.mono ?_; rintro e w1 ⟨rfl, rfl⟩) | (at_mapUpdate; refine wpList_mapUpdate_in _ rfl _ _ _ 78 rfl 23 83 law22 Tryz.underlying78 unitElem m _ D rfl hown hmax _ _ _ rfl rfl (Maps.keyOf_int_mk Tryz.underlying23 (WalkArith.wf_u64 (by omega))) _ [] unitElem_mk ?_; intro w4 hown4 hturn))
 go_ret2
 have hR := HR.out
 have h4 := H2.out.put hown hhas hsz (2147483648 + i * 4096) (by omega) (by rw [hdL_addr N _ i hi.2]; simp) hown4 hturn
 have hl := length_le N (i :: l) hR.mem.n1 hR.nd hR.lt
 refine ⟨rfl, ⟨?_, hn.2, fun j hj => hR.lt j (List.mem_cons_of_mem _ hj), hR.thr.2.congr (fun j hj k hk => zer_out B i _ ?_)⟩, HF.out.turned hturn⟩
 ·have h5 := h4.congr (fun a _ _ => hdL_cons N i l hi.2 hn.1 a)
  rw [HA.out, show N - l.length = N - (i :: l).length + 1 by simp at hl ⊢; omega]
  exact h5
 ·have : j ≠ i := fun e => hn.1 (e ▸ hj)
  omega
theorem hdL_del (N : Nat) (i : Nat) (L : List Nat) (hi : i < N) (a : Int) : (!decide (a = 2147483648 + (i : Int) * 4096) && hdL N L a) = hdL N (i :: L) a := by
 by_cases e : a = 2147483648 + (i : Int) * 4096
 ·subst e
  rw [hdL_addr N (i :: L) i hi]
  simp
 ·unfold hdL
  cases hf : isFr a N with
  | false => simp [e]
  | true =>
   have hf' : a % 4096 = 0 ∧ 2147483648 ≤ a ∧ a < 2147483648 + (N : Int) * 4096 := by simpa [isFr] using hf
   have : ((a - 2147483648) / 4096).toNat ≠ i := by omega
   simp [e, this]
set_option maxHeartbeats 1000000 in
theorem free_held (i : Nat) (h : Ram w p b m N B L) (h1 : 1 ≤ i) (hi : i < N) (hn : i ∉ L) : Calls Tryz.prog 156 #[.pointer (some ⟨p, 0, .none⟩), .int .u64 (2147483648 + i * 4096)] w fun e w' => e = .returned (.int .i64 0) ∧ Ram w' p b m N (thr B i (adr L)) (i :: L) ∧ Fra p b m w w' := by
 have n2 := h.mem.n2
 have hl := length_le N L h.mem.n1 h.nd h.lt
 have c := made_some p b _ _ w h.mem.c0
 have c1 := frames_any h.mem
 have c2 := isFrame_any (2147483648 + i * 4096) N (by omega) (by omega) (by omega) w
 rw [isFr_addr i N hi] at c2
 have c3 := isHeld_any h.mem (2147483648 + i * 4096) (by omega)
 rw [hdL_addr N L i hi] at c3
 simp only [hn, decide_false, Bool.not_false] at c3
 have HR : Hid (Ram w p b m N B L) := h
 clear h
 go_enter Tryz.func156, Tryz.ntmps156
 go_wp2_with (first | (go_at_call 33; refine c.mono ?_; rintro e w0 ⟨rfl, rfl⟩) | (go_at_call 41; refine c1.mono ?_; rintro e w0 ⟨rfl, rfl⟩) | (go_at_call 189; refine c2.mono ?_; rintro e w0 ⟨rfl, rfl⟩) | fail)
 refine c3.mono ?_
 rintro e w1 ⟨rfl, hb⟩
 have M1 : Hid (Mem w1 p b m N B (adr L) (hdL N L) (N - L.length)) := HR.out.mem.below hb
 have HF : Hid (Fra p b m w0 w1) := Fra.below hb
 clear hb c c1 c2 c3
 have k2 := M1.out.c2
 obtain ⟨D, hown, hhas, hsz⟩ := M1.out.hm
 go_wp2_with (first | (at_delete; refine wpList_delete_own _ rfl _ _ 78 23 rfl 83 law22 Tryz.underlying78 unitElem m _ D rfl hown _ _ rfl (Maps.keyOf_int_mk Tryz.underlying23 (WalkArith.wf_u64 (by omega))) ?_; intro w2 hown2 hturn) | fail)
 have M2 : Mem w2 p b m N B (adr L) (hdL N (i :: L)) (N - (i :: L).length) := by
  have h5 := (M1.out.del hown hhas hsz (2147483648 + i * 4096) (by omega) (by rw [hdL_addr N L i hi]; simp [hn]) hown2 hturn).congr (fun a _ _ => hdL_del N i L hi a)
  rw [show N - (i :: L).length = N - L.length - 1 by simp; omega]
  exact h5
 refine (thread_any M2 i hi).mono ?_
 rintro e w3 ⟨⟨v, rfl⟩, M3, F3⟩
 have HM3 : Hid (Ram w3 p b m N (thr B i (adr L)) (i :: L)) := ⟨M3, List.nodup_cons.2 ⟨hn, HR.out.nd⟩, fun j hj => by rcases List.mem_cons.1 hj with rfl | h; exact ⟨h1, hi⟩; exact HR.out.lt j h, HR.out.thr.cons i hn⟩
 have HF3 : Hid (Fra p b m w0 w3) := (HF.out.turned hturn).trans F3
 clear M2 M3 F3 hturn hown2 hown hhas hsz k2
 go_wp2
 go_ret
 exact ⟨rfl, HM3.out, HF3.out⟩
end
end Go.Proofs.YtabnipbdbnmmpaaGreatDoor.Rm
namespace Go.Proofs.YtabnipbdbnmmpaaGreatDoor.Rm
open Go.RowKit
def down : Nat → List Nat
 | 0 => []
 | k + 1 => (k + 1) :: down k
theorem down_mem : ∀ (k i : Nat), i ∈ down k ↔ 1 ≤ i ∧ i ≤ k
 | 0, i => by simp [down]; omega
 | k + 1, i => by
  simp only [down, List.mem_cons, down_mem k i]
  omega
theorem down_nd : ∀ k : Nat, (down k).Nodup
 | 0 => List.nodup_nil
 | k + 1 => List.nodup_cons.2 ⟨fun h => by have := (down_mem k (k + 1)).1 h; omega, down_nd k⟩
theorem down_len : ∀ k : Nat, (down k).length = k
 | 0 => rfl
 | k + 1 => by simp only [down, List.length_cons, down_len k]
def newB : Nat → Nat → Int
 | 0 => over (fun _ => 0) 0 (le 270532723 4)
 | k + 1 => thr (newB k) (k + 1) (adr (down k))
theorem newB_thr : ∀ k : Nat, Thr (newB k) (down k)
 | 0 => trivial
 | k + 1 => (newB_thr k).cons (k + 1) (fun h => by have := (down_mem k (k + 1)).1 h; omega)
theorem hd_new (n : Nat) (h : 1 ≤ n) (a : Int) : (decide (a = 2147483648) || false) = hdL n (down (n - 1)) a := by
 unfold hdL
 by_cases e : a = 2147483648
 ·subst e
  have h1 := isFr_addr 0 n (by omega)
  simp only [Int.natCast_zero, Int.zero_mul, Int.add_zero] at h1
  have h2 : ¬ 0 ∈ down (n - 1) := fun h => by have := (down_mem _ _).1 h; omega
  simp [h1, h2]
 ·cases hf : isFr a n with
  | false => simp [e]
  | true =>
   have hf' : a % 4096 = 0 ∧ 2147483648 ≤ a ∧ a < 2147483648 + (n : Int) * 4096 := by simpa [isFr] using hf
   have : ((a - 2147483648) / 4096).toNat ∈ down (n - 1) := (down_mem _ _).2 (by omega)
   simp [e, this]
def NewP (w : World) (n : Nat) (e : Ending) (w' : World) : Prop := ∃ p b m, w.heap.size ≤ p ∧ w.heap.size ≤ b ∧ w.heap.size ≤ m ∧ e = .returned (.tuple #[.pointer (some ⟨p, 0, .none⟩), .nilIface]) ∧ Ram w' p b m n (newB (n - 1)) (down (n - 1)) ∧ Below w.heap.size w w'
set_option maxHeartbeats 1000000 in
theorem new_any (n : Nat) (h1 : 1 ≤ n) (h2 : n ≤ 4096) (w : World) : Calls Tryz.prog 32 #[.int .i64 n] w fun e w' => NewP w n e w' := by
 have c := mayHave_any n w
 have e0 : decide (1 ≤ (n : Int) ∧ (n : Int) ≤ 4096) = true := by simp; omega
 rw [e0] at c
 have c1 := blank_any n h1 h2 w
 go_enter Tryz.func32, Tryz.ntmps32
 go_wp2_with (first | (go_at_call 72; refine c.mono ?_; rintro e w0 ⟨rfl, rfl⟩) | fail)
 refine c1.mono ?_
 rintro e w1 ⟨p, b, m, hp, hb, hm, rfl, M1, B1⟩
 clear c c1
 have HM1 : Hid (Mem w1 p b m n (fun _ => 0) 0 (fun _ => false) 0) := M1
 have HB1 : Hid (Below w0.heap.size w0 w1) := B1
 have k2 := M1.c2
 obtain ⟨D, hown, hhas, hsz⟩ := M1.hm
 have hmax : Maps.size D < maxLen := by rw [hsz]; unfold maxLen; omega
 clear M1 B1
 go_wp2_with (first | (at_mapUpdate; refine wpList_mapUpdate_in _ rfl _ _ _ 78 rfl 23 83 law22 Tryz.underlying78 unitElem m _ D rfl hown hmax _ _ _ rfl rfl (Maps.keyOf_int_mk Tryz.underlying23 (WalkArith.wf_u64 (by omega))) _ [] unitElem_mk ?_; intro w2 hown2 hturn) | fail)
 have M2 := HM1.out.put hown hhas hsz 2147483648 (by omega) rfl hown2 hturn
 have F2 : Fra p b m w1 w2 := (Fra.refl p b m w1).turned hturn
 clear hown hhas hsz hmax hown2 hturn
 have c2 := frame_any M2 0 (by omega)
 simp only [Int.natCast_zero, Int.zero_mul, Int.add_zero, Nat.zero_mul, Nat.sub_zero] at c2
 have c3 := number32_write b 0 4096 (4096 * n) 270532723 w2 (by omega) (fun k hk => by rw [M2.cb _ (by omega)]; rfl) (fun k hk => M2.fb _ (by omega)) (by omega)
 have M3 := M2.setCells 0 (le 270532723 4) (by rw [le_len]; omega) (le_bd _ _)
 have F3 := F2.setCells 0 ((le 270532723 4).map (.int .u8))
 generalize w2.setCells b 0 ((le 270532723 4).map (.int .u8)) = w3 at *
 go_wp2_with (first | (go_at_call 35; refine c2.mono ?_; rintro e w4 ⟨rfl, rfl⟩) | (go_at_call 75; refine c3.mono ?_; rintro e w5 ⟨rfl, rfl⟩) | fail)
 have HM3 : Hid (Mem w5 p b m n (newB 0) (adr (down 0)) (fun x => decide (x = 2147483648) || false) 1) := M3
 have HF3 : Hid (Fra p b m w1 w5) := F3
 clear M2 F2 M3 F3 c2 c3
 go_loopw [5] (fun k wr => ∃ i : Nat, i + 1 ≤ n ∧ k = .int .i64 (i + 1) ∧ Mem wr p b m n (newB i) (adr (down i)) (fun x => decide (x = 2147483648) || false) 1 ∧ Fra p b m w1 wr) (fun k _ => n - (intOf k).toNat)
 case atStart => exact ⟨0, by omega, rfl, HM3.out, HF3.out⟩
 case round =>
  obtain ⟨i, hi, rfl, M, F⟩ := hrel
  have HM : Hid (Mem wr p b m n (newB i) (adr (down i)) (fun x => decide (x = 2147483648) || false) 1) := M
  have HF : Hid (Fra p b m w1 wr) := F
  by_cases hin : i + 1 < n
  ·have i1 : (i : Int) + 1 < n := by omega
   have c4 := addr_any (i + 1) (by omega) (by omega) wr
   have c5 := thread_any M (i + 1) hin
   rw [show ((i + 1 : Nat) : Int) = (i : Int) + 1 by omega] at c5
   clear M F
   go_wp2_with (first | (go_at_call 77; refine c4.mono ?_; rintro e w6 ⟨rfl, rfl⟩) | fail)
   refine c5.mono ?_
   rintro e w7 ⟨⟨v, rfl⟩, M7, F7⟩
   have HM7 : Hid (Mem w7 p b m n (newB (i + 1)) (adr (down (i + 1))) (fun x => decide (x = 2147483648) || false) 1) := by
    have := M7
    rw [show (2147483648 + ((i : Int) + 1) * 4096) = adr (down (i + 1)) by simp [down, adr]] at this
    exact this
   have HF7 : Hid (Fra p b m w1 w7) := HF.out.trans F7
   clear M7 F7 c4 c5
   go_wp2
   exact ⟨⟨i + 1, by omega, by simp, HM7.out, HF7.out⟩, by simp [intOf]; omega⟩
  ·have i1 : ¬ ((i : Int) + 1 < n) := by omega
   clear M F
   go_wp2
   go_ret2
   have ein : i = n - 1 := by omega
   subst ein
   refine ⟨p, b, m, hp, hb, hm, rfl, ⟨?_, down_nd _, fun j hj => by have := (down_mem _ _).1 hj; omega, newB_thr _⟩, HB1.out.trans (HF.out.toBelow (HB1.out.size) hp hb hm)⟩
   have := HM.out.congr (fun a _ _ => hd_new n h1 a)
   rw [down_len, show n - (n - 1) = 1 by omega]
   exact this
end Go.Proofs.YtabnipbdbnmmpaaGreatDoor.Rm
