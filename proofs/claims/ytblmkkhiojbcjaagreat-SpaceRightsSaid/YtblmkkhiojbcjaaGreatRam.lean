import Derived.Test.YtblmkkhiojbcjaaGreatThr
namespace Go.Proofs.YtblmkkhiojbcjaaGreat
open Go.RowKit
set_option linter.unusedVariables false
set_option linter.unusedSimpArgs false
theorem own_size {w : World} {m n : Nat} {D : DataW Unit} (h : w.ownsMap Tryz.prog 23 unitElem m n D) : w.ownsMap Tryz.prog 23 unitElem m (Maps.size D) D := by
  obtain ⟨es, cl, h1, h2, h3, rfl⟩ := h
  exact ⟨es, cl, h1, h2, by simp [Maps.size, length_sorted], rfl⟩
theorem isKey (a : Int) : WideAt.IsKeyLit (.int .u64 a) := by trivial
theorem ne_lit {a x : Int} (h : x ≠ a) : (Lit.int .u64 x) ≠ .int .u64 a := fun e => h (by injection e)
section
variable {w w' : World} {p b m N cnt : Nat} {B : Nat → Int} {nx : Int} {hd hd' : Int → Bool} {D : DataW Unit}
theorem Mem.congr (h : Mem w p b m N B nx hd cnt) (e : ∀ a : Int, 0 ≤ a → a < 18446744073709551616 → hd a = hd' a) : Mem w p b m N B nx hd' cnt := by
  obtain ⟨D, h1, h2, h3⟩ := h.hm
  exact ⟨h.c0, h.c1, h.c2, h.f1, h.cb, h.fb, ⟨D, h1, fun a h4 h5 => (h2 a h4 h5).trans (e a h4 h5), h3⟩, h.n1, h.n2, h.bb, h.nb⟩
theorem Mem.turn (h : Mem w p b m N B nx hd cnt) (t : w.mapTurned w' m) {D' : DataW Unit} {n : Nat} (hown : w'.ownsMap Tryz.prog 23 unitElem m n D') (hh : ∀ a : Int, 0 ≤ a → a < 18446744073709551616 → Maps.has D' (.int .u64 a) = hd' a) {cnt' : Nat} (hc : Maps.size D' = cnt') : Mem w' p b m N B nx hd' cnt' := by
  have g := t.grown
  have hp : w'.heap[p]? = w.heap[p]? := g.block p h.plt (by simpa using fun e => h.mp e.symm)
  have hb : w'.heap[b]? = w.heap[b]? := g.block b h.blt (by simpa using fun e => h.mb e.symm)
  have cp : ∀ i, w'.cell? ⟨p, i, .none⟩ = w.cell? ⟨p, i, .none⟩ := fun i => by simp only [World.cell?, hp]
  have cb : ∀ i, w'.cell? ⟨b, i, .none⟩ = w.cell? ⟨b, i, .none⟩ := fun i => by simp only [World.cell?, hb]
  exact ⟨(cp 0).trans h.c0, (cp 1).trans h.c1, (cp 2).trans h.c2, (t.frozen _).trans h.f1, fun i hi => (cb i).trans (h.cb i hi), fun i hi => (t.frozen _).trans (h.fb i hi), ⟨D', own_size hown, hh, hc⟩, h.n1, h.n2, h.bb, h.nb⟩
theorem Mem.put (h : Mem w p b m N B nx hd cnt) (hown : w.ownsMap Tryz.prog 23 unitElem m (Maps.size D) D) (hhas : ∀ a : Int, 0 ≤ a → a < 18446744073709551616 → Maps.has D (.int .u64 a) = hd a) (hsz : Maps.size D = cnt)
    (a : Int) (ha : 0 ≤ a ∧ a < 18446744073709551616) (hf : hd a = false) {n : Nat} (h1 : w'.ownsMap Tryz.prog 23 unitElem m n (D.put (.int .u64 a) (.agg []))) (t : w.mapTurned w' m) :
    Mem w' p b m N B nx (fun x => decide (x = a) || hd x) (cnt + 1) := by
  refine h.turn t h1 (fun x hx0 hx1 => ?_) ?_
  · by_cases e : x = a
    · subst e
      rw [Maps.has_put_same hown.isMap (isKey _)]
      simp
    · rw [Maps.has_put_other (ne_lit e), hhas x hx0 hx1]
      simp [e]
  · rw [Maps.size_put (hown.tidy law22), hhas a ha.1 ha.2, hf]
    simp [hsz]
theorem Mem.del (h : Mem w p b m N B nx hd cnt) (hown : w.ownsMap Tryz.prog 23 unitElem m (Maps.size D) D) (hhas : ∀ a : Int, 0 ≤ a → a < 18446744073709551616 → Maps.has D (.int .u64 a) = hd a) (hsz : Maps.size D = cnt)
    (a : Int) (ha : 0 ≤ a ∧ a < 18446744073709551616) (hf : hd a = true) {n : Nat} (h1 : w'.ownsMap Tryz.prog 23 unitElem m n (D.del (.int .u64 a))) (t : w.mapTurned w' m) :
    Mem w' p b m N B nx (fun x => !decide (x = a) && hd x) (cnt - 1) := by
  refine h.turn t h1 (fun x hx0 hx1 => ?_) ?_
  · by_cases e : x = a
    · subst e
      rw [Maps.has_del_same]
      simp
    · rw [Maps.has_del_other (ne_lit e), hhas x hx0 hx1]
      simp [e]
  · have := Maps.size_del (k := .int .u64 a) (hown.tidy law22)
    rw [hhas a ha.1 ha.2, hf, hsz] at this
    simp at this
    omega
end
/-- Where the list begins. -/
def adr : List Nat → Int
  | [] => 0
  | i :: _ => 2147483648 + i * 4096
theorem adr_bd {N : Nat} (hN : N ≤ 4096) {L : List Nat} (h : ∀ i ∈ L, 1 ≤ i ∧ i < N) : 0 ≤ adr L ∧ adr L < 18446744073709551616 := by
  cases L with
  | nil => simp [adr]
  | cons i l =>
    have := h i (List.mem_cons_self ..)
    simp only [adr]
    omega
/-- What a free frame's bytes are. -/
def jb (v : Int) (k : Nat) : Int := if k < 8 then v / 256 ^ k % 256 else 5
def Thr (B : Nat → Int) : List Nat → Prop
  | [] => True
  | i :: l => (∀ k, k < 4096 → B (i * 4096 + k) = jb (adr l) k) ∧ Thr B l
def hdL (N : Nat) (L : List Nat) (a : Int) : Bool := isFr a N && !decide (((a - 2147483648) / 4096).toNat ∈ L)
theorem le_get (v : Int) (n k : Nat) (h : k < n) : (le v n).getD k 0 = v / 256 ^ k % 256 := by
  simp [le, List.getD_eq_getElem?_getD, List.getElem?_range h]
theorem junk_get (k : Nat) (h : k < 4088) : junk.getD k 0 = 5 := by
  simp only [junk, List.getD_eq_getElem?_getD, List.getElem?_replicate, if_pos h]
  rfl
theorem thr_in (B : Nat → Int) (i : Nat) (v : Int) (k : Nat) (hk : k < 4096) : thr B i v (i * 4096 + k) = jb v k := by
  unfold thr over jb
  rw [le_len, junk_len]
  by_cases h8 : k < 8
  · rw [if_neg (by omega), if_pos (by omega), if_pos h8, show i * 4096 + k - i * 4096 = k by omega, le_get v 8 k h8]
  · rw [if_pos (by omega), if_neg h8, junk_get _ (by omega)]
theorem thr_out (B : Nat → Int) (i : Nat) (v : Int) (j : Nat) (hj : j < i * 4096 ∨ i * 4096 + 4096 ≤ j) : thr B i v j = B j := by
  unfold thr over
  rw [le_len, junk_len, if_neg (by omega), if_neg (by omega)]
theorem Thr.congr {B B' : Nat → Int} : ∀ {L : List Nat}, Thr B L → (∀ i ∈ L, ∀ k, k < 4096 → B' (i * 4096 + k) = B (i * 4096 + k)) → Thr B' L
  | [], _, _ => trivial
  | i :: l, h, e => ⟨fun k hk => (e i (List.mem_cons_self ..) k hk).trans (h.1 k hk), Thr.congr h.2 (fun j hj => e j (List.mem_cons_of_mem _ hj))⟩
theorem Thr.cons {B : Nat → Int} {L : List Nat} (h : Thr B L) (i : Nat) (hi : i ∉ L) : Thr (thr B i (adr L)) (i :: L) :=
  ⟨fun k hk => thr_in B i _ k hk, h.congr (fun j hj k hk => thr_out B i _ _ (by have : j ≠ i := fun e => hi (e ▸ hj); omega))⟩
theorem nodup_le : ∀ (n : Nat) (L : List Nat), L.Nodup → (∀ i ∈ L, i < n) → L.length ≤ n
  | 0, L, _, h => by
    cases L with
    | nil => exact Nat.le_refl _
    | cons i l => exact absurd (h i (List.mem_cons_self ..)) (Nat.not_lt_zero _)
  | n + 1, L, hn, h => by
    have h1 := nodup_le n (L.erase n) (hn.erase n) (fun i hi => by
      rw [hn.mem_erase_iff] at hi
      have := h i hi.2
      omega)
    have h2 := List.length_erase (a := n) (l := L)
    split at h2 <;> omega
theorem length_le (N : Nat) (L : List Nat) (hN : 1 ≤ N) (hn : L.Nodup) (hl : ∀ i ∈ L, 1 ≤ i ∧ i < N) : L.length + 1 ≤ N := by
  refine nodup_le N (0 :: L) (List.nodup_cons.2 ⟨fun h => by have := hl 0 h; omega, hn⟩) (fun i hi => ?_)
  rcases List.mem_cons.1 hi with rfl | h
  · omega
  · exact (hl i h).2
structure Ram (w : World) (p b m N : Nat) (B : Nat → Int) (L : List Nat) : Prop where
  mem : Mem w p b m N B (adr L) (hdL N L) (N - L.length)
  nd : L.Nodup
  lt : ∀ i ∈ L, 1 ≤ i ∧ i < N
  thr : Thr B L
/-- A number's bytes, read again. -/
theorem num_jb (B : Nat → Int) (o : Nat) (v : Int) (hv : 0 ≤ v ∧ v < 18446744073709551616) (h : ∀ k, k < 8 → B (o + k) = v / 256 ^ k % 256) : num B o 8 = v := by
  have key : ∀ n, n ≤ 8 → num B o n = md v n := by
    intro n
    induction n with
    | zero => intro _; rw [md_zero]; rfl
    | succ n ih => intro hn; rw [md_step]; simp only [num]; rw [ih (by omega), h n (by omega), Int.mul_comm]
  rw [key 8 (by omega)]
  unfold md
  omega
end Go.Proofs.YtblmkkhiojbcjaaGreat
