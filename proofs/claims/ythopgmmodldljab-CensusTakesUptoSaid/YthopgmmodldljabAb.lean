import Derived.Test.YthopgmmodldljabRows
import Derived.WalkKit
import Derived.WalkSpells
import Derived.RowKit3
import Derived.Deep.QuietTactic
import Derived.BigQuiet
import Derived.WalkSmall
import Derived.Below
import Derived.Deep.Heap
import Derived.RegionTactic
import Derived.BigRegion
import Derived.Laws.IdiomCopy
import Derived.Deep.MidRow
import Derived.Deep.RegionLaw
import Derived.Deep.RegionHeld
import Derived.Deep.Cut
import Derived.Deep.Upon
import Derived.Laws.AppendOwn
import Derived.Maps.AppendAt
import Derived.OwnWalk
import Derived.Great.BuildSlice
namespace Go.Proofs.Ythopgmmodldljab
open Go Go.RowKit
set_option linter.unusedVariables false
set_option linter.unusedSimpArgs false
/-- How many pieces of s are begun by n. -/
def bg (n s : Int) : Int := if n % s = 0 then n / s else n / s + 1
theorem begun_any (n s : Int) (h0 : 0 ≤ n) (h1 : n < 18446744073709551616) (hs : s = 512 ∨ s = 4096) (w : World) : Calls Try.prog 70 #[.int .u64 n, .int .u64 s] w fun e w' => e = .returned (.int .u64 (bg n s)) ∧ w' = w := by
 have ht : n.tmod s = n % s := Int.tmod_eq_emod_of_nonneg h0
 have hd : n.tdiv s = n / s := Int.tdiv_eq_ediv_of_nonneg h0
 unfold bg
 rcases hs with rfl | rfl
 ·by_cases h : n % 512 = 0
  ·have e1 : (n % 512 == 0) = true := by simpa using h
   have HH : Hid (n % 512 = 0) := h
   clear h
   go_enter Try.func70, Try.ntmps70
   go_wp2
   go_ret
   exact ⟨by first | rfl | rw [if_pos HH.out], rfl⟩
  ·have e1 : (n % 512 == 0) = false := by simpa using h
   have e2 : IntKind.u64.wrap (n / 512 + 1) = n / 512 + 1 := by rw [IntKind.wrap_u64]; omega
   have HH : Hid (¬ n % 512 = 0) := h
   clear h
   go_enter Try.func70, Try.ntmps70
   go_wp2
   go_ret
   exact ⟨by first | rfl | rw [if_neg HH.out], rfl⟩
 ·by_cases h : n % 4096 = 0
  ·have e1 : (n % 4096 == 0) = true := by simpa using h
   have HH : Hid (n % 4096 = 0) := h
   clear h
   go_enter Try.func70, Try.ntmps70
   go_wp2
   go_ret
   exact ⟨by first | rfl | rw [if_pos HH.out], rfl⟩
  ·have e1 : (n % 4096 == 0) = false := by simpa using h
   have e2 : IntKind.u64.wrap (n / 4096 + 1) = n / 4096 + 1 := by rw [IntKind.wrap_u64]; omega
   have HH : Hid (¬ n % 4096 = 0) := h
   clear h
   go_enter Try.func70, Try.ntmps70
   go_wp2
   go_ret
   exact ⟨by first | rfl | rw [if_neg HH.out], rfl⟩
/-- P17.4's formula. -/
def ndF (p : Int) : Int := if p < 0 then 0 else if p = 0 then 3 else 4 + bg p 512
theorem bg512 (p : Int) (h0 : 0 ≤ p) (h1 : p ≤ 9223372036854775807) : 0 ≤ bg p 512 ∧ bg p 512 ≤ 18014398509481984 := by
 unfold bg
 split <;> omega
theorem nodes_any (p : Int) (h0 : -9223372036854775808 ≤ p) (h1 : p ≤ 9223372036854775807) (w : World) : Calls Try.prog 71 #[.int .i64 p] w fun e w' => e = .returned (.int .i64 (ndF p)) ∧ w' = w := by
 unfold ndF
 by_cases hn : p < 0
 ·go_enter Try.func71, Try.ntmps71
  go_wp2
  go_ret
  exact ⟨by first | rfl | rw [if_pos hn], rfl⟩
 ·by_cases hz : p = 0
  ·subst hz
   go_enter Try.func71, Try.ntmps71
   go_wp2
   go_ret
   exact ⟨rfl, rfl⟩
  ·have e1 : (p == 0) = false := by simpa using hz
   have e2 : IntKind.u64.wrap p = p := by rw [IntKind.wrap_u64]; omega
   obtain ⟨b0, b1⟩ := bg512 p (by omega) h1
   have e3 : IntKind.i64.wrap (bg p 512) = bg p 512 := by rw [IntKind.wrap_i64]; omega
   have e4 : IntKind.i64.wrap (4 + bg p 512) = 4 + bg p 512 := by rw [IntKind.wrap_i64]; omega
   have HH : Hid (¬ p = 0) := hz
   clear hz
   by_cases h : p % 512 = 0
   ·have e5 : (p % 512 == 0) = true := by simpa using h
    have ht : p.tmod 512 = p % 512 := Int.tmod_eq_emod_of_nonneg (by omega)
    have hd : p.tdiv 512 = p / 512 := Int.tdiv_eq_ediv_of_nonneg (by omega)
    have HX : Hid (p % 512 = 0) := h
    clear h
    go_enter Try.func71, Try.ntmps71
    go_wp2
    go_ret
    exact ⟨by show Ending.returned (.int .i64 (4 + p / 512)) = _; rw [bg, if_pos HX.out], rfl⟩
   ·have e5 : (p % 512 == 0) = false := by simpa using h
    have ht : p.tmod 512 = p % 512 := Int.tmod_eq_emod_of_nonneg (by omega)
    have hd : p.tdiv 512 = p / 512 := Int.tdiv_eq_ediv_of_nonneg (by omega)
    have HX : Hid (¬ p % 512 = 0) := h
    clear h
    go_enter Try.func71, Try.ntmps71
    go_wp2
    go_ret
    exact ⟨by show Ending.returned (.int .i64 (4 + (p / 512 + 1))) = _; rw [bg, if_neg HX.out], rfl⟩
theorem rnodes_any (p : Int) (h0 : -9223372036854775808 ≤ p) (h1 : p ≤ 9223372036854775807) (w : World) : Calls Try.prog 65 #[.int .i64 p] w fun e w' => e = .returned (.int .i64 (ndF p)) ∧ w' = w := by
 unfold ndF
 by_cases hn : p < 0
 ·go_enter Try.func65, Try.ntmps65
  go_wp2
  go_ret
  exact ⟨by first | rfl | rw [if_pos hn], rfl⟩
 ·by_cases hz : p = 0
  ·subst hz
   go_enter Try.func65, Try.ntmps65
   go_wp2
   go_ret
   exact ⟨rfl, rfl⟩
  ·have e1 : (p == 0) = false := by simpa using hz
   have ht : p.tmod 512 = p % 512 := Int.tmod_eq_emod_of_nonneg (by omega)
   have hd : p.tdiv 512 = p / 512 := Int.tdiv_eq_ediv_of_nonneg (by omega)
   obtain ⟨b0, b1⟩ := bg512 p (by omega) h1
   have HH : Hid (¬ p = 0) := hz
   clear hz
   by_cases h : p % 512 = 0
   ·have e2 : (p % 512 == 0) = true := by simpa using h
    have HX : Hid (p % 512 = 0) := h
    clear h
    go_enter Try.func65, Try.ntmps65
    go_wp2
    go_ret
    exact ⟨by show Ending.returned (.int .i64 (4 + p / 512)) = _; rw [bg, if_pos HX.out], rfl⟩
   ·have e2 : (p % 512 == 0) = false := by simpa using h
    have e5 : IntKind.i64.wrap (p / 512 + 1) = p / 512 + 1 := by rw [IntKind.wrap_i64]; omega
    have e6 : IntKind.i64.wrap (4 + (p / 512 + 1)) = 4 + (p / 512 + 1) := by rw [IntKind.wrap_i64]; omega
    have HX : Hid (¬ p % 512 = 0) := h
    clear h
    go_enter Try.func65, Try.ntmps65
    go_wp2
    go_ret
    exact ⟨by show Ending.returned (.int .i64 (4 + (p / 512 + 1))) = _; rw [bg, if_neg HX.out], rfl⟩
end Go.Proofs.Ythopgmmodldljab
namespace Go.Proofs.Ythopgmmodldljab
open Go Go.RowKit
set_option linter.unusedVariables false
set_option linter.unusedSimpArgs false
/-! A look as plain data. -/
structure Pg where
 no : Int
 fr : Int
 pm : Int
def Pg.l (x : Pg) : List Value := [.int .u64 x.no, .int .u64 x.fr, .int .u64 x.pm]
structure Fi where
 num : Int
 kind : Int
 refs : Int
 rd : Bool
 wr : Bool
 ino : Int
 off : Int
 pipe : Int
def Fi.l (x : Fi) : List Value := [.int .i64 x.num, .int .i64 x.kind, .int .i64 x.refs, .bool x.rd, .bool x.wr, .int .i64 x.ino, .int .i64 x.off, .int .i64 x.pipe]
structure In where
 ino : Int
 ty : Int
 ma : Int
 mi : Int
 links : Int
 refs : Int
 size : Int
 bl : List Int
def In.l (x : In) (bv : Value) : List Value := [.int .i64 x.ino, .int .i64 x.ty, .int .i16 x.ma, .int .i16 x.mi, .int .i64 x.links, .int .i64 x.refs, .int .i64 x.size, bv]
structure Pp where
 num : Int
 bs : List Int
 rs : Int
 ws : Int
 rd : Bool
 wr : Bool
def Pp.l (x : Pp) (bv : Value) : List Value := [.int .i64 x.num, bv, .int .u32 x.rs, .int .u32 x.ws, .bool x.rd, .bool x.wr]
structure Pc where
 c : Nat → Int
 kil : Bool
 inC : Bool
 nodes : List Int
 pages : List Pg
def Pc.l (p : Pc) (nv gv : Value) : List Value := [.int .i64 (p.c 0), .int .i64 (p.c 1), .int .i64 (p.c 2), .int .i64 (p.c 3), .int .i64 (p.c 4), .int .i64 (p.c 5), .bool p.kil, .int .i32 (p.c 7), .int .u64 (p.c 8), .int .u64 (p.c 9), .int .u64 (p.c 10), .int .u64 (p.c 11), .int .u64 (p.c 12), .int .u64 (p.c 13), .int .u64 (p.c 14), .int .u64 (p.c 15), .int .u64 (p.c 16), .int .u64 (p.c 17), .int .u64 (p.c 18), .int .u64 (p.c 19), .int .u64 (p.c 20), .int .u64 (p.c 21), .int .u64 (p.c 22), .int .u64 (p.c 23), .int .u64 (p.c 24), .int .u64 (p.c 25), .int .u64 (p.c 26), .int .u64 (p.c 27), .int .u64 (p.c 28), .int .u64 (p.c 29), .int .u64 (p.c 30), .int .u64 (p.c 31), .int .u64 (p.c 32), .int .u64 (p.c 33), .int .u64 (p.c 34), .int .u64 (p.c 35), .int .u64 (p.c 36), .int .u64 (p.c 37), .int .u64 (p.c 38), .int .u64 (p.c 39), .int .u64 (p.c 40), .int .u64 (p.c 41), .int .u64 (p.c 42), .int .u64 (p.c 43), nv, gv, .int .i64 (p.c 46), .int .i64 (p.c 47), .int .i64 (p.c 48), .int .i64 (p.c 49), .int .i64 (p.c 50), .int .i64 (p.c 51), .int .i64 (p.c 52), .int .i64 (p.c 53), .int .i64 (p.c 54), .int .i64 (p.c 55), .int .i64 (p.c 56), .int .i64 (p.c 57), .int .i64 (p.c 58), .int .i64 (p.c 59), .int .i64 (p.c 60), .int .i64 (p.c 61), .int .i64 (p.c 62), .bool p.inC, .int .i64 (p.c 64), .int .u64 (p.c 65), .int .u64 (p.c 66), .int .u64 (p.c 67), .int .i64 (p.c 68), .int .u64 (p.c 69)]
structure Lk where
 tramp : Int
 procs : List Pc
 files : List Fi
 inos : List In
 pipes : List Pp
 ready : List Int
 line : List Int
 ticks : Int
 next : Int
 free : Int
/-! Reading lists out of a world. -/
section
variable {α : Type}
/-- A slice of elements of sz cells reads as the list l (Q: what an element's cells are). -/
def Sl (w : World) (X sz : Nat) (Q : α → List Value → Prop) (v : Value) (l : List α) : Prop :=
 ∃ p c, v = .slice p l.length c ∧ (l = [] ∨ ∃ b o, p = some ⟨b, o, .none⟩ ∧ b < X ∧ ∀ i x, l[i]? = some x → ∃ cs, Q x cs ∧ cs.length = sz ∧ w.rangeAt b (o + i * sz) cs)
theorem range_keep {w w' : World} {B b o : Nat} {cs : List Value} (h : w.rangeAt b o cs) (hb : Below B w w') (hB : b < B) : w'.rangeAt b o cs := fun j v hj => (hb.cell (p := ⟨b, o + j, .none⟩) hB).trans (h j v hj)
theorem Sl.mono {w w' : World} {X X' sz : Nat} {Q Q' : α → List Value → Prop} {v : Value} {l : List α} (h : Sl w X sz Q v l) (hX : X ≤ X') (hb : Below X w w') (hQ : ∀ x ∈ l, ∀ cs, Q x cs → Q' x cs) : Sl w' X' sz Q' v l := by
 obtain ⟨p, c, hv, h⟩ := h
 refine ⟨p, c, hv, h.imp id ?_⟩
 rintro ⟨b, o, hp, hlt, hr⟩
 refine ⟨b, o, hp, by omega, fun i x hx => ?_⟩
 obtain ⟨cs, q, hl, hc⟩ := hr i x hx
 exact ⟨cs, hQ x (List.mem_of_getElem? hx) cs q, hl, range_keep hc hb hlt⟩
theorem Sl.nil (w : World) (X sz : Nat) (Q : α → List Value → Prop) : Sl w X sz Q (.slice none 0 0) [] := ⟨none, 0, rfl, .inl rfl⟩
theorem Sl.form {w : World} {X sz : Nat} {Q : α → List Value → Prop} {v : Value} {l : List α} (h : Sl w X sz Q v l) : ∃ p c, v = .slice p l.length c := by
 obtain ⟨p, c, hv, _⟩ := h
 exact ⟨p, c, hv⟩
theorem Sl.at {w : World} {X sz n c : Nat} {Q : α → List Value → Prop} {p : Option Addr} {l : List α} (h : Sl w X sz Q (.slice p n c) l) {i : Nat} (hi : i < n) : n = l.length ∧ ∃ b o x cs, p = some ⟨b, o, .none⟩ ∧ b < X ∧ l[i]? = some x ∧ Q x cs ∧ cs.length = sz ∧ w.rangeAt b (o + i * sz) cs := by
 obtain ⟨p', c', hv, h⟩ := h
 cases hv
 refine ⟨rfl, ?_⟩
 rcases h with h | ⟨b, o, hp, hlt, hr⟩
 ·rw [h] at hi; simp at hi
 ·have hx : l[i]? = some l[i] := List.getElem?_eq_getElem hi
  obtain ⟨cs, q, hl, hc⟩ := hr i _ hx
  exact ⟨b, o, _, cs, hp, hlt, hx, q, hl, hc⟩
/-- An owned row reads as its list. -/
theorem flat_len {sz : Nat} : ∀ {C : List (List Value)}, (∀ c ∈ C, c.length = sz) → C.flatten.length = C.length * sz
 | [], _ => by simp
 | c :: C, h => by
  rw [List.flatten_cons, List.length_append, flat_len (fun c hc => h c (by simp [hc])), h c (by simp), List.length_cons, Nat.add_mul]
  omega
theorem flat_get {sz : Nat} : ∀ {C : List (List Value)}, (∀ c ∈ C, c.length = sz) → ∀ (i : Nat) (cs : List Value), C[i]? = some cs → ∀ j v, cs[j]? = some v → C.flatten[i * sz + j]? = some v
 | [], _, i, cs, h, _, _, _ => by simp at h
 | c :: C, hC, 0, cs, h, j, v, hj => by
  simp only [List.getElem?_cons_zero, Option.some.injEq] at h
  subst h
  rw [List.flatten_cons, Nat.zero_mul, Nat.zero_add, List.getElem?_append_left (List.getElem?_eq_some_iff.1 hj).1]
  exact hj
 | c :: C, hC, i + 1, cs, h, j, v, hj => by
  simp only [List.getElem?_cons_succ] at h
  have hc : c.length = sz := hC c (by simp)
  have := flat_get (fun c hc => hC c (by simp [hc])) i cs h j v hj
  rw [List.flatten_cons, List.getElem?_append_right (by rw [hc, Nat.add_mul]; omega), hc, show (i + 1) * sz + j - sz = i * sz + j by rw [Nat.add_mul]; omega]
  exact this
theorem Sl.ofOwn {w : World} {base e sz n : Nat} {v : Value} {xs : List Value} (h : w.ownsRow base e sz v n xs) {l : List α} {C : List (List Value)} {Q : α → List Value → Prop} (hx : xs = C.flatten) (hC : ∀ c ∈ C, c.length = sz) (hn : l.length = n) (hl : C.length = n)
  (hQ : ∀ (i : Nat) (x : α) (cs : List Value), l[i]? = some x → C[i]? = some cs → Q x cs) : Sl w w.heap.size sz Q v l := by
 rcases h.2 with ⟨rfl, h0⟩ | ⟨g, cap, cur, rfl, hb, hg, hc, _⟩
 ·exact ⟨none, 0, by rw [hn, h0], .inl (List.eq_nil_of_length_eq_zero (by omega))⟩
 ·refine ⟨some ⟨g, 0, .none⟩, cap, by rw [hn], .inr ⟨g, 0, rfl, (h.lt g rfl).2, fun i x hi => ?_⟩⟩
  have hil : i < C.length := by have := (List.getElem?_eq_some_iff.1 hi).1; omega
  refine ⟨C[i], hQ i x _ hi (List.getElem?_eq_getElem hil), hC _ (List.getElem_mem hil), fun j u hj => ?_⟩
  have := h.cells (g := g) rfl (i * sz + j) u (by rw [hx]; exact flat_get hC i _ (List.getElem?_eq_getElem hil) j u hj)
  rw [Addr.add_mid] at this
  rw [Nat.zero_add]
  simpa using this
end
def qI (k : IntKind) (x : Int) (cs : List Value) : Prop := cs = [.int k x]
/-- A slice of words, of bytes, of pages. -/
abbrev Wd (w : World) (X : Nat) (v : Value) (l : List Int) : Prop := Sl w X 1 (qI .u64) v l
abbrev Bt (w : World) (X : Nat) (v : Value) (l : List Int) : Prop := Sl w X 1 (qI .u8) v l
abbrev Gs (w : World) (X : Nat) (v : Value) (l : List Pg) : Prop := Sl w X 3 (fun x cs => cs = x.l) v l
abbrev Fs (w : World) (X : Nat) (v : Value) (l : List Fi) : Prop := Sl w X 8 (fun x cs => cs = x.l) v l
abbrev Is (w : World) (X : Nat) (v : Value) (l : List In) : Prop := Sl w X 8 (fun x cs => ∃ bv, cs = x.l bv ∧ Wd w X bv x.bl) v l
abbrev Qs (w : World) (X : Nat) (v : Value) (l : List Pp) : Prop := Sl w X 6 (fun x cs => ∃ bv, cs = x.l bv ∧ Bt w X bv x.bs) v l
abbrev Ps (w : World) (X : Nat) (v : Value) (l : List Pc) : Prop := Sl w X 70 (fun x cs => ∃ nv gv, cs = x.l nv gv ∧ Wd w X nv x.nodes ∧ Gs w X gv x.pages) v l
theorem Wd.keep {w w' : World} {X X' : Nat} {k : IntKind} {v : Value} {l : List Int} (h : Sl w X 1 (qI k) v l) (hX : X ≤ X') (hb : Below X w w') : Sl w' X' 1 (qI k) v l := Sl.mono h hX hb (fun _ _ _ q => q)
theorem Gs.keep {w w' : World} {X X' : Nat} {v : Value} {l : List Pg} (h : Gs w X v l) (hX : X ≤ X') (hb : Below X w w') : Gs w' X' v l := Sl.mono h hX hb (fun _ _ _ q => q)
theorem Fs.keep {w w' : World} {X X' : Nat} {v : Value} {l : List Fi} (h : Fs w X v l) (hX : X ≤ X') (hb : Below X w w') : Fs w' X' v l := Sl.mono h hX hb (fun _ _ _ q => q)
theorem Is.keep {w w' : World} {X X' : Nat} {v : Value} {l : List In} (h : Is w X v l) (hX : X ≤ X') (hb : Below X w w') : Is w' X' v l := Sl.mono h hX hb (fun _ _ _ ⟨bv, e, q⟩ => ⟨bv, e, Wd.keep q hX hb⟩)
theorem Qs.keep {w w' : World} {X X' : Nat} {v : Value} {l : List Pp} (h : Qs w X v l) (hX : X ≤ X') (hb : Below X w w') : Qs w' X' v l := Sl.mono h hX hb (fun _ _ _ ⟨bv, e, q⟩ => ⟨bv, e, Wd.keep q hX hb⟩)
theorem Ps.keep {w w' : World} {X X' : Nat} {v : Value} {l : List Pc} (h : Ps w X v l) (hX : X ≤ X') (hb : Below X w w') : Ps w' X' v l := Sl.mono h hX hb (fun _ _ _ ⟨nv, gv, e, q, r⟩ => ⟨nv, gv, e, Wd.keep q hX hb, Gs.keep r hX hb⟩)
/-- The look's own ten cells. -/
def lkL (t : Int) (pv fv iv qv rv lv : Value) (ti nx fr : Int) : List Value := [.int .u64 t, pv, fv, iv, qv, rv, lv, .int .u64 ti, .int .i64 nx, .int .i64 fr]
/-- A look in a world: its six slices read as its lists. -/
structure LkW (w : World) (X : Nat) (pv fv iv qv rv lv : Value) (L : Lk) : Prop where
 ps : Ps w X pv L.procs
 fs : Fs w X fv L.files
 is : Is w X iv L.inos
 qs : Qs w X qv L.pipes
 rd : Bt w X rv L.ready
 ln : Bt w X lv L.line
theorem LkW.keep {w w' : World} {X X' : Nat} {pv fv iv qv rv lv : Value} {L : Lk} (h : LkW w X pv fv iv qv rv lv L) (hX : X ≤ X') (hb : Below X w w') : LkW w' X' pv fv iv qv rv lv L :=
 ⟨h.ps.keep hX hb, h.fs.keep hX hb, h.is.keep hX hb, h.qs.keep hX hb, Wd.keep h.rd hX hb, Wd.keep h.ln hX hb⟩
theorem below1 (w : World) (o : Obj) : Below w.heap.size w (w.alloc o) := (Below.refl _ _).alloc (Nat.le_refl _) _
end Go.Proofs.Ythopgmmodldljab
