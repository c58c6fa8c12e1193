import Derived.Test.YtbpgdepgplmpnaaNews
import Derived.Deep.RegionHeld3
import Derived.Deep.RegionWith
namespace Go.Proofs.Ytbpgdepgplmpnaa
open Go.RowKit
set_option linter.unusedVariables false
set_option linter.unusedSimpArgs false
/-- What the book holds: a frame's number, a place, a number. -/
abbrev Ent := Nat × Int × Int
def pa (x : Ent) : Int := 2147483648 + x.1 * 4096
structure RowM (w : World) (g : Nat) (l : List Ent) : Prop where
  c0 : ∀ i (h : i < l.length), w.cell? ⟨g, i * 3, .none⟩ = some (.int .u64 (pa l[i]))
  c1 : ∀ i (h : i < l.length), w.cell? ⟨g, i * 3 + 1, .none⟩ = some (.int .u64 l[i].2.1)
  c2 : ∀ i (h : i < l.length), w.cell? ⟨g, i * 3 + 2, .none⟩ = some (.int .u64 l[i].2.2)
def HasM (w : World) (q : Option Addr) (l : List Ent) : Prop := l.length = 0 ∨ ∃ g, q = some ⟨g, 0, .none⟩ ∧ g < w.heap.size ∧ RowM w g l
theorem HasM.below {w w' : World} {q : Option Addr} {l : List Ent} (h : HasM w q l) (b : Below w.heap.size w w') : HasM w' q l := by
  rcases h with h | ⟨g, e, hg, r⟩
  · exact .inl h
  · exact .inr ⟨g, e, Nat.lt_of_lt_of_le hg b.size, fun i h => (b.cell hg).trans (r.c0 i h), fun i h => (b.cell hg).trans (r.c1 i h), fun i h => (b.cell hg).trans (r.c2 i h)⟩
set_option maxHeartbeats 1000000 in
theorem whose_none (q : Option Addr) (c : Nat) (l : List Ent) (x : Int) (w : World) (hl : l.length ≤ 1000) (h : HasM w q l) (hn : ∀ e ∈ l, pa e ≠ x) :
    Calls Try.prog 19 #[.slice q l.length c, .int .u64 x] w fun e w' => e = .returned (.int .i64 (-1)) ∧ w' = w := by
  generalize hN : l.length = N at *
  go_enter Try.func19, Try.ntmps19
  go_wp2
  go_loopw [5] (fun k wr => ∃ i : Nat, i ≤ N ∧ k = .int .i64 i ∧ wr = w) (fun k _ => N - (intOf k).toNat)
  case atStart => exact ⟨0, by omega, rfl, rfl⟩
  case round =>
    obtain ⟨i, hi, rfl, hwr⟩ := hrel
    have hwr := hwr.symm
    subst hwr
    by_cases hiN : i < N
    · rcases h with h | ⟨g, rfl, hg, r⟩
      · omega
      · have i1 : (i : Int) < N := by omega
        have k0 := r.c0 i (by omega)
        have hne : (pa l[i] == x) = false := by simpa using hn _ (List.getElem_mem (by omega))
        generalize pa l[i] = P at *
        clear r hn
        go_wp2
        exact ⟨⟨i + 1, by omega, by simp, trivial⟩, by simp [intOf]; omega⟩
    · have i1 : ¬ ((i : Int) < N) := by omega
      go_wp2
      go_ret
      exact ⟨rfl, rfl⟩
section
variable {w : World} {p b m N cnt : Nat} {B : Nat → Int} {nx : Int} {hd : Int → Bool} {L : List Nat}
set_option maxHeartbeats 1000000 in
theorem zero_ok (h : Mem w p b m N B nx hd cnt) (i : Nat) (hi : i < N) (hh : hd (2147483648 + i * 4096) = true) (hz : ∀ k, k < 4096 → B (i * 4096 + k) = 0) :
    Calls Try.prog 20 #[.pointer (some ⟨p, 0, .none⟩), .int .u64 (2147483648 + i * 4096)] w fun e w' => e = .returned (.bool true) ∧ Below w.heap.size w w' := by
  have c := read_ok h (i * 4096) 4096 (by omega) (by omega) (fun f h1 h2 => by
    have : f = i := by omega
    rw [this]
    exact hh)
  rw [show (2147483648 + ((i * 4096 : Nat) : Int)) = 2147483648 + (i : Int) * 4096 by omega, show ((4096 : Nat) : Int) = 4096 from rfl] at c
  clear h hh
  go_enter Try.func20, Try.ntmps20
  go_wp2_with fail
  refine c.mono ?_
  rintro e w1 ⟨g, hg1, hg2, rfl, hr, hf, hb⟩
  have HR : Hid (RowB w1 g 4096 (fun j => B (i * 4096 + j))) := hr
  have HB : Hid (Below w.heap.size w w1) := hb
  clear c hr hf hb
  go_wp2
  go_loopw [7] (fun k wr => ∃ n : Nat, n ≤ 4096 ∧ k = .int .i64 n ∧ wr = w1) (fun k _ => 4096 - (intOf k).toNat)
  case atStart => exact ⟨0, by omega, rfl, rfl⟩
  case round =>
    obtain ⟨n, hn, rfl, hwr⟩ := hrel
    have hwr := hwr.symm
    subst hwr
    by_cases hnn : n < 4096
    · have i1 : (n : Int) < 4096 := by omega
      have k0 : w1.cell? ⟨g, n, .none⟩ = some (.int .u8 0) := by
        rw [← hz n hnn]
        exact HR.out n hnn
      go_wp2
      exact ⟨⟨n + 1, by omega, by simp, trivial⟩, by simp [intOf]; omega⟩
    · have i1 : ¬ ((n : Int) < 4096) := by omega
      go_wp2
      go_ret
      exact ⟨rfl, HB.out⟩
/-- What the book says of the memory. -/
structure Kp (B : Nat → Int) (x : Ent) : Prop where
  a0 : 0 ≤ x.2.1
  a1 : x.2.1 < 4096
  a8 : x.2.1 % 8 = 0
  v0 : 0 ≤ x.2.2 ∧ x.2.2 < 18446744073709551616
  at_ : num B (x.1 * 4096 + x.2.1.toNat) 8 = x.2.2
  nx : num B (x.1 * 4096 + ((x.2.1 + 8) % 4096).toNat) 8 = 0
set_option maxHeartbeats 1000000 in
theorem kept_ok (q : Option Addr) (c : Nat) (l : List Ent) (h : Ram w p b m N B L) (hN : N ≤ 40) (hq : HasM w q l) (hl : l.length + L.length + 1 = N) (hk : ∀ x ∈ l, x.1 < N ∧ x.1 ∉ L ∧ Kp B x) :
    Calls Try.prog 22 #[.pointer (some ⟨p, 0, .none⟩), .slice q l.length c, .int .i64 N] w fun e w' => e = .returned (.bool true) ∧ Below w.heap.size w w' := by
  have cc := count_any h.mem (by omega)
  rw [show ((N : Int) - ((N - L.length : Nat) : Int)) = (N : Int) - 1 - (l.length : Int) by omega] at cc
  generalize hM : l.length = M at *
  have n1 := h.mem.n1
  go_enter Try.func22, Try.ntmps22
  go_wp2_with (first | (go_at_call 18; refine cc.mono ?_; rintro e w0 ⟨rfl, k, hw0⟩; have HB0 : Hid (Below w.heap.size w w0) := hw0 ▸ below_drewN (Below.refl _ _) k; clear hw0) | fail)
  have HR : Hid (Ram w p b m N B L) := h
  clear h cc
  go_loopw [7] (fun k wr => ∃ i : Nat, i ≤ M ∧ k = .int .i64 i ∧ Below w.heap.size w wr) (fun k _ => M - (intOf k).toNat)
  case atStart => exact ⟨0, by omega, rfl, HB0.out⟩
  case round =>
    obtain ⟨i, hi, rfl, hB⟩ := hrel
    have HB : Hid (Below w.heap.size w wr) := hB
    by_cases hiM : i < M
    · rcases hq with h | ⟨g, rfl, hg, r⟩
      · omega
      · have i1 : (i : Int) < M := by omega
        have hx := hk l[i] (List.getElem_mem (by omega))
        have hil : i < l.length := by omega
        obtain ⟨⟨x1, x2, x3⟩, hxe⟩ : ∃ x, l[i] = x := ⟨_, rfl⟩
        have k0 := (hB.cell (p := ⟨g, i * 3, .none⟩) hg).trans (r.c0 i hil)
        have k1 := (hB.cell (p := ⟨g, i * 3 + 1, .none⟩) hg).trans (r.c1 i hil)
        have k2 := (hB.cell (p := ⟨g, i * 3 + 2, .none⟩) hg).trans (r.c2 i hil)
        rw [hxe] at hx k0 k1 k2
        obtain ⟨hx1, hx2, hK⟩ := hx
        have e0 := hK.a0
        have e1 := hK.a1
        have e8 := hK.a8
        simp only at hx1 hx2 k0 k1 k2 e0 e1 e8
        have M1 : ∀ w', Below wr.heap.size wr w' → Mem w' p b m N B (adr L) (hdL N L) (N - L.length) := fun w' hb => (HR.out.mem.below hB).below hb
        have hh : ∀ o n, x1 * 4096 ≤ o → o + n ≤ x1 * 4096 + 4096 → ∀ f : Nat, o / 4096 ≤ f → f * 4096 < o + n → hdL N L (2147483648 + f * 4096) = true := fun o n h1 h2 => hdL_ok N L o n (fun f hf1 hf2 => by
          have : f = x1 := by omega
          rw [this]
          exact ⟨hx1, hx2⟩)
        have c1 : ∀ w', Below wr.heap.size wr w' → Calls Try.prog 13 #[.pointer (some ⟨p, 0, .none⟩), .int .u64 (2147483648 + (x1 : Int) * 4096 + x2), .int .i64 8] w' fun e w'' => e = .returned (.tuple #[.int .u64 x3, .bool true]) ∧ Below wr.heap.size wr w'' := fun w' hb => by
          have := load_ok (M1 w' hb) (x1 * 4096 + x2.toNat) 8 (by omega) (by omega) (hh _ _ (by omega) (by omega))
          rw [hK.at_, show (2147483648 + ((x1 * 4096 + x2.toNat : Nat) : Int)) = 2147483648 + (x1 : Int) * 4096 + x2 by omega, show ((8 : Nat) : Int) = 8 from rfl] at this
          refine this.mono ?_
          rintro e w2 ⟨he, hb2⟩
          exact ⟨he, hb.trans (hb2.mono hb.size)⟩
        have c2 : ∀ w', Below wr.heap.size wr w' → Calls Try.prog 13 #[.pointer (some ⟨p, 0, .none⟩), .int .u64 (2147483648 + (x1 : Int) * 4096 + (x2 + 8) % 4096), .int .i64 8] w' fun e w'' => e = .returned (.tuple #[.int .u64 0, .bool true]) ∧ Below wr.heap.size wr w'' := fun w' hb => by
          have := load_ok (M1 w' hb) (x1 * 4096 + ((x2 + 8) % 4096).toNat) 8 (by omega) (by omega) (hh _ _ (by omega) (by omega))
          rw [hK.nx, show (2147483648 + ((x1 * 4096 + ((x2 + 8) % 4096).toNat : Nat) : Int)) = 2147483648 + (x1 : Int) * 4096 + (x2 + 8) % 4096 by omega, show ((8 : Nat) : Int) = 8 from rfl] at this
          refine this.mono ?_
          rintro e w2 ⟨he, hb2⟩
          exact ⟨he, hb.trans (hb2.mono hb.size)⟩
        have c3 : ∀ w', Below wr.heap.size wr w' → Calls Try.prog 27 #[.pointer (some ⟨p, 0, .none⟩), .int .u64 (2147483648 + (x1 : Int) * 4096)] w' fun e w'' => e = .returned (.bool false) ∧ Below wr.heap.size wr w'' := fun w' hb => by
          have := isFree_any (M1 w' hb) (2147483648 + (x1 : Int) * 4096) (by omega)
          rw [hdL_addr N L x1 hx1, show (isFr (2147483648 + (x1 : Int) * 4096) N && !!decide (x1 ∈ L)) = false by simp [hx2]] at this
          refine this.mono ?_
          rintro e w2 ⟨he, hb2⟩
          exact ⟨he, hb.trans (hb2.mono hb.size)⟩
        have hgr : g < wr.heap.size := Nat.lt_of_lt_of_le hg hB.size
        have hS0 := hK.v0
        simp only at hS0
        have k0' : wr.cell? ⟨g, i * 3, .none⟩ = some (.int .u64 (2147483648 + (x1 : Int) * 4096)) := k0
        have hA0 : 0 ≤ 2147483648 + (x1 : Int) * 4096 := by omega
        have hA1 : 2147483648 + (x1 : Int) * 4096 < 4294967296 := by omega
        clear hh M1 hK r hk k0 hB hxe
        generalize 2147483648 + (x1 : Int) * 4096 = A at *
        have hA2 : A + x2 < 18446744073709551616 := by omega
        have hA3 : 0 ≤ A + x2 := by omega
        have HS : Hid (∀ w', Below wr.heap.size wr w' → w'.cell? ⟨g, i * 3, .none⟩ = some (.int .u64 A) ∧ w'.cell? ⟨g, i * 3 + 1, .none⟩ = some (.int .u64 x2) ∧ w'.cell? ⟨g, i * 3 + 2, .none⟩ = some (.int .u64 x3)) := fun w' hb2 => ⟨(hb2.cell hgr).trans k0', (hb2.cell hgr).trans k1, (hb2.cell hgr).trans k2⟩
        have s1 : ∀ w', (w'.cell? ⟨g, i * 3, .none⟩ = some (.int .u64 A) ∧ w'.cell? ⟨g, i * 3 + 1, .none⟩ = some (.int .u64 x2) ∧ Below wr.heap.size wr w') →
            Calls Try.prog 13 #[.pointer (some ⟨p, 0, .none⟩), .int .u64 (A + x2), .int .i64 8] w' fun e w'' => e = .returned (.tuple #[.int .u64 x3, .bool true]) ∧ (w''.cell? ⟨g, i * 3, .none⟩ = some (.int .u64 A) ∧ w''.cell? ⟨g, i * 3 + 1, .none⟩ = some (.int .u64 x2) ∧ Below wr.heap.size wr w'') := fun w' hs => by
          refine (c1 w' hs.2.2).mono ?_
          rintro e w2 ⟨he, hb2⟩
          exact ⟨he, (hb2.cell hgr).trans k0', (hb2.cell hgr).trans k1, hb2⟩
        have hwrap : IntKind.u64.wrap (A + x2) = A + x2 := by rw [IntKind.wrap_u64]; omega
        clear c1
        go_upto_region 6 with fail
        go_region_held3 (fun w' => w'.cell? ⟨g, i * 3, .none⟩ = some (.int .u64 A) ∧ w'.cell? ⟨g, i * 3 + 1, .none⟩ = some (.int .u64 x2) ∧ Below wr.heap.size wr w') (first | assumption | exact ⟨k0', k1, (Below.refl _ _).drew⟩) (first | (go_at_call 13; refine (s1 _ (by assumption)).mono ?_; rintro e w' ⟨rfl, hS⟩))
        rename_i hHeld
        have hb1 := hS.2.2
        have d := HS.out w' hb1
        have HB1 : Hid (Below wr.heap.size wr w') := hb1
        clear hS hHeld s1 k0' k1 k2 hb1
        have d0 := d.1
        have d1 := d.2.1
        have d2 := d.2.2
        clear d
        go_wp2_with fail
        refine (c3 _ HB1.out).mono ?_
        rintro e w2 ⟨rfl, hb2⟩
        have d := HS.out w2 hb2
        have HB2 : Hid (Below wr.heap.size wr w2) := hb2
        clear d0 d1 d2 c3 HB1 hb2
        have d0 := d.1
        have d1 := d.2.1
        clear d
        have hA4 : A + (x2 + 8) % 4096 < 18446744073709551616 := by omega
        go_wp2_with fail
        refine (c2 _ HB2.out).mono ?_
        rintro e w3 ⟨rfl, hb3⟩
        have HB3 : Hid (Below w.heap.size w w3) := HB.out.trans (hb3.mono HB.out.size)
        clear d0 d1 c2 HB2 hb3
        go_wp2
        exact ⟨⟨i + 1, by omega, by simp, HB3.out⟩, by simp [intOf]; omega⟩
    · have i1 : ¬ ((i : Int) < M) := by omega
      clear hB
      go_wp2
      go_ret
      exact ⟨rfl, HB.out⟩
end
end Go.Proofs.Ytbpgdepgplmpnaa
