import Derived.Test.YthopgmmodldljaaBa
namespace Go.Proofs.Ythopgmmodldljaa
open Go Go.RowKit
set_option linter.unusedVariables false
set_option linter.unusedSimpArgs false
/-! The program's own list of all that name a frame. -/
def rowM (l : List Nm) (v : Value) : Row := ⟨143, 3, l.length, v, (l.map An).flatten⟩
theorem info143 : ∃ i z, Try.prog.info? 143 = some i ∧ i.zero = some z ∧ i.size = 3 ∧ i.bytes = 24 ∧ z.cells.size = 3 := info_of 143 3 24 (by kernel_rfl) (by kernel_rfl)
theorem rowM_app (l : List Nm) (x : Nm) (v v' : Value) : rowM (l ++ [x]) v' = ⟨143, 3, (rowM l v).n + 1, v', (rowM l v).xs ++ An x⟩ := by simp [rowM]
def nmX (cl ow : Int) (l : List Int) : List Nm := l.map fun a => (a, cl, ow)
set_option maxRecDepth 100000 in
set_option maxHeartbeats 2000000 in
theorem name_any {w : World} {base c : Nat} {av : Value} {acc : List Nm} {R : List Row} (O : Owns w base ([bx 87 1 c [av], rowM acc av] ++ R)) (hbase : base ≤ w.heap.size) (cl ow : Int) (p : Option Addr) (n k : Nat) (l : List Int) (hn : n = l.length) (hl : acc.length + n ≤ 1000000)
    (hv : ∀ w' av' acc', Owns w' base ([bx 87 1 c [av'], rowM acc' av'] ++ R) → Below base w w' → Sl w' w'.heap.size 1 (qI .u64) (.slice p n k) l) :
    Calls Try.prog 65 #[.int .i64 cl, .int .i64 ow, .slice p n k, .pointer (some ⟨c, 0, .none⟩)] w fun e w' => e = .returned (.tuple #[]) ∧ ∃ av', Owns w' base ([bx 87 1 c [av'], rowM (acc ++ nmX cl ow l) av'] ++ R) ∧ Below base w w' := by
  have HO : Hid (Owns w base ([bx 87 1 c [av], rowM acc av] ++ R)) := O
  have HV : Hid (∀ w' av' acc', Owns w' base ([bx 87 1 c [av'], rowM acc' av'] ++ R) → Below base w w' → Sl w' w'.heap.size 1 (qI .u64) (.slice p n k) l) := hv
  have HN : Hid (n = l.length) := hn
  have hcb : base ≤ c := ((O.own (bx 87 1 c [av]) (by simp)).lt c rfl).1
  clear O hv hn
  go_enter Try.func65, Try.ntmps65
  go_wp2
  go_loopw [11] (fun k11 wr => ∃ (i : Nat), i ≤ n ∧ k11 = .int .i64 i ∧ Hid (∃ av', Owns wr base ([bx 87 1 c [av'], rowM (acc ++ nmX cl ow (l.take i)) av'] ++ R) ∧ Below base w wr)) (fun v _ => (n - intOf v).toNat)
  case atStart => exact ⟨0, by omega, rfl, av, by simpa [nmX] using HO.out, Below.refl _ _⟩
  case round =>
    obtain ⟨i, hi, rfl, HB⟩ := hrel
    obtain ⟨av', hO, hB⟩ := HB.out
    by_cases hin : i < n
    · have i1 : (i : Int) < n := by omega
      obtain ⟨-, b, o, x, cs, rfl, hbX, hx, rfl, hcl, hr⟩ := (HV.out wr av' _ hO hB).at hin
      have q := hr 0 _ rfl
      rw [Nat.mul_one, Nat.add_zero] at q
      have d1 := hO.cell (t := 87) (k := 1) (b := c) (cs := [av']) (by simp) 0
      rw [show [av'][0]? = some av' from rfl] at d1
      obtain ⟨d1, d2⟩ := d1
      have HE : Hid (acc ++ nmX cl ow (l.take (i + 1)) = acc ++ nmX cl ow (l.take i) ++ [(x, cl, ow)]) := by
        show _ = _
        rw [List.take_add_one, hx]
        simp [nmX]
      have hln : (acc ++ nmX cl ow (l.take i)).length ≤ 10000000 := by simp only [List.length_append, nmX, List.length_map, List.length_take]; omega
      have hbs : base ≤ wr.heap.size := Nat.le_trans hbase hB.size
      have hvv : wr.ownsRow base 143 3 av' (acc ++ nmX cl ow (l.take i)).length _ := hO.own (rowM (acc ++ nmX cl ow (l.take i)) av') (by simp)
      obtain ⟨vp, vc, rfl⟩ := own_form hvv
      obtain ⟨ln, hlneq⟩ : ∃ m, m = (acc ++ nmX cl ow (l.take i)).length := ⟨_, rfl⟩
      rw [← hlneq] at d1 hO
      have HQ : Hid (Owns wr base ([bx 87 1 c [.slice vp ln vc]] ++ (rowM (acc ++ nmX cl ow (l.take i)) (.slice vp ln vc) :: R)) ∧ Below base w wr) := ⟨hO, hB⟩
      clear hO hB hvv hr hcl hx HB hbX hlneq
      go_wp2_with (first
        | (refine wpList_is (.buildSlice 87 1 #[(0, .tmp 19)]) rfl ?_; refine wpList_pushG (A := [bx 87 1 c [.slice vp ln vc]]) (r := rowM (acc ++ nmX cl ow (l.take i)) (.slice vp ln vc)) (B := R) 87 143 3 24 info143 Try.underlying87 (by decide) (by decide) (by decide) HQ.out.1 rfl rfl hln hbs (An (x, cl, ow)) rfl (An_one _) 19 20 (.tmp 15) rfl rfl rfl rfl rfl rfl (some 21) rfl rfl rfl ?_; intro v5 w5 hO5 hB5; have hv5 : w5.ownsRow base 143 3 v5 ((rowM (acc ++ nmX cl ow (l.take i)) (.slice vp ln vc)).n + 1) _ := hO5.own _ (List.mem_append_right _ (List.mem_cons_self ..)); obtain ⟨vp5, vc5, rfl⟩ := own_form hv5; have d3 := hO5.cell (t := 87) (k := 1) (b := c) (cs := [.slice vp ln vc]) (List.mem_append_left _ (by simp)) 0; rw [show [Value.slice vp ln vc][0]? = some (.slice vp ln vc) from rfl] at d3; obtain ⟨d3, d4⟩ := d3)
        | fail)
      clear d1 d2 d3 d4 q
      refine ⟨⟨i + 1, by omega, by go_num, .slice vp5 ((rowM (acc ++ nmX cl ow (l.take i)) (.slice vp ln vc)).n + 1) vc5, ?_, (HQ.out.2.trans hB5).trans (set_bel _ hcb)⟩, by simp [intOf]; omega⟩
      have o6 := Owns.setAt (A := []) (g := c) (j := 0) hO5 (.slice vp5 ((rowM (acc ++ nmX cl ow (l.take i)) (.slice vp ln vc)).n + 1) vc5) rfl rfl (by show 0 < 1; omega)
      rw [HE.out, rowM_app _ _ (.slice vp ln vc)]
      exact o6
    · have i1 : ¬ (i : Int) < n := by omega
      obtain rfl : i = n := by omega
      have HQ : Hid (Owns wr base ([bx 87 1 c [av'], rowM (acc ++ nmX cl ow l) av'] ++ R) ∧ Below base w wr) := by
        rw [List.take_of_length_le (by have := HN.out; omega)] at hO
        exact ⟨hO, hB⟩
      clear hO hB HB
      go_wp2
      go_end0
      exact ⟨rfl, ⟨av', HQ.out.1⟩, HQ.out.2⟩
end Go.Proofs.Ythopgmmodldljaa
