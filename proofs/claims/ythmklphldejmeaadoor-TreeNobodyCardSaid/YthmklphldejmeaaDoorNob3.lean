import Derived.Test.YthmklphldejmeaaDoorNob2
import Derived.Laws.Tables
import Derived.Great.Ranges
namespace Go.Proofs.YthmklphldejmeaaDoor
open Go.RowKit
set_option linter.unusedVariables false
set_option linter.unusedSimpArgs false
set_option maxRecDepth 100000
theorem wpList_read {P : Program} {ops : Array Oper} {rest : List Oper} {o : Oper} {a : Act} {w : World} {Q : Exit → Act → World → Prop} (hg : o.guard = .none)
    (v : Value) (hrun : (execOp a.eval o).run P w = .ok (.value v) w) (h : wpList P ops Q rest (a.put o.dst v) w) : wpList P ops Q (o :: rest) a w := by
  refine wpList_plain hg fun K hK => ?_
  unfold Oper.wp
  rw [hrun, Oper.upon_value]
  exact hK _ _ h
theorem neq_stat (W : World) : (binOp .neq 47 (.agg #[.int .i32 0, .int .u32 0, .int .i16 0, .int .i16 0, .int .u64 0]) (.agg #[.int .i32 0, .int .u32 0, .int .i16 0, .int .i16 0, .int .u64 0])).run Tryd.prog W = .ok (.bool false) W := by kernel_rfl
theorem field51_0 (W : World) : (Instr.field 51 (.agg #[.int .i64 0, .int .i64 0, .int .i16 0, .int .i16 0, .int .i64 0, .int .i64 0, .int .i64 0, .slice .none 0 0]) 0).run Tryd.prog W = .ok (.int .i64 0) W := by kernel_rfl
attribute [local go_sem] field51_0
structure Hid (p : Prop) : Prop where
  out : p
/-- A plain tree's cells. -/
noncomputable def zt : Array Value := (Tryd.prog.built 34 []).getD #[]
theorem built34 : (Tryd.prog.built 34 []).isSome = true := by kernel_rfl
theorem zt0 : zt[0]? = some (.pointer .none) := by kernel_rfl
theorem wpl_b34 {ops : Array Oper} {rest : List Oper} {o : Oper} {a : Act} {w : World} {Q : Exit → Act → World → Prop} (hg : o.guard = .none) (ho : o.op = .build 34 #[])
    (d : Option Tmp) (hd : o.dst = d) (h : wpList Tryd.prog ops Q rest (a.put d (.agg zt)) w) : wpList Tryd.prog ops Q (o :: rest) a w := by
  subst hd
  refine wpList_build hg 34 #[] ho ?_ ?_
  · simp only [List.map_toArray, List.map_nil]; exact built34
  · simp only [List.map_toArray, List.map_nil]; exact h
theorem hid_step {w a b : World} {n : Nat} (h : Hid (Below n w a)) (hb : Below a.heap.size a b) (hn : n ≤ a.heap.size) : Hid (Below n w b) := ⟨h.out.trans (hb.mono hn)⟩
/-- The law's own box. -/
structure Bx (w : World) (b : Nat) (kind cwd ino ty major minor off n : Int) (s : ByteArray) (d : Value) : Prop where
  lt : b < w.heap.size
  c1 : w.cell? ⟨b, 1, .none⟩ = some (.int .i64 cwd)
  c2 : w.cell? ⟨b, 2, .none⟩ = some (.int .i64 ino)
  c3 : w.cell? ⟨b, 3, .none⟩ = some (.string s)
  c4 : w.cell? ⟨b, 4, .none⟩ = some (.int .i64 ty)
  c5 : w.cell? ⟨b, 5, .none⟩ = some (.int .i16 major)
  c6 : w.cell? ⟨b, 6, .none⟩ = some (.int .i16 minor)
  c7 : w.cell? ⟨b, 7, .none⟩ = some (.int .i64 off)
  c8 : w.cell? ⟨b, 8, .none⟩ = some (.int .i64 n)
  c9 : w.cell? ⟨b, 9, .none⟩ = some d
theorem Bx.below {w w' : World} {b : Nat} {kind cwd ino ty major minor off n : Int} {s : ByteArray} {d : Value} (h : Bx w b kind cwd ino ty major minor off n s d) (hb : Below w.heap.size w w') : Bx w' b kind cwd ino ty major minor off n s d :=
  ⟨Nat.lt_of_lt_of_le h.lt hb.size, (hb.cell h.lt).trans h.c1, (hb.cell h.lt).trans h.c2, (hb.cell h.lt).trans h.c3, (hb.cell h.lt).trans h.c4, (hb.cell h.lt).trans h.c5, (hb.cell h.lt).trans h.c6, (hb.cell h.lt).trans h.c7, (hb.cell h.lt).trans h.c8, (hb.cell h.lt).trans h.c9⟩
set_option maxHeartbeats 4000000 in
theorem nobody_walk (kind cwd ino ty major minor off n : Int) (s : ByteArray) (sp : Option Addr) (ln cp : Nat) (w : World) : Calls Tryd.prog 3 #[.agg #[.int .i64 kind, .int .i64 cwd, .int .i64 ino, .string s, .int .i64 ty, .int .i16 major, .int .i16 minor, .int .i64 off, .int .i64 n, .slice sp ln cp]] w fun e w' => e = .returned (.bool true) ∧ Below w.heap.size w w' := by
  go_enter Tryd.func3, Tryd.ntmps3
  go_upto_region 2 with fail
  have bx0 : Bx (w.alloc (.cells #[.int .i64 kind, .int .i64 cwd, .int .i64 ino, .string s, .int .i64 ty, .int .i16 major, .int .i16 minor, .int .i64 off, .int .i64 n, .slice sp ln cp] 25)) w.heap.size kind cwd ino ty major minor off n s (.slice sp ln cp) := by
    constructor
    · simp
    all_goals (rw [World.cell?_alloc_at _ _ _ _ rfl]; rfl)
  have hb0 := below1 w (.cells #[.int .i64 kind, .int .i64 cwd, .int .i64 ino, .string s, .int .i64 ty, .int .i16 major, .int .i16 minor, .int .i64 off, .int .i64 n, .slice sp ln cp] 25)
  generalize (w.alloc (.cells #[.int .i64 kind, .int .i64 cwd, .int .i64 ino, .string s, .int .i64 ty, .int .i16 major, .int .i16 minor, .int .i64 off, .int .i64 n, .slice sp ln cp] 25)) = W at *
  have HB : Hid (Below w.heap.size w W) := ⟨hb0⟩
  have BX : Hid (Bx W w.heap.size kind cwd ino ty major minor off n s (.slice sp ln cp)) := ⟨bx0⟩
  clear hb0 bx0
  refine wp_region_lit ?_
  refine wpList_read rfl (.pointer .none) (by kernel_rfl) ?_
  simp only [Act.put, List.setIfInBounds_toArray, List.set_cons_succ, List.set_cons_zero]
  refine wpl_b34 rfl rfl (some 16) rfl ?_
  simp only [Act.put, List.setIfInBounds_toArray, List.set_cons_succ, List.set_cons_zero]
  refine Great.wpList_boxTo rfl 34 (.tmp 16) rfl (some 17) rfl W.heap.size rfl zt rfl ?_
  simp only [Act.put, List.setIfInBounds_toArray, List.set_cons_succ, List.set_cons_zero]
  have e0 : (W.alloc (.cells zt 34)).cell? ⟨W.heap.size, 0, .none⟩ = some (.pointer .none) := by
    rw [World.cell?_alloc_at _ _ _ _ rfl]; exact zt0
  have hz : (W.alloc (.cells zt 34)).heap.size = W.heap.size + 1 := by simp
  have hb1 := below1 W (.cells zt 34)
  have hlt : W.heap.size < (W.alloc (.cells zt 34)).heap.size := by simp
  have BX := (⟨BX.out.below hb1⟩ : Hid _)
  have HB := hid_step HB hb1 HB.out.size
  generalize (W.alloc (.cells zt 34)) = W1 at *
  generalize W.heap.size = tb at *
  clear hb1 hz
  go_wp2
  have l0 : (W1.alloc (.cells #[.pointer .none, .pointer (some ⟨tb, 0, .none⟩)] 26)).cell? ⟨W1.heap.size, 0, .none⟩ = some (.pointer .none) := by
    rw [World.cell?_alloc_at _ _ _ _ rfl]; rfl
  have l1 : (W1.alloc (.cells #[.pointer .none, .pointer (some ⟨tb, 0, .none⟩)] 26)).cell? ⟨W1.heap.size, 1, .none⟩ = some (.pointer (some ⟨tb, 0, .none⟩)) := by
    rw [World.cell?_alloc_at _ _ _ _ rfl]; rfl
  have hlb : W1.heap.size < (W1.alloc (.cells #[.pointer .none, .pointer (some ⟨tb, 0, .none⟩)] 26)).heap.size := by simp
  have hb2 := below1 W1 (.cells #[.pointer .none, .pointer (some ⟨tb, 0, .none⟩)] 26)
  have e1 := (hb2.cell hlt).trans e0
  have ht := Nat.lt_of_lt_of_le hlt hb2.size
  have HB1 := hid_step HB hb2 HB.out.size
  have BX1 : Hid _ := ⟨BX.out.below hb2⟩
  clear HB BX e0 hlt hb2
  generalize (W1.alloc (.cells #[.pointer .none, .pointer (some ⟨tb, 0, .none⟩)] 26)) = W2 at *
  have LQ : Hid (∀ k : Nat, k < 2 → ∃ q, W2.cell? ⟨W1.heap.size, k, .none⟩ = some (.pointer q) ∧ Uns W2 (.pointer q)) := by
    constructor
    intro k hk
    have e : k = 0 ∨ k = 1 := by omega
    rcases e with rfl | rfl
    · exact ⟨_, l0, .inl rfl⟩
    · exact ⟨_, l1, .inr ⟨_, rfl, ht, e1⟩⟩
  clear l0 l1 e1 ht
  generalize W1.heap.size = lb at *
  have hl2 : w.heap.size ≤ W2.heap.size := Nat.le_of_lt BX1.out.lt
  go_loopw [5] (fun i W => ∃ k : Nat, k ≤ 2 ∧ i = .int .i64 k ∧ Below W2.heap.size W2 W) (fun i _ => 2 - (intOf i).toNat)
  case atStart => exact ⟨0, by omega, rfl, Below.refl _ _⟩
  case round =>
    obtain ⟨k, hk, rfl, hb⟩ := hrel
    by_cases hlt : k < 2
    · have i1 : (k : Int) < 2 := by omega
      obtain ⟨q, lq, uq⟩ := LQ.out k hlt
      have lw := (hb.cell hlb).trans lq
      have u := uq.below hb
      have HB : Hid (Below W2.heap.size W2 wr) := ⟨hb⟩
      have bx := BX1.out.below hb
      have b1 := bx.c1; have b2 := bx.c2; have b3 := bx.c3; have b4 := bx.c4; have b5 := bx.c5; have b6 := bx.c6; have b7 := bx.c7; have b8 := bx.c8; have b9 := bx.c9
      clear lq uq hb
      go_upto_region 9 with (first | (go_at_call 4; refine (find_no u cwd s).mono ?_; rintro _ _ ⟨rfl, rfl⟩) | (go_at_call 5; refine (make_no u cwd ty major minor s).mono ?_; rintro _ V ⟨rfl, hV⟩; have u := u.below hV; have HB := hid_step HB hV HB.out.size; have bx := bx.below hV; clear hV b1 b2 b3 b4 b5 b6 b7 b8 b9; have b1 := bx.c1; have b2 := bx.c2; have b3 := bx.c3; have b4 := bx.c4; have b5 := bx.c5; have b6 := bx.c6; have b7 := bx.c7; have b8 := bx.c8; have b9 := bx.c9) | (go_at_call 6; refine (link_no u ino cwd s).mono ?_; rintro _ V ⟨rfl, hV⟩; have u := u.below hV; have HB := hid_step HB hV HB.out.size; have bx := bx.below hV; clear hV b1 b2 b3 b4 b5 b6 b7 b8 b9; have b1 := bx.c1; have b2 := bx.c2; have b3 := bx.c3; have b4 := bx.c4; have b5 := bx.c5; have b6 := bx.c6; have b7 := bx.c7; have b8 := bx.c8; have b9 := bx.c9) | (go_at_call 7; refine (unlink_no u cwd s).mono ?_; rintro _ V ⟨rfl, hV⟩; have u := u.below hV; have HB := hid_step HB hV HB.out.size; have bx := bx.below hV; clear hV b1 b2 b3 b4 b5 b6 b7 b8 b9; have b1 := bx.c1; have b2 := bx.c2; have b3 := bx.c3; have b4 := bx.c4; have b5 := bx.c5; have b6 := bx.c6; have b7 := bx.c7; have b8 := bx.c8; have b9 := bx.c9) | (go_at_call 8; refine (read_no u ino off n).mono ?_; rintro _ V ⟨rfl, hV⟩; have u := u.below hV; have HB := hid_step HB hV HB.out.size; have bx := bx.below hV; clear hV b1 b2 b3 b4 b5 b6 b7 b8 b9; have b1 := bx.c1; have b2 := bx.c2; have b3 := bx.c3; have b4 := bx.c4; have b5 := bx.c5; have b6 := bx.c6; have b7 := bx.c7; have b8 := bx.c8; have b9 := bx.c9) | (go_at_call 9; refine (write_no u ino off sp ln cp).mono ?_; rintro _ _ ⟨rfl, rfl⟩) | (go_at_call 10; refine (trunc_no u ino).mono ?_; rintro _ _ ⟨rfl, rfl⟩) | (go_at_call 11; refine (hold_no u ino).mono ?_; rintro _ _ ⟨rfl, rfl⟩) | (go_at_call 12; refine (drop_no u ino).mono ?_; rintro _ _ ⟨rfl, rfl⟩))
      go_upto_region 11 with (first | (go_at_call 4; refine (find_no u cwd s).mono ?_; rintro _ _ ⟨rfl, rfl⟩) | (go_at_call 5; refine (make_no u cwd ty major minor s).mono ?_; rintro _ V ⟨rfl, hV⟩; have u := u.below hV; have HB := hid_step HB hV HB.out.size; have bx := bx.below hV; clear hV b1 b2 b3 b4 b5 b6 b7 b8 b9; have b1 := bx.c1; have b2 := bx.c2; have b3 := bx.c3; have b4 := bx.c4; have b5 := bx.c5; have b6 := bx.c6; have b7 := bx.c7; have b8 := bx.c8; have b9 := bx.c9) | (go_at_call 6; refine (link_no u ino cwd s).mono ?_; rintro _ V ⟨rfl, hV⟩; have u := u.below hV; have HB := hid_step HB hV HB.out.size; have bx := bx.below hV; clear hV b1 b2 b3 b4 b5 b6 b7 b8 b9; have b1 := bx.c1; have b2 := bx.c2; have b3 := bx.c3; have b4 := bx.c4; have b5 := bx.c5; have b6 := bx.c6; have b7 := bx.c7; have b8 := bx.c8; have b9 := bx.c9) | (go_at_call 7; refine (unlink_no u cwd s).mono ?_; rintro _ V ⟨rfl, hV⟩; have u := u.below hV; have HB := hid_step HB hV HB.out.size; have bx := bx.below hV; clear hV b1 b2 b3 b4 b5 b6 b7 b8 b9; have b1 := bx.c1; have b2 := bx.c2; have b3 := bx.c3; have b4 := bx.c4; have b5 := bx.c5; have b6 := bx.c6; have b7 := bx.c7; have b8 := bx.c8; have b9 := bx.c9) | (go_at_call 8; refine (read_no u ino off n).mono ?_; rintro _ V ⟨rfl, hV⟩; have u := u.below hV; have HB := hid_step HB hV HB.out.size; have bx := bx.below hV; clear hV b1 b2 b3 b4 b5 b6 b7 b8 b9; have b1 := bx.c1; have b2 := bx.c2; have b3 := bx.c3; have b4 := bx.c4; have b5 := bx.c5; have b6 := bx.c6; have b7 := bx.c7; have b8 := bx.c8; have b9 := bx.c9) | (go_at_call 9; refine (write_no u ino off sp ln cp).mono ?_; rintro _ _ ⟨rfl, rfl⟩) | (go_at_call 10; refine (trunc_no u ino).mono ?_; rintro _ _ ⟨rfl, rfl⟩) | (go_at_call 11; refine (hold_no u ino).mono ?_; rintro _ _ ⟨rfl, rfl⟩) | (go_at_call 12; refine (drop_no u ino).mono ?_; rintro _ _ ⟨rfl, rfl⟩))
      go_upto_region 13 with (first | (go_at_call 4; refine (find_no u cwd s).mono ?_; rintro _ _ ⟨rfl, rfl⟩) | (go_at_call 5; refine (make_no u cwd ty major minor s).mono ?_; rintro _ V ⟨rfl, hV⟩; have u := u.below hV; have HB := hid_step HB hV HB.out.size; have bx := bx.below hV; clear hV b1 b2 b3 b4 b5 b6 b7 b8 b9; have b1 := bx.c1; have b2 := bx.c2; have b3 := bx.c3; have b4 := bx.c4; have b5 := bx.c5; have b6 := bx.c6; have b7 := bx.c7; have b8 := bx.c8; have b9 := bx.c9) | (go_at_call 6; refine (link_no u ino cwd s).mono ?_; rintro _ V ⟨rfl, hV⟩; have u := u.below hV; have HB := hid_step HB hV HB.out.size; have bx := bx.below hV; clear hV b1 b2 b3 b4 b5 b6 b7 b8 b9; have b1 := bx.c1; have b2 := bx.c2; have b3 := bx.c3; have b4 := bx.c4; have b5 := bx.c5; have b6 := bx.c6; have b7 := bx.c7; have b8 := bx.c8; have b9 := bx.c9) | (go_at_call 7; refine (unlink_no u cwd s).mono ?_; rintro _ V ⟨rfl, hV⟩; have u := u.below hV; have HB := hid_step HB hV HB.out.size; have bx := bx.below hV; clear hV b1 b2 b3 b4 b5 b6 b7 b8 b9; have b1 := bx.c1; have b2 := bx.c2; have b3 := bx.c3; have b4 := bx.c4; have b5 := bx.c5; have b6 := bx.c6; have b7 := bx.c7; have b8 := bx.c8; have b9 := bx.c9) | (go_at_call 8; refine (read_no u ino off n).mono ?_; rintro _ V ⟨rfl, hV⟩; have u := u.below hV; have HB := hid_step HB hV HB.out.size; have bx := bx.below hV; clear hV b1 b2 b3 b4 b5 b6 b7 b8 b9; have b1 := bx.c1; have b2 := bx.c2; have b3 := bx.c3; have b4 := bx.c4; have b5 := bx.c5; have b6 := bx.c6; have b7 := bx.c7; have b8 := bx.c8; have b9 := bx.c9) | (go_at_call 9; refine (write_no u ino off sp ln cp).mono ?_; rintro _ _ ⟨rfl, rfl⟩) | (go_at_call 10; refine (trunc_no u ino).mono ?_; rintro _ _ ⟨rfl, rfl⟩) | (go_at_call 11; refine (hold_no u ino).mono ?_; rintro _ _ ⟨rfl, rfl⟩) | (go_at_call 12; refine (drop_no u ino).mono ?_; rintro _ _ ⟨rfl, rfl⟩))
      clear b1 b3 b4 b5 b6 b7 b8 b9
      have hne := neq_stat
      go_wp2_with (first | (go_at_call 13; refine (stat_no u ino).mono ?_; rintro _ V ⟨rfl, hV⟩; have u := u.below hV; have HB := hid_step HB hV HB.out.size; have bx := bx.below hV; clear hV b2; have b2 := bx.c2) | (go_at_call 14; refine (look_no u ino).mono ?_; rintro _ V ⟨rfl, hV⟩; have u := u.below hV; have HB := hid_step HB hV HB.out.size; have bx := bx.below hV; clear hV b2; have b2 := bx.c2) | (go_at_call 15; refine (list_no u ino).mono ?_; rintro _ _ ⟨rfl, rfl⟩) | (go_at_call 16; refine (left_no u).mono ?_; rintro _ _ ⟨rfl, rfl⟩))
      refine ⟨⟨k + 1, by omega, by simp, HB.out⟩, ?_⟩
      simp [intOf]
      omega
    · have i1 : ¬ (k : Int) < 2 := by omega
      have HB := hid_step HB1 hb hl2
      have hl3 : w.heap.size ≤ wr.heap.size := Nat.le_trans hl2 hb.size
      clear LQ BX1 HB1 hlb hl2 hb
      go_upto_region 16 with (go_at_call 17; refine (new_nil wr).mono ?_; rintro _ X ⟨rfl, hX⟩; obtain rfl : wr = X := hX.symm)
      have hc : ∀ cs : Array Value, cs[0]? = some (.slice .none 0 0) → (wr.alloc (.cells cs 60)).cell? ⟨wr.heap.size, 0, .none⟩ = some (.slice .none 0 0) := fun cs h => by rw [World.cell?_alloc_at _ _ _ _ rfl]; exact h
      go_wp2_with (go_at_call 17; refine (new_plain (hc _ rfl)).mono ?_; rintro _ _ ⟨rfl, rfl⟩)
      go_ret
      exact ⟨rfl, HB.out.alloc hl3 _⟩
end Go.Proofs.YthmklphldejmeaaDoor
