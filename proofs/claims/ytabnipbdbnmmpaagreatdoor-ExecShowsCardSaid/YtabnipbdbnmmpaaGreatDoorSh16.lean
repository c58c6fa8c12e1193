import Derived.Test.YtabnipbdbnmmpaaGreatDoorSh01
import Derived.Test.YtabnipbdbnmmpaaGreatDoorSh15
import Derived.Laws.Cover3
import Derived.Deep.QuietTactic
import Derived.BigQuiet
import Derived.Deep.RegionLawGrows
import Derived.Deep.RegionHeld3
import Derived.RangeFuncNested
import Derived.RangeFuncBound
import Derived.RangeFuncCalls
import Derived.RangeFuncLeaves
import Derived.RangeFuncFrom
import Derived.Shelf.Abstract
import Derived.Shelf.RegionOpen
import Derived.OwnWalkIn
import Derived.TacticsInMore
import Derived.LoopNIn
import Derived.LoopIn
import Derived.Deep.DeepCutAuto
set_option linter.unusedVariables false
set_option linter.unusedSimpArgs false
namespace Go.Proofs.YtabnipbdbnmmpaaGreatDoor
namespace Rm
open Go.RowKit
theorem blw_drewN (B:Nat) (w:World) (n:Nat) : Below B w (w.drewN n) := ⟨rfl,rfl,rfl,Nat.le_refl _,fun _ _ => rfl⟩
theorem spn_pos (l:Int) : 0<spn l := by unfold spn; split <;> (try split) <;> (try split) <;> omega
theorem mod_le {a b:Int} (ha:0≤a) (hb:0<b) : 0≤a % b∧a % b≤a := ⟨Int.emod_nonneg _ (by omega),by have := Int.mul_ediv_add_emod a b; have := Int.mul_nonneg (Int.le_of_lt hb) (Int.ediv_nonneg ha (Int.le_of_lt hb)); omega⟩
section
variable {w:World} {v:Value}
theorem node_any (a0 a1 a2 l e k a:Int) (h:(l=0∧a=a0)∨(l=1∧a=a1)∨(l=2∧a=a2)) (ha:0≤a∧a<18446744073709551616) : Calls Tryz.prog 190 #[pth a0 a1 a2 l e k,.int .i64 l] w fun e w' => e = .returned (.int .u64 (a - a % 4096))∧Below w.heap.size w w' := by
 simp only [pth]
 rcases h with ⟨rfl,rfl⟩ | ⟨rfl,rfl⟩ | ⟨rfl,rfl⟩
 all_goals
  go_enter Tryz.func190,Tryz.ntmps190
  go_wp2
  go_quiet (fail)
  go_wp2
  go_ret
  exact ⟨rfl,(below1 _ _).trans (blw_drewN _ _ _)⟩
theorem branch_any (T:Nat) (va l:Int) (hl:l=0∨l=1∨l=2∨l=3) (hv:0≤va∧va<18446744073709551616) (ht:w.cell? ⟨T,2,.none⟩=some (.int .u64 va)) : Calls Tryz.prog 212 #[.pointer (some ⟨T,0,.none⟩),.int .i64 l] w fun e w' => e = .returned (.agg #[.int .u64 (va - va % spn l),.int .i64 l])∧Below w.heap.size w w' := by
 have c := inSpan_any va l hv hl
 have hT := lt_of_cell ht
 have hm := mod_le hv.1 (spn_pos l)
 have hw : IntKind.u64.wrap (va - va % spn l)=va - va % spn l := by rw [IntKind.wrap_u64]; omega
 clear hl
 generalize va % spn l=x at *
 go_enter Tryz.func212,Tryz.ntmps212
 go_wp2
 go_region_law (go_simp; go_at_call 57; refine (c _).mono ?_; rintro e W0 ⟨rfl,rfl⟩)
 all_goals
  go_wp2
  refine bodyPost_ret (v:=.agg #[.int .u64 (va - x),.int .i64 l]) (by simp [results,Tryz.results212,go_sem]) rfl ⟨rfl,(below1 _ _).trans (Below.refl _ _).drew⟩
structure Tour (w:World) (T:Nat) (v:Value) (root va:Int) (m:Value) : Prop where
 c0 : w.cell? ⟨T,0,.none⟩=some v
 c1 : w.cell? ⟨T,1,.none⟩=some (.int .u64 root)
 c2 : w.cell? ⟨T,2,.none⟩=some (.int .u64 va)
 c3 : w.cell? ⟨T,3,.none⟩=some m
 f2 : w.frozen? ⟨T,2,.none⟩=false
theorem Tour.below {w w':World} {T:Nat} {v:Value} {root va:Int} {m:Value} (h:Tour w T v root va m) (b:Below w.heap.size w w') : Tour w' T v root va m := by
 have hT : T<w.heap.size := lt_of_cell h.c0
 exact ⟨(b.cell hT).trans h.c0,(b.cell hT).trans h.c1,(b.cell hT).trans h.c2,(b.cell hT).trans h.c3,(b.frozen hT).trans h.f2⟩
theorem Tour.set {w:World} {T:Nat} {v:Value} {root va:Int} {m:Value} (h:Tour w T v root va m) (x:Int) : Tour (w.setCell ⟨T,2,.none⟩ (.int .u64 x)) T v root x m :=
 ⟨(World.cell?_setCell_other _ _ _ _ (by simp)).trans h.c0,(World.cell?_setCell_other _ _ _ _ (by simp)).trans h.c1,World.cell?_setCell_same' _ _ _ (by rw [h.c2]; rfl),(World.cell?_setCell_other _ _ _ _ (by simp)).trans h.c3,by rw [World.frozen?_setCell]; exact h.f2⟩
theorem field100_0 (a b:Value) (w:World) : (Instr.field 236 (.agg #[a,b]) 0).run Tryz.prog w = .ok a w := by kernel_rfl
attribute [local go_sem] field100_0
set_option maxHeartbeats 4000000 in
theorem pass_any {T:Nat} {root va:Int} {m:Value} (t:Tour w T v root va m) (a0 a1 a2 l e k a nx:Int) (hl:(l=0∧a=a0)∨(l=1∧a=a1)∨(l=2∧a=a2)) (ha:0≤a∧a<18446744073709551616) (hva:0≤va∧va<549755813888) (hn:0≤nx∧nx≤512)
  (c73:∀ w',Below w.heap.size w w'→Calls Tryz.prog 191 #[v,.int .u64 (a - a % 4096),.int .u64 (ix va l+1)] w' fun e w'' => e = .returned (.int .u64 nx)∧Below w'.heap.size w' w'') :
  Calls Tryz.prog 214 #[.pointer (some ⟨T,0,.none⟩),pth a0 a1 a2 l e k] w fun e w' => (∃ u,e = .returned u) ∧ ∃ w1,Below w.heap.size w w1∧w'=w1.setCell ⟨T,2,.none⟩ (.int .u64 (va - va % spn (l+1)+nx*spn l)) := by
 have hT : T<w.heap.size := lt_of_cell t.c0
 have hl3 : l=0∨l=1∨l=2 := by omega
 have P : ∀ W,Below (w.alloc (.cells #[.int .u64 a0,.int .u64 a1,.int .u64 a2,.int .i64 l,.int .u64 e,.int .i64 k] 169)).heap.size (w.alloc (.cells #[.int .u64 a0,.int .u64 a1,.int .u64 a2,.int .i64 l,.int .u64 e,.int .i64 k] 169)) W →
   W.cell? ⟨T,0,.none⟩=some v∧W.cell? ⟨T,2,.none⟩=some (.int .u64 va)∧W.cell? ⟨w.heap.size,0,.none⟩=some (.int .u64 a0)∧W.cell? ⟨w.heap.size,1,.none⟩=some (.int .u64 a1)∧W.cell? ⟨w.heap.size,2,.none⟩=some (.int .u64 a2)∧W.cell? ⟨w.heap.size,3,.none⟩=some (.int .i64 l)∧W.cell? ⟨w.heap.size,4,.none⟩=some (.int .u64 e)∧W.cell? ⟨w.heap.size,5,.none⟩=some (.int .i64 k) := by
  intro W hb
  have t1 := (t.below (below1 w (.cells #[.int .u64 a0,.int .u64 a1,.int .u64 a2,.int .i64 l,.int .u64 e,.int .i64 k] 169))).below hb
  have z : w.heap.size<(w.alloc (.cells #[.int .u64 a0,.int .u64 a1,.int .u64 a2,.int .i64 l,.int .u64 e,.int .i64 k] 169)).heap.size := by simp
  exact ⟨t1.c0,t1.c2,(hb.cell z).trans (by simp),(hb.cell z).trans (by simp),(hb.cell z).trans (by simp),(hb.cell z).trans (by simp),(hb.cell z).trans (by simp),(hb.cell z).trans (by simp)⟩
 have hbX := below1 w (.cells #[.int .u64 a0,.int .u64 a1,.int .u64 a2,.int .i64 l,.int .u64 e,.int .i64 k] 169)
 have i1 := ix_b va l
 have i2 : IntKind.u64.wrap (ix va l+1)=ix va l+1 := by rw [IntKind.wrap_u64]; omega
 have P0 := P _ (Below.refl _ _)
 have fr : ∀ W,Below (w.alloc (.cells #[.int .u64 a0,.int .u64 a1,.int .u64 a2,.int .i64 l,.int .u64 e,.int .i64 k] 169)).heap.size (w.alloc (.cells #[.int .u64 a0,.int .u64 a1,.int .u64 a2,.int .i64 l,.int .u64 e,.int .i64 k] 169)) W→W.frozen? ⟨T,2,.none⟩=false := fun W hb => ((t.below hbX).below hb).f2
 have tr : ∀ W,Below (w.alloc (.cells #[.int .u64 a0,.int .u64 a1,.int .u64 a2,.int .i64 l,.int .u64 e,.int .i64 k] 169)).heap.size (w.alloc (.cells #[.int .u64 a0,.int .u64 a1,.int .u64 a2,.int .i64 l,.int .u64 e,.int .i64 k] 169)) W→Below w.heap.size w W := fun W hb => hbX.trans (hb.mono (by simp))
 have HP : Hid (∀ W,Below (w.alloc (.cells #[.int .u64 a0,.int .u64 a1,.int .u64 a2,.int .i64 l,.int .u64 e,.int .i64 k] 169)).heap.size (w.alloc (.cells #[.int .u64 a0,.int .u64 a1,.int .u64 a2,.int .i64 l,.int .u64 e,.int .i64 k] 169)) W → _) := P
 have HF : Hid (∀ W,Below (w.alloc (.cells #[.int .u64 a0,.int .u64 a1,.int .u64 a2,.int .i64 l,.int .u64 e,.int .i64 k] 169)).heap.size (w.alloc (.cells #[.int .u64 a0,.int .u64 a1,.int .u64 a2,.int .i64 l,.int .u64 e,.int .i64 k] 169)) W → _) := fr
 have HT : Hid (∀ W,Below (w.alloc (.cells #[.int .u64 a0,.int .u64 a1,.int .u64 a2,.int .i64 l,.int .u64 e,.int .i64 k] 169)).heap.size (w.alloc (.cells #[.int .u64 a0,.int .u64 a1,.int .u64 a2,.int .i64 l,.int .u64 e,.int .i64 k] 169)) W → _) := tr
 clear P fr tr hbX t
 simp only [pth]
 go_enter Tryz.func214,Tryz.ntmps214
 go_wp2
 generalize hX : (w.alloc (.cells #[.int .u64 a0,.int .u64 a1,.int .u64 a2,.int .i64 l,.int .u64 e,.int .i64 k] 169))=X at *
 have HX : Hid (_ = X) := hX
 clear hX
 have HS : Hid (∀ W,Below X.heap.size X W→(W.cell? ⟨T,0,.none⟩=some v∧W.cell? ⟨T,2,.none⟩=some (.int .u64 va)∧W.cell? ⟨w.heap.size,0,.none⟩=some (.int .u64 a0)∧W.cell? ⟨w.heap.size,1,.none⟩=some (.int .u64 a1)∧W.cell? ⟨w.heap.size,2,.none⟩=some (.int .u64 a2)∧W.cell? ⟨w.heap.size,3,.none⟩=some (.int .i64 l)∧W.cell? ⟨w.heap.size,4,.none⟩=some (.int .u64 e)∧W.cell? ⟨w.heap.size,5,.none⟩=some (.int .i64 k)∧W.frozen? ⟨T,2,.none⟩=false∧Below X.heap.size X W)) := fun W hb => by
  obtain ⟨q0,q1,q2,q3,q4,q5,q6,q7⟩ := HP.out W hb
  exact ⟨q0,q1,q2,q3,q4,q5,q6,q7,HF.out W hb,hb⟩
 have s72 : ∀ W,(W.cell? ⟨T,0,.none⟩=some v∧W.cell? ⟨T,2,.none⟩=some (.int .u64 va)∧W.cell? ⟨w.heap.size,0,.none⟩=some (.int .u64 a0)∧W.cell? ⟨w.heap.size,1,.none⟩=some (.int .u64 a1)∧W.cell? ⟨w.heap.size,2,.none⟩=some (.int .u64 a2)∧W.cell? ⟨w.heap.size,3,.none⟩=some (.int .i64 l)∧W.cell? ⟨w.heap.size,4,.none⟩=some (.int .u64 e)∧W.cell? ⟨w.heap.size,5,.none⟩=some (.int .i64 k)∧W.frozen? ⟨T,2,.none⟩=false∧Below X.heap.size X W)→Calls Tryz.prog 190 #[.agg #[.int .u64 a0,.int .u64 a1,.int .u64 a2,.int .i64 l,.int .u64 e,.int .i64 k],.int .i64 l] W fun e_ W' => e_ = .returned (.int .u64 (a - a % 4096))∧(W'.cell? ⟨T,0,.none⟩=some v∧W'.cell? ⟨T,2,.none⟩=some (.int .u64 va)∧W'.cell? ⟨w.heap.size,0,.none⟩=some (.int .u64 a0)∧W'.cell? ⟨w.heap.size,1,.none⟩=some (.int .u64 a1)∧W'.cell? ⟨w.heap.size,2,.none⟩=some (.int .u64 a2)∧W'.cell? ⟨w.heap.size,3,.none⟩=some (.int .i64 l)∧W'.cell? ⟨w.heap.size,4,.none⟩=some (.int .u64 e)∧W'.cell? ⟨w.heap.size,5,.none⟩=some (.int .i64 k)∧W'.frozen? ⟨T,2,.none⟩=false∧Below X.heap.size X W') := fun W hs => by
  have hb := hs.2.2.2.2.2.2.2.2.2
  refine (node_any a0 a1 a2 l e k a hl ha).mono ?_
  rintro e_ W' ⟨he,h1⟩
  exact ⟨he,HS.out W' (hb.trans (h1.mono hb.size))⟩
 have s63 : ∀ W,(W.cell? ⟨T,0,.none⟩=some v∧W.cell? ⟨T,2,.none⟩=some (.int .u64 va)∧W.cell? ⟨w.heap.size,0,.none⟩=some (.int .u64 a0)∧W.cell? ⟨w.heap.size,1,.none⟩=some (.int .u64 a1)∧W.cell? ⟨w.heap.size,2,.none⟩=some (.int .u64 a2)∧W.cell? ⟨w.heap.size,3,.none⟩=some (.int .i64 l)∧W.cell? ⟨w.heap.size,4,.none⟩=some (.int .u64 e)∧W.cell? ⟨w.heap.size,5,.none⟩=some (.int .i64 k)∧W.frozen? ⟨T,2,.none⟩=false∧Below X.heap.size X W)→Calls Tryz.prog 151 #[.int .u64 va,.int .i64 l] W fun e_ W' => e_ = .returned (.int .u64 (ix va l))∧(W'.cell? ⟨T,0,.none⟩=some v∧W'.cell? ⟨T,2,.none⟩=some (.int .u64 va)∧W'.cell? ⟨w.heap.size,0,.none⟩=some (.int .u64 a0)∧W'.cell? ⟨w.heap.size,1,.none⟩=some (.int .u64 a1)∧W'.cell? ⟨w.heap.size,2,.none⟩=some (.int .u64 a2)∧W'.cell? ⟨w.heap.size,3,.none⟩=some (.int .i64 l)∧W'.cell? ⟨w.heap.size,4,.none⟩=some (.int .u64 e)∧W'.cell? ⟨w.heap.size,5,.none⟩=some (.int .i64 k)∧W'.frozen? ⟨T,2,.none⟩=false∧Below X.heap.size X W') := fun W hs => by
  refine (index_any va l (by omega) hl3 W).mono ?_
  rintro e_ W' ⟨he,rfl⟩
  exact ⟨he,hs⟩
 have s73 : ∀ W,(W.cell? ⟨T,0,.none⟩=some v∧W.cell? ⟨T,2,.none⟩=some (.int .u64 va)∧W.cell? ⟨w.heap.size,0,.none⟩=some (.int .u64 a0)∧W.cell? ⟨w.heap.size,1,.none⟩=some (.int .u64 a1)∧W.cell? ⟨w.heap.size,2,.none⟩=some (.int .u64 a2)∧W.cell? ⟨w.heap.size,3,.none⟩=some (.int .i64 l)∧W.cell? ⟨w.heap.size,4,.none⟩=some (.int .u64 e)∧W.cell? ⟨w.heap.size,5,.none⟩=some (.int .i64 k)∧W.frozen? ⟨T,2,.none⟩=false∧Below X.heap.size X W)→Calls Tryz.prog 191 #[v,.int .u64 (a - a % 4096),.int .u64 (ix va l+1)] W fun e_ W' => e_ = .returned (.int .u64 nx)∧(W'.cell? ⟨T,0,.none⟩=some v∧W'.cell? ⟨T,2,.none⟩=some (.int .u64 va)∧W'.cell? ⟨w.heap.size,0,.none⟩=some (.int .u64 a0)∧W'.cell? ⟨w.heap.size,1,.none⟩=some (.int .u64 a1)∧W'.cell? ⟨w.heap.size,2,.none⟩=some (.int .u64 a2)∧W'.cell? ⟨w.heap.size,3,.none⟩=some (.int .i64 l)∧W'.cell? ⟨w.heap.size,4,.none⟩=some (.int .u64 e)∧W'.cell? ⟨w.heap.size,5,.none⟩=some (.int .i64 k)∧W'.frozen? ⟨T,2,.none⟩=false∧Below X.heap.size X W') := fun W hs => by
  have hb := hs.2.2.2.2.2.2.2.2.2
  refine (c73 W (HT.out W hb)).mono ?_
  rintro e_ W' ⟨he,h1⟩
  exact ⟨he,HS.out W' (hb.trans (h1.mono hb.size))⟩
 have s82 : ∀ W,(W.cell? ⟨T,0,.none⟩=some v∧W.cell? ⟨T,2,.none⟩=some (.int .u64 va)∧W.cell? ⟨w.heap.size,0,.none⟩=some (.int .u64 a0)∧W.cell? ⟨w.heap.size,1,.none⟩=some (.int .u64 a1)∧W.cell? ⟨w.heap.size,2,.none⟩=some (.int .u64 a2)∧W.cell? ⟨w.heap.size,3,.none⟩=some (.int .i64 l)∧W.cell? ⟨w.heap.size,4,.none⟩=some (.int .u64 e)∧W.cell? ⟨w.heap.size,5,.none⟩=some (.int .i64 k)∧W.frozen? ⟨T,2,.none⟩=false∧Below X.heap.size X W)→Calls Tryz.prog 212 #[.pointer (some ⟨T,0,.none⟩),.int .i64 (l+1)] W fun e_ W' => e_ = .returned (.agg #[.int .u64 (va - va % spn (l+1)),.int .i64 (l+1)])∧(W'.cell? ⟨T,0,.none⟩=some v∧W'.cell? ⟨T,2,.none⟩=some (.int .u64 va)∧W'.cell? ⟨w.heap.size,0,.none⟩=some (.int .u64 a0)∧W'.cell? ⟨w.heap.size,1,.none⟩=some (.int .u64 a1)∧W'.cell? ⟨w.heap.size,2,.none⟩=some (.int .u64 a2)∧W'.cell? ⟨w.heap.size,3,.none⟩=some (.int .i64 l)∧W'.cell? ⟨w.heap.size,4,.none⟩=some (.int .u64 e)∧W'.cell? ⟨w.heap.size,5,.none⟩=some (.int .i64 k)∧W'.frozen? ⟨T,2,.none⟩=false∧Below X.heap.size X W') := fun W hs => by
  have hb := hs.2.2.2.2.2.2.2.2.2
  refine (branch_any T va (l+1) (by omega) (by omega) hs.2.1).mono ?_
  rintro e_ W' ⟨he,h1⟩
  exact ⟨he,HS.out W' (hb.trans (h1.mono hb.size))⟩
 have s78 : ∀ W,(W.cell? ⟨T,0,.none⟩=some v∧W.cell? ⟨T,2,.none⟩=some (.int .u64 va)∧W.cell? ⟨w.heap.size,0,.none⟩=some (.int .u64 a0)∧W.cell? ⟨w.heap.size,1,.none⟩=some (.int .u64 a1)∧W.cell? ⟨w.heap.size,2,.none⟩=some (.int .u64 a2)∧W.cell? ⟨w.heap.size,3,.none⟩=some (.int .i64 l)∧W.cell? ⟨w.heap.size,4,.none⟩=some (.int .u64 e)∧W.cell? ⟨w.heap.size,5,.none⟩=some (.int .i64 k)∧W.frozen? ⟨T,2,.none⟩=false∧Below X.heap.size X W)→Calls Tryz.prog 110 #[.int .i64 l] W fun e_ W' => e_ = .returned (.int .u64 (spn l))∧(W'.cell? ⟨T,0,.none⟩=some v∧W'.cell? ⟨T,2,.none⟩=some (.int .u64 va)∧W'.cell? ⟨w.heap.size,0,.none⟩=some (.int .u64 a0)∧W'.cell? ⟨w.heap.size,1,.none⟩=some (.int .u64 a1)∧W'.cell? ⟨w.heap.size,2,.none⟩=some (.int .u64 a2)∧W'.cell? ⟨w.heap.size,3,.none⟩=some (.int .i64 l)∧W'.cell? ⟨w.heap.size,4,.none⟩=some (.int .u64 e)∧W'.cell? ⟨w.heap.size,5,.none⟩=some (.int .i64 k)∧W'.frozen? ⟨T,2,.none⟩=false∧Below X.heap.size X W') := fun W hs => by
  refine (span_any l (by omega) W).mono ?_
  rintro e_ W' ⟨he,rfl⟩
  exact ⟨he,hs⟩
 have hc78 := fun W => span_any l (by omega) W
 have j0 := HS.out X.drew (Below.refl _ _).drew
 have w1 : IntKind.i64.wrap (l+1)=l+1 := by rcases hl3 with rfl | rfl | rfl <;> rfl
 have w2 : IntKind.u64.wrap (nx*spn l)=nx*spn l := by rw [IntKind.wrap_u64]; rcases hl3 with rfl | rfl | rfl <;> simp only [spn0,spn1,spn2] <;> omega
 have w3 : IntKind.u64.wrap (va - va % spn (l+1)+nx*spn l)=va - va % spn (l+1)+nx*spn l := by
  have := mod_le hva.1 (spn_pos (l+1))
  rw [IntKind.wrap_u64]
  rcases hl3 with rfl | rfl | rfl <;> simp only [spn0,spn1,spn2] <;> omega
 clear hl c73 hl3 ha P0 HP HF
 generalize a - a % 4096=nd at *
 generalize ix va l=ii at *
 generalize hA : va - va % spn (l+1)=A at *
 have HA : Hid (_ = A) := hA
 clear hA
 generalize hL : spn l=sl at *
 have HL : Hid (_ = sl) := hL
 clear hL
 go_region_held3 (fun W => (W.cell? ⟨T,0,.none⟩=some v∧W.cell? ⟨T,2,.none⟩=some (.int .u64 va)∧W.cell? ⟨w.heap.size,0,.none⟩=some (.int .u64 a0)∧W.cell? ⟨w.heap.size,1,.none⟩=some (.int .u64 a1)∧W.cell? ⟨w.heap.size,2,.none⟩=some (.int .u64 a2)∧W.cell? ⟨w.heap.size,3,.none⟩=some (.int .i64 l)∧W.cell? ⟨w.heap.size,4,.none⟩=some (.int .u64 e)∧W.cell? ⟨w.heap.size,5,.none⟩=some (.int .i64 k)∧W.frozen? ⟨T,2,.none⟩=false∧Below X.heap.size X W)) (first | assumption | exact j0) (first | (go_at_call 190; refine (s72 _ (by assumption)).mono ?_; rintro e_ W1 ⟨rfl,hS1⟩) | (go_at_call 151; refine (s63 _ (by assumption)).mono ?_; rintro e_ W2 ⟨rfl,hS2⟩) | (go_at_call 191; refine (s73 _ (by assumption)).mono ?_; rintro e_ W3 ⟨rfl,hS3⟩))
 rename_i hHeld
 have HS3 : Hid (Below X.heap.size X W3) := hS3.2.2.2.2.2.2.2.2.2
 have j1 := HS.out W3.drew hS3.2.2.2.2.2.2.2.2.2.drew
 clear hS3 hHeld s72 s63 s73 j0 i2
 go_wp2
 obtain ⟨k0,k1,k2,k3,k4,k5,k6,k7,k8,k9⟩ := id j1
 have c78 : ∀ W : World,Calls Tryz.prog 110 #[.int .i64 l] W fun e_ W' => e_ = .returned (.int .u64 sl)∧W'=W := hc78
 clear s78 HS3 k0 k2 k3 k4 k6 k7 k9
 go_region_law (first | (go_simp; go_at_call 212; refine (s82 _ (by assumption)).mono ?_; rintro e_ W4 ⟨rfl,hS4⟩; obtain ⟨k10,k11,k12,k13,k14,k15,k16,k17,k18,k19⟩ := id hS4; clear k10 k12 k13 k14 k16 k17 k19) | (go_simp; go_at_call 110; refine (c78 _).mono ?_; rintro e_ W5 ⟨rfl,rfl⟩))
 all_goals
  go_end0
  exact ⟨⟨_,rfl⟩,_,HT.out _ hS4.2.2.2.2.2.2.2.2.2,by rw [HA.out,HL.out]⟩
end
end Rm
namespace Rm
open Go.RowKit Go.Shelf
structure C6 (W:World) (P:Nat) (x0 x1 x2 x3 x4 x5:Value) : Prop where
 c0 : W.cell? ⟨P,0,.none⟩=some x0
 c1 : W.cell? ⟨P,1,.none⟩=some x1
 c2 : W.cell? ⟨P,2,.none⟩=some x2
 c3 : W.cell? ⟨P,3,.none⟩=some x3
 c4 : W.cell? ⟨P,4,.none⟩=some x4
 c5 : W.cell? ⟨P,5,.none⟩=some x5
 f0 : W.frozen? ⟨P,0,.none⟩=false
 f1 : W.frozen? ⟨P,1,.none⟩=false
 f2 : W.frozen? ⟨P,2,.none⟩=false
 f3 : W.frozen? ⟨P,3,.none⟩=false
 f4 : W.frozen? ⟨P,4,.none⟩=false
 f5 : W.frozen? ⟨P,5,.none⟩=false
theorem C6.below {W W':World} {P:Nat} {x0 x1 x2 x3 x4 x5:Value} (h:C6 W P x0 x1 x2 x3 x4 x5) (b:Below W.heap.size W W') : C6 W' P x0 x1 x2 x3 x4 x5 := by
 have hP : P<W.heap.size := lt_of_cell h.c0
 exact ⟨(b.cell hP).trans h.c0,(b.cell hP).trans h.c1,(b.cell hP).trans h.c2,(b.cell hP).trans h.c3,(b.cell hP).trans h.c4,(b.cell hP).trans h.c5,(b.frozen hP).trans h.f0,(b.frozen hP).trans h.f1,(b.frozen hP).trans h.f2,(b.frozen hP).trans h.f3,(b.frozen hP).trans h.f4,(b.frozen hP).trans h.f5⟩
theorem C6.new (w:World) (x0 x1 x2 x3 x4 x5:Value) (t:TypeId) : C6 (w.alloc (.cells #[x0,x1,x2,x3,x4,x5] t)) w.heap.size x0 x1 x2 x3 x4 x5 :=
 ⟨by simp,by simp,by simp,by simp,by simp,by simp,World.frozen?_alloc_new _ _ _ _,World.frozen?_alloc_new _ _ _ _,World.frozen?_alloc_new _ _ _ _,World.frozen?_alloc_new _ _ _ _,World.frozen?_alloc_new _ _ _ _,World.frozen?_alloc_new _ _ _ _⟩
theorem C6.set {W:World} {P:Nat} {x0 x1 x2 x3 x4 x5:Value} (h:C6 W P x0 x1 x2 x3 x4 x5) (y0 y1 y2 y3 y4 y5:Value) : C6 ((((((W.setCell ⟨P,0,.none⟩ y0).setCell ⟨P,1,.none⟩ y1).setCell ⟨P,2,.none⟩ y2).setCell ⟨P,3,.none⟩ y3).setCell ⟨P,4,.none⟩ y4).setCell ⟨P,5,.none⟩ y5) P y0 y1 y2 y3 y4 y5 :=
 ⟨(World.cell?_setCell_other _ _ _ _ (by simp)).trans ((World.cell?_setCell_other _ _ _ _ (by simp)).trans ((World.cell?_setCell_other _ _ _ _ (by simp)).trans ((World.cell?_setCell_other _ _ _ _ (by simp)).trans ((World.cell?_setCell_other _ _ _ _ (by simp)).trans (World.cell?_setCell_same' _ _ _ (by rw [h.c0]; rfl)))))),(World.cell?_setCell_other _ _ _ _ (by simp)).trans ((World.cell?_setCell_other _ _ _ _ (by simp)).trans ((World.cell?_setCell_other _ _ _ _ (by simp)).trans ((World.cell?_setCell_other _ _ _ _ (by simp)).trans (World.cell?_setCell_same' _ _ _ (by rw [World.cell?_setCell_other _ _ _ _ (by simp),h.c1]; rfl))))),(World.cell?_setCell_other _ _ _ _ (by simp)).trans ((World.cell?_setCell_other _ _ _ _ (by simp)).trans ((World.cell?_setCell_other _ _ _ _ (by simp)).trans (World.cell?_setCell_same' _ _ _ (by rw [World.cell?_setCell_other _ _ _ _ (by simp),World.cell?_setCell_other _ _ _ _ (by simp),h.c2]; rfl)))),(World.cell?_setCell_other _ _ _ _ (by simp)).trans ((World.cell?_setCell_other _ _ _ _ (by simp)).trans (World.cell?_setCell_same' _ _ _ (by rw [World.cell?_setCell_other _ _ _ _ (by simp),World.cell?_setCell_other _ _ _ _ (by simp),World.cell?_setCell_other _ _ _ _ (by simp),h.c3]; rfl))),(World.cell?_setCell_other _ _ _ _ (by simp)).trans (World.cell?_setCell_same' _ _ _ (by rw [World.cell?_setCell_other _ _ _ _ (by simp),World.cell?_setCell_other _ _ _ _ (by simp),World.cell?_setCell_other _ _ _ _ (by simp),World.cell?_setCell_other _ _ _ _ (by simp),h.c4]; rfl)),World.cell?_setCell_same' _ _ _ (by rw [World.cell?_setCell_other _ _ _ _ (by simp),World.cell?_setCell_other _ _ _ _ (by simp),World.cell?_setCell_other _ _ _ _ (by simp),World.cell?_setCell_other _ _ _ _ (by simp),World.cell?_setCell_other _ _ _ _ (by simp),h.c5]; rfl),
  by rw [World.frozen?_setCell,World.frozen?_setCell,World.frozen?_setCell,World.frozen?_setCell,World.frozen?_setCell,World.frozen?_setCell]; exact h.f0,by rw [World.frozen?_setCell,World.frozen?_setCell,World.frozen?_setCell,World.frozen?_setCell,World.frozen?_setCell,World.frozen?_setCell]; exact h.f1,by rw [World.frozen?_setCell,World.frozen?_setCell,World.frozen?_setCell,World.frozen?_setCell,World.frozen?_setCell,World.frozen?_setCell]; exact h.f2,by rw [World.frozen?_setCell,World.frozen?_setCell,World.frozen?_setCell,World.frozen?_setCell,World.frozen?_setCell,World.frozen?_setCell]; exact h.f3,by rw [World.frozen?_setCell,World.frozen?_setCell,World.frozen?_setCell,World.frozen?_setCell,World.frozen?_setCell,World.frozen?_setCell]; exact h.f4,by rw [World.frozen?_setCell,World.frozen?_setCell,World.frozen?_setCell,World.frozen?_setCell,World.frozen?_setCell,World.frozen?_setCell]; exact h.f5⟩
theorem below6 {B:Nat} {w W:World} (h:Below B w W) {P:Nat} (hP:B≤P) (y0 y1 y2 y3 y4 y5:Value) : Below B w ((((((W.setCell ⟨P,0,.none⟩ y0).setCell ⟨P,1,.none⟩ y1).setCell ⟨P,2,.none⟩ y2).setCell ⟨P,3,.none⟩ y3).setCell ⟨P,4,.none⟩ y4).setCell ⟨P,5,.none⟩ y5) :=
 (((((h.setCell (p:=⟨P,0,.none⟩) hP _).setCell (p:=⟨P,1,.none⟩) hP _).setCell (p:=⟨P,2,.none⟩) hP _).setCell (p:=⟨P,3,.none⟩) hP _).setCell (p:=⟨P,4,.none⟩) hP _).setCell (p:=⟨P,5,.none⟩) hP _
section
variable {w:World} {v:Value}
end
end Rm
end Go.Proofs.YtabnipbdbnmmpaaGreatDoor
