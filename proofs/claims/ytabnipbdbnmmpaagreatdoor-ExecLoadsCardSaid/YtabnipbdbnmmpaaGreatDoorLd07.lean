import Derived.Test.YtabnipbdbnmmpaaGreatDoorLd01
import Derived.Test.YtabnipbdbnmmpaaGreatDoorLd06
import Derived.Laws.Cover3
import Derived.Deep.QuietTactic
import Derived.BigQuiet
import Derived.Deep.RegionLawGrows
import Derived.Deep.RegionHeld3
import Derived.RangeFuncNested
import Derived.RangeFuncBound
import Derived.RangeFuncCalls
import Derived.RangeFuncLeaves
import Derived.RangeFuncFrom
import Derived.Shelf.Abstract
import Derived.Shelf.RegionOpen
import Derived.OwnWalkIn
import Derived.TacticsInMore
import Derived.LoopNIn
import Derived.LoopIn
import Derived.Deep.DeepCutAuto
import Derived.Handy
set_option linter.unusedVariables false
set_option linter.unusedSimpArgs false
set_option maxHeartbeats 8000000
namespace Go.Proofs.YtabnipbdbnmmpaaGreatDoor
namespace Rm
open Go.RowKit
def fi (nd:Int):Nat:=((nd-2147483648)/4096).toNat
def ndB (N:Nat) (L:List Nat) (nd:Int):Bool:=decide (nd=2147483648+fi nd*4096∧1<=fi nd∧fi nd<N∧fi nd∉L)
def ent (B:Nat->Int) (nd va l:Int):Int:=num B (fi nd*4096+(ix va l).toNat*8) 8
def st (nd va l:Int):Int:=nd+ix va l*8
structure Pt where
 a0:Int
 a1:Int
 a2:Int
 l:Int
 e:Int
 k:Int
def wk (N:Nat) (L:List Nat) (B:Nat->Int) (va:Int):Nat->Int->Int->Int->Int->Int->Pt
 |0,nd,a0,a1,a2,e=>if ndB N L nd=true then ⟨st nd va 0,a1,a2,0,ent B nd va 0,kd (ent B nd va 0) 0⟩ else ⟨a0,a1,a2,0,e,4⟩
 |l+1,nd,a0,a1,a2,e=>if ndB N L nd=true then
   (if kd (ent B nd va (l+1:Nat)) (l+1:Nat)=3 then wk N L B va l (adE (ent B nd va (l+1:Nat))) a0 (if l=0 then st nd va 1 else a1) (if l=1 then st nd va 2 else a2) (ent B nd va (l+1:Nat))
    else ⟨a0,if l=0 then st nd va 1 else a1,if l=1 then st nd va 2 else a2,(l+1:Nat),ent B nd va (l+1:Nat),kd (ent B nd va (l+1:Nat)) (l+1:Nat)⟩)
  else ⟨a0,a1,a2,(l+1:Nat),e,4⟩
def look (N:Nat) (L:List Nat) (B:Nat->Int) (root va:Int):Pt:=wk N L B va 2 root 0 0 0 0
def Pt.val (x:Pt):Value:=.agg #[.int .u64 x.a0,.int .u64 x.a1,.int .u64 x.a2,.int .i64 x.l,.int .u64 x.e,.int .i64 x.k]
theorem kd0 (e:Int):kd e 0≠3:=by
 unfold kd
 split
 ·omega
 split
 ·omega
 split
 ·omega
 split
 ·split<;>omega
 ·simp
theorem ndB_spec {N:Nat} {L:List Nat} {nd:Int} (h:ndB N L nd=true):nd=2147483648+fi nd*4096∧1<=fi nd∧fi nd<N∧fi nd∉L:=of_decide_eq_true h
theorem ndB_not {N:Nat} {L:List Nat} {nd:Int} (h:ndB N L nd=false) (ha:nd%4096=0) (hb:nd≠2147483648):∀ i:Nat,i<N->i∉L->nd≠2147483648+i*4096:=fun i hi hL e=>by
 have hf:fi nd=i:=by unfold fi;omega
 have:=of_decide_eq_false h
 rw[hf] at this
 exact this ⟨e,by omega,hi,hL⟩
theorem ent_b {B:Nat->Int} (hB:∀ i,0<=B i∧B i<256) (nd va l:Int):0<=ent B nd va l∧ent B nd va l<18446744073709551616:=by
 have:=num_bd B hB (fi nd*4096+(ix va l).toNat*8) 8
 have h2:=this.2
 refine⟨this.1,?_⟩
 unfold ent
 simpa using h2
section
variable {w:World} {p b m N:Nat} {B:Nat->Int} {L:List Nat}
theorem load_nd (h:Ram w p b m N B L) (nd va l:Int) (hn:ndB N L nd=true):Calls Tryz.prog 152 #[.pointer (some ⟨p,0,.none⟩),.int .u64 (nd+ix va l*8),.int .i64 8] w fun e w'=>e = .returned (.tuple #[.int .u64 (ent B nd va l),.bool true])∧Below w.heap.size w w':=by
 obtain⟨h1,h2,h3,h4⟩:=ndB_spec hn
 have hb:=ix_b va l
 have c:=load_held h (fi nd) (ix va l).toNat h3 h4 (by omega)
 rw[show (2147483648+(fi nd:Int)*4096+((ix va l).toNat:Int)*8)=nd+ix va l*8 by omega] at c
 exact c
theorem load_nd_no (h:Ram w p b m N B L) (nd va l:Int) (hr:0<=nd∧nd<18446744073709551616) (hn:ndB N L nd=false) (ha:nd%4096=0) (hb:nd≠2147483648):Calls Tryz.prog 152 #[.pointer (some ⟨p,0,.none⟩),.int .u64 (nd+ix va l*8),.int .i64 8] w fun e w'=>e = .returned (.tuple #[.int .u64 0,.bool false])∧Below w.heap.size w w':=by
 have hi:=ix_b va l
 have c:=load_free h nd (ix va l).toNat hr ha (by omega) (ndB_not hn ha hb)
 rw[show (nd+((ix va l).toNat:Int)*8)=nd+ix va l*8 by omega] at c
 exact c
theorem meet_any (l at_ e:Int) (w:World):Calls Tryz.prog 242 #[.agg #[],.int .i64 l,.int .u64 at_,.int .u64 e] w fun r w'=>r = .returned (.tuple #[.int .u64 e,.bool true])∧w'=w.alloc (.cells #[] 171):=by
 go_enter Tryz.func242,Tryz.ntmps242
 go_wp2
 go_ret2
 exact⟨rfl,rfl⟩
end
end Rm
namespace Rm
open Go.RowKit
def pth (a0 a1 a2 l e k:Int):Value:=.agg #[.int .u64 a0,.int .u64 a1,.int .u64 a2,.int .i64 l,.int .u64 e,.int .i64 k]
theorem below1 (w:World) (o:Obj):Below w.heap.size w (w.alloc o):=(Below.refl w.heap.size w).alloc zL o
theorem below2 (w:World) (o o1:Obj):Below w.heap.size w ((w.alloc o).alloc o1):=(below1 w o).alloc (by simp) o1
theorem below3 (w:World) (o o1 o2:Obj):Below w.heap.size w (((w.alloc o).alloc o1).alloc o2):=(below2 w o o1).alloc (by simp only[World.size_alloc];omega) o2
section
variable {w:World} {v:Value}
end
end Rm
namespace Rm
open Go.RowKit
theorem blw_drewN (B:Nat) (w:World) (n:Nat):Below B w (w.drewN n):=⟨rfl,rfl,rfl,Nat.le_refl _,fun _ _=>rfl⟩
theorem spn_pos (l:Int):0<spn l:=by unfold spn;split<;>(try split)<;>(try split)<;>omega
theorem mod_le {a b:Int} (ha:0<=a) (hb:0<b):0<=a%b∧a%b<=a:=⟨Int.emod_nonneg _ (by omega),by have:=Int.mul_ediv_add_emod a b;have:=Int.mul_nonneg (Int.le_of_lt hb) (Int.ediv_nonneg ha (Int.le_of_lt hb));omega⟩
section
variable {w:World} {v:Value}
theorem node_any (a0 a1 a2 l e k a:Int) (h:(l=0∧a=a0)∨(l=1∧a=a1)∨(l=2∧a=a2)) (ha:0<=a∧a<18446744073709551616):Calls Tryz.prog 190 #[pth a0 a1 a2 l e k,.int .i64 l] w fun e w'=>e = .returned (.int .u64 (a-a%4096))∧Below w.heap.size w w':=by
 simp only[pth]
 rcases h with⟨rfl,rfl⟩|⟨rfl,rfl⟩|⟨rfl,rfl⟩
 all_goals
  go_enter Tryz.func190,Tryz.ntmps190
  go_wp2
  go_quiet (fail)
  go_wp2
  go_ret
  exact⟨rfl,(below1 _ _).trans (blw_drewN _ _ _)⟩
theorem branch_any (T:Nat) (va l:Int) (hl:l=0∨l=1∨l=2∨l=3) (hv:0<=va∧va<18446744073709551616) (ht:w.cell? ⟨T,2,.none⟩=some (.int .u64 va)):Calls Tryz.prog 212 #[.pointer (some ⟨T,0,.none⟩),.int .i64 l] w fun e w'=>e = .returned (.agg #[.int .u64 (va-va%spn l),.int .i64 l])∧Below w.heap.size w w':=by
 have c:=inSpan_any va l hv hl
 have hT:=zC ht
 have hm:=mod_le hv.1 (spn_pos l)
 have hw:IntKind.u64.wrap (va-va%spn l)=va-va%spn l:=by rw[IntKind.wrap_u64];omega
 clear hl
 generalize va%spn l=x at *
 go_enter Tryz.func212,Tryz.ntmps212
 go_wp2
 go_region_law (go_simp;go_at_call 57;refine(c _).mono ?_;rintro e W0 ⟨rfl,rfl⟩)
 all_goals
  go_wp2
  refine bodyPost_ret (v:=.agg #[.int .u64 (va-x),.int .i64 l]) (by simp[results,Tryz.results212,go_sem]) rfl ⟨rfl,(below1 _ _).trans zB.drew⟩
structure Tour (w:World) (T:Nat) (v:Value) (root va:Int) (m:Value):Prop where
 c0:w.cell? ⟨T,0,.none⟩=some v
 c1:w.cell? ⟨T,1,.none⟩=some (.int .u64 root)
 c2:w.cell? ⟨T,2,.none⟩=some (.int .u64 va)
 c3:w.cell? ⟨T,3,.none⟩=some m
 f2:w.frozen? ⟨T,2,.none⟩=false
theorem Tour.below {w w':World} {T:Nat} {v:Value} {root va:Int} {m:Value} (h:Tour w T v root va m) (b:Below w.heap.size w w'):Tour w' T v root va m:=by
 have hT:T<w.heap.size:=zC h.c0
 exact⟨(b.cell hT).trans h.c0,(b.cell hT).trans h.c1,(b.cell hT).trans h.c2,(b.cell hT).trans h.c3,(b.frozen hT).trans h.f2⟩
theorem Tour.set {w:World} {T:Nat} {v:Value} {root va:Int} {m:Value} (h:Tour w T v root va m) (x:Int):Tour (w.setCell ⟨T,2,.none⟩ (.int .u64 x)) T v root x m:=
 ⟨(zO (by simp)).trans h.c0,(zO (by simp)).trans h.c1,World.cell?_setCell_same' _ _ _ (by rw[h.c2];rfl),(zO (by simp)).trans h.c3,by rw[World.frozen?_setCell];exact h.f2⟩
theorem field100_0 (a b:Value) (w:World):(Instr.field 236 (.agg #[a,b]) 0).run Tryz.prog w = .ok a w:=by kernel_rfl
attribute [local go_sem] field100_0
theorem pass_any {T:Nat} {root va:Int} {m:Value} (t:Tour w T v root va m) (a0 a1 a2 l e k a nx:Int) (hl:(l=0∧a=a0)∨(l=1∧a=a1)∨(l=2∧a=a2)) (ha:0<=a∧a<18446744073709551616) (hva:0<=va∧va<549755813888) (hn:0<=nx∧nx<=512)
  (c73:∀ w',Below w.heap.size w w'->Calls Tryz.prog 191 #[v,.int .u64 (a-a%4096),.int .u64 (ix va l+1)] w' fun e w''=>e = .returned (.int .u64 nx)∧Below w'.heap.size w' w'') :
  Calls Tryz.prog 214 #[.pointer (some ⟨T,0,.none⟩),pth a0 a1 a2 l e k] w fun e w'=>(∃ u,e = .returned u)∧∃ w1,Below w.heap.size w w1∧w'=w1.setCell ⟨T,2,.none⟩ (.int .u64 (va-va%spn (l+1)+nx*spn l)):=by
 have hT:T<w.heap.size:=zC t.c0
 have hl3:l=0∨l=1∨l=2:=by omega
 have P:∀ W,Below (w.alloc (.cells #[.int .u64 a0,.int .u64 a1,.int .u64 a2,.int .i64 l,.int .u64 e,.int .i64 k] 169)).heap.size (w.alloc (.cells #[.int .u64 a0,.int .u64 a1,.int .u64 a2,.int .i64 l,.int .u64 e,.int .i64 k] 169)) W ->
   W.cell? ⟨T,0,.none⟩=some v∧W.cell? ⟨T,2,.none⟩=some (.int .u64 va)∧W.cell? ⟨w.heap.size,0,.none⟩=some (.int .u64 a0)∧W.cell? ⟨w.heap.size,1,.none⟩=some (.int .u64 a1)∧W.cell? ⟨w.heap.size,2,.none⟩=some (.int .u64 a2)∧W.cell? ⟨w.heap.size,3,.none⟩=some (.int .i64 l)∧W.cell? ⟨w.heap.size,4,.none⟩=some (.int .u64 e)∧W.cell? ⟨w.heap.size,5,.none⟩=some (.int .i64 k):=by
  intro W hb
  have t1:=(t.below (below1 w (.cells #[.int .u64 a0,.int .u64 a1,.int .u64 a2,.int .i64 l,.int .u64 e,.int .i64 k] 169))).below hb
  have z:w.heap.size<(w.alloc (.cells #[.int .u64 a0,.int .u64 a1,.int .u64 a2,.int .i64 l,.int .u64 e,.int .i64 k] 169)).heap.size:=by simp
  exact⟨t1.c0,t1.c2,(hb.cell z).trans (by simp),(hb.cell z).trans (by simp),(hb.cell z).trans (by simp),(hb.cell z).trans (by simp),(hb.cell z).trans (by simp),(hb.cell z).trans (by simp)⟩
 have hbX:=below1 w (.cells #[.int .u64 a0,.int .u64 a1,.int .u64 a2,.int .i64 l,.int .u64 e,.int .i64 k] 169)
 have i1:=ix_b va l
 have i2:IntKind.u64.wrap (ix va l+1)=ix va l+1:=by rw[IntKind.wrap_u64];omega
 have P0:=P _ zB
 have fr:∀ W,Below (w.alloc (.cells #[.int .u64 a0,.int .u64 a1,.int .u64 a2,.int .i64 l,.int .u64 e,.int .i64 k] 169)).heap.size (w.alloc (.cells #[.int .u64 a0,.int .u64 a1,.int .u64 a2,.int .i64 l,.int .u64 e,.int .i64 k] 169)) W->W.frozen? ⟨T,2,.none⟩=false:=fun W hb=>((t.below hbX).below hb).f2
 have tr:∀ W,Below (w.alloc (.cells #[.int .u64 a0,.int .u64 a1,.int .u64 a2,.int .i64 l,.int .u64 e,.int .i64 k] 169)).heap.size (w.alloc (.cells #[.int .u64 a0,.int .u64 a1,.int .u64 a2,.int .i64 l,.int .u64 e,.int .i64 k] 169)) W->Below w.heap.size w W:=fun W hb=>hbX.trans (hb.mono (by simp))
 have HP:Hid (∀ W,Below (w.alloc (.cells #[.int .u64 a0,.int .u64 a1,.int .u64 a2,.int .i64 l,.int .u64 e,.int .i64 k] 169)).heap.size (w.alloc (.cells #[.int .u64 a0,.int .u64 a1,.int .u64 a2,.int .i64 l,.int .u64 e,.int .i64 k] 169)) W -> _):=P
 have HF:Hid (∀ W,Below (w.alloc (.cells #[.int .u64 a0,.int .u64 a1,.int .u64 a2,.int .i64 l,.int .u64 e,.int .i64 k] 169)).heap.size (w.alloc (.cells #[.int .u64 a0,.int .u64 a1,.int .u64 a2,.int .i64 l,.int .u64 e,.int .i64 k] 169)) W -> _):=fr
 have HT:Hid (∀ W,Below (w.alloc (.cells #[.int .u64 a0,.int .u64 a1,.int .u64 a2,.int .i64 l,.int .u64 e,.int .i64 k] 169)).heap.size (w.alloc (.cells #[.int .u64 a0,.int .u64 a1,.int .u64 a2,.int .i64 l,.int .u64 e,.int .i64 k] 169)) W -> _):=tr
 clear P fr tr hbX t
 simp only[pth]
 go_enter Tryz.func214,Tryz.ntmps214
 go_wp2
 generalize hX:(w.alloc (.cells #[.int .u64 a0,.int .u64 a1,.int .u64 a2,.int .i64 l,.int .u64 e,.int .i64 k] 169))=X at *
 have HX:Hid (_=X):=hX
 clear hX
 have HS:Hid (∀ W,Below X.heap.size X W->(W.cell? ⟨T,0,.none⟩=some v∧W.cell? ⟨T,2,.none⟩=some (.int .u64 va)∧W.cell? ⟨w.heap.size,0,.none⟩=some (.int .u64 a0)∧W.cell? ⟨w.heap.size,1,.none⟩=some (.int .u64 a1)∧W.cell? ⟨w.heap.size,2,.none⟩=some (.int .u64 a2)∧W.cell? ⟨w.heap.size,3,.none⟩=some (.int .i64 l)∧W.cell? ⟨w.heap.size,4,.none⟩=some (.int .u64 e)∧W.cell? ⟨w.heap.size,5,.none⟩=some (.int .i64 k)∧W.frozen? ⟨T,2,.none⟩=false∧Below X.heap.size X W)):=fun W hb=>by
  obtain⟨q0,q1,q2,q3,q4,q5,q6,q7⟩:=HP.out W hb
  exact⟨q0,q1,q2,q3,q4,q5,q6,q7,HF.out W hb,hb⟩
 have s72:∀ W,(W.cell? ⟨T,0,.none⟩=some v∧W.cell? ⟨T,2,.none⟩=some (.int .u64 va)∧W.cell? ⟨w.heap.size,0,.none⟩=some (.int .u64 a0)∧W.cell? ⟨w.heap.size,1,.none⟩=some (.int .u64 a1)∧W.cell? ⟨w.heap.size,2,.none⟩=some (.int .u64 a2)∧W.cell? ⟨w.heap.size,3,.none⟩=some (.int .i64 l)∧W.cell? ⟨w.heap.size,4,.none⟩=some (.int .u64 e)∧W.cell? ⟨w.heap.size,5,.none⟩=some (.int .i64 k)∧W.frozen? ⟨T,2,.none⟩=false∧Below X.heap.size X W)->Calls Tryz.prog 190 #[.agg #[.int .u64 a0,.int .u64 a1,.int .u64 a2,.int .i64 l,.int .u64 e,.int .i64 k],.int .i64 l] W fun e_ W'=>e_ = .returned (.int .u64 (a-a%4096))∧(W'.cell? ⟨T,0,.none⟩=some v∧W'.cell? ⟨T,2,.none⟩=some (.int .u64 va)∧W'.cell? ⟨w.heap.size,0,.none⟩=some (.int .u64 a0)∧W'.cell? ⟨w.heap.size,1,.none⟩=some (.int .u64 a1)∧W'.cell? ⟨w.heap.size,2,.none⟩=some (.int .u64 a2)∧W'.cell? ⟨w.heap.size,3,.none⟩=some (.int .i64 l)∧W'.cell? ⟨w.heap.size,4,.none⟩=some (.int .u64 e)∧W'.cell? ⟨w.heap.size,5,.none⟩=some (.int .i64 k)∧W'.frozen? ⟨T,2,.none⟩=false∧Below X.heap.size X W'):=fun W hs=>by
  have hb:=hs.2.2.2.2.2.2.2.2.2
  refine(node_any a0 a1 a2 l e k a hl ha).mono ?_
  rintro e_ W' ⟨he,h1⟩
  exact⟨he,HS.out W' (hb.trans (h1.mono hb.size))⟩
 have s63:∀ W,(W.cell? ⟨T,0,.none⟩=some v∧W.cell? ⟨T,2,.none⟩=some (.int .u64 va)∧W.cell? ⟨w.heap.size,0,.none⟩=some (.int .u64 a0)∧W.cell? ⟨w.heap.size,1,.none⟩=some (.int .u64 a1)∧W.cell? ⟨w.heap.size,2,.none⟩=some (.int .u64 a2)∧W.cell? ⟨w.heap.size,3,.none⟩=some (.int .i64 l)∧W.cell? ⟨w.heap.size,4,.none⟩=some (.int .u64 e)∧W.cell? ⟨w.heap.size,5,.none⟩=some (.int .i64 k)∧W.frozen? ⟨T,2,.none⟩=false∧Below X.heap.size X W)->Calls Tryz.prog 151 #[.int .u64 va,.int .i64 l] W fun e_ W'=>e_ = .returned (.int .u64 (ix va l))∧(W'.cell? ⟨T,0,.none⟩=some v∧W'.cell? ⟨T,2,.none⟩=some (.int .u64 va)∧W'.cell? ⟨w.heap.size,0,.none⟩=some (.int .u64 a0)∧W'.cell? ⟨w.heap.size,1,.none⟩=some (.int .u64 a1)∧W'.cell? ⟨w.heap.size,2,.none⟩=some (.int .u64 a2)∧W'.cell? ⟨w.heap.size,3,.none⟩=some (.int .i64 l)∧W'.cell? ⟨w.heap.size,4,.none⟩=some (.int .u64 e)∧W'.cell? ⟨w.heap.size,5,.none⟩=some (.int .i64 k)∧W'.frozen? ⟨T,2,.none⟩=false∧Below X.heap.size X W'):=fun W hs=>by
  refine(index_any va l (by omega) hl3 W).mono ?_
  rintro e_ W' ⟨he,rfl⟩
  exact⟨he,hs⟩
 have s73:∀ W,(W.cell? ⟨T,0,.none⟩=some v∧W.cell? ⟨T,2,.none⟩=some (.int .u64 va)∧W.cell? ⟨w.heap.size,0,.none⟩=some (.int .u64 a0)∧W.cell? ⟨w.heap.size,1,.none⟩=some (.int .u64 a1)∧W.cell? ⟨w.heap.size,2,.none⟩=some (.int .u64 a2)∧W.cell? ⟨w.heap.size,3,.none⟩=some (.int .i64 l)∧W.cell? ⟨w.heap.size,4,.none⟩=some (.int .u64 e)∧W.cell? ⟨w.heap.size,5,.none⟩=some (.int .i64 k)∧W.frozen? ⟨T,2,.none⟩=false∧Below X.heap.size X W)->Calls Tryz.prog 191 #[v,.int .u64 (a-a%4096),.int .u64 (ix va l+1)] W fun e_ W'=>e_ = .returned (.int .u64 nx)∧(W'.cell? ⟨T,0,.none⟩=some v∧W'.cell? ⟨T,2,.none⟩=some (.int .u64 va)∧W'.cell? ⟨w.heap.size,0,.none⟩=some (.int .u64 a0)∧W'.cell? ⟨w.heap.size,1,.none⟩=some (.int .u64 a1)∧W'.cell? ⟨w.heap.size,2,.none⟩=some (.int .u64 a2)∧W'.cell? ⟨w.heap.size,3,.none⟩=some (.int .i64 l)∧W'.cell? ⟨w.heap.size,4,.none⟩=some (.int .u64 e)∧W'.cell? ⟨w.heap.size,5,.none⟩=some (.int .i64 k)∧W'.frozen? ⟨T,2,.none⟩=false∧Below X.heap.size X W'):=fun W hs=>by
  have hb:=hs.2.2.2.2.2.2.2.2.2
  refine(c73 W (HT.out W hb)).mono ?_
  rintro e_ W' ⟨he,h1⟩
  exact⟨he,HS.out W' (hb.trans (h1.mono hb.size))⟩
 have s82:∀ W,(W.cell? ⟨T,0,.none⟩=some v∧W.cell? ⟨T,2,.none⟩=some (.int .u64 va)∧W.cell? ⟨w.heap.size,0,.none⟩=some (.int .u64 a0)∧W.cell? ⟨w.heap.size,1,.none⟩=some (.int .u64 a1)∧W.cell? ⟨w.heap.size,2,.none⟩=some (.int .u64 a2)∧W.cell? ⟨w.heap.size,3,.none⟩=some (.int .i64 l)∧W.cell? ⟨w.heap.size,4,.none⟩=some (.int .u64 e)∧W.cell? ⟨w.heap.size,5,.none⟩=some (.int .i64 k)∧W.frozen? ⟨T,2,.none⟩=false∧Below X.heap.size X W)->Calls Tryz.prog 212 #[.pointer (some ⟨T,0,.none⟩),.int .i64 (l+1)] W fun e_ W'=>e_ = .returned (.agg #[.int .u64 (va-va%spn (l+1)),.int .i64 (l+1)])∧(W'.cell? ⟨T,0,.none⟩=some v∧W'.cell? ⟨T,2,.none⟩=some (.int .u64 va)∧W'.cell? ⟨w.heap.size,0,.none⟩=some (.int .u64 a0)∧W'.cell? ⟨w.heap.size,1,.none⟩=some (.int .u64 a1)∧W'.cell? ⟨w.heap.size,2,.none⟩=some (.int .u64 a2)∧W'.cell? ⟨w.heap.size,3,.none⟩=some (.int .i64 l)∧W'.cell? ⟨w.heap.size,4,.none⟩=some (.int .u64 e)∧W'.cell? ⟨w.heap.size,5,.none⟩=some (.int .i64 k)∧W'.frozen? ⟨T,2,.none⟩=false∧Below X.heap.size X W'):=fun W hs=>by
  have hb:=hs.2.2.2.2.2.2.2.2.2
  refine(branch_any T va (l+1) (by omega) (by omega) hs.2.1).mono ?_
  rintro e_ W' ⟨he,h1⟩
  exact⟨he,HS.out W' (hb.trans (h1.mono hb.size))⟩
 have s78:∀ W,(W.cell? ⟨T,0,.none⟩=some v∧W.cell? ⟨T,2,.none⟩=some (.int .u64 va)∧W.cell? ⟨w.heap.size,0,.none⟩=some (.int .u64 a0)∧W.cell? ⟨w.heap.size,1,.none⟩=some (.int .u64 a1)∧W.cell? ⟨w.heap.size,2,.none⟩=some (.int .u64 a2)∧W.cell? ⟨w.heap.size,3,.none⟩=some (.int .i64 l)∧W.cell? ⟨w.heap.size,4,.none⟩=some (.int .u64 e)∧W.cell? ⟨w.heap.size,5,.none⟩=some (.int .i64 k)∧W.frozen? ⟨T,2,.none⟩=false∧Below X.heap.size X W)->Calls Tryz.prog 110 #[.int .i64 l] W fun e_ W'=>e_ = .returned (.int .u64 (spn l))∧(W'.cell? ⟨T,0,.none⟩=some v∧W'.cell? ⟨T,2,.none⟩=some (.int .u64 va)∧W'.cell? ⟨w.heap.size,0,.none⟩=some (.int .u64 a0)∧W'.cell? ⟨w.heap.size,1,.none⟩=some (.int .u64 a1)∧W'.cell? ⟨w.heap.size,2,.none⟩=some (.int .u64 a2)∧W'.cell? ⟨w.heap.size,3,.none⟩=some (.int .i64 l)∧W'.cell? ⟨w.heap.size,4,.none⟩=some (.int .u64 e)∧W'.cell? ⟨w.heap.size,5,.none⟩=some (.int .i64 k)∧W'.frozen? ⟨T,2,.none⟩=false∧Below X.heap.size X W'):=fun W hs=>by
  refine(span_any l (by omega) W).mono ?_
  rintro e_ W' ⟨he,rfl⟩
  exact⟨he,hs⟩
 have hc78:=fun W=>span_any l (by omega) W
 have j0:=HS.out X.drew zB.drew
 have w1:IntKind.i64.wrap (l+1)=l+1:=by rcases hl3 with rfl|rfl|rfl<;>rfl
 have w2:IntKind.u64.wrap (nx*spn l)=nx*spn l:=by rw[IntKind.wrap_u64];rcases hl3 with rfl|rfl|rfl<;>simp only[spn0,spn1,spn2]<;>omega
 have w3:IntKind.u64.wrap (va-va%spn (l+1)+nx*spn l)=va-va%spn (l+1)+nx*spn l:=by
  have:=mod_le hva.1 (spn_pos (l+1))
  rw[IntKind.wrap_u64]
  rcases hl3 with rfl|rfl|rfl<;>simp only[spn0,spn1,spn2]<;>omega
 clear hl c73 hl3 ha P0 HP HF
 generalize a-a%4096=nd at *
 generalize ix va l=ii at *
 generalize hA:va-va%spn (l+1)=A at *
 have HA:Hid (_=A):=hA
 clear hA
 generalize hL:spn l=sl at *
 have HL:Hid (_=sl):=hL
 clear hL
 go_region_held3 (fun W=>(W.cell? ⟨T,0,.none⟩=some v∧W.cell? ⟨T,2,.none⟩=some (.int .u64 va)∧W.cell? ⟨w.heap.size,0,.none⟩=some (.int .u64 a0)∧W.cell? ⟨w.heap.size,1,.none⟩=some (.int .u64 a1)∧W.cell? ⟨w.heap.size,2,.none⟩=some (.int .u64 a2)∧W.cell? ⟨w.heap.size,3,.none⟩=some (.int .i64 l)∧W.cell? ⟨w.heap.size,4,.none⟩=some (.int .u64 e)∧W.cell? ⟨w.heap.size,5,.none⟩=some (.int .i64 k)∧W.frozen? ⟨T,2,.none⟩=false∧Below X.heap.size X W)) (first|assumption|exact j0) (first|(go_at_call 190;refine(s72 _ (by assumption)).mono ?_;rintro e_ W1 ⟨rfl,hS1⟩)|(go_at_call 151;refine(s63 _ (by assumption)).mono ?_;rintro e_ W2 ⟨rfl,hS2⟩)|(go_at_call 191;refine(s73 _ (by assumption)).mono ?_;rintro e_ W3 ⟨rfl,hS3⟩))
 rename_i hHeld
 have HS3:Hid (Below X.heap.size X W3):=hS3.2.2.2.2.2.2.2.2.2
 have j1:=HS.out W3.drew hS3.2.2.2.2.2.2.2.2.2.drew
 clear hS3 hHeld s72 s63 s73 j0 i2
 go_wp2
 obtain⟨k0,k1,k2,k3,k4,k5,k6,k7,k8,k9⟩:=id j1
 have c78:∀ W:World,Calls Tryz.prog 110 #[.int .i64 l] W fun e_ W'=>e_ = .returned (.int .u64 sl)∧W'=W:=hc78
 clear s78 HS3 k0 k2 k3 k4 k6 k7 k9
 go_region_law (first|(go_simp;go_at_call 212;refine(s82 _ (by assumption)).mono ?_;rintro e_ W4 ⟨rfl,hS4⟩;obtain⟨k10,k11,k12,k13,k14,k15,k16,k17,k18,k19⟩:=id hS4;clear k10 k12 k13 k14 k16 k17 k19)|(go_simp;go_at_call 110;refine(c78 _).mono ?_;rintro e_ W5 ⟨rfl,rfl⟩))
 all_goals
  go_end0
  exact⟨⟨_,rfl⟩,_,HT.out _ hS4.2.2.2.2.2.2.2.2.2,by rw[HA.out,HL.out]⟩
end
end Rm
namespace Rm
open Go.RowKit Go.Shelf
structure C6 (W:World) (P:Nat) (x0 x1 x2 x3 x4 x5:Value):Prop where
 c0:W.cell? ⟨P,0,.none⟩=some x0
 c1:W.cell? ⟨P,1,.none⟩=some x1
 c2:W.cell? ⟨P,2,.none⟩=some x2
 c3:W.cell? ⟨P,3,.none⟩=some x3
 c4:W.cell? ⟨P,4,.none⟩=some x4
 c5:W.cell? ⟨P,5,.none⟩=some x5
 f0:W.frozen? ⟨P,0,.none⟩=false
 f1:W.frozen? ⟨P,1,.none⟩=false
 f2:W.frozen? ⟨P,2,.none⟩=false
 f3:W.frozen? ⟨P,3,.none⟩=false
 f4:W.frozen? ⟨P,4,.none⟩=false
 f5:W.frozen? ⟨P,5,.none⟩=false
theorem C6.below {W W':World} {P:Nat} {x0 x1 x2 x3 x4 x5:Value} (h:C6 W P x0 x1 x2 x3 x4 x5) (b:Below W.heap.size W W'):C6 W' P x0 x1 x2 x3 x4 x5:=by
 have hP:P<W.heap.size:=zC h.c0
 exact⟨(b.cell hP).trans h.c0,(b.cell hP).trans h.c1,(b.cell hP).trans h.c2,(b.cell hP).trans h.c3,(b.cell hP).trans h.c4,(b.cell hP).trans h.c5,(b.frozen hP).trans h.f0,(b.frozen hP).trans h.f1,(b.frozen hP).trans h.f2,(b.frozen hP).trans h.f3,(b.frozen hP).trans h.f4,(b.frozen hP).trans h.f5⟩
theorem C6.new (w:World) (x0 x1 x2 x3 x4 x5:Value) (t:TypeId):C6 (w.alloc (.cells #[x0,x1,x2,x3,x4,x5] t)) w.heap.size x0 x1 x2 x3 x4 x5:=
 ⟨by simp,by simp,by simp,by simp,by simp,by simp,World.frozen?_alloc_new _ _ _ _,World.frozen?_alloc_new _ _ _ _,World.frozen?_alloc_new _ _ _ _,World.frozen?_alloc_new _ _ _ _,World.frozen?_alloc_new _ _ _ _,World.frozen?_alloc_new _ _ _ _⟩
theorem C6.set {W:World} {P:Nat} {x0 x1 x2 x3 x4 x5:Value} (h:C6 W P x0 x1 x2 x3 x4 x5) (y0 y1 y2 y3 y4 y5:Value):C6 ((((((W.setCell ⟨P,0,.none⟩ y0).setCell ⟨P,1,.none⟩ y1).setCell ⟨P,2,.none⟩ y2).setCell ⟨P,3,.none⟩ y3).setCell ⟨P,4,.none⟩ y4).setCell ⟨P,5,.none⟩ y5) P y0 y1 y2 y3 y4 y5:=
 ⟨(zO (by simp)).trans ((zO (by simp)).trans ((zO (by simp)).trans ((zO (by simp)).trans ((zO (by simp)).trans (World.cell?_setCell_same' _ _ _ (by rw[h.c0];rfl)))))),(zO (by simp)).trans ((zO (by simp)).trans ((zO (by simp)).trans ((zO (by simp)).trans (World.cell?_setCell_same' _ _ _ (by rw[zO (by simp),h.c1];rfl))))),(zO (by simp)).trans ((zO (by simp)).trans ((zO (by simp)).trans (World.cell?_setCell_same' _ _ _ (by rw[zO (by simp),zO (by simp),h.c2];rfl)))),(zO (by simp)).trans ((zO (by simp)).trans (World.cell?_setCell_same' _ _ _ (by rw[zO (by simp),zO (by simp),zO (by simp),h.c3];rfl))),(zO (by simp)).trans (World.cell?_setCell_same' _ _ _ (by rw[zO (by simp),zO (by simp),zO (by simp),zO (by simp),h.c4];rfl)),World.cell?_setCell_same' _ _ _ (by rw[zO (by simp),zO (by simp),zO (by simp),zO (by simp),zO (by simp),h.c5];rfl),
  by rw[World.frozen?_setCell,World.frozen?_setCell,World.frozen?_setCell,World.frozen?_setCell,World.frozen?_setCell,World.frozen?_setCell];exact h.f0,by rw[World.frozen?_setCell,World.frozen?_setCell,World.frozen?_setCell,World.frozen?_setCell,World.frozen?_setCell,World.frozen?_setCell];exact h.f1,by rw[World.frozen?_setCell,World.frozen?_setCell,World.frozen?_setCell,World.frozen?_setCell,World.frozen?_setCell,World.frozen?_setCell];exact h.f2,by rw[World.frozen?_setCell,World.frozen?_setCell,World.frozen?_setCell,World.frozen?_setCell,World.frozen?_setCell,World.frozen?_setCell];exact h.f3,by rw[World.frozen?_setCell,World.frozen?_setCell,World.frozen?_setCell,World.frozen?_setCell,World.frozen?_setCell,World.frozen?_setCell];exact h.f4,by rw[World.frozen?_setCell,World.frozen?_setCell,World.frozen?_setCell,World.frozen?_setCell,World.frozen?_setCell,World.frozen?_setCell];exact h.f5⟩
theorem below6 {B:Nat} {w W:World} (h:Below B w W) {P:Nat} (hP:B<=P) (y0 y1 y2 y3 y4 y5:Value):Below B w ((((((W.setCell ⟨P,0,.none⟩ y0).setCell ⟨P,1,.none⟩ y1).setCell ⟨P,2,.none⟩ y2).setCell ⟨P,3,.none⟩ y3).setCell ⟨P,4,.none⟩ y4).setCell ⟨P,5,.none⟩ y5):=
 (((((h.setCell (p:=⟨P,0,.none⟩) hP _).setCell (p:=⟨P,1,.none⟩) hP _).setCell (p:=⟨P,2,.none⟩) hP _).setCell (p:=⟨P,3,.none⟩) hP _).setCell (p:=⟨P,4,.none⟩) hP _).setCell (p:=⟨P,5,.none⟩) hP _
section
variable {w:World} {v:Value}
end
end Rm
namespace Rm
open Go.RowKit
theorem Ram.below {w w':World} {p b m N:Nat} {B:Nat->Int} {L:List Nat} (h:Ram w p b m N B L) (k:Below w.heap.size w w'):Ram w' p b m N B L:=⟨h.mem.below k,h.nd,h.lt,h.thr⟩
theorem C6.set045 {W:World} {P:Nat} {x0 x1 x2 x3 x4 x5:Value} (h:C6 W P x0 x1 x2 x3 x4 x5) (y u v:Value):C6 (((W.setCell ⟨P,0,.none⟩ y).setCell ⟨P,4,.none⟩ u).setCell ⟨P,5,.none⟩ v) P y x1 x2 x3 u v:=
 ⟨(zO (by simp)).trans ((zO (by simp)).trans (World.cell?_setCell_same' _ _ _ (by rw[h.c0];rfl))),(zO (by simp)).trans ((zO (by simp)).trans ((zO (by simp)).trans (h.c1))),(zO (by simp)).trans ((zO (by simp)).trans ((zO (by simp)).trans (h.c2))),(zO (by simp)).trans ((zO (by simp)).trans ((zO (by simp)).trans (h.c3))),(zO (by simp)).trans (World.cell?_setCell_same' _ _ _ (by rw[zO (by simp),h.c4];rfl)),World.cell?_setCell_same' _ _ _ (by rw[zO (by simp),zO (by simp),h.c5];rfl),
  by rw[World.frozen?_setCell,World.frozen?_setCell,World.frozen?_setCell];exact h.f0,by rw[World.frozen?_setCell,World.frozen?_setCell,World.frozen?_setCell];exact h.f1,by rw[World.frozen?_setCell,World.frozen?_setCell,World.frozen?_setCell];exact h.f2,by rw[World.frozen?_setCell,World.frozen?_setCell,World.frozen?_setCell];exact h.f3,by rw[World.frozen?_setCell,World.frozen?_setCell,World.frozen?_setCell];exact h.f4,by rw[World.frozen?_setCell,World.frozen?_setCell,World.frozen?_setCell];exact h.f5⟩
theorem C6.set145 {W:World} {P:Nat} {x0 x1 x2 x3 x4 x5:Value} (h:C6 W P x0 x1 x2 x3 x4 x5) (y u v:Value):C6 (((W.setCell ⟨P,1,.none⟩ y).setCell ⟨P,4,.none⟩ u).setCell ⟨P,5,.none⟩ v) P x0 y x2 x3 u v:=
 ⟨(zO (by simp)).trans ((zO (by simp)).trans ((zO (by simp)).trans (h.c0))),(zO (by simp)).trans ((zO (by simp)).trans (World.cell?_setCell_same' _ _ _ (by rw[h.c1];rfl))),(zO (by simp)).trans ((zO (by simp)).trans ((zO (by simp)).trans (h.c2))),(zO (by simp)).trans ((zO (by simp)).trans ((zO (by simp)).trans (h.c3))),(zO (by simp)).trans (World.cell?_setCell_same' _ _ _ (by rw[zO (by simp),h.c4];rfl)),World.cell?_setCell_same' _ _ _ (by rw[zO (by simp),zO (by simp),h.c5];rfl),
  by rw[World.frozen?_setCell,World.frozen?_setCell,World.frozen?_setCell];exact h.f0,by rw[World.frozen?_setCell,World.frozen?_setCell,World.frozen?_setCell];exact h.f1,by rw[World.frozen?_setCell,World.frozen?_setCell,World.frozen?_setCell];exact h.f2,by rw[World.frozen?_setCell,World.frozen?_setCell,World.frozen?_setCell];exact h.f3,by rw[World.frozen?_setCell,World.frozen?_setCell,World.frozen?_setCell];exact h.f4,by rw[World.frozen?_setCell,World.frozen?_setCell,World.frozen?_setCell];exact h.f5⟩
theorem C6.set245 {W:World} {P:Nat} {x0 x1 x2 x3 x4 x5:Value} (h:C6 W P x0 x1 x2 x3 x4 x5) (y u v:Value):C6 (((W.setCell ⟨P,2,.none⟩ y).setCell ⟨P,4,.none⟩ u).setCell ⟨P,5,.none⟩ v) P x0 x1 y x3 u v:=
 ⟨(zO (by simp)).trans ((zO (by simp)).trans ((zO (by simp)).trans (h.c0))),(zO (by simp)).trans ((zO (by simp)).trans ((zO (by simp)).trans (h.c1))),(zO (by simp)).trans ((zO (by simp)).trans (World.cell?_setCell_same' _ _ _ (by rw[h.c2];rfl))),(zO (by simp)).trans ((zO (by simp)).trans ((zO (by simp)).trans (h.c3))),(zO (by simp)).trans (World.cell?_setCell_same' _ _ _ (by rw[zO (by simp),h.c4];rfl)),World.cell?_setCell_same' _ _ _ (by rw[zO (by simp),zO (by simp),h.c5];rfl),
  by rw[World.frozen?_setCell,World.frozen?_setCell,World.frozen?_setCell];exact h.f0,by rw[World.frozen?_setCell,World.frozen?_setCell,World.frozen?_setCell];exact h.f1,by rw[World.frozen?_setCell,World.frozen?_setCell,World.frozen?_setCell];exact h.f2,by rw[World.frozen?_setCell,World.frozen?_setCell,World.frozen?_setCell];exact h.f3,by rw[World.frozen?_setCell,World.frozen?_setCell,World.frozen?_setCell];exact h.f4,by rw[World.frozen?_setCell,World.frozen?_setCell,World.frozen?_setCell];exact h.f5⟩
theorem C6.one3 {W:World} {P:Nat} {x0 x1 x2 x3 x4 x5:Value} (h:C6 W P x0 x1 x2 x3 x4 x5) (y:Value):C6 (W.setCell ⟨P,3,.none⟩ y) P x0 x1 x2 y x4 x5:=
 ⟨(zO (by simp)).trans (h.c0),(zO (by simp)).trans (h.c1),(zO (by simp)).trans (h.c2),World.cell?_setCell_same' _ _ _ (by rw[h.c3];rfl),(zO (by simp)).trans (h.c4),(zO (by simp)).trans (h.c5),
  by rw[World.frozen?_setCell];exact h.f0,by rw[World.frozen?_setCell];exact h.f1,by rw[World.frozen?_setCell];exact h.f2,by rw[World.frozen?_setCell];exact h.f3,by rw[World.frozen?_setCell];exact h.f4,by rw[World.frozen?_setCell];exact h.f5⟩
theorem C6.one5 {W:World} {P:Nat} {x0 x1 x2 x3 x4 x5:Value} (h:C6 W P x0 x1 x2 x3 x4 x5) (y:Value):C6 (W.setCell ⟨P,5,.none⟩ y) P x0 x1 x2 x3 x4 y:=
 ⟨(zO (by simp)).trans (h.c0),(zO (by simp)).trans (h.c1),(zO (by simp)).trans (h.c2),(zO (by simp)).trans (h.c3),(zO (by simp)).trans (h.c4),World.cell?_setCell_same' _ _ _ (by rw[h.c5];rfl),
  by rw[World.frozen?_setCell];exact h.f0,by rw[World.frozen?_setCell];exact h.f1,by rw[World.frozen?_setCell];exact h.f2,by rw[World.frozen?_setCell];exact h.f3,by rw[World.frozen?_setCell];exact h.f4,by rw[World.frozen?_setCell];exact h.f5⟩
theorem C6.off {W:World} {P:Nat} {x0 x1 x2 x3 x4 x5:Value} (h:C6 W P x0 x1 x2 x3 x4 x5) {a:Addr} (ha:a.block≠P) (y:Value):C6 (W.setCell a y) P x0 x1 x2 x3 x4 x5:=by
 have e:(W.setCell a y).heap[P]? = W.heap[P]?:=Below.heap_setCell _ _ _ _ (fun e=>ha e.symm)
 exact⟨(World.cell?_of_block (a:=⟨P,0,.none⟩) e).trans h.c0,(World.cell?_of_block (a:=⟨P,1,.none⟩) e).trans h.c1,(World.cell?_of_block (a:=⟨P,2,.none⟩) e).trans h.c2,(World.cell?_of_block (a:=⟨P,3,.none⟩) e).trans h.c3,(World.cell?_of_block (a:=⟨P,4,.none⟩) e).trans h.c4,(World.cell?_of_block (a:=⟨P,5,.none⟩) e).trans h.c5,
  (World.frozen?_of_block (a:=⟨P,0,.none⟩) e).trans h.f0,(World.frozen?_of_block (a:=⟨P,1,.none⟩) e).trans h.f1,(World.frozen?_of_block (a:=⟨P,2,.none⟩) e).trans h.f2,(World.frozen?_of_block (a:=⟨P,3,.none⟩) e).trans h.f3,(World.frozen?_of_block (a:=⟨P,4,.none⟩) e).trans h.f4,(World.frozen?_of_block (a:=⟨P,5,.none⟩) e).trans h.f5⟩
theorem C6.drew {W:World} {P:Nat} {x0 x1 x2 x3 x4 x5:Value} (h:C6 W P x0 x1 x2 x3 x4 x5):C6 W.drew P x0 x1 x2 x3 x4 x5:=h.below zB.drew
theorem wk_stop0 {N:Nat} {L:List Nat} {B:Nat->Int} {va nd a0 a1 a2 e:Int} (h:ndB N L nd=true):wk N L B va 0 nd a0 a1 a2 e=⟨st nd va 0,a1,a2,0,ent B nd va 0,kd (ent B nd va 0) 0⟩:=if_pos h
theorem wk_stop1 {N:Nat} {L:List Nat} {B:Nat->Int} {va nd a0 a1 a2 e:Int} (h:ndB N L nd=true) (hk:¬ kd (ent B nd va 1) 1=3):wk N L B va 1 nd a0 a1 a2 e=⟨a0,st nd va 1,a2,1,ent B nd va 1,kd (ent B nd va 1) 1⟩:=(if_pos h).trans (if_neg hk)
theorem wk_stop2 {N:Nat} {L:List Nat} {B:Nat->Int} {va nd a0 a1 a2 e:Int} (h:ndB N L nd=true) (hk:¬ kd (ent B nd va 2) 2=3):wk N L B va 2 nd a0 a1 a2 e=⟨a0,a1,st nd va 2,2,ent B nd va 2,kd (ent B nd va 2) 2⟩:=(if_pos h).trans (if_neg hk)
theorem wk_go1 {N:Nat} {L:List Nat} {B:Nat->Int} {va nd a0 a1 a2 e:Int} (h:ndB N L nd=true) (hk:kd (ent B nd va 1) 1=3):wk N L B va 1 nd a0 a1 a2 e=wk N L B va 0 (adE (ent B nd va 1)) a0 (st nd va 1) a2 (ent B nd va 1):=(if_pos h).trans (if_pos hk)
theorem wk_go2 {N:Nat} {L:List Nat} {B:Nat->Int} {va nd a0 a1 a2 e:Int} (h:ndB N L nd=true) (hk:kd (ent B nd va 2) 2=3):wk N L B va 2 nd a0 a1 a2 e=wk N L B va 1 (adE (ent B nd va 2)) a0 a1 (st nd va 2) (ent B nd va 2):=(if_pos h).trans (if_pos hk)
def WR (w:World) (N:Nat) (L:List Nat) (B:Nat->Int) (va:Int) (R:Pt) (v:Value) (W:World):Prop:=∃ (l:Nat) (nd a0 a1 a2 e k:Int),l<=2∧v = .int .u64 nd∧0<=nd∧nd<18446744073709551616∧C6 W (w.heap.size+1+1) (.int .u64 a0) (.int .u64 a1) (.int .u64 a2) (.int .i64 l) (.int .u64 e) (.int .i64 k)∧C6 W (w.heap.size+1) (.int .u64 0) (.int .u64 0) (.int .u64 0) (.int .i64 0) (.int .u64 0) (.int .i64 0)∧Below w.heap.size w W∧wk N L B va l nd a0 a1 a2 e=R
section
variable {w:World} {p b m N:Nat} {B:Nat->Int} {L:List Nat}
theorem look_any (h:Ram w p b m N B L) (root va:Int) (hr:0<=root∧root<18446744073709551616) (hv:0<=va∧va<18446744073709551616):Calls Tryz.prog 104 #[.pointer (some ⟨p,0,.none⟩),.int .u64 root,.int .u64 va,.agg #[]] w fun e w'=>e = .returned (look N L B root va).val∧Below w.heap.size w w':=by
 have HR:Hid (Ram w p b m N B L):=h
 have h0:WR w N L B va (look N L B root va) (.int .u64 root) (((w.alloc (.cells #[] 171)).alloc (.cells #[.int .u64 0,.int .u64 0,.int .u64 0,.int .i64 0,.int .u64 0,.int .i64 0] 169)).alloc (.cells #[.int .u64 0,.int .u64 0,.int .u64 0,.int .i64 2,.int .u64 0,.int .i64 0] 169)):=by
  refine⟨2,root,0,0,0,0,0,by omega,rfl,hr.1,hr.2,?_,?_,below3 _ _ _ _,rfl⟩
  ·have:=C6.new ((w.alloc (.cells #[] 171)).alloc (.cells #[.int .u64 0,.int .u64 0,.int .u64 0,.int .i64 0,.int .u64 0,.int .i64 0] 169)) (.int .u64 0) (.int .u64 0) (.int .u64 0) (.int .i64 2) (.int .u64 0) (.int .i64 0) 169
   rw[World.size_alloc,World.size_alloc] at this
   exact this
  ·have:=C6.new (w.alloc (.cells #[] 171)) (.int .u64 0) (.int .u64 0) (.int .u64 0) (.int .i64 0) (.int .u64 0) (.int .i64 0) 169
   rw[World.size_alloc] at this
   exact this.below (below1 _ _)
 have H0:Hid (WR w N L B va (look N L B root va) (.int .u64 root) _):=h0
 clear h h0
 go_enter Tryz.func104,Tryz.ntmps104
 go_wp2
 go_step3
 go_wp2
 go_step3
 go_wp2
 go_loopw [10] (fun v wr=>WR w N L B va (look N L B root va) v wr) (fun v wr=>match wr.cell? ⟨w.heap.size+1+1,3,.none⟩ with|some (.int _ l)=>l.toNat|_=>0)
 case atStart=>exact H0.out
 case round=>
  obtain⟨l,nd,a0,a1,a2,e,k,hl,rfl,hn0,hn1,C,CR,hb,hw⟩:=hrel
  have HC:Hid (C6 wr (w.heap.size+1+1) (.int .u64 a0) (.int .u64 a1) (.int .u64 a2) (.int .i64 l) (.int .u64 e) (.int .i64 k)):=C
  have HCR0:Hid (C6 wr (w.heap.size+1) (.int .u64 0) (.int .u64 0) (.int .u64 0) (.int .i64 0) (.int .u64 0) (.int .i64 0)):=CR
  have HB:Hid (Below w.heap.size w wr):=hb
  have Hw:Hid (wk N L B va l nd a0 a1 a2 e=look N L B root va):=hw
  have c63:=fun W=>index_any va l hv (by omega) W
  have hix:=ix_b va l
  have w1:IntKind.u64.wrap (ix va l*8)=ix va l*8:=by rw[IntKind.wrap_u64];omega
  have R:=HR.out.below hb
  obtain⟨z0,z1,z2,z3,z4,z5,y0,y1,y2,y3,y4,y5⟩:=C
  clear CR H0
  cases hnd:ndB N L nd
  ·have hfin:look N L B root va=⟨a0,a1,a2,l,e,4⟩:=by
    rw[<-Hw.out]
    cases l<;>simp[wk,hnd]
   have HF:Hid (look N L B root va=⟨a0,a1,a2,l,e,4⟩):=hfin
   have c65:=fun W=>mayBeNode_any nd ⟨hn0,hn1⟩ W
   have hat:0<=IntKind.u64.wrap (nd+ix va l*8)∧IntKind.u64.wrap (nd+ix va l*8)<18446744073709551616:=by rw[IntKind.wrap_u64];omega
   by_cases hal:nd%4096=0∧nd≠2147483648
   ·have w2:IntKind.u64.wrap (nd+ix va l*8)=nd+ix va l*8:=by rw[IntKind.wrap_u64];omega
    have c64:=load_nd_no R nd va l ⟨hn0,hn1⟩ hnd hal.1 hal.2
    clear R hfin hw hb hnd hat
    generalize ix va l=ii at *
    go_upto_region 6 with(first|(go_at_call 151;refine(c63 _).mono ?_;rintro r wr ⟨rfl,rfl⟩)|(go_at_call 152;refine c64.mono ?_;rintro r V1 ⟨rfl,hb1⟩))
    have C1:=HC.out.below hb1
    have HCR1:=HCR0.out.below hb1
    have hbw:=HB.out.trans (hb1.mono HB.out.size)
    have HCL:Hid (C6 (V1.setCell ⟨w.heap.size+1+1,5,.none⟩ (.int .i64 4)) (w.heap.size+1+1) (.int .u64 a0) (.int .u64 a1) (.int .u64 a2) (.int .i64 l) (.int .u64 e) (.int .i64 4)):=C1.one5 _
    have HCR:Hid (C6 (V1.setCell ⟨w.heap.size+1+1,5,.none⟩ (.int .i64 4)) (w.heap.size+1) (.int .u64 0) (.int .u64 0) (.int .u64 0) (.int .i64 0) (.int .u64 0) (.int .i64 0)):=HCR1.off (a:=⟨w.heap.size+1+1,5,.none⟩) (by simp) _
    have HBV:Hid (Below w.heap.size w (V1.setCell ⟨w.heap.size+1+1,5,.none⟩ (.int .i64 4))):=hbw.setCell (p:=⟨w.heap.size+1+1,5,.none⟩) (by show w.heap.size<=w.heap.size+1+1;omega) _
    clear z0 z1 z2 z3 z4 z5 y0 y1 y2 y3 y4 y5 hb1 HCR1 hbw
    obtain⟨z0,z1,z2,z3,z4,z5,y0,y1,y2,y3,y4,y5⟩:=C1
    go_upto_region 12 with fail
    clear z0 z1 z2 z3 z4 z5 y0 y1 y2 y3 y4 y5
    generalize V1.setCell ⟨w.heap.size+1+1,5,.none⟩ (.int .i64 4)=V3 at *
    obtain⟨z0,z1,z2,z3,z4,z5,y0,y1,y2,y3,y4,y5⟩:=id HCL.out
    obtain⟨r0,r1,r2,r3,r4,r5,s0,s1,s2,s3,s4,s5⟩:=id HCR.out
    go_wp2
    have CF:=HCR.out.set (.int .u64 a0) (.int .u64 a1) (.int .u64 a2) (.int .i64 l) (.int .u64 e) (.int .i64 4)
    have BF:=below6 (P:=w.heap.size+1) HBV.out (by omega) (.int .u64 a0) (.int .u64 a1) (.int .u64 a2) (.int .i64 l) (.int .u64 e) (.int .i64 4)
    generalize ((((((V3.setCell ⟨w.heap.size+1,0,.none⟩ (.int .u64 a0)).setCell ⟨w.heap.size+1,1,.none⟩ (.int .u64 a1)).setCell ⟨w.heap.size+1,2,.none⟩ (.int .u64 a2)).setCell ⟨w.heap.size+1,3,.none⟩ (.int .i64 l)).setCell ⟨w.heap.size+1,4,.none⟩ (.int .u64 e)).setCell ⟨w.heap.size+1,5,.none⟩ (.int .i64 4))=VF at *
    obtain⟨f0,f1,f2,f3,f4,f5,_,_,_,_,_,_⟩:=CF
    rw[Exit.noGoto_ret]
    refine bodyPost_ret (v:=.agg #[.int .u64 a0,.int .u64 a1,.int .u64 a2,.int .i64 l,.int .u64 e,.int .i64 4]) (by simp[results,Tryz.results104,go_sem,f0,f1,f2,f3,f4,f5]) rfl ⟨?_,BF⟩
    rw[HF.out]
    rfl
   ·have mb:decide (nd%4096=0∧nd≠2147483648)=false:=by simpa using hal
    rw[mb] at c65
    have c64:=load_any R _ hat
    clear R hfin hw hb hnd hat mb hal
    generalize ix va l=ii at *
    go_upto_region 5 with(first|(go_at_call 151;refine(c63 _).mono ?_;rintro r wr ⟨rfl,rfl⟩)|(go_at_call 152;refine c64.mono ?_;rintro r V1 ⟨⟨x,ok,rfl,hx0,hx1⟩,hb1⟩))
    cases ok
    ·go_upto_region 6 with fail
     have C1:=HC.out.below hb1
     have HCR1:=HCR0.out.below hb1
     have hbw:=HB.out.trans (hb1.mono HB.out.size)
     have HCL:Hid (C6 (V1.setCell ⟨w.heap.size+1+1,5,.none⟩ (.int .i64 4)) (w.heap.size+1+1) (.int .u64 a0) (.int .u64 a1) (.int .u64 a2) (.int .i64 l) (.int .u64 e) (.int .i64 4)):=C1.one5 _
     have HCR:Hid (C6 (V1.setCell ⟨w.heap.size+1+1,5,.none⟩ (.int .i64 4)) (w.heap.size+1) (.int .u64 0) (.int .u64 0) (.int .u64 0) (.int .i64 0) (.int .u64 0) (.int .i64 0)):=HCR1.off (a:=⟨w.heap.size+1+1,5,.none⟩) (by simp) _
     have HBV:Hid (Below w.heap.size w (V1.setCell ⟨w.heap.size+1+1,5,.none⟩ (.int .i64 4))):=hbw.setCell (p:=⟨w.heap.size+1+1,5,.none⟩) (by show w.heap.size<=w.heap.size+1+1;omega) _
     clear z0 z1 z2 z3 z4 z5 y0 y1 y2 y3 y4 y5 hb1 HCR1 hbw
     obtain⟨z0,z1,z2,z3,z4,z5,y0,y1,y2,y3,y4,y5⟩:=C1
     go_upto_region 12 with fail
     clear z0 z1 z2 z3 z4 z5 y0 y1 y2 y3 y4 y5
     generalize V1.setCell ⟨w.heap.size+1+1,5,.none⟩ (.int .i64 4)=V3 at *
     obtain⟨z0,z1,z2,z3,z4,z5,y0,y1,y2,y3,y4,y5⟩:=id HCL.out
     obtain⟨r0,r1,r2,r3,r4,r5,s0,s1,s2,s3,s4,s5⟩:=id HCR.out
     go_wp2
     have CF:=HCR.out.set (.int .u64 a0) (.int .u64 a1) (.int .u64 a2) (.int .i64 l) (.int .u64 e) (.int .i64 4)
     have BF:=below6 (P:=w.heap.size+1) HBV.out (by omega) (.int .u64 a0) (.int .u64 a1) (.int .u64 a2) (.int .i64 l) (.int .u64 e) (.int .i64 4)
     generalize ((((((V3.setCell ⟨w.heap.size+1,0,.none⟩ (.int .u64 a0)).setCell ⟨w.heap.size+1,1,.none⟩ (.int .u64 a1)).setCell ⟨w.heap.size+1,2,.none⟩ (.int .u64 a2)).setCell ⟨w.heap.size+1,3,.none⟩ (.int .i64 l)).setCell ⟨w.heap.size+1,4,.none⟩ (.int .u64 e)).setCell ⟨w.heap.size+1,5,.none⟩ (.int .i64 4))=VF at *
     obtain⟨f0,f1,f2,f3,f4,f5,_,_,_,_,_,_⟩:=CF
     rw[Exit.noGoto_ret]
     refine bodyPost_ret (v:=.agg #[.int .u64 a0,.int .u64 a1,.int .u64 a2,.int .i64 l,.int .u64 e,.int .i64 4]) (by simp[results,Tryz.results104,go_sem,f0,f1,f2,f3,f4,f5]) rfl ⟨?_,BF⟩
     rw[HF.out]
     rfl
    ·go_upto_region 6 with(first|(go_at_call 153;refine(c65 _).mono ?_;rintro r V1 ⟨rfl,rfl⟩))
     have C1:=HC.out.below hb1
     have HCR1:=HCR0.out.below hb1
     have hbw:=HB.out.trans (hb1.mono HB.out.size)
     have HCL:Hid (C6 (V1.setCell ⟨w.heap.size+1+1,5,.none⟩ (.int .i64 4)) (w.heap.size+1+1) (.int .u64 a0) (.int .u64 a1) (.int .u64 a2) (.int .i64 l) (.int .u64 e) (.int .i64 4)):=C1.one5 _
     have HCR:Hid (C6 (V1.setCell ⟨w.heap.size+1+1,5,.none⟩ (.int .i64 4)) (w.heap.size+1) (.int .u64 0) (.int .u64 0) (.int .u64 0) (.int .i64 0) (.int .u64 0) (.int .i64 0)):=HCR1.off (a:=⟨w.heap.size+1+1,5,.none⟩) (by simp) _
     have HBV:Hid (Below w.heap.size w (V1.setCell ⟨w.heap.size+1+1,5,.none⟩ (.int .i64 4))):=hbw.setCell (p:=⟨w.heap.size+1+1,5,.none⟩) (by show w.heap.size<=w.heap.size+1+1;omega) _
     clear z0 z1 z2 z3 z4 z5 y0 y1 y2 y3 y4 y5 hb1 HCR1 hbw
     obtain⟨z0,z1,z2,z3,z4,z5,y0,y1,y2,y3,y4,y5⟩:=C1
     go_upto_region 12 with fail
     clear z0 z1 z2 z3 z4 z5 y0 y1 y2 y3 y4 y5
     generalize V1.setCell ⟨w.heap.size+1+1,5,.none⟩ (.int .i64 4)=V3 at *
     obtain⟨z0,z1,z2,z3,z4,z5,y0,y1,y2,y3,y4,y5⟩:=id HCL.out
     obtain⟨r0,r1,r2,r3,r4,r5,s0,s1,s2,s3,s4,s5⟩:=id HCR.out
     go_wp2
     have CF:=HCR.out.set (.int .u64 a0) (.int .u64 a1) (.int .u64 a2) (.int .i64 l) (.int .u64 e) (.int .i64 4)
     have BF:=below6 (P:=w.heap.size+1) HBV.out (by omega) (.int .u64 a0) (.int .u64 a1) (.int .u64 a2) (.int .i64 l) (.int .u64 e) (.int .i64 4)
     generalize ((((((V3.setCell ⟨w.heap.size+1,0,.none⟩ (.int .u64 a0)).setCell ⟨w.heap.size+1,1,.none⟩ (.int .u64 a1)).setCell ⟨w.heap.size+1,2,.none⟩ (.int .u64 a2)).setCell ⟨w.heap.size+1,3,.none⟩ (.int .i64 l)).setCell ⟨w.heap.size+1,4,.none⟩ (.int .u64 e)).setCell ⟨w.heap.size+1,5,.none⟩ (.int .i64 4))=VF at *
     obtain⟨f0,f1,f2,f3,f4,f5,_,_,_,_,_,_⟩:=CF
     rw[Exit.noGoto_ret]
     refine bodyPost_ret (v:=.agg #[.int .u64 a0,.int .u64 a1,.int .u64 a2,.int .i64 l,.int .u64 e,.int .i64 4]) (by simp[results,Tryz.results104,go_sem,f0,f1,f2,f3,f4,f5]) rfl ⟨?_,BF⟩
     rw[HF.out]
     rfl
  ·obtain⟨q1,q2,q3,q4⟩:=ndB_spec hnd
   have n2:=HR.out.mem.n2
   have w2:IntKind.u64.wrap (nd+ix va l*8)=nd+ix va l*8:=by rw[IntKind.wrap_u64];omega
   have c64:=load_nd R nd va l hnd
   have c65:=fun W=>mayBeNode_any nd ⟨hn0,hn1⟩ W
   have mb:decide (nd%4096=0∧nd≠2147483648)=true:=by simp;omega
   rw[mb] at c65
   have he:=ent_b HR.out.mem.bb nd va l
   have c66:=fun W=>kind_any (ent B nd va l) l he (by omega) W
   have c46:=fun W=>address_any (ent B nd va l) W he
   have Hnd:Hid (ndB N L nd=true):=hnd
   clear mb q1 q2 q3 q4 hw hb R hnd
   have ad:=adE_b (ent B nd va l)
   generalize hx:ent B nd va l=x at *
   have Hx:Hid (ent B nd va l=x):=hx
   generalize hi:ix va l=ii at *
   have Hi:Hid (ix va l=ii):=hi
   generalize hkk:kd x l=kx at *
   have Hk:Hid (kd x l=kx):=hkk
   generalize hay:adE x=ax at *
   have Ha:Hid (adE x=ax):=hay
   clear hx hi hkk hay
   have hl3:l=0∨l=1∨l=2:=by omega
   rcases hl3 with rfl|rfl|rfl
   ·go_upto_region 8 with(first|(go_at_call 151;refine(c63 _).mono ?_;rintro r wr ⟨rfl,rfl⟩)|(go_at_call 152;refine c64.mono ?_;rintro r V1 ⟨rfl,hb1⟩;have C1:=HC.out.below hb1;clear z0 z1 z2 z3 z4 z5 y0 y1 y2 y3 y4 y5 c64;obtain⟨z0,z1,z2,z3,z4,z5,y0,y1,y2,y3,y4,y5⟩:=C1;have HB1:Hid (Below wr.heap.size wr V1):=hb1;clear hb1)|(go_at_call 153;refine(c65 _).mono ?_;rintro r V1 ⟨rfl,rfl⟩)|(go_at_call 242;refine(meet_any _ _ _ _).mono ?_;rintro r w0 ⟨rfl,rfl⟩))
    have bV:=below1 V1 (.cells #[] 171)
    have bW:=HB1.out.trans (bV.mono HB1.out.size)
    have C2:C6 (V1.alloc (.cells #[] 171)) (w.heap.size+1+1) (.int .u64 a0) (.int .u64 a1) (.int .u64 a2) (.int .i64 0) (.int .u64 e) (.int .i64 k):=C6.below ⟨z0,z1,z2,z3,z4,z5,y0,y1,y2,y3,y4,y5⟩ bV
    have HCR2:Hid (C6 (V1.alloc (.cells #[] 171)) (w.heap.size+1) (.int .u64 0) (.int .u64 0) (.int .u64 0) (.int .i64 0) (.int .u64 0) (.int .i64 0)):=HCR0.out.below bW
    have HB2:Hid (Below w.heap.size w (V1.alloc (.cells #[] 171))):=HB.out.trans (bW.mono HB.out.size)
    clear bV bW HB1 z0 z1 z2 z3 z4 z5 y0 y1 y2 y3 y4 y5
    generalize V1.alloc (.cells #[] 171)=V2 at *
    have HC2:Hid (C6 V2 (w.heap.size+1+1) (.int .u64 a0) (.int .u64 a1) (.int .u64 a2) (.int .i64 0) (.int .u64 e) (.int .i64 k)):=C2
    obtain⟨z0,z1,z2,z3,z4,z5,y0,y1,y2,y3,y4,y5⟩:=C2
    have t1:(V2.setCell ⟨w.heap.size+1+1,0,.none⟩ (.int .u64 (nd+ii*8))).drew.cell? ⟨w.heap.size+1+1,3,.none⟩=some (.int .i64 0):=(zO (by simp)).trans z3
    have t2:((V2.setCell ⟨w.heap.size+1+1,0,.none⟩ (.int .u64 (nd+ii*8))).setCell ⟨w.heap.size+1+1,4,.none⟩ (.int .u64 x)).drew.cell? ⟨w.heap.size+1+1,3,.none⟩=some (.int .i64 0):=(zO (by simp)).trans t1
    have t3:(((V2.setCell ⟨w.heap.size+1+1,0,.none⟩ (.int .u64 (nd+ii*8))).setCell ⟨w.heap.size+1+1,4,.none⟩ (.int .u64 x)).setCell ⟨w.heap.size+1+1,5,.none⟩ (.int .i64 kx)).drew.cell? ⟨w.heap.size+1+1,3,.none⟩=some (.int .i64 0):=(zO (by simp)).trans t2
    go_region_held3 (fun W=>W.cell? ⟨w.heap.size+1+1,3,.none⟩=some (.int .i64 0)) (first|assumption) (first|(go_at_call 154;refine(c66 _).mono ?_;rintro r V2 ⟨rfl,rfl⟩))
    have C3:C6 (((V2.setCell ⟨w.heap.size+1+1,0,.none⟩ (.int .u64 (nd+ii*8))).setCell ⟨w.heap.size+1+1,4,.none⟩ (.int .u64 x)).setCell ⟨w.heap.size+1+1,5,.none⟩ (.int .i64 kx)).drew (w.heap.size+1+1) (.int .u64 (nd+ii*8)) (.int .u64 a1) (.int .u64 a2) (.int .i64 0) (.int .u64 x) (.int .i64 kx):=(HC2.out.set045 _ _ _).drew
    have HCR:Hid (C6 (((V2.setCell ⟨w.heap.size+1+1,0,.none⟩ (.int .u64 (nd+ii*8))).setCell ⟨w.heap.size+1+1,4,.none⟩ (.int .u64 x)).setCell ⟨w.heap.size+1+1,5,.none⟩ (.int .i64 kx)).drew (w.heap.size+1) (.int .u64 0) (.int .u64 0) (.int .u64 0) (.int .i64 0) (.int .u64 0) (.int .i64 0)):=(((HCR2.out.off (a:=⟨w.heap.size+1+1,0,.none⟩) (by simp) _).off (a:=⟨w.heap.size+1+1,4,.none⟩) (by simp) _).off (a:=⟨w.heap.size+1+1,5,.none⟩) (by simp) _).drew
    have HBV:Hid (Below w.heap.size w (((V2.setCell ⟨w.heap.size+1+1,0,.none⟩ (.int .u64 (nd+ii*8))).setCell ⟨w.heap.size+1+1,4,.none⟩ (.int .u64 x)).setCell ⟨w.heap.size+1+1,5,.none⟩ (.int .i64 kx)).drew):=(((HB2.out.setCell (p:=⟨w.heap.size+1+1,0,.none⟩) (by show w.heap.size<=w.heap.size+1+1;omega) _).setCell (p:=⟨w.heap.size+1+1,4,.none⟩) (by show w.heap.size<=w.heap.size+1+1;omega) _).setCell (p:=⟨w.heap.size+1+1,5,.none⟩) (by show w.heap.size<=w.heap.size+1+1;omega) _).drew
    clear t1 t2 t3 z0 z1 z2 z3 z4 z5 y0 y1 y2 y3 y4 y5 HC2 HCR2 HB2
    generalize (((V2.setCell ⟨w.heap.size+1+1,0,.none⟩ (.int .u64 (nd+ii*8))).setCell ⟨w.heap.size+1+1,4,.none⟩ (.int .u64 x)).setCell ⟨w.heap.size+1+1,5,.none⟩ (.int .i64 kx)).drew=V3 at *
    have HC3:Hid (C6 V3 (w.heap.size+1+1) (.int .u64 (nd+ii*8)) (.int .u64 a1) (.int .u64 a2) (.int .i64 0) (.int .u64 x) (.int .i64 kx)):=C3
    obtain⟨z0,z1,z2,z3,z4,z5,y0,y1,y2,y3,y4,y5⟩:=C3
    have hk3:¬ kx=3:=by rw[<-Hk.out];exact kd0 x
    obtain⟨r0,r1,r2,r3,r4,r5,s0,s1,s2,s3,s4,s5⟩:=id HCR.out
    go_wp2
    have CF:=HCR.out.set (.int .u64 (nd+ii*8)) (.int .u64 a1) (.int .u64 a2) (.int .i64 0) (.int .u64 x) (.int .i64 kx)
    have BF:=below6 (P:=w.heap.size+1) HBV.out (by omega) (.int .u64 (nd+ii*8)) (.int .u64 a1) (.int .u64 a2) (.int .i64 0) (.int .u64 x) (.int .i64 kx)
    generalize ((((((V3.setCell ⟨w.heap.size+1,0,.none⟩ (.int .u64 (nd+ii*8))).setCell ⟨w.heap.size+1,1,.none⟩ (.int .u64 a1)).setCell ⟨w.heap.size+1,2,.none⟩ (.int .u64 a2)).setCell ⟨w.heap.size+1,3,.none⟩ (.int .i64 0)).setCell ⟨w.heap.size+1,4,.none⟩ (.int .u64 x)).setCell ⟨w.heap.size+1,5,.none⟩ (.int .i64 kx))=VF at *
    obtain⟨f0,f1,f2,f3,f4,f5,_,_,_,_,_,_⟩:=CF
    rw[Exit.noGoto_ret]
    refine bodyPost_ret (v:=.agg #[.int .u64 (nd+ii*8),.int .u64 a1,.int .u64 a2,.int .i64 0,.int .u64 x,.int .i64 kx]) (by simp[results,Tryz.results104,go_sem,f0,f1,f2,f3,f4,f5]) rfl ⟨?_,BF⟩
    have e1:ent B nd va 0=x:=Hx.out
    have e2:ix va 0=ii:=Hi.out
    have e3:kd x 0=kx:=Hk.out
    rw[<-Hw.out,wk_stop0 Hnd.out]
    simp only[Pt.val,e1,e3,st,e2]
   ·go_upto_region 8 with(first|(go_at_call 151;refine(c63 _).mono ?_;rintro r wr ⟨rfl,rfl⟩)|(go_at_call 152;refine c64.mono ?_;rintro r V1 ⟨rfl,hb1⟩;have C1:=HC.out.below hb1;clear z0 z1 z2 z3 z4 z5 y0 y1 y2 y3 y4 y5 c64;obtain⟨z0,z1,z2,z3,z4,z5,y0,y1,y2,y3,y4,y5⟩:=C1;have HB1:Hid (Below wr.heap.size wr V1):=hb1;clear hb1)|(go_at_call 153;refine(c65 _).mono ?_;rintro r V1 ⟨rfl,rfl⟩)|(go_at_call 242;refine(meet_any _ _ _ _).mono ?_;rintro r w0 ⟨rfl,rfl⟩))
    have bV:=below1 V1 (.cells #[] 171)
    have bW:=HB1.out.trans (bV.mono HB1.out.size)
    have C2:C6 (V1.alloc (.cells #[] 171)) (w.heap.size+1+1) (.int .u64 a0) (.int .u64 a1) (.int .u64 a2) (.int .i64 1) (.int .u64 e) (.int .i64 k):=C6.below ⟨z0,z1,z2,z3,z4,z5,y0,y1,y2,y3,y4,y5⟩ bV
    have HCR2:Hid (C6 (V1.alloc (.cells #[] 171)) (w.heap.size+1) (.int .u64 0) (.int .u64 0) (.int .u64 0) (.int .i64 0) (.int .u64 0) (.int .i64 0)):=HCR0.out.below bW
    have HB2:Hid (Below w.heap.size w (V1.alloc (.cells #[] 171))):=HB.out.trans (bW.mono HB.out.size)
    clear bV bW HB1 z0 z1 z2 z3 z4 z5 y0 y1 y2 y3 y4 y5
    generalize V1.alloc (.cells #[] 171)=V2 at *
    have HC2:Hid (C6 V2 (w.heap.size+1+1) (.int .u64 a0) (.int .u64 a1) (.int .u64 a2) (.int .i64 1) (.int .u64 e) (.int .i64 k)):=C2
    obtain⟨z0,z1,z2,z3,z4,z5,y0,y1,y2,y3,y4,y5⟩:=C2
    have t1:(V2.setCell ⟨w.heap.size+1+1,1,.none⟩ (.int .u64 (nd+ii*8))).drew.cell? ⟨w.heap.size+1+1,3,.none⟩=some (.int .i64 1):=(zO (by simp)).trans z3
    have t2:((V2.setCell ⟨w.heap.size+1+1,1,.none⟩ (.int .u64 (nd+ii*8))).setCell ⟨w.heap.size+1+1,4,.none⟩ (.int .u64 x)).drew.cell? ⟨w.heap.size+1+1,3,.none⟩=some (.int .i64 1):=(zO (by simp)).trans t1
    have t3:(((V2.setCell ⟨w.heap.size+1+1,1,.none⟩ (.int .u64 (nd+ii*8))).setCell ⟨w.heap.size+1+1,4,.none⟩ (.int .u64 x)).setCell ⟨w.heap.size+1+1,5,.none⟩ (.int .i64 kx)).drew.cell? ⟨w.heap.size+1+1,3,.none⟩=some (.int .i64 1):=(zO (by simp)).trans t2
    go_region_held3 (fun W=>W.cell? ⟨w.heap.size+1+1,3,.none⟩=some (.int .i64 1)) (first|assumption) (first|(go_at_call 154;refine(c66 _).mono ?_;rintro r V2 ⟨rfl,rfl⟩))
    have C3:C6 (((V2.setCell ⟨w.heap.size+1+1,1,.none⟩ (.int .u64 (nd+ii*8))).setCell ⟨w.heap.size+1+1,4,.none⟩ (.int .u64 x)).setCell ⟨w.heap.size+1+1,5,.none⟩ (.int .i64 kx)).drew (w.heap.size+1+1) (.int .u64 a0) (.int .u64 (nd+ii*8)) (.int .u64 a2) (.int .i64 1) (.int .u64 x) (.int .i64 kx):=(HC2.out.set145 _ _ _).drew
    have HCR:Hid (C6 (((V2.setCell ⟨w.heap.size+1+1,1,.none⟩ (.int .u64 (nd+ii*8))).setCell ⟨w.heap.size+1+1,4,.none⟩ (.int .u64 x)).setCell ⟨w.heap.size+1+1,5,.none⟩ (.int .i64 kx)).drew (w.heap.size+1) (.int .u64 0) (.int .u64 0) (.int .u64 0) (.int .i64 0) (.int .u64 0) (.int .i64 0)):=(((HCR2.out.off (a:=⟨w.heap.size+1+1,1,.none⟩) (by simp) _).off (a:=⟨w.heap.size+1+1,4,.none⟩) (by simp) _).off (a:=⟨w.heap.size+1+1,5,.none⟩) (by simp) _).drew
    have HBV:Hid (Below w.heap.size w (((V2.setCell ⟨w.heap.size+1+1,1,.none⟩ (.int .u64 (nd+ii*8))).setCell ⟨w.heap.size+1+1,4,.none⟩ (.int .u64 x)).setCell ⟨w.heap.size+1+1,5,.none⟩ (.int .i64 kx)).drew):=(((HB2.out.setCell (p:=⟨w.heap.size+1+1,1,.none⟩) (by show w.heap.size<=w.heap.size+1+1;omega) _).setCell (p:=⟨w.heap.size+1+1,4,.none⟩) (by show w.heap.size<=w.heap.size+1+1;omega) _).setCell (p:=⟨w.heap.size+1+1,5,.none⟩) (by show w.heap.size<=w.heap.size+1+1;omega) _).drew
    clear t1 t2 t3 z0 z1 z2 z3 z4 z5 y0 y1 y2 y3 y4 y5 HC2 HCR2 HB2
    generalize (((V2.setCell ⟨w.heap.size+1+1,1,.none⟩ (.int .u64 (nd+ii*8))).setCell ⟨w.heap.size+1+1,4,.none⟩ (.int .u64 x)).setCell ⟨w.heap.size+1+1,5,.none⟩ (.int .i64 kx)).drew=V3 at *
    have HC3:Hid (C6 V3 (w.heap.size+1+1) (.int .u64 a0) (.int .u64 (nd+ii*8)) (.int .u64 a2) (.int .i64 1) (.int .u64 x) (.int .i64 kx)):=C3
    obtain⟨z0,z1,z2,z3,z4,z5,y0,y1,y2,y3,y4,y5⟩:=C3
    by_cases hk3:kx=3
    ·subst hk3
     have e1:ent B nd va 1=x:=Hx.out
     have e2:ix va 1=ii:=Hi.out
     have e3:kd x 1=3:=Hk.out
     have e4:adE x=ax:=Ha.out
     have hw2:=Hw.out
     rw[wk_go1 Hnd.out (by rw[e1,e3]),e1,e4,st,e2] at hw2
     have HE:Hid (wk N L B va 0 ax a0 (nd+ii*8) a2 x=look N L B root va):=hw2
     have C9:=HC3.out.one3 (.int .i64 0)
     have HCR9:=HCR.out.off (a:=⟨w.heap.size+1+1,3,.none⟩) (by simp) (.int .i64 0)
     have HB9:=HBV.out.setCell (p:=⟨w.heap.size+1+1,3,.none⟩) (by show w.heap.size<=w.heap.size+1+1;omega) (.int .i64 0)
     have H9:Hid (WR w N L B va (look N L B root va) (.int .u64 ax) (V3.setCell ⟨w.heap.size+1+1,3,.none⟩ (.int .i64 0))∧(V3.setCell ⟨w.heap.size+1+1,3,.none⟩ (.int .i64 0)).cell? ⟨w.heap.size+1+1,3,.none⟩=some (.int .i64 0)∧wr.cell? ⟨w.heap.size+1+1,3,.none⟩=some (.int .i64 1)):=⟨⟨0,ax,a0,nd+ii*8,a2,x,3,by omega,rfl,ad.1,ad.2,C9,HCR9,HB9,hw2⟩,C9.c3,HC.out.c3⟩
     clear e1 e2 e3 e4 hw2 C9 HCR9 HB9
     go_wp2_with (first|(go_at_call 56;refine(c46 _).mono ?_;rintro r V3 ⟨rfl,rfl⟩)|fail)
     refine⟨H9.out.1,?_⟩
     rw[H9.out.2.1,H9.out.2.2]
     simp
    ·skip
     obtain⟨r0,r1,r2,r3,r4,r5,s0,s1,s2,s3,s4,s5⟩:=id HCR.out
     go_wp2
     have CF:=HCR.out.set (.int .u64 a0) (.int .u64 (nd+ii*8)) (.int .u64 a2) (.int .i64 1) (.int .u64 x) (.int .i64 kx)
     have BF:=below6 (P:=w.heap.size+1) HBV.out (by omega) (.int .u64 a0) (.int .u64 (nd+ii*8)) (.int .u64 a2) (.int .i64 1) (.int .u64 x) (.int .i64 kx)
     generalize ((((((V3.setCell ⟨w.heap.size+1,0,.none⟩ (.int .u64 a0)).setCell ⟨w.heap.size+1,1,.none⟩ (.int .u64 (nd+ii*8))).setCell ⟨w.heap.size+1,2,.none⟩ (.int .u64 a2)).setCell ⟨w.heap.size+1,3,.none⟩ (.int .i64 1)).setCell ⟨w.heap.size+1,4,.none⟩ (.int .u64 x)).setCell ⟨w.heap.size+1,5,.none⟩ (.int .i64 kx))=VF at *
     obtain⟨f0,f1,f2,f3,f4,f5,_,_,_,_,_,_⟩:=CF
     rw[Exit.noGoto_ret]
     refine bodyPost_ret (v:=.agg #[.int .u64 a0,.int .u64 (nd+ii*8),.int .u64 a2,.int .i64 1,.int .u64 x,.int .i64 kx]) (by simp[results,Tryz.results104,go_sem,f0,f1,f2,f3,f4,f5]) rfl ⟨?_,BF⟩
     have e1:ent B nd va 1=x:=Hx.out
     have e2:ix va 1=ii:=Hi.out
     have e3:kd x 1=kx:=Hk.out
     rw[<-Hw.out,wk_stop1 Hnd.out (by rw[e1,e3];exact hk3)]
     simp only[Pt.val,e1,e3,st,e2]
   ·go_upto_region 8 with(first|(go_at_call 151;refine(c63 _).mono ?_;rintro r wr ⟨rfl,rfl⟩)|(go_at_call 152;refine c64.mono ?_;rintro r V1 ⟨rfl,hb1⟩;have C1:=HC.out.below hb1;clear z0 z1 z2 z3 z4 z5 y0 y1 y2 y3 y4 y5 c64;obtain⟨z0,z1,z2,z3,z4,z5,y0,y1,y2,y3,y4,y5⟩:=C1;have HB1:Hid (Below wr.heap.size wr V1):=hb1;clear hb1)|(go_at_call 153;refine(c65 _).mono ?_;rintro r V1 ⟨rfl,rfl⟩)|(go_at_call 242;refine(meet_any _ _ _ _).mono ?_;rintro r w0 ⟨rfl,rfl⟩))
    have bV:=below1 V1 (.cells #[] 171)
    have bW:=HB1.out.trans (bV.mono HB1.out.size)
    have C2:C6 (V1.alloc (.cells #[] 171)) (w.heap.size+1+1) (.int .u64 a0) (.int .u64 a1) (.int .u64 a2) (.int .i64 2) (.int .u64 e) (.int .i64 k):=C6.below ⟨z0,z1,z2,z3,z4,z5,y0,y1,y2,y3,y4,y5⟩ bV
    have HCR2:Hid (C6 (V1.alloc (.cells #[] 171)) (w.heap.size+1) (.int .u64 0) (.int .u64 0) (.int .u64 0) (.int .i64 0) (.int .u64 0) (.int .i64 0)):=HCR0.out.below bW
    have HB2:Hid (Below w.heap.size w (V1.alloc (.cells #[] 171))):=HB.out.trans (bW.mono HB.out.size)
    clear bV bW HB1 z0 z1 z2 z3 z4 z5 y0 y1 y2 y3 y4 y5
    generalize V1.alloc (.cells #[] 171)=V2 at *
    have HC2:Hid (C6 V2 (w.heap.size+1+1) (.int .u64 a0) (.int .u64 a1) (.int .u64 a2) (.int .i64 2) (.int .u64 e) (.int .i64 k)):=C2
    obtain⟨z0,z1,z2,z3,z4,z5,y0,y1,y2,y3,y4,y5⟩:=C2
    have t1:(V2.setCell ⟨w.heap.size+1+1,2,.none⟩ (.int .u64 (nd+ii*8))).drew.cell? ⟨w.heap.size+1+1,3,.none⟩=some (.int .i64 2):=(zO (by simp)).trans z3
    have t2:((V2.setCell ⟨w.heap.size+1+1,2,.none⟩ (.int .u64 (nd+ii*8))).setCell ⟨w.heap.size+1+1,4,.none⟩ (.int .u64 x)).drew.cell? ⟨w.heap.size+1+1,3,.none⟩=some (.int .i64 2):=(zO (by simp)).trans t1
    have t3:(((V2.setCell ⟨w.heap.size+1+1,2,.none⟩ (.int .u64 (nd+ii*8))).setCell ⟨w.heap.size+1+1,4,.none⟩ (.int .u64 x)).setCell ⟨w.heap.size+1+1,5,.none⟩ (.int .i64 kx)).drew.cell? ⟨w.heap.size+1+1,3,.none⟩=some (.int .i64 2):=(zO (by simp)).trans t2
    go_region_held3 (fun W=>W.cell? ⟨w.heap.size+1+1,3,.none⟩=some (.int .i64 2)) (first|assumption) (first|(go_at_call 154;refine(c66 _).mono ?_;rintro r V2 ⟨rfl,rfl⟩))
    have C3:C6 (((V2.setCell ⟨w.heap.size+1+1,2,.none⟩ (.int .u64 (nd+ii*8))).setCell ⟨w.heap.size+1+1,4,.none⟩ (.int .u64 x)).setCell ⟨w.heap.size+1+1,5,.none⟩ (.int .i64 kx)).drew (w.heap.size+1+1) (.int .u64 a0) (.int .u64 a1) (.int .u64 (nd+ii*8)) (.int .i64 2) (.int .u64 x) (.int .i64 kx):=(HC2.out.set245 _ _ _).drew
    have HCR:Hid (C6 (((V2.setCell ⟨w.heap.size+1+1,2,.none⟩ (.int .u64 (nd+ii*8))).setCell ⟨w.heap.size+1+1,4,.none⟩ (.int .u64 x)).setCell ⟨w.heap.size+1+1,5,.none⟩ (.int .i64 kx)).drew (w.heap.size+1) (.int .u64 0) (.int .u64 0) (.int .u64 0) (.int .i64 0) (.int .u64 0) (.int .i64 0)):=(((HCR2.out.off (a:=⟨w.heap.size+1+1,2,.none⟩) (by simp) _).off (a:=⟨w.heap.size+1+1,4,.none⟩) (by simp) _).off (a:=⟨w.heap.size+1+1,5,.none⟩) (by simp) _).drew
    have HBV:Hid (Below w.heap.size w (((V2.setCell ⟨w.heap.size+1+1,2,.none⟩ (.int .u64 (nd+ii*8))).setCell ⟨w.heap.size+1+1,4,.none⟩ (.int .u64 x)).setCell ⟨w.heap.size+1+1,5,.none⟩ (.int .i64 kx)).drew):=(((HB2.out.setCell (p:=⟨w.heap.size+1+1,2,.none⟩) (by show w.heap.size<=w.heap.size+1+1;omega) _).setCell (p:=⟨w.heap.size+1+1,4,.none⟩) (by show w.heap.size<=w.heap.size+1+1;omega) _).setCell (p:=⟨w.heap.size+1+1,5,.none⟩) (by show w.heap.size<=w.heap.size+1+1;omega) _).drew
    clear t1 t2 t3 z0 z1 z2 z3 z4 z5 y0 y1 y2 y3 y4 y5 HC2 HCR2 HB2
    generalize (((V2.setCell ⟨w.heap.size+1+1,2,.none⟩ (.int .u64 (nd+ii*8))).setCell ⟨w.heap.size+1+1,4,.none⟩ (.int .u64 x)).setCell ⟨w.heap.size+1+1,5,.none⟩ (.int .i64 kx)).drew=V3 at *
    have HC3:Hid (C6 V3 (w.heap.size+1+1) (.int .u64 a0) (.int .u64 a1) (.int .u64 (nd+ii*8)) (.int .i64 2) (.int .u64 x) (.int .i64 kx)):=C3
    obtain⟨z0,z1,z2,z3,z4,z5,y0,y1,y2,y3,y4,y5⟩:=C3
    by_cases hk3:kx=3
    ·subst hk3
     have e1:ent B nd va 2=x:=Hx.out
     have e2:ix va 2=ii:=Hi.out
     have e3:kd x 2=3:=Hk.out
     have e4:adE x=ax:=Ha.out
     have hw2:=Hw.out
     rw[wk_go2 Hnd.out (by rw[e1,e3]),e1,e4,st,e2] at hw2
     have HE:Hid (wk N L B va 1 ax a0 a1 (nd+ii*8) x=look N L B root va):=hw2
     have C9:=HC3.out.one3 (.int .i64 1)
     have HCR9:=HCR.out.off (a:=⟨w.heap.size+1+1,3,.none⟩) (by simp) (.int .i64 1)
     have HB9:=HBV.out.setCell (p:=⟨w.heap.size+1+1,3,.none⟩) (by show w.heap.size<=w.heap.size+1+1;omega) (.int .i64 1)
     have H9:Hid (WR w N L B va (look N L B root va) (.int .u64 ax) (V3.setCell ⟨w.heap.size+1+1,3,.none⟩ (.int .i64 1))∧(V3.setCell ⟨w.heap.size+1+1,3,.none⟩ (.int .i64 1)).cell? ⟨w.heap.size+1+1,3,.none⟩=some (.int .i64 1)∧wr.cell? ⟨w.heap.size+1+1,3,.none⟩=some (.int .i64 2)):=⟨⟨1,ax,a0,a1,nd+ii*8,x,3,by omega,rfl,ad.1,ad.2,C9,HCR9,HB9,hw2⟩,C9.c3,HC.out.c3⟩
     clear e1 e2 e3 e4 hw2 C9 HCR9 HB9
     go_wp2_with (first|(go_at_call 56;refine(c46 _).mono ?_;rintro r V3 ⟨rfl,rfl⟩)|fail)
     refine⟨H9.out.1,?_⟩
     rw[H9.out.2.1,H9.out.2.2]
     simp
    ·skip
     obtain⟨r0,r1,r2,r3,r4,r5,s0,s1,s2,s3,s4,s5⟩:=id HCR.out
     go_wp2
     have CF:=HCR.out.set (.int .u64 a0) (.int .u64 a1) (.int .u64 (nd+ii*8)) (.int .i64 2) (.int .u64 x) (.int .i64 kx)
     have BF:=below6 (P:=w.heap.size+1) HBV.out (by omega) (.int .u64 a0) (.int .u64 a1) (.int .u64 (nd+ii*8)) (.int .i64 2) (.int .u64 x) (.int .i64 kx)
     generalize ((((((V3.setCell ⟨w.heap.size+1,0,.none⟩ (.int .u64 a0)).setCell ⟨w.heap.size+1,1,.none⟩ (.int .u64 a1)).setCell ⟨w.heap.size+1,2,.none⟩ (.int .u64 (nd+ii*8))).setCell ⟨w.heap.size+1,3,.none⟩ (.int .i64 2)).setCell ⟨w.heap.size+1,4,.none⟩ (.int .u64 x)).setCell ⟨w.heap.size+1,5,.none⟩ (.int .i64 kx))=VF at *
     obtain⟨f0,f1,f2,f3,f4,f5,_,_,_,_,_,_⟩:=CF
     rw[Exit.noGoto_ret]
     refine bodyPost_ret (v:=.agg #[.int .u64 a0,.int .u64 a1,.int .u64 (nd+ii*8),.int .i64 2,.int .u64 x,.int .i64 kx]) (by simp[results,Tryz.results104,go_sem,f0,f1,f2,f3,f4,f5]) rfl ⟨?_,BF⟩
     have e1:ent B nd va 2=x:=Hx.out
     have e2:ix va 2=ii:=Hi.out
     have e3:kd x 2=kx:=Hk.out
     rw[<-Hw.out,wk_stop2 Hnd.out (by rw[e1,e3];exact hk3)]
     simp only[Pt.val,e1,e3,st,e2]
end
end Rm
end Go.Proofs.YtabnipbdbnmmpaaGreatDoor
