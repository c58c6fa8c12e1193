import Derived.Test.YtabnipbdbnmmpaaGreatDoorLd01
import Derived.Test.YtabnipbdbnmmpaaGreatDoorLd25
import Derived.Deep.Strs
import Derived.Test.YtabnipbdbnmmpaaGreatDoorTie
import Derived.Test.YtabnipbdbnmmpaaGreatDoorCards
import Derived.ChangeOld
import Derived.Below
import Derived.Carry
import Derived.ProofKit
import Derived.OpenShut
import Derived.LaidMore
import Derived.SevenTiedAt
import Derived.Stop.Joined
import Derived.Lib.SmallJoins
import Derived.Lib.LaidTab
import Derived.Deep.Slices
set_option linter.unusedVariables false
set_option linter.unusedSimpArgs false
set_option maxHeartbeats 8000000
namespace Go.Proofs.YtabnipbdbnmmpaaGreatDoor
section
open Go.ChangeShapes Go.WideShapes Go.ChangeAt Go.RowKit Go.Joins
theorem cells66:Tryz.prog.cellsOf 204=3:=by kernel_rfl
theorem cells3:Tryz.prog.cellsOf 3=1:=by kernel_rfl
theorem cells24:Tryz.prog.cellsOf 23=1:=by kernel_rfl
theorem cells5:Tryz.prog.cellsOf 5=1:=by kernel_rfl
theorem tab3 {w:World} {fuel t m:Nat} {cs:List Value} {d:DataW Unit} {p:List MemPlace} (ht:Tryz.prog.underlying t=some (.array m 204)) (h:DataW.trod (fun _=>()) Tryz.prog w 0 (fun _=>true) false fuel t cs=some (d,p)) :
  ∃ A B C:Nat->Int,d = .agg ((List.range m).map fun i=>.agg [.lit (.int .i64 (A i)),.lit (.int .i64 (B i)),.lit (.int .u64 (C i))])∧∀ i,i<m->cs[i*3]? = some (.int .i64 (A i))∧cs[i*3+1]? = some (.int .i64 (B i))∧cs[i*3+2]? = some (.int .u64 (C i)):=by
 obtain⟨xs,k,_,hx,_,hl,hf⟩:=DataW.trod_array ht h
 have each:∀ i,i<m -> ∃ q:Int×Int×Int,(xs[i]?).map (·.1)=some (.agg [.lit (.int .i64 q.1),.lit (.int .i64 q.2.1),.lit (.int .u64 q.2.2)])∧cs[i*3]? = some (.int .i64 q.1)∧cs[i*3+1]? = some (.int .i64 q.2.1)∧cs[i*3+2]? = some (.int .u64 q.2.2):=by
  intro i hi
  have h1:=hf i hi
  rw[cells66,List.getElem?_eq_getElem (by omega)] at h1
  obtain⟨ys,k2,_,hy,hcl,hyl,hg⟩:=DataW.trod_struct Tryz.underlying204 h1
  have hy3:ys.length=3:=hyl
  obtain⟨y0,y1,y2,rfl⟩:∃ a b c,ys = [a,b,c]:=by
   match ys,hy3 with
   |[a,b,c],_=>exact⟨a,b,c,rfl⟩
  have g0:DataW.trod (fun _=>()) Tryz.prog w 0 (fun _=>true) false k2 3 ((((cs.drop (i*3)).take 3).drop 0).take (Tryz.prog.cellsOf 3))=some y0:=hg 0 _ rfl
  rw[cells3] at g0
  have g1:DataW.trod (fun _=>()) Tryz.prog w 0 (fun _=>true) false k2 3 ((((cs.drop (i*3)).take 3).drop 1).take (Tryz.prog.cellsOf 3))=some y1:=hg 1 _ rfl
  rw[cells3] at g1
  have g2:DataW.trod (fun _=>()) Tryz.prog w 0 (fun _=>true) false k2 23 ((((cs.drop (i*3)).take 3).drop 2).take (Tryz.prog.cellsOf 23))=some y2:=hg 2 _ rfl
  rw[cells24] at g2
  obtain⟨z0,e0,f0,_⟩:=DataW.trod_int Tryz.underlying3 g0
  obtain⟨z1,e1,f1,_⟩:=DataW.trod_int Tryz.underlying3 g1
  obtain⟨z2,e2,f2,_⟩:=DataW.trod_int Tryz.underlying23 g2
  refine⟨(z0,z1,z2),?_,?_,?_,?_⟩
  ·rw[List.getElem?_eq_getElem (by omega),Option.map_some,hy]
   simp[f0,f1,f2]
  ·have:=congrArg (·[0]?) e0
   simpa [List.getElem?_take,List.getElem?_drop] using this
  ·have:=congrArg (·[0]?) e1
   simpa [List.getElem?_take,List.getElem?_drop] using this
  ·have:=congrArg (·[0]?) e2
   simpa [List.getElem?_take,List.getElem?_drop] using this
 obtain⟨q,hq⟩:=Deep.choose_lt each
 refine⟨fun i=>(q i).1,fun i=>(q i).2.1,fun i=>(q i).2.2,?_,fun i hi=>(hq i hi).2⟩
 have hd:d = .agg (xs.map (·.1)):=congrArg Prod.fst hx
 rw[hd]
 refine congrArg DataW.agg ?_
 apply List.ext_getElem?
 intro i
 by_cases hi:i<m
 ·rw[List.getElem?_map,(hq i hi).1,List.getElem?_map,List.getElem?_range hi]
  rfl
 ·rw[List.getElem?_eq_none (by simp;omega),List.getElem?_eq_none (by simp;omega)]
theorem cells207:Tryz.prog.cellsOf 251=2:=by kernel_rfl
theorem cells59:Tryz.prog.cellsOf 36=1:=by kernel_rfl
theorem tab2 {w:World} {fuel t m:Nat} {cs:List Value} {d:DataW Unit} {p:List MemPlace} (ht:Tryz.prog.underlying t=some (.array m 251)) (h:DataW.trod (fun _=>()) Tryz.prog w 0 (fun _=>true) false fuel t cs=some (d,p)) :
  ∃ A B:Nat->Int,d = .agg ((List.range m).map fun i=>.agg [.lit (.int .u32 (A i)),.lit (.int .u64 (B i))])∧∀ i,i<m->cs[i*2]? = some (.int .u32 (A i))∧cs[i*2+1]? = some (.int .u64 (B i)):=by
 obtain⟨xs,k,_,hx,_,hl,hf⟩:=DataW.trod_array ht h
 have each:∀ i,i<m -> ∃ q:Int×Int,(xs[i]?).map (·.1)=some (.agg [.lit (.int .u32 q.1),.lit (.int .u64 q.2)])∧cs[i*2]? = some (.int .u32 q.1)∧cs[i*2+1]? = some (.int .u64 q.2):=by
  intro i hi
  have h1:=hf i hi
  rw[cells207,List.getElem?_eq_getElem (by omega)] at h1
  obtain⟨ys,k2,_,hy,hcl,hyl,hg⟩:=DataW.trod_struct Tryz.underlying251 h1
  have hy3:ys.length=2:=hyl
  obtain⟨y0,y1,rfl⟩:∃ a b,ys = [a,b]:=by
   match ys,hy3 with
   |[a,b],_=>exact⟨a,b,rfl⟩
  have g0:DataW.trod (fun _=>()) Tryz.prog w 0 (fun _=>true) false k2 36 ((((cs.drop (i*2)).take 2).drop 0).take (Tryz.prog.cellsOf 36))=some y0:=hg 0 _ rfl
  rw[cells59] at g0
  have g1:DataW.trod (fun _=>()) Tryz.prog w 0 (fun _=>true) false k2 23 ((((cs.drop (i*2)).take 2).drop 1).take (Tryz.prog.cellsOf 23))=some y1:=hg 1 _ rfl
  rw[cells24] at g1
  obtain⟨z0,e0,f0,_⟩:=DataW.trod_int Tryz.underlying36 g0
  obtain⟨z1,e1,f1,_⟩:=DataW.trod_int Tryz.underlying23 g1
  refine⟨(z0,z1),?_,?_,?_⟩
  ·rw[List.getElem?_eq_getElem (by omega),Option.map_some,hy]
   simp[f0,f1]
  ·have:=congrArg (·[0]?) e0
   simpa [List.getElem?_take,List.getElem?_drop] using this
  ·have:=congrArg (·[0]?) e1
   simpa [List.getElem?_take,List.getElem?_drop] using this
 obtain⟨q,hq⟩:=Deep.choose_lt each
 refine⟨fun i=>(q i).1,fun i=>(q i).2,?_,fun i hi=>(hq i hi).2⟩
 have hd:d = .agg (xs.map (·.1)):=congrArg Prod.fst hx
 rw[hd]
 refine congrArg DataW.agg ?_
 apply List.ext_getElem?
 intro i
 by_cases hi:i<m
 ·rw[List.getElem?_map,(hq i hi).1,List.getElem?_map,List.getElem?_range hi]
  rfl
 ·rw[List.getElem?_eq_none (by simp;omega),List.getElem?_eq_none (by simp;omega)]
theorem laid_list {W : World} (h' : laidMet Tryz.prog [("hartix/elf.headFields", Rows.laid_hartix_elf_headFields), ("hartix/elf.segFields", Rows.laid_hartix_elf_segFields), ("hartix/exec.sameRights", Rows.laid_hartix_exec_sameRights)] W) : Laid W ∧ Laid3 W := by
 have hg0 : Tryz.prog.globalNamed "hartix/elf.headFields" = some 0 := by kernel_rfl
 have hg1 : Tryz.prog.globalNamed "hartix/elf.segFields" = some 1 := by kernel_rfl
 have hg9 : Tryz.prog.globalNamed "hartix/exec.sameRights" = some 2 := by kernel_rfl
 have ht9:(Tryz.prog.globals[2]?).map (·.type)=some 252:=by kernel_rfl
 have ht0:(Tryz.prog.globals[0]?).map (·.type)=some 205:=by kernel_rfl
 have ht1:(Tryz.prog.globals[1]?).map (·.type)=some 207:=by kernel_rfl
 obtain⟨ps,⟨g',t',cs,fuel,p,q,hg',ht',hvar,hd,⟨g2,t2,cs2,fuel2,p2,q2,hg2,ht2,hvar2,hd2,⟨g3,t3,cs3,fuel3,p3,q3,hg3,ht3,hvar3,hd3,_,_⟩,_⟩,_⟩,_⟩:=h'
 obtain rfl:=Option.some.inj (hg9.symm.trans hg3)
 obtain rfl:=Option.some.inj (ht9.symm.trans ht3)
 obtain⟨A3,B3,e3,c3⟩:=tab2 Tryz.underlying252 hd3
 have v3:∀ i v,cs3.toList[i]? = some v->W.cell? ⟨2,i,.none⟩=some v:=fun i v hv=>by
  have:=World.var?_cell hg9 hvar3 i
  rw[this,<-Array.getElem?_toList]
  exact hv
 unfold Rows.laid_hartix_exec_sameRights at e3
 simp only[List.range,List.range.loop,List.map_cons,List.map_nil,DataW.agg.injEq,List.cons.injEq,DataW.lit.injEq,Lit.int.injEq,true_and,and_true] at e3
 have hL3:Laid3 W:=by
  obtain⟨⟨x0,x1⟩,⟨x2,x3⟩,x4,x5⟩:=e3
  refine⟨?_,?_,?_,?_,?_,?_⟩
  ·rw[x0];exact v3 0 _ (c3 0 (by omega)).1
  ·rw[x1];exact v3 1 _ (c3 0 (by omega)).2
  ·rw[x2];exact v3 2 _ (c3 1 (by omega)).1
  ·rw[x3];exact v3 3 _ (c3 1 (by omega)).2
  ·rw[x4];exact v3 4 _ (c3 2 (by omega)).1
  ·rw[x5];exact v3 5 _ (c3 2 (by omega)).2
 obtain rfl:=Option.some.inj (hg0.symm.trans hg')
 obtain rfl:=Option.some.inj (ht0.symm.trans ht')
 obtain rfl:=Option.some.inj (hg1.symm.trans hg2)
 obtain rfl:=Option.some.inj (ht1.symm.trans ht2)
 obtain⟨A,B,C,e1,c1⟩:=tab3 Tryz.underlying205 hd
 obtain⟨A2,B2,C2,e2,c2⟩:=tab3 Tryz.underlying207 hd2
 have v1:∀ i v,cs.toList[i]? = some v->W.cell? ⟨0,i,.none⟩=some v:=fun i v hv=>by
  have:=World.var?_cell hg0 hvar i
  rw[this,<-Array.getElem?_toList]
  exact hv
 have v2:∀ i v,cs2.toList[i]? = some v->W.cell? ⟨1,i,.none⟩=some v:=fun i v hv=>by
  have:=World.var?_cell hg1 hvar2 i
  rw[this,<-Array.getElem?_toList]
  exact hv
 have f1:∀ i,i<12->A i=hOf i∧B i=hBy i∧C i=hFx i:=by
  unfold Rows.laid_hartix_elf_headFields at e1
  simp only[List.range,List.range.loop,List.map_cons,List.map_nil,DataW.agg.injEq,List.cons.injEq,DataW.lit.injEq,Lit.int.injEq,true_and,and_true] at e1
  intro i hi
  rcases lt12 hi with rfl|rfl|rfl|rfl|rfl|rfl|rfl|rfl|rfl|rfl|rfl|rfl
  all_goals (simp only[hOf,hBy,hFx,List.getD_cons_zero,List.getD_cons_succ];omega)
 have f2:∀ i,i<8->A2 i=sOf i∧B2 i=sBy i∧C2 i=sFx i:=by
  unfold Rows.laid_hartix_elf_segFields at e2
  simp only[List.range,List.range.loop,List.map_cons,List.map_nil,DataW.agg.injEq,List.cons.injEq,DataW.lit.injEq,Lit.int.injEq,true_and,and_true] at e2
  intro i hi
  rcases (show i=0∨i=1∨i=2∨i=3∨i=4∨i=5∨i=6∨i=7 by omega) with rfl|rfl|rfl|rfl|rfl|rfl|rfl|rfl
  all_goals (simp only[sOf,sBy,sFx,List.getD_cons_zero,List.getD_cons_succ];omega)
 refine⟨?_,hL3⟩
 exact⟨fun i hi=>by rw[<-(f1 i hi).1];exact v1 _ _ (c1 i hi).1,fun i hi=>by rw[<-(f1 i hi).2.1];exact v1 _ _ (c1 i hi).2.1,fun i hi=>by rw[<-(f1 i hi).2.2];exact v1 _ _ (c1 i hi).2.2,fun i hi=>by rw[<-(f2 i hi).1];exact v2 _ _ (c2 i hi).1,fun i hi=>by rw[<-(f2 i hi).2.1];exact v2 _ _ (c2 i hi).2.1,fun i hi=>by rw[<-(f2 i hi).2.2];exact v2 _ _ (c2 i hi).2.2⟩
theorem wf_u8 (z:Int) (h:(Lit.int .u8 z).wf=true):0<=z∧z<256:=by
 simp[Lit.wf,IntKind.min,IntKind.max,IntKind.signed,IntKind.bits] at h
 omega
theorem bytes5:Tryz.prog.bytesOf 5=1:=by kernel_rfl
theorem bytes9:Tryz.prog.bytesOf 9=16:=by kernel_rfl
theorem cells9:Tryz.prog.cellsOf 9=1:=by kernel_rfl
theorem open_byt {H:Type} {enc:TypeId×Value->H} {w:World} {base:Nat} {held:Bool} {fuel:Nat} {v:Value} {x:DataW H×List MemPlace}
  (h:DataW.trod enc Tryz.prog w base (fun _=>true) held fuel 24 [v]=some x):∃ p n c xs,v = .slice p n c∧Byt w p n c xs∧(∀ i,0<=xs.getD i 0∧xs.getD i 0<256)∧∀ M',(∀ k∈x.1.weights Tryz.prog 24,k<=M')->n<=M':=by
 rcases open_ints Tryz.underlying24 Tryz.underlying5 cells5 h with⟨hcs,hx⟩|⟨a,len,cap,zs,hcs,_,hlc,hmax,hlen,hx,hcell,hwf⟩
 ·simp only[List.cons.injEq,and_true] at hcs
  exact⟨none,0,0,[],hcs,⟨rfl,Nat.le_refl _,by decide,.inl rfl⟩,fun i=>by simp,fun _ _=>Nat.zero_le _⟩
 ·simp only[List.cons.injEq,and_true] at hcs
  have hz:zs.length=cap:=by simpa using hlen
  refine⟨some a,len,cap,zs.take len,hcs,⟨by simp;omega,hlc,hmax,?_⟩,fun i=>?_,?_⟩
  ·by_cases h0:len=0
   ·exact .inl h0
   ·have hc0:=hcell 0 (by omega)
    obtain⟨b,off,spot⟩:=a
    have hspot:spot=none:=by simpa [Addr.add] using World.cell?_spot hc0
    subst hspot
    refine .inr ⟨b,off,rfl,?_,fun i y hy=>?_⟩
    ·rw[le_addr_add] at hc0
     exact zC hc0
    ·have hi:i<len:=by have:=(List.getElem?_eq_some_iff.1 hy).1;simp at this;omega
     have:=hcell i (by omega)
     rw[le_addr_add] at this
     rw[this]
     rw[List.getElem?_take,if_pos hi] at hy
     rw[List.getD_eq_getElem?_getD,hy]
     rfl
  ·rw[List.getD_eq_getElem?_getD]
   cases hg:(zs.take len)[i]? with
   |none=>simp
   |some z=>exact wf_u8 z (hwf z (List.mem_of_mem_take (List.mem_of_getElem? hg)))
  ·intro M' hM'
   have h1:=hM' ((len+(cap-len))*Tryz.prog.bytesOf 5) (by
    rw[hx]
    simp only[DataW.weights,Tryz.underlying24]
    have el:((lits .u8 (zs.take len)).length (α:=DataW H))=len:=by simp[lits];omega
    have ed:((lits .u8 (zs.drop len)).length (α:=DataW H))=cap-len:=by simp[lits];omega
    rw[el,ed]
    exact List.mem_cons_self ..)
   rw[bytes5] at h1
   omega
theorem weightsAll_mem {H:Type} {e:TypeId} {d:DataW H}:∀ {l:List (DataW H)},d∈l -> ∀ k∈d.weights Tryz.prog e,k∈DataW.weightsAll Tryz.prog e l
 |[],h,_,_=>by cases h
 |x :: r,h,k,hk=>by
  simp only[DataW.weightsAll,List.mem_append]
  rcases List.mem_cons.1 h with rfl|h
  ·exact .inl hk
  ·exact .inr (weightsAll_mem h k hk)
theorem open_tex {H:Type} {enc:TypeId×Value->H} {w:World} {base:Nat} {held:Bool} {fuel:Nat} {v:Value} {x:DataW H×List MemPlace}
  (h:DataW.trod enc Tryz.prog w base (fun _=>true) held fuel 22 [v]=some x):∃ p n c xs,v = .slice p n c∧Tex w p n c xs∧∀ M',(∀ k∈x.1.weights Tryz.prog 22,k<=M')->n<=M'∧∀ y∈xs,y.length<=M':=by
 rcases Deep.open_strs Tryz.underlying22 Tryz.underlying9 cells9 h with⟨hcs,hx⟩|⟨a,len,cap,m,Sx,hcs,_,hlc,hmax,hm,hx,hcell⟩
 ·simp only[List.cons.injEq,and_true] at hcs
  exact⟨none,0,0,[],hcs,⟨rfl,Nat.le_refl _,by decide,.inl rfl⟩,fun _ _=>⟨Nat.zero_le _,fun y hy=>by cases hy⟩⟩
 ·simp only[List.cons.injEq,and_true] at hcs
  simp only[if_true] at hm
  subst hm
  have hget:∀ i y,((List.range len).map fun i=>(Sx i).data.toList)[i]? = some y->i<len∧y=(Sx i).data.toList:=fun i y hy=>by
   rw[List.getElem?_map,Option.map_eq_some_iff] at hy
   obtain⟨j,hj,rfl⟩:=hy
   obtain⟨h1,h2⟩:=List.getElem?_eq_some_iff.1 hj
   simp only[List.getElem_range] at h2
   subst h2
   exact⟨by simpa using h1,rfl⟩
  refine⟨some a,len,m,(List.range len).map fun i=>(Sx i).data.toList,hcs,⟨by simp,hlc,hmax,?_⟩,fun M' hM'=>⟨?_,fun y hy=>?_⟩⟩
  ·by_cases h0:len=0
   ·exact .inl h0
   ·have hc0:=(hcell 0 (by omega)).1
    obtain⟨b,off,spot⟩:=a
    have hspot:spot=none:=by simpa [Addr.add] using World.cell?_spot hc0
    subst hspot
    refine .inr ⟨b,off,rfl,?_,fun i y hy=>?_⟩
    ·rw[le_addr_add] at hc0
     exact zC hc0
    ·obtain⟨hi,rfl⟩:=hget i y hy
     have:=(hcell i (by omega)).1
     rw[le_addr_add] at this
     rw[this]
     rfl
  ·have h1:=hM' ((len+(m-len))*Tryz.prog.bytesOf 9) (by
    rw[hx]
    simp only[DataW.weights,Tryz.underlying22,List.length_map,List.length_range]
    exact List.mem_cons_self ..)
   rw[bytes9] at h1
   omega
  ·obtain⟨i,hi⟩:=List.mem_iff_getElem?.1 hy
   obtain⟨hlt,rfl⟩:=hget i y hi
   refine hM' _ ?_
   rw[hx]
   simp only[DataW.weights,Tryz.underlying22]
   refine List.mem_cons_of_mem _ (List.mem_append_left _ (weightsAll_mem (d:=.lit (.string (Sx i).data.toList)) ?_ _ ?_))
   ·exact List.mem_map.2 ⟨i,List.mem_range.2 hlt,rfl⟩
   ·simp[DataW.weights]
theorem own:ownKnob Tryz.prog.godebug=none:=by kernel_rfl
theorem laidOut:laidOutB Tryz.prog=true:=by kernel_rfl
end
end Go.Proofs.YtabnipbdbnmmpaaGreatDoor
