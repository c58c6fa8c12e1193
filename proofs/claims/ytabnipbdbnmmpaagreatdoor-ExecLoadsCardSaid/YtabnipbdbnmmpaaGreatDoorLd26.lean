import Derived.Test.YtabnipbdbnmmpaaGreatDoorLd01
import Derived.Test.YtabnipbdbnmmpaaGreatDoorLd25
import Derived.Test.YtabnipbdbnmmpaaGreatDoorLd23
import Derived.Test.YtabnipbdbnmmpaaGreatDoorLd24
import Derived.Test.YtabnipbdbnmmpaaGreatDoorLd13
import Derived.Test.YtabnipbdbnmmpaaGreatDoorLd17
import Derived.Maps.AppendAt
set_option linter.unusedVariables false
set_option linter.unusedSimpArgs false
set_option maxHeartbeats 8000000
namespace Go.Proofs.YtabnipbdbnmmpaaGreatDoor
section
open Go.RowKit Go.Shelf
set_option maxRecDepth 100000 in
theorem bytes_any (p1 p2:Option Addr) (n c1 c2:Nat) (xs:List Int) (w:World) (hn:n<140737488355000) (h1:Byt w p1 n c1 xs) (h2:Byt w p2 n c2 xs) :
  Calls Tryz.prog 14 #[.slice p1 n c1,.slice p2 n c2] w fun e w'=>e = .returned (.bool true)∧∃ k,w'=w.drewN k:=by
 obtain⟨hl,k1,m1,h1⟩:=h1
 obtain⟨_,k2,m2,h2⟩:=h2
 have m1:c1<=9223372036854775807:=m1
 have m2:c2<=9223372036854775807:=m2
 have HX:Hid (xs.length=n):=hl
 by_cases h0:n=0
 ·subst h0
  clear h1 h2 hl
  go_enter Tryz.func14,Tryz.ntmps14
  go_wp2
  go_loopw [5] (fun k wr=>k = .int .i64 0∧wr=w) (fun _ _=>0)
  case atStart=>exact⟨rfl,rfl⟩
  case round=>
   obtain⟨rfl,rfl⟩:=hrel
   go_wp2
   go_ret
   exact⟨rfl,0,rfl⟩
 ·rcases h1 with h1|⟨b1,o1,rfl,_,h1⟩
  ·omega
  rcases h2 with h2|⟨b2,o2,rfl,_,h2⟩
  ·omega
  have H1:Hid (∀ i x,xs[i]? = some x->w.cell? ⟨b1,o1+i,.none⟩=some (.int .u8 x)):=h1
  have H2:Hid (∀ i x,xs[i]? = some x->w.cell? ⟨b2,o2+i,.none⟩=some (.int .u8 x)):=h2
  clear h1 h2 hl h0
  go_enter Tryz.func14,Tryz.ntmps14
  go_wp2
  go_loopw [5] (fun k wr=>∃ i:Nat,i<=n∧k = .int .i64 i∧∃ j,wr=w.drewN j) (fun k _=>(n-intOf k).toNat)
  case atStart=>exact⟨0,by omega,rfl,0,rfl⟩
  case round=>
   obtain⟨i,hi,rfl,j,rfl⟩:=hrel
   by_cases hlt:i<n
   ·have g0:(i:Int)<n:=by omega
    have hx:∃ x,xs[i]? = some x:=⟨xs[i]'(by rw[HX.out];exact hlt),by simp⟩
    obtain⟨x,hx⟩:=hx
    have a0:=H1.out i x hx
    have b0:=H2.out i x hx
    clear hx
    go_wp2
    go_region
    go_wp2
    exact⟨⟨i+1,by omega,rfl,j+1,rfl⟩,by simp only[intOf];omega⟩
   ·obtain rfl:i=n:=by omega
    clear hi hlt
    go_wp2
    go_ret
    exact⟨rfl,j,rfl⟩
set_option maxRecDepth 100000 in
theorem kept_any {p:Option Addr} {n c base g cg:Nat} {xs:List Int} {w:World} (h:Byt w p n c xs) (hn:n<140737488355000) (hL:Lent w base g cg xs) :
  Calls Tryz.prog 27 #[.slice (some ⟨g,0,.none⟩) n cg,.slice p n c] w fun e w'=>e = .returned (.bool true)∧∃ k,w'=w.drewN k:=by
 have hl:=h.1
 have hcap:xs.length+64<=cg∧cg<=maxLen:=own_cap hL
 have hm:cg<=9223372036854775807:=hcap.2
 have hcell:∀ i x,(xs ++ marks)[i]? = some x->w.cell? ⟨g,i,.none⟩=some (.int .u8 x):=by
  intro i x hx
  have:=World.ownsRow.cells hL (g:=g) rfl i _ (by8_get hx)
  rwa [le_addr_add,Nat.zero_add] at this
 have hB:Byt w (some ⟨g,0,.none⟩) n cg xs:=by
  refine⟨hl,by omega,hcap.2,.inr ⟨g,0,rfl,own_lt hL,fun i x hx=>?_⟩⟩
  rw[Nat.zero_add]
  exact hcell i x (by rw[List.getElem?_append_left (by have:=(List.getElem?_eq_some_iff.1 hx).1;omega)];exact hx)
 have c1:=bytes_any (some ⟨g,0,.none⟩) p n cg c xs w hn hB h
 have HM:Hid (∀ j:Nat,j<64->w.cell? ⟨g,n+j,.none⟩=some (.int .u8 (160+(j:Int)))):=by
  intro j hj
  refine hcell (n+j) _ ?_
  rw[List.getElem?_append_right (by omega),hl,Nat.add_sub_cancel_left]
  exact marks_get j hj
 have k2:n+64<=cg:=by omega
 clear hcell hB hL h hl hcap
 go_enter Tryz.func27,Tryz.ntmps27
 go_wp2_with fail
 refine c1.mono ?_
 rintro e w1 ⟨rfl,k,rfl⟩
 clear c1
 go_wp2
 go_loopw [6] (fun v W=>∃ j:Nat,j<=64∧v = .int .i64 j∧∃ k,W=w.drewN k) (fun v _=>(64-intOf v).toNat)
 case atStart=>exact⟨0,by omega,rfl,k,rfl⟩
 case round=>
  obtain⟨j,hj,rfl,k',rfl⟩:=hrel
  by_cases hlt:j<64
  ·have g0:(j:Int)<64:=by omega
   have gm:IntKind.u8.wrap (160+(j:Int))=160+(j:Int):=by simp only[IntKind.wrap,IntKind.bits,IntKind.signed];simp;omega
   have a0:=HM.out j hlt
   go_wp2
   exact⟨⟨j+1,by omega,rfl,k',rfl⟩,by simp only[intOf];omega⟩
  ·obtain rfl:j=64:=by omega
   clear hj hlt
   go_wp2
   go_ret
   exact⟨rfl,k',rfl⟩
set_option maxRecDepth 100000 in
theorem texts_any (p1 p2:Option Addr) (n c1 c2:Nat) (xs:List Bs) (w:World) (hn:n<1000000) (h1:Tex w p1 n c1 xs) (h2:Tex w p2 n c2 xs) :
  Calls Tryz.prog 68 #[.slice p1 n c1,.slice p2 n c2] w fun e w'=>e = .returned (.bool true)∧∃ k,w'=w.drewN k:=by
 obtain⟨hl,k1,m1,h1⟩:=h1
 obtain⟨_,k2,m2,h2⟩:=h2
 have m1:c1<=9223372036854775807:=m1
 have m2:c2<=9223372036854775807:=m2
 have HX:Hid (xs.length=n):=hl
 by_cases h0:n=0
 ·subst h0
  clear h1 h2 hl
  go_enter Tryz.func68,Tryz.ntmps68
  go_wp2
  go_loopw [5] (fun k wr=>k = .int .i64 0∧wr=w) (fun _ _=>0)
  case atStart=>exact⟨rfl,rfl⟩
  case round=>
   obtain⟨rfl,rfl⟩:=hrel
   go_wp2
   go_ret
   exact⟨rfl,0,rfl⟩
 ·rcases h1 with h1|⟨b1,o1,rfl,_,h1⟩
  ·omega
  rcases h2 with h2|⟨b2,o2,rfl,_,h2⟩
  ·omega
  have H1:Hid (∀ i x,xs[i]? = some x->w.cell? ⟨b1,o1+i,.none⟩=some (sv x)):=h1
  have H2:Hid (∀ i x,xs[i]? = some x->w.cell? ⟨b2,o2+i,.none⟩=some (sv x)):=h2
  clear h1 h2 hl h0
  go_enter Tryz.func68,Tryz.ntmps68
  go_wp2
  go_loopw [5] (fun k wr=>∃ i:Nat,i<=n∧k = .int .i64 i∧∃ j,wr=w.drewN j) (fun k _=>(n-intOf k).toNat)
  case atStart=>exact⟨0,by omega,rfl,0,rfl⟩
  case round=>
   obtain⟨i,hi,rfl,j,rfl⟩:=hrel
   by_cases hlt:i<n
   ·have g0:(i:Int)<n:=by omega
    have hx:∃ x,xs[i]? = some x:=⟨xs[i]'(by rw[HX.out];exact hlt),by simp⟩
    obtain⟨x,hx⟩:=hx
    have a0:=H1.out i x hx
    have b0:=H2.out i x hx
    simp only[sv] at a0 b0
    clear hx
    go_wp2
    go_region
    go_wp2
    exact⟨⟨i+1,by omega,rfl,j+1,rfl⟩,by simp only[intOf];omega⟩
   ·obtain rfl:i=n:=by omega
    clear hi hlt
    go_wp2
    go_ret
    exact⟨rfl,j,rfl⟩
theorem run_append_noneS (g n cp:Nat) (p:Option Addr) (c:Nat) (ty:TypeId) (w:World) (hn:n<=cp):(Builtin.append_ #[22,22] ty #[.slice (some ⟨g,0,.none⟩) n cp,.slice p 0 c]).run Tryz.prog w = .ok (.slice (some ⟨g,0,.none⟩) n cp) w:=by
 obtain⟨i,z,hi,_⟩:=str_info
 cases p<;>simp[Builtin.append_,run_underlying Tryz.underlying22,sizeOf,typeInfo,hi,Builtin.lenOf,Builtin.firstCells,loadCells,loadCellsFrom,hn]<;>rfl
theorem wpList_append_noneS {w:World} {ops:Array Oper} {rest:List Oper} {o:Oper} {a:Act} {Q:Exit->Act->World->Prop} (hgd:o.guard=none) (s x:Operand)
  (ho:o.op = .call { callee:=.builtin .append,args:=#[s,x],argTypes:=#[22,22] }) (g n cp:Nat) (hn:n<=cp) (p:Option Addr) (c:Nat) (hs:a.eval s = .slice (some ⟨g,0,.none⟩) n cp) (hx:a.eval x = .slice p 0 c)
  (h:wpList Tryz.prog ops Q rest (a.put o.dst (.slice (some ⟨g,0,.none⟩) n cp)) w):wpList Tryz.prog ops Q (o :: rest) a w:=by
 refine wpList_plain hgd fun K hK=>?_
 unfold Oper.wp execOp
 simp only[ho,resolve,invoke,builtin,Sem.run_bind,Sem.run_pure,Result.andThen_ok,List.map_toArray,List.map_cons,List.map_nil,hs,hx,run_append_noneS _ _ _ _ _ _ _ hn]
 exact hK _ _ h
set_option maxRecDepth 10000 in
theorem lent_any {p:Option Addr} {n c:Nat} {xs:List Bs} {w:World} (h:Tex w p n c xs) (hn:n<=1048576) :
  Calls Tryz.prog 25 #[.slice p n c] w fun e w'=>∃ g cg,e = .returned (.slice (some ⟨g,0,.none⟩) n cg)∧LenT w' w.heap.size g cg xs∧Below w.heap.size w w':=by
 obtain⟨hl,k1,m1,h1⟩:=h
 have m1:c<=9223372036854775807:=m1
 have HX:Hid (xs.length=n):=hl
 obtain⟨i3,z3,hi3,hz3,hs3,hb3,hzs3⟩:=str_info
 have HI:Hid (Tryz.prog.info? 9=some i3∧i3.zero=some z3∧i3.size=1∧i3.bytes=16∧z3.cells.size=1):=⟨hi3,hz3,hs3,hb3,hzs3⟩
 clear hi3 hz3 hs3 hb3 hzs3
 obtain⟨w1,hmk,own1,gr1⟩:=run_make_own (P:=Tryz.prog) w w.heap.size 22 9 i3 z3 1 Tryz.underlying22 HI.out.1 HI.out.2.1 HI.out.2.2.1 .i64 .i64 (n+1) (by rw[HI.out.2.2.2.1];omega) (by simp only[maxLen];omega) zL
 have hmk:(Instr.makeSlice 22 (.int .i64 0) (.int .i64 ((n:Int)+1))).run Tryz.prog w = .ok (.slice (some ⟨w.heap.size,0,.none⟩) 0 (n+1)) w1:=by
  have e:((n+1:Nat):Int)=(n:Int)+1:=by omega
  rw[e] at hmk
  exact hmk
 have b1:Below w.heap.size w w1:=zB.grown gr1 zL (fun k hk=>by cases hk)
 have HO1:Hid (w1.ownsRow w.heap.size 9 1 (.slice (some ⟨w.heap.size,0,.none⟩) 0 (n+1)) 0 []∧Below w.heap.size w w1):=⟨own1,b1⟩
 clear own1 gr1 b1
 go_enter Tryz.func25,Tryz.ntmps25
 go_upto_region 2 with fail
 clear hmk
 by_cases h0:n=0
 ·subst h0
  obtain rfl:xs = []:=List.eq_nil_of_length_eq_zero HX.out
  go_upto_region 3 with(at_builtin;refine wpList_append_noneS rfl _ _ rfl w.heap.size 0 1 (by omega) p c rfl rfl ?_)
  have HO2:Hid (w1.ownsRow w.heap.size 9 1 (.slice (some ⟨w.heap.size,0,.none⟩) 0 1) 0 (([]:List Bs).map sv)∧Below w.heap.size w w1):=HO1
  have zz:=HO2.out.2.size
  have hcc:0<=1∧1<=9223372036854775807:=own_cap HO2.out.1
  go_wp2_with (first|(at_builtin;refine wpList_append_own _ rfl _ _ 22 rfl w.heap.size 9 i3 z3 1 16 Tryz.underlying22 HI.out.1 HI.out.2.1 HI.out.2.2.1 HI.out.2.2.2.1 HI.out.2.2.2.2 (by decide) (.slice (some ⟨w.heap.size,0,.none⟩) 0 1) 0 (([]:List Bs).map sv) rfl (HO2.out.1.alloc _) ⟨w1.heap.size,0,.none⟩ 1 1 [sv mark] rfl rfl (cell1_new _ _ _) (fun u hu=>by rw[List.mem_singleton] at hu;rw[hu];rfl) ?c4 ?c5 ?c6 ?_)|go_in)
  case c4=>simp only[maxLen];omega
  try case c5=>omega
  case c6=>first|(simp only[World.size_alloc];omega)|omega
  intro v' w3 own' grow fb
  clear fb
  obtain⟨p',c2,rfl⟩:=one_slice own'
  obtain⟨g3,rfl⟩:=own_some own'
  have hc3:0+1<=c2∧c2<=9223372036854775807:=own_cap own'
  have HW:Hid (LenT w3 w.heap.size g3 c2 []∧Below w.heap.size w w3):=by
   refine⟨?_,below_append HO2.out.2 _ grow zz (own_block HO2.out.1)⟩
   unfold LenT
   exact own'
  clear own' grow
  go_wp2
  go_ret
  exact⟨g3,c2,rfl,HW.out.1,HW.out.2⟩
 ·rcases h1 with h1|⟨b,o,rfl,hb,h1⟩
  ·omega
  have HC:Hid (∀ j u,(xs.map sv)[j]? = some u->w1.cell? ((⟨b,o,.none⟩:Addr).add j)=some u):=by
   intro j u hj
   rw[le_addr_add,HO1.out.2.cell hb]
   rw[List.getElem?_map,Option.map_eq_some_iff] at hj
   obtain⟨x,hx,rfl⟩:=hj
   exact h1 j x hx
  have z0:=HO1.out.2.size
  clear h1
  go_upto_region 3 with(at_builtin;refine wpList_append_own _ rfl _ _ 22 rfl w.heap.size 9 i3 z3 1 16 Tryz.underlying22 HI.out.1 HI.out.2.1 HI.out.2.2.1 HI.out.2.2.2.1 HI.out.2.2.2.2 (by decide) (.slice (some ⟨w.heap.size,0,.none⟩) 0 (n+1)) 0 [] rfl HO1.out.1 ⟨b,o,.none⟩ n c (xs.map sv) rfl (by rw[List.length_map,HX.out];omega) HC.out (fun u hu=>by rw[List.mem_map] at hu;obtain⟨x,_,rfl⟩:=hu;rfl) (by simp only[maxLen];omega) (by omega) z0 ?_;intro v' w2 own' grow fb;clear fb;rw[Nat.zero_add,List.nil_append] at own';obtain⟨p',c2,rfl⟩:=one_slice own';have HO2:Hid (w2.ownsRow w.heap.size 9 1 (.slice p' n c2) n (xs.map sv)∧Below w.heap.size w w2):=⟨own',HO1.out.2.grown grow z0 (own_block HO1.out.1)⟩;clear own' grow)
  obtain⟨g2,rfl⟩:∃ g,p'=some ⟨g,0,.none⟩:=by
   obtain⟨m,rfl⟩:∃ m,n=m+1:=⟨n-1,by omega⟩
   exact own_some HO2.out.1
  have zz:=HO2.out.2.size
  have hcc:n<=c2∧c2<=9223372036854775807:=own_cap HO2.out.1
  go_wp2_with (first|(at_builtin;refine wpList_append_own _ rfl _ _ 22 rfl w.heap.size 9 i3 z3 1 16 Tryz.underlying22 HI.out.1 HI.out.2.1 HI.out.2.2.1 HI.out.2.2.2.1 HI.out.2.2.2.2 (by decide) (.slice (some ⟨g2,0,.none⟩) n c2) n (xs.map sv) rfl (HO2.out.1.alloc _) ⟨w2.heap.size,0,.none⟩ 1 1 [sv mark] rfl rfl (cell1_new _ _ _) (fun u hu=>by rw[List.mem_singleton] at hu;rw[hu];rfl) ?d4 ?d5 ?d6 ?_)|go_in)
  case d4=>simp only[maxLen];omega
  case d5=>omega
  case d6=>first|(simp only[World.size_alloc];omega)|omega
  intro v' w3 own' grow fb
  clear fb
  obtain⟨p3,c3,rfl⟩:=one_slice own'
  obtain⟨g3,rfl⟩:=own_some own'
  have hc3:n+1<=c3∧c3<=9223372036854775807:=own_cap own'
  have HW:Hid (LenT w3 w.heap.size g3 c3 xs∧Below w.heap.size w w3):=by
   refine⟨?_,below_append HO2.out.2 _ grow zz (own_block HO2.out.1)⟩
   unfold LenT
   rw[HX.out,List.map_append]
   exact own'
  clear own' grow
  go_wp2
  go_ret
  exact⟨g3,c3,rfl,HW.out.1,HW.out.2⟩
theorem lenT_tex {w:World} {X g c:Nat} {xs:List Bs} (h:LenT w X g c xs):Tex w (some ⟨g,0,.none⟩) xs.length c xs∧w.cell? ⟨g,xs.length,.none⟩=some (sv mark)∧xs.length+1<=c∧c<=9223372036854775807:=by
 have hc:=own_cap h
 have hl:=own_lt h
 have hcell:∀ i x,(xs ++ [mark])[i]? = some x->w.cell? ⟨g,i,.none⟩=some (sv x):=fun i x hx=>by
  have:=h.cells (g:=g) rfl i (sv x) (by rw[List.getElem?_map,hx];rfl)
  rwa [le_addr_add,Nat.zero_add] at this
 refine⟨⟨rfl,by omega,hc.2,.inr ⟨g,0,rfl,hl,fun i x hx=>?_⟩⟩,hcell _ _ (by simp),hc.1,hc.2⟩
 rw[Nat.zero_add]
 exact hcell i x (by rw[List.getElem?_append_left (List.getElem?_eq_some_iff.1 hx).1];exact hx)
theorem LenT.below {w w':World} {X g c:Nat} {xs:List Bs} (h:LenT w X g c xs) (hb:Below w.heap.size w w'):LenT w' X g c xs:=owns_below h hb
set_option maxRecDepth 10000 in
theorem keptT_any {p:Option Addr} {n c X g cg:Nat} {xs:List Bs} {w:World} (h:Tex w p n c xs) (hn:n<1000000) (hL:LenT w X g cg xs) :
  Calls Tryz.prog 28 #[.slice (some ⟨g,0,.none⟩) n cg,.slice p n c] w fun e w'=>e = .returned (.bool true)∧∃ k,w'=w.drewN k:=by
 obtain⟨h1,h2,h3,h4⟩:=lenT_tex hL
 rw[h.1] at h1 h2 h3
 have c17:=texts_any (some ⟨g,0,.none⟩) p n cg c xs w hn h1 h
 unfold sv mark at h2
 have hc:=h.2.1
 have hc2:c<=9223372036854775807:=h.2.2.1
 clear h1 h hL
 go_enter Tryz.func28,Tryz.ntmps28
 go_wp2_with (go_at_call 68;refine c17.mono ?_;rintro _ w1 ⟨rfl,k,rfl⟩)
 go_ret
 exact⟨rfl,k,rfl⟩
theorem below_drewN' (w:World) (k:Nat):Below w.heap.size w (w.drewN k):=⟨rfl,rfl,rfl,Nat.le_refl _,fun _ _=>rfl⟩
theorem byt_up {w w':World} {p:Option Addr} {n c:Nat} {xs:List Int} (h:Byt w p n c xs) (hb:Below w.heap.size w w'):Byt w' p n c xs:=by
 obtain⟨h1,h2,h3,h4⟩:=h
 refine⟨h1,h2,h3,?_⟩
 rcases h4 with h4|⟨b,o,rfl,h5,h6⟩
 ·exact .inl h4
 ·exact .inr ⟨b,o,rfl,Nat.lt_of_lt_of_le h5 hb.size,fun i x hx=>(hb.cell (p:=⟨b,o+i,.none⟩) h5).trans (h6 i x hx)⟩
end
section
open Go.RowKit Go.Shelf
def TkP (w:World) (q f n:Nat) (e:Ending) (w':World):Prop:=(n<=f∧e = .returned (.bool true)∧w'=w.setCell ⟨q,0,.none⟩ (.int .i64 ((f:Int)-n)))∨(f<n∧e = .returned (.bool false)∧w'=w)
set_option maxRecDepth 4000 in
theorem take_any {w:World} {q:Nat} {f:Nat} (h:w.cell? ⟨q,0,.none⟩=some (.int .i64 f)) (hz:w.frozen? ⟨q,0,.none⟩=false) (hf:f<=1000000) (n:Nat) (hn:n<=1000000) :
  Calls Tryz.prog 63 #[.pointer (some ⟨q,0,.none⟩),.int .i64 n] w (TkP w q f n):=by
 have g0:¬ (n:Int)<0:=by omega
 by_cases hl:n<=f
 ·have g1:¬ (n:Int) > f:=by omega
  have g2:IntKind.i64.wrap ((f:Int)-n)=(f:Int)-n:=by simp only[IntKind.wrap,IntKind.bits,IntKind.signed];simp;omega
  go_enter Tryz.func63,Tryz.ntmps63
  go_wp2
  go_ret
  exact .inl ⟨hl,rfl,rfl⟩
 ·have g1:(n:Int) > f:=by omega
  go_enter Tryz.func63,Tryz.ntmps63
  go_wp2
  go_ret
  exact .inr ⟨by omega,rfl,rfl⟩
set_option maxRecDepth 4000 in
theorem nodes8_any (p:Nat) (h:p<=4096) (w:World):Calls Tryz.prog 70 #[.int .i64 p] w fun e w'=>e = .returned (.int .i64 (if p=0 then 3 else 4+((p:Int)+511)/512))∧w'=w:=by
 have g0:¬ (p:Int)<0:=by omega
 have g1:¬ (p:Int) > 4096:=by omega
 by_cases h0:p=0
 ·subst h0
  go_enter Tryz.func70,Tryz.ntmps70
  go_wp2
  go_ret
  exact⟨rfl,rfl⟩
 ·have g2:¬ (p:Int)=0:=by omega
  have g3:IntKind.i64.wrap ((p:Int)+511)=(p:Int)+511:=by simp only[IntKind.wrap,IntKind.bits,IntKind.signed];simp;omega
  have g4:((p:Int)+511).tdiv 512=((p:Int)+511)/512:=Int.tdiv_eq_ediv_of_nonneg (by omega)
  have g5:IntKind.i64.wrap (4+((p:Int)+511)/512)=4+((p:Int)+511)/512:=by simp only[IntKind.wrap,IntKind.bits,IntKind.signed];simp;omega
  go_enter Tryz.func70,Tryz.ntmps70
  go_wp2
  go_ret
  exact⟨rfl,rfl⟩
set_option maxRecDepth 4000 in
theorem rights8_any {w:World} {X c:Nat} {q:Option Addr} {E:List (Sg×Value)} {B:Nat->Int} (h:Segs w X (.slice q E.length c) E B) (hl:E.length<=8) (en:Int) (pg:Nat) (hg:pg<=1000000) (hex:∃ (j:Nat) (y:Sg),(E.map (·.1))[j]? = some y∧(pg:Int)<pgs y) :
  Calls Tryz.prog 66 #[.agg #[.int .u64 en,.slice q E.length c],.int .i64 pg] w fun e w'=>e = .returned (.int .u64 (rgP (E.map (·.1)) pg+16))∧Below w.heap.size w w':=by
 obtain⟨q',c',e',hc1,hc2,hq⟩:=own_form h.own
 cases e'
 have HS:Hid (Segs w X (.slice q E.length c) E B∧∃ (j:Nat) (y:Sg),(E.map (·.1))[j]? = some y∧(pg:Int)<pgs y):=⟨h,hex⟩
 obtain⟨w1,hw1⟩:∃ w1,w1=w.alloc (.cells #[.int .u64 en,.slice q E.length c] 41):=⟨_,rfl⟩
 have b1:Below w.heap.size w w1:=by rw[hw1];exact zB.alloc zL _
 have k1:w1.cell? ⟨w.heap.size,1,.none⟩=some (.slice q E.length c):=by rw[hw1];simp
 have HB1:Hid (Below w.heap.size w w1∧w1.cell? ⟨w.heap.size,1,.none⟩=some (.slice q E.length c)):=⟨b1,k1⟩
 clear h hex b1 k1
 go_enter Tryz.func66,Tryz.ntmps66
 go_upto_region 1 with fail
 rw[<-hw1]
 clear hw1
 have k1:=HB1.out.2
 go_wp2_with fail
 clear k1
 go_loopw [5] (fun a wr=>∃ i:Nat,i<=E.length∧a = .int .i64 i∧Hid ((∀ j y,j<i->(E.map (·.1))[j]? = some y->¬ (pg:Int)<pgs y)∧Below w.heap.size w wr∧wr.cell? ⟨w.heap.size,1,.none⟩=some (.slice q E.length c)∧w.heap.size<wr.heap.size)) (fun a _=>(E.length-intOf a).toNat)
 case atStart=>exact⟨0,by omega,rfl,fun j y hj=>by omega,HB1.out.1,HB1.out.2,zC HB1.out.2⟩
 case round=>
  obtain⟨i,hi,rfl,HR⟩:=hrel
  have k1:=HR.out.2.2.1
  by_cases hlt:i<E.length
  ·have g0:(i:Int)<E.length:=by omega
   obtain⟨x,hx⟩:∃ x,E[i]? = some x:=⟨E[i],List.getElem?_eq_getElem hlt⟩
   have HS1:=HS.out.1.below HR.out.2.1
   obtain⟨f0,f1,f2,f3⟩:=flatE_get E _ x hx
   obtain⟨g,rfl,a0⟩:=own_cell HS1.own f0 (by omega) (by omega)
   obtain⟨g1,e1,a1⟩:=own_cell HS1.own f1 (by omega) (by omega)
   obtain⟨g2,e2,a2⟩:=own_cell HS1.own f2 (by omega) (by omega)
   obtain⟨g3,e3,a3⟩:=own_cell HS1.own f3 (by omega) (by omega)
   simp only[Option.some.injEq,Addr.mk.injEq,and_true] at e1 e2 e3
   subst e1 e2 e3
   have hgd:=HS1.gd x (List.mem_of_getElem? hx)
   obtain⟨ldq,ldc,hld,_⟩:=own_form (HS1.dat x (List.mem_of_getElem? hx))
   rw[hld] at a2
   have hxm:(E.map (·.1))[i]? = some x.1:=by rw[List.getElem?_map,hx];rfl
   have hpv:(pg:Int)<pgs x.1↔(pg:Int)*4096<x.1.va+x.1.mem:=by unfold pgs;omega
   have v1:=hgd.v
   have m1:=hgd.m
   have hfl:=hgd.f
   have hee:=hgd.e
   have HX:Hid ((E.map (·.1))[i]? = some x.1∧((pg:Int)<pgs x.1↔(pg:Int)*4096<x.1.va+x.1.mem)):=⟨hxm,hpv⟩
   generalize hva:x.1.va=va at *
   generalize hfv:x.1.fl=fl at *
   generalize hmv:x.1.mem=mem at *
   have HF:Hid (x.1.fl=fl):=hfv
   clear f0 f1 f2 f3 HS1 hgd hq hxm hx hld hpv hva hfv hmv
   have g3:IntKind.u64.wrap (va+mem)=va+mem:=by simp only[IntKind.wrap,IntKind.bits,IntKind.signed];simp;omega
   have g4:IntKind.u64.wrap (pg:Int)=pg:=by simp only[IntKind.wrap,IntKind.bits,IntKind.signed];simp;omega
   have g5:IntKind.u64.wrap ((pg:Int)*4096)=(pg:Int)*4096:=by simp only[IntKind.wrap,IntKind.bits,IntKind.signed];simp;omega
   by_cases hp:(pg:Int)*4096<va+mem
   ·have HH:Hid (rgP (E.map (·.1)) pg=rga fl 3):=by
     rw[<-HF.out]
     exact rgP_hit HX.out.1 (fun j y hj hy=>HR.out.1 j y hj hy) (HX.out.2.2 hp)
    have HZ:Hid (Below w.heap.size w (wr.alloc (.cells #[.int .u64 va,.int .u32 fl,.slice ldq x.1.sz ldc,.int .u64 mem] 38))):=HR.out.2.1.alloc (by have:=HR.out.2.2.2;omega) _
    rcases hfl with rfl|rfl|rfl|rfl|rfl
    ·have b4:bits .and .u32 1 4=0:=by decide
     have b2:bits .and .u32 1 2=0:=by decide
     have b1:bits .and .u32 1 1=1:=by decide
     go_wp2
     go_ret
     exact⟨by rw[HH.out];rfl,HZ.out⟩
    ·have b4:bits .and .u32 4 4=4:=by decide
     have b2:bits .and .u32 4 2=0:=by decide
     have b1:bits .and .u32 4 1=0:=by decide
     go_wp2
     go_ret
     exact⟨by rw[HH.out];rfl,HZ.out⟩
    ·have b4:bits .and .u32 5 4=4:=by decide
     have b2:bits .and .u32 5 2=0:=by decide
     have b1:bits .and .u32 5 1=1:=by decide
     go_wp2
     go_ret
     exact⟨by rw[HH.out];rfl,HZ.out⟩
    ·have b4:bits .and .u32 6 4=4:=by decide
     have b2:bits .and .u32 6 2=2:=by decide
     have b1:bits .and .u32 6 1=0:=by decide
     go_wp2
     go_ret
     exact⟨by rw[HH.out];rfl,HZ.out⟩
    ·have b4:bits .and .u32 7 4=4:=by decide
     have b2:bits .and .u32 7 2=2:=by decide
     have b1:bits .and .u32 7 1=1:=by decide
     go_wp2
     go_ret
     exact⟨by rw[HH.out];rfl,HZ.out⟩
   ·have HZ:Hid (Below w.heap.size w (wr.alloc (.cells #[.int .u64 va,.int .u32 fl,.slice ldq x.1.sz ldc,.int .u64 mem] 38))∧(wr.alloc (.cells #[.int .u64 va,.int .u32 fl,.slice ldq x.1.sz ldc,.int .u64 mem] 38)).cell? ⟨w.heap.size,1,.none⟩=some (.slice (some ⟨g,0,.none⟩) E.length c)∧w.heap.size<(wr.alloc (.cells #[.int .u64 va,.int .u32 fl,.slice ldq x.1.sz ldc,.int .u64 mem] 38)).heap.size):=⟨HR.out.2.1.alloc (by have:=HR.out.2.2.2;omega) _,(((Below.refl wr.heap.size wr).alloc zL _).cell (zC k1)).trans k1,by have:=HR.out.2.2.2;simp only[World.size_alloc];omega⟩
    go_wp2
    refine⟨⟨i+1,by omega,rfl,fun j y hj hy=>?_,HZ.out⟩,by simp only[intOf];omega⟩
    rcases Nat.lt_or_ge j i with e|e
    ·exact HR.out.1 j y e hy
    ·obtain rfl:j=i:=by omega
     rw[HX.out.1] at hy
     injection hy with hy
     rw[<-hy]
     exact fun h=>hp (HX.out.2.1 h)
  ·exfalso
   obtain rfl:i=E.length:=by omega
   obtain⟨j,y,hj,hy⟩:=HS.out.2
   exact HR.out.1 j y (by have:=(List.getElem?_eq_some_iff.1 hj).1;rw[List.length_map] at this;exact this) hj hy
end
namespace Rm
open Go Go.RowKit
section
variable {w:World} {p b m N:Nat} {B:Nat->Int} {L:List Nat}
theorem pg_read (hR:Ram w p b m N B L) (q:Nat) (hq:q<N∧q∉L):Calls Tryz.prog 20 #[.pointer (some ⟨p,0,.none⟩),.int .u64 (ad q),.int .i64 4096] w fun e w'=>ReadP w 4096 (fun i=>B (q*4096+i)) e w':=by
 have:=read_ok hR.mem (q*4096) 4096 (by omega) (by omega) (fun f e1 e2=>by
  obtain rfl:f=q:=by omega
  rw[hdL_in hq.1]
  simpa using hq.2)
 have e:ad q=2147483648+((q*4096:Nat):Int):=by unfold ad;omega
 rw[e]
 exact this
set_option maxRecDepth 10000 in
theorem whole_any (hR:Ram w p b m N B L) (q:Nat) (hq:q<N∧q∉L) (hz:∀ k,k<4096->B (q*4096+k)=0) (free:Nat) :
  Calls Tryz.prog 29 #[.pointer (some ⟨p,0,.none⟩),.int .u64 (ad q),.int .i64 free] w fun e w'=>e = .returned (.bool (decide (L.length=free)))∧Below w.heap.size w w':=by
 have c20:=pg_read hR q hq
 have HR:Hid (Ram w p b m N B L):=hR
 clear hR
 go_enter Tryz.func29,Tryz.ntmps29
 go_upto_region 2 with(go_at_call 20;refine c20.mono ?_;rintro _ W2 ⟨g,g1,g2,rfl,g3,g4,b2⟩)
 have HB:Hid (Below w.heap.size w W2∧∀ i,i<4096->W2.cell? ⟨g,i,.none⟩=some (.int .u8 0)):=⟨b2,fun i hi=>(g3 i hi).trans (congrArg (fun x=>some (Value.int .u8 x)) (hz i hi))⟩
 have RR:=HR.out.below b2
 clear g1 g2 g3 g4 b2 c20 hz
 go_wp2_with fail
 go_loopw [8,9] (fun o k wr=>∃ i:Nat,i<=4096∧k = .int .i64 i∧o = .bool true∧wr=W2) (fun _ k _=>(4096-intOf k).toNat)
 case atStart=>exact⟨0,by omega,rfl,rfl,rfl⟩
 case round=>
  obtain⟨i,hi,rfl,rfl,rfl⟩:=hrel
  by_cases hlt:i<4096
  ·have g0:(i:Int)<4096:=by omega
   have k1:=HB.out.2 i hlt
   go_wp2_with fail
   exact⟨⟨i+1,by omega,rfl,by first|rfl|trivial,by first|rfl|trivial⟩,by simp only[intOf];omega⟩
  ·obtain rfl:i=4096:=by omega
   have c15:=ram_count RR
   have HQ0:((L.length:Int) == (free:Int))=decide (L.length=free):=by
    by_cases h:L.length=free
    ·rw[h];simp
    ·have h2:¬ (L.length:Int)=free:=by omega
     simp[h,h2]
   have HQ:Hid (((L.length:Int) == (free:Int))=decide (L.length=free)):=HQ0
   clear HQ0
   go_wp2_with (go_at_call 15;refine c15.mono ?_;rintro _ W3 ⟨rfl,b3⟩)
   go_ret
   exact⟨by rw[<-HQ.out];rfl,HB.out.1.trans (b3.mono HB.out.1.size)⟩
end
end Rm
namespace Rm
open Go Go.RowKit
theorem nan_any (a:Int) (w:World):Calls Tryz.prog 220 #[.int .u64 a] w fun e w'=>e = .returned (.bool false)∧w'=w:=by
 have h:(a != a)=false:=by simp
 go_enter Tryz.func220,Tryz.ntmps220
 go_wp2_with fail
 go_ret
 exact⟨rfl,rfl⟩
theorem less_any (a b:Int) (w:World):Calls Tryz.prog 200 #[.int .u64 a,.int .u64 b] w fun e w'=>e = .returned (.bool (decide (a<b)))∧w'=w:=by
 have c153:=fun W=>nan_any a W
 go_enter Tryz.func200,Tryz.ntmps200
 go_wp2_with (go_at_call 220;refine(c153 _).mono ?_;rintro _ w1 ⟨rfl,e1⟩;obtain rfl:w=w1:=e1.symm)
 go_ret
 exact⟨rfl,rfl⟩
structure SrI (w:World) (X g n c:Nat) (ys:List Int) (W:World):Prop where
 own:W.ownsRow X 23 1 (.slice (some ⟨g,0,.none⟩) n c) n (wv ys)
 os:W.os=w.os
 tape:W.tape=w.tape
 output:W.output=w.output
 size:w.heap.size<=W.heap.size
 block:∀ k,k<w.heap.size->k≠g->W.heap[k]? = w.heap[k]?
theorem SrI.drew {w W:World} {X g n c:Nat} {ys:List Int} (h:SrI w X g n c ys W):SrI w X g n c ys W.drew:=⟨h.own.drew,h.os,h.tape,h.output,h.size,h.block⟩
theorem SrI.set {w W:World} {X g n c:Nat} {ys zs:List Int} (h:SrI w X g n c ys W) (j:Nat) (u:Int) (hz:(wv ys).set j (.int .u64 u)=wv zs):SrI w X g n c zs (W.setCell ⟨g,j,.none⟩ (.int .u64 u)):=by
 have hs:=h.own.stored j (.int .u64 u)
 rw[hz] at hs
 refine⟨hs.1,h.os,h.tape,h.output,?_,fun k hk hne=>?_⟩
 ·have:=h.size
  simpa [World.setCell] using this
 ·rw[<-h.block k hk hne]
  exact Below.heap_setCell _ _ _ _ (fun e=>hne e)
theorem set_at (A R:List Int) (y u:Int):(wv (A ++ y :: R)).set A.length (.int .u64 u)=wv (A ++ u :: R):=by
 unfold wv
 rw[List.map_append,List.map_append,List.set_append_right _ _ (by simp)]
 simp
theorem get_at (A R:List Int) (y:Int):(wv (A ++ y :: R))[A.length]? = some (.int .u64 y):=by
 unfold wv
 rw[List.map_append,List.getElem?_append_right (by simp)]
 simp
def InS (w:World) (X g n c:Nat) (xs:List Int) (i j:Nat) (W:World):Prop:=∃ A D C x,A.length=j∧D.length+j=i∧(A ++ D).Pairwise (· <= ·)∧(∀ d∈D,x<d)∧(A ++ x :: (D ++ C)).Perm xs∧SrI w X g n c (A ++ x :: (D ++ C)) W
def OuS (w:World) (X g n c:Nat) (xs:List Int) (i:Nat) (W:World):Prop:=∃ S C,S.length=i∧S.Pairwise (· <= ·)∧(S ++ C).Perm xs∧SrI w X g n c (S ++ C) W
def SoP (w:World) (X g n c:Nat) (xs:List Int) (e:Ending) (w':World):Prop:=e = .returned (.tuple #[])∧∃ ys,ys.Perm xs∧ys.Pairwise (· <= ·)∧SrI w X g n c ys w'
theorem OuS.drew {w W:World} {X g n c i:Nat} {xs:List Int} (h:OuS w X g n c xs i W):OuS w X g n c xs i W.drew:=by
 obtain⟨S,C,h1,h2,h3,h4⟩:=h
 exact⟨S,C,h1,h2,h3,h4.drew⟩
theorem OuS.inner {w W:World} {X g n c i:Nat} {xs:List Int} (h:OuS w X g n c xs i W) (hl:xs.length=n) (hi:i<n):InS w X g n c xs i i W:=by
 obtain⟨S,C,h1,h2,h3,h4⟩:=h
 cases C with
 |nil=>have:=h3.length_eq;simp at this;omega
 |cons x C=>exact⟨S,[],C,x,h1,(by simp),(by simpa using h2),(fun d hd=>(by cases hd)),(by simpa using h3),(by simpa using h4)⟩
theorem InS.done {w W:World} {X g n c i j:Nat} {xs:List Int} (A D C:List Int) (x:Int) (h1:A.length=j) (h2:D.length+j=i) (h3:(A ++ D).Pairwise (· <= ·)) (h4:∀ d∈D,x<d) (h5:(A ++ x :: (D ++ C)).Perm xs) (h6:SrI w X g n c (A ++ x :: (D ++ C)) W) (hx:∀ a∈A,a<=x):OuS w X g n c xs (i+1) W:=by
 refine⟨A ++ x :: D,C,by simp;omega,?_,by simpa using h5,by simpa using h6⟩
 rw[List.pairwise_append] at h3 ⊢
 refine⟨h3.1,List.pairwise_cons.2 ⟨fun d hd=>by have:=h4 d hd;omega,h3.2.1⟩,fun a ha b hb=>?_⟩
 rcases List.mem_cons.1 hb with rfl|hb
 ·exact hx a ha
 ·exact h3.2.2 a ha b hb
theorem insert_any {w:World} {X g n c:Nat} {xs:List Int} (hl:xs.length=n) (hn:1<=n∧n<=1000000) (h:w.ownsRow X 23 1 (.slice (some ⟨g,0,.none⟩) n c) n (wv xs)):Calls Tryz.prog 194 #[.slice (some ⟨g,0,.none⟩) n c,.int .i64 0,.int .i64 n] w (SoP w X g n c xs):=by
 have H0:Hid (OuS w X g n c xs 1 w):=by
  cases xs with
  |nil=>simp at hl;omega
  |cons x xs=>exact⟨[x],xs,rfl,List.pairwise_singleton _ _,List.Perm.refl _,h,rfl,rfl,rfl,Nat.le_refl _,fun _ _ _=>rfl⟩
 have HL:Hid (xs.length=n):=hl
 clear h hl
 go_enter Tryz.func194,Tryz.ntmps194
 go_wp2_with fail
 go_loopw [6] (fun v wr=>∃ i:Nat,i<=n∧1<=i∧v = .int .i64 i∧Hid (OuS w X g n c xs i wr)) (fun v _=>(n-intOf v).toNat)
 case atStart=>exact⟨1,by omega,by omega,rfl,H0⟩
 case round=>
  obtain⟨i,hi,hi1,rfl,HO⟩:=hrel
  by_cases hin:i<n
  ·have hlt:(i:Int)<n:=by omega
   have HI:Hid (InS w X g n c xs i i wr):=HO.out.inner HL.out hin
   clear HO
   go_wp2_with fail
   go_loopw [7] (fun v wi=>∃ j:Nat,j<=i∧v = .int .i64 j∧Hid (InS w X g n c xs i j wi)) (fun v _=>(intOf v).toNat)
   case atStart=>exact⟨i,Nat.le_refl _,rfl,HI⟩
   case round=>
    rename_i wi0
    obtain⟨j0,hj,rfl,HJ⟩:=hrel
    obtain⟨A,D,C,x,h1,h2,h3,h4,h5,h6⟩:=HJ.out
    rcases List.eq_nil_or_concat A with rfl|⟨A,a,rfl⟩
    ·simp only[List.length_nil] at h1
     subst h1
     have HD:Hid (OuS w X g n c xs (i+1) wr):=InS.done [] D C x rfl h2 h3 h4 h5 h6 (fun a ha=>(by cases ha))
     clear h2 h3 h4 h5 h6 HJ
     go_upto_region 4 with fail
     refine wp_region_held_drew (S:=(fun _=>True)) (by kernel_rfl) trivial (fun hHeld=>?_)
     refine aT 0 (.int .i64 ((0:Nat):Int)) rfl ?_
     simp only[xX]
     refine aT 1 (.int .i64 0) rfl ?_
     simp only[xX]
     refine aT 2 (.bool false) rfl ?_
     simp only[xX]
     refine aT 3 (.bool false) rfl ?_
     simp only[xX]
     refine aU 4 rfl ?_
     simp only[xX]
     refine aU 5 rfl ?_
     simp only[xX]
     refine aU 6 rfl ?_
     simp only[xX]
     refine aU 7 rfl ?_
     simp only[xX]
     refine aU 8 rfl ?_
     simp only[xX]
     refine aU 9 rfl ?_
     simp only[xX]
     refine aU 10 rfl ?_
     simp only[xX]
     refine aU 11 rfl ?_
     simp only[xX]
     refine aU 12 rfl ?_
     simp only[xX]
     refine aU 13 rfl ?_
     simp only[xX]
     refine aT 14 (.bool false) rfl ?_
     simp only[xX]
     refine wpAnyH_done (by kernel_rfl) ?_ _
     go_wp2_with fail
     exact⟨⟨i+1,by omega,by omega,by simp,HD.out.drew⟩,by simp only[intOf];omega⟩
    ·simp only[List.concat_eq_append,List.length_append,List.length_singleton] at h1
     obtain⟨j,rfl⟩:∃ j,j0=j+1:=⟨A.length,h1.symm⟩
     have hAj:A.length=j:=by omega
     have hjn:j+1<n:=by omega
     have kx0:wr.cell? ⟨g,j+1,.none⟩=some (.int .u64 x):=by
      rw[h6.own.cellAt (j+1) (by omega),<-h1]
      have:=get_at (A ++ [a]) (D ++ C) x
      simpa using this
     have ka0:wr.cell? ⟨g,j,.none⟩=some (.int .u64 a):=by
      rw[h6.own.cellAt j (by omega),<-hAj]
      have:=get_at A (x :: (D ++ C)) a
      simpa using this
     have f1:=h6.own.frozenAt (j+1)
     have f0:=h6.own.frozenAt j
     have hpos:(0:Int)<((j+1:Nat):Int):=by omega
     have hsub:((j+1:Nat):Int)-1=j:=by omega
     have hjn1:((j+1:Nat):Int)<n:=by omega
     have hjn0:(j:Int)<n:=by omega
     have hb1:¬ (n:Int)<=(j:Int)+1:=by omega
     have hb0:¬ (n:Int)<=(j:Int):=by omega
     have hp1:(0:Int)<=(j:Int)+1:=by omega
     have hp0:(0:Int)<=(j:Int):=by omega
     have hwj:IntKind.i64.wrap (j:Int)=j:=by rw[IntKind.wrap_i64];omega
     have HA:Hid (A.length=j∧D.length+(j+1)=i∧(A ++ [a] ++ D).Pairwise (· <= ·)∧(∀ d∈D,x<d)∧(A ++ [a] ++ x :: (D ++ C)).Perm xs∧SrI w X g n c (A ++ [a] ++ x :: (D ++ C)) wr):=by
      simp only[List.concat_eq_append] at h3 h5 h6
      exact⟨hAj,h2,h3,h4,h5,h6⟩
     clear h1 h2 h3 h4 h5 h6 HJ hAj
     go_upto_region 4 with fail
     have kx:wr.drew.cell? ⟨g,j+1,.none⟩=some (.int .u64 x):=kx0
     have ka:wr.drew.cell? ⟨g,j,.none⟩=some (.int .u64 a):=ka0
     refine wp_region_held_drew (S:=(fun U=>U.cell? ⟨g,j+1,.none⟩=some (.int .u64 x)∧U.cell? ⟨g,j,.none⟩=some (.int .u64 a))) (by kernel_rfl) ⟨kx,ka⟩ (fun hHeld=>?_)
     refine aT 0 (.int .i64 ((j+1:Nat):Int)) rfl ?_
     simp only[xX]
     refine aT 1 (.int .i64 0) rfl ?_
     simp only[xX]
     refine aT 2 (.bool true) rfl ?_
     simp only[xX]
     refine aT 3 (.bool true) rfl ?_
     simp only[xX]
     refine aT 4 (.slice (some ⟨g,0,.none⟩) n c) rfl ?_
     simp only[xX]
     refine aT 5 (.int .i64 ((j+1:Nat):Int)) rfl ?_
     simp only[xX]
     refine aT 6 (.pointer (some ⟨g,j+1,.none⟩)) rfl ?_
     simp only[xX]
     refine aT 7 (.int .u64 x) rfl ?_
     simp only[xX]
     refine aT 8 (.slice (some ⟨g,0,.none⟩) n c) rfl ?_
     simp only[xX]
     refine aT 9 (.int .i64 ((j+1:Nat):Int)) rfl ?_
     simp only[xX]
     refine aT 10 (.int .i64 j) rfl ?_
     simp only[xX]
     refine aT 11 (.pointer (some ⟨g,j,.none⟩)) rfl ?_
     simp only[xX]
     refine aT 12 (.int .u64 a) rfl ?_
     simp only[xX]
     refine zR 13 rfl (fun K hK=>?_)
     go_simp
     go_at_call 200
     refine(less_any x a _).mono ?_
     rintro _ w3 ⟨rfl,e3⟩
     obtain rfl:w3=wr.drew:=e3
     refine hK.out _ _ ⟨kx,ka⟩ (fun hHeld=>?_)
     clear hK K
     try simp only[xX]
     refine aT 14 (.bool (decide (x<a))) rfl ?_
     simp only[xX]
     refine wpAnyH_done (by kernel_rfl) ?_ _
     by_cases hxa:x<a
     ·go_upto_region 6 with fail
      go_region
      have HS:Hid (InS w X g n c xs i j ((wr.setCell ⟨g,j+1,.none⟩ (.int .u64 a)).setCell ⟨g,j,.none⟩ (.int .u64 x)).drew.drew):=by
       obtain⟨q1,q2,q3,q4,q5,q6⟩:=HA.out
       refine⟨A,a :: D,C,x,q1,by simp;omega,by simpa using q3,fun d hd=>?_,?_,?_⟩
       ·rcases List.mem_cons.1 hd with rfl|hd
        ·exact hxa
        ·exact q4 d hd
       ·refine List.Perm.trans ?_ q5
        rw[List.append_assoc]
        exact List.Perm.append_left A (List.Perm.swap a x _)
       ·have e1:=set_at (A ++ [a]) (D ++ C) x a
        rw[List.length_append,List.length_singleton,q1] at e1
        have e2:=set_at A (a :: (D ++ C)) a x
        rw[q1] at e2
        exact(((q6.set (j+1) a (zs:=A ++ a :: a :: (D ++ C)) (by rw[e1];simp)).set j x (zs:=A ++ x :: (a :: D ++ C)) (by rw[e2];simp)).drew).drew
      go_wp2_with fail
      exact⟨⟨j,by omega,by simp,HS⟩,by simp only[intOf];omega⟩
     ·have HD:Hid (OuS w X g n c xs (i+1) wr):=by
       obtain⟨q1,q2,q3,q4,q5,q6⟩:=HA.out
       refine InS.done (A ++ [a]) D C x (by simp;omega) q2 q3 q4 q5 q6 (fun b hb=>?_)
       rw[List.append_assoc,List.pairwise_append] at q3
       rcases List.mem_append.1 hb with hb|hb
       ·have:=q3.2.2 b hb a (by simp)
        omega
       ·rw[List.mem_singleton.1 hb]
        omega
      go_wp2_with fail
      exact⟨⟨i+1,by omega,by omega,by simp,HD.out.drew⟩,by simp only[intOf];omega⟩
  ·have hlt:¬ (i:Int)<n:=by omega
   go_wp2_with fail
   obtain⟨S,C,h1,h2,h3,h4⟩:=HO.out
   have e:C = []:=by
    have:=h3.length_eq
    have:=HL.out
    simp at *
    exact List.eq_nil_of_length_eq_zero (by omega)
   subst e
   rw[List.append_nil] at h3 h4
   exact bodyPost_end (v:=.tuple #[]) (by simp[results,Tryz.results194,go_sem]) rfl ⟨rfl,S,h3,h2,h4⟩
def LnP (w:World) (e:Ending) (w':World):Prop:=(∃ v:Int,e = .returned (.int .i64 v))∧w'=w
set_option maxRecDepth 100000 in
theorem len_small (n:Nat) (h:1<=n∧n<=12) (w:World):Calls Tryz.prog 132 #[.int .u64 n] w (LnP w):=by
 obtain rfl|rfl|rfl|rfl|rfl|rfl|rfl|rfl|rfl|rfl|rfl|rfl:n=1∨n=2∨n=3∨n=4∨n=5∨n=6∨n=7∨n=8∨n=9∨n=10∨n=11∨n=12:=by omega
 all_goals
  go_enter Tryz.func132,Tryz.ntmps132
  go_wp2_with fail
  go_ret
  exact⟨⟨_,rfl⟩,rfl⟩
theorem blen_small (n:Nat) (h:1<=n∧n<=12) (w:World):Calls Tryz.prog 168 #[.int .u64 n] w (LnP w):=by
 have c110:=len_small n h w
 go_enter Tryz.func168,Tryz.ntmps168
 go_wp2_with (go_at_call 132;refine c110.mono ?_;rintro _ w1 ⟨⟨v,rfl⟩,e1⟩;obtain rfl:w=w1:=e1.symm)
 go_ret
 exact⟨⟨v,rfl⟩,rfl⟩
theorem pdq_small {w:World} {X g n c:Nat} {xs:List Int} (hl:xs.length=n) (hn:1<=n∧n<=12) (h:w.ownsRow X 23 1 (.slice (some ⟨g,0,.none⟩) n c) n (wv xs)) (v:Int):Calls Tryz.prog 167 #[.slice (some ⟨g,0,.none⟩) n c,.int .i64 0,.int .i64 n,.int .i64 v] w (SoP w X g n c xs):=by
 have c122:=insert_any hl (by omega) h
 unfold SoP at c122
 have hle:(n:Int)<=12:=by omega
 clear h hl
 go_enter Tryz.func167,Tryz.ntmps167
 go_wp2_with fail
 go_loopw [1,2] (fun a b wr=>a = .int .i64 0∧b = .int .i64 n∧Hid (wr=w)) (fun _ _ _=>0)
 case atStart=>exact⟨rfl,rfl,rfl⟩
 case round=>
  obtain⟨rfl,rfl,HE⟩:=hrel
  obtain rfl:w=wr:=HE.out.symm
  go_wp2_with (go_at_call 194;refine c122.mono ?_;rintro _ w1 ⟨rfl,Z⟩;have HZ:Hid (∃ ys,ys.Perm xs∧ys.Pairwise (· <= ·)∧SrI w X g n c ys w1):=Z;clear Z c122)
  exact bodyPost_ret (v:=.tuple #[]) (by simp[results,Tryz.results167,go_sem]) rfl ⟨rfl,HZ.out⟩
theorem sort_small {w:World} {X g n c:Nat} {xs:List Int} (hl:xs.length=n) (hn:1<=n∧n<=12) (h:w.ownsRow X 23 1 (.slice (some ⟨g,0,.none⟩) n c) n (wv xs)):Calls Tryz.prog 126 #[.slice (some ⟨g,0,.none⟩) n c] w (SoP w X g n c xs):=by
 have c97:=blen_small n hn w
 have c96:=fun v=>pdq_small hl hn h v
 unfold SoP at c96
 have hcv:IntKind.u64.wrap (n:Int)=n:=by rw[IntKind.wrap_u64];omega
 clear h hl
 go_enter Tryz.func126,Tryz.ntmps126
 go_wp2_with first|(go_at_call 168;refine c97.mono ?_;rintro _ w1 ⟨⟨v,rfl⟩,e1⟩;obtain rfl:w=w1:=e1.symm)|(go_at_call 167;refine(c96 v).mono ?_;rintro _ w1 ⟨rfl,Z⟩;have HZ:Hid (∃ ys,ys.Perm xs∧ys.Pairwise (· <= ·)∧SrI w X g n c ys w1):=Z;clear Z c96)
 exact bodyPost_end (v:=.tuple #[]) (by simp[results,Tryz.results126,go_sem]) rfl ⟨rfl,HZ.out⟩
end Rm
namespace Rm
open Go Go.RowKit Fz
theorem bytes_same {w:World} {n ca cb:Nat} {qa qb:Option Addr} {R:Nat->Int} (hn:n<=9223372036854775807) (ha:See w .u8 qa n R) (hb:See w .u8 qb n R):Calls Tryz.prog 14 #[.slice qa n ca,.slice qb n cb] w fun e w'=>e = .returned (.bool true)∧Below w.heap.size w w':=by
 go_enter Tryz.func14,Tryz.ntmps14
 go_wp2
 go_loopw [5] (fun k wr=>∃ i:Nat,i<=n∧k = .int .i64 i∧Below w.heap.size w wr) (fun k _=>n-(intOf k).toNat)
 case atStart=>exact⟨0,by omega,rfl,Below.refl _ _⟩
 case round=>
  obtain⟨i,hi,rfl,hB⟩:=hrel
  have HB:Hid (Below w.heap.size w wr):=hB
  by_cases hin:i<n
  ·rcases ha with h|⟨g1,o1,rfl,hg1,r1⟩
   ·omega
   rcases hb with h|⟨g2,o2,rfl,hg2,r2⟩
   ·omega
   have i1:(i:Int)<n:=by omega
   have k0:=(hB.cell (p:=⟨g1,o1+i,.none⟩) hg1).trans (r1 i hin)
   have k1:=(hB.cell (p:=⟨g2,o2+i,.none⟩) hg2).trans (r2 i hin)
   clear hB r1 r2
   generalize R i=x at *
   go_wp2
   go_quiet (fail)
   go_wp2
   exact⟨⟨i+1,by omega,by simp,below_drewN HB.out _⟩,by simp[intOf];omega⟩
  ·have i1:¬ ((i:Int)<n):=by omega
   clear hB ha hb
   go_wp2
   go_ret
   exact⟨rfl,HB.out⟩
section
variable {w:World} {s p b m N r P:Nat} {size:Int} {B:Nat->Int} {L:List Nat} {F:Nat->Option Nat} {lf:Nat->Nat->Int} {fr:Nat->Nat} {c:Nat->Int}
end
end Rm
namespace Rm
open Go Go.RowKit Fz
section
variable {w W W':World} {s p b m N r P K:Nat} {B:Nat->Int} {L:List Nat} {F:Nat->Option Nat} {lf:Nat->Nat->Int} {fr:Nat->Nat} {c l:Nat->Int}
theorem own_blk {base e size n:Nat} {v:Value} {xs:List Value} (h:W.ownsRow base e size v n xs) (hk:∀ g,v.ownBlock=some g->g<W.heap.size->W'.heap[g]? = W.heap[g]?):W'.ownsRow base e size v n xs:=by
 refine⟨h.1,?_⟩
 rcases h.2 with h1|⟨g,cap,cur,h1,h2,h3,h4⟩
 ·exact .inl h1
 ·have hg:g<W.heap.size:=by
   rcases Nat.lt_or_ge g W.heap.size with hh|hh
   ·exact hh
   ·rw[Array.getElem?_eq_none hh] at h3;cases h3
  exact .inr ⟨g,cap,cur,h1,h2,(hk g (by rw[h1];rfl) hg).trans h3,h4⟩
end
end Rm
end Go.Proofs.YtabnipbdbnmmpaaGreatDoor
