import Derived.Test.YtabnipbdbnmmpaaGreatDoorLd01
import Derived.Test.YtabnipbdbnmmpaaGreatDoorRows
import Derived.WalkKit
import Derived.WalkSpells
import Derived.RowKit3
import Derived.Deep.QuietTactic
import Derived.BigQuiet
import Derived.WalkSmall
import Derived.Below
import Derived.Deep.Heap
import Derived.Laws.AppendOwn
import Derived.Laws.OwnMore
import Derived.RegionTactic
import Derived.BigRegion
import Derived.Laws.MakeOwn
import Derived.Deep.Cut
import Derived.LoopTactic
import Derived.Laws.NewBlocks
import Derived.Deep.DeepCutAuto
import Derived.Deep.CutBlock
import Derived.OneCell
import Derived.Deep.RegionLaw
import Derived.Deep.MidRow
import Derived.Deep.RegionHeld3
import Derived.RangeFuncBox
set_option linter.unusedVariables false
set_option linter.unusedSimpArgs false
set_option maxHeartbeats 8000000
namespace Go.Proofs.YtabnipbdbnmmpaaGreatDoor
section
open Go.RowKit
theorem info_of (t:TypeId) (k b:Nat) (h1:(Tryz.prog.info? t).map (fun i=>(i.size,i.bytes))=some (k,b)) (h2:((Tryz.prog.info? t).bind (·.zero)).map (·.cells.size)=some k) :
  ∃ i z,Tryz.prog.info? t=some i∧i.zero=some z∧i.size=k∧i.bytes=b∧z.cells.size=k:=by
 cases hi:Tryz.prog.info? t with
 |none=>rw[hi] at h1;cases h1
 |some i=>
  rw[hi] at h1 h2
  simp only[Option.map_some,Option.some.injEq,Prod.mk.injEq,Option.bind_some] at h1 h2
  cases hz:i.zero with
  |none=>rw[hz] at h2;cases h2
  |some z=>
   rw[hz] at h2
   exact⟨i,z,rfl,hz,h1.1,h1.2,by simpa using h2⟩
theorem byte_info:∃ i z,Tryz.prog.info? 5=some i∧i.zero=some z∧i.size=1∧i.bytes=1∧z.cells.size=1:=info_of 5 1 1 (by kernel_rfl) (by kernel_rfl)
theorem le_addr_add (b o j:Nat):(⟨b,o,.none⟩:Addr).add j=⟨b,o+j,.none⟩:=by unfold Addr.add;split<;>simp_all
theorem heap_new (w:World) (o:Obj):(w.alloc o).heap[w.heap.size]? = some o:=by
 rw[World.alloc]
 simp
theorem below_append {B:Nat} {a w w':World} {row:Option Nat} (h:Below B a w) (o:Obj) (hg:(w.alloc o).grownBy w' row) (hB:B<=w.heap.size) (hr:∀ k,row=some k->B<=k):Below B a w':=
 (h.alloc hB o).grown hg (by simp only[World.size_alloc];omega) hr
theorem own_block {w:World} {base e n sz:Nat} {v:Value} {xs:List Value} (h:w.ownsRow base e sz v n xs):∀ k,v.ownBlock=some k->base<=k:=by
 intro k hk
 rcases h.2 with⟨rfl,rfl⟩|⟨g,cap,cur,rfl,hb,_⟩
 ·cases hk
 ·simp only[Value.ownBlock,Option.some.injEq] at hk;omega
theorem one_slice {w:World} {base e n sz:Nat} {m:Value} {zs:List Value} (h:w.ownsRow base e sz m n zs):∃ p c,m = .slice p n c:=by
 rcases h.2 with⟨rfl,rfl⟩|⟨g,cap,cur,rfl,_⟩
 ·exact⟨_,_,rfl⟩
 ·exact⟨_,_,rfl⟩
def by8 (xs:List Int):List Value:=xs.map (.int .u8)
theorem by8_len (xs:List Int):(by8 xs).length=xs.length:=by simp[by8]
theorem by8_app (xs ys:List Int):by8 (xs ++ ys)=by8 xs ++ by8 ys:=by simp[by8]
theorem by8_get {xs:List Int} {i:Nat} {x:Int} (h:xs[i]? = some x):(by8 xs)[i]? = some (.int .u8 x):=by simp[by8,h]
theorem by8_one (xs:List Int):∀ u∈by8 xs,u.oneCell'=true:=by
 intro u hu
 simp only[by8,List.mem_map] at hu
 obtain⟨x,_,rfl⟩:=hu
 rfl
def Byt (w:World) (p:Option Addr) (n c:Nat) (xs:List Int):Prop:=
 xs.length=n∧n<=c∧c<=maxLen∧(n=0∨∃ b o,p=some ⟨b,o,.none⟩∧b<w.heap.size∧∀ i x,xs[i]? = some x->w.cell? ⟨b,o+i,.none⟩=some (.int .u8 x))
theorem byt_own {w:World} {base:Nat} {p:Option Addr} {n c:Nat} {xs:List Int} (h:w.ownsRow base 5 1 (.slice p n c) n (by8 xs)):Byt w p n c xs:=by
 have hl:xs.length=n:=by have:=h.1;rw[by8_len] at this;omega
 rcases h.2 with⟨hv,h0⟩|⟨g,cap,cur,hv,hb,hg,hn,hm,_⟩
 ·simp only[Value.slice.injEq] at hv
  obtain⟨rfl,_,rfl⟩:=hv
  exact⟨hl,by omega,by decide,.inl h0⟩
 ·simp only[Value.slice.injEq,true_and] at hv
  obtain⟨rfl,rfl⟩:=hv
  refine⟨hl,hn,hm,.inr ⟨g,0,rfl,(Array.getElem?_eq_some_iff.1 hg).1,fun i x hx=>?_⟩⟩
  have:=h.cells (g:=g) rfl i _ (by8_get hx)
  rwa [le_addr_add] at this
end
section
open Go.RowKit
theorem le_cell1_new (w:World) (x:Int) (t:TypeId):∀ j u,(by8 [x])[j]? = some u->(w.alloc (.cells #[.int .u8 x] t)).cell? ((⟨w.heap.size,0,.none⟩:Addr).add j)=some u:=by
 intro j u hj
 rw[le_addr_add,World.cell?_alloc_at _ _ _ _ rfl,Nat.zero_add]
 simpa [by8] using hj
theorem take_next {xs:List Int} {i:Nat} {x:Int} (h:xs[i]? = some x):xs.take i ++ [x]=xs.take (i+1):=by
 rw[List.take_add_one,h]
 rfl
def marks:List Int:=(List.range 64).map fun (i:Nat)=>(160:Int)+(i:Int)
theorem marks_len:marks.length=64:=by decide
theorem marks_get (i:Nat) (h:i<64):marks[i]? = some (160+(i:Int)):=by simp[marks,h]
def Lent (w:World) (base g c:Nat) (xs:List Int):Prop:=w.ownsRow base 5 1 (.slice (some ⟨g,0,.none⟩) (xs.length+64) c) (xs.length+64) (by8 (xs ++ marks))
theorem own_cap {w:World} {base e sz n c g:Nat} {xs:List Value} (h:w.ownsRow base e sz (.slice (some ⟨g,0,.none⟩) n c) n xs):n<=c∧c<=maxLen:=by
 rcases h.2 with⟨hv,_⟩|⟨g',cap,cur,hv,hb,hg,hn,hm,_⟩
 ·cases hv
 ·simp only[Value.slice.injEq,true_and] at hv
  obtain⟨_,rfl⟩:=hv
  exact⟨hn,hm⟩
theorem own_lt {w:World} {base e sz n c g:Nat} {xs:List Value} (h:w.ownsRow base e sz (.slice (some ⟨g,0,.none⟩) n c) n xs):g<w.heap.size:=by
 rcases h.2 with⟨hv,_⟩|⟨g',cap,cur,hv,hb,hg,_⟩
 ·cases hv
 ·simp only[Value.slice.injEq,Option.some.injEq,Addr.mk.injEq,and_true,true_and] at hv
  obtain⟨rfl,rfl⟩:=hv
  exact(Array.getElem?_eq_some_iff.1 hg).1
theorem own_some {w:World} {base e sz n c:Nat} {p:Option Addr} {xs:List Value} (h:w.ownsRow base e sz (.slice p (n+1) c) (n+1) xs):∃ g,p=some ⟨g,0,.none⟩:=by
 rcases h.2 with⟨_,h0⟩|⟨g,cap,cur,hv,_⟩
 ·omega
 ·simp only[Value.slice.injEq] at hv
  exact⟨g,hv.1⟩
end
section
open Go.RowKit
def ramB:ByteArray:=⟨#[101,108,102]⟩
def FaultIn (w':World) (B:Nat) (v:Value) (a r:Int):Prop:=
 ∃ b,B<=b∧b<w'.heap.size∧v = .iface 86 (.pointer (some ⟨b,0,.none⟩))∧w'.cell? ⟨b,0,.none⟩=some (.string ramB)∧w'.cell? ⟨b,1,.none⟩=some (.int .i64 a)∧w'.cell? ⟨b,2,.none⟩=some (.iface 45 (.int .i64 r))
theorem faultIn_new (w:World) (B:Nat) (a r:Int) (h:B<=w.heap.size):FaultIn (w.alloc (.cells #[.string ramB,.int .i64 a,.iface 45 (.int .i64 r)] 151)) B (.iface 86 (.pointer (some ⟨w.heap.size,0,.none⟩))) a r:=
 ⟨w.heap.size,h,by simp,rfl,by simp,by simp,by simp⟩
end
section
open Go.RowKit
def num (B:Nat->Int) (o:Nat):Nat->Int
 |0=>0
 |k+1=>num B o k+256 ^ k*B (o+k)
theorem num_bd (B:Nat->Int) (hB:∀ i,0<=B i∧B i<256) (o k:Nat):0<=num B o k∧num B o k<256 ^ k:=by
 induction k with
 |zero=>simp[num]
 |succ k ih=>
  have h1:=hB (o+k)
  have hp:(0:Int)<256 ^ k:=Int.pow_pos (by decide)
  simp only[num,Int.pow_succ]
  have h2:256 ^ k*B (o+k)<=256 ^ k*255:=Int.mul_le_mul_of_nonneg_left (by omega) (by omega)
  have h3:0<=256 ^ k*B (o+k):=Int.mul_nonneg (by omega) h1.1
  omega
theorem zC {w:World} {x:Addr} {v:Value} (h:w.cell? x=some v):x.block<w.heap.size:=by
 by_cases hx:x.block<w.heap.size
 ·exact hx
 ·simp[World.cell?,Array.getElem?_eq_none (Nat.le_of_not_lt hx)] at h
theorem wraps_u64 (n:Int) (h₀:0<=n) (h₁:n<2 ^ 64):IntKind.u64.wrap n=n:=by rw[IntKind.wrap_u64];omega
theorem or_u64 (i:Nat) (x y z:Int) (hx:0<=x) (hxi:x<2 ^ i) (hy:0<=y) (hyi:y%2 ^ i=0) (hy1:y<18446744073709551616) (hz:x+y=z) (hx1:x<18446744073709551616):bits .or .u64 x y=z:=by
 have e:bits .or .u64 x y=bits .or .u64 y x:=by simp only[bits];rw[BitVec.or_comm]
 rw[e,bits_join .u64 64 (by decide) wraps_u64 i y x hy hyi (by omega) hx hxi (by omega)]
 omega
theorem or_step (B:Nat->Int) (hB:∀ i,0<=B i∧B i<256) (o i:Nat) (hi:i<8):bits .or .u64 (num B o i) (IntKind.u64.wrap (B (o+i)*2 ^ (8*i)))=num B o (i+1):=by
 have h1:=num_bd B hB o i
 have h2:=hB (o+i)
 have e:(2:Int) ^ (8*i)=256 ^ i:=by rw[Int.pow_mul];rfl
 have hp:(0:Int)<256 ^ i:=Int.pow_pos (by decide)
 have hq:(256:Int) ^ i*256<=18446744073709551616:=by
  have:i=0∨i=1∨i=2∨i=3∨i=4∨i=5∨i=6∨i=7:=by omega
  rcases this with rfl|rfl|rfl|rfl|rfl|rfl|rfl|rfl<;>decide
 rw[e]
 have h3:B (o+i)*256 ^ i<=255*256 ^ i:=Int.mul_le_mul_of_nonneg_right (by omega) (by omega)
 have h4:0<=B (o+i)*256 ^ i:=Int.mul_nonneg h2.1 (by omega)
 rw[wraps_u64 _ h4 (by omega)]
 refine or_u64 (8*i) _ _ _ h1.1 (by rw[e];exact h1.2) h4 (by rw[e];exact Int.mul_emod_left _ _) (by omega) ?_ (by omega)
 simp only[num]
 rw[Int.mul_comm]
theorem num_front (B:Nat->Int) (o:Nat):∀ m,num B o (m+1)=B o+256*num B (o+1) m
 |0=>by simp[num]
 |m+1=>by
  have ih:=num_front B o m
  have e1:num B o (m+1+1)=num B o (m+1)+256 ^ (m+1)*B (o+(m+1)):=rfl
  have e2:num B (o+1) (m+1)=num B (o+1) m+256 ^ m*B (o+1+m):=rfl
  rw[e1,ih,e2,show o+1+m=o+(m+1) by omega,Int.pow_succ,Int.mul_add,<-Int.mul_assoc,Int.mul_comm (256 ^ m) 256]
  omega
theorem or_front (B:Nat->Int) (hB:∀ i,0<=B i∧B i<256) (o m:Nat) (hm:m<8):bits .or .u64 (IntKind.u64.wrap (num B (o+1) m*256)) (B o)=num B o (m+1):=by
 have h1:=num_bd B hB (o+1) m
 have h2:=hB o
 have hq:(256:Int) ^ m*256<=18446744073709551616:=by
  have:m=0∨m=1∨m=2∨m=3∨m=4∨m=5∨m=6∨m=7:=by omega
  rcases this with rfl|rfl|rfl|rfl|rfl|rfl|rfl|rfl<;>decide
 rw[wraps_u64 _ (by omega) (by omega)]
 rw[bits_join .u64 64 (by decide) wraps_u64 8 _ _ (by omega) (by omega) (by omega) h2.1 (by omega) (by omega),num_front]
 omega
def Row (w:World) (b o n:Nat) (B:Nat->Int):Prop:=∀ i,i<n->w.cell? ⟨b,o+i,.none⟩=some (.int .u8 (B i))
theorem Row.keep {w w':World} {b o n:Nat} {B:Nat->Int} (h:Row w b o n B) (hb:Below w.heap.size w w'):Row w' b o n B:=fun i hi=>(hb.cell (zC (h i hi))).trans (h i hi)
theorem cut_any (b o n c at_ k:Nat) (w:World) (hk:0<k) (h:at_+k<=c) (hc:c<=9223372036854775807):Calls Tryz.prog 170 #[.slice (some ⟨b,o,.none⟩) n c,.int .i64 at_,.int .i64 k] w fun e w'=>e = .returned (.slice (some ⟨b,o+at_,.none⟩) k k)∧w'=w:=by
 have h1:(at_:Int)+k<=c:=by omega
 have h2:(c:Int)<=9223372036854775807:=by omega
 go_enter Tryz.func170,Tryz.ntmps170
 go_wp2
 go_ret
 exact⟨by simp,rfl⟩
theorem in_any (b o n c at_ k:Nat) (fx:Int) (B:Nat->Int) (w:World) (hn:at_+k<=n) (hc:n<=c) (hcm:c<=9223372036854775807) (hk0:0<k) (hk:k<=8) (hB:∀ i,0<=B i∧B i<256) (h:Row w b o n B) :
  Calls Tryz.prog 176 #[.agg #[.int .i64 at_,.int .i64 k,.int .u64 fx],.slice (some ⟨b,o,.none⟩) n c] w fun e w'=>e = .returned (.int .u64 (num B at_ k))∧Below w.heap.size w w':=by
 have c35:=fun w'=>cut_any b o n c at_ k w' hk0 (by omega) hcm
 go_enter Tryz.func176,Tryz.ntmps176
 go_wp2_with (first|(go_at_call 170;refine(c35 _).mono ?_;rintro e w1 ⟨rfl,rfl⟩)|fail)
 have HB1:Hid (Below w.heap.size w (w.alloc (.cells #[.int .i64 at_,.int .i64 k,.int .u64 fx] 204))):=zB.alloc zL _
 generalize (w.alloc (.cells #[.int .i64 at_,.int .i64 k,.int .u64 fx] 204))=W1 at *
 go_loopw [5,15] (fun v a wr=>∃ i:Nat,i<=k∧a = .int .i64 i∧v = .int .u64 (num B at_ i)∧wr=W1) (fun _ a _=>(k-intOf a).toNat)
 case atStart=>exact⟨0,by omega,rfl,rfl,rfl⟩
 case round=>
  obtain⟨i,hi,rfl,rfl,rfl⟩:=hrel
  by_cases hlt:i<k
  ·have g0:(i:Int)<k:=by omega
   have a0:wr.cell? ⟨b,o+at_+i,.none⟩=some (.int .u8 (B (at_+i))):=by
    have:=(h.keep HB1.out) (at_+i) (by omega)
    rwa [<-Nat.add_assoc] at this
   have bb:=hB (at_+i)
   have ho:=or_step B hB at_ i (by omega)
   go_wp2_with fail
   exact⟨⟨i+1,by omega,by simp,rfl,trivial⟩,by simp[intOf];omega⟩
  ·have he:i=k:=by omega
   have hn:¬ ((i:Int)<k):=by omega
   subst he
   go_wp2_with fail
   go_ret
   exact⟨rfl,HB1.out⟩
end
section
open Go.RowKit
theorem lies_any (rb n c:Nat) (fp:Option Addr) (a k:Int) (w:World) (h:w.cell? ⟨rb,0,.none⟩=some (.slice fp n c)) (hn:n<=300000) (ha:0<=a∧a<18446744073709551616) (hk:0<=k∧k<18446744073709551616) :
  Calls Tryz.prog 204 #[.pointer (some ⟨rb,0,.none⟩),.int .u64 a,.int .u64 k] w fun e w'=>e = .returned (.bool (decide (a+k<=n)))∧w'=w:=by
 by_cases h1:k<=n
 ·have h2:IntKind.u64.wrap ((n:Int)-k)=(n:Int)-k:=by rw[IntKind.wrap_u64];omega
  go_enter Tryz.func204,Tryz.ntmps204
  go_wp2
  all_goals go_ret
  all_goals exact⟨by simp;omega,rfl⟩
 ·go_enter Tryz.func204,Tryz.ntmps204
  go_wp2
  all_goals go_ret
  all_goals exact⟨by simp;omega,rfl⟩
def mf (f:Int):Bool:=f == 1 || f == 4 || f == 5 || f == 6 || f == 7
theorem mayFlags_any (f:Int) (w:World) (hf:0<=f∧f<4294967296):Calls Tryz.prog 134 #[.int .u32 f] w fun e w'=>e = .returned (.bool (mf f))∧w'=w:=by
 by_cases h:1<=f∧f<=7
 ·have:f=1∨f=2∨f=3∨f=4∨f=5∨f=6∨f=7:=by omega
  rcases this with rfl|rfl|rfl|rfl|rfl|rfl|rfl
  all_goals
   go_enter Tryz.func134,Tryz.ntmps134
   go_wp2
   all_goals go_ret
   all_goals exact⟨by rfl,rfl⟩
 ·go_enter Tryz.func134,Tryz.ntmps134
  go_wp2
  all_goals go_ret
  all_goals exact⟨by simp[mf];omega,rfl⟩
def ok1 (va fl sz mem:Int):Bool:=decide (va%4096=0) && mf fl && decide (1<=mem) && decide (sz<=mem) && decide (va+mem<=1073741824)
theorem mayBe_any (va fl sz mem:Int) (d:Value) (w:World) (hv:0<=va∧va<18446744073709551616) (hf:0<=fl∧fl<4294967296) (hs:0<=sz∧sz<18446744073709551616) (hm:0<=mem∧mem<18446744073709551616) (hd:∃ p n c,d = .slice p n c) :
  Calls Tryz.prog 79 #[.agg #[.int .u64 va,.int .u32 fl,d,.int .u64 mem],.int .u64 sz] w fun e w'=>e = .returned (.bool (ok1 va fl sz mem))∧Below w.heap.size w w':=by
 obtain⟨p,n,c,rfl⟩:=hd
 have HB:Hid (Below w.heap.size w (w.alloc (.cells #[.int .u64 va,.int .u32 fl,.slice p n c,.int .u64 mem] 38))):=zB.alloc zL _
 have c40:=fun w'=>mayFlags_any fl w' hf
 by_cases h0:va%4096=0
 ·by_cases h1:mf fl=true
  ·by_cases h2:mem<1
   ·rw[h1] at c40
    go_enter Tryz.func79,Tryz.ntmps79
    go_wp2_with (first|(go_at_call 134;refine(c40 _).mono ?_;rintro e w1 ⟨rfl,rfl⟩)|fail)
    all_goals go_ret
    all_goals exact⟨by simp[ok1];omega,HB.out⟩
   ·by_cases h3:mem<sz
    ·rw[h1] at c40
     go_enter Tryz.func79,Tryz.ntmps79
     go_wp2_with (first|(go_at_call 134;refine(c40 _).mono ?_;rintro e w1 ⟨rfl,rfl⟩)|fail)
     all_goals go_ret
     all_goals exact⟨by simp[ok1];omega,HB.out⟩
    ·by_cases h4:mem<=1073741824
     ·rw[h1] at c40
      go_enter Tryz.func79,Tryz.ntmps79
      go_wp2_with (first|(go_at_call 134;refine(c40 _).mono ?_;rintro e w1 ⟨rfl,rfl⟩)|fail)
      all_goals go_ret
      all_goals refine⟨?_,HB.out⟩
      all_goals simp[ok1,h0,h1]
      all_goals rw[Bool.eq_iff_iff]
      all_goals simp
      all_goals omega
     ·rw[h1] at c40
      go_enter Tryz.func79,Tryz.ntmps79
      go_wp2_with (first|(go_at_call 134;refine(c40 _).mono ?_;rintro e w1 ⟨rfl,rfl⟩)|fail)
      all_goals go_ret
      all_goals refine⟨?_,HB.out⟩
      all_goals simp[ok1,h0,h1]
      all_goals omega
  ·have h1:mf fl=false:=by simpa using h1
   rw[h1] at c40
   go_enter Tryz.func79,Tryz.ntmps79
   go_wp2_with (first|(go_at_call 134;refine(c40 _).mono ?_;rintro e w1 ⟨rfl,rfl⟩)|fail)
   all_goals go_ret
   all_goals exact⟨by simp[ok1,h1],HB.out⟩
 ·have h0':(va%4096 != 0)=true:=by simpa using h0
  go_enter Tryz.func79,Tryz.ntmps79
  go_wp2_with (first|(go_at_call 134;refine(c40 _).mono ?_;rintro e w1 ⟨rfl,rfl⟩)|fail)
  all_goals go_ret
  all_goals exact⟨by simp[ok1,h0],HB.out⟩
theorem refusal_any (a r:Int) (w:World):Calls Tryz.prog 38 #[.int .i64 a,.int .i64 r] w fun e w'=>e = .returned (.pointer (some ⟨w.heap.size,0,.none⟩))∧w'=w.alloc (.cells #[.string ramB,.int .i64 a,.iface 45 (.int .i64 r)] 151):=by
 go_enter Tryz.func38,Tryz.ntmps38
 go_wp2
 go_ret
 exact⟨rfl,rfl⟩
def Up (w:World) (a r:Int) (e:Ending) (w':World):Prop:=∃ v,e = .panicked [{ v:=v,recovered:=false }]∧FaultIn w' w.heap.size v a r∧Below w.heap.size w w'
theorem giveUp_any (a r:Int) (w:World):Calls Tryz.prog 175 #[.int .i64 a,.int .i64 r] w fun e w'=>Up w a r e w':=by
 go_enter Tryz.func175,Tryz.ntmps175
 go_wp2_with (go_at_call 38;refine(refusal_any a r w).mono ?_;rintro e w0 ⟨rfl,rfl⟩)
 exact⟨rfl,_,rfl,faultIn_new w w.heap.size a r zL,zB.alloc zL _⟩
theorem Up.back {V w w':World} {a r:Int} {e:Ending} (h:Up w a r e w') (b:Below V.heap.size V w):Up V a r e w':=by
 obtain⟨v,h1,⟨x,h2,h3⟩,h4⟩:=h
 exact⟨v,h1,⟨x,Nat.le_trans b.size h2,h3⟩,b.trans (h4.mono b.size)⟩
end
section
open Go.RowKit
def hOf:Nat->Nat:=fun i=>[0,4,5,6,16,18,20,24,32,52,54,56].getD i 0
def hBy:Nat->Nat:=fun i=>[4,1,1,1,2,2,4,8,8,2,2,2].getD i 0
def hFx:Nat->Int:=fun i=>[1179403647,2,1,1,2,243,1,0,0,64,56,0].getD i 0
def sOf:Nat->Nat:=fun i=>[0,4,8,16,24,32,40,48].getD i 0
def sBy:Nat->Nat:=fun i=>[4,4,8,8,8,8,8,8].getD i 0
def sFx:Nat->Int:=fun i=>[1,0,0,0,0,0,0,4096].getD i 0
structure Laid (w:World):Prop where
 h0:∀ i,i<12->w.cell? ⟨0,i*3,.none⟩=some (.int .i64 (hOf i))
 h1:∀ i,i<12->w.cell? ⟨0,i*3+1,.none⟩=some (.int .i64 (hBy i))
 h2:∀ i,i<12->w.cell? ⟨0,i*3+2,.none⟩=some (.int .u64 (hFx i))
 s0:∀ i,i<8->w.cell? ⟨1,i*3,.none⟩=some (.int .i64 (sOf i))
 s1:∀ i,i<8->w.cell? ⟨1,i*3+1,.none⟩=some (.int .i64 (sBy i))
 s2:∀ i,i<8->w.cell? ⟨1,i*3+2,.none⟩=some (.int .u64 (sFx i))
theorem Laid.below {w w':World} (h:Laid w) (b:Below w.heap.size w w'):Laid w':=
 ⟨fun i hi=>(b.cell (zC (h.h0 i hi))).trans (h.h0 i hi),fun i hi=>(b.cell (zC (h.h1 i hi))).trans (h.h1 i hi),fun i hi=>(b.cell (zC (h.h2 i hi))).trans (h.h2 i hi),fun i hi=>(b.cell (zC (h.s0 i hi))).trans (h.s0 i hi),fun i hi=>(b.cell (zC (h.s1 i hi))).trans (h.s1 i hi),fun i hi=>(b.cell (zC (h.s2 i hi))).trans (h.s2 i hi)⟩
def chk (B:Nat->Int) (i:Nat):Prop:=hFx i=0∨num B (hOf i) (hBy i)=hFx i
instance (B:Nat->Int) (i:Nat):Decidable (chk B i):=by unfold chk;infer_instance
def Hd (B:Nat->Int) (a r:Int):Prop:=(r=0∧a=0∧∀ i,i<12->chk B i)∨∃ i,i<12∧(∀ j,j<i->chk B j)∧¬ chk B i∧a=hOf i∧r=(if i<4 then 141 else 142)
theorem hd_one {B:Nat->Int} {a r a' r':Int} (h:Hd B a r) (h':Hd B a' r'):a=a'∧r=r':=by
 rcases h with⟨h1,h2,h3⟩|⟨i,h1,h2,h3,h4,h5⟩<;>rcases h' with⟨g1,g2,g3⟩|⟨j,g1,g2,g3,g4,g5⟩
 ·omega
 ·exact absurd (h3 j g1) g3
 ·exact absurd (g3 i h1) h3
 ·have:i=j:=by
   rcases Nat.lt_trichotomy i j with e|e|e
   ·exact absurd (g2 i e) h3
   ·exact e
   ·exact absurd (h2 j e) g3
  subst this
  exact⟨h4.trans g4.symm,h5.trans g5.symm⟩
structure Fil (w:World) (rb b o n c:Nat) (B:Nat->Int):Prop where
 f0:w.cell? ⟨rb,0,.none⟩=some (.slice (some ⟨b,o,.none⟩) n c)
 row:Row w b o n B
 bd:∀ i,0<=B i∧B i<256
 nc:n<=c∧c<=9223372036854775807
theorem Fil.below {w w':World} {rb b o n c:Nat} {B:Nat->Int} (h:Fil w rb b o n c B) (k:Below w.heap.size w w'):Fil w' rb b o n c B:=
 ⟨(k.cell (zC h.f0)).trans h.f0,h.row.keep k,h.bd,h.nc⟩
theorem length_ok (rb n c:Nat) (fp:Option Addr) (w:World) (h:w.cell? ⟨rb,0,.none⟩=some (.slice fp n c)) (h1:n<=262144) (h2:64<=n):Calls Tryz.prog 171 #[.pointer (some ⟨rb,0,.none⟩)] w fun e w'=>e = .returned (.tuple #[])∧w'=w:=by
 go_enter Tryz.func171,Tryz.ntmps171
 go_wp2
 exact⟨rfl,_,results_none rfl _ _ _,rfl,rfl⟩
theorem length_up (rb n c:Nat) (fp:Option Addr) (w:World) (h:w.cell? ⟨rb,0,.none⟩=some (.slice fp n c)) (h1:262144<n):Calls Tryz.prog 171 #[.pointer (some ⟨rb,0,.none⟩)] w fun e w'=>Up w 262144 147 e w':=by
 go_enter Tryz.func171,Tryz.ntmps171
 go_wp2_with (go_at_call 175;refine(giveUp_any _ _ _).mono ?_;rintro e w0 ⟨v,rfl,hu⟩)
 exact⟨rfl,v,rfl,hu⟩
theorem length_lo (rb n c:Nat) (fp:Option Addr) (w:World) (h:w.cell? ⟨rb,0,.none⟩=some (.slice fp n c)) (h1:n<64):Calls Tryz.prog 171 #[.pointer (some ⟨rb,0,.none⟩)] w fun e w'=>Up w n 140 e w':=by
 go_enter Tryz.func171,Tryz.ntmps171
 go_wp2_with (go_at_call 175;refine(giveUp_any _ _ _).mono ?_;rintro e w0 ⟨v,rfl,hu⟩)
 exact⟨rfl,v,rfl,hu⟩
def hList:List Value:=[.int .i64 0,.int .i64 4,.int .u64 1179403647,.int .i64 4,.int .i64 1,.int .u64 2,.int .i64 5,.int .i64 1,.int .u64 1,.int .i64 6,.int .i64 1,.int .u64 1,.int .i64 16,.int .i64 2,.int .u64 2,.int .i64 18,.int .i64 2,.int .u64 243,.int .i64 20,.int .i64 4,.int .u64 1,.int .i64 24,.int .i64 8,.int .u64 0,.int .i64 32,.int .i64 8,.int .u64 0,.int .i64 52,.int .i64 2,.int .u64 64,.int .i64 54,.int .i64 2,.int .u64 56,.int .i64 56,.int .i64 2,.int .u64 0]
theorem lt12 {i:Nat} (h:i<12):i=0∨i=1∨i=2∨i=3∨i=4∨i=5∨i=6∨i=7∨i=8∨i=9∨i=10∨i=11:=by omega
theorem idx_head (i:Nat) (h:i<12) (w:World):(Instr.index 205 (.agg hList.toArray) (.int .i64 i)).run Tryz.prog w = .ok (.agg #[.int .i64 (hOf i),.int .i64 (hBy i),.int .u64 (hFx i)]) w:=by
 rcases lt12 h with rfl|rfl|rfl|rfl|rfl|rfl|rfl|rfl|rfl|rfl|rfl|rfl<;>kernel_rfl
theorem hList_at (i:Nat) (h:i<12):hList[i*3]? = some (.int .i64 (hOf i))∧hList[i*3+1]? = some (.int .i64 (hBy i))∧hList[i*3+2]? = some (.int .u64 (hFx i)):=by
 rcases lt12 h with rfl|rfl|rfl|rfl|rfl|rfl|rfl|rfl|rfl|rfl|rfl|rfl<;>exact⟨rfl,rfl,rfl⟩
theorem head_range (w:World) (h:Laid w):w.rangeAt 0 0 hList:=by
 intro j v hj
 have hl:j<36:=(List.getElem?_eq_some_iff.1 hj).1
 rw[Nat.zero_add]
 have e:j=j/3*3∨j=j/3*3+1∨j=j/3*3+2:=by omega
 have h12:j/3<12:=by omega
 obtain⟨l0,l1,l2⟩:=hList_at (j/3) h12
 rcases e with e|e|e
 ·rw[e,l0] at hj
  injection hj with hj
  rw[e,<-hj]
  exact h.h0 _ h12
 ·rw[e,l1] at hj
  injection hj with hj
  rw[e,<-hj]
  exact h.h1 _ h12
 ·rw[e,l2] at hj
  injection hj with hj
  rw[e,<-hj]
  exact h.h2 _ h12
theorem hOf_le (i:Nat) (h:i<12):hOf i+hBy i<=64∧0<hBy i∧hBy i<=8:=by
 rcases lt12 h with rfl|rfl|rfl|rfl|rfl|rfl|rfl|rfl|rfl|rfl|rfl|rfl<;>decide
theorem hOf_16 (i:Nat) (h:i<12):hOf i<16↔i<4:=by
 rcases lt12 h with rfl|rfl|rfl|rfl|rfl|rfl|rfl|rfl|rfl|rfl|rfl|rfl<;>decide
set_option maxRecDepth 100000 in
theorem head_any {w:World} {rb b o n c:Nat} {B:Nat->Int} (hL:Laid w) (hF:Fil w rb b o n c B) (h64:64<=n):Calls Tryz.prog 172 #[.pointer (some ⟨rb,0,.none⟩)] w fun e w'=>∃ a r,Hd B a r∧((r=0∧e = .returned (.tuple #[])∧Below w.heap.size w w')∨(r≠0∧Up w a r e w')):=by
 have HFi:Hid (Fil w rb b o n c B):=hF
 have ix:∀ i:Nat,i<12 -> ∀ w,(Instr.index 205 (.agg hList.toArray) (.int .i64 i)).run Tryz.prog w = .ok (.agg #[.int .i64 (hOf i),.int .i64 (hBy i),.int .u64 (hFx i)]) w:=fun i hi w=>idx_head i hi w
 go_enter Tryz.func172,Tryz.ntmps172
 go_upto_region 0 with fail
 refine wp_region_lit ?_
 refine wpList_load_mid rfl 205 (.global 0) rfl 0 0 rfl hList _ (head_range w hL) Tryz.underlying205 rfl (by kernel_rfl) ?_
 clear hF hL
 have HX:Hid (∀ i:Nat,i<12 -> ∀ w,(Instr.index 205 (.agg hList.toArray) (.int .i64 i)).run Tryz.prog w = .ok (.agg #[.int .i64 (hOf i),.int .i64 (hBy i),.int .u64 (hFx i)]) w):=ix
 clear ix
 generalize hList.toArray=hl at *
 simp only[X0,X1,X2,X3]
 go_wp2_with fail
 go_loopw [5] (fun a wr=>∃ i:Nat,i<=12∧a = .int .i64 i∧Hid ((∀ j,j<i->chk B j)∧Below w.heap.size w wr)) (fun a _=>(12-intOf a).toNat)
 case atStart=>exact⟨0,by omega,rfl,fun j hj=>by omega,Below.refl _ _⟩
 case round=>
  obtain⟨i,hi,rfl,HS⟩:=hrel
  by_cases hlt:i<12
  ·have g0:(i:Int)<12:=by omega
   have ix:=HX.out i hlt
   have hle:=hOf_le i hlt
   go_upto_region 3 with fail
   clear ix
   have HWx:Hid (Below w.heap.size w (wr.alloc (.cells #[.int .i64 (hOf i),.int .i64 (hBy i),.int .u64 (hFx i)] 204))):=HS.out.2.alloc HS.out.2.size _
   have q0:(wr.alloc (.cells #[.int .i64 (hOf i),.int .i64 (hBy i),.int .u64 (hFx i)] 204)).cell? ⟨wr.heap.size,0,.none⟩=some (.int .i64 (hOf i)):=World.cell?_alloc_at _ _ _ _ rfl
   have q1:(wr.alloc (.cells #[.int .i64 (hOf i),.int .i64 (hBy i),.int .u64 (hFx i)] 204)).cell? ⟨wr.heap.size,1,.none⟩=some (.int .i64 (hBy i)):=World.cell?_alloc_at _ _ _ _ rfl
   have q2:(wr.alloc (.cells #[.int .i64 (hOf i),.int .i64 (hBy i),.int .u64 (hFx i)] 204)).cell? ⟨wr.heap.size,2,.none⟩=some (.int .u64 (hFx i)):=World.cell?_alloc_at _ _ _ _ rfl
   generalize (wr.alloc (.cells #[.int .i64 (hOf i),.int .i64 (hBy i),.int .u64 (hFx i)] 204))=Wx at *
   generalize wr.heap.size=x at *
   have q3:Wx.cell? ⟨rb,0,.none⟩=some (.slice (some ⟨b,o,.none⟩) n c):=(HFi.out.below HWx.out).f0
   have c28:∀ W',Below Wx.heap.size Wx W'->Calls Tryz.prog 176 #[.agg #[.int .i64 (hOf i),.int .i64 (hBy i),.int .u64 (hFx i)],.slice (some ⟨b,o,.none⟩) n c] W' fun e w'=>e = .returned (.int .u64 (num B (hOf i) (hBy i)))∧Below W'.heap.size W' w':=fun W' hb=>in_any b o n c (hOf i) (hBy i) (hFx i) B W' (by omega) HFi.out.nc.1 HFi.out.nc.2 hle.2.1 hle.2.2 HFi.out.bd ((HFi.out.below HWx.out).row.keep hb)
   have hb0:Below Wx.heap.size Wx Wx.drew:=zB.drew
   by_cases hz:hFx i=0
   ·have HN:Hid ((∀ j,j<i+1->chk B j)∧Below w.heap.size w Wx.drew):=⟨fun j hj=>by
     by_cases e:j=i
     ·subst e;exact .inl hz
     ·exact HS.out.1 j (by omega),HWx.out.drew⟩
    have k0:Wx.drew.cell? ⟨x,0,.none⟩=some (.int .i64 (hOf i))∧Wx.drew.cell? ⟨x,1,.none⟩=some (.int .i64 (hBy i))∧Wx.drew.cell? ⟨x,2,.none⟩=some (.int .u64 (hFx i))∧Wx.drew.cell? ⟨rb,0,.none⟩=some (.slice (some ⟨b,o,.none⟩) n c):=⟨q0,q1,q2,q3⟩
    go_upto_region 3 with fail
    refine wp_region_held_drew (S:=fun U2=>U2.cell? ⟨x,0,.none⟩=some (.int .i64 (hOf i))∧U2.cell? ⟨x,1,.none⟩=some (.int .i64 (hBy i))∧U2.cell? ⟨x,2,.none⟩=some (.int .u64 (hFx i))∧U2.cell? ⟨rb,0,.none⟩=some (.slice (some ⟨b,o,.none⟩) n c)) (by kernel_rfl) k0 (fun hHeld=>?_)
    refine aT 0 (.pointer (some ⟨x,2,.none⟩)) rfl ?_
    simp only[xX]
    refine aT 1 (.int .u64 (hFx i)) rfl ?_
    simp only[xX]
    refine aT 2 (.bool true) rfl ?_
    simp only[xX]
    refine aT 3 (.bool true) rfl ?_
    simp only[xX]
    refine aU 4 rfl ?_
    simp only[xX]
    refine aU 5 rfl ?_
    simp only[xX]
    refine aU 6 rfl ?_
    simp only[xX]
    refine aU 7 rfl ?_
    simp only[xX]
    refine aU 8 rfl ?_
    simp only[xX]
    refine aU 9 rfl ?_
    simp only[xX]
    refine aU 10 rfl ?_
    simp only[xX]
    refine aU 11 rfl ?_
    simp only[xX]
    refine aU 12 rfl ?_
    simp only[xX]
    refine aT 13 (.bool true) rfl ?_
    simp only[xX]
    refine wpAnyH_done (by kernel_rfl) ?_ _
    clear hHeld k0 q0 q1 q2 q3
    go_wp2_with fail
    exact⟨⟨i+1,by omega,by simp,HN⟩,by simp[intOf];omega⟩
   ·have hz':(hFx i == 0)=false:=by simpa using hz
    by_cases hm:num B (hOf i) (hBy i)=hFx i
    ·have HN:Hid (∀ j,j<i+1->chk B j):=fun j hj=>by
      by_cases e:j=i
      ·subst e;exact .inr hm
      ·exact HS.out.1 j (by omega)
     have hm':(num B (hOf i) (hBy i) == hFx i)=true:=by simpa using hm
     have k0:Wx.drew.cell? ⟨x,0,.none⟩=some (.int .i64 (hOf i))∧Wx.drew.cell? ⟨x,1,.none⟩=some (.int .i64 (hBy i))∧Wx.drew.cell? ⟨x,2,.none⟩=some (.int .u64 (hFx i))∧Wx.drew.cell? ⟨rb,0,.none⟩=some (.slice (some ⟨b,o,.none⟩) n c):=⟨q0,q1,q2,q3⟩
     go_upto_region 3 with fail
     refine wp_region_held_drew (S:=fun U2=>U2.cell? ⟨x,0,.none⟩=some (.int .i64 (hOf i))∧U2.cell? ⟨x,1,.none⟩=some (.int .i64 (hBy i))∧U2.cell? ⟨x,2,.none⟩=some (.int .u64 (hFx i))∧U2.cell? ⟨rb,0,.none⟩=some (.slice (some ⟨b,o,.none⟩) n c)) (by kernel_rfl) k0 (fun hHeld=>?_)
     refine aT 0 (.pointer (some ⟨x,2,.none⟩)) rfl ?_
     simp only[xX]
     refine aT 1 (.int .u64 (hFx i)) rfl ?_
     simp only[xX]
     refine aT 2 (.bool false) rfl ?_
     simp only[xX]
     refine aT 3 (.bool false) rfl ?_
     simp only[xX]
     refine aT 4 (.agg #[.int .i64 (hOf i),.int .i64 (hBy i),.int .u64 (hFx i)]) rfl ?_
     simp only[xX]
     refine aT 5 (.pointer (some ⟨rb,0,.none⟩)) rfl ?_
     simp only[xX]
     refine aT 6 (.pointer (some ⟨rb,0,.none⟩)) rfl ?_
     simp only[xX]
     refine aT 7 (.pointer (some ⟨rb,0,.none⟩)) rfl ?_
     simp only[xX]
     refine aT 8 (.slice (some ⟨b,o,.none⟩) n c) rfl ?_
     simp only[xX]
     refine aT 10 (.pointer (some ⟨x,2,.none⟩)) rfl ?_
     simp only[xX]
     refine aT 11 (.int .u64 (hFx i)) rfl ?_
     simp only[xX]
     refine zR 9 rfl (fun K hK=>?_)
     go_simp
     go_at_call 176
     refine(c28 _ (by assumption)).mono ?_
     rintro e W5 ⟨rfl,hb5⟩
     have HW5:Hid (Below w.heap.size w W5∧Below Wx.drew.heap.size Wx.drew W5):=⟨HWx.out.trans (((zB.drew:Below Wx.heap.size Wx Wx.drew).trans hb5).mono HWx.out.size),hb5⟩
     have k1:W5.cell? ⟨x,0,.none⟩=some (.int .i64 (hOf i))∧W5.cell? ⟨x,1,.none⟩=some (.int .i64 (hBy i))∧W5.cell? ⟨x,2,.none⟩=some (.int .u64 (hFx i))∧W5.cell? ⟨rb,0,.none⟩=some (.slice (some ⟨b,o,.none⟩) n c):=⟨(hb5.cell (zC k0.1)).trans k0.1,(hb5.cell (zC k0.2.1)).trans k0.2.1,(hb5.cell (zC k0.2.2.1)).trans k0.2.2.1,(hb5.cell (zC k0.2.2.2)).trans k0.2.2.2⟩
     clear hb5
     refine hK.out _ _ k1 (fun hHeld=>?_)
     clear hK K
     try simp only[xX]
     refine aT 12 (.bool true) rfl ?_
     simp only[xX]
     refine aT 13 (.bool true) rfl ?_
     simp only[xX]
     refine wpAnyH_done (by kernel_rfl) ?_ _
     clear hHeld k0 k1 q0 q1 q2 q3
     go_wp2_with fail
     exact⟨⟨i+1,by omega,by simp,HN,HW5.out.1⟩,by simp[intOf];omega⟩
    ·have hm':(num B (hOf i) (hBy i) == hFx i)=false:=by simpa using hm
     have HD:Hid (¬ chk B i):=fun h=>h.elim hz hm
     have h16:=hOf_16 i hlt
     have k0:Wx.drew.cell? ⟨x,0,.none⟩=some (.int .i64 (hOf i))∧Wx.drew.cell? ⟨x,1,.none⟩=some (.int .i64 (hBy i))∧Wx.drew.cell? ⟨x,2,.none⟩=some (.int .u64 (hFx i))∧Wx.drew.cell? ⟨rb,0,.none⟩=some (.slice (some ⟨b,o,.none⟩) n c):=⟨q0,q1,q2,q3⟩
     go_upto_region 3 with fail
     refine wp_region_held_drew (S:=fun U2=>U2.cell? ⟨x,0,.none⟩=some (.int .i64 (hOf i))∧U2.cell? ⟨x,1,.none⟩=some (.int .i64 (hBy i))∧U2.cell? ⟨x,2,.none⟩=some (.int .u64 (hFx i))∧U2.cell? ⟨rb,0,.none⟩=some (.slice (some ⟨b,o,.none⟩) n c)) (by kernel_rfl) k0 (fun hHeld=>?_)
     refine aT 0 (.pointer (some ⟨x,2,.none⟩)) rfl ?_
     simp only[xX]
     refine aT 1 (.int .u64 (hFx i)) rfl ?_
     simp only[xX]
     refine aT 2 (.bool false) rfl ?_
     simp only[xX]
     refine aT 3 (.bool false) rfl ?_
     simp only[xX]
     refine aT 4 (.agg #[.int .i64 (hOf i),.int .i64 (hBy i),.int .u64 (hFx i)]) rfl ?_
     simp only[xX]
     refine aT 5 (.pointer (some ⟨rb,0,.none⟩)) rfl ?_
     simp only[xX]
     refine aT 6 (.pointer (some ⟨rb,0,.none⟩)) rfl ?_
     simp only[xX]
     refine aT 7 (.pointer (some ⟨rb,0,.none⟩)) rfl ?_
     simp only[xX]
     refine aT 8 (.slice (some ⟨b,o,.none⟩) n c) rfl ?_
     simp only[xX]
     refine aT 10 (.pointer (some ⟨x,2,.none⟩)) rfl ?_
     simp only[xX]
     refine aT 11 (.int .u64 (hFx i)) rfl ?_
     simp only[xX]
     refine zR 9 rfl (fun K hK=>?_)
     go_simp
     go_at_call 176
     refine(c28 _ (by assumption)).mono ?_
     rintro e W5 ⟨rfl,hb5⟩
     have HW5:Hid (Below w.heap.size w W5∧Below Wx.drew.heap.size Wx.drew W5):=⟨HWx.out.trans (((zB.drew:Below Wx.heap.size Wx Wx.drew).trans hb5).mono HWx.out.size),hb5⟩
     have k1:W5.cell? ⟨x,0,.none⟩=some (.int .i64 (hOf i))∧W5.cell? ⟨x,1,.none⟩=some (.int .i64 (hBy i))∧W5.cell? ⟨x,2,.none⟩=some (.int .u64 (hFx i))∧W5.cell? ⟨rb,0,.none⟩=some (.slice (some ⟨b,o,.none⟩) n c):=⟨(hb5.cell (zC k0.1)).trans k0.1,(hb5.cell (zC k0.2.1)).trans k0.2.1,(hb5.cell (zC k0.2.2.1)).trans k0.2.2.1,(hb5.cell (zC k0.2.2.2)).trans k0.2.2.2⟩
     clear hb5
     refine hK.out _ _ k1 (fun hHeld=>?_)
     clear hK K
     try simp only[xX]
     refine aT 12 (.bool false) rfl ?_
     simp only[xX]
     refine aT 13 (.bool false) rfl ?_
     simp only[xX]
     refine wpAnyH_done (by kernel_rfl) ?_ _
     obtain⟨k1a,k1b,k1c,k1d⟩:=k1
     clear hHeld k0 q0 q1 q2 q3
     by_cases h4:i<4
     ·have g16:(hOf i:Int)<16:=by have:=h16.2 h4;omega
      go_wp2_with (go_at_call 175;refine(giveUp_any _ _ _).mono ?_;intro e w0 hu;obtain⟨v,rfl,hu2⟩:=id hu)
      exact⟨rfl,hOf i,141,.inr ⟨i,hlt,HS.out.1,HD.out,rfl,by rw[if_pos h4]⟩,.inr ⟨by decide,hu.back HW5.out.1⟩⟩
     ·have g16:¬ (hOf i:Int)<16:=by have:=fun h=>h4 (h16.1 h);omega
      go_wp2_with (go_at_call 175;refine(giveUp_any _ _ _).mono ?_;intro e w0 hu;obtain⟨v,rfl,hu2⟩:=id hu)
      exact⟨rfl,hOf i,142,.inr ⟨i,hlt,HS.out.1,HD.out,rfl,by rw[if_neg h4]⟩,.inr ⟨by decide,hu.back HW5.out.1⟩⟩
  ·have he:i=12:=by omega
   subst he
   go_wp2_with fail
   exact⟨rfl,_,results_none rfl _ _ _,0,0,.inl ⟨rfl,rfl,HS.out.1⟩,.inl ⟨rfl,rfl,HS.out.2⟩⟩
end
section
open Go.RowKit
theorem own_cell {w:World} {X e s n c k:Nat} {q:Option Addr} {xs:List Value} {v:Value} (h:w.ownsRow X e s (.slice q n c) n xs) (hk:xs[k]? = some v) (hn:0<n) (hl:k<n*s):∃ g,q=some ⟨g,0,.none⟩∧w.cell? ⟨g,k,.none⟩=some v:=by
 rcases h.2 with⟨_,h0⟩|⟨g,cap,cur,hv,hX,hh,hn',hc,hs,ht⟩
 ·omega
 ·injection hv with e1 e2 e3
  subst e1
  refine⟨g,rfl,?_⟩
  simp only[World.cell?,hh]
  show cur[k]? = _
  rw[<-Array.getElem?_toList,<-List.getElem?_take_of_lt hl,ht,hk]
theorem own_blk {V:World} {X e s n c g:Nat} {q:Option Addr} {xs:List Value} (h:V.ownsRow X e s (.slice q n c) n xs) (hg:Value.ownBlock (.slice q n c)=some g):∃ cur,V.heap[g]? = some (.cells cur e (0,0)):=by
 rcases h.2 with⟨h0,_⟩|⟨g',cap,cur,hv,hX,hh,_⟩
 ·injection h0 with h0
  subst h0
  simp[Value.ownBlock] at hg
 ·injection hv with e1
  subst e1
  simp only[Value.ownBlock,Option.some.injEq] at hg
  subst hg
  exact⟨cur,hh⟩
theorem own_base {w:World} {base b' e sz n:Nat} {v:Value} {xs:List Value} (h:w.ownsRow base e sz v n xs) (hb:b'<=base):w.ownsRow b' e sz v n xs:=by
 refine⟨h.1,?_⟩
 rcases h.2 with h0|⟨g,cap,cur,hv,h1,h2⟩
 ·exact .inl h0
 ·exact .inr ⟨g,cap,cur,hv,Nat.le_trans hb h1,h2⟩
theorem step_append_at {P:Program} {ops:Array Oper} {o:Oper} {a:Act} {w:World} {K:Act->World->Prop} {Q:Exit->Act->World->Prop} {E:Prop} (hgd:o.guard=none) (s x:Operand) (t:TypeId)
  (hop:o.op = .call { callee:=.builtin .append,args:=#[s,x],argTypes:=#[t,t] }) (base:Nat) (e:TypeId) (i:TypeInfo) (z:Value) (size bytes:Nat) (ht:P.underlying t=some (.slice e)) (hi:P.info? e=some i) (hz:i.zero=some z)
  (hsize:i.size=size) (hby:i.bytes=bytes) (hzs:z.cells.size=size) (hsz:0<size) (v:Value) (k:Nat) (xs:List Value) (hs:a.eval s=v) (hown:w.ownsRow base e size v k xs)
  (ad:Addr) (m c:Nat) (news:List Value) (hx:a.eval x = .slice (some ad) m c) (hl:news.length=m*size) (hnews:∀ j u,news[j]? = some u->w.cell? (ad.add j)=some u) (h1:∀ u∈news,u.oneCell'=true)
  (h63:k+m<=maxLen) (hbytes:(k+m)*bytes<=140737488355328) (hbase:base<=w.heap.size)
  (h:∀ v' w',w'.ownsRow base e size v' (k+m) (xs ++ news)->w.grownBy w' v.ownBlock->(v'.ownBlock=v.ownBlock∨v'.ownBlock=some w.heap.size)->K (a.put o.dst v') w'):if Region.wanted o (yielded ops a.tmps)=true then Oper.wp P o a w K Q else E:=by
 have hw:Region.wanted o (yielded ops a.tmps)=true:=by simp[Region.wanted,hgd]
 rw[if_pos hw]
 obtain⟨v',w',hrun,r1,r2,_,r4⟩:=run_append_own_at (P:=P) w base t o.type e i z size bytes ht hi hz hsize hby hzs hsz v k xs hown ad m c news hl hnews h1 h63 hbytes hbase
 unfold Oper.wp
 simp[execOp,hop,resolve,invoke,builtin,hs,hx,hrun,Result.andThen]
 exact h v' w' r1 r2 r4
theorem owns_below {w w':World} {X e s n:Nat} {v:Value} {xs:List Value} (h:w.ownsRow X e s v n xs) (k:Below w.heap.size w w'):w'.ownsRow X e s v n xs:=
 h.kept (row:=none) ⟨k.os,k.tape,k.output,k.size,fun b hb _=>k.block b hb⟩ (by cases v.ownBlock<;>simp)
structure Sg where
 va:Int
 fl:Int
 mem:Int
 wh:Nat
 sz:Nat
def byt (B:Nat->Int) (s:Sg):List Int:=(List.range s.sz).map fun j=>B (s.wh+j)
theorem byt_len (B:Nat->Int) (s:Sg):(byt B s).length=s.sz:=by simp[byt]
theorem byt_get (B:Nat->Int) (s:Sg) (j:Nat) (h:j<s.sz):(byt B s)[j]? = some (B (s.wh+j)):=by simp[byt,h]
def flatE:List (Sg×Value)->List Value
 |[]=>[]
 |x :: E=>[.int .u64 x.1.va,.int .u32 x.1.fl,x.2,.int .u64 x.1.mem] ++ flatE E
theorem flatE_app:∀ (E E':List (Sg×Value)),flatE (E ++ E')=flatE E ++ flatE E'
 |[],E'=>rfl
 |x :: E,E'=>by
  rw[List.cons_append,flatE,flatE,flatE_app E E',List.append_assoc]
theorem flatE_get:∀ (E:List (Sg×Value)) (i:Nat) (x:Sg×Value),E[i]? = some x->(flatE E)[i*4]? = some (.int .u64 x.1.va)∧(flatE E)[i*4+1]? = some (.int .u32 x.1.fl)∧(flatE E)[i*4+2]? = some x.2∧(flatE E)[i*4+3]? = some (.int .u64 x.1.mem)
 |[],i,x,h=>by simp at h
 |y :: E,0,x,h=>by
  simp only[List.getElem?_cons_zero,Option.some.injEq] at h
  subst h
  exact⟨rfl,rfl,rfl,rfl⟩
 |y :: E,i+1,x,h=>by
  simp only[List.getElem?_cons_succ] at h
  have:=flatE_get E i x h
  rw[show (i+1)*4=i*4+1+1+1+1 by omega]
  exact this
structure Gd (s:Sg):Prop where
 v:0<=s.va
 f:s.fl=1∨s.fl=4∨s.fl=5∨s.fl=6∨s.fl=7
 m:0<=s.mem
 e:s.va+s.mem<=1073741824
 z:s.sz<2000000
structure Segs (w:World) (X:Nat) (sv:Value) (E:List (Sg×Value)) (B:Nat->Int):Prop where
 own:w.ownsRow X 38 4 sv E.length (flatE E)
 dat:∀ x∈E,w.ownsRow X 5 1 x.2 x.1.sz (by8 (byt B x.1))
 gd:∀ x∈E,Gd x.1
theorem Segs.below {w w':World} {X:Nat} {sv:Value} {E:List (Sg×Value)} {B:Nat->Int} (h:Segs w X sv E B) (b:Below w.heap.size w w'):Segs w' X sv E B:=
 ⟨owns_below h.own b,fun x hx=>owns_below (h.dat x hx) b,h.gd⟩
theorem own_form {w:World} {X e s n:Nat} {v:Value} {xs:List Value} (h:w.ownsRow X e s v n xs):∃ q c,v = .slice q n c∧n<=c∧c<=9223372036854775807∧(q=none->n=0):=by
 rcases h.2 with⟨hv,h0⟩|⟨g',cap,cur,hv,hb,hg,hn,hm,_⟩
 ·exact⟨none,0,by rw[hv,h0],by omega,by omega,fun _=>h0⟩
 ·exact⟨_,cap,hv,hn,hm,fun e=>by cases e⟩
def ris (S:List Sg) (va:Int):Bool:=match S.getLast? with|none=>true|some l=>decide (l.va+l.mem<=va)
theorem rises_any {w:World} {X:Nat} {sv:Value} {E:List (Sg×Value)} {B:Nat->Int} (h:Segs w X sv E B) (hl:E.length<=8) (va fl mem:Int) (dp:Option Addr) (dn dc:Nat) :
  Calls Tryz.prog 80 #[sv,.agg #[.int .u64 va,.int .u32 fl,.slice dp dn dc,.int .u64 mem]] w fun e w'=>e = .returned (.bool (ris (E.map (·.1)) va))∧Below w.heap.size w w':=by
 obtain⟨q,c,rfl,hc1,hc2,hq⟩:=own_form h.own
 by_cases h0:E = []
 ·subst h0
  simp only[List.length_nil] at *
  go_enter Tryz.func80,Tryz.ntmps80
  go_wp2
  go_ret
  exact⟨rfl,zB.alloc zL _⟩
 ·obtain⟨l,hlast⟩:∃ l,E.getLast? = some l:=⟨E.getLast h0,List.getLast?_eq_some_getLast h0⟩
  have hn:0<E.length:=List.length_pos_iff.2 h0
  obtain⟨m,hm⟩:∃ m,E.length=m+1:=⟨E.length-1,by omega⟩
  have hg:E[m]? = some l:=by
   have:E.length-1=m:=by omega
   rw[<-this,<-List.getLast?_eq_getElem?]
   exact hlast
  obtain⟨f0,f1,f2,f3⟩:=flatE_get E _ l hg
  obtain⟨g,rfl,a0⟩:=own_cell h.own f0 hn (by omega)
  obtain⟨g1,e1,a1⟩:=own_cell h.own f1 hn (by omega)
  obtain⟨g2,e2,a2⟩:=own_cell h.own f2 hn (by omega)
  obtain⟨g3,e3,a3⟩:=own_cell h.own f3 hn (by omega)
  simp only[Option.some.injEq,Addr.mk.injEq,and_true] at e1 e2 e3
  subst e1 e2 e3
  have hgd:=h.gd l (List.mem_of_getElem? hg)
  obtain⟨ldq,ldc,hld,_⟩:=own_form (h.dat l (List.mem_of_getElem? hg))
  rw[hld] at a2
  have HB:Hid (Below w.heap.size w (w.alloc (.cells #[.int .u64 va,.int .u32 fl,.slice dp dn dc,.int .u64 mem] 38))):=zB.alloc zL _
  have b0:=(HB.out.cell (zC a0)).trans a0
  have b1:=(HB.out.cell (zC a1)).trans a1
  have b2:=(HB.out.cell (zC a2)).trans a2
  have b3:=(HB.out.cell (zC a3)).trans a3
  have er:ris (E.map (·.1)) va=decide (l.1.va+l.1.mem<=va):=by
   unfold ris
   rw[List.getLast?_map,hlast]
   rfl
  rw[er,hm]
  have h1:=hgd.v
  have h2:=hgd.m
  have h3:=hgd.e
  have hm8:m<8:=by omega
  have gi:(m:Int)<m+1:=by omega
  clear f0 f1 f2 f3 hld h a0 a1 a2 a3 er hlast hgd hg hl hc1 hn hm h0 hq
  go_enter Tryz.func80,Tryz.ntmps80
  go_wp2
  go_ret
  exact⟨rfl,HB.out.alloc HB.out.size _⟩
theorem row_cells {w:World} {b o n:Nat} {B:Nat->Int} (h:Row w b o n B) (a k:Nat) (hk:a+k<=n):∀ j u,(by8 ((List.range k).map fun j=>B (a+j)))[j]? = some u->w.cell? ((⟨b,o+a,.none⟩:Addr).add j)=some u:=by
 intro j u hj
 rw[le_addr_add]
 simp only[by8,List.getElem?_map,Option.map_eq_some_iff] at hj
 obtain⟨x,⟨y,hy,rfl⟩,rfl⟩:=hj
 obtain⟨h1,h2⟩:=List.getElem?_eq_some_iff.1 hy
 simp only[List.getElem_range] at h2
 subst h2
 have:=h (a+j) (by simp at h1;omega)
 rwa [<-Nat.add_assoc] at this
theorem newBytes_any {w:World} {rb b o n c:Nat} {B:Nat->Int} (hF:Fil w rb b o n c B) (hn:n<=262144) (hd A k:Nat) (hk:0<k) (hA:A<18446744073709551616) (hk2:k<18446744073709551616) :
  Calls Tryz.prog 205 #[.pointer (some ⟨rb,0,.none⟩),.int .i64 hd,.int .u64 A,.int .u64 k] w fun e w'=>(¬ A+k<=n∧Up w hd 140 e w')∨(A+k<=n∧∃ v,e = .returned v∧w'.ownsRow w.heap.size 5 1 v k (by8 ((List.range k).map fun j=>B (A+j)))∧Below w.heap.size w w'):=by
 have c34:=lies_any rb n c (some ⟨b,o,.none⟩) A k w hF.f0 (by omega) ⟨by omega,by omega⟩ ⟨by omega,by omega⟩
 have f0:=hF.f0
 by_cases h:A+k<=n
 ·rw[show decide ((A:Int)+k<=n)=true by simp;omega] at c34
  have c35:=cut_any b o n c A k w hk (by have:=hF.nc.1;omega) hF.nc.2
  obtain⟨i3,z3,hi3,hz3,hs3,hb3,hzs3⟩:=byte_info
  have hcl:=row_cells hF.row A k h
  have HR:Hid (∀ j u,(by8 ((List.range k).map fun j=>B (A+j)))[j]? = some u->w.cell? ((⟨b,o+A,.none⟩:Addr).add j)=some u):=hcl
  clear hcl
  go_enter Tryz.func205,Tryz.ntmps205
  go_wp2_with (first|(go_at_call 204;refine c34.mono ?_;rintro e w1 ⟨rfl,rfl⟩)|(go_at_call 170;refine c35.mono ?_;rintro e w2 ⟨rfl,rfl⟩)|(at_builtin;refine wpList_append_own _ rfl _ _ 24 rfl w2.heap.size 5 i3 z3 1 1 Tryz.underlying24 hi3 hz3 hs3 hb3 hzs3 (by decide) (.slice .none 0 0) 0 [] rfl (World.ownsRow_nil _ _ _ _) ⟨b,o+A,.none⟩ k k (by8 ((List.range k).map fun j=>B (A+j))) rfl (by simp[by8]) HR.out (by intro u hu;simp only[by8,List.mem_map] at hu;obtain⟨x,_,rfl⟩:=hu;rfl) (by unfold maxLen;omega) (by omega) zL ?_;intro v' w5 hown5 hgr5 _;simp only[Nat.zero_add,List.nil_append] at hown5))
  go_ret
  exact⟨_,rfl,hown5,zB.grown hgr5 zL (fun r e=>by simp[Value.ownBlock] at e)⟩
 ·rw[show decide ((A:Int)+k<=n)=false by simp;omega] at c34
  go_enter Tryz.func205,Tryz.ntmps205
  go_wp2_with (first|(go_at_call 204;refine c34.mono ?_;rintro e w1 ⟨rfl,rfl⟩)|(go_at_call 175;refine(giveUp_any _ _ _).mono ?_;intro e w0 hu;obtain⟨v,rfl,hu2⟩:=id hu))
  exact⟨rfl,.inl ⟨h,hu⟩⟩
def hasE (S:List Sg) (en:Int):Bool:=decide (en%2=0) && S.any fun s=>decide (s.fl%2=1) && decide (s.va<=en) && decide (en<s.va+s.mem)
theorem and1 (f:Int) (h:f=1∨f=4∨f=5∨f=6∨f=7):bits .and .u32 f 1=f%2:=by
 rcases h with rfl|rfl|rfl|rfl|rfl<;>decide
def inE (en:Int) (s:Sg):Bool:=decide (s.fl%2=1) && decide (s.va<=en) && decide (en<s.va+s.mem)
theorem hasE_yes {E:List (Sg×Value)} {en:Int} (h2:en%2=0) {i:Nat} {x:Sg×Value} (hx:E[i]? = some x) (h:inE en x.1=true):hasE (E.map (·.1)) en=true:=by
 unfold hasE
 rw[Bool.and_eq_true]
 refine⟨by simpa using h2,List.any_eq_true.2 ⟨x.1,List.mem_map.2 ⟨x,List.mem_of_getElem? hx,rfl⟩,h⟩⟩
theorem hasE_no {E:List (Sg×Value)} {en:Int} (h:∀ j x,j<E.length->E[j]? = some x->inE en x.1=false):hasE (E.map (·.1)) en=false:=by
 unfold hasE
 rw[Bool.and_eq_false_iff]
 refine .inr (List.any_eq_false.2 fun s hs=>?_)
 obtain⟨x,hx,rfl⟩:=List.mem_map.1 hs
 obtain⟨j,hj,hje⟩:=List.getElem_of_mem hx
 have:=h j x hj (by rw[List.getElem?_eq_getElem hj,hje])
 unfold inE at this
 rw[this]
 decide
theorem inE_step {E:List (Sg×Value)} {en:Int} {i:Nat} {x:Sg×Value} (hx:E[i]? = some x) (h:inE en x.1=false) (hr:∀ j x,j<i->E[j]? = some x->inE en x.1=false):∀ j y,j<i+1->E[j]? = some y->inE en y.1=false:=by
 intro j y hj hy
 by_cases e:j=i
 ·subst e
  rw[hx] at hy
  injection hy with hy
  subst hy
  exact h
 ·exact hr j y (by omega) hy
theorem hasEntry_any {w:World} {X:Nat} {sv:Value} {E:List (Sg×Value)} {B:Nat->Int} (h:Segs w X sv E B) (hl:E.length<=8) (en:Int) (he:0<=en∧en<18446744073709551616) :
  Calls Tryz.prog 81 #[.agg #[.int .u64 en,sv]] w fun e w'=>e = .returned (.bool (hasE (E.map (·.1)) en))∧Below w.heap.size w w':=by
 obtain⟨q,c,rfl,hc1,hc2,hq⟩:=own_form h.own
 have HS:Hid (Segs w X (.slice q E.length c) E B):=h
 have HB:Hid (Below w.heap.size w (w.alloc (.cells #[.int .u64 en,.slice q E.length c] 41))):=zB.alloc zL _
 have q0:(w.alloc (.cells #[.int .u64 en,.slice q E.length c] 41)).cell? ⟨w.heap.size,0,.none⟩=some (.int .u64 en):=World.cell?_alloc_at _ _ _ _ rfl
 have HQ0:Hid ((w.alloc (.cells #[.int .u64 en,.slice q E.length c] 41)).cell? ⟨w.heap.size,0,.none⟩=some (.int .u64 en)):=q0
 by_cases h2:en%2=0
 ·have h2b:(en%2 != 0)=false:=by simpa using h2
  go_enter Tryz.func81,Tryz.ntmps81
  go_wp2_with fail
  clear h q0
  generalize (w.alloc (.cells #[.int .u64 en,.slice q E.length c] 41))=W1 at *
  go_loopw [12] (fun a wr=>∃ i:Nat,i<=E.length∧a = .int .i64 i∧Hid ((∀ j x,j<i->E[j]? = some x->inE en x.1=false)∧Below W1.heap.size W1 wr)) (fun a _=>(E.length-intOf a).toNat)
  case atStart=>exact⟨0,by omega,rfl,fun j x hj=>by omega,Below.refl _ _⟩
  case round=>
   obtain⟨i,hi,rfl,HR⟩:=hrel
   by_cases hlt:i<E.length
   ·have g0:(i:Int)<E.length:=by omega
    obtain⟨x,hx⟩:∃ x,E[i]? = some x:=⟨E[i],List.getElem?_eq_getElem hlt⟩
    have HS1:=HS.out.below (HB.out.trans (HR.out.2.mono HB.out.size))
    obtain⟨f0,f1,f2,f3⟩:=flatE_get E _ x hx
    obtain⟨g,rfl,a0⟩:=own_cell HS1.own f0 (by omega) (by omega)
    obtain⟨g1,e1,a1⟩:=own_cell HS1.own f1 (by omega) (by omega)
    obtain⟨g2,e2,a2⟩:=own_cell HS1.own f2 (by omega) (by omega)
    obtain⟨g3,e3,a3⟩:=own_cell HS1.own f3 (by omega) (by omega)
    simp only[Option.some.injEq,Addr.mk.injEq,and_true] at e1 e2 e3
    subst e1 e2 e3
    have hgd:=HS1.gd x (List.mem_of_getElem? hx)
    obtain⟨ldq,ldc,hld,_⟩:=own_form (HS1.dat x (List.mem_of_getElem? hx))
    rw[hld] at a2
    have d0:wr.cell? ⟨w.heap.size,0,.none⟩=some (.int .u64 en):=(HR.out.2.cell (zC HQ0.out)).trans HQ0.out
    have d1:(wr.alloc (.cells #[.int .u64 x.1.va,.int .u32 x.1.fl,.slice ldq x.1.sz ldc,.int .u64 x.1.mem] 38)).cell? ⟨w.heap.size,0,.none⟩=some (.int .u64 en):=(((Below.refl wr.heap.size wr).alloc zL _).cell (zC d0)).trans d0
    clear d0
    have h1:=hgd.v
    have h3:=hgd.m
    have h4:=hgd.e
    have ha:=and1 x.1.fl hgd.f
    have HB2:Hid (Below W1.heap.size W1 (wr.alloc (.cells #[.int .u64 x.1.va,.int .u32 x.1.fl,.slice ldq x.1.sz ldc,.int .u64 x.1.mem] 38))):=HR.out.2.alloc HR.out.2.size _
    clear f0 f1 f2 f3 hld HS1 hgd hq
    by_cases p1:x.1.fl%2=1
    ·have p1b:(x.1.fl%2 != 0)=true:=by simp;omega
     by_cases p2:x.1.va<=en
     ·by_cases p3:en<x.1.va+x.1.mem
      ·go_wp2_with fail
       go_ret
       exact⟨by rw[hasE_yes h2 hx (by simp[inE,p1,p2,p3])];rfl,HB.out.trans (HB2.out.mono HB.out.size)⟩
      ·go_wp2_with fail
       exact⟨⟨i+1,by omega,by simp,inE_step hx (by simp[inE];omega) HR.out.1,HB2.out⟩,by simp[intOf];omega⟩
     ·go_wp2_with fail
      exact⟨⟨i+1,by omega,by simp,inE_step hx (by simp[inE];omega) HR.out.1,HB2.out⟩,by simp[intOf];omega⟩
    ·have p1b:(x.1.fl%2 != 0)=false:=by simp;omega
     go_wp2_with fail
     exact⟨⟨i+1,by omega,by simp,inE_step hx (by simp[inE];omega) HR.out.1,HB2.out⟩,by simp[intOf];omega⟩
   ·have hn:¬ ((i:Int)<E.length):=by omega
    have hE:=hasE_no (E:=E) (en:=en) (fun j x hj hx=>HR.out.1 j x (by omega) hx)
    go_wp2_with fail
    go_ret
    exact⟨by first|rfl|(rw[hE];rfl),HB.out.trans (HR.out.2.mono HB.out.size)⟩
 ·have h2b:(en%2 != 0)=true:=by simpa using h2
  go_enter Tryz.func81,Tryz.ntmps81
  go_wp2_with fail
  go_ret
  exact⟨by simp[hasE,h2],HB.out⟩
end
end Go.Proofs.YtabnipbdbnmmpaaGreatDoor
