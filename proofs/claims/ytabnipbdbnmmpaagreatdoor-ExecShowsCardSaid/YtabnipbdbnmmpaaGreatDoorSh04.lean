import Derived.Test.YtabnipbdbnmmpaaGreatDoorSh01
import Derived.Test.YtabnipbdbnmmpaaGreatDoorSh03
import Derived.RangeFuncBox
set_option linter.unusedVariables false
set_option linter.unusedSimpArgs false
namespace Go.Proofs.YtabnipbdbnmmpaaGreatDoor
section
open Go.RowKit
theorem own_cell {w:World} {X e s n c k:Nat} {q:Option Addr} {xs:List Value} {v:Value} (h:w.ownsRow X e s (.slice q n c) n xs) (hk:xs[k]? = some v) (hn:0<n) (hl:k<n*s) : ∃ g,q=some ⟨g,0,.none⟩∧w.cell? ⟨g,k,.none⟩=some v := by
 rcases h.2 with ⟨_,h0⟩ | ⟨g,cap,cur,hv,hX,hh,hn',hc,hs,ht⟩
 ·omega
 ·injection hv with e1 e2 e3
  subst e1
  refine ⟨g,rfl,?_⟩
  simp only [World.cell?,hh]
  show cur[k]? = _
  rw [← Array.getElem?_toList,← List.getElem?_take_of_lt hl,ht,hk]
theorem own_blk {V:World} {X e s n c g:Nat} {q:Option Addr} {xs:List Value} (h:V.ownsRow X e s (.slice q n c) n xs) (hg:Value.ownBlock (.slice q n c)=some g) : ∃ cur,V.heap[g]? = some (.cells cur e (0,0)) := by
 rcases h.2 with ⟨h0,_⟩ | ⟨g',cap,cur,hv,hX,hh,_⟩
 ·injection h0 with h0
  subst h0
  simp [Value.ownBlock] at hg
 ·injection hv with e1
  subst e1
  simp only [Value.ownBlock,Option.some.injEq] at hg
  subst hg
  exact ⟨cur,hh⟩
theorem own_base {w:World} {base b' e sz n:Nat} {v:Value} {xs:List Value} (h:w.ownsRow base e sz v n xs) (hb:b'≤base) : w.ownsRow b' e sz v n xs := by
 refine ⟨h.1,?_⟩
 rcases h.2 with h0 | ⟨g,cap,cur,hv,h1,h2⟩
 ·exact .inl h0
 ·exact .inr ⟨g,cap,cur,hv,Nat.le_trans hb h1,h2⟩
theorem own_slice {w:World} {base e sz n:Nat} {v:Value} {xs:List Value} (h:w.ownsRow base e sz v n xs) (hn:n≠0) : ∃ g c,v = .slice (some ⟨g,0,.none⟩) n c := by
 rcases h.2 with ⟨_,h0⟩ | ⟨g,cap,cur,hv,_⟩
 ·exact absurd h0 hn
 ·exact ⟨g,cap,hv⟩
theorem own_capN {w:World} {base e sz n c:Nat} {q:Option Addr} {xs:List Value} (h:w.ownsRow base e sz (.slice q n c) n xs) : n≤c∧c≤9223372036854775807 := by
 rcases h.2 with ⟨hv,h0⟩ | ⟨g',cap,cur,hv,hb,hg,hn,hm,_⟩
 ·injection hv with _ h1 h2
  omega
 ·injection hv with _ _ h2
  have hm : cap≤9223372036854775807 := hm
  omega
theorem step_append_at {P:Program} {ops:Array Oper} {o:Oper} {a:Act} {w:World} {K:Act→World→Prop} {Q:Exit→Act→World→Prop} {E:Prop} (hgd:o.guard=none) (s x:Operand) (t:TypeId)
  (hop:o.op = .call { callee := .builtin .append,args := #[s,x],argTypes := #[t,t] }) (base:Nat) (e:TypeId) (i:TypeInfo) (z:Value) (size bytes:Nat) (ht:P.underlying t=some (.slice e)) (hi:P.info? e=some i) (hz:i.zero=some z)
  (hsize:i.size=size) (hby:i.bytes=bytes) (hzs:z.cells.size=size) (hsz:0<size) (v:Value) (k:Nat) (xs:List Value) (hs:a.eval s=v) (hown:w.ownsRow base e size v k xs)
  (ad:Addr) (m c:Nat) (news:List Value) (hx:a.eval x = .slice (some ad) m c) (hl:news.length=m*size) (hnews:∀ j u,news[j]? = some u→w.cell? (ad.add j)=some u) (h1:∀ u ∈ news,u.oneCell'=true)
  (h63:k+m≤maxLen) (hbytes:(k+m)*bytes≤140737488355328) (hbase:base≤w.heap.size)
  (h:∀ v' w',w'.ownsRow base e size v' (k+m) (xs ++ news)→w.grownBy w' v.ownBlock→(v'.ownBlock=v.ownBlock∨v'.ownBlock=some w.heap.size)→K (a.put o.dst v') w') : if Region.wanted o (yielded ops a.tmps)=true then Oper.wp P o a w K Q else E := by
 have hw : Region.wanted o (yielded ops a.tmps)=true := by simp [Region.wanted,hgd]
 rw [if_pos hw]
 obtain ⟨v',w',hrun,r1,r2,_,r4⟩ := run_append_own_at (P:=P) w base t o.type e i z size bytes ht hi hz hsize hby hzs hsz v k xs hown ad m c news hl hnews h1 h63 hbytes hbase
 unfold Oper.wp
 simp [execOp,hop,resolve,invoke,builtin,hs,hx,hrun,Result.andThen]
 exact h v' w' r1 r2 r4
theorem owns_below {w w':World} {X e s n:Nat} {v:Value} {xs:List Value} (h:w.ownsRow X e s v n xs) (k:Below w.heap.size w w') : w'.ownsRow X e s v n xs :=
 h.kept (row:=none) ⟨k.os,k.tape,k.output,k.size,fun b hb _ => k.block b hb⟩ (by cases v.ownBlock <;> simp)
structure Sg where
 va : Int
 fl : Int
 mem : Int
 wh : Nat
 sz : Nat
def byt (B:Nat→Int) (s:Sg) : List Int := (List.range s.sz).map fun j => B (s.wh+j)
theorem byt_len (B:Nat→Int) (s:Sg) : (byt B s).length=s.sz := by simp [byt]
theorem byt_get (B:Nat→Int) (s:Sg) (j:Nat) (h:j<s.sz) : (byt B s)[j]? = some (B (s.wh+j)) := by simp [byt,h]
def flatE : List (Sg × Value)→List Value
 | [] => []
 | x :: E => [.int .u64 x.1.va,.int .u32 x.1.fl,x.2,.int .u64 x.1.mem] ++ flatE E
theorem flatE_app : ∀ (E E':List (Sg × Value)),flatE (E ++ E')=flatE E ++ flatE E'
 | [],E' => rfl
 | x :: E,E' => by
  rw [List.cons_append,flatE,flatE,flatE_app E E',List.append_assoc]
theorem flatE_get : ∀ (E:List (Sg × Value)) (i:Nat) (x:Sg × Value),E[i]? = some x→(flatE E)[i*4]? = some (.int .u64 x.1.va)∧(flatE E)[i*4+1]? = some (.int .u32 x.1.fl)∧(flatE E)[i*4+2]? = some x.2∧(flatE E)[i*4+3]? = some (.int .u64 x.1.mem)
 | [],i,x,h => by simp at h
 | y :: E,0,x,h => by
  simp only [List.getElem?_cons_zero,Option.some.injEq] at h
  subst h
  exact ⟨rfl,rfl,rfl,rfl⟩
 | y :: E,i+1,x,h => by
  simp only [List.getElem?_cons_succ] at h
  have := flatE_get E i x h
  rw [show (i+1)*4=i*4+1+1+1+1 by omega]
  exact this
structure Gd (s:Sg) : Prop where
 v : 0≤s.va
 f : s.fl=1∨s.fl=4∨s.fl=5∨s.fl=6∨s.fl=7
 m : 0≤s.mem
 e : s.va+s.mem≤1073741824
 z : s.sz<2000000
structure Segs (w:World) (X:Nat) (sv:Value) (E:List (Sg × Value)) (B:Nat→Int) : Prop where
 own : w.ownsRow X 38 4 sv E.length (flatE E)
 dat : ∀ x ∈ E,w.ownsRow X 5 1 x.2 x.1.sz (by8 (byt B x.1))
 gd : ∀ x ∈ E,Gd x.1
theorem Segs.below {w w':World} {X:Nat} {sv:Value} {E:List (Sg × Value)} {B:Nat→Int} (h:Segs w X sv E B) (b:Below w.heap.size w w') : Segs w' X sv E B :=
 ⟨owns_below h.own b,fun x hx => owns_below (h.dat x hx) b,h.gd⟩
theorem own_form {w:World} {X e s n:Nat} {v:Value} {xs:List Value} (h:w.ownsRow X e s v n xs) : ∃ q c,v = .slice q n c∧n≤c∧c≤9223372036854775807∧(q=none→n=0) := by
 rcases h.2 with ⟨hv,h0⟩ | ⟨g',cap,cur,hv,hb,hg,hn,hm,_⟩
 ·exact ⟨none,0,by rw [hv,h0],by omega,by omega,fun _ => h0⟩
 ·exact ⟨_,cap,hv,hn,hm,fun e => by cases e⟩
def ris (S:List Sg) (va:Int) : Bool := match S.getLast? with | none => true | some l => decide (l.va+l.mem≤va)
set_option maxHeartbeats 1000000 in
theorem rises_any {w:World} {X:Nat} {sv:Value} {E:List (Sg × Value)} {B:Nat→Int} (h:Segs w X sv E B) (hl:E.length≤8) (va fl mem:Int) (dp:Option Addr) (dn dc:Nat) :
  Calls Tryz.prog 80 #[sv,.agg #[.int .u64 va,.int .u32 fl,.slice dp dn dc,.int .u64 mem]] w fun e w' => e = .returned (.bool (ris (E.map (·.1)) va))∧Below w.heap.size w w' := by
 obtain ⟨q,c,rfl,hc1,hc2,hq⟩ := own_form h.own
 by_cases h0 : E = []
 ·subst h0
  simp only [List.length_nil] at *
  go_enter Tryz.func80,Tryz.ntmps80
  go_wp2
  go_ret
  exact ⟨rfl,(Below.refl _ _).alloc (Nat.le_refl _) _⟩
 ·obtain ⟨l,hlast⟩ : ∃ l,E.getLast? = some l := ⟨E.getLast h0,List.getLast?_eq_some_getLast h0⟩
  have hn : 0<E.length := List.length_pos_iff.2 h0
  obtain ⟨m,hm⟩ : ∃ m,E.length=m+1 := ⟨E.length - 1,by omega⟩
  have hg : E[m]? = some l := by
   have : E.length - 1=m := by omega
   rw [← this,← List.getLast?_eq_getElem?]
   exact hlast
  obtain ⟨f0,f1,f2,f3⟩ := flatE_get E _ l hg
  obtain ⟨g,rfl,a0⟩ := own_cell h.own f0 hn (by omega)
  obtain ⟨g1,e1,a1⟩ := own_cell h.own f1 hn (by omega)
  obtain ⟨g2,e2,a2⟩ := own_cell h.own f2 hn (by omega)
  obtain ⟨g3,e3,a3⟩ := own_cell h.own f3 hn (by omega)
  simp only [Option.some.injEq,Addr.mk.injEq,and_true] at e1 e2 e3
  subst e1 e2 e3
  have hgd := h.gd l (List.mem_of_getElem? hg)
  obtain ⟨ldq,ldc,hld,_⟩ := own_form (h.dat l (List.mem_of_getElem? hg))
  rw [hld] at a2
  have HB : Hid (Below w.heap.size w (w.alloc (.cells #[.int .u64 va,.int .u32 fl,.slice dp dn dc,.int .u64 mem] 38))) := (Below.refl _ _).alloc (Nat.le_refl _) _
  have b0 := (HB.out.cell (lt_of_cell a0)).trans a0
  have b1 := (HB.out.cell (lt_of_cell a1)).trans a1
  have b2 := (HB.out.cell (lt_of_cell a2)).trans a2
  have b3 := (HB.out.cell (lt_of_cell a3)).trans a3
  have er : ris (E.map (·.1)) va=decide (l.1.va+l.1.mem≤va) := by
   unfold ris
   rw [List.getLast?_map,hlast]
   rfl
  rw [er,hm]
  have h1 := hgd.v
  have h2 := hgd.m
  have h3 := hgd.e
  have hm8 : m<8 := by omega
  have gi : (m:Int)<m+1 := by omega
  clear f0 f1 f2 f3 hld h a0 a1 a2 a3 er hlast hgd hg hl hc1 hn hm h0 hq
  go_enter Tryz.func80,Tryz.ntmps80
  go_wp2
  go_ret
  exact ⟨rfl,HB.out.alloc HB.out.size _⟩
theorem row_cells {w:World} {b o n:Nat} {B:Nat→Int} (h:Row w b o n B) (a k:Nat) (hk:a+k≤n) : ∀ j u,(by8 ((List.range k).map fun j => B (a+j)))[j]? = some u→w.cell? ((⟨b,o+a,.none⟩ : Addr).add j)=some u := by
 intro j u hj
 rw [le_addr_add]
 simp only [by8,List.getElem?_map,Option.map_eq_some_iff] at hj
 obtain ⟨x,⟨y,hy,rfl⟩,rfl⟩ := hj
 obtain ⟨h1,h2⟩ := List.getElem?_eq_some_iff.1 hy
 simp only [List.getElem_range] at h2
 subst h2
 have := h (a+j) (by simp at h1; omega)
 rwa [← Nat.add_assoc] at this
set_option maxHeartbeats 1000000 in
theorem newBytes_any {w:World} {rb b o n c:Nat} {B:Nat→Int} (hF:Fil w rb b o n c B) (hn:n≤262144) (hd A k:Nat) (hk:0<k) (hA:A<18446744073709551616) (hk2:k<18446744073709551616) :
  Calls Tryz.prog 205 #[.pointer (some ⟨rb,0,.none⟩),.int .i64 hd,.int .u64 A,.int .u64 k] w fun e w' => (¬ A+k≤n∧Up w hd 140 e w')∨(A+k≤n ∧ ∃ v,e = .returned v∧w'.ownsRow w.heap.size 5 1 v k (by8 ((List.range k).map fun j => B (A+j)))∧Below w.heap.size w w') := by
 have c34 := lies_any rb n c (some ⟨b,o,.none⟩) A k w hF.f0 (by omega) ⟨by omega,by omega⟩ ⟨by omega,by omega⟩
 have f0 := hF.f0
 by_cases h : A+k≤n
 ·rw [show decide ((A:Int)+k≤n)=true by simp; omega] at c34
  have c35 := cut_any b o n c A k w hk (by have := hF.nc.1; omega) hF.nc.2
  obtain ⟨i3,z3,hi3,hz3,hs3,hb3,hzs3⟩ := byte_info
  have hcl := row_cells hF.row A k h
  have HR : Hid (∀ j u,(by8 ((List.range k).map fun j => B (A+j)))[j]? = some u→w.cell? ((⟨b,o+A,.none⟩ : Addr).add j)=some u) := hcl
  clear hcl
  go_enter Tryz.func205,Tryz.ntmps205
  go_wp2_with (first | (go_at_call 204; refine c34.mono ?_; rintro e w1 ⟨rfl,rfl⟩) | (go_at_call 170; refine c35.mono ?_; rintro e w2 ⟨rfl,rfl⟩) | (at_builtin; refine wpList_append_own _ rfl _ _ 24 rfl w2.heap.size 5 i3 z3 1 1 Tryz.underlying24 hi3 hz3 hs3 hb3 hzs3 (by decide) (.slice .none 0 0) 0 [] rfl (World.ownsRow_nil _ _ _ _) ⟨b,o+A,.none⟩ k k (by8 ((List.range k).map fun j => B (A+j))) rfl (by simp [by8]) HR.out (by intro u hu; simp only [by8,List.mem_map] at hu; obtain ⟨x,_,rfl⟩ := hu; rfl) (by unfold maxLen; omega) (by omega) (Nat.le_refl _) ?_; intro v' w5 hown5 hgr5 _; simp only [Nat.zero_add,List.nil_append] at hown5))
  go_ret
  exact ⟨_,rfl,hown5,(Below.refl _ _).grown hgr5 (Nat.le_refl _) (fun r e => by simp [Value.ownBlock] at e)⟩
 ·rw [show decide ((A:Int)+k≤n)=false by simp; omega] at c34
  go_enter Tryz.func205,Tryz.ntmps205
  go_wp2_with (first | (go_at_call 204; refine c34.mono ?_; rintro e w1 ⟨rfl,rfl⟩) | (go_at_call 175; refine (giveUp_any _ _ _).mono ?_; intro e w0 hu; obtain ⟨v,rfl,hu2⟩ := id hu))
  exact ⟨rfl,.inl ⟨h,hu⟩⟩
def hasE (S:List Sg) (en:Int) : Bool := decide (en % 2=0) && S.any fun s => decide (s.fl % 2=1) && decide (s.va≤en) && decide (en<s.va+s.mem)
theorem and1 (f:Int) (h:f=1∨f=4∨f=5∨f=6∨f=7) : bits .and .u32 f 1=f % 2 := by
 rcases h with rfl | rfl | rfl | rfl | rfl <;> decide
def inE (en:Int) (s:Sg) : Bool := decide (s.fl % 2=1) && decide (s.va≤en) && decide (en<s.va+s.mem)
theorem hasE_yes {E:List (Sg × Value)} {en:Int} (h2:en % 2=0) {i:Nat} {x:Sg × Value} (hx:E[i]? = some x) (h:inE en x.1=true) : hasE (E.map (·.1)) en=true := by
 unfold hasE
 rw [Bool.and_eq_true]
 refine ⟨by simpa using h2,List.any_eq_true.2 ⟨x.1,List.mem_map.2 ⟨x,List.mem_of_getElem? hx,rfl⟩,h⟩⟩
theorem hasE_no {E:List (Sg × Value)} {en:Int} (h:∀ j x,j<E.length→E[j]? = some x→inE en x.1=false) : hasE (E.map (·.1)) en=false := by
 unfold hasE
 rw [Bool.and_eq_false_iff]
 refine .inr (List.any_eq_false.2 fun s hs => ?_)
 obtain ⟨x,hx,rfl⟩ := List.mem_map.1 hs
 obtain ⟨j,hj,hje⟩ := List.getElem_of_mem hx
 have := h j x hj (by rw [List.getElem?_eq_getElem hj,hje])
 unfold inE at this
 rw [this]
 decide
theorem inE_step {E:List (Sg × Value)} {en:Int} {i:Nat} {x:Sg × Value} (hx:E[i]? = some x) (h:inE en x.1=false) (hr:∀ j x,j<i→E[j]? = some x→inE en x.1=false) : ∀ j y,j<i+1→E[j]? = some y→inE en y.1=false := by
 intro j y hj hy
 by_cases e : j=i
 ·subst e
  rw [hx] at hy
  injection hy with hy
  subst hy
  exact h
 ·exact hr j y (by omega) hy
set_option maxHeartbeats 2000000 in
theorem hasEntry_any {w:World} {X:Nat} {sv:Value} {E:List (Sg × Value)} {B:Nat→Int} (h:Segs w X sv E B) (hl:E.length≤8) (en:Int) (he:0≤en∧en<18446744073709551616) :
  Calls Tryz.prog 81 #[.agg #[.int .u64 en,sv]] w fun e w' => e = .returned (.bool (hasE (E.map (·.1)) en))∧Below w.heap.size w w' := by
 obtain ⟨q,c,rfl,hc1,hc2,hq⟩ := own_form h.own
 have HS : Hid (Segs w X (.slice q E.length c) E B) := h
 have HB : Hid (Below w.heap.size w (w.alloc (.cells #[.int .u64 en,.slice q E.length c] 41))) := (Below.refl _ _).alloc (Nat.le_refl _) _
 have q0 : (w.alloc (.cells #[.int .u64 en,.slice q E.length c] 41)).cell? ⟨w.heap.size,0,.none⟩=some (.int .u64 en) := World.cell?_alloc_at _ _ _ _ rfl
 have HQ0 : Hid ((w.alloc (.cells #[.int .u64 en,.slice q E.length c] 41)).cell? ⟨w.heap.size,0,.none⟩=some (.int .u64 en)) := q0
 by_cases h2 : en % 2=0
 ·have h2b : (en % 2 != 0)=false := by simpa using h2
  go_enter Tryz.func81,Tryz.ntmps81
  go_wp2_with fail
  clear h q0
  generalize (w.alloc (.cells #[.int .u64 en,.slice q E.length c] 41))=W1 at *
  go_loopw [12] (fun a wr => ∃ i : Nat,i≤E.length∧a = .int .i64 i∧Hid ((∀ j x,j<i→E[j]? = some x→inE en x.1=false)∧Below W1.heap.size W1 wr)) (fun a _ => (E.length - intOf a).toNat)
  case atStart => exact ⟨0,by omega,rfl,fun j x hj => by omega,Below.refl _ _⟩
  case round =>
   obtain ⟨i,hi,rfl,HR⟩ := hrel
   by_cases hlt : i<E.length
   ·have g0 : (i:Int)<E.length := by omega
    obtain ⟨x,hx⟩ : ∃ x,E[i]? = some x := ⟨E[i],List.getElem?_eq_getElem hlt⟩
    have HS1 := HS.out.below (HB.out.trans (HR.out.2.mono HB.out.size))
    obtain ⟨f0,f1,f2,f3⟩ := flatE_get E _ x hx
    obtain ⟨g,rfl,a0⟩ := own_cell HS1.own f0 (by omega) (by omega)
    obtain ⟨g1,e1,a1⟩ := own_cell HS1.own f1 (by omega) (by omega)
    obtain ⟨g2,e2,a2⟩ := own_cell HS1.own f2 (by omega) (by omega)
    obtain ⟨g3,e3,a3⟩ := own_cell HS1.own f3 (by omega) (by omega)
    simp only [Option.some.injEq,Addr.mk.injEq,and_true] at e1 e2 e3
    subst e1 e2 e3
    have hgd := HS1.gd x (List.mem_of_getElem? hx)
    obtain ⟨ldq,ldc,hld,_⟩ := own_form (HS1.dat x (List.mem_of_getElem? hx))
    rw [hld] at a2
    have d0 : wr.cell? ⟨w.heap.size,0,.none⟩=some (.int .u64 en) := (HR.out.2.cell (lt_of_cell HQ0.out)).trans HQ0.out
    have d1 : (wr.alloc (.cells #[.int .u64 x.1.va,.int .u32 x.1.fl,.slice ldq x.1.sz ldc,.int .u64 x.1.mem] 38)).cell? ⟨w.heap.size,0,.none⟩=some (.int .u64 en) := (((Below.refl wr.heap.size wr).alloc (Nat.le_refl _) _).cell (lt_of_cell d0)).trans d0
    clear d0
    have h1 := hgd.v
    have h3 := hgd.m
    have h4 := hgd.e
    have ha := and1 x.1.fl hgd.f
    have HB2 : Hid (Below W1.heap.size W1 (wr.alloc (.cells #[.int .u64 x.1.va,.int .u32 x.1.fl,.slice ldq x.1.sz ldc,.int .u64 x.1.mem] 38))) := HR.out.2.alloc HR.out.2.size _
    clear f0 f1 f2 f3 hld HS1 hgd hq
    by_cases p1 : x.1.fl % 2=1
    ·have p1b : (x.1.fl % 2 != 0)=true := by simp; omega
     by_cases p2 : x.1.va≤en
     ·by_cases p3 : en<x.1.va+x.1.mem
      ·go_wp2_with fail
       go_ret
       exact ⟨by rw [hasE_yes h2 hx (by simp [inE,p1,p2,p3])]; rfl,HB.out.trans (HB2.out.mono HB.out.size)⟩
      ·go_wp2_with fail
       exact ⟨⟨i+1,by omega,by simp,inE_step hx (by simp [inE]; omega) HR.out.1,HB2.out⟩,by simp [intOf]; omega⟩
     ·go_wp2_with fail
      exact ⟨⟨i+1,by omega,by simp,inE_step hx (by simp [inE]; omega) HR.out.1,HB2.out⟩,by simp [intOf]; omega⟩
    ·have p1b : (x.1.fl % 2 != 0)=false := by simp; omega
     go_wp2_with fail
     exact ⟨⟨i+1,by omega,by simp,inE_step hx (by simp [inE]; omega) HR.out.1,HB2.out⟩,by simp [intOf]; omega⟩
   ·have hn : ¬ ((i:Int)<E.length) := by omega
    have hE := hasE_no (E:=E) (en:=en) (fun j x hj hx => HR.out.1 j x (by omega) hx)
    go_wp2_with fail
    go_ret
    exact ⟨by first | rfl | (rw [hE]; rfl),HB.out.trans (HR.out.2.mono HB.out.size)⟩
 ·have h2b : (en % 2 != 0)=true := by simpa using h2
  go_enter Tryz.func81,Tryz.ntmps81
  go_wp2_with fail
  go_ret
  exact ⟨by simp [hasE,h2],HB.out⟩
end
section
open Go.RowKit
theorem num_shift (B:Nat→Int) (a o:Nat) : ∀ k,num (fun i => B (a+i)) o k=num B (a+o) k
 | 0 => rfl
 | k+1 => by simp only [num,num_shift B a o k,Nat.add_assoc]
theorem Row.sub {w:World} {b o n:Nat} {B:Nat→Int} (h:Row w b o n B) (a k:Nat) (hk:a+k≤n) : Row w b (o+a) k (fun i => B (a+i)) := fun i hi => by
 have := h (a+i) (by omega)
 rwa [← Nat.add_assoc] at this
theorem inS_any {w:World} {b o n:Nat} {B:Nat→Int} (h:Row w b o n B) (hB:∀ i,0≤B i∧B i<256) (a:Nat) (ha:a+56≤n) (of_ by_:Nat) (fx:Int) (h1:of_ + by_ ≤ 56) (h2:0<by_) (h3:by_ ≤ 8) :
  Calls Tryz.prog 176 #[.agg #[.int .i64 of_,.int .i64 by_,.int .u64 fx],.slice (some ⟨b,o+a,.none⟩) 56 56] w fun e w' => e = .returned (.int .u64 (num B (a+of_) by_))∧Below w.heap.size w w' := by
 have := in_any b (o+a) 56 56 of_ by_ fx (fun i => B (a+i)) w h1 (Nat.le_refl _) (by omega) h2 h3 (fun i => hB _) (h.sub a 56 ha)
 rwa [num_shift] at this
def sgOf (B:Nat→Int) (a:Nat) : Sg := ⟨num B (a+16) 8,num B (a+4) 4,num B (a+40) 8,(num B (a+8) 8).toNat,(num B (a+32) 8).toNat⟩
theorem pow8 : (256:Int) ^ 8=18446744073709551616 := by decide
theorem pow4 : (256:Int) ^ 4=4294967296 := by decide
theorem sgOf_b (B:Nat→Int) (hB:∀ i,0≤B i∧B i<256) (a:Nat) : (0≤num B (a+16) 8∧num B (a+16) 8<18446744073709551616)∧(0≤num B (a+4) 4∧num B (a+4) 4<4294967296)∧(0≤num B (a+40) 8∧num B (a+40) 8<18446744073709551616)∧(0≤num B (a+8) 8∧num B (a+8) 8<18446744073709551616)∧(0≤num B (a+32) 8∧num B (a+32) 8<18446744073709551616) := by
 have h1 := num_bd B hB (a+16) 8
 have h2 := num_bd B hB (a+4) 4
 have h3 := num_bd B hB (a+40) 8
 have h4 := num_bd B hB (a+8) 8
 have h5 := num_bd B hB (a+32) 8
 rw [pow8] at h1 h3 h4 h5
 rw [pow4] at h2
 exact ⟨h1,h2,h3,h4,h5⟩
def stp (n:Nat) (B:Nat→Int) (S:List Sg) (a:Nat) : Int × List Sg :=
 if num B a 4≠1 then (0,S) else if S.length=8 then (143,S) else if ok1 (sgOf B a).va (sgOf B a).fl (sgOf B a).sz (sgOf B a).mem=false then (144,S)
 else if 0<(sgOf B a).sz∧n<(sgOf B a).wh+(sgOf B a).sz then (140,S) else if ris S (sgOf B a).va=false then (145,S) else (0,S ++ [sgOf B a])
theorem ok1_gd {s:Sg} (h:ok1 s.va s.fl s.sz s.mem=true) (hv:0≤s.va) (hz:s.sz<2000000) : Gd s := by
 unfold ok1 mf at h
 simp only [Bool.and_eq_true,decide_eq_true_eq,Bool.or_eq_true,beq_iff_eq] at h
 obtain ⟨⟨⟨⟨h1,h2⟩,h3⟩,h4⟩,h5⟩ := h
 exact ⟨hv,by omega,by omega,h5,hz⟩
structure Rdr (W0 w:World) (rb rs b o n c:Nat) (B:Nat→Int) (E:List (Sg × Value)) (sv:Value) : Prop where
 fil : Fil w rb b o n c B
 c1 : w.cell? ⟨rb,1,.none⟩=some sv
 z1 : w.frozen? ⟨rb,1,.none⟩=false
 sg : Segs w (rb+1) sv E B
 be : Below W0.heap.size W0 w
 x0 : W0.heap.size≤rb
 hx : rb+1≤w.heap.size
 hb : b<W0.heap.size
 ln : E.length≤8
 pr : w.heap[rs]? = some (.cells #[.int .u64 0,.slice .none 0 0] 41 (0,0))
 pn : rb<rs
section
variable {W0 w w':World} {rb rs b o n c:Nat} {B:Nat→Int} {E:List (Sg × Value)} {sv:Value}
theorem Rdr.below (h:Rdr W0 w rb rs b o n c B E sv) (k:Below w.heap.size w w') : Rdr W0 w' rb rs b o n c B E sv :=
 ⟨h.fil.below k,(k.cell (lt_of_cell h.c1)).trans h.c1,(k.frozen (lt_of_cell h.c1)).trans h.z1,h.sg.below k,h.be.trans (k.mono h.be.size),h.x0,Nat.le_trans h.hx k.size,h.hb,h.ln,(k.block rs (Array.getElem?_eq_some_iff.1 h.pr).1).trans h.pr,h.pn⟩
theorem Rdr.push {q:Option Addr} {cs:Nat} (h:Rdr W0 w rb rs b o n c B E (.slice q E.length cs)) (h8:E.length<8) {g:Sg} {dv:Value} (hd:w.ownsRow (rb+1) 5 1 dv g.sz (by8 (byt B g))) (hg:Gd g) {ob:Obj} {w5:World} {gr cap:Nat}
  (hown:w5.ownsRow (rb+1) 38 4 (.slice (some ⟨gr,0,.none⟩) (E.length+1) cap) (E.length+1) (flatE E ++ [.int .u64 g.va,.int .u32 g.fl,dv,.int .u64 g.mem])) (hgr:(w.alloc ob).grownBy w5 (Value.ownBlock (.slice q E.length cs))) :
  w5.cell? ⟨rb,1,.none⟩=some (.slice q E.length cs)∧w5.frozen? ⟨rb,1,.none⟩=false∧Rdr W0 (w5.setCell ⟨rb,1,.none⟩ (.slice (some ⟨gr,0,.none⟩) (E.length+1) cap)) rb rs b o n c B (E ++ [(g,dv)]) (.slice (some ⟨gr,0,.none⟩) (E.length+1) cap) := by
 have hx := h.hx
 have hbl := h.be.size
 have x0 := h.x0
 have hbb := h.hb
 have blk : ∀ x,x<w.heap.size→Value.ownBlock (.slice q E.length cs)≠some x→w5.heap[x]? = w.heap[x]? := fun x hx hne => (hgr.block x (by simp only [World.size_alloc]; omega) (fun e => hne e.symm)).trans (Below.heap_alloc _ _ _ hx)
 have lo : ∀ x,x<rb+1→w5.heap[x]? = w.heap[x]? := fun x h1 => blk x (by omega) (fun e => by have := (h.sg.own.lt _ e).1; omega)
 have cl : ∀ x o,x<rb+1→w5.cell? ⟨x,o,.none⟩=w.cell? ⟨x,o,.none⟩ := fun x o hx => World.cell?_of_block (lo x hx)
 have fl : ∀ x o,x<rb+1→w5.frozen? ⟨x,o,.none⟩=w.frozen? ⟨x,o,.none⟩ := fun x o hx => World.frozen?_of_block (lo x hx)
 have k1 := (cl rb 1 (by omega)).trans h.c1
 have f1 := (fl rb 1 (by omega)).trans h.z1
 have so : ∀ x o,(x≠rb∨o≠1)→(w5.setCell ⟨rb,1,.none⟩ (.slice (some ⟨gr,0,.none⟩) (E.length+1) cap)).cell? ⟨x,o,.none⟩=w5.cell? ⟨x,o,.none⟩ := fun x o hx => World.cell?_setCell_other _ _ _ _ (by simp only [ne_eq,Addr.mk.injEq,and_true,not_and]; intro e1 e2; rcases hx with hx | hx <;> omega)
 have keepD : ∀ {v:Value} {k:Nat} {ys:List Value},w.ownsRow (rb+1) 5 1 v k ys→(w5.setCell ⟨rb,1,.none⟩ (.slice (some ⟨gr,0,.none⟩) (E.length+1) cap)).ownsRow (rb+1) 5 1 v k ys := fun {v k ys} hv => by
  refine ownsRow_setCell_below (a:=⟨rb,1,.none⟩) ?_ (by show rb<rb+1; omega) _
  refine (World.ownsRow.alloc hv ob).kept hgr ?_
  obtain ⟨q',c',rfl,_⟩ := own_form hv
  cases e : Value.ownBlock (.slice q' k c') with
  | none => exact .inl rfl
  | some y =>
   refine .inr fun e' => ?_
   obtain ⟨c1,e1⟩ := own_blk hv e
   obtain ⟨c2,e2⟩ := own_blk h.sg.own e'.symm
   rw [e1] at e2
   cases e2
 refine ⟨k1,f1,⟨⟨(so _ _ (.inr (by decide))).trans ((cl _ _ (by omega)).trans h.fil.f0),fun i hi => (so _ _ (.inl (by omega))).trans ((cl _ _ (by omega)).trans (h.fil.row i hi)),h.fil.bd,h.fil.nc⟩,World.cell?_setCell_same' _ _ _ (by rw [k1]; rfl),(World.frozen?_setCell ..).trans f1,⟨?_,?_,?_⟩,?_,x0,?_,hbb,by simp; omega,?_,h.pn⟩⟩
 ·rw [flatE_app,List.length_append,List.length_singleton]
  exact ownsRow_setCell_below hown (a:=⟨rb,1,.none⟩) (by show rb<rb+1; omega) _
 ·intro x hx
  rcases List.mem_append.1 hx with hx | hx
  ·exact keepD (h.sg.dat x hx)
  ·rw [List.mem_singleton] at hx
   subst hx
   exact keepD hd
 ·intro x hx
  rcases List.mem_append.1 hx with hx | hx
  ·exact h.sg.gd x hx
  ·rw [List.mem_singleton] at hx
   subst hx
   exact hg
 ·exact ((h.be.alloc h.be.size ob).grown hgr (by simp only [World.size_alloc]; omega) (fun r e => by have := (h.sg.own.lt _ e).1; omega)).setCell (p:=⟨rb,1,.none⟩) (by show W0.heap.size≤rb; omega) _
 ·have := hgr.size
  simp only [World.size_alloc] at this
  rw [World.size_setCell]
  omega
 ·have hl := (Array.getElem?_eq_some_iff.1 h.pr).1
  have pn := h.pn
  refine (Below.heap_setCell _ _ _ _ (by show rs≠rb; omega)).trans ((blk rs hl (fun e => ?_)).trans h.pr)
  obtain ⟨c2,e2⟩ := own_blk h.sg.own e
  rw [h.pr] at e2
  cases e2
end
structure C4 (w:World) (x:Nat) (a b c d:Value) : Prop where
 a : w.cell? ⟨x,0,.none⟩=some a
 b : w.cell? ⟨x,1,.none⟩=some b
 c : w.cell? ⟨x,2,.none⟩=some c
 d : w.cell? ⟨x,3,.none⟩=some d
 f : ∀ i,w.frozen? ⟨x,i,.none⟩=false
theorem C4.below {w w':World} {x:Nat} {a b c d:Value} (h:C4 w x a b c d) (k:Below w.heap.size w w') : C4 w' x a b c d :=
 ⟨(k.cell (lt_of_cell h.a)).trans h.a,(k.cell (lt_of_cell h.b)).trans h.b,(k.cell (lt_of_cell h.c)).trans h.c,(k.cell (lt_of_cell h.d)).trans h.d,fun i => (k.frozen (p:=⟨x,i,.none⟩) (show x<w.heap.size from lt_of_cell (x:=⟨x,0,.none⟩) h.a)).trans (h.f i)⟩
theorem C4.new (w:World) (a b c d:Value) (t:TypeId) : C4 (w.alloc (.cells #[a,b,c,d] t)) w.heap.size a b c d :=
 ⟨by simp,by simp,by simp,by simp,fun i => World.frozen?_alloc_new _ _ _ _⟩
theorem C4.set {w:World} {x:Nat} {a b c d:Value} (h:C4 w x a b c d) (a' b' c' d':Value) : C4 ((((w.setCell ⟨x,0,.none⟩ a').setCell ⟨x,1,.none⟩ b').setCell ⟨x,2,.none⟩ c').setCell ⟨x,3,.none⟩ d') x a' b' c' d' := by
 have h0 : (w.setCell ⟨x,0,.none⟩ a').cell? ⟨x,0,.none⟩=some a' := World.cell?_setCell_same' _ _ _ (by rw [h.a]; rfl)
 have h1 : ((w.setCell ⟨x,0,.none⟩ a').setCell ⟨x,1,.none⟩ b').cell? ⟨x,1,.none⟩=some b' := World.cell?_setCell_same' _ _ _ (by rw [World.cell?_setCell_other _ _ _ _ (by simp),h.b]; rfl)
 have h2 : (((w.setCell ⟨x,0,.none⟩ a').setCell ⟨x,1,.none⟩ b').setCell ⟨x,2,.none⟩ c').cell? ⟨x,2,.none⟩=some c' := World.cell?_setCell_same' _ _ _ (by rw [World.cell?_setCell_other _ _ _ _ (by simp),World.cell?_setCell_other _ _ _ _ (by simp),h.c]; rfl)
 refine ⟨?_,?_,?_,?_,fun i => ?_⟩
 ·rw [World.cell?_setCell_other _ _ _ _ (by simp),World.cell?_setCell_other _ _ _ _ (by simp),World.cell?_setCell_other _ _ _ _ (by simp)]
  exact h0
 ·rw [World.cell?_setCell_other _ _ _ _ (by simp),World.cell?_setCell_other _ _ _ _ (by simp)]
  exact h1
 ·rw [World.cell?_setCell_other _ _ _ _ (by simp)]
  exact h2
 ·exact World.cell?_setCell_same' _ _ _ (by rw [World.cell?_setCell_other _ _ _ _ (by simp),World.cell?_setCell_other _ _ _ _ (by simp),World.cell?_setCell_other _ _ _ _ (by simp),h.d]; rfl)
 ·rw [World.frozen?_setCell,World.frozen?_setCell,World.frozen?_setCell,World.frozen?_setCell]
  exact h.f i
theorem info59 : ∃ i,Tryz.prog.info? 38=some i∧i.zero=some (.agg #[.int .u64 0,.int .u32 0,.slice .none 0 0,.int .u64 0])∧i.size=4∧i.bytes=48 := by
 have h : (Tryz.prog.info? 38).map (fun i => (i.zero,i.size,i.bytes))=some (some (.agg #[.int .u64 0,.int .u32 0,.slice .none 0 0,.int .u64 0]),4,48) := by kernel_rfl
 cases hq : Tryz.prog.info? 38 with
 | none => rw [hq] at h; cases h
 | some i =>
  rw [hq] at h
  simp only [Option.map_some,Option.some.injEq,Prod.mk.injEq] at h
  exact ⟨i,rfl,h.1,h.2.1,h.2.2⟩
theorem cell4_new (w:World) (x y z u:Value) (t:TypeId) : ∀ j v,[x,y,z,u][j]? = some v→(w.alloc (.cells #[x,y,z,u] t)).cell? ((⟨w.heap.size,0,.none⟩ : Addr).add j)=some v := by
 intro j v hj
 rw [le_addr_add,World.cell?_alloc_at _ _ _ _ rfl,Nat.zero_add]
 simpa using hj
end
end Go.Proofs.YtabnipbdbnmmpaaGreatDoor
