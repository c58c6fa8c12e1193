import Derived.Test.YtabnipbdbnmmpaaGreatDoorSh01
import Derived.Test.YtabnipbdbnmmpaaGreatDoorSh36
import Derived.Test.YtabnipbdbnmmpaaGreatDoorSh34
import Derived.Test.YtabnipbdbnmmpaaGreatDoorSh38
import Derived.Test.YtabnipbdbnmmpaaGreatDoorRows
import Derived.Test.YtabnipbdbnmmpaaGreatDoorSh02
import Derived.Shelf.Abstract
import Derived.Shelf.RegionOpen
import Derived.WalkKit
import Derived.WalkSpells
import Derived.RowKit3
import Derived.LoopTactic
import Derived.WalkSmall
import Derived.Laws.Externs
import Derived.Lib.Bytealg
import Derived.Lib.IndexLaws
import Derived.Lib.BytesEntry
set_option linter.unusedVariables false
set_option linter.unusedSimpArgs false
namespace Go.Proofs.YtabnipbdbnmmpaaGreatDoor
namespace Rm
open Go Go.RowKit
theorem wrU_off {P:Nat} {B:Nat→Int} {fr:Nat→Nat} (hi:∀ i j,i<P→j<P→fr i=fr j→i=j) (va:Nat) (R:Nat→Int) (x:Nat) (hx:x<P*4096) : ∀ n,va+n≤P*4096→(∀ j,j<n→va+j≠x)→btU (wrU B fr va R n) fr x=btU B fr x
 | 0,_,_ => rfl
 | n+1,hv,hne => by
  have ih := wrU_off (B:=B) hi va R x hx n (by omega) (fun j hj => hne j (by omega))
  unfold btU at ih ⊢
  unfold wrU
  rw [if_neg,ih]
  intro e
  have h1 : fr (x / 4096)=fr ((va+n) / 4096) := by omega
  have h2 := hi _ _ (by omega) (by omega) h1
  exact hne n (by omega) (by omega)
theorem wrU_at (B:Nat→Int) (fr:Nat→Nat) (va:Nat) (R:Nat→Int) (P:Nat) (hi:∀ i j,i<P→j<P→fr i=fr j→i=j) : ∀ n,va+n≤P*4096 → ∀ j,j<n→btU (wrU B fr va R n) fr (va+j)=R j
 | 0,_,j,hj => by omega
 | k+1,hk,j,hj => by
  unfold btU wrU
  by_cases e : j=k
  ·subst e
   rw [if_pos rfl]
  ·rw [if_neg ?_]
   ·exact wrU_at B fr va R P hi k (by omega) j (by omega)
   ·intro h
    have h1 : fr ((va+j) / 4096)=fr ((va+k) / 4096) := by omega
    have h2 := hi _ _ (by omega) (by omega) h1
    omega
def wrM (M:Nat→Int) (va n:Nat) (R:Nat→Int) : Nat→Int := fun a => if va≤a∧a<va+n then R (a - va) else M a
def grM (M:Nat→Int) (P:Nat) : Nat→Int := fun a => if a<P*4096 then M a else 0
def SpM (ox:Oxt) (w:World) (s p b m N r P K:Nat) (M:Nat→Int) (c:Nat→Int) : Prop := ∃ B L F lf fr,SpT w s p b m N r P ox.ft ((P:Int)*4096) B L F lf fr c∧(∀ a,a<P*4096→btU B fr a=M a)∧Ots ox L F P fr B∧L.length+nodesF F+P+1=K
section
variable {ox:Oxt} {w w':World} {s p b m N r P K:Nat} {M:Nat→Int} {c:Nat→Int}
theorem SpM.below (h:SpM ox w s p b m N r P K M c) (k:Below w.heap.size w w') : SpM ox w' s p b m N r P K M c := by
 obtain ⟨B,L,F,lf,fr,h1,h2,h4,h5⟩ := h
 exact ⟨B,L,F,lf,fr,h1.below k,h2,h4,h5⟩
theorem SpM.ext (h:SpM ox w s p b m N r P K M c) {M':Nat→Int} (e:∀ a,a<P*4096→M' a=M a) : SpM ox w s p b m N r P K M' c := by
 obtain ⟨B,L,F,lf,fr,h1,h2,h4,h5⟩ := h
 exact ⟨B,L,F,lf,fr,h1,fun a ha => (h2 a ha).trans (e a ha).symm,h4,h5⟩
theorem SpT.inj {B:Nat→Int} {L:List Nat} {F:Nat→Option Nat} {lf:Nat→Nat→Int} {fr:Nat→Nat} {ft:Nat} {size:Int} (h:SpT w s p b m N r P ft size B L F lf fr c) : ∀ i j,i<P→j<P→fr i=fr j→i=j := fun i j hi hj => h.tab.inj i (List.mem_range.2 hi) j (List.mem_range.2 hj)
def GmP (ox:Oxt) (w:World) (s p b m N r P K:Nat) (M:Nat→Int) (c:Nat→Int) (x:Int) (e:Ending) (w':World) : Prop := e = .returned (.int .i64 0)∧SpM ox w' s p b m N r (P+1) K (grM M P) (upd c P (x+208)) ∧
 w.heap.size≤w'.heap.size∧w'.os=w.os∧w'.tape=w.tape∧w'.output=w.output ∧ ∀ k,k<w.heap.size→k≠p→k≠b→k≠m→k≠s→w'.heap[k]? = w.heap[k]?
theorem SpM.grow (h:SpM ox w s p b m N r P K M c) (hP:P<4096) (hK:(P:Int)+1+ndP (P+1)≤K) (x:Int) (hx:rgt x) : Calls Tryz.prog 146 #[.pointer (some ⟨s,0,.none⟩),.int .u64 (((P:Int)+1)*4096),.int .u64 x] w (GmP ox w s p b m N r P K M c x) := by
 obtain ⟨B,L,F,lf,fr,h,hM,hO,hlen⟩ := h
 have hnd := h.tab.nodes h.pm
 have hneed := h.tab.need hP
 have hmono := ndP_mono (a:=(P:Int)) (c:=(P:Int)+1) (by omega) (by omega)
 obtain ⟨f,L1,rfl⟩ : ∃ f L1,L=f :: L1 := by
  cases L with
  | nil => rw [List.length_nil] at hlen; omega
  | cons f L1 => exact ⟨f,L1,rfl⟩
 rw [List.length_cons] at hlen
 have hN := h.ram.mem.n2
 have hf := h.ram.lt f (List.mem_cons_self ..)
 have hz : lf (y0 ((P:Int)*4096)) (i0 ((P:Int)*4096))=0 := h.tab.zero (fun e => Nat.lt_irrefl _ (List.mem_range.1 e)) hP
 have hw : needY F ((P:Int)*4096)≤L1.length := by rw [need_eq]; omega
 refine (grow_pt h.sp h.ram h.tab.pt h.tab.rt h.ne (by omega) hx hz hw ?_).mono fun e w' h9 => ?_
 ·rw [List.length_cons]
  omega
 ·obtain ⟨he,hsp,⟨B',L',F',hR,hL,hr⟩,hrest⟩ := h9
  have hlen2 : L1.length=need F ((P:Int)*4096)+L'.length := by
   have := congrArg List.length hL
   rw [List.length_append,List.length_take,Nat.min_eq_left hw,need_eq] at this
   exact this
  obtain ⟨t1,t2,t3⟩ := h.tab.add (i:=P) h.ram.nd ⟨hf.1,hf.2⟩ hN (fun e => Nat.lt_irrefl _ (List.mem_range.1 e)) hP (rgt_b hx) (rgt_leaf hx hf.2 hN).1 hR hlen2
  rw [← List.range_succ] at t1 t3
  have hT : SpT w' s p b m N r (P+1) ox.ft (((P+1 : Nat) : Int)*4096) B' L' F' (setE lf (y0 ((P:Int)*4096)) (i0 ((P:Int)*4096)) (toP (ad f) (x+208))) (upd fr P f) (upd c P (x+208)) := ⟨by rw [show ((P+1 : Nat) : Int)=(P:Int)+1 by omega]; exact hsp,by omega,by omega,hr,h.ne,t1⟩
  refine ⟨he,⟨B',L',F',_,_,hT,fun a ha => ?_,hO.oth t3,by rw [List.length_cons] at t2; omega⟩,hrest⟩
  have hq := hT.su.pag (a / 4096) (by omega)
  have hm : a % 4096<4096 := by omega
  by_cases hPa : a / 4096=P
  ·have hn : ¬ a<P*4096 := by omega
   have e1 := hR.byt _ hq.nn (a % 4096) hm
   have : upd fr P f (a / 4096)=f := by unfold upd; rw [if_pos hPa]
   unfold btU grM
   rw [e1,if_neg hn,this]
   exact zer_in B f _ hm
  ·have hi : a / 4096<P := Nat.lt_of_le_of_ne (Nat.le_of_lt_succ (Nat.div_lt_of_lt_mul (by rw [Nat.mul_comm]; exact ha))) hPa
   have hn : a<P*4096 := by
    clear hPa ha
    omega
   have hff : fr (a / 4096)≠f := fun e => (h.tab.pg (a / 4096) (List.mem_range.2 hi)).2.2.1 (by rw [e]; exact List.mem_cons_self ..)
   have hx2 : fr (a / 4096)*4096+a % 4096<f*4096∨f*4096+4096≤fr (a / 4096)*4096+a % 4096 := by rcases Nat.lt_or_gt_of_ne hff with h1 | h1 <;> omega
   have e2 : upd fr P f (a / 4096)=fr (a / 4096) := by unfold upd; rw [if_neg hPa]
   have e1 := hR.byt _ hq.nn (a % 4096) hm
   have e3 := hM a hn
   unfold btU at e1 e3 ⊢
   unfold grM
   rw [e1,if_pos hn,e2,← e3]
   exact zer_out B f _ hx2
def PmP (ox:Oxt) (w:World) (s p b m N r P K:Nat) (M:Nat→Int) (c:Nat→Int) (e:Ending) (w':World) : Prop := e = .returned (.bool true)∧SpM ox w' s p b m N r P K M c∧Fra p b m w w'
theorem SpM.wr_of {B:Nat→Int} {L:List Nat} {F:Nat→Option Nat} {lf:Nat→Nat→Int} {fr:Nat→Nat} (h:SpT w s p b m N r P ox.ft ((P:Int)*4096) B L F lf fr c) (hM:∀ a,a<P*4096→btU B fr a=M a) (hO:Ots ox L F P fr B) (hK:L.length+nodesF F+P+1=K) {va n:Nat} {R:Nat→Int} (hv:va+n≤P*4096) (h':SpU w' s p b m N r P ((P:Int)*4096) (wrU B fr va R n) L F lf fr c) : SpM ox w' s p b m N r P K (wrM M va n R) c := by
 refine ⟨_,L,F,lf,fr,⟨h'.sp,h'.sz,h'.pm,h'.ram,h'.ne,⟨h'.pt,h.tab.rt,h.tab.tl,h.tab.nd,h.tab.bd,h.tab.inj,h.tab.pg,h.tab.ftb⟩⟩,fun a ha => ?_,hO.bytes fun f hf j hj => wrU_else B fr va R f j hj n fun k hk e => (hO f hf).2.2.1 _ (by omega) e,hK⟩
 unfold wrM
 by_cases e : va≤a∧a<va+n
 ·rw [if_pos e]
  have := wrU_at B fr va R P h.inj n hv (a - va) (by omega)
  rw [show va+(a - va)=a by omega] at this
  exact this
 ·rw [if_neg e,wrU_off h.inj va R a ha n hv (fun j hj e2 => e ⟨by omega,by omega⟩)]
  exact hM a ha
theorem SpM.poke (h:SpM ox w s p b m N r P K M c) (va n:Nat) (hn:1≤n) (hv:va+n≤P*4096) (g k0 cc:Nat) (hcc:n≤cc∧cc≤9223372036854775807) (R:Nat→Int) (hR:∀ i,0≤R i∧R i<256) (hg:∀ i,i<n→w.cell? ⟨g,k0+i,.none⟩=some (.int .u8 (R i))) (hgp:g≠p∧g≠b∧g≠m) :
  Calls Tryz.prog 95 #[.pointer (some ⟨s,0,.none⟩),.int .u64 va,.slice (some ⟨g,k0,.none⟩) n cc] w (PmP ox w s p b m N r P K (wrM M va n R) c) := by
 obtain ⟨B,L,F,lf,fr,h,hM,hO,hK⟩ := h
 have hm := h.pm
 refine (poke_gen h.su va n hn (by omega) g k0 cc hcc R hR hg hgp).mono fun e w' h9 => ?_
 rcases h9 with ⟨_,h1,h2,h3⟩ | ⟨h1,_⟩
 ·exact ⟨h1,SpM.wr_of h hM hO hK hv h2,h3⟩
 ·exact absurd (show (va:Int)+n≤(P:Int)*4096 by omega) h1
theorem SpM.guard (h:SpM ox w s p b m N r P K M c) (i:Nat) (hi:1≤i∧i+1<P) {d:Int} (hd:rdb (c i) d) : Calls Tryz.prog 96 #[.pointer (some ⟨s,0,.none⟩),.int .i64 (i:Int)] w fun e w' => e = .returned (.int .i64 0)∧SpM ox w' s p b m N r P K M (upd c i d)∧Fra p b m w w' := by
 obtain ⟨B,L,F,lf,fr,h,hM,hO,hK⟩ := h
 have hN := h.ram.mem.n2
 have hpm := h.pm
 have hq := h.su.pag i (by omega)
 obtain ⟨j,hj1,hj2,hj3⟩ : ∃ j,j<P∧j / 512=i / 512∧j % 512≠i % 512 := by
  by_cases e : i % 512=511
  ·exact ⟨i - 1,by omega,by omega,by omega⟩
  ·exact ⟨i+1,by omega,by omega,by omega⟩
 have hqj := h.su.pag j hj1
 refine (guard_pt h.sp h.ram h.tab.pt h.tab.rt h.ne (i:Int) (by omega) (by omega) hd hq (j % 512) ⟨by omega,by rw [low_iq]; exact hj3,?_⟩).mono fun e w' h9 => ?_
 ·have hl := hqj.l
  have hk := hqj.k
  rw [low_yq j (by omega),low_iq,hj2] at hl
  rw [low_yq i (by omega),hl]
  exact hk
 ·obtain ⟨he,hfra,B',hram,hpt,hby⟩ := h9
  have hlf := rdb_leaf hd hq.qb.1 hN
  have hfb := ad_b (fr i) N hq.qb.1 hN
  have hT2 := h.tab.turn (i:=i) (List.mem_range.2 (by omega)) (d:=d) (B' := B') ⟨by unfold rdb at hd; omega,by unfold rdb at hd; omega,by unfold rdb at hd; omega⟩ ⟨hfb.1,hfb.2.1,hfb.2.2⟩ hlf.1 hpt
  refine ⟨he,⟨B',L,F,_,fr,⟨h.sp.fra hfra h.ne.1 h.ne.2.1 h.ne.2.2,h.sz,h.pm,hram,h.ne,hT2⟩,fun a ha => ?_,hO.bytes fun f hf j hj => hby f (hO f hf).2.1 j hj,hK⟩,hfra⟩
  rw [← hM a ha]
  unfold btU
  exact hby _ (h.su.pag (a / 4096) (by omega)).nn _ (by omega)
def ImP (w:World) (va n:Nat) (M:Nat→Int) (c:Nat→Int) (e:Ending) (w':World) : Prop :=
 Below w.heap.size w w'∧(((∀ j,j<n→accU c 1 (va+j)=true) ∧ ∃ g,w.heap.size≤g∧g<w'.heap.size∧e = .returned (.tuple #[.slice (some ⟨g,0,.none⟩) n n,.bool true])∧(∀ j,j<n→w'.cell? ⟨g,j,.none⟩=some (.int .u8 (M (va+j))))) ∨
  ((∃ j,j<n∧accU c 1 (va+j)=false)∧e = .returned (.tuple #[.slice none 0 0,.bool false])))
theorem SpM.inn (h:SpM ox w s p b m N r P K M c) (va n:Nat) (hn:1≤n) (hf:va+n≤P*4096) : Calls Tryz.prog 12 #[.pointer (some ⟨s,0,.none⟩),.int .u64 va,.int .i64 n] w (ImP w va n M c) := by
 obtain ⟨B,L,F,lf,fr,h,hM,hO,hK⟩ := h
 refine (in_any h.su va n hn hf).mono fun e w' h9 => ?_
 obtain ⟨hb,⟨h1,g,h2,h3,h4,h5⟩ | h1⟩ := h9
 ·exact ⟨hb,.inl ⟨h1,g,h2,h3,h4,fun j hj => by rw [h5 j hj,hM _ (by omega)]⟩⟩
 ·exact ⟨hb,.inr h1⟩
theorem SpM.size_any (h:SpM ox w s p b m N r P K M c) : Calls Tryz.prog 22 #[.pointer (some ⟨s,0,.none⟩)] w fun e w' => e = .returned (.int .u64 ((P:Int)*4096))∧w'=w := by
 obtain ⟨B,L,F,lf,fr,h,hM,hO,hK⟩ := h
 exact size_sp h.sp
end
end Rm
section
open Go.RowKit Go.Shelf
attribute [local go_sem] Oper.semAt_some
set_option maxRecDepth 10000
abbrev Bs := List UInt8
abbrev ix (l:Bs) (c:UInt8) : Int := Lib.indexByte l c
theorem ix_cases (l:Bs) (c:UInt8) : ix l c = -1 ∨ ∃ o : Nat,ix l c=o∧o<l.length := by
 have h : -1≤ix l c := Lib.indexByte_ge l c
 by_cases e : ix l c = -1
 ·exact .inl e
 ·right
  refine ⟨(ix l c).toNat,by omega,?_⟩
  have h1 := (Lib.indexByte_some (l:=l) (c:=c) (o:=(ix l c).toNat) (show ix l c = _ by omega)).1
  exact (List.getElem?_eq_some_iff.1 h1).1
def hz (l:Bs) : Bool := decide (0 ∈ l)
theorem ix_hz (l:Bs) : decide (0≤ix l 0)=hz l := by
 unfold hz
 rcases ix_cases l 0 with e | ⟨o,e,ho⟩
 ·have hn : (0:UInt8) ∉ l := fun hm => by
   obtain ⟨k,hk⟩ := List.mem_iff_getElem?.1 hm
   exact absurd hk (Lib.indexByte_none e k)
  rw [e]
  simp [hn]
 ·have hm : (0:UInt8) ∈ l := List.mem_iff_getElem?.2 ⟨o,(Lib.indexByte_some e).1⟩
  rw [e]
  simp [hm]
theorem idxS_any (s:ByteArray) (c:Int) (w:World) : Calls Tryz.prog 177 #[.string s,.int .u8 c] w fun e w' => e = .returned (.int .i64 (ix s.data.toList c.toNat.toUInt8))∧w'=w := by
 go_enter Tryz.func177,Tryz.ntmps177
 go_wp2
 rw [run_callFunc_extern Tryz.func206 (by kernel_rfl) (by kernel_rfl) (by kernel_rfl) (e:=Extern.BytealgIndexByte.indexByte) (by kernel_rfl),Lib.run_indexByteString]
 simp only [Result.andThen]
 rw [Oper.upon_value]
 go_wp2
 go_ret
 exact ⟨rfl,rfl⟩
theorem indexByte_any (s:ByteArray) (c:Int) (w:World) : Calls Tryz.prog 139 #[.string s,.int .u8 c] w fun e w' => e = .returned (.int .i64 (ix s.data.toList c.toNat.toUInt8))∧w'=w := by
 have c1 := idxS_any s c w
 go_enter Tryz.func139,Tryz.ntmps139
 go_wp2_with (go_at_call 177; refine c1.mono ?_; rintro _ _ ⟨rfl,rfl⟩)
 go_ret
 exact ⟨rfl,rfl⟩
def sv (x:Bs) : Value := .string ⟨x.toArray⟩
theorem hasZero_any (l:Bs) (w:World) : Calls Tryz.prog 87 #[sv l] w fun e w' => e = .returned (.bool (hz l))∧w'=w := by
 have c1 : Calls Tryz.prog 139 #[.string ⟨l.toArray⟩,.int .u8 0] w fun e w' => e = .returned (.int .i64 (ix l 0))∧w'=w := indexByte_any ⟨l.toArray⟩ 0 w
 have h0 := ix_hz l
 unfold sv
 generalize ix l 0=z at *
 rw [← h0]
 clear h0
 go_enter Tryz.func87,Tryz.ntmps87
 go_wp2_with (go_at_call 139; refine c1.mono ?_; rintro _ _ ⟨rfl,rfl⟩)
 go_ret
 exact ⟨rfl,rfl⟩
def Tex (w:World) (p:Option Addr) (n c:Nat) (xs:List Bs) : Prop :=
 xs.length=n∧n≤c∧c≤maxLen∧(n=0 ∨ ∃ b o,p=some ⟨b,o,.none⟩∧b<w.heap.size ∧ ∀ i x,xs[i]? = some x→w.cell? ⟨b,o+i,.none⟩=some (sv x))
theorem Tex.below {w w':World} {p:Option Addr} {n c:Nat} {xs:List Bs} (h:Tex w p n c xs) (hb:Below w.heap.size w w') : Tex w' p n c xs := by
 obtain ⟨h1,h2,h3,h4⟩ := h
 refine ⟨h1,h2,h3,?_⟩
 rcases h4 with h4 | ⟨b,o,rfl,h5,h6⟩
 ·exact .inl h4
 ·exact .inr ⟨b,o,rfl,Nat.lt_of_lt_of_le h5 hb.size,fun i x hx => (hb.cell (p:=⟨b,o+i,.none⟩) h5).trans (h6 i x hx)⟩
theorem Tex.at {w:World} {p:Option Addr} {n c i:Nat} {xs:List Bs} (h:Tex w p n c xs) (hi:i<n) : ∃ b o x,p=some ⟨b,o,.none⟩∧xs[i]? = some x∧w.cell? ⟨b,o+i,.none⟩=some (.string ⟨x.toArray⟩) := by
 obtain ⟨h1,h2,h3,h4⟩ := h
 rcases h4 with h4 | ⟨b,o,rfl,h5,h6⟩
 ·omega
 ·exact ⟨b,o,xs[i]'(by omega),rfl,List.getElem?_eq_getElem _,h6 i _ (List.getElem?_eq_getElem _)⟩
set_option maxHeartbeats 1000000 in
theorem indexF_any (p:Option Addr) (n c:Nat) (xs:List Bs) (w:World) (hn:n<1000000) (h:Tex w p n c xs) :
  Calls Tryz.prog 138 #[.slice p n c,.func (.func 87) #[] #[]] w fun e w' => (∃ z : Int,e = .returned (.int .i64 z)∧decide (0≤z)=xs.any hz)∧w'=w := by
 have HT : Hid (Tex w p n c xs) := h
 have hc : c≤9223372036854775807 := h.2.2.1
 have hnc : n≤c := h.2.1
 have HL : Hid (xs.length=n) := h.1
 clear h
 go_enter Tryz.func138,Tryz.ntmps138
 go_wp2_with fail
 go_loopw [8] (fun a wr => ∃ i : Nat,i≤n∧a = .int .i64 i∧Hid ((xs.take i).any hz=false)∧wr=w) (fun a _ => (n - intOf a).toNat)
 case atStart => exact ⟨0,by omega,rfl,by show _ = _; simp,rfl⟩
 case round =>
  obtain ⟨i,hi,rfl,HA,rfl⟩ := hrel
  by_cases hlt : i<n
  ·have g0 : (i:Int)<n := by omega
   obtain ⟨b,o,x,rfl,hx,a0⟩ := HT.out.at hlt
   have hnext : (xs.take (i+1)).any hz=hz x := by
    rw [List.take_add_one,hx,List.any_append,HA.out]
    simp
   have c1 := hasZero_any x wr
   unfold sv at c1
   have HX : Hid (xs[i]? = some x) := hx
   clear hx
   cases hzx : hz x with
   | true =>
    rw [hzx] at c1 hnext
    have HN : Hid ((xs.take (i+1)).any hz=true) := hnext
    clear hnext hzx
    go_wp2_with (go_at_call 87; refine c1.mono ?_; rintro _ _ ⟨rfl,rfl⟩)
    go_ret
    refine ⟨⟨i,rfl,?_⟩,rfl⟩
    have : xs.any hz=true := by
     rw [← List.take_append_drop (i+1) xs,List.any_append,HN.out]; rfl
    rw [this]; simp
   | false =>
    rw [hzx] at c1 hnext
    have HN : Hid ((xs.take (i+1)).any hz=false) := hnext
    clear hnext hzx
    go_wp2_with (go_at_call 87; refine c1.mono ?_; rintro _ _ ⟨rfl,rfl⟩)
    exact ⟨⟨i+1,by omega,rfl,HN,trivial⟩,by simp only [intOf]; omega⟩
  ·obtain rfl : i=n := by omega
   go_wp2
   go_ret
   refine ⟨⟨-1,rfl,?_⟩,rfl⟩
   have := HA.out
   rw [← HL.out,List.take_length] at this
   rw [this]; rfl
theorem contains_any (p:Option Addr) (n c:Nat) (xs:List Bs) (w:World) (hn:n<1000000) (h:Tex w p n c xs) :
  Calls Tryz.prog 86 #[.slice p n c,.func (.func 87) #[] #[]] w fun e w' => e = .returned (.bool (xs.any hz))∧w'=w := by
 have c1 := indexF_any p n c xs w hn h
 clear h
 go_enter Tryz.func86,Tryz.ntmps86
 go_wp2_with (go_at_call 138; refine c1.mono ?_; rintro _ _ ⟨⟨z,rfl,hz1⟩,rfl⟩; have HZ : Hid (decide (0≤z)=xs.any hz) := hz1; clear hz1 c1)
 go_ret
 exact ⟨by rw [← HZ.out]; rfl,rfl⟩
end
end Go.Proofs.YtabnipbdbnmmpaaGreatDoor
