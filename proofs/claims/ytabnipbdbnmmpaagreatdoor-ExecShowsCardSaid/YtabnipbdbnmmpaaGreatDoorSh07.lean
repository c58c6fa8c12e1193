import Derived.Test.YtabnipbdbnmmpaaGreatDoorSh01
import Derived.Test.YtabnipbdbnmmpaaGreatDoorSh05
import Derived.Test.YtabnipbdbnmmpaaGreatDoorSh06
import Derived.Test.YtabnipbdbnmmpaaGreatDoorSh04
set_option linter.unusedVariables false
set_option linter.unusedSimpArgs false
namespace Go.Proofs.YtabnipbdbnmmpaaGreatDoor
section
open Go.RowKit
structure Sr where
 va : Int
 fl : Int
 q : Option Addr
 n : Nat
 c : Nat
 mem : Int
structure Sgs (w:World) (b o:Nat) (S:Nat→Sr) (m:Nat) : Prop where
 c0 : ∀ i,i<m→w.cell? ⟨b,o+i*4,.none⟩=some (.int .u64 (S i).va)
 c1 : ∀ i,i<m→w.cell? ⟨b,o+i*4+1,.none⟩=some (.int .u32 (S i).fl)
 c2 : ∀ i,i<m→w.cell? ⟨b,o+i*4+2,.none⟩=some (.slice (S i).q (S i).n (S i).c)
 c3 : ∀ i,i<m→w.cell? ⟨b,o+i*4+3,.none⟩=some (.int .u64 (S i).mem)
theorem Sgs.below {w w':World} {b o m:Nat} {S:Nat→Sr} (h:Sgs w b o S m) (k:Below w.heap.size w w') : Sgs w' b o S m :=
 ⟨fun i hi => (k.cell (lt_of_cell (h.c0 i hi))).trans (h.c0 i hi),fun i hi => (k.cell (lt_of_cell (h.c1 i hi))).trans (h.c1 i hi),fun i hi => (k.cell (lt_of_cell (h.c2 i hi))).trans (h.c2 i hi),fun i hi => (k.cell (lt_of_cell (h.c3 i hi))).trans (h.c3 i hi)⟩
def sumN (S:Nat→Sr) : Nat→Nat
 | 0 => 0
 | i+1 => sumN S i+(S i).n
theorem sum_le (S:Nat→Sr) (m:Nat) (hn:∀ i,i<m→(S i).n≤1073741824∧(S i).n≤(S i).c∧(S i).c≤9223372036854775807) : ∀ i,i≤m→sumN S i≤i*1073741824
 | 0,_ => by simp [sumN]
 | i+1,h => by
  have := sum_le S m hn i (by omega)
  have := (hn i (by omega)).1
  simp only [sumN]
  omega
set_option maxHeartbeats 1000000 in
theorem fileSize_any (b o m c:Nat) (S:Nat→Sr) (w:World) (h:Sgs w b o S m) (hm:m≤8) (hc:m≤c∧c≤9223372036854775807) (hn:∀ i,i<m→(S i).n≤1073741824∧(S i).n≤(S i).c∧(S i).c≤9223372036854775807) :
  Calls Tryz.prog 37 #[.slice (some ⟨b,o,.none⟩) m c] w fun e w' => e = .returned (.int .u64 (64+56*m+sumN S m))∧Below w.heap.size w w' := by
 have c20 := fun w' => begin_any (some ⟨b,o,.none⟩) m c w' (by omega) hc
 have HG : Hid (Sgs w b o S m) := h
 clear h
 go_enter Tryz.func37,Tryz.ntmps37
 go_wp2_with (first | (go_at_call 82; refine (c20 _).mono ?_; rintro e w1 ⟨rfl,hw1⟩; rw [hw1]; clear hw1 w1) | fail)
 go_loopw [3,10] (fun a k wr => ∃ i : Nat,i≤m∧k = .int .i64 i∧a = .int .u64 (64+56*m+sumN S i)∧Hid (Below w.heap.size w wr)) (fun _ k _ => (m - intOf k).toNat)
 case atStart => exact ⟨0,by omega,rfl,by simp [sumN],Below.refl _ _⟩
 case round =>
  obtain ⟨i,hi,rfl,rfl,HS⟩ := hrel
  by_cases hlt : i<m
  ·have g0 : (i:Int)<m := by omega
   have hg := HG.out.below HS.out
   have r0 := hg.c0 i hlt
   have r1 := hg.c1 i hlt
   have r2 := hg.c2 i hlt
   have r3 := hg.c3 i hlt
   clear hg
   have hb := hn i hlt
   have hs := sum_le S m hn i hi
   have hs2 : sumN S (i+1)=sumN S i+(S i).n := rfl
   have HN : Hid (Below w.heap.size w (wr.alloc (.cells #[.int .u64 (S i).va,.int .u32 (S i).fl,.slice (S i).q (S i).n (S i).c,.int .u64 (S i).mem] 38))) := HS.out.alloc HS.out.size _
   go_wp2_with fail
   exact ⟨⟨i+1,by omega,by simp,by rw [hs2]; congr 1; push_cast; omega,HN⟩,by simp [intOf]; omega⟩
  ·have he : i=m := by omega
   have hn9 : ¬ ((i:Int)<m) := by omega
   subst he
   go_wp2_with fail
   go_ret
   exact ⟨rfl,HS.out⟩
end
section
open Go.RowKit
structure Prs (w:World) (X:Nat) (sv:Value) (E:List (Sg × Value)) (B:Nat→Int) : Prop where
 own : w.ownsRow X 38 4 sv E.length (flatE E)
 dat : ∀ x ∈ E,w.ownsRow X 5 1 x.2 x.1.sz (by8 (byt B x.1))
 va : ∀ x ∈ E,0≤x.1.va∧x.1.va<18446744073709551616
 fl : ∀ x ∈ E,0≤x.1.fl∧x.1.fl<4294967296
 mem : ∀ x ∈ E,0≤x.1.mem∧x.1.mem<18446744073709551616
 sz : ∀ x ∈ E,x.1.sz≤400000
def okS (s:Sg) : Bool := ok1 s.va s.fl s.sz s.mem
def Gk (S:List Sg) (k:Nat) : Prop := ∀ i s,i<k→S[i]? = some s→okS s=true∧ris (S.take i) s.va=true
def Good (en:Int) (S:List Sg) : Prop := 0<S.length∧S.length≤8∧Gk S S.length∧hasE S en=true
end
section
open Go.RowKit
theorem Gk.succ {S:List Sg} {i:Nat} {s:Sg} (h:Gk S i) (hs:S[i]? = some s) (h1:okS s=true) (h2:ris (S.take i) s.va=true) : Gk S (i+1) := by
 intro j t hj ht
 by_cases e : j=i
 ·subst e
  rw [hs] at ht
  injection ht with ht
  subst ht
  exact ⟨h1,h2⟩
 ·exact h j t (by omega) ht
theorem not_good1 {S:List Sg} {en:Int} {i:Nat} {s:Sg} (hs:S[i]? = some s) (h1:okS s=false) : ¬ Good en S := fun h => by
 have hlt := (List.getElem?_eq_some_iff.1 hs).1
 have := (h.2.2.1 i s hlt hs).1
 rw [h1] at this
 cases this
theorem not_good2 {S:List Sg} {en:Int} {i:Nat} {s:Sg} (hs:S[i]? = some s) (h1:ris (S.take i) s.va=false) : ¬ Good en S := fun h => by
 have hlt := (List.getElem?_eq_some_iff.1 hs).1
 have := (h.2.2.1 i s hlt hs).2
 rw [h1] at this
 cases this
end
section
open Go.RowKit
def szs : List Sg→Nat→Nat
 | _,0 => 0
 | [],_ + 1 => 0
 | s :: S,i+1 => s.sz+szs S i
theorem szs_succ : ∀ (S:List Sg) (i:Nat) (s:Sg),S[i]? = some s→szs S (i+1)=szs S i+s.sz
 | [],i,s,h => by simp at h
 | x :: S,0,s,h => by
  simp only [List.getElem?_cons_zero,Option.some.injEq] at h
  subst h
  simp [szs]
 | x :: S,i+1,s,h => by
  simp only [List.getElem?_cons_succ] at h
  have := szs_succ S i s h
  simp only [szs] at *
  omega
theorem szs_mono : ∀ (S:List Sg) (i j:Nat),i≤j→szs S i≤szs S j
 | S,0,j,_ => by simp [szs]
 | [],i+1,j,h => by
  obtain ⟨k,rfl⟩ : ∃ k,j=k+1 := ⟨j - 1,by omega⟩
  simp [szs]
 | s :: S,i+1,j,h => by
  obtain ⟨k,rfl⟩ : ∃ k,j=k+1 := ⟨j - 1,by omega⟩
  have := szs_mono S i k (by omega)
  simp only [szs]
  omega
def Plc (S:List Sg) : Prop := ∀ i s,S[i]? = some s→s.wh=64+56*S.length+szs S i
def sgB (S:List Sg) (i:Nat) : Nat→Int := match S[i]? with | some s => segB s.va s.fl s.mem s.wh s.sz | none => fun _ => 0
def fil (en:Int) (S:List Sg) (B:Nat→Int) : Nat→Int := fun k => if k<64 then headB en S.length k else if k<64+56*S.length then sgB S ((k - 64) / 56) ((k - 64) % 56) else B k
theorem lst_size (H:Nat→Int) (n:Nat) : (lst H n).toArray.size=n := by rw [List.size_toArray,lst_len]
theorem lst_add (H:Nat→Int) (n k:Nat) : lst H (n+k)=lst H n ++ (List.range k).map fun j => .int .u8 (H (n+j)) := by
 simp only [lst]
 rw [List.range_add,List.map_append,List.map_map]
 rfl
theorem fil_head (en:Int) (S:List Sg) (B:Nat→Int) : lst (fil en S B) 64=lst (headB en S.length) 64 := by
 simp only [lst]
 apply List.map_congr_left
 intro k hk
 simp only [fil,if_pos (List.mem_range.1 hk)]
theorem fil_seg (en:Int) (S:List Sg) (B:Nat→Int) (i:Nat) (s:Sg) (hs:S[i]? = some s) : lst (fil en S B) (64+56*(i+1))=lst (fil en S B) (64+56*i) ++ lst (segB s.va s.fl s.mem s.wh s.sz) 56 := by
 have hlt := (List.getElem?_eq_some_iff.1 hs).1
 rw [show 64+56*(i+1)=64+56*i+56 by omega,lst_add]
 congr 1
 simp only [lst]
 apply List.map_congr_left
 intro k hk
 have hk := List.mem_range.1 hk
 simp only [fil,if_neg (show ¬ 64+56*i+k<64 by omega),if_pos (show 64+56*i+k<64+56*S.length by omega)]
 rw [show (64+56*i+k - 64) / 56=i by omega,show (64+56*i+k - 64) % 56=k by omega]
 simp only [sgB,hs]
theorem fil_dat (en:Int) (S:List Sg) (B:Nat→Int) (hP:Plc S) (i:Nat) (s:Sg) (hs:S[i]? = some s) : lst (fil en S B) (64+56*S.length+szs S (i+1))=lst (fil en S B) (64+56*S.length+szs S i) ++ by8 (byt B s) := by
 rw [szs_succ S i s hs,← Nat.add_assoc,lst_add]
 congr 1
 simp only [by8,byt,List.map_map]
 apply List.map_congr_left
 intro k hk
 have := hP i s hs
 simp only [fil,Function.comp,if_neg (show ¬ 64+56*S.length+szs S i+k<64 by omega),if_neg (show ¬ 64+56*S.length+szs S i+k<64+56*S.length by omega)]
 rw [this]
theorem there_z (w:World) (n:Nat) (t:TypeId) : (w.alloc (.cells (List.replicate n (.int .u8 0)).toArray t)).there w.heap.size 0 n := by
 intro j hj
 constructor
 ·rw [World.cell?_alloc_at _ _ _ _ rfl]
  simp [hj]
 ·simp
theorem wpList_read {P:Program} {ops:Array Oper} {rest:List Oper} {o:Oper} {a:Act} {w:World} {Q:Exit→Act→World→Prop} (hg:o.guard = .none) (v:Value) (hrun:(execOp a.eval o).run P w = .ok (.value v) w)
  (h:wpList P ops Q rest (a.put o.dst v) w) : wpList P ops Q (o :: rest) a w := wpList_plain hg fun K hK => by
 unfold Oper.wp
 rw [hrun,Oper.upon_value]
 exact hK _ _ h
theorem wpList_new {P:Program} {ops:Array Oper} {rest:List Oper} {o:Oper} {a:Act} {w:World} {Q:Exit→Act→World→Prop} (hg:o.guard = .none) (v:Value) (ob:Obj) (hrun:(execOp a.eval o).run P w = .ok (.value v) (w.alloc ob))
  (h:wpList P ops Q rest (a.put o.dst v) (w.alloc ob)) : wpList P ops Q (o :: rest) a w := wpList_plain hg fun K hK => by
 unfold Oper.wp
 rw [hrun,Oper.upon_value]
 exact hK _ _ h
end
section
open Go.RowKit
structure Sv (w:World) (sv:Value) (E:List (Sg × Value)) : Prop where
 fm : ∃ q c,sv = .slice q E.length c∧E.length≤c∧c≤9223372036854775807 ∧ ∀ i x,E[i]? = some x → ∃ g o,q=some ⟨g,o,.none⟩∧w.cell? ⟨g,o+i*4,.none⟩=some (.int .u64 x.1.va)∧w.cell? ⟨g,o+i*4+1,.none⟩=some (.int .u32 x.1.fl)∧w.cell? ⟨g,o+i*4+2,.none⟩=some x.2∧w.cell? ⟨g,o+i*4+3,.none⟩=some (.int .u64 x.1.mem)
 ds : ∀ x ∈ E,∃ dq dc,x.2 = .slice dq x.1.sz dc∧x.1.sz≤dc∧dc≤9223372036854775807
theorem Sv.below {w w':World} {sv:Value} {E:List (Sg × Value)} (h:Sv w sv E) (b:Below w.heap.size w w') : Sv w' sv E := by
 obtain ⟨q,c,h1,h2,h3,h4⟩ := h.fm
 refine ⟨⟨q,c,h1,h2,h3,fun i x hx => ?_⟩,h.ds⟩
 obtain ⟨g,o,k1,k2,k3,k4,k5⟩ := h4 i x hx
 exact ⟨g,o,k1,(b.cell (lt_of_cell k2)).trans k2,(b.cell (lt_of_cell k3)).trans k3,(b.cell (lt_of_cell k4)).trans k4,(b.cell (lt_of_cell k5)).trans k5⟩
theorem Sv.pre {w:World} {c:Nat} {q:Option Addr} {E:List (Sg × Value)} (h:Sv w (.slice q E.length c) E) (k:Nat) (hk:k≤E.length) : Sv w (.slice q k c) (E.take k) := by
 obtain ⟨q',c',h1,h2,h3,h4⟩ := h.fm
 injection h1 with e1 e2 e3
 subst e1 e3
 have hl : (E.take k).length=k := by rw [List.length_take]; omega
 refine ⟨⟨q,c,by rw [hl],by omega,h3,fun i x hx => h4 i x ?_⟩,fun x hx => h.ds x (List.mem_of_mem_take hx)⟩
 rw [List.getElem?_take] at hx
 split at hx
 ·exact hx
 ·cases hx
structure Prv (w:World) (sv:Value) (E:List (Sg × Value)) (B:Nat→Int) : Prop where
 sv : Sv w sv E
 dt : ∀ x ∈ E,x.1.sz=0 ∨ ∃ g o dc,x.2 = .slice (some ⟨g,o,.none⟩) x.1.sz dc ∧ ∀ j,j<x.1.sz→w.cell? ⟨g,o+j,.none⟩=some (.int .u8 (B (x.1.wh+j)))
 va : ∀ x ∈ E,0≤x.1.va∧x.1.va<18446744073709551616
 fl : ∀ x ∈ E,0≤x.1.fl∧x.1.fl<4294967296
 mem : ∀ x ∈ E,0≤x.1.mem∧x.1.mem<18446744073709551616
 sz : ∀ x ∈ E,x.1.sz≤400000
theorem Prv.below {w w':World} {sv:Value} {E:List (Sg × Value)} {B:Nat→Int} (h:Prv w sv E B) (b:Below w.heap.size w w') : Prv w' sv E B := by
 refine ⟨h.sv.below b,fun x hx => ?_,h.va,h.fl,h.mem,h.sz⟩
 rcases h.dt x hx with h0 | ⟨g,o,dc,h1,h2⟩
 ·exact .inl h0
 ·exact .inr ⟨g,o,dc,h1,fun j hj => (b.cell (lt_of_cell (h2 j hj))).trans (h2 j hj)⟩
theorem Prv.cells {w:World} {c:Nat} {q:Option Addr} {E:List (Sg × Value)} {B:Nat→Int} (h:Prv w (.slice q E.length c) E B) {i:Nat} {x:Sg × Value} (hx:E[i]? = some x) : ∃ g o dq dc,q=some ⟨g,o,.none⟩∧x.2 = .slice dq x.1.sz dc∧x.1.sz≤dc∧dc≤9223372036854775807∧w.cell? ⟨g,o+i*4,.none⟩=some (.int .u64 x.1.va)∧w.cell? ⟨g,o+i*4+1,.none⟩=some (.int .u32 x.1.fl)∧w.cell? ⟨g,o+i*4+2,.none⟩=some (.slice dq x.1.sz dc)∧w.cell? ⟨g,o+i*4+3,.none⟩=some (.int .u64 x.1.mem) := by
 obtain ⟨q',c',h1,h2,h3,h4⟩ := h.sv.fm
 injection h1 with e1 e2 e3
 subst e1 e3
 obtain ⟨g,o,k1,k2,k3,k4,k5⟩ := h4 i x hx
 obtain ⟨dq,dc,d1,d2,d3⟩ := h.sv.ds x (List.mem_of_getElem? hx)
 rw [d1] at k4
 exact ⟨g,o,dq,dc,k1,d1,d2,d3,k2,k3,k4,k5⟩
theorem Gk.gdV {w:World} {sv:Value} {E:List (Sg × Value)} {B:Nat→Int} (h:Prv w sv E B) {k:Nat} (hk:k≤E.length) (hg:Gk (E.map (·.1)) k) : ∀ x ∈ E.take k,Gd x.1 := by
 intro x hx
 obtain ⟨j,hj,hje⟩ := List.getElem_of_mem hx
 have hj' : j<k := by rw [List.length_take] at hj; omega
 have hm : x ∈ E := List.mem_of_mem_take hx
 have hx2 : E[j]? = some x := by
  rw [← hje,List.getElem_take,List.getElem?_eq_getElem]
 have := (hg j x.1 hj' (by rw [List.getElem?_map,hx2]; rfl)).1
 exact ok1_gd this (h.va x hm).1 (by have := h.sz x hm; omega)
set_option maxHeartbeats 1000000 in
theorem risesV_any {w:World} {sv:Value} {E:List (Sg × Value)} (h:Sv w sv E) (hgE:∀ x ∈ E,Gd x.1) (hl:E.length≤8) (va fl mem:Int) (dp:Option Addr) (dn dc:Nat) :
  Calls Tryz.prog 80 #[sv,.agg #[.int .u64 va,.int .u32 fl,.slice dp dn dc,.int .u64 mem]] w fun e w' => e = .returned (.bool (ris (E.map (·.1)) va))∧Below w.heap.size w w' := by
 obtain ⟨q,c,rfl,hc1,hc2,hcl⟩ := h.fm
 by_cases h0 : E = []
 ·subst h0
  simp only [List.length_nil] at *
  go_enter Tryz.func80,Tryz.ntmps80
  go_wp2
  go_ret
  exact ⟨rfl,(Below.refl _ _).alloc (Nat.le_refl _) _⟩
 ·obtain ⟨l,hlast⟩ : ∃ l,E.getLast? = some l := ⟨E.getLast h0,List.getLast?_eq_some_getLast h0⟩
  have hn : 0<E.length := List.length_pos_iff.2 h0
  obtain ⟨m,hm⟩ : ∃ m,E.length=m+1 := ⟨E.length - 1,by omega⟩
  have hg : E[m]? = some l := by
   have : E.length - 1=m := by omega
   rw [← this,← List.getLast?_eq_getElem?]
   exact hlast
  obtain ⟨g,o,rfl,a0,a1,a2,a3⟩ := hcl m l hg
  have hgd := hgE l (List.mem_of_getElem? hg)
  obtain ⟨ldq,ldc,hld,_⟩ := h.ds l (List.mem_of_getElem? hg)
  rw [hld] at a2
  have HB : Hid (Below w.heap.size w (w.alloc (.cells #[.int .u64 va,.int .u32 fl,.slice dp dn dc,.int .u64 mem] 38))) := (Below.refl _ _).alloc (Nat.le_refl _) _
  have b0 := (HB.out.cell (lt_of_cell a0)).trans a0
  have b1 := (HB.out.cell (lt_of_cell a1)).trans a1
  have b2 := (HB.out.cell (lt_of_cell a2)).trans a2
  have b3 := (HB.out.cell (lt_of_cell a3)).trans a3
  have er : ris (E.map (·.1)) va=decide (l.1.va+l.1.mem≤va) := by
   unfold ris
   rw [List.getLast?_map,hlast]
   rfl
  rw [er,hm]
  have h1 := hgd.v
  have h2 := hgd.m
  have h3 := hgd.e
  have hm8 : m<8 := by omega
  have gi : (m:Int)<m+1 := by omega
  clear hld h a0 a1 a2 a3 er hlast hgd hg hl hc1 hn hm h0 hcl hgE
  go_enter Tryz.func80,Tryz.ntmps80
  go_wp2
  go_ret
  exact ⟨rfl,HB.out.alloc HB.out.size _⟩
set_option maxHeartbeats 2000000 in
theorem hasEntryV_any {w:World} {sv:Value} {E:List (Sg × Value)} (h:Sv w sv E) (hgE:∀ x ∈ E,Gd x.1) (hl:E.length≤8) (en:Int) (he:0≤en∧en<18446744073709551616) :
  Calls Tryz.prog 81 #[.agg #[.int .u64 en,sv]] w fun e w' => e = .returned (.bool (hasE (E.map (·.1)) en))∧Below w.heap.size w w' := by
 obtain ⟨q,c,rfl,hc1,hc2,hq⟩ := h.fm
 have HS : Hid (Sv w (.slice q E.length c) E) := h
 have HGE : Hid (∀ x ∈ E,Gd x.1) := hgE
 clear hgE
 have HB : Hid (Below w.heap.size w (w.alloc (.cells #[.int .u64 en,.slice q E.length c] 41))) := (Below.refl _ _).alloc (Nat.le_refl _) _
 have q0 : (w.alloc (.cells #[.int .u64 en,.slice q E.length c] 41)).cell? ⟨w.heap.size,0,.none⟩=some (.int .u64 en) := World.cell?_alloc_at _ _ _ _ rfl
 have HQ0 : Hid ((w.alloc (.cells #[.int .u64 en,.slice q E.length c] 41)).cell? ⟨w.heap.size,0,.none⟩=some (.int .u64 en)) := q0
 by_cases h2 : en % 2=0
 ·have h2b : (en % 2 != 0)=false := by simpa using h2
  go_enter Tryz.func81,Tryz.ntmps81
  go_wp2_with fail
  clear h q0
  generalize (w.alloc (.cells #[.int .u64 en,.slice q E.length c] 41))=W1 at *
  go_loopw [12] (fun a wr => ∃ i : Nat,i≤E.length∧a = .int .i64 i∧Hid ((∀ j x,j<i→E[j]? = some x→inE en x.1=false)∧Below W1.heap.size W1 wr)) (fun a _ => (E.length - intOf a).toNat)
  case atStart => exact ⟨0,by omega,rfl,fun j x hj => by omega,Below.refl _ _⟩
  case round =>
   obtain ⟨i,hi,rfl,HR⟩ := hrel
   by_cases hlt : i<E.length
   ·have g0 : (i:Int)<E.length := by omega
    obtain ⟨x,hx⟩ : ∃ x,E[i]? = some x := ⟨E[i],List.getElem?_eq_getElem hlt⟩
    have HS1 := HS.out.below (HB.out.trans (HR.out.2.mono HB.out.size))
    obtain ⟨q',c',hqe,_,_,hcl⟩ := HS1.fm
    injection hqe with e1 e2 e3
    subst e1 e3
    obtain ⟨g,o,rfl,a0,a1,a2,a3⟩ := hcl i x hx
    have hgd := HGE.out x (List.mem_of_getElem? hx)
    obtain ⟨ldq,ldc,hld,_⟩ := HS1.ds x (List.mem_of_getElem? hx)
    rw [hld] at a2
    have d0 : wr.cell? ⟨w.heap.size,0,.none⟩=some (.int .u64 en) := (HR.out.2.cell (lt_of_cell HQ0.out)).trans HQ0.out
    have d1 : (wr.alloc (.cells #[.int .u64 x.1.va,.int .u32 x.1.fl,.slice ldq x.1.sz ldc,.int .u64 x.1.mem] 38)).cell? ⟨w.heap.size,0,.none⟩=some (.int .u64 en) := (((Below.refl wr.heap.size wr).alloc (Nat.le_refl _) _).cell (lt_of_cell d0)).trans d0
    clear d0
    have h1 := hgd.v
    have h3 := hgd.m
    have h4 := hgd.e
    have ha := and1 x.1.fl hgd.f
    have HB2 : Hid (Below W1.heap.size W1 (wr.alloc (.cells #[.int .u64 x.1.va,.int .u32 x.1.fl,.slice ldq x.1.sz ldc,.int .u64 x.1.mem] 38))) := HR.out.2.alloc HR.out.2.size _
    clear hld HS1 hgd hq hcl
    by_cases p1 : x.1.fl % 2=1
    ·have p1b : (x.1.fl % 2 != 0)=true := by simp; omega
     by_cases p2 : x.1.va≤en
     ·by_cases p3 : en<x.1.va+x.1.mem
      ·go_wp2_with fail
       go_ret
       exact ⟨by rw [hasE_yes h2 hx (by simp [inE,p1,p2,p3])]; rfl,HB.out.trans (HB2.out.mono HB.out.size)⟩
      ·go_wp2_with fail
       exact ⟨⟨i+1,by omega,by simp,inE_step hx (by simp [inE]; omega) HR.out.1,HB2.out⟩,by simp [intOf]; omega⟩
     ·go_wp2_with fail
      exact ⟨⟨i+1,by omega,by simp,inE_step hx (by simp [inE]; omega) HR.out.1,HB2.out⟩,by simp [intOf]; omega⟩
    ·have p1b : (x.1.fl % 2 != 0)=false := by simp; omega
     go_wp2_with fail
     exact ⟨⟨i+1,by omega,by simp,inE_step hx (by simp [inE]; omega) HR.out.1,HB2.out⟩,by simp [intOf]; omega⟩
   ·have hn : ¬ ((i:Int)<E.length) := by omega
    have hE := hasE_no (E:=E) (en:=en) (fun j x hj hx => HR.out.1 j x (by omega) hx)
    go_wp2_with fail
    go_ret
    exact ⟨by first | rfl | (rw [hE]; rfl),HB.out.trans (HR.out.2.mono HB.out.size)⟩
 ·have h2b : (en % 2 != 0)=true := by simpa using h2
  go_enter Tryz.func81,Tryz.ntmps81
  go_wp2_with fail
  go_ret
  exact ⟨by simp [hasE,h2],HB.out⟩
end
end Go.Proofs.YtabnipbdbnmmpaaGreatDoor
