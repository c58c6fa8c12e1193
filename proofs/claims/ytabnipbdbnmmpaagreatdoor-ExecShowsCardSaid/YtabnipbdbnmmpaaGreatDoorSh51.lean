import Derived.Test.YtabnipbdbnmmpaaGreatDoorSh01
import Derived.Test.YtabnipbdbnmmpaaGreatDoorSh09
import Derived.Test.YtabnipbdbnmmpaaGreatDoorSh11
import Derived.Test.YtabnipbdbnmmpaaGreatDoorSh50
import Derived.Test.YtabnipbdbnmmpaaGreatDoorSh43
import Derived.Test.YtabnipbdbnmmpaaGreatDoorSh44
set_option linter.unusedVariables false
set_option linter.unusedSimpArgs false
namespace Go.Proofs.YtabnipbdbnmmpaaGreatDoor
section
open Go.RowKit
def flat (D:Nat→List Int) : Nat→List Int
 | 0 => []
 | i+1 => flat D i ++ D i
section
variable {S:Nat→Sr} {D:Nat→List Int} {m:Nat}
theorem flat_len (h:∀ i,i<m→(D i).length=(S i).n) : ∀ i,i≤m→(flat D i).length=sumN S i
 | 0,_ => rfl
 | i+1,hi => by rw [flat,List.length_append,flat_len h i (by omega),h i (by omega),sumN]
theorem flat_get (h:∀ i,i<m→(D i).length=(S i).n) {i j:Nat} (hj:j<(S i).n) : ∀ k,i<k→k≤m→(flat D k)[sumN S i+j]? = (D i)[j]?
 | 0,h1,_ => by omega
 | k+1,h1,h2 => by
  rw [flat]
  by_cases e : i=k
  ·subst e
   rw [List.getElem?_append_right (by rw [flat_len h i (by omega)]; omega),flat_len h i (by omega),Nat.add_sub_cancel_left]
  ·have hs : sumN S i+j<(flat D k).length := by
    have h3 : sumN S (i+1)≤sumN S k := by
     have : ∀ a b,a≤b→sumN S a≤sumN S b := by
      intro a b hab
      induction b with
      | zero => have : a = 0 := by omega
                subst this; exact Nat.le_refl _
      | succ b ih =>
       by_cases e : a=b+1
       ·subst e; exact Nat.le_refl _
       ·have := ih (by omega)
        simp only [sumN]
        omega
     exact this _ _ (by omega)
    rw [flat_len h k (by omega)]
    simp only [sumN] at h3
    omega
   rw [List.getElem?_append_left hs]
   exact flat_get h hj k (by omega) (by omega)
theorem flat_mem : ∀ k x,x ∈ flat D k → ∃ i,i<k∧x ∈ D i
 | 0,x,h => by cases h
 | k+1,x,h => by
  rw [flat,List.mem_append] at h
  rcases h with h | h
  ·obtain ⟨i,hi,hx⟩ := flat_mem k x h
   exact ⟨i,by omega,hx⟩
  ·exact ⟨k,by omega,h⟩
def datB (D:Nat→List Int) (m:Nat) : Nat→Int := fun k => (flat D m).getD (k - (64+56*m)) 0
def sgsG (S:Nat→Sr) (m:Nat) : List Sg := (List.range m).map fun i => ⟨(S i).va,(S i).fl,(S i).mem,64+56*m+sumN S i,(S i).n⟩
theorem sgsG_len : (sgsG S m).length=m := by simp [sgsG]
theorem sgsG_get {i:Nat} {s:Sg} (h:(sgsG S m)[i]? = some s) : i<m∧s=⟨(S i).va,(S i).fl,(S i).mem,64+56*m+sumN S i,(S i).n⟩ := by
 have hi := (List.getElem?_eq_some_iff.1 h).1
 rw [sgsG_len] at hi
 refine ⟨hi,?_⟩
 simp only [sgsG,List.getElem?_map,List.getElem?_range hi,Option.map_some,Option.some.injEq] at h
 exact h.symm
theorem szs_sgs : ∀ i,i≤m→szs (sgsG S m) i=sumN S i
 | 0,_ => by
  cases sgsG S m <;> rfl
 | i+1,hi => by
  obtain ⟨s,hs⟩ : ∃ s,(sgsG S m)[i]? = some s := ⟨(sgsG S m)[i]'(by rw [sgsG_len]; omega),List.getElem?_eq_getElem _⟩
  rw [szs_succ _ _ _ hs,szs_sgs i (by omega),(sgsG_get hs).2,sumN]
theorem plc_sgs : Plc (sgsG S m) := fun i s hs => by
 obtain ⟨hi,e⟩ := sgsG_get hs
 rw [sgsG_len,szs_sgs i (by omega),e]
theorem datB_byt (h:∀ i,i<m→(D i).length=(S i).n) {i:Nat} {s:Sg} (hs:(sgsG S m)[i]? = some s) : byt (datB D m) s=D i := by
 obtain ⟨hi,e⟩ := sgsG_get hs
 subst e
 apply List.ext_getElem?
 intro j
 by_cases hj : j<(S i).n
 ·rw [byt_get _ _ _ hj]
  simp only [datB]
  rw [show 64+56*m+sumN S i+j - (64+56*m)=sumN S i+j by omega,List.getD_eq_getElem?_getD,flat_get h hj m hi (Nat.le_refl _),List.getElem?_eq_getElem (by rw [h i hi]; exact hj)]
  rfl
 ·rw [List.getElem?_eq_none (by rw [byt_len]; show (S i).n≤j; omega),List.getElem?_eq_none (by rw [h i hi]; omega)]
theorem datB_bd (h:∀ i,i<m → ∀ x ∈ D i,0≤x∧x<256) : ∀ k,0≤datB D m k∧datB D m k<256 := fun k => by
 simp only [datB,List.getD_eq_getElem?_getD]
 cases e : (flat D m)[k - (64+56*m)]? with
 | none => exact ⟨by decide,by decide⟩
 | some x =>
  obtain ⟨i,hi,hx⟩ := flat_mem m x (List.mem_of_getElem? e)
  exact h i hi x hx
theorem sum_one : ∀ k,k≤m → ∀ i,i<k→(S i).n≤sumN S k
 | 0,_,i,h => by omega
 | k+1,hk,i,h => by
  by_cases e : i=k
  ·subst e
   simp only [sumN]
   omega
  ·have := sum_one k (by omega) i (by omega)
   simp only [sumN]
   omega
end
structure PgA (w:World) (q:Option Addr) (m c:Nat) (S:Nat→Sr) (D:Nat→List Int) : Prop where
 cs : m=0 ∨ ∃ b o,q=some ⟨b,o,.none⟩∧Sgs w b o S m
 mc : m≤c∧c≤9223372036854775807
 dat : ∀ i,i<m→Byt w (S i).q (S i).n (S i).c (D i)
 nb : ∀ i,i<m→(S i).n<140737488355000
 va : ∀ i,i<m→0≤(S i).va∧(S i).va<18446744073709551616
 fl : ∀ i,i<m→0≤(S i).fl∧(S i).fl<4294967296
 mem : ∀ i,i<m→0≤(S i).mem∧(S i).mem<18446744073709551616
 by_ : ∀ i,i<m → ∀ x ∈ D i,0≤x∧x<256
theorem PgA.below {w w':World} {q:Option Addr} {m c:Nat} {S:Nat→Sr} {D:Nat→List Int} (h:PgA w q m c S D) (k:Below w.heap.size w w') : PgA w' q m c S D := by
 refine ⟨?_,h.mc,fun i hi => ?_,h.nb,h.va,h.fl,h.mem,h.by_⟩
 ·rcases h.cs with h0 | ⟨b,o,hq,hs⟩
  ·exact .inl h0
  ·exact .inr ⟨b,o,hq,hs.below k⟩
 ·by_cases hn : 0<(S i).n
  ·exact byt_keep (h.dat i hi) k (byt_lt (h.dat i hi) hn)
  ·have := h.dat i hi
   exact ⟨this.1,this.2.1,this.2.2.1,.inl (by omega)⟩
theorem PgA.seg {w:World} {q:Option Addr} {m c:Nat} {S:Nat→Sr} {D:Nat→List Int} (h:PgA w q m c S D) {i:Nat} (hi:i<m) : ∃ b o,q=some ⟨b,o,.none⟩∧w.cell? ⟨b,o+i*4,.none⟩=some (.int .u64 (S i).va)∧w.cell? ⟨b,o+i*4+1,.none⟩=some (.int .u32 (S i).fl)∧w.cell? ⟨b,o+i*4+2,.none⟩=some (.slice (S i).q (S i).n (S i).c)∧w.cell? ⟨b,o+i*4+3,.none⟩=some (.int .u64 (S i).mem) := by
 rcases h.cs with h0 | ⟨b,o,hq,hs⟩
 ·omega
 ·exact ⟨b,o,hq,hs.c0 i hi,hs.c1 i hi,hs.c2 i hi,hs.c3 i hi⟩
theorem sum_nb (S:Nat→Sr) (m:Nat) (hn:∀ i,i<m→(S i).n<140737488355000) : ∀ i,i≤m→sumN S i≤i*140737488355000
 | 0,_ => by simp [sumN]
 | i+1,h => by
  have := sum_nb S m hn i (by omega)
  have := hn i (by omega)
  simp only [sumN]
  omega
theorem own_rowS {w:World} {X g n c:Nat} {H:Nat→Int} (h:w.ownsRow X 5 1 (.slice (some ⟨g,0,.none⟩) n c) n (lst H n)) : Row w g 0 n H := fun i hi => by
 have hk : (lst H n)[i]? = some (.int .u8 (H i)) := by simp [lst,hi]
 obtain ⟨g',e,hc⟩ := own_cell h hk (by omega) (by omega)
 injection e with e
 injection e with e
 rw [Nat.zero_add,e]
 exact hc
def argE (S:Nat→Sr) (m:Nat) : List (Sg × Value) := (List.range m).map fun i => ((⟨(S i).va,(S i).fl,(S i).mem,64+56*m+sumN S i,(S i).n⟩ : Sg),.slice (S i).q (S i).n (S i).c)
theorem argE_len (S:Nat→Sr) (m:Nat) : (argE S m).length=m := by simp [argE]
theorem argE_get {S:Nat→Sr} {m i:Nat} {x:Sg × Value} (h:(argE S m)[i]? = some x) : i<m∧x=((⟨(S i).va,(S i).fl,(S i).mem,64+56*m+sumN S i,(S i).n⟩ : Sg),.slice (S i).q (S i).n (S i).c) := by
 have hi := (List.getElem?_eq_some_iff.1 h).1
 rw [argE_len] at hi
 unfold argE at h
 rw [List.getElem?_map,List.getElem?_range hi] at h
 simp only [Option.map_some,Option.some.injEq] at h
 exact ⟨hi,h.symm⟩
theorem argE_mem {S:Nat→Sr} {m:Nat} {x:Sg × Value} (h:x ∈ argE S m) : ∃ i,i<m∧x=((⟨(S i).va,(S i).fl,(S i).mem,64+56*m+sumN S i,(S i).n⟩ : Sg),.slice (S i).q (S i).n (S i).c) := by
 obtain ⟨i,hi,e⟩ := List.getElem_of_mem h
 exact ⟨i,argE_get (by rw [List.getElem?_eq_getElem hi,e])⟩
theorem argE_map (S:Nat→Sr) (m:Nat) : (argE S m).map (·.1)=sgsG S m := by
 unfold argE sgsG
 rw [List.map_map]
 rfl
theorem PgA.prv {w:World} {q:Option Addr} {m c:Nat} {S:Nat→Sr} {D:Nat→List Int} (h:PgA w q m c S D) (hz:∀ i,i<m→(S i).n≤400000) : Prv w (.slice q m c) (argE S m) (datB D m) := by
 have hl := argE_len S m
 refine ⟨⟨⟨q,c,by rw [hl],by rw [hl]; exact h.mc.1,h.mc.2,fun i x hx => ?_⟩,fun x hx => ?_⟩,fun x hx => ?_,fun x hx => ?_,fun x hx => ?_,fun x hx => ?_,fun x hx => ?_⟩
 ·obtain ⟨hi,rfl⟩ := argE_get hx
  obtain ⟨b,o,hq,a0,a1,a2,a3⟩ := h.seg hi
  exact ⟨b,o,hq,a0,a1,a2,a3⟩
 ·obtain ⟨i,hi,rfl⟩ := argE_mem hx
  have hd := h.dat i hi
  exact ⟨_,_,rfl,hd.2.1,hd.2.2.1⟩
 ·obtain ⟨i,hi,rfl⟩ := argE_mem hx
  have hd := h.dat i hi
  rcases hd.2.2.2 with h0 | ⟨g,o,hq,hg,hc⟩
  ·exact .inl h0
  ·refine .inr ⟨g,o,(S i).c,by rw [hq],fun j hj => ?_⟩
   have hj2 : j<(S i).n := hj
   have hget : (sgsG S m)[i]? = some (⟨(S i).va,(S i).fl,(S i).mem,64+56*m+sumN S i,(S i).n⟩ : Sg) := by
    unfold sgsG
    rw [List.getElem?_map,List.getElem?_range hi]
    rfl
   have hb := datB_byt (D:=D) (m:=m) (S:=S) (fun k hk => (h.dat k hk).1) hget
   have e1 := byt_get (datB D m) (⟨(S i).va,(S i).fl,(S i).mem,64+56*m+sumN S i,(S i).n⟩ : Sg) j hj2
   rw [hb] at e1
   exact hc j _ e1
 ·obtain ⟨i,hi,rfl⟩ := argE_mem hx
  exact h.va i hi
 ·obtain ⟨i,hi,rfl⟩ := argE_mem hx
  exact h.fl i hi
 ·obtain ⟨i,hi,rfl⟩ := argE_mem hx
  exact h.mem i hi
 ·obtain ⟨i,hi,rfl⟩ := argE_mem hx
  exact hz i hi
def WaP (w:World) (S:Nat→Sr) (D:Nat→List Int) (m:Nat) (en:Int) (e:Ending) (w':World) : Prop := Below w.heap.size w w'∧((Good en (sgsG S m)∧64+56*m+sumN S m≤262144 ∧ ∃ g cf,e = .returned (.tuple #[.slice (some ⟨g,0,.none⟩) (64+56*m+sumN S m) cf,.nilIface])∧Row w' g 0 (64+56*m+sumN S m) (fil en (sgsG S m) (datB D m))∧(64+56*m+sumN S m≤cf∧cf≤9223372036854775807)∧g<w'.heap.size∧w.heap.size≤g) ∨ ∃ t p,e = .returned (.tuple #[.slice .none 0 0,.iface t (.pointer p)]))
theorem argWrite {w:World} {q:Option Addr} {m c:Nat} {S:Nat→Sr} {D:Nat→List Int} (h:PgA w q m c S D) (hz:∀ i,i<m→(S i).n≤400000) (hm:m≤1000) (hL:Laid w) (en:Int) (he:0≤en∧en<18446744073709551616) : Calls Tryz.prog 10 #[.agg #[.int .u64 en,.slice q m c]] w (WaP w S D m en) := by
 have hl := argE_len S m
 refine (writeV_any (h.prv hz) (by rw [hl]; exact hm) (by rw [argE_map]; exact plc_sgs) hL en he).mono ?_
 rintro e w' ⟨h1,h2⟩
 rw [argE_map,hl,szs_sgs m (Nat.le_refl _)] at h2
 refine ⟨h1,?_⟩
 rcases h2 with ⟨hg,hT,v,rfl,own⟩ | ⟨_,p,rfl⟩
 ·obtain ⟨g,cf,rfl⟩ := own_slice own (by omega)
  exact .inl ⟨hg,hT,g,cf,rfl,own_rowS own,own_cap own,own_lt own,own_block own g rfl⟩
 ·exact .inr ⟨_,p,rfl⟩
end
namespace Rm
open Go Go.RowKit
section
variable {ox:Oxt} {w:World} {s p b m N r P K:Nat} {M c:Nat→Int}
theorem root_sp {w:World} {s p:Nat} {root size:Int} (h:Sp w s p root size) : Calls Tryz.prog 19 #[.pointer (some ⟨s,0,.none⟩)] w fun e w' => e = .returned (.int .u64 root)∧w'=w := by
 have c0 := h.c0
 have c1 := h.c1
 have c33 := made_sp h
 clear h
 go_enter Tryz.func19,Tryz.ntmps19
 go_wp2_with (go_at_call 46; refine c33.mono ?_; rintro _ w1 ⟨rfl,e1⟩; obtain rfl : w=w1 := e1.symm)
 go_ret
 exact ⟨rfl,rfl⟩
theorem SpM.root (h:SpM ox w s p b m N r P K M c) : Calls Tryz.prog 19 #[.pointer (some ⟨s,0,.none⟩)] w fun e w' => e = .returned (.int .u64 (ad r))∧w'=w := by
 obtain ⟨B,L,F,lf,fr,h1,_⟩ := h
 exact root_sp h1.sp
theorem SpM.count (h:SpM ox w s p b m N r P K M c) : Calls Tryz.prog 15 #[.pointer (some ⟨p,0,.none⟩)] w fun e w' => e = .returned (.int .i64 ((K:Int) - P - ndP P))∧Below w.heap.size w w' := by
 obtain ⟨B,L,F,lf,fr,h1,_,_,h4⟩ := h
 have hn := h1.tab.nodes h1.pm
 refine (count_ram h1.ram).mono ?_
 rintro e w' ⟨rfl,k,rfl⟩
 exact ⟨by rw [show (L.length:Int)=(K:Int) - P - ndP P by omega],below_dr w k⟩
theorem ram_count {B:Nat→Int} {L:List Nat} (h:Ram w p b m N B L) : Calls Tryz.prog 15 #[.pointer (some ⟨p,0,.none⟩)] w fun e w' => e = .returned (.int .i64 (L.length:Int))∧Below w.heap.size w w' := by
 refine (count_ram h).mono ?_
 rintro e w' ⟨rfl,k,rfl⟩
 exact ⟨rfl,below_dr w k⟩
end
end Rm
section
open Go.RowKit Go.Shelf Rg
def shS (d a:Nat) : Nat := if a<d+8 then 1 else 509
theorem step_any (d a:Nat) (hd:d≤1000000) (ha:a<18446744073709551616) (w:World) : Calls Tryz.prog 17 #[.int .u64 d,.int .u64 a] w fun e w' => e = .returned (.int .u64 (shS d a))∧w'=w := by
 unfold shS
 by_cases h : a<d+8
 ·have h1 : (a:Int)<d+8 := by omega
  rw [if_pos h]
  go_enter Tryz.func17,Tryz.ntmps17
  go_wp2
  go_ret
  exact ⟨rfl,rfl⟩
 ·have h1 : ¬ (a:Int)<d+8 := by omega
  rw [if_neg h]
  go_enter Tryz.func17,Tryz.ntmps17
  go_wp2
  go_ret
  exact ⟨rfl,rfl⟩
theorem byteOf_any {w:World} (va fl mem:Int) (dq:Option Addr) (dn dc a:Nat) (hdn:dn≤dc∧dc≤9223372036854775807) (ha:a<18446744073709551616) (B:Nat→Int) (hd:a<dn → ∃ g o,dq=some ⟨g,o,.none⟩∧w.cell? ⟨g,o+a,.none⟩=some (.int .u8 (B a))) :
  Calls Tryz.prog 21 #[.agg #[.int .u64 va,.int .u32 fl,.slice dq dn dc,.int .u64 mem],.int .u64 a] w fun e w' => e = .returned (.int .u8 (if a<dn then B a else 0))∧Below w.heap.size w w' := by
 have HB : Hid (Below w.heap.size w (w.alloc (.cells #[.int .u64 va,.int .u32 fl,.slice dq dn dc,.int .u64 mem] 38))) := (Below.refl _ _).alloc (Nat.le_refl _) _
 by_cases h : a<dn
 ·obtain ⟨g,o,rfl,hc⟩ := hd h
  have h1 : (a:Int)<dn := by omega
  have hc2 := (HB.out.cell (lt_of_cell hc)).trans hc
  rw [if_pos h]
  clear hd
  go_enter Tryz.func21,Tryz.ntmps21
  go_wp2
  go_ret
  exact ⟨rfl,HB.out⟩
 ·have h1 : ¬ (a:Int)<dn := by omega
  rw [if_neg h]
  clear hd
  go_enter Tryz.func21,Tryz.ntmps21
  go_wp2
  go_ret
  exact ⟨rfl,HB.out⟩
theorem and_f {fl:Int} (h:fl=1∨fl=4∨fl=5∨fl=6∨fl=7) : (bits .and .u32 fl 4 != 0)=(fl == 4 || fl == 5 || fl == 6 || fl == 7)∧(bits .and .u32 fl 2 != 0)=(fl == 6 || fl == 7)∧(bits .and .u32 fl 1 != 0)=(fl == 1 || fl == 5 || fl == 7) := by
 rcases h with rfl | rfl | rfl | rfl | rfl <;> decide
end
section
open Go.RowKit Go.Shelf Rg
theorem sumS_le (S:Nat→Sr) {m:Nat} : ∀ i,i<m→(S i).n≤sumN S m := fun i hi => sum_one m (Nat.le_refl _) i hi
theorem sh_rd {S:Nat→Sr} {D:Nat→List Int} {m:Nat} {en:Int} (he:0≤en∧en<18446744073709551616) (hg:Good en (sgsG S m)) (hT:64+56*m+sumN S m≤262144) (hv:∀ i,i<m→0≤(S i).va) : rdF (64+56*m+sumN S m) (fil en (sgsG S m) (datB D m)) 0 0=((0,0),sgsG S m) := by
 refine rdF_fil he hg plc_sgs (by rw [sgsG_len,szs_sgs m (Nat.le_refl _)]) hT fun s hs => ?_
 obtain ⟨i,hi,e⟩ := List.getElem_of_mem hs
 obtain ⟨h1,h2⟩ := sgsG_get (by rw [List.getElem?_eq_getElem hi,e])
 rw [h2]
 exact hv i h1
def ShP (W:World) (p b m:Nat) (S:List Sg) (Bq:Nat→Int) (xs:List Bs) (en dm:Int) (E:Ending) (w':World) : Prop :=
 (dm≠0∧E = .returned (.tuple #[.pointer .none,.agg #[.int .u64 0,.int .u64 0,.int .u64 0],.int .i64 dm])∧Below W.heap.size W w') ∨
 (dm=0∧398<kdS S∧E = .returned (.tuple #[.pointer .none,.agg #[.int .u64 0,.int .u64 0,.int .u64 0],.int .i64 284])∧Below W.heap.size W w') ∨
 (dm=0∧Sok S∧S ≠ [] ∧ ∃ e : Nat,ePg S=(e:Int)∧1≤e∧e+2≤4096∧kdS S≤398 ∧ ∃ s r Rp sp,E = .returned (.tuple #[.pointer (some ⟨s,0,.none⟩),.agg #[.int .u64 en,.int .u64 sp,.int .u64 sp],.int .i64 0])∧Rm.Fra p b m W w'∧W.heap.size≤s∧Rm.SpM (Rm.oxt0 399) w' s p b m 400 r (e+2) 398 (pgM Bq S e Rp) (Rm.upd (cS S) e 198))
theorem sh_load {W:World} {p b m fb fn fc:Nat} {Bm Bq:Nat→Int} (hR:Rm.Ram W p b m 400 Bm (Rm.down 398)) (hL:Laid W) (hL3:Laid3 W) (h3:2<p∧2<b∧2<m) (hF:Row W fb 0 fn Bq) (hfb:fb<W.heap.size) (hB:∀ i,0≤Bq i∧Bq i<256) (hc:fn≤fc∧fc≤9223372036854775807)
  {ap:Option Addr} {an ac:Nat} {xs:List Bs} (hA:Arg W ap an ac xs) (hH:Hd Bq 0 0) {S:List Sg} (hrd:rdF fn Bq 0 0=((0,0),S)) {en:Int} (hen:num Bq 24 8=en) :
  Calls Tryz.prog 11 #[.pointer (some ⟨p,0,.none⟩),.slice (some ⟨fb,0,.none⟩) fn fc,.slice ap an ac,.int .u64 (Rm.ad 399),.int .u64 2147483648] W (ShP W p b m S Bq xs en (dmE 0 xs)) := by
 have hd : Rm.down 398=398 :: Rm.down 397 := rfl
 rw [hd] at hR
 have hn : 399 ∉ 398 :: Rm.down 397 := fun h => by have h' : 399 ∈ Rm.down 398 := h; rw [Rm.down_mem] at h'; omega
 have hs : sgO fn Bq 0 0=S := by unfold sgO; rw [hrd]; rfl
 have hne : enO fn Bq 0 0=en := by unfold enO; rw [hrd]; exact hen
 have := load_all (ox:=Rm.oxt0 399) (ft:=399) hR ⟨rfl,fun f hf => hf.elim⟩ ⟨by omega,by omega,hn⟩ hL hL3 h3 hF hfb hB hc hA 0 0 hH (by rw [Rm.down_len]; omega)
 rw [hs,hne,hrd,Rm.down_len] at this
 refine this.mono fun e w' h9 => ?_
 rcases h9 with ⟨a1,a2,a3⟩ | ⟨a1,a2,a3,a4⟩ | ⟨a1,a2,a3,e0,a4,a5,a6,a7,a8⟩
 ·exact .inl ⟨a1,a2,a3⟩
 ·exact .inr (.inl ⟨a1,by omega,a3,a4⟩)
 ·obtain ⟨s,r,Rp,spn,K,b1,b2,b3,b4,b5,_⟩ := a8
  subst b5
  exact .inr (.inr ⟨a1,a2,a3,e0,a4,a5,a6,by omega,s,r,Rp,_,b1,b2,b3,b4⟩)
theorem sh_dem {W:World} {fb fn fc:Nat} {Bq:Nat→Int} (hL:Laid W) (hF:Row W fb 0 fn Bq) (hfb:fb<W.heap.size) (hB:∀ i,0≤Bq i∧Bq i<256) (hc:fn≤fc∧fc≤9223372036854775807)
  {ap:Option Addr} {an ac:Nat} {xs:List Bs} (hA:Arg W ap an ac xs) (hH:Hd Bq 0 0) {S:List Sg} (hrd:rdF fn Bq 0 0=((0,0),S)) :
  Calls Tryz.prog 16 #[.slice (some ⟨fb,0,.none⟩) fn fc,.slice ap an ac] W fun e w' => e = .returned (.tuple #[.int .i64 (if dmE 0 xs≠0 then 0 else kdS S),.int .i64 (dmE 0 xs)])∧Below W.heap.size W w' := by
 have := demand_any hL hF hfb hB hc 0 0 hH hA
 have hs : sgO fn Bq 0 0=S := by unfold sgO; rw [hrd]; rfl
 rw [hs,hrd] at this
 exact this
set_option maxRecDepth 10000 in
set_option maxHeartbeats 4000000 in
theorem shows_law {W:World} {q:Option Addr} {m c:Nat} {S:Nat→Sr} {D:Nat→List Int} (hP:PgA W q m c S D) {en:Int} (he:0≤en∧en<18446744073709551616) {ap:Option Addr} {n ac:Nat} {xs:List Bs} (hT:Tex W ap n ac xs) (hn:n≤140737488351232) (hx:∀ x ∈ xs,x.length≤140737488351232) (hL:Laid W) (hL3:Laid3 W) :
  Calls Tryz.prog 4 #[.agg #[.int .u64 en,.slice q m c],.slice ap n ac] W fun e w' => e = .returned (.bool true)∧Below W.heap.size W w' := by
 obtain ⟨W1,hW1⟩ : ∃ W1,W1=W.alloc (.cells #[.int .u64 en,.slice q m c] 41) := ⟨_,rfl⟩
 have b1 : Below W.heap.size W W1 := by rw [hW1]; exact (Below.refl _ _).alloc (Nat.le_refl _) _
 have k0 : W1.cell? ⟨W.heap.size,0,.none⟩=some (.int .u64 en) := by rw [hW1]; simp
 have k1 : W1.cell? ⟨W.heap.size,1,.none⟩=some (.slice q m c) := by rw [hW1]; simp
 obtain ⟨z,hz⟩ : ∃ z,z=W.heap.size := ⟨_,rfl⟩
 rw [← hz] at k0 k1
 have c12 := works_any (hL.below b1) (hL3.below b1)
 have HL : Hid (Laid W∧Laid3 W∧Tex W ap n ac xs∧PgA W q m c S D) := ⟨hL,hL3,hT,hP⟩
 have hcc : n≤ac∧ac≤9223372036854775807 := ⟨hT.2.1,hT.2.2.1⟩
 have hmc : m≤c∧c≤9223372036854775807 := hP.mc
 have HX : Hid (∀ x ∈ xs,x.length≤140737488351232) := hx
 have H1 : Hid (Below W.heap.size W W1∧W1.cell? ⟨z,0,.none⟩=some (.int .u64 en)∧W1.cell? ⟨z,1,.none⟩=some (.slice q m c)∧z=W.heap.size) := ⟨b1,k0,k1,hz⟩
 clear hL hL3 hT hx hP b1
 go_enter Tryz.func4,Tryz.ntmps4
 go_upto_region 1 with fail
 rw [← hW1,← hz]
 clear hW1 hz k0 k1
 go_upto_region 3 with (go_at_call 6; refine c12.mono ?_; rintro _ w1 ⟨rfl,b2⟩; have H2 : Hid (Below W.heap.size W w1∧w1.cell? ⟨z,0,.none⟩=some (.int .u64 en)∧w1.cell? ⟨z,1,.none⟩=some (.slice q m c)) := ⟨H1.out.1.trans (b2.mono H1.out.1.size),(b2.cell (lt_of_cell H1.out.2.1)).trans H1.out.2.1,(b2.cell (lt_of_cell H1.out.2.2.1)).trans H1.out.2.2.1⟩; clear b2 c12)
 have k1 := H2.out.2.2
 by_cases hm : 8<m
 ·have hmi : (8:Int)<m := by omega
  go_wp2_with fail
  go_loopw [5,6] (fun a k wr => ∃ (i:Nat) (v:Int),i≤m∧k = .int .i64 i∧a = .int .i64 v∧wr=w1) (fun _ k _ => (m - intOf k).toNat)
  case atStart => exact ⟨0,0,by omega,rfl,rfl,rfl⟩
  case round =>
   obtain ⟨i,v,hi,rfl,rfl,rfl⟩ := hrel
   by_cases hlt : i<m
   ·have g0 : (i:Int)<m := by omega
    obtain ⟨sb,so,rfl,a0,a1,a2,a3⟩ := (HL.out.2.2.2.below H2.out.1).seg hlt
    go_wp2_with fail
    exact ⟨⟨i+1,_,by omega,by simp,rfl,trivial⟩,by simp [intOf]; omega⟩
   ·have g0 : ¬ (i:Int)<m := by omega
    go_wp2_with fail
    all_goals
     go_ret
     exact ⟨rfl,H2.out.1⟩
 have hm8 : (m:Int)≤8 := by omega
 have hnb := HL.out.2.2.2.nb
 go_wp2_with fail
 go_loopw [5,6] (fun a k wr => ∃ (i:Nat),i≤m∧k = .int .i64 i∧a = .int .i64 (sumN S i:Nat)∧wr=w1) (fun _ k _ => (m - intOf k).toNat)
 case atStart => exact ⟨0,by omega,rfl,rfl,rfl⟩
 case round =>
  obtain ⟨i,hi,rfl,rfl,rfl⟩ := hrel
  have hs := sum_nb S m hnb i hi
  by_cases hlt : i<m
  ·have g0 : (i:Int)<m := by omega
   obtain ⟨sb,so,rfl,a0,a1,a2,a3⟩ := (HL.out.2.2.2.below H2.out.1).seg hlt
   have hb := hnb i hlt
   have hs2 : sumN S (i+1)=sumN S i+(S i).n := rfl
   go_wp2_with fail
   exact ⟨⟨i+1,by omega,by simp,by rw [hs2]; simp,trivial⟩,by simp [intOf]; omega⟩
  ·obtain rfl : i=m := by omega
   have g0 : ¬ (i:Int)<i := by omega
   clear hs
   by_cases hbig : 400000<sumN S i
   ·have g1 : (sumN S i:Int) > 400000 := by omega
    go_wp2_with fail
    go_ret
    exact ⟨rfl,H2.out.1⟩
   ·have g1 : ¬ (sumN S i:Int) > 400000 := by omega
    have g2 : ¬ (i:Int) > 8 := by omega
    have hz : ∀ k,k<i→(S k).n≤400000 := fun k hk => Nat.le_trans (sumS_le S k hk) (by omega)
    have cW := argWrite (HL.out.2.2.2.below H2.out.1) hz (by omega) (HL.out.1.below H2.out.1) en he
    unfold WaP at cW
    have HS : Hid (sumN S i≤400000∧i≤8) := ⟨by omega,by omega⟩
    have k0 := H2.out.2.1
    clear hbig hz hnb
    go_upto_region 11 with (go_at_call 10; refine cW.mono ?_; rintro _ w2 ⟨b2,⟨hgo,hT,g,cf,rfl,hF,hcf,hg,hgn⟩ | ⟨t9,p9,rfl⟩⟩; rotate_left; have HRf : Hid (Below wr.heap.size wr w2) := b2; clear b2)
    ·go_wp2
     go_ret
     exact ⟨rfl,H2.out.1.trans (HRf.out.mono H2.out.1.size)⟩
    obtain ⟨T,hTT⟩ : ∃ T,64+56*i+sumN S i=T := ⟨_,rfl⟩
    have hrd := sh_rd (D:=D) he hgo hT (fun k hk => (HL.out.2.2.2.va k hk).1)
    rw [hTT] at hF hcf hT hrd
    have hb2 := H2.out.1.trans (b2.mono H2.out.1.size)
    have H3 : Hid (Below W.heap.size W w2∧Row w2 g 0 T (fil en (sgsG S i) (datB D i))∧g<w2.heap.size∧wr.heap.size≤g∧rdF T (fil en (sgsG S i) (datB D i)) 0 0=((0,0),sgsG S i)∧Good en (sgsG S i)∧w2.cell? ⟨z,0,.none⟩=some (.int .u64 en)∧w2.cell? ⟨z,1,.none⟩=some (.slice q i c)) := ⟨hb2,hF,hg,hgn,hrd,hgo,(b2.cell (lt_of_cell H2.out.2.1)).trans H2.out.2.1,(b2.cell (lt_of_cell H2.out.2.2)).trans H2.out.2.2⟩
    have hfd : ∀ k,0≤fil en (sgsG S i) (datB D i) k∧fil en (sgsG S i) (datB D i) k<256 := fil_bd _ _ _ (datB_bd HL.out.2.2.2.by_)
    have HFD : Hid ((∀ k,0≤fil en (sgsG S i) (datB D i) k∧fil en (sgsG S i) (datB D i) k<256)∧num (fil en (sgsG S i) (datB D i)) 24 8=en∧Hd (fil en (sgsG S i) (datB D i)) 0 0) := ⟨hfd,num_en he,hd_fil⟩
    rw [hTT]
    clear hTT hF hg hgn hrd hgo b2 hb2 hfd cW k0 k1
    generalize hfl : fil en (sgsG S i) (datB D i)=Bq at *
    have HBq : Hid (fil en (sgsG S i) (datB D i)=Bq) := hfl
    clear hfl
    have c6 := few_any (some ⟨g,0,.none⟩) ap T cf n ac xs w2 (HL.out.2.2.1.below H3.out.1) (by omega) hn HX.out
    go_upto_region 13 with (go_at_call 7; refine c6.mono ?_; rintro _ w0 ⟨⟨r,rfl,hr⟩,e0⟩; obtain rfl : w2=w0 := e0.symm; have HR : Hid (r=true→T≤400000∧n<100 ∧ ∀ x ∈ xs,x.length≤400000) := hr; clear hr c6; cases r)
    ·go_wp2
     go_ret
     exact ⟨rfl,H3.out.1⟩
    obtain ⟨-,hn1,hx4⟩ := HR.out trivial
    have HX4 : Hid (∀ x ∈ xs,x.length≤400000) := hx4
    clear HR hx4 HX hn
    have c9 := memory_any 400 (by omega) (by omega) w2
    go_upto_region 16 with (go_at_call 8; refine c9.mono ?_; rintro _ w3 ⟨pm,b,mm,Bm,hp,hb,hm,rfl,hR2,b3,-⟩; clear c9)
    have hR : Rm.Ram w3 pm b mm 400 Bm (Rm.down 398) := hR2
    have h3 : 2<pm∧2<b∧2<mm := by have := (HL.out.2.1.below H3.out.1).lt; omega
    have hz1 := H3.out.1.size
    have H4 : Hid (Rm.Ram w3 pm b mm 400 Bm (Rm.down 398)∧Below W.heap.size W w3∧Below w2.heap.size w2 w3∧W.heap.size≤pm∧W.heap.size≤b∧W.heap.size≤mm∧(2<pm∧2<b∧2<mm)∧w2.heap.size≤pm∧w2.heap.size≤b∧w2.heap.size≤mm) := ⟨hR,H3.out.1.trans (b3.mono hz1),b3,by omega,by omega,by omega,h3,hp,hb,hm⟩
    have cC := Rm.ram_count hR
    rw [Rm.down_len] at cC
    rw [show Rm.ad (400 - 1)=Rm.ad 399 from rfl]
    generalize ht : Rm.ad 399=t9
    have HT9 : Hid (Rm.ad 399=t9) := ht
    clear hR hR2 b3 hp hb hm h3 hz1 ht
    go_upto_region 17 with (go_at_call 15; refine cC.mono ?_; rintro _ w4 ⟨rfl,b4⟩; have H5 : Hid (Below w3.heap.size w3 w4) := b4; clear b4 cC)
    have hB4 : Below W.heap.size W w4 := H4.out.2.1.trans (H5.out.mono H4.out.2.1.size)
    have hB24 : Below w2.heap.size w2 w4 := H4.out.2.2.1.trans (H5.out.mono H4.out.2.2.1.size)
    have hAr : Arg w4 ap n ac xs := ⟨HL.out.2.2.1.below hB4,hn1,HX4.out⟩
    have cL := sh_load (H4.out.1.below H5.out) (HL.out.1.below hB4) (HL.out.2.1.below hB4) H4.out.2.2.2.2.2.2.1 (H3.out.2.1.keep hB24) (Nat.lt_of_lt_of_le H3.out.2.2.1 hB24.size) HFD.out.1 hcf hAr HFD.out.2.2 H3.out.2.2.2.2.1 HFD.out.2.1
    rw [HT9.out] at cL
    obtain ⟨dm,hdm⟩ : ∃ dm,dmE 0 xs=dm := ⟨_,rfl⟩
    rw [hdm] at cL
    have HDM : Hid (dmE 0 xs=dm) := hdm
    clear hB4 hB24 hAr hdm
    unfold ShP at cL
    go_upto_region 18 with (go_at_call 11; refine cL.mono ?_; rintro _ w5 (⟨hd,rfl,b5⟩ | ⟨hd,hk,rfl,b5⟩ | ⟨hd,hso,hsn,e,hee,he1,he2,hk,s,r,Rp,sp,rfl,f5,hs5,hM5⟩))
    ·have hd1 : (dm != 0)=true := by simpa using hd
     have hd2 : (dm == 0)=false := by simpa using hd
     have H6 : Hid (Below w4.heap.size w4 (w5.alloc (.cells #[.int .u64 0,.int .u64 0,.int .u64 0] 44))) := b5.alloc b5.size _
     generalize (w5.alloc (.cells #[.int .u64 0,.int .u64 0,.int .u64 0] 44))=w6 at *
     have hB6 : Below W.heap.size W w6 := H4.out.2.1.trans ((H5.out.trans (H6.out.mono H5.out.size)).mono H4.out.2.1.size)
     have hB26 : Below w2.heap.size w2 w6 := H4.out.2.2.1.trans ((H5.out.trans (H6.out.mono H5.out.size)).mono H4.out.2.2.1.size)
     have cD := sh_dem (HL.out.1.below hB6) (H3.out.2.1.keep hB26) (Nat.lt_of_lt_of_le H3.out.2.2.1 hB26.size) HFD.out.1 hcf (⟨HL.out.2.2.1.below hB6,hn1,HX4.out⟩ : Arg w6 ap n ac xs) HFD.out.2.2 H3.out.2.2.2.2.1
     rw [HDM.out] at cD
     have HB6 : Hid (Below W.heap.size W w6) := hB6
     have HC : Hid (∀ w',Below w6.heap.size w6 w'→Calls Tryz.prog 15 #[.pointer (some ⟨pm,0,.none⟩)] w' fun e w'' => e = .returned (.int .i64 398)∧Below w'.heap.size w' w'') := fun w' k => by
      have := Rm.ram_count (H4.out.1.below (H5.out.trans ((H6.out.trans (k.mono H6.out.size)).mono H5.out.size)))
      rw [Rm.down_len] at this
      exact this
     clear b5 hB6 hB26
     rw [if_pos hd] at cD
     clear hd
     go_wp2_with first | (go_at_call 16; refine cD.mono ?_; rintro _ w7 ⟨rfl,b7⟩; have H7 : Hid (Below w6.heap.size w6 w7) := b7; clear b7) | (go_at_call 15; refine (HC.out _ H7.out).mono ?_; rintro _ w8 ⟨rfl,b8⟩)
     go_ret
     exact ⟨rfl,HB6.out.trans ((H7.out.trans (b8.mono H7.out.size)).mono HB6.out.size)⟩
    ·subst hd
     have H6 : Hid (Below w4.heap.size w4 (w5.alloc (.cells #[.int .u64 0,.int .u64 0,.int .u64 0] 44))) := b5.alloc b5.size _
     generalize (w5.alloc (.cells #[.int .u64 0,.int .u64 0,.int .u64 0] 44))=w6 at *
     have hB6 : Below W.heap.size W w6 := H4.out.2.1.trans ((H5.out.trans (H6.out.mono H5.out.size)).mono H4.out.2.1.size)
     have hB26 : Below w2.heap.size w2 w6 := H4.out.2.2.1.trans ((H5.out.trans (H6.out.mono H5.out.size)).mono H4.out.2.2.1.size)
     have cD := sh_dem (HL.out.1.below hB6) (H3.out.2.1.keep hB26) (Nat.lt_of_lt_of_le H3.out.2.2.1 hB26.size) HFD.out.1 hcf (⟨HL.out.2.2.1.below hB6,hn1,HX4.out⟩ : Arg w6 ap n ac xs) HFD.out.2.2 H3.out.2.2.2.2.1
     rw [HDM.out] at cD
     have HB6 : Hid (Below W.heap.size W w6) := hB6
     have HC : Hid (∀ w',Below w6.heap.size w6 w'→Calls Tryz.prog 15 #[.pointer (some ⟨pm,0,.none⟩)] w' fun e w'' => e = .returned (.int .i64 398)∧Below w'.heap.size w' w'') := fun w' k => by
      have := Rm.ram_count (H4.out.1.below (H5.out.trans ((H6.out.trans (k.mono H6.out.size)).mono H5.out.size)))
      rw [Rm.down_len] at this
      exact this
     clear b5 hB6 hB26
     rw [if_neg (by simp)] at cD
     have hk1 : kdS (sgsG S i) > 398 := hk
     generalize kdS (sgsG S i)=kd at *
     clear hk
     go_wp2_with first | (go_at_call 16; refine cD.mono ?_; rintro _ w7 ⟨rfl,b7⟩; have H7 : Hid (Below w6.heap.size w6 w7) := b7; clear b7) | (go_at_call 15; refine (HC.out _ H7.out).mono ?_; rintro _ w8 ⟨rfl,b8⟩)
     go_ret
     exact ⟨rfl,HB6.out.trans ((H7.out.trans (b8.mono H7.out.size)).mono HB6.out.size)⟩
    ·subst hd
     have hB5 : Below W.heap.size W w5 := H4.out.2.1.trans ((H5.out.mono H4.out.2.1.size).trans (f5.toBelow (Nat.le_trans H4.out.2.1.size H5.out.size) H4.out.2.2.2.1 H4.out.2.2.2.2.1 H4.out.2.2.2.2.2.1))
     have hB25 : Below w2.heap.size w2 w5 := H4.out.2.2.1.trans ((H5.out.mono H4.out.2.2.1.size).trans (f5.toBelow (Nat.le_trans H4.out.2.2.1.size H5.out.size) H4.out.2.2.2.2.2.2.2.1 H4.out.2.2.2.2.2.2.2.2.1 H4.out.2.2.2.2.2.2.2.2.2))
     have hps : W.heap.size≤s := Nat.le_trans (Nat.le_trans H4.out.2.1.size H5.out.size) hs5
     obtain ⟨zs,hzs⟩ : ∃ zs,zs=w5.heap.size := ⟨_,rfl⟩
     obtain ⟨w6,hw6⟩ : ∃ w6,w6=w5.alloc (.cells #[.int .u64 en,.int .u64 sp,.int .u64 sp] 44) := ⟨_,rfl⟩
     have b6 : Below w5.heap.size w5 w6 := by rw [hw6]; exact (Below.refl _ _).alloc (Nat.le_refl _) _
     have kz : w6.cell? ⟨zs,0,.none⟩=some (.int .u64 en) := by rw [hw6,hzs]; simp
     rw [← hw6,← hzs]
     have hB6 := hB5.trans (b6.mono hB5.size)
     have hB26 := hB25.trans (b6.mono hB25.size)
     have cD := sh_dem (HL.out.1.below hB6) (H3.out.2.1.keep hB26) (Nat.lt_of_lt_of_le H3.out.2.2.1 hB26.size) HFD.out.1 hcf (⟨HL.out.2.2.1.below hB6,hn1,HX4.out⟩ : Arg w6 ap n ac xs) HFD.out.2.2 H3.out.2.2.2.2.1
     rw [HDM.out,if_neg (by simp)] at cD
     have hkd : kdS (sgsG S i)=(e:Int)+6+((e:Int)+513) / 512 := by unfold kdS; rw [hee]
     have hM6 := hM5.below b6
     have HC : Hid (∀ w',Below w6.heap.size w6 w'→Calls Tryz.prog 15 #[.pointer (some ⟨pm,0,.none⟩)] w' fun e9 w'' => e9 = .returned (.int .i64 (398 - kdS (sgsG S i)))∧Below w'.heap.size w' w'') := fun w' k => by
      have := (hM6.below k).count
      rw [show ((398:Nat) : Int) - ((e+2 : Nat) : Int) - Rm.ndP ((e+2 : Nat) : Int)=398 - kdS (sgsG S i) by rw [hkd]; unfold Rm.ndP; rw [if_neg (by omega)]; omega] at this
      exact this
     obtain ⟨kd,hkdd⟩ : ∃ kd,kd=kdS (sgsG S i) := ⟨_,rfl⟩
     rw [← hkdd] at HC cD hk
     have hk0 : 0≤kd := by rw [hkdd,hkd]; omega
     have H6 : Hid (Below W.heap.size W w6∧Below w2.heap.size w2 w6∧w6.cell? ⟨zs,0,.none⟩=some (.int .u64 en)∧Rm.SpM (Rm.oxt0 399) w6 s pm b mm 400 r (e+2) 398 (pgM Bq (sgsG S i) e Rp) (Rm.upd (cS (sgsG S i)) e 198)∧W.heap.size≤s∧w6.cell? ⟨z,0,.none⟩=some (.int .u64 en)∧w6.cell? ⟨z,1,.none⟩=some (.slice q i c)) := ⟨hB6,hB26,kz,hM6,hps,(hB26.cell (lt_of_cell H3.out.2.2.2.2.2.2.1)).trans H3.out.2.2.2.2.2.2.1,(hB26.cell (lt_of_cell H3.out.2.2.2.2.2.2.2)).trans H3.out.2.2.2.2.2.2.2⟩
     have HE : Hid (Sok (sgsG S i)∧ePg (sgsG S i)=(e:Int)∧1≤e∧e+2≤4096) := ⟨hso,hee,he1,he2⟩
     clear hw6 hzs b6 kz hM6 hB5 hB25 hB6 hB26 hps hkd hkdd f5 hs5 hM5 hso hsn hee he1 he2
     go_upto_region 19 with (go_at_call 16; refine cD.mono ?_; rintro _ w7 ⟨rfl,b7⟩; have H7 : Hid (Below w6.heap.size w6 w7) := b7; clear b7 cD)
     have l0 := (H7.out.cell (lt_of_cell H6.out.2.2.1)).trans H6.out.2.2.1
     have l1 := (H7.out.cell (lt_of_cell H6.out.2.2.2.2.2.1)).trans H6.out.2.2.2.2.2.1
     have hkne : ((398:Int) - (398 - kd) != kd)=false := by simp; omega
     go_upto_region 23 with (go_at_call 15; refine (HC.out _ H7.out).mono ?_; rintro _ w8 ⟨rfl,b8⟩; have H8 : Hid (Below w6.heap.size w6 w8) := H7.out.trans (b8.mono H7.out.size); clear b8)
     clear l0 l1
     have hi8 : (i:Int)≤8 := by omega
     go_wp2_with fail
     go_loopw [18] (fun k wr => ∃ j : Nat,j≤i∧k = .int .i64 j∧Hid (Below w6.heap.size w6 wr)) (fun k _ => (i - intOf k).toNat)
     case atStart => exact ⟨0,by omega,rfl,H8⟩
     case round =>
      obtain ⟨j,hj,rfl,HR⟩ := hrel
      have l1 := (HR.out.cell (lt_of_cell H6.out.2.2.2.2.2.2)).trans H6.out.2.2.2.2.2.2
      by_cases hlt : j<i
      ·have g0 : (j:Int)<i := by omega
       have hBr : Below W.heap.size W wr := H6.out.1.trans (HR.out.mono H6.out.1.size)
       have hPr := HL.out.2.2.2.below hBr
       obtain ⟨sb,so,hqs,a0,a1,a2,a3⟩ := hPr.seg hlt
       obtain ⟨sg,hsg⟩ : ∃ sg : Sg,sg=⟨(S j).va,(S j).fl,(S j).mem,64+56*i+sumN S j,(S j).n⟩ := ⟨_,rfl⟩
       have hget : (sgsG S i)[j]? = some sg := by
        rw [hsg]
        unfold sgsG
        rw [List.getElem?_map,List.getElem?_range hlt]
        rfl
       have hg1 := (HE.out.1 j sg hget).1
       have hseg := fun t => seg_atM HE.out.1 Bq Rp HE.out.2.1 hget t
       obtain ⟨vn,hvn⟩ : ∃ vn : Nat,(S j).va=vn := ⟨(S j).va.toNat,by have := (HL.out.2.2.2.va j hlt).1; omega⟩
       obtain ⟨dq,hdq⟩ : ∃ dq,(S j).q=dq := ⟨_,rfl⟩
       obtain ⟨dn,hdn⟩ : ∃ dn,(S j).n=dn := ⟨_,rfl⟩
       obtain ⟨dc,hdc⟩ : ∃ dc,(S j).c=dc := ⟨_,rfl⟩
       obtain ⟨fl,hfl⟩ : ∃ fl,(S j).fl=fl := ⟨_,rfl⟩
       obtain ⟨mem,hmem⟩ : ∃ mem,(S j).mem=mem := ⟨_,rfl⟩
       have hdat := hPr.dat j hlt
       rw [hdq,hdn,hdc] at hdat
       rw [hvn,hfl,hmem,hdn] at hsg
       rw [hvn] at a0
       rw [hfl] at a1
       rw [hdq,hdn,hdc] at a2
       rw [hmem] at a3
       have hf1 := hg1.f
       have hm1 := hg1.e
       have hm0 := hg1.m
       rw [hsg] at hf1 hm1 hm0
       have hf2 : fl=1∨fl=4∨fl=5∨fl=6∨fl=7 := hf1
       have hm2 : (vn:Int)+mem≤1073741824 := hm1
       have hm3 : (1:Int)≤mem := hm0
       have hdn4 : dn≤400000 := by rw [← hdn]; exact Nat.le_trans (sumS_le S j hlt) HS.out.1
       have HSE : Hid (∀ a : Nat,(a:Int)<mem→vn+a<e*4096∧pgM Bq (sgsG S i) e Rp (vn+a)=(if a<dn then (D j).getD a 0 else 0)∧Rm.upd (cS (sgsG S i)) e 198 ((vn+a) / 4096)=rga fl 3+208) := fun a ha => by
        obtain ⟨e1,e2,e3⟩ := hseg a (by rw [hsg]; exact ha)
        rw [hsg] at e1 e2 e3
        have ev : ((vn:Int).toNat)=vn := Int.toNat_natCast vn
        simp only [ev] at e1 e2 e3
        refine ⟨e1,?_,e3⟩
        rw [e2]
        by_cases h : a<dn
        ·rw [if_pos h,if_pos h,← HBq.out]
         have hb : byt (datB D i) sg=D j := datB_byt (fun k hk => (HL.out.2.2.2.dat k hk).1) hget
         have hby := fil_bytes (en:=en) (B:=datB D i) (S:=sgsG S i) plc_sgs (List.mem_of_getElem? hget)
         have h1 := byt_get (fil en (sgsG S i) (datB D i)) sg a (by rw [hsg]; exact h)
         rw [hby,hb,hsg] at h1
         rw [List.getD_eq_getElem?_getD,h1]
         rfl
        ·rw [if_neg h,if_neg h]
       clear hseg hg1 hsg hf1 hm1 hm0 hget hfl hvn hmem hdq hdn hdc
       obtain ⟨wb,hwb⟩ : ∃ wb,wb=wr.alloc (.cells #[.int .u64 (vn:Int),.int .u32 fl,.slice dq dn dc,.int .u64 mem] 38) := ⟨_,rfl⟩
       have bb : Below wr.heap.size wr wb := by rw [hwb]; exact (Below.refl _ _).alloc (Nat.le_refl _) _
       obtain ⟨zb,hzb⟩ : ∃ zb,zb=wr.heap.size := ⟨_,rfl⟩
       have kb0 : wb.cell? ⟨zb,0,.none⟩=some (.int .u64 (vn:Int)) := by rw [hwb,hzb]; simp
       have kb1 : wb.cell? ⟨zb,1,.none⟩=some (.int .u32 fl) := by rw [hwb,hzb]; simp
       have kb2 : wb.cell? ⟨zb,2,.none⟩=some (.slice dq dn dc) := by rw [hwb,hzb]; simp
       have kb3 : wb.cell? ⟨zb,3,.none⟩=some (.int .u64 mem) := by rw [hwb,hzb]; simp
       have HB : Hid (wb.cell? ⟨zb,0,.none⟩=some (.int .u64 (vn:Int))∧wb.cell? ⟨zb,1,.none⟩=some (.int .u32 fl)∧wb.cell? ⟨zb,2,.none⟩=some (.slice dq dn dc)∧wb.cell? ⟨zb,3,.none⟩=some (.int .u64 mem)∧Below w6.heap.size w6 wb) := ⟨kb0,kb1,kb2,kb3,HR.out.trans (bb.mono HR.out.size)⟩
       have HDT : Hid (Byt wb dq dn dc (D j)) := by
        by_cases h : 0<dn
        ·exact byt_keep hdat bb (byt_lt hdat h)
        ·exact ⟨hdat.1,hdat.2.1,hdat.2.2.1,.inl (by omega)⟩
       have hdc2 : dn≤dc∧dc≤9223372036854775807 := ⟨hdat.2.1,hdat.2.2.1⟩
       clear kb0 kb1 kb2 kb3 bb hBr hPr hdat
       subst hqs
       go_upto_region 27 with fail
       rw [← hwb,← hzb]
       clear hwb a0 a1 a2 a3 l1 hzb
       have hvn0 : (0:Int)≤vn := by omega
       have HRt : Hid (∀ w',Below wb.heap.size wb w'→Calls Tryz.prog 19 #[.pointer (some ⟨s,0,.none⟩)] w' fun e9 w'' => e9 = .returned (.int .u64 (Rm.ad r))∧w''=w') := fun w' k => (H6.out.2.2.2.1.below (HB.out.2.2.2.2.trans (k.mono HB.out.2.2.2.2.size))).root
       go_wp2_with fail
       go_loopw [20] (fun k w' => ∃ a : Nat,(a:Int)<mem+509∧k = .int .u64 a∧Hid (Below wb.heap.size wb w')) (fun k _ => (mem+600 - intOf k).toNat)
       case atStart => exact ⟨0,by omega,rfl,Below.refl _ _⟩
       case round =>
        obtain ⟨a,ha,rfl,HA⟩ := hrel
        have kb3 := (HA.out.cell (lt_of_cell HB.out.2.2.2.1)).trans HB.out.2.2.2.1
        by_cases hlm : (a:Int)<mem
        ·obtain ⟨e1,e2,e3⟩ := HSE.out a hlm
         obtain ⟨pa,hse,hrd⟩ := H6.out.2.2.2.1.see (vn+a) (by omega)
         have hac : ∀ t,Rm.accU (Rm.upd (cS (sgsG S i)) e 198) t (vn+a)=Rm.hs (rga fl 3+208) (Rm.wnt t) := fun t => by unfold Rm.accU; rw [e3]
         obtain ⟨rb,hrb⟩ : ∃ rb,(bits .and .u32 fl 4 != 0)=rb := ⟨_,rfl⟩
         obtain ⟨wbt,hwbt⟩ : ∃ rb,(bits .and .u32 fl 2 != 0)=rb := ⟨_,rfl⟩
         obtain ⟨xb,hxb⟩ : ∃ rb,(bits .and .u32 fl 1 != 0)=rb := ⟨_,rfl⟩
         obtain ⟨p1,hp1⟩ : ∃ p1 : Int,(if rb then pa else 0)=p1 := ⟨_,rfl⟩
         obtain ⟨p2,hp2⟩ : ∃ p1 : Int,(if wbt then pa else 0)=p1 := ⟨_,rfl⟩
         obtain ⟨p3,hp3⟩ : ∃ p1 : Int,(if xb then pa else 0)=p1 := ⟨_,rfl⟩
         obtain ⟨bv,hbv⟩ : ∃ bv : Int,(if a<dn then (D j).getD a 0 else 0)=bv := ⟨_,rfl⟩
         rw [hbv] at e2
         have hcast : (((vn+a : Nat)) : Int)=(vn:Int)+a := by push_cast; rfl
         have HT1 : Hid (∀ w',Below wb.heap.size wb w'→Calls Tryz.prog 18 #[.pointer (some ⟨pm,0,.none⟩),.int .u64 (Rm.ad r),.int .u64 ((vn:Int)+a),.int .i64 2] w' fun e9 w'' => e9 = .returned (.tuple #[.int .u64 p1,.bool rb])∧Below w'.heap.size w' w'') := fun w' k => by
          have := hse 1 (by omega) w' (HB.out.2.2.2.2.trans (k.mono HB.out.2.2.2.2.size))
          rw [hac,(rga_bits hf2).2.1,← (and_f hf2).1,hrb,hp1,hcast] at this
          exact this
         have HT2 : Hid (∀ w',Below wb.heap.size wb w'→Calls Tryz.prog 18 #[.pointer (some ⟨pm,0,.none⟩),.int .u64 (Rm.ad r),.int .u64 ((vn:Int)+a),.int .i64 3] w' fun e9 w'' => e9 = .returned (.tuple #[.int .u64 p2,.bool wbt])∧Below w'.heap.size w' w'') := fun w' k => by
          have := hse 2 (by omega) w' (HB.out.2.2.2.2.trans (k.mono HB.out.2.2.2.2.size))
          rw [hac,(rga_bits hf2).2.2,← (and_f hf2).2.1,hwbt,hp2,hcast] at this
          exact this
         have HT3 : Hid (∀ w',Below wb.heap.size wb w'→Calls Tryz.prog 18 #[.pointer (some ⟨pm,0,.none⟩),.int .u64 (Rm.ad r),.int .u64 ((vn:Int)+a),.int .i64 1] w' fun e9 w'' => e9 = .returned (.tuple #[.int .u64 p3,.bool xb])∧Below w'.heap.size w' w'') := fun w' k => by
          have := hse 0 (by omega) w' (HB.out.2.2.2.2.trans (k.mono HB.out.2.2.2.2.size))
          rw [hac,(rga_bits hf2).1,← (and_f hf2).2.2,hxb,hp3,hcast] at this
          exact this
         have HRd : Hid (∀ w',Below wb.heap.size wb w'→Calls Tryz.prog 20 #[.pointer (some ⟨pm,0,.none⟩),.int .u64 pa,.int .i64 1] w' fun e9 w'' => Rm.ReadP w' 1 (fun _ => bv) e9 w'') := fun w' k => by
          have := hrd w' (HB.out.2.2.2.2.trans (k.mono HB.out.2.2.2.2.size))
          rw [e2] at this
          exact this
         have HP1 : Hid ((if rb then pa else 0)=p1) := hp1
         have HBV : Hid ((if a<dn then (D j).getD a 0 else 0)=bv) := hbv
         clear e1 e2 e3 hse hrd hac hp1 hp2 hp3 hbv hcast
         have hva : (vn:Int)+a<18446744073709551616 := by omega
         have hw6 : IntKind.u64.wrap ((vn:Int)+a)=(vn:Int)+a := by rw [IntKind.wrap_u64]; omega
         go_upto_region 30 with fail
         have kS : wr.drew.cell? ⟨zb,0,.none⟩=some (.int .u64 (vn:Int)) := (HA.out.cell (lt_of_cell HB.out.1)).trans HB.out.1
         refine wp_region_held_drew (S:=fun U => U.cell? ⟨zb,0,.none⟩=some (.int .u64 (vn:Int))) (by kernel_rfl) kS (fun hHeld => ?_)
         refine nT 0 (.pointer (some ⟨pm,0,.none⟩)) rfl ?_ (fun ww hSw => by (try dsimp only at hSw); go_simp)
         simp only [X0,X1,X2,X3,X4,X5,X6]
         refine nT 1 (.pointer (some ⟨s,0,.none⟩)) rfl ?_ (fun ww hSw => by (try dsimp only at hSw); go_simp)
         simp only [X0,X1,X2,X3,X4,X5,X6]
         refine nT 3 (.pointer (some ⟨zb,0,.none⟩)) rfl ?_ (fun ww hSw => by (try dsimp only at hSw); go_simp)
         simp only [X0,X1,X2,X3,X4,X5,X6]
         refine nT 4 (.int .u64 vn) rfl ?_ (fun ww hSw => by (try dsimp only at hSw); go_simp)
         simp only [X0,X1,X2,X3,X4,X5,X6]
         refine nT 5 (.int .u64 a) rfl ?_ (fun ww hSw => by (try dsimp only at hSw); go_simp)
         simp only [X0,X1,X2,X3,X4,X5,X6]
         refine nT 6 (.int .u64 (vn+a)) rfl ?_ (fun ww hSw => by (try dsimp only at hSw); go_simp)
         simp only [X0,X1,X2,X3,X4,X5,X6]
         refine wpAnyH_ready (rs:=[2]) (by kernel_rfl) (by simp) ?_
         refine AllReadyH.cons rfl (fun K hK => ?_) AllReadyH.nil
         go_simp
         go_at_call 19
         refine (HRt.out _ ((HA.out.drew))).mono ?_
         rintro _ wq ⟨rfl,eq9⟩
         obtain rfl : wr.drew=wq := eq9.symm
         refine hK.out _ _ kS (fun hHeld => ?_)
         clear hK K
         try simp only [X0,X1,X2,X3,X4,X5,X6]
         refine wpAnyH_ready (rs:=[7]) (by kernel_rfl) (by simp) ?_
         refine AllReadyH.cons rfl (fun K hK => ?_) AllReadyH.nil
         go_simp
         go_at_call 18
         refine (HT1.out _ (HA.out.drew)).mono ?_
         rintro _ wu ⟨rfl,b9⟩
         have HA1 : Hid (Below wb.heap.size wb wu) := HA.out.trans ((show Below wr.heap.size wr wu from ((Below.refl _ _).drew).trans b9).mono HA.out.size)
         have kSn : wu.cell? ⟨zb,0,.none⟩=some (.int .u64 (vn:Int)) := (HA1.out.cell (lt_of_cell HB.out.1)).trans HB.out.1
         clear b9 kS
         refine hK.out _ _ kSn (fun hHeld => ?_)
         clear hK K
         try simp only [X0,X1,X2,X3,X4,X5,X6]
         refine nT 8 (.tuple #[.int .u64 p1,.bool rb]) rfl ?_ (fun ww hSw => by (try dsimp only at hSw); go_simp)
         simp only [X0,X1,X2,X3,X4,X5,X6]
         refine nT 9 (.int .u64 p1) rfl ?_ (fun ww hSw => by (try dsimp only at hSw); go_simp)
         simp only [X0,X1,X2,X3,X4,X5,X6]
         refine nT 10 (.bool rb) rfl ?_ (fun ww hSw => by (try dsimp only at hSw); go_simp)
         simp only [X0,X1,X2,X3,X4,X5,X6]
         refine nT 11 (.int .u64 p1) rfl ?_ (fun ww hSw => by (try dsimp only at hSw); go_simp)
         simp only [X0,X1,X2,X3,X4,X5,X6]
         refine nT 12 (.bool rb) rfl ?_ (fun ww hSw => by (try dsimp only at hSw); go_simp)
         simp only [X0,X1,X2,X3,X4,X5,X6]
         refine wpAnyH_done (by kernel_rfl) ?_ _
         clear kSn
         go_upto_region 31 with fail
         have kS : wu.drew.cell? ⟨zb,0,.none⟩=some (.int .u64 (vn:Int)) := (HA1.out.cell (lt_of_cell HB.out.1)).trans HB.out.1
         refine wp_region_held_drew (S:=fun U => U.cell? ⟨zb,0,.none⟩=some (.int .u64 (vn:Int))) (by kernel_rfl) kS (fun hHeld => ?_)
         refine nT 0 (.pointer (some ⟨pm,0,.none⟩)) rfl ?_ (fun ww hSw => by (try dsimp only at hSw); go_simp)
         simp only [X0,X1,X2,X3,X4,X5,X6]
         refine nT 1 (.pointer (some ⟨s,0,.none⟩)) rfl ?_ (fun ww hSw => by (try dsimp only at hSw); go_simp)
         simp only [X0,X1,X2,X3,X4,X5,X6]
         refine nT 3 (.pointer (some ⟨zb,0,.none⟩)) rfl ?_ (fun ww hSw => by (try dsimp only at hSw); go_simp)
         simp only [X0,X1,X2,X3,X4,X5,X6]
         refine nT 4 (.int .u64 vn) rfl ?_ (fun ww hSw => by (try dsimp only at hSw); go_simp)
         simp only [X0,X1,X2,X3,X4,X5,X6]
         refine nT 5 (.int .u64 a) rfl ?_ (fun ww hSw => by (try dsimp only at hSw); go_simp)
         simp only [X0,X1,X2,X3,X4,X5,X6]
         refine nT 6 (.int .u64 (vn+a)) rfl ?_ (fun ww hSw => by (try dsimp only at hSw); go_simp)
         simp only [X0,X1,X2,X3,X4,X5,X6]
         refine wpAnyH_ready (rs:=[2]) (by kernel_rfl) (by simp) ?_
         refine AllReadyH.cons rfl (fun K hK => ?_) AllReadyH.nil
         go_simp
         go_at_call 19
         refine (HRt.out _ ((HA1.out.drew))).mono ?_
         rintro _ wq ⟨rfl,eq9⟩
         obtain rfl : wu.drew=wq := eq9.symm
         refine hK.out _ _ kS (fun hHeld => ?_)
         clear hK K
         try simp only [X0,X1,X2,X3,X4,X5,X6]
         refine wpAnyH_ready (rs:=[7]) (by kernel_rfl) (by simp) ?_
         refine AllReadyH.cons rfl (fun K hK => ?_) AllReadyH.nil
         go_simp
         go_at_call 18
         refine (HT2.out _ (HA1.out.drew)).mono ?_
         rintro _ wv ⟨rfl,b9⟩
         have HA2 : Hid (Below wb.heap.size wb wv) := HA1.out.trans ((show Below wu.heap.size wu wv from ((Below.refl _ _).drew).trans b9).mono HA1.out.size)
         have kSn : wv.cell? ⟨zb,0,.none⟩=some (.int .u64 (vn:Int)) := (HA2.out.cell (lt_of_cell HB.out.1)).trans HB.out.1
         clear b9 kS
         refine hK.out _ _ kSn (fun hHeld => ?_)
         clear hK K
         try simp only [X0,X1,X2,X3,X4,X5,X6]
         refine nT 8 (.tuple #[.int .u64 p2,.bool wbt]) rfl ?_ (fun ww hSw => by (try dsimp only at hSw); go_simp)
         simp only [X0,X1,X2,X3,X4,X5,X6]
         refine nT 9 (.int .u64 p2) rfl ?_ (fun ww hSw => by (try dsimp only at hSw); go_simp)
         simp only [X0,X1,X2,X3,X4,X5,X6]
         refine nT 10 (.bool wbt) rfl ?_ (fun ww hSw => by (try dsimp only at hSw); go_simp)
         simp only [X0,X1,X2,X3,X4,X5,X6]
         refine nT 11 (.int .u64 p2) rfl ?_ (fun ww hSw => by (try dsimp only at hSw); go_simp)
         simp only [X0,X1,X2,X3,X4,X5,X6]
         refine nT 12 (.bool wbt) rfl ?_ (fun ww hSw => by (try dsimp only at hSw); go_simp)
         simp only [X0,X1,X2,X3,X4,X5,X6]
         refine wpAnyH_done (by kernel_rfl) ?_ _
         clear kSn
         go_upto_region 32 with fail
         have kS : wv.drew.cell? ⟨zb,0,.none⟩=some (.int .u64 (vn:Int)) := (HA2.out.cell (lt_of_cell HB.out.1)).trans HB.out.1
         refine wp_region_held_drew (S:=fun U => U.cell? ⟨zb,0,.none⟩=some (.int .u64 (vn:Int))) (by kernel_rfl) kS (fun hHeld => ?_)
         refine nT 0 (.pointer (some ⟨pm,0,.none⟩)) rfl ?_ (fun ww hSw => by (try dsimp only at hSw); go_simp)
         simp only [X0,X1,X2,X3,X4,X5,X6]
         refine nT 1 (.pointer (some ⟨s,0,.none⟩)) rfl ?_ (fun ww hSw => by (try dsimp only at hSw); go_simp)
         simp only [X0,X1,X2,X3,X4,X5,X6]
         refine nT 3 (.pointer (some ⟨zb,0,.none⟩)) rfl ?_ (fun ww hSw => by (try dsimp only at hSw); go_simp)
         simp only [X0,X1,X2,X3,X4,X5,X6]
         refine nT 4 (.int .u64 vn) rfl ?_ (fun ww hSw => by (try dsimp only at hSw); go_simp)
         simp only [X0,X1,X2,X3,X4,X5,X6]
         refine nT 5 (.int .u64 a) rfl ?_ (fun ww hSw => by (try dsimp only at hSw); go_simp)
         simp only [X0,X1,X2,X3,X4,X5,X6]
         refine nT 6 (.int .u64 (vn+a)) rfl ?_ (fun ww hSw => by (try dsimp only at hSw); go_simp)
         simp only [X0,X1,X2,X3,X4,X5,X6]
         refine wpAnyH_ready (rs:=[2]) (by kernel_rfl) (by simp) ?_
         refine AllReadyH.cons rfl (fun K hK => ?_) AllReadyH.nil
         go_simp
         go_at_call 19
         refine (HRt.out _ ((HA2.out.drew))).mono ?_
         rintro _ wq ⟨rfl,eq9⟩
         obtain rfl : wv.drew=wq := eq9.symm
         refine hK.out _ _ kS (fun hHeld => ?_)
         clear hK K
         try simp only [X0,X1,X2,X3,X4,X5,X6]
         refine wpAnyH_ready (rs:=[7]) (by kernel_rfl) (by simp) ?_
         refine AllReadyH.cons rfl (fun K hK => ?_) AllReadyH.nil
         go_simp
         go_at_call 18
         refine (HT3.out _ (HA2.out.drew)).mono ?_
         rintro _ ww2 ⟨rfl,b9⟩
         have HA3 : Hid (Below wb.heap.size wb ww2) := HA2.out.trans ((show Below wv.heap.size wv ww2 from ((Below.refl _ _).drew).trans b9).mono HA2.out.size)
         have kSn : ww2.cell? ⟨zb,0,.none⟩=some (.int .u64 (vn:Int)) := (HA3.out.cell (lt_of_cell HB.out.1)).trans HB.out.1
         clear b9 kS
         refine hK.out _ _ kSn (fun hHeld => ?_)
         clear hK K
         try simp only [X0,X1,X2,X3,X4,X5,X6]
         refine nT 8 (.tuple #[.int .u64 p3,.bool xb]) rfl ?_ (fun ww hSw => by (try dsimp only at hSw); go_simp)
         simp only [X0,X1,X2,X3,X4,X5,X6]
         refine nT 9 (.int .u64 p3) rfl ?_ (fun ww hSw => by (try dsimp only at hSw); go_simp)
         simp only [X0,X1,X2,X3,X4,X5,X6]
         refine nT 10 (.bool xb) rfl ?_ (fun ww hSw => by (try dsimp only at hSw); go_simp)
         simp only [X0,X1,X2,X3,X4,X5,X6]
         refine nT 11 (.int .u64 p3) rfl ?_ (fun ww hSw => by (try dsimp only at hSw); go_simp)
         simp only [X0,X1,X2,X3,X4,X5,X6]
         refine nT 12 (.bool xb) rfl ?_ (fun ww hSw => by (try dsimp only at hSw); go_simp)
         simp only [X0,X1,X2,X3,X4,X5,X6]
         refine wpAnyH_done (by kernel_rfl) ?_ _
         clear kSn
         have kb1 := (HA3.out.cell (lt_of_cell HB.out.2.1)).trans HB.out.2.1
         go_upto_region 35 with fail
         clear kb1 hw6 hrb hwbt hxb
         have hst : 1≤shS dn a∧shS dn a≤509 := by unfold shS; split <;> omega
         have hsta : (a:Int)+(shS dn a:Nat)<18446744073709551616 := by omega
         have cS := fun w => step_any dn a (by omega) (by omega) w
         cases rb with
         | false =>
          have hp0 : p1=0 := by have := HP1.out; simpa using this.symm
          subst hp0
          have c0 := H6.out.2.2.2.1.see0 ww2 (HB.out.2.2.2.2.trans (HA3.out.mono HB.out.2.2.2.2.size))
          go_upto_region 36 with (go_at_call 20; refine c0.mono ?_; rintro _ w9 ⟨rfl,b9⟩; have HA4 : Hid (Below wb.heap.size wb w9) := HA3.out.trans (b9.mono HA3.out.size); clear b9 c0)
          have kS : w9.drew.cell? ⟨zb,0,.none⟩=some (.int .u64 (vn:Int)) := (HA4.out.cell (lt_of_cell HB.out.1)).trans HB.out.1
          refine wp_region_held_drew (S:=fun U => U.cell? ⟨zb,0,.none⟩=some (.int .u64 (vn:Int))) (by kernel_rfl) kS (fun hHeld => ?_)
          refine nT 0 (.bool false) rfl ?_ (fun ww hSw => by (try dsimp only at hSw); go_simp)
          simp only [X0,X1,X2,X3,X4,X5,X6]
          refine nT 1 (.bool false) rfl ?_ (fun ww hSw => by (try dsimp only at hSw); go_simp)
          simp only [X0,X1,X2,X3,X4,X5,X6]
          refine nU 2 rfl ?_
          simp only [X0,X1,X2,X3,X4,X5,X6]
          refine nU 3 rfl ?_
          simp only [X0,X1,X2,X3,X4,X5,X6]
          refine nU 4 rfl ?_
          simp only [X0,X1,X2,X3,X4,X5,X6]
          refine nU 5 rfl ?_
          simp only [X0,X1,X2,X3,X4,X5,X6]
          refine nU 6 rfl ?_
          simp only [X0,X1,X2,X3,X4,X5,X6]
          refine nU 7 rfl ?_
          simp only [X0,X1,X2,X3,X4,X5,X6]
          refine nU 8 rfl ?_
          simp only [X0,X1,X2,X3,X4,X5,X6]
          refine nU 9 rfl ?_
          simp only [X0,X1,X2,X3,X4,X5,X6]
          refine nU 10 rfl ?_
          simp only [X0,X1,X2,X3,X4,X5,X6]
          refine nU 11 rfl ?_
          simp only [X0,X1,X2,X3,X4,X5,X6]
          refine nU 12 rfl ?_
          simp only [X0,X1,X2,X3,X4,X5,X6]
          refine nT 13 (.bool false) rfl ?_ (fun ww hSw => by (try dsimp only at hSw); go_simp)
          simp only [X0,X1,X2,X3,X4,X5,X6]
          refine wpAnyH_done (by kernel_rfl) ?_ _
          clear kS
          have HA5 : Hid (Below wb.heap.size wb w9.drew) := HA4.out.drew
          generalize w9.drew=w11 at *
          have kb2 := (HA5.out.cell (lt_of_cell HB.out.2.2.1)).trans HB.out.2.2.1
          go_wp2_with (go_at_call 17; refine (cS _).mono ?_; rintro _ w12 ⟨rfl,e12⟩; obtain rfl : w11=w12 := e12.symm)
          exact ⟨⟨a+shS dn a,by push_cast; omega,by simp,HA5.out⟩,by simp [intOf]; omega⟩
         | true =>
          have hp0 : p1=pa := by have := HP1.out; simpa using this.symm
          subst hp0
          have c0 := HRd.out ww2 HA3.out
          go_upto_region 36 with (go_at_call 20; refine c0.mono ?_; rintro _ w9 ⟨g9,hg1,hg2,rfl,hrow,hfz,b9⟩; have HA4 : Hid (Below wb.heap.size wb w9∧w9.cell? ⟨g9,0,.none⟩=some (.int .u8 bv)) := ⟨HA3.out.trans (b9.mono HA3.out.size),hrow 0 (by omega)⟩; clear b9 c0 hrow hfz hg1 hg2)
          have HS9 : Hid (∀ w',Below wb.heap.size wb w'→Calls Tryz.prog 21 #[.agg #[.int .u64 (vn:Int),.int .u32 fl,.slice dq dn dc,.int .u64 mem],.int .u64 a] w' fun e w'' => e = .returned (.int .u8 bv)∧Below w'.heap.size w' w'') := fun w' k => by
           rw [← HBV.out]
           refine byteOf_any (vn:Int) fl mem dq dn dc a hdc2 (by omega) (fun k => (D j).getD k 0) fun h => ?_
           rcases HDT.out.2.2.2 with h0 | ⟨gg,oo,hq9,hl9,hc9⟩
           ·omega
           ·refine ⟨gg,oo,hq9,?_⟩
            have h1 := hc9 a ((D j).getD a 0) (by rw [List.getD_eq_getElem?_getD,List.getElem?_eq_getElem (by have := HDT.out.1; omega)]; rfl)
            exact (k.cell (lt_of_cell h1)).trans h1
          have kS : w9.drew.cell? ⟨zb,0,.none⟩=some (.int .u64 (vn:Int))∧w9.drew.cell? ⟨zb,1,.none⟩=some (.int .u32 fl)∧w9.drew.cell? ⟨zb,2,.none⟩=some (.slice dq dn dc)∧w9.drew.cell? ⟨zb,3,.none⟩=some (.int .u64 mem)∧w9.drew.cell? ⟨g9,0,.none⟩=some (.int .u8 bv) := ⟨(HA4.out.1.cell (lt_of_cell HB.out.1)).trans HB.out.1,(HA4.out.1.cell (lt_of_cell HB.out.2.1)).trans HB.out.2.1,(HA4.out.1.cell (lt_of_cell HB.out.2.2.1)).trans HB.out.2.2.1,(HA4.out.1.cell (lt_of_cell HB.out.2.2.2.1)).trans HB.out.2.2.2.1,HA4.out.2⟩
          refine wp_region_held_drew (S:=fun U => U.cell? ⟨zb,0,.none⟩=some (.int .u64 (vn:Int))∧U.cell? ⟨zb,1,.none⟩=some (.int .u32 fl)∧U.cell? ⟨zb,2,.none⟩=some (.slice dq dn dc)∧U.cell? ⟨zb,3,.none⟩=some (.int .u64 mem)∧U.cell? ⟨g9,0,.none⟩=some (.int .u8 bv)) (by kernel_rfl) kS (fun hHeld => ?_)
          refine nT 0 (.bool true) rfl ?_ (fun ww hSw => by (try dsimp only at hSw); obtain ⟨q0,q1,q2,q3,q4⟩ := hSw; go_simp)
          simp only [X0,X1,X2,X3,X4,X5,X6]
          refine nT 1 (.bool true) rfl ?_ (fun ww hSw => by (try dsimp only at hSw); obtain ⟨q0,q1,q2,q3,q4⟩ := hSw; go_simp)
          simp only [X0,X1,X2,X3,X4,X5,X6]
          refine nT 2 (.bool true) rfl ?_ (fun ww hSw => by (try dsimp only at hSw); obtain ⟨q0,q1,q2,q3,q4⟩ := hSw; go_simp)
          simp only [X0,X1,X2,X3,X4,X5,X6]
          refine nT 3 (.bool false) rfl ?_ (fun ww hSw => by (try dsimp only at hSw); obtain ⟨q0,q1,q2,q3,q4⟩ := hSw; go_simp)
          simp only [X0,X1,X2,X3,X4,X5,X6]
          refine nT 4 (.bool false) rfl ?_ (fun ww hSw => by (try dsimp only at hSw); obtain ⟨q0,q1,q2,q3,q4⟩ := hSw; go_simp)
          simp only [X0,X1,X2,X3,X4,X5,X6]
          refine nT 5 (.slice (some ⟨g9,0,.none⟩) 1 1) rfl ?_ (fun ww hSw => by (try dsimp only at hSw); obtain ⟨q0,q1,q2,q3,q4⟩ := hSw; go_simp)
          simp only [X0,X1,X2,X3,X4,X5,X6]
          refine nT 6 (.pointer (some ⟨g9,0,.none⟩)) rfl ?_ (fun ww hSw => by (try dsimp only at hSw); obtain ⟨q0,q1,q2,q3,q4⟩ := hSw; go_simp)
          simp only [X0,X1,X2,X3,X4,X5,X6]
          refine nT 7 (.int .u8 bv) rfl ?_ (fun ww hSw => by (try dsimp only at hSw); obtain ⟨q0,q1,q2,q3,q4⟩ := hSw; go_simp)
          simp only [X0,X1,X2,X3,X4,X5,X6]
          refine nT 8 (.agg #[.int .u64 vn,.int .u32 fl,.slice dq dn dc,.int .u64 mem]) rfl ?_ (fun ww hSw => by (try dsimp only at hSw); obtain ⟨q0,q1,q2,q3,q4⟩ := hSw; go_simp)
          simp only [X0,X1,X2,X3,X4,X5,X6]
          refine nT 9 (.int .u64 a) rfl ?_ (fun ww hSw => by (try dsimp only at hSw); obtain ⟨q0,q1,q2,q3,q4⟩ := hSw; go_simp)
          simp only [X0,X1,X2,X3,X4,X5,X6]
          refine wpAnyH_ready (rs:=[10]) (by kernel_rfl) (by simp) ?_
          refine AllReadyH.cons rfl (fun K hK => ?_) AllReadyH.nil
          go_simp
          go_at_call 21
          refine (HS9.out _ HA4.out.1.drew).mono ?_
          rintro _ w11 ⟨rfl,b9⟩
          have HA5 : Hid (Below wb.heap.size wb w11) := HA4.out.1.trans ((show Below w9.heap.size w9 w11 from ((Below.refl _ _).drew).trans b9).mono HA4.out.1.size)
          have kSn : w11.cell? ⟨zb,0,.none⟩=some (.int .u64 (vn:Int))∧w11.cell? ⟨zb,1,.none⟩=some (.int .u32 fl)∧w11.cell? ⟨zb,2,.none⟩=some (.slice dq dn dc)∧w11.cell? ⟨zb,3,.none⟩=some (.int .u64 mem)∧w11.cell? ⟨g9,0,.none⟩=some (.int .u8 bv) := ⟨(b9.cell (lt_of_cell kS.1)).trans kS.1,(b9.cell (lt_of_cell kS.2.1)).trans kS.2.1,(b9.cell (lt_of_cell kS.2.2.1)).trans kS.2.2.1,(b9.cell (lt_of_cell kS.2.2.2.1)).trans kS.2.2.2.1,(b9.cell (lt_of_cell kS.2.2.2.2)).trans kS.2.2.2.2⟩
          clear b9 kS
          refine hK.out _ _ kSn (fun hHeld => ?_)
          clear hK K
          try simp only [X0,X1,X2,X3,X4,X5,X6]
          refine nT 11 (.bool false) rfl ?_ (fun ww hSw => by (try dsimp only at hSw); obtain ⟨q0,q1,q2,q3,q4⟩ := hSw; go_simp)
          simp only [X0,X1,X2,X3,X4,X5,X6]
          refine nT 12 (.bool false) rfl ?_ (fun ww hSw => by (try dsimp only at hSw); obtain ⟨q0,q1,q2,q3,q4⟩ := hSw; go_simp)
          simp only [X0,X1,X2,X3,X4,X5,X6]
          refine nT 13 (.bool false) rfl ?_ (fun ww hSw => by (try dsimp only at hSw); obtain ⟨q0,q1,q2,q3,q4⟩ := hSw; go_simp)
          simp only [X0,X1,X2,X3,X4,X5,X6]
          refine wpAnyH_done (by kernel_rfl) ?_ _
          clear kSn
          have kb2 := (HA5.out.cell (lt_of_cell HB.out.2.2.1)).trans HB.out.2.2.1
          go_wp2_with (go_at_call 17; refine (cS _).mono ?_; rintro _ w12 ⟨rfl,e12⟩; obtain rfl : w11=w12 := e12.symm)
          exact ⟨⟨a+shS dn a,by push_cast; omega,by simp,HA5.out⟩,by simp [intOf]; omega⟩
        ·have hlm2 : ¬ (a:Int)<mem := hlm
         go_wp2_with fail
         exact ⟨⟨j+1,by omega,by simp,HB.out.2.2.2.2.trans (HA.out.mono HB.out.2.2.2.2.size)⟩,by simp [intOf]; omega⟩
      ·obtain rfl : j=i := by omega
       have g0 : ¬ (j:Int)<j := by omega
       have hM := H6.out.2.2.2.1.below HR.out
       have he12 := HE.out.2.2
       obtain ⟨sz,hsz⟩ : ∃ sz : Int,((e+2 : Nat) : Int)*4096=sz := ⟨_,rfl⟩
       have hszb : 8192≤sz∧sz<18446744073709551616 := by omega
       have hgd : ((e*4096 : Nat) : Int)=sz - 8192 := by omega
       have c22 := hM.size_any
       rw [hsz] at c22
       obtain ⟨pa,hse,-⟩ := hM.see (e*4096) (by omega)
       have hac : Rm.accU (Rm.upd (cS (sgsG S j)) e 198) 1 (e*4096)=false := by
        unfold Rm.accU Rm.upd
        rw [if_pos (by omega)]
        exact guard_bits 1
       have cT : Calls Tryz.prog 18 #[.pointer (some ⟨pm,0,.none⟩),.int .u64 (Rm.ad r),.int .u64 (sz - 8192),.int .i64 2] wr fun e9 w'' => e9 = .returned (.tuple #[.int .u64 0,.bool false])∧Below wr.heap.size wr w'' := by
        have := hse 1 (by omega) wr (Below.refl _ _)
        rw [hac,hgd,if_neg (by simp)] at this
        exact this
       have cR := hM.root
       have HM : Hid (Rm.SpM (Rm.oxt0 399) wr s pm b mm 400 r (e+2) 398 (pgM Bq (sgsG S j) e Rp) (Rm.upd (cS (sgsG S j)) e 198)) := hM
       obtain ⟨hz1,hz2⟩ := hszb
       clear hM hse hac hgd hsz he12
       go_upto_region 39 with (go_at_call 22; refine c22.mono ?_; rintro _ w9 ⟨rfl,e9⟩; obtain rfl : wr=w9 := e9.symm)
       go_upto_region 40 with first | (go_at_call 19; refine cR.mono ?_; rintro _ w9 ⟨rfl,e9⟩; obtain rfl : wr=w9 := e9.symm) | (go_at_call 18; refine cT.mono ?_; rintro _ w10 ⟨rfl,b10⟩; have H10 : Hid (Below wr.heap.size wr w10) := b10; clear b10)
       have cF := (HM.out.below H10.out).free
       go_wp2_with first | (go_at_call 23; refine cF.mono ?_; rintro _ w11 ⟨rfl,ht,B9,L9,hr9,hl9,-⟩; have HF : Hid (Rm.Tch pm b mm s w10 w11) := ht; have cC := Rm.ram_count hr9; rw [hl9] at cC; clear ht hr9 hl9 cF) | (go_at_call 15; refine cC.mono ?_; rintro _ w12 ⟨rfl,b12⟩)
       go_ret
       have hb10 : Below W.heap.size W w10 := H6.out.1.trans ((HR.out.trans (H10.out.mono HR.out.size)).mono H6.out.1.size)
       have hfr := (HF.out.fra (Rm.Fra.below hb10) H6.out.2.2.2.2.1).toBelow (Nat.le_refl _) H4.out.2.2.2.1 H4.out.2.2.2.2.1 H4.out.2.2.2.2.2.1
       exact ⟨by first | rfl | simp,hfr.trans (b12.mono hfr.size)⟩
end
end Go.Proofs.YtabnipbdbnmmpaaGreatDoor
