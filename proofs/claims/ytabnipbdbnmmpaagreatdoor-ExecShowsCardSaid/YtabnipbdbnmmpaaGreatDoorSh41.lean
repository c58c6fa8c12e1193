import Derived.Test.YtabnipbdbnmmpaaGreatDoorSh01
import Derived.Test.YtabnipbdbnmmpaaGreatDoorSh39
import Derived.Test.YtabnipbdbnmmpaaGreatDoorSh40
import Derived.Lib.LazyBuf
import Derived.Laws.Bits128
import Derived.Lib.SlBytesRow
import Derived.Laws.BytesArg
import Derived.Deep.OwnRows
set_option linter.unusedVariables false
set_option linter.unusedSimpArgs false
namespace Go.Proofs.YtabnipbdbnmmpaaGreatDoor
section
open Go.RowKit Go.Shelf
theorem nat_and15 (y:Nat) : y &&& 18446744073709551600=y % 18446744073709551616 / 16*16 := by
 apply Nat.eq_of_testBit_eq
 intro i
 rw [Nat.testBit_and,show 18446744073709551600=(2 ^ 60 - 1) <<< 4 by decide,show y % 18446744073709551616 / 16*16=((y % 2 ^ 64) >>> 4) <<< 4 by simp [Nat.shiftRight_eq_div_pow,Nat.shiftLeft_eq],Nat.testBit_shiftLeft,Nat.testBit_shiftLeft,Nat.testBit_two_pow_sub_one,Nat.testBit_shiftRight,Nat.testBit_mod_two_pow]
 by_cases h : 4≤i
 ·rw [show 4+(i - 4)=i by omega]
  by_cases h2 : i<64
  ·simp [h,h2,show i - 4<60 by omega]
  ·simp [h,h2,show ¬ i - 4<60 by omega]
 ·simp [h]
theorem andNot15 (x:Int) (h:-4611686018427387904≤x∧x<4611686018427387904) : bits .andNot .i64 x 15=x / 16*16 := by
 show IntKind.i64.wrap ((BitVec.ofInt 64 x &&& ~~~BitVec.ofInt 64 15).toNat : Int) = _
 have h1 : (BitVec.ofInt 64 15).toNat=15 := by decide
 rw [BitVec.toNat_and,BitVec.toNat_not,h1,show 2 ^ 64 - 1 - 15=18446744073709551600 by decide,nat_and15,BitVec.toNat_ofInt]
 rw [IntKind.wrap_i64]
 omega
def U8 (bs:List Int) : Prop := ∀ b ∈ bs,0≤b∧b<256
def l8 (x:Int) (n:Nat) : List Int := (List.range n).map fun i => x / 256 ^ i % 256
theorem l8_succ (x:Int) (n:Nat) : l8 x (n+1)=l8 x n ++ [x / 256 ^ n % 256] := by
 unfold l8
 rw [List.range_succ,List.map_append]
 rfl
theorem l8_len (x:Int) (n:Nat) : (l8 x n).length=n := by simp [l8]
theorem l8_get (x:Int) {n i:Nat} (h:i<n) : (l8 x n)[i]? = some (x / 256 ^ i % 256) := by
 unfold l8
 rw [List.getElem?_map,List.getElem?_range h]
 rfl
theorem div_next (x:Int) (i:Nat) : x / 256 ^ i / 256=x / 256 ^ (i+1) := by
 have h : (0:Int)≤256 ^ i := Int.pow_nonneg (by decide)
 rw [Int.pow_succ,Int.ediv_ediv,if_neg (fun e => by omega),Int.sub_zero]
def ApP (w:World) (base n:Nat) (bs':List Int) (e:Ending) (w':World) : Prop := ∃ q' c',e = .returned (.slice q' n c')∧w'.ownsRow base 5 1 (.slice q' n c') n (by8 bs')∧U8 bs'∧Below base w w'
set_option maxHeartbeats 1000000 in
theorem appendA_any {w:World} {base n c:Nat} {q:Option Addr} {bs:List Int} (h:w.ownsRow base 5 1 (.slice q n c) n (by8 bs)) (hU:U8 bs) (hbase:base≤w.heap.size) (hn:n<1000) (x:Int) (hx:0≤x∧x<18446744073709551616) :
  Calls Tryz.prog 141 #[.slice q n c,.int .u64 x] w (ApP w base (n+8) (bs ++ l8 x 8)) := by
 obtain ⟨i3,z3,hi3,hz3,hs3,hb3,hzs3⟩ := byte_info
 have HI : Hid (Tryz.prog.info? 5=some i3∧i3.zero=some z3∧i3.size=1∧i3.bytes=1∧z3.cells.size=1) := ⟨hi3,hz3,hs3,hb3,hzs3⟩
 clear hi3 hz3 hs3 hb3 hzs3
 have HO : Hid (w.ownsRow base 5 1 (.slice q n c) n (by8 bs)∧U8 bs) := ⟨h,hU⟩
 clear h hU
 go_enter Tryz.func141,Tryz.ntmps141
 go_wp2_with fail
 go_loopw [0,1,5] (fun v a k wr => ∃ i : Nat,i≤8∧k = .int .i64 i ∧ ∃ q' c' bs' y,v = .slice q' (n+i) c'∧a = .int .u64 y∧Hid (0≤y∧y<18446744073709551616)∧Hid (wr.ownsRow base 5 1 (.slice q' (n+i) c') (n+i) (by8 bs')∧U8 bs'∧Below base w wr)∧Hid (bs'=bs ++ l8 x i∧y=x / 256 ^ i)) (fun _ _ k _ => (8 - intOf k).toNat)
 case atStart => exact ⟨0,by omega,rfl,q,c,bs,x,rfl,rfl,hx,⟨HO.out.1,HO.out.2,Below.refl _ _⟩,by simp [l8],by simp⟩
 case round =>
  obtain ⟨i,hi,rfl,q',c',bs',y,rfl,rfl,HY,HR,HE⟩ := hrel
  by_cases hlt : i<8
  ·have g0 : (i:Int)<8 := by omega
   have hy1 := HY.out.1
   have hy2 := HY.out.2
   have z1 := HR.out.2.2.size
   have hw8 : IntKind.u8.wrap y=y % 256 := by simp only [IntKind.wrap,IntKind.bits,IntKind.signed]; simp
   go_wp2_with (first | (at_builtin; refine wpList_append_own _ rfl _ _ 24 rfl base 5 i3 z3 1 1 Tryz.underlying24 HI.out.1 HI.out.2.1 HI.out.2.2.1 HI.out.2.2.2.1 HI.out.2.2.2.2 (by decide) (.slice q' (n+i) c') (n+i) (by8 bs') rfl (HR.out.1.alloc _) ⟨wr.heap.size,0,.none⟩ 1 1 (by8 [y % 256]) rfl rfl (le_cell1_new _ _ _) (by8_one _) ?c4 ?c5 ?c6 ?_) | go_in)
   case c4 => simp only [maxLen]; omega
   case c5 => omega
   case c6 => simp only [World.size_alloc]; omega
   intro v' w2 own' grow fb
   clear fb
   obtain ⟨p',c2,rfl⟩ := one_slice own'
   have HW : Hid (w2.ownsRow base 5 1 (.slice p' (n+(i+1)) c2) (n+(i+1)) (by8 (bs' ++ [y % 256]))∧U8 (bs' ++ [y % 256])∧Below base w w2) := by
    refine ⟨?_,?_,below_append HR.out.2.2 _ grow (by omega) (own_block HR.out.1)⟩
    ·rw [by8_app]
     exact own'
    ·intro b hb
     rcases List.mem_append.1 hb with hb | hb
     ·exact HR.out.2.1 b hb
     ·rw [List.mem_singleton] at hb
      omega
   clear own' grow
   go_wp2
   exact ⟨⟨i+1,by omega,rfl,p',c2,_,y / 256,rfl,rfl,⟨by omega,by omega⟩,HW.out,by rw [HE.out.1,HE.out.2,l8_succ,List.append_assoc],by rw [HE.out.2,div_next]⟩,by simp only [intOf]; omega⟩
  ·obtain rfl : i=8 := by omega
   go_wp2
   go_ret
   exact ⟨_,_,rfl,by rw [← HE.out.1]; exact HR.out.1,by rw [← HE.out.1]; exact HR.out.2.1,HR.out.2.2⟩
theorem cell_heap {w w':World} {b:Nat} (h:w'.heap[b]? = w.heap[b]?) (o:Nat) (x) : w'.cell? ⟨b,o,x⟩=w.cell? ⟨b,o,x⟩ := by
 unfold World.cell?
 simp only [h]
theorem frozen_heap {w w':World} {b:Nat} (h:w'.heap[b]? = w.heap[b]?) (o:Nat) (x) : w'.frozen? ⟨b,o,x⟩=w.frozen? ⟨b,o,x⟩ := by
 unfold World.frozen?
 simp only [h]
theorem elem22 (W:World) : (sizeOf (Tryz.prog.elem 24)).run Tryz.prog W = .ok 1 W := by
 have e : Tryz.prog.elem 24=5 := by kernel_rfl
 obtain ⟨i,z,hi,_,hs,_⟩ := byte_info
 rw [e]
 simp [sizeOf,typeInfo,hi,hs]
theorem cut_from (p:Option Addr) (n c:Nat) (x:Int) (W:World) (h:0≤x∧x<n∧x<c∧n≤c) : (Instr.slice 24 (.slice p n c) (some (.int .i64 x)) none none).run Tryz.prog W = .ok (.slice (p.map (·.add x.toNat)) (n - x.toNat) (c - x.toNat)) W := by
 rw [run_slice_l W 24 p n c (by kernel_rfl) .i64 x (by omega) (by omega),elem22]
 have : ¬ c=x.toNat := by omega
 simp [Result.andThen,sliced,this]
structure Pgs (w:World) (s:Nat) (R:Nat→Int) (pl:Int) : Prop where
 pg : (∀ i,0≤R i∧R i<256)∧w.rowIs (s+1) 5 4096 (fun i => .int .u8 (R i))
 pp : w.cell? ⟨s+2,0,.none⟩=some (.slice (some ⟨s+1,0,.none⟩) 4096 4096)
 pc : w.cell? ⟨s+3,0,.none⟩=some (.int .i64 pl)
 pf : w.frozen? ⟨s+3,0,.none⟩=false
structure Lyd (s:Nat) (w w':World) : Prop where
 bel : Below (s+1) w w'
 sz : w'.heap.size=w.heap.size
 oth : ∀ k,k≠s+1→k≠s+3→w'.heap[k]? = w.heap[k]?
theorem setCells_other (b k:Nat) (h:k≠b) : ∀ (vs:List Value) (o:Nat) (w:World),(w.setCells b o vs).heap[k]? = w.heap[k]?
 | [],o,w => rfl
 | v :: r,o,w => (setCells_other b k h r (o+1) _).trans (Below.heap_setCell _ _ _ _ (fun e => h e))
theorem setCells_size (b:Nat) : ∀ (vs:List Value) (o:Nat) (w:World),(w.setCells b o vs).heap.size=w.heap.size
 | [],o,w => rfl
 | v :: r,o,w => (setCells_size b r (o+1) _).trans (by simp [World.setCell])
theorem own_same {w w':World} {B e k n:Nat} {v:Value} {xs:List Value} (h:w.ownsRow B e k v n xs) (hk:∀ g,B≤g→w'.heap[g]? = w.heap[g]?) : w'.ownsRow B e k v n xs := by
 refine ⟨h.1,?_⟩
 rcases h.2 with h0 | ⟨g,cap,cur,hv,h1,h2,h3⟩
 ·exact .inl h0
 ·exact .inr ⟨g,cap,cur,hv,h1,(hk g h1).trans h2,h3⟩
def layR (R:Nat→Int) (m:Nat) (t:Bs) : Nat→Int := fun j => if m≤j∧j<m+t.length then ((t.getD (j - m) 0).toNat : Int) else R j
def LyP (w:World) (s:Nat) (R:Nat→Int) (t:Bs) (x:Int) (e:Ending) (w':World) : Prop := e = .returned (.bool (decide (0≤x)))∧Pgs w' s (if 0≤x then layR R (x / 16*16).toNat t else R) (x / 16*16)∧Lyd s w w'
set_option maxRecDepth 10000 in
set_option maxHeartbeats 1000000 in
theorem lay_any {w:World} {s:Nat} {R:Nat→Int} {pl:Int} (h:Pgs w s R pl) (hpl:0≤pl∧pl≤4096) (t:Bs) (ht:t.length≤400000) (z:Int) (hz:1≤z∧z≤8) :
  Calls Tryz.prog 140 #[.string ⟨t.toArray⟩,.int .i64 z,.pointer (some ⟨s+3,0,.none⟩),.pointer (some ⟨s+2,0,.none⟩)] w (LyP w s R t (pl - t.length - z)) := by
 obtain ⟨⟨hR,hpg⟩,hpp,hpc,hpf⟩ := h
 have hsz : (⟨t.toArray⟩ : ByteArray).size=t.length := by simp [ByteArray.size]
 have hb := andNot15 (pl - t.length - z) (by omega)
 by_cases hneg : pl - t.length - z<0
 ·have hq : (pl - t.length - z) / 16*16<0 := by omega
  obtain ⟨y,hy⟩ : ∃ y,y=(pl - t.length - z) / 16*16 := ⟨_,rfl⟩
  rw [← hy] at hb hq
  have HH : Hid (LyP w s R t (pl - t.length - z) (.returned (.bool false)) (w.setCell ⟨s+3,0,.none⟩ (.int .i64 y))) := by
   refine ⟨by simp; omega,?_,⟨(Below.refl _ _).setCell (by simp) _,by simp [World.setCell],fun k h1 h2 => Below.heap_setCell _ _ _ _ (fun e => h2 e)⟩⟩
   rw [← hy,if_neg (by omega)]
   exact ⟨⟨hR,hpg.setOther (by simp) _⟩,(World.cell?_setCell_other _ _ _ _ (by simp)).trans hpp,World.cell?_setCell_same' _ _ _ (by rw [hpc]; rfl),by rw [World.frozen?_setCell]; exact hpf⟩
  have HY : Hid (y=(pl - t.length - z) / 16*16) := hy
  clear hpg hy hsz hR
  go_enter Tryz.func140,Tryz.ntmps140
  go_wp2
  go_ret
  exact HH.out
 ·obtain ⟨m,hm⟩ : ∃ m : Nat,(pl - t.length - z) / 16*16=m := ⟨((pl - t.length - z) / 16*16).toNat,by omega⟩
  rw [hm] at hb
  have hm1 : m+t.length<4096 := by omega
  obtain ⟨w1,hw1⟩ : ∃ w1,w1=w.setCell ⟨s+3,0,.none⟩ (.int .i64 m) := ⟨_,rfl⟩
  have P1 : w1.rowIs (s+1) 5 4096 (fun i => .int .u8 (R i)) := by rw [hw1]; exact hpg.setOther (by simp) _
  have c2 : w1.cell? ⟨s+2,0,.none⟩=some (.slice (some ⟨s+1,0,.none⟩) 4096 4096) := by rw [hw1]; exact (World.cell?_setCell_other _ _ _ _ (by simp)).trans hpp
  have c3 : w1.cell? ⟨s+3,0,.none⟩=some (.int .i64 m) := by rw [hw1]; exact World.cell?_setCell_same' _ _ _ (by rw [hpc]; rfl)
  have c4 : w1.frozen? ⟨s+3,0,.none⟩=false := by rw [hw1,World.frozen?_setCell]; exact hpf
  have hcp := run_copy_string (P:=Tryz.prog) w1 24 9 3 5 (s+1) m (4096 - m) (4096 - m) ⟨t.toArray⟩ Tryz.underlying24 (fun w => by kernel_rfl) (by rw [hsz]; omega) (fun j hj => by rw [P1.cell (by rw [hsz] at hj; omega)]; rfl) (fun j _ => P1.frozen _)
  rw [hsz] at hcp
  have HH : Hid (LyP w s R t (pl - t.length - z) (.returned (.bool true)) (w1.setCells (s+1) m ((⟨t.toArray⟩ : ByteArray).data.toList.map fun x => Value.int .u8 (x.toNat:Int)))) := by
   refine ⟨by simp; omega,?_,⟨?_,?_,fun k h1 h2 => ?_⟩⟩
   ·rw [if_pos (by omega),hm,Int.toNat_natCast]
    refine ⟨⟨fun j => ?_,(rowIs_setCells _ _ _ _ P1).congr (fun j hj => ?_)⟩,?_,?_,?_⟩
    ·unfold layR
     split
     ·have := (t.getD (j - m) 0).toNat_lt
      omega
     ·exact hR j
    ·unfold layR
     simp only [List.length_map]
     by_cases e : m≤j∧j<m+t.length
     ·rw [if_pos e,if_pos (by simpa using e)]
      have hjl : j - m<t.length := by omega
      simp [List.getD_eq_getElem?_getD,hjl]
     ·rw [if_neg e,if_neg (by simpa using e)]
    ·rw [← c2]; exact cell_heap (setCells_other _ _ (by omega) _ _ _) _ _
    ·rw [← c3]; exact cell_heap (setCells_other _ _ (by omega) _ _ _) _ _
    ·rw [← c4]; exact frozen_heap (setCells_other _ _ (by omega) _ _ _) _ _
   ·exact Go.below_setCells (Nat.le_refl _) _ _ _ (hw1 ▸ (Below.refl _ _).setCell (by simp) _)
   ·rw [setCells_size,hw1]; simp [World.setCell]
   ·rw [setCells_other _ _ h1,hw1]; exact Below.heap_setCell _ _ _ _ (fun e => h2 e)
  have hm0 : (m:Int)<4096 := by omega
  obtain ⟨y,hy⟩ : ∃ y : Int,y=m := ⟨_,rfl⟩
  have hy0 : 0≤y := by omega
  have hcut := cut_from (some ⟨s+1,0,.none⟩) 4096 4096 y (w.setCell ⟨s+3,0,.none⟩ (.int .i64 y)) (by omega)
  have ey : y.toNat=m := by omega
  rw [ey] at hcut
  rw [← hy] at hb hm0 hw1
  have HM : Hid ((pl - t.length - z) / 16*16=m∧y=m) := ⟨hm,hy⟩
  clear ey hy
  clear hneg hpg hsz hm P1 c3 c4 hm1 hR
  subst hw1
  clear c2
  go_enter Tryz.func140,Tryz.ntmps140
  go_wp2
  go_ret
  exact HH.out
end
section
open Go.RowKit Go.Shelf
def stx (s:Int) (xs:List Bs) : Int := xs.foldl (fun s x => (s - x.length - 1) / 16*16) s
theorem stx_le : ∀ (xs:List Bs) (s:Int),stx s xs≤s
 | [],s => Int.le_refl _
 | x :: r,s => Int.le_trans (stx_le r ((s - x.length - 1) / 16*16)) (by omega)
theorem stx_next {xs:List Bs} {i:Nat} {x:Bs} (h:xs[i]? = some x) (s:Int) : stx s (xs.take (i+1))=(stx s (xs.take i) - x.length - 1) / 16*16 := by
 rw [List.take_add_one,h]
 simp [stx,List.foldl_append]
def rm (xs:List Bs) : Bool := decide (0≤stx 4096 xs - 8*(xs.length+1))
theorem rm_no {xs:List Bs} {i:Nat} (h:stx 4096 (xs.take i)<0) : rm xs=false := by
 have h1 : stx 4096 xs=stx (stx 4096 (xs.take i)) (xs.drop i) := by
  conv => lhs; rw [← List.take_append_drop i xs]
  simp only [stx,List.foldl_append]
 have h2 := stx_le (xs.drop i) (stx 4096 (xs.take i))
 simp only [rm,decide_eq_false_iff_not]
 omega
def StI (at_:Int) (xs:List Bs) (i:Nat) (R:Nat→Int) (bs:List Int) : Prop :=
 bs.length=8*i∧(∀ j : Nat,(j:Int)<stx 4096 (xs.take i)→R j=0) ∧
 ∀ k x,k<i→xs[k]? = some x → ∃ p : Nat,stx 4096 (xs.take (k+1))=(p:Int)∧stx 4096 (xs.take i)≤p∧p+x.length+1≤4096∧(∀ j y,x[j]? = some y→R (p+j)=(y.toNat:Int))∧R (p+x.length)=0 ∧ ∀ l,l<8→bs[8*k+l]? = some ((at_ + p) / 256 ^ l % 256)
theorem StI.zero (at_:Int) (xs:List Bs) : StI at_ xs 0 (fun _ => 0) [] := ⟨rfl,fun _ _ => rfl,fun k x h => by omega⟩
theorem StI.step {at_:Int} {xs:List Bs} {i:Nat} {R:Nat→Int} {bs:List Int} (h:StI at_ xs i R bs) {x:Bs} (hx:xs[i]? = some x) {y:Nat} (hy:stx 4096 (xs.take (i+1))=y) : StI at_ xs (i+1) (layR R y x) (bs ++ l8 (at_ + y) 8) := by
 have hn := stx_next hx 4096
 have hle := stx_le (xs.take i) 4096
 rw [hy] at hn
 obtain ⟨h1,h2,h3⟩ := h
 refine ⟨by rw [List.length_append,l8_len,h1]; omega,fun j hj => ?_,fun k z hk hz => ?_⟩
 ·rw [hy] at hj
  unfold layR
  rw [if_neg (by omega)]
  exact h2 j (by omega)
 ·rw [hy]
  by_cases hki : k=i
  ·subst hki
   rw [hx] at hz
   injection hz with hz
   subst hz
   refine ⟨y,hy,by omega,by omega,fun j u hu => ?_,?_,fun l hl => ?_⟩
   ·have hj := (List.getElem?_eq_some_iff.1 hu).1
    unfold layR
    rw [if_pos (by omega),show y+j - y=j by omega,List.getD_eq_getElem?_getD,hu]
    rfl
   ·unfold layR
    rw [if_neg (by omega)]
    exact h2 _ (by omega)
   ·rw [List.getElem?_append_right (by omega),h1,show 8*k+l - 8*k=l by omega]
    exact l8_get _ hl
  ·obtain ⟨p,p0,p1,p2,p3,p4,p5⟩ := h3 k z (by omega) hz
   refine ⟨p,p0,by omega,p2,fun j u hu => ?_,?_,fun l hl => ?_⟩
   ·unfold layR
    rw [if_neg (by omega)]
    exact p3 j u hu
   ·unfold layR
    rw [if_neg (by omega)]
    exact p4
   ·rw [List.getElem?_append_left (by omega)]
    exact p5 l hl
def StkR (at_:Int) (xs:List Bs) (R:Nat→Int) (sp:Nat) : Prop :=
 (∀ l,l<8→R (sp+8*xs.length+l)=0)∧sp+8*xs.length+8≤4096∧sp % 16=0 ∧
 ∀ k x,xs[k]? = some x → ∃ p : Nat,stx 4096 (xs.take (k+1))=(p:Int)∧sp+8*xs.length+8≤p∧p+x.length+1≤4096∧(∀ j y,x[j]? = some y→R (p+j)=(y.toNat:Int))∧R (p+x.length)=0 ∧ ∀ l,l<8→R (sp+8*k+l)=(at_ + p) / 256 ^ l % 256
theorem StI.done {at_:Int} {xs:List Bs} {R:Nat→Int} {bs:List Int} (h:StI at_ xs xs.length R bs) {t:Bs} (ht:t.map (fun u => (u.toNat:Int))=bs) {sp:Nat} (hs:(stx 4096 xs - 8*(xs.length+1)) / 16*16=(sp:Int)) : StkR at_ xs (layR R sp t) sp := by
 obtain ⟨h1,h2,h3⟩ := h
 have hle := stx_le xs 4096
 rw [List.take_length] at h2
 have htl : t.length=8*xs.length := by rw [← h1,← ht,List.length_map]
 have hb : ∀ j v,bs[j]? = some v→layR R sp t (sp+j)=v := fun j v hv => by
  have hj := (List.getElem?_eq_some_iff.1 hv).1
  rw [← ht,List.getElem?_map] at hv
  unfold layR
  rw [if_pos (by omega),show sp+j - sp=j by omega,List.getD_eq_getElem?_getD]
  cases hq : t[j]? with
  | none => rw [hq] at hv; cases hv
  | some u => rw [hq] at hv; injection hv
 refine ⟨fun l hl => ?_,by omega,by omega,fun k x hx => ?_⟩
 ·unfold layR
  rw [if_neg (by omega)]
  exact h2 _ (by omega)
 ·have hk := (List.getElem?_eq_some_iff.1 hx).1
  obtain ⟨p,p0,p1,p2,p3,p4,p5⟩ := h3 k x hk hx
  rw [List.take_length] at p1
  refine ⟨p,p0,by omega,p2,fun j u hu => ?_,?_,fun l hl => ?_⟩
  ·unfold layR
   rw [if_neg (by omega)]
   exact p3 j u hu
  ·unfold layR
   rw [if_neg (by omega)]
   exact p4
  ·rw [Nat.add_assoc]
   exact hb _ _ (p5 l hl)
structure Sk (w wr:World) (R:Nat→Int) (pl:Int) : Prop where
 pgs : Pgs wr w.heap.size R pl
 r0 : wr.cell? ⟨w.heap.size,0,.none⟩=some (.slice .none 0 0)
 r1 : wr.cell? ⟨w.heap.size,1,.none⟩=some (.int .u64 0)
 rf : ∀ k,wr.frozen? ⟨w.heap.size,k,.none⟩=false
 bel : Below w.heap.size w wr
 sz : w.heap.size+4≤wr.heap.size
theorem Pgs.above {w w':World} {s:Nat} {R:Nat→Int} {pl:Int} (h:Pgs w s R pl) (hb:Below (s+4) w w') : Pgs w' s R pl := by
 obtain ⟨⟨hR,h1⟩,h2,h3,h4⟩ := h
 exact ⟨⟨hR,h1.of_block (hb.block (s+1) (by omega))⟩,(hb.cell (p:=⟨s+2,0,.none⟩) (by show s+2<s+4; omega)).trans h2,(hb.cell (p:=⟨s+3,0,.none⟩) (by show s+3<s+4; omega)).trans h3,(frozen_heap (hb.block (s+3) (by omega)) _ _).trans h4⟩
theorem Sk.above {w a b:World} {R:Nat→Int} {pl:Int} (h:Sk w a R pl) (hb:Below (w.heap.size+4) a b) : Sk w b R pl :=
 ⟨h.pgs.above hb,(hb.cell (p:=⟨w.heap.size,0,.none⟩) (by show w.heap.size < _; omega)).trans h.r0,(hb.cell (p:=⟨w.heap.size,1,.none⟩) (by show w.heap.size < _; omega)).trans h.r1,fun k => (frozen_heap (hb.block w.heap.size (by omega)) _ _).trans (h.rf k),h.bel.trans (hb.mono (by omega)),Nat.le_trans h.sz hb.size⟩
theorem Sk.laid {w a b:World} {R R':Nat→Int} {pl pl':Int} (h:Sk w a R pl) (hp:Pgs b w.heap.size R' pl') (hl:Lyd w.heap.size a b) : Sk w b R' pl' :=
 ⟨hp,(cell_heap (hl.oth _ (by omega) (by omega)) _ _).trans h.r0,(cell_heap (hl.oth _ (by omega) (by omega)) _ _).trans h.r1,fun k => (frozen_heap (hl.oth _ (by omega) (by omega)) _ _).trans (h.rf k),h.bel.trans (hl.bel.mono (by omega)),by rw [hl.sz]; exact h.sz⟩
theorem conv_own {w:World} {base n c:Nat} {q:Option Addr} {bs:List Int} (h:w.ownsRow base 5 1 (.slice q n c) n (by8 bs)) (hU:U8 bs) : ∃ t : Bs,t.length=n∧(convert 24 9 (.slice q n c)).run Tryz.prog w = .ok (.string ⟨t.toArray⟩) w∧t.map (fun u => (u.toNat:Int))=bs := by
 have hl : bs.length=n := by have := h.1; rw [by8_len] at this; omega
 have hB := byt_own h
 obtain ⟨_,k2,k3,k4⟩ := hB
 have hst : (strOfNums bs).data.toList.map (fun u => (u.toNat:Int))=bs := by
  unfold strOfNums
  rw [List.toList_toArray,List.map_map]
  refine (List.map_congr_left fun v hv => ?_).trans (List.map_id _)
  have := hU v hv
  simp only [Function.comp,id]
  rw [show v.toNat.toUInt8.toNat=v.toNat % 256 from rfl]
  omega
 have key : ∃ y : ByteArray,y.size=n∧(convert 24 9 (.slice q n c)).run Tryz.prog w = .ok (.string y) w∧y.data.toList.map (fun u => (u.toNat:Int))=bs := by
  rcases k4 with k4 | ⟨b,o,rfl,k5,k6⟩
  ·cases q with
   | none => exact ⟨ByteArray.empty,by rw [k4]; rfl,run_convert_bytes_nil w 24 5 Tryz.underlying24 Tryz.underlying5 n c 9 Tryz.underlying9,(List.eq_nil_of_length_eq_zero (by omega:bs.length=0)) ▸ rfl⟩
   | some a =>
    obtain ⟨ab,ao,ap⟩ := a
    obtain ⟨g,hg⟩ : ∃ g,(⟨ab,ao,ap⟩ : Addr)=⟨g,0,.none⟩ := by
     rcases h.2 with ⟨hv,_⟩ | ⟨g,cap,cur,hv,_⟩
     ·cases hv
     ·simp only [Value.slice.injEq,Option.some.injEq] at hv
      exact ⟨g,hv.1⟩
    rw [hg]
    exact ⟨strOfNums bs,by simp [strOfNums,ByteArray.size,hl],run_convert_bytes_arg w 24 5 Tryz.underlying24 Tryz.underlying5 g 0 n c bs hl (fun i hi => by omega) 9 Tryz.underlying9,hst⟩
  ·exact ⟨strOfNums bs,by simp [strOfNums,ByteArray.size,hl],run_convert_bytes_arg w 24 5 Tryz.underlying24 Tryz.underlying5 b o n c bs hl (fun i hi => by
    rw [List.getD_eq_getElem?_getD,List.getElem?_eq_getElem (by omega)]
    exact k6 i _ (List.getElem?_eq_getElem (by omega))) 9 Tryz.underlying9,hst⟩
 obtain ⟨y,hy,hr,hm⟩ := key
 exact ⟨y.data.toList,by simpa using hy,hr,hm⟩
theorem info5 : (Tryz.prog.info? 5).map (fun i => (i.zero,i.size,i.bytes))=some (some (.int .u8 0),1,1) := by kernel_rfl
theorem page_new (w:World) : ∃ w2,(Instr.makeSlice 24 (.int .i64 4096) (.int .i64 4096)).run Tryz.prog (w.alloc (.cells #[.slice .none 0 0,.int .u64 0] 90)) = .ok (.slice (some ⟨w.heap.size+1,0,.none⟩) 4096 4096) w2∧w2.heap.size=w.heap.size+2 ∧
  Hid (Sk w ((w2.alloc (.cells #[.slice (some ⟨w.heap.size+1,0,.none⟩) 4096 4096] 24)).alloc (.cells #[.int .i64 4096] 3)) (fun _ => 0) 4096) := by
 have h := run_make_row' (P:=Tryz.prog) 24 5 (.int .u8 0) 1 Tryz.underlying24 info5 rfl .i64 .i64 4096 (by decide) (by decide) (w.alloc (.cells #[.slice .none 0 0,.int .u64 0] 90))
 have hr := World.rowIs_made (w.alloc (.cells #[.slice .none 0 0,.int .u64 0] 90)) (.int .u8 0) 4096 5
 generalize madeCells #[.int .u8 0] 4096=Z at h hr
 refine ⟨(w.alloc (.cells #[.slice .none 0 0,.int .u64 0] 90)).alloc (.cells Z 5),?_,?_,?_⟩
 ·rw [World.size_alloc] at h
  exact h
 ·simp
 ·rw [World.size_alloc] at hr
  obtain ⟨A,hA⟩ : ∃ A,A=w.alloc (.cells #[.slice .none 0 0,.int .u64 0] 90) := ⟨_,rfl⟩
  have a0 : A.cell? ⟨w.heap.size,0,.none⟩=some (.slice .none 0 0) := by rw [hA]; simp
  have a1 : A.cell? ⟨w.heap.size,1,.none⟩=some (.int .u64 0) := by rw [hA]; simp
  have af : ∀ k,A.frozen? ⟨w.heap.size,k,.none⟩=false := fun k => by rw [hA]; exact World.frozen?_alloc_new _ _ _ _
  have az : A.heap.size=w.heap.size+1 := by rw [hA]; simp
  have aw : Below w.heap.size w A := by rw [hA]; exact (Below.refl _ _).alloc (Nat.le_refl _) _
  rw [← hA] at hr ⊢
  obtain ⟨B,hB⟩ : ∃ B,B=A.alloc (.cells Z 5) := ⟨_,rfl⟩
  have bz : B.heap.size=w.heap.size+2 := by rw [hB]; simp [az]
  have ab : Below A.heap.size A B := by rw [hB]; exact (Below.refl _ _).alloc (Nat.le_refl _) _
  rw [← hB] at hr ⊢
  obtain ⟨C,hC⟩ : ∃ C,C=B.alloc (.cells #[.slice (some ⟨w.heap.size+1,0,.none⟩) 4096 4096] 24) := ⟨_,rfl⟩
  have cz : C.heap.size=w.heap.size+3 := by rw [hC]; simp [bz]
  have bc : Below B.heap.size B C := by rw [hC]; exact (Below.refl _ _).alloc (Nat.le_refl _) _
  have c0 : C.cell? ⟨w.heap.size+2,0,.none⟩=some (.slice (some ⟨w.heap.size+1,0,.none⟩) 4096 4096) := by rw [← bz,hC]; simp
  have hr2 := hr.alloc (.cells #[.slice (some ⟨w.heap.size+1,0,.none⟩) 4096 4096] 24)
  rw [← hC] at hr2 ⊢
  have cd : Below C.heap.size C (C.alloc (.cells #[.int .i64 4096] 3)) := (Below.refl _ _).alloc (Nat.le_refl _) _
  have bd := bc.trans (cd.mono (by omega))
  have ad := ab.trans (bd.mono (by omega))
  refine ⟨⟨⟨fun _ => by show (0:Int)≤0∧(0:Int)<256; omega,hr2.alloc _⟩,?_,?_,?_⟩,?_,?_,?_,?_,?_⟩
  ·exact (cd.cell (p:=⟨w.heap.size+2,0,.none⟩) (by show w.heap.size+2 < _; omega)).trans c0
  ·rw [← cz]; simp
  ·rw [← cz]; exact World.frozen?_alloc_new _ _ _ _
  ·exact (ad.cell (p:=⟨w.heap.size,0,.none⟩) (by show w.heap.size < _; omega)).trans a0
  ·exact (ad.cell (p:=⟨w.heap.size,1,.none⟩) (by show w.heap.size < _; omega)).trans a1
  ·exact fun k => (frozen_heap (ad.block w.heap.size (by omega)) _ _).trans (af k)
  ·exact aw.trans (ad.mono (by omega))
  ·simp [cz]
end
end Go.Proofs.YtabnipbdbnmmpaaGreatDoor
