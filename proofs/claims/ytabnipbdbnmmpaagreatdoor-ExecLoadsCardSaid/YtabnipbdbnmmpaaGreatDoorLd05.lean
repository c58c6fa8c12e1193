import Derived.Test.YtabnipbdbnmmpaaGreatDoorLd01
import Derived.Test.YtabnipbdbnmmpaaGreatDoorLd04
import Derived.Laws.Cover3
import Derived.Deep.QuietTactic
import Derived.BigQuiet
import Derived.Deep.RegionLaw
import Derived.Deep.Cut
import Derived.Laws.MakeOwn
set_option linter.unusedVariables false
set_option linter.unusedSimpArgs false
set_option maxHeartbeats 8000000
namespace Go.Proofs.YtabnipbdbnmmpaaGreatDoor
namespace Rm
open Go.RowKit
set_option maxRecDepth 100000 in
theorem len8 (w:World):Calls Tryz.prog 132 #[.int .u64 255] w fun e w'=>e = .returned (.int .i64 8)∧w'=w:=by
 go_enter Tryz.func132,Tryz.ntmps132
 go_wp2
 go_ret
 exact⟨by kernel_rfl,rfl⟩
set_option maxRecDepth 100000 in
theorem len16 (w:World):Calls Tryz.prog 132 #[.int .u64 65535] w fun e w'=>e = .returned (.int .i64 16)∧w'=w:=by
 go_enter Tryz.func132,Tryz.ntmps132
 go_wp2
 go_ret
 exact⟨by kernel_rfl,rfl⟩
set_option maxRecDepth 100000 in
theorem len32 (w:World):Calls Tryz.prog 132 #[.int .u64 4294967295] w fun e w'=>e = .returned (.int .i64 32)∧w'=w:=by
 go_enter Tryz.func132,Tryz.ntmps132
 go_wp2
 go_ret
 exact⟨by kernel_rfl,rfl⟩
set_option maxRecDepth 100000 in
theorem len64 (w:World):Calls Tryz.prog 132 #[.int .u64 18446744073709551615] w fun e w'=>e = .returned (.int .i64 64)∧w'=w:=by
 go_enter Tryz.func132,Tryz.ntmps132
 go_wp2
 go_ret
 exact⟨by kernel_rfl,rfl⟩
def num (B:Nat->Int) (o:Nat):Nat->Int
 |0=>0
 |k+1=>num B o k+256 ^ k*B (o+k)
theorem num_bd (B:Nat->Int) (hB:∀ i,0<=B i∧B i<256) (o k:Nat):0<=num B o k∧num B o k<256 ^ k:=by
 induction k with
 |zero=>simp[num]
 |succ k ih=>
  have h:=hB (o+k)
  have hp:(0:Int)<256 ^ k:=Int.pow_pos (by decide)
  have h1:(256:Int) ^ k*B (o+k)<=256 ^ k*255:=Int.mul_le_mul_of_nonneg_left (by omega) (by omega)
  have h2:0<=(256:Int) ^ k*B (o+k):=Int.mul_nonneg (by omega) h.1
  rw[Int.pow_succ]
  simp only[num]
  omega
def le (v:Int) (k:Nat):List Int:=(List.range k).map fun i=>v/256 ^ i%256
theorem le_succ (v:Int) (n:Nat):le v (n+1)=le v n ++ [v/256 ^ n%256]:=by simp[le,List.range_succ]
theorem le_len (v:Int) (n:Nat):(le v n).length=n:=by simp[le]
theorem le_bd (v:Int) (n:Nat):∀ x∈le v n,0<=x∧x<256:=by
 intro x hx
 simp only[le,List.mem_map] at hx
 obtain⟨i,_,rfl⟩:=hx
 omega
theorem setCells_snoc (g:Nat) (v:Value):∀ (vs:List Value) (o:Nat) (w:World),(w.setCells g o vs).setCell ⟨g,o+vs.length,.none⟩ v=w.setCells g o (vs ++ [v])
 |[],o,w=>rfl
 |u :: vs,o,w=>by
  have ih:=setCells_snoc g v vs (o+1) (w.setCell ⟨g,o,.none⟩ u)
  simp only[World.setCells,List.cons_append,List.length_cons]
  rw[<-ih]
  congr 2
  omega
theorem le_step (w:World) (b o:Nat) (v:Int) (n:Nat):(w.setCells b o ((le v n).map (.int .u8))).setCell ⟨b,o+n,.none⟩ (.int .u8 (v/256 ^ n%256))=w.setCells b o ((le v (n+1)).map (.int .u8)):=by
 have h:=setCells_snoc b (.int .u8 (v/256 ^ n%256)) ((le v n).map (.int .u8)) o w
 rw[List.length_map,le_len] at h
 rw[h,le_succ,List.map_append]
 rfl
theorem le_cell (w:World) (b o:Nat) (v:Int) (n i:Nat) (hi:n<=i):(w.setCells b o ((le v n).map (.int .u8))).cell? ⟨b,o+i,.none⟩=w.cell? ⟨b,o+i,.none⟩:=
 World.cell?_setCells_out b _ o w _ (fun _ _=>.inr (by rw[List.length_map,le_len];show o+n<=o+i;omega))
theorem mod_step (v:Int) (n:Nat):v%256 ^ (n+1)=v%256 ^ n+256 ^ n*(v/256 ^ n%256):=by
 have h:(256:Int) ^ n≠0:=Int.ne_of_gt (Int.pow_pos (by decide))
 rw[Int.pow_succ,Int.emod_def v (256 ^ n*256),Int.emod_def v (256 ^ n),Int.emod_def (v/256 ^ n) 256,<-Int.ediv_ediv_of_nonneg (Int.le_of_lt (Int.pow_pos (by decide))),Int.mul_sub,Int.mul_assoc]
 omega
def md (v:Int) (n:Nat):Int:=v%256 ^ n
theorem md_bd (v:Int) (n:Nat):0<=md v n∧md v n<256 ^ n:=⟨Int.emod_nonneg _ (Int.ne_of_gt (Int.pow_pos (by decide))),Int.emod_lt_of_pos _ (Int.pow_pos (by decide))⟩
theorem md_zero (v:Int):md v 0=0:=by simp[md,Int.emod_one]
theorem le_stepC (w0 wr:World) (b o:Nat) (v:Int) (n:Nat) (C:Int) (hC:C=256 ^ n) (hw:wr=w0.setCells b o ((le v n).map (.int .u8))):wr.setCell ⟨b,o+n,.none⟩ (.int .u8 (v/C%256))=w0.setCells b o ((le v (n+1)).map (.int .u8)):=by
 subst hC hw
 exact le_step w0 b o v n
theorem le_step0 (w0 wr:World) (b o:Nat) (v:Int) (hw:wr=w0.setCells b o ((le v 0).map (.int .u8))):wr.setCell ⟨b,o,.none⟩ (.int .u8 (v%256))=w0.setCells b o ((le v 1).map (.int .u8)):=by
 have:=le_stepC w0 wr b o v 0 1 rfl hw
 rw[Int.ediv_one] at this
 exact this
theorem md_step (v:Int) (n:Nat):md v (n+1)=md v n+v/256 ^ n%256*256 ^ n:=by
 unfold md
 rw[mod_step,Int.mul_comm (256 ^ n) (v/256 ^ n%256)]
theorem wraps_u8 (n:Int) (h₀:0<=n) (h₁:n<2 ^ 8):IntKind.u8.wrap n=n:=by rw[IntKind.wrap_u8];omega
theorem or_u8 (i:Nat) (x y z:Int) (hx:0<=x) (hxi:x<2 ^ i) (hy:0<=y) (hyi:y%2 ^ i=0) (hy1:y<256) (hz:x+y=z) (hx1:x<256):bits .or .u8 x y=z:=by
 have e:bits .or .u8 x y=bits .or .u8 y x:=by simp only[bits];rw[BitVec.or_comm]
 rw[e,bits_join .u8 8 (by decide) wraps_u8 i y x hy hyi (by omega) hx hxi (by omega)]
 omega
theorem orw_u8_0 (v:Int):bits .or .u8 (md v 0) (v%256)=md v 1:=by
 have h:=md_step v 0
 have hb:=md_bd v 0
 exact or_u8 0 _ _ _ hb.1 (by omega) (by omega) (by omega) (by omega) (by rw[h];simp) (by omega)
theorem orr_u8_0 (B:Nat->Int) (o:Nat) (hB:∀ i,0<=B i∧B i<256):bits .or .u8 (num B o 0) (B (o))=num B o 1:=by
 have hx:=hB (o)
 have hb:=num_bd B hB o 0
 exact or_u8 0 _ _ _ hb.1 (by omega) (by omega) (by omega) (by omega) (by simp[num];try omega) (by omega)
theorem number8_read (b o len cap:Nat) (B:Nat->Int) (v:Int) (w:World) (hl:1<=len) (hB:∀ i,0<=B i∧B i<256) (hc:∀ i,i<1->w.cell? ⟨b,o+i,.none⟩=some (.int .u8 (B (o+i)))) :
  Calls Tryz.prog 209 #[.slice (some ⟨b,o,.none⟩) len cap,.bool false,.int .u64 v] w fun e w'=>e = .returned (.int .u64 (num B o 1))∧w'=w:=by
 have c:=len8
 have hs:IntKind.u8.signed=false:=rfl
 go_enter Tryz.func209,Tryz.ntmps209
 go_wp2_with (go_at_call 132;refine(c _).mono ?_;rintro e w0 ⟨rfl,rfl⟩)
 clear c
 go_loopw [14,7] (fun k s wr=>∃ n:Nat,n<=1∧k = .int .i64 n∧s = .int .u8 (num B o n)∧wr=w0) (fun k _ _=>1-(intOf k).toNat)
 case atStart=>exact⟨0,by omega,rfl,rfl,rfl⟩
 case round=>
  obtain⟨n,hn,rfl,rfl,rfl⟩:=hrel
  have hN:n=0∨n=1:=by omega
  rcases hN with rfl|rfl
  ·have h1:wr.cell? ⟨b,o,.none⟩=some (.int .u8 (B (o))):=hc 0 (by omega)
   have hx:=hB (o)
   have HO:Hid (bits .or .u8 (num B o 0) _=num B o 1):=orr_u8_0 B o hB
   go_wp2
   exact⟨⟨1,by omega,rfl,congrArg _ HO.out,trivial⟩,by simp[intOf]⟩
  ·have hb:=num_bd B hB o 1
   have hb1:0<=num B o 1:=hb.1
   have hb2:num B o 1<256:=hb.2
   go_wp2
   go_ret
   exact⟨rfl,rfl⟩
theorem number8_write (b o len cap:Nat) (v:Int) (w:World) (hl:1<=len) (hc:∀ i,i<1->(w.cell? ⟨b,o+i,.none⟩).isSome=true) (hf:∀ i,i<1->w.frozen? ⟨b,o+i,.none⟩=false) (hv:0<=v∧v<18446744073709551616) :
  Calls Tryz.prog 209 #[.slice (some ⟨b,o,.none⟩) len cap,.bool true,.int .u64 v] w fun e w'=>e = .returned (.int .u64 (md v 1))∧w'=w.setCells b o ((le v 1).map (.int .u8)):=by
 have c:=len8
 have hs:IntKind.u8.signed=false:=rfl
 go_enter Tryz.func209,Tryz.ntmps209
 go_wp2_with (go_at_call 132;refine(c _).mono ?_;rintro e w0 ⟨rfl,rfl⟩)
 clear c
 go_loopw [14,7] (fun k s wr=>∃ n:Nat,n<=1∧k = .int .i64 n∧s = .int .u8 (md v n)∧wr=w0.setCells b o ((le v n).map (.int .u8))) (fun k _ _=>1-(intOf k).toNat)
 case atStart=>exact⟨0,by omega,rfl,by rw[md_zero],rfl⟩
 case round=>
  obtain⟨n,hn,rfl,rfl,hw⟩:=hrel
  have hN:n=0∨n=1:=by omega
  rcases hN with rfl|rfl
  ·obtain⟨u,h0⟩:=Option.isSome_iff_exists.1 (hc 0 (by omega))
   have h1:wr.cell? ⟨b,o,.none⟩=some u:=by rw[hw];exact(le_cell w0 b o v 0 0 zL).trans h0
   have h2:wr.frozen? ⟨b,o,.none⟩=false:=by rw[hw,World.frozen?_setCells];exact hf 0 (by omega)
   have HW:Hid (wr=w0.setCells b o ((le v 0).map (.int .u8))):=hw
   clear hw h0 hc hf
   have HO:Hid (bits .or .u8 (md v 0) _=md v 1):=orw_u8_0 v
   go_wp2
   exact⟨⟨1,by omega,rfl,congrArg _ HO.out,le_step0 w0 wr b o v HW.out⟩,by simp[intOf]⟩
  ·have hb:=md_bd v 1
   have hb1:0<=md v 1:=hb.1
   have hb2:md v 1<256:=hb.2
   have HW:Hid (wr=w0.setCells b o ((le v 1).map (.int .u8))):=hw
   clear hw
   go_wp2
   go_ret
   exact⟨rfl,HW.out⟩
theorem wraps_u16 (n:Int) (h₀:0<=n) (h₁:n<2 ^ 16):IntKind.u16.wrap n=n:=by rw[IntKind.wrap_u16];omega
theorem or_u16 (i:Nat) (x y z:Int) (hx:0<=x) (hxi:x<2 ^ i) (hy:0<=y) (hyi:y%2 ^ i=0) (hy1:y<65536) (hz:x+y=z) (hx1:x<65536):bits .or .u16 x y=z:=by
 have e:bits .or .u16 x y=bits .or .u16 y x:=by simp only[bits];rw[BitVec.or_comm]
 rw[e,bits_join .u16 16 (by decide) wraps_u16 i y x hy hyi (by omega) hx hxi (by omega)]
 omega
theorem orw_u16_0 (v:Int):bits .or .u16 (md v 0) (v%256)=md v 1:=by
 have h:=md_step v 0
 have hb:=md_bd v 0
 exact or_u16 0 _ _ _ hb.1 (by omega) (by omega) (by omega) (by omega) (by rw[h];simp) (by omega)
theorem orr_u16_0 (B:Nat->Int) (o:Nat) (hB:∀ i,0<=B i∧B i<256):bits .or .u16 (num B o 0) (B (o))=num B o 1:=by
 have hx:=hB (o)
 have hb:=num_bd B hB o 0
 exact or_u16 0 _ _ _ hb.1 (by omega) (by omega) (by omega) (by omega) (by simp[num];try omega) (by omega)
theorem orw_u16_1 (v:Int):bits .or .u16 (md v 1) (v/256%256*256)=md v 2:=by
 have h:=md_step v 1
 have hb:=md_bd v 1
 exact or_u16 8 _ _ _ hb.1 (by omega) (by omega) (by omega) (by omega) (by rw[h];rfl) (by omega)
theorem orr_u16_1 (B:Nat->Int) (o:Nat) (hB:∀ i,0<=B i∧B i<256):bits .or .u16 (num B o 1) (B (o+1)*256)=num B o 2:=by
 have hx:=hB (o+1)
 have hb:=num_bd B hB o 1
 exact or_u16 8 _ _ _ hb.1 (by omega) (by omega) (by omega) (by omega) (by simp[num];try omega) (by omega)
theorem number16_read (b o len cap:Nat) (B:Nat->Int) (v:Int) (w:World) (hl:2<=len) (hB:∀ i,0<=B i∧B i<256) (hc:∀ i,i<2->w.cell? ⟨b,o+i,.none⟩=some (.int .u8 (B (o+i)))) :
  Calls Tryz.prog 210 #[.slice (some ⟨b,o,.none⟩) len cap,.bool false,.int .u64 v] w fun e w'=>e = .returned (.int .u64 (num B o 2))∧w'=w:=by
 have c:=len16
 have hs:IntKind.u16.signed=false:=rfl
 go_enter Tryz.func210,Tryz.ntmps210
 go_wp2_with (go_at_call 132;refine(c _).mono ?_;rintro e w0 ⟨rfl,rfl⟩)
 clear c
 go_loopw [14,7] (fun k s wr=>∃ n:Nat,n<=2∧k = .int .i64 n∧s = .int .u16 (num B o n)∧wr=w0) (fun k _ _=>2-(intOf k).toNat)
 case atStart=>exact⟨0,by omega,rfl,rfl,rfl⟩
 case round=>
  obtain⟨n,hn,rfl,rfl,rfl⟩:=hrel
  have hN:n=0∨n=1∨n=2:=by omega
  rcases hN with rfl|rfl|rfl
  ·have h1:wr.cell? ⟨b,o,.none⟩=some (.int .u8 (B (o))):=hc 0 (by omega)
   have hx:=hB (o)
   have HO:Hid (bits .or .u16 (num B o 0) _=num B o 1):=orr_u16_0 B o hB
   go_wp2
   exact⟨⟨1,by omega,rfl,congrArg _ HO.out,trivial⟩,by simp[intOf]⟩
  ·have h1:wr.cell? ⟨b,o+1,.none⟩=some (.int .u8 (B (o+1))):=hc 1 (by omega)
   have hx:=hB (o+1)
   have HO:Hid (bits .or .u16 (num B o 1) _=num B o 2):=orr_u16_1 B o hB
   go_wp2
   exact⟨⟨2,by omega,rfl,congrArg _ HO.out,trivial⟩,by simp[intOf]⟩
  ·have hb:=num_bd B hB o 2
   have hb1:0<=num B o 2:=hb.1
   have hb2:num B o 2<65536:=hb.2
   go_wp2
   go_ret
   exact⟨rfl,rfl⟩
theorem number16_write (b o len cap:Nat) (v:Int) (w:World) (hl:2<=len) (hc:∀ i,i<2->(w.cell? ⟨b,o+i,.none⟩).isSome=true) (hf:∀ i,i<2->w.frozen? ⟨b,o+i,.none⟩=false) (hv:0<=v∧v<18446744073709551616) :
  Calls Tryz.prog 210 #[.slice (some ⟨b,o,.none⟩) len cap,.bool true,.int .u64 v] w fun e w'=>e = .returned (.int .u64 (md v 2))∧w'=w.setCells b o ((le v 2).map (.int .u8)):=by
 have c:=len16
 have hs:IntKind.u16.signed=false:=rfl
 go_enter Tryz.func210,Tryz.ntmps210
 go_wp2_with (go_at_call 132;refine(c _).mono ?_;rintro e w0 ⟨rfl,rfl⟩)
 clear c
 go_loopw [14,7] (fun k s wr=>∃ n:Nat,n<=2∧k = .int .i64 n∧s = .int .u16 (md v n)∧wr=w0.setCells b o ((le v n).map (.int .u8))) (fun k _ _=>2-(intOf k).toNat)
 case atStart=>exact⟨0,by omega,rfl,by rw[md_zero],rfl⟩
 case round=>
  obtain⟨n,hn,rfl,rfl,hw⟩:=hrel
  have hN:n=0∨n=1∨n=2:=by omega
  rcases hN with rfl|rfl|rfl
  ·obtain⟨u,h0⟩:=Option.isSome_iff_exists.1 (hc 0 (by omega))
   have h1:wr.cell? ⟨b,o,.none⟩=some u:=by rw[hw];exact(le_cell w0 b o v 0 0 zL).trans h0
   have h2:wr.frozen? ⟨b,o,.none⟩=false:=by rw[hw,World.frozen?_setCells];exact hf 0 (by omega)
   have HW:Hid (wr=w0.setCells b o ((le v 0).map (.int .u8))):=hw
   clear hw h0 hc hf
   have HO:Hid (bits .or .u16 (md v 0) _=md v 1):=orw_u16_0 v
   go_wp2
   exact⟨⟨1,by omega,rfl,congrArg _ HO.out,le_step0 w0 wr b o v HW.out⟩,by simp[intOf]⟩
  ·obtain⟨u,h0⟩:=Option.isSome_iff_exists.1 (hc 1 (by omega))
   have h1:wr.cell? ⟨b,o+1,.none⟩=some u:=by rw[hw];exact(le_cell w0 b o v 1 1 zL).trans h0
   have h2:wr.frozen? ⟨b,o+1,.none⟩=false:=by rw[hw,World.frozen?_setCells];exact hf 1 (by omega)
   have HW:Hid (wr=w0.setCells b o ((le v 1).map (.int .u8))):=hw
   clear hw h0 hc hf
   have HO:Hid (bits .or .u16 (md v 1) _=md v 2):=orw_u16_1 v
   go_wp2
   exact⟨⟨2,by omega,rfl,congrArg _ HO.out,le_stepC w0 wr b o v 1 256 (by decide) HW.out⟩,by simp[intOf]⟩
  ·have hb:=md_bd v 2
   have hb1:0<=md v 2:=hb.1
   have hb2:md v 2<65536:=hb.2
   have HW:Hid (wr=w0.setCells b o ((le v 2).map (.int .u8))):=hw
   clear hw
   go_wp2
   go_ret
   exact⟨rfl,HW.out⟩
theorem wraps_u32 (n:Int) (h₀:0<=n) (h₁:n<2 ^ 32):IntKind.u32.wrap n=n:=by rw[IntKind.wrap_u32];omega
theorem or_u32 (i:Nat) (x y z:Int) (hx:0<=x) (hxi:x<2 ^ i) (hy:0<=y) (hyi:y%2 ^ i=0) (hy1:y<4294967296) (hz:x+y=z) (hx1:x<4294967296):bits .or .u32 x y=z:=by
 have e:bits .or .u32 x y=bits .or .u32 y x:=by simp only[bits];rw[BitVec.or_comm]
 rw[e,bits_join .u32 32 (by decide) wraps_u32 i y x hy hyi (by omega) hx hxi (by omega)]
 omega
theorem orw_u32_0 (v:Int):bits .or .u32 (md v 0) (v%256)=md v 1:=by
 have h:=md_step v 0
 have hb:=md_bd v 0
 exact or_u32 0 _ _ _ hb.1 (by omega) (by omega) (by omega) (by omega) (by rw[h];simp) (by omega)
theorem orr_u32_0 (B:Nat->Int) (o:Nat) (hB:∀ i,0<=B i∧B i<256):bits .or .u32 (num B o 0) (B (o))=num B o 1:=by
 have hx:=hB (o)
 have hb:=num_bd B hB o 0
 exact or_u32 0 _ _ _ hb.1 (by omega) (by omega) (by omega) (by omega) (by simp[num];try omega) (by omega)
theorem orw_u32_1 (v:Int):bits .or .u32 (md v 1) (v/256%256*256)=md v 2:=by
 have h:=md_step v 1
 have hb:=md_bd v 1
 exact or_u32 8 _ _ _ hb.1 (by omega) (by omega) (by omega) (by omega) (by rw[h];rfl) (by omega)
theorem orr_u32_1 (B:Nat->Int) (o:Nat) (hB:∀ i,0<=B i∧B i<256):bits .or .u32 (num B o 1) (B (o+1)*256)=num B o 2:=by
 have hx:=hB (o+1)
 have hb:=num_bd B hB o 1
 exact or_u32 8 _ _ _ hb.1 (by omega) (by omega) (by omega) (by omega) (by simp[num];try omega) (by omega)
theorem orw_u32_2 (v:Int):bits .or .u32 (md v 2) (v/65536%256*65536)=md v 3:=by
 have h:=md_step v 2
 have hb:=md_bd v 2
 exact or_u32 16 _ _ _ hb.1 (by omega) (by omega) (by omega) (by omega) (by rw[h];rfl) (by omega)
theorem orr_u32_2 (B:Nat->Int) (o:Nat) (hB:∀ i,0<=B i∧B i<256):bits .or .u32 (num B o 2) (B (o+2)*65536)=num B o 3:=by
 have hx:=hB (o+2)
 have hb:=num_bd B hB o 2
 exact or_u32 16 _ _ _ hb.1 (by omega) (by omega) (by omega) (by omega) (by simp[num];try omega) (by omega)
theorem orw_u32_3 (v:Int):bits .or .u32 (md v 3) (v/16777216%256*16777216)=md v 4:=by
 have h:=md_step v 3
 have hb:=md_bd v 3
 exact or_u32 24 _ _ _ hb.1 (by omega) (by omega) (by omega) (by omega) (by rw[h];rfl) (by omega)
theorem orr_u32_3 (B:Nat->Int) (o:Nat) (hB:∀ i,0<=B i∧B i<256):bits .or .u32 (num B o 3) (B (o+3)*16777216)=num B o 4:=by
 have hx:=hB (o+3)
 have hb:=num_bd B hB o 3
 exact or_u32 24 _ _ _ hb.1 (by omega) (by omega) (by omega) (by omega) (by simp[num];try omega) (by omega)
theorem number32_read (b o len cap:Nat) (B:Nat->Int) (v:Int) (w:World) (hl:4<=len) (hB:∀ i,0<=B i∧B i<256) (hc:∀ i,i<4->w.cell? ⟨b,o+i,.none⟩=some (.int .u8 (B (o+i)))) :
  Calls Tryz.prog 75 #[.slice (some ⟨b,o,.none⟩) len cap,.bool false,.int .u64 v] w fun e w'=>e = .returned (.int .u64 (num B o 4))∧w'=w:=by
 have c:=len32
 have hs:IntKind.u32.signed=false:=rfl
 go_enter Tryz.func75,Tryz.ntmps75
 go_wp2_with (go_at_call 132;refine(c _).mono ?_;rintro e w0 ⟨rfl,rfl⟩)
 clear c
 go_loopw [14,7] (fun k s wr=>∃ n:Nat,n<=4∧k = .int .i64 n∧s = .int .u32 (num B o n)∧wr=w0) (fun k _ _=>4-(intOf k).toNat)
 case atStart=>exact⟨0,by omega,rfl,rfl,rfl⟩
 case round=>
  obtain⟨n,hn,rfl,rfl,rfl⟩:=hrel
  have hN:n=0∨n=1∨n=2∨n=3∨n=4:=by omega
  rcases hN with rfl|rfl|rfl|rfl|rfl
  ·have h1:wr.cell? ⟨b,o,.none⟩=some (.int .u8 (B (o))):=hc 0 (by omega)
   have hx:=hB (o)
   have HO:Hid (bits .or .u32 (num B o 0) _=num B o 1):=orr_u32_0 B o hB
   go_wp2
   exact⟨⟨1,by omega,rfl,congrArg _ HO.out,trivial⟩,by simp[intOf]⟩
  ·have h1:wr.cell? ⟨b,o+1,.none⟩=some (.int .u8 (B (o+1))):=hc 1 (by omega)
   have hx:=hB (o+1)
   have HO:Hid (bits .or .u32 (num B o 1) _=num B o 2):=orr_u32_1 B o hB
   go_wp2
   exact⟨⟨2,by omega,rfl,congrArg _ HO.out,trivial⟩,by simp[intOf]⟩
  ·have h1:wr.cell? ⟨b,o+2,.none⟩=some (.int .u8 (B (o+2))):=hc 2 (by omega)
   have hx:=hB (o+2)
   have HO:Hid (bits .or .u32 (num B o 2) _=num B o 3):=orr_u32_2 B o hB
   go_wp2
   exact⟨⟨3,by omega,rfl,congrArg _ HO.out,trivial⟩,by simp[intOf]⟩
  ·have h1:wr.cell? ⟨b,o+3,.none⟩=some (.int .u8 (B (o+3))):=hc 3 (by omega)
   have hx:=hB (o+3)
   have HO:Hid (bits .or .u32 (num B o 3) _=num B o 4):=orr_u32_3 B o hB
   go_wp2
   exact⟨⟨4,by omega,rfl,congrArg _ HO.out,trivial⟩,by simp[intOf]⟩
  ·have hb:=num_bd B hB o 4
   have hb1:0<=num B o 4:=hb.1
   have hb2:num B o 4<4294967296:=hb.2
   go_wp2
   go_ret
   exact⟨rfl,rfl⟩
theorem number32_write (b o len cap:Nat) (v:Int) (w:World) (hl:4<=len) (hc:∀ i,i<4->(w.cell? ⟨b,o+i,.none⟩).isSome=true) (hf:∀ i,i<4->w.frozen? ⟨b,o+i,.none⟩=false) (hv:0<=v∧v<18446744073709551616) :
  Calls Tryz.prog 75 #[.slice (some ⟨b,o,.none⟩) len cap,.bool true,.int .u64 v] w fun e w'=>e = .returned (.int .u64 (md v 4))∧w'=w.setCells b o ((le v 4).map (.int .u8)):=by
 have c:=len32
 have hs:IntKind.u32.signed=false:=rfl
 go_enter Tryz.func75,Tryz.ntmps75
 go_wp2_with (go_at_call 132;refine(c _).mono ?_;rintro e w0 ⟨rfl,rfl⟩)
 clear c
 go_loopw [14,7] (fun k s wr=>∃ n:Nat,n<=4∧k = .int .i64 n∧s = .int .u32 (md v n)∧wr=w0.setCells b o ((le v n).map (.int .u8))) (fun k _ _=>4-(intOf k).toNat)
 case atStart=>exact⟨0,by omega,rfl,by rw[md_zero],rfl⟩
 case round=>
  obtain⟨n,hn,rfl,rfl,hw⟩:=hrel
  have hN:n=0∨n=1∨n=2∨n=3∨n=4:=by omega
  rcases hN with rfl|rfl|rfl|rfl|rfl
  ·obtain⟨u,h0⟩:=Option.isSome_iff_exists.1 (hc 0 (by omega))
   have h1:wr.cell? ⟨b,o,.none⟩=some u:=by rw[hw];exact(le_cell w0 b o v 0 0 zL).trans h0
   have h2:wr.frozen? ⟨b,o,.none⟩=false:=by rw[hw,World.frozen?_setCells];exact hf 0 (by omega)
   have HW:Hid (wr=w0.setCells b o ((le v 0).map (.int .u8))):=hw
   clear hw h0 hc hf
   have HO:Hid (bits .or .u32 (md v 0) _=md v 1):=orw_u32_0 v
   go_wp2
   exact⟨⟨1,by omega,rfl,congrArg _ HO.out,le_step0 w0 wr b o v HW.out⟩,by simp[intOf]⟩
  ·obtain⟨u,h0⟩:=Option.isSome_iff_exists.1 (hc 1 (by omega))
   have h1:wr.cell? ⟨b,o+1,.none⟩=some u:=by rw[hw];exact(le_cell w0 b o v 1 1 zL).trans h0
   have h2:wr.frozen? ⟨b,o+1,.none⟩=false:=by rw[hw,World.frozen?_setCells];exact hf 1 (by omega)
   have HW:Hid (wr=w0.setCells b o ((le v 1).map (.int .u8))):=hw
   clear hw h0 hc hf
   have HO:Hid (bits .or .u32 (md v 1) _=md v 2):=orw_u32_1 v
   go_wp2
   exact⟨⟨2,by omega,rfl,congrArg _ HO.out,le_stepC w0 wr b o v 1 256 (by decide) HW.out⟩,by simp[intOf]⟩
  ·obtain⟨u,h0⟩:=Option.isSome_iff_exists.1 (hc 2 (by omega))
   have h1:wr.cell? ⟨b,o+2,.none⟩=some u:=by rw[hw];exact(le_cell w0 b o v 2 2 zL).trans h0
   have h2:wr.frozen? ⟨b,o+2,.none⟩=false:=by rw[hw,World.frozen?_setCells];exact hf 2 (by omega)
   have HW:Hid (wr=w0.setCells b o ((le v 2).map (.int .u8))):=hw
   clear hw h0 hc hf
   have HO:Hid (bits .or .u32 (md v 2) _=md v 3):=orw_u32_2 v
   go_wp2
   exact⟨⟨3,by omega,rfl,congrArg _ HO.out,le_stepC w0 wr b o v 2 65536 (by decide) HW.out⟩,by simp[intOf]⟩
  ·obtain⟨u,h0⟩:=Option.isSome_iff_exists.1 (hc 3 (by omega))
   have h1:wr.cell? ⟨b,o+3,.none⟩=some u:=by rw[hw];exact(le_cell w0 b o v 3 3 zL).trans h0
   have h2:wr.frozen? ⟨b,o+3,.none⟩=false:=by rw[hw,World.frozen?_setCells];exact hf 3 (by omega)
   have HW:Hid (wr=w0.setCells b o ((le v 3).map (.int .u8))):=hw
   clear hw h0 hc hf
   have HO:Hid (bits .or .u32 (md v 3) _=md v 4):=orw_u32_3 v
   go_wp2
   exact⟨⟨4,by omega,rfl,congrArg _ HO.out,le_stepC w0 wr b o v 3 16777216 (by decide) HW.out⟩,by simp[intOf]⟩
  ·have hb:=md_bd v 4
   have hb1:0<=md v 4:=hb.1
   have hb2:md v 4<4294967296:=hb.2
   have HW:Hid (wr=w0.setCells b o ((le v 4).map (.int .u8))):=hw
   clear hw
   go_wp2
   go_ret
   exact⟨rfl,HW.out⟩
theorem wraps_u64 (n:Int) (h₀:0<=n) (h₁:n<2 ^ 64):IntKind.u64.wrap n=n:=by rw[IntKind.wrap_u64];omega
theorem or_u64 (i:Nat) (x y z:Int) (hx:0<=x) (hxi:x<2 ^ i) (hy:0<=y) (hyi:y%2 ^ i=0) (hy1:y<18446744073709551616) (hz:x+y=z) (hx1:x<18446744073709551616):bits .or .u64 x y=z:=by
 have e:bits .or .u64 x y=bits .or .u64 y x:=by simp only[bits];rw[BitVec.or_comm]
 rw[e,bits_join .u64 64 (by decide) wraps_u64 i y x hy hyi (by omega) hx hxi (by omega)]
 omega
theorem orw_u64_0 (v:Int):bits .or .u64 (md v 0) (v%256)=md v 1:=by
 have h:=md_step v 0
 have hb:=md_bd v 0
 exact or_u64 0 _ _ _ hb.1 (by omega) (by omega) (by omega) (by omega) (by rw[h];simp) (by omega)
theorem orr_u64_0 (B:Nat->Int) (o:Nat) (hB:∀ i,0<=B i∧B i<256):bits .or .u64 (num B o 0) (B (o))=num B o 1:=by
 have hx:=hB (o)
 have hb:=num_bd B hB o 0
 exact or_u64 0 _ _ _ hb.1 (by omega) (by omega) (by omega) (by omega) (by simp[num];try omega) (by omega)
theorem orw_u64_1 (v:Int):bits .or .u64 (md v 1) (v/256%256*256)=md v 2:=by
 have h:=md_step v 1
 have hb:=md_bd v 1
 exact or_u64 8 _ _ _ hb.1 (by omega) (by omega) (by omega) (by omega) (by rw[h];rfl) (by omega)
theorem orr_u64_1 (B:Nat->Int) (o:Nat) (hB:∀ i,0<=B i∧B i<256):bits .or .u64 (num B o 1) (B (o+1)*256)=num B o 2:=by
 have hx:=hB (o+1)
 have hb:=num_bd B hB o 1
 exact or_u64 8 _ _ _ hb.1 (by omega) (by omega) (by omega) (by omega) (by simp[num];try omega) (by omega)
theorem orw_u64_2 (v:Int):bits .or .u64 (md v 2) (v/65536%256*65536)=md v 3:=by
 have h:=md_step v 2
 have hb:=md_bd v 2
 exact or_u64 16 _ _ _ hb.1 (by omega) (by omega) (by omega) (by omega) (by rw[h];rfl) (by omega)
theorem orr_u64_2 (B:Nat->Int) (o:Nat) (hB:∀ i,0<=B i∧B i<256):bits .or .u64 (num B o 2) (B (o+2)*65536)=num B o 3:=by
 have hx:=hB (o+2)
 have hb:=num_bd B hB o 2
 exact or_u64 16 _ _ _ hb.1 (by omega) (by omega) (by omega) (by omega) (by simp[num];try omega) (by omega)
theorem orw_u64_3 (v:Int):bits .or .u64 (md v 3) (v/16777216%256*16777216)=md v 4:=by
 have h:=md_step v 3
 have hb:=md_bd v 3
 exact or_u64 24 _ _ _ hb.1 (by omega) (by omega) (by omega) (by omega) (by rw[h];rfl) (by omega)
theorem orr_u64_3 (B:Nat->Int) (o:Nat) (hB:∀ i,0<=B i∧B i<256):bits .or .u64 (num B o 3) (B (o+3)*16777216)=num B o 4:=by
 have hx:=hB (o+3)
 have hb:=num_bd B hB o 3
 exact or_u64 24 _ _ _ hb.1 (by omega) (by omega) (by omega) (by omega) (by simp[num];try omega) (by omega)
theorem orw_u64_4 (v:Int):bits .or .u64 (md v 4) (v/4294967296%256*4294967296)=md v 5:=by
 have h:=md_step v 4
 have hb:=md_bd v 4
 exact or_u64 32 _ _ _ hb.1 (by omega) (by omega) (by omega) (by omega) (by rw[h];rfl) (by omega)
theorem orr_u64_4 (B:Nat->Int) (o:Nat) (hB:∀ i,0<=B i∧B i<256):bits .or .u64 (num B o 4) (B (o+4)*4294967296)=num B o 5:=by
 have hx:=hB (o+4)
 have hb:=num_bd B hB o 4
 exact or_u64 32 _ _ _ hb.1 (by omega) (by omega) (by omega) (by omega) (by simp[num];try omega) (by omega)
theorem orw_u64_5 (v:Int):bits .or .u64 (md v 5) (v/1099511627776%256*1099511627776)=md v 6:=by
 have h:=md_step v 5
 have hb:=md_bd v 5
 exact or_u64 40 _ _ _ hb.1 (by omega) (by omega) (by omega) (by omega) (by rw[h];rfl) (by omega)
theorem orr_u64_5 (B:Nat->Int) (o:Nat) (hB:∀ i,0<=B i∧B i<256):bits .or .u64 (num B o 5) (B (o+5)*1099511627776)=num B o 6:=by
 have hx:=hB (o+5)
 have hb:=num_bd B hB o 5
 exact or_u64 40 _ _ _ hb.1 (by omega) (by omega) (by omega) (by omega) (by simp[num];try omega) (by omega)
theorem orw_u64_6 (v:Int):bits .or .u64 (md v 6) (v/281474976710656%256*281474976710656)=md v 7:=by
 have h:=md_step v 6
 have hb:=md_bd v 6
 exact or_u64 48 _ _ _ hb.1 (by omega) (by omega) (by omega) (by omega) (by rw[h];rfl) (by omega)
theorem orr_u64_6 (B:Nat->Int) (o:Nat) (hB:∀ i,0<=B i∧B i<256):bits .or .u64 (num B o 6) (B (o+6)*281474976710656)=num B o 7:=by
 have hx:=hB (o+6)
 have hb:=num_bd B hB o 6
 exact or_u64 48 _ _ _ hb.1 (by omega) (by omega) (by omega) (by omega) (by simp[num];try omega) (by omega)
theorem orw_u64_7 (v:Int):bits .or .u64 (md v 7) (v/72057594037927936%256*72057594037927936)=md v 8:=by
 have h:=md_step v 7
 have hb:=md_bd v 7
 exact or_u64 56 _ _ _ hb.1 (by omega) (by omega) (by omega) (by omega) (by rw[h];rfl) (by omega)
theorem orr_u64_7 (B:Nat->Int) (o:Nat) (hB:∀ i,0<=B i∧B i<256):bits .or .u64 (num B o 7) (B (o+7)*72057594037927936)=num B o 8:=by
 have hx:=hB (o+7)
 have hb:=num_bd B hB o 7
 exact or_u64 56 _ _ _ hb.1 (by omega) (by omega) (by omega) (by omega) (by simp[num];try omega) (by omega)
theorem number64_read (b o len cap:Nat) (B:Nat->Int) (v:Int) (w:World) (hl:8<=len) (hB:∀ i,0<=B i∧B i<256) (hc:∀ i,i<8->w.cell? ⟨b,o+i,.none⟩=some (.int .u8 (B (o+i)))) :
  Calls Tryz.prog 78 #[.slice (some ⟨b,o,.none⟩) len cap,.bool false,.int .u64 v] w fun e w'=>e = .returned (.int .u64 (num B o 8))∧w'=w:=by
 have c:=len64
 have hs:IntKind.u64.signed=false:=rfl
 go_enter Tryz.func78,Tryz.ntmps78
 go_wp2_with (go_at_call 132;refine(c _).mono ?_;rintro e w0 ⟨rfl,rfl⟩)
 clear c
 go_loopw [13,7] (fun k s wr=>∃ n:Nat,n<=8∧k = .int .i64 n∧s = .int .u64 (num B o n)∧wr=w0) (fun k _ _=>8-(intOf k).toNat)
 case atStart=>exact⟨0,by omega,rfl,rfl,rfl⟩
 case round=>
  obtain⟨n,hn,rfl,rfl,rfl⟩:=hrel
  have hN:n=0∨n=1∨n=2∨n=3∨n=4∨n=5∨n=6∨n=7∨n=8:=by omega
  rcases hN with rfl|rfl|rfl|rfl|rfl|rfl|rfl|rfl|rfl
  ·have h1:wr.cell? ⟨b,o,.none⟩=some (.int .u8 (B (o))):=hc 0 (by omega)
   have hx:=hB (o)
   have HO:Hid (bits .or .u64 (num B o 0) _=num B o 1):=orr_u64_0 B o hB
   go_wp2
   exact⟨⟨1,by omega,rfl,congrArg _ HO.out,trivial⟩,by simp[intOf]⟩
  ·have h1:wr.cell? ⟨b,o+1,.none⟩=some (.int .u8 (B (o+1))):=hc 1 (by omega)
   have hx:=hB (o+1)
   have HO:Hid (bits .or .u64 (num B o 1) _=num B o 2):=orr_u64_1 B o hB
   go_wp2
   exact⟨⟨2,by omega,rfl,congrArg _ HO.out,trivial⟩,by simp[intOf]⟩
  ·have h1:wr.cell? ⟨b,o+2,.none⟩=some (.int .u8 (B (o+2))):=hc 2 (by omega)
   have hx:=hB (o+2)
   have HO:Hid (bits .or .u64 (num B o 2) _=num B o 3):=orr_u64_2 B o hB
   go_wp2
   exact⟨⟨3,by omega,rfl,congrArg _ HO.out,trivial⟩,by simp[intOf]⟩
  ·have h1:wr.cell? ⟨b,o+3,.none⟩=some (.int .u8 (B (o+3))):=hc 3 (by omega)
   have hx:=hB (o+3)
   have HO:Hid (bits .or .u64 (num B o 3) _=num B o 4):=orr_u64_3 B o hB
   go_wp2
   exact⟨⟨4,by omega,rfl,congrArg _ HO.out,trivial⟩,by simp[intOf]⟩
  ·have h1:wr.cell? ⟨b,o+4,.none⟩=some (.int .u8 (B (o+4))):=hc 4 (by omega)
   have hx:=hB (o+4)
   have HO:Hid (bits .or .u64 (num B o 4) _=num B o 5):=orr_u64_4 B o hB
   go_wp2
   exact⟨⟨5,by omega,rfl,congrArg _ HO.out,trivial⟩,by simp[intOf]⟩
  ·have h1:wr.cell? ⟨b,o+5,.none⟩=some (.int .u8 (B (o+5))):=hc 5 (by omega)
   have hx:=hB (o+5)
   have HO:Hid (bits .or .u64 (num B o 5) _=num B o 6):=orr_u64_5 B o hB
   go_wp2
   exact⟨⟨6,by omega,rfl,congrArg _ HO.out,trivial⟩,by simp[intOf]⟩
  ·have h1:wr.cell? ⟨b,o+6,.none⟩=some (.int .u8 (B (o+6))):=hc 6 (by omega)
   have hx:=hB (o+6)
   have HO:Hid (bits .or .u64 (num B o 6) _=num B o 7):=orr_u64_6 B o hB
   go_wp2
   exact⟨⟨7,by omega,rfl,congrArg _ HO.out,trivial⟩,by simp[intOf]⟩
  ·have h1:wr.cell? ⟨b,o+7,.none⟩=some (.int .u8 (B (o+7))):=hc 7 (by omega)
   have hx:=hB (o+7)
   have HO:Hid (bits .or .u64 (num B o 7) _=num B o 8):=orr_u64_7 B o hB
   go_wp2
   exact⟨⟨8,by omega,rfl,congrArg _ HO.out,trivial⟩,by simp[intOf]⟩
  ·have hb:=num_bd B hB o 8
   have hb1:0<=num B o 8:=hb.1
   have hb2:num B o 8<18446744073709551616:=hb.2
   go_wp2
   go_ret
   exact⟨rfl,rfl⟩
theorem number64_write (b o len cap:Nat) (v:Int) (w:World) (hl:8<=len) (hc:∀ i,i<8->(w.cell? ⟨b,o+i,.none⟩).isSome=true) (hf:∀ i,i<8->w.frozen? ⟨b,o+i,.none⟩=false) (hv:0<=v∧v<18446744073709551616) :
  Calls Tryz.prog 78 #[.slice (some ⟨b,o,.none⟩) len cap,.bool true,.int .u64 v] w fun e w'=>e = .returned (.int .u64 (md v 8))∧w'=w.setCells b o ((le v 8).map (.int .u8)):=by
 have c:=len64
 have hs:IntKind.u64.signed=false:=rfl
 go_enter Tryz.func78,Tryz.ntmps78
 go_wp2_with (go_at_call 132;refine(c _).mono ?_;rintro e w0 ⟨rfl,rfl⟩)
 clear c
 go_loopw [13,7] (fun k s wr=>∃ n:Nat,n<=8∧k = .int .i64 n∧s = .int .u64 (md v n)∧wr=w0.setCells b o ((le v n).map (.int .u8))) (fun k _ _=>8-(intOf k).toNat)
 case atStart=>exact⟨0,by omega,rfl,by rw[md_zero],rfl⟩
 case round=>
  obtain⟨n,hn,rfl,rfl,hw⟩:=hrel
  have hN:n=0∨n=1∨n=2∨n=3∨n=4∨n=5∨n=6∨n=7∨n=8:=by omega
  rcases hN with rfl|rfl|rfl|rfl|rfl|rfl|rfl|rfl|rfl
  ·obtain⟨u,h0⟩:=Option.isSome_iff_exists.1 (hc 0 (by omega))
   have h1:wr.cell? ⟨b,o,.none⟩=some u:=by rw[hw];exact(le_cell w0 b o v 0 0 zL).trans h0
   have h2:wr.frozen? ⟨b,o,.none⟩=false:=by rw[hw,World.frozen?_setCells];exact hf 0 (by omega)
   have HW:Hid (wr=w0.setCells b o ((le v 0).map (.int .u8))):=hw
   clear hw h0 hc hf
   have HO:Hid (bits .or .u64 (md v 0) _=md v 1):=orw_u64_0 v
   go_wp2
   exact⟨⟨1,by omega,rfl,congrArg _ HO.out,le_step0 w0 wr b o v HW.out⟩,by simp[intOf]⟩
  ·obtain⟨u,h0⟩:=Option.isSome_iff_exists.1 (hc 1 (by omega))
   have h1:wr.cell? ⟨b,o+1,.none⟩=some u:=by rw[hw];exact(le_cell w0 b o v 1 1 zL).trans h0
   have h2:wr.frozen? ⟨b,o+1,.none⟩=false:=by rw[hw,World.frozen?_setCells];exact hf 1 (by omega)
   have HW:Hid (wr=w0.setCells b o ((le v 1).map (.int .u8))):=hw
   clear hw h0 hc hf
   have HO:Hid (bits .or .u64 (md v 1) _=md v 2):=orw_u64_1 v
   go_wp2
   exact⟨⟨2,by omega,rfl,congrArg _ HO.out,le_stepC w0 wr b o v 1 256 (by decide) HW.out⟩,by simp[intOf]⟩
  ·obtain⟨u,h0⟩:=Option.isSome_iff_exists.1 (hc 2 (by omega))
   have h1:wr.cell? ⟨b,o+2,.none⟩=some u:=by rw[hw];exact(le_cell w0 b o v 2 2 zL).trans h0
   have h2:wr.frozen? ⟨b,o+2,.none⟩=false:=by rw[hw,World.frozen?_setCells];exact hf 2 (by omega)
   have HW:Hid (wr=w0.setCells b o ((le v 2).map (.int .u8))):=hw
   clear hw h0 hc hf
   have HO:Hid (bits .or .u64 (md v 2) _=md v 3):=orw_u64_2 v
   go_wp2
   exact⟨⟨3,by omega,rfl,congrArg _ HO.out,le_stepC w0 wr b o v 2 65536 (by decide) HW.out⟩,by simp[intOf]⟩
  ·obtain⟨u,h0⟩:=Option.isSome_iff_exists.1 (hc 3 (by omega))
   have h1:wr.cell? ⟨b,o+3,.none⟩=some u:=by rw[hw];exact(le_cell w0 b o v 3 3 zL).trans h0
   have h2:wr.frozen? ⟨b,o+3,.none⟩=false:=by rw[hw,World.frozen?_setCells];exact hf 3 (by omega)
   have HW:Hid (wr=w0.setCells b o ((le v 3).map (.int .u8))):=hw
   clear hw h0 hc hf
   have HO:Hid (bits .or .u64 (md v 3) _=md v 4):=orw_u64_3 v
   go_wp2
   exact⟨⟨4,by omega,rfl,congrArg _ HO.out,le_stepC w0 wr b o v 3 16777216 (by decide) HW.out⟩,by simp[intOf]⟩
  ·obtain⟨u,h0⟩:=Option.isSome_iff_exists.1 (hc 4 (by omega))
   have h1:wr.cell? ⟨b,o+4,.none⟩=some u:=by rw[hw];exact(le_cell w0 b o v 4 4 zL).trans h0
   have h2:wr.frozen? ⟨b,o+4,.none⟩=false:=by rw[hw,World.frozen?_setCells];exact hf 4 (by omega)
   have HW:Hid (wr=w0.setCells b o ((le v 4).map (.int .u8))):=hw
   clear hw h0 hc hf
   have HO:Hid (bits .or .u64 (md v 4) _=md v 5):=orw_u64_4 v
   go_wp2
   exact⟨⟨5,by omega,rfl,congrArg _ HO.out,le_stepC w0 wr b o v 4 4294967296 (by decide) HW.out⟩,by simp[intOf]⟩
  ·obtain⟨u,h0⟩:=Option.isSome_iff_exists.1 (hc 5 (by omega))
   have h1:wr.cell? ⟨b,o+5,.none⟩=some u:=by rw[hw];exact(le_cell w0 b o v 5 5 zL).trans h0
   have h2:wr.frozen? ⟨b,o+5,.none⟩=false:=by rw[hw,World.frozen?_setCells];exact hf 5 (by omega)
   have HW:Hid (wr=w0.setCells b o ((le v 5).map (.int .u8))):=hw
   clear hw h0 hc hf
   have HO:Hid (bits .or .u64 (md v 5) _=md v 6):=orw_u64_5 v
   go_wp2
   exact⟨⟨6,by omega,rfl,congrArg _ HO.out,le_stepC w0 wr b o v 5 1099511627776 (by decide) HW.out⟩,by simp[intOf]⟩
  ·obtain⟨u,h0⟩:=Option.isSome_iff_exists.1 (hc 6 (by omega))
   have h1:wr.cell? ⟨b,o+6,.none⟩=some u:=by rw[hw];exact(le_cell w0 b o v 6 6 zL).trans h0
   have h2:wr.frozen? ⟨b,o+6,.none⟩=false:=by rw[hw,World.frozen?_setCells];exact hf 6 (by omega)
   have HW:Hid (wr=w0.setCells b o ((le v 6).map (.int .u8))):=hw
   clear hw h0 hc hf
   have HO:Hid (bits .or .u64 (md v 6) _=md v 7):=orw_u64_6 v
   go_wp2
   exact⟨⟨7,by omega,rfl,congrArg _ HO.out,le_stepC w0 wr b o v 6 281474976710656 (by decide) HW.out⟩,by simp[intOf]⟩
  ·obtain⟨u,h0⟩:=Option.isSome_iff_exists.1 (hc 7 (by omega))
   have h1:wr.cell? ⟨b,o+7,.none⟩=some u:=by rw[hw];exact(le_cell w0 b o v 7 7 zL).trans h0
   have h2:wr.frozen? ⟨b,o+7,.none⟩=false:=by rw[hw,World.frozen?_setCells];exact hf 7 (by omega)
   have HW:Hid (wr=w0.setCells b o ((le v 7).map (.int .u8))):=hw
   clear hw h0 hc hf
   have HO:Hid (bits .or .u64 (md v 7) (v/72057594037927936*72057594037927936)=md v 8):=by have:=orw_u64_7 v;rwa [show v/72057594037927936%256=v/72057594037927936 by omega] at this
   go_wp2
   exact⟨⟨8,by omega,rfl,congrArg _ HO.out,by have:=le_stepC w0 wr b o v 7 72057594037927936 (by decide) HW.out;rwa [show v/72057594037927936%256=v/72057594037927936 by omega] at this⟩,by simp[intOf]⟩
  ·have hb:=md_bd v 8
   have hb1:0<=md v 8:=hb.1
   have hb2:md v 8<18446744073709551616:=hb.2
   have HW:Hid (wr=w0.setCells b o ((le v 8).map (.int .u8))):=hw
   clear hw
   go_wp2
   go_ret
   exact⟨rfl,HW.out⟩
end Rm
namespace Rm
open Go.RowKit
theorem addr_any (i:Int) (h0:0<=i) (h1:i<=4096) (w:World):Calls Tryz.prog 77 #[.int .i64 i] w fun e w'=>e = .returned (.int .u64 (2147483648+i*4096))∧w'=w:=by
 go_enter Tryz.func77,Tryz.ntmps77
 go_wp2
 go_ret
 exact⟨rfl,rfl⟩
def isFr (pa:Int) (n:Int):Bool:=decide (pa%4096=0∧2147483648<=pa∧pa<2147483648+n*4096)
theorem isFrame_any (pa n:Int) (hp:0<=pa∧pa<18446744073709551616) (h0:0<=n) (h1:n<=4096) (w:World) :
  Calls Tryz.prog 189 #[.int .u64 pa,.int .i64 n] w fun e w'=>e = .returned (.bool (isFr pa n))∧w'=w:=by
 have c0:=addr_any 0 (by omega) (by omega)
 have c1:=addr_any n h0 h1
 by_cases k0:pa%4096=0
 ·by_cases k1:2147483648<=pa
  ·by_cases k2:pa<2147483648+n*4096
   ·have e:isFr pa n=true:=by simp[isFr,k0,k1,k2]
    rw[e]
    go_enter Tryz.func189,Tryz.ntmps189
    go_wp2
    go_ret
    exact⟨rfl,rfl⟩
   ·have e:isFr pa n=false:=by simp[isFr,k0,k1,k2]
    rw[e]
    go_enter Tryz.func189,Tryz.ntmps189
    go_wp2
    go_ret
    exact⟨rfl,rfl⟩
  ·have e:isFr pa n=false:=by simp[isFr,k0,k1]
   rw[e]
   go_enter Tryz.func189,Tryz.ntmps189
   go_wp2
   go_ret
   exact⟨rfl,rfl⟩
 ·have e:isFr pa n=false:=by simp[isFr,k0]
  rw[e]
  go_enter Tryz.func189,Tryz.ntmps189
  go_wp2
  go_ret
  exact⟨rfl,rfl⟩
theorem made_some (p b n c:Nat) (w:World) (h:w.cell? ⟨p,0,.none⟩=some (.slice (some ⟨b,0,.none⟩) n c)):Calls Tryz.prog 33 #[.pointer (some ⟨p,0,.none⟩)] w fun e w'=>e = .returned (.bool true)∧w'=w:=by
 have hq:(binOp .neq 24 (.slice (some ⟨b,0,.none⟩) n c) (.slice .none 0 0)).run Tryz.prog w = .ok (.bool true) w:=run_neq_slice_nil w 24 5 (some ⟨b,0,.none⟩) n c Tryz.underlying24
 go_enter Tryz.func33,Tryz.ntmps33
 go_wp2
 go_ret
 exact⟨rfl,rfl⟩
theorem mayHave_any (n:Int) (w:World):Calls Tryz.prog 72 #[.int .i64 n] w fun e w'=>e = .returned (.bool (decide (1<=n∧n<=4096)))∧w'=w:=by
 by_cases k0:1<=n
 ·by_cases k1:n<=4096
  ·have e:decide (1<=n∧n<=4096)=true:=by simp[k0,k1]
   rw[e]
   go_enter Tryz.func72,Tryz.ntmps72
   go_wp2
   go_ret
   exact⟨rfl,rfl⟩
  ·have e:decide (1<=n∧n<=4096)=false:=by simp[k0,k1]
   rw[e]
   go_enter Tryz.func72,Tryz.ntmps72
   go_wp2
   go_ret
   exact⟨rfl,rfl⟩
 ·have e:decide (1<=n∧n<=4096)=false:=by simp[k0]
  rw[e]
  go_enter Tryz.func72,Tryz.ntmps72
  go_wp2
  go_ret
  exact⟨rfl,rfl⟩
section
variable {w:World} {p b m N cnt:Nat} {B:Nat->Int} {nx:Int} {hd:Int->Bool}
theorem frames_any (h:Mem w p b m N B nx hd cnt):Calls Tryz.prog 41 #[.pointer (some ⟨p,0,.none⟩)] w fun e w'=>e = .returned (.int .i64 N)∧w'=w:=by
 have c:=made_some p b _ _ w h.c0
 have k0:=h.c0
 have n2:=h.n2
 go_enter Tryz.func41,Tryz.ntmps41
 go_wp2_with (go_at_call 33;refine c.mono ?_;rintro e w0 ⟨rfl,rfl⟩)
 go_ret
 exact⟨by simp,rfl⟩
theorem frame_any (h:Mem w p b m N B nx hd cnt) (i:Nat) (hi:i<N):Calls Tryz.prog 35 #[.pointer (some ⟨p,0,.none⟩),.int .u64 (2147483648+i*4096)] w fun e w'=>e = .returned (.slice (some ⟨b,i*4096,.none⟩) 4096 (4096*N-i*4096))∧w'=w:=by
 have k0:=h.c0
 have n2:=h.n2
 go_enter Tryz.func35,Tryz.ntmps35
 go_wp2
 go_ret
 exact⟨by simp,rfl⟩
theorem law22:Maps.Keyed Tryz.prog 23:=Maps.int_keyed Tryz.underlying23
theorem zero91 (w:World):(zeroValue 83).run Tryz.prog w = .ok (.agg #[]) w:=by kernel_rfl
theorem isHeld_any (h:Mem w p b m N B nx hd cnt) (pa:Int) (hp:0<=pa∧pa<18446744073709551616):Calls Tryz.prog 111 #[.pointer (some ⟨p,0,.none⟩),.int .u64 pa] w fun e w'=>e = .returned (.bool (hd pa))∧Below w.heap.size w w':=by
 have k2:=h.c2
 obtain⟨D,hown,hhas,_⟩:=h.hm
 have hh:=hhas pa hp.1 hp.2
 go_enter Tryz.func111,Tryz.ntmps111
 go_wp2_with (at_lookup;refine wpList_lookup_own_unit _ rfl _ _ 78 rfl 23 83 law22 Tryz.underlying78 (zero91 _) m _ D rfl hown _ _ rfl (Maps.keyOf_int_mk Tryz.underlying23 (WalkArith.wf_u64 (by omega))) ?_)
 go_ret
 rw[<-hh]
 exact⟨rfl,zB.alloc zL _⟩
theorem count_any (h:Mem w p b m N B nx hd cnt) (hc:cnt<=N):Calls Tryz.prog 15 #[.pointer (some ⟨p,0,.none⟩)] w fun e w'=>e = .returned (.int .i64 ((N:Int)-cnt))∧∃ k,w'=w.drewN k:=by
 have c:=made_some p b _ _ w h.c0
 have k2:=h.c2
 have n2:=h.n2
 have n3:(N:Int)-cnt<=4096:=by omega
 have n4:0<=(N:Int)-cnt:=by omega
 obtain⟨D,hown,_,hsz⟩:=h.hm
 have hl:∀ k ty,(Builtin.len_ #[78] ty #[.map (some m)]).run Tryz.prog (w.drewN k) = .ok (.int .i64 cnt) (w.drewN k):=fun k ty=>by
  have hk:(w.drewN k).ownsMap Tryz.prog 23 unitElem m (Maps.size D) D:=hown
  rw[hk.len Tryz.underlying78 ty,hsz]
 go_enter Tryz.func15,Tryz.ntmps15
 go_wp2_with (go_at_call 33;refine c.mono ?_;rintro e w0 ⟨rfl,rfl⟩)
 go_quiet (first|(go_at_call 41;exact Calls.quiet_of_same (frames_any (h.drewN _))))
 go_wp2
 go_ret
 exact⟨by simp,_,rfl⟩
theorem behind_any (h:Mem w p b m N B nx hd cnt) (i:Nat) (hi:i<N):Calls Tryz.prog 34 #[.pointer (some ⟨p,0,.none⟩),.int .u64 (2147483648+i*4096)] w fun e w'=>e = .returned (.int .u64 (num B (i*4096) 8))∧w'=w:=by
 have c:=frame_any h i hi
 have c1:=number64_read b (i*4096) 4096 (4096*N-i*4096) B 0 w (by omega) h.bb (fun k hk=>h.cb _ (by omega))
 go_enter Tryz.func34,Tryz.ntmps34
 go_wp2_with (first|(go_at_call 35;refine c.mono ?_;rintro e w0 ⟨rfl,rfl⟩)|(go_at_call 78;refine c1.mono ?_;rintro e w0 ⟨rfl,rfl⟩))
 go_ret
 exact⟨rfl,rfl⟩
end
end Rm
namespace Rm
open Go.RowKit
theorem setCells_drewN (b:Nat):∀ (vs:List Value) (o n:Nat) (w:World),(w.drewN n).setCells b o vs=(w.setCells b o vs).drewN n
 |[],_,_,_=>rfl
 |v :: vs,o,n,w=>setCells_drewN b vs (o+1) n (w.setCell ⟨b,o,.none⟩ v)
theorem setCells_append (b:Nat):∀ (vs us:List Value) (o:Nat) (w:World),(w.setCells b o vs).setCells b (o+vs.length) us=w.setCells b o (vs ++ us)
 |[],us,o,w=>rfl
 |v :: vs,us,o,w=>by
  have ih:=setCells_append b vs us (o+1) (w.setCell ⟨b,o,.none⟩ v)
  simp only[World.setCells,List.cons_append,List.length_cons]
  rw[<-ih]
  congr 1
  omega
theorem step_copy_cells {P:Program} {ops:Array Oper} {o:Oper} {a:Act} {w:World} {K:Act->World->Prop} {Q:Exit->Act->World->Prop} {E:Prop} (hgd:o.guard=none) (d s:Operand) (dT sT:TypeId)
  (ho:o.op = .call { callee:=.builtin .copy,args:=#[d,s],argTypes:=#[dT,sT] }) (elem:TypeId) (hu:P.underlying dT=some (.slice elem)) (hsz:(P.info? elem).map (·.size)=some 1)
  (b off dLen dCap:Nat) (ad:Addr) (sLen sCap:Nat) (hd:a.eval d = .slice (some ⟨b,off,.none⟩) dLen dCap) (hs:a.eval s = .slice (some ad) sLen sCap) (cs:List Value) (hn:cs.length=Nat.min sLen dLen)
  (hsrc:∀ j v,cs[j]? = some v->w.cell? (ad.add j)=some v) (hc:∀ j,j<cs.length->(w.cell? ⟨b,off+j,.none⟩).isSome=true) (hf:∀ j,j<cs.length->w.frozen? ⟨b,off+j,.none⟩=false) (h1:∀ v∈cs,v.oneCell'=true)
  (h:K (a.put o.dst (goInt cs.length)) (w.setCells b off cs)):if Region.wanted o (yielded ops a.tmps)=true then Oper.wp P o a w K Q else E:=by
 have hw:Region.wanted o (yielded ops a.tmps)=true:=by simp[Region.wanted,hgd]
 rw[if_pos hw]
 have hrun:=run_copy_cells (P:=P) w dT sT o.type elem b off dLen dCap ad sLen sCap cs hu hsz hn hsrc hc hf h1
 unfold Oper.wp
 simp[execOp,ho,resolve,invoke,builtin,hd,hs,hrun,Result.andThen]
 exact h
theorem info5:(Tryz.prog.info? 5).map (·.size)=some 1:=by kernel_rfl
theorem addr_add (b o j:Nat):(⟨b,o,.none⟩:Addr).add j=⟨b,o+j,.none⟩:=by unfold Addr.add;split<;>simp_all
theorem fill_any (b o n cap:Nat) (x:Int) (w:World) (hn:1<=n) (hn2:n<=16777216) (hcap:n<=cap) (hcap2:cap<=16777216)
  (hc:∀ i,i<n->(w.cell? ⟨b,o+i,.none⟩).isSome=true) (hf:∀ i,i<n->w.frozen? ⟨b,o+i,.none⟩=false) :
  Calls Tryz.prog 133 #[.slice (some ⟨b,o,.none⟩) n cap,.int .u8 x] w fun e w'=>(∃ v,e = .returned v)∧∃ k,w'=(w.setCells b o (List.replicate n (.int .u8 x))).drewN k:=by
 obtain⟨u0,h0⟩:=Option.isSome_iff_exists.1 (hc 0 (by omega))
 have g0:=hf 0 (by omega)
 simp only[Nat.add_zero] at h0 g0
 go_enter Tryz.func133,Tryz.ntmps133
 go_wp2
 clear h0 g0
 go_loopw [4] (fun k wr=>∃ d q:Nat,1<=d∧d<=2*n∧k = .int .i64 d∧wr=(w.setCells b o (List.replicate (min d n) (.int .u8 x))).drewN q) (fun k _=>n-(intOf k).toNat)
 case atStart=>exact⟨1,0,by omega,by omega,rfl,by rw[show min 1 n=1 by omega];rfl⟩
 case round=>
  obtain⟨d,q,hd1,hd2,rfl,hw⟩:=hrel
  have HW:Hid (wr=(w.setCells b o (List.replicate (min d n) (.int .u8 x))).drewN q):=hw
  clear hw
  by_cases hdn:d<n
  ·have i1:(d:Int)<n:=by omega
   have i2:(d:Int)<=n:=by omega
   have i3:(n:Int)<=cap:=by omega
   have i4:(d:Int)<=cap:=by omega
   have i5:(0:Int)<=d:=by omega
   have hk:∀ i,i<n->(wr.cell? ⟨b,o+i,.none⟩).isSome=true:=fun i hi=>by
    rw[HW.out,World.cell?_drewN]
    by_cases hid:i<d
    ·rw[World.cell?_setCells_in b _ o w (fun j hj=>hc j (by simp at hj;omega)) i (by simp;omega)]
     rfl
    ·rw[World.cell?_setCells_out b _ o w _ (fun _ _=>.inr (by simp;omega))]
     exact hc i hi
   have s1:Hid (∀ j v,(List.replicate (min d (n-d)) (Value.int .u8 x))[j]? = some v->wr.drew.cell? ((⟨b,o,.none⟩:Addr).add j)=some v):=fun j v hj=>by
    rw[List.getElem?_replicate] at hj
    split at hj
    ·rename_i hjd
     rw[addr_add,World.cell?_drew,HW.out,World.cell?_drewN,World.cell?_setCells_in b _ o w (fun i hi=>hc i (by simp at hi;omega)) j (by simp;omega)]
     simpa using hj
    ·cases hj
   have s2:Hid (∀ j,j<(List.replicate (min d (n-d)) (Value.int .u8 x)).length->(wr.drew.cell? ⟨b,o+d+j,.none⟩).isSome=true):=fun j hj=>by
    rw[World.cell?_drew,Nat.add_assoc]
    exact hk (d+j) (by simp at hj;omega)
   have s3:Hid (∀ j,j<(List.replicate (min d (n-d)) (Value.int .u8 x)).length->wr.drew.frozen? ⟨b,o+d+j,.none⟩=false):=fun j hj=>by
    rw[World.frozen?_drew,HW.out,World.frozen?_drewN,World.frozen?_setCells,Nat.add_assoc]
    exact hf (d+j) (by simp at hj;omega)
   have s4:Hid (∀ v∈List.replicate (min d (n-d)) (Value.int .u8 x),v.oneCell'=true):=fun v hv=>by rw[List.eq_of_mem_replicate hv];rfl
   have s5:Hid ((List.replicate (min d (n-d)) (Value.int .u8 x)).length=Nat.min d (n-d)):=by
    show (List.replicate (min d (n-d)) (Value.int .u8 x)).length=Nat.min d (n-d)
    rw[List.length_replicate]
   generalize hcs:List.replicate (min d (n-d)) (Value.int .u8 x)=cs at *
   clear hk
   have HC:Hid (List.replicate (min d (n-d)) (Value.int .u8 x)=cs):=hcs
   clear hcs
   go_upto_region 4 with fail
   go_region_law (refine step_copy_cells rfl (.tmp 16) (.tmp 19) 24 24 rfl 5 Tryz.underlying24 info5 b (o+d) (n-d) (cap-d) ⟨b,o,.none⟩ d cap (by simp[Act.eval,Act.put];omega) (by simp[Act.eval,Act.put]) cs s5.out s1.out s2.out s3.out s4.out ?_)
   go_wp2
   refine⟨⟨2*d,q+1,by omega,by omega,congrArg _ (by omega),?_⟩,by simp[intOf];omega⟩
   show (wr.drewN 1).setCells b (o+d) cs=_
   rw[setCells_drewN,HW.out,<-HC.out,setCells_drewN,World.drewN_drewN]
   have e:=setCells_append b (List.replicate d (.int .u8 x)) (List.replicate (min d (n-d)) (.int .u8 x)) o w
   rw[List.length_replicate,List.replicate_append_replicate] at e
   rw[show min d n=d by omega,e,show d+min d (n-d)=min (2*d) n by omega]
  ·go_wp2
   go_end0
   exact⟨⟨_,rfl⟩,q,by rw[HW.out,show min d n=n by omega]⟩
end Rm
namespace Rm
open Go.RowKit
def junk:List Int:=List.replicate 4088 5
theorem junk_len:junk.length=4088:=List.length_replicate
theorem junk_map:junk.map (Value.int .u8)=List.replicate 4088 (.int .u8 5):=List.map_replicate
theorem junk_bd:∀ x∈junk,0<=x∧x<256:=fun x hx=>by rw[List.eq_of_mem_replicate hx];omega
def thr (B:Nat->Int) (i:Nat) (v:Int):Nat->Int:=over (over B (i*4096) (le v 8)) (i*4096+8) junk
section
variable {w:World} {p b m N cnt:Nat} {B:Nat->Int} {nx:Int} {hd:Int->Bool}
theorem thread_any (h:Mem w p b m N B nx hd cnt) (i:Nat) (hi:i<N):Calls Tryz.prog 76 #[.pointer (some ⟨p,0,.none⟩),.int .u64 (2147483648+i*4096)] w fun e w'=>(∃ v,e = .returned v)∧Mem w' p b m N (thr B i nx) (2147483648+i*4096) hd cnt∧Fra p b m w w':=by
 have c:=frame_any h i hi
 have n2:=h.n2
 have c1:=number64_write b (i*4096) 4096 (4096*N-i*4096) nx w (by omega) (fun k hk=>by rw[h.cb _ (by omega)];rfl) (fun k hk=>h.fb _ (by omega)) h.nb
 have h1:=h.setCells (i*4096) (le nx 8) (by rw[le_len];omega) (le_bd nx 8)
 have F1:=(Fra.refl p b m w).setCells (i*4096) ((le nx 8).map (.int .u8))
 generalize hw1:w.setCells b (i*4096) ((le nx 8).map (.int .u8))=w1 at *
 clear hw1
 have c2:=fill_any b (i*4096+8) 4088 (4096*N-i*4096-8) 5 w1 (by omega) (by omega) (by omega) (by omega) (fun k hk=>by rw[h1.cb _ (by omega)];rfl) (fun k hk=>h1.fb _ (by omega))
 have k1:=h.c1
 go_enter Tryz.func76,Tryz.ntmps76
 go_wp2_with (first|(go_at_call 35;refine c.mono ?_;rintro e w0 ⟨rfl,rfl⟩)|(go_at_call 78;refine c1.mono ?_;rintro e w2 ⟨rfl,rfl⟩)|fail)
 refine c2.mono ?_
 rintro e w3 ⟨⟨v,rfl⟩,k,hw3⟩
 have h3:Mem w3 p b m N (thr B i nx) nx hd cnt:=by
  rw[hw3]
  have:=h1.setCells (i*4096+8) junk (by rw[junk_len];omega) junk_bd
  rw[junk_map] at this
  exact this.drewN k
 have F3:Fra p b m w0 w3:=by
  rw[hw3]
  exact(F1.setCells _ _).drewN k
 clear c c1 c2 hw3 h1 F1
 have g1:=h3.c1
 have g2:=h3.f1
 have HM:Hid (Mem (w3.setCell ⟨p,1,.none⟩ (.int .u64 (2147483648+i*4096))) p b m N (thr B i nx) (2147483648+i*4096) hd cnt):=h3.setNext _ (by omega)
 have HF:Hid (Fra p b m w0 (w3.setCell ⟨p,1,.none⟩ (.int .u64 (2147483648+i*4096)))):=F3.setCell _ _ (.inl rfl)
 go_wp2
 go_end0
 exact⟨⟨_,rfl⟩,HM.out,HF.out⟩
end
theorem info5':∃ i,Tryz.prog.info? 5=some i∧i.zero=some (.int .u8 0)∧i.size=1∧i.bytes=1:=by
 have h:(Tryz.prog.info? 5).map (fun i=>(i.zero,i.size,i.bytes))=some (some (.int .u8 0),1,1):=by kernel_rfl
 cases hq:Tryz.prog.info? 5 with
 |none=>rw[hq] at h;cases h
 |some i=>
  rw[hq] at h
  simp only[Option.map_some,Option.some.injEq,Prod.mk.injEq] at h
  exact⟨i,rfl,h⟩
def Zs (n:Nat):Array Value:=madeCells #[.int .u8 0] n
theorem Zs_at (n i:Nat) (h:i<n):(Zs n)[i]? = some (.int .u8 0):=by
 have:i<(Zs n).size:=by unfold Zs;rw[size_madeCells];exact h
 rw[Array.getElem?_eq_getElem this]
 simp[Zs,madeCells,Nat.mod_one]
theorem make_bytes (n:Nat) (h:n<=16777216) (w:World):(Instr.makeSlice 24 (.int .i64 n) (.int .i64 n)).run Tryz.prog w = .ok (.slice (some ⟨w.heap.size,0,.none⟩) n n) (w.alloc (.cells (Zs n) 5)):=by
 obtain⟨i,h1,h2,h3,h4⟩:=info5'
 have:=run_make w 24 5 i (.int .u8 0) Tryz.underlying24 h1 h2 .i64 .i64 n n (by omega) (by omega) (by rw[h4];omega) (by omega)
 rw[h3] at this
 simpa [Zs,Value.cells] using this
section
theorem blank_any (n:Nat) (h1:1<=n) (h2:n<=4096) (w:World):Calls Tryz.prog 74 #[.int .i64 n] w fun e w'=>∃ p b m,w.heap.size<=p∧w.heap.size<=b∧w.heap.size<=m∧e = .returned (.pointer (some ⟨p,0,.none⟩))∧Mem w' p b m n (fun _=>0) 0 (fun _=>false) 0∧Below w.heap.size w w':=by
 have hmm:=@run_makeMap Tryz.prog
 have hmk:=make_bytes (4096*n) (by omega) w
 rw[show ((4096*n:Nat):Int)=(n:Int)*4096 by omega] at hmk
 have HZ:Hid (∀ i,i<4096*n->(Zs (4096*n))[i]? = some (.int .u8 0)):=fun i hi=>Zs_at _ i hi
 generalize Zs (4096*n)=Z at *
 go_enter Tryz.func74,Tryz.ntmps74
 go_wp2
 go_ret
 refine⟨w.heap.size+1+1,w.heap.size,w.heap.size+1,by omega,by omega,by omega,rfl,?_,?_⟩
 ·have hb:∀ i,(((w.alloc (.cells Z 5)).alloc (.map #[] 0)).alloc (.cells #[.slice (some ⟨w.heap.size,0,.none⟩) (4096*n) (4096*n),.int .u64 0,.map (some (w.heap.size+1))] 80)).cell? ⟨w.heap.size,i,.none⟩=Z[i]?:=fun i=>by
   rw[World.cell?_alloc_past _ _ _ (by simp only[World.size_alloc];omega),World.cell?_alloc_past _ _ _ (by simp),World.cell?_alloc_at _ _ _ _ rfl]
  refine⟨?_,?_,?_,?_,fun i hi=>by rw[hb];exact HZ.out i hi,?_,?_,h1,h2,fun _=>by omega,by omega⟩
  ·rw[World.cell?_alloc_at _ _ _ _ (by simp only[World.size_alloc])];rfl
  ·rw[World.cell?_alloc_at _ _ _ _ (by simp only[World.size_alloc])];rfl
  ·rw[World.cell?_alloc_at _ _ _ _ (by simp only[World.size_alloc])];rfl
  ·have:=World.frozen?_alloc_new ((w.alloc (.cells Z 5)).alloc (.map #[] 0)) #[.slice (some ⟨w.heap.size,0,.none⟩) (4096*n) (4096*n),.int .u64 0,.map (some (w.heap.size+1))] 80 1
   rwa [World.size_alloc,World.size_alloc] at this
  ·intro i hi
   rw[World.frozen?_alloc_old _ _ _ (by simp only[World.size_alloc];omega),World.frozen?_alloc_old _ _ _ (by simp)]
   exact World.frozen?_alloc_new _ _ _ _
  ·refine⟨.map [],?_,fun _ _ _=>rfl,rfl⟩
   have:=(World.ownsMap_made (H:=Unit) (w.alloc (.cells Z 5)) Tryz.prog 23 unitElem).alloc (.cells #[.slice (some ⟨w.heap.size,0,.none⟩) (4096*n) (4096*n),.int .u64 0,.map (some (w.heap.size+1))] 80)
   rw[World.size_alloc] at this
   exact this
 ·exact((zB.alloc zL _).alloc (by simp) _).alloc (by simp only[World.size_alloc];omega) _
end
end Rm
end Go.Proofs.YtabnipbdbnmmpaaGreatDoor
