import Derived.Test.YtabnipbdbnmmpaaGreatDoorSh01
import Derived.Test.YtabnipbdbnmmpaaGreatDoorSh11
set_option linter.unusedVariables false
set_option linter.unusedSimpArgs false
namespace Go.Proofs.YtabnipbdbnmmpaaGreatDoor
namespace Rm
open Go.RowKit
set_option maxRecDepth 100000 in
set_option maxHeartbeats 1000000 in
theorem len8 (w:World) : Calls Tryz.prog 132 #[.int .u64 255] w fun e w' => e = .returned (.int .i64 8)∧w'=w := by
 go_enter Tryz.func132,Tryz.ntmps132
 go_wp2
 go_ret
 exact ⟨by kernel_rfl,rfl⟩
set_option maxRecDepth 100000 in
set_option maxHeartbeats 1000000 in
theorem len16 (w:World) : Calls Tryz.prog 132 #[.int .u64 65535] w fun e w' => e = .returned (.int .i64 16)∧w'=w := by
 go_enter Tryz.func132,Tryz.ntmps132
 go_wp2
 go_ret
 exact ⟨by kernel_rfl,rfl⟩
set_option maxRecDepth 100000 in
set_option maxHeartbeats 1000000 in
theorem len32 (w:World) : Calls Tryz.prog 132 #[.int .u64 4294967295] w fun e w' => e = .returned (.int .i64 32)∧w'=w := by
 go_enter Tryz.func132,Tryz.ntmps132
 go_wp2
 go_ret
 exact ⟨by kernel_rfl,rfl⟩
set_option maxRecDepth 100000 in
set_option maxHeartbeats 1000000 in
theorem len64 (w:World) : Calls Tryz.prog 132 #[.int .u64 18446744073709551615] w fun e w' => e = .returned (.int .i64 64)∧w'=w := by
 go_enter Tryz.func132,Tryz.ntmps132
 go_wp2
 go_ret
 exact ⟨by kernel_rfl,rfl⟩
def num (B:Nat→Int) (o:Nat) : Nat→Int
 | 0 => 0
 | k+1 => num B o k+256 ^ k*B (o+k)
theorem num_bd (B:Nat→Int) (hB:∀ i,0≤B i∧B i<256) (o k:Nat) : 0≤num B o k∧num B o k<256 ^ k := by
 induction k with
 | zero => simp [num]
 | succ k ih =>
  have h := hB (o+k)
  have hp : (0:Int)<256 ^ k := Int.pow_pos (by decide)
  have h1 : (256:Int) ^ k*B (o+k)≤256 ^ k*255 := Int.mul_le_mul_of_nonneg_left (by omega) (by omega)
  have h2 : 0≤(256:Int) ^ k*B (o+k) := Int.mul_nonneg (by omega) h.1
  rw [Int.pow_succ]
  simp only [num]
  omega
def le (v:Int) (k:Nat) : List Int := (List.range k).map fun i => v / 256 ^ i % 256
theorem le_succ (v:Int) (n:Nat) : le v (n+1)=le v n ++ [v / 256 ^ n % 256] := by simp [le,List.range_succ]
theorem le_len (v:Int) (n:Nat) : (le v n).length=n := by simp [le]
theorem le_bd (v:Int) (n:Nat) : ∀ x ∈ le v n,0≤x∧x<256 := by
 intro x hx
 simp only [le,List.mem_map] at hx
 obtain ⟨i,_,rfl⟩ := hx
 omega
theorem setCells_snoc (g:Nat) (v:Value) : ∀ (vs:List Value) (o:Nat) (w:World),(w.setCells g o vs).setCell ⟨g,o+vs.length,.none⟩ v=w.setCells g o (vs ++ [v])
 | [],o,w => rfl
 | u :: vs,o,w => by
  have ih := setCells_snoc g v vs (o+1) (w.setCell ⟨g,o,.none⟩ u)
  simp only [World.setCells,List.cons_append,List.length_cons]
  rw [← ih]
  congr 2
  omega
theorem le_step (w:World) (b o:Nat) (v:Int) (n:Nat) : (w.setCells b o ((le v n).map (.int .u8))).setCell ⟨b,o+n,.none⟩ (.int .u8 (v / 256 ^ n % 256))=w.setCells b o ((le v (n+1)).map (.int .u8)) := by
 have h := setCells_snoc b (.int .u8 (v / 256 ^ n % 256)) ((le v n).map (.int .u8)) o w
 rw [List.length_map,le_len] at h
 rw [h,le_succ,List.map_append]
 rfl
theorem le_cell (w:World) (b o:Nat) (v:Int) (n i:Nat) (hi:n≤i) : (w.setCells b o ((le v n).map (.int .u8))).cell? ⟨b,o+i,.none⟩=w.cell? ⟨b,o+i,.none⟩ :=
 World.cell?_setCells_out b _ o w _ (fun _ _ => .inr (by rw [List.length_map,le_len]; show o+n≤o+i; omega))
theorem mod_step (v:Int) (n:Nat) : v % 256 ^ (n+1)=v % 256 ^ n+256 ^ n*(v / 256 ^ n % 256) := by
 have h : (256:Int) ^ n≠0 := Int.ne_of_gt (Int.pow_pos (by decide))
 rw [Int.pow_succ,Int.emod_def v (256 ^ n*256),Int.emod_def v (256 ^ n),Int.emod_def (v / 256 ^ n) 256,← Int.ediv_ediv_of_nonneg (Int.le_of_lt (Int.pow_pos (by decide))),Int.mul_sub,Int.mul_assoc]
 omega
def md (v:Int) (n:Nat) : Int := v % 256 ^ n
theorem md_bd (v:Int) (n:Nat) : 0≤md v n∧md v n<256 ^ n := ⟨Int.emod_nonneg _ (Int.ne_of_gt (Int.pow_pos (by decide))),Int.emod_lt_of_pos _ (Int.pow_pos (by decide))⟩
theorem md_zero (v:Int) : md v 0=0 := by simp [md,Int.emod_one]
theorem le_stepC (w0 wr:World) (b o:Nat) (v:Int) (n:Nat) (C:Int) (hC:C=256 ^ n) (hw:wr=w0.setCells b o ((le v n).map (.int .u8))) : wr.setCell ⟨b,o+n,.none⟩ (.int .u8 (v / C % 256))=w0.setCells b o ((le v (n+1)).map (.int .u8)) := by
 subst hC hw
 exact le_step w0 b o v n
theorem le_step0 (w0 wr:World) (b o:Nat) (v:Int) (hw:wr=w0.setCells b o ((le v 0).map (.int .u8))) : wr.setCell ⟨b,o,.none⟩ (.int .u8 (v % 256))=w0.setCells b o ((le v 1).map (.int .u8)) := by
 have := le_stepC w0 wr b o v 0 1 rfl hw
 rw [Int.ediv_one] at this
 exact this
theorem md_step (v:Int) (n:Nat) : md v (n+1)=md v n+v / 256 ^ n % 256*256 ^ n := by
 unfold md
 rw [mod_step,Int.mul_comm (256 ^ n) (v / 256 ^ n % 256)]
theorem wraps_u8 (n:Int) (h₀:0≤n) (h₁:n<2 ^ 8) : IntKind.u8.wrap n=n := by rw [IntKind.wrap_u8]; omega
theorem or_u8 (i:Nat) (x y z:Int) (hx:0≤x) (hxi:x<2 ^ i) (hy:0≤y) (hyi:y % 2 ^ i=0) (hy1:y<256) (hz:x+y=z) (hx1:x<256) : bits .or .u8 x y=z := by
 have e : bits .or .u8 x y=bits .or .u8 y x := by simp only [bits]; rw [BitVec.or_comm]
 rw [e,bits_join .u8 8 (by decide) wraps_u8 i y x hy hyi (by omega) hx hxi (by omega)]
 omega
theorem orw_u8_0 (v:Int) : bits .or .u8 (md v 0) (v % 256)=md v 1 := by
 have h := md_step v 0
 have hb := md_bd v 0
 exact or_u8 0 _ _ _ hb.1 (by omega) (by omega) (by omega) (by omega) (by rw [h]; simp) (by omega)
theorem orr_u8_0 (B:Nat→Int) (o:Nat) (hB:∀ i,0≤B i∧B i<256) : bits .or .u8 (num B o 0) (B (o))=num B o 1 := by
 have hx := hB (o)
 have hb := num_bd B hB o 0
 exact or_u8 0 _ _ _ hb.1 (by omega) (by omega) (by omega) (by omega) (by simp [num]; try omega) (by omega)
set_option maxHeartbeats 2000000 in
theorem number8_read (b o len cap:Nat) (B:Nat→Int) (v:Int) (w:World) (hl:1≤len) (hB:∀ i,0≤B i∧B i<256) (hc:∀ i,i<1→w.cell? ⟨b,o+i,.none⟩=some (.int .u8 (B (o+i)))) :
  Calls Tryz.prog 209 #[.slice (some ⟨b,o,.none⟩) len cap,.bool false,.int .u64 v] w fun e w' => e = .returned (.int .u64 (num B o 1))∧w'=w := by
 have c := len8
 have hs : IntKind.u8.signed=false := rfl
 go_enter Tryz.func209,Tryz.ntmps209
 go_wp2_with (go_at_call 132; refine (c _).mono ?_; rintro e w0 ⟨rfl,rfl⟩)
 clear c
 go_loopw [14,7] (fun k s wr => ∃ n : Nat,n≤1∧k = .int .i64 n∧s = .int .u8 (num B o n)∧wr=w0) (fun k _ _ => 1 - (intOf k).toNat)
 case atStart => exact ⟨0,by omega,rfl,rfl,rfl⟩
 case round =>
  obtain ⟨n,hn,rfl,rfl,rfl⟩ := hrel
  have hN : n=0∨n=1 := by omega
  rcases hN with rfl | rfl
  ·have h1 : wr.cell? ⟨b,o,.none⟩=some (.int .u8 (B (o))) := hc 0 (by omega)
   have hx := hB (o)
   have HO : Hid (bits .or .u8 (num B o 0) _ = num B o 1) := orr_u8_0 B o hB
   go_wp2
   exact ⟨⟨1,by omega,rfl,congrArg _ HO.out,trivial⟩,by simp [intOf]⟩
  ·have hb := num_bd B hB o 1
   have hb1 : 0≤num B o 1 := hb.1
   have hb2 : num B o 1<256 := hb.2
   go_wp2
   go_ret
   exact ⟨rfl,rfl⟩
set_option maxHeartbeats 2000000 in
theorem number8_write (b o len cap:Nat) (v:Int) (w:World) (hl:1≤len) (hc:∀ i,i<1→(w.cell? ⟨b,o+i,.none⟩).isSome=true) (hf:∀ i,i<1→w.frozen? ⟨b,o+i,.none⟩=false) (hv:0≤v∧v<18446744073709551616) :
  Calls Tryz.prog 209 #[.slice (some ⟨b,o,.none⟩) len cap,.bool true,.int .u64 v] w fun e w' => e = .returned (.int .u64 (md v 1))∧w'=w.setCells b o ((le v 1).map (.int .u8)) := by
 have c := len8
 have hs : IntKind.u8.signed=false := rfl
 go_enter Tryz.func209,Tryz.ntmps209
 go_wp2_with (go_at_call 132; refine (c _).mono ?_; rintro e w0 ⟨rfl,rfl⟩)
 clear c
 go_loopw [14,7] (fun k s wr => ∃ n : Nat,n≤1∧k = .int .i64 n∧s = .int .u8 (md v n)∧wr=w0.setCells b o ((le v n).map (.int .u8))) (fun k _ _ => 1 - (intOf k).toNat)
 case atStart => exact ⟨0,by omega,rfl,by rw [md_zero],rfl⟩
 case round =>
  obtain ⟨n,hn,rfl,rfl,hw⟩ := hrel
  have hN : n=0∨n=1 := by omega
  rcases hN with rfl | rfl
  ·obtain ⟨u,h0⟩ := Option.isSome_iff_exists.1 (hc 0 (by omega))
   have h1 : wr.cell? ⟨b,o,.none⟩=some u := by rw [hw]; exact (le_cell w0 b o v 0 0 (Nat.le_refl _)).trans h0
   have h2 : wr.frozen? ⟨b,o,.none⟩=false := by rw [hw,World.frozen?_setCells]; exact hf 0 (by omega)
   have HW : Hid (wr=w0.setCells b o ((le v 0).map (.int .u8))) := hw
   clear hw h0 hc hf
   have HO : Hid (bits .or .u8 (md v 0) _ = md v 1) := orw_u8_0 v
   go_wp2
   exact ⟨⟨1,by omega,rfl,congrArg _ HO.out,le_step0 w0 wr b o v HW.out⟩,by simp [intOf]⟩
  ·have hb := md_bd v 1
   have hb1 : 0≤md v 1 := hb.1
   have hb2 : md v 1<256 := hb.2
   have HW : Hid (wr=w0.setCells b o ((le v 1).map (.int .u8))) := hw
   clear hw
   go_wp2
   go_ret
   exact ⟨rfl,HW.out⟩
theorem wraps_u16 (n:Int) (h₀:0≤n) (h₁:n<2 ^ 16) : IntKind.u16.wrap n=n := by rw [IntKind.wrap_u16]; omega
theorem or_u16 (i:Nat) (x y z:Int) (hx:0≤x) (hxi:x<2 ^ i) (hy:0≤y) (hyi:y % 2 ^ i=0) (hy1:y<65536) (hz:x+y=z) (hx1:x<65536) : bits .or .u16 x y=z := by
 have e : bits .or .u16 x y=bits .or .u16 y x := by simp only [bits]; rw [BitVec.or_comm]
 rw [e,bits_join .u16 16 (by decide) wraps_u16 i y x hy hyi (by omega) hx hxi (by omega)]
 omega
theorem orw_u16_0 (v:Int) : bits .or .u16 (md v 0) (v % 256)=md v 1 := by
 have h := md_step v 0
 have hb := md_bd v 0
 exact or_u16 0 _ _ _ hb.1 (by omega) (by omega) (by omega) (by omega) (by rw [h]; simp) (by omega)
theorem orr_u16_0 (B:Nat→Int) (o:Nat) (hB:∀ i,0≤B i∧B i<256) : bits .or .u16 (num B o 0) (B (o))=num B o 1 := by
 have hx := hB (o)
 have hb := num_bd B hB o 0
 exact or_u16 0 _ _ _ hb.1 (by omega) (by omega) (by omega) (by omega) (by simp [num]; try omega) (by omega)
theorem orw_u16_1 (v:Int) : bits .or .u16 (md v 1) (v / 256 % 256*256)=md v 2 := by
 have h := md_step v 1
 have hb := md_bd v 1
 exact or_u16 8 _ _ _ hb.1 (by omega) (by omega) (by omega) (by omega) (by rw [h]; rfl) (by omega)
theorem orr_u16_1 (B:Nat→Int) (o:Nat) (hB:∀ i,0≤B i∧B i<256) : bits .or .u16 (num B o 1) (B (o+1)*256)=num B o 2 := by
 have hx := hB (o+1)
 have hb := num_bd B hB o 1
 exact or_u16 8 _ _ _ hb.1 (by omega) (by omega) (by omega) (by omega) (by simp [num]; try omega) (by omega)
set_option maxHeartbeats 2000000 in
theorem number16_read (b o len cap:Nat) (B:Nat→Int) (v:Int) (w:World) (hl:2≤len) (hB:∀ i,0≤B i∧B i<256) (hc:∀ i,i<2→w.cell? ⟨b,o+i,.none⟩=some (.int .u8 (B (o+i)))) :
  Calls Tryz.prog 210 #[.slice (some ⟨b,o,.none⟩) len cap,.bool false,.int .u64 v] w fun e w' => e = .returned (.int .u64 (num B o 2))∧w'=w := by
 have c := len16
 have hs : IntKind.u16.signed=false := rfl
 go_enter Tryz.func210,Tryz.ntmps210
 go_wp2_with (go_at_call 132; refine (c _).mono ?_; rintro e w0 ⟨rfl,rfl⟩)
 clear c
 go_loopw [14,7] (fun k s wr => ∃ n : Nat,n≤2∧k = .int .i64 n∧s = .int .u16 (num B o n)∧wr=w0) (fun k _ _ => 2 - (intOf k).toNat)
 case atStart => exact ⟨0,by omega,rfl,rfl,rfl⟩
 case round =>
  obtain ⟨n,hn,rfl,rfl,rfl⟩ := hrel
  have hN : n=0∨n=1∨n=2 := by omega
  rcases hN with rfl | rfl | rfl
  ·have h1 : wr.cell? ⟨b,o,.none⟩=some (.int .u8 (B (o))) := hc 0 (by omega)
   have hx := hB (o)
   have HO : Hid (bits .or .u16 (num B o 0) _ = num B o 1) := orr_u16_0 B o hB
   go_wp2
   exact ⟨⟨1,by omega,rfl,congrArg _ HO.out,trivial⟩,by simp [intOf]⟩
  ·have h1 : wr.cell? ⟨b,o+1,.none⟩=some (.int .u8 (B (o+1))) := hc 1 (by omega)
   have hx := hB (o+1)
   have HO : Hid (bits .or .u16 (num B o 1) _ = num B o 2) := orr_u16_1 B o hB
   go_wp2
   exact ⟨⟨2,by omega,rfl,congrArg _ HO.out,trivial⟩,by simp [intOf]⟩
  ·have hb := num_bd B hB o 2
   have hb1 : 0≤num B o 2 := hb.1
   have hb2 : num B o 2<65536 := hb.2
   go_wp2
   go_ret
   exact ⟨rfl,rfl⟩
set_option maxHeartbeats 2000000 in
theorem number16_write (b o len cap:Nat) (v:Int) (w:World) (hl:2≤len) (hc:∀ i,i<2→(w.cell? ⟨b,o+i,.none⟩).isSome=true) (hf:∀ i,i<2→w.frozen? ⟨b,o+i,.none⟩=false) (hv:0≤v∧v<18446744073709551616) :
  Calls Tryz.prog 210 #[.slice (some ⟨b,o,.none⟩) len cap,.bool true,.int .u64 v] w fun e w' => e = .returned (.int .u64 (md v 2))∧w'=w.setCells b o ((le v 2).map (.int .u8)) := by
 have c := len16
 have hs : IntKind.u16.signed=false := rfl
 go_enter Tryz.func210,Tryz.ntmps210
 go_wp2_with (go_at_call 132; refine (c _).mono ?_; rintro e w0 ⟨rfl,rfl⟩)
 clear c
 go_loopw [14,7] (fun k s wr => ∃ n : Nat,n≤2∧k = .int .i64 n∧s = .int .u16 (md v n)∧wr=w0.setCells b o ((le v n).map (.int .u8))) (fun k _ _ => 2 - (intOf k).toNat)
 case atStart => exact ⟨0,by omega,rfl,by rw [md_zero],rfl⟩
 case round =>
  obtain ⟨n,hn,rfl,rfl,hw⟩ := hrel
  have hN : n=0∨n=1∨n=2 := by omega
  rcases hN with rfl | rfl | rfl
  ·obtain ⟨u,h0⟩ := Option.isSome_iff_exists.1 (hc 0 (by omega))
   have h1 : wr.cell? ⟨b,o,.none⟩=some u := by rw [hw]; exact (le_cell w0 b o v 0 0 (Nat.le_refl _)).trans h0
   have h2 : wr.frozen? ⟨b,o,.none⟩=false := by rw [hw,World.frozen?_setCells]; exact hf 0 (by omega)
   have HW : Hid (wr=w0.setCells b o ((le v 0).map (.int .u8))) := hw
   clear hw h0 hc hf
   have HO : Hid (bits .or .u16 (md v 0) _ = md v 1) := orw_u16_0 v
   go_wp2
   exact ⟨⟨1,by omega,rfl,congrArg _ HO.out,le_step0 w0 wr b o v HW.out⟩,by simp [intOf]⟩
  ·obtain ⟨u,h0⟩ := Option.isSome_iff_exists.1 (hc 1 (by omega))
   have h1 : wr.cell? ⟨b,o+1,.none⟩=some u := by rw [hw]; exact (le_cell w0 b o v 1 1 (Nat.le_refl _)).trans h0
   have h2 : wr.frozen? ⟨b,o+1,.none⟩=false := by rw [hw,World.frozen?_setCells]; exact hf 1 (by omega)
   have HW : Hid (wr=w0.setCells b o ((le v 1).map (.int .u8))) := hw
   clear hw h0 hc hf
   have HO : Hid (bits .or .u16 (md v 1) _ = md v 2) := orw_u16_1 v
   go_wp2
   exact ⟨⟨2,by omega,rfl,congrArg _ HO.out,le_stepC w0 wr b o v 1 256 (by decide) HW.out⟩,by simp [intOf]⟩
  ·have hb := md_bd v 2
   have hb1 : 0≤md v 2 := hb.1
   have hb2 : md v 2<65536 := hb.2
   have HW : Hid (wr=w0.setCells b o ((le v 2).map (.int .u8))) := hw
   clear hw
   go_wp2
   go_ret
   exact ⟨rfl,HW.out⟩
theorem wraps_u32 (n:Int) (h₀:0≤n) (h₁:n<2 ^ 32) : IntKind.u32.wrap n=n := by rw [IntKind.wrap_u32]; omega
theorem or_u32 (i:Nat) (x y z:Int) (hx:0≤x) (hxi:x<2 ^ i) (hy:0≤y) (hyi:y % 2 ^ i=0) (hy1:y<4294967296) (hz:x+y=z) (hx1:x<4294967296) : bits .or .u32 x y=z := by
 have e : bits .or .u32 x y=bits .or .u32 y x := by simp only [bits]; rw [BitVec.or_comm]
 rw [e,bits_join .u32 32 (by decide) wraps_u32 i y x hy hyi (by omega) hx hxi (by omega)]
 omega
theorem orw_u32_0 (v:Int) : bits .or .u32 (md v 0) (v % 256)=md v 1 := by
 have h := md_step v 0
 have hb := md_bd v 0
 exact or_u32 0 _ _ _ hb.1 (by omega) (by omega) (by omega) (by omega) (by rw [h]; simp) (by omega)
theorem orr_u32_0 (B:Nat→Int) (o:Nat) (hB:∀ i,0≤B i∧B i<256) : bits .or .u32 (num B o 0) (B (o))=num B o 1 := by
 have hx := hB (o)
 have hb := num_bd B hB o 0
 exact or_u32 0 _ _ _ hb.1 (by omega) (by omega) (by omega) (by omega) (by simp [num]; try omega) (by omega)
theorem orw_u32_1 (v:Int) : bits .or .u32 (md v 1) (v / 256 % 256*256)=md v 2 := by
 have h := md_step v 1
 have hb := md_bd v 1
 exact or_u32 8 _ _ _ hb.1 (by omega) (by omega) (by omega) (by omega) (by rw [h]; rfl) (by omega)
theorem orr_u32_1 (B:Nat→Int) (o:Nat) (hB:∀ i,0≤B i∧B i<256) : bits .or .u32 (num B o 1) (B (o+1)*256)=num B o 2 := by
 have hx := hB (o+1)
 have hb := num_bd B hB o 1
 exact or_u32 8 _ _ _ hb.1 (by omega) (by omega) (by omega) (by omega) (by simp [num]; try omega) (by omega)
theorem orw_u32_2 (v:Int) : bits .or .u32 (md v 2) (v / 65536 % 256*65536)=md v 3 := by
 have h := md_step v 2
 have hb := md_bd v 2
 exact or_u32 16 _ _ _ hb.1 (by omega) (by omega) (by omega) (by omega) (by rw [h]; rfl) (by omega)
theorem orr_u32_2 (B:Nat→Int) (o:Nat) (hB:∀ i,0≤B i∧B i<256) : bits .or .u32 (num B o 2) (B (o+2)*65536)=num B o 3 := by
 have hx := hB (o+2)
 have hb := num_bd B hB o 2
 exact or_u32 16 _ _ _ hb.1 (by omega) (by omega) (by omega) (by omega) (by simp [num]; try omega) (by omega)
theorem orw_u32_3 (v:Int) : bits .or .u32 (md v 3) (v / 16777216 % 256*16777216)=md v 4 := by
 have h := md_step v 3
 have hb := md_bd v 3
 exact or_u32 24 _ _ _ hb.1 (by omega) (by omega) (by omega) (by omega) (by rw [h]; rfl) (by omega)
theorem orr_u32_3 (B:Nat→Int) (o:Nat) (hB:∀ i,0≤B i∧B i<256) : bits .or .u32 (num B o 3) (B (o+3)*16777216)=num B o 4 := by
 have hx := hB (o+3)
 have hb := num_bd B hB o 3
 exact or_u32 24 _ _ _ hb.1 (by omega) (by omega) (by omega) (by omega) (by simp [num]; try omega) (by omega)
set_option maxHeartbeats 2000000 in
theorem number32_read (b o len cap:Nat) (B:Nat→Int) (v:Int) (w:World) (hl:4≤len) (hB:∀ i,0≤B i∧B i<256) (hc:∀ i,i<4→w.cell? ⟨b,o+i,.none⟩=some (.int .u8 (B (o+i)))) :
  Calls Tryz.prog 75 #[.slice (some ⟨b,o,.none⟩) len cap,.bool false,.int .u64 v] w fun e w' => e = .returned (.int .u64 (num B o 4))∧w'=w := by
 have c := len32
 have hs : IntKind.u32.signed=false := rfl
 go_enter Tryz.func75,Tryz.ntmps75
 go_wp2_with (go_at_call 132; refine (c _).mono ?_; rintro e w0 ⟨rfl,rfl⟩)
 clear c
 go_loopw [14,7] (fun k s wr => ∃ n : Nat,n≤4∧k = .int .i64 n∧s = .int .u32 (num B o n)∧wr=w0) (fun k _ _ => 4 - (intOf k).toNat)
 case atStart => exact ⟨0,by omega,rfl,rfl,rfl⟩
 case round =>
  obtain ⟨n,hn,rfl,rfl,rfl⟩ := hrel
  have hN : n=0∨n=1∨n=2∨n=3∨n=4 := by omega
  rcases hN with rfl | rfl | rfl | rfl | rfl
  ·have h1 : wr.cell? ⟨b,o,.none⟩=some (.int .u8 (B (o))) := hc 0 (by omega)
   have hx := hB (o)
   have HO : Hid (bits .or .u32 (num B o 0) _ = num B o 1) := orr_u32_0 B o hB
   go_wp2
   exact ⟨⟨1,by omega,rfl,congrArg _ HO.out,trivial⟩,by simp [intOf]⟩
  ·have h1 : wr.cell? ⟨b,o+1,.none⟩=some (.int .u8 (B (o+1))) := hc 1 (by omega)
   have hx := hB (o+1)
   have HO : Hid (bits .or .u32 (num B o 1) _ = num B o 2) := orr_u32_1 B o hB
   go_wp2
   exact ⟨⟨2,by omega,rfl,congrArg _ HO.out,trivial⟩,by simp [intOf]⟩
  ·have h1 : wr.cell? ⟨b,o+2,.none⟩=some (.int .u8 (B (o+2))) := hc 2 (by omega)
   have hx := hB (o+2)
   have HO : Hid (bits .or .u32 (num B o 2) _ = num B o 3) := orr_u32_2 B o hB
   go_wp2
   exact ⟨⟨3,by omega,rfl,congrArg _ HO.out,trivial⟩,by simp [intOf]⟩
  ·have h1 : wr.cell? ⟨b,o+3,.none⟩=some (.int .u8 (B (o+3))) := hc 3 (by omega)
   have hx := hB (o+3)
   have HO : Hid (bits .or .u32 (num B o 3) _ = num B o 4) := orr_u32_3 B o hB
   go_wp2
   exact ⟨⟨4,by omega,rfl,congrArg _ HO.out,trivial⟩,by simp [intOf]⟩
  ·have hb := num_bd B hB o 4
   have hb1 : 0≤num B o 4 := hb.1
   have hb2 : num B o 4<4294967296 := hb.2
   go_wp2
   go_ret
   exact ⟨rfl,rfl⟩
set_option maxHeartbeats 2000000 in
theorem number32_write (b o len cap:Nat) (v:Int) (w:World) (hl:4≤len) (hc:∀ i,i<4→(w.cell? ⟨b,o+i,.none⟩).isSome=true) (hf:∀ i,i<4→w.frozen? ⟨b,o+i,.none⟩=false) (hv:0≤v∧v<18446744073709551616) :
  Calls Tryz.prog 75 #[.slice (some ⟨b,o,.none⟩) len cap,.bool true,.int .u64 v] w fun e w' => e = .returned (.int .u64 (md v 4))∧w'=w.setCells b o ((le v 4).map (.int .u8)) := by
 have c := len32
 have hs : IntKind.u32.signed=false := rfl
 go_enter Tryz.func75,Tryz.ntmps75
 go_wp2_with (go_at_call 132; refine (c _).mono ?_; rintro e w0 ⟨rfl,rfl⟩)
 clear c
 go_loopw [14,7] (fun k s wr => ∃ n : Nat,n≤4∧k = .int .i64 n∧s = .int .u32 (md v n)∧wr=w0.setCells b o ((le v n).map (.int .u8))) (fun k _ _ => 4 - (intOf k).toNat)
 case atStart => exact ⟨0,by omega,rfl,by rw [md_zero],rfl⟩
 case round =>
  obtain ⟨n,hn,rfl,rfl,hw⟩ := hrel
  have hN : n=0∨n=1∨n=2∨n=3∨n=4 := by omega
  rcases hN with rfl | rfl | rfl | rfl | rfl
  ·obtain ⟨u,h0⟩ := Option.isSome_iff_exists.1 (hc 0 (by omega))
   have h1 : wr.cell? ⟨b,o,.none⟩=some u := by rw [hw]; exact (le_cell w0 b o v 0 0 (Nat.le_refl _)).trans h0
   have h2 : wr.frozen? ⟨b,o,.none⟩=false := by rw [hw,World.frozen?_setCells]; exact hf 0 (by omega)
   have HW : Hid (wr=w0.setCells b o ((le v 0).map (.int .u8))) := hw
   clear hw h0 hc hf
   have HO : Hid (bits .or .u32 (md v 0) _ = md v 1) := orw_u32_0 v
   go_wp2
   exact ⟨⟨1,by omega,rfl,congrArg _ HO.out,le_step0 w0 wr b o v HW.out⟩,by simp [intOf]⟩
  ·obtain ⟨u,h0⟩ := Option.isSome_iff_exists.1 (hc 1 (by omega))
   have h1 : wr.cell? ⟨b,o+1,.none⟩=some u := by rw [hw]; exact (le_cell w0 b o v 1 1 (Nat.le_refl _)).trans h0
   have h2 : wr.frozen? ⟨b,o+1,.none⟩=false := by rw [hw,World.frozen?_setCells]; exact hf 1 (by omega)
   have HW : Hid (wr=w0.setCells b o ((le v 1).map (.int .u8))) := hw
   clear hw h0 hc hf
   have HO : Hid (bits .or .u32 (md v 1) _ = md v 2) := orw_u32_1 v
   go_wp2
   exact ⟨⟨2,by omega,rfl,congrArg _ HO.out,le_stepC w0 wr b o v 1 256 (by decide) HW.out⟩,by simp [intOf]⟩
  ·obtain ⟨u,h0⟩ := Option.isSome_iff_exists.1 (hc 2 (by omega))
   have h1 : wr.cell? ⟨b,o+2,.none⟩=some u := by rw [hw]; exact (le_cell w0 b o v 2 2 (Nat.le_refl _)).trans h0
   have h2 : wr.frozen? ⟨b,o+2,.none⟩=false := by rw [hw,World.frozen?_setCells]; exact hf 2 (by omega)
   have HW : Hid (wr=w0.setCells b o ((le v 2).map (.int .u8))) := hw
   clear hw h0 hc hf
   have HO : Hid (bits .or .u32 (md v 2) _ = md v 3) := orw_u32_2 v
   go_wp2
   exact ⟨⟨3,by omega,rfl,congrArg _ HO.out,le_stepC w0 wr b o v 2 65536 (by decide) HW.out⟩,by simp [intOf]⟩
  ·obtain ⟨u,h0⟩ := Option.isSome_iff_exists.1 (hc 3 (by omega))
   have h1 : wr.cell? ⟨b,o+3,.none⟩=some u := by rw [hw]; exact (le_cell w0 b o v 3 3 (Nat.le_refl _)).trans h0
   have h2 : wr.frozen? ⟨b,o+3,.none⟩=false := by rw [hw,World.frozen?_setCells]; exact hf 3 (by omega)
   have HW : Hid (wr=w0.setCells b o ((le v 3).map (.int .u8))) := hw
   clear hw h0 hc hf
   have HO : Hid (bits .or .u32 (md v 3) _ = md v 4) := orw_u32_3 v
   go_wp2
   exact ⟨⟨4,by omega,rfl,congrArg _ HO.out,le_stepC w0 wr b o v 3 16777216 (by decide) HW.out⟩,by simp [intOf]⟩
  ·have hb := md_bd v 4
   have hb1 : 0≤md v 4 := hb.1
   have hb2 : md v 4<4294967296 := hb.2
   have HW : Hid (wr=w0.setCells b o ((le v 4).map (.int .u8))) := hw
   clear hw
   go_wp2
   go_ret
   exact ⟨rfl,HW.out⟩
theorem wraps_u64 (n:Int) (h₀:0≤n) (h₁:n<2 ^ 64) : IntKind.u64.wrap n=n := by rw [IntKind.wrap_u64]; omega
theorem or_u64 (i:Nat) (x y z:Int) (hx:0≤x) (hxi:x<2 ^ i) (hy:0≤y) (hyi:y % 2 ^ i=0) (hy1:y<18446744073709551616) (hz:x+y=z) (hx1:x<18446744073709551616) : bits .or .u64 x y=z := by
 have e : bits .or .u64 x y=bits .or .u64 y x := by simp only [bits]; rw [BitVec.or_comm]
 rw [e,bits_join .u64 64 (by decide) wraps_u64 i y x hy hyi (by omega) hx hxi (by omega)]
 omega
theorem orw_u64_0 (v:Int) : bits .or .u64 (md v 0) (v % 256)=md v 1 := by
 have h := md_step v 0
 have hb := md_bd v 0
 exact or_u64 0 _ _ _ hb.1 (by omega) (by omega) (by omega) (by omega) (by rw [h]; simp) (by omega)
theorem orr_u64_0 (B:Nat→Int) (o:Nat) (hB:∀ i,0≤B i∧B i<256) : bits .or .u64 (num B o 0) (B (o))=num B o 1 := by
 have hx := hB (o)
 have hb := num_bd B hB o 0
 exact or_u64 0 _ _ _ hb.1 (by omega) (by omega) (by omega) (by omega) (by simp [num]; try omega) (by omega)
theorem orw_u64_1 (v:Int) : bits .or .u64 (md v 1) (v / 256 % 256*256)=md v 2 := by
 have h := md_step v 1
 have hb := md_bd v 1
 exact or_u64 8 _ _ _ hb.1 (by omega) (by omega) (by omega) (by omega) (by rw [h]; rfl) (by omega)
theorem orr_u64_1 (B:Nat→Int) (o:Nat) (hB:∀ i,0≤B i∧B i<256) : bits .or .u64 (num B o 1) (B (o+1)*256)=num B o 2 := by
 have hx := hB (o+1)
 have hb := num_bd B hB o 1
 exact or_u64 8 _ _ _ hb.1 (by omega) (by omega) (by omega) (by omega) (by simp [num]; try omega) (by omega)
theorem orw_u64_2 (v:Int) : bits .or .u64 (md v 2) (v / 65536 % 256*65536)=md v 3 := by
 have h := md_step v 2
 have hb := md_bd v 2
 exact or_u64 16 _ _ _ hb.1 (by omega) (by omega) (by omega) (by omega) (by rw [h]; rfl) (by omega)
theorem orr_u64_2 (B:Nat→Int) (o:Nat) (hB:∀ i,0≤B i∧B i<256) : bits .or .u64 (num B o 2) (B (o+2)*65536)=num B o 3 := by
 have hx := hB (o+2)
 have hb := num_bd B hB o 2
 exact or_u64 16 _ _ _ hb.1 (by omega) (by omega) (by omega) (by omega) (by simp [num]; try omega) (by omega)
theorem orw_u64_3 (v:Int) : bits .or .u64 (md v 3) (v / 16777216 % 256*16777216)=md v 4 := by
 have h := md_step v 3
 have hb := md_bd v 3
 exact or_u64 24 _ _ _ hb.1 (by omega) (by omega) (by omega) (by omega) (by rw [h]; rfl) (by omega)
theorem orr_u64_3 (B:Nat→Int) (o:Nat) (hB:∀ i,0≤B i∧B i<256) : bits .or .u64 (num B o 3) (B (o+3)*16777216)=num B o 4 := by
 have hx := hB (o+3)
 have hb := num_bd B hB o 3
 exact or_u64 24 _ _ _ hb.1 (by omega) (by omega) (by omega) (by omega) (by simp [num]; try omega) (by omega)
theorem orw_u64_4 (v:Int) : bits .or .u64 (md v 4) (v / 4294967296 % 256*4294967296)=md v 5 := by
 have h := md_step v 4
 have hb := md_bd v 4
 exact or_u64 32 _ _ _ hb.1 (by omega) (by omega) (by omega) (by omega) (by rw [h]; rfl) (by omega)
theorem orr_u64_4 (B:Nat→Int) (o:Nat) (hB:∀ i,0≤B i∧B i<256) : bits .or .u64 (num B o 4) (B (o+4)*4294967296)=num B o 5 := by
 have hx := hB (o+4)
 have hb := num_bd B hB o 4
 exact or_u64 32 _ _ _ hb.1 (by omega) (by omega) (by omega) (by omega) (by simp [num]; try omega) (by omega)
theorem orw_u64_5 (v:Int) : bits .or .u64 (md v 5) (v / 1099511627776 % 256*1099511627776)=md v 6 := by
 have h := md_step v 5
 have hb := md_bd v 5
 exact or_u64 40 _ _ _ hb.1 (by omega) (by omega) (by omega) (by omega) (by rw [h]; rfl) (by omega)
theorem orr_u64_5 (B:Nat→Int) (o:Nat) (hB:∀ i,0≤B i∧B i<256) : bits .or .u64 (num B o 5) (B (o+5)*1099511627776)=num B o 6 := by
 have hx := hB (o+5)
 have hb := num_bd B hB o 5
 exact or_u64 40 _ _ _ hb.1 (by omega) (by omega) (by omega) (by omega) (by simp [num]; try omega) (by omega)
theorem orw_u64_6 (v:Int) : bits .or .u64 (md v 6) (v / 281474976710656 % 256*281474976710656)=md v 7 := by
 have h := md_step v 6
 have hb := md_bd v 6
 exact or_u64 48 _ _ _ hb.1 (by omega) (by omega) (by omega) (by omega) (by rw [h]; rfl) (by omega)
theorem orr_u64_6 (B:Nat→Int) (o:Nat) (hB:∀ i,0≤B i∧B i<256) : bits .or .u64 (num B o 6) (B (o+6)*281474976710656)=num B o 7 := by
 have hx := hB (o+6)
 have hb := num_bd B hB o 6
 exact or_u64 48 _ _ _ hb.1 (by omega) (by omega) (by omega) (by omega) (by simp [num]; try omega) (by omega)
theorem orw_u64_7 (v:Int) : bits .or .u64 (md v 7) (v / 72057594037927936 % 256*72057594037927936)=md v 8 := by
 have h := md_step v 7
 have hb := md_bd v 7
 exact or_u64 56 _ _ _ hb.1 (by omega) (by omega) (by omega) (by omega) (by rw [h]; rfl) (by omega)
theorem orr_u64_7 (B:Nat→Int) (o:Nat) (hB:∀ i,0≤B i∧B i<256) : bits .or .u64 (num B o 7) (B (o+7)*72057594037927936)=num B o 8 := by
 have hx := hB (o+7)
 have hb := num_bd B hB o 7
 exact or_u64 56 _ _ _ hb.1 (by omega) (by omega) (by omega) (by omega) (by simp [num]; try omega) (by omega)
set_option maxHeartbeats 2000000 in
theorem number64_read (b o len cap:Nat) (B:Nat→Int) (v:Int) (w:World) (hl:8≤len) (hB:∀ i,0≤B i∧B i<256) (hc:∀ i,i<8→w.cell? ⟨b,o+i,.none⟩=some (.int .u8 (B (o+i)))) :
  Calls Tryz.prog 78 #[.slice (some ⟨b,o,.none⟩) len cap,.bool false,.int .u64 v] w fun e w' => e = .returned (.int .u64 (num B o 8))∧w'=w := by
 have c := len64
 have hs : IntKind.u64.signed=false := rfl
 go_enter Tryz.func78,Tryz.ntmps78
 go_wp2_with (go_at_call 132; refine (c _).mono ?_; rintro e w0 ⟨rfl,rfl⟩)
 clear c
 go_loopw [13,7] (fun k s wr => ∃ n : Nat,n≤8∧k = .int .i64 n∧s = .int .u64 (num B o n)∧wr=w0) (fun k _ _ => 8 - (intOf k).toNat)
 case atStart => exact ⟨0,by omega,rfl,rfl,rfl⟩
 case round =>
  obtain ⟨n,hn,rfl,rfl,rfl⟩ := hrel
  have hN : n=0∨n=1∨n=2∨n=3∨n=4∨n=5∨n=6∨n=7∨n=8 := by omega
  rcases hN with rfl | rfl | rfl | rfl | rfl | rfl | rfl | rfl | rfl
  ·have h1 : wr.cell? ⟨b,o,.none⟩=some (.int .u8 (B (o))) := hc 0 (by omega)
   have hx := hB (o)
   have HO : Hid (bits .or .u64 (num B o 0) _ = num B o 1) := orr_u64_0 B o hB
   go_wp2
   exact ⟨⟨1,by omega,rfl,congrArg _ HO.out,trivial⟩,by simp [intOf]⟩
  ·have h1 : wr.cell? ⟨b,o+1,.none⟩=some (.int .u8 (B (o+1))) := hc 1 (by omega)
   have hx := hB (o+1)
   have HO : Hid (bits .or .u64 (num B o 1) _ = num B o 2) := orr_u64_1 B o hB
   go_wp2
   exact ⟨⟨2,by omega,rfl,congrArg _ HO.out,trivial⟩,by simp [intOf]⟩
  ·have h1 : wr.cell? ⟨b,o+2,.none⟩=some (.int .u8 (B (o+2))) := hc 2 (by omega)
   have hx := hB (o+2)
   have HO : Hid (bits .or .u64 (num B o 2) _ = num B o 3) := orr_u64_2 B o hB
   go_wp2
   exact ⟨⟨3,by omega,rfl,congrArg _ HO.out,trivial⟩,by simp [intOf]⟩
  ·have h1 : wr.cell? ⟨b,o+3,.none⟩=some (.int .u8 (B (o+3))) := hc 3 (by omega)
   have hx := hB (o+3)
   have HO : Hid (bits .or .u64 (num B o 3) _ = num B o 4) := orr_u64_3 B o hB
   go_wp2
   exact ⟨⟨4,by omega,rfl,congrArg _ HO.out,trivial⟩,by simp [intOf]⟩
  ·have h1 : wr.cell? ⟨b,o+4,.none⟩=some (.int .u8 (B (o+4))) := hc 4 (by omega)
   have hx := hB (o+4)
   have HO : Hid (bits .or .u64 (num B o 4) _ = num B o 5) := orr_u64_4 B o hB
   go_wp2
   exact ⟨⟨5,by omega,rfl,congrArg _ HO.out,trivial⟩,by simp [intOf]⟩
  ·have h1 : wr.cell? ⟨b,o+5,.none⟩=some (.int .u8 (B (o+5))) := hc 5 (by omega)
   have hx := hB (o+5)
   have HO : Hid (bits .or .u64 (num B o 5) _ = num B o 6) := orr_u64_5 B o hB
   go_wp2
   exact ⟨⟨6,by omega,rfl,congrArg _ HO.out,trivial⟩,by simp [intOf]⟩
  ·have h1 : wr.cell? ⟨b,o+6,.none⟩=some (.int .u8 (B (o+6))) := hc 6 (by omega)
   have hx := hB (o+6)
   have HO : Hid (bits .or .u64 (num B o 6) _ = num B o 7) := orr_u64_6 B o hB
   go_wp2
   exact ⟨⟨7,by omega,rfl,congrArg _ HO.out,trivial⟩,by simp [intOf]⟩
  ·have h1 : wr.cell? ⟨b,o+7,.none⟩=some (.int .u8 (B (o+7))) := hc 7 (by omega)
   have hx := hB (o+7)
   have HO : Hid (bits .or .u64 (num B o 7) _ = num B o 8) := orr_u64_7 B o hB
   go_wp2
   exact ⟨⟨8,by omega,rfl,congrArg _ HO.out,trivial⟩,by simp [intOf]⟩
  ·have hb := num_bd B hB o 8
   have hb1 : 0≤num B o 8 := hb.1
   have hb2 : num B o 8<18446744073709551616 := hb.2
   go_wp2
   go_ret
   exact ⟨rfl,rfl⟩
set_option maxHeartbeats 2000000 in
theorem number64_write (b o len cap:Nat) (v:Int) (w:World) (hl:8≤len) (hc:∀ i,i<8→(w.cell? ⟨b,o+i,.none⟩).isSome=true) (hf:∀ i,i<8→w.frozen? ⟨b,o+i,.none⟩=false) (hv:0≤v∧v<18446744073709551616) :
  Calls Tryz.prog 78 #[.slice (some ⟨b,o,.none⟩) len cap,.bool true,.int .u64 v] w fun e w' => e = .returned (.int .u64 (md v 8))∧w'=w.setCells b o ((le v 8).map (.int .u8)) := by
 have c := len64
 have hs : IntKind.u64.signed=false := rfl
 go_enter Tryz.func78,Tryz.ntmps78
 go_wp2_with (go_at_call 132; refine (c _).mono ?_; rintro e w0 ⟨rfl,rfl⟩)
 clear c
 go_loopw [13,7] (fun k s wr => ∃ n : Nat,n≤8∧k = .int .i64 n∧s = .int .u64 (md v n)∧wr=w0.setCells b o ((le v n).map (.int .u8))) (fun k _ _ => 8 - (intOf k).toNat)
 case atStart => exact ⟨0,by omega,rfl,by rw [md_zero],rfl⟩
 case round =>
  obtain ⟨n,hn,rfl,rfl,hw⟩ := hrel
  have hN : n=0∨n=1∨n=2∨n=3∨n=4∨n=5∨n=6∨n=7∨n=8 := by omega
  rcases hN with rfl | rfl | rfl | rfl | rfl | rfl | rfl | rfl | rfl
  ·obtain ⟨u,h0⟩ := Option.isSome_iff_exists.1 (hc 0 (by omega))
   have h1 : wr.cell? ⟨b,o,.none⟩=some u := by rw [hw]; exact (le_cell w0 b o v 0 0 (Nat.le_refl _)).trans h0
   have h2 : wr.frozen? ⟨b,o,.none⟩=false := by rw [hw,World.frozen?_setCells]; exact hf 0 (by omega)
   have HW : Hid (wr=w0.setCells b o ((le v 0).map (.int .u8))) := hw
   clear hw h0 hc hf
   have HO : Hid (bits .or .u64 (md v 0) _ = md v 1) := orw_u64_0 v
   go_wp2
   exact ⟨⟨1,by omega,rfl,congrArg _ HO.out,le_step0 w0 wr b o v HW.out⟩,by simp [intOf]⟩
  ·obtain ⟨u,h0⟩ := Option.isSome_iff_exists.1 (hc 1 (by omega))
   have h1 : wr.cell? ⟨b,o+1,.none⟩=some u := by rw [hw]; exact (le_cell w0 b o v 1 1 (Nat.le_refl _)).trans h0
   have h2 : wr.frozen? ⟨b,o+1,.none⟩=false := by rw [hw,World.frozen?_setCells]; exact hf 1 (by omega)
   have HW : Hid (wr=w0.setCells b o ((le v 1).map (.int .u8))) := hw
   clear hw h0 hc hf
   have HO : Hid (bits .or .u64 (md v 1) _ = md v 2) := orw_u64_1 v
   go_wp2
   exact ⟨⟨2,by omega,rfl,congrArg _ HO.out,le_stepC w0 wr b o v 1 256 (by decide) HW.out⟩,by simp [intOf]⟩
  ·obtain ⟨u,h0⟩ := Option.isSome_iff_exists.1 (hc 2 (by omega))
   have h1 : wr.cell? ⟨b,o+2,.none⟩=some u := by rw [hw]; exact (le_cell w0 b o v 2 2 (Nat.le_refl _)).trans h0
   have h2 : wr.frozen? ⟨b,o+2,.none⟩=false := by rw [hw,World.frozen?_setCells]; exact hf 2 (by omega)
   have HW : Hid (wr=w0.setCells b o ((le v 2).map (.int .u8))) := hw
   clear hw h0 hc hf
   have HO : Hid (bits .or .u64 (md v 2) _ = md v 3) := orw_u64_2 v
   go_wp2
   exact ⟨⟨3,by omega,rfl,congrArg _ HO.out,le_stepC w0 wr b o v 2 65536 (by decide) HW.out⟩,by simp [intOf]⟩
  ·obtain ⟨u,h0⟩ := Option.isSome_iff_exists.1 (hc 3 (by omega))
   have h1 : wr.cell? ⟨b,o+3,.none⟩=some u := by rw [hw]; exact (le_cell w0 b o v 3 3 (Nat.le_refl _)).trans h0
   have h2 : wr.frozen? ⟨b,o+3,.none⟩=false := by rw [hw,World.frozen?_setCells]; exact hf 3 (by omega)
   have HW : Hid (wr=w0.setCells b o ((le v 3).map (.int .u8))) := hw
   clear hw h0 hc hf
   have HO : Hid (bits .or .u64 (md v 3) _ = md v 4) := orw_u64_3 v
   go_wp2
   exact ⟨⟨4,by omega,rfl,congrArg _ HO.out,le_stepC w0 wr b o v 3 16777216 (by decide) HW.out⟩,by simp [intOf]⟩
  ·obtain ⟨u,h0⟩ := Option.isSome_iff_exists.1 (hc 4 (by omega))
   have h1 : wr.cell? ⟨b,o+4,.none⟩=some u := by rw [hw]; exact (le_cell w0 b o v 4 4 (Nat.le_refl _)).trans h0
   have h2 : wr.frozen? ⟨b,o+4,.none⟩=false := by rw [hw,World.frozen?_setCells]; exact hf 4 (by omega)
   have HW : Hid (wr=w0.setCells b o ((le v 4).map (.int .u8))) := hw
   clear hw h0 hc hf
   have HO : Hid (bits .or .u64 (md v 4) _ = md v 5) := orw_u64_4 v
   go_wp2
   exact ⟨⟨5,by omega,rfl,congrArg _ HO.out,le_stepC w0 wr b o v 4 4294967296 (by decide) HW.out⟩,by simp [intOf]⟩
  ·obtain ⟨u,h0⟩ := Option.isSome_iff_exists.1 (hc 5 (by omega))
   have h1 : wr.cell? ⟨b,o+5,.none⟩=some u := by rw [hw]; exact (le_cell w0 b o v 5 5 (Nat.le_refl _)).trans h0
   have h2 : wr.frozen? ⟨b,o+5,.none⟩=false := by rw [hw,World.frozen?_setCells]; exact hf 5 (by omega)
   have HW : Hid (wr=w0.setCells b o ((le v 5).map (.int .u8))) := hw
   clear hw h0 hc hf
   have HO : Hid (bits .or .u64 (md v 5) _ = md v 6) := orw_u64_5 v
   go_wp2
   exact ⟨⟨6,by omega,rfl,congrArg _ HO.out,le_stepC w0 wr b o v 5 1099511627776 (by decide) HW.out⟩,by simp [intOf]⟩
  ·obtain ⟨u,h0⟩ := Option.isSome_iff_exists.1 (hc 6 (by omega))
   have h1 : wr.cell? ⟨b,o+6,.none⟩=some u := by rw [hw]; exact (le_cell w0 b o v 6 6 (Nat.le_refl _)).trans h0
   have h2 : wr.frozen? ⟨b,o+6,.none⟩=false := by rw [hw,World.frozen?_setCells]; exact hf 6 (by omega)
   have HW : Hid (wr=w0.setCells b o ((le v 6).map (.int .u8))) := hw
   clear hw h0 hc hf
   have HO : Hid (bits .or .u64 (md v 6) _ = md v 7) := orw_u64_6 v
   go_wp2
   exact ⟨⟨7,by omega,rfl,congrArg _ HO.out,le_stepC w0 wr b o v 6 281474976710656 (by decide) HW.out⟩,by simp [intOf]⟩
  ·obtain ⟨u,h0⟩ := Option.isSome_iff_exists.1 (hc 7 (by omega))
   have h1 : wr.cell? ⟨b,o+7,.none⟩=some u := by rw [hw]; exact (le_cell w0 b o v 7 7 (Nat.le_refl _)).trans h0
   have h2 : wr.frozen? ⟨b,o+7,.none⟩=false := by rw [hw,World.frozen?_setCells]; exact hf 7 (by omega)
   have HW : Hid (wr=w0.setCells b o ((le v 7).map (.int .u8))) := hw
   clear hw h0 hc hf
   have HO : Hid (bits .or .u64 (md v 7) (v / 72057594037927936*72057594037927936)=md v 8) := by have := orw_u64_7 v; rwa [show v / 72057594037927936 % 256=v / 72057594037927936 by omega] at this
   go_wp2
   exact ⟨⟨8,by omega,rfl,congrArg _ HO.out,by have := le_stepC w0 wr b o v 7 72057594037927936 (by decide) HW.out; rwa [show v / 72057594037927936 % 256=v / 72057594037927936 by omega] at this⟩,by simp [intOf]⟩
  ·have hb := md_bd v 8
   have hb1 : 0≤md v 8 := hb.1
   have hb2 : md v 8<18446744073709551616 := hb.2
   have HW : Hid (wr=w0.setCells b o ((le v 8).map (.int .u8))) := hw
   clear hw
   go_wp2
   go_ret
   exact ⟨rfl,HW.out⟩
end Rm
end Go.Proofs.YtabnipbdbnmmpaaGreatDoor
