import Derived.Test.YtmepmoalhgehhaaGreatDoorRows
import Derived.Lib.Mul64
import Derived.Laws.Bits64b
import Derived.Laws.Externs
import Derived.Laws.Unary
import Derived.WalkKit
import Derived.Laws.AppendOwn
import Derived.Laws.OwnMore
import Derived.Sort.Row
import Derived.Below
import Derived.Deep.LoopGhost
import Derived.Deep.QuietTactic
import Derived.StillTailTactics
import Derived.BigRegion
import Derived.BigQuiet
import Derived.Lib.TrailingZeros
import Derived.Deep.Draws
import Derived.Deep.OwnRows
import Derived.WalkSpells
import Derived.WalkLawsBesides
import Derived.Deep.RegionWith
import Derived.KernelRfl
import Derived.Lib.LazyBuf
import Derived.Lib.SliceRun
import Derived.Deep.AppendSrc
import Derived.Lib.AppendZeros
import Derived.Lib.ConvBytes
set_option linter.unusedVariables false
set_option linter.constructorNameAsVariable false
set_option linter.unusedSimpArgs false
set_option maxRecDepth 1000000
set_option maxHeartbeats 4000000
namespace Go.Proofs.YtmepmoalhgehhaaGreatDoor
namespace OC
theorem and_split (c y m n:Nat) (hc:c<256) (hm:m<256):(c+256*y) &&& (m+256*n)=(c &&& m)+256*(y &&& n):=by
 have h1:((c+256*y) &&& (m+256*n))%2^8=(c &&& m):=by
  rw[Nat.and_mod_two_pow]
  congr 1<;>omega
 have h2:((c+256*y) &&& (m+256*n))/2^8=(y &&& n):=by
  rw[Nat.and_div_two_pow]
  congr 1<;>omega
 omega
def byteS (k m c:Nat):Nat:=((c/2^k) &&& m)+(c &&& m)
theorem stage_split (k m:Nat) (n c y:Nat) (hk:k=1∧m=85∨k=2∧m=51) (hc:c<256) :
 (((c+256*y)/2^k) &&& (m+256*n))+((c+256*y) &&& (m+256*n))=byteS k m c+256*(((y/2^k) &&& n)+(y &&& n)):=by
 have low:∀ e,e<2^k→((c/2^k+2^(8-k)*e) &&& m)=((c/2^k) &&& m):=by
  have h1:∀ c:Fin 256,∀ e:Fin 2,((c.val/2+128*e.val) &&& 85)=((c.val/2) &&& 85):=by decide +kernel
  have h2:∀ c:Fin 256,∀ e:Fin 4,((c.val/4+64*e.val) &&& 51)=((c.val/4) &&& 51):=by decide +kernel
  rcases hk with ⟨rfl,rfl⟩|⟨rfl,rfl⟩
  ·intro e he;exact h1 ⟨c,hc⟩ ⟨e,by simpa using he⟩
  ·intro e he;exact h2 ⟨c,hc⟩ ⟨e,by simpa using he⟩
 have e1:(c+256*y)/2^k=(c/2^k+2^(8-k)*(y%2^k))+256*(y/2^k):=by
  rcases hk with ⟨rfl,rfl⟩|⟨rfl,rfl⟩<;>simp<;>omega
 have hm:m<256:=by rcases hk with ⟨rfl,rfl⟩|⟨rfl,rfl⟩<;>decide
 have hl:c/2^k+2^(8-k)*(y%2^k)<256:=by
  rcases hk with ⟨rfl,rfl⟩|⟨rfl,rfl⟩<;>simp<;>omega
 have hp:0<2^k:=Nat.two_pow_pos k
 rw[e1,and_split _ _ _ _ hl hm,and_split _ _ _ _ hc hm,low _ (Nat.mod_lt _ hp)]
 unfold byteS
 omega
def bytes (f:Nat→Nat):Nat→Nat→Nat
 | 0,_=>0
 | k+1,x=>f (x%256)+256*bytes f k (x/256)
def mask (m:Nat):Nat→Nat
 | 0=>0
 | k+1=>m+256*mask m k
theorem stage (k m:Nat) (hk:k=1∧m=85∨k=2∧m=51):∀ (j x:Nat),((x/2^k) &&& mask m j)+(x &&& mask m j)=bytes (byteS k m) j x
 | 0,x=>by simp[mask,bytes]
 | j+1,x=>by
  have hx:x=x%256+256*(x/256):=by omega
  have:=stage_split k m (mask m j) (x%256) (x/256) hk (by omega)
  rw[mask,bytes,← stage k m hk j (x/256),← this,← hx]
theorem bytes_bytes (f g:Nat→Nat) (hf:∀ c,c<256→f c<256):∀ (j x:Nat),bytes g j (bytes f j x)=bytes (fun c=>g (f c)) j x
 | 0,x=>rfl
 | j+1,x=>by
  have h:=hf (x%256) (by omega)
  rw[bytes,bytes,bytes,show (f (x%256)+256*bytes f j (x/256))%256=f (x%256) by omega,show (f (x%256)+256*bytes f j (x/256))/256=bytes f j (x/256) by omega,bytes_bytes f g hf j]
def byteT (c:Nat):Nat:=(c/16+c) &&& 15
theorem small_mod (f:Nat→Nat) (hf:∀ c,c<256→f c%16≤4∧f c/16≤4):∀ (j x:Nat),bytes f j x%16≤4
 | 0,_=>Nat.zero_le _
 | j+1,x=>by
  have:=(hf (x%256) (by omega)).1
  rw[bytes];omega
theorem third (f:Nat→Nat) (hf:∀ c,c<256→f c%16≤4∧f c/16≤4):∀ (j x:Nat),((bytes f j x/16+bytes f j x) &&& mask 15 j)=bytes (fun c=>byteT (f c)) j x
 | 0,x=>by simp[mask,bytes]
 | j+1,x=>by
  have h:=hf (x%256) (by omega)
  have hs:=small_mod f hf j (x/256)
  have ih:=third f hf j (x/256)
  rw[bytes,bytes,mask]
  rw[← ih]
  generalize f (x%256)=c at *
  generalize bytes f j (x/256)=y at *
  have e:(c+256*y)/16+(c+256*y)=(c/16+c+16*(y%16))+256*(y/16+y):=by omega
  rw[e,and_split _ _ _ _ (by omega) (by decide)]
  have low:(c/16+c+16*(y%16)) &&& 15=byteT c:=by
   unfold byteT
   rw[show (15:Nat)=2^4-1 from rfl,Nat.and_two_pow_sub_one_eq_mod,Nat.and_two_pow_sub_one_eq_mod]
   omega
  rw[low]
def popAux:Nat→Nat→Nat
 | 0,_=>0
 | f+1,x=>x%2+popAux f (x/2)
theorem popAux_add:∀ (a b x:Nat),popAux (a+b) x=popAux a x+popAux b (x/2^a)
 | 0,b,x=>by simp[popAux]
 | a+1,b,x=>by
  rw[show a+1+b=(a+b)+1 by omega,popAux,popAux,popAux_add a b,Nat.div_div_eq_div_mul,Nat.pow_succ,Nat.mul_comm (2^a) 2]
  omega
theorem popAux_mod:∀ (a x:Nat),popAux a (x%2^a)=popAux a x
 | 0,x=>rfl
 | a+1,x=>by
  have h1:x%2^(a+1)%2=x%2:=Nat.mod_mod_of_dvd _ ⟨2^a,by rw[Nat.pow_succ,Nat.mul_comm]⟩
  have h2:x%2^(a+1)/2=x/2%2^a:=by
   rw[Nat.pow_succ,Nat.mul_comm,Nat.mod_mul_right_div_self]
  rw[popAux,popAux,h1,h2,popAux_mod a]
def cnt (c:Nat):Nat:=byteT (byteS 2 51 (byteS 1 85 c))
theorem cnt_is:∀ c:Fin 256,cnt c.val=popAux 8 c.val∧cnt c.val≤8∧byteS 1 85 c.val<256∧byteS 2 51 (byteS 1 85 c.val)%16≤4∧byteS 2 51 (byteS 1 85 c.val)/16≤4:=by decide +kernel
theorem ones (x a b c d e f:Nat) (h1:a=((x/2) &&& 6148914691236517205)+(x &&& 6148914691236517205)) (h2:b=((a/4) &&& 3689348814741910323)+(a &&& 3689348814741910323))
 (h3:c=(b/16+b) &&& 1085102592571150095) (h4:d=c+c/256) (h5:e=d+d/65536) (h6:f=e+e/4294967296):f%128=popAux 64 x∧f<2^64∧e<2^64∧d<2^64∧a<2^64∧b/16+b<2^64∧popAux 64 x≤64:=by
 have m1:(6148914691236517205:Nat)=mask 85 8:=by decide
 have m2:(3689348814741910323:Nat)=mask 51 8:=by decide
 have m3:(1085102592571150095:Nat)=mask 15 8:=by decide
 have g1:a=bytes (byteS 1 85) 8 x:=by rw[h1,m1];exact stage 1 85 (Or.inl ⟨rfl,rfl⟩) 8 x
 have g2:b=bytes (fun c=>byteS 2 51 (byteS 1 85 c)) 8 x:=by
  rw[h2,m2,g1,← bytes_bytes (byteS 1 85) (byteS 2 51) (fun c hc=>(cnt_is ⟨c,hc⟩).2.2.1)]
  exact stage 2 51 (Or.inr ⟨rfl,rfl⟩) 8 _
 have g3:c=bytes cnt 8 x:=by rw[h3,m3,g2];exact third _ (fun c hc=>(cnt_is ⟨c,hc⟩).2.2.2) 8 x
 have al:a<2^64:=by
  have l1:=@Nat.and_le_right (x/2) 6148914691236517205
  have l2:=@Nat.and_le_right x 6148914691236517205
  omega
 have bl:b<7378697629483820647:=by
  have l1:=@Nat.and_le_right (a/4) 3689348814741910323
  have l2:=@Nat.and_le_right a 3689348814741910323
  omega
 have hpop:popAux 64 x=cnt (x%256)+cnt (x/256%256)+cnt (x/256/256%256)+cnt (x/256/256/256%256)+cnt (x/256/256/256/256%256)+cnt (x/256/256/256/256/256%256)+cnt (x/256/256/256/256/256/256%256)+cnt (x/256/256/256/256/256/256/256%256):=by
  have hb:∀ y,popAux 8 y=cnt (y%256):=fun y=>by rw[(cnt_is ⟨y%256,by omega⟩).1];exact (popAux_mod 8 y).symm
  rw[show (64:Nat)=8+(8+(8+(8+(8+(8+(8+8)))))) from rfl]
  simp only[popAux_add 8,hb,show (2:Nat)^8=256 from rfl]
  omega
 have k:∀ y,cnt (y%256)≤8:=fun y=>(cnt_is ⟨y%256,by omega⟩).2.1
 have k0:=k x
 have k1:=k (x/256)
 have k2:=k (x/256/256)
 have k3:=k (x/256/256/256)
 have k4:=k (x/256/256/256/256)
 have k5:=k (x/256/256/256/256/256)
 have k6:=k (x/256/256/256/256/256/256)
 have k7:=k (x/256/256/256/256/256/256/256)
 simp only[bytes] at g3
 generalize cnt (x%256)=t0 at *
 generalize cnt (x/256%256)=t1 at *
 generalize cnt (x/256/256%256)=t2 at *
 generalize cnt (x/256/256/256%256)=t3 at *
 generalize cnt (x/256/256/256/256%256)=t4 at *
 generalize cnt (x/256/256/256/256/256%256)=t5 at *
 generalize cnt (x/256/256/256/256/256/256%256)=t6 at *
 generalize cnt (x/256/256/256/256/256/256/256%256)=t7 at *
 clear h1 h2 h3 g1 g2 m1 m2 m3 k
 have d1:c/256=t1+256*(t2+256*(t3+256*(t4+256*(t5+256*(t6+256*t7))))):=by omega
 have d2:d=(t0+t1)+256*((t1+t2)+256*((t2+t3)+256*((t3+t4)+256*((t4+t5)+256*((t5+t6)+256*((t6+t7)+256*t7)))))):=by omega
 have d3:d/65536=(t2+t3)+256*((t3+t4)+256*((t4+t5)+256*((t5+t6)+256*((t6+t7)+256*t7)))):=by omega
 have d4:e=(t0+t1+t2+t3)+256*((t1+t2+t3+t4)+256*((t2+t3+t4+t5)+256*((t3+t4+t5+t6)+256*((t4+t5+t6+t7)+256*((t5+t6+t7)+256*((t6+t7)+256*t7)))))):=by omega
 have d5:e/4294967296=(t4+t5+t6+t7)+256*((t5+t6+t7)+256*((t6+t7)+256*t7)):=by omega
 have d6:f=(t0+t1+t2+t3+t4+t5+t6+t7)+256*((t1+t2+t3+t4+(t5+t6+t7))+256*((t2+t3+t4+t5+(t6+t7))+256*((t3+t4+t5+t6+t7)+256*((t4+t5+t6+t7)+256*((t5+t6+t7)+256*((t6+t7)+256*t7)))))):=by omega
 refine ⟨by omega,by omega,by omega,by omega,al,by omega,by omega⟩
end OC
namespace OP
def sum:List Nat→Nat
 | []=>0
 | x :: l=>x+sum l
end OP
section
open Go.RowKit Go.Sort
variable {P:Nat} [NeZero P] {N:Nat}
theorem and_i64_127 (f:Nat) (hf:f<18446744073709551616):bits .and .i64 (IntKind.i64.wrap (f:Int)) 127=((f%128:Nat):Int):=by
 have h1:(BitVec.ofInt 64 (IntKind.i64.wrap (f:Int))).toNat=f:=by
  rw[BitVec.toNat_ofInt,IntKind.wrap_i64]
  omega
 have h2:(BitVec.ofInt 64 127).toNat=127:=rfl
 show IntKind.i64.wrap ((BitVec.ofInt 64 (IntKind.i64.wrap (f:Int)) &&& BitVec.ofInt 64 127).toNat:Int)=_
 rw[BitVec.toNat_and,h1,h2,IntKind.wrap_i64,show (127:Nat)=2^7-1 from rfl,Nat.and_two_pow_sub_one_eq_mod]
 omega
theorem wrU64 (a b n:Nat) (h:a+b=n) (hn:n<18446744073709551616):IntKind.u64.wrap ((a:Int)+(b:Int))=(n:Int):=by
 rw[IntKind.wrap_u64];omega
theorem ones_c (x:Nat) (hx:x<18446744073709551616) (w:World):Calls Tryz.prog 15 #[.int .u64 x] w fun e w'=>e=.returned (.int .i64 (OC.popAux 64 x:Int))∧w'=w:=by
 obtain ⟨a,ha⟩:∃ a,a=((x/2) &&& 6148914691236517205)+(x &&& 6148914691236517205):=⟨_,rfl⟩
 obtain ⟨b,hb⟩:∃ b,b=((a/4) &&& 3689348814741910323)+(a &&& 3689348814741910323):=⟨_,rfl⟩
 obtain ⟨c,hc⟩:∃ c,c=(b/16+b) &&& 1085102592571150095:=⟨_,rfl⟩
 obtain ⟨d,hd⟩:∃ d,d=c+c/256:=⟨_,rfl⟩
 obtain ⟨e,he⟩:∃ e,e=d+d/65536:=⟨_,rfl⟩
 obtain ⟨f,hf⟩:∃ f,f=e+e/4294967296:=⟨_,rfl⟩
 obtain ⟨k1,k2,k3,k4,k5,k6,k7⟩:=OC.ones x a b c d e f ha hb hc hd he hf
 have hbl:b<18446744073709551616:=by omega
 have hcl:c<18446744073709551616:=by omega
 have e1:IntKind.u64.wrap (bits .and .u64 ((x:Int)/2) 6148914691236517205+bits .and .u64 (x:Int) 6148914691236517205)=(a:Int):=by
  have g1:=bits_and_u64_nat (x/2) 6148914691236517205 (by omega) (by omega)
  have g2:=bits_and_u64_nat x 6148914691236517205 hx (by omega)
  rw[show (x:Int)/2=((x/2:Nat):Int) by omega]
  exact (congrArg IntKind.u64.wrap (congr (congrArg HAdd.hAdd g1) g2)).trans (wrU64 _ _ _ ha.symm (by omega))
 have e2:IntKind.u64.wrap (bits .and .u64 ((a:Int)/4) 3689348814741910323+bits .and .u64 (a:Int) 3689348814741910323)=(b:Int):=by
  have g1:=bits_and_u64_nat (a/4) 3689348814741910323 (by omega) (by omega)
  have g2:=bits_and_u64_nat a 3689348814741910323 (by omega) (by omega)
  rw[show (a:Int)/4=((a/4:Nat):Int) by omega]
  exact (congrArg IntKind.u64.wrap (congr (congrArg HAdd.hAdd g1) g2)).trans (wrU64 _ _ _ hb.symm hbl)
 have e3:bits .and .u64 (IntKind.u64.wrap ((b:Int)/16+(b:Int))) 1085102592571150095=(c:Int):=by
  rw[show (b:Int)/16=((b/16:Nat):Int) by omega,wrU64 (b/16) b _ rfl (by omega)]
  rw[hc]
  exact bits_and_u64_nat (b/16+b) 1085102592571150095 (by omega) (by omega)
 have e4:IntKind.u64.wrap ((c:Int)+(c:Int)/256)=(d:Int):=by rw[IntKind.wrap_u64];omega
 have e5:IntKind.u64.wrap ((d:Int)+(d:Int)/65536)=(e:Int):=by rw[IntKind.wrap_u64];omega
 have e6:IntKind.u64.wrap ((e:Int)+(e:Int)/4294967296)=(f:Int):=by rw[IntKind.wrap_u64];omega
 have e7:bits .and .i64 (wrap64 (f:Int)) 127=(OC.popAux 64 x:Int):=by rw[show wrap64 (f:Int)=IntKind.i64.wrap (f:Int) by rw[IntKind.wrap_i64];unfold wrap64;omega,and_i64_127 f (by omega),k1]
 clear ha hb hc hd he hf k1 k2 k3 k4 k5 k6 k7 hbl hcl
 generalize OC.popAux 64 x=r at *
 go_enter Tryz.func15,Tryz.ntmps15
 go_wp2
 go_ret
 exact ⟨rfl,rfl⟩
theorem tz_key (x a:Nat) (hx:x<18446744073709551616) (hx0:x≠0) (hlow:x &&& (18446744073709551616-x)=a) :
 IntKind.u64.wrap (bits BinOp.and IntKind.u64 (x:Int) (IntKind.u64.wrap (-(x:Int)))*285870213051353865)/288230376151711744=((a*285870213051353865%18446744073709551616/288230376151711744:Nat):Int):=by
 have e1:IntKind.u64.wrap (-(x:Int))=((18446744073709551616-x:Nat):Int):=by rw[IntKind.wrap_u64];omega
 rw[e1,bits_and_u64_nat x _ hx (by omega),hlow,IntKind.wrap_u64]
 omega
theorem tz_core (x k idx:Nat) (w:World) (hx0:((x:Int) == 0)=false)
 (key:IntKind.u64.wrap (bits BinOp.and IntKind.u64 (x:Int) (IntKind.u64.wrap (-(x:Int)))*285870213051353865)/288230376151711744=(idx:Int)) (hi:(idx:Int)<64) (hk:k<64) (hcell:w.cell? ⟨0,idx,none⟩=some (.int .u8 k)) :
 Calls Tryz.prog 16 #[.int .u64 x] w fun e w'=>e=.returned (.int .i64 k)∧w'=w:=by
 go_enter Tryz.func16,Tryz.ntmps16
 go_wp2_with (simp only[key])
 go_ret
 exact ⟨rfl,rfl⟩
def TabX (w:World):Prop:=∀ i,i<64→w.cell? ⟨0,i,none⟩=some (.int .u8 (Lib.deBruijn64tab.getD i 0:Int))
theorem TabX.below {w w':World} (h:TabX w) (hb:Below w.heap.size w w'):TabX w':=fun i hi=>by
 have h2:=h i hi
 rw[hb.cell (p:=⟨0,i,none⟩) (World.block_lt_of_cell? _ _ h2)]
 exact h2
theorem ctz_pow:∀ k:Fin 20,Lib.ctz 64 (2^k.val)=k.val∧OC.popAux 64 (2^k.val)=1∧2^k.val≤524288∧0<2^k.val:=by decide +kernel
theorem tzx_c (k:Nat) (x:Nat) (h0:Lib.ctz 64 x=k) (hx0:x≠0) (hx:x<18446744073709551616) (hk:k<64) (w:World) (hT:TabX w):Calls Tryz.prog 16 #[.int .u64 x] w fun e w'=>e=.returned (.int .i64 k)∧w'=w:=by
 obtain ⟨hlow,hkk⟩:=Lib.lowest_bit 64 x hx0 hx
 have key:=tz_key x _ hx hx0 hlow
 rw[h0] at key
 obtain ⟨hi,htab⟩:=Lib.deBruijn64_at k hk
 have hcell:=hT _ hi
 rw[htab] at hcell
 exact tz_core x k _ w (by simp;omega) key (by omega) hk hcell
theorem placex_c (k:Nat) (hk:k<20) (x:Nat) (hx:x=2^k) (w:World) (hT:TabX w):Calls Tryz.prog 6 #[.int .u64 x] w fun e w'=>e=.returned (.tuple #[.int .i64 k,.int .i64 0])∧w'=w:=by
 obtain ⟨h0,h1,h2,h3⟩:=ctz_pow ⟨k,hk⟩
 simp only[← hx] at h0 h1 h2 h3
 have hO:=ones_c x (by omega) w
 rw[h1] at hO
 have hZ:=tzx_c k x h0 (by omega) (by omega) (by omega) w hT
 have g1:¬ (524288:Int)<(x:Int):=by omega
 clear hx h0 h1 hT
 go_enter Tryz.func6,Tryz.ntmps6
 go_wp2_with fail
 refine hO.mono ?_
 rintro e w' ⟨rfl,rfl⟩
 clear hO
 go_wp2_with fail
 refine hZ.mono ?_
 rintro e w' ⟨rfl,rfl⟩
 clear hZ
 go_wp2
 go_ret2
 exact ⟨rfl,rfl⟩
end
namespace SP
open Go.RowKit
theorem lt64 (x:BitVec 64):(x.toNat:Int)<18446744073709551616:=by
 have:=x.isLt
 omega
theorem ofInt_toNat64 (x:BitVec 64):BitVec.ofInt 64 (x.toNat:Int)=x:=by
 apply BitVec.eq_of_toNat_eq
 rw[BitVec.ofInt_natCast,BitVec.toNat_ofNat]
 exact Nat.mod_eq_of_lt x.isLt
theorem wrap_u64_toNat (x:BitVec 64):IntKind.u64.wrap (x.toNat:Int)=x.toNat:=by
 rw[IntKind.wrap_u64]
 have:=lt64 x
 exact Int.emod_eq_of_lt (by omega) this
def u (v:BitVec 64):Int:=(v.toNat:Int)
theorem bits_xor64 (a b:BitVec 64):bits .xor .u64 (u a) (u b)=u (a ^^^ b):=by
 show IntKind.u64.wrap ((BitVec.ofInt 64 (a.toNat:Int) ^^^ BitVec.ofInt 64 (b.toNat:Int)).toNat:Int)=_
 rw[ofInt_toNat64,ofInt_toNat64,wrap_u64_toNat]
 rfl
theorem bits_and64 (a b:BitVec 64):bits .and .u64 (u a) (u b)=u (a &&& b):=by
 show IntKind.u64.wrap ((BitVec.ofInt 64 (a.toNat:Int) &&& BitVec.ofInt 64 (b.toNat:Int)).toNat:Int)=_
 rw[ofInt_toNat64,ofInt_toNat64,wrap_u64_toNat]
 rfl
theorem bits_or64 (a b:BitVec 64):bits .or .u64 (u a) (u b)=u (a ||| b):=by
 show IntKind.u64.wrap ((BitVec.ofInt 64 (a.toNat:Int) ||| BitVec.ofInt 64 (b.toNat:Int)).toNat:Int)=_
 rw[ofInt_toNat64,ofInt_toNat64,wrap_u64_toNat]
 rfl
theorem bits_not64 (a:BitVec 64):bits .xor .u64 IntKind.u64.max (u a)=u (~~~a):=by
 have e:IntKind.u64.max=u (BitVec.allOnes 64):=by decide +kernel
 rw[e,bits_xor64,BitVec.allOnes_xor]
theorem and63 (k:Nat) (hk:k<64):bits .and .u64 (k:Int) 63=k:=by
 have h:∀ j:Fin 64,bits .and .u64 ((j.val:Nat):Int) 63=(j.val:Int):=by decide +kernel
 exact h ⟨k,hk⟩
theorem shl64 (x:BitVec 64) (k:Nat):IntKind.u64.wrap (u x*2^k)=u (x <<< k):=by
 unfold u
 rw[IntKind.wrap_u64,BitVec.toNat_shiftLeft,Nat.shiftLeft_eq,Int.natCast_emod,Int.natCast_mul,Int.natCast_pow]
 rfl
theorem shr64 (x:BitVec 64) (k:Nat):u x/2^k=u (x >>> k):=by
 unfold u
 rw[BitVec.toNat_ushiftRight,Nat.shiftRight_eq_div_pow,Int.natCast_ediv,Int.natCast_pow]
 rfl
def rol (w:BitVec 64) (n:Nat):BitVec 64:=w <<< n ||| w >>> (64-n)
abbrev St:=Array (BitVec 64)
def enc (v:BitVec 64):Value:=.int .u64 (u v)
def colsum (d:St) (x:Nat):BitVec 64:=d[x]! ^^^ d[x+5]! ^^^ d[x+10]! ^^^ d[x+15]! ^^^ d[x+20]!
def sumsTo (d:St):Nat→St
 | 0=>#[0,0,0,0,0]
 | k+1=>(sumsTo d k).setIfInBounds k (colsum d k)
def xorAt (d:St) (i:Nat) (v:BitVec 64):St:=d.setIfInBounds i (d[i]! ^^^ v)
def innerTo (v:BitVec 64) (x:Nat) (d:St):Nat→St
 | 0=>d
 | m+1=>xorAt (innerTo v x d m) (x+5*m) v
def dcol (s:St) (x:Nat):BitVec 64:=s[(x+4)%5]! ^^^ rol s[(x+1)%5]! 1
def thetaTo (s d:St):Nat→St
 | 0=>d
 | k+1=>innerTo (dcol s k) k (thetaTo s d k) 5
def theta (d:St):St:=thetaTo (sumsTo d 5) d 5
theorem xorAt_size (d:St) (i:Nat) (v:BitVec 64):(xorAt d i v).size=d.size:=by simp[xorAt]
theorem sumsTo_size (d:St) (k:Nat):(sumsTo d k).size=5:=by
 induction k with
 | zero=>rfl
 | succ k ih=>simp[sumsTo,ih]
theorem innerTo_size (v:BitVec 64) (x:Nat) (d:St) (m:Nat):(innerTo v x d m).size=d.size:=by
 induction m with
 | zero=>rfl
 | succ k ih=>simp[innerTo,xorAt_size,ih]
theorem thetaTo_size (s d:St) (m:Nat):(thetaTo s d m).size=d.size:=by
 induction m with
 | zero=>rfl
 | succ k ih=>simp[thetaTo,innerTo_size,ih]
structure Tm where
 x:Nat
 y:Nat
 m:BitVec 64
 d:St
def offs (t:Nat):Nat:=(t+1)*(t+2)/2%64
def tmStep (t:Nat) (s:Tm):Tm:=
 { x:=s.y,y:=(2*s.x+3*s.y)%5,m:=s.d[s.y+5*((2*s.x+3*s.y)%5)]!,d:=s.d.setIfInBounds (s.y+5*((2*s.x+3*s.y)%5)) (rol s.m (offs t)) }
def tmTo (d:St):Nat→Tm
 | 0=>{ x:=1,y:=0,m:=d[1]!,d:=d }
 | t+1=>tmStep t (tmTo d t)
def rhopi (d:St):St:=(tmTo d 24).d
theorem tmTo_ok (d:St) (hd:d.size=25) (t:Nat):(tmTo d t).x<5∧(tmTo d t).y<5∧(tmTo d t).d.size=25:=by
 induction t with
 | zero=>exact ⟨show 1<5 by decide,show 0<5 by decide,hd⟩
 | succ t ih =>
  obtain ⟨h1,h2,h3⟩:=ih
  refine ⟨h2,?_,?_⟩
  ·show (2*(tmTo d t).x+3*(tmTo d t).y)%5<5
   omega
  ·show ((tmTo d t).d.setIfInBounds _ _).size=25
   rw[Array.size_setIfInBounds,h3]
def rowAt (d:St) (i:Nat):St:=
 xorAt (xorAt (xorAt (xorAt (xorAt d i (~~~d[i+1]! &&& d[i+2]!)) (i+1) (~~~d[i+2]! &&& d[i+3]!)) (i+2) (~~~d[i+3]! &&& d[i+4]!)) (i+3) (~~~d[i+4]! &&& d[i]!)) (i+4) (~~~d[i]! &&& d[i+1]!)
def chiTo (d:St):Nat→St
 | 0=>d
 | k+1=>rowAt (chiTo d k) (5*k)
def chi (d:St):St:=chiTo d 5
theorem rowAt_size (d:St) (i:Nat):(rowAt d i).size=d.size:=by simp[rowAt,xorAt_size]
theorem chiTo_size (d:St) (k:Nat):(chiTo d k).size=d.size:=by
 induction k with
 | zero=>rfl
 | succ k ih=>simp[chiTo,rowAt_size,ih]
end SP
namespace SP
open Go.RowKit
def rcReg (r:Nat):Nat:=if 255<2*r then (2*r) ^^^ 369 else 2*r
def rcTo (r:Nat):Nat→BitVec 64 × Nat
 | 0=>(0,r)
 | j+1=>((rcTo r j).1 ||| BitVec.ofNat 64 ((rcTo r j).2%2) <<< (2^j-1),rcReg (rcTo r j).2)
theorem rcReg_lt (r:Nat) (h:r<256):rcReg r<256:=by
 have H:∀ j:Fin 256,rcReg j.val<256:=by decide +kernel
 exact H ⟨r,h⟩
theorem rcTo_lt (r:Nat) (h:r<256) (j:Nat):(rcTo r j).2<256:=by
 induction j with
 | zero=>exact h
 | succ j ih=>exact rcReg_lt _ ih
theorem rc_xor (r:Nat) (h:r<256):bits .xor .i64 ((r:Int)*2) 369=(((2*r) ^^^ 369:Nat):Int):=by
 have H:∀ j:Fin 256,bits .xor .i64 ((j.val:Int)*2) 369=(((2*j.val) ^^^ 369:Nat):Int):=by decide +kernel
 exact H ⟨r,h⟩
theorem rc_and (r:Nat) (h:r<256):bits .and .i64 (r:Int) 1=u (BitVec.ofNat 64 (r%2)):=by
 have H:∀ j:Fin 256,bits .and .i64 (j.val:Int) 1=u (BitVec.ofNat 64 (j.val%2)):=by decide +kernel
 exact H ⟨r,h⟩
theorem wrap_u (x:BitVec 64):IntKind.u64.wrap (u x)=u x:=wrap_u64_toNat x
def kround (d:St) (c:BitVec 64):St:=xorAt (chi (rhopi (theta d))) 0 c
def rcC (r:Nat):BitVec 64:=(rcTo r 7).1
def rcN (r:Nat):Nat:=(rcTo r 7).2
theorem rcN_lt (r:Nat) (h:r<256):rcN r<256:=by
 unfold rcN
 exact rcTo_lt r h 7
def rcAt:Nat→Nat
 | 0=>1
 | k+1=>rcN (rcAt k)
theorem rcAt_lt (k:Nat):rcAt k<256:=by
 induction k with
 | zero=>decide
 | succ k ih=>exact rcN_lt _ ih
def permTo (d:St):Nat→St
 | 0=>d
 | k+1=>kround (permTo d k) (rcC (rcAt k))
def perm (d:St):St:=permTo d 24
theorem theta_size (d:St):(theta d).size=d.size:=thetaTo_size _ _ _
theorem rhopi_size (d:St) (hd:d.size=25):(rhopi d).size=25:=(tmTo_ok d hd 24).2.2
theorem chi_size (d:St):(chi d).size=d.size:=chiTo_size _ _
theorem kround_size (d:St) (c:BitVec 64) (hd:d.size=25):(kround d c).size=25:=by
 unfold kround
 rw[xorAt_size,chi_size,rhopi_size]
 rw[theta_size,hd]
theorem permTo_size (d:St) (hd:d.size=25) (k:Nat):(permTo d k).size=25:=by
 induction k with
 | zero=>exact hd
 | succ k ih=>exact kround_size _ _ ih
theorem perm_size (d:St) (hd:d.size=25):(perm d).size=25:=permTo_size d hd 24
abbrev Bs:=Array UInt8
def ub (x:UInt8):Int:=(x.toNat:Int)
def encB (x:UInt8):Value:=.int .u8 (ub x)
def wide (x:UInt8):BitVec 64:=BitVec.ofNat 64 x.toNat
def low (v:BitVec 64):UInt8:=UInt8.ofNat v.toNat
theorem wide_ub (x:UInt8):ub x=u (wide x):=by
 unfold ub u wide
 rw[BitVec.toNat_ofNat,Nat.mod_eq_of_lt]
 have:=x.toNat_lt
 omega
theorem wrap_ub (x:UInt8):IntKind.u64.wrap (ub x)=u (wide x):=by rw[wide_ub,wrap_u]
theorem low_u (v:BitVec 64):IntKind.u8.wrap (u v)=ub (low v):=by
 have e:IntKind.u8.wrap (u v)=u v%256:=by simp[IntKind.wrap,IntKind.bits,IntKind.signed]
 rw[e]
 unfold u ub low
 rw[UInt8.toNat_ofNat']
 omega
def wordTo (bs:Bs) (o:Nat):Nat→BitVec 64
 | 0=>0
 | i+1=>wordTo bs o i ||| wide bs[o+i]! <<< (8*i)
def wordOf (bs:Bs) (o:Nat):BitVec 64:=wordTo bs o 8
def mixTo (bs:Bs) (d:St):Nat→St
 | 0=>d
 | i+1=>xorAt (mixTo bs d i) i (wordOf bs (8*i))
theorem mixTo_size (bs:Bs) (d:St) (k:Nat):(mixTo bs d k).size=d.size:=by
 induction k with
 | zero=>rfl
 | succ k ih=>simp[mixTo,xorAt_size,ih]
def byteOf (d:St) (k:Nat):UInt8:=low (d[k/8]! >>> (8*(k%8)))
def frontTo (d:St) (n:Nat):Nat→Bs
 | 0=>Array.replicate n 0
 | k+1=>(frontTo d n k).setIfInBounds k (byteOf d k)
def front (d:St) (n:Nat):Bs:=frontTo d n n
theorem frontTo_size (d:St) (n k:Nat):(frontTo d n k).size=n:=by
 induction k with
 | zero=>simp[frontTo]
 | succ k ih=>simp[frontTo,ih]
theorem front_size (d:St) (n:Nat):(front d n).size=n:=frontTo_size d n n
end SP
namespace SP
open Go.RowKit Go.Sort
structure Only (b off n:Nat) (w w':World):Prop where
 os:w'.os=w.os
 tape:w'.tape=w.tape
 output:w'.output=w.output
 size:w.heap.size≤w'.heap.size
 block:∀ k,k<w.heap.size→k≠b→w'.heap[k]? = w.heap[k]?
 cell:∀ o,(o<off∨off+n≤o)→w'.cell? ⟨b,o,none⟩=w.cell? ⟨b,o,none⟩
 froz:∀ o,w'.frozen? ⟨b,o,none⟩=w.frozen? ⟨b,o,none⟩
variable {b off n:Nat} {w w1 w2:World}
theorem Only.refl (b off n:Nat) (w:World):Only b off n w w:=⟨rfl,rfl,rfl,Nat.le_refl _,fun _ _ _=>rfl,fun _ _=>rfl,fun _=>rfl⟩
theorem Only.trans (h:Only b off n w w1) (k:Only b off n w1 w2):Only b off n w w2:=
 ⟨k.os.trans h.os,k.tape.trans h.tape,k.output.trans h.output,Nat.le_trans h.size k.size,
  fun i hi hn=>(k.block i (Nat.lt_of_lt_of_le hi h.size) hn).trans (h.block i hi hn),
  fun o ho=>(k.cell o ho).trans (h.cell o ho),fun o=>(k.froz o).trans (h.froz o)⟩
theorem Only.drewN (h:Only b off n w w1) (q:Nat):Only b off n w (w1.drewN q):=⟨h.os,h.tape,h.output,h.size,h.block,h.cell,h.froz⟩
theorem Only.drew (h:Only b off n w w1):Only b off n w w1.drew:=⟨h.os,h.tape,h.output,h.size,h.block,h.cell,h.froz⟩
theorem Only.setCell (h:Only b off n w w1) {o:Nat} (h1:off≤o) (h2:o<off+n) (v:Value):Only b off n w (w1.setCell ⟨b,o,none⟩ v):=by
 refine h.trans ⟨rfl,rfl,rfl,by simp,fun k _ hn=>Below.heap_setCell _ _ _ _ hn,fun o' ho=>?_,fun o'=>by simp⟩
 exact World.cell?_setCell_other _ _ _ _ (by intro e;simp only[Addr.mk.injEq,and_true,true_and] at e;omega)
theorem Only.alloc (h:Only b off n w w1) (hb:b<w1.heap.size) (o:Obj):Only b off n w (w1.alloc o):=by
 refine h.trans ⟨rfl,rfl,rfl,by simp,fun k hk _=>Below.heap_alloc _ _ _ hk,fun o' _=>?_,fun o'=>?_⟩
 ·exact World.cell?_alloc_lt _ _ _ hb
 ·exact World.frozen?_alloc_old _ _ _ (by show b≠_;omega)
theorem Only.below (h:Only b off n w w1) {B:Nat} (hB:B≤w.heap.size) (hb:B≤b):Below B w w1:=
 ⟨h.os,h.tape,h.output,h.size,fun k hk=>h.block k (by omega) (by omega)⟩
theorem Only.of_below {B:Nat} (h:Below B w w1) (hB:B=w.heap.size) (hb:b<B):Only b off n w w1:=
 ⟨h.os,h.tape,h.output,h.size,fun k hk _=>h.block k (by omega),fun o _=>h.cell (p:=⟨b,o,none⟩) hb,fun o=>h.frozen (p:=⟨b,o,none⟩) hb⟩
theorem Only.other (h:Only b off n w w1) {c o:Nat} (hc:c≠b) (hs:c<w.heap.size):w1.cell? ⟨c,o,none⟩=w.cell? ⟨c,o,none⟩∧w1.frozen? ⟨c,o,none⟩=w.frozen? ⟨c,o,none⟩:=
 ⟨World.cell?_of_block (w:=w) (h.block c hs hc),World.frozen?_of_block (w:=w) (h.block c hs hc)⟩
theorem Only.fresh {o m:Nat} {x:Obj} (h:Only w.heap.size o m (w.alloc x) w1):Below w.heap.size w w1:=
 ((Below.refl _ _).alloc (Nat.le_refl _) x).trans (h.below (by simp) (Nat.le_refl _))
section
variable {α:Type} [Inhabited α] {enc:α→Value} {d:Array α}
theorem Holds.lt (h:Holds enc w b off d) (hd:0<d.size):b<w.heap.size:=World.block_lt_of_cell? _ _ (h 0 hd).1
theorem Holds.other {c o:Nat} (h:Holds enc w c o d) (k:Only b off n w w1) (hc:c≠b) (hd:0<d.size):Holds enc w1 c o d:=by
 intro j hj
 have:=h j hj
 have:=k.other (o:=o+j) hc (Holds.lt h hd)
 rw[this.1,this.2]
 exact h j hj
theorem Holds.same {o:Nat} (h:Holds enc w b o d) (k:Only b off n w w1) (hd:o+d.size≤off∨off+n≤o):Holds enc w1 b o d:=by
 intro j hj
 rw[k.cell _ (by omega),k.froz]
 exact h j hj
theorem Holds.below {B:Nat} (h:Holds enc w b off d) (k:Below B w w1) (hb:b<B):Holds enc w1 b off d:=by
 intro j hj
 rw[k.cell (p:=⟨b,off+j,none⟩) hb,k.frozen (p:=⟨b,off+j,none⟩) hb]
 exact h j hj
theorem Holds.drewN (h:Holds enc w b off d) (q:Nat):Holds enc (w.drewN q) b off d:=h
theorem Holds.drew (h:Holds enc w b off d):Holds enc w.drew b off d:=h
theorem Holds.set (h:Holds enc w b off d) {i:Nat} (hi:i<d.size) (x:α):Holds enc (w.setCell ⟨b,off+i,none⟩ (enc x)) b off (d.setIfInBounds i x):=by
 intro j hj
 rw[Array.size_setIfInBounds] at hj
 rw[World.frozen?_setCell]
 by_cases e:j=i
 ·subst e
  rw[getElem!_set_same d j x hi]
  exact ⟨World.cell?_setCell_same _ _ _ (h j hj).1,(h j hj).2⟩
 ·rw[getElem!_set_other d i j x e,World.cell?_setCell_other _ _ _ _ (by intro e';simp only[Addr.mk.injEq,and_true,true_and] at e';omega)]
  exact h j hj
theorem Holds.new (w:World) (t:TypeId) (d:Array α):Holds enc (w.alloc (.cells (d.map enc) t)) w.heap.size 0 d:=by
 intro j hj
 rw[World.cell?_alloc_new,World.frozen?_alloc_new]
 refine ⟨?_,rfl⟩
 simp only[Nat.zero_add,Array.getElem?_map,Array.getElem?_eq_getElem hj,Option.map_some,getElem!_pos d j hj]
theorem Holds.made (w:World) (t:TypeId) (n:Nat) (x:α):Holds enc (w.alloc (.cells (madeCells #[enc x] n) t)) w.heap.size 0 (Array.replicate n x):=by
 intro j hj
 rw[Array.size_replicate] at hj
 rw[World.cell?_alloc_new,World.frozen?_alloc_new]
 refine ⟨?_,rfl⟩
 rw[getElem!_pos _ j (by simpa using hj),Array.getElem_replicate]
 simp[madeCells,hj,Nat.mod_one]
end
theorem Holds.xor {d:St} (h:Holds enc w b off d) {i:Nat} (hi:i<d.size) {x:BitVec 64} (hx:d[i]! = x) (v:BitVec 64):Holds enc (w.setCell ⟨b,off+i,none⟩ (.int .u64 (u (x ^^^ v)))) b off (xorAt d i v):=by
 unfold xorAt
 rw[hx]
 exact Holds.set h hi (x ^^^ v)
theorem xorAt_other (d:St) (i j:Nat) (v:BitVec 64) (h:j≠i):(xorAt d i v)[j]! = d[j]!:=getElem!_set_other d i j _ h
end SP
namespace SP
open Go.RowKit Go.Sort
theorem mixed:Tryz.prog.follows .mixedOrders=true:=by kernel_rfl
theorem at_word {w:World} {b off:Nat} {d:St} (h:Holds enc w b off d) (i:Nat) (hi:i<d.size) {x:BitVec 64} (hx:d[i]! = x) :
 w.cell? ⟨b,off+i,none⟩=some (.int .u64 (u x))∧w.frozen? ⟨b,off+i,none⟩=false:=by
 rw[← hx];exact h i hi
theorem ret_int {k:IntKind} {a b:Int} (h:a=b):Ending.returned (.int k a)=.returned (.int k b):=by rw[h]
theorem rotl_any (x:BitVec 64) (k:Nat) (w:World) (hk:k<64) :
 Calls Tryz.prog 146 #[.int .u64 (u x),.int .i64 k] w fun e w'=>e=.returned (.int .u64 (u (rol x k)))∧w'=w:=by
 have h63:=and63 k hk
 have h1:(0:Int)≤64-(k:Int):=by omega
 go_enter Tryz.func146,Tryz.ntmps146
 go_wp2
 go_ret
 refine ⟨ret_int ?_,rfl⟩
 rw[shl64,shr64,bits_or64]
 rfl
end SP
namespace SP
open Go.RowKit Go.Sort
theorem holds_zero5 (w:World) (t:TypeId):Holds enc (w.alloc (.cells #[.int .u64 0,.int .u64 0,.int .u64 0,.int .u64 0,.int .u64 0] t)) w.heap.size 0 (#[0,0,0,0,0]:St):=by
 have h:=Holds.new (enc:=enc) w t (#[0,0,0,0,0]:St)
 have e:Array.map enc (#[0,0,0,0,0]:St)=#[.int .u64 0,.int .u64 0,.int .u64 0,.int .u64 0,.int .u64 0]:=by simp[enc,u]
 rw[e] at h
 exact h
attribute [local go_sem] bits_xor64 bits_and64 bits_or64
theorem mixColumns_any (b off:Nat) (d:St) (w:World) (hd:d.size=25) (hH:Holds enc w b off d) :
 Calls Tryz.prog 128 #[.pointer (some ⟨b,off,none⟩)] w fun e w'=>e=.returned (.tuple #[])∧Only b off 25 w w'∧Holds enc w' b off (theta d):=by
 have hb:=Holds.lt hH (by omega)
 go_enter Tryz.func128,Tryz.ntmps128
 go_wp2
 generalize hW1:(w.alloc _)=W1
 go_loopg [7] 5 (fun g s7 wr=>∃ k sk,k+g=5∧s7=.int .i64 (k:Nat)∧Holds enc wr w.heap.size 0 sk∧Only w.heap.size 0 5 W1 wr∧Hid (sk=sumsTo d k))
 case atStart =>
  refine ⟨0,#[0,0,0,0,0],rfl,rfl,?_,Only.refl _ _ _ _,rfl⟩
  rw[← hW1]
  exact holds_zero5 w 185
 case round =>
  obtain ⟨k,sk,hk,rfl,hS,hO,HE⟩:=hrel
  have hHw:Holds enc wr b off d:=Holds.other (by rw[← hW1];exact Holds.below hH ((Below.refl _ _).alloc (Nat.le_refl _) _) hb) hO (by omega) (by omega)
  by_cases hlt:k<5
  ·obtain ⟨x0,hx0⟩:∃ x,d[k]! = x:=⟨_,rfl⟩
   obtain ⟨x1,hx1⟩:∃ x,d[k+5]! = x:=⟨_,rfl⟩
   obtain ⟨x2,hx2⟩:∃ x,d[k+10]! = x:=⟨_,rfl⟩
   obtain ⟨x3,hx3⟩:∃ x,d[k+15]! = x:=⟨_,rfl⟩
   obtain ⟨x4,hx4⟩:∃ x,d[k+20]! = x:=⟨_,rfl⟩
   obtain ⟨x5,hx5⟩:∃ x,sk[k]! = x:=⟨_,rfl⟩
   have hss:sk.size=5:=by rw[HE.out,sumsTo_size]
   obtain ⟨c0,f0⟩:=at_word hHw k (by omega) hx0
   obtain ⟨c1,f1⟩:=at_word hHw (k+5) (by omega) hx1
   obtain ⟨c2,f2⟩:=at_word hHw (k+10) (by omega) hx2
   obtain ⟨c3,f3⟩:=at_word hHw (k+15) (by omega) hx3
   obtain ⟨c4,f4⟩:=at_word hHw (k+20) (by omega) hx4
   obtain ⟨c5,f5⟩:=at_word hS k (by omega) hx5
   rw[Nat.zero_add] at c5 f5
   have HX:Hid (colsum d k=x0 ^^^ x1 ^^^ x2 ^^^ x3 ^^^ x4):=by rw[← hx0,← hx1,← hx2,← hx3,← hx4];rfl
   clear hx0 hx1 hx2 hx3 hx4 hx5 hHw
   have k5:(k:Int)<5:=by omega
   have b0:(k:Int)<25:=by omega
   have b1:(k:Int)+5<25:=by omega
   have b2:(k:Int)+10<25:=by omega
   have b3:(k:Int)+15<25:=by omega
   have b4:(k:Int)+20<25:=by omega
   have p1:0≤(k:Int)+5:=by omega
   have p2:0≤(k:Int)+10:=by omega
   have p3:0≤(k:Int)+15:=by omega
   have p4:0≤(k:Int)+20:=by omega
   have e1:((k:Int)+5).toNat=k+5:=by omega
   have e2:((k:Int)+10).toNat=k+10:=by omega
   have e3:((k:Int)+15).toNat=k+15:=by omega
   have e4:((k:Int)+20).toNat=k+20:=by omega
   have v1:IntKind.i64.wrap ((k:Int)+5)=(k:Int)+5:=IntWalk.i64_in _ (by omega)
   have v2:IntKind.i64.wrap ((k:Int)+10)=(k:Int)+10:=IntWalk.i64_in _ (by omega)
   have v3:IntKind.i64.wrap ((k:Int)+15)=(k:Int)+15:=IntWalk.i64_in _ (by omega)
   have v4:IntKind.i64.wrap ((k:Int)+20)=(k:Int)+20:=IntWalk.i64_in _ (by omega)
   go_wp2_with fail
   go_still_tail 35,mixed
   go_wp2
   go_roundg (gk-1)
   case measure=>omega
   case rel =>
    refine ⟨k+1,sk.setIfInBounds k (x0 ^^^ x1 ^^^ x2 ^^^ x3 ^^^ x4),by omega,by go_num,?_,?_,?_⟩
    ·have:=Holds.set hS (i:=k) (by omega) (x0 ^^^ x1 ^^^ x2 ^^^ x3 ^^^ x4)
     rw[Nat.zero_add] at this
     exact Holds.drew this
    ·exact (hO.setCell (Nat.zero_le _) (by omega) _).drew
    ·show _=(sumsTo d k).setIfInBounds k (colsum d k)
     rw[HX.out,HE.out]
  ·have hk5:k=5:=by omega
   subst hk5
   have HS:Hid (sk=sumsTo d 5):=HE
   have hO2:Only b off 25 w wr:=by
    rw[← hW1] at hO
    exact Only.of_below hO.fresh rfl hb
   clear hk hlt HE hO hW1
   go_wp2
   go_loopg [46] 5 (fun g s46 wq=>∃ k dk,k+g=5∧s46=.int .i64 (k:Nat)∧Holds enc wq b off dk∧Only b off 25 wr wq∧Hid (dk=thetaTo sk d k))
   case atStart=>exact ⟨0,d,rfl,rfl,hHw,Only.refl _ _ _ _,rfl⟩
   case round =>
    obtain ⟨k,dk,hk,rfl,hD,hO,HE⟩:=hrel
    by_cases hlt:k<5
    ·have hss:sk.size=5:=by rw[HS.out,sumsTo_size]
     have hSw:=Holds.other hS hO (by omega) (by omega)
     obtain ⟨y0,hy0⟩:∃ x,sk[(k+4)%5]! = x:=⟨_,rfl⟩
     obtain ⟨y1,hy1⟩:∃ x,sk[(k+1)%5]! = x:=⟨_,rfl⟩
     obtain ⟨c0,f0⟩:=at_word hSw ((k+4)%5) (by omega) hy0
     obtain ⟨c1,f1⟩:=at_word hSw ((k+1)%5) (by omega) hy1
     rw[Nat.zero_add] at c0 c1
     have HD:Hid (dcol sk k=y0 ^^^ rol y1 1):=by rw[← hy0,← hy1];rfl
     clear hy0 hy1 f0 f1
     have k5:(k:Int)<5:=by omega
     go_wp2_with fail
     go_quiet ((go_at_call 146;exact Calls.quiet_of_same (rotl_any _ 1 _ (by decide))))
     clear c0 c1
     go_wp2
     have hO1:=hO.drewN nq
     have hD1:=Holds.drewN hD nq
     have hds:dk.size=25:=by rw[HE.out,thetaTo_size,hd]
     go_loopg [6] 5 (fun g s6 wq=>∃ m dm,m+g=5∧s6=.int .i64 ((k+5*m:Nat):Int)∧Holds enc wq b off dm∧Only b off 25 wr wq∧Hid (dm=innerTo (y0 ^^^ rol y1 1) k dk m))
     case atStart=>exact ⟨0,dk,rfl,rfl,hD1,(Only.refl _ _ _ _).drewN _,rfl⟩
     case round =>
      obtain ⟨m,dm,hm,rfl,hM,hOm,HM⟩:=hrel
      by_cases hlt2:m<5
      ·have hms:dm.size=25:=by rw[HM.out,innerTo_size,hds]
       obtain ⟨z,hz⟩:∃ x,dm[k+5*m]! = x:=⟨_,rfl⟩
       obtain ⟨c,f⟩:=at_word hM (k+5*m) (by omega) hz
       have HZ:Hid (dm[k+5*m]! = z):=hz
       clear hz
       have r1:((k+5*m:Nat):Int)<25:=by omega
       generalize hi:k+5*m=i at *
       have Hi:Hid (k+5*m=i):=hi
       clear hi
       go_wp2_with fail
       go_still_tail 9,mixed
       go_wp2
       go_roundg (gk-1)
       case measure=>omega
       case rel =>
        refine ⟨m+1,dm.setIfInBounds i (z ^^^ (y0 ^^^ rol y1 1)),by omega,?_,?_,?_,?_⟩
        ·rw[← Hi.out];go_num
        ·exact Holds.drew (Holds.set hM (by omega) _)
        ·exact (hOm.setCell (Nat.le_add_right _ _) (by omega) _).drew
        ·show _=xorAt (innerTo (y0 ^^^ rol y1 1) k dk m) (k+5*m) (y0 ^^^ rol y1 1)
         rw[← HM.out,Hi.out,← HZ.out]
         rfl
      ·have hm5:m=5:=by omega
       subst hm5
       have r1:(25:Int)≤((k+5*5:Nat):Int):=by omega
       generalize hi:k+5*5=i at *
       go_wp2
       go_roundg (4-k)
       case measure=>omega
       case rel =>
        refine ⟨k+1,dm,by omega,by go_num,hM,hO.trans hOm,?_⟩
        show _=innerTo (dcol sk k) k (thetaTo sk d k) 5
        rw[← HE.out,HD.out]
        exact HM.out
    ·have hk5:k=5:=by omega
     subst hk5
     go_wp2
     go_end0
     refine ⟨rfl,hO2.trans hO,?_⟩
     have:theta d=dk:=by rw[HE.out,HS.out];rfl
     rw[this]
     exact hD
end SP
namespace SP
open Go.RowKit Go.Sort
attribute [local go_sem] bits_xor64 bits_and64 bits_or64
theorem offs_int (t:Nat) (h:t<24):(wrap64 ((wrap64 (((t:Int)+1)*((t:Int)+2))).tdiv 2)).tmod 64=(offs t:Int):=by
 have H:∀ j:Fin 24,(wrap64 ((wrap64 (((j.val:Int)+1)*((j.val:Int)+2))).tdiv 2)).tmod 64=(offs j.val:Int):=by decide +kernel
 exact H ⟨t,h⟩
theorem turnAndMove_any (b off:Nat) (d:St) (w:World) (hd:d.size=25) (hH:Holds enc w b off d) :
 Calls Tryz.prog 129 #[.pointer (some ⟨b,off,none⟩)] w fun e w'=>e=.returned (.tuple #[])∧Only b off 25 w w'∧Holds enc w' b off (rhopi d):=by
 obtain ⟨x1,hx1⟩:∃ x,d[1]! = x:=⟨_,rfl⟩
 obtain ⟨c1,f1⟩:=at_word hH 1 (by omega) hx1
 go_enter Tryz.func129,Tryz.ntmps129
 go_wp2
 go_loopg [2,3,4,12] 24 (fun g sx sy sm st wr=>∃ t T,t+g=24∧st=.int .i64 (t:Nat)∧sx=.int .i64 (T.x:Nat)∧sy=.int .i64 (T.y:Nat)∧sm=.int .u64 (u T.m)∧Holds enc wr b off T.d∧Only b off 25 w wr∧Hid (T=tmTo d t))
 case atStart=>exact ⟨0,tmTo d 0,rfl,rfl,rfl,rfl,by rw[← hx1];rfl,hH,Only.refl _ _ _ _,rfl⟩
 case round =>
  obtain ⟨t,⟨x,y,m,dk⟩,ht,rfl,rfl,rfl,rfl,hD,hO,HE⟩:=hrel
  have hok:=tmTo_ok d hd t
  rw[← HE.out] at hok
  obtain ⟨hx,hy,hs⟩:=hok
  dsimp only at hx hy hs hD
  clear c1 f1 hx1
  by_cases hlt:t<24
  ·obtain ⟨i,hi⟩:∃ i,y+5*((2*x+3*y)%5)=i:=⟨_,rfl⟩
   obtain ⟨z,hz⟩:∃ z,dk[i]! = z:=⟨_,rfl⟩
   have hib:i<25:=by omega
   obtain ⟨c,f⟩:=at_word hD i (by omega) hz
   have Hz:Hid (dk[i]! = z):=hz
   have Hi:Hid (y+5*((2*x+3*y)%5)=i):=hi
   have l24:(t:Int)<24:=by omega
   clear hz hi
   go_wp2_with fail
   rw[offs_int t hlt]
   refine (rotl_any m (offs t) _ (Nat.mod_lt _ (by decide))).mono ?_
   rintro e w' ⟨rfl,rfl⟩
   go_wp2_with fail
   obtain ⟨y2,hy2⟩:∃ n,(2*x+3*y)%5=n:=⟨_,rfl⟩
   have hy2':(2*(x:Int)+3*(y:Int))%5=(y2:Int):=by omega
   rw[hy2']
   have Hy2:Hid ((2*x+3*y)%5=y2):=hy2
   have r0:y2<5:=by omega
   clear hy2 hy2'
   have r1:(0:Int)≤(y:Int)+5*(y2:Int):=by omega
   have r2:(y:Int)+5*(y2:Int)<25:=by omega
   have r3:((y:Int)+5*(y2:Int)).toNat=i:=by have:=Hi.out;have:=Hy2.out;omega
   have s1:IntKind.i64.wrap (5*(y2:Int))=5*(y2:Int):=IntWalk.i64_in _ (by omega)
   have s2:IntKind.i64.wrap ((y:Int)+5*(y2:Int))=(y:Int)+5*(y2:Int):=IntWalk.i64_in _ (by omega)
   go_region
   go_wp2
   go_roundg (gk-1)
   case measure=>omega
   case rel =>
    refine ⟨t+1,⟨y,y2,z,dk.setIfInBounds i (rol m (offs t))⟩,by omega,by go_num,rfl,rfl,rfl,?_,?_,?_⟩
    ·exact Holds.drew (Holds.set hD (by omega) _)
    ·exact (hO.setCell (Nat.le_add_right _ _) (by omega) _).drew
    ·show _=tmStep t (tmTo d t)
     rw[← HE.out]
     simp only[tmStep,Hy2.out]
     have e:y+5*y2=i:=by have:=Hi.out;have:=Hy2.out;omega
     rw[e,Hz.out]
  ·have ht24:t=24:=by omega
   subst ht24
   go_wp2
   go_end0
   refine ⟨rfl,hO,?_⟩
   show Holds enc _ b off (tmTo d 24).d
   rw[← HE.out]
   exact hD
end SP
namespace SP
open Go.RowKit Go.Sort
attribute [local go_sem] bits_xor64 bits_and64 bits_or64 bits_not64
theorem mixRows_any (b off:Nat) (d:St) (w:World) (hd:d.size=25) (hH:Holds enc w b off d) :
 Calls Tryz.prog 130 #[.pointer (some ⟨b,off,none⟩)] w fun e w'=>e=.returned (.tuple #[])∧Only b off 25 w w'∧Holds enc w' b off (chi d):=by
 go_enter Tryz.func130,Tryz.ntmps130
 go_wp2
 go_loopg [2] 5 (fun g si wr=>∃ k dk,k+g=5∧si=.int .i64 ((5*k:Nat):Int)∧Holds enc wr b off dk∧Only b off 25 w wr∧Hid (dk=chiTo d k))
 case atStart=>exact ⟨0,d,rfl,rfl,hH,Only.refl _ _ _ _,rfl⟩
 case round =>
  obtain ⟨k,dk,hk,rfl,hD,hO,HE⟩:=hrel
  have hs:dk.size=25:=by rw[HE.out,chiTo_size,hd]
  by_cases hlt:k<5
  ·obtain ⟨i,hi⟩:∃ i,5*k=i:=⟨_,rfl⟩
   rw[hi]
   have Hi:Hid (5*k=i):=hi
   obtain ⟨x0,hx0⟩:∃ x,dk[i]! = x:=⟨_,rfl⟩
   obtain ⟨x1,hx1⟩:∃ x,dk[i+1]! = x:=⟨_,rfl⟩
   obtain ⟨x2,hx2⟩:∃ x,dk[i+2]! = x:=⟨_,rfl⟩
   obtain ⟨x3,hx3⟩:∃ x,dk[i+3]! = x:=⟨_,rfl⟩
   obtain ⟨x4,hx4⟩:∃ x,dk[i+4]! = x:=⟨_,rfl⟩
   obtain ⟨c0,f0⟩:=at_word hD i (by omega) hx0
   obtain ⟨c1,f1⟩:=at_word hD (i+1) (by omega) hx1
   obtain ⟨c2,f2⟩:=at_word hD (i+2) (by omega) hx2
   obtain ⟨c3,f3⟩:=at_word hD (i+3) (by omega) hx3
   obtain ⟨c4,f4⟩:=at_word hD (i+4) (by omega) hx4
   have HX0:Hid (dk[i]! = x0):=hx0
   have HX1:Hid (dk[i+1]! = x1):=hx1
   have HX2:Hid (dk[i+2]! = x2):=hx2
   have HX3:Hid (dk[i+3]! = x3):=hx3
   have HX4:Hid (dk[i+4]! = x4):=hx4
   have Q0:=HX0
   have Q1:=HX1
   have Q2:=HX2
   have Q3:=HX3
   have Q4:=HX4
   have i20:i≤20:=by omega
   clear hx0 hx1 hx2 hx3 hx4 hi
   have b0:(i:Int)<25:=by omega
   have b1:(i:Int)+1<25:=by omega
   have p1:0≤(i:Int)+1:=by omega
   have e1:((i:Int)+1).toNat=i+1:=by omega
   have v1:IntKind.i64.wrap ((i:Int)+1)=(i:Int)+1:=IntWalk.i64_in _ (by omega)
   have b2:(i:Int)+2<25:=by omega
   have p2:0≤(i:Int)+2:=by omega
   have e2:((i:Int)+2).toNat=i+2:=by omega
   have v2:IntKind.i64.wrap ((i:Int)+2)=(i:Int)+2:=IntWalk.i64_in _ (by omega)
   have b3:(i:Int)+3<25:=by omega
   have p3:0≤(i:Int)+3:=by omega
   have e3:((i:Int)+3).toNat=i+3:=by omega
   have v3:IntKind.i64.wrap ((i:Int)+3)=(i:Int)+3:=IntWalk.i64_in _ (by omega)
   have b4:(i:Int)+4<25:=by omega
   have p4:0≤(i:Int)+4:=by omega
   have e4:((i:Int)+4).toNat=i+4:=by omega
   have v4:IntKind.i64.wrap ((i:Int)+4)=(i:Int)+4:=IntWalk.i64_in _ (by omega)
   go_wp2_with fail
   go_quiet (fail)
   clear c1 c2 c3 c4 f1 f2 f3 f4 b1 p1 e1 v1 b2 p2 e2 v2 b3 p3 e3 v3 b4 p4 e4 v4
   go_wp2_with fail
   go_region
   go_wp2_with fail
   generalize hW0:World.setCell _ _ _=W0
   have hs0:(xorAt dk i (~~~x1 &&& x2)).size=25:=by rw[xorAt_size];omega
   have hD0:Holds enc W0 b off (xorAt dk i (~~~x1 &&& x2)):=by rw[← hW0];exact Holds.xor (Holds.drewN hD _) (by omega) HX0.out _
   have hO0:Only b off 25 w W0:=by rw[← hW0];exact (hO.drewN _).setCell (o:=off+i) (by omega) (by omega) _
   generalize hd0:xorAt dk i (~~~x1 &&& x2)=d0 at *
   have Hd0:Hid (xorAt dk i (~~~x1 &&& x2)=d0):=hd0
   have HX1:Hid (d0[i+1]! = x1):=by show _=_;rw[← hd0,xorAt_other _ _ _ _ (by omega)];exact HX1.out
   have HX2:Hid (d0[i+2]! = x2):=by show _=_;rw[← hd0,xorAt_other _ _ _ _ (by omega)];exact HX2.out
   have HX3:Hid (d0[i+3]! = x3):=by show _=_;rw[← hd0,xorAt_other _ _ _ _ (by omega)];exact HX3.out
   have HX4:Hid (d0[i+4]! = x4):=by show _=_;rw[← hd0,xorAt_other _ _ _ _ (by omega)];exact HX4.out
   obtain ⟨c1,f1⟩:=at_word hD0 (i+1) (by omega) HX1.out
   clear hd0 hW0 c0 f0
   have b1:(i:Int)+1<25:=by omega
   have p1:0≤(i:Int)+1:=by omega
   have e1:((i:Int)+1).toNat=i+1:=by omega
   have v1:IntKind.i64.wrap ((i:Int)+1)=(i:Int)+1:=IntWalk.i64_in _ (by omega)
   go_region
   go_wp2_with fail
   generalize hW1:World.setCell _ _ _=W1
   have hs1:(xorAt d0 (i+1) (~~~x2 &&& x3)).size=25:=by rw[xorAt_size];omega
   have hD1:Holds enc W1 b off (xorAt d0 (i+1) (~~~x2 &&& x3)):=by rw[← hW1];exact Holds.xor hD0 (by omega) HX1.out _
   have hO1:Only b off 25 w W1:=by rw[← hW1];exact (hO0).setCell (o:=off+(i+1)) (by omega) (by omega) _
   generalize hd1:xorAt d0 (i+1) (~~~x2 &&& x3)=d1 at *
   have Hd1:Hid (xorAt d0 (i+1) (~~~x2 &&& x3)=d1):=hd1
   have HX2:Hid (d1[i+2]! = x2):=by show _=_;rw[← hd1,xorAt_other _ _ _ _ (by omega)];exact HX2.out
   have HX3:Hid (d1[i+3]! = x3):=by show _=_;rw[← hd1,xorAt_other _ _ _ _ (by omega)];exact HX3.out
   have HX4:Hid (d1[i+4]! = x4):=by show _=_;rw[← hd1,xorAt_other _ _ _ _ (by omega)];exact HX4.out
   obtain ⟨c2,f2⟩:=at_word hD1 (i+2) (by omega) HX2.out
   clear hd1 hW1 c1 f1
   clear b1 p1 e1 v1
   have b2:(i:Int)+2<25:=by omega
   have p2:0≤(i:Int)+2:=by omega
   have e2:((i:Int)+2).toNat=i+2:=by omega
   have v2:IntKind.i64.wrap ((i:Int)+2)=(i:Int)+2:=IntWalk.i64_in _ (by omega)
   go_region
   go_wp2_with fail
   generalize hW2:World.setCell _ _ _=W2
   have hs2:(xorAt d1 (i+2) (~~~x3 &&& x4)).size=25:=by rw[xorAt_size];omega
   have hD2:Holds enc W2 b off (xorAt d1 (i+2) (~~~x3 &&& x4)):=by rw[← hW2];exact Holds.xor hD1 (by omega) HX2.out _
   have hO2:Only b off 25 w W2:=by rw[← hW2];exact (hO1).setCell (o:=off+(i+2)) (by omega) (by omega) _
   generalize hd2:xorAt d1 (i+2) (~~~x3 &&& x4)=d2 at *
   have Hd2:Hid (xorAt d1 (i+2) (~~~x3 &&& x4)=d2):=hd2
   have HX3:Hid (d2[i+3]! = x3):=by show _=_;rw[← hd2,xorAt_other _ _ _ _ (by omega)];exact HX3.out
   have HX4:Hid (d2[i+4]! = x4):=by show _=_;rw[← hd2,xorAt_other _ _ _ _ (by omega)];exact HX4.out
   obtain ⟨c3,f3⟩:=at_word hD2 (i+3) (by omega) HX3.out
   clear hd2 hW2 c2 f2
   clear b2 p2 e2 v2
   have b3:(i:Int)+3<25:=by omega
   have p3:0≤(i:Int)+3:=by omega
   have e3:((i:Int)+3).toNat=i+3:=by omega
   have v3:IntKind.i64.wrap ((i:Int)+3)=(i:Int)+3:=IntWalk.i64_in _ (by omega)
   go_region
   go_wp2_with fail
   generalize hW3:World.setCell _ _ _=W3
   have hs3:(xorAt d2 (i+3) (~~~x4 &&& x0)).size=25:=by rw[xorAt_size];omega
   have hD3:Holds enc W3 b off (xorAt d2 (i+3) (~~~x4 &&& x0)):=by rw[← hW3];exact Holds.xor hD2 (by omega) HX3.out _
   have hO3:Only b off 25 w W3:=by rw[← hW3];exact (hO2).setCell (o:=off+(i+3)) (by omega) (by omega) _
   generalize hd3:xorAt d2 (i+3) (~~~x4 &&& x0)=d3 at *
   have Hd3:Hid (xorAt d2 (i+3) (~~~x4 &&& x0)=d3):=hd3
   have HX4:Hid (d3[i+4]! = x4):=by show _=_;rw[← hd3,xorAt_other _ _ _ _ (by omega)];exact HX4.out
   obtain ⟨c4,f4⟩:=at_word hD3 (i+4) (by omega) HX4.out
   clear hd3 hW3 c3 f3
   clear b3 p3 e3 v3
   have b4:(i:Int)+4<25:=by omega
   have p4:0≤(i:Int)+4:=by omega
   have e4:((i:Int)+4).toNat=i+4:=by omega
   have v4:IntKind.i64.wrap ((i:Int)+4)=(i:Int)+4:=IntWalk.i64_in _ (by omega)
   go_region
   go_wp2
   generalize hW4:World.setCell _ _ _=W4
   have hs4:(xorAt d3 (i+4) (~~~x0 &&& x1)).size=25:=by rw[xorAt_size];omega
   have hD4:Holds enc W4 b off (xorAt d3 (i+4) (~~~x0 &&& x1)):=by rw[← hW4];exact Holds.xor hD3 (by omega) HX4.out _
   have hO4:Only b off 25 w W4:=by rw[← hW4];exact (hO3).setCell (o:=off+(i+4)) (by omega) (by omega) _
   generalize hd4:xorAt d3 (i+4) (~~~x0 &&& x1)=d4 at *
   have Hd4:Hid (xorAt d3 (i+4) (~~~x0 &&& x1)=d4):=hd4
   clear hd4 hW4 c4 f4
   clear b4 p4 e4 v4
   go_roundg (gk-1)
   case measure=>omega
   case rel =>
    refine ⟨k+1,d4,by omega,?_,?_,?_,?_⟩
    ·rw[← Hi.out];go_num
    ·exact hD4
    ·exact hO4.drewN 4
    ·show d4=rowAt (chiTo d k) (5*k)
     rw[← HE.out,Hi.out]
     unfold rowAt
     rw[Q0.out,Q1.out,Q2.out,Q3.out,Q4.out,Hd0.out,Hd1.out,Hd2.out,Hd3.out,Hd4.out]
  ·have hk5:k=5:=by omega
   subst hk5
   go_wp2
   go_end0
   refine ⟨rfl,hO,?_⟩
   show Holds enc _ b off (chiTo d 5)
   rw[← HE.out]
   exact hD
end SP
namespace SP
open Go.RowKit Go.Sort
attribute [local go_sem] bits_xor64 bits_and64 bits_or64 wrap_u
theorem place_int (j:Nat) (hj:j<7):∃ p:Nat,wrap64 (wrap64 ((2:Int)^j)-1)=(p:Int)∧p≤63∧Hid (2^j-1=p):=by
 have H:∀ j:Fin 7,wrap64 (wrap64 ((2:Int)^j.val)-1)=((2^j.val-1:Nat):Int)∧2^j.val-1≤63:=by decide +kernel
 exact ⟨_,(H ⟨j,hj⟩).1,(H ⟨j,hj⟩).2,rfl⟩
theorem roundConstant_any (r:Nat) (w:World) (hr:r<256) :
 Calls Tryz.prog 131 #[.int .i64 r] w fun e w'=>e=.returned (.tuple #[.int .u64 (u (rcC r)),.int .i64 (rcN r:Int)])∧w'=w:=by
 go_enter Tryz.func131,Tryz.ntmps131
 go_wp2
 go_loop [0,2,6] (fun s0 s2 s6=>∃ j:Nat,j≤7∧∃ (c:BitVec 64) (q:Nat),s6=.int .i64 j∧s2=.int .u64 (u c)∧s0=.int .i64 q∧q<256∧Hid (rcTo r j=(c,q))) (fun _ _ s6=>7-(intOf s6).toNat)
 case atStart=>exact ⟨0,by decide,0,r,rfl,rfl,rfl,hr,rfl⟩
 case round =>
  obtain ⟨j,hj,c,q,rfl,rfl,rfl,hq,HE⟩:=hrel
  by_cases hlt:j<7
  ·have a1:=rc_and q hq
   have a2:=rc_xor q hq
   obtain ⟨p,a3,hp,HP⟩:=place_int j hlt
   have HC:Hid (rcTo r (j+1)=(c ||| BitVec.ofNat 64 (q%2) <<< p,rcReg q)):=by
    show ((rcTo r j).1 ||| BitVec.ofNat 64 ((rcTo r j).2%2) <<< (2^j-1),rcReg (rcTo r j).2)=_
    rw[HE.out,HP.out]
   have hs:=shl64 (BitVec.ofNat 64 (q%2)) p
   have hlt2:=rcReg_lt q hq
   by_cases h255:255<2*q
   ·have HR:Hid (rcReg q=2*q ^^^ 369):=if_pos h255
    rw[HR.out] at hlt2
    generalize 2*q ^^^ 369=q2 at *
    go_wp2
    go_round
    case rel=>exact ⟨j+1,by omega,_,q2,by go_num,rfl,rfl,hlt2,by rw[HC.out,HR.out];rfl⟩
    case measure=>simp[intOf];omega
   ·have HR:Hid (rcReg q=2*q):=if_neg h255
    go_wp2
    go_round
    case rel=>exact ⟨j+1,by omega,_,2*q,by go_num,rfl,by go_num,by omega,by rw[HC.out,HR.out];rfl⟩
    case measure=>simp[intOf];omega
  ·have hj7:j=7:=by omega
   subst hj7
   go_wp2
   go_ret2
   unfold rcC rcN
   rw[HE.out]
   exact ⟨rfl,rfl⟩
theorem permute_any (b off:Nat) (d:St) (w:World) (hd:d.size=25) (hH:Holds enc w b off d) :
 Calls Tryz.prog 97 #[.pointer (some ⟨b,off,none⟩)] w fun e w'=>e=.returned (.tuple #[])∧Only b off 25 w w'∧Holds enc w' b off (perm d):=by
 go_enter Tryz.func97,Tryz.ntmps97
 go_wp2
 go_loopg [2,3,4] 24 (fun g sc sr sk wr=>∃ (k:Nat) (c:BitVec 64) (dk:St),k+g=24∧sk=.int .i64 k∧sc=.int .u64 (u c)∧sr=.int .i64 (rcAt k:Nat)∧Holds enc wr b off dk∧Only b off 25 w wr∧Hid (dk=permTo d k))
 case atStart=>exact ⟨0,0,d,rfl,rfl,rfl,rfl,hH,Only.refl _ _ _ _,rfl⟩
 case round =>
  obtain ⟨k,c,dk,hk,rfl,rfl,rfl,hD,hO,HE⟩:=hrel
  have hs:dk.size=25:=by rw[HE.out,permTo_size d hd]
  by_cases hlt:k<24
  ·have k24:(k:Int)<24:=by omega
   go_wp2_with fail
   refine (mixColumns_any b off dk _ hs hD).mono ?_
   rintro e w1 ⟨rfl,hO1,hD1⟩
   go_wp2_with fail
   refine (turnAndMove_any b off _ _ (by rw[theta_size,hs]) hD1).mono ?_
   rintro e w2 ⟨rfl,hO2,hD2⟩
   go_wp2_with fail
   refine (mixRows_any b off _ _ (rhopi_size _ (by rw[theta_size,hs])) hD2).mono ?_
   rintro e w3 ⟨rfl,hO3,hD3⟩
   have HN:Hid (rcAt (k+1)=rcN (rcAt k)):=rfl
   have HK:Hid (permTo d (k+1)=kround (permTo d k) (rcC (rcAt k))):=rfl
   have hrl:=rcAt_lt k
   generalize rcAt k=r at *
   go_wp2_with fail
   refine (roundConstant_any r _ hrl).mono ?_
   rintro e w4 ⟨rfl,rfl⟩
   have hs3:(chi (rhopi (theta dk))).size=25:=by rw[chi_size,rhopi_size _ (by rw[theta_size,hs])]
   obtain ⟨x,hx⟩:∃ x,(chi (rhopi (theta dk)))[0]! = x:=⟨_,rfl⟩
   obtain ⟨c0,f0⟩:=at_word hD3 0 (by omega) hx
   rw[Nat.add_zero] at c0 f0
   have HX:Hid ((chi (rhopi (theta dk)))[0]! = x):=hx
   clear hx
   go_wp2_with fail
   go_region
   go_wp2
   go_roundg (gk-1)
   case measure=>omega
   case rel =>
    refine ⟨k+1,rcC r,kround dk (rcC r),by omega,by go_num,rfl,by rw[HN.out],?_,?_,?_⟩
    ·exact Holds.drew (Holds.xor (i:=0) hD3 (by omega) HX.out (rcC r))
    ·exact ((((hO.trans hO1).trans hO2).trans hO3).setCell (o:=off) (by omega) (by omega) _).drew
    ·rw[HK.out,HE.out];rfl
  ·have hk24:k=24:=by omega
   subst hk24
   go_wp2
   go_end0
   refine ⟨rfl,hO,?_⟩
   unfold perm
   rw[← HE.out]
   exact hD
end SP
namespace SP
open Go.RowKit Go.Sort Go.Deep
attribute [local go_sem] bits_xor64 bits_and64 bits_or64 wrap_u wrap_ub
theorem at_byte {w:World} {b off:Nat} {d:Bs} (h:Holds encB w b off d) (i:Nat) (hi:i<d.size) {x:UInt8} (hx:d[i]! = x) :
 w.cell? ⟨b,off+i,none⟩=some (.int .u8 (ub x))∧w.frozen? ⟨b,off+i,none⟩=false:=by
 rw[← hx];exact h i hi
theorem word_any (sb so o len cap:Nat) (bs:Bs) (w:World) (hB:Holds encB w sb so bs) (h8:8≤len) (ho:o+8≤bs.size) (hl:len≤4611686018427387904) :
 Calls Tryz.prog 127 #[.slice (some ⟨sb,so+o,none⟩) len cap] w fun e w'=>e=.returned (.int .u64 (u (wordOf bs o)))∧w'=w:=by
 go_enter Tryz.func127,Tryz.ntmps127
 go_wp2
 go_loop [3,5] (fun s3 s5=>∃ (k:Nat) (c:BitVec 64),k≤8∧s5=.int .i64 k∧s3=.int .u64 (u c)∧Hid (wordTo bs o k=c)) (fun _ s5=>8-(intOf s5).toNat)
 case atStart=>exact ⟨0,0,by decide,rfl,rfl,rfl⟩
 case round =>
  obtain ⟨k,c,hk,rfl,rfl,HE⟩:=hrel
  by_cases hlt:k<8
  ·obtain ⟨x,hx⟩:∃ x,bs[o+k]! = x:=⟨_,rfl⟩
   obtain ⟨c0,f0⟩:=at_byte hB (o+k) (by omega) hx
   rw[← Nat.add_assoc] at c0
   have HC:Hid (wordTo bs o (k+1)=c ||| wide x <<< (8*k)):=by
    show wordTo bs o k ||| wide bs[o+k]! <<< (8*k)=_
    rw[HE.out,hx]
   clear hx f0
   have hs:=shl64 (wide x) (8*k)
   have k8:(k:Int)<(len:Int):=by omega
   go_wp2
   go_round
   case rel=>exact ⟨k+1,_,by omega,by go_num,rfl,HC⟩
   case measure=>simp[intOf];omega
  ·have hk8:k=8:=by omega
   subst hk8
   go_wp2
   go_ret
   unfold wordOf
   rw[HE.out]
   exact ⟨rfl,rfl⟩
theorem mix_any (b off sb so len cap:Nat) (bs:Bs) (d:St) (w:World) (hd:d.size=25) (hH:Holds enc w b off d) (hB:Holds encB w sb so bs) (hl:bs.size=len) (hlen:len≤200) (hcap:len≤cap)
 (hdis:sb≠b∨so+len≤off∨off+25≤so) :
 Calls Tryz.prog 96 #[.pointer (some ⟨b,off,none⟩),.slice (some ⟨sb,so,none⟩) len cap] w fun e w'=>e=.returned (.tuple #[])∧Only b off 25 w w'∧Holds enc w' b off (mixTo bs d (len/8)):=by
 go_enter Tryz.func96,Tryz.ntmps96
 go_wp2
 go_loopg [8] (len/8) (fun g s8 wr=>∃ (k:Nat) (dk:St),k+g=len/8∧s8=.int .i64 k∧Holds enc wr b off dk∧Only b off 25 w wr∧Hid (dk=mixTo bs d k))
 case atStart=>exact ⟨0,d,by omega,rfl,hH,Only.refl _ _ _ _,rfl⟩
 case round =>
  obtain ⟨k,dk,hk,rfl,hD,hO,HE⟩:=hrel
  have hs:dk.size=25:=by rw[HE.out,mixTo_size,hd]
  by_cases hlt:k<len/8
  ·have hBr:Holds encB wr sb so bs:=by
    by_cases hsb:sb=b
    ·subst hsb
     exact Holds.same hB hO (by omega)
    ·exact Holds.other hB hO hsb (by omega)
   obtain ⟨x,hx⟩:∃ x,dk[k]! = x:=⟨_,rfl⟩
   obtain ⟨c0,f0⟩:=at_word hD k (by omega) hx
   have HX:Hid (dk[k]! = x):=hx
   clear hx
   have r0:(k:Int)<25:=by omega
   have r1:(0:Int)≤(k:Int)*8:=by omega
   have r2:(k:Int)*8≤(len:Int):=by omega
   have r3:((k:Int)*8).toNat=8*k:=by omega
   have s1:IntKind.i64.wrap ((k:Int)*8)=(k:Int)*8:=IntWalk.i64_in _ (by omega)
   have lt:(k:Int)<(len:Int)/8:=by omega
   go_wp2_with fail
   have hne:(cap=8*k)=False:=eq_false (by omega)
   have HB:Hid (Holds encB wr.drew sb so bs):=Holds.drew hBr
   have Q4:Hid (8*k+8≤bs.size):=by show _≤_;omega
   clear hBr
   go_region_with (go_at_call 127;refine (word_any sb so (8*k) (len-8*k) (cap-8*k) bs _ HB.out (by omega) Q4.out (by omega)).mono ?_;rintro e w2 ⟨rfl,rfl⟩)
   all_goals
    go_wp2
    go_roundg (gk-1)
    case measure=>omega
    case rel =>
     refine ⟨k+1,xorAt dk k (wordOf bs (8*k)),by omega,by go_num,?_,?_,?_⟩
     ·exact Holds.drew (Holds.xor hD (by omega) HX.out _)
     ·exact (hO.setCell (o:=off+k) (by omega) (by omega) _).drew
     ·rw[HE.out];rfl
  ·have hk8:k=len/8:=by omega
   have lt:(len:Int)/8≤(k:Int):=by omega
   go_wp2
   go_end0
   refine ⟨rfl,hO,?_⟩
   rw[← hk8,← HE.out]
   exact hD
theorem slice22:Tryz.prog.underlying 24=some (.slice 5):=by kernel_rfl
theorem info5:(Tryz.prog.info? 5).map (fun i=>(i.zero,i.size,i.bytes))=some (some (.int .u8 0),1,1):=by kernel_rfl
attribute [local go_sem] low_u
theorem front_any (b off n:Nat) (d:St) (w:World) (hd:d.size=25) (hH:Holds enc w b off d) (hn:n≤200) :
 Calls Tryz.prog 40 #[.pointer (some ⟨b,off,none⟩),.int .i64 n] w fun e w'=>e=.returned (.slice (some ⟨w.heap.size,0,none⟩) n n)∧Below w.heap.size w w'∧Holds encB w' w.heap.size 0 (front d n):=by
 have hb:=Holds.lt hH (by omega)
 have hmk:=run_make_row' (P:=Tryz.prog) 24 5 (.int .u8 0) 1 slice22 info5 rfl .i64 .i64 n (by omega) (by omega)
 go_enter Tryz.func40,Tryz.ntmps40
 go_wp2
 generalize hW1:(w.alloc _)=W1
 go_loopg [11] n (fun g s11 wr=>∃ (k:Nat) (bs:Bs),k+g=n∧s11=.int .i64 k∧Holds encB wr w.heap.size 0 bs∧Only w.heap.size 0 n W1 wr∧Hid (bs=frontTo d n k))
 case atStart =>
  refine ⟨0,_,by omega,rfl,?_,Only.refl _ _ _ _,rfl⟩
  rw[← hW1]
  exact Holds.made (enc:=encB) w 5 n 0
 case round =>
  obtain ⟨k,bs,hk,rfl,hB,hO,HE⟩:=hrel
  have hs:bs.size=n:=by rw[HE.out,frontTo_size]
  have hD:Holds enc wr b off d:=Holds.other (by rw[← hW1];exact Holds.below hH ((Below.refl _ _).alloc (Nat.le_refl _) _) hb) hO (by omega) (by omega)
  by_cases hlt:k<n
  ·obtain ⟨x,hx⟩:∃ x,d[k/8]! = x:=⟨_,rfl⟩
   obtain ⟨c0,f0⟩:=at_word hD (k/8) (by omega) hx
   obtain ⟨c1,f1⟩:=hB k (by omega)
   rw[Nat.zero_add] at c1 f1
   have HX:Hid (byteOf d k=low (x >>> (8*(k%8)))):=by show low _=_;rw[hx]
   clear hx f0
   have r0:(k:Int)/8<25:=by omega
   have r1:(k:Int)<(n:Int):=by omega
   have hsr:=shr64 x (8*(k%8))
   go_wp2
   go_roundg (gk-1)
   case measure=>omega
   case rel =>
    refine ⟨k+1,bs.setIfInBounds k (low (x >>> (8*(k%8)))),by omega,by go_num,?_,?_,?_⟩
    ·have:=Holds.set hB (i:=k) (by omega) (low (x >>> (8*(k%8))))
     rw[Nat.zero_add] at this
     exact this
    ·exact hO.setCell (o:=k) (by omega) (by omega) _
    ·show _=(frontTo d n k).setIfInBounds k (byteOf d k)
     rw[HX.out,HE.out]
  ·have hkn:k=n:=by omega
   have lt:(n:Int)≤(k:Int):=by omega
   go_wp2
   go_ret
   refine ⟨rfl,?_,?_⟩
   ·rw[← hW1] at hO
    exact hO.fresh
   ·unfold front
    rw[HE.out,hkn] at hB
    exact hB
end SP
namespace SP
open Go.RowKit
def encI (n:Nat):Value:=.int .i64 n
def colIn (a:St) (x:Nat) (c:St):Nat→St
 | 0=>c
 | y+1=>xorAt (colIn a x c y) x a[x+5*y]!
def colTo (a:St):Nat→St
 | 0=>Array.replicate 5 0
 | x+1=>colIn a x (colTo a x) 5
def movIn (a:St) (tn:Array Nat) (x:Nat) (v:BitVec 64) (m:St):Nat→St
 | 0=>m
 | y+1=>(movIn a tn x v m y).setIfInBounds (y%5+5*((2*x+3*y)%5)) (rol (a[x+5*y]! ^^^ v) tn[x+5*y]!)
def movTo (a:St) (tn:Array Nat) (c:St):Nat→St
 | 0=>Array.replicate 25 0
 | x+1=>movIn a tn x (dcol c x) (movTo a tn c x) 5
def outIn (m:St) (x:Nat) (o:St):Nat→St
 | 0=>o
 | y+1=>(outIn m x o y).setIfInBounds (x+5*y) (m[x+5*y]! ^^^ (~~~m[(x+1)%5+5*y]! &&& m[(x+2)%5+5*y]!))
def outTo (m:St):Nat→St
 | 0=>Array.replicate 25 0
 | x+1=>outIn m x (outTo m x) 5
def refRound (a:St) (tn:Array Nat) (c:BitVec 64):St:=xorAt (outTo (movTo a tn (colTo a 5) 5) 5) 0 c
theorem colIn_size (a:St) (x:Nat) (c:St) (y:Nat):(colIn a x c y).size=c.size:=by
 induction y with
 | zero=>rfl
 | succ y ih=>simp[colIn,xorAt_size,ih]
theorem colTo_size (a:St) (x:Nat):(colTo a x).size=5:=by
 induction x with
 | zero=>simp[colTo]
 | succ x ih=>simp[colTo,colIn_size,ih]
theorem movIn_size (a:St) (tn:Array Nat) (x:Nat) (v:BitVec 64) (m:St) (y:Nat):(movIn a tn x v m y).size=m.size:=by
 induction y with
 | zero=>rfl
 | succ y ih=>simp[movIn,ih]
theorem movTo_size (a:St) (tn:Array Nat) (c:St) (x:Nat):(movTo a tn c x).size=25:=by
 induction x with
 | zero=>simp[movTo]
 | succ x ih=>simp[movTo,movIn_size,ih]
theorem outIn_size (m:St) (x:Nat) (o:St) (y:Nat):(outIn m x o y).size=o.size:=by
 induction y with
 | zero=>rfl
 | succ y ih=>simp[outIn,ih]
theorem outTo_size (m:St) (x:Nat):(outTo m x).size=25:=by
 induction x with
 | zero=>simp[outTo]
 | succ x ih=>simp[outTo,outIn_size,ih]
theorem refRound_size (a:St) (tn:Array Nat) (c:BitVec 64):(refRound a tn c).size=25:=by simp[refRound,xorAt_size,outTo_size]
structure Of where
 x:Nat
 y:Nat
 o:Array Nat
def ofTo:Nat→Of
 | 0=>{ x:=1,y:=0,o:=Array.replicate 25 0 }
 | t+1=>{ x:=(ofTo t).y,y:=(2*(ofTo t).x+3*(ofTo t).y)%5,o:=(ofTo t).o.setIfInBounds ((ofTo t).x%5+5*((ofTo t).y%5)) (offs t) }
def offsetsL:Array Nat:=(ofTo 24).o
theorem ofTo_ok (t:Nat):(ofTo t).x<5∧(ofTo t).y<5∧(ofTo t).o.size=25:=by
 induction t with
 | zero=>exact ⟨show 1<5 by decide,show 0<5 by decide,show (Array.replicate 25 0).size=25 by simp⟩
 | succ t ih =>
  obtain ⟨h1,h2,h3⟩:=ih
  refine ⟨h2,?_,?_⟩
  ·show (2*(ofTo t).x+3*(ofTo t).y)%5<5
   omega
  ·show ((ofTo t).o.setIfInBounds _ _).size=25
   rw[Array.size_setIfInBounds,h3]
def regTo:Nat→Nat
 | 0=>1
 | i+1=>rcReg (regTo i)
def bitL (t:Nat):BitVec 64:=BitVec.ofNat 64 (regTo t%2)
def conTo (r:Nat):Nat→BitVec 64
 | 0=>0
 | j+1=>conTo r j ||| bitL (j+7*r) <<< (2^j-1)
def conL (r:Nat):BitVec 64:=conTo r 7
def refTo (d:St):Nat→St
 | 0=>d
 | k+1=>refRound (refTo d k) offsetsL (conL k)
end SP
namespace SP
theorem con_eq:∀ k:Fin 24,conL k.val=rcC (rcAt k.val):=by decide +kernel
theorem offsets_eq:offsetsL=#[0,1,62,28,27,36,44,6,55,20,3,10,43,25,39,41,45,15,21,8,18,2,61,56,14]:=by decide +kernel
theorem rol_zero (x:BitVec 64):rol x 0=x:=by
 unfold rol
 rw[BitVec.shiftLeft_zero,Nat.sub_zero,BitVec.ushiftRight_eq_zero (Nat.le_refl 64),BitVec.or_zero]
theorem zx (x:BitVec 64):0 ^^^ x=x:=BitVec.zero_xor
theorem col_one (a0 a1 a2 a3 a4 a5 a6 a7 a8 a9 a10 a11 a12 a13 a14 a15 a16 a17 a18 a19 a20 a21 a22 a23 a24:BitVec 64):colTo #[a0,a1,a2,a3,a4,a5,a6,a7,a8,a9,a10,a11,a12,a13,a14,a15,a16,a17,a18,a19,a20,a21,a22,a23,a24] 5=#[0 ^^^ a0 ^^^ a5 ^^^ a10 ^^^ a15 ^^^ a20,0 ^^^ a1 ^^^ a6 ^^^ a11 ^^^ a16 ^^^ a21,0 ^^^ a2 ^^^ a7 ^^^ a12 ^^^ a17 ^^^ a22,0 ^^^ a3 ^^^ a8 ^^^ a13 ^^^ a18 ^^^ a23,0 ^^^ a4 ^^^ a9 ^^^ a14 ^^^ a19 ^^^ a24]:=by kernel_rfl
theorem sums_one (a0 a1 a2 a3 a4 a5 a6 a7 a8 a9 a10 a11 a12 a13 a14 a15 a16 a17 a18 a19 a20 a21 a22 a23 a24:BitVec 64):sumsTo #[a0,a1,a2,a3,a4,a5,a6,a7,a8,a9,a10,a11,a12,a13,a14,a15,a16,a17,a18,a19,a20,a21,a22,a23,a24] 5=#[a0 ^^^ a5 ^^^ a10 ^^^ a15 ^^^ a20,a1 ^^^ a6 ^^^ a11 ^^^ a16 ^^^ a21,a2 ^^^ a7 ^^^ a12 ^^^ a17 ^^^ a22,a3 ^^^ a8 ^^^ a13 ^^^ a18 ^^^ a23,a4 ^^^ a9 ^^^ a14 ^^^ a19 ^^^ a24]:=by kernel_rfl
theorem col_eq (a0 a1 a2 a3 a4 a5 a6 a7 a8 a9 a10 a11 a12 a13 a14 a15 a16 a17 a18 a19 a20 a21 a22 a23 a24:BitVec 64):colTo #[a0,a1,a2,a3,a4,a5,a6,a7,a8,a9,a10,a11,a12,a13,a14,a15,a16,a17,a18,a19,a20,a21,a22,a23,a24] 5=sumsTo #[a0,a1,a2,a3,a4,a5,a6,a7,a8,a9,a10,a11,a12,a13,a14,a15,a16,a17,a18,a19,a20,a21,a22,a23,a24] 5:=by
 rw[col_one,sums_one]
 simp only[zx]
theorem mov_one (S:St) (a0 a1 a2 a3 a4 a5 a6 a7 a8 a9 a10 a11 a12 a13 a14 a15 a16 a17 a18 a19 a20 a21 a22 a23 a24:BitVec 64):movTo #[a0,a1,a2,a3,a4,a5,a6,a7,a8,a9,a10,a11,a12,a13,a14,a15,a16,a17,a18,a19,a20,a21,a22,a23,a24] #[0,1,62,28,27,36,44,6,55,20,3,10,43,25,39,41,45,15,21,8,18,2,61,56,14] S 5=#[rol (a0 ^^^ dcol S 0) 0,rol (a6 ^^^ dcol S 1) 44,rol (a12 ^^^ dcol S 2) 43,rol (a18 ^^^ dcol S 3) 21,rol (a24 ^^^ dcol S 4) 14,rol (a3 ^^^ dcol S 3) 28,rol (a9 ^^^ dcol S 4) 20,rol (a10 ^^^ dcol S 0) 3,rol (a16 ^^^ dcol S 1) 45,rol (a22 ^^^ dcol S 2) 61,rol (a1 ^^^ dcol S 1) 1,rol (a7 ^^^ dcol S 2) 6,rol (a13 ^^^ dcol S 3) 25,rol (a19 ^^^ dcol S 4) 8,rol (a20 ^^^ dcol S 0) 18,rol (a4 ^^^ dcol S 4) 27,rol (a5 ^^^ dcol S 0) 36,rol (a11 ^^^ dcol S 1) 10,rol (a17 ^^^ dcol S 2) 15,rol (a23 ^^^ dcol S 3) 56,rol (a2 ^^^ dcol S 2) 62,rol (a8 ^^^ dcol S 3) 55,rol (a14 ^^^ dcol S 4) 39,rol (a15 ^^^ dcol S 0) 41,rol (a21 ^^^ dcol S 1) 2]:=by kernel_rfl
theorem rho_one (S:St) (a0 a1 a2 a3 a4 a5 a6 a7 a8 a9 a10 a11 a12 a13 a14 a15 a16 a17 a18 a19 a20 a21 a22 a23 a24:BitVec 64):rhopi (thetaTo S #[a0,a1,a2,a3,a4,a5,a6,a7,a8,a9,a10,a11,a12,a13,a14,a15,a16,a17,a18,a19,a20,a21,a22,a23,a24] 5)=#[a0 ^^^ dcol S 0,rol (a6 ^^^ dcol S 1) 44,rol (a12 ^^^ dcol S 2) 43,rol (a18 ^^^ dcol S 3) 21,rol (a24 ^^^ dcol S 4) 14,rol (a3 ^^^ dcol S 3) 28,rol (a9 ^^^ dcol S 4) 20,rol (a10 ^^^ dcol S 0) 3,rol (a16 ^^^ dcol S 1) 45,rol (a22 ^^^ dcol S 2) 61,rol (a1 ^^^ dcol S 1) 1,rol (a7 ^^^ dcol S 2) 6,rol (a13 ^^^ dcol S 3) 25,rol (a19 ^^^ dcol S 4) 8,rol (a20 ^^^ dcol S 0) 18,rol (a4 ^^^ dcol S 4) 27,rol (a5 ^^^ dcol S 0) 36,rol (a11 ^^^ dcol S 1) 10,rol (a17 ^^^ dcol S 2) 15,rol (a23 ^^^ dcol S 3) 56,rol (a2 ^^^ dcol S 2) 62,rol (a8 ^^^ dcol S 3) 55,rol (a14 ^^^ dcol S 4) 39,rol (a15 ^^^ dcol S 0) 41,rol (a21 ^^^ dcol S 1) 2]:=by kernel_rfl
theorem mov_eq (S:St) (a0 a1 a2 a3 a4 a5 a6 a7 a8 a9 a10 a11 a12 a13 a14 a15 a16 a17 a18 a19 a20 a21 a22 a23 a24:BitVec 64):movTo #[a0,a1,a2,a3,a4,a5,a6,a7,a8,a9,a10,a11,a12,a13,a14,a15,a16,a17,a18,a19,a20,a21,a22,a23,a24] offsetsL S 5=rhopi (thetaTo S #[a0,a1,a2,a3,a4,a5,a6,a7,a8,a9,a10,a11,a12,a13,a14,a15,a16,a17,a18,a19,a20,a21,a22,a23,a24] 5):=by
 rw[offsets_eq,mov_one,rho_one,rol_zero]
theorem out_eq (a0 a1 a2 a3 a4 a5 a6 a7 a8 a9 a10 a11 a12 a13 a14 a15 a16 a17 a18 a19 a20 a21 a22 a23 a24:BitVec 64):outTo #[a0,a1,a2,a3,a4,a5,a6,a7,a8,a9,a10,a11,a12,a13,a14,a15,a16,a17,a18,a19,a20,a21,a22,a23,a24] 5=chi #[a0,a1,a2,a3,a4,a5,a6,a7,a8,a9,a10,a11,a12,a13,a14,a15,a16,a17,a18,a19,a20,a21,a22,a23,a24]:=by kernel_rfl
theorem list25 {α:Type} (l:List α) (h:l.length=25):∃ a0 a1 a2 a3 a4 a5 a6 a7 a8 a9 a10 a11 a12 a13 a14 a15 a16 a17 a18 a19 a20 a21 a22 a23 a24,l=[a0,a1,a2,a3,a4,a5,a6,a7,a8,a9,a10,a11,a12,a13,a14,a15,a16,a17,a18,a19,a20,a21,a22,a23,a24]:=by
 match l,h with
 | [a0,a1,a2,a3,a4,a5,a6,a7,a8,a9,a10,a11,a12,a13,a14,a15,a16,a17,a18,a19,a20,a21,a22,a23,a24],_=>exact ⟨_,_,_,_,_,_,_,_,_,_,_,_,_,_,_,_,_,_,_,_,_,_,_,_,_,rfl⟩
theorem arr25 {α:Type} (d:Array α) (h:d.size=25):∃ a0 a1 a2 a3 a4 a5 a6 a7 a8 a9 a10 a11 a12 a13 a14 a15 a16 a17 a18 a19 a20 a21 a22 a23 a24,d=#[a0,a1,a2,a3,a4,a5,a6,a7,a8,a9,a10,a11,a12,a13,a14,a15,a16,a17,a18,a19,a20,a21,a22,a23,a24]:=by
 obtain ⟨l⟩:=d
 obtain ⟨a0,a1,a2,a3,a4,a5,a6,a7,a8,a9,a10,a11,a12,a13,a14,a15,a16,a17,a18,a19,a20,a21,a22,a23,a24,rfl⟩:=list25 l h
 exact ⟨_,_,_,_,_,_,_,_,_,_,_,_,_,_,_,_,_,_,_,_,_,_,_,_,_,rfl⟩
theorem out_chi (m:St) (h:m.size=25):outTo m 5=chi m:=by
 obtain ⟨a0,a1,a2,a3,a4,a5,a6,a7,a8,a9,a10,a11,a12,a13,a14,a15,a16,a17,a18,a19,a20,a21,a22,a23,a24,rfl⟩:=arr25 m h
 exact out_eq _ _ _ _ _ _ _ _ _ _ _ _ _ _ _ _ _ _ _ _ _ _ _ _ _
theorem round_eq (d:St) (h:d.size=25) (c:BitVec 64):refRound d offsetsL c=kround d c:=by
 have hm:movTo d offsetsL (colTo d 5) 5=rhopi (theta d):=by
  obtain ⟨a0,a1,a2,a3,a4,a5,a6,a7,a8,a9,a10,a11,a12,a13,a14,a15,a16,a17,a18,a19,a20,a21,a22,a23,a24,rfl⟩:=arr25 d h
  rw[col_eq,mov_eq]
  rfl
 unfold refRound kround
 rw[hm,out_chi _ (rhopi_size _ (by rw[theta_size,h]))]
theorem refTo_eq (d:St) (h:d.size=25) (k:Nat) (hk:k≤24):refTo d k=permTo d k:=by
 induction k with
 | zero=>rfl
 | succ k ih =>
  show refRound (refTo d k) offsetsL (conL k)=kround (permTo d k) (rcC (rcAt k))
  rw[ih (by omega),con_eq ⟨k,by omega⟩,round_eq _ (permTo_size d h k)]
theorem offsets_lt:∀ i,i<25→offsetsL[i]! < 64:=by
 intro i hi
 have H:∀ j:Fin 25,offsetsL[j.val]! < 64:=by decide +kernel
 exact H ⟨i,hi⟩
theorem offsets_size:offsetsL.size=25:=by rw[offsets_eq];rfl
end SP
namespace SP
open Go.Sort
def zero25:St:=Array.replicate 25 0
def permB (bs:Bs):Bs:=front (perm (mixTo bs zero25 25)) 200
def orTo (bs:Bs):Nat→St
 | 0=>zero25
 | i+1=>(orTo bs i).setIfInBounds (i/8) ((orTo bs i)[i/8]! ||| wide bs[i]! <<< (8*(i%8)))
theorem orTo_size (bs:Bs) (i:Nat):(orTo bs i).size=25:=by
 induction i with
 | zero=>simp[orTo,zero25]
 | succ i ih=>simp[orTo,ih]
theorem zero25_at (j:Nat) (h:j<25):zero25[j]! = 0:=by
 have h':j<(Array.replicate 25 (0:BitVec 64)).size:=by rw[Array.size_replicate];exact h
 unfold zero25
 rw[getElem!_pos (Array.replicate 25 (0:BitVec 64)) j h',Array.getElem_replicate]
theorem orTo_at (bs:Bs) (n j:Nat) (hn:n≤200) (hj:j<25) :
 (orTo bs n)[j]! = if j<n/8 then wordOf bs (8*j) else if j=n/8 then wordTo bs (8*j) (n%8) else 0:=by
 induction n with
 | zero =>
  rw[orTo,zero25_at j hj]
  by_cases h:j=0
  ·subst h;rfl
  ·simp[h]
 | succ n ih =>
  have ih:=ih (by omega)
  rw[orTo]
  by_cases hjn:j=n/8
  ·rw[← hjn,getElem!_set_same _ _ _ (by rw[orTo_size];omega),ih,if_neg (by omega),if_pos hjn]
   have hb:bs[n]! = bs[8*j+n%8]!:=by
    have:n=8*j+n%8:=by omega
    rw[← this]
   rw[hb]
   show wordTo bs (8*j) (n%8+1)=_
   by_cases h8:n%8=7
   ·rw[if_pos (by omega),h8]
    rfl
   ·rw[if_neg (by omega),if_pos (by omega),show (n+1)%8=n%8+1 by omega]
  ·rw[getElem!_set_other _ _ _ _ hjn,ih]
   by_cases h1:j<n/8
   ·rw[if_pos h1,if_pos (by omega)]
   ·rw[if_neg h1,if_neg hjn,if_neg (by omega)]
    by_cases h2:j=(n+1)/8
    ·rw[if_pos h2,show (n+1)%8=0 by omega]
     rfl
    ·rw[if_neg h2]
theorem mixTo_at (bs:Bs) (d:St) (hd:d.size=25) (n j:Nat) (hn:n≤25) (hj:j<25):(mixTo bs d n)[j]! = if j<n then d[j]! ^^^ wordOf bs (8*j) else d[j]!:=by
 induction n with
 | zero=>rfl
 | succ n ih =>
  have ih:=ih (by omega)
  rw[mixTo]
  unfold xorAt
  by_cases hjn:j=n
  ·rw[← hjn,getElem!_set_same _ _ _ (by rw[mixTo_size,hd];exact hj),if_pos (by omega)]
   rw[← hjn] at ih
   rw[ih,if_neg (by omega)]
  ·rw[getElem!_set_other _ _ _ _ hjn,ih]
   by_cases h1:j<n
   ·rw[if_pos h1,if_pos (by omega)]
   ·rw[if_neg h1,if_neg (by omega)]
theorem st_ext (a b:St) (ha:a.size=25) (hb:b.size=25) (h:∀ j,j<25→a[j]! = b[j]!):a=b:=by
 apply Array.ext (by omega)
 intro i h1 h2
 have:=h i (by omega)
 rwa[getElem!_pos a i h1,getElem!_pos b i h2] at this
theorem or_mix (bs:Bs):orTo bs 200=mixTo bs zero25 25:=by
 have hz:zero25.size=25:=by simp[zero25]
 refine st_ext _ _ (orTo_size _ _) (by rw[mixTo_size,hz]) (fun j hj=>?_)
 rw[orTo_at bs 200 j (Nat.le_refl _) hj,mixTo_at bs zero25 hz 25 j (Nat.le_refl _) hj,if_pos (by omega),if_pos hj,zero25_at j hj,zx]
theorem ref_permB (bs:Bs):front (refTo (orTo bs 200) 24) 200=permB bs:=by
 have hz:zero25.size=25:=by simp[zero25]
 rw[refTo_eq _ (orTo_size _ _) 24 (Nat.le_refl _),or_mix]
 rfl
end SP
namespace SP
open Go.RowKit Go.Sort
end SP
namespace SP
open Go.RowKit Go.Sort
def fill (i:Nat):UInt8:=UInt8.ofNat (i%251) ^^^ 165
def lentTo (s:ByteArray):Nat→Bs
 | 0=>s.data++Array.replicate 160 0
 | k+1=>(lentTo s k).setIfInBounds (s.size+k) (fill (s.size+k))
def lent (s:ByteArray):Bs:=lentTo s 160
variable {w w1:World} {b o n:Nat}
theorem heap_setCells (b:Nat) {k:Nat} (hk:k≠b):∀ (vs:List Value) (p:Nat) (w:World),(w.setCells b p vs).heap[k]? = w.heap[k]?
 | [],_,_=>rfl
 | v :: r,p,w=>by rw[World.setCells,heap_setCells b hk r (p+1) _,Below.heap_setCell _ _ _ _ hk]
theorem Only.setCells (h:Only b o n w w1) (vs:List Value) (p:Nat) (hp:o≤p) (hn:p+vs.length≤o+n):Only b o n w (w1.setCells b p vs):=by
 have h0:=below_setCells (B:=0) (b:=b) (Nat.zero_le _) vs p w1 (Below.refl 0 w1)
 exact h.trans ⟨h0.os,h0.tape,h0.output,h0.size,fun k _ hk=>heap_setCells b hk vs p w1,
  fun q hq=>World.cell?_setCells_out b vs p w1 ⟨b,q,none⟩ (fun _ _=>by simp only;omega),fun q=>World.frozen?_setCells b vs p w1 _⟩
theorem Holds.setCells {bs r:Bs} (h:Holds encB w b o bs) (vs:List Value) (p:Nat) (hr:r.size=bs.size) (hp:p+vs.length≤bs.size)
 (h1:∀ j (hj:j<vs.length),vs[j]=encB r[p+j]!) (h2:∀ j,j<bs.size→j<p∨p+vs.length≤j→r[j]! = bs[j]!):Holds encB (w.setCells b (o+p) vs) b o r:=by
 intro j hj
 rw[hr] at hj
 rw[World.frozen?_setCells]
 refine ⟨?_,(h j hj).2⟩
 by_cases hin:j<p∨p+vs.length≤j
 ·rw[World.cell?_setCells_out b vs (o+p) w ⟨b,o+j,none⟩ (fun _ _=>by simp only;omega),h2 j hj hin]
  exact (h j hj).1
 ·have hj2:j-p<vs.length:=by omega
  have:=World.cell?_setCells_in b vs (o+p) w (fun i hi=>by
   have:=(h (p+i) (by omega)).1
   rw[← Nat.add_assoc] at this
   rw[this];rfl) (j-p) hj2
  rw[show o+p+(j-p)=o+j by omega] at this
  rw[this,h1 (j-p) hj2,show p+(j-p)=j by omega]
theorem app_front (a r:Bs) (j:Nat) (hj:j<a.size):(a++r)[j]! = a[j]:=by
 have h:j<(a++r).size:=by rw[Array.size_append];omega
 rw[getElem!_pos (a++r) j h,Array.getElem_append_left hj]
theorem app_back (a r:Bs) (j:Nat) (h1:a.size≤j) (h2:j<a.size+r.size):(a++r)[j]! = r[j-a.size]!:=by
 have h:j<(a++r).size:=by rw[Array.size_append];omega
 have h3:j-a.size<r.size:=by omega
 rw[getElem!_pos (a++r) j h,Array.getElem_append_right h1,getElem!_pos r (j-a.size) h3]
theorem rep_at (n j:Nat) (h:j<n):(Array.replicate n (0:UInt8))[j]! = 0:=by
 have h':j<(Array.replicate n (0:UInt8)).size:=by rw[Array.size_replicate];exact h
 rw[getElem!_pos (Array.replicate n (0:UInt8)) j h',Array.getElem_replicate]
theorem conv_str (P:Program) (src dst e:TypeId) (hs:P.underlying src=some (.slice e)) (he:P.underlying e=some (.int .u8)) (hd:P.underlying dst=some .string)
 (w:World) (b o n cap:Nat) (bs:Bs) (hB:Holds encB w b o bs) (hn:bs.size=n):(convert src dst (.slice (some ⟨b,o,none⟩) n cap)).run P w=.ok (.string ⟨bs⟩) w:=by
 have h:=run_convert_bytes_back (P:=P) w src dst e ⟨b,o,none⟩ cap bs.toList hs he hd (fun j hj=>by
  have hj':j<bs.size:=by simpa using hj
  have hc:=(hB j hj').1
  rw[getElem!_pos bs j hj'] at hc
  have e1:(⟨b,o,none⟩:Addr).add j=⟨b,o+j,none⟩:=by
   unfold Addr.add
   by_cases h0:j=0
   ·subst h0;rfl
   ·rw[if_neg h0]
  rw[e1,hc]
  simp[encB,ub])
 simpa[hn] using h
end SP
namespace SP
open Go.RowKit Go.Sort Go.Deep
theorem int5:Tryz.prog.underlying 5=some (.int .u8):=by kernel_rfl
theorem str9:Tryz.prog.underlying 9=some .string:=by kernel_rfl
end SP
namespace SP
open Go.Sort
/-! ### Words and bytes -/
theorem wide_bit (x : UInt8) (i : Nat) : (wide x).getLsbD i=x.toNat.testBit i:=by
  unfold wide
  rw[BitVec.getLsbD_ofNat]
  by_cases h : i<64
  · simp[h]
  · have : x.toNat.testBit i=false:=Nat.testBit_lt_two_pow (Nat.lt_of_lt_of_le x.toNat_lt (Nat.pow_le_pow_right (by decide) (by omega : 8 ≤ i)))
    simp[h, this]
theorem byte_bit_high (x:UInt8) (i:Nat) (h:8≤i):x.toNat.testBit i=false:=
 Nat.testBit_lt_two_pow (Nat.lt_of_lt_of_le x.toNat_lt (Nat.pow_le_pow_right (by decide) h))
theorem wordTo_bit (bs:Bs) (o n k:Nat) (hn:n≤8) (hk:k<64):(wordTo bs o n).getLsbD k=(decide (k<8*n) && (bs[o+k/8]!).toNat.testBit (k%8)):=by
 induction n with
 | zero=>simp[wordTo]
 | succ n ih =>
  rw[wordTo,BitVec.getLsbD_or,ih (by omega),BitVec.getLsbD_shiftLeft,wide_bit]
  by_cases h1:k<8*n
  ·simp[h1,hk,show k<8*(n+1) by omega]
  ·by_cases h2:k<8*(n+1)
   ·have e1:k/8=n:=by omega
    have e2:k-8*n=k%8:=by omega
    simp[h1,h2,hk,e1,e2]
   ·have:=byte_bit_high bs[o+n]! (k-8*n) (by omega)
    simp[h1,h2,hk,this]
theorem low_bit (v:BitVec 64) (i:Nat) (h:i<8):(low v).toNat.testBit i=v.getLsbD i:=by
 unfold low
 rw[UInt8.toNat_ofNat',Nat.testBit_mod_two_pow,BitVec.getLsbD]
 simp[h]
theorem frontTo_at (d:St) (n k j:Nat) (hk:k≤n) (hj:j<n):(frontTo d n k)[j]! = if j<k then byteOf d j else 0:=by
 induction k with
 | zero =>
  have h':j<(Array.replicate n (0:UInt8)).size:=by rw[Array.size_replicate];exact hj
  rw[frontTo,getElem!_pos (Array.replicate n (0:UInt8)) j h',Array.getElem_replicate,if_neg (by omega)]
 | succ k ih =>
  rw[frontTo]
  by_cases h:j=k
  ·subst h
   rw[getElem!_set_same _ _ _ (by rw[frontTo_size];exact hj),if_pos (by omega)]
  ·rw[getElem!_set_other _ _ _ _ h,ih (by omega)]
   by_cases h1:j<k
   ·rw[if_pos h1,if_pos (by omega)]
   ·rw[if_neg h1,if_neg (by omega)]
theorem front_at (d:St) (n j:Nat) (hj:j<n):(front d n)[j]! = byteOf d j:=by
 unfold front
 rw[frontTo_at d n n j (Nat.le_refl _) hj,if_pos hj]
theorem word_front (d:St) (n j:Nat) (hj:8*j+8≤n):wordOf (front d n) (8*j)=d[j]!:=by
 apply BitVec.eq_of_getLsbD_eq
 intro k hk
 unfold wordOf
 rw[wordTo_bit _ _ 8 k (Nat.le_refl _) hk,front_at d n _ (by omega)]
 unfold byteOf
 have e1:(8*j+k/8)/8=j:=by omega
 have e2:(8*j+k/8)%8=k/8:=by omega
 rw[low_bit _ _ (Nat.mod_lt _ (by decide)),BitVec.getLsbD_ushiftRight,e1,e2,show 8*(k/8)+k%8=k by omega]
 simp[hk]
theorem mix_front (d:St) (hd:d.size=25):mixTo (front d 200) zero25 25=d:=by
 have hz:zero25.size=25:=by simp[zero25]
 refine st_ext _ _ (by rw[mixTo_size,hz]) hd (fun j hj=>?_)
 rw[mixTo_at _ zero25 hz 25 j (Nat.le_refl _) hj,if_pos hj,zero25_at j hj,zx,word_front d 200 j (by omega)]
theorem permB_front (d:St) (hd:d.size=25):permB (front d 200)=front (perm d) 200:=by
 unfold permB
 rw[mix_front d hd]
/-! ### The sponge, byte by byte -/
structure Sp where
  d : St
  p : Bs
  h : Nat
structure Ok (S:Sp):Prop where
 d25:S.d.size=25
 p136:S.p.size=136
 hlt:S.h<136
def soakL (S:Sp):Sp:={ d:=perm (mixTo S.p S.d 17),p:=S.p,h:=0 }
def putB (S:Sp) (x:UInt8):Sp:=
 if S.h+1=136 then soakL { d:=S.d,p:=S.p.setIfInBounds S.h x,h:=S.h } else { d:=S.d,p:=S.p.setIfInBounds S.h x,h:=S.h+1 }
def takeL (S:Sp) (l:List UInt8):Sp:=l.foldl putB S
def splice (p:Bs):Nat→List UInt8→Bs
 | _,[]=>p
 | i,x :: r=>splice (p.setIfInBounds i x) (i+1) r
theorem takeL_append (S:Sp) (a b:List UInt8):takeL S (a++b)=takeL (takeL S a) b:=List.foldl_append
theorem splice_size (p:Bs) (i:Nat) (l:List UInt8):(splice p i l).size=p.size:=by
 induction l generalizing p i with
 | nil=>rfl
 | cons x r ih=>rw[splice,ih,Array.size_setIfInBounds]
theorem splice_at (p:Bs) (i:Nat) (l:List UInt8) (j:Nat) (hl:i+l.length≤p.size) (hj:j<p.size):(splice p i l)[j]! = if i≤j∧j<i+l.length then l[j-i]! else p[j]!:=by
 induction l generalizing p i with
 | nil=>simp[splice];omega
 | cons x r ih =>
  simp only[List.length_cons] at hl
  rw[splice,ih _ _ (by rw[Array.size_setIfInBounds];omega) (by rw[Array.size_setIfInBounds];exact hj)]
  by_cases h:j=i
  ·subst h
   rw[if_neg (by omega),getElem!_set_same _ _ _ hj,if_pos (by simp),Nat.sub_self]
   rfl
  ·rw[getElem!_set_other _ _ _ _ h]
   by_cases h1:i+1≤j∧j<i+1+r.length
   ·rw[if_pos h1,if_pos (by simp;omega),show j-i=(j-(i+1))+1 by omega]
    rfl
   ·rw[if_neg h1,if_neg (by simp;omega)]
theorem soak_mk (d:St) (p:Bs) (h:Nat):soakL ⟨d,p,h⟩=⟨perm (mixTo p d 17),p,0⟩:=by unfold soakL;rfl
theorem soakL_d (S:Sp):(soakL S).d=perm (mixTo S.p S.d 17):=by
 obtain ⟨d,p,h⟩:=S
 rw[soak_mk]
theorem soakL_p (S:Sp):(soakL S).p=S.p:=by
 obtain ⟨d,p,h⟩:=S
 rw[soak_mk]
theorem soakL_h (S:Sp):(soakL S).h=0:=by
 obtain ⟨d,p,h⟩:=S
 rw[soak_mk]
theorem soak_ok {S:Sp} (h1:S.d.size=25) (h2:S.p.size=136):Ok (soakL S):=by
 have hd:(mixTo S.p S.d 17).size=25:=by rw[mixTo_size,h1]
 refine ⟨?_,by rw[soakL_p,h2],?_⟩
 ·rw[soakL_d]
  exact perm_size _ hd
 ·rw[soakL_h]
  decide
theorem putB_ok {S:Sp} (h:Ok S) (x:UInt8):Ok (putB S x):=by
 have:=h.hlt
 unfold putB
 by_cases e:S.h+1=136
 ·rw[if_pos e]
  exact soak_ok h.d25 (by show (S.p.setIfInBounds _ _).size=136;rw[Array.size_setIfInBounds];exact h.p136)
 ·rw[if_neg e]
  exact ⟨h.d25,by show (S.p.setIfInBounds _ _).size=136;rw[Array.size_setIfInBounds];exact h.p136,by show S.h+1<136;omega⟩
theorem takeL_ok {S:Sp} (h:Ok S) (l:List UInt8):Ok (takeL S l):=by
 induction l generalizing S with
 | nil=>exact h
 | cons x r ih=>exact ih (putB_ok h x)
theorem putB_h {S:Sp} (h:Ok S) (x:UInt8):(putB S x).h=(S.h+1)%136:=by
 have:=h.hlt
 unfold putB
 by_cases e:S.h+1=136
 ·rw[if_pos e,e];rfl
 ·rw[if_neg e,Nat.mod_eq_of_lt (by omega)]
theorem takeL_h {S:Sp} (h:Ok S) (l:List UInt8):(takeL S l).h=(S.h+l.length)%136:=by
 induction l generalizing S with
 | nil=>exact (Nat.mod_eq_of_lt h.hlt).symm
 | cons x r ih =>
  show (takeL (putB S x) r).h=_
  rw[ih (putB_ok h x),putB_h h x,List.length_cons]
  omega
theorem takeL_chunk (S:Sp) (l:List UInt8) (hl:l≠[]) (hle:S.h+l.length≤136) :
 takeL S l=if S.h+l.length=136 then soakL { d:=S.d,p:=splice S.p S.h l,h:=S.h } else { d:=S.d,p:=splice S.p S.h l,h:=S.h+l.length }:=by
 induction l generalizing S with
 | nil=>exact absurd rfl hl
 | cons x r ih =>
  show takeL (putB S x) r=_
  simp only[List.length_cons] at hle ⊢
  cases r with
  | nil =>
   unfold putB takeL splice
   simp only[List.foldl_nil,List.length_nil]
   by_cases e:S.h+1=136
   ·rw[if_pos e,if_pos (by omega)];rfl
   ·rw[if_neg e,if_neg (by omega)];rfl
  | cons y r' =>
   have e:¬ S.h+1=136:=by simp only[List.length_cons] at hle;omega
   have hp:putB S x = { d:=S.d,p:=S.p.setIfInBounds S.h x,h:=S.h+1 }:=by unfold putB;rw[if_neg e]
   rw[hp,ih _ (by simp) (by simp only[List.length_cons] at hle ⊢;omega)]
   simp only[splice,List.length_cons]
   by_cases e2:S.h+(r'.length+1+1)=136
   ·rw[if_pos (by omega),if_pos e2];rfl
   ·rw[if_neg (by omega),if_neg e2,show S.h+1+(r'.length+1)=S.h+(r'.length+1+1) by omega]
/-! ### The end -/
def ended (p : Bs) (h : Nat) (e : UInt8) : Bs:=
  let q:=(splice p h (List.replicate (136-h) 0)).setIfInBounds h e
  q.setIfInBounds 135 (q[135]! ^^^ 128)
def finalL (S:Sp) (e:UInt8):Sp:=soakL { d:=S.d,p:=ended S.p S.h e,h:=S.h }
def tailpad (h:Nat) (e:UInt8):List UInt8:=
 (e :: List.replicate (135-h) 0).set (135-h) ((e :: List.replicate (135-h) 0)[135-h]! ^^^ 128)
theorem tailpad_length (h:Nat) (e:UInt8) (hh:h<136):(tailpad h e).length=136-h:=by
 unfold tailpad
 rw[List.length_set,List.length_cons,List.length_replicate]
 omega
theorem bs_ext (a b:Bs) (n:Nat) (ha:a.size=n) (hb:b.size=n) (h:∀ j,j<n→a[j]! = b[j]!):a=b:=by
 apply Array.ext (by omega)
 intro i h1 h2
 have:=h i (by omega)
 rwa[getElem!_pos a i h1,getElem!_pos b i h2] at this
theorem pad_at (h:Nat) (e:UInt8) (j:Nat) (hj:j<136-h) (hh:h<136):(tailpad h e)[j]! = (if j=0 then e else 0) ^^^ (if j=135-h then 128 else 0):=by
 have hc:∀ j,j<136-h→(e :: List.replicate (135-h) (0:UInt8))[j]! = if j=0 then e else 0:=by
  intro j hj
  cases j with
  | zero=>rfl
  | succ j =>
   have hl:j+1<(e :: List.replicate (135-h) (0:UInt8)).length:=by rw[List.length_cons,List.length_replicate];omega
   rw[getElem!_pos (e :: List.replicate (135-h) (0:UInt8)) (j+1) hl]
   simp
 have hlen:(tailpad h e).length=136-h:=tailpad_length h e hh
 have hl:j<(e :: List.replicate (135-h) (0:UInt8)).length:=by rw[List.length_cons,List.length_replicate];omega
 rw[getElem!_pos (tailpad h e) j (by rw[hlen];exact hj)]
 unfold tailpad
 rw[List.getElem_set]
 by_cases h1:135-h=j
 ·rw[if_pos h1,hc (135-h) (by omega),h1,if_pos (rfl:j=j)]
 ·rw[if_neg h1,if_neg (show ¬ j=135-h by omega)]
  have:=hc j hj
  rw[getElem!_pos (e :: List.replicate (135-h) (0:UInt8)) j hl] at this
  rw[this]
  simp
theorem ended_size (p:Bs) (h:Nat) (e:UInt8):(ended p h e).size=p.size:=by
 unfold ended
 simp only[Array.size_setIfInBounds,splice_size]
theorem rep_list_at (n j:Nat) (h:j<n):(List.replicate n (0:UInt8))[j]! = 0:=by
 rw[getElem!_pos _ j (by simpa using h)]
 simp
theorem ended_eq (p:Bs) (h:Nat) (e:UInt8) (hp:p.size=136) (hh:h<136):ended p h e=splice p h (tailpad h e):=by
 have hs:(splice p h (List.replicate (136-h) 0)).size=136:=by rw[splice_size,hp]
 refine bs_ext _ _ 136 (by rw[ended_size,hp]) (by rw[splice_size,hp]) (fun j hj=>?_)
 have hq:∀ j,j<136→((splice p h (List.replicate (136-h) 0)).setIfInBounds h e)[j]! = if j<h then p[j]! else if j=h then e else 0:=by
  intro j hj
  by_cases h1:j=h
  ·rw[h1,getElem!_set_same _ _ _ (by omega),if_neg (by omega),if_pos rfl]
  ·rw[getElem!_set_other _ _ _ _ h1,splice_at _ _ _ _ (by rw[List.length_replicate,hp];omega) (by omega),List.length_replicate]
   by_cases h2:j<h
   ·rw[if_neg (by omega),if_pos h2]
   ·rw[if_pos (by omega),if_neg h2,if_neg h1,rep_list_at _ _ (by omega)]
 have hR:(splice p h (tailpad h e))[j]! = if j<h then p[j]! else (if j=h then e else 0) ^^^ (if j=135 then 128 else 0):=by
  rw[splice_at _ _ _ _ (by rw[tailpad_length h e hh,hp];omega) (by omega),tailpad_length h e hh]
  by_cases h2:j<h
  ·rw[if_neg (show ¬ (h≤j∧j<h+(136-h)) by omega),if_pos h2]
  ·rw[if_pos (show h≤j∧j<h+(136-h) by omega),if_neg h2,pad_at h e _ (by omega) hh]
   have e1:(j-h=0)=(j=h):=by apply propext;omega
   have e2:(j-h=135-h)=(j=135):=by apply propext;omega
   simp only[e1,e2]
 have hL:(ended p h e)[j]! = if j<h then p[j]! else (if j=h then e else 0) ^^^ (if j=135 then 128 else 0):=by
  unfold ended
  by_cases h135:j=135
  ·rw[h135,getElem!_set_same _ _ _ (by rw[Array.size_setIfInBounds,hs];decide),hq 135 (by decide),if_neg (show ¬ 135<h by omega),if_neg (show ¬ 135<h by omega),if_pos (rfl:135=135)]
  ·rw[getElem!_set_other _ _ _ _ h135,hq j hj]
   by_cases h2:j<h
   ·rw[if_pos h2,if_pos h2]
   ·rw[if_neg h2,if_neg h2,if_neg h135]
    simp
 rw[hL,hR]
theorem finalL_eq {S:Sp} (h:Ok S) (e:UInt8):finalL S e=takeL S (tailpad S.h e):=by
 have:=h.hlt
 have hl:=tailpad_length S.h e h.hlt
 rw[takeL_chunk S _ (by intro c;rw[c] at hl;simp at hl;omega) (by omega),if_pos (by omega)]
 unfold finalL
 rw[ended_eq _ _ _ h.p136 h.hlt]
end SP
namespace SP
open Go.RowKit Go.Sort Go.Deep
theorem Only.widen {b o n o' n':Nat} {w w':World} (h:Only b o n w w') (h1:o'≤o) (h2:o+n≤o'+n'):Only b o' n' w w':=
 ⟨h.os,h.tape,h.output,h.size,h.block,fun q hq=>h.cell q (by omega),h.froz⟩
structure HSp (w:World) (b:Nat) (S:Sp):Prop where
 d:Holds enc w b 0 S.d
 p:Holds encB w b 25 S.p
 h:w.cell? ⟨b,161,none⟩=some (.int .i64 (S.h:Int))
 f:w.frozen? ⟨b,161,none⟩=false
theorem HSp.drew {w:World} {b:Nat} {S:Sp} (h:HSp w b S):HSp w.drew b S:=⟨h.d,h.p,h.h,h.f⟩
theorem HSp.lt {w:World} {b:Nat} {S:Sp} (h:HSp w b S):b<w.heap.size:=World.block_lt_of_cell? _ _ h.h
theorem HSp.below {w w':World} {b B:Nat} {S:Sp} (h:HSp w b S) (k:Below B w w') (hb:b<B):HSp w' b S:=
 ⟨Holds.below h.d k hb,Holds.below h.p k hb,by rw[k.cell (p:=⟨b,161,none⟩) hb];exact h.h,by rw[k.frozen (p:=⟨b,161,none⟩) hb];exact h.f⟩
theorem soak_any (b:Nat) (S:Sp) (w:World) (h25:S.d.size=25) (h136:S.p.size=136) (hS:HSp w b S) :
 Calls Tryz.prog 69 #[.pointer (some ⟨b,0,none⟩)] w fun e w'=>e=.returned (.tuple #[])∧Only b 0 162 w w'∧HSp w' b (soakL S):=by
 obtain ⟨d,p,h⟩:=S
 dsimp only at h25 h136
 have hD:Holds enc w b 0 d:=hS.d
 have hP:Holds encB w b 25 p:=hS.p
 have hc:=hS.h
 have hf:=hS.f
 dsimp only at hc
 rw[soak_mk]
 clear hS
 have hps:(perm (mixTo p d 17)).size=25:=perm_size _ (by rw[mixTo_size,h25])
 generalize hpm:perm (mixTo p d 17)=pd at hps ⊢
 have HPM:Hid (perm (mixTo p d 17)=pd):=hpm
 clear hpm
 go_enter Tryz.func69,Tryz.ntmps69
 go_wp2
 go_still_tail 7,mixed
 go_wp2_with fail
 refine (mix_any b 0 b 25 136 136 p d _ h25 (Holds.drew hD) (Holds.drew hP) h136 (by decide) (Nat.le_refl _) (by omega)).mono ?_
 rintro e w1 ⟨rfl,hO1,hD1⟩
 have hO1':Only b 0 25 w w1:=((Only.refl b 0 25 w).drew).trans hO1
 have hD1':Holds enc w1 b 0 (mixTo p d 17):=hD1
 have hP1:=Holds.same hP hO1' (by omega)
 have c1:w1.cell? ⟨b,161,none⟩=some (.int .i64 h):=by rw[hO1'.cell 161 (by omega)];exact hc
 have f1:w1.frozen? ⟨b,161,none⟩=false:=by rw[hO1'.froz];exact hf
 clear hO1 hD1
 go_wp2_with fail
 refine (permute_any b 0 _ _ (by rw[mixTo_size,h25]) hD1').mono ?_
 rintro e w2 ⟨rfl,hO2,hD2⟩
 rw[HPM.out] at hD2
 have hP2:=Holds.same hP1 hO2 (by omega)
 have c2:w2.cell? ⟨b,161,none⟩=some (.int .i64 h):=by rw[hO2.cell 161 (by omega)];exact c1
 have f2:w2.frozen? ⟨b,161,none⟩=false:=by rw[hO2.froz];exact f1
 go_wp2
 go_end0
 have hO3:Only b 161 1 w2 (w2.setCell ⟨b,161,none⟩ (.int .i64 0)):=(Only.refl b 161 1 w2).setCell (by omega) (by omega) _
 have hD3:Holds enc _ b 0 pd:=Holds.same hD2 hO3 (Or.inl (by omega))
 have hP3:Holds encB _ b 25 p:=Holds.same hP2 hO3 (Or.inl (by omega))
 exact ⟨rfl,((hO1'.trans hO2).widen (Nat.le_refl _) (by omega)).trans (hO3.widen (by omega) (by omega)),⟨hD3,hP3,World.cell?_setCell_same _ _ _ c2,by rw[World.frozen?_setCell];exact f2⟩⟩
end SP
namespace SP
open Go.RowKit Go.Sort Go.Deep
theorem ints5:(Tryz.prog.info? 5).map (·.size)=some 1:=by kernel_rfl
theorem holds_splice {w:World} {b o:Nat} {p:Bs} (h:Holds encB w b o p) (i:Nat) (l:List UInt8) (hi:i+l.length≤p.size):Holds encB (w.setCells b (o+i) (l.map encB)) b o (splice p i l):=by
 refine Holds.setCells h _ i (splice_size p i l) (by rw[List.length_map];exact hi) (fun j hj=>?_) (fun j hj hout=>?_)
 ·rw[List.length_map] at hj
  rw[splice_at p i l (i+j) hi (by omega),if_pos (by omega),Nat.add_sub_cancel_left,getElem!_pos l j hj,List.getElem_map]
 ·rw[List.length_map] at hout
  rw[splice_at p i l j hi hj,if_neg (by omega)]
def piece (bs:Bs) (k n:Nat):List UInt8:=(bs.toList.drop k).take n
theorem piece_length (bs:Bs) (k n:Nat) (h:k+n≤bs.size):(piece bs k n).length=n:=by
 unfold piece
 rw[List.length_take,List.length_drop,Array.length_toList]
 omega
theorem piece_at (bs:Bs) (k n j:Nat) (h:k+n≤bs.size) (hj:j<n) (hl:j<(piece bs k n).length):(piece bs k n)[j]=bs[k+j]!:=by
 have e:(piece bs k n)[j]? = some bs[k+j]!:=by
  unfold piece
  rw[List.getElem?_take_of_lt hj,List.getElem?_drop,Array.getElem?_toList,Array.getElem?_eq_getElem (by omega),getElem!_pos bs (k+j) (by omega)]
 exact (List.getElem?_eq_some_iff.1 e).2
theorem take_piece (bs:Bs) (k n:Nat):bs.toList.take (k+n)=bs.toList.take k++piece bs k n:=List.take_add
theorem copy_piece {w:World} {b h sb o len cap n:Nat} {p bs:Bs} {k:Nat} (hP:Holds encB w b 25 p) (hp:p.size=136) (hB:Holds encB w sb o bs) (hh:h<136) (hk:k+len≤bs.size) (hn:Nat.min len (136-h)=n) :
 (Builtin.copy_ #[24,24] 3 #[.slice (some ⟨b,25+h,none⟩) (136-h) (136-h),.slice (some ⟨sb,o+k,none⟩) len cap]).run Tryz.prog w=.ok (goInt n) (w.setCells b (25+h) ((piece bs k n).map encB)):=by
 have hnl:n≤len:=by rw[← hn];exact Nat.min_le_left _ _
 have hnh:n≤136-h:=by rw[← hn];exact Nat.min_le_right _ _
 have hlen:((piece bs k n).map encB).length=n:=by rw[List.length_map,piece_length bs k n (by omega)]
 have:=run_copy_cells (P:=Tryz.prog) w 24 24 3 5 b (25+h) (136-h) (136-h) ⟨sb,o+k,none⟩ len cap ((piece bs k n).map encB) slice22 ints5 (by rw[hlen,hn])
  (fun j v hj=>by
   obtain ⟨h1,h2⟩:=List.getElem?_eq_some_iff.1 hj
   rw[hlen] at h1
   have hc:=(hB (k+j) (by omega)).1
   rw[List.getElem_map,piece_at bs k n j (by omega) h1] at h2
   have e1:(⟨sb,o+k,none⟩:Addr).add j=⟨sb,o+(k+j),none⟩:=by
    unfold Addr.add
    by_cases h0:j=0
    ·subst h0;rw[if_pos rfl];rfl
    ·rw[if_neg h0,Nat.add_assoc]
   rw[e1,hc,h2])
  (fun j hj=>by
   rw[hlen] at hj
   have:=(hP (h+j) (by omega)).1
   rw[← Nat.add_assoc] at this
   rw[this];rfl)
  (fun j hj=>by
   rw[hlen] at hj
   have:=(hP (h+j) (by omega)).2
   rw[← Nat.add_assoc] at this
   exact this)
  (fun v hv=>by
   obtain ⟨x,_,rfl⟩:=List.mem_map.1 hv
   rfl)
 rw[hlen] at this
 exact this
theorem held_set {w:World} {b:Nat} {d:St} {p:Bs} {v:Value} (hD:Holds enc w b 0 d) (h25:d.size=25) (hP:Holds encB w b 25 p) (h136:p.size=136) (hc:w.cell? ⟨b,161,none⟩=some v) (hf:w.frozen? ⟨b,161,none⟩=false) (m:Nat) :
 HSp (w.setCell ⟨b,161,none⟩ (.int .i64 ((m:Nat):Int))) b ⟨d,p,m⟩:=by
 have hO:Only b 161 1 w (w.setCell ⟨b,161,none⟩ (.int .i64 ((m:Nat):Int))):=(Only.refl b 161 1 w).setCell (by omega) (by omega) _
 have hD3:Holds enc _ b 0 d:=Holds.same hD hO (Or.inl (by omega))
 have hP3:Holds encB _ b 25 p:=Holds.same hP hO (Or.inl (by omega))
 exact ⟨hD3,hP3,World.cell?_setCell_same _ _ _ hc,by rw[World.frozen?_setCell];exact hf⟩
theorem take_any (b:Nat) (S:Sp) (a:Option Addr) (sb so len cap:Nat) (bs:Bs) (w:World) (hok:Ok S) (hS:HSp w b S) (hl:bs.size=len) (hcap:len≤cap) (hbig:len≤1099511627776)
 (hsrc:len=0∨(a=some ⟨sb,so,none⟩∧sb≠b∧Holds encB w sb so bs)) :
 Calls Tryz.prog 68 #[.pointer (some ⟨b,0,none⟩),.slice a len cap] w fun e w'=>e=.returned (.tuple #[])∧Only b 0 162 w w'∧HSp w' b (takeL S bs.toList):=by
 go_enter Tryz.func68,Tryz.ntmps68
 go_wp2
 go_loopg [1] len (fun g s1 wr=>∃ (k:Nat) (a':Option Addr) (Sk:Sp),k+g=len∧s1=.slice a' (len-k) (cap-k)∧(k<len→a'=some ⟨sb,so+k,none⟩)∧HSp wr b Sk∧Only b 0 162 w wr∧Hid (Sk=takeL S (bs.toList.take k)))
 case atStart =>
  refine ⟨0,a,S,by omega,rfl,fun h0=>?_,hS,Only.refl _ _ _ _,rfl⟩
  rcases hsrc with h|⟨h,_,_⟩
  ·omega
  ·exact h
 case round =>
  obtain ⟨k,a',Sk,hk,rfl,ha',hSk,hO,HE⟩:=hrel
  by_cases hlt:k<len
  ·have e1:=ha' hlt
   subst e1
   obtain ⟨_,hne,hB⟩:a=some ⟨sb,so,none⟩∧sb≠b∧Holds encB w sb so bs:=by
    rcases hsrc with h|h
    ·omega
    ·exact h
   have hBr:=Holds.other hB hO hne (by omega)
   have hokk:Ok Sk:=by rw[HE.out];exact takeL_ok hok _
   obtain ⟨q,hh⟩:∃ q,Sk.h=q:=⟨_,rfl⟩
   have hlt136:=hokk.hlt
   have hsz:=hokk.p136
   rw[hh] at hlt136
   have hc:=hSk.h
   have hf:=hSk.f
   rw[hh] at hc
   have hP:=hSk.p
   obtain ⟨n,hn⟩:∃ n,Nat.min (len-k) (136-q)=n:=⟨_,rfl⟩
   have l0:(0:Int)<((len-k:Nat):Int):=by omega
   have hh136:(q:Int)≤136:=by omega
   have Hh:Hid (Sk.h=q):=hh
   clear hh
   have hne136:(136=q)=False:=eq_false (by omega)
   have hn1:1≤n:=by rw[← hn];exact (Nat.le_min).2 ⟨by omega,by omega⟩
   have hnl:n≤len-k:=by rw[← hn];exact Nat.min_le_left _ _
   have hnh:n≤136-q:=by rw[← hn];exact Nat.min_le_right _ _
   have hcp:=copy_piece (w:=wr.drew) (cap:=cap-k) (k:=k) hP hsz hBr hlt136 (by omega) hn
   have hpl:=piece_length bs k n (by omega)
   have hP1:=holds_splice (Holds.drew hP) q (piece bs k n) (by omega)
   have hO1:Only b 0 162 w (wr.drew.setCells b (25+q) ((piece bs k n).map encB)):=hO.drew.setCells _ _ (by omega) (by rw[List.length_map];omega)
   have hOx:Only b 25 136 wr (wr.drew.setCells b (25+q) ((piece bs k n).map encB)):=((Only.refl b 25 136 wr).drew).setCells _ _ (by omega) (by rw[List.length_map];omega)
   have hD1:=Holds.same hSk.d hOx (Or.inl (by rw[hokk.d25];omega))
   have c1:(wr.drew.setCells b (25+q) ((piece bs k n).map encB)).cell? ⟨b,161,none⟩=some (.int .i64 q):=by rw[hOx.cell 161 (by omega)];exact hc
   have f1:(wr.drew.setCells b (25+q) ((piece bs k n).map encB)).frozen? ⟨b,161,none⟩=false:=by rw[hOx.froz];exact hf
   have HT:Hid (takeL S (bs.toList.take (k+n))=takeL Sk (piece bs k n)):=by
    show _=_
    rw[take_piece,takeL_append,← HE.out]
   have HCH:Hid (takeL Sk (piece bs k n)=if q+n=136 then soakL ⟨Sk.d,splice Sk.p q (piece bs k n),q⟩ else ⟨Sk.d,splice Sk.p q (piece bs k n),q+n⟩):=by
    show _=_
    have:=takeL_chunk Sk (piece bs k n) (by intro e;rw[e] at hpl;simp at hpl;omega) (by rw[hpl,Hh.out];omega)
    rw[hpl,Hh.out] at this
    exact this
   have hss:(splice Sk.p q (piece bs k n)).size=136:=by rw[splice_size,hsz]
   have hds:=hokk.d25
   generalize hW1:wr.drew.setCells b (25+q) ((piece bs k n).map encB)=W1 at hcp hP1 hO1 hD1 c1 f1
   generalize splice Sk.p q (piece bs k n)=sp at hP1 hss HCH
   generalize Sk.d=sd at hD1 hds HCH
   clear hOx hW1 hP hBr hokk hpl hSk hsz hn
   have z1:(n:Int)≤((len-k:Nat):Int):=by omega
   by_cases hcn:cap-k=n
   ·have hcn':(cap-k=n)=True:=eq_true hcn
    have HCN:Hid (cap-k=n):=hcn
    clear hcn
    by_cases hfull:q+n=136
    ·have hb:((q:Int)+(n:Int) == 136)=true:=beq_iff_eq.2 (by omega)
     rw[if_pos hfull] at HCH
     go_wp2_with fail
     go_still_tail 9,mixed
     go_wp2_with fail
     refine (soak_any b ⟨sd,sp,q+n⟩ _ hds hss (held_set hD1 hds hP1 hss c1 f1 (q+n))).mono ?_
     rintro e w2 ⟨rfl,hO2,hS2⟩
     go_wp2
     go_roundg (gk-n)
     case measure=>omega
     case rel =>
      refine ⟨k+n,some ⟨sb,so+k,none⟩,soakL ⟨sd,sp,q⟩,by omega,by rw[Nat.sub_sub,Nat.sub_sub],fun hx=>by have:=HCN.out;omega,?_,?_,?_⟩
      ·rw[soak_mk] at hS2 ⊢
       exact hS2
      ·exact (hO1.setCell (o:=161) (by omega) (by omega) _).trans hO2
      ·rw[HT.out,HCH.out];rfl
    ·have hb:((q:Int)+(n:Int) == 136)=false:=beq_eq_false_iff_ne.2 (by omega)
     rw[if_neg hfull] at HCH
     go_wp2_with fail
     go_still_tail 9,mixed
     go_wp2
     go_roundg (gk-n)
     case measure=>omega
     case rel =>
      refine ⟨k+n,some ⟨sb,so+k,none⟩,⟨sd,sp,q+n⟩,by omega,by rw[Nat.sub_sub,Nat.sub_sub],fun hx=>by have:=HCN.out;omega,?_,?_,?_⟩
      ·exact held_set hD1 hds hP1 hss c1 f1 (q+n)
      ·exact hO1.setCell (o:=161) (by omega) (by omega) _
      ·rw[HT.out,HCH.out];rfl
   ·have hcn':(cap-k=n)=False:=eq_false hcn
    by_cases hfull:q+n=136
    ·have hb:((q:Int)+(n:Int) == 136)=true:=beq_iff_eq.2 (by omega)
     rw[if_pos hfull] at HCH
     go_wp2_with fail
     go_still_tail 9,mixed
     go_wp2_with fail
     refine (soak_any b ⟨sd,sp,q+n⟩ _ hds hss (held_set hD1 hds hP1 hss c1 f1 (q+n))).mono ?_
     rintro e w2 ⟨rfl,hO2,hS2⟩
     go_wp2
     go_roundg (gk-n)
     case measure=>omega
     case rel =>
      refine ⟨k+n,some ⟨sb,so+k+n,none⟩,soakL ⟨sd,sp,q⟩,by omega,by rw[Nat.sub_sub,Nat.sub_sub],fun _=>by rw[Nat.add_assoc],?_,?_,?_⟩
      ·rw[soak_mk] at hS2 ⊢
       exact hS2
      ·exact (hO1.setCell (o:=161) (by omega) (by omega) _).trans hO2
      ·rw[HT.out,HCH.out];rfl
    ·have hb:((q:Int)+(n:Int) == 136)=false:=beq_eq_false_iff_ne.2 (by omega)
     rw[if_neg hfull] at HCH
     go_wp2_with fail
     go_still_tail 9,mixed
     go_wp2
     go_roundg (gk-n)
     case measure=>omega
     case rel =>
      refine ⟨k+n,some ⟨sb,so+k+n,none⟩,⟨sd,sp,q+n⟩,by omega,by rw[Nat.sub_sub,Nat.sub_sub],fun _=>by rw[Nat.add_assoc],?_,?_,?_⟩
      ·exact held_set hD1 hds hP1 hss c1 f1 (q+n)
      ·exact hO1.setCell (o:=161) (by omega) (by omega) _
      ·rw[HT.out,HCH.out];rfl
  ·have hk0:k=len:=by omega
   have l0:¬ (0:Int)<((len-k:Nat):Int):=by omega
   go_wp2
   go_end0
   refine ⟨rfl,hO,?_⟩
   have e1:bs.toList.take k=bs.toList:=List.take_of_length_le (by rw[Array.length_toList];omega)
   rw[HE.out,e1] at hSk
   exact hSk
end SP
namespace SP
open Go.RowKit Go.Sort Go.Deep
theorem ofInt_toNat8 (x:UInt8):BitVec.ofInt 8 (x.toNat:Int)=x.toBitVec:=by
 apply BitVec.eq_of_toNat_eq
 rw[BitVec.ofInt_natCast,BitVec.toNat_ofNat]
 exact Nat.mod_eq_of_lt x.toNat_lt
theorem bits_xor8 (x y:UInt8):bits .xor .u8 (ub x) (ub y)=ub (x ^^^ y):=by
 show IntKind.u8.wrap ((BitVec.ofInt 8 (x.toNat:Int) ^^^ BitVec.ofInt 8 (y.toNat:Int)).toNat:Int)=_
 rw[ofInt_toNat8,ofInt_toNat8,← UInt8.toBitVec_xor]
 have h:((x ^^^ y).toNat:Int)<256:=by have:=(x ^^^ y).toNat_lt;omega
 have e:∀ n:Int,IntKind.u8.wrap n=n%256:=fun n=>by simp[IntKind.wrap,IntKind.bits,IntKind.signed]
 rw[e]
 exact Int.emod_eq_of_lt (Int.natCast_nonneg _) h
theorem xor80 (x:UInt8):bits .xor .u8 (ub x) 128=ub (x ^^^ 128):=bits_xor8 x 128
theorem zero5:∀ w:World,(zeroValue 5).run Tryz.prog w=.ok (.int .u8 0) w:=fun _=>by kernel_rfl
theorem clear_piece {w:World} {b q:Nat} {p:Bs} (hP:Holds encB w b 25 p) (hp:p.size=136) (hq:q<136) (ty:TypeId) :
 (Builtin.clear_ #[24] ty #[.slice (some ⟨b,25+q,none⟩) (136-q) (136-q)]).run Tryz.prog w=.ok (.tuple #[]) (w.setCells b (25+q) ((List.replicate (136-q) (0:UInt8)).map encB)):=by
 have h:=Lib.run_clear_slice (P:=Tryz.prog) w 24 5 ty (.int .u8 0) slice22 zero5 rfl rfl b (25+q) (136-q) (136-q) (by omega)
  (fun j hj=>by
   have:=(hP (q+j) (by omega)).1
   rw[← Nat.add_assoc] at this
   rw[this];rfl)
  (fun j hj=>by
   have:=(hP (q+j) (by omega)).2
   rw[← Nat.add_assoc] at this
   exact this)
 rw[List.map_replicate]
 exact h
theorem end_any (b:Nat) (S:Sp) (e:UInt8) (w:World) (hok:Ok S) (hS:HSp w b S) :
 Calls Tryz.prog 39 #[.pointer (some ⟨b,0,none⟩),.int .u8 (ub e)] w fun r w'=>r=.returned (.tuple #[])∧Only b 0 162 w w'∧HSp w' b (finalL S e):=by
 obtain ⟨d,p,q⟩:=S
 have h25:d.size=25:=hok.d25
 have h136:p.size=136:=hok.p136
 have hq:q<136:=hok.hlt
 have hD:Holds enc w b 0 d:=hS.d
 have hP:Holds encB w b 25 p:=hS.p
 have hc:w.cell? ⟨b,161,none⟩=some (.int .i64 q):=hS.h
 have hf:=hS.f
 have hcl:=clear_piece (Holds.drew hP) h136 hq 0
 have hOx:Only b 25 136 w (w.drew.setCells b (25+q) ((List.replicate (136-q) (0:UInt8)).map encB)):=((Only.refl b 25 136 w).drew).setCells _ _ (by omega) (by rw[List.length_map,List.length_replicate];omega)
 have hP1:=holds_splice (Holds.drew hP) q (List.replicate (136-q) (0:UInt8)) (by rw[List.length_replicate];omega)
 have hs1:(splice p q (List.replicate (136-q) 0)).size=136:=by rw[splice_size,h136]
 have HF:Hid (finalL ⟨d,p,q⟩ e=soakL ⟨d,((splice p q (List.replicate (136-q) 0)).setIfInBounds q e).setIfInBounds 135 (((splice p q (List.replicate (136-q) 0)).setIfInBounds q e)[135]! ^^^ 128),q⟩):=by
  show _=_
  unfold finalL ended
  rfl
 generalize w.drew.setCells b (25+q) ((List.replicate (136-q) (0:UInt8)).map encB)=W1 at hcl hOx hP1
 generalize splice p q (List.replicate (136-q) 0)=sp at hP1 hs1 HF
 have hne136:(136=q)=False:=eq_false (by omega)
 have hq136:(q:Int)≤136:=by omega
 have hq136':(q:Int)<136:=by omega
 have c1:W1.cell? ⟨b,161,none⟩=some (.int .i64 q):=by rw[hOx.cell 161 (by omega)];exact hc
 obtain ⟨c2,f2⟩:=hP1 q (by omega)
 obtain ⟨sp2,hsp2⟩:∃ s,sp.setIfInBounds q e=s:=⟨_,rfl⟩
 rw[hsp2] at HF
 have hs2:sp2.size=136:=by rw[← hsp2,Array.size_setIfInBounds,hs1]
 obtain ⟨x,hx⟩:∃ x,sp2[135]! = x:=⟨_,rfl⟩
 rw[hx] at HF
 have hx80:=xor80 x
 have hP2:=Holds.set hP1 (i:=q) (by omega) e
 rw[hsp2] at hP2
 have hO2:Only b 25 136 w (W1.setCell ⟨b,25+q,none⟩ (.int .u8 (ub e))):=hOx.setCell (o:=25+q) (by omega) (by omega) _
 have hP2':Holds encB (W1.setCell ⟨b,25+q,none⟩ (.int .u8 (ub e))) b 25 sp2:=hP2
 have HX:Hid (sp2[135]! = x):=hx
 rw[HF.out]
 clear hS hok hP hsp2 hx hP2 HF
 have hs3:(sp2.setIfInBounds 135 (x ^^^ 128)).size=136:=by rw[Array.size_setIfInBounds,hs2]
 go_enter Tryz.func39,Tryz.ntmps39
 go_wp2
 go_still_tail 8,mixed
 go_wp2_with fail
 go_region
 go_wp2_with fail
 generalize W1.setCell ⟨b,25+q,none⟩ (.int .u8 (ub e))=W2 at hP2' hO2 ⊢
 obtain ⟨c3,f3⟩:=at_byte hP2' 135 (by omega) HX.out
 clear c1 c2 f2 hcl hP1
 go_region
 go_wp2_with fail
 have hP3:=Holds.set hP2' (i:=135) (by omega) (x ^^^ 128)
 have hO3:Only b 25 136 w (W2.setCell ⟨b,160,none⟩ (.int .u8 (ub (x ^^^ 128)))):=hO2.setCell (o:=160) (by omega) (by omega) _
 have hP3':Holds encB (W2.setCell ⟨b,160,none⟩ (.int .u8 (ub (x ^^^ 128)))) b 25 (sp2.setIfInBounds 135 (x ^^^ 128)):=hP3
 generalize W2.setCell ⟨b,160,none⟩ (.int .u8 (ub (x ^^^ 128)))=W3 at hP3' hO3 ⊢
 have hD3:Holds enc W3 b 0 d:=Holds.same hD hO3 (Or.inl (by omega))
 have hS3:HSp W3 b ⟨d,sp2.setIfInBounds 135 (x ^^^ 128),q⟩:=⟨hD3,hP3',by rw[hO3.cell 161 (by omega)];exact hc,by rw[hO3.froz];exact hf⟩
 refine (soak_any b ⟨d,sp2.setIfInBounds 135 (x ^^^ 128),q⟩ _ h25 hs3 hS3.drew.drew).mono ?_
 rintro r w4 ⟨rfl,hO4,hS4⟩
 go_wp2
 go_end0
 exact ⟨rfl,(hO3.drew.drew.widen (by omega) (by omega)).trans hO4,hS4⟩
end SP
namespace SP
open Go.Sort
def permN (d:St):Nat→St
 | 0=>d
 | m+1=>perm (permN d m)
theorem permN_size (d:St) (hd:d.size=25) (m:Nat):(permN d m).size=25:=by
 induction m with
 | zero=>exact hd
 | succ m ih=>exact perm_size _ ih
def streamAt (d:St) (j:Nat):UInt8:=byteOf (permN d (j/136)) (j%136)
def streamL (d:St) (n:Nat):Bs:=Array.ofFn (fun i:Fin n=>streamAt d i.val)
theorem streamL_size (d:St) (n:Nat):(streamL d n).size=n:=by simp[streamL]
theorem streamL_at (d:St) (n j:Nat) (hj:j<n):(streamL d n)[j]! = streamAt d j:=by
 rw[getElem!_pos (streamL d n) j (by rw[streamL_size];exact hj)]
 simp[streamL]
def S0:Sp:=⟨zero25,Array.replicate 136 0,0⟩
theorem S0_ok:Ok S0:=⟨by simp[S0,zero25],by simp[S0],by decide⟩
def absorb (l:List UInt8) (e:UInt8):St:=(finalL (takeL S0 l) e).d
theorem absorb_size (l:List UInt8) (e:UInt8):(absorb l e).size=25:=by
 unfold absorb
 have h:=takeL_ok S0_ok l
 rw[finalL_eq h]
 exact (takeL_ok h _).d25
def hashL (l:List UInt8):Bs:=front (absorb l 6) 32
def strmL (l:List UInt8) (n:Nat):Bs:=streamL (absorb l 31) n
theorem hash_stream (l:List UInt8):hashL l=streamL (absorb l 6) 32:=by
 unfold hashL
 refine bs_ext _ _ 32 (front_size _ _) (streamL_size _ _) (fun j hj=>?_)
 rw[front_at _ _ _ hj,streamL_at _ _ _ hj]
 unfold streamAt
 rw[Nat.div_eq_of_lt (by omega),Nat.mod_eq_of_lt (by omega)]
 rfl
/-! ### The reference: all bytes with what stands behind them, piece by piece -/
def total (l : List UInt8) (e : UInt8) : List UInt8:=l ++ tailpad (l.length%136) e
theorem total_length (l:List UInt8) (e:UInt8):(total l e).length=136*(l.length/136+1):=by
 unfold total
 rw[List.length_append,tailpad_length _ _ (Nat.mod_lt _ (by decide))]
 omega
theorem absorb_total (l:List UInt8) (e:UInt8):absorb l e=(takeL S0 (total l e)).d:=by
 unfold absorb total
 have h:=takeL_ok S0_ok l
 have hh:=takeL_h S0_ok l
 rw[takeL_append,finalL_eq h,hh]
 have:S0.h=0:=rfl
 rw[this,Nat.zero_add]
def xorB (st:Bs) (T:List UInt8) (o:Nat):Nat→Bs
 | 0=>st
 | k+1=>(xorB st T o k).setIfInBounds k ((xorB st T o k)[k]! ^^^ T[o+k]!)
theorem xorB_size (st:Bs) (T:List UInt8) (o k:Nat):(xorB st T o k).size=st.size:=by
 induction k with
 | zero=>rfl
 | succ k ih=>rw[xorB,Array.size_setIfInBounds,ih]
theorem xorB_at (st:Bs) (T:List UInt8) (o k j:Nat) (hk:k≤st.size) (hj:j<st.size):(xorB st T o k)[j]! = if j<k then st[j]! ^^^ T[o+j]! else st[j]!:=by
 induction k with
 | zero=>rfl
 | succ k ih =>
  rw[xorB]
  by_cases h:j=k
  ·subst h
   rw[getElem!_set_same _ _ _ (by rw[xorB_size];exact hj),ih (by omega),if_neg (by omega),if_pos (by omega)]
  ·rw[getElem!_set_other _ _ _ _ h,ih (by omega)]
   by_cases h1:j<k
   ·rw[if_pos h1,if_pos (by omega)]
   ·rw[if_neg h1,if_neg (by omega)]
def refSt (T:List UInt8):Nat→Bs
 | 0=>Array.replicate 200 0
 | i+1=>permB (xorB (refSt T i) T (136*i) 136)
theorem zero_front:front zero25 200=Array.replicate 200 0:=by
 refine bs_ext _ _ 200 (front_size _ _) (by rw[Array.size_replicate]) (fun j hj=>?_)
 have h':j<(Array.replicate 200 (0:UInt8)).size:=by rw[Array.size_replicate];exact hj
 rw[front_at _ _ _ hj,getElem!_pos (Array.replicate 200 (0:UInt8)) j h',Array.getElem_replicate]
 unfold byteOf
 rw[zero25_at _ (by omega)]
 unfold low
 simp
theorem xor_bit (x y:UInt8) (i:Nat):(x ^^^ y).toNat.testBit i=(x.toNat.testBit i ^^ y.toNat.testBit i):=by
 rw[UInt8.toNat_xor,Nat.testBit_xor]
theorem mix_xor (d:St) (hd:d.size=25) (p:Bs) (T:List UInt8) (o:Nat) (hp:∀ j,j<136→p[j]! = T[o+j]!) :
 mixTo (xorB (front d 200) T o 136) zero25 25=mixTo p d 17:=by
 have hz:zero25.size=25:=by simp[zero25]
 refine st_ext _ _ (by rw[mixTo_size,hz]) (by rw[mixTo_size,hd]) (fun j hj=>?_)
 rw[mixTo_at _ zero25 hz 25 j (Nat.le_refl _) hj,if_pos hj,zero25_at j hj,zx,mixTo_at _ d hd 17 j (by decide) hj]
 apply BitVec.eq_of_getLsbD_eq
 intro k hk
 have hb:∀ m,m<200→(xorB (front d 200) T o 136)[m]! = if m<136 then (front d 200)[m]! ^^^ T[o+m]! else (front d 200)[m]!:=fun m hm =>
  xorB_at _ _ _ _ _ (by rw[front_size];decide) (by rw[front_size];exact hm)
 have hw:=congrArg (fun v=>v.getLsbD k) (word_front d 200 j (by omega))
 simp only[wordOf] at hw ⊢
 rw[wordTo_bit _ _ 8 k (Nat.le_refl _) hk] at hw ⊢
 rw[hb _ (by omega)]
 by_cases h17:j<17
 ·rw[if_pos (by omega),if_pos h17,BitVec.getLsbD_xor,← hw,wordTo_bit _ _ 8 k (Nat.le_refl _) hk,xor_bit,hp _ (by omega)]
  simp[hk]
 ·rw[if_neg (by omega),if_neg h17,← hw]
theorem take_block (T:List UInt8) (i:Nat):T.take (136*(i+1))=T.take (136*i)++(T.drop (136*i)).take 136:=by
 rw[show 136*(i+1)=136*i+136 by omega,List.take_add]
theorem refSt_eq (T:List UInt8) (i:Nat) (h:136*i≤T.length):refSt T i=front (takeL S0 (T.take (136*i))).d 200:=by
 induction i with
 | zero =>
  rw[Nat.mul_zero,List.take_zero]
  exact zero_front.symm
 | succ i ih =>
  rw[refSt,ih (by omega),take_block T i,takeL_append]
  have hok:=takeL_ok S0_ok (T.take (136*i))
  have hh:(takeL S0 (T.take (136*i))).h=0:=by
   rw[takeL_h S0_ok,List.length_take,Nat.min_eq_left (by omega)]
   have:S0.h=0:=rfl
   omega
  generalize takeL S0 (T.take (136*i))=S at hok hh
  obtain ⟨d,p,q⟩:=S
  have hd:d.size=25:=hok.d25
  have hp:p.size=136:=hok.p136
  have hq:q=0:=hh
  subst hq
  have hl:((T.drop (136*i)).take 136).length=136:=by rw[List.length_take,List.length_drop];omega
  rw[takeL_chunk _ _ (by intro e;rw[e] at hl;simp at hl) (by rw[hl];exact Nat.le_refl _),hl,if_pos rfl,soak_mk]
  unfold permB
  rw[mix_xor d hd (splice p 0 ((T.drop (136*i)).take 136)) T (136*i)]
  intro j hj
  rw[splice_at _ _ _ _ (by rw[hl,hp];decide) (by omega),if_pos (by omega),Nat.sub_zero,getElem!_pos _ j (by rw[hl];exact hj),getElem!_pos T (136*i+j) (by omega)]
  rw[List.getElem_take,List.getElem_drop]
theorem refSt_total (l:List UInt8) (e:UInt8):refSt (total l e) (l.length/136+1)=front (absorb l e) 200:=by
 have h:=total_length l e
 rw[refSt_eq _ _ (by omega),absorb_total,List.take_of_length_le (by omega)]
end SP
namespace SP
open Go.RowKit Go.Sort Go.Deep
theorem append_room {w:World} {g l cap r k n c:Nat} {cur bs:Bs} (hC:Holds encB w g 0 cur) (hs:cur.size=cap) (hB:Holds encB w r 0 bs) (hk:bs.size=n) (hk2:k=n) (hroom:l+n≤cap) (ty:TypeId) :
 (Builtin.append_ #[24,24] ty #[.slice (some ⟨g,0,none⟩) l cap,.slice (some ⟨r,0,none⟩) k c]).run Tryz.prog w=.ok (.slice (some ⟨g,0,none⟩) (l+n) cap) (w.setCells g l (bs.toList.map encB)):=by
 subst hk2
 obtain ⟨i,hi,_,hsz,_⟩:=info_parts info5
 have hlen:(bs.toList.map encB).length=k:=by rw[List.length_map,Array.length_toList,hk]
 have hsrc:Src Tryz.prog i.size 24 (.slice (some ⟨r,0,none⟩) k c) k (bs.toList.map encB) w:=by
  rw[hsz]
  refine Src.ofSlice w slice22 ⟨r,0,none⟩ k c _ (by rw[hlen,Nat.mul_one]) (fun j v hj=>?_) (fun v hv=>?_)
  ·obtain ⟨h1,h2⟩:=List.getElem?_eq_some_iff.1 hj
   rw[hlen] at h1
   have hc:=(hB j (by omega)).1
   rw[getElem!_pos bs j (by omega)] at hc
   rw[List.getElem_map,Array.getElem_toList] at h2
   have e1:(⟨r,0,none⟩:Addr).add j=⟨r,0+j,none⟩:=by
    unfold Addr.add
    by_cases h0:j=0
    ·subst h0;rw[if_pos rfl]
    ·rw[if_neg h0]
   rw[e1,hc,h2]
  ·obtain ⟨x,_,rfl⟩:=List.mem_map.1 hv
   rfl
 have h:=run_append_room_src (P:=Tryz.prog) w 24 24 ty 5 i slice22 hi g 0 l cap (.slice (some ⟨r,0,none⟩) k c) k _ hsrc hroom
  (fun j hj=>by
   rw[hlen] at hj
   rw[hsz,Nat.mul_one,Nat.add_assoc,(hC (l+j) (by omega)).1];rfl)
  (fun j hj=>by
   rw[hlen] at hj
   rw[hsz,Nat.mul_one,Nat.add_assoc]
   exact (hC (l+j) (by omega)).2)
 rw[hsz,Nat.mul_one,Nat.zero_add] at h
 exact h
theorem Only.with_new {b o n g m p:Nat} {w w1 w2:World} (h:Only b o n w w1) (k:Only g p m w1 w2) (hg:w.heap.size≤g) (hb:b<w.heap.size):Only b o n w w2:=by
 have hs:=h.size
 have e:=k.block b (by omega) (by omega)
 exact ⟨k.os.trans h.os,k.tape.trans h.tape,k.output.trans h.output,Nat.le_trans h.size k.size,
  fun j hj hn=>(k.block j (by omega) (by omega)).trans (h.block j hj hn),
  fun q hq=>(World.cell?_of_block (w:=w1) (a:=⟨b,q,none⟩) e).trans (h.cell q hq),fun q=>(World.frozen?_of_block (w:=w1) (a:=⟨b,q,none⟩) e).trans (h.froz q)⟩
theorem permN_pred (d:St) (m:Nat) (h:¬ m=0):perm (permN d (m-1))=permN d m:=by
 obtain ⟨k,rfl⟩:∃ k,m=k+1:=⟨m-1,by omega⟩
 rw[Nat.add_sub_cancel,permN]
theorem stream_next (d:St) (m:Nat) (cur:Bs) (hc:136*m+136≤cur.size) (h:∀ j,j<136*m→cur[j]! = streamAt d j):∀ j,j<136*(m+1)→(splice cur (136*m) (front (permN d m) 136).toList)[j]! = streamAt d j:=by
 intro j hj
 have hl:(front (permN d m) 136).toList.length=136:=by rw[Array.length_toList,front_size]
 rw[splice_at _ _ _ _ (by rw[hl];exact hc) (by omega),hl]
 by_cases h1:j<136*m
 ·rw[if_neg (by omega),h j h1]
 ·rw[if_pos (by omega),getElem!_pos _ (j-136*m) (by rw[hl];omega),Array.getElem_toList,← getElem!_pos (front (permN d m) 136) (j-136*m) (by rw[front_size];omega),front_at _ _ _ (by omega)]
  unfold streamAt
  rw[show j/136=m by omega,show j%136=j-136*m by omega]
theorem give_any (b:Nat) (d:St) (n:Nat) (w:World) (h25:d.size=25) (hD:Holds enc w b 0 d) (hn:n≤16384) :
 Calls Tryz.prog 103 #[.pointer (some ⟨b,0,none⟩),.int .i64 n] w fun e w'=>e=.returned (.slice (some ⟨w.heap.size,0,none⟩) n n)∧Only b 0 25 w w'∧Holds encB w' w.heap.size 0 (streamL d n):=by
 have hb:=Holds.lt hD (by omega)
 obtain ⟨i,hi,hz0,hsz,hby⟩:=info_parts info5
 obtain ⟨cp,hcp⟩:∃ c,n+136=c:=⟨_,rfl⟩
 have hmk:∀ w:World,(Instr.makeSlice 24 (.int .i64 0) (.int .i64 ((n:Int)+136))).run Tryz.prog w=.ok (.slice (some ⟨w.heap.size,0,none⟩) 0 cp) (w.alloc (.cells (madeCells #[.int .u8 0] cp) 5)):=by
  intro w
  have h:=run_make (P:=Tryz.prog) w 24 5 i (.int .u8 0) slice22 hi hz0 .i64 .i64 0 ((n:Int)+136) (by omega) (by omega) (by rw[hby];omega) (by omega)
  rw[hsz,Nat.mul_one,show ((n:Int)+136).toNat=cp by omega] at h
  exact h
 have hC0:Holds encB (w.alloc (.cells (madeCells #[.int .u8 0] cp) 5)) w.heap.size 0 (Array.replicate cp 0):=Holds.made (enc:=encB) w 5 cp 0
 have hO0:Only b 0 25 w (w.alloc (.cells (madeCells #[.int .u8 0] cp) 5)):=(Only.refl _ _ _ _).alloc hb _
 have hD0:=Holds.below hD ((Below.refl w.heap.size w).alloc (Nat.le_refl _) (.cells (madeCells #[.int .u8 0] cp) 5)) hb
 have hs0:w.heap.size<(w.alloc (.cells (madeCells #[.int .u8 0] cp) 5)).heap.size:=by simp
 clear hi hz0 hsz hby
 have Hcp:Hid (n+136=cp):=hcp
 have hcl:n+136≤cp:=by omega
 have hcg:cp≤n+136:=by omega
 clear hcp
 go_enter Tryz.func103,Tryz.ntmps103
 go_wp2
 generalize w.alloc _=W1 at hC0 hO0 hD0 hs0 ⊢
 clear hmk
 go_loopg [5] cp (fun g s5 wr=>∃ (m l:Nat) (cur:Bs),Hid (l=136*m)∧l+g=cp∧1≤g∧s5=.slice (some ⟨w.heap.size,0,none⟩) l cp∧Holds encB wr w.heap.size 0 cur∧cur.size=cp∧Holds enc wr b 0 (permN d (m-1))∧Only b 0 25 w wr∧w.heap.size<wr.heap.size∧Hid (∀ j,j<136*m→cur[j]! = streamAt d j))
 case atStart=>exact ⟨0,0,_,rfl,by omega,by have:=Hcp.out;omega,rfl,hC0,by rw[Array.size_replicate],hD0,hO0,hs0,fun j hj=>by omega⟩
 case round =>
  clear hC0 hO0 hD0 hs0
  obtain ⟨m,l,cur,Hl,hg,hg1,rfl,hC,hcs,hDm,hO,hs,HE⟩:=hrel
  have hps:=permN_size d h25 (m-1)
  by_cases hlt:l<n
  ·have hlt':(l:Int)<(n:Int):=by omega
   have HN:Hid (∀ j,j<136*(m+1)→(splice cur l (front (permN d m) 136).toList)[j]! = streamAt d j):=by
    rw[Hl.out]
    exact stream_next d m cur (by rw[← Hl.out];omega) HE
   by_cases hm0:m=0
   ·have hz0:¬ (0:Int)<(l:Int):=by have:=Hl.out;omega
    have hDm0:Holds enc wr b 0 (permN d m):=by rw[hm0] at hDm ⊢;exact hDm
    have Hm0:Hid (m=0):=hm0
    clear hm0 hDm HE
    go_wp2_with fail
    refine (front_any b 0 136 _ _ (permN_size d h25 m) hDm0 (by decide)).mono ?_
    rintro e w2 ⟨rfl,hb2,hF⟩
    have hC2:=Holds.below hC hb2 (Holds.lt hC (by omega))
    have hD2:=Holds.below hDm0 hb2 (Holds.lt hDm0 (by rw[permN_size d h25];decide))
    have hap:=append_room (l:=l) (k:=136) (n:=136) (c:=136) hC2 hcs hF (front_size _ _) rfl (by omega) 24
    have hC3:=holds_splice hC2 l (front (permN d m) 136).toList (by rw[Array.length_toList,front_size];omega)
    rw[Nat.zero_add] at hC3
    have hO2:Only b 0 25 w w2:=hO.trans (Only.of_below hb2 rfl (Holds.lt hDm0 (by rw[permN_size d h25];decide)))
    have hOn:Only w.heap.size 0 cp w2 (w2.setCells w.heap.size l ((front (permN d m) 136).toList.map encB)):=(Only.refl _ _ _ _).setCells _ _ (by omega) (by rw[List.length_map,Array.length_toList,front_size];omega)
    have hO3:=hO2.with_new hOn (Nat.le_refl _) hb
    have hD3:=Holds.other hD2 hOn (by omega) (by rw[permN_size d h25];decide)
    have hs3:w.heap.size<(w2.setCells w.heap.size l ((front (permN d m) 136).toList.map encB)).heap.size:=Nat.lt_of_lt_of_le (Holds.lt hC2 (by omega)) hOn.size
    generalize w2.setCells w.heap.size l ((front (permN d m) 136).toList.map encB)=W3 at hap hC3 hO3 hD3 hs3
    have HAP:Hid _:=hap
    clear hC2 hD2 hF hb2 hOn hO2 hap
    go_wp2_with (at_builtin;refine Lib.wpList_append_run _ rfl _ _ 24 24 rfl _ _ rfl rfl _ _ HAP.out ?_)
    go_roundg (gk-136)
    case measure=>omega
    case rel =>
     exact ⟨m+1,l+136,_,by have:=Hl.out;show _=_;omega,by omega,by omega,rfl,hC3,by rw[splice_size,hcs],hD3,hO3,hs3,HN⟩
   ·have hpos:(0:Int)<(l:Int):=by have:=Hl.out;omega
    clear HE
    go_wp2_with fail
    refine (permute_any b 0 _ _ hps hDm).mono ?_
    rintro e w1 ⟨rfl,hO1,hD1⟩
    rw[permN_pred d m hm0] at hD1
    have hC1:=Holds.other hC hO1 (by omega) (by omega)
    have hO1':=hO.trans hO1
    go_wp2_with fail
    refine (front_any b 0 136 _ _ (permN_size d h25 m) hD1 (by decide)).mono ?_
    rintro e w2 ⟨rfl,hb2,hF⟩
    have hC2:=Holds.below hC1 hb2 (Holds.lt hC1 (by omega))
    have hD2:=Holds.below hD1 hb2 (Holds.lt hD1 (by rw[permN_size d h25];decide))
    have hap:=append_room (l:=l) (k:=136) (n:=136) (c:=136) hC2 hcs hF (front_size _ _) rfl (by omega) 24
    have hC3:=holds_splice hC2 l (front (permN d m) 136).toList (by rw[Array.length_toList,front_size];omega)
    rw[Nat.zero_add] at hC3
    have hO2:Only b 0 25 w w2:=hO1'.trans (Only.of_below hb2 rfl (Holds.lt hD1 (by rw[permN_size d h25];decide)))
    have hOn:Only w.heap.size 0 cp w2 (w2.setCells w.heap.size l ((front (permN d m) 136).toList.map encB)):=(Only.refl _ _ _ _).setCells _ _ (by omega) (by rw[List.length_map,Array.length_toList,front_size];omega)
    have hO3:=hO2.with_new hOn (Nat.le_refl _) hb
    have hD3:=Holds.other hD2 hOn (by omega) (by rw[permN_size d h25];decide)
    have hs3:w.heap.size<(w2.setCells w.heap.size l ((front (permN d m) 136).toList.map encB)).heap.size:=Nat.lt_of_lt_of_le (Holds.lt hC2 (by omega)) hOn.size
    generalize w2.setCells w.heap.size l ((front (permN d m) 136).toList.map encB)=W3 at hap hC3 hO3 hD3 hs3
    have HAP:Hid _:=hap
    clear hC2 hD2 hF hb2 hOn hO2 hap
    go_wp2_with (at_builtin;refine Lib.wpList_append_run _ rfl _ _ 24 24 rfl _ _ rfl rfl _ _ HAP.out ?_)
    go_roundg (gk-136)
    case measure=>omega
    case rel =>
     exact ⟨m+1,l+136,_,by have:=Hl.out;show _=_;omega,by omega,by omega,rfl,hC3,by rw[splice_size,hcs],hD3,hO3,hs3,HN⟩
  ·have hge:(n:Int)≤(l:Int):=by omega
   have hle:n≤cp:=by omega
   have hle':(n:Int)≤(cp:Int):=by omega
   go_wp2
   go_ret
   refine ⟨rfl,hO,fun j hj=>?_⟩
   rw[streamL_size] at hj
   have:=hC j (by omega)
   rw[HE.out j (by have:=Hl.out;omega)] at this
   rw[streamL_at d n j hj]
   exact this
end SP
namespace SP
open Go.RowKit Go.Sort Go.Deep
def spZero:Array Value:=Array.replicate 25 (.int .u64 0)++Array.replicate 136 (.int .u8 0)++#[.int .i64 0]
theorem zero68:∀ w:World,(zeroValue 85).run Tryz.prog w=.ok (.agg spZero) w:=fun _=>by kernel_rfl
theorem spZero_d (j:Nat) (hj:j<25):spZero[j]? = some (.int .u64 0):=by
 have h1:j<(Array.replicate 25 (Value.int .u64 0)).size:=by rw[Array.size_replicate];exact hj
 unfold spZero
 rw[Array.append_assoc,Array.getElem?_append_left h1,Array.getElem?_eq_getElem h1,Array.getElem_replicate]
theorem spZero_p (j:Nat) (hj:j<136):spZero[25+j]? = some (.int .u8 0):=by
 have h1:j<(Array.replicate 136 (Value.int .u8 0)).size:=by rw[Array.size_replicate];exact hj
 unfold spZero
 rw[Array.append_assoc,Array.getElem?_append_right (by rw[Array.size_replicate];omega),Array.size_replicate,Nat.add_sub_cancel_left,Array.getElem?_append_left h1,Array.getElem?_eq_getElem h1,Array.getElem_replicate]
theorem spZero_h:spZero[161]? = some (.int .i64 0):=by
 unfold spZero
 rw[Array.getElem?_append_right (by rw[Array.size_append,Array.size_replicate,Array.size_replicate];decide),Array.size_append,Array.size_replicate,Array.size_replicate]
 rfl
theorem hsp_new (w:World) (t:TypeId):HSp (w.alloc (.cells spZero t)) w.heap.size S0:=by
 refine ⟨fun j hj=>?_,fun j hj=>?_,?_,?_⟩
 ·have hj':j<25:=by simpa[S0,zero25] using hj
  rw[World.cell?_alloc_new,World.frozen?_alloc_new,Nat.zero_add,spZero_d j hj']
  refine ⟨?_,rfl⟩
  have e:S0.d[j]! = 0:=zero25_at j hj'
  rw[e]
  rfl
 ·have hj':j<136:=by simpa[S0] using hj
  rw[World.cell?_alloc_new,World.frozen?_alloc_new,spZero_p j hj']
  refine ⟨?_,rfl⟩
  have e:S0.p[j]! = 0:=rep_at 136 j hj'
  rw[e]
  rfl
 ·rw[World.cell?_alloc_new,spZero_h];rfl
 ·rw[World.frozen?_alloc_new]
theorem Stream_yes (a:Option Addr) (sb so len cap n:Nat) (bs:Bs) (w:World) (hn:n≤16384) (hl:bs.size=len) (hcap:len≤cap) (hbig:len≤1099511627776) (hsrc:len=0∨(a=some ⟨sb,so,none⟩∧Holds encB w sb so bs)) :
 Calls Tryz.prog 78 #[.slice a len cap,.int .i64 n] w fun e w'=>∃ r,e=.returned (.tuple #[.slice (some ⟨r,0,none⟩) n n,.int .i64 0])∧w.heap.size≤r∧Below w.heap.size w w'∧Holds encB w' r 0 (strmL bs.toList n):=by
 have hS0:=hsp_new w 85
 have hb0:Below w.heap.size w (w.alloc (.cells spZero 85)):=(Below.refl _ _).alloc (Nat.le_refl _) _
 have hs0:w.heap.size<(w.alloc (.cells spZero 85)).heap.size:=by simp
 have hsrc':len=0∨(a=some ⟨sb,so,none⟩∧sb≠w.heap.size∧Holds encB (w.alloc (.cells spZero 85)) sb so bs):=by
  by_cases h0:len=0
  ·exact Or.inl h0
  ·rcases hsrc with h|⟨h1,h2⟩
   ·exact Or.inl h
   ·have hlt:=Holds.lt h2 (by omega)
    exact Or.inr ⟨h1,by omega,Holds.below h2 hb0 hlt⟩
 have d0:decide ((n:Int)<0)=false:=decide_eq_false (by omega)
 have d1:¬ (16384:Int)<(n:Int):=by omega
 have zv:=zero68
 go_enter Tryz.func78,Tryz.ntmps78
 go_wp2_with fail
 generalize w.alloc (.cells spZero 85)=W1 at hS0 hb0 hs0 hsrc' ⊢
 refine (take_any w.heap.size S0 a sb so len cap bs W1 S0_ok hS0 hl hcap hbig hsrc').mono ?_
 rintro e w1 ⟨rfl,hO1,hS1⟩
 go_wp2_with fail
 refine (end_any w.heap.size (takeL S0 bs.toList) 31 w1 (takeL_ok S0_ok _) hS1).mono ?_
 rintro e w2 ⟨rfl,hO2,hS2⟩
 have hD2:Holds enc w2 w.heap.size 0 (absorb bs.toList 31):=hS2.d
 clear hS2
 go_wp2_with fail
 refine (give_any w.heap.size _ n _ (absorb_size _ _) hD2 hn).mono ?_
 rintro e w3 ⟨rfl,hO3,hF⟩
 go_wp2
 go_ret2
 have s1:=hO1.size
 have s2:=hO2.size
 exact ⟨w2.heap.size,rfl,by omega,(hb0.trans ((hO1.trans hO2).below (by omega) (Nat.le_refl _))).trans (hO3.below (by omega) (Nat.le_refl _)),hF⟩
end SP
namespace SP
open Go.RowKit Go.Sort Go.Deep
def Own (B:Nat) (w:World) (v:Value) (T:List UInt8):Prop:=
 ∃ g cap cur,v=.slice (some ⟨g,0,none⟩) T.length cap∧B≤g∧g<w.heap.size∧Array.size cur=cap∧T.length≤cap∧Holds encB w g 0 cur∧∀ j,j<T.length→cur[j]! = T[j]!
theorem Holds.front {α:Type} [Inhabited α] {f:α→Value} {w:World} {b o:Nat} {d e:Array α} (h:Holds f w b o d) (hs:e.size≤d.size) (he:∀ j,j<e.size→e[j]! = d[j]!):Holds f w b o e:=by
 intro j hj
 rw[he j hj]
 exact h j (by omega)
theorem list_arr_at (T:List UInt8) (j:Nat):T.toArray[j]! = T[j]!:=by
 by_cases h:j<T.length
 ·rw[getElem!_pos T.toArray j (by simpa using h),getElem!_pos T j h]
  simp
 ·rw[getElem!_neg T.toArray j (by simpa using h),getElem!_neg T j h]
theorem list_app_front (a b:List UInt8) (j:Nat) (h:j<a.length):(a++b)[j]! = a[j]!:=by
 rw[getElem!_pos (a++b) j (by rw[List.length_append];omega),getElem!_pos a j h,List.getElem_append_left h]
theorem list_app_back (a b:List UInt8) (j:Nat) (h:a.length≤j) (h2:j<a.length+b.length):(a++b)[j]! = b[j-a.length]!:=by
 rw[getElem!_pos (a++b) j (by rw[List.length_append];omega),getElem!_pos b (j-a.length) (by omega),List.getElem_append_right h]
variable {B:Nat} {w w1:World} {v:Value} {T:List UInt8}
theorem Own.holds {g cap n:Nat} (h:Own B w (.slice (some ⟨g,0,none⟩) n cap) T):B≤g∧n=T.length∧T.length≤cap∧Holds encB w g 0 T.toArray:=by
 obtain ⟨g',cap',cur,hv,hg,_,hs,hl,hH,hT⟩:=h
 injection hv with e1 e2 e3
 injection e1 with e1
 injection e1 with e1 _ _
 subst e1 e3
 exact ⟨hg,e2,hl,Holds.front hH (by simp;omega) (fun j hj=>by rw[list_arr_at];exact (hT j (by simpa using hj)).symm)⟩
theorem Own.below (h:Own B w v T) (k:Below w.heap.size w w1):Own B w1 v T:=by
 obtain ⟨g,cap,cur,hv,hg,hgl,hs,hl,hH,hT⟩:=h
 exact ⟨g,cap,cur,hv,hg,Nat.lt_of_lt_of_le hgl k.size,hs,hl,Holds.below hH k hgl,hT⟩
theorem conv_bytes (s:ByteArray) (hB:B≤w.heap.size) :
 ∃ v' w',(convert 9 24 (.string s)).run Tryz.prog w=.ok v' w'∧Own B w' v' s.data.toList∧Below w.heap.size w w'∧v'=.slice (some ⟨w.heap.size,0,none⟩) s.size (grownCap w s.size 0 5):=by
 have h:=Lib.run_convert_string_bytes (P:=Tryz.prog) w 9 24 5 s str9 slice22 int5
 have hcap:s.size≤grownCap w s.size 0 5:=by
  unfold grownCap Question.cut
  exact Nat.le_add_right _ _
 have hl:s.data.size=s.size:=rfl
 refine ⟨_,_,h,⟨w.heap.size,grownCap w s.size 0 5,s.data++Array.replicate (grownCap w s.size 0 5-s.size) 0,?_,hB,by rw[Lib.bytesWorld_size];omega,?_,?_,?_,?_⟩,?_,rfl⟩
 ·rw[Array.length_toList];rfl
 ·rw[Array.size_append,Array.size_replicate];omega
 ·rw[Array.length_toList];omega
 ·intro j hj
  rw[Array.size_append,Array.size_replicate] at hj
  have hb:=Lib.bytesWorld_at_new w 5 s
  have hsz:(Lib.bytesCells w 5 s).size=grownCap w s.size 0 5:=by
   unfold Lib.bytesCells
   rw[Array.size_append,Array.size_map,Array.size_replicate]
   omega
  have hc:(Lib.bytesCells w 5 s)=(s.data++Array.replicate (grownCap w s.size 0 5-s.size) 0).map encB:=by
   unfold Lib.bytesCells
   rw[Array.map_append,Array.map_replicate]
   rfl
  have hj2:j<(s.data++Array.replicate (grownCap w s.size 0 5-s.size) 0).size:=by rw[Array.size_append,Array.size_replicate];exact hj
  constructor
  ·unfold World.cell?
   rw[hb]
   simp only[Nat.zero_add]
   rw[if_neg (by decide),hc,Array.getElem?_map,Array.getElem?_eq_getElem hj2,Option.map_some,getElem!_pos _ j hj2]
  ·unfold World.frozen?
   rw[hb]
   simp only[Nat.zero_add,hsz]
   simp
   omega
 ·intro j hj
  rw[Array.length_toList] at hj
  rw[app_front _ _ j hj,getElem!_pos s.data.toList j (by rw[Array.length_toList];exact hj),Array.getElem_toList]
 ·refine ⟨?_,?_,?_,?_,fun k hk=>Lib.bytesWorld_at_old w 5 s k hk⟩
  ·unfold Lib.bytesWorld World.freeze
   rw[if_neg (by decide)]
   rfl
  ·unfold Lib.bytesWorld World.freeze
   rw[if_neg (by decide)]
   rfl
  ·unfold Lib.bytesWorld World.freeze
   rw[if_neg (by decide)]
   rfl
  ·rw[Lib.bytesWorld_size];omega
theorem Holds.below' {α:Type} [Inhabited α] {f:α→Value} {w w1:World} {b o:Nat} {d:Array α} (h:Holds f w b o d) (k:Below w.heap.size w w1):Holds f w1 b o d:=by
 intro j hj
 have hlt:=Holds.lt h (by omega)
 exact Holds.below h k hlt j hj
theorem hashL_size (l:List UInt8):(hashL l).size=32:=by rw[hashL,front_size]
end SP
namespace SP
open Go.RowKit Go.Sort Go.Deep
def lenB (n d:Nat):UInt8:=UInt8.ofNat (n/d)
theorem lenB_int (n d:Nat):(n:Int)/(d:Int)%256=ub (lenB n d):=by
 have e2:((n:Int)/(d:Int))=((n/d:Nat):Int):=by rw[Int.natCast_ediv]
 rw[e2]
 unfold ub lenB
 rw[UInt8.toNat_ofNat']
 omega
theorem lenB_one (n:Nat):(n:Int)%256=ub (lenB n 1):=by
 have:=lenB_int n 1
 rw[show ((1:Nat):Int)=1 from rfl,Int.ediv_one] at this
 exact this
def frameL (l:List UInt8):List UInt8:=[lenB l.length 16777216,lenB l.length 65536,lenB l.length 256,lenB l.length 1]++l
theorem frameL_length (l:List UInt8):(frameL l).length=l.length+4:=by
 unfold frameL
 rw[List.length_append]
 simp only[List.length_cons,List.length_nil]
 omega
theorem holds_four (w:World) (x y z t:UInt8):Holds encB (w.alloc (.cells #[.int .u8 (ub x),.int .u8 (ub y),.int .u8 (ub z),.int .u8 (ub t)] 5)) w.heap.size 0 #[x,y,z,t]:=by
 have h:=Holds.new (enc:=encB) w 5 #[x,y,z,t]
 have e:Array.map encB #[x,y,z,t]=#[.int .u8 (ub x),.int .u8 (ub y),.int .u8 (ub z),.int .u8 (ub t)]:=by simp[encB]
 rw[e] at h
 exact h
theorem takeFrame_any (b:Nat) (S:Sp) (a:Option Addr) (sb so len cap:Nat) (bs:Bs) (w:World) (hok:Ok S) (hS:HSp w b S) (hl:bs.size=len) (hcap:len≤cap) (hbig:len≤1099511627776)
 (hsrc:len=0∨(a=some ⟨sb,so,none⟩∧sb≠b∧Holds encB w sb so bs)) :
 Calls Tryz.prog 38 #[.pointer (some ⟨b,0,none⟩),.slice a len cap] w fun e w'=>e=.returned (.tuple #[])∧Only b 0 162 w w'∧HSp w' b (takeL S (frameL bs.toList)):=by
 have hb:=hS.lt
 have b0:(len:Int)/16777216%256=ub (lenB len 16777216):=lenB_int len 16777216
 have b1:(len:Int)/65536%256=ub (lenB len 65536):=lenB_int len 65536
 have b2:(len:Int)/256%256=ub (lenB len 256):=lenB_int len 256
 have b3:(len:Int)%256=ub (lenB len 1):=lenB_one len
 have hF:Hid (frameL bs.toList=(#[lenB len 16777216,lenB len 65536,lenB len 256,lenB len 1]:Bs).toList++bs.toList):=by
  unfold frameL
  rw[Array.length_toList,hl]
  rfl
 have h4:=holds_four w (lenB len 16777216) (lenB len 65536) (lenB len 256) (lenB len 1)
 generalize lenB len 16777216=x0 at *
 generalize lenB len 65536=x1 at *
 generalize lenB len 256=x2 at *
 generalize lenB len 1=x3 at *
 have hb0:Below w.heap.size w (w.alloc (.cells #[.int .u8 (ub x0),.int .u8 (ub x1),.int .u8 (ub x2),.int .u8 (ub x3)] 5)):=(Below.refl _ _).alloc (Nat.le_refl _) _
 have hS1:=hS.below hb0 hb
 have hO0:Only b 0 162 w (w.alloc (.cells #[.int .u8 (ub x0),.int .u8 (ub x1),.int .u8 (ub x2),.int .u8 (ub x3)] 5)):=Only.of_below hb0 rfl hb
 have hsrc1:len=0∨(a=some ⟨sb,so,none⟩∧sb≠b∧Holds encB (w.alloc (.cells #[.int .u8 (ub x0),.int .u8 (ub x1),.int .u8 (ub x2),.int .u8 (ub x3)] 5)) sb so bs):=by
  by_cases h0:len=0
  ·exact Or.inl h0
  ·rcases hsrc with h|⟨h1,h2,h3⟩
   ·exact Or.inl h
   ·exact Or.inr ⟨h1,h2,Holds.below h3 hb0 (Holds.lt h3 (by omega))⟩
 clear hsrc
 go_enter Tryz.func38,Tryz.ntmps38
 go_wp2_with fail
 generalize w.alloc (.cells #[.int .u8 (ub x0),.int .u8 (ub x1),.int .u8 (ub x2),.int .u8 (ub x3)] 5)=W1 at h4 hb0 hS1 hO0 hsrc1 ⊢
 refine (take_any b S (some ⟨w.heap.size,0,none⟩) w.heap.size 0 4 4 #[x0,x1,x2,x3] W1 hok hS1 rfl (Nat.le_refl _) (by decide) (Or.inr ⟨rfl,by omega,h4⟩)).mono ?_
 rintro e w2 ⟨rfl,hO2,hS2⟩
 have hsrc2:len=0∨(a=some ⟨sb,so,none⟩∧sb≠b∧Holds encB w2 sb so bs):=by
  by_cases h0:len=0
  ·exact Or.inl h0
  ·rcases hsrc1 with h|⟨h1,h2,h3⟩
   ·exact Or.inl h
   ·exact Or.inr ⟨h1,h2,Holds.other h3 hO2 h2 (by omega)⟩
 go_wp2_with fail
 refine (take_any b _ a sb so len cap bs w2 (takeL_ok hok _) hS2 hl hcap hbig hsrc2).mono ?_
 rintro e w3 ⟨rfl,hO3,hS3⟩
 go_wp2
 go_end0
 refine ⟨rfl,(hO0.trans hO2).trans hO3,?_⟩
 rw[hF.out,takeL_append]
 exact hS3
theorem Frame_any (s:ByteArray) (w:World) (hs:s.size≤1048576) :
 Calls Tryz.prog 48 #[.string s] w fun e w'=>∃ o,e=.returned (.string o)∧o.data.toList=frameL s.data.toList∧Below w.heap.size w w':=by
 have b0:(s.size:Int)/16777216%256=ub (lenB s.size 16777216):=lenB_int s.size 16777216
 have b1:(s.size:Int)/65536%256=ub (lenB s.size 65536):=lenB_int s.size 65536
 have b2:(s.size:Int)/256%256=ub (lenB s.size 256):=lenB_int s.size 256
 have b3:(s.size:Int)%256=ub (lenB s.size 1):=lenB_one s.size
 have hF:Hid (frameL s.data.toList=(#[lenB s.size 16777216,lenB s.size 65536,lenB s.size 256,lenB s.size 1]:Bs).toList++s.data.toList):=by
  unfold frameL
  rw[Array.length_toList]
  rfl
 have h4:=holds_four w (lenB s.size 16777216) (lenB s.size 65536) (lenB s.size 256) (lenB s.size 1)
 generalize lenB s.size 16777216=x0 at *
 generalize lenB s.size 65536=x1 at *
 generalize lenB s.size 256=x2 at *
 generalize lenB s.size 1=x3 at *
 have kc:=conv_str Tryz.prog 24 9 5 slice22 int5 str9 _ w.heap.size 0 4 4 #[x0,x1,x2,x3] h4 rfl
 have c0:(s.size:Int)/16777216=ub x0:=by omega
 have c1:(s.size:Int)/65536=ub x1:=by omega
 go_enter Tryz.func48,Tryz.ntmps48
 go_wp2
 go_ret
 refine ⟨_,rfl,?_,(Below.refl _ _).alloc (Nat.le_refl _) _⟩
 rw[hF.out,ByteArray.data_append,Array.toList_append]
end SP
namespace SP
open Go.RowKit Go.Sort Go.Deep
def framesL (label:List UInt8) (ps:List (List UInt8)):List UInt8:=frameL label++ps.flatMap frameL
def tagL (label:List UInt8) (ps:List (List UInt8)):Bs:=hashL (framesL label ps)
theorem tagL_size (label:List UInt8) (ps:List (List UInt8)):(tagL label ps).size=32:=hashL_size _
theorem framesL_snoc (label:List UInt8) (ps:List (List UInt8)) (x:List UInt8):framesL label (ps++[x])=framesL label ps++frameL x:=by
 unfold framesL
 rw[List.flatMap_append,← List.append_assoc]
 simp
def PartOk (w:World) (v:Value) (x:List UInt8):Prop:=
 ∃ a sb so cap bs,v=.slice a (Array.size bs) cap∧bs.toList=x∧bs.size≤cap∧bs.size≤1099511627776∧(bs.size=0∨(a=some ⟨sb,so,none⟩∧Holds encB w sb so bs))
theorem PartOk.below {w w1:World} {v:Value} {x:List UInt8} (h:PartOk w v x) (k:Below w.heap.size w w1):PartOk w1 v x:=by
 obtain ⟨a,sb,so,cap,bs,h1,h2,h3,h4,h5⟩:=h
 refine ⟨a,sb,so,cap,bs,h1,h2,h3,h4,?_⟩
 rcases h5 with h5|⟨h5,h6⟩
 ·exact Or.inl h5
 ·exact Or.inr ⟨h5,Holds.below' h6 k⟩
def PartsOk (w:World) (pa:Option Addr) (ps:List (List UInt8)):Prop:=
 ps.length=0∨∃ pb po,pa=some ⟨pb,po,none⟩∧∀ j,j<ps.length→∃ v,w.cell? ⟨pb,po+j,none⟩=some v∧PartOk w v ps[j]!
theorem framesL_take (label:List UInt8) (ps:List (List UInt8)) (k:Nat):(framesL label (ps.take k)).length≤(framesL label ps).length:=by
 have e:framesL label ps=framesL label (ps.take k)++(ps.drop k).flatMap frameL:=by
  unfold framesL
  rw[List.append_assoc,← List.flatMap_append,List.take_append_drop]
 rw[e,List.length_append]
 omega
theorem take_snoc_getD {α:Type} [Inhabited α] (l:List α) (k:Nat) (h:k<l.length):l.take (k+1)=l.take k++[l[k]!]:=by
 rw[List.take_succ_eq_append_getElem h,getElem!_pos l k h]
theorem Tag_any (label:ByteArray) (pa:Option Addr) (pcap:Nat) (ps:List (List UInt8)) (w:World) (hlab:label.size≤1048576) (hpl:ps.length≤1048576) (hP:PartsOk w pa ps) :
 Calls Tryz.prog 21 #[.string label,.slice pa ps.length pcap] w fun e w'=>∃ r,e=.returned (.slice (some ⟨r,0,none⟩) 32 32)∧w.heap.size≤r∧Below w.heap.size w w'∧Holds encB w' r 0 (tagL label.data.toList ps):=by
 have hS0:=hsp_new w 85
 have hb0:Below w.heap.size w (w.alloc (.cells spZero 85)):=(Below.refl _ _).alloc (Nat.le_refl _) _
 have hs0:(w.alloc (.cells spZero 85)).heap.size=w.heap.size+1:=by simp
 have zv:=zero68
 generalize hW1:w.alloc (.cells spZero 85)=W1 at hS0 hb0 hs0
 obtain ⟨v2,W2,hcv,own2,hb2,hv2⟩:=conv_bytes (w:=W1) (B:=0) label (Nat.zero_le _)
 rw[hv2] at hcv own2
 obtain ⟨hq0,hq1,hle2,hH2⟩:=own2.holds
 rw[← hq1] at hle2
 clear hq0 hq1
 have hH2':Holds encB W2 W1.heap.size 0 label.data:=by simpa using hH2
 have hS2:=hS0.below hb2 hS0.lt
 have hsz2:=hb2.size
 obtain ⟨n,hn⟩:∃ n,ps.length=n:=⟨_,rfl⟩
 rw[hn]
 have Hn:Hid (ps.length=n):=hn
 have hn20:n≤1048576:=by omega
 rw[hs0] at hcv hH2'
 generalize hc2:grownCap W1 label.size 0 5=c2 at *
 clear own2 hv2 hH2 hn hc2
 have hcv':(convert 9 24 (.string label)).run Tryz.prog (w.alloc (.cells spZero 85))=.ok (.slice (some ⟨w.heap.size+1,0,none⟩) label.size c2) W2:=by rw[hW1];exact hcv
 clear hW1 hcv
 go_enter Tryz.func21,Tryz.ntmps21
 go_wp2_with fail
 refine (takeFrame_any w.heap.size S0 (some ⟨w.heap.size+1,0,none⟩) (w.heap.size+1) 0 label.size c2 label.data W2 S0_ok hS2 rfl (by omega) (by omega) (Or.inr ⟨rfl,by omega,hH2'⟩)).mono ?_
 rintro e w3 ⟨rfl,hO3,hS3⟩
 have hb3:Below w.heap.size w w3:=(hb0.trans (hb2.mono (by omega))).trans (hO3.below (by omega) (Nat.le_refl _))
 have hz3:w.heap.size<w3.heap.size:=hS3.lt
 clear hcv' hH2' hO3 zv hS2
 go_wp2
 go_loopg [13] n (fun g s13 wr=>∃ (k:Nat) (Sk:Sp),k+g=n∧s13=.int .i64 k∧HSp wr w.heap.size Sk∧Below w.heap.size w wr∧Ok Sk∧Hid (Sk=takeL S0 (framesL label.data.toList (ps.take k))))
 case atStart =>
  refine ⟨0,_,by omega,rfl,hS3,hb3,takeL_ok S0_ok _,?_⟩
  rw[List.take_zero]
  unfold framesL
  rw[List.flatMap_nil,List.append_nil]
  rfl
 case round =>
  clear hS3 hb3 hz3
  obtain ⟨k,Sk,hk,rfl,hSk,hb,hok,HE⟩:=hrel
  by_cases hlt:k<n
  ·obtain ⟨pb,po,rfl,hPj⟩:∃ pb po,pa=some ⟨pb,po,none⟩∧∀ j,j<ps.length→∃ v,w.cell? ⟨pb,po+j,none⟩=some v∧PartOk w v ps[j]!:=by
    rcases hP with h|h
    ·have:=Hn.out;omega
    ·exact h
   obtain ⟨v,hvc,hvp⟩:=hPj k (by have:=Hn.out;omega)
   have hpb:=World.block_lt_of_cell? _ _ hvc
   have hvc':wr.cell? ⟨pb,po+k,none⟩=some v:=by rw[hb.cell (p:=⟨pb,po+k,none⟩) hpb];exact hvc
   obtain ⟨a,sb,so,cap,bs,rfl,hbl,hbc,hbb,hsrc⟩:=hvp
   have hsrc':bs.size=0∨(a=some ⟨sb,so,none⟩∧sb≠w.heap.size∧Holds encB wr sb so bs):=by
    by_cases h0:bs.size=0
    ·exact Or.inl h0
    ·rcases hsrc with h|⟨h1,h2⟩
     ·exact Or.inl h
     ·have:=Holds.lt h2 (by omega)
      exact Or.inr ⟨h1,by omega,Holds.below h2 hb this⟩
   have HB:Hid (bs.toList=ps[k]!):=hbl
   have l1:(k:Int)<(n:Int):=by omega
   generalize hbz:bs.size=bz at *
   clear hvc hsrc hPj hbl
   go_wp2_with fail
   refine (takeFrame_any w.heap.size Sk a sb so bz cap bs wr hok hSk hbz hbc hbb hsrc').mono ?_
   rintro e w4 ⟨rfl,hO4,hS4⟩
   go_wp2
   go_roundg (gk-1)
   case measure=>omega
   case rel =>
    refine ⟨k+1,_,by omega,by go_num,hS4,hb.trans (hO4.below hb.size (Nat.le_refl _)),takeL_ok hok _,?_⟩
    rw[take_snoc_getD ps k (by have:=Hn.out;omega),framesL_snoc,takeL_append,← HE.out,HB.out]
    rfl
  ·have hkn:k=n:=by omega
   have l1:(n:Int)≤(k:Int):=by omega
   have HE2:Hid (Sk=takeL S0 (framesL label.data.toList ps)):=by
    have e1:ps.take k=ps:=List.take_of_length_le (by have:=Hn.out;omega)
    rw[e1] at HE
    exact HE
   clear HE
   go_wp2_with fail
   refine (end_any w.heap.size Sk 6 wr hok hSk).mono ?_
   rintro e w5 ⟨rfl,hO5,hS5⟩
   have hD5:Holds enc w5 w.heap.size 0 (absorb (framesL label.data.toList ps) 6):=by
    have:=hS5.d
    rw[HE2.out] at this
    exact this
   clear hS5
   go_wp2_with fail
   refine (front_any w.heap.size 0 32 _ _ (absorb_size _ _) hD5 (by decide)).mono ?_
   rintro e w6 ⟨rfl,hb6,hF6⟩
   have hs5:=hO5.size
   have hs4:=hb.size
   go_wp2
   go_ret
   exact ⟨w5.heap.size,rfl,by omega,(hb.trans (hO5.below hb.size (Nat.le_refl _))).trans (hb6.mono (by omega)),hF6⟩
end SP
namespace SP
open Go.RowKit Go.Sort Go.Deep
variable {B:Nat} {w w1:World} {v:Value} {T:List UInt8}
set_option maxRecDepth 4000
theorem append_own {r c:Nat} {xs:Bs} (h:Own B w v T) (hX:Holds encB w r 0 xs) (hB:B≤w.heap.size) (hbig:T.length+xs.size≤1099511627776) (k:Nat) (hk:k=xs.size) :
 ∃ v' w',(Builtin.append_ #[24,24] 24 #[v,.slice (some ⟨r,0,none⟩) k c]).run Tryz.prog w=.ok v' w'∧Own B w' v' (T++xs.toList)∧Below B w w':=by
 subst hk
 obtain ⟨g,cap,cur,rfl,hg,hgl,hs,hl,hH,hTc⟩:=h
 obtain ⟨i,hi,hz,hsz,hby⟩:=info_parts info5
 have hxl0:xs.toList.length=xs.size:=Array.length_toList
 have hlen:(T++xs.toList).length=T.length+xs.size:=by rw[List.length_append,hxl0]
 by_cases hroom:T.length+xs.size≤cap
 ·have hap:=append_room (l:=T.length) (k:=xs.size) (n:=xs.size) (c:=c) hH hs hX rfl rfl hroom 24
  have hH3:=holds_splice hH T.length xs.toList (by rw[hxl0];omega)
  rw[Nat.zero_add] at hH3
  refine ⟨_,_,hap,⟨g,cap,splice cur T.length xs.toList,by rw[hlen],hg,Nat.lt_of_lt_of_le hgl (below_setCells (B:=0) (b:=g) (Nat.zero_le _) _ _ _ (Below.refl 0 w)).size,by rw[splice_size,hs],by omega,hH3,fun j hj=>?_⟩,?_⟩
  ·rw[hlen] at hj
   rw[splice_at _ _ _ _ (by rw[hxl0];omega) (by omega),hxl0]
   by_cases h1:j<T.length
   ·rw[if_neg (by omega),list_app_front _ _ _ h1,hTc j h1]
   ·rw[if_pos (by omega),list_app_back _ _ _ (by omega) (by rw[hxl0];omega)]
  ·exact below_setCells hg _ _ _ (Below.refl _ _)
 ·have hold:(Builtin.firstCells i.size T.length (.slice (some ⟨g,0,none⟩) T.length cap)).run Tryz.prog w.drew=.ok (T.map encB).toArray w.drew:=by
   rw[hsz]
   refine run_firstCells_some w.drew 1 T.length ⟨g,0,none⟩ T.length cap (T.map encB) (by rw[List.length_map,Nat.mul_one]) (fun j u hj=>?_)
   obtain ⟨h1,h2⟩:=List.getElem?_eq_some_iff.1 hj
   rw[List.length_map] at h1
   have hc:=(hH j (by omega)).1
   rw[hTc j h1,getElem!_pos T j h1] at hc
   rw[List.getElem_map] at h2
   have e1:(⟨g,0,none⟩:Addr).add j=⟨g,0+j,none⟩:=by
    unfold Addr.add
    by_cases h0:j=0
    ·subst h0;rw[if_pos rfl]
    ·rw[if_neg h0]
   rw[e1,World.cell?_drew,hc,h2]
  have hxl:(xs.toList.map encB).length=xs.size:=by rw[List.length_map,hxl0]
  have hsrc:Src Tryz.prog i.size 24 (.slice (some ⟨r,0,none⟩) xs.size c) xs.size (xs.toList.map encB) w:=by
   rw[hsz]
   refine Src.ofSlice w slice22 ⟨r,0,none⟩ xs.size c _ (by rw[hxl,Nat.mul_one]) (fun j u hj=>?_) (fun u hu=>?_)
   ·obtain ⟨h1,h2⟩:=List.getElem?_eq_some_iff.1 hj
    rw[hxl] at h1
    have hc:=(hX j (by omega)).1
    rw[getElem!_pos xs j (by omega)] at hc
    rw[List.getElem_map,Array.getElem_toList] at h2
    have e1:(⟨r,0,none⟩:Addr).add j=⟨r,0+j,none⟩:=by
     unfold Addr.add
     by_cases h0:j=0
     ·subst h0;rw[if_pos rfl]
     ·rw[if_neg h0]
    rw[e1,hc,h2]
   ·obtain ⟨x,_,rfl⟩:=List.mem_map.1 hu
    rfl
  have hnc:Builtin.nextslicecap (T.length+xs.size) cap≤2*(T.length+xs.size)+768:=by
   unfold Builtin.nextslicecap
   split
   ·omega
   ·split
    ·omega
    ·simp only[Builtin.growBy]
     repeat' split
     all_goals omega
  have hap:=run_append_grow_src (P:=Tryz.prog) w 24 24 24 5 i (.int .u8 0) slice22 hi hz (some ⟨g,0,none⟩) T.length cap (T.map encB) hold _ xs.size (xs.toList.map encB) hsrc (by omega) (by omega) (by rw[hby];omega)
  generalize hG:grownCap w (T.length+xs.size) cap 5=G at hap
  have hGl:T.length+xs.size≤G:=by
   rw[← hG]
   unfold grownCap Question.cut
   exact Nat.le_add_right _ _
  have hcells:(T.map encB++xs.toList.map encB).toArray++Builtin.zeroCells (Value.int .u8 0).cells (G-(T.length+xs.size))=((T++xs.toList).toArray++Array.replicate (G-(T.length+xs.size)) (0:UInt8)).map encB:=by
   rw[Array.map_append,Array.map_replicate,← List.map_append]
   congr 1
   ·simp
   ·unfold Builtin.zeroCells
    have e:(Value.int .u8 0).cells=#[Value.int .u8 0]:=rfl
    rw[e]
    apply Array.ext
    ·simp
    ·intro k h1 h2
     simp[Nat.mod_one]
     rfl
  rw[hcells] at hap
  refine ⟨_,_,hap,⟨w.heap.size,G,(T++xs.toList).toArray++Array.replicate (G-(T.length+xs.size)) 0,by rw[hlen],hB,by simp,?_,by omega,?_,fun j hj=>?_⟩,?_⟩
  ·rw[Array.size_append,Array.size_replicate,List.size_toArray,hlen];omega
  ·exact Holds.new (enc:=encB) w.drew 5 _
  ·rw[app_front _ _ j (by simpa using hj)]
   rw[getElem!_pos (T++xs.toList) j hj]
   simp
  ·exact ((Below.refl B w).drew).alloc (by exact hB) _
end SP
namespace SP
open Go.RowKit Go.Sort Go.Deep
attribute [local go_sem] bits_xor64 bits_and64 bits_or64 wrap_u
theorem place_any (a b:Int) (n:Nat) (w:World) (ha:0≤a∧a≤1000) (hb:0≤b∧b≤1000) (h:a%5+5*(b%5)=(n:Int)) :
 Calls Tryz.prog 134 #[.int .i64 a,.int .i64 b] w fun e w'=>e=.returned (.int .i64 n)∧w'=w:=by
 obtain ⟨a1,a2⟩:=ha
 obtain ⟨b1,b2⟩:=hb
 rw[← h]
 clear h
 go_enter Tryz.func134,Tryz.ntmps134
 go_wp2
 go_ret
 exact ⟨rfl,rfl⟩
theorem left_any (x:BitVec 64) (k:Nat) (w:World) (hk:k<64) :
 Calls Tryz.prog 135 #[.int .u64 (u x),.int .i64 k] w fun e w'=>e=.returned (.int .u64 (u (rol x k)))∧∃ n,w'=w.drewN n:=by
 have h1:(0:Int)≤64-(k:Int):=by omega
 have h2:(64:Int)-(k:Int)≤64:=by omega
 have h3:(k:Int)≤64:=by omega
 have h4:IntKind.i64.wrap (64-(k:Int))=64-(k:Int):=IntWalk.i64_in _ (by omega)
 have h5:((64:Int)-(k:Int)).toNat=64-k:=by omega
 have s1:=shl64 x k
 have s2:=shr64 x (64-k)
 go_enter Tryz.func135,Tryz.ntmps135
 go_wp2
 go_quiet (fail)
 go_wp2
 go_ret
 refine ⟨ret_int ?_,_,rfl⟩
 rfl
theorem bit_any (t:Nat) (w:World) (ht:t≤1000) :
 Calls Tryz.prog 136 #[.int .i64 t] w fun e w'=>e=.returned (.int .u64 (u (bitL t)))∧w'=w:=by
 go_enter Tryz.func136,Tryz.ntmps136
 go_wp2
 go_loop [3,4] (fun s3 s4=>∃ (i q:Nat),i≤t∧s4=.int .i64 i∧s3=.int .i64 q∧q<256∧Hid (regTo i=q)) (fun _ s4=>t-(intOf s4).toNat)
 case atStart=>exact ⟨0,1,by omega,rfl,rfl,by decide,rfl⟩
 case round =>
  obtain ⟨i,q,hi,rfl,rfl,hq,HE⟩:=hrel
  by_cases hlt:i<t
  ·have a2:=rc_xor q hq
   rw[Int.mul_comm] at a2
   have hlt2:=rcReg_lt q hq
   have HC:Hid (regTo (i+1)=rcReg q):=by show rcReg (regTo i)=_;rw[HE.out]
   by_cases h255:255<2*q
   ·have HR:Hid (rcReg q=2*q ^^^ 369):=if_pos h255
    rw[HR.out] at hlt2
    generalize 2*q ^^^ 369=q2 at *
    go_wp2
    go_round
    case rel=>exact ⟨i+1,q2,by omega,by go_num,rfl,hlt2,by rw[HC.out,HR.out];rfl⟩
    case measure=>simp[intOf];omega
   ·have HR:Hid (rcReg q=2*q):=if_neg h255
    go_wp2
    go_round
    case rel=>exact ⟨i+1,2*q,by omega,by go_num,by go_num,by omega,by rw[HC.out,HR.out];rfl⟩
    case measure=>simp[intOf];omega
  ·have a1:=rc_and q hq
   have hit:i=t:=by omega
   subst hit
   go_wp2
   go_ret
   unfold bitL
   rw[HE.out]
   exact ⟨rfl,rfl⟩
end SP
namespace SP
open Go.RowKit Go.Sort Go.Deep
attribute [local go_sem] bits_xor64 bits_and64 bits_or64 wrap_u
theorem place_uint (j:Nat) (hj:j<7):min (IntKind.u64.wrap (IntKind.u64.wrap ((2:Int)^j)-1)).toNat 64=2^j-1:=by
 have H:∀ j:Fin 7,min (IntKind.u64.wrap (IntKind.u64.wrap ((2:Int)^j.val)-1)).toNat 64=2^j.val-1:=by decide +kernel
 exact H ⟨j,hj⟩
theorem constant_any (r:Nat) (w:World) (hr:r<24) :
 Calls Tryz.prog 107 #[.int .i64 r] w fun e w'=>e=.returned (.int .u64 (u (conL r)))∧w'=w:=by
 go_enter Tryz.func107,Tryz.ntmps107
 go_wp2
 go_loop [3,4] (fun s3 s4=>∃ (j:Nat) (c:BitVec 64),j≤7∧s4=.int .i64 j∧s3=.int .u64 (u c)∧Hid (conTo r j=c)) (fun _ s4=>7-(intOf s4).toNat)
 case atStart=>exact ⟨0,0,by omega,rfl,rfl,rfl⟩
 case round =>
  obtain ⟨j,c,hj,rfl,rfl,HE⟩:=hrel
  by_cases hlt:j<7
  ·have hj6:(j:Int)≤6:=by omega
   go_wp2_with fail
   rw[show (j:Int)+7*(r:Int)=((j+7*r:Nat):Int) from by omega]
   refine (bit_any (j+7*r) _ (by omega)).mono ?_
   rintro e w' ⟨rfl,rfl⟩
   go_wp2
   go_round
   case rel =>
    refine ⟨j+1,conTo r (j+1),by omega,by go_num,?_,rfl⟩
    rw[place_uint j hlt,shl64,bits_or64]
    show _=Value.int .u64 (u (conTo r j ||| bitL (j+7*r) <<< (2^j-1)))
    rw[HE.out]
   case measure=>simp[intOf];omega
  ·have hj6:¬ (j:Int)≤6:=by omega
   have hj7:j=7:=by omega
   subst hj7
   go_wp2
   go_ret
   unfold conL
   rw[HE.out]
   exact ⟨rfl,rfl⟩
theorem slice62:Tryz.prog.underlying 164=some (.slice 3):=by kernel_rfl
theorem info3:(Tryz.prog.info? 3).map (fun i=>(i.zero,i.size,i.bytes))=some (some (.int .i64 0),1,8):=by kernel_rfl
theorem at_int {w:World} {b off:Nat} {d:Array Nat} (h:Holds encI w b off d) (i:Nat) (hi:i<d.size) {x:Nat} (hx:d[i]! = x) :
 w.cell? ⟨b,off+i,none⟩=some (.int .i64 x)∧w.frozen? ⟨b,off+i,none⟩=false:=by
 rw[← hx];exact h i hi
theorem offs_int' (t:Nat) (h:t<24):(wrap64 ((wrap64 (((t:Int)+1)*((t:Int)+2))).tdiv 2)).tmod 64=(offs t:Int):=by
 have H:∀ j:Fin 24,(wrap64 ((wrap64 (((j.val:Int)+1)*((j.val:Int)+2))).tdiv 2)).tmod 64=(offs j.val:Int):=by decide +kernel
 exact H ⟨t,h⟩
theorem offsets_any (w:World) :
 Calls Tryz.prog 105 #[] w fun e w'=>e=.returned (.slice (some ⟨w.heap.size,0,none⟩) 25 25)∧Below w.heap.size w w'∧Holds encI w' w.heap.size 0 offsetsL:=by
 have hmk:∀ w:World,(Instr.makeSlice 164 (.int .i64 25) (.int .i64 25)).run Tryz.prog w=.ok (.slice (some ⟨w.heap.size,0,none⟩) 25 25) (w.alloc (.cells (madeCells #[.int .i64 0] 25) 3)):=
  run_make_row' (P:=Tryz.prog) 164 3 (.int .i64 0) 8 slice62 info3 rfl .i64 .i64 25 (by omega) (by omega)
 go_enter Tryz.func105,Tryz.ntmps105
 go_wp2
 generalize hW1:(w.alloc _)=W1
 go_loopg [2,3,4] 24 (fun g sx sy st wr=>∃ t T,t+g=24∧st=.int .i64 (t:Nat)∧sx=.int .i64 (T.x:Nat)∧sy=.int .i64 (T.y:Nat)∧Holds encI wr w.heap.size 0 T.o∧Only w.heap.size 0 25 W1 wr∧Hid (T=ofTo t))
 case atStart =>
  refine ⟨0,ofTo 0,rfl,rfl,rfl,rfl,?_,Only.refl _ _ _ _,rfl⟩
  rw[← hW1]
  exact Holds.made (enc:=encI) w 3 25 0
 case round =>
  obtain ⟨t,⟨x,y,o⟩,ht,rfl,rfl,rfl,hD,hO,HE⟩:=hrel
  have hok:=ofTo_ok t
  rw[← HE.out] at hok
  obtain ⟨hx,hy,hs⟩:=hok
  dsimp only at hx hy hs hD
  by_cases hlt:t<24
  ·obtain ⟨i,hi⟩:∃ i,x%5+5*(y%5)=i:=⟨_,rfl⟩
   have hib:i<25:=by omega
   obtain ⟨c,f⟩:=hD i (by omega)
   rw[Nat.zero_add] at c f
   have Hi:Hid (x%5+5*(y%5)=i):=hi
   have l24:(t:Int)<24:=by omega
   clear hi
   go_wp2_with fail
   refine (place_any (x:Int) (y:Int) i _ (by omega) (by omega) (by have:=Hi.out;omega)).mono ?_
   rintro e w' ⟨rfl,rfl⟩
   have hoff:=offs_int' t hlt
   have i25:(i:Int)<25:=by omega
   go_wp2
   go_roundg (gk-1)
   case measure=>omega
   case rel =>
    refine ⟨t+1,⟨y,(2*x+3*y)%5,o.setIfInBounds i (offs t)⟩,by omega,by go_num,rfl,by go_num,?_,?_,?_⟩
    ·have:=Holds.set hD (i:=i) (by omega) (offs t)
     rw[Nat.zero_add] at this
     exact this
    ·exact hO.setCell (o:=i) (by omega) (by omega) _
    ·show _=(Of.mk (ofTo t).y ((2*(ofTo t).x+3*(ofTo t).y)%5) ((ofTo t).o.setIfInBounds ((ofTo t).x%5+5*((ofTo t).y%5)) (offs t)))
     rw[← HE.out]
     dsimp only
     rw[Hi.out]
  ·have ht24:t=24:=by omega
   subst ht24
   go_wp2
   go_ret
   refine ⟨rfl,?_,?_⟩
   ·rw[← hW1] at hO
    exact hO.fresh
   ·unfold offsetsL
    rw[← HE.out]
    exact hD
end SP
namespace SP
open Go.RowKit Go.Sort Go.Deep
attribute [local go_sem] bits_xor64 bits_and64 bits_or64 bits_not64 wrap_u
theorem slice61:Tryz.prog.underlying 163=some (.slice 23):=by kernel_rfl
theorem info56:(Tryz.prog.info? 23).map (fun i=>(i.zero,i.size,i.bytes))=some (some (.int .u64 0),1,8):=by kernel_rfl
theorem round_any (ab tb:Nat) (a:St) (tn:Array Nat) (c:BitVec 64) (w:World) (ha:a.size=25) (ht:tn.size=25) (hA:Holds enc w ab 0 a) (hT:Holds encI w tb 0 tn) (h64:∀ i,i<25→tn[i]! < 64) :
 Calls Tryz.prog 106 #[.slice (some ⟨ab,0,none⟩) 25 25,.slice (some ⟨tb,0,none⟩) 25 25,.int .u64 (u c)] w fun e w'=>∃ r,e=.returned (.slice (some ⟨r,0,none⟩) 25 25)∧w.heap.size≤r∧Below w.heap.size w w'∧Holds enc w' r 0 (refRound a tn c):=by
 have hab:=Holds.lt hA (by omega)
 have htb:=Holds.lt hT (by omega)
 have hmk5:∀ w:World,(Instr.makeSlice 163 (.int .i64 5) (.int .i64 5)).run Tryz.prog w=.ok (.slice (some ⟨w.heap.size,0,none⟩) 5 5) (w.alloc (.cells (madeCells #[.int .u64 0] 5) 23)):=
  run_make_row' (P:=Tryz.prog) 163 23 (.int .u64 0) 8 slice61 info56 rfl .i64 .i64 5 (by omega) (by omega)
 have hmk25:∀ w:World,(Instr.makeSlice 163 (.int .i64 25) (.int .i64 25)).run Tryz.prog w=.ok (.slice (some ⟨w.heap.size,0,none⟩) 25 25) (w.alloc (.cells (madeCells #[.int .u64 0] 25) 23)):=
  run_make_row' (P:=Tryz.prog) 163 23 (.int .u64 0) 8 slice61 info56 rfl .i64 .i64 25 (by omega) (by omega)
 have HM25:Hid _:=hmk25
 clear hmk25
 go_enter Tryz.func106,Tryz.ntmps106
 go_wp2
 clear hmk5
 have hC1:Holds enc (w.alloc (.cells (madeCells #[.int .u64 0] 5) 23)) w.heap.size 0 (colTo a 0):=Holds.made (enc:=enc) w 23 5 0
 have hb1:Below w.heap.size w (w.alloc (.cells (madeCells #[.int .u64 0] 5) 23)):=(Below.refl _ _).alloc (Nat.le_refl _) _
 generalize hW1:(w.alloc _)=W1 at hC1 hb1 ⊢
 have hs1:w.heap.size<W1.heap.size:=by rw[← hW1];simp
 have hA1:=Holds.below hA hb1 hab
 have hT1:=Holds.below hT hb1 htb
 clear hW1
 go_loopg [8] 5 (fun g s8 wr=>∃ (x:Nat) (ck:St),x+g=5∧s8=.int .i64 x∧Holds enc wr w.heap.size 0 ck∧Only w.heap.size 0 5 W1 wr∧Hid (ck=colTo a x))
 case atStart=>exact ⟨0,_,rfl,rfl,hC1,Only.refl _ _ _ _,rfl⟩
 case round =>
  obtain ⟨x,ck,hx,rfl,hC,hO,HE⟩:=hrel
  have hcs:ck.size=5:=by rw[HE.out,colTo_size]
  by_cases hlt:x<5
  ·have l5:(x:Int)<5:=by omega
   go_wp2
   go_loopg [9] 5 (fun g s9 wq=>∃ (y:Nat) (cy:St),y+g=5∧s9=.int .i64 y∧Holds enc wq w.heap.size 0 cy∧Only w.heap.size 0 5 W1 wq∧Hid (cy=colIn a x ck y))
   case atStart=>exact ⟨0,ck,rfl,rfl,hC,hO,rfl⟩
   case round =>
    obtain ⟨y,cy,hy,rfl,hCy,hOy,HEy⟩:=hrel
    have hcys:cy.size=5:=by rw[HEy.out,colIn_size,hcs]
    by_cases hlty:y<5
    ·have hAy:=Holds.other hA1 hOy (by omega) (by omega)
     obtain ⟨z,hz⟩:∃ z,a[x+5*y]! = z:=⟨_,rfl⟩
     obtain ⟨v,hv⟩:∃ z,cy[x]! = z:=⟨_,rfl⟩
     obtain ⟨c0,f0⟩:=at_word hAy (x+5*y) (by omega) hz
     obtain ⟨c1,f1⟩:=at_word hCy x (by omega) hv
     rw[Nat.zero_add] at c0 c1 f1
     have HZ:Hid (a[x+5*y]! = z):=hz
     have HV:Hid (cy[x]! = v):=hv
     obtain ⟨i,hi⟩:∃ i,x+5*y=i:=⟨_,rfl⟩
     rw[hi] at c0
     have Hi:Hid (x+5*y=i):=hi
     have i25:i<25:=by omega
     have i25':(i:Int)<25:=by omega
     have y5:(y:Int)<5:=by omega
     clear hz hv hi f0
     go_wp2_with fail
     refine wp_region_still_tail 14 mixed (by kernel_rfl) ?_
     simp only[List.take_succ_cons,List.take_zero,List.drop_succ_cons,List.drop_zero]
     repeat still_step
     still_call (place_any (x:Int) (y:Int) i _ (by omega) (by omega) (by have:=Hi.out;omega))
     repeat still_step
     refine wpStill_nil ?_
     go_wp2
     go_roundg (gk-1)
     case measure=>omega
     case rel =>
      refine ⟨y+1,xorAt cy x z,by omega,by go_num,?_,?_,?_⟩
      ·have:=Holds.xor hCy (i:=x) (by omega) HV.out z
       rw[Nat.zero_add] at this
       exact Holds.drew this
      ·exact (hOy.setCell (o:=x) (by omega) (by omega) _).drew
      ·show _=xorAt (colIn a x ck y) x a[x+5*y]!
       rw[HZ.out,HEy.out]
    ·have hy5:y=5:=by omega
     subst hy5
     go_wp2
     go_roundg (4-x)
     case measure=>omega
     case rel =>
      refine ⟨x+1,cy,by omega,by go_num,hCy,hOy,?_⟩
      show _=colIn a x (colTo a x) 5
      rw[HEy.out,HE.out]
  ·have hx5:x=5:=by omega
   subst hx5
   have hb2:Below w.heap.size w wr:=hb1.trans (hO.below (by omega) (Nat.le_refl _))
   have hs2:w.heap.size<wr.heap.size:=Nat.lt_of_lt_of_le hs1 hO.size
   clear hlt hx hC1 hb1 hs1 hA1 hT1 hO
   have hmk:=HM25.out
   go_wp2
   clear hmk
   have hM3:Holds enc (wr.alloc (.cells (madeCells #[.int .u64 0] 25) 23)) wr.heap.size 0 (movTo a tn ck 0):=Holds.made (enc:=enc) wr 23 25 0
   have hb3':Below wr.heap.size wr (wr.alloc (.cells (madeCells #[.int .u64 0] 25) 23)):=(Below.refl _ _).alloc (Nat.le_refl _) _
   generalize hW3:(wr.alloc _)=W3 at hM3 hb3' ⊢
   have hs3:wr.heap.size<W3.heap.size:=by rw[← hW3];simp
   have hC3:=Holds.below hC hb3' hs2
   have hb3:=hb2.trans (hb3'.mono (by omega))
   have hA3:=Holds.below hA hb3 hab
   have hT3:=Holds.below hT hb3 htb
   clear hW3 hb3' hb2 hC
   generalize hMB:wr.heap.size=MB at *
   go_loopg [11] 5 (fun g s11 wr=>∃ (x:Nat) (mk:St),x+g=5∧s11=.int .i64 x∧Holds enc wr MB 0 mk∧Only MB 0 25 W3 wr∧Hid (mk=movTo a tn ck x))
   case atStart=>exact ⟨0,_,rfl,rfl,hM3,Only.refl _ _ _ _,rfl⟩
   case round =>
    obtain ⟨x,mk,hx,rfl,hM,hO,HEx⟩:=hrel
    have hms:mk.size=25:=by rw[HEx.out,movTo_size]
    by_cases hlt:x<5
    ·have hCw:=Holds.other hC3 hO (by omega) (by omega)
     obtain ⟨y0,hy0⟩:∃ z,ck[(x+4)%5]! = z:=⟨_,rfl⟩
     obtain ⟨y1,hy1⟩:∃ z,ck[(x+1)%5]! = z:=⟨_,rfl⟩
     obtain ⟨c0,f0⟩:=at_word hCw ((x+4)%5) (by omega) hy0
     obtain ⟨c1,f1⟩:=at_word hCw ((x+1)%5) (by omega) hy1
     rw[Nat.zero_add] at c0 c1
     have HD:Hid (dcol ck x=y0 ^^^ rol y1 1):=by rw[← hy0,← hy1];rfl
     clear hy0 hy1 f0 f1
     have l5:(x:Int)<5:=by omega
     have q1:0≤((x:Int)+4)%5:=by omega
     have q2:((x:Int)+4)%5<5:=by omega
     have q3:(((x:Int)+4)%5).toNat=(x+4)%5:=by omega
     have q4:0≤((x:Int)+1)%5:=by omega
     have q5:((x:Int)+1)%5<5:=by omega
     have q6:(((x:Int)+1)%5).toNat=(x+1)%5:=by omega
     go_wp2_with fail
     go_quiet ((go_at_call 135;exact Calls.quiet_of (left_any _ 1 _ (by decide))))
     clear c0 c1 q1 q2 q3 q4 q5 q6
     go_wp2
     have hM1:=Holds.drewN hM nq
     have hO1:=hO.drewN nq
     generalize y0 ^^^ rol y1 1=dv at *
     go_loopg [13] 5 (fun g s13 wq=>∃ (y:Nat) (my:St),y+g=5∧s13=.int .i64 y∧Holds enc wq MB 0 my∧Only MB 0 25 W3 wq∧Hid (my=movIn a tn x dv mk y))
     case atStart=>exact ⟨0,mk,rfl,rfl,hM1,hO1,rfl⟩
     case round =>
      obtain ⟨y,my,hy,rfl,hMy,hOy,HEy⟩:=hrel
      have hmys:my.size=25:=by rw[HEy.out,movIn_size,hms]
      by_cases hlty:y<5
      ·have hAy:=Holds.other hA3 hOy (by omega) (by omega)
       have hTy:=Holds.other hT3 hOy (by omega) (by omega)
       obtain ⟨z,hz⟩:∃ z,a[x+5*y]! = z:=⟨_,rfl⟩
       obtain ⟨tv,htv⟩:∃ z,tn[x+5*y]! = z:=⟨_,rfl⟩
       obtain ⟨c0,f0⟩:=at_word hAy (x+5*y) (by omega) hz
       obtain ⟨c1,f1⟩:=at_int hTy (x+5*y) (by omega) htv
       have t64:tv<64:=by rw[← htv];exact h64 _ (by omega)
       obtain ⟨i,hi⟩:∃ i,x+5*y=i:=⟨_,rfl⟩
       obtain ⟨j,hj⟩:∃ j,y%5+5*((2*x+3*y)%5)=j:=⟨_,rfl⟩
       obtain ⟨c2,f2⟩:=hMy j (by omega)
       rw[Nat.zero_add] at c0 c1 c2 f2
       rw[hi] at c0 c1
       have Hi:Hid (x+5*y=i):=hi
       have Hj:Hid (y%5+5*((2*x+3*y)%5)=j):=hj
       have HZ:Hid (a[x+5*y]! = z):=hz
       have HT:Hid (tn[x+5*y]! = tv):=htv
       have i25:i<25:=by omega
       have j25:j<25:=by omega
       have i25':(i:Int)<25:=by omega
       have j25':(j:Int)<25:=by omega
       have y5:(y:Int)<5:=by omega
       have s1:IntKind.i64.wrap (2*(x:Int))=2*(x:Int):=IntWalk.i64_in _ (by omega)
       have s2:IntKind.i64.wrap (3*(y:Int))=3*(y:Int):=IntWalk.i64_in _ (by omega)
       have s3:IntKind.i64.wrap (2*(x:Int)+3*(y:Int))=2*(x:Int)+3*(y:Int):=IntWalk.i64_in _ (by omega)
       clear hz htv hi hj f0 f1
       go_wp2_with fail
       have P1:∀ w,Hid (Calls Tryz.prog 134 #[.int .i64 y,.int .i64 (2*(x:Int)+3*(y:Int))] w fun e w'=>e=.returned (.int .i64 j)∧w'=w):=fun w=>place_any _ _ j w (by omega) (by omega) (by have:=Hj.out;omega)
       have P2:∀ w,Hid (Calls Tryz.prog 134 #[.int .i64 x,.int .i64 y] w fun e w'=>e=.returned (.int .i64 i)∧w'=w):=fun w=>place_any _ _ i w (by omega) (by omega) (by have:=Hi.out;omega)
       go_region_with (first|(go_at_call_of 134 (Value.int IntKind.i64 (x:Int));refine Calls.mono (P2 _).out ?_;rintro e w2 ⟨rfl,rfl⟩)|(go_at_call 134;refine Calls.mono (P1 _).out ?_;rintro e w2 ⟨rfl,rfl⟩)|(go_at_call 135;refine (left_any (z ^^^ dv) tv _ t64).mono ?_;rintro e w2 ⟨rfl,n2,rfl⟩))
       all_goals
        go_wp2
        go_roundg (gk-1)
        case measure=>omega
        case rel =>
         refine ⟨y+1,my.setIfInBounds j (rol (z ^^^ dv) tv),by omega,by go_num,?_,?_,?_⟩
         ·have:=Holds.set (Holds.drewN hMy (1+n2)) (i:=j) (by omega) (rol (z ^^^ dv) tv)
          rw[Nat.zero_add] at this
          exact this
         ·exact (hOy.drewN (1+n2)).setCell (o:=j) (by omega) (by omega) _
         ·show _=(movIn a tn x dv mk y).setIfInBounds (y%5+5*((2*x+3*y)%5)) (rol (a[x+5*y]! ^^^ dv) tn[x+5*y]!)
          rw[HZ.out,HT.out,Hj.out,HEy.out]
      ·have hy5:y=5:=by omega
       subst hy5
       go_wp2
       go_roundg (4-x)
       case measure=>omega
       case rel =>
        refine ⟨x+1,my,by omega,by go_num,hMy,hOy,?_⟩
        show _=movIn a tn x (dcol ck x) (movTo a tn ck x) 5
        rw[HEy.out,HEx.out,HD.out]
    ·have hx5:x=5:=by omega
     subst hx5
     have hb4:Below w.heap.size w wr:=hb3.trans (hO.below (by omega) (by omega))
     have hs4:MB<wr.heap.size:=Nat.lt_of_lt_of_le hs3 hO.size
     clear hlt hx hb3 hs3 hA3 hT3 hC3 hM3 hO
     have hmk:=HM25.out
     go_wp2
     clear hmk
     have hU5:Holds enc (wr.alloc (.cells (madeCells #[.int .u64 0] 25) 23)) wr.heap.size 0 (outTo mk 0):=Holds.made (enc:=enc) wr 23 25 0
     have hb5':Below wr.heap.size wr (wr.alloc (.cells (madeCells #[.int .u64 0] 25) 23)):=(Below.refl _ _).alloc (Nat.le_refl _) _
     generalize hW5:(wr.alloc _)=W5 at hU5 hb5' ⊢
     have hs5:wr.heap.size<W5.heap.size:=by rw[← hW5];simp
     have hM5:=Holds.below hM hb5' hs4
     have hb5:=hb4.trans (hb5'.mono (by omega))
     clear hW5 hb5' hb4 hM
     generalize hOB:wr.heap.size=OB at *
     go_loopg [15] 5 (fun g s15 wr=>∃ (x:Nat) (ok:St),x+g=5∧s15=.int .i64 x∧Holds enc wr OB 0 ok∧Only OB 0 25 W5 wr∧Hid (ok=outTo mk x))
     case atStart=>exact ⟨0,_,rfl,rfl,hU5,Only.refl _ _ _ _,rfl⟩
     case round =>
      obtain ⟨x,ok,hx,rfl,hU,hO,HEu⟩:=hrel
      have hus:ok.size=25:=by rw[HEu.out,outTo_size]
      by_cases hlt:x<5
      ·have l5:(x:Int)<5:=by omega
       go_wp2
       go_loopg [16] 5 (fun g s16 wq=>∃ (y:Nat) (oy:St),y+g=5∧s16=.int .i64 y∧Holds enc wq OB 0 oy∧Only OB 0 25 W5 wq∧Hid (oy=outIn mk x ok y))
       case atStart=>exact ⟨0,ok,rfl,rfl,hU,hO,rfl⟩
       case round =>
        obtain ⟨y,oy,hy,rfl,hUy,hOy,HEy⟩:=hrel
        have hoys:oy.size=25:=by rw[HEy.out,outIn_size,hus]
        by_cases hlty:y<5
        ·have hMy:=Holds.other hM5 hOy (by omega) (by omega)
         obtain ⟨i0,hi0⟩:∃ i,x+5*y=i:=⟨_,rfl⟩
         obtain ⟨i1,hi1⟩:∃ i,(x+1)%5+5*y=i:=⟨_,rfl⟩
         obtain ⟨i2,hi2⟩:∃ i,(x+2)%5+5*y=i:=⟨_,rfl⟩
         obtain ⟨z0,hz0⟩:∃ z,mk[i0]! = z:=⟨_,rfl⟩
         obtain ⟨z1,hz1⟩:∃ z,mk[i1]! = z:=⟨_,rfl⟩
         obtain ⟨z2,hz2⟩:∃ z,mk[i2]! = z:=⟨_,rfl⟩
         obtain ⟨c0,f0⟩:=at_word hMy i0 (by omega) hz0
         obtain ⟨c1,f1⟩:=at_word hMy i1 (by omega) hz1
         obtain ⟨c2,f2⟩:=at_word hMy i2 (by omega) hz2
         obtain ⟨c3,f3⟩:=hUy i0 (by omega)
         rw[Nat.zero_add] at c0 c1 c2 c3 f3
         have H0:Hid (x+5*y=i0):=hi0
         have H1:Hid ((x+1)%5+5*y=i1):=hi1
         have H2:Hid ((x+2)%5+5*y=i2):=hi2
         have HV:Hid (mk[x+5*y]! ^^^ (~~~mk[(x+1)%5+5*y]! &&& mk[(x+2)%5+5*y]!)=z0 ^^^ (~~~z1 &&& z2)):=by
          show _=_
          rw[hi0,hi1,hi2,hz0,hz1,hz2]
         have b0:i0<25:=by omega
         have b0':(i0:Int)<25:=by omega
         have b1':(i1:Int)<25:=by omega
         have b2':(i2:Int)<25:=by omega
         have y5:(y:Int)<5:=by omega
         have s1:IntKind.i64.wrap ((x:Int)+1)=(x:Int)+1:=IntWalk.i64_in _ (by omega)
         have s2:IntKind.i64.wrap ((x:Int)+2)=(x:Int)+2:=IntWalk.i64_in _ (by omega)
         clear hz0 hz1 hz2 hi0 hi1 hi2 f0 f1 f2
         go_wp2_with fail
         refine wp_region_still_tail 28 mixed (by kernel_rfl) ?_
         simp only[List.take_succ_cons,List.take_zero,List.drop_succ_cons,List.drop_zero]
         repeat still_step
         still_call (place_any (x:Int) (y:Int) i0 _ (by omega) (by omega) (by have:=H0.out;omega))
         repeat still_step
         still_call (place_any (x:Int) (y:Int) i0 _ (by omega) (by omega) (by have:=H0.out;omega))
         repeat still_step
         still_call (place_any ((x:Int)+1) (y:Int) i1 _ (by omega) (by omega) (by have:=H1.out;omega))
         repeat still_step
         still_call (place_any ((x:Int)+2) (y:Int) i2 _ (by omega) (by omega) (by have:=H2.out;omega))
         repeat still_step
         refine wpStill_nil ?_
         go_wp2
         go_roundg (gk-1)
         case measure=>omega
         case rel =>
          refine ⟨y+1,oy.setIfInBounds i0 (z0 ^^^ (~~~z1 &&& z2)),by omega,by go_num,?_,?_,?_⟩
          ·have:=Holds.set hUy (i:=i0) (by omega) (z0 ^^^ (~~~z1 &&& z2))
           rw[Nat.zero_add] at this
           exact Holds.drew this
          ·exact (hOy.setCell (o:=i0) (by omega) (by omega) _).drew
          ·show _=(outIn mk x ok y).setIfInBounds (x+5*y) (mk[x+5*y]! ^^^ (~~~mk[(x+1)%5+5*y]! &&& mk[(x+2)%5+5*y]!))
           rw[HV.out,H0.out,HEy.out]
        ·have hy5:y=5:=by omega
         subst hy5
         go_wp2
         go_roundg (4-x)
         case measure=>omega
         case rel =>
          refine ⟨x+1,oy,by omega,by go_num,hUy,hOy,?_⟩
          show _=outIn mk x (outTo mk x) 5
          rw[HEy.out,HEu.out]
      ·have hx5:x=5:=by omega
       subst hx5
       obtain ⟨z,hz⟩:∃ z,ok[0]! = z:=⟨_,rfl⟩
       obtain ⟨c0,f0⟩:=at_word hU 0 (by omega) hz
       rw[Nat.zero_add] at c0 f0
       have HZ:Hid (ok[0]! = z):=hz
       clear hz
       go_wp2
       go_ret
       refine ⟨OB,rfl,by omega,?_,?_⟩
       ·exact (hb5.trans (hO.below (by omega) (by omega))).setCell (p:=⟨OB,0,none⟩) (by show _≤OB;omega) _
       ·have e:refRound a tn c=xorAt ok 0 c:=by unfold refRound;rw[HEu.out,HEx.out,HE.out]
        rw[e]
        exact Holds.xor (i:=0) hU (by omega) HZ.out c
end SP
namespace SP
open Go.RowKit Go.Sort Go.Deep
attribute [local go_sem] bits_xor64 bits_and64 bits_or64 bits_not64 wrap_u wrap_ub low_u
theorem refPermute_any (s:ByteArray) (w:World) (hs:s.size=200) :
 Calls Tryz.prog 84 #[.string s] w fun e w'=>e=.returned (.string ⟨permB s.data⟩)∧Below w.heap.size w w':=by
 have hmk25:∀ w:World,(Instr.makeSlice 163 (.int .i64 25) (.int .i64 25)).run Tryz.prog w=.ok (.slice (some ⟨w.heap.size,0,none⟩) 25 25) (w.alloc (.cells (madeCells #[.int .u64 0] 25) 23)):=
  run_make_row' (P:=Tryz.prog) 163 23 (.int .u64 0) 8 slice61 info56 rfl .i64 .i64 25 (by omega) (by omega)
 have hmk200:∀ w:World,(Instr.makeSlice 24 (.int .i64 200) (.int .i64 200)).run Tryz.prog w=.ok (.slice (some ⟨w.heap.size,0,none⟩) 200 200) (w.alloc (.cells (madeCells #[.int .u8 0] 200) 5)):=
  run_make_row' (P:=Tryz.prog) 24 5 (.int .u8 0) 1 slice22 info5 rfl .i64 .i64 200 (by omega) (by omega)
 have HM200:Hid _:=hmk200
 clear hmk200
 go_enter Tryz.func84,Tryz.ntmps84
 go_wp2
 clear hmk25
 have hA1:Holds enc (w.alloc (.cells (madeCells #[.int .u64 0] 25) 23)) w.heap.size 0 (orTo s.data 0):=Holds.made (enc:=enc) w 23 25 0
 have hb1:Below w.heap.size w (w.alloc (.cells (madeCells #[.int .u64 0] 25) 23)):=(Below.refl _ _).alloc (Nat.le_refl _) _
 generalize hW1:(w.alloc _)=W1 at hA1 hb1 ⊢
 have hs1:w.heap.size<W1.heap.size:=by rw[← hW1];simp
 clear hW1
 go_loopg [4] 200 (fun g s4 wr=>∃ (i:Nat) (dk:St),i+g=200∧s4=.int .i64 i∧Holds enc wr w.heap.size 0 dk∧Only w.heap.size 0 25 W1 wr∧Hid (dk=orTo s.data i))
 case atStart=>exact ⟨0,_,rfl,rfl,hA1,Only.refl _ _ _ _,rfl⟩
 case round =>
  obtain ⟨i,dk,hi,rfl,hD,hO,HE⟩:=hrel
  have hds:dk.size=25:=by rw[HE.out,orTo_size]
  by_cases hlt:i<200
  ·obtain ⟨x,hx⟩:∃ x,dk[i/8]! = x:=⟨_,rfl⟩
   obtain ⟨c0,f0⟩:=at_word hD (i/8) (by omega) hx
   rw[Nat.zero_add] at c0 f0
   have HX:Hid (dk[i/8]! = x):=hx
   clear hx
   have l200:(i:Int)<200:=by omega
   have p0:0≤(i:Int)/8:=by omega
   have p1:(i:Int)/8<25:=by omega
   have p2:((i:Int)/8).toNat=i/8:=by omega
   have s1:IntKind.i64.wrap ((i:Int)/8)=(i:Int)/8:=IntWalk.i64_in _ (by omega)
   have s2:IntKind.i64.wrap (8*((i:Int)%8))=8*((i:Int)%8):=IntWalk.i64_in _ (by omega)
   have s3:0≤8*((i:Int)%8):=by omega
   have s4:8*((i:Int)%8)≤64:=by omega
   have s5:(8*((i:Int)%8)).toNat=8*(i%8):=by omega
   have his:(i:Int)<(s.size:Int):=by omega
   have his':i<s.size:=by omega
   have tm:(i:Int).tmod 8=(i:Int)%8:=Int.tmod_eq_emod_of_nonneg (by omega)
   obtain ⟨y,hy⟩:∃ y,wide s.data[i]! = y:=⟨_,rfl⟩
   have hsb:IntKind.u64.wrap (s[i].toNat:Int)=u y:=by
    have e:s.data[i]! = s[i]:=getElem!_pos s.data i his'
    rw[← hy,e]
    exact wrap_ub s[i]
   have HY:Hid (wide s.data[i]! = y):=hy
   clear hy
   have sh:=shl64 y (8*(i%8))
   go_wp2_with fail
   go_still_tail 18,mixed
   go_wp2
   go_roundg (gk-1)
   case measure=>omega
   case rel =>
    refine ⟨i+1,dk.setIfInBounds (i/8) (x ||| y <<< (8*(i%8))),by omega,by go_num,?_,?_,?_⟩
    ·have:=Holds.set hD (i:=i/8) (by omega) (x ||| y <<< (8*(i%8)))
     rw[Nat.zero_add] at this
     exact Holds.drew this
    ·exact (hO.setCell (o:=i/8) (by omega) (by omega) _).drew
    ·show _=(orTo s.data i).setIfInBounds (i/8) ((orTo s.data i)[i/8]! ||| wide s.data[i]! <<< (8*(i%8)))
     rw[HY.out,← HE.out,HX.out]
  ·have hi200:i=200:=by omega
   subst hi200
   have hb2:Below w.heap.size w wr:=hb1.trans (hO.below (by omega) (Nat.le_refl _))
   have hs2:w.heap.size<wr.heap.size:=Nat.lt_of_lt_of_le hs1 hO.size
   clear hlt hi hA1 hb1 hs1 hO
   go_wp2_with fail
   refine (offsets_any _).mono ?_
   rintro e w3 ⟨rfl,hb3,hT⟩
   have hD3:=Holds.below hD hb3 hs2
   have hb4:=hb2.trans (hb3.mono (by omega))
   have hs3:wr.heap.size<w3.heap.size:=Holds.lt hT (by rw[offsets_size];omega)
   generalize hTB:wr.heap.size=TB at *
   clear hb2 hb3 hD
   go_wp2
   go_loopg [3,6] 24 (fun g s3 s6 wr=>∃ (k ab:Nat) (dk:St),k+g=24∧s6=.int .i64 k∧s3=.slice (some ⟨ab,0,none⟩) 25 25∧Holds enc wr ab 0 dk∧w.heap.size≤ab∧Holds encI wr TB 0 offsetsL∧Below w.heap.size w wr∧Hid (dk=refTo (orTo s.data 200) k))
   case atStart=>exact ⟨0,w.heap.size,dk,rfl,rfl,rfl,hD3,Nat.le_refl _,hT,hb4,HE⟩
   case round =>
    clear hT hb4 hD3 HE hds dk
    obtain ⟨k,ab,dk,hk,rfl,rfl,hD,hab,hT,hb,HE⟩:=hrel
    have hds:dk.size=25:=by
     rw[HE.out]
     cases k with
     | zero=>exact orTo_size _ _
     | succ k=>exact refRound_size _ _ _
    by_cases hlt:k<24
    ·have l24:(k:Int)<24:=by omega
     go_wp2_with fail
     refine (constant_any k _ hlt).mono ?_
     rintro e w4 ⟨rfl,rfl⟩
     go_wp2_with fail
     refine (round_any ab TB dk offsetsL (conL k) _ hds offsets_size hD hT offsets_lt).mono ?_
     rintro e w5 ⟨r,rfl,hr,hb5,hR⟩
     have hTl:=Holds.lt hT (by rw[offsets_size];omega)
     have hsz:=hb.size
     go_wp2
     go_roundg (gk-1)
     case measure=>omega
     case rel =>
      refine ⟨k+1,r,refRound dk offsetsL (conL k),by omega,by go_num,rfl,hR,by omega,Holds.below hT hb5 hTl,hb.trans (hb5.mono (by omega)),?_⟩
      rw[HE.out];rfl
    ·have hk24:k=24:=by omega
     subst hk24
     have hmk:=HM200.out
     go_wp2
     clear hmk
     have hsz:=hb.size
     have hal:=Holds.lt hD (by omega)
     have hF1:Holds encB (wr.alloc (.cells (madeCells #[.int .u8 0] 200) 5)) wr.heap.size 0 (frontTo dk 200 0):=Holds.made (enc:=encB) wr 5 200 0
     have hb6:Below wr.heap.size wr (wr.alloc (.cells (madeCells #[.int .u8 0] 200) 5)):=(Below.refl _ _).alloc (Nat.le_refl _) _
     generalize hW6:(wr.alloc _)=W6 at hF1 hb6 ⊢
     have hs6:wr.heap.size<W6.heap.size:=by rw[← hW6];simp
     have hD6:=Holds.below hD hb6 hal
     have hb7:=hb.trans (hb6.mono hsz)
     clear hW6 hb6 hb hD hT
     generalize hFB:wr.heap.size=FB at *
     go_loopg [8] 200 (fun g s8 wr=>∃ (i:Nat) (bs:Bs),i+g=200∧s8=.int .i64 i∧Holds encB wr FB 0 bs∧Only FB 0 200 W6 wr∧Hid (bs=frontTo dk 200 i))
     case atStart=>exact ⟨0,_,rfl,rfl,hF1,Only.refl _ _ _ _,rfl⟩
     case round =>
      obtain ⟨i,bs,hi,rfl,hB,hO,HEb⟩:=hrel
      have hbs:bs.size=200:=by rw[HEb.out,frontTo_size]
      by_cases hlt:i<200
      ·have hDw:=Holds.other hD6 hO (by omega) (by omega)
       obtain ⟨x,hx⟩:∃ x,dk[i/8]! = x:=⟨_,rfl⟩
       obtain ⟨c0,f0⟩:=at_word hDw (i/8) (by omega) hx
       obtain ⟨c1,f1⟩:=hB i (by omega)
       rw[Nat.zero_add] at c0 c1 f1
       have HX:Hid (byteOf dk i=low (x >>> (8*(i%8)))):=by show low _=_;rw[hx]
       clear hx f0
       have p1:(i:Int)/8<25:=by omega
       have l200:(i:Int)<200:=by omega
       have hsr:=shr64 x (8*(i%8))
       go_wp2
       go_roundg (gk-1)
       case measure=>omega
       case rel =>
        refine ⟨i+1,bs.setIfInBounds i (low (x >>> (8*(i%8)))),by omega,by go_num,?_,?_,?_⟩
        ·have:=Holds.set hB (i:=i) (by omega) (low (x >>> (8*(i%8))))
         rw[Nat.zero_add] at this
         exact this
        ·exact hO.setCell (o:=i) (by omega) (by omega) _
        ·show _=(frontTo dk 200 i).setIfInBounds i (byteOf dk i)
         rw[HX.out,HEb.out]
      ·have hi200:i=200:=by omega
       subst hi200
       have kc:=conv_str Tryz.prog 24 9 5 slice22 int5 str9 wr FB 0 200 200 bs hB hbs
       go_wp2
       go_ret
       have e1:bs=permB s.data:=by rw[HEb.out,HE.out];exact ref_permB s.data
       rw[e1]
       exact ⟨rfl,hb7.trans (hO.below (by omega) (by omega))⟩
end SP
namespace SP
open Go.RowKit Go.Sort Go.Deep
attribute [local go_sem] bits_xor8
theorem holds_one (w:World) (x:UInt8):Holds encB (w.alloc (.cells #[.int .u8 (ub x)] 5)) w.heap.size 0 #[x]:=by
 have h:=Holds.new (enc:=encB) w 5 #[x]
 have e:Array.map encB #[x]=#[.int .u8 (ub x)]:=by simp[encB]
 rw[e] at h
 exact h
def padT (l:List UInt8) (e:UInt8) (k:Nat):List UInt8:=l++e :: List.replicate k 0
theorem padT_length (l:List UInt8) (e:UInt8) (k:Nat):(padT l e k).length=l.length+1+k:=by
 unfold padT
 rw[List.length_append,List.length_cons,List.length_replicate]
 omega
theorem padT_next (l:List UInt8) (e:UInt8) (k:Nat):padT l e k++[0]=padT l e (k+1):=by
 unfold padT
 rw[List.append_assoc,List.cons_append,List.replicate_succ']
theorem padT_total (l:List UInt8) (e:UInt8):(padT l e (135-l.length%136)).set (l.length+(135-l.length%136)) ((padT l e (135-l.length%136))[l.length+(135-l.length%136)]! ^^^ 128)=total l e:=by
 unfold padT total tailpad
 rw[List.set_append_right _ _ (by omega),Nat.add_sub_cancel_left,list_app_back _ _ _ (by omega) (by rw[List.length_cons,List.length_replicate];omega),Nat.add_sub_cancel_left]
theorem list_set_at (l:List UInt8) (i j:Nat) (x:UInt8) (hj:j<l.length):(l.set i x)[j]! = if i=j then x else l[j]!:=by
 rw[getElem!_pos (l.set i x) j (by rw[List.length_set];exact hj),List.getElem_set,getElem!_pos l j hj]
theorem total_at (l:List UInt8) (e:UInt8) (cur:Bs) (L k:Nat) (hk:k=135-l.length%136) (hL:L=l.length+1+k) (hc:L≤cur.size) (hT:∀ j,j<L→cur[j]! = (padT l e k)[j]!) :
 ∀ j,j<L→(cur.setIfInBounds (L-1) (cur[L-1]! ^^^ 128))[j]! = (total l e)[j]!:=by
 intro j hj
 have hpl:=padT_length l e k
 rw[← padT_total,← hk,list_set_at _ _ _ _ (by omega),show l.length+k=L-1 by omega]
 by_cases h:j=L-1
 ·rw[if_pos h.symm,h,getElem!_set_same _ _ _ (by omega),hT _ (by omega)]
 ·rw[if_neg (by omega),getElem!_set_other _ _ _ _ h,hT _ hj]
theorem stream_bytes (o:ByteArray) (d:St) (n m:Nat) (ho:o.size=136*m) (hnm:n≤136*m) (h:∀ j,j<136*m→o.data[j]! = streamAt d j):o.extract 0 n=⟨streamL d n⟩:=by
 apply ByteArray.ext
 have hd:(o.extract 0 n).data=o.data.extract 0 n:=ByteArray.data_extract
 have hs:o.data.size=136*m:=ho
 rw[hd]
 refine bs_ext _ _ n (by rw[Array.size_extract,hs];omega) (streamL_size _ _) (fun j hj=>?_)
 have h1:j<(o.data.extract 0 n).size:=by rw[Array.size_extract,hs];omega
 have h2:j<o.data.size:=by omega
 have h3:=h j (by omega)
 rw[getElem!_pos o.data j h2] at h3
 rw[streamL_at _ _ _ hj,← h3,getElem!_pos (o.data.extract 0 n) j h1,Array.getElem_extract]
 simp only[Nat.zero_add]
theorem out_next (o:ByteArray) (d:St) (m:Nat) (p:Bs) (hp:p.size=136) (hpa:∀ j,j<136→p[j]! = byteOf (permN d m) j) (ho:o.size=136*m) (h:∀ j,j<136*m→o.data[j]! = streamAt d j) :
 (o++⟨p⟩).size=136*(m+1)∧∀ j,j<136*(m+1)→(o++(⟨p⟩:ByteArray)).data[j]! = streamAt d j:=by
 have hd:(o++(⟨p⟩:ByteArray)).data=o.data++p:=ByteArray.data_append
 have hs:o.data.size=136*m:=ho
 refine ⟨?_,fun j hj=>?_⟩
 ·show (o++(⟨p⟩:ByteArray)).data.size=_
  rw[hd,Array.size_append,hp,hs]
  omega
 ·rw[hd]
  by_cases h1:j<136*m
  ·have h2:j<o.data.size:=by omega
   have h3:=h j h1
   rw[getElem!_pos o.data j h2] at h3
   rw[app_front _ _ j h2,h3]
  ·rw[app_back _ _ j (by omega) (by omega),hs,hpa _ (by omega)]
   unfold streamAt
   rw[show j/136=m by omega,show j%136=j-136*m by omega]
theorem conv200 (w:World) (p:Bs) (h:p.size=200) :
 ∃ sc w',(convert 9 24 (.string ⟨p⟩)).run Tryz.prog w=.ok (.slice (some ⟨w.heap.size,0,none⟩) 200 sc) w'∧200≤sc∧Holds encB w' w.heap.size 0 p∧Below w.heap.size w w':=by
 obtain ⟨v,w',hcv,own,hb,hv⟩:=conv_bytes (w:=w) (B:=0) ⟨p⟩ (Nat.zero_le _)
 have hps:(ByteArray.mk p).size=200:=h
 have hpl:(ByteArray.mk p).data.toList.length=200:=by rw[Array.length_toList];exact h
 rw[hv] at hcv own
 rw[hps] at hcv own
 obtain ⟨_,_,hle,hH⟩:=own.holds
 exact ⟨_,_,hcv,by omega,by simpa using hH,hb⟩
theorem front_front (d:St):Array.size (front d 136)≤Array.size (front d 200)∧∀ j,j<(front d 136).size→(front d 136)[j]! = (front d 200)[j]!:=by
 refine ⟨by rw[front_size,front_size];omega,fun j hj=>?_⟩
 rw[front_size] at hj
 rw[front_at _ _ _ hj,front_at _ _ _ (by omega)]
theorem refSponge_any (s:ByteArray) (e:UInt8) (n:Nat) (w:World) (hs:s.size≤1048576) (hn:n≤16384) :
 Calls Tryz.prog 59 #[.string s,.int .u8 (ub e),.int .i64 n] w fun r w'=>r=.returned (.string ⟨streamL (absorb s.data.toList e) n⟩)∧Below w.heap.size w w':=by
 obtain ⟨v0,w0,hcv,own0,hb0,hv0⟩:=conv_bytes (w:=w) (B:=w.heap.size) s (Nat.le_refl _)
 rw[hv0] at hcv own0
 have hsz0:w.heap.size≤w0.heap.size:=hb0.size
 have hX:=holds_one w0 e
 have hbx:Below w0.heap.size w0 (w0.alloc (.cells #[.int .u8 (ub e)] 5)):=(Below.refl _ _).alloc (Nat.le_refl _) _
 have hl:s.data.toList.length=s.size:=Array.length_toList
 obtain ⟨v1,w1,hap,own1,hb1⟩:=append_own (c:=1) (own0.below hbx) hX (by rw[World.size_alloc];omega) (by rw[hl];simp;omega) 1 rfl
 have hbb1:Below w.heap.size w w1:=(hb0.trans (hbx.mono hsz0)).trans hb1
 have own1':Own w.heap.size w1 v1 (padT s.data.toList e 0):=own1
 clear hv0 own0 hX own1 hb1 hbx
 have hmk200:∀ w:World,(Instr.makeSlice 24 (.int .i64 200) (.int .i64 200)).run Tryz.prog w=.ok (.slice (some ⟨w.heap.size,0,none⟩) 200 200) (w.alloc (.cells (madeCells #[.int .u8 0] 200) 5)):=
  run_make_row' (P:=Tryz.prog) 24 5 (.int .u8 0) 1 slice22 info5 rfl .i64 .i64 200 (by omega) (by omega)
 have HM200:Hid _:=hmk200
 clear hmk200
 go_enter Tryz.func59,Tryz.ntmps59
 go_wp2_with (at_builtin;refine Lib.wpList_append_run _ rfl _ _ 24 24 rfl _ _ rfl rfl _ _ hap ?_)
 clear hap hcv hb0
 obtain ⟨h,hh⟩:∃ h,s.data.toList.length%136=h:=⟨_,rfl⟩
 have h136:h<136:=by rw[← hh];exact Nat.mod_lt _ (by decide)
 have Hh:Hid (s.data.toList.length%136=h):=hh
 clear hh
 go_loopg [7] (135-h) (fun g s7 wr=>∃ k,k+g=135-h∧Own w.heap.size wr s7 (padT s.data.toList e k)∧Below w.heap.size w wr)
 case atStart=>exact ⟨0,by omega,own1',hbb1⟩
 case round =>
  clear own1' hbb1
  obtain ⟨k,hk,own,hb⟩:=hrel
  have own':=own
  obtain ⟨g,cap,cur,rfl,hg,hgl,hcs,hlc,hH,hT⟩:=own'
  have hL:=padT_length s.data.toList e k
  generalize hLL:(padT s.data.toList e k).length=L at *
  have hL':L=s.size+1+k:=by rw[hL,hl]
  have HL':Hid (L=s.size+1+k):=hL'
  have hLb:L≤1048900:=by omega
  have hL0:1≤L:=by omega
  have tm:(L:Int).tmod 136=(L:Int)%136:=Int.tmod_eq_emod_of_nonneg (by omega)
  by_cases hlt:k<135-h
  ·have hb2:((L:Int)%136 != 0)=true:=by rw[bne_iff_ne];have:=Hh.out;rw[hl] at this;omega
   have hX:=holds_one wr 0
   have hbx:Below wr.heap.size wr (wr.alloc (.cells #[.int .u8 (ub 0)] 5)):=(Below.refl _ _).alloc (Nat.le_refl _) _
   obtain ⟨v2,w2,hap,own2,hbb⟩:=append_own (c:=1) (own.below hbx) hX (by rw[World.size_alloc];have:=hb.size;omega) (by rw[hLL];simp;omega) 1 rfl
   have own3:Own w.heap.size w2 v2 (padT s.data.toList e (k+1)):=by rw[← padT_next];exact own2
   have hb3:Below w.heap.size w w2:=(hb.trans (hbx.mono hb.size)).trans hbb
   clear hL hL' hLL own own2 hX hbb hbx hH hT
   go_wp2_with (at_builtin;refine Lib.wpList_append_run _ rfl _ _ 24 24 rfl _ _ rfl rfl _ _ hap ?_)
   go_roundg (gk-1)
   case measure=>omega
   case rel=>exact ⟨k+1,by omega,own3,hb3⟩
  ·have hb2:((L:Int)%136 != 0)=false:=by
    rw[bne_eq_false_iff_eq];have:=Hh.out;rw[hl] at this;omega
   have hk0:k=135-s.data.toList.length%136:=by have:=Hh.out;omega
   obtain ⟨x,hx⟩:∃ x,cur[L-1]! = x:=⟨_,rfl⟩
   obtain ⟨c0,f0⟩:=at_byte hH (L-1) (by omega) hx
   rw[Nat.zero_add] at c0 f0
   have hx80:=xor80 x
   have hTot:=total_at s.data.toList e cur L k hk0 hL (by omega) hT
   rw[hx] at hTot
   have hH2:=Holds.set hH (i:=L-1) (by omega) (x ^^^ 128)
   rw[Nat.zero_add] at hH2
   have htl:(total s.data.toList e).length=L:=by rw[total_length];omega
   have hTA:Holds encB (wr.setCell ⟨g,L-1,none⟩ (.int .u8 (ub (x ^^^ 128)))) g 0 (total s.data.toList e).toArray:=
    Holds.front hH2 (by rw[Array.size_setIfInBounds,List.size_toArray,htl];omega) (fun j hj=>by rw[list_arr_at];exact (hTot j (by simpa[htl] using hj)).symm)
   have hb4:Below w.heap.size w (wr.setCell ⟨g,L-1,none⟩ (.int .u8 (ub (x ^^^ 128)))):=hb.setCell (p:=⟨g,L-1,none⟩) hg _
   have hg4:g<(wr.setCell ⟨g,L-1,none⟩ (.int .u8 (ub (x ^^^ 128)))).heap.size:=by rw[World.size_setCell];exact hgl
   obtain ⟨M,hM⟩:∃ M,s.data.toList.length/136+1=M:=⟨_,rfl⟩
   have hLM:L=136*M:=by have:=Hh.out;omega
   have HLM:Hid (L=136*M):=hLM
   have HM:Hid (s.data.toList.length/136+1=M):=hM
   have z1:(0:Int)≤(L:Int)-1:=by omega
   have z2:(L:Int)-1<(L:Int):=by omega
   have z3:((L:Int)-1).toNat=L-1:=by omega
   have hmk:=HM200.out
   clear hM hLM hTot hH2 hH hT hx hL hL' hLL own hk0
   go_wp2
   clear hmk c0 f0 hb2 tm hx80
   have hW2:(wr.setCell ⟨g,L-1,none⟩ (.int .u8 (ub (x ^^^ 128)))).heap.size=wr.heap.size:=by rw[World.size_setCell]
   generalize wr.setCell ⟨g,L-1,none⟩ (.int .u8 (ub (x ^^^ 128)))=W2 at hTA hb4 hg4 hW2 ⊢
   have hS0:Holds encB (W2.alloc (.cells (madeCells #[.int .u8 0] 200) 5)) W2.heap.size 0 (refSt (total s.data.toList e) 0):=Holds.made (enc:=encB) W2 5 200 0
   have hb5':Below W2.heap.size W2 (W2.alloc (.cells (madeCells #[.int .u8 0] 200) 5)):=(Below.refl _ _).alloc (Nat.le_refl _) _
   have hs5:W2.heap.size<(W2.alloc (.cells (madeCells #[.int .u8 0] 200) 5)).heap.size:=by simp
   have hTA5:=Holds.below hTA hb5' hg4
   have hb5:=hb4.trans (hb5'.mono hb4.size)
   have hz4:=hb4.size
   rw[hW2] at hS0 hs5 hg4 hz4
   generalize hSG:wr.heap.size=SG at *
   generalize (W2.alloc _)=W3 at hS0 hb5 hs5 hTA5 ⊢
   clear hTA hb4 hb5' hSG hW2
   go_loopg [8,9] M (fun g2 s8 s9 wr=>∃ (i sg sc:Nat),i+g2=M∧s9=.int .i64 ((136*i:Nat):Int)∧s8=.slice (some ⟨sg,0,none⟩) 200 sc∧200≤sc∧w.heap.size≤sg∧sg≠g∧Holds encB wr sg 0 (refSt (total s.data.toList e) i)∧Holds encB wr g 0 (total s.data.toList e).toArray∧Below w.heap.size w wr)
   case atStart=>exact ⟨0,SG,200,by omega,rfl,rfl,Nat.le_refl _,by omega,by omega,hS0,hTA5,hb5⟩
   case round =>
    clear hS0 hTA5 hb5 hs5
    obtain ⟨i,sg,sc,hi,rfl,rfl,hsc,hsg,hne,hS,hTA,hb⟩:=hrel
    have hrs:(refSt (total s.data.toList e) i).size=200:=by
     cases i with
     | zero=>rw[refSt,Array.size_replicate]
     | succ i=>rw[refSt,permB,front_size]
    have hgz:g<wr.heap.size:=Holds.lt hTA (by rw[List.size_toArray,htl];omega)
    by_cases hlt:i<M
    ·have hlt':((136*i:Nat):Int)<(L:Int):=by have:=HLM.out;omega
     have hii:136*i+136≤L:=by have:=HLM.out;omega
     generalize hI:136*i=I at *
     have HI:Hid (136*i=I):=hI
     clear hI
     go_wp2
     have hD0:Holds encB wr sg 0 (xorB (refSt (total s.data.toList e) i) (total s.data.toList e) I 0):=hS
     generalize hR:refSt (total s.data.toList e) i=R at *
     have HR:Hid (R=refSt (total s.data.toList e) i):=hR.symm
     clear hR
     go_loopg [10] 136 (fun g3 s10 wq=>∃ (k:Nat) (st:Bs),k+g3=136∧s10=.int .i64 k∧Holds encB wq sg 0 st∧Only sg 0 200 wr wq∧Hid (st=xorB R (total s.data.toList e) I k))
     case atStart=>exact ⟨0,_,rfl,rfl,hD0,Only.refl _ _ _ _,rfl⟩
     case round =>
      clear hD0
      obtain ⟨k,st,hk,rfl,hSt,hO,HE⟩:=hrel
      have hsts:st.size=200:=by rw[HE.out,xorB_size];exact hrs
      have hTq:=Holds.other hTA hO (Ne.symm hne) (by rw[List.size_toArray,htl];omega)
      by_cases hltk:k<136
      ·obtain ⟨y,hy⟩:∃ y,(total s.data.toList e)[I+k]! = y:=⟨_,rfl⟩
       obtain ⟨c0,f0⟩:=at_byte (x:=y) hTq (I+k) (by rw[List.size_toArray,htl];omega) (by rw[list_arr_at];exact hy)
       obtain ⟨z,hz⟩:∃ z,st[k]! = z:=⟨_,rfl⟩
       obtain ⟨c1,f1⟩:=at_byte hSt k (by omega) hz
       rw[Nat.zero_add] at c0 c1 f1
       have HY:Hid ((total s.data.toList e)[I+k]! = y):=hy
       have HZ:Hid (st[k]! = z):=hz
       have k136:(k:Int)<136:=by omega
       have k200:(k:Int)<200:=by omega
       have ik0:(0:Int)≤(I:Int)+(k:Int):=by omega
       have ik1:(I:Int)+(k:Int)<(L:Int):=by omega
       have ik2:((I:Int)+(k:Int)).toNat=I+k:=by omega
       have ik3:IntKind.i64.wrap ((I:Int)+(k:Int))=(I:Int)+(k:Int):=IntWalk.i64_in _ (by omega)
       clear hy hz f0 hTq
       go_wp2_with fail
       go_still_tail 14,mixed
       go_wp2
       go_roundg (gk-1)
       case measure=>omega
       case rel =>
        refine ⟨k+1,st.setIfInBounds k (z ^^^ y),by omega,by go_num,?_,?_,?_⟩
        ·have:=Holds.set hSt (i:=k) (by omega) (z ^^^ y)
         rw[Nat.zero_add] at this
         exact Holds.drew this
        ·exact (hO.setCell (o:=k) (by omega) (by omega) _).drew
        ·show _=(xorB R (total s.data.toList e) I k).setIfInBounds k ((xorB R (total s.data.toList e) I k)[k]! ^^^ (total s.data.toList e)[I+k]!)
         rw[← HE.out,HZ.out,HY.out]
      ·have hk136:k=136:=by omega
       subst hk136
       have hgz2:=Holds.lt hSt (by omega)
       have kc:=conv_str Tryz.prog 24 9 5 slice22 int5 str9 _ sg 0 200 sc st hSt hsts
       have hbq:=hb.trans (hO.below hb.size hsg)
       obtain ⟨PB,hPB⟩:∃ x,permB st=x:=⟨_,rfl⟩
       have hps:PB.size=200:=by rw[← hPB,permB,front_size]
       have HE2:Hid (PB=refSt (total s.data.toList e) (i+1)):=by
        show PB=permB (xorB (refSt (total s.data.toList e) i) (total s.data.toList e) (136*i) 136)
        rw[← HR.out,HI.out,← HE.out,hPB]
       have HPB:Hid (PB=permB st):=hPB.symm
       clear hPB HE
       go_wp2_with fail
       refine (refPermute_any ⟨st⟩ _ hsts).mono ?_
       rintro r w5 ⟨rfl,hb5⟩
       have e5:(ByteArray.mk (permB (ByteArray.mk st).data))=ByteArray.mk PB:=congrArg ByteArray.mk HPB.out.symm
       rw[e5]
       clear e5
       obtain ⟨sc6,w6,hcv6,hle6,hH6,hb6⟩:=conv200 w5 PB hps
       have hgq:=Holds.lt hTq (by rw[List.size_toArray,htl];omega)
       have hg5:g<w5.heap.size:=Nat.lt_of_lt_of_le hgq hb5.size
       have hT6:=Holds.below (Holds.below hTq hb5 hgq) hb6 hg5
       have hb8:Below w.heap.size w w6:=(hbq.trans (hb5.mono hbq.size)).trans (hb6.mono (by have:=hb5.size;have:=hbq.size;omega))
       rw[HE2.out] at hH6
       have hz5:w.heap.size≤w5.heap.size:=by have:=hb5.size;have:=hbq.size;omega
       go_wp2
       go_roundg (M-(i+1))
       case measure=>omega
       case rel=>exact ⟨i+1,w5.heap.size,sc6,by omega,by rw[← HI.out];go_num,rfl,hle6,hz5,by omega,hH6,hT6,hb8⟩
    ·have hiM:i=M:=by omega
     have hge:(L:Int)≤((136*i:Nat):Int):=by have:=HLM.out;omega
     obtain ⟨d,hd⟩:∃ d,absorb s.data.toList e=d:=⟨_,rfl⟩
     obtain ⟨F,hF⟩:∃ F,front (permN d 0) 200=F:=⟨_,rfl⟩
     have hSf:Holds encB wr sg 0 F:=by
      have:=refSt_total s.data.toList e
      rw[HM.out,← hiM,hd] at this
      rw[this] at hS
      rw[← hF,permN]
      exact hS
     have hab:d.size=25:=by rw[← hd];exact absorb_size s.data.toList e
     have HDD:Hid (d=absorb s.data.toList e):=hd.symm
     have HFF:Hid (F=front (permN d 0) 200):=hF.symm
     clear hS hrs hTA hgz hiM hlt hi hd hF
     generalize hI:136*i=I at *
     clear hI
     have hdec:decide ((I:Int)<(L:Int))=false:=decide_eq_false (by omega)
     have hdec2:decide (I<L)=false:=decide_eq_false (by omega)
     go_wp2
     go_loopg [8,11] (n+136) (fun g4 s8 s11 wq=>∃ (m sg sc:Nat) (o:ByteArray) (Fm:Bs),136*m+g4=n+136∧1≤g4∧s11=.string o∧o.size=136*m∧s8=.slice (some ⟨sg,0,none⟩) 200 sc∧200≤sc∧Holds encB wq sg 0 Fm∧Fm.size=200∧Below w.heap.size w wq∧Hid (Fm=front (permN d m) 200)∧Hid (∀ j,j<136*m→o.data[j]! = streamAt d j))
     case atStart=>exact ⟨0,sg,sc,ByteArray.empty,F,by omega,by omega,rfl,rfl,rfl,hsc,hSf,by rw[HFF.out,front_size],hb,HFF,fun j hj=>by omega⟩
     case round =>
      clear hSf HFF hsc
      obtain ⟨m,sg,sc,o,Fm,hg4,hg41,rfl,ho,rfl,hsc,hF,hFs,hb,HF,HO⟩:=hrel
      have Ho:Hid (o.size=136*m):=ho
      have hob:o.size≤n+136:=by omega
      by_cases hlt:o.size<n
      ·have hlt':(o.size:Int)<(n:Int):=by omega
       obtain ⟨Q,hQ⟩:∃ Q,front (permN d m) 136=Q:=⟨_,rfl⟩
       have hQs:Q.size=136:=by rw[← hQ,front_size]
       have hQa:∀ j,j<136→Q[j]! = byteOf (permN d m) j:=fun j hj=>by rw[← hQ,front_at _ _ _ hj]
       have hHQ:Holds encB wr sg 0 Q:=by
        have h1:=front_front (permN d m)
        rw[← HF.out,hQ] at h1
        exact Holds.front hF h1.1 h1.2
       have hnx:=out_next o d m Q hQs hQa ho HO
       have HNX:Hid ((o++⟨Q⟩).size=136*(m+1)∧∀ j,j<136*(m+1)→(o++(⟨Q⟩:ByteArray)).data[j]! = streamAt d j):=hnx
       obtain ⟨PB,hPB⟩:∃ x,permB Fm=x:=⟨_,rfl⟩
       have hps:PB.size=200:=by rw[← hPB,permB,front_size]
       have HN:Hid (PB=front (permN d (m+1)) 200):=by
        show PB=front (perm (permN d m)) 200
        rw[← hPB,HF.out,permB_front _ (permN_size d hab m)]
       have HPB:Hid (PB=permB Fm):=hPB.symm
       have kc1:=conv_str Tryz.prog 24 9 5 slice22 int5 str9 wr sg 0 136 sc Q hHQ hQs
       have kc2:=conv_str Tryz.prog 24 9 5 slice22 int5 str9 wr sg 0 200 sc Fm hF hFs
       have hsc0:(sc=0)=False:=eq_false (by omega)
       have hsc1:(136:Int)≤(sc:Int):=by omega
       clear hQ hQa hHQ hnx hPB HO ho
       go_wp2_with fail
       refine (refPermute_any ⟨Fm⟩ _ hFs).mono ?_
       rintro r w5 ⟨rfl,hb5⟩
       have e5:(ByteArray.mk (permB (ByteArray.mk Fm).data))=ByteArray.mk PB:=congrArg ByteArray.mk HPB.out.symm
       rw[e5]
       clear e5
       obtain ⟨sc6,w6,hcv6,hle6,hH6,hb6⟩:=conv200 w5 PB hps
       have hb8:Below w.heap.size w w6:=(hb.trans (hb5.mono hb.size)).trans (hb6.mono (by have:=hb5.size;have:=hb.size;omega))
       go_wp2
       go_roundg (gk-136)
       case measure=>have:=Ho.out;omega
       case rel=>exact ⟨m+1,w5.heap.size,sc6,o++(ByteArray.mk Q),PB,by have:=Ho.out;omega,by have:=Ho.out;omega,rfl,HNX.out.1,rfl,hle6,hH6,hps,hb8,HN,HNX.out.2⟩
      ·have hge:(n:Int)≤(o.size:Int):=by omega
       have hex:=stream_bytes o d n m ho (by omega) HO
       have HEX:Hid (o.extract 0 n=⟨streamL d n⟩):=hex
       clear hex ho HO
       go_wp2
       go_ret
       rw[← HDD.out,← HEX.out]
       exact ⟨rfl,hb⟩
end SP
namespace SP
open Go.RowKit Go.Sort Go.Deep
end SP
namespace SP
open Go.RowKit Go.Sort Go.Deep
theorem refHash_any (s:ByteArray) (w:World) (hs:s.size≤1048576) :
 Calls Tryz.prog 49 #[.string s] w fun r w'=>r=.returned (.string ⟨hashL s.data.toList⟩)∧Below w.heap.size w w':=by
 go_enter Tryz.func49,Tryz.ntmps49
 go_wp2_with fail
 refine (refSponge_any s 6 32 _ hs (by decide)).mono ?_
 rintro r w1 ⟨rfl,hb⟩
 rw[← hash_stream]
 go_wp2
 go_ret
 exact ⟨rfl,hb⟩
theorem refStream_any (s:ByteArray) (n:Nat) (w:World) (hs:s.size≤1048576) (hn:n≤16384) :
 Calls Tryz.prog 32 #[.string s,.int .i64 n] w fun r w'=>r=.returned (.string ⟨strmL s.data.toList n⟩)∧Below w.heap.size w w':=by
 go_enter Tryz.func32,Tryz.ntmps32
 go_wp2_with fail
 refine (refSponge_any s 31 n _ hs hn).mono ?_
 rintro r w1 ⟨rfl,hb⟩
 go_wp2
 go_ret
 exact ⟨rfl,hb⟩
end SP
namespace SP
open Go.RowKit Go.Sort Go.Deep
theorem refTag_any (label:ByteArray) (pa:Option Addr) (pcap:Nat) (ps:List ByteArray) (w:World) (hlab:label.size≤1048576) (hpl:ps.length≤1048576)
 (hP:ps.length=0∨∃ pb po,pa=some ⟨pb,po,none⟩∧∀ j,j<ps.length→w.cell? ⟨pb,po+j,none⟩=some (.string ps[j]!)) (hsz:∀ j,j<ps.length→(ps[j]!).size≤1048576)
 (htot:(framesL label.data.toList (ps.map fun s=>s.data.toList)).length≤1048576) :
 Calls Tryz.prog 25 #[.string label,.slice pa ps.length pcap] w fun e w'=>e=.returned (.string ⟨tagL label.data.toList (ps.map fun s=>s.data.toList)⟩)∧Below w.heap.size w w':=by
 obtain ⟨n,hn⟩:∃ n,ps.length=n:=⟨_,rfl⟩
 rw[hn]
 have Hn:Hid (ps.length=n):=hn
 have hn20:n≤1048576:=by omega
 clear hn
 go_enter Tryz.func25,Tryz.ntmps25
 go_wp2_with fail
 refine (Frame_any label _ hlab).mono ?_
 rintro e w1 ⟨o1,rfl,ho1,hb1⟩
 go_wp2
 go_loopg [5,6] n (fun g s5 s6 wr=>∃ (k:Nat) (o:ByteArray),k+g=n∧s6=.int .i64 k∧s5=.string o∧Below w.heap.size w wr∧Hid (o.data.toList=framesL label.data.toList ((ps.map fun s=>s.data.toList).take k)))
 case atStart =>
  refine ⟨0,o1,by omega,rfl,rfl,hb1,?_⟩
  rw[List.take_zero]
  unfold framesL
  rw[List.flatMap_nil,List.append_nil]
  exact ho1
 case round =>
  clear ho1 hb1
  obtain ⟨k,o,hk,rfl,rfl,hb,HE⟩:=hrel
  by_cases hlt:k<n
  ·obtain ⟨pb,po,rfl,hPj⟩:∃ pb po,pa=some ⟨pb,po,none⟩∧∀ j,j<ps.length→w.cell? ⟨pb,po+j,none⟩=some (.string ps[j]!):=by
    rcases hP with h|h
    ·have:=Hn.out;omega
    ·exact h
   have hvc:=hPj k (by have:=Hn.out;omega)
   have hszk:=hsz k (by have:=Hn.out;omega)
   obtain ⟨s,hs⟩:∃ s,ps[k]! = s:=⟨_,rfl⟩
   rw[hs] at hvc hszk
   have HS:Hid (s=ps[k]!):=hs.symm
   have hvc':wr.cell? ⟨pb,po+k,none⟩=some (.string s):=by rw[hb.cell (p:=⟨pb,po+k,none⟩) (World.block_lt_of_cell? _ _ hvc)];exact hvc
   have l1:(k:Int)<(n:Int):=by omega
   clear hs hvc hPj
   go_wp2_with fail
   refine (Frame_any s _ hszk).mono ?_
   rintro e w2 ⟨o2,rfl,ho2,hb2⟩
   have HO2:Hid (o2.data.toList=frameL s.data.toList):=ho2
   have hos:o.size≤1048576:=by
    have h1:o.data.toList.length=o.size:=Array.length_toList
    rw[HE.out] at h1
    have:=framesL_take label.data.toList (ps.map fun s=>s.data.toList) k
    omega
   have ho2s:o2.size≤1048580:=by
    have h1:o2.data.toList.length=o2.size:=Array.length_toList
    have h2:s.data.toList.length=s.size:=Array.length_toList
    rw[ho2,frameL_length] at h1
    omega
   clear ho2
   go_wp2
   go_roundg (gk-1)
   case measure=>omega
   case rel =>
    refine ⟨k+1,o++o2,by omega,by go_num,rfl,hb.trans (hb2.mono hb.size),?_⟩
    have hkl:k<(ps.map fun s=>s.data.toList).length:=by rw[List.length_map];have:=Hn.out;omega
    have hkl2:k<ps.length:=by have:=Hn.out;omega
    rw[take_snoc_getD _ k hkl,framesL_snoc,ByteArray.data_append,Array.toList_append,HE.out,HO2.out,getElem!_pos (ps.map fun s=>s.data.toList) k hkl,List.getElem_map,HS.out,getElem!_pos ps k hkl2]
    rfl
  ·have l1:(n:Int)≤(k:Int):=by omega
   have HE2:Hid (o.data.toList=framesL label.data.toList (ps.map fun s=>s.data.toList)):=by
    have e1:(ps.map fun s=>s.data.toList).take k=ps.map fun s=>s.data.toList:=List.take_of_length_le (by rw[List.length_map];have:=Hn.out;omega)
    rw[e1] at HE
    exact HE
   have hos:o.size≤1048576:=by
    have h1:o.data.toList.length=o.size:=Array.length_toList
    rw[HE2.out] at h1
    omega
   clear HE
   go_wp2_with fail
   refine (refHash_any o _ hos).mono ?_
   rintro e w3 ⟨rfl,hb3⟩
   rw[HE2.out]
   go_wp2
   go_ret
   exact ⟨rfl,hb.trans (hb3.mono hb.size)⟩
end SP
section
open Go.RowKit
variable {P:Nat} [NeZero P] {N:Nat}
def val (a b c d:Nat):Nat:=a+18446744073709551616*b+340282366920938463463374607431768211456*c+6277101735386680763835789423207666416102355444464034512896*d
def ag (a b c d:Nat):Value:=.agg #[.int .u64 a,.int .u64 b,.int .u64 c,.int .u64 d]
def Four (v:Value) (n:Nat):Prop:=∃ a b c d:Nat,v=.agg #[.int .u64 a,.int .u64 b,.int .u64 c,.int .u64 d] ∧
 a<18446744073709551616∧b<18446744073709551616∧c<18446744073709551616∧d<18446744073709551616∧n=val a b c d
def top:Nat:=115792089237316195423570985008687907853269984665640564039457584007913129639936
theorem val_lt {a b c d:Nat} (ha:a<18446744073709551616) (hb:b<18446744073709551616) (hc:c<18446744073709551616) (hd:d<18446744073709551616):val a b c d<top:=by
 unfold val top;omega
theorem Four.lt {v:Value} {n:Nat} (h:Four v n):n<top:=by
 obtain ⟨a,b,c,d,-,ha,hb,hc,hd,rfl⟩:=h
 exact val_lt ha hb hc hd
theorem val_inj {a b c d p q r s:Nat} (ha:a<18446744073709551616) (hb:b<18446744073709551616) (hc:c<18446744073709551616)
 (hp:p<18446744073709551616) (hq:q<18446744073709551616) (hr:r<18446744073709551616) (h:val a b c d=val p q r s):a=p∧b=q∧c=r∧d=s:=by
 unfold val at h;omega
theorem Four.inj {v v':Value} {n:Nat} (h:Four v n) (h':Four v' n):v=v':=by
 obtain ⟨a,b,c,d,rfl,ha,hb,hc,hd,e⟩:=h
 obtain ⟨p,q,r,s,rfl,hp,hq,hr,hs,e'⟩:=h'
 obtain ⟨rfl,rfl,rfl,rfl⟩:=val_inj ha hb hc hp hq hr (e.symm.trans e')
 rfl
theorem Four.num {v:Value} {n m:Nat} (h:Four v n) (h':Four v m):n=m:=by
 obtain ⟨a,b,c,d,rfl,ha,hb,hc,hd,rfl⟩:=h
 obtain ⟨p,q,r,s,e,hp,hq,hr,hs,rfl⟩:=h'
 simp only[Value.agg.injEq,Array.mk.injEq,List.cons.injEq,Value.int.injEq,true_and,and_true,Int.ofNat_inj] at e
 obtain ⟨rfl,rfl,rfl,rfl⟩:=e
 rfl
theorem Four.mk {a b c d n:Nat} (ha:a<18446744073709551616) (hb:b<18446744073709551616) (hc:c<18446744073709551616) (hd:d<18446744073709551616) (hn:n=val a b c d) :
 Four (.agg #[.int .u64 a,.int .u64 b,.int .u64 c,.int .u64 d]) n:=⟨a,b,c,d,rfl,ha,hb,hc,hd,hn⟩
theorem ret_int {k:IntKind} {a b:Int} (h:a=b):Ending.returned (.int k a)=.returned (.int k b):=by rw[h]
end
end Go.Proofs.YtmepmoalhgehhaaGreatDoor
