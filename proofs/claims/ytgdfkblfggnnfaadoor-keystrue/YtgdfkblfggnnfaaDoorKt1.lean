import Derived.Test.YtgdfkblfggnnfaaDoorRows
import Derived.Lib.Mul64
import Derived.Laws.Bits64b
import Derived.Laws.Externs
import Derived.Laws.Unary
import Derived.WalkKit
import Derived.Laws.AppendOwn
import Derived.Laws.OwnMore
import Derived.Sort.Row
import Derived.Below
import Derived.Deep.LoopGhost
import Derived.Deep.QuietTactic
import Derived.StillTailTactics
import Derived.BigRegion
import Derived.BigQuiet
import Derived.Lib.TrailingZeros
import Derived.Deep.Draws
import Derived.Deep.OwnRows
import Derived.WalkSpells
import Derived.WalkLawsBesides
import Derived.Deep.RegionWith
import Derived.KernelRfl
import Derived.Lib.LazyBuf
import Derived.Lib.SliceRun
import Derived.Deep.AppendSrc
import Derived.Lib.AppendZeros
import Derived.Lib.ConvBytes
import Derived.Laws.MathBits
import Derived.Deep.MidRow
import Derived.OrdersHeld
set_option linter.unusedVariables false
set_option linter.unusedSimpArgs false
set_option maxRecDepth 1000000
set_option maxHeartbeats 4000000
namespace Go.Proofs.YtgdfkblfggnnfaaDoor
namespace OC
theorem and_split (c y m n:Nat) (hc:c<256) (hm:m<256):(c+256*y) &&& (m+256*n)=(c &&& m)+256*(y &&& n):=by
 have h1:((c+256*y) &&& (m+256*n))%2^8=(c &&& m):=by
  rw[Nat.and_mod_two_pow]
  congr 1<;>omega
 have h2:((c+256*y) &&& (m+256*n))/2^8=(y &&& n):=by
  rw[Nat.and_div_two_pow]
  congr 1<;>omega
 omega
def byteS (k m c:Nat):Nat:=((c/2^k) &&& m)+(c &&& m)
theorem stage_split (k m:Nat) (n c y:Nat) (hk:k=1∧m=85∨k=2∧m=51) (hc:c<256) :
 (((c+256*y)/2^k) &&& (m+256*n))+((c+256*y) &&& (m+256*n))=byteS k m c+256*(((y/2^k) &&& n)+(y &&& n)):=by
 have low:∀ e,e<2^k→((c/2^k+2^(8-k)*e) &&& m)=((c/2^k) &&& m):=by
  have h1:∀ c:Fin 256,∀ e:Fin 2,((c.val/2+128*e.val) &&& 85)=((c.val/2) &&& 85):=by decide +kernel
  have h2:∀ c:Fin 256,∀ e:Fin 4,((c.val/4+64*e.val) &&& 51)=((c.val/4) &&& 51):=by decide +kernel
  rcases hk with ⟨rfl,rfl⟩|⟨rfl,rfl⟩
  ·intro e he;exact h1 ⟨c,hc⟩ ⟨e,by simpa using he⟩
  ·intro e he;exact h2 ⟨c,hc⟩ ⟨e,by simpa using he⟩
 have e1:(c+256*y)/2^k=(c/2^k+2^(8-k)*(y%2^k))+256*(y/2^k):=by
  rcases hk with ⟨rfl,rfl⟩|⟨rfl,rfl⟩<;>simp<;>omega
 have hm:m<256:=by rcases hk with ⟨rfl,rfl⟩|⟨rfl,rfl⟩<;>decide
 have hl:c/2^k+2^(8-k)*(y%2^k)<256:=by
  rcases hk with ⟨rfl,rfl⟩|⟨rfl,rfl⟩<;>simp<;>omega
 have hp:0<2^k:=Nat.two_pow_pos k
 rw[e1,and_split _ _ _ _ hl hm,and_split _ _ _ _ hc hm,low _ (Nat.mod_lt _ hp)]
 unfold byteS
 omega
def bytes (f:Nat→Nat):Nat→Nat→Nat
 | 0,_=>0
 | k+1,x=>f (x%256)+256*bytes f k (x/256)
def mask (m:Nat):Nat→Nat
 | 0=>0
 | k+1=>m+256*mask m k
theorem stage (k m:Nat) (hk:k=1∧m=85∨k=2∧m=51):∀ (j x:Nat),((x/2^k) &&& mask m j)+(x &&& mask m j)=bytes (byteS k m) j x
 | 0,x=>by simp[mask,bytes]
 | j+1,x=>by
  have hx:x=x%256+256*(x/256):=by omega
  have:=stage_split k m (mask m j) (x%256) (x/256) hk (by omega)
  rw[mask,bytes,← stage k m hk j (x/256),← this,← hx]
theorem bytes_bytes (f g:Nat→Nat) (hf:∀ c,c<256→f c<256):∀ (j x:Nat),bytes g j (bytes f j x)=bytes (fun c=>g (f c)) j x
 | 0,x=>rfl
 | j+1,x=>by
  have h:=hf (x%256) (by omega)
  rw[bytes,bytes,bytes,show (f (x%256)+256*bytes f j (x/256))%256=f (x%256) by omega,show (f (x%256)+256*bytes f j (x/256))/256=bytes f j (x/256) by omega,bytes_bytes f g hf j]
def byteT (c:Nat):Nat:=(c/16+c) &&& 15
theorem small_mod (f:Nat→Nat) (hf:∀ c,c<256→f c%16≤4∧f c/16≤4):∀ (j x:Nat),bytes f j x%16≤4
 | 0,_=>Nat.zero_le _
 | j+1,x=>by
  have:=(hf (x%256) (by omega)).1
  rw[bytes];omega
theorem third (f:Nat→Nat) (hf:∀ c,c<256→f c%16≤4∧f c/16≤4):∀ (j x:Nat),((bytes f j x/16+bytes f j x) &&& mask 15 j)=bytes (fun c=>byteT (f c)) j x
 | 0,x=>by simp[mask,bytes]
 | j+1,x=>by
  have h:=hf (x%256) (by omega)
  have hs:=small_mod f hf j (x/256)
  have ih:=third f hf j (x/256)
  rw[bytes,bytes,mask]
  rw[← ih]
  generalize f (x%256)=c at *
  generalize bytes f j (x/256)=y at *
  have e:(c+256*y)/16+(c+256*y)=(c/16+c+16*(y%16))+256*(y/16+y):=by omega
  rw[e,and_split _ _ _ _ (by omega) (by decide)]
  have low:(c/16+c+16*(y%16)) &&& 15=byteT c:=by
   unfold byteT
   rw[show (15:Nat)=2^4-1 from rfl,Nat.and_two_pow_sub_one_eq_mod,Nat.and_two_pow_sub_one_eq_mod]
   omega
  rw[low]
def popAux:Nat→Nat→Nat
 | 0,_=>0
 | f+1,x=>x%2+popAux f (x/2)
theorem popAux_add:∀ (a b x:Nat),popAux (a+b) x=popAux a x+popAux b (x/2^a)
 | 0,b,x=>by simp[popAux]
 | a+1,b,x=>by
  rw[show a+1+b=(a+b)+1 by omega,popAux,popAux,popAux_add a b,Nat.div_div_eq_div_mul,Nat.pow_succ,Nat.mul_comm (2^a) 2]
  omega
theorem popAux_mod:∀ (a x:Nat),popAux a (x%2^a)=popAux a x
 | 0,x=>rfl
 | a+1,x=>by
  have h1:x%2^(a+1)%2=x%2:=Nat.mod_mod_of_dvd _ ⟨2^a,by rw[Nat.pow_succ,Nat.mul_comm]⟩
  have h2:x%2^(a+1)/2=x/2%2^a:=by
   rw[Nat.pow_succ,Nat.mul_comm,Nat.mod_mul_right_div_self]
  rw[popAux,popAux,h1,h2,popAux_mod a]
def cnt (c:Nat):Nat:=byteT (byteS 2 51 (byteS 1 85 c))
theorem cnt_is:∀ c:Fin 256,cnt c.val=popAux 8 c.val∧cnt c.val≤8∧byteS 1 85 c.val<256∧byteS 2 51 (byteS 1 85 c.val)%16≤4∧byteS 2 51 (byteS 1 85 c.val)/16≤4:=by decide +kernel
theorem ones (x a b c d e f:Nat) (h1:a=((x/2) &&& 6148914691236517205)+(x &&& 6148914691236517205)) (h2:b=((a/4) &&& 3689348814741910323)+(a &&& 3689348814741910323))
 (h3:c=(b/16+b) &&& 1085102592571150095) (h4:d=c+c/256) (h5:e=d+d/65536) (h6:f=e+e/4294967296):f%128=popAux 64 x∧f<2^64∧e<2^64∧d<2^64∧a<2^64∧b/16+b<2^64∧popAux 64 x≤64:=by
 have m1:(6148914691236517205:Nat)=mask 85 8:=by decide
 have m2:(3689348814741910323:Nat)=mask 51 8:=by decide
 have m3:(1085102592571150095:Nat)=mask 15 8:=by decide
 have g1:a=bytes (byteS 1 85) 8 x:=by rw[h1,m1];exact stage 1 85 (Or.inl ⟨rfl,rfl⟩) 8 x
 have g2:b=bytes (fun c=>byteS 2 51 (byteS 1 85 c)) 8 x:=by
  rw[h2,m2,g1,← bytes_bytes (byteS 1 85) (byteS 2 51) (fun c hc=>(cnt_is ⟨c,hc⟩).2.2.1)]
  exact stage 2 51 (Or.inr ⟨rfl,rfl⟩) 8 _
 have g3:c=bytes cnt 8 x:=by rw[h3,m3,g2];exact third _ (fun c hc=>(cnt_is ⟨c,hc⟩).2.2.2) 8 x
 have al:a<2^64:=by
  have l1:=@Nat.and_le_right (x/2) 6148914691236517205
  have l2:=@Nat.and_le_right x 6148914691236517205
  omega
 have bl:b<7378697629483820647:=by
  have l1:=@Nat.and_le_right (a/4) 3689348814741910323
  have l2:=@Nat.and_le_right a 3689348814741910323
  omega
 have hpop:popAux 64 x=cnt (x%256)+cnt (x/256%256)+cnt (x/256/256%256)+cnt (x/256/256/256%256)+cnt (x/256/256/256/256%256)+cnt (x/256/256/256/256/256%256)+cnt (x/256/256/256/256/256/256%256)+cnt (x/256/256/256/256/256/256/256%256):=by
  have hb:∀ y,popAux 8 y=cnt (y%256):=fun y=>by rw[(cnt_is ⟨y%256,by omega⟩).1];exact (popAux_mod 8 y).symm
  rw[show (64:Nat)=8+(8+(8+(8+(8+(8+(8+8)))))) from rfl]
  simp only[popAux_add 8,hb,show (2:Nat)^8=256 from rfl]
  omega
 have k:∀ y,cnt (y%256)≤8:=fun y=>(cnt_is ⟨y%256,by omega⟩).2.1
 have k0:=k x
 have k1:=k (x/256)
 have k2:=k (x/256/256)
 have k3:=k (x/256/256/256)
 have k4:=k (x/256/256/256/256)
 have k5:=k (x/256/256/256/256/256)
 have k6:=k (x/256/256/256/256/256/256)
 have k7:=k (x/256/256/256/256/256/256/256)
 simp only[bytes] at g3
 generalize cnt (x%256)=t0 at *
 generalize cnt (x/256%256)=t1 at *
 generalize cnt (x/256/256%256)=t2 at *
 generalize cnt (x/256/256/256%256)=t3 at *
 generalize cnt (x/256/256/256/256%256)=t4 at *
 generalize cnt (x/256/256/256/256/256%256)=t5 at *
 generalize cnt (x/256/256/256/256/256/256%256)=t6 at *
 generalize cnt (x/256/256/256/256/256/256/256%256)=t7 at *
 clear h1 h2 h3 g1 g2 m1 m2 m3 k
 have d1:c/256=t1+256*(t2+256*(t3+256*(t4+256*(t5+256*(t6+256*t7))))):=by omega
 have d2:d=(t0+t1)+256*((t1+t2)+256*((t2+t3)+256*((t3+t4)+256*((t4+t5)+256*((t5+t6)+256*((t6+t7)+256*t7)))))):=by omega
 have d3:d/65536=(t2+t3)+256*((t3+t4)+256*((t4+t5)+256*((t5+t6)+256*((t6+t7)+256*t7)))):=by omega
 have d4:e=(t0+t1+t2+t3)+256*((t1+t2+t3+t4)+256*((t2+t3+t4+t5)+256*((t3+t4+t5+t6)+256*((t4+t5+t6+t7)+256*((t5+t6+t7)+256*((t6+t7)+256*t7)))))):=by omega
 have d5:e/4294967296=(t4+t5+t6+t7)+256*((t5+t6+t7)+256*((t6+t7)+256*t7)):=by omega
 have d6:f=(t0+t1+t2+t3+t4+t5+t6+t7)+256*((t1+t2+t3+t4+(t5+t6+t7))+256*((t2+t3+t4+t5+(t6+t7))+256*((t3+t4+t5+t6+t7)+256*((t4+t5+t6+t7)+256*((t5+t6+t7)+256*((t6+t7)+256*t7)))))):=by omega
 refine ⟨by omega,by omega,by omega,by omega,al,by omega,by omega⟩
end OC
namespace OP
def sum:List Nat→Nat
 | []=>0
 | x :: l=>x+sum l
end OP
section
open Go.RowKit Go.Sort
variable {P:Nat} [NeZero P] {N:Nat}
theorem and_i64_127 (f:Nat) (hf:f<18446744073709551616):bits .and .i64 (IntKind.i64.wrap (f:Int)) 127=((f%128:Nat):Int):=by
 have h1:(BitVec.ofInt 64 (IntKind.i64.wrap (f:Int))).toNat=f:=by
  rw[BitVec.toNat_ofInt,IntKind.wrap_i64]
  omega
 have h2:(BitVec.ofInt 64 127).toNat=127:=rfl
 show IntKind.i64.wrap ((BitVec.ofInt 64 (IntKind.i64.wrap (f:Int)) &&& BitVec.ofInt 64 127).toNat:Int)=_
 rw[BitVec.toNat_and,h1,h2,IntKind.wrap_i64,show (127:Nat)=2^7-1 from rfl,Nat.and_two_pow_sub_one_eq_mod]
 omega
theorem wrU64 (a b n:Nat) (h:a+b=n) (hn:n<18446744073709551616):IntKind.u64.wrap ((a:Int)+(b:Int))=(n:Int):=by
 rw[IntKind.wrap_u64];omega
theorem ones_c (x:Nat) (hx:x<18446744073709551616) (w:World):Calls Tryd.prog 26 #[.int .u64 x] w fun e w'=>e=.returned (.int .i64 (OC.popAux 64 x:Int))∧w'=w:=by
 obtain ⟨a,ha⟩:∃ a,a=((x/2) &&& 6148914691236517205)+(x &&& 6148914691236517205):=⟨_,rfl⟩
 obtain ⟨b,hb⟩:∃ b,b=((a/4) &&& 3689348814741910323)+(a &&& 3689348814741910323):=⟨_,rfl⟩
 obtain ⟨c,hc⟩:∃ c,c=(b/16+b) &&& 1085102592571150095:=⟨_,rfl⟩
 obtain ⟨d,hd⟩:∃ d,d=c+c/256:=⟨_,rfl⟩
 obtain ⟨e,he⟩:∃ e,e=d+d/65536:=⟨_,rfl⟩
 obtain ⟨f,hf⟩:∃ f,f=e+e/4294967296:=⟨_,rfl⟩
 obtain ⟨k1,k2,k3,k4,k5,k6,k7⟩:=OC.ones x a b c d e f ha hb hc hd he hf
 have hbl:b<18446744073709551616:=by omega
 have hcl:c<18446744073709551616:=by omega
 have e1:IntKind.u64.wrap (bits .and .u64 ((x:Int)/2) 6148914691236517205+bits .and .u64 (x:Int) 6148914691236517205)=(a:Int):=by
  have g1:=bits_and_u64_nat (x/2) 6148914691236517205 (by omega) (by omega)
  have g2:=bits_and_u64_nat x 6148914691236517205 hx (by omega)
  rw[show (x:Int)/2=((x/2:Nat):Int) by omega]
  exact (congrArg IntKind.u64.wrap (congr (congrArg HAdd.hAdd g1) g2)).trans (wrU64 _ _ _ ha.symm (by omega))
 have e2:IntKind.u64.wrap (bits .and .u64 ((a:Int)/4) 3689348814741910323+bits .and .u64 (a:Int) 3689348814741910323)=(b:Int):=by
  have g1:=bits_and_u64_nat (a/4) 3689348814741910323 (by omega) (by omega)
  have g2:=bits_and_u64_nat a 3689348814741910323 (by omega) (by omega)
  rw[show (a:Int)/4=((a/4:Nat):Int) by omega]
  exact (congrArg IntKind.u64.wrap (congr (congrArg HAdd.hAdd g1) g2)).trans (wrU64 _ _ _ hb.symm hbl)
 have e3:bits .and .u64 (IntKind.u64.wrap ((b:Int)/16+(b:Int))) 1085102592571150095=(c:Int):=by
  rw[show (b:Int)/16=((b/16:Nat):Int) by omega,wrU64 (b/16) b _ rfl (by omega)]
  rw[hc]
  exact bits_and_u64_nat (b/16+b) 1085102592571150095 (by omega) (by omega)
 have e4:IntKind.u64.wrap ((c:Int)+(c:Int)/256)=(d:Int):=by rw[IntKind.wrap_u64];omega
 have e5:IntKind.u64.wrap ((d:Int)+(d:Int)/65536)=(e:Int):=by rw[IntKind.wrap_u64];omega
 have e6:IntKind.u64.wrap ((e:Int)+(e:Int)/4294967296)=(f:Int):=by rw[IntKind.wrap_u64];omega
 have e7:bits .and .i64 (wrap64 (f:Int)) 127=(OC.popAux 64 x:Int):=by rw[show wrap64 (f:Int)=IntKind.i64.wrap (f:Int) by rw[IntKind.wrap_i64];unfold wrap64;omega,and_i64_127 f (by omega),k1]
 clear ha hb hc hd he hf k1 k2 k3 k4 k5 k6 k7 hbl hcl
 generalize OC.popAux 64 x=r at *
 go_enter Tryd.func26,Tryd.ntmps26
 go_wp2
 go_ret
 exact ⟨rfl,rfl⟩
theorem tz_key (x a:Nat) (hx:x<18446744073709551616) (hx0:x≠0) (hlow:x &&& (18446744073709551616-x)=a) :
 IntKind.u64.wrap (bits BinOp.and IntKind.u64 (x:Int) (IntKind.u64.wrap (-(x:Int)))*285870213051353865)/288230376151711744=((a*285870213051353865%18446744073709551616/288230376151711744:Nat):Int):=by
 have e1:IntKind.u64.wrap (-(x:Int))=((18446744073709551616-x:Nat):Int):=by rw[IntKind.wrap_u64];omega
 rw[e1,bits_and_u64_nat x _ hx (by omega),hlow,IntKind.wrap_u64]
 omega
theorem tz_core (x k idx:Nat) (w:World) (hx0:((x:Int) == 0)=false)
 (key:IntKind.u64.wrap (bits BinOp.and IntKind.u64 (x:Int) (IntKind.u64.wrap (-(x:Int)))*285870213051353865)/288230376151711744=(idx:Int)) (hi:(idx:Int)<64) (hk:k<64) (hcell:w.cell? ⟨0,idx,none⟩=some (.int .u8 k)) :
 Calls Tryd.prog 27 #[.int .u64 x] w fun e w'=>e=.returned (.int .i64 k)∧w'=w:=by
 go_enter Tryd.func27,Tryd.ntmps27
 go_wp2_with (simp only[key])
 go_ret
 exact ⟨rfl,rfl⟩
def TabX (w:World):Prop:=∀ i,i<64→w.cell? ⟨0,i,none⟩=some (.int .u8 (Lib.deBruijn64tab.getD i 0:Int))
theorem TabX.below {w w':World} (h:TabX w) (hb:Below w.heap.size w w'):TabX w':=fun i hi=>by
 have h2:=h i hi
 rw[hb.cell (p:=⟨0,i,none⟩) (World.block_lt_of_cell? _ _ h2)]
 exact h2
theorem ctz_pow:∀ k:Fin 20,Lib.ctz 64 (2^k.val)=k.val∧OC.popAux 64 (2^k.val)=1∧2^k.val≤524288∧0<2^k.val:=by decide +kernel
theorem tzx_c (k:Nat) (x:Nat) (h0:Lib.ctz 64 x=k) (hx0:x≠0) (hx:x<18446744073709551616) (hk:k<64) (w:World) (hT:TabX w):Calls Tryd.prog 27 #[.int .u64 x] w fun e w'=>e=.returned (.int .i64 k)∧w'=w:=by
 obtain ⟨hlow,hkk⟩:=Lib.lowest_bit 64 x hx0 hx
 have key:=tz_key x _ hx hx0 hlow
 rw[h0] at key
 obtain ⟨hi,htab⟩:=Lib.deBruijn64_at k hk
 have hcell:=hT _ hi
 rw[htab] at hcell
 exact tz_core x k _ w (by simp;omega) key (by omega) hk hcell
theorem placex_c (k:Nat) (hk:k<20) (x:Nat) (hx:x=2^k) (w:World) (hT:TabX w):Calls Tryd.prog 15 #[.int .u64 x] w fun e w'=>e=.returned (.tuple #[.int .i64 k,.int .i64 0])∧w'=w:=by
 obtain ⟨h0,h1,h2,h3⟩:=ctz_pow ⟨k,hk⟩
 simp only[← hx] at h0 h1 h2 h3
 have hO:=ones_c x (by omega) w
 rw[h1] at hO
 have hZ:=tzx_c k x h0 (by omega) (by omega) (by omega) w hT
 have g1:¬ (524288:Int)<(x:Int):=by omega
 clear hx h0 h1 hT
 go_enter Tryd.func15,Tryd.ntmps15
 go_wp2_with fail
 refine hO.mono ?_
 rintro e w' ⟨rfl,rfl⟩
 clear hO
 go_wp2_with fail
 refine hZ.mono ?_
 rintro e w' ⟨rfl,rfl⟩
 clear hZ
 go_wp2
 go_ret2
 exact ⟨rfl,rfl⟩
end
namespace SP
open Go.RowKit
theorem lt64 (x:BitVec 64):(x.toNat:Int)<18446744073709551616:=by
 have:=x.isLt
 omega
theorem ofInt_toNat64 (x:BitVec 64):BitVec.ofInt 64 (x.toNat:Int)=x:=by
 apply BitVec.eq_of_toNat_eq
 rw[BitVec.ofInt_natCast,BitVec.toNat_ofNat]
 exact Nat.mod_eq_of_lt x.isLt
theorem wrap_u64_toNat (x:BitVec 64):IntKind.u64.wrap (x.toNat:Int)=x.toNat:=by
 rw[IntKind.wrap_u64]
 have:=lt64 x
 exact Int.emod_eq_of_lt (by omega) this
def u (v:BitVec 64):Int:=(v.toNat:Int)
theorem bits_xor64 (a b:BitVec 64):bits .xor .u64 (u a) (u b)=u (a ^^^ b):=by
 show IntKind.u64.wrap ((BitVec.ofInt 64 (a.toNat:Int) ^^^ BitVec.ofInt 64 (b.toNat:Int)).toNat:Int)=_
 rw[ofInt_toNat64,ofInt_toNat64,wrap_u64_toNat]
 rfl
theorem bits_and64 (a b:BitVec 64):bits .and .u64 (u a) (u b)=u (a &&& b):=by
 show IntKind.u64.wrap ((BitVec.ofInt 64 (a.toNat:Int) &&& BitVec.ofInt 64 (b.toNat:Int)).toNat:Int)=_
 rw[ofInt_toNat64,ofInt_toNat64,wrap_u64_toNat]
 rfl
theorem bits_or64 (a b:BitVec 64):bits .or .u64 (u a) (u b)=u (a ||| b):=by
 show IntKind.u64.wrap ((BitVec.ofInt 64 (a.toNat:Int) ||| BitVec.ofInt 64 (b.toNat:Int)).toNat:Int)=_
 rw[ofInt_toNat64,ofInt_toNat64,wrap_u64_toNat]
 rfl
theorem bits_not64 (a:BitVec 64):bits .xor .u64 IntKind.u64.max (u a)=u (~~~a):=by
 have e:IntKind.u64.max=u (BitVec.allOnes 64):=by decide +kernel
 rw[e,bits_xor64,BitVec.allOnes_xor]
theorem and63 (k:Nat) (hk:k<64):bits .and .u64 (k:Int) 63=k:=by
 have h:∀ j:Fin 64,bits .and .u64 ((j.val:Nat):Int) 63=(j.val:Int):=by decide +kernel
 exact h ⟨k,hk⟩
theorem shl64 (x:BitVec 64) (k:Nat):IntKind.u64.wrap (u x*2^k)=u (x <<< k):=by
 unfold u
 rw[IntKind.wrap_u64,BitVec.toNat_shiftLeft,Nat.shiftLeft_eq,Int.natCast_emod,Int.natCast_mul,Int.natCast_pow]
 rfl
theorem shr64 (x:BitVec 64) (k:Nat):u x/2^k=u (x >>> k):=by
 unfold u
 rw[BitVec.toNat_ushiftRight,Nat.shiftRight_eq_div_pow,Int.natCast_ediv,Int.natCast_pow]
 rfl
def rol (w:BitVec 64) (n:Nat):BitVec 64:=w <<< n ||| w >>> (64-n)
abbrev St:=Array (BitVec 64)
def enc (v:BitVec 64):Value:=.int .u64 (u v)
def colsum (d:St) (x:Nat):BitVec 64:=d[x]! ^^^ d[x+5]! ^^^ d[x+10]! ^^^ d[x+15]! ^^^ d[x+20]!
def sumsTo (d:St):Nat→St
 | 0=>#[0,0,0,0,0]
 | k+1=>(sumsTo d k).setIfInBounds k (colsum d k)
def xorAt (d:St) (i:Nat) (v:BitVec 64):St:=d.setIfInBounds i (d[i]! ^^^ v)
def innerTo (v:BitVec 64) (x:Nat) (d:St):Nat→St
 | 0=>d
 | m+1=>xorAt (innerTo v x d m) (x+5*m) v
def dcol (s:St) (x:Nat):BitVec 64:=s[(x+4)%5]! ^^^ rol s[(x+1)%5]! 1
def thetaTo (s d:St):Nat→St
 | 0=>d
 | k+1=>innerTo (dcol s k) k (thetaTo s d k) 5
def theta (d:St):St:=thetaTo (sumsTo d 5) d 5
theorem xorAt_size (d:St) (i:Nat) (v:BitVec 64):(xorAt d i v).size=d.size:=by simp[xorAt]
theorem sumsTo_size (d:St) (k:Nat):(sumsTo d k).size=5:=by
 induction k with
 | zero=>rfl
 | succ k ih=>simp[sumsTo,ih]
theorem innerTo_size (v:BitVec 64) (x:Nat) (d:St) (m:Nat):(innerTo v x d m).size=d.size:=by
 induction m with
 | zero=>rfl
 | succ k ih=>simp[innerTo,xorAt_size,ih]
theorem thetaTo_size (s d:St) (m:Nat):(thetaTo s d m).size=d.size:=by
 induction m with
 | zero=>rfl
 | succ k ih=>simp[thetaTo,innerTo_size,ih]
structure Tm where
 x:Nat
 y:Nat
 m:BitVec 64
 d:St
def offs (t:Nat):Nat:=(t+1)*(t+2)/2%64
def tmStep (t:Nat) (s:Tm):Tm:=
 { x:=s.y,y:=(2*s.x+3*s.y)%5,m:=s.d[s.y+5*((2*s.x+3*s.y)%5)]!,d:=s.d.setIfInBounds (s.y+5*((2*s.x+3*s.y)%5)) (rol s.m (offs t)) }
def tmTo (d:St):Nat→Tm
 | 0=>{ x:=1,y:=0,m:=d[1]!,d:=d }
 | t+1=>tmStep t (tmTo d t)
def rhopi (d:St):St:=(tmTo d 24).d
theorem tmTo_ok (d:St) (hd:d.size=25) (t:Nat):(tmTo d t).x<5∧(tmTo d t).y<5∧(tmTo d t).d.size=25:=by
 induction t with
 | zero=>exact ⟨show 1<5 by decide,show 0<5 by decide,hd⟩
 | succ t ih =>
  obtain ⟨h1,h2,h3⟩:=ih
  refine ⟨h2,?_,?_⟩
  ·show (2*(tmTo d t).x+3*(tmTo d t).y)%5<5
   omega
  ·show ((tmTo d t).d.setIfInBounds _ _).size=25
   rw[Array.size_setIfInBounds,h3]
def rowAt (d:St) (i:Nat):St:=
 xorAt (xorAt (xorAt (xorAt (xorAt d i (~~~d[i+1]! &&& d[i+2]!)) (i+1) (~~~d[i+2]! &&& d[i+3]!)) (i+2) (~~~d[i+3]! &&& d[i+4]!)) (i+3) (~~~d[i+4]! &&& d[i]!)) (i+4) (~~~d[i]! &&& d[i+1]!)
def chiTo (d:St):Nat→St
 | 0=>d
 | k+1=>rowAt (chiTo d k) (5*k)
def chi (d:St):St:=chiTo d 5
theorem rowAt_size (d:St) (i:Nat):(rowAt d i).size=d.size:=by simp[rowAt,xorAt_size]
theorem chiTo_size (d:St) (k:Nat):(chiTo d k).size=d.size:=by
 induction k with
 | zero=>rfl
 | succ k ih=>simp[chiTo,rowAt_size,ih]
end SP
namespace SP
open Go.RowKit
def rcReg (r:Nat):Nat:=if 255<2*r then (2*r) ^^^ 369 else 2*r
def rcTo (r:Nat):Nat→BitVec 64 × Nat
 | 0=>(0,r)
 | j+1=>((rcTo r j).1 ||| BitVec.ofNat 64 ((rcTo r j).2%2) <<< (2^j-1),rcReg (rcTo r j).2)
theorem rcReg_lt (r:Nat) (h:r<256):rcReg r<256:=by
 have H:∀ j:Fin 256,rcReg j.val<256:=by decide +kernel
 exact H ⟨r,h⟩
theorem rcTo_lt (r:Nat) (h:r<256) (j:Nat):(rcTo r j).2<256:=by
 induction j with
 | zero=>exact h
 | succ j ih=>exact rcReg_lt _ ih
theorem rc_xor (r:Nat) (h:r<256):bits .xor .i64 ((r:Int)*2) 369=(((2*r) ^^^ 369:Nat):Int):=by
 have H:∀ j:Fin 256,bits .xor .i64 ((j.val:Int)*2) 369=(((2*j.val) ^^^ 369:Nat):Int):=by decide +kernel
 exact H ⟨r,h⟩
theorem rc_and (r:Nat) (h:r<256):bits .and .i64 (r:Int) 1=u (BitVec.ofNat 64 (r%2)):=by
 have H:∀ j:Fin 256,bits .and .i64 (j.val:Int) 1=u (BitVec.ofNat 64 (j.val%2)):=by decide +kernel
 exact H ⟨r,h⟩
theorem wrap_u (x:BitVec 64):IntKind.u64.wrap (u x)=u x:=wrap_u64_toNat x
def kround (d:St) (c:BitVec 64):St:=xorAt (chi (rhopi (theta d))) 0 c
def rcC (r:Nat):BitVec 64:=(rcTo r 7).1
def rcN (r:Nat):Nat:=(rcTo r 7).2
theorem rcN_lt (r:Nat) (h:r<256):rcN r<256:=by
 unfold rcN
 exact rcTo_lt r h 7
def rcAt:Nat→Nat
 | 0=>1
 | k+1=>rcN (rcAt k)
theorem rcAt_lt (k:Nat):rcAt k<256:=by
 induction k with
 | zero=>decide
 | succ k ih=>exact rcN_lt _ ih
def permTo (d:St):Nat→St
 | 0=>d
 | k+1=>kround (permTo d k) (rcC (rcAt k))
def perm (d:St):St:=permTo d 24
theorem theta_size (d:St):(theta d).size=d.size:=thetaTo_size _ _ _
theorem rhopi_size (d:St) (hd:d.size=25):(rhopi d).size=25:=(tmTo_ok d hd 24).2.2
theorem chi_size (d:St):(chi d).size=d.size:=chiTo_size _ _
theorem kround_size (d:St) (c:BitVec 64) (hd:d.size=25):(kround d c).size=25:=by
 unfold kround
 rw[xorAt_size,chi_size,rhopi_size]
 rw[theta_size,hd]
theorem permTo_size (d:St) (hd:d.size=25) (k:Nat):(permTo d k).size=25:=by
 induction k with
 | zero=>exact hd
 | succ k ih=>exact kround_size _ _ ih
theorem perm_size (d:St) (hd:d.size=25):(perm d).size=25:=permTo_size d hd 24
abbrev Bs:=Array UInt8
def ub (x:UInt8):Int:=(x.toNat:Int)
def encB (x:UInt8):Value:=.int .u8 (ub x)
def wide (x:UInt8):BitVec 64:=BitVec.ofNat 64 x.toNat
def low (v:BitVec 64):UInt8:=UInt8.ofNat v.toNat
theorem wide_ub (x:UInt8):ub x=u (wide x):=by
 unfold ub u wide
 rw[BitVec.toNat_ofNat,Nat.mod_eq_of_lt]
 have:=x.toNat_lt
 omega
theorem wrap_ub (x:UInt8):IntKind.u64.wrap (ub x)=u (wide x):=by rw[wide_ub,wrap_u]
theorem low_u (v:BitVec 64):IntKind.u8.wrap (u v)=ub (low v):=by
 have e:IntKind.u8.wrap (u v)=u v%256:=by simp[IntKind.wrap,IntKind.bits,IntKind.signed]
 rw[e]
 unfold u ub low
 rw[UInt8.toNat_ofNat']
 omega
def wordTo (bs:Bs) (o:Nat):Nat→BitVec 64
 | 0=>0
 | i+1=>wordTo bs o i ||| wide bs[o+i]! <<< (8*i)
def wordOf (bs:Bs) (o:Nat):BitVec 64:=wordTo bs o 8
def mixTo (bs:Bs) (d:St):Nat→St
 | 0=>d
 | i+1=>xorAt (mixTo bs d i) i (wordOf bs (8*i))
theorem mixTo_size (bs:Bs) (d:St) (k:Nat):(mixTo bs d k).size=d.size:=by
 induction k with
 | zero=>rfl
 | succ k ih=>simp[mixTo,xorAt_size,ih]
def byteOf (d:St) (k:Nat):UInt8:=low (d[k/8]! >>> (8*(k%8)))
def frontTo (d:St) (n:Nat):Nat→Bs
 | 0=>Array.replicate n 0
 | k+1=>(frontTo d n k).setIfInBounds k (byteOf d k)
def front (d:St) (n:Nat):Bs:=frontTo d n n
theorem frontTo_size (d:St) (n k:Nat):(frontTo d n k).size=n:=by
 induction k with
 | zero=>simp[frontTo]
 | succ k ih=>simp[frontTo,ih]
theorem front_size (d:St) (n:Nat):(front d n).size=n:=frontTo_size d n n
end SP
namespace SP
open Go.RowKit Go.Sort
structure Only (b off n:Nat) (w w':World):Prop where
 os:w'.os=w.os
 tape:w'.tape=w.tape
 output:w'.output=w.output
 size:w.heap.size≤w'.heap.size
 block:∀ k,k<w.heap.size→k≠b→w'.heap[k]? = w.heap[k]?
 cell:∀ o,(o<off∨off+n≤o)→w'.cell? ⟨b,o,none⟩=w.cell? ⟨b,o,none⟩
 froz:∀ o,w'.frozen? ⟨b,o,none⟩=w.frozen? ⟨b,o,none⟩
variable {b off n:Nat} {w w1 w2:World}
theorem Only.refl (b off n:Nat) (w:World):Only b off n w w:=⟨rfl,rfl,rfl,Nat.le_refl _,fun _ _ _=>rfl,fun _ _=>rfl,fun _=>rfl⟩
theorem Only.trans (h:Only b off n w w1) (k:Only b off n w1 w2):Only b off n w w2:=
 ⟨k.os.trans h.os,k.tape.trans h.tape,k.output.trans h.output,Nat.le_trans h.size k.size,
  fun i hi hn=>(k.block i (Nat.lt_of_lt_of_le hi h.size) hn).trans (h.block i hi hn),
  fun o ho=>(k.cell o ho).trans (h.cell o ho),fun o=>(k.froz o).trans (h.froz o)⟩
theorem Only.drewN (h:Only b off n w w1) (q:Nat):Only b off n w (w1.drewN q):=⟨h.os,h.tape,h.output,h.size,h.block,h.cell,h.froz⟩
theorem Only.drew (h:Only b off n w w1):Only b off n w w1.drew:=⟨h.os,h.tape,h.output,h.size,h.block,h.cell,h.froz⟩
theorem Only.setCell (h:Only b off n w w1) {o:Nat} (h1:off≤o) (h2:o<off+n) (v:Value):Only b off n w (w1.setCell ⟨b,o,none⟩ v):=by
 refine h.trans ⟨rfl,rfl,rfl,by simp,fun k _ hn=>Below.heap_setCell _ _ _ _ hn,fun o' ho=>?_,fun o'=>by simp⟩
 exact World.cell?_setCell_other _ _ _ _ (by intro e;simp only[Addr.mk.injEq,and_true,true_and] at e;omega)
theorem Only.alloc (h:Only b off n w w1) (hb:b<w1.heap.size) (o:Obj):Only b off n w (w1.alloc o):=by
 refine h.trans ⟨rfl,rfl,rfl,by simp,fun k hk _=>Below.heap_alloc _ _ _ hk,fun o' _=>?_,fun o'=>?_⟩
 ·exact World.cell?_alloc_lt _ _ _ hb
 ·exact World.frozen?_alloc_old _ _ _ (by show b≠_;omega)
theorem Only.below (h:Only b off n w w1) {B:Nat} (hB:B≤w.heap.size) (hb:B≤b):Below B w w1:=
 ⟨h.os,h.tape,h.output,h.size,fun k hk=>h.block k (by omega) (by omega)⟩
theorem Only.of_below {B:Nat} (h:Below B w w1) (hB:B=w.heap.size) (hb:b<B):Only b off n w w1:=
 ⟨h.os,h.tape,h.output,h.size,fun k hk _=>h.block k (by omega),fun o _=>h.cell (p:=⟨b,o,none⟩) hb,fun o=>h.frozen (p:=⟨b,o,none⟩) hb⟩
theorem Only.other (h:Only b off n w w1) {c o:Nat} (hc:c≠b) (hs:c<w.heap.size):w1.cell? ⟨c,o,none⟩=w.cell? ⟨c,o,none⟩∧w1.frozen? ⟨c,o,none⟩=w.frozen? ⟨c,o,none⟩:=
 ⟨World.cell?_of_block (w:=w) (h.block c hs hc),World.frozen?_of_block (w:=w) (h.block c hs hc)⟩
theorem Only.fresh {o m:Nat} {x:Obj} (h:Only w.heap.size o m (w.alloc x) w1):Below w.heap.size w w1:=
 ((Below.refl _ _).alloc (Nat.le_refl _) x).trans (h.below (by simp) (Nat.le_refl _))
section
variable {α:Type} [Inhabited α] {enc:α→Value} {d:Array α}
theorem Holds.lt (h:Holds enc w b off d) (hd:0<d.size):b<w.heap.size:=World.block_lt_of_cell? _ _ (h 0 hd).1
theorem Holds.other {c o:Nat} (h:Holds enc w c o d) (k:Only b off n w w1) (hc:c≠b) (hd:0<d.size):Holds enc w1 c o d:=by
 intro j hj
 have:=h j hj
 have:=k.other (o:=o+j) hc (Holds.lt h hd)
 rw[this.1,this.2]
 exact h j hj
theorem Holds.same {o:Nat} (h:Holds enc w b o d) (k:Only b off n w w1) (hd:o+d.size≤off∨off+n≤o):Holds enc w1 b o d:=by
 intro j hj
 rw[k.cell _ (by omega),k.froz]
 exact h j hj
theorem Holds.below {B:Nat} (h:Holds enc w b off d) (k:Below B w w1) (hb:b<B):Holds enc w1 b off d:=by
 intro j hj
 rw[k.cell (p:=⟨b,off+j,none⟩) hb,k.frozen (p:=⟨b,off+j,none⟩) hb]
 exact h j hj
theorem Holds.drewN (h:Holds enc w b off d) (q:Nat):Holds enc (w.drewN q) b off d:=h
theorem Holds.drew (h:Holds enc w b off d):Holds enc w.drew b off d:=h
theorem Holds.set (h:Holds enc w b off d) {i:Nat} (hi:i<d.size) (x:α):Holds enc (w.setCell ⟨b,off+i,none⟩ (enc x)) b off (d.setIfInBounds i x):=by
 intro j hj
 rw[Array.size_setIfInBounds] at hj
 rw[World.frozen?_setCell]
 by_cases e:j=i
 ·subst e
  rw[getElem!_set_same d j x hi]
  exact ⟨World.cell?_setCell_same _ _ _ (h j hj).1,(h j hj).2⟩
 ·rw[getElem!_set_other d i j x e,World.cell?_setCell_other _ _ _ _ (by intro e';simp only[Addr.mk.injEq,and_true,true_and] at e';omega)]
  exact h j hj
theorem Holds.new (w:World) (t:TypeId) (d:Array α):Holds enc (w.alloc (.cells (d.map enc) t)) w.heap.size 0 d:=by
 intro j hj
 rw[World.cell?_alloc_new,World.frozen?_alloc_new]
 refine ⟨?_,rfl⟩
 simp only[Nat.zero_add,Array.getElem?_map,Array.getElem?_eq_getElem hj,Option.map_some,getElem!_pos d j hj]
theorem Holds.made (w:World) (t:TypeId) (n:Nat) (x:α):Holds enc (w.alloc (.cells (madeCells #[enc x] n) t)) w.heap.size 0 (Array.replicate n x):=by
 intro j hj
 rw[Array.size_replicate] at hj
 rw[World.cell?_alloc_new,World.frozen?_alloc_new]
 refine ⟨?_,rfl⟩
 rw[getElem!_pos _ j (by simpa using hj),Array.getElem_replicate]
 simp[madeCells,hj,Nat.mod_one]
end
theorem Holds.xor {d:St} (h:Holds enc w b off d) {i:Nat} (hi:i<d.size) {x:BitVec 64} (hx:d[i]! = x) (v:BitVec 64):Holds enc (w.setCell ⟨b,off+i,none⟩ (.int .u64 (u (x ^^^ v)))) b off (xorAt d i v):=by
 unfold xorAt
 rw[hx]
 exact Holds.set h hi (x ^^^ v)
theorem xorAt_other (d:St) (i j:Nat) (v:BitVec 64) (h:j≠i):(xorAt d i v)[j]! = d[j]!:=getElem!_set_other d i j _ h
end SP
namespace SP
open Go.RowKit Go.Sort
theorem mixed:Tryd.prog.follows .mixedOrders=true:=by kernel_rfl
theorem at_word {w:World} {b off:Nat} {d:St} (h:Holds enc w b off d) (i:Nat) (hi:i<d.size) {x:BitVec 64} (hx:d[i]! = x) :
 w.cell? ⟨b,off+i,none⟩=some (.int .u64 (u x))∧w.frozen? ⟨b,off+i,none⟩=false:=by
 rw[← hx];exact h i hi
theorem ret_int {k:IntKind} {a b:Int} (h:a=b):Ending.returned (.int k a)=.returned (.int k b):=by rw[h]
theorem rotl_any (x:BitVec 64) (k:Nat) (w:World) (hk:k<64) :
 Calls Tryd.prog 94 #[.int .u64 (u x),.int .i64 k] w fun e w'=>e=.returned (.int .u64 (u (rol x k)))∧w'=w:=by
 have h63:=and63 k hk
 have h1:(0:Int)≤64-(k:Int):=by omega
 go_enter Tryd.func94,Tryd.ntmps94
 go_wp2
 go_ret
 refine ⟨ret_int ?_,rfl⟩
 rw[shl64,shr64,bits_or64]
 rfl
end SP
namespace SP
open Go.RowKit Go.Sort
theorem holds_zero5 (w:World) (t:TypeId):Holds enc (w.alloc (.cells #[.int .u64 0,.int .u64 0,.int .u64 0,.int .u64 0,.int .u64 0] t)) w.heap.size 0 (#[0,0,0,0,0]:St):=by
 have h:=Holds.new (enc:=enc) w t (#[0,0,0,0,0]:St)
 have e:Array.map enc (#[0,0,0,0,0]:St)=#[.int .u64 0,.int .u64 0,.int .u64 0,.int .u64 0,.int .u64 0]:=by simp[enc,u]
 rw[e] at h
 exact h
attribute [local go_sem] bits_xor64 bits_and64 bits_or64
theorem mixColumns_any (b off:Nat) (d:St) (w:World) (hd:d.size=25) (hH:Holds enc w b off d) :
 Calls Tryd.prog 79 #[.pointer (some ⟨b,off,none⟩)] w fun e w'=>e=.returned (.tuple #[])∧Only b off 25 w w'∧Holds enc w' b off (theta d):=by
 have hb:=Holds.lt hH (by omega)
 go_enter Tryd.func79,Tryd.ntmps79
 go_wp2
 generalize hW1:(w.alloc _)=W1
 go_loopg [7] 5 (fun g s7 wr=>∃ k sk,k+g=5∧s7=.int .i64 (k:Nat)∧Holds enc wr w.heap.size 0 sk∧Only w.heap.size 0 5 W1 wr∧Hid (sk=sumsTo d k))
 case atStart =>
  refine ⟨0,#[0,0,0,0,0],rfl,rfl,?_,Only.refl _ _ _ _,rfl⟩
  rw[← hW1]
  exact holds_zero5 w 136
 case round =>
  obtain ⟨k,sk,hk,rfl,hS,hO,HE⟩:=hrel
  have hHw:Holds enc wr b off d:=Holds.other (by rw[← hW1];exact Holds.below hH ((Below.refl _ _).alloc (Nat.le_refl _) _) hb) hO (by omega) (by omega)
  by_cases hlt:k<5
  ·obtain ⟨x0,hx0⟩:∃ x,d[k]! = x:=⟨_,rfl⟩
   obtain ⟨x1,hx1⟩:∃ x,d[k+5]! = x:=⟨_,rfl⟩
   obtain ⟨x2,hx2⟩:∃ x,d[k+10]! = x:=⟨_,rfl⟩
   obtain ⟨x3,hx3⟩:∃ x,d[k+15]! = x:=⟨_,rfl⟩
   obtain ⟨x4,hx4⟩:∃ x,d[k+20]! = x:=⟨_,rfl⟩
   obtain ⟨x5,hx5⟩:∃ x,sk[k]! = x:=⟨_,rfl⟩
   have hss:sk.size=5:=by rw[HE.out,sumsTo_size]
   obtain ⟨c0,f0⟩:=at_word hHw k (by omega) hx0
   obtain ⟨c1,f1⟩:=at_word hHw (k+5) (by omega) hx1
   obtain ⟨c2,f2⟩:=at_word hHw (k+10) (by omega) hx2
   obtain ⟨c3,f3⟩:=at_word hHw (k+15) (by omega) hx3
   obtain ⟨c4,f4⟩:=at_word hHw (k+20) (by omega) hx4
   obtain ⟨c5,f5⟩:=at_word hS k (by omega) hx5
   rw[Nat.zero_add] at c5 f5
   have HX:Hid (colsum d k=x0 ^^^ x1 ^^^ x2 ^^^ x3 ^^^ x4):=by rw[← hx0,← hx1,← hx2,← hx3,← hx4];rfl
   clear hx0 hx1 hx2 hx3 hx4 hx5 hHw
   have k5:(k:Int)<5:=by omega
   have b0:(k:Int)<25:=by omega
   have b1:(k:Int)+5<25:=by omega
   have b2:(k:Int)+10<25:=by omega
   have b3:(k:Int)+15<25:=by omega
   have b4:(k:Int)+20<25:=by omega
   have p1:0≤(k:Int)+5:=by omega
   have p2:0≤(k:Int)+10:=by omega
   have p3:0≤(k:Int)+15:=by omega
   have p4:0≤(k:Int)+20:=by omega
   have e1:((k:Int)+5).toNat=k+5:=by omega
   have e2:((k:Int)+10).toNat=k+10:=by omega
   have e3:((k:Int)+15).toNat=k+15:=by omega
   have e4:((k:Int)+20).toNat=k+20:=by omega
   have v1:IntKind.i64.wrap ((k:Int)+5)=(k:Int)+5:=IntWalk.i64_in _ (by omega)
   have v2:IntKind.i64.wrap ((k:Int)+10)=(k:Int)+10:=IntWalk.i64_in _ (by omega)
   have v3:IntKind.i64.wrap ((k:Int)+15)=(k:Int)+15:=IntWalk.i64_in _ (by omega)
   have v4:IntKind.i64.wrap ((k:Int)+20)=(k:Int)+20:=IntWalk.i64_in _ (by omega)
   go_wp2_with fail
   go_still_tail 35,mixed
   go_wp2
   go_roundg (gk-1)
   case measure=>omega
   case rel =>
    refine ⟨k+1,sk.setIfInBounds k (x0 ^^^ x1 ^^^ x2 ^^^ x3 ^^^ x4),by omega,by go_num,?_,?_,?_⟩
    ·have:=Holds.set hS (i:=k) (by omega) (x0 ^^^ x1 ^^^ x2 ^^^ x3 ^^^ x4)
     rw[Nat.zero_add] at this
     exact Holds.drew this
    ·exact (hO.setCell (Nat.zero_le _) (by omega) _).drew
    ·show _=(sumsTo d k).setIfInBounds k (colsum d k)
     rw[HX.out,HE.out]
  ·have hk5:k=5:=by omega
   subst hk5
   have HS:Hid (sk=sumsTo d 5):=HE
   have hO2:Only b off 25 w wr:=by
    rw[← hW1] at hO
    exact Only.of_below hO.fresh rfl hb
   clear hk hlt HE hO hW1
   go_wp2
   go_loopg [46] 5 (fun g s46 wq=>∃ k dk,k+g=5∧s46=.int .i64 (k:Nat)∧Holds enc wq b off dk∧Only b off 25 wr wq∧Hid (dk=thetaTo sk d k))
   case atStart=>exact ⟨0,d,rfl,rfl,hHw,Only.refl _ _ _ _,rfl⟩
   case round =>
    obtain ⟨k,dk,hk,rfl,hD,hO,HE⟩:=hrel
    by_cases hlt:k<5
    ·have hss:sk.size=5:=by rw[HS.out,sumsTo_size]
     have hSw:=Holds.other hS hO (by omega) (by omega)
     obtain ⟨y0,hy0⟩:∃ x,sk[(k+4)%5]! = x:=⟨_,rfl⟩
     obtain ⟨y1,hy1⟩:∃ x,sk[(k+1)%5]! = x:=⟨_,rfl⟩
     obtain ⟨c0,f0⟩:=at_word hSw ((k+4)%5) (by omega) hy0
     obtain ⟨c1,f1⟩:=at_word hSw ((k+1)%5) (by omega) hy1
     rw[Nat.zero_add] at c0 c1
     have HD:Hid (dcol sk k=y0 ^^^ rol y1 1):=by rw[← hy0,← hy1];rfl
     clear hy0 hy1 f0 f1
     have k5:(k:Int)<5:=by omega
     go_wp2_with fail
     go_quiet ((go_at_call 94;exact Calls.quiet_of_same (rotl_any _ 1 _ (by decide))))
     clear c0 c1
     go_wp2
     have hO1:=hO.drewN nq
     have hD1:=Holds.drewN hD nq
     have hds:dk.size=25:=by rw[HE.out,thetaTo_size,hd]
     go_loopg [6] 5 (fun g s6 wq=>∃ m dm,m+g=5∧s6=.int .i64 ((k+5*m:Nat):Int)∧Holds enc wq b off dm∧Only b off 25 wr wq∧Hid (dm=innerTo (y0 ^^^ rol y1 1) k dk m))
     case atStart=>exact ⟨0,dk,rfl,rfl,hD1,(Only.refl _ _ _ _).drewN _,rfl⟩
     case round =>
      obtain ⟨m,dm,hm,rfl,hM,hOm,HM⟩:=hrel
      by_cases hlt2:m<5
      ·have hms:dm.size=25:=by rw[HM.out,innerTo_size,hds]
       obtain ⟨z,hz⟩:∃ x,dm[k+5*m]! = x:=⟨_,rfl⟩
       obtain ⟨c,f⟩:=at_word hM (k+5*m) (by omega) hz
       have HZ:Hid (dm[k+5*m]! = z):=hz
       clear hz
       have r1:((k+5*m:Nat):Int)<25:=by omega
       generalize hi:k+5*m=i at *
       have Hi:Hid (k+5*m=i):=hi
       clear hi
       go_wp2_with fail
       go_still_tail 9,mixed
       go_wp2
       go_roundg (gk-1)
       case measure=>omega
       case rel =>
        refine ⟨m+1,dm.setIfInBounds i (z ^^^ (y0 ^^^ rol y1 1)),by omega,?_,?_,?_,?_⟩
        ·rw[← Hi.out];go_num
        ·exact Holds.drew (Holds.set hM (by omega) _)
        ·exact (hOm.setCell (Nat.le_add_right _ _) (by omega) _).drew
        ·show _=xorAt (innerTo (y0 ^^^ rol y1 1) k dk m) (k+5*m) (y0 ^^^ rol y1 1)
         rw[← HM.out,Hi.out,← HZ.out]
         rfl
      ·have hm5:m=5:=by omega
       subst hm5
       have r1:(25:Int)≤((k+5*5:Nat):Int):=by omega
       generalize hi:k+5*5=i at *
       go_wp2
       go_roundg (4-k)
       case measure=>omega
       case rel =>
        refine ⟨k+1,dm,by omega,by go_num,hM,hO.trans hOm,?_⟩
        show _=innerTo (dcol sk k) k (thetaTo sk d k) 5
        rw[← HE.out,HD.out]
        exact HM.out
    ·have hk5:k=5:=by omega
     subst hk5
     go_wp2
     go_end0
     refine ⟨rfl,hO2.trans hO,?_⟩
     have:theta d=dk:=by rw[HE.out,HS.out];rfl
     rw[this]
     exact hD
end SP
namespace SP
open Go.RowKit Go.Sort
attribute [local go_sem] bits_xor64 bits_and64 bits_or64
theorem offs_int (t:Nat) (h:t<24):(wrap64 ((wrap64 (((t:Int)+1)*((t:Int)+2))).tdiv 2)).tmod 64=(offs t:Int):=by
 have H:∀ j:Fin 24,(wrap64 ((wrap64 (((j.val:Int)+1)*((j.val:Int)+2))).tdiv 2)).tmod 64=(offs j.val:Int):=by decide +kernel
 exact H ⟨t,h⟩
theorem turnAndMove_any (b off:Nat) (d:St) (w:World) (hd:d.size=25) (hH:Holds enc w b off d) :
 Calls Tryd.prog 80 #[.pointer (some ⟨b,off,none⟩)] w fun e w'=>e=.returned (.tuple #[])∧Only b off 25 w w'∧Holds enc w' b off (rhopi d):=by
 obtain ⟨x1,hx1⟩:∃ x,d[1]! = x:=⟨_,rfl⟩
 obtain ⟨c1,f1⟩:=at_word hH 1 (by omega) hx1
 go_enter Tryd.func80,Tryd.ntmps80
 go_wp2
 go_loopg [2,3,4,12] 24 (fun g sx sy sm st wr=>∃ t T,t+g=24∧st=.int .i64 (t:Nat)∧sx=.int .i64 (T.x:Nat)∧sy=.int .i64 (T.y:Nat)∧sm=.int .u64 (u T.m)∧Holds enc wr b off T.d∧Only b off 25 w wr∧Hid (T=tmTo d t))
 case atStart=>exact ⟨0,tmTo d 0,rfl,rfl,rfl,rfl,by rw[← hx1];rfl,hH,Only.refl _ _ _ _,rfl⟩
 case round =>
  obtain ⟨t,⟨x,y,m,dk⟩,ht,rfl,rfl,rfl,rfl,hD,hO,HE⟩:=hrel
  have hok:=tmTo_ok d hd t
  rw[← HE.out] at hok
  obtain ⟨hx,hy,hs⟩:=hok
  dsimp only at hx hy hs hD
  clear c1 f1 hx1
  by_cases hlt:t<24
  ·obtain ⟨i,hi⟩:∃ i,y+5*((2*x+3*y)%5)=i:=⟨_,rfl⟩
   obtain ⟨z,hz⟩:∃ z,dk[i]! = z:=⟨_,rfl⟩
   have hib:i<25:=by omega
   obtain ⟨c,f⟩:=at_word hD i (by omega) hz
   have Hz:Hid (dk[i]! = z):=hz
   have Hi:Hid (y+5*((2*x+3*y)%5)=i):=hi
   have l24:(t:Int)<24:=by omega
   clear hz hi
   go_wp2_with fail
   rw[offs_int t hlt]
   refine (rotl_any m (offs t) _ (Nat.mod_lt _ (by decide))).mono ?_
   rintro e w' ⟨rfl,rfl⟩
   go_wp2_with fail
   obtain ⟨y2,hy2⟩:∃ n,(2*x+3*y)%5=n:=⟨_,rfl⟩
   have hy2':(2*(x:Int)+3*(y:Int))%5=(y2:Int):=by omega
   rw[hy2']
   have Hy2:Hid ((2*x+3*y)%5=y2):=hy2
   have r0:y2<5:=by omega
   clear hy2 hy2'
   have r1:(0:Int)≤(y:Int)+5*(y2:Int):=by omega
   have r2:(y:Int)+5*(y2:Int)<25:=by omega
   have r3:((y:Int)+5*(y2:Int)).toNat=i:=by have:=Hi.out;have:=Hy2.out;omega
   have s1:IntKind.i64.wrap (5*(y2:Int))=5*(y2:Int):=IntWalk.i64_in _ (by omega)
   have s2:IntKind.i64.wrap ((y:Int)+5*(y2:Int))=(y:Int)+5*(y2:Int):=IntWalk.i64_in _ (by omega)
   go_region
   go_wp2
   go_roundg (gk-1)
   case measure=>omega
   case rel =>
    refine ⟨t+1,⟨y,y2,z,dk.setIfInBounds i (rol m (offs t))⟩,by omega,by go_num,rfl,rfl,rfl,?_,?_,?_⟩
    ·exact Holds.drew (Holds.set hD (by omega) _)
    ·exact (hO.setCell (Nat.le_add_right _ _) (by omega) _).drew
    ·show _=tmStep t (tmTo d t)
     rw[← HE.out]
     simp only[tmStep,Hy2.out]
     have e:y+5*y2=i:=by have:=Hi.out;have:=Hy2.out;omega
     rw[e,Hz.out]
  ·have ht24:t=24:=by omega
   subst ht24
   go_wp2
   go_end0
   refine ⟨rfl,hO,?_⟩
   show Holds enc _ b off (tmTo d 24).d
   rw[← HE.out]
   exact hD
end SP
namespace SP
open Go.RowKit Go.Sort
attribute [local go_sem] bits_xor64 bits_and64 bits_or64 bits_not64
theorem mixRows_any (b off:Nat) (d:St) (w:World) (hd:d.size=25) (hH:Holds enc w b off d) :
 Calls Tryd.prog 81 #[.pointer (some ⟨b,off,none⟩)] w fun e w'=>e=.returned (.tuple #[])∧Only b off 25 w w'∧Holds enc w' b off (chi d):=by
 go_enter Tryd.func81,Tryd.ntmps81
 go_wp2
 go_loopg [2] 5 (fun g si wr=>∃ k dk,k+g=5∧si=.int .i64 ((5*k:Nat):Int)∧Holds enc wr b off dk∧Only b off 25 w wr∧Hid (dk=chiTo d k))
 case atStart=>exact ⟨0,d,rfl,rfl,hH,Only.refl _ _ _ _,rfl⟩
 case round =>
  obtain ⟨k,dk,hk,rfl,hD,hO,HE⟩:=hrel
  have hs:dk.size=25:=by rw[HE.out,chiTo_size,hd]
  by_cases hlt:k<5
  ·obtain ⟨i,hi⟩:∃ i,5*k=i:=⟨_,rfl⟩
   rw[hi]
   have Hi:Hid (5*k=i):=hi
   obtain ⟨x0,hx0⟩:∃ x,dk[i]! = x:=⟨_,rfl⟩
   obtain ⟨x1,hx1⟩:∃ x,dk[i+1]! = x:=⟨_,rfl⟩
   obtain ⟨x2,hx2⟩:∃ x,dk[i+2]! = x:=⟨_,rfl⟩
   obtain ⟨x3,hx3⟩:∃ x,dk[i+3]! = x:=⟨_,rfl⟩
   obtain ⟨x4,hx4⟩:∃ x,dk[i+4]! = x:=⟨_,rfl⟩
   obtain ⟨c0,f0⟩:=at_word hD i (by omega) hx0
   obtain ⟨c1,f1⟩:=at_word hD (i+1) (by omega) hx1
   obtain ⟨c2,f2⟩:=at_word hD (i+2) (by omega) hx2
   obtain ⟨c3,f3⟩:=at_word hD (i+3) (by omega) hx3
   obtain ⟨c4,f4⟩:=at_word hD (i+4) (by omega) hx4
   have HX0:Hid (dk[i]! = x0):=hx0
   have HX1:Hid (dk[i+1]! = x1):=hx1
   have HX2:Hid (dk[i+2]! = x2):=hx2
   have HX3:Hid (dk[i+3]! = x3):=hx3
   have HX4:Hid (dk[i+4]! = x4):=hx4
   have Q0:=HX0
   have Q1:=HX1
   have Q2:=HX2
   have Q3:=HX3
   have Q4:=HX4
   have i20:i≤20:=by omega
   clear hx0 hx1 hx2 hx3 hx4 hi
   have b0:(i:Int)<25:=by omega
   have b1:(i:Int)+1<25:=by omega
   have p1:0≤(i:Int)+1:=by omega
   have e1:((i:Int)+1).toNat=i+1:=by omega
   have v1:IntKind.i64.wrap ((i:Int)+1)=(i:Int)+1:=IntWalk.i64_in _ (by omega)
   have b2:(i:Int)+2<25:=by omega
   have p2:0≤(i:Int)+2:=by omega
   have e2:((i:Int)+2).toNat=i+2:=by omega
   have v2:IntKind.i64.wrap ((i:Int)+2)=(i:Int)+2:=IntWalk.i64_in _ (by omega)
   have b3:(i:Int)+3<25:=by omega
   have p3:0≤(i:Int)+3:=by omega
   have e3:((i:Int)+3).toNat=i+3:=by omega
   have v3:IntKind.i64.wrap ((i:Int)+3)=(i:Int)+3:=IntWalk.i64_in _ (by omega)
   have b4:(i:Int)+4<25:=by omega
   have p4:0≤(i:Int)+4:=by omega
   have e4:((i:Int)+4).toNat=i+4:=by omega
   have v4:IntKind.i64.wrap ((i:Int)+4)=(i:Int)+4:=IntWalk.i64_in _ (by omega)
   go_wp2_with fail
   go_quiet (fail)
   clear c1 c2 c3 c4 f1 f2 f3 f4 b1 p1 e1 v1 b2 p2 e2 v2 b3 p3 e3 v3 b4 p4 e4 v4
   go_wp2_with fail
   go_region
   go_wp2_with fail
   generalize hW0:World.setCell _ _ _=W0
   have hs0:(xorAt dk i (~~~x1 &&& x2)).size=25:=by rw[xorAt_size];omega
   have hD0:Holds enc W0 b off (xorAt dk i (~~~x1 &&& x2)):=by rw[← hW0];exact Holds.xor (Holds.drewN hD _) (by omega) HX0.out _
   have hO0:Only b off 25 w W0:=by rw[← hW0];exact (hO.drewN _).setCell (o:=off+i) (by omega) (by omega) _
   generalize hd0:xorAt dk i (~~~x1 &&& x2)=d0 at *
   have Hd0:Hid (xorAt dk i (~~~x1 &&& x2)=d0):=hd0
   have HX1:Hid (d0[i+1]! = x1):=by show _=_;rw[← hd0,xorAt_other _ _ _ _ (by omega)];exact HX1.out
   have HX2:Hid (d0[i+2]! = x2):=by show _=_;rw[← hd0,xorAt_other _ _ _ _ (by omega)];exact HX2.out
   have HX3:Hid (d0[i+3]! = x3):=by show _=_;rw[← hd0,xorAt_other _ _ _ _ (by omega)];exact HX3.out
   have HX4:Hid (d0[i+4]! = x4):=by show _=_;rw[← hd0,xorAt_other _ _ _ _ (by omega)];exact HX4.out
   obtain ⟨c1,f1⟩:=at_word hD0 (i+1) (by omega) HX1.out
   clear hd0 hW0 c0 f0
   have b1:(i:Int)+1<25:=by omega
   have p1:0≤(i:Int)+1:=by omega
   have e1:((i:Int)+1).toNat=i+1:=by omega
   have v1:IntKind.i64.wrap ((i:Int)+1)=(i:Int)+1:=IntWalk.i64_in _ (by omega)
   go_region
   go_wp2_with fail
   generalize hW1:World.setCell _ _ _=W1
   have hs1:(xorAt d0 (i+1) (~~~x2 &&& x3)).size=25:=by rw[xorAt_size];omega
   have hD1:Holds enc W1 b off (xorAt d0 (i+1) (~~~x2 &&& x3)):=by rw[← hW1];exact Holds.xor hD0 (by omega) HX1.out _
   have hO1:Only b off 25 w W1:=by rw[← hW1];exact (hO0).setCell (o:=off+(i+1)) (by omega) (by omega) _
   generalize hd1:xorAt d0 (i+1) (~~~x2 &&& x3)=d1 at *
   have Hd1:Hid (xorAt d0 (i+1) (~~~x2 &&& x3)=d1):=hd1
   have HX2:Hid (d1[i+2]! = x2):=by show _=_;rw[← hd1,xorAt_other _ _ _ _ (by omega)];exact HX2.out
   have HX3:Hid (d1[i+3]! = x3):=by show _=_;rw[← hd1,xorAt_other _ _ _ _ (by omega)];exact HX3.out
   have HX4:Hid (d1[i+4]! = x4):=by show _=_;rw[← hd1,xorAt_other _ _ _ _ (by omega)];exact HX4.out
   obtain ⟨c2,f2⟩:=at_word hD1 (i+2) (by omega) HX2.out
   clear hd1 hW1 c1 f1
   clear b1 p1 e1 v1
   have b2:(i:Int)+2<25:=by omega
   have p2:0≤(i:Int)+2:=by omega
   have e2:((i:Int)+2).toNat=i+2:=by omega
   have v2:IntKind.i64.wrap ((i:Int)+2)=(i:Int)+2:=IntWalk.i64_in _ (by omega)
   go_region
   go_wp2_with fail
   generalize hW2:World.setCell _ _ _=W2
   have hs2:(xorAt d1 (i+2) (~~~x3 &&& x4)).size=25:=by rw[xorAt_size];omega
   have hD2:Holds enc W2 b off (xorAt d1 (i+2) (~~~x3 &&& x4)):=by rw[← hW2];exact Holds.xor hD1 (by omega) HX2.out _
   have hO2:Only b off 25 w W2:=by rw[← hW2];exact (hO1).setCell (o:=off+(i+2)) (by omega) (by omega) _
   generalize hd2:xorAt d1 (i+2) (~~~x3 &&& x4)=d2 at *
   have Hd2:Hid (xorAt d1 (i+2) (~~~x3 &&& x4)=d2):=hd2
   have HX3:Hid (d2[i+3]! = x3):=by show _=_;rw[← hd2,xorAt_other _ _ _ _ (by omega)];exact HX3.out
   have HX4:Hid (d2[i+4]! = x4):=by show _=_;rw[← hd2,xorAt_other _ _ _ _ (by omega)];exact HX4.out
   obtain ⟨c3,f3⟩:=at_word hD2 (i+3) (by omega) HX3.out
   clear hd2 hW2 c2 f2
   clear b2 p2 e2 v2
   have b3:(i:Int)+3<25:=by omega
   have p3:0≤(i:Int)+3:=by omega
   have e3:((i:Int)+3).toNat=i+3:=by omega
   have v3:IntKind.i64.wrap ((i:Int)+3)=(i:Int)+3:=IntWalk.i64_in _ (by omega)
   go_region
   go_wp2_with fail
   generalize hW3:World.setCell _ _ _=W3
   have hs3:(xorAt d2 (i+3) (~~~x4 &&& x0)).size=25:=by rw[xorAt_size];omega
   have hD3:Holds enc W3 b off (xorAt d2 (i+3) (~~~x4 &&& x0)):=by rw[← hW3];exact Holds.xor hD2 (by omega) HX3.out _
   have hO3:Only b off 25 w W3:=by rw[← hW3];exact (hO2).setCell (o:=off+(i+3)) (by omega) (by omega) _
   generalize hd3:xorAt d2 (i+3) (~~~x4 &&& x0)=d3 at *
   have Hd3:Hid (xorAt d2 (i+3) (~~~x4 &&& x0)=d3):=hd3
   have HX4:Hid (d3[i+4]! = x4):=by show _=_;rw[← hd3,xorAt_other _ _ _ _ (by omega)];exact HX4.out
   obtain ⟨c4,f4⟩:=at_word hD3 (i+4) (by omega) HX4.out
   clear hd3 hW3 c3 f3
   clear b3 p3 e3 v3
   have b4:(i:Int)+4<25:=by omega
   have p4:0≤(i:Int)+4:=by omega
   have e4:((i:Int)+4).toNat=i+4:=by omega
   have v4:IntKind.i64.wrap ((i:Int)+4)=(i:Int)+4:=IntWalk.i64_in _ (by omega)
   go_region
   go_wp2
   generalize hW4:World.setCell _ _ _=W4
   have hs4:(xorAt d3 (i+4) (~~~x0 &&& x1)).size=25:=by rw[xorAt_size];omega
   have hD4:Holds enc W4 b off (xorAt d3 (i+4) (~~~x0 &&& x1)):=by rw[← hW4];exact Holds.xor hD3 (by omega) HX4.out _
   have hO4:Only b off 25 w W4:=by rw[← hW4];exact (hO3).setCell (o:=off+(i+4)) (by omega) (by omega) _
   generalize hd4:xorAt d3 (i+4) (~~~x0 &&& x1)=d4 at *
   have Hd4:Hid (xorAt d3 (i+4) (~~~x0 &&& x1)=d4):=hd4
   clear hd4 hW4 c4 f4
   clear b4 p4 e4 v4
   go_roundg (gk-1)
   case measure=>omega
   case rel =>
    refine ⟨k+1,d4,by omega,?_,?_,?_,?_⟩
    ·rw[← Hi.out];go_num
    ·exact hD4
    ·exact hO4.drewN 4
    ·show d4=rowAt (chiTo d k) (5*k)
     rw[← HE.out,Hi.out]
     unfold rowAt
     rw[Q0.out,Q1.out,Q2.out,Q3.out,Q4.out,Hd0.out,Hd1.out,Hd2.out,Hd3.out,Hd4.out]
  ·have hk5:k=5:=by omega
   subst hk5
   go_wp2
   go_end0
   refine ⟨rfl,hO,?_⟩
   show Holds enc _ b off (chiTo d 5)
   rw[← HE.out]
   exact hD
end SP
namespace SP
open Go.RowKit Go.Sort
attribute [local go_sem] bits_xor64 bits_and64 bits_or64 wrap_u
theorem place_int (j:Nat) (hj:j<7):∃ p:Nat,wrap64 (wrap64 ((2:Int)^j)-1)=(p:Int)∧p≤63∧Hid (2^j-1=p):=by
 have H:∀ j:Fin 7,wrap64 (wrap64 ((2:Int)^j.val)-1)=((2^j.val-1:Nat):Int)∧2^j.val-1≤63:=by decide +kernel
 exact ⟨_,(H ⟨j,hj⟩).1,(H ⟨j,hj⟩).2,rfl⟩
theorem roundConstant_any (r:Nat) (w:World) (hr:r<256) :
 Calls Tryd.prog 82 #[.int .i64 r] w fun e w'=>e=.returned (.tuple #[.int .u64 (u (rcC r)),.int .i64 (rcN r:Int)])∧w'=w:=by
 go_enter Tryd.func82,Tryd.ntmps82
 go_wp2
 go_loop [0,2,6] (fun s0 s2 s6=>∃ j:Nat,j≤7∧∃ (c:BitVec 64) (q:Nat),s6=.int .i64 j∧s2=.int .u64 (u c)∧s0=.int .i64 q∧q<256∧Hid (rcTo r j=(c,q))) (fun _ _ s6=>7-(intOf s6).toNat)
 case atStart=>exact ⟨0,by decide,0,r,rfl,rfl,rfl,hr,rfl⟩
 case round =>
  obtain ⟨j,hj,c,q,rfl,rfl,rfl,hq,HE⟩:=hrel
  by_cases hlt:j<7
  ·have a1:=rc_and q hq
   have a2:=rc_xor q hq
   obtain ⟨p,a3,hp,HP⟩:=place_int j hlt
   have HC:Hid (rcTo r (j+1)=(c ||| BitVec.ofNat 64 (q%2) <<< p,rcReg q)):=by
    show ((rcTo r j).1 ||| BitVec.ofNat 64 ((rcTo r j).2%2) <<< (2^j-1),rcReg (rcTo r j).2)=_
    rw[HE.out,HP.out]
   have hs:=shl64 (BitVec.ofNat 64 (q%2)) p
   have hlt2:=rcReg_lt q hq
   by_cases h255:255<2*q
   ·have HR:Hid (rcReg q=2*q ^^^ 369):=if_pos h255
    rw[HR.out] at hlt2
    generalize 2*q ^^^ 369=q2 at *
    go_wp2
    go_round
    case rel=>exact ⟨j+1,by omega,_,q2,by go_num,rfl,rfl,hlt2,by rw[HC.out,HR.out];rfl⟩
    case measure=>simp[intOf];omega
   ·have HR:Hid (rcReg q=2*q):=if_neg h255
    go_wp2
    go_round
    case rel=>exact ⟨j+1,by omega,_,2*q,by go_num,rfl,by go_num,by omega,by rw[HC.out,HR.out];rfl⟩
    case measure=>simp[intOf];omega
  ·have hj7:j=7:=by omega
   subst hj7
   go_wp2
   go_ret2
   unfold rcC rcN
   rw[HE.out]
   exact ⟨rfl,rfl⟩
theorem permute_any (b off:Nat) (d:St) (w:World) (hd:d.size=25) (hH:Holds enc w b off d) :
 Calls Tryd.prog 56 #[.pointer (some ⟨b,off,none⟩)] w fun e w'=>e=.returned (.tuple #[])∧Only b off 25 w w'∧Holds enc w' b off (perm d):=by
 go_enter Tryd.func56,Tryd.ntmps56
 go_wp2
 go_loopg [2,3,4] 24 (fun g sc sr sk wr=>∃ (k:Nat) (c:BitVec 64) (dk:St),k+g=24∧sk=.int .i64 k∧sc=.int .u64 (u c)∧sr=.int .i64 (rcAt k:Nat)∧Holds enc wr b off dk∧Only b off 25 w wr∧Hid (dk=permTo d k))
 case atStart=>exact ⟨0,0,d,rfl,rfl,rfl,rfl,hH,Only.refl _ _ _ _,rfl⟩
 case round =>
  obtain ⟨k,c,dk,hk,rfl,rfl,rfl,hD,hO,HE⟩:=hrel
  have hs:dk.size=25:=by rw[HE.out,permTo_size d hd]
  by_cases hlt:k<24
  ·have k24:(k:Int)<24:=by omega
   go_wp2_with fail
   refine (mixColumns_any b off dk _ hs hD).mono ?_
   rintro e w1 ⟨rfl,hO1,hD1⟩
   go_wp2_with fail
   refine (turnAndMove_any b off _ _ (by rw[theta_size,hs]) hD1).mono ?_
   rintro e w2 ⟨rfl,hO2,hD2⟩
   go_wp2_with fail
   refine (mixRows_any b off _ _ (rhopi_size _ (by rw[theta_size,hs])) hD2).mono ?_
   rintro e w3 ⟨rfl,hO3,hD3⟩
   have HN:Hid (rcAt (k+1)=rcN (rcAt k)):=rfl
   have HK:Hid (permTo d (k+1)=kround (permTo d k) (rcC (rcAt k))):=rfl
   have hrl:=rcAt_lt k
   generalize rcAt k=r at *
   go_wp2_with fail
   refine (roundConstant_any r _ hrl).mono ?_
   rintro e w4 ⟨rfl,rfl⟩
   have hs3:(chi (rhopi (theta dk))).size=25:=by rw[chi_size,rhopi_size _ (by rw[theta_size,hs])]
   obtain ⟨x,hx⟩:∃ x,(chi (rhopi (theta dk)))[0]! = x:=⟨_,rfl⟩
   obtain ⟨c0,f0⟩:=at_word hD3 0 (by omega) hx
   rw[Nat.add_zero] at c0 f0
   have HX:Hid ((chi (rhopi (theta dk)))[0]! = x):=hx
   clear hx
   go_wp2_with fail
   go_region
   go_wp2
   go_roundg (gk-1)
   case measure=>omega
   case rel =>
    refine ⟨k+1,rcC r,kround dk (rcC r),by omega,by go_num,rfl,by rw[HN.out],?_,?_,?_⟩
    ·exact Holds.drew (Holds.xor (i:=0) hD3 (by omega) HX.out (rcC r))
    ·exact ((((hO.trans hO1).trans hO2).trans hO3).setCell (o:=off) (by omega) (by omega) _).drew
    ·rw[HK.out,HE.out];rfl
  ·have hk24:k=24:=by omega
   subst hk24
   go_wp2
   go_end0
   refine ⟨rfl,hO,?_⟩
   unfold perm
   rw[← HE.out]
   exact hD
end SP
namespace SP
open Go.RowKit Go.Sort Go.Deep
attribute [local go_sem] bits_xor64 bits_and64 bits_or64 wrap_u wrap_ub
theorem at_byte {w:World} {b off:Nat} {d:Bs} (h:Holds encB w b off d) (i:Nat) (hi:i<d.size) {x:UInt8} (hx:d[i]! = x) :
 w.cell? ⟨b,off+i,none⟩=some (.int .u8 (ub x))∧w.frozen? ⟨b,off+i,none⟩=false:=by
 rw[← hx];exact h i hi
theorem word_any (sb so o len cap:Nat) (bs:Bs) (w:World) (hB:Holds encB w sb so bs) (h8:8≤len) (ho:o+8≤bs.size) (hl:len≤4611686018427387904) :
 Calls Tryd.prog 78 #[.slice (some ⟨sb,so+o,none⟩) len cap] w fun e w'=>e=.returned (.int .u64 (u (wordOf bs o)))∧w'=w:=by
 go_enter Tryd.func78,Tryd.ntmps78
 go_wp2
 go_loop [3,5] (fun s3 s5=>∃ (k:Nat) (c:BitVec 64),k≤8∧s5=.int .i64 k∧s3=.int .u64 (u c)∧Hid (wordTo bs o k=c)) (fun _ s5=>8-(intOf s5).toNat)
 case atStart=>exact ⟨0,0,by decide,rfl,rfl,rfl⟩
 case round =>
  obtain ⟨k,c,hk,rfl,rfl,HE⟩:=hrel
  by_cases hlt:k<8
  ·obtain ⟨x,hx⟩:∃ x,bs[o+k]! = x:=⟨_,rfl⟩
   obtain ⟨c0,f0⟩:=at_byte hB (o+k) (by omega) hx
   rw[← Nat.add_assoc] at c0
   have HC:Hid (wordTo bs o (k+1)=c ||| wide x <<< (8*k)):=by
    show wordTo bs o k ||| wide bs[o+k]! <<< (8*k)=_
    rw[HE.out,hx]
   clear hx f0
   have hs:=shl64 (wide x) (8*k)
   have k8:(k:Int)<(len:Int):=by omega
   go_wp2
   go_round
   case rel=>exact ⟨k+1,_,by omega,by go_num,rfl,HC⟩
   case measure=>simp[intOf];omega
  ·have hk8:k=8:=by omega
   subst hk8
   go_wp2
   go_ret
   unfold wordOf
   rw[HE.out]
   exact ⟨rfl,rfl⟩
theorem mix_any (b off sb so len cap:Nat) (bs:Bs) (d:St) (w:World) (hd:d.size=25) (hH:Holds enc w b off d) (hB:Holds encB w sb so bs) (hl:bs.size=len) (hlen:len≤200) (hcap:len≤cap)
 (hdis:sb≠b∨so+len≤off∨off+25≤so) :
 Calls Tryd.prog 55 #[.pointer (some ⟨b,off,none⟩),.slice (some ⟨sb,so,none⟩) len cap] w fun e w'=>e=.returned (.tuple #[])∧Only b off 25 w w'∧Holds enc w' b off (mixTo bs d (len/8)):=by
 go_enter Tryd.func55,Tryd.ntmps55
 go_wp2
 go_loopg [8] (len/8) (fun g s8 wr=>∃ (k:Nat) (dk:St),k+g=len/8∧s8=.int .i64 k∧Holds enc wr b off dk∧Only b off 25 w wr∧Hid (dk=mixTo bs d k))
 case atStart=>exact ⟨0,d,by omega,rfl,hH,Only.refl _ _ _ _,rfl⟩
 case round =>
  obtain ⟨k,dk,hk,rfl,hD,hO,HE⟩:=hrel
  have hs:dk.size=25:=by rw[HE.out,mixTo_size,hd]
  by_cases hlt:k<len/8
  ·have hBr:Holds encB wr sb so bs:=by
    by_cases hsb:sb=b
    ·subst hsb
     exact Holds.same hB hO (by omega)
    ·exact Holds.other hB hO hsb (by omega)
   obtain ⟨x,hx⟩:∃ x,dk[k]! = x:=⟨_,rfl⟩
   obtain ⟨c0,f0⟩:=at_word hD k (by omega) hx
   have HX:Hid (dk[k]! = x):=hx
   clear hx
   have r0:(k:Int)<25:=by omega
   have r1:(0:Int)≤(k:Int)*8:=by omega
   have r2:(k:Int)*8≤(len:Int):=by omega
   have r3:((k:Int)*8).toNat=8*k:=by omega
   have s1:IntKind.i64.wrap ((k:Int)*8)=(k:Int)*8:=IntWalk.i64_in _ (by omega)
   have lt:(k:Int)<(len:Int)/8:=by omega
   go_wp2_with fail
   have hne:(cap=8*k)=False:=eq_false (by omega)
   have HB:Hid (Holds encB wr.drew sb so bs):=Holds.drew hBr
   have Q4:Hid (8*k+8≤bs.size):=by show _≤_;omega
   clear hBr
   go_region_with (go_at_call 78;refine (word_any sb so (8*k) (len-8*k) (cap-8*k) bs _ HB.out (by omega) Q4.out (by omega)).mono ?_;rintro e w2 ⟨rfl,rfl⟩)
   all_goals
    go_wp2
    go_roundg (gk-1)
    case measure=>omega
    case rel =>
     refine ⟨k+1,xorAt dk k (wordOf bs (8*k)),by omega,by go_num,?_,?_,?_⟩
     ·exact Holds.drew (Holds.xor hD (by omega) HX.out _)
     ·exact (hO.setCell (o:=off+k) (by omega) (by omega) _).drew
     ·rw[HE.out];rfl
  ·have hk8:k=len/8:=by omega
   have lt:(len:Int)/8≤(k:Int):=by omega
   go_wp2
   go_end0
   refine ⟨rfl,hO,?_⟩
   rw[← hk8,← HE.out]
   exact hD
theorem slice22:Tryd.prog.underlying 23=some (.slice 5):=by kernel_rfl
theorem info5:(Tryd.prog.info? 5).map (fun i=>(i.zero,i.size,i.bytes))=some (some (.int .u8 0),1,1):=by kernel_rfl
attribute [local go_sem] low_u
theorem front_any (b off n:Nat) (d:St) (w:World) (hd:d.size=25) (hH:Holds enc w b off d) (hn:n≤200) :
 Calls Tryd.prog 25 #[.pointer (some ⟨b,off,none⟩),.int .i64 n] w fun e w'=>e=.returned (.slice (some ⟨w.heap.size,0,none⟩) n n)∧Below w.heap.size w w'∧Holds encB w' w.heap.size 0 (front d n):=by
 have hb:=Holds.lt hH (by omega)
 have hmk:=run_make_row' (P:=Tryd.prog) 23 5 (.int .u8 0) 1 slice22 info5 rfl .i64 .i64 n (by omega) (by omega)
 go_enter Tryd.func25,Tryd.ntmps25
 go_wp2
 generalize hW1:(w.alloc _)=W1
 go_loopg [11] n (fun g s11 wr=>∃ (k:Nat) (bs:Bs),k+g=n∧s11=.int .i64 k∧Holds encB wr w.heap.size 0 bs∧Only w.heap.size 0 n W1 wr∧Hid (bs=frontTo d n k))
 case atStart =>
  refine ⟨0,_,by omega,rfl,?_,Only.refl _ _ _ _,rfl⟩
  rw[← hW1]
  exact Holds.made (enc:=encB) w 5 n 0
 case round =>
  obtain ⟨k,bs,hk,rfl,hB,hO,HE⟩:=hrel
  have hs:bs.size=n:=by rw[HE.out,frontTo_size]
  have hD:Holds enc wr b off d:=Holds.other (by rw[← hW1];exact Holds.below hH ((Below.refl _ _).alloc (Nat.le_refl _) _) hb) hO (by omega) (by omega)
  by_cases hlt:k<n
  ·obtain ⟨x,hx⟩:∃ x,d[k/8]! = x:=⟨_,rfl⟩
   obtain ⟨c0,f0⟩:=at_word hD (k/8) (by omega) hx
   obtain ⟨c1,f1⟩:=hB k (by omega)
   rw[Nat.zero_add] at c1 f1
   have HX:Hid (byteOf d k=low (x >>> (8*(k%8)))):=by show low _=_;rw[hx]
   clear hx f0
   have r0:(k:Int)/8<25:=by omega
   have r1:(k:Int)<(n:Int):=by omega
   have hsr:=shr64 x (8*(k%8))
   go_wp2
   go_roundg (gk-1)
   case measure=>omega
   case rel =>
    refine ⟨k+1,bs.setIfInBounds k (low (x >>> (8*(k%8)))),by omega,by go_num,?_,?_,?_⟩
    ·have:=Holds.set hB (i:=k) (by omega) (low (x >>> (8*(k%8))))
     rw[Nat.zero_add] at this
     exact this
    ·exact hO.setCell (o:=k) (by omega) (by omega) _
    ·show _=(frontTo d n k).setIfInBounds k (byteOf d k)
     rw[HX.out,HE.out]
  ·have hkn:k=n:=by omega
   have lt:(n:Int)≤(k:Int):=by omega
   go_wp2
   go_ret
   refine ⟨rfl,?_,?_⟩
   ·rw[← hW1] at hO
    exact hO.fresh
   ·unfold front
    rw[HE.out,hkn] at hB
    exact hB
end SP
namespace SP
open Go.RowKit
structure Of where
 x:Nat
 y:Nat
 o:Array Nat
end SP
namespace SP
theorem zx (x:BitVec 64):0 ^^^ x=x:=BitVec.zero_xor
end SP
namespace SP
open Go.Sort
def zero25:St:=Array.replicate 25 0
theorem zero25_at (j:Nat) (h:j<25):zero25[j]! = 0:=by
 have h':j<(Array.replicate 25 (0:BitVec 64)).size:=by rw[Array.size_replicate];exact h
 unfold zero25
 rw[getElem!_pos (Array.replicate 25 (0:BitVec 64)) j h',Array.getElem_replicate]
end SP
namespace SP
open Go.RowKit Go.Sort
end SP
namespace SP
open Go.RowKit Go.Sort
def fill (i:Nat):UInt8:=UInt8.ofNat (i%251) ^^^ 165
def lentTo (s:ByteArray):Nat→Bs
 | 0=>s.data++Array.replicate 160 0
 | k+1=>(lentTo s k).setIfInBounds (s.size+k) (fill (s.size+k))
def lent (s:ByteArray):Bs:=lentTo s 160
variable {w w1:World} {b o n:Nat}
theorem heap_setCells (b:Nat) {k:Nat} (hk:k≠b):∀ (vs:List Value) (p:Nat) (w:World),(w.setCells b p vs).heap[k]? = w.heap[k]?
 | [],_,_=>rfl
 | v :: r,p,w=>by rw[World.setCells,heap_setCells b hk r (p+1) _,Below.heap_setCell _ _ _ _ hk]
theorem Only.setCells (h:Only b o n w w1) (vs:List Value) (p:Nat) (hp:o≤p) (hn:p+vs.length≤o+n):Only b o n w (w1.setCells b p vs):=by
 have h0:=below_setCells (B:=0) (b:=b) (Nat.zero_le _) vs p w1 (Below.refl 0 w1)
 exact h.trans ⟨h0.os,h0.tape,h0.output,h0.size,fun k _ hk=>heap_setCells b hk vs p w1,
  fun q hq=>World.cell?_setCells_out b vs p w1 ⟨b,q,none⟩ (fun _ _=>by simp only;omega),fun q=>World.frozen?_setCells b vs p w1 _⟩
theorem Holds.setCells {bs r:Bs} (h:Holds encB w b o bs) (vs:List Value) (p:Nat) (hr:r.size=bs.size) (hp:p+vs.length≤bs.size)
 (h1:∀ j (hj:j<vs.length),vs[j]=encB r[p+j]!) (h2:∀ j,j<bs.size→j<p∨p+vs.length≤j→r[j]! = bs[j]!):Holds encB (w.setCells b (o+p) vs) b o r:=by
 intro j hj
 rw[hr] at hj
 rw[World.frozen?_setCells]
 refine ⟨?_,(h j hj).2⟩
 by_cases hin:j<p∨p+vs.length≤j
 ·rw[World.cell?_setCells_out b vs (o+p) w ⟨b,o+j,none⟩ (fun _ _=>by simp only;omega),h2 j hj hin]
  exact (h j hj).1
 ·have hj2:j-p<vs.length:=by omega
  have:=World.cell?_setCells_in b vs (o+p) w (fun i hi=>by
   have:=(h (p+i) (by omega)).1
   rw[← Nat.add_assoc] at this
   rw[this];rfl) (j-p) hj2
  rw[show o+p+(j-p)=o+j by omega] at this
  rw[this,h1 (j-p) hj2,show p+(j-p)=j by omega]
theorem app_front (a r:Bs) (j:Nat) (hj:j<a.size):(a++r)[j]! = a[j]:=by
 have h:j<(a++r).size:=by rw[Array.size_append];omega
 rw[getElem!_pos (a++r) j h,Array.getElem_append_left hj]
theorem app_back (a r:Bs) (j:Nat) (h1:a.size≤j) (h2:j<a.size+r.size):(a++r)[j]! = r[j-a.size]!:=by
 have h:j<(a++r).size:=by rw[Array.size_append];omega
 have h3:j-a.size<r.size:=by omega
 rw[getElem!_pos (a++r) j h,Array.getElem_append_right h1,getElem!_pos r (j-a.size) h3]
theorem rep_at (n j:Nat) (h:j<n):(Array.replicate n (0:UInt8))[j]! = 0:=by
 have h':j<(Array.replicate n (0:UInt8)).size:=by rw[Array.size_replicate];exact h
 rw[getElem!_pos (Array.replicate n (0:UInt8)) j h',Array.getElem_replicate]
theorem size_of5 (P:Program) (e:TypeId) (h:(P.info? e).map (·.size)=some 1):∀ w,(Go.sizeOf e).run P w=.ok 1 w:=by
 intro w
 cases hq:P.info? e with
 | none=>simp[hq] at h
 | some i =>
  simp[hq] at h
  simp[Go.sizeOf,typeInfo,hq,h]
theorem conv_str (P:Program) (src dst e:TypeId) (hs:P.underlying src=some (.slice e)) (he:P.underlying e=some (.int .u8)) (hd:P.underlying dst=some .string)
 (w:World) (b o n cap:Nat) (bs:Bs) (hB:Holds encB w b o bs) (hn:bs.size=n):(convert src dst (.slice (some ⟨b,o,none⟩) n cap)).run P w=.ok (.string ⟨bs⟩) w:=by
 have h:=run_convert_bytes_back (P:=P) w src dst e ⟨b,o,none⟩ cap bs.toList hs he hd (fun j hj=>by
  have hj':j<bs.size:=by simpa using hj
  have hc:=(hB j hj').1
  rw[getElem!_pos bs j hj'] at hc
  have e1:(⟨b,o,none⟩:Addr).add j=⟨b,o+j,none⟩:=by
   unfold Addr.add
   by_cases h0:j=0
   ·subst h0;rfl
   ·rw[if_neg h0]
  rw[e1,hc]
  simp[encB,ub])
 simpa[hn] using h
end SP
namespace SP
open Go.RowKit Go.Sort Go.Deep
theorem int5:Tryd.prog.underlying 5=some (.int .u8):=by kernel_rfl
theorem str9:Tryd.prog.underlying 9=some .string:=by kernel_rfl
theorem size5:∀ w,(Go.sizeOf 5).run Tryd.prog w=.ok 1 w:=size_of5 Tryd.prog 5 (by kernel_rfl)
end SP
namespace SP
open Go.Sort
theorem low_bit (v:BitVec 64) (i:Nat) (h:i<8):(low v).toNat.testBit i=v.getLsbD i:=by
 unfold low
 rw[UInt8.toNat_ofNat',Nat.testBit_mod_two_pow,BitVec.getLsbD]
 simp[h]
theorem frontTo_at (d:St) (n k j:Nat) (hk:k≤n) (hj:j<n):(frontTo d n k)[j]! = if j<k then byteOf d j else 0:=by
 induction k with
 | zero =>
  have h':j<(Array.replicate n (0:UInt8)).size:=by rw[Array.size_replicate];exact hj
  rw[frontTo,getElem!_pos (Array.replicate n (0:UInt8)) j h',Array.getElem_replicate,if_neg (by omega)]
 | succ k ih =>
  rw[frontTo]
  by_cases h:j=k
  ·subst h
   rw[getElem!_set_same _ _ _ (by rw[frontTo_size];exact hj),if_pos (by omega)]
  ·rw[getElem!_set_other _ _ _ _ h,ih (by omega)]
   by_cases h1:j<k
   ·rw[if_pos h1,if_pos (by omega)]
   ·rw[if_neg h1,if_neg (by omega)]
theorem front_at (d:St) (n j:Nat) (hj:j<n):(front d n)[j]! = byteOf d j:=by
 unfold front
 rw[frontTo_at d n n j (Nat.le_refl _) hj,if_pos hj]
/-! ### The sponge, byte by byte -/
structure Sp where
  d : St
  p : Bs
  h : Nat
structure Ok (S:Sp):Prop where
 d25:S.d.size=25
 p136:S.p.size=136
 hlt:S.h<136
def soakL (S:Sp):Sp:={ d:=perm (mixTo S.p S.d 17),p:=S.p,h:=0 }
def putB (S:Sp) (x:UInt8):Sp:=
 if S.h+1=136 then soakL { d:=S.d,p:=S.p.setIfInBounds S.h x,h:=S.h } else { d:=S.d,p:=S.p.setIfInBounds S.h x,h:=S.h+1 }
def takeL (S:Sp) (l:List UInt8):Sp:=l.foldl putB S
def splice (p:Bs):Nat→List UInt8→Bs
 | _,[]=>p
 | i,x :: r=>splice (p.setIfInBounds i x) (i+1) r
theorem takeL_append (S:Sp) (a b:List UInt8):takeL S (a++b)=takeL (takeL S a) b:=List.foldl_append
theorem splice_size (p:Bs) (i:Nat) (l:List UInt8):(splice p i l).size=p.size:=by
 induction l generalizing p i with
 | nil=>rfl
 | cons x r ih=>rw[splice,ih,Array.size_setIfInBounds]
theorem splice_at (p:Bs) (i:Nat) (l:List UInt8) (j:Nat) (hl:i+l.length≤p.size) (hj:j<p.size):(splice p i l)[j]! = if i≤j∧j<i+l.length then l[j-i]! else p[j]!:=by
 induction l generalizing p i with
 | nil=>simp[splice];omega
 | cons x r ih =>
  simp only[List.length_cons] at hl
  rw[splice,ih _ _ (by rw[Array.size_setIfInBounds];omega) (by rw[Array.size_setIfInBounds];exact hj)]
  by_cases h:j=i
  ·subst h
   rw[if_neg (by omega),getElem!_set_same _ _ _ hj,if_pos (by simp),Nat.sub_self]
   rfl
  ·rw[getElem!_set_other _ _ _ _ h]
   by_cases h1:i+1≤j∧j<i+1+r.length
   ·rw[if_pos h1,if_pos (by simp;omega),show j-i=(j-(i+1))+1 by omega]
    rfl
   ·rw[if_neg h1,if_neg (by simp;omega)]
theorem soak_mk (d:St) (p:Bs) (h:Nat):soakL ⟨d,p,h⟩=⟨perm (mixTo p d 17),p,0⟩:=by unfold soakL;rfl
theorem soakL_d (S:Sp):(soakL S).d=perm (mixTo S.p S.d 17):=by
 obtain ⟨d,p,h⟩:=S
 rw[soak_mk]
theorem soakL_p (S:Sp):(soakL S).p=S.p:=by
 obtain ⟨d,p,h⟩:=S
 rw[soak_mk]
theorem soakL_h (S:Sp):(soakL S).h=0:=by
 obtain ⟨d,p,h⟩:=S
 rw[soak_mk]
theorem soak_ok {S:Sp} (h1:S.d.size=25) (h2:S.p.size=136):Ok (soakL S):=by
 have hd:(mixTo S.p S.d 17).size=25:=by rw[mixTo_size,h1]
 refine ⟨?_,by rw[soakL_p,h2],?_⟩
 ·rw[soakL_d]
  exact perm_size _ hd
 ·rw[soakL_h]
  decide
theorem putB_ok {S:Sp} (h:Ok S) (x:UInt8):Ok (putB S x):=by
 have:=h.hlt
 unfold putB
 by_cases e:S.h+1=136
 ·rw[if_pos e]
  exact soak_ok h.d25 (by show (S.p.setIfInBounds _ _).size=136;rw[Array.size_setIfInBounds];exact h.p136)
 ·rw[if_neg e]
  exact ⟨h.d25,by show (S.p.setIfInBounds _ _).size=136;rw[Array.size_setIfInBounds];exact h.p136,by show S.h+1<136;omega⟩
theorem takeL_ok {S:Sp} (h:Ok S) (l:List UInt8):Ok (takeL S l):=by
 induction l generalizing S with
 | nil=>exact h
 | cons x r ih=>exact ih (putB_ok h x)
theorem takeL_chunk (S:Sp) (l:List UInt8) (hl:l≠[]) (hle:S.h+l.length≤136) :
 takeL S l=if S.h+l.length=136 then soakL { d:=S.d,p:=splice S.p S.h l,h:=S.h } else { d:=S.d,p:=splice S.p S.h l,h:=S.h+l.length }:=by
 induction l generalizing S with
 | nil=>exact absurd rfl hl
 | cons x r ih =>
  show takeL (putB S x) r=_
  simp only[List.length_cons] at hle ⊢
  cases r with
  | nil =>
   unfold putB takeL splice
   simp only[List.foldl_nil,List.length_nil]
   by_cases e:S.h+1=136
   ·rw[if_pos e,if_pos (by omega)];rfl
   ·rw[if_neg e,if_neg (by omega)];rfl
  | cons y r' =>
   have e:¬ S.h+1=136:=by simp only[List.length_cons] at hle;omega
   have hp:putB S x = { d:=S.d,p:=S.p.setIfInBounds S.h x,h:=S.h+1 }:=by unfold putB;rw[if_neg e]
   rw[hp,ih _ (by simp) (by simp only[List.length_cons] at hle ⊢;omega)]
   simp only[splice,List.length_cons]
   by_cases e2:S.h+(r'.length+1+1)=136
   ·rw[if_pos (by omega),if_pos e2];rfl
   ·rw[if_neg (by omega),if_neg e2,show S.h+1+(r'.length+1)=S.h+(r'.length+1+1) by omega]
/-! ### The end -/
def ended (p : Bs) (h : Nat) (e : UInt8) : Bs:=
  let q:=(splice p h (List.replicate (136-h) 0)).setIfInBounds h e
  q.setIfInBounds 135 (q[135]! ^^^ 128)
def finalL (S:Sp) (e:UInt8):Sp:=soakL { d:=S.d,p:=ended S.p S.h e,h:=S.h }
def tailpad (h:Nat) (e:UInt8):List UInt8:=
 (e :: List.replicate (135-h) 0).set (135-h) ((e :: List.replicate (135-h) 0)[135-h]! ^^^ 128)
theorem tailpad_length (h:Nat) (e:UInt8) (hh:h<136):(tailpad h e).length=136-h:=by
 unfold tailpad
 rw[List.length_set,List.length_cons,List.length_replicate]
 omega
theorem bs_ext (a b:Bs) (n:Nat) (ha:a.size=n) (hb:b.size=n) (h:∀ j,j<n→a[j]! = b[j]!):a=b:=by
 apply Array.ext (by omega)
 intro i h1 h2
 have:=h i (by omega)
 rwa[getElem!_pos a i h1,getElem!_pos b i h2] at this
theorem pad_at (h:Nat) (e:UInt8) (j:Nat) (hj:j<136-h) (hh:h<136):(tailpad h e)[j]! = (if j=0 then e else 0) ^^^ (if j=135-h then 128 else 0):=by
 have hc:∀ j,j<136-h→(e :: List.replicate (135-h) (0:UInt8))[j]! = if j=0 then e else 0:=by
  intro j hj
  cases j with
  | zero=>rfl
  | succ j =>
   have hl:j+1<(e :: List.replicate (135-h) (0:UInt8)).length:=by rw[List.length_cons,List.length_replicate];omega
   rw[getElem!_pos (e :: List.replicate (135-h) (0:UInt8)) (j+1) hl]
   simp
 have hlen:(tailpad h e).length=136-h:=tailpad_length h e hh
 have hl:j<(e :: List.replicate (135-h) (0:UInt8)).length:=by rw[List.length_cons,List.length_replicate];omega
 rw[getElem!_pos (tailpad h e) j (by rw[hlen];exact hj)]
 unfold tailpad
 rw[List.getElem_set]
 by_cases h1:135-h=j
 ·rw[if_pos h1,hc (135-h) (by omega),h1,if_pos (rfl:j=j)]
 ·rw[if_neg h1,if_neg (show ¬ j=135-h by omega)]
  have:=hc j hj
  rw[getElem!_pos (e :: List.replicate (135-h) (0:UInt8)) j hl] at this
  rw[this]
  simp
theorem ended_size (p:Bs) (h:Nat) (e:UInt8):(ended p h e).size=p.size:=by
 unfold ended
 simp only[Array.size_setIfInBounds,splice_size]
theorem rep_list_at (n j:Nat) (h:j<n):(List.replicate n (0:UInt8))[j]! = 0:=by
 rw[getElem!_pos _ j (by simpa using h)]
 simp
theorem ended_eq (p:Bs) (h:Nat) (e:UInt8) (hp:p.size=136) (hh:h<136):ended p h e=splice p h (tailpad h e):=by
 have hs:(splice p h (List.replicate (136-h) 0)).size=136:=by rw[splice_size,hp]
 refine bs_ext _ _ 136 (by rw[ended_size,hp]) (by rw[splice_size,hp]) (fun j hj=>?_)
 have hq:∀ j,j<136→((splice p h (List.replicate (136-h) 0)).setIfInBounds h e)[j]! = if j<h then p[j]! else if j=h then e else 0:=by
  intro j hj
  by_cases h1:j=h
  ·rw[h1,getElem!_set_same _ _ _ (by omega),if_neg (by omega),if_pos rfl]
  ·rw[getElem!_set_other _ _ _ _ h1,splice_at _ _ _ _ (by rw[List.length_replicate,hp];omega) (by omega),List.length_replicate]
   by_cases h2:j<h
   ·rw[if_neg (by omega),if_pos h2]
   ·rw[if_pos (by omega),if_neg h2,if_neg h1,rep_list_at _ _ (by omega)]
 have hR:(splice p h (tailpad h e))[j]! = if j<h then p[j]! else (if j=h then e else 0) ^^^ (if j=135 then 128 else 0):=by
  rw[splice_at _ _ _ _ (by rw[tailpad_length h e hh,hp];omega) (by omega),tailpad_length h e hh]
  by_cases h2:j<h
  ·rw[if_neg (show ¬ (h≤j∧j<h+(136-h)) by omega),if_pos h2]
  ·rw[if_pos (show h≤j∧j<h+(136-h) by omega),if_neg h2,pad_at h e _ (by omega) hh]
   have e1:(j-h=0)=(j=h):=by apply propext;omega
   have e2:(j-h=135-h)=(j=135):=by apply propext;omega
   simp only[e1,e2]
 have hL:(ended p h e)[j]! = if j<h then p[j]! else (if j=h then e else 0) ^^^ (if j=135 then 128 else 0):=by
  unfold ended
  by_cases h135:j=135
  ·rw[h135,getElem!_set_same _ _ _ (by rw[Array.size_setIfInBounds,hs];decide),hq 135 (by decide),if_neg (show ¬ 135<h by omega),if_neg (show ¬ 135<h by omega),if_pos (rfl:135=135)]
  ·rw[getElem!_set_other _ _ _ _ h135,hq j hj]
   by_cases h2:j<h
   ·rw[if_pos h2,if_pos h2]
   ·rw[if_neg h2,if_neg h2,if_neg h135]
    simp
 rw[hL,hR]
theorem finalL_eq {S:Sp} (h:Ok S) (e:UInt8):finalL S e=takeL S (tailpad S.h e):=by
 have:=h.hlt
 have hl:=tailpad_length S.h e h.hlt
 rw[takeL_chunk S _ (by intro c;rw[c] at hl;simp at hl;omega) (by omega),if_pos (by omega)]
 unfold finalL
 rw[ended_eq _ _ _ h.p136 h.hlt]
end SP
namespace SP
open Go.RowKit Go.Sort Go.Deep
theorem Only.widen {b o n o' n':Nat} {w w':World} (h:Only b o n w w') (h1:o'≤o) (h2:o+n≤o'+n'):Only b o' n' w w':=
 ⟨h.os,h.tape,h.output,h.size,h.block,fun q hq=>h.cell q (by omega),h.froz⟩
structure HSp (w:World) (b:Nat) (S:Sp):Prop where
 d:Holds enc w b 0 S.d
 p:Holds encB w b 25 S.p
 h:w.cell? ⟨b,161,none⟩=some (.int .i64 (S.h:Int))
 f:w.frozen? ⟨b,161,none⟩=false
theorem HSp.drew {w:World} {b:Nat} {S:Sp} (h:HSp w b S):HSp w.drew b S:=⟨h.d,h.p,h.h,h.f⟩
theorem HSp.lt {w:World} {b:Nat} {S:Sp} (h:HSp w b S):b<w.heap.size:=World.block_lt_of_cell? _ _ h.h
theorem HSp.below {w w':World} {b B:Nat} {S:Sp} (h:HSp w b S) (k:Below B w w') (hb:b<B):HSp w' b S:=
 ⟨Holds.below h.d k hb,Holds.below h.p k hb,by rw[k.cell (p:=⟨b,161,none⟩) hb];exact h.h,by rw[k.frozen (p:=⟨b,161,none⟩) hb];exact h.f⟩
theorem soak_any (b:Nat) (S:Sp) (w:World) (h25:S.d.size=25) (h136:S.p.size=136) (hS:HSp w b S) :
 Calls Tryd.prog 40 #[.pointer (some ⟨b,0,none⟩)] w fun e w'=>e=.returned (.tuple #[])∧Only b 0 162 w w'∧HSp w' b (soakL S):=by
 obtain ⟨d,p,h⟩:=S
 dsimp only at h25 h136
 have hD:Holds enc w b 0 d:=hS.d
 have hP:Holds encB w b 25 p:=hS.p
 have hc:=hS.h
 have hf:=hS.f
 dsimp only at hc
 rw[soak_mk]
 clear hS
 have hps:(perm (mixTo p d 17)).size=25:=perm_size _ (by rw[mixTo_size,h25])
 generalize hpm:perm (mixTo p d 17)=pd at hps ⊢
 have HPM:Hid (perm (mixTo p d 17)=pd):=hpm
 clear hpm
 go_enter Tryd.func40,Tryd.ntmps40
 go_wp2
 go_still_tail 7,mixed
 go_wp2_with fail
 refine (mix_any b 0 b 25 136 136 p d _ h25 (Holds.drew hD) (Holds.drew hP) h136 (by decide) (Nat.le_refl _) (by omega)).mono ?_
 rintro e w1 ⟨rfl,hO1,hD1⟩
 have hO1':Only b 0 25 w w1:=((Only.refl b 0 25 w).drew).trans hO1
 have hD1':Holds enc w1 b 0 (mixTo p d 17):=hD1
 have hP1:=Holds.same hP hO1' (by omega)
 have c1:w1.cell? ⟨b,161,none⟩=some (.int .i64 h):=by rw[hO1'.cell 161 (by omega)];exact hc
 have f1:w1.frozen? ⟨b,161,none⟩=false:=by rw[hO1'.froz];exact hf
 clear hO1 hD1
 go_wp2_with fail
 refine (permute_any b 0 _ _ (by rw[mixTo_size,h25]) hD1').mono ?_
 rintro e w2 ⟨rfl,hO2,hD2⟩
 rw[HPM.out] at hD2
 have hP2:=Holds.same hP1 hO2 (by omega)
 have c2:w2.cell? ⟨b,161,none⟩=some (.int .i64 h):=by rw[hO2.cell 161 (by omega)];exact c1
 have f2:w2.frozen? ⟨b,161,none⟩=false:=by rw[hO2.froz];exact f1
 go_wp2
 go_end0
 have hO3:Only b 161 1 w2 (w2.setCell ⟨b,161,none⟩ (.int .i64 0)):=(Only.refl b 161 1 w2).setCell (by omega) (by omega) _
 have hD3:Holds enc _ b 0 pd:=Holds.same hD2 hO3 (Or.inl (by omega))
 have hP3:Holds encB _ b 25 p:=Holds.same hP2 hO3 (Or.inl (by omega))
 exact ⟨rfl,((hO1'.trans hO2).widen (Nat.le_refl _) (by omega)).trans (hO3.widen (by omega) (by omega)),⟨hD3,hP3,World.cell?_setCell_same _ _ _ c2,by rw[World.frozen?_setCell];exact f2⟩⟩
end SP
namespace SP
open Go.RowKit Go.Sort Go.Deep
theorem ints5:(Tryd.prog.info? 5).map (·.size)=some 1:=by kernel_rfl
theorem holds_splice {w:World} {b o:Nat} {p:Bs} (h:Holds encB w b o p) (i:Nat) (l:List UInt8) (hi:i+l.length≤p.size):Holds encB (w.setCells b (o+i) (l.map encB)) b o (splice p i l):=by
 refine Holds.setCells h _ i (splice_size p i l) (by rw[List.length_map];exact hi) (fun j hj=>?_) (fun j hj hout=>?_)
 ·rw[List.length_map] at hj
  rw[splice_at p i l (i+j) hi (by omega),if_pos (by omega),Nat.add_sub_cancel_left,getElem!_pos l j hj,List.getElem_map]
 ·rw[List.length_map] at hout
  rw[splice_at p i l j hi hj,if_neg (by omega)]
def piece (bs:Bs) (k n:Nat):List UInt8:=(bs.toList.drop k).take n
theorem piece_length (bs:Bs) (k n:Nat) (h:k+n≤bs.size):(piece bs k n).length=n:=by
 unfold piece
 rw[List.length_take,List.length_drop,Array.length_toList]
 omega
theorem piece_at (bs:Bs) (k n j:Nat) (h:k+n≤bs.size) (hj:j<n) (hl:j<(piece bs k n).length):(piece bs k n)[j]=bs[k+j]!:=by
 have e:(piece bs k n)[j]? = some bs[k+j]!:=by
  unfold piece
  rw[List.getElem?_take_of_lt hj,List.getElem?_drop,Array.getElem?_toList,Array.getElem?_eq_getElem (by omega),getElem!_pos bs (k+j) (by omega)]
 exact (List.getElem?_eq_some_iff.1 e).2
theorem take_piece (bs:Bs) (k n:Nat):bs.toList.take (k+n)=bs.toList.take k++piece bs k n:=List.take_add
theorem copy_piece {w:World} {b h sb o len cap n:Nat} {p bs:Bs} {k:Nat} (hP:Holds encB w b 25 p) (hp:p.size=136) (hB:Holds encB w sb o bs) (hh:h<136) (hk:k+len≤bs.size) (hn:Nat.min len (136-h)=n) :
 (Builtin.copy_ #[23,23] 3 #[.slice (some ⟨b,25+h,none⟩) (136-h) (136-h),.slice (some ⟨sb,o+k,none⟩) len cap]).run Tryd.prog w=.ok (goInt n) (w.setCells b (25+h) ((piece bs k n).map encB)):=by
 have hnl:n≤len:=by rw[← hn];exact Nat.min_le_left _ _
 have hnh:n≤136-h:=by rw[← hn];exact Nat.min_le_right _ _
 have hlen:((piece bs k n).map encB).length=n:=by rw[List.length_map,piece_length bs k n (by omega)]
 have:=run_copy_cells (P:=Tryd.prog) w 23 23 3 5 b (25+h) (136-h) (136-h) ⟨sb,o+k,none⟩ len cap ((piece bs k n).map encB) slice22 ints5 (by rw[hlen,hn])
  (fun j v hj=>by
   obtain ⟨h1,h2⟩:=List.getElem?_eq_some_iff.1 hj
   rw[hlen] at h1
   have hc:=(hB (k+j) (by omega)).1
   rw[List.getElem_map,piece_at bs k n j (by omega) h1] at h2
   have e1:(⟨sb,o+k,none⟩:Addr).add j=⟨sb,o+(k+j),none⟩:=by
    unfold Addr.add
    by_cases h0:j=0
    ·subst h0;rw[if_pos rfl];rfl
    ·rw[if_neg h0,Nat.add_assoc]
   rw[e1,hc,h2])
  (fun j hj=>by
   rw[hlen] at hj
   have:=(hP (h+j) (by omega)).1
   rw[← Nat.add_assoc] at this
   rw[this];rfl)
  (fun j hj=>by
   rw[hlen] at hj
   have:=(hP (h+j) (by omega)).2
   rw[← Nat.add_assoc] at this
   exact this)
  (fun v hv=>by
   obtain ⟨x,_,rfl⟩:=List.mem_map.1 hv
   rfl)
 rw[hlen] at this
 exact this
theorem held_set {w:World} {b:Nat} {d:St} {p:Bs} {v:Value} (hD:Holds enc w b 0 d) (h25:d.size=25) (hP:Holds encB w b 25 p) (h136:p.size=136) (hc:w.cell? ⟨b,161,none⟩=some v) (hf:w.frozen? ⟨b,161,none⟩=false) (m:Nat) :
 HSp (w.setCell ⟨b,161,none⟩ (.int .i64 ((m:Nat):Int))) b ⟨d,p,m⟩:=by
 have hO:Only b 161 1 w (w.setCell ⟨b,161,none⟩ (.int .i64 ((m:Nat):Int))):=(Only.refl b 161 1 w).setCell (by omega) (by omega) _
 have hD3:Holds enc _ b 0 d:=Holds.same hD hO (Or.inl (by omega))
 have hP3:Holds encB _ b 25 p:=Holds.same hP hO (Or.inl (by omega))
 exact ⟨hD3,hP3,World.cell?_setCell_same _ _ _ hc,by rw[World.frozen?_setCell];exact hf⟩
theorem take_any (b:Nat) (S:Sp) (a:Option Addr) (sb so len cap:Nat) (bs:Bs) (w:World) (hok:Ok S) (hS:HSp w b S) (hl:bs.size=len) (hcap:len≤cap) (hbig:len≤1099511627776)
 (hsrc:len=0∨(a=some ⟨sb,so,none⟩∧sb≠b∧Holds encB w sb so bs)) :
 Calls Tryd.prog 39 #[.pointer (some ⟨b,0,none⟩),.slice a len cap] w fun e w'=>e=.returned (.tuple #[])∧Only b 0 162 w w'∧HSp w' b (takeL S bs.toList):=by
 go_enter Tryd.func39,Tryd.ntmps39
 go_wp2
 go_loopg [1] len (fun g s1 wr=>∃ (k:Nat) (a':Option Addr) (Sk:Sp),k+g=len∧s1=.slice a' (len-k) (cap-k)∧(k<len→a'=some ⟨sb,so+k,none⟩)∧HSp wr b Sk∧Only b 0 162 w wr∧Hid (Sk=takeL S (bs.toList.take k)))
 case atStart =>
  refine ⟨0,a,S,by omega,rfl,fun h0=>?_,hS,Only.refl _ _ _ _,rfl⟩
  rcases hsrc with h|⟨h,_,_⟩
  ·omega
  ·exact h
 case round =>
  obtain ⟨k,a',Sk,hk,rfl,ha',hSk,hO,HE⟩:=hrel
  by_cases hlt:k<len
  ·have e1:=ha' hlt
   subst e1
   obtain ⟨_,hne,hB⟩:a=some ⟨sb,so,none⟩∧sb≠b∧Holds encB w sb so bs:=by
    rcases hsrc with h|h
    ·omega
    ·exact h
   have hBr:=Holds.other hB hO hne (by omega)
   have hokk:Ok Sk:=by rw[HE.out];exact takeL_ok hok _
   obtain ⟨q,hh⟩:∃ q,Sk.h=q:=⟨_,rfl⟩
   have hlt136:=hokk.hlt
   have hsz:=hokk.p136
   rw[hh] at hlt136
   have hc:=hSk.h
   have hf:=hSk.f
   rw[hh] at hc
   have hP:=hSk.p
   obtain ⟨n,hn⟩:∃ n,Nat.min (len-k) (136-q)=n:=⟨_,rfl⟩
   have l0:(0:Int)<((len-k:Nat):Int):=by omega
   have hh136:(q:Int)≤136:=by omega
   have Hh:Hid (Sk.h=q):=hh
   clear hh
   have hne136:(136=q)=False:=eq_false (by omega)
   have hn1:1≤n:=by rw[← hn];exact (Nat.le_min).2 ⟨by omega,by omega⟩
   have hnl:n≤len-k:=by rw[← hn];exact Nat.min_le_left _ _
   have hnh:n≤136-q:=by rw[← hn];exact Nat.min_le_right _ _
   have hcp:=copy_piece (w:=wr.drew) (cap:=cap-k) (k:=k) hP hsz hBr hlt136 (by omega) hn
   have hpl:=piece_length bs k n (by omega)
   have hP1:=holds_splice (Holds.drew hP) q (piece bs k n) (by omega)
   have hO1:Only b 0 162 w (wr.drew.setCells b (25+q) ((piece bs k n).map encB)):=hO.drew.setCells _ _ (by omega) (by rw[List.length_map];omega)
   have hOx:Only b 25 136 wr (wr.drew.setCells b (25+q) ((piece bs k n).map encB)):=((Only.refl b 25 136 wr).drew).setCells _ _ (by omega) (by rw[List.length_map];omega)
   have hD1:=Holds.same hSk.d hOx (Or.inl (by rw[hokk.d25];omega))
   have c1:(wr.drew.setCells b (25+q) ((piece bs k n).map encB)).cell? ⟨b,161,none⟩=some (.int .i64 q):=by rw[hOx.cell 161 (by omega)];exact hc
   have f1:(wr.drew.setCells b (25+q) ((piece bs k n).map encB)).frozen? ⟨b,161,none⟩=false:=by rw[hOx.froz];exact hf
   have HT:Hid (takeL S (bs.toList.take (k+n))=takeL Sk (piece bs k n)):=by
    show _=_
    rw[take_piece,takeL_append,← HE.out]
   have HCH:Hid (takeL Sk (piece bs k n)=if q+n=136 then soakL ⟨Sk.d,splice Sk.p q (piece bs k n),q⟩ else ⟨Sk.d,splice Sk.p q (piece bs k n),q+n⟩):=by
    show _=_
    have:=takeL_chunk Sk (piece bs k n) (by intro e;rw[e] at hpl;simp at hpl;omega) (by rw[hpl,Hh.out];omega)
    rw[hpl,Hh.out] at this
    exact this
   have hss:(splice Sk.p q (piece bs k n)).size=136:=by rw[splice_size,hsz]
   have hds:=hokk.d25
   generalize hW1:wr.drew.setCells b (25+q) ((piece bs k n).map encB)=W1 at hcp hP1 hO1 hD1 c1 f1
   generalize splice Sk.p q (piece bs k n)=sp at hP1 hss HCH
   generalize Sk.d=sd at hD1 hds HCH
   clear hOx hW1 hP hBr hokk hpl hSk hsz hn
   have z1:(n:Int)≤((len-k:Nat):Int):=by omega
   by_cases hcn:cap-k=n
   ·have hcn':(cap-k=n)=True:=eq_true hcn
    have HCN:Hid (cap-k=n):=hcn
    clear hcn
    by_cases hfull:q+n=136
    ·have hb:((q:Int)+(n:Int) == 136)=true:=beq_iff_eq.2 (by omega)
     rw[if_pos hfull] at HCH
     go_wp2_with fail
     go_still_tail 9,mixed
     go_wp2_with fail
     refine (soak_any b ⟨sd,sp,q+n⟩ _ hds hss (held_set hD1 hds hP1 hss c1 f1 (q+n))).mono ?_
     rintro e w2 ⟨rfl,hO2,hS2⟩
     go_wp2
     go_roundg (gk-n)
     case measure=>omega
     case rel =>
      refine ⟨k+n,some ⟨sb,so+k,none⟩,soakL ⟨sd,sp,q⟩,by omega,by rw[Nat.sub_sub,Nat.sub_sub],fun hx=>by have:=HCN.out;omega,?_,?_,?_⟩
      ·rw[soak_mk] at hS2 ⊢
       exact hS2
      ·exact (hO1.setCell (o:=161) (by omega) (by omega) _).trans hO2
      ·rw[HT.out,HCH.out];rfl
    ·have hb:((q:Int)+(n:Int) == 136)=false:=beq_eq_false_iff_ne.2 (by omega)
     rw[if_neg hfull] at HCH
     go_wp2_with fail
     go_still_tail 9,mixed
     go_wp2
     go_roundg (gk-n)
     case measure=>omega
     case rel =>
      refine ⟨k+n,some ⟨sb,so+k,none⟩,⟨sd,sp,q+n⟩,by omega,by rw[Nat.sub_sub,Nat.sub_sub],fun hx=>by have:=HCN.out;omega,?_,?_,?_⟩
      ·exact held_set hD1 hds hP1 hss c1 f1 (q+n)
      ·exact hO1.setCell (o:=161) (by omega) (by omega) _
      ·rw[HT.out,HCH.out];rfl
   ·have hcn':(cap-k=n)=False:=eq_false hcn
    by_cases hfull:q+n=136
    ·have hb:((q:Int)+(n:Int) == 136)=true:=beq_iff_eq.2 (by omega)
     rw[if_pos hfull] at HCH
     go_wp2_with fail
     go_still_tail 9,mixed
     go_wp2_with fail
     refine (soak_any b ⟨sd,sp,q+n⟩ _ hds hss (held_set hD1 hds hP1 hss c1 f1 (q+n))).mono ?_
     rintro e w2 ⟨rfl,hO2,hS2⟩
     go_wp2
     go_roundg (gk-n)
     case measure=>omega
     case rel =>
      refine ⟨k+n,some ⟨sb,so+k+n,none⟩,soakL ⟨sd,sp,q⟩,by omega,by rw[Nat.sub_sub,Nat.sub_sub],fun _=>by rw[Nat.add_assoc],?_,?_,?_⟩
      ·rw[soak_mk] at hS2 ⊢
       exact hS2
      ·exact (hO1.setCell (o:=161) (by omega) (by omega) _).trans hO2
      ·rw[HT.out,HCH.out];rfl
    ·have hb:((q:Int)+(n:Int) == 136)=false:=beq_eq_false_iff_ne.2 (by omega)
     rw[if_neg hfull] at HCH
     go_wp2_with fail
     go_still_tail 9,mixed
     go_wp2
     go_roundg (gk-n)
     case measure=>omega
     case rel =>
      refine ⟨k+n,some ⟨sb,so+k+n,none⟩,⟨sd,sp,q+n⟩,by omega,by rw[Nat.sub_sub,Nat.sub_sub],fun _=>by rw[Nat.add_assoc],?_,?_,?_⟩
      ·exact held_set hD1 hds hP1 hss c1 f1 (q+n)
      ·exact hO1.setCell (o:=161) (by omega) (by omega) _
      ·rw[HT.out,HCH.out];rfl
  ·have hk0:k=len:=by omega
   have l0:¬ (0:Int)<((len-k:Nat):Int):=by omega
   go_wp2
   go_end0
   refine ⟨rfl,hO,?_⟩
   have e1:bs.toList.take k=bs.toList:=List.take_of_length_le (by rw[Array.length_toList];omega)
   rw[HE.out,e1] at hSk
   exact hSk
end SP
namespace SP
open Go.RowKit Go.Sort Go.Deep
theorem ofInt_toNat8 (x:UInt8):BitVec.ofInt 8 (x.toNat:Int)=x.toBitVec:=by
 apply BitVec.eq_of_toNat_eq
 rw[BitVec.ofInt_natCast,BitVec.toNat_ofNat]
 exact Nat.mod_eq_of_lt x.toNat_lt
theorem bits_xor8 (x y:UInt8):bits .xor .u8 (ub x) (ub y)=ub (x ^^^ y):=by
 show IntKind.u8.wrap ((BitVec.ofInt 8 (x.toNat:Int) ^^^ BitVec.ofInt 8 (y.toNat:Int)).toNat:Int)=_
 rw[ofInt_toNat8,ofInt_toNat8,← UInt8.toBitVec_xor]
 have h:((x ^^^ y).toNat:Int)<256:=by have:=(x ^^^ y).toNat_lt;omega
 have e:∀ n:Int,IntKind.u8.wrap n=n%256:=fun n=>by simp[IntKind.wrap,IntKind.bits,IntKind.signed]
 rw[e]
 exact Int.emod_eq_of_lt (Int.natCast_nonneg _) h
theorem xor80 (x:UInt8):bits .xor .u8 (ub x) 128=ub (x ^^^ 128):=bits_xor8 x 128
theorem zero5:∀ w:World,(zeroValue 5).run Tryd.prog w=.ok (.int .u8 0) w:=fun _=>by kernel_rfl
theorem clear_piece {w:World} {b q:Nat} {p:Bs} (hP:Holds encB w b 25 p) (hp:p.size=136) (hq:q<136) (ty:TypeId) :
 (Builtin.clear_ #[23] ty #[.slice (some ⟨b,25+q,none⟩) (136-q) (136-q)]).run Tryd.prog w=.ok (.tuple #[]) (w.setCells b (25+q) ((List.replicate (136-q) (0:UInt8)).map encB)):=by
 have h:=Lib.run_clear_slice (P:=Tryd.prog) w 23 5 ty (.int .u8 0) slice22 zero5 rfl rfl b (25+q) (136-q) (136-q) (by omega)
  (fun j hj=>by
   have:=(hP (q+j) (by omega)).1
   rw[← Nat.add_assoc] at this
   rw[this];rfl)
  (fun j hj=>by
   have:=(hP (q+j) (by omega)).2
   rw[← Nat.add_assoc] at this
   exact this)
 rw[List.map_replicate]
 exact h
theorem end_any (b:Nat) (S:Sp) (e:UInt8) (w:World) (hok:Ok S) (hS:HSp w b S) :
 Calls Tryd.prog 24 #[.pointer (some ⟨b,0,none⟩),.int .u8 (ub e)] w fun r w'=>r=.returned (.tuple #[])∧Only b 0 162 w w'∧HSp w' b (finalL S e):=by
 obtain ⟨d,p,q⟩:=S
 have h25:d.size=25:=hok.d25
 have h136:p.size=136:=hok.p136
 have hq:q<136:=hok.hlt
 have hD:Holds enc w b 0 d:=hS.d
 have hP:Holds encB w b 25 p:=hS.p
 have hc:w.cell? ⟨b,161,none⟩=some (.int .i64 q):=hS.h
 have hf:=hS.f
 have hcl:=clear_piece (Holds.drew hP) h136 hq 0
 have hOx:Only b 25 136 w (w.drew.setCells b (25+q) ((List.replicate (136-q) (0:UInt8)).map encB)):=((Only.refl b 25 136 w).drew).setCells _ _ (by omega) (by rw[List.length_map,List.length_replicate];omega)
 have hP1:=holds_splice (Holds.drew hP) q (List.replicate (136-q) (0:UInt8)) (by rw[List.length_replicate];omega)
 have hs1:(splice p q (List.replicate (136-q) 0)).size=136:=by rw[splice_size,h136]
 have HF:Hid (finalL ⟨d,p,q⟩ e=soakL ⟨d,((splice p q (List.replicate (136-q) 0)).setIfInBounds q e).setIfInBounds 135 (((splice p q (List.replicate (136-q) 0)).setIfInBounds q e)[135]! ^^^ 128),q⟩):=by
  show _=_
  unfold finalL ended
  rfl
 generalize w.drew.setCells b (25+q) ((List.replicate (136-q) (0:UInt8)).map encB)=W1 at hcl hOx hP1
 generalize splice p q (List.replicate (136-q) 0)=sp at hP1 hs1 HF
 have hne136:(136=q)=False:=eq_false (by omega)
 have hq136:(q:Int)≤136:=by omega
 have hq136':(q:Int)<136:=by omega
 have c1:W1.cell? ⟨b,161,none⟩=some (.int .i64 q):=by rw[hOx.cell 161 (by omega)];exact hc
 obtain ⟨c2,f2⟩:=hP1 q (by omega)
 obtain ⟨sp2,hsp2⟩:∃ s,sp.setIfInBounds q e=s:=⟨_,rfl⟩
 rw[hsp2] at HF
 have hs2:sp2.size=136:=by rw[← hsp2,Array.size_setIfInBounds,hs1]
 obtain ⟨x,hx⟩:∃ x,sp2[135]! = x:=⟨_,rfl⟩
 rw[hx] at HF
 have hx80:=xor80 x
 have hP2:=Holds.set hP1 (i:=q) (by omega) e
 rw[hsp2] at hP2
 have hO2:Only b 25 136 w (W1.setCell ⟨b,25+q,none⟩ (.int .u8 (ub e))):=hOx.setCell (o:=25+q) (by omega) (by omega) _
 have hP2':Holds encB (W1.setCell ⟨b,25+q,none⟩ (.int .u8 (ub e))) b 25 sp2:=hP2
 have HX:Hid (sp2[135]! = x):=hx
 rw[HF.out]
 clear hS hok hP hsp2 hx hP2 HF
 have hs3:(sp2.setIfInBounds 135 (x ^^^ 128)).size=136:=by rw[Array.size_setIfInBounds,hs2]
 go_enter Tryd.func24,Tryd.ntmps24
 go_wp2
 go_still_tail 8,mixed
 go_wp2_with fail
 go_region
 go_wp2_with fail
 generalize W1.setCell ⟨b,25+q,none⟩ (.int .u8 (ub e))=W2 at hP2' hO2 ⊢
 obtain ⟨c3,f3⟩:=at_byte hP2' 135 (by omega) HX.out
 clear c1 c2 f2 hcl hP1
 go_region
 go_wp2_with fail
 have hP3:=Holds.set hP2' (i:=135) (by omega) (x ^^^ 128)
 have hO3:Only b 25 136 w (W2.setCell ⟨b,160,none⟩ (.int .u8 (ub (x ^^^ 128)))):=hO2.setCell (o:=160) (by omega) (by omega) _
 have hP3':Holds encB (W2.setCell ⟨b,160,none⟩ (.int .u8 (ub (x ^^^ 128)))) b 25 (sp2.setIfInBounds 135 (x ^^^ 128)):=hP3
 generalize W2.setCell ⟨b,160,none⟩ (.int .u8 (ub (x ^^^ 128)))=W3 at hP3' hO3 ⊢
 have hD3:Holds enc W3 b 0 d:=Holds.same hD hO3 (Or.inl (by omega))
 have hS3:HSp W3 b ⟨d,sp2.setIfInBounds 135 (x ^^^ 128),q⟩:=⟨hD3,hP3',by rw[hO3.cell 161 (by omega)];exact hc,by rw[hO3.froz];exact hf⟩
 refine (soak_any b ⟨d,sp2.setIfInBounds 135 (x ^^^ 128),q⟩ _ h25 hs3 hS3.drew.drew).mono ?_
 rintro r w4 ⟨rfl,hO4,hS4⟩
 go_wp2
 go_end0
 exact ⟨rfl,(hO3.drew.drew.widen (by omega) (by omega)).trans hO4,hS4⟩
end SP
namespace SP
open Go.Sort
def permN (d:St):Nat→St
 | 0=>d
 | m+1=>perm (permN d m)
theorem permN_size (d:St) (hd:d.size=25) (m:Nat):(permN d m).size=25:=by
 induction m with
 | zero=>exact hd
 | succ m ih=>exact perm_size _ ih
def streamAt (d:St) (j:Nat):UInt8:=byteOf (permN d (j/136)) (j%136)
def streamL (d:St) (n:Nat):Bs:=Array.ofFn (fun i:Fin n=>streamAt d i.val)
theorem streamL_size (d:St) (n:Nat):(streamL d n).size=n:=by simp[streamL]
theorem streamL_at (d:St) (n j:Nat) (hj:j<n):(streamL d n)[j]! = streamAt d j:=by
 rw[getElem!_pos (streamL d n) j (by rw[streamL_size];exact hj)]
 simp[streamL]
def S0:Sp:=⟨zero25,Array.replicate 136 0,0⟩
theorem S0_ok:Ok S0:=⟨by simp[S0,zero25],by simp[S0],by decide⟩
def absorb (l:List UInt8) (e:UInt8):St:=(finalL (takeL S0 l) e).d
theorem absorb_size (l:List UInt8) (e:UInt8):(absorb l e).size=25:=by
 unfold absorb
 have h:=takeL_ok S0_ok l
 rw[finalL_eq h]
 exact (takeL_ok h _).d25
def hashL (l:List UInt8):Bs:=front (absorb l 6) 32
def strmL (l:List UInt8) (n:Nat):Bs:=streamL (absorb l 31) n
end SP
namespace SP
open Go.RowKit Go.Sort Go.Deep
theorem append_room {w:World} {g l cap r k n c:Nat} {cur bs:Bs} (hC:Holds encB w g 0 cur) (hs:cur.size=cap) (hB:Holds encB w r 0 bs) (hk:bs.size=n) (hk2:k=n) (hroom:l+n≤cap) (ty:TypeId) :
 (Builtin.append_ #[23,23] ty #[.slice (some ⟨g,0,none⟩) l cap,.slice (some ⟨r,0,none⟩) k c]).run Tryd.prog w=.ok (.slice (some ⟨g,0,none⟩) (l+n) cap) (w.setCells g l (bs.toList.map encB)):=by
 subst hk2
 obtain ⟨i,hi,_,hsz,_⟩:=info_parts info5
 have hlen:(bs.toList.map encB).length=k:=by rw[List.length_map,Array.length_toList,hk]
 have hsrc:Src Tryd.prog i.size 23 (.slice (some ⟨r,0,none⟩) k c) k (bs.toList.map encB) w:=by
  rw[hsz]
  refine Src.ofSlice w slice22 ⟨r,0,none⟩ k c _ (by rw[hlen,Nat.mul_one]) (fun j v hj=>?_) (fun v hv=>?_)
  ·obtain ⟨h1,h2⟩:=List.getElem?_eq_some_iff.1 hj
   rw[hlen] at h1
   have hc:=(hB j (by omega)).1
   rw[getElem!_pos bs j (by omega)] at hc
   rw[List.getElem_map,Array.getElem_toList] at h2
   have e1:(⟨r,0,none⟩:Addr).add j=⟨r,0+j,none⟩:=by
    unfold Addr.add
    by_cases h0:j=0
    ·subst h0;rw[if_pos rfl]
    ·rw[if_neg h0]
   rw[e1,hc,h2]
  ·obtain ⟨x,_,rfl⟩:=List.mem_map.1 hv
   rfl
 have h:=run_append_room_src (P:=Tryd.prog) w 23 23 ty 5 i slice22 hi g 0 l cap (.slice (some ⟨r,0,none⟩) k c) k _ hsrc hroom
  (fun j hj=>by
   rw[hlen] at hj
   rw[hsz,Nat.mul_one,Nat.add_assoc,(hC (l+j) (by omega)).1];rfl)
  (fun j hj=>by
   rw[hlen] at hj
   rw[hsz,Nat.mul_one,Nat.add_assoc]
   exact (hC (l+j) (by omega)).2)
 rw[hsz,Nat.mul_one,Nat.zero_add] at h
 exact h
theorem Only.with_new {b o n g m p:Nat} {w w1 w2:World} (h:Only b o n w w1) (k:Only g p m w1 w2) (hg:w.heap.size≤g) (hb:b<w.heap.size):Only b o n w w2:=by
 have hs:=h.size
 have e:=k.block b (by omega) (by omega)
 exact ⟨k.os.trans h.os,k.tape.trans h.tape,k.output.trans h.output,Nat.le_trans h.size k.size,
  fun j hj hn=>(k.block j (by omega) (by omega)).trans (h.block j hj hn),
  fun q hq=>(World.cell?_of_block (w:=w1) (a:=⟨b,q,none⟩) e).trans (h.cell q hq),fun q=>(World.frozen?_of_block (w:=w1) (a:=⟨b,q,none⟩) e).trans (h.froz q)⟩
theorem permN_pred (d:St) (m:Nat) (h:¬ m=0):perm (permN d (m-1))=permN d m:=by
 obtain ⟨k,rfl⟩:∃ k,m=k+1:=⟨m-1,by omega⟩
 rw[Nat.add_sub_cancel,permN]
theorem stream_next (d:St) (m:Nat) (cur:Bs) (hc:136*m+136≤cur.size) (h:∀ j,j<136*m→cur[j]! = streamAt d j):∀ j,j<136*(m+1)→(splice cur (136*m) (front (permN d m) 136).toList)[j]! = streamAt d j:=by
 intro j hj
 have hl:(front (permN d m) 136).toList.length=136:=by rw[Array.length_toList,front_size]
 rw[splice_at _ _ _ _ (by rw[hl];exact hc) (by omega),hl]
 by_cases h1:j<136*m
 ·rw[if_neg (by omega),h j h1]
 ·rw[if_pos (by omega),getElem!_pos _ (j-136*m) (by rw[hl];omega),Array.getElem_toList,← getElem!_pos (front (permN d m) 136) (j-136*m) (by rw[front_size];omega),front_at _ _ _ (by omega)]
  unfold streamAt
  rw[show j/136=m by omega,show j%136=j-136*m by omega]
theorem give_any (b:Nat) (d:St) (n:Nat) (w:World) (h25:d.size=25) (hD:Holds enc w b 0 d) (hn:n≤16384) :
 Calls Tryd.prog 74 #[.pointer (some ⟨b,0,none⟩),.int .i64 n] w fun e w'=>e=.returned (.slice (some ⟨w.heap.size,0,none⟩) n n)∧Only b 0 25 w w'∧Holds encB w' w.heap.size 0 (streamL d n):=by
 have hb:=Holds.lt hD (by omega)
 obtain ⟨i,hi,hz0,hsz,hby⟩:=info_parts info5
 obtain ⟨cp,hcp⟩:∃ c,n+136=c:=⟨_,rfl⟩
 have hmk:∀ w:World,(Instr.makeSlice 23 (.int .i64 0) (.int .i64 ((n:Int)+136))).run Tryd.prog w=.ok (.slice (some ⟨w.heap.size,0,none⟩) 0 cp) (w.alloc (.cells (madeCells #[.int .u8 0] cp) 5)):=by
  intro w
  have h:=run_make (P:=Tryd.prog) w 23 5 i (.int .u8 0) slice22 hi hz0 .i64 .i64 0 ((n:Int)+136) (by omega) (by omega) (by rw[hby];omega) (by omega)
  rw[hsz,Nat.mul_one,show ((n:Int)+136).toNat=cp by omega] at h
  exact h
 have hC0:Holds encB (w.alloc (.cells (madeCells #[.int .u8 0] cp) 5)) w.heap.size 0 (Array.replicate cp 0):=Holds.made (enc:=encB) w 5 cp 0
 have hO0:Only b 0 25 w (w.alloc (.cells (madeCells #[.int .u8 0] cp) 5)):=(Only.refl _ _ _ _).alloc hb _
 have hD0:=Holds.below hD ((Below.refl w.heap.size w).alloc (Nat.le_refl _) (.cells (madeCells #[.int .u8 0] cp) 5)) hb
 have hs0:w.heap.size<(w.alloc (.cells (madeCells #[.int .u8 0] cp) 5)).heap.size:=by simp
 clear hi hz0 hsz hby
 have Hcp:Hid (n+136=cp):=hcp
 have hcl:n+136≤cp:=by omega
 have hcg:cp≤n+136:=by omega
 clear hcp
 go_enter Tryd.func74,Tryd.ntmps74
 go_wp2
 generalize w.alloc _=W1 at hC0 hO0 hD0 hs0 ⊢
 clear hmk
 go_loopg [5] cp (fun g s5 wr=>∃ (m l:Nat) (cur:Bs),Hid (l=136*m)∧l+g=cp∧1≤g∧s5=.slice (some ⟨w.heap.size,0,none⟩) l cp∧Holds encB wr w.heap.size 0 cur∧cur.size=cp∧Holds enc wr b 0 (permN d (m-1))∧Only b 0 25 w wr∧w.heap.size<wr.heap.size∧Hid (∀ j,j<136*m→cur[j]! = streamAt d j))
 case atStart=>exact ⟨0,0,_,rfl,by omega,by have:=Hcp.out;omega,rfl,hC0,by rw[Array.size_replicate],hD0,hO0,hs0,fun j hj=>by omega⟩
 case round =>
  clear hC0 hO0 hD0 hs0
  obtain ⟨m,l,cur,Hl,hg,hg1,rfl,hC,hcs,hDm,hO,hs,HE⟩:=hrel
  have hps:=permN_size d h25 (m-1)
  by_cases hlt:l<n
  ·have hlt':(l:Int)<(n:Int):=by omega
   have HN:Hid (∀ j,j<136*(m+1)→(splice cur l (front (permN d m) 136).toList)[j]! = streamAt d j):=by
    rw[Hl.out]
    exact stream_next d m cur (by rw[← Hl.out];omega) HE
   by_cases hm0:m=0
   ·have hz0:¬ (0:Int)<(l:Int):=by have:=Hl.out;omega
    have hDm0:Holds enc wr b 0 (permN d m):=by rw[hm0] at hDm ⊢;exact hDm
    have Hm0:Hid (m=0):=hm0
    clear hm0 hDm HE
    go_wp2_with fail
    refine (front_any b 0 136 _ _ (permN_size d h25 m) hDm0 (by decide)).mono ?_
    rintro e w2 ⟨rfl,hb2,hF⟩
    have hC2:=Holds.below hC hb2 (Holds.lt hC (by omega))
    have hD2:=Holds.below hDm0 hb2 (Holds.lt hDm0 (by rw[permN_size d h25];decide))
    have hap:=append_room (l:=l) (k:=136) (n:=136) (c:=136) hC2 hcs hF (front_size _ _) rfl (by omega) 23
    have hC3:=holds_splice hC2 l (front (permN d m) 136).toList (by rw[Array.length_toList,front_size];omega)
    rw[Nat.zero_add] at hC3
    have hO2:Only b 0 25 w w2:=hO.trans (Only.of_below hb2 rfl (Holds.lt hDm0 (by rw[permN_size d h25];decide)))
    have hOn:Only w.heap.size 0 cp w2 (w2.setCells w.heap.size l ((front (permN d m) 136).toList.map encB)):=(Only.refl _ _ _ _).setCells _ _ (by omega) (by rw[List.length_map,Array.length_toList,front_size];omega)
    have hO3:=hO2.with_new hOn (Nat.le_refl _) hb
    have hD3:=Holds.other hD2 hOn (by omega) (by rw[permN_size d h25];decide)
    have hs3:w.heap.size<(w2.setCells w.heap.size l ((front (permN d m) 136).toList.map encB)).heap.size:=Nat.lt_of_lt_of_le (Holds.lt hC2 (by omega)) hOn.size
    generalize w2.setCells w.heap.size l ((front (permN d m) 136).toList.map encB)=W3 at hap hC3 hO3 hD3 hs3
    have HAP:Hid _:=hap
    clear hC2 hD2 hF hb2 hOn hO2 hap
    go_wp2_with (at_builtin;refine Lib.wpList_append_run _ rfl _ _ 23 23 rfl _ _ rfl rfl _ _ HAP.out ?_)
    go_roundg (gk-136)
    case measure=>omega
    case rel =>
     exact ⟨m+1,l+136,_,by have:=Hl.out;show _=_;omega,by omega,by omega,rfl,hC3,by rw[splice_size,hcs],hD3,hO3,hs3,HN⟩
   ·have hpos:(0:Int)<(l:Int):=by have:=Hl.out;omega
    clear HE
    go_wp2_with fail
    refine (permute_any b 0 _ _ hps hDm).mono ?_
    rintro e w1 ⟨rfl,hO1,hD1⟩
    rw[permN_pred d m hm0] at hD1
    have hC1:=Holds.other hC hO1 (by omega) (by omega)
    have hO1':=hO.trans hO1
    go_wp2_with fail
    refine (front_any b 0 136 _ _ (permN_size d h25 m) hD1 (by decide)).mono ?_
    rintro e w2 ⟨rfl,hb2,hF⟩
    have hC2:=Holds.below hC1 hb2 (Holds.lt hC1 (by omega))
    have hD2:=Holds.below hD1 hb2 (Holds.lt hD1 (by rw[permN_size d h25];decide))
    have hap:=append_room (l:=l) (k:=136) (n:=136) (c:=136) hC2 hcs hF (front_size _ _) rfl (by omega) 23
    have hC3:=holds_splice hC2 l (front (permN d m) 136).toList (by rw[Array.length_toList,front_size];omega)
    rw[Nat.zero_add] at hC3
    have hO2:Only b 0 25 w w2:=hO1'.trans (Only.of_below hb2 rfl (Holds.lt hD1 (by rw[permN_size d h25];decide)))
    have hOn:Only w.heap.size 0 cp w2 (w2.setCells w.heap.size l ((front (permN d m) 136).toList.map encB)):=(Only.refl _ _ _ _).setCells _ _ (by omega) (by rw[List.length_map,Array.length_toList,front_size];omega)
    have hO3:=hO2.with_new hOn (Nat.le_refl _) hb
    have hD3:=Holds.other hD2 hOn (by omega) (by rw[permN_size d h25];decide)
    have hs3:w.heap.size<(w2.setCells w.heap.size l ((front (permN d m) 136).toList.map encB)).heap.size:=Nat.lt_of_lt_of_le (Holds.lt hC2 (by omega)) hOn.size
    generalize w2.setCells w.heap.size l ((front (permN d m) 136).toList.map encB)=W3 at hap hC3 hO3 hD3 hs3
    have HAP:Hid _:=hap
    clear hC2 hD2 hF hb2 hOn hO2 hap
    go_wp2_with (at_builtin;refine Lib.wpList_append_run _ rfl _ _ 23 23 rfl _ _ rfl rfl _ _ HAP.out ?_)
    go_roundg (gk-136)
    case measure=>omega
    case rel =>
     exact ⟨m+1,l+136,_,by have:=Hl.out;show _=_;omega,by omega,by omega,rfl,hC3,by rw[splice_size,hcs],hD3,hO3,hs3,HN⟩
  ·have hge:(n:Int)≤(l:Int):=by omega
   have hle:n≤cp:=by omega
   have hle':(n:Int)≤(cp:Int):=by omega
   go_wp2
   go_ret
   refine ⟨rfl,hO,fun j hj=>?_⟩
   rw[streamL_size] at hj
   have:=hC j (by omega)
   rw[HE.out j (by have:=Hl.out;omega)] at this
   rw[streamL_at d n j hj]
   exact this
end SP
namespace SP
open Go.RowKit Go.Sort Go.Deep
def spZero:Array Value:=Array.replicate 25 (.int .u64 0)++Array.replicate 136 (.int .u8 0)++#[.int .i64 0]
theorem zero68:∀ w:World,(zeroValue 64).run Tryd.prog w=.ok (.agg spZero) w:=fun _=>by kernel_rfl
theorem spZero_d (j:Nat) (hj:j<25):spZero[j]? = some (.int .u64 0):=by
 have h1:j<(Array.replicate 25 (Value.int .u64 0)).size:=by rw[Array.size_replicate];exact hj
 unfold spZero
 rw[Array.append_assoc,Array.getElem?_append_left h1,Array.getElem?_eq_getElem h1,Array.getElem_replicate]
theorem spZero_p (j:Nat) (hj:j<136):spZero[25+j]? = some (.int .u8 0):=by
 have h1:j<(Array.replicate 136 (Value.int .u8 0)).size:=by rw[Array.size_replicate];exact hj
 unfold spZero
 rw[Array.append_assoc,Array.getElem?_append_right (by rw[Array.size_replicate];omega),Array.size_replicate,Nat.add_sub_cancel_left,Array.getElem?_append_left h1,Array.getElem?_eq_getElem h1,Array.getElem_replicate]
theorem spZero_h:spZero[161]? = some (.int .i64 0):=by
 unfold spZero
 rw[Array.getElem?_append_right (by rw[Array.size_append,Array.size_replicate,Array.size_replicate];decide),Array.size_append,Array.size_replicate,Array.size_replicate]
 rfl
theorem hsp_new (w:World) (t:TypeId):HSp (w.alloc (.cells spZero t)) w.heap.size S0:=by
 refine ⟨fun j hj=>?_,fun j hj=>?_,?_,?_⟩
 ·have hj':j<25:=by simpa[S0,zero25] using hj
  rw[World.cell?_alloc_new,World.frozen?_alloc_new,Nat.zero_add,spZero_d j hj']
  refine ⟨?_,rfl⟩
  have e:S0.d[j]! = 0:=zero25_at j hj'
  rw[e]
  rfl
 ·have hj':j<136:=by simpa[S0] using hj
  rw[World.cell?_alloc_new,World.frozen?_alloc_new,spZero_p j hj']
  refine ⟨?_,rfl⟩
  have e:S0.p[j]! = 0:=rep_at 136 j hj'
  rw[e]
  rfl
 ·rw[World.cell?_alloc_new,spZero_h];rfl
 ·rw[World.frozen?_alloc_new]
theorem Stream_yes (a:Option Addr) (sb so len cap n:Nat) (bs:Bs) (w:World) (hn:n≤16384) (hl:bs.size=len) (hcap:len≤cap) (hbig:len≤1099511627776) (hsrc:len=0∨(a=some ⟨sb,so,none⟩∧Holds encB w sb so bs)) :
 Calls Tryd.prog 50 #[.slice a len cap,.int .i64 n] w fun e w'=>∃ r,e=.returned (.tuple #[.slice (some ⟨r,0,none⟩) n n,.int .i64 0])∧w.heap.size≤r∧Below w.heap.size w w'∧Holds encB w' r 0 (strmL bs.toList n):=by
 have hS0:=hsp_new w 64
 have hb0:Below w.heap.size w (w.alloc (.cells spZero 64)):=(Below.refl _ _).alloc (Nat.le_refl _) _
 have hs0:w.heap.size<(w.alloc (.cells spZero 64)).heap.size:=by simp
 have hsrc':len=0∨(a=some ⟨sb,so,none⟩∧sb≠w.heap.size∧Holds encB (w.alloc (.cells spZero 64)) sb so bs):=by
  by_cases h0:len=0
  ·exact Or.inl h0
  ·rcases hsrc with h|⟨h1,h2⟩
   ·exact Or.inl h
   ·have hlt:=Holds.lt h2 (by omega)
    exact Or.inr ⟨h1,by omega,Holds.below h2 hb0 hlt⟩
 have d0:decide ((n:Int)<0)=false:=decide_eq_false (by omega)
 have d1:¬ (16384:Int)<(n:Int):=by omega
 have zv:=zero68
 go_enter Tryd.func50,Tryd.ntmps50
 go_wp2_with fail
 generalize w.alloc (.cells spZero 64)=W1 at hS0 hb0 hs0 hsrc' ⊢
 refine (take_any w.heap.size S0 a sb so len cap bs W1 S0_ok hS0 hl hcap hbig hsrc').mono ?_
 rintro e w1 ⟨rfl,hO1,hS1⟩
 go_wp2_with fail
 refine (end_any w.heap.size (takeL S0 bs.toList) 31 w1 (takeL_ok S0_ok _) hS1).mono ?_
 rintro e w2 ⟨rfl,hO2,hS2⟩
 have hD2:Holds enc w2 w.heap.size 0 (absorb bs.toList 31):=hS2.d
 clear hS2
 go_wp2_with fail
 refine (give_any w.heap.size _ n _ (absorb_size _ _) hD2 hn).mono ?_
 rintro e w3 ⟨rfl,hO3,hF⟩
 go_wp2
 go_ret2
 have s1:=hO1.size
 have s2:=hO2.size
 exact ⟨w2.heap.size,rfl,by omega,(hb0.trans ((hO1.trans hO2).below (by omega) (Nat.le_refl _))).trans (hO3.below (by omega) (Nat.le_refl _)),hF⟩
end SP
namespace SP
open Go.RowKit Go.Sort Go.Deep
def Own (B:Nat) (w:World) (v:Value) (T:List UInt8):Prop:=
 ∃ g cap cur,v=.slice (some ⟨g,0,none⟩) T.length cap∧B≤g∧g<w.heap.size∧Array.size cur=cap∧T.length≤cap∧Holds encB w g 0 cur∧∀ j,j<T.length→cur[j]! = T[j]!
theorem Holds.front {α:Type} [Inhabited α] {f:α→Value} {w:World} {b o:Nat} {d e:Array α} (h:Holds f w b o d) (hs:e.size≤d.size) (he:∀ j,j<e.size→e[j]! = d[j]!):Holds f w b o e:=by
 intro j hj
 rw[he j hj]
 exact h j (by omega)
theorem list_arr_at (T:List UInt8) (j:Nat):T.toArray[j]! = T[j]!:=by
 by_cases h:j<T.length
 ·rw[getElem!_pos T.toArray j (by simpa using h),getElem!_pos T j h]
  simp
 ·rw[getElem!_neg T.toArray j (by simpa using h),getElem!_neg T j h]
variable {B:Nat} {w w1:World} {v:Value} {T:List UInt8}
theorem Own.holds {g cap n:Nat} (h:Own B w (.slice (some ⟨g,0,none⟩) n cap) T):B≤g∧n=T.length∧T.length≤cap∧Holds encB w g 0 T.toArray:=by
 obtain ⟨g',cap',cur,hv,hg,_,hs,hl,hH,hT⟩:=h
 injection hv with e1 e2 e3
 injection e1 with e1
 injection e1 with e1 _ _
 subst e1 e3
 exact ⟨hg,e2,hl,Holds.front hH (by simp;omega) (fun j hj=>by rw[list_arr_at];exact (hT j (by simpa using hj)).symm)⟩
theorem conv_bytes (s:ByteArray) (hB:B≤w.heap.size) :
 ∃ v' w',(convert 9 23 (.string s)).run Tryd.prog w=.ok v' w'∧Own B w' v' s.data.toList∧Below w.heap.size w w'∧v'=.slice (some ⟨w.heap.size,0,none⟩) s.size (grownCap w s.size 0 5):=by
 have h:=Lib.run_convert_string_bytes (P:=Tryd.prog) w 9 23 5 s str9 slice22 int5
 have hcap:s.size≤grownCap w s.size 0 5:=by
  unfold grownCap Question.cut
  exact Nat.le_add_right _ _
 have hl:s.data.size=s.size:=rfl
 refine ⟨_,_,h,⟨w.heap.size,grownCap w s.size 0 5,s.data++Array.replicate (grownCap w s.size 0 5-s.size) 0,?_,hB,by rw[Lib.bytesWorld_size];omega,?_,?_,?_,?_⟩,?_,rfl⟩
 ·rw[Array.length_toList];rfl
 ·rw[Array.size_append,Array.size_replicate];omega
 ·rw[Array.length_toList];omega
 ·intro j hj
  rw[Array.size_append,Array.size_replicate] at hj
  have hb:=Lib.bytesWorld_at_new w 5 s
  have hsz:(Lib.bytesCells w 5 s).size=grownCap w s.size 0 5:=by
   unfold Lib.bytesCells
   rw[Array.size_append,Array.size_map,Array.size_replicate]
   omega
  have hc:(Lib.bytesCells w 5 s)=(s.data++Array.replicate (grownCap w s.size 0 5-s.size) 0).map encB:=by
   unfold Lib.bytesCells
   rw[Array.map_append,Array.map_replicate]
   rfl
  have hj2:j<(s.data++Array.replicate (grownCap w s.size 0 5-s.size) 0).size:=by rw[Array.size_append,Array.size_replicate];exact hj
  constructor
  ·unfold World.cell?
   rw[hb]
   simp only[Nat.zero_add]
   rw[if_neg (by decide),hc,Array.getElem?_map,Array.getElem?_eq_getElem hj2,Option.map_some,getElem!_pos _ j hj2]
  ·unfold World.frozen?
   rw[hb]
   simp only[Nat.zero_add,hsz]
   simp
   omega
 ·intro j hj
  rw[Array.length_toList] at hj
  rw[app_front _ _ j hj,getElem!_pos s.data.toList j (by rw[Array.length_toList];exact hj),Array.getElem_toList]
 ·refine ⟨?_,?_,?_,?_,fun k hk=>Lib.bytesWorld_at_old w 5 s k hk⟩
  ·unfold Lib.bytesWorld World.freeze
   rw[if_neg (by decide)]
   rfl
  ·unfold Lib.bytesWorld World.freeze
   rw[if_neg (by decide)]
   rfl
  ·unfold Lib.bytesWorld World.freeze
   rw[if_neg (by decide)]
   rfl
  ·rw[Lib.bytesWorld_size];omega
theorem Holds.below' {α:Type} [Inhabited α] {f:α→Value} {w w1:World} {b o:Nat} {d:Array α} (h:Holds f w b o d) (k:Below w.heap.size w w1):Holds f w1 b o d:=by
 intro j hj
 have hlt:=Holds.lt h (by omega)
 exact Holds.below h k hlt j hj
theorem hashL_size (l:List UInt8):(hashL l).size=32:=by rw[hashL,front_size]
end SP
namespace SP
open Go.RowKit Go.Sort Go.Deep
def lenB (n d:Nat):UInt8:=UInt8.ofNat (n/d)
theorem lenB_int (n d:Nat):(n:Int)/(d:Int)%256=ub (lenB n d):=by
 have e2:((n:Int)/(d:Int))=((n/d:Nat):Int):=by rw[Int.natCast_ediv]
 rw[e2]
 unfold ub lenB
 rw[UInt8.toNat_ofNat']
 omega
theorem lenB_one (n:Nat):(n:Int)%256=ub (lenB n 1):=by
 have:=lenB_int n 1
 rw[show ((1:Nat):Int)=1 from rfl,Int.ediv_one] at this
 exact this
def frameL (l:List UInt8):List UInt8:=[lenB l.length 16777216,lenB l.length 65536,lenB l.length 256,lenB l.length 1]++l
theorem holds_four (w:World) (x y z t:UInt8):Holds encB (w.alloc (.cells #[.int .u8 (ub x),.int .u8 (ub y),.int .u8 (ub z),.int .u8 (ub t)] 5)) w.heap.size 0 #[x,y,z,t]:=by
 have h:=Holds.new (enc:=encB) w 5 #[x,y,z,t]
 have e:Array.map encB #[x,y,z,t]=#[.int .u8 (ub x),.int .u8 (ub y),.int .u8 (ub z),.int .u8 (ub t)]:=by simp[encB]
 rw[e] at h
 exact h
theorem takeFrame_any (b:Nat) (S:Sp) (a:Option Addr) (sb so len cap:Nat) (bs:Bs) (w:World) (hok:Ok S) (hS:HSp w b S) (hl:bs.size=len) (hcap:len≤cap) (hbig:len≤1099511627776)
 (hsrc:len=0∨(a=some ⟨sb,so,none⟩∧sb≠b∧Holds encB w sb so bs)) :
 Calls Tryd.prog 23 #[.pointer (some ⟨b,0,none⟩),.slice a len cap] w fun e w'=>e=.returned (.tuple #[])∧Only b 0 162 w w'∧HSp w' b (takeL S (frameL bs.toList)):=by
 have hb:=hS.lt
 have b0:(len:Int)/16777216%256=ub (lenB len 16777216):=lenB_int len 16777216
 have b1:(len:Int)/65536%256=ub (lenB len 65536):=lenB_int len 65536
 have b2:(len:Int)/256%256=ub (lenB len 256):=lenB_int len 256
 have b3:(len:Int)%256=ub (lenB len 1):=lenB_one len
 have hF:Hid (frameL bs.toList=(#[lenB len 16777216,lenB len 65536,lenB len 256,lenB len 1]:Bs).toList++bs.toList):=by
  unfold frameL
  rw[Array.length_toList,hl]
  rfl
 have h4:=holds_four w (lenB len 16777216) (lenB len 65536) (lenB len 256) (lenB len 1)
 generalize lenB len 16777216=x0 at *
 generalize lenB len 65536=x1 at *
 generalize lenB len 256=x2 at *
 generalize lenB len 1=x3 at *
 have hb0:Below w.heap.size w (w.alloc (.cells #[.int .u8 (ub x0),.int .u8 (ub x1),.int .u8 (ub x2),.int .u8 (ub x3)] 5)):=(Below.refl _ _).alloc (Nat.le_refl _) _
 have hS1:=hS.below hb0 hb
 have hO0:Only b 0 162 w (w.alloc (.cells #[.int .u8 (ub x0),.int .u8 (ub x1),.int .u8 (ub x2),.int .u8 (ub x3)] 5)):=Only.of_below hb0 rfl hb
 have hsrc1:len=0∨(a=some ⟨sb,so,none⟩∧sb≠b∧Holds encB (w.alloc (.cells #[.int .u8 (ub x0),.int .u8 (ub x1),.int .u8 (ub x2),.int .u8 (ub x3)] 5)) sb so bs):=by
  by_cases h0:len=0
  ·exact Or.inl h0
  ·rcases hsrc with h|⟨h1,h2,h3⟩
   ·exact Or.inl h
   ·exact Or.inr ⟨h1,h2,Holds.below h3 hb0 (Holds.lt h3 (by omega))⟩
 clear hsrc
 go_enter Tryd.func23,Tryd.ntmps23
 go_wp2_with fail
 generalize w.alloc (.cells #[.int .u8 (ub x0),.int .u8 (ub x1),.int .u8 (ub x2),.int .u8 (ub x3)] 5)=W1 at h4 hb0 hS1 hO0 hsrc1 ⊢
 refine (take_any b S (some ⟨w.heap.size,0,none⟩) w.heap.size 0 4 4 #[x0,x1,x2,x3] W1 hok hS1 rfl (Nat.le_refl _) (by decide) (Or.inr ⟨rfl,by omega,h4⟩)).mono ?_
 rintro e w2 ⟨rfl,hO2,hS2⟩
 have hsrc2:len=0∨(a=some ⟨sb,so,none⟩∧sb≠b∧Holds encB w2 sb so bs):=by
  by_cases h0:len=0
  ·exact Or.inl h0
  ·rcases hsrc1 with h|⟨h1,h2,h3⟩
   ·exact Or.inl h
   ·exact Or.inr ⟨h1,h2,Holds.other h3 hO2 h2 (by omega)⟩
 go_wp2_with fail
 refine (take_any b _ a sb so len cap bs w2 (takeL_ok hok _) hS2 hl hcap hbig hsrc2).mono ?_
 rintro e w3 ⟨rfl,hO3,hS3⟩
 go_wp2
 go_end0
 refine ⟨rfl,(hO0.trans hO2).trans hO3,?_⟩
 rw[hF.out,takeL_append]
 exact hS3
end SP
namespace SP
open Go.RowKit Go.Sort Go.Deep
def framesL (label:List UInt8) (ps:List (List UInt8)):List UInt8:=frameL label++ps.flatMap frameL
def tagL (label:List UInt8) (ps:List (List UInt8)):Bs:=hashL (framesL label ps)
theorem tagL_size (label:List UInt8) (ps:List (List UInt8)):(tagL label ps).size=32:=hashL_size _
theorem framesL_snoc (label:List UInt8) (ps:List (List UInt8)) (x:List UInt8):framesL label (ps++[x])=framesL label ps++frameL x:=by
 unfold framesL
 rw[List.flatMap_append,← List.append_assoc]
 simp
def PartOk (w:World) (v:Value) (x:List UInt8):Prop:=
 ∃ a sb so cap bs,v=.slice a (Array.size bs) cap∧bs.toList=x∧bs.size≤cap∧bs.size≤1099511627776∧(bs.size=0∨(a=some ⟨sb,so,none⟩∧Holds encB w sb so bs))
theorem PartOk.below {w w1:World} {v:Value} {x:List UInt8} (h:PartOk w v x) (k:Below w.heap.size w w1):PartOk w1 v x:=by
 obtain ⟨a,sb,so,cap,bs,h1,h2,h3,h4,h5⟩:=h
 refine ⟨a,sb,so,cap,bs,h1,h2,h3,h4,?_⟩
 rcases h5 with h5|⟨h5,h6⟩
 ·exact Or.inl h5
 ·exact Or.inr ⟨h5,Holds.below' h6 k⟩
def PartsOk (w:World) (pa:Option Addr) (ps:List (List UInt8)):Prop:=
 ps.length=0∨∃ pb po,pa=some ⟨pb,po,none⟩∧∀ j,j<ps.length→∃ v,w.cell? ⟨pb,po+j,none⟩=some v∧PartOk w v ps[j]!
theorem take_snoc_getD {α:Type} [Inhabited α] (l:List α) (k:Nat) (h:k<l.length):l.take (k+1)=l.take k++[l[k]!]:=by
 rw[List.take_succ_eq_append_getElem h,getElem!_pos l k h]
theorem Tag_any (label:ByteArray) (pa:Option Addr) (pcap:Nat) (ps:List (List UInt8)) (w:World) (hlab:label.size≤1048576) (hpl:ps.length≤1048576) (hP:PartsOk w pa ps) :
 Calls Tryd.prog 14 #[.string label,.slice pa ps.length pcap] w fun e w'=>∃ r,e=.returned (.slice (some ⟨r,0,none⟩) 32 32)∧w.heap.size≤r∧Below w.heap.size w w'∧Holds encB w' r 0 (tagL label.data.toList ps):=by
 have hS0:=hsp_new w 64
 have hb0:Below w.heap.size w (w.alloc (.cells spZero 64)):=(Below.refl _ _).alloc (Nat.le_refl _) _
 have hs0:(w.alloc (.cells spZero 64)).heap.size=w.heap.size+1:=by simp
 have zv:=zero68
 generalize hW1:w.alloc (.cells spZero 64)=W1 at hS0 hb0 hs0
 obtain ⟨v2,W2,hcv,own2,hb2,hv2⟩:=conv_bytes (w:=W1) (B:=0) label (Nat.zero_le _)
 rw[hv2] at hcv own2
 obtain ⟨hq0,hq1,hle2,hH2⟩:=own2.holds
 rw[← hq1] at hle2
 clear hq0 hq1
 have hH2':Holds encB W2 W1.heap.size 0 label.data:=by simpa using hH2
 have hS2:=hS0.below hb2 hS0.lt
 have hsz2:=hb2.size
 obtain ⟨n,hn⟩:∃ n,ps.length=n:=⟨_,rfl⟩
 rw[hn]
 have Hn:Hid (ps.length=n):=hn
 have hn20:n≤1048576:=by omega
 rw[hs0] at hcv hH2'
 generalize hc2:grownCap W1 label.size 0 5=c2 at *
 clear own2 hv2 hH2 hn hc2
 have hcv':(convert 9 23 (.string label)).run Tryd.prog (w.alloc (.cells spZero 64))=.ok (.slice (some ⟨w.heap.size+1,0,none⟩) label.size c2) W2:=by rw[hW1];exact hcv
 clear hW1 hcv
 go_enter Tryd.func14,Tryd.ntmps14
 go_wp2_with fail
 refine (takeFrame_any w.heap.size S0 (some ⟨w.heap.size+1,0,none⟩) (w.heap.size+1) 0 label.size c2 label.data W2 S0_ok hS2 rfl (by omega) (by omega) (Or.inr ⟨rfl,by omega,hH2'⟩)).mono ?_
 rintro e w3 ⟨rfl,hO3,hS3⟩
 have hb3:Below w.heap.size w w3:=(hb0.trans (hb2.mono (by omega))).trans (hO3.below (by omega) (Nat.le_refl _))
 have hz3:w.heap.size<w3.heap.size:=hS3.lt
 clear hcv' hH2' hO3 zv hS2
 go_wp2
 go_loopg [13] n (fun g s13 wr=>∃ (k:Nat) (Sk:Sp),k+g=n∧s13=.int .i64 k∧HSp wr w.heap.size Sk∧Below w.heap.size w wr∧Ok Sk∧Hid (Sk=takeL S0 (framesL label.data.toList (ps.take k))))
 case atStart =>
  refine ⟨0,_,by omega,rfl,hS3,hb3,takeL_ok S0_ok _,?_⟩
  rw[List.take_zero]
  unfold framesL
  rw[List.flatMap_nil,List.append_nil]
  rfl
 case round =>
  clear hS3 hb3 hz3
  obtain ⟨k,Sk,hk,rfl,hSk,hb,hok,HE⟩:=hrel
  by_cases hlt:k<n
  ·obtain ⟨pb,po,rfl,hPj⟩:∃ pb po,pa=some ⟨pb,po,none⟩∧∀ j,j<ps.length→∃ v,w.cell? ⟨pb,po+j,none⟩=some v∧PartOk w v ps[j]!:=by
    rcases hP with h|h
    ·have:=Hn.out;omega
    ·exact h
   obtain ⟨v,hvc,hvp⟩:=hPj k (by have:=Hn.out;omega)
   have hpb:=World.block_lt_of_cell? _ _ hvc
   have hvc':wr.cell? ⟨pb,po+k,none⟩=some v:=by rw[hb.cell (p:=⟨pb,po+k,none⟩) hpb];exact hvc
   obtain ⟨a,sb,so,cap,bs,rfl,hbl,hbc,hbb,hsrc⟩:=hvp
   have hsrc':bs.size=0∨(a=some ⟨sb,so,none⟩∧sb≠w.heap.size∧Holds encB wr sb so bs):=by
    by_cases h0:bs.size=0
    ·exact Or.inl h0
    ·rcases hsrc with h|⟨h1,h2⟩
     ·exact Or.inl h
     ·have:=Holds.lt h2 (by omega)
      exact Or.inr ⟨h1,by omega,Holds.below h2 hb this⟩
   have HB:Hid (bs.toList=ps[k]!):=hbl
   have l1:(k:Int)<(n:Int):=by omega
   generalize hbz:bs.size=bz at *
   clear hvc hsrc hPj hbl
   go_wp2_with fail
   refine (takeFrame_any w.heap.size Sk a sb so bz cap bs wr hok hSk hbz hbc hbb hsrc').mono ?_
   rintro e w4 ⟨rfl,hO4,hS4⟩
   go_wp2
   go_roundg (gk-1)
   case measure=>omega
   case rel =>
    refine ⟨k+1,_,by omega,by go_num,hS4,hb.trans (hO4.below hb.size (Nat.le_refl _)),takeL_ok hok _,?_⟩
    rw[take_snoc_getD ps k (by have:=Hn.out;omega),framesL_snoc,takeL_append,← HE.out,HB.out]
    rfl
  ·have hkn:k=n:=by omega
   have l1:(n:Int)≤(k:Int):=by omega
   have HE2:Hid (Sk=takeL S0 (framesL label.data.toList ps)):=by
    have e1:ps.take k=ps:=List.take_of_length_le (by have:=Hn.out;omega)
    rw[e1] at HE
    exact HE
   clear HE
   go_wp2_with fail
   refine (end_any w.heap.size Sk 6 wr hok hSk).mono ?_
   rintro e w5 ⟨rfl,hO5,hS5⟩
   have hD5:Holds enc w5 w.heap.size 0 (absorb (framesL label.data.toList ps) 6):=by
    have:=hS5.d
    rw[HE2.out] at this
    exact this
   clear hS5
   go_wp2_with fail
   refine (front_any w.heap.size 0 32 _ _ (absorb_size _ _) hD5 (by decide)).mono ?_
   rintro e w6 ⟨rfl,hb6,hF6⟩
   have hs5:=hO5.size
   have hs4:=hb.size
   go_wp2
   go_ret
   exact ⟨w5.heap.size,rfl,by omega,(hb.trans (hO5.below hb.size (Nat.le_refl _))).trans (hb6.mono (by omega)),hF6⟩
end SP
namespace SP
open Go.RowKit Go.Sort Go.Deep
variable {B:Nat} {w w1:World} {v:Value} {T:List UInt8}
set_option maxRecDepth 4000
end SP
namespace SP
open Go.RowKit Go.Sort Go.Deep
attribute [local go_sem] bits_xor64 bits_and64 bits_or64 wrap_u
end SP
namespace SP
open Go.RowKit Go.Sort Go.Deep
attribute [local go_sem] bits_xor64 bits_and64 bits_or64 wrap_u
end SP
namespace SP
open Go.RowKit Go.Sort Go.Deep
attribute [local go_sem] bits_xor64 bits_and64 bits_or64 bits_not64 wrap_u
end SP
namespace SP
open Go.RowKit Go.Sort Go.Deep
attribute [local go_sem] bits_xor64 bits_and64 bits_or64 bits_not64 wrap_u wrap_ub low_u
end SP
namespace SP
open Go.RowKit Go.Sort Go.Deep
attribute [local go_sem] bits_xor8
end SP
namespace SP
open Go.RowKit Go.Sort Go.Deep
end SP
namespace SP
open Go.RowKit Go.Sort Go.Deep
end SP
namespace SP
open Go.RowKit Go.Sort Go.Deep
end SP
section
open Go.RowKit
variable {P:Nat} [NeZero P] {N:Nat}
def val (a b c d:Nat):Nat:=a+18446744073709551616*b+340282366920938463463374607431768211456*c+6277101735386680763835789423207666416102355444464034512896*d
def Four (v:Value) (n:Nat):Prop:=∃ a b c d:Nat,v=.agg #[.int .u64 a,.int .u64 b,.int .u64 c,.int .u64 d] ∧
 a<18446744073709551616∧b<18446744073709551616∧c<18446744073709551616∧d<18446744073709551616∧n=val a b c d
def top:Nat:=115792089237316195423570985008687907853269984665640564039457584007913129639936
theorem val_lt {a b c d:Nat} (ha:a<18446744073709551616) (hb:b<18446744073709551616) (hc:c<18446744073709551616) (hd:d<18446744073709551616):val a b c d<top:=by
 unfold val top;omega
theorem Four.lt {v:Value} {n:Nat} (h:Four v n):n<top:=by
 obtain ⟨a,b,c,d,-,ha,hb,hc,hd,rfl⟩:=h
 exact val_lt ha hb hc hd
theorem val_inj {a b c d p q r s:Nat} (ha:a<18446744073709551616) (hb:b<18446744073709551616) (hc:c<18446744073709551616)
 (hp:p<18446744073709551616) (hq:q<18446744073709551616) (hr:r<18446744073709551616) (h:val a b c d=val p q r s):a=p∧b=q∧c=r∧d=s:=by
 unfold val at h;omega
theorem Four.inj {v v':Value} {n:Nat} (h:Four v n) (h':Four v' n):v=v':=by
 obtain ⟨a,b,c,d,rfl,ha,hb,hc,hd,e⟩:=h
 obtain ⟨p,q,r,s,rfl,hp,hq,hr,hs,e'⟩:=h'
 obtain ⟨rfl,rfl,rfl,rfl⟩:=val_inj ha hb hc hp hq hr (e.symm.trans e')
 rfl
theorem Four.num {v:Value} {n m:Nat} (h:Four v n) (h':Four v m):n=m:=by
 obtain ⟨a,b,c,d,rfl,ha,hb,hc,hd,rfl⟩:=h
 obtain ⟨p,q,r,s,e,hp,hq,hr,hs,rfl⟩:=h'
 simp only[Value.agg.injEq,Array.mk.injEq,List.cons.injEq,Value.int.injEq,true_and,and_true,Int.ofNat_inj] at e
 obtain ⟨rfl,rfl,rfl,rfl⟩:=e
 rfl
theorem Four.mk {a b c d n:Nat} (ha:a<18446744073709551616) (hb:b<18446744073709551616) (hc:c<18446744073709551616) (hd:d<18446744073709551616) (hn:n=val a b c d) :
 Four (.agg #[.int .u64 a,.int .u64 b,.int .u64 c,.int .u64 d]) n:=⟨a,b,c,d,rfl,ha,hb,hc,hd,hn⟩
theorem ret_int {k:IntKind} {a b:Int} (h:a=b):Ending.returned (.int k a)=.returned (.int k b):=by rw[h]
end
section
open Go.RowKit Go.Sort
variable {P:Nat} [NeZero P] {N:Nat}
theorem mixed:Tryd.prog.follows .mixedOrders=true:=by kernel_rfl
theorem add64 (x y c:Nat) (hx:x<18446744073709551616) (hy:y<18446744073709551616) (hc:c≤1) :
 ∃ s k:Nat,(∀ w,(callFunc 84 #[.int .u64 x,.int .u64 y,.int .u64 c]).run Tryd.prog w=.ok (.value (.tuple #[.int .u64 s,.int .u64 k])) w) ∧
  s<18446744073709551616∧k≤1∧s+18446744073709551616*k=x+y+c:=by
 refine ⟨(x+y+c)%18446744073709551616,(x+y+c)/18446744073709551616,fun w=>?_,by omega,by omega,by omega⟩
 rw[run_callFunc_extern Tryd.func84 (by kernel_rfl) (by kernel_rfl) (by kernel_rfl) (e:=add64Entry) (by kernel_rfl),run_add64 x y c (by omega) (by omega) (by omega) (by omega)]
 simp only[Result.andThen]
 congr 5<;>omega
theorem sub64 (x y c:Nat) (hx:x<18446744073709551616) (hy:y<18446744073709551616) (hc:c≤1) :
 ∃ s k:Nat,(∀ w,(callFunc 99 #[.int .u64 x,.int .u64 y,.int .u64 c]).run Tryd.prog w=.ok (.value (.tuple #[.int .u64 s,.int .u64 k])) w) ∧
  s<18446744073709551616∧k≤1∧s+y+c=x+18446744073709551616*k:=by
 refine ⟨(x+18446744073709551616-y-c)%18446744073709551616,if x<y+c then 1 else 0,fun w=>?_,by omega,by split<;>omega,by split<;>omega⟩
 rw[run_callFunc_extern Tryd.func99 (by kernel_rfl) (by kernel_rfl) (by kernel_rfl) (e:=(Extern.MathBitsCarry.rows[1]).2) (by kernel_rfl)]
 have:c=0∨c=1:=by omega
 rcases this with rfl|rfl<;>rfl
theorem add64z (x y:Nat) (hx:x<18446744073709551616) (hy:y<18446744073709551616) :
 ∃ s k:Nat,(∀ w,(callFunc 84 #[.int .u64 x,.int .u64 y,.int .u64 0]).run Tryd.prog w=.ok (.value (.tuple #[.int .u64 s,.int .u64 k])) w) ∧
  s<18446744073709551616∧k≤1∧s+18446744073709551616*k=x+y:=add64 x y 0 hx hy (Nat.zero_le 1)
theorem sub64z (x y:Nat) (hx:x<18446744073709551616) (hy:y<18446744073709551616) :
 ∃ s k:Nat,(∀ w,(callFunc 99 #[.int .u64 x,.int .u64 y,.int .u64 0]).run Tryd.prog w=.ok (.value (.tuple #[.int .u64 s,.int .u64 k])) w) ∧
  s<18446744073709551616∧k≤1∧s+y=x+18446744073709551616*k:=sub64 x y 0 hx hy (Nat.zero_le 1)
theorem maskN (a:Nat) (ha:a<18446744073709551616):bits .and .u64 (a:Int) 4294967295=((a%4294967296:Nat):Int):=by
 have h:=bits_and_u64_nat a 4294967295 ha (by omega)
 rw[show a &&& 4294967295=a%4294967296 from Nat.and_two_pow_sub_one_eq_mod a 32] at h
 exact h
theorem divN (a:Nat):(a:Int)/4294967296=((a/4294967296:Nat):Int):=by omega
theorem mulN (a b:Nat):(a:Int)*(b:Int)=((a*b:Nat):Int):=(Int.natCast_mul a b).symm
theorem addN (a b:Nat):(a:Int)+(b:Int)=((a+b:Nat):Int):=(Int.natCast_add a b).symm
theorem wrapN (a:Nat) (ha:a<18446744073709551616):IntKind.u64.wrap (a:Int)=(a:Int):=by rw[IntKind.wrap_u64];omega
theorem wrapM (a:Nat):IntKind.u64.wrap (a:Int)=((a%18446744073709551616:Nat):Int):=by rw[IntKind.wrap_u64];omega
theorem mul64e (x y:Nat) (hx:x<18446744073709551616) (hy:y<18446744073709551616) (w:World) :
 Calls Tryd.prog 100 #[.int .u64 x,.int .u64 y] w fun e w'=>e=.returned (.tuple #[.int .u64 ((x*y/18446744073709551616:Nat):Int),.int .u64 ((x*y%18446744073709551616:Nat):Int)])∧w'=w:=by
 obtain ⟨bd,bt,bw,hhi⟩:=Lib.mul64_hi x y hx hy
 have ba:=Lib.half_mul_le (a:=x/4294967296) (b:=y/4294967296) (by omega) (by omega)
 have bb:=Lib.half_mul_le (a:=x/4294967296) (b:=y%4294967296) (by omega) (by omega)
 have bc:=Lib.half_mul_le (a:=x%4294967296) (b:=y/4294967296) (by omega) (by omega)
 have b1:x/4294967296*(y/4294967296)<18446744073709551616:=by omega
 have b2:x/4294967296*(y%4294967296)<18446744073709551616:=by omega
 have b3:x%4294967296*(y/4294967296)<18446744073709551616:=by omega
 have bh1:x/4294967296*(y/4294967296)+(x/4294967296*(y%4294967296)+x%4294967296*(y%4294967296)/4294967296)/4294967296<18446744073709551616:=by omega
 have bh:x/4294967296*(y/4294967296)+(x/4294967296*(y%4294967296)+x%4294967296*(y%4294967296)/4294967296)/4294967296+((x/4294967296*(y%4294967296)+x%4294967296*(y%4294967296)/4294967296)%4294967296+x%4294967296*(y/4294967296))/4294967296<18446744073709551616:=by omega
 go_enter Tryd.func100,Tryd.ntmps100
 go_wp2
 simp only[maskN x hx,maskN y hy,divN,mulN,addN,wrapN _ bd,wrapN _ b2,wrapN _ bt,maskN _ bt,wrapN _ b3,wrapN _ bw,wrapN _ b1,wrapN _ bh1,wrapN _ bh,wrapM (x*y)]
 rw[hhi]
 go_ret2
 exact ⟨rfl,rfl⟩
theorem mul64q (x y:Nat) (hx:x<18446744073709551616) (hy:y<18446744073709551616) :
 ∃ h l:Nat,(∀ w,Calls Tryd.prog 100 #[.int .u64 x,.int .u64 y] w fun e w'=>e=.returned (.tuple #[.int .u64 h,.int .u64 l])∧w'=w) ∧
  h<18446744073709551616∧l<18446744073709551616∧l+18446744073709551616*h=x*y:=by
 have hxy:x*y≤18446744073709551615*18446744073709551615:=Nat.mul_le_mul (by omega) (by omega)
 exact ⟨_,_,fun w=>mul64e x y hx hy w,by omega,by omega,by omega⟩
theorem mul64 (x y:Nat) (hx:x<18446744073709551616) (hy:y<18446744073709551616) (w:World) :
 Calls Tryd.prog 100 #[.int .u64 x,.int .u64 y] w fun e w'=>w'=w∧∃ h l:Nat,e=.returned (.tuple #[.int .u64 h,.int .u64 l]) ∧
  h<18446744073709551616∧l<18446744073709551616∧l+18446744073709551616*h=x*y:=by
 obtain ⟨h,l,hc,h1,h2,h3⟩:=mul64q x y hx hy
 exact (hc w).mono fun e w' he=>⟨he.2,h,l,he.1,h1,h2,h3⟩
theorem mulstep (x y o c:Nat) (hx:x<18446744073709551616) (hy:y<18446744073709551616) (ho:o<18446744073709551616) (hc:c<18446744073709551616) :
 ∃ h l s1 k1 s2 k2 g cy:Nat,(∀ w,Calls Tryd.prog 100 #[.int .u64 x,.int .u64 y] w fun e w'=>e=.returned (.tuple #[.int .u64 h,.int .u64 l])∧w'=w) ∧
  (∀ w,(callFunc 84 #[.int .u64 l,.int .u64 c,.int .u64 0]).run Tryd.prog w=.ok (.value (.tuple #[.int .u64 s1,.int .u64 k1])) w) ∧
  (∀ w,(callFunc 84 #[.int .u64 o,.int .u64 s1,.int .u64 0]).run Tryd.prog w=.ok (.value (.tuple #[.int .u64 s2,.int .u64 k2])) w) ∧
  IntKind.u64.wrap ((h:Int)+(k1:Int))=(g:Int)∧IntKind.u64.wrap ((g:Int)+(k2:Int))=(cy:Int) ∧
  s2<18446744073709551616∧cy<18446744073709551616∧s2+18446744073709551616*cy=x*y+o+c:=by
 have hxy:x*y≤18446744073709551615*18446744073709551615:=Nat.mul_le_mul (by omega) (by omega)
 obtain ⟨h,l,hm,hh,hl,e1⟩:=mul64q x y hx hy
 obtain ⟨s1,k1,a1,hs1,hk1,e2⟩:=add64z l c hl hc
 obtain ⟨s2,k2,a2,hs2,hk2,e3⟩:=add64z o s1 ho hs1
 refine ⟨h,l,s1,k1,s2,k2,h+k1,h+k1+k2,hm,a1,a2,?_,?_,hs2,by omega,by omega⟩
 ·rw[addN];exact wrapN _ (by omega)
 ·rw[addN];exact wrapN _ (by omega)
theorem cell_any (x y o c:Nat) (hx:x<18446744073709551616) (hy:y<18446744073709551616) (ho:o<18446744073709551616) (hc:c<18446744073709551616) (w:World) :
 Calls Tryd.prog 98 #[.int .u64 x,.int .u64 y,.int .u64 o,.int .u64 c] w fun e w'=>w'=w∧∃ l h:Nat,e=.returned (.tuple #[.int .u64 l,.int .u64 h]) ∧
  h<18446744073709551616∧l<18446744073709551616∧l+18446744073709551616*h=x*y+o+c:=by
 have hxy:x*y≤18446744073709551615*18446744073709551615:=Nat.mul_le_mul (by omega) (by omega)
 go_enter Tryd.func98,Tryd.ntmps98
 go_wp2_with fail
 refine (mul64 x y hx hy _).mono ?_
 rintro e w1 ⟨rfl,h,l,rfl,hh,hl,e1⟩
 obtain ⟨s1,k1,a1,hs1,hk1,e2⟩:=add64z l o hl ho
 obtain ⟨s2,k2,a2,hs2,hk2,e3⟩:=add64z s1 c hs1 hc
 have w1:IntKind.u64.wrap ((h:Int)+(k1:Int))=((h+k1:Nat):Int):=by rw[addN];exact wrapN _ (by omega)
 have w2:IntKind.u64.wrap (((h+k1:Nat):Int)+(k2:Int))=((h+k1+k2:Nat):Int):=by rw[addN];exact wrapN _ (by omega)
 go_wp2
 go_ret2
 refine ⟨rfl,s2,h+k1+k2,?_,by omega,by omega,by omega⟩
 rfl
def Ret (Q:Value→World→Prop) (e:Ending) (w:World):Prop:=∃ v,e=.returned v∧Q v w
theorem below1 (w:World) (o1:Obj):Below w.heap.size w (w.alloc o1):=(Below.refl _ _).alloc (Nat.le_refl _) o1
theorem below2 (w:World) (o1 o2:Obj):Below w.heap.size w ((w.alloc o1).alloc o2):=(below1 w o1).alloc (by simp) o2
theorem below3 (w:World) (o1 o2 o3:Obj):Below w.heap.size w (((w.alloc o1).alloc o2).alloc o3):=(below2 w o1 o2).alloc (by simp;omega) o3
theorem below4 (w:World) (o1 o2 o3 o4:Obj):Below w.heap.size w ((((w.alloc o1).alloc o2).alloc o3).alloc o4):=(below3 w o1 o2 o3).alloc (by simp;omega) o4
theorem plus_any (x y:Value) (m n:Nat) (hx:Four x m) (hy:Four y n) (w:World) :
 Calls Tryd.prog 58 #[x,y] w (Ret fun e w'=>Below w.heap.size w w'∧∃ (v:Value) (s k:Nat),e=.tuple #[v,.int .u64 k]∧Four v s∧k≤1∧s+top*k=m+n):=by
 obtain ⟨a,b,c,d,rfl,ha,hb,hc,hd,em⟩:=hx
 obtain ⟨p,q,r,s,rfl,hp,hq,hr,hs,en⟩:=hy
 obtain ⟨s0,k0,a0,hs0,hk0,e0⟩:=add64z a p ha hp
 obtain ⟨s1,k1,a1,hs1,hk1,e1⟩:=add64 b q k0 hb hq hk0
 obtain ⟨s2,k2,a2,hs2,hk2,e2⟩:=add64 c r k1 hc hr hk1
 obtain ⟨s3,k3,a3,hs3,hk3,e3⟩:=add64 d s k2 hd hs hk2
 have hv:val s0 s1 s2 s3+top*k3=m+n:=by rw[em,en];unfold val top;omega
 clear e0 e1 e2 e3 em en
 go_enter Tryd.func58,Tryd.ntmps58
 go_wp2_with (first|simp only[a0]|simp only[a1]|simp only[a2]|simp only[a3])
 refine bodyPost_ret (v:=?v) ?hr rfl ?hR
 case hr=>simp[results,Tryd.results58,go_sem];rfl
 exact ⟨_,rfl,below3 _ _ _ _,_,_,k3,rfl,Four.mk hs0 hs1 hs2 hs3 rfl,hk3,hv⟩
theorem minus_any (x y:Value) (m n:Nat) (hx:Four x m) (hy:Four y n) (w:World) :
 Calls Tryd.prog 97 #[x,y] w (Ret fun e w'=>Below w.heap.size w w'∧∃ (v:Value) (s k:Nat),e=.tuple #[v,.int .u64 k]∧Four v s∧k≤1∧s+n=m+top*k):=by
 obtain ⟨a,b,c,d,rfl,ha,hb,hc,hd,em⟩:=hx
 obtain ⟨p,q,r,s,rfl,hp,hq,hr,hs,en⟩:=hy
 obtain ⟨s0,k0,a0,hs0,hk0,e0⟩:=sub64z a p ha hp
 obtain ⟨s1,k1,a1,hs1,hk1,e1⟩:=sub64 b q k0 hb hq hk0
 obtain ⟨s2,k2,a2,hs2,hk2,e2⟩:=sub64 c r k1 hc hr hk1
 obtain ⟨s3,k3,a3,hs3,hk3,e3⟩:=sub64 d s k2 hd hs hk2
 have hv:val s0 s1 s2 s3+n=m+top*k3:=by rw[em,en];unfold val top;omega
 clear e0 e1 e2 e3 em en
 go_enter Tryd.func97,Tryd.ntmps97
 go_wp2_with (first|simp only[a0]|simp only[a1]|simp only[a2]|simp only[a3])
 refine bodyPost_ret (v:=?v) ?hr rfl ?hR
 case hr=>simp[results,Tryd.results97,go_sem];rfl
 exact ⟨_,rfl,below3 _ _ _ _,_,_,k3,rfl,Four.mk hs0 hs1 hs2 hs3 rfl,hk3,hv⟩
theorem four_any (x:Value) (m:Nat) (hx:Four x m) (w:World) :
 Calls Tryd.prog 59 #[x] w (Ret fun e w'=>Below w.heap.size w w'∧e=x):=by
 obtain ⟨a,b,c,d,rfl,ha,hb,hc,hd,em⟩:=hx
 clear em
 go_enter Tryd.func59,Tryd.ntmps59
 go_wp2
 refine bodyPost_ret (v:=?v) ?hr rfl ?hR
 case hr=>simp[results,Tryd.results59,go_sem];rfl
 exact ⟨_,rfl,below2 _ _ _,rfl⟩
theorem number_any (x:Value) (m:Nat) (hx:Four x m) (w:World) :
 Calls Tryd.prog 77 #[x] w (Ret fun e w'=>Below w.heap.size w w'∧e=x):=by
 obtain ⟨a,b,c,d,rfl,ha,hb,hc,hd,em⟩:=hx
 clear em
 go_enter Tryd.func77,Tryd.ntmps77
 go_wp2
 refine bodyPost_ret (v:=?v) ?hr rfl ?hR
 case hr=>simp[results,Tryd.results77,go_sem];rfl
 exact ⟨_,rfl,below2 _ _ _,rfl⟩
theorem mul_val (x a b c d:Nat):x*val a b c d=val (x*a) (x*b) (x*c) (x*d):=by
 unfold val
 rw[Nat.mul_add,Nat.mul_add,Nat.mul_add,Nat.mul_left_comm x _ b,Nat.mul_left_comm x _ c,Nat.mul_left_comm x _ d]
theorem row_sum {x a b c d p q r s l0 l1 l2 l3 h0 h1 h2 h3 m n:Nat} (em:m=val a b c d) (en:n=val p q r s)
 (e0:l0+18446744073709551616*h0=x*a+p+0) (e1:l1+18446744073709551616*h1=x*b+q+h0)
 (e2:l2+18446744073709551616*h2=x*c+r+h1) (e3:l3+18446744073709551616*h3=x*d+s+h2) :
 l0+18446744073709551616*val l1 l2 l3 h3=x*m+n:=by
 rw[em,en,mul_val x a b c d]
 generalize x*a=xa at *
 generalize x*b=xb at *
 generalize x*c=xc at *
 generalize x*d=xd at *
 unfold val
 omega
theorem row_any (x:Nat) (y z:Value) (m n:Nat) (hx:x<18446744073709551616) (hy:Four y m) (hz:Four z n) (w:World) :
 Calls Tryd.prog 96 #[.int .u64 x,y,z] w (Ret fun e w'=>Below w.heap.size w w'∧∃ (l:Nat) (v:Value) (s:Nat),e=.tuple #[.int .u64 l,v]∧l<18446744073709551616∧Four v s∧l+18446744073709551616*s=x*m+n):=by
 obtain ⟨a,b,c,d,rfl,ha,hb,hc,hd,em⟩:=hy
 obtain ⟨p,q,r,s,rfl,hp,hq,hr,hs,en⟩:=hz
 go_enter Tryd.func96,Tryd.ntmps96
 go_wp2_with fail
 refine (cell_any x a p 0 hx ha hp (by decide) _).mono ?_
 rintro e w1 ⟨rfl,l0,h0,rfl,hh0,hl0,e0⟩
 go_wp2_with fail
 refine (cell_any x b q h0 hx hb hq hh0 _).mono ?_
 rintro e w1 ⟨rfl,l1,h1,rfl,hh1,hl1,e1⟩
 go_wp2_with fail
 refine (cell_any x c r h1 hx hc hr hh1 _).mono ?_
 rintro e w1 ⟨rfl,l2,h2,rfl,hh2,hl2,e2⟩
 go_wp2_with fail
 refine (cell_any x d s h2 hx hd hs hh2 _).mono ?_
 rintro e w1 ⟨rfl,l3,h3,rfl,hh3,hl3,e3⟩
 go_wp2
 refine bodyPost_ret (v:=?v) ?hr rfl ?hR
 case hr=>simp[results,Tryd.results96,go_sem];rfl
 exact ⟨_,rfl,below3 _ _ _ _,l0,_,_,rfl,hl0,Four.mk hl1 hl2 hl3 hh3 rfl,row_sum em en e0 e1 e2 e3⟩
end
section
open Go.RowKit Go.Sort
structure At4 (w:World) (k a b c d:Nat):Prop where
 c0:w.cell? ⟨k,0,none⟩=some (.int .u64 a)
 c1:w.cell? ⟨k,1,none⟩=some (.int .u64 b)
 c2:w.cell? ⟨k,2,none⟩=some (.int .u64 c)
 c3:w.cell? ⟨k,3,none⟩=some (.int .u64 d)
 f:∀ o,w.frozen? ⟨k,o,none⟩=false
variable {w w1:World} {k a b c d:Nat}
theorem At4.lt (h:At4 w k a b c d):k<w.heap.size:=World.block_lt_of_cell? _ _ h.c0
theorem At4.below {B:Nat} (h:At4 w k a b c d) (hb:Below B w w1) (hk:k<B):At4 w1 k a b c d:=
 ⟨by rw[hb.cell (p:=⟨k,0,none⟩) hk];exact h.c0,by rw[hb.cell (p:=⟨k,1,none⟩) hk];exact h.c1,by rw[hb.cell (p:=⟨k,2,none⟩) hk];exact h.c2,by rw[hb.cell (p:=⟨k,3,none⟩) hk];exact h.c3,
  fun o=>by rw[hb.frozen (p:=⟨k,o,none⟩) hk];exact h.f o⟩
theorem At4.call (h:At4 w k a b c d) (hb:Below w.heap.size w w1):At4 w1 k a b c d:=h.below hb h.lt
theorem At4.alloc (h:At4 w k a b c d) (o:Obj):At4 (w.alloc o) k a b c d:=h.call (below1 w o)
theorem At4.drewN (h:At4 w k a b c d) (q:Nat):At4 (w.drewN q) k a b c d:=⟨h.c0,h.c1,h.c2,h.c3,h.f⟩
theorem At4.new (w:World) (t:TypeId) (a b c d:Nat):At4 (w.alloc (.cells #[.int .u64 a,.int .u64 b,.int .u64 c,.int .u64 d] t)) w.heap.size a b c d:=
 ⟨by rw[World.cell?_alloc_new];rfl,by rw[World.cell?_alloc_new];rfl,by rw[World.cell?_alloc_new];rfl,by rw[World.cell?_alloc_new];rfl,fun o=>World.frozen?_alloc_new _ _ _ _⟩
theorem At4.made (w:World) (t:TypeId) (a b c d:Nat) {k:Nat} (hk:w.heap.size=k):At4 (w.alloc (.cells #[.int .u64 a,.int .u64 b,.int .u64 c,.int .u64 d] t)) k a b c d:=
 hk ▸ At4.new w t a b c d
theorem ne_addr {i j:Nat} {o o':Nat} (h:i≠j∨o≠o'):(⟨i,o,none⟩:Addr)≠⟨j,o',none⟩:=by
 intro e
 simp only[Addr.mk.injEq,and_true] at e
 omega
theorem At4.other {j o : Nat} (h : At4 w k a b c d) (hj : j ≠ k) (v : Value) : At4 (w.setCell ⟨j, o, none⟩ v) k a b c d :=
  ⟨by rw [World.cell?_setCell_other _ _ _ _ (ne_addr (Or.inl hj))]; exact h.c0, by rw [World.cell?_setCell_other _ _ _ _ (ne_addr (Or.inl hj))]; exact h.c1,
   by rw [World.cell?_setCell_other _ _ _ _ (ne_addr (Or.inl hj))]; exact h.c2, by rw [World.cell?_setCell_other _ _ _ _ (ne_addr (Or.inl hj))]; exact h.c3, fun o => by rw [World.frozen?_setCell]; exact h.f o⟩
theorem At4.set0 (h : At4 w k a b c d) (x : Nat) : At4 (w.setCell ⟨k, 0, none⟩ (.int .u64 (x : Int))) k x b c d :=
  ⟨World.cell?_setCell_same _ _ _ h.c0, by rw [World.cell?_setCell_other _ _ _ _ (ne_addr (Or.inr (by decide)))]; exact h.c1,
   by rw [World.cell?_setCell_other _ _ _ _ (ne_addr (Or.inr (by decide)))]; exact h.c2, by rw [World.cell?_setCell_other _ _ _ _ (ne_addr (Or.inr (by decide)))]; exact h.c3, fun o => by rw [World.frozen?_setCell]; exact h.f o⟩
theorem At4.set1 (h : At4 w k a b c d) (x : Nat) : At4 (w.setCell ⟨k, 1, none⟩ (.int .u64 (x : Int))) k a x c d :=
  ⟨by rw [World.cell?_setCell_other _ _ _ _ (ne_addr (Or.inr (by decide)))]; exact h.c0, World.cell?_setCell_same _ _ _ h.c1,
   by rw [World.cell?_setCell_other _ _ _ _ (ne_addr (Or.inr (by decide)))]; exact h.c2, by rw [World.cell?_setCell_other _ _ _ _ (ne_addr (Or.inr (by decide)))]; exact h.c3, fun o => by rw [World.frozen?_setCell]; exact h.f o⟩
theorem At4.set2 (h : At4 w k a b c d) (x : Nat) : At4 (w.setCell ⟨k, 2, none⟩ (.int .u64 (x : Int))) k a b x d :=
  ⟨by rw [World.cell?_setCell_other _ _ _ _ (ne_addr (Or.inr (by decide)))]; exact h.c0, by rw [World.cell?_setCell_other _ _ _ _ (ne_addr (Or.inr (by decide)))]; exact h.c1,
   World.cell?_setCell_same _ _ _ h.c2, by rw [World.cell?_setCell_other _ _ _ _ (ne_addr (Or.inr (by decide)))]; exact h.c3, fun o => by rw [World.frozen?_setCell]; exact h.f o⟩
theorem At4.set3 (h : At4 w k a b c d) (x : Nat) : At4 (w.setCell ⟨k, 3, none⟩ (.int .u64 (x : Int))) k a b c x :=
  ⟨by rw [World.cell?_setCell_other _ _ _ _ (ne_addr (Or.inr (by decide)))]; exact h.c0, by rw [World.cell?_setCell_other _ _ _ _ (ne_addr (Or.inr (by decide)))]; exact h.c1,
   by rw [World.cell?_setCell_other _ _ _ _ (ne_addr (Or.inr (by decide)))]; exact h.c2, World.cell?_setCell_same _ _ _ h.c3, fun o => by rw [World.frozen?_setCell]; exact h.f o⟩
theorem At4.drew (h:At4 w k a b c d):At4 w.drew k a b c d:=⟨h.c0,h.c1,h.c2,h.c3,h.f⟩
def set4 (w:World) (k:Nat) (x y z t:Value):World:=(((w.setCell ⟨k,0,none⟩ x).setCell ⟨k,1,none⟩ y).setCell ⟨k,2,none⟩ z).setCell ⟨k,3,none⟩ t
theorem At4.self4 (h:At4 w k a b c d) (x y z t:Nat):At4 (set4 w k (.int .u64 x) (.int .u64 y) (.int .u64 z) (.int .u64 t)) k x y z t:=(((h.set0 x).set1 y).set2 z).set3 t
theorem At4.other4 {j:Nat} (h:At4 w k a b c d) (hj:j≠k) (x y z t:Value):At4 (set4 w j x y z t) k a b c d:=(((h.other hj x).other hj y).other hj z).other hj t
theorem below_set4 {B j:Nat} {w0:World} (h:Below B w0 w) (hj:B≤j) (x y z t:Value):Below B w0 (set4 w j x y z t):=
 (((h.setCell (p:=⟨j,0,none⟩) hj x).setCell (p:=⟨j,1,none⟩) hj y).setCell (p:=⟨j,2,none⟩) hj z).setCell (p:=⟨j,3,none⟩) hj t
end
section
open Go.RowKit Go.Sort Go.Deep
abbrev Bs:=Array UInt8
def ub (x:UInt8):Int:=(x.toNat:Int)
def encB (x:UInt8):Value:=.int .u8 (ub x)
structure Only (b off n:Nat) (w w':World):Prop where
 os:w'.os=w.os
 tape:w'.tape=w.tape
 output:w'.output=w.output
 size:w.heap.size≤w'.heap.size
 block:∀ k,k<w.heap.size→k≠b→w'.heap[k]? = w.heap[k]?
 cell:∀ o,(o<off∨off+n≤o)→w'.cell? ⟨b,o,none⟩=w.cell? ⟨b,o,none⟩
 froz:∀ o,w'.frozen? ⟨b,o,none⟩=w.frozen? ⟨b,o,none⟩
variable {b off n:Nat} {w w1 w2:World}
theorem Only.refl (b off n:Nat) (w:World):Only b off n w w:=⟨rfl,rfl,rfl,Nat.le_refl _,fun _ _ _=>rfl,fun _ _=>rfl,fun _=>rfl⟩
theorem Only.trans (h:Only b off n w w1) (k:Only b off n w1 w2):Only b off n w w2:=
 ⟨k.os.trans h.os,k.tape.trans h.tape,k.output.trans h.output,Nat.le_trans h.size k.size,
  fun i hi hn=>(k.block i (Nat.lt_of_lt_of_le hi h.size) hn).trans (h.block i hi hn),
  fun o ho=>(k.cell o ho).trans (h.cell o ho),fun o=>(k.froz o).trans (h.froz o)⟩
theorem Only.setCell (h:Only b off n w w1) {o:Nat} (h1:off≤o) (h2:o<off+n) (v:Value):Only b off n w (w1.setCell ⟨b,o,none⟩ v):=by
 refine h.trans ⟨rfl,rfl,rfl,by simp,fun k _ hn=>Below.heap_setCell _ _ _ _ hn,fun o' ho=>?_,fun o'=>by simp⟩
 exact World.cell?_setCell_other _ _ _ _ (by intro e;simp only[Addr.mk.injEq,and_true,true_and] at e;omega)
theorem Only.below (h:Only b off n w w1) {B:Nat} (hB:B≤w.heap.size) (hb:B≤b):Below B w w1:=
 ⟨h.os,h.tape,h.output,h.size,fun k hk=>h.block k (by omega) (by omega)⟩
section
variable {α:Type} [Inhabited α] {enc:α→Value} {d:Array α}
theorem Holds.lt (h:Holds enc w b off d) (hd:0<d.size):b<w.heap.size:=World.block_lt_of_cell? _ _ (h 0 hd).1
theorem Holds.same {o:Nat} (h:Holds enc w b o d) (k:Only b off n w w1) (hd:o+d.size≤off∨off+n≤o):Holds enc w1 b o d:=by
 intro j hj
 rw[k.cell _ (by omega),k.froz]
 exact h j hj
theorem Holds.below {B:Nat} (h:Holds enc w b off d) (k:Below B w w1) (hb:b<B):Holds enc w1 b off d:=by
 intro j hj
 rw[k.cell (p:=⟨b,off+j,none⟩) hb,k.frozen (p:=⟨b,off+j,none⟩) hb]
 exact h j hj
theorem Holds.drewN (h:Holds enc w b off d) (q:Nat):Holds enc (w.drewN q) b off d:=h
theorem Holds.set (h:Holds enc w b off d) {i:Nat} (hi:i<d.size) (x:α):Holds enc (w.setCell ⟨b,off+i,none⟩ (enc x)) b off (d.setIfInBounds i x):=by
 intro j hj
 rw[Array.size_setIfInBounds] at hj
 rw[World.frozen?_setCell]
 by_cases e:j=i
 ·subst e
  rw[getElem!_set_same d j x hi]
  exact ⟨World.cell?_setCell_same _ _ _ (h j hj).1,(h j hj).2⟩
 ·rw[getElem!_set_other d i j x e,World.cell?_setCell_other _ _ _ _ (by intro e';simp only[Addr.mk.injEq,and_true,true_and] at e';omega)]
  exact h j hj
theorem Holds.new (w:World) (t:TypeId) (d:Array α):Holds enc (w.alloc (.cells (d.map enc) t)) w.heap.size 0 d:=by
 intro j hj
 rw[World.cell?_alloc_new,World.frozen?_alloc_new]
 refine ⟨?_,rfl⟩
 simp only[Nat.zero_add,Array.getElem?_map,Array.getElem?_eq_getElem hj,Option.map_some,getElem!_pos d j hj]
theorem Holds.made (w:World) (t:TypeId) (n:Nat) (x:α):Holds enc (w.alloc (.cells (madeCells #[enc x] n) t)) w.heap.size 0 (Array.replicate n x):=by
 intro j hj
 rw[Array.size_replicate] at hj
 rw[World.cell?_alloc_new,World.frozen?_alloc_new]
 refine ⟨?_,rfl⟩
 rw[getElem!_pos _ j (by simpa using hj),Array.getElem_replicate]
 simp[madeCells,hj,Nat.mod_one]
end
section
def fill (i:Nat):UInt8:=UInt8.ofNat (i%251) ^^^ 165
def lentTo (s:ByteArray):Nat→Bs
 | 0=>s.data++Array.replicate 160 0
 | k+1=>(lentTo s k).setIfInBounds (s.size+k) (fill (s.size+k))
def lent (s:ByteArray):Bs:=lentTo s 160
variable {w w1:World} {b o n:Nat}
theorem heap_setCells (b:Nat) {k:Nat} (hk:k≠b):∀ (vs:List Value) (p:Nat) (w:World),(w.setCells b p vs).heap[k]? = w.heap[k]?
 | [],_,_=>rfl
 | v :: r,p,w=>by rw[World.setCells,heap_setCells b hk r (p+1) _,Below.heap_setCell _ _ _ _ hk]
theorem Holds.setCells {bs r:Bs} (h:Holds encB w b o bs) (vs:List Value) (p:Nat) (hr:r.size=bs.size) (hp:p+vs.length≤bs.size)
 (h1:∀ j (hj:j<vs.length),vs[j]=encB r[p+j]!) (h2:∀ j,j<bs.size→j<p∨p+vs.length≤j→r[j]! = bs[j]!):Holds encB (w.setCells b (o+p) vs) b o r:=by
 intro j hj
 rw[hr] at hj
 rw[World.frozen?_setCells]
 refine ⟨?_,(h j hj).2⟩
 by_cases hin:j<p∨p+vs.length≤j
 ·rw[World.cell?_setCells_out b vs (o+p) w ⟨b,o+j,none⟩ (fun _ _=>by simp only;omega),h2 j hj hin]
  exact (h j hj).1
 ·have hj2:j-p<vs.length:=by omega
  have:=World.cell?_setCells_in b vs (o+p) w (fun i hi=>by
   have:=(h (p+i) (by omega)).1
   rw[← Nat.add_assoc] at this
   rw[this];rfl) (j-p) hj2
  rw[show o+p+(j-p)=o+j by omega] at this
  rw[this,h1 (j-p) hj2,show p+(j-p)=j by omega]
theorem app_front (a r:Bs) (j:Nat) (hj:j<a.size):(a++r)[j]! = a[j]:=by
 have h:j<(a++r).size:=by rw[Array.size_append];omega
 rw[getElem!_pos (a++r) j h,Array.getElem_append_left hj]
theorem app_back (a r:Bs) (j:Nat) (h1:a.size≤j) (h2:j<a.size+r.size):(a++r)[j]! = r[j-a.size]!:=by
 have h:j<(a++r).size:=by rw[Array.size_append];omega
 have h3:j-a.size<r.size:=by omega
 rw[getElem!_pos (a++r) j h,Array.getElem_append_right h1,getElem!_pos r (j-a.size) h3]
theorem rep_at (n j:Nat) (h:j<n):(Array.replicate n (0:UInt8))[j]! = 0:=by
 have h':j<(Array.replicate n (0:UInt8)).size:=by rw[Array.size_replicate];exact h
 rw[getElem!_pos (Array.replicate n (0:UInt8)) j h',Array.getElem_replicate]
theorem size_of5 (P:Program) (e:TypeId) (h:(P.info? e).map (·.size)=some 1):∀ w,(Go.sizeOf e).run P w=.ok 1 w:=by
 intro w
 cases hq:P.info? e with
 | none=>simp[hq] at h
 | some i =>
  simp[hq] at h
  simp[Go.sizeOf,typeInfo,hq,h]
theorem conv_str (P:Program) (src dst e:TypeId) (hs:P.underlying src=some (.slice e)) (he:P.underlying e=some (.int .u8)) (hd:P.underlying dst=some .string)
 (w:World) (b o n cap:Nat) (bs:Bs) (hB:Holds encB w b o bs) (hn:bs.size=n):(convert src dst (.slice (some ⟨b,o,none⟩) n cap)).run P w=.ok (.string ⟨bs⟩) w:=by
 have h:=run_convert_bytes_back (P:=P) w src dst e ⟨b,o,none⟩ cap bs.toList hs he hd (fun j hj=>by
  have hj':j<bs.size:=by simpa using hj
  have hc:=(hB j hj').1
  rw[getElem!_pos bs j hj'] at hc
  have e1:(⟨b,o,none⟩:Addr).add j=⟨b,o+j,none⟩:=by
   unfold Addr.add
   by_cases h0:j=0
   ·subst h0;rfl
   ·rw[if_neg h0]
  rw[e1,hc]
  simp[encB,ub])
 simpa[hn] using h
end
section
theorem slice22:Tryd.prog.underlying 23=some (.slice 5):=by kernel_rfl
theorem info5:(Tryd.prog.info? 5).map (fun i=>(i.zero,i.size,i.bytes))=some (some (.int .u8 0),1,1):=by kernel_rfl
theorem int5:Tryd.prog.underlying 5=some (.int .u8):=by kernel_rfl
theorem str9:Tryd.prog.underlying 9=some .string:=by kernel_rfl
theorem size5:∀ w,(Go.sizeOf 5).run Tryd.prog w=.ok 1 w:=size_of5 Tryd.prog 5 (by kernel_rfl)
end
end
section
open Go.RowKit Go.Sort Go.Deep
variable {P:Nat} [NeZero P] {N:Nat}
theorem conv_of (s:ByteArray) (w:World) :
 ∃ cap w',(convert 9 23 (.string s)).run Tryd.prog w=.ok (.slice (some ⟨w.heap.size,0,none⟩) s.size cap) w'∧s.size≤cap∧Below w.heap.size w w'∧Holds encB w' w.heap.size 0 s.data∧w.heap.size<w'.heap.size:=by
 have h:=Lib.run_convert_string_bytes (P:=Tryd.prog) w 9 23 5 s str9 slice22 int5
 have hcap:s.size≤grownCap w s.size 0 5:=by
  unfold grownCap Question.cut
  exact Nat.le_add_right _ _
 have hl:s.data.size=s.size:=rfl
 refine ⟨_,_,h,hcap,?_,?_,by rw[Lib.bytesWorld_size];omega⟩
 ·refine ⟨?_,?_,?_,?_,fun k hk=>Lib.bytesWorld_at_old w 5 s k hk⟩
  ·unfold Lib.bytesWorld World.freeze
   rw[if_neg (by decide)]
   rfl
  ·unfold Lib.bytesWorld World.freeze
   rw[if_neg (by decide)]
   rfl
  ·unfold Lib.bytesWorld World.freeze
   rw[if_neg (by decide)]
   rfl
  ·rw[Lib.bytesWorld_size];omega
 ·intro j hj
  have hb:=Lib.bytesWorld_at_new w 5 s
  have hsz:(Lib.bytesCells w 5 s).size=grownCap w s.size 0 5:=by
   unfold Lib.bytesCells
   rw[Array.size_append,Array.size_map,Array.size_replicate]
   omega
  have hc:(Lib.bytesCells w 5 s)=(s.data++Array.replicate (grownCap w s.size 0 5-s.size) 0).map encB:=by
   unfold Lib.bytesCells
   rw[Array.map_append,Array.map_replicate]
   rfl
  have hj2:j<(s.data++Array.replicate (grownCap w s.size 0 5-s.size) 0).size:=by rw[Array.size_append,Array.size_replicate];omega
  have hget:(s.data++Array.replicate (grownCap w s.size 0 5-s.size) 0)[j]=s.data[j]!:=by
   rw[Array.getElem_append_left hj,getElem!_pos s.data j hj]
  constructor
  ·unfold World.cell?
   rw[hb]
   simp only[Nat.zero_add]
   rw[if_neg (by decide),hc,Array.getElem?_map,Array.getElem?_eq_getElem hj2,Option.map_some,hget]
  ·unfold World.frozen?
   rw[hb]
   simp only[Nat.zero_add,hsz]
   simp
   omega
end
section
open Go.RowKit Go.Sort Go.Deep
def hf (n:Nat):Nat:=2^Nat.log2 (n-1)
section
variable {P:Program} {ops:Array Oper} {rest:List Oper} {op:Oper} {a:Act} {w:World} {Q:Exit→Act→World→Prop}
end
end
namespace RG
open Go Go.RowKit
inductive SV where
 | v (x:Value)
 | p (b o:Nat)
 | s (b n c:Nat)
 | t (b n c:Nat) (y:Value)
def SV.at (μ:Nat→Nat):SV→Value
 | .v x=>x
 | .p b o=>.pointer (some ⟨μ b,o,none⟩)
 | .s b n c=>.slice (some ⟨μ b,0,none⟩) n c
 | .t b n c y=>.tuple #[.slice (some ⟨μ b,0,none⟩) n c,y]
def SV.blk:SV→Option Nat
 | .v _=>none
 | .p b _=>some b
 | .s b _ _=>some b
 | .t b _ _ _=>some b
theorem SV.at_congr {μ ν:Nat→Nat} {s:SV} (h:∀ b,s.blk=some b→μ b=ν b):s.at μ=s.at ν:=by
 cases s with
 | v x=>rfl
 | p b o=>show Value.pointer (some ⟨μ b,o,none⟩)=.pointer (some ⟨ν b,o,none⟩);rw[h b rfl]
 | s b n c=>show Value.slice (some ⟨μ b,0,none⟩) n c=.slice (some ⟨ν b,0,none⟩) n c;rw[h b rfl]
 | t b n c y=>show Value.tuple #[.slice (some ⟨μ b,0,none⟩) n c,y]=.tuple #[.slice (some ⟨ν b,0,none⟩) n c,y];rw[h b rfl]
inductive Kind where
 | stay
 | pass
 | call
 | make (b:Nat)
 | put (b:Nat)
structure It where
 dst:Option Tmp
 need:List (Tmp × Nat)
 out:SV
 kind:Kind
structure Bl where
 before:List Value
 after:List Value
 al:Option Nat
 st:Option Nat
def on (L:Array Bool) (i:Nat):Bool:=L.getD i false
def Bl.live (e:Bl) (L:Array Bool):Bool:=(e.al.map (on L)).getD true
def Bl.put (e:Bl) (L:Array Bool):Bool:=(e.st.map (on L)).getD false
def Bl.now (e:Bl) (L:Array Bool):List Value:=if e.put L=true then e.after else e.before
theorem on_set {L:Array Bool} {i j:Nat} (h:i<L.size):on (L.setIfInBounds i true) j=(on L j || i == j):=by
 unfold on
 simp only[Array.getD_eq_getD_getElem?,Array.getElem?_setIfInBounds]
 by_cases hij:i=j
 ·subst hij;simp[h]
 ·simp[hij]
theorem live_set {e:Bl} {L:Array Bool} {i:Nat} (h:i<L.size):e.live (L.setIfInBounds i true)=(e.live L || e.al == some i):=by
 unfold Bl.live
 cases ha:e.al with
 | none=>rfl
 | some j =>
  show on _ j=(on L j || _)
  rw[on_set h]
  by_cases hij:i=j
  ·subst hij;simp
  ·have h1:(i == j)=false:=by simpa using hij
   have h2:(some j == some i)=false:=by simpa using fun h=>hij h.symm
   rw[h1,h2]
theorem put_set {e:Bl} {L:Array Bool} {i:Nat} (h:i<L.size):e.put (L.setIfInBounds i true)=(e.put L || e.st == some i):=by
 unfold Bl.put
 cases ha:e.st with
 | none=>rfl
 | some j =>
  show on _ j=(on L j || _)
  rw[on_set h]
  by_cases hij:i=j
  ·subst hij;simp
  ·have h1:(i == j)=false:=by simpa using hij
   have h2:(some j == some i)=false:=by simpa using fun h=>hij h.symm
   rw[h1,h2]
theorem range_below {B k o:Nat} {w w':World} {cs:List Value} (h:w.rangeAt k o cs) (hb:Below B w w') (hk:k<B):w'.rangeAt k o cs:=fun j v hv=>by
 rw[hb.cell (p:=⟨k,o+j,none⟩) hk];exact h j v hv
theorem there_below {B k o n:Nat} {w w':World} (h:w.there k o n) (hb:Below B w w') (hk:k<B):w'.there k o n:=fun j hj=>by
 rw[hb.cell (p:=⟨k,o+j,none⟩) hk,hb.frozen (p:=⟨k,o+j,none⟩) hk];exact h j hj
theorem below_setCells {B k:Nat} {w0:World} (hk:B≤k):∀ (vs:List Value) (o:Nat) (w:World),Below B w0 w→Below B w0 (w.setCells k o vs)
 | [],_,_,h=>h
 | v :: r,o,w,h=>below_setCells hk r (o+1) _ (h.setCell (p:=⟨k,o,none⟩) hk v)
theorem setCells_size (k:Nat):∀ (vs:List Value) (o:Nat) (w:World),(w.setCells k o vs).heap.size=w.heap.size
 | [],_,_=>rfl
 | v :: r,o,w=>by
  rw[World.setCells,setCells_size k r (o+1)]
  simp[World.setCell]
theorem there_setCells {k b o n:Nat}:∀ (vs:List Value) (i:Nat) (w:World),w.there b o n→(w.setCells k i vs).there b o n
 | [],_,_,h=>h
 | v :: r,i,w,h=>there_setCells r (i+1) _ fun j hj=>⟨World.isSome_setCells k [v] i w _ (h j hj).1,by rw[World.frozen?_setCell];exact (h j hj).2⟩
structure BelX (k0:Nat) (X:List Nat) (w w':World):Prop where
 os:w'.os=w.os
 tape:w'.tape=w.tape
 output:w'.output=w.output
 size:w.heap.size≤w'.heap.size
 block:∀ j,j<k0→j ∉ X→w'.heap[j]? = w.heap[j]?
theorem BelX.below {k0:Nat} {w w':World} (h:BelX k0 [] w w'):Below k0 w w':=⟨h.os,h.tape,h.output,h.size,fun j hj=>h.block j hj List.not_mem_nil⟩
theorem BelX.drew {k0:Nat} {X:List Nat} {w w':World} (h:BelX k0 X w w'):BelX k0 X w w'.drew:=⟨h.os,h.tape,h.output,h.size,h.block⟩
theorem BelX.refl (k0:Nat) (X:List Nat) (w:World):BelX k0 X w w:=⟨rfl,rfl,rfl,Nat.le_refl _,fun _ _ _=>rfl⟩
theorem BelX.trans {k0:Nat} {X:List Nat} {a b c:World} (h:BelX k0 X a b) (k:BelX k0 X b c):BelX k0 X a c:=
 ⟨k.os.trans h.os,k.tape.trans h.tape,k.output.trans h.output,Nat.le_trans h.size k.size,fun i hi hx=>(k.block i hi hx).trans (h.block i hi hx)⟩
structure Wd (w0:World) (k0:Nat) (X:List Nat) (bl:List Bl) (L:Array Bool) (μ:Nat→Nat) (w:World):Prop where
 bel:BelX k0 X w0 w
 le:k0≤w.heap.size
 has:∀ (b:Nat) (e:Bl),bl[b]? = some e→e.live L=true→w.rangeAt (μ b) 0 (e.now L)∧w.there (μ b) 0 e.before.length∧μ b<w.heap.size∧(k0≤μ b∨μ b∈X)
 inj:∀ (b c:Nat) (e f:Bl),bl[b]? = some e→bl[c]? = some f→e.live L=true→f.live L=true→b≠c→μ b≠μ c
variable {w0 w w':World} {k0:Nat} {X:List Nat} {bl:List Bl} {L:Array Bool} {μ:Nat→Nat}
theorem Wd.same {L':Array Bool} (h:Wd w0 k0 X bl L μ w) (hl:∀ (b:Nat) (e:Bl),bl[b]? = some e→e.live L'=e.live L∧e.put L'=e.put L):Wd w0 k0 X bl L' μ w:=by
 refine ⟨h.bel,h.le,fun b e hb hv=>?_,fun b c e f hb hc he hf=>h.inj b c e f hb hc ((hl b e hb).1 ▸ he) ((hl c f hc).1 ▸ hf)⟩
 have:=h.has b e hb ((hl b e hb).1 ▸ hv)
 unfold Bl.now at this ⊢
 rw[(hl b e hb).2]
 exact this
theorem Wd.call (h:Wd w0 k0 X bl L μ w) (hb:Below w.heap.size w w'):Wd w0 k0 X bl L μ w':=by
 refine ⟨h.bel.trans ⟨hb.os,hb.tape,hb.output,hb.size,fun k hk _=>hb.block k (Nat.lt_of_lt_of_le hk h.le)⟩,Nat.le_trans h.le hb.size,fun b e hbe hv=>?_,h.inj⟩
 obtain ⟨h1,h2,h3,h4⟩:=h.has b e hbe hv
 exact ⟨range_below h1 hb h3,there_below h2 hb h3,Nat.lt_of_lt_of_le h3 hb.size,h4⟩
def upd (μ:Nat→Nat) (b k:Nat):Nat→Nat:=fun c=>if c=b then k else μ c
structure Made (w:World) (k:Nat) (c:List Value) (w':World):Prop where
 bel:Below w.heap.size w w'
 le:w.heap.size≤k
 lt:k<w'.heap.size
 range:w'.rangeAt k 0 c
 there:w'.there k 0 c.length
theorem Made.alloc (w:World) (c:List Value) (t:TypeId):Made w w.heap.size c (w.alloc (.cells c.toArray t)):=by
 refine ⟨below1 w _,Nat.le_refl _,by rw[World.size_alloc];omega,fun j v hj=>?_,fun j hj=>⟨?_,World.frozen?_alloc_new _ _ _ _⟩⟩
 ·rw[Nat.zero_add,World.cell?_alloc_new]
  simpa using hj
 ·rw[Nat.zero_add,World.cell?_alloc_new]
  simp[hj]
theorem Wd.make {i b k:Nat} {e:Bl} (h:Wd w0 k0 X bl L μ w) (hi:i<L.size) (hb:bl[b]? = some e) (ha:e.al=some i) (hne:∀ (c:Nat) (f:Bl),bl[c]? = some f→c≠b→f.al≠some i)
 (hst:∀ (c:Nat) (f:Bl),bl[c]? = some f→f.st≠some i) (hp:e.put L=false) (hm:Made w k e.before w') :
 Wd w0 k0 X bl (L.setIfInBounds i true) (upd μ b k) w':=by
 have hput:∀ (c:Nat) (f:Bl),bl[c]? = some f→f.put (L.setIfInBounds i true)=f.put L:=fun c f hc=>by
  rw[put_set hi,show (f.st == some i)=false by simpa using hst c f hc,Bool.or_false]
 have hliv:∀ (c:Nat) (f:Bl),bl[c]? = some f→c≠b→f.live (L.setIfInBounds i true)=f.live L:=fun c f hc hcb=>by
  rw[live_set hi,show (f.al == some i)=false by simpa using hne c f hc hcb,Bool.or_false]
 have hold:∀ (c:Nat) (f:Bl),bl[c]? = some f→c≠b→f.live (L.setIfInBounds i true)=true→μ c<w.heap.size:=fun c f hc hcb hv=>(h.has c f hc (hliv c f hc hcb ▸ hv)).2.2.1
 have hal:=hm.bel
 have hmk:=hm.le
 refine ⟨h.bel.trans ⟨hal.os,hal.tape,hal.output,hal.size,fun k hk _=>hal.block k (Nat.lt_of_lt_of_le hk h.le)⟩,Nat.le_trans h.le hal.size,fun c f hc hv=>?_,fun c d f g hc hd hf hg hcd=>?_⟩
 ·by_cases hcb:c=b
  ·subst hcb
   rw[hb] at hc
   obtain rfl:e=f:=Option.some.inj hc
   have hn:e.now (L.setIfInBounds i true)=e.before:=by unfold Bl.now;rw[hput c e hb,hp];rfl
   rw[hn]
   unfold upd
   rw[if_pos rfl]
   exact ⟨hm.range,hm.there,hm.lt,Or.inl (Nat.le_trans h.le hmk)⟩
  ·obtain ⟨h1,h2,h3,h4⟩:=h.has c f hc (hliv c f hc hcb ▸ hv)
   unfold upd
   rw[if_neg hcb]
   have hn:f.now (L.setIfInBounds i true)=f.now L:=by unfold Bl.now;rw[hput c f hc]
   rw[hn]
   exact ⟨range_below h1 hal h3,there_below h2 hal h3,Nat.lt_of_lt_of_le h3 hal.size,h4⟩
 ·unfold upd
  by_cases hcb:c=b
  ·subst hcb
   rw[if_pos rfl,if_neg (fun h=>hcd h.symm)]
   exact Nat.ne_of_gt (Nat.lt_of_lt_of_le (hold d g hd (fun h=>hcd h.symm) hg) hmk)
  ·by_cases hdb:d=b
   ·subst hdb
    rw[if_pos rfl,if_neg hcb]
    exact Nat.ne_of_lt (Nat.lt_of_lt_of_le (hold c f hc hcb hf) hmk)
   ·rw[if_neg hcb,if_neg hdb]
    exact h.inj c d f g hc hd (hliv c f hc hcb ▸ hf) (hliv d g hd hdb ▸ hg) hcd
structure PutTo (k n:Nat) (cs:List Value) (w w':World):Prop where
 os:w'.os=w.os
 tape:w'.tape=w.tape
 output:w'.output=w.output
 size:w.heap.size≤w'.heap.size
 block:∀ j,j<w.heap.size→j≠k→w'.heap[j]? = w.heap[j]?
 range:w'.rangeAt k 0 cs
 there:w'.there k 0 n
theorem setCells_other (k:Nat):∀ (vs:List Value) (o:Nat) (w:World) (j:Nat),j≠k→(w.setCells k o vs).heap[j]? = w.heap[j]?
 | [],_,_,_,_=>rfl
 | v :: r,o,w,j,h=>by
  rw[World.setCells,setCells_other k r (o+1) _ j h,Below.heap_setCell _ _ _ _ h]
theorem setCells_os (k:Nat):∀ (vs:List Value) (o:Nat) (w:World),(w.setCells k o vs).os=w.os∧(w.setCells k o vs).tape=w.tape∧(w.setCells k o vs).output=w.output
 | [],_,_=>⟨rfl,rfl,rfl⟩
 | v :: r,o,w=>by rw[World.setCells];exact setCells_os k r (o+1) _
theorem PutTo.store {k n o:Nat} {before after vs:List Value} (ht:w.there k 0 n) (hr:w.rangeAt k 0 before) (hl:o+vs.length≤n) (ha:∀ j,after[j]? = if o≤j∧j<o+vs.length then vs[j-o]? else before[j]?):PutTo k n after w (w.setCells k o vs):=by
 obtain ⟨h1,h2,h3⟩:=setCells_os k vs o w
 refine ⟨h1,h2,h3,by rw[setCells_size];exact Nat.le_refl _,fun j _ hj=>setCells_other k vs o w j hj,fun j v hv=>?_,there_setCells _ _ _ ht⟩
 have hto:w.there k o vs.length:=fun j hj=>by have:=ht (o+j) (by omega);rwa[Nat.zero_add] at this
 rw[ha j] at hv
 rw[Nat.zero_add]
 by_cases hj:o≤j∧j<o+vs.length
 ·rw[if_pos hj] at hv
  have:=World.rangeAt_setCells_same w k o vs hto (j-o) v hv
  rwa[show o+(j-o)=j by omega] at this
 ·rw[if_neg hj] at hv
  have h5:w.rangeAt k j [v]:=fun i u hu=>by
   cases i with
   | zero =>
    obtain rfl:v=u:=by simpa using hu
    have:=hr j v hv
    rwa[Nat.zero_add] at this
   | succ i=>simp at hu
  have h6:=World.rangeAt_setCells_apart h5 k o vs (Or.inr (by simp only[List.length_cons,List.length_nil];omega))
  have:=h6 0 v rfl
  exact this
theorem PutTo.whole {k:Nat} {before after:List Value} (ht:w.there k 0 before.length) (hr:w.rangeAt k 0 before) (hl:after.length=before.length):PutTo k before.length after w (w.setCells k 0 after):=
 PutTo.store ht hr (by omega) (fun j=>by
  by_cases hj:0≤j∧j<0+after.length
  ·rw[if_pos hj];rfl
  ·rw[if_neg hj,List.getElem?_eq_none (by omega),List.getElem?_eq_none (by omega)])
theorem Wd.put {i b:Nat} {e:Bl} (h:Wd w0 k0 X bl L μ w) (hi:i<L.size) (hb:bl[b]? = some e) (hs:e.st=some i) (hv:e.live L=true) (hp:PutTo (μ b) e.before.length e.after w w')
 (hne:∀ (c:Nat) (f:Bl),bl[c]? = some f→c≠b→f.st≠some i) (hal:∀ (c:Nat) (f:Bl),bl[c]? = some f→f.al≠some i) :
 Wd w0 k0 X bl (L.setIfInBounds i true) μ w':=by
 have hliv:∀ (c:Nat) (f:Bl),bl[c]? = some f→f.live (L.setIfInBounds i true)=f.live L:=fun c f hc=>by
  rw[live_set hi,show (f.al == some i)=false by simpa using hal c f hc,Bool.or_false]
 obtain ⟨g1,g2,g3,g4⟩:=h.has b e hb hv
 have hle:=h.le
 refine ⟨h.bel.trans ⟨hp.os,hp.tape,hp.output,hp.size,fun j hj hx=>hp.block j (by omega) (fun e=>g4.elim (fun h=>by omega) (fun h=>hx (e ▸ h)))⟩,Nat.le_trans h.le hp.size,fun c f hc hvc=>?_,fun c d f g hc hd hf hg=>h.inj c d f g hc hd (hliv c f hc ▸ hf) (hliv d g hd ▸ hg)⟩
 rw[hliv c f hc] at hvc
 obtain ⟨h1,h2,h3,h4⟩:=h.has c f hc hvc
 by_cases hcb:c=b
 ·subst hcb
  rw[hb] at hc
  obtain rfl:e=f:=Option.some.inj hc
  have hn:e.now (L.setIfInBounds i true)=e.after:=by
   unfold Bl.now
   rw[put_set hi,hs]
   simp
  rw[hn]
  exact ⟨hp.range,hp.there,Nat.lt_of_lt_of_le h3 hp.size,h4⟩
 ·have hn:f.now (L.setIfInBounds i true)=f.now L:=by
   unfold Bl.now
   rw[put_set hi,show (f.st == some i)=false by simpa using hne c f hc hcb,Bool.or_false]
  rw[hn]
  have hsame:=hp.block (μ c) h3 (h.inj c b f e hc hb hvc hv hcb)
  refine ⟨fun j v hj=>?_,fun j hj=>?_,Nat.lt_of_lt_of_le h3 hp.size,h4⟩
  ·rw[World.cell?_of_block (w:=w) (a:=⟨μ c,0+j,none⟩) hsame];exact h1 j v hj
  ·rw[World.cell?_of_block (w:=w) (a:=⟨μ c,0+j,none⟩) hsame,World.frozen?_of_block (w:=w) (a:=⟨μ c,0+j,none⟩) hsame];exact h2 j hj
end RG
section
open Go.RowKit Go.Sort Go.Deep
variable {P:Nat} [NeZero P] {N:Nat}
theorem part_tag {w:World} {r:Nat} {l:List UInt8} {ps:List (List UInt8)} (h:Holds encB w r 0 (SP.tagL l ps)):SP.PartOk w (.slice (some ⟨r,0,none⟩) 32 32) (SP.tagL l ps).toList:=
 ⟨_,r,0,32,SP.tagL l ps,by rw[SP.tagL_size],rfl,by rw[SP.tagL_size];exact Nat.le_refl _,by rw[SP.tagL_size];decide,Or.inr ⟨rfl,h⟩⟩
def PartS (w:World) (v:Value) (b:List UInt8):Prop:=(∃ q n c,v=.slice q n c)∧SP.PartOk w v b
theorem Hid.mk2 {p:Prop} (h:p):Hid p:=h
def num4 (n:Nat):Bs:=#[SP.lenB n 16777216,SP.lenB n 65536,SP.lenB n 256,SP.lenB n 1]
def childH (k:Bs) (n:Nat):Bs:=SP.tagL [99,104,105,108,100] [k.toList,(num4 n).toList]
def keyH (k:Bs) (l:List UInt8):Bs:=SP.tagL [107,101,121] [k.toList,l]
def downH (S:Nat→Nat) (k:Bs):Nat→Bs
 | 0=>k
 | j+1=>childH (downH S k j) (S j)
def derH (S:Nat→Nat) (k:Bs) (n:Nat) (l:List UInt8):Bs:=keyH (downH S k n) l
theorem numeral_c (n:Nat) (hn:n<4294967296) (w:World):Calls Tryd.prog 35 #[.int .u32 n] w (Ret fun e w'=>Below w.heap.size w w'∧∃ r,e=.slice (some ⟨r,0,none⟩) 4 4∧Holds encB w' r 0 (num4 n)):=by
 have b00:(n:Int)/16777216%256=SP.ub (SP.lenB n 16777216):=SP.lenB_int n 16777216
 have b0:(n:Int)/16777216=SP.ub (SP.lenB n 16777216):=by omega
 clear b00
 have b1:(n:Int)/65536%256=SP.ub (SP.lenB n 65536):=SP.lenB_int n 65536
 have b2:(n:Int)/256%256=SP.ub (SP.lenB n 256):=SP.lenB_int n 256
 have b3:(n:Int)%256=SP.ub (SP.lenB n 1):=SP.lenB_one n
 have h4:=SP.holds_four w (SP.lenB n 16777216) (SP.lenB n 65536) (SP.lenB n 256) (SP.lenB n 1)
 have HN:Hid (num4 n=#[SP.lenB n 16777216,SP.lenB n 65536,SP.lenB n 256,SP.lenB n 1]):=rfl
 generalize SP.lenB n 16777216=x0 at *
 generalize SP.lenB n 65536=x1 at *
 generalize SP.lenB n 256=x2 at *
 generalize SP.lenB n 1=x3 at *
 have hb0:Below w.heap.size w (w.alloc (.cells #[.int .u8 (SP.ub x0),.int .u8 (SP.ub x1),.int .u8 (SP.ub x2),.int .u8 (SP.ub x3)] 5)):=(Below.refl _ _).alloc (Nat.le_refl _) _
 go_enter Tryd.func35,Tryd.ntmps35
 go_wp2
 go_ret
 refine ⟨_,rfl,hb0,_,rfl,?_⟩
 rw[HN.out]
 exact h4
def NumsK (w:World) (q:Option Addr) (n:Nat) (S:Nat→Nat):Prop:=(∀ j,j<n→S j<4294967296)∧(0<n→∃ gg oo,q=some ⟨gg,oo,none⟩∧gg<w.heap.size∧∀ j,j<n→w.cell? ⟨gg,oo+j,none⟩=some (.int .u32 (S j:Int)))
theorem part_4 {w:World} {r n:Nat} (h:Holds encB w r 0 (num4 n)):SP.PartOk w (.slice (some ⟨r,0,none⟩) 4 4) (num4 n).toList:=
 ⟨_,r,0,4,num4 n,rfl,rfl,Nat.le_refl _,Nat.le_of_ble_eq_true rfl,Or.inr ⟨rfl,h⟩⟩
theorem tag2 (lab:ByteArray) (hlab:lab.size≤1048576) (q q':Option Addr) (n c n' c':Nat) (x y:List UInt8) (w:World) (hv:SP.PartOk w (.slice q n c) x) (hv':SP.PartOk w (.slice q' n' c') y) :
 Calls Tryd.prog 14 #[.string lab,.slice (some ⟨w.heap.size,0,none⟩) 2 2] (w.alloc (.cells #[.slice q n c,.slice q' n' c'] 23)) fun e w'=>∃ r,e=.returned (.slice (some ⟨r,0,none⟩) 32 32)∧w.heap.size≤r∧Below w.heap.size w w'∧Holds encB w' r 0 (SP.tagL lab.data.toList [x,y]):=by
 have hM:=RG.Made.alloc w [.slice q n c,.slice q' n' c'] 23
 refine (SP.Tag_any lab (some ⟨w.heap.size,0,none⟩) 2 [x,y] _ hlab (Nat.le_of_ble_eq_true rfl) (Or.inr ⟨_,_,rfl,fun j hj=>?_⟩)).mono ?_
 ·have hj2:j=0∨j=1:=by simp at hj;omega
  rcases hj2 with rfl|rfl
  ·exact ⟨_,hM.range 0 _ rfl,hv.below hM.bel⟩
  ·exact ⟨_,hM.range 1 _ rfl,hv'.below hM.bel⟩
 ·rintro e w2 ⟨r,rfl,hr,hb,hH⟩
  have hs:=hM.bel.size
  exact ⟨r,rfl,Nat.le_trans hs hr,hM.bel.trans (hb.mono hs),hH⟩
theorem derived_c (sq:Option Addr) (sn sc:Nat) (k:Bs) (lab:ByteArray) (hlab:lab.size≤65536) (q:Option Addr) (n c:Nat) (S:Nat→Nat) (w:World) (hn:n≤1048576) (hk:SP.PartOk w (.slice sq sn sc) k.toList) (hN:NumsK w q n S) :
 Calls Tryd.prog 21 #[.slice sq sn sc,.string lab,.slice q n c] w (Ret fun e w'=>Below w.heap.size w w'∧∃ r,e=.slice (some ⟨r,0,none⟩) 32 32∧w.heap.size≤r∧Holds encB w' r 0 (derH S k n lab.data.toList)):=by
 have HN:Hid (NumsK w q n S):=hN
 have HK:Hid (PartS w (.slice sq sn sc) (downH S k 0).toList):=⟨⟨_,_,_,rfl⟩,hk⟩
 clear hN hk
 go_enter Tryd.func21,Tryd.ntmps21
 go_wp2
 go_loopg [7,13] n (fun g s7 s13 W=>∃ (i:Nat) (v:Value),i+g=n∧v=s7∧s13=.int .i64 i∧Hid (Below w.heap.size w W∧PartS W v (downH S k i).toList))
 case atStart=>exact ⟨0,_,by omega,rfl,rfl,Below.refl _ _,HK.out⟩
 case round =>
  obtain ⟨i,v,him,rfl,rfl,HB⟩:=hrel
  obtain ⟨vq,vn,vc,rfl⟩:=HB.out.2.1
  by_cases hi:i<n
  ·have hi':(i:Int)<(n:Int):=by omega
   obtain ⟨gg,oo,rfl,hgg,hc⟩:=HN.out.2 (by omega)
   have hv:wr.cell? ⟨gg,oo+i,none⟩=some (.int .u32 (S i:Int)):=by rw[HB.out.1.cell (p:=⟨gg,oo+i,none⟩) hgg];exact hc i hi
   have hix:∀ w:World,(Instr.indexAt 78 (.slice (some ⟨gg,oo,none⟩) n c) (.int .i64 i)).run Tryd.prog w=.ok (.pointer (some ⟨gg,oo+i,none⟩)) w:=fun w=>by
    have h1:¬ (i:Int)<0:=by omega
    have h2:(i:Int)<(n:Int):=by omega
    go_simp
   have hnu:=numeral_c (S i) (HN.out.1 i hi) wr
   have HD:Hid (childH (downH S k i) (S i)=downH S k (i+1)):=rfl
   clear hc hgg
   generalize S i=x at hv hnu HD
   go_wp2_with fail
   refine hnu.mono ?_
   rintro e w2 ⟨v2,rfl,hb2,r2,rfl,hH2⟩
   have hT:=tag2 ⟨#[99,104,105,108,100]⟩ (by decide) vq (some ⟨r2,0,none⟩) vn vc 4 4 _ _ w2 (HB.out.2.2.below hb2) (part_4 hH2)
   have K2:Hid (Below w.heap.size w w2):=HB.out.1.trans (hb2.mono HB.out.1.size)
   clear hb2 hH2 hnu
   go_wp2_with fail
   refine hT.mono ?_
   rintro e w3 ⟨r3,rfl,hr3,hb3,hH3⟩
   have K3:Hid (Below w.heap.size w w3∧PartS w3 (.slice (some ⟨r3,0,none⟩) 32 32) (downH S k (i+1)).toList):=by
    refine ⟨K2.out.trans (hb3.mono K2.out.size),⟨_,_,_,rfl⟩,?_⟩
    rw[← HD.out]
    exact part_tag hH3
   clear hr3 hb3 hH3 hT K2 HB
   go_wp2
   go_roundg (gk-1)
   case measure=>omega
   case rel=>exact ⟨i+1,_,by omega,rfl,rfl,K3.out⟩
  ·have hi':¬ (i:Int)<(n:Int):=by omega
   obtain rfl:i=n:=by omega
   obtain ⟨cap1,w1,hc1,hcc1,hb1,hH1,hlt1⟩:=conv_of lab wr
   have hp:SP.PartOk w1 (.slice (some ⟨wr.heap.size,0,none⟩) lab.size cap1) lab.data.toList:=⟨_,wr.heap.size,0,cap1,lab.data,rfl,rfl,hcc1,Nat.le_trans hlab (by decide),Or.inr ⟨rfl,hH1⟩⟩
   have hT:=tag2 ⟨#[107,101,121]⟩ (by decide) vq _ vn vc _ _ _ _ w1 (HB.out.2.2.below hb1) hp
   have K1:Hid (Below w.heap.size w w1):=HB.out.1.trans (hb1.mono HB.out.1.size)
   clear hb1 hH1 hlt1 hcc1 hp HB
   go_wp2_with fail
   refine hT.mono ?_
   rintro e w3 ⟨r3,rfl,hr3,hb3,hH3⟩
   have K3:Hid (Below w.heap.size w w3∧w.heap.size≤r3∧Holds encB w3 r3 0 (derH S k i lab.data.toList)):=⟨K1.out.trans (hb3.mono K1.out.size),Nat.le_trans K1.out.size hr3,hH3⟩
   clear hr3 hb3 hH3 hT K1
   go_wp2
   go_ret
   exact ⟨_,rfl,K3.out.1,_,rfl,K3.out.2.1,K3.out.2.2⟩
theorem derH_size (S:Nat→Nat) (k:Bs) (n:Nat) (l:List UInt8):(derH S k n l).size=32:=by unfold derH keyH;exact SP.tagL_size _ _
end
namespace RG
open Go Go.RowKit
variable {P:Program} {ops:Array Oper} {Q:Exit→Act→World→Prop} {w0 w:World} {k0:Nat} {X:List Nat} {its:List It} {bl:List Bl} {olds:List (Tmp × SV)} {a0:Act} {L:Array Bool} {μ μ' μ0:Nat→Nat}
structure Ac (its:List It) (bl:List Bl) (a0:Act) (L:Array Bool) (μ:Nat→Nat) (a:Act):Prop where
 defers:a.defers=a0.defers
 size:a.tmps.size=a0.tmps.size
 got:∀ (i:Nat) (it:It) (d:Tmp),its[i]? = some it→on L i=true→it.dst=some d→a.tmps[d]? = some (it.out.at μ)∧∀ b,it.out.blk=some b→∃ e:Bl,bl[b]? = some e∧e.live L=true
 rest:∀ t:Tmp,(∀ (i:Nat) (it:It),its[i]? = some it→on L i=true→it.dst≠some t)→a.tmps[t]? = a0.tmps[t]?
def depB (o:Oper) (j:Nat):Bool:=o.after.any (fun e=>Region.binds .any e && e.on == j)
def freeB (ops:Array Oper) (its:List It) (i:Nat) (t:Tmp):Bool:=its.zipIdx.all (fun x=>x.1.dst != some t || (match ops[x.2]? with|some o=>depB o i|none=>false))
def Known (ops:Array Oper) (i:Nat) (its:List It) (olds:List (Tmp × SV)) (need:List (Tmp × Nat)) (μ:Nat→Nat) (a:Act):Prop:=
 (∀ (t:Tmp) (j:Nat) (it:It),(t,j)∈need→its[j]? = some it→a.eval (.tmp t)=it.out.at μ)∧(∀ (t:Tmp) (s:SV),(t,s)∈olds→freeB ops its i t=true→a.eval (.tmp t)=s.at μ)
def readB (ops:Array Oper) (i:Nat) (e:Bl):Bool:=match e.st with|none=>true|some s=>match ops[s]? with|some o=>depB o i|none=>false
def Reads (ops:Array Oper) (i:Nat) (bl:List Bl) (μ:Nat→Nat) (w:World):Prop:=∀ (b:Nat) (e:Bl),bl[b]? = some e→(e.al=none∨∃ (o:Oper) (j:Nat),ops[i]? = some o∧e.al=some j∧depB o j=true)→readB ops i e=true→w.rangeAt (μ b) 0 e.before
def Does (P:Program) (Q:Exit→Act→World→Prop) (bl:List Bl) (o:Oper) (it:It) (μ:Nat→Nat) (a:Act) (w:World) (K:Act→World→Prop):Kind→Prop
 | .stay=>K (a.put o.dst (it.out.at μ)) w→o.wp P a w K Q
 | .pass=>it.out=.v undef
 | .call=>(∀ w',Below w.heap.size w w'→K (a.put o.dst (it.out.at μ)) w')→o.wp P a w K Q
 | .make b=>∀ e:Bl,bl[b]? = some e→(∀ (k:Nat) (w':World),Made w k e.before w'→K (a.put o.dst (it.out.at (upd μ b k))) w')→o.wp P a w K Q
 | .put b=>∀ e:Bl,bl[b]? = some e→w.there (μ b) 0 e.before.length→w.rangeAt (μ b) 0 e.before→(∀ w',PutTo (μ b) e.before.length e.after w w'→K (a.put o.dst (it.out.at μ)) w')→o.wp P a w K Q
def Cert (P:Program) (Q:Exit→Act→World→Prop) (w0:World) (k0:Nat) (X:List Nat) (ops:Array Oper) (i:Nat) (its:List It) (bl:List Bl) (olds:List (Tmp × SV)) (o:Oper) (it:It):Prop:=
 ∀ (μ:Nat→Nat) (a:Act) (w:World) (K:Act→World→Prop),Known ops i its olds it.need μ a→Reads ops i bl μ w→BelX k0 X w0 w→Does P Q bl o it μ a w K it.kind
def liveB (its:List It) (bl:List Bl) (o:Oper) (it:It) (b:Nat):Bool:=
 (match bl[b]? with|some e=>(match e.al with|none=>true|some j=>depB o j)|none=>false) || it.need.any (fun x=>depB o x.2 && (match its[x.2]? with|some jt=>jt.dst.isSome && jt.out.blk == some b|none=>false))
def kindB (its:List It) (bl:List Bl) (i:Nat) (o:Oper) (it:It):Kind→Bool
 | .stay | .pass | .call=>bl.all (fun e=>e.al != some i && e.st != some i) && (match it.out.blk with|none=>true|some b=>liveB its bl o it b)
 | .make b=>(match it.out.blk with|some c=>c == b|none=>false) && bl.zipIdx.all (fun x=>x.1.st != some i && (x.1.al == some i) == (x.2 == b)) && (bl[b]?).isSome
 | .put b=>(match it.out with | .v _=>true|_=>false) && bl.zipIdx.all (fun x=>x.1.al != some i && (x.1.st == some i) == (x.2 == b)) && (match bl[b]? with|some e=>(match e.al with|none=>true|some j=>depB o j)|none=>false)
def Kind.isPass:Kind→Bool
 | .pass=>true
 | _=>false
def guardB (its:List It) (o:Oper) (it:It):Bool:=
 match o.guard with
 | none=>!it.kind.isPass
 | some (j,want)=>depB o j && (match its[j]? with|some jt=>jt.dst.isSome && (match jt.out with | .v (.bool b)=>(b == want) == !it.kind.isPass|_=>false)|none=>false)
def okB (its:List It) (bl:List Bl) (i:Nat) (o:Oper) (it:It):Bool:=
 (o.dst == it.dst) && guardB its o it && o.after.all (fun e=>!Region.binds .any e || e.on<i) && it.need.all (fun tj=>depB o tj.2 && ((its[tj.2]?).bind (·.dst)) == some tj.1) && kindB its bl i o it it.kind
def dstB:List It→Bool
 | []=>true
 | it :: r=>(match it.dst with|none=>true|some d=>r.all (fun jt=>jt.dst != some d)) && dstB r
def oldB (bl:List Bl) (olds:List (Tmp × SV)):Bool:=
 olds.all (fun x=>(match x.2.blk with|none=>true|some b=>match bl[b]? with|some e=>e.al.isNone|none=>false))
def allB (ops:Array Oper) (its:List It) (bl:List Bl) (olds:List (Tmp × SV)) (n:Nat):Bool:=
 ops.size == its.length && dstB its && oldB bl olds && its.all (fun it=>match it.dst with|none=>true|some d=>d<n) &&
 (List.range its.length).all (fun i=>match ops[i]?,its[i]? with|some o,some it=>okB its bl i o it|_,_=>false)
theorem dst_ne:∀ {its:List It},dstB its=true→∀ (i j:Nat) (it jt:It) (d:Tmp),its[i]? = some it→its[j]? = some jt→it.dst=some d→jt.dst=some d→i=j
 | [],_,i,_,_,_,_,h,_,_,_=>by simp at h
 | x :: r,h,i,j,it,jt,d,hi,hj,di,dj=>by
  simp only[dstB,Bool.and_eq_true] at h
  match i,j with
  | 0,0=>rfl
  | 0,j+1 =>
   simp only[List.getElem?_cons_zero,Option.some.injEq] at hi
   simp only[List.getElem?_cons_succ] at hj
   subst hi
   rw[di] at h
   have:=List.all_eq_true.1 h.1 jt (List.mem_of_getElem? hj)
   rw[dj] at this
   simp at this
  | i+1,0 =>
   simp only[List.getElem?_cons_zero,Option.some.injEq] at hj
   simp only[List.getElem?_cons_succ] at hi
   subst hj
   rw[dj] at h
   have:=List.all_eq_true.1 h.1 it (List.mem_of_getElem? hi)
   rw[di] at this
   simp at this
  | i+1,j+1 =>
   simp only[List.getElem?_cons_succ] at hi hj
   rw[dst_ne h.2 i j it jt d hi hj di dj]
theorem live_mono {e:Bl} {i:Nat} (hi:i<L.size) (h:e.live L=true):e.live (L.setIfInBounds i true)=true:=by rw[live_set hi,h,Bool.true_or]
theorem Ac.put {a:Act} {i:Nat} {it:It} (h:Ac its bl a0 L μ a) (hd:dstB its=true) (hi:i<L.size) (hit:its[i]? = some it) (hμ:∀ (b:Nat) (e:Bl),bl[b]? = some e→e.live L=true→μ' b=μ b)
 (hin:∀ d,it.dst=some d→d<a0.tmps.size) (hl:∀ d,it.dst=some d→∀ b,it.out.blk=some b→∃ e:Bl,bl[b]? = some e∧e.live (L.setIfInBounds i true)=true)
 (v:Value) (hv:∀ d,it.dst=some d→v=it.out.at μ'):Ac its bl a0 (L.setIfInBounds i true) μ' (a.put it.dst v):=by
 have hsame:∀ (j:Nat) (jt:It) (d:Tmp),its[j]? = some jt→on L j=true→jt.dst=some d→a.tmps[d]? = some (jt.out.at μ')∧∀ b,jt.out.blk=some b→∃ e:Bl,bl[b]? = some e∧e.live (L.setIfInBounds i true)=true:=fun j jt d hj ho hjd=>by
  obtain ⟨h1,h2⟩:=h.got j jt d hj ho hjd
  refine ⟨?_,fun b hbo=>?_⟩
  ·rw[h1]
   congr 1
   refine SV.at_congr fun b hb=>?_
   obtain ⟨e,he,hl⟩:=h2 b hb
   rw[hμ b e he hl]
  ·obtain ⟨e,he,hl⟩:=h2 b hbo
   exact ⟨e,he,live_mono hi hl⟩
 cases hdst:it.dst with
 | none =>
  show Ac its bl a0 _ μ' a
  refine ⟨h.defers,h.size,fun j jt d hj ho hjd=>?_,fun t ht=>h.rest t fun j jt hj ho=>ht j jt hj (by rw[on_set hi,ho,Bool.true_or])⟩
  rw[on_set hi] at ho
  by_cases hij:i=j
  ·subst hij
   rw[hit] at hj
   obtain rfl:it=jt:=Option.some.inj hj
   rw[hdst] at hjd
   cases hjd
  ·exact hsame j jt d hj (by simpa[hij] using ho) hjd
 | some d0 =>
  have hd0:=hin d0 hdst
  refine ⟨h.defers,?_,fun j jt d hj ho hjd=>?_,fun t ht=>?_⟩
  ·show (a.tmps.setIfInBounds d0 v).size=_
   rw[Array.size_setIfInBounds];exact h.size
  ·show (a.tmps.setIfInBounds d0 v)[d]? = _∧_
   rw[Array.getElem?_setIfInBounds]
   rw[on_set hi] at ho
   by_cases hij:i=j
   ·subst hij
    rw[hit] at hj
    obtain rfl:it=jt:=Option.some.inj hj
    rw[hdst] at hjd
    obtain rfl:d0=d:=Option.some.inj hjd
    rw[if_pos rfl,if_pos (by rw[h.size];exact hd0),hv d0 hdst]
    exact ⟨rfl,hl d0 hdst⟩
   ·have hne:d0≠d:=fun hdd=>hij (dst_ne hd i j it jt d0 hit hj hdst (hdd ▸ hjd))
    rw[if_neg hne]
    exact hsame j jt d hj (by simpa[hij] using ho) hjd
  ·show (a.tmps.setIfInBounds d0 v)[t]? = _
   have hne:d0≠t:=fun hdt=>ht i it hit (by rw[on_set hi];simp) (by rw[hdst,hdt])
   rw[Array.getElem?_setIfInBounds,if_neg hne]
   exact h.rest t fun j jt hj ho=>ht j jt hj (by rw[on_set hi,ho,Bool.true_or])
structure Inv (ops:Array Oper) (its:List It) (bl:List Bl) (a0:Act) (w0:World) (k0:Nat) (X:List Nat) (μ0:Nat→Nat) (L:Array Bool) (a:Act) (w:World):Prop where
 size:L.size=its.length
 cl:∀ (i:Nat) (o:Oper),ops[i]? = some o→on L i=true→∀ e∈o.after,Region.binds .any e=true→on L e.on=true
 all:∃ μ,(∀ (b:Nat) (e:Bl),bl[b]? = some e→e.al=none→μ b=μ0 b)∧Ac its bl a0 L μ a∧Wd w0 k0 X bl L μ w∧∀ (b:Nat) (e:Bl),bl[b]? = some e→e.put L=true→e.live L=true
theorem wanted_none {o:Oper} (h:o.guard=none) (y:Nat→Option Bool):Region.wanted o y=true:=by unfold Region.wanted;rw[h]
theorem zip_all {p:Bl × Nat→Bool} (h:bl.zipIdx.all p=true) (b:Nat) (e:Bl) (hb:bl[b]? = some e):p (e,b)=true:=
 List.all_eq_true.1 h (e,b) (by rw[List.mem_zipIdx_iff_getElem?];exact hb)
theorem two {s t:Option Nat} {i c b:Nat} (h:(s != some i && (t == some i) == (c == b))=true):s≠some i∧(t=some i↔c=b):=by
 rw[Bool.and_eq_true] at h
 refine ⟨by simpa using h.1,?_⟩
 have h2:(t == some i)=(c == b):=by simpa using h.2
 constructor
 ·intro ht
  rw[ht] at h2
  simpa using h2.symm
 ·intro hc
  rw[hc] at h2
  simpa using h2
theorem step {i:Nat} {o:Oper} {it:It} {a:Act} (hd:dstB its=true) (ho:ops[i]? = some o) (hit:its[i]? = some it) (hok:okB its bl i o it=true) (hin:∀ d,it.dst=some d→d<a0.tmps.size)
 (holds:∀ (t:Tmp) (s:SV),(t,s)∈olds→a0.tmps[t]? = some (s.at μ0)∧∀ b,s.blk=some b→∃ e:Bl,bl[b]? = some e∧e.al=none)
 (hdops:∀ (j:Nat) (oj:Oper) (jt:It),ops[j]? = some oj→its[j]? = some jt→oj.dst=jt.dst) (hops:ops.size=its.length) (hc:Cert P Q w0 k0 X ops i its bl olds o it) (hun:on L i=false) (hdep:∀ e∈o.after,Region.binds .any e=true→on L e.on=true) (h:Inv ops its bl a0 w0 k0 X μ0 L a w) :
 wpOp P ops Q i (Inv ops its bl a0 w0 k0 X μ0 (L.setIfInBounds i true)) a w:=by
 obtain ⟨hsz,hcl,μ,hμ,hA,hW,hO⟩:=h
 have hi:i<L.size:=by rw[hsz];exact (List.getElem?_eq_some_iff.1 hit).1
 simp only[okB,Bool.and_eq_true] at hok
 obtain ⟨⟨⟨⟨hdst,hg⟩,haft⟩,hneed⟩,hkind⟩:=hok
 have hdst':o.dst=it.dst:=by simpa using hdst
 have hdepB:∀ j,depB o j=true→on L j=true:=fun j hj=>by
  obtain ⟨e,he,hb⟩:=Array.any_eq_true'.1 hj
  simp only[Bool.and_eq_true,beq_iff_eq] at hb
  rw[← hb.2]
  exact hdep e he hb.1
 have hwant:Region.wanted o (yielded ops a.tmps) = !it.kind.isPass:=by
  unfold Region.wanted
  unfold guardB at hg
  cases hgd:o.guard with
  | none=>rw[hgd] at hg;dsimp only at hg ⊢;rw[hg]
  | some jw =>
   obtain ⟨j,want⟩:=jw
   rw[hgd] at hg
   dsimp only at hg ⊢
   rw[Bool.and_eq_true] at hg
   cases hj:its[j]? with
   | none=>rw[hj] at hg;cases hg.2
   | some jt =>
    rw[hj] at hg
    obtain ⟨h1,h2⟩:=hg
    dsimp only at h2
    rw[Bool.and_eq_true] at h2
    obtain ⟨d,hdj⟩:=Option.isSome_iff_exists.1 h2.1
    have hjl:j<its.length:=(List.getElem?_eq_some_iff.1 hj).1
    have hoj:ops[j]? = some (ops[j]'(by rw[hops];exact hjl)):=Array.getElem?_eq_getElem _
    have h3:=(hA.got j jt d hj (hdepB j h1) hdj).1
    have h4:yielded ops a.tmps j=match jt.out.at μ with | .bool b=>some b|_=>none:=by
     unfold yielded
     rw[hoj]
     show (match (ops[j]'(by rw[hops];exact hjl)).dst.bind (a.tmps[·]?) with|some (.bool b)=>some b|_=>none)=_
     rw[hdops j _ jt hoj hj,hdj]
     show (match a.tmps[d]? with|some (.bool b)=>some b|_=>none)=_
     rw[h3]
     cases jt.out.at μ<;>rfl
    rw[h4]
    have h5:=h2.2
    cases hout:jt.out with
    | p b x=>rw[hout] at h5;cases h5
    | s b x y=>rw[hout] at h5;cases h5
    | t b x y z=>rw[hout] at h5;cases h5
    | v x =>
     rw[hout] at h5
     cases x with
     | bool b =>
      show (some b == some want)=_
      dsimp only at h5
      have:(b == want) = !it.kind.isPass:=by simpa using h5
      rw[← this]
      cases b<;>cases want<;>rfl
     | _=>cases h5
 have hK:Known ops i its olds it.need μ a:=by
  refine ⟨fun t j jt hm hj=>?_,fun t s hm hfree=>?_⟩
  ·have h1:=List.all_eq_true.1 hneed (t,j) hm
   simp only[Bool.and_eq_true,hj] at h1
   have h2:jt.dst=some t:=by simpa using h1.2
   have h3:=(hA.got j jt t hj (hdepB j h1.1) h2).1
   show a.tmps.getD t undef=_
   rw[Array.getD_eq_getD_getElem?,h3]
   rfl
  ·obtain ⟨h2,h3⟩:=holds t s hm
   have h4:=hA.rest t (fun j jt hj hon hdj=>by
    have h5:=List.all_eq_true.1 hfree (jt,j) (by rw[List.mem_zipIdx_iff_getElem?];exact hj)
    dsimp only at h5
    rw[hdj] at h5
    cases hoj:ops[j]? with
    | none=>rw[hoj] at h5;simp at h5
    | some oj =>
     rw[hoj] at h5
     have h6:depB oj i=true:=by simpa using h5
     obtain ⟨e',he',hb'⟩:=Array.any_eq_true'.1 h6
     simp only[Bool.and_eq_true,beq_iff_eq] at hb'
     have:=hcl j oj hoj hon e' he' hb'.1
     rw[hb'.2,hun] at this
     cases this)
   show a.tmps.getD t undef=_
   rw[Array.getD_eq_getD_getElem?,h4,h2]
   show s.at μ0=s.at μ
   refine SV.at_congr fun b hb=>?_
   obtain ⟨e,he,hal⟩:=h3 b hb
   rw[hμ b e he hal]
 have hR:Reads ops i bl μ w:=fun b e hb hal hst=>by
  have:=(hW.has b e hb (by
   unfold Bl.live
   rcases hal with hal|⟨o',j,ho',hal,hd⟩
   ·rw[hal];rfl
   ·rw[hal]
    show on L j=true
    rw[ho] at ho'
    obtain rfl:=Option.some.inj ho'
    exact hdepB j hd)).1
  unfold Bl.now Bl.put at this
  unfold readB at hst
  cases hs:e.st with
  | none=>rw[hs] at this;exact this
  | some s =>
   rw[hs] at this hst
   dsimp only at hst
   cases hos:ops[s]? with
   | none=>rw[hos] at hst;cases hst
   | some os =>
    rw[hos] at hst
    have hns:on L s=false:=by
     cases hon:on L s with
     | false=>rfl
     | true =>
      obtain ⟨e',he',hb'⟩:=Array.any_eq_true'.1 hst
      simp only[Bool.and_eq_true,beq_iff_eq] at hb'
      have:=hcl s os hos hon e' he' hb'.1
      rw[hb'.2,hun] at this
      cases this
    rw[show (Option.map (on L) (some s)).getD false=on L s from rfl,hns] at this
    exact this
 have hlive:∀ b,liveB its bl o it b=true→∃ e:Bl,bl[b]? = some e∧e.live L=true:=fun b hb=>by
  unfold liveB at hb
  rw[Bool.or_eq_true] at hb
  rcases hb with h2|h2
  ·cases he:bl[b]? with
   | none=>rw[he] at h2;cases h2
   | some e =>
    rw[he] at h2
    dsimp only at h2
    refine ⟨e,rfl,?_⟩
    unfold Bl.live
    cases hal:e.al with
    | none=>rfl
    | some j=>rw[hal] at h2;exact hdepB j h2
  ·obtain ⟨x,hx,h3⟩:=List.any_eq_true.1 h2
   rw[Bool.and_eq_true] at h3
   cases hj:its[x.2]? with
   | none=>rw[hj] at h3;cases h3.2
   | some jt =>
    rw[hj] at h3
    dsimp only at h3
    rw[Bool.and_eq_true] at h3
    obtain ⟨d,hd2⟩:=Option.isSome_iff_exists.1 h3.2.1
    exact (hA.got x.2 jt d hj (hdepB x.2 h3.1) hd2).2 b (by simpa using h3.2.2)
 have hcl':∀ (j:Nat) (oj:Oper),ops[j]? = some oj→on (L.setIfInBounds i true) j=true→∀ e∈oj.after,Region.binds .any e=true→on (L.setIfInBounds i true) e.on=true:=fun j oj hoj hon e he hb=>by
  rw[on_set hi] at hon ⊢
  by_cases hij:i=j
  ·subst hij
   rw[ho] at hoj
   obtain rfl:o=oj:=Option.some.inj hoj
   rw[hdep e he hb,Bool.true_or]
  ·rw[hcl j oj hoj (by simpa[hij] using hon) e he hb,Bool.true_or]
 have hsz':(L.setIfInBounds i true).size=its.length:=by rw[Array.size_setIfInBounds];exact hsz
 have hC:=hc μ a w (Inv ops its bl a0 w0 k0 X μ0 (L.setIfInBounds i true)) hK hR hW.bel
 unfold wpOp
 rw[ho]
 dsimp only
 rw[hwant]
 cases hk:it.kind with
 | pass =>
  rw[hk] at hC hkind
  simp only[kindB,Bool.and_eq_true] at hkind
  have hne:∀ (b:Nat) (e:Bl),bl[b]? = some e→e.al≠some i∧e.st≠some i:=fun b e hb=>by simpa using List.all_eq_true.1 hkind.1 e (List.mem_of_getElem? hb)
  have hsame:∀ (b:Nat) (e:Bl),bl[b]? = some e→e.live (L.setIfInBounds i true)=e.live L∧e.put (L.setIfInBounds i true)=e.put L:=fun b e hb =>
   ⟨by rw[live_set hi,show (e.al == some i)=false by simpa using (hne b e hb).1,Bool.or_false],by rw[put_set hi,show (e.st == some i)=false by simpa using (hne b e hb).2,Bool.or_false]⟩
  show Inv ops its bl a0 w0 k0 X μ0 (L.setIfInBounds i true) (a.put o.dst undef) w
  refine ⟨hsz',hcl',μ,hμ,?_,hW.same hsame,fun b e hb=>by rw[(hsame b e hb).1,(hsame b e hb).2];exact hO b e hb⟩
  rw[hdst']
  have hout:it.out=.v undef:=hC
  refine hA.put hd hi hit (fun _ _ _ _=>rfl) hin (fun _ _ b hbx=>?_) _ (fun _ _=>by rw[hout];rfl)
  rw[hout] at hbx
  cases hbx
 | stay =>
  rw[hk] at hC hkind
  simp only[kindB,Bool.and_eq_true] at hkind
  show o.wp P a w _ Q∨_
  left
  refine hC ?_
  have hne:∀ (b:Nat) (e:Bl),bl[b]? = some e→e.al≠some i∧e.st≠some i:=fun b e hb=>by simpa using List.all_eq_true.1 hkind.1 e (List.mem_of_getElem? hb)
  have hsame:∀ (b:Nat) (e:Bl),bl[b]? = some e→e.live (L.setIfInBounds i true)=e.live L∧e.put (L.setIfInBounds i true)=e.put L:=fun b e hb =>
   ⟨by rw[live_set hi,show (e.al == some i)=false by simpa using (hne b e hb).1,Bool.or_false],by rw[put_set hi,show (e.st == some i)=false by simpa using (hne b e hb).2,Bool.or_false]⟩
  refine ⟨hsz',hcl',μ,hμ,?_,hW.same hsame,fun b e hb=>by rw[(hsame b e hb).1,(hsame b e hb).2];exact hO b e hb⟩
  rw[hdst']
  refine hA.put hd hi hit (fun _ _ _ _=>rfl) hin (fun _ _ b hbx=>?_) _ (fun _ _=>rfl)
  have h2:=hkind.2
  rw[hbx] at h2
  obtain ⟨e,he,hl⟩:=hlive b h2
  exact ⟨e,he,live_mono hi hl⟩
 | call =>
  rw[hk] at hC hkind
  simp only[kindB,Bool.and_eq_true] at hkind
  show o.wp P a w _ Q∨_
  left
  refine hC fun w' hb'=>?_
  have hne:∀ (b:Nat) (e:Bl),bl[b]? = some e→e.al≠some i∧e.st≠some i:=fun b e hb=>by simpa using List.all_eq_true.1 hkind.1 e (List.mem_of_getElem? hb)
  have hsame:∀ (b:Nat) (e:Bl),bl[b]? = some e→e.live (L.setIfInBounds i true)=e.live L∧e.put (L.setIfInBounds i true)=e.put L:=fun b e hb =>
   ⟨by rw[live_set hi,show (e.al == some i)=false by simpa using (hne b e hb).1,Bool.or_false],by rw[put_set hi,show (e.st == some i)=false by simpa using (hne b e hb).2,Bool.or_false]⟩
  refine ⟨hsz',hcl',μ,hμ,?_,(hW.call hb').same hsame,fun b e hb=>by rw[(hsame b e hb).1,(hsame b e hb).2];exact hO b e hb⟩
  rw[hdst']
  refine hA.put hd hi hit (fun _ _ _ _=>rfl) hin (fun _ _ b hbx=>?_) _ (fun _ _=>rfl)
  have h2:=hkind.2
  rw[hbx] at h2
  obtain ⟨e,he,hl⟩:=hlive b h2
  exact ⟨e,he,live_mono hi hl⟩
 | make b =>
  rw[hk] at hC hkind
  simp only[kindB,Bool.and_eq_true] at hkind
  obtain ⟨⟨hout,hz⟩,hb0⟩:=hkind
  obtain ⟨e,hbe⟩:=Option.isSome_iff_exists.1 hb0
  have ha:e.al=some i:=(two (zip_all hz b e hbe)).2.2 rfl
  have hstn:∀ (c:Nat) (f:Bl),bl[c]? = some f→f.st≠some i:=fun c f hc=>(two (zip_all hz c f hc)).1
  have haln:∀ (c:Nat) (f:Bl),bl[c]? = some f→c≠b→f.al≠some i:=fun c f hc hcb h=>hcb ((two (zip_all hz c f hc)).2.1 h)
  have hlv:e.live L=false:=by unfold Bl.live;rw[ha];exact hun
  have hpt:e.put L=false:=by
   cases hp:e.put L with
   | false=>rfl
   | true=>have:=hO b e hbe hp;rw[hlv] at this;cases this
  have hout':it.out.blk=some b:=by
   cases hoo:it.out.blk with
   | none=>rw[hoo] at hout;cases hout
   | some c =>
    rw[hoo] at hout
    rw[show c=b by simpa using hout]
  show o.wp P a w _ Q∨_
  left
  refine hC e hbe fun k w' hm=>?_
  have hμb:∀ (c:Nat) (f:Bl),bl[c]? = some f→f.live L=true→upd μ b k c=μ c:=fun c f hc hl=>by
   unfold upd
   rw[if_neg]
   rintro rfl
   rw[hbe] at hc
   obtain rfl:e=f:=Option.some.inj hc
   rw[hlv] at hl
   cases hl
  refine ⟨hsz',hcl',upd μ b k,fun c f hc hal=>?_,?_,hW.make hi hbe ha haln hstn hpt hm,fun c f hc=>?_⟩
  ·rw[hμb c f hc (by unfold Bl.live;rw[hal];rfl)]
   exact hμ c f hc hal
  ·rw[hdst']
   refine hA.put hd hi hit hμb hin (fun _ _ c hcx=>?_) _ (fun _ _=>rfl)
   rw[hout'] at hcx
   have h1:b=c:=Option.some.inj hcx
   subst h1
   exact ⟨e,hbe,by rw[live_set hi,ha];simp⟩
  ·rw[put_set hi,show (f.st == some i)=false by simpa using hstn c f hc,Bool.or_false]
   exact fun hp=>live_mono hi (hO c f hc hp)
 | put b =>
  rw[hk] at hC hkind
  simp only[kindB,Bool.and_eq_true] at hkind
  obtain ⟨⟨hdn,hz⟩,hb0⟩:=hkind
  cases hbe:bl[b]? with
  | none=>rw[hbe] at hb0;cases hb0
  | some e =>
   rw[hbe] at hb0
   dsimp only at hb0
   have hs:e.st=some i:=(two (zip_all hz b e hbe)).2.2 rfl
   have haln:∀ (c:Nat) (f:Bl),bl[c]? = some f→f.al≠some i:=fun c f hc=>(two (zip_all hz c f hc)).1
   have hstn:∀ (c:Nat) (f:Bl),bl[c]? = some f→c≠b→f.st≠some i:=fun c f hc hcb h=>hcb ((two (zip_all hz c f hc)).2.1 h)
   have hlv:e.live L=true:=by
    unfold Bl.live
    cases hal:e.al with
    | none=>rfl
    | some j =>
     have h2:=hb0
     rw[hal] at h2
     exact hdepB j h2
   show o.wp P a w _ Q∨_
   left
   have hpn:e.put L=false:=by unfold Bl.put;rw[hs];exact hun
   have hnow:e.now L=e.before:=by unfold Bl.now;rw[hpn];rfl
   refine hC e hbe (hW.has b e hbe hlv).2.1 (hnow ▸ (hW.has b e hbe hlv).1) fun w' hPT=>?_
   refine ⟨hsz',hcl',μ,hμ,?_,hW.put hi hbe hs hlv hPT hstn haln,fun c f hc hp=>?_⟩
   ·rw[hdst']
    refine hA.put hd hi hit (fun _ _ _ _=>rfl) hin (fun d hdd c hcx=>?_) _ (fun d hdd=>rfl)
    cases hoo:it.out with
    | v x=>rw[hoo] at hcx;cases hcx
    | p x y=>rw[hoo] at hdn;cases hdn
    | s x y z=>rw[hoo] at hdn;cases hdn
    | t x y z u=>rw[hoo] at hdn;cases hdn
   ·rw[live_set hi,show (f.al == some i)=false by simpa using haln c f hc,Bool.or_false]
    rw[put_set hi] at hp
    by_cases hcb:c=b
    ·subst hcb
     rw[hbe] at hc
     obtain rfl:e=f:=Option.some.inj hc
     exact hlv
    ·rw[show (f.st == some i)=false by simpa using hstn c f hc hcb,Bool.or_false] at hp
     exact hO c f hc hp
end RG
end Go.Proofs.YtgdfkblfggnnfaaDoor
