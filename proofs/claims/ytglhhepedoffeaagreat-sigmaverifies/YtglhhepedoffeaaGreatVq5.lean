import Derived.Deep.RegionWith
import Derived.Deep.OwnRows
import Derived.KernelRfl
import Derived.Lib.LazyBuf
import Derived.Lib.SliceRun
import Derived.Deep.AppendSrc
import Derived.Lib.AppendZeros
import Derived.Lib.ConvBytes
import Derived.BigQuiet
import Derived.Deep.RegionHeld3
import Derived.Deep.LoopGhost
import Derived.Deep.CutRange
import Derived.Deep.DeepCutAuto
import Derived.Test.YtglhhepedoffeaaGreatVq4
set_option linter.unusedVariables false
set_option linter.unusedSimpArgs false
set_option maxRecDepth 1000000
set_option maxHeartbeats 4000000
namespace Go.Proofs.YtglhhepedoffeaaGreat
namespace SP
open Go.RowKit Go.Sort
attribute [local go_sem] zAS zA0 zAX zEi
theorem zKq (j:Nat) (hj:j<7):∃ p:Nat,wrap64 (wrap64 ((2:Int)^j)-1)=(p:Int)∧p≤63∧Hid (2^j-1=p):=by
 have H:∀ j:Fin 7,wrap64 (wrap64 ((2:Int)^j.val)-1)=((2^j.val-1:Nat):Int)∧2^j.val-1≤63:=by decide +kernel
 exact ⟨_,(H ⟨j,hj⟩).1,(H ⟨j,hj⟩).2,rfl⟩
theorem zDz (r:Nat) (w:World) (hr:r<256) :
 Calls Tryz.prog 215 #[.int .i64 r] w fun e w'=>e=.returned (.tuple #[.int .u64 (u (rcC r)),.int .i64 (rcN r:Int)])∧w'=w:=by
 go_enter Tryz.func215,Tryz.ntmps215
 go_wp2
 go_loop [0,2,6] (fun s0 s2 s6=>∃ j:Nat,j≤7∧∃ (c:BitVec 64) (q:Nat),s6=.int .i64 j∧s2=.int .u64 (u c)∧s0=.int .i64 q∧q<256∧Hid (rcTo r j=(c,q))) (fun _ _ s6=>7-(intOf s6).toNat)
 case atStart=>exact ⟨0,by decide,0,r,rfl,rfl,rfl,hr,rfl⟩
 case round =>
  obtain ⟨j,hj,c,q,rfl,rfl,rfl,hq,HE⟩:=hrel
  by_cases hlt:j<7
  ·have a1:=zNn q hq
   have a2:=zNm q hq
   obtain ⟨p,a3,hp,HP⟩:=zKq j hlt
   have HC:Hid (rcTo r (j+1)=(c ||| BitVec.ofNat 64 (q%2) <<< p,zD2 q)):=by
    show ((rcTo r j).1 ||| BitVec.ofNat 64 ((rcTo r j).2%2) <<< (2^j-1),zD2 (rcTo r j).2)=_
    rw[HE.out,HP.out]
   have hs:=zIT (BitVec.ofNat 64 (q%2)) p
   have hlt2:=zFW q hq
   by_cases h255:255<2*q
   ·have HR:Hid (zD2 q=2*q ^^^ 369):=if_pos h255
    rw[HR.out] at hlt2
    generalize 2*q ^^^ 369=q2 at *
    go_wp2
    go_round
    case rel=>exact ⟨j+1,by omega,_,q2,by go_num,rfl,rfl,hlt2,by rw[HC.out,HR.out];rfl⟩
    case measure=>simp[intOf];omega
   ·have HR:Hid (zD2 q=2*q):=if_neg h255
    go_wp2
    go_round
    case rel=>exact ⟨j+1,by omega,_,2*q,by go_num,rfl,by go_num,by omega,by rw[HC.out,HR.out];rfl⟩
    case measure=>simp[intOf];omega
  ·have hj7:j=7:=by omega
   subst hj7
   go_wp2
   go_ret2
   unfold rcC rcN
   rw[HE.out]
   exact ⟨rfl,rfl⟩
theorem zEC (b off:Nat) (d:St) (w:World) (hd:d.size=25) (hH:Holds enc w b off d) :
 Calls Tryz.prog 204 #[.pointer (some ⟨b,off,none⟩)] w fun e w'=>e=.returned (.tuple #[])∧Only b off 25 w w'∧Holds enc w' b off (perm d):=by
 go_enter Tryz.func204,Tryz.ntmps204
 go_wp2
 go_loopg [2,3,4] 24 (fun g sc sr sk wr=>∃ (k:Nat) (c:BitVec 64) (dk:St),k+g=24∧sk=.int .i64 k∧sc=.int .u64 (u c)∧sr=.int .i64 (rcAt k:Nat)∧Holds enc wr b off dk∧Only b off 25 w wr∧Hid (dk=zDS d k))
 case atStart=>exact ⟨0,0,d,rfl,rfl,rfl,rfl,hH,Only.refl _ _ _ _,rfl⟩
 case round =>
  obtain ⟨k,c,dk,hk,rfl,rfl,rfl,hD,hO,HE⟩:=hrel
  have hs:dk.size=25:=by rw[HE.out,zCX d hd]
  by_cases hlt:k<24
  ·have k24:(k:Int)<24:=by omega
   go_wp2_with fail
   refine (zE9 b off dk _ hs hD).mono ?_
   rintro e w1 ⟨rfl,hO1,hD1⟩
   go_wp2_with fail
   refine (zEk b off _ _ (by rw[zBP,hs]) hD1).mono ?_
   rintro e w2 ⟨rfl,hO2,hD2⟩
   go_wp2_with fail
   refine (zHF b off _ _ (zCz _ (by rw[zBP,hs])) hD2).mono ?_
   rintro e w3 ⟨rfl,hO3,hD3⟩
   have HN:Hid (rcAt (k+1)=rcN (rcAt k)):=rfl
   have HK:Hid (zDS d (k+1)=zDV (zDS d k) (rcC (rcAt k))):=rfl
   have hrl:=zOs k
   generalize rcAt k=r at *
   go_wp2_with fail
   refine (zDz r _ hrl).mono ?_
   rintro e w4 ⟨rfl,rfl⟩
   have hs3:(chi (zFQ (zGs dk))).size=25:=by rw[zIA,zCz _ (by rw[zBP,hs])]
   obtain ⟨x,hx⟩:∃ x,(chi (zFQ (zGs dk)))[0]! = x:=⟨_,rfl⟩
   obtain ⟨c0,f0⟩:=zAn hD3 0 (by omega) hx
   rw[Nat.add_zero] at c0 f0
   have HX:Hid ((chi (zFQ (zGs dk)))[0]! = x):=hx
   clear hx
   go_wp2_with fail
   go_region
   go_wp2
   go_roundg (gk-1)
   case measure=>omega
   case rel =>
    refine ⟨k+1,rcC r,zDV dk (rcC r),by omega,by go_num,rfl,by rw[HN.out],?_,?_,?_⟩
    ·exact Holds.drew (Holds.xor (i:=0) hD3 (by omega) HX.out (rcC r))
    ·exact ((((hO.trans hO1).trans hO2).trans hO3).setCell (o:=off) (by omega) (by omega) _).drew
    ·rw[HK.out,HE.out];rfl
  ·have hk24:k=24:=by omega
   subst hk24
   go_wp2
   go_end0
   refine ⟨rfl,hO,?_⟩
   unfold perm
   rw[← HE.out]
   exact hD
end SP
namespace SP
open Go.RowKit Go.Sort Go.Deep
attribute [local go_sem] zAS zA0 zAX zEi zHb
theorem zE0 {w:World} {b off:Nat} {d:Bs} (h:Holds encB w b off d) (i:Nat) (hi:i<d.size) {x:UInt8} (hx:d[i]! = x) :
 w.cell? ⟨b,off+i,none⟩=some (.int .u8 (ub x))∧w.frozen? ⟨b,off+i,none⟩=false:=by
 rw[← hx];exact h i hi
theorem word_any (sb so o len cap:Nat) (bs:Bs) (w:World) (hB:Holds encB w sb so bs) (h8:8≤len) (ho:o+8≤bs.size) (hl:len≤4611686018427387904) :
 Calls Tryz.prog 216 #[.slice (some ⟨sb,so+o,none⟩) len cap] w fun e w'=>e=.returned (.int .u64 (u (wordOf bs o)))∧w'=w:=by
 go_enter Tryz.func216,Tryz.ntmps216
 go_wp2
 go_loop [3,5] (fun s3 s5=>∃ (k:Nat) (c:BitVec 64),k≤8∧s5=.int .i64 k∧s3=.int .u64 (u c)∧Hid (zCJ bs o k=c)) (fun _ s5=>8-(intOf s5).toNat)
 case atStart=>exact ⟨0,0,by decide,rfl,rfl,rfl⟩
 case round =>
  obtain ⟨k,c,hk,rfl,rfl,HE⟩:=hrel
  by_cases hlt:k<8
  ·obtain ⟨x,hx⟩:∃ x,bs[o+k]! = x:=⟨_,rfl⟩
   obtain ⟨c0,f0⟩:=zE0 hB (o+k) (by omega) hx
   rw[← Nat.add_assoc] at c0
   have HC:Hid (zCJ bs o (k+1)=c ||| wide x <<< (8*k)):=by
    show zCJ bs o k ||| wide bs[o+k]! <<< (8*k)=_
    rw[HE.out,hx]
   clear hx f0
   have hs:=zIT (wide x) (8*k)
   have k8:(k:Int)<(len:Int):=by omega
   go_wp2
   go_round
   case rel=>exact ⟨k+1,_,by omega,by go_num,rfl,HC⟩
   case measure=>simp[intOf];omega
  ·have hk8:k=8:=by omega
   subst hk8
   go_wp2
   go_ret
   unfold wordOf
   rw[HE.out]
   exact ⟨rfl,rfl⟩
theorem zO3 (b off sb so len cap:Nat) (bs:Bs) (d:St) (w:World) (hd:d.size=25) (hH:Holds enc w b off d) (hB:Holds encB w sb so bs) (hl:bs.size=len) (hlen:len≤200) (hcap:len≤cap)
 (hdis:sb≠b∨so+len≤off∨off+25≤so) :
 Calls Tryz.prog 206 #[.pointer (some ⟨b,off,none⟩),.slice (some ⟨sb,so,none⟩) len cap] w fun e w'=>e=.returned (.tuple #[])∧Only b off 25 w w'∧Holds enc w' b off (zBV bs d (len/8)):=by
 go_enter Tryz.func206,Tryz.ntmps206
 go_wp2
 go_loopg [8] (len/8) (fun g s8 wr=>∃ (k:Nat) (dk:St),k+g=len/8∧s8=.int .i64 k∧Holds enc wr b off dk∧Only b off 25 w wr∧Hid (dk=zBV bs d k))
 case atStart=>exact ⟨0,d,by omega,rfl,hH,Only.refl _ _ _ _,rfl⟩
 case round =>
  obtain ⟨k,dk,hk,rfl,hD,hO,HE⟩:=hrel
  have hs:dk.size=25:=by rw[HE.out,zAZ,hd]
  by_cases hlt:k<len/8
  ·have hBr:Holds encB wr sb so bs:=by
    by_cases hsb:sb=b
    ·subst hsb
     exact Holds.same hB hO (by omega)
    ·exact Holds.other hB hO hsb (by omega)
   obtain ⟨x,hx⟩:∃ x,dk[k]! = x:=⟨_,rfl⟩
   obtain ⟨c0,f0⟩:=zAn hD k (by omega) hx
   have HX:Hid (dk[k]! = x):=hx
   clear hx
   have r0:(k:Int)<25:=by omega
   have r1:(0:Int)≤(k:Int)*8:=by omega
   have r2:(k:Int)*8≤(len:Int):=by omega
   have r3:((k:Int)*8).toNat=8*k:=by omega
   have s1:IntKind.i64.wrap ((k:Int)*8)=(k:Int)*8:=IntWalk.i64_in _ (by omega)
   have lt:(k:Int)<(len:Int)/8:=by omega
   go_wp2_with fail
   have hne:(cap=8*k)=False:=eq_false (by omega)
   have HB:Hid (Holds encB wr.drew sb so bs):=Holds.drew hBr
   have Q4:Hid (8*k+8≤bs.size):=by show _≤_;omega
   clear hBr
   go_region_with (go_at_call 216;refine (word_any sb so (8*k) (len-8*k) (cap-8*k) bs _ HB.out (by omega) Q4.out (by omega)).mono ?_;rintro e w2 ⟨rfl,rfl⟩)
   all_goals
    go_wp2
    go_roundg (gk-1)
    case measure=>omega
    case rel =>
     refine ⟨k+1,zAH dk k (wordOf bs (8*k)),by omega,by go_num,?_,?_,?_⟩
     ·exact Holds.drew (Holds.xor hD (by omega) HX.out _)
     ·exact (hO.setCell (o:=off+k) (by omega) (by omega) _).drew
     ·rw[HE.out];rfl
  ·have hk8:k=len/8:=by omega
   have lt:(len:Int)/8≤(k:Int):=by omega
   go_wp2
   go_end0
   refine ⟨rfl,hO,?_⟩
   rw[← hk8,← HE.out]
   exact hD
theorem slice22:Tryz.prog.underlying 22=some (.slice 5):=by kernel_rfl
theorem info5:(Tryz.prog.info? 5).map (fun i=>(i.zero,i.size,i.bytes))=some (some (.int .u8 0),1,1):=by kernel_rfl
attribute [local go_sem] zQn
theorem zEO (b off n:Nat) (d:St) (w:World) (hd:d.size=25) (hH:Holds enc w b off d) (hn:n≤200) :
 Calls Tryz.prog 141 #[.pointer (some ⟨b,off,none⟩),.int .i64 n] w fun e w'=>e=.returned (.slice (some ⟨w.heap.size,0,none⟩) n n)∧Below w.heap.size w w'∧Holds encB w' w.heap.size 0 (front d n):=by
 have hb:=Holds.lt hH (by omega)
 have hmk:=run_make_row' (P:=Tryz.prog) 22 5 (.int .u8 0) 1 slice22 info5 rfl .i64 .i64 n (by omega) (by omega)
 go_enter Tryz.func141,Tryz.ntmps141
 go_wp2
 generalize hW1:(w.alloc _)=W1
 go_loopg [11] n (fun g s11 wr=>∃ (k:Nat) (bs:Bs),k+g=n∧s11=.int .i64 k∧Holds encB wr w.heap.size 0 bs∧Only w.heap.size 0 n W1 wr∧Hid (bs=zBb d n k))
 case atStart =>
  refine ⟨0,_,by omega,rfl,?_,Only.refl _ _ _ _,rfl⟩
  rw[← hW1]
  exact Holds.made (enc:=encB) w 5 n 0
 case round =>
  obtain ⟨k,bs,hk,rfl,hB,hO,HE⟩:=hrel
  have hs:bs.size=n:=by rw[HE.out,zBI]
  have hD:Holds enc wr b off d:=Holds.other (by rw[← hW1];exact Holds.below hH ((Below.refl _ _).alloc (Nat.le_refl _) _) hb) hO (by omega) (by omega)
  by_cases hlt:k<n
  ·obtain ⟨x,hx⟩:∃ x,d[k/8]! = x:=⟨_,rfl⟩
   obtain ⟨c0,f0⟩:=zAn hD (k/8) (by omega) hx
   obtain ⟨c1,f1⟩:=hB k (by omega)
   rw[Nat.zero_add] at c1 f1
   have HX:Hid (byteOf d k=low (x >>> (8*(k%8)))):=by show low _=_;rw[hx]
   clear hx f0
   have r0:(k:Int)/8<25:=by omega
   have r1:(k:Int)<(n:Int):=by omega
   have hsr:=zL1 x (8*(k%8))
   go_wp2
   go_roundg (gk-1)
   case measure=>omega
   case rel =>
    refine ⟨k+1,bs.setIfInBounds k (low (x >>> (8*(k%8)))),by omega,by go_num,?_,?_,?_⟩
    ·have:=Holds.set hB (i:=k) (by omega) (low (x >>> (8*(k%8))))
     rw[Nat.zero_add] at this
     exact this
    ·exact hO.setCell (o:=k) (by omega) (by omega) _
    ·show _=(zBb d n k).setIfInBounds k (byteOf d k)
     rw[HX.out,HE.out]
  ·have hkn:k=n:=by omega
   have lt:(n:Int)≤(k:Int):=by omega
   go_wp2
   go_ret
   refine ⟨rfl,?_,?_⟩
   ·rw[← hW1] at hO
    exact hO.fresh
   ·unfold front
    rw[HE.out,hkn] at hB
    exact hB
end SP
namespace SP
open Go.RowKit
def encI (n:Nat):Value:=.int .i64 n
def zHS (a:St) (x:Nat) (c:St):Nat→St
 | 0=>c
 | y+1=>zAH (zHS a x c y) x a[x+5*y]!
def zET (a:St):Nat→St
 | 0=>Array.replicate 5 0
 | x+1=>zHS a x (zET a x) 5
def zHE (a:St) (tn:Array Nat) (x:Nat) (v:BitVec 64) (m:St):Nat→St
 | 0=>m
 | y+1=>(zHE a tn x v m y).setIfInBounds (y%5+5*((2*x+3*y)%5)) (rol (a[x+5*y]! ^^^ v) tn[x+5*y]!)
def zEM (a:St) (tn:Array Nat) (c:St):Nat→St
 | 0=>Array.replicate 25 0
 | x+1=>zHE a tn x (dcol c x) (zEM a tn c x) 5
def zHz (m:St) (x:Nat) (o:St):Nat→St
 | 0=>o
 | y+1=>(zHz m x o y).setIfInBounds (x+5*y) (m[x+5*y]! ^^^ (~~~m[(x+1)%5+5*y]! &&& m[(x+2)%5+5*y]!))
def zE8 (m:St):Nat→St
 | 0=>Array.replicate 25 0
 | x+1=>zHz m x (zE8 m x) 5
def zBg (a:St) (tn:Array Nat) (c:BitVec 64):St:=zAH (zE8 (zEM a tn (zET a 5) 5) 5) 0 c
theorem zFs (a:St) (x:Nat) (c:St) (y:Nat):(zHS a x c y).size=c.size:=by
 induction y with
 | zero=>rfl
 | succ y ih=>simp[zHS,zAG,ih]
theorem zJo (a:St) (x:Nat):(zET a x).size=5:=by
 induction x with
 | zero=>simp[zET]
 | succ x ih=>simp[zET,zFs,ih]
theorem zFk (a:St) (tn:Array Nat) (x:Nat) (v:BitVec 64) (m:St) (y:Nat):(zHE a tn x v m y).size=m.size:=by
 induction y with
 | zero=>rfl
 | succ y ih=>simp[zHE,ih]
theorem zJg (a:St) (tn:Array Nat) (c:St) (x:Nat):(zEM a tn c x).size=25:=by
 induction x with
 | zero=>simp[zEM]
 | succ x ih=>simp[zEM,zFk,ih]
theorem zFh (m:St) (x:Nat) (o:St) (y:Nat):(zHz m x o y).size=o.size:=by
 induction y with
 | zero=>rfl
 | succ y ih=>simp[zHz,ih]
theorem zFg (m:St) (x:Nat):(zE8 m x).size=25:=by
 induction x with
 | zero=>simp[zE8]
 | succ x ih=>simp[zE8,zFh,ih]
theorem zFS (a:St) (tn:Array Nat) (c:BitVec 64):(zBg a tn c).size=25:=by simp[zBg,zAG,zFg]
structure Of where
 x:Nat
 y:Nat
 o:Array Nat
def ofTo:Nat→Of
 | 0=>{ x:=1,y:=0,o:=Array.replicate 25 0 }
 | t+1=>{ x:=(ofTo t).y,y:=(2*(ofTo t).x+3*(ofTo t).y)%5,o:=(ofTo t).o.setIfInBounds ((ofTo t).x%5+5*((ofTo t).y%5)) (offs t) }
def zAU:Array Nat:=(ofTo 24).o
theorem zOV (t:Nat):(ofTo t).x<5∧(ofTo t).y<5∧(ofTo t).o.size=25:=by
 induction t with
 | zero=>exact ⟨show 1<5 by decide,show 0<5 by decide,show (Array.replicate 25 0).size=25 by simp⟩
 | succ t ih =>
  obtain ⟨h1,h2,h3⟩:=ih
  refine ⟨h2,?_,?_⟩
  ·show (2*(ofTo t).x+3*(ofTo t).y)%5<5
   omega
  ·show ((ofTo t).o.setIfInBounds _ _).size=25
   rw[Array.size_setIfInBounds,h3]
def zJY:Nat→Nat
 | 0=>1
 | i+1=>zD2 (zJY i)
def bitL (t:Nat):BitVec 64:=BitVec.ofNat 64 (zJY t%2)
def zK7 (r:Nat):Nat→BitVec 64
 | 0=>0
 | j+1=>zK7 r j ||| bitL (j+7*r) <<< (2^j-1)
def conL (r:Nat):BitVec 64:=zK7 r 7
def zJ0 (d:St):Nat→St
 | 0=>d
 | k+1=>zBg (zJ0 d k) zAU (conL k)
end SP
namespace SP
theorem zQL:∀ k:Fin 24,conL k.val=rcC (rcAt k.val):=by decide +kernel
theorem zFj:zAU=#[0,1,62,28,27,36,44,6,55,20,3,10,43,25,39,41,45,15,21,8,18,2,61,56,14]:=by decide +kernel
theorem zL8 (x:BitVec 64):rol x 0=x:=by
 unfold rol
 rw[BitVec.shiftLeft_zero,Nat.sub_zero,BitVec.ushiftRight_eq_zero (Nat.le_refl 64),BitVec.or_zero]
theorem zx (x:BitVec 64):0 ^^^ x=x:=BitVec.zero_xor
theorem zPi (a0 a1 a2 a3 a4 a5 a6 a7 a8 a9 a10 a11 a12 a13 a14 a15 a16 a17 a18 a19 a20 a21 a22 a23 a24:BitVec 64):zET #[a0,a1,a2,a3,a4,a5,a6,a7,a8,a9,a10,a11,a12,a13,a14,a15,a16,a17,a18,a19,a20,a21,a22,a23,a24] 5=#[0 ^^^ a0 ^^^ a5 ^^^ a10 ^^^ a15 ^^^ a20,0 ^^^ a1 ^^^ a6 ^^^ a11 ^^^ a16 ^^^ a21,0 ^^^ a2 ^^^ a7 ^^^ a12 ^^^ a17 ^^^ a22,0 ^^^ a3 ^^^ a8 ^^^ a13 ^^^ a18 ^^^ a23,0 ^^^ a4 ^^^ a9 ^^^ a14 ^^^ a19 ^^^ a24]:=by kernel_rfl
theorem zLU (a0 a1 a2 a3 a4 a5 a6 a7 a8 a9 a10 a11 a12 a13 a14 a15 a16 a17 a18 a19 a20 a21 a22 a23 a24:BitVec 64):zC8 #[a0,a1,a2,a3,a4,a5,a6,a7,a8,a9,a10,a11,a12,a13,a14,a15,a16,a17,a18,a19,a20,a21,a22,a23,a24] 5=#[a0 ^^^ a5 ^^^ a10 ^^^ a15 ^^^ a20,a1 ^^^ a6 ^^^ a11 ^^^ a16 ^^^ a21,a2 ^^^ a7 ^^^ a12 ^^^ a17 ^^^ a22,a3 ^^^ a8 ^^^ a13 ^^^ a18 ^^^ a23,a4 ^^^ a9 ^^^ a14 ^^^ a19 ^^^ a24]:=by kernel_rfl
theorem zQM (a0 a1 a2 a3 a4 a5 a6 a7 a8 a9 a10 a11 a12 a13 a14 a15 a16 a17 a18 a19 a20 a21 a22 a23 a24:BitVec 64):zET #[a0,a1,a2,a3,a4,a5,a6,a7,a8,a9,a10,a11,a12,a13,a14,a15,a16,a17,a18,a19,a20,a21,a22,a23,a24] 5=zC8 #[a0,a1,a2,a3,a4,a5,a6,a7,a8,a9,a10,a11,a12,a13,a14,a15,a16,a17,a18,a19,a20,a21,a22,a23,a24] 5:=by
 rw[zPi,zLU]
 simp only[zx]
theorem zO1 (S:St) (a0 a1 a2 a3 a4 a5 a6 a7 a8 a9 a10 a11 a12 a13 a14 a15 a16 a17 a18 a19 a20 a21 a22 a23 a24:BitVec 64):zEM #[a0,a1,a2,a3,a4,a5,a6,a7,a8,a9,a10,a11,a12,a13,a14,a15,a16,a17,a18,a19,a20,a21,a22,a23,a24] #[0,1,62,28,27,36,44,6,55,20,3,10,43,25,39,41,45,15,21,8,18,2,61,56,14] S 5=#[rol (a0 ^^^ dcol S 0) 0,rol (a6 ^^^ dcol S 1) 44,rol (a12 ^^^ dcol S 2) 43,rol (a18 ^^^ dcol S 3) 21,rol (a24 ^^^ dcol S 4) 14,rol (a3 ^^^ dcol S 3) 28,rol (a9 ^^^ dcol S 4) 20,rol (a10 ^^^ dcol S 0) 3,rol (a16 ^^^ dcol S 1) 45,rol (a22 ^^^ dcol S 2) 61,rol (a1 ^^^ dcol S 1) 1,rol (a7 ^^^ dcol S 2) 6,rol (a13 ^^^ dcol S 3) 25,rol (a19 ^^^ dcol S 4) 8,rol (a20 ^^^ dcol S 0) 18,rol (a4 ^^^ dcol S 4) 27,rol (a5 ^^^ dcol S 0) 36,rol (a11 ^^^ dcol S 1) 10,rol (a17 ^^^ dcol S 2) 15,rol (a23 ^^^ dcol S 3) 56,rol (a2 ^^^ dcol S 2) 62,rol (a8 ^^^ dcol S 3) 55,rol (a14 ^^^ dcol S 4) 39,rol (a15 ^^^ dcol S 0) 41,rol (a21 ^^^ dcol S 1) 2]:=by kernel_rfl
theorem zOn (S:St) (a0 a1 a2 a3 a4 a5 a6 a7 a8 a9 a10 a11 a12 a13 a14 a15 a16 a17 a18 a19 a20 a21 a22 a23 a24:BitVec 64):zFQ (zCl S #[a0,a1,a2,a3,a4,a5,a6,a7,a8,a9,a10,a11,a12,a13,a14,a15,a16,a17,a18,a19,a20,a21,a22,a23,a24] 5)=#[a0 ^^^ dcol S 0,rol (a6 ^^^ dcol S 1) 44,rol (a12 ^^^ dcol S 2) 43,rol (a18 ^^^ dcol S 3) 21,rol (a24 ^^^ dcol S 4) 14,rol (a3 ^^^ dcol S 3) 28,rol (a9 ^^^ dcol S 4) 20,rol (a10 ^^^ dcol S 0) 3,rol (a16 ^^^ dcol S 1) 45,rol (a22 ^^^ dcol S 2) 61,rol (a1 ^^^ dcol S 1) 1,rol (a7 ^^^ dcol S 2) 6,rol (a13 ^^^ dcol S 3) 25,rol (a19 ^^^ dcol S 4) 8,rol (a20 ^^^ dcol S 0) 18,rol (a4 ^^^ dcol S 4) 27,rol (a5 ^^^ dcol S 0) 36,rol (a11 ^^^ dcol S 1) 10,rol (a17 ^^^ dcol S 2) 15,rol (a23 ^^^ dcol S 3) 56,rol (a2 ^^^ dcol S 2) 62,rol (a8 ^^^ dcol S 3) 55,rol (a14 ^^^ dcol S 4) 39,rol (a15 ^^^ dcol S 0) 41,rol (a21 ^^^ dcol S 1) 2]:=by kernel_rfl
theorem zQl (S:St) (a0 a1 a2 a3 a4 a5 a6 a7 a8 a9 a10 a11 a12 a13 a14 a15 a16 a17 a18 a19 a20 a21 a22 a23 a24:BitVec 64):zEM #[a0,a1,a2,a3,a4,a5,a6,a7,a8,a9,a10,a11,a12,a13,a14,a15,a16,a17,a18,a19,a20,a21,a22,a23,a24] zAU S 5=zFQ (zCl S #[a0,a1,a2,a3,a4,a5,a6,a7,a8,a9,a10,a11,a12,a13,a14,a15,a16,a17,a18,a19,a20,a21,a22,a23,a24] 5):=by
 rw[zFj,zO1,zOn,zL8]
theorem zQf (a0 a1 a2 a3 a4 a5 a6 a7 a8 a9 a10 a11 a12 a13 a14 a15 a16 a17 a18 a19 a20 a21 a22 a23 a24:BitVec 64):zE8 #[a0,a1,a2,a3,a4,a5,a6,a7,a8,a9,a10,a11,a12,a13,a14,a15,a16,a17,a18,a19,a20,a21,a22,a23,a24] 5=chi #[a0,a1,a2,a3,a4,a5,a6,a7,a8,a9,a10,a11,a12,a13,a14,a15,a16,a17,a18,a19,a20,a21,a22,a23,a24]:=by kernel_rfl
theorem zQo {α:Type} (l:List α) (h:l.length=25):∃ a0 a1 a2 a3 a4 a5 a6 a7 a8 a9 a10 a11 a12 a13 a14 a15 a16 a17 a18 a19 a20 a21 a22 a23 a24,l=[a0,a1,a2,a3,a4,a5,a6,a7,a8,a9,a10,a11,a12,a13,a14,a15,a16,a17,a18,a19,a20,a21,a22,a23,a24]:=by
 match l,h with
 | [a0,a1,a2,a3,a4,a5,a6,a7,a8,a9,a10,a11,a12,a13,a14,a15,a16,a17,a18,a19,a20,a21,a22,a23,a24],_=>exact ⟨_,_,_,_,_,_,_,_,_,_,_,_,_,_,_,_,_,_,_,_,_,_,_,_,_,rfl⟩
theorem zQ2 {α:Type} (d:Array α) (h:d.size=25):∃ a0 a1 a2 a3 a4 a5 a6 a7 a8 a9 a10 a11 a12 a13 a14 a15 a16 a17 a18 a19 a20 a21 a22 a23 a24,d=#[a0,a1,a2,a3,a4,a5,a6,a7,a8,a9,a10,a11,a12,a13,a14,a15,a16,a17,a18,a19,a20,a21,a22,a23,a24]:=by
 obtain ⟨l⟩:=d
 obtain ⟨a0,a1,a2,a3,a4,a5,a6,a7,a8,a9,a10,a11,a12,a13,a14,a15,a16,a17,a18,a19,a20,a21,a22,a23,a24,rfl⟩:=zQo l h
 exact ⟨_,_,_,_,_,_,_,_,_,_,_,_,_,_,_,_,_,_,_,_,_,_,_,_,_,rfl⟩
theorem zON (m:St) (h:m.size=25):zE8 m 5=chi m:=by
 obtain ⟨a0,a1,a2,a3,a4,a5,a6,a7,a8,a9,a10,a11,a12,a13,a14,a15,a16,a17,a18,a19,a20,a21,a22,a23,a24,rfl⟩:=zQ2 m h
 exact zQf _ _ _ _ _ _ _ _ _ _ _ _ _ _ _ _ _ _ _ _ _ _ _ _ _
theorem round_eq (d:St) (h:d.size=25) (c:BitVec 64):zBg d zAU c=zDV d c:=by
 have hm:zEM d zAU (zET d 5) 5=zFQ (zGs d):=by
  obtain ⟨a0,a1,a2,a3,a4,a5,a6,a7,a8,a9,a10,a11,a12,a13,a14,a15,a16,a17,a18,a19,a20,a21,a22,a23,a24,rfl⟩:=zQ2 d h
  rw[zQM,zQl]
  rfl
 unfold zBg zDV
 rw[hm,zON _ (zCz _ (by rw[zBP,h]))]
theorem zMa (d:St) (h:d.size=25) (k:Nat) (hk:k≤24):zJ0 d k=zDS d k:=by
 induction k with
 | zero=>rfl
 | succ k ih =>
  show zBg (zJ0 d k) zAU (conL k)=zDV (zDS d k) (rcC (rcAt k))
  rw[ih (by omega),zQL ⟨k,by omega⟩,round_eq _ (zCX d h k)]
theorem zJe:∀ i,i<25→zAU[i]! < 64:=by
 intro i hi
 have H:∀ j:Fin 25,zAU[j.val]! < 64:=by decide +kernel
 exact H ⟨i,hi⟩
theorem zCt:zAU.size=25:=by rw[zFj];rfl
end SP
namespace SP
open Go.Sort
def zAV:St:=Array.replicate 25 0
def zCq (bs:Bs):Bs:=front (perm (zBV bs zAV 25)) 200
def orTo (bs:Bs):Nat→St
 | 0=>zAV
 | i+1=>(orTo bs i).setIfInBounds (i/8) ((orTo bs i)[i/8]! ||| wide bs[i]! <<< (8*(i%8)))
theorem zCs (bs:Bs) (i:Nat):(orTo bs i).size=25:=by
 induction i with
 | zero=>simp[orTo,zAV]
 | succ i ih=>simp[orTo,ih]
theorem zBN (j:Nat) (h:j<25):zAV[j]! = 0:=by
 have h':j<(Array.replicate 25 (0:BitVec 64)).size:=by rw[Array.size_replicate];exact h
 unfold zAV
 rw[getElem!_pos (Array.replicate 25 (0:BitVec 64)) j h',Array.getElem_replicate]
theorem zOR (bs:Bs) (n j:Nat) (hn:n≤200) (hj:j<25) :
 (orTo bs n)[j]! = if j<n/8 then wordOf bs (8*j) else if j=n/8 then zCJ bs (8*j) (n%8) else 0:=by
 induction n with
 | zero =>
  rw[orTo,zBN j hj]
  by_cases h:j=0
  ·subst h;rfl
  ·simp[h]
 | succ n ih =>
  have ih:=ih (by omega)
  rw[orTo]
  by_cases hjn:j=n/8
  ·rw[← hjn,getElem!_set_same _ _ _ (by rw[zCs];omega),ih,if_neg (by omega),if_pos hjn]
   have hb:bs[n]! = bs[8*j+n%8]!:=by
    have:n=8*j+n%8:=by omega
    rw[← this]
   rw[hb]
   show zCJ bs (8*j) (n%8+1)=_
   by_cases h8:n%8=7
   ·rw[if_pos (by omega),h8]
    rfl
   ·rw[if_neg (by omega),if_pos (by omega),show (n+1)%8=n%8+1 by omega]
  ·rw[getElem!_set_other _ _ _ _ hjn,ih]
   by_cases h1:j<n/8
   ·rw[if_pos h1,if_pos (by omega)]
   ·rw[if_neg h1,if_neg hjn,if_neg (by omega)]
    by_cases h2:j=(n+1)/8
    ·rw[if_pos h2,show (n+1)%8=0 by omega]
     rfl
    ·rw[if_neg h2]
theorem zEb (bs:Bs) (d:St) (hd:d.size=25) (n j:Nat) (hn:n≤25) (hj:j<25):(zBV bs d n)[j]! = if j<n then d[j]! ^^^ wordOf bs (8*j) else d[j]!:=by
 induction n with
 | zero=>rfl
 | succ n ih =>
  have ih:=ih (by omega)
  rw[zBV]
  unfold zAH
  by_cases hjn:j=n
  ·rw[← hjn,getElem!_set_same _ _ _ (by rw[zAZ,hd];exact hj),if_pos (by omega)]
   rw[← hjn] at ih
   rw[ih,if_neg (by omega)]
  ·rw[getElem!_set_other _ _ _ _ hjn,ih]
   by_cases h1:j<n
   ·rw[if_pos h1,if_pos (by omega)]
   ·rw[if_neg h1,if_neg (by omega)]
theorem zJO (a b:St) (ha:a.size=25) (hb:b.size=25) (h:∀ j,j<25→a[j]! = b[j]!):a=b:=by
 apply Array.ext (by omega)
 intro i h1 h2
 have:=h i (by omega)
 rwa[getElem!_pos a i h1,getElem!_pos b i h2] at this
theorem zQg (bs:Bs):orTo bs 200=zBV bs zAV 25:=by
 have hz:zAV.size=25:=by simp[zAV]
 refine zJO _ _ (zCs _ _) (by rw[zAZ,hz]) (fun j hj=>?_)
 rw[zOR bs 200 j (Nat.le_refl _) hj,zEb bs zAV hz 25 j (Nat.le_refl _) hj,if_pos (by omega),if_pos hj,zBN j hj,zx]
theorem zJZ (bs:Bs):front (zJ0 (orTo bs 200) 24) 200=zCq bs:=by
 have hz:zAV.size=25:=by simp[zAV]
 rw[zMa _ (zCs _ _) 24 (Nat.le_refl _),zQg]
 rfl
end SP
namespace SP
open Go.RowKit Go.Sort
end SP
namespace SP
open Go.RowKit Go.Sort
def fill (i:Nat):UInt8:=UInt8.ofNat (i%251) ^^^ 165
def lentTo (s:ByteArray):Nat→Bs
 | 0=>s.data++Array.replicate 160 0
 | k+1=>(lentTo s k).setIfInBounds (s.size+k) (fill (s.size+k))
def lent (s:ByteArray):Bs:=lentTo s 160
variable {w w1:World} {b o n:Nat}
theorem heap_setCells (b:Nat) {k:Nat} (hk:k≠b):∀ (vs:List Value) (p:Nat) (w:World),(w.setCells b p vs).heap[k]? = w.heap[k]?
 | [],_,_=>rfl
 | v :: r,p,w=>by rw[World.setCells,heap_setCells b hk r (p+1) _,Below.heap_setCell _ _ _ _ hk]
theorem Only.setCells (h:Only b o n w w1) (vs:List Value) (p:Nat) (hp:o≤p) (hn:p+vs.length≤o+n):Only b o n w (w1.setCells b p vs):=by
 have h0:=below_setCells (B:=0) (b:=b) (Nat.zero_le _) vs p w1 (Below.refl 0 w1)
 exact h.trans ⟨h0.os,h0.tape,h0.output,h0.size,fun k _ hk=>heap_setCells b hk vs p w1,
  fun q hq=>World.cell?_setCells_out b vs p w1 ⟨b,q,none⟩ (fun _ _=>by simp only;omega),fun q=>World.frozen?_setCells b vs p w1 _⟩
theorem Holds.setCells {bs r:Bs} (h:Holds encB w b o bs) (vs:List Value) (p:Nat) (hr:r.size=bs.size) (hp:p+vs.length≤bs.size)
 (h1:∀ j (hj:j<vs.length),vs[j]=encB r[p+j]!) (h2:∀ j,j<bs.size→j<p∨p+vs.length≤j→r[j]! = bs[j]!):Holds encB (w.setCells b (o+p) vs) b o r:=by
 intro j hj
 rw[hr] at hj
 rw[World.frozen?_setCells]
 refine ⟨?_,(h j hj).2⟩
 by_cases hin:j<p∨p+vs.length≤j
 ·rw[World.cell?_setCells_out b vs (o+p) w ⟨b,o+j,none⟩ (fun _ _=>by simp only;omega),h2 j hj hin]
  exact (h j hj).1
 ·have hj2:j-p<vs.length:=by omega
  have:=World.cell?_setCells_in b vs (o+p) w (fun i hi=>by
   have:=(h (p+i) (by omega)).1
   rw[← Nat.add_assoc] at this
   rw[this];rfl) (j-p) hj2
  rw[show o+p+(j-p)=o+j by omega] at this
  rw[this,h1 (j-p) hj2,show p+(j-p)=j by omega]
theorem app_front (a r:Bs) (j:Nat) (hj:j<a.size):(a++r)[j]! = a[j]:=by
 have h:j<(a++r).size:=by rw[Array.size_append];omega
 rw[getElem!_pos (a++r) j h,Array.getElem_append_left hj]
theorem app_back (a r:Bs) (j:Nat) (h1:a.size≤j) (h2:j<a.size+r.size):(a++r)[j]! = r[j-a.size]!:=by
 have h:j<(a++r).size:=by rw[Array.size_append];omega
 have h3:j-a.size<r.size:=by omega
 rw[getElem!_pos (a++r) j h,Array.getElem_append_right h1,getElem!_pos r (j-a.size) h3]
theorem rep_at (n j:Nat) (h:j<n):(Array.replicate n (0:UInt8))[j]! = 0:=by
 have h':j<(Array.replicate n (0:UInt8)).size:=by rw[Array.size_replicate];exact h
 rw[getElem!_pos (Array.replicate n (0:UInt8)) j h',Array.getElem_replicate]
theorem conv_str (P:Program) (src dst e:TypeId) (hs:P.underlying src=some (.slice e)) (he:P.underlying e=some (.int .u8)) (hd:P.underlying dst=some .string)
 (w:World) (b o n cap:Nat) (bs:Bs) (hB:Holds encB w b o bs) (hn:bs.size=n):(convert src dst (.slice (some ⟨b,o,none⟩) n cap)).run P w=.ok (.string ⟨bs⟩) w:=by
 have h:=run_convert_bytes_back (P:=P) w src dst e ⟨b,o,none⟩ cap bs.toList hs he hd (fun j hj=>by
  have hj':j<bs.size:=by simpa using hj
  have hc:=(hB j hj').1
  rw[getElem!_pos bs j hj'] at hc
  have e1:(⟨b,o,none⟩:Addr).add j=⟨b,o+j,none⟩:=by
   unfold Addr.add
   by_cases h0:j=0
   ·subst h0;rfl
   ·rw[if_neg h0]
  rw[e1,hc]
  simp[encB,ub])
 simpa[hn] using h
end SP
namespace SP
open Go.RowKit Go.Sort Go.Deep
theorem int5:Tryz.prog.underlying 5=some (.int .u8):=by kernel_rfl
theorem str9:Tryz.prog.underlying 9=some .string:=by kernel_rfl
end SP
namespace SP
open Go.Sort
/-! ### Words and bytes -/
theorem zLP (x : UInt8) (i : Nat) : (wide x).getLsbD i=x.toNat.testBit i:=by
  unfold wide
  rw[BitVec.getLsbD_ofNat]
  by_cases h : i<64
  · simp[h]
  · have : x.toNat.testBit i=false:=Nat.testBit_lt_two_pow (Nat.lt_of_lt_of_le x.toNat_lt (Nat.pow_le_pow_right (by decide) (by omega : 8 ≤ i)))
    simp[h, this]
theorem zGg (x:UInt8) (i:Nat) (h:8≤i):x.toNat.testBit i=false:=
 Nat.testBit_lt_two_pow (Nat.lt_of_lt_of_le x.toNat_lt (Nat.pow_le_pow_right (by decide) h))
theorem zDu (bs:Bs) (o n k:Nat) (hn:n≤8) (hk:k<64):(zCJ bs o n).getLsbD k=(decide (k<8*n) && (bs[o+k/8]!).toNat.testBit (k%8)):=by
 induction n with
 | zero=>simp[zCJ]
 | succ n ih =>
  rw[zCJ,BitVec.getLsbD_or,ih (by omega),BitVec.getLsbD_shiftLeft,zLP]
  by_cases h1:k<8*n
  ·simp[h1,hk,show k<8*(n+1) by omega]
  ·by_cases h2:k<8*(n+1)
   ·have e1:k/8=n:=by omega
    have e2:k-8*n=k%8:=by omega
    simp[h1,h2,hk,e1,e2]
   ·have:=zGg bs[o+n]! (k-8*n) (by omega)
    simp[h1,h2,hk,this]
theorem low_bit (v:BitVec 64) (i:Nat) (h:i<8):(low v).toNat.testBit i=v.getLsbD i:=by
 unfold low
 rw[UInt8.toNat_ofNat',Nat.testBit_mod_two_pow,BitVec.getLsbD]
 simp[h]
theorem zJk (d:St) (n k j:Nat) (hk:k≤n) (hj:j<n):(zBb d n k)[j]! = if j<k then byteOf d j else 0:=by
 induction k with
 | zero =>
  have h':j<(Array.replicate n (0:UInt8)).size:=by rw[Array.size_replicate];exact hj
  rw[zBb,getElem!_pos (Array.replicate n (0:UInt8)) j h',Array.getElem_replicate,if_neg (by omega)]
 | succ k ih =>
  rw[zBb]
  by_cases h:j=k
  ·subst h
   rw[getElem!_set_same _ _ _ (by rw[zBI];exact hj),if_pos (by omega)]
  ·rw[getElem!_set_other _ _ _ _ h,ih (by omega)]
   by_cases h1:j<k
   ·rw[if_pos h1,if_pos (by omega)]
   ·rw[if_neg h1,if_neg (by omega)]
theorem zCa (d:St) (n j:Nat) (hj:j<n):(front d n)[j]! = byteOf d j:=by
 unfold front
 rw[zJk d n n j (Nat.le_refl _) hj,if_pos hj]
theorem zFc (d:St) (n j:Nat) (hj:8*j+8≤n):wordOf (front d n) (8*j)=d[j]!:=by
 apply BitVec.eq_of_getLsbD_eq
 intro k hk
 unfold wordOf
 rw[zDu _ _ 8 k (Nat.le_refl _) hk,zCa d n _ (by omega)]
 unfold byteOf
 have e1:(8*j+k/8)/8=j:=by omega
 have e2:(8*j+k/8)%8=k/8:=by omega
 rw[low_bit _ _ (Nat.mod_lt _ (by decide)),BitVec.getLsbD_ushiftRight,e1,e2,show 8*(k/8)+k%8=k by omega]
 simp[hk]
theorem zKI (d:St) (hd:d.size=25):zBV (front d 200) zAV 25=d:=by
 have hz:zAV.size=25:=by simp[zAV]
 refine zJO _ _ (by rw[zAZ,hz]) hd (fun j hj=>?_)
 rw[zEb _ zAV hz 25 j (Nat.le_refl _) hj,if_pos hj,zBN j hj,zx,zFc d 200 j (by omega)]
theorem zHx (d:St) (hd:d.size=25):zCq (front d 200)=front (perm d) 200:=by
 unfold zCq
 rw[zKI d hd]
/-! ### The sponge, byte by byte -/
structure Sp where
  d : St
  p : Bs
  h : Nat
structure Ok (S:Sp):Prop where
 d25:S.d.size=25
 p136:S.p.size=136
 hlt:S.h<136
def zDa (S:Sp):Sp:={ d:=perm (zBV S.p S.d 17),p:=S.p,h:=0 }
def putB (S:Sp) (x:UInt8):Sp:=
 if S.h+1=136 then zDa { d:=S.d,p:=S.p.setIfInBounds S.h x,h:=S.h } else { d:=S.d,p:=S.p.setIfInBounds S.h x,h:=S.h+1 }
def zBq (S:Sp) (l:List UInt8):Sp:=l.foldl putB S
def splice (p:Bs):Nat→List UInt8→Bs
 | _,[]=>p
 | i,x :: r=>splice (p.setIfInBounds i x) (i+1) r
theorem zBj (S:Sp) (a b:List UInt8):zBq S (a++b)=zBq (zBq S a) b:=List.foldl_append
theorem zAL (p:Bs) (i:Nat) (l:List UInt8):(splice p i l).size=p.size:=by
 induction l generalizing p i with
 | nil=>rfl
 | cons x r ih=>rw[splice,ih,Array.size_setIfInBounds]
theorem zBz (p:Bs) (i:Nat) (l:List UInt8) (j:Nat) (hl:i+l.length≤p.size) (hj:j<p.size):(splice p i l)[j]! = if i≤j∧j<i+l.length then l[j-i]! else p[j]!:=by
 induction l generalizing p i with
 | nil=>simp[splice];omega
 | cons x r ih =>
  simp only[List.length_cons] at hl
  rw[splice,ih _ _ (by rw[Array.size_setIfInBounds];omega) (by rw[Array.size_setIfInBounds];exact hj)]
  by_cases h:j=i
  ·subst h
   rw[if_neg (by omega),getElem!_set_same _ _ _ hj,if_pos (by simp),Nat.sub_self]
   rfl
  ·rw[getElem!_set_other _ _ _ _ h]
   by_cases h1:i+1≤j∧j<i+1+r.length
   ·rw[if_pos h1,if_pos (by simp;omega),show j-i=(j-(i+1))+1 by omega]
    rfl
   ·rw[if_neg h1,if_neg (by simp;omega)]
theorem zCQ (d:St) (p:Bs) (h:Nat):zDa ⟨d,p,h⟩=⟨perm (zBV p d 17),p,0⟩:=by unfold zDa;rfl
theorem zN9 (S:Sp):(zDa S).d=perm (zBV S.p S.d 17):=by
 obtain ⟨d,p,h⟩:=S
 rw[zCQ]
theorem zN7 (S:Sp):(zDa S).p=S.p:=by
 obtain ⟨d,p,h⟩:=S
 rw[zCQ]
theorem zN8 (S:Sp):(zDa S).h=0:=by
 obtain ⟨d,p,h⟩:=S
 rw[zCQ]
theorem zN6 {S:Sp} (h1:S.d.size=25) (h2:S.p.size=136):Ok (zDa S):=by
 have hd:(zBV S.p S.d 17).size=25:=by rw[zAZ,h1]
 refine ⟨?_,by rw[zN7,h2],?_⟩
 ·rw[zN9]
  exact zED _ hd
 ·rw[zN8]
  decide
theorem zKl {S:Sp} (h:Ok S) (x:UInt8):Ok (putB S x):=by
 have:=h.hlt
 unfold putB
 by_cases e:S.h+1=136
 ·rw[if_pos e]
  exact zN6 h.d25 (by show (S.p.setIfInBounds _ _).size=136;rw[Array.size_setIfInBounds];exact h.p136)
 ·rw[if_neg e]
  exact ⟨h.d25,by show (S.p.setIfInBounds _ _).size=136;rw[Array.size_setIfInBounds];exact h.p136,by show S.h+1<136;omega⟩
theorem zBp {S:Sp} (h:Ok S) (l:List UInt8):Ok (zBq S l):=by
 induction l generalizing S with
 | nil=>exact h
 | cons x r ih=>exact ih (zKl h x)
theorem zP9 {S:Sp} (h:Ok S) (x:UInt8):(putB S x).h=(S.h+1)%136:=by
 have:=h.hlt
 unfold putB
 by_cases e:S.h+1=136
 ·rw[if_pos e,e];rfl
 ·rw[if_neg e,Nat.mod_eq_of_lt (by omega)]
theorem zJL {S:Sp} (h:Ok S) (l:List UInt8):(zBq S l).h=(S.h+l.length)%136:=by
 induction l generalizing S with
 | nil=>exact (Nat.mod_eq_of_lt h.hlt).symm
 | cons x r ih =>
  show (zBq (putB S x) r).h=_
  rw[ih (zKl h x),zP9 h x,List.length_cons]
  omega
theorem zCO (S:Sp) (l:List UInt8) (hl:l≠[]) (hle:S.h+l.length≤136) :
 zBq S l=if S.h+l.length=136 then zDa { d:=S.d,p:=splice S.p S.h l,h:=S.h } else { d:=S.d,p:=splice S.p S.h l,h:=S.h+l.length }:=by
 induction l generalizing S with
 | nil=>exact absurd rfl hl
 | cons x r ih =>
  show zBq (putB S x) r=_
  simp only[List.length_cons] at hle ⊢
  cases r with
  | nil =>
   unfold putB zBq splice
   simp only[List.foldl_nil,List.length_nil]
   by_cases e:S.h+1=136
   ·rw[if_pos e,if_pos (by omega)];rfl
   ·rw[if_neg e,if_neg (by omega)];rfl
  | cons y r' =>
   have e:¬ S.h+1=136:=by simp only[List.length_cons] at hle;omega
   have hp:putB S x = { d:=S.d,p:=S.p.setIfInBounds S.h x,h:=S.h+1 }:=by unfold putB;rw[if_neg e]
   rw[hp,ih _ (by simp) (by simp only[List.length_cons] at hle ⊢;omega)]
   simp only[splice,List.length_cons]
   by_cases e2:S.h+(r'.length+1+1)=136
   ·rw[if_pos (by omega),if_pos e2];rfl
   ·rw[if_neg (by omega),if_neg e2,show S.h+1+(r'.length+1)=S.h+(r'.length+1+1) by omega]
/-! ### The end -/
def ended (p : Bs) (h : Nat) (e : UInt8) : Bs:=
  let q:=(splice p h (List.replicate (136-h) 0)).setIfInBounds h e
  q.setIfInBounds 135 (q[135]! ^^^ 128)
def zFq (S:Sp) (e:UInt8):Sp:=zDa { d:=S.d,p:=ended S.p S.h e,h:=S.h }
def zBx (h:Nat) (e:UInt8):List UInt8:=
 (e :: List.replicate (135-h) 0).set (135-h) ((e :: List.replicate (135-h) 0)[135-h]! ^^^ 128)
theorem zA4 (h:Nat) (e:UInt8) (hh:h<136):(zBx h e).length=136-h:=by
 unfold zBx
 rw[List.length_set,List.length_cons,List.length_replicate]
 omega
theorem zID (a b:Bs) (n:Nat) (ha:a.size=n) (hb:b.size=n) (h:∀ j,j<n→a[j]! = b[j]!):a=b:=by
 apply Array.ext (by omega)
 intro i h1 h2
 have:=h i (by omega)
 rwa[getElem!_pos a i h1,getElem!_pos b i h2] at this
theorem zQd (h:Nat) (e:UInt8) (j:Nat) (hj:j<136-h) (hh:h<136):(zBx h e)[j]! = (if j=0 then e else 0) ^^^ (if j=135-h then 128 else 0):=by
 have hc:∀ j,j<136-h→(e :: List.replicate (135-h) (0:UInt8))[j]! = if j=0 then e else 0:=by
  intro j hj
  cases j with
  | zero=>rfl
  | succ j =>
   have hl:j+1<(e :: List.replicate (135-h) (0:UInt8)).length:=by rw[List.length_cons,List.length_replicate];omega
   rw[getElem!_pos (e :: List.replicate (135-h) (0:UInt8)) (j+1) hl]
   simp
 have hlen:(zBx h e).length=136-h:=zA4 h e hh
 have hl:j<(e :: List.replicate (135-h) (0:UInt8)).length:=by rw[List.length_cons,List.length_replicate];omega
 rw[getElem!_pos (zBx h e) j (by rw[hlen];exact hj)]
 unfold zBx
 rw[List.getElem_set]
 by_cases h1:135-h=j
 ·rw[if_pos h1,hc (135-h) (by omega),h1,if_pos (rfl:j=j)]
 ·rw[if_neg h1,if_neg (show ¬ j=135-h by omega)]
  have:=hc j hj
  rw[getElem!_pos (e :: List.replicate (135-h) (0:UInt8)) j hl] at this
  rw[this]
  simp
theorem zJm (p:Bs) (h:Nat) (e:UInt8):(ended p h e).size=p.size:=by
 unfold ended
 simp only[Array.size_setIfInBounds,zAL]
theorem zHm (n j:Nat) (h:j<n):(List.replicate n (0:UInt8))[j]! = 0:=by
 rw[getElem!_pos _ j (by simpa using h)]
 simp
theorem zMO (p:Bs) (h:Nat) (e:UInt8) (hp:p.size=136) (hh:h<136):ended p h e=splice p h (zBx h e):=by
 have hs:(splice p h (List.replicate (136-h) 0)).size=136:=by rw[zAL,hp]
 refine zID _ _ 136 (by rw[zJm,hp]) (by rw[zAL,hp]) (fun j hj=>?_)
 have hq:∀ j,j<136→((splice p h (List.replicate (136-h) 0)).setIfInBounds h e)[j]! = if j<h then p[j]! else if j=h then e else 0:=by
  intro j hj
  by_cases h1:j=h
  ·rw[h1,getElem!_set_same _ _ _ (by omega),if_neg (by omega),if_pos rfl]
  ·rw[getElem!_set_other _ _ _ _ h1,zBz _ _ _ _ (by rw[List.length_replicate,hp];omega) (by omega),List.length_replicate]
   by_cases h2:j<h
   ·rw[if_neg (by omega),if_pos h2]
   ·rw[if_pos (by omega),if_neg h2,if_neg h1,zHm _ _ (by omega)]
 have hR:(splice p h (zBx h e))[j]! = if j<h then p[j]! else (if j=h then e else 0) ^^^ (if j=135 then 128 else 0):=by
  rw[zBz _ _ _ _ (by rw[zA4 h e hh,hp];omega) (by omega),zA4 h e hh]
  by_cases h2:j<h
  ·rw[if_neg (show ¬ (h≤j∧j<h+(136-h)) by omega),if_pos h2]
  ·rw[if_pos (show h≤j∧j<h+(136-h) by omega),if_neg h2,zQd h e _ (by omega) hh]
   have e1:(j-h=0)=(j=h):=by apply propext;omega
   have e2:(j-h=135-h)=(j=135):=by apply propext;omega
   simp only[e1,e2]
 have hL:(ended p h e)[j]! = if j<h then p[j]! else (if j=h then e else 0) ^^^ (if j=135 then 128 else 0):=by
  unfold ended
  by_cases h135:j=135
  ·rw[h135,getElem!_set_same _ _ _ (by rw[Array.size_setIfInBounds,hs];decide),hq 135 (by decide),if_neg (show ¬ 135<h by omega),if_neg (show ¬ 135<h by omega),if_pos (rfl:135=135)]
  ·rw[getElem!_set_other _ _ _ _ h135,hq j hj]
   by_cases h2:j<h
   ·rw[if_pos h2,if_pos h2]
   ·rw[if_neg h2,if_neg h2,if_neg h135]
    simp
 rw[hL,hR]
theorem zGU {S:Sp} (h:Ok S) (e:UInt8):zFq S e=zBq S (zBx S.h e):=by
 have:=h.hlt
 have hl:=zA4 S.h e h.hlt
 rw[zCO S _ (by intro c;rw[c] at hl;simp at hl;omega) (by omega),if_pos (by omega)]
 unfold zFq
 rw[zMO _ _ _ h.p136 h.hlt]
end SP
namespace SP
open Go.RowKit Go.Sort Go.Deep
theorem Only.widen {b o n o' n':Nat} {w w':World} (h:Only b o n w w') (h1:o'≤o) (h2:o+n≤o'+n'):Only b o' n' w w':=
 ⟨h.os,h.tape,h.output,h.size,h.block,fun q hq=>h.cell q (by omega),h.froz⟩
structure HSp (w:World) (b:Nat) (S:Sp):Prop where
 d:Holds enc w b 0 S.d
 p:Holds encB w b 25 S.p
 h:w.cell? ⟨b,161,none⟩=some (.int .i64 (S.h:Int))
 f:w.frozen? ⟨b,161,none⟩=false
theorem HSp.drew {w:World} {b:Nat} {S:Sp} (h:HSp w b S):HSp w.drew b S:=⟨h.d,h.p,h.h,h.f⟩
theorem HSp.lt {w:World} {b:Nat} {S:Sp} (h:HSp w b S):b<w.heap.size:=World.block_lt_of_cell? _ _ h.h
theorem HSp.below {w w':World} {b B:Nat} {S:Sp} (h:HSp w b S) (k:Below B w w') (hb:b<B):HSp w' b S:=
 ⟨Holds.below h.d k hb,Holds.below h.p k hb,by rw[k.cell (p:=⟨b,161,none⟩) hb];exact h.h,by rw[k.frozen (p:=⟨b,161,none⟩) hb];exact h.f⟩
theorem zFO (b:Nat) (S:Sp) (w:World) (h25:S.d.size=25) (h136:S.p.size=136) (hS:HSp w b S) :
 Calls Tryz.prog 188 #[.pointer (some ⟨b,0,none⟩)] w fun e w'=>e=.returned (.tuple #[])∧Only b 0 162 w w'∧HSp w' b (zDa S):=by
 obtain ⟨d,p,h⟩:=S
 dsimp only at h25 h136
 have hD:Holds enc w b 0 d:=hS.d
 have hP:Holds encB w b 25 p:=hS.p
 have hc:=hS.h
 have hf:=hS.f
 dsimp only at hc
 rw[zCQ]
 clear hS
 have hps:(perm (zBV p d 17)).size=25:=zED _ (by rw[zAZ,h25])
 generalize hpm:perm (zBV p d 17)=pd at hps ⊢
 have HPM:Hid (perm (zBV p d 17)=pd):=hpm
 clear hpm
 go_enter Tryz.func188,Tryz.ntmps188
 go_wp2
 go_still_tail 7,mixed
 go_wp2_with fail
 refine (zO3 b 0 b 25 136 136 p d _ h25 (Holds.drew hD) (Holds.drew hP) h136 (by decide) (Nat.le_refl _) (by omega)).mono ?_
 rintro e w1 ⟨rfl,hO1,hD1⟩
 have hO1':Only b 0 25 w w1:=((Only.refl b 0 25 w).drew).trans hO1
 have hD1':Holds enc w1 b 0 (zBV p d 17):=hD1
 have hP1:=Holds.same hP hO1' (by omega)
 have c1:w1.cell? ⟨b,161,none⟩=some (.int .i64 h):=by rw[hO1'.cell 161 (by omega)];exact hc
 have f1:w1.frozen? ⟨b,161,none⟩=false:=by rw[hO1'.froz];exact hf
 clear hO1 hD1
 go_wp2_with fail
 refine (zEC b 0 _ _ (by rw[zAZ,h25]) hD1').mono ?_
 rintro e w2 ⟨rfl,hO2,hD2⟩
 rw[HPM.out] at hD2
 have hP2:=Holds.same hP1 hO2 (by omega)
 have c2:w2.cell? ⟨b,161,none⟩=some (.int .i64 h):=by rw[hO2.cell 161 (by omega)];exact c1
 have f2:w2.frozen? ⟨b,161,none⟩=false:=by rw[hO2.froz];exact f1
 go_wp2
 go_end0
 have hO3:Only b 161 1 w2 (w2.setCell ⟨b,161,none⟩ (.int .i64 0)):=(Only.refl b 161 1 w2).setCell (by omega) (by omega) _
 have hD3:Holds enc _ b 0 pd:=Holds.same hD2 hO3 (Or.inl (by omega))
 have hP3:Holds encB _ b 25 p:=Holds.same hP2 hO3 (Or.inl (by omega))
 exact ⟨rfl,((hO1'.trans hO2).widen (Nat.le_refl _) (by omega)).trans (hO3.widen (by omega) (by omega)),⟨hD3,hP3,World.cell?_setCell_same _ _ _ c2,by rw[World.frozen?_setCell];exact f2⟩⟩
end SP
namespace SP
open Go.RowKit Go.Sort Go.Deep
theorem ints5:(Tryz.prog.info? 5).map (·.size)=some 1:=by kernel_rfl
theorem zBm {w:World} {b o:Nat} {p:Bs} (h:Holds encB w b o p) (i:Nat) (l:List UInt8) (hi:i+l.length≤p.size):Holds encB (w.setCells b (o+i) (l.map encB)) b o (splice p i l):=by
 refine Holds.setCells h _ i (zAL p i l) (by rw[List.length_map];exact hi) (fun j hj=>?_) (fun j hj hout=>?_)
 ·rw[List.length_map] at hj
  rw[zBz p i l (i+j) hi (by omega),if_pos (by omega),Nat.add_sub_cancel_left,getElem!_pos l j hj,List.getElem_map]
 ·rw[List.length_map] at hout
  rw[zBz p i l j hi hj,if_neg (by omega)]
def piece (bs:Bs) (k n:Nat):List UInt8:=(bs.toList.drop k).take n
theorem zDR (bs:Bs) (k n:Nat) (h:k+n≤bs.size):(piece bs k n).length=n:=by
 unfold piece
 rw[List.length_take,List.length_drop,Array.length_toList]
 omega
theorem piece_at (bs:Bs) (k n j:Nat) (h:k+n≤bs.size) (hj:j<n) (hl:j<(piece bs k n).length):(piece bs k n)[j]=bs[k+j]!:=by
 have e:(piece bs k n)[j]? = some bs[k+j]!:=by
  unfold piece
  rw[List.getElem?_take_of_lt hj,List.getElem?_drop,Array.getElem?_toList,Array.getElem?_eq_getElem (by omega),getElem!_pos bs (k+j) (by omega)]
 exact (List.getElem?_eq_some_iff.1 e).2
theorem zIN (bs:Bs) (k n:Nat):bs.toList.take (k+n)=bs.toList.take k++piece bs k n:=List.take_add
theorem zJn {w:World} {b h sb o len cap n:Nat} {p bs:Bs} {k:Nat} (hP:Holds encB w b 25 p) (hp:p.size=136) (hB:Holds encB w sb o bs) (hh:h<136) (hk:k+len≤bs.size) (hn:Nat.min len (136-h)=n) :
 (Builtin.copy_ #[22,22] 3 #[.slice (some ⟨b,25+h,none⟩) (136-h) (136-h),.slice (some ⟨sb,o+k,none⟩) len cap]).run Tryz.prog w=.ok (goInt n) (w.setCells b (25+h) ((piece bs k n).map encB)):=by
 have hnl:n≤len:=by rw[← hn];exact Nat.min_le_left _ _
 have hnh:n≤136-h:=by rw[← hn];exact Nat.min_le_right _ _
 have hlen:((piece bs k n).map encB).length=n:=by rw[List.length_map,zDR bs k n (by omega)]
 have:=run_copy_cells (P:=Tryz.prog) w 22 22 3 5 b (25+h) (136-h) (136-h) ⟨sb,o+k,none⟩ len cap ((piece bs k n).map encB) slice22 ints5 (by rw[hlen,hn])
  (fun j v hj=>by
   obtain ⟨h1,h2⟩:=List.getElem?_eq_some_iff.1 hj
   rw[hlen] at h1
   have hc:=(hB (k+j) (by omega)).1
   rw[List.getElem_map,piece_at bs k n j (by omega) h1] at h2
   have e1:(⟨sb,o+k,none⟩:Addr).add j=⟨sb,o+(k+j),none⟩:=by
    unfold Addr.add
    by_cases h0:j=0
    ·subst h0;rw[if_pos rfl];rfl
    ·rw[if_neg h0,Nat.add_assoc]
   rw[e1,hc,h2])
  (fun j hj=>by
   rw[hlen] at hj
   have:=(hP (h+j) (by omega)).1
   rw[← Nat.add_assoc] at this
   rw[this];rfl)
  (fun j hj=>by
   rw[hlen] at hj
   have:=(hP (h+j) (by omega)).2
   rw[← Nat.add_assoc] at this
   exact this)
  (fun v hv=>by
   obtain ⟨x,_,rfl⟩:=List.mem_map.1 hv
   rfl)
 rw[hlen] at this
 exact this
theorem zEc {w:World} {b:Nat} {d:St} {p:Bs} {v:Value} (hD:Holds enc w b 0 d) (h25:d.size=25) (hP:Holds encB w b 25 p) (h136:p.size=136) (hc:w.cell? ⟨b,161,none⟩=some v) (hf:w.frozen? ⟨b,161,none⟩=false) (m:Nat) :
 HSp (w.setCell ⟨b,161,none⟩ (.int .i64 ((m:Nat):Int))) b ⟨d,p,m⟩:=by
 have hO:Only b 161 1 w (w.setCell ⟨b,161,none⟩ (.int .i64 ((m:Nat):Int))):=(Only.refl b 161 1 w).setCell (by omega) (by omega) _
 have hD3:Holds enc _ b 0 d:=Holds.same hD hO (Or.inl (by omega))
 have hP3:Holds encB _ b 25 p:=Holds.same hP hO (Or.inl (by omega))
 exact ⟨hD3,hP3,World.cell?_setCell_same _ _ _ hc,by rw[World.frozen?_setCell];exact hf⟩
theorem take_any (b:Nat) (S:Sp) (a:Option Addr) (sb so len cap:Nat) (bs:Bs) (w:World) (hok:Ok S) (hS:HSp w b S) (hl:bs.size=len) (hcap:len≤cap) (hbig:len≤1099511627776)
 (hsrc:len=0∨(a=some ⟨sb,so,none⟩∧sb≠b∧Holds encB w sb so bs)) :
 Calls Tryz.prog 185 #[.pointer (some ⟨b,0,none⟩),.slice a len cap] w fun e w'=>e=.returned (.tuple #[])∧Only b 0 162 w w'∧HSp w' b (zBq S bs.toList):=by
 go_enter Tryz.func185,Tryz.ntmps185
 go_wp2
 go_loopg [1] len (fun g s1 wr=>∃ (k:Nat) (a':Option Addr) (Sk:Sp),k+g=len∧s1=.slice a' (len-k) (cap-k)∧(k<len→a'=some ⟨sb,so+k,none⟩)∧HSp wr b Sk∧Only b 0 162 w wr∧Hid (Sk=zBq S (bs.toList.take k)))
 case atStart =>
  refine ⟨0,a,S,by omega,rfl,fun h0=>?_,hS,Only.refl _ _ _ _,rfl⟩
  rcases hsrc with h|⟨h,_,_⟩
  ·omega
  ·exact h
 case round =>
  obtain ⟨k,a',Sk,hk,rfl,ha',hSk,hO,HE⟩:=hrel
  by_cases hlt:k<len
  ·have e1:=ha' hlt
   subst e1
   obtain ⟨_,hne,hB⟩:a=some ⟨sb,so,none⟩∧sb≠b∧Holds encB w sb so bs:=by
    rcases hsrc with h|h
    ·omega
    ·exact h
   have hBr:=Holds.other hB hO hne (by omega)
   have hokk:Ok Sk:=by rw[HE.out];exact zBp hok _
   obtain ⟨q,hh⟩:∃ q,Sk.h=q:=⟨_,rfl⟩
   have hlt136:=hokk.hlt
   have hsz:=hokk.p136
   rw[hh] at hlt136
   have hc:=hSk.h
   have hf:=hSk.f
   rw[hh] at hc
   have hP:=hSk.p
   obtain ⟨n,hn⟩:∃ n,Nat.min (len-k) (136-q)=n:=⟨_,rfl⟩
   have l0:(0:Int)<((len-k:Nat):Int):=by omega
   have hh136:(q:Int)≤136:=by omega
   have Hh:Hid (Sk.h=q):=hh
   clear hh
   have hne136:(136=q)=False:=eq_false (by omega)
   have hn1:1≤n:=by rw[← hn];exact (Nat.le_min).2 ⟨by omega,by omega⟩
   have hnl:n≤len-k:=by rw[← hn];exact Nat.min_le_left _ _
   have hnh:n≤136-q:=by rw[← hn];exact Nat.min_le_right _ _
   have hcp:=zJn (w:=wr.drew) (cap:=cap-k) (k:=k) hP hsz hBr hlt136 (by omega) hn
   have hpl:=zDR bs k n (by omega)
   have hP1:=zBm (Holds.drew hP) q (piece bs k n) (by omega)
   have hO1:Only b 0 162 w (wr.drew.setCells b (25+q) ((piece bs k n).map encB)):=hO.drew.setCells _ _ (by omega) (by rw[List.length_map];omega)
   have hOx:Only b 25 136 wr (wr.drew.setCells b (25+q) ((piece bs k n).map encB)):=((Only.refl b 25 136 wr).drew).setCells _ _ (by omega) (by rw[List.length_map];omega)
   have hD1:=Holds.same hSk.d hOx (Or.inl (by rw[hokk.d25];omega))
   have c1:(wr.drew.setCells b (25+q) ((piece bs k n).map encB)).cell? ⟨b,161,none⟩=some (.int .i64 q):=by rw[hOx.cell 161 (by omega)];exact hc
   have f1:(wr.drew.setCells b (25+q) ((piece bs k n).map encB)).frozen? ⟨b,161,none⟩=false:=by rw[hOx.froz];exact hf
   have HT:Hid (zBq S (bs.toList.take (k+n))=zBq Sk (piece bs k n)):=by
    show _=_
    rw[zIN,zBj,← HE.out]
   have HCH:Hid (zBq Sk (piece bs k n)=if q+n=136 then zDa ⟨Sk.d,splice Sk.p q (piece bs k n),q⟩ else ⟨Sk.d,splice Sk.p q (piece bs k n),q+n⟩):=by
    show _=_
    have:=zCO Sk (piece bs k n) (by intro e;rw[e] at hpl;simp at hpl;omega) (by rw[hpl,Hh.out];omega)
    rw[hpl,Hh.out] at this
    exact this
   have hss:(splice Sk.p q (piece bs k n)).size=136:=by rw[zAL,hsz]
   have hds:=hokk.d25
   generalize hW1:wr.drew.setCells b (25+q) ((piece bs k n).map encB)=W1 at hcp hP1 hO1 hD1 c1 f1
   generalize splice Sk.p q (piece bs k n)=sp at hP1 hss HCH
   generalize Sk.d=sd at hD1 hds HCH
   clear hOx hW1 hP hBr hokk hpl hSk hsz hn
   have z1:(n:Int)≤((len-k:Nat):Int):=by omega
   by_cases hcn:cap-k=n
   ·have hcn':(cap-k=n)=True:=eq_true hcn
    have HCN:Hid (cap-k=n):=hcn
    clear hcn
    by_cases hfull:q+n=136
    ·have hb:((q:Int)+(n:Int) == 136)=true:=beq_iff_eq.2 (by omega)
     rw[if_pos hfull] at HCH
     go_wp2_with fail
     go_still_tail 9,mixed
     go_wp2_with fail
     refine (zFO b ⟨sd,sp,q+n⟩ _ hds hss (zEc hD1 hds hP1 hss c1 f1 (q+n))).mono ?_
     rintro e w2 ⟨rfl,hO2,hS2⟩
     go_wp2
     go_roundg (gk-n)
     case measure=>omega
     case rel =>
      refine ⟨k+n,some ⟨sb,so+k,none⟩,zDa ⟨sd,sp,q⟩,by omega,by rw[Nat.sub_sub,Nat.sub_sub],fun hx=>by have:=HCN.out;omega,?_,?_,?_⟩
      ·rw[zCQ] at hS2 ⊢
       exact hS2
      ·exact (hO1.setCell (o:=161) (by omega) (by omega) _).trans hO2
      ·rw[HT.out,HCH.out];rfl
    ·have hb:((q:Int)+(n:Int) == 136)=false:=beq_eq_false_iff_ne.2 (by omega)
     rw[if_neg hfull] at HCH
     go_wp2_with fail
     go_still_tail 9,mixed
     go_wp2
     go_roundg (gk-n)
     case measure=>omega
     case rel =>
      refine ⟨k+n,some ⟨sb,so+k,none⟩,⟨sd,sp,q+n⟩,by omega,by rw[Nat.sub_sub,Nat.sub_sub],fun hx=>by have:=HCN.out;omega,?_,?_,?_⟩
      ·exact zEc hD1 hds hP1 hss c1 f1 (q+n)
      ·exact hO1.setCell (o:=161) (by omega) (by omega) _
      ·rw[HT.out,HCH.out];rfl
   ·have hcn':(cap-k=n)=False:=eq_false hcn
    by_cases hfull:q+n=136
    ·have hb:((q:Int)+(n:Int) == 136)=true:=beq_iff_eq.2 (by omega)
     rw[if_pos hfull] at HCH
     go_wp2_with fail
     go_still_tail 9,mixed
     go_wp2_with fail
     refine (zFO b ⟨sd,sp,q+n⟩ _ hds hss (zEc hD1 hds hP1 hss c1 f1 (q+n))).mono ?_
     rintro e w2 ⟨rfl,hO2,hS2⟩
     go_wp2
     go_roundg (gk-n)
     case measure=>omega
     case rel =>
      refine ⟨k+n,some ⟨sb,so+k+n,none⟩,zDa ⟨sd,sp,q⟩,by omega,by rw[Nat.sub_sub,Nat.sub_sub],fun _=>by rw[Nat.add_assoc],?_,?_,?_⟩
      ·rw[zCQ] at hS2 ⊢
       exact hS2
      ·exact (hO1.setCell (o:=161) (by omega) (by omega) _).trans hO2
      ·rw[HT.out,HCH.out];rfl
    ·have hb:((q:Int)+(n:Int) == 136)=false:=beq_eq_false_iff_ne.2 (by omega)
     rw[if_neg hfull] at HCH
     go_wp2_with fail
     go_still_tail 9,mixed
     go_wp2
     go_roundg (gk-n)
     case measure=>omega
     case rel =>
      refine ⟨k+n,some ⟨sb,so+k+n,none⟩,⟨sd,sp,q+n⟩,by omega,by rw[Nat.sub_sub,Nat.sub_sub],fun _=>by rw[Nat.add_assoc],?_,?_,?_⟩
      ·exact zEc hD1 hds hP1 hss c1 f1 (q+n)
      ·exact hO1.setCell (o:=161) (by omega) (by omega) _
      ·rw[HT.out,HCH.out];rfl
  ·have hk0:k=len:=by omega
   have l0:¬ (0:Int)<((len-k:Nat):Int):=by omega
   go_wp2
   go_end0
   refine ⟨rfl,hO,?_⟩
   have e1:bs.toList.take k=bs.toList:=List.take_of_length_le (by rw[Array.length_toList];omega)
   rw[HE.out,e1] at hSk
   exact hSk
end SP
namespace SP
open Go.RowKit Go.Sort Go.Deep
theorem zDT (x:UInt8):BitVec.ofInt 8 (x.toNat:Int)=x.toBitVec:=by
 apply BitVec.eq_of_toNat_eq
 rw[BitVec.ofInt_natCast,BitVec.toNat_ofNat]
 exact Nat.mod_eq_of_lt x.toNat_lt
theorem zG3 (x y:UInt8):bits .xor .u8 (ub x) (ub y)=ub (x ^^^ y):=by
 show IntKind.u8.wrap ((BitVec.ofInt 8 (x.toNat:Int) ^^^ BitVec.ofInt 8 (y.toNat:Int)).toNat:Int)=_
 rw[zDT,zDT,← UInt8.toBitVec_xor]
 have h:((x ^^^ y).toNat:Int)<256:=by have:=(x ^^^ y).toNat_lt;omega
 have e:∀ n:Int,IntKind.u8.wrap n=n%256:=fun n=>by simp[IntKind.wrap,IntKind.bits,IntKind.signed]
 rw[e]
 exact Int.emod_eq_of_lt (Int.natCast_nonneg _) h
theorem zPz (x:UInt8):bits .xor .u8 (ub x) 128=ub (x ^^^ 128):=zG3 x 128
theorem zRs:∀ w:World,(zeroValue 5).run Tryz.prog w=.ok (.int .u8 0) w:=fun _=>by kernel_rfl
theorem zHT {w:World} {b q:Nat} {p:Bs} (hP:Holds encB w b 25 p) (hp:p.size=136) (hq:q<136) (ty:TypeId) :
 (Builtin.clear_ #[22] ty #[.slice (some ⟨b,25+q,none⟩) (136-q) (136-q)]).run Tryz.prog w=.ok (.tuple #[]) (w.setCells b (25+q) ((List.replicate (136-q) (0:UInt8)).map encB)):=by
 have h:=Lib.run_clear_slice (P:=Tryz.prog) w 22 5 ty (.int .u8 0) slice22 zRs rfl rfl b (25+q) (136-q) (136-q) (by omega)
  (fun j hj=>by
   have:=(hP (q+j) (by omega)).1
   rw[← Nat.add_assoc] at this
   rw[this];rfl)
  (fun j hj=>by
   have:=(hP (q+j) (by omega)).2
   rw[← Nat.add_assoc] at this
   exact this)
 rw[List.map_replicate]
 exact h
theorem zK2 (b:Nat) (S:Sp) (e:UInt8) (w:World) (hok:Ok S) (hS:HSp w b S) :
 Calls Tryz.prog 140 #[.pointer (some ⟨b,0,none⟩),.int .u8 (ub e)] w fun r w'=>r=.returned (.tuple #[])∧Only b 0 162 w w'∧HSp w' b (zFq S e):=by
 obtain ⟨d,p,q⟩:=S
 have h25:d.size=25:=hok.d25
 have h136:p.size=136:=hok.p136
 have hq:q<136:=hok.hlt
 have hD:Holds enc w b 0 d:=hS.d
 have hP:Holds encB w b 25 p:=hS.p
 have hc:w.cell? ⟨b,161,none⟩=some (.int .i64 q):=hS.h
 have hf:=hS.f
 have hcl:=zHT (Holds.drew hP) h136 hq 0
 have hOx:Only b 25 136 w (w.drew.setCells b (25+q) ((List.replicate (136-q) (0:UInt8)).map encB)):=((Only.refl b 25 136 w).drew).setCells _ _ (by omega) (by rw[List.length_map,List.length_replicate];omega)
 have hP1:=zBm (Holds.drew hP) q (List.replicate (136-q) (0:UInt8)) (by rw[List.length_replicate];omega)
 have hs1:(splice p q (List.replicate (136-q) 0)).size=136:=by rw[zAL,h136]
 have HF:Hid (zFq ⟨d,p,q⟩ e=zDa ⟨d,((splice p q (List.replicate (136-q) 0)).setIfInBounds q e).setIfInBounds 135 (((splice p q (List.replicate (136-q) 0)).setIfInBounds q e)[135]! ^^^ 128),q⟩):=by
  show _=_
  unfold zFq ended
  rfl
 generalize w.drew.setCells b (25+q) ((List.replicate (136-q) (0:UInt8)).map encB)=W1 at hcl hOx hP1
 generalize splice p q (List.replicate (136-q) 0)=sp at hP1 hs1 HF
 have hne136:(136=q)=False:=eq_false (by omega)
 have hq136:(q:Int)≤136:=by omega
 have hq136':(q:Int)<136:=by omega
 have c1:W1.cell? ⟨b,161,none⟩=some (.int .i64 q):=by rw[hOx.cell 161 (by omega)];exact hc
 obtain ⟨c2,f2⟩:=hP1 q (by omega)
 obtain ⟨sp2,hsp2⟩:∃ s,sp.setIfInBounds q e=s:=⟨_,rfl⟩
 rw[hsp2] at HF
 have hs2:sp2.size=136:=by rw[← hsp2,Array.size_setIfInBounds,hs1]
 obtain ⟨x,hx⟩:∃ x,sp2[135]! = x:=⟨_,rfl⟩
 rw[hx] at HF
 have hx80:=zPz x
 have hP2:=Holds.set hP1 (i:=q) (by omega) e
 rw[hsp2] at hP2
 have hO2:Only b 25 136 w (W1.setCell ⟨b,25+q,none⟩ (.int .u8 (ub e))):=hOx.setCell (o:=25+q) (by omega) (by omega) _
 have hP2':Holds encB (W1.setCell ⟨b,25+q,none⟩ (.int .u8 (ub e))) b 25 sp2:=hP2
 have HX:Hid (sp2[135]! = x):=hx
 rw[HF.out]
 clear hS hok hP hsp2 hx hP2 HF
 have hs3:(sp2.setIfInBounds 135 (x ^^^ 128)).size=136:=by rw[Array.size_setIfInBounds,hs2]
 go_enter Tryz.func140,Tryz.ntmps140
 go_wp2
 go_still_tail 8,mixed
 go_wp2_with fail
 go_region
 go_wp2_with fail
 generalize W1.setCell ⟨b,25+q,none⟩ (.int .u8 (ub e))=W2 at hP2' hO2 ⊢
 obtain ⟨c3,f3⟩:=zE0 hP2' 135 (by omega) HX.out
 clear c1 c2 f2 hcl hP1
 go_region
 go_wp2_with fail
 have hP3:=Holds.set hP2' (i:=135) (by omega) (x ^^^ 128)
 have hO3:Only b 25 136 w (W2.setCell ⟨b,160,none⟩ (.int .u8 (ub (x ^^^ 128)))):=hO2.setCell (o:=160) (by omega) (by omega) _
 have hP3':Holds encB (W2.setCell ⟨b,160,none⟩ (.int .u8 (ub (x ^^^ 128)))) b 25 (sp2.setIfInBounds 135 (x ^^^ 128)):=hP3
 generalize W2.setCell ⟨b,160,none⟩ (.int .u8 (ub (x ^^^ 128)))=W3 at hP3' hO3 ⊢
 have hD3:Holds enc W3 b 0 d:=Holds.same hD hO3 (Or.inl (by omega))
 have hS3:HSp W3 b ⟨d,sp2.setIfInBounds 135 (x ^^^ 128),q⟩:=⟨hD3,hP3',by rw[hO3.cell 161 (by omega)];exact hc,by rw[hO3.froz];exact hf⟩
 refine (zFO b ⟨d,sp2.setIfInBounds 135 (x ^^^ 128),q⟩ _ h25 hs3 hS3.drew.drew).mono ?_
 rintro r w4 ⟨rfl,hO4,hS4⟩
 go_wp2
 go_end0
 exact ⟨rfl,(hO3.drew.drew.widen (by omega) (by omega)).trans hO4,hS4⟩
end SP
namespace SP
open Go.Sort
def zA8 (d:St):Nat→St
 | 0=>d
 | m+1=>perm (zA8 d m)
theorem zAR (d:St) (hd:d.size=25) (m:Nat):(zA8 d m).size=25:=by
 induction m with
 | zero=>exact hd
 | succ m ih=>exact zED _ ih
def zAT (d:St) (j:Nat):UInt8:=byteOf (zA8 d (j/136)) (j%136)
def zBy (d:St) (n:Nat):Bs:=Array.ofFn (fun i:Fin n=>zAT d i.val)
theorem zBk (d:St) (n:Nat):(zBy d n).size=n:=by simp[zBy]
theorem zDx (d:St) (n j:Nat) (hj:j<n):(zBy d n)[j]! = zAT d j:=by
 rw[getElem!_pos (zBy d n) j (by rw[zBk];exact hj)]
 simp[zBy]
def S0:Sp:=⟨zAV,Array.replicate 136 0,0⟩
theorem zGj:Ok S0:=⟨by simp[S0,zAV],by simp[S0],by decide⟩
def zB1 (l:List UInt8) (e:UInt8):St:=(zFq (zBq S0 l) e).d
theorem zC4 (l:List UInt8) (e:UInt8):(zB1 l e).size=25:=by
 unfold zB1
 have h:=zBp zGj l
 rw[zGU h]
 exact (zBp h _).d25
def zJj (l:List UInt8):Bs:=front (zB1 l 6) 32
def zD1 (l:List UInt8) (n:Nat):Bs:=zBy (zB1 l 31) n
theorem zHM (l:List UInt8):zJj l=zBy (zB1 l 6) 32:=by
 unfold zJj
 refine zID _ _ 32 (zAl _ _) (zBk _ _) (fun j hj=>?_)
 rw[zCa _ _ _ hj,zDx _ _ _ hj]
 unfold zAT
 rw[Nat.div_eq_of_lt (by omega),Nat.mod_eq_of_lt (by omega)]
 rfl
/-! ### The reference: all bytes with what stands behind them, piece by piece -/
def total (l : List UInt8) (e : UInt8) : List UInt8:=l ++ zBx (l.length%136) e
theorem zDJ (l:List UInt8) (e:UInt8):(total l e).length=136*(l.length/136+1):=by
 unfold total
 rw[List.length_append,zA4 _ _ (Nat.mod_lt _ (by decide))]
 omega
theorem zG8 (l:List UInt8) (e:UInt8):zB1 l e=(zBq S0 (total l e)).d:=by
 unfold zB1 total
 have h:=zBp zGj l
 have hh:=zJL zGj l
 rw[zBj,zGU h,hh]
 have:S0.h=0:=rfl
 rw[this,Nat.zero_add]
def xorB (st:Bs) (T:List UInt8) (o:Nat):Nat→Bs
 | 0=>st
 | k+1=>(xorB st T o k).setIfInBounds k ((xorB st T o k)[k]! ^^^ T[o+k]!)
theorem zGn (st:Bs) (T:List UInt8) (o k:Nat):(xorB st T o k).size=st.size:=by
 induction k with
 | zero=>rfl
 | succ k ih=>rw[xorB,Array.size_setIfInBounds,ih]
theorem zNM (st:Bs) (T:List UInt8) (o k j:Nat) (hk:k≤st.size) (hj:j<st.size):(xorB st T o k)[j]! = if j<k then st[j]! ^^^ T[o+j]! else st[j]!:=by
 induction k with
 | zero=>rfl
 | succ k ih =>
  rw[xorB]
  by_cases h:j=k
  ·subst h
   rw[getElem!_set_same _ _ _ (by rw[zGn];exact hj),ih (by omega),if_neg (by omega),if_pos (by omega)]
  ·rw[getElem!_set_other _ _ _ _ h,ih (by omega)]
   by_cases h1:j<k
   ·rw[if_pos h1,if_pos (by omega)]
   ·rw[if_neg h1,if_neg (by omega)]
def zDb (T:List UInt8):Nat→Bs
 | 0=>Array.replicate 200 0
 | i+1=>zCq (xorB (zDb T i) T (136*i) 136)
theorem zIK:front zAV 200=Array.replicate 200 0:=by
 refine zID _ _ 200 (zAl _ _) (by rw[Array.size_replicate]) (fun j hj=>?_)
 have h':j<(Array.replicate 200 (0:UInt8)).size:=by rw[Array.size_replicate];exact hj
 rw[zCa _ _ _ hj,getElem!_pos (Array.replicate 200 (0:UInt8)) j h',Array.getElem_replicate]
 unfold byteOf
 rw[zBN _ (by omega)]
 unfold low
 simp
theorem zNL (x y:UInt8) (i:Nat):(x ^^^ y).toNat.testBit i=(x.toNat.testBit i ^^ y.toNat.testBit i):=by
 rw[UInt8.toNat_xor,Nat.testBit_xor]
theorem zO2 (d:St) (hd:d.size=25) (p:Bs) (T:List UInt8) (o:Nat) (hp:∀ j,j<136→p[j]! = T[o+j]!) :
 zBV (xorB (front d 200) T o 136) zAV 25=zBV p d 17:=by
 have hz:zAV.size=25:=by simp[zAV]
 refine zJO _ _ (by rw[zAZ,hz]) (by rw[zAZ,hd]) (fun j hj=>?_)
 rw[zEb _ zAV hz 25 j (Nat.le_refl _) hj,if_pos hj,zBN j hj,zx,zEb _ d hd 17 j (by decide) hj]
 apply BitVec.eq_of_getLsbD_eq
 intro k hk
 have hb:∀ m,m<200→(xorB (front d 200) T o 136)[m]! = if m<136 then (front d 200)[m]! ^^^ T[o+m]! else (front d 200)[m]!:=fun m hm =>
  zNM _ _ _ _ _ (by rw[zAl];decide) (by rw[zAl];exact hm)
 have hw:=congrArg (fun v=>v.getLsbD k) (zFc d 200 j (by omega))
 simp only[wordOf] at hw ⊢
 rw[zDu _ _ 8 k (Nat.le_refl _) hk] at hw ⊢
 rw[hb _ (by omega)]
 by_cases h17:j<17
 ·rw[if_pos (by omega),if_pos h17,BitVec.getLsbD_xor,← hw,zDu _ _ 8 k (Nat.le_refl _) hk,zNL,hp _ (by omega)]
  simp[hk]
 ·rw[if_neg (by omega),if_neg h17,← hw]
theorem zIO (T:List UInt8) (i:Nat):T.take (136*(i+1))=T.take (136*i)++(T.drop (136*i)).take 136:=by
 rw[show 136*(i+1)=136*i+136 by omega,List.take_add]
theorem zMb (T:List UInt8) (i:Nat) (h:136*i≤T.length):zDb T i=front (zBq S0 (T.take (136*i))).d 200:=by
 induction i with
 | zero =>
  rw[Nat.mul_zero,List.take_zero]
  exact zIK.symm
 | succ i ih =>
  rw[zDb,ih (by omega),zIO T i,zBj]
  have hok:=zBp zGj (T.take (136*i))
  have hh:(zBq S0 (T.take (136*i))).h=0:=by
   rw[zJL zGj,List.length_take,Nat.min_eq_left (by omega)]
   have:S0.h=0:=rfl
   omega
  generalize zBq S0 (T.take (136*i))=S at hok hh
  obtain ⟨d,p,q⟩:=S
  have hd:d.size=25:=hok.d25
  have hp:p.size=136:=hok.p136
  have hq:q=0:=hh
  subst hq
  have hl:((T.drop (136*i)).take 136).length=136:=by rw[List.length_take,List.length_drop];omega
  rw[zCO _ _ (by intro e;rw[e] at hl;simp at hl) (by rw[hl];exact Nat.le_refl _),hl,if_pos rfl,zCQ]
  unfold zCq
  rw[zO2 d hd (splice p 0 ((T.drop (136*i)).take 136)) T (136*i)]
  intro j hj
  rw[zBz _ _ _ _ (by rw[hl,hp];decide) (by omega),if_pos (by omega),Nat.sub_zero,getElem!_pos _ j (by rw[hl];exact hj),getElem!_pos T (136*i+j) (by omega)]
  rw[List.getElem_take,List.getElem_drop]
theorem zHn (l:List UInt8) (e:UInt8):zDb (total l e) (l.length/136+1)=front (zB1 l e) 200:=by
 have h:=zDJ l e
 rw[zMb _ _ (by omega),zG8,List.take_of_length_le (by omega)]
end SP
namespace SP
open Go.RowKit Go.Sort Go.Deep
theorem zC3 {w:World} {g l cap r k n c:Nat} {cur bs:Bs} (hC:Holds encB w g 0 cur) (hs:cur.size=cap) (hB:Holds encB w r 0 bs) (hk:bs.size=n) (hk2:k=n) (hroom:l+n≤cap) (ty:TypeId) :
 (Builtin.append_ #[22,22] ty #[.slice (some ⟨g,0,none⟩) l cap,.slice (some ⟨r,0,none⟩) k c]).run Tryz.prog w=.ok (.slice (some ⟨g,0,none⟩) (l+n) cap) (w.setCells g l (bs.toList.map encB)):=by
 subst hk2
 obtain ⟨i,hi,_,hsz,_⟩:=info_parts info5
 have hlen:(bs.toList.map encB).length=k:=by rw[List.length_map,Array.length_toList,hk]
 have hsrc:Src Tryz.prog i.size 22 (.slice (some ⟨r,0,none⟩) k c) k (bs.toList.map encB) w:=by
  rw[hsz]
  refine Src.ofSlice w slice22 ⟨r,0,none⟩ k c _ (by rw[hlen,Nat.mul_one]) (fun j v hj=>?_) (fun v hv=>?_)
  ·obtain ⟨h1,h2⟩:=List.getElem?_eq_some_iff.1 hj
   rw[hlen] at h1
   have hc:=(hB j (by omega)).1
   rw[getElem!_pos bs j (by omega)] at hc
   rw[List.getElem_map,Array.getElem_toList] at h2
   have e1:(⟨r,0,none⟩:Addr).add j=⟨r,0+j,none⟩:=by
    unfold Addr.add
    by_cases h0:j=0
    ·subst h0;rw[if_pos rfl]
    ·rw[if_neg h0]
   rw[e1,hc,h2]
  ·obtain ⟨x,_,rfl⟩:=List.mem_map.1 hv
   rfl
 have h:=run_append_room_src (P:=Tryz.prog) w 22 22 ty 5 i slice22 hi g 0 l cap (.slice (some ⟨r,0,none⟩) k c) k _ hsrc hroom
  (fun j hj=>by
   rw[hlen] at hj
   rw[hsz,Nat.mul_one,Nat.add_assoc,(hC (l+j) (by omega)).1];rfl)
  (fun j hj=>by
   rw[hlen] at hj
   rw[hsz,Nat.mul_one,Nat.add_assoc]
   exact (hC (l+j) (by omega)).2)
 rw[hsz,Nat.mul_one,Nat.zero_add] at h
 exact h
theorem Only.with_new {b o n g m p:Nat} {w w1 w2:World} (h:Only b o n w w1) (k:Only g p m w1 w2) (hg:w.heap.size≤g) (hb:b<w.heap.size):Only b o n w w2:=by
 have hs:=h.size
 have e:=k.block b (by omega) (by omega)
 exact ⟨k.os.trans h.os,k.tape.trans h.tape,k.output.trans h.output,Nat.le_trans h.size k.size,
  fun j hj hn=>(k.block j (by omega) (by omega)).trans (h.block j hj hn),
  fun q hq=>(World.cell?_of_block (w:=w1) (a:=⟨b,q,none⟩) e).trans (h.cell q hq),fun q=>(World.frozen?_of_block (w:=w1) (a:=⟨b,q,none⟩) e).trans (h.froz q)⟩
theorem zI9 (d:St) (m:Nat) (h:¬ m=0):perm (zA8 d (m-1))=zA8 d m:=by
 obtain ⟨k,rfl⟩:∃ k,m=k+1:=⟨m-1,by omega⟩
 rw[Nat.add_sub_cancel,zA8]
theorem zHi (d:St) (m:Nat) (cur:Bs) (hc:136*m+136≤cur.size) (h:∀ j,j<136*m→cur[j]! = zAT d j):∀ j,j<136*(m+1)→(splice cur (136*m) (front (zA8 d m) 136).toList)[j]! = zAT d j:=by
 intro j hj
 have hl:(front (zA8 d m) 136).toList.length=136:=by rw[Array.length_toList,zAl]
 rw[zBz _ _ _ _ (by rw[hl];exact hc) (by omega),hl]
 by_cases h1:j<136*m
 ·rw[if_neg (by omega),h j h1]
 ·rw[if_pos (by omega),getElem!_pos _ (j-136*m) (by rw[hl];omega),Array.getElem_toList,← getElem!_pos (front (zA8 d m) 136) (j-136*m) (by rw[zAl];omega),zCa _ _ _ (by omega)]
  unfold zAT
  rw[show j/136=m by omega,show j%136=j-136*m by omega]
theorem zMD (b:Nat) (d:St) (n:Nat) (w:World) (h25:d.size=25) (hD:Holds enc w b 0 d) (hn:n≤16384) :
 Calls Tryz.prog 186 #[.pointer (some ⟨b,0,none⟩),.int .i64 n] w fun e w'=>e=.returned (.slice (some ⟨w.heap.size,0,none⟩) n n)∧Only b 0 25 w w'∧Holds encB w' w.heap.size 0 (zBy d n):=by
 have hb:=Holds.lt hD (by omega)
 obtain ⟨i,hi,hz0,hsz,hby⟩:=info_parts info5
 obtain ⟨cp,hcp⟩:∃ c,n+136=c:=⟨_,rfl⟩
 have hmk:∀ w:World,(Instr.makeSlice 22 (.int .i64 0) (.int .i64 ((n:Int)+136))).run Tryz.prog w=.ok (.slice (some ⟨w.heap.size,0,none⟩) 0 cp) (w.alloc (.cells (madeCells #[.int .u8 0] cp) 5)):=by
  intro w
  have h:=run_make (P:=Tryz.prog) w 22 5 i (.int .u8 0) slice22 hi hz0 .i64 .i64 0 ((n:Int)+136) (by omega) (by omega) (by rw[hby];omega) (by omega)
  rw[hsz,Nat.mul_one,show ((n:Int)+136).toNat=cp by omega] at h
  exact h
 have hC0:Holds encB (w.alloc (.cells (madeCells #[.int .u8 0] cp) 5)) w.heap.size 0 (Array.replicate cp 0):=Holds.made (enc:=encB) w 5 cp 0
 have hO0:Only b 0 25 w (w.alloc (.cells (madeCells #[.int .u8 0] cp) 5)):=(Only.refl _ _ _ _).alloc hb _
 have hD0:=Holds.below hD ((Below.refl w.heap.size w).alloc (Nat.le_refl _) (.cells (madeCells #[.int .u8 0] cp) 5)) hb
 have hs0:w.heap.size<(w.alloc (.cells (madeCells #[.int .u8 0] cp) 5)).heap.size:=by simp
 clear hi hz0 hsz hby
 have Hcp:Hid (n+136=cp):=hcp
 have hcl:n+136≤cp:=by omega
 have hcg:cp≤n+136:=by omega
 clear hcp
 go_enter Tryz.func186,Tryz.ntmps186
 go_wp2
 generalize w.alloc _=W1 at hC0 hO0 hD0 hs0 ⊢
 clear hmk
 go_loopg [5] cp (fun g s5 wr=>∃ (m l:Nat) (cur:Bs),Hid (l=136*m)∧l+g=cp∧1≤g∧s5=.slice (some ⟨w.heap.size,0,none⟩) l cp∧Holds encB wr w.heap.size 0 cur∧cur.size=cp∧Holds enc wr b 0 (zA8 d (m-1))∧Only b 0 25 w wr∧w.heap.size<wr.heap.size∧Hid (∀ j,j<136*m→cur[j]! = zAT d j))
 case atStart=>exact ⟨0,0,_,rfl,by omega,by have:=Hcp.out;omega,rfl,hC0,by rw[Array.size_replicate],hD0,hO0,hs0,fun j hj=>by omega⟩
 case round =>
  clear hC0 hO0 hD0 hs0
  obtain ⟨m,l,cur,Hl,hg,hg1,rfl,hC,hcs,hDm,hO,hs,HE⟩:=hrel
  have hps:=zAR d h25 (m-1)
  by_cases hlt:l<n
  ·have hlt':(l:Int)<(n:Int):=by omega
   have HN:Hid (∀ j,j<136*(m+1)→(splice cur l (front (zA8 d m) 136).toList)[j]! = zAT d j):=by
    rw[Hl.out]
    exact zHi d m cur (by rw[← Hl.out];omega) HE
   by_cases hm0:m=0
   ·have hz0:¬ (0:Int)<(l:Int):=by have:=Hl.out;omega
    have hDm0:Holds enc wr b 0 (zA8 d m):=by rw[hm0] at hDm ⊢;exact hDm
    have Hm0:Hid (m=0):=hm0
    clear hm0 hDm HE
    go_wp2_with fail
    refine (zEO b 0 136 _ _ (zAR d h25 m) hDm0 (by decide)).mono ?_
    rintro e w2 ⟨rfl,hb2,hF⟩
    have hC2:=Holds.below hC hb2 (Holds.lt hC (by omega))
    have hD2:=Holds.below hDm0 hb2 (Holds.lt hDm0 (by rw[zAR d h25];decide))
    have hap:=zC3 (l:=l) (k:=136) (n:=136) (c:=136) hC2 hcs hF (zAl _ _) rfl (by omega) 22
    have hC3:=zBm hC2 l (front (zA8 d m) 136).toList (by rw[Array.length_toList,zAl];omega)
    rw[Nat.zero_add] at hC3
    have hO2:Only b 0 25 w w2:=hO.trans (Only.of_below hb2 rfl (Holds.lt hDm0 (by rw[zAR d h25];decide)))
    have hOn:Only w.heap.size 0 cp w2 (w2.setCells w.heap.size l ((front (zA8 d m) 136).toList.map encB)):=(Only.refl _ _ _ _).setCells _ _ (by omega) (by rw[List.length_map,Array.length_toList,zAl];omega)
    have hO3:=hO2.with_new hOn (Nat.le_refl _) hb
    have hD3:=Holds.other hD2 hOn (by omega) (by rw[zAR d h25];decide)
    have hs3:w.heap.size<(w2.setCells w.heap.size l ((front (zA8 d m) 136).toList.map encB)).heap.size:=Nat.lt_of_lt_of_le (Holds.lt hC2 (by omega)) hOn.size
    generalize w2.setCells w.heap.size l ((front (zA8 d m) 136).toList.map encB)=W3 at hap hC3 hO3 hD3 hs3
    have HAP:Hid _:=hap
    clear hC2 hD2 hF hb2 hOn hO2 hap
    go_wp2_with (at_builtin;refine Lib.wpList_append_run _ rfl _ _ 22 22 rfl _ _ rfl rfl _ _ HAP.out ?_)
    go_roundg (gk-136)
    case measure=>omega
    case rel =>
     exact ⟨m+1,l+136,_,by have:=Hl.out;show _=_;omega,by omega,by omega,rfl,hC3,by rw[zAL,hcs],hD3,hO3,hs3,HN⟩
   ·have hpos:(0:Int)<(l:Int):=by have:=Hl.out;omega
    clear HE
    go_wp2_with fail
    refine (zEC b 0 _ _ hps hDm).mono ?_
    rintro e w1 ⟨rfl,hO1,hD1⟩
    rw[zI9 d m hm0] at hD1
    have hC1:=Holds.other hC hO1 (by omega) (by omega)
    have hO1':=hO.trans hO1
    go_wp2_with fail
    refine (zEO b 0 136 _ _ (zAR d h25 m) hD1 (by decide)).mono ?_
    rintro e w2 ⟨rfl,hb2,hF⟩
    have hC2:=Holds.below hC1 hb2 (Holds.lt hC1 (by omega))
    have hD2:=Holds.below hD1 hb2 (Holds.lt hD1 (by rw[zAR d h25];decide))
    have hap:=zC3 (l:=l) (k:=136) (n:=136) (c:=136) hC2 hcs hF (zAl _ _) rfl (by omega) 22
    have hC3:=zBm hC2 l (front (zA8 d m) 136).toList (by rw[Array.length_toList,zAl];omega)
    rw[Nat.zero_add] at hC3
    have hO2:Only b 0 25 w w2:=hO1'.trans (Only.of_below hb2 rfl (Holds.lt hD1 (by rw[zAR d h25];decide)))
    have hOn:Only w.heap.size 0 cp w2 (w2.setCells w.heap.size l ((front (zA8 d m) 136).toList.map encB)):=(Only.refl _ _ _ _).setCells _ _ (by omega) (by rw[List.length_map,Array.length_toList,zAl];omega)
    have hO3:=hO2.with_new hOn (Nat.le_refl _) hb
    have hD3:=Holds.other hD2 hOn (by omega) (by rw[zAR d h25];decide)
    have hs3:w.heap.size<(w2.setCells w.heap.size l ((front (zA8 d m) 136).toList.map encB)).heap.size:=Nat.lt_of_lt_of_le (Holds.lt hC2 (by omega)) hOn.size
    generalize w2.setCells w.heap.size l ((front (zA8 d m) 136).toList.map encB)=W3 at hap hC3 hO3 hD3 hs3
    have HAP:Hid _:=hap
    clear hC2 hD2 hF hb2 hOn hO2 hap
    go_wp2_with (at_builtin;refine Lib.wpList_append_run _ rfl _ _ 22 22 rfl _ _ rfl rfl _ _ HAP.out ?_)
    go_roundg (gk-136)
    case measure=>omega
    case rel =>
     exact ⟨m+1,l+136,_,by have:=Hl.out;show _=_;omega,by omega,by omega,rfl,hC3,by rw[zAL,hcs],hD3,hO3,hs3,HN⟩
  ·have hge:(n:Int)≤(l:Int):=by omega
   have hle:n≤cp:=by omega
   have hle':(n:Int)≤(cp:Int):=by omega
   go_wp2
   go_ret
   refine ⟨rfl,hO,fun j hj=>?_⟩
   rw[zBk] at hj
   have:=hC j (by omega)
   rw[HE.out j (by have:=Hl.out;omega)] at this
   rw[zDx d n j hj]
   exact this
end SP
namespace SP
open Go.RowKit Go.Sort Go.Deep
def zBo:Array Value:=Array.replicate 25 (.int .u64 0)++Array.replicate 136 (.int .u8 0)++#[.int .i64 0]
theorem zNb:∀ w:World,(zeroValue 194).run Tryz.prog w=.ok (.agg zBo) w:=fun _=>by kernel_rfl
theorem zL0 (j:Nat) (hj:j<25):zBo[j]? = some (.int .u64 0):=by
 have h1:j<(Array.replicate 25 (Value.int .u64 0)).size:=by rw[Array.size_replicate];exact hj
 unfold zBo
 rw[Array.append_assoc,Array.getElem?_append_left h1,Array.getElem?_eq_getElem h1,Array.getElem_replicate]
theorem zLY (j:Nat) (hj:j<136):zBo[25+j]? = some (.int .u8 0):=by
 have h1:j<(Array.replicate 136 (Value.int .u8 0)).size:=by rw[Array.size_replicate];exact hj
 unfold zBo
 rw[Array.append_assoc,Array.getElem?_append_right (by rw[Array.size_replicate];omega),Array.size_replicate,Nat.add_sub_cancel_left,Array.getElem?_append_left h1,Array.getElem?_eq_getElem h1,Array.getElem_replicate]
theorem zLZ:zBo[161]? = some (.int .i64 0):=by
 unfold zBo
 rw[Array.getElem?_append_right (by rw[Array.size_append,Array.size_replicate,Array.size_replicate];decide),Array.size_append,Array.size_replicate,Array.size_replicate]
 rfl
theorem zKP (w:World) (t:TypeId):HSp (w.alloc (.cells zBo t)) w.heap.size S0:=by
 refine ⟨fun j hj=>?_,fun j hj=>?_,?_,?_⟩
 ·have hj':j<25:=by simpa[S0,zAV] using hj
  rw[World.cell?_alloc_new,World.frozen?_alloc_new,Nat.zero_add,zL0 j hj']
  refine ⟨?_,rfl⟩
  have e:S0.d[j]! = 0:=zBN j hj'
  rw[e]
  rfl
 ·have hj':j<136:=by simpa[S0] using hj
  rw[World.cell?_alloc_new,World.frozen?_alloc_new,zLY j hj']
  refine ⟨?_,rfl⟩
  have e:S0.p[j]! = 0:=rep_at 136 j hj'
  rw[e]
  rfl
 ·rw[World.cell?_alloc_new,zLZ];rfl
 ·rw[World.frozen?_alloc_new]
theorem zFE (a:Option Addr) (sb so len cap n:Nat) (bs:Bs) (w:World) (hn:n≤16384) (hl:bs.size=len) (hcap:len≤cap) (hbig:len≤1099511627776) (hsrc:len=0∨(a=some ⟨sb,so,none⟩∧Holds encB w sb so bs)) :
 Calls Tryz.prog 137 #[.slice a len cap,.int .i64 n] w fun e w'=>∃ r,e=.returned (.tuple #[.slice (some ⟨r,0,none⟩) n n,.int .i64 0])∧w.heap.size≤r∧Below w.heap.size w w'∧Holds encB w' r 0 (zD1 bs.toList n):=by
 have hS0:=zKP w 194
 have hb0:Below w.heap.size w (w.alloc (.cells zBo 194)):=(Below.refl _ _).alloc (Nat.le_refl _) _
 have hs0:w.heap.size<(w.alloc (.cells zBo 194)).heap.size:=by simp
 have hsrc':len=0∨(a=some ⟨sb,so,none⟩∧sb≠w.heap.size∧Holds encB (w.alloc (.cells zBo 194)) sb so bs):=by
  by_cases h0:len=0
  ·exact Or.inl h0
  ·rcases hsrc with h|⟨h1,h2⟩
   ·exact Or.inl h
   ·have hlt:=Holds.lt h2 (by omega)
    exact Or.inr ⟨h1,by omega,Holds.below h2 hb0 hlt⟩
 have d0:decide ((n:Int)<0)=false:=decide_eq_false (by omega)
 have d1:¬ (16384:Int)<(n:Int):=by omega
 have zv:=zNb
 go_enter Tryz.func137,Tryz.ntmps137
 go_wp2_with fail
 generalize w.alloc (.cells zBo 194)=W1 at hS0 hb0 hs0 hsrc' ⊢
 refine (take_any w.heap.size S0 a sb so len cap bs W1 zGj hS0 hl hcap hbig hsrc').mono ?_
 rintro e w1 ⟨rfl,hO1,hS1⟩
 go_wp2_with fail
 refine (zK2 w.heap.size (zBq S0 bs.toList) 31 w1 (zBp zGj _) hS1).mono ?_
 rintro e w2 ⟨rfl,hO2,hS2⟩
 have hD2:Holds enc w2 w.heap.size 0 (zB1 bs.toList 31):=hS2.d
 clear hS2
 go_wp2_with fail
 refine (zMD w.heap.size _ n _ (zC4 _ _) hD2 hn).mono ?_
 rintro e w3 ⟨rfl,hO3,hF⟩
 go_wp2
 go_ret2
 have s1:=hO1.size
 have s2:=hO2.size
 exact ⟨w2.heap.size,rfl,by omega,(hb0.trans ((hO1.trans hO2).below (by omega) (Nat.le_refl _))).trans (hO3.below (by omega) (Nat.le_refl _)),hF⟩
end SP
namespace SP
open Go.RowKit Go.Sort Go.Deep
def Own (B:Nat) (w:World) (v:Value) (T:List UInt8):Prop:=
 ∃ g cap cur,v=.slice (some ⟨g,0,none⟩) T.length cap∧B≤g∧g<w.heap.size∧Array.size cur=cap∧T.length≤cap∧Holds encB w g 0 cur∧∀ j,j<T.length→cur[j]! = T[j]!
theorem Holds.front {α:Type} [Inhabited α] {f:α→Value} {w:World} {b o:Nat} {d e:Array α} (h:Holds f w b o d) (hs:e.size≤d.size) (he:∀ j,j<e.size→e[j]! = d[j]!):Holds f w b o e:=by
 intro j hj
 rw[he j hj]
 exact h j (by omega)
theorem zC0 (T:List UInt8) (j:Nat):T.toArray[j]! = T[j]!:=by
 by_cases h:j<T.length
 ·rw[getElem!_pos T.toArray j (by simpa using h),getElem!_pos T j h]
  simp
 ·rw[getElem!_neg T.toArray j (by simpa using h),getElem!_neg T j h]
theorem zFa (a b:List UInt8) (j:Nat) (h:j<a.length):(a++b)[j]! = a[j]!:=by
 rw[getElem!_pos (a++b) j (by rw[List.length_append];omega),getElem!_pos a j h,List.getElem_append_left h]
theorem zDm (a b:List UInt8) (j:Nat) (h:a.length≤j) (h2:j<a.length+b.length):(a++b)[j]! = b[j-a.length]!:=by
 rw[getElem!_pos (a++b) j (by rw[List.length_append];omega),getElem!_pos b (j-a.length) (by omega),List.getElem_append_right h]
variable {B:Nat} {w w1:World} {v:Value} {T:List UInt8}
theorem Own.holds {g cap n:Nat} (h:Own B w (.slice (some ⟨g,0,none⟩) n cap) T):B≤g∧n=T.length∧T.length≤cap∧Holds encB w g 0 T.toArray:=by
 obtain ⟨g',cap',cur,hv,hg,_,hs,hl,hH,hT⟩:=h
 injection hv with e1 e2 e3
 injection e1 with e1
 injection e1 with e1 _ _
 subst e1 e3
 exact ⟨hg,e2,hl,Holds.front hH (by simp;omega) (fun j hj=>by rw[zC0];exact (hT j (by simpa using hj)).symm)⟩
theorem Own.below (h:Own B w v T) (k:Below w.heap.size w w1):Own B w1 v T:=by
 obtain ⟨g,cap,cur,hv,hg,hgl,hs,hl,hH,hT⟩:=h
 exact ⟨g,cap,cur,hv,hg,Nat.lt_of_lt_of_le hgl k.size,hs,hl,Holds.below hH k hgl,hT⟩
theorem zCF (s:ByteArray) (hB:B≤w.heap.size) :
 ∃ v' w',(convert 9 22 (.string s)).run Tryz.prog w=.ok v' w'∧Own B w' v' s.data.toList∧Below w.heap.size w w'∧v'=.slice (some ⟨w.heap.size,0,none⟩) s.size (grownCap w s.size 0 5):=by
 have h:=Lib.run_convert_string_bytes (P:=Tryz.prog) w 9 22 5 s str9 slice22 int5
 have hcap:s.size≤grownCap w s.size 0 5:=by
  unfold grownCap Question.cut
  exact Nat.le_add_right _ _
 have hl:s.data.size=s.size:=rfl
 refine ⟨_,_,h,⟨w.heap.size,grownCap w s.size 0 5,s.data++Array.replicate (grownCap w s.size 0 5-s.size) 0,?_,hB,by rw[Lib.bytesWorld_size];omega,?_,?_,?_,?_⟩,?_,rfl⟩
 ·rw[Array.length_toList];rfl
 ·rw[Array.size_append,Array.size_replicate];omega
 ·rw[Array.length_toList];omega
 ·intro j hj
  rw[Array.size_append,Array.size_replicate] at hj
  have hb:=Lib.bytesWorld_at_new w 5 s
  have hsz:(Lib.bytesCells w 5 s).size=grownCap w s.size 0 5:=by
   unfold Lib.bytesCells
   rw[Array.size_append,Array.size_map,Array.size_replicate]
   omega
  have hc:(Lib.bytesCells w 5 s)=(s.data++Array.replicate (grownCap w s.size 0 5-s.size) 0).map encB:=by
   unfold Lib.bytesCells
   rw[Array.map_append,Array.map_replicate]
   rfl
  have hj2:j<(s.data++Array.replicate (grownCap w s.size 0 5-s.size) 0).size:=by rw[Array.size_append,Array.size_replicate];exact hj
  constructor
  ·unfold World.cell?
   rw[hb]
   simp only[Nat.zero_add]
   rw[if_neg (by decide),hc,Array.getElem?_map,Array.getElem?_eq_getElem hj2,Option.map_some,getElem!_pos _ j hj2]
  ·unfold World.frozen?
   rw[hb]
   simp only[Nat.zero_add,hsz]
   simp
   omega
 ·intro j hj
  rw[Array.length_toList] at hj
  rw[app_front _ _ j hj,getElem!_pos s.data.toList j (by rw[Array.length_toList];exact hj),Array.getElem_toList]
 ·refine ⟨?_,?_,?_,?_,fun k hk=>Lib.bytesWorld_at_old w 5 s k hk⟩
  ·unfold Lib.bytesWorld World.freeze
   rw[if_neg (by decide)]
   rfl
  ·unfold Lib.bytesWorld World.freeze
   rw[if_neg (by decide)]
   rfl
  ·unfold Lib.bytesWorld World.freeze
   rw[if_neg (by decide)]
   rfl
  ·rw[Lib.bytesWorld_size];omega
theorem Holds.below' {α:Type} [Inhabited α] {f:α→Value} {w w1:World} {b o:Nat} {d:Array α} (h:Holds f w b o d) (k:Below w.heap.size w w1):Holds f w1 b o d:=by
 intro j hj
 have hlt:=Holds.lt h (by omega)
 exact Holds.below h k hlt j hj
theorem zJi (l:List UInt8):(zJj l).size=32:=by rw[zJj,zAl]
end SP
namespace SP
open Go.RowKit Go.Sort Go.Deep
def lenB (n d:Nat):UInt8:=UInt8.ofNat (n/d)
theorem zB9 (n d:Nat):(n:Int)/(d:Int)%256=ub (lenB n d):=by
 have e2:((n:Int)/(d:Int))=((n/d:Nat):Int):=by rw[Int.natCast_ediv]
 rw[e2]
 unfold ub lenB
 rw[UInt8.toNat_ofNat']
 omega
theorem zIs (n:Nat):(n:Int)%256=ub (lenB n 1):=by
 have:=zB9 n 1
 rw[show ((1:Nat):Int)=1 from rfl,Int.ediv_one] at this
 exact this
def zBJ (l:List UInt8):List UInt8:=[lenB l.length 16777216,lenB l.length 65536,lenB l.length 256,lenB l.length 1]++l
theorem zCc (l:List UInt8):(zBJ l).length=l.length+4:=by
 unfold zBJ
 rw[List.length_append]
 simp only[List.length_cons,List.length_nil]
 omega
theorem zFn (w:World) (x y z t:UInt8):Holds encB (w.alloc (.cells #[.int .u8 (ub x),.int .u8 (ub y),.int .u8 (ub z),.int .u8 (ub t)] 5)) w.heap.size 0 #[x,y,z,t]:=by
 have h:=Holds.new (enc:=encB) w 5 #[x,y,z,t]
 have e:Array.map encB #[x,y,z,t]=#[.int .u8 (ub x),.int .u8 (ub y),.int .u8 (ub z),.int .u8 (ub t)]:=by simp[encB]
 rw[e] at h
 exact h
theorem zC7 (b:Nat) (S:Sp) (a:Option Addr) (sb so len cap:Nat) (bs:Bs) (w:World) (hok:Ok S) (hS:HSp w b S) (hl:bs.size=len) (hcap:len≤cap) (hbig:len≤1099511627776)
 (hsrc:len=0∨(a=some ⟨sb,so,none⟩∧sb≠b∧Holds encB w sb so bs)) :
 Calls Tryz.prog 139 #[.pointer (some ⟨b,0,none⟩),.slice a len cap] w fun e w'=>e=.returned (.tuple #[])∧Only b 0 162 w w'∧HSp w' b (zBq S (zBJ bs.toList)):=by
 have hb:=hS.lt
 have b0:(len:Int)/16777216%256=ub (lenB len 16777216):=zB9 len 16777216
 have b1:(len:Int)/65536%256=ub (lenB len 65536):=zB9 len 65536
 have b2:(len:Int)/256%256=ub (lenB len 256):=zB9 len 256
 have b3:(len:Int)%256=ub (lenB len 1):=zIs len
 have hF:Hid (zBJ bs.toList=(#[lenB len 16777216,lenB len 65536,lenB len 256,lenB len 1]:Bs).toList++bs.toList):=by
  unfold zBJ
  rw[Array.length_toList,hl]
  rfl
 have h4:=zFn w (lenB len 16777216) (lenB len 65536) (lenB len 256) (lenB len 1)
 generalize lenB len 16777216=x0 at *
 generalize lenB len 65536=x1 at *
 generalize lenB len 256=x2 at *
 generalize lenB len 1=x3 at *
 have hb0:Below w.heap.size w (w.alloc (.cells #[.int .u8 (ub x0),.int .u8 (ub x1),.int .u8 (ub x2),.int .u8 (ub x3)] 5)):=(Below.refl _ _).alloc (Nat.le_refl _) _
 have hS1:=hS.below hb0 hb
 have hO0:Only b 0 162 w (w.alloc (.cells #[.int .u8 (ub x0),.int .u8 (ub x1),.int .u8 (ub x2),.int .u8 (ub x3)] 5)):=Only.of_below hb0 rfl hb
 have hsrc1:len=0∨(a=some ⟨sb,so,none⟩∧sb≠b∧Holds encB (w.alloc (.cells #[.int .u8 (ub x0),.int .u8 (ub x1),.int .u8 (ub x2),.int .u8 (ub x3)] 5)) sb so bs):=by
  by_cases h0:len=0
  ·exact Or.inl h0
  ·rcases hsrc with h|⟨h1,h2,h3⟩
   ·exact Or.inl h
   ·exact Or.inr ⟨h1,h2,Holds.below h3 hb0 (Holds.lt h3 (by omega))⟩
 clear hsrc
 go_enter Tryz.func139,Tryz.ntmps139
 go_wp2_with fail
 generalize w.alloc (.cells #[.int .u8 (ub x0),.int .u8 (ub x1),.int .u8 (ub x2),.int .u8 (ub x3)] 5)=W1 at h4 hb0 hS1 hO0 hsrc1 ⊢
 refine (take_any b S (some ⟨w.heap.size,0,none⟩) w.heap.size 0 4 4 #[x0,x1,x2,x3] W1 hok hS1 rfl (Nat.le_refl _) (by decide) (Or.inr ⟨rfl,by omega,h4⟩)).mono ?_
 rintro e w2 ⟨rfl,hO2,hS2⟩
 have hsrc2:len=0∨(a=some ⟨sb,so,none⟩∧sb≠b∧Holds encB w2 sb so bs):=by
  by_cases h0:len=0
  ·exact Or.inl h0
  ·rcases hsrc1 with h|⟨h1,h2,h3⟩
   ·exact Or.inl h
   ·exact Or.inr ⟨h1,h2,Holds.other h3 hO2 h2 (by omega)⟩
 go_wp2_with fail
 refine (take_any b _ a sb so len cap bs w2 (zBp hok _) hS2 hl hcap hbig hsrc2).mono ?_
 rintro e w3 ⟨rfl,hO3,hS3⟩
 go_wp2
 go_end0
 refine ⟨rfl,(hO0.trans hO2).trans hO3,?_⟩
 rw[hF.out,zBj]
 exact hS3
theorem zG9 (s:ByteArray) (w:World) (hs:s.size≤1048576) :
 Calls Tryz.prog 152 #[.string s] w fun e w'=>∃ o,e=.returned (.string o)∧o.data.toList=zBJ s.data.toList∧Below w.heap.size w w':=by
 have b0:(s.size:Int)/16777216%256=ub (lenB s.size 16777216):=zB9 s.size 16777216
 have b1:(s.size:Int)/65536%256=ub (lenB s.size 65536):=zB9 s.size 65536
 have b2:(s.size:Int)/256%256=ub (lenB s.size 256):=zB9 s.size 256
 have b3:(s.size:Int)%256=ub (lenB s.size 1):=zIs s.size
 have hF:Hid (zBJ s.data.toList=(#[lenB s.size 16777216,lenB s.size 65536,lenB s.size 256,lenB s.size 1]:Bs).toList++s.data.toList):=by
  unfold zBJ
  rw[Array.length_toList]
  rfl
 have h4:=zFn w (lenB s.size 16777216) (lenB s.size 65536) (lenB s.size 256) (lenB s.size 1)
 generalize lenB s.size 16777216=x0 at *
 generalize lenB s.size 65536=x1 at *
 generalize lenB s.size 256=x2 at *
 generalize lenB s.size 1=x3 at *
 have kc:=conv_str Tryz.prog 22 9 5 slice22 int5 str9 _ w.heap.size 0 4 4 #[x0,x1,x2,x3] h4 rfl
 have c0:(s.size:Int)/16777216=ub x0:=by omega
 have c1:(s.size:Int)/65536=ub x1:=by omega
 go_enter Tryz.func152,Tryz.ntmps152
 go_wp2
 go_ret
 refine ⟨_,rfl,?_,(Below.refl _ _).alloc (Nat.le_refl _) _⟩
 rw[hF.out,ByteArray.data_append,Array.toList_append]
end SP
namespace SP
open Go.RowKit Go.Sort Go.Deep
def zAM (label:List UInt8) (ps:List (List UInt8)):List UInt8:=zBJ label++ps.flatMap zBJ
def tagL (label:List UInt8) (ps:List (List UInt8)):Bs:=zJj (zAM label ps)
theorem zBQ (label:List UInt8) (ps:List (List UInt8)):(tagL label ps).size=32:=zJi _
theorem zDX (label:List UInt8) (ps:List (List UInt8)) (x:List UInt8):zAM label (ps++[x])=zAM label ps++zBJ x:=by
 unfold zAM
 rw[List.flatMap_append,← List.append_assoc]
 simp
def PartOk (w:World) (v:Value) (x:List UInt8):Prop:=
 ∃ a sb so cap bs,v=.slice a (Array.size bs) cap∧bs.toList=x∧bs.size≤cap∧bs.size≤1099511627776∧(bs.size=0∨(a=some ⟨sb,so,none⟩∧Holds encB w sb so bs))
theorem PartOk.below {w w1:World} {v:Value} {x:List UInt8} (h:PartOk w v x) (k:Below w.heap.size w w1):PartOk w1 v x:=by
 obtain ⟨a,sb,so,cap,bs,h1,h2,h3,h4,h5⟩:=h
 refine ⟨a,sb,so,cap,bs,h1,h2,h3,h4,?_⟩
 rcases h5 with h5|⟨h5,h6⟩
 ·exact Or.inl h5
 ·exact Or.inr ⟨h5,Holds.below' h6 k⟩
def PartsOk (w:World) (pa:Option Addr) (ps:List (List UInt8)):Prop:=
 ps.length=0∨∃ pb po,pa=some ⟨pb,po,none⟩∧∀ j,j<ps.length→∃ v,w.cell? ⟨pb,po+j,none⟩=some v∧PartOk w v ps[j]!
theorem PartsOk.below {w w1:World} {pa:Option Addr} {ps:List (List UInt8)} (h:PartsOk w pa ps) (k:Below w.heap.size w w1):PartsOk w1 pa ps:=by
 rcases h with h|⟨pb,po,h1,h2⟩
 ·exact Or.inl h
 ·refine Or.inr ⟨pb,po,h1,fun j hj=>?_⟩
  obtain ⟨v,h3,h4⟩:=h2 j hj
  exact ⟨v,by rw[k.cell (p:=⟨pb,po+j,none⟩) (World.block_lt_of_cell? _ _ h3)];exact h3,h4.below k⟩
theorem zGS (label:List UInt8) (ps:List (List UInt8)) (k:Nat):(zAM label (ps.take k)).length≤(zAM label ps).length:=by
 have e:zAM label ps=zAM label (ps.take k)++(ps.drop k).flatMap zBJ:=by
  unfold zAM
  rw[List.append_assoc,← List.flatMap_append,List.take_append_drop]
 rw[e,List.length_append]
 omega
theorem zCK {α:Type} [Inhabited α] (l:List α) (k:Nat) (h:k<l.length):l.take (k+1)=l.take k++[l[k]!]:=by
 rw[List.take_succ_eq_append_getElem h,getElem!_pos l k h]
theorem zH5 (label:ByteArray) (pa:Option Addr) (pcap:Nat) (ps:List (List UInt8)) (w:World) (hlab:label.size≤1048576) (hpl:ps.length≤1048576) (hP:PartsOk w pa ps) :
 Calls Tryz.prog 87 #[.string label,.slice pa ps.length pcap] w fun e w'=>∃ r,e=.returned (.slice (some ⟨r,0,none⟩) 32 32)∧w.heap.size≤r∧Below w.heap.size w w'∧Holds encB w' r 0 (tagL label.data.toList ps):=by
 have hS0:=zKP w 194
 have hb0:Below w.heap.size w (w.alloc (.cells zBo 194)):=(Below.refl _ _).alloc (Nat.le_refl _) _
 have hs0:(w.alloc (.cells zBo 194)).heap.size=w.heap.size+1:=by simp
 have zv:=zNb
 generalize hW1:w.alloc (.cells zBo 194)=W1 at hS0 hb0 hs0
 obtain ⟨v2,W2,hcv,own2,hb2,hv2⟩:=zCF (w:=W1) (B:=0) label (Nat.zero_le _)
 rw[hv2] at hcv own2
 obtain ⟨hq0,hq1,hle2,hH2⟩:=own2.holds
 rw[← hq1] at hle2
 clear hq0 hq1
 have hH2':Holds encB W2 W1.heap.size 0 label.data:=by simpa using hH2
 have hS2:=hS0.below hb2 hS0.lt
 have hsz2:=hb2.size
 obtain ⟨n,hn⟩:∃ n,ps.length=n:=⟨_,rfl⟩
 rw[hn]
 have Hn:Hid (ps.length=n):=hn
 have hn20:n≤1048576:=by omega
 rw[hs0] at hcv hH2'
 generalize hc2:grownCap W1 label.size 0 5=c2 at *
 clear own2 hv2 hH2 hn hc2
 have hcv':(convert 9 22 (.string label)).run Tryz.prog (w.alloc (.cells zBo 194))=.ok (.slice (some ⟨w.heap.size+1,0,none⟩) label.size c2) W2:=by rw[hW1];exact hcv
 clear hW1 hcv
 go_enter Tryz.func87,Tryz.ntmps87
 go_wp2_with fail
 refine (zC7 w.heap.size S0 (some ⟨w.heap.size+1,0,none⟩) (w.heap.size+1) 0 label.size c2 label.data W2 zGj hS2 rfl (by omega) (by omega) (Or.inr ⟨rfl,by omega,hH2'⟩)).mono ?_
 rintro e w3 ⟨rfl,hO3,hS3⟩
 have hb3:Below w.heap.size w w3:=(hb0.trans (hb2.mono (by omega))).trans (hO3.below (by omega) (Nat.le_refl _))
 have hz3:w.heap.size<w3.heap.size:=hS3.lt
 clear hcv' hH2' hO3 zv hS2
 go_wp2
 go_loopg [13] n (fun g s13 wr=>∃ (k:Nat) (Sk:Sp),k+g=n∧s13=.int .i64 k∧HSp wr w.heap.size Sk∧Below w.heap.size w wr∧Ok Sk∧Hid (Sk=zBq S0 (zAM label.data.toList (ps.take k))))
 case atStart =>
  refine ⟨0,_,by omega,rfl,hS3,hb3,zBp zGj _,?_⟩
  rw[List.take_zero]
  unfold zAM
  rw[List.flatMap_nil,List.append_nil]
  rfl
 case round =>
  clear hS3 hb3 hz3
  obtain ⟨k,Sk,hk,rfl,hSk,hb,hok,HE⟩:=hrel
  by_cases hlt:k<n
  ·obtain ⟨pb,po,rfl,hPj⟩:∃ pb po,pa=some ⟨pb,po,none⟩∧∀ j,j<ps.length→∃ v,w.cell? ⟨pb,po+j,none⟩=some v∧PartOk w v ps[j]!:=by
    rcases hP with h|h
    ·have:=Hn.out;omega
    ·exact h
   obtain ⟨v,hvc,hvp⟩:=hPj k (by have:=Hn.out;omega)
   have hpb:=World.block_lt_of_cell? _ _ hvc
   have hvc':wr.cell? ⟨pb,po+k,none⟩=some v:=by rw[hb.cell (p:=⟨pb,po+k,none⟩) hpb];exact hvc
   obtain ⟨a,sb,so,cap,bs,rfl,hbl,hbc,hbb,hsrc⟩:=hvp
   have hsrc':bs.size=0∨(a=some ⟨sb,so,none⟩∧sb≠w.heap.size∧Holds encB wr sb so bs):=by
    by_cases h0:bs.size=0
    ·exact Or.inl h0
    ·rcases hsrc with h|⟨h1,h2⟩
     ·exact Or.inl h
     ·have:=Holds.lt h2 (by omega)
      exact Or.inr ⟨h1,by omega,Holds.below h2 hb this⟩
   have HB:Hid (bs.toList=ps[k]!):=hbl
   have l1:(k:Int)<(n:Int):=by omega
   generalize hbz:bs.size=bz at *
   clear hvc hsrc hPj hbl
   go_wp2_with fail
   refine (zC7 w.heap.size Sk a sb so bz cap bs wr hok hSk hbz hbc hbb hsrc').mono ?_
   rintro e w4 ⟨rfl,hO4,hS4⟩
   go_wp2
   go_roundg (gk-1)
   case measure=>omega
   case rel =>
    refine ⟨k+1,_,by omega,by go_num,hS4,hb.trans (hO4.below hb.size (Nat.le_refl _)),zBp hok _,?_⟩
    rw[zCK ps k (by have:=Hn.out;omega),zDX,zBj,← HE.out,HB.out]
    rfl
  ·have hkn:k=n:=by omega
   have l1:(n:Int)≤(k:Int):=by omega
   have HE2:Hid (Sk=zBq S0 (zAM label.data.toList ps)):=by
    have e1:ps.take k=ps:=List.take_of_length_le (by have:=Hn.out;omega)
    rw[e1] at HE
    exact HE
   clear HE
   go_wp2_with fail
   refine (zK2 w.heap.size Sk 6 wr hok hSk).mono ?_
   rintro e w5 ⟨rfl,hO5,hS5⟩
   have hD5:Holds enc w5 w.heap.size 0 (zB1 (zAM label.data.toList ps) 6):=by
    have:=hS5.d
    rw[HE2.out] at this
    exact this
   clear hS5
   go_wp2_with fail
   refine (zEO w.heap.size 0 32 _ _ (zC4 _ _) hD5 (by decide)).mono ?_
   rintro e w6 ⟨rfl,hb6,hF6⟩
   have hs5:=hO5.size
   have hs4:=hb.size
   go_wp2
   go_ret
   exact ⟨w5.heap.size,rfl,by omega,(hb.trans (hO5.below hb.size (Nat.le_refl _))).trans (hb6.mono (by omega)),hF6⟩
end SP
namespace SP
open Go.RowKit Go.Sort Go.Deep
variable {B:Nat} {w w1:World} {v:Value} {T:List UInt8}
set_option maxRecDepth 4000
theorem zFB {r c:Nat} {xs:Bs} (h:Own B w v T) (hX:Holds encB w r 0 xs) (hB:B≤w.heap.size) (hbig:T.length+xs.size≤1099511627776) (k:Nat) (hk:k=xs.size) :
 ∃ v' w',(Builtin.append_ #[22,22] 22 #[v,.slice (some ⟨r,0,none⟩) k c]).run Tryz.prog w=.ok v' w'∧Own B w' v' (T++xs.toList)∧Below B w w':=by
 subst hk
 obtain ⟨g,cap,cur,rfl,hg,hgl,hs,hl,hH,hTc⟩:=h
 obtain ⟨i,hi,hz,hsz,hby⟩:=info_parts info5
 have hxl0:xs.toList.length=xs.size:=Array.length_toList
 have hlen:(T++xs.toList).length=T.length+xs.size:=by rw[List.length_append,hxl0]
 by_cases hroom:T.length+xs.size≤cap
 ·have hap:=zC3 (l:=T.length) (k:=xs.size) (n:=xs.size) (c:=c) hH hs hX rfl rfl hroom 22
  have hH3:=zBm hH T.length xs.toList (by rw[hxl0];omega)
  rw[Nat.zero_add] at hH3
  refine ⟨_,_,hap,⟨g,cap,splice cur T.length xs.toList,by rw[hlen],hg,Nat.lt_of_lt_of_le hgl (below_setCells (B:=0) (b:=g) (Nat.zero_le _) _ _ _ (Below.refl 0 w)).size,by rw[zAL,hs],by omega,hH3,fun j hj=>?_⟩,?_⟩
  ·rw[hlen] at hj
   rw[zBz _ _ _ _ (by rw[hxl0];omega) (by omega),hxl0]
   by_cases h1:j<T.length
   ·rw[if_neg (by omega),zFa _ _ _ h1,hTc j h1]
   ·rw[if_pos (by omega),zDm _ _ _ (by omega) (by rw[hxl0];omega)]
  ·exact below_setCells hg _ _ _ (Below.refl _ _)
 ·have hold:(Builtin.firstCells i.size T.length (.slice (some ⟨g,0,none⟩) T.length cap)).run Tryz.prog w.drew=.ok (T.map encB).toArray w.drew:=by
   rw[hsz]
   refine run_firstCells_some w.drew 1 T.length ⟨g,0,none⟩ T.length cap (T.map encB) (by rw[List.length_map,Nat.mul_one]) (fun j u hj=>?_)
   obtain ⟨h1,h2⟩:=List.getElem?_eq_some_iff.1 hj
   rw[List.length_map] at h1
   have hc:=(hH j (by omega)).1
   rw[hTc j h1,getElem!_pos T j h1] at hc
   rw[List.getElem_map] at h2
   have e1:(⟨g,0,none⟩:Addr).add j=⟨g,0+j,none⟩:=by
    unfold Addr.add
    by_cases h0:j=0
    ·subst h0;rw[if_pos rfl]
    ·rw[if_neg h0]
   rw[e1,World.cell?_drew,hc,h2]
  have hxl:(xs.toList.map encB).length=xs.size:=by rw[List.length_map,hxl0]
  have hsrc:Src Tryz.prog i.size 22 (.slice (some ⟨r,0,none⟩) xs.size c) xs.size (xs.toList.map encB) w:=by
   rw[hsz]
   refine Src.ofSlice w slice22 ⟨r,0,none⟩ xs.size c _ (by rw[hxl,Nat.mul_one]) (fun j u hj=>?_) (fun u hu=>?_)
   ·obtain ⟨h1,h2⟩:=List.getElem?_eq_some_iff.1 hj
    rw[hxl] at h1
    have hc:=(hX j (by omega)).1
    rw[getElem!_pos xs j (by omega)] at hc
    rw[List.getElem_map,Array.getElem_toList] at h2
    have e1:(⟨r,0,none⟩:Addr).add j=⟨r,0+j,none⟩:=by
     unfold Addr.add
     by_cases h0:j=0
     ·subst h0;rw[if_pos rfl]
     ·rw[if_neg h0]
    rw[e1,hc,h2]
   ·obtain ⟨x,_,rfl⟩:=List.mem_map.1 hu
    rfl
  have hnc:Builtin.nextslicecap (T.length+xs.size) cap≤2*(T.length+xs.size)+768:=by
   unfold Builtin.nextslicecap
   split
   ·omega
   ·split
    ·omega
    ·simp only[Builtin.growBy]
     repeat' split
     all_goals omega
  have hap:=run_append_grow_src (P:=Tryz.prog) w 22 22 22 5 i (.int .u8 0) slice22 hi hz (some ⟨g,0,none⟩) T.length cap (T.map encB) hold _ xs.size (xs.toList.map encB) hsrc (by omega) (by omega) (by rw[hby];omega)
  generalize hG:grownCap w (T.length+xs.size) cap 5=G at hap
  have hGl:T.length+xs.size≤G:=by
   rw[← hG]
   unfold grownCap Question.cut
   exact Nat.le_add_right _ _
  have hcells:(T.map encB++xs.toList.map encB).toArray++Builtin.zeroCells (Value.int .u8 0).cells (G-(T.length+xs.size))=((T++xs.toList).toArray++Array.replicate (G-(T.length+xs.size)) (0:UInt8)).map encB:=by
   rw[Array.map_append,Array.map_replicate,← List.map_append]
   congr 1
   ·simp
   ·unfold Builtin.zeroCells
    have e:(Value.int .u8 0).cells=#[Value.int .u8 0]:=rfl
    rw[e]
    apply Array.ext
    ·simp
    ·intro k h1 h2
     simp[Nat.mod_one]
     rfl
  rw[hcells] at hap
  refine ⟨_,_,hap,⟨w.heap.size,G,(T++xs.toList).toArray++Array.replicate (G-(T.length+xs.size)) 0,by rw[hlen],hB,by simp,?_,by omega,?_,fun j hj=>?_⟩,?_⟩
  ·rw[Array.size_append,Array.size_replicate,List.size_toArray,hlen];omega
  ·exact Holds.new (enc:=encB) w.drew 5 _
  ·rw[app_front _ _ j (by simpa using hj)]
   rw[getElem!_pos (T++xs.toList) j hj]
   simp
  ·exact ((Below.refl B w).drew).alloc (by exact hB) _
end SP
namespace SP
open Go.RowKit Go.Sort Go.Deep
theorem zMS {w:World} {b r:Nat} {L T:Bs} (hL:Holds encB w b 0 L) (hl:L.size=32) (hT:Holds encB w r 0 T) (ht:T.size=32) :
 (Builtin.copy_ #[22,22] 3 #[.slice (some ⟨b,0,none⟩) 32 32,.slice (some ⟨r,0,none⟩) 32 32]).run Tryz.prog w=.ok (goInt 32) (w.setCells b 0 (T.toList.map encB)):=by
 have hlen:(T.toList.map encB).length=32:=by rw[List.length_map,Array.length_toList,ht]
 have:=run_copy_cells (P:=Tryz.prog) w 22 22 3 5 b 0 32 32 ⟨r,0,none⟩ 32 32 (T.toList.map encB) slice22 ints5 (by rw[hlen];rfl)
  (fun j u hj=>by
   obtain ⟨h1,h2⟩:=List.getElem?_eq_some_iff.1 hj
   rw[hlen] at h1
   have hc:=(hT j (by omega)).1
   rw[getElem!_pos T j (by omega)] at hc
   rw[List.getElem_map,Array.getElem_toList] at h2
   have e1:(⟨r,0,none⟩:Addr).add j=⟨r,0+j,none⟩:=by
    unfold Addr.add
    by_cases h0:j=0
    ·subst h0;rw[if_pos rfl]
    ·rw[if_neg h0]
   rw[e1,hc,h2])
  (fun j hj=>by rw[(hL j (by omega)).1];rfl) (fun j hj=>(hL j (by omega)).2)
  (fun u hu=>by obtain ⟨x,_,rfl⟩:=List.mem_map.1 hu;rfl)
 rw[hlen] at this
 exact this
theorem zGQ {w:World} {b:Nat} {L T:Bs} (hL:Holds encB w b 0 L) (hl:L.size=32) (ht:T.size=32):Holds encB (w.setCells b 0 (T.toList.map encB)) b 0 T:=by
 have hlen:(T.toList.map encB).length=32:=by rw[List.length_map,Array.length_toList,ht]
 refine Holds.setCells hL (T.toList.map encB) 0 (by omega) (by omega) (fun j hj=>?_) (fun j h1 h2=>by omega)
 rw[hlen] at hj
 rw[List.getElem_map,Array.getElem_toList,Nat.zero_add,getElem!_pos T j (by omega)]
theorem zJv {w w2:World} {b:Nat} {L T:Bs} (hL:Holds encB w b 0 L) (hl:L.size=32) (ht:T.size=32) (hb:b<w.heap.size) (hb2:Below w.drew.heap.size w.drew w2) :
 Only b 0 32 w (w2.setCells b 0 (T.toList.map encB))∧Holds encB (w2.setCells b 0 (T.toList.map encB)) b 0 T:=by
 have hlen:(T.toList.map encB).length=32:=by rw[List.length_map,Array.length_toList,ht]
 refine ⟨?_,zGQ (Holds.below (Holds.drew hL) hb2 hb) hl ht⟩
 exact Only.setCells (((Only.refl b 0 32 w).drew).trans (Only.of_below hb2 rfl hb)) _ 0 (Nat.le_refl _) (by omega)
theorem zDH (b:Nat) (L:Bs) (label:ByteArray) (pa:Option Addr) (pcap n:Nat) (ps:List (List UInt8)) (w:World) (hlab:label.size≤1048576) (hpl:ps.length=n) (hn:n≤1048576) (hP:PartsOk w pa ps) (hL:Holds encB w b 0 L) (hl:L.size=32) :
 Calls Tryz.prog 143 #[.pointer (some ⟨b,0,none⟩),.string label,.slice pa n pcap] w fun e w'=>e=.returned (.tuple #[])∧Only b 0 32 w w'∧Holds encB w' b 0 (tagL label.data.toList ps):=by
 subst hpl
 have hb:=Holds.lt hL (by omega)
 have ht:=zH5 label pa pcap ps w.drew hlab hn (hP.below ((Below.refl _ _).drew))
 generalize hT:tagL label.data.toList ps=T at ht ⊢
 have hTs:T.size=32:=by rw[← hT,zBQ]
 have HT:Hid (Calls Tryz.prog 87 #[.string label,.slice pa ps.length pcap] w.drew fun e w'=>∃ r,e=.returned (.slice (some ⟨r,0,none⟩) 32 32)∧w.drew.heap.size≤r∧Below w.drew.heap.size w.drew w'∧Holds encB w' r 0 T):=ht
 generalize ps.length=n at *
 clear hT ht hP
 go_enter Tryz.func143,Tryz.ntmps143
 go_wp2
 go_region_with (go_at_call 87;refine Calls.mono HT.out ?_;rintro e w2 ⟨r2,rfl,hr2,hb2,hH2⟩;have hcp:=zMS (Holds.below (Holds.drew hL) hb2 hb) hl hH2 hTs;have hfin:=zJv hL hl hTs hb hb2)
 all_goals (try go_wp2)
 all_goals go_end0
 all_goals exact ⟨rfl,hfin⟩
end SP
namespace SP
open Go.RowKit Go.Sort Go.Deep
def encV (v:Value):Value:=v
theorem zGy (l:List UInt8) (n:Nat):(zD1 l n).size=n:=by rw[zD1,zBk]
def newL (label:List UInt8):Bs:=tagL [108,111,103] [label]
def sayL (L:Bs) (label text:List UInt8):Bs:=tagL [115,97,121] [L.toList,label,text]
def askL (L:Bs) (label:List UInt8) (n:Nat):Bs:=zD1 (tagL [97,115,107] [L.toList,label]).toList n
def zLy (L:Bs) (label:List UInt8):Bs:=tagL [97,115,107,101,100] [L.toList,label]
theorem zEK (l:List UInt8):(newL l).size=32:=zBQ _ _
theorem zBR (L:Bs) (l t:List UInt8):(sayL L l t).size=32:=zBQ _ _
theorem zG7 (L:Bs) (l:List UInt8) (n:Nat):(askL L l n).size=n:=zGy _ _
theorem zDn (s:ByteArray) (w:World) (hs:s.size≤1099511627776) :
 ∃ c w',(convert 9 22 (.string s)).run Tryz.prog w=.ok (.slice (some ⟨w.heap.size,0,none⟩) s.size c) w'∧s.size≤c∧Holds encB w' w.heap.size 0 s.data∧PartOk w' (.slice (some ⟨w.heap.size,0,none⟩) s.size c) s.data.toList∧Below w.heap.size w w'∧w.heap.size<w'.heap.size:=by
 obtain ⟨v2,W2,hcv,own2,hb2,hv2⟩:=zCF (w:=w) (B:=0) s (Nat.zero_le _)
 rw[hv2] at hcv own2
 have hlt:w.heap.size<W2.heap.size:=by
  obtain ⟨g,cap,cur,h1,_,h3,_⟩:=own2
  injection h1 with h1
  injection h1 with h1
  injection h1 with h1
  omega
 obtain ⟨hq0,hq1,hle2,hH2⟩:=own2.holds
 rw[← hq1] at hle2
 have hH2':Holds encB W2 w.heap.size 0 s.data:=by simpa using hH2
 have hle:s.size≤grownCap w s.size 0 5:=hle2
 exact ⟨_,W2,hcv,hle,hH2',⟨_,w.heap.size,0,_,s.data,rfl,rfl,hle,hs,Or.inr ⟨rfl,hH2'⟩⟩,hb2,hlt⟩
theorem zDh (W:World) (vs:Array Value) (ps:List (List UInt8)) (t:TypeId) (hl:vs.size=ps.length) (h:∀ j,j<ps.length→PartOk W vs[j]! ps[j]!) :
 PartsOk (W.alloc (.cells vs t)) (some ⟨W.heap.size,0,none⟩) ps:=by
 refine Or.inr ⟨W.heap.size,0,rfl,fun j hj=>⟨vs[j]!,?_,(h j hj).below ((Below.refl _ _).alloc (Nat.le_refl _) _)⟩⟩
 have e0:vs.map encV=vs:=by
  have:encV=id:=rfl
  rw[this,Array.map_id]
 have:=(Holds.new (enc:=encV) W t vs j (by omega)).1
 rw[e0] at this
 exact this
theorem zF2 {w:World} {b:Nat} {L:Bs} (hL:Holds encB w b 0 L) (hl:L.size=32):PartOk w (.slice (some ⟨b,0,none⟩) 32 32) L.toList:=
 ⟨_,b,0,32,L,by rw[hl],rfl,by omega,by omega,Or.inr ⟨rfl,hL⟩⟩
theorem zNK:∀ w:World,(zeroValue 202).run Tryz.prog w=.ok (.agg (Array.replicate 32 (.int .u8 0))) w:=fun _=>by kernel_rfl
theorem zJx (label:ByteArray) (w:World) (hlab:label.size≤1048576) :
 Calls Tryz.prog 142 #[.string label] w fun e w'=>e=.returned (.pointer (some ⟨w.heap.size,0,none⟩))∧Below w.heap.size w w'∧Holds encB w' w.heap.size 0 (newL label.data.toList):=by
 have zv:=zNK
 have hH0:Holds encB (w.alloc (.cells (Array.replicate 32 (.int .u8 0)) 202)) w.heap.size 0 (Array.replicate 32 0):=by
  have:=Holds.new (enc:=encB) w 202 (Array.replicate 32 0)
  rw[Array.map_replicate] at this
  exact this
 have hb0:Below w.heap.size w (w.alloc (.cells (Array.replicate 32 (.int .u8 0)) 202)):=(Below.refl _ _).alloc (Nat.le_refl _) _
 have hs0:(w.alloc (.cells (Array.replicate 32 (.int .u8 0)) 202)).heap.size=w.heap.size+1:=by simp
 obtain ⟨c,W1,hcv,hc,hH1,hP1,hb1,hlt1⟩:=zDn label (w.alloc (.cells (Array.replicate 32 (.int .u8 0)) 202)) (by omega)
 have hH01:=Holds.below' hH0 hb1
 have hPs:=zDh W1 #[.slice (some ⟨(w.alloc (.cells (Array.replicate 32 (.int .u8 0)) 202)).heap.size,0,none⟩) label.size c] [label.data.toList] 22 rfl (fun j hj=>by
  have hj0:j=0:=by simpa using hj
  subst hj0
  exact hP1)
 have hb2:Below W1.heap.size W1 (W1.alloc (.cells #[.slice (some ⟨(w.alloc (.cells (Array.replicate 32 (.int .u8 0)) 202)).heap.size,0,none⟩) label.size c] 22)):=(Below.refl _ _).alloc (Nat.le_refl _) _
 have hH02:=Holds.below' hH01 hb2
 rw[hs0] at hcv hPs hb2 hH02 hlt1
 have hb3:Below w.heap.size w (W1.alloc (.cells #[.slice (some ⟨w.heap.size+1,0,none⟩) label.size c] 22)):=(hb0.trans (hb1.mono (by omega))).trans (hb2.mono (by omega))
 clear hH0 hb0 hH1 hP1 hb1 hH01 hs0
 go_enter Tryz.func142,Tryz.ntmps142
 go_wp2_with fail
 refine (zDH w.heap.size (Array.replicate 32 0) ⟨#[108,111,103]⟩ (some ⟨W1.heap.size,0,none⟩) 1 1 [label.data.toList] _ (by decide) rfl (by decide) hPs hH02 (by simp)).mono ?_
 rintro e w4 ⟨rfl,hO4,hH4⟩
 go_wp2
 go_ret
 exact ⟨rfl,hb3.trans (hO4.below hb3.size (Nat.le_refl _)),hH4⟩
end SP
namespace SP
open Go.RowKit Go.Sort Go.Deep
theorem zE2 (b:Nat) (L:Bs) (label:ByteArray) (ta:Option Addr) (tl tc:Nat) (text:List UInt8) (w:World) (hlab:label.size≤1048576) (hL:Holds encB w b 0 L) (hl:L.size=32) (hT:PartOk w (.slice ta tl tc) text) :
 Calls Tryz.prog 89 #[.pointer (some ⟨b,0,none⟩),.string label,.slice ta tl tc] w fun e w'=>e=.returned (.tuple #[])∧Only b 0 32 w w'∧Holds encB w' b 0 (sayL L label.data.toList text):=by
 have hb:=Holds.lt hL (by omega)
 obtain ⟨c,W1,hcv,hc,hH1,hP1,hb1,hlt1⟩:=zDn label w (by omega)
 have hL1:=Holds.below hL hb1 hb
 have hT1:=hT.below hb1
 have hPs:=zDh W1 #[.slice (some ⟨b,0,none⟩) 32 32,.slice (some ⟨w.heap.size,0,none⟩) label.size c,.slice ta tl tc] [L.toList,label.data.toList,text] 22 rfl (fun j hj=>by
  have hj3:j<3:=hj
  match j,hj3 with
  | 0,_=>exact zF2 hL1 hl
  | 1,_=>exact hP1
  | 2,_=>exact hT1)
 have hb2:Below W1.heap.size W1 (W1.alloc (.cells #[.slice (some ⟨b,0,none⟩) 32 32,.slice (some ⟨w.heap.size,0,none⟩) label.size c,.slice ta tl tc] 22)):=(Below.refl _ _).alloc (Nat.le_refl _) _
 have hL2:=Holds.below' hL1 hb2
 have hO2:Only b 0 32 w (W1.alloc (.cells #[.slice (some ⟨b,0,none⟩) 32 32,.slice (some ⟨w.heap.size,0,none⟩) label.size c,.slice ta tl tc] 22)):=(Only.of_below hb1 rfl hb).alloc (by omega) _
 clear hH1 hP1 hT1 hT hb2
 go_enter Tryz.func89,Tryz.ntmps89
 go_wp2_with fail
 refine (zDH b L ⟨#[115,97,121]⟩ (some ⟨W1.heap.size,0,none⟩) 3 3 [L.toList,label.data.toList,text] _ (by decide) rfl (by decide) hPs hL2 hl).mono ?_
 rintro e w4 ⟨rfl,hO4,hH4⟩
 go_wp2
 go_end0
 exact ⟨rfl,hO2.trans hO4,hH4⟩
theorem zPx (b:Nat) (L:Bs) (label:ByteArray) (n:Nat) (w:World) (hlab:label.size≤1048576) (hn:n≤1024) (hL:Holds encB w b 0 L) (hl:L.size=32) :
 Calls Tryz.prog 189 #[.pointer (some ⟨b,0,none⟩),.string label,.int .i64 n] w fun e w'=>∃ r,e=.returned (.tuple #[.slice (some ⟨r,0,none⟩) n n,.int .i64 0])∧w.heap.size≤r∧Only b 0 32 w w'∧Holds encB w' b 0 (zLy L label.data.toList)∧Holds encB w' r 0 (askL L label.data.toList n):=by
 have hb:=Holds.lt hL (by omega)
 obtain ⟨c,W1,hcv,hc,hH1,hP1,hb1,hlt1⟩:=zDn label w (by omega)
 have hL1:=Holds.below hL hb1 hb
 have hPs:=zDh W1 #[.slice (some ⟨b,0,none⟩) 32 32,.slice (some ⟨w.heap.size,0,none⟩) label.size c] [L.toList,label.data.toList] 22 rfl (fun j hj=>by
  have hj3:j<2:=hj
  match j,hj3 with
  | 0,_=>exact zF2 hL1 hl
  | 1,_=>exact hP1)
 have hb2:Below W1.heap.size W1 (W1.alloc (.cells #[.slice (some ⟨b,0,none⟩) 32 32,.slice (some ⟨w.heap.size,0,none⟩) label.size c] 22)):=(Below.refl _ _).alloc (Nat.le_refl _) _
 have hL2:=Holds.below' hL1 hb2
 have hO2:Only b 0 32 w (W1.alloc (.cells #[.slice (some ⟨b,0,none⟩) 32 32,.slice (some ⟨w.heap.size,0,none⟩) label.size c] 22)):=(Only.of_below hb1 rfl hb).alloc (by omega) _
 have d0:decide ((n:Int)<0)=false:=decide_eq_false (by omega)
 have d1:¬ (1024:Int)<(n:Int):=by omega
 clear hH1 hP1 hb2
 go_enter Tryz.func189,Tryz.ntmps189
 go_wp2_with fail
 refine (zH5 ⟨#[97,115,107]⟩ (some ⟨W1.heap.size,0,none⟩) 2 [L.toList,label.data.toList] _ (by decide) (by show 2≤1048576;omega) hPs).mono ?_
 rintro e w3 ⟨r3,rfl,hr3,hb3,hH3⟩
 have hL3:=Holds.below' hL2 hb3
 have hO3:=hO2.trans (Only.of_below hb3 rfl (Nat.lt_of_lt_of_le hb hO2.size))
 clear hPs hL2 hL1
 go_wp2_with fail
 refine (zFE (some ⟨r3,0,none⟩) r3 0 32 32 n _ _ (by omega) (zBQ _ _) (by omega) (by omega) (Or.inr ⟨rfl,hH3⟩)).mono ?_
 rintro e w4 ⟨r4,rfl,hr4,hb4,hH4⟩
 have hL4:=Holds.below' hL3 hb4
 have hs3:=hO3.size
 have hO4:=hO3.trans (Only.of_below hb4 rfl (by omega))
 have hA4:Holds encB w4 r4 0 (askL L label.data.toList n):=hH4
 have hs4:=hO4.size
 obtain ⟨c5,W5,hcv5,hc5,hH5,hP5,hb5,hlt5⟩:=zDn label w4 (by omega)
 have hL5:=Holds.below' hL4 hb5
 have hA5:=Holds.below' hA4 hb5
 have hPs5:=zDh W5 #[.slice (some ⟨b,0,none⟩) 32 32,.slice (some ⟨w4.heap.size,0,none⟩) label.size c5] [L.toList,label.data.toList] 22 rfl (fun j hj=>by
  have hj3:j<2:=hj
  match j,hj3 with
  | 0,_=>exact zF2 hL5 hl
  | 1,_=>exact hP5)
 have hb6:Below W5.heap.size W5 (W5.alloc (.cells #[.slice (some ⟨b,0,none⟩) 32 32,.slice (some ⟨w4.heap.size,0,none⟩) label.size c5] 22)):=(Below.refl _ _).alloc (Nat.le_refl _) _
 have hL6:=Holds.below' hL5 hb6
 have hA6:=Holds.below' hA5 hb6
 have hO6:Only b 0 32 w (W5.alloc (.cells #[.slice (some ⟨b,0,none⟩) 32 32,.slice (some ⟨w4.heap.size,0,none⟩) label.size c5] 22)):=hO4.trans ((Only.of_below hb5 rfl (by omega)).alloc (by omega) _)
 clear hH5 hP5 hH4 hA4 hA5 hL4 hL5 hH3 hcv hb6 hL3
 go_wp2_with fail
 refine (zDH b L ⟨#[97,115,107,101,100]⟩ (some ⟨W5.heap.size,0,none⟩) 2 2 [L.toList,label.data.toList] _ (by decide) rfl (by decide) hPs5 hL6 hl).mono ?_
 rintro e w7 ⟨rfl,hO7,hH7⟩
 clear hPs5
 have hA7:Holds encB w7 r4 0 (askL L label.data.toList n):=by
  intro j hj
  have h1:=hA6 j hj
  have h2:=World.block_lt_of_cell? _ _ h1.1
  have h3:=hO7.other (c:=r4) (o:=0+j) (by omega) h2
  rw[h3.1,h3.2]
  exact h1
 go_wp2
 go_ret2
 exact ⟨r4,rfl,by omega,hO6.trans hO7,hH7,hA7⟩
end SP
section
open Go.RowKit Go.Sort Go.Deep
variable {P:Nat} [NeZero P] {N:Nat}
theorem zCo {w W:World} {k0 k1 g0 g1 g2:Nat} (h:Kept w k0 [⟨k0,0,g0,g1,g2,0⟩,⟨k1,0,0,0,0,0⟩] W):W.cell? ⟨k0,0,none⟩=some (.int .u64 g0)∧W.cell? ⟨k0,1,none⟩=some (.int .u64 g1)∧W.cell? ⟨k0,2,none⟩=some (.int .u64 g2)∧W.cell? ⟨k0,3,none⟩=some (.int .u64 0)∧Kept w k0 [⟨k0,0,g0,g1,g2,0⟩,⟨k1,0,0,0,0,0⟩] W:=⟨h.head.c0,h.head.c1,h.head.c2,h.head.c3,h⟩
theorem zCA {w W:World} {k0 k1 g0 g1 g2:Nat} (h:W.cell? ⟨k0,0,none⟩=some (.int .u64 g0)∧W.cell? ⟨k0,1,none⟩=some (.int .u64 g1)∧W.cell? ⟨k0,2,none⟩=some (.int .u64 g2)∧W.cell? ⟨k0,3,none⟩=some (.int .u64 0)∧Kept w k0 [⟨k0,0,g0,g1,g2,0⟩,⟨k1,0,0,0,0,0⟩] W):Kept w k0 [⟨k0,0,g0,g1,g2,0⟩,⟨k1,0,0,0,0,0⟩] W:=h.2.2.2.2
theorem zI1 {w W:World} {k0 k1 g0 g1 g2:Nat} {o:Obj} (h:W.cell? ⟨k0,0,none⟩=some (.int .u64 g0)∧W.cell? ⟨k0,1,none⟩=some (.int .u64 g1)∧W.cell? ⟨k0,2,none⟩=some (.int .u64 g2)∧W.cell? ⟨k0,3,none⟩=some (.int .u64 0)∧Kept w k0 [⟨k0,0,g0,g1,g2,0⟩,⟨k1,0,0,0,0,0⟩] W):(W.alloc o).cell? ⟨k0,0,none⟩=some (.int .u64 g0)∧(W.alloc o).cell? ⟨k0,1,none⟩=some (.int .u64 g1)∧(W.alloc o).cell? ⟨k0,2,none⟩=some (.int .u64 g2)∧(W.alloc o).cell? ⟨k0,3,none⟩=some (.int .u64 0)∧Kept w k0 [⟨k0,0,g0,g1,g2,0⟩,⟨k1,0,0,0,0,0⟩] (W.alloc o):=zCo ((zCA h).alloc o)
theorem zHp {w W:World} {k0 k1 g0 g1 g2:Nat} {o:Obj} (h:W.drew.cell? ⟨k0,0,none⟩=some (.int .u64 g0)∧W.drew.cell? ⟨k0,1,none⟩=some (.int .u64 g1)∧W.drew.cell? ⟨k0,2,none⟩=some (.int .u64 g2)∧W.drew.cell? ⟨k0,3,none⟩=some (.int .u64 0)∧Kept w k0 [⟨k0,0,g0,g1,g2,0⟩,⟨k1,0,0,0,0,0⟩] W.drew):(W.alloc o).drew.cell? ⟨k0,0,none⟩=some (.int .u64 g0)∧(W.alloc o).drew.cell? ⟨k0,1,none⟩=some (.int .u64 g1)∧(W.alloc o).drew.cell? ⟨k0,2,none⟩=some (.int .u64 g2)∧(W.alloc o).drew.cell? ⟨k0,3,none⟩=some (.int .u64 0)∧Kept w k0 [⟨k0,0,g0,g1,g2,0⟩,⟨k1,0,0,0,0,0⟩] (W.alloc o).drew:=zCo (((zCA h).undrew).alloc o).drew
theorem zCE {w:World} {g o:Nat} {bs:Bs} (p l:Nat) (h:Holds encB w g o bs) (hp:p+l≤bs.size):Holds encB w g (o+p) (bs.extract p (p+l)):=by
 refine Holds.part h (by rw[Array.size_extract];omega) (fun j hj=>?_)
 rw[Array.size_extract] at hj
 rw[getElem!_pos (bs.extract p (p+l)) j (by rw[Array.size_extract];omega),getElem!_pos bs (p+j) (by omega),Array.getElem_extract]
theorem zHL {w:World} {g o:Nat} {bs:Bs} (f:Nat) (h:Holds encB w g o bs) (hf:f≤bs.size):Holds encB w g o (bs.extract 0 f):=by
 have:=zCE 0 f h (by omega)
 rwa[Nat.zero_add,Nat.add_zero] at this
def RedR (w:World) (k0 k1 g0 g1 g2 N:Nat) (s6:Value) (wx:World):Prop:=
 ∃ k6 a b c d:Nat,s6=.pointer (some ⟨k6,0,none⟩)∧Kept w k0 [⟨k6,0,a,b,c,d⟩,⟨k0,0,g0,g1,g2,0⟩,⟨k1,0,0,0,0,0⟩] wx∧k6≠k0∧k6≠k1∧k0≤k6 ∧
  Hid (Four (.agg #[.int .u64 a,.int .u64 b,.int .u64 c,.int .u64 d]) N)
theorem RedR.made {w w1:World} {k0 k1 g0 g1 g2 N a b c d:Nat} (KP:Kept w k0 [⟨k0,0,g0,g1,g2,0⟩,⟨k1,0,0,0,0,0⟩] w1) (hF:Hid (Four (.agg #[.int .u64 a,.int .u64 b,.int .u64 c,.int .u64 d]) N)) :
 RedR w k0 k1 g0 g1 g2 N (.pointer (some ⟨w1.heap.size,0,none⟩)) (w1.alloc (.cells #[.int .u64 a,.int .u64 b,.int .u64 c,.int .u64 d] 160)):=
 ⟨w1.heap.size,a,b,c,d,rfl,(KP.alloc _).cons (At4.made w1 160 a b c d rfl).blk,Nat.ne_of_gt KP.head.lt,Nat.ne_of_gt KP.tail.head.lt,KP.le,hF⟩
theorem RedR.put {w w1:World} {k0 k1 k6 g0 g1 g2 N a b c d x y z u:Nat} (KP:Kept w k0 [⟨k0,0,g0,g1,g2,0⟩,⟨k1,0,0,0,0,0⟩] w1) (T:At4 w1 k6 x y z u) (M7:k0≤k6) (N7:∀ x∈([⟨k0,0,g0,g1,g2,0⟩,⟨k1,0,0,0,0,0⟩]:List Blk),x.k<k6) (hF:Hid (Four (.agg #[.int .u64 a,.int .u64 b,.int .u64 c,.int .u64 d]) N)) :
 RedR w k0 k1 g0 g1 g2 N (.pointer (some ⟨k6,0,none⟩)) ((((w1.setCell ⟨k6,0,none⟩ (.int .u64 a)).setCell ⟨k6,1,none⟩ (.int .u64 b)).setCell ⟨k6,2,none⟩ (.int .u64 c)).setCell ⟨k6,3,none⟩ (.int .u64 d)):=
 ⟨k6,a,b,c,d,rfl,(KP.set4' M7 (fun x hx=>Nat.ne_of_gt (N7 x hx)) _ _ _ _).cons (T.self4 a b c d).blk,Nat.ne_of_gt (N7 ⟨k0,0,g0,g1,g2,0⟩ (by simp)),Nat.ne_of_gt (N7 ⟨k1,0,0,0,0,0⟩ (by simp)),M7,hF⟩
theorem zMc {P:Nat} (bs:Bs) (p:Nat) (hp:p+32≤bs.size):(beV (bs.extract p (p+32)).toList+top*(beV (bs.extract 0 p).toList%P))%P=beV (bs.extract 0 (p+32)).toList%P:=by
 have e:(bs.extract 0 (p+32)).toList=(bs.extract 0 p).toList++(bs.extract p (p+32)).toList:=by
  rw[← Array.toList_append,Array.extract_append_extract,Nat.min_eq_left (by omega),Nat.max_eq_right (by omega)]
 have l32:(bs.extract p (p+32)).toList.length=32:=by rw[Array.length_toList,Array.size_extract];omega
 have ht:256^32=top:=by unfold top;decide
 rw[e,zBe,l32,ht,Nat.add_comm,Nat.add_mod,Nat.mul_mod,Nat.mod_mod,← Nat.mul_mod,← Nat.add_mod,Nat.mul_comm]
theorem zH7 (g0 g1 g2 P g o n cap : Nat) (bs : Bs) (hG : Gap g0 g1 g2 P) (w : World) (hs : bs.size = n) (hc : n ≤ cap) (hg : g < w.heap.size) (hB : Holds encB w g o bs) :
    Calls Tryz.prog 187 #[.agg #[.int .u64 (g0 : Int), .int .u64 (g1 : Int), .int .u64 (g2 : Int), .int .u64 0], .slice (some ⟨g, o, none⟩) n cap] w (Ret fun e w' => Below w.heap.size w w' ∧ Four e (beV bs.toList % P)) := by
  obtain ⟨f, hf⟩ : ∃ f, f = n % 32 := ⟨_, rfl⟩
  have hf32 : f < 32 := by omega
  have hfn : f ≤ n := by omega
  have e1 : (n : Int) % 32 = (f : Int) := by omega
  have e2 : (f : Int) ≤ (cap : Int) := by omega
  have e3 : (f : Int) ≤ (n : Int) := by omega
  have e4 : f ≤ cap := by omega
  have hsz0 : (bs.extract 0 f).size = f := by rw [Array.size_extract]; omega
  have Hf : Hid (f = n % 32) := hf
  have HS : Hid ((bs.extract 0 f).size = f) := hsz0
  have hbs : f ≤ bs.size := by omega
  have HSZ : Hid (bs.size = n) := hs
  have HG : Hid (Gap g0 g1 g2 P) := hG
  clear hf hsz0 hG
  go_enter Tryz.func187, Tryz.ntmps187
  go_upto_region 2 with fail
  rw [e1]
  clear e1
  have PR := (At4.made w 162 g0 g1 g2 0 rfl).alloc (.cells #[.int .u64 0, .int .u64 0, .int .u64 0, .int .u64 0] 47)
  have RE := At4.made (w.alloc (.cells #[.int .u64 (g0 : Int), .int .u64 (g1 : Int), .int .u64 (g2 : Int), .int .u64 0] 162)) 47 0 0 0 0 (World.size_alloc _ _)
  have KP := ((Kept.mk1 (below2 w (.cells #[.int .u64 (g0 : Int), .int .u64 (g1 : Int), .int .u64 (g2 : Int), .int .u64 0] 162) (.cells #[.int .u64 0, .int .u64 0, .int .u64 0, .int .u64 0] 47)) (below2 w (.cells #[.int .u64 (g0 : Int), .int .u64 (g1 : Int), .int .u64 (g2 : Int), .int .u64 0] 162) (.cells #[.int .u64 0, .int .u64 0, .int .u64 0, .int .u64 0] 47)).size).cons RE.blk).cons PR.blk
  clear PR RE
  generalize World.alloc _ _ = W0 at KP ⊢
  generalize h1 : w.heap.size + 1 = k1 at KP ⊢
  have Q1 : Hid (w.heap.size ≤ k1) := by unfold Hid; omega
  generalize h0 : w.heap.size = k0 at KP Q1 hg ⊢
  have n01 : k0 ≠ k1 := by omega
  have H0 : Hid (w.heap.size = k0) := h0
  have HBS : Hid (Holds encB w g o bs) := hB
  clear h0 h1 hB hs
  go_cut [6] (fun s6 wx => RedR w k0 k1 g0 g1 g2 (beV (bs.extract 0 f).toList % P) s6 wx)
  case first =>
    go_region_held3 (fun w' => w'.cell? ⟨k0, 0, none⟩ = some (.int .u64 (g0 : Int)) ∧ w'.cell? ⟨k0, 1, none⟩ = some (.int .u64 (g1 : Int)) ∧ w'.cell? ⟨k0, 2, none⟩ = some (.int .u64 (g2 : Int)) ∧ w'.cell? ⟨k0, 3, none⟩ = some (.int .u64 0) ∧ Kept w k0 [⟨k0, 0, g0, g1, g2, 0⟩, ⟨k1, 0, 0, 0, 0, 0⟩] w') (first | (with_reducible exact zCo KP) | (with_reducible exact zCo KP.drew) | (with_reducible exact zHp (by assumption)) | (with_reducible exact zI1 (by assumption)) | (with_reducible exact zCo (KP.alloc _)) | (with_reducible exact zCo (KP.set4' M7 (fun x hx => Nat.ne_of_gt (N7 x hx)) _ _ _ _)) | (with_reducible exact zCo (KP.alloc _).drew) | (with_reducible exact zCo (KP.set4' M7 (fun x hx => Nat.ne_of_gt (N7 x hx)) _ _ _ _).drew) | fail) (first | (go_at_call 164; refine (zCb (some ⟨g, o, none⟩) g o f cap (bs.extract 0 f) _ (Nat.le_of_lt hf32) e4 HS.out (Or.inr ⟨rfl, zHL f (Holds.below HBS.out (zCA (by assumption)).bl hg) hbs⟩)).mono ?_; rintro e w1 ⟨v, rfl, hb1, hF1⟩; obtain ⟨a1, b1, c1, d1, rfl, ha1, hb1', hc1, hd1, es1⟩ := id hF1; clear es1; have HF1 : Hid (Four _ _) := hF1; clear hF1; (try (with_reducible have T1 := T.call hb1; clear T; have T := T1; clear T1)); (try (first | (with_reducible have T := (At4.made _ 160 0 0 0 0 rfl).call hb1) | (with_reducible have T := (At4.made _ 160 0 0 0 0 rfl).drew.call hb1)); have N7 := KP.lts; have M7 := KP.le); have KP1 := Kept.call (zCA (by assumption)) hb1; clear KP; have KP := KP1; clear KP1 hb1) | (go_at_call 166; refine (zCd _ _ HF1.out _).mono ?_; rintro e w1 ⟨v, rfl, hb1, rfl⟩; (try (with_reducible have T1 := T.call hb1; clear T; have T := T1; clear T1)); (try (first | (with_reducible have T := (At4.made _ 160 0 0 0 0 rfl).call hb1) | (with_reducible have T := (At4.made _ 160 0 0 0 0 rfl).drew.call hb1)); have N7 := KP.lts; have M7 := KP.le); have KP1 := Kept.call (zCA (by assumption)) hb1; clear KP; have KP := KP1; clear KP1 hb1) | (go_at_call 205; refine (zF9 g0 g1 g2 _ _ _ _ P HG.out.h0 HG.out.h1 HG.out.h2 HG.out.hor HG.out.hP HG.out.hP2 HF1.out (Four.mk (a := 0) (b := 0) (c := 0) (d := 0) (by decide) (by decide) (by decide) (by decide) rfl) _).mono ?_; rintro e w1 ⟨v, rfl, hb1, hF3⟩; obtain ⟨a', b', c', d', rfl, ha', hb', hc', hd', es3⟩ := id hF3; clear es3; have HF3 : Hid (Four _ _) := hF3; clear hF3; (try (with_reducible have T1 := T.call hb1; clear T; have T := T1; clear T1)); (try (first | (with_reducible have T := (At4.made _ 160 0 0 0 0 rfl).call hb1) | (with_reducible have T := (At4.made _ 160 0 0 0 0 rfl).drew.call hb1)); have N7 := KP.lts; have M7 := KP.le); have KP1 := Kept.call (zCA (by assumption)) hb1; clear KP; have KP := KP1; clear KP1 hb1; (try (obtain ⟨tc0, tc1, tc2, tc3, tf⟩ := id T; have zt := T.lt))))
    all_goals (try go_wp2)
    all_goals (rw [show val 0 0 0 0 = 0 from rfl, Nat.mul_zero, Nat.add_zero] at HF3)
    all_goals (go_meet; first | (with_reducible exact RedR.made KP HF3) | (with_reducible exact (RedR.made KP HF3).drew) | (with_reducible exact RedR.put KP T M7 N7 HF3) | (with_reducible exact (RedR.put KP T M7 N7 HF3).drew) | fail)
  case rest =>
    clear KP
    obtain ⟨k6, a, b, c, d, rfl, KP, n60, n61, M6, HF⟩ := hcut
    have f0 : (0 : Int) ≤ (f : Int) := Int.natCast_nonneg _
    go_upto_region 3 with fail
    go_cut [1] (fun s1 wx => ∃ q : Nat, s1 = .slice (some ⟨g, q, none⟩) (n - f) (cap - f) ∧ Hid (0 < n - f → q = o + f) ∧ Kept w k0 [⟨k6, 0, a, b, c, d⟩, ⟨k0, 0, g0, g1, g2, 0⟩, ⟨k1, 0, 0, 0, 0, 0⟩] wx)
    case first =>
      by_cases ec : cap = f
      · have en : n = f := by omega
        have HEN : Hid (n = f ∧ cap = f) := ⟨en, ec⟩
        go_wp2
        go_meet
        refine ⟨o, ?_, fun h => ?_, KP⟩
        · rw [HEN.out.1, HEN.out.2]; try simp
        · have := HEN.out.1; omega
      · go_wp2
        go_meet
        exact ⟨o + f, rfl, fun _ => rfl, KP⟩
    case rest =>
    clear KP
    obtain ⟨q0, rfl, HQ0, KP⟩ := hcut
    go_wp2_with fail
    go_loopg [1] (n - f) (fun gk s1 wr => ∃ (l q lc a b c d : Nat), gk = l ∧ l ≤ n ∧ s1 = .slice (some ⟨g, q, none⟩) l lc ∧ Hid (l % 32 = 0 ∧ (0 < l → q = o + (n - l)) ∧ lc = cap - (n - l)) ∧ Kept w k0 [⟨k6, 0, a, b, c, d⟩, ⟨k0, 0, g0, g1, g2, 0⟩, ⟨k1, 0, 0, 0, 0, 0⟩] wr ∧
      Hid (Four (.agg #[.int .u64 (a : Int), .int .u64 (b : Int), .int .u64 (c : Int), .int .u64 (d : Int)]) (beV (bs.extract 0 (n - l)).toList % P)))
    case atStart =>
      refine ⟨n - f, q0, cap - f, a, b, c, d, rfl, by omega, rfl, ⟨by have := Hf.out; omega, fun h => by have := HQ0.out h; omega, by omega⟩, KP, ?_⟩
      rw [show n - (n - f) = f by omega]
      exact HF
    case round =>
      clear KP HF
      obtain ⟨l, q, lc, a, b, c, d, hgk, hln, rfl, HQ3, KP, HF⟩ := hrel
      clear e2 e3 e4 f0 hbs HS hf32 hfn HQ0
      have hlcl : l ≤ lc := by have := HQ3.out; omega
      by_cases h0 : l = 0
      · subst h0
        obtain ⟨xc0, xc1, xc2, xc3, xf⟩ := KP.head.at4
        have z7 := KP.head.lt
        go_wp2_with fail
        refine (zBU _ _ HF.out _).mono ?_
        rintro e w3 ⟨v, rfl, hb3, rfl⟩
        have KP3 := KP.call hb3
        clear hb3 xc0 xc1 xc2 xc3 xf z7 KP
        obtain ⟨rc0, rc1, rc2, rc3, rf⟩ := KP3.tail.tail.head.at4
        have z3 := KP3.tail.tail.head.lt
        go_wp2
        have RF := KP3.tail.tail.head.at4.self4 a b c d
        unfold set4 at RF
        refine bodyPost_ret (v := ?v) ?hr rfl ?hR
        case hr => simp [results, Tryz.results187, go_sem, RF.c0, RF.c1, RF.c2, RF.c3]; rfl
        refine ⟨_, rfl, ?_, ?_⟩
        · rw [H0.out]
          exact zAc KP3.bl Q1.out _ _ _ _
        · have := HF.out
          rw [Nat.sub_zero, ← HSZ.out, Array.extract_size] at this
          exact this
      · have h32 : 32 ≤ l := by have := HQ3.out; omega
        have HQ : Hid (o + (n - l) = q) := (HQ3.out.2.1 (by omega)).symm
        have h32c : 32 ≤ lc := by omega
        have i1 : (32 : Int) ≤ (lc : Int) := by omega
        have i2 : (32 : Int) ≤ (l : Int) := by omega
        have i3 : (0 : Int) < (l : Int) := by omega
        have HSL : Hid (n - l + 32 ≤ bs.size) := by unfold Hid; have := HSZ.out; omega
        have HS3 : Hid ((bs.extract (n - l) (n - l + 32)).size = 32) := by unfold Hid; rw [Array.size_extract]; have := HSL.out; omega
        obtain ⟨tc0, tc1, tc2, tc3, tf⟩ := KP.head.at4
        have zt := KP.head.lt
        obtain ⟨pc0, pc1, pc2, pc3, pf⟩ := KP.tail.head.at4
        have hl6 : ∀ x ∈ ([⟨k0, 0, g0, g1, g2, 0⟩, ⟨k1, 0, 0, 0, 0, 0⟩] : List Blk), k6 ≠ x.k := by simp only [List.mem_cons, List.not_mem_nil, or_false]; rintro x (rfl | rfl); exact n60; exact n61
        have HFF : Hid (_ = _) := zMc (P := P) bs (n - l) HSL.out
        go_wp2_with fail
        go_region_with (first | (go_at_call 164; refine (zCb (some ⟨g, q, none⟩) g q 32 lc (bs.extract (n - l) (n - l + 32)) _ (Nat.le_refl 32) h32c HS3.out (Or.inr ⟨rfl, HQ.out ▸ zCE (n - l) 32 (by first | (with_reducible exact Holds.below HBS.out KP.bl hg) | (with_reducible exact Holds.below HBS.out KP.drew.bl hg) | fail) HSL.out⟩)).mono ?_; rintro e w1 ⟨v, rfl, hb1, hF1⟩; obtain ⟨a1, b1, c1, d1, rfl, ha1, hb1', hc1, hd1, es1⟩ := id hF1; clear es1; have HF1 : Hid (Four _ _) := hF1; clear hF1; (first | (with_reducible have KP1 := KP.call hb1) | (with_reducible have KP1 := KP.drew.call hb1) | fail); clear KP; have KP := KP1; clear KP1 hb1; obtain ⟨tc0, tc1, tc2, tc3, tf⟩ := KP.head.at4; have zt := KP.head.lt; obtain ⟨pc0, pc1, pc2, pc3, pf⟩ := KP.tail.head.at4) | (go_at_call 166; refine (zCd _ _ HF1.out _).mono ?_; rintro e w1 ⟨v, rfl, hb1, rfl⟩; (first | (with_reducible have KP1 := KP.call hb1) | (with_reducible have KP1 := KP.drew.call hb1) | fail); clear KP; have KP := KP1; clear KP1 hb1; obtain ⟨tc0, tc1, tc2, tc3, tf⟩ := KP.head.at4; have zt := KP.head.lt; obtain ⟨pc0, pc1, pc2, pc3, pf⟩ := KP.tail.head.at4) | (go_at_call 205; refine (zF9 g0 g1 g2 _ _ _ _ P HG.out.h0 HG.out.h1 HG.out.h2 HG.out.hor HG.out.hP HG.out.hP2 HF1.out HF.out _).mono ?_; rintro e w1 ⟨v, rfl, hb1, hF3⟩; obtain ⟨a', b', c', d', rfl, ha', hb', hc', hd', es3⟩ := id hF3; clear es3; have HF3 : Hid (Four _ _) := hF3; clear hF3; (first | (with_reducible have KP1 := KP.call hb1) | (with_reducible have KP1 := KP.drew.call hb1) | fail); clear KP; have KP := KP1; clear KP1 hb1; obtain ⟨tc0, tc1, tc2, tc3, tf⟩ := KP.head.at4; have zt := KP.head.lt; obtain ⟨pc0, pc1, pc2, pc3, pf⟩ := KP.tail.head.at4))
        all_goals (rw [HFF.out] at HF3)
        all_goals (by_cases i4 : lc = 32)
        all_goals (try go_wp2)
        all_goals
          (go_roundg (l - 32)
           case measure => omega
           case rel =>
            first
              | refine ⟨l - 32, q + 32, lc - 32, a', b', c', d', rfl, by omega, rfl, ⟨by have := HQ3.out; omega, fun _ => by have := HQ.out; omega, by have := HQ3.out; omega⟩, ?_, ?_⟩
              | refine ⟨l - 32, q, lc - 32, a', b', c', d', rfl, by omega, by first | rfl | (rw [i4]), ⟨by have := HQ3.out; omega, fun h => by omega, by have := HQ3.out; omega⟩, ?_, ?_⟩
              | fail
            · first | (with_reducible exact KP.put M6 hl6 a' b' c' d') | (with_reducible exact (KP.put M6 hl6 a' b' c' d').drew) | fail
            · rw [show n - (l - 32) = n - l + 32 by omega]; exact HF3)
def sPl (N a b:Nat):Nat:=(a+b)%N
theorem zOe (O:Ord N) {a b:Nat} (ha:a<N) (hb:b<N):Gives 145 #[gv1,nv a,nv b] (nv (sPl N a b)):=fun w =>
 (zIH _ _ _ N _ _ a b O.gap (O.four ha) (O.four hb) ha hb w).mono (by rintro e w' ⟨v,rfl,hb,hF⟩;exact ⟨_,rfl,hb,hF.nv⟩)
theorem zNi (O:Ord N) (a b:Nat) (ha:a<N) (hb:b<N):Gives 92 #[(nv a),(nv b)] (nv (sPl N a b)):=by
 intro w
 go_enter Tryz.func92,Tryz.ntmps92
 refine RG.M.enter [(0,(.v (nv a))),(1,(.v (nv b)))] 12 (by kernel_rfl) ?_
 intro a0 M0
 repeat refine wp_seq ?_
 refine M0.t [.m 2 [] 0,.m 3 [] 1,.m 4 [] 2] [(0,(wn a)),(1,(wn b)),(2,(RG.z 4))] [] [(wn a),(wn b),(RG.z 4)] [(2,(.p 0 0)),(3,(.p 1 0)),(4,(.p 2 0))] ⟨RG.mk 0 49,RG.mk 1 49,RG.mk 2 49,trivial⟩ ?_
 intro j1 i1 m1 a1 w1 M1
 repeat refine wp_seq ?_
 refine M1.d [.c 5 [] gv1,.s 6 [] (.p 0 0),.x 7 [(6,1)] (nv a),.s 8 [] (.p 1 0),.x 9 [(8,3)] (nv b),.c 10 [(5,0),(7,2),(9,4)] (nv (sPl N a b)),.x 11 [(10,5)] (nv (sPl N a b)),.u [(11,6)] 2] [] [(2,7,(wn (sPl N a b)))] [(wn a),(wn b),(wn (sPl N a b))] [(4,(.p 2 0))] ⟨RG.cl (zBE),RG.st,RG.ld u38 i38,RG.st,RG.ld u38 i38,RG.cl (zOe O ha hb),RG.st,RG.pt i40,trivial⟩ ?_
 intro a2 w2 M2
 refine wp_ret ?_
 refine bodyPost_ret (v:=(nv (sPl N a b))) (RG.zAb M2.st 4 49 rfl 2 _ rfl (M2.at (s:=(.p 2 0))) u40 i40) M2.sl.defers ?_
 exact ⟨_,rfl,M2.st.bel.below,rfl⟩
def redu (N:Nat) (bs:Bs):Nat:=beV bs.toList%N
def zRj (v:Value) (n:Nat):List RG.It:=[.c 3 [] gv1,.x 4 [] v,.c 5 [(3,0),(4,1)] (nv n),.x 6 [(5,2)] (nv n),.u [(6,3)] 0]
theorem zGE (O:Ord N) (g:Nat) (bs:Bs) (hs:bs.size=64) (w:World) (hg:g<w.heap.size) (hB:Holds encB w g 0 bs):Calls Tryz.prog 138 #[.slice (some ⟨g,0,none⟩) 64 64] w (Ret fun e w'=>Below w.heap.size w w'∧e=nv (redu N bs)):=by
 have hc:∀ w',RG.BelX w.heap.size [] w w'→Calls Tryz.prog 187 #[gv1,.slice (some ⟨g,0,none⟩) 64 64] w' (Ret fun e w''=>Below w'.heap.size w' w''∧e=nv (redu N bs)):=fun w' hb =>
  (zH7 _ _ _ N g 0 64 64 bs O.gap w' hs (Nat.le_refl _) (Nat.lt_of_lt_of_le hg hb.below.size) (Holds.below hB hb.below hg)).mono (by rintro e w'' ⟨v,rfl,hb,hF⟩;exact ⟨_,rfl,hb,hF.nv⟩)
 go_enter Tryz.func138,Tryz.ntmps138
 refine RG.M.enter [(0,(.v (.slice (some ⟨g,0,none⟩) 64 64)))] 7 (by kernel_rfl) ?_
 intro a0 M0
 repeat refine wp_seq ?_
 refine M0.t [.m 2 [] 0] [(0,(RG.z 4))] [] [(RG.z 4)] [(0,(.v (.slice (some ⟨g,0,none⟩) 64 64))),(2,(.p 0 0))] ⟨RG.mk 0 49,trivial⟩ ?_
 intro j1 a1 w1 M1
 repeat refine wp_seq ?_
 refine M1.t (zRj (.slice (some ⟨g,0,none⟩) 64 64) (redu N bs)) [] [(0,4,(wn (redu N bs)))] [(wn (redu N bs))] [(2,(.p 0 0))] ⟨RG.cl (zBE),RG.st,RG.clB (fun _ _=>by kernel_rfl) hc,RG.st,RG.pt i40,trivial⟩ ?_
 intro a2 w2 M2
 refine wp_ret ?_
 refine bodyPost_ret (v:=(nv (redu N bs))) (RG.zAb M2.st 2 49 rfl 0 _ rfl (M2.at (s:=(.p 0 0))) u40 i40) M2.sl.defers ?_
 exact ⟨_,rfl,M2.st.bel.below,rfl⟩
theorem zJ2 (O:Ord N) (bs:Bs):redu N bs<N:=Nat.mod_lt _ O.pos
def chL (N:Nat) (label:List UInt8) (ps:List (List UInt8)):Nat:=redu N (SP.zD1 (SP.tagL label ps).toList 64)
theorem zAi (w:World) (c:List Value) (T:TypeId):Row (w.alloc (.cells c.toArray T)) w.heap.size c:=
 have h:=RG.Made.alloc w c T
 ⟨h.lt,h.range,h.there⟩
theorem zCk (n:Nat):(wn n).toArray.all (·.oneCell')=true:=by kernel_rfl
theorem zLX (O:Ord N) (r2:Nat) (T:Bs) (w:World) (hTs:T.size=32) (hT:Holds encB w r2 0 T) :
 Calls Tryz.prog 86 #[.slice (some ⟨r2,0,none⟩) 32 32] w (Ret fun e w'=>Below w.heap.size w w'∧e=nv (redu N (SP.zD1 T.toList 64))):=by
 obtain ⟨S,hS⟩:∃ S,Hid (SP.zD1 T.toList 64=S):=⟨_,rfl⟩
 have hSs:S.size=64:=by rw[← hS.out];exact SP.zGy _ _
 rw[hS.out]
 obtain ⟨w1,hw1⟩:∃ w1,Hid (w.alloc (.cells #[.int .u64 0,.int .u64 0,.int .u64 0,.int .u64 0] 49)=w1):=⟨_,rfl⟩
 have K2:Hid (Row w1 w.heap.size [.int .u64 0,.int .u64 0,.int .u64 0,.int .u64 0]∧Below w.heap.size w w1∧Holds encB w1 r2 0 T):=by rw[← hw1.out];exact ⟨zAi w _ _,zAf w _,Holds.below hT (zAf w _) (Holds.lt hT (by omega))⟩
 clear hT
 go_enter Tryz.func86,Tryz.ntmps86
 go_wp2_with fail
 rw[hw1.out]
 clear hw1
 refine (SP.zFE (some ⟨r2,0,none⟩) r2 0 32 32 64 T w1 (by decide) hTs (Nat.le_refl _) (by decide) (Or.inr ⟨rfl,K2.out.2.2⟩)).mono ?_
 rintro e w3 ⟨r3,rfl,h1,h2,h3⟩
 rw[hS.out] at h3
 have K3:Hid (Row w3 w.heap.size [.int .u64 0,.int .u64 0,.int .u64 0,.int .u64 0]∧Below w.heap.size w w3∧Holds encB w3 r3 0 S):=⟨K2.out.1.below h2,K2.out.2.1.trans (h2.mono K2.out.2.1.size),h3⟩
 clear h1 h2 h3 K2
 go_wp2_with fail
 refine (zGE O r3 S hSs w3 (Holds.lt K3.out.2.2 (by omega)) K3.out.2.2).mono ?_
 rintro e w4 ⟨v,rfl,hb4,rfl⟩
 have K4:Hid (Row w4 w.heap.size [.int .u64 0,.int .u64 0,.int .u64 0,.int .u64 0]∧Below w.heap.size w w4):=⟨K3.out.1.below hb4,K3.out.2.1.trans (hb4.mono K3.out.2.1.size)⟩
 clear hb4 K3
 obtain ⟨m,hm⟩:∃ m,Hid (redu N S=m):=⟨_,rfl⟩
 rw[hm.out]
 obtain ⟨w5,hw5⟩:∃ w5,Hid (w4.setCells w.heap.size 0 (wn m)=w5):=⟨_,rfl⟩
 have K5:Hid (Row w5 w.heap.size (wn m)∧Below w.heap.size w w5):=by rw[← hw5.out];exact ⟨K4.out.1.put rfl,RG.below_setCells (Nat.le_refl _) _ _ _ K4.out.2⟩
 obtain ⟨vm,hvm⟩:∃ vm,Hid (nv m=vm):=⟨_,rfl⟩
 rw[hvm.out]
 go_wp2_with (refine wpList_store_mid rfl 49 _ _ rfl w.heap.size 0 (wn m).toArray ?_ ?_ ?_ ?_ ?_ ?_;rfl;exact hvm.out.symm;exact K4.out.1.2.2;exact i40;exact zCk m;rw[show (wn m).toArray.toList=wn m from rfl,hw5.out])
 refine bodyPost_ret (zAv 2 49 rfl K5.out.1 rfl u40 i40) rfl ?_
 exact ⟨_,rfl,K5.out.2,by rw[hm.out];rfl⟩
theorem zMU (O:Ord N) (label:ByteArray) (pa:Option Addr) (n cap:Nat) (ps:List (List UInt8)) (w:World) (hlab:label.size≤1048576) (hn:ps.length=n) (hn2:n≤1048576) (hP:SP.PartsOk w pa ps) :
 Calls Tryz.prog 33 #[.string label,.slice pa n cap] w (Ret fun e w'=>Below w.heap.size w w'∧e=nv (chL N label.data.toList ps)):=by
 obtain ⟨T,hT⟩:∃ T,Hid (SP.tagL label.data.toList ps=T):=⟨_,rfl⟩
 have hTs:T.size=32:=by rw[← hT.out];exact SP.zBQ _ _
 have hr:chL N label.data.toList ps=redu N (SP.zD1 T.toList 64):=by unfold chL;rw[hT.out]
 rw[hr]
 clear hr
 obtain ⟨w1,hw1⟩:∃ w1,Hid (w.alloc (.cells #[.int .u64 0,.int .u64 0,.int .u64 0,.int .u64 0] 49)=w1):=⟨_,rfl⟩
 have hR1:Hid (Row w1 w.heap.size [.int .u64 0,.int .u64 0,.int .u64 0,.int .u64 0]∧Below w.heap.size w w1):=by rw[← hw1.out];exact ⟨zAi w _ _,zAf w _⟩
 have hTag:Hid (Calls Tryz.prog 87 #[.string label,.slice pa n cap] w1 fun e w'=>∃ r,e=.returned (.slice (some ⟨r,0,none⟩) 32 32)∧w1.heap.size≤r∧Below w1.heap.size w1 w'∧Holds encB w' r 0 T):=by
  subst hn
  rw[← hT.out]
  exact SP.zH5 label pa cap ps w1 hlab hn2 (hP.below hR1.out.2)
 clear hP hn hn2
 go_enter Tryz.func33,Tryz.ntmps33
 go_wp2_with fail
 rw[hw1.out]
 clear hw1
 refine hTag.out.mono ?_
 rintro e w2 ⟨r2,rfl,h1,h2,h3⟩
 have K2:Hid (Row w2 w.heap.size [.int .u64 0,.int .u64 0,.int .u64 0,.int .u64 0]∧Below w.heap.size w w2∧Holds encB w2 r2 0 T):=⟨hR1.out.1.below h2,hR1.out.2.trans (h2.mono hR1.out.2.size),h3⟩
 clear h1 h2 h3 hTag hR1
 go_wp2_with fail
 refine (zLX O r2 T w2 hTs K2.out.2.2).mono ?_
 rintro e w4 ⟨v,rfl,hb4,rfl⟩
 have K4:Hid (Row w4 w.heap.size [.int .u64 0,.int .u64 0,.int .u64 0,.int .u64 0]∧Below w.heap.size w w4):=⟨K2.out.1.below hb4,K2.out.2.1.trans (hb4.mono K2.out.2.1.size)⟩
 clear hb4 K2
 obtain ⟨m,hm⟩:∃ m,Hid (redu N (SP.zD1 T.toList 64)=m):=⟨_,rfl⟩
 rw[hm.out]
 obtain ⟨w5,hw5⟩:∃ w5,Hid (w4.setCells w.heap.size 0 (wn m)=w5):=⟨_,rfl⟩
 have K5:Hid (Row w5 w.heap.size (wn m)∧Below w.heap.size w w5):=by rw[← hw5.out];exact ⟨K4.out.1.put rfl,RG.below_setCells (Nat.le_refl _) _ _ _ K4.out.2⟩
 obtain ⟨vm,hvm⟩:∃ vm,Hid (nv m=vm):=⟨_,rfl⟩
 rw[hvm.out]
 go_wp2_with (refine wpList_store_mid rfl 49 _ _ rfl w.heap.size 0 (wn m).toArray ?_ ?_ ?_ ?_ ?_ ?_;rfl;exact hvm.out.symm;exact K4.out.1.2.2;exact i40;exact zCk m;rw[show (wn m).toArray.toList=wn m from rfl,hw5.out])
 refine bodyPost_ret (zAv 4 49 rfl K5.out.1 rfl u40 i40) rfl ?_
 exact ⟨_,rfl,K5.out.2,by rw[hm.out];rfl⟩
end
section
open Go.RowKit Go.Sort Go.Deep
section
variable {P:Program} {ops:Array Oper} {rest:List Oper} {op:Oper} {a:Act} {w w':World} {v:Value} {Q:Exit→Act→World→Prop}
theorem zAp (hgd:op.guard=none) (X:Op) (_:op.op=X) (hr:(execOp a.eval op).run P w=.ok (.value v) w') (h:wpList P ops Q rest (a.put op.dst v) w'):wpList P ops Q (op :: rest) a w:=
 wpList_plain hgd fun K hK=>by
  unfold Oper.wp
  rw[hr]
  exact hK _ _ h
end
variable {N:Nat}
theorem Row.only {W W':World} {k b o n:Nat} {vs:List Value} (h:Row W k vs) (hO:SP.Only b o n W W') (hne:k≠b):Row W' k vs:=by
 refine ⟨Nat.lt_of_lt_of_le h.1 hO.size,fun j v hj=>?_,fun j hj=>?_⟩
 ·rw[(hO.other (c:=k) (o:=0+j) hne h.1).1];exact h.2.1 j v hj
 ·have h1:=h.2.2 j hj
  have h2:=hO.other (c:=k) (o:=0+j) hne h.1
  exact ⟨by rw[h2.1];exact h1.1,by rw[h2.2];exact h1.2⟩
theorem zB8 {w W:World} {y o n k:Nat} {vs:List Value} (h:SP.Only y o n w W) (hy:y<w.heap.size) (hk:w.heap.size≤k) (q:Nat):SP.Only y o n w (W.setCells k q vs):=
 have hb:Below w.heap.size W (W.setCells k q vs):=RG.below_setCells hk _ _ _ (Below.refl _ _)
 ⟨hb.os.trans h.os,hb.tape.trans h.tape,hb.output.trans h.output,Nat.le_trans h.size hb.size,fun j hj hne=>(hb.block j hj).trans (h.block j hj hne),fun p hp=>(World.cell?_of_block (a:=⟨y,p,none⟩) (hb.block y hy)).trans (h.cell p hp),fun p=>(World.frozen?_of_block (a:=⟨y,p,none⟩) (hb.block y hy)).trans (h.froz p)⟩
theorem Hid.mk' {p:Prop} (h:p):Hid p:=h
theorem u124:(Tryz.prog.underlying 131).map (·.isRow)=some true:=by kernel_rfl
theorem i124:(Tryz.prog.info? 131).map (·.size)=some 1:=by kernel_rfl
theorem zJT (label:ByteArray) (w:World) (hlab:label.size≤1048576):Calls Tryz.prog 88 #[.string label] w (Ret fun e w'=>Below w.heap.size w w'∧∃ r,e=.agg #[.pointer (some ⟨r,0,none⟩)]∧w.heap.size≤r∧r<w'.heap.size∧Holds encB w' r 0 (SP.newL label.data.toList)):=by
 obtain ⟨L,hL⟩:∃ L,Hid (SP.newL label.data.toList=L):=⟨_,rfl⟩
 have hLs:L.size=32:=by rw[← hL.out];exact SP.zEK _
 rw[hL.out]
 obtain ⟨w1,hw1⟩:∃ w1,Hid (w.alloc (.cells #[.pointer none] 131)=w1):=⟨_,rfl⟩
 have K1:Hid (Row w1 w.heap.size [.pointer none]∧Below w.heap.size w w1):=by rw[← hw1.out];exact ⟨zAi w _ _,zAf w _⟩
 go_enter Tryz.func88,Tryz.ntmps88
 go_wp2_with fail
 rw[hw1.out]
 clear hw1
 refine (SP.zJx label w1 hlab).mono ?_
 rintro e w2 ⟨rfl,hb2,hH2⟩
 rw[hL.out] at hH2
 have hlt:w1.heap.size<w2.heap.size:=Holds.lt hH2 (by omega)
 obtain ⟨r,hr⟩:∃ r,Hid (w1.heap.size=r):=⟨_,rfl⟩
 rw[hr.out] at hH2 hlt ⊢
 have hle:w.heap.size<r:=by rw[← hr.out];exact K1.out.1.1
 have K2:Hid (Row w2 w.heap.size [.pointer none]∧Below w.heap.size w w2∧Holds encB w2 r 0 L):=⟨K1.out.1.below hb2,K1.out.2.trans (hb2.mono K1.out.2.size),hH2⟩
 clear hb2 hH2 K1 hr
 obtain ⟨w5,hw5⟩:∃ w5,Hid (w2.setCells w.heap.size 0 [.pointer (some ⟨r,0,none⟩)]=w5):=⟨_,rfl⟩
 have K5:Hid (Row w5 w.heap.size [.pointer (some ⟨r,0,none⟩)]∧Below w.heap.size w w5∧Holds encB w5 r 0 L∧r<w5.heap.size):=by
  rw[← hw5.out]
  refine ⟨K2.out.1.put rfl,RG.below_setCells (Nat.le_refl _) _ _ _ K2.out.2.1,fun j hj=>?_,by rw[RG.setCells_size];exact hlt⟩
  have h:=K2.out.2.2 j hj
  have e:=RG.zAP w.heap.size [.pointer (some ⟨r,0,none⟩)] 0 w2 r (by omega)
  rw[World.cell?_of_block (a:=⟨r,0+j,none⟩) e,World.frozen?_of_block (a:=⟨r,0+j,none⟩) e]
  exact h
 go_wp2_with (refine zAp (v:=.agg #[.pointer (some ⟨r,0,none⟩)]) (w':=w2) rfl (.build 131 _) rfl ?_ ?_;kernel_rfl;refine Hid.out ?_)
 show wpList _ _ _ _ _ _
 refine wpList_store_mid rfl 131 _ _ rfl w.heap.size 0 #[.pointer (some ⟨r,0,none⟩)] ?_ ?_ ?_ ?_ ?_ ?_
 ·kernel_rfl
 ·kernel_rfl
 ·exact K2.out.1.2.2
 ·exact i124
 ·kernel_rfl
 rw[show (#[Value.pointer (some ⟨r,0,none⟩)]).toList=[.pointer (some ⟨r,0,none⟩)] from rfl,hw5.out]
 go_wp2
 refine bodyPost_ret (zAv 2 131 rfl K5.out.1 rfl u124 i124) rfl ?_
 exact ⟨_,rfl,K5.out.2.1,r,rfl,by omega,K5.out.2.2.2,K5.out.2.2.1⟩
def cha (N:Nat) (L:Bs):Nat:=redu N (SP.askL L [99,104,97,108,108,101,110,103,101] 64)
theorem zJS (O:Ord N) (r:Nat) (L:Bs) (lab:ByteArray) (w:World) (hlab:lab.size≤1048576) (hL:Holds encB w r 0 L) (hl:L.size=32) :
 Calls Tryz.prog 144 #[.agg #[.pointer (some ⟨r,0,none⟩)],.string lab] w (Ret fun e w'=>SP.Only r 0 32 w w'∧e=nv (redu N (SP.askL L lab.data.toList 64))):=by
 obtain ⟨A,hA⟩:∃ A,Hid (SP.askL L lab.data.toList 64=A):=⟨_,rfl⟩
 have hAs:A.size=64:=by rw[← hA.out];exact SP.zG7 _ _ _
 rw[hA.out]
 have hr:=Holds.lt hL (by omega)
 obtain ⟨w1,hw1⟩:∃ w1,Hid ((w.alloc (.cells #[.pointer (some ⟨r,0,none⟩)] 131)).alloc (.cells #[.int .u64 0,.int .u64 0,.int .u64 0,.int .u64 0] 49)=w1):=⟨_,rfl⟩
 have K1:Hid (Row w1 (w.heap.size+1) [.int .u64 0,.int .u64 0,.int .u64 0,.int .u64 0]∧Below w.heap.size w w1∧Holds encB w1 r 0 L):=by
  rw[← hw1.out]
  have hb:Below w.heap.size w ((w.alloc (.cells #[.pointer (some ⟨r,0,none⟩)] 131)).alloc (.cells #[.int .u64 0,.int .u64 0,.int .u64 0,.int .u64 0] 49)):=(zAf w _).alloc (by rw[World.size_alloc];omega) _
  have hR:=zAi (w.alloc (.cells #[.pointer (some ⟨r,0,none⟩)] 131)) [.int .u64 0,.int .u64 0,.int .u64 0,.int .u64 0] 49
  rw[World.size_alloc] at hR
  exact ⟨hR,hb,Holds.below hL hb hr⟩
 clear hL
 go_enter Tryz.func144,Tryz.ntmps144
 go_wp2_with fail
 rw[hw1.out]
 clear hw1
 refine (SP.zPx r L lab 64 w1 hlab (by decide) K1.out.2.2 hl).mono ?_
 rintro e w2 ⟨r2,rfl,h1,hO,-,hA2⟩
 rw[hA.out] at hA2
 have K2:Hid (Row w2 (w.heap.size+1) [.int .u64 0,.int .u64 0,.int .u64 0,.int .u64 0]∧SP.Only r 0 32 w w2∧Holds encB w2 r2 0 A):=⟨K1.out.1.only hO (by omega),(SP.Only.of_below K1.out.2.1 rfl hr).trans hO,hA2⟩
 clear h1 hO hA2 K1
 go_wp2_with fail
 refine (zGE O r2 A hAs w2 (Holds.lt K2.out.2.2 (by omega)) K2.out.2.2).mono ?_
 rintro e w4 ⟨v,rfl,hb4,rfl⟩
 have K4:Hid (Row w4 (w.heap.size+1) [.int .u64 0,.int .u64 0,.int .u64 0,.int .u64 0]∧SP.Only r 0 32 w w4):=⟨K2.out.1.below hb4,K2.out.2.1.trans (SP.Only.of_below hb4 rfl (Nat.lt_of_lt_of_le hr K2.out.2.1.size))⟩
 clear hb4 K2
 obtain ⟨m,hm⟩:∃ m,Hid (redu N A=m):=⟨_,rfl⟩
 rw[hm.out]
 obtain ⟨w5,hw5⟩:∃ w5,Hid (w4.setCells (w.heap.size+1) 0 (wn m)=w5):=⟨_,rfl⟩
 have K5:Hid (Row w5 (w.heap.size+1) (wn m)∧SP.Only r 0 32 w w5):=by rw[← hw5.out];exact ⟨K4.out.1.put rfl,zB8 K4.out.2 hr (by omega) _⟩
 obtain ⟨vm,hvm⟩:∃ vm,Hid (nv m=vm):=⟨_,rfl⟩
 rw[hvm.out]
 go_wp2_with (refine wpList_store_mid rfl 49 _ _ rfl (w.heap.size+1) 0 (wn m).toArray ?_ ?_ ?_ ?_ ?_ ?_;rfl;exact hvm.out.symm;exact K4.out.1.2.2;exact i40;exact zCk m;rw[show (wn m).toArray.toList=wn m from rfl,hw5.out])
 refine bodyPost_ret (zAv 4 49 rfl K5.out.1 rfl u40 i40) rfl ?_
 exact ⟨_,rfl,K5.out.2,by rw[hm.out];rfl⟩
theorem zGC (O:Ord N) (r:Nat) (L:Bs) (w:World) (hL:Holds encB w r 0 L) (hl:L.size=32) :
 Calls Tryz.prog 90 #[.agg #[.pointer (some ⟨r,0,none⟩)]] w (Ret fun e w'=>SP.Only r 0 32 w w'∧e=nv (cha N L)):=by
 have hr:=Holds.lt hL (by omega)
 obtain ⟨w1,hw1⟩:∃ w1,Hid ((w.alloc (.cells #[.pointer (some ⟨r,0,none⟩)] 131)).alloc (.cells #[.int .u64 0,.int .u64 0,.int .u64 0,.int .u64 0] 49)=w1):=⟨_,rfl⟩
 have K1:Hid (Row w1 (w.heap.size+1) [.int .u64 0,.int .u64 0,.int .u64 0,.int .u64 0]∧Below w.heap.size w w1∧Holds encB w1 r 0 L∧w1.rangeAt w.heap.size 0 [.pointer (some ⟨r,0,none⟩)]):=by
  rw[← hw1.out]
  have hb:Below w.heap.size w ((w.alloc (.cells #[.pointer (some ⟨r,0,none⟩)] 131)).alloc (.cells #[.int .u64 0,.int .u64 0,.int .u64 0,.int .u64 0] 49)):=(zAf w _).alloc (by rw[World.size_alloc];omega) _
  have hR:=zAi (w.alloc (.cells #[.pointer (some ⟨r,0,none⟩)] 131)) [.int .u64 0,.int .u64 0,.int .u64 0,.int .u64 0] 49
  rw[World.size_alloc] at hR
  exact ⟨hR,hb,Holds.below hL hb hr,((zAi w [.pointer (some ⟨r,0,none⟩)] 131).alloc _).2.1⟩
 clear hL
 obtain ⟨d,hd1,hd2⟩:=Option.map_eq_some_iff.1 u124
 have HD:Hid (Tryz.prog.underlying 131=some d∧d.isRow=true):=⟨hd1,hd2⟩
 clear hd1 hd2
 have hS:=zJS O r L ⟨#[99,104,97,108,108,101,110,103,101]⟩ w1 (by decide) K1.out.2.2.1 hl
 have hcha:redu N (SP.askL L (⟨#[99,104,97,108,108,101,110,103,101]⟩:ByteArray).data.toList 64)=cha N L:=rfl
 rw[hcha] at hS
 clear hcha
 have HS:=Hid.mk' hS
 clear hS
 go_enter Tryz.func90,Tryz.ntmps90
 go_wp2_with (refine wpList_load_mid rfl 131 _ rfl w.heap.size 0 ?_ [.pointer (some ⟨r,0,none⟩)] d ?_ ?_ ?_ ?_ ?_;kernel_rfl;(rw[hw1.out];exact K1.out.2.2.2);exact HD.out.1;exact HD.out.2;exact i124;rw[hw1.out])
 refine HS.out.mono ?_
 rintro e w4 ⟨v,rfl,hO,rfl⟩
 have K4:Hid (Row w4 (w.heap.size+1) [.int .u64 0,.int .u64 0,.int .u64 0,.int .u64 0]∧SP.Only r 0 32 w w4):=⟨K1.out.1.only hO (by omega),(SP.Only.of_below K1.out.2.1 rfl hr).trans hO⟩
 clear hO K1 HS hw1
 obtain ⟨m,hm⟩:∃ m,Hid (cha N L=m):=⟨_,rfl⟩
 rw[hm.out]
 obtain ⟨w5,hw5⟩:∃ w5,Hid (w4.setCells (w.heap.size+1) 0 (wn m)=w5):=⟨_,rfl⟩
 have K5:Hid (Row w5 (w.heap.size+1) (wn m)∧SP.Only r 0 32 w w5):=by rw[← hw5.out];exact ⟨K4.out.1.put rfl,zB8 K4.out.2 hr (by omega) _⟩
 obtain ⟨vm,hvm⟩:∃ vm,Hid (nv m=vm):=⟨_,rfl⟩
 rw[hvm.out]
 go_wp2_with (refine wpList_store_mid rfl 49 _ _ rfl (w.heap.size+1) 0 (wn m).toArray ?_ ?_ ?_ ?_ ?_ ?_;rfl;exact hvm.out.symm;exact K4.out.1.2.2;exact i40;exact zCk m;rw[show (wn m).toArray.toList=wn m from rfl,hw5.out])
 refine bodyPost_ret (zAv 2 49 rfl K5.out.1 rfl u40 i40) rfl ?_
 exact ⟨_,rfl,K5.out.2,by rw[hm.out];rfl⟩
end
namespace SP
open Go.RowKit Go.Sort Go.Deep
attribute [local go_sem] zAS zA0 zAX zEi
theorem zBl (a b:Int) (n:Nat) (w:World) (ha:0≤a∧a≤1000) (hb:0≤b∧b≤1000) (h:a%5+5*(b%5)=(n:Int)) :
 Calls Tryz.prog 218 #[.int .i64 a,.int .i64 b] w fun e w'=>e=.returned (.int .i64 n)∧w'=w:=by
 obtain ⟨a1,a2⟩:=ha
 obtain ⟨b1,b2⟩:=hb
 rw[← h]
 clear h
 go_enter Tryz.func218,Tryz.ntmps218
 go_wp2
 go_ret
 exact ⟨rfl,rfl⟩
theorem zIt (x:BitVec 64) (k:Nat) (w:World) (hk:k<64) :
 Calls Tryz.prog 219 #[.int .u64 (u x),.int .i64 k] w fun e w'=>e=.returned (.int .u64 (u (rol x k)))∧∃ n,w'=w.drewN n:=by
 have h1:(0:Int)≤64-(k:Int):=by omega
 have h2:(64:Int)-(k:Int)≤64:=by omega
 have h3:(k:Int)≤64:=by omega
 have h4:IntKind.i64.wrap (64-(k:Int))=64-(k:Int):=IntWalk.i64_in _ (by omega)
 have h5:((64:Int)-(k:Int)).toNat=64-k:=by omega
 have s1:=zIT x k
 have s2:=zL1 x (64-k)
 go_enter Tryz.func219,Tryz.ntmps219
 go_wp2
 go_quiet (fail)
 go_wp2
 go_ret
 refine ⟨ret_int ?_,_,rfl⟩
 rfl
theorem zPp (t:Nat) (w:World) (ht:t≤1000) :
 Calls Tryz.prog 220 #[.int .i64 t] w fun e w'=>e=.returned (.int .u64 (u (bitL t)))∧w'=w:=by
 go_enter Tryz.func220,Tryz.ntmps220
 go_wp2
 go_loop [3,4] (fun s3 s4=>∃ (i q:Nat),i≤t∧s4=.int .i64 i∧s3=.int .i64 q∧q<256∧Hid (zJY i=q)) (fun _ s4=>t-(intOf s4).toNat)
 case atStart=>exact ⟨0,1,by omega,rfl,rfl,by decide,rfl⟩
 case round =>
  obtain ⟨i,q,hi,rfl,rfl,hq,HE⟩:=hrel
  by_cases hlt:i<t
  ·have a2:=zNm q hq
   rw[Int.mul_comm] at a2
   have hlt2:=zFW q hq
   have HC:Hid (zJY (i+1)=zD2 q):=by show zD2 (zJY i)=_;rw[HE.out]
   by_cases h255:255<2*q
   ·have HR:Hid (zD2 q=2*q ^^^ 369):=if_pos h255
    rw[HR.out] at hlt2
    generalize 2*q ^^^ 369=q2 at *
    go_wp2
    go_round
    case rel=>exact ⟨i+1,q2,by omega,by go_num,rfl,hlt2,by rw[HC.out,HR.out];rfl⟩
    case measure=>simp[intOf];omega
   ·have HR:Hid (zD2 q=2*q):=if_neg h255
    go_wp2
    go_round
    case rel=>exact ⟨i+1,2*q,by omega,by go_num,by go_num,by omega,by rw[HC.out,HR.out];rfl⟩
    case measure=>simp[intOf];omega
  ·have a1:=zNn q hq
   have hit:i=t:=by omega
   subst hit
   go_wp2
   go_ret
   unfold bitL
   rw[HE.out]
   exact ⟨rfl,rfl⟩
end SP
namespace SP
open Go.RowKit Go.Sort Go.Deep
attribute [local go_sem] zAS zA0 zAX zEi
theorem zI8 (j:Nat) (hj:j<7):min (IntKind.u64.wrap (IntKind.u64.wrap ((2:Int)^j)-1)).toNat 64=2^j-1:=by
 have H:∀ j:Fin 7,min (IntKind.u64.wrap (IntKind.u64.wrap ((2:Int)^j.val)-1)).toNat 64=2^j.val-1:=by decide +kernel
 exact H ⟨j,hj⟩
theorem zGY (r:Nat) (w:World) (hr:r<24) :
 Calls Tryz.prog 210 #[.int .i64 r] w fun e w'=>e=.returned (.int .u64 (u (conL r)))∧w'=w:=by
 go_enter Tryz.func210,Tryz.ntmps210
 go_wp2
 go_loop [3,4] (fun s3 s4=>∃ (j:Nat) (c:BitVec 64),j≤7∧s4=.int .i64 j∧s3=.int .u64 (u c)∧Hid (zK7 r j=c)) (fun _ s4=>7-(intOf s4).toNat)
 case atStart=>exact ⟨0,0,by omega,rfl,rfl,rfl⟩
 case round =>
  obtain ⟨j,c,hj,rfl,rfl,HE⟩:=hrel
  by_cases hlt:j<7
  ·have hj6:(j:Int)≤6:=by omega
   go_wp2_with fail
   rw[show (j:Int)+7*(r:Int)=((j+7*r:Nat):Int) from by omega]
   refine (zPp (j+7*r) _ (by omega)).mono ?_
   rintro e w' ⟨rfl,rfl⟩
   go_wp2
   go_round
   case rel =>
    refine ⟨j+1,zK7 r (j+1),by omega,by go_num,?_,rfl⟩
    rw[zI8 j hlt,zIT,zAX]
    show _=Value.int .u64 (u (zK7 r j ||| bitL (j+7*r) <<< (2^j-1)))
    rw[HE.out]
   case measure=>simp[intOf];omega
  ·have hj6:¬ (j:Int)≤6:=by omega
   have hj7:j=7:=by omega
   subst hj7
   go_wp2
   go_ret
   unfold conL
   rw[HE.out]
   exact ⟨rfl,rfl⟩
theorem zOb:Tryz.prog.underlying 249=some (.slice 3):=by kernel_rfl
theorem info3:(Tryz.prog.info? 3).map (fun i=>(i.zero,i.size,i.bytes))=some (some (.int .i64 0),1,8):=by kernel_rfl
theorem zQW {w:World} {b off:Nat} {d:Array Nat} (h:Holds encI w b off d) (i:Nat) (hi:i<d.size) {x:Nat} (hx:d[i]! = x) :
 w.cell? ⟨b,off+i,none⟩=some (.int .i64 x)∧w.frozen? ⟨b,off+i,none⟩=false:=by
 rw[← hx];exact h i hi
theorem offs_int' (t:Nat) (h:t<24):(wrap64 ((wrap64 (((t:Int)+1)*((t:Int)+2))).tdiv 2)).tmod 64=(offs t:Int):=by
 have H:∀ j:Fin 24,(wrap64 ((wrap64 (((j.val:Int)+1)*((j.val:Int)+2))).tdiv 2)).tmod 64=(offs j.val:Int):=by decide +kernel
 exact H ⟨t,h⟩
theorem zHA (w:World) :
 Calls Tryz.prog 208 #[] w fun e w'=>e=.returned (.slice (some ⟨w.heap.size,0,none⟩) 25 25)∧Below w.heap.size w w'∧Holds encI w' w.heap.size 0 zAU:=by
 have hmk:∀ w:World,(Instr.makeSlice 249 (.int .i64 25) (.int .i64 25)).run Tryz.prog w=.ok (.slice (some ⟨w.heap.size,0,none⟩) 25 25) (w.alloc (.cells (madeCells #[.int .i64 0] 25) 3)):=
  run_make_row' (P:=Tryz.prog) 249 3 (.int .i64 0) 8 zOb info3 rfl .i64 .i64 25 (by omega) (by omega)
 go_enter Tryz.func208,Tryz.ntmps208
 go_wp2
 generalize hW1:(w.alloc _)=W1
 go_loopg [2,3,4] 24 (fun g sx sy st wr=>∃ t T,t+g=24∧st=.int .i64 (t:Nat)∧sx=.int .i64 (T.x:Nat)∧sy=.int .i64 (T.y:Nat)∧Holds encI wr w.heap.size 0 T.o∧Only w.heap.size 0 25 W1 wr∧Hid (T=ofTo t))
 case atStart =>
  refine ⟨0,ofTo 0,rfl,rfl,rfl,rfl,?_,Only.refl _ _ _ _,rfl⟩
  rw[← hW1]
  exact Holds.made (enc:=encI) w 3 25 0
 case round =>
  obtain ⟨t,⟨x,y,o⟩,ht,rfl,rfl,rfl,hD,hO,HE⟩:=hrel
  have hok:=zOV t
  rw[← HE.out] at hok
  obtain ⟨hx,hy,hs⟩:=hok
  dsimp only at hx hy hs hD
  by_cases hlt:t<24
  ·obtain ⟨i,hi⟩:∃ i,x%5+5*(y%5)=i:=⟨_,rfl⟩
   have hib:i<25:=by omega
   obtain ⟨c,f⟩:=hD i (by omega)
   rw[Nat.zero_add] at c f
   have Hi:Hid (x%5+5*(y%5)=i):=hi
   have l24:(t:Int)<24:=by omega
   clear hi
   go_wp2_with fail
   refine (zBl (x:Int) (y:Int) i _ (by omega) (by omega) (by have:=Hi.out;omega)).mono ?_
   rintro e w' ⟨rfl,rfl⟩
   have hoff:=offs_int' t hlt
   have i25:(i:Int)<25:=by omega
   go_wp2
   go_roundg (gk-1)
   case measure=>omega
   case rel =>
    refine ⟨t+1,⟨y,(2*x+3*y)%5,o.setIfInBounds i (offs t)⟩,by omega,by go_num,rfl,by go_num,?_,?_,?_⟩
    ·have:=Holds.set hD (i:=i) (by omega) (offs t)
     rw[Nat.zero_add] at this
     exact this
    ·exact hO.setCell (o:=i) (by omega) (by omega) _
    ·show _=(Of.mk (ofTo t).y ((2*(ofTo t).x+3*(ofTo t).y)%5) ((ofTo t).o.setIfInBounds ((ofTo t).x%5+5*((ofTo t).y%5)) (offs t)))
     rw[← HE.out]
     dsimp only
     rw[Hi.out]
  ·have ht24:t=24:=by omega
   subst ht24
   go_wp2
   go_ret
   refine ⟨rfl,?_,?_⟩
   ·rw[← hW1] at hO
    exact hO.fresh
   ·unfold zAU
    rw[← HE.out]
    exact hD
end SP
namespace SP
open Go.RowKit Go.Sort Go.Deep
attribute [local go_sem] zAS zA0 zAX zDG zEi
theorem zHj:Tryz.prog.underlying 248=some (.slice 45):=by kernel_rfl
theorem zKO:(Tryz.prog.info? 45).map (fun i=>(i.zero,i.size,i.bytes))=some (some (.int .u64 0),1,8):=by kernel_rfl
theorem zJX (ab tb:Nat) (a:St) (tn:Array Nat) (c:BitVec 64) (w:World) (ha:a.size=25) (ht:tn.size=25) (hA:Holds enc w ab 0 a) (hT:Holds encI w tb 0 tn) (h64:∀ i,i<25→tn[i]! < 64) :
 Calls Tryz.prog 209 #[.slice (some ⟨ab,0,none⟩) 25 25,.slice (some ⟨tb,0,none⟩) 25 25,.int .u64 (u c)] w fun e w'=>∃ r,e=.returned (.slice (some ⟨r,0,none⟩) 25 25)∧w.heap.size≤r∧Below w.heap.size w w'∧Holds enc w' r 0 (zBg a tn c):=by
 have hab:=Holds.lt hA (by omega)
 have htb:=Holds.lt hT (by omega)
 have hmk5:∀ w:World,(Instr.makeSlice 248 (.int .i64 5) (.int .i64 5)).run Tryz.prog w=.ok (.slice (some ⟨w.heap.size,0,none⟩) 5 5) (w.alloc (.cells (madeCells #[.int .u64 0] 5) 45)):=
  run_make_row' (P:=Tryz.prog) 248 45 (.int .u64 0) 8 zHj zKO rfl .i64 .i64 5 (by omega) (by omega)
 have hmk25:∀ w:World,(Instr.makeSlice 248 (.int .i64 25) (.int .i64 25)).run Tryz.prog w=.ok (.slice (some ⟨w.heap.size,0,none⟩) 25 25) (w.alloc (.cells (madeCells #[.int .u64 0] 25) 45)):=
  run_make_row' (P:=Tryz.prog) 248 45 (.int .u64 0) 8 zHj zKO rfl .i64 .i64 25 (by omega) (by omega)
 have HM25:Hid _:=hmk25
 clear hmk25
 go_enter Tryz.func209,Tryz.ntmps209
 go_wp2
 clear hmk5
 have hC1:Holds enc (w.alloc (.cells (madeCells #[.int .u64 0] 5) 45)) w.heap.size 0 (zET a 0):=Holds.made (enc:=enc) w 45 5 0
 have hb1:Below w.heap.size w (w.alloc (.cells (madeCells #[.int .u64 0] 5) 45)):=(Below.refl _ _).alloc (Nat.le_refl _) _
 generalize hW1:(w.alloc _)=W1 at hC1 hb1 ⊢
 have hs1:w.heap.size<W1.heap.size:=by rw[← hW1];simp
 have hA1:=Holds.below hA hb1 hab
 have hT1:=Holds.below hT hb1 htb
 clear hW1
 go_loopg [8] 5 (fun g s8 wr=>∃ (x:Nat) (ck:St),x+g=5∧s8=.int .i64 x∧Holds enc wr w.heap.size 0 ck∧Only w.heap.size 0 5 W1 wr∧Hid (ck=zET a x))
 case atStart=>exact ⟨0,_,rfl,rfl,hC1,Only.refl _ _ _ _,rfl⟩
 case round =>
  obtain ⟨x,ck,hx,rfl,hC,hO,HE⟩:=hrel
  have hcs:ck.size=5:=by rw[HE.out,zJo]
  by_cases hlt:x<5
  ·have l5:(x:Int)<5:=by omega
   go_wp2
   go_loopg [9] 5 (fun g s9 wq=>∃ (y:Nat) (cy:St),y+g=5∧s9=.int .i64 y∧Holds enc wq w.heap.size 0 cy∧Only w.heap.size 0 5 W1 wq∧Hid (cy=zHS a x ck y))
   case atStart=>exact ⟨0,ck,rfl,rfl,hC,hO,rfl⟩
   case round =>
    obtain ⟨y,cy,hy,rfl,hCy,hOy,HEy⟩:=hrel
    have hcys:cy.size=5:=by rw[HEy.out,zFs,hcs]
    by_cases hlty:y<5
    ·have hAy:=Holds.other hA1 hOy (by omega) (by omega)
     obtain ⟨z,hz⟩:∃ z,a[x+5*y]! = z:=⟨_,rfl⟩
     obtain ⟨v,hv⟩:∃ z,cy[x]! = z:=⟨_,rfl⟩
     obtain ⟨c0,f0⟩:=zAn hAy (x+5*y) (by omega) hz
     obtain ⟨c1,f1⟩:=zAn hCy x (by omega) hv
     rw[Nat.zero_add] at c0 c1 f1
     have HZ:Hid (a[x+5*y]! = z):=hz
     have HV:Hid (cy[x]! = v):=hv
     obtain ⟨i,hi⟩:∃ i,x+5*y=i:=⟨_,rfl⟩
     rw[hi] at c0
     have Hi:Hid (x+5*y=i):=hi
     have i25:i<25:=by omega
     have i25':(i:Int)<25:=by omega
     have y5:(y:Int)<5:=by omega
     clear hz hv hi f0
     go_wp2_with fail
     refine wp_region_still_tail 14 mixed (by kernel_rfl) ?_
     simp only[List.take_succ_cons,List.take_zero,List.drop_succ_cons,List.drop_zero]
     repeat still_step
     still_call (zBl (x:Int) (y:Int) i _ (by omega) (by omega) (by have:=Hi.out;omega))
     repeat still_step
     refine wpStill_nil ?_
     go_wp2
     go_roundg (gk-1)
     case measure=>omega
     case rel =>
      refine ⟨y+1,zAH cy x z,by omega,by go_num,?_,?_,?_⟩
      ·have:=Holds.xor hCy (i:=x) (by omega) HV.out z
       rw[Nat.zero_add] at this
       exact Holds.drew this
      ·exact (hOy.setCell (o:=x) (by omega) (by omega) _).drew
      ·show _=zAH (zHS a x ck y) x a[x+5*y]!
       rw[HZ.out,HEy.out]
    ·have hy5:y=5:=by omega
     subst hy5
     go_wp2
     go_roundg (4-x)
     case measure=>omega
     case rel =>
      refine ⟨x+1,cy,by omega,by go_num,hCy,hOy,?_⟩
      show _=zHS a x (zET a x) 5
      rw[HEy.out,HE.out]
  ·have hx5:x=5:=by omega
   subst hx5
   have hb2:Below w.heap.size w wr:=hb1.trans (hO.below (by omega) (Nat.le_refl _))
   have hs2:w.heap.size<wr.heap.size:=Nat.lt_of_lt_of_le hs1 hO.size
   clear hlt hx hC1 hb1 hs1 hA1 hT1 hO
   have hmk:=HM25.out
   go_wp2
   clear hmk
   have hM3:Holds enc (wr.alloc (.cells (madeCells #[.int .u64 0] 25) 45)) wr.heap.size 0 (zEM a tn ck 0):=Holds.made (enc:=enc) wr 45 25 0
   have hb3':Below wr.heap.size wr (wr.alloc (.cells (madeCells #[.int .u64 0] 25) 45)):=(Below.refl _ _).alloc (Nat.le_refl _) _
   generalize hW3:(wr.alloc _)=W3 at hM3 hb3' ⊢
   have hs3:wr.heap.size<W3.heap.size:=by rw[← hW3];simp
   have hC3:=Holds.below hC hb3' hs2
   have hb3:=hb2.trans (hb3'.mono (by omega))
   have hA3:=Holds.below hA hb3 hab
   have hT3:=Holds.below hT hb3 htb
   clear hW3 hb3' hb2 hC
   generalize hMB:wr.heap.size=MB at *
   go_loopg [11] 5 (fun g s11 wr=>∃ (x:Nat) (mk:St),x+g=5∧s11=.int .i64 x∧Holds enc wr MB 0 mk∧Only MB 0 25 W3 wr∧Hid (mk=zEM a tn ck x))
   case atStart=>exact ⟨0,_,rfl,rfl,hM3,Only.refl _ _ _ _,rfl⟩
   case round =>
    obtain ⟨x,mk,hx,rfl,hM,hO,HEx⟩:=hrel
    have hms:mk.size=25:=by rw[HEx.out,zJg]
    by_cases hlt:x<5
    ·have hCw:=Holds.other hC3 hO (by omega) (by omega)
     obtain ⟨y0,hy0⟩:∃ z,ck[(x+4)%5]! = z:=⟨_,rfl⟩
     obtain ⟨y1,hy1⟩:∃ z,ck[(x+1)%5]! = z:=⟨_,rfl⟩
     obtain ⟨c0,f0⟩:=zAn hCw ((x+4)%5) (by omega) hy0
     obtain ⟨c1,f1⟩:=zAn hCw ((x+1)%5) (by omega) hy1
     rw[Nat.zero_add] at c0 c1
     have HD:Hid (dcol ck x=y0 ^^^ rol y1 1):=by rw[← hy0,← hy1];rfl
     clear hy0 hy1 f0 f1
     have l5:(x:Int)<5:=by omega
     have q1:0≤((x:Int)+4)%5:=by omega
     have q2:((x:Int)+4)%5<5:=by omega
     have q3:(((x:Int)+4)%5).toNat=(x+4)%5:=by omega
     have q4:0≤((x:Int)+1)%5:=by omega
     have q5:((x:Int)+1)%5<5:=by omega
     have q6:(((x:Int)+1)%5).toNat=(x+1)%5:=by omega
     go_wp2_with fail
     go_quiet ((go_at_call 219;exact Calls.quiet_of (zIt _ 1 _ (by decide))))
     clear c0 c1 q1 q2 q3 q4 q5 q6
     go_wp2
     have hM1:=Holds.drewN hM nq
     have hO1:=hO.drewN nq
     generalize y0 ^^^ rol y1 1=dv at *
     go_loopg [13] 5 (fun g s13 wq=>∃ (y:Nat) (my:St),y+g=5∧s13=.int .i64 y∧Holds enc wq MB 0 my∧Only MB 0 25 W3 wq∧Hid (my=zHE a tn x dv mk y))
     case atStart=>exact ⟨0,mk,rfl,rfl,hM1,hO1,rfl⟩
     case round =>
      obtain ⟨y,my,hy,rfl,hMy,hOy,HEy⟩:=hrel
      have hmys:my.size=25:=by rw[HEy.out,zFk,hms]
      by_cases hlty:y<5
      ·have hAy:=Holds.other hA3 hOy (by omega) (by omega)
       have hTy:=Holds.other hT3 hOy (by omega) (by omega)
       obtain ⟨z,hz⟩:∃ z,a[x+5*y]! = z:=⟨_,rfl⟩
       obtain ⟨tv,htv⟩:∃ z,tn[x+5*y]! = z:=⟨_,rfl⟩
       obtain ⟨c0,f0⟩:=zAn hAy (x+5*y) (by omega) hz
       obtain ⟨c1,f1⟩:=zQW hTy (x+5*y) (by omega) htv
       have t64:tv<64:=by rw[← htv];exact h64 _ (by omega)
       obtain ⟨i,hi⟩:∃ i,x+5*y=i:=⟨_,rfl⟩
       obtain ⟨j,hj⟩:∃ j,y%5+5*((2*x+3*y)%5)=j:=⟨_,rfl⟩
       obtain ⟨c2,f2⟩:=hMy j (by omega)
       rw[Nat.zero_add] at c0 c1 c2 f2
       rw[hi] at c0 c1
       have Hi:Hid (x+5*y=i):=hi
       have Hj:Hid (y%5+5*((2*x+3*y)%5)=j):=hj
       have HZ:Hid (a[x+5*y]! = z):=hz
       have HT:Hid (tn[x+5*y]! = tv):=htv
       have i25:i<25:=by omega
       have j25:j<25:=by omega
       have i25':(i:Int)<25:=by omega
       have j25':(j:Int)<25:=by omega
       have y5:(y:Int)<5:=by omega
       have s1:IntKind.i64.wrap (2*(x:Int))=2*(x:Int):=IntWalk.i64_in _ (by omega)
       have s2:IntKind.i64.wrap (3*(y:Int))=3*(y:Int):=IntWalk.i64_in _ (by omega)
       have s3:IntKind.i64.wrap (2*(x:Int)+3*(y:Int))=2*(x:Int)+3*(y:Int):=IntWalk.i64_in _ (by omega)
       clear hz htv hi hj f0 f1
       go_wp2_with fail
       have P1:∀ w,Hid (Calls Tryz.prog 218 #[.int .i64 y,.int .i64 (2*(x:Int)+3*(y:Int))] w fun e w'=>e=.returned (.int .i64 j)∧w'=w):=fun w=>zBl _ _ j w (by omega) (by omega) (by have:=Hj.out;omega)
       have P2:∀ w,Hid (Calls Tryz.prog 218 #[.int .i64 x,.int .i64 y] w fun e w'=>e=.returned (.int .i64 i)∧w'=w):=fun w=>zBl _ _ i w (by omega) (by omega) (by have:=Hi.out;omega)
       go_region_with (first|(go_at_call_of 218 (Value.int IntKind.i64 (x:Int));refine Calls.mono (P2 _).out ?_;rintro e w2 ⟨rfl,rfl⟩)|(go_at_call 218;refine Calls.mono (P1 _).out ?_;rintro e w2 ⟨rfl,rfl⟩)|(go_at_call 219;refine (zIt (z ^^^ dv) tv _ t64).mono ?_;rintro e w2 ⟨rfl,n2,rfl⟩))
       all_goals
        go_wp2
        go_roundg (gk-1)
        case measure=>omega
        case rel =>
         refine ⟨y+1,my.setIfInBounds j (rol (z ^^^ dv) tv),by omega,by go_num,?_,?_,?_⟩
         ·have:=Holds.set (Holds.drewN hMy (1+n2)) (i:=j) (by omega) (rol (z ^^^ dv) tv)
          rw[Nat.zero_add] at this
          exact this
         ·exact (hOy.drewN (1+n2)).setCell (o:=j) (by omega) (by omega) _
         ·show _=(zHE a tn x dv mk y).setIfInBounds (y%5+5*((2*x+3*y)%5)) (rol (a[x+5*y]! ^^^ dv) tn[x+5*y]!)
          rw[HZ.out,HT.out,Hj.out,HEy.out]
      ·have hy5:y=5:=by omega
       subst hy5
       go_wp2
       go_roundg (4-x)
       case measure=>omega
       case rel =>
        refine ⟨x+1,my,by omega,by go_num,hMy,hOy,?_⟩
        show _=zHE a tn x (dcol ck x) (zEM a tn ck x) 5
        rw[HEy.out,HEx.out,HD.out]
    ·have hx5:x=5:=by omega
     subst hx5
     have hb4:Below w.heap.size w wr:=hb3.trans (hO.below (by omega) (by omega))
     have hs4:MB<wr.heap.size:=Nat.lt_of_lt_of_le hs3 hO.size
     clear hlt hx hb3 hs3 hA3 hT3 hC3 hM3 hO
     have hmk:=HM25.out
     go_wp2
     clear hmk
     have hU5:Holds enc (wr.alloc (.cells (madeCells #[.int .u64 0] 25) 45)) wr.heap.size 0 (zE8 mk 0):=Holds.made (enc:=enc) wr 45 25 0
     have hb5':Below wr.heap.size wr (wr.alloc (.cells (madeCells #[.int .u64 0] 25) 45)):=(Below.refl _ _).alloc (Nat.le_refl _) _
     generalize hW5:(wr.alloc _)=W5 at hU5 hb5' ⊢
     have hs5:wr.heap.size<W5.heap.size:=by rw[← hW5];simp
     have hM5:=Holds.below hM hb5' hs4
     have hb5:=hb4.trans (hb5'.mono (by omega))
     clear hW5 hb5' hb4 hM
     generalize hOB:wr.heap.size=OB at *
     go_loopg [15] 5 (fun g s15 wr=>∃ (x:Nat) (ok:St),x+g=5∧s15=.int .i64 x∧Holds enc wr OB 0 ok∧Only OB 0 25 W5 wr∧Hid (ok=zE8 mk x))
     case atStart=>exact ⟨0,_,rfl,rfl,hU5,Only.refl _ _ _ _,rfl⟩
     case round =>
      obtain ⟨x,ok,hx,rfl,hU,hO,HEu⟩:=hrel
      have hus:ok.size=25:=by rw[HEu.out,zFg]
      by_cases hlt:x<5
      ·have l5:(x:Int)<5:=by omega
       go_wp2
       go_loopg [16] 5 (fun g s16 wq=>∃ (y:Nat) (oy:St),y+g=5∧s16=.int .i64 y∧Holds enc wq OB 0 oy∧Only OB 0 25 W5 wq∧Hid (oy=zHz mk x ok y))
       case atStart=>exact ⟨0,ok,rfl,rfl,hU,hO,rfl⟩
       case round =>
        obtain ⟨y,oy,hy,rfl,hUy,hOy,HEy⟩:=hrel
        have hoys:oy.size=25:=by rw[HEy.out,zFh,hus]
        by_cases hlty:y<5
        ·have hMy:=Holds.other hM5 hOy (by omega) (by omega)
         obtain ⟨i0,hi0⟩:∃ i,x+5*y=i:=⟨_,rfl⟩
         obtain ⟨i1,hi1⟩:∃ i,(x+1)%5+5*y=i:=⟨_,rfl⟩
         obtain ⟨i2,hi2⟩:∃ i,(x+2)%5+5*y=i:=⟨_,rfl⟩
         obtain ⟨z0,hz0⟩:∃ z,mk[i0]! = z:=⟨_,rfl⟩
         obtain ⟨z1,hz1⟩:∃ z,mk[i1]! = z:=⟨_,rfl⟩
         obtain ⟨z2,hz2⟩:∃ z,mk[i2]! = z:=⟨_,rfl⟩
         obtain ⟨c0,f0⟩:=zAn hMy i0 (by omega) hz0
         obtain ⟨c1,f1⟩:=zAn hMy i1 (by omega) hz1
         obtain ⟨c2,f2⟩:=zAn hMy i2 (by omega) hz2
         obtain ⟨c3,f3⟩:=hUy i0 (by omega)
         rw[Nat.zero_add] at c0 c1 c2 c3 f3
         have H0:Hid (x+5*y=i0):=hi0
         have H1:Hid ((x+1)%5+5*y=i1):=hi1
         have H2:Hid ((x+2)%5+5*y=i2):=hi2
         have HV:Hid (mk[x+5*y]! ^^^ (~~~mk[(x+1)%5+5*y]! &&& mk[(x+2)%5+5*y]!)=z0 ^^^ (~~~z1 &&& z2)):=by
          show _=_
          rw[hi0,hi1,hi2,hz0,hz1,hz2]
         have b0:i0<25:=by omega
         have b0':(i0:Int)<25:=by omega
         have b1':(i1:Int)<25:=by omega
         have b2':(i2:Int)<25:=by omega
         have y5:(y:Int)<5:=by omega
         have s1:IntKind.i64.wrap ((x:Int)+1)=(x:Int)+1:=IntWalk.i64_in _ (by omega)
         have s2:IntKind.i64.wrap ((x:Int)+2)=(x:Int)+2:=IntWalk.i64_in _ (by omega)
         clear hz0 hz1 hz2 hi0 hi1 hi2 f0 f1 f2
         go_wp2_with fail
         refine wp_region_still_tail 28 mixed (by kernel_rfl) ?_
         simp only[List.take_succ_cons,List.take_zero,List.drop_succ_cons,List.drop_zero]
         repeat still_step
         still_call (zBl (x:Int) (y:Int) i0 _ (by omega) (by omega) (by have:=H0.out;omega))
         repeat still_step
         still_call (zBl (x:Int) (y:Int) i0 _ (by omega) (by omega) (by have:=H0.out;omega))
         repeat still_step
         still_call (zBl ((x:Int)+1) (y:Int) i1 _ (by omega) (by omega) (by have:=H1.out;omega))
         repeat still_step
         still_call (zBl ((x:Int)+2) (y:Int) i2 _ (by omega) (by omega) (by have:=H2.out;omega))
         repeat still_step
         refine wpStill_nil ?_
         go_wp2
         go_roundg (gk-1)
         case measure=>omega
         case rel =>
          refine ⟨y+1,oy.setIfInBounds i0 (z0 ^^^ (~~~z1 &&& z2)),by omega,by go_num,?_,?_,?_⟩
          ·have:=Holds.set hUy (i:=i0) (by omega) (z0 ^^^ (~~~z1 &&& z2))
           rw[Nat.zero_add] at this
           exact Holds.drew this
          ·exact (hOy.setCell (o:=i0) (by omega) (by omega) _).drew
          ·show _=(zHz mk x ok y).setIfInBounds (x+5*y) (mk[x+5*y]! ^^^ (~~~mk[(x+1)%5+5*y]! &&& mk[(x+2)%5+5*y]!))
           rw[HV.out,H0.out,HEy.out]
        ·have hy5:y=5:=by omega
         subst hy5
         go_wp2
         go_roundg (4-x)
         case measure=>omega
         case rel =>
          refine ⟨x+1,oy,by omega,by go_num,hUy,hOy,?_⟩
          show _=zHz mk x (zE8 mk x) 5
          rw[HEy.out,HEu.out]
      ·have hx5:x=5:=by omega
       subst hx5
       obtain ⟨z,hz⟩:∃ z,ok[0]! = z:=⟨_,rfl⟩
       obtain ⟨c0,f0⟩:=zAn hU 0 (by omega) hz
       rw[Nat.zero_add] at c0 f0
       have HZ:Hid (ok[0]! = z):=hz
       clear hz
       go_wp2
       go_ret
       refine ⟨OB,rfl,by omega,?_,?_⟩
       ·exact (hb5.trans (hO.below (by omega) (by omega))).setCell (p:=⟨OB,0,none⟩) (by show _≤OB;omega) _
       ·have e:zBg a tn c=zAH ok 0 c:=by unfold zBg;rw[HEu.out,HEx.out,HE.out]
        rw[e]
        exact Holds.xor (i:=0) hU (by omega) HZ.out c
end SP
namespace SP
open Go.RowKit Go.Sort Go.Deep
attribute [local go_sem] zAS zA0 zAX zDG zEi zHb zQn
theorem zCL (s:ByteArray) (w:World) (hs:s.size=200) :
 Calls Tryz.prog 193 #[.string s] w fun e w'=>e=.returned (.string ⟨zCq s.data⟩)∧Below w.heap.size w w':=by
 have hmk25:∀ w:World,(Instr.makeSlice 248 (.int .i64 25) (.int .i64 25)).run Tryz.prog w=.ok (.slice (some ⟨w.heap.size,0,none⟩) 25 25) (w.alloc (.cells (madeCells #[.int .u64 0] 25) 45)):=
  run_make_row' (P:=Tryz.prog) 248 45 (.int .u64 0) 8 zHj zKO rfl .i64 .i64 25 (by omega) (by omega)
 have hmk200:∀ w:World,(Instr.makeSlice 22 (.int .i64 200) (.int .i64 200)).run Tryz.prog w=.ok (.slice (some ⟨w.heap.size,0,none⟩) 200 200) (w.alloc (.cells (madeCells #[.int .u8 0] 200) 5)):=
  run_make_row' (P:=Tryz.prog) 22 5 (.int .u8 0) 1 slice22 info5 rfl .i64 .i64 200 (by omega) (by omega)
 have HM200:Hid _:=hmk200
 clear hmk200
 go_enter Tryz.func193,Tryz.ntmps193
 go_wp2
 clear hmk25
 have hA1:Holds enc (w.alloc (.cells (madeCells #[.int .u64 0] 25) 45)) w.heap.size 0 (orTo s.data 0):=Holds.made (enc:=enc) w 45 25 0
 have hb1:Below w.heap.size w (w.alloc (.cells (madeCells #[.int .u64 0] 25) 45)):=(Below.refl _ _).alloc (Nat.le_refl _) _
 generalize hW1:(w.alloc _)=W1 at hA1 hb1 ⊢
 have hs1:w.heap.size<W1.heap.size:=by rw[← hW1];simp
 clear hW1
 go_loopg [4] 200 (fun g s4 wr=>∃ (i:Nat) (dk:St),i+g=200∧s4=.int .i64 i∧Holds enc wr w.heap.size 0 dk∧Only w.heap.size 0 25 W1 wr∧Hid (dk=orTo s.data i))
 case atStart=>exact ⟨0,_,rfl,rfl,hA1,Only.refl _ _ _ _,rfl⟩
 case round =>
  obtain ⟨i,dk,hi,rfl,hD,hO,HE⟩:=hrel
  have hds:dk.size=25:=by rw[HE.out,zCs]
  by_cases hlt:i<200
  ·obtain ⟨x,hx⟩:∃ x,dk[i/8]! = x:=⟨_,rfl⟩
   obtain ⟨c0,f0⟩:=zAn hD (i/8) (by omega) hx
   rw[Nat.zero_add] at c0 f0
   have HX:Hid (dk[i/8]! = x):=hx
   clear hx
   have l200:(i:Int)<200:=by omega
   have p0:0≤(i:Int)/8:=by omega
   have p1:(i:Int)/8<25:=by omega
   have p2:((i:Int)/8).toNat=i/8:=by omega
   have s1:IntKind.i64.wrap ((i:Int)/8)=(i:Int)/8:=IntWalk.i64_in _ (by omega)
   have s2:IntKind.i64.wrap (8*((i:Int)%8))=8*((i:Int)%8):=IntWalk.i64_in _ (by omega)
   have s3:0≤8*((i:Int)%8):=by omega
   have s4:8*((i:Int)%8)≤64:=by omega
   have s5:(8*((i:Int)%8)).toNat=8*(i%8):=by omega
   have his:(i:Int)<(s.size:Int):=by omega
   have his':i<s.size:=by omega
   have tm:(i:Int).tmod 8=(i:Int)%8:=Int.tmod_eq_emod_of_nonneg (by omega)
   obtain ⟨y,hy⟩:∃ y,wide s.data[i]! = y:=⟨_,rfl⟩
   have hsb:IntKind.u64.wrap (s[i].toNat:Int)=u y:=by
    have e:s.data[i]! = s[i]:=getElem!_pos s.data i his'
    rw[← hy,e]
    exact zHb s[i]
   have HY:Hid (wide s.data[i]! = y):=hy
   clear hy
   have sh:=zIT y (8*(i%8))
   go_wp2_with fail
   go_still_tail 18,mixed
   go_wp2
   go_roundg (gk-1)
   case measure=>omega
   case rel =>
    refine ⟨i+1,dk.setIfInBounds (i/8) (x ||| y <<< (8*(i%8))),by omega,by go_num,?_,?_,?_⟩
    ·have:=Holds.set hD (i:=i/8) (by omega) (x ||| y <<< (8*(i%8)))
     rw[Nat.zero_add] at this
     exact Holds.drew this
    ·exact (hO.setCell (o:=i/8) (by omega) (by omega) _).drew
    ·show _=(orTo s.data i).setIfInBounds (i/8) ((orTo s.data i)[i/8]! ||| wide s.data[i]! <<< (8*(i%8)))
     rw[HY.out,← HE.out,HX.out]
  ·have hi200:i=200:=by omega
   subst hi200
   have hb2:Below w.heap.size w wr:=hb1.trans (hO.below (by omega) (Nat.le_refl _))
   have hs2:w.heap.size<wr.heap.size:=Nat.lt_of_lt_of_le hs1 hO.size
   clear hlt hi hA1 hb1 hs1 hO
   go_wp2_with fail
   refine (zHA _).mono ?_
   rintro e w3 ⟨rfl,hb3,hT⟩
   have hD3:=Holds.below hD hb3 hs2
   have hb4:=hb2.trans (hb3.mono (by omega))
   have hs3:wr.heap.size<w3.heap.size:=Holds.lt hT (by rw[zCt];omega)
   generalize hTB:wr.heap.size=TB at *
   clear hb2 hb3 hD
   go_wp2
   go_loopg [3,6] 24 (fun g s3 s6 wr=>∃ (k ab:Nat) (dk:St),k+g=24∧s6=.int .i64 k∧s3=.slice (some ⟨ab,0,none⟩) 25 25∧Holds enc wr ab 0 dk∧w.heap.size≤ab∧Holds encI wr TB 0 zAU∧Below w.heap.size w wr∧Hid (dk=zJ0 (orTo s.data 200) k))
   case atStart=>exact ⟨0,w.heap.size,dk,rfl,rfl,rfl,hD3,Nat.le_refl _,hT,hb4,HE⟩
   case round =>
    clear hT hb4 hD3 HE hds dk
    obtain ⟨k,ab,dk,hk,rfl,rfl,hD,hab,hT,hb,HE⟩:=hrel
    have hds:dk.size=25:=by
     rw[HE.out]
     cases k with
     | zero=>exact zCs _ _
     | succ k=>exact zFS _ _ _
    by_cases hlt:k<24
    ·have l24:(k:Int)<24:=by omega
     go_wp2_with fail
     refine (zGY k _ hlt).mono ?_
     rintro e w4 ⟨rfl,rfl⟩
     go_wp2_with fail
     refine (zJX ab TB dk zAU (conL k) _ hds zCt hD hT zJe).mono ?_
     rintro e w5 ⟨r,rfl,hr,hb5,hR⟩
     have hTl:=Holds.lt hT (by rw[zCt];omega)
     have hsz:=hb.size
     go_wp2
     go_roundg (gk-1)
     case measure=>omega
     case rel =>
      refine ⟨k+1,r,zBg dk zAU (conL k),by omega,by go_num,rfl,hR,by omega,Holds.below hT hb5 hTl,hb.trans (hb5.mono (by omega)),?_⟩
      rw[HE.out];rfl
    ·have hk24:k=24:=by omega
     subst hk24
     have hmk:=HM200.out
     go_wp2
     clear hmk
     have hsz:=hb.size
     have hal:=Holds.lt hD (by omega)
     have hF1:Holds encB (wr.alloc (.cells (madeCells #[.int .u8 0] 200) 5)) wr.heap.size 0 (zBb dk 200 0):=Holds.made (enc:=encB) wr 5 200 0
     have hb6:Below wr.heap.size wr (wr.alloc (.cells (madeCells #[.int .u8 0] 200) 5)):=(Below.refl _ _).alloc (Nat.le_refl _) _
     generalize hW6:(wr.alloc _)=W6 at hF1 hb6 ⊢
     have hs6:wr.heap.size<W6.heap.size:=by rw[← hW6];simp
     have hD6:=Holds.below hD hb6 hal
     have hb7:=hb.trans (hb6.mono hsz)
     clear hW6 hb6 hb hD hT
     generalize hFB:wr.heap.size=FB at *
     go_loopg [8] 200 (fun g s8 wr=>∃ (i:Nat) (bs:Bs),i+g=200∧s8=.int .i64 i∧Holds encB wr FB 0 bs∧Only FB 0 200 W6 wr∧Hid (bs=zBb dk 200 i))
     case atStart=>exact ⟨0,_,rfl,rfl,hF1,Only.refl _ _ _ _,rfl⟩
     case round =>
      obtain ⟨i,bs,hi,rfl,hB,hO,HEb⟩:=hrel
      have hbs:bs.size=200:=by rw[HEb.out,zBI]
      by_cases hlt:i<200
      ·have hDw:=Holds.other hD6 hO (by omega) (by omega)
       obtain ⟨x,hx⟩:∃ x,dk[i/8]! = x:=⟨_,rfl⟩
       obtain ⟨c0,f0⟩:=zAn hDw (i/8) (by omega) hx
       obtain ⟨c1,f1⟩:=hB i (by omega)
       rw[Nat.zero_add] at c0 c1 f1
       have HX:Hid (byteOf dk i=low (x >>> (8*(i%8)))):=by show low _=_;rw[hx]
       clear hx f0
       have p1:(i:Int)/8<25:=by omega
       have l200:(i:Int)<200:=by omega
       have hsr:=zL1 x (8*(i%8))
       go_wp2
       go_roundg (gk-1)
       case measure=>omega
       case rel =>
        refine ⟨i+1,bs.setIfInBounds i (low (x >>> (8*(i%8)))),by omega,by go_num,?_,?_,?_⟩
        ·have:=Holds.set hB (i:=i) (by omega) (low (x >>> (8*(i%8))))
         rw[Nat.zero_add] at this
         exact this
        ·exact hO.setCell (o:=i) (by omega) (by omega) _
        ·show _=(zBb dk 200 i).setIfInBounds i (byteOf dk i)
         rw[HX.out,HEb.out]
      ·have hi200:i=200:=by omega
       subst hi200
       have kc:=conv_str Tryz.prog 22 9 5 slice22 int5 str9 wr FB 0 200 200 bs hB hbs
       go_wp2
       go_ret
       have e1:bs=zCq s.data:=by rw[HEb.out,HE.out];exact zJZ s.data
       rw[e1]
       exact ⟨rfl,hb7.trans (hO.below (by omega) (by omega))⟩
end SP
namespace SP
open Go.RowKit Go.Sort Go.Deep
attribute [local go_sem] zG3
theorem holds_one (w:World) (x:UInt8):Holds encB (w.alloc (.cells #[.int .u8 (ub x)] 5)) w.heap.size 0 #[x]:=by
 have h:=Holds.new (enc:=encB) w 5 #[x]
 have e:Array.map encB #[x]=#[.int .u8 (ub x)]:=by simp[encB]
 rw[e] at h
 exact h
def padT (l:List UInt8) (e:UInt8) (k:Nat):List UInt8:=l++e :: List.replicate k 0
theorem zEF (l:List UInt8) (e:UInt8) (k:Nat):(padT l e k).length=l.length+1+k:=by
 unfold padT
 rw[List.length_append,List.length_cons,List.length_replicate]
 omega
theorem zKs (l:List UInt8) (e:UInt8) (k:Nat):padT l e k++[0]=padT l e (k+1):=by
 unfold padT
 rw[List.append_assoc,List.cons_append,List.replicate_succ']
theorem zJb (l:List UInt8) (e:UInt8):(padT l e (135-l.length%136)).set (l.length+(135-l.length%136)) ((padT l e (135-l.length%136))[l.length+(135-l.length%136)]! ^^^ 128)=total l e:=by
 unfold padT total zBx
 rw[List.set_append_right _ _ (by omega),Nat.add_sub_cancel_left,zDm _ _ _ (by omega) (by rw[List.length_cons,List.length_replicate];omega),Nat.add_sub_cancel_left]
theorem zHG (l:List UInt8) (i j:Nat) (x:UInt8) (hj:j<l.length):(l.set i x)[j]! = if i=j then x else l[j]!:=by
 rw[getElem!_pos (l.set i x) j (by rw[List.length_set];exact hj),List.getElem_set,getElem!_pos l j hj]
theorem zLS (l:List UInt8) (e:UInt8) (cur:Bs) (L k:Nat) (hk:k=135-l.length%136) (hL:L=l.length+1+k) (hc:L≤cur.size) (hT:∀ j,j<L→cur[j]! = (padT l e k)[j]!) :
 ∀ j,j<L→(cur.setIfInBounds (L-1) (cur[L-1]! ^^^ 128))[j]! = (total l e)[j]!:=by
 intro j hj
 have hpl:=zEF l e k
 rw[← zJb,← hk,zHG _ _ _ _ (by omega),show l.length+k=L-1 by omega]
 by_cases h:j=L-1
 ·rw[if_pos h.symm,h,getElem!_set_same _ _ _ (by omega),hT _ (by omega)]
 ·rw[if_neg (by omega),getElem!_set_other _ _ _ _ h,hT _ hj]
theorem zGz (o:ByteArray) (d:St) (n m:Nat) (ho:o.size=136*m) (hnm:n≤136*m) (h:∀ j,j<136*m→o.data[j]! = zAT d j):o.extract 0 n=⟨zBy d n⟩:=by
 apply ByteArray.ext
 have hd:(o.extract 0 n).data=o.data.extract 0 n:=ByteArray.data_extract
 have hs:o.data.size=136*m:=ho
 rw[hd]
 refine zID _ _ n (by rw[Array.size_extract,hs];omega) (zBk _ _) (fun j hj=>?_)
 have h1:j<(o.data.extract 0 n).size:=by rw[Array.size_extract,hs];omega
 have h2:j<o.data.size:=by omega
 have h3:=h j (by omega)
 rw[getElem!_pos o.data j h2] at h3
 rw[zDx _ _ _ hj,← h3,getElem!_pos (o.data.extract 0 n) j h1,Array.getElem_extract]
 simp only[Nat.zero_add]
theorem zMo (o:ByteArray) (d:St) (m:Nat) (p:Bs) (hp:p.size=136) (hpa:∀ j,j<136→p[j]! = byteOf (zA8 d m) j) (ho:o.size=136*m) (h:∀ j,j<136*m→o.data[j]! = zAT d j) :
 (o++⟨p⟩).size=136*(m+1)∧∀ j,j<136*(m+1)→(o++(⟨p⟩:ByteArray)).data[j]! = zAT d j:=by
 have hd:(o++(⟨p⟩:ByteArray)).data=o.data++p:=ByteArray.data_append
 have hs:o.data.size=136*m:=ho
 refine ⟨?_,fun j hj=>?_⟩
 ·show (o++(⟨p⟩:ByteArray)).data.size=_
  rw[hd,Array.size_append,hp,hs]
  omega
 ·rw[hd]
  by_cases h1:j<136*m
  ·have h2:j<o.data.size:=by omega
   have h3:=h j h1
   rw[getElem!_pos o.data j h2] at h3
   rw[app_front _ _ j h2,h3]
  ·rw[app_back _ _ j (by omega) (by omega),hs,hpa _ (by omega)]
   unfold zAT
   rw[show j/136=m by omega,show j%136=j-136*m by omega]
theorem zK5 (w:World) (p:Bs) (h:p.size=200) :
 ∃ sc w',(convert 9 22 (.string ⟨p⟩)).run Tryz.prog w=.ok (.slice (some ⟨w.heap.size,0,none⟩) 200 sc) w'∧200≤sc∧Holds encB w' w.heap.size 0 p∧Below w.heap.size w w':=by
 obtain ⟨v,w',hcv,own,hb,hv⟩:=zCF (w:=w) (B:=0) ⟨p⟩ (Nat.zero_le _)
 have hps:(ByteArray.mk p).size=200:=h
 have hpl:(ByteArray.mk p).data.toList.length=200:=by rw[Array.length_toList];exact h
 rw[hv] at hcv own
 rw[hps] at hcv own
 obtain ⟨_,_,hle,hH⟩:=own.holds
 exact ⟨_,_,hcv,by omega,by simpa using hH,hb⟩
theorem zHN (d:St):Array.size (front d 136)≤Array.size (front d 200)∧∀ j,j<(front d 136).size→(front d 136)[j]! = (front d 200)[j]!:=by
 refine ⟨by rw[zAl,zAl];omega,fun j hj=>?_⟩
 rw[zAl] at hj
 rw[zCa _ _ _ hj,zCa _ _ _ (by omega)]
theorem zDc (s:ByteArray) (e:UInt8) (n:Nat) (w:World) (hs:s.size≤1048576) (hn:n≤16384) :
 Calls Tryz.prog 151 #[.string s,.int .u8 (ub e),.int .i64 n] w fun r w'=>r=.returned (.string ⟨zBy (zB1 s.data.toList e) n⟩)∧Below w.heap.size w w':=by
 obtain ⟨v0,w0,hcv,own0,hb0,hv0⟩:=zCF (w:=w) (B:=w.heap.size) s (Nat.le_refl _)
 rw[hv0] at hcv own0
 have hsz0:w.heap.size≤w0.heap.size:=hb0.size
 have hX:=holds_one w0 e
 have hbx:Below w0.heap.size w0 (w0.alloc (.cells #[.int .u8 (ub e)] 5)):=(Below.refl _ _).alloc (Nat.le_refl _) _
 have hl:s.data.toList.length=s.size:=Array.length_toList
 obtain ⟨v1,w1,hap,own1,hb1⟩:=zFB (c:=1) (own0.below hbx) hX (by rw[World.size_alloc];omega) (by rw[hl];simp;omega) 1 rfl
 have hbb1:Below w.heap.size w w1:=(hb0.trans (hbx.mono hsz0)).trans hb1
 have own1':Own w.heap.size w1 v1 (padT s.data.toList e 0):=own1
 clear hv0 own0 hX own1 hb1 hbx
 have hmk200:∀ w:World,(Instr.makeSlice 22 (.int .i64 200) (.int .i64 200)).run Tryz.prog w=.ok (.slice (some ⟨w.heap.size,0,none⟩) 200 200) (w.alloc (.cells (madeCells #[.int .u8 0] 200) 5)):=
  run_make_row' (P:=Tryz.prog) 22 5 (.int .u8 0) 1 slice22 info5 rfl .i64 .i64 200 (by omega) (by omega)
 have HM200:Hid _:=hmk200
 clear hmk200
 go_enter Tryz.func151,Tryz.ntmps151
 go_wp2_with (at_builtin;refine Lib.wpList_append_run _ rfl _ _ 22 22 rfl _ _ rfl rfl _ _ hap ?_)
 clear hap hcv hb0
 obtain ⟨h,hh⟩:∃ h,s.data.toList.length%136=h:=⟨_,rfl⟩
 have h136:h<136:=by rw[← hh];exact Nat.mod_lt _ (by decide)
 have Hh:Hid (s.data.toList.length%136=h):=hh
 clear hh
 go_loopg [7] (135-h) (fun g s7 wr=>∃ k,k+g=135-h∧Own w.heap.size wr s7 (padT s.data.toList e k)∧Below w.heap.size w wr)
 case atStart=>exact ⟨0,by omega,own1',hbb1⟩
 case round =>
  clear own1' hbb1
  obtain ⟨k,hk,own,hb⟩:=hrel
  have own':=own
  obtain ⟨g,cap,cur,rfl,hg,hgl,hcs,hlc,hH,hT⟩:=own'
  have hL:=zEF s.data.toList e k
  generalize hLL:(padT s.data.toList e k).length=L at *
  have hL':L=s.size+1+k:=by rw[hL,hl]
  have HL':Hid (L=s.size+1+k):=hL'
  have hLb:L≤1048900:=by omega
  have hL0:1≤L:=by omega
  have tm:(L:Int).tmod 136=(L:Int)%136:=Int.tmod_eq_emod_of_nonneg (by omega)
  by_cases hlt:k<135-h
  ·have hb2:((L:Int)%136 != 0)=true:=by rw[bne_iff_ne];have:=Hh.out;rw[hl] at this;omega
   have hX:=holds_one wr 0
   have hbx:Below wr.heap.size wr (wr.alloc (.cells #[.int .u8 (ub 0)] 5)):=(Below.refl _ _).alloc (Nat.le_refl _) _
   obtain ⟨v2,w2,hap,own2,hbb⟩:=zFB (c:=1) (own.below hbx) hX (by rw[World.size_alloc];have:=hb.size;omega) (by rw[hLL];simp;omega) 1 rfl
   have own3:Own w.heap.size w2 v2 (padT s.data.toList e (k+1)):=by rw[← zKs];exact own2
   have hb3:Below w.heap.size w w2:=(hb.trans (hbx.mono hb.size)).trans hbb
   clear hL hL' hLL own own2 hX hbb hbx hH hT
   go_wp2_with (at_builtin;refine Lib.wpList_append_run _ rfl _ _ 22 22 rfl _ _ rfl rfl _ _ hap ?_)
   go_roundg (gk-1)
   case measure=>omega
   case rel=>exact ⟨k+1,by omega,own3,hb3⟩
  ·have hb2:((L:Int)%136 != 0)=false:=by
    rw[bne_eq_false_iff_eq];have:=Hh.out;rw[hl] at this;omega
   have hk0:k=135-s.data.toList.length%136:=by have:=Hh.out;omega
   obtain ⟨x,hx⟩:∃ x,cur[L-1]! = x:=⟨_,rfl⟩
   obtain ⟨c0,f0⟩:=zE0 hH (L-1) (by omega) hx
   rw[Nat.zero_add] at c0 f0
   have hx80:=zPz x
   have hTot:=zLS s.data.toList e cur L k hk0 hL (by omega) hT
   rw[hx] at hTot
   have hH2:=Holds.set hH (i:=L-1) (by omega) (x ^^^ 128)
   rw[Nat.zero_add] at hH2
   have htl:(total s.data.toList e).length=L:=by rw[zDJ];omega
   have hTA:Holds encB (wr.setCell ⟨g,L-1,none⟩ (.int .u8 (ub (x ^^^ 128)))) g 0 (total s.data.toList e).toArray:=
    Holds.front hH2 (by rw[Array.size_setIfInBounds,List.size_toArray,htl];omega) (fun j hj=>by rw[zC0];exact (hTot j (by simpa[htl] using hj)).symm)
   have hb4:Below w.heap.size w (wr.setCell ⟨g,L-1,none⟩ (.int .u8 (ub (x ^^^ 128)))):=hb.setCell (p:=⟨g,L-1,none⟩) hg _
   have hg4:g<(wr.setCell ⟨g,L-1,none⟩ (.int .u8 (ub (x ^^^ 128)))).heap.size:=by rw[World.size_setCell];exact hgl
   obtain ⟨M,hM⟩:∃ M,s.data.toList.length/136+1=M:=⟨_,rfl⟩
   have hLM:L=136*M:=by have:=Hh.out;omega
   have HLM:Hid (L=136*M):=hLM
   have HM:Hid (s.data.toList.length/136+1=M):=hM
   have z1:(0:Int)≤(L:Int)-1:=by omega
   have z2:(L:Int)-1<(L:Int):=by omega
   have z3:((L:Int)-1).toNat=L-1:=by omega
   have hmk:=HM200.out
   clear hM hLM hTot hH2 hH hT hx hL hL' hLL own hk0
   go_wp2
   clear hmk c0 f0 hb2 tm hx80
   have hW2:(wr.setCell ⟨g,L-1,none⟩ (.int .u8 (ub (x ^^^ 128)))).heap.size=wr.heap.size:=by rw[World.size_setCell]
   generalize wr.setCell ⟨g,L-1,none⟩ (.int .u8 (ub (x ^^^ 128)))=W2 at hTA hb4 hg4 hW2 ⊢
   have hS0:Holds encB (W2.alloc (.cells (madeCells #[.int .u8 0] 200) 5)) W2.heap.size 0 (zDb (total s.data.toList e) 0):=Holds.made (enc:=encB) W2 5 200 0
   have hb5':Below W2.heap.size W2 (W2.alloc (.cells (madeCells #[.int .u8 0] 200) 5)):=(Below.refl _ _).alloc (Nat.le_refl _) _
   have hs5:W2.heap.size<(W2.alloc (.cells (madeCells #[.int .u8 0] 200) 5)).heap.size:=by simp
   have hTA5:=Holds.below hTA hb5' hg4
   have hb5:=hb4.trans (hb5'.mono hb4.size)
   have hz4:=hb4.size
   rw[hW2] at hS0 hs5 hg4 hz4
   generalize hSG:wr.heap.size=SG at *
   generalize (W2.alloc _)=W3 at hS0 hb5 hs5 hTA5 ⊢
   clear hTA hb4 hb5' hSG hW2
   go_loopg [8,9] M (fun g2 s8 s9 wr=>∃ (i sg sc:Nat),i+g2=M∧s9=.int .i64 ((136*i:Nat):Int)∧s8=.slice (some ⟨sg,0,none⟩) 200 sc∧200≤sc∧w.heap.size≤sg∧sg≠g∧Holds encB wr sg 0 (zDb (total s.data.toList e) i)∧Holds encB wr g 0 (total s.data.toList e).toArray∧Below w.heap.size w wr)
   case atStart=>exact ⟨0,SG,200,by omega,rfl,rfl,Nat.le_refl _,by omega,by omega,hS0,hTA5,hb5⟩
   case round =>
    clear hS0 hTA5 hb5 hs5
    obtain ⟨i,sg,sc,hi,rfl,rfl,hsc,hsg,hne,hS,hTA,hb⟩:=hrel
    have hrs:(zDb (total s.data.toList e) i).size=200:=by
     cases i with
     | zero=>rw[zDb,Array.size_replicate]
     | succ i=>rw[zDb,zCq,zAl]
    have hgz:g<wr.heap.size:=Holds.lt hTA (by rw[List.size_toArray,htl];omega)
    by_cases hlt:i<M
    ·have hlt':((136*i:Nat):Int)<(L:Int):=by have:=HLM.out;omega
     have hii:136*i+136≤L:=by have:=HLM.out;omega
     generalize hI:136*i=I at *
     have HI:Hid (136*i=I):=hI
     clear hI
     go_wp2
     have hD0:Holds encB wr sg 0 (xorB (zDb (total s.data.toList e) i) (total s.data.toList e) I 0):=hS
     generalize hR:zDb (total s.data.toList e) i=R at *
     have HR:Hid (R=zDb (total s.data.toList e) i):=hR.symm
     clear hR
     go_loopg [10] 136 (fun g3 s10 wq=>∃ (k:Nat) (st:Bs),k+g3=136∧s10=.int .i64 k∧Holds encB wq sg 0 st∧Only sg 0 200 wr wq∧Hid (st=xorB R (total s.data.toList e) I k))
     case atStart=>exact ⟨0,_,rfl,rfl,hD0,Only.refl _ _ _ _,rfl⟩
     case round =>
      clear hD0
      obtain ⟨k,st,hk,rfl,hSt,hO,HE⟩:=hrel
      have hsts:st.size=200:=by rw[HE.out,zGn];exact hrs
      have hTq:=Holds.other hTA hO (Ne.symm hne) (by rw[List.size_toArray,htl];omega)
      by_cases hltk:k<136
      ·obtain ⟨y,hy⟩:∃ y,(total s.data.toList e)[I+k]! = y:=⟨_,rfl⟩
       obtain ⟨c0,f0⟩:=zE0 (x:=y) hTq (I+k) (by rw[List.size_toArray,htl];omega) (by rw[zC0];exact hy)
       obtain ⟨z,hz⟩:∃ z,st[k]! = z:=⟨_,rfl⟩
       obtain ⟨c1,f1⟩:=zE0 hSt k (by omega) hz
       rw[Nat.zero_add] at c0 c1 f1
       have HY:Hid ((total s.data.toList e)[I+k]! = y):=hy
       have HZ:Hid (st[k]! = z):=hz
       have k136:(k:Int)<136:=by omega
       have k200:(k:Int)<200:=by omega
       have ik0:(0:Int)≤(I:Int)+(k:Int):=by omega
       have ik1:(I:Int)+(k:Int)<(L:Int):=by omega
       have ik2:((I:Int)+(k:Int)).toNat=I+k:=by omega
       have ik3:IntKind.i64.wrap ((I:Int)+(k:Int))=(I:Int)+(k:Int):=IntWalk.i64_in _ (by omega)
       clear hy hz f0 hTq
       go_wp2_with fail
       go_still_tail 14,mixed
       go_wp2
       go_roundg (gk-1)
       case measure=>omega
       case rel =>
        refine ⟨k+1,st.setIfInBounds k (z ^^^ y),by omega,by go_num,?_,?_,?_⟩
        ·have:=Holds.set hSt (i:=k) (by omega) (z ^^^ y)
         rw[Nat.zero_add] at this
         exact Holds.drew this
        ·exact (hO.setCell (o:=k) (by omega) (by omega) _).drew
        ·show _=(xorB R (total s.data.toList e) I k).setIfInBounds k ((xorB R (total s.data.toList e) I k)[k]! ^^^ (total s.data.toList e)[I+k]!)
         rw[← HE.out,HZ.out,HY.out]
      ·have hk136:k=136:=by omega
       subst hk136
       have hgz2:=Holds.lt hSt (by omega)
       have kc:=conv_str Tryz.prog 22 9 5 slice22 int5 str9 _ sg 0 200 sc st hSt hsts
       have hbq:=hb.trans (hO.below hb.size hsg)
       obtain ⟨PB,hPB⟩:∃ x,zCq st=x:=⟨_,rfl⟩
       have hps:PB.size=200:=by rw[← hPB,zCq,zAl]
       have HE2:Hid (PB=zDb (total s.data.toList e) (i+1)):=by
        show PB=zCq (xorB (zDb (total s.data.toList e) i) (total s.data.toList e) (136*i) 136)
        rw[← HR.out,HI.out,← HE.out,hPB]
       have HPB:Hid (PB=zCq st):=hPB.symm
       clear hPB HE
       go_wp2_with fail
       refine (zCL ⟨st⟩ _ hsts).mono ?_
       rintro r w5 ⟨rfl,hb5⟩
       have e5:(ByteArray.mk (zCq (ByteArray.mk st).data))=ByteArray.mk PB:=congrArg ByteArray.mk HPB.out.symm
       rw[e5]
       clear e5
       obtain ⟨sc6,w6,hcv6,hle6,hH6,hb6⟩:=zK5 w5 PB hps
       have hgq:=Holds.lt hTq (by rw[List.size_toArray,htl];omega)
       have hg5:g<w5.heap.size:=Nat.lt_of_lt_of_le hgq hb5.size
       have hT6:=Holds.below (Holds.below hTq hb5 hgq) hb6 hg5
       have hb8:Below w.heap.size w w6:=(hbq.trans (hb5.mono hbq.size)).trans (hb6.mono (by have:=hb5.size;have:=hbq.size;omega))
       rw[HE2.out] at hH6
       have hz5:w.heap.size≤w5.heap.size:=by have:=hb5.size;have:=hbq.size;omega
       go_wp2
       go_roundg (M-(i+1))
       case measure=>omega
       case rel=>exact ⟨i+1,w5.heap.size,sc6,by omega,by rw[← HI.out];go_num,rfl,hle6,hz5,by omega,hH6,hT6,hb8⟩
    ·have hiM:i=M:=by omega
     have hge:(L:Int)≤((136*i:Nat):Int):=by have:=HLM.out;omega
     obtain ⟨d,hd⟩:∃ d,zB1 s.data.toList e=d:=⟨_,rfl⟩
     obtain ⟨F,hF⟩:∃ F,front (zA8 d 0) 200=F:=⟨_,rfl⟩
     have hSf:Holds encB wr sg 0 F:=by
      have:=zHn s.data.toList e
      rw[HM.out,← hiM,hd] at this
      rw[this] at hS
      rw[← hF,zA8]
      exact hS
     have hab:d.size=25:=by rw[← hd];exact zC4 s.data.toList e
     have HDD:Hid (d=zB1 s.data.toList e):=hd.symm
     have HFF:Hid (F=front (zA8 d 0) 200):=hF.symm
     clear hS hrs hTA hgz hiM hlt hi hd hF
     generalize hI:136*i=I at *
     clear hI
     have hdec:decide ((I:Int)<(L:Int))=false:=decide_eq_false (by omega)
     have hdec2:decide (I<L)=false:=decide_eq_false (by omega)
     go_wp2
     go_loopg [8,11] (n+136) (fun g4 s8 s11 wq=>∃ (m sg sc:Nat) (o:ByteArray) (Fm:Bs),136*m+g4=n+136∧1≤g4∧s11=.string o∧o.size=136*m∧s8=.slice (some ⟨sg,0,none⟩) 200 sc∧200≤sc∧Holds encB wq sg 0 Fm∧Fm.size=200∧Below w.heap.size w wq∧Hid (Fm=front (zA8 d m) 200)∧Hid (∀ j,j<136*m→o.data[j]! = zAT d j))
     case atStart=>exact ⟨0,sg,sc,ByteArray.empty,F,by omega,by omega,rfl,rfl,rfl,hsc,hSf,by rw[HFF.out,zAl],hb,HFF,fun j hj=>by omega⟩
     case round =>
      clear hSf HFF hsc
      obtain ⟨m,sg,sc,o,Fm,hg4,hg41,rfl,ho,rfl,hsc,hF,hFs,hb,HF,HO⟩:=hrel
      have Ho:Hid (o.size=136*m):=ho
      have hob:o.size≤n+136:=by omega
      by_cases hlt:o.size<n
      ·have hlt':(o.size:Int)<(n:Int):=by omega
       obtain ⟨Q,hQ⟩:∃ Q,front (zA8 d m) 136=Q:=⟨_,rfl⟩
       have hQs:Q.size=136:=by rw[← hQ,zAl]
       have hQa:∀ j,j<136→Q[j]! = byteOf (zA8 d m) j:=fun j hj=>by rw[← hQ,zCa _ _ _ hj]
       have hHQ:Holds encB wr sg 0 Q:=by
        have h1:=zHN (zA8 d m)
        rw[← HF.out,hQ] at h1
        exact Holds.front hF h1.1 h1.2
       have hnx:=zMo o d m Q hQs hQa ho HO
       have HNX:Hid ((o++⟨Q⟩).size=136*(m+1)∧∀ j,j<136*(m+1)→(o++(⟨Q⟩:ByteArray)).data[j]! = zAT d j):=hnx
       obtain ⟨PB,hPB⟩:∃ x,zCq Fm=x:=⟨_,rfl⟩
       have hps:PB.size=200:=by rw[← hPB,zCq,zAl]
       have HN:Hid (PB=front (zA8 d (m+1)) 200):=by
        show PB=front (perm (zA8 d m)) 200
        rw[← hPB,HF.out,zHx _ (zAR d hab m)]
       have HPB:Hid (PB=zCq Fm):=hPB.symm
       have kc1:=conv_str Tryz.prog 22 9 5 slice22 int5 str9 wr sg 0 136 sc Q hHQ hQs
       have kc2:=conv_str Tryz.prog 22 9 5 slice22 int5 str9 wr sg 0 200 sc Fm hF hFs
       have hsc0:(sc=0)=False:=eq_false (by omega)
       have hsc1:(136:Int)≤(sc:Int):=by omega
       clear hQ hQa hHQ hnx hPB HO ho
       go_wp2_with fail
       refine (zCL ⟨Fm⟩ _ hFs).mono ?_
       rintro r w5 ⟨rfl,hb5⟩
       have e5:(ByteArray.mk (zCq (ByteArray.mk Fm).data))=ByteArray.mk PB:=congrArg ByteArray.mk HPB.out.symm
       rw[e5]
       clear e5
       obtain ⟨sc6,w6,hcv6,hle6,hH6,hb6⟩:=zK5 w5 PB hps
       have hb8:Below w.heap.size w w6:=(hb.trans (hb5.mono hb.size)).trans (hb6.mono (by have:=hb5.size;have:=hb.size;omega))
       go_wp2
       go_roundg (gk-136)
       case measure=>have:=Ho.out;omega
       case rel=>exact ⟨m+1,w5.heap.size,sc6,o++(ByteArray.mk Q),PB,by have:=Ho.out;omega,by have:=Ho.out;omega,rfl,HNX.out.1,rfl,hle6,hH6,hps,hb8,HN,HNX.out.2⟩
      ·have hge:(n:Int)≤(o.size:Int):=by omega
       have hex:=zGz o d n m ho (by omega) HO
       have HEX:Hid (o.extract 0 n=⟨zBy d n⟩):=hex
       clear hex ho HO
       go_wp2
       go_ret
       rw[← HDD.out,← HEX.out]
       exact ⟨rfl,hb⟩
end SP
namespace SP
open Go.RowKit Go.Sort Go.Deep
end SP
namespace SP
open Go.RowKit Go.Sort Go.Deep
theorem zHo (s:ByteArray) (w:World) (hs:s.size≤1048576) :
 Calls Tryz.prog 153 #[.string s] w fun r w'=>r=.returned (.string ⟨zJj s.data.toList⟩)∧Below w.heap.size w w':=by
 go_enter Tryz.func153,Tryz.ntmps153
 go_wp2_with fail
 refine (zDc s 6 32 _ hs (by decide)).mono ?_
 rintro r w1 ⟨rfl,hb⟩
 rw[← zHM]
 go_wp2
 go_ret
 exact ⟨rfl,hb⟩
theorem zFR (s:ByteArray) (n:Nat) (w:World) (hs:s.size≤1048576) (hn:n≤16384) :
 Calls Tryz.prog 99 #[.string s,.int .i64 n] w fun r w'=>r=.returned (.string ⟨zD1 s.data.toList n⟩)∧Below w.heap.size w w':=by
 go_enter Tryz.func99,Tryz.ntmps99
 go_wp2_with fail
 refine (zDc s 31 n _ hs hn).mono ?_
 rintro r w1 ⟨rfl,hb⟩
 go_wp2
 go_ret
 exact ⟨rfl,hb⟩
end SP
namespace SP
open Go.RowKit Go.Sort Go.Deep
theorem zIY (label:ByteArray) (pa:Option Addr) (pcap:Nat) (ps:List ByteArray) (w:World) (hlab:label.size≤1048576) (hpl:ps.length≤1048576)
 (hP:ps.length=0∨∃ pb po,pa=some ⟨pb,po,none⟩∧∀ j,j<ps.length→w.cell? ⟨pb,po+j,none⟩=some (.string ps[j]!)) (hsz:∀ j,j<ps.length→(ps[j]!).size≤1048576)
 (htot:(zAM label.data.toList (ps.map fun s=>s.data.toList)).length≤1048576) :
 Calls Tryz.prog 100 #[.string label,.slice pa ps.length pcap] w fun e w'=>e=.returned (.string ⟨tagL label.data.toList (ps.map fun s=>s.data.toList)⟩)∧Below w.heap.size w w':=by
 obtain ⟨n,hn⟩:∃ n,ps.length=n:=⟨_,rfl⟩
 rw[hn]
 have Hn:Hid (ps.length=n):=hn
 have hn20:n≤1048576:=by omega
 clear hn
 go_enter Tryz.func100,Tryz.ntmps100
 go_wp2_with fail
 refine (zG9 label _ hlab).mono ?_
 rintro e w1 ⟨o1,rfl,ho1,hb1⟩
 go_wp2
 go_loopg [5,6] n (fun g s5 s6 wr=>∃ (k:Nat) (o:ByteArray),k+g=n∧s6=.int .i64 k∧s5=.string o∧Below w.heap.size w wr∧Hid (o.data.toList=zAM label.data.toList ((ps.map fun s=>s.data.toList).take k)))
 case atStart =>
  refine ⟨0,o1,by omega,rfl,rfl,hb1,?_⟩
  rw[List.take_zero]
  unfold zAM
  rw[List.flatMap_nil,List.append_nil]
  exact ho1
 case round =>
  clear ho1 hb1
  obtain ⟨k,o,hk,rfl,rfl,hb,HE⟩:=hrel
  by_cases hlt:k<n
  ·obtain ⟨pb,po,rfl,hPj⟩:∃ pb po,pa=some ⟨pb,po,none⟩∧∀ j,j<ps.length→w.cell? ⟨pb,po+j,none⟩=some (.string ps[j]!):=by
    rcases hP with h|h
    ·have:=Hn.out;omega
    ·exact h
   have hvc:=hPj k (by have:=Hn.out;omega)
   have hszk:=hsz k (by have:=Hn.out;omega)
   obtain ⟨s,hs⟩:∃ s,ps[k]! = s:=⟨_,rfl⟩
   rw[hs] at hvc hszk
   have HS:Hid (s=ps[k]!):=hs.symm
   have hvc':wr.cell? ⟨pb,po+k,none⟩=some (.string s):=by rw[hb.cell (p:=⟨pb,po+k,none⟩) (World.block_lt_of_cell? _ _ hvc)];exact hvc
   have l1:(k:Int)<(n:Int):=by omega
   clear hs hvc hPj
   go_wp2_with fail
   refine (zG9 s _ hszk).mono ?_
   rintro e w2 ⟨o2,rfl,ho2,hb2⟩
   have HO2:Hid (o2.data.toList=zBJ s.data.toList):=ho2
   have hos:o.size≤1048576:=by
    have h1:o.data.toList.length=o.size:=Array.length_toList
    rw[HE.out] at h1
    have:=zGS label.data.toList (ps.map fun s=>s.data.toList) k
    omega
   have ho2s:o2.size≤1048580:=by
    have h1:o2.data.toList.length=o2.size:=Array.length_toList
    have h2:s.data.toList.length=s.size:=Array.length_toList
    rw[ho2,zCc] at h1
    omega
   clear ho2
   go_wp2
   go_roundg (gk-1)
   case measure=>omega
   case rel =>
    refine ⟨k+1,o++o2,by omega,by go_num,rfl,hb.trans (hb2.mono hb.size),?_⟩
    have hkl:k<(ps.map fun s=>s.data.toList).length:=by rw[List.length_map];have:=Hn.out;omega
    have hkl2:k<ps.length:=by have:=Hn.out;omega
    rw[zCK _ k hkl,zDX,ByteArray.data_append,Array.toList_append,HE.out,HO2.out,getElem!_pos (ps.map fun s=>s.data.toList) k hkl,List.getElem_map,HS.out,getElem!_pos ps k hkl2]
    rfl
  ·have l1:(n:Int)≤(k:Int):=by omega
   have HE2:Hid (o.data.toList=zAM label.data.toList (ps.map fun s=>s.data.toList)):=by
    have e1:(ps.map fun s=>s.data.toList).take k=ps.map fun s=>s.data.toList:=List.take_of_length_le (by rw[List.length_map];have:=Hn.out;omega)
    rw[e1] at HE
    exact HE
   have hos:o.size≤1048576:=by
    have h1:o.data.toList.length=o.size:=Array.length_toList
    rw[HE2.out] at h1
    omega
   clear HE
   go_wp2_with fail
   refine (zHo o _ hos).mono ?_
   rintro e w3 ⟨rfl,hb3⟩
   rw[HE2.out]
   go_wp2
   go_ret
   exact ⟨rfl,hb.trans (hb3.mono hb.size)⟩
end SP
end Go.Proofs.YtglhhepedoffeaaGreat
