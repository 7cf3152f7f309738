import Derived.Sort.Row
import Derived.Deep.Draws
import Derived.Below
import Derived.Deep.OwnRows
import Derived.Test.YtgbjainaafdpgaaGreatRows
import Derived.Deep.LoopGhost
import Derived.Deep.QuietTactic
import Derived.StillTailTactics
import Derived.BigRegion
import Derived.BigQuiet
import Derived.WalkKit
import Derived.WalkSpells
import Derived.WalkLawsBesides
import Derived.Deep.RegionWith
import Derived.KernelRfl
import Derived.Lib.LazyBuf
import Derived.Lib.SliceRun
import Derived.Deep.AppendSrc
import Derived.Lib.AppendZeros
import Derived.Lib.ConvBytes
import Derived.Deep.RegionHeld3
import Derived.Deep.CutRange
import Derived.Deep.DeepCutAuto
import Derived.Test.YtgbjainaafdpgaaGreatBt4
set_option linter.unusedVariables false
set_option linter.unusedSimpArgs false
set_option maxRecDepth 1000000
set_option maxHeartbeats 4000000
namespace Go.Proofs.YtgbjainaafdpgaaGreat
open Go.Proofs.Tryz (prog)
namespace SP
open Go.RowKit Go.Sort
structure Only(b off n:Nat)(w w':World):Prop where
 os:w'.os=w.os
 tape:w'.tape=w.tape
 output:w'.output=w.output
 size:w.heap.size<=w'.heap.size
 block:∀k,k<w.heap.size->k≠b->w'.heap[k]? = w.heap[k]?
 cell:∀o,(o<off\/off+n<=o)->w'.cell? ⟨b,o,none⟩=w.cell? ⟨b,o,none⟩
 froz:∀o,w'.frozen? ⟨b,o,none⟩=w.frozen? ⟨b,o,none⟩
variable {b off n:Nat}{w w1 w2:World}
theorem Only.refl(b off n:Nat)(w:World):Only b off n w w:=⟨rfl,rfl,rfl,Nat.le_refl _,fun _ _ _=>rfl,fun _ _=>rfl,fun _=>rfl⟩
theorem Only.trans(h:Only b off n w w1)(k:Only b off n w1 w2):Only b off n w w2:=
 ⟨k.os.trans h.os,k.tape.trans h.tape,k.output.trans h.output,Nat.le_trans h.size k.size,
  fun i hi hn=>(k.block i (Nat.lt_of_lt_of_le hi h.size) hn).trans (h.block i hi hn),
  fun o ho=>(k.cell o ho).trans (h.cell o ho),fun o=>(k.froz o).trans (h.froz o)⟩
theorem Only.drewN(h:Only b off n w w1)(q:Nat):Only b off n w (w1.drewN q):=⟨h.os,h.tape,h.output,h.size,h.block,h.cell,h.froz⟩
theorem Only.drew(h:Only b off n w w1):Only b off n w w1.drew:=⟨h.os,h.tape,h.output,h.size,h.block,h.cell,h.froz⟩
theorem Only.setCell(h:Only b off n w w1){o:Nat}(h1:off<=o)(h2:o<off+n)(v:Value):Only b off n w (w1.setCell ⟨b,o,none⟩ v):=by
 refine h.trans ⟨rfl,rfl,rfl,by simp,fun k _ hn=>Below.heap_setCell _ _ _ _ hn,fun o' ho=>?_,fun o'=>by simp⟩;exact World.cell?_setCell_other _ _ _ _ (by intro e;simp only[Addr.mk.injEq,and_true,true_and]at e;omega)
theorem Only.alloc(h:Only b off n w w1)(hb:b<w1.heap.size)(o:Obj):Only b off n w (w1.alloc o):=by
 refine h.trans ⟨rfl,rfl,rfl,by simp,fun k hk _=>Below.heap_alloc _ _ _ hk,fun o' _=>?_,fun o'=>?_⟩
 ·exact World.cell?_alloc_lt _ _ _ hb
 ·exact World.frozen?_alloc_old _ _ _ (by show b≠_;omega)
theorem Only.below(h:Only b off n w w1){B:Nat}(hB:B<=w.heap.size)(hb:B<=b):Below B w w1:=
 ⟨h.os,h.tape,h.output,h.size,fun k hk=>h.block k (by omega) (by omega)⟩
theorem Only.of_below{B:Nat}(h:Below B w w1)(hB:B=w.heap.size)(hb:b<B):Only b off n w w1:=
 ⟨h.os,h.tape,h.output,h.size,fun k hk _=>h.block k (by omega),fun o _=>h.cell (p:=⟨b,o,none⟩) hb,fun o=>h.frozen (p:=⟨b,o,none⟩) hb⟩
theorem Only.other(h:Only b off n w w1){c o:Nat}(hc:c≠b)(hs:c<w.heap.size):w1.cell? ⟨c,o,none⟩=w.cell? ⟨c,o,none⟩/\w1.frozen? ⟨c,o,none⟩=w.frozen? ⟨c,o,none⟩:=
 ⟨World.cell?_of_block (w:=w) (h.block c hs hc),World.frozen?_of_block (w:=w) (h.block c hs hc)⟩
theorem Only.fresh{o m:Nat}{x:Obj}(h:Only w.heap.size o m (w.alloc x) w1):Below w.heap.size w w1:=
 ((Below.refl _ _).alloc (Nat.le_refl _) x).trans (h.below (by simp) (Nat.le_refl _))
section
variable {α:Type}[Inhabited α]{enc:α->Value}{d:Array α}
theorem Holds.lt(h:Holds enc w b off d)(hd:0<d.size):b<w.heap.size:=World.block_lt_of_cell? _ _ (h 0 hd).1
theorem Holds.other{c o:Nat}(h:Holds enc w c o d)(k:Only b off n w w1)(hc:c≠b)(hd:0<d.size):Holds enc w1 c o d:=by
 intro j hj;have:=h j hj;have:=k.other (o:=o+j) hc (Holds.lt h hd);rw[this.1,this.2];exact h j hj
theorem Holds.same{o:Nat}(h:Holds enc w b o d)(k:Only b off n w w1)(hd:o+d.size<=off\/off+n<=o):Holds enc w1 b o d:=by
 intro j hj;rw[k.cell _ (by omega),k.froz];exact h j hj
theorem Holds.below{B:Nat}(h:Holds enc w b off d)(k:Below B w w1)(hb:b<B):Holds enc w1 b off d:=by
 intro j hj;rw[k.cell (p:=⟨b,off+j,none⟩) hb,k.frozen (p:=⟨b,off+j,none⟩) hb];exact h j hj
theorem Holds.drewN(h:Holds enc w b off d)(q:Nat):Holds enc (w.drewN q) b off d:=h
theorem Holds.drew(h:Holds enc w b off d):Holds enc w.drew b off d:=h
theorem Holds.set(h:Holds enc w b off d){i:Nat}(hi:i<d.size)(x:α):Holds enc (w.setCell ⟨b,off+i,none⟩ (enc x)) b off (d.setIfInBounds i x):=by
 intro j hj;rw[Array.size_setIfInBounds]at hj;rw[World.frozen?_setCell];by_cases e:j=i
 ·subst e;rw[getElem!_set_same d j x hi];exact⟨World.cell?_setCell_same _ _ _ (h j hj).1,(h j hj).2⟩
 ·rw[getElem!_set_other d i j x e,World.cell?_setCell_other _ _ _ _ (by intro e';simp only[Addr.mk.injEq,and_true,true_and]at e';omega)];exact h j hj
theorem Holds.new(w:World)(t:TypeId)(d:Array α):Holds enc (w.alloc (.cells (d.map enc) t)) w.heap.size 0 d:=by
 intro j hj;rw[World.cell?_alloc_new,World.frozen?_alloc_new];refine⟨?_,rfl⟩;simp only[Nat.zero_add,Array.getElem?_map,Array.getElem?_eq_getElem hj,Option.map_some,getElem!_pos d j hj]
theorem Holds.made(w:World)(t:TypeId)(n:Nat)(x:α):Holds enc (w.alloc (.cells (madeCells #[enc x] n) t)) w.heap.size 0 (Array.replicate n x):=by
 intro j hj;rw[Array.size_replicate]at hj;rw[World.cell?_alloc_new,World.frozen?_alloc_new];refine⟨?_,rfl⟩;rw[getElem!_pos _ j (by simpa using hj),Array.getElem_replicate];simp[madeCells,hj,Nat.mod_one]
end
theorem Holds.xor{d:St}(h:Holds enc w b off d){i:Nat}(hi:i<d.size){x:BitVec 64}(hx:d[i]! = x)(v:BitVec 64):Holds enc (w.setCell ⟨b,off+i,none⟩ (.int .u64 (u (x ^^^ v)))) b off (bN d i v):=by
 unfold bN;rw[hx];exact Holds.set h hi (x ^^^ v)
theorem bZ(d:St)(i j:Nat)(v:BitVec 64)(h:j≠i):(bN d i v)[j]! = d[j]!:=getElem!_set_other d i j _ h
end SP
namespace SP
open Go.RowKit Go.Sort
theorem mixed:prog.follows .mixedOrders=true:=by kernel_rfl
theorem aS{w:World}{b off:Nat}{d:St}(h:Holds enc w b off d)(i:Nat)(hi:i<d.size){x:BitVec 64}(hx:d[i]! = x):
 w.cell? ⟨b,off+i,none⟩=some (.int .u64 (u x))/\w.frozen? ⟨b,off+i,none⟩=false:=by
 rw[<-hx];exact h i hi
theorem ret_int{k:IntKind}{a b:Int}(h:a=b):Ending.returned (.int k a)=.returned (.int k b):=by rw[h]
theorem yF(x:BitVec 64)(k:Nat)(w:World)(hk:k<64):
 Calls prog 188 #[.int .u64 (u x),.int .i64 k] w fun e w'=>e=.returned (.int .u64 (u (rol x k)))/\w'=w:=by
 have h63:=NI k hk;have h1:(0:Int)<=64-(k:Int):=by omega
 go_enter Tryz.func188,Tryz.ntmps188;go_wp2;go_ret;refine⟨ret_int ?_,rfl⟩;rw[uG,Cm,cS];rfl
end SP
namespace SP
open Go.RowKit Go.Sort
theorem zH(w:World)(t:TypeId):Holds enc (w.alloc (.cells #[.int .u64 0,.int .u64 0,.int .u64 0,.int .u64 0,.int .u64 0] t)) w.heap.size 0 (#[0,0,0,0,0]:St):=by
 have h:=Holds.new (enc:=enc) w t (#[0,0,0,0,0]:St);have e:Array.map enc (#[0,0,0,0,0]:St)=#[.int .u64 0,.int .u64 0,.int .u64 0,.int .u64 0,.int .u64 0]:=by simp[enc,u]
 rw[e]at h;exact h
attribute [local go_sem] cO cY cS
theorem sH(b off:Nat)(d:St)(w:World)(hd:d.size=25)(hH:Holds enc w b off d):
 Calls prog 183 #[.pointer (some ⟨b,off,none⟩)] w fun e w'=>e=.returned (.tuple #[])/\Only b off 25 w w'/\Holds enc w' b off (pT d):=by
 have hb:=Holds.lt hH (by omega);go_enter Tryz.func183,Tryz.ntmps183;go_wp2;generalize hW1:(w.alloc _)=W1;go_loopg [7] 5 (fun g s7 wr=>∃k sk,k+g=5/\s7=.int .i64 (k:Nat)/\Holds enc wr w.heap.size 0 sk/\Only w.heap.size 0 5 W1 wr/\Hid (sk=jO d k))
 case atStart =>
  refine⟨0,#[0,0,0,0,0],rfl,rfl,?_,Only.refl _ _ _ _,rfl⟩;rw[<-hW1];exact zH w 235
 case round =>
  obtain⟨k,sk,hk,rfl,hS,hO,HE⟩:=hrel;have hHw:Holds enc wr b off d:=Holds.other (by rw[<-hW1];exact Holds.below hH ((Below.refl _ _).alloc (Nat.le_refl _) _) hb) hO (by omega) (by omega);by_cases hlt:k<5
  ·obtain⟨x0,hx0⟩:∃x,d[k]! = x:=⟨_,rfl⟩
   obtain⟨x1,hx1⟩:∃x,d[k+5]! = x:=⟨_,rfl⟩
   obtain⟨x2,hx2⟩:∃x,d[k+10]! = x:=⟨_,rfl⟩
   obtain⟨x3,hx3⟩:∃x,d[k+15]! = x:=⟨_,rfl⟩
   obtain⟨x4,hx4⟩:∃x,d[k+20]! = x:=⟨_,rfl⟩
   obtain⟨x5,hx5⟩:∃x,sk[k]! = x:=⟨_,rfl⟩
   have hss:sk.size=5:=by rw[HE.out,pU]
   obtain⟨c0,f0⟩:=aS hHw k (by omega) hx0;obtain⟨c1,f1⟩:=aS hHw (k+5) (by omega) hx1;obtain⟨c2,f2⟩:=aS hHw (k+10) (by omega) hx2;obtain⟨c3,f3⟩:=aS hHw (k+15) (by omega) hx3;obtain⟨c4,f4⟩:=aS hHw (k+20) (by omega) hx4;obtain⟨c5,f5⟩:=aS hS k (by omega) hx5;rw[Nat.zero_add]at c5 f5;have HX:Hid (BD d k=x0 ^^^ x1 ^^^ x2 ^^^ x3 ^^^ x4):=by rw[<-hx0,<-hx1,<-hx2,<-hx3,<-hx4];rfl
   clear hx0 hx1 hx2 hx3 hx4 hx5 hHw;have k5:(k:Int)<5:=by omega
   have b0:(k:Int)<25:=by omega
   have b1:(k:Int)+5<25:=by omega
   have b2:(k:Int)+10<25:=by omega
   have b3:(k:Int)+15<25:=by omega
   have b4:(k:Int)+20<25:=by omega
   have p1:0<=(k:Int)+5:=by omega
   have p2:0<=(k:Int)+10:=by omega
   have p3:0<=(k:Int)+15:=by omega
   have p4:0<=(k:Int)+20:=by omega
   have e1:((k:Int)+5).toNat=k+5:=by omega
   have e2:((k:Int)+10).toNat=k+10:=by omega
   have e3:((k:Int)+15).toNat=k+15:=by omega
   have e4:((k:Int)+20).toNat=k+20:=by omega
   have v1:IntKind.i64.wrap ((k:Int)+5)=(k:Int)+5:=IntWalk.i64_in _ (by omega);have v2:IntKind.i64.wrap ((k:Int)+10)=(k:Int)+10:=IntWalk.i64_in _ (by omega);have v3:IntKind.i64.wrap ((k:Int)+15)=(k:Int)+15:=IntWalk.i64_in _ (by omega);have v4:IntKind.i64.wrap ((k:Int)+20)=(k:Int)+20:=IntWalk.i64_in _ (by omega);go_wp2_with fail
   go_still_tail 35,mixed;go_wp2;go_roundg (gk-1)
   case measure=>omega
   case rel =>
    refine⟨k+1,sk.setIfInBounds k (x0 ^^^ x1 ^^^ x2 ^^^ x3 ^^^ x4),by omega,by go_num,?_,?_,?_⟩
    ·have:=Holds.set hS (i:=k) (by omega) (x0 ^^^ x1 ^^^ x2 ^^^ x3 ^^^ x4);rw[Nat.zero_add]at this;exact Holds.drew this
    ·exact(hO.setCell (Nat.zero_le _) (by omega) _).drew
    ·show _=(jO d k).setIfInBounds k (BD d k);rw[HX.out,HE.out]
  ·have hk5:k=5:=by omega
   subst hk5;have HS:Hid (sk=jO d 5):=HE;have hO2:Only b off 25 w wr:=by
    rw[<-hW1]at hO;exact Only.of_below hO.fresh rfl hb
   clear hk hlt HE hO hW1;go_wp2;go_loopg [46] 5 (fun g s46 wq=>∃k dk,k+g=5/\s46=.int .i64 (k:Nat)/\Holds enc wq b off dk/\Only b off 25 wr wq/\Hid (dk=iG sk d k))
   case atStart=>exact⟨0,d,rfl,rfl,hHw,Only.refl _ _ _ _,rfl⟩
   case round =>
    obtain⟨k,dk,hk,rfl,hD,hO,HE⟩:=hrel;by_cases hlt:k<5
    ·have hss:sk.size=5:=by rw[HS.out,pU]
     have hSw:=Holds.other hS hO (by omega) (by omega);obtain⟨y0,hy0⟩:∃x,sk[(k+4)%5]! = x:=⟨_,rfl⟩
     obtain⟨y1,hy1⟩:∃x,sk[(k+1)%5]! = x:=⟨_,rfl⟩
     obtain⟨c0,f0⟩:=aS hSw ((k+4)%5) (by omega) hy0;obtain⟨c1,f1⟩:=aS hSw ((k+1)%5) (by omega) hy1;rw[Nat.zero_add]at c0 c1;have HD:Hid (bT sk k=y0 ^^^ rol y1 1):=by rw[<-hy0,<-hy1];rfl
     clear hy0 hy1 f0 f1;have k5:(k:Int)<5:=by omega
     go_wp2_with fail
     go_quiet ((go_at_call 188;exact Calls.quiet_of_same (yF _ 1 _ (by decide))));clear c0 c1;go_wp2;have hO1:=hO.drewN nq;have hD1:=Holds.drewN hD nq;have hds:dk.size=25:=by rw[HE.out,nB,hd]
     go_loopg [6] 5 (fun g s6 wq=>∃m dm,m+g=5/\s6=.int .i64 ((k+5*m:Nat):Int)/\Holds enc wq b off dm/\Only b off 25 wr wq/\Hid (dm=jX (y0 ^^^ rol y1 1) k dk m))
     case atStart=>exact⟨0,dk,rfl,rfl,hD1,(Only.refl _ _ _ _).drewN _,rfl⟩
     case round =>
      obtain⟨m,dm,hm,rfl,hM,hOm,HM⟩:=hrel;by_cases hlt2:m<5
      ·have hms:dm.size=25:=by rw[HM.out,oG,hds]
       obtain⟨z,hz⟩:∃x,dm[k+5*m]! = x:=⟨_,rfl⟩
       obtain⟨c,f⟩:=aS hM (k+5*m) (by omega) hz;have HZ:Hid (dm[k+5*m]! = z):=hz;clear hz;have r1:((k+5*m:Nat):Int)<25:=by omega
       generalize hi:k+5*m=i at *;have Hi:Hid (k+5*m=i):=hi;clear hi;go_wp2_with fail
       go_still_tail 9,mixed;go_wp2;go_roundg (gk-1)
       case measure=>omega
       case rel =>
        refine⟨m+1,dm.setIfInBounds i (z ^^^ (y0 ^^^ rol y1 1)),by omega,?_,?_,?_,?_⟩
        ·rw[<-Hi.out];go_num
        ·exact Holds.drew (Holds.set hM (by omega) _)
        ·exact(hOm.setCell (Nat.le_add_right _ _) (by omega) _).drew
        ·show _=bN (jX (y0 ^^^ rol y1 1) k dk m) (k+5*m) (y0 ^^^ rol y1 1);rw[<-HM.out,Hi.out,<-HZ.out];rfl
      ·have hm5:m=5:=by omega
       subst hm5;have r1:(25:Int)<=((k+5*5:Nat):Int):=by omega
       generalize hi:k+5*5=i at *;go_wp2;go_roundg (4-k)
       case measure=>omega
       case rel =>
        refine⟨k+1,dm,by omega,by go_num,hM,hO.trans hOm,?_⟩;show _=jX (bT sk k) k (iG sk d k) 5;rw[<-HE.out,HD.out];exact HM.out
    ·have hk5:k=5:=by omega
     subst hk5;go_wp2
     go_end0
     refine⟨rfl,hO2.trans hO,?_⟩;have:pT d=dk:=by rw[HE.out,HS.out];rfl
     rw[this];exact hD
end SP
namespace SP
open Go.RowKit Go.Sort
attribute [local go_sem] cO cY cS
theorem FG(t:Nat)(h:t<24):(wrap64 ((wrap64 (((t:Int)+1)*((t:Int)+2))).tdiv 2)).tmod 64=(sD t:Int):=by
 have H:∀j:Fin 24,(wrap64 ((wrap64 (((j.val:Int)+1)*((j.val:Int)+2))).tdiv 2)).tmod 64=(sD j.val:Int):=by decide +kernel
 exact H ⟨t,h⟩
theorem qM(b off:Nat)(d:St)(w:World)(hd:d.size=25)(hH:Holds enc w b off d):
 Calls prog 184 #[.pointer (some ⟨b,off,none⟩)] w fun e w'=>e=.returned (.tuple #[])/\Only b off 25 w w'/\Holds enc w' b off (nP d):=by
 obtain⟨x1,hx1⟩:∃x,d[1]! = x:=⟨_,rfl⟩
 obtain⟨c1,f1⟩:=aS hH 1 (by omega) hx1;go_enter Tryz.func184,Tryz.ntmps184;go_wp2;go_loopg [2,3,4,12] 24 (fun g sx sy sm st wr=>∃t T,t+g=24/\st=.int .i64 (t:Nat)/\sx=.int .i64 (T.x:Nat)/\sy=.int .i64 (T.y:Nat)/\sm=.int .u64 (u T.m)/\Holds enc wr b off T.d/\Only b off 25 w wr/\Hid (T=qN d t))
 case atStart=>exact⟨0,qN d 0,rfl,rfl,rfl,rfl,by rw[<-hx1];rfl,hH,Only.refl _ _ _ _,rfl⟩
 case round =>
  obtain⟨t,⟨x,y,m,dk⟩,ht,rfl,rfl,rfl,rfl,hD,hO,HE⟩:=hrel;have hok:=Ch d hd t;rw[<-HE.out]at hok;obtain⟨hx,hy,hs⟩:=hok;dsimp only at hx hy hs hD;clear c1 f1 hx1;by_cases hlt:t<24
  ·obtain⟨i,hi⟩:∃i,y+5*((2*x+3*y)%5)=i:=⟨_,rfl⟩
   obtain⟨z,hz⟩:∃z,dk[i]! = z:=⟨_,rfl⟩
   have hib:i<25:=by omega
   obtain⟨c,f⟩:=aS hD i (by omega) hz;have Hz:Hid (dk[i]! = z):=hz;have Hi:Hid (y+5*((2*x+3*y)%5)=i):=hi;have l24:(t:Int)<24:=by omega
   clear hz hi;go_wp2_with fail
   rw[FG t hlt];refine(yF m (sD t) _ (Nat.mod_lt _ (by decide))).mono ?_;rintro e w' ⟨rfl,rfl⟩;go_wp2_with fail
   obtain⟨y2,hy2⟩:∃n,(2*x+3*y)%5=n:=⟨_,rfl⟩
   have hy2':(2*(x:Int)+3*(y:Int))%5=(y2:Int):=by omega
   rw[hy2'];have Hy2:Hid ((2*x+3*y)%5=y2):=hy2;have r0:y2<5:=by omega
   clear hy2 hy2';have r1:(0:Int)<=(y:Int)+5*(y2:Int):=by omega
   have r2:(y:Int)+5*(y2:Int)<25:=by omega
   have r3:((y:Int)+5*(y2:Int)).toNat=i:=by have:=Hi.out;have:=Hy2.out;omega
   have s1:IntKind.i64.wrap (5*(y2:Int))=5*(y2:Int):=IntWalk.i64_in _ (by omega);have s2:IntKind.i64.wrap ((y:Int)+5*(y2:Int))=(y:Int)+5*(y2:Int):=IntWalk.i64_in _ (by omega);go_region
   go_wp2;go_roundg (gk-1)
   case measure=>omega
   case rel =>
    refine⟨t+1,⟨y,y2,z,dk.setIfInBounds i (rol m (sD t))⟩,by omega,by go_num,rfl,rfl,rfl,?_,?_,?_⟩
    ·exact Holds.drew (Holds.set hD (by omega) _)
    ·exact(hO.setCell (Nat.le_add_right _ _) (by omega) _).drew
    ·show _=AB t (qN d t);rw[<-HE.out];simp only[AB,Hy2.out];have e:y+5*y2=i:=by have:=Hi.out;have:=Hy2.out;omega
     rw[e,Hz.out]
  ·have ht24:t=24:=by omega
   subst ht24;go_wp2
   go_end0
   refine⟨rfl,hO,?_⟩;show Holds enc _ b off (qN d 24).d;rw[<-HE.out];exact hD
end SP
namespace SP
open Go.RowKit Go.Sort
attribute [local go_sem] cO cY cS mZ
theorem y8(b off:Nat)(d:St)(w:World)(hd:d.size=25)(hH:Holds enc w b off d):
 Calls prog 185 #[.pointer (some ⟨b,off,none⟩)] w fun e w'=>e=.returned (.tuple #[])/\Only b off 25 w w'/\Holds enc w' b off (chi d):=by
 go_enter Tryz.func185,Tryz.ntmps185;go_wp2;go_loopg [2] 5 (fun g si wr=>∃k dk,k+g=5/\si=.int .i64 ((5*k:Nat):Int)/\Holds enc wr b off dk/\Only b off 25 w wr/\Hid (dk=sZ d k))
 case atStart=>exact⟨0,d,rfl,rfl,hH,Only.refl _ _ _ _,rfl⟩
 case round =>
  obtain⟨k,dk,hk,rfl,hD,hO,HE⟩:=hrel;have hs:dk.size=25:=by rw[HE.out,sY,hd]
  by_cases hlt:k<5
  ·obtain⟨i,hi⟩:∃i,5*k=i:=⟨_,rfl⟩
   rw[hi];have Hi:Hid (5*k=i):=hi;obtain⟨x0,hx0⟩:∃x,dk[i]! = x:=⟨_,rfl⟩
   obtain⟨x1,hx1⟩:∃x,dk[i+1]! = x:=⟨_,rfl⟩
   obtain⟨x2,hx2⟩:∃x,dk[i+2]! = x:=⟨_,rfl⟩
   obtain⟨x3,hx3⟩:∃x,dk[i+3]! = x:=⟨_,rfl⟩
   obtain⟨x4,hx4⟩:∃x,dk[i+4]! = x:=⟨_,rfl⟩
   obtain⟨c0,f0⟩:=aS hD i (by omega) hx0;obtain⟨c1,f1⟩:=aS hD (i+1) (by omega) hx1;obtain⟨c2,f2⟩:=aS hD (i+2) (by omega) hx2;obtain⟨c3,f3⟩:=aS hD (i+3) (by omega) hx3;obtain⟨c4,f4⟩:=aS hD (i+4) (by omega) hx4;have HX0:Hid (dk[i]! = x0):=hx0;have HX1:Hid (dk[i+1]! = x1):=hx1;have HX2:Hid (dk[i+2]! = x2):=hx2;have HX3:Hid (dk[i+3]! = x3):=hx3;have HX4:Hid (dk[i+4]! = x4):=hx4;have Q0:=HX0;have Q1:=HX1;have Q2:=HX2;have Q3:=HX3;have Q4:=HX4;have i20:i<=20:=by omega
   clear hx0 hx1 hx2 hx3 hx4 hi;have b0:(i:Int)<25:=by omega
   have b1:(i:Int)+1<25:=by omega
   have p1:0<=(i:Int)+1:=by omega
   have e1:((i:Int)+1).toNat=i+1:=by omega
   have v1:IntKind.i64.wrap ((i:Int)+1)=(i:Int)+1:=IntWalk.i64_in _ (by omega);have b2:(i:Int)+2<25:=by omega
   have p2:0<=(i:Int)+2:=by omega
   have e2:((i:Int)+2).toNat=i+2:=by omega
   have v2:IntKind.i64.wrap ((i:Int)+2)=(i:Int)+2:=IntWalk.i64_in _ (by omega);have b3:(i:Int)+3<25:=by omega
   have p3:0<=(i:Int)+3:=by omega
   have e3:((i:Int)+3).toNat=i+3:=by omega
   have v3:IntKind.i64.wrap ((i:Int)+3)=(i:Int)+3:=IntWalk.i64_in _ (by omega);have b4:(i:Int)+4<25:=by omega
   have p4:0<=(i:Int)+4:=by omega
   have e4:((i:Int)+4).toNat=i+4:=by omega
   have v4:IntKind.i64.wrap ((i:Int)+4)=(i:Int)+4:=IntWalk.i64_in _ (by omega);go_wp2_with fail
   go_quiet (fail);clear c1 c2 c3 c4 f1 f2 f3 f4 b1 p1 e1 v1 b2 p2 e2 v2 b3 p3 e3 v3 b4 p4 e4 v4;go_wp2_with fail
   go_region
   go_wp2_with fail
   generalize hW0:World.setCell _ _ _=W0;have hs0:(bN dk i (~~~x1 &&& x2)).size=25:=by rw[b9];omega
   have hD0:Holds enc W0 b off (bN dk i (~~~x1 &&& x2)):=by rw[<-hW0];exact Holds.xor (Holds.drewN hD _) (by omega) HX0.out _
   have hO0:Only b off 25 w W0:=by rw[<-hW0];exact(hO.drewN _).setCell (o:=off+i) (by omega) (by omega) _
   generalize hd0:bN dk i (~~~x1 &&& x2)=d0 at *;have Hd0:Hid (bN dk i (~~~x1 &&& x2)=d0):=hd0;have HX1:Hid (d0[i+1]! = x1):=by show _=_;rw[<-hd0,bZ _ _ _ _ (by omega)];exact HX1.out
   have HX2:Hid (d0[i+2]! = x2):=by show _=_;rw[<-hd0,bZ _ _ _ _ (by omega)];exact HX2.out
   have HX3:Hid (d0[i+3]! = x3):=by show _=_;rw[<-hd0,bZ _ _ _ _ (by omega)];exact HX3.out
   have HX4:Hid (d0[i+4]! = x4):=by show _=_;rw[<-hd0,bZ _ _ _ _ (by omega)];exact HX4.out
   obtain⟨c1,f1⟩:=aS hD0 (i+1) (by omega) HX1.out;clear hd0 hW0 c0 f0;have b1:(i:Int)+1<25:=by omega
   have p1:0<=(i:Int)+1:=by omega
   have e1:((i:Int)+1).toNat=i+1:=by omega
   have v1:IntKind.i64.wrap ((i:Int)+1)=(i:Int)+1:=IntWalk.i64_in _ (by omega);go_region
   go_wp2_with fail
   generalize hW1:World.setCell _ _ _=W1;have hs1:(bN d0 (i+1) (~~~x2 &&& x3)).size=25:=by rw[b9];omega
   have hD1:Holds enc W1 b off (bN d0 (i+1) (~~~x2 &&& x3)):=by rw[<-hW1];exact Holds.xor hD0 (by omega) HX1.out _
   have hO1:Only b off 25 w W1:=by rw[<-hW1];exact(hO0).setCell (o:=off+(i+1)) (by omega) (by omega) _
   generalize hd1:bN d0 (i+1) (~~~x2 &&& x3)=d1 at *;have Hd1:Hid (bN d0 (i+1) (~~~x2 &&& x3)=d1):=hd1;have HX2:Hid (d1[i+2]! = x2):=by show _=_;rw[<-hd1,bZ _ _ _ _ (by omega)];exact HX2.out
   have HX3:Hid (d1[i+3]! = x3):=by show _=_;rw[<-hd1,bZ _ _ _ _ (by omega)];exact HX3.out
   have HX4:Hid (d1[i+4]! = x4):=by show _=_;rw[<-hd1,bZ _ _ _ _ (by omega)];exact HX4.out
   obtain⟨c2,f2⟩:=aS hD1 (i+2) (by omega) HX2.out;clear hd1 hW1 c1 f1;clear b1 p1 e1 v1;have b2:(i:Int)+2<25:=by omega
   have p2:0<=(i:Int)+2:=by omega
   have e2:((i:Int)+2).toNat=i+2:=by omega
   have v2:IntKind.i64.wrap ((i:Int)+2)=(i:Int)+2:=IntWalk.i64_in _ (by omega);go_region
   go_wp2_with fail
   generalize hW2:World.setCell _ _ _=W2;have hs2:(bN d1 (i+2) (~~~x3 &&& x4)).size=25:=by rw[b9];omega
   have hD2:Holds enc W2 b off (bN d1 (i+2) (~~~x3 &&& x4)):=by rw[<-hW2];exact Holds.xor hD1 (by omega) HX2.out _
   have hO2:Only b off 25 w W2:=by rw[<-hW2];exact(hO1).setCell (o:=off+(i+2)) (by omega) (by omega) _
   generalize hd2:bN d1 (i+2) (~~~x3 &&& x4)=d2 at *;have Hd2:Hid (bN d1 (i+2) (~~~x3 &&& x4)=d2):=hd2;have HX3:Hid (d2[i+3]! = x3):=by show _=_;rw[<-hd2,bZ _ _ _ _ (by omega)];exact HX3.out
   have HX4:Hid (d2[i+4]! = x4):=by show _=_;rw[<-hd2,bZ _ _ _ _ (by omega)];exact HX4.out
   obtain⟨c3,f3⟩:=aS hD2 (i+3) (by omega) HX3.out;clear hd2 hW2 c2 f2;clear b2 p2 e2 v2;have b3:(i:Int)+3<25:=by omega
   have p3:0<=(i:Int)+3:=by omega
   have e3:((i:Int)+3).toNat=i+3:=by omega
   have v3:IntKind.i64.wrap ((i:Int)+3)=(i:Int)+3:=IntWalk.i64_in _ (by omega);go_region
   go_wp2_with fail
   generalize hW3:World.setCell _ _ _=W3;have hs3:(bN d2 (i+3) (~~~x4 &&& x0)).size=25:=by rw[b9];omega
   have hD3:Holds enc W3 b off (bN d2 (i+3) (~~~x4 &&& x0)):=by rw[<-hW3];exact Holds.xor hD2 (by omega) HX3.out _
   have hO3:Only b off 25 w W3:=by rw[<-hW3];exact(hO2).setCell (o:=off+(i+3)) (by omega) (by omega) _
   generalize hd3:bN d2 (i+3) (~~~x4 &&& x0)=d3 at *;have Hd3:Hid (bN d2 (i+3) (~~~x4 &&& x0)=d3):=hd3;have HX4:Hid (d3[i+4]! = x4):=by show _=_;rw[<-hd3,bZ _ _ _ _ (by omega)];exact HX4.out
   obtain⟨c4,f4⟩:=aS hD3 (i+4) (by omega) HX4.out;clear hd3 hW3 c3 f3;clear b3 p3 e3 v3;have b4:(i:Int)+4<25:=by omega
   have p4:0<=(i:Int)+4:=by omega
   have e4:((i:Int)+4).toNat=i+4:=by omega
   have v4:IntKind.i64.wrap ((i:Int)+4)=(i:Int)+4:=IntWalk.i64_in _ (by omega);go_region
   go_wp2;generalize hW4:World.setCell _ _ _=W4;have hs4:(bN d3 (i+4) (~~~x0 &&& x1)).size=25:=by rw[b9];omega
   have hD4:Holds enc W4 b off (bN d3 (i+4) (~~~x0 &&& x1)):=by rw[<-hW4];exact Holds.xor hD3 (by omega) HX4.out _
   have hO4:Only b off 25 w W4:=by rw[<-hW4];exact(hO3).setCell (o:=off+(i+4)) (by omega) (by omega) _
   generalize hd4:bN d3 (i+4) (~~~x0 &&& x1)=d4 at *;have Hd4:Hid (bN d3 (i+4) (~~~x0 &&& x1)=d4):=hd4;clear hd4 hW4 c4 f4;clear b4 p4 e4 v4;go_roundg (gk-1)
   case measure=>omega
   case rel =>
    refine⟨k+1,d4,by omega,?_,?_,?_,?_⟩
    ·rw[<-Hi.out];go_num
    ·exact hD4
    ·exact hO4.drewN 4
    ·show d4=rowAt (sZ d k) (5*k);rw[<-HE.out,Hi.out];unfold rowAt;rw[Q0.out,Q1.out,Q2.out,Q3.out,Q4.out,Hd0.out,Hd1.out,Hd2.out,Hd3.out,Hd4.out]
  ·have hk5:k=5:=by omega
   subst hk5;go_wp2
   go_end0
   refine⟨rfl,hO,?_⟩;show Holds enc _ b off (sZ d 5);rw[<-HE.out];exact hD
end SP
namespace SP
open Go.RowKit Go.Sort
attribute [local go_sem] cO cY cS mM
theorem DV(j:Nat)(hj:j<7):∃p:Nat,wrap64 (wrap64 ((2:Int)^j)-1)=(p:Int)/\p<=63/\Hid (2^j-1=p):=by
 have H:∀j:Fin 7,wrap64 (wrap64 ((2:Int)^j.val)-1)=((2^j.val-1:Nat):Int)/\2^j.val-1<=63:=by decide +kernel
 exact⟨_,(H ⟨j,hj⟩).1,(H ⟨j,hj⟩).2,rfl⟩
theorem nN(r:Nat)(w:World)(hr:r<256):
 Calls prog 186 #[.int .i64 r] w fun e w'=>e=.returned (.tuple #[.int .u64 (u (rcC r)),.int .i64 (rcN r:Int)])/\w'=w:=by
 go_enter Tryz.func186,Tryz.ntmps186;go_wp2
 go_loop [0,2,6] (fun s0 s2 s6=>∃j:Nat,j<=7/\∃(c:BitVec 64) (q:Nat),s6=.int .i64 j/\s2=.int .u64 (u c)/\s0=.int .i64 q/\q<256/\Hid (rQ r j=(c,q))) (fun _ _ s6=>7-(intOf s6).toNat)
 case atStart=>exact⟨0,by decide,0,r,rfl,rfl,rfl,hr,rfl⟩
 case round =>
  obtain⟨j,hj,c,q,rfl,rfl,rfl,hq,HE⟩:=hrel;by_cases hlt:j<7
  ·have a1:=Fe q hq;have a2:=Fc q hq;obtain⟨p,a3,hp,HP⟩:=DV j hlt;have HC:Hid (rQ r (j+1)=(c ||| BitVec.ofNat 64 (q%2) <<< p,kC q)):=by
    show((rQ r j).1 ||| BitVec.ofNat 64 ((rQ r j).2%2) <<< (2^j-1),kC (rQ r j).2)=_;rw[HE.out,HP.out]
   have hs:=uG (BitVec.ofNat 64 (q%2)) p;have hlt2:=rR q hq;by_cases h255:255<2*q
   ·have HR:Hid (kC q=2*q ^^^ 369):=if_pos h255;rw[HR.out]at hlt2;generalize 2*q ^^^ 369=q2 at *;go_wp2
    go_round
    case rel=>exact⟨j+1,by omega,_,q2,by go_num,rfl,rfl,hlt2,by rw[HC.out,HR.out];rfl⟩
    case measure=>simp[intOf];omega
   ·have HR:Hid (kC q=2*q):=if_neg h255;go_wp2
    go_round
    case rel=>exact⟨j+1,by omega,_,2*q,by go_num,rfl,by go_num,by omega,by rw[HC.out,HR.out];rfl⟩
    case measure=>simp[intOf];omega
  ·have hj7:j=7:=by omega
   subst hj7;go_wp2
   go_ret2
   unfold rcC rcN;rw[HE.out];exact⟨rfl,rfl⟩
theorem pW(b off:Nat)(d:St)(w:World)(hd:d.size=25)(hH:Holds enc w b off d):
 Calls prog 178 #[.pointer (some ⟨b,off,none⟩)] w fun e w'=>e=.returned (.tuple #[])/\Only b off 25 w w'/\Holds enc w' b off (perm d):=by
 go_enter Tryz.func178,Tryz.ntmps178;go_wp2;go_loopg [2,3,4] 24 (fun g sc sr sk wr=>∃(k:Nat) (c:BitVec 64) (dk:St),k+g=24/\sk=.int .i64 k/\sc=.int .u64 (u c)/\sr=.int .i64 (tV k:Nat)/\Holds enc wr b off dk/\Only b off 25 w wr/\Hid (dk=kU d k))
 case atStart=>exact⟨0,0,d,rfl,rfl,rfl,rfl,hH,Only.refl _ _ _ _,rfl⟩
 case round =>
  obtain⟨k,c,dk,hk,rfl,rfl,rfl,hD,hO,HE⟩:=hrel;have hs:dk.size=25:=by rw[HE.out,kT d hd]
  by_cases hlt:k<24
  ·have k24:(k:Int)<24:=by omega
   go_wp2_with fail
   refine(sH b off dk _ hs hD).mono ?_;rintro e w1 ⟨rfl,hO1,hD1⟩;go_wp2_with fail
   refine(qM b off _ _ (by rw[gA,hs]) hD1).mono ?_;rintro e w2 ⟨rfl,hO2,hD2⟩;go_wp2_with fail
   refine(y8 b off _ _ (jQ _ (by rw[gA,hs])) hD2).mono ?_;rintro e w3 ⟨rfl,hO3,hD3⟩;have HN:Hid (tV (k+1)=rcN (tV k)):=rfl;have HK:Hid (kU d (k+1)=kY (kU d k) (rcC (tV k))):=rfl;have hrl:=IB k;generalize tV k=r at *;go_wp2_with fail
   refine(nN r _ hrl).mono ?_;rintro e w4 ⟨rfl,rfl⟩;have hs3:(chi (nP (pT dk))).size=25:=by rw[zY,jQ _ (by rw[gA,hs])]
   obtain⟨x,hx⟩:∃x,(chi (nP (pT dk)))[0]! = x:=⟨_,rfl⟩
   obtain⟨c0,f0⟩:=aS hD3 0 (by omega) hx;rw[Nat.add_zero]at c0 f0;have HX:Hid ((chi (nP (pT dk)))[0]! = x):=hx;clear hx;go_wp2_with fail
   go_region
   go_wp2;go_roundg (gk-1)
   case measure=>omega
   case rel =>
    refine⟨k+1,rcC r,kY dk (rcC r),by omega,by go_num,rfl,by rw[HN.out],?_,?_,?_⟩
    ·exact Holds.drew (Holds.xor (i:=0) hD3 (by omega) HX.out (rcC r))
    ·exact((((hO.trans hO1).trans hO2).trans hO3).setCell (o:=off) (by omega) (by omega) _).drew
    ·rw[HK.out,HE.out];rfl
  ·have hk24:k=24:=by omega
   subst hk24;go_wp2
   go_end0
   refine⟨rfl,hO,?_⟩;unfold perm;rw[<-HE.out];exact hD
end SP
namespace SP
open Go.RowKit Go.Sort Go.Deep
attribute [local go_sem] cO cY cS mM vN
theorem oQ{w:World}{b off:Nat}{d:Bs}(h:Holds encB w b off d)(i:Nat)(hi:i<d.size){x:UInt8}(hx:d[i]! = x):
 w.cell? ⟨b,off+i,none⟩=some (.int .u8 (ub x))/\w.frozen? ⟨b,off+i,none⟩=false:=by
 rw[<-hx];exact h i hi
theorem word_any(sb so o len cap:Nat)(bs:Bs)(w:World)(hB:Holds encB w sb so bs)(h8:8<=len)(ho:o+8<=bs.size)(hl:len<=4611686018427387904):
 Calls prog 187 #[.slice (some ⟨sb,so+o,none⟩) len cap] w fun e w'=>e=.returned (.int .u64 (u (wordOf bs o)))/\w'=w:=by
 go_enter Tryz.func187,Tryz.ntmps187;go_wp2
 go_loop [3,5] (fun s3 s5=>∃(k:Nat) (c:BitVec 64),k<=8/\s5=.int .i64 k/\s3=.int .u64 (u c)/\Hid (iS bs o k=c)) (fun _ s5=>8-(intOf s5).toNat)
 case atStart=>exact⟨0,0,by decide,rfl,rfl,rfl⟩
 case round =>
  obtain⟨k,c,hk,rfl,rfl,HE⟩:=hrel;by_cases hlt:k<8
  ·obtain⟨x,hx⟩:∃x,bs[o+k]! = x:=⟨_,rfl⟩
   obtain⟨c0,f0⟩:=oQ hB (o+k) (by omega) hx;rw[<-Nat.add_assoc]at c0;have HC:Hid (iS bs o (k+1)=c ||| wide x <<< (8*k)):=by
    show iS bs o k ||| wide bs[o+k]! <<< (8*k)=_
    rw[HE.out,hx]
   clear hx f0;have hs:=uG (wide x) (8*k);have k8:(k:Int)<(len:Int):=by omega
   go_wp2
   go_round
   case rel=>exact⟨k+1,_,by omega,by go_num,rfl,HC⟩
   case measure=>simp[intOf];omega
  ·have hk8:k=8:=by omega
   subst hk8;go_wp2;go_ret;unfold wordOf;rw[HE.out];exact⟨rfl,rfl⟩
theorem Je(b off sb so len cap:Nat)(bs:Bs)(d:St)(w:World)(hd:d.size=25)(hH:Holds enc w b off d)(hB:Holds encB w sb so bs)(hl:bs.size=len)(hlen:len<=200)(hcap:len<=cap)
 (hdis:sb≠b\/so+len<=off\/off+25<=so) :
 Calls prog 179 #[.pointer (some ⟨b,off,none⟩),.slice (some ⟨sb,so,none⟩) len cap] w fun e w'=>e=.returned (.tuple #[])/\Only b off 25 w w'/\Holds enc w' b off (dY bs d (len/8)):=by
 go_enter Tryz.func179,Tryz.ntmps179;go_wp2;go_loopg [8] (len/8) (fun g s8 wr=>∃(k:Nat) (dk:St),k+g=len/8/\s8=.int .i64 k/\Holds enc wr b off dk/\Only b off 25 w wr/\Hid (dk=dY bs d k))
 case atStart=>exact⟨0,d,by omega,rfl,hH,Only.refl _ _ _ _,rfl⟩
 case round =>
  obtain⟨k,dk,hk,rfl,hD,hO,HE⟩:=hrel;have hs:dk.size=25:=by rw[HE.out,cV,hd]
  by_cases hlt:k<len/8
  ·have hBr:Holds encB wr sb so bs:=by
    by_cases hsb:sb=b
    ·subst hsb;exact Holds.same hB hO (by omega)
    ·exact Holds.other hB hO hsb (by omega)
   obtain⟨x,hx⟩:∃x,dk[k]! = x:=⟨_,rfl⟩
   obtain⟨c0,f0⟩:=aS hD k (by omega) hx;have HX:Hid (dk[k]! = x):=hx;clear hx;have r0:(k:Int)<25:=by omega
   have r1:(0:Int)<=(k:Int)*8:=by omega
   have r2:(k:Int)*8<=(len:Int):=by omega
   have r3:((k:Int)*8).toNat=8*k:=by omega
   have s1:IntKind.i64.wrap ((k:Int)*8)=(k:Int)*8:=IntWalk.i64_in _ (by omega);have lt:(k:Int)<(len:Int)/8:=by omega
   go_wp2_with fail
   have hne:(cap=8*k)=False:=eq_false (by omega);have HB:Hid (Holds encB wr.drew sb so bs):=Holds.drew hBr;have Q4:Hid (8*k+8<=bs.size):=by show _<=_;omega
   clear hBr;go_region_with (go_at_call 187;refine(word_any sb so (8*k) (len-8*k) (cap-8*k) bs _ HB.out (by omega) Q4.out (by omega)).mono ?_;rintro e w2 ⟨rfl,rfl⟩)
   all_goals
    go_wp2;go_roundg (gk-1)
    case measure=>omega
    case rel =>
     refine⟨k+1,bN dk k (wordOf bs (8*k)),by omega,by go_num,?_,?_,?_⟩
     ·exact Holds.drew (Holds.xor hD (by omega) HX.out _)
     ·exact(hO.setCell (o:=off+k) (by omega) (by omega) _).drew
     ·rw[HE.out];rfl
  ·have hk8:k=len/8:=by omega
   have lt:(len:Int)/8<=(k:Int):=by omega
   go_wp2
   go_end0
   refine⟨rfl,hO,?_⟩;rw[<-hk8,<-HE.out];exact hD
theorem slice22:prog.underlying 22=some (.slice 5):=by kernel_rfl
theorem info5:(prog.info? 5).map (fun i=>(i.zero,i.size,i.bytes))=some (some (.int .u8 0),1,1):=by kernel_rfl
attribute [local go_sem] J7
theorem pK(b off n:Nat)(d:St)(w:World)(hd:d.size=25)(hH:Holds enc w b off d)(hn:n<=200):
 Calls prog 157 #[.pointer (some ⟨b,off,none⟩),.int .i64 n] w fun e w'=>e=.returned (.slice (some ⟨w.heap.size,0,none⟩) n n)/\Below w.heap.size w w'/\Holds encB w' w.heap.size 0 (front d n):=by
 have hb:=Holds.lt hH (by omega);have hmk:=run_make_row' (P:=prog) 22 5 (.int .u8 0) 1 slice22 info5 rfl .i64 .i64 n (by omega) (by omega);go_enter Tryz.func157,Tryz.ntmps157;go_wp2;generalize hW1:(w.alloc _)=W1;go_loopg [11] n (fun g s11 wr=>∃(k:Nat) (bs:Bs),k+g=n/\s11=.int .i64 k/\Holds encB wr w.heap.size 0 bs/\Only w.heap.size 0 n W1 wr/\Hid (bs=dH d n k))
 case atStart =>
  refine⟨0,_,by omega,rfl,?_,Only.refl _ _ _ _,rfl⟩;rw[<-hW1];exact Holds.made (enc:=encB) w 5 n 0
 case round =>
  obtain⟨k,bs,hk,rfl,hB,hO,HE⟩:=hrel;have hs:bs.size=n:=by rw[HE.out,fS]
  have hD:Holds enc wr b off d:=Holds.other (by rw[<-hW1];exact Holds.below hH ((Below.refl _ _).alloc (Nat.le_refl _) _) hb) hO (by omega) (by omega);by_cases hlt:k<n
  ·obtain⟨x,hx⟩:∃x,d[k/8]! = x:=⟨_,rfl⟩
   obtain⟨c0,f0⟩:=aS hD (k/8) (by omega) hx;obtain⟨c1,f1⟩:=hB k (by omega);rw[Nat.zero_add]at c1 f1;have HX:Hid (byteOf d k=low (x >>> (8*(k%8)))):=by show low _=_;rw[hx]
   clear hx f0;have r0:(k:Int)/8<25:=by omega
   have r1:(k:Int)<(n:Int):=by omega
   have hsr:=Cm x (8*(k%8));go_wp2;go_roundg (gk-1)
   case measure=>omega
   case rel =>
    refine⟨k+1,bs.setIfInBounds k (low (x >>> (8*(k%8)))),by omega,by go_num,?_,?_,?_⟩
    ·have:=Holds.set hB (i:=k) (by omega) (low (x >>> (8*(k%8))));rw[Nat.zero_add]at this;exact this
    ·exact hO.setCell (o:=k) (by omega) (by omega) _
    ·show _=(dH d n k).setIfInBounds k (byteOf d k);rw[HX.out,HE.out]
  ·have hkn:k=n:=by omega
   have lt:(n:Int)<=(k:Int):=by omega
   go_wp2;go_ret;refine⟨rfl,?_,?_⟩
   ·rw[<-hW1]at hO;exact hO.fresh
   ·unfold front;rw[HE.out,hkn]at hB;exact hB
end SP
namespace SP
open Go.RowKit
def encI(n:Nat):Value:=.int .i64 n
def sW(a:St)(x:Nat)(c:St):Nat->St
 | 0=>c
 | y+1=>bN (sW a x c y) x a[x+5*y]!
def lB(a:St):Nat->St
 | 0=>Array.replicate 5 0
 | x+1=>sW a x (lB a x) 5
def sF(a:St)(tn:Array Nat)(x:Nat)(v:BitVec 64)(m:St):Nat->St
 | 0=>m
 | y+1=>(sF a tn x v m y).setIfInBounds (y%5+5*((2*x+3*y)%5)) (rol (a[x+5*y]! ^^^ v) tn[x+5*y]!)
def kW(a:St)(tn:Array Nat)(c:St):Nat->St
 | 0=>Array.replicate 25 0
 | x+1=>sF a tn x (bT c x) (kW a tn c x) 5
def rZ(m:St)(x:Nat)(o:St):Nat->St
 | 0=>o
 | y+1=>(rZ m x o y).setIfInBounds (x+5*y) (m[x+5*y]! ^^^ (~~~m[(x+1)%5+5*y]! &&& m[(x+2)%5+5*y]!))
def mG(m:St):Nat->St
 | 0=>Array.replicate 25 0
 | x+1=>rZ m x (mG m x) 5
def dL(a:St)(tn:Array Nat)(c:BitVec 64):St:=bN (mG (kW a tn (lB a 5) 5) 5) 0 c
theorem sV(a:St)(x:Nat)(c:St)(y:Nat):(sW a x c y).size=c.size:=by
 induction y with
 | zero=>rfl
 | succ y ih=>simp[sW,b9,ih]
theorem BE(a:St)(x:Nat):(lB a x).size=5:=by
 induction x with
 | zero=>simp[lB]
 | succ x ih=>simp[lB,sV,ih]
theorem sE(a:St)(tn:Array Nat)(x:Nat)(v:BitVec 64)(m:St)(y:Nat):(sF a tn x v m y).size=m.size:=by
 induction y with
 | zero=>rfl
 | succ y ih=>simp[sF,ih]
theorem Bh(a:St)(tn:Array Nat)(c:St)(x:Nat):(kW a tn c x).size=25:=by
 induction x with
 | zero=>simp[kW]
 | succ x ih=>simp[kW,sE,ih]
theorem rY(m:St)(x:Nat)(o:St)(y:Nat):(rZ m x o y).size=o.size:=by
 induction y with
 | zero=>rfl
 | succ y ih=>simp[rZ,ih]
theorem rX(m:St)(x:Nat):(mG m x).size=25:=by
 induction x with
 | zero=>simp[mG]
 | succ x ih=>simp[mG,rY,ih]
theorem tU(a:St)(tn:Array Nat)(c:BitVec 64):(dL a tn c).size=25:=by simp[dL,b9,rX]
structure Of where
 x:Nat
 y:Nat
 o:Array Nat
def iV:Nat->Of
 | 0=>{ x:=1,y:=0,o:=Array.replicate 25 0 }
 | t+1=>{ x:=(iV t).y,y:=(2*(iV t).x+3*(iV t).y)%5,o:=(iV t).o.setIfInBounds ((iV t).x%5+5*((iV t).y%5)) (sD t) }
def cK:Array Nat:=(iV 24).o
theorem I9(t:Nat):(iV t).x<5/\(iV t).y<5/\(iV t).o.size=25:=by
 induction t with
 | zero=>exact⟨show 1<5 by decide,show 0<5 by decide,show(Array.replicate 25 0).size=25 by simp⟩
 | succ t ih =>
  obtain⟨h1,h2,h3⟩:=ih;refine⟨h2,?_,?_⟩
  ·show(2*(iV t).x+3*(iV t).y)%5<5;omega
  ·show((iV t).o.setIfInBounds _ _).size=25;rw[Array.size_setIfInBounds,h3]
def yH:Nat->Nat
 | 0=>1
 | i+1=>kC (yH i)
def JD(t:Nat):BitVec 64:=BitVec.ofNat 64 (yH t%2)
def zU(r:Nat):Nat->BitVec 64
 | 0=>0
 | j+1=>zU r j ||| JD (j+7*r) <<< (2^j-1)
def Bz(r:Nat):BitVec 64:=zU r 7
def yI(d:St):Nat->St
 | 0=>d
 | k+1=>dL (yI d k) cK (Bz k)
end SP
namespace SP
theorem LZ:∀k:Fin 24,Bz k.val=rcC (tV k.val):=by decide +kernel
theorem sC:cK=#[0,1,62,28,27,36,44,6,55,20,3,10,43,25,39,41,45,15,21,8,18,2,61,56,14]:=by decide +kernel
theorem E7(x:BitVec 64):rol x 0=x:=by
 unfold rol;rw[BitVec.shiftLeft_zero,Nat.sub_zero,BitVec.ushiftRight_eq_zero (Nat.le_refl 64),BitVec.or_zero]
theorem zx(x:BitVec 64):0 ^^^ x=x:=BitVec.zero_xor
theorem Jq(a0 a1 a2 a3 a4 a5 a6 a7 a8 a9 a10 a11 a12 a13 a14 a15 a16 a17 a18 a19 a20 a21 a22 a23 a24:BitVec 64):lB #[a0,a1,a2,a3,a4,a5,a6,a7,a8,a9,a10,a11,a12,a13,a14,a15,a16,a17,a18,a19,a20,a21,a22,a23,a24] 5=#[0 ^^^ a0 ^^^ a5 ^^^ a10 ^^^ a15 ^^^ a20,0 ^^^ a1 ^^^ a6 ^^^ a11 ^^^ a16 ^^^ a21,0 ^^^ a2 ^^^ a7 ^^^ a12 ^^^ a17 ^^^ a22,0 ^^^ a3 ^^^ a8 ^^^ a13 ^^^ a18 ^^^ a23,0 ^^^ a4 ^^^ a9 ^^^ a14 ^^^ a19 ^^^ a24]:=by kernel_rfl
theorem EN(a0 a1 a2 a3 a4 a5 a6 a7 a8 a9 a10 a11 a12 a13 a14 a15 a16 a17 a18 a19 a20 a21 a22 a23 a24:BitVec 64):jO #[a0,a1,a2,a3,a4,a5,a6,a7,a8,a9,a10,a11,a12,a13,a14,a15,a16,a17,a18,a19,a20,a21,a22,a23,a24] 5=#[a0 ^^^ a5 ^^^ a10 ^^^ a15 ^^^ a20,a1 ^^^ a6 ^^^ a11 ^^^ a16 ^^^ a21,a2 ^^^ a7 ^^^ a12 ^^^ a17 ^^^ a22,a3 ^^^ a8 ^^^ a13 ^^^ a18 ^^^ a23,a4 ^^^ a9 ^^^ a14 ^^^ a19 ^^^ a24]:=by kernel_rfl
theorem L6(a0 a1 a2 a3 a4 a5 a6 a7 a8 a9 a10 a11 a12 a13 a14 a15 a16 a17 a18 a19 a20 a21 a22 a23 a24:BitVec 64):lB #[a0,a1,a2,a3,a4,a5,a6,a7,a8,a9,a10,a11,a12,a13,a14,a15,a16,a17,a18,a19,a20,a21,a22,a23,a24] 5=jO #[a0,a1,a2,a3,a4,a5,a6,a7,a8,a9,a10,a11,a12,a13,a14,a15,a16,a17,a18,a19,a20,a21,a22,a23,a24] 5:=by
 rw[Jq,EN];simp only[zx]
theorem Jc(S:St)(a0 a1 a2 a3 a4 a5 a6 a7 a8 a9 a10 a11 a12 a13 a14 a15 a16 a17 a18 a19 a20 a21 a22 a23 a24:BitVec 64):kW #[a0,a1,a2,a3,a4,a5,a6,a7,a8,a9,a10,a11,a12,a13,a14,a15,a16,a17,a18,a19,a20,a21,a22,a23,a24] #[0,1,62,28,27,36,44,6,55,20,3,10,43,25,39,41,45,15,21,8,18,2,61,56,14] S 5=#[rol (a0 ^^^ bT S 0) 0,rol (a6 ^^^ bT S 1) 44,rol (a12 ^^^ bT S 2) 43,rol (a18 ^^^ bT S 3) 21,rol (a24 ^^^ bT S 4) 14,rol (a3 ^^^ bT S 3) 28,rol (a9 ^^^ bT S 4) 20,rol (a10 ^^^ bT S 0) 3,rol (a16 ^^^ bT S 1) 45,rol (a22 ^^^ bT S 2) 61,rol (a1 ^^^ bT S 1) 1,rol (a7 ^^^ bT S 2) 6,rol (a13 ^^^ bT S 3) 25,rol (a19 ^^^ bT S 4) 8,rol (a20 ^^^ bT S 0) 18,rol (a4 ^^^ bT S 4) 27,rol (a5 ^^^ bT S 0) 36,rol (a11 ^^^ bT S 1) 10,rol (a17 ^^^ bT S 2) 15,rol (a23 ^^^ bT S 3) 56,rol (a2 ^^^ bT S 2) 62,rol (a8 ^^^ bT S 3) 55,rol (a14 ^^^ bT S 4) 39,rol (a15 ^^^ bT S 0) 41,rol (a21 ^^^ bT S 1) 2]:=by kernel_rfl
theorem Iy(S:St)(a0 a1 a2 a3 a4 a5 a6 a7 a8 a9 a10 a11 a12 a13 a14 a15 a16 a17 a18 a19 a20 a21 a22 a23 a24:BitVec 64):nP (iG S #[a0,a1,a2,a3,a4,a5,a6,a7,a8,a9,a10,a11,a12,a13,a14,a15,a16,a17,a18,a19,a20,a21,a22,a23,a24] 5)=#[a0 ^^^ bT S 0,rol (a6 ^^^ bT S 1) 44,rol (a12 ^^^ bT S 2) 43,rol (a18 ^^^ bT S 3) 21,rol (a24 ^^^ bT S 4) 14,rol (a3 ^^^ bT S 3) 28,rol (a9 ^^^ bT S 4) 20,rol (a10 ^^^ bT S 0) 3,rol (a16 ^^^ bT S 1) 45,rol (a22 ^^^ bT S 2) 61,rol (a1 ^^^ bT S 1) 1,rol (a7 ^^^ bT S 2) 6,rol (a13 ^^^ bT S 3) 25,rol (a19 ^^^ bT S 4) 8,rol (a20 ^^^ bT S 0) 18,rol (a4 ^^^ bT S 4) 27,rol (a5 ^^^ bT S 0) 36,rol (a11 ^^^ bT S 1) 10,rol (a17 ^^^ bT S 2) 15,rol (a23 ^^^ bT S 3) 56,rol (a2 ^^^ bT S 2) 62,rol (a8 ^^^ bT S 3) 55,rol (a14 ^^^ bT S 4) 39,rol (a15 ^^^ bT S 0) 41,rol (a21 ^^^ bT S 1) 2]:=by kernel_rfl
theorem Lx(S:St)(a0 a1 a2 a3 a4 a5 a6 a7 a8 a9 a10 a11 a12 a13 a14 a15 a16 a17 a18 a19 a20 a21 a22 a23 a24:BitVec 64):kW #[a0,a1,a2,a3,a4,a5,a6,a7,a8,a9,a10,a11,a12,a13,a14,a15,a16,a17,a18,a19,a20,a21,a22,a23,a24] cK S 5=nP (iG S #[a0,a1,a2,a3,a4,a5,a6,a7,a8,a9,a10,a11,a12,a13,a14,a15,a16,a17,a18,a19,a20,a21,a22,a23,a24] 5):=by
 rw[sC,Jc,Iy,E7]
theorem Ll(a0 a1 a2 a3 a4 a5 a6 a7 a8 a9 a10 a11 a12 a13 a14 a15 a16 a17 a18 a19 a20 a21 a22 a23 a24:BitVec 64):mG #[a0,a1,a2,a3,a4,a5,a6,a7,a8,a9,a10,a11,a12,a13,a14,a15,a16,a17,a18,a19,a20,a21,a22,a23,a24] 5=chi #[a0,a1,a2,a3,a4,a5,a6,a7,a8,a9,a10,a11,a12,a13,a14,a15,a16,a17,a18,a19,a20,a21,a22,a23,a24]:=by kernel_rfl
theorem LD{α:Type}(l:List α)(h:l.length=25):∃a0 a1 a2 a3 a4 a5 a6 a7 a8 a9 a10 a11 a12 a13 a14 a15 a16 a17 a18 a19 a20 a21 a22 a23 a24,l=[a0,a1,a2,a3,a4,a5,a6,a7,a8,a9,a10,a11,a12,a13,a14,a15,a16,a17,a18,a19,a20,a21,a22,a23,a24]:=by
 match l,h with
 | [a0,a1,a2,a3,a4,a5,a6,a7,a8,a9,a10,a11,a12,a13,a14,a15,a16,a17,a18,a19,a20,a21,a22,a23,a24],_=>exact⟨_,_,_,_,_,_,_,_,_,_,_,_,_,_,_,_,_,_,_,_,_,_,_,_,_,rfl⟩
theorem Ko{α:Type}(d:Array α)(h:d.size=25):∃a0 a1 a2 a3 a4 a5 a6 a7 a8 a9 a10 a11 a12 a13 a14 a15 a16 a17 a18 a19 a20 a21 a22 a23 a24,d=#[a0,a1,a2,a3,a4,a5,a6,a7,a8,a9,a10,a11,a12,a13,a14,a15,a16,a17,a18,a19,a20,a21,a22,a23,a24]:=by
 obtain⟨l⟩:=d;obtain⟨a0,a1,a2,a3,a4,a5,a6,a7,a8,a9,a10,a11,a12,a13,a14,a15,a16,a17,a18,a19,a20,a21,a22,a23,a24,rfl⟩:=LD l h;exact⟨_,_,_,_,_,_,_,_,_,_,_,_,_,_,_,_,_,_,_,_,_,_,_,_,_,rfl⟩
theorem I0(m:St)(h:m.size=25):mG m 5=chi m:=by
 obtain⟨a0,a1,a2,a3,a4,a5,a6,a7,a8,a9,a10,a11,a12,a13,a14,a15,a16,a17,a18,a19,a20,a21,a22,a23,a24,rfl⟩:=Ko m h;exact Ll _ _ _ _ _ _ _ _ _ _ _ _ _ _ _ _ _ _ _ _ _ _ _ _ _
theorem round_eq(d:St)(h:d.size=25)(c:BitVec 64):dL d cK c=kY d c:=by
 have hm:kW d cK (lB d 5) 5=nP (pT d):=by
  obtain⟨a0,a1,a2,a3,a4,a5,a6,a7,a8,a9,a10,a11,a12,a13,a14,a15,a16,a17,a18,a19,a20,a21,a22,a23,a24,rfl⟩:=Ko d h;rw[L6,Lx];rfl
 unfold dL kY;rw[hm,I0 _ (jQ _ (by rw[gA,h]))]
theorem E9(d:St)(h:d.size=25)(k:Nat)(hk:k<=24):yI d k=kU d k:=by
 induction k with
 | zero=>rfl
 | succ k ih =>
  show dL (yI d k) cK (Bz k)=kY (kU d k) (rcC (tV k));rw[ih (by omega),LZ ⟨k,by omega⟩,round_eq _ (kT d h k)]
theorem Bd:∀i,i<25->cK[i]! < 64:=by
 intro i hi;have H:∀j:Fin 25,cK[j.val]! < 64:=by decide +kernel
 exact H ⟨i,hi⟩
theorem jU:cK.size=25:=by rw[sC];rfl
end SP
namespace SP
open Go.Sort
def b8:St:=Array.replicate 25 0
def fJ(bs:Bs):Bs:=front (perm (dY bs b8 25)) 200
def mU(bs:Bs):Nat->St
 | 0=>b8
 | i+1=>(mU bs i).setIfInBounds (i/8) ((mU bs i)[i/8]! ||| wide bs[i]! <<< (8*(i%8)))
theorem jH(bs:Bs)(i:Nat):(mU bs i).size=25:=by
 induction i with
 | zero=>simp[mU,b8]
 | succ i ih=>simp[mU,ih]
theorem fV(j:Nat)(h:j<25):b8[j]! = 0:=by
 have h':j<(Array.replicate 25 (0:BitVec 64)).size:=by rw[Array.size_replicate];exact h
 unfold b8;rw[getElem!_pos (Array.replicate 25 (0:BitVec 64)) j h',Array.getElem_replicate]
theorem I4(bs:Bs)(n j:Nat)(hn:n<=200)(hj:j<25):
 (mU bs n)[j]! = if j<n/8 then wordOf bs (8*j) else if j=n/8 then iS bs (8*j) (n%8) else 0:=by
 induction n with
 | zero =>
  rw[mU,fV j hj];by_cases h:j=0
  ·subst h;rfl
  ·simp[h]
 | succ n ih =>
  have ih:=ih (by omega);rw[mU];by_cases hjn:j=n/8
  ·rw[<-hjn,getElem!_set_same _ _ _ (by rw[jH];omega),ih,if_neg (by omega),if_pos hjn];have hb:bs[n]! = bs[8*j+n%8]!:=by
    have:n=8*j+n%8:=by omega
    rw[<-this]
   rw[hb];show iS bs (8*j) (n%8+1)=_;by_cases h8:n%8=7
   ·rw[if_pos (by omega),h8];rfl
   ·rw[if_neg (by omega),if_pos (by omega),show(n+1)%8=n%8+1 by omega]
  ·rw[getElem!_set_other _ _ _ _ hjn,ih];by_cases h1:j<n/8
   ·rw[if_pos h1,if_pos (by omega)]
   ·rw[if_neg h1,if_neg hjn,if_neg (by omega)];by_cases h2:j=(n+1)/8
    ·rw[if_pos h2,show(n+1)%8=0 by omega];rfl
    ·rw[if_neg h2]
theorem oD(bs:Bs)(d:St)(hd:d.size=25)(n j:Nat)(hn:n<=25)(hj:j<25):(dY bs d n)[j]! = if j<n then d[j]! ^^^ wordOf bs (8*j) else d[j]!:=by
 induction n with
 | zero=>rfl
 | succ n ih =>
  have ih:=ih (by omega);rw[dY];unfold bN;by_cases hjn:j=n
  ·rw[<-hjn,getElem!_set_same _ _ _ (by rw[cV,hd];exact hj),if_pos (by omega)];rw[<-hjn]at ih;rw[ih,if_neg (by omega)]
  ·rw[getElem!_set_other _ _ _ _ hjn,ih];by_cases h1:j<n
   ·rw[if_pos h1,if_pos (by omega)]
   ·rw[if_neg h1,if_neg (by omega)]
theorem AL(a b:St)(ha:a.size=25)(hb:b.size=25)(h:∀j,j<25->a[j]! = b[j]!):a=b:=by
 apply Array.ext (by omega);intro i h1 h2;have:=h i (by omega);rwa[getElem!_pos a i h1,getElem!_pos b i h2]at this
theorem Ln(bs:Bs):mU bs 200=dY bs b8 25:=by
 have hz:b8.size=25:=by simp[b8]
 refine AL _ _ (jH _ _) (by rw[cV,hz]) (fun j hj=>?_);rw[I4 bs 200 j (Nat.le_refl _) hj,oD bs b8 hz 25 j (Nat.le_refl _) hj,if_pos (by omega),if_pos hj,fV j hj,zx]
theorem DD(bs:Bs):front (yI (mU bs 200) 24) 200=fJ bs:=by
 have hz:b8.size=25:=by simp[b8]
 rw[E9 _ (jH _ _) 24 (Nat.le_refl _),Ln];rfl
end SP
namespace SP
open Go.RowKit Go.Sort
end SP
namespace SP
open Go.RowKit Go.Sort
def fill(i:Nat):UInt8:=UInt8.ofNat (i%251) ^^^ 165
def lentTo(s:ByteArray):Nat->Bs
 | 0=>s.data++Array.replicate 160 0
 | k+1=>(lentTo s k).setIfInBounds (s.size+k) (fill (s.size+k))
def lent(s:ByteArray):Bs:=lentTo s 160
variable {w w1:World}{b o n:Nat}
theorem heap_setCells(b:Nat){k:Nat}(hk:k≠b):∀(vs:List Value) (p:Nat) (w:World),(w.setCells b p vs).heap[k]? = w.heap[k]?
 | [],_,_=>rfl
 | v :: r,p,w=>by rw[World.setCells,heap_setCells b hk r (p+1) _,Below.heap_setCell _ _ _ _ hk]
theorem Only.setCells(h:Only b o n w w1)(vs:List Value)(p:Nat)(hp:o<=p)(hn:p+vs.length<=o+n):Only b o n w (w1.setCells b p vs):=by
 have h0:=below_setCells (B:=0) (b:=b) (Nat.zero_le _) vs p w1 (Below.refl 0 w1);exact h.trans ⟨h0.os,h0.tape,h0.output,h0.size,fun k _ hk=>heap_setCells b hk vs p w1,
  fun q hq=>World.cell?_setCells_out b vs p w1 ⟨b,q,none⟩ (fun _ _=>by simp only;omega),fun q=>World.frozen?_setCells b vs p w1 _⟩
theorem Holds.setCells{bs r:Bs}(h:Holds encB w b o bs)(vs:List Value)(p:Nat)(hr:r.size=bs.size)(hp:p+vs.length<=bs.size)
 (h1:∀j (hj:j<vs.length),vs[j]=encB r[p+j]!) (h2:∀j,j<bs.size->j<p\/p+vs.length<=j->r[j]! = bs[j]!):Holds encB (w.setCells b (o+p) vs) b o r:=by
 intro j hj;rw[hr]at hj;rw[World.frozen?_setCells];refine⟨?_,(h j hj).2⟩;by_cases hin:j<p\/p+vs.length<=j
 ·rw[World.cell?_setCells_out b vs (o+p) w ⟨b,o+j,none⟩ (fun _ _=>by simp only;omega),h2 j hj hin];exact(h j hj).1
 ·have hj2:j-p<vs.length:=by omega
  have:=World.cell?_setCells_in b vs (o+p) w (fun i hi=>by
   have:=(h (p+i) (by omega)).1;rw[<-Nat.add_assoc]at this;rw[this];rfl) (j-p) hj2
  rw[show o+p+(j-p)=o+j by omega]at this;rw[this,h1 (j-p) hj2,show p+(j-p)=j by omega]
theorem app_front(a r:Bs)(j:Nat)(hj:j<a.size):(a++r)[j]! = a[j]:=by
 have h:j<(a++r).size:=by rw[Array.size_append];omega
 rw[getElem!_pos (a++r) j h,Array.getElem_append_left hj]
theorem app_back(a r:Bs)(j:Nat)(h1:a.size<=j)(h2:j<a.size+r.size):(a++r)[j]! = r[j-a.size]!:=by
 have h:j<(a++r).size:=by rw[Array.size_append];omega
 have h3:j-a.size<r.size:=by omega
 rw[getElem!_pos (a++r) j h,Array.getElem_append_right h1,getElem!_pos r (j-a.size) h3]
theorem rep_at(n j:Nat)(h:j<n):(Array.replicate n (0:UInt8))[j]! = 0:=by
 have h':j<(Array.replicate n (0:UInt8)).size:=by rw[Array.size_replicate];exact h
 rw[getElem!_pos (Array.replicate n (0:UInt8)) j h',Array.getElem_replicate]
theorem size_of5(P:Program)(e:TypeId)(h:(P.info? e).map (·.size)=some 1):∀w,(Go.sizeOf e).run P w=.ok 1 w:=by
 intro w;cases hq:P.info? e with
 | none=>simp[hq]at h
 | some i =>
  simp[hq]at h;simp[Go.sizeOf,typeInfo,hq,h]
theorem conv_str(P:Program)(src dst e:TypeId)(hs:P.underlying src=some (.slice e))(he:P.underlying e=some (.int .u8))(hd:P.underlying dst=some .string)
 (w:World) (b o n cap:Nat) (bs:Bs) (hB:Holds encB w b o bs) (hn:bs.size=n):(convert src dst (.slice (some ⟨b,o,none⟩) n cap)).run P w=.ok (.string ⟨bs⟩) w:=by
 have h:=run_convert_bytes_back (P:=P) w src dst e ⟨b,o,none⟩ cap bs.toList hs he hd (fun j hj=>by
  have hj':j<bs.size:=by simpa using hj
  have hc:=(hB j hj').1;rw[getElem!_pos bs j hj']at hc;have e1:(⟨b,o,none⟩:Addr).add j=⟨b,o+j,none⟩:=by
   unfold Addr.add;by_cases h0:j=0
   ·subst h0;rfl
   ·rw[if_neg h0]
  rw[e1,hc];simp[encB,ub])
 simpa[hn]using h
end SP
namespace SP
open Go.RowKit Go.Sort Go.Deep
theorem int5:prog.underlying 5=some (.int .u8):=by kernel_rfl
theorem str9:prog.underlying 9=some .string:=by kernel_rfl
theorem size5:∀w,(Go.sizeOf 5).run prog w=.ok 1 w:=size_of5 prog 5 (by kernel_rfl)
end SP
namespace SP
open Go.Sort
/-! ### Words and bytes -/
theorem ED(x : UInt8)(i : Nat): (wide x).getLsbD i=x.toNat.testBit i:=by
  unfold wide;rw[BitVec.getLsbD_ofNat];by_cases h : i<64
  · simp[h]
  · have : x.toNat.testBit i=false:=Nat.testBit_lt_two_pow (Nat.lt_of_lt_of_le x.toNat_lt (Nat.pow_le_pow_right (by decide) (by omega : 8 <= i)))
    simp[h, this]
theorem tZ(x:UInt8)(i:Nat)(h:8<=i):x.toNat.testBit i=false:=
 Nat.testBit_lt_two_pow (Nat.lt_of_lt_of_le x.toNat_lt (Nat.pow_le_pow_right (by decide) h))
theorem mO(bs:Bs)(o n k:Nat)(hn:n<=8)(hk:k<64):(iS bs o n).getLsbD k=(decide (k<8*n) && (bs[o+k/8]!).toNat.testBit (k%8)):=by
 induction n with
 | zero=>simp[iS]
 | succ n ih =>
  rw[iS,BitVec.getLsbD_or,ih (by omega),BitVec.getLsbD_shiftLeft,ED];by_cases h1:k<8*n
  ·simp[h1,hk,show k<8*(n+1) by omega]
  ·by_cases h2:k<8*(n+1)
   ·have e1:k/8=n:=by omega
    have e2:k-8*n=k%8:=by omega
    simp[h1,h2,hk,e1,e2]
   ·have:=tZ bs[o+n]! (k-8*n) (by omega);simp[h1,h2,hk,this]
theorem low_bit(v:BitVec 64)(i:Nat)(h:i<8):(low v).toNat.testBit i=v.getLsbD i:=by
 unfold low;rw[UInt8.toNat_ofNat',Nat.testBit_mod_two_pow,BitVec.getLsbD];simp[h]
theorem Bq(d:St)(n k j:Nat)(hk:k<=n)(hj:j<n):(dH d n k)[j]! = if j<k then byteOf d j else 0:=by
 induction k with
 | zero =>
  have h':j<(Array.replicate n (0:UInt8)).size:=by rw[Array.size_replicate];exact hj
  rw[dH,getElem!_pos (Array.replicate n (0:UInt8)) j h',Array.getElem_replicate,if_neg (by omega)]
 | succ k ih =>
  rw[dH];by_cases h:j=k
  ·subst h;rw[getElem!_set_same _ _ _ (by rw[fS];exact hj),if_pos (by omega)]
  ·rw[getElem!_set_other _ _ _ _ h,ih (by omega)];by_cases h1:j<k
   ·rw[if_pos h1,if_pos (by omega)]
   ·rw[if_neg h1,if_neg (by omega)]
theorem gR(d:St)(n j:Nat)(hj:j<n):(front d n)[j]! = byteOf d j:=by
 unfold front;rw[Bq d n n j (Nat.le_refl _) hj,if_pos hj]
theorem rC(d:St)(n j:Nat)(hj:8*j+8<=n):wordOf (front d n) (8*j)=d[j]!:=by
 apply BitVec.eq_of_getLsbD_eq;intro k hk;unfold wordOf;rw[mO _ _ 8 k (Nat.le_refl _) hk,gR d n _ (by omega)];unfold byteOf;have e1:(8*j+k/8)/8=j:=by omega
 have e2:(8*j+k/8)%8=k/8:=by omega
 rw[low_bit _ _ (Nat.mod_lt _ (by decide)),BitVec.getLsbD_ushiftRight,e1,e2,show 8*(k/8)+k%8=k by omega];simp[hk]
theorem DZ(d:St)(hd:d.size=25):dY (front d 200) b8 25=d:=by
 have hz:b8.size=25:=by simp[b8]
 refine AL _ _ (by rw[cV,hz]) hd (fun j hj=>?_);rw[oD _ b8 hz 25 j (Nat.le_refl _) hj,if_pos hj,fV j hj,zx,rC d 200 j (by omega)]
theorem yT(d:St)(hd:d.size=25):fJ (front d 200)=front (perm d) 200:=by
 unfold fJ;rw[DZ d hd]
/-! ### The sponge, byte by byte -/
structure Sp where
  d : St
  p : Bs
  h : Nat
structure Ok(S:Sp):Prop where
 d25:S.d.size=25
 p136:S.p.size=136
 hlt:S.h<136
def iI(S:Sp):Sp:={ d:=perm (dY S.p S.d 17),p:=S.p,h:=0 }
def tW(S:Sp)(x:UInt8):Sp:=
 if S.h+1=136 then iI { d:=S.d,p:=S.p.setIfInBounds S.h x,h:=S.h } else { d:=S.d,p:=S.p.setIfInBounds S.h x,h:=S.h+1 }
def dA(S:Sp)(l:List UInt8):Sp:=l.foldl tW S
def splice(p:Bs):Nat->List UInt8->Bs
 | _,[]=>p
 | i,x :: r=>splice (p.setIfInBounds i x) (i+1) r
theorem eB(S:Sp)(a b:List UInt8):dA S (a++b)=dA (dA S a) b:=List.foldl_append
theorem cI(p:Bs)(i:Nat)(l:List UInt8):(splice p i l).size=p.size:=by
 induction l generalizing p i with
 | nil=>rfl
 | cons x r ih=>rw[splice,ih,Array.size_setIfInBounds]
theorem eM(p:Bs)(i:Nat)(l:List UInt8)(j:Nat)(hl:i+l.length<=p.size)(hj:j<p.size):(splice p i l)[j]! = if i<=j/\j<i+l.length then l[j-i]! else p[j]!:=by
 induction l generalizing p i with
 | nil=>simp[splice];omega
 | cons x r ih =>
  simp only[List.length_cons]at hl;rw[splice,ih _ _ (by rw[Array.size_setIfInBounds];omega) (by rw[Array.size_setIfInBounds];exact hj)];by_cases h:j=i
  ·subst h;rw[if_neg (by omega),getElem!_set_same _ _ _ hj,if_pos (by simp),Nat.sub_self];rfl
  ·rw[getElem!_set_other _ _ _ _ h];by_cases h1:i+1<=j/\j<i+1+r.length
   ·rw[if_pos h1,if_pos (by simp;omega),show j-i=(j-(i+1))+1 by omega];rfl
   ·rw[if_neg h1,if_neg (by simp;omega)]
theorem jP(d:St)(p:Bs)(h:Nat):iI ⟨d,p,h⟩=⟨perm (dY p d 17),p,0⟩:=by unfold iI;rfl
theorem Il(S:Sp):(iI S).d=perm (dY S.p S.d 17):=by
 obtain⟨d,p,h⟩:=S;rw[jP]
theorem Ij(S:Sp):(iI S).p=S.p:=by
 obtain⟨d,p,h⟩:=S;rw[jP]
theorem Ik(S:Sp):(iI S).h=0:=by
 obtain⟨d,p,h⟩:=S;rw[jP]
theorem Ii{S:Sp}(h1:S.d.size=25)(h2:S.p.size=136):Ok (iI S):=by
 have hd:(dY S.p S.d 17).size=25:=by rw[cV,h1]
 refine⟨?_,by rw[Ij,h2],?_⟩
 ·rw[Il];exact pF _ hd
 ·rw[Ik];decide
theorem Cu{S:Sp}(h:Ok S)(x:UInt8):Ok (tW S x):=by
 have:=h.hlt;unfold tW;by_cases e:S.h+1=136
 ·rw[if_pos e];exact Ii h.d25 (by show(S.p.setIfInBounds _ _).size=136;rw[Array.size_setIfInBounds];exact h.p136)
 ·rw[if_neg e];exact⟨h.d25,by show(S.p.setIfInBounds _ _).size=136;rw[Array.size_setIfInBounds];exact h.p136,by show S.h+1<136;omega⟩
theorem eA{S:Sp}(h:Ok S)(l:List UInt8):Ok (dA S l):=by
 induction l generalizing S with
 | nil=>exact h
 | cons x r ih=>exact ih (Cu h x)
theorem Lh{S:Sp}(h:Ok S)(x:UInt8):(tW S x).h=(S.h+1)%136:=by
 have:=h.hlt;unfold tW;by_cases e:S.h+1=136
 ·rw[if_pos e,e];rfl
 ·rw[if_neg e,Nat.mod_eq_of_lt (by omega)]
theorem Cj{S:Sp}(h:Ok S)(l:List UInt8):(dA S l).h=(S.h+l.length)%136:=by
 induction l generalizing S with
 | nil=>exact(Nat.mod_eq_of_lt h.hlt).symm
 | cons x r ih =>
  show(dA (tW S x) r).h=_;rw[ih (Cu h x),Lh h x,List.length_cons];omega
theorem kF(S:Sp)(l:List UInt8)(hl:l≠[])(hle:S.h+l.length<=136):
 dA S l=if S.h+l.length=136 then iI { d:=S.d,p:=splice S.p S.h l,h:=S.h } else { d:=S.d,p:=splice S.p S.h l,h:=S.h+l.length }:=by
 induction l generalizing S with
 | nil=>exact absurd rfl hl
 | cons x r ih =>
  show dA (tW S x) r=_;simp only[List.length_cons]at hle⊢;cases r with
  | nil =>
   unfold tW dA splice;simp only[List.foldl_nil,List.length_nil];by_cases e:S.h+1=136
   ·rw[if_pos e,if_pos (by omega)];rfl
   ·rw[if_neg e,if_neg (by omega)];rfl
  | cons y r' =>
   have e:¬S.h+1=136:=by simp only[List.length_cons]at hle;omega
   have hp:tW S x = { d:=S.d,p:=S.p.setIfInBounds S.h x,h:=S.h+1 }:=by unfold tW;rw[if_neg e]
   rw[hp,ih _ (by simp) (by simp only[List.length_cons]at hle⊢;omega)];simp only[splice,List.length_cons];by_cases e2:S.h+(r'.length+1+1)=136
   ·rw[if_pos (by omega),if_pos e2];rfl
   ·rw[if_neg (by omega),if_neg e2,show S.h+1+(r'.length+1)=S.h+(r'.length+1+1) by omega]
/-! ### The end -/
def ended(p : Bs)(h : Nat)(e : UInt8): Bs:=
  let q:=(splice p h (List.replicate (136-h) 0)).setIfInBounds h e
  q.setIfInBounds 135 (q[135]! ^^^ 128)
def pM(S:Sp)(e:UInt8):Sp:=iI { d:=S.d,p:=ended S.p S.h e,h:=S.h }
def eC(h:Nat)(e:UInt8):List UInt8:=
 (e :: List.replicate (135-h) 0).set (135-h) ((e :: List.replicate (135-h) 0)[135-h]! ^^^ 128)
theorem dB(h:Nat)(e:UInt8)(hh:h<136):(eC h e).length=136-h:=by
 unfold eC;rw[List.length_set,List.length_cons,List.length_replicate];omega
theorem xI(a b:Bs)(n:Nat)(ha:a.size=n)(hb:b.size=n)(h:∀j,j<n->a[j]! = b[j]!):a=b:=by
 apply Array.ext (by omega);intro i h1 h2;have:=h i (by omega);rwa[getElem!_pos a i h1,getElem!_pos b i h2]at this
theorem Lk(h:Nat)(e:UInt8)(j:Nat)(hj:j<136-h)(hh:h<136):(eC h e)[j]! = (if j=0 then e else 0) ^^^ (if j=135-h then 128 else 0):=by
 have hc:∀j,j<136-h->(e :: List.replicate (135-h) (0:UInt8))[j]! = if j=0 then e else 0:=by
  intro j hj;cases j with
  | zero=>rfl
  | succ j =>
   have hl:j+1<(e :: List.replicate (135-h) (0:UInt8)).length:=by rw[List.length_cons,List.length_replicate];omega
   rw[getElem!_pos (e :: List.replicate (135-h) (0:UInt8)) (j+1) hl];simp
 have hlen:(eC h e).length=136-h:=dB h e hh;have hl:j<(e :: List.replicate (135-h) (0:UInt8)).length:=by rw[List.length_cons,List.length_replicate];omega
 rw[getElem!_pos (eC h e) j (by rw[hlen];exact hj)];unfold eC;rw[List.getElem_set];by_cases h1:135-h=j
 ·rw[if_pos h1,hc (135-h) (by omega),h1,if_pos (rfl:j=j)]
 ·rw[if_neg h1,if_neg (show ¬j=135-h by omega)];have:=hc j hj;rw[getElem!_pos (e :: List.replicate (135-h) (0:UInt8)) j hl]at this;rw[this];simp
theorem Bu(p:Bs)(h:Nat)(e:UInt8):(ended p h e).size=p.size:=by
 unfold ended;simp only[Array.size_setIfInBounds,cI]
theorem yG(n j:Nat)(h:j<n):(List.replicate n (0:UInt8))[j]! = 0:=by
 rw[getElem!_pos _ j (by simpa using h)];simp
theorem Gh(p:Bs)(h:Nat)(e:UInt8)(hp:p.size=136)(hh:h<136):ended p h e=splice p h (eC h e):=by
 have hs:(splice p h (List.replicate (136-h) 0)).size=136:=by rw[cI,hp]
 refine xI _ _ 136 (by rw[Bu,hp]) (by rw[cI,hp]) (fun j hj=>?_);have hq:∀j,j<136->((splice p h (List.replicate (136-h) 0)).setIfInBounds h e)[j]! = if j<h then p[j]! else if j=h then e else 0:=by
  intro j hj;by_cases h1:j=h
  ·rw[h1,getElem!_set_same _ _ _ (by omega),if_neg (by omega),if_pos rfl]
  ·rw[getElem!_set_other _ _ _ _ h1,eM _ _ _ _ (by rw[List.length_replicate,hp];omega) (by omega),List.length_replicate];by_cases h2:j<h
   ·rw[if_neg (by omega),if_pos h2]
   ·rw[if_pos (by omega),if_neg h2,if_neg h1,yG _ _ (by omega)]
 have hR:(splice p h (eC h e))[j]! = if j<h then p[j]! else(if j=h then e else 0) ^^^ (if j=135 then 128 else 0):=by
  rw[eM _ _ _ _ (by rw[dB h e hh,hp];omega) (by omega),dB h e hh];by_cases h2:j<h
  ·rw[if_neg (show ¬(h<=j/\j<h+(136-h)) by omega),if_pos h2]
  ·rw[if_pos (show h<=j/\j<h+(136-h) by omega),if_neg h2,Lk h e _ (by omega) hh];have e1:(j-h=0)=(j=h):=by apply propext;omega
   have e2:(j-h=135-h)=(j=135):=by apply propext;omega
   simp only[e1,e2]
 have hL:(ended p h e)[j]! = if j<h then p[j]! else(if j=h then e else 0) ^^^ (if j=135 then 128 else 0):=by
  unfold ended;by_cases h135:j=135
  ·rw[h135,getElem!_set_same _ _ _ (by rw[Array.size_setIfInBounds,hs];decide),hq 135 (by decide),if_neg (show ¬135<h by omega),if_neg (show ¬135<h by omega),if_pos (rfl:135=135)]
  ·rw[getElem!_set_other _ _ _ _ h135,hq j hj];by_cases h2:j<h
   ·rw[if_pos h2,if_pos h2]
   ·rw[if_neg h2,if_neg h2,if_neg h135];simp
 rw[hL,hR]
theorem u7{S:Sp}(h:Ok S)(e:UInt8):pM S e=dA S (eC S.h e):=by
 have:=h.hlt;have hl:=dB S.h e h.hlt;rw[kF S _ (by intro c;rw[c]at hl;simp at hl;omega) (by omega),if_pos (by omega)];unfold pM;rw[Gh _ _ _ h.p136 h.hlt]
end SP
namespace SP
open Go.RowKit Go.Sort Go.Deep
theorem Only.widen{b o n o' n':Nat}{w w':World}(h:Only b o n w w')(h1:o'<=o)(h2:o+n<=o'+n'):Only b o' n' w w':=
 ⟨h.os,h.tape,h.output,h.size,h.block,fun q hq=>h.cell q (by omega),h.froz⟩
structure HSp(w:World)(b:Nat)(S:Sp):Prop where
 d:Holds enc w b 0 S.d
 p:Holds encB w b 25 S.p
 h:w.cell? ⟨b,161,none⟩=some (.int .i64 (S.h:Int))
 f:w.frozen? ⟨b,161,none⟩=false
theorem HSp.drew{w:World}{b:Nat}{S:Sp}(h:HSp w b S):HSp w.drew b S:=⟨h.d,h.p,h.h,h.f⟩
theorem HSp.lt{w:World}{b:Nat}{S:Sp}(h:HSp w b S):b<w.heap.size:=World.block_lt_of_cell? _ _ h.h
theorem HSp.below{w w':World}{b B:Nat}{S:Sp}(h:HSp w b S)(k:Below B w w')(hb:b<B):HSp w' b S:=
 ⟨Holds.below h.d k hb,Holds.below h.p k hb,by rw[k.cell (p:=⟨b,161,none⟩) hb];exact h.h,by rw[k.frozen (p:=⟨b,161,none⟩) hb];exact h.f⟩
theorem rJ(b:Nat)(S:Sp)(w:World)(h25:S.d.size=25)(h136:S.p.size=136)(hS:HSp w b S):
 Calls prog 172 #[.pointer (some ⟨b,0,none⟩)] w fun e w'=>e=.returned (.tuple #[])/\Only b 0 162 w w'/\HSp w' b (iI S):=by
 obtain⟨d,p,h⟩:=S;dsimp only at h25 h136;have hD:Holds enc w b 0 d:=hS.d;have hP:Holds encB w b 25 p:=hS.p;have hc:=hS.h;have hf:=hS.f;dsimp only at hc;rw[jP];clear hS;have hps:(perm (dY p d 17)).size=25:=pF _ (by rw[cV,h25]);generalize hpm:perm (dY p d 17)=pd at hps⊢;have HPM:Hid (perm (dY p d 17)=pd):=hpm;clear hpm;go_enter Tryz.func172,Tryz.ntmps172;go_wp2;go_still_tail 7,mixed;go_wp2_with fail
 refine(Je b 0 b 25 136 136 p d _ h25 (Holds.drew hD) (Holds.drew hP) h136 (by decide) (Nat.le_refl _) (by omega)).mono ?_;rintro e w1 ⟨rfl,hO1,hD1⟩;have hO1':Only b 0 25 w w1:=((Only.refl b 0 25 w).drew).trans hO1;have hD1':Holds enc w1 b 0 (dY p d 17):=hD1;have hP1:=Holds.same hP hO1' (by omega);have c1:w1.cell? ⟨b,161,none⟩=some (.int .i64 h):=by rw[hO1'.cell 161 (by omega)];exact hc
 have f1:w1.frozen? ⟨b,161,none⟩=false:=by rw[hO1'.froz];exact hf
 clear hO1 hD1;go_wp2_with fail
 refine(pW b 0 _ _ (by rw[cV,h25]) hD1').mono ?_;rintro e w2 ⟨rfl,hO2,hD2⟩;rw[HPM.out]at hD2;have hP2:=Holds.same hP1 hO2 (by omega);have c2:w2.cell? ⟨b,161,none⟩=some (.int .i64 h):=by rw[hO2.cell 161 (by omega)];exact c1
 have f2:w2.frozen? ⟨b,161,none⟩=false:=by rw[hO2.froz];exact f1
 go_wp2
 go_end0
 have hO3:Only b 161 1 w2 (w2.setCell ⟨b,161,none⟩ (.int .i64 0)):=(Only.refl b 161 1 w2).setCell (by omega) (by omega) _;have hD3:Holds enc _ b 0 pd:=Holds.same hD2 hO3 (Or.inl (by omega));have hP3:Holds encB _ b 25 p:=Holds.same hP2 hO3 (Or.inl (by omega));exact⟨rfl,((hO1'.trans hO2).widen (Nat.le_refl _) (by omega)).trans (hO3.widen (by omega) (by omega)),⟨hD3,hP3,World.cell?_setCell_same _ _ _ c2,by rw[World.frozen?_setCell];exact f2⟩⟩
end SP
namespace SP
open Go.RowKit Go.Sort Go.Deep
theorem ints5:(prog.info? 5).map (·.size)=some 1:=by kernel_rfl
theorem eF{w:World}{b o:Nat}{p:Bs}(h:Holds encB w b o p)(i:Nat)(l:List UInt8)(hi:i+l.length<=p.size):Holds encB (w.setCells b (o+i) (l.map encB)) b o (splice p i l):=by
 refine Holds.setCells h _ i (cI p i l) (by rw[List.length_map];exact hi) (fun j hj=>?_) (fun j hj hout=>?_)
 ·rw[List.length_map]at hj;rw[eM p i l (i+j) hi (by omega),if_pos (by omega),Nat.add_sub_cancel_left,getElem!_pos l j hj,List.getElem_map]
 ·rw[List.length_map]at hout;rw[eM p i l j hi hj,if_neg (by omega)]
def piece(bs:Bs)(k n:Nat):List UInt8:=(bs.toList.drop k).take n
theorem nX(bs:Bs)(k n:Nat)(h:k+n<=bs.size):(piece bs k n).length=n:=by
 unfold piece;rw[List.length_take,List.length_drop,Array.length_toList];omega
theorem piece_at(bs:Bs)(k n j:Nat)(h:k+n<=bs.size)(hj:j<n)(hl:j<(piece bs k n).length):(piece bs k n)[j]=bs[k+j]!:=by
 have e:(piece bs k n)[j]? = some bs[k+j]!:=by
  unfold piece;rw[List.getElem?_take_of_lt hj,List.getElem?_drop,Array.getElem?_toList,Array.getElem?_eq_getElem (by omega),getElem!_pos bs (k+j) (by omega)]
 exact(List.getElem?_eq_some_iff.1 e).2
theorem AD(bs:Bs)(k n:Nat):bs.toList.take (k+n)=bs.toList.take k++piece bs k n:=List.take_add
theorem Bw{w:World}{b h sb o len cap n:Nat}{p bs:Bs}{k:Nat}(hP:Holds encB w b 25 p)(hp:p.size=136)(hB:Holds encB w sb o bs)(hh:h<136)(hk:k+len<=bs.size)(hn:Nat.min len (136-h)=n):
 (Builtin.copy_ #[22,22] 3 #[.slice (some ⟨b,25+h,none⟩) (136-h) (136-h),.slice (some ⟨sb,o+k,none⟩) len cap]).run prog w=.ok (goInt n) (w.setCells b (25+h) ((piece bs k n).map encB)):=by
 have hnl:n<=len:=by rw[<-hn];exact Nat.min_le_left _ _
 have hnh:n<=136-h:=by rw[<-hn];exact Nat.min_le_right _ _
 have hlen:((piece bs k n).map encB).length=n:=by rw[List.length_map,nX bs k n (by omega)]
 have:=run_copy_cells (P:=prog) w 22 22 3 5 b (25+h) (136-h) (136-h) ⟨sb,o+k,none⟩ len cap ((piece bs k n).map encB) slice22 ints5 (by rw[hlen,hn])
  (fun j v hj=>by
   obtain⟨h1,h2⟩:=List.getElem?_eq_some_iff.1 hj;rw[hlen]at h1;have hc:=(hB (k+j) (by omega)).1;rw[List.getElem_map,piece_at bs k n j (by omega) h1]at h2;have e1:(⟨sb,o+k,none⟩:Addr).add j=⟨sb,o+(k+j),none⟩:=by
    unfold Addr.add;by_cases h0:j=0
    ·subst h0;rw[if_pos rfl];rfl
    ·rw[if_neg h0,Nat.add_assoc]
   rw[e1,hc,h2])
  (fun j hj=>by
   rw[hlen]at hj;have:=(hP (h+j) (by omega)).1;rw[<-Nat.add_assoc]at this;rw[this];rfl)
  (fun j hj=>by
   rw[hlen]at hj;have:=(hP (h+j) (by omega)).2;rw[<-Nat.add_assoc]at this;exact this)
  (fun v hv=>by
   obtain⟨x,_,rfl⟩:=List.mem_map.1 hv;rfl)
 rw[hlen]at this;exact this
theorem oH{w:World}{b:Nat}{d:St}{p:Bs}{v:Value}(hD:Holds enc w b 0 d)(h25:d.size=25)(hP:Holds encB w b 25 p)(h136:p.size=136)(hc:w.cell? ⟨b,161,none⟩=some v)(hf:w.frozen? ⟨b,161,none⟩=false)(m:Nat):
 HSp (w.setCell ⟨b,161,none⟩ (.int .i64 ((m:Nat):Int))) b ⟨d,p,m⟩:=by
 have hO:Only b 161 1 w (w.setCell ⟨b,161,none⟩ (.int .i64 ((m:Nat):Int))):=(Only.refl b 161 1 w).setCell (by omega) (by omega) _;have hD3:Holds enc _ b 0 d:=Holds.same hD hO (Or.inl (by omega));have hP3:Holds encB _ b 25 p:=Holds.same hP hO (Or.inl (by omega));exact⟨hD3,hP3,World.cell?_setCell_same _ _ _ hc,by rw[World.frozen?_setCell];exact hf⟩
theorem take_any(b:Nat)(S:Sp)(a:Option Addr)(sb so len cap:Nat)(bs:Bs)(w:World)(hok:Ok S)(hS:HSp w b S)(hl:bs.size=len)(hcap:len<=cap)(hbig:len<=1099511627776)
 (hsrc:len=0\/(a=some ⟨sb,so,none⟩/\sb≠b/\Holds encB w sb so bs)) :
 Calls prog 169 #[.pointer (some ⟨b,0,none⟩),.slice a len cap] w fun e w'=>e=.returned (.tuple #[])/\Only b 0 162 w w'/\HSp w' b (dA S bs.toList):=by
 go_enter Tryz.func169,Tryz.ntmps169;go_wp2;go_loopg [1] len (fun g s1 wr=>∃(k:Nat) (a':Option Addr) (Sk:Sp),k+g=len/\s1=.slice a' (len-k) (cap-k)/\(k<len->a'=some ⟨sb,so+k,none⟩)/\HSp wr b Sk/\Only b 0 162 w wr/\Hid (Sk=dA S (bs.toList.take k)))
 case atStart =>
  refine⟨0,a,S,by omega,rfl,fun h0=>?_,hS,Only.refl _ _ _ _,rfl⟩;rcases hsrc with h|⟨h,_,_⟩
  ·omega
  ·exact h
 case round =>
  obtain⟨k,a',Sk,hk,rfl,ha',hSk,hO,HE⟩:=hrel;by_cases hlt:k<len
  ·have e1:=ha' hlt;subst e1;obtain⟨_,hne,hB⟩:a=some ⟨sb,so,none⟩/\sb≠b/\Holds encB w sb so bs:=by
    rcases hsrc with h|h
    ·omega
    ·exact h
   have hBr:=Holds.other hB hO hne (by omega);have hokk:Ok Sk:=by rw[HE.out];exact eA hok _
   obtain⟨q,hh⟩:∃q,Sk.h=q:=⟨_,rfl⟩
   have hlt136:=hokk.hlt;have hsz:=hokk.p136;rw[hh]at hlt136;have hc:=hSk.h;have hf:=hSk.f;rw[hh]at hc;have hP:=hSk.p;obtain⟨n,hn⟩:∃n,Nat.min (len-k) (136-q)=n:=⟨_,rfl⟩
   have l0:(0:Int)<((len-k:Nat):Int):=by omega
   have hh136:(q:Int)<=136:=by omega
   have Hh:Hid (Sk.h=q):=hh;clear hh;have hne136:(136=q)=False:=eq_false (by omega);have hn1:1<=n:=by rw[<-hn];exact(Nat.le_min).2 ⟨by omega,by omega⟩
   have hnl:n<=len-k:=by rw[<-hn];exact Nat.min_le_left _ _
   have hnh:n<=136-q:=by rw[<-hn];exact Nat.min_le_right _ _
   have hcp:=Bw (w:=wr.drew) (cap:=cap-k) (k:=k) hP hsz hBr hlt136 (by omega) hn;have hpl:=nX bs k n (by omega);have hP1:=eF (Holds.drew hP) q (piece bs k n) (by omega);have hO1:Only b 0 162 w (wr.drew.setCells b (25+q) ((piece bs k n).map encB)):=hO.drew.setCells _ _ (by omega) (by rw[List.length_map];omega);have hOx:Only b 25 136 wr (wr.drew.setCells b (25+q) ((piece bs k n).map encB)):=((Only.refl b 25 136 wr).drew).setCells _ _ (by omega) (by rw[List.length_map];omega);have hD1:=Holds.same hSk.d hOx (Or.inl (by rw[hokk.d25];omega));have c1:(wr.drew.setCells b (25+q) ((piece bs k n).map encB)).cell? ⟨b,161,none⟩=some (.int .i64 q):=by rw[hOx.cell 161 (by omega)];exact hc
   have f1:(wr.drew.setCells b (25+q) ((piece bs k n).map encB)).frozen? ⟨b,161,none⟩=false:=by rw[hOx.froz];exact hf
   have HT:Hid (dA S (bs.toList.take (k+n))=dA Sk (piece bs k n)):=by
    show _=_;rw[AD,eB,<-HE.out]
   have HCH:Hid (dA Sk (piece bs k n)=if q+n=136 then iI ⟨Sk.d,splice Sk.p q (piece bs k n),q⟩ else⟨Sk.d,splice Sk.p q (piece bs k n),q+n⟩):=by
    show _=_;have:=kF Sk (piece bs k n) (by intro e;rw[e]at hpl;simp at hpl;omega) (by rw[hpl,Hh.out];omega);rw[hpl,Hh.out]at this;exact this
   have hss:(splice Sk.p q (piece bs k n)).size=136:=by rw[cI,hsz]
   have hds:=hokk.d25;generalize hW1:wr.drew.setCells b (25+q) ((piece bs k n).map encB)=W1 at hcp hP1 hO1 hD1 c1 f1;generalize splice Sk.p q (piece bs k n)=sp at hP1 hss HCH;generalize Sk.d=sd at hD1 hds HCH;clear hOx hW1 hP hBr hokk hpl hSk hsz hn;have z1:(n:Int)<=((len-k:Nat):Int):=by omega
   by_cases hcn:cap-k=n
   ·have hcn':(cap-k=n)=True:=eq_true hcn;have HCN:Hid (cap-k=n):=hcn;clear hcn;by_cases hfull:q+n=136
    ·have hb:((q:Int)+(n:Int) == 136)=true:=beq_iff_eq.2 (by omega);rw[if_pos hfull]at HCH;go_wp2_with fail
     go_still_tail 9,mixed;go_wp2_with fail
     refine(rJ b ⟨sd,sp,q+n⟩ _ hds hss (oH hD1 hds hP1 hss c1 f1 (q+n))).mono ?_;rintro e w2 ⟨rfl,hO2,hS2⟩;go_wp2;go_roundg (gk-n)
     case measure=>omega
     case rel =>
      refine⟨k+n,some ⟨sb,so+k,none⟩,iI ⟨sd,sp,q⟩,by omega,by rw[Nat.sub_sub,Nat.sub_sub],fun hx=>by have:=HCN.out;omega,?_,?_,?_⟩
      ·rw[jP]at hS2⊢;exact hS2
      ·exact(hO1.setCell (o:=161) (by omega) (by omega) _).trans hO2
      ·rw[HT.out,HCH.out];rfl
    ·have hb:((q:Int)+(n:Int) == 136)=false:=beq_eq_false_iff_ne.2 (by omega);rw[if_neg hfull]at HCH;go_wp2_with fail
     go_still_tail 9,mixed;go_wp2;go_roundg (gk-n)
     case measure=>omega
     case rel =>
      refine⟨k+n,some ⟨sb,so+k,none⟩,⟨sd,sp,q+n⟩,by omega,by rw[Nat.sub_sub,Nat.sub_sub],fun hx=>by have:=HCN.out;omega,?_,?_,?_⟩
      ·exact oH hD1 hds hP1 hss c1 f1 (q+n)
      ·exact hO1.setCell (o:=161) (by omega) (by omega) _
      ·rw[HT.out,HCH.out];rfl
   ·have hcn':(cap-k=n)=False:=eq_false hcn;by_cases hfull:q+n=136
    ·have hb:((q:Int)+(n:Int) == 136)=true:=beq_iff_eq.2 (by omega);rw[if_pos hfull]at HCH;go_wp2_with fail
     go_still_tail 9,mixed;go_wp2_with fail
     refine(rJ b ⟨sd,sp,q+n⟩ _ hds hss (oH hD1 hds hP1 hss c1 f1 (q+n))).mono ?_;rintro e w2 ⟨rfl,hO2,hS2⟩;go_wp2;go_roundg (gk-n)
     case measure=>omega
     case rel =>
      refine⟨k+n,some ⟨sb,so+k+n,none⟩,iI ⟨sd,sp,q⟩,by omega,by rw[Nat.sub_sub,Nat.sub_sub],fun _=>by rw[Nat.add_assoc],?_,?_,?_⟩
      ·rw[jP]at hS2⊢;exact hS2
      ·exact(hO1.setCell (o:=161) (by omega) (by omega) _).trans hO2
      ·rw[HT.out,HCH.out];rfl
    ·have hb:((q:Int)+(n:Int) == 136)=false:=beq_eq_false_iff_ne.2 (by omega);rw[if_neg hfull]at HCH;go_wp2_with fail
     go_still_tail 9,mixed;go_wp2;go_roundg (gk-n)
     case measure=>omega
     case rel =>
      refine⟨k+n,some ⟨sb,so+k+n,none⟩,⟨sd,sp,q+n⟩,by omega,by rw[Nat.sub_sub,Nat.sub_sub],fun _=>by rw[Nat.add_assoc],?_,?_,?_⟩
      ·exact oH hD1 hds hP1 hss c1 f1 (q+n)
      ·exact hO1.setCell (o:=161) (by omega) (by omega) _
      ·rw[HT.out,HCH.out];rfl
  ·have hk0:k=len:=by omega
   have l0:¬(0:Int)<((len-k:Nat):Int):=by omega
   go_wp2
   go_end0
   refine⟨rfl,hO,?_⟩;have e1:bs.toList.take k=bs.toList:=List.take_of_length_le (by rw[Array.length_toList];omega);rw[HE.out,e1]at hSk;exact hSk
end SP
namespace SP
open Go.RowKit Go.Sort Go.Deep
theorem nZ(x:UInt8):BitVec.ofInt 8 (x.toNat:Int)=x.toBitVec:=by
 apply BitVec.eq_of_toNat_eq;rw[BitVec.ofInt_natCast,BitVec.toNat_ofNat];exact Nat.mod_eq_of_lt x.toNat_lt
theorem vG(x y:UInt8):bits .xor .u8 (ub x) (ub y)=ub (x ^^^ y):=by
 show IntKind.u8.wrap ((BitVec.ofInt 8 (x.toNat:Int) ^^^ BitVec.ofInt 8 (y.toNat:Int)).toNat:Int)=_;rw[nZ,nZ,<-UInt8.toBitVec_xor];have h:((x ^^^ y).toNat:Int)<256:=by have:=(x ^^^ y).toNat_lt;omega
 have e:∀n:Int,IntKind.u8.wrap n=n%256:=fun n=>by simp[IntKind.wrap,IntKind.bits,IntKind.signed]
 rw[e];exact Int.emod_eq_of_lt (Int.natCast_nonneg _) h
theorem JU(x:UInt8):bits .xor .u8 (ub x) 128=ub (x ^^^ 128):=vG x 128
theorem Mz:∀w:World,(zeroValue 5).run prog w=.ok (.int .u8 0) w:=fun _=>by kernel_rfl
theorem zV{w:World}{b q:Nat}{p:Bs}(hP:Holds encB w b 25 p)(hp:p.size=136)(hq:q<136)(ty:TypeId):
 (Builtin.clear_ #[22] ty #[.slice (some ⟨b,25+q,none⟩) (136-q) (136-q)]).run prog w=.ok (.tuple #[]) (w.setCells b (25+q) ((List.replicate (136-q) (0:UInt8)).map encB)):=by
 have h:=Lib.run_clear_slice (P:=prog) w 22 5 ty (.int .u8 0) slice22 Mz rfl rfl b (25+q) (136-q) (136-q) (by omega)
  (fun j hj=>by
   have:=(hP (q+j) (by omega)).1;rw[<-Nat.add_assoc]at this;rw[this];rfl)
  (fun j hj=>by
   have:=(hP (q+j) (by omega)).2;rw[<-Nat.add_assoc]at this;exact this)
 rw[List.map_replicate];exact h
theorem C3(b:Nat)(S:Sp)(e:UInt8)(w:World)(hok:Ok S)(hS:HSp w b S):
 Calls prog 156 #[.pointer (some ⟨b,0,none⟩),.int .u8 (ub e)] w fun r w'=>r=.returned (.tuple #[])/\Only b 0 162 w w'/\HSp w' b (pM S e):=by
 obtain⟨d,p,q⟩:=S;have h25:d.size=25:=hok.d25;have h136:p.size=136:=hok.p136;have hq:q<136:=hok.hlt;have hD:Holds enc w b 0 d:=hS.d;have hP:Holds encB w b 25 p:=hS.p;have hc:w.cell? ⟨b,161,none⟩=some (.int .i64 q):=hS.h;have hf:=hS.f;have hcl:=zV (Holds.drew hP) h136 hq 0;have hOx:Only b 25 136 w (w.drew.setCells b (25+q) ((List.replicate (136-q) (0:UInt8)).map encB)):=((Only.refl b 25 136 w).drew).setCells _ _ (by omega) (by rw[List.length_map,List.length_replicate];omega);have hP1:=eF (Holds.drew hP) q (List.replicate (136-q) (0:UInt8)) (by rw[List.length_replicate];omega);have hs1:(splice p q (List.replicate (136-q) 0)).size=136:=by rw[cI,h136]
 have HF:Hid (pM ⟨d,p,q⟩ e=iI ⟨d,((splice p q (List.replicate (136-q) 0)).setIfInBounds q e).setIfInBounds 135 (((splice p q (List.replicate (136-q) 0)).setIfInBounds q e)[135]! ^^^ 128),q⟩):=by
  show _=_;unfold pM ended;rfl
 generalize w.drew.setCells b (25+q) ((List.replicate (136-q) (0:UInt8)).map encB)=W1 at hcl hOx hP1;generalize splice p q (List.replicate (136-q) 0)=sp at hP1 hs1 HF;have hne136:(136=q)=False:=eq_false (by omega);have hq136:(q:Int)<=136:=by omega
 have hq136':(q:Int)<136:=by omega
 have c1:W1.cell? ⟨b,161,none⟩=some (.int .i64 q):=by rw[hOx.cell 161 (by omega)];exact hc
 obtain⟨c2,f2⟩:=hP1 q (by omega);obtain⟨sp2,hsp2⟩:∃s,sp.setIfInBounds q e=s:=⟨_,rfl⟩
 rw[hsp2]at HF;have hs2:sp2.size=136:=by rw[<-hsp2,Array.size_setIfInBounds,hs1]
 obtain⟨x,hx⟩:∃x,sp2[135]! = x:=⟨_,rfl⟩
 rw[hx]at HF;have hx80:=JU x;have hP2:=Holds.set hP1 (i:=q) (by omega) e;rw[hsp2]at hP2;have hO2:Only b 25 136 w (W1.setCell ⟨b,25+q,none⟩ (.int .u8 (ub e))):=hOx.setCell (o:=25+q) (by omega) (by omega) _;have hP2':Holds encB (W1.setCell ⟨b,25+q,none⟩ (.int .u8 (ub e))) b 25 sp2:=hP2;have HX:Hid (sp2[135]! = x):=hx;rw[HF.out];clear hS hok hP hsp2 hx hP2 HF;have hs3:(sp2.setIfInBounds 135 (x ^^^ 128)).size=136:=by rw[Array.size_setIfInBounds,hs2]
 go_enter Tryz.func156,Tryz.ntmps156;go_wp2;go_still_tail 8,mixed;go_wp2_with fail
 go_region
 go_wp2_with fail
 generalize W1.setCell ⟨b,25+q,none⟩ (.int .u8 (ub e))=W2 at hP2' hO2⊢;obtain⟨c3,f3⟩:=oQ hP2' 135 (by omega) HX.out;clear c1 c2 f2 hcl hP1;go_region
 go_wp2_with fail
 have hP3:=Holds.set hP2' (i:=135) (by omega) (x ^^^ 128);have hO3:Only b 25 136 w (W2.setCell ⟨b,160,none⟩ (.int .u8 (ub (x ^^^ 128)))):=hO2.setCell (o:=160) (by omega) (by omega) _;have hP3':Holds encB (W2.setCell ⟨b,160,none⟩ (.int .u8 (ub (x ^^^ 128)))) b 25 (sp2.setIfInBounds 135 (x ^^^ 128)):=hP3;generalize W2.setCell ⟨b,160,none⟩ (.int .u8 (ub (x ^^^ 128)))=W3 at hP3' hO3⊢;have hD3:Holds enc W3 b 0 d:=Holds.same hD hO3 (Or.inl (by omega));have hS3:HSp W3 b ⟨d,sp2.setIfInBounds 135 (x ^^^ 128),q⟩:=⟨hD3,hP3',by rw[hO3.cell 161 (by omega)];exact hc,by rw[hO3.froz];exact hf⟩
 refine(rJ b ⟨d,sp2.setIfInBounds 135 (x ^^^ 128),q⟩ _ h25 hs3 hS3.drew.drew).mono ?_;rintro r w4 ⟨rfl,hO4,hS4⟩;go_wp2
 go_end0
 exact⟨rfl,(hO3.drew.drew.widen (by omega) (by omega)).trans hO4,hS4⟩
end SP
namespace SP
open Go.Sort
def cE(d:St):Nat->St
 | 0=>d
 | m+1=>perm (cE d m)
theorem cN(d:St)(hd:d.size=25)(m:Nat):(cE d m).size=25:=by
 induction m with
 | zero=>exact hd
 | succ m ih=>exact pF _ ih
def cH(d:St)(j:Nat):UInt8:=byteOf (cE d (j/136)) (j%136)
def eE(d:St)(n:Nat):Bs:=Array.ofFn (fun i:Fin n=>cH d i.val)
theorem eD(d:St)(n:Nat):(eE d n).size=n:=by simp[eE]
theorem mQ(d:St)(n j:Nat)(hj:j<n):(eE d n)[j]! = cH d j:=by
 rw[getElem!_pos (eE d n) j (by rw[eD];exact hj)];simp[eE]
def S0:Sp:=⟨b8,Array.replicate 136 0,0⟩
theorem oS:Ok S0:=⟨by simp[S0,b8],by simp[S0],by decide⟩
def eS(l:List UInt8)(e:UInt8):St:=(pM (dA S0 l) e).d
theorem lH(l:List UInt8)(e:UInt8):(eS l e).size=25:=by
 unfold eS;have h:=eA oS l;rw[u7 h];exact(eA h _).d25
def uZ(l:List UInt8):Bs:=front (eS l 6) 32
def nD(l:List UInt8)(n:Nat):Bs:=eE (eS l 31) n
theorem zK(l:List UInt8):uZ l=eE (eS l 6) 32:=by
 unfold uZ;refine xI _ _ 32 (aR _ _) (eD _ _) (fun j hj=>?_);rw[gR _ _ _ hj,mQ _ _ _ hj];unfold cH;rw[Nat.div_eq_of_lt (by omega),Nat.mod_eq_of_lt (by omega)];rfl
/-! ### The reference: all bytes with what stands behind them, piece by piece -/
def total(l : List UInt8)(e : UInt8): List UInt8:=l ++ eC (l.length%136) e
theorem m9(l:List UInt8)(e:UInt8):(total l e).length=136*(l.length/136+1):=by
 unfold total;rw[List.length_append,dB _ _ (Nat.mod_lt _ (by decide))];omega
theorem xM(l:List UInt8)(e:UInt8):eS l e=(dA S0 (total l e)).d:=by
 unfold eS total;have h:=eA oS l;have hh:=Cj oS l;rw[eB,u7 h,hh];have:S0.h=0:=rfl;rw[this,Nat.zero_add]
def m7(st:Bs)(T:List UInt8)(o:Nat):Nat->Bs
 | 0=>st
 | k+1=>(m7 st T o k).setIfInBounds k ((m7 st T o k)[k]! ^^^ T[o+k]!)
theorem t5(st:Bs)(T:List UInt8)(o k:Nat):(m7 st T o k).size=st.size:=by
 induction k with
 | zero=>rfl
 | succ k ih=>rw[m7,Array.size_setIfInBounds,ih]
theorem Hg(st:Bs)(T:List UInt8)(o k j:Nat)(hk:k<=st.size)(hj:j<st.size):(m7 st T o k)[j]! = if j<k then st[j]! ^^^ T[o+j]! else st[j]!:=by
 induction k with
 | zero=>rfl
 | succ k ih =>
  rw[m7];by_cases h:j=k
  ·subst h;rw[getElem!_set_same _ _ _ (by rw[t5];exact hj),ih (by omega),if_neg (by omega),if_pos (by omega)]
  ·rw[getElem!_set_other _ _ _ _ h,ih (by omega)];by_cases h1:j<k
   ·rw[if_pos h1,if_pos (by omega)]
   ·rw[if_neg h1,if_neg (by omega)]
def iK(T:List UInt8):Nat->Bs
 | 0=>Array.replicate 200 0
 | i+1=>fJ (m7 (iK T i) T (136*i) 136)
theorem Aw:front b8 200=Array.replicate 200 0:=by
 refine xI _ _ 200 (aR _ _) (by rw[Array.size_replicate]) (fun j hj=>?_);have h':j<(Array.replicate 200 (0:UInt8)).size:=by rw[Array.size_replicate];exact hj
 rw[gR _ _ _ hj,getElem!_pos (Array.replicate 200 (0:UInt8)) j h',Array.getElem_replicate];unfold byteOf;rw[fV _ (by omega)];unfold low;simp
theorem He(x y:UInt8)(i:Nat):(x ^^^ y).toNat.testBit i=(x.toNat.testBit i ^^ y.toNat.testBit i):=by
 rw[UInt8.toNat_xor,Nat.testBit_xor]
theorem Jd(d:St)(hd:d.size=25)(p:Bs)(T:List UInt8)(o:Nat)(hp:∀j,j<136->p[j]! = T[o+j]!):
 dY (m7 (front d 200) T o 136) b8 25=dY p d 17:=by
 have hz:b8.size=25:=by simp[b8]
 refine AL _ _ (by rw[cV,hz]) (by rw[cV,hd]) (fun j hj=>?_);rw[oD _ b8 hz 25 j (Nat.le_refl _) hj,if_pos hj,fV j hj,zx,oD _ d hd 17 j (by decide) hj];apply BitVec.eq_of_getLsbD_eq;intro k hk;have hb:∀m,m<200->(m7 (front d 200) T o 136)[m]! = if m<136 then(front d 200)[m]! ^^^ T[o+m]! else(front d 200)[m]!:=fun m hm =>
  Hg _ _ _ _ _ (by rw[aR];decide) (by rw[aR];exact hm)
 have hw:=congrArg (fun v=>v.getLsbD k) (rC d 200 j (by omega));simp only[wordOf]at hw⊢;rw[mO _ _ 8 k (Nat.le_refl _) hk]at hw⊢;rw[hb _ (by omega)];by_cases h17:j<17
 ·rw[if_pos (by omega),if_pos h17,BitVec.getLsbD_xor,<-hw,mO _ _ 8 k (Nat.le_refl _) hk,He,hp _ (by omega)];simp[hk]
 ·rw[if_neg (by omega),if_neg h17,<-hw]
theorem AE(T:List UInt8)(i:Nat):T.take (136*(i+1))=T.take (136*i)++(T.drop (136*i)).take 136:=by
 rw[show 136*(i+1)=136*i+136 by omega,List.take_add]
theorem Fa(T:List UInt8)(i:Nat)(h:136*i<=T.length):iK T i=front (dA S0 (T.take (136*i))).d 200:=by
 induction i with
 | zero =>
  rw[Nat.mul_zero,List.take_zero];exact Aw.symm
 | succ i ih =>
  rw[iK,ih (by omega),AE T i,eB];have hok:=eA oS (T.take (136*i));have hh:(dA S0 (T.take (136*i))).h=0:=by
   rw[Cj oS,List.length_take,Nat.min_eq_left (by omega)];have:S0.h=0:=rfl;omega
  generalize dA S0 (T.take (136*i))=S at hok hh;obtain⟨d,p,q⟩:=S;have hd:d.size=25:=hok.d25;have hp:p.size=136:=hok.p136;have hq:q=0:=hh;subst hq;have hl:((T.drop (136*i)).take 136).length=136:=by rw[List.length_take,List.length_drop];omega
  rw[kF _ _ (by intro e;rw[e]at hl;simp at hl) (by rw[hl];exact Nat.le_refl _),hl,if_pos rfl,jP];unfold fJ;rw[Jd d hd (splice p 0 ((T.drop (136*i)).take 136)) T (136*i)];intro j hj;rw[eM _ _ _ _ (by rw[hl,hp];decide) (by omega),if_pos (by omega),Nat.sub_zero,getElem!_pos _ j (by rw[hl];exact hj),getElem!_pos T (136*i+j) (by omega)];rw[List.getElem_take,List.getElem_drop]
theorem yJ(l:List UInt8)(e:UInt8):iK (total l e) (l.length/136+1)=front (eS l e) 200:=by
 have h:=m9 l e;rw[Fa _ _ (by omega),xM,List.take_of_length_le (by omega)]
end SP
namespace SP
open Go.RowKit Go.Sort Go.Deep
theorem lF{w:World}{g l cap r k n c:Nat}{cur bs:Bs}(hC:Holds encB w g 0 cur)(hs:cur.size=cap)(hB:Holds encB w r 0 bs)(hk:bs.size=n)(hk2:k=n)(hroom:l+n<=cap)(ty:TypeId):
 (Builtin.append_ #[22,22] ty #[.slice (some ⟨g,0,none⟩) l cap,.slice (some ⟨r,0,none⟩) k c]).run prog w=.ok (.slice (some ⟨g,0,none⟩) (l+n) cap) (w.setCells g l (bs.toList.map encB)):=by
 subst hk2;obtain⟨i,hi,_,hsz,_⟩:=info_parts info5;have hlen:(bs.toList.map encB).length=k:=by rw[List.length_map,Array.length_toList,hk]
 have hsrc:Src prog i.size 22 (.slice (some ⟨r,0,none⟩) k c) k (bs.toList.map encB) w:=by
  rw[hsz];refine Src.ofSlice w slice22 ⟨r,0,none⟩ k c _ (by rw[hlen,Nat.mul_one]) (fun j v hj=>?_) (fun v hv=>?_)
  ·obtain⟨h1,h2⟩:=List.getElem?_eq_some_iff.1 hj;rw[hlen]at h1;have hc:=(hB j (by omega)).1;rw[getElem!_pos bs j (by omega)]at hc;rw[List.getElem_map,Array.getElem_toList]at h2;have e1:(⟨r,0,none⟩:Addr).add j=⟨r,0+j,none⟩:=by
    unfold Addr.add;by_cases h0:j=0
    ·subst h0;rw[if_pos rfl]
    ·rw[if_neg h0]
   rw[e1,hc,h2]
  ·obtain⟨x,_,rfl⟩:=List.mem_map.1 hv;rfl
 have h:=run_append_room_src (P:=prog) w 22 22 ty 5 i slice22 hi g 0 l cap (.slice (some ⟨r,0,none⟩) k c) k _ hsrc hroom
  (fun j hj=>by
   rw[hlen]at hj;rw[hsz,Nat.mul_one,Nat.add_assoc,(hC (l+j) (by omega)).1];rfl)
  (fun j hj=>by
   rw[hlen]at hj;rw[hsz,Nat.mul_one,Nat.add_assoc];exact(hC (l+j) (by omega)).2)
 rw[hsz,Nat.mul_one,Nat.zero_add]at h;exact h
theorem Only.with_new{b o n g m p:Nat}{w w1 w2:World}(h:Only b o n w w1)(k:Only g p m w1 w2)(hg:w.heap.size<=g)(hb:b<w.heap.size):Only b o n w w2:=by
 have hs:=h.size;have e:=k.block b (by omega) (by omega);exact⟨k.os.trans h.os,k.tape.trans h.tape,k.output.trans h.output,Nat.le_trans h.size k.size,
  fun j hj hn=>(k.block j (by omega) (by omega)).trans (h.block j hj hn),
  fun q hq=>(World.cell?_of_block (w:=w1) (a:=⟨b,q,none⟩) e).trans (h.cell q hq),fun q=>(World.frozen?_of_block (w:=w1) (a:=⟨b,q,none⟩) e).trans (h.froz q)⟩
theorem A7(d:St)(m:Nat)(h:¬m=0):perm (cE d (m-1))=cE d m:=by
 obtain⟨k,rfl⟩:∃k,m=k+1:=⟨m-1,by omega⟩
 rw[Nat.add_sub_cancel,cE]
theorem xZ(d:St)(m:Nat)(cur:Bs)(hc:136*m+136<=cur.size)(h:∀j,j<136*m->cur[j]! = cH d j):∀j,j<136*(m+1)->(splice cur (136*m) (front (cE d m) 136).toList)[j]! = cH d j:=by
 intro j hj;have hl:(front (cE d m) 136).toList.length=136:=by rw[Array.length_toList,aR]
 rw[eM _ _ _ _ (by rw[hl];exact hc) (by omega),hl];by_cases h1:j<136*m
 ·rw[if_neg (by omega),h j h1]
 ·rw[if_pos (by omega),getElem!_pos _ (j-136*m) (by rw[hl];omega),Array.getElem_toList,<-getElem!_pos (front (cE d m) 136) (j-136*m) (by rw[aR];omega),gR _ _ _ (by omega)];unfold cH;rw[show j/136=m by omega,show j%136=j-136*m by omega]
theorem F4(b:Nat)(d:St)(n:Nat)(w:World)(h25:d.size=25)(hD:Holds enc w b 0 d)(hn:n<=16384):
 Calls prog 170 #[.pointer (some ⟨b,0,none⟩),.int .i64 n] w fun e w'=>e=.returned (.slice (some ⟨w.heap.size,0,none⟩) n n)/\Only b 0 25 w w'/\Holds encB w' w.heap.size 0 (eE d n):=by
 have hb:=Holds.lt hD (by omega);obtain⟨i,hi,hz0,hsz,hby⟩:=info_parts info5;obtain⟨cp,hcp⟩:∃c,n+136=c:=⟨_,rfl⟩
 have hmk:∀w:World,(Instr.makeSlice 22 (.int .i64 0) (.int .i64 ((n:Int)+136))).run prog w=.ok (.slice (some ⟨w.heap.size,0,none⟩) 0 cp) (w.alloc (.cells (madeCells #[.int .u8 0] cp) 5)):=by
  intro w;have h:=run_make (P:=prog) w 22 5 i (.int .u8 0) slice22 hi hz0 .i64 .i64 0 ((n:Int)+136) (by omega) (by omega) (by rw[hby];omega) (by omega);rw[hsz,Nat.mul_one,show((n:Int)+136).toNat=cp by omega]at h;exact h
 have hC0:Holds encB (w.alloc (.cells (madeCells #[.int .u8 0] cp) 5)) w.heap.size 0 (Array.replicate cp 0):=Holds.made (enc:=encB) w 5 cp 0;have hO0:Only b 0 25 w (w.alloc (.cells (madeCells #[.int .u8 0] cp) 5)):=(Only.refl _ _ _ _).alloc hb _;have hD0:=Holds.below hD ((Below.refl w.heap.size w).alloc (Nat.le_refl _) (.cells (madeCells #[.int .u8 0] cp) 5)) hb;have hs0:w.heap.size<(w.alloc (.cells (madeCells #[.int .u8 0] cp) 5)).heap.size:=by simp
 clear hi hz0 hsz hby;have Hcp:Hid (n+136=cp):=hcp;have hcl:n+136<=cp:=by omega
 have hcg:cp<=n+136:=by omega
 clear hcp;go_enter Tryz.func170,Tryz.ntmps170;go_wp2;generalize w.alloc _=W1 at hC0 hO0 hD0 hs0⊢;clear hmk;go_loopg [5] cp (fun g s5 wr=>∃(m l:Nat) (cur:Bs),Hid (l=136*m)/\l+g=cp/\1<=g/\s5=.slice (some ⟨w.heap.size,0,none⟩) l cp/\Holds encB wr w.heap.size 0 cur/\cur.size=cp/\Holds enc wr b 0 (cE d (m-1))/\Only b 0 25 w wr/\w.heap.size<wr.heap.size/\Hid (∀j,j<136*m->cur[j]! = cH d j))
 case atStart=>exact⟨0,0,_,rfl,by omega,by have:=Hcp.out;omega,rfl,hC0,by rw[Array.size_replicate],hD0,hO0,hs0,fun j hj=>by omega⟩
 case round =>
  clear hC0 hO0 hD0 hs0;obtain⟨m,l,cur,Hl,hg,hg1,rfl,hC,hcs,hDm,hO,hs,HE⟩:=hrel;have hps:=cN d h25 (m-1);by_cases hlt:l<n
  ·have hlt':(l:Int)<(n:Int):=by omega
   have HN:Hid (∀j,j<136*(m+1)->(splice cur l (front (cE d m) 136).toList)[j]! = cH d j):=by
    rw[Hl.out];exact xZ d m cur (by rw[<-Hl.out];omega) HE
   by_cases hm0:m=0
   ·have hz0:¬(0:Int)<(l:Int):=by have:=Hl.out;omega
    have hDm0:Holds enc wr b 0 (cE d m):=by rw[hm0]at hDm⊢;exact hDm
    have Hm0:Hid (m=0):=hm0;clear hm0 hDm HE;go_wp2_with fail
    refine(pK b 0 136 _ _ (cN d h25 m) hDm0 (by decide)).mono ?_;rintro e w2 ⟨rfl,hb2,hF⟩;have hC2:=Holds.below hC hb2 (Holds.lt hC (by omega));have hD2:=Holds.below hDm0 hb2 (Holds.lt hDm0 (by rw[cN d h25];decide));have hap:=lF (l:=l) (k:=136) (n:=136) (c:=136) hC2 hcs hF (aR _ _) rfl (by omega) 22;have hC3:=eF hC2 l (front (cE d m) 136).toList (by rw[Array.length_toList,aR];omega);rw[Nat.zero_add]at hC3;have hO2:Only b 0 25 w w2:=hO.trans (Only.of_below hb2 rfl (Holds.lt hDm0 (by rw[cN d h25];decide)));have hOn:Only w.heap.size 0 cp w2 (w2.setCells w.heap.size l ((front (cE d m) 136).toList.map encB)):=(Only.refl _ _ _ _).setCells _ _ (by omega) (by rw[List.length_map,Array.length_toList,aR];omega);have hO3:=hO2.with_new hOn (Nat.le_refl _) hb;have hD3:=Holds.other hD2 hOn (by omega) (by rw[cN d h25];decide);have hs3:w.heap.size<(w2.setCells w.heap.size l ((front (cE d m) 136).toList.map encB)).heap.size:=Nat.lt_of_lt_of_le (Holds.lt hC2 (by omega)) hOn.size;generalize w2.setCells w.heap.size l ((front (cE d m) 136).toList.map encB)=W3 at hap hC3 hO3 hD3 hs3;have HAP:Hid _:=hap;clear hC2 hD2 hF hb2 hOn hO2 hap;go_wp2_with (at_builtin;refine Lib.wpList_append_run _ rfl _ _ 22 22 rfl _ _ rfl rfl _ _ HAP.out ?_)
    go_roundg (gk-136)
    case measure=>omega
    case rel =>
     exact⟨m+1,l+136,_,by have:=Hl.out;show _=_;omega,by omega,by omega,rfl,hC3,by rw[cI,hcs],hD3,hO3,hs3,HN⟩
   ·have hpos:(0:Int)<(l:Int):=by have:=Hl.out;omega
    clear HE;go_wp2_with fail
    refine(pW b 0 _ _ hps hDm).mono ?_;rintro e w1 ⟨rfl,hO1,hD1⟩;rw[A7 d m hm0]at hD1;have hC1:=Holds.other hC hO1 (by omega) (by omega);have hO1':=hO.trans hO1;go_wp2_with fail
    refine(pK b 0 136 _ _ (cN d h25 m) hD1 (by decide)).mono ?_;rintro e w2 ⟨rfl,hb2,hF⟩;have hC2:=Holds.below hC1 hb2 (Holds.lt hC1 (by omega));have hD2:=Holds.below hD1 hb2 (Holds.lt hD1 (by rw[cN d h25];decide));have hap:=lF (l:=l) (k:=136) (n:=136) (c:=136) hC2 hcs hF (aR _ _) rfl (by omega) 22;have hC3:=eF hC2 l (front (cE d m) 136).toList (by rw[Array.length_toList,aR];omega);rw[Nat.zero_add]at hC3;have hO2:Only b 0 25 w w2:=hO1'.trans (Only.of_below hb2 rfl (Holds.lt hD1 (by rw[cN d h25];decide)));have hOn:Only w.heap.size 0 cp w2 (w2.setCells w.heap.size l ((front (cE d m) 136).toList.map encB)):=(Only.refl _ _ _ _).setCells _ _ (by omega) (by rw[List.length_map,Array.length_toList,aR];omega);have hO3:=hO2.with_new hOn (Nat.le_refl _) hb;have hD3:=Holds.other hD2 hOn (by omega) (by rw[cN d h25];decide);have hs3:w.heap.size<(w2.setCells w.heap.size l ((front (cE d m) 136).toList.map encB)).heap.size:=Nat.lt_of_lt_of_le (Holds.lt hC2 (by omega)) hOn.size;generalize w2.setCells w.heap.size l ((front (cE d m) 136).toList.map encB)=W3 at hap hC3 hO3 hD3 hs3;have HAP:Hid _:=hap;clear hC2 hD2 hF hb2 hOn hO2 hap;go_wp2_with (at_builtin;refine Lib.wpList_append_run _ rfl _ _ 22 22 rfl _ _ rfl rfl _ _ HAP.out ?_)
    go_roundg (gk-136)
    case measure=>omega
    case rel =>
     exact⟨m+1,l+136,_,by have:=Hl.out;show _=_;omega,by omega,by omega,rfl,hC3,by rw[cI,hcs],hD3,hO3,hs3,HN⟩
  ·have hge:(n:Int)<=(l:Int):=by omega
   have hle:n<=cp:=by omega
   have hle':(n:Int)<=(cp:Int):=by omega
   go_wp2;go_ret;refine⟨rfl,hO,fun j hj=>?_⟩;rw[eD]at hj;have:=hC j (by omega);rw[HE.out j (by have:=Hl.out;omega)]at this;rw[mQ d n j hj];exact this
end SP
namespace SP
open Go.RowKit Go.Sort Go.Deep
def dJ:Array Value:=Array.replicate 25 (.int .u64 0)++Array.replicate 136 (.int .u8 0)++#[.int .i64 0]
theorem Ew:∀w:World,(zeroValue 210).run prog w=.ok (.agg dJ) w:=fun _=>by kernel_rfl
theorem ES(j:Nat)(hj:j<25):dJ[j]? = some (.int .u64 0):=by
 have h1:j<(Array.replicate 25 (Value.int .u64 0)).size:=by rw[Array.size_replicate];exact hj
 unfold dJ;rw[Array.append_assoc,Array.getElem?_append_left h1,Array.getElem?_eq_getElem h1,Array.getElem_replicate]
theorem EQ(j:Nat)(hj:j<136):dJ[25+j]? = some (.int .u8 0):=by
 have h1:j<(Array.replicate 136 (Value.int .u8 0)).size:=by rw[Array.size_replicate];exact hj
 unfold dJ;rw[Array.append_assoc,Array.getElem?_append_right (by rw[Array.size_replicate];omega),Array.size_replicate,Nat.add_sub_cancel_left,Array.getElem?_append_left h1,Array.getElem?_eq_getElem h1,Array.getElem_replicate]
theorem ER:dJ[161]? = some (.int .i64 0):=by
 unfold dJ;rw[Array.getElem?_append_right (by rw[Array.size_append,Array.size_replicate,Array.size_replicate];decide),Array.size_append,Array.size_replicate,Array.size_replicate];rfl
theorem CO(w:World)(t:TypeId):HSp (w.alloc (.cells dJ t)) w.heap.size S0:=by
 refine⟨fun j hj=>?_,fun j hj=>?_,?_,?_⟩
 ·have hj':j<25:=by simpa[S0,b8]using hj
  rw[World.cell?_alloc_new,World.frozen?_alloc_new,Nat.zero_add,ES j hj'];refine⟨?_,rfl⟩;have e:S0.d[j]! = 0:=fV j hj';rw[e];rfl
 ·have hj':j<136:=by simpa[S0]using hj
  rw[World.cell?_alloc_new,World.frozen?_alloc_new,EQ j hj'];refine⟨?_,rfl⟩;have e:S0.p[j]! = 0:=rep_at 136 j hj';rw[e];rfl
 ·rw[World.cell?_alloc_new,ER];rfl
 ·rw[World.frozen?_alloc_new]
theorem tM(a:Option Addr)(sb so len cap n:Nat)(bs:Bs)(w:World)(hn:n<=16384)(hl:bs.size=len)(hcap:len<=cap)(hbig:len<=1099511627776)(hsrc:len=0\/(a=some ⟨sb,so,none⟩/\Holds encB w sb so bs)):
 Calls prog 153 #[.slice a len cap,.int .i64 n] w fun e w'=>∃r,e=.returned (.tuple #[.slice (some ⟨r,0,none⟩) n n,.int .i64 0])/\w.heap.size<=r/\Below w.heap.size w w'/\Holds encB w' r 0 (nD bs.toList n):=by
 have hS0:=CO w 210;have hb0:Below w.heap.size w (w.alloc (.cells dJ 210)):=(Below.refl _ _).alloc (Nat.le_refl _) _;have hs0:w.heap.size<(w.alloc (.cells dJ 210)).heap.size:=by simp
 have hsrc':len=0\/(a=some ⟨sb,so,none⟩/\sb≠w.heap.size/\Holds encB (w.alloc (.cells dJ 210)) sb so bs):=by
  by_cases h0:len=0
  ·exact Or.inl h0
  ·rcases hsrc with h|⟨h1,h2⟩
   ·exact Or.inl h
   ·have hlt:=Holds.lt h2 (by omega);exact Or.inr ⟨h1,by omega,Holds.below h2 hb0 hlt⟩
 have d0:decide ((n:Int)<0)=false:=decide_eq_false (by omega);have d1:¬(16384:Int)<(n:Int):=by omega
 have zv:=Ew;go_enter Tryz.func153,Tryz.ntmps153;go_wp2_with fail
 generalize w.alloc (.cells dJ 210)=W1 at hS0 hb0 hs0 hsrc'⊢;refine(take_any w.heap.size S0 a sb so len cap bs W1 oS hS0 hl hcap hbig hsrc').mono ?_;rintro e w1 ⟨rfl,hO1,hS1⟩;go_wp2_with fail
 refine(C3 w.heap.size (dA S0 bs.toList) 31 w1 (eA oS _) hS1).mono ?_;rintro e w2 ⟨rfl,hO2,hS2⟩;have hD2:Holds enc w2 w.heap.size 0 (eS bs.toList 31):=hS2.d;clear hS2;go_wp2_with fail
 refine(F4 w.heap.size _ n _ (lH _ _) hD2 hn).mono ?_;rintro e w3 ⟨rfl,hO3,hF⟩;go_wp2
 go_ret2
 have s1:=hO1.size;have s2:=hO2.size;exact⟨w2.heap.size,rfl,by omega,(hb0.trans ((hO1.trans hO2).below (by omega) (Nat.le_refl _))).trans (hO3.below (by omega) (Nat.le_refl _)),hF⟩
end SP
namespace SP
open Go.RowKit Go.Sort Go.Deep
def Own(B:Nat)(w:World)(v:Value)(T:List UInt8):Prop:=
 ∃g cap cur,v=.slice (some ⟨g,0,none⟩) T.length cap/\B<=g/\g<w.heap.size/\Array.size cur=cap/\T.length<=cap/\Holds encB w g 0 cur/\∀j,j<T.length->cur[j]! = T[j]!
theorem Holds.front{α:Type}[Inhabited α]{f:α->Value}{w:World}{b o:Nat}{d e:Array α}(h:Holds f w b o d)(hs:e.size<=d.size)(he:∀j,j<e.size->e[j]! = d[j]!):Holds f w b o e:=by
 intro j hj;rw[he j hj];exact h j (by omega)
theorem kX(T:List UInt8)(j:Nat):T.toArray[j]! = T[j]!:=by
 by_cases h:j<T.length
 ·rw[getElem!_pos T.toArray j (by simpa using h),getElem!_pos T j h];simp
 ·rw[getElem!_neg T.toArray j (by simpa using h),getElem!_neg T j h]
theorem sL(a b:List UInt8)(j:Nat)(h:j<a.length):(a++b)[j]! = a[j]!:=by
 rw[getElem!_pos (a++b) j (by rw[List.length_append];omega),getElem!_pos a j h,List.getElem_append_left h]
theorem mI(a b:List UInt8)(j:Nat)(h:a.length<=j)(h2:j<a.length+b.length):(a++b)[j]! = b[j-a.length]!:=by
 rw[getElem!_pos (a++b) j (by rw[List.length_append];omega),getElem!_pos b (j-a.length) (by omega),List.getElem_append_right h]
variable {B:Nat}{w w1:World}{v:Value}{T:List UInt8}
theorem Own.holds{g cap n:Nat}(h:Own B w (.slice (some ⟨g,0,none⟩) n cap) T):B<=g/\n=T.length/\T.length<=cap/\Holds encB w g 0 T.toArray:=by
 obtain⟨g',cap',cur,hv,hg,_,hs,hl,hH,hT⟩:=h;injection hv with e1 e2 e3
 injection e1 with e1
 injection e1 with e1 _ _
 subst e1 e3;exact⟨hg,e2,hl,Holds.front hH (by simp;omega) (fun j hj=>by rw[kX];exact(hT j (by simpa using hj)).symm)⟩
theorem Own.below(h:Own B w v T)(k:Below w.heap.size w w1):Own B w1 v T:=by
 obtain⟨g,cap,cur,hv,hg,hgl,hs,hl,hH,hT⟩:=h;exact⟨g,cap,cur,hv,hg,Nat.lt_of_lt_of_le hgl k.size,hs,hl,Holds.below hH k hgl,hT⟩
theorem jZ(s:ByteArray)(hB:B<=w.heap.size):
 ∃v' w',(convert 9 22 (.string s)).run prog w=.ok v' w'/\Own B w' v' s.data.toList/\Below w.heap.size w w'/\v'=.slice (some ⟨w.heap.size,0,none⟩) s.size (grownCap w s.size 0 5):=by
 have h:=Lib.run_convert_string_bytes (P:=prog) w 9 22 5 s str9 slice22 int5;have hcap:s.size<=grownCap w s.size 0 5:=by
  unfold grownCap Question.cut;exact Nat.le_add_right _ _
 have hl:s.data.size=s.size:=rfl;refine⟨_,_,h,⟨w.heap.size,grownCap w s.size 0 5,s.data++Array.replicate (grownCap w s.size 0 5-s.size) 0,?_,hB,by rw[Lib.bytesWorld_size];omega,?_,?_,?_,?_⟩,?_,rfl⟩
 ·rw[Array.length_toList];rfl
 ·rw[Array.size_append,Array.size_replicate];omega
 ·rw[Array.length_toList];omega
 ·intro j hj;rw[Array.size_append,Array.size_replicate]at hj;have hb:=Lib.bytesWorld_at_new w 5 s;have hsz:(Lib.bytesCells w 5 s).size=grownCap w s.size 0 5:=by
   unfold Lib.bytesCells;rw[Array.size_append,Array.size_map,Array.size_replicate];omega
  have hc:(Lib.bytesCells w 5 s)=(s.data++Array.replicate (grownCap w s.size 0 5-s.size) 0).map encB:=by
   unfold Lib.bytesCells;rw[Array.map_append,Array.map_replicate];rfl
  have hj2:j<(s.data++Array.replicate (grownCap w s.size 0 5-s.size) 0).size:=by rw[Array.size_append,Array.size_replicate];exact hj
  constructor
  ·unfold World.cell?;rw[hb];simp only[Nat.zero_add];rw[if_neg (by decide),hc,Array.getElem?_map,Array.getElem?_eq_getElem hj2,Option.map_some,getElem!_pos _ j hj2]
  ·unfold World.frozen?;rw[hb];simp only[Nat.zero_add,hsz];simp;omega
 ·intro j hj;rw[Array.length_toList]at hj;rw[app_front _ _ j hj,getElem!_pos s.data.toList j (by rw[Array.length_toList];exact hj),Array.getElem_toList]
 ·refine⟨?_,?_,?_,?_,fun k hk=>Lib.bytesWorld_at_old w 5 s k hk⟩
  ·unfold Lib.bytesWorld World.freeze;rw[if_neg (by decide)];rfl
  ·unfold Lib.bytesWorld World.freeze;rw[if_neg (by decide)];rfl
  ·unfold Lib.bytesWorld World.freeze;rw[if_neg (by decide)];rfl
  ·rw[Lib.bytesWorld_size];omega
theorem Holds.below'{α:Type}[Inhabited α]{f:α->Value}{w w1:World}{b o:Nat}{d:Array α}(h:Holds f w b o d)(k:Below w.heap.size w w1):Holds f w1 b o d:=by
 intro j hj;have hlt:=Holds.lt h (by omega);exact Holds.below h k hlt j hj
theorem Bm(l:List UInt8):(uZ l).size=32:=by rw[uZ,aR]
end SP
namespace SP
open Go.RowKit Go.Sort Go.Deep
def cX(n d:Nat):UInt8:=UInt8.ofNat (n/d)
theorem gQ(n d:Nat):(n:Int)/(d:Int)%256=ub (cX n d):=by
 have e2:((n:Int)/(d:Int))=((n/d:Nat):Int):=by rw[Int.natCast_ediv]
 rw[e2];unfold ub cX;rw[UInt8.toNat_ofNat'];omega
theorem zD(n:Nat):(n:Int)%256=ub (cX n 1):=by
 have:=gQ n 1;rw[show((1:Nat):Int)=1 from rfl,Int.ediv_one]at this;exact this
def eO(l:List UInt8):List UInt8:=[cX l.length 16777216,cX l.length 65536,cX l.length 256,cX l.length 1]++l
theorem mJ(l:List UInt8):(eO l).length=l.length+4:=by
 unfold eO;rw[List.length_append];simp only[List.length_cons,List.length_nil];omega
theorem sN(w:World)(x y z t:UInt8):Holds encB (w.alloc (.cells #[.int .u8 (ub x),.int .u8 (ub y),.int .u8 (ub z),.int .u8 (ub t)] 5)) w.heap.size 0 #[x,y,z,t]:=by
 have h:=Holds.new (enc:=encB) w 5 #[x,y,z,t];have e:Array.map encB #[x,y,z,t]=#[.int .u8 (ub x),.int .u8 (ub y),.int .u8 (ub z),.int .u8 (ub t)]:=by simp[encB]
 rw[e]at h;exact h
theorem mE(b:Nat)(S:Sp)(a:Option Addr)(sb so len cap:Nat)(bs:Bs)(w:World)(hok:Ok S)(hS:HSp w b S)(hl:bs.size=len)(hcap:len<=cap)(hbig:len<=1099511627776)
 (hsrc:len=0\/(a=some ⟨sb,so,none⟩/\sb≠b/\Holds encB w sb so bs)) :
 Calls prog 155 #[.pointer (some ⟨b,0,none⟩),.slice a len cap] w fun e w'=>e=.returned (.tuple #[])/\Only b 0 162 w w'/\HSp w' b (dA S (eO bs.toList)):=by
 have hb:=hS.lt;have b0:(len:Int)/16777216%256=ub (cX len 16777216):=gQ len 16777216;have b1:(len:Int)/65536%256=ub (cX len 65536):=gQ len 65536;have b2:(len:Int)/256%256=ub (cX len 256):=gQ len 256;have b3:(len:Int)%256=ub (cX len 1):=zD len;have hF:Hid (eO bs.toList=(#[cX len 16777216,cX len 65536,cX len 256,cX len 1]:Bs).toList++bs.toList):=by
  unfold eO;rw[Array.length_toList,hl];rfl
 have h4:=sN w (cX len 16777216) (cX len 65536) (cX len 256) (cX len 1);generalize cX len 16777216=x0 at *;generalize cX len 65536=x1 at *;generalize cX len 256=x2 at *;generalize cX len 1=x3 at *;have hb0:Below w.heap.size w (w.alloc (.cells #[.int .u8 (ub x0),.int .u8 (ub x1),.int .u8 (ub x2),.int .u8 (ub x3)] 5)):=(Below.refl _ _).alloc (Nat.le_refl _) _;have hS1:=hS.below hb0 hb;have hO0:Only b 0 162 w (w.alloc (.cells #[.int .u8 (ub x0),.int .u8 (ub x1),.int .u8 (ub x2),.int .u8 (ub x3)] 5)):=Only.of_below hb0 rfl hb;have hsrc1:len=0\/(a=some ⟨sb,so,none⟩/\sb≠b/\Holds encB (w.alloc (.cells #[.int .u8 (ub x0),.int .u8 (ub x1),.int .u8 (ub x2),.int .u8 (ub x3)] 5)) sb so bs):=by
  by_cases h0:len=0
  ·exact Or.inl h0
  ·rcases hsrc with h|⟨h1,h2,h3⟩
   ·exact Or.inl h
   ·exact Or.inr ⟨h1,h2,Holds.below h3 hb0 (Holds.lt h3 (by omega))⟩
 clear hsrc;go_enter Tryz.func155,Tryz.ntmps155;go_wp2_with fail
 generalize w.alloc (.cells #[.int .u8 (ub x0),.int .u8 (ub x1),.int .u8 (ub x2),.int .u8 (ub x3)] 5)=W1 at h4 hb0 hS1 hO0 hsrc1⊢;refine(take_any b S (some ⟨w.heap.size,0,none⟩) w.heap.size 0 4 4 #[x0,x1,x2,x3] W1 hok hS1 rfl (Nat.le_refl _) (by decide) (Or.inr ⟨rfl,by omega,h4⟩)).mono ?_;rintro e w2 ⟨rfl,hO2,hS2⟩;have hsrc2:len=0\/(a=some ⟨sb,so,none⟩/\sb≠b/\Holds encB w2 sb so bs):=by
  by_cases h0:len=0
  ·exact Or.inl h0
  ·rcases hsrc1 with h|⟨h1,h2,h3⟩
   ·exact Or.inl h
   ·exact Or.inr ⟨h1,h2,Holds.other h3 hO2 h2 (by omega)⟩
 go_wp2_with fail
 refine(take_any b _ a sb so len cap bs w2 (eA hok _) hS2 hl hcap hbig hsrc2).mono ?_;rintro e w3 ⟨rfl,hO3,hS3⟩;go_wp2
 go_end0
 refine⟨rfl,(hO0.trans hO2).trans hO3,?_⟩;rw[hF.out,eB];exact hS3
theorem vL(s:ByteArray)(w:World)(hs:s.size<=1048576):
 Calls prog 99 #[.string s] w fun e w'=>∃o,e=.returned (.string o)/\o.data.toList=eO s.data.toList/\Below w.heap.size w w':=by
 have b0:(s.size:Int)/16777216%256=ub (cX s.size 16777216):=gQ s.size 16777216;have b1:(s.size:Int)/65536%256=ub (cX s.size 65536):=gQ s.size 65536;have b2:(s.size:Int)/256%256=ub (cX s.size 256):=gQ s.size 256;have b3:(s.size:Int)%256=ub (cX s.size 1):=zD s.size;have hF:Hid (eO s.data.toList=(#[cX s.size 16777216,cX s.size 65536,cX s.size 256,cX s.size 1]:Bs).toList++s.data.toList):=by
  unfold eO;rw[Array.length_toList];rfl
 have h4:=sN w (cX s.size 16777216) (cX s.size 65536) (cX s.size 256) (cX s.size 1);generalize cX s.size 16777216=x0 at *;generalize cX s.size 65536=x1 at *;generalize cX s.size 256=x2 at *;generalize cX s.size 1=x3 at *;have kc:=conv_str prog 22 9 5 slice22 int5 str9 _ w.heap.size 0 4 4 #[x0,x1,x2,x3] h4 rfl;have c0:(s.size:Int)/16777216=ub x0:=by omega
 have c1:(s.size:Int)/65536=ub x1:=by omega
 go_enter Tryz.func99,Tryz.ntmps99;go_wp2;go_ret;refine⟨_,rfl,?_,(Below.refl _ _).alloc (Nat.le_refl _) _⟩;rw[hF.out,ByteArray.data_append,Array.toList_append]
end SP
namespace SP
open Go.RowKit Go.Sort Go.Deep
def bV(label:List UInt8)(ps:List (List UInt8)):List UInt8:=eO label++ps.flatMap eO
def jN(label:List UInt8)(ps:List (List UInt8)):Bs:=uZ (bV label ps)
theorem dW(label:List UInt8)(ps:List (List UInt8)):(jN label ps).size=32:=Bm _
theorem oI(label:List UInt8)(ps:List (List UInt8))(x:List UInt8):bV label (ps++[x])=bV label ps++eO x:=by
 unfold bV;rw[List.flatMap_append,<-List.append_assoc];simp
def PartOk(w:World)(v:Value)(x:List UInt8):Prop:=
 ∃a sb so cap bs,v=.slice a (Array.size bs) cap/\bs.toList=x/\bs.size<=cap/\bs.size<=1099511627776/\(bs.size=0\/(a=some ⟨sb,so,none⟩/\Holds encB w sb so bs))
theorem PartOk.below{w w1:World}{v:Value}{x:List UInt8}(h:PartOk w v x)(k:Below w.heap.size w w1):PartOk w1 v x:=by
 obtain⟨a,sb,so,cap,bs,h1,h2,h3,h4,h5⟩:=h;refine⟨a,sb,so,cap,bs,h1,h2,h3,h4,?_⟩;rcases h5 with h5|⟨h5,h6⟩
 ·exact Or.inl h5
 ·exact Or.inr ⟨h5,Holds.below' h6 k⟩
def PartsOk(w:World)(pa:Option Addr)(ps:List (List UInt8)):Prop:=
 ps.length=0\/∃pb po,pa=some ⟨pb,po,none⟩/\∀j,j<ps.length->∃v,w.cell? ⟨pb,po+j,none⟩=some v/\PartOk w v ps[j]!
theorem PartsOk.below{w w1:World}{pa:Option Addr}{ps:List (List UInt8)}(h:PartsOk w pa ps)(k:Below w.heap.size w w1):PartsOk w1 pa ps:=by
 rcases h with h|⟨pb,po,h1,h2⟩
 ·exact Or.inl h
 ·refine Or.inr ⟨pb,po,h1,fun j hj=>?_⟩;obtain⟨v,h3,h4⟩:=h2 j hj;exact⟨v,by rw[k.cell (p:=⟨pb,po+j,none⟩) (World.block_lt_of_cell? _ _ h3)];exact h3,h4.below k⟩
theorem wV(label:List UInt8)(ps:List (List UInt8))(k:Nat):(bV label (ps.take k)).length<=(bV label ps).length:=by
 have e:bV label ps=bV label (ps.take k)++(ps.drop k).flatMap eO:=by
  unfold bV;rw[List.append_assoc,<-List.flatMap_append,List.take_append_drop]
 rw[e,List.length_append];omega
theorem kE{α:Type}[Inhabited α](l:List α)(k:Nat)(h:k<l.length):l.take (k+1)=l.take k++[l[k]!]:=by
 rw[List.take_succ_eq_append_getElem h,getElem!_pos l k h]
theorem qZ(label:ByteArray)(pa:Option Addr)(pcap:Nat)(ps:List (List UInt8))(w:World)(hlab:label.size<=1048576)(hpl:ps.length<=1048576)(hP:PartsOk w pa ps):
 Calls prog 126 #[.string label,.slice pa ps.length pcap] w fun e w'=>∃r,e=.returned (.slice (some ⟨r,0,none⟩) 32 32)/\w.heap.size<=r/\Below w.heap.size w w'/\Holds encB w' r 0 (jN label.data.toList ps):=by
 have hS0:=CO w 210;have hb0:Below w.heap.size w (w.alloc (.cells dJ 210)):=(Below.refl _ _).alloc (Nat.le_refl _) _;have hs0:(w.alloc (.cells dJ 210)).heap.size=w.heap.size+1:=by simp
 have zv:=Ew;generalize hW1:w.alloc (.cells dJ 210)=W1 at hS0 hb0 hs0;obtain⟨v2,W2,hcv,own2,hb2,hv2⟩:=jZ (w:=W1) (B:=0) label (Nat.zero_le _);rw[hv2]at hcv own2;obtain⟨hq0,hq1,hle2,hH2⟩:=own2.holds;rw[<-hq1]at hle2;clear hq0 hq1;have hH2':Holds encB W2 W1.heap.size 0 label.data:=by simpa using hH2
 have hS2:=hS0.below hb2 hS0.lt;have hsz2:=hb2.size;obtain⟨n,hn⟩:∃n,ps.length=n:=⟨_,rfl⟩
 rw[hn];have Hn:Hid (ps.length=n):=hn;have hn20:n<=1048576:=by omega
 rw[hs0]at hcv hH2';generalize hc2:grownCap W1 label.size 0 5=c2 at *;clear own2 hv2 hH2 hn hc2;have hcv':(convert 9 22 (.string label)).run prog (w.alloc (.cells dJ 210))=.ok (.slice (some ⟨w.heap.size+1,0,none⟩) label.size c2) W2:=by rw[hW1];exact hcv
 clear hW1 hcv;go_enter Tryz.func126,Tryz.ntmps126;go_wp2_with fail
 refine(mE w.heap.size S0 (some ⟨w.heap.size+1,0,none⟩) (w.heap.size+1) 0 label.size c2 label.data W2 oS hS2 rfl (by omega) (by omega) (Or.inr ⟨rfl,by omega,hH2'⟩)).mono ?_;rintro e w3 ⟨rfl,hO3,hS3⟩;have hb3:Below w.heap.size w w3:=(hb0.trans (hb2.mono (by omega))).trans (hO3.below (by omega) (Nat.le_refl _));have hz3:w.heap.size<w3.heap.size:=hS3.lt;clear hcv' hH2' hO3 zv hS2;go_wp2;go_loopg [13] n (fun g s13 wr=>∃(k:Nat) (Sk:Sp),k+g=n/\s13=.int .i64 k/\HSp wr w.heap.size Sk/\Below w.heap.size w wr/\Ok Sk/\Hid (Sk=dA S0 (bV label.data.toList (ps.take k))))
 case atStart =>
  refine⟨0,_,by omega,rfl,hS3,hb3,eA oS _,?_⟩;rw[List.take_zero];unfold bV;rw[List.flatMap_nil,List.append_nil];rfl
 case round =>
  clear hS3 hb3 hz3;obtain⟨k,Sk,hk,rfl,hSk,hb,hok,HE⟩:=hrel;by_cases hlt:k<n
  ·obtain⟨pb,po,rfl,hPj⟩:∃pb po,pa=some ⟨pb,po,none⟩/\∀j,j<ps.length->∃v,w.cell? ⟨pb,po+j,none⟩=some v/\PartOk w v ps[j]!:=by
    rcases hP with h|h
    ·have:=Hn.out;omega
    ·exact h
   obtain⟨v,hvc,hvp⟩:=hPj k (by have:=Hn.out;omega);have hpb:=World.block_lt_of_cell? _ _ hvc;have hvc':wr.cell? ⟨pb,po+k,none⟩=some v:=by rw[hb.cell (p:=⟨pb,po+k,none⟩) hpb];exact hvc
   obtain⟨a,sb,so,cap,bs,rfl,hbl,hbc,hbb,hsrc⟩:=hvp;have hsrc':bs.size=0\/(a=some ⟨sb,so,none⟩/\sb≠w.heap.size/\Holds encB wr sb so bs):=by
    by_cases h0:bs.size=0
    ·exact Or.inl h0
    ·rcases hsrc with h|⟨h1,h2⟩
     ·exact Or.inl h
     ·have:=Holds.lt h2 (by omega);exact Or.inr ⟨h1,by omega,Holds.below h2 hb this⟩
   have HB:Hid (bs.toList=ps[k]!):=hbl;have l1:(k:Int)<(n:Int):=by omega
   generalize hbz:bs.size=bz at *;clear hvc hsrc hPj hbl;go_wp2_with fail
   refine(mE w.heap.size Sk a sb so bz cap bs wr hok hSk hbz hbc hbb hsrc').mono ?_;rintro e w4 ⟨rfl,hO4,hS4⟩;go_wp2;go_roundg (gk-1)
   case measure=>omega
   case rel =>
    refine⟨k+1,_,by omega,by go_num,hS4,hb.trans (hO4.below hb.size (Nat.le_refl _)),eA hok _,?_⟩;rw[kE ps k (by have:=Hn.out;omega),oI,eB,<-HE.out,HB.out];rfl
  ·have hkn:k=n:=by omega
   have l1:(n:Int)<=(k:Int):=by omega
   have HE2:Hid (Sk=dA S0 (bV label.data.toList ps)):=by
    have e1:ps.take k=ps:=List.take_of_length_le (by have:=Hn.out;omega);rw[e1]at HE;exact HE
   clear HE;go_wp2_with fail
   refine(C3 w.heap.size Sk 6 wr hok hSk).mono ?_;rintro e w5 ⟨rfl,hO5,hS5⟩;have hD5:Holds enc w5 w.heap.size 0 (eS (bV label.data.toList ps) 6):=by
    have:=hS5.d;rw[HE2.out]at this;exact this
   clear hS5;go_wp2_with fail
   refine(pK w.heap.size 0 32 _ _ (lH _ _) hD5 (by decide)).mono ?_;rintro e w6 ⟨rfl,hb6,hF6⟩;have hs5:=hO5.size;have hs4:=hb.size;go_wp2;go_ret;exact⟨w5.heap.size,rfl,by omega,(hb.trans (hO5.below hb.size (Nat.le_refl _))).trans (hb6.mono (by omega)),hF6⟩
end SP
namespace SP
open Go.RowKit Go.Sort Go.Deep
variable {B:Nat}{w w1:World}{v:Value}{T:List UInt8}
set_option maxRecDepth 4000
theorem tJ{r c:Nat}{xs:Bs}(h:Own B w v T)(hX:Holds encB w r 0 xs)(hB:B<=w.heap.size)(hbig:T.length+xs.size<=1099511627776)(k:Nat)(hk:k=xs.size):
 ∃v' w',(Builtin.append_ #[22,22] 22 #[v,.slice (some ⟨r,0,none⟩) k c]).run prog w=.ok v' w'/\Own B w' v' (T++xs.toList)/\Below B w w':=by
 subst hk;obtain⟨g,cap,cur,rfl,hg,hgl,hs,hl,hH,hTc⟩:=h;obtain⟨i,hi,hz,hsz,hby⟩:=info_parts info5;have hxl0:xs.toList.length=xs.size:=Array.length_toList;have hlen:(T++xs.toList).length=T.length+xs.size:=by rw[List.length_append,hxl0]
 by_cases hroom:T.length+xs.size<=cap
 ·have hap:=lF (l:=T.length) (k:=xs.size) (n:=xs.size) (c:=c) hH hs hX rfl rfl hroom 22;have hH3:=eF hH T.length xs.toList (by rw[hxl0];omega);rw[Nat.zero_add]at hH3;refine⟨_,_,hap,⟨g,cap,splice cur T.length xs.toList,by rw[hlen],hg,Nat.lt_of_lt_of_le hgl (below_setCells (B:=0) (b:=g) (Nat.zero_le _) _ _ _ (Below.refl 0 w)).size,by rw[cI,hs],by omega,hH3,fun j hj=>?_⟩,?_⟩
  ·rw[hlen]at hj;rw[eM _ _ _ _ (by rw[hxl0];omega) (by omega),hxl0];by_cases h1:j<T.length
   ·rw[if_neg (by omega),sL _ _ _ h1,hTc j h1]
   ·rw[if_pos (by omega),mI _ _ _ (by omega) (by rw[hxl0];omega)]
  ·exact below_setCells hg _ _ _ (Below.refl _ _)
 ·have hold:(Builtin.firstCells i.size T.length (.slice (some ⟨g,0,none⟩) T.length cap)).run prog w.drew=.ok (T.map encB).toArray w.drew:=by
   rw[hsz];refine run_firstCells_some w.drew 1 T.length ⟨g,0,none⟩ T.length cap (T.map encB) (by rw[List.length_map,Nat.mul_one]) (fun j u hj=>?_);obtain⟨h1,h2⟩:=List.getElem?_eq_some_iff.1 hj;rw[List.length_map]at h1;have hc:=(hH j (by omega)).1;rw[hTc j h1,getElem!_pos T j h1]at hc;rw[List.getElem_map]at h2;have e1:(⟨g,0,none⟩:Addr).add j=⟨g,0+j,none⟩:=by
    unfold Addr.add;by_cases h0:j=0
    ·subst h0;rw[if_pos rfl]
    ·rw[if_neg h0]
   rw[e1,World.cell?_drew,hc,h2]
  have hxl:(xs.toList.map encB).length=xs.size:=by rw[List.length_map,hxl0]
  have hsrc:Src prog i.size 22 (.slice (some ⟨r,0,none⟩) xs.size c) xs.size (xs.toList.map encB) w:=by
   rw[hsz];refine Src.ofSlice w slice22 ⟨r,0,none⟩ xs.size c _ (by rw[hxl,Nat.mul_one]) (fun j u hj=>?_) (fun u hu=>?_)
   ·obtain⟨h1,h2⟩:=List.getElem?_eq_some_iff.1 hj;rw[hxl]at h1;have hc:=(hX j (by omega)).1;rw[getElem!_pos xs j (by omega)]at hc;rw[List.getElem_map,Array.getElem_toList]at h2;have e1:(⟨r,0,none⟩:Addr).add j=⟨r,0+j,none⟩:=by
     unfold Addr.add;by_cases h0:j=0
     ·subst h0;rw[if_pos rfl]
     ·rw[if_neg h0]
    rw[e1,hc,h2]
   ·obtain⟨x,_,rfl⟩:=List.mem_map.1 hu;rfl
  have hnc:Builtin.nextslicecap (T.length+xs.size) cap<=2*(T.length+xs.size)+768:=by
   unfold Builtin.nextslicecap;split
   ·omega
   ·split
    ·omega
    ·simp only[Builtin.growBy];repeat' split
     all_goals omega
  have hap:=run_append_grow_src (P:=prog) w 22 22 22 5 i (.int .u8 0) slice22 hi hz (some ⟨g,0,none⟩) T.length cap (T.map encB) hold _ xs.size (xs.toList.map encB) hsrc (by omega) (by omega) (by rw[hby];omega);generalize hG:grownCap w (T.length+xs.size) cap 5=G at hap;have hGl:T.length+xs.size<=G:=by
   rw[<-hG];unfold grownCap Question.cut;exact Nat.le_add_right _ _
  have hcells:(T.map encB++xs.toList.map encB).toArray++Builtin.zeroCells (Value.int .u8 0).cells (G-(T.length+xs.size))=((T++xs.toList).toArray++Array.replicate (G-(T.length+xs.size)) (0:UInt8)).map encB:=by
   rw[Array.map_append,Array.map_replicate,<-List.map_append]
   congr 1
   ·simp
   ·unfold Builtin.zeroCells;have e:(Value.int .u8 0).cells=#[Value.int .u8 0]:=rfl;rw[e];apply Array.ext
    ·simp
    ·intro k h1 h2;simp[Nat.mod_one];rfl
  rw[hcells]at hap;refine⟨_,_,hap,⟨w.heap.size,G,(T++xs.toList).toArray++Array.replicate (G-(T.length+xs.size)) 0,by rw[hlen],hB,by simp,?_,by omega,?_,fun j hj=>?_⟩,?_⟩
  ·rw[Array.size_append,Array.size_replicate,List.size_toArray,hlen];omega
  ·exact Holds.new (enc:=encB) w.drew 5 _
  ·rw[app_front _ _ j (by simpa using hj)];rw[getElem!_pos (T++xs.toList) j hj];simp
  ·exact((Below.refl B w).drew).alloc (by exact hB) _
end SP
namespace SP
open Go.RowKit Go.Sort Go.Deep
theorem Gq{w:World}{b r:Nat}{L T:Bs}(hL:Holds encB w b 0 L)(hl:L.size=32)(hT:Holds encB w r 0 T)(ht:T.size=32):
 (Builtin.copy_ #[22,22] 3 #[.slice (some ⟨b,0,none⟩) 32 32,.slice (some ⟨r,0,none⟩) 32 32]).run prog w=.ok (goInt 32) (w.setCells b 0 (T.toList.map encB)):=by
 have hlen:(T.toList.map encB).length=32:=by rw[List.length_map,Array.length_toList,ht]
 have:=run_copy_cells (P:=prog) w 22 22 3 5 b 0 32 32 ⟨r,0,none⟩ 32 32 (T.toList.map encB) slice22 ints5 (by rw[hlen];rfl)
  (fun j u hj=>by
   obtain⟨h1,h2⟩:=List.getElem?_eq_some_iff.1 hj;rw[hlen]at h1;have hc:=(hT j (by omega)).1;rw[getElem!_pos T j (by omega)]at hc;rw[List.getElem_map,Array.getElem_toList]at h2;have e1:(⟨r,0,none⟩:Addr).add j=⟨r,0+j,none⟩:=by
    unfold Addr.add;by_cases h0:j=0
    ·subst h0;rw[if_pos rfl]
    ·rw[if_neg h0]
   rw[e1,hc,h2])
  (fun j hj=>by rw[(hL j (by omega)).1];rfl) (fun j hj=>(hL j (by omega)).2)
  (fun u hu=>by obtain⟨x,_,rfl⟩:=List.mem_map.1 hu;rfl)
 rw[hlen]at this;exact this
theorem wT{w:World}{b:Nat}{L T:Bs}(hL:Holds encB w b 0 L)(hl:L.size=32)(ht:T.size=32):Holds encB (w.setCells b 0 (T.toList.map encB)) b 0 T:=by
 have hlen:(T.toList.map encB).length=32:=by rw[List.length_map,Array.length_toList,ht]
 refine Holds.setCells hL (T.toList.map encB) 0 (by omega) (by omega) (fun j hj=>?_) (fun j h1 h2=>by omega);rw[hlen]at hj;rw[List.getElem_map,Array.getElem_toList,Nat.zero_add,getElem!_pos T j (by omega)]
theorem BQ{w w2:World}{b:Nat}{L T:Bs}(hL:Holds encB w b 0 L)(hl:L.size=32)(ht:T.size=32)(hb:b<w.heap.size)(hb2:Below w.drew.heap.size w.drew w2):
 Only b 0 32 w (w2.setCells b 0 (T.toList.map encB))/\Holds encB (w2.setCells b 0 (T.toList.map encB)) b 0 T:=by
 have hlen:(T.toList.map encB).length=32:=by rw[List.length_map,Array.length_toList,ht]
 refine⟨?_,wT (Holds.below (Holds.drew hL) hb2 hb) hl ht⟩;exact Only.setCells (((Only.refl b 0 32 w).drew).trans (Only.of_below hb2 rfl hb)) _ 0 (Nat.le_refl _) (by omega)
theorem m4(b:Nat)(L:Bs)(label:ByteArray)(pa:Option Addr)(pcap n:Nat)(ps:List (List UInt8))(w:World)(hlab:label.size<=1048576)(hpl:ps.length=n)(hn:n<=1048576)(hP:PartsOk w pa ps)(hL:Holds encB w b 0 L)(hl:L.size=32):
 Calls prog 159 #[.pointer (some ⟨b,0,none⟩),.string label,.slice pa n pcap] w fun e w'=>e=.returned (.tuple #[])/\Only b 0 32 w w'/\Holds encB w' b 0 (jN label.data.toList ps):=by
 subst hpl;have hb:=Holds.lt hL (by omega);have ht:=qZ label pa pcap ps w.drew hlab hn (hP.below ((Below.refl _ _).drew));generalize hT:jN label.data.toList ps=T at ht⊢;have hTs:T.size=32:=by rw[<-hT,dW]
 have HT:Hid (Calls prog 126 #[.string label,.slice pa ps.length pcap] w.drew fun e w'=>∃r,e=.returned (.slice (some ⟨r,0,none⟩) 32 32)/\w.drew.heap.size<=r/\Below w.drew.heap.size w.drew w'/\Holds encB w' r 0 T):=ht;generalize ps.length=n at *;clear hT ht hP;go_enter Tryz.func159,Tryz.ntmps159;go_wp2;go_region_with (go_at_call 126;refine Calls.mono HT.out ?_;rintro e w2 ⟨r2,rfl,hr2,hb2,hH2⟩;have hcp:=Gq (Holds.below (Holds.drew hL) hb2 hb) hl hH2 hTs;have hfin:=BQ hL hl hTs hb hb2)
 all_goals (try go_wp2)
 all_goals go_end0
 all_goals exact⟨rfl,hfin⟩
end SP
namespace SP
open Go.RowKit Go.Sort Go.Deep
def encV(v:Value):Value:=v
theorem uE(l:List UInt8)(n:Nat):(nD l n).size=n:=by rw[nD,eD]
def newL(label:List UInt8):Bs:=jN [108,111,103] [label]
def kK(L:Bs)(label text:List UInt8):Bs:=jN [115,97,121] [L.toList,label,text]
def Aj(L:Bs)(label:List UInt8)(n:Nat):Bs:=nD (jN [97,115,107] [L.toList,label]).toList n
def Mi(L:Bs)(label:List UInt8):Bs:=jN [97,115,107,101,100] [L.toList,label]
theorem uX(l:List UInt8):(newL l).size=32:=dW _ _
theorem jB(L:Bs)(l t:List UInt8):(kK L l t).size=32:=dW _ _
theorem En(L:Bs)(l:List UInt8)(n:Nat):(Aj L l n).size=n:=uE _ _
theorem lX(s:ByteArray)(w:World)(hs:s.size<=1099511627776):
 ∃c w',(convert 9 22 (.string s)).run prog w=.ok (.slice (some ⟨w.heap.size,0,none⟩) s.size c) w'/\s.size<=c/\Holds encB w' w.heap.size 0 s.data/\PartOk w' (.slice (some ⟨w.heap.size,0,none⟩) s.size c) s.data.toList/\Below w.heap.size w w'/\w.heap.size<w'.heap.size:=by
 obtain⟨v2,W2,hcv,own2,hb2,hv2⟩:=jZ (w:=w) (B:=0) s (Nat.zero_le _);rw[hv2]at hcv own2;have hlt:w.heap.size<W2.heap.size:=by
  obtain⟨g,cap,cur,h1,_,h3,_⟩:=own2;injection h1 with h1
  injection h1 with h1
  injection h1 with h1
  omega
 obtain⟨hq0,hq1,hle2,hH2⟩:=own2.holds;rw[<-hq1]at hle2;have hH2':Holds encB W2 w.heap.size 0 s.data:=by simpa using hH2
 have hle:s.size<=grownCap w s.size 0 5:=hle2;exact⟨_,W2,hcv,hle,hH2',⟨_,w.heap.size,0,_,s.data,rfl,rfl,hle,hs,Or.inr ⟨rfl,hH2'⟩⟩,hb2,hlt⟩
theorem lS(W:World)(vs:Array Value)(ps:List (List UInt8))(t:TypeId)(hl:vs.size=ps.length)(h:∀j,j<ps.length->PartOk W vs[j]! ps[j]!):
 PartsOk (W.alloc (.cells vs t)) (some ⟨W.heap.size,0,none⟩) ps:=by
 refine Or.inr ⟨W.heap.size,0,rfl,fun j hj=>⟨vs[j]!,?_,(h j hj).below ((Below.refl _ _).alloc (Nat.le_refl _) _)⟩⟩;have e0:vs.map encV=vs:=by
  have:encV=id:=rfl;rw[this,Array.map_id]
 have:=(Holds.new (enc:=encV) W t vs j (by omega)).1;rw[e0]at this;exact this
theorem rW{w:World}{b:Nat}{L:Bs}(hL:Holds encB w b 0 L)(hl:L.size=32):PartOk w (.slice (some ⟨b,0,none⟩) 32 32) L.toList:=
 ⟨_,b,0,32,L,by rw[hl],rfl,by omega,by omega,Or.inr ⟨rfl,hL⟩⟩
theorem Hd:∀w:World,(zeroValue 217).run prog w=.ok (.agg (Array.replicate 32 (.int .u8 0))) w:=fun _=>by kernel_rfl
theorem B8(label:ByteArray)(w:World)(hlab:label.size<=1048576):
 Calls prog 158 #[.string label] w fun e w'=>e=.returned (.pointer (some ⟨w.heap.size,0,none⟩))/\Below w.heap.size w w'/\Holds encB w' w.heap.size 0 (newL label.data.toList):=by
 have zv:=Hd;have hH0:Holds encB (w.alloc (.cells (Array.replicate 32 (.int .u8 0)) 217)) w.heap.size 0 (Array.replicate 32 0):=by
  have:=Holds.new (enc:=encB) w 217 (Array.replicate 32 0);rw[Array.map_replicate]at this;exact this
 have hb0:Below w.heap.size w (w.alloc (.cells (Array.replicate 32 (.int .u8 0)) 217)):=(Below.refl _ _).alloc (Nat.le_refl _) _;have hs0:(w.alloc (.cells (Array.replicate 32 (.int .u8 0)) 217)).heap.size=w.heap.size+1:=by simp
 obtain⟨c,W1,hcv,hc,hH1,hP1,hb1,hlt1⟩:=lX label (w.alloc (.cells (Array.replicate 32 (.int .u8 0)) 217)) (by omega);have hH01:=Holds.below' hH0 hb1;have hPs:=lS W1 #[.slice (some ⟨(w.alloc (.cells (Array.replicate 32 (.int .u8 0)) 217)).heap.size,0,none⟩) label.size c] [label.data.toList] 22 rfl (fun j hj=>by
  have hj0:j=0:=by simpa using hj
  subst hj0;exact hP1)
 have hb2:Below W1.heap.size W1 (W1.alloc (.cells #[.slice (some ⟨(w.alloc (.cells (Array.replicate 32 (.int .u8 0)) 217)).heap.size,0,none⟩) label.size c] 22)):=(Below.refl _ _).alloc (Nat.le_refl _) _;have hH02:=Holds.below' hH01 hb2;rw[hs0]at hcv hPs hb2 hH02 hlt1;have hb3:Below w.heap.size w (W1.alloc (.cells #[.slice (some ⟨w.heap.size+1,0,none⟩) label.size c] 22)):=(hb0.trans (hb1.mono (by omega))).trans (hb2.mono (by omega));clear hH0 hb0 hH1 hP1 hb1 hH01 hs0;go_enter Tryz.func158,Tryz.ntmps158;go_wp2_with fail
 refine(m4 w.heap.size (Array.replicate 32 0) ⟨#[108,111,103]⟩ (some ⟨W1.heap.size,0,none⟩) 1 1 [label.data.toList] _ (by decide) rfl (by decide) hPs hH02 (by simp)).mono ?_;rintro e w4 ⟨rfl,hO4,hH4⟩;go_wp2;go_ret;exact⟨rfl,hb3.trans (hO4.below hb3.size (Nat.le_refl _)),hH4⟩
end SP
namespace SP
open Go.RowKit Go.Sort Go.Deep
theorem fC(b:Nat)(L:Bs)(label:ByteArray)(ta:Option Addr)(tl tc:Nat)(text:List UInt8)(w:World)(hlab:label.size<=1048576)(hL:Holds encB w b 0 L)(hl:L.size=32)(hT:PartOk w (.slice ta tl tc) text):
 Calls prog 128 #[.pointer (some ⟨b,0,none⟩),.string label,.slice ta tl tc] w fun e w'=>e=.returned (.tuple #[])/\Only b 0 32 w w'/\Holds encB w' b 0 (kK L label.data.toList text):=by
 have hb:=Holds.lt hL (by omega);obtain⟨c,W1,hcv,hc,hH1,hP1,hb1,hlt1⟩:=lX label w (by omega);have hL1:=Holds.below hL hb1 hb;have hT1:=hT.below hb1;have hPs:=lS W1 #[.slice (some ⟨b,0,none⟩) 32 32,.slice (some ⟨w.heap.size,0,none⟩) label.size c,.slice ta tl tc] [L.toList,label.data.toList,text] 22 rfl (fun j hj=>by
  have hj3:j<3:=hj;match j,hj3 with
  | 0,_=>exact rW hL1 hl
  | 1,_=>exact hP1
  | 2,_=>exact hT1)
 have hb2:Below W1.heap.size W1 (W1.alloc (.cells #[.slice (some ⟨b,0,none⟩) 32 32,.slice (some ⟨w.heap.size,0,none⟩) label.size c,.slice ta tl tc] 22)):=(Below.refl _ _).alloc (Nat.le_refl _) _;have hL2:=Holds.below' hL1 hb2;have hO2:Only b 0 32 w (W1.alloc (.cells #[.slice (some ⟨b,0,none⟩) 32 32,.slice (some ⟨w.heap.size,0,none⟩) label.size c,.slice ta tl tc] 22)):=(Only.of_below hb1 rfl hb).alloc (by omega) _;clear hH1 hP1 hT1 hT hb2;go_enter Tryz.func128,Tryz.ntmps128;go_wp2_with fail
 refine(m4 b L ⟨#[115,97,121]⟩ (some ⟨W1.heap.size,0,none⟩) 3 3 [L.toList,label.data.toList,text] _ (by decide) rfl (by decide) hPs hL2 hl).mono ?_;rintro e w4 ⟨rfl,hO4,hH4⟩;go_wp2
 go_end0
 exact⟨rfl,hO2.trans hO4,hH4⟩
theorem JR(b:Nat)(L:Bs)(label:ByteArray)(n:Nat)(w:World)(hlab:label.size<=1048576)(hn:n<=1024)(hL:Holds encB w b 0 L)(hl:L.size=32):
 Calls prog 173 #[.pointer (some ⟨b,0,none⟩),.string label,.int .i64 n] w fun e w'=>∃r,e=.returned (.tuple #[.slice (some ⟨r,0,none⟩) n n,.int .i64 0])/\w.heap.size<=r/\Only b 0 32 w w'/\Holds encB w' b 0 (Mi L label.data.toList)/\Holds encB w' r 0 (Aj L label.data.toList n):=by
 have hb:=Holds.lt hL (by omega);obtain⟨c,W1,hcv,hc,hH1,hP1,hb1,hlt1⟩:=lX label w (by omega);have hL1:=Holds.below hL hb1 hb;have hPs:=lS W1 #[.slice (some ⟨b,0,none⟩) 32 32,.slice (some ⟨w.heap.size,0,none⟩) label.size c] [L.toList,label.data.toList] 22 rfl (fun j hj=>by
  have hj3:j<2:=hj;match j,hj3 with
  | 0,_=>exact rW hL1 hl
  | 1,_=>exact hP1)
 have hb2:Below W1.heap.size W1 (W1.alloc (.cells #[.slice (some ⟨b,0,none⟩) 32 32,.slice (some ⟨w.heap.size,0,none⟩) label.size c] 22)):=(Below.refl _ _).alloc (Nat.le_refl _) _;have hL2:=Holds.below' hL1 hb2;have hO2:Only b 0 32 w (W1.alloc (.cells #[.slice (some ⟨b,0,none⟩) 32 32,.slice (some ⟨w.heap.size,0,none⟩) label.size c] 22)):=(Only.of_below hb1 rfl hb).alloc (by omega) _;have d0:decide ((n:Int)<0)=false:=decide_eq_false (by omega);have d1:¬(1024:Int)<(n:Int):=by omega
 clear hH1 hP1 hb2;go_enter Tryz.func173,Tryz.ntmps173;go_wp2_with fail
 refine(qZ ⟨#[97,115,107]⟩ (some ⟨W1.heap.size,0,none⟩) 2 [L.toList,label.data.toList] _ (by decide) (by show 2<=1048576;omega) hPs).mono ?_;rintro e w3 ⟨r3,rfl,hr3,hb3,hH3⟩;have hL3:=Holds.below' hL2 hb3;have hO3:=hO2.trans (Only.of_below hb3 rfl (Nat.lt_of_lt_of_le hb hO2.size));clear hPs hL2 hL1;go_wp2_with fail
 refine(tM (some ⟨r3,0,none⟩) r3 0 32 32 n _ _ (by omega) (dW _ _) (by omega) (by omega) (Or.inr ⟨rfl,hH3⟩)).mono ?_;rintro e w4 ⟨r4,rfl,hr4,hb4,hH4⟩;have hL4:=Holds.below' hL3 hb4;have hs3:=hO3.size;have hO4:=hO3.trans (Only.of_below hb4 rfl (by omega));have hA4:Holds encB w4 r4 0 (Aj L label.data.toList n):=hH4;have hs4:=hO4.size;obtain⟨c5,W5,hcv5,hc5,hH5,hP5,hb5,hlt5⟩:=lX label w4 (by omega);have hL5:=Holds.below' hL4 hb5;have hA5:=Holds.below' hA4 hb5;have hPs5:=lS W5 #[.slice (some ⟨b,0,none⟩) 32 32,.slice (some ⟨w4.heap.size,0,none⟩) label.size c5] [L.toList,label.data.toList] 22 rfl (fun j hj=>by
  have hj3:j<2:=hj;match j,hj3 with
  | 0,_=>exact rW hL5 hl
  | 1,_=>exact hP5)
 have hb6:Below W5.heap.size W5 (W5.alloc (.cells #[.slice (some ⟨b,0,none⟩) 32 32,.slice (some ⟨w4.heap.size,0,none⟩) label.size c5] 22)):=(Below.refl _ _).alloc (Nat.le_refl _) _;have hL6:=Holds.below' hL5 hb6;have hA6:=Holds.below' hA5 hb6;have hO6:Only b 0 32 w (W5.alloc (.cells #[.slice (some ⟨b,0,none⟩) 32 32,.slice (some ⟨w4.heap.size,0,none⟩) label.size c5] 22)):=hO4.trans ((Only.of_below hb5 rfl (by omega)).alloc (by omega) _);clear hH5 hP5 hH4 hA4 hA5 hL4 hL5 hH3 hcv hb6 hL3;go_wp2_with fail
 refine(m4 b L ⟨#[97,115,107,101,100]⟩ (some ⟨W5.heap.size,0,none⟩) 2 2 [L.toList,label.data.toList] _ (by decide) rfl (by decide) hPs5 hL6 hl).mono ?_;rintro e w7 ⟨rfl,hO7,hH7⟩;clear hPs5;have hA7:Holds encB w7 r4 0 (Aj L label.data.toList n):=by
  intro j hj;have h1:=hA6 j hj;have h2:=World.block_lt_of_cell? _ _ h1.1;have h3:=hO7.other (c:=r4) (o:=0+j) (by omega) h2;rw[h3.1,h3.2];exact h1
 go_wp2
 go_ret2
 exact⟨r4,rfl,by omega,hO6.trans hO7,hH7,hA7⟩
end SP
section
open Go.RowKit Go.Sort Go.Deep
variable {P:Nat}[NeZero P]{N:Nat}
theorem iL{w W:World}{k0 k1 g0 g1 g2:Nat}(h:Kept w k0 [⟨k0,0,g0,g1,g2,0⟩,⟨k1,0,0,0,0,0⟩] W):W.cell? ⟨k0,0,none⟩=some (.int .u64 g0)/\W.cell? ⟨k0,1,none⟩=some (.int .u64 g1)/\W.cell? ⟨k0,2,none⟩=some (.int .u64 g2)/\W.cell? ⟨k0,3,none⟩=some (.int .u64 0)/\Kept w k0 [⟨k0,0,g0,g1,g2,0⟩,⟨k1,0,0,0,0,0⟩] W:=⟨h.head.c0,h.head.c1,h.head.c2,h.head.c3,h⟩
theorem jD{w W:World}{k0 k1 g0 g1 g2:Nat}(h:W.cell? ⟨k0,0,none⟩=some (.int .u64 g0)/\W.cell? ⟨k0,1,none⟩=some (.int .u64 g1)/\W.cell? ⟨k0,2,none⟩=some (.int .u64 g2)/\W.cell? ⟨k0,3,none⟩=some (.int .u64 0)/\Kept w k0 [⟨k0,0,g0,g1,g2,0⟩,⟨k1,0,0,0,0,0⟩] W):Kept w k0 [⟨k0,0,g0,g1,g2,0⟩,⟨k1,0,0,0,0,0⟩] W:=h.2.2.2.2
theorem AV{w W:World}{k0 k1 g0 g1 g2:Nat}{o:Obj}(h:W.cell? ⟨k0,0,none⟩=some (.int .u64 g0)/\W.cell? ⟨k0,1,none⟩=some (.int .u64 g1)/\W.cell? ⟨k0,2,none⟩=some (.int .u64 g2)/\W.cell? ⟨k0,3,none⟩=some (.int .u64 0)/\Kept w k0 [⟨k0,0,g0,g1,g2,0⟩,⟨k1,0,0,0,0,0⟩] W):(W.alloc o).cell? ⟨k0,0,none⟩=some (.int .u64 g0)/\(W.alloc o).cell? ⟨k0,1,none⟩=some (.int .u64 g1)/\(W.alloc o).cell? ⟨k0,2,none⟩=some (.int .u64 g2)/\(W.alloc o).cell? ⟨k0,3,none⟩=some (.int .u64 0)/\Kept w k0 [⟨k0,0,g0,g1,g2,0⟩,⟨k1,0,0,0,0,0⟩] (W.alloc o):=iL ((jD h).alloc o)
theorem yL{w W:World}{k0 k1 g0 g1 g2:Nat}{o:Obj}(h:W.drew.cell? ⟨k0,0,none⟩=some (.int .u64 g0)/\W.drew.cell? ⟨k0,1,none⟩=some (.int .u64 g1)/\W.drew.cell? ⟨k0,2,none⟩=some (.int .u64 g2)/\W.drew.cell? ⟨k0,3,none⟩=some (.int .u64 0)/\Kept w k0 [⟨k0,0,g0,g1,g2,0⟩,⟨k1,0,0,0,0,0⟩] W.drew):(W.alloc o).drew.cell? ⟨k0,0,none⟩=some (.int .u64 g0)/\(W.alloc o).drew.cell? ⟨k0,1,none⟩=some (.int .u64 g1)/\(W.alloc o).drew.cell? ⟨k0,2,none⟩=some (.int .u64 g2)/\(W.alloc o).drew.cell? ⟨k0,3,none⟩=some (.int .u64 0)/\Kept w k0 [⟨k0,0,g0,g1,g2,0⟩,⟨k1,0,0,0,0,0⟩] (W.alloc o).drew:=iL (((jD h).undrew).alloc o).drew
theorem mV{w:World}{g o:Nat}{bs:Bs}(p l:Nat)(h:Holds encB w g o bs)(hp:p+l<=bs.size):Holds encB w g (o+p) (bs.extract p (p+l)):=by
 refine Holds.part h (by rw[Array.size_extract];omega) (fun j hj=>?_);rw[Array.size_extract]at hj;rw[getElem!_pos (bs.extract p (p+l)) j (by rw[Array.size_extract];omega),getElem!_pos bs (p+j) (by omega),Array.getElem_extract]
theorem zJ{w:World}{g o:Nat}{bs:Bs}(f:Nat)(h:Holds encB w g o bs)(hf:f<=bs.size):Holds encB w g o (bs.extract 0 f):=by
 have:=mV 0 f h (by omega);rwa[Nat.zero_add,Nat.add_zero]at this
def RedR(w:World)(k0 k1 g0 g1 g2 N:Nat)(s6:Value)(wx:World):Prop:=
 ∃k6 a b c d:Nat,s6=.pointer (some ⟨k6,0,none⟩)/\Kept w k0 [⟨k6,0,a,b,c,d⟩,⟨k0,0,g0,g1,g2,0⟩,⟨k1,0,0,0,0,0⟩] wx/\k6≠k0/\k6≠k1/\k0<=k6 /\
  Hid (Four (.agg #[.int .u64 a,.int .u64 b,.int .u64 c,.int .u64 d]) N)
theorem RedR.made{w w1:World}{k0 k1 g0 g1 g2 N a b c d:Nat}(KP:Kept w k0 [⟨k0,0,g0,g1,g2,0⟩,⟨k1,0,0,0,0,0⟩] w1)(hF:Hid (Four (.agg #[.int .u64 a,.int .u64 b,.int .u64 c,.int .u64 d]) N)):
 RedR w k0 k1 g0 g1 g2 N (.pointer (some ⟨w1.heap.size,0,none⟩)) (w1.alloc (.cells #[.int .u64 a,.int .u64 b,.int .u64 c,.int .u64 d] 114)):=
 ⟨w1.heap.size,a,b,c,d,rfl,(KP.alloc _).cons (At4.made w1 114 a b c d rfl).blk,Nat.ne_of_gt KP.head.lt,Nat.ne_of_gt KP.tail.head.lt,KP.le,hF⟩
theorem RedR.put{w w1:World}{k0 k1 k6 g0 g1 g2 N a b c d x y z u:Nat}(KP:Kept w k0 [⟨k0,0,g0,g1,g2,0⟩,⟨k1,0,0,0,0,0⟩] w1)(T:At4 w1 k6 x y z u)(M7:k0<=k6)(N7:∀x∈([⟨k0,0,g0,g1,g2,0⟩,⟨k1,0,0,0,0,0⟩]:List Blk),x.k<k6)(hF:Hid (Four (.agg #[.int .u64 a,.int .u64 b,.int .u64 c,.int .u64 d]) N)):
 RedR w k0 k1 g0 g1 g2 N (.pointer (some ⟨k6,0,none⟩)) ((((w1.setCell ⟨k6,0,none⟩ (.int .u64 a)).setCell ⟨k6,1,none⟩ (.int .u64 b)).setCell ⟨k6,2,none⟩ (.int .u64 c)).setCell ⟨k6,3,none⟩ (.int .u64 d)):=
 ⟨k6,a,b,c,d,rfl,(KP.set4' M7 (fun x hx=>Nat.ne_of_gt (N7 x hx)) _ _ _ _).cons (T.self4 a b c d).blk,Nat.ne_of_gt (N7 ⟨k0,0,g0,g1,g2,0⟩ (by simp)),Nat.ne_of_gt (N7 ⟨k1,0,0,0,0,0⟩ (by simp)),M7,hF⟩
theorem Fb{P:Nat}(bs:Bs)(p:Nat)(hp:p+32<=bs.size):(beV (bs.extract p (p+32)).toList+top*(beV (bs.extract 0 p).toList%P))%P=beV (bs.extract 0 (p+32)).toList%P:=by
 have e:(bs.extract 0 (p+32)).toList=(bs.extract 0 p).toList++(bs.extract p (p+32)).toList:=by
  rw[<-Array.toList_append,Array.extract_append_extract,Nat.min_eq_left (by omega),Nat.max_eq_right (by omega)]
 have l32:(bs.extract p (p+32)).toList.length=32:=by rw[Array.length_toList,Array.size_extract];omega
 have ht:256^32=top:=by unfold top;decide
 rw[e,dD,l32,ht,Nat.add_comm,Nat.add_mod,Nat.mul_mod,Nat.mod_mod,<-Nat.mul_mod,<-Nat.add_mod,Nat.mul_comm]
theorem Ap(g0 g1 g2 P g o n cap : Nat)(bs : Bs)(hG : Gap g0 g1 g2 P)(w : World)(hs : bs.size = n)(hc : n <= cap)(hg : g < w.heap.size)(hB : Holds encB w g o bs):
    Calls prog 171 #[.agg #[.int .u64 (g0 : Int), .int .u64 (g1 : Int), .int .u64 (g2 : Int), .int .u64 0], .slice (some ⟨g, o, none⟩) n cap] w (Ret fun e w' => Below w.heap.size w w' /\ Four e (beV bs.toList % P)) := by
  obtain⟨f, hf⟩ : ∃f, f = n % 32 := ⟨_, rfl⟩;have hf32 : f < 32 := by omega
  have hfn : f <= n := by omega
  have e1 : (n : Int) % 32 = (f : Int) := by omega
  have e2 : (f : Int) <= (cap : Int) := by omega
  have e3 : (f : Int) <= (n : Int) := by omega
  have e4 : f <= cap := by omega
  have hsz0 : (bs.extract 0 f).size = f := by rw [Array.size_extract]; omega
  have Hf : Hid (f = n % 32) := hf;have HS : Hid ((bs.extract 0 f).size = f) := hsz0;have hbs : f <= bs.size := by omega
  have HSZ : Hid (bs.size = n) := hs;have HG : Hid (Gap g0 g1 g2 P) := hG;clear hf hsz0 hG;go_enter Tryz.func171, Tryz.ntmps171
  go_upto_region 2 with fail
  rw [e1];clear e1;have PR := (At4.made w 116 g0 g1 g2 0 rfl).alloc (.cells #[.int .u64 0, .int .u64 0, .int .u64 0, .int .u64 0] 49);have RE := At4.made (w.alloc (.cells #[.int .u64 (g0 : Int), .int .u64 (g1 : Int), .int .u64 (g2 : Int), .int .u64 0] 116)) 49 0 0 0 0 (World.size_alloc _ _);have KP := ((Kept.mk1 (below2 w (.cells #[.int .u64 (g0 : Int), .int .u64 (g1 : Int), .int .u64 (g2 : Int), .int .u64 0] 116) (.cells #[.int .u64 0, .int .u64 0, .int .u64 0, .int .u64 0] 49)) (below2 w (.cells #[.int .u64 (g0 : Int), .int .u64 (g1 : Int), .int .u64 (g2 : Int), .int .u64 0] 116) (.cells #[.int .u64 0, .int .u64 0, .int .u64 0, .int .u64 0] 49)).size).cons RE.blk).cons PR.blk;clear PR RE;generalize World.alloc _ _ = W0 at KP⊢;generalize h1 : w.heap.size + 1 = k1 at KP⊢;have Q1 : Hid (w.heap.size <= k1) := by unfold Hid; omega
  generalize h0 : w.heap.size = k0 at KP Q1 hg⊢;have n01 : k0 ≠ k1 := by omega
  have H0 : Hid (w.heap.size = k0) := h0;have HBS : Hid (Holds encB w g o bs) := hB;clear h0 h1 hB hs
  go_cut [6] (fun s6 wx => RedR w k0 k1 g0 g1 g2 (beV (bs.extract 0 f).toList % P) s6 wx)
  case first =>
    go_region_held3 (fun w' => w'.cell? ⟨k0, 0, none⟩ = some (.int .u64 (g0 : Int)) /\ w'.cell? ⟨k0, 1, none⟩ = some (.int .u64 (g1 : Int)) /\ w'.cell? ⟨k0, 2, none⟩ = some (.int .u64 (g2 : Int)) /\ w'.cell? ⟨k0, 3, none⟩ = some (.int .u64 0) /\ Kept w k0 [⟨k0, 0, g0, g1, g2, 0⟩, ⟨k1, 0, 0, 0, 0, 0⟩] w') (first | (with_reducible exact iL KP) | (with_reducible exact iL KP.drew) | (with_reducible exact yL (by assumption)) | (with_reducible exact AV (by assumption)) | (with_reducible exact iL (KP.alloc _)) | (with_reducible exact iL (KP.set4' M7 (fun x hx => Nat.ne_of_gt (N7 x hx)) _ _ _ _)) | (with_reducible exact iL (KP.alloc _).drew) | (with_reducible exact iL (KP.set4' M7 (fun x hx => Nat.ne_of_gt (N7 x hx)) _ _ _ _).drew) | fail) (first | (go_at_call 104; refine(iW (some ⟨g, o, none⟩) g o f cap (bs.extract 0 f) _ (Nat.le_of_lt hf32) e4 HS.out (Or.inr ⟨rfl, zJ f (Holds.below HBS.out (jD (by assumption)).bl hg) hbs⟩)).mono ?_; rintro e w1 ⟨v, rfl, hb1, hF1⟩; obtain⟨a1, b1, c1, d1, rfl, ha1, hb1', hc1, hd1, es1⟩ := id hF1; clear es1; have HF1 : Hid (Four _ _) := hF1; clear hF1; (try(with_reducible have T1 := T.call hb1; clear T; have T := T1; clear T1)); (try(first | (with_reducible have T := (At4.made _ 114 0 0 0 0 rfl).call hb1) | (with_reducible have T := (At4.made _ 114 0 0 0 0 rfl).drew.call hb1)); have N7 := KP.lts; have M7 := KP.le); have KP1 := Kept.call (jD (by assumption)) hb1; clear KP; have KP := KP1; clear KP1 hb1) | (go_at_call 106; refine(gU _ _ HF1.out _).mono ?_; rintro e w1 ⟨v, rfl, hb1, rfl⟩; (try(with_reducible have T1 := T.call hb1; clear T; have T := T1; clear T1)); (try(first | (with_reducible have T := (At4.made _ 114 0 0 0 0 rfl).call hb1) | (with_reducible have T := (At4.made _ 114 0 0 0 0 rfl).drew.call hb1)); have N7 := KP.lts; have M7 := KP.le); have KP1 := Kept.call (jD (by assumption)) hb1; clear KP; have KP := KP1; clear KP1 hb1) | (go_at_call 167; refine(sP g0 g1 g2 _ _ _ _ P HG.out.h0 HG.out.h1 HG.out.h2 HG.out.hor HG.out.hP HG.out.hP2 HF1.out (Four.mk (a := 0) (b := 0) (c := 0) (d := 0) (by decide) (by decide) (by decide) (by decide) rfl) _).mono ?_; rintro e w1 ⟨v, rfl, hb1, hF3⟩; obtain⟨a', b', c', d', rfl, ha', hb', hc', hd', es3⟩ := id hF3; clear es3; have HF3 : Hid (Four _ _) := hF3; clear hF3; (try(with_reducible have T1 := T.call hb1; clear T; have T := T1; clear T1)); (try(first | (with_reducible have T := (At4.made _ 114 0 0 0 0 rfl).call hb1) | (with_reducible have T := (At4.made _ 114 0 0 0 0 rfl).drew.call hb1)); have N7 := KP.lts; have M7 := KP.le); have KP1 := Kept.call (jD (by assumption)) hb1; clear KP; have KP := KP1; clear KP1 hb1; (try(obtain⟨tc0, tc1, tc2, tc3, tf⟩ := id T; have zt := T.lt))))
    all_goals (try go_wp2)
    all_goals (rw [show val 0 0 0 0 = 0 from rfl, Nat.mul_zero, Nat.add_zero]at HF3)
    all_goals (go_meet; first | (with_reducible exact RedR.made KP HF3) | (with_reducible exact(RedR.made KP HF3).drew) | (with_reducible exact RedR.put KP T M7 N7 HF3) | (with_reducible exact(RedR.put KP T M7 N7 HF3).drew) | fail)
  case rest =>
    clear KP;obtain⟨k6, a, b, c, d, rfl, KP, n60, n61, M6, HF⟩ := hcut;have f0 : (0 : Int) <= (f : Int) := Int.natCast_nonneg _
    go_upto_region 3 with fail
    go_cut [1] (fun s1 wx => ∃q : Nat, s1 = .slice (some ⟨g, q, none⟩) (n - f) (cap - f) /\ Hid (0 < n - f -> q = o + f) /\ Kept w k0 [⟨k6, 0, a, b, c, d⟩, ⟨k0, 0, g0, g1, g2, 0⟩, ⟨k1, 0, 0, 0, 0, 0⟩] wx)
    case first =>
      by_cases ec : cap = f
      · have en : n = f := by omega
        have HEN : Hid (n = f /\ cap = f) := ⟨en, ec⟩;go_wp2
        go_meet
        refine⟨o, ?_, fun h => ?_, KP⟩
        · rw [HEN.out.1, HEN.out.2]; try simp
        · have := HEN.out.1; omega
      · go_wp2
        go_meet
        exact⟨o + f, rfl, fun _ => rfl, KP⟩
    case rest =>
    clear KP;obtain⟨q0, rfl, HQ0, KP⟩ := hcut;go_wp2_with fail
    go_loopg [1] (n - f) (fun gk s1 wr => ∃(l q lc a b c d : Nat), gk = l /\ l <= n /\ s1 = .slice (some ⟨g, q, none⟩) l lc /\ Hid (l % 32 = 0 /\ (0 < l -> q = o + (n - l)) /\ lc = cap - (n - l)) /\ Kept w k0 [⟨k6, 0, a, b, c, d⟩, ⟨k0, 0, g0, g1, g2, 0⟩, ⟨k1, 0, 0, 0, 0, 0⟩] wr /\
      Hid (Four (.agg #[.int .u64 (a : Int), .int .u64 (b : Int), .int .u64 (c : Int), .int .u64 (d : Int)]) (beV (bs.extract 0 (n - l)).toList % P)))
    case atStart =>
      refine⟨n - f, q0, cap - f, a, b, c, d, rfl, by omega, rfl, ⟨by have := Hf.out; omega, fun h => by have := HQ0.out h; omega, by omega⟩, KP, ?_⟩;rw [show n - (n - f) = f by omega];exact HF
    case round =>
      clear KP HF;obtain⟨l, q, lc, a, b, c, d, hgk, hln, rfl, HQ3, KP, HF⟩ := hrel;clear e2 e3 e4 f0 hbs HS hf32 hfn HQ0;have hlcl : l <= lc := by have := HQ3.out; omega
      by_cases h0 : l = 0
      · subst h0
        obtain⟨xc0, xc1, xc2, xc3, xf⟩ := KP.head.at4;have z7 := KP.head.lt;go_wp2_with fail
        refine(gP _ _ HF.out _).mono ?_;rintro e w3 ⟨v, rfl, hb3, rfl⟩;have KP3 := KP.call hb3;clear hb3 xc0 xc1 xc2 xc3 xf z7 KP;obtain⟨rc0, rc1, rc2, rc3, rf⟩ := KP3.tail.tail.head.at4;have z3 := KP3.tail.tail.head.lt;go_wp2;have RF := KP3.tail.tail.head.at4.self4 a b c d;unfold set4 at RF;refine bodyPost_ret (v := ?v) ?hr rfl ?hR
        case hr => simp [results, Tryz.results171, go_sem, RF.c0, RF.c1, RF.c2, RF.c3]; rfl
        refine⟨_, rfl, ?_, ?_⟩
        · rw [H0.out]
          exact aF KP3.bl Q1.out _ _ _ _
        · have := HF.out
          rw [Nat.sub_zero, <-HSZ.out, Array.extract_size]at this;exact this
      · have h32 : 32 <= l := by have := HQ3.out; omega
        have HQ : Hid (o + (n - l) = q) := (HQ3.out.2.1 (by omega)).symm;have h32c : 32 <= lc := by omega
        have i1 : (32 : Int) <= (lc : Int) := by omega
        have i2 : (32 : Int) <= (l : Int) := by omega
        have i3 : (0 : Int) < (l : Int) := by omega
        have HSL : Hid (n - l + 32 <= bs.size) := by unfold Hid; have := HSZ.out; omega
        have HS3 : Hid ((bs.extract (n - l) (n - l + 32)).size = 32) := by unfold Hid; rw [Array.size_extract]; have := HSL.out; omega
        obtain⟨tc0, tc1, tc2, tc3, tf⟩ := KP.head.at4;have zt := KP.head.lt;obtain⟨pc0, pc1, pc2, pc3, pf⟩ := KP.tail.head.at4;have hl6 : ∀x ∈ ([⟨k0, 0, g0, g1, g2, 0⟩, ⟨k1, 0, 0, 0, 0, 0⟩] : List Blk), k6 ≠ x.k := by simp only [List.mem_cons, List.not_mem_nil, or_false]; rintro x (rfl | rfl); exact n60; exact n61
        have HFF : Hid (_ = _) := Fb (P := P) bs (n - l) HSL.out;go_wp2_with fail
        go_region_with (first | (go_at_call 104; refine(iW (some ⟨g, q, none⟩) g q 32 lc (bs.extract (n - l) (n - l + 32)) _ (Nat.le_refl 32) h32c HS3.out (Or.inr ⟨rfl, HQ.out ▸ mV (n - l) 32 (by first | (with_reducible exact Holds.below HBS.out KP.bl hg) | (with_reducible exact Holds.below HBS.out KP.drew.bl hg) | fail) HSL.out⟩)).mono ?_; rintro e w1 ⟨v, rfl, hb1, hF1⟩; obtain⟨a1, b1, c1, d1, rfl, ha1, hb1', hc1, hd1, es1⟩ := id hF1; clear es1; have HF1 : Hid (Four _ _) := hF1; clear hF1; (first | (with_reducible have KP1 := KP.call hb1) | (with_reducible have KP1 := KP.drew.call hb1) | fail); clear KP; have KP := KP1; clear KP1 hb1; obtain⟨tc0, tc1, tc2, tc3, tf⟩ := KP.head.at4; have zt := KP.head.lt; obtain⟨pc0, pc1, pc2, pc3, pf⟩ := KP.tail.head.at4) | (go_at_call 106; refine(gU _ _ HF1.out _).mono ?_; rintro e w1 ⟨v, rfl, hb1, rfl⟩; (first | (with_reducible have KP1 := KP.call hb1) | (with_reducible have KP1 := KP.drew.call hb1) | fail); clear KP; have KP := KP1; clear KP1 hb1; obtain⟨tc0, tc1, tc2, tc3, tf⟩ := KP.head.at4; have zt := KP.head.lt; obtain⟨pc0, pc1, pc2, pc3, pf⟩ := KP.tail.head.at4) | (go_at_call 167; refine(sP g0 g1 g2 _ _ _ _ P HG.out.h0 HG.out.h1 HG.out.h2 HG.out.hor HG.out.hP HG.out.hP2 HF1.out HF.out _).mono ?_; rintro e w1 ⟨v, rfl, hb1, hF3⟩; obtain⟨a', b', c', d', rfl, ha', hb', hc', hd', es3⟩ := id hF3; clear es3; have HF3 : Hid (Four _ _) := hF3; clear hF3; (first | (with_reducible have KP1 := KP.call hb1) | (with_reducible have KP1 := KP.drew.call hb1) | fail); clear KP; have KP := KP1; clear KP1 hb1; obtain⟨tc0, tc1, tc2, tc3, tf⟩ := KP.head.at4; have zt := KP.head.lt; obtain⟨pc0, pc1, pc2, pc3, pf⟩ := KP.tail.head.at4))
        all_goals (rw [HFF.out]at HF3)
        all_goals (by_cases i4 : lc = 32)
        all_goals (try go_wp2)
        all_goals
          (go_roundg (l - 32)
           case measure => omega
           case rel =>
            first
              | refine⟨l - 32, q + 32, lc - 32, a', b', c', d', rfl, by omega, rfl, ⟨by have := HQ3.out; omega, fun _ => by have := HQ.out; omega, by have := HQ3.out; omega⟩, ?_, ?_⟩
              | refine⟨l - 32, q, lc - 32, a', b', c', d', rfl, by omega, by first | rfl | (rw [i4]), ⟨by have := HQ3.out; omega, fun h => by omega, by have := HQ3.out; omega⟩, ?_, ?_⟩
              | fail
            · first | (with_reducible exact KP.put M6 hl6 a' b' c' d') | (with_reducible exact(KP.put M6 hl6 a' b' c' d').drew) | fail
            · rw [show n - (l - 32) = n - l + 32 by omega]; exact HF3)
def sPl(N a b:Nat):Nat:=(a+b)%N
theorem Is(O:Ord N){a b:Nat}(ha:a<N)(hb:b<N):Gives 141 #[gv1,nv a,nv b] (nv (sPl N a b)):=fun w =>
 (Ao _ _ _ N _ _ a b O.gap (O.four ha) (O.four hb) ha hb w).mono (by rintro e w' ⟨v,rfl,hb,hF⟩;exact⟨_,rfl,hb,hF.nv⟩)
theorem EX(O:Ord N)(a b:Nat)(ha:a<N)(hb:b<N):Gives 122 #[(nv a),(nv b)] (nv (sPl N a b)):=by
 intro w;go_enter Tryz.func122,Tryz.ntmps122;refine RG.M.enter [(0,(.v (nv a))),(1,(.v (nv b)))] 12 (by kernel_rfl) ?_;intro a0 M0;repeat refine wp_seq ?_
 refine M0.t [.m 2 [] 0,.m 3 [] 1,.m 4 [] 2] [(0,(wn a)),(1,(wn b)),(2,(RG.z 4))] [] [(wn a),(wn b),(RG.z 4)] [(2,(.p 0 0)),(3,(.p 1 0)),(4,(.p 2 0))] ⟨RG.mk 0 82,RG.mk 1 82,RG.mk 2 82,trivial⟩ ?_;intro j1 i1 m1 a1 w1 M1;repeat refine wp_seq ?_
 refine M1.d [.c 5 [] gv1,.s 6 [] (.p 0 0),.x 7 [(6,1)] (nv a),.s 8 [] (.p 1 0),.x 9 [(8,3)] (nv b),.c 10 [(5,0),(7,2),(9,4)] (nv (sPl N a b)),.x 11 [(10,5)] (nv (sPl N a b)),.u [(11,6)] 2] [] [(2,7,(wn (sPl N a b)))] [(wn a),(wn b),(wn (sPl N a b))] [(4,(.p 2 0))] ⟨RG.cl (eU),RG.st,RG.ld u38 i38,RG.st,RG.ld u38 i38,RG.cl (Is O ha hb),RG.st,RG.pt i40,trivial⟩ ?_;intro a2 w2 M2;refine wp_ret ?_;refine bodyPost_ret (v:=(nv (sPl N a b))) (RG.aD M2.st 4 82 rfl 2 _ rfl (M2.at (s:=(.p 2 0))) u40 i40) M2.sl.defers ?_;exact⟨_,rfl,M2.st.bel.below,rfl⟩
def mD(N:Nat)(bs:Bs):Nat:=beV bs.toList%N
def Ms(v:Value)(n:Nat):List RG.It:=[.c 3 [] gv1,.x 4 [] v,.c 5 [(3,0),(4,1)] (nv n),.x 6 [(5,2)] (nv n),.u [(6,3)] 0]
theorem uK(O:Ord N)(g:Nat)(bs:Bs)(hs:bs.size=64)(w:World)(hg:g<w.heap.size)(hB:Holds encB w g 0 bs):Calls prog 154 #[.slice (some ⟨g,0,none⟩) 64 64] w (Ret fun e w'=>Below w.heap.size w w'/\e=nv (mD N bs)):=by
 have hc:∀w',RG.BelX w.heap.size [] w w'->Calls prog 171 #[gv1,.slice (some ⟨g,0,none⟩) 64 64] w' (Ret fun e w''=>Below w'.heap.size w' w''/\e=nv (mD N bs)):=fun w' hb =>
  (Ap _ _ _ N g 0 64 64 bs O.gap w' hs (Nat.le_refl _) (Nat.lt_of_lt_of_le hg hb.below.size) (Holds.below hB hb.below hg)).mono (by rintro e w'' ⟨v,rfl,hb,hF⟩;exact⟨_,rfl,hb,hF.nv⟩)
 go_enter Tryz.func154,Tryz.ntmps154;refine RG.M.enter [(0,(.v (.slice (some ⟨g,0,none⟩) 64 64)))] 7 (by kernel_rfl) ?_;intro a0 M0;repeat refine wp_seq ?_
 refine M0.t [.m 2 [] 0] [(0,(RG.z 4))] [] [(RG.z 4)] [(0,(.v (.slice (some ⟨g,0,none⟩) 64 64))),(2,(.p 0 0))] ⟨RG.mk 0 82,trivial⟩ ?_;intro j1 a1 w1 M1;repeat refine wp_seq ?_
 refine M1.t (Ms (.slice (some ⟨g,0,none⟩) 64 64) (mD N bs)) [] [(0,4,(wn (mD N bs)))] [(wn (mD N bs))] [(2,(.p 0 0))] ⟨RG.cl (eU),RG.st,RG.clB (fun _ _=>by kernel_rfl) hc,RG.st,RG.pt i40,trivial⟩ ?_;intro a2 w2 M2;refine wp_ret ?_;refine bodyPost_ret (v:=(nv (mD N bs))) (RG.aD M2.st 2 82 rfl 0 _ rfl (M2.at (s:=(.p 0 0))) u40 i40) M2.sl.defers ?_;exact⟨_,rfl,M2.st.bel.below,rfl⟩
theorem Cp(O:Ord N)(bs:Bs):mD N bs<N:=Nat.mod_lt _ O.pos
def chL(N:Nat)(label:List UInt8)(ps:List (List UInt8)):Nat:=mD N (SP.nD (SP.jN label ps).toList 64)
theorem aG(w:World)(c:List Value)(T:TypeId):Row (w.alloc (.cells c.toArray T)) w.heap.size c:=
 have h:=RG.Made.alloc w c T
 ⟨h.lt,h.range,h.there⟩
theorem dI(n:Nat):(wn n).toArray.all (·.oneCell')=true:=by kernel_rfl
theorem EP(O:Ord N)(r2:Nat)(T:Bs)(w:World)(hTs:T.size=32)(hT:Holds encB w r2 0 T):
 Calls prog 125 #[.slice (some ⟨r2,0,none⟩) 32 32] w (Ret fun e w'=>Below w.heap.size w w'/\e=nv (mD N (SP.nD T.toList 64))):=by
 obtain⟨S,hS⟩:∃S,Hid (SP.nD T.toList 64=S):=⟨_,rfl⟩
 have hSs:S.size=64:=by rw[<-hS.out];exact SP.uE _ _
 rw[hS.out];obtain⟨w1,hw1⟩:∃w1,Hid (w.alloc (.cells #[.int .u64 0,.int .u64 0,.int .u64 0,.int .u64 0] 82)=w1):=⟨_,rfl⟩
 have K2:Hid (Row w1 w.heap.size [.int .u64 0,.int .u64 0,.int .u64 0,.int .u64 0]/\Below w.heap.size w w1/\Holds encB w1 r2 0 T):=by rw[<-hw1.out];exact⟨aG w _ _,aE w _,Holds.below hT (aE w _) (Holds.lt hT (by omega))⟩
 clear hT;go_enter Tryz.func125,Tryz.ntmps125;go_wp2_with fail
 rw[hw1.out];clear hw1;refine(SP.tM (some ⟨r2,0,none⟩) r2 0 32 32 64 T w1 (by decide) hTs (Nat.le_refl _) (by decide) (Or.inr ⟨rfl,K2.out.2.2⟩)).mono ?_;rintro e w3 ⟨r3,rfl,h1,h2,h3⟩;rw[hS.out]at h3;have K3:Hid (Row w3 w.heap.size [.int .u64 0,.int .u64 0,.int .u64 0,.int .u64 0]/\Below w.heap.size w w3/\Holds encB w3 r3 0 S):=⟨K2.out.1.below h2,K2.out.2.1.trans (h2.mono K2.out.2.1.size),h3⟩
 clear h1 h2 h3 K2;go_wp2_with fail
 refine(uK O r3 S hSs w3 (Holds.lt K3.out.2.2 (by omega)) K3.out.2.2).mono ?_;rintro e w4 ⟨v,rfl,hb4,rfl⟩;have K4:Hid (Row w4 w.heap.size [.int .u64 0,.int .u64 0,.int .u64 0,.int .u64 0]/\Below w.heap.size w w4):=⟨K3.out.1.below hb4,K3.out.2.1.trans (hb4.mono K3.out.2.1.size)⟩
 clear hb4 K3;obtain⟨m,hm⟩:∃m,Hid (mD N S=m):=⟨_,rfl⟩
 rw[hm.out];obtain⟨w5,hw5⟩:∃w5,Hid (w4.setCells w.heap.size 0 (wn m)=w5):=⟨_,rfl⟩
 have K5:Hid (Row w5 w.heap.size (wn m)/\Below w.heap.size w w5):=by rw[<-hw5.out];exact⟨K4.out.1.put rfl,RG.below_setCells (Nat.le_refl _) _ _ _ K4.out.2⟩
 obtain⟨vm,hvm⟩:∃vm,Hid (nv m=vm):=⟨_,rfl⟩
 rw[hvm.out];go_wp2_with (refine wpList_store_mid rfl 82 _ _ rfl w.heap.size 0 (wn m).toArray ?_ ?_ ?_ ?_ ?_ ?_;rfl;exact hvm.out.symm;exact K4.out.1.2.2;exact i40;exact dI m;rw[show(wn m).toArray.toList=wn m from rfl,hw5.out])
 refine bodyPost_ret (aY 2 82 rfl K5.out.1 rfl u40 i40) rfl ?_;exact⟨_,rfl,K5.out.2,by rw[hm.out];rfl⟩
theorem Gy(O:Ord N)(label:ByteArray)(pa:Option Addr)(n cap:Nat)(ps:List (List UInt8))(w:World)(hlab:label.size<=1048576)(hn:ps.length=n)(hn2:n<=1048576)(hP:SP.PartsOk w pa ps):
 Calls prog 88 #[.string label,.slice pa n cap] w (Ret fun e w'=>Below w.heap.size w w'/\e=nv (chL N label.data.toList ps)):=by
 obtain⟨T,hT⟩:∃T,Hid (SP.jN label.data.toList ps=T):=⟨_,rfl⟩
 have hTs:T.size=32:=by rw[<-hT.out];exact SP.dW _ _
 have hr:chL N label.data.toList ps=mD N (SP.nD T.toList 64):=by unfold chL;rw[hT.out]
 rw[hr];clear hr;obtain⟨w1,hw1⟩:∃w1,Hid (w.alloc (.cells #[.int .u64 0,.int .u64 0,.int .u64 0,.int .u64 0] 82)=w1):=⟨_,rfl⟩
 have hR1:Hid (Row w1 w.heap.size [.int .u64 0,.int .u64 0,.int .u64 0,.int .u64 0]/\Below w.heap.size w w1):=by rw[<-hw1.out];exact⟨aG w _ _,aE w _⟩
 have hTag:Hid (Calls prog 126 #[.string label,.slice pa n cap] w1 fun e w'=>∃r,e=.returned (.slice (some ⟨r,0,none⟩) 32 32)/\w1.heap.size<=r/\Below w1.heap.size w1 w'/\Holds encB w' r 0 T):=by
  subst hn;rw[<-hT.out];exact SP.qZ label pa cap ps w1 hlab hn2 (hP.below hR1.out.2)
 clear hP hn hn2;go_enter Tryz.func88,Tryz.ntmps88;go_wp2_with fail
 rw[hw1.out];clear hw1;refine hTag.out.mono ?_;rintro e w2 ⟨r2,rfl,h1,h2,h3⟩;have K2:Hid (Row w2 w.heap.size [.int .u64 0,.int .u64 0,.int .u64 0,.int .u64 0]/\Below w.heap.size w w2/\Holds encB w2 r2 0 T):=⟨hR1.out.1.below h2,hR1.out.2.trans (h2.mono hR1.out.2.size),h3⟩
 clear h1 h2 h3 hTag hR1;go_wp2_with fail
 refine(EP O r2 T w2 hTs K2.out.2.2).mono ?_;rintro e w4 ⟨v,rfl,hb4,rfl⟩;have K4:Hid (Row w4 w.heap.size [.int .u64 0,.int .u64 0,.int .u64 0,.int .u64 0]/\Below w.heap.size w w4):=⟨K2.out.1.below hb4,K2.out.2.1.trans (hb4.mono K2.out.2.1.size)⟩
 clear hb4 K2;obtain⟨m,hm⟩:∃m,Hid (mD N (SP.nD T.toList 64)=m):=⟨_,rfl⟩
 rw[hm.out];obtain⟨w5,hw5⟩:∃w5,Hid (w4.setCells w.heap.size 0 (wn m)=w5):=⟨_,rfl⟩
 have K5:Hid (Row w5 w.heap.size (wn m)/\Below w.heap.size w w5):=by rw[<-hw5.out];exact⟨K4.out.1.put rfl,RG.below_setCells (Nat.le_refl _) _ _ _ K4.out.2⟩
 obtain⟨vm,hvm⟩:∃vm,Hid (nv m=vm):=⟨_,rfl⟩
 rw[hvm.out];go_wp2_with (refine wpList_store_mid rfl 82 _ _ rfl w.heap.size 0 (wn m).toArray ?_ ?_ ?_ ?_ ?_ ?_;rfl;exact hvm.out.symm;exact K4.out.1.2.2;exact i40;exact dI m;rw[show(wn m).toArray.toList=wn m from rfl,hw5.out])
 refine bodyPost_ret (aY 4 82 rfl K5.out.1 rfl u40 i40) rfl ?_;exact⟨_,rfl,K5.out.2,by rw[hm.out];rfl⟩
end
section
open Go.RowKit Go.Sort Go.Deep
section
variable {P:Program}{ops:Array Oper}{rest:List Oper}{op:Oper}{a:Act}{w w':World}{v:Value}{Q:Exit->Act->World->Prop}
theorem aJ(hgd:op.guard=none)(X:Op)(_:op.op=X)(hr:(execOp a.eval op).run P w=.ok (.value v) w')(h:wpList P ops Q rest (a.put op.dst v) w'):wpList P ops Q (op :: rest) a w:=
 wpList_plain hgd fun K hK=>by
  unfold Oper.wp;rw[hr];exact hK _ _ h
end
variable {N:Nat}
theorem Row.only{W W':World}{k b o n:Nat}{vs:List Value}(h:Row W k vs)(hO:SP.Only b o n W W')(hne:k≠b):Row W' k vs:=by
 refine⟨Nat.lt_of_lt_of_le h.1 hO.size,fun j v hj=>?_,fun j hj=>?_⟩
 ·rw[(hO.other (c:=k) (o:=0+j) hne h.1).1];exact h.2.1 j v hj
 ·have h1:=h.2.2 j hj;have h2:=hO.other (c:=k) (o:=0+j) hne h.1;exact⟨by rw[h2.1];exact h1.1,by rw[h2.2];exact h1.2⟩
theorem mH{w W:World}{y o n k:Nat}{vs:List Value}(h:SP.Only y o n w W)(hy:y<w.heap.size)(hk:w.heap.size<=k)(q:Nat):SP.Only y o n w (W.setCells k q vs):=
 have hb:Below w.heap.size W (W.setCells k q vs):=RG.below_setCells hk _ _ _ (Below.refl _ _)
 ⟨hb.os.trans h.os,hb.tape.trans h.tape,hb.output.trans h.output,Nat.le_trans h.size hb.size,fun j hj hne=>(hb.block j hj).trans (h.block j hj hne),fun p hp=>(World.cell?_of_block (a:=⟨y,p,none⟩) (hb.block y hy)).trans (h.cell p hp),fun p=>(World.frozen?_of_block (a:=⟨y,p,none⟩) (hb.block y hy)).trans (h.froz p)⟩
theorem Hid.mk'{p:Prop}(h:p):Hid p:=h
theorem u124:(prog.underlying 182).map (·.isRow)=some true:=by kernel_rfl
theorem i124:(prog.info? 182).map (·.size)=some 1:=by kernel_rfl
theorem Dy(label:ByteArray)(w:World)(hlab:label.size<=1048576):Calls prog 127 #[.string label] w (Ret fun e w'=>Below w.heap.size w w'/\∃r,e=.agg #[.pointer (some ⟨r,0,none⟩)]/\w.heap.size<=r/\r<w'.heap.size/\Holds encB w' r 0 (SP.newL label.data.toList)):=by
 obtain⟨L,hL⟩:∃L,Hid (SP.newL label.data.toList=L):=⟨_,rfl⟩
 have hLs:L.size=32:=by rw[<-hL.out];exact SP.uX _
 rw[hL.out];obtain⟨w1,hw1⟩:∃w1,Hid (w.alloc (.cells #[.pointer none] 182)=w1):=⟨_,rfl⟩
 have K1:Hid (Row w1 w.heap.size [.pointer none]/\Below w.heap.size w w1):=by rw[<-hw1.out];exact⟨aG w _ _,aE w _⟩
 go_enter Tryz.func127,Tryz.ntmps127;go_wp2_with fail
 rw[hw1.out];clear hw1;refine(SP.B8 label w1 hlab).mono ?_;rintro e w2 ⟨rfl,hb2,hH2⟩;rw[hL.out]at hH2;have hlt:w1.heap.size<w2.heap.size:=Holds.lt hH2 (by omega);obtain⟨r,hr⟩:∃r,Hid (w1.heap.size=r):=⟨_,rfl⟩
 rw[hr.out]at hH2 hlt⊢;have hle:w.heap.size<r:=by rw[<-hr.out];exact K1.out.1.1
 have K2:Hid (Row w2 w.heap.size [.pointer none]/\Below w.heap.size w w2/\Holds encB w2 r 0 L):=⟨K1.out.1.below hb2,K1.out.2.trans (hb2.mono K1.out.2.size),hH2⟩
 clear hb2 hH2 K1 hr;obtain⟨w5,hw5⟩:∃w5,Hid (w2.setCells w.heap.size 0 [.pointer (some ⟨r,0,none⟩)]=w5):=⟨_,rfl⟩
 have K5:Hid (Row w5 w.heap.size [.pointer (some ⟨r,0,none⟩)]/\Below w.heap.size w w5/\Holds encB w5 r 0 L/\r<w5.heap.size):=by
  rw[<-hw5.out];refine⟨K2.out.1.put rfl,RG.below_setCells (Nat.le_refl _) _ _ _ K2.out.2.1,fun j hj=>?_,by rw[RG.setCells_size];exact hlt⟩;have h:=K2.out.2.2 j hj;have e:=RG.cB w.heap.size [.pointer (some ⟨r,0,none⟩)] 0 w2 r (by omega);rw[World.cell?_of_block (a:=⟨r,0+j,none⟩) e,World.frozen?_of_block (a:=⟨r,0+j,none⟩) e];exact h
 go_wp2_with (refine aJ (v:=.agg #[.pointer (some ⟨r,0,none⟩)]) (w':=w2) rfl (.build 182 _) rfl ?_ ?_;kernel_rfl;refine Hid.out ?_)
 show wpList _ _ _ _ _ _;refine wpList_store_mid rfl 182 _ _ rfl w.heap.size 0 #[.pointer (some ⟨r,0,none⟩)] ?_ ?_ ?_ ?_ ?_ ?_
 ·kernel_rfl
 ·kernel_rfl
 ·exact K2.out.1.2.2
 ·exact i124
 ·kernel_rfl
 rw[show(#[Value.pointer (some ⟨r,0,none⟩)]).toList=[.pointer (some ⟨r,0,none⟩)] from rfl,hw5.out];go_wp2;refine bodyPost_ret (aY 2 182 rfl K5.out.1 rfl u124 i124) rfl ?_;exact⟨_,rfl,K5.out.2.1,r,rfl,by omega,K5.out.2.2.2,K5.out.2.2.1⟩
def cha(N:Nat)(L:Bs):Nat:=mD N (SP.Aj L [99,104,97,108,108,101,110,103,101] 64)
theorem Dx(O:Ord N)(r:Nat)(L:Bs)(lab:ByteArray)(w:World)(hlab:lab.size<=1048576)(hL:Holds encB w r 0 L)(hl:L.size=32):
 Calls prog 160 #[.agg #[.pointer (some ⟨r,0,none⟩)],.string lab] w (Ret fun e w'=>SP.Only r 0 32 w w'/\e=nv (mD N (SP.Aj L lab.data.toList 64))):=by
 obtain⟨A,hA⟩:∃A,Hid (SP.Aj L lab.data.toList 64=A):=⟨_,rfl⟩
 have hAs:A.size=64:=by rw[<-hA.out];exact SP.En _ _ _
 rw[hA.out];have hr:=Holds.lt hL (by omega);obtain⟨w1,hw1⟩:∃w1,Hid ((w.alloc (.cells #[.pointer (some ⟨r,0,none⟩)] 182)).alloc (.cells #[.int .u64 0,.int .u64 0,.int .u64 0,.int .u64 0] 82)=w1):=⟨_,rfl⟩
 have K1:Hid (Row w1 (w.heap.size+1) [.int .u64 0,.int .u64 0,.int .u64 0,.int .u64 0]/\Below w.heap.size w w1/\Holds encB w1 r 0 L):=by
  rw[<-hw1.out];have hb:Below w.heap.size w ((w.alloc (.cells #[.pointer (some ⟨r,0,none⟩)] 182)).alloc (.cells #[.int .u64 0,.int .u64 0,.int .u64 0,.int .u64 0] 82)):=(aE w _).alloc (by rw[World.size_alloc];omega) _;have hR:=aG (w.alloc (.cells #[.pointer (some ⟨r,0,none⟩)] 182)) [.int .u64 0,.int .u64 0,.int .u64 0,.int .u64 0] 82;rw[World.size_alloc]at hR;exact⟨hR,hb,Holds.below hL hb hr⟩
 clear hL;go_enter Tryz.func160,Tryz.ntmps160;go_wp2_with fail
 rw[hw1.out];clear hw1;refine(SP.JR r L lab 64 w1 hlab (by decide) K1.out.2.2 hl).mono ?_;rintro e w2 ⟨r2,rfl,h1,hO,-,hA2⟩;rw[hA.out]at hA2;have K2:Hid (Row w2 (w.heap.size+1) [.int .u64 0,.int .u64 0,.int .u64 0,.int .u64 0]/\SP.Only r 0 32 w w2/\Holds encB w2 r2 0 A):=⟨K1.out.1.only hO (by omega),(SP.Only.of_below K1.out.2.1 rfl hr).trans hO,hA2⟩
 clear h1 hO hA2 K1;go_wp2_with fail
 refine(uK O r2 A hAs w2 (Holds.lt K2.out.2.2 (by omega)) K2.out.2.2).mono ?_;rintro e w4 ⟨v,rfl,hb4,rfl⟩;have K4:Hid (Row w4 (w.heap.size+1) [.int .u64 0,.int .u64 0,.int .u64 0,.int .u64 0]/\SP.Only r 0 32 w w4):=⟨K2.out.1.below hb4,K2.out.2.1.trans (SP.Only.of_below hb4 rfl (Nat.lt_of_lt_of_le hr K2.out.2.1.size))⟩
 clear hb4 K2;obtain⟨m,hm⟩:∃m,Hid (mD N A=m):=⟨_,rfl⟩
 rw[hm.out];obtain⟨w5,hw5⟩:∃w5,Hid (w4.setCells (w.heap.size+1) 0 (wn m)=w5):=⟨_,rfl⟩
 have K5:Hid (Row w5 (w.heap.size+1) (wn m)/\SP.Only r 0 32 w w5):=by rw[<-hw5.out];exact⟨K4.out.1.put rfl,mH K4.out.2 hr (by omega) _⟩
 obtain⟨vm,hvm⟩:∃vm,Hid (nv m=vm):=⟨_,rfl⟩
 rw[hvm.out];go_wp2_with (refine wpList_store_mid rfl 82 _ _ rfl (w.heap.size+1) 0 (wn m).toArray ?_ ?_ ?_ ?_ ?_ ?_;rfl;exact hvm.out.symm;exact K4.out.1.2.2;exact i40;exact dI m;rw[show(wn m).toArray.toList=wn m from rfl,hw5.out])
 refine bodyPost_ret (aY 4 82 rfl K5.out.1 rfl u40 i40) rfl ?_;exact⟨_,rfl,K5.out.2,by rw[hm.out];rfl⟩
theorem wG(O:Ord N)(r:Nat)(L:Bs)(w:World)(hL:Holds encB w r 0 L)(hl:L.size=32):
 Calls prog 129 #[.agg #[.pointer (some ⟨r,0,none⟩)]] w (Ret fun e w'=>SP.Only r 0 32 w w'/\e=nv (cha N L)):=by
 have hr:=Holds.lt hL (by omega);obtain⟨w1,hw1⟩:∃w1,Hid ((w.alloc (.cells #[.pointer (some ⟨r,0,none⟩)] 182)).alloc (.cells #[.int .u64 0,.int .u64 0,.int .u64 0,.int .u64 0] 82)=w1):=⟨_,rfl⟩
 have K1:Hid (Row w1 (w.heap.size+1) [.int .u64 0,.int .u64 0,.int .u64 0,.int .u64 0]/\Below w.heap.size w w1/\Holds encB w1 r 0 L/\w1.rangeAt w.heap.size 0 [.pointer (some ⟨r,0,none⟩)]):=by
  rw[<-hw1.out];have hb:Below w.heap.size w ((w.alloc (.cells #[.pointer (some ⟨r,0,none⟩)] 182)).alloc (.cells #[.int .u64 0,.int .u64 0,.int .u64 0,.int .u64 0] 82)):=(aE w _).alloc (by rw[World.size_alloc];omega) _;have hR:=aG (w.alloc (.cells #[.pointer (some ⟨r,0,none⟩)] 182)) [.int .u64 0,.int .u64 0,.int .u64 0,.int .u64 0] 82;rw[World.size_alloc]at hR;exact⟨hR,hb,Holds.below hL hb hr,((aG w [.pointer (some ⟨r,0,none⟩)] 182).alloc _).2.1⟩
 clear hL;obtain⟨d,hd1,hd2⟩:=Option.map_eq_some_iff.1 u124;have HD:Hid (prog.underlying 182=some d/\d.isRow=true):=⟨hd1,hd2⟩
 clear hd1 hd2;have hS:=Dx O r L ⟨#[99,104,97,108,108,101,110,103,101]⟩ w1 (by decide) K1.out.2.2.1 hl;have hcha:mD N (SP.Aj L (⟨#[99,104,97,108,108,101,110,103,101]⟩:ByteArray).data.toList 64)=cha N L:=rfl;rw[hcha]at hS;clear hcha;have HS:=Hid.mk' hS;clear hS;go_enter Tryz.func129,Tryz.ntmps129;go_wp2_with (refine wpList_load_mid rfl 182 _ rfl w.heap.size 0 ?_ [.pointer (some ⟨r,0,none⟩)] d ?_ ?_ ?_ ?_ ?_;kernel_rfl;(rw[hw1.out];exact K1.out.2.2.2);exact HD.out.1;exact HD.out.2;exact i124;rw[hw1.out])
 refine HS.out.mono ?_;rintro e w4 ⟨v,rfl,hO,rfl⟩;have K4:Hid (Row w4 (w.heap.size+1) [.int .u64 0,.int .u64 0,.int .u64 0,.int .u64 0]/\SP.Only r 0 32 w w4):=⟨K1.out.1.only hO (by omega),(SP.Only.of_below K1.out.2.1 rfl hr).trans hO⟩
 clear hO K1 HS hw1;obtain⟨m,hm⟩:∃m,Hid (cha N L=m):=⟨_,rfl⟩
 rw[hm.out];obtain⟨w5,hw5⟩:∃w5,Hid (w4.setCells (w.heap.size+1) 0 (wn m)=w5):=⟨_,rfl⟩
 have K5:Hid (Row w5 (w.heap.size+1) (wn m)/\SP.Only r 0 32 w w5):=by rw[<-hw5.out];exact⟨K4.out.1.put rfl,mH K4.out.2 hr (by omega) _⟩
 obtain⟨vm,hvm⟩:∃vm,Hid (nv m=vm):=⟨_,rfl⟩
 rw[hvm.out];go_wp2_with (refine wpList_store_mid rfl 82 _ _ rfl (w.heap.size+1) 0 (wn m).toArray ?_ ?_ ?_ ?_ ?_ ?_;rfl;exact hvm.out.symm;exact K4.out.1.2.2;exact i40;exact dI m;rw[show(wn m).toArray.toList=wn m from rfl,hw5.out])
 refine bodyPost_ret (aY 2 82 rfl K5.out.1 rfl u40 i40) rfl ?_;exact⟨_,rfl,K5.out.2,by rw[hm.out];rfl⟩
end
namespace SP
open Go.RowKit Go.Sort Go.Deep
attribute [local go_sem] cO cY cS mM
theorem dX(a b:Int)(n:Nat)(w:World)(ha:0<=a/\a<=1000)(hb:0<=b/\b<=1000)(h:a%5+5*(b%5)=(n:Int)):
 Calls prog 180 #[.int .i64 a,.int .i64 b] w fun e w'=>e=.returned (.int .i64 n)/\w'=w:=by
 obtain⟨a1,a2⟩:=ha;obtain⟨b1,b2⟩:=hb;rw[<-h];clear h;go_enter Tryz.func180,Tryz.ntmps180;go_wp2;go_ret;exact⟨rfl,rfl⟩
theorem zE(x:BitVec 64)(k:Nat)(w:World)(hk:k<64):
 Calls prog 181 #[.int .u64 (u x),.int .i64 k] w fun e w'=>e=.returned (.int .u64 (u (rol x k)))/\∃n,w'=w.drewN n:=by
 have h1:(0:Int)<=64-(k:Int):=by omega
 have h2:(64:Int)-(k:Int)<=64:=by omega
 have h3:(k:Int)<=64:=by omega
 have h4:IntKind.i64.wrap (64-(k:Int))=64-(k:Int):=IntWalk.i64_in _ (by omega);have h5:((64:Int)-(k:Int)).toNat=64-k:=by omega
 have s1:=uG x k;have s2:=Cm x (64-k);go_enter Tryz.func181,Tryz.ntmps181;go_wp2;go_quiet (fail);go_wp2;go_ret;refine⟨ret_int ?_,_,rfl⟩;rfl
theorem JC(t:Nat)(w:World)(ht:t<=1000):
 Calls prog 182 #[.int .i64 t] w fun e w'=>e=.returned (.int .u64 (u (JD t)))/\w'=w:=by
 go_enter Tryz.func182,Tryz.ntmps182;go_wp2
 go_loop [3,4] (fun s3 s4=>∃(i q:Nat),i<=t/\s4=.int .i64 i/\s3=.int .i64 q/\q<256/\Hid (yH i=q)) (fun _ s4=>t-(intOf s4).toNat)
 case atStart=>exact⟨0,1,by omega,rfl,rfl,by decide,rfl⟩
 case round =>
  obtain⟨i,q,hi,rfl,rfl,hq,HE⟩:=hrel;by_cases hlt:i<t
  ·have a2:=Fc q hq;rw[Int.mul_comm]at a2;have hlt2:=rR q hq;have HC:Hid (yH (i+1)=kC q):=by show kC (yH i)=_;rw[HE.out]
   by_cases h255:255<2*q
   ·have HR:Hid (kC q=2*q ^^^ 369):=if_pos h255;rw[HR.out]at hlt2;generalize 2*q ^^^ 369=q2 at *;go_wp2
    go_round
    case rel=>exact⟨i+1,q2,by omega,by go_num,rfl,hlt2,by rw[HC.out,HR.out];rfl⟩
    case measure=>simp[intOf];omega
   ·have HR:Hid (kC q=2*q):=if_neg h255;go_wp2
    go_round
    case rel=>exact⟨i+1,2*q,by omega,by go_num,by go_num,by omega,by rw[HC.out,HR.out];rfl⟩
    case measure=>simp[intOf];omega
  ·have a1:=Fe q hq;have hit:i=t:=by omega
   subst hit;go_wp2;go_ret;unfold JD;rw[HE.out];exact⟨rfl,rfl⟩
end SP
namespace SP
open Go.RowKit Go.Sort Go.Deep
attribute [local go_sem] cO cY cS mM
theorem A6(j:Nat)(hj:j<7):min (IntKind.u64.wrap (IntKind.u64.wrap ((2:Int)^j)-1)).toNat 64=2^j-1:=by
 have H:∀j:Fin 7,min (IntKind.u64.wrap (IntKind.u64.wrap ((2:Int)^j.val)-1)).toNat 64=2^j.val-1:=by decide +kernel
 exact H ⟨j,hj⟩
theorem wZ(r:Nat)(w:World)(hr:r<24):
 Calls prog 176 #[.int .i64 r] w fun e w'=>e=.returned (.int .u64 (u (Bz r)))/\w'=w:=by
 go_enter Tryz.func176,Tryz.ntmps176;go_wp2
 go_loop [3,4] (fun s3 s4=>∃(j:Nat) (c:BitVec 64),j<=7/\s4=.int .i64 j/\s3=.int .u64 (u c)/\Hid (zU r j=c)) (fun _ s4=>7-(intOf s4).toNat)
 case atStart=>exact⟨0,0,by omega,rfl,rfl,rfl⟩
 case round =>
  obtain⟨j,c,hj,rfl,rfl,HE⟩:=hrel;by_cases hlt:j<7
  ·have hj6:(j:Int)<=6:=by omega
   go_wp2_with fail
   rw[show(j:Int)+7*(r:Int)=((j+7*r:Nat):Int) from by omega];refine(JC (j+7*r) _ (by omega)).mono ?_;rintro e w' ⟨rfl,rfl⟩;go_wp2
   go_round
   case rel =>
    refine⟨j+1,zU r (j+1),by omega,by go_num,?_,rfl⟩;rw[A6 j hlt,uG,cS];show _=Value.int .u64 (u (zU r j ||| JD (j+7*r) <<< (2^j-1)));rw[HE.out]
   case measure=>simp[intOf];omega
  ·have hj6:¬(j:Int)<=6:=by omega
   have hj7:j=7:=by omega
   subst hj7;go_wp2;go_ret;unfold Bz;rw[HE.out];exact⟨rfl,rfl⟩
theorem Io:prog.underlying 228=some (.slice 3):=by kernel_rfl
theorem info3:(prog.info? 3).map (fun i=>(i.zero,i.size,i.bytes))=some (some (.int .i64 0),1,8):=by kernel_rfl
theorem Mg{w:World}{b off:Nat}{d:Array Nat}(h:Holds encI w b off d)(i:Nat)(hi:i<d.size){x:Nat}(hx:d[i]! = x):
 w.cell? ⟨b,off+i,none⟩=some (.int .i64 x)/\w.frozen? ⟨b,off+i,none⟩=false:=by
 rw[<-hx];exact h i hi
theorem offs_int'(t:Nat)(h:t<24):(wrap64 ((wrap64 (((t:Int)+1)*((t:Int)+2))).tdiv 2)).tmod 64=(sD t:Int):=by
 have H:∀j:Fin 24,(wrap64 ((wrap64 (((j.val:Int)+1)*((j.val:Int)+2))).tdiv 2)).tmod 64=(sD j.val:Int):=by decide +kernel
 exact H ⟨t,h⟩
theorem yY(w:World):
 Calls prog 174 #[] w fun e w'=>e=.returned (.slice (some ⟨w.heap.size,0,none⟩) 25 25)/\Below w.heap.size w w'/\Holds encI w' w.heap.size 0 cK:=by
 have hmk:∀w:World,(Instr.makeSlice 228 (.int .i64 25) (.int .i64 25)).run prog w=.ok (.slice (some ⟨w.heap.size,0,none⟩) 25 25) (w.alloc (.cells (madeCells #[.int .i64 0] 25) 3)):=
  run_make_row' (P:=prog) 228 3 (.int .i64 0) 8 Io info3 rfl .i64 .i64 25 (by omega) (by omega)
 go_enter Tryz.func174,Tryz.ntmps174;go_wp2;generalize hW1:(w.alloc _)=W1;go_loopg [2,3,4] 24 (fun g sx sy st wr=>∃t T,t+g=24/\st=.int .i64 (t:Nat)/\sx=.int .i64 (T.x:Nat)/\sy=.int .i64 (T.y:Nat)/\Holds encI wr w.heap.size 0 T.o/\Only w.heap.size 0 25 W1 wr/\Hid (T=iV t))
 case atStart =>
  refine⟨0,iV 0,rfl,rfl,rfl,rfl,?_,Only.refl _ _ _ _,rfl⟩;rw[<-hW1];exact Holds.made (enc:=encI) w 3 25 0
 case round =>
  obtain⟨t,⟨x,y,o⟩,ht,rfl,rfl,rfl,hD,hO,HE⟩:=hrel;have hok:=I9 t;rw[<-HE.out]at hok;obtain⟨hx,hy,hs⟩:=hok;dsimp only at hx hy hs hD;by_cases hlt:t<24
  ·obtain⟨i,hi⟩:∃i,x%5+5*(y%5)=i:=⟨_,rfl⟩
   have hib:i<25:=by omega
   obtain⟨c,f⟩:=hD i (by omega);rw[Nat.zero_add]at c f;have Hi:Hid (x%5+5*(y%5)=i):=hi;have l24:(t:Int)<24:=by omega
   clear hi;go_wp2_with fail
   refine(dX (x:Int) (y:Int) i _ (by omega) (by omega) (by have:=Hi.out;omega)).mono ?_;rintro e w' ⟨rfl,rfl⟩;have hoff:=offs_int' t hlt;have i25:(i:Int)<25:=by omega
   go_wp2;go_roundg (gk-1)
   case measure=>omega
   case rel =>
    refine⟨t+1,⟨y,(2*x+3*y)%5,o.setIfInBounds i (sD t)⟩,by omega,by go_num,rfl,by go_num,?_,?_,?_⟩
    ·have:=Holds.set hD (i:=i) (by omega) (sD t);rw[Nat.zero_add]at this;exact this
    ·exact hO.setCell (o:=i) (by omega) (by omega) _
    ·show _=(Of.mk (iV t).y ((2*(iV t).x+3*(iV t).y)%5) ((iV t).o.setIfInBounds ((iV t).x%5+5*((iV t).y%5)) (sD t)));rw[<-HE.out];dsimp only;rw[Hi.out]
  ·have ht24:t=24:=by omega
   subst ht24;go_wp2;go_ret;refine⟨rfl,?_,?_⟩
   ·rw[<-hW1]at hO;exact hO.fresh
   ·unfold cK;rw[<-HE.out];exact hD
end SP
namespace SP
open Go.RowKit Go.Sort Go.Deep
attribute [local go_sem] cO cY cS mZ mM
theorem vZ:prog.underlying 227=some (.slice 35):=by kernel_rfl
theorem Bj:(prog.info? 35).map (fun i=>(i.zero,i.size,i.bytes))=some (some (.int .u64 0),1,8):=by kernel_rfl
theorem DC(ab tb:Nat)(a:St)(tn:Array Nat)(c:BitVec 64)(w:World)(ha:a.size=25)(ht:tn.size=25)(hA:Holds enc w ab 0 a)(hT:Holds encI w tb 0 tn)(h64:∀i,i<25->tn[i]! < 64):
 Calls prog 175 #[.slice (some ⟨ab,0,none⟩) 25 25,.slice (some ⟨tb,0,none⟩) 25 25,.int .u64 (u c)] w fun e w'=>∃r,e=.returned (.slice (some ⟨r,0,none⟩) 25 25)/\w.heap.size<=r/\Below w.heap.size w w'/\Holds enc w' r 0 (dL a tn c):=by
 have hab:=Holds.lt hA (by omega);have htb:=Holds.lt hT (by omega);have hmk5:∀w:World,(Instr.makeSlice 227 (.int .i64 5) (.int .i64 5)).run prog w=.ok (.slice (some ⟨w.heap.size,0,none⟩) 5 5) (w.alloc (.cells (madeCells #[.int .u64 0] 5) 35)):=
  run_make_row' (P:=prog) 227 35 (.int .u64 0) 8 vZ Bj rfl .i64 .i64 5 (by omega) (by omega)
 have hmk25:∀w:World,(Instr.makeSlice 227 (.int .i64 25) (.int .i64 25)).run prog w=.ok (.slice (some ⟨w.heap.size,0,none⟩) 25 25) (w.alloc (.cells (madeCells #[.int .u64 0] 25) 35)):=
  run_make_row' (P:=prog) 227 35 (.int .u64 0) 8 vZ Bj rfl .i64 .i64 25 (by omega) (by omega)
 have HM25:Hid _:=hmk25;clear hmk25;go_enter Tryz.func175,Tryz.ntmps175;go_wp2;clear hmk5;have hC1:Holds enc (w.alloc (.cells (madeCells #[.int .u64 0] 5) 35)) w.heap.size 0 (lB a 0):=Holds.made (enc:=enc) w 35 5 0;have hb1:Below w.heap.size w (w.alloc (.cells (madeCells #[.int .u64 0] 5) 35)):=(Below.refl _ _).alloc (Nat.le_refl _) _;generalize hW1:(w.alloc _)=W1 at hC1 hb1⊢;have hs1:w.heap.size<W1.heap.size:=by rw[<-hW1];simp
 have hA1:=Holds.below hA hb1 hab;have hT1:=Holds.below hT hb1 htb;clear hW1;go_loopg [8] 5 (fun g s8 wr=>∃(x:Nat) (ck:St),x+g=5/\s8=.int .i64 x/\Holds enc wr w.heap.size 0 ck/\Only w.heap.size 0 5 W1 wr/\Hid (ck=lB a x))
 case atStart=>exact⟨0,_,rfl,rfl,hC1,Only.refl _ _ _ _,rfl⟩
 case round =>
  obtain⟨x,ck,hx,rfl,hC,hO,HE⟩:=hrel;have hcs:ck.size=5:=by rw[HE.out,BE]
  by_cases hlt:x<5
  ·have l5:(x:Int)<5:=by omega
   go_wp2;go_loopg [9] 5 (fun g s9 wq=>∃(y:Nat) (cy:St),y+g=5/\s9=.int .i64 y/\Holds enc wq w.heap.size 0 cy/\Only w.heap.size 0 5 W1 wq/\Hid (cy=sW a x ck y))
   case atStart=>exact⟨0,ck,rfl,rfl,hC,hO,rfl⟩
   case round =>
    obtain⟨y,cy,hy,rfl,hCy,hOy,HEy⟩:=hrel;have hcys:cy.size=5:=by rw[HEy.out,sV,hcs]
    by_cases hlty:y<5
    ·have hAy:=Holds.other hA1 hOy (by omega) (by omega);obtain⟨z,hz⟩:∃z,a[x+5*y]! = z:=⟨_,rfl⟩
     obtain⟨v,hv⟩:∃z,cy[x]! = z:=⟨_,rfl⟩
     obtain⟨c0,f0⟩:=aS hAy (x+5*y) (by omega) hz;obtain⟨c1,f1⟩:=aS hCy x (by omega) hv;rw[Nat.zero_add]at c0 c1 f1;have HZ:Hid (a[x+5*y]! = z):=hz;have HV:Hid (cy[x]! = v):=hv;obtain⟨i,hi⟩:∃i,x+5*y=i:=⟨_,rfl⟩
     rw[hi]at c0;have Hi:Hid (x+5*y=i):=hi;have i25:i<25:=by omega
     have i25':(i:Int)<25:=by omega
     have y5:(y:Int)<5:=by omega
     clear hz hv hi f0;go_wp2_with fail
     refine wp_region_still_tail 14 mixed (by kernel_rfl) ?_;simp only[List.take_succ_cons,List.take_zero,List.drop_succ_cons,List.drop_zero];repeat still_step
     still_call (dX (x:Int) (y:Int) i _ (by omega) (by omega) (by have:=Hi.out;omega))
     repeat still_step
     refine wpStill_nil ?_;go_wp2;go_roundg (gk-1)
     case measure=>omega
     case rel =>
      refine⟨y+1,bN cy x z,by omega,by go_num,?_,?_,?_⟩
      ·have:=Holds.xor hCy (i:=x) (by omega) HV.out z;rw[Nat.zero_add]at this;exact Holds.drew this
      ·exact(hOy.setCell (o:=x) (by omega) (by omega) _).drew
      ·show _=bN (sW a x ck y) x a[x+5*y]!;rw[HZ.out,HEy.out]
    ·have hy5:y=5:=by omega
     subst hy5;go_wp2;go_roundg (4-x)
     case measure=>omega
     case rel =>
      refine⟨x+1,cy,by omega,by go_num,hCy,hOy,?_⟩;show _=sW a x (lB a x) 5;rw[HEy.out,HE.out]
  ·have hx5:x=5:=by omega
   subst hx5;have hb2:Below w.heap.size w wr:=hb1.trans (hO.below (by omega) (Nat.le_refl _));have hs2:w.heap.size<wr.heap.size:=Nat.lt_of_lt_of_le hs1 hO.size;clear hlt hx hC1 hb1 hs1 hA1 hT1 hO;have hmk:=HM25.out;go_wp2;clear hmk;have hM3:Holds enc (wr.alloc (.cells (madeCells #[.int .u64 0] 25) 35)) wr.heap.size 0 (kW a tn ck 0):=Holds.made (enc:=enc) wr 35 25 0;have hb3':Below wr.heap.size wr (wr.alloc (.cells (madeCells #[.int .u64 0] 25) 35)):=(Below.refl _ _).alloc (Nat.le_refl _) _;generalize hW3:(wr.alloc _)=W3 at hM3 hb3'⊢;have hs3:wr.heap.size<W3.heap.size:=by rw[<-hW3];simp
   have hC3:=Holds.below hC hb3' hs2;have hb3:=hb2.trans (hb3'.mono (by omega));have hA3:=Holds.below hA hb3 hab;have hT3:=Holds.below hT hb3 htb;clear hW3 hb3' hb2 hC;generalize hMB:wr.heap.size=MB at *;go_loopg [11] 5 (fun g s11 wr=>∃(x:Nat) (mk:St),x+g=5/\s11=.int .i64 x/\Holds enc wr MB 0 mk/\Only MB 0 25 W3 wr/\Hid (mk=kW a tn ck x))
   case atStart=>exact⟨0,_,rfl,rfl,hM3,Only.refl _ _ _ _,rfl⟩
   case round =>
    obtain⟨x,mk,hx,rfl,hM,hO,HEx⟩:=hrel;have hms:mk.size=25:=by rw[HEx.out,Bh]
    by_cases hlt:x<5
    ·have hCw:=Holds.other hC3 hO (by omega) (by omega);obtain⟨y0,hy0⟩:∃z,ck[(x+4)%5]! = z:=⟨_,rfl⟩
     obtain⟨y1,hy1⟩:∃z,ck[(x+1)%5]! = z:=⟨_,rfl⟩
     obtain⟨c0,f0⟩:=aS hCw ((x+4)%5) (by omega) hy0;obtain⟨c1,f1⟩:=aS hCw ((x+1)%5) (by omega) hy1;rw[Nat.zero_add]at c0 c1;have HD:Hid (bT ck x=y0 ^^^ rol y1 1):=by rw[<-hy0,<-hy1];rfl
     clear hy0 hy1 f0 f1;have l5:(x:Int)<5:=by omega
     have q1:0<=((x:Int)+4)%5:=by omega
     have q2:((x:Int)+4)%5<5:=by omega
     have q3:(((x:Int)+4)%5).toNat=(x+4)%5:=by omega
     have q4:0<=((x:Int)+1)%5:=by omega
     have q5:((x:Int)+1)%5<5:=by omega
     have q6:(((x:Int)+1)%5).toNat=(x+1)%5:=by omega
     go_wp2_with fail
     go_quiet ((go_at_call 181;exact Calls.quiet_of (zE _ 1 _ (by decide))));clear c0 c1 q1 q2 q3 q4 q5 q6;go_wp2;have hM1:=Holds.drewN hM nq;have hO1:=hO.drewN nq;generalize y0 ^^^ rol y1 1=dv at *;go_loopg [13] 5 (fun g s13 wq=>∃(y:Nat) (my:St),y+g=5/\s13=.int .i64 y/\Holds enc wq MB 0 my/\Only MB 0 25 W3 wq/\Hid (my=sF a tn x dv mk y))
     case atStart=>exact⟨0,mk,rfl,rfl,hM1,hO1,rfl⟩
     case round =>
      obtain⟨y,my,hy,rfl,hMy,hOy,HEy⟩:=hrel;have hmys:my.size=25:=by rw[HEy.out,sE,hms]
      by_cases hlty:y<5
      ·have hAy:=Holds.other hA3 hOy (by omega) (by omega);have hTy:=Holds.other hT3 hOy (by omega) (by omega);obtain⟨z,hz⟩:∃z,a[x+5*y]! = z:=⟨_,rfl⟩
       obtain⟨tv,htv⟩:∃z,tn[x+5*y]! = z:=⟨_,rfl⟩
       obtain⟨c0,f0⟩:=aS hAy (x+5*y) (by omega) hz;obtain⟨c1,f1⟩:=Mg hTy (x+5*y) (by omega) htv;have t64:tv<64:=by rw[<-htv];exact h64 _ (by omega)
       obtain⟨i,hi⟩:∃i,x+5*y=i:=⟨_,rfl⟩
       obtain⟨j,hj⟩:∃j,y%5+5*((2*x+3*y)%5)=j:=⟨_,rfl⟩
       obtain⟨c2,f2⟩:=hMy j (by omega);rw[Nat.zero_add]at c0 c1 c2 f2;rw[hi]at c0 c1;have Hi:Hid (x+5*y=i):=hi;have Hj:Hid (y%5+5*((2*x+3*y)%5)=j):=hj;have HZ:Hid (a[x+5*y]! = z):=hz;have HT:Hid (tn[x+5*y]! = tv):=htv;have i25:i<25:=by omega
       have j25:j<25:=by omega
       have i25':(i:Int)<25:=by omega
       have j25':(j:Int)<25:=by omega
       have y5:(y:Int)<5:=by omega
       have s1:IntKind.i64.wrap (2*(x:Int))=2*(x:Int):=IntWalk.i64_in _ (by omega);have s2:IntKind.i64.wrap (3*(y:Int))=3*(y:Int):=IntWalk.i64_in _ (by omega);have s3:IntKind.i64.wrap (2*(x:Int)+3*(y:Int))=2*(x:Int)+3*(y:Int):=IntWalk.i64_in _ (by omega);clear hz htv hi hj f0 f1;go_wp2_with fail
       have P1:∀w,Hid (Calls prog 180 #[.int .i64 y,.int .i64 (2*(x:Int)+3*(y:Int))] w fun e w'=>e=.returned (.int .i64 j)/\w'=w):=fun w=>dX _ _ j w (by omega) (by omega) (by have:=Hj.out;omega)
       have P2:∀w,Hid (Calls prog 180 #[.int .i64 x,.int .i64 y] w fun e w'=>e=.returned (.int .i64 i)/\w'=w):=fun w=>dX _ _ i w (by omega) (by omega) (by have:=Hi.out;omega)
       go_region_with (first|(go_at_call_of 180 (Value.int IntKind.i64 (x:Int));refine Calls.mono (P2 _).out ?_;rintro e w2 ⟨rfl,rfl⟩)|(go_at_call 180;refine Calls.mono (P1 _).out ?_;rintro e w2 ⟨rfl,rfl⟩)|(go_at_call 181;refine(zE (z ^^^ dv) tv _ t64).mono ?_;rintro e w2 ⟨rfl,n2,rfl⟩))
       all_goals
        go_wp2;go_roundg (gk-1)
        case measure=>omega
        case rel =>
         refine⟨y+1,my.setIfInBounds j (rol (z ^^^ dv) tv),by omega,by go_num,?_,?_,?_⟩
         ·have:=Holds.set (Holds.drewN hMy (1+n2)) (i:=j) (by omega) (rol (z ^^^ dv) tv);rw[Nat.zero_add]at this;exact this
         ·exact(hOy.drewN (1+n2)).setCell (o:=j) (by omega) (by omega) _
         ·show _=(sF a tn x dv mk y).setIfInBounds (y%5+5*((2*x+3*y)%5)) (rol (a[x+5*y]! ^^^ dv) tn[x+5*y]!);rw[HZ.out,HT.out,Hj.out,HEy.out]
      ·have hy5:y=5:=by omega
       subst hy5;go_wp2;go_roundg (4-x)
       case measure=>omega
       case rel =>
        refine⟨x+1,my,by omega,by go_num,hMy,hOy,?_⟩;show _=sF a tn x (bT ck x) (kW a tn ck x) 5;rw[HEy.out,HEx.out,HD.out]
    ·have hx5:x=5:=by omega
     subst hx5;have hb4:Below w.heap.size w wr:=hb3.trans (hO.below (by omega) (by omega));have hs4:MB<wr.heap.size:=Nat.lt_of_lt_of_le hs3 hO.size;clear hlt hx hb3 hs3 hA3 hT3 hC3 hM3 hO;have hmk:=HM25.out;go_wp2;clear hmk;have hU5:Holds enc (wr.alloc (.cells (madeCells #[.int .u64 0] 25) 35)) wr.heap.size 0 (mG mk 0):=Holds.made (enc:=enc) wr 35 25 0;have hb5':Below wr.heap.size wr (wr.alloc (.cells (madeCells #[.int .u64 0] 25) 35)):=(Below.refl _ _).alloc (Nat.le_refl _) _;generalize hW5:(wr.alloc _)=W5 at hU5 hb5'⊢;have hs5:wr.heap.size<W5.heap.size:=by rw[<-hW5];simp
     have hM5:=Holds.below hM hb5' hs4;have hb5:=hb4.trans (hb5'.mono (by omega));clear hW5 hb5' hb4 hM;generalize hOB:wr.heap.size=OB at *;go_loopg [15] 5 (fun g s15 wr=>∃(x:Nat) (ok:St),x+g=5/\s15=.int .i64 x/\Holds enc wr OB 0 ok/\Only OB 0 25 W5 wr/\Hid (ok=mG mk x))
     case atStart=>exact⟨0,_,rfl,rfl,hU5,Only.refl _ _ _ _,rfl⟩
     case round =>
      obtain⟨x,ok,hx,rfl,hU,hO,HEu⟩:=hrel;have hus:ok.size=25:=by rw[HEu.out,rX]
      by_cases hlt:x<5
      ·have l5:(x:Int)<5:=by omega
       go_wp2;go_loopg [16] 5 (fun g s16 wq=>∃(y:Nat) (oy:St),y+g=5/\s16=.int .i64 y/\Holds enc wq OB 0 oy/\Only OB 0 25 W5 wq/\Hid (oy=rZ mk x ok y))
       case atStart=>exact⟨0,ok,rfl,rfl,hU,hO,rfl⟩
       case round =>
        obtain⟨y,oy,hy,rfl,hUy,hOy,HEy⟩:=hrel;have hoys:oy.size=25:=by rw[HEy.out,rY,hus]
        by_cases hlty:y<5
        ·have hMy:=Holds.other hM5 hOy (by omega) (by omega);obtain⟨i0,hi0⟩:∃i,x+5*y=i:=⟨_,rfl⟩
         obtain⟨i1,hi1⟩:∃i,(x+1)%5+5*y=i:=⟨_,rfl⟩
         obtain⟨i2,hi2⟩:∃i,(x+2)%5+5*y=i:=⟨_,rfl⟩
         obtain⟨z0,hz0⟩:∃z,mk[i0]! = z:=⟨_,rfl⟩
         obtain⟨z1,hz1⟩:∃z,mk[i1]! = z:=⟨_,rfl⟩
         obtain⟨z2,hz2⟩:∃z,mk[i2]! = z:=⟨_,rfl⟩
         obtain⟨c0,f0⟩:=aS hMy i0 (by omega) hz0;obtain⟨c1,f1⟩:=aS hMy i1 (by omega) hz1;obtain⟨c2,f2⟩:=aS hMy i2 (by omega) hz2;obtain⟨c3,f3⟩:=hUy i0 (by omega);rw[Nat.zero_add]at c0 c1 c2 c3 f3;have H0:Hid (x+5*y=i0):=hi0;have H1:Hid ((x+1)%5+5*y=i1):=hi1;have H2:Hid ((x+2)%5+5*y=i2):=hi2;have HV:Hid (mk[x+5*y]! ^^^ (~~~mk[(x+1)%5+5*y]! &&& mk[(x+2)%5+5*y]!)=z0 ^^^ (~~~z1 &&& z2)):=by
          show _=_;rw[hi0,hi1,hi2,hz0,hz1,hz2]
         have b0:i0<25:=by omega
         have b0':(i0:Int)<25:=by omega
         have b1':(i1:Int)<25:=by omega
         have b2':(i2:Int)<25:=by omega
         have y5:(y:Int)<5:=by omega
         have s1:IntKind.i64.wrap ((x:Int)+1)=(x:Int)+1:=IntWalk.i64_in _ (by omega);have s2:IntKind.i64.wrap ((x:Int)+2)=(x:Int)+2:=IntWalk.i64_in _ (by omega);clear hz0 hz1 hz2 hi0 hi1 hi2 f0 f1 f2;go_wp2_with fail
         refine wp_region_still_tail 28 mixed (by kernel_rfl) ?_;simp only[List.take_succ_cons,List.take_zero,List.drop_succ_cons,List.drop_zero];repeat still_step
         still_call (dX (x:Int) (y:Int) i0 _ (by omega) (by omega) (by have:=H0.out;omega))
         repeat still_step
         still_call (dX (x:Int) (y:Int) i0 _ (by omega) (by omega) (by have:=H0.out;omega))
         repeat still_step
         still_call (dX ((x:Int)+1) (y:Int) i1 _ (by omega) (by omega) (by have:=H1.out;omega))
         repeat still_step
         still_call (dX ((x:Int)+2) (y:Int) i2 _ (by omega) (by omega) (by have:=H2.out;omega))
         repeat still_step
         refine wpStill_nil ?_;go_wp2;go_roundg (gk-1)
         case measure=>omega
         case rel =>
          refine⟨y+1,oy.setIfInBounds i0 (z0 ^^^ (~~~z1 &&& z2)),by omega,by go_num,?_,?_,?_⟩
          ·have:=Holds.set hUy (i:=i0) (by omega) (z0 ^^^ (~~~z1 &&& z2));rw[Nat.zero_add]at this;exact Holds.drew this
          ·exact(hOy.setCell (o:=i0) (by omega) (by omega) _).drew
          ·show _=(rZ mk x ok y).setIfInBounds (x+5*y) (mk[x+5*y]! ^^^ (~~~mk[(x+1)%5+5*y]! &&& mk[(x+2)%5+5*y]!));rw[HV.out,H0.out,HEy.out]
        ·have hy5:y=5:=by omega
         subst hy5;go_wp2;go_roundg (4-x)
         case measure=>omega
         case rel =>
          refine⟨x+1,oy,by omega,by go_num,hUy,hOy,?_⟩;show _=rZ mk x (mG mk x) 5;rw[HEy.out,HEu.out]
      ·have hx5:x=5:=by omega
       subst hx5;obtain⟨z,hz⟩:∃z,ok[0]! = z:=⟨_,rfl⟩
       obtain⟨c0,f0⟩:=aS hU 0 (by omega) hz;rw[Nat.zero_add]at c0 f0;have HZ:Hid (ok[0]! = z):=hz;clear hz;go_wp2;go_ret;refine⟨OB,rfl,by omega,?_,?_⟩
       ·exact(hb5.trans (hO.below (by omega) (by omega))).setCell (p:=⟨OB,0,none⟩) (by show _<=OB;omega) _
       ·have e:dL a tn c=bN ok 0 c:=by unfold dL;rw[HEu.out,HEx.out,HE.out]
        rw[e];exact Holds.xor (i:=0) hU (by omega) HZ.out c
end SP
namespace SP
open Go.RowKit Go.Sort Go.Deep
attribute [local go_sem] cO cY cS mZ mM vN J7
theorem kN(s:ByteArray)(w:World)(hs:s.size=200):
 Calls prog 164 #[.string s] w fun e w'=>e=.returned (.string ⟨fJ s.data⟩)/\Below w.heap.size w w':=by
 have hmk25:∀w:World,(Instr.makeSlice 227 (.int .i64 25) (.int .i64 25)).run prog w=.ok (.slice (some ⟨w.heap.size,0,none⟩) 25 25) (w.alloc (.cells (madeCells #[.int .u64 0] 25) 35)):=
  run_make_row' (P:=prog) 227 35 (.int .u64 0) 8 vZ Bj rfl .i64 .i64 25 (by omega) (by omega)
 have hmk200:∀w:World,(Instr.makeSlice 22 (.int .i64 200) (.int .i64 200)).run prog w=.ok (.slice (some ⟨w.heap.size,0,none⟩) 200 200) (w.alloc (.cells (madeCells #[.int .u8 0] 200) 5)):=
  run_make_row' (P:=prog) 22 5 (.int .u8 0) 1 slice22 info5 rfl .i64 .i64 200 (by omega) (by omega)
 have HM200:Hid _:=hmk200;clear hmk200;go_enter Tryz.func164,Tryz.ntmps164;go_wp2;clear hmk25;have hA1:Holds enc (w.alloc (.cells (madeCells #[.int .u64 0] 25) 35)) w.heap.size 0 (mU s.data 0):=Holds.made (enc:=enc) w 35 25 0;have hb1:Below w.heap.size w (w.alloc (.cells (madeCells #[.int .u64 0] 25) 35)):=(Below.refl _ _).alloc (Nat.le_refl _) _;generalize hW1:(w.alloc _)=W1 at hA1 hb1⊢;have hs1:w.heap.size<W1.heap.size:=by rw[<-hW1];simp
 clear hW1;go_loopg [4] 200 (fun g s4 wr=>∃(i:Nat) (dk:St),i+g=200/\s4=.int .i64 i/\Holds enc wr w.heap.size 0 dk/\Only w.heap.size 0 25 W1 wr/\Hid (dk=mU s.data i))
 case atStart=>exact⟨0,_,rfl,rfl,hA1,Only.refl _ _ _ _,rfl⟩
 case round =>
  obtain⟨i,dk,hi,rfl,hD,hO,HE⟩:=hrel;have hds:dk.size=25:=by rw[HE.out,jH]
  by_cases hlt:i<200
  ·obtain⟨x,hx⟩:∃x,dk[i/8]! = x:=⟨_,rfl⟩
   obtain⟨c0,f0⟩:=aS hD (i/8) (by omega) hx;rw[Nat.zero_add]at c0 f0;have HX:Hid (dk[i/8]! = x):=hx;clear hx;have l200:(i:Int)<200:=by omega
   have p0:0<=(i:Int)/8:=by omega
   have p1:(i:Int)/8<25:=by omega
   have p2:((i:Int)/8).toNat=i/8:=by omega
   have s1:IntKind.i64.wrap ((i:Int)/8)=(i:Int)/8:=IntWalk.i64_in _ (by omega);have s2:IntKind.i64.wrap (8*((i:Int)%8))=8*((i:Int)%8):=IntWalk.i64_in _ (by omega);have s3:0<=8*((i:Int)%8):=by omega
   have s4:8*((i:Int)%8)<=64:=by omega
   have s5:(8*((i:Int)%8)).toNat=8*(i%8):=by omega
   have his:(i:Int)<(s.size:Int):=by omega
   have his':i<s.size:=by omega
   have tm:(i:Int).tmod 8=(i:Int)%8:=Int.tmod_eq_emod_of_nonneg (by omega);obtain⟨y,hy⟩:∃y,wide s.data[i]! = y:=⟨_,rfl⟩
   have hsb:IntKind.u64.wrap (s[i].toNat:Int)=u y:=by
    have e:s.data[i]! = s[i]:=getElem!_pos s.data i his';rw[<-hy,e];exact vN s[i]
   have HY:Hid (wide s.data[i]! = y):=hy;clear hy;have sh:=uG y (8*(i%8));go_wp2_with fail
   go_still_tail 18,mixed;go_wp2;go_roundg (gk-1)
   case measure=>omega
   case rel =>
    refine⟨i+1,dk.setIfInBounds (i/8) (x ||| y <<< (8*(i%8))),by omega,by go_num,?_,?_,?_⟩
    ·have:=Holds.set hD (i:=i/8) (by omega) (x ||| y <<< (8*(i%8)));rw[Nat.zero_add]at this;exact Holds.drew this
    ·exact(hO.setCell (o:=i/8) (by omega) (by omega) _).drew
    ·show _=(mU s.data i).setIfInBounds (i/8) ((mU s.data i)[i/8]! ||| wide s.data[i]! <<< (8*(i%8)));rw[HY.out,<-HE.out,HX.out]
  ·have hi200:i=200:=by omega
   subst hi200;have hb2:Below w.heap.size w wr:=hb1.trans (hO.below (by omega) (Nat.le_refl _));have hs2:w.heap.size<wr.heap.size:=Nat.lt_of_lt_of_le hs1 hO.size;clear hlt hi hA1 hb1 hs1 hO;go_wp2_with fail
   refine(yY _).mono ?_;rintro e w3 ⟨rfl,hb3,hT⟩;have hD3:=Holds.below hD hb3 hs2;have hb4:=hb2.trans (hb3.mono (by omega));have hs3:wr.heap.size<w3.heap.size:=Holds.lt hT (by rw[jU];omega);generalize hTB:wr.heap.size=TB at *;clear hb2 hb3 hD;go_wp2;go_loopg [3,6] 24 (fun g s3 s6 wr=>∃(k ab:Nat) (dk:St),k+g=24/\s6=.int .i64 k/\s3=.slice (some ⟨ab,0,none⟩) 25 25/\Holds enc wr ab 0 dk/\w.heap.size<=ab/\Holds encI wr TB 0 cK/\Below w.heap.size w wr/\Hid (dk=yI (mU s.data 200) k))
   case atStart=>exact⟨0,w.heap.size,dk,rfl,rfl,rfl,hD3,Nat.le_refl _,hT,hb4,HE⟩
   case round =>
    clear hT hb4 hD3 HE hds dk;obtain⟨k,ab,dk,hk,rfl,rfl,hD,hab,hT,hb,HE⟩:=hrel;have hds:dk.size=25:=by
     rw[HE.out];cases k with
     | zero=>exact jH _ _
     | succ k=>exact tU _ _ _
    by_cases hlt:k<24
    ·have l24:(k:Int)<24:=by omega
     go_wp2_with fail
     refine(wZ k _ hlt).mono ?_;rintro e w4 ⟨rfl,rfl⟩;go_wp2_with fail
     refine(DC ab TB dk cK (Bz k) _ hds jU hD hT Bd).mono ?_;rintro e w5 ⟨r,rfl,hr,hb5,hR⟩;have hTl:=Holds.lt hT (by rw[jU];omega);have hsz:=hb.size;go_wp2;go_roundg (gk-1)
     case measure=>omega
     case rel =>
      refine⟨k+1,r,dL dk cK (Bz k),by omega,by go_num,rfl,hR,by omega,Holds.below hT hb5 hTl,hb.trans (hb5.mono (by omega)),?_⟩;rw[HE.out];rfl
    ·have hk24:k=24:=by omega
     subst hk24;have hmk:=HM200.out;go_wp2;clear hmk;have hsz:=hb.size;have hal:=Holds.lt hD (by omega);have hF1:Holds encB (wr.alloc (.cells (madeCells #[.int .u8 0] 200) 5)) wr.heap.size 0 (dH dk 200 0):=Holds.made (enc:=encB) wr 5 200 0;have hb6:Below wr.heap.size wr (wr.alloc (.cells (madeCells #[.int .u8 0] 200) 5)):=(Below.refl _ _).alloc (Nat.le_refl _) _;generalize hW6:(wr.alloc _)=W6 at hF1 hb6⊢;have hs6:wr.heap.size<W6.heap.size:=by rw[<-hW6];simp
     have hD6:=Holds.below hD hb6 hal;have hb7:=hb.trans (hb6.mono hsz);clear hW6 hb6 hb hD hT;generalize hFB:wr.heap.size=FB at *;go_loopg [8] 200 (fun g s8 wr=>∃(i:Nat) (bs:Bs),i+g=200/\s8=.int .i64 i/\Holds encB wr FB 0 bs/\Only FB 0 200 W6 wr/\Hid (bs=dH dk 200 i))
     case atStart=>exact⟨0,_,rfl,rfl,hF1,Only.refl _ _ _ _,rfl⟩
     case round =>
      obtain⟨i,bs,hi,rfl,hB,hO,HEb⟩:=hrel;have hbs:bs.size=200:=by rw[HEb.out,fS]
      by_cases hlt:i<200
      ·have hDw:=Holds.other hD6 hO (by omega) (by omega);obtain⟨x,hx⟩:∃x,dk[i/8]! = x:=⟨_,rfl⟩
       obtain⟨c0,f0⟩:=aS hDw (i/8) (by omega) hx;obtain⟨c1,f1⟩:=hB i (by omega);rw[Nat.zero_add]at c0 c1 f1;have HX:Hid (byteOf dk i=low (x >>> (8*(i%8)))):=by show low _=_;rw[hx]
       clear hx f0;have p1:(i:Int)/8<25:=by omega
       have l200:(i:Int)<200:=by omega
       have hsr:=Cm x (8*(i%8));go_wp2;go_roundg (gk-1)
       case measure=>omega
       case rel =>
        refine⟨i+1,bs.setIfInBounds i (low (x >>> (8*(i%8)))),by omega,by go_num,?_,?_,?_⟩
        ·have:=Holds.set hB (i:=i) (by omega) (low (x >>> (8*(i%8))));rw[Nat.zero_add]at this;exact this
        ·exact hO.setCell (o:=i) (by omega) (by omega) _
        ·show _=(dH dk 200 i).setIfInBounds i (byteOf dk i);rw[HX.out,HEb.out]
      ·have hi200:i=200:=by omega
       subst hi200;have kc:=conv_str prog 22 9 5 slice22 int5 str9 wr FB 0 200 200 bs hB hbs;go_wp2;go_ret;have e1:bs=fJ s.data:=by rw[HEb.out,HE.out];exact DD s.data
       rw[e1];exact⟨rfl,hb7.trans (hO.below (by omega) (by omega))⟩
end SP
end Go.Proofs.YtgbjainaafdpgaaGreat
