import Derived.Deep.LoopGhost
import Derived.Lib.SlBytesConst
import Derived.Laws.AppendOwn
import Derived.Deep.AppendSrc
import Derived.Lib.AppendZeros
import Derived.Deep.MidRow
import Derived.BigQuiet
import Derived.Lib.ConvBytes
import Derived.BigRegion
import Derived.Deep.RegionLaw
import Derived.Laws.OwnMore
import Derived.StillTailTactics
import Derived.ChangeOld
import Derived.Below
import Derived.WalkKit
import Derived.ProofKit
import Derived.OpenShut
import Derived.ShutString
import Derived.Test.YtbceebahamkmdaaGreatBs8
set_option linter.unusedVariables false
set_option linter.unusedSimpArgs false
set_option maxRecDepth 1000000
set_option maxHeartbeats 4000000
namespace Go.Proofs.YtbceebahamkmdaaGreat
open _root_.Array renaming getElem?_eq_none->SE,getElem?_push_size->Va,length_toList->P5,replicate->P3,size->Ue,size_append->Qg,size_setIfInBounds->Qw
open _root_.ByteArray renaming empty->Tg
open _root_.Go.Addr renaming add->Un
open _root_.Go.Builtin renaming append_->QV,firstCells->Xp,growBy->Xo,nextslicecap->Tk
open _root_.Go.IntKind renaming u8->Uh
open _root_.Go.Lib renaming wpList_append_run->Rj
open _root_.Go.RowKit.Below renaming refl->Qd
open _root_.Go.Value renaming ownBlock->Sf
open _root_.Go.World renaming cell?->Rs,frozen?->S6,size_alloc->P4
open _root_.List renaming getElem?_eq_getElem->Qb,getElem?_map->Re,getElem?_range->Uq,length_eq_zero_iff->Vf,map_append->SJ,nil_append->U2,range->QJ,range_succ->Tw
open _root_.Nat renaming le_refl->PX,le_trans->Qj,lt_of_lt_of_le->PY,not_lt_zero->Wt,zero_add->P0,zero_le->Rh
open _root_.Option renaming map_eq_some_iff->PZ,some->Qn
open _root_.Or renaming inl->Qh,inr->Qc
open _root_.Prod renaming mk->Ro
open _root_.UInt8 renaming ofNat->P6
open Go.Proofs.Tryz (prog)
section
theorem Lu:Go.Proofs.YtbceebahamkmdaaGreat.p1=EC.nL:=by decide +kernel
variable {P:Nat}[NeZero P]
theorem order2(C:Fld P)(r:EC.Pt P)(hr:EC.On r):EC.mul Go.Proofs.YtbceebahamkmdaaGreat.p1 r=none:=by
 rw[Lu];have hP:P=EC.pL:=by
  rw[C.eq];rfl
 exact EC.order C.cur hP (qB C) hr
end
section
open Go.RowKit Go.Sort Go.Deep
variable {P:Nat}[NeZero P]{N:Nat}
theorem Pd:Ord Go.Proofs.YtbceebahamkmdaaGreat.p1:=⟨Pw,Nk,by decide +kernel,by decide +kernel⟩
theorem mul_ne(C:Fld P)(hord:∀r:EC.Pt P,EC.On r->EC.mul N r=none)(hp:NT.IsP N){X:EC.Pt P}(hX:EC.On X)(h0:X≠none){x:Nat}(hx:x<N)(hx0:x≠0):EC.mul x X≠none:=fun e=>by
 have hnd:¬N ∣ x:=fun h=>by
  have:=Nat.le_of_dvd (by omega) h;omega
 have hf:=hp.fermat1 x hnd;have hN1:1<=N-1:=by
  have:=hp.1;omega
 have h1:EC.mul (x^(N-1)) X=X:=by
  rw[<-mul_mod C hord hX,hf];exact EC.dK X
 have h2:x^(N-1)=x*x^(N-1-1):=by
  rw[Nat.mul_comm,<-Nat.pow_succ]
  congr 1
  omega
 rw[h2,EC.iP C.cur hX,e,EC.jM]at h1;exact h0 h1.symm
theorem Ia(a g b:Bs)(pr:ByteArray):vsP P N a g b pr.data=vsT P N a g b pr:=by
 have e1:(pr.extract 0 32).data=pr.data.extract 0 32:=by simp
 have e2:(pr.extract 32 64).data=pr.data.extract 32 64:=by simp
 have e3:(!((pr.size:Int) == 64)) = !decide (pr.data.size=64):=by
  by_cases h:pr.size=64
  ·have h':pr.data.size=64:=h;rw[h,decide_eq_true h'];rfl
  ·have h':¬pr.data.size=64:=h;have h2:((pr.size:Int) == 64)=false:=by simpa using(by omega:¬(pr.size:Int)=64)
   rw[h2,decide_eq_false h']
 unfold vsP vsT vsR RpT;rw[e1,e2,e3];generalize decide (vsM P N a g b (nuV (pr.data.extract 0 32)) (nuV (pr.data.extract 32 64))=nuV (pr.data.extract 0 32))=u;generalize decide (pr.data.size=64)=v;generalize real P a=x;generalize real P g=y;generalize real P b=z;generalize (rq N (pr.data.extract 0 32)).isSome=r;generalize (rq N (pr.data.extract 32 64)).isSome=s;cases u<;>cases v<;>cases x<;>cases y<;>cases z<;>cases r<;>cases s<;>rfl
theorem wO{w:World}{k cap:Nat}{s:ByteArray}(hs:s.size<=4096)(hc:s.size<=cap)(hH:Holds encB w k 0 s.data):SP.PartOk w (.slice (some ⟨k,0,none⟩) s.size cap) s.data.toList:=
 ⟨_,k,0,cap,s.data,rfl,rfl,hc,Qj hs (by decide),Qc ⟨rfl,hH⟩⟩
end
namespace RG
open Go Go.RowKit
variable {P:Program}{ops:Array Oper}{Q:Exit->Act->World->Prop}{w0:World}{k0:Nat}{X:List Nat}{its:List It}{bl:List Bl}{olds:List (Tmp × SV)}{i:Nat}{o:Oper}{it:It}
end RG
section
open Go.RowKit Go.Sort Go.Deep
variable {P:Nat}[NeZero P]
end
section
open Go.RowKit Go.Sort Go.Deep
variable {P:Nat}[NeZero P]{N:Nat}
def nZ:Bs:=(P3 32 (0:UInt8)).setIfInBounds 31 1
theorem Gj:beV nZ.toList=1:=by decide +kernel
theorem Jr(hN:1<N):rq N nZ=some 1:=by
 unfold rq;rw[Gj,if_pos ⟨by decide +kernel,hN⟩]
theorem El.partk{n:Nat}{W:World}{x:Value}{b:Bs}(h:El n W x b)(hn:n<=4096):SP.PartOk W x b.toList:=by
 obtain⟨k,c,rfl,h1,h2,h3,h4⟩:=h;subst h2;exact⟨_,k,0,c,b,rfl,rfl,h1,Qj hn (by decide),Qc ⟨rfl,h4⟩⟩
theorem BP:gG P≠none:=fun h=>by unfold gG at h;cases h
theorem yI(C:Fl3 P)(O:Ord N)(hord:∀r:EC.Pt P,EC.On r->EC.mul N r=none)(p0 p1 p2 p3:Option Addr)(n0 n1 n2 n3 c0 c1 c2 c3:Nat)(a g b pr:Bs)(w:World)(h0:Arg33 w (.slice p0 n0 c0) a)(h1:Arg33 w (.slice p1 n1 c1) g)(h2:Arg33 w (.slice p2 n2 c2) b)(h3:SP.PartOk w (.slice p3 n3 c3) pr.toList):
 Calls prog 6 #[.slice p0 n0 c0,.slice p1 n1 c1,.slice p2 n2 c2,.slice p3 n3 c3] w (Ret fun e w'=>Below w.heap.size w w'/\e=.bool (vsP P N a g b pr)):=by
 have H:=Hid.mk' (H9 C O hord p0 p1 p2 p3 n0 n1 n2 n3 c0 c1 c2 c3 a g b pr w h0 h1 h2 h3);clear h0 h1 h2 h3 C O hord;go_enter Tryz.func6,Tryz.ntmps6;go_wp2_with fail
 refine H.out.mono ?_;rintro e w' ⟨v,rfl,hb,rfl⟩;go_wp2_with fail
 go_ret;exact⟨_,rfl,hb,rfl⟩
theorem Mj(C:Fl3 P)(O:Ord N)(p0 p1:Option Addr)(n0 c0 n1 c1:Nat)(sk b:Bs)(w:World)(hA:Arg w (.slice p0 n0 c0) sk)(h0:SP.PartOk w (.slice p0 n0 c0) sk.toList)(hA1:Arg33 w (.slice p1 n1 c1) b)(h1:SP.PartOk w (.slice p1 n1 c1) b.toList):
 Calls prog 4 #[.slice p0 n0 c0,.slice p1 n1 c1] w (Ret fun e w'=>Below w.heap.size w w'/\∃q n cap q' n' cap',e=.tuple #[.slice q n cap,.slice q' n' cap',.int .i64 (bsT P N sk b).2.2]/\Cw w' q n cap (bsT P N sk b).1/\Cw w' q' n' cap' (bsT P N sk b).2.1):=by
 unfold bsT;cases hs:sec N sk with
 | false =>
  refine(GT O _ (.slice p1 n1 c1) sk w hA hs).mono ?_;rintro e w' ⟨v,rfl,hb,rfl⟩;exact⟨_,rfl,hb,none,0,0,none,0,0,rfl,Qh ⟨rfl,rfl,rfl,rfl⟩,Qh ⟨rfl,rfl,rfl,rfl⟩⟩
 | true =>
  cases hr:real P b with
  | false =>
   refine(GR C.toFld O _ _ sk b w hA hA1 hs hr).mono ?_;rintro e w' ⟨v,rfl,hb,rfl⟩;exact⟨_,rfl,hb,none,0,0,none,0,0,rfl,Qh ⟨rfl,rfl,rfl,rfl⟩,Qh ⟨rfl,rfl,rfl,rfl⟩⟩
  | true =>
   refine(Dv C O p0 p1 n0 c0 n1 c1 sk b w hA h0 hA1 h1 hs hr).mono ?_;rintro e w' ⟨v,rfl,hb,a,v',rfl,ha,hv⟩;obtain⟨q,n,cap,rfl,hC⟩:=ha.cw;obtain⟨q',n',cap',rfl,hC'⟩:=hv.cw;exact⟨_,rfl,hb,q,n,cap,q',n',cap',rfl,hC,hC'⟩
end
namespace SP
open Go.RowKit Go.Sort Go.Deep
end SP
section
open Go.RowKit Go.Sort Go.Deep
variable {P:Nat}[NeZero P]{N:Nat}
theorem MV:prog.underlying 31=some (.slice 22):=by kernel_rfl
theorem LS:(prog.info? 22).map (fun i=>(i.size,i.bytes,i.zero.map fun z=>z.cells.size))=some (1,24,some 1):=by kernel_rfl
theorem Kx(g o j:Nat):(⟨g,o,none⟩:Addr).add j=⟨g,o+j,none⟩:=by
 unfold Un;by_cases h0:j=0
 ·subst h0;rw[if_pos rfl];rfl
 ·rw[if_neg h0]
end
section
open Go.RowKit Go.Sort Go.Deep
theorem Hid.mkP{p:Prop}(h:p):Hid p:=h
section
variable {P:Program}{ops:Array Oper}{rest:List Oper}{op:Oper}{a:Act}{w w':World}{v:Value}{Q:Exit->Act->World->Prop}
end
theorem fL(w:World)(o:Obj):Below w.heap.size w (w.alloc o):=(Qd _ _).alloc (PX _) _
theorem m8(w:World)(cs:Array Value)(T:TypeId)(j:Nat)(v:Value)(h:cs[j]? = some v):(w.alloc (.cells cs T)).cell? ⟨w.heap.size,j,none⟩=some v:=by
 unfold World.alloc Rs;simp[h]
end
section
open Go.RowKit Go.Sort Go.Deep
variable {P:Nat}[NeZero P]{N:Nat}
def Pt(W:World)(u:Value)(b:SP.Bs):Prop:=∃q c,u=.slice q (Ue b) c/\(b.size=0\/∃g o,q=some ⟨g,o,none⟩/\g<W.heap.size/\Holds SP.encB W g o b)
theorem Pt.conv{W:World}{u:Value}{b:SP.Bs}(h:Pt W u b):(convert 22 9 u).run prog W=.ok (.string ⟨b⟩) W:=by
 obtain⟨q,c,rfl,h2|⟨g,o,rfl,h4,h5⟩⟩:=h
 ·obtain rfl:b=#[]:=Array.eq_empty_of_size_eq_zero h2;cases q with
  | none=>exact run_convert_bytes_nil (P:=prog) (w:=W) 22 5 SP.slice22 SP.int5 0 c 9 SP.str9
  | some a=>exact run_convert_bytes_back (P:=prog) W 22 9 5 a c [] SP.slice22 SP.int5 SP.str9 (fun j hj=>by cases hj)
 ·exact SP.conv_str prog 22 9 5 SP.slice22 SP.int5 SP.str9 W g o _ c b h5 rfl
theorem range_below{w w':World}{b o:Nat}{cs:List Value}(h:w.rangeAt b o cs)(hb:Below w.heap.size w w')(hlt:b<w.heap.size):w'.rangeAt b o cs:=fun j u hj=>by rw[hb.cell (p:=⟨b,o+j,none⟩) hlt];exact h j u hj
theorem zE(n c:Nat)(h:c<n):Tk n c<=2*n+768:=by
 unfold Tk;split
 ·omega
 ·split
  ·omega
  ·simp only[Xo];repeat' split
   all_goals omega
theorem LQ:(prog.info? 5).map (fun i=>(i.size,i.bytes,i.zero.map fun z=>z.cells.size))=some (1,1,some 1):=by kernel_rfl
def bC(b:SP.Bs):List Value:=b.toList.map SP.encB
theorem GY(b:SP.Bs):(bC b).length=b.size:=by unfold bC;simp
theorem GZ(a b:SP.Bs):bC (a++b)=bC a++bC b:=by unfold bC;simp
theorem MW:prog.underlying 22=some (.slice 5):=by kernel_rfl
theorem Bp{base n m size c:Nat}{T e:TypeId}{i:TypeInfo}{z:Value}{W W':World}{v v':Value}{xs news:List Value}{a:Addr}(hT:prog.underlying T=some (.slice e))(hi:prog.info? e=some i)(hz:i.zero=some z)(hsz:i.size=size)(hby:i.bytes<=1000)
 (hown:W.ownsRow base e size v n xs) (hs:Src prog size T (.slice (some a) m c) m news W) (hn:n+m<=1000000000)
 (hr:(QV #[T,T] T #[v,.slice (some a) m c]).run prog W=.ok v' W'):v'.ownBlock=v.ownBlock\/(v'.ownBlock=some W.heap.size/\Below W.heap.size W W'):=by
 subst hsz;have hgrow:∀(q:Option Addr) (cap:Nat) (olds:List Value),v=.slice q n cap->cap<n+m->(Xp i.size n (.slice q n cap)).run prog W.drew=.ok olds.toArray W.drew->v'.ownBlock=v.ownBlock\/(v'.ownBlock=some W.heap.size/\Below W.heap.size W W'):=fun q cap olds hv hc hold=>by
  have h1:=zE (n+m) cap hc;have h2:Tk (n+m) cap*i.bytes<=(2*(n+m)+768)*1000:=Nat.mul_le_mul h1 hby;have hap:=run_append_grow_src (P:=prog) W T T T e i z hT hi hz q n cap olds hold (.slice (some a) m c) m news hs hc (by omega) (Qj h2 (by clear h1 h2;omega));rw[hv,hap]at hr;injection hr with hr1 hr2
  right;refine⟨by rw[<-hr1];rfl,?_⟩;rw[<-hr2];exact(⟨rfl,rfl,rfl,PX _,fun _ _=>rfl⟩:Below W.heap.size W W.drew).trans (fL W.drew _)
 rcases id hown with⟨-,⟨rfl,rfl⟩|⟨g,cap,cur,rfl,g1,g2,g3,g4,g5,g6⟩⟩
 ·by_cases hm:m=0
  ·subst hm;have hr':=hr;obtain⟨w1,hr2⟩:∃w1,(QV #[T,T] T #[.slice none 0 0,.slice (some a) 0 c]).run prog W=.ok (.slice none 0 0) w1:=by
    rcases hs.kind with⟨e',hk⟩|hk<;>exact⟨_,by simp[QV,run_underlying hT,run_underlying hk,sizeOf,typeInfo,hi,hs.len,hs.cells];rfl⟩
   rw[hr2]at hr;injection hr with hr1 hr2
   left;rw[<-hr1]
  ·exact hgrow none 0 [] rfl (by omega) (run_firstCells_none W.drew i.size 0 0 0)
 ·by_cases hroom:n+m<=cap
  ·have hap:=run_append_room_src (P:=prog) W T T T e i hT hi g 0 n cap (.slice (some a) m c) m news hs hroom
    (fun j hj=>by
     have hj2:n*i.size+j<cur.size:=by
      rw[g5];have h1:j<m*i.size:=by rw[<-hs.newsLen];exact hj
      have h2:(n+m)*i.size<=cap*i.size:=Nat.mul_le_mul_right _ hroom;rw[Nat.add_mul]at h2;omega
     simp[Rs,g2,P0,Array.getElem?_eq_getElem hj2])
    (fun j hj=>by simp[S6,g2])
   rw[hap]at hr;injection hr with hr1 hr2
   left;rw[<-hr1];rfl
  ·refine hgrow (some ⟨g,0,none⟩) cap xs rfl (by omega) ?_;exact run_firstCells_some W.drew i.size n ⟨g,0,none⟩ n cap xs hown.1 (fun j u hj=>by rw[World.cell?_drew];exact hown.cells (g:=g) rfl j u hj)
structure Ap1(W W':World)(v v':Value):Prop where
 os:W'.os=W.os
 tape:W'.tape=W.tape
 output:W'.output=W.output
 size:W.heap.size<=W'.heap.size
 keep:∀g,g<W.heap.size->v.ownBlock≠some g->W'.heap[g]? = W.heap[g]?
 mv:v'.ownBlock=v.ownBlock\/((∃g,v'.ownBlock=some g/\W.heap.size<=g)/\∀g,g<W.heap.size->W'.heap[g]? = W.heap[g]?)
theorem cT{W W':World}{base n k:Nat}{e:TypeId}{v:Value}{xs:List Value}(h:W.ownsRow base e k v n xs)(hk:∀g,v.ownBlock=some g->W'.heap[g]? = W.heap[g]?):W'.ownsRow base e k v n xs:=by
 rcases h with⟨h0,h1|⟨g,cap,cur,rfl,h2,h3,h4⟩⟩
 ·exact⟨h0,Qh h1⟩
 ·exact⟨h0,Qc ⟨g,cap,cur,rfl,h2,by rw[hk g rfl];exact h3,h4⟩⟩
theorem cL{W:World}{base n k g:Nat}{e:TypeId}{v:Value}{xs:List Value}(h:W.ownsRow base e k v n xs)(hg:v.ownBlock=some g):base<=g/\g<W.heap.size/\∃cur,W.heap[g]? = some (.cells cur e (0,0)):=by
 rcases h with⟨h0,⟨rfl,-⟩|⟨g',cap,cur,rfl,h2,h3,h4⟩⟩
 ·cases hg
 ·obtain rfl:g'=g:=Qn.inj hg;refine⟨h2,?_,cur,h3⟩;by_cases hg:g'<W.heap.size
  ·exact hg
  ·rw[SE (by omega)]at h3;cases h3
theorem rY{base n by':Nat}{T e:TypeId}{W:World}{v x:Value}{xs:List Value}(hT:prog.underlying T=some (.slice e))(hI:(prog.info? e).map (fun i=>(i.size,i.bytes,i.zero.map fun z=>z.cells.size))=some (1,by',some 1))(hby:by'<=1000)
 (hown:W.ownsRow base e 1 v n xs) (hx:x.oneCell'=true) (hn:n<=100000000) (hb:base<=W.heap.size) :
 ∃v' W',(QV #[T,T] T #[v,.slice (some ⟨W.heap.size,0,none⟩) 1 1]).run prog (W.alloc (.cells #[x] e))=.ok v' W'/\W'.ownsRow base e 1 v' (n+1) (xs++[x])/\Ap1 W W' v v':=by
 obtain⟨i,hi,he⟩:=PZ.1 hI;simp only[Ro.injEq]at he;obtain⟨h1,h2,h3⟩:=he;obtain⟨z,hz,hz2⟩:=PZ.1 h3;have ba:=fL W (.cells #[x] e);have hz1:(W.alloc (.cells #[x] e)).heap.size=W.heap.size+1:=P4 _ _;have ho:(W.alloc (.cells #[x] e)).ownsRow base e 1 v n xs:=cT hown (fun g hg=>ba.block g (cL hown hg).2.1);have hc:∀(j:Nat) u,[x][j]? = some u->(W.alloc (.cells #[x] e)).cell? ((⟨W.heap.size,0,none⟩:Addr).add j)=some u:=fun j u hj=>by
  rw[Kx,P0];exact m8 W _ _ j u (by simpa using hj)
 have h1x:∀u∈[x],u.oneCell'=true:=fun u hu=>by
  obtain rfl:u=x:=by simpa using hu
  exact hx
 obtain⟨v',W',r1,r2,r3,-⟩:=run_append_own (P:=prog) (W.alloc (.cells #[x] e)) base T T e i z 1 by' hT hi hz h1 h2 hz2 (by decide) v n xs ho ⟨W.heap.size,0,none⟩ 1 1 [x] rfl hc h1x (by unfold maxLen;omega) (by
  have:(n+1)*by'<=(n+1)*1000:=Nat.mul_le_mul_left _ hby;omega) (by omega)
 have hq:=Bp (c:=1) hT hi hz h1 (by omega) ho (Src.ofSlice (P:=prog) (size:=1) (W.alloc (.cells #[x] e)) hT ⟨W.heap.size,0,none⟩ 1 1 [x] rfl hc h1x) (by omega) r1;refine⟨v',W',r1,r2,r3.os,r3.tape,r3.output,by have:=r3.size;omega,fun g hg hv=>?_,?_⟩
 ·rw[r3.block g (by omega) (fun h=>hv h.symm),ba.block g hg]
 ·rcases hq with h|⟨h,hbl⟩
  ·exact Qh h
  ·refine Qc ⟨⟨_,h,by omega⟩,fun g hg=>?_⟩;rw[hbl.block g (by omega),ba.block g hg]
def FrB(W:World)(g:Nat)(b:SP.Bs):Prop:=∃cur,W.heap[g]? = some (.cells cur 5 (0,0))/\cur.toList.take b.size=bC b
def RV(W:World)(v:Value)(b:SP.Bs):Prop:=(b.size=0/\v=.slice none 0 0)\/∃g c,v=.slice (some ⟨g,0,none⟩) b.size c/\FrB W g b
theorem RV.keep{W W':World}{v:Value}{b:SP.Bs}(h:RV W v b)(hk:∀g,v.ownBlock=some g->W'.heap[g]? = W.heap[g]?):RV W' v b:=by
 rcases h with h|⟨g,c,rfl,cur,h1,h2⟩
 ·exact Qh h
 ·exact Qc ⟨g,c,rfl,cur,by rw[hk g rfl];exact h1,h2⟩
theorem RV.of{W:World}{base:Nat}{v:Value}{b:SP.Bs}(h:W.ownsRow base 5 1 v b.size (bC b)):RV W v b:=by
 rcases h with⟨h0,⟨rfl,h1⟩|⟨g,cap,cur,rfl,h2,h3,h4,h5,h6,h7⟩⟩
 ·exact Qh ⟨h1,rfl⟩
 ·exact Qc ⟨g,cap,rfl,cur,h3,by rw[Nat.mul_one]at h7;exact h7⟩
theorem RV.slice{W:World}{v:Value}{b:SP.Bs}(h:RV W v b):∃q c,v=.slice q b.size c:=by
 rcases h with⟨h,rfl⟩|⟨g,c,rfl,-⟩
 ·exact⟨none,0,by rw[h]⟩
 ·exact⟨_,_,rfl⟩
theorem RV.at{W:World}{v:Value}{b:SP.Bs}(h:RV W v b){k:Nat}(hk:k<b.size):∃g c,v=.slice (some ⟨g,0,none⟩) b.size c/\W.cell? ⟨g,k,none⟩=some (SP.encB b[k]!)/\W.frozen? ⟨g,k,none⟩=false:=by
 rcases h with⟨h,-⟩|⟨g,c,rfl,cur,h1,h2⟩
 ·omega
 ·refine⟨g,c,rfl,?_,by simp[S6,h1]⟩;have h3:(cur.toList.take b.size)[k]? = some (SP.encB b[k]!):=by
   rw[h2];unfold bC;rw[Re,Qb (by simpa using hk),Option.map_some,getElem!_pos b k hk];simp
  rw[List.getElem?_take,if_pos hk]at h3;unfold Rs;rw[h1];simpa using h3
theorem RV.pt{W:World}{v:Value}{b:SP.Bs}(h:RV W v b):Pt W v b:=by
 rcases id h with⟨h1,rfl⟩|⟨g,c,rfl,cur,h1,h2⟩
 ·exact⟨none,0,by rw[h1],Qh h1⟩
 ·refine⟨_,_,rfl,Qc ⟨g,0,rfl,?_,fun j hj=>?_⟩⟩
  ·by_cases hg:g<W.heap.size
   ·exact hg
   ·rw[SE (by omega)]at h1;cases h1
  ·obtain⟨g',c',e,h3,h4⟩:=h.at hj;injection e with e _ _
   injection e with e
   injection e with e _ _
   subst e;rw[P0];exact⟨h3,h4⟩
theorem RV.front{W:World}{g c:Nat}{b x:SP.Bs}(h:RV W (.slice (some ⟨g,0,none⟩) (b++x).size c) (b++x)):FrB W g b:=by
 rcases h with⟨-,h⟩|⟨g',c',e,cur,h1,h2⟩
 ·cases h
 ·injection e with e _ _
  injection e with e
  injection e with e _ _
  subst e;refine⟨cur,h1,?_⟩;have h3:=congrArg (List.take b.size) h2;rw[List.take_take,Nat.min_eq_left (by rw[Qg];omega),GZ,List.take_append_of_le_length (by rw[GY];omega)]at h3;rw[h3];exact List.take_of_length_le (by rw[GY];omega)
def mL(i j:Nat):UInt8:=P6 ((i*37+j)%253) ^^^ 90
theorem vE(i j:Nat):bits .xor .u8 (((i:Int)*37+(j:Int))%253) 90=SP.ub (mL i j):=by
 have H:∀j:Fin 253,bits .xor .u8 (j.val:Int) 90=SP.ub (P6 j.val ^^^ 90):=by decide +kernel
 have:=H ⟨(i*37+j)%253,Nat.mod_lt _ (by decide)⟩;have e:(((i*37+j)%253:Nat):Int)=((i:Int)*37+(j:Int))%253:=by omega
 simp only[e]at this;exact this
theorem xZ(x:UInt8):Uh.wrap (SP.ub x+1)=SP.ub (x+1):=by
 have H:∀j:Fin 256,Uh.wrap ((j.val:Int)+1)=(((P6 j.val+1).toNat:Nat):Int):=by decide +kernel
 have:=H ⟨x.toNat,x.toNat_lt⟩;unfold SP.ub;simp only[UInt8.ofNat_toNat]at this;exact this
def flQ(b:SP.Bs)(i:Nat):Nat->SP.Bs
 | 0=>b
 | j+1=>flQ b i j++#[mL i j]
theorem cU(b:SP.Bs)(i:Nat):∀j,(flQ b i j).size=b.size+j
 | 0=>rfl
 | j+1=>by rw[flQ,Qg,cU b i j];rfl
theorem vL(a x:SP.Bs)(k:Nat)(h:k<a.size):(a++x)[k]! = a[k]!:=by
 rw[getElem!_pos (a++x) k (by rw[Qg];omega),getElem!_pos a k h,Array.getElem_append_left h]
theorem Dd(b:SP.Bs)(i k:Nat)(hk:k<b.size):∀j,(flQ b i j)[k]! = b[k]!
 | 0=>rfl
 | j+1=>by rw[flQ,vL _ _ _ (by rw[cU];omega),Dd b i k hk j]
theorem zY(b:SP.Bs)(i k:Nat):∀j,k<j->(flQ b i j)[b.size+k]! = mL i k
 | 0,h=>absurd h (by omega)
 | j+1,h=>by
  rw[flQ];by_cases e:k=j
  ·subst e;rw[getElem!_pos (flQ b i k++#[mL i k]) (b.size+k) (by rw[Qg,cU];show _<_+1;omega),Array.getElem_append_right (by rw[cU];omega)];simp[cU]
  ·rw[vL _ _ _ (by rw[cU];omega),zY b i k j (by omega)]
theorem Jv(b:SP.Bs)(i j:Nat):∃x,flQ b i j=b++x:=by
 induction j with
 | zero=>exact⟨#[],by rw[Array.append_empty];rfl⟩
 | succ j ih =>
  obtain⟨x,hx⟩:=ih;exact⟨x++#[mL i j],by rw[flQ,hx,Array.append_assoc]⟩
def pI(b:SP.Bs):Nat->SP.Bs
 | 0=>b
 | k+1=>(pI b k).setIfInBounds k (b[k]!+1)
theorem eS(b:SP.Bs):∀k,(pI b k).size=b.size
 | 0=>rfl
 | k+1=>by rw[pI,Qw,eS b k]
theorem wW(b:SP.Bs):∀k j,k<=b.size->j<b.size->(pI b k)[j]! = if j<k then b[j]!+1 else b[j]!
 | 0,j,_,_=>by simp[pI]
 | k+1,j,hk,hj=>by
  have hj':j<((pI b k).setIfInBounds k (b[k]!+1)).size:=by rw[Qw,eS];exact hj
  rw[pI,getElem!_pos _ j hj',Array.getElem_setIfInBounds (by rw[eS];exact hj)];by_cases e:k=j
  ·subst e;rw[if_pos rfl,if_pos (by omega)]
  ·rw[if_neg e,<-getElem!_pos (pI b k) j (by rw[eS];exact hj),wW b k j (by omega) hj];by_cases h:j<k
   ·rw[if_pos h,if_pos (by omega)]
   ·rw[if_neg h,if_neg (by omega)]
def T2Q(T:Nat->SP.Bs)(i k:Nat):Nat->SP.Bs:=fun j=>if j<i then pI (T j) (T j).size else if j=i then pI (T j) k else T j
theorem G9(T:Nat->SP.Bs):T2Q T 0 0=T:=by
 funext j;unfold T2Q;rw[if_neg (by omega)];by_cases h:j=0
 ·rw[if_pos h];rfl
 ·rw[if_neg h]
theorem Ha(T:Nat->SP.Bs)(i:Nat):T2Q T i (T i).size=T2Q T (i+1) 0:=by
 funext j;unfold T2Q;by_cases h:j<i
 ·rw[if_pos h,if_pos (by omega)]
 ·rw[if_neg h];by_cases h2:j=i
  ·rw[if_pos h2,if_pos (by omega),h2]
  ·rw[if_neg h2,if_neg (by omega)];by_cases h3:j=i+1
   ·rw[if_pos h3];rfl
   ·rw[if_neg h3]
theorem xP(T:Nat->SP.Bs)(i k:Nat):T2Q T i k i=pI (T i) k:=by unfold T2Q;rw[if_neg (by omega),if_pos rfl]
theorem Hb(T:Nat->SP.Bs)(i k j:Nat)(h:j≠i):T2Q T i (k+1) j=T2Q T i k j:=by
 unfold T2Q;rw[if_neg h,if_neg h]
theorem dE(T:Nat->SP.Bs)(i k j:Nat):(T2Q T i k j).size=(T j).size:=by
 unfold T2Q;split
 ·exact eS _ _
 ·split
  ·exact eS _ _
  ·rfl
theorem JW(T:Nat->SP.Bs)(n j:Nat)(h:j<n):T2Q T n 0 j=pI (T j) (T j).size:=by unfold T2Q;rw[if_pos h]
theorem Mo(b:SP.Bs)(k:Nat)(x:UInt8):bC (b.setIfInBounds k x)=(bC b).set k (SP.encB x):=by
 unfold bC;rw[Array.toList_setIfInBounds,List.map_set]
structure ARow(w:World)(B kl n:Nat)(V:Nat->Value):Prop where
 cell:∀j,j<n->w.cell? ⟨kl,j,none⟩=some (V j)
 kb:0<n->kl<w.heap.size
 ne:∀j,j<n->(V j).ownBlock≠some kl
 inj:∀j j',j<n->j'<n->j≠j'->∀g,(V j).ownBlock=some g->(V j').ownBlock≠some g
 lt:∀j,j<n->∀g,(V j).ownBlock=some g->B<=g/\g<w.heap.size
structure AS(w W:World)(B kl n:Nat)(V:Nat->Value)(T:Nat->SP.Bs)(sv:Value)(m:Nat)(S:Nat->SP.Bs):Prop where
 bl:Below B w W
 sz:w.heap.size<=W.heap.size
 kl0:0<n->W.heap[kl]? = w.heap[kl]?
 own:∀j,j<n->W.ownsRow B 5 1 (V j) (T j).size (bC (T j))
 sl:W.ownsRow w.heap.size 9 1 sv m ((QJ m).map fun j=>.string ⟨S j⟩)
theorem AS.cell{w W:World}{B kl n m:Nat}{V:Nat->Value}{T S:Nat->SP.Bs}{sv:Value}(h:AS w W B kl n V T sv m S)(hA:ARow w B kl n V){j:Nat}(hj:j<n):W.cell? ⟨kl,j,none⟩=some (V j):=by
 have:W.cell? ⟨kl,j,none⟩=w.cell? ⟨kl,j,none⟩:=by unfold Rs;rw[h.kl0 (by omega)]
 rw[this];exact hA.cell j hj
theorem AS.drew{w W:World}{B kl n m:Nat}{V:Nat->Value}{T S:Nat->SP.Bs}{sv:Value}(h:AS w W B kl n V T sv m S):AS w W.drew B kl n V T sv m S:=⟨⟨h.bl.os,h.bl.tape,h.bl.output,h.bl.size,h.bl.block⟩,h.sz,h.kl0,h.own,h.sl⟩
theorem LR:(prog.info? 9).map (fun i=>(i.size,i.bytes,i.zero.map fun z=>z.cells.size))=some (1,16,some 1):=by kernel_rfl
theorem MR:prog.underlying 60=some (.slice 9):=by kernel_rfl
theorem AS.push{w W:World}{B kl n m:Nat}{V:Nat->Value}{T S:Nat->SP.Bs}{sv:Value}(h:AS w W B kl n V T sv m S)(hA:ARow w B kl n V)(hB:B<=w.heap.size)(hm:m<=1000000){x:ByteArray}(hx:x=⟨S m⟩):
 ∃v' W',(QV #[60,60] 60 #[sv,.slice (some ⟨W.heap.size,0,none⟩) 1 1]).run prog (W.alloc (.cells #[.string x] 9))=.ok v' W'/\AS w W' B kl n V T v' (m+1) S:=by
 have hs:=h.sz;obtain⟨v',W',r1,r2,r3⟩:=rY MR LR (by omega) h.sl (x:=.string x) rfl (by omega) hs;have hsv:∀g,g<w.heap.size->sv.ownBlock≠some g:=fun g hg e=>by
  have:=(cL h.sl e).1;omega
 have hk:∀g,g<w.heap.size->W'.heap[g]? = W.heap[g]?:=fun g hg=>r3.keep g (by omega) (hsv g hg)
 refine⟨v',W',r1,⟨by rw[r3.os,h.bl.os],by rw[r3.tape,h.bl.tape],by rw[r3.output,h.bl.output],Qj h.bl.size r3.size,fun g hg=>?_⟩,by have:=r3.size;omega,fun hn=>?_,fun j hj=>?_,?_⟩
 ·rw[hk g (by omega),h.bl.block g hg]
 ·rw[hk kl (hA.kb hn),h.kl0 hn]
 ·exact cT (h.own j hj) (fun g hg=>hk g (hA.lt j hj g hg).2)
 ·rw[Tw,SJ];rw[hx]at r2;exact r2
theorem AS.set{w W:World}{B kl n m i k g c:Nat}{V:Nat->Value}{T S:Nat->SP.Bs}{sv:Value}{x:UInt8}(h:AS w W B kl n V (T2Q T i k) sv m S)(hA:ARow w B kl n V)(hi:i<n)(hv:V i=.slice (some ⟨g,0,none⟩) (T i).size c)(hx:x=(T i)[k]!+1):AS w (W.setCell ⟨g,k,none⟩ (SP.encB x)) B kl n V (T2Q T i (k+1)) sv m S:=by
 have ho:=h.own i hi;have hg:(V i).ownBlock=some g:=by rw[hv];rfl
 obtain⟨g1,g2⟩:=hA.lt i hi g hg;have hsz:=dE T i k i;rw[hv]at ho;rw[hsz]at ho;obtain⟨s1,s2⟩:=ho.stored k (SP.encB x);have hk:∀y,y<W.heap.size->y≠g->(W.setCell ⟨g,k,none⟩ (SP.encB x)).heap[y]? = W.heap[y]?:=fun y hy hne=>s2.block y hy (fun e=>hne (Qn.inj e))
 have hs:=h.sz;refine⟨⟨by rw[s2.os,h.bl.os],by rw[s2.tape,h.bl.tape],by rw[s2.output,h.bl.output],Qj h.bl.size s2.size,fun y hy=>?_⟩,Qj hs s2.size,fun hn=>?_,fun j hj=>?_,?_⟩
 ·rw[hk y (by omega) (by omega),h.bl.block y hy]
 ·have:=hA.kb hn;rw[hk kl (by omega) (fun e=>hA.ne i hi (by rw[hg,e])),h.kl0 hn]
 ·by_cases e:j=i
  ·subst e;rw[xP,pI,Mo,Qw,eS,hv,<-hx];rw[xP]at s1;exact s1
  ·rw[Hb _ _ _ _ e];refine cT (h.own j hj) (fun y hy=>hk y (by have:=(hA.lt j hj y hy).2;omega) (fun e2=>?_));rw[e2]at hy;exact hA.inj j i hj hi e g hy hg
 ·refine cT h.sl (fun y hy=>?_);have:=cL h.sl hy;exact hk y this.2.1 (by omega)
end
section
open Go.RowKit Go.Sort Go.Deep
theorem RV.typ{W:World}{v:Value}{b:SP.Bs}{g:Nat}(h:RV W v b)(hg:v.ownBlock=some g):g<W.heap.size/\∃cur,W.heap[g]? = some (.cells cur 5 (0,0)):=by
 rcases h with⟨-,rfl⟩|⟨g',c,rfl,cur,h1,-⟩
 ·cases hg
 ·obtain rfl:g'=g:=Qn.inj hg;refine⟨?_,cur,h1⟩;by_cases hg:g'<W.heap.size
  ·exact hg
  ·rw[SE (by omega)]at h1;cases h1
structure AG(w W:World)(B kl n:Nat)(V:Nat->Value)(T:Nat->SP.Bs)(sv:Value)(S:Nat->SP.Bs)(gv:Value)(i o:Nat)(U:Nat->Value):Prop where
 bl:Below B w W
 sz:w.heap.size<=W.heap.size
 kl0:0<n->W.heap[kl]? = w.heap[kl]?
 own:∀j,o<=j->j<n->W.ownsRow B 5 1 (V j) (T j).size (bC (T j))
 rv:∀j,j<n->RV W (V j) (T j)
 sl:W.ownsRow w.heap.size 9 1 sv n ((QJ n).map fun j=>.string ⟨S j⟩)
 gl:W.ownsRow w.heap.size 22 1 gv i ((QJ i).map U)
 uv:∀j,j<i->RV W (U j) (flQ (T j) j 80)
 ud:∀j,j<i->(U j).ownBlock=(V j).ownBlock\/∃g,(U j).ownBlock=some g/\w.heap.size<=g
variable {w W:World}{B kl n i o:Nat}{V U:Nat->Value}{T S:Nat->SP.Bs}{sv gv u:Value}
theorem AG.cell(h:AG w W B kl n V T sv S gv i o U)(hA:ARow w B kl n V){j:Nat}(hj:j<n):W.cell? ⟨kl,j,none⟩=some (V j):=by
 have:W.cell? ⟨kl,j,none⟩=w.cell? ⟨kl,j,none⟩:=by unfold Rs;rw[h.kl0 (by omega)]
 rw[this];exact hA.cell j hj
theorem AG.drewN(h:AG w W B kl n V T sv S gv i o U)(q:Nat):AG w (W.drewN q) B kl n V T sv S gv i o U:=⟨⟨h.bl.os,h.bl.tape,h.bl.output,h.bl.size,h.bl.block⟩,h.sz,h.kl0,h.own,h.rv,h.sl,h.gl,h.uv,h.ud⟩
theorem AG.begin(h:AS w W B kl n V T sv n S):AG w W B kl n V T sv S (.slice none 0 0) 0 0 U:=
 ⟨h.bl,h.sz,h.kl0,fun j _ hj=>h.own j hj,fun j hj=>RV.of (h.own j hj),h.sl,⟨rfl,Qh ⟨rfl,rfl⟩⟩,fun j hj=>absurd hj (Wt _),fun j hj=>absurd hj (Wt _)⟩
structure AJ(w W:World)(B kl n:Nat)(V:Nat->Value)(T:Nat->SP.Bs)(sv:Value)(S:Nat->SP.Bs)(gv:Value)(i:Nat)(U:Nat->Value)(u:Value)(j:Nat):Prop where
 ag:AG w W B kl n V T sv S gv i (i+1) U
 cu:W.ownsRow B 5 1 u ((T i).size+j) (bC (flQ (T i) i j))
 cd:u.ownBlock=(V i).ownBlock\/∃g,u.ownBlock=some g/\w.heap.size<=g
 un:∀k,k<i->∀g,(U k).ownBlock=some g->u.ownBlock≠some g
theorem AJ.begin(h:AG w W B kl n V T sv S gv i i U)(hA:ARow w B kl n V)(hi:i<n):AJ w W B kl n V T sv S gv i U (V i) 0:=by
 refine⟨⟨h.bl,h.sz,h.kl0,fun j h1 h2=>h.own j (by omega) h2,h.rv,h.sl,h.gl,h.uv,h.ud⟩,h.own i (PX _) hi,Qh rfl,fun k hk g hg e=>?_⟩;have hl:=hA.lt i hi g e;rcases h.ud k hk with h1|⟨g',h1,h2⟩
 ·rw[h1]at hg;exact hA.inj k i (by omega) hi (by omega) g hg e
 ·rw[h1]at hg;have:=Qn.inj hg;omega
theorem AJ.push{j:Nat}(h:AJ w W B kl n V T sv S gv i U u j)(hA:ARow w B kl n V)(hi:i<n)(hin:i<n)(hsz:(T i).size+j<=1000000)(hB:B<=w.heap.size){x:Value}(hx:x=SP.encB (mL i j)):
 ∃v' W',(QV #[22,22] 22 #[u,.slice (some ⟨W.heap.size,0,none⟩) 1 1]).run prog (W.alloc (.cells #[x] 5))=.ok v' W'/\AJ w W' B kl n V T sv S gv i U v' (j+1):=by
 have a:=h.ag;have hs:=a.sz;obtain⟨v',W',r1,r2,r3⟩:=rY MW LQ (by omega) h.cu (x:=x) (by rw[hx];rfl) (by omega) (by omega);have hcu':W'.ownsRow B 5 1 v' ((T i).size+(j+1)) (bC (flQ (T i) i (j+1))):=by
  rw[flQ,GZ];rw[hx]at r2;exact r2
 have ut:∀g,u.ownBlock=some g->B<=g/\g<W.heap.size/\∃cur,W.heap[g]? = some (.cells cur 5 (0,0)):=fun g hg=>cL h.cu hg
 have uV:∀k,k<n->k≠i->∀g,(V k).ownBlock=some g->u.ownBlock≠some g:=fun k hk hne g hg e=>by
  rcases h.cd with h1|⟨g',h1,h2⟩
  ·rw[h1]at e;exact hA.inj k i hk hi hne g hg e
  ·rw[h1]at e;have e':=Qn.inj e;have:=(hA.lt k hk g hg).2;omega
 have hrs:=r3.size;refine⟨v',W',r1,⟨⟨⟨by rw[r3.os,a.bl.os],by rw[r3.tape,a.bl.tape],by rw[r3.output,a.bl.output],Qj a.bl.size r3.size,fun g hg=>?_⟩,by omega,fun hn=>?_,fun k h1 h2=>?_,fun k hk=>?_,?_,?_,fun k hk=>?_,a.ud⟩,hcu',?_,fun k hk g hg=>?_⟩⟩
 ·rw[r3.keep g (by omega) (fun e=>by have:=(ut g e).1;omega),a.bl.block g hg]
 ·have hk:=hA.kb hn;rw[r3.keep kl (by omega) (fun e=>by
   rcases h.cd with h1|⟨g',h1,h2⟩
   ·exact hA.ne i hi (by rw[<-h1];exact e)
   ·rw[h1]at e;have:=Qn.inj e;omega),a.kl0 hn]
 ·exact cT (a.own k h1 h2) (fun g hg=>r3.keep g (cL (a.own k h1 h2) hg).2.1 (uV k h2 (by omega) g hg))
 ·by_cases e:k=i
  ·subst e;rcases r3.mv with h1|⟨-,h1⟩
   ·by_cases hb:u.ownBlock=(V k).ownBlock
    ·rcases id (a.rv k hk)with h2|⟨g,c,h2,-⟩
     ·exact Qh h2
     ·refine Qc ⟨g,c,h2,?_⟩;obtain⟨x',hx'⟩:=Jv (T k) k (j+1);have hv':v'.ownBlock=some g:=by rw[h1,hb,h2];rfl
      have hR:RV W' v' (T k++x'):=by
       rw[<-hx'];refine RV.of (base:=B) ?_;rw[cU];exact hcu'
      rcases id hR with⟨-,e⟩|⟨g2,c2,e,-⟩
      ·rw[e]at hv';cases hv'
      ·rw[e]at hv' hR;obtain rfl:g2=g:=Qn.inj hv';exact RV.front hR
    ·exact(a.rv k hk).keep (fun g hg=>r3.keep g ((a.rv k hk).typ hg).1 (fun e=>hb (by rw[e,hg])))
   ·exact(a.rv k hk).keep (fun g hg=>h1 g ((a.rv k hk).typ hg).1)
  ·exact(a.rv k hk).keep (fun g hg=>r3.keep g ((a.rv k hk).typ hg).1 (uV k hk e g hg))
 ·refine cT a.sl (fun g hg=>?_);obtain⟨-,g2,cur,g3⟩:=cL a.sl hg;exact r3.keep g g2 (fun e=>by
   obtain⟨-,-,cur',e3⟩:=ut g e;rw[g3]at e3;injection e3 with e3
   injection e3 with _ e3 _
   cases e3)
 ·refine cT a.gl (fun g hg=>?_);obtain⟨-,g2,cur,g3⟩:=cL a.gl hg;exact r3.keep g g2 (fun e=>by
   obtain⟨-,-,cur',e3⟩:=ut g e;rw[g3]at e3;injection e3 with e3
   injection e3 with _ e3 _
   cases e3)
 ·exact(a.uv k hk).keep (fun g hg=>r3.keep g ((a.uv k hk).typ hg).1 (h.un k hk g hg))
 ·rcases r3.mv with h1|⟨⟨g,h1,h2⟩,-⟩
  ·rw[h1];exact h.cd
  ·exact Qc ⟨g,h1,by omega⟩
 ·rcases r3.mv with h1|⟨⟨g',h1,h2⟩,-⟩
  ·rw[h1];exact h.un k hk g hg
  ·rw[h1];intro e;have e':=Qn.inj e;have:=((a.uv k hk).typ hg).1;omega
theorem AJ.done(h:AJ w W B kl n V T sv S gv i U u 80)(hA:ARow w B kl n V)(hi:i<n)(hn:i<=1000000)(hB:B<=w.heap.size):
 ∃v' W',(QV #[31,31] 31 #[gv,.slice (some ⟨W.heap.size,0,none⟩) 1 1]).run prog (W.alloc (.cells #[u] 22))=.ok v' W'/\AG w W' B kl n V T sv S v' (i+1) (i+1) (fun k=>if k=i then u else U k):=by
 have a:=h.ag;have hs:=a.sz;have hu:RV W u (flQ (T i) i 80):=by
  refine RV.of (base:=B) ?_;rw[cU];exact h.cu
 obtain⟨v',W',r1,r2,r3⟩:=rY MV LS (by omega) a.gl (x:=u) (by
  obtain⟨q,c,rfl⟩:=hu.slice;rfl) (by omega) hs
 have gt:∀g,gv.ownBlock=some g->w.heap.size<=g/\g<W.heap.size/\∃cur,W.heap[g]? = some (.cells cur 22 (0,0)):=fun g hg=>cL a.gl hg
 have hrs:=r3.size;have old:∀g,g<w.heap.size->W'.heap[g]? = W.heap[g]?:=fun g hg=>r3.keep g (by omega) (fun e=>by have:=(gt g e).1;omega)
 have kp:∀ {v:Value}{b:SP.Bs},RV W v b->RV W' v b:=fun hv=>hv.keep (fun g hg=>by
  obtain⟨g1,cur,g2⟩:=hv.typ hg;exact r3.keep g g1 (fun e=>by
   obtain⟨-,-,cur',e3⟩:=gt g e;rw[g2]at e3;injection e3 with e3
   injection e3 with _ e3 _
   cases e3))
 refine⟨v',W',r1,⟨⟨by rw[r3.os,a.bl.os],by rw[r3.tape,a.bl.tape],by rw[r3.output,a.bl.output],Qj a.bl.size r3.size,fun g hg=>?_⟩,by omega,fun hn=>?_,fun k h1 h2=>?_,fun k hk=>kp (a.rv k hk),?_,?_,fun k hk=>?_,fun k hk=>?_⟩⟩
 ·rw[old g (by omega),a.bl.block g hg]
 ·rw[old kl (hA.kb hn),a.kl0 hn]
 ·exact cT (a.own k h1 h2) (fun g hg=>old g (hA.lt k h2 g hg).2)
 ·refine cT a.sl (fun g hg=>?_);obtain⟨-,g2,cur,g3⟩:=cL a.sl hg;exact r3.keep g g2 (fun e=>by
   obtain⟨-,-,cur',e3⟩:=gt g e;rw[g3]at e3;injection e3 with e3
   injection e3 with _ e3 _
   cases e3)
 ·rw[Tw,SJ];have e1:(QJ i).map (fun k=>if k=i then u else U k)=(QJ i).map U:=by
   refine List.map_congr_left fun k hk=>?_
   have:=List.mem_range.1 hk;rw[if_neg (by omega)]
  rw[e1];simp only[List.map_cons,List.map_nil,if_pos];exact r2
 ·by_cases e:k=i
  ·subst e;rw[if_pos rfl];exact kp hu
  ·rw[if_neg e];exact kp (a.uv k (by omega))
 ·by_cases e:k=i
  ·subst e;rw[if_pos rfl];exact h.cd
  ·rw[if_neg e];exact a.ud k (by omega)
end
section
open Go.RowKit Go.Sort Go.Deep
variable {P:Nat}[NeZero P]{N:Nat}
structure LookQ(W:World)(kl gs gg p:Nat)(qv qu:Option Addr)(m cv cu:Nat)(s:ByteArray)(b b3:SP.Bs):Prop where
 cl:W.cell? ⟨kl,p,none⟩=some (.slice qv m cv)
 cs:W.cell? ⟨gs,p,none⟩=some (.string s)
 cg:W.cell? ⟨gg,p,none⟩=some (.slice qu (m+80) cu)
 hl:RV W (.slice qv m cv) b
 hg:RV W (.slice qu (m+80) cu) b3
theorem LookQ.drewN{W:World}{kl gs gg p m cv cu:Nat}{qv qu:Option Addr}{s:ByteArray}{b b3:SP.Bs}(h:LookQ W kl gs gg p qv qu m cv cu s b b3)(q:Nat):LookQ (W.drewN q) kl gs gg p qv qu m cv cu s b b3:=⟨h.cl,h.cs,h.cg,h.hl,h.hg⟩
theorem LJ:prog.follows .mixedOrders=true:=by kernel_rfl
theorem uZ{W:World}{base n g c:Nat}{e:TypeId}{xs:List Value}(h:W.ownsRow base e 1 (.slice (some ⟨g,0,none⟩) n c) n xs){j:Nat}{u:Value}(hu:xs[j]? = some u):W.cell? ⟨g,j,none⟩=some u:=by
 have:=h.cells (g:=g) rfl j u hu;rw[Kx,P0]at this;exact this
theorem uY{W:World}{base n:Nat}{e:TypeId}{v:Value}{xs:List Value}(h:W.ownsRow base e 1 v n xs)(hn:0<n):∃g c,v=.slice (some ⟨g,0,none⟩) n c:=by
 rcases h with⟨-,⟨-,h0⟩|⟨g,cap,cur,rfl,-⟩⟩
 ·omega
 ·exact⟨g,cap,rfl⟩
theorem MN(kl n c B:Nat)(q:Option Addr)(V:Nat->Value)(T:Nat->SP.Bs)(w:World)(hn:n<=1000)(hq:0<n->q=some ⟨kl,0,none⟩)(hA:ARow w B kl n V)(hO:∀j,j<n->w.ownsRow B 5 1 (V j) (T j).size (bC (T j)))(hT:∀j,j<n->(T j).size<=100000)(hBw:B<=w.heap.size):
 Calls prog 8 #[.slice q n c] w (fun e w'=>e=.returned (.bool true)/\Below B w w'):=by
 have HA:=Hid.mkP hA;have HT:=Hid.mkP hT;have HQ:=Hid.mkP hq;have A0:Hid (AS w w B kl n V T (.slice none 0 0) 0 T):=⟨Qd _ _,PX _,fun _=>rfl,hO,⟨rfl,Qh ⟨rfl,rfl⟩⟩⟩
 clear hA hO hq hT;go_enter Tryz.func8,Tryz.ntmps8;go_wp2;go_loopg [3,4] n (fun gk s3 s4 wr=>∃(i:Nat) (sv:Value),i+gk=n/\sv=s3/\s4=.int .i64 i/\Hid (AS w wr B kl n V T sv i T))
 case atStart=>exact⟨0,_,P0 _,rfl,rfl,A0⟩
 case round =>
  clear A0;obtain⟨i,sv,hi,rfl,rfl,HS⟩:=hrel;by_cases hlt:i<n
  ·have hlt':(i:Int)<(n:Int):=by omega
   obtain rfl:=HQ.out (by omega);have hc:=HS.out.cell HA.out hlt;have hpt:=(RV.of (HS.out.own i hlt)).pt;obtain⟨qv,cv,hv,-⟩:=id hpt;rw[hv]at hc hpt;have hcv:=hpt.conv;obtain⟨v',w3,hap,hL3⟩:=HS.out.push HA.out hBw (by omega) (x:=⟨T i⟩) rfl;have HL3:=Hid.mkP hL3;generalize (⟨T i⟩:ByteArray)=s at hcv hap;generalize Ue (T i)=m at hc hcv;clear hL3 hpt hv HS;go_wp2_with (at_builtin;refine Rj _ rfl _ _ 60 60 rfl _ _ rfl rfl _ _ hap ?_)
   go_roundg (gk-1)
   case measure=>omega
   case rel=>exact⟨i+1,_,by omega,rfl,rfl,HL3⟩
  ·have hge:¬(i:Int)<(n:Int):=by omega
   obtain rfl:i=n:=by omega
   have HS1:Hid (AS w wr B kl i V (T2Q T 0 0) sv i T):=by rw[G9];exact HS
   clear HS hi hlt;go_wp2;clear hge;go_loopg [5] i (fun gk s5 wr=>∃k:Nat,k+gk=i/\s5=.int .i64 k/\Hid (AS w wr B kl i V (T2Q T k 0) sv i T))
   case atStart=>exact⟨0,P0 _,rfl,HS1⟩
   case round =>
    clear HS1;obtain⟨k,hk,rfl,HS1⟩:=hrel;by_cases hlt:k<i
    ·have hlt':(k:Int)<(i:Int):=by omega
     obtain rfl:=HQ.out (by omega);have hm:(T k).size<=100000:=HT.out k hlt;obtain⟨m,hmm⟩:∃m,Hid ((T k).size=m):=⟨_,rfl⟩
     rw[hmm.out]at hm;obtain⟨qv,cv,hv⟩:=(RV.of (HS1.out.own k hlt)).slice;rw[dE,hmm.out]at hv;have Hv:=Hid.mkP hv;clear hv;go_wp2;go_loopg [6] m (fun gj s6 wr=>∃j:Nat,j+gj=m/\s6=.int .i64 j/\Hid (AS w wr B kl i V (T2Q T k j) sv i T))
     case atStart=>exact⟨0,P0 _,rfl,HS1⟩
     case round =>
      clear HS1;obtain⟨j,hj,rfl,HS1⟩:=hrel;have hc:=HS1.out.cell HA.out hlt;rw[Hv.out]at hc;by_cases hj2:j<m
      ·have hj3:(j:Int)<(m:Int):=by omega
       obtain⟨x,hx⟩:∃x,(T k)[j]! = x:=⟨_,rfl⟩
       obtain⟨g,c0,e1,hb0,hf0⟩:=(RV.of (HS1.out.own k hlt)).at (k:=j) (by rw[dE,hmm.out];exact hj2);rw[xP,wW _ _ _ (by rw[hmm.out];omega) (by rw[hmm.out];omega),if_neg (by omega),hx]at hb0;have e2:V k=.slice (some ⟨g,0,none⟩) (T k).size c0:=by rw[e1,dE]
       rw[Hv.out,hmm.out]at e2;injection e2 with e3 _ e4
       subst e3 e4;have hw:=xZ x;have HS2:Hid (AS w (wr.setCell ⟨g,j,none⟩ (SP.encB (x+1))) B kl i V (T2Q T k (j+1)) sv i T):=HS1.out.set HA.out hlt (by rw[Hv.out,hmm.out]) (by rw[hx]);unfold SP.encB at hb0 HS2;clear HS1 hx e1;generalize SP.ub x=u at hb0 hw;go_wp2_with fail
       go_still_tail 14,LJ;go_wp2;go_roundg (gk-1)
       case measure=>omega
       case rel=>exact⟨j+1,by omega,rfl,HS2.out.drew⟩
      ·have hj3:¬(j:Int)<(m:Int):=by omega
       obtain rfl:j=m:=by omega
       have HS2:Hid (AS w wr B kl i V (T2Q T (k+1) 0) sv i T):=by
        rw[<-Ha,hmm.out];exact HS1
       clear HS1;go_wp2;go_roundg (i-(k+1))
       case measure=>omega
       case rel=>exact⟨k+1,by omega,rfl,HS2⟩
    ·have hge:¬(k:Int)<(i:Int):=by omega
     obtain rfl:k=i:=by omega
     have HG0:Hid (AG w wr B kl k V (T2Q T k 0) sv T (.slice none 0 0) 0 0 (fun _=>undef)):=AG.begin HS1.out;clear hlt hk HS1;go_wp2;clear hge;go_loopg [7,8] k (fun gk s7 s8 wr=>∃(i:Nat) (gv:Value) (U:Nat->Value),i+gk=k/\gv=s7/\s8=.int .i64 i/\Hid (AG w wr B kl k V (T2Q T k 0) sv T gv i i U))
     case atStart=>exact⟨0,_,_,P0 _,rfl,rfl,HG0⟩
     case round =>
      clear HG0;obtain⟨i,gv,U,hi,rfl,rfl,HG1⟩:=hrel;by_cases hlt:i<k
      ·have hlt':(i:Int)<(k:Int):=by omega
       obtain rfl:=HQ.out (by omega);have hc:=HG1.out.cell HA.out hlt;obtain⟨qv,cv,hv⟩:=(HG1.out.rv i hlt).slice;have HJ0:Hid (AJ w wr B kl k V (T2Q T k 0) sv T gv i U (V i) 0):=AJ.begin HG1.out HA.out hlt;have hm:(T2Q T k 0 i).size<=100000:=by rw[dE];exact HT.out i hlt
       obtain⟨m,Hm⟩:∃m,Hid ((T2Q T k 0 i).size=m):=⟨_,rfl⟩
       rw[hv,Hm.out]at hc HJ0;rw[Hm.out]at hm;clear hv HG1;go_wp2;clear hc;go_loopg [9,10] 80 (fun gk s9 s10 wr=>∃(j:Nat) (bv:Value),j+gk=80/\bv=s9/\s10=.int .i64 j/\Hid (AJ w wr B kl k V (T2Q T k 0) sv T gv i U bv j))
       case atStart=>exact⟨0,_,P0 _,rfl,rfl,HJ0⟩
       case round =>
        clear HJ0;obtain⟨j,bv,hj,rfl,rfl,HJ⟩:=hrel;by_cases hj2:j<80
        ·have hj3:(j:Int)<80:=by omega
         have hf:=vE i j;obtain⟨v',w3,hap,hL3⟩:=HJ.out.push HA.out hlt hlt (by rw[Hm.out];omega) hBw (x:=.int .u8 (SP.ub (mL i j))) rfl;have HL3:=Hid.mkP hL3;clear hL3 HJ;generalize SP.ub (mL i j)=u at hf hap;go_wp2_with (at_builtin;refine Rj _ rfl _ _ 22 22 rfl _ _ rfl rfl _ _ hap ?_)
         go_roundg (gk-1)
         case measure=>omega
         case rel=>exact⟨j+1,_,by omega,rfl,rfl,HL3⟩
        ·have hj3:¬(j:Int)<80:=by omega
         obtain rfl:j=80:=by omega
         obtain⟨qb,cb,hbv⟩:∃q c,bv=.slice q (m+80) c:=by
          have h1:RV wr bv (flQ (T2Q T k 0 i) i 80):=by
           refine RV.of (base:=B) ?_;rw[cU];exact HJ.out.cu
          obtain⟨q,c,h2⟩:=h1.slice;rw[cU,Hm.out]at h2;exact⟨q,c,h2⟩
         subst hbv;obtain⟨v',w3,hap,hL3⟩:=HJ.out.done HA.out hlt (by omega) hBw;have HL3:=Hid.mkP hL3;clear hL3 HJ;go_wp2_with (at_builtin;refine Rj _ rfl _ _ 31 31 rfl _ _ rfl rfl _ _ hap ?_)
         go_roundg (k-(i+1))
         case measure=>omega
         case rel=>exact⟨i+1,_,_,by omega,rfl,rfl,HL3⟩
      ·have hge:¬(i:Int)<(k:Int):=by omega
       obtain rfl:i=k:=by omega
       clear hlt hi;go_wp2;clear hge;go_loopg [11] i (fun gk s11 wr=>∃p:Nat,p+gk=i/\s11=.int .i64 p/\Hid (AG w wr B kl i V (T2Q T i 0) sv T gv i i U))
       case atStart=>exact⟨0,P0 _,rfl,HG1⟩
       case round =>
        clear HG1;obtain⟨p,hp,rfl,HST⟩:=hrel;by_cases hlt:p<i
        ·have hlt':(p:Int)<(i:Int):=by omega
         obtain rfl:=HQ.out (by omega);obtain⟨gs,cs,rfl⟩:=uY HST.out.sl (by omega);obtain⟨gg,cg,rfl⟩:=uY HST.out.gl (by omega);have hcs:wr.cell? ⟨gs,p,none⟩=some (.string ⟨T p⟩):=uZ HST.out.sl (by rw[Re,Uq hlt];rfl);have hcg:wr.cell? ⟨gg,p,none⟩=some (U p):=uZ HST.out.gl (by rw[Re,Uq hlt];rfl);have hcl:=HST.out.cell HA.out hlt;have hHl:=HST.out.rv p hlt;have hHg:=HST.out.uv p hlt;obtain⟨qv,cv,hv⟩:=hHl.slice;obtain⟨qu,cu,hu⟩:=hHg.slice;have hm:(T p).size<=100000:=HT.out p hlt;obtain⟨m,hmm⟩:∃m,(T p).size=m:=⟨_,rfl⟩
         rw[dE,hmm]at hv;rw[cU,dE,hmm]at hu;rw[hv]at hcl hHl;rw[hu]at hcg hHg;rw[hmm]at hm;have HLK:Hid (LookQ wr kl gs gg p qv qu m cv cu ⟨T p⟩ (T2Q T i 0 p) (flQ (T2Q T i 0 p) p 80)):=⟨hcl,hcs,hcg,hHl,hHg⟩
         have HB1:Hid (∀j,j<m->(T2Q T i 0 p)[j]! = (T p)[j]!+1):=fun j hj=>by rw[JW _ _ _ hlt,wW _ _ _ (PX _) (by rw[hmm];exact hj),if_pos (by rw[hmm];exact hj)]
         have HB2:Hid (∀j,j<m->(flQ (T2Q T i 0 p) p 80)[j]! = (T p)[j]!+1):=fun j hj=>by
          rw[Dd _ _ _ (by rw[dE,hmm];exact hj)];exact HB1.out j hj
         have HB3:Hid (∀j,j<80->(flQ (T2Q T i 0 p) p 80)[m+j]! = mL p j):=fun j hj=>by
          have:=zY (T2Q T i 0 p) p j 80 hj;rw[dE,hmm]at this;exact this
         have HSS:Hid ((T2Q T i 0 p).size=m/\(flQ (T2Q T i 0 p) p 80).size=m+80):=⟨by rw[dE,hmm],by rw[cU,dE,hmm]⟩
         generalize flQ (T2Q T i 0 p) p 80=b3 at HLK HB2 HB3 HSS;obtain⟨b,hb⟩:∃b,T2Q T i 0 p=b:=⟨_,rfl⟩
         rw[hb]at HLK HB1 HSS;obtain⟨s,hs⟩:∃s:ByteArray,s=⟨T p⟩:=⟨_,rfl⟩
         rw[<-hs]at HLK hcs;have hsz:s.size=m:=by rw[hs];exact hmm
         have HSX:Hid (∀j (h:j<s.size),s[j]=(T p)[j]!):=fun j h=>by
          subst hs;have h':j<(T p).size:=h;rw[getElem!_pos (T p) j h'];rfl
         clear hHg hHl hs hb hv hu hmm;go_wp2_with fail
         go_quiet (fail);have HST1:=Hid.mkP (HST.out.drewN nq);have HLK1:=Hid.mkP (HLK.out.drewN nq);clear HST HLK hcs hcg hcl;generalize wr.drewN nq=w6 at HST1 HLK1⊢;go_wp2;go_loopg [12] m (fun gk s12 wr=>∃j:Nat,j+gk=m/\s12=.int .i64 j/\Hid (AG w wr B kl i V (T2Q T i 0) (.slice (some ⟨gs,0,none⟩) i cs) T (.slice (some ⟨gg,0,none⟩) i cg) i i U)/\Hid (LookQ wr kl gs gg p qv qu m cv cu s b b3))
         case atStart=>exact⟨0,P0 _,rfl,HST1,HLK1⟩
         case round =>
          clear HST1 HLK1;obtain⟨j,hj,rfl,HST,HLK⟩:=hrel;have hcs:=HLK.out.cs;by_cases hj2:j<m
          ·have hj3:(j:Int)<(m:Int):=by omega
           have hj4:j<s.size:=by omega
           have hj5:(j:Int)<(s.size:Int):=by omega
           have hj6:(j:Int)<(m:Int)+80:=by omega
           have hcl:=HLK.out.cl;have hcg:=HLK.out.cg;obtain⟨g1,c1,e1,h1,-⟩:=HLK.out.hl.at (k:=j) (by rw[HSS.out.1];exact hj2);obtain⟨g2,c2,e2,h2,-⟩:=HLK.out.hg.at (k:=j) (by rw[HSS.out.2];omega);rw[HB1.out j hj2]at h1;rw[HB2.out j hj2]at h2;injection e1 with e1 _ _
           injection e2 with e2 _ _
           have hw:Uh.wrap ((s[j].toNat:Int)+1)=SP.ub ((T p)[j]!+1):=by rw[HSX.out j hj4];exact xZ _
           unfold SP.encB at h1 h2;generalize SP.ub ((T p)[j]!+1)=u at h1 h2 hw;rw[e1]at hcl;rw[e2]at hcg;go_wp2_with fail
           go_quiet (fail);have HST1:=Hid.mkP (HST.out.drewN nq);have HLK1:=Hid.mkP (HLK.out.drewN nq);clear HST HLK hcs hcg hcl h1 h2 hw;generalize wr.drewN nq=w7 at HST1 HLK1⊢;go_wp2;go_roundg (gk-1)
           case measure=>omega
           case rel=>exact⟨j+1,by omega,rfl,HST1,HLK1⟩
          ·have hj3:¬(j:Int)<(m:Int):=by omega
           have hj7:¬(j:Int)<(s.size:Int):=by omega
           go_wp2;clear hcs hj3;go_loopg [13] 80 (fun gk s13 wr=>∃j:Nat,j+gk=80/\s13=.int .i64 j/\Hid (AG w wr B kl i V (T2Q T i 0) (.slice (some ⟨gs,0,none⟩) i cs) T (.slice (some ⟨gg,0,none⟩) i cg) i i U)/\Hid (LookQ wr kl gs gg p qv qu m cv cu s b b3))
           case atStart=>exact⟨0,P0 _,rfl,HST,HLK⟩
           case round =>
            clear HST HLK hj hj2;obtain⟨j,hj,rfl,HST,HLK⟩:=hrel;by_cases hj2:j<80
            ·have hj3:(j:Int)<80:=by omega
             have hcs:=HLK.out.cs;have hcg:=HLK.out.cg;obtain⟨m2,hm2⟩:∃m2,m+j=m2:=⟨_,rfl⟩
             have i1:(s.size:Int)+(j:Int)=(m2:Int):=by omega
             have i2:(m2:Int)<(m:Int)+80:=by omega
             obtain⟨g2,c2,e2,h2,-⟩:=HLK.out.hg.at (k:=m2) (by rw[HSS.out.2];omega);injection e2 with e2 _ _
             rw[e2]at hcg;rw[<-hm2,HB3.out j hj2,hm2]at h2;have hf:=vE p j;unfold SP.encB at h2;generalize SP.ub (mL p j)=u at h2 hf;go_wp2_with fail
             go_quiet (fail);have HST1:=Hid.mkP (HST.out.drewN nq);have HLK1:=Hid.mkP (HLK.out.drewN nq);clear HST HLK hcs hcg h2 hf;generalize wr.drewN nq=w7 at HST1 HLK1⊢;go_wp2;go_roundg (gk-1)
             case measure=>omega
             case rel=>exact⟨j+1,by omega,rfl,HST1,HLK1⟩
            ·have hj3:¬(j:Int)<80:=by omega
             go_wp2;go_roundg (i-(p+1))
             case measure=>omega
             case rel=>exact⟨p+1,by omega,rfl,HST⟩
        ·have hge:¬(p:Int)<(i:Int):=by omega
         go_wp2;go_ret;exact⟨rfl,HST.out.bl⟩
theorem EV:prog.underlying 22=some (.slice 5):=by kernel_rfl
theorem LP:(prog.info? 5).map (fun i=>(i.size,i.bytes,i.zero.map fun z=>z.cells.size))=some (1,1,some 1):=by kernel_rfl
theorem Oi(g o j:Nat):(⟨g,o,none⟩:Addr).add j=⟨g,o+j,none⟩:=by
 unfold Un;by_cases h0:j=0
 ·subst h0;rw[if_pos rfl];rfl
 ·rw[if_neg h0]
def cbs(x:List UInt8):List Value:=x.map encB
theorem Dp(x:List UInt8):(cbs x).length=x.length:=List.length_map _
theorem JF{x:List UInt8}{u:Value}(h:u∈cbs x):u.oneCell'=true:=by
 obtain⟨y,-,rfl⟩:=List.mem_map.1 h;rfl
theorem FV{w:World}{q:Option Addr}{n c:Nat}{x:List UInt8}(h:SP.PartOk w (.slice q n c) x):x.length=n/\n<=c/\n<=1099511627776/\((n=0/\x=[])\/∃b o,q=some ⟨b,o,none⟩/\b<w.heap.size/\∀j u,(cbs x)[j]? = some u->w.cell? ⟨b,o+j,none⟩=some u):=by
 obtain⟨a,sb,so,cap,bs,h1,h2,h3,h4,h5⟩:=h;obtain⟨rfl,rfl,rfl⟩:q=a/\n=bs.size/\c=cap:=by simpa using h1
 subst h2;refine⟨rfl,h3,h4,?_⟩;rcases h5 with h5|⟨h5,h6⟩
 ·exact Qh ⟨h5,by rw[<-P5]at h5;exact Vf.1 h5⟩
 ·by_cases h0:bs.size=0
  ·exact Qh ⟨h0,by rw[<-P5]at h0;exact Vf.1 h0⟩
  ·refine Qc ⟨sb,so,h5,Holds.lt h6 (by omega),fun j u hj=>?_⟩;have hjl:j<bs.size:=by
    have:=(List.getElem?_eq_some_iff.1 hj).1;rw[Dp,P5]at this;exact this
   rw[(h6 j hjl).1];unfold cbs at hj;rw[Re,Qb (by rw[P5];exact hjl)]at hj;rw[getElem!_pos bs j hjl,<-Array.getElem_toList hjl];exact hj
theorem y8{base n m c:Nat}{q:Option Addr}{W:World}{v:Value}{xs x:List UInt8}(hown:W.ownsRow base 5 1 v n (cbs xs))(hx:SP.PartOk W (.slice q m c) x)(hv:v.ownBlock≠none\/q≠none)(hn:n+m<=1000000000)(hb:base<=W.heap.size):
 ∃v' W',(QV #[22,22] 22 #[v,.slice q m c]).run prog W=.ok v' W'/\W'.ownsRow base 5 1 v' (n+m) (cbs (xs++x))/\W.grownBy W' v.ownBlock/\(0<n+m->v'.ownBlock≠none)/\(v.ownBlock≠none->v'.ownBlock≠none):=by
 obtain⟨i,hi,he⟩:=PZ.1 LP;simp only[Ro.injEq]at he;obtain⟨h1,h2,h3⟩:=he;obtain⟨z,hz,hz2⟩:=PZ.1 h3;obtain⟨hl,hmc,-,hs⟩:=FV hx;have hcat:cbs (xs++x)=cbs xs++cbs x:=SJ;rw[hcat];cases q with
 | none =>
  obtain⟨rfl,rfl⟩:m=0/\x=[]:=by
   rcases hs with h|⟨b,o,h,-⟩
   ·exact h
   ·cases h
  have hv':v.ownBlock≠none:=by
   rcases hv with h|h
   ·exact h
   ·exact absurd rfl h
  rcases id hown with⟨-,⟨rfl,h0⟩|⟨g,cap,cur,rfl,g1,g2,g3,g4⟩⟩
  ·exact absurd rfl hv'
  ·have hap:=run_append_room_src (P:=prog) W 22 22 22 5 i EV hi g 0 n cap (.slice none 0 c) 0 [] (Src.ofNil (e':=5) _ EV c) g3 (fun j hj=>by cases hj) (fun j hj=>by cases hj);refine⟨_,_,hap,?_,⟨rfl,rfl,rfl,PX _,fun _ _ _=>rfl⟩,fun _=>by simp[Sf],fun _=>by simp[Sf]⟩;show W.ownsRow _ _ _ _ _ (cbs xs++[]);rw[List.append_nil];exact hown
 | some a =>
  obtain⟨v',W',r1,r2,r3,r4⟩:=run_append_own (P:=prog) W base 22 22 5 i z 1 1 EV hi hz h1 h2 hz2 (by decide) v n (cbs xs) hown a m c (cbs x) (by rw[Dp,hl];omega)
   (fun j u hj=>by
    rcases hs with⟨-,rfl⟩|⟨b,o,hq,-,hc⟩
    ·cases hj
    ·obtain rfl:=Qn.inj hq;rw[Oi];exact hc j u hj) (fun u hu=>JF hu) (by unfold maxLen;omega) (by omega) hb
  refine⟨v',W',r1,r2,r3,fun h0=>?_,fun h0=>?_⟩
  ·rcases r2.2 with⟨-,h⟩|⟨g,cap,cur,rfl,-⟩
   ·omega
   ·simp[Sf]
  ·rcases r2.2 with⟨h,-⟩|⟨g,cap,cur,rfl,-⟩
   ·rw[(r4.1 h).1]at h0;exact absurd rfl h0
   ·simp[Sf]
theorem C9{P:Program}{ops:Array Oper}{Q:Exit->Act->World->Prop}{a0:Act}{G:RG.Gw}{k:Nat}{o:Oper}(T T':TypeId)(t:Tmp)(ho:o.op=.convert T T' (.tmp t))
 (h:∀(a:Act) (w:World),RG.PreG G ops a0 k o a w->∃v1 v,a.eval (.tmp t)=v1/\(convert T T' v1).run P w=.ok v w/\G.R k v w):RG.jP P Q G.flow ops a0 k o:=
 RG.xE fun a w hp=>by
  obtain⟨v1,v,h1,h3,hR⟩:=h a w (RG.rV hp);refine⟨v,w,?_,Qd _ _,hR⟩;unfold execOp;rw[ho];dsimp only;rw[h1,Sem.run_bind,h3];rfl
def E33(w:World)(v:Value)(G:Bs):Prop:=∃g cap,v=.slice (some ⟨g,0,none⟩) 33 cap/\33<=cap/\g<w.heap.size/\Holds encB w g 0 G
def GB5(va:Value)(G:Bs)(w0:World):RG.Gw where
 R i v w:=if i=5 then E33 w v G else v=([.int .i64 0,.bool false,.bool false,va,.string ⟨G⟩,undef,.string ⟨G⟩,.bool false,.bool false,.bool false,.bool true,.bool false,.bool false]).getD i undef
 B w:=Below w0.heap.size w0 w
 sR i v w w' hb h:=by
  by_cases hi:i=5
  ·simp only[hi,if_true]at h⊢;obtain⟨g,cap,h1,h2,h3,h4⟩:=h;exact⟨g,cap,h1,h2,PY h3 hb.size,Holds.below h4 hb h3⟩
  ·simp only[hi,if_false]at h⊢;exact h
 sB w w' hb h:=h.trans (hb.mono h.size)
theorem Ph(D:ByteArray)(w:World):(binOp .neq 9 (.string D) (.string D)).run prog w=.ok (.bool false) w:=by go_simp
theorem E33.conv{w:World}{v:Value}{G:Bs}(h:E33 w v G)(hG:G.size=33):(convert 22 9 v).run prog w=.ok (.string ⟨G⟩) w:=by
 obtain⟨g,cap,rfl,h2,h3,h4⟩:=h;have:Cw w (some ⟨g,0,none⟩) 33 cap G:=Qc ⟨g,rfl,hG,h3,h4,h2⟩;exact this.conv
theorem Cw.partB{W:World}{q:Option Addr}{n cap:Nat}{T:Bs}(h:Cw W q n cap T)(hT:T.size<=4096):SP.PartOk W (.slice q n cap) T.toList:=by
 rcases h with⟨rfl,rfl,rfl,rfl⟩|⟨g,rfl,h2,h3,h4,h5⟩
 ·exact⟨none,0,0,0,#[],rfl,rfl,PX _,by decide,Qh rfl⟩
 ·subst h2;exact⟨_,g,0,cap,T,rfl,rfl,h5,Qj hT (by decide),Qc ⟨rfl,h4⟩⟩
theorem grown_below{W W':World}{r:Option Nat}{B:Nat}(h:W.grownBy W' r)(hr:∀k,r=some k->B<=k)(hB:B<=W.heap.size):Below B W W':=
 ⟨h.os,h.tape,h.output,h.size,fun k hk=>h.block k (by omega) (fun e=>by have:=hr k e.symm;omega)⟩
theorem copies(T U:Bs)(hT:T.size<=4096)(hU:U.size<=4096){q q':Option Addr}{n n' cap cap':Nat}(w:World)(ha:Cw w q n cap T)(hb:Cw w q' n' cap' U):
 ∃(w1 w2 w3 w4 w5:World) (v1 v2:Value),w.alloc (.cells #[] 5)=w1/\(QV #[22,22] 22 #[.slice (some ⟨w.heap.size,0,none⟩) 0 0,.slice q n cap]).run prog w1=.ok v1 w2/\w2.alloc (.cells #[] 5)=w3 /\
  (QV #[22,22] 22 #[.slice (some ⟨w2.heap.size,0,none⟩) 0 0,.slice q' n' cap']).run prog w3=.ok v2 w4/\w4.alloc (.cells #[v1,v2] 22)=w5/\(∃q n c,v1=.slice q n c)/\(∃q n c,v2=.slice q n c) /\
  Below w.heap.size w w5/\Calls prog 8 #[.slice (some ⟨w4.heap.size,0,none⟩) 2 2] w5 (fun e w'=>e=.returned (.bool true)/\Below w.heap.size w5 w'):=by
 have z1:(w.alloc (.cells #[] 5)).heap.size=w.heap.size+1:=P4 _ _;have b1:=fL w (.cells #[] 5);have o1:(w.alloc (.cells #[] 5)).ownsRow w.heap.size 5 1 (.slice (some ⟨w.heap.size,0,none⟩) 0 0) 0 (cbs []):=⟨rfl,.inr ⟨w.heap.size,0,#[],rfl,PX _,Va,PX _,Rh _,rfl,rfl⟩⟩
 have ha1:=ha.grow b1;have hn:n<=4096:=by rcases ha with⟨-,rfl,-⟩|⟨g,-,h2,-⟩<;>omega
 have hn':n'<=4096:=by rcases hb with⟨-,rfl,-⟩|⟨g,-,h2,-⟩<;>omega
 have en:n=T.size:=by rcases ha with⟨-,rfl,-,rfl⟩|⟨g,-,h2,-⟩<;>first|rfl|omega
 have en':n'=U.size:=by rcases hb with⟨-,rfl,-,rfl⟩|⟨g,-,h2,-⟩<;>first|rfl|omega
 obtain⟨v1,w2,r1,o2,f2,-,nn1⟩:=y8 (base:=w.heap.size) o1 (ha1.partB hT) (Qh (by simp[Sf])) (by omega) (by omega);have b12:Below w.heap.size (w.alloc (.cells #[] 5)) w2:=grown_below f2 (fun k e=>by have e':some w.heap.size=some k:=e;have:=Qn.inj e';omega) (by omega);have b02:Below w.heap.size w w2:=b1.trans b12;have z3:(w2.alloc (.cells #[] 5)).heap.size=w2.heap.size+1:=P4 _ _;have b3:=fL w2 (.cells #[] 5);have o3:(w2.alloc (.cells #[] 5)).ownsRow w2.heap.size 5 1 (.slice (some ⟨w2.heap.size,0,none⟩) 0 0) 0 (cbs []):=⟨rfl,.inr ⟨w2.heap.size,0,#[],rfl,PX _,Va,PX _,Rh _,rfl,rfl⟩⟩
 have hb3:=(hb.grow b02).grow b3;obtain⟨v2,w4,r2,o4,f4,-,nn2⟩:=y8 (base:=w2.heap.size) o3 (hb3.partB hU) (Qh (by simp[Sf])) (by omega) (by omega);have b34:Below w2.heap.size (w2.alloc (.cells #[] 5)) w4:=grown_below f4 (fun k e=>by have e':some w2.heap.size=some k:=e;have:=Qn.inj e';omega) (by omega);have b24:Below w2.heap.size w2 w4:=b3.trans b34;have b5:=fL w4 (.cells #[v1,v2] 22);have z5:(w4.alloc (.cells #[v1,v2] 22)).heap.size=w4.heap.size+1:=P4 _ _;have s02:=b02.size;have s24:=b24.size;have o25:(w4.alloc (.cells #[v1,v2] 22)).ownsRow w.heap.size 5 1 v1 T.size (bC T):=by
  have h:=cT (cT o2 (fun g hg=>b24.block g (cL o2 hg).2.1)) (W':=w4.alloc (.cells #[v1,v2] 22)) (fun g hg=>b5.block g (by have:=(cL o2 hg).2.1;omega));rw[P0,U2,en]at h;exact h
 have o45:(w4.alloc (.cells #[v1,v2] 22)).ownsRow w2.heap.size 5 1 v2 U.size (bC U):=by
  have h:=cT o4 (W':=w4.alloc (.cells #[v1,v2] 22)) (fun g hg=>b5.block g (cL o4 hg).2.1);rw[P0,U2,en']at h;exact h
 have o45':(w4.alloc (.cells #[v1,v2] 22)).ownsRow w.heap.size 5 1 v2 U.size (bC U):=by
  rcases o45 with⟨h0,h1|⟨g,cap,cur,h1,h2,h3⟩⟩
  ·exact⟨h0,Qh h1⟩
  ·exact⟨h0,Qc ⟨g,cap,cur,h1,by omega,h3⟩⟩
 have sl:∀ {B m:Nat}{W:World}{v:Value}{xs:List Value},W.ownsRow B 5 1 v m xs->∃q n c,v=.slice q n c:=fun h=>by
  rcases h.2 with⟨h1,-⟩|⟨g,cap,cur,h1,-⟩
  ·exact⟨_,_,_,h1⟩
  ·exact⟨_,_,_,h1⟩
 refine⟨_,w2,_,w4,_,v1,v2,rfl,r1,rfl,r2,rfl,sl o25,sl o45,b02.trans ((b24.trans (b5.mono s24)).mono s02),?_⟩;refine MN w4.heap.size 2 2 w.heap.size (some ⟨w4.heap.size,0,none⟩) (fun j=>if j=0 then v1 else v2) (fun j=>if j=0 then T else U) _ (by omega) (fun _=>rfl) ⟨fun j hj=>?_,fun _=>by omega,fun j hj e=>?_,fun j j' hj hj' hne g e e'=>?_,fun j hj g e=>?_⟩ (fun j hj=>?_) (fun j _=>?_) (by omega)
 ·have hj2:j=0\/j=1:=by omega
  rcases hj2 with rfl|rfl
  ·exact m8 w4 _ _ 0 v1 rfl
  ·exact m8 w4 _ _ 1 v2 rfl
 ·have hj2:j=0\/j=1:=by omega
  rcases hj2 with rfl|rfl
  ·have:=(cL o2 e).2.1;omega
  ·have:=(cL o4 e).2.1;omega
 ·have h1:∀g,v1.ownBlock=some g->v2.ownBlock≠some g:=fun g e1 e2=>by
   have:=(cL o2 e1).2.1;have:=(cL o4 e2).1;omega
  have hj2:j=0\/j=1:=by omega
  have hj3:j'=0\/j'=1:=by omega
  rcases hj2 with rfl|rfl<;>rcases hj3 with rfl|rfl
  ·omega
  ·exact h1 g e e'
  ·exact h1 g e' e
  ·omega
 ·have hj2:j=0\/j=1:=by omega
  rcases hj2 with rfl|rfl
  ·exact⟨(cL o25 e).1,(cL o25 e).2.1⟩
  ·exact⟨(cL o45' e).1,(cL o45' e).2.1⟩
 ·have hj2:j=0\/j=1:=by omega
  rcases hj2 with rfl|rfl
  ·exact o25
  ·exact o45'
 ·by_cases h0:j=0
  ·simp only[h0,if_true];omega
  ·simp only[h0,if_false];omega
theorem BH(C:Fl3 P)(O:Ord N)(hord:∀r:EC.Pt P,EC.On r->EC.mul N r=none)(hN1:1<N):nuV nZ=1/\sec N nZ=true/\real P (wr (gG P))=true/\dQ P (wr (gG P))=gG P/\vsP P N (wr (gG P)) (wr (gG P)) (wr (gG P)) (pmT P N nZ (wr (gG P))).1=true:=by
 have h1G:EC.mul 1 (gG P)=gG P:=EC.dK _;have hk:=Jr hN1;have hn:nuV nZ=1:=(rN hk).symm;have hs:sec N nZ=true:=by
  unfold sec;rw[hk,hn];rfl
 obtain⟨hr,hp⟩:=wG C (qB C.toFld) BP;have:=AX C O hord nZ (wr (gG P)) hs hr (by rw[hn,h1G];exact BP) (by rw[hn,hp,h1G];exact BP);rw[hn,hp,h1G]at this;exact⟨hn,hs,hr,hp,this⟩
theorem KQ(c z:Nat):(bx c++bx z).size<=64:=by rw[Qg,aY,aY];decide
theorem NA(P N:Nat)[NeZero P](sk b:Bs):(pmT P N sk b).1.size<=64:=by
 unfold pmT;generalize pmC P N sk b=c;generalize pmZ P N sk b=z;have h:=KQ c z;generalize bx c++bx z=X at h;cases sec N sk<;>cases real P b
 ·exact Rh _
 ·exact Rh _
 ·exact Rh _
 ·exact h
theorem Kn(P N:Nat)[NeZero P](sk b:Bs):(bsT P N sk b).1.size<=64/\(bsT P N sk b).2.1.size<=64:=by
 unfold bsT;have h1:=NA P N sk b;have h2:(wr (EC.mul (nuV sk) (dQ P b))).size<=64:=by rw[aN];decide
 generalize (pmT P N sk b).1=X at h1;generalize wr (EC.mul (nuV sk) (dQ P b))=Y at h2;cases sec N sk<;>cases real P b
 ·exact⟨Rh _,Rh _⟩
 ·exact⟨Rh _,Rh _⟩
 ·exact⟨Rh _,Rh _⟩
 ·exact⟨h2,h1⟩
structure Lk(w:World)(kb hb pb sb:Bs)(T U:Bs)(ec:Int)(u:Bool)(pr:ByteArray)(key hid pub sig:ByteArray):Prop where
 sg:∀p0 p1 n0 c0 n1 c1 w,Arg w (.slice p0 n0 c0) kb->SP.PartOk w (.slice p0 n0 c0) kb.toList->Arg33 w (.slice p1 n1 c1) hb->SP.PartOk w (.slice p1 n1 c1) hb.toList->Calls prog 4 #[.slice p0 n0 c0,.slice p1 n1 c1] w (Ret fun e w'=>Below w.heap.size w w'/\∃q n cap q' n' cap',e=.tuple #[.slice q n cap,.slice q' n' cap',.int .i64 ec]/\Cw w' q n cap T/\Cw w' q' n' cap' U)
 rs:∀w,Calls prog 7 #[.string key,.string hid] w (Ret fun e w'=>Below w.heap.size w w'/\e=.tuple #[.string ⟨T⟩,.string ⟨U⟩,.int .i64 ec])
 rt:∀p0 p1 p2 p3 n0 n1 n2 n3 c0 c1 c2 c3 w,Arg33 w (.slice p0 n0 c0) pb->Arg33 w (.slice p1 n1 c1) hb->Arg33 w (.slice p2 n2 c2) sb->SP.PartOk w (.slice p3 n3 c3) pr.data.toList->Calls prog 6 #[.slice p0 n0 c0,.slice p1 n1 c1,.slice p2 n2 c2,.slice p3 n3 c3] w (Ret fun e w'=>Below w.heap.size w w'/\e=.bool u)
 vs:∀w,Calls prog 9 #[.string pub,.string hid,.string sig,.string pr] w (Ret fun e w'=>Below w.heap.size w w'/\e=.bool u)
 zT:T.size<=4096
 zU:U.size<=4096
theorem NP(C:Fl3 P)(O:Ord N)(hord:∀r:EC.Pt P,EC.On r->EC.mul N r=none)(w:World)(key hid pub sig pr:ByteArray)(h1:key.size<=4096)(h2:hid.size<=4096)(h3:pub.size<=4096)(h4:sig.size<=4096):
 Lk w key.data hid.data pub.data sig.data (bsT P N key.data hid.data).1 (bsT P N key.data hid.data).2.1 (bsT P N key.data hid.data).2.2 (vsT P N pub.data hid.data sig.data pr) pr key hid pub sig:=by
 refine⟨fun p0 p1 n0 c0 n1 c1 w hA h0 hA1 h1=>Mj C O p0 p1 n0 c0 n1 c1 _ _ w hA h0 hA1 h1,fun w=>Nt C O key hid h1 h2 w,fun p0 p1 p2 p3 n0 n1 n2 n3 c0 c1 c2 c3 w k0 k1 k2 k3=>?_,fun w=>Nr C O pub hid sig pr h3 h2 h4 w,?_,?_⟩
 ·have:=yI C O hord p0 p1 p2 p3 n0 n1 n2 n3 c0 c1 c2 c3 pub.data hid.data sig.data pr.data w k0 k1 k2 k3;rw[Ia]at this;exact this
 ·exact Qj (Kn P N key.data hid.data).1 (by decide)
 ·exact Qj (Kn P N key.data hid.data).2 (by decide)
theorem D2(C:Fl3 P)(O:Ord N)(hord:∀r:EC.Pt P,EC.On r->EC.mul N r=none)(hN1:1<N)(key hid pub sig pr:ByteArray)(w0:World):
 Calls prog 3 #[.string key,.string hid,.string pub,.string sig,.string pr] w0 fun e w'=>e=.returned (.bool true)/\Below w0.heap.size w0 w':=by
 obtain⟨hn,hsc,hrl,hpt,hvs⟩:=BH C O hord hN1;have h1G:EC.mul 1 (gG P)=gG P:=EC.dK _;have HG:=Hid.mk' (fun w=>Hu C.toFld w);have HS:=Hid.mk' (fun p0 p1 n0 c0 n1 c1 w hA h0 hA1 h1=>Dv C O p0 p1 n0 c0 n1 c1 nZ (wr (gG P)) w hA h0 hA1 h1 hsc hrl);rw[hn,hpt,h1G]at HS;have HR:=Hid.mk' (fun p0 p1 p2 p3 n0 n1 n2 n3 c0 c1 c2 c3 w h0 h1 h2 h3=>yI C O hord p0 p1 p2 p3 n0 n1 n2 n3 c0 c1 c2 c3 (wr (gG P)) (wr (gG P)) (wr (gG P)) (pmT P N nZ (wr (gG P))).1 w h0 h1 h2 h3);rw[hvs]at HR;have HL:Hid (key.size<=4096->hid.size<=4096->pub.size<=4096->sig.size<=4096->∃T U ec u,Lk w0 key.data hid.data pub.data sig.data T U ec u pr key hid pub sig):=fun h1 h2 h3 h4=>⟨_,_,_,_,NP C O hord w0 key hid pub sig pr h1 h2 h3 h4⟩
 have HX:Hid ((wr (gG P)).size=33):=aN _;generalize (pmT P N nZ (wr (gG P))).1=D at HS HR;generalize wr (gG P)=G at HG HS HR HX;clear hn hsc hrl hpt hvs h1G hord C O hN1;have hmk:=Pm w0;obtain⟨k0,hk0⟩:∃k0,w0.heap.size=k0:=⟨_,rfl⟩
 obtain⟨w1,hw1⟩:∃w1,w0.alloc (.cells (madeCells #[.int .u8 0] 32) 5)=w1:=⟨_,rfl⟩
 have H0:Holds encB w1 k0 0 (P3 32 0):=by rw[<-hw1,<-hk0];exact Holds.made (enc:=encB) w0 5 32 0
 have hB1:Below w0.heap.size w0 w1:=by rw[<-hw1];exact(Qd _ _).alloc (PX _) _
 have hl1:k0<w1.heap.size:=by rw[<-hw1,<-hk0];simp
 rw[hk0,hw1]at hmk;obtain⟨c31,f31⟩:=H0 31 (by decide);rw[P0]at c31 f31;obtain⟨w2,hw2⟩:∃w2,w1.setCell ⟨k0,31,none⟩ (.int .u8 1)=w2:=⟨_,rfl⟩
 have H2:Holds encB w2 k0 0 nZ:=by
  have:=Holds.set H0 (i:=31) (by decide) 1;rw[P0]at this;rw[<-hw2];exact this
 have hl2:k0<w2.heap.size:=by rw[<-hw2];simpa using hl1
 have K2:Hid (Below w0.heap.size w0 w2/\El 32 w2 (.slice (some ⟨k0,0,none⟩) 32 32) nZ):=by
  refine⟨?_,k0,32,rfl,PX _,by decide,hl2,H2⟩;rw[<-hw2];exact hB1.setCell (p:=⟨k0,31,none⟩) (by show w0.heap.size<=k0;omega) _
 clear H0 H2 hB1 hl1 hl2 hw1 hk0;go_enter Tryz.func3,Tryz.ntmps3;go_wp2_with fail
 refine(HG.out w2).mono ?_;rintro e w3 ⟨vv,rfl,hb3,g3,c3,rfl,hc3,hge3,hlt3,hH3⟩;have K3:Hid (Below w0.heap.size w0 w3/\El 32 w3 (.slice (some ⟨k0,0,none⟩) 32 32) nZ/\El 33 w3 (.slice (some ⟨g3,0,none⟩) 33 c3) G):=⟨K2.out.1.trans (hb3.mono K2.out.1.size),K2.out.2.below hb3 (PX _),g3,c3,rfl,hc3,HX.out,hlt3,hH3⟩
 clear hb3 hc3 hge3 hlt3 hH3 K2 hmk c31 f31 hw2;go_wp2_with fail
 refine(HS.out _ _ _ _ _ _ w3 (K3.out.2.1).arg (El.partk K3.out.2.1 (by decide)) (K3.out.2.2).arg33 (El.partk K3.out.2.2 (by decide))).mono ?_;rintro e w4 ⟨vv,rfl,hb4,va,vp,rfl,⟨ka,ca,rfl,ha1,ha2,ha3,ha4⟩,⟨kp,cp,rfl,hp1,hp2,hp3,hp4⟩⟩;have K4:Hid (Below w0.heap.size w0 w4/\El 33 w4 (.slice (some ⟨ka,0,none⟩) 33 ca) G/\El 64 w4 (.slice (some ⟨kp,0,none⟩) 64 cp) D):=⟨K3.out.1.trans (hb4.mono K3.out.1.size),⟨ka,ca,rfl,ha1,ha2,ha3,ha4⟩,kp,cp,rfl,hp1,hp2,hp3,hp4⟩
 clear hb4 ha1 ha2 ha3 ha4 hp1 hp2 hp3 hp4 K3 HS;go_wp2_with fail
 refine(HG.out w4).mono ?_;rintro e w5 ⟨vv,rfl,hb5,g5,c5,rfl,hc5,hge5,hlt5,hH5⟩;have K5:Hid (Below w0.heap.size w0 w5/\El 33 w5 (.slice (some ⟨ka,0,none⟩) 33 ca) G/\El 64 w5 (.slice (some ⟨kp,0,none⟩) 64 cp) D/\El 33 w5 (.slice (some ⟨g5,0,none⟩) 33 c5) G):=⟨K4.out.1.trans (hb5.mono K4.out.1.size),K4.out.2.1.below hb5 (PX _),K4.out.2.2.below hb5 (PX _),g5,c5,rfl,hc5,HX.out,hlt5,hH5⟩
 clear hb5 hc5 hge5 hlt5 hH5 K4;go_wp2_with fail
 refine(HG.out w5).mono ?_;rintro e w6 ⟨vv,rfl,hb6,g6,c6,rfl,hc6,hge6,hlt6,hH6⟩;have K6:Hid (Below w0.heap.size w0 w6/\El 33 w6 (.slice (some ⟨ka,0,none⟩) 33 ca) G/\El 64 w6 (.slice (some ⟨kp,0,none⟩) 64 cp) D/\El 33 w6 (.slice (some ⟨g5,0,none⟩) 33 c5) G/\El 33 w6 (.slice (some ⟨g6,0,none⟩) 33 c6) G):=⟨K5.out.1.trans (hb6.mono K5.out.1.size),K5.out.2.1.below hb6 (PX _),K5.out.2.2.1.below hb6 (PX _),K5.out.2.2.2.below hb6 (PX _),g6,c6,rfl,hc6,HX.out,hlt6,hH6⟩
 clear hb6 hc6 hge6 hlt6 hH6 K5;go_wp2_with fail
 refine(HR.out _ _ _ _ _ _ _ _ _ _ _ _ w6 K6.out.2.2.2.1.arg33 K6.out.2.2.2.2.arg33 K6.out.2.1.arg33 (El.partk K6.out.2.2.1 (by decide))).mono ?_;rintro e w7 ⟨vv,rfl,hb7,rfl⟩;have K7:Hid (Below w0.heap.size w0 w7/\El 33 w7 (.slice (some ⟨ka,0,none⟩) 33 ca) G):=⟨K6.out.1.trans (hb7.mono K6.out.1.size),K6.out.2.1.below hb7 (PX _)⟩
 clear hb7 K6 HR;have hcv:∀W',Below w7.heap.size w7 W'->(convert 22 9 (.slice (some ⟨ka,0,none⟩) 33 ca)).run prog W'=.ok (.string ⟨G⟩) W':=fun W' hb'=>by
  obtain⟨q,m,cap,e,hC⟩:=(K7.out.2.below hb' (PX _)).cw;rw[e];exact hC.conv
 go_upto_region 5 with fail
 refine RG.Gw.draws (GB5 (.slice (some ⟨ka,0,none⟩) 33 ca) G w7) (by kernel_rfl) (by kernel_rfl) ?_ (Qd w7.heap.size w7).drew ?_
 ·exact⟨RG.bN fun a W hp=>⟨[(14,.int .i64 0)],.int .i64 0,W,⟨hp.o 14 (by kernel_rfl),trivial⟩,by kernel_rfl,Qd _ _,rfl⟩,
   RG.bN fun a W hp=>⟨[(40,.int .i64 0)],.bool false,W,⟨hp.n 0 40 (by kernel_rfl) (by kernel_rfl),trivial⟩,by kernel_rfl,Qd _ _,rfl⟩,
   RG.bN fun a W hp=>⟨[(41,.bool false)],.bool false,W,⟨hp.n 1 41 (by kernel_rfl) (by kernel_rfl),trivial⟩,by kernel_rfl,Qd _ _,rfl⟩,
   RG.kE rfl (by kernel_rfl) (fun _ _ h=>h) (RG.bN fun a W hp=>⟨[(12,.slice (some ⟨ka,0,none⟩) 33 ca)],.slice (some ⟨ka,0,none⟩) 33 ca,W,⟨hp.o 12 (by kernel_rfl),trivial⟩,by kernel_rfl,Qd _ _,rfl⟩),
   RG.kE rfl (by kernel_rfl) (fun _ _ h=>h) (C9 22 9 43 rfl fun a W hp=>⟨_,_,hp.n 3 43 (by kernel_rfl) (by kernel_rfl),hcv W hp.b,rfl⟩),
   RG.kE rfl (by kernel_rfl) (fun _ _ h=>h) (RG.dA fun a W hp=>⟨[],5,#[],trivial,by kernel_rfl,(HG.out W).mono (by
    rintro e' W' ⟨u,rfl,hb,g,c,rfl,h1,h2,h3,h4⟩;exact⟨_,rfl,hb,g,c,rfl,h1,h3,h4⟩)⟩),
   RG.kE rfl (by kernel_rfl) (fun _ _ h=>h) (C9 22 9 45 rfl fun a W hp=>⟨_,_,rfl,E33.conv (hp.n 5 45 (by kernel_rfl) (by kernel_rfl)) HX.out,rfl⟩),
   RG.kE rfl (by kernel_rfl) (fun _ _ h=>h) (RG.LX .neq 9 9 44 46 rfl fun a W hp=>⟨_,_,_,hp.n 4 44 (by kernel_rfl) (by kernel_rfl),hp.n 6 46 (by kernel_rfl) (by kernel_rfl),by kernel_rfl,Ph ⟨G⟩ W,rfl⟩),
   RG.bN fun a W hp=>⟨[(42,.bool false),(47,.bool false)],.bool false,W,⟨hp.n 2 42 (by kernel_rfl) (by kernel_rfl),hp.n 7 47 (by kernel_rfl) (by kernel_rfl),trivial⟩,by kernel_rfl,Qd _ _,rfl⟩,
   RG.bN fun a W hp=>⟨[(48,.bool false)],.bool false,W,⟨hp.n 8 48 (by kernel_rfl) (by kernel_rfl),trivial⟩,by kernel_rfl,Qd _ _,rfl⟩,
   RG.kE rfl (by kernel_rfl) (fun _ _ h=>h) (RG.bN fun a W hp=>⟨[(15,.bool true)],.bool true,W,⟨hp.o 15 (by kernel_rfl),trivial⟩,by kernel_rfl,Qd _ _,rfl⟩),
   RG.kE rfl (by kernel_rfl) (fun _ _ h=>h) (RG.bN fun a W hp=>⟨[(50,.bool true)],.bool false,W,⟨hp.n 10 50 (by kernel_rfl) (by kernel_rfl),trivial⟩,by kernel_rfl,Qd _ _,rfl⟩),
   RG.bN fun a W hp=>⟨[(49,.bool false),(51,.bool false)],.bool false,W,⟨hp.n 9 49 (by kernel_rfl) (by kernel_rfl),hp.n 11 51 (by kernel_rfl) (by kernel_rfl),trivial⟩,by kernel_rfl,Qd _ _,rfl⟩,
   trivial⟩
 ·intro V w8 hV hB;have h12:V 12=.bool false:=hV 12 (Nat.lt_of_succ_le (Nat.le_of_ble_eq_true (by kernel_rfl)));have K8:Hid (Below w0.heap.size w0 w8):=K7.out.1.trans (hB.mono K7.out.1.size);dsimp only[RG.iC,Nat.reduceAdd];simp only[Act.put,List.setIfInBounds_toArray,List.set_cons_succ,List.set_cons_zero];rw[h12];clear hV hB h12 hcv HG K7;by_cases s1:key.size<=4096
  ·have g1:¬(4096:Int)<(key.size:Int):=by omega
   by_cases s2:hid.size<=4096
   ·have g2:¬(4096:Int)<(hid.size:Int):=by omega
    by_cases s3:pub.size<=4096
    ·have g3:¬(4096:Int)<(pub.size:Int):=by omega
     by_cases s4:sig.size<=4096
     ·have g4:¬(4096:Int)<(sig.size:Int):=by omega
      by_cases s5:pr.size<=4096
      ·have g5:¬(4096:Int)<(pr.size:Int):=by omega
       obtain⟨T,U,ec,u,hL⟩:=HL.out s1 s2 s3 s4;have L:=Hid.mk' hL;clear hL HL;obtain⟨cap1,x1,hc1,hcc1,hb1,hH1,hlt1⟩:=mA key w8;obtain⟨cap2,x2,hc2,hcc2,hb2,hH2,hlt2⟩:=mA hid x1;have hb12:=hb1.trans (hb2.mono hb1.size);have A2:Hid (Arg x2 (.slice (some ⟨w8.heap.size,0,none⟩) key.size cap1) key.data/\SP.PartOk x2 (.slice (some ⟨w8.heap.size,0,none⟩) key.size cap1) key.data.toList/\Arg33 x2 (.slice (some ⟨x1.heap.size,0,none⟩) hid.size cap2) hid.data/\SP.PartOk x2 (.slice (some ⟨x1.heap.size,0,none⟩) hid.size cap2) hid.data.toList):=⟨⟨_,_,_,rfl,rfl,fun h=>⟨_,0,rfl,by omega,PY hlt1 hb2.size,Holds.below hH1 hb2 hlt1⟩⟩,wO s1 hcc1 (Holds.below hH1 hb2 hlt1),⟨_,_,_,rfl,rfl,fun h=>⟨_,0,rfl,by omega,hlt2,hH2⟩⟩,wO s2 hcc2 hH2⟩
       have KB:Hid (Below w0.heap.size w0 x2):=K8.out.trans (hb12.mono K8.out.size);clear hb1 hb2 hb12 hH1 hH2 hlt1 hlt2 hcc1 hcc2 K8;go_wp2_with fail
       refine(L.out.sg _ _ _ _ _ _ x2 A2.out.1 A2.out.2.1 A2.out.2.2.1 A2.out.2.2.2).mono ?_;rintro e x3 ⟨vv,rfl,hb3,qa,na,ca',qb,nb,cb',rfl,hCa,hCb⟩;have K3:Hid (Below w0.heap.size w0 x3/\Cw x3 qa na ca' T/\Cw x3 qb nb cb' U):=⟨KB.out.trans (hb3.mono KB.out.size),hCa,hCb⟩
       clear hb3 hCa hCb A2 KB hc1 hc2;go_wp2_with fail
       refine(L.out.rs x3).mono ?_;rintro e x4 ⟨vv,rfl,hb4,rfl⟩;have K4:Hid (Below w0.heap.size w0 x4/\Cw x4 qa na ca' T/\Cw x4 qb nb cb' U):=⟨K3.out.1.trans (hb4.mono K3.out.1.size),K3.out.2.1.grow hb4,K3.out.2.2.grow hb4⟩
       clear hb4 K3;obtain⟨y1,y2,y3,y4,y5,v1,v2,e1,r1,e2,r2,e3,⟨q1,m1,d1,rfl⟩,⟨q2,m2,d2,rfl⟩,hb5,hAp⟩:=copies T U L.out.zT L.out.zU x4 K4.out.2.1 K4.out.2.2;have E1:=Hid.mk' e1;have E2:=Hid.mk' e2;have E3:=Hid.mk' e3;have HA:=Hid.mk' hAp;have K5:Hid (Below w0.heap.size w0 y5/\Cw y5 qa na ca' T/\Cw y5 qb nb cb' U/\Below x4.heap.size x4 y5):=⟨K4.out.1.trans (hb5.mono K4.out.1.size),K4.out.2.1.grow hb5,K4.out.2.2.grow hb5,hb5⟩
       clear e1 e2 e3 hb5 hAp;go_wp2_with (first|(refine aP (v:=.slice (some ⟨x4.heap.size,0,none⟩) 0 0) (w:=x4) (w':=y1) rfl (.buildSlice 22 0 #[]) rfl ?_ ?_;(rw[<-E1.out];kernel_rfl))|(refine Rj y1 rfl (.tmp 92) (.tmp 93) 22 22 rfl (.slice (some ⟨x4.heap.size,0,none⟩) 0 0) (.slice qa na ca') (by kernel_rfl) (by kernel_rfl) (.slice q1 m1 d1) y2 r1 ?_)|(refine aP (v:=.slice (some ⟨y2.heap.size,0,none⟩) 0 0) (w:=y2) (w':=y3) rfl (.buildSlice 22 0 #[]) rfl ?_ ?_;(rw[<-E2.out];kernel_rfl))|(refine Rj y3 rfl (.tmp 95) (.tmp 96) 22 22 rfl (.slice (some ⟨y2.heap.size,0,none⟩) 0 0) (.slice qb nb cb') (by kernel_rfl) (by kernel_rfl) (.slice q2 m2 d2) y4 r2 ?_)|(refine aP (v:=.slice (some ⟨y4.heap.size,0,none⟩) 2 2) (w:=y4) (w':=y5) rfl (.buildSlice 31 2 #[(0,.tmp 94),(1,.tmp 97)]) rfl ?_ ?_;(rw[<-E3.out];kernel_rfl))|fail)
       refine HA.out.mono ?_;rintro e y6 ⟨rfl,hb6⟩;have K6:Hid (Below w0.heap.size w0 y6/\Cw y6 qa na ca' T/\Cw y6 qb nb cb' U):=by
        have hb:=K5.out.2.2.2.trans hb6;exact⟨K4.out.1.trans (hb.mono K4.out.1.size),K4.out.2.1.grow hb,K4.out.2.2.grow hb⟩
       clear hb6 K5 K4 HA E1 E2 E3 r1 r2;obtain⟨cap5,w5,hc5,hcc5,hb5,hH5,hlt5⟩:=mA pub y6;obtain⟨cap6,w6,hc6,hcc6,hb6,hH6,hlt6⟩:=mA hid w5;obtain⟨cap7,w7,hc7,hcc7,hb7,hH7,hlt7⟩:=mA sig w6;obtain⟨cap8,w9,hc8,hcc8,hb8,hH8,hlt8⟩:=mA pr w7;have hb68:=hb7.trans (hb8.mono hb7.size);have hb58:=hb6.trans (hb68.mono hb6.size);have hb48:=hb5.trans (hb58.mono hb5.size);have A5:Hid (Arg33 w9 (.slice (some ⟨y6.heap.size,0,none⟩) pub.size cap5) pub.data):=⟨_,_,_,rfl,rfl,fun h=>⟨_,0,rfl,by omega,PY hlt5 hb58.size,Holds.below hH5 hb58 hlt5⟩⟩
       have A6:Hid (Arg33 w9 (.slice (some ⟨w5.heap.size,0,none⟩) hid.size cap6) hid.data):=⟨_,_,_,rfl,rfl,fun h=>⟨_,0,rfl,by omega,PY hlt6 hb68.size,Holds.below hH6 hb68 hlt6⟩⟩
       have A7:Hid (Arg33 w9 (.slice (some ⟨w6.heap.size,0,none⟩) sig.size cap7) sig.data):=⟨_,_,_,rfl,rfl,fun h=>⟨_,0,rfl,by omega,PY hlt7 hb8.size,Holds.below hH7 hb8 hlt7⟩⟩
       have A8:Hid (SP.PartOk w9 (.slice (some ⟨w7.heap.size,0,none⟩) pr.size cap8) pr.data.toList):=wO s5 hcc8 hH8;have K9:Hid (Below w0.heap.size w0 w9/\Cw w9 qa na ca' T/\Cw w9 qb nb cb' U):=⟨K6.out.1.trans (hb48.mono K6.out.1.size),K6.out.2.1.grow hb48,K6.out.2.2.grow hb48⟩
       clear hb5 hb6 hb7 hb8 hb68 hb58 hb48 hH5 hH6 hH7 hH8 hlt5 hlt6 hlt7 hlt8 hcc5 hcc6 hcc7 hcc8 K6;go_wp2_with fail
       refine(L.out.rt _ _ _ _ _ _ _ _ _ _ _ _ w9 A5.out A6.out A7.out A8.out).mono ?_;rintro e wA ⟨vv,rfl,hbA,rfl⟩;have KA:Hid (Below w0.heap.size w0 wA/\Cw wA qa na ca' T/\Cw wA qb nb cb' U):=⟨K9.out.1.trans (hbA.mono K9.out.1.size),K9.out.2.1.grow hbA,K9.out.2.2.grow hbA⟩
       clear hbA K9 A5 A6 A7 A8 hc5 hc6 hc7 hc8;go_wp2_with fail
       refine(L.out.vs wA).mono ?_;rintro e wB ⟨vv,rfl,hbB,rfl⟩;have KB:Hid (Below w0.heap.size w0 wB):=KA.out.1.trans (hbB.mono KA.out.1.size);have cv1:=(KA.out.2.1.grow hbB).conv;have cv2:=(KA.out.2.2.grow hbB).conv;have eT:=Cx T;have eU:=Cx U;clear hbB KA L;cases u<;>go_wp2<;>go_ret<;>exact⟨by simp,KB.out⟩
      ·have g5:(4096:Int)<(pr.size:Int):=by omega
       go_wp2;go_ret;exact⟨rfl,K8.out⟩
     ·have g4:(4096:Int)<(sig.size:Int):=by omega
      go_wp2;go_ret;exact⟨rfl,K8.out⟩
    ·have g3:(4096:Int)<(pub.size:Int):=by omega
     go_wp2;go_ret;exact⟨rfl,K8.out⟩
   ·have g2:(4096:Int)<(hid.size:Int):=by omega
    go_wp2;go_ret;exact⟨rfl,K8.out⟩
  ·have g1:(4096:Int)<(key.size:Int):=by omega
   go_wp2;go_ret;exact⟨rfl,K8.out⟩
theorem DZ(key hid pub sig pr:ByteArray)(w0:World):
 Calls prog 3 #[.string key,.string hid,.string pub,.string sig,.string pr] w0 fun e w'=>e=.returned (.bool true)/\Below w0.heap.size w0 w':=by
 obtain⟨P,hz,C⟩:=fl3;exact D2 C Pd (order2 C.toFld) (by decide +kernel) key hid pub sig pr w0
end
/-
  THE ROW OF 'BlindSigns' round its walk; the frame by the guide's program (howto/shells), the world behind the call told by 'Below'.
-/
namespace blindSigns
open Go.ChangeShapes Go.WideShapes Go.ChangeAt Go.RowKit
open Go.ChangeMaps (open_string shut_string)
theorem own:ownKnob prog.godebug=none:=by kernel_rfl
theorem lifted(os:Os)(started:os.Started)(H:Type)(enc:TypeId × Value->H):
 ReturnsInHanded {} Tryz.checked os 3 .any (Rows.blindSignsSpec.pre6 enc prog Tryz.f3 Rows.blindSignsRow.domain false) (Rows.blindSignsSpec.post enc prog Tryz.f3 false true false false):=by
 refine returnsInHanded_of_change (C:=Tryz.checked) own started (by kernel_rfl) Tryz.func3
  (ChangeSpec.witness6 (enc:=enc) (C:=Tryz.checked) false ⟨#[],#[.string Tg,.string Tg,.string Tg,.string Tg,.string Tg],[]⟩ 8 (by kernel_rfl) (by kernel_rfl) (by kernel_rfl) (by kernel_rfl)) ?_
 intro W base args ds gs before hval0 hW hcnd _;have hval:∀(j:Nat) t v,Tryz.f3.params[j]? = some t->args[j]? = some v->Value.okWide prog W .any base t v:=hval0;have hW':=hW;obtain⟨p,q,hA0,hV,rfl,hfz,hnd⟩:=hW;have hA:DataW.TrodAll enc prog W 0 (fun _=>true) true Tryz.f3.params.toList args.toList ds p:=hA0;rw[Tryz.params3]at hA hval;obtain⟨v0,vs0,d0,ds0,p0,q0,hargs,rfl,rfl,h0,r0⟩:=trodAll_cons hA;obtain⟨v1,vs1,d1,ds1,p1,q1,rfl,rfl,rfl,h1,r1⟩:=trodAll_cons r0;obtain⟨v2,vs2,d2,ds2,p2,q2,rfl,rfl,rfl,h2,r2⟩:=trodAll_cons r1;obtain⟨v3,vs3,d3,ds3,p3,q3,rfl,rfl,rfl,h3,r3⟩:=trodAll_cons r2;obtain⟨v4,vs4,d4,ds4,p4,q4,rfl,rfl,rfl,h4,r4⟩:=trodAll_cons r3;obtain⟨rfl,rfl,rfl⟩:=trodAll_nil r4;obtain rfl:args=#[v0,v1,v2,v3,v4]:=by cases args;simp_all
 obtain⟨rfl,rfl⟩:=trodVars_none hV;obtain⟨a0,rfl,rfl,rfl,w0⟩:=open_string Tryz.underlying9 (hval 0 9 v0 rfl rfl) h0;obtain⟨a1,rfl,rfl,rfl,w1⟩:=open_string Tryz.underlying9 (hval 1 9 v1 rfl rfl) h1;obtain⟨a2,rfl,rfl,rfl,w2⟩:=open_string Tryz.underlying9 (hval 2 9 v2 rfl rfl) h2;obtain⟨a3,rfl,rfl,rfl,w3⟩:=open_string Tryz.underlying9 (hval 3 9 v3 rfl rfl) h3;obtain⟨a4,rfl,rfl,rfl,w4⟩:=open_string Tryz.underlying9 (hval 4 9 v4 rfl rfl) h4;clear hA0 hval0;refine(DZ a0 a1 a2 a3 a4 W).mono fun e W' ⟨he,bel⟩=>?_
 subst he;exact⟨_,rfl,_,_,_,[],_,[],hW',(trodAll_cons_mk (shut_bool Tryz.underlying4 _) trodAll_mk0),(trodAll_cons_mk (shut_string Tryz.underlying9 w0) (trodAll_cons_mk (shut_string Tryz.underlying9 w1) (trodAll_cons_mk (shut_string Tryz.underlying9 w2) (trodAll_cons_mk (shut_string Tryz.underlying9 w3) (trodAll_cons_mk (shut_string Tryz.underlying9 w4) trodAll_mk0))))),rfl,bel.frame _,fun h=>by cases h⟩
theorem over:Rows.blindSignsRow.holds Tryz.pinned (OpenSpec.ofChange Rows.blindSignsSpec):=
 OpenClaim.holds_of_wide 3 Tryz.f3 rfl rfl rfl rfl rfl rfl rfl ⟨rfl,rfl,rfl,rfl,rfl⟩ rfl rfl rfl rfl rfl (by kernel_rfl) Tryz.func3 (by kernel_rfl)
  (of_decide_eq_true (by kernel_rfl)) (by unfold Func.isWrapper;first|(rw[if_pos (by decide +kernel)];kernel_rfl)|(rw[if_neg (by decide +kernel)];exact⟨rfl,rfl⟩))
  (fun os started H enc _=>lifted os started H enc)
theorem proved:Rows.BlindSignsSaid:=
 over
end blindSigns
section
theorem blindSigns_holds:Rows.BlindSignsSaid:=blindSigns.proved
#print axioms blindSigns_holds
end
end Go.Proofs.YtbceebahamkmdaaGreat
