import Derived.Deep.DeepCutAuto
import Derived.Deep.Upon
import Derived.Lib.LazyBuf
import Derived.ChangeOld
import Derived.Below
import Derived.WalkKit
import Derived.ProofKit
import Derived.OpenShut
import Derived.ShutString
import Derived.Test.YtdoammpgchejcaaGreatsz7
set_option linter.unusedVariables false
set_option linter.constructorNameAsVariable false
set_option linter.unusedSimpArgs false
set_option maxRecDepth 1000000
set_option maxHeartbeats 4000000
namespace Go.Proofs.YtdoammpgchejcaaGreat
open EC NT RG SP
open _root_.Array renaming ext'->yBR,getD_eq_getD_getElem?->UH,getElem?_push_size->WT,replicate->UI,size->V2,size_append->VM,size_replicate->UO,toList_ofFn->Zu
open _root_.BitVec renaming ofInt->Xa,ofInt_natCast->Zc,toNat_ofNat->YE
open _root_.ByteArray renaming empty->yAs
open _root_.Fin renaming ofNat->Xg
open _root_.Go renaming Addr->Wt,Calls->UG,Oper->Vj,Program->VC,TypeId->U7,Value->Us,World->Uq,bodyPost_ret->UD,execOp->U4,run_make_row'->yBE,trodAll_cons_mk->YK,undef->WO,wpList_load_mid->U5,wpList_store_mid->U1,wp_cond_false->VH,wp_cond_true->VD,wp_seq->Uy,wp_skip->WR
open _root_.Go.Act renaming put->UM
open _root_.Go.Builtin renaming copy_->XY,firstCells->Zh
open _root_.Go.Instr renaming indexAt->Vk,sliceAt->Xm
open _root_.Go.IntKind renaming i64->VR,u64->Vn,u8->Xx,wrap_i64->Yj
open _root_.Go.Lib renaming size_eq->yB0,wpList_append_run->WH
open _root_.Go.Op renaming intBits->yB9
open _root_.Go.Oper renaming wp->VS
open _root_.Go.Region renaming wanted->V1
open _root_.Go.RowKit.Below renaming refl->UQ
open _root_.Go.Sem renaming run_bind->UU
open _root_.Go.Value renaming int->VY,ownBlock->V8
open _root_.Go.World renaming cell?->VX,cell?_setCell_other->UT,cell?_setCell_same->VU,frozen?->WV,heap_setCells_other->ZZ,size_alloc->UA,size_setCell->Yf
open _root_.List renaming all_cons->Zt,all_nil->ZK,all_toArray->Ya,append_assoc->Vw,getD_eq_getElem?_getD->VP,getElem?_append_left->US,getElem?_append_right->U0,getElem?_eq_getElem->UF,getElem?_eq_none->Ww,getElem?_eq_some_iff->UE,getElem?_map->Vy,getElem_map->Xc,getElem_take->yAQ,length_append->Uz,length_cons->Vh,length_map->UP,length_nil->WF,length_take->WE,map_append->V9,mem_append->Wy,mem_cons->VW,mem_map->Vm,mem_of_getElem?->VI,mem_replicate->Zo,not_mem_nil->UX,ofFn_succ->yBq,range->VF,replicate->VA,setIfInBounds_toArray->Ur,set_cons_succ->Ut,set_cons_zero->Uu,sum_append->yBa,sum_cons->yBw,take_add_one->ZH,take_append_drop->Za,take_of_length_le->Y9
open _root_.Nat renaming add_assoc->WQ,add_mul->XE,add_sub_cancel_left->WJ,add_zero->XA,div_eq_of_lt->Xd,le_of_ble_eq_true->VQ,le_refl->Uv,le_trans->UB,lt_of_lt_of_le->Uw,lt_of_succ_le->Xi,lt_succ_self->YG,min->XO,min_eq_left->yBo,mod_eq_of_lt->UR,mod_lt->V4,mod_one->yAW,mul_assoc->X0,mul_comm->Vu,pow_le_pow_right->Vz,pow_succ->V6,sub_self->YU,two_mul->yBS,zero_add->UC,zero_le->Wx
open _root_.Option renaming map->yBB,map_eq_some_iff->Ux,some->UN
open _root_.Or renaming inl->U3,inr->UW
open _root_.Prod renaming mk->V5
open _root_.UInt8 renaming ofNat->UL
open Go.Proofs.Tryz
open Go.RowKit Go.Sort Go.Deep
section
variable {P:Nat}[NeZero P]{N:Nat}
def Cor(W:Uq)(k:List (Wt × Nat))(us:List Us):Prop:=k.length=us.length/\∀(j:Nat) x u,k[j]? = some x->us[j]? = some u->(∃b o,x.1=⟨b,o,none⟩)/\W.cell? x.1=some u
theorem Cor.app{W:Uq}{p1 p2:List (Wt × Nat)}{u1 u2:List Us}(k:Cor W p1 u1)(c:Cor W p2 u2):Cor W (p1++p2) (u1++u2):=by
 refine⟨by rw[Uz,Uz,k.1,c.1],λj x u hx b=>?_⟩;by_cases d:j<p1.length
 ·rw[US d]at hx;rw[US (by rw[<-k.1];exact d)]at b;exact k.2 j x u hx b
 ·rw[U0 oM]at hx;rw[U0 (by rw[<-k.1];omega),<-k.1]at b;exact c.2 _ x u hx b
theorem Cor.lp{W:Uq}{s:Sv}{b o:Nat}{ys:List Us}(h:VL W s.q s.n ys)(c:s.n=0\/s.q=some ⟨b,o,none⟩):Cor W (lp b o s.n) ys:=by
 refine⟨by rw[jK,h.len],λj x u hx e=>?_⟩;unfold Go.Proofs.YtdoammpgchejcaaGreat.lp at hx;rw[Vy]at hx;obtain⟨k,g,rfl⟩:=Ux.1 hx;have n:j<s.n:=by
  have:=(UE.1 g).1;simpa using this
 have f:j=k:=by
  have:=(UE.1 g).2;simpa using this
 subst f;refine⟨⟨_,_,rfl⟩,?_⟩;rcases h.cells with i|⟨m,p,d,-,l⟩
 ·rw[i]at e;cases e
 ·rcases c with c|c
  ·omega
  ·rw[c]at d;have d:=UN.inj d;injection d with e1 e2 _
   subst e1 e2;exact l j u e
def qY(p:Rg)(b k:List Us):List Us:=[p.a.v,p.b.v,p.c.v,p.d.v,p.e.v,p.f.v,p.g.v]++b++k++[p.x.v,p.y.v]
def fN(k c d n b or m:Nat):List (Wt × Nat):=tH k++lp c d n++lp b or m++endP k
theorem MP{W:Uq}{m i l g or:Nat}{p:Rg}{d e:List Us}(f:W.rangeAt m 0 p.cs)(n:VL W p.l.q p.l.n d)(hR:VL W p.r.q p.r.n e)(q:p.l.n=0\/p.l.q=some ⟨i,l,none⟩)(o:p.r.n=0\/p.r.q=some ⟨g,or,none⟩):
 Cor W (fN m i l p.l.n g or p.r.n) (qY p d e):=by
 refine Cor.app (Cor.app (Cor.app ?_ (Cor.lp n q)) (Cor.lp hR o)) ?_
 ·refine⟨rfl,λj x u hx b=>?_⟩;have c:=f j u;rw[UC]at c;match j,hx,b with
  | 0,hx,b|1,hx,b|2,hx,b|3,hx,b|4,hx,b|5,hx,b|6,hx,b =>
   obtain rfl:=UN.inj hx;exact⟨⟨_,_,rfl⟩,c b⟩
  | k+7,hx,b=>cases hx
 ·refine⟨rfl,λj x u hx b=>?_⟩;match j,hx,b with
  | 0,hx,b =>
   obtain rfl:=UN.inj hx;exact⟨⟨_,_,rfl⟩,by have c:=f 9 u b;rw[UC]at c;exact c⟩
  | 1,hx,b =>
   obtain rfl:=UN.inj hx;exact⟨⟨_,_,rfl⟩,by have c:=f 10 u b;rw[UC]at c;exact c⟩
  | k+2,hx,b=>cases hx
def gZ(n m:Nat):List Nat:=[33,33,33,33,32,32,32]++VA n 33++VA m 33++[32,32]
theorem sK(k d e n c or m:Nat):(fN k d e n c or m).map (·.2)=gZ n m:=by
 have h:∀b o n,(lp b o n).map (·.2)=VA n 33:=λb o n=>by
  unfold lp;rw[List.map_map];exact List.ext_getElem (by simp) (λi g f=>by simp)
 unfold fN gZ;rw[V9,V9,V9,h,h];rfl
theorem EN(n m:Nat):∀k∈gZ n m,k<=33:=by
 intro k b;unfold gZ at b;simp only[Wy,VW,UX,or_false,Zo]at b;omega
theorem kV(n m:Nat):(gZ n m).length=n+m+9:=by
 unfold gZ;simp only[Uz,List.length_replicate,Vh,WF];omega
def PtB(W:Uq)(us:List Us)(BB:List SP.Bs):Prop:=BB.length=us.length/\∀(j:Nat) u b,us[j]? = some u->BB[j]? = some b->Pt W u b
def eU(n:Nat)(BB:List SP.Bs)(i:Nat):SP.Bs:=(BB.take i).foldl (·++·) #[n.toUInt8]
theorem lE(n:Nat)(BB:List SP.Bs)(i:Nat)(b:SP.Bs)(h:BB[i]? = some b):eU n BB (i+1)=eU n BB i++b:=by
 unfold eU;rw[ZH,h];simp
def mM(n m:Nat)(BB:List SP.Bs):Prop:=n=m/\n<=6/\BB.map V2=gZ n m
def S4(w:Uq)(n m:Nat)(BB:List SP.Bs)(e:Ending)(W:Uq):Prop:=kZ w W/\((mM n m BB/\∃v,e=.returned (.tuple #[v,iZ 0])/\Pt W v (eU n BB (n+m+9))/\∃g c,v=sZ g (V2 (eU n BB (n+m+9))) c/\V2 (eU n BB (n+m+9))<=c)\/(¬mM n m BB/\e=.returned (.tuple #[.slice none 0 0,iZ 2])))
theorem PuI.cap{w d W:Uq}{k f:Nat}{v:Us}{b:SP.Bs}(h:PuI w d W k f v b):∃g c,v=sZ g (V2 b) c/\V2 b<=c:=by
 rcases id h.ow with⟨i,⟨rfl,-⟩|⟨g,cap,cur,rfl,l,j,e,-⟩⟩
 ·exact absurd rfl h.nn
 ·exact⟨g,cap,rfl,e⟩
theorem PuI.pt{w i W:Uq}{o m:Nat}{v:Us}{b:SP.Bs}(h:PuI w i W o m v b):Pt W v b:=by
 have k:=h.lt;rcases id h.ow with⟨p,⟨rfl,-⟩|⟨g,cap,cur,rfl,x,n,t,s,u,r⟩⟩
 ·exact absurd rfl h.nn
 ·obtain⟨q,c,e,-,l⟩:=k;injection e with e _ _
  injection e with e
  injection e with e _ _
  subst e;refine⟨_,_,rfl,UW ⟨g,0,rfl,l,λj d=>?_⟩⟩;have f:=h.ow.cells (g:=g) rfl j (SP.encB b[j]!) (by
   unfold bC;rw[Vy,UF (by simpa using d),Option.map_some,getElem!_pos b j d];simp)
  rw[lH,UC]at f;refine⟨by rw[UC];exact f,?_⟩;simp[WV,n]
theorem QC:(prog.underlying 112).map (·.isRow)=some true:=kR
theorem iPt:(prog.info? 112).map (·.size)=some 2:=kR
theorem NK(g n c i:Nat)(b:i<n)(w:Uq):(Vk 107 (sZ g n c) (iZ i)).run prog w=.ok (.pointer (some ⟨g,i*2,none⟩)) w:=by
 have e:¬(i:Int)<0:=oM;have d:(i:Int)<(n:Int):=oM;have k:=lH g 0 (i*2);rw[UC]at k;go_simp
theorem OL(p:Rg){R S P or:Nat}{F E:List Us}{BB:List SP.Bs}(w:Uq)(hL:VL w p.l.q p.l.n F)(hR:VL w p.r.q p.r.n E)(hl:p.l.n=0\/p.l.q=some ⟨R,S,none⟩)(hr:p.r.n=0\/p.r.q=some ⟨P,or,none⟩)(hB:PtB w (qY p F E) BB)(n1:p.l.n<=1000)(n2:p.r.n<=1000):
 UG prog 13 #[.agg p.cs.toArray] w (S4 w p.l.n p.r.n BB):=by
 obtain⟨cs,r⟩:∃cs:List Us,Hid (p.cs=cs):=⟨_,rfl⟩
 obtain⟨l,s⟩:∃l,Hid (w.alloc (.cells cs.toArray 28)=l):=⟨_,rfl⟩
 have e1:l.heap.size=w.heap.size+1:=by rw[<-s.out,UA]
 have b1:Below w.heap.size w l:=by rw[<-s.out];exact aO _ _
 have r1:l.rangeAt w.heap.size 0 cs:=by rw[<-s.out];exact eI w cs _
 have T:l.cell? ⟨w.heap.size,7,none⟩=some p.l.v:=by have:=r1 7 p.l.v (by rw[<-r.out];rfl);rw[UC]at this;exact this
 have U:l.cell? ⟨w.heap.size,8,none⟩=some p.r.v:=by have:=r1 8 p.r.v (by rw[<-r.out];rfl);rw[UC]at this;exact this
 obtain⟨C,a⟩:∃C,Hid (l.alloc (.cells #[.int .u8 (p.l.n:Int)] 5)=C):=⟨_,rfl⟩
 have b2:Below l.heap.size l C:=by rw[<-a.out];exact aO _ _
 have e2:C.heap.size=l.heap.size+1:=by rw[<-a.out,UA]
 have hP:Hid (UG prog 55 #[.pointer (some ⟨w.heap.size,0,none⟩)] C λe w'=>∃v,e=.returned v/\PLs C w' v (fN w.heap.size R S p.l.n P or p.r.n)):=
  zP w.heap.size p.l p.r R S P or C oM (by rw[b2.cell (p:=⟨w.heap.size,7,none⟩) (by show w.heap.size<_;omega)];exact T) (by rw[b2.cell (p:=⟨w.heap.size,8,none⟩) (by show w.heap.size<_;omega)];exact U) hl hr n1 n2
 have G:=Hid.mkP b1;have h0:=Hid.mkP b2;have h2:=Hid.mkP r1;have HE:Hid (l.heap.size=w.heap.size+1/\C.heap.size=l.heap.size+1):=⟨e1,e2⟩
 have HL:=Hid.mkP hL;have HR:=Hid.mkP hR;have Hl:=Hid.mkP hl;have Hr:=Hid.mkP hr;have HB:=Hid.mkP hB;have m:Hid ((qY p F E).length=p.l.n+p.r.n+9):=by
  show _=_;unfold qY;simp only[Uz,hL.len,hR.len,Vh,WF];omega
 clear b1 b2 r1 e1 e2 hL hR hl hr hB;rw[r.out];obtain⟨f,Q⟩:∃f,Hid (p.l.n=f):=⟨_,rfl⟩
 obtain⟨Z,N⟩:∃Z,Hid (p.r.n=Z):=⟨_,rfl⟩
 rw[show p.l.v=.slice p.l.q p.l.n p.l.c from rfl]at T;rw[show p.r.v=.slice p.r.q p.r.n p.r.c from rfl]at U;rw[Q.out,N.out]at hP m⊢;rw[Q.out]at T n1 a;rw[N.out]at U n2;generalize p.l.q=ql at T;generalize p.l.c=cl at T;generalize p.r.q=qr at U;generalize p.r.c=cr at U;go_enter func13,ntmps13;by_cases hg:f=Z
 ·subst hg;by_cases h6:f<=6
  ·have hb:¬(6:Int)<(f:Int):=oM;have hq:Xx.wrap (f:Int)=(f:Int):=by
    show((f:Int)%256)=_;omega
   go_wp2_with (first|(refine aY (v:=.pointer (some ⟨w.heap.size,0,none⟩)) (w':=l) rfl (.box 28 (.tmp 0)) rfl ?_ ?_;(rw[<-s.out,<-r.out];kernel_rfl))|(refine aY (v:=.slice (some ⟨l.heap.size,0,none⟩) 1 1) (w':=C) rfl (.buildSlice 23 1 #[(0,.tmp 23)]) rfl ?_ ?_;(rw[<-a.out];kernel_rfl))|fail)
   refine hP.out.mono ?_;rintro e V ⟨v3,rfl,L⟩;obtain⟨H,Y,rfl,h7,he⟩:=L.lt;have hM:(fN w.heap.size R S f P or f).length=f+f+9:=by
    rw[<-kV f f,<-sK w.heap.size R S f P or f,UP]
   have I0:Hid (PuI w V V w.heap.size H (.slice (some ⟨l.heap.size,0,none⟩) 1 1) (eU f BB 0)):=by
    obtain⟨z1,z2⟩:=HE.out;have o:=L.bl.size;refine⟨G.out.trans ((h0.out.mono G.out.size).trans (L.bl.mono oM)),⟨rfl,UW ⟨l.heap.size,1,#[.int .u8 f],rfl,oM,?_,Uv _,dC,rfl,?_⟩⟩,by simp[V8],by simp[V8];omega,by simp[V8];omega,rfl,rfl,Uv _,oM,oM⟩
    ·rw[L.bl.block l.heap.size oM,<-a.out];exact WT
    ·show [VY .u8 f]=[SP.encB f.toUInt8];unfold SP.encB SP.ub;have:(f.toUInt8).toNat=f:=by
      rw[UInt8.toNat_ofNat'];omega
     simp[this]
   have HC:Hid (∀W v b,PuI w V W w.heap.size H v b->∀i,i<f+f+9->∃z y k q n c B,(gZ f f)[i]? = some k/\k<=33/\W.rangeAt H (i*2) [.pointer (some ⟨z,y,none⟩),.int .i64 k]/\W.cell? ⟨z,y,none⟩=some (.slice q n c)/\BB[i]? = some B/\Pt W (.slice q n c) B):=λW v b hI i hi=>by
    obtain⟨z1,z2⟩:=HE.out;have I:W.rangeAt w.heap.size 0 p.cs:=λj u J=>by
     have e:=hI.e1;have o:V.heap[w.heap.size]? = l.heap[w.heap.size]?:=by rw[L.bl.block _ oM,h0.out.block _ oM]
     have:W.cell? ⟨w.heap.size,0+j,none⟩=l.cell? ⟨w.heap.size,0+j,none⟩:=by unfold VX;rw[e,o]
     rw[this];exact h2.out j u (by rw[<-r.out];exact J)
    have o:=MP I (HL.out.below hI.bl) (HR.out.below hI.bl) Hl.out Hr.out;rw[Q.out,N.out]at o;obtain⟨x,hx⟩:∃x,(fN w.heap.size R S f P or f)[i]? = some x:=⟨_,UF oM⟩
    obtain⟨u,O⟩:∃u,(qY p F E)[i]? = some u:=⟨_,UF (by rw[m.out];omega)⟩
    obtain⟨B,D⟩:∃B,BB[i]? = some B:=⟨_,UF (by rw[HB.out.1,m.out];omega)⟩
    obtain⟨⟨z,y,A⟩,t⟩:=o.2 i x u hx O;have hpt:=(HB.out.2 i u B O D).below hI.bl;have X:(gZ f f)[i]? = some x.2:=by rw[<-sK w.heap.size R S f P or f,Vy,hx];rfl
    have K:=L.at i x hx;rw[A]at t;obtain⟨q,c,rfl,-⟩:=id hpt;refine⟨z,y,x.2,q,_,c,B,X,EN f f _ (VI X),λj u J=>?_,t,D,hpt⟩;have e:=hI.e2;have:W.cell? ⟨H,i*2+j,none⟩=V.cell? ⟨H,i*2+j,none⟩:=by unfold VX;rw[e]
    rw[this,Vu];exact K j u (by unfold pC;rw[A];exact J)
   obtain⟨M,t⟩:∃M,Hid (f+f+9=M):=⟨_,rfl⟩
   rw[t.out]at HC hM;rw[hM];have hp:M<=21:=by have:=t.out;omega
   have ha:Hid (BB.length=M):=by show _=_;rw[HB.out.1,m.out,t.out]
   have h5:Hid ((gZ f f).length=M):=by show _=_;rw[kV,t.out]
   obtain⟨dP,h9,h8⟩:=Ux.1 QC;clear L hM hP HB HL HR Hl Hr m T U h7 he h2;go_wp2;go_loopg [5,27] M (λgk s5 s27 wr=>∃i:Nat,i+gk=M/\s27=.int .i64 i/\Hid (PuI w V wr w.heap.size H s5 (eU f BB i)/\(eU f BB i).size<=1+33*i/\∀j,j<i->(BB[j]?).map V2=(gZ f f)[j]?))
   case atStart=>exact⟨0,oM,rfl,I0.out,by show 1<=_;omega,λj J=>absurd J (Nat.not_lt_zero _)⟩
   case round =>
    obtain⟨i,hi,rfl,K⟩:=hrel;obtain⟨g,cap,rfl,-,-⟩:=K.out.1.lt;by_cases h1:i<M
    ·have X:(i:Int)<(M:Int):=oM;have hs:=NK H M Y i h1;obtain⟨z,y,k,q,n,c,B,k1,k2,k3,k4,k5,k6⟩:=HC.out _ _ _ K.out.1 i h1;have K3:=Hid.mkP k3;have I:Hid ((gZ f f)[i]? = some k/\BB[i]? = some B/\Pt wr (.slice q n c) B):=⟨k1,k5,k6⟩
     clear k1 k3 k5 k6;obtain⟨A,D⟩:∃A,Hid (wr.alloc (.cells #[.pointer (some ⟨z,y,none⟩),.int .i64 k] 112)=A):=⟨_,rfl⟩
     have O:Below wr.heap.size wr A:=by rw[<-D.out];exact aO _ _
     have a0:A.cell? ⟨wr.heap.size,0,none⟩=some (.pointer (some ⟨z,y,none⟩)):=by rw[<-D.out];exact cZ wr _ _ 0 _ rfl
     have a1:A.cell? ⟨wr.heap.size,1,none⟩=some (.int .i64 k):=by rw[<-D.out];exact cZ wr _ _ 1 _ rfl
     have a2:A.cell? ⟨z,y,none⟩=some (.slice q n c):=by rw[O.cell (p:=⟨z,y,none⟩) (World.block_lt_of_cell? _ _ k4)];exact k4
     have KA:Hid (∀d,Below wr.heap.size wr (A.drewN d)):=λd=>⟨O.os,O.tape,O.output,O.size,O.block⟩
     clear O;go_wp2_with (first|(refine U5 rfl 112 _ rfl H (i*2) ?_ [.pointer (some ⟨z,y,none⟩),.int .i64 k] dP ?_ ?_ ?_ ?_ ?_;rfl;exact K3.out;exact h9;exact h8;exact iPt;skip)|fail)
     rw[D.out];go_quiet (fail);have KB:=Hid.mkP (KA.out nq);have q0:(A.drewN nq).cell? ⟨wr.heap.size,0,none⟩=some (.pointer (some ⟨z,y,none⟩)):=a0;have q2:(A.drewN nq).cell? ⟨z,y,none⟩=some (.slice q n c):=a2;clear KA a0 a1 a2;generalize A.drewN nq=wb at KB q0 q2⊢;by_cases h3:n=k
     ·subst h3;obtain⟨e1,hv⟩:=(I.out.2.2.below KB.out).vl;subst e1;have hc:=K.out.2.1;obtain⟨v',W',x1,o⟩:=(K.out.1.below KB.out).app (c:=c) hv oM;rw[<-lE f BB i B I.out.2.1]at o;have X2:=Hid.mkP o;have X3:Hid ((eU f BB (i+1)).size<=1+33*(i+1)/\∀j,j<i+1->(BB[j]?).map V2=(gZ f f)[j]?):=by
       refine⟨?_,λj J=>?_⟩
       ·rw[lE f BB i B I.out.2.1,VM];omega
       ·by_cases h4:j=i
        ·subst h4;rw[I.out.2.1,I.out.1];rfl
        ·exact K.out.2.2 j oM
      have X1:=Hid.mkP x1;obtain⟨g',hn,rfl,-,-⟩:=o.lt;generalize V2 (eU f BB (i+1))=N2 at X1 X2;generalize V2 (eU f BB i)=N1 at X1⊢;clear K x1 o hv hc;generalize V2 B=nB at X1 q2⊢;go_wp2_with (first|(at_builtin;refine WH wb rfl _ _ _ _ rfl _ _ rfl rfl _ _ X1.out ?_)|fail)
      go_roundg (gk-1)
      case measure=>omega
      case rel=>exact⟨i+1,oM,rfl,X2.out,X3.out⟩
     ·have hm:¬(n:Int)=(k:Int):=oM;have o:¬mM f f BB:=λh=>by
       have e0:(BB.map V2)[i]? = (gZ f f)[i]?:=by rw[h.2.2]
       rw[Vy,I.out.2.1,I.out.1]at e0;have e1:V2 B=k:=UN.inj e0;obtain⟨q',c',e2,-⟩:=I.out.2.2;injection e2 with _ e2 _
       omega
      have HW:=Hid.mkP (K.out.1.bl.trans (KB.out.mono K.out.1.bl.size));clear K;go_wp2
      go_ret2
      exact⟨HW.out,UW ⟨o,rfl⟩⟩
    ·have X:¬(i:Int)<(M:Int):=oM;obtain rfl:i=M:=oM;have A:Hid (S4 w f f BB (.returned (.tuple #[.slice (some ⟨g,0,none⟩) (eU f BB i).size cap,.int .i64 0])) wr):=by
      refine⟨K.out.1.bl,U3 ⟨⟨rfl,h6,List.ext_getElem? λj=>?_⟩,_,rfl,?_,?_⟩⟩
      ·by_cases J:j<i
       ·rw[Vy];exact K.out.2.2 j J
       ·rw[Ww (by rw[UP,ha.out];omega),Ww (by rw[h5.out];omega)]
      ·rw[t.out];exact K.out.1.pt
      ·rw[t.out];exact K.out.1.cap
     clear K;go_wp2
     go_ret2
     exact A.out
  ·have hb:(6:Int)<(f:Int):=oM;have o:¬mM f f BB:=λh=>h6 h.2.1
   go_wp2_with (first|(refine aY (v:=.pointer (some ⟨w.heap.size,0,none⟩)) (w':=l) rfl (.box 28 (.tmp 0)) rfl ?_ ?_;(rw[<-s.out,<-r.out];kernel_rfl))|fail)
   go_ret2
   exact⟨G.out,UW ⟨o,rfl⟩⟩
 ·have t:¬(Z:Int)=(f:Int):=oM;have o:¬mM f Z BB:=λh=>hg h.1
  go_wp2_with (first|(refine aY (v:=.pointer (some ⟨w.heap.size,0,none⟩)) (w':=l) rfl (.box 28 (.tmp 0)) rfl ?_ ?_;(rw[<-s.out,<-r.out];kernel_rfl))|fail)
  go_ret2
  exact⟨G.out,UW ⟨o,rfl⟩⟩
end
section
namespace RG
variable {P:VC}{ops:Array Vj}{Q:Exit->Act->Uq->Prop}{a0:Act}{F:Flow}
theorem lC{k:Nat}{o:Vj}(h:∀(a:Act) (w:Uq),PreF F ops a0 k o a w->∃(b:List (Tmp × Us)) (v:Us) (w':Uq),AllE a b/\(dA (b.map (·.1)) o,(U4 (evo (evl b)) o).run P w)=(true,.ok (.value v) w')/\F.E k w w'/\F.R k v w'):bF P Q F ops a0 k o:=
 mH λa w e=>by
  obtain⟨b,v,w',d,c,hE⟩:=h a w e;simp only[V5.injEq]at c;refine⟨v,w',?_,hE⟩;rw[iU (evl b) (b.map (·.1)) c.1 d.ev];exact c.2
theorem D4{k:Nat}{o:Vj}(T:U7)(t:Tmp)(ho:o.op=.load T (.tmp t))(b:(P.underlying T).map (·.isRow)=some false)
 (h:∀(a:Act) (w:Uq),PreF F ops a0 k o a w->∃g off v,a.eval (.tmp t)=oZ g off/\w.cell? ⟨g,off,none⟩=some v/\F.E k w w/\F.R k v w):bF P Q F ops a0 k o:=
 mH λa w e=>by
  obtain⟨g,off,v,f,c,d⟩:=h a w e;refine⟨v,w,?_,d⟩;unfold U4;rw[ho];dsimp only;rw[f,UU,fD c b];rfl
end RG
end
section
theorem O7(a:Wt)(n c:Nat)(w:Uq):(binOp .eql 23 (.slice (some a) n c) (.slice none 0 0)).run prog w=.ok (.bool false) w:=kR
theorem Ki{g o b k:Nat}(h:some (⟨g,o,none⟩:Wt)=some ⟨b,k,none⟩):g=b/\o=k:=by
 cases h
 exact⟨rfl,rfl⟩
theorem GB{W:Uq}{B n s:Nat}{T:U7}{v:Us}{xs:List Us}(h:W.ownsRow B T s v n xs):∃q c,v=.slice q n c:=by
 rcases h.2 with⟨e,e'⟩|⟨g,cap,cur,e,-⟩
 ·exact⟨none,0,by rw[e,e']⟩
 ·exact⟨_,_,e⟩
structure FrC(N:Nat)(X:SP.Bs)(v:Us)(W:Uq):Prop where
 own:W.ownsRow N 5 1 v X.size (bC X)
 nn:v.ownBlock≠none
theorem FrC.below{N:Nat}{X:SP.Bs}{v:Us}{W W':Uq}(h:FrC N X v W)(k:kZ W W'):FrC N X v W':=⟨bZ h.own (λg b=>k.block g (jG h.own b).2.1),h.nn⟩
theorem JP(g o c:Nat)(X:SP.Bs)(J:X.size<=1000000)(w:Uq)(B:g<w.heap.size)(a:Holds SP.encB w g o X):
 UG prog 56 #[.slice (some ⟨g,o,none⟩) X.size c] w λe w'=>∃v,e=.returned v/\kZ w w'/\FrC w.heap.size X v w':=by
 obtain⟨i,G,x⟩:=Ux.1 Jd;simp only[V5.injEq]at x;obtain⟨I,C,E⟩:=x;obtain⟨z,F,q⟩:=Ux.1 E;obtain⟨d,f⟩:∃d,Hid (w.alloc (.cells #[] 5)=d):=⟨_,rfl⟩
 have r:d.heap.size=w.heap.size+1:=by rw[<-f.out,UA]
 have b1:kZ w d:=by rw[<-f.out];exact aO _ _
 have ho:d.ownsRow w.heap.size 5 1 (sZ w.heap.size 0 0) 0 []:=by
  rw[<-f.out];exact⟨rfl,.inr ⟨w.heap.size,0,#[],rfl,Uv _,WT,Uv _,Wx _,rfl,rfl⟩⟩
 have hpt:Pt d (.slice (some ⟨g,o,none⟩) X.size c) X:=⟨_,_,rfl,UW ⟨g,o,rfl,oM,SP.Holds.below a b1 B⟩⟩
 obtain⟨-,hv⟩:=hpt.vl;have n:∀(j:Nat) u,(bC X)[j]? = some u->d.cell? ((⟨g,o,none⟩:Wt).add j)=some u:=λj u p=>by
  rcases hv.cells with m|⟨b,t,l,-,n⟩
  ·rw[m]at p;cases p
  ·obtain⟨r,s⟩:=Ki l;subst r s;rw[lH];exact n j u p
 obtain⟨D,W',s,m,l,y⟩:=run_append_own (P:=prog) d w.heap.size 23 23 5 i z 1 1 zB G F I C q dC _ 0 [] ho ⟨g,o,none⟩ X.size c (bC X) (by rw[yR];omega) n (Bp X) (by unfold maxLen;omega) oM oM;rw[UC,List.nil_append]at m;have K:Hid (kZ w W'/\FrC w.heap.size X D W'):=by
  refine⟨⟨by rw[l.os,b1.os],by rw[l.tape,b1.tape],by rw[l.output,b1.output],UB b1.size l.size,λk A=>?_⟩,m,?_⟩
  ·rw[l.block k oM (by simp[V8];omega),b1.block k A]
  ·rcases m.2 with⟨H,-⟩|⟨L,t,cur,rfl,-⟩
   ·have:=(y.1 H).1;exact absurd this (by simp)
   ·simp[V8]
 have t:=Hid.mkP s;have A:=O7 ⟨g,o,none⟩ X.size c;clear s m l y n hv hpt ho b1 r a;go_enter func56,ntmps56;go_wp2_with (first|(refine aY (v:=sZ w.heap.size 0 0) (w':=d) rfl (.buildSlice 23 0 #[]) rfl ?_ ?_;(rw[<-f.out];kernel_rfl))|(at_builtin;refine WH d rfl _ _ _ _ rfl _ _ rfl rfl _ _ t.out ?_)|fail)
 go_ret;exact⟨_,rfl,K.out.1,K.out.2⟩
theorem heap_set (w : World) (a : Addr) (v : Value) (k : Nat) : (w.setCell a v).heap[k]? = if a.block = k then (w.heap[k]?).map (fun
      | .cells c elem frozen => .cells (if a.spot.isSome then c else c.setIfInBounds a.off v) elem frozen
      | o => o) else w.heap[k]? := by
  show(w.heap.modify a.block _)[k]? = _;rw [Array.getElem?_modify];rfl
theorem G7{N:Nat}{ws w:Uq}(h:Below N ws w)(a:Wt)(v:Us):Below N (ws.setCell a v) (w.setCell a v):=
 ⟨h.os,h.tape,h.output,by rw[Yf,Yf];exact h.size,λk b=>by rw[heap_set,heap_set,h.block k b]⟩
def StR(ws:Uq)(b k:Nat)(X:SP.Bs)(w:Uq):Prop:=∃v,Below ws.heap.size (ws.setCell ⟨b,k,none⟩ v) w/\FrC ws.heap.size X v w
def FR(ws:Uq)(ga e d k gi off m c nx:Nat)(X:SP.Bs):Flow where
 R i v w:=match i with
  | 0=>v=jZ ga
  | 1=>v=oZ e d
  | 2=>v=.slice (some ⟨gi,off,none⟩) m c
  | 3=>v=oZ ga 1
  | 4=>v=iZ k
  | 5=>v=.slice (some ⟨gi,off,none⟩) k c
  | 6=>FrC ws.heap.size X v w
  | 7=>v=.slice (some ⟨gi,off,none⟩) m c
  | 8=>v=oZ ga 1
  | 9=>v=iZ k
  | 10=>v=.slice (some ⟨gi,nx,none⟩) (m-k) (c-k)
  | 11=>v=oZ e d
  | 12=>StR ws e d X w
  | _=>v=.slice (some ⟨gi,nx,none⟩) (m-k) (c-k)
 B b w:=match b with
  | 0=>kZ ws w
  | _=>w.cell? ⟨ga,0,none⟩=some (oZ e d)/\w.cell? ⟨ga,1,none⟩=some (iZ k)/\ga<ws.heap.size/\ws.heap.size<=w.heap.size
 E i w w':=match i with
  | 12=>∃v,w'=w.setCell ⟨e,d,none⟩ v
  | _=>kZ w w'
 kill _:=[]
 killB b:=match b with
  | 0=>[12]
  | _=>[]
variable {ws:Uq}{ga bb oo k gi off m c nx:Nat}{X:SP.Bs}
theorem StR.below{w w':Uq}(h:StR ws bb oo X w)(k:kZ w w'):StR ws bb oo X w':=by
 obtain⟨v,b,c⟩:=h;refine⟨v,b.trans (k.mono ?_),c.below k⟩;have:=b.size;rw[Yf]at this;exact this
theorem FR.stab(l:bb<ws.heap.size)(i j:Nat)(f:i≠j)(v:Us)(w w':Uq)(hE:(FR ws ga bb oo k gi off m c nx X).E i w w')(hR:(FR ws ga bb oo k gi off m c nx X).R j v w):(FR ws ga bb oo k gi off m c nx X).R j v w':=by
 have key:j≠6->j≠12->(FR ws ga bb oo k gi off m c nx X).R j v w':=λe b=>by
  match j,e,b,hR with
  | 0,_,_,h|1,_,_,h|2,_,_,h|3,_,_,h|4,_,_,h|5,_,_,h|7,_,_,h|8,_,_,h|9,_,_,h|10,_,_,h|11,_,_,h|_+13,_,_,h=>exact h
  | 6,h,_,_=>exact absurd rfl h
  | 12,_,h,_=>exact absurd rfl h
 by_cases e:j=6
 ·subst e;by_cases b:i=12
  ·subst b;obtain⟨u,rfl⟩:=hE;have hR:FrC ws.heap.size X v w:=hR;refine(⟨bZ hR.own (λg d=>?_),hR.nn⟩:FrC ws.heap.size X v _);have:=(jG hR.own d).1;rw[heap_set,yCk (by show bb≠g;omega)]
  ·have d:kZ w w':=by
    unfold FR at hE;dsimp only at hE;split at hE
    ·exact absurd rfl b
    ·exact hE
   exact(FrC.below (show FrC ws.heap.size X v w from hR) d:FrC ws.heap.size X v w')
 ·by_cases b:j=12
  ·subst b;have d:kZ w w':=by
    unfold FR at hE;dsimp only at hE;split at hE
    ·exact absurd rfl f
    ·exact hE
   exact(StR.below (show StR ws bb oo X w from hR) d:StR ws bb oo X w')
  ·exact key e b
theorem FR.stabB(g:bb≠ga)(i b:Nat)(n:((FR ws ga bb oo k gi off m c nx X).killB b).contains i=false)(w w':Uq)(hE:(FR ws ga bb oo k gi off m c nx X).E i w w')(l:(FR ws ga bb oo k gi off m c nx X).B b w):(FR ws ga bb oo k gi off m c nx X).B b w':=by
 by_cases j:i=12
 ·subst j;obtain⟨u,rfl⟩:=hE;match b,n,l with
  | 0,n,_=>exact absurd (show([12]:List Nat).contains 12=false from n) dC
  | _+1,_,⟨h1,h2,h3,h4⟩ =>
   refine⟨?_,?_,h3,by rw[Yf];exact h4⟩
   ·rw[UT _ _ _ _ (by intro e;injection e with e _ _;exact g e)];exact h1
   ·rw[UT _ _ _ _ (by intro e;injection e with e _ _;exact g e)];exact h2
 ·have d:kZ w w':=by
   unfold FR at hE;dsimp only at hE;split at hE
   ·exact absurd rfl j
   ·exact hE
  match b,l with
  | 0,l =>
   have f:kZ ws w:=l;exact(f.trans (d.mono f.size):kZ ws w')
  | _+1,⟨h1,h2,h3,h4⟩ =>
   refine⟨?_,?_,h3,UB h4 d.size⟩
   ·rw[d.cell (p:=⟨ga,0,none⟩) (by show ga<_;omega)];exact h1
   ·rw[d.cell (p:=⟨ga,1,none⟩) (by show ga<_;omega)];exact h2
end
section
structure PsOk(w w4:Uq)(gr gq gp:Nat)(ps:List (Wt × Nat)):Prop where
 ad:∀(j:Nat) x,ps[j]? = some x->∃b o,x.1=⟨b,o,none⟩/\b<w4.heap.size/\w.heap.size<=b/\b≠gq/\b≠gr/\x.1≠⟨gp,7,none⟩/\x.1≠⟨gp,8,none⟩
 ne:∀(j j':Nat) x x',j≠j'->ps[j]? = some x->ps[j']? = some x'->x.1≠x'.1
 q:gq<w4.heap.size
 r:gr<w4.heap.size
 p:gp<w4.heap.size
structure RdI(w w4 W:Uq)(gr gq gp:Nat)(lv rv:Us)(ps:List (Wt × Nat))(vs:List Us)(CH:Nat->SP.Bs):Prop where
 bl:kZ w W
 st:∀(j:Nat) x u,ps[j]? = some x->vs[j]? = some u->W.cell? x.1=some u
 th:∀(j:Nat) x,ps[j]? = some x->(∃u,W.cell? x.1=some u)/\W.frozen? x.1=false
 c7:W.cell? ⟨gp,7,none⟩=some lv
 c8:W.cell? ⟨gp,8,none⟩=some rv
 eq:W.heap[gq]? = w4.heap[gq]?
 er:W.heap[gr]? = w4.heap[gr]?
 sz:w4.heap.size<=W.heap.size
 ow:∀(j:Nat) u,vs[j]? = some u->FrC w4.heap.size (CH j) u W
 ne:∀(j j':Nat) u u' g,j<j'->vs[j]? = some u->vs[j']? = some u'->u.ownBlock=some g->u'.ownBlock≠some g
variable {w w4 W:Uq}{gr gq gp:Nat}{lv rv:Us}{ps:List (Wt × Nat)}{vs:List Us}{CH:Nat->SP.Bs}
theorem RdI.below{W':Uq}(h:RdI w w4 W gr gq gp lv rv ps vs CH)(c:PsOk w w4 gr gq gp ps)(k:kZ W W'):RdI w w4 W' gr gq gp lv rv ps vs CH:=by
 have g:=h.sz;have m:=c.p;have i:=c.q;have l:=c.r;have f:∀(j:Nat) x,ps[j]? = some x->W'.cell? x.1=W.cell? x.1/\W'.frozen? x.1=W.frozen? x.1:=λj x hx=>by
  obtain⟨b,o,e,n,-⟩:=c.ad j x hx;have d:=k.block b oM;rw[e];unfold VX WV;rw[d];exact⟨rfl,rfl⟩
 refine⟨h.bl.trans (k.mono h.bl.size),λj x u hx d=>by rw[(f j x hx).1];exact h.st j x u hx d,λj x hx=>by rw[(f j x hx).1,(f j x hx).2];exact h.th j x hx,?_,?_,by rw[k.block gq oM];exact h.eq,by rw[k.block gr oM];exact h.er,UB g k.size,λj u d=>(h.ow j u d).below k,h.ne⟩
 ·rw[k.cell (p:=⟨gp,7,none⟩) (by show gp<_;omega)];exact h.c7
 ·rw[k.cell (p:=⟨gp,8,none⟩) (by show gp<_;omega)];exact h.c8
theorem RdI.step{W':Uq}{i s k:Nat}(h:RdI w w4 W gr gq gp lv rv ps vs CH)(z:PsOk w w4 gr gq gp ps)(hx:ps[vs.length]? = some (⟨i,s,none⟩,k))(L:StR W i s (CH vs.length) W'):∃v,RdI w w4 W' gr gq gp lv rv ps (vs++[v]) CH:=by
 obtain⟨v,o,D⟩:=L;have R:=h.sz;have U:=z.p;have Q:=z.q;have S:=z.r;obtain⟨P,V,e',p1,p2,J,M,K,p6⟩:=z.ad _ _ hx;injection e' with e1 e2 _
 subst e1 e2;obtain⟨⟨old,y⟩,N⟩:=h.th _ _ hx;have f:∀g,g<W.heap.size->g≠i->W'.heap[g]? = W.heap[g]?:=λg t c=>by
  rw[o.block g t,heap_set,yCk (by show i≠g;omega)]
 have b:∀a:Wt,a.block<W.heap.size->a≠⟨i,s,none⟩->W'.cell? a=W.cell? a:=λa F c=>by
  rw[o.cell (p:=a) F,UT _ _ _ _ (λe=>c e.symm)]
 have E:∀a:Wt,a.block<W.heap.size->W'.frozen? a=W.frozen? a:=λa F=>by
  have d:W'.frozen? a=(W.setCell ⟨i,s,none⟩ v).frozen? a:=by
   unfold WV;rw[o.block a.block F]
  rw[d];exact World.frozen?_setCells i [v] s W a
 have B:W.heap.size<=W'.heap.size:=by
  have:=o.size;rw[Yf]at this;exact this
 refine⟨v,⟨⟨by rw[o.os];exact h.bl.os,by rw[o.tape];exact h.bl.tape,by rw[o.output];exact h.bl.output,UB h.bl.size B,λg t=>?_⟩,λj x u q d=>?_,λj x q=>?_,?_,?_,?_,?_,oM,λj u d=>?_,λj G u I g r d n t=>?_⟩⟩
 ·have:=h.bl.size;rw[f g oM oM,h.bl.block g t]
 ·obtain⟨C,O,A,H,-⟩:=z.ad j x q;by_cases m:j<vs.length
  ·rw[US m]at d;have c:=z.ne j vs.length x _ oM q hx;rw[b x.1 (by rw[A];show C<_;omega) c];exact h.st j x u q d
  ·have l:j=vs.length:=by
    have:=(UE.1 d).1;rw[Uz]at this;simp only[Vh,WF]at this;omega
   subst l;rw[hx]at q;obtain rfl:=UN.inj q;rw[U0 (Uv _),YU]at d;obtain rfl:v=u:=by simpa using d
   rw[o.cell (p:=⟨i,s,none⟩) (by show i<_;omega)];exact VU _ _ _ y
 ·obtain⟨C,O,A,H,-⟩:=z.ad j x q;have r:x.1.block<W.heap.size:=by rw[A];show C<_;omega
  refine⟨?_,by rw[E x.1 r];exact(h.th j x q).2⟩;by_cases c:x.1=⟨i,s,none⟩
  ·rw[c];exact⟨v,by rw[o.cell (p:=⟨i,s,none⟩) (by show i<_;omega)];exact VU _ _ _ y⟩
  ·rw[b x.1 r c];exact(h.th j x q).1
 ·rw[b ⟨gp,7,none⟩ (by show gp<_;omega) (λe=>K e.symm)];exact h.c7
 ·rw[b ⟨gp,8,none⟩ (by show gp<_;omega) (λe=>p6 e.symm)];exact h.c8
 ·rw[f gq oM (λe=>J e.symm)];exact h.eq
 ·rw[f gr oM (λe=>M e.symm)];exact h.er
 ·by_cases m:j<vs.length
  ·rw[US m]at d;have C:=h.ow j u d;refine⟨bZ C.own (λg t=>?_),C.nn⟩;have:=jG C.own t;exact f g this.2.1 oM
  ·have l:j=vs.length:=by
    have:=(UE.1 d).1;rw[Uz]at this;simp only[Vh,WF]at this;omega
   subst l;rw[U0 (Uv _),YU]at d;obtain rfl:v=u:=by simpa using d
   refine⟨?_,D.nn⟩;rcases D.own with⟨H,A|⟨g,cap,cur,A,T,O⟩⟩
   ·exact⟨H,U3 A⟩
   ·exact⟨H,UW ⟨g,cap,cur,A,oM,O⟩⟩
 ·have A:=(UE.1 n).1;rw[Uz]at A;simp only[Vh,WF]at A;rw[US oM]at d;by_cases m:G<vs.length
  ·rw[US m]at n;exact h.ne j G u I g r d n t
  ·have l:G=vs.length:=oM;subst l;rw[U0 (Uv _),YU]at n;obtain rfl:v=I:=by simpa using n
   intro e;have C:=(jG D.own e).1;have H:=(jG (h.ow j u d).own t).2.1;omega
end
section
variable {P:Nat}[NeZero P]{N:Nat}
theorem ME:(prog.info? 23).map (λi=>(i.zero,i.size,i.bytes))=some (some (.slice none 0 0),1,24):=kR
structure R4(w1 W:Uq)(gp gL gR k:Nat):Prop where
 bl:kZ w1 W
 d1:gp≠gL
 d2:gp≠gR
 d3:gL≠gR
 p1:w1.heap.size<=gp/\gp<W.heap.size
 p2:w1.heap.size<=gL/\gL<W.heap.size
 p3:w1.heap.size<=gR/\gR<W.heap.size
 hp:W.heap[gp]? = some (.cells #[.slice none 0 0,.slice none 0 0,.slice none 0 0,.slice none 0 0,.slice none 0 0,.slice none 0 0,.slice none 0 0,sZ gL k k,sZ gR k k,.slice none 0 0,.slice none 0 0] 28 (0,0))
 hL:W.heap[gL]? = some (.cells (madeCells #[.slice none 0 0] k) 23 (0,0))
 hR:W.heap[gR]? = some (.cells (madeCells #[.slice none 0 0] k) 23 (0,0))
theorem three(k:Uq)(a b c:Array Us)(A B C:U7):kZ k (((k.alloc (.cells a A)).alloc (.cells b B)).alloc (.cells c C)).drew/\(((k.alloc (.cells a A)).alloc (.cells b B)).alloc (.cells c C)).drew.heap.size=k.heap.size+3/\(((k.alloc (.cells a A)).alloc (.cells b B)).alloc (.cells c C)).drew.heap[k.heap.size]? = some (.cells a A (0,0))/\(((k.alloc (.cells a A)).alloc (.cells b B)).alloc (.cells c C)).drew.heap[k.heap.size+1]? = some (.cells b B (0,0))/\(((k.alloc (.cells a A)).alloc (.cells b B)).alloc (.cells c C)).drew.heap[k.heap.size+1+1]? = some (.cells c C (0,0)):=by
 have m:=aO k (.cells a A);have j:(k.alloc (.cells a A)).heap.size=k.heap.size+1:=UA _ _;have i:=aO (k.alloc (.cells a A)) (.cells b B);have g:((k.alloc (.cells a A)).alloc (.cells b B)).heap.size=k.heap.size+2:=by rw[UA,j]
 have e:=aO ((k.alloc (.cells a A)).alloc (.cells b B)) (.cells c C);have l:(((k.alloc (.cells a A)).alloc (.cells b B)).alloc (.cells c C)).heap.size=k.heap.size+3:=by rw[UA,g]
 have n:(k.alloc (.cells a A)).heap[k.heap.size]? = some (.cells a A (0,0)):=WT;have f:((k.alloc (.cells a A)).alloc (.cells b B)).heap[(k.alloc (.cells a A)).heap.size]? = some (.cells b B (0,0)):=WT;have e3:(((k.alloc (.cells a A)).alloc (.cells b B)).alloc (.cells c C)).heap[((k.alloc (.cells a A)).alloc (.cells b B)).heap.size]? = some (.cells c C (0,0)):=WT;rw[j]at f;rw[g]at e3;have d:=(m.trans (i.mono oM)).trans (e.mono oM);refine⟨⟨d.os,d.tape,d.output,d.size,d.block⟩,l,?_,?_,e3⟩
 ·show(((k.alloc (.cells a A)).alloc (.cells b B)).alloc (.cells c C)).heap[k.heap.size]? = _;rw[e.block _ oM,i.block _ oM];exact n
 ·show(((k.alloc (.cells a A)).alloc (.cells b B)).alloc (.cells c C)).heap[k.heap.size+1]? = _;rw[e.block _ oM];exact f
def zR:List Us:=VA 11 (.slice none 0 0)
theorem dT{f q r n p or m j:Nat}{x:Wt × Nat}(h:(fN f q r n p or m)[j]? = some x):(j<7/\x.1=⟨f,j,none⟩)\/(7<=j/\j<7+n/\x.1=⟨q,r+(j-7),none⟩)\/(7+n<=j/\j<7+n+m/\x.1=⟨p,or+(j-7-n),none⟩)\/(7+n+m<=j/\j<9+n+m/\x.1=⟨f,9+(j-7-n-m),none⟩):=by
 have d:∀ {b o k i:Nat}{y:Wt × Nat},(lp b o k)[i]? = some y->i<k/\y.1=⟨b,o+i,none⟩:=λ{b o k i y} h=>by
  unfold lp at h;rw[Vy]at h;obtain⟨z,s,rfl⟩:=Ux.1 h;have e:=(UE.1 s)
  obtain⟨g,l⟩:=e;have c:i<k:=by simpa using g
  have t:i=z:=by simpa using l
  subst t;exact⟨c,rfl⟩
 unfold fN at h;by_cases e:j<7
 ·left;refine⟨e,?_⟩;rw[Vw,Vw,US (by show j<7;exact e)]at h;match j,e,h with
  | 0,_,h|1,_,h|2,_,h|3,_,h|4,_,h|5,_,h|6,_,h =>
   obtain rfl:=UN.inj h;rfl
 ·right;rw[Vw,Vw,U0 (by show 7<=j;omega)]at h;have s:(tH f).length=7:=rfl;rw[s]at h;by_cases g:j-7<n
  ·left;rw[US (by rw[jK];exact g)]at h;obtain⟨-,c⟩:=d h;exact⟨oM,oM,c⟩
  ·right;rw[U0 (by rw[jK];omega),jK]at h;by_cases l:j-7-n<m
   ·left;rw[US (by rw[jK];exact l)]at h;obtain⟨-,c⟩:=d h;exact⟨oM,oM,c⟩
   ·right;rw[U0 (by rw[jK];omega),jK]at h;obtain⟨i,c⟩:∃i,j-7-n-m=i:=⟨_,rfl⟩
    rw[c]at h⊢;match i,c,h with
    | 0,c,h|1,c,h =>
     obtain rfl:=UN.inj h;exact⟨oM,oM,rfl⟩
    | i+2,_,h=>cases h
theorem Ci(k j:Nat)(z:Us)(h:j<k):(madeCells #[z] k)[j]? = some z:=by
 unfold madeCells;rw[Array.getElem?_map,Array.getElem?_range,yCj h];simp[yAW]
theorem IH{w y F s:Uq}{l m o k B n c:Nat}{CH:Nat->SP.Bs}(h:R4 y F l m o k)(G:kZ w y)(O:w.heap.size<y.heap.size)(p:PLs F s (sZ B n c) (fN l m 0 k o 0 k)):
 PsOk w s w.heap.size B l (fN l m 0 k o 0 k)/\RdI w s s w.heap.size B l (sZ m k k) (sZ o k k) (fN l m 0 k o 0 k) [] CH:=by
 obtain⟨Q,N,e,K,E⟩:=p.lt;injection e with e _ _
 injection e with e
 injection e with e _ _
 subst e;have V:=p.bl.size;obtain⟨p1,z⟩:=h.p1;obtain⟨p2,a⟩:=h.p2;obtain⟨M,D⟩:=h.p3;have S:=h.d1;have R:=h.d2;have P:=h.d3;have t:=p.bl.block l z;have H:=p.bl.block m a;have L:=p.bl.block o D;refine⟨⟨λj x hx=>?_,λj I x U J hx C e=>?_,E,by have:=h.bl.size;omega,oM⟩,⟨?_,λj x u _ r=>by simp at r,λj x hx=>?_,?_,?_,rfl,rfl,Uv _,λj u r=>by simp at r,λj I u T g _ r=>by simp at r⟩⟩
 ·rcases dT hx with⟨f,b⟩|⟨f,d,b⟩|⟨f,d,b⟩|⟨f,d,b⟩
  ·exact⟨l,j,b,oM,oM,oM,oM,by rw[b];intro e;injection e with _ e _;omega,by rw[b];intro e;injection e with _ e _;omega⟩
  ·exact⟨m,_,b,oM,oM,oM,oM,by rw[b];intro e;injection e with e _ _;omega,by rw[b];intro e;injection e with e _ _;omega⟩
  ·exact⟨o,_,b,oM,oM,oM,oM,by rw[b];intro e;injection e with e _ _;omega,by rw[b];intro e;injection e with e _ _;omega⟩
  ·exact⟨l,_,b,oM,oM,oM,oM,by rw[b];intro e;injection e with _ e _;omega,by rw[b];intro e;injection e with _ e _;omega⟩
 ·rcases dT hx with⟨f,b⟩|⟨f,d,b⟩|⟨f,d,b⟩|⟨f,d,b⟩<;>rcases dT C with⟨A,v⟩|⟨A,q,v⟩|⟨A,q,v⟩|⟨A,q,v⟩<;>(rw[b,v]at e;injection e with e1 e2 _;omega)
 ·exact(G.trans (h.bl.mono G.size)).trans (p.bl.mono (by have:=h.bl.size;omega))
 ·rcases dT hx with⟨f,b⟩|⟨f,d,b⟩|⟨f,d,b⟩|⟨f,d,b⟩
  ·rw[b];unfold VX WV;rw[t,h.hp];refine⟨?_,by simp⟩;match j,f with
   | 0,_|1,_|2,_|3,_|4,_|5,_|6,_=>exact⟨_,rfl⟩
  ·rw[b];unfold VX WV;rw[H,h.hL];exact⟨⟨_,Ci k (0+(j-7)) _ oM⟩,by simp⟩
  ·rw[b];unfold VX WV;rw[L,h.hR];exact⟨⟨_,Ci k (0+(j-7-k)) _ oM⟩,by simp⟩
  ·rw[b];unfold VX WV;rw[t,h.hp];refine⟨?_,by simp⟩;obtain⟨i,q⟩:∃i,j-7-k-k=i:=⟨_,rfl⟩
   rw[q];match i,q with
   | 0,_|1,_=>exact⟨_,rfl⟩
   | i+2,q=>omega
 ·unfold VX;rw[t,h.hp];rfl
 ·unfold VX;rw[t,h.hp];rfl
def offs(n j:Nat):Nat:=1+((gZ n n).take j).sum
theorem kW(n j k:Nat)(h:(gZ n n)[j]? = some k):offs n (j+1)=offs n j+k:=by
 unfold offs;rw[ZH,h,yBa];simp[WQ]
theorem tP:∀(l:List Nat) (j:Nat),(l.take j).sum<=l.sum
 | [],j=>by simp
 | a :: r,0=>by simp
 | a :: r,j+1=>by
  have:=tP r j;simp only[List.take_succ_cons,yBw];omega
theorem Mt(n j:Nat):offs n j<=1+(gZ n n).sum:=by
 have:=tP (gZ n n) j;unfold offs;omega
theorem Cb(n:Nat):(gZ n n).sum=292+66*n:=by
 unfold gZ;simp only[yBa,List.sum_replicate_nat,yBw,List.sum_nil];omega
theorem xB(n:Nat):offs n (n+n+9)=293+66*n:=by
 unfold offs;rw[Y9 (by rw[kV];omega),Cb];omega
def chk(s:SP.Bs)(n j:Nat):SP.Bs:=s.extract (offs n j) (offs n (j+1))
def nO(s:SP.Bs):Prop:=0<s.size/\s[0]!.toNat<=6/\s.size=293+66*s[0]!.toNat
def RdR(w:Uq)(s:SP.Bs)(k:Nat)(e:Ending)(W:Uq):Prop:=
 (¬nO s/\kZ w W/\e=.returned (.tuple #[.agg zR.toArray,iZ 2])) \/
 (nO s/\kZ w W/\∃(g f:Uq) (i b c d:Nat) (vs cs:List Us),vs.length=k+k+9/\PsOk w g w.heap.size i b (fN b c 0 k d 0 k)/\RdI w g f w.heap.size i b (sZ c k k) (sZ d k k) (fN b c 0 k d 0 k) vs (chk s k)/\cs.length=11/\f.rangeAt b 0 cs/\W=f.setCells w.heap.size 0 cs/\e=.returned (.tuple #[.agg cs.toArray,iZ 0]))
theorem S6(d b n c k:Nat)(e:k<=n)(f:n<c)(w:Uq):(Xm 23 (.slice (some ⟨d,b,none⟩) n c) (some (iZ k)) none none).run prog w=.ok (.slice (some ⟨d,b+k,none⟩) (n-k) (c-k)) w:=by
 have i:(k:Int)<=n:=oM;have g:(n:Int)<=c:=oM;have l:¬c=k:=oM;have j:¬c-k=0:=oM;go_simp
theorem LG(d b n c k:Nat)(f:k<=n)(g:n<=c):∃nx,(0<c-k->nx=b+k)/\∀w:Uq,(Xm 23 (.slice (some ⟨d,b,none⟩) n c) (some (iZ k)) none none).run prog w=.ok (.slice (some ⟨d,nx,none⟩) (n-k) (c-k)) w:=by
 have j:(k:Int)<=n:=oM;have i:(n:Int)<=c:=oM;by_cases e:c=k
 ·obtain rfl:n=k:=oM;subst e;refine⟨b,λh=>oM,λw=>?_⟩;rw[YU];go_simp
 ·have l:¬c-k=0:=oM;refine⟨b+k,λ_=>rfl,λw=>?_⟩;go_simp
theorem LH(d b n c k:Nat)(e:k<=c)(w:Uq):(Xm 23 (.slice (some ⟨d,b,none⟩) n c) none (some (iZ k)) none).run prog w=.ok (.slice (some ⟨d,b,none⟩) k c) w:=by
 have f:(k:Int)<=c:=oM;go_simp
theorem fY{P:VC}{c:Func}{tmps:Array Us}{W:Uq}{k:Nat}{vs:List Us}{v:Us}(t u:Tmp)(T:U7)(e:c.results=#[.cell t T,.tmp u])(h:W.rangeAt k 0 vs)(j:tmps[t]? = some (jZ k))(hv:tmps[u]? = some v)
 (b:(P.underlying T).map (·.isRow)=some true) (i:(P.info? T).map (·.size)=some vs.length):(results c tmps).run P W=.ok (.tuple #[.agg vs.toArray,v]) W:=by
 obtain⟨d,b,hd⟩:=Ux.1 b;have l:=run_loadVar_mid (P:=P) W k 0 T vs d h b hd i;have f:tmps.getD t WO=jZ k:=by rw[UH,j];rfl
 have g:tmps.getD u WO=v:=by rw[UH,hv];rfl
 unfold results;rw[e];simp only[Array.mapM_eq_mapM_toList,List.mapM_cons,List.mapM_nil,f,g,asAddr];simp[UU,l]
theorem EG{w W:Uq}{cs:List Us}(g:W.heap[w.heap.size]? = some (.cells zR.toArray 28 (0,0)))(i:cs.length=11)(c:kZ w W):W.there w.heap.size 0 cs.toArray.size/\(W.setCells w.heap.size 0 cs).rangeAt w.heap.size 0 cs/\kZ w (W.setCells w.heap.size 0 cs):=by
 have e:W.there w.heap.size 0 cs.length:=λj l=>by
  unfold VX WV;rw[g];refine⟨?_,by simp⟩;have:(0+j)<zR.toArray.size:=by show 0+j<11;omega
  simp only[Array.getElem?_eq_getElem this];rfl
 refine⟨by simpa using e,World.rangeAt_setCells_same _ _ _ _ e,⟨(World.os_setCells _ _ _ _).trans c.os,?_,(World.output_setCells _ _ _ _).trans c.output,?_,λk f=>?_⟩⟩
 ·have d:=below_setCells (B:=0) (b:=w.heap.size) (Wx _) cs 0 W (UQ 0 W);rw[d.tape];exact c.tape
 ·have d:=below_setCells (B:=0) (b:=w.heap.size) (Wx _) cs 0 W (UQ 0 W);exact UB c.size d.size
 ·rw[ZZ W _ 0 cs (by have:=c.size;omega) oM];exact c.block k f
end
section
open SPA
section
variable {P:VC}{ops:Array Vj}{rest:List Vj}{o:Vj}{a:Act}{w:Uq}{Q:Exit->Act->Uq->Prop}
theorem PW.gd(h:wpList P ops Q ({ o with guard:=none } :: rest) a w)(k:V1 o (yielded ops a.tmps)=true:=by kernel_rfl):wpList P ops Q (o :: rest) a w:=by
 unfold wpList at h⊢;rw[yCj k];rw[yCj (show V1 { o with guard:=none }(yielded ops a.tmps)=true from rfl)]at h;exact h
end
variable {P:Nat}[NeZero P]{N:Nat}[NeZero N]
theorem Qu(C:Fld P){n t:Nat}(Y:Wd n t)(V:Bs)(q:Fin P × Fin P)(I:rd P V=some q)(v:Us)(m i g j A o x f z k b:Us)(w:Uq)(L:Arg33 w v V)(S:∀W,kZ w W->UG prog 54 #[pvl V,iZ n,.agg #[m,i,g,j,A,o,x,f,z,k,b]] W (rZ W λe w'=>e=.bool true)):
 UG prog 12 #[v,iZ n,.agg #[m,i,g,j,A,o,x,f,z,k,b]] w (rZ w λe w'=>e=.bool true):=by
 have M:V.size=33:=EE I;obtain⟨D,d⟩:=hE (pvl V);obtain⟨H,c⟩:=hE (Value.agg #[m,i,g,j,A,o,x,f,z,k,b]);obtain⟨k5,s⟩:=hE (w.heap.size);obtain⟨K,a⟩:=hE (w.alloc (.cells [m,i,g,j,A,o,x,f,z,k,b].toArray 28));have F:=mk1 ((Mp.start w).new s a);have Q:Hid ((Instr.box 28 H).run prog w=.ok (jZ k5) K):=by rw[<-c.out,<-a.out,<-s.out];exact SN _ _ _ _ _ _ _ _ _ _ _ w
 have T:Hid (∀W,kZ w W->UG prog 53 #[v] W (rZ W λe w'=>e=.tuple #[D,.bool true])):=λW X=>by
  rw[<-d.out];exact FI C v V q W (L.below X) I
 have HV:Hid (∀W,kZ w W->UG prog 54 #[D,iZ n,H] W (rZ W λe w'=>e=.bool true)):=by
  rw[<-d.out,<-c.out];exact S
 have N:(prog.info? 103).map (·.size)=some (aA V).length:=by rw[aB M];exact iCP
 rw[c.out];clear S L;go_enter func12,ntmps12;refine Uy ?_;refine PW.begin ?_;refine PW.ns Q.out ?_;refine PW.va (.bool false) ?_;refine PW.dn ?_;refine Uy ?_;refine PW.begin ?_;refine PW.mv ?_;refine PW.gi (T.out K F.bl) λO l=>?_
 have U:=mk1 (F.grow l);clear F l T Q;refine PW.mv ?_;refine PW.va D ?_;refine PW.va (.bool true) ?_;refine hG (O.heap.size) λk7 r=>?_
 refine hG (O.alloc (.cells z33.toArray 103)) λw3 p=>?_
 refine hG (w3.setCells k7 0 (aA V)) λw4 u=>?_
 have R:(aA V).length=z33.length:=aB M;have E:=mk1 (U.new r p);have J:=mk1 (E.put 1 u rfl R);refine PW.al r p ?_;refine PW.st u d (E.th 1 rfl R) N (bW _) ?_;refine PW.va (.bool true) ?_;clear U E;refine PW.dn ?_;refine Uy ?_;refine PW.begin ?_;refine PW.mv ?_;refine PW.mv ?_;refine PW.gd ?_;refine PW.mv ?_;refine PW.gd ?_;refine PW.gi (NH Y w4) λZ y=>?_
 have B:=mk1 (J.grow y);clear J y;refine PW.va (.bool true) ?_;refine PW.mv ?_;refine PW.gd ?_;refine PW.ro (B.at_ 1).2.1 d uCP N ?_;refine PW.gd ?_;refine PW.mv ?_;refine PW.gd ?_;refine PW.ro (cs:=[m,i,g,j,A,o,x,f,z,k,b]) (B.at_ 0).2.1 c uAr iAr ?_;refine PW.gd ?_;refine PW.gi (HV.out Z B.bl) λw6 G=>?_
 have K6:=mk1 (B.grow G);refine PW.va (.bool true) ?_;refine PW.va (.bool true) ?_;refine PW.dn ?_;go_wp2;go_ret;exact⟨_,rfl,K6.bl,rfl⟩
theorem Q8(C:Fld P)(O:Ord N)(k:∀r:EC.Pt P,On r->mul N r=none)(hP:IsP N){t:Nat}(R:Rv N)(p:Wd R.n t)(hv:R.v<2^R.n)(hN:18446744073709551616<=N)(sd:List UInt8)(sq:Option Wt)(sc:Nat)(V A S C1 C2 L3 L6 L8:Bs)(hL:RvL C k R V A S C1 C2 L3 L6 L8)(hS:RvS R sd)(q:Md.Ps Bs (Fin N) (OnP P))(X:q.s=bB L8)(h3:q.a=R.a)(h9:q.b=R.b)(hc:q.g=gPt C ⟨#[108,101,102,116]⟩)(U:q.h=R.hh (aD C k) (gPt C ⟨#[114,105,103,104,116]⟩))(u:OnP P)(hu:u=(aD C k).ac R.w (uPt C))(Lb Rb:Nat->Bs)(Z:∀j,Lb j=wP ((aD C k).pLi (chF N) ivF u t q j))(h8:∀j,Rb j=wP ((aD C k).pTi (chF N) ivF u t q j))(Ab Bb:Bs)(Y:Ab=bx (((aD C k).pst (chF N) ivF u t q t).a 0).val)(h7:Bb=bx (((aD C k).pst (chF N) ivF u t q t).b 0).val)(pz:Rp)(h0:Hid (⟨A,S,C1,C2,R.tau.val,R.mu.val,R.t.val⟩=pz))(v1:Us)(w:Uq)(hk:Arg w v1 (bx R.k.val))(hp:PartOk w (.slice sq 32 sc) sd):
 UG prog 5 #[uZ (R.v:Int),v1,iZ (R.n:Int),.slice sq 32 sc] w (rZ w λe w'=>∃e' B0,e=.tuple #[e',iZ 0]/\w.heap.size<=B0/\RgA B0 t pz Lb Rb Ab Bb e' w'):=by
 have ha:R.n<=64:=by rw[p.1];exact UB (Vz dC p.2.2) dC
 have h4:R.v<18446744073709551616:=Uw hv (UB (Vz dC ha) dC);have o:=λ(W:Uq) (z:kZ w W)=>Ma C O k hP t p.2.2 R p.1 h4 hN sd sq 32 sc V A S C1 C2 L3 L6 L8 hL hS q X h3 h9 hc U u hu Lb Rb Z h8 Ab Bb Y h7 pz h0 W (hp.below z)
 have f:=λ(W:Uq) (z:kZ w W)=>Ey O v1 (bx R.k.val) W (hk.below z)
 rw[kJ O R.k.isLt]at f;have Q:¬((2^R.n-1:Nat):Int)<(R.v:Int):=oM;have L:decide (((2^R.n-1:Nat):Int)<(R.v:Int))=false:=decide_eq_false Q;generalize hg:R.v=vn at *;generalize h2:(2^R.n-1:Nat)=gn at *;have HG:=λ(W:Uq)=>Fh p W
 rw[h2]at HG;have HW:=λ(W:Uq)=>NH p W
 generalize he:R.n=nn at *;obtain⟨vk,b⟩:=hE (nv R.k.val);rw[b.out]at o;have h5:Hid (∀W,kZ w W->UG prog 16 #[v1] W (rZ W λe w'=>e=.tuple #[vk,.bool true])):=λW z=>by
  rw[<-b.out];exact f W z
 have M:=mk3 o HG HW;clear o HG HW f hp hk hL hS;refine hG (w.heap.size) λk8 D=>?_
 refine hG (w.alloc (.cells z11.toArray 28)) λw1 y=>?_
 have K1:=mk1 ((Mp.start w).new D y);go_enter func5,ntmps5;refine Uy ?_;refine PW.begin ?_;refine PW.al D y ?_;refine PW.va (iZ 0) ?_;refine PW.dn ?_;refine Uy ?_;refine Uy ?_;refine PW.begin ?_;refine PW.mv ?_;refine PW.gi (M.2.2 w1) λw2 v=>?_
 have K2:=mk1 (K1.grow v);clear K1 v;refine PW.va (.bool false) ?_;refine PW.mv ?_;refine PW.gd ?_;refine PW.mv ?_;refine PW.gd ?_;refine PW.va (iZ 32) ?_;refine PW.gd ?_;refine PW.va (.bool false) ?_;refine PW.va (.bool false) ?_;refine PW.dn ?_;refine VH rfl ?_;refine WR ?_;refine Uy ?_;refine PW.begin ?_;refine PW.mv ?_;refine PW.gi (h5.out w2 K2.bl) λw3 x=>?_
 have K3:=mk1 (K2.grow x);clear K2 x;refine PW.mv ?_;refine PW.va vk ?_;refine PW.va (.bool true) ?_;refine hG (w3.heap.size) λh6 d=>?_
 refine hG (w3.alloc (.cells (RG.z 4).toArray 49)) λw4 E=>?_
 refine hG (w4.setCells h6 0 (wn R.k.val)) λw5 F=>?_
 have K4:=mk1 (K3.new d E);have K5:=mk1 (K4.put 1 F);refine PW.al d E ?_;refine PW.st F b (K4.th 1) i40 (aM _) ?_;refine PW.va (.bool true) ?_;clear K3 K4;refine PW.dn ?_;refine Uy ?_;refine Uy ?_;refine PW.begin ?_;refine PW.mv ?_;refine PW.va (.bool false) ?_;refine PW.dn ?_;refine VH rfl ?_;refine WR ?_;refine Uy ?_;refine Uy ?_;refine PW.begin ?_;refine PW.mv ?_;refine PW.mv ?_;refine PW.gi (M.2.1 w5) λw6 a=>?_
 have s:=mk1 (K5.grow a);clear K5 a;refine PW.va (.bool (decide ((gn:Int)<(vn:Int)))) ?_;rw[L];refine PW.dn ?_;refine VH rfl ?_;refine WR ?_;refine Uy ?_;refine PW.begin ?_;refine PW.mv ?_;refine PW.ro (s.at_ 1).2.1 b u40 i40 ?_;refine PW.mv ?_;refine PW.mv ?_;refine PW.ca (M.1 w6 s.bl) ?_;rintro e w7 ⟨B,B0,h1,n⟩;simp only[UM,Ur,Ut,Uu];have l8:=(s.at_ 0).1;have J:=mk1 (s.grow B);have RA:=mk1 n;obtain⟨ra,rb,rc,m,T,rf,i,I,K,G,H,rfl,-,tL,tR,eA,eB⟩:=n.ex;have c:G.oneCell'=true/\H.oneCell'=true/\I.oneCell'=true/\K.oneCell'=true:=⟨eA.one.2,eB.one.2,tL.one.2,tR.one.2⟩
 clear n tL tR eA eB B;refine hG (w7.setCells k8 0 [r33 ra,r33 rb,r33 rc,r33 m,r32 T,r32 rf,r32 i,I,K,G,H]) λw8 l=>?_
 have K8:=mk1 (J.put 0 l);have RB:=mk1 (RA.set (us:=[r33 ra,r33 rb,r33 rc,r33 m,r32 T,r32 rf,r32 i,I,K,G,H]) (J.at_ 0) oM);rw[l.out]at RB;refine PW.st (cs:=[r33 ra,r33 rb,r33 rc,r33 m,r32 T,r32 rf,r32 i,I,K,G,H]) l (Hid.mk' rfl) (J.th 0) iAr (by simp only[Ya,Zt,ZK,c.1,c.2.1,c.2.2.1,c.2.2.2,show ∀g,(r33 g).oneCell'=true from λ_=>rfl,show ∀g,(r32 g).oneCell'=true from λ_=>rfl,Bool.and_true]) ?_;refine PW.va (iZ 0) ?_;refine PW.dn ?_;have KE:=mk2 K8.bl (And.intro (UB s.bl.size h1) RB.out);have Kr:=(K8.at_ 0).2.1;clear s J K8 RA RB;refine wp_ret ?_;refine UD (fY 8 9 28 rfl Kr rfl rfl uAr iAr) rfl ?_;exact⟨_,rfl,KE.1,_,_,rfl,KE.2.1,KE.2.2⟩
end
section
open SPA
variable {P:Nat}[NeZero P]{N:Nat}[NeZero N]
theorem Qw(C:Fld P)(O:Ord N)(k:∀r:EC.Pt P,On r->mul N r=none)(c:IsP N)(W:18446744073709551616<=N){t:Nat}(R:Rv N)(H:Wd R.n t)(hv:R.v<2^R.n)(V A S y n E D o:Bs)(b:RvL C k R V A S y n E D o)(q:Md.Ps Bs (Fin N) (OnP P))(p:q.s=bB o)(l:q.a=R.a)(B:q.b=R.b)(g:q.g=gPt C ⟨#[108,101,102,116]⟩)(f:q.h=R.hh (aD C k) (gPt C ⟨#[114,105,103,104,116]⟩))(u:OnP P)(J:u=(aD C k).ac R.w (uPt C))(i Rb:Nat->Bs)(v:∀j,i j=wP ((aD C k).pLi (chF N) ivF u t q j))(z:∀j,Rb j=wP ((aD C k).pTi (chF N) ivF u t q j))(L I:Bs)(s:L=bx (((aD C k).pst (chF N) ivF u t q t).a 0).val)(m:I=bx (((aD C k).pst (chF N) ivF u t q t).b 0).val)(K:Rp)(x:Hid (⟨A,S,y,n,R.tau.val,R.mu.val,R.t.val⟩=K))(F:Nat)(e:Us)(w:Uq)(d:RgA F t K i Rb L I e w):
 UG prog 54 #[pvl V,iZ (R.n:Int),e] w (rZ w λe w'=>e=.bool true):=by
 obtain rfl:=x.out;have G:R.y.val≠0:=by rw[b.y];exact FT c.1 _
 have ok:(⟨A,S,y,n,R.tau.val,R.mu.val,R.t.val⟩:Rp).Ok:=⟨by rw[b.eA];exact aT _,by rw[b.eS];exact aT _,by rw[b.e1];exact aT _,by rw[b.e2];exact aT _⟩
 have M:=R.sums (aD C k) (gPG C) (hPV C) c G hv;have Q:=R.point (aD C k) (gPG C) (uPt C) (gPt C ⟨#[108,101,102,116]⟩) (gPt C ⟨#[114,105,103,104,116]⟩) c G;have hf:=PN C k c u t q;rw[s,m]at d;generalize ((aD C k).pst (chF N) ivF u t q t).a 0=T at *;generalize ((aD C k).pst (chF N) ivF u t q t).b 0=U at *;refine Oq C O k c W H _ ok V _ _ _ _ _ b.eV b.eA b.eS b.e1 b.e2 R.tau R.mu R.t R.x R.y R.z R.w rfl rfl rfl E D o b.l3 b.y b.z b.l6 b.x b.l8 b.w i Rb _ _ v z T U u J ⟨q.s,(aD C k).hdP u (2^t) q,q.g,q.h⟩ p g f ?_ _ rfl ?_ hf F e w d
 ·show(aD C k).hd q.a q.b q.g q.h u (2^t)=(aD C k).ad ((aD C k).ad ((aD C k).ad ((aD C k).ad _ _) _) ((aD C k).ad ((aD C k).dt (λ_=>-R.z) q.g R.n) ((aD C k).dt (rgS R.y R.z) q.h R.n))) _;rw[<-H.1,l,B,g,f,J];exact Q.symm
 ·exact congrArg wP M
theorem QP(C:Fld P)(O:Ord N)(b:∀r:EC.Pt P,On r->mul N r=none)(v n:Nat)(k:Fin N)(d:List UInt8):∃(R:Rv N) (V A S o j e f m:Bs),R.v=v/\R.n=n/\R.k=k/\RvL C b R V A S o j e f m/\RvS R d:=by
 have lt:∀l B,chL N l B<N:=λl B=>uU O _
 obtain⟨s,H⟩:∃s:Nat->Fin N,∀i,(s i).val=chL N [115,108] [d,(hZ i).toList]:=⟨λi=>⟨_,lt _ _⟩,λ_=>rfl⟩
 obtain⟨q,E⟩:∃s:Nat->Fin N,∀i,(s i).val=chL N [115,114] [d,(hZ i).toList]:=⟨λi=>⟨_,lt _ _⟩,λ_=>rfl⟩
 obtain⟨al,t⟩:∃x:Fin N,x.val=chL N [97,108,112,104,97] [d]:=⟨⟨_,lt _ _⟩,rfl⟩
 obtain⟨c,g⟩:∃x:Fin N,x.val=chL N [114,104,111] [d]:=⟨⟨_,lt _ _⟩,rfl⟩
 obtain⟨t1,p⟩:∃x:Fin N,x.val=chL N [116,97,117,49] [d]:=⟨⟨_,lt _ _⟩,rfl⟩
 obtain⟨t2,u⟩:∃x:Fin N,x.val=chL N [116,97,117,50] [d]:=⟨⟨_,lt _ _⟩,rfl⟩
 obtain⟨V,M⟩:∃V,V=wP ((⟨v,n,s,q,al,c,t1,t2,k,0,0,0,0⟩:Rv N).pV (aD C b) (gPG C) (hPV C)):=⟨_,rfl⟩
 obtain⟨A,I⟩:∃A,A=wP ((⟨v,n,s,q,al,c,t1,t2,k,0,0,0,0⟩:Rv N).pA (aD C b) (gPG C) (gPt C ⟨#[108,101,102,116]⟩) (gPt C ⟨#[114,105,103,104,116]⟩)):=⟨_,rfl⟩
 obtain⟨S,T⟩:∃A,A=wP ((⟨v,n,s,q,al,c,t1,t2,k,0,0,0,0⟩:Rv N).pS (aD C b) (gPG C) (gPt C ⟨#[108,101,102,116]⟩) (gPt C ⟨#[114,105,103,104,116]⟩)):=⟨_,rfl⟩
 obtain⟨e,Q⟩:∃L,L=bgL V n A S:=⟨_,rfl⟩
 obtain⟨y,D⟩:∃y,y=kM N e:=⟨_,rfl⟩
 obtain⟨z,U⟩:∃z,z=kM N (bB e):=⟨_,rfl⟩
 obtain⟨o,W⟩:∃A,A=wP ((⟨v,n,s,q,al,c,t1,t2,k,y,z,0,0⟩:Rv N).p1 (aD C b) (gPG C) (hPV C)):=⟨_,rfl⟩
 obtain⟨j,K⟩:∃A,A=wP ((⟨v,n,s,q,al,c,t1,t2,k,y,z,0,0⟩:Rv N).p2 (aD C b) (gPG C) (hPV C)):=⟨_,rfl⟩
 obtain⟨f,J⟩:∃L,L=mdL (bB (bB e)) o j:=⟨_,rfl⟩
 obtain⟨x,hx⟩:∃x,x=kM N f:=⟨_,rfl⟩
 obtain⟨m,F⟩:∃L,L=enL (bB f) (⟨v,n,s,q,al,c,t1,t2,k,y,z,x,0⟩:Rv N).tau.val (⟨v,n,s,q,al,c,t1,t2,k,y,z,x,0⟩:Rv N).mu.val (⟨v,n,s,q,al,c,t1,t2,k,y,z,x,0⟩:Rv N).t.val:=⟨_,rfl⟩
 obtain⟨w,G⟩:∃w,w=kM N m:=⟨_,rfl⟩
 exact⟨⟨v,n,s,q,al,c,t1,t2,k,y,z,x,w⟩,V,A,S,o,j,e,f,m,rfl,rfl,rfl,⟨M,I,T,W,K,Q,D,U,J,hx,F,G⟩,⟨H,E,t,g,p,u⟩⟩
theorem RgA.below{j t:Nat}{p:Rp}{l Rb:Nat->Bs}{q o:Bs}{e:Us}{W W':Uq}(h:RgA j t p l Rb q o e W)(f:kZ W W'):RgA j t p l Rb q o e W':=by
 obtain⟨a,b,c,d,u,m,s,A,w,r,y,z,B,n,hR,v,x⟩:=h.ex;have k:Kq (λ_=>True) W W':=Kq.of_below f;exact⟨a,b,c,d,u,m,s,A,w,r,y,z,B.keep k,n.keep k λg i=>f.block g (n.lt i).2,hR.keep k λg i=>f.block g (hR.lt i).2,v.keep k,x.keep k⟩
theorem Q6{S R M:Type}(s:S)(a b:Nat->R)(g h:Nat->M):∃q:Md.Ps S R M,q.s=s/\q.a=a/\q.b=b/\q.g=g/\q.h=h:=⟨⟨s,a,b,g,h⟩,rfl,rfl,rfl,rfl,rfl⟩
theorem Lu(C:Fld P)(O:Ord N)(f:∀r:EC.Pt P,On r->mul N r=none)(hP:IsP N)(hN:18446744073709551616<=N){n t:Nat}(T:Wd n t)(v:Nat)(hv:v<2^n)(k:Fin N)(Z:List UInt8):∃(V:Bs) (p:Rp) (g Rb:Nat->Bs) (l i:Bs),V=wP ((aD C f).cm (hPV C) (gPG C) (ofF N v) k) /\
 (∀(M:Option Wt) (sc:Nat) (v1:Us) (w:Uq),Arg w v1 (bx k.val)->PartOk w (.slice M 32 sc) Z->UG prog 5 #[uZ v,v1,iZ n,.slice M 32 sc] w (rZ w λe w'=>∃e' o,e=.tuple #[e',iZ 0]/\w.heap.size<=o/\RgA o t p g Rb l i e' w')) /\
 ∀(o:Nat) (e v0:Us) (w:Uq),Arg33 w v0 V->RgA o t p g Rb l i e w->UG prog 12 #[v0,iZ n,e] w (rZ w λe w'=>e=.bool true):=by
 obtain⟨R,V,A,S,Y,U,L3,L6,X,rfl,rfl,rfl,K,hS⟩:=QP C O f v n k Z;obtain⟨q,D,y,J,E,B⟩:=Q6 (bB X) R.a R.b (gPt C ⟨#[108,101,102,116]⟩) (R.hh (aD C f) (gPt C ⟨#[114,105,103,104,116]⟩));obtain⟨u,hu⟩:∃u,u=(aD C f).ac R.w (uPt C):=⟨_,rfl⟩
 obtain⟨g,G⟩:∃g:Nat->Bs,∀j,g j=wP ((aD C f).pLi (chF N) ivF u t q j):=⟨λj=>wP ((aD C f).pLi (chF N) ivF u t q j),λ_=>rfl⟩
 obtain⟨Rb,H⟩:∃Rb:Nat->Bs,∀j,Rb j=wP ((aD C f).pTi (chF N) ivF u t q j):=⟨λj=>wP ((aD C f).pTi (chF N) ivF u t q j),λ_=>rfl⟩
 obtain⟨l,F⟩:∃l,l=bx (((aD C f).pst (chF N) ivF u t q t).a 0).val:=⟨_,rfl⟩
 obtain⟨i,z⟩:∃i,i=bx (((aD C f).pst (chF N) ivF u t q t).b 0).val:=⟨_,rfl⟩
 obtain⟨p,I⟩:=hE (⟨A,S,Y,U,R.tau.val,R.mu.val,R.t.val⟩:Rp);refine⟨V,p,g,Rb,l,i,K.eV,λM sc v1 w Q L=>?_,λo e v0 w Q L=>?_⟩
 ·exact Q8 C O f hP R T hv hN Z M sc V A S Y U L3 L6 X K hS q D y J E B u hu g Rb G H l i F z p I v1 w Q L
 ·have hr:∃q,rd P V=some q:=by
   rw[K.eV];obtain⟨q,hq,-⟩:=zM C (R.pV (aD C f) (gPG C) (hPV C)).2;exact⟨q,hq⟩
  obtain⟨x,hx⟩:=hr;obtain⟨a,b,c,d,u',m,s,vL,vR,vA,vB,e1,-⟩:=L.ex;subst e1;exact Qu C T V x hx v0 _ _ _ _ _ _ _ _ _ _ _ w Q λW hb=>Qw C O f hP hN R T hv V A S Y U L3 L6 X K q D y J E B u hu g Rb G H l i F z p I o _ W (L.below hb)
end
section
open SPA
variable {P:Nat}[NeZero P]{N:Nat}
theorem TlL.vl{Q:Nat->Prop}{k t:Nat}{W:Uq}{v:Us}{B:Nat->Bs}(h:TlL Q k t W v B)(p:0<t):∃g c ys,v=sZ g t c/\VL W (some (aZ g)) t ys/\∀j,j<t->∃x,ys[j]? = some x/\ElQ Q 33 W x (B j):=by
 obtain⟨xs,d,f⟩:=h.ex;obtain⟨g,c,rfl⟩:=wW d p;have n:xs.length=t:=by have:=d.1;omega
 have m:=(h.lt (g:=g) rfl).2;refine⟨g,c,xs,rfl,⟨n,λe=>(by cases e),UW ⟨g,0,rfl,m,λj u b=>?_⟩,λu b=>?_⟩,f⟩
 ·rw[UC];exact zU d b
 ·obtain⟨j,l,rfl⟩:=List.mem_iff_getElem.1 b;obtain⟨x,i,o⟩:=f j oM;rw[UF l]at i;obtain rfl:=UN.inj i;exact o.one.2
theorem ElQ.pt{Q:Nat->Prop}{m:Nat}{W:Uq}{x:Us}{b:Bs}(h:ElQ Q m W x b):Pt W x b:=by
 obtain⟨k,c,rfl,-,e,-,d,f⟩:=h;exact⟨_,c,by rw[e],UW ⟨k,0,rfl,d,f⟩⟩
def rgB(t:Nat)(p:Rp)(b Rb:Nat->Bs)(c k:Bs):List Bs:=[p.a,p.s,p.c,p.d,bx p.u,bx p.m,bx p.t]++(VF t).map b++(VF t).map Rb++[c,k]
theorem PtB.app{W:Uq}{us vs:List Us}{A B:List Bs}(h:PtB W us A)(e:PtB W vs B):PtB W (us++vs) (A++B):=by
 refine⟨by rw[Uz,Uz,h.1,e.1],λj u b k c=>?_⟩;by_cases d:j<us.length
 ·rw[US d]at k;rw[US (by rw[h.1];exact d)]at c;exact h.2 j u b k c
 ·rw[U0 oM]at k;rw[U0 (by rw[h.1];omega),h.1]at c;exact e.2 _ u b k c
theorem PtB.one{W:Uq}{u:Us}{b:Bs}(h:Pt W u b):PtB W [u] [b]:=⟨rfl,λj e d k c=>by
 match j with
 | 0 =>
  cases k
  cases c
  exact h
 | j+1=>cases k⟩
theorem PtB.list{W:Uq}{Q:Nat->Prop}{t:Nat}{ys:List Us}{B:Nat->Bs}(k:ys.length=t)(h:∀j,j<t->∃x,ys[j]? = some x/\ElQ Q 33 W x (B j)):PtB W ys ((VF t).map B):=⟨by simp[k],λj u b f c=>by
 have d:j<t:=by rw[<-k];exact(UE.1 f).1
 obtain⟨x,e,g⟩:=h j d;rw[f]at e;obtain rfl:=UN.inj e;rw[Vy,List.getElem?_range d]at c;obtain rfl:=UN.inj c;exact g.pt⟩
theorem RgA.rg{x t:Nat}{p:Rp}{l Rb:Nat->Bs}{w r:Bs}{e:Us}{W:Uq}(h:RgA x t p l Rb w r e W)(v:0<t):∃(q:Rg) (k f:List Us) (j i:Nat),e=.agg q.cs.toArray/\q.l.n=t/\q.r.n=t/\q.a.n=33/\VL W q.l.q q.l.n k/\VL W q.r.q q.r.n f/\q.l.q=some (aZ j)/\q.r.q=some (aZ i)/\PtB W (qY q k f) (rgB t p l Rb w r):=by
 obtain⟨a,b,c,d,u,m,s,I,G,F,H,rfl,g,z,hR,n,o⟩:=h.ex;obtain⟨j,cl,k,rfl,v1,E⟩:=z.vl v;obtain⟨i,cr,f,rfl,v2,D⟩:=hR.vl v;have pA:=n.pt;have B:=o.pt;obtain⟨y,cA,rfl,-⟩:=n;obtain⟨C,cB,rfl,-⟩:=o;refine⟨⟨⟨some (aZ a),33,_⟩,⟨some (aZ b),33,_⟩,⟨some (aZ c),33,_⟩,⟨some (aZ d),33,_⟩,⟨some (aZ u),32,_⟩,⟨some (aZ m),32,_⟩,⟨some (aZ s),32,_⟩,⟨some (aZ j),t,cl⟩,⟨some (aZ i),t,cr⟩,⟨some (aZ y),32,cA⟩,⟨some (aZ C),32,cB⟩⟩,k,f,j,i,rfl,rfl,rfl,rfl,v1,v2,rfl,rfl,?_⟩;exact(((PtB.one g.a.pt).app ((PtB.one g.b.pt).app ((PtB.one g.c.pt).app ((PtB.one g.d.pt).app ((PtB.one g.e.pt).app ((PtB.one g.f.pt).app (PtB.one g.g.pt))))))).app (PtB.list v1.len E)).app (PtB.list v2.len D) |>.app ((PtB.one pA).app (PtB.one B))
theorem TlL.sz{Q:Nat->Prop}{d t:Nat}{W:Uq}{v:Us}{B:Nat->Bs}(h:TlL Q d t W v B):((VF t).map B).map V2=VA t 33:=by
 obtain⟨xs,-,f⟩:=h.ex;refine List.eq_replicate_iff.2 ⟨by simp,λx hx=>?_⟩;simp only[Vm,List.mem_range]at hx;obtain⟨b,⟨j,e,rfl⟩,rfl⟩:=hx;obtain⟨y,-,k,c,-,-,g,-⟩:=f j e;exact g
theorem ElQ.sz{Q:Nat->Prop}{m:Nat}{W:Uq}{x:Us}{b:Bs}(h:ElQ Q m W x b):V2 b=m:=by
 obtain⟨k,c,-,-,d,-⟩:=h;exact d
theorem RgA.good{j t:Nat}{p:Rp}{f Rb:Nat->Bs}{i g:Bs}{e:Us}{W:Uq}(h:RgA j t p f Rb i g e W)(q:t<=6):mM t t (rgB t p f Rb i g):=by
 obtain⟨a,b,c,d,u,m,s,x,v,r,w,-,k,l,hR,n,o⟩:=h.ex;refine⟨rfl,q,?_⟩;unfold rgB;rw[V9,V9,V9,l.sz,hR.sz];simp only[List.map_cons,List.map_nil,k.a.sz,k.b.sz,k.c.sz,k.d.sz,k.e.sz,k.f.sz,k.g.sz,n.sz,o.sz];rfl
theorem RgA.put{m t:Nat}{p:Rp}{k Rb:Nat->Bs}{d b:Bs}{e:Us}{W:Uq}(h:RgA m t p k Rb d b e W)(s:0<t)(z:t<=6):UG prog 13 #[e] W (rZ W λe W'=>∃v,e=.tuple #[v,iZ 0]/\Pt W' v (eU t (rgB t p k Rb d b) (t+t+9))/\∃g c,v=sZ g (V2 (eU t (rgB t p k Rb d b) (t+t+9))) c/\V2 (eU t (rgB t p k Rb d b) (t+t+9))<=c):=by
 have u:=h.good z;obtain⟨q,o,x,B,A,rfl,l,j,-,v1,v2,w,r,y⟩:=h.rg s;refine(OL q W v1 v2 (UW w) (UW r) y oM oM).mono ?_;rintro e W' ⟨n,⟨-,v,rfl,i⟩|⟨f,-⟩⟩
 ·rw[l,j]at i;exact⟨_,rfl,n,v,rfl,i⟩
 ·rw[l,j]at f;exact absurd u f
end
section
variable {n:Nat}{BB:List Bs}
theorem Fj(h:mM n n BB){j:Nat}{b:Bs}(k:BB[j]? = some b):(gZ n n)[j]? = some (V2 b):=by
 rw[<-h.2.2,Vy,k];rfl
theorem nJ(h:mM n n BB):BB.length=n+n+9:=by
 have:=congrArg List.length h.2.2;unfold gZ at this;simp at this;omega
theorem vJ(h:mM n n BB):∀i,i<=n+n+9->V2 (eU n BB i)=offs n i
 | 0,_=>rfl
 | i+1,hi=>by
  have b:i<BB.length:=by rw[nJ h];omega
  have k:=UF b;rw[lE n BB i _ k,VM,vJ h i oM,kW n i _ (Fj h k)]
theorem yN(i:Nat):∀m,i+m<=BB.length->∃r,eU n BB (i+m)=eU n BB i++r
 | 0,_=>⟨#[],by simp⟩
 | m+1,hm=>by
  obtain⟨r,k⟩:=yN i m oM;have b:=UF (show i+m<BB.length by omega);refine⟨r++BB[i+m],?_⟩;rw[<-WQ,lE n BB (i+m) _ b,k,Array.append_assoc]
theorem MU(h:mM n n BB){j:Nat}{b:Bs}(k:BB[j]? = some b):chk (eU n BB (n+n+9)) n j=b:=by
 have d:=(UE.1 k).1;rw[nJ h]at d;obtain⟨r,c⟩:=yN (n:=n) (BB:=BB) (j+1) (n+n+9-(j+1)) (by rw[nJ h];omega);rw[show j+1+(n+n+9-(j+1))=n+n+9 by omega,lE n BB j b k]at c;have s1:=vJ h j oM;have s2:=kW n j _ (Fj h k);unfold chk;rw[c,s2,<-s1];apply Array.ext
 ·simp
 ·intro i f e;simp[Array.getElem_append]
theorem JW(h:mM n n BB):(eU n BB (n+n+9))[0]!.toNat=n/\nO (eU n BB (n+n+9)):=by
 have d:=h.2.1;obtain⟨r,b⟩:=yN (n:=n) (BB:=BB) 0 (n+n+9) (by rw[nJ h];omega);rw[UC]at b;have c:=vJ h (n+n+9) (Uv _);rw[xB]at c;have k:(eU n BB (n+n+9))[0]!.toNat=n:=by
  rw[b];have:(eU n BB 0++r)[0]! = n.toUInt8:=by
   rw[show eU n BB 0=#[n.toUInt8] from rfl,getElem!_pos _ 0 (by simp;omega),Array.getElem_append_left (by simp)];rfl
  rw[this];exact UR oM
 exact⟨k,oM,oM,by rw[k];exact c⟩
end
section
section
variable {P:VC}{ops:Array Vj}{Q:Exit->Act->Uq->Prop}{a0:Act}{F:RG.Flow}{k:Nat}{o:Vj}
theorem MX(T:U7)(s t:Tmp)(ho:o.op=.slice T (.tmp s) none (some (.tmp t)) none)
 (h:∀(a:Act) (w:Uq),PreF F ops a0 k o a w->∃v1 v2 v,a.eval (.tmp s)=v1/\a.eval (.tmp t)=v2/\(Xm T v1 none (some v2) none).run P w=.ok v w/\F.E k w w/\F.R k v w):bF P Q F ops a0 k o:=
 mH λa w d=>by
  obtain⟨v1,v2,v,e,b,c,hE,hR⟩:=h a w d;refine⟨v,w,?_,hE,hR⟩;unfold U4;rw[ho];dsimp only[yBB];rw[e,b,UU,c];rfl
theorem MW(T:U7)(s t:Tmp)(ho:o.op=.slice T (.tmp s) (some (.tmp t)) none none)
 (h:∀(a:Act) (w:Uq),PreF F ops a0 k o a w->∃v1 v2 v,a.eval (.tmp s)=v1/\a.eval (.tmp t)=v2/\(Xm T v1 (some v2) none none).run P w=.ok v w/\F.E k w w/\F.R k v w):bF P Q F ops a0 k o:=
 mH λa w d=>by
  obtain⟨v1,v2,v,e,b,c,hE,hR⟩:=h a w d;refine⟨v,w,?_,hE,hR⟩;unfold U4;rw[ho];dsimp only[yBB];rw[e,b,UU,c];rfl
theorem GT(h:∀(a:Act) (w:Uq),PreF F ops a0 k o a w->∃(b:List (Tmp × Us)) (f:FuncId) (args:Array Us),AllE a b/\(dA (b.map (·.1)) o,(U4 (evo (evl b)) o).run P w)=(true,.ok (.enter f args) w)/\UG P f args w (λe w'=>∃v,e=.returned v/\F.E k w w'/\F.R k v w')):bF P Q F ops a0 k o:=by
 intro a w K m i j g;obtain⟨b,f,args,d,c,l⟩:=h a w ⟨m,i,j⟩;simp only[V5.injEq]at c;unfold VS;rw[iU (evl b) (b.map (·.1)) c.1 d.ev,c.2,Oper.upon_enter];refine l.mono ?_;rintro e w' ⟨v,rfl,hE,hR⟩;exact g _ _ hE hR
theorem GR(T:U7)(t u:Tmp)(ho:o.op=.store T (.tmp t) (.tmp u))(hd:o.dst=none)(l:(P.info? T).map (·.size)=some 1)
 (h:∀(a:Act) (w:Uq),PreF F ops a0 k o a w->∃g off v old,a.eval (.tmp t)=oZ g off/\a.eval (.tmp u)=v/\w.cell? ⟨g,off,none⟩=some old/\w.frozen? ⟨g,off,none⟩=false/\v.oneCell'=true/\v.cells=#[v]/\F.E k w (w.setCell ⟨g,off,none⟩ v)/\F.R k WO (w.setCell ⟨g,off,none⟩ v)):bF P Q F ops a0 k o:=by
 intro a w K n e f d;obtain⟨g,off,v,old,i,c,e3,b,j,m,hE,hR⟩:=h a w ⟨n,e,f⟩;have:=d WO _ hE hR;unfold VS U4;rw[ho];dsimp only;rw[i,c,UU,wL e3 b j m l];show K (a.put o.dst WO) _;exact this
end
theorem P3(s:SP.Bs)(k i j:Nat)(c:j<(chk s k i).size)(b:offs k i+j<s.size):(chk s k i)[j]! = s[offs k i+j]!:=by
 rw[getElem!_pos (chk s k i) j c,getElem!_pos s (offs k i+j) b];unfold chk at c⊢;rw[Array.getElem_extract]
theorem IG{w p W:Uq}{o q d f i k:Nat}{vs:List Us}{CH:Nat->SP.Bs}(h:RdI w p W o q d (sZ f k k) (sZ i k k) (fN d f 0 k i 0 k) vs CH)(G:vs.length=k+k+9):∃cs:List Us,cs.length=11/\W.rangeAt d 0 cs/\∀v∈cs,v.oneCell'=true:=by
 have F:(fN d f 0 k i 0 k).length=k+k+9:=by
  rw[<-kV k k,<-sK d f 0 k i 0 k,UP]
 have c:∀j,j<k+k+9->∃u,(∀x,(fN d f 0 k i 0 k)[j]? = some x->W.cell? x.1=some u)/\u.oneCell'=true:=λj b=>by
  obtain⟨u,l⟩:∃u,vs[j]? = some u:=⟨_,UF oM⟩
  exact⟨u,λx hx=>h.st j x u hx l,by rcases(h.ow j u l).own.2 with⟨e,-⟩|⟨g,cap,cur,e,-⟩<;>rw[e]<;>rfl⟩
 have two:∀j,j<2->∃u,W.cell? ⟨d,9+j,none⟩=some u/\u.oneCell'=true:=λj b=>by
  obtain⟨u,s,r⟩:=c (7+k+k+j) oM;obtain⟨x,hx⟩:∃x,(fN d f 0 k i 0 k)[7+k+k+j]? = some x:=⟨_,UF oM⟩
  rcases dT hx with⟨n,m⟩|⟨n,l,m⟩|⟨n,l,m⟩|⟨n,l,m⟩
  ·omega
  ·omega
  ·omega
  ·have:=s x hx;rw[m,show 7+k+k+j-7-k-k=j by omega]at this;exact⟨u,this,r⟩
 obtain⟨u0,a0,b0⟩:=c 0 oM;obtain⟨u1,y,b1⟩:=c 1 oM;obtain⟨u2,a2,C⟩:=c 2 oM;obtain⟨u3,m,D⟩:=c 3 oM;obtain⟨u4,t,a⟩:=c 4 oM;obtain⟨u5,z,B⟩:=c 5 oM;obtain⟨u6,n,A⟩:=c 6 oM;obtain⟨u9,r,E⟩:=two 0 oM;obtain⟨u10,l,s⟩:=two 1 oM;refine⟨[u0,u1,u2,u3,u4,u5,u6,sZ f k k,sZ i k k,u9,u10],rfl,λj u b=>?_,λv hv=>?_⟩
 ·rw[UC];match j,b with
  | 0,b=>obtain rfl:=UN.inj b;exact a0 _ rfl
  | 1,b=>obtain rfl:=UN.inj b;exact y _ rfl
  | 2,b=>obtain rfl:=UN.inj b;exact a2 _ rfl
  | 3,b=>obtain rfl:=UN.inj b;exact m _ rfl
  | 4,b=>obtain rfl:=UN.inj b;exact t _ rfl
  | 5,b=>obtain rfl:=UN.inj b;exact z _ rfl
  | 6,b=>obtain rfl:=UN.inj b;exact n _ rfl
  | 7,b=>obtain rfl:=UN.inj b;exact h.c7
  | 8,b=>obtain rfl:=UN.inj b;exact h.c8
  | 9,b=>obtain rfl:=UN.inj b;exact r
  | 10,b=>obtain rfl:=UN.inj b;exact l
  | j+11,b=>simp at b
 ·simp only[VW,UX,or_false]at hv;rcases hv with rfl|rfl|rfl|rfl|rfl|rfl|rfl|rfl|rfl|rfl|rfl<;>first|assumption|rfl
end
section
variable {P:Nat}[NeZero P]{N:Nat}
theorem QB:(prog.underlying 110).map (·.isRow)=some false:=kR
theorem Nr:(prog.underlying 3).map (·.isRow)=some false:=kR
theorem i22:(prog.info? 23).map (·.size)=some 1:=kR
theorem Cd{cs:List Us}(h:∀v∈cs,v.oneCell'=true):cs.toArray.all (·.oneCell')=true:=Go.all_oneCell_toArray h
theorem Au:∀v∈zR,v.oneCell'=true:=λv hv=>by
 rw[(Zo.1 hv).2];rfl
theorem LK(s:SP.Bs)(gi c:Nat)(hs:s.size<=100000)(hc:s.size<=c)(h9:1<c)(w:Uq)(k6:gi<w.heap.size)(hH:Holds SP.encB w gi 0 s):
 UG prog 14 #[sZ gi s.size c] w (RdR w s s[0]!.toNat):=by
 obtain⟨z,J⟩:∃z,Hid (w.alloc (.cells zR.toArray 28)=z):=⟨_,rfl⟩
 have b1:kZ w z:=by rw[<-J.out];exact aO _ _
 have z1:z.heap.size=w.heap.size+1:=by rw[<-J.out,UA]
 have Q:z.heap[w.heap.size]? = some (.cells zR.toArray 28 (0,0)):=by rw[<-J.out];exact WT
 have kp:=Hid.mkP b1;have hl:=Hid.mkP z1;have kr:=Hid.mkP Q;have P1:=Hid.mkP (EG (cs:=zR) Q rfl b1);have HH:=Hid.mkP hH;obtain⟨n,hn⟩:∃n:Nat,Hid (n=s.size):=⟨_,rfl⟩
 obtain⟨k,hk⟩:∃k:Nat,Hid (k=s[0]!.toNat):=⟨_,rfl⟩
 rw[<-hk.out];rw[<-hn.out]at hs hc⊢;by_cases h0:0<n
 ·have S:=(SP.Holds.below hH b1 k6 0 (by rw[<-hn.out];exact h0)).1;unfold SP.encB SP.ub at S;rw[<-hk.out,UC]at S;obtain⟨m,hm⟩:∃m,n=m+1:=⟨n-1,oM⟩
  have h7:¬((m:Int)+1=0):=oM;have kv:(0:Int)<(m:Int)+1:=oM;have kw:((m:Int)+1 == 0)=false:=by simpa using h7
  rw[hm]at hc hs⊢;have Hm:Hid (s.size=m+1):=by rw[<-hn.out,hm];rfl
  by_cases h6:k<=6
  ·have kj:¬(6:Int)<(k:Int):=oM;have kn:=yBE (P:=prog) 24 23 (.slice none 0 0) 24 v7 ME rfl .i64 .i64 k oM oM;have H:Hid (nO s↔m+1=293+66*k):=by
    show _↔_;unfold nO;rw[<-hk.out,Hm.out];exact⟨λh=>h.2.2,λh=>⟨oM,h6,h⟩⟩
   clear hm h7 h0 hH b1 Q z1;go_enter func14,ntmps14;go_wp2_with (first|(refine aY (v:=jZ w.heap.size) (w':=z) rfl (.alloc 28) rfl ?_ ?_;(rw[<-J.out];kernel_rfl))|fail)
   go_cut [5] (λs5 wx=>∃o A y,s5=jZ o/\Hid (R4 z wx o A y k))
   case first =>
    go_region
    all_goals (try go_wp2)
    all_goals (go_meet;first|(refine⟨_,z.heap.size,z.heap.size+1,rfl,(⟨(three _ _ _ _ _ _ _).1,?_,?_,?_,?_,?_,?_,?_,?_,?_⟩:R4 _ _ _ _ _ _)⟩<;>first|(rw[(three _ _ _ _ _ _ _).2.1];omega)|exact(three _ _ _ _ _ _ _).2.2.1|exact(three _ _ _ _ _ _ _).2.2.2.1|exact(three _ _ _ _ _ _ _).2.2.2.2|omega)|(refine⟨_,z.heap.size,z.heap.size+1+1,rfl,(⟨(three _ _ _ _ _ _ _).1,?_,?_,?_,?_,?_,?_,?_,?_,?_⟩:R4 _ _ _ _ _ _)⟩<;>first|(rw[(three _ _ _ _ _ _ _).2.1];omega)|exact(three _ _ _ _ _ _ _).2.2.1|exact(three _ _ _ _ _ _ _).2.2.2.1|exact(three _ _ _ _ _ _ _).2.2.2.2|omega)|(refine⟨_,z.heap.size+1,z.heap.size,rfl,(⟨(three _ _ _ _ _ _ _).1,?_,?_,?_,?_,?_,?_,?_,?_,?_⟩:R4 _ _ _ _ _ _)⟩<;>first|(rw[(three _ _ _ _ _ _ _).2.1];omega)|exact(three _ _ _ _ _ _ _).2.2.1|exact(three _ _ _ _ _ _ _).2.2.2.1|exact(three _ _ _ _ _ _ _).2.2.2.2|omega)|(refine⟨_,z.heap.size+1,z.heap.size+1+1,rfl,(⟨(three _ _ _ _ _ _ _).1,?_,?_,?_,?_,?_,?_,?_,?_,?_⟩:R4 _ _ _ _ _ _)⟩<;>first|(rw[(three _ _ _ _ _ _ _).2.1];omega)|exact(three _ _ _ _ _ _ _).2.2.1|exact(three _ _ _ _ _ _ _).2.2.2.1|exact(three _ _ _ _ _ _ _).2.2.2.2|omega)|(refine⟨_,z.heap.size+1+1,z.heap.size,rfl,(⟨(three _ _ _ _ _ _ _).1,?_,?_,?_,?_,?_,?_,?_,?_,?_⟩:R4 _ _ _ _ _ _)⟩<;>first|(rw[(three _ _ _ _ _ _ _).2.1];omega)|exact(three _ _ _ _ _ _ _).2.2.1|exact(three _ _ _ _ _ _ _).2.2.2.1|exact(three _ _ _ _ _ _ _).2.2.2.2|omega)|(refine⟨_,z.heap.size+1+1,z.heap.size+1,rfl,(⟨(three _ _ _ _ _ _ _).1,?_,?_,?_,?_,?_,?_,?_,?_,?_⟩:R4 _ _ _ _ _ _)⟩<;>first|(rw[(three _ _ _ _ _ _ _).2.1];omega)|exact(three _ _ _ _ _ _ _).2.2.1|exact(three _ _ _ _ _ _ _).2.2.2.1|exact(three _ _ _ _ _ _ _).2.2.2.2|omega))
   case rest =>
    obtain⟨o,A,y,rfl,H4⟩:=hcut;have c7:wc.cell? ⟨o,7,none⟩=some (sZ A k k):=by unfold VX;rw[H4.out.hp];rfl
    have c8:wc.cell? ⟨o,8,none⟩=some (sZ y k k):=by unfold VX;rw[H4.out.hp];rfl
    have hz:=Hid.mkP (zP o ⟨some (aZ A),k,k⟩ ⟨some (aZ y),k,k⟩ A 0 y 0 wc H4.out.p1.2 c7 c8 (UW rfl) (UW rfl) (by show k<=_;omega) (by show k<=_;omega));have ke:¬c=1:=oM;have kd:¬c-1=0:=oM;have ko:(1:Int)<=(m:Int)+1:=oM;have k9:(m:Int)+1<=(c:Int):=oM;clear c7 c8 S;go_wp2_with fail
    refine hz.out.mono ?_;rintro e w3 ⟨v3,rfl,g3⟩;obtain⟨N,he,rfl,kb,kt⟩:=g3.lt;have Z:=IH (CH:=chk s k) H4.out kp.out (by have:=hl.out;omega) g3;have O:=Hid.mkP Z.1;have I0:=Hid.mkP Z.2;have hM:(fN o A 0 k y 0 k).length=k+k+9:=by
     rw[<-kV k k,<-sK o A 0 k y 0 k,UP]
    have h8:(tH o++lp A 0 k++lp y 0 k++endP o).length=k+k+9:=hM;have hr:Hid (∀W v,RdI w w3 W w.heap.size N o (sZ A k k) (sZ y k k) (fN o A 0 k y 0 k) v (chk s k)->∀i,i<k+k+9->∃r D f,(gZ k k)[i]? = some f/\(fN o A 0 k y 0 k)[i]? = some (⟨r,D,none⟩,f)/\f<=33/\32<=f/\W.rangeAt N (i*2) [oZ r D,iZ f]):=λW v G i hi=>by
     obtain⟨x,hx⟩:∃x,(fN o A 0 k y 0 k)[i]? = some x:=⟨_,UF oM⟩
     obtain⟨r,D,l,-⟩:=O.out.ad i x hx;have R:(gZ k k)[i]? = some x.2:=by rw[<-sK o A 0 k y 0 k,Vy,hx];rfl
     have d:=VI R;have t:=g3.at i x hx;refine⟨r,D,x.2,R,by rw[hx,<-l],EN k k _ d,?_,λj u hj=>?_⟩
     ·unfold gZ at d;simp only[Wy,VW,UX,or_false,Zo]at d;omega
     ·have e:=G.eq;have:W.cell? ⟨N,i*2+j,none⟩=w3.cell? ⟨N,i*2+j,none⟩:=by unfold VX;rw[e]
      rw[this,Vu];exact t j u (by unfold pC;rw[l];exact hj)
    have h4:Hid (w3.heap[w.heap.size]? = some (.cells zR.toArray 28 (0,0))):=by
     have:=hl.out;have d:=H4.out.bl.size;show _=_;rw[g3.bl.block w.heap.size oM,H4.out.bl.block w.heap.size oM];exact kr.out
    obtain⟨M,U⟩:∃M,Hid (k+k+9=M):=⟨_,rfl⟩
    rw[U.out]at hr h8;rw[h8];have kx:M<=21:=by have:=U.out;omega
    obtain⟨dP,hw,ht⟩:=Ux.1 QC;obtain⟨C1,hq⟩:∃C1,c-1=C1:=⟨_,rfl⟩
    rw[hq];have kh:1+C1=c:=oM;clear g3 hM h8 Z hz kb kt kn hq ke kd ko k9;go_wp2;go_loopg [0,32] M (λgk s0 s32 wr=>∃(i off ad L C:Nat),i+gk=M/\s32=iZ i/\s0=.slice (some ⟨gi,ad,none⟩) L C/\off+L=m+1/\off+C=c/\Hid (0<C->ad=off)/\Hid (off=offs k i/\∃vs,vs.length=i/\RdI w w3 wr w.heap.size N o (sZ A k k) (sZ y k k) (fN o A 0 k y 0 k) vs (chk s k)))
    case atStart=>exact⟨0,1,1,m,C1,oM,rfl,rfl,oM,kh,λ_=>rfl,rfl,[],rfl,I0.out⟩
    case round =>
     clear I0;obtain⟨i,off,ad,L,C,hi,rfl,rfl,ky,b4,kk,K⟩:=hrel;by_cases hy:i<M
     ·have ha:(i:Int)<(M:Int):=oM;have b3:=NK N M he i hy;obtain⟨B,vs,E,G⟩:=K.out;obtain⟨r,D,f,k1,k2,k3,b5,k4⟩:=hr.out _ _ G i hy;have K4:=Hid.mkP k4;obtain⟨l,I⟩:∃l,Hid (wr.alloc (.cells #[oZ r D,iZ f] 112)=l):=⟨_,rfl⟩
      have ba:kZ wr l:=by rw[<-I.out];exact aO _ _
      have za:l.heap.size=wr.heap.size+1:=by rw[<-I.out,UA]
      have a0:l.cell? ⟨wr.heap.size,0,none⟩=some (oZ r D):=by rw[<-I.out];exact cZ wr _ _ 0 _ rfl
      have a1:l.cell? ⟨wr.heap.size,1,none⟩=some (iZ f):=by rw[<-I.out];exact cZ wr _ _ 1 _ rfl
      have X:Hid (RdI w w3 l w.heap.size N o (sZ A k k) (sZ y k k) (fN o A 0 k y 0 k) vs (chk s k)):=G.below O.out ba;have F:Hid (off=offs k i/\(gZ k k)[i]? = some f/\(fN o A 0 k y 0 k)[vs.length]? = some (⟨r,D,none⟩,f)/\vs.length=i/\r<wr.heap.size/\l.heap.size=wr.heap.size+1):=by
       refine⟨B,k1,by rw[E];exact k2,E,?_,za⟩;obtain⟨d,t,e',p1,-⟩:=O.out.ad i _ k2;injection e' with e' _ _
       have:=G.sz;omega
      clear K k4 k2 k1 G ba za B E;by_cases kz:L<f
      ·have k7:(L:Int)<(f:Int):=oM;have T:=Hid.mkP (EG (cs:=zR) (by rw[X.out.er];exact h4.out) rfl X.out.bl);have t:¬nO s:=λh=>by
        have S:=H.out.1 h;have V:=Mt k (i+1);rw[Cb,kW k i f F.out.2.1]at V;have:=F.out.1;omega
       go_wp2_with (first|(refine U5 rfl 112 _ rfl N (i*2) ?_ [oZ r D,iZ f] dP ?_ ?_ ?_ ?_ ?_;rfl;exact K4.out;exact hw;exact ht;exact iPt;skip)|(refine U1 rfl 28 _ _ rfl w.heap.size 0 zR.toArray ?_ ?_ ?_ ?_ ?_ ?_;rfl;rfl;(rw[I.out];exact T.out.1);exact iRg;exact Cd Au;rw[show zR.toArray.toList=zR from rfl,I.out])|fail)
       refine UD (fY 2 3 28 rfl T.out.2.1 rfl rfl uRg iRg) rfl ?_;exact U3 ⟨t,T.out.2.2,rfl⟩
      ·have k7:¬(L:Int)<(f:Int):=oM;obtain rfl:ad=off:=kk.out oM;go_wp2_with (first|(refine U5 rfl 112 _ rfl N (i*2) ?_ [oZ r D,iZ f] dP ?_ ?_ ?_ ?_ ?_;rfl;exact K4.out;exact hw;exact ht;exact iPt;skip)|fail)
       rw[I.out];have R:(chk s k i).size=f:=by
        unfold chk;rw[kW k i f F.out.2.1,Array.size_extract,Hm.out];have:=F.out.1;omega
       have HX:Hid (∀W,kZ l W->Holds SP.encB W gi ad (chk s k i)):=λW Y j hj=>by
        have kl:kZ w W:=X.out.bl.trans (Y.mono X.out.bl.size);have d:ad+j<s.size:=by rw[Hm.out];omega
        have S:=(SP.Holds.below HH.out kl k6) (ad+j) d;rw[UC]at S;have e:(chk s k i)[j]! = s[ad+j]!:=by
         rw[F.out.1];exact P3 s k i j hj (by rw[<-F.out.1];exact d)
        rw[e];exact S
       have kc:=LH gi ad L C f oM;obtain⟨nx,k5,kg⟩:=LG gi ad L C f oM oM;have km:=Hid.mkP k5;clear k5;have k0:=Hid.mkP R;clear R;refine qG (FR l wr.heap.size r D f gi ad L C nx (chk s k i)) kR ⟨kR,CB ?_,λi j _ _ k8 _ _ v w w' hE hR=>FR.stab (by have:=F.out.2.2.2.2;omega) i j k8 v w w' hE hR,λi b _ hk w w' hE hB=>FR.stabB (by have:=F.out.2.2.2.2;omega) i b hk w w' hE hB⟩ (λb=>by
        match b with
        | 0=>exact(⟨rfl,rfl,rfl,Uv _,λ_ _=>rfl⟩:kZ l l.drew)
        | _+1=>exact⟨a0,a1,by have:=F.out.2.2.2.2;omega,Uv _⟩) ?_
       ·exact⟨lC λa W d=>⟨[(7,jZ wr.heap.size)],_,W,⟨d.o 7 kR,yCl⟩,kR,UQ _ _,rfl⟩,
         D4 110 42 rfl QB λa W d=>⟨wr.heap.size,0,oZ r D,d.n 0 42 kR kR kR,(d.b 1 kR).1,UQ _ _,rfl⟩,
         lC λa W d=>⟨[(0,.slice (some ⟨gi,ad,none⟩) L C)],_,W,⟨d.o 0 kR,yCl⟩,kR,UQ _ _,rfl⟩,
         lC λa W d=>⟨[(7,jZ wr.heap.size)],_,W,⟨d.o 7 kR,yCl⟩,kR,UQ _ _,rfl⟩,
         D4 3 45 rfl Nr λa W d=>⟨wr.heap.size,1,iZ f,d.n 3 45 kR kR kR,(d.b 1 kR).2.1,UQ _ _,rfl⟩,
         MX 23 44 46 rfl λa W d=>⟨_,_,_,d.n 2 44 kR kR kR,d.n 4 46 kR kR kR,kc W,UQ _ _,rfl⟩,
         GT λa W d=>⟨[(47,.slice (some ⟨gi,ad,none⟩) f C)],56,#[.slice (some ⟨gi,ad,none⟩) f C],⟨d.n 5 47 kR kR kR,yCl⟩,kR,by
          have Y:kZ l W:=d.b 0 kR;have hc:=JP gi ad C (chk s k i) (by rw[k0.out];omega) W (by have S:=X.out.bl.size;have V:=Y.size;omega) (HX.out W Y);rw[k0.out]at hc;refine hc.mono ?_;rintro e' W' ⟨v,rfl,S,V⟩;refine⟨v,rfl,S,?_⟩;have h3:=Y.size;refine(⟨?_,V.nn⟩:FrC l.heap.size (chk s k i) v W');rcases V.own with⟨x0,x1|⟨g,cap,cur,x1,x2,x3⟩⟩
          ·exact⟨x0,U3 x1⟩
          ·exact⟨x0,UW ⟨g,cap,cur,x1,oM,x3⟩⟩⟩,
         lC λa W d=>⟨[(0,.slice (some ⟨gi,ad,none⟩) L C)],_,W,⟨d.o 0 kR,yCl⟩,kR,UQ _ _,rfl⟩,
         lC λa W d=>⟨[(7,jZ wr.heap.size)],_,W,⟨d.o 7 kR,yCl⟩,kR,UQ _ _,rfl⟩,
         D4 3 50 rfl Nr λa W d=>⟨wr.heap.size,1,iZ f,d.n 8 50 kR kR kR,(d.b 1 kR).2.1,UQ _ _,rfl⟩,
         MW 23 49 51 rfl λa W d=>⟨_,_,_,d.n 7 49 kR kR kR,d.n 9 51 kR kR kR,kg W,UQ _ _,rfl⟩,
         lC λa W d=>⟨[(43,oZ r D)],_,W,⟨d.n 1 43 kR kR kR,yCl⟩,kR,UQ _ _,rfl⟩,
         GR 23 53 48 rfl rfl i22 λa W d=>by
          have Y:kZ l W:=d.b 0 kR;have hF:FrC l.heap.size (chk s k i) (a.eval (.tmp 48)) W:=d.n 6 48 kR kR kR;obtain⟨⟨old,kf⟩,ka⟩:=X.out.th _ _ F.out.2.2.1;have V:r<l.heap.size:=by have:=F.out.2.2.2.2;omega
          obtain⟨q,c',hv⟩:=GB hF.own;refine⟨r,D,_,old,d.n 11 53 kR kR kR,rfl,?_,?_,by rw[hv];rfl,by rw[hv];rfl,⟨_,rfl⟩,?_⟩
          ·rw[Y.cell (p:=⟨r,D,none⟩) V];exact kf
          ·have:W.frozen? ⟨r,D,none⟩=l.frozen? ⟨r,D,none⟩:=by unfold WV;rw[Y.block r V]
           rw[this];exact ka
          ·refine(⟨_,G7 Y _ _,⟨bZ hF.own (λg hg=>?_),hF.nn⟩⟩:StR l r D (chk s k i) _);have:=(jG hF.own hg).1;rw[heap_set,yCk (by show r≠g;omega)],
         mI 52 λa W d=>⟨a.eval (.tmp 52),W,kR,kR,UQ _ _,d.n 10 52 kR kR kR⟩,yCl⟩
       ·intro V w5 hV hB;have hS:StR l r D (chk s k i) w5:=hV 12 (Xi (VQ kR)) rfl;have d:V 13=.slice (some ⟨gi,nx,none⟩) (L-f) (C-f):=hV 13 (Xi (VQ kR)) rfl;obtain⟨v,hu⟩:=X.out.step O.out F.out.2.2.1 (by rw[F.out.2.2.2.1];exact hS);have K5:Hid (ad+f=offs k (i+1)/\∃vs,vs.length=i+1/\RdI w w3 w5 w.heap.size N o (sZ A k k) (sZ y k k) (fN o A 0 k y 0 k) vs (chk s k)):=by
         refine⟨by rw[kW k i f F.out.2.1,F.out.1],_,?_,hu⟩;rw[Uz,F.out.2.2.2.1];rfl
        dsimp only[bU,Nat.reduceAdd];simp only[UM,Ur,Ut,Uu];rw[d];clear hV hB hS d hu X F HX;go_wp2;go_roundg (gk-1)
        case measure=>omega
        case rel=>exact⟨i+1,ad+f,nx,L-f,C-f,oM,rfl,rfl,oM,oM,km,K5⟩
     ·have ha:¬(i:Int)<(M:Int):=oM;obtain⟨B,vs,E,G⟩:=K.out;have ku:off=293+66*k:=by
       rw[B,show i=k+k+9 by have:=U.out;omega];exact xB k
      have X:=Hid.mkP G;by_cases b2:0<L
      ·have d:(0:Int)<(L:Int):=oM;have T:=Hid.mkP (EG (cs:=zR) (by rw[G.er];exact h4.out) rfl G.bl);have t:¬nO s:=λh=>by
        have S:=H.out.1 h;omega
       clear K G B E;go_wp2_with (first|(refine U1 rfl 28 _ _ rfl w.heap.size 0 zR.toArray ?_ ?_ ?_ ?_ ?_ ?_;rfl;rfl;exact T.out.1;exact iRg;exact Cd Au;rw[show zR.toArray.toList=zR from rfl])|fail)
       refine UD (fY 2 3 28 rfl T.out.2.1 rfl rfl uRg iRg) rfl ?_;exact U3 ⟨t,T.out.2.2,rfl⟩
      ·obtain rfl:L=0:=oM;have I:nO s:=H.out.2 oM;obtain⟨cs,d,l,h9⟩:=IG G (by rw[E];have:=U.out;omega);have T:=Hid.mkP (EG (cs:=cs) (by rw[G.er];exact h4.out) d G.bl);have HC:=Hid.mkP l;have R:=Hid.mkP h9;have F:=Hid.mkP d;have KR:Hid (RdR w s k (.returned (.tuple #[.agg cs.toArray,iZ 0])) (wr.setCells w.heap.size 0 cs)):=UW ⟨I,T.out.2.2,w3,wr,N,o,A,y,vs,cs,by rw[E];have:=U.out;omega,O.out,G,d,l,rfl,rfl⟩;obtain⟨dR,V,Y⟩:=Ux.1 uRg;clear K G B E l h9 X;go_wp2_with (first|(refine U5 rfl 28 _ rfl o 0 ?_ cs dR ?_ ?_ ?_ ?_ ?_;rfl;exact HC.out;exact V;exact Y;(rw[F.out];exact iRg);skip)|(refine U1 rfl 28 _ _ rfl w.heap.size 0 cs.toArray ?_ ?_ ?_ ?_ ?_ ?_;rfl;rfl;exact T.out.1;(rw[List.size_toArray,F.out];exact iRg);exact Cd R.out;rw[show cs.toArray.toList=cs from rfl])|fail)
       refine UD (fY 2 3 28 rfl T.out.2.1 rfl rfl uRg (by rw[F.out];exact iRg)) rfl ?_;exact KR.out
  ·have kj:(6:Int)<(k:Int):=oM;have t:¬nO s:=λh=>h6 (by rw[hk.out];exact h.2.1)
   clear hm h7 h0 hH b1 Q z1;go_enter func14,ntmps14;go_wp2_with (first|(refine aY (v:=jZ w.heap.size) (w':=z) rfl (.alloc 28) rfl ?_ ?_;(rw[<-J.out];kernel_rfl))|(refine U1 rfl 28 _ _ rfl w.heap.size 0 zR.toArray ?_ ?_ ?_ ?_ ?_ ?_;rfl;rfl;exact P1.out.1;exact iRg;exact Cd Au;rw[show zR.toArray.toList=zR from rfl])|fail)
   refine UD (fY 2 3 28 rfl P1.out.2.1 rfl rfl uRg iRg) rfl ?_;exact U3 ⟨t,P1.out.2.2,rfl⟩
 ·have d:n=0:=oM;have t:¬nO s:=λh=>h0 (by rw[hn.out];exact h.1)
  subst d;clear h0 hH b1 Q z1;go_enter func14,ntmps14;go_wp2_with (first|(refine aY (v:=jZ w.heap.size) (w':=z) rfl (.alloc 28) rfl ?_ ?_;(rw[<-J.out];kernel_rfl))|(refine U1 rfl 28 _ _ rfl w.heap.size 0 zR.toArray ?_ ?_ ?_ ?_ ?_ ?_;rfl;rfl;exact P1.out.1;exact iRg;exact Cd Au;rw[show zR.toArray.toList=zR from rfl])|fail)
  refine UD (fY 2 3 28 rfl P1.out.2.1 rfl rfl uRg iRg) rfl ?_;exact U3 ⟨t,P1.out.2.2,rfl⟩
def RdG(w:Uq)(s:SP.Bs)(k:Nat)(e:Ending)(W:Uq):Prop:=kZ w W/\∃(p:Rg) (d c:List Us) (B:Nat),e=.returned (.tuple #[.agg p.cs.toArray,iZ 0])/\VL W p.l.q p.l.n d/\VL W p.r.q p.r.n c/\p.l.n=k/\p.r.n=k/\(∀b o,p.l.q=some ⟨b,o,none⟩->0<k->w.heap.size<=b)/\(∀b o,p.r.q=some ⟨b,o,none⟩->0<k->w.heap.size<=b)/\w.heap.size<=B/\B<=W.heap.size/\(∀j,j<k+k+9->∃u,(qY p d c)[j]? = some u/\FrC B (chk s k j) u W)/\(∀(j i:Nat) u f g,j<i->(qY p d c)[j]? = some u->(qY p d c)[i]? = some f->u.ownBlock=some g->f.ownBlock≠some g)
theorem JV{W W':Uq}{g:Nat}(h:W'.heap[g]? = W.heap[g]?)(j:Nat):W'.cell? ⟨g,j,none⟩=W.cell? ⟨g,j,none⟩/\W'.frozen? ⟨g,j,none⟩=W.frozen? ⟨g,j,none⟩:=by
 unfold VX WV;rw[h];exact⟨rfl,rfl⟩
theorem Ie{k:Nat}(vs:List Us)(h:vs.length=k+k+9):∃hd d c b,vs=hd++d++c++b/\hd.length=7/\d.length=k/\c.length=k/\b.length=2:=by
 refine⟨vs.take 7,(vs.drop 7).take k,((vs.drop 7).drop k).take k,((vs.drop 7).drop k).drop k,?_,?_,?_,?_,?_⟩
 ·rw[Vw,Za,Vw,Za,Za]
 all_goals (simp only[WE,List.length_drop];omega)
theorem len2:∀(l:List Us),l.length=2->∃k b,l=[k,b]
 | [k,b],_=>⟨k,b,rfl⟩
theorem TR:∀(l:List Us),l.length=7->∃c g k b d e f,l=[c,g,k,b,d,e,f]
 | [c,g,k,b,d,e,f],_=>⟨c,g,k,b,d,e,f,rfl⟩
theorem RJ:∀(l:List Us),l.length=11->∃d j b c e f g n i m k,l=[d,j,b,c,e,f,g,n,i,m,k]
 | [d,j,b,c,e,f,g,n,i,m,k],_=>⟨d,j,b,c,e,f,g,n,i,m,k,rfl⟩
theorem IF{w W:Uq}{s:SP.Bs}{k:Nat}{e:Ending}(h:RdR w s k e W)(P:nO s):RdG w s k e W:=by
 rcases h with⟨h,-⟩|⟨-,hb,w3,p,gq,F,J,G,vs,cs,hl,R,A,hc,X,rfl,rfl⟩
 ·exact absurd P h
 have hz:=R.r;have h4:=A.sz;have kp:∀b,b<p.heap.size->b≠w.heap.size->(p.setCells w.heap.size 0 cs).heap[b]? = p.heap[b]?:=λb E N=>ZZ p _ 0 cs E N
 have hM:(fN F J 0 k G 0 k).length=k+k+9:=by rw[<-kV k k,<-sK F J 0 k G 0 k,UP]
 have v:∀(j:Nat) u,vs[j]? = some u->∃x,(fN F J 0 k G 0 k)[j]? = some x/\p.cell? x.1=some u:=λj u l=>by
  obtain⟨x,hx⟩:∃x,(fN F J 0 k G 0 k)[j]? = some x:=⟨_,UF (by have:=(UE.1 l).1;omega)⟩
  exact⟨x,hx,A.st j x u hx l⟩
 have O:∀(j:Nat) u,vs[j]? = some u->∃t:Sv,u=t.v:=λj u l=>by
  obtain⟨q,c,hv⟩:∃q c,u=.slice q (V2 (chk s k j)) c:=by
   rcases(A.ow j u l).own with⟨-,⟨rfl,i⟩|⟨g,cap,cur,rfl,-⟩⟩
   ·exact⟨none,0,by rw[i]⟩
   ·exact⟨_,_,rfl⟩
  exact⟨⟨q,_,c⟩,hv⟩
 have hF:∀(j:Nat) u,vs[j]? = some u->FrC w3.heap.size (chk s k j) u (p.setCells w.heap.size 0 cs):=λj u l=>by
  have E:=A.ow j u l;exact⟨bZ E.own (λg P=>kp g (jG E.own P).2.1 (by have:=(jG E.own P).1;omega)),E.nn⟩
 have V:=A.ne;have h3:p.heap.size<=(p.setCells w.heap.size 0 cs).heap.size:=(below_setCells (B:=0) (b:=w.heap.size) (Wx _) cs 0 p (UQ 0 p)).size;have H:∀(g T:Nat) (ys:List Us),ys.length=k->(∀j,j<k->∃u x,ys[j]? = some u/\vs[T+j]? = some u/\(fN F J 0 k G 0 k)[T+j]? = some x/\x.1=⟨g,j,none⟩)->VL (p.setCells w.heap.size 0 cs) (some (aZ g)) k ys/\(0<k->w.heap.size<=g):=λg T ys hn S=>by
  refine⟨⟨hn,λe=>(by cases e),?_,λu l=>?_⟩,λL=>?_⟩
  ·by_cases L:k=0
   ·exact U3 (List.length_eq_zero_iff.1 oM)
   ·obtain⟨u0,z,-,-,m,D⟩:=S 0 oM;obtain⟨b,o,i,E,-,-,N,-⟩:=R.ad _ z m;rw[D]at i;injection i with i _ _
    subst i;refine UW ⟨g,0,rfl,oM,λj u r=>?_⟩;obtain⟨K,M,n,C,I,Q⟩:=S j (by have:=(UE.1 r).1;omega);rw[r]at n;obtain rfl:=UN.inj n;rw[UC,(JV (kp g oM N) j).1,<-Q];exact A.st _ M u I C
  ·obtain⟨j,r⟩:=List.getElem?_of_mem l;obtain⟨K,M,n,C,-⟩:=S j (by have:=(UE.1 r).1;omega);rw[r]at n;obtain rfl:=UN.inj n;obtain⟨t,rfl⟩:=O _ u C;rfl
  ·obtain⟨u0,z,-,-,m,D⟩:=S 0 L;obtain⟨b,o,i,E,N,-⟩:=R.ad _ z m;rw[D]at i;injection i with i _ _
   subst i;exact N
 obtain⟨hd,D,C,K,rfl,Q,U,n3,n4⟩:=Ie vs hl;have Z:=H J 7 D U (λj r=>by
  obtain⟨u,l⟩:∃u,D[j]? = some u:=⟨_,UF oM⟩
  have hv:(hd++D++C++K)[7+j]? = some u:=by
   rw[Vw,Vw,U0 oM,Q,WJ,US oM];exact l
  obtain⟨x,hx,-⟩:=v _ u hv;refine⟨u,x,l,hv,hx,?_⟩;rcases dT hx with⟨n,m⟩|⟨n,i,m⟩|⟨n,i,m⟩|⟨n,i,m⟩
  ·omega
  ·rw[m,WJ];congr 1;omega
  ·omega
  ·omega)
 have Y:=H G (7+k) C n3 (λj r=>by
  obtain⟨u,l⟩:∃u,C[j]? = some u:=⟨_,UF oM⟩
  have hv:(hd++D++C++K)[7+k+j]? = some u:=by
   rw[Vw,U0 (by rw[Uz];omega),Uz,Q,U,WJ,US oM];exact l
  obtain⟨x,hx,-⟩:=v _ u hv;refine⟨u,x,l,hv,hx,?_⟩;rcases dT hx with⟨n,m⟩|⟨n,i,m⟩|⟨n,i,m⟩|⟨n,i,m⟩
  ·omega
  ·omega
  ·rw[m];congr 1;omega
  ·omega)
 have hT:∀j,j<2->∀u,K[j]? = some u->p.cell? ⟨F,9+j,none⟩=some u/\∃t:Sv,u=t.v:=λj r u l=>by
  have hv:(hd++D++C++K)[7+k+k+j]? = some u:=by
   rw[U0 (by rw[Uz,Uz];omega),Uz,Uz,Q,U,n3,WJ];exact l
  refine⟨?_,O _ u hv⟩;obtain⟨x,hx,z⟩:=v _ u hv;rcases dT hx with⟨n,m⟩|⟨n,i,m⟩|⟨n,i,m⟩|⟨n,i,m⟩
  ·omega
  ·omega
  ·omega
  ·rw[m,show 7+k+k+j-7-k-k=j by omega]at z;exact z
 have I:∀j,j<7->∀u,hd[j]? = some u->p.cell? ⟨F,j,none⟩=some u/\∃t:Sv,u=t.v:=λj r u l=>by
  have hv:(hd++D++C++K)[j]? = some u:=by
   rw[Vw,Vw,US oM];exact l
  refine⟨?_,O _ u hv⟩;obtain⟨x,hx,z⟩:=v _ u hv;rcases dT hx with⟨n,m⟩|⟨n,i,m⟩|⟨n,i,m⟩|⟨n,i,m⟩
  ·rw[m]at z;exact z
  ·omega
  ·omega
  ·omega
 have i:∀j u,cs[j]? = some u->p.cell? ⟨F,j,none⟩=some u:=λj u r=>by
  have:=X j u r;rw[UC]at this;exact this
 have c7:=A.c7;have c8:=A.c8;clear v H A R X O;obtain⟨v0,v1,v2,v3,v4,v5,v6,rfl⟩:=TR hd Q;obtain⟨x,y,rfl⟩:=len2 K n4;obtain⟨z0,z1,z2,z3,z4,z5,z6,z7,z8,z9,n,rfl⟩:=RJ cs hc;obtain⟨q0,a,rfl⟩:=I 0 oM v0 rfl;obtain⟨q1,b,rfl⟩:=I 1 oM v1 rfl;obtain⟨q2,c,rfl⟩:=I 2 oM v2 rfl;obtain⟨q3,d,rfl⟩:=I 3 oM v3 rfl;obtain⟨q4,e,rfl⟩:=I 4 oM v4 rfl;obtain⟨q5,f,rfl⟩:=I 5 oM v5 rfl;obtain⟨q6,g,rfl⟩:=I 6 oM v6 rfl;obtain⟨q9,M,rfl⟩:=hT 0 oM x rfl;obtain⟨m,z,rfl⟩:=hT 1 oM y rfl;obtain rfl:=UN.inj ((i 0 z0 rfl).symm.trans q0);obtain rfl:=UN.inj ((i 1 z1 rfl).symm.trans q1);obtain rfl:=UN.inj ((i 2 z2 rfl).symm.trans q2);obtain rfl:=UN.inj ((i 3 z3 rfl).symm.trans q3);obtain rfl:=UN.inj ((i 4 z4 rfl).symm.trans q4);obtain rfl:=UN.inj ((i 5 z5 rfl).symm.trans q5);obtain rfl:=UN.inj ((i 6 z6 rfl).symm.trans q6);obtain rfl:=UN.inj ((i 7 z7 rfl).symm.trans c7);obtain rfl:=UN.inj ((i 8 z8 rfl).symm.trans c8);obtain rfl:=UN.inj ((i 9 z9 rfl).symm.trans q9);obtain rfl:=UN.inj ((i 10 n rfl).symm.trans m);refine⟨hb,⟨a,b,c,d,e,f,g,⟨some (aZ J),k,k⟩,⟨some (aZ G),k,k⟩,M,z⟩,D,C,w3.heap.size,rfl,Z.1,Y.1,rfl,rfl,λb o e L=>by injection e with e;injection e with e _ _;subst e;exact Z.2 L,λb o e L=>by injection e with e;injection e with e _ _;subst e;exact Y.2 L,oM,oM,λj r=>?_,V⟩;obtain⟨u,l⟩:∃u,([a.v,b.v,c.v,d.v,e.v,f.v,g.v]++D++C++[M.v,z.v])[j]? = some u:=⟨_,UF oM⟩
 exact⟨u,l,hF j u l⟩
theorem Ml{W:Uq}{B:Nat}{u:Us}{b:SP.Bs}(h:W.ownsRow B 5 1 u b.size (bC b)):Pt W u b:=by
 rcases id h with⟨-,⟨rfl,k⟩|⟨g,cap,cur,rfl,-⟩⟩
 ·exact⟨none,0,by rw[k],U3 k⟩
 ·exact⟨some (aZ g),cap,rfl,UW ⟨g,0,rfl,(jG h rfl).2.1,Dw h⟩⟩
theorem CO(p:Rg)(c b:List Us)(k:Nat)(l:c.length=k)(g:b.length=k)(j:Nat)(m:j<k+k+9):(p.all c b)[j]? = (qY p c b)[if j<k+k+2 then 7+j else j-(k+k+2)]?:=by
 have i:p.all c b=(c++b++[p.x.v,p.y.v])++[p.a.v,p.b.v,p.c.v,p.d.v,p.e.v,p.f.v,p.g.v]:=rfl;have f:qY p c b=[p.a.v,p.b.v,p.c.v,p.d.v,p.e.v,p.f.v,p.g.v]++(c++b++[p.x.v,p.y.v]):=by unfold qY;simp only[Vw]
 have d:(c++b++[p.x.v,p.y.v]).length=k+k+2:=by rw[Uz,Uz,l,g];rfl
 rw[i,f];have e:[p.a.v,p.b.v,p.c.v,p.d.v,p.e.v,p.f.v,p.g.v].length=7:=rfl;generalize c++b++[p.x.v,p.y.v]=M at d;generalize [p.a.v,p.b.v,p.c.v,p.d.v,p.e.v,p.f.v,p.g.v]=H at e;split
 ·rw[US oM,U0 oM,e,WJ]
 ·rw[U0 oM,US oM,d]
structure RdB(t:Nat)(BB:List SP.Bs)(e:Us)(W:Uq):Prop where
 ex:∃(p:Rg) (l1 l2:List Us),e=.agg p.cs.toArray/\VL W p.l.q p.l.n l1/\VL W p.r.q p.r.n l2/\p.l.n=t/\p.r.n=t/\∀j,j<t+t+9->∃u b,(qY p l1 l2)[j]? = some u/\BB[j]? = some b/\Pt W u b
theorem IE{t:Nat}{BB:List SP.Bs}(k:mM t t BB)(W:Uq)(g c:Nat)(l:Pt W (sZ g (V2 (eU t BB (t+t+9))) c) (eU t BB (t+t+9)))(n:V2 (eU t BB (t+t+9))<=c):UG prog 14 #[sZ g (V2 (eU t BB (t+t+9))) c] W (rZ W λe W'=>∃e',e=.tuple #[e',iZ 0]/\RdB t BB e' W'):=by
 have H:=k.2.1;have I:=nJ k;have f:=vJ k (t+t+9) (Uv _);rw[xB]at f;obtain⟨d,hG⟩:=JW k;have i:∀j b,BB[j]? = some b->chk (eU t BB (t+t+9)) t j=b:=λj b=>MU k
 generalize eU t BB (t+t+9)=s at f d hG i l n;obtain⟨q,F,e,h|⟨G,o,E,a,C⟩⟩:=l
 ·omega
 injection e with e1 e2 e3
 rw[E]at e1;injection e1 with e1
 injection e1 with e1 e4 e5
 subst e1 e4;have:=LK s g c oM n oM W a C;rw[d]at this;refine this.mono λe W' h=>?_
 obtain⟨r,p,y,v,B,rfl,v1,v2,A,z,-,-,-,-,x,-⟩:=IF h hG;refine⟨_,rfl,r,_,rfl,⟨p,y,v,rfl,v1,v2,A,z,λj w=>?_⟩⟩;obtain⟨u,D,hf⟩:=x j w;have m:BB[j]? = some BB[j]:=UF oM;refine⟨u,_,D,m,?_⟩;have:=Ml hf.own;rw[i j _ m]at this;exact this
theorem RgA.same{C t:Nat}{p:Rp}{o Rb:Nat->SP.Bs}{B w:SP.Bs}{e e':Us}{W:Uq}(h:RgA C t p o Rb B w e W)(D:0<t)(N:t<=6)(F:RdB t (rgB t p o Rb B w) e' W):UG prog 7 #[e,e'] W (Ret λe W'=>e=.bool true/\kZ W W'):=by
 obtain⟨q,k,c,L,J,rfl,x,r,-,v1,v2,M,K,s⟩:=h.rg D;obtain⟨a,g,m,rfl,n,u,I,G,E⟩:=F.ex;refine(BN q a W v1 v2 n u oM oM oM oM λj l=>?_).mono ?_
 ·rw[x,r]at l;rw[CO q k c t (by rw[v1.len,x]) (by rw[v2.len,r]) j l,CO a g m t (by rw[n.len,I]) (by rw[u.len,G]) j l];obtain⟨i,z⟩:∃i,(if j<t+t+2 then 7+j else j-(t+t+2))=i:=⟨_,rfl⟩
  have f:i<t+t+9:=by
   rw[<-z];split<;>omega
  rw[z];obtain⟨v,b,hv,d,pv⟩:=E i f;have H:i<(qY q k c).length:=by rw[<-s.1];exact(UE.1 d).1
  have y:=UF H;exact⟨_,v,b,y,hv,s.2 i _ b y d,pv⟩
 ·rintro e W' ⟨rfl,d⟩;exact⟨_,rfl,rfl,d⟩
end
section
open SPA
variable {P:Nat}[NeZero P]{N:Nat}
theorem Ag{P:VC}(w:Uq)(i sT l c:U7)(b o k d:Nat)(t:ByteArray)(p:P.underlying i=some (.slice c))(n:∀w,(Go.sizeOf c).run P w=.ok 1 w)
 (q:∀j,j<k->(w.cell? ⟨b,o+j,none⟩).isSome=true) (hf:∀j,j<k->w.frozen? ⟨b,o+j,none⟩=false) :
 (XY #[i,sT] l #[.slice (some ⟨b,o,none⟩) k d,.string t]).run P w=.ok (goInt (XO t.size k)) (w.setCells b o ((t.data.toList.take k).map λx=>VY .u8 (x.toNat:Int))):=by
 by_cases f:t.size<=k
 ·rw[run_copy_string w i sT l c b o k d t p n f (λj e=>q j oM) (λj e=>hf j oM),show XO t.size k=t.size from yBo f,Y9 (by rw[<-yB0];exact f)]
 ·have e:XO t.size k=k:=Nat.min_eq_right oM;have m:((t.data.toList.take k).map λx=>VY .u8 (x.toNat:Int)).length=k:=by rw[UP,WE,<-yB0];omega
  have g:=run_storeCells_cells (P:=P) b o ((t.data.toList.take k).map λx=>VY .u8 (x.toNat:Int)) 0 w (by rw[m];simpa using q) (by rw[m];simpa using hf) (by
   intro v hv;obtain⟨x,_,rfl⟩:=Vm.1 hv;rfl)
  rw[e];simp[XY,run_underlying p,Builtin.lenOf,Zh,n,e];rw[List.map_take]at g;rw[g];rfl
def fnB(f:Nat->UInt8):Bs:=Array.ofFn (n:=32) λi=>f i.val
theorem bJ(f:Nat->UInt8):(fnB f).size=32:=by unfold fnB;simp
theorem gB(f:Nat->UInt8)(j:Nat)(k:j<32):(fnB f)[j]! = f j:=by
 rw[getElem!_pos (fnB f) j (by rw[bJ];exact k)];unfold fnB;simp
def nm1(s:ByteArray)(j:Nat):UInt8:=if 2<=j/\j<30 then s.data.toList.getD (j-2) 0 else 0
def nm2(s:ByteArray)(n j:Nat):UInt8:=if j=30 then UL n else nm1 s j
def nm3(s:ByteArray)(n j:Nat):UInt8:=if j=31 then UL s.size else nm2 s n j
def nmB(s:ByteArray)(n:Nat):Bs:=fnB (nm3 s n)
theorem Qa(r:List UInt8)(h:r.length=30):beV (0 :: 0 :: r)<2^240:=by
 have e:beV (0 :: 0 :: r)=beV r:=rfl;rw[e];have:=Ef r;rw[h]at this;exact Uw this dC
theorem O6(s:ByteArray)(n:Nat):beV (nmB s n).toList<2^240:=by
 have e:(nmB s n).toList=nm3 s n 0 :: nm3 s n 1 :: List.ofFn (n:=30) λi=>nm3 s n (i.val+2):=by
  unfold nmB fnB;rw[Zu,yBq,yBq];rfl
 have b:nm3 s n 0=0:=rfl;have k:nm3 s n 1=0:=rfl;rw[e,b,k];exact Qa _ (by simp)
theorem iU8:(prog.info? 5).map (·.size)=some 1:=kR
theorem Rj(s:ByteArray)(n:Nat)(w:Uq):UG prog 10 #[.string s,iZ n] w (rZ w λe w'=>ElQ (w.heap.size<=·) 32 w' e (nmB s n)):=by
 have y:=yBE (P:=prog) 23 5 (.int .u8 0) 1 SP.slice22 SP.info5 rfl .i64 .i64 32 oM oM w;have g:Holds encB (w.alloc (.cells (madeCells #[.int .u8 0] 32) 5)) w.heap.size 0 (UI 32 0):=SP.Holds.made (enc:=encB) w 5 32 0;obtain⟨k,r⟩:∃k,Hid (w.heap.size=k):=⟨_,rfl⟩
 have q:w.heap.size<(w.alloc (.cells (madeCells #[.int .u8 0] 32) 5)).heap.size:=by rw[UA];exact YG _
 obtain⟨z,d⟩:∃W,Hid (w.alloc (.cells (madeCells #[.int .u8 0] 32) 5)=W):=⟨_,rfl⟩
 have b1:kZ w z:=by rw[<-d.out];exact aC _ _
 have C:(Instr.makeSlice 23 (iZ 32) (iZ 32)).run prog w=.ok (sZ k 32 32) z:=by rw[<-d.out,<-r.out];exact y
 rw[d.out,r.out]at g;rw[d.out,r.out]at q;clear y;have A:=Ag (P:=prog) z 23 9 3 5 k 2 28 30 s SP.slice22 SP.size5
  (λj b=>by rw[<-UC (2+j),(g (2+j) (by rw[UO];omega)).1];rfl) (λj b=>by rw[<-UC (2+j)];exact(g (2+j) (by rw[UO];omega)).2)
 obtain⟨B,f⟩:∃W,Hid (z.setCells k 2 ((s.data.toList.take 28).map λx=>VY .u8 (x.toNat:Int))=W):=⟨_,rfl⟩
 have t:Holds encB B k 0 (fnB (nm1 s)):=by
  rw[<-f.out];refine SP.Holds.setCells (o:=0) (p:=2) g _ (by rw[bJ,UO]) (by rw[UP,WE,UO];omega) (λj b=>?_) (λj b c=>?_)
  ·rw[UP,WE]at b;rw[gB _ _ oM,Xc,yAQ];unfold nm1;rw[yCj oM,WJ,VP,UF oM];rfl
  ·rw[UO]at b;rw[UP,WE]at c;rw[gB _ _ b,SP.rep_at 32 j b];unfold nm1;split
   ·rw[VP,Ww oM];rfl
   ·rfl
 obtain⟨a,l⟩:∃W,Hid (B.setCells k 30 [.int .u8 (Xx.wrap (n:Int))]=W):=⟨_,rfl⟩
 have m:Holds encB a k 0 (fnB (nm2 s n)):=by
  rw[<-l.out];refine SP.Holds.setCells (o:=0) (p:=30) t _ (by rw[bJ,bJ]) (by rw[bJ];exact VQ rfl) (λj b=>?_) (λj b c=>?_)
  ·have:j=0:=by simpa using b
   subst this;rw[gB _ _ dC,Hk];rfl
  ·rw[bJ]at b;rw[gB _ _ b,gB _ _ b];unfold nm2;rw[yCk (by simp at c;omega)]
 obtain⟨v,i⟩:∃W,Hid (a.setCells k 31 [.int .u8 (Xx.wrap (s.size:Int))]=W):=⟨_,rfl⟩
 have u:Holds encB v k 0 (nmB s n):=by
  rw[<-i.out];refine SP.Holds.setCells (o:=0) (p:=31) m _ (by rw[show nmB s n=fnB (nm3 s n) from rfl,bJ,bJ]) (by rw[bJ];exact VQ rfl) (λj b=>?_) (λj b c=>?_)
  ·have:j=0:=by simpa using b
   subst this;rw[show nmB s n=fnB (nm3 s n) from rfl,gB _ _ dC,Hk];rfl
  ·rw[bJ]at b;rw[show nmB s n=fnB (nm3 s n) from rfl,gB _ _ b,gB _ _ b];unfold nm3;rw[yCk (by simp at c;omega)]
 have D:kZ w v:=by
  rw[<-i.out,<-l.out,<-f.out];exact RG.below_setCells (by rw[r.out];exact Uv _) _ _ _ (RG.below_setCells (by rw[r.out];exact Uv _) _ _ _ (RG.below_setCells (by rw[r.out];exact Uv _) _ _ _ b1))
 have sz:k<v.heap.size:=by rw[<-i.out,<-l.out,<-f.out,setCells_size,setCells_size,setCells_size];exact q
 rw[f.out]at A;have T3:Hid (B.there k 30 1/\a.there k 31 1):=⟨λj b=>by
  have c:j=0:=oM;subst c;have:=t 30 (by rw[bJ];decide);exact⟨by rw[show(30+0:Nat)=0+30 from rfl,this.1];rfl,this.2⟩,λj b=>by
  have c:j=0:=oM;subst c;have:=m 31 (by rw[bJ];decide);exact⟨by rw[show(31+0:Nat)=0+31 from rfl,this.1];rfl,this.2⟩⟩
 have c:Hid (kZ w v/\ElQ (w.heap.size<=·) 32 v (sZ k 32 32) (nmB s n)):=⟨D,k,32,rfl,Uv _,bJ _,Nat.le_of_eq r.out,sz,u⟩
 clear g t m u D sz q b1 d f;go_enter func10,ntmps10;go_wp2_with (first|(refine fV rfl 5 (.tmp 14) _ rfl k 30 (.int .u8 (Xx.wrap (n:Int))) ?_ ?_ rfl rfl T3.out.1 iU8 ?_;rfl;rfl;rw[l.out])|(refine fV rfl 5 (.tmp 19) _ rfl k 31 (.int .u8 (Xx.wrap (s.size:Int))) ?_ ?_ rfl rfl T3.out.2 iU8 ?_;rfl;rfl;rw[i.out])|fail)
 go_ret;exact⟨_,rfl,c.out.1,c.out.2⟩
theorem MB(x n:Nat)(hx:x<18446744073709551616)(b:n<64):(Xa 64 (x:Int) &&& Xa 64 ((2^n-1:Nat):Int)).toNat=x%2^n:=by
 have k:2^n-1<2^64:=Uw (Nat.sub_lt (Nat.two_pow_pos n) dC) (Vz dC oM);rw[Zc,Zc,BitVec.toNat_and,YE,YE,UR (show x<2^64 from hx),UR k,Nat.and_two_pow_sub_one_eq_mod]
def vbF(v i j:Nat):UInt8:=if 31-j<i then UL (v/2^(8*(31-j))) else 0
theorem Qv(v:Nat)(hv:v<18446744073709551616):fnB (vbF v 8)=bx v:=by
 apply yBR;unfold bx;rw[Am,UR hv,Xd hv,Xd (show v<340282366920938463463374607431768211456 by omega),Xd (show v<6277101735386680763835789423207666416102355444464034512896 by omega)];have e:UL v=UL (v/1):=by rw[Nat.div_one]
 rw[e];unfold fnB;rw[Zu];rfl
theorem KW(v:Nat):fnB (vbF v 0)=UI 32 0:=by
 apply yBR;unfold fnB;rw[Zu];rfl
theorem KX{W:Uq}{k v i:Nat}(e:i<8)(h:Holds encB W k 0 (fnB (vbF v i))):Holds encB (W.setCells k (31-i) [.int .u8 (Xx.wrap ((v/2^(8*i):Nat):Int))]) k 0 (fnB (vbF v (i+1))):=by
 rw[show 31-i=0+(31-i) by omega];refine SP.Holds.setCells (o:=0) (p:=31-i) h _ (by rw[bJ,bJ]) (by rw[bJ];simp only[Vh,WF];omega) (λj c=>?_) (λj c d=>?_)
 ·have:j=0:=by simpa using c
  subst this;rw[gB _ _ oM,Hk];unfold vbF;rw[yCj oM,show 31-(31-i+0)=i by omega];rfl
 ·rw[bJ]at c;rw[gB _ _ c,gB _ _ c];simp only[Vh,WF]at d;unfold vbF;by_cases b:31-j<i
  ·rw[yCj b,yCj oM]
  ·rw[yCk b,yCk oM]
theorem Rk{N:Nat}(O:Ord N)(f:2^240<=N)(s:ByteArray)(n:Nat):∃k:Fin N,nmB s n=bx k.val:=by
 have c:=Uw (O6 s n) f;have d:(nmB s n).size=32:=bJ _;generalize nmB s n=b at c d;obtain⟨m,e⟩:∃m,beV b.toList=m:=⟨_,rfl⟩
 rw[e]at c;exact⟨⟨m,c⟩,(SC d (Uw c O.le) e).symm⟩
theorem wd4(z:Int)(k:¬z<0):∃t:Nat,3<=t/\t<=6/\(z%4).toNat=t-3/\wrap64 (8*2^(z%4).toNat)=((2^t:Nat):Int):=by
 refine⟨(z%4).toNat+3,oM,oM,oM,?_⟩;have:(z%4).toNat<4:=oM;generalize (z%4).toNat=t at this;match t,this with
 | 0,_=>decide +kernel
 | 1,_=>decide +kernel
 | 2,_=>decide +kernel
 | 3,_=>decide +kernel
 | n+4,h=>omega
def sdF(s:ByteArray)(j:Nat):UInt8:=s.data.toList.getD j 0
theorem sd_holds{W:Uq}{k:Nat}(s:ByteArray)(h:Holds encB W k 0 (UI 32 0)):Holds encB (W.setCells k 0 ((s.data.toList.take 32).map λx=>VY .u8 (x.toNat:Int))) k 0 (fnB (sdF s)):=by
 refine SP.Holds.setCells (o:=0) (p:=0) h _ (by rw[bJ,UO]) (by rw[UP,WE,UO];omega) (λj b=>?_) (λj b c=>?_)
 ·rw[UP,WE]at b;rw[gB _ _ oM,Xc,yAQ];unfold sdF;rw[UC,VP,UF oM];rfl
 ·rw[UO]at b;rw[UP,WE]at c;rw[gB _ _ b,SP.rep_at 32 j b];unfold sdF;rw[VP,Ww oM];rfl
def TrK(i:Bs)(m:List UInt8)(n t x:Nat):Prop:=∃(V:Bs) (j:Rp) (b Rb:Nat->Bs) (l d:Bs),
 (∀(v0 v1:Us) (W:Uq),Arg W v0 (bx x)->Arg W v1 i->UG prog 11 #[v0,v1] W (rZ W λe W'=>∃g c,e=.tuple #[sZ g 33 c,iZ 0]/\Arg33 W' (sZ g 33 c) V)) /\
 (∀(f:Option Wt) (sc:Nat) (v1:Us) (w:Uq),Arg w v1 i->PartOk w (.slice f 32 sc) m->UG prog 5 #[uZ x,v1,iZ n,.slice f 32 sc] w (rZ w λe w'=>∃e' k,e=.tuple #[e',iZ 0]/\w.heap.size<=k/\RgA k t j b Rb l d e' w')) /\
 ∀(k:Nat) (e v0:Us) (w:Uq),Arg33 w v0 V->RgA k t j b Rb l d e w->UG prog 12 #[v0,iZ n,e] w (rZ w λe w'=>e=.bool true)
theorem Sx{P:Nat}[NeZero P]{N:Nat}(C:Fld P)(O:Ord N){n m:Nat}{k b:Bs}(p:rq N k=some n)(i:rq N b=some m)(v0 v1:Us)(W:Uq)(a0:Arg W v0 k)(o:Arg W v1 b):UG prog 11 #[v0,v1] W (rZ W λe W'=>∃g c,e=.tuple #[sZ g 33 c,iZ 0]/\Arg33 W' (sZ g 33 c) (wr (cmt P n m))):=by
 refine(CX C O.gap O.le v0 v1 k b W a0 o).mono ?_;rintro e W' ⟨v,rfl,d,hR⟩;unfold Bt at hR;rw[p,i]at hR;obtain⟨g,c,rfl,j,q,l,f⟩:=hR;exact⟨_,rfl,d,g,c,rfl,some (aZ g),33,c,rfl,aT _,λ_=>⟨g,0,rfl,j,l,f⟩⟩
theorem trk{P:Nat}[NeZero P]{N:Nat}[NeZero N](C:Fld P)(O:Ord N)(b:∀r:EC.Pt P,On r->mul N r=none)(j:IsP N)(g:2^240<=N)(s:ByteArray)(i:List UInt8){n t:Nat}(e:Wd n t)(x:Nat)(hx:x<2^n):TrK (nmB s 0) i n t x:=by
 have c:18446744073709551616<=N:=UB dC g;have f:n<=64:=by rw[e.1];exact UB (Vz dC e.2.2) dC
 have d:x<18446744073709551616:=Uw hx (UB (Vz dC f) dC);obtain⟨k,p⟩:=Rk O g s 0;rw[p];obtain⟨V,z,m,Rb,a,u,v,l,q⟩:=Lu C O b j c e x hx k i;have o:(ofF N x).val=x:=UR (Uw d c);have w:wr (cmt P x k.val)=V:=by rw[v,<-yB C b (ofF N x) k,o]
 refine⟨V,z,m,Rb,a,u,λv0 v1 W a0 y=>?_,l,q⟩;rw[<-w];exact Sx C O (kJ O (Uw d c)) (kJ O k.isLt) v0 v1 W a0 y
end
section
open SPA
section
variable {P:VC}{Q:Exit->Act->Uq->Prop}{a:Act}{w:Uq}{c y:Code}
theorem Hn(C:Int->Prop)(h:c.wp P (λe b w'=>e=.normal/\w'=w/\∃z p q r,C z/\b=(((a.put (some 26) p).put (some 27) q).put (some 28) r).put (some 1) (iZ z)) a w)(k:∀z p q r,C z->y.wp P Q ((((a.put (some 26) p).put (some 27) q).put (some 28) r).put (some 1) (iZ z)) w):c.wp P (Exit.then (y.wp P Q) Q) a w:=
 wp_mono h λe b w' ⟨g,i,z,p,q,r,f,d⟩=>by
  subst g i d;exact k z p q r f
theorem Ho(C:Nat->Prop)(h:c.wp P (λe b w'=>e=.normal/\w'=w/\∃x p q r s u,C x/\b=(((((a.put (some 34) p).put (some 35) q).put (some 36) r).put (some 37) s).put (some 38) u).put (some 0) (uZ ((x:Nat):Int))) a w)(k:∀x p q r s u,C x->y.wp P Q ((((((a.put (some 34) p).put (some 35) q).put (some 36) r).put (some 37) s).put (some 38) u).put (some 0) (uZ ((x:Nat):Int))) w):c.wp P (Exit.then (y.wp P Q) Q) a w:=
 wp_mono h λe b w' ⟨g,i,x,p,q,r,s,u,f,d⟩=>by
  subst g i d;exact k x p q r s u f
theorem Hp(C:Nat->Prop)(h:c.wp P (λe b w'=>e=.normal/\w'=w/\∃n p q r,C n/\b=(((a.put (some 29) p).put (some 30) q).put (some 31) r).put (some 9) (iZ ((n:Nat):Int))) a w)(k:∀n p q r,C n->y.wp P Q ((((a.put (some 29) p).put (some 30) q).put (some 31) r).put (some 9) (iZ ((n:Nat):Int))) w):c.wp P (Exit.then (y.wp P Q) Q) a w:=
 wp_mono h λe b w' ⟨g,i,z,p,q,r,f,d⟩=>by
  subst g i d;exact k z p q r f
theorem wM(x n:Nat)(hx:x<18446744073709551616)(k:n<64):(yB9 .and .u64 (x:Int) ((2^n-1:Nat):Int)).run P w=.ok (uZ ((x%2^n:Nat):Int)) w:=by
 have e:yB9 .and .u64 (x:Int) ((2^n-1:Nat):Int)=pure (uZ (Vn.wrap ((Xa 64 (x:Int) &&& Xa 64 ((2^n-1:Nat):Int)).toNat:Int))):=rfl;rw[e,MB x n hx k,wrapN _ (Nat.lt_of_le_of_lt (Nat.mod_le _ _) hx)];rfl
end
theorem RdB.below{t:Nat}{BB:List Bs}{e:Us}{W W':Uq}(h:RdB t BB e W)(k:kZ W W'):RdB t BB e W':=by
 obtain⟨p,g,c,o,v1,v2,m,i,f⟩:=h.ex;refine⟨p,g,c,o,v1.below k,v2.below k,m,i,λj d=>?_⟩;obtain⟨u,b,q,l,n⟩:=f j d;exact⟨u,b,q,l,n.below k⟩
theorem RdB.cl{t:Nat}{BB:List Bs}{e:Us}{W:Uq}(h:RdB t BB e W):∃cs:List Us,Hid (.agg cs.toArray=e)/\cs.length=11/\cs.toArray.all (·.oneCell')=true:=by
 obtain⟨p,b,k,rfl,-⟩:=h.ex;exact⟨p.cs,rfl,rfl,by simp only[Ya,Rg.cs,rgC,Sv.v,Zt,ZK];rfl⟩
theorem RgA.cl{k t:Nat}{p:Rp}{d Rb:Nat->Bs}{l i:Bs}{e:Us}{W:Uq}(h:RgA k t p d Rb l i e W)(f:0<t):∃cs:List Us,Hid (.agg cs.toArray=e)/\cs.length=11/\cs.toArray.all (·.oneCell')=true/\∃q c,cs[0]? = some (.slice q 33 c):=by
 obtain⟨q,b,g,n,m,rfl,-,-,j,-⟩:=h.rg f;exact⟨q.cs,rfl,rfl,by simp only[Ya,Rg.cs,rgC,Sv.v,Zt,ZK];rfl,q.a.q,q.a.c,by rw[<-j];rfl⟩
theorem LM{P:VC}{w:Uq}(x m:Nat)(k:m<=64):(Op.shift .shr .u64 (x:Int) .i64 (m:Int)).run P w=.ok (uZ ((x/2^m:Nat):Int)) w:=by
 have e:(x:Int).fdiv (2^min (m:Int).toNat 64)=((x/2^m:Nat):Int):=by
  rw[Int.toNat_natCast,yBo k,Int.fdiv_eq_ediv_of_nonneg _ (Int.pow_nonneg dC)];simp
 unfold Op.shift;rw[yCk oM];show(pure (uZ ((x:Int).fdiv (2^min (m:Int).toNat 64))):Sem Us).run P w=_;rw[e];rfl
theorem TT(k j:Nat)(b:j<32)(w:Uq):(Vk 23 (sZ k 32 32) (iZ j)).run prog w=.ok (oZ k j) w:=by
 have d:¬(j:Int)<0:=oM;have c:(j:Int)<32:=oM;go_simp
theorem uSb:(prog.underlying 23).map (·.isRow)=some false:=kR
theorem Ov(s sd:ByteArray)(l:Nat)(p:l<18446744073709551616)(z0:Int)(k8:-9223372036854775808<=z0)(T:z0<=9223372036854775807)(w:Uq)(hK:∀n t x,Wd n t->x<2^n->TrK (nmB s 0) (fnB (sdF sd)).toList n t x):
 UG prog 4 #[uZ l,iZ z0,.string s,.string sd] w (rZ w λe w'=>e=.bool true):=by
 have HK:=mk1 hK;clear hK;go_enter func4,ntmps4;refine Uy ?_;refine PW.begin ?_;refine PW.va (.bool false) ?_;refine PW.dn ?_;refine Uy ?_;refine Uy ?_;refine PW.begin ?_;refine PW.mv ?_;refine PW.va (.bool (decide (z0<0))) ?_;refine PW.dn ?_;refine Hn (λz=>¬z<0/\z<=9223372036854775807) ?_ ?_
 ·by_cases hz:z0<0
  ·rw[decide_eq_true hz];go_wp2;omega
  ·rw[decide_eq_false hz];go_wp2
 clear k8 T;rintro z kh kn kd ⟨hz,T⟩;simp only[UM,Ur,Ut,Uu];obtain⟨t,k5,A,-,ht⟩:=wd4 z hz;have hw:Wd (2^t) t:=⟨rfl,k5,A⟩
 obtain⟨n,hn⟩:=hE (2^t);rw[hn.out]at ht hw;refine Uy ?_;refine Hp (λm=>m=n) ?_ ?_
 ·go_wp2
 clear ht hz T;intro m km kp ke hm;rw[hm];clear hm m;simp only[UM,Ur,Ut,Uu];refine Uy ?_;refine Uy ?_;refine PW.begin ?_;refine PW.mv ?_;refine PW.va (.bool (decide ((n:Int)<64))) ?_;refine PW.dn ?_;refine Ho (λx=>x<2^n) ?_ ?_
 ·rcases(show t=3\/t=4\/t=5\/t=6 by omega)with rfl|rfl|rfl|rfl
  ·obtain rfl:n=8:=hn.out.symm;refine VD rfl ?_;refine PW.begin ?_;refine PW.mv ?_;refine PW.mv ?_;refine PW.va (uZ 256) ?_;refine PW.va (uZ 255) ?_;refine PW.ns (wM l 8 p dC) ?_;refine PW.va (uZ ((l%2^8:Nat):Int)) ?_;refine PW.dn ?_;exact⟨rfl,rfl,l%2^8,_,_,_,_,_,V4 _ dC,rfl⟩
  ·obtain rfl:n=16:=hn.out.symm;refine VD rfl ?_;refine PW.begin ?_;refine PW.mv ?_;refine PW.mv ?_;refine PW.va (uZ 65536) ?_;refine PW.va (uZ 65535) ?_;refine PW.ns (wM l 16 p dC) ?_;refine PW.va (uZ ((l%2^16:Nat):Int)) ?_;refine PW.dn ?_;exact⟨rfl,rfl,l%2^16,_,_,_,_,_,V4 _ dC,rfl⟩
  ·obtain rfl:n=32:=hn.out.symm;refine VD rfl ?_;refine PW.begin ?_;refine PW.mv ?_;refine PW.mv ?_;refine PW.va (uZ 4294967296) ?_;refine PW.va (uZ 4294967295) ?_;refine PW.ns (wM l 32 p dC) ?_;refine PW.va (uZ ((l%2^32:Nat):Int)) ?_;refine PW.dn ?_;exact⟨rfl,rfl,l%2^32,_,_,_,_,_,V4 _ dC,rfl⟩
  ·obtain rfl:n=64:=hn.out.symm;refine VH rfl ?_;refine WR ?_;exact⟨rfl,rfl,l,_,_,_,_,_,p,rfl⟩
 clear p hn;intro x kk kj kr ki kf hx;simp only[UM,Ur,Ut,Uu];have hu:n<=64:=by rw[hw.1];exact UB (Vz dC hw.2.2) dC
 have k3:x<18446744073709551616:=Uw hx (UB (Vz dC hu) dC);obtain⟨V,pz,Lb,Rb,Ab,Bb,hC,hP,hV⟩:=HK.out n t x hw hx;have HC:=mk3 hC hP hV;clear hC hP hV HK hx hw hu;refine Uy ?_;refine PW.begin ?_;refine PW.mv ?_;refine PW.ca (Rj s 0 w) ?_;rintro x1 r ⟨Y,hg⟩;simp only[UM,Ur,Ut,Uu];refine PW.va x1 ?_;refine PW.dn ?_;refine hG r.heap.size λo f=>?_
 refine hG (r.alloc (.cells (madeCells #[.int .u8 0] 32) 5)) λW2 hp=>?_
 have m2:=Rx r;have g:Holds encB (r.alloc (.cells (madeCells #[.int .u8 0] 32) 5)) r.heap.size 0 (UI 32 0):=SP.Holds.made (enc:=encB) r 5 32 0;have b2:=aC r (.cells (madeCells #[.int .u8 0] 32) 5);have s2:r.heap.size<(r.alloc (.cells (madeCells #[.int .u8 0] 32) 5)).heap.size:=by rw[UA];exact YG _
 rw[hp.out]at m2 g b2 s2;rw[f.out]at m2 g;refine Uy ?_;refine PW.begin ?_;refine PW.ns m2 ?_;refine PW.va (sZ o 32 32) ?_;refine PW.dn ?_;clear m2;have cp:=Ag (P:=prog) W2 23 9 3 5 o 0 32 32 sd SP.slice22 SP.size5 (λj hj=>by rw[(g j (by rw[UO];exact hj)).1];rfl) (λj hj=>(g j (by rw[UO];exact hj)).2);have Q:=sd_holds sd g;refine hG (W2.setCells o 0 ((sd.data.toList.take 32).map λx=>VY .u8 (x.toNat:Int))) λb D=>?_
 have b3:kZ r b:=by rw[<-D.out];exact RG.below_setCells (by rw[f.out];exact Uv _) _ _ _ b2
 have s3:o<b.heap.size:=by rw[<-D.out,setCells_size,<-f.out];exact s2
 rw[D.out]at cp Q;refine Uy ?_;refine PW.begin ?_;refine PW.mv ?_;refine PW.mv ?_;refine PW.ns cp ?_;refine PW.dn ?_;clear cp g;have aK:=hg.argS.below b3;have pK:=qX Q (bJ _);have ha:=Y.trans (b3.mono Y.size);have A3:=mk3 aK pK ha;clear aK pK ha hg Y b2 b3 s2 s3 Q f hp D;refine hG b.heap.size λk u=>?_
 refine hG (b.alloc (.cells (madeCells #[.int .u8 0] 32) 5)) λW4 hs=>?_
 have m4:=Rx b;have F:Holds encB (b.alloc (.cells (madeCells #[.int .u8 0] 32) 5)) b.heap.size 0 (UI 32 0):=SP.Holds.made (enc:=encB) b 5 32 0;have b4:=aC b (.cells (madeCells #[.int .u8 0] 32) 5);have s4:b.heap.size<(b.alloc (.cells (madeCells #[.int .u8 0] 32) 5)).heap.size:=by rw[UA];exact YG _
 rw[hs.out]at m4 F b4 s4;rw[u.out]at m4 F;refine Uy ?_;refine PW.begin ?_;refine PW.ns m4 ?_;refine PW.va (sZ k 32 32) ?_;refine PW.dn ?_;have K0:Hid (kZ b W4/\k<W4.heap.size/\Holds encB W4 k 0 (fnB (vbF x 0))):=⟨b4,by rw[<-u.out];exact s4,by rw[KW];exact F⟩
 clear m4 F b4 s4 hs;refine Uy ?_;refine Uy ?_;refine PW.begin ?_;refine PW.va (iZ 0) ?_;refine PW.dn ?_;refine wp_block ?_;go_loopg [13] 8 (λgk s13 wr=>∃i:Nat,i+gk=8/\s13=iZ i/\Hid (kZ b wr/\k<wr.heap.size/\Holds encB wr k 0 (fnB (vbF x i))))
 case atStart=>exact⟨0,oM,rfl,K0⟩
 case round =>
  clear K0;obtain⟨i,k7,rfl,U⟩:=hrel;by_cases hi:i<8
  ·have C:(i:Int)<8:=oM;have a:VR.wrap (31-(i:Int))=((31-i:Nat):Int):=by rw[Yj];omega
   have d:VR.wrap (8*(i:Int))=((8*i:Nat):Int):=by rw[Yj];omega
   have v:VR.wrap ((i:Int)+1)=((i+1:Nat):Int):=by rw[Yj];omega
   have y:=TT k (31-i) oM wr;have q:=LM (P:=prog) (w:=wr) x (8*i) oM;have th:wr.there k (31-i) 1:=λj hj=>by
    obtain rfl:j=0:=oM;have:=U.out.2.2 (31-i) (by rw[bJ];omega);rw[UC]at this;exact⟨by rw[XA,this.1];rfl,this.2⟩
   refine hG (wr.setCells k (31-i) [.int .u8 (Xx.wrap ((x/2^(8*i):Nat):Int))]) λB c=>?_
   have E:Hid (kZ b B/\k<B.heap.size/\Holds encB B k 0 (fnB (vbF x (i+1)))):=by
    rw[<-c.out];exact⟨RG.below_setCells (by rw[u.out];exact Uv _) _ _ _ U.out.1,by rw[setCells_size];exact U.out.2.1,KX hi U.out.2.2⟩
   clear U;refine Uy ?_;refine Uy ?_;refine PW.begin ?_;refine PW.mv ?_;refine PW.va (.bool (decide ((i:Int)<8))) ?_;rw[decide_eq_true C];refine PW.dn ?_;refine VD rfl ?_;refine WR ?_;refine Uy ?_;refine wp_block ?_;refine PW.begin ?_;refine PW.mv ?_;refine PW.mv ?_;refine PW.va (iZ (VR.wrap (31-(i:Int)))) ?_;rw[a];refine PW.mv ?_;refine PW.mv ?_;refine PW.va (iZ (VR.wrap (8*(i:Int)))) ?_;rw[d];refine PW.ns q ?_;refine PW.va (.int .u8 (Xx.wrap ((x/2^(8*i):Nat):Int))) ?_;refine PW.ns y ?_;refine fV rfl 5 _ _ rfl k (31-i) (.int .u8 (Xx.wrap ((x/2^(8*i):Nat):Int))) rfl rfl rfl rfl th iU8 ?_;rw[c.out];refine PW.dn ?_;refine PW.begin ?_;refine PW.mv ?_;refine PW.va (iZ (VR.wrap ((i:Int)+1))) ?_;rw[v];go_wp2;go_roundg (gk-1)
   case measure=>omega
   case rel=>exact⟨i+1,oM,rfl,E⟩
  ·have C:¬(i:Int)<8:=oM;refine Uy ?_;refine Uy ?_;refine PW.begin ?_;refine PW.mv ?_;refine PW.va (.bool (decide ((i:Int)<8))) ?_;rw[decide_eq_false C];refine PW.dn ?_;refine VH rfl ?_;refine wp_exit ?_;have h0:0<t:=oM;have S:Hid (Arg wr (sZ k 32 32) (bx x)/\Arg wr x1 (nmB s 0)/\PartOk wr (sZ o 32 32) (fnB (sdF sd)).toList/\kZ w wr):=by
    obtain⟨c,q,d⟩:=U.out;rw[show i=8 by omega,Qv x k3]at d;exact⟨⟨_,32,32,rfl,eE _,λ_=>⟨k,0,rfl,Uv _,q,d⟩⟩,A3.out.1.below c,A3.out.2.1.below c,A3.out.2.2.trans (c.mono A3.out.2.2.size)⟩
   clear U A3 k7 hi C;refine Uy (P:=prog) ?_;refine PW.begin ?_;refine PW.mv ?_;refine PW.mv ?_;refine PW.ca (HC.out.1 _ _ wr S.out.1 S.out.2.1) ?_;rintro e W6 ⟨B,hy,hl,rfl,k0⟩;simp only[UM,Ur,Ut,Uu];refine PW.mv ?_;refine PW.va (sZ hy 33 hl) ?_;refine PW.va (iZ 0) ?_;refine PW.va (sZ hy 33 hl) ?_;refine PW.va (iZ 0) ?_;refine PW.dn ?_;have A6:=mk3 (S.out.2.1.below B) (S.out.2.2.1.below B) (S.out.2.2.2.trans (B.mono S.out.2.2.2.size));clear S;refine Uy ?_;refine PW.begin ?_;refine PW.mv ?_;refine PW.mv ?_;refine PW.mv ?_;refine PW.mv ?_;refine PW.ca (HC.out.2.1 _ _ _ W6 A6.out.1 A6.out.2.1) ?_;rintro e W7 ⟨Z,e7,B0,rfl,-,hR⟩;simp only[UM,Ur,Ut,Uu];obtain⟨cs,H,h5,kb,q0,c0,ka⟩:=hR.cl h0;have a7:=k0.below Z;have B7:=mk1 (A6.out.2.2.trans (Z.mono A6.out.2.2.size));clear A6 B Z k0;refine hG W7.heap.size λhb K=>?_
   refine hG (W7.alloc (.cells z11.toArray 28)) λW8 R=>?_
   refine hG (W8.setCells hb 0 cs) λW9 X=>?_
   have K8:=mk1 ((Mp.start W7).new K R);have K9:=mk1 (K8.out.put 0 X rfl (by rw[h5];rfl));have a:(prog.info? 28).map (·.size)=some cs.length:=by rw[h5];exact iAr
   refine PW.mv ?_;refine PW.va e7 ?_;refine PW.va (iZ 0) ?_;refine PW.al K R ?_;refine PW.st X H (K8.out.th 0 rfl (by rw[h5];rfl)) a kb ?_;refine PW.va (iZ 0) ?_;refine PW.dn ?_;refine Uy ?_;refine PW.begin ?_;refine PW.mv ?_;refine PW.mv ?_;refine PW.ro (K9.out.at_ 0).2.1 H uAr a ?_;refine PW.gi (HC.out.2.2 B0 e7 _ W9 (a7.below K9.out.bl) (hR.below K9.out.bl)) λkg M=>?_
   have E:=mk1 (K9.out.grow M);clear K8 K9 M HC a7 R X;refine PW.va (.bool true) ?_;refine PW.dn ?_;have y:=hR.below E.out.bl;refine Uy ?_;refine PW.begin ?_;refine PW.ro (E.out.at_ 0).2.1 H uAr a ?_;refine PW.ca (y.put h0 A) ?_;rintro e k4 ⟨J,kl,rfl,hpt,h6,h4,rfl,L⟩;have W:=IE (y.good A) k4 h6 h4 hpt L;generalize V2 (eU t (rgB t pz Lb Rb Ab Bb) (t+t+9))=h9 at W;clear hpt L y;have k1:=mk1 (E.out.grow J);clear E J;simp only[UM,Ur,Ut,Uu];refine PW.mv ?_;refine PW.va (sZ h6 h9 h4) ?_;refine PW.va (iZ 0) ?_;refine PW.va (sZ h6 h9 h4) ?_;refine PW.va (iZ 0) ?_;refine PW.dn ?_;refine Uy ?_;refine PW.begin ?_;refine PW.mv ?_;refine PW.ca W ?_;rintro e O ⟨I,k6,rfl,hD⟩;simp only[UM,Ur,Ut,Uu];have hr:=mk1 (k1.out.grow I);clear k1 I W;obtain⟨ds,hc,G,kc⟩:=hD.cl;refine hG O.heap.size λk2 v=>?_
   refine hG (O.alloc (.cells z11.toArray 28)) λk9 d=>?_
   refine hG (k9.setCells k2 0 ds) λkt c=>?_
   have h7:=mk1 (hr.out.new v d);have q:=mk1 (h7.out.put 1 c rfl (by rw[G];rfl));have hk:(prog.info? 28).map (·.size)=some ds.length:=by rw[G];exact iAr
   have h8:=hD.below ((((Mp.start O).new v d).put 0 c rfl (by rw[G];rfl)).bl);refine PW.mv ?_;refine PW.va k6 ?_;refine PW.va (iZ 0) ?_;refine PW.al v d ?_;refine PW.st c hc (h7.out.th 1 rfl (by rw[G];rfl)) hk kc ?_;refine PW.va (iZ 0) ?_;refine PW.dn ?_;have hq:=(hR.below q.out.bl).same h0 A h8;clear hr h7 hD h8 hR d c;refine Uy ?_;refine PW.begin ?_;refine PW.ro (q.out.at_ 0).2.1 H uAr a ?_;refine PW.ro (q.out.at_ 1).2.1 hc uAr hk ?_;refine PW.ca hq ?_;rintro e ko ⟨rfl,N⟩;have he:=mk1 (q.out.grow N);clear q N hq;simp only[UM,Ur,Ut,Uu];refine PW.va (.bool true) ?_;refine PW.dn ?_;refine Uy ?_;refine PW.begin ?_;refine PW.mv ?_;refine PW.va (.bool true) ?_;refine PW.mv ?_;refine PW.gd ?_;refine PW.mv ?_;refine PW.gd ?_;refine PW.va (.bool true) ?_;refine PW.va (.bool true) ?_;refine PW.mv ?_;refine PW.gd ?_;refine PW.mv ?_;refine PW.gd ?_;refine PW.va (.bool true) ?_;refine PW.va (.bool true) ?_;refine PW.mv ?_;refine PW.gd ?_;refine PW.mv ?_;refine PW.gd ?_;refine PW.va (.bool true) ?_;refine PW.va (.bool true) ?_;refine PW.mv ?_;refine PW.gd ?_;refine PW.va (jZ hb) ?_;refine PW.gd ?_;refine PW.ce ((he.out.at_ 0).2.1 0 _ ka) uSb ?_;refine PW.gd ?_;refine PW.va (iZ 33) ?_;refine PW.gd ?_;refine PW.va (.bool true) ?_;refine PW.va (.bool true) ?_;refine PW.mv ?_;refine PW.gd ?_;refine PW.mv ?_;refine PW.va (.bool true) ?_;refine PW.mv ?_;refine PW.gd ?_;refine PW.mv ?_;refine PW.va (.bool true) ?_;refine PW.va (.bool true) ?_;refine PW.dn ?_;go_wp2;go_ret;exact⟨_,rfl,B7.out.trans (he.out.bl.mono B7.out.size),rfl⟩
end
section
variable {P:Nat}[NeZero P]{N:Nat}
theorem fld:∃(P:Nat) (_:NeZero P),Fld P:=by
 obtain⟨P,i,f,g⟩:=cur;have j:P=Go.Proofs.YtdoammpgchejcaaGreat.p0:=by rw[f];decide +kernel
 have d:=T0;have b:2<=Go.Proofs.YtdoammpgchejcaaGreat.p0%18446744073709551616:=by decide +kernel
 have c:Go.Proofs.YtdoammpgchejcaaGreat.p0/4%18446744073709551616<18446744073709551615:=by decide +kernel
 have k:Go.Proofs.YtdoammpgchejcaaGreat.p0%4=3:=by decide +kernel
 have e:7<Go.Proofs.YtdoammpgchejcaaGreat.p0:=by decide +kernel
 rw[<-j]at d b c k e;exact⟨P,i,⟨d,g,b,c,k,e⟩⟩
end
namespace EC
variable {P:Nat}[NeZero P]
def fo{α:Type}(x:Fin P)(f:Fin P->α):α:=
 match x.val with
 | 0=>f (Xg P 0)
 | n+1=>f (Xg P (n+1))
theorem Sg{α:Type}(x:Fin P)(f:Fin P->α):fo x f=f x:=by
 have hx:Xg P x.val=x:=Fin.ext (UR x.isLt);unfold fo;split
 ·next h=>rw[h]at hx;rw[hx]
 ·next n h=>rw[h]at hx;rw[hx]
def runs(u v:Fin P)(e:Nat):Nat->Fin P->Fin P->Fin P->Bool
 | 0,_,_,z=>decide (z=0)
 | k+1,x,y,z=>fo (twX x y) λX=>fo (twY x y) λY=>fo (twZ y z) λZ =>
  if e/2^k%2=1 then
   if Z=0 then false else
   fo (cN X 1) λd=>fo (eK Y 1) λg=>fo (cN u Z) λbx=>fo (eK v Z) λf =>
   if d=bx/\g=f then false else
   fo (plX d g bx f) λa=>fo (plY d g bx f) λb=>fo (plZ Z 1 d bx) λc=>runs u v e k a b c
  else runs u v e k X Y Z
theorem DC(C:Cur P):(1:Fin P)≠0:=λh=>C.two (by
 calc (2:Fin P)=2*1:=by grobner
  _=0:=by rw[h];grobner)
theorem AK(C:Cur P){u v:Fin P}(c:On (some (u,v)))(e:Nat):∀(k m:Nat) (x y z:Fin P),Jac x y z (mul m (some (u,v)))->runs u v e k x y z=true->mul (m*2^k+e%2^k) (some (u,v))=none
 | 0,m,x,y,z,hj,h=>by
  have b:=of_decide_eq_true h;rw[Nat.pow_zero,yAW,Nat.mul_one,XA];exact hj.zero C b
 | k+1,m,x,y,z,hj,h=>by
  have p:=cG C c m;have l:=hj.twice C p;rw[<-mul_add C c]at l;have n:e%2^(k+1)=e/2^k%2*2^k+e%2^k:=by
   rw[V6,Nat.mod_mul,Vu (2^k) (e/2^k%2),Nat.add_comm]
  have o:2^(k+1)=2*2^k:=by rw[V6,Vu]
  unfold runs at h;simp only[Sg]at h;by_cases b:e/2^k%2=1
  ·rw[yCj b]at h;by_cases j:twZ y z=0
   ·rw[yCj j]at h;cases h
   ·rw[yCk j]at h;have d:Jac u v 1 (some (u,v)):=⟨DC C,by grobner,by grobner⟩
    rcases l.plus C (cG C c _) d c j (DC C)with⟨i,f,-⟩|⟨i,f⟩
    ·rw[yCj ⟨i,f⟩]at h;cases h
    ·rw[yCk i]at h;have g:=AK C c e k (m+m+1) _ _ _ f h;rw[n,b,o];rw[show m*(2*2^k)+(1*2^k+e%2^k)=(m+m+1)*2^k+e%2^k by
      rw[XE,XE,<-X0,Vu m 2,yBS,XE];omega]
     exact g
  ·rw[yCk b]at h;have d:e/2^k%2=0:=oM;have g:=AK C c e k (m+m) _ _ _ l h;rw[n,d,o];rw[show m*(2*2^k)+(0*2^k+e%2^k)=(m+m)*2^k+e%2^k by
    rw[<-X0,Vu m 2,yBS];omega]
   exact g
def pL:Nat:=115792089237316195423570985008687907853269984665640564039457584007908834671663
def nL:Nat:=115792089237316195423570985008687907852837564279074904382605163141518161494337
instance:NeZero pL:=⟨dK⟩
theorem OO:runs (P:=pL) (Xg pL 55066263022277343669578718895168534326250603453777594175500187360389116729240) (Xg pL 32670510020758816978083085130507043184471273380659243275938904335757337482424) nL 255 (Xg pL 55066263022277343669578718895168534326250603453777594175500187360389116729240) (Xg pL 32670510020758816978083085130507043184471273380659243275938904335757337482424) 1=true:=dK
theorem LD:2*pL+1<3*nL:=dK
theorem Pw:1*2^255+nL%2^255=nL:=dK
theorem order(C:Cur P)(b:P=pL)(k:On (some (Xg P 55066263022277343669578718895168534326250603453777594175500187360389116729240,Xg P 32670510020758816978083085130507043184471273380659243275938904335757337482424))){r:Pt P}(c:On r):mul nL r=none:=by
 subst b;refine IR C (n:=nL) NT.pN LD k (λh=>by cases h) ?_ c;have h:=AK C k nL 255 1 _ _ 1 (by
  show Jac _ _ 1 (add none _);rw[jJ];exact⟨DC C,by grobner,by grobner⟩) OO
 rwa[Pw]at h
end EC
section
theorem IL:Go.Proofs.YtdoammpgchejcaaGreat.p1=nL:=dK
variable {P:Nat}[NeZero P]
theorem order2(C:Fld P)(r:EC.Pt P)(k:On r):mul Go.Proofs.YtdoammpgchejcaaGreat.p1 r=none:=by
 rw[IL];have b:P=EC.pL:=by
  rw[C.eq];rfl
 exact order C.cur b (Cr C) k
end
section
open SPA
variable {P:Nat}[NeZero P]{N:Nat}
theorem Rh:Ord Go.Proofs.YtdoammpgchejcaaGreat.p1:=⟨TZ,QV,dK,dK⟩
theorem Mc:IsP Go.Proofs.YtdoammpgchejcaaGreat.p1:=by
 rw[IL];exact NT.pN
theorem H8(x:Int)(f:0<=x)(hx:x<18446744073709551616)(z:Int)(b:-9223372036854775808<=z)(k:z<=9223372036854775807)(s c:ByteArray)(w:Uq):
 UG prog 4 #[uZ x,iZ z,.string s,.string c] w λe w'=>e=.returned (.bool true)/\kZ w w':=by
 obtain⟨P,i,C⟩:=fld;have g:NeZero Go.Proofs.YtdoammpgchejcaaGreat.p1:=⟨dK⟩
 obtain⟨n,rfl⟩:=Int.eq_ofNat_of_zero_le f;refine(Ov s c n oM z b k w λm t v d hv=>trk C Rh (order2 C) Mc dK s _ d v hv).mono ?_;rintro e w' ⟨v,rfl,h,rfl⟩;exact⟨rfl,h⟩
end
/-
  THE ROW OF 'SpanTrue' round its walk; the frame by the guide's program (howto/shells), the world behind the call told by 'Below'.
-/
namespace spanTrue
open Go.ChangeShapes Go.WideShapes Go.ChangeAt
open Go.ChangeMaps (open_string shut_string)
theorem own:ownKnob prog.godebug=none:=by kernel_rfl
theorem lifted(y:Os)(c:y.Started)(H:Type)(enc:U7 × Us->H):
 ReturnsInHanded {} Tryz.checked y 4 .any (Rows.spanTrueSpec.pre6 enc prog Tryz.f4 Rows.spanTrueRow.domain false) (Rows.spanTrueSpec.post enc prog Tryz.f4 false true false false):=by
 refine returnsInHanded_of_change (C:=Tryz.checked) own c (by kernel_rfl) func4
  (ChangeSpec.witness6 (enc:=enc) (C:=Tryz.checked) false ⟨#[],#[uZ 0,iZ 0,.string yAs,.string yAs],[]⟩ 8 (by kernel_rfl) (by kernel_rfl) (by kernel_rfl) (by kernel_rfl)) ?_
 intro W g args B gs i b u x _;have k:∀(j:Nat) t v,Tryz.f4.params[j]? = some t->args[j]? = some v->Value.okWide prog W .any g t v:=b;have l:=u;obtain⟨p,q,d,O,rfl,M,I⟩:=u;have s:DataW.TrodAll enc prog W 0 (λ_=>true) true Tryz.f4.params.toList args.toList B p:=d;rw[params4]at s k;obtain⟨v0,S,d0,R,p0,q0,m,rfl,rfl,D,N⟩:=trodAll_cons s;obtain⟨v1,F,d1,J,p1,Z,rfl,rfl,rfl,Y,z⟩:=trodAll_cons N;obtain⟨v2,K,d2,L,p2,q2,rfl,rfl,rfl,P,T⟩:=trodAll_cons z;obtain⟨o,V,d3,U,p3,q3,rfl,rfl,rfl,Q,X⟩:=trodAll_cons T;obtain⟨rfl,rfl,rfl⟩:=trodAll_nil X;obtain rfl:args=#[v0,v1,v2,o]:=by cases args;simp_all
 obtain⟨rfl,rfl⟩:=trodVars_none O;obtain⟨a0,rfl,rfl,rfl,w⟩:=open_int underlying22 (k 0 22 v0 rfl rfl) D;obtain⟨n,rfl,rfl,rfl,r⟩:=open_int underlying3 (k 1 3 v1 rfl rfl) Y;obtain⟨a2,rfl,rfl,rfl,E⟩:=open_string underlying9 (k 2 9 v2 rfl rfl) P;obtain⟨a,rfl,rfl,rfl,G⟩:=open_string underlying9 (k 3 9 o rfl rfl) Q;clear d b;have f:-9223372036854775808<=n/\n<=9223372036854775807:=by
  have h:=r;have e:VR.min = -9223372036854775808:=by decide
  have e':VR.max=9223372036854775807:=by decide
  simp[Lit.wf,e,e']at h;omega
 have hx:0<=a0/\a0<18446744073709551616:=by
  have h:=w;have e:Vn.min=0:=by decide
  have e':Vn.max=18446744073709551615:=by decide
  simp[Lit.wf,e,e']at h;omega
 refine(H8 a0 hx.1 hx.2 n f.1 f.2 a2 a W).mono λe W' ⟨A,bel⟩=>?_
 subst A;exact⟨_,rfl,_,_,_,[],_,[],l,YK (shut_bool underlying4 _) trodAll_mk0,YK (shut_int underlying22 w) (YK (shut_int underlying3 r) (YK (shut_string underlying9 E) (YK (shut_string underlying9 G) trodAll_mk0))),rfl,bel.frame _,λh=>by cases h⟩
theorem over:Rows.spanTrueRow.holds Tryz.pinned (OpenSpec.ofChange Rows.spanTrueSpec):=
 OpenClaim.holds_of_wide 4 Tryz.f4 rfl rfl rfl rfl rfl rfl rfl ⟨rfl,rfl,rfl,rfl,rfl⟩ rfl rfl rfl rfl rfl (by kernel_rfl) func4 (by kernel_rfl)
  (of_decide_eq_true (by kernel_rfl)) (by unfold Func.isWrapper;first|(rw[yCj (by decide +kernel)];kernel_rfl)|(rw[yCk (by decide +kernel)];exact⟨rfl,rfl⟩))
  (λb k H enc _=>lifted b k H enc)
theorem proved:Rows.SpanTrueSaid:=
 over
end spanTrue
section
theorem spanTrue_holds:Rows.SpanTrueSaid:=spanTrue.proved
#print axioms spanTrue_holds
end
end Go.Proofs.YtdoammpgchejcaaGreat
