import Derived.Deep.DeepCutAuto
import Derived.Deep.Upon
import Derived.Lib.LazyBuf
import Derived.ChangeOld
import Derived.Below
import Derived.WalkKit
import Derived.ProofKit
import Derived.OpenShut
import Derived.ShutString
import Derived.Test.YtdoammpgchejcaaGreatsz7
set_option linter.unusedVariables false
set_option linter.constructorNameAsVariable false
set_option linter.unusedSimpArgs false
set_option maxRecDepth 1000000
set_option maxHeartbeats 4000000
namespace Go.Proofs.YtdoammpgchejcaaGreat
open EC NT RG SP
open _root_.Array renaming ext'->yBR,getD_eq_getD_getElem?->UI,getElem?_push_size->WU,replicate->UJ,size->V3,size_append->VN,size_replicate->UP,toList_ofFn->Zu
open _root_.BitVec renaming ofInt->Xb,ofInt_natCast->Zc,toNat_ofNat->YE
open _root_.ByteArray renaming empty->yAs
open _root_.Fin renaming ofNat->Xh
open _root_.Go renaming Addr->Wu,Calls->UH,Oper->Vk,Program->VD,TypeId->U8,Value->Ut,World->Ur,bodyPost_ret->UE,execOp->U5,run_make_row'->yBE,trodAll_cons_mk->YK,undef->WP,wpList_load_mid->U6,wpList_store_mid->U2,wp_cond_false->VI,wp_cond_true->VE,wp_seq->Uz,wp_skip->WS
open _root_.Go.Act renaming put->UN
open _root_.Go.Builtin renaming copy_->XZ,firstCells->Zh
open _root_.Go.Instr renaming indexAt->Vl,sliceAt->Xn
open _root_.Go.IntKind renaming i64->VS,u64->Vo,u8->Xy,wrap_i64->Yj
open _root_.Go.Lib renaming size_eq->yB0,wpList_append_run->WI
open _root_.Go.Op renaming intBits->yB9
open _root_.Go.Oper renaming wp->VT
open _root_.Go.Region renaming wanted->V2
open _root_.Go.RowKit.Below renaming refl->UR
open _root_.Go.Sem renaming run_bind->UV
open _root_.Go.Value renaming int->VZ,ownBlock->V9
open _root_.Go.World renaming cell?->VY,cell?_setCell_other->UU,cell?_setCell_same->VV,frozen?->WW,heap_setCells_other->ZZ,size_alloc->UB,size_setCell->Yf
open _root_.List renaming all_cons->Zt,all_nil->ZK,all_toArray->Ya,append_assoc->Vx,getD_eq_getElem?_getD->VQ,getElem?_append_left->UT,getElem?_append_right->U1,getElem?_eq_getElem->UG,getElem?_eq_none->Wx,getElem?_eq_some_iff->UF,getElem?_map->Vz,getElem_map->Xd,getElem_take->yAQ,length_append->UA,length_cons->Vj,length_map->UQ,length_nil->WG,length_take->WF,map_append->We,mem_append->Wz,mem_cons->VX,mem_map->Vn,mem_of_getElem?->VJ,mem_replicate->Zo,not_mem_nil->UY,ofFn_succ->yBq,range->VG,replicate->VB,setIfInBounds_toArray->Us,set_cons_succ->Uu,set_cons_zero->Uv,sum_append->yBa,sum_cons->yBw,take_add_one->ZH,take_append_drop->Za,take_of_length_le->Y9,getElem?_toArray->Vg,getElem?_cons_succ->U9,getElem?_cons_zero->Vf,cons_append->Xa,nil_append->Xr
open _root_.Nat renaming add_assoc->WR,add_mul->XF,add_sub_cancel_left->WL,add_zero->XB,div_eq_of_lt->Xe,le_of_ble_eq_true->VR,le_refl->Uw,le_trans->UC,lt_of_lt_of_le->Ux,lt_of_succ_le->Xj,lt_succ_self->YG,min->XP,min_eq_left->yBo,mod_eq_of_lt->US,mod_lt->V5,mod_one->yAW,mul_assoc->X1,mul_comm->Vv,pow_le_pow_right->VA,pow_succ->V7,sub_self->YU,two_mul->yBS,zero_add->UD,zero_le->Wy
open _root_.Option renaming map->yBB,map_eq_some_iff->Uy,some->UO
open _root_.Or renaming inl->U4,inr->UX
open _root_.Prod renaming mk->V6
open _root_.UInt8 renaming ofNat->UM
open Go.Proofs.Tryz
open Go.RowKit Go.Sort Go.Deep
section
variable {P:Nat}[NeZero P]{N:Nat}
def Cor(W:Ur)(k:List (Wu × Nat))(us:List Ut):Prop:=k.length=us.length/\∀(j:Nat) x u,k[j]? = some x->us[j]? = some u->(∃b o,x.1=⟨b,o,none⟩)/\W.cell? x.1=some u
theorem Cor.app{W:Ur}{p1 p2:List (Wu × Nat)}{u1 u2:List Ut}(k:Cor W p1 u1)(c:Cor W p2 u2):Cor W (p1++p2) (u1++u2):=by
 refine⟨by rw[UA,UA,k.1,c.1],λj x u hx b=>?_⟩;by_cases d:j<p1.length
 ·rw[UT d]at hx;rw[UT (by rw[<-k.1];exact d)]at b;exact k.2 j x u hx b
 ·rw[U1 oM]at hx;rw[U1 (by rw[<-k.1];omega),<-k.1]at b;exact c.2 _ x u hx b
theorem Cor.lp{W:Ur}{s:Sv}{b o:Nat}{ys:List Ut}(h:VL W s.q s.n ys)(c:s.n=0\/s.q=some ⟨b,o,none⟩):Cor W (lp b o s.n) ys:=by
 refine⟨by rw[jK,h.len],λj x u hx e=>?_⟩;unfold Go.Proofs.YtdoammpgchejcaaGreat.lp at hx;rw[Vz]at hx;obtain⟨k,g,rfl⟩:=Uy.1 hx;have m:j<s.n:=by
  have:=(UF.1 g).1;simpa using this
 have f:j=k:=by
  have:=(UF.1 g).2;simpa using this
 subst f;refine⟨⟨_,_,rfl⟩,?_⟩;rcases h.cells with l|⟨p,n,d,-,i⟩
 ·rw[l]at e;cases e
 ·rcases c with c|c
  ·omega
  ·rw[c]at d;have d:=UO.inj d;injection d with e1 e2 _
   subst e1 e2;exact i j u e
def qY(p:Rg)(k b:List Ut):List Ut:=[p.a.v,p.b.v,p.c.v,p.d.v,p.e.v,p.f.v,p.g.v]++k++b++[p.x.v,p.y.v]
def fN(k d b n c or m:Nat):List (Wu × Nat):=tH k++lp d b n++lp c or m++endP k
theorem MP{W:Ur}{g l i m or:Nat}{p:Rg}{e d:List Ut}(f:W.rangeAt g 0 p.cs)(n:VL W p.l.q p.l.n e)(hR:VL W p.r.q p.r.n d)(o:p.l.n=0\/p.l.q=some ⟨l,i,none⟩)(q:p.r.n=0\/p.r.q=some ⟨m,or,none⟩):
 Cor W (fN g l i p.l.n m or p.r.n) (qY p e d):=by
 refine Cor.app (Cor.app (Cor.app ?_ (Cor.lp n o)) (Cor.lp hR q)) ?_
 ·refine⟨rfl,λj x u hx b=>?_⟩;have c:=f j u;rw[UD]at c;match j,hx,b with
  | 0,hx,b|1,hx,b|2,hx,b|3,hx,b|4,hx,b|5,hx,b|6,hx,b =>
   obtain rfl:=UO.inj hx;exact⟨⟨_,_,rfl⟩,c b⟩
  | k+7,hx,b=>cases hx
 ·refine⟨rfl,λj x u hx b=>?_⟩;match j,hx,b with
  | 0,hx,b =>
   obtain rfl:=UO.inj hx;exact⟨⟨_,_,rfl⟩,by have c:=f 9 u b;rw[UD]at c;exact c⟩
  | 1,hx,b =>
   obtain rfl:=UO.inj hx;exact⟨⟨_,_,rfl⟩,by have c:=f 10 u b;rw[UD]at c;exact c⟩
  | k+2,hx,b=>cases hx
def gZ(n m:Nat):List Nat:=[33,33,33,33,32,32,32]++VB n 33++VB m 33++[32,32]
theorem sK(c e k n d or m:Nat):(fN c e k n d or m).map (·.2)=gZ n m:=by
 have h:∀b o n,(lp b o n).map (·.2)=VB n 33:=λb o n=>by
  unfold lp;rw[List.map_map];exact List.ext_getElem (by simp) (λi g f=>by simp)
 unfold fN gZ;rw[We,We,We,h,h];rfl
theorem EO(n m:Nat):∀k∈gZ n m,k<=33:=by
 intro k b;unfold gZ at b;simp only[Wz,VX,UY,or_false,Zo]at b;omega
theorem kV(n m:Nat):(gZ n m).length=n+m+9:=by
 unfold gZ;simp only[UA,List.length_replicate,Vj,WG];omega
def PtB(W:Ur)(us:List Ut)(BB:List SP.Bs):Prop:=BB.length=us.length/\∀(j:Nat) u b,us[j]? = some u->BB[j]? = some b->Pt W u b
def eU(n:Nat)(BB:List SP.Bs)(i:Nat):SP.Bs:=(BB.take i).foldl (·++·) #[n.toUInt8]
theorem lE(n:Nat)(BB:List SP.Bs)(i:Nat)(b:SP.Bs)(h:BB[i]? = some b):eU n BB (i+1)=eU n BB i++b:=by
 unfold eU;rw[ZH,h];simp
def mM(n m:Nat)(BB:List SP.Bs):Prop:=n=m/\n<=6/\BB.map V3=gZ n m
def S5(w:Ur)(n m:Nat)(BB:List SP.Bs)(e:Ending)(W:Ur):Prop:=kZ w W/\((mM n m BB/\∃v,e=.returned (.tuple #[v,iZ 0])/\Pt W v (eU n BB (n+m+9))/\∃g c,v=sZ g (V3 (eU n BB (n+m+9))) c/\V3 (eU n BB (n+m+9))<=c)\/(¬mM n m BB/\e=.returned (.tuple #[.slice none 0 0,iZ 2])))
theorem PuI.cap{w d W:Ur}{e f:Nat}{v:Ut}{b:SP.Bs}(h:PuI w d W e f v b):∃g c,v=sZ g (V3 b) c/\V3 b<=c:=by
 rcases id h.ow with⟨i,⟨rfl,-⟩|⟨g,cap,cur,rfl,l,j,k,-⟩⟩
 ·exact absurd rfl h.nn
 ·exact⟨g,cap,rfl,k⟩
theorem PuI.pt{w o W:Ur}{i l:Nat}{v:Ut}{b:SP.Bs}(h:PuI w o W i l v b):Pt W v b:=by
 have k:=h.lt;rcases id h.ow with⟨t,⟨rfl,-⟩|⟨g,cap,cur,rfl,x,n,p,q,s,r⟩⟩
 ·exact absurd rfl h.nn
 ·obtain⟨u,d,e,-,m⟩:=k;injection e with e _ _
  injection e with e
  injection e with e _ _
  subst e;refine⟨_,_,rfl,UX ⟨g,0,rfl,m,λj c=>?_⟩⟩;have f:=h.ow.cells (g:=g) rfl j (SP.encB b[j]!) (by
   unfold bC;rw[Vz,UG (by simpa using c),Option.map_some,getElem!_pos b j c];simp)
  rw[lH,UD]at f;refine⟨by rw[UD];exact f,?_⟩;simp[WW,n]
theorem QC:(prog.underlying 112).map (·.isRow)=some true:=kR
theorem iPt:(prog.info? 112).map (·.size)=some 2:=kR
theorem NK(g n c i:Nat)(e:i<n)(w:Ur):(Vl 107 (sZ g n c) (iZ i)).run prog w=.ok (.pointer (some ⟨g,i*2,none⟩)) w:=by
 have d:¬(i:Int)<0:=oM;have b:(i:Int)<(n:Int):=oM;have k:=lH g 0 (i*2);rw[UD]at k;go_simp
theorem OL(p:Rg){L O S or:Nat}{G E:List Ut}{BB:List SP.Bs}(w:Ur)(hL:VL w p.l.q p.l.n G)(hR:VL w p.r.q p.r.n E)(hl:p.l.n=0\/p.l.q=some ⟨L,O,none⟩)(hr:p.r.n=0\/p.r.q=some ⟨S,or,none⟩)(hB:PtB w (qY p G E) BB)(n1:p.l.n<=1000)(n2:p.r.n<=1000):
 UH prog 13 #[.agg p.cs.toArray] w (S5 w p.l.n p.r.n BB):=by
 obtain⟨cs,r⟩:∃cs:List Ut,Hid (p.cs=cs):=⟨_,rfl⟩
 obtain⟨l,s⟩:∃l,Hid (w.alloc (.cells cs.toArray 28)=l):=⟨_,rfl⟩
 have e1:l.heap.size=w.heap.size+1:=by rw[<-s.out,UB]
 have b1:Below w.heap.size w l:=by rw[<-s.out];exact aO _ _
 have r1:l.rangeAt w.heap.size 0 cs:=by rw[<-s.out];exact eI w cs _
 have V:l.cell? ⟨w.heap.size,7,none⟩=some p.l.v:=by have:=r1 7 p.l.v (by rw[<-r.out];rfl);rw[UD]at this;exact this
 have U:l.cell? ⟨w.heap.size,8,none⟩=some p.r.v:=by have:=r1 8 p.r.v (by rw[<-r.out];rfl);rw[UD]at this;exact this
 obtain⟨F,a⟩:∃F,Hid (l.alloc (.cells #[.int .u8 (p.l.n:Int)] 5)=F):=⟨_,rfl⟩
 have b2:Below l.heap.size l F:=by rw[<-a.out];exact aO _ _
 have Z:F.heap.size=l.heap.size+1:=by rw[<-a.out,UB]
 have hP:Hid (UH prog 55 #[.pointer (some ⟨w.heap.size,0,none⟩)] F λe w'=>∃v,e=.returned v/\PLs F w' v (fN w.heap.size L O p.l.n S or p.r.n)):=
  zP w.heap.size p.l p.r L O S or F oM (by rw[b2.cell (p:=⟨w.heap.size,7,none⟩) (by show w.heap.size<_;omega)];exact V) (by rw[b2.cell (p:=⟨w.heap.size,8,none⟩) (by show w.heap.size<_;omega)];exact U) hl hr n1 n2
 have D:=Hid.mkP b1;have h1:=Hid.mkP b2;have Y:=Hid.mkP r1;have HE:Hid (l.heap.size=w.heap.size+1/\F.heap.size=l.heap.size+1):=⟨e1,Z⟩
 have HL:=Hid.mkP hL;have HR:=Hid.mkP hR;have Hl:=Hid.mkP hl;have Hr:=Hid.mkP hr;have HB:=Hid.mkP hB;have m:Hid ((qY p G E).length=p.l.n+p.r.n+9):=by
  show _=_;unfold qY;simp only[UA,hL.len,hR.len,Vj,WG];omega
 clear b1 b2 r1 e1 Z hL hR hl hr hB;rw[r.out];obtain⟨f,Q⟩:∃f,Hid (p.l.n=f):=⟨_,rfl⟩
 obtain⟨nr,N⟩:∃nr,Hid (p.r.n=nr):=⟨_,rfl⟩
 rw[show p.l.v=.slice p.l.q p.l.n p.l.c from rfl]at V;rw[show p.r.v=.slice p.r.q p.r.n p.r.c from rfl]at U;rw[Q.out,N.out]at hP m⊢;rw[Q.out]at V n1 a;rw[N.out]at U n2;generalize p.l.q=ql at V;generalize p.l.c=cl at V;generalize p.r.q=qr at U;generalize p.r.c=cr at U;go_enter func13,ntmps13;by_cases hg:f=nr
 ·subst hg;by_cases h6:f<=6
  ·have h9:¬(6:Int)<(f:Int):=oM;have hq:Xy.wrap (f:Int)=(f:Int):=by
    show((f:Int)%256)=_;omega
   go_wp2_with (first|(refine aY (v:=.pointer (some ⟨w.heap.size,0,none⟩)) (w':=l) rfl (.box 28 (.tmp 0)) rfl ?_ ?_;(rw[<-s.out,<-r.out];kernel_rfl))|(refine aY (v:=.slice (some ⟨l.heap.size,0,none⟩) 1 1) (w':=F) rfl (.buildSlice 23 1 #[(0,.tmp 23)]) rfl ?_ ?_;(rw[<-a.out];kernel_rfl))|fail)
   refine hP.out.mono ?_;rintro e T ⟨v3,rfl,P⟩;obtain⟨J,h0,rfl,h7,he⟩:=P.lt;have hM:(fN w.heap.size L O f S or f).length=f+f+9:=by
    rw[<-kV f f,<-sK w.heap.size L O f S or f,UQ]
   have I0:Hid (PuI w T T w.heap.size J (.slice (some ⟨l.heap.size,0,none⟩) 1 1) (eU f BB 0)):=by
    obtain⟨z1,z2⟩:=HE.out;have o:=P.bl.size;refine⟨D.out.trans ((h1.out.mono D.out.size).trans (P.bl.mono oM)),⟨rfl,UX ⟨l.heap.size,1,#[.int .u8 f],rfl,oM,?_,Uw _,dC,rfl,?_⟩⟩,by simp[V9],by simp[V9];omega,by simp[V9];omega,rfl,rfl,Uw _,oM,oM⟩
    ·rw[P.bl.block l.heap.size oM,<-a.out];exact WU
    ·show [VZ .u8 f]=[SP.encB f.toUInt8];unfold SP.encB SP.ub;have:(f.toUInt8).toNat=f:=by
      rw[UInt8.toNat_ofNat'];omega
     simp[this]
   have HC:Hid (∀W v b,PuI w T W w.heap.size J v b->∀i,i<f+f+9->∃z y k q n c B,(gZ f f)[i]? = some k/\k<=33/\W.rangeAt J (i*2) [.pointer (some ⟨z,y,none⟩),.int .i64 k]/\W.cell? ⟨z,y,none⟩=some (.slice q n c)/\BB[i]? = some B/\Pt W (.slice q n c) B):=λW v b X i hi=>by
    obtain⟨z1,z2⟩:=HE.out;have C:W.rangeAt w.heap.size 0 p.cs:=λj u I=>by
     have e:=X.e1;have o:T.heap[w.heap.size]? = l.heap[w.heap.size]?:=by rw[P.bl.block _ oM,h1.out.block _ oM]
     have:W.cell? ⟨w.heap.size,0+j,none⟩=l.cell? ⟨w.heap.size,0+j,none⟩:=by unfold VY;rw[e,o]
     rw[this];exact Y.out j u (by rw[<-r.out];exact I)
    have t:=MP C (HL.out.below X.bl) (HR.out.below X.bl) Hl.out Hr.out;rw[Q.out,N.out]at t;obtain⟨x,hx⟩:∃x,(fN w.heap.size L O f S or f)[i]? = some x:=⟨_,UG oM⟩
    obtain⟨u,hu⟩:∃u,(qY p G E)[i]? = some u:=⟨_,UG (by rw[m.out];omega)⟩
    obtain⟨B,o⟩:∃B,BB[i]? = some B:=⟨_,UG (by rw[HB.out.1,m.out];omega)⟩
    obtain⟨⟨z,y,H⟩,A⟩:=t.2 i x u hx hu;have hpt:=(HB.out.2 i u B hu o).below X.bl;have R:(gZ f f)[i]? = some x.2:=by rw[<-sK w.heap.size L O f S or f,Vz,hx];rfl
    have K:=P.at i x hx;rw[H]at A;obtain⟨q,c,rfl,-⟩:=id hpt;refine⟨z,y,x.2,q,_,c,B,R,EO f f _ (VJ R),λj u I=>?_,A,o,hpt⟩;have e:=X.e2;have:W.cell? ⟨J,i*2+j,none⟩=T.cell? ⟨J,i*2+j,none⟩:=by unfold VY;rw[e]
    rw[this,Vv];exact K j u (by unfold pC;rw[H];exact I)
   obtain⟨M,t⟩:∃M,Hid (f+f+9=M):=⟨_,rfl⟩
   rw[t.out]at HC hM;rw[hM];have hs:M<=21:=by have:=t.out;omega
   have h4:Hid (BB.length=M):=by show _=_;rw[HB.out.1,m.out,t.out]
   have h8:Hid ((gZ f f).length=M):=by show _=_;rw[kV,t.out]
   obtain⟨dP,hb,h5⟩:=Uy.1 QC;clear P hM hP HB HL HR Hl Hr m V U h7 he Y;go_wp2;go_loopg [5,27] M (λgk s5 s27 wr=>∃i:Nat,i+gk=M/\s27=.int .i64 i/\Hid (PuI w T wr w.heap.size J s5 (eU f BB i)/\(eU f BB i).size<=1+33*i/\∀j,j<i->(BB[j]?).map V3=(gZ f f)[j]?))
   case atStart=>exact⟨0,oM,rfl,I0.out,by show 1<=_;omega,λj I=>absurd I (Nat.not_lt_zero _)⟩
   case round =>
    obtain⟨i,hi,rfl,K⟩:=hrel;obtain⟨g,cap,rfl,-,-⟩:=K.out.1.lt;by_cases h3:i<M
    ·have h2:(i:Int)<(M:Int):=oM;have hp:=NK J M h0 i h3;obtain⟨z,y,k,q,n,c,B,k1,k2,k3,k4,k5,k6⟩:=HC.out _ _ _ K.out.1 i h3;have K3:=Hid.mkP k3;have H:Hid ((gZ f f)[i]? = some k/\BB[i]? = some B/\Pt wr (.slice q n c) B):=⟨k1,k5,k6⟩
     clear k1 k3 k5 k6;obtain⟨A,C⟩:∃A,Hid (wr.alloc (.cells #[.pointer (some ⟨z,y,none⟩),.int .i64 k] 112)=A):=⟨_,rfl⟩
     have R:Below wr.heap.size wr A:=by rw[<-C.out];exact aO _ _
     have a0:A.cell? ⟨wr.heap.size,0,none⟩=some (.pointer (some ⟨z,y,none⟩)):=by rw[<-C.out];exact cZ wr _ _ 0 _ rfl
     have a1:A.cell? ⟨wr.heap.size,1,none⟩=some (.int .i64 k):=by rw[<-C.out];exact cZ wr _ _ 1 _ rfl
     have a2:A.cell? ⟨z,y,none⟩=some (.slice q n c):=by rw[R.cell (p:=⟨z,y,none⟩) (World.block_lt_of_cell? _ _ k4)];exact k4
     have KA:Hid (∀d,Below wr.heap.size wr (A.drewN d)):=λd=>⟨R.os,R.tape,R.output,R.size,R.block⟩
     clear R;go_wp2_with (first|(refine U6 rfl 112 _ rfl J (i*2) ?_ [.pointer (some ⟨z,y,none⟩),.int .i64 k] dP ?_ ?_ ?_ ?_ ?_;rfl;exact K3.out;exact hb;exact h5;exact iPt;skip)|fail)
     rw[C.out];go_quiet (fail);have KB:=Hid.mkP (KA.out nq);have q0:(A.drewN nq).cell? ⟨wr.heap.size,0,none⟩=some (.pointer (some ⟨z,y,none⟩)):=a0;have q2:(A.drewN nq).cell? ⟨z,y,none⟩=some (.slice q n c):=a2;clear KA a0 a1 a2;generalize A.drewN nq=wb at KB q0 q2⊢;by_cases hc:n=k
     ·subst hc;obtain⟨e1,hv⟩:=(H.out.2.2.below KB.out).vl;subst e1;have ha:=K.out.2.1;obtain⟨v',W',x1,x2⟩:=(K.out.1.below KB.out).app (c:=c) hv oM;rw[<-lE f BB i B H.out.2.1]at x2;have X2:=Hid.mkP x2;have X3:Hid ((eU f BB (i+1)).size<=1+33*(i+1)/\∀j,j<i+1->(BB[j]?).map V3=(gZ f f)[j]?):=by
       refine⟨?_,λj I=>?_⟩
       ·rw[lE f BB i B H.out.2.1,VN];omega
       ·by_cases o:j=i
        ·subst o;rw[H.out.2.1,H.out.1];rfl
        ·exact K.out.2.2 j oM
      have o:=Hid.mkP x1;obtain⟨g',hm,rfl,-,-⟩:=x2.lt;generalize V3 (eU f BB (i+1))=N2 at o X2;generalize V3 (eU f BB i)=N1 at o⊢;clear K x1 x2 hv ha;generalize V3 B=nB at o q2⊢;go_wp2_with (first|(at_builtin;refine WI wb rfl _ _ _ _ rfl _ _ rfl rfl _ _ o.out ?_)|fail)
      go_roundg (gk-1)
      case measure=>omega
      case rel=>exact⟨i+1,oM,rfl,X2.out,X3.out⟩
     ·have hn:¬(n:Int)=(k:Int):=oM;have o:¬mM f f BB:=λh=>by
       have e0:(BB.map V3)[i]? = (gZ f f)[i]?:=by rw[h.2.2]
       rw[Vz,H.out.2.1,H.out.1]at e0;have e1:V3 B=k:=UO.inj e0;obtain⟨q',c',Z,-⟩:=H.out.2.2;injection Z with _ Z _
       omega
      have HW:=Hid.mkP (K.out.1.bl.trans (KB.out.mono K.out.1.bl.size));clear K;go_wp2
      go_ret2
      exact⟨HW.out,UX ⟨o,rfl⟩⟩
    ·have h2:¬(i:Int)<(M:Int):=oM;obtain rfl:i=M:=oM;have A:Hid (S5 w f f BB (.returned (.tuple #[.slice (some ⟨g,0,none⟩) (eU f BB i).size cap,.int .i64 0])) wr):=by
      refine⟨K.out.1.bl,U4 ⟨⟨rfl,h6,List.ext_getElem? λj=>?_⟩,_,rfl,?_,?_⟩⟩
      ·by_cases I:j<i
       ·rw[Vz];exact K.out.2.2 j I
       ·rw[Wx (by rw[UQ,h4.out];omega),Wx (by rw[h8.out];omega)]
      ·rw[t.out];exact K.out.1.pt
      ·rw[t.out];exact K.out.1.cap
     clear K;go_wp2
     go_ret2
     exact A.out
  ·have h9:(6:Int)<(f:Int):=oM;have o:¬mM f f BB:=λh=>h6 h.2.1
   go_wp2_with (first|(refine aY (v:=.pointer (some ⟨w.heap.size,0,none⟩)) (w':=l) rfl (.box 28 (.tmp 0)) rfl ?_ ?_;(rw[<-s.out,<-r.out];kernel_rfl))|fail)
   go_ret2
   exact⟨D.out,UX ⟨o,rfl⟩⟩
 ·have t:¬(nr:Int)=(f:Int):=oM;have o:¬mM f nr BB:=λh=>hg h.1
  go_wp2_with (first|(refine aY (v:=.pointer (some ⟨w.heap.size,0,none⟩)) (w':=l) rfl (.box 28 (.tmp 0)) rfl ?_ ?_;(rw[<-s.out,<-r.out];kernel_rfl))|fail)
  go_ret2
  exact⟨D.out,UX ⟨o,rfl⟩⟩
end
section
namespace RG
variable {P:VD}{ops:Array Vk}{Q:Exit->Act->Ur->Prop}{a0:Act}{F:Flow}
theorem lC{k:Nat}{o:Vk}(h:∀(a:Act) (w:Ur),PreF F ops a0 k o a w->∃(b:List (Tmp × Ut)) (v:Ut) (w':Ur),AllE a b/\(dA (b.map (·.1)) o,(U5 (evo (evl b)) o).run P w)=(true,.ok (.value v) w')/\F.E k w w'/\F.R k v w'):bF P Q F ops a0 k o:=
 mH λa w e=>by
  obtain⟨b,v,w',d,c,hE⟩:=h a w e;simp only[V6.injEq]at c;refine⟨v,w',?_,hE⟩;rw[iU (evl b) (b.map (·.1)) c.1 d.ev];exact c.2
theorem D5{k:Nat}{o:Vk}(T:U8)(t:Tmp)(ho:o.op=.load T (.tmp t))(b:(P.underlying T).map (·.isRow)=some false)
 (h:∀(a:Act) (w:Ur),PreF F ops a0 k o a w->∃g off v,a.eval (.tmp t)=oZ g off/\w.cell? ⟨g,off,none⟩=some v/\F.E k w w/\F.R k v w):bF P Q F ops a0 k o:=
 mH λa w f=>by
  obtain⟨g,off,v,e,d,c⟩:=h a w f;refine⟨v,w,?_,c⟩;unfold U5;rw[ho];dsimp only;rw[e,UV,fD d b];rfl
end RG
end
section
theorem O7(a:Wu)(n c:Nat)(w:Ur):(binOp .eql 23 (.slice (some a) n c) (.slice none 0 0)).run prog w=.ok (.bool false) w:=kR
theorem Ki{g o b k:Nat}(h:some (⟨g,o,none⟩:Wu)=some ⟨b,k,none⟩):g=b/\o=k:=by
 cases h
 exact⟨rfl,rfl⟩
theorem GB{W:Ur}{B n s:Nat}{T:U8}{v:Ut}{xs:List Ut}(h:W.ownsRow B T s v n xs):∃q c,v=.slice q n c:=by
 rcases h.2 with⟨e,e'⟩|⟨g,cap,cur,e,-⟩
 ·exact⟨none,0,by rw[e,e']⟩
 ·exact⟨_,_,e⟩
structure FrC(N:Nat)(X:SP.Bs)(v:Ut)(W:Ur):Prop where
 own:W.ownsRow N 5 1 v X.size (bC X)
 nn:v.ownBlock≠none
theorem FrC.below{N:Nat}{X:SP.Bs}{v:Ut}{W W':Ur}(h:FrC N X v W)(b:kZ W W'):FrC N X v W':=⟨bZ h.own (λg k=>b.block g (jG h.own k).2.1),h.nn⟩
theorem JP(g o c:Nat)(X:SP.Bs)(J:X.size<=1000000)(w:Ur)(F:g<w.heap.size)(y:Holds SP.encB w g o X):
 UH prog 56 #[.slice (some ⟨g,o,none⟩) X.size c] w λe w'=>∃v,e=.returned v/\kZ w w'/\FrC w.heap.size X v w':=by
 obtain⟨i,E,t⟩:=Uy.1 Jd;simp only[V6.injEq]at t;obtain⟨I,H,B⟩:=t;obtain⟨z,A,q⟩:=Uy.1 B;obtain⟨d,f⟩:∃d,Hid (w.alloc (.cells #[] 5)=d):=⟨_,rfl⟩
 have r:d.heap.size=w.heap.size+1:=by rw[<-f.out,UB]
 have b1:kZ w d:=by rw[<-f.out];exact aO _ _
 have ho:d.ownsRow w.heap.size 5 1 (sZ w.heap.size 0 0) 0 []:=by
  rw[<-f.out];exact⟨rfl,.inr ⟨w.heap.size,0,#[],rfl,Uw _,WU,Uw _,Wy _,rfl,rfl⟩⟩
 have hpt:Pt d (.slice (some ⟨g,o,none⟩) X.size c) X:=⟨_,_,rfl,UX ⟨g,o,rfl,oM,SP.Holds.below y b1 F⟩⟩
 obtain⟨-,hv⟩:=hpt.vl;have m:∀(j:Nat) u,(bC X)[j]? = some u->d.cell? ((⟨g,o,none⟩:Wu).add j)=some u:=λj u p=>by
  rcases hv.cells with s|⟨b,x,l,-,m⟩
  ·rw[s]at p;cases p
  ·obtain⟨r,n⟩:=Ki l;subst r n;rw[lH];exact m j u p
 obtain⟨G,W',s,n,l,a⟩:=run_append_own (P:=prog) d w.heap.size 23 23 5 i z 1 1 zB E A I H q dC _ 0 [] ho ⟨g,o,none⟩ X.size c (bC X) (by rw[yR];omega) m (Bp X) (by unfold maxLen;omega) oM oM;rw[UD,List.nil_append]at n;have K:Hid (kZ w W'/\FrC w.heap.size X G W'):=by
  refine⟨⟨by rw[l.os,b1.os],by rw[l.tape,b1.tape],by rw[l.output,b1.output],UC b1.size l.size,λk C=>?_⟩,n,?_⟩
  ·rw[l.block k oM (by simp[V9];omega),b1.block k C]
  ·rcases n.2 with⟨D,-⟩|⟨L,x,cur,rfl,-⟩
   ·have:=(a.1 D).1;exact absurd this (by simp)
   ·simp[V9]
 have x:=Hid.mkP s;have C:=O7 ⟨g,o,none⟩ X.size c;clear s n l a m hv hpt ho b1 r y;go_enter func56,ntmps56;go_wp2_with (first|(refine aY (v:=sZ w.heap.size 0 0) (w':=d) rfl (.buildSlice 23 0 #[]) rfl ?_ ?_;(rw[<-f.out];kernel_rfl))|(at_builtin;refine WI d rfl _ _ _ _ rfl _ _ rfl rfl _ _ x.out ?_)|fail)
 go_ret;exact⟨_,rfl,K.out.1,K.out.2⟩
theorem heap_set (w : World) (a : Addr) (v : Value) (k : Nat) : (w.setCell a v).heap[k]? = if a.block = k then (w.heap[k]?).map (fun
      | .cells c elem frozen => .cells (if a.spot.isSome then c else c.setIfInBounds a.off v) elem frozen
      | o => o) else w.heap[k]? := by
  show(w.heap.modify a.block _)[k]? = _;rw [Array.getElem?_modify];rfl
theorem G7{N:Nat}{ws w:Ur}(h:Below N ws w)(a:Wu)(v:Ut):Below N (ws.setCell a v) (w.setCell a v):=
 ⟨h.os,h.tape,h.output,by rw[Yf,Yf];exact h.size,λk b=>by rw[heap_set,heap_set,h.block k b]⟩
def StR(ws:Ur)(b k:Nat)(X:SP.Bs)(w:Ur):Prop:=∃v,Below ws.heap.size (ws.setCell ⟨b,k,none⟩ v) w/\FrC ws.heap.size X v w
def FR(ws:Ur)(ga e d k gi off m c nx:Nat)(X:SP.Bs):Flow where
 R i v w:=match i with
  | 0=>v=jZ ga
  | 1=>v=oZ e d
  | 2=>v=.slice (some ⟨gi,off,none⟩) m c
  | 3=>v=oZ ga 1
  | 4=>v=iZ k
  | 5=>v=.slice (some ⟨gi,off,none⟩) k c
  | 6=>FrC ws.heap.size X v w
  | 7=>v=.slice (some ⟨gi,off,none⟩) m c
  | 8=>v=oZ ga 1
  | 9=>v=iZ k
  | 10=>v=.slice (some ⟨gi,nx,none⟩) (m-k) (c-k)
  | 11=>v=oZ e d
  | 12=>StR ws e d X w
  | _=>v=.slice (some ⟨gi,nx,none⟩) (m-k) (c-k)
 B b w:=match b with
  | 0=>kZ ws w
  | _=>w.cell? ⟨ga,0,none⟩=some (oZ e d)/\w.cell? ⟨ga,1,none⟩=some (iZ k)/\ga<ws.heap.size/\ws.heap.size<=w.heap.size
 E i w w':=match i with
  | 12=>∃v,w'=w.setCell ⟨e,d,none⟩ v
  | _=>kZ w w'
 kill _:=[]
 killB b:=match b with
  | 0=>[12]
  | _=>[]
variable {ws:Ur}{ga bb oo k gi off m c nx:Nat}{X:SP.Bs}
theorem StR.below{w w':Ur}(h:StR ws bb oo X w)(b:kZ w w'):StR ws bb oo X w':=by
 obtain⟨v,k,c⟩:=h;refine⟨v,k.trans (b.mono ?_),c.below b⟩;have:=k.size;rw[Yf]at this;exact this
theorem FR.stab(l:bb<ws.heap.size)(i j:Nat)(f:i≠j)(v:Ut)(w w':Ur)(hE:(FR ws ga bb oo k gi off m c nx X).E i w w')(hR:(FR ws ga bb oo k gi off m c nx X).R j v w):(FR ws ga bb oo k gi off m c nx X).R j v w':=by
 have key:j≠6->j≠12->(FR ws ga bb oo k gi off m c nx X).R j v w':=λe b=>by
  match j,e,b,hR with
  | 0,_,_,h|1,_,_,h|2,_,_,h|3,_,_,h|4,_,_,h|5,_,_,h|7,_,_,h|8,_,_,h|9,_,_,h|10,_,_,h|11,_,_,h|_+13,_,_,h=>exact h
  | 6,h,_,_=>exact absurd rfl h
  | 12,_,h,_=>exact absurd rfl h
 by_cases e:j=6
 ·subst e;by_cases b:i=12
  ·subst b;obtain⟨u,rfl⟩:=hE;have hR:FrC ws.heap.size X v w:=hR;refine(⟨bZ hR.own (λg d=>?_),hR.nn⟩:FrC ws.heap.size X v _);have:=(jG hR.own d).1;rw[heap_set,yCk (by show bb≠g;omega)]
  ·have d:kZ w w':=by
    unfold FR at hE;dsimp only at hE;split at hE
    ·exact absurd rfl b
    ·exact hE
   exact(FrC.below (show FrC ws.heap.size X v w from hR) d:FrC ws.heap.size X v w')
 ·by_cases b:j=12
  ·subst b;have d:kZ w w':=by
    unfold FR at hE;dsimp only at hE;split at hE
    ·exact absurd rfl f
    ·exact hE
   exact(StR.below (show StR ws bb oo X w from hR) d:StR ws bb oo X w')
  ·exact key e b
theorem FR.stabB(j:bb≠ga)(i b:Nat)(n:((FR ws ga bb oo k gi off m c nx X).killB b).contains i=false)(w w':Ur)(hE:(FR ws ga bb oo k gi off m c nx X).E i w w')(l:(FR ws ga bb oo k gi off m c nx X).B b w):(FR ws ga bb oo k gi off m c nx X).B b w':=by
 by_cases g:i=12
 ·subst g;obtain⟨u,rfl⟩:=hE;match b,n,l with
  | 0,n,_=>exact absurd (show([12]:List Nat).contains 12=false from n) dC
  | _+1,_,⟨h1,h2,h3,h4⟩ =>
   refine⟨?_,?_,h3,by rw[Yf];exact h4⟩
   ·rw[UU _ _ _ _ (by intro e;injection e with e _ _;exact j e)];exact h1
   ·rw[UU _ _ _ _ (by intro e;injection e with e _ _;exact j e)];exact h2
 ·have d:kZ w w':=by
   unfold FR at hE;dsimp only at hE;split at hE
   ·exact absurd rfl g
   ·exact hE
  match b,l with
  | 0,l =>
   have f:kZ ws w:=l;exact(f.trans (d.mono f.size):kZ ws w')
  | _+1,⟨h1,h2,h3,h4⟩ =>
   refine⟨?_,?_,h3,UC h4 d.size⟩
   ·rw[d.cell (p:=⟨ga,0,none⟩) (by show ga<_;omega)];exact h1
   ·rw[d.cell (p:=⟨ga,1,none⟩) (by show ga<_;omega)];exact h2
end
section
structure PsOk(w w4:Ur)(gr gq gp:Nat)(ps:List (Wu × Nat)):Prop where
 ad:∀(j:Nat) x,ps[j]? = some x->∃b o,x.1=⟨b,o,none⟩/\b<w4.heap.size/\w.heap.size<=b/\b≠gq/\b≠gr/\x.1≠⟨gp,7,none⟩/\x.1≠⟨gp,8,none⟩
 ne:∀(j j':Nat) x x',j≠j'->ps[j]? = some x->ps[j']? = some x'->x.1≠x'.1
 q:gq<w4.heap.size
 r:gr<w4.heap.size
 p:gp<w4.heap.size
structure RdI(w w4 W:Ur)(gr gq gp:Nat)(lv rv:Ut)(ps:List (Wu × Nat))(vs:List Ut)(CH:Nat->SP.Bs):Prop where
 bl:kZ w W
 st:∀(j:Nat) x u,ps[j]? = some x->vs[j]? = some u->W.cell? x.1=some u
 th:∀(j:Nat) x,ps[j]? = some x->(∃u,W.cell? x.1=some u)/\W.frozen? x.1=false
 c7:W.cell? ⟨gp,7,none⟩=some lv
 c8:W.cell? ⟨gp,8,none⟩=some rv
 eq:W.heap[gq]? = w4.heap[gq]?
 er:W.heap[gr]? = w4.heap[gr]?
 sz:w4.heap.size<=W.heap.size
 ow:∀(j:Nat) u,vs[j]? = some u->FrC w4.heap.size (CH j) u W
 ne:∀(j j':Nat) u u' g,j<j'->vs[j]? = some u->vs[j']? = some u'->u.ownBlock=some g->u'.ownBlock≠some g
variable {w w4 W:Ur}{gr gq gp:Nat}{lv rv:Ut}{ps:List (Wu × Nat)}{vs:List Ut}{CH:Nat->SP.Bs}
theorem RdI.below{W':Ur}(h:RdI w w4 W gr gq gp lv rv ps vs CH)(c:PsOk w w4 gr gq gp ps)(k:kZ W W'):RdI w w4 W' gr gq gp lv rv ps vs CH:=by
 have g:=h.sz;have l:=c.p;have i:=c.q;have n:=c.r;have d:∀(j:Nat) x,ps[j]? = some x->W'.cell? x.1=W.cell? x.1/\W'.frozen? x.1=W.frozen? x.1:=λj x hx=>by
  obtain⟨b,o,e,m,-⟩:=c.ad j x hx;have f:=k.block b oM;rw[e];unfold VY WW;rw[f];exact⟨rfl,rfl⟩
 refine⟨h.bl.trans (k.mono h.bl.size),λj x u hx f=>by rw[(d j x hx).1];exact h.st j x u hx f,λj x hx=>by rw[(d j x hx).1,(d j x hx).2];exact h.th j x hx,?_,?_,by rw[k.block gq oM];exact h.eq,by rw[k.block gr oM];exact h.er,UC g k.size,λj u f=>(h.ow j u f).below k,h.ne⟩
 ·rw[k.cell (p:=⟨gp,7,none⟩) (by show gp<_;omega)];exact h.c7
 ·rw[k.cell (p:=⟨gp,8,none⟩) (by show gp<_;omega)];exact h.c8
theorem RdI.step{W':Ur}{i s k:Nat}(h:RdI w w4 W gr gq gp lv rv ps vs CH)(z:PsOk w w4 gr gq gp ps)(hx:ps[vs.length]? = some (⟨i,s,none⟩,k))(M:StR W i s (CH vs.length) W'):∃v,RdI w w4 W' gr gq gp lv rv ps (vs++[v]) CH:=by
 obtain⟨v,r,G⟩:=M;have S:=h.sz;have U:=z.p;have P:=z.q;have V:=z.r;obtain⟨R,Q,e',p1,p2,K,N,O,p6⟩:=z.ad _ _ hx;injection e' with e1 e2 _
 subst e1 e2;obtain⟨⟨old,t⟩,J⟩:=h.th _ _ hx;have f:∀g,g<W.heap.size->g≠i->W'.heap[g]? = W.heap[g]?:=λg y c=>by
  rw[r.block g y,heap_set,yCk (by show i≠g;omega)]
 have b:∀a:Wu,a.block<W.heap.size->a≠⟨i,s,none⟩->W'.cell? a=W.cell? a:=λa D c=>by
  rw[r.cell (p:=a) D,UU _ _ _ _ (λe=>c e.symm)]
 have F:∀a:Wu,a.block<W.heap.size->W'.frozen? a=W.frozen? a:=λa D=>by
  have d:W'.frozen? a=(W.setCell ⟨i,s,none⟩ v).frozen? a:=by
   unfold WW;rw[r.block a.block D]
  rw[d];exact World.frozen?_setCells i [v] s W a
 have A:W.heap.size<=W'.heap.size:=by
  have:=r.size;rw[Yf]at this;exact this
 refine⟨v,⟨⟨by rw[r.os];exact h.bl.os,by rw[r.tape];exact h.bl.tape,by rw[r.output];exact h.bl.output,UC h.bl.size A,λg y=>?_⟩,λj x u o d=>?_,λj x o=>?_,?_,?_,?_,?_,oM,λj u d=>?_,λj E u H g q d l y=>?_⟩⟩
 ·have:=h.bl.size;rw[f g oM oM,h.bl.block g y]
 ·obtain⟨B,I,C,L,-⟩:=z.ad j x o;by_cases n:j<vs.length
  ·rw[UT n]at d;have c:=z.ne j vs.length x _ oM o hx;rw[b x.1 (by rw[C];show B<_;omega) c];exact h.st j x u o d
  ·have m:j=vs.length:=by
    have:=(UF.1 d).1;rw[UA]at this;simp only[Vj,WG]at this;omega
   subst m;rw[hx]at o;obtain rfl:=UO.inj o;rw[U1 (Uw _),YU]at d;obtain rfl:v=u:=by simpa using d
   rw[r.cell (p:=⟨i,s,none⟩) (by show i<_;omega)];exact VV _ _ _ t
 ·obtain⟨B,I,C,L,-⟩:=z.ad j x o;have q:x.1.block<W.heap.size:=by rw[C];show B<_;omega
  refine⟨?_,by rw[F x.1 q];exact(h.th j x o).2⟩;by_cases c:x.1=⟨i,s,none⟩
  ·rw[c];exact⟨v,by rw[r.cell (p:=⟨i,s,none⟩) (by show i<_;omega)];exact VV _ _ _ t⟩
  ·rw[b x.1 q c];exact(h.th j x o).1
 ·rw[b ⟨gp,7,none⟩ (by show gp<_;omega) (λe=>O e.symm)];exact h.c7
 ·rw[b ⟨gp,8,none⟩ (by show gp<_;omega) (λe=>p6 e.symm)];exact h.c8
 ·rw[f gq oM (λe=>K e.symm)];exact h.eq
 ·rw[f gr oM (λe=>N e.symm)];exact h.er
 ·by_cases n:j<vs.length
  ·rw[UT n]at d;have C:=h.ow j u d;refine⟨bZ C.own (λg y=>?_),C.nn⟩;have:=jG C.own y;exact f g this.2.1 oM
  ·have m:j=vs.length:=by
    have:=(UF.1 d).1;rw[UA]at this;simp only[Vj,WG]at this;omega
   subst m;rw[U1 (Uw _),YU]at d;obtain rfl:v=u:=by simpa using d
   refine⟨?_,G.nn⟩;rcases G.own with⟨I,B|⟨g,cap,cur,B,T,L⟩⟩
   ·exact⟨I,U4 B⟩
   ·exact⟨I,UX ⟨g,cap,cur,B,oM,L⟩⟩
 ·have B:=(UF.1 l).1;rw[UA]at B;simp only[Vj,WG]at B;rw[UT oM]at d;by_cases n:E<vs.length
  ·rw[UT n]at l;exact h.ne j E u H g q d l y
  ·have m:E=vs.length:=oM;subst m;rw[U1 (Uw _),YU]at l;obtain rfl:v=H:=by simpa using l
   intro e;have C:=(jG G.own e).1;have I:=(jG (h.ow j u d).own y).2.1;omega
end
section
variable {P:Nat}[NeZero P]{N:Nat}
theorem ME:(prog.info? 23).map (λi=>(i.zero,i.size,i.bytes))=some (some (.slice none 0 0),1,24):=kR
structure R4(w1 W:Ur)(gp gL gR k:Nat):Prop where
 bl:kZ w1 W
 d1:gp≠gL
 d2:gp≠gR
 d3:gL≠gR
 p1:w1.heap.size<=gp/\gp<W.heap.size
 p2:w1.heap.size<=gL/\gL<W.heap.size
 p3:w1.heap.size<=gR/\gR<W.heap.size
 hp:W.heap[gp]? = some (.cells #[.slice none 0 0,.slice none 0 0,.slice none 0 0,.slice none 0 0,.slice none 0 0,.slice none 0 0,.slice none 0 0,sZ gL k k,sZ gR k k,.slice none 0 0,.slice none 0 0] 28 (0,0))
 hL:W.heap[gL]? = some (.cells (madeCells #[.slice none 0 0] k) 23 (0,0))
 hR:W.heap[gR]? = some (.cells (madeCells #[.slice none 0 0] k) 23 (0,0))
theorem three(k:Ur)(a b c:Array Ut)(A B C:U8):kZ k (((k.alloc (.cells a A)).alloc (.cells b B)).alloc (.cells c C)).drew/\(((k.alloc (.cells a A)).alloc (.cells b B)).alloc (.cells c C)).drew.heap.size=k.heap.size+3/\(((k.alloc (.cells a A)).alloc (.cells b B)).alloc (.cells c C)).drew.heap[k.heap.size]? = some (.cells a A (0,0))/\(((k.alloc (.cells a A)).alloc (.cells b B)).alloc (.cells c C)).drew.heap[k.heap.size+1]? = some (.cells b B (0,0))/\(((k.alloc (.cells a A)).alloc (.cells b B)).alloc (.cells c C)).drew.heap[k.heap.size+1+1]? = some (.cells c C (0,0)):=by
 have n:=aO k (.cells a A);have f:(k.alloc (.cells a A)).heap.size=k.heap.size+1:=UB _ _;have g:=aO (k.alloc (.cells a A)) (.cells b B);have i:((k.alloc (.cells a A)).alloc (.cells b B)).heap.size=k.heap.size+2:=by rw[UB,f]
 have e:=aO ((k.alloc (.cells a A)).alloc (.cells b B)) (.cells c C);have m:(((k.alloc (.cells a A)).alloc (.cells b B)).alloc (.cells c C)).heap.size=k.heap.size+3:=by rw[UB,i]
 have l:(k.alloc (.cells a A)).heap[k.heap.size]? = some (.cells a A (0,0)):=WU;have j:((k.alloc (.cells a A)).alloc (.cells b B)).heap[(k.alloc (.cells a A)).heap.size]? = some (.cells b B (0,0)):=WU;have e3:(((k.alloc (.cells a A)).alloc (.cells b B)).alloc (.cells c C)).heap[((k.alloc (.cells a A)).alloc (.cells b B)).heap.size]? = some (.cells c C (0,0)):=WU;rw[f]at j;rw[i]at e3;have d:=(n.trans (g.mono oM)).trans (e.mono oM);refine⟨⟨d.os,d.tape,d.output,d.size,d.block⟩,m,?_,?_,e3⟩
 ·show(((k.alloc (.cells a A)).alloc (.cells b B)).alloc (.cells c C)).heap[k.heap.size]? = _;rw[e.block _ oM,g.block _ oM];exact l
 ·show(((k.alloc (.cells a A)).alloc (.cells b B)).alloc (.cells c C)).heap[k.heap.size+1]? = _;rw[e.block _ oM];exact j
def zR:List Ut:=VB 11 (.slice none 0 0)
theorem dT{f q p n r or m j:Nat}{x:Wu × Nat}(h:(fN f q p n r or m)[j]? = some x):(j<7/\x.1=⟨f,j,none⟩)\/(7<=j/\j<7+n/\x.1=⟨q,p+(j-7),none⟩)\/(7+n<=j/\j<7+n+m/\x.1=⟨r,or+(j-7-n),none⟩)\/(7+n+m<=j/\j<9+n+m/\x.1=⟨f,9+(j-7-n-m),none⟩):=by
 have d:∀ {b o k i:Nat}{y:Wu × Nat},(lp b o k)[i]? = some y->i<k/\y.1=⟨b,o+i,none⟩:=λ{b o k i y} h=>by
  unfold lp at h;rw[Vz]at h;obtain⟨z,s,rfl⟩:=Uy.1 h;have e:=(UF.1 s)
  obtain⟨l,g⟩:=e;have c:i<k:=by simpa using l
  have t:i=z:=by simpa using g
  subst t;exact⟨c,rfl⟩
 unfold fN at h;by_cases e:j<7
 ·left;refine⟨e,?_⟩;rw[Vx,Vx,UT (by show j<7;exact e)]at h;match j,e,h with
  | 0,_,h|1,_,h|2,_,h|3,_,h|4,_,h|5,_,h|6,_,h =>
   obtain rfl:=UO.inj h;rfl
 ·right;rw[Vx,Vx,U1 (by show 7<=j;omega)]at h;have s:(tH f).length=7:=rfl;rw[s]at h;by_cases l:j-7<n
  ·left;rw[UT (by rw[jK];exact l)]at h;obtain⟨-,c⟩:=d h;exact⟨oM,oM,c⟩
  ·right;rw[U1 (by rw[jK];omega),jK]at h;by_cases g:j-7-n<m
   ·left;rw[UT (by rw[jK];exact g)]at h;obtain⟨-,c⟩:=d h;exact⟨oM,oM,c⟩
   ·right;rw[U1 (by rw[jK];omega),jK]at h;obtain⟨i,c⟩:∃i,j-7-n-m=i:=⟨_,rfl⟩
    rw[c]at h⊢;match i,c,h with
    | 0,c,h|1,c,h =>
     obtain rfl:=UO.inj h;exact⟨oM,oM,rfl⟩
    | i+2,_,h=>cases h
theorem Ci(k j:Nat)(z:Ut)(h:j<k):(madeCells #[z] k)[j]? = some z:=by
 unfold madeCells;rw[Array.getElem?_map,Array.getElem?_range,yCj h];simp[yAW]
theorem IH{w C F v:Ur}{l m o k a n c:Nat}{CH:Nat->SP.Bs}(h:R4 C F l m o k)(G:kZ w C)(Q:w.heap.size<C.heap.size)(p:PLs F v (sZ a n c) (fN l m 0 k o 0 k)):
 PsOk w v w.heap.size a l (fN l m 0 k o 0 k)/\RdI w v v w.heap.size a l (sZ m k k) (sZ o k k) (fN l m 0 k o 0 k) [] CH:=by
 obtain⟨S,T,e,H,z⟩:=p.lt;injection e with e _ _
 injection e with e
 injection e with e _ _
 subst e;have U:=p.bl.size;obtain⟨p1,E⟩:=h.p1;obtain⟨p2,B⟩:=h.p2;obtain⟨R,y⟩:=h.p3;have V:=h.d1;have P:=h.d2;have M:=h.d3;have t:=p.bl.block l E;have L:=p.bl.block m B;have K:=p.bl.block o y;refine⟨⟨λj x hx=>?_,λj J x O I hx A e=>?_,z,by have:=h.bl.size;omega,oM⟩,⟨?_,λj x u _ r=>by simp at r,λj x hx=>?_,?_,?_,rfl,rfl,Uw _,λj u r=>by simp at r,λj J u N g _ r=>by simp at r⟩⟩
 ·rcases dT hx with⟨f,b⟩|⟨f,d,b⟩|⟨f,d,b⟩|⟨f,d,b⟩
  ·exact⟨l,j,b,oM,oM,oM,oM,by rw[b];intro e;injection e with _ e _;omega,by rw[b];intro e;injection e with _ e _;omega⟩
  ·exact⟨m,_,b,oM,oM,oM,oM,by rw[b];intro e;injection e with e _ _;omega,by rw[b];intro e;injection e with e _ _;omega⟩
  ·exact⟨o,_,b,oM,oM,oM,oM,by rw[b];intro e;injection e with e _ _;omega,by rw[b];intro e;injection e with e _ _;omega⟩
  ·exact⟨l,_,b,oM,oM,oM,oM,by rw[b];intro e;injection e with _ e _;omega,by rw[b];intro e;injection e with _ e _;omega⟩
 ·rcases dT hx with⟨f,b⟩|⟨f,d,b⟩|⟨f,d,b⟩|⟨f,d,b⟩<;>rcases dT A with⟨D,s⟩|⟨D,q,s⟩|⟨D,q,s⟩|⟨D,q,s⟩<;>(rw[b,s]at e;injection e with e1 e2 _;omega)
 ·exact(G.trans (h.bl.mono G.size)).trans (p.bl.mono (by have:=h.bl.size;omega))
 ·rcases dT hx with⟨f,b⟩|⟨f,d,b⟩|⟨f,d,b⟩|⟨f,d,b⟩
  ·rw[b];unfold VY WW;rw[t,h.hp];refine⟨?_,by simp⟩;match j,f with
   | 0,_|1,_|2,_|3,_|4,_|5,_|6,_=>exact⟨_,rfl⟩
  ·rw[b];unfold VY WW;rw[L,h.hL];exact⟨⟨_,Ci k (0+(j-7)) _ oM⟩,by simp⟩
  ·rw[b];unfold VY WW;rw[K,h.hR];exact⟨⟨_,Ci k (0+(j-7-k)) _ oM⟩,by simp⟩
  ·rw[b];unfold VY WW;rw[t,h.hp];refine⟨?_,by simp⟩;obtain⟨i,q⟩:∃i,j-7-k-k=i:=⟨_,rfl⟩
   rw[q];match i,q with
   | 0,_|1,_=>exact⟨_,rfl⟩
   | i+2,q=>omega
 ·unfold VY;rw[t,h.hp];rfl
 ·unfold VY;rw[t,h.hp];rfl
def offs(n j:Nat):Nat:=1+((gZ n n).take j).sum
theorem kW(n j k:Nat)(h:(gZ n n)[j]? = some k):offs n (j+1)=offs n j+k:=by
 unfold offs;rw[ZH,h,yBa];simp[WR]
theorem tP:∀(l:List Nat) (j:Nat),(l.take j).sum<=l.sum
 | [],j=>by simp
 | a :: r,0=>by simp
 | a :: r,j+1=>by
  have:=tP r j;simp only[List.take_succ_cons,yBw];omega
theorem Mt(n j:Nat):offs n j<=1+(gZ n n).sum:=by
 have:=tP (gZ n n) j;unfold offs;omega
theorem Cb(n:Nat):(gZ n n).sum=292+66*n:=by
 unfold gZ;simp only[yBa,List.sum_replicate_nat,yBw,List.sum_nil];omega
theorem xB(n:Nat):offs n (n+n+9)=293+66*n:=by
 unfold offs;rw[Y9 (by rw[kV];omega),Cb];omega
def chk(s:SP.Bs)(n j:Nat):SP.Bs:=s.extract (offs n j) (offs n (j+1))
def nO(s:SP.Bs):Prop:=0<s.size/\s[0]!.toNat<=6/\s.size=293+66*s[0]!.toNat
def RdR(w:Ur)(s:SP.Bs)(k:Nat)(e:Ending)(W:Ur):Prop:=
 (¬nO s/\kZ w W/\e=.returned (.tuple #[.agg zR.toArray,iZ 2])) \/
 (nO s/\kZ w W/\∃(g c:Ur) (i b d f:Nat) (vs cs:List Ut),vs.length=k+k+9/\PsOk w g w.heap.size i b (fN b d 0 k f 0 k)/\RdI w g c w.heap.size i b (sZ d k k) (sZ f k k) (fN b d 0 k f 0 k) vs (chk s k)/\cs.length=11/\c.rangeAt b 0 cs/\W=c.setCells w.heap.size 0 cs/\e=.returned (.tuple #[.agg cs.toArray,iZ 0]))
theorem S8(d b n c k:Nat)(l:k<=n)(e:n<c)(w:Ur):(Xn 23 (.slice (some ⟨d,b,none⟩) n c) (some (iZ k)) none none).run prog w=.ok (.slice (some ⟨d,b+k,none⟩) (n-k) (c-k)) w:=by
 have j:(k:Int)<=n:=oM;have i:(n:Int)<=c:=oM;have f:¬c=k:=oM;have g:¬c-k=0:=oM;go_simp
theorem LG(d b n c k:Nat)(l:k<=n)(f:n<=c):∃nx,(0<c-k->nx=b+k)/\∀w:Ur,(Xn 23 (.slice (some ⟨d,b,none⟩) n c) (some (iZ k)) none none).run prog w=.ok (.slice (some ⟨d,nx,none⟩) (n-k) (c-k)) w:=by
 have j:(k:Int)<=n:=oM;have g:(n:Int)<=c:=oM;by_cases e:c=k
 ·obtain rfl:n=k:=oM;subst e;refine⟨b,λh=>oM,λw=>?_⟩;rw[YU];go_simp
 ·have i:¬c-k=0:=oM;refine⟨b+k,λ_=>rfl,λw=>?_⟩;go_simp
theorem LH(d b n c k:Nat)(f:k<=c)(w:Ur):(Xn 23 (.slice (some ⟨d,b,none⟩) n c) none (some (iZ k)) none).run prog w=.ok (.slice (some ⟨d,b,none⟩) k c) w:=by
 have e:(k:Int)<=c:=oM;go_simp
theorem fY{P:VD}{c:Func}{tmps:Array Ut}{W:Ur}{k:Nat}{vs:List Ut}{v:Ut}(t u:Tmp)(T:U8)(l:c.results=#[.cell t T,.tmp u])(h:W.rangeAt k 0 vs)(f:tmps[t]? = some (jZ k))(hv:tmps[u]? = some v)
 (b:(P.underlying T).map (·.isRow)=some true) (g:(P.info? T).map (·.size)=some vs.length):(results c tmps).run P W=.ok (.tuple #[.agg vs.toArray,v]) W:=by
 obtain⟨d,b,hd⟩:=Uy.1 b;have j:=run_loadVar_mid (P:=P) W k 0 T vs d h b hd g;have i:tmps.getD t WP=jZ k:=by rw[UI,f];rfl
 have e:tmps.getD u WP=v:=by rw[UI,hv];rfl
 unfold results;rw[l];simp only[Array.mapM_eq_mapM_toList,List.mapM_cons,List.mapM_nil,i,e,asAddr];simp[UV,j]
theorem EH{w W:Ur}{cs:List Ut}(f:W.heap[w.heap.size]? = some (.cells zR.toArray 28 (0,0)))(i:cs.length=11)(c:kZ w W):W.there w.heap.size 0 cs.toArray.size/\(W.setCells w.heap.size 0 cs).rangeAt w.heap.size 0 cs/\kZ w (W.setCells w.heap.size 0 cs):=by
 have e:W.there w.heap.size 0 cs.length:=λj l=>by
  unfold VY WW;rw[f];refine⟨?_,by simp⟩;have:(0+j)<zR.toArray.size:=by show 0+j<11;omega
  simp only[Array.getElem?_eq_getElem this];rfl
 refine⟨by simpa using e,World.rangeAt_setCells_same _ _ _ _ e,⟨(World.os_setCells _ _ _ _).trans c.os,?_,(World.output_setCells _ _ _ _).trans c.output,?_,λk g=>?_⟩⟩
 ·have d:=below_setCells (B:=0) (b:=w.heap.size) (Wy _) cs 0 W (UR 0 W);rw[d.tape];exact c.tape
 ·have d:=below_setCells (B:=0) (b:=w.heap.size) (Wy _) cs 0 W (UR 0 W);exact UC c.size d.size
 ·rw[ZZ W _ 0 cs (by have:=c.size;omega) oM];exact c.block k g
end
section
open SPA
section
variable {P:VD}{ops:Array Vk}{rest:List Vk}{o:Vk}{a:Act}{w:Ur}{Q:Exit->Act->Ur->Prop}
theorem PW.gd(h:wpList P ops Q ({ o with guard:=none } :: rest) a w)(k:V2 o (yielded ops a.tmps)=true:=by kernel_rfl):wpList P ops Q (o :: rest) a w:=by
 unfold wpList at h⊢;rw[yCj k];rw[yCj (show V2 { o with guard:=none } (yielded ops a.tmps)=true from rfl)]at h;exact h
end
variable {P:Nat}[NeZero P]{N:Nat}[NeZero N]
theorem Qu(C:Fld P){n t:Nat}(Z:Wd n t)(V:Bs)(q:Fin P × Fin P)(K:rd P V=some q)(v:Ut)(j y r a u g z p l k b:Ut)(w:Ur)(R:Arg33 w v V)(O:∀W,kZ w W->UH prog 54 #[pvl V,iZ n,.agg #[j,y,r,a,u,g,z,p,l,k,b]] W (rZ W λe w'=>e=.bool true)):
 UH prog 12 #[v,iZ n,.agg #[j,y,r,a,u,g,z,p,l,k,b]] w (rZ w λe w'=>e=.bool true):=by
 have J:V.size=33:=EF K;obtain⟨E,d⟩:=hE (pvl V);obtain⟨U,c⟩:=hE (Value.agg #[j,y,r,a,u,g,z,p,l,k,b]);obtain⟨Y,A⟩:=hE (w.heap.size);obtain⟨S,m⟩:=hE (w.alloc (.cells [j,y,r,a,u,g,z,p,l,k,b].toArray 28));have F:=mk1 ((Mp.start w).new A m);have I:Hid ((Instr.box 28 U).run prog w=.ok (jZ Y) S):=by rw[<-c.out,<-m.out,<-A.out];exact SO _ _ _ _ _ _ _ _ _ _ _ w
 have H:Hid (∀W,kZ w W->UH prog 53 #[v] W (rZ W λe w'=>e=.tuple #[E,.bool true])):=λW hb=>by
  rw[<-d.out];exact FI C v V q W (R.below hb) K
 have X:Hid (∀W,kZ w W->UH prog 54 #[E,iZ n,U] W (rZ W λe w'=>e=.bool true)):=by
  rw[<-d.out,<-c.out];exact O
 have L:(prog.info? 103).map (·.size)=some (aA V).length:=by rw[aB J];exact iCP
 rw[c.out];clear O R;go_enter func12,ntmps12;refine Uz ?_;refine PW.begin ?_;refine PW.ns I.out ?_;refine PW.va (.bool false) ?_;refine PW.dn ?_;refine Uz ?_;refine PW.begin ?_;refine PW.mv ?_;refine PW.gi (H.out S F.bl) λQ i=>?_
 have M:=mk1 (F.grow i);clear F i H I;refine PW.mv ?_;refine PW.va E ?_;refine PW.va (.bool true) ?_;refine hG (Q.heap.size) λk7 s=>?_
 refine hG (Q.alloc (.cells z33.toArray 103)) λw3 o=>?_
 refine hG (w3.setCells k7 0 (aA V)) λw4 f=>?_
 have T:(aA V).length=z33.length:=aB J;have G:=mk1 (M.new s o);have N:=mk1 (G.put 1 f rfl T);refine PW.al s o ?_;refine PW.st f d (G.th 1 rfl T) L (bW _) ?_;refine PW.va (.bool true) ?_;clear M G;refine PW.dn ?_;refine Uz ?_;refine PW.begin ?_;refine PW.mv ?_;refine PW.mv ?_;refine PW.gd ?_;refine PW.mv ?_;refine PW.gd ?_;refine PW.gi (NH Z w4) λw5 x=>?_
 have B:=mk1 (N.grow x);clear N x;refine PW.va (.bool true) ?_;refine PW.mv ?_;refine PW.gd ?_;refine PW.ro (B.at_ 1).2.1 d uCP L ?_;refine PW.gd ?_;refine PW.mv ?_;refine PW.gd ?_;refine PW.ro (cs:=[j,y,r,a,u,g,z,p,l,k,b]) (B.at_ 0).2.1 c uAr iAr ?_;refine PW.gd ?_;refine PW.gi (X.out w5 B.bl) λw6 D=>?_
 have K6:=mk1 (B.grow D);refine PW.va (.bool true) ?_;refine PW.va (.bool true) ?_;refine PW.dn ?_;go_wp2;go_ret;exact⟨_,rfl,K6.bl,rfl⟩
theorem Q8(C:Fld P)(O:Ord N)(k:∀r:EC.Pt P,On r->mul N r=none)(hP:IsP N){t:Nat}(R:Rv N)(p:Wd R.n t)(hv:R.v<2^R.n)(hN:18446744073709551616<=N)(sd:List UInt8)(sq:Option Wu)(sc:Nat)(V A S C1 C2 L3 L6 L:Bs)(hL:RvL C k R V A S C1 C2 L3 L6 L)(hS:RvS R sd)(q:Md.Ps Bs (Fin N) (OnP P))(Z:q.s=bB L)(M:q.a=R.a)(hc:q.b=R.b)(h0:q.g=gPt C ⟨#[108,101,102,116]⟩)(h5:q.h=R.hh (aD C k) (gPt C ⟨#[114,105,103,104,116]⟩))(u:OnP P)(hu:u=(aD C k).ac R.w (uPt C))(Lb Rb:Nat->Bs)(h4:∀j,Lb j=wP ((aD C k).pLi (chF N) ivF u t q j))(h8:∀j,Rb j=wP ((aD C k).pTi (chF N) ivF u t q j))(Ab Bb:Bs)(U:Ab=bx (((aD C k).pst (chF N) ivF u t q t).a 0).val)(X:Bb=bx (((aD C k).pst (chF N) ivF u t q t).b 0).val)(pz:Rp)(h7:Hid (⟨A,S,C1,C2,R.tau.val,R.mu.val,R.t.val⟩=pz))(v1:Ut)(w:Ur)(hk:Arg w v1 (bx R.k.val))(hp:PartOk w (.slice sq 32 sc) sd):
 UH prog 5 #[uZ (R.v:Int),v1,iZ (R.n:Int),.slice sq 32 sc] w (rZ w λe w'=>∃e' B0,e=.tuple #[e',iZ 0]/\w.heap.size<=B0/\RgA B0 t pz Lb Rb Ab Bb e' w'):=by
 have ha:R.n<=64:=by rw[p.1];exact UC (VA dC p.2.2) dC
 have h6:R.v<18446744073709551616:=Ux hv (UC (VA dC ha) dC);have i:=λ(W:Ur) (F:kZ w W)=>Ma C O k hP t p.2.2 R p.1 h6 hN sd sq 32 sc V A S C1 C2 L3 L6 L hL hS q Z M hc h0 h5 u hu Lb Rb h4 h8 Ab Bb U X pz h7 W (hp.below F)
 have o:=λ(W:Ur) (F:kZ w W)=>EA O v1 (bx R.k.val) W (hk.below F)
 rw[kJ O R.k.isLt]at o;have T:¬((2^R.n-1:Nat):Int)<(R.v:Int):=oM;have h9:decide (((2^R.n-1:Nat):Int)<(R.v:Int))=false:=decide_eq_false T;generalize hi:R.v=vn at *;generalize he:(2^R.n-1:Nat)=gn at *;have HG:=λ(W:Ur)=>Fh p W
 rw[he]at HG;have HW:=λ(W:Ur)=>NH p W
 generalize hg:R.n=nn at *;obtain⟨vk,b⟩:=hE (nv R.k.val);rw[b.out]at i;have h2:Hid (∀W,kZ w W->UH prog 16 #[v1] W (rZ W λe w'=>e=.tuple #[vk,.bool true])):=λW F=>by
  rw[<-b.out];exact o W F
 have Q:=mk3 i HG HW;clear i HG HW o hp hk hL hS;refine hG (w.heap.size) λk8 D=>?_
 refine hG (w.alloc (.cells z11.toArray 28)) λw1 v=>?_
 have K1:=mk1 ((Mp.start w).new D v);go_enter func5,ntmps5;refine Uz ?_;refine PW.begin ?_;refine PW.al D v ?_;refine PW.va (iZ 0) ?_;refine PW.dn ?_;refine Uz ?_;refine Uz ?_;refine PW.begin ?_;refine PW.mv ?_;refine PW.gi (Q.2.2 w1) λw2 a=>?_
 have K2:=mk1 (K1.grow a);clear K1 a;refine PW.va (.bool false) ?_;refine PW.mv ?_;refine PW.gd ?_;refine PW.mv ?_;refine PW.gd ?_;refine PW.va (iZ 32) ?_;refine PW.gd ?_;refine PW.va (.bool false) ?_;refine PW.va (.bool false) ?_;refine PW.dn ?_;refine VI rfl ?_;refine WS ?_;refine Uz ?_;refine PW.begin ?_;refine PW.mv ?_;refine PW.gi (h2.out w2 K2.bl) λw3 z=>?_
 have K3:=mk1 (K2.grow z);clear K2 z;refine PW.mv ?_;refine PW.va vk ?_;refine PW.va (.bool true) ?_;refine hG (w3.heap.size) λh3 d=>?_
 refine hG (w3.alloc (.cells (RG.z 4).toArray 49)) λw4 x=>?_
 refine hG (w4.setCells h3 0 (wn R.k.val)) λw5 E=>?_
 have K4:=mk1 (K3.new d x);have K5:=mk1 (K4.put 1 E);refine PW.al d x ?_;refine PW.st E b (K4.th 1) i40 (aM _) ?_;refine PW.va (.bool true) ?_;clear K3 K4;refine PW.dn ?_;refine Uz ?_;refine Uz ?_;refine PW.begin ?_;refine PW.mv ?_;refine PW.va (.bool false) ?_;refine PW.dn ?_;refine VI rfl ?_;refine WS ?_;refine Uz ?_;refine Uz ?_;refine PW.begin ?_;refine PW.mv ?_;refine PW.mv ?_;refine PW.gi (Q.2.1 w5) λw6 y=>?_
 have s:=mk1 (K5.grow y);clear K5 y;refine PW.va (.bool (decide ((gn:Int)<(vn:Int)))) ?_;rw[h9];refine PW.dn ?_;refine VI rfl ?_;refine WS ?_;refine Uz ?_;refine PW.begin ?_;refine PW.mv ?_;refine PW.ro (s.at_ 1).2.1 b u40 i40 ?_;refine PW.mv ?_;refine PW.mv ?_;refine PW.ca (Q.1 w6 s.bl) ?_;rintro e w7 ⟨B,B0,h1,m⟩;simp only[UN,Us,Uu,Uv];have l8:=(s.at_ 0).1;have G:=mk1 (s.grow B);have RA:=mk1 m;obtain⟨ra,rb,rc,f,Y,rf,l,I,K,H,J,rfl,-,tL,tR,eA,eB⟩:=m.ex;have c:H.oneCell'=true/\J.oneCell'=true/\I.oneCell'=true/\K.oneCell'=true:=⟨eA.one.2,eB.one.2,tL.one.2,tR.one.2⟩
 clear m tL tR eA eB B;refine hG (w7.setCells k8 0 [r33 ra,r33 rb,r33 rc,r33 f,r32 Y,r32 rf,r32 l,I,K,H,J]) λw8 n=>?_
 have K8:=mk1 (G.put 0 n);have RB:=mk1 (RA.set (us:=[r33 ra,r33 rb,r33 rc,r33 f,r32 Y,r32 rf,r32 l,I,K,H,J]) (G.at_ 0) oM);rw[n.out]at RB;refine PW.st (cs:=[r33 ra,r33 rb,r33 rc,r33 f,r32 Y,r32 rf,r32 l,I,K,H,J]) n (Hid.mk' rfl) (G.th 0) iAr (by simp only[Ya,Zt,ZK,c.1,c.2.1,c.2.2.1,c.2.2.2,show ∀g,(r33 g).oneCell'=true from λ_=>rfl,show ∀g,(r32 g).oneCell'=true from λ_=>rfl,Bool.and_true]) ?_;refine PW.va (iZ 0) ?_;refine PW.dn ?_;have KE:=mk2 K8.bl (And.intro (UC s.bl.size h1) RB.out);have Kr:=(K8.at_ 0).2.1;clear s G K8 RA RB;refine wp_ret ?_;refine UE (fY 8 9 28 rfl Kr rfl rfl uAr iAr) rfl ?_;exact⟨_,rfl,KE.1,_,_,rfl,KE.2.1,KE.2.2⟩
end
section
open SPA
variable {P:Nat}[NeZero P]{N:Nat}[NeZero N]
theorem Qw(C:Fld P)(O:Ord N)(k:∀r:EC.Pt P,On r->mul N r=none)(g:IsP N)(U:18446744073709551616<=N){t:Nat}(R:Rv N)(H:Wd R.n t)(hv:R.v<2^R.n)(V A S x i G F m:Bs)(b:RvL C k R V A S x i G F m)(q:Md.Ps Bs (Fin N) (OnP P))(v:q.s=bB m)(n:q.a=R.a)(y:q.b=R.b)(f:q.g=gPt C ⟨#[108,101,102,116]⟩)(c:q.h=R.hh (aD C k) (gPt C ⟨#[114,105,103,104,116]⟩))(u:OnP P)(I:u=(aD C k).ac R.w (uPt C))(z Rb:Nat->Bs)(B:∀j,z j=wP ((aD C k).pLi (chF N) ivF u t q j))(s:∀j,Rb j=wP ((aD C k).pTi (chF N) ivF u t q j))(L K:Bs)(o:L=bx (((aD C k).pst (chF N) ivF u t q t).a 0).val)(p:K=bx (((aD C k).pst (chF N) ivF u t q t).b 0).val)(D:Rp)(l:Hid (⟨A,S,x,i,R.tau.val,R.mu.val,R.t.val⟩=D))(J:Nat)(e:Ut)(w:Ur)(d:RgA J t D z Rb L K e w):
 UH prog 54 #[pvl V,iZ (R.n:Int),e] w (rZ w λe w'=>e=.bool true):=by
 obtain rfl:=l.out;have E:R.y.val≠0:=by rw[b.y];exact FT g.1 _
 have ok:(⟨A,S,x,i,R.tau.val,R.mu.val,R.t.val⟩:Rp).Ok:=⟨by rw[b.eA];exact aT _,by rw[b.eS];exact aT _,by rw[b.e1];exact aT _,by rw[b.e2];exact aT _⟩
 have T:=R.sums (aD C k) (gPG C) (hPV C) g E hv;have W:=R.point (aD C k) (gPG C) (uPt C) (gPt C ⟨#[108,101,102,116]⟩) (gPt C ⟨#[114,105,103,104,116]⟩) g E;have hf:=PN C k g u t q;rw[o,p]at d;generalize ((aD C k).pst (chF N) ivF u t q t).a 0=Q at *;generalize ((aD C k).pst (chF N) ivF u t q t).b 0=M at *;refine Oq C O k g U H _ ok V _ _ _ _ _ b.eV b.eA b.eS b.e1 b.e2 R.tau R.mu R.t R.x R.y R.z R.w rfl rfl rfl G F m b.l3 b.y b.z b.l6 b.x b.l8 b.w z Rb _ _ B s Q M u I ⟨q.s,(aD C k).hdP u (2^t) q,q.g,q.h⟩ v f c ?_ _ rfl ?_ hf J e w d
 ·show(aD C k).hd q.a q.b q.g q.h u (2^t)=(aD C k).ad ((aD C k).ad ((aD C k).ad ((aD C k).ad _ _) _) ((aD C k).ad ((aD C k).dt (λ_=>-R.z) q.g R.n) ((aD C k).dt (rgS R.y R.z) q.h R.n))) _;rw[<-H.1,n,y,f,c,I];exact W.symm
 ·exact congrArg wP T
theorem QP(C:Fld P)(O:Ord N)(b:∀r:EC.Pt P,On r->mul N r=none)(v n:Nat)(k:Fin N)(d:List UInt8):∃(R:Rv N) (V A S o j e f m:Bs),R.v=v/\R.n=n/\R.k=k/\RvL C b R V A S o j e f m/\RvS R d:=by
 have lt:∀l B,chL N l B<N:=λl B=>uU O _
 obtain⟨s,I⟩:∃s:Nat->Fin N,∀i,(s i).val=chL N [115,108] [d,(hZ i).toList]:=⟨λi=>⟨_,lt _ _⟩,λ_=>rfl⟩
 obtain⟨q,G⟩:∃s:Nat->Fin N,∀i,(s i).val=chL N [115,114] [d,(hZ i).toList]:=⟨λi=>⟨_,lt _ _⟩,λ_=>rfl⟩
 obtain⟨al,t⟩:∃x:Fin N,x.val=chL N [97,108,112,104,97] [d]:=⟨⟨_,lt _ _⟩,rfl⟩
 obtain⟨c,g⟩:∃x:Fin N,x.val=chL N [114,104,111] [d]:=⟨⟨_,lt _ _⟩,rfl⟩
 obtain⟨t1,u⟩:∃x:Fin N,x.val=chL N [116,97,117,49] [d]:=⟨⟨_,lt _ _⟩,rfl⟩
 obtain⟨t2,p⟩:∃x:Fin N,x.val=chL N [116,97,117,50] [d]:=⟨⟨_,lt _ _⟩,rfl⟩
 obtain⟨V,M⟩:∃V,V=wP ((⟨v,n,s,q,al,c,t1,t2,k,0,0,0,0⟩:Rv N).pV (aD C b) (gPG C) (hPV C)):=⟨_,rfl⟩
 obtain⟨A,T⟩:∃A,A=wP ((⟨v,n,s,q,al,c,t1,t2,k,0,0,0,0⟩:Rv N).pA (aD C b) (gPG C) (gPt C ⟨#[108,101,102,116]⟩) (gPt C ⟨#[114,105,103,104,116]⟩)):=⟨_,rfl⟩
 obtain⟨S,Q⟩:∃A,A=wP ((⟨v,n,s,q,al,c,t1,t2,k,0,0,0,0⟩:Rv N).pS (aD C b) (gPG C) (gPt C ⟨#[108,101,102,116]⟩) (gPt C ⟨#[114,105,103,104,116]⟩)):=⟨_,rfl⟩
 obtain⟨e,E⟩:∃L,L=bgL V n A S:=⟨_,rfl⟩
 obtain⟨y,F⟩:∃y,y=kM N e:=⟨_,rfl⟩
 obtain⟨z,D⟩:∃z,z=kM N (bB e):=⟨_,rfl⟩
 obtain⟨o,W⟩:∃A,A=wP ((⟨v,n,s,q,al,c,t1,t2,k,y,z,0,0⟩:Rv N).p1 (aD C b) (gPG C) (hPV C)):=⟨_,rfl⟩
 obtain⟨j,U⟩:∃A,A=wP ((⟨v,n,s,q,al,c,t1,t2,k,y,z,0,0⟩:Rv N).p2 (aD C b) (gPG C) (hPV C)):=⟨_,rfl⟩
 obtain⟨f,H⟩:∃L,L=mdL (bB (bB e)) o j:=⟨_,rfl⟩
 obtain⟨x,hx⟩:∃x,x=kM N f:=⟨_,rfl⟩
 obtain⟨m,J⟩:∃L,L=enL (bB f) (⟨v,n,s,q,al,c,t1,t2,k,y,z,x,0⟩:Rv N).tau.val (⟨v,n,s,q,al,c,t1,t2,k,y,z,x,0⟩:Rv N).mu.val (⟨v,n,s,q,al,c,t1,t2,k,y,z,x,0⟩:Rv N).t.val:=⟨_,rfl⟩
 obtain⟨w,K⟩:∃w,w=kM N m:=⟨_,rfl⟩
 exact⟨⟨v,n,s,q,al,c,t1,t2,k,y,z,x,w⟩,V,A,S,o,j,e,f,m,rfl,rfl,rfl,⟨M,T,Q,W,U,E,F,D,H,hx,J,K⟩,⟨I,G,t,g,u,p⟩⟩
theorem RgA.below{l t:Nat}{p:Rp}{q Rb:Nat->Bs}{o n:Bs}{e:Ut}{W W':Ur}(h:RgA l t p q Rb o n e W)(i:kZ W W'):RgA l t p q Rb o n e W':=by
 obtain⟨a,b,c,d,u,m,s,B,A,v,x,w,r,j,hR,z,y⟩:=h.ex;have k:Kq (λ_=>True) W W':=Kq.of_below i;exact⟨a,b,c,d,u,m,s,B,A,v,x,w,r.keep k,j.keep k λg f=>i.block g (j.lt f).2,hR.keep k λg f=>i.block g (hR.lt f).2,z.keep k,y.keep k⟩
theorem Q6{S R M:Type}(s:S)(a b:Nat->R)(g h:Nat->M):∃q:Md.Ps S R M,q.s=s/\q.a=a/\q.b=b/\q.g=g/\q.h=h:=⟨⟨s,a,b,g,h⟩,rfl,rfl,rfl,rfl,rfl⟩
theorem Lu(C:Fld P)(O:Ord N)(f:∀r:EC.Pt P,On r->mul N r=none)(hP:IsP N)(hN:18446744073709551616<=N){n t:Nat}(T:Wd n t)(v:Nat)(hv:v<2^n)(k:Fin N)(X:List UInt8):∃(V:Bs) (o:Rp) (l Rb:Nat->Bs) (i g:Bs),V=wP ((aD C f).cm (hPV C) (gPG C) (ofF N v) k) /\
 (∀(L:Option Wu) (sc:Nat) (v1:Ut) (w:Ur),Arg w v1 (bx k.val)->PartOk w (.slice L 32 sc) X->UH prog 5 #[uZ v,v1,iZ n,.slice L 32 sc] w (rZ w λe w'=>∃e' p,e=.tuple #[e',iZ 0]/\w.heap.size<=p/\RgA p t o l Rb i g e' w')) /\
 ∀(p:Nat) (e v0:Ut) (w:Ur),Arg33 w v0 V->RgA p t o l Rb i g e w->UH prog 12 #[v0,iZ n,e] w (rZ w λe w'=>e=.bool true):=by
 obtain⟨R,V,A,S,Y,Q,L3,L6,U,rfl,rfl,rfl,K,hS⟩:=QP C O f v n k X;obtain⟨q,G,B,H,I,y⟩:=Q6 (bB U) R.a R.b (gPt C ⟨#[108,101,102,116]⟩) (R.hh (aD C f) (gPt C ⟨#[114,105,103,104,116]⟩));obtain⟨u,hu⟩:∃u,u=(aD C f).ac R.w (uPt C):=⟨_,rfl⟩
 obtain⟨l,J⟩:∃l:Nat->Bs,∀j,l j=wP ((aD C f).pLi (chF N) ivF u t q j):=⟨λj=>wP ((aD C f).pLi (chF N) ivF u t q j),λ_=>rfl⟩
 obtain⟨Rb,F⟩:∃Rb:Nat->Bs,∀j,Rb j=wP ((aD C f).pTi (chF N) ivF u t q j):=⟨λj=>wP ((aD C f).pTi (chF N) ivF u t q j),λ_=>rfl⟩
 obtain⟨i,D⟩:∃i,i=bx (((aD C f).pst (chF N) ivF u t q t).a 0).val:=⟨_,rfl⟩
 obtain⟨g,E⟩:∃g,g=bx (((aD C f).pst (chF N) ivF u t q t).b 0).val:=⟨_,rfl⟩
 obtain⟨o,z⟩:=hE (⟨A,S,Y,Q,R.tau.val,R.mu.val,R.t.val⟩:Rp);refine⟨V,o,l,Rb,i,g,K.eV,λL sc v1 w Z M=>?_,λp e v0 w Z M=>?_⟩
 ·exact Q8 C O f hP R T hv hN X L sc V A S Y Q L3 L6 U K hS q G B H I y u hu l Rb J F i g D E o z v1 w Z M
 ·have hr:∃q,rd P V=some q:=by
   rw[K.eV];obtain⟨q,hq,-⟩:=zM C (R.pV (aD C f) (gPG C) (hPV C)).2;exact⟨q,hq⟩
  obtain⟨x,hx⟩:=hr;obtain⟨a,b,c,d,u',m,s,vL,vR,vA,vB,e1,-⟩:=M.ex;subst e1;exact Qu C T V x hx v0 _ _ _ _ _ _ _ _ _ _ _ w Z λW hb=>Qw C O f hP hN R T hv V A S Y Q L3 L6 U K q G B H I y u hu l Rb J F i g D E o z p _ W (M.below hb)
end
section
open SPA
variable {P:Nat}[NeZero P]{N:Nat}
theorem TlL.vl{Q:Nat->Prop}{k t:Nat}{W:Ur}{v:Ut}{B:Nat->Bs}(h:TlL Q k t W v B)(n:0<t):∃g c ys,v=sZ g t c/\VL W (some (aZ g)) t ys/\∀j,j<t->∃x,ys[j]? = some x/\ElQ Q 33 W x (B j):=by
 obtain⟨xs,d,i⟩:=h.ex;obtain⟨g,c,rfl⟩:=wW d n;have o:xs.length=t:=by have:=d.1;omega
 have p:=(h.lt (g:=g) rfl).2;refine⟨g,c,xs,rfl,⟨o,λe=>(by cases e),UX ⟨g,0,rfl,p,λj u b=>?_⟩,λu b=>?_⟩,i⟩
 ·rw[UD];exact zU d b
 ·obtain⟨j,m,rfl⟩:=List.mem_iff_getElem.1 b;obtain⟨x,f,l⟩:=i j oM;rw[UG m]at f;obtain rfl:=UO.inj f;exact l.one.2
theorem ElQ.pt{Q:Nat->Prop}{m:Nat}{W:Ur}{x:Ut}{b:Bs}(h:ElQ Q m W x b):Pt W x b:=by
 obtain⟨k,c,rfl,-,d,-,f,e⟩:=h;exact⟨_,c,by rw[d],UX ⟨k,0,rfl,f,e⟩⟩
def rgB(t:Nat)(p:Rp)(k Rb:Nat->Bs)(c b:Bs):List Bs:=[p.a,p.s,p.c,p.d,bx p.u,bx p.m,bx p.t]++(VG t).map k++(VG t).map Rb++[c,b]
theorem PtB.app{W:Ur}{us vs:List Ut}{A B:List Bs}(h:PtB W us A)(d:PtB W vs B):PtB W (us++vs) (A++B):=by
 refine⟨by rw[UA,UA,h.1,d.1],λj u b k c=>?_⟩;by_cases e:j<us.length
 ·rw[UT e]at k;rw[UT (by rw[h.1];exact e)]at c;exact h.2 j u b k c
 ·rw[U1 oM]at k;rw[U1 (by rw[h.1];omega),h.1]at c;exact d.2 _ u b k c
theorem PtB.one{W:Ur}{u:Ut}{b:Bs}(h:Pt W u b):PtB W [u] [b]:=⟨rfl,λj e d k c=>by
 match j with
 | 0 =>
  cases k
  cases c
  exact h
 | j+1=>cases k⟩
theorem PtB.list{W:Ur}{Q:Nat->Prop}{t:Nat}{ys:List Ut}{B:Nat->Bs}(c:ys.length=t)(h:∀j,j<t->∃x,ys[j]? = some x/\ElQ Q 33 W x (B j)):PtB W ys ((VG t).map B):=⟨by simp[c],λj u b e d=>by
 have f:j<t:=by rw[<-c];exact(UF.1 e).1
 obtain⟨x,k,g⟩:=h j f;rw[e]at k;obtain rfl:=UO.inj k;rw[Vz,List.getElem?_range f]at d;obtain rfl:=UO.inj d;exact g.pt⟩
theorem RgA.rg{C t:Nat}{p:Rp}{w Rb:Nat->Bs}{r o:Bs}{e:Ut}{W:Ur}(h:RgA C t p w Rb r o e W)(l:0<t):∃(q:Rg) (f k:List Ut) (i j:Nat),e=.agg q.cs.toArray/\q.l.n=t/\q.r.n=t/\q.a.n=33/\VL W q.l.q q.l.n f/\VL W q.r.q q.r.n k/\q.l.q=some (aZ i)/\q.r.q=some (aZ j)/\PtB W (qY q f k) (rgB t p w Rb r o):=by
 obtain⟨a,b,c,d,u,m,s,I,H,F,G,rfl,g,B,hR,v,n⟩:=h.ex;obtain⟨i,cl,f,rfl,v1,D⟩:=B.vl l;obtain⟨j,cr,k,rfl,v2,z⟩:=hR.vl l;have pA:=v.pt;have x:=n.pt;obtain⟨y,cA,rfl,-⟩:=v;obtain⟨E,cB,rfl,-⟩:=n;refine⟨⟨⟨some (aZ a),33,_⟩,⟨some (aZ b),33,_⟩,⟨some (aZ c),33,_⟩,⟨some (aZ d),33,_⟩,⟨some (aZ u),32,_⟩,⟨some (aZ m),32,_⟩,⟨some (aZ s),32,_⟩,⟨some (aZ i),t,cl⟩,⟨some (aZ j),t,cr⟩,⟨some (aZ y),32,cA⟩,⟨some (aZ E),32,cB⟩⟩,f,k,i,j,rfl,rfl,rfl,rfl,v1,v2,rfl,rfl,?_⟩;exact(((PtB.one g.a.pt).app ((PtB.one g.b.pt).app ((PtB.one g.c.pt).app ((PtB.one g.d.pt).app ((PtB.one g.e.pt).app ((PtB.one g.f.pt).app (PtB.one g.g.pt))))))).app (PtB.list v1.len D)).app (PtB.list v2.len z) |>.app ((PtB.one pA).app (PtB.one x))
theorem TlL.sz{Q:Nat->Prop}{d t:Nat}{W:Ur}{v:Ut}{B:Nat->Bs}(h:TlL Q d t W v B):((VG t).map B).map V3=VB t 33:=by
 obtain⟨xs,-,g⟩:=h.ex;refine List.eq_replicate_iff.2 ⟨by simp,λx hx=>?_⟩;simp only[Vn,List.mem_range]at hx;obtain⟨b,⟨j,f,rfl⟩,rfl⟩:=hx;obtain⟨y,-,k,c,-,-,e,-⟩:=g j f;exact e
theorem ElQ.sz{Q:Nat->Prop}{m:Nat}{W:Ur}{x:Ut}{b:Bs}(h:ElQ Q m W x b):V3 b=m:=by
 obtain⟨k,c,-,-,d,-⟩:=h;exact d
theorem RgA.good{n t:Nat}{p:Rp}{i Rb:Nat->Bs}{g f:Bs}{e:Ut}{W:Ur}(h:RgA n t p i Rb g f e W)(l:t<=6):mM t t (rgB t p i Rb g f):=by
 obtain⟨a,b,c,d,u,m,s,x,w,r,v,-,k,j,hR,q,o⟩:=h.ex;refine⟨rfl,l,?_⟩;unfold rgB;rw[We,We,We,j.sz,hR.sz];simp only[List.map_cons,List.map_nil,k.a.sz,k.b.sz,k.c.sz,k.d.sz,k.e.sz,k.f.sz,k.g.sz,q.sz,o.sz];rfl
theorem RgA.put{r t:Nat}{p:Rp}{d Rb:Nat->Bs}{b k:Bs}{e:Ut}{W:Ur}(h:RgA r t p d Rb b k e W)(s:0<t)(n:t<=6):UH prog 13 #[e] W (rZ W λe W'=>∃v,e=.tuple #[v,iZ 0]/\Pt W' v (eU t (rgB t p d Rb b k) (t+t+9))/\∃g c,v=sZ g (V3 (eU t (rgB t p d Rb b k) (t+t+9))) c/\V3 (eU t (rgB t p d Rb b k) (t+t+9))<=c):=by
 have u:=h.good n;obtain⟨q,y,o,A,B,rfl,i,f,-,v1,v2,m,x,w⟩:=h.rg s;refine(OL q W v1 v2 (UX m) (UX x) w oM oM).mono ?_;rintro e W' ⟨z,⟨-,v,rfl,l⟩|⟨j,-⟩⟩
 ·rw[i,f]at l;exact⟨_,rfl,z,v,rfl,l⟩
 ·rw[i,f]at j;exact absurd u j
end
section
variable {n:Nat}{BB:List Bs}
theorem Fj(h:mM n n BB){j:Nat}{b:Bs}(k:BB[j]? = some b):(gZ n n)[j]? = some (V3 b):=by
 rw[<-h.2.2,Vz,k];rfl
theorem nJ(h:mM n n BB):BB.length=n+n+9:=by
 have:=congrArg List.length h.2.2;unfold gZ at this;simp at this;omega
theorem vJ(h:mM n n BB):∀i,i<=n+n+9->V3 (eU n BB i)=offs n i
 | 0,_=>rfl
 | i+1,hi=>by
  have b:i<BB.length:=by rw[nJ h];omega
  have k:=UG b;rw[lE n BB i _ k,VN,vJ h i oM,kW n i _ (Fj h k)]
theorem yN(i:Nat):∀m,i+m<=BB.length->∃r,eU n BB (i+m)=eU n BB i++r
 | 0,_=>⟨#[],by simp⟩
 | m+1,hm=>by
  obtain⟨r,k⟩:=yN i m oM;have b:=UG (show i+m<BB.length by omega);refine⟨r++BB[i+m],?_⟩;rw[<-WR,lE n BB (i+m) _ b,k,Array.append_assoc]
theorem MU(h:mM n n BB){j:Nat}{b:Bs}(k:BB[j]? = some b):chk (eU n BB (n+n+9)) n j=b:=by
 have d:=(UF.1 k).1;rw[nJ h]at d;obtain⟨r,c⟩:=yN (n:=n) (BB:=BB) (j+1) (n+n+9-(j+1)) (by rw[nJ h];omega);rw[show j+1+(n+n+9-(j+1))=n+n+9 by omega,lE n BB j b k]at c;have s1:=vJ h j oM;have s2:=kW n j _ (Fj h k);unfold chk;rw[c,s2,<-s1];apply Array.ext
 ·simp
 ·intro i f e;simp[Array.getElem_append]
theorem JW(h:mM n n BB):(eU n BB (n+n+9))[0]!.toNat=n/\nO (eU n BB (n+n+9)):=by
 have d:=h.2.1;obtain⟨r,c⟩:=yN (n:=n) (BB:=BB) 0 (n+n+9) (by rw[nJ h];omega);rw[UD]at c;have b:=vJ h (n+n+9) (Uw _);rw[xB]at b;have k:(eU n BB (n+n+9))[0]!.toNat=n:=by
  rw[c];have:(eU n BB 0++r)[0]! = n.toUInt8:=by
   rw[show eU n BB 0=#[n.toUInt8] from rfl,getElem!_pos _ 0 (by simp;omega),Array.getElem_append_left (by simp)];rfl
  rw[this];exact US oM
 exact⟨k,oM,oM,by rw[k];exact b⟩
end
section
section
variable {P:VD}{ops:Array Vk}{Q:Exit->Act->Ur->Prop}{a0:Act}{F:RG.Flow}{k:Nat}{o:Vk}
theorem MX(T:U8)(s t:Tmp)(ho:o.op=.slice T (.tmp s) none (some (.tmp t)) none)
 (h:∀(a:Act) (w:Ur),PreF F ops a0 k o a w->∃v1 v2 v,a.eval (.tmp s)=v1/\a.eval (.tmp t)=v2/\(Xn T v1 none (some v2) none).run P w=.ok v w/\F.E k w w/\F.R k v w):bF P Q F ops a0 k o:=
 mH λa w e=>by
  obtain⟨v1,v2,v,d,c,b,hE,hR⟩:=h a w e;refine⟨v,w,?_,hE,hR⟩;unfold U5;rw[ho];dsimp only[yBB];rw[d,c,UV,b];rfl
theorem MW(T:U8)(s t:Tmp)(ho:o.op=.slice T (.tmp s) (some (.tmp t)) none none)
 (h:∀(a:Act) (w:Ur),PreF F ops a0 k o a w->∃v1 v2 v,a.eval (.tmp s)=v1/\a.eval (.tmp t)=v2/\(Xn T v1 (some v2) none none).run P w=.ok v w/\F.E k w w/\F.R k v w):bF P Q F ops a0 k o:=
 mH λa w e=>by
  obtain⟨v1,v2,v,d,c,b,hE,hR⟩:=h a w e;refine⟨v,w,?_,hE,hR⟩;unfold U5;rw[ho];dsimp only[yBB];rw[d,c,UV,b];rfl
theorem GT(h:∀(a:Act) (w:Ur),PreF F ops a0 k o a w->∃(b:List (Tmp × Ut)) (f:FuncId) (args:Array Ut),AllE a b/\(dA (b.map (·.1)) o,(U5 (evo (evl b)) o).run P w)=(true,.ok (.enter f args) w)/\UH P f args w (λe w'=>∃v,e=.returned v/\F.E k w w'/\F.R k v w')):bF P Q F ops a0 k o:=by
 intro a w K m l d i;obtain⟨b,f,args,j,c,g⟩:=h a w ⟨m,l,d⟩;simp only[V6.injEq]at c;unfold VT;rw[iU (evl b) (b.map (·.1)) c.1 j.ev,c.2,Oper.upon_enter];refine g.mono ?_;rintro e w' ⟨v,rfl,hE,hR⟩;exact i _ _ hE hR
theorem GR(T:U8)(t u:Tmp)(ho:o.op=.store T (.tmp t) (.tmp u))(hd:o.dst=none)(i:(P.info? T).map (·.size)=some 1)
 (h:∀(a:Act) (w:Ur),PreF F ops a0 k o a w->∃g off v old,a.eval (.tmp t)=oZ g off/\a.eval (.tmp u)=v/\w.cell? ⟨g,off,none⟩=some old/\w.frozen? ⟨g,off,none⟩=false/\v.oneCell'=true/\v.cells=#[v]/\F.E k w (w.setCell ⟨g,off,none⟩ v)/\F.R k WP (w.setCell ⟨g,off,none⟩ v)):bF P Q F ops a0 k o:=by
 intro a w K n m b c;obtain⟨g,off,v,old,l,e,e3,j,d,f,hE,hR⟩:=h a w ⟨n,m,b⟩;have:=c WP _ hE hR;unfold VT U5;rw[ho];dsimp only;rw[l,e,UV,wL e3 j d f i];show K (a.put o.dst WP) _;exact this
end
theorem P3(s:SP.Bs)(k i j:Nat)(c:j<(chk s k i).size)(b:offs k i+j<s.size):(chk s k i)[j]! = s[offs k i+j]!:=by
 rw[getElem!_pos (chk s k i) j c,getElem!_pos s (offs k i+j) b];unfold chk at c⊢;rw[Array.getElem_extract]
theorem IG{w z W:Ur}{t p d f i k:Nat}{vs:List Ut}{CH:Nat->SP.Bs}(h:RdI w z W t p d (sZ f k k) (sZ i k k) (fN d f 0 k i 0 k) vs CH)(D:vs.length=k+k+9):∃cs:List Ut,cs.length=11/\W.rangeAt d 0 cs/\∀v∈cs,v.oneCell'=true:=by
 have A:(fN d f 0 k i 0 k).length=k+k+9:=by
  rw[<-kV k k,<-sK d f 0 k i 0 k,UQ]
 have c:∀j,j<k+k+9->∃u,(∀x,(fN d f 0 k i 0 k)[j]? = some x->W.cell? x.1=some u)/\u.oneCell'=true:=λj b=>by
  obtain⟨u,l⟩:∃u,vs[j]? = some u:=⟨_,UG oM⟩
  exact⟨u,λx hx=>h.st j x u hx l,by rcases(h.ow j u l).own.2 with⟨e,-⟩|⟨g,cap,cur,e,-⟩<;>rw[e]<;>rfl⟩
 have two:∀j,j<2->∃u,W.cell? ⟨d,9+j,none⟩=some u/\u.oneCell'=true:=λj b=>by
  obtain⟨u,q,o⟩:=c (7+k+k+j) oM;obtain⟨x,hx⟩:∃x,(fN d f 0 k i 0 k)[7+k+k+j]? = some x:=⟨_,UG oM⟩
  rcases dT hx with⟨n,m⟩|⟨n,l,m⟩|⟨n,l,m⟩|⟨n,l,m⟩
  ·omega
  ·omega
  ·omega
  ·have:=q x hx;rw[m,show 7+k+k+j-7-k-k=j by omega]at this;exact⟨u,this,o⟩
 obtain⟨u0,a0,b0⟩:=c 0 oM;obtain⟨u1,m,b1⟩:=c 1 oM;obtain⟨u2,a2,G⟩:=c 2 oM;obtain⟨u3,q,C⟩:=c 3 oM;obtain⟨u4,o,B⟩:=c 4 oM;obtain⟨u5,n,F⟩:=c 5 oM;obtain⟨u6,s,E⟩:=c 6 oM;obtain⟨u9,r,a⟩:=two 0 oM;obtain⟨u10,l,y⟩:=two 1 oM;refine⟨[u0,u1,u2,u3,u4,u5,u6,sZ f k k,sZ i k k,u9,u10],rfl,λj u b=>?_,λv hv=>?_⟩
 ·rw[UD];match j,b with
  | 0,b=>obtain rfl:=UO.inj b;exact a0 _ rfl
  | 1,b=>obtain rfl:=UO.inj b;exact m _ rfl
  | 2,b=>obtain rfl:=UO.inj b;exact a2 _ rfl
  | 3,b=>obtain rfl:=UO.inj b;exact q _ rfl
  | 4,b=>obtain rfl:=UO.inj b;exact o _ rfl
  | 5,b=>obtain rfl:=UO.inj b;exact n _ rfl
  | 6,b=>obtain rfl:=UO.inj b;exact s _ rfl
  | 7,b=>obtain rfl:=UO.inj b;exact h.c7
  | 8,b=>obtain rfl:=UO.inj b;exact h.c8
  | 9,b=>obtain rfl:=UO.inj b;exact r
  | 10,b=>obtain rfl:=UO.inj b;exact l
  | j+11,b=>simp at b
 ·simp only[VX,UY,or_false]at hv;rcases hv with rfl|rfl|rfl|rfl|rfl|rfl|rfl|rfl|rfl|rfl|rfl<;>first|assumption|rfl
end
section
variable {P:Nat}[NeZero P]{N:Nat}
theorem QB:(prog.underlying 110).map (·.isRow)=some false:=kR
theorem Nr:(prog.underlying 3).map (·.isRow)=some false:=kR
theorem i22:(prog.info? 23).map (·.size)=some 1:=kR
theorem Cd{cs:List Ut}(h:∀v∈cs,v.oneCell'=true):cs.toArray.all (·.oneCell')=true:=Go.all_oneCell_toArray h
theorem Au:∀v∈zR,v.oneCell'=true:=λv hv=>by
 rw[(Zo.1 hv).2];rfl
theorem LK(s:SP.Bs)(gi c:Nat)(hs:s.size<=100000)(hc:s.size<=c)(h4:1<c)(w:Ur)(hl:gi<w.heap.size)(hH:Holds SP.encB w gi 0 s):
 UH prog 14 #[sZ gi s.size c] w (RdR w s s[0]!.toNat):=by
 obtain⟨z,J⟩:∃z,Hid (w.alloc (.cells zR.toArray 28)=z):=⟨_,rfl⟩
 have b1:kZ w z:=by rw[<-J.out];exact aO _ _
 have z1:z.heap.size=w.heap.size+1:=by rw[<-J.out,UB]
 have O:z.heap[w.heap.size]? = some (.cells zR.toArray 28 (0,0)):=by rw[<-J.out];exact WU
 have kc:=Hid.mkP b1;have ha:=Hid.mkP z1;have kb:=Hid.mkP O;have P1:=Hid.mkP (EH (cs:=zR) O rfl b1);have HH:=Hid.mkP hH;obtain⟨n,hn⟩:∃n:Nat,Hid (n=s.size):=⟨_,rfl⟩
 obtain⟨k,hk⟩:∃k:Nat,Hid (k=s[0]!.toNat):=⟨_,rfl⟩
 rw[<-hk.out];rw[<-hn.out]at hs hc⊢;by_cases h0:0<n
 ·have N:=(SP.Holds.below hH b1 hl 0 (by rw[<-hn.out];exact h0)).1;unfold SP.encB SP.ub at N;rw[<-hk.out,UD]at N;obtain⟨m,hm⟩:∃m,n=m+1:=⟨n-1,oM⟩
  have h9:¬((m:Int)+1=0):=oM;have ku:(0:Int)<(m:Int)+1:=oM;have kv:((m:Int)+1 == 0)=false:=by simpa using h9
  rw[hm]at hc hs⊢;have Hm:Hid (s.size=m+1):=by rw[<-hn.out,hm];rfl
  by_cases h6:k<=6
  ·have kk:¬(6:Int)<(k:Int):=oM;have kp:=yBE (P:=prog) 24 23 (.slice none 0 0) 24 v7 ME rfl .i64 .i64 k oM oM;have I:Hid (nO s↔m+1=293+66*k):=by
    show _↔_;unfold nO;rw[<-hk.out,Hm.out];exact⟨λh=>h.2.2,λh=>⟨oM,h6,h⟩⟩
   clear hm h9 h0 hH b1 O z1;go_enter func14,ntmps14;go_wp2_with (first|(refine aY (v:=jZ w.heap.size) (w':=z) rfl (.alloc 28) rfl ?_ ?_;(rw[<-J.out];kernel_rfl))|fail)
   go_cut [5] (λs5 wx=>∃l y A,s5=jZ l/\Hid (R4 z wx l y A k))
   case first =>
    go_region
    all_goals (try go_wp2)
    all_goals (go_meet;first|(refine⟨_,z.heap.size,z.heap.size+1,rfl,(⟨(three _ _ _ _ _ _ _).1,?_,?_,?_,?_,?_,?_,?_,?_,?_⟩:R4 _ _ _ _ _ _)⟩<;>first|(rw[(three _ _ _ _ _ _ _).2.1];omega)|exact(three _ _ _ _ _ _ _).2.2.1|exact(three _ _ _ _ _ _ _).2.2.2.1|exact(three _ _ _ _ _ _ _).2.2.2.2|omega)|(refine⟨_,z.heap.size,z.heap.size+1+1,rfl,(⟨(three _ _ _ _ _ _ _).1,?_,?_,?_,?_,?_,?_,?_,?_,?_⟩:R4 _ _ _ _ _ _)⟩<;>first|(rw[(three _ _ _ _ _ _ _).2.1];omega)|exact(three _ _ _ _ _ _ _).2.2.1|exact(three _ _ _ _ _ _ _).2.2.2.1|exact(three _ _ _ _ _ _ _).2.2.2.2|omega)|(refine⟨_,z.heap.size+1,z.heap.size,rfl,(⟨(three _ _ _ _ _ _ _).1,?_,?_,?_,?_,?_,?_,?_,?_,?_⟩:R4 _ _ _ _ _ _)⟩<;>first|(rw[(three _ _ _ _ _ _ _).2.1];omega)|exact(three _ _ _ _ _ _ _).2.2.1|exact(three _ _ _ _ _ _ _).2.2.2.1|exact(three _ _ _ _ _ _ _).2.2.2.2|omega)|(refine⟨_,z.heap.size+1,z.heap.size+1+1,rfl,(⟨(three _ _ _ _ _ _ _).1,?_,?_,?_,?_,?_,?_,?_,?_,?_⟩:R4 _ _ _ _ _ _)⟩<;>first|(rw[(three _ _ _ _ _ _ _).2.1];omega)|exact(three _ _ _ _ _ _ _).2.2.1|exact(three _ _ _ _ _ _ _).2.2.2.1|exact(three _ _ _ _ _ _ _).2.2.2.2|omega)|(refine⟨_,z.heap.size+1+1,z.heap.size,rfl,(⟨(three _ _ _ _ _ _ _).1,?_,?_,?_,?_,?_,?_,?_,?_,?_⟩:R4 _ _ _ _ _ _)⟩<;>first|(rw[(three _ _ _ _ _ _ _).2.1];omega)|exact(three _ _ _ _ _ _ _).2.2.1|exact(three _ _ _ _ _ _ _).2.2.2.1|exact(three _ _ _ _ _ _ _).2.2.2.2|omega)|(refine⟨_,z.heap.size+1+1,z.heap.size+1,rfl,(⟨(three _ _ _ _ _ _ _).1,?_,?_,?_,?_,?_,?_,?_,?_,?_⟩:R4 _ _ _ _ _ _)⟩<;>first|(rw[(three _ _ _ _ _ _ _).2.1];omega)|exact(three _ _ _ _ _ _ _).2.2.1|exact(three _ _ _ _ _ _ _).2.2.2.1|exact(three _ _ _ _ _ _ _).2.2.2.2|omega))
   case rest =>
    obtain⟨l,y,A,rfl,H4⟩:=hcut;have c7:wc.cell? ⟨l,7,none⟩=some (sZ y k k):=by unfold VY;rw[H4.out.hp];rfl
    have c8:wc.cell? ⟨l,8,none⟩=some (sZ A k k):=by unfold VY;rw[H4.out.hp];rfl
    have he:=Hid.mkP (zP l ⟨some (aZ y),k,k⟩ ⟨some (aZ A),k,k⟩ y 0 A 0 wc H4.out.p1.2 c7 c8 (UX rfl) (UX rfl) (by show k<=_;omega) (by show k<=_;omega));have kj:¬c=1:=oM;have kn:¬c-1=0:=oM;have k9:(1:Int)<=(m:Int)+1:=oM;have ke:(m:Int)+1<=(c:Int):=oM;clear c7 c8 N;go_wp2_with fail
    refine he.out.mono ?_;rintro e w3 ⟨v3,rfl,g3⟩;obtain⟨U,hw,rfl,kd,kr⟩:=g3.lt;have Z:=IH (CH:=chk s k) H4.out kc.out (by have:=ha.out;omega) g3;have T:=Hid.mkP Z.1;have I0:=Hid.mkP Z.2;have hM:(fN l y 0 k A 0 k).length=k+k+9:=by
     rw[<-kV k k,<-sK l y 0 k A 0 k,UQ]
    have h8:(tH l++lp y 0 k++lp A 0 k++endP l).length=k+k+9:=hM;have hu:Hid (∀W v,RdI w w3 W w.heap.size U l (sZ y k k) (sZ A k k) (fN l y 0 k A 0 k) v (chk s k)->∀i,i<k+k+9->∃r D f,(gZ k k)[i]? = some f/\(fN l y 0 k A 0 k)[i]? = some (⟨r,D,none⟩,f)/\f<=33/\32<=f/\W.rangeAt U (i*2) [oZ r D,iZ f]):=λW v G i hi=>by
     obtain⟨x,hx⟩:∃x,(fN l y 0 k A 0 k)[i]? = some x:=⟨_,UG oM⟩
     obtain⟨r,D,o,-⟩:=T.out.ad i x hx;have Q:(gZ k k)[i]? = some x.2:=by rw[<-sK l y 0 k A 0 k,Vz,hx];rfl
     have d:=VJ Q;have t:=g3.at i x hx;refine⟨r,D,x.2,Q,by rw[hx,<-o],EO k k _ d,?_,λj u hj=>?_⟩
     ·unfold gZ at d;simp only[Wz,VX,UY,or_false,Zo]at d;omega
     ·have e:=G.eq;have:W.cell? ⟨U,i*2+j,none⟩=w3.cell? ⟨U,i*2+j,none⟩:=by unfold VY;rw[e]
      rw[this,Vv];exact t j u (by unfold pC;rw[o];exact hj)
    have h7:Hid (w3.heap[w.heap.size]? = some (.cells zR.toArray 28 (0,0))):=by
     have:=ha.out;have d:=H4.out.bl.size;show _=_;rw[g3.bl.block w.heap.size oM,H4.out.bl.block w.heap.size oM];exact kb.out
    obtain⟨M,S⟩:∃M,Hid (k+k+9=M):=⟨_,rfl⟩
    rw[S.out]at hu h8;rw[h8];have b4:M<=21:=by have:=S.out;omega
    obtain⟨dP,hz,hq⟩:=Uy.1 QC;obtain⟨C1,ht⟩:∃C1,c-1=C1:=⟨_,rfl⟩
    rw[ht];have kt:1+C1=c:=oM;clear g3 hM h8 Z he kd kr kp ht kj kn k9 ke;go_wp2;go_loopg [0,32] M (λgk s0 s32 wr=>∃(i off ad L C:Nat),i+gk=M/\s32=iZ i/\s0=.slice (some ⟨gi,ad,none⟩) L C/\off+L=m+1/\off+C=c/\Hid (0<C->ad=off)/\Hid (off=offs k i/\∃vs,vs.length=i/\RdI w w3 wr w.heap.size U l (sZ y k k) (sZ A k k) (fN l y 0 k A 0 k) vs (chk s k)))
    case atStart=>exact⟨0,1,1,m,C1,oM,rfl,rfl,oM,kt,λ_=>rfl,rfl,[],rfl,I0.out⟩
    case round =>
     clear I0;obtain⟨i,off,ad,L,C,hi,rfl,rfl,b3,kz,kg,K⟩:=hrel;by_cases k7:i<M
     ·have k6:(i:Int)<(M:Int):=oM;have kx:=NK U M hw i k7;obtain⟨B,vs,E,G⟩:=K.out;obtain⟨r,D,f,k1,k2,k3,b5,k4⟩:=hu.out _ _ G i k7;have K4:=Hid.mkP k4;obtain⟨o,H⟩:∃o,Hid (wr.alloc (.cells #[oZ r D,iZ f] 112)=o):=⟨_,rfl⟩
      have ba:kZ wr o:=by rw[<-H.out];exact aO _ _
      have za:o.heap.size=wr.heap.size+1:=by rw[<-H.out,UB]
      have a0:o.cell? ⟨wr.heap.size,0,none⟩=some (oZ r D):=by rw[<-H.out];exact cZ wr _ _ 0 _ rfl
      have a1:o.cell? ⟨wr.heap.size,1,none⟩=some (iZ f):=by rw[<-H.out];exact cZ wr _ _ 1 _ rfl
      have X:Hid (RdI w w3 o w.heap.size U l (sZ y k k) (sZ A k k) (fN l y 0 k A 0 k) vs (chk s k)):=G.below T.out ba;have F:Hid (off=offs k i/\(gZ k k)[i]? = some f/\(fN l y 0 k A 0 k)[vs.length]? = some (⟨r,D,none⟩,f)/\vs.length=i/\r<wr.heap.size/\o.heap.size=wr.heap.size+1):=by
       refine⟨B,k1,by rw[E];exact k2,E,?_,za⟩;obtain⟨d,t,e',p1,-⟩:=T.out.ad i _ k2;injection e' with e' _ _
       have:=G.sz;omega
      clear K k4 k2 k1 G ba za B E;by_cases ky:L<f
      ·have hr:(L:Int)<(f:Int):=oM;have R:=Hid.mkP (EH (cs:=zR) (by rw[X.out.er];exact h7.out) rfl X.out.bl);have t:¬nO s:=λh=>by
        have N:=I.out.1 h;have V:=Mt k (i+1);rw[Cb,kW k i f F.out.2.1]at V;have:=F.out.1;omega
       go_wp2_with (first|(refine U6 rfl 112 _ rfl U (i*2) ?_ [oZ r D,iZ f] dP ?_ ?_ ?_ ?_ ?_;rfl;exact K4.out;exact hz;exact hq;exact iPt;skip)|(refine U2 rfl 28 _ _ rfl w.heap.size 0 zR.toArray ?_ ?_ ?_ ?_ ?_ ?_;rfl;rfl;(rw[H.out];exact R.out.1);exact iRg;exact Cd Au;rw[show zR.toArray.toList=zR from rfl,H.out])|fail)
       refine UE (fY 2 3 28 rfl R.out.2.1 rfl rfl uRg iRg) rfl ?_;exact U4 ⟨t,R.out.2.2,rfl⟩
      ·have hr:¬(L:Int)<(f:Int):=oM;obtain rfl:ad=off:=kg.out oM;go_wp2_with (first|(refine U6 rfl 112 _ rfl U (i*2) ?_ [oZ r D,iZ f] dP ?_ ?_ ?_ ?_ ?_;rfl;exact K4.out;exact hz;exact hq;exact iPt;skip)|fail)
       rw[H.out];have Q:(chk s k i).size=f:=by
        unfold chk;rw[kW k i f F.out.2.1,Array.size_extract,Hm.out];have:=F.out.1;omega
       have HX:Hid (∀W,kZ o W->Holds SP.encB W gi ad (chk s k i)):=λW Y j hj=>by
        have kh:kZ w W:=X.out.bl.trans (Y.mono X.out.bl.size);have d:ad+j<s.size:=by rw[Hm.out];omega
        have N:=(SP.Holds.below HH.out kh hl) (ad+j) d;rw[UD]at N;have e:(chk s k i)[j]! = s[ad+j]!:=by
         rw[F.out.1];exact P3 s k i j hj (by rw[<-F.out.1];exact d)
        rw[e];exact N
       have km:=LH gi ad L C f oM;obtain⟨nx,k0,ka⟩:=LG gi ad L C f oM oM;have kl:=Hid.mkP k0;clear k0;have hy:=Hid.mkP Q;clear Q;refine qG (FR o wr.heap.size r D f gi ad L C nx (chk s k i)) kR ⟨kR,CB ?_,λi j _ _ ko _ _ v w w' hE hR=>FR.stab (by have:=F.out.2.2.2.2;omega) i j ko v w w' hE hR,λi b _ hk w w' hE hB=>FR.stabB (by have:=F.out.2.2.2.2;omega) i b hk w w' hE hB⟩ (λb=>by
        match b with
        | 0=>exact(⟨rfl,rfl,rfl,Uw _,λ_ _=>rfl⟩:kZ o o.drew)
        | _+1=>exact⟨a0,a1,by have:=F.out.2.2.2.2;omega,Uw _⟩) ?_
       ·exact⟨lC λa W d=>⟨[(7,jZ wr.heap.size)],_,W,⟨d.o 7 kR,yCl⟩,kR,UR _ _,rfl⟩,
         D5 110 42 rfl QB λa W d=>⟨wr.heap.size,0,oZ r D,d.n 0 42 kR kR kR,(d.b 1 kR).1,UR _ _,rfl⟩,
         lC λa W d=>⟨[(0,.slice (some ⟨gi,ad,none⟩) L C)],_,W,⟨d.o 0 kR,yCl⟩,kR,UR _ _,rfl⟩,
         lC λa W d=>⟨[(7,jZ wr.heap.size)],_,W,⟨d.o 7 kR,yCl⟩,kR,UR _ _,rfl⟩,
         D5 3 45 rfl Nr λa W d=>⟨wr.heap.size,1,iZ f,d.n 3 45 kR kR kR,(d.b 1 kR).2.1,UR _ _,rfl⟩,
         MX 23 44 46 rfl λa W d=>⟨_,_,_,d.n 2 44 kR kR kR,d.n 4 46 kR kR kR,km W,UR _ _,rfl⟩,
         GT λa W d=>⟨[(47,.slice (some ⟨gi,ad,none⟩) f C)],56,#[.slice (some ⟨gi,ad,none⟩) f C],⟨d.n 5 47 kR kR kR,yCl⟩,kR,by
          have Y:kZ o W:=d.b 0 kR;have hc:=JP gi ad C (chk s k i) (by rw[hy.out];omega) W (by have N:=X.out.bl.size;have V:=Y.size;omega) (HX.out W Y);rw[hy.out]at hc;refine hc.mono ?_;rintro e' W' ⟨v,rfl,N,V⟩;refine⟨v,rfl,N,?_⟩;have h3:=Y.size;refine(⟨?_,V.nn⟩:FrC o.heap.size (chk s k i) v W');rcases V.own with⟨x0,x1|⟨g,cap,cur,x1,x2,x3⟩⟩
          ·exact⟨x0,U4 x1⟩
          ·exact⟨x0,UX ⟨g,cap,cur,x1,oM,x3⟩⟩⟩,
         lC λa W d=>⟨[(0,.slice (some ⟨gi,ad,none⟩) L C)],_,W,⟨d.o 0 kR,yCl⟩,kR,UR _ _,rfl⟩,
         lC λa W d=>⟨[(7,jZ wr.heap.size)],_,W,⟨d.o 7 kR,yCl⟩,kR,UR _ _,rfl⟩,
         D5 3 50 rfl Nr λa W d=>⟨wr.heap.size,1,iZ f,d.n 8 50 kR kR kR,(d.b 1 kR).2.1,UR _ _,rfl⟩,
         MW 23 49 51 rfl λa W d=>⟨_,_,_,d.n 7 49 kR kR kR,d.n 9 51 kR kR kR,ka W,UR _ _,rfl⟩,
         lC λa W d=>⟨[(43,oZ r D)],_,W,⟨d.n 1 43 kR kR kR,yCl⟩,kR,UR _ _,rfl⟩,
         GR 23 53 48 rfl rfl i22 λa W d=>by
          have Y:kZ o W:=d.b 0 kR;have hF:FrC o.heap.size (chk s k i) (a.eval (.tmp 48)) W:=d.n 6 48 kR kR kR;obtain⟨⟨old,kf⟩,k8⟩:=X.out.th _ _ F.out.2.2.1;have V:r<o.heap.size:=by have:=F.out.2.2.2.2;omega
          obtain⟨q,c',hv⟩:=GB hF.own;refine⟨r,D,_,old,d.n 11 53 kR kR kR,rfl,?_,?_,by rw[hv];rfl,by rw[hv];rfl,⟨_,rfl⟩,?_⟩
          ·rw[Y.cell (p:=⟨r,D,none⟩) V];exact kf
          ·have:W.frozen? ⟨r,D,none⟩=o.frozen? ⟨r,D,none⟩:=by unfold WW;rw[Y.block r V]
           rw[this];exact k8
          ·refine(⟨_,G7 Y _ _,⟨bZ hF.own (λg hg=>?_),hF.nn⟩⟩:StR o r D (chk s k i) _);have:=(jG hF.own hg).1;rw[heap_set,yCk (by show r≠g;omega)],
         mI 52 λa W d=>⟨a.eval (.tmp 52),W,kR,kR,UR _ _,d.n 10 52 kR kR kR⟩,yCl⟩
       ·intro V w5 hV hB;have hS:StR o r D (chk s k i) w5:=hV 12 (Xj (VR kR)) rfl;have k5:V 13=.slice (some ⟨gi,nx,none⟩) (L-f) (C-f):=hV 13 (Xj (VR kR)) rfl;obtain⟨v,d⟩:=X.out.step T.out F.out.2.2.1 (by rw[F.out.2.2.2.1];exact hS);have K5:Hid (ad+f=offs k (i+1)/\∃vs,vs.length=i+1/\RdI w w3 w5 w.heap.size U l (sZ y k k) (sZ A k k) (fN l y 0 k A 0 k) vs (chk s k)):=by
         refine⟨by rw[kW k i f F.out.2.1,F.out.1],_,?_,d⟩;rw[UA,F.out.2.2.2.1];rfl
        dsimp only[bU,Nat.reduceAdd];simp only[UN,Us,Uu,Uv];rw[k5];clear hV hB hS k5 d X F HX;go_wp2;go_roundg (gk-1)
        case measure=>omega
        case rel=>exact⟨i+1,ad+f,nx,L-f,C-f,oM,rfl,rfl,oM,oM,kl,K5⟩
     ·have k6:¬(i:Int)<(M:Int):=oM;obtain⟨B,vs,E,G⟩:=K.out;have kw:off=293+66*k:=by
       rw[B,show i=k+k+9 by have:=S.out;omega];exact xB k
      have X:=Hid.mkP G;by_cases b2:0<L
      ·have d:(0:Int)<(L:Int):=oM;have R:=Hid.mkP (EH (cs:=zR) (by rw[G.er];exact h7.out) rfl G.bl);have t:¬nO s:=λh=>by
        have N:=I.out.1 h;omega
       clear K G B E;go_wp2_with (first|(refine U2 rfl 28 _ _ rfl w.heap.size 0 zR.toArray ?_ ?_ ?_ ?_ ?_ ?_;rfl;rfl;exact R.out.1;exact iRg;exact Cd Au;rw[show zR.toArray.toList=zR from rfl])|fail)
       refine UE (fY 2 3 28 rfl R.out.2.1 rfl rfl uRg iRg) rfl ?_;exact U4 ⟨t,R.out.2.2,rfl⟩
      ·obtain rfl:L=0:=oM;have H:nO s:=I.out.2 oM;obtain⟨cs,d,F,h4⟩:=IG G (by rw[E];have:=S.out;omega);have R:=Hid.mkP (EH (cs:=cs) (by rw[G.er];exact h7.out) d G.bl);have HC:=Hid.mkP F;have Q:=Hid.mkP h4;have o:=Hid.mkP d;have KR:Hid (RdR w s k (.returned (.tuple #[.agg cs.toArray,iZ 0])) (wr.setCells w.heap.size 0 cs)):=UX ⟨H,R.out.2.2,w3,wr,U,l,y,A,vs,cs,by rw[E];have:=S.out;omega,T.out,G,d,F,rfl,rfl⟩;obtain⟨dR,V,Y⟩:=Uy.1 uRg;clear K G B E F h4 X;go_wp2_with (first|(refine U6 rfl 28 _ rfl l 0 ?_ cs dR ?_ ?_ ?_ ?_ ?_;rfl;exact HC.out;exact V;exact Y;(rw[o.out];exact iRg);skip)|(refine U2 rfl 28 _ _ rfl w.heap.size 0 cs.toArray ?_ ?_ ?_ ?_ ?_ ?_;rfl;rfl;exact R.out.1;(rw[List.size_toArray,o.out];exact iRg);exact Cd Q.out;rw[show cs.toArray.toList=cs from rfl])|fail)
       refine UE (fY 2 3 28 rfl R.out.2.1 rfl rfl uRg (by rw[o.out];exact iRg)) rfl ?_;exact KR.out
  ·have kk:(6:Int)<(k:Int):=oM;have t:¬nO s:=λh=>h6 (by rw[hk.out];exact h.2.1)
   clear hm h9 h0 hH b1 O z1;go_enter func14,ntmps14;go_wp2_with (first|(refine aY (v:=jZ w.heap.size) (w':=z) rfl (.alloc 28) rfl ?_ ?_;(rw[<-J.out];kernel_rfl))|(refine U2 rfl 28 _ _ rfl w.heap.size 0 zR.toArray ?_ ?_ ?_ ?_ ?_ ?_;rfl;rfl;exact P1.out.1;exact iRg;exact Cd Au;rw[show zR.toArray.toList=zR from rfl])|fail)
   refine UE (fY 2 3 28 rfl P1.out.2.1 rfl rfl uRg iRg) rfl ?_;exact U4 ⟨t,P1.out.2.2,rfl⟩
 ·have d:n=0:=oM;have t:¬nO s:=λh=>h0 (by rw[hn.out];exact h.1)
  subst d;clear h0 hH b1 O z1;go_enter func14,ntmps14;go_wp2_with (first|(refine aY (v:=jZ w.heap.size) (w':=z) rfl (.alloc 28) rfl ?_ ?_;(rw[<-J.out];kernel_rfl))|(refine U2 rfl 28 _ _ rfl w.heap.size 0 zR.toArray ?_ ?_ ?_ ?_ ?_ ?_;rfl;rfl;exact P1.out.1;exact iRg;exact Cd Au;rw[show zR.toArray.toList=zR from rfl])|fail)
  refine UE (fY 2 3 28 rfl P1.out.2.1 rfl rfl uRg iRg) rfl ?_;exact U4 ⟨t,P1.out.2.2,rfl⟩
def RdG(w:Ur)(s:SP.Bs)(k:Nat)(e:Ending)(W:Ur):Prop:=kZ w W/\∃(p:Rg) (d c:List Ut) (B:Nat),e=.returned (.tuple #[.agg p.cs.toArray,iZ 0])/\VL W p.l.q p.l.n d/\VL W p.r.q p.r.n c/\p.l.n=k/\p.r.n=k/\(∀b o,p.l.q=some ⟨b,o,none⟩->0<k->w.heap.size<=b)/\(∀b o,p.r.q=some ⟨b,o,none⟩->0<k->w.heap.size<=b)/\w.heap.size<=B/\B<=W.heap.size/\(∀j,j<k+k+9->∃u,(qY p d c)[j]? = some u/\FrC B (chk s k j) u W)/\(∀(j f:Nat) u i g,j<f->(qY p d c)[j]? = some u->(qY p d c)[f]? = some i->u.ownBlock=some g->i.ownBlock≠some g)
theorem JV{W W':Ur}{g:Nat}(h:W'.heap[g]? = W.heap[g]?)(j:Nat):W'.cell? ⟨g,j,none⟩=W.cell? ⟨g,j,none⟩/\W'.frozen? ⟨g,j,none⟩=W.frozen? ⟨g,j,none⟩:=by
 unfold VY WW;rw[h];exact⟨rfl,rfl⟩
theorem Ie{k:Nat}(vs:List Ut)(h:vs.length=k+k+9):∃hd d b c,vs=hd++d++b++c/\hd.length=7/\d.length=k/\b.length=k/\c.length=2:=by
 refine⟨vs.take 7,(vs.drop 7).take k,((vs.drop 7).drop k).take k,((vs.drop 7).drop k).drop k,?_,?_,?_,?_,?_⟩
 ·rw[Vx,Za,Vx,Za,Za]
 all_goals (simp only[WF,List.length_drop];omega)
theorem len2:∀(l:List Ut),l.length=2->∃k b,l=[k,b]
 | [k,b],_=>⟨k,b,rfl⟩
theorem TS:∀(l:List Ut),l.length=7->∃e k d b c f g,l=[e,k,d,b,c,f,g]
 | [e,k,d,b,c,f,g],_=>⟨e,k,d,b,c,f,g,rfl⟩
theorem RJ:∀(l:List Ut),l.length=11->∃j b f c e m n g d i k,l=[j,b,f,c,e,m,n,g,d,i,k]
 | [j,b,f,c,e,m,n,g,d,i,k],_=>⟨j,b,f,c,e,m,n,g,d,i,k,rfl⟩
theorem IF{w W:Ur}{s:SP.Bs}{k:Nat}{e:Ending}(h:RdR w s k e W)(R:nO s):RdG w s k e W:=by
 rcases h with⟨h,-⟩|⟨-,hb,w3,p,gq,E,G,I,vs,cs,hl,P,A,hc,hr,rfl,rfl⟩
 ·exact absurd R h
 have hz:=P.r;have h3:=A.sz;have kp:∀b,b<p.heap.size->b≠w.heap.size->(p.setCells w.heap.size 0 cs).heap[b]? = p.heap[b]?:=λb D M=>ZZ p _ 0 cs D M
 have hM:(fN E G 0 k I 0 k).length=k+k+9:=by rw[<-kV k k,<-sK E G 0 k I 0 k,UQ]
 have v:∀(j:Nat) u,vs[j]? = some u->∃x,(fN E G 0 k I 0 k)[j]? = some x/\p.cell? x.1=some u:=λj u l=>by
  obtain⟨x,hx⟩:∃x,(fN E G 0 k I 0 k)[j]? = some x:=⟨_,UG (by have:=(UF.1 l).1;omega)⟩
  exact⟨x,hx,A.st j x u hx l⟩
 have S:∀(j:Nat) u,vs[j]? = some u->∃t:Sv,u=t.v:=λj u l=>by
  obtain⟨q,c,hv⟩:∃q c,u=.slice q (V3 (chk s k j)) c:=by
   rcases(A.ow j u l).own with⟨-,⟨rfl,i⟩|⟨g,cap,cur,rfl,-⟩⟩
   ·exact⟨none,0,by rw[i]⟩
   ·exact⟨_,_,rfl⟩
  exact⟨⟨q,_,c⟩,hv⟩
 have hF:∀(j:Nat) u,vs[j]? = some u->FrC w3.heap.size (chk s k j) u (p.setCells w.heap.size 0 cs):=λj u l=>by
  have D:=A.ow j u l;exact⟨bZ D.own (λg R=>kp g (jG D.own R).2.1 (by have:=(jG D.own R).1;omega)),D.nn⟩
 have T:=A.ne;have h4:p.heap.size<=(p.setCells w.heap.size 0 cs).heap.size:=(below_setCells (B:=0) (b:=w.heap.size) (Wy _) cs 0 p (UR 0 p)).size;have H:∀(g V:Nat) (ys:List Ut),ys.length=k->(∀j,j<k->∃u x,ys[j]? = some u/\vs[V+j]? = some u/\(fN E G 0 k I 0 k)[V+j]? = some x/\x.1=⟨g,j,none⟩)->VL (p.setCells w.heap.size 0 cs) (some (aZ g)) k ys/\(0<k->w.heap.size<=g):=λg V ys hn O=>by
  refine⟨⟨hn,λe=>(by cases e),?_,λu l=>?_⟩,λK=>?_⟩
  ·by_cases K:k=0
   ·exact U4 (List.length_eq_zero_iff.1 oM)
   ·obtain⟨u0,F,-,-,m,z⟩:=O 0 oM;obtain⟨b,o,i,D,-,-,M,-⟩:=P.ad _ F m;rw[z]at i;injection i with i _ _
    subst i;refine UX ⟨g,0,rfl,oM,λj u r=>?_⟩;obtain⟨J,N,n,C,L,Q⟩:=O j (by have:=(UF.1 r).1;omega);rw[r]at n;obtain rfl:=UO.inj n;rw[UD,(JV (kp g oM M) j).1,<-Q];exact A.st _ N u L C
  ·obtain⟨j,r⟩:=List.getElem?_of_mem l;obtain⟨J,N,n,C,-⟩:=O j (by have:=(UF.1 r).1;omega);rw[r]at n;obtain rfl:=UO.inj n;obtain⟨t,rfl⟩:=S _ u C;rfl
  ·obtain⟨u0,F,-,-,m,z⟩:=O 0 K;obtain⟨b,o,i,D,M,-⟩:=P.ad _ F m;rw[z]at i;injection i with i _ _
   subst i;exact M
 obtain⟨hd,F,C,L,rfl,Q,U,n3,n4⟩:=Ie vs hl;have X:=H G 7 F U (λj r=>by
  obtain⟨u,l⟩:∃u,F[j]? = some u:=⟨_,UG oM⟩
  have hv:(hd++F++C++L)[7+j]? = some u:=by
   rw[Vx,Vx,U1 oM,Q,WL,UT oM];exact l
  obtain⟨x,hx,-⟩:=v _ u hv;refine⟨u,x,l,hv,hx,?_⟩;rcases dT hx with⟨n,m⟩|⟨n,i,m⟩|⟨n,i,m⟩|⟨n,i,m⟩
  ·omega
  ·rw[m,WL];congr 1;omega
  ·omega
  ·omega)
 have Z:=H I (7+k) C n3 (λj r=>by
  obtain⟨u,l⟩:∃u,C[j]? = some u:=⟨_,UG oM⟩
  have hv:(hd++F++C++L)[7+k+j]? = some u:=by
   rw[Vx,U1 (by rw[UA];omega),UA,Q,U,WL,UT oM];exact l
  obtain⟨x,hx,-⟩:=v _ u hv;refine⟨u,x,l,hv,hx,?_⟩;rcases dT hx with⟨n,m⟩|⟨n,i,m⟩|⟨n,i,m⟩|⟨n,i,m⟩
  ·omega
  ·omega
  ·rw[m];congr 1;omega
  ·omega)
 have Y:∀j,j<2->∀u,L[j]? = some u->p.cell? ⟨E,9+j,none⟩=some u/\∃t:Sv,u=t.v:=λj r u l=>by
  have hv:(hd++F++C++L)[7+k+k+j]? = some u:=by
   rw[U1 (by rw[UA,UA];omega),UA,UA,Q,U,n3,WL];exact l
  refine⟨?_,S _ u hv⟩;obtain⟨x,hx,z⟩:=v _ u hv;rcases dT hx with⟨n,m⟩|⟨n,i,m⟩|⟨n,i,m⟩|⟨n,i,m⟩
  ·omega
  ·omega
  ·omega
  ·rw[m,show 7+k+k+j-7-k-k=j by omega]at z;exact z
 have J:∀j,j<7->∀u,hd[j]? = some u->p.cell? ⟨E,j,none⟩=some u/\∃t:Sv,u=t.v:=λj r u l=>by
  have hv:(hd++F++C++L)[j]? = some u:=by
   rw[Vx,Vx,UT oM];exact l
  refine⟨?_,S _ u hv⟩;obtain⟨x,hx,z⟩:=v _ u hv;rcases dT hx with⟨n,m⟩|⟨n,i,m⟩|⟨n,i,m⟩|⟨n,i,m⟩
  ·rw[m]at z;exact z
  ·omega
  ·omega
  ·omega
 have i:∀j u,cs[j]? = some u->p.cell? ⟨E,j,none⟩=some u:=λj u r=>by
  have:=hr j u r;rw[UD]at this;exact this
 have c7:=A.c7;have c8:=A.c8;clear v H A P hr S;obtain⟨v0,v1,v2,v3,v4,v5,v6,rfl⟩:=TS hd Q;obtain⟨x,y,rfl⟩:=len2 L n4;obtain⟨z0,z1,z2,z3,z4,z5,z6,z7,z8,z9,n,rfl⟩:=RJ cs hc;obtain⟨q0,a,rfl⟩:=J 0 oM v0 rfl;obtain⟨q1,b,rfl⟩:=J 1 oM v1 rfl;obtain⟨q2,c,rfl⟩:=J 2 oM v2 rfl;obtain⟨q3,d,rfl⟩:=J 3 oM v3 rfl;obtain⟨q4,e,rfl⟩:=J 4 oM v4 rfl;obtain⟨q5,f,rfl⟩:=J 5 oM v5 rfl;obtain⟨q6,g,rfl⟩:=J 6 oM v6 rfl;obtain⟨q9,N,rfl⟩:=Y 0 oM x rfl;obtain⟨m,z,rfl⟩:=Y 1 oM y rfl;obtain rfl:=UO.inj ((i 0 z0 rfl).symm.trans q0);obtain rfl:=UO.inj ((i 1 z1 rfl).symm.trans q1);obtain rfl:=UO.inj ((i 2 z2 rfl).symm.trans q2);obtain rfl:=UO.inj ((i 3 z3 rfl).symm.trans q3);obtain rfl:=UO.inj ((i 4 z4 rfl).symm.trans q4);obtain rfl:=UO.inj ((i 5 z5 rfl).symm.trans q5);obtain rfl:=UO.inj ((i 6 z6 rfl).symm.trans q6);obtain rfl:=UO.inj ((i 7 z7 rfl).symm.trans c7);obtain rfl:=UO.inj ((i 8 z8 rfl).symm.trans c8);obtain rfl:=UO.inj ((i 9 z9 rfl).symm.trans q9);obtain rfl:=UO.inj ((i 10 n rfl).symm.trans m);refine⟨hb,⟨a,b,c,d,e,f,g,⟨some (aZ G),k,k⟩,⟨some (aZ I),k,k⟩,N,z⟩,F,C,w3.heap.size,rfl,X.1,Z.1,rfl,rfl,λb o e K=>by injection e with e;injection e with e _ _;subst e;exact X.2 K,λb o e K=>by injection e with e;injection e with e _ _;subst e;exact Z.2 K,oM,oM,λj r=>?_,T⟩;obtain⟨u,l⟩:∃u,([a.v,b.v,c.v,d.v,e.v,f.v,g.v]++F++C++[N.v,z.v])[j]? = some u:=⟨_,UG oM⟩
 exact⟨u,l,hF j u l⟩
theorem Ml{W:Ur}{B:Nat}{u:Ut}{b:SP.Bs}(h:W.ownsRow B 5 1 u b.size (bC b)):Pt W u b:=by
 rcases id h with⟨-,⟨rfl,k⟩|⟨g,cap,cur,rfl,-⟩⟩
 ·exact⟨none,0,by rw[k],U4 k⟩
 ·exact⟨some (aZ g),cap,rfl,UX ⟨g,0,rfl,(jG h rfl).2.1,Dx h⟩⟩
theorem CO(p:Rg)(c b:List Ut)(k:Nat)(l:c.length=k)(g:b.length=k)(j:Nat)(m:j<k+k+9):(p.all c b)[j]? = (qY p c b)[if j<k+k+2 then 7+j else j-(k+k+2)]?:=by
 have f:p.all c b=(c++b++[p.x.v,p.y.v])++[p.a.v,p.b.v,p.c.v,p.d.v,p.e.v,p.f.v,p.g.v]:=rfl;have i:qY p c b=[p.a.v,p.b.v,p.c.v,p.d.v,p.e.v,p.f.v,p.g.v]++(c++b++[p.x.v,p.y.v]):=by unfold qY;simp only[Vx]
 have d:(c++b++[p.x.v,p.y.v]).length=k+k+2:=by rw[UA,UA,l,g];rfl
 rw[f,i];have e:[p.a.v,p.b.v,p.c.v,p.d.v,p.e.v,p.f.v,p.g.v].length=7:=rfl;generalize c++b++[p.x.v,p.y.v]=M at d;generalize [p.a.v,p.b.v,p.c.v,p.d.v,p.e.v,p.f.v,p.g.v]=H at e;split
 ·rw[UT oM,U1 oM,e,WL]
 ·rw[U1 oM,UT oM,d]
structure RdB(t:Nat)(BB:List SP.Bs)(e:Ut)(W:Ur):Prop where
 ex:∃(p:Rg) (l1 l2:List Ut),e=.agg p.cs.toArray/\VL W p.l.q p.l.n l1/\VL W p.r.q p.r.n l2/\p.l.n=t/\p.r.n=t/\∀j,j<t+t+9->∃u b,(qY p l1 l2)[j]? = some u/\BB[j]? = some b/\Pt W u b
theorem IE{t:Nat}{BB:List SP.Bs}(k:mM t t BB)(W:Ur)(g c:Nat)(n:Pt W (sZ g (V3 (eU t BB (t+t+9))) c) (eU t BB (t+t+9)))(d:V3 (eU t BB (t+t+9))<=c):UH prog 14 #[sZ g (V3 (eU t BB (t+t+9))) c] W (rZ W λe W'=>∃e',e=.tuple #[e',iZ 0]/\RdB t BB e' W'):=by
 have F:=k.2.1;have G:=nJ k;have i:=vJ k (t+t+9) (Uw _);rw[xB]at i;obtain⟨l,hG⟩:=JW k;have f:∀j b,BB[j]? = some b->chk (eU t BB (t+t+9)) t j=b:=λj b=>MU k
 generalize eU t BB (t+t+9)=s at i l hG f n d;obtain⟨q,H,e,h|⟨I,o,C,a,r⟩⟩:=n
 ·omega
 injection e with e1 e2 e3
 rw[C]at e1;injection e1 with e1
 injection e1 with e1 e4 e5
 subst e1 e4;have:=LK s g c oM d oM W a r;rw[l]at this;refine this.mono λe W' h=>?_
 obtain⟨D,p,w,A,B,rfl,v1,v2,x,E,-,-,-,-,z,-⟩:=IF h hG;refine⟨_,rfl,D,_,rfl,⟨p,w,A,rfl,v1,v2,x,E,λj v=>?_⟩⟩;obtain⟨u,y,hf⟩:=z j v;have m:BB[j]? = some BB[j]:=UG oM;refine⟨u,_,y,m,?_⟩;have:=Ml hf.own;rw[f j _ m]at this;exact this
theorem RgA.same{E t:Nat}{p:Rp}{B Rb:Nat->SP.Bs}{y x:SP.Bs}{e e':Ut}{W:Ur}(h:RgA E t p B Rb y x e W)(F:0<t)(K:t<=6)(C:RdB t (rgB t p B Rb y x) e' W):UH prog 7 #[e,e'] W (Ret λe W'=>e=.bool true/\kZ W W'):=by
 obtain⟨q,c,k,L,N,rfl,s,o,-,v1,v2,J,M,w⟩:=h.rg F;obtain⟨n,l,g,rfl,a,z,D,I,H⟩:=C.ex;refine(BN q n W v1 v2 a z oM oM oM oM λj f=>?_).mono ?_
 ·rw[s,o]at f;rw[CO q c k t (by rw[v1.len,s]) (by rw[v2.len,o]) j f,CO n l g t (by rw[a.len,D]) (by rw[z.len,I]) j f];obtain⟨i,r⟩:∃i,(if j<t+t+2 then 7+j else j-(t+t+2))=i:=⟨_,rfl⟩
  have m:i<t+t+9:=by
   rw[<-r];split<;>omega
  rw[r];obtain⟨v,b,hv,d,pv⟩:=H i m;have G:i<(qY q c k).length:=by rw[<-w.1];exact(UF.1 d).1
  have u:=UG G;exact⟨_,v,b,u,hv,w.2 i _ b u d,pv⟩
 ·rintro e W' ⟨rfl,d⟩;exact⟨_,rfl,rfl,d⟩
end
section
open SPA
variable {P:Nat}[NeZero P]{N:Nat}
theorem Ag{P:VD}(w:Ur)(i sT q c:U8)(b o k e:Nat)(t:ByteArray)(n:P.underlying i=some (.slice c))(l:∀w,(Go.sizeOf c).run P w=.ok 1 w)
 (m:∀j,j<k->(w.cell? ⟨b,o+j,none⟩).isSome=true) (hf:∀j,j<k->w.frozen? ⟨b,o+j,none⟩=false) :
 (XZ #[i,sT] q #[.slice (some ⟨b,o,none⟩) k e,.string t]).run P w=.ok (goInt (XP t.size k)) (w.setCells b o ((t.data.toList.take k).map λx=>VZ .u8 (x.toNat:Int))):=by
 by_cases f:t.size<=k
 ·rw[run_copy_string w i sT q c b o k e t n l f (λj d=>m j oM) (λj d=>hf j oM),show XP t.size k=t.size from yBo f,Y9 (by rw[<-yB0];exact f)]
 ·have d:XP t.size k=k:=Nat.min_eq_right oM;have p:((t.data.toList.take k).map λx=>VZ .u8 (x.toNat:Int)).length=k:=by rw[UQ,WF,<-yB0];omega
  have g:=run_storeCells_cells (P:=P) b o ((t.data.toList.take k).map λx=>VZ .u8 (x.toNat:Int)) 0 w (by rw[p];simpa using m) (by rw[p];simpa using hf) (by
   intro v hv;obtain⟨x,_,rfl⟩:=Vn.1 hv;rfl)
  rw[d];simp[XZ,run_underlying n,Builtin.lenOf,Zh,l,d];rw[List.map_take]at g;rw[g];rfl
def fnB(f:Nat->UInt8):Bs:=Array.ofFn (n:=32) λi=>f i.val
theorem bJ(f:Nat->UInt8):(fnB f).size=32:=by unfold fnB;simp
theorem gB(f:Nat->UInt8)(j:Nat)(k:j<32):(fnB f)[j]! = f j:=by
 rw[getElem!_pos (fnB f) j (by rw[bJ];exact k)];unfold fnB;simp
def nm1(s:ByteArray)(j:Nat):UInt8:=if 2<=j/\j<30 then s.data.toList.getD (j-2) 0 else 0
def nm2(s:ByteArray)(n j:Nat):UInt8:=if j=30 then UM n else nm1 s j
def nm3(s:ByteArray)(n j:Nat):UInt8:=if j=31 then UM s.size else nm2 s n j
def nmB(s:ByteArray)(n:Nat):Bs:=fnB (nm3 s n)
theorem Qa(r:List UInt8)(h:r.length=30):beV (0 :: 0 :: r)<2^240:=by
 have e:beV (0 :: 0 :: r)=beV r:=rfl;rw[e];have:=Eg r;rw[h]at this;exact Ux this dC
theorem O6(s:ByteArray)(n:Nat):beV (nmB s n).toList<2^240:=by
 have e:(nmB s n).toList=nm3 s n 0 :: nm3 s n 1 :: List.ofFn (n:=30) λi=>nm3 s n (i.val+2):=by
  unfold nmB fnB;rw[Zu,yBq,yBq];rfl
 have b:nm3 s n 0=0:=rfl;have k:nm3 s n 1=0:=rfl;rw[e,b,k];exact Qa _ (by simp)
theorem iU8:(prog.info? 5).map (·.size)=some 1:=kR
theorem Rj(s:ByteArray)(n:Nat)(w:Ur):UH prog 10 #[.string s,iZ n] w (rZ w λe w'=>ElQ (w.heap.size<=·) 32 w' e (nmB s n)):=by
 have u:=yBE (P:=prog) 23 5 (.int .u8 0) 1 SP.slice22 SP.info5 rfl .i64 .i64 32 oM oM w;have g:Holds encB (w.alloc (.cells (madeCells #[.int .u8 0] 32) 5)) w.heap.size 0 (UJ 32 0):=SP.Holds.made (enc:=encB) w 5 32 0;obtain⟨k,q⟩:∃k,Hid (w.heap.size=k):=⟨_,rfl⟩
 have r:w.heap.size<(w.alloc (.cells (madeCells #[.int .u8 0] 32) 5)).heap.size:=by rw[UB];exact YG _
 obtain⟨z,d⟩:∃W,Hid (w.alloc (.cells (madeCells #[.int .u8 0] 32) 5)=W):=⟨_,rfl⟩
 have b1:kZ w z:=by rw[<-d.out];exact aC _ _
 have C:(Instr.makeSlice 23 (iZ 32) (iZ 32)).run prog w=.ok (sZ k 32 32) z:=by rw[<-d.out,<-q.out];exact u
 rw[d.out,q.out]at g;rw[d.out,q.out]at r;clear u;have a:=Ag (P:=prog) z 23 9 3 5 k 2 28 30 s SP.slice22 SP.size5
  (λj b=>by rw[<-UD (2+j),(g (2+j) (by rw[UP];omega)).1];rfl) (λj b=>by rw[<-UD (2+j)];exact(g (2+j) (by rw[UP];omega)).2)
 obtain⟨A,f⟩:∃W,Hid (z.setCells k 2 ((s.data.toList.take 28).map λx=>VZ .u8 (x.toNat:Int))=W):=⟨_,rfl⟩
 have t:Holds encB A k 0 (fnB (nm1 s)):=by
  rw[<-f.out];refine SP.Holds.setCells (o:=0) (p:=2) g _ (by rw[bJ,UP]) (by rw[UQ,WF,UP];omega) (λj b=>?_) (λj b c=>?_)
  ·rw[UQ,WF]at b;rw[gB _ _ oM,Xd,yAQ];unfold nm1;rw[yCj oM,WL,VQ,UG oM];rfl
  ·rw[UP]at b;rw[UQ,WF]at c;rw[gB _ _ b,SP.rep_at 32 j b];unfold nm1;split
   ·rw[VQ,Wx oM];rfl
   ·rfl
 obtain⟨B,l⟩:∃W,Hid (A.setCells k 30 [.int .u8 (Xy.wrap (n:Int))]=W):=⟨_,rfl⟩
 have m:Holds encB B k 0 (fnB (nm2 s n)):=by
  rw[<-l.out];refine SP.Holds.setCells (o:=0) (p:=30) t _ (by rw[bJ,bJ]) (by rw[bJ];exact VR rfl) (λj b=>?_) (λj b c=>?_)
  ·have:j=0:=by simpa using b
   subst this;rw[gB _ _ dC,Hk];rfl
  ·rw[bJ]at b;rw[gB _ _ b,gB _ _ b];unfold nm2;rw[yCk (by simp at c;omega)]
 obtain⟨y,i⟩:∃W,Hid (B.setCells k 31 [.int .u8 (Xy.wrap (s.size:Int))]=W):=⟨_,rfl⟩
 have v:Holds encB y k 0 (nmB s n):=by
  rw[<-i.out];refine SP.Holds.setCells (o:=0) (p:=31) m _ (by rw[show nmB s n=fnB (nm3 s n) from rfl,bJ,bJ]) (by rw[bJ];exact VR rfl) (λj b=>?_) (λj b c=>?_)
  ·have:j=0:=by simpa using b
   subst this;rw[show nmB s n=fnB (nm3 s n) from rfl,gB _ _ dC,Hk];rfl
  ·rw[bJ]at b;rw[show nmB s n=fnB (nm3 s n) from rfl,gB _ _ b,gB _ _ b];unfold nm3;rw[yCk (by simp at c;omega)]
 have D:kZ w y:=by
  rw[<-i.out,<-l.out,<-f.out];exact RG.below_setCells (by rw[q.out];exact Uw _) _ _ _ (RG.below_setCells (by rw[q.out];exact Uw _) _ _ _ (RG.below_setCells (by rw[q.out];exact Uw _) _ _ _ b1))
 have sz:k<y.heap.size:=by rw[<-i.out,<-l.out,<-f.out,setCells_size,setCells_size,setCells_size];exact r
 rw[f.out]at a;have T3:Hid (A.there k 30 1/\B.there k 31 1):=⟨λj b=>by
  have c:j=0:=oM;subst c;have:=t 30 (by rw[bJ];decide);exact⟨by rw[show(30+0:Nat)=0+30 from rfl,this.1];rfl,this.2⟩,λj b=>by
  have c:j=0:=oM;subst c;have:=m 31 (by rw[bJ];decide);exact⟨by rw[show(31+0:Nat)=0+31 from rfl,this.1];rfl,this.2⟩⟩
 have c:Hid (kZ w y/\ElQ (w.heap.size<=·) 32 y (sZ k 32 32) (nmB s n)):=⟨D,k,32,rfl,Uw _,bJ _,Nat.le_of_eq q.out,sz,v⟩
 clear g t m v D sz r b1 d f;go_enter func10,ntmps10;go_wp2_with (first|(refine fV rfl 5 (.tmp 14) _ rfl k 30 (.int .u8 (Xy.wrap (n:Int))) ?_ ?_ rfl rfl T3.out.1 iU8 ?_;rfl;rfl;rw[l.out])|(refine fV rfl 5 (.tmp 19) _ rfl k 31 (.int .u8 (Xy.wrap (s.size:Int))) ?_ ?_ rfl rfl T3.out.2 iU8 ?_;rfl;rfl;rw[i.out])|fail)
 go_ret;exact⟨_,rfl,c.out.1,c.out.2⟩
theorem MB(x n:Nat)(hx:x<18446744073709551616)(b:n<64):(Xb 64 (x:Int) &&& Xb 64 ((2^n-1:Nat):Int)).toNat=x%2^n:=by
 have k:2^n-1<2^64:=Ux (Nat.sub_lt (Nat.two_pow_pos n) dC) (VA dC oM);rw[Zc,Zc,BitVec.toNat_and,YE,YE,US (show x<2^64 from hx),US k,Nat.and_two_pow_sub_one_eq_mod]
def vbF(v i j:Nat):UInt8:=if 31-j<i then UM (v/2^(8*(31-j))) else 0
theorem Qv(v:Nat)(hv:v<18446744073709551616):fnB (vbF v 8)=bx v:=by
 apply yBR;unfold bx;rw[Am,US hv,Xe hv,Xe (show v<340282366920938463463374607431768211456 by omega),Xe (show v<6277101735386680763835789423207666416102355444464034512896 by omega)];have e:UM v=UM (v/1):=by rw[Nat.div_one]
 rw[e];unfold fnB;rw[Zu];rfl
theorem KW(v:Nat):fnB (vbF v 0)=UJ 32 0:=by
 apply yBR;unfold fnB;rw[Zu];rfl
theorem KX{W:Ur}{k v i:Nat}(e:i<8)(h:Holds encB W k 0 (fnB (vbF v i))):Holds encB (W.setCells k (31-i) [.int .u8 (Xy.wrap ((v/2^(8*i):Nat):Int))]) k 0 (fnB (vbF v (i+1))):=by
 rw[show 31-i=0+(31-i) by omega];refine SP.Holds.setCells (o:=0) (p:=31-i) h _ (by rw[bJ,bJ]) (by rw[bJ];simp only[Vj,WG];omega) (λj d=>?_) (λj d b=>?_)
 ·have:j=0:=by simpa using d
  subst this;rw[gB _ _ oM,Hk];unfold vbF;rw[yCj oM,show 31-(31-i+0)=i by omega];rfl
 ·rw[bJ]at d;rw[gB _ _ d,gB _ _ d];simp only[Vj,WG]at b;unfold vbF;by_cases c:31-j<i
  ·rw[yCj c,yCj oM]
  ·rw[yCk c,yCk oM]
theorem Rk{N:Nat}(O:Ord N)(f:2^240<=N)(s:ByteArray)(n:Nat):∃k:Fin N,nmB s n=bx k.val:=by
 have c:=Ux (O6 s n) f;have d:(nmB s n).size=32:=bJ _;generalize nmB s n=b at c d;obtain⟨m,e⟩:∃m,beV b.toList=m:=⟨_,rfl⟩
 rw[e]at c;exact⟨⟨m,c⟩,(SD d (Ux c O.le) e).symm⟩
theorem wd4(z:Int)(k:¬z<0):∃t:Nat,3<=t/\t<=6/\(z%4).toNat=t-3/\wrap64 (8*2^(z%4).toNat)=((2^t:Nat):Int):=by
 refine⟨(z%4).toNat+3,oM,oM,oM,?_⟩;have:(z%4).toNat<4:=oM;generalize (z%4).toNat=t at this;match t,this with
 | 0,_=>decide +kernel
 | 1,_=>decide +kernel
 | 2,_=>decide +kernel
 | 3,_=>decide +kernel
 | n+4,h=>omega
def sdF(s:ByteArray)(j:Nat):UInt8:=s.data.toList.getD j 0
theorem sd_holds{W:Ur}{k:Nat}(s:ByteArray)(h:Holds encB W k 0 (UJ 32 0)):Holds encB (W.setCells k 0 ((s.data.toList.take 32).map λx=>VZ .u8 (x.toNat:Int))) k 0 (fnB (sdF s)):=by
 refine SP.Holds.setCells (o:=0) (p:=0) h _ (by rw[bJ,UP]) (by rw[UQ,WF,UP];omega) (λj c=>?_) (λj c b=>?_)
 ·rw[UQ,WF]at c;rw[gB _ _ oM,Xd,yAQ];unfold sdF;rw[UD,VQ,UG oM];rfl
 ·rw[UP]at c;rw[UQ,WF]at b;rw[gB _ _ c,SP.rep_at 32 j c];unfold sdF;rw[VQ,Wx oM];rfl
def TrK(d:Bs)(m:List UInt8)(n t x:Nat):Prop:=∃(V:Bs) (b:Rp) (l Rb:Nat->Bs) (j i:Bs),
 (∀(v0 v1:Ut) (W:Ur),Arg W v0 (bx x)->Arg W v1 d->UH prog 11 #[v0,v1] W (rZ W λe W'=>∃g c,e=.tuple #[sZ g 33 c,iZ 0]/\Arg33 W' (sZ g 33 c) V)) /\
 (∀(f:Option Wu) (sc:Nat) (v1:Ut) (w:Ur),Arg w v1 d->PartOk w (.slice f 32 sc) m->UH prog 5 #[uZ x,v1,iZ n,.slice f 32 sc] w (rZ w λe w'=>∃e' k,e=.tuple #[e',iZ 0]/\w.heap.size<=k/\RgA k t b l Rb j i e' w')) /\
 ∀(k:Nat) (e v0:Ut) (w:Ur),Arg33 w v0 V->RgA k t b l Rb j i e w->UH prog 12 #[v0,iZ n,e] w (rZ w λe w'=>e=.bool true)
theorem Sy{P:Nat}[NeZero P]{N:Nat}(C:Fld P)(O:Ord N){n m:Nat}{b k:Bs}(o:rq N b=some n)(l:rq N k=some m)(v0 v1:Ut)(W:Ur)(a0:Arg W v0 b)(f:Arg W v1 k):UH prog 11 #[v0,v1] W (rZ W λe W'=>∃g c,e=.tuple #[sZ g 33 c,iZ 0]/\Arg33 W' (sZ g 33 c) (wr (cmt P n m))):=by
 refine(CX C O.gap O.le v0 v1 b k W a0 f).mono ?_;rintro e W' ⟨v,rfl,p,hR⟩;unfold Bt at hR;rw[o,l]at hR;obtain⟨g,c,rfl,d,q,j,i⟩:=hR;exact⟨_,rfl,p,g,c,rfl,some (aZ g),33,c,rfl,aT _,λ_=>⟨g,0,rfl,d,j,i⟩⟩
theorem trk{P:Nat}[NeZero P]{N:Nat}[NeZero N](C:Fld P)(O:Ord N)(b:∀r:EC.Pt P,On r->mul N r=none)(y:IsP N)(g:2^240<=N)(s:ByteArray)(i:List UInt8){n t:Nat}(f:Wd n t)(x:Nat)(hx:x<2^n):TrK (nmB s 0) i n t x:=by
 have c:18446744073709551616<=N:=UC dC g;have e:n<=64:=by rw[f.1];exact UC (VA dC f.2.2) dC
 have d:x<18446744073709551616:=Ux hx (UC (VA dC e) dC);obtain⟨k,m⟩:=Rk O g s 0;rw[m];obtain⟨V,l,a,Rb,v,u,q,z,w⟩:=Lu C O b y c f x hx k i;have o:(ofF N x).val=x:=US (Ux d c);have p:wr (cmt P x k.val)=V:=by rw[q,<-yB C b (ofF N x) k,o]
 refine⟨V,l,a,Rb,v,u,λv0 v1 W a0 j=>?_,z,w⟩;rw[<-p];exact Sy C O (kJ O (Ux d c)) (kJ O k.isLt) v0 v1 W a0 j
end
section
open SPA
section
variable {P:VD}{Q:Exit->Act->Ur->Prop}{a:Act}{w:Ur}{c y:Code}
theorem Hn(C:Int->Prop)(h:c.wp P (λe b w'=>e=.normal/\w'=w/\∃z p q r,C z/\b=(((a.put (some 26) p).put (some 27) q).put (some 28) r).put (some 1) (iZ z)) a w)(k:∀z p q r,C z->y.wp P Q ((((a.put (some 26) p).put (some 27) q).put (some 28) r).put (some 1) (iZ z)) w):c.wp P (Exit.then (y.wp P Q) Q) a w:=
 wp_mono h λe b w' ⟨g,i,z,p,q,r,d,f⟩=>by
  subst g i f;exact k z p q r d
theorem Ho(C:Nat->Prop)(h:c.wp P (λe b w'=>e=.normal/\w'=w/\∃x p q r s u,C x/\b=(((((a.put (some 34) p).put (some 35) q).put (some 36) r).put (some 37) s).put (some 38) u).put (some 0) (uZ ((x:Nat):Int))) a w)(k:∀x p q r s u,C x->y.wp P Q ((((((a.put (some 34) p).put (some 35) q).put (some 36) r).put (some 37) s).put (some 38) u).put (some 0) (uZ ((x:Nat):Int))) w):c.wp P (Exit.then (y.wp P Q) Q) a w:=
 wp_mono h λe b w' ⟨g,i,x,p,q,r,s,u,d,f⟩=>by
  subst g i f;exact k x p q r s u d
theorem Hp(C:Nat->Prop)(h:c.wp P (λe b w'=>e=.normal/\w'=w/\∃n p q r,C n/\b=(((a.put (some 29) p).put (some 30) q).put (some 31) r).put (some 9) (iZ ((n:Nat):Int))) a w)(k:∀n p q r,C n->y.wp P Q ((((a.put (some 29) p).put (some 30) q).put (some 31) r).put (some 9) (iZ ((n:Nat):Int))) w):c.wp P (Exit.then (y.wp P Q) Q) a w:=
 wp_mono h λe b w' ⟨g,i,z,p,q,r,d,f⟩=>by
  subst g i f;exact k z p q r d
theorem wM(x n:Nat)(hx:x<18446744073709551616)(k:n<64):(yB9 .and .u64 (x:Int) ((2^n-1:Nat):Int)).run P w=.ok (uZ ((x%2^n:Nat):Int)) w:=by
 have e:yB9 .and .u64 (x:Int) ((2^n-1:Nat):Int)=pure (uZ (Vo.wrap ((Xb 64 (x:Int) &&& Xb 64 ((2^n-1:Nat):Int)).toNat:Int))):=rfl;rw[e,MB x n hx k,wrapN _ (Nat.lt_of_le_of_lt (Nat.mod_le _ _) hx)];rfl
end
theorem RdB.below{t:Nat}{BB:List Bs}{e:Ut}{W W':Ur}(h:RdB t BB e W)(k:kZ W W'):RdB t BB e W':=by
 obtain⟨p,f,n,i,v1,v2,g,q,l⟩:=h.ex;refine⟨p,f,n,i,v1.below k,v2.below k,g,q,λj d=>?_⟩;obtain⟨u,b,o,m,c⟩:=l j d;exact⟨u,b,o,m,c.below k⟩
theorem RdB.cl{t:Nat}{BB:List Bs}{e:Ut}{W:Ur}(h:RdB t BB e W):∃cs:List Ut,Hid (.agg cs.toArray=e)/\cs.length=11/\cs.toArray.all (·.oneCell')=true:=by
 obtain⟨p,b,k,rfl,-⟩:=h.ex;exact⟨p.cs,rfl,rfl,by simp only[Ya,Rg.cs,rgC,Sv.v,Zt,ZK];rfl⟩
theorem RgA.cl{b t:Nat}{p:Rp}{j Rb:Nat->Bs}{i g:Bs}{e:Ut}{W:Ur}(h:RgA b t p j Rb i g e W)(f:0<t):∃cs:List Ut,Hid (.agg cs.toArray=e)/\cs.length=11/\cs.toArray.all (·.oneCell')=true/\∃q c,cs[0]? = some (.slice q 33 c):=by
 obtain⟨q,l,k,m,n,rfl,-,-,d,-⟩:=h.rg f;exact⟨q.cs,rfl,rfl,by simp only[Ya,Rg.cs,rgC,Sv.v,Zt,ZK];rfl,q.a.q,q.a.c,by rw[<-d];rfl⟩
theorem LM{P:VD}{w:Ur}(x m:Nat)(k:m<=64):(Op.shift .shr .u64 (x:Int) .i64 (m:Int)).run P w=.ok (uZ ((x/2^m:Nat):Int)) w:=by
 have e:(x:Int).fdiv (2^min (m:Int).toNat 64)=((x/2^m:Nat):Int):=by
  rw[Int.toNat_natCast,yBo k,Int.fdiv_eq_ediv_of_nonneg _ (Int.pow_nonneg dC)];simp
 unfold Op.shift;rw[yCk oM];show(pure (uZ ((x:Int).fdiv (2^min (m:Int).toNat 64))):Sem Ut).run P w=_;rw[e];rfl
theorem TU(k j:Nat)(d:j<32)(w:Ur):(Vl 23 (sZ k 32 32) (iZ j)).run prog w=.ok (oZ k j) w:=by
 have b:¬(j:Int)<0:=oM;have c:(j:Int)<32:=oM;go_simp
theorem uSb:(prog.underlying 23).map (·.isRow)=some false:=kR
theorem Ov(s sd:ByteArray)(l:Nat)(v:l<18446744073709551616)(z0:Int)(k3:-9223372036854775808<=z0)(h4:z0<=9223372036854775807)(w:Ur)(hK:∀n t x,Wd n t->x<2^n->TrK (nmB s 0) (fnB (sdF sd)).toList n t x):
 UH prog 4 #[uZ l,iZ z0,.string s,.string sd] w (rZ w λe w'=>e=.bool true):=by
 have HK:=mk1 hK;clear hK;go_enter func4,ntmps4;refine Uz ?_;refine PW.begin ?_;refine PW.va (.bool false) ?_;refine PW.dn ?_;refine Uz ?_;refine Uz ?_;refine PW.begin ?_;refine PW.mv ?_;refine PW.va (.bool (decide (z0<0))) ?_;refine PW.dn ?_;refine Hn (λz=>¬z<0/\z<=9223372036854775807) ?_ ?_
 ·by_cases hz:z0<0
  ·rw[decide_eq_true hz];go_wp2;omega
  ·rw[decide_eq_false hz];go_wp2
 clear k3 h4;rintro z km ko kj ⟨hz,h4⟩;simp only[UN,Us,Uu,Uv];obtain⟨t,k4,C,-,hq⟩:=wd4 z hz;have hw:Wd (2^t) t:=⟨rfl,k4,C⟩
 obtain⟨n,hn⟩:=hE (2^t);rw[hn.out]at hq hw;refine Uz ?_;refine Hp (λm=>m=n) ?_ ?_
 ·go_wp2
 clear hq hz h4;intro m kl ke kr hm;rw[hm];clear hm m;simp only[UN,Us,Uu,Uv];refine Uz ?_;refine Uz ?_;refine PW.begin ?_;refine PW.mv ?_;refine PW.va (.bool (decide ((n:Int)<64))) ?_;refine PW.dn ?_;refine Ho (λx=>x<2^n) ?_ ?_
 ·rcases(show t=3\/t=4\/t=5\/t=6 by omega)with rfl|rfl|rfl|rfl
  ·obtain rfl:n=8:=hn.out.symm;refine VE rfl ?_;refine PW.begin ?_;refine PW.mv ?_;refine PW.mv ?_;refine PW.va (uZ 256) ?_;refine PW.va (uZ 255) ?_;refine PW.ns (wM l 8 v dC) ?_;refine PW.va (uZ ((l%2^8:Nat):Int)) ?_;refine PW.dn ?_;exact⟨rfl,rfl,l%2^8,_,_,_,_,_,V5 _ dC,rfl⟩
  ·obtain rfl:n=16:=hn.out.symm;refine VE rfl ?_;refine PW.begin ?_;refine PW.mv ?_;refine PW.mv ?_;refine PW.va (uZ 65536) ?_;refine PW.va (uZ 65535) ?_;refine PW.ns (wM l 16 v dC) ?_;refine PW.va (uZ ((l%2^16:Nat):Int)) ?_;refine PW.dn ?_;exact⟨rfl,rfl,l%2^16,_,_,_,_,_,V5 _ dC,rfl⟩
  ·obtain rfl:n=32:=hn.out.symm;refine VE rfl ?_;refine PW.begin ?_;refine PW.mv ?_;refine PW.mv ?_;refine PW.va (uZ 4294967296) ?_;refine PW.va (uZ 4294967295) ?_;refine PW.ns (wM l 32 v dC) ?_;refine PW.va (uZ ((l%2^32:Nat):Int)) ?_;refine PW.dn ?_;exact⟨rfl,rfl,l%2^32,_,_,_,_,_,V5 _ dC,rfl⟩
  ·obtain rfl:n=64:=hn.out.symm;refine VI rfl ?_;refine WS ?_;exact⟨rfl,rfl,l,_,_,_,_,_,v,rfl⟩
 clear v hn;intro x kh kk kn kc kg hx;simp only[UN,Us,Uu,Uv];have hs:n<=64:=by rw[hw.1];exact UC (VA dC hw.2.2) dC
 have k5:x<18446744073709551616:=Ux hx (UC (VA dC hs) dC);obtain⟨V,pz,Lb,Rb,Ab,Bb,hC,hP,hV⟩:=HK.out n t x hw hx;have HC:=mk3 hC hP hV;clear hC hP hV HK hx hw hs;refine Uz ?_;refine PW.begin ?_;refine PW.mv ?_;refine PW.ca (Rj s 0 w) ?_;rintro x1 y ⟨S,hb⟩;simp only[UN,Us,Uu,Uv];refine PW.va x1 ?_;refine PW.dn ?_;refine hG y.heap.size λo c=>?_
 refine hG (y.alloc (.cells (madeCells #[.int .u8 0] 32) 5)) λW2 hc=>?_
 have m2:=Rx y;have g:Holds encB (y.alloc (.cells (madeCells #[.int .u8 0] 32) 5)) y.heap.size 0 (UJ 32 0):=SP.Holds.made (enc:=encB) y 5 32 0;have b2:=aC y (.cells (madeCells #[.int .u8 0] 32) 5);have s2:y.heap.size<(y.alloc (.cells (madeCells #[.int .u8 0] 32) 5)).heap.size:=by rw[UB];exact YG _
 rw[hc.out]at m2 g b2 s2;rw[c.out]at m2 g;refine Uz ?_;refine PW.begin ?_;refine PW.ns m2 ?_;refine PW.va (sZ o 32 32) ?_;refine PW.dn ?_;clear m2;have cp:=Ag (P:=prog) W2 23 9 3 5 o 0 32 32 sd SP.slice22 SP.size5 (λj hj=>by rw[(g j (by rw[UP];exact hj)).1];rfl) (λj hj=>(g j (by rw[UP];exact hj)).2);have O:=sd_holds sd g;refine hG (W2.setCells o 0 ((sd.data.toList.take 32).map λx=>VZ .u8 (x.toNat:Int))) λb D=>?_
 have b3:kZ y b:=by rw[<-D.out];exact RG.below_setCells (by rw[c.out];exact Uw _) _ _ _ b2
 have s3:o<b.heap.size:=by rw[<-D.out,setCells_size,<-c.out];exact s2
 rw[D.out]at cp O;refine Uz ?_;refine PW.begin ?_;refine PW.mv ?_;refine PW.mv ?_;refine PW.ns cp ?_;refine PW.dn ?_;clear cp g;have aK:=hb.argS.below b3;have pK:=qX O (bJ _);have hg:=S.trans (b3.mono S.size);have A3:=mk3 aK pK hg;clear aK pK hg hb S b2 b3 s2 s3 O c hc D;refine hG b.heap.size λk p=>?_
 refine hG (b.alloc (.cells (madeCells #[.int .u8 0] 32) 5)) λW4 hr=>?_
 have m4:=Rx b;have F:Holds encB (b.alloc (.cells (madeCells #[.int .u8 0] 32) 5)) b.heap.size 0 (UJ 32 0):=SP.Holds.made (enc:=encB) b 5 32 0;have b4:=aC b (.cells (madeCells #[.int .u8 0] 32) 5);have s4:b.heap.size<(b.alloc (.cells (madeCells #[.int .u8 0] 32) 5)).heap.size:=by rw[UB];exact YG _
 rw[hr.out]at m4 F b4 s4;rw[p.out]at m4 F;refine Uz ?_;refine PW.begin ?_;refine PW.ns m4 ?_;refine PW.va (sZ k 32 32) ?_;refine PW.dn ?_;have K0:Hid (kZ b W4/\k<W4.heap.size/\Holds encB W4 k 0 (fnB (vbF x 0))):=⟨b4,by rw[<-p.out];exact s4,by rw[KW];exact F⟩
 clear m4 F b4 s4 hr;refine Uz ?_;refine Uz ?_;refine PW.begin ?_;refine PW.va (iZ 0) ?_;refine PW.dn ?_;refine wp_block ?_;go_loopg [13] 8 (λgk s13 wr=>∃i:Nat,i+gk=8/\s13=iZ i/\Hid (kZ b wr/\k<wr.heap.size/\Holds encB wr k 0 (fnB (vbF x i))))
 case atStart=>exact⟨0,oM,rfl,K0⟩
 case round =>
  clear K0;obtain⟨i,k8,rfl,KM⟩:=hrel;by_cases hi:i<8
  ·have H:(i:Int)<8:=oM;have a:VS.wrap (31-(i:Int))=((31-i:Nat):Int):=by rw[Yj];omega
   have A:VS.wrap (8*(i:Int))=((8*i:Nat):Int):=by rw[Yj];omega
   have u:VS.wrap ((i:Int)+1)=((i+1:Nat):Int):=by rw[Yj];omega
   have r:=TU k (31-i) oM wr;have q:=LM (P:=prog) (w:=wr) x (8*i) oM;have th:wr.there k (31-i) 1:=λj hj=>by
    obtain rfl:j=0:=oM;have:=KM.out.2.2 (31-i) (by rw[bJ];omega);rw[UD]at this;exact⟨by rw[XB,this.1];rfl,this.2⟩
   refine hG (wr.setCells k (31-i) [.int .u8 (Xy.wrap ((x/2^(8*i):Nat):Int))]) λf d=>?_
   have B:Hid (kZ b f/\k<f.heap.size/\Holds encB f k 0 (fnB (vbF x (i+1)))):=by
    rw[<-d.out];exact⟨RG.below_setCells (by rw[p.out];exact Uw _) _ _ _ KM.out.1,by rw[setCells_size];exact KM.out.2.1,KX hi KM.out.2.2⟩
   clear KM;refine Uz ?_;refine Uz ?_;refine PW.begin ?_;refine PW.mv ?_;refine PW.va (.bool (decide ((i:Int)<8))) ?_;rw[decide_eq_true H];refine PW.dn ?_;refine VE rfl ?_;refine WS ?_;refine Uz ?_;refine wp_block ?_;refine PW.begin ?_;refine PW.mv ?_;refine PW.mv ?_;refine PW.va (iZ (VS.wrap (31-(i:Int)))) ?_;rw[a];refine PW.mv ?_;refine PW.mv ?_;refine PW.va (iZ (VS.wrap (8*(i:Int)))) ?_;rw[A];refine PW.ns q ?_;refine PW.va (.int .u8 (Xy.wrap ((x/2^(8*i):Nat):Int))) ?_;refine PW.ns r ?_;refine fV rfl 5 _ _ rfl k (31-i) (.int .u8 (Xy.wrap ((x/2^(8*i):Nat):Int))) rfl rfl rfl rfl th iU8 ?_;rw[d.out];refine PW.dn ?_;refine PW.begin ?_;refine PW.mv ?_;refine PW.va (iZ (VS.wrap ((i:Int)+1))) ?_;rw[u];go_wp2;go_roundg (gk-1)
   case measure=>omega
   case rel=>exact⟨i+1,oM,rfl,B⟩
  ·have H:¬(i:Int)<8:=oM;refine Uz ?_;refine Uz ?_;refine PW.begin ?_;refine PW.mv ?_;refine PW.va (.bool (decide ((i:Int)<8))) ?_;rw[decide_eq_false H];refine PW.dn ?_;refine VI rfl ?_;refine wp_exit ?_;have h0:0<t:=oM;have Z:Hid (Arg wr (sZ k 32 32) (bx x)/\Arg wr x1 (nmB s 0)/\PartOk wr (sZ o 32 32) (fnB (sdF sd)).toList/\kZ w wr):=by
    obtain⟨d,q,f⟩:=KM.out;rw[show i=8 by omega,Qv x k5]at f;exact⟨⟨_,32,32,rfl,eE _,λ_=>⟨k,0,rfl,Uw _,q,f⟩⟩,A3.out.1.below d,A3.out.2.1.below d,A3.out.2.2.trans (d.mono A3.out.2.2.size)⟩
   clear KM A3 k8 hi H;refine Uz (P:=prog) ?_;refine PW.begin ?_;refine PW.mv ?_;refine PW.mv ?_;refine PW.ca (HC.out.1 _ _ wr Z.out.1 Z.out.2.1) ?_;rintro e W6 ⟨B,ht,hl,rfl,hp⟩;simp only[UN,Us,Uu,Uv];refine PW.mv ?_;refine PW.va (sZ ht 33 hl) ?_;refine PW.va (iZ 0) ?_;refine PW.va (sZ ht 33 hl) ?_;refine PW.va (iZ 0) ?_;refine PW.dn ?_;have A6:=mk3 (Z.out.2.1.below B) (Z.out.2.2.1.below B) (Z.out.2.2.2.trans (B.mono Z.out.2.2.2.size));clear Z;refine Uz ?_;refine PW.begin ?_;refine PW.mv ?_;refine PW.mv ?_;refine PW.mv ?_;refine PW.mv ?_;refine PW.ca (HC.out.2.1 _ _ _ W6 A6.out.1 A6.out.2.1) ?_;rintro e W7 ⟨U,e7,B0,rfl,-,hR⟩;simp only[UN,Us,Uu,Uv];obtain⟨cs,A,X,k1,q0,c0,k6⟩:=hR.cl h0;have a7:=hp.below U;have B7:=mk1 (A6.out.2.2.trans (U.mono A6.out.2.2.size));clear A6 B U hp;refine hG W7.heap.size λhk K=>?_
   refine hG (W7.alloc (.cells z11.toArray 28)) λW8 Y=>?_
   refine hG (W8.setCells hk 0 cs) λW9 T=>?_
   have K8:=mk1 ((Mp.start W7).new K Y);have K9:=mk1 (K8.out.put 0 T rfl (by rw[X];rfl));have E:(prog.info? 28).map (·.size)=some cs.length:=by rw[X];exact iAr
   refine PW.mv ?_;refine PW.va e7 ?_;refine PW.va (iZ 0) ?_;refine PW.al K Y ?_;refine PW.st T A (K8.out.th 0 rfl (by rw[X];rfl)) E k1 ?_;refine PW.va (iZ 0) ?_;refine PW.dn ?_;refine Uz ?_;refine PW.begin ?_;refine PW.mv ?_;refine PW.mv ?_;refine PW.ro (K9.out.at_ 0).2.1 A uAr E ?_;refine PW.gi (HC.out.2.2 B0 e7 _ W9 (a7.below K9.out.bl) (hR.below K9.out.bl)) λki N=>?_
   have G:=mk1 (K9.out.grow N);clear K8 K9 N HC a7 Y T;refine PW.va (.bool true) ?_;refine PW.dn ?_;have q:=hR.below G.out.bl;refine Uz ?_;refine PW.begin ?_;refine PW.ro (G.out.at_ 0).2.1 A uAr E ?_;refine PW.ca (q.put h0 C) ?_;rintro e k9 ⟨L,kf,rfl,hpt,R,h5,rfl,I⟩;have h6:=IE (q.good C) k9 R h5 hpt I;generalize V3 (eU t (rgB t pz Lb Rb Ab Bb) (t+t+9))=ha at h6;clear hpt I q;have hu:=mk1 (G.out.grow L);clear G L;simp only[UN,Us,Uu,Uv];refine PW.mv ?_;refine PW.va (sZ R ha h5) ?_;refine PW.va (iZ 0) ?_;refine PW.va (sZ R ha h5) ?_;refine PW.va (iZ 0) ?_;refine PW.dn ?_;refine Uz ?_;refine PW.begin ?_;refine PW.mv ?_;refine PW.ca h6 ?_;rintro e W ⟨M,ka,rfl,hD⟩;simp only[UN,Us,Uu,Uv];have h8:=mk1 (hu.out.grow M);clear hu M h6;obtain⟨ds,h7,a,k2⟩:=hD.cl;refine hG W.heap.size λkb r=>?_
   refine hG (W.alloc (.cells z11.toArray 28)) λk7 d=>?_
   refine hG (k7.setCells kb 0 ds) λkd f=>?_
   have Q:=mk1 (h8.out.new r d);have u:=mk1 (Q.out.put 1 f rfl (by rw[a];rfl));have h9:(prog.info? 28).map (·.size)=some ds.length:=by rw[a];exact iAr
   have hy:=hD.below ((((Mp.start W).new r d).put 0 f rfl (by rw[a];rfl)).bl);refine PW.mv ?_;refine PW.va ka ?_;refine PW.va (iZ 0) ?_;refine PW.al r d ?_;refine PW.st f h7 (Q.out.th 1 rfl (by rw[a];rfl)) h9 k2 ?_;refine PW.va (iZ 0) ?_;refine PW.dn ?_;have he:=(hR.below u.out.bl).same h0 C hy;clear h8 Q hD hy hR d f;refine Uz ?_;refine PW.begin ?_;refine PW.ro (u.out.at_ 0).2.1 A uAr E ?_;refine PW.ro (u.out.at_ 1).2.1 h7 uAr h9 ?_;refine PW.ca he ?_;rintro e kp ⟨rfl,J⟩;have k0:=mk1 (u.out.grow J);clear u J he;simp only[UN,Us,Uu,Uv];refine PW.va (.bool true) ?_;refine PW.dn ?_;refine Uz ?_;refine PW.begin ?_;refine PW.mv ?_;refine PW.va (.bool true) ?_;refine PW.mv ?_;refine PW.gd ?_;refine PW.mv ?_;refine PW.gd ?_;refine PW.va (.bool true) ?_;refine PW.va (.bool true) ?_;refine PW.mv ?_;refine PW.gd ?_;refine PW.mv ?_;refine PW.gd ?_;refine PW.va (.bool true) ?_;refine PW.va (.bool true) ?_;refine PW.mv ?_;refine PW.gd ?_;refine PW.mv ?_;refine PW.gd ?_;refine PW.va (.bool true) ?_;refine PW.va (.bool true) ?_;refine PW.mv ?_;refine PW.gd ?_;refine PW.va (jZ hk) ?_;refine PW.gd ?_;refine PW.ce ((k0.out.at_ 0).2.1 0 _ k6) uSb ?_;refine PW.gd ?_;refine PW.va (iZ 33) ?_;refine PW.gd ?_;refine PW.va (.bool true) ?_;refine PW.va (.bool true) ?_;refine PW.mv ?_;refine PW.gd ?_;refine PW.mv ?_;refine PW.va (.bool true) ?_;refine PW.mv ?_;refine PW.gd ?_;refine PW.mv ?_;refine PW.va (.bool true) ?_;refine PW.va (.bool true) ?_;refine PW.dn ?_;go_wp2;go_ret;exact⟨_,rfl,B7.out.trans (k0.out.bl.mono B7.out.size),rfl⟩
end
section
variable {P:Nat}[NeZero P]{N:Nat}
theorem fld:∃(P:Nat) (_:NeZero P),Fld P:=by
 obtain⟨P,f,j,g⟩:=cur;have i:P=Go.Proofs.YtdoammpgchejcaaGreat.p0:=by rw[j];decide +kernel
 have d:=T8;have c:2<=Go.Proofs.YtdoammpgchejcaaGreat.p0%18446744073709551616:=by decide +kernel
 have b:Go.Proofs.YtdoammpgchejcaaGreat.p0/4%18446744073709551616<18446744073709551615:=by decide +kernel
 have k:Go.Proofs.YtdoammpgchejcaaGreat.p0%4=3:=by decide +kernel
 have e:7<Go.Proofs.YtdoammpgchejcaaGreat.p0:=by decide +kernel
 rw[<-i]at d c b k e;exact⟨P,f,⟨d,g,c,b,k,e⟩⟩
end
namespace EC
variable {P:Nat}[NeZero P]
def fo{α:Type}(x:Fin P)(f:Fin P->α):α:=
 match x.val with
 | 0=>f (Xh P 0)
 | n+1=>f (Xh P (n+1))
theorem Si{α:Type}(x:Fin P)(f:Fin P->α):fo x f=f x:=by
 have hx:Xh P x.val=x:=Fin.ext (US x.isLt);unfold fo;split
 ·next h=>rw[h]at hx;rw[hx]
 ·next n h=>rw[h]at hx;rw[hx]
def runs(u v:Fin P)(e:Nat):Nat->Fin P->Fin P->Fin P->Bool
 | 0,_,_,z=>decide (z=0)
 | k+1,x,y,z=>fo (twX x y) λX=>fo (twY x y) λY=>fo (twZ y z) λZ =>
  if e/2^k%2=1 then
   if Z=0 then false else
   fo (cN X 1) λd=>fo (eK Y 1) λg=>fo (cN u Z) λbx=>fo (eK v Z) λf =>
   if d=bx/\g=f then false else
   fo (plX d g bx f) λa=>fo (plY d g bx f) λb=>fo (plZ Z 1 d bx) λc=>runs u v e k a b c
  else runs u v e k X Y Z
theorem DD(C:Cur P):(1:Fin P)≠0:=λh=>C.two (by
 calc (2:Fin P)=2*1:=by grobner
  _=0:=by rw[h];grobner)
theorem AK(C:Cur P){u v:Fin P}(c:On (some (u,v)))(e:Nat):∀(k m:Nat) (x y z:Fin P),Jac x y z (mul m (some (u,v)))->runs u v e k x y z=true->mul (m*2^k+e%2^k) (some (u,v))=none
 | 0,m,x,y,z,hj,h=>by
  have b:=of_decide_eq_true h;rw[Nat.pow_zero,yAW,Nat.mul_one,XB];exact hj.zero C b
 | k+1,m,x,y,z,hj,h=>by
  have p:=cG C c m;have j:=hj.twice C p;rw[<-mul_add C c]at j;have o:e%2^(k+1)=e/2^k%2*2^k+e%2^k:=by
   rw[V7,Nat.mod_mul,Vv (2^k) (e/2^k%2),Nat.add_comm]
  have n:2^(k+1)=2*2^k:=by rw[V7,Vv]
  unfold runs at h;simp only[Si]at h;by_cases b:e/2^k%2=1
  ·rw[yCj b]at h;by_cases l:twZ y z=0
   ·rw[yCj l]at h;cases h
   ·rw[yCk l]at h;have f:Jac u v 1 (some (u,v)):=⟨DD C,by grobner,by grobner⟩
    rcases j.plus C (cG C c _) f c l (DD C)with⟨g,d,-⟩|⟨g,d⟩
    ·rw[yCj ⟨g,d⟩]at h;cases h
    ·rw[yCk g]at h;have i:=AK C c e k (m+m+1) _ _ _ d h;rw[o,b,n];rw[show m*(2*2^k)+(1*2^k+e%2^k)=(m+m+1)*2^k+e%2^k by
      rw[XF,XF,<-X1,Vv m 2,yBS,XF];omega]
     exact i
  ·rw[yCk b]at h;have d:e/2^k%2=0:=oM;have i:=AK C c e k (m+m) _ _ _ j h;rw[o,d,n];rw[show m*(2*2^k)+(0*2^k+e%2^k)=(m+m)*2^k+e%2^k by
    rw[<-X1,Vv m 2,yBS];omega]
   exact i
def pL:Nat:=115792089237316195423570985008687907853269984665640564039457584007908834671663
def nL:Nat:=115792089237316195423570985008687907852837564279074904382605163141518161494337
instance:NeZero pL:=⟨dK⟩
theorem OO:runs (P:=pL) (Xh pL 55066263022277343669578718895168534326250603453777594175500187360389116729240) (Xh pL 32670510020758816978083085130507043184471273380659243275938904335757337482424) nL 255 (Xh pL 55066263022277343669578718895168534326250603453777594175500187360389116729240) (Xh pL 32670510020758816978083085130507043184471273380659243275938904335757337482424) 1=true:=dK
theorem LD:2*pL+1<3*nL:=dK
theorem Pw:1*2^255+nL%2^255=nL:=dK
theorem order(C:Cur P)(b:P=pL)(k:On (some (Xh P 55066263022277343669578718895168534326250603453777594175500187360389116729240,Xh P 32670510020758816978083085130507043184471273380659243275938904335757337482424))){r:Pt P}(c:On r):mul nL r=none:=by
 subst b;refine IR C (n:=nL) NT.pN LD k (λh=>by cases h) ?_ c;have h:=AK C k nL 255 1 _ _ 1 (by
  show Jac _ _ 1 (add none _);rw[jJ];exact⟨DD C,by grobner,by grobner⟩) OO
 rwa[Pw]at h
end EC
section
theorem IL:Go.Proofs.YtdoammpgchejcaaGreat.p1=nL:=dK
variable {P:Nat}[NeZero P]
theorem order2(C:Fld P)(r:EC.Pt P)(k:On r):mul Go.Proofs.YtdoammpgchejcaaGreat.p1 r=none:=by
 rw[IL];have b:P=EC.pL:=by
  rw[C.eq];rfl
 exact order C.cur b (Cr C) k
end
section
open SPA
variable {P:Nat}[NeZero P]{N:Nat}
theorem Rh:Ord Go.Proofs.YtdoammpgchejcaaGreat.p1:=⟨T0,QV,dK,dK⟩
theorem Mc:IsP Go.Proofs.YtdoammpgchejcaaGreat.p1:=by
 rw[IL];exact NT.pN
theorem H8(x:Int)(f:0<=x)(hx:x<18446744073709551616)(z:Int)(k:-9223372036854775808<=z)(b:z<=9223372036854775807)(s c:ByteArray)(w:Ur):
 UH prog 4 #[uZ x,iZ z,.string s,.string c] w λe w'=>e=.returned (.bool true)/\kZ w w':=by
 obtain⟨P,g,C⟩:=fld;have i:NeZero Go.Proofs.YtdoammpgchejcaaGreat.p1:=⟨dK⟩
 obtain⟨n,rfl⟩:=Int.eq_ofNat_of_zero_le f;refine(Ov s c n oM z k b w λm t v d hv=>trk C Rh (order2 C) Mc dK s _ d v hv).mono ?_;rintro e w' ⟨v,rfl,h,rfl⟩;exact⟨rfl,h⟩
end
/-
  THE ROW OF 'SpanTrue' round its walk; the frame by the guide's program (howto/shells), the world behind the call told by 'Below'.
-/
namespace spanTrue
open Go.ChangeShapes Go.WideShapes Go.ChangeAt
open Go.ChangeMaps (open_string shut_string)
theorem own:ownKnob prog.godebug=none:=by kernel_rfl
theorem lifted(r:Os)(b:r.Started)(H:Type)(enc:U8 × Ut->H):
 ReturnsInHanded {} Tryz.checked r 4 .any (Rows.spanTrueSpec.pre6 enc prog Tryz.f4 Rows.spanTrueRow.domain false) (Rows.spanTrueSpec.post enc prog Tryz.f4 false true false false):=by
 refine returnsInHanded_of_change (C:=Tryz.checked) own b (by kernel_rfl) func4
  (ChangeSpec.witness6 (enc:=enc) (C:=Tryz.checked) false ⟨#[],#[uZ 0,iZ 0,.string yAs,.string yAs],[]⟩ 8 (by kernel_rfl) (by kernel_rfl) (by kernel_rfl) (by kernel_rfl)) ?_
 intro W d args G gs i c s w _;have k:∀(j:Nat) t v,Tryz.f4.params[j]? = some t->args[j]? = some v->Value.okWide prog W .any d t v:=c;have n:=s;obtain⟨p,q,f,P,rfl,L,O⟩:=s;have u:DataW.TrodAll enc prog W 0 (λ_=>true) true Tryz.f4.params.toList args.toList G p:=f;rw[params4]at u k;obtain⟨v0,K,d0,F,p0,q0,m,rfl,rfl,M,Q⟩:=trodAll_cons u;obtain⟨v1,R,d1,N,p1,q1,rfl,rfl,rfl,V,D⟩:=trodAll_cons Q;obtain⟨v2,E,d2,A,p2,q2,rfl,rfl,rfl,U,a⟩:=trodAll_cons D;obtain⟨o,Y,Z,X,p3,q3,rfl,rfl,rfl,z,B⟩:=trodAll_cons a;obtain⟨rfl,rfl,rfl⟩:=trodAll_nil B;obtain rfl:args=#[v0,v1,v2,o]:=by cases args;simp_all
 obtain⟨rfl,rfl⟩:=trodVars_none P;obtain⟨a0,rfl,rfl,rfl,x⟩:=open_int underlying22 (k 0 22 v0 rfl rfl) M;obtain⟨l,rfl,rfl,rfl,y⟩:=open_int underlying3 (k 1 3 v1 rfl rfl) V;obtain⟨a2,rfl,rfl,rfl,T⟩:=open_string underlying9 (k 2 9 v2 rfl rfl) U;obtain⟨J,rfl,rfl,rfl,S⟩:=open_string underlying9 (k 3 9 o rfl rfl) z;clear f c;have g:-9223372036854775808<=l/\l<=9223372036854775807:=by
  have h:=y;have e:VS.min = -9223372036854775808:=by decide
  have e':VS.max=9223372036854775807:=by decide
  simp[Lit.wf,e,e']at h;omega
 have hx:0<=a0/\a0<18446744073709551616:=by
  have h:=x;have e:Vo.min=0:=by decide
  have e':Vo.max=18446744073709551615:=by decide
  simp[Lit.wf,e,e']at h;omega
 refine(H8 a0 hx.1 hx.2 l g.1 g.2 a2 J W).mono λe W' ⟨I,bel⟩=>?_
 subst I;exact⟨_,rfl,_,_,_,[],_,[],n,YK (shut_bool underlying4 _) trodAll_mk0,YK (shut_int underlying22 x) (YK (shut_int underlying3 y) (YK (shut_string underlying9 T) (YK (shut_string underlying9 S) trodAll_mk0))),rfl,bel.frame _,λh=>by cases h⟩
theorem over:Rows.spanTrueRow.holds Tryz.pinned (OpenSpec.ofChange Rows.spanTrueSpec):=
 OpenClaim.holds_of_wide 4 Tryz.f4 rfl rfl rfl rfl rfl rfl rfl ⟨rfl,rfl,rfl,rfl,rfl⟩ rfl rfl rfl rfl rfl (by kernel_rfl) func4 (by kernel_rfl)
  (of_decide_eq_true (by kernel_rfl)) (by unfold Func.isWrapper;first|(rw[yCj (by decide +kernel)];kernel_rfl)|(rw[yCk (by decide +kernel)];exact⟨rfl,rfl⟩))
  (λb k H enc _=>lifted b k H enc)
theorem proved:Rows.SpanTrueSaid:=
 over
end spanTrue
section
theorem spanTrue_holds:Rows.SpanTrueSaid:=spanTrue.proved
#print axioms spanTrue_holds
end
end Go.Proofs.YtdoammpgchejcaaGreat
