import Derived.Deep.DeepCutAuto
import Derived.Deep.Upon
import Derived.Lib.LazyBuf
import Derived.ChangeOld
import Derived.Below
import Derived.WalkKit
import Derived.ProofKit
import Derived.OpenShut
import Derived.ShutString
import Derived.Test.YtdoammpgchejcaaGreatsz7
set_option linter.unusedVariables false
set_option linter.constructorNameAsVariable false
set_option linter.unusedSimpArgs false
set_option maxRecDepth 1000000
set_option maxHeartbeats 4000000
namespace Go.Proofs.YtdoammpgchejcaaGreat
open EC NT RG SP
open _root_.Array renaming ext'->yBT,getD_eq_getD_getElem?->UI,getElem?_push_size->WW,replicate->UJ,size->V5,size_append->VN,size_replicate->UP,toList_ofFn->Zw
open _root_.BitVec renaming ofInt->Xd,ofInt_natCast->Ze,toNat_ofNat->YG
open _root_.ByteArray renaming empty->yAu
open _root_.Fin renaming ofNat->Xj
open _root_.Go renaming Addr->Ww,Calls->UH,Oper->Vk,Program->VD,TypeId->U8,Value->Ut,World->Ur,bodyPost_ret->UE,execOp->U5,run_make_row'->yBG,trodAll_cons_mk->YM,undef->WR,wpList_load_mid->U6,wpList_store_mid->U2,wp_cond_false->VI,wp_cond_true->VE,wp_seq->Uz,wp_skip->WU
open _root_.Go.Act renaming put->UN
open _root_.Go.Builtin renaming copy_->X1,firstCells->Zj
open _root_.Go.Instr renaming indexAt->Vl,sliceAt->Xp
open _root_.Go.IntKind renaming i64->VS,u64->Vo,u8->XA,wrap_i64->Yl
open _root_.Go.Lib renaming size_eq->yB2,wpList_append_run->WL
open _root_.Go.Op renaming intBits->yCb
open _root_.Go.Oper renaming wp->VT
open _root_.Go.Region renaming wanted->V4
open _root_.Go.RowKit.Below renaming refl->UR
open _root_.Go.Sem renaming run_bind->UV
open _root_.Go.Value renaming int->VZ,ownBlock->Wp
open _root_.Go.World renaming cell?->VY,cell?_setCell_other->UU,cell?_setCell_same->VV,frozen?->WY,heap_setCells_other->Z1,size_alloc->UB,size_setCell->Yh
open _root_.List renaming all_cons->Zv,all_nil->ZM,all_toArray->Yc,append_assoc->Vx,getD_eq_getElem?_getD->VQ,getElem?_append_left->UT,getElem?_append_right->U1,getElem?_eq_getElem->UG,getElem?_eq_none->Wz,getElem?_eq_some_iff->UF,getElem?_map->Vz,getElem_map->Xf,getElem_take->yAS,length_append->UA,length_cons->Vj,length_map->UQ,length_nil->WI,length_take->WH,map_append->Wq,mem_append->WB,mem_cons->VX,mem_map->Vn,mem_of_getElem?->VJ,mem_replicate->Zq,not_mem_nil->UY,ofFn_succ->yBs,range->VG,replicate->VB,setIfInBounds_toArray->Us,set_cons_succ->Uu,set_cons_zero->Uv,sum_append->yBc,sum_cons->yBy,take_add_one->ZJ,take_append_drop->Zc,take_of_length_le->Zb
open _root_.Nat renaming add_assoc->WT,add_mul->XH,add_sub_cancel_left->WN,add_zero->XD,div_eq_of_lt->Xg,le_of_ble_eq_true->VR,le_refl->Uw,le_trans->UC,lt_of_lt_of_le->Ux,lt_of_succ_le->Xl,lt_succ_self->YI,min->XR,min_eq_left->yBq,mod_eq_of_lt->US,mod_lt->V7,mod_one->yAY,mul_assoc->X5,mul_comm->Vv,pow_le_pow_right->VA,pow_succ->V9,sub_self->YW,two_mul->yBU,zero_add->UD,zero_le->WA
open _root_.Option renaming map->yBD,map_eq_some_iff->Uy,some->UO
open _root_.Or renaming inl->U4,inr->UX
open _root_.Prod renaming mk->V8
open _root_.UInt8 renaming ofNat->UM
open Go.Proofs.Tryz
variable {b:Bs}{B d g i j or s t:Nat}{Rb:Nat->Bs}{p:Rp}{W':Ur}{e v:Ut}
section
open Go.RowKit Go.Sort Go.Deep
variable {P:Nat}[NeZero P]{N:Nat}
def Cor(W:Ur)(k:List (Ww × Nat))(us:List Ut):Prop:=k.length=us.length/\∀(j:Nat) x u,k[j]? = some x->us[j]? = some u->(∃b o,x.1=⟨b,o,none⟩)/\W.cell? x.1=some u
theorem Cor.app{W:Ur}{p1 p2:List (Ww × Nat)}{u1 u2:List Ut}(k:Cor W p1 u1)(d:Cor W p2 u2):Cor W (p1++p2) (u1++u2):=by
 refine⟨by rw[UA,UA,k.1,d.1],λj x u hx b=>?_⟩;by_cases c:j<p1.length
 ·rw[UT c]at hx;rw[UT (by rw[<-k.1];exact c)]at b;exact k.2 j x u hx b
 ·rw[U1 (by omega)]at hx;rw[U1 (by rw[<-k.1];omega),<-k.1]at b;exact d.2 _ x u hx b
theorem Cor.lp{W:Ur}{s:Sv}{b o:Nat}{ys:List Ut}(h:VL W s.q s.n ys)(c:s.n=0\/s.q=some ⟨b,o,none⟩):Cor W (lp b o s.n) ys:=by
 refine⟨by rw[jK,h.len],λj x u hx f=>?_⟩;unfold Go.Proofs.YtdoammpgchejcaaGreat.lp at hx;rw[Vz]at hx;obtain⟨k,g,rfl⟩:=Uy.1 hx;have p:j<s.n:=by
  have:=(UF.1 g).1;simpa using this
 have e:j=k:=by
  have:=(UF.1 g).2;simpa using this
 subst e;refine⟨⟨_,_,rfl⟩,?_⟩;rcases h.cells with l|⟨m,n,d,-,i⟩
 ·rw[l]at f;cases f
 ·rcases c with c|c
  ·omega
  ·rw[c]at d;have d:=UO.inj d;injection d with e1 e2 _
   subst e1 e2;exact i j u f
def qY(p:Rg)(b k:List Ut):List Ut:=[p.a.v,p.b.v,p.c.v,p.d.v,p.e.v,p.f.v,p.g.v]++b++k++[p.x.v,p.y.v]
def fN(k c b n d or m:Nat):List (Ww × Nat):=tH k++lp c b n++lp d or m++endP k
theorem MQ{W:Ur}{m l:Nat}{p:Rg}{e d:List Ut}(f:W.rangeAt m 0 p.cs)(o:VL W p.l.q p.l.n e)(hR:VL W p.r.q p.r.n d)(q:p.l.n=0\/p.l.q=some ⟨g,l,none⟩)(n:p.r.n=0\/p.r.q=some ⟨i,or,none⟩):
 Cor W (fN m g l p.l.n i or p.r.n) (qY p e d):=by
 refine Cor.app (Cor.app (Cor.app ?_ (Cor.lp o q)) (Cor.lp hR n)) ?_
 ·refine⟨rfl,λj x u hx b=>?_⟩;have c:=f j u;rw[UD]at c;match j,hx,b with
  | 0,hx,b|1,hx,b|2,hx,b|3,hx,b|4,hx,b|5,hx,b|6,hx,b =>
   obtain rfl:=UO.inj hx;exact⟨⟨_,_,rfl⟩,c b⟩
  | k+7,hx,b=>cases hx
 ·refine⟨rfl,λj x u hx b=>?_⟩;match j,hx,b with
  | 0,hx,b =>
   obtain rfl:=UO.inj hx;exact⟨⟨_,_,rfl⟩,by have c:=f 9 u b;rw[UD]at c;exact c⟩
  | 1,hx,b =>
   obtain rfl:=UO.inj hx;exact⟨⟨_,_,rfl⟩,by have c:=f 10 u b;rw[UD]at c;exact c⟩
  | k+2,hx,b=>cases hx
def gZ(n m:Nat):List Nat:=[33,33,33,33,32,32,32]++VB n 33++VB m 33++[32,32]
theorem sK(c d k n e or m:Nat):(fN c d k n e or m).map (·.2)=gZ n m:=by
 have h:∀b o n,(lp b o n).map (·.2)=VB n 33:=λb o n=>by
  unfold lp;rw[List.map_map];exact List.ext_getElem (by simp) (λi f g=>by simp)
 unfold fN gZ;rw[Wq,Wq,Wq,h,h];rfl
theorem EO(n m:Nat):∀k∈gZ n m,k<=33:=by
 intro k b;unfold gZ at b;simp only[WB,VX,UY,or_false,Zq]at b;omega
theorem kV(n m:Nat):(gZ n m).length=n+m+9:=by
 unfold gZ;simp only[UA,List.length_replicate,Vj,WI];omega
def PtB(W:Ur)(us:List Ut)(BB:List SP.Bs):Prop:=BB.length=us.length/\∀(j:Nat) u b,us[j]? = some u->BB[j]? = some b->Pt W u b
def eU(n:Nat)(BB:List SP.Bs)(i:Nat):SP.Bs:=(BB.take i).foldl (·++·) #[n.toUInt8]
theorem lE(n:Nat)(BB:List SP.Bs)(i:Nat)(b:SP.Bs)(h:BB[i]? = some b):eU n BB (i+1)=eU n BB i++b:=by
 unfold eU;rw[ZJ,h];simp
def mM(n m:Nat)(BB:List SP.Bs):Prop:=n=m/\n<=6/\BB.map V5=gZ n m
def S5(w:Ur)(n m:Nat)(BB:List SP.Bs)(e:Ending)(W:Ur):Prop:=kZ w W/\((mM n m BB/\∃v,e=.returned (.tuple #[v,iZ 0])/\Pt W v (eU n BB (n+m+9))/\∃g c,v=sZ g (V5 (eU n BB (n+m+9))) c/\V5 (eU n BB (n+m+9))<=c)\/(¬mM n m BB/\e=.returned (.tuple #[.slice none 0 0,iZ 2])))
theorem PuI.cap{w f W:Ur}{k:Nat}{b:SP.Bs}(h:PuI w f W k d v b):∃g c,v=sZ g (V5 b) c/\V5 b<=c:=by
 rcases id h.ow with⟨j,⟨rfl,-⟩|⟨g,cap,cur,rfl,i,l,e,-⟩⟩
 ·exact absurd rfl h.nn
 ·exact⟨g,cap,rfl,e⟩
theorem PuI.pt{w l W:Ur}{n o:Nat}{b:SP.Bs}(h:PuI w l W n o v b):Pt W v b:=by
 have k:=h.lt;rcases id h.ow with⟨u,⟨rfl,-⟩|⟨g,cap,cur,rfl,s,i,t,q,r,x⟩⟩
 ·exact absurd rfl h.nn
 ·obtain⟨p,c,e,-,m⟩:=k;injection e with e _ _
  injection e with e
  injection e with e _ _
  subst e;refine⟨_,_,rfl,UX ⟨g,0,rfl,m,λj d=>?_⟩⟩;have f:=h.ow.cells (g:=g) rfl j (SP.encB b[j]!) (by
   unfold bC;rw[Vz,UG (by simpa using d),Option.map_some,getElem!_pos b j d];simp)
  rw[lH,UD]at f;refine⟨by rw[UD];exact f,?_⟩;simp[WY,i]
theorem QC:(prog.underlying 112).map (·.isRow)=some true:=by kernel_rfl
theorem iPt:(prog.info? 112).map (·.size)=some 2:=by kernel_rfl
theorem NL(g n c i:Nat)(b:i<n)(w:Ur):(Vl 107 (sZ g n c) (iZ i)).run prog w=.ok (.pointer (some ⟨g,i*2,none⟩)) w:=by
 have d:¬(i:Int)<0:=by omega
 have e:(i:Int)<(n:Int):=by omega
 have k:=lH g 0 (i*2);rw[UD]at k;go_simp
theorem OL(p:Rg){N R L:Nat}{D E:List Ut}{BB:List SP.Bs}(w:Ur)(hL:VL w p.l.q p.l.n D)(hR:VL w p.r.q p.r.n E)(hl:p.l.n=0\/p.l.q=some ⟨N,R,none⟩)(hr:p.r.n=0\/p.r.q=some ⟨L,or,none⟩)(hB:PtB w (qY p D E) BB)(n1:p.l.n<=1000)(n2:p.r.n<=1000):
 UH prog 13 #[.agg p.cs.toArray] w (S5 w p.l.n p.r.n BB):=by
 obtain⟨cs,r⟩:∃cs:List Ut,Hid (p.cs=cs):=⟨_,rfl⟩
 obtain⟨l,s⟩:∃l,Hid (w.alloc (.cells cs.toArray 28)=l):=⟨_,rfl⟩
 have e1:l.heap.size=w.heap.size+1:=by rw[<-s.out,UB]
 have b1:Below w.heap.size w l:=by rw[<-s.out];exact aO _ _
 have r1:l.rangeAt w.heap.size 0 cs:=by rw[<-s.out];exact eI w cs _
 have V:l.cell? ⟨w.heap.size,7,none⟩=some p.l.v:=by have:=r1 7 p.l.v (by rw[<-r.out];rfl);rw[UD]at this;exact this
 have T:l.cell? ⟨w.heap.size,8,none⟩=some p.r.v:=by have:=r1 8 p.r.v (by rw[<-r.out];rfl);rw[UD]at this;exact this
 obtain⟨G,a⟩:∃G,Hid (l.alloc (.cells #[.int .u8 (p.l.n:Int)] 5)=G):=⟨_,rfl⟩
 have b2:Below l.heap.size l G:=by rw[<-a.out];exact aO _ _
 have X:G.heap.size=l.heap.size+1:=by rw[<-a.out,UB]
 have hP:Hid (UH prog 55 #[.pointer (some ⟨w.heap.size,0,none⟩)] G λe w'=>∃v,e=.returned v/\PLs G w' v (fN w.heap.size N R p.l.n L or p.r.n)):=
  zP w.heap.size p.l p.r N R L or G (by omega) (by rw[b2.cell (p:=⟨w.heap.size,7,none⟩) (by show w.heap.size<_;omega)];exact V) (by rw[b2.cell (p:=⟨w.heap.size,8,none⟩) (by show w.heap.size<_;omega)];exact T) hl hr n1 n2
 have C:=Hid.mkP b1;have h1:=Hid.mkP b2;have h2:=Hid.mkP r1;have HE:Hid (l.heap.size=w.heap.size+1/\G.heap.size=l.heap.size+1):=⟨e1,X⟩
 have HL:=Hid.mkP hL;have HR:=Hid.mkP hR;have Hl:=Hid.mkP hl;have Hr:=Hid.mkP hr;have HB:=Hid.mkP hB;have m:Hid ((qY p D E).length=p.l.n+p.r.n+9):=by
  show _=_;unfold qY;simp only[UA,hL.len,hR.len,Vj,WI];omega
 clear b1 b2 r1 e1 X hL hR hl hr hB;rw[r.out];obtain⟨f,O⟩:∃f,Hid (p.l.n=f):=⟨_,rfl⟩
 obtain⟨nr,Q⟩:∃nr,Hid (p.r.n=nr):=⟨_,rfl⟩
 rw[show p.l.v=.slice p.l.q p.l.n p.l.c from rfl]at V;rw[show p.r.v=.slice p.r.q p.r.n p.r.c from rfl]at T;rw[O.out,Q.out]at hP m⊢;rw[O.out]at V n1 a;rw[Q.out]at T n2;generalize p.l.q=ql at V;generalize p.l.c=cl at V;generalize p.r.q=qr at T;generalize p.r.c=cr at T;go_enter func13,ntmps13;by_cases hg:f=nr
 ·subst hg;by_cases h6:f<=6
  ·have hc:¬(6:Int)<(f:Int):=by omega
   have hs:XA.wrap (f:Int)=(f:Int):=by
    show((f:Int)%256)=_;omega
   go_wp2_with (first|(refine aY (v:=.pointer (some ⟨w.heap.size,0,none⟩)) (w':=l) rfl (.box 28 (.tmp 0)) rfl ?_ ?_;(rw[<-s.out,<-r.out];kernel_rfl))|(refine aY (v:=.slice (some ⟨l.heap.size,0,none⟩) 1 1) (w':=G) rfl (.buildSlice 23 1 #[(0,.tmp 23)]) rfl ?_ ?_;(rw[<-a.out];kernel_rfl))|fail)
   refine hP.out.mono ?_;rintro e U ⟨v3,rfl,S⟩;obtain⟨J,Z,rfl,h8,hb⟩:=S.lt;have hM:(fN w.heap.size N R f L or f).length=f+f+9:=by
    rw[<-kV f f,<-sK w.heap.size N R f L or f,UQ]
   have I0:Hid (PuI w U U w.heap.size J (.slice (some ⟨l.heap.size,0,none⟩) 1 1) (eU f BB 0)):=by
    obtain⟨z1,z2⟩:=HE.out;have o:=S.bl.size;refine⟨C.out.trans ((h1.out.mono C.out.size).trans (S.bl.mono (by omega))),⟨rfl,UX ⟨l.heap.size,1,#[.int .u8 f],rfl,by omega,?_,Uw _,by decide,rfl,?_⟩⟩,by simp[Wp],by simp[Wp];omega,by simp[Wp];omega,rfl,rfl,Uw _,by omega,by omega⟩
    ·rw[S.bl.block l.heap.size (by omega),<-a.out];exact WW
    ·show [VZ .u8 f]=[SP.encB f.toUInt8];unfold SP.encB SP.ub;have:(f.toUInt8).toNat=f:=by
      rw[UInt8.toNat_ofNat'];omega
     simp[this]
   have HC:Hid (∀W v b,PuI w U W w.heap.size J v b->∀i,i<f+f+9->∃z y k q n c B,(gZ f f)[i]? = some k/\k<=33/\W.rangeAt J (i*2) [.pointer (some ⟨z,y,none⟩),.int .i64 k]/\W.cell? ⟨z,y,none⟩=some (.slice q n c)/\BB[i]? = some B/\Pt W (.slice q n c) B):=λW v b Y i hi=>by
    obtain⟨z1,z2⟩:=HE.out;have t:W.rangeAt w.heap.size 0 p.cs:=λj u I=>by
     have e:=Y.e1;have o:U.heap[w.heap.size]? = l.heap[w.heap.size]?:=by rw[S.bl.block _ (by omega),h1.out.block _ (by omega)]
     have:W.cell? ⟨w.heap.size,0+j,none⟩=l.cell? ⟨w.heap.size,0+j,none⟩:=by unfold VY;rw[e,o]
     rw[this];exact h2.out j u (by rw[<-r.out];exact I)
    have A:=MQ t (HL.out.below Y.bl) (HR.out.below Y.bl) Hl.out Hr.out;rw[O.out,Q.out]at A;obtain⟨x,hx⟩:∃x,(fN w.heap.size N R f L or f)[i]? = some x:=⟨_,UG (by omega)⟩
    obtain⟨u,hu⟩:∃u,(qY p D E)[i]? = some u:=⟨_,UG (by rw[m.out];omega)⟩
    obtain⟨B,H⟩:∃B,BB[i]? = some B:=⟨_,UG (by rw[HB.out.1,m.out];omega)⟩
    obtain⟨⟨z,y,F⟩,o⟩:=A.2 i x u hx hu;have hpt:=(HB.out.2 i u B hu H).below Y.bl;have P:(gZ f f)[i]? = some x.2:=by rw[<-sK w.heap.size N R f L or f,Vz,hx];rfl
    have K:=S.at i x hx;rw[F]at o;obtain⟨q,c,rfl,-⟩:=id hpt;refine⟨z,y,x.2,q,_,c,B,P,EO f f _ (VJ P),λj u I=>?_,o,H,hpt⟩;have e:=Y.e2;have:W.cell? ⟨J,i*2+j,none⟩=U.cell? ⟨J,i*2+j,none⟩:=by unfold VY;rw[e]
    rw[this,Vv];exact K j u (by unfold pC;rw[F];exact I)
   obtain⟨M,t⟩:∃M,Hid (f+f+9=M):=⟨_,rfl⟩
   rw[t.out]at HC hM;rw[hM];have hq:M<=21:=by have:=t.out;omega
   have h7:Hid (BB.length=M):=by show _=_;rw[HB.out.1,m.out,t.out]
   have h5:Hid ((gZ f f).length=M):=by show _=_;rw[kV,t.out]
   obtain⟨dP,h9,ha⟩:=Uy.1 QC;clear S hM hP HB HL HR Hl Hr m V T h8 hb h2;go_wp2;go_loopg [5,27] M (λgk s5 s27 wr=>∃i:Nat,i+gk=M/\s27=.int .i64 i/\Hid (PuI w U wr w.heap.size J s5 (eU f BB i)/\(eU f BB i).size<=1+33*i/\∀j,j<i->(BB[j]?).map V5=(gZ f f)[j]?))
   case atStart=>exact⟨0,by omega,rfl,I0.out,by show 1<=_;omega,λj I=>absurd I (Nat.not_lt_zero _)⟩
   case round =>
    obtain⟨i,hi,rfl,K⟩:=hrel;obtain⟨g,cap,rfl,-,-⟩:=K.out.1.lt;by_cases h3:i<M
    ·have h0:(i:Int)<(M:Int):=by omega
     have hp:=NL J M Z i h3;obtain⟨z,y,k,q,n,c,B,k1,k2,k3,k4,k5,k6⟩:=HC.out _ _ _ K.out.1 i h3;have K3:=Hid.mkP k3;have H:Hid ((gZ f f)[i]? = some k/\BB[i]? = some B/\Pt wr (.slice q n c) B):=⟨k1,k5,k6⟩
     clear k1 k3 k5 k6;obtain⟨A,F⟩:∃A,Hid (wr.alloc (.cells #[.pointer (some ⟨z,y,none⟩),.int .i64 k] 112)=A):=⟨_,rfl⟩
     have P:Below wr.heap.size wr A:=by rw[<-F.out];exact aO _ _
     have a0:A.cell? ⟨wr.heap.size,0,none⟩=some (.pointer (some ⟨z,y,none⟩)):=by rw[<-F.out];exact cZ wr _ _ 0 _ rfl
     have a1:A.cell? ⟨wr.heap.size,1,none⟩=some (.int .i64 k):=by rw[<-F.out];exact cZ wr _ _ 1 _ rfl
     have a2:A.cell? ⟨z,y,none⟩=some (.slice q n c):=by rw[P.cell (p:=⟨z,y,none⟩) (World.block_lt_of_cell? _ _ k4)];exact k4
     have KA:Hid (∀d,Below wr.heap.size wr (A.drewN d)):=λd=>⟨P.os,P.tape,P.output,P.size,P.block⟩
     clear P;go_wp2_with (first|(refine U6 rfl 112 _ rfl J (i*2) ?_ [.pointer (some ⟨z,y,none⟩),.int .i64 k] dP ?_ ?_ ?_ ?_ ?_;rfl;exact K3.out;exact h9;exact ha;exact iPt;skip)|fail)
     rw[F.out];go_quiet (fail);have KB:=Hid.mkP (KA.out nq);have q0:(A.drewN nq).cell? ⟨wr.heap.size,0,none⟩=some (.pointer (some ⟨z,y,none⟩)):=a0;have q2:(A.drewN nq).cell? ⟨z,y,none⟩=some (.slice q n c):=a2;clear KA a0 a1 a2;generalize A.drewN nq=wb at KB q0 q2⊢;by_cases he:n=k
     ·subst he;obtain⟨e1,hv⟩:=(H.out.2.2.below KB.out).vl;subst e1;have h4:=K.out.2.1;obtain⟨v',W',x1,x2⟩:=(K.out.1.below KB.out).app (c:=c) hv (by omega);rw[<-lE f BB i B H.out.2.1]at x2;have X2:=Hid.mkP x2;have X3:Hid ((eU f BB (i+1)).size<=1+33*(i+1)/\∀j,j<i+1->(BB[j]?).map V5=(gZ f f)[j]?):=by
       refine⟨?_,λj I=>?_⟩
       ·rw[lE f BB i B H.out.2.1,VN];omega
       ·by_cases o:j=i
        ·subst o;rw[H.out.2.1,H.out.1];rfl
        ·exact K.out.2.2 j (by omega)
      have o:=Hid.mkP x1;obtain⟨g',hm,rfl,-,-⟩:=x2.lt;generalize V5 (eU f BB (i+1))=N2 at o X2;generalize V5 (eU f BB i)=N1 at o⊢;clear K x1 x2 hv h4;generalize V5 B=nB at o q2⊢;go_wp2_with (first|(at_builtin;refine WL wb rfl _ _ _ _ rfl _ _ rfl rfl _ _ o.out ?_)|fail)
      go_roundg (gk-1)
      case measure=>omega
      case rel=>exact⟨i+1,by omega,rfl,X2.out,X3.out⟩
     ·have hn:¬(n:Int)=(k:Int):=by omega
      have o:¬mM f f BB:=λh=>by
       have e0:(BB.map V5)[i]? = (gZ f f)[i]?:=by rw[h.2.2]
       rw[Vz,H.out.2.1,H.out.1]at e0;have e1:V5 B=k:=UO.inj e0;obtain⟨q',c',X,-⟩:=H.out.2.2;injection X with _ X _
       omega
      have HW:=Hid.mkP (K.out.1.bl.trans (KB.out.mono K.out.1.bl.size));clear K;go_wp2
      go_ret2
      exact⟨HW.out,UX ⟨o,rfl⟩⟩
    ·have h0:¬(i:Int)<(M:Int):=by omega
     obtain rfl:i=M:=by omega
     have A:Hid (S5 w f f BB (.returned (.tuple #[.slice (some ⟨g,0,none⟩) (eU f BB i).size cap,.int .i64 0])) wr):=by
      refine⟨K.out.1.bl,U4 ⟨⟨rfl,h6,List.ext_getElem? λj=>?_⟩,_,rfl,?_,?_⟩⟩
      ·by_cases I:j<i
       ·rw[Vz];exact K.out.2.2 j I
       ·rw[Wz (by rw[UQ,h7.out];omega),Wz (by rw[h5.out];omega)]
      ·rw[t.out];exact K.out.1.pt
      ·rw[t.out];exact K.out.1.cap
     clear K;go_wp2
     go_ret2
     exact A.out
  ·have hc:(6:Int)<(f:Int):=by omega
   have o:¬mM f f BB:=λh=>h6 h.2.1
   go_wp2_with (first|(refine aY (v:=.pointer (some ⟨w.heap.size,0,none⟩)) (w':=l) rfl (.box 28 (.tmp 0)) rfl ?_ ?_;(rw[<-s.out,<-r.out];kernel_rfl))|fail)
   go_ret2
   exact⟨C.out,UX ⟨o,rfl⟩⟩
 ·have t:¬(nr:Int)=(f:Int):=by omega
  have o:¬mM f nr BB:=λh=>hg h.1
  go_wp2_with (first|(refine aY (v:=.pointer (some ⟨w.heap.size,0,none⟩)) (w':=l) rfl (.box 28 (.tmp 0)) rfl ?_ ?_;(rw[<-s.out,<-r.out];kernel_rfl))|fail)
  go_ret2
  exact⟨C.out,UX ⟨o,rfl⟩⟩
end
section
open Go.RowKit Go.Sort Go.Deep
namespace RG
variable {P:VD}{ops:Array Vk}{Q:Exit->Act->Ur->Prop}{a0:Act}{F:Flow}
theorem lC{k:Nat}{o:Vk}(h:∀(a:Act) (w:Ur),PreF F ops a0 k o a w->∃(b:List (Tmp × Ut)) (v:Ut) (w':Ur),AllE a b/\(dA (b.map (·.1)) o,(U5 (evo (evl b)) o).run P w)=(true,.ok (.value v) w')/\F.E k w w'/\F.R k v w'):bF P Q F ops a0 k o:=
 mH λa w e=>by
  obtain⟨b,v,w',d,c,hE⟩:=h a w e;simp only[V8.injEq]at c;refine⟨v,w',?_,hE⟩;rw[iU (evl b) (b.map (·.1)) c.1 d.ev];exact c.2
theorem D5{k:Nat}{o:Vk}(T:U8)(t:Tmp)(ho:o.op=.load T (.tmp t))(c:(P.underlying T).map (·.isRow)=some false)
 (h:∀(a:Act) (w:Ur),PreF F ops a0 k o a w->∃g off v,a.eval (.tmp t)=oZ g off/\w.cell? ⟨g,off,none⟩=some v/\F.E k w w/\F.R k v w):bF P Q F ops a0 k o:=
 mH λa w f=>by
  obtain⟨g,off,v,b,e,d⟩:=h a w f;refine⟨v,w,?_,d⟩;unfold U5;rw[ho];dsimp only;rw[b,UV,fD e c];rfl
end RG
end
section
open Go.RowKit Go.Sort Go.Deep
theorem O7(a:Ww)(n c:Nat)(w:Ur):(binOp .eql 23 (.slice (some a) n c) (.slice none 0 0)).run prog w=.ok (.bool false) w:=by kernel_rfl
theorem Kk{o b k:Nat}(h:some (⟨g,o,none⟩:Ww)=some ⟨b,k,none⟩):g=b/\o=k:=by
 cases h
 exact⟨rfl,rfl⟩
theorem GE{W:Ur}{n:Nat}{T:U8}{xs:List Ut}(h:W.ownsRow B T s v n xs):∃q c,v=.slice q n c:=by
 rcases h.2 with⟨e,e'⟩|⟨g,cap,cur,e,-⟩
 ·exact⟨none,0,by rw[e,e']⟩
 ·exact⟨_,_,e⟩
structure FrC(N:Nat)(X:SP.Bs)(v:Ut)(W:Ur):Prop where
 own:W.ownsRow N 5 1 v X.size (bC X)
 nn:v.ownBlock≠none
theorem FrC.below{N:Nat}{X:SP.Bs}{W:Ur}(h:FrC N X v W)(k:kZ W W'):FrC N X v W':=⟨bZ h.own (λg b=>k.block g (jG h.own b).2.1),h.nn⟩
theorem JQ(g o c:Nat)(X:SP.Bs)(J:X.size<=1000000)(w:Ur)(C:g<w.heap.size)(y:Holds SP.encB w g o X):
 UH prog 56 #[.slice (some ⟨g,o,none⟩) X.size c] w λe w'=>∃v,e=.returned v/\kZ w w'/\FrC w.heap.size X v w':=by
 obtain⟨i,H,s⟩:=Uy.1 Je;simp only[V8.injEq]at s;obtain⟨E,B,F⟩:=s;obtain⟨z,G,p⟩:=Uy.1 F;obtain⟨d,f⟩:∃d,Hid (w.alloc (.cells #[] 5)=d):=⟨_,rfl⟩
 have r:d.heap.size=w.heap.size+1:=by rw[<-f.out,UB]
 have b1:kZ w d:=by rw[<-f.out];exact aO _ _
 have ho:d.ownsRow w.heap.size 5 1 (sZ w.heap.size 0 0) 0 []:=by
  rw[<-f.out];exact⟨rfl,.inr ⟨w.heap.size,0,#[],rfl,Uw _,WW,Uw _,WA _,rfl,rfl⟩⟩
 have hpt:Pt d (.slice (some ⟨g,o,none⟩) X.size c) X:=⟨_,_,rfl,UX ⟨g,o,rfl,by omega,SP.Holds.below y b1 C⟩⟩
 obtain⟨-,hv⟩:=hpt.vl;have n:∀(j:Nat) u,(bC X)[j]? = some u->d.cell? ((⟨g,o,none⟩:Ww).add j)=some u:=λj u q=>by
  rcases hv.cells with t|⟨b,x,l,-,n⟩
  ·rw[t]at q;cases q
  ·obtain⟨r,m⟩:=Kk l;subst r m;rw[lH];exact n j u q
 obtain⟨A,W',a,m,l,t⟩:=run_append_own (P:=prog) d w.heap.size 23 23 5 i z 1 1 zB H G E B p (by decide) _ 0 [] ho ⟨g,o,none⟩ X.size c (bC X) (by rw[yR];omega) n (Bp X) (by unfold maxLen;omega) (by omega) (by omega);rw[UD,List.nil_append]at m;have K:Hid (kZ w W'/\FrC w.heap.size X A W'):=by
  refine⟨⟨by rw[l.os,b1.os],by rw[l.tape,b1.tape],by rw[l.output,b1.output],UC b1.size l.size,λk I=>?_⟩,m,?_⟩
  ·rw[l.block k (by omega) (by simp[Wp];omega),b1.block k I]
  ·rcases m.2 with⟨D,-⟩|⟨L,x,cur,rfl,-⟩
   ·have:=(t.1 D).1;exact absurd this (by simp)
   ·simp[Wp]
 have x:=Hid.mkP a;have D:=O7 ⟨g,o,none⟩ X.size c;clear a m l t n hv hpt ho b1 r y;go_enter func56,ntmps56;go_wp2_with (first|(refine aY (v:=sZ w.heap.size 0 0) (w':=d) rfl (.buildSlice 23 0 #[]) rfl ?_ ?_;(rw[<-f.out];kernel_rfl))|(at_builtin;refine WL d rfl _ _ _ _ rfl _ _ rfl rfl _ _ x.out ?_)|fail)
 go_ret;exact⟨_,rfl,K.out.1,K.out.2⟩
theorem heap_set (w : World) (a : Addr) (v : Value) (k : Nat) : (w.setCell a v).heap[k]? = if a.block = k then (w.heap[k]?).map (fun
      | .cells c elem frozen => .cells (if a.spot.isSome then c else c.setIfInBounds a.off v) elem frozen
      | o => o) else w.heap[k]? := by
  show(w.heap.modify a.block _)[k]? = _;rw [Array.getElem?_modify];rfl
theorem G8{N:Nat}{ws w:Ur}(h:Below N ws w)(a:Ww)(v:Ut):Below N (ws.setCell a v) (w.setCell a v):=
 ⟨h.os,h.tape,h.output,by rw[Yh,Yh];exact h.size,λk b=>by rw[heap_set,heap_set,h.block k b]⟩
def StR(ws:Ur)(b k:Nat)(X:SP.Bs)(w:Ur):Prop:=∃v,Below ws.heap.size (ws.setCell ⟨b,k,none⟩ v) w/\FrC ws.heap.size X v w
def FR(ws:Ur)(ga e d k gi off m c nx:Nat)(X:SP.Bs):Flow where
 R i v w:=match i with
  | 0=>v=jZ ga
  | 1=>v=oZ e d
  | 2=>v=.slice (some ⟨gi,off,none⟩) m c
  | 3=>v=oZ ga 1
  | 4=>v=iZ k
  | 5=>v=.slice (some ⟨gi,off,none⟩) k c
  | 6=>FrC ws.heap.size X v w
  | 7=>v=.slice (some ⟨gi,off,none⟩) m c
  | 8=>v=oZ ga 1
  | 9=>v=iZ k
  | 10=>v=.slice (some ⟨gi,nx,none⟩) (m-k) (c-k)
  | 11=>v=oZ e d
  | 12=>StR ws e d X w
  | _=>v=.slice (some ⟨gi,nx,none⟩) (m-k) (c-k)
 B b w:=match b with
  | 0=>kZ ws w
  | _=>w.cell? ⟨ga,0,none⟩=some (oZ e d)/\w.cell? ⟨ga,1,none⟩=some (iZ k)/\ga<ws.heap.size/\ws.heap.size<=w.heap.size
 E i w w':=match i with
  | 12=>∃v,w'=w.setCell ⟨e,d,none⟩ v
  | _=>kZ w w'
 kill _:=[]
 killB b:=match b with
  | 0=>[12]
  | _=>[]
variable {ws:Ur}{ga bb oo k gi off m c nx:Nat}{X:SP.Bs}
theorem StR.below{w w':Ur}(h:StR ws bb oo X w)(b:kZ w w'):StR ws bb oo X w':=by
 obtain⟨v,k,c⟩:=h;refine⟨v,k.trans (b.mono ?_),c.below b⟩;have:=k.size;rw[Yh]at this;exact this
theorem FR.stab(l:bb<ws.heap.size)(i j:Nat)(f:i≠j)(v:Ut)(w w':Ur)(hE:(FR ws ga bb oo k gi off m c nx X).E i w w')(hR:(FR ws ga bb oo k gi off m c nx X).R j v w):(FR ws ga bb oo k gi off m c nx X).R j v w':=by
 have key:j≠6->j≠12->(FR ws ga bb oo k gi off m c nx X).R j v w':=λe b=>by
  match j,e,b,hR with
  | 0,_,_,h|1,_,_,h|2,_,_,h|3,_,_,h|4,_,_,h|5,_,_,h|7,_,_,h|8,_,_,h|9,_,_,h|10,_,_,h|11,_,_,h|_+13,_,_,h=>exact h
  | 6,h,_,_=>exact absurd rfl h
  | 12,_,h,_=>exact absurd rfl h
 by_cases e:j=6
 ·subst e;by_cases b:i=12
  ·subst b;obtain⟨u,rfl⟩:=hE;have hR:FrC ws.heap.size X v w:=hR;refine(⟨bZ hR.own (λg d=>?_),hR.nn⟩:FrC ws.heap.size X v _);have:=(jG hR.own d).1;rw[heap_set,yCm (by show bb≠g;omega)]
  ·have d:kZ w w':=by
    unfold FR at hE;dsimp only at hE;split at hE
    ·exact absurd rfl b
    ·exact hE
   exact(FrC.below (show FrC ws.heap.size X v w from hR) d:FrC ws.heap.size X v w')
 ·by_cases b:j=12
  ·subst b;have d:kZ w w':=by
    unfold FR at hE;dsimp only at hE;split at hE
    ·exact absurd rfl f
    ·exact hE
   exact(StR.below (show StR ws bb oo X w from hR) d:StR ws bb oo X w')
  ·exact key e b
theorem FR.stabB(g:bb≠ga)(i b:Nat)(n:((FR ws ga bb oo k gi off m c nx X).killB b).contains i=false)(w w':Ur)(hE:(FR ws ga bb oo k gi off m c nx X).E i w w')(l:(FR ws ga bb oo k gi off m c nx X).B b w):(FR ws ga bb oo k gi off m c nx X).B b w':=by
 by_cases f:i=12
 ·subst f;obtain⟨u,rfl⟩:=hE;match b,n,l with
  | 0,n,_=>exact absurd (show([12]:List Nat).contains 12=false from n) (by decide)
  | _+1,_,⟨h1,h2,h3,h4⟩ =>
   refine⟨?_,?_,h3,by rw[Yh];exact h4⟩
   ·rw[UU _ _ _ _ (by intro e;injection e with e _ _;exact g e)];exact h1
   ·rw[UU _ _ _ _ (by intro e;injection e with e _ _;exact g e)];exact h2
 ·have d:kZ w w':=by
   unfold FR at hE;dsimp only at hE;split at hE
   ·exact absurd rfl f
   ·exact hE
  match b,l with
  | 0,l =>
   have j:kZ ws w:=l;exact(j.trans (d.mono j.size):kZ ws w')
  | _+1,⟨h1,h2,h3,h4⟩ =>
   refine⟨?_,?_,h3,UC h4 d.size⟩
   ·rw[d.cell (p:=⟨ga,0,none⟩) (by show ga<_;omega)];exact h1
   ·rw[d.cell (p:=⟨ga,1,none⟩) (by show ga<_;omega)];exact h2
end
section
open Go.RowKit Go.Sort Go.Deep
structure PsOk(w w4:Ur)(gr gq gp:Nat)(ps:List (Ww × Nat)):Prop where
 ad:∀(j:Nat) x,ps[j]? = some x->∃b o,x.1=⟨b,o,none⟩/\b<w4.heap.size/\w.heap.size<=b/\b≠gq/\b≠gr/\x.1≠⟨gp,7,none⟩/\x.1≠⟨gp,8,none⟩
 ne:∀(j j':Nat) x x',j≠j'->ps[j]? = some x->ps[j']? = some x'->x.1≠x'.1
 q:gq<w4.heap.size
 r:gr<w4.heap.size
 p:gp<w4.heap.size
structure RdI(w w4 W:Ur)(gr gq gp:Nat)(lv rv:Ut)(ps:List (Ww × Nat))(vs:List Ut)(CH:Nat->SP.Bs):Prop where
 bl:kZ w W
 st:∀(j:Nat) x u,ps[j]? = some x->vs[j]? = some u->W.cell? x.1=some u
 th:∀(j:Nat) x,ps[j]? = some x->(∃u,W.cell? x.1=some u)/\W.frozen? x.1=false
 c7:W.cell? ⟨gp,7,none⟩=some lv
 c8:W.cell? ⟨gp,8,none⟩=some rv
 eq:W.heap[gq]? = w4.heap[gq]?
 er:W.heap[gr]? = w4.heap[gr]?
 sz:w4.heap.size<=W.heap.size
 ow:∀(j:Nat) u,vs[j]? = some u->FrC w4.heap.size (CH j) u W
 ne:∀(j j':Nat) u u' g,j<j'->vs[j]? = some u->vs[j']? = some u'->u.ownBlock=some g->u'.ownBlock≠some g
variable {w w4 W:Ur}{gr gq gp:Nat}{lv rv:Ut}{ps:List (Ww × Nat)}{vs:List Ut}{CH:Nat->SP.Bs}
theorem RdI.below(h:RdI w w4 W gr gq gp lv rv ps vs CH)(c:PsOk w w4 gr gq gp ps)(k:kZ W W'):RdI w w4 W' gr gq gp lv rv ps vs CH:=by
 have g:=h.sz;have n:=c.p;have l:=c.q;have i:=c.r;have f:∀(j:Nat) x,ps[j]? = some x->W'.cell? x.1=W.cell? x.1/\W'.frozen? x.1=W.frozen? x.1:=λj x hx=>by
  obtain⟨b,o,e,m,-⟩:=c.ad j x hx;have d:=k.block b (by omega);rw[e];unfold VY WY;rw[d];exact⟨rfl,rfl⟩
 refine⟨h.bl.trans (k.mono h.bl.size),λj x u hx d=>by rw[(f j x hx).1];exact h.st j x u hx d,λj x hx=>by rw[(f j x hx).1,(f j x hx).2];exact h.th j x hx,?_,?_,by rw[k.block gq (by omega)];exact h.eq,by rw[k.block gr (by omega)];exact h.er,UC g k.size,λj u d=>(h.ow j u d).below k,h.ne⟩
 ·rw[k.cell (p:=⟨gp,7,none⟩) (by show gp<_;omega)];exact h.c7
 ·rw[k.cell (p:=⟨gp,8,none⟩) (by show gp<_;omega)];exact h.c8
theorem RdI.step{k:Nat}(h:RdI w w4 W gr gq gp lv rv ps vs CH)(z:PsOk w w4 gr gq gp ps)(hx:ps[vs.length]? = some (⟨i,s,none⟩,k))(N:StR W i s (CH vs.length) W'):∃v,RdI w w4 W' gr gq gp lv rv ps (vs++[v]) CH:=by
 obtain⟨v,q,D⟩:=N;have U:=h.sz;have V:=z.p;have R:=z.q;have Q:=z.r;obtain⟨S,T,e',p1,p2,O,J,K,p6⟩:=z.ad _ _ hx;injection e' with e1 e2 _
 subst e1 e2;obtain⟨⟨old,y⟩,L⟩:=h.th _ _ hx;have f:∀g,g<W.heap.size->g≠i->W'.heap[g]? = W.heap[g]?:=λg t c=>by
  rw[q.block g t,heap_set,yCm (by show i≠g;omega)]
 have b:∀a:Ww,a.block<W.heap.size->a≠⟨i,s,none⟩->W'.cell? a=W.cell? a:=λa F c=>by
  rw[q.cell (p:=a) F,UU _ _ _ _ (λe=>c e.symm)]
 have G:∀a:Ww,a.block<W.heap.size->W'.frozen? a=W.frozen? a:=λa F=>by
  have d:W'.frozen? a=(W.setCell ⟨i,s,none⟩ v).frozen? a:=by
   unfold WY;rw[q.block a.block F]
  rw[d];exact World.frozen?_setCells i [v] s W a
 have B:W.heap.size<=W'.heap.size:=by
  have:=q.size;rw[Yh]at this;exact this
 refine⟨v,⟨⟨by rw[q.os];exact h.bl.os,by rw[q.tape];exact h.bl.tape,by rw[q.output];exact h.bl.output,UC h.bl.size B,λg t=>?_⟩,λj x u r d=>?_,λj x r=>?_,?_,?_,?_,?_,by omega,λj u d=>?_,λj E u H g o d n t=>?_⟩⟩
 ·have:=h.bl.size;rw[f g (by omega) (by omega),h.bl.block g t]
 ·obtain⟨A,M,C,I,-⟩:=z.ad j x r;by_cases l:j<vs.length
  ·rw[UT l]at d;have c:=z.ne j vs.length x _ (by omega) r hx;rw[b x.1 (by rw[C];show A<_;omega) c];exact h.st j x u r d
  ·have m:j=vs.length:=by
    have:=(UF.1 d).1;rw[UA]at this;simp only[Vj,WI]at this;omega
   subst m;rw[hx]at r;obtain rfl:=UO.inj r;rw[U1 (Uw _),YW]at d;obtain rfl:v=u:=by simpa using d
   rw[q.cell (p:=⟨i,s,none⟩) (by show i<_;omega)];exact VV _ _ _ y
 ·obtain⟨A,M,C,I,-⟩:=z.ad j x r;have o:x.1.block<W.heap.size:=by rw[C];show A<_;omega
  refine⟨?_,by rw[G x.1 o];exact(h.th j x r).2⟩;by_cases c:x.1=⟨i,s,none⟩
  ·rw[c];exact⟨v,by rw[q.cell (p:=⟨i,s,none⟩) (by show i<_;omega)];exact VV _ _ _ y⟩
  ·rw[b x.1 o c];exact(h.th j x r).1
 ·rw[b ⟨gp,7,none⟩ (by show gp<_;omega) (λe=>K e.symm)];exact h.c7
 ·rw[b ⟨gp,8,none⟩ (by show gp<_;omega) (λe=>p6 e.symm)];exact h.c8
 ·rw[f gq (by omega) (λe=>O e.symm)];exact h.eq
 ·rw[f gr (by omega) (λe=>J e.symm)];exact h.er
 ·by_cases l:j<vs.length
  ·rw[UT l]at d;have C:=h.ow j u d;refine⟨bZ C.own (λg t=>?_),C.nn⟩;have:=jG C.own t;exact f g this.2.1 (by omega)
  ·have m:j=vs.length:=by
    have:=(UF.1 d).1;rw[UA]at this;simp only[Vj,WI]at this;omega
   subst m;rw[U1 (Uw _),YW]at d;obtain rfl:v=u:=by simpa using d
   refine⟨?_,D.nn⟩;rcases D.own with⟨I,A|⟨g,cap,cur,A,P,M⟩⟩
   ·exact⟨I,U4 A⟩
   ·exact⟨I,UX ⟨g,cap,cur,A,by omega,M⟩⟩
 ·have A:=(UF.1 n).1;rw[UA]at A;simp only[Vj,WI]at A;rw[UT (by omega)]at d;by_cases l:E<vs.length
  ·rw[UT l]at n;exact h.ne j E u H g o d n t
  ·have m:E=vs.length:=by omega
   subst m;rw[U1 (Uw _),YW]at n;obtain rfl:v=H:=by simpa using n
   intro e;have C:=(jG D.own e).1;have I:=(jG (h.ow j u d).own t).2.1;omega
end
section
open Go.RowKit Go.Sort Go.Deep
variable {P:Nat}[NeZero P]{N:Nat}
theorem MF:(prog.info? 23).map (λi=>(i.zero,i.size,i.bytes))=some (some (.slice none 0 0),1,24):=by kernel_rfl
structure R4(w1 W:Ur)(gp gL gR k:Nat):Prop where
 bl:kZ w1 W
 d1:gp≠gL
 d2:gp≠gR
 d3:gL≠gR
 p1:w1.heap.size<=gp/\gp<W.heap.size
 p2:w1.heap.size<=gL/\gL<W.heap.size
 p3:w1.heap.size<=gR/\gR<W.heap.size
 hp:W.heap[gp]? = some (.cells #[.slice none 0 0,.slice none 0 0,.slice none 0 0,.slice none 0 0,.slice none 0 0,.slice none 0 0,.slice none 0 0,sZ gL k k,sZ gR k k,.slice none 0 0,.slice none 0 0] 28 (0,0))
 hL:W.heap[gL]? = some (.cells (madeCells #[.slice none 0 0] k) 23 (0,0))
 hR:W.heap[gR]? = some (.cells (madeCells #[.slice none 0 0] k) 23 (0,0))
theorem three(k:Ur)(a b c:Array Ut)(A B C:U8):kZ k (((k.alloc (.cells a A)).alloc (.cells b B)).alloc (.cells c C)).drew/\(((k.alloc (.cells a A)).alloc (.cells b B)).alloc (.cells c C)).drew.heap.size=k.heap.size+3/\(((k.alloc (.cells a A)).alloc (.cells b B)).alloc (.cells c C)).drew.heap[k.heap.size]? = some (.cells a A (0,0))/\(((k.alloc (.cells a A)).alloc (.cells b B)).alloc (.cells c C)).drew.heap[k.heap.size+1]? = some (.cells b B (0,0))/\(((k.alloc (.cells a A)).alloc (.cells b B)).alloc (.cells c C)).drew.heap[k.heap.size+1+1]? = some (.cells c C (0,0)):=by
 have m:=aO k (.cells a A);have j:(k.alloc (.cells a A)).heap.size=k.heap.size+1:=UB _ _;have i:=aO (k.alloc (.cells a A)) (.cells b B);have g:((k.alloc (.cells a A)).alloc (.cells b B)).heap.size=k.heap.size+2:=by rw[UB,j]
 have e:=aO ((k.alloc (.cells a A)).alloc (.cells b B)) (.cells c C);have n:(((k.alloc (.cells a A)).alloc (.cells b B)).alloc (.cells c C)).heap.size=k.heap.size+3:=by rw[UB,g]
 have l:(k.alloc (.cells a A)).heap[k.heap.size]? = some (.cells a A (0,0)):=WW;have f:((k.alloc (.cells a A)).alloc (.cells b B)).heap[(k.alloc (.cells a A)).heap.size]? = some (.cells b B (0,0)):=WW;have e3:(((k.alloc (.cells a A)).alloc (.cells b B)).alloc (.cells c C)).heap[((k.alloc (.cells a A)).alloc (.cells b B)).heap.size]? = some (.cells c C (0,0)):=WW;rw[j]at f;rw[g]at e3;have d:=(m.trans (i.mono (by omega))).trans (e.mono (by omega));refine⟨⟨d.os,d.tape,d.output,d.size,d.block⟩,n,?_,?_,e3⟩
 ·show(((k.alloc (.cells a A)).alloc (.cells b B)).alloc (.cells c C)).heap[k.heap.size]? = _;rw[e.block _ (by omega),i.block _ (by omega)];exact l
 ·show(((k.alloc (.cells a A)).alloc (.cells b B)).alloc (.cells c C)).heap[k.heap.size+1]? = _;rw[e.block _ (by omega)];exact f
def zR:List Ut:=VB 11 (.slice none 0 0)
theorem dT{f p r n q m:Nat}{x:Ww × Nat}(h:(fN f p r n q or m)[j]? = some x):(j<7/\x.1=⟨f,j,none⟩)\/(7<=j/\j<7+n/\x.1=⟨p,r+(j-7),none⟩)\/(7+n<=j/\j<7+n+m/\x.1=⟨q,or+(j-7-n),none⟩)\/(7+n+m<=j/\j<9+n+m/\x.1=⟨f,9+(j-7-n-m),none⟩):=by
 have c:∀ {b o k i:Nat}{y:Ww × Nat},(lp b o k)[i]? = some y->i<k/\y.1=⟨b,o+i,none⟩:=λ{b o k i y} h=>by
  unfold lp at h;rw[Vz]at h;obtain⟨z,t,rfl⟩:=Uy.1 h;have e:=(UF.1 t)
  obtain⟨g,l⟩:=e;have d:i<k:=by simpa using g
  have s:i=z:=by simpa using l
  subst s;exact⟨d,rfl⟩
 unfold fN at h;by_cases e:j<7
 ·left;refine⟨e,?_⟩;rw[Vx,Vx,UT (by show j<7;exact e)]at h;match j,e,h with
  | 0,_,h|1,_,h|2,_,h|3,_,h|4,_,h|5,_,h|6,_,h =>
   obtain rfl:=UO.inj h;rfl
 ·right;rw[Vx,Vx,U1 (by show 7<=j;omega)]at h;have s:(tH f).length=7:=rfl;rw[s]at h;by_cases g:j-7<n
  ·left;rw[UT (by rw[jK];exact g)]at h;obtain⟨-,d⟩:=c h;exact⟨by omega,by omega,d⟩
  ·right;rw[U1 (by rw[jK];omega),jK]at h;by_cases l:j-7-n<m
   ·left;rw[UT (by rw[jK];exact l)]at h;obtain⟨-,d⟩:=c h;exact⟨by omega,by omega,d⟩
   ·right;rw[U1 (by rw[jK];omega),jK]at h;obtain⟨i,d⟩:∃i,j-7-n-m=i:=⟨_,rfl⟩
    rw[d]at h⊢;match i,d,h with
    | 0,d,h|1,d,h =>
     obtain rfl:=UO.inj h;exact⟨by omega,by omega,rfl⟩
    | i+2,_,h=>cases h
theorem Cj(k j:Nat)(z:Ut)(h:j<k):(madeCells #[z] k)[j]? = some z:=by
 unfold madeCells;rw[Array.getElem?_map,Array.getElem?_range,yCl h];simp[yAY]
theorem II{w D G s:Ur}{l o m k E n c:Nat}{CH:Nat->SP.Bs}(h:R4 D G l o m k)(F:kZ w D)(O:w.heap.size<D.heap.size)(p:PLs G s (sZ E n c) (fN l o 0 k m 0 k)):
 PsOk w s w.heap.size E l (fN l o 0 k m 0 k)/\RdI w s s w.heap.size E l (sZ o k k) (sZ m k k) (fN l o 0 k m 0 k) [] CH:=by
 obtain⟨N,T,e,H,A⟩:=p.lt;injection e with e _ _
 injection e with e
 injection e with e _ _
 subst e;have U:=p.bl.size;obtain⟨p1,z⟩:=h.p1;obtain⟨p2,C⟩:=h.p2;obtain⟨V,y⟩:=h.p3;have P:=h.d1;have Q:=h.d2;have S:=h.d3;have v:=p.bl.block l z;have I:=p.bl.block o C;have L:=p.bl.block m y;refine⟨⟨λj x hx=>?_,λj K x M J hx a e=>?_,A,by have:=h.bl.size;omega,by omega⟩,⟨?_,λj x u _ q=>by simp at q,λj x hx=>?_,?_,?_,rfl,rfl,Uw _,λj u q=>by simp at q,λj K u R g _ q=>by simp at q⟩⟩
 ·rcases dT hx with⟨f,b⟩|⟨f,d,b⟩|⟨f,d,b⟩|⟨f,d,b⟩
  ·exact⟨l,j,b,by omega,by omega,by omega,by omega,by rw[b];intro e;injection e with _ e _;omega,by rw[b];intro e;injection e with _ e _;omega⟩
  ·exact⟨o,_,b,by omega,by omega,by omega,by omega,by rw[b];intro e;injection e with e _ _;omega,by rw[b];intro e;injection e with e _ _;omega⟩
  ·exact⟨m,_,b,by omega,by omega,by omega,by omega,by rw[b];intro e;injection e with e _ _;omega,by rw[b];intro e;injection e with e _ _;omega⟩
  ·exact⟨l,_,b,by omega,by omega,by omega,by omega,by rw[b];intro e;injection e with _ e _;omega,by rw[b];intro e;injection e with _ e _;omega⟩
 ·rcases dT hx with⟨f,b⟩|⟨f,d,b⟩|⟨f,d,b⟩|⟨f,d,b⟩<;>rcases dT a with⟨B,t⟩|⟨B,r,t⟩|⟨B,r,t⟩|⟨B,r,t⟩<;>(rw[b,t]at e;injection e with e1 e2 _;omega)
 ·exact(F.trans (h.bl.mono F.size)).trans (p.bl.mono (by have:=h.bl.size;omega))
 ·rcases dT hx with⟨f,b⟩|⟨f,d,b⟩|⟨f,d,b⟩|⟨f,d,b⟩
  ·rw[b];unfold VY WY;rw[v,h.hp];refine⟨?_,by simp⟩;match j,f with
   | 0,_|1,_|2,_|3,_|4,_|5,_|6,_=>exact⟨_,rfl⟩
  ·rw[b];unfold VY WY;rw[I,h.hL];exact⟨⟨_,Cj k (0+(j-7)) _ (by omega)⟩,by simp⟩
  ·rw[b];unfold VY WY;rw[L,h.hR];exact⟨⟨_,Cj k (0+(j-7-k)) _ (by omega)⟩,by simp⟩
  ·rw[b];unfold VY WY;rw[v,h.hp];refine⟨?_,by simp⟩;obtain⟨i,r⟩:∃i,j-7-k-k=i:=⟨_,rfl⟩
   rw[r];match i,r with
   | 0,_|1,_=>exact⟨_,rfl⟩
   | i+2,r=>omega
 ·unfold VY;rw[v,h.hp];rfl
 ·unfold VY;rw[v,h.hp];rfl
def offs(n j:Nat):Nat:=1+((gZ n n).take j).sum
theorem kW(n j k:Nat)(h:(gZ n n)[j]? = some k):offs n (j+1)=offs n j+k:=by
 unfold offs;rw[ZJ,h,yBc];simp[WT]
theorem tP:∀(l:List Nat) (j:Nat),(l.take j).sum<=l.sum
 | [],j=>by simp
 | a :: r,0=>by simp
 | a :: r,j+1=>by
  have:=tP r j;simp only[List.take_succ_cons,yBy];omega
theorem Mv(n j:Nat):offs n j<=1+(gZ n n).sum:=by
 have:=tP (gZ n n) j;unfold offs;omega
theorem Cc(n:Nat):(gZ n n).sum=292+66*n:=by
 unfold gZ;simp only[yBc,List.sum_replicate_nat,yBy,List.sum_nil];omega
theorem xB(n:Nat):offs n (n+n+9)=293+66*n:=by
 unfold offs;rw[Zb (by rw[kV];omega),Cc];omega
def chk(s:SP.Bs)(n j:Nat):SP.Bs:=s.extract (offs n j) (offs n (j+1))
def nO(s:SP.Bs):Prop:=0<s.size/\s[0]!.toNat<=6/\s.size=293+66*s[0]!.toNat
def RdR(w:Ur)(s:SP.Bs)(k:Nat)(e:Ending)(W:Ur):Prop:=
 (¬nO s/\kZ w W/\e=.returned (.tuple #[.agg zR.toArray,iZ 2])) \/
 (nO s/\kZ w W/\∃(i d:Ur) (g b f c:Nat) (vs cs:List Ut),vs.length=k+k+9/\PsOk w i w.heap.size g b (fN b f 0 k c 0 k)/\RdI w i d w.heap.size g b (sZ f k k) (sZ c k k) (fN b f 0 k c 0 k) vs (chk s k)/\cs.length=11/\d.rangeAt b 0 cs/\W=d.setCells w.heap.size 0 cs/\e=.returned (.tuple #[.agg cs.toArray,iZ 0]))
theorem S8(d b n c k:Nat)(e:k<=n)(i:n<c)(w:Ur):(Xp 23 (.slice (some ⟨d,b,none⟩) n c) (some (iZ k)) none none).run prog w=.ok (.slice (some ⟨d,b+k,none⟩) (n-k) (c-k)) w:=by
 have f:(k:Int)<=n:=by omega
 have j:(n:Int)<=c:=by omega
 have g:¬c=k:=by omega
 have l:¬c-k=0:=by omega
 go_simp
theorem LH(d b n c k:Nat)(f:k<=n)(i:n<=c):∃nx,(0<c-k->nx=b+k)/\∀w:Ur,(Xp 23 (.slice (some ⟨d,b,none⟩) n c) (some (iZ k)) none none).run prog w=.ok (.slice (some ⟨d,nx,none⟩) (n-k) (c-k)) w:=by
 have g:(k:Int)<=n:=by omega
 have j:(n:Int)<=c:=by omega
 by_cases e:c=k
 ·obtain rfl:n=k:=by omega
  subst e;refine⟨b,λh=>by omega,λw=>?_⟩;rw[YW];go_simp
 ·have l:¬c-k=0:=by omega
  refine⟨b+k,λ_=>rfl,λw=>?_⟩;go_simp
theorem LI(d b n c k:Nat)(e:k<=c)(w:Ur):(Xp 23 (.slice (some ⟨d,b,none⟩) n c) none (some (iZ k)) none).run prog w=.ok (.slice (some ⟨d,b,none⟩) k c) w:=by
 have f:(k:Int)<=c:=by omega
 go_simp
theorem fY{P:VD}{c:Func}{tmps:Array Ut}{W:Ur}{k:Nat}{vs:List Ut}(t u:Tmp)(T:U8)(f:c.results=#[.cell t T,.tmp u])(h:W.rangeAt k 0 vs)(e:tmps[t]? = some (jZ k))(hv:tmps[u]? = some v)
 (b:(P.underlying T).map (·.isRow)=some true) (l:(P.info? T).map (·.size)=some vs.length):(results c tmps).run P W=.ok (.tuple #[.agg vs.toArray,v]) W:=by
 obtain⟨d,b,hd⟩:=Uy.1 b;have i:=run_loadVar_mid (P:=P) W k 0 T vs d h b hd l;have g:tmps.getD t WR=jZ k:=by rw[UI,e];rfl
 have j:tmps.getD u WR=v:=by rw[UI,hv];rfl
 unfold results;rw[f];simp only[Array.mapM_eq_mapM_toList,List.mapM_cons,List.mapM_nil,g,j,asAddr];simp[UV,i]
theorem EH{w W:Ur}{cs:List Ut}(g:W.heap[w.heap.size]? = some (.cells zR.toArray 28 (0,0)))(i:cs.length=11)(c:kZ w W):W.there w.heap.size 0 cs.toArray.size/\(W.setCells w.heap.size 0 cs).rangeAt w.heap.size 0 cs/\kZ w (W.setCells w.heap.size 0 cs):=by
 have e:W.there w.heap.size 0 cs.length:=λj l=>by
  unfold VY WY;rw[g];refine⟨?_,by simp⟩;have:(0+j)<zR.toArray.size:=by show 0+j<11;omega
  simp only[Array.getElem?_eq_getElem this];rfl
 refine⟨by simpa using e,World.rangeAt_setCells_same _ _ _ _ e,⟨(World.os_setCells _ _ _ _).trans c.os,?_,(World.output_setCells _ _ _ _).trans c.output,?_,λk f=>?_⟩⟩
 ·have d:=below_setCells (B:=0) (b:=w.heap.size) (WA _) cs 0 W (UR 0 W);rw[d.tape];exact c.tape
 ·have d:=below_setCells (B:=0) (b:=w.heap.size) (WA _) cs 0 W (UR 0 W);exact UC c.size d.size
 ·rw[Z1 W _ 0 cs (by have:=c.size;omega) (by omega)];exact c.block k f
end
section
open Go.RowKit Go.Sort Go.Deep SPA
section
variable {P:VD}{ops:Array Vk}{rest:List Vk}{o:Vk}{a:Act}{w:Ur}{Q:Exit->Act->Ur->Prop}
theorem PW.gd(h:wpList P ops Q ({ o with guard:=none } :: rest) a w)(k:V4 o (yielded ops a.tmps)=true:=by kernel_rfl):wpList P ops Q (o :: rest) a w:=by
 unfold wpList at h⊢;rw[yCl k];rw[yCl (show V4 { o with guard:=none }(yielded ops a.tmps)=true from rfl)]at h;exact h
end
variable {P:Nat}[NeZero P]{N:Nat}[NeZero N]
theorem Qu(C:Fld P){n:Nat}(hw:Wd n t)(V:Bs)(q:Fin P × Fin P)(H:rd P V=some q)(v:Ut)(f s x i r p m a y b k:Ut)(w:Ur)(K:Arg33 w v V)(U:∀W,kZ w W->UH prog 54 #[pvl V,iZ n,.agg #[f,s,x,i,r,p,m,a,y,b,k]] W (rZ W λe w'=>e=.bool true)):
 UH prog 12 #[v,iZ n,.agg #[f,s,x,i,r,p,m,a,y,b,k]] w (rZ w λe w'=>e=.bool true):=by
 have R:V.size=33:=EF H;obtain⟨G,c⟩:=hE (pvl V);obtain⟨T,d⟩:=hE (Value.agg #[f,s,x,i,r,p,m,a,y,b,k]);obtain⟨k5,A⟩:=hE (w.heap.size);obtain⟨N,j⟩:=hE (w.alloc (.cells [f,s,x,i,r,p,m,a,y,b,k].toArray 28));have F:=mk1 ((Mp.start w).new A j);have O:Hid ((Instr.box 28 T).run prog w=.ok (jZ k5) N):=by rw[<-d.out,<-j.out,<-A.out];exact SO _ _ _ _ _ _ _ _ _ _ _ w
 have I:Hid (∀W,kZ w W->UH prog 53 #[v] W (rZ W λe w'=>e=.tuple #[G,.bool true])):=λW hb=>by
  rw[<-c.out];exact FK C v V q W (K.below hb) H
 have HV:Hid (∀W,kZ w W->UH prog 54 #[G,iZ n,T] W (rZ W λe w'=>e=.bool true)):=by
  rw[<-c.out,<-d.out];exact U
 have L:(prog.info? 103).map (·.size)=some (aA V).length:=by rw[aB R];exact iCP
 rw[d.out];clear U K;go_enter func12,ntmps12;refine Uz ?_;refine PW.begin ?_;refine PW.ns O.out ?_;refine PW.va (.bool false) ?_;refine PW.dn ?_;refine Uz ?_;refine PW.begin ?_;refine PW.mv ?_;refine PW.gi (I.out N F.bl) λS u=>?_
 have J:=mk1 (F.grow u);clear F u I O;refine PW.mv ?_;refine PW.va G ?_;refine PW.va (.bool true) ?_;refine hG (S.heap.size) λk7 z=>?_
 refine hG (S.alloc (.cells z33.toArray 103)) λZ l=>?_
 refine hG (Z.setCells k7 0 (aA V)) λX g=>?_
 have Q:(aA V).length=z33.length:=aB R;have E:=mk1 (J.new z l);have M:=mk1 (E.put 1 g rfl Q);refine PW.al z l ?_;refine PW.st g c (E.th 1 rfl Q) L (bW _) ?_;refine PW.va (.bool true) ?_;clear J E;refine PW.dn ?_;refine Uz ?_;refine PW.begin ?_;refine PW.mv ?_;refine PW.mv ?_;refine PW.gd ?_;refine PW.mv ?_;refine PW.gd ?_;refine PW.gi (NI hw X) λY o=>?_
 have B:=mk1 (M.grow o);clear M o;refine PW.va (.bool true) ?_;refine PW.mv ?_;refine PW.gd ?_;refine PW.ro (B.at_ 1).2.1 c uCP L ?_;refine PW.gd ?_;refine PW.mv ?_;refine PW.gd ?_;refine PW.ro (cs:=[f,s,x,i,r,p,m,a,y,b,k]) (B.at_ 0).2.1 d uAr iAr ?_;refine PW.gd ?_;refine PW.gi (HV.out Y B.bl) λw6 D=>?_
 have K6:=mk1 (B.grow D);refine PW.va (.bool true) ?_;refine PW.va (.bool true) ?_;refine PW.dn ?_;go_wp2;go_ret;exact⟨_,rfl,K6.bl,rfl⟩
theorem Q8(C:Fld P)(O:Ord N)(k:∀r:EC.Pt P,On r->mul N r=none)(hP:IsP N)(R:Rv N)(p:Wd R.n t)(hv:R.v<2^R.n)(hN:18446744073709551616<=N)(sd:List UInt8)(sq:Option Ww)(sc:Nat)(V A S C1 C2 L3 L6 L8:Bs)(hL:RvL C k R V A S C1 C2 L3 L6 L8)(hS:RvS R sd)(q:Md.Ps Bs (Fin N) (OnP P))(h9:q.s=bB L8)(h4:q.a=R.a)(he:q.b=R.b)(hc:q.g=gPt C ⟨#[108,101,102,116]⟩)(h8:q.h=R.hh (aD C k) (gPt C ⟨#[114,105,103,104,116]⟩))(u:OnP P)(hu:u=(aD C k).ac R.w (uPt C))(Lb Rb:Nat->Bs)(Z:∀j,Lb j=wP ((aD C k).pLi (chF N) ivF u t q j))(h0:∀j,Rb j=wP ((aD C k).pTi (chF N) ivF u t q j))(Ab Bb:Bs)(h1:Ab=bx (((aD C k).pst (chF N) ivF u t q t).a 0).val)(ha:Bb=bx (((aD C k).pst (chF N) ivF u t q t).b 0).val)(pz:Rp)(T:Hid (⟨A,S,C1,C2,R.tau.val,R.mu.val,R.t.val⟩=pz))(v1:Ut)(w:Ur)(hk:Arg w v1 (bx R.k.val))(hp:PartOk w (.slice sq 32 sc) sd):
 UH prog 5 #[uZ (R.v:Int),v1,iZ (R.n:Int),.slice sq 32 sc] w (rZ w λe w'=>∃e' B0,e=.tuple #[e',iZ 0]/\w.heap.size<=B0/\RgA B0 t pz Lb Rb Ab Bb e' w'):=by
 have Y:R.n<=64:=by rw[p.1];exact UC (VA (by decide) p.2.2) (by decide)
 have X:R.v<18446744073709551616:=Ux hv (UC (VA (by decide) Y) (by decide));have l:=λ(W:Ur) (x:kZ w W)=>Mb C O k hP t p.2.2 R p.1 X hN sd sq 32 sc V A S C1 C2 L3 L6 L8 hL hS q h9 h4 he hc h8 u hu Lb Rb Z h0 Ab Bb h1 ha pz T W (hp.below x)
 have n:=λ(W:Ur) (x:kZ w W)=>EA O v1 (bx R.k.val) W (hk.below x)
 rw[kJ O R.k.isLt]at n;have hg:¬((2^R.n-1:Nat):Int)<(R.v:Int):=by omega
 have h7:decide (((2^R.n-1:Nat):Int)<(R.v:Int))=false:=decide_eq_false hg;generalize hi:R.v=vn at *;generalize h5:(2^R.n-1:Nat)=gn at *;have L:=λ(W:Ur)=>Fj p W
 rw[h5]at L;have HW:=λ(W:Ur)=>NI p W
 generalize hj:R.n=nn at *;obtain⟨vk,b⟩:=hE (nv R.k.val);rw[b.out]at l;have h2:Hid (∀W,kZ w W->UH prog 16 #[v1] W (rZ W λe w'=>e=.tuple #[vk,.bool true])):=λW x=>by
  rw[<-b.out];exact n W x
 have HH:=mk3 l L HW;clear l L HW n hp hk hL hS;refine hG (w.heap.size) λk8 E=>?_
 refine hG (w.alloc (.cells z11.toArray 28)) λw1 a=>?_
 have K1:=mk1 ((Mp.start w).new E a);go_enter func5,ntmps5;refine Uz ?_;refine PW.begin ?_;refine PW.al E a ?_;refine PW.va (iZ 0) ?_;refine PW.dn ?_;refine Uz ?_;refine Uz ?_;refine PW.begin ?_;refine PW.mv ?_;refine PW.gi (HH.2.2 w1) λw2 F=>?_
 have K2:=mk1 (K1.grow F);clear K1 F;refine PW.va (.bool false) ?_;refine PW.mv ?_;refine PW.gd ?_;refine PW.mv ?_;refine PW.gd ?_;refine PW.va (iZ 32) ?_;refine PW.gd ?_;refine PW.va (.bool false) ?_;refine PW.va (.bool false) ?_;refine PW.dn ?_;refine VI rfl ?_;refine WU ?_;refine Uz ?_;refine PW.begin ?_;refine PW.mv ?_;refine PW.gi (h2.out w2 K2.bl) λw3 B=>?_
 have K3:=mk1 (K2.grow B);clear K2 B;refine PW.mv ?_;refine PW.va vk ?_;refine PW.va (.bool true) ?_;refine hG (w3.heap.size) λh3 d=>?_
 refine hG (w3.alloc (.cells (RG.z 4).toArray 49)) λw4 v=>?_
 refine hG (w4.setCells h3 0 (wn R.k.val)) λw5 D=>?_
 have K4:=mk1 (K3.new d v);have K5:=mk1 (K4.put 1 D);refine PW.al d v ?_;refine PW.st D b (K4.th 1) i40 (aM _) ?_;refine PW.va (.bool true) ?_;clear K3 K4;refine PW.dn ?_;refine Uz ?_;refine Uz ?_;refine PW.begin ?_;refine PW.mv ?_;refine PW.va (.bool false) ?_;refine PW.dn ?_;refine VI rfl ?_;refine WU ?_;refine Uz ?_;refine Uz ?_;refine PW.begin ?_;refine PW.mv ?_;refine PW.mv ?_;refine PW.gi (HH.2.1 w5) λw6 y=>?_
 have s:=mk1 (K5.grow y);clear K5 y;refine PW.va (.bool (decide ((gn:Int)<(vn:Int)))) ?_;rw[h7];refine PW.dn ?_;refine VI rfl ?_;refine WU ?_;refine Uz ?_;refine PW.begin ?_;refine PW.mv ?_;refine PW.ro (s.at_ 1).2.1 b u40 i40 ?_;refine PW.mv ?_;refine PW.mv ?_;refine PW.ca (HH.1 w6 s.bl) ?_;rintro e w7 ⟨z,B0,h6,i⟩;simp only[UN,Us,Uu,Uv];have l8:=(s.at_ 0).1;have K:=mk1 (s.grow z);have RA:=mk1 i;obtain⟨U,rb,Q,f,re,rf,m,G,H,I,J,rfl,-,tL,tR,eA,eB⟩:=i.ex;have c:I.oneCell'=true/\J.oneCell'=true/\G.oneCell'=true/\H.oneCell'=true:=⟨eA.one.2,eB.one.2,tL.one.2,tR.one.2⟩
 clear i tL tR eA eB z;refine hG (w7.setCells k8 0 [r33 U,r33 rb,r33 Q,r33 f,r32 re,r32 rf,r32 m,G,H,I,J]) λw8 o=>?_
 have K8:=mk1 (K.put 0 o);have M:=mk1 (RA.set (us:=[r33 U,r33 rb,r33 Q,r33 f,r32 re,r32 rf,r32 m,G,H,I,J]) (K.at_ 0) (by omega));rw[o.out]at M;refine PW.st (cs:=[r33 U,r33 rb,r33 Q,r33 f,r32 re,r32 rf,r32 m,G,H,I,J]) o (Hid.mk' rfl) (K.th 0) iAr (by simp only[Yc,Zv,ZM,c.1,c.2.1,c.2.2.1,c.2.2.2,show ∀g,(r33 g).oneCell'=true from λ_=>rfl,show ∀g,(r32 g).oneCell'=true from λ_=>rfl,Bool.and_true]) ?_;refine PW.va (iZ 0) ?_;refine PW.dn ?_;have KE:=mk2 K8.bl (And.intro (UC s.bl.size h6) M.out);have Kr:=(K8.at_ 0).2.1;clear s K K8 RA M;refine wp_ret ?_;refine UE (fY 8 9 28 rfl Kr rfl rfl uAr iAr) rfl ?_;exact⟨_,rfl,KE.1,_,_,rfl,KE.2.1,KE.2.2⟩
end
section
open Go.RowKit Go.Sort Go.Deep SPA
variable {P:Nat}[NeZero P]{N:Nat}[NeZero N]
theorem Qw(C:Fld P)(O:Ord N)(k:∀r:EC.Pt P,On r->mul N r=none)(g:IsP N)(Q:18446744073709551616<=N)(R:Rv N)(L:Wd R.n t)(hv:R.v<2^R.n)(V A S B n J D m:Bs)(b:RvL C k R V A S B n J D m)(q:Md.Ps Bs (Fin N) (OnP P))(s:q.s=bB m)(i:q.a=R.a)(o:q.b=R.b)(d:q.g=gPt C ⟨#[108,101,102,116]⟩)(c:q.h=R.hh (aD C k) (gPt C ⟨#[114,105,103,104,116]⟩))(u:OnP P)(G:u=(aD C k).ac R.w (uPt C))(y Rb:Nat->Bs)(p:∀j,y j=wP ((aD C k).pLi (chF N) ivF u t q j))(x:∀j,Rb j=wP ((aD C k).pTi (chF N) ivF u t q j))(I E:Bs)(z:I=bx (((aD C k).pst (chF N) ivF u t q t).a 0).val)(v:E=bx (((aD C k).pst (chF N) ivF u t q t).b 0).val)(K:Rp)(l:Hid (⟨A,S,B,n,R.tau.val,R.mu.val,R.t.val⟩=K))(H:Nat)(e:Ut)(w:Ur)(f:RgA H t K y Rb I E e w):
 UH prog 54 #[pvl V,iZ (R.n:Int),e] w (rZ w λe w'=>e=.bool true):=by
 obtain rfl:=l.out;have F:R.y.val≠0:=by rw[b.y];exact FU g.1 _
 have ok:(⟨A,S,B,n,R.tau.val,R.mu.val,R.t.val⟩:Rp).Ok:=⟨by rw[b.eA];exact aT _,by rw[b.eS];exact aT _,by rw[b.e1];exact aT _,by rw[b.e2];exact aT _⟩
 have M:=R.sums (aD C k) (gPG C) (hPV C) g F hv;have W:=R.point (aD C k) (gPG C) (uPt C) (gPt C ⟨#[108,101,102,116]⟩) (gPt C ⟨#[114,105,103,104,116]⟩) g F;have hf:=PN C k g u t q;rw[z,v]at f;generalize ((aD C k).pst (chF N) ivF u t q t).a 0=T at *;generalize ((aD C k).pst (chF N) ivF u t q t).b 0=U at *;refine Oq C O k g Q L _ ok V _ _ _ _ _ b.eV b.eA b.eS b.e1 b.e2 R.tau R.mu R.t R.x R.y R.z R.w rfl rfl rfl J D m b.l3 b.y b.z b.l6 b.x b.l8 b.w y Rb _ _ p x T U u G ⟨q.s,(aD C k).hdP u (2^t) q,q.g,q.h⟩ s d c ?_ _ rfl ?_ hf H e w f
 ·show(aD C k).hd q.a q.b q.g q.h u (2^t)=(aD C k).ad ((aD C k).ad ((aD C k).ad ((aD C k).ad _ _) _) ((aD C k).ad ((aD C k).dt (λ_=>-R.z) q.g R.n) ((aD C k).dt (rgS R.y R.z) q.h R.n))) _;rw[<-L.1,i,o,d,c,G];exact W.symm
 ·exact congrArg wP M
theorem QP(C:Fld P)(O:Ord N)(b:∀r:EC.Pt P,On r->mul N r=none)(v n:Nat)(k:Fin N)(d:List UInt8):∃(R:Rv N) (V A S o m e f j:Bs),R.v=v/\R.n=n/\R.k=k/\RvL C b R V A S o m e f j/\RvS R d:=by
 have lt:∀l B,chL N l B<N:=λl B=>uU O _
 obtain⟨s,G⟩:∃s:Nat->Fin N,∀i,(s i).val=chL N [115,108] [d,(hZ i).toList]:=⟨λi=>⟨_,lt _ _⟩,λ_=>rfl⟩
 obtain⟨q,E⟩:∃s:Nat->Fin N,∀i,(s i).val=chL N [115,114] [d,(hZ i).toList]:=⟨λi=>⟨_,lt _ _⟩,λ_=>rfl⟩
 obtain⟨al,t⟩:∃x:Fin N,x.val=chL N [97,108,112,104,97] [d]:=⟨⟨_,lt _ _⟩,rfl⟩
 obtain⟨c,g⟩:∃x:Fin N,x.val=chL N [114,104,111] [d]:=⟨⟨_,lt _ _⟩,rfl⟩
 obtain⟨t1,p⟩:∃x:Fin N,x.val=chL N [116,97,117,49] [d]:=⟨⟨_,lt _ _⟩,rfl⟩
 obtain⟨t2,u⟩:∃x:Fin N,x.val=chL N [116,97,117,50] [d]:=⟨⟨_,lt _ _⟩,rfl⟩
 obtain⟨V,U⟩:∃V,V=wP ((⟨v,n,s,q,al,c,t1,t2,k,0,0,0,0⟩:Rv N).pV (aD C b) (gPG C) (hPV C)):=⟨_,rfl⟩
 obtain⟨A,I⟩:∃A,A=wP ((⟨v,n,s,q,al,c,t1,t2,k,0,0,0,0⟩:Rv N).pA (aD C b) (gPG C) (gPt C ⟨#[108,101,102,116]⟩) (gPt C ⟨#[114,105,103,104,116]⟩)):=⟨_,rfl⟩
 obtain⟨S,T⟩:∃A,A=wP ((⟨v,n,s,q,al,c,t1,t2,k,0,0,0,0⟩:Rv N).pS (aD C b) (gPG C) (gPt C ⟨#[108,101,102,116]⟩) (gPt C ⟨#[114,105,103,104,116]⟩)):=⟨_,rfl⟩
 obtain⟨e,K⟩:∃L,L=bgL V n A S:=⟨_,rfl⟩
 obtain⟨y,D⟩:∃y,y=kM N e:=⟨_,rfl⟩
 obtain⟨z,M⟩:∃z,z=kM N (bB e):=⟨_,rfl⟩
 obtain⟨o,J⟩:∃A,A=wP ((⟨v,n,s,q,al,c,t1,t2,k,y,z,0,0⟩:Rv N).p1 (aD C b) (gPG C) (hPV C)):=⟨_,rfl⟩
 obtain⟨m,H⟩:∃A,A=wP ((⟨v,n,s,q,al,c,t1,t2,k,y,z,0,0⟩:Rv N).p2 (aD C b) (gPG C) (hPV C)):=⟨_,rfl⟩
 obtain⟨f,Q⟩:∃L,L=mdL (bB (bB e)) o m:=⟨_,rfl⟩
 obtain⟨x,hx⟩:∃x,x=kM N f:=⟨_,rfl⟩
 obtain⟨j,F⟩:∃L,L=enL (bB f) (⟨v,n,s,q,al,c,t1,t2,k,y,z,x,0⟩:Rv N).tau.val (⟨v,n,s,q,al,c,t1,t2,k,y,z,x,0⟩:Rv N).mu.val (⟨v,n,s,q,al,c,t1,t2,k,y,z,x,0⟩:Rv N).t.val:=⟨_,rfl⟩
 obtain⟨w,W⟩:∃w,w=kM N j:=⟨_,rfl⟩
 exact⟨⟨v,n,s,q,al,c,t1,t2,k,y,z,x,w⟩,V,A,S,o,m,e,f,j,rfl,rfl,rfl,⟨U,I,T,J,H,K,D,M,Q,hx,F,W⟩,⟨G,E,t,g,p,u⟩⟩
theorem RgA.below{n:Nat}{q:Nat->Bs}{o j:Bs}{W:Ur}(h:RgA n t p q Rb o j e W)(i:kZ W W'):RgA n t p q Rb o j e W':=by
 obtain⟨a,b,c,d,u,m,s,w,B,v,y,z,x,l,hR,r,A⟩:=h.ex;have k:Kq (λ_=>True) W W':=Kq.of_below i;exact⟨a,b,c,d,u,m,s,w,B,v,y,z,x.keep k,l.keep k λg f=>i.block g (l.lt f).2,hR.keep k λg f=>i.block g (hR.lt f).2,r.keep k,A.keep k⟩
theorem Q6{S R M:Type}(s:S)(a b:Nat->R)(g h:Nat->M):∃q:Md.Ps S R M,q.s=s/\q.a=a/\q.b=b/\q.g=g/\q.h=h:=⟨⟨s,a,b,g,h⟩,rfl,rfl,rfl,rfl,rfl⟩
theorem Lv(C:Fld P)(O:Ord N)(f:∀r:EC.Pt P,On r->mul N r=none)(hP:IsP N)(hN:18446744073709551616<=N){n:Nat}(Z:Wd n t)(v:Nat)(hv:v<2^n)(k:Fin N)(Q:List UInt8):∃(V:Bs) (p:Rp) (l Rb:Nat->Bs) (i g:Bs),V=wP ((aD C f).cm (hPV C) (gPG C) (ofF N v) k) /\
 (∀(M:Option Ww) (sc:Nat) (v1:Ut) (w:Ur),Arg w v1 (bx k.val)->PartOk w (.slice M 32 sc) Q->UH prog 5 #[uZ v,v1,iZ n,.slice M 32 sc] w (rZ w λe w'=>∃e' o,e=.tuple #[e',iZ 0]/\w.heap.size<=o/\RgA o t p l Rb i g e' w')) /\
 ∀(o:Nat) (e v0:Ut) (w:Ur),Arg33 w v0 V->RgA o t p l Rb i g e w->UH prog 12 #[v0,iZ n,e] w (rZ w λe w'=>e=.bool true):=by
 obtain⟨R,V,A,S,Y,U,L3,L6,T,rfl,rfl,rfl,K,hS⟩:=QP C O f v n k Q;obtain⟨q,F,z,D,I,y⟩:=Q6 (bB T) R.a R.b (gPt C ⟨#[108,101,102,116]⟩) (R.hh (aD C f) (gPt C ⟨#[114,105,103,104,116]⟩));obtain⟨u,hu⟩:∃u,u=(aD C f).ac R.w (uPt C):=⟨_,rfl⟩
 obtain⟨l,E⟩:∃l:Nat->Bs,∀j,l j=wP ((aD C f).pLi (chF N) ivF u t q j):=⟨λj=>wP ((aD C f).pLi (chF N) ivF u t q j),λ_=>rfl⟩
 obtain⟨Rb,H⟩:∃Rb:Nat->Bs,∀j,Rb j=wP ((aD C f).pTi (chF N) ivF u t q j):=⟨λj=>wP ((aD C f).pTi (chF N) ivF u t q j),λ_=>rfl⟩
 obtain⟨i,J⟩:∃i,i=bx (((aD C f).pst (chF N) ivF u t q t).a 0).val:=⟨_,rfl⟩
 obtain⟨g,G⟩:∃g,g=bx (((aD C f).pst (chF N) ivF u t q t).b 0).val:=⟨_,rfl⟩
 obtain⟨p,B⟩:=hE (⟨A,S,Y,U,R.tau.val,R.mu.val,R.t.val⟩:Rp);refine⟨V,p,l,Rb,i,g,K.eV,λM sc v1 w X L=>?_,λo e v0 w X L=>?_⟩
 ·exact Q8 C O f hP R Z hv hN Q M sc V A S Y U L3 L6 T K hS q F z D I y u hu l Rb E H i g J G p B v1 w X L
 ·have hr:∃q,rd P V=some q:=by
   rw[K.eV];obtain⟨q,hq,-⟩:=zM C (R.pV (aD C f) (gPG C) (hPV C)).2;exact⟨q,hq⟩
  obtain⟨x,hx⟩:=hr;obtain⟨a,b,c,d,u',m,s,vL,vR,vA,vB,e1,-⟩:=L.ex;subst e1;exact Qu C Z V x hx v0 _ _ _ _ _ _ _ _ _ _ _ w X λW hb=>Qw C O f hP hN R Z hv V A S Y U L3 L6 T K q F z D I y u hu l Rb E H i g J G p B o _ W (L.below hb)
end
section
open Go.RowKit Go.Sort Go.Deep SPA
variable {P:Nat}[NeZero P]{N:Nat}
theorem TlL.vl{Q:Nat->Prop}{k:Nat}{W:Ur}{B:Nat->Bs}(h:TlL Q k t W v B)(l:0<t):∃g c ys,v=sZ g t c/\VL W (some (aZ g)) t ys/\∀j,j<t->∃x,ys[j]? = some x/\ElQ Q 33 W x (B j):=by
 obtain⟨xs,d,f⟩:=h.ex;obtain⟨g,c,rfl⟩:=wW d l;have o:xs.length=t:=by have:=d.1;omega
 have m:=(h.lt (g:=g) rfl).2;refine⟨g,c,xs,rfl,⟨o,λe=>(by cases e),UX ⟨g,0,rfl,m,λj u b=>?_⟩,λu b=>?_⟩,f⟩
 ·rw[UD];exact zU d b
 ·obtain⟨j,p,rfl⟩:=List.mem_iff_getElem.1 b;obtain⟨x,i,n⟩:=f j (by omega);rw[UG p]at i;obtain rfl:=UO.inj i;exact n.one.2
theorem ElQ.pt{Q:Nat->Prop}{m:Nat}{W:Ur}{x:Ut}(h:ElQ Q m W x b):Pt W x b:=by
 obtain⟨k,c,rfl,-,e,-,f,d⟩:=h;exact⟨_,c,by rw[e],UX ⟨k,0,rfl,f,d⟩⟩
def rgB(t:Nat)(p:Rp)(c Rb:Nat->Bs)(k b:Bs):List Bs:=[p.a,p.s,p.c,p.d,bx p.u,bx p.m,bx p.t]++(VG t).map c++(VG t).map Rb++[k,b]
theorem PtB.app{W:Ur}{us vs:List Ut}{A B:List Bs}(h:PtB W us A)(e:PtB W vs B):PtB W (us++vs) (A++B):=by
 refine⟨by rw[UA,UA,h.1,e.1],λj u b k c=>?_⟩;by_cases d:j<us.length
 ·rw[UT d]at k;rw[UT (by rw[h.1];exact d)]at c;exact h.2 j u b k c
 ·rw[U1 (by omega)]at k;rw[U1 (by rw[h.1];omega),h.1]at c;exact e.2 _ u b k c
theorem PtB.one{W:Ur}{u:Ut}(h:Pt W u b):PtB W [u] [b]:=⟨rfl,λj e d k c=>by
 match j with
 | 0 =>
  cases k
  cases c
  exact h
 | j+1=>cases k⟩
theorem PtB.list{W:Ur}{Q:Nat->Prop}{ys:List Ut}{B:Nat->Bs}(k:ys.length=t)(h:∀j,j<t->∃x,ys[j]? = some x/\ElQ Q 33 W x (B j)):PtB W ys ((VG t).map B):=⟨by simp[k],λj u b d f=>by
 have c:j<t:=by rw[<-k];exact(UF.1 d).1
 obtain⟨x,e,g⟩:=h j c;rw[d]at e;obtain rfl:=UO.inj e;rw[Vz,List.getElem?_range c]at f;obtain rfl:=UO.inj f;exact g.pt⟩
theorem RgA.rg{w:Nat->Bs}{r n:Bs}{W:Ur}(h:RgA B t p w Rb r n e W)(l:0<t):∃(q:Rg) (f k:List Ut) (i j:Nat),e=.agg q.cs.toArray/\q.l.n=t/\q.r.n=t/\q.a.n=33/\VL W q.l.q q.l.n f/\VL W q.r.q q.r.n k/\q.l.q=some (aZ i)/\q.r.q=some (aZ j)/\PtB W (qY q f k) (rgB t p w Rb r n):=by
 obtain⟨a,b,c,d,u,m,s,G,I,F,H,rfl,g,y,hR,o,v⟩:=h.ex;obtain⟨i,cl,f,rfl,v1,D⟩:=y.vl l;obtain⟨j,cr,k,rfl,v2,z⟩:=hR.vl l;have pA:=o.pt;have E:=v.pt;obtain⟨C,cA,rfl,-⟩:=o;obtain⟨x,cB,rfl,-⟩:=v;refine⟨⟨⟨some (aZ a),33,_⟩,⟨some (aZ b),33,_⟩,⟨some (aZ c),33,_⟩,⟨some (aZ d),33,_⟩,⟨some (aZ u),32,_⟩,⟨some (aZ m),32,_⟩,⟨some (aZ s),32,_⟩,⟨some (aZ i),t,cl⟩,⟨some (aZ j),t,cr⟩,⟨some (aZ C),32,cA⟩,⟨some (aZ x),32,cB⟩⟩,f,k,i,j,rfl,rfl,rfl,rfl,v1,v2,rfl,rfl,?_⟩;exact(((PtB.one g.a.pt).app ((PtB.one g.b.pt).app ((PtB.one g.c.pt).app ((PtB.one g.d.pt).app ((PtB.one g.e.pt).app ((PtB.one g.f.pt).app (PtB.one g.g.pt))))))).app (PtB.list v1.len D)).app (PtB.list v2.len z) |>.app ((PtB.one pA).app (PtB.one E))
theorem TlL.sz{Q:Nat->Prop}{W:Ur}{B:Nat->Bs}(h:TlL Q d t W v B):((VG t).map B).map V5=VB t 33:=by
 obtain⟨xs,-,e⟩:=h.ex;refine List.eq_replicate_iff.2 ⟨by simp,λx hx=>?_⟩;simp only[Vn,List.mem_range]at hx;obtain⟨b,⟨j,g,rfl⟩,rfl⟩:=hx;obtain⟨y,-,k,c,-,-,f,-⟩:=e j g;exact f
theorem ElQ.sz{Q:Nat->Prop}{m:Nat}{W:Ur}{x:Ut}(h:ElQ Q m W x b):V5 b=m:=by
 obtain⟨k,c,-,-,d,-⟩:=h;exact d
theorem RgA.good{o:Nat}{i:Nat->Bs}{g f:Bs}{W:Ur}(h:RgA o t p i Rb g f e W)(j:t<=6):mM t t (rgB t p i Rb g f):=by
 obtain⟨a,b,c,d,u,m,s,v,x,r,w,-,k,l,hR,n,q⟩:=h.ex;refine⟨rfl,j,?_⟩;unfold rgB;rw[Wq,Wq,Wq,l.sz,hR.sz];simp only[List.map_cons,List.map_nil,k.a.sz,k.b.sz,k.c.sz,k.d.sz,k.e.sz,k.f.sz,k.g.sz,n.sz,q.sz];rfl
theorem RgA.put{x:Nat}{d:Nat->Bs}{k:Bs}{W:Ur}(h:RgA x t p d Rb b k e W)(u:0<t)(m:t<=6):UH prog 13 #[e] W (rZ W λe W'=>∃v,e=.tuple #[v,iZ 0]/\Pt W' v (eU t (rgB t p d Rb b k) (t+t+9))/\∃g c,v=sZ g (V5 (eU t (rgB t p d Rb b k) (t+t+9))) c/\V5 (eU t (rgB t p d Rb b k) (t+t+9))<=c):=by
 have s:=h.good m;obtain⟨q,r,o,A,B,rfl,j,i,-,v1,v2,n,y,z⟩:=h.rg u;refine(OL q W v1 v2 (UX n) (UX y) z (by omega) (by omega)).mono ?_;rintro e W' ⟨w,⟨-,v,rfl,l⟩|⟨f,-⟩⟩
 ·rw[j,i]at l;exact⟨_,rfl,w,v,rfl,l⟩
 ·rw[j,i]at f;exact absurd s f
end
section
open Go.RowKit Go.Sort Go.Deep
variable {n:Nat}{BB:List Bs}
theorem Fo(h:mM n n BB)(k:BB[j]? = some b):(gZ n n)[j]? = some (V5 b):=by
 rw[<-h.2.2,Vz,k];rfl
theorem nJ(h:mM n n BB):BB.length=n+n+9:=by
 have:=congrArg List.length h.2.2;unfold gZ at this;simp at this;omega
theorem vJ(h:mM n n BB):∀i,i<=n+n+9->V5 (eU n BB i)=offs n i
 | 0,_=>rfl
 | i+1,hi=>by
  have b:i<BB.length:=by rw[nJ h];omega
  have k:=UG b;rw[lE n BB i _ k,VN,vJ h i (by omega),kW n i _ (Fo h k)]
theorem yN(i:Nat):∀m,i+m<=BB.length->∃r,eU n BB (i+m)=eU n BB i++r
 | 0,_=>⟨#[],by simp⟩
 | m+1,hm=>by
  obtain⟨r,k⟩:=yN i m (by omega);have b:=UG (show i+m<BB.length by omega);refine⟨r++BB[i+m],?_⟩;rw[<-WT,lE n BB (i+m) _ b,k,Array.append_assoc]
theorem MV(h:mM n n BB)(k:BB[j]? = some b):chk (eU n BB (n+n+9)) n j=b:=by
 have d:=(UF.1 k).1;rw[nJ h]at d;obtain⟨r,c⟩:=yN (n:=n) (BB:=BB) (j+1) (n+n+9-(j+1)) (by rw[nJ h];omega);rw[show j+1+(n+n+9-(j+1))=n+n+9 by omega,lE n BB j b k]at c;have s1:=vJ h j (by omega);have s2:=kW n j _ (Fo h k);unfold chk;rw[c,s2,<-s1];apply Array.ext
 ·simp
 ·intro i e f;simp[Array.getElem_append]
theorem JX(h:mM n n BB):(eU n BB (n+n+9))[0]!.toNat=n/\nO (eU n BB (n+n+9)):=by
 have d:=h.2.1;obtain⟨r,k⟩:=yN (n:=n) (BB:=BB) 0 (n+n+9) (by rw[nJ h];omega);rw[UD]at k;have b:=vJ h (n+n+9) (Uw _);rw[xB]at b;have c:(eU n BB (n+n+9))[0]!.toNat=n:=by
  rw[k];have:(eU n BB 0++r)[0]! = n.toUInt8:=by
   rw[show eU n BB 0=#[n.toUInt8] from rfl,getElem!_pos _ 0 (by simp;omega),Array.getElem_append_left (by simp)];rfl
  rw[this];exact US (by omega)
 exact⟨c,by omega,by omega,by rw[c];exact b⟩
end
section
open Go.RowKit Go.Sort Go.Deep
section
variable {P:VD}{ops:Array Vk}{Q:Exit->Act->Ur->Prop}{a0:Act}{F:RG.Flow}{k:Nat}{o:Vk}
theorem MY(T:U8)(s t:Tmp)(ho:o.op=.slice T (.tmp s) none (some (.tmp t)) none)
 (h:∀(a:Act) (w:Ur),PreF F ops a0 k o a w->∃v1 v2 v,a.eval (.tmp s)=v1/\a.eval (.tmp t)=v2/\(Xp T v1 none (some v2) none).run P w=.ok v w/\F.E k w w/\F.R k v w):bF P Q F ops a0 k o:=
 mH λa w e=>by
  obtain⟨v1,v2,v,b,d,c,hE,hR⟩:=h a w e;refine⟨v,w,?_,hE,hR⟩;unfold U5;rw[ho];dsimp only[yBD];rw[b,d,UV,c];rfl
theorem MX(T:U8)(s t:Tmp)(ho:o.op=.slice T (.tmp s) (some (.tmp t)) none none)
 (h:∀(a:Act) (w:Ur),PreF F ops a0 k o a w->∃v1 v2 v,a.eval (.tmp s)=v1/\a.eval (.tmp t)=v2/\(Xp T v1 (some v2) none none).run P w=.ok v w/\F.E k w w/\F.R k v w):bF P Q F ops a0 k o:=
 mH λa w e=>by
  obtain⟨v1,v2,v,b,d,c,hE,hR⟩:=h a w e;refine⟨v,w,?_,hE,hR⟩;unfold U5;rw[ho];dsimp only[yBD];rw[b,d,UV,c];rfl
theorem GU(h:∀(a:Act) (w:Ur),PreF F ops a0 k o a w->∃(b:List (Tmp × Ut)) (f:FuncId) (args:Array Ut),AllE a b/\(dA (b.map (·.1)) o,(U5 (evo (evl b)) o).run P w)=(true,.ok (.enter f args) w)/\UH P f args w (λe w'=>∃v,e=.returned v/\F.E k w w'/\F.R k v w')):bF P Q F ops a0 k o:=by
 intro a w K j i l g;obtain⟨b,f,args,d,c,m⟩:=h a w ⟨j,i,l⟩;simp only[V8.injEq]at c;unfold VT;rw[iU (evl b) (b.map (·.1)) c.1 d.ev,c.2,Oper.upon_enter];refine m.mono ?_;rintro e w' ⟨v,rfl,hE,hR⟩;exact g _ _ hE hR
theorem GT(T:U8)(t u:Tmp)(ho:o.op=.store T (.tmp t) (.tmp u))(hd:o.dst=none)(m:(P.info? T).map (·.size)=some 1)
 (h:∀(a:Act) (w:Ur),PreF F ops a0 k o a w->∃g off v old,a.eval (.tmp t)=oZ g off/\a.eval (.tmp u)=v/\w.cell? ⟨g,off,none⟩=some old/\w.frozen? ⟨g,off,none⟩=false/\v.oneCell'=true/\v.cells=#[v]/\F.E k w (w.setCell ⟨g,off,none⟩ v)/\F.R k WR (w.setCell ⟨g,off,none⟩ v)):bF P Q F ops a0 k o:=by
 intro a w K f c i b;obtain⟨g,off,v,old,l,e,e3,n,j,d,hE,hR⟩:=h a w ⟨f,c,i⟩;have:=b WR _ hE hR;unfold VT U5;rw[ho];dsimp only;rw[l,e,UV,wL e3 n j d m];show K (a.put o.dst WR) _;exact this
end
theorem P3(s:SP.Bs)(k i j:Nat)(c:j<(chk s k i).size)(b:offs k i+j<s.size):(chk s k i)[j]! = s[offs k i+j]!:=by
 rw[getElem!_pos (chk s k i) j c,getElem!_pos s (offs k i+j) b];unfold chk at c⊢;rw[Array.getElem_extract]
theorem IH{w p W:Ur}{y f k:Nat}{vs:List Ut}{CH:Nat->SP.Bs}(h:RdI w p W s y d (sZ i k k) (sZ f k k) (fN d i 0 k f 0 k) vs CH)(F:vs.length=k+k+9):∃cs:List Ut,cs.length=11/\W.rangeAt d 0 cs/\∀v∈cs,v.oneCell'=true:=by
 have A:(fN d i 0 k f 0 k).length=k+k+9:=by
  rw[<-kV k k,<-sK d i 0 k f 0 k,UQ]
 have c:∀j,j<k+k+9->∃u,(∀x,(fN d i 0 k f 0 k)[j]? = some x->W.cell? x.1=some u)/\u.oneCell'=true:=λj b=>by
  obtain⟨u,l⟩:∃u,vs[j]? = some u:=⟨_,UG (by omega)⟩
  exact⟨u,λx hx=>h.st j x u hx l,by rcases(h.ow j u l).own.2 with⟨e,-⟩|⟨g,cap,cur,e,-⟩<;>rw[e]<;>rfl⟩
 have two:∀j,j<2->∃u,W.cell? ⟨d,9+j,none⟩=some u/\u.oneCell'=true:=λj b=>by
  obtain⟨u,q,o⟩:=c (7+k+k+j) (by omega);obtain⟨x,hx⟩:∃x,(fN d i 0 k f 0 k)[7+k+k+j]? = some x:=⟨_,UG (by omega)⟩
  rcases dT hx with⟨n,m⟩|⟨n,l,m⟩|⟨n,l,m⟩|⟨n,l,m⟩
  ·omega
  ·omega
  ·omega
  ·have:=q x hx;rw[m,show 7+k+k+j-7-k-k=j by omega]at this;exact⟨u,this,o⟩
 obtain⟨u0,a0,b0⟩:=c 0 (by omega);obtain⟨u1,r,b1⟩:=c 1 (by omega);obtain⟨u2,a2,G⟩:=c 2 (by omega);obtain⟨u3,t,C⟩:=c 3 (by omega);obtain⟨u4,z,a⟩:=c 4 (by omega);obtain⟨u5,m,B⟩:=c 5 (by omega);obtain⟨u6,o,D⟩:=c 6 (by omega);obtain⟨u9,q,E⟩:=two 0 (by omega);obtain⟨u10,l,n⟩:=two 1 (by omega);refine⟨[u0,u1,u2,u3,u4,u5,u6,sZ i k k,sZ f k k,u9,u10],rfl,λj u b=>?_,λv hv=>?_⟩
 ·rw[UD];match j,b with
  | 0,b=>obtain rfl:=UO.inj b;exact a0 _ rfl
  | 1,b=>obtain rfl:=UO.inj b;exact r _ rfl
  | 2,b=>obtain rfl:=UO.inj b;exact a2 _ rfl
  | 3,b=>obtain rfl:=UO.inj b;exact t _ rfl
  | 4,b=>obtain rfl:=UO.inj b;exact z _ rfl
  | 5,b=>obtain rfl:=UO.inj b;exact m _ rfl
  | 6,b=>obtain rfl:=UO.inj b;exact o _ rfl
  | 7,b=>obtain rfl:=UO.inj b;exact h.c7
  | 8,b=>obtain rfl:=UO.inj b;exact h.c8
  | 9,b=>obtain rfl:=UO.inj b;exact q
  | 10,b=>obtain rfl:=UO.inj b;exact l
  | j+11,b=>simp at b
 ·simp only[VX,UY,or_false]at hv;rcases hv with rfl|rfl|rfl|rfl|rfl|rfl|rfl|rfl|rfl|rfl|rfl<;>first|assumption|rfl
end
section
open Go.RowKit Go.Sort Go.Deep
variable {P:Nat}[NeZero P]{N:Nat}
theorem QB:(prog.underlying 110).map (·.isRow)=some false:=by kernel_rfl
theorem Ns:(prog.underlying 3).map (·.isRow)=some false:=by kernel_rfl
theorem i22:(prog.info? 23).map (·.size)=some 1:=by kernel_rfl
theorem Ce{cs:List Ut}(h:∀v∈cs,v.oneCell'=true):cs.toArray.all (·.oneCell')=true:=Go.all_oneCell_toArray h
theorem Au:∀v∈zR,v.oneCell'=true:=λv hv=>by
 rw[(Zq.1 hv).2];rfl
theorem LL(s:SP.Bs)(gi c:Nat)(hs:s.size<=100000)(hc:s.size<=c)(h9:1<c)(w:Ur)(ha:gi<w.heap.size)(hH:Holds SP.encB w gi 0 s):
 UH prog 14 #[sZ gi s.size c] w (RdR w s s[0]!.toNat):=by
 obtain⟨y,J⟩:∃y,Hid (w.alloc (.cells zR.toArray 28)=y):=⟨_,rfl⟩
 have b1:kZ w y:=by rw[<-J.out];exact aO _ _
 have z1:y.heap.size=w.heap.size+1:=by rw[<-J.out,UB]
 have N:y.heap[w.heap.size]? = some (.cells zR.toArray 28 (0,0)):=by rw[<-J.out];exact WW
 have k9:=Hid.mkP b1;have hu:=Hid.mkP z1;have km:=Hid.mkP N;have P1:=Hid.mkP (EH (cs:=zR) N rfl b1);have HH:=Hid.mkP hH;obtain⟨n,hn⟩:∃n:Nat,Hid (n=s.size):=⟨_,rfl⟩
 obtain⟨k,hk⟩:∃k:Nat,Hid (k=s[0]!.toNat):=⟨_,rfl⟩
 rw[<-hk.out];rw[<-hn.out]at hs hc⊢;by_cases h0:0<n
 ·have Q:=(SP.Holds.below hH b1 ha 0 (by rw[<-hn.out];exact h0)).1;unfold SP.encB SP.ub at Q;rw[<-hk.out,UD]at Q;obtain⟨m,hm⟩:∃m,n=m+1:=⟨n-1,by omega⟩
  have h8:¬((m:Int)+1=0):=by omega
  have kw:(0:Int)<(m:Int)+1:=by omega
  have kv:((m:Int)+1 == 0)=false:=by simpa using h8
  rw[hm]at hc hs⊢;have Hm:Hid (s.size=m+1):=by rw[<-hn.out,hm];rfl
  by_cases h6:k<=6
  ·have ko:¬(6:Int)<(k:Int):=by omega
   have kr:=yBG (P:=prog) 24 23 (.slice none 0 0) 24 v7 MF rfl .i64 .i64 k (by omega) (by omega);have H:Hid (nO s↔m+1=293+66*k):=by
    show _↔_;unfold nO;rw[<-hk.out,Hm.out];exact⟨λh=>h.2.2,λh=>⟨by omega,h6,h⟩⟩
   clear hm h8 h0 hH b1 N z1;go_enter func14,ntmps14;go_wp2_with (first|(refine aY (v:=jZ w.heap.size) (w':=y) rfl (.alloc 28) rfl ?_ ?_;(rw[<-J.out];kernel_rfl))|fail)
   go_cut [5] (λs5 wx=>∃o A z,s5=jZ o/\Hid (R4 y wx o A z k))
   case first =>
    go_region
    all_goals (try go_wp2)
    all_goals (go_meet;first|(refine⟨_,y.heap.size,y.heap.size+1,rfl,(⟨(three _ _ _ _ _ _ _).1,?_,?_,?_,?_,?_,?_,?_,?_,?_⟩:R4 _ _ _ _ _ _)⟩<;>first|(rw[(three _ _ _ _ _ _ _).2.1];omega)|exact(three _ _ _ _ _ _ _).2.2.1|exact(three _ _ _ _ _ _ _).2.2.2.1|exact(three _ _ _ _ _ _ _).2.2.2.2|omega)|(refine⟨_,y.heap.size,y.heap.size+1+1,rfl,(⟨(three _ _ _ _ _ _ _).1,?_,?_,?_,?_,?_,?_,?_,?_,?_⟩:R4 _ _ _ _ _ _)⟩<;>first|(rw[(three _ _ _ _ _ _ _).2.1];omega)|exact(three _ _ _ _ _ _ _).2.2.1|exact(three _ _ _ _ _ _ _).2.2.2.1|exact(three _ _ _ _ _ _ _).2.2.2.2|omega)|(refine⟨_,y.heap.size+1,y.heap.size,rfl,(⟨(three _ _ _ _ _ _ _).1,?_,?_,?_,?_,?_,?_,?_,?_,?_⟩:R4 _ _ _ _ _ _)⟩<;>first|(rw[(three _ _ _ _ _ _ _).2.1];omega)|exact(three _ _ _ _ _ _ _).2.2.1|exact(three _ _ _ _ _ _ _).2.2.2.1|exact(three _ _ _ _ _ _ _).2.2.2.2|omega)|(refine⟨_,y.heap.size+1,y.heap.size+1+1,rfl,(⟨(three _ _ _ _ _ _ _).1,?_,?_,?_,?_,?_,?_,?_,?_,?_⟩:R4 _ _ _ _ _ _)⟩<;>first|(rw[(three _ _ _ _ _ _ _).2.1];omega)|exact(three _ _ _ _ _ _ _).2.2.1|exact(three _ _ _ _ _ _ _).2.2.2.1|exact(three _ _ _ _ _ _ _).2.2.2.2|omega)|(refine⟨_,y.heap.size+1+1,y.heap.size,rfl,(⟨(three _ _ _ _ _ _ _).1,?_,?_,?_,?_,?_,?_,?_,?_,?_⟩:R4 _ _ _ _ _ _)⟩<;>first|(rw[(three _ _ _ _ _ _ _).2.1];omega)|exact(three _ _ _ _ _ _ _).2.2.1|exact(three _ _ _ _ _ _ _).2.2.2.1|exact(three _ _ _ _ _ _ _).2.2.2.2|omega)|(refine⟨_,y.heap.size+1+1,y.heap.size+1,rfl,(⟨(three _ _ _ _ _ _ _).1,?_,?_,?_,?_,?_,?_,?_,?_,?_⟩:R4 _ _ _ _ _ _)⟩<;>first|(rw[(three _ _ _ _ _ _ _).2.1];omega)|exact(three _ _ _ _ _ _ _).2.2.1|exact(three _ _ _ _ _ _ _).2.2.2.1|exact(three _ _ _ _ _ _ _).2.2.2.2|omega))
   case rest =>
    obtain⟨o,A,z,rfl,H4⟩:=hcut;have c7:wc.cell? ⟨o,7,none⟩=some (sZ A k k):=by unfold VY;rw[H4.out.hp];rfl
    have c8:wc.cell? ⟨o,8,none⟩=some (sZ z k k):=by unfold VY;rw[H4.out.hp];rfl
    have he:=Hid.mkP (zP o ⟨some (aZ A),k,k⟩ ⟨some (aZ z),k,k⟩ A 0 z 0 wc H4.out.p1.2 c7 c8 (UX rfl) (UX rfl) (by show k<=_;omega) (by show k<=_;omega));have ke:¬c=1:=by omega
    have kt:¬c-1=0:=by omega
    have kh:(1:Int)<=(m:Int)+1:=by omega
    have kc:(m:Int)+1<=(c:Int):=by omega
    clear c7 c8 Q;go_wp2_with fail
    refine he.out.mono ?_;rintro e w3 ⟨v3,rfl,g3⟩;obtain⟨S,hq,rfl,kd,kn⟩:=g3.lt;have Z:=II (CH:=chk s k) H4.out k9.out (by have:=hu.out;omega) g3;have O:=Hid.mkP Z.1;have I0:=Hid.mkP Z.2;have hM:(fN o A 0 k z 0 k).length=k+k+9:=by
     rw[<-kV k k,<-sK o A 0 k z 0 k,UQ]
    have h4:(tH o++lp A 0 k++lp z 0 k++endP o).length=k+k+9:=hM;have hl:Hid (∀W v,RdI w w3 W w.heap.size S o (sZ A k k) (sZ z k k) (fN o A 0 k z 0 k) v (chk s k)->∀i,i<k+k+9->∃r D f,(gZ k k)[i]? = some f/\(fN o A 0 k z 0 k)[i]? = some (⟨r,D,none⟩,f)/\f<=33/\32<=f/\W.rangeAt S (i*2) [oZ r D,iZ f]):=λW v G i hi=>by
     obtain⟨x,hx⟩:∃x,(fN o A 0 k z 0 k)[i]? = some x:=⟨_,UG (by omega)⟩
     obtain⟨r,D,l,-⟩:=O.out.ad i x hx;have R:(gZ k k)[i]? = some x.2:=by rw[<-sK o A 0 k z 0 k,Vz,hx];rfl
     have d:=VJ R;have t:=g3.at i x hx;refine⟨r,D,x.2,R,by rw[hx,<-l],EO k k _ d,?_,λj u hj=>?_⟩
     ·unfold gZ at d;simp only[WB,VX,UY,or_false,Zq]at d;omega
     ·have e:=G.eq;have:W.cell? ⟨S,i*2+j,none⟩=w3.cell? ⟨S,i*2+j,none⟩:=by unfold VY;rw[e]
      rw[this,Vv];exact t j u (by unfold pC;rw[l];exact hj)
    have h7:Hid (w3.heap[w.heap.size]? = some (.cells zR.toArray 28 (0,0))):=by
     have:=hu.out;have d:=H4.out.bl.size;show _=_;rw[g3.bl.block w.heap.size (by omega),H4.out.bl.block w.heap.size (by omega)];exact km.out
    obtain⟨M,U⟩:∃M,Hid (k+k+9=M):=⟨_,rfl⟩
    rw[U.out]at hl h4;rw[h4];have b5:M<=21:=by have:=U.out;omega
    obtain⟨dP,hz,k0⟩:=Uy.1 QC;obtain⟨C1,hy⟩:∃C1,c-1=C1:=⟨_,rfl⟩
    rw[hy];have k8:1+C1=c:=by omega
    clear g3 hM h4 Z he kd kn kr hy ke kt kh kc;go_wp2;go_loopg [0,32] M (λgk s0 s32 wr=>∃(i off ad L C:Nat),i+gk=M/\s32=iZ i/\s0=.slice (some ⟨gi,ad,none⟩) L C/\off+L=m+1/\off+C=c/\Hid (0<C->ad=off)/\Hid (off=offs k i/\∃vs,vs.length=i/\RdI w w3 wr w.heap.size S o (sZ A k k) (sZ z k k) (fN o A 0 k z 0 k) vs (chk s k)))
    case atStart=>exact⟨0,1,1,m,C1,by omega,rfl,rfl,by omega,k8,λ_=>rfl,rfl,[],rfl,I0.out⟩
    case round =>
     clear I0;obtain⟨i,off,ad,L,C,hi,rfl,rfl,b2,b3,kg,K⟩:=hrel;by_cases k7:i<M
     ·have ht:(i:Int)<(M:Int):=by omega
      have ky:=NL S M hq i k7;obtain⟨B,vs,E,G⟩:=K.out;obtain⟨r,D,f,k1,k2,k3,b4,k4⟩:=hl.out _ _ G i k7;have K4:=Hid.mkP k4;obtain⟨l,I⟩:∃l,Hid (wr.alloc (.cells #[oZ r D,iZ f] 112)=l):=⟨_,rfl⟩
      have ba:kZ wr l:=by rw[<-I.out];exact aO _ _
      have za:l.heap.size=wr.heap.size+1:=by rw[<-I.out,UB]
      have a0:l.cell? ⟨wr.heap.size,0,none⟩=some (oZ r D):=by rw[<-I.out];exact cZ wr _ _ 0 _ rfl
      have a1:l.cell? ⟨wr.heap.size,1,none⟩=some (iZ f):=by rw[<-I.out];exact cZ wr _ _ 1 _ rfl
      have X:Hid (RdI w w3 l w.heap.size S o (sZ A k k) (sZ z k k) (fN o A 0 k z 0 k) vs (chk s k)):=G.below O.out ba;have F:Hid (off=offs k i/\(gZ k k)[i]? = some f/\(fN o A 0 k z 0 k)[vs.length]? = some (⟨r,D,none⟩,f)/\vs.length=i/\r<wr.heap.size/\l.heap.size=wr.heap.size+1):=by
       refine⟨B,k1,by rw[E];exact k2,E,?_,za⟩;obtain⟨d,t,e',p1,-⟩:=O.out.ad i _ k2;injection e' with e' _ _
       have:=G.sz;omega
      clear K k4 k2 k1 G ba za B E;by_cases kz:L<f
      ·have k5:(L:Int)<(f:Int):=by omega
       have T:=Hid.mkP (EH (cs:=zR) (by rw[X.out.er];exact h7.out) rfl X.out.bl);have t:¬nO s:=λh=>by
        have Q:=H.out.1 h;have V:=Mv k (i+1);rw[Cc,kW k i f F.out.2.1]at V;have:=F.out.1;omega
       go_wp2_with (first|(refine U6 rfl 112 _ rfl S (i*2) ?_ [oZ r D,iZ f] dP ?_ ?_ ?_ ?_ ?_;rfl;exact K4.out;exact hz;exact k0;exact iPt;skip)|(refine U2 rfl 28 _ _ rfl w.heap.size 0 zR.toArray ?_ ?_ ?_ ?_ ?_ ?_;rfl;rfl;(rw[I.out];exact T.out.1);exact iRg;exact Ce Au;rw[show zR.toArray.toList=zR from rfl,I.out])|fail)
       refine UE (fY 2 3 28 rfl T.out.2.1 rfl rfl uRg iRg) rfl ?_;exact U4 ⟨t,T.out.2.2,rfl⟩
      ·have k5:¬(L:Int)<(f:Int):=by omega
       obtain rfl:ad=off:=kg.out (by omega);go_wp2_with (first|(refine U6 rfl 112 _ rfl S (i*2) ?_ [oZ r D,iZ f] dP ?_ ?_ ?_ ?_ ?_;rfl;exact K4.out;exact hz;exact k0;exact iPt;skip)|fail)
       rw[I.out];have R:(chk s k i).size=f:=by
        unfold chk;rw[kW k i f F.out.2.1,Array.size_extract,Hm.out];have:=F.out.1;omega
       have HX:Hid (∀W,kZ l W->Holds SP.encB W gi ad (chk s k i)):=λW Y j hj=>by
        have kp:kZ w W:=X.out.bl.trans (Y.mono X.out.bl.size);have d:ad+j<s.size:=by rw[Hm.out];omega
        have Q:=(SP.Holds.below HH.out kp ha) (ad+j) d;rw[UD]at Q;have e:(chk s k i)[j]! = s[ad+j]!:=by
         rw[F.out.1];exact P3 s k i j hj (by rw[<-F.out.1];exact d)
        rw[e];exact Q
       have kk:=LI gi ad L C f (by omega);obtain⟨nx,k6,kl⟩:=LH gi ad L C f (by omega) (by omega);have kf:=Hid.mkP k6;clear k6;have hr:=Hid.mkP R;clear R;refine qG (FR l wr.heap.size r D f gi ad L C nx (chk s k i)) (by kernel_rfl) ⟨by kernel_rfl,CC ?_,λi j _ _ ka _ _ v w w' hE hR=>FR.stab (by have:=F.out.2.2.2.2;omega) i j ka v w w' hE hR,λi b _ hk w w' hE hB=>FR.stabB (by have:=F.out.2.2.2.2;omega) i b hk w w' hE hB⟩ (λb=>by
        match b with
        | 0=>exact(⟨rfl,rfl,rfl,Uw _,λ_ _=>rfl⟩:kZ l l.drew)
        | _+1=>exact⟨a0,a1,by have:=F.out.2.2.2.2;omega,Uw _⟩) ?_
       ·exact⟨lC λa W d=>⟨[(7,jZ wr.heap.size)],_,W,⟨d.o 7 (by kernel_rfl),yCn⟩,by kernel_rfl,UR _ _,rfl⟩,
         D5 110 42 rfl QB λa W d=>⟨wr.heap.size,0,oZ r D,d.n 0 42 (by kernel_rfl) (by kernel_rfl) (by kernel_rfl),(d.b 1 (by kernel_rfl)).1,UR _ _,rfl⟩,
         lC λa W d=>⟨[(0,.slice (some ⟨gi,ad,none⟩) L C)],_,W,⟨d.o 0 (by kernel_rfl),yCn⟩,by kernel_rfl,UR _ _,rfl⟩,
         lC λa W d=>⟨[(7,jZ wr.heap.size)],_,W,⟨d.o 7 (by kernel_rfl),yCn⟩,by kernel_rfl,UR _ _,rfl⟩,
         D5 3 45 rfl Ns λa W d=>⟨wr.heap.size,1,iZ f,d.n 3 45 (by kernel_rfl) (by kernel_rfl) (by kernel_rfl),(d.b 1 (by kernel_rfl)).2.1,UR _ _,rfl⟩,
         MY 23 44 46 rfl λa W d=>⟨_,_,_,d.n 2 44 (by kernel_rfl) (by kernel_rfl) (by kernel_rfl),d.n 4 46 (by kernel_rfl) (by kernel_rfl) (by kernel_rfl),kk W,UR _ _,rfl⟩,
         GU λa W d=>⟨[(47,.slice (some ⟨gi,ad,none⟩) f C)],56,#[.slice (some ⟨gi,ad,none⟩) f C],⟨d.n 5 47 (by kernel_rfl) (by kernel_rfl) (by kernel_rfl),yCn⟩,by kernel_rfl,by
          have Y:kZ l W:=d.b 0 (by kernel_rfl);have hc:=JQ gi ad C (chk s k i) (by rw[hr.out];omega) W (by have Q:=X.out.bl.size;have V:=Y.size;omega) (HX.out W Y);rw[hr.out]at hc;refine hc.mono ?_;rintro e' W' ⟨v,rfl,Q,V⟩;refine⟨v,rfl,Q,?_⟩;have h3:=Y.size;refine(⟨?_,V.nn⟩:FrC l.heap.size (chk s k i) v W');rcases V.own with⟨x0,x1|⟨g,cap,cur,x1,x2,x3⟩⟩
          ·exact⟨x0,U4 x1⟩
          ·exact⟨x0,UX ⟨g,cap,cur,x1,by omega,x3⟩⟩⟩,
         lC λa W d=>⟨[(0,.slice (some ⟨gi,ad,none⟩) L C)],_,W,⟨d.o 0 (by kernel_rfl),yCn⟩,by kernel_rfl,UR _ _,rfl⟩,
         lC λa W d=>⟨[(7,jZ wr.heap.size)],_,W,⟨d.o 7 (by kernel_rfl),yCn⟩,by kernel_rfl,UR _ _,rfl⟩,
         D5 3 50 rfl Ns λa W d=>⟨wr.heap.size,1,iZ f,d.n 8 50 (by kernel_rfl) (by kernel_rfl) (by kernel_rfl),(d.b 1 (by kernel_rfl)).2.1,UR _ _,rfl⟩,
         MX 23 49 51 rfl λa W d=>⟨_,_,_,d.n 7 49 (by kernel_rfl) (by kernel_rfl) (by kernel_rfl),d.n 9 51 (by kernel_rfl) (by kernel_rfl) (by kernel_rfl),kl W,UR _ _,rfl⟩,
         lC λa W d=>⟨[(43,oZ r D)],_,W,⟨d.n 1 43 (by kernel_rfl) (by kernel_rfl) (by kernel_rfl),yCn⟩,by kernel_rfl,UR _ _,rfl⟩,
         GT 23 53 48 rfl rfl i22 λa W d=>by
          have Y:kZ l W:=d.b 0 (by kernel_rfl);have hF:FrC l.heap.size (chk s k i) (a.eval (.tmp 48)) W:=d.n 6 48 (by kernel_rfl) (by kernel_rfl) (by kernel_rfl);obtain⟨⟨old,kb⟩,kj⟩:=X.out.th _ _ F.out.2.2.1;have V:r<l.heap.size:=by have:=F.out.2.2.2.2;omega
          obtain⟨q,c',hv⟩:=GE hF.own;refine⟨r,D,_,old,d.n 11 53 (by kernel_rfl) (by kernel_rfl) (by kernel_rfl),rfl,?_,?_,by rw[hv];rfl,by rw[hv];rfl,⟨_,rfl⟩,?_⟩
          ·rw[Y.cell (p:=⟨r,D,none⟩) V];exact kb
          ·have:W.frozen? ⟨r,D,none⟩=l.frozen? ⟨r,D,none⟩:=by unfold WY;rw[Y.block r V]
           rw[this];exact kj
          ·refine(⟨_,G8 Y _ _,⟨bZ hF.own (λg hg=>?_),hF.nn⟩⟩:StR l r D (chk s k i) _);have:=(jG hF.own hg).1;rw[heap_set,yCm (by show r≠g;omega)],
         mI 52 λa W d=>⟨a.eval (.tmp 52),W,by kernel_rfl,by kernel_rfl,UR _ _,d.n 10 52 (by kernel_rfl) (by kernel_rfl) (by kernel_rfl)⟩,yCn⟩
       ·intro V w5 hV hB;have hS:StR l r D (chk s k i) w5:=hV 12 (Xl (VR (by kernel_rfl))) rfl;have hw:V 13=.slice (some ⟨gi,nx,none⟩) (L-f) (C-f):=hV 13 (Xl (VR (by kernel_rfl))) rfl;obtain⟨v,d⟩:=X.out.step O.out F.out.2.2.1 (by rw[F.out.2.2.2.1];exact hS);have K5:Hid (ad+f=offs k (i+1)/\∃vs,vs.length=i+1/\RdI w w3 w5 w.heap.size S o (sZ A k k) (sZ z k k) (fN o A 0 k z 0 k) vs (chk s k)):=by
         refine⟨by rw[kW k i f F.out.2.1,F.out.1],_,?_,d⟩;rw[UA,F.out.2.2.2.1];rfl
        dsimp only[bU,Nat.reduceAdd];simp only[UN,Us,Uu,Uv];rw[hw];clear hV hB hS hw d X F HX;go_wp2;go_roundg (gk-1)
        case measure=>omega
        case rel=>exact⟨i+1,ad+f,nx,L-f,C-f,by omega,rfl,rfl,by omega,by omega,kf,K5⟩
     ·have ht:¬(i:Int)<(M:Int):=by omega
      obtain⟨B,vs,E,G⟩:=K.out;have ku:off=293+66*k:=by
       rw[B,show i=k+k+9 by have:=U.out;omega];exact xB k
      have X:=Hid.mkP G;by_cases kx:0<L
      ·have d:(0:Int)<(L:Int):=by omega
       have T:=Hid.mkP (EH (cs:=zR) (by rw[G.er];exact h7.out) rfl G.bl);have t:¬nO s:=λh=>by
        have Q:=H.out.1 h;omega
       clear K G B E;go_wp2_with (first|(refine U2 rfl 28 _ _ rfl w.heap.size 0 zR.toArray ?_ ?_ ?_ ?_ ?_ ?_;rfl;rfl;exact T.out.1;exact iRg;exact Ce Au;rw[show zR.toArray.toList=zR from rfl])|fail)
       refine UE (fY 2 3 28 rfl T.out.2.1 rfl rfl uRg iRg) rfl ?_;exact U4 ⟨t,T.out.2.2,rfl⟩
      ·obtain rfl:L=0:=by omega
       have I:nO s:=H.out.2 (by omega);obtain⟨cs,d,l,h9⟩:=IH G (by rw[E];have:=U.out;omega);have T:=Hid.mkP (EH (cs:=cs) (by rw[G.er];exact h7.out) d G.bl);have HC:=Hid.mkP l;have V:=Hid.mkP h9;have F:=Hid.mkP d;have KR:Hid (RdR w s k (.returned (.tuple #[.agg cs.toArray,iZ 0])) (wr.setCells w.heap.size 0 cs)):=UX ⟨I,T.out.2.2,w3,wr,S,o,A,z,vs,cs,by rw[E];have:=U.out;omega,O.out,G,d,l,rfl,rfl⟩;obtain⟨dR,R,Y⟩:=Uy.1 uRg;clear K G B E l h9 X;go_wp2_with (first|(refine U6 rfl 28 _ rfl o 0 ?_ cs dR ?_ ?_ ?_ ?_ ?_;rfl;exact HC.out;exact R;exact Y;(rw[F.out];exact iRg);skip)|(refine U2 rfl 28 _ _ rfl w.heap.size 0 cs.toArray ?_ ?_ ?_ ?_ ?_ ?_;rfl;rfl;exact T.out.1;(rw[List.size_toArray,F.out];exact iRg);exact Ce V.out;rw[show cs.toArray.toList=cs from rfl])|fail)
       refine UE (fY 2 3 28 rfl T.out.2.1 rfl rfl uRg (by rw[F.out];exact iRg)) rfl ?_;exact KR.out
  ·have ko:(6:Int)<(k:Int):=by omega
   have t:¬nO s:=λh=>h6 (by rw[hk.out];exact h.2.1)
   clear hm h8 h0 hH b1 N z1;go_enter func14,ntmps14;go_wp2_with (first|(refine aY (v:=jZ w.heap.size) (w':=y) rfl (.alloc 28) rfl ?_ ?_;(rw[<-J.out];kernel_rfl))|(refine U2 rfl 28 _ _ rfl w.heap.size 0 zR.toArray ?_ ?_ ?_ ?_ ?_ ?_;rfl;rfl;exact P1.out.1;exact iRg;exact Ce Au;rw[show zR.toArray.toList=zR from rfl])|fail)
   refine UE (fY 2 3 28 rfl P1.out.2.1 rfl rfl uRg iRg) rfl ?_;exact U4 ⟨t,P1.out.2.2,rfl⟩
 ·have d:n=0:=by omega
  have t:¬nO s:=λh=>h0 (by rw[hn.out];exact h.1)
  subst d;clear h0 hH b1 N z1;go_enter func14,ntmps14;go_wp2_with (first|(refine aY (v:=jZ w.heap.size) (w':=y) rfl (.alloc 28) rfl ?_ ?_;(rw[<-J.out];kernel_rfl))|(refine U2 rfl 28 _ _ rfl w.heap.size 0 zR.toArray ?_ ?_ ?_ ?_ ?_ ?_;rfl;rfl;exact P1.out.1;exact iRg;exact Ce Au;rw[show zR.toArray.toList=zR from rfl])|fail)
  refine UE (fY 2 3 28 rfl P1.out.2.1 rfl rfl uRg iRg) rfl ?_;exact U4 ⟨t,P1.out.2.2,rfl⟩
def RdG(w:Ur)(s:SP.Bs)(k:Nat)(e:Ending)(W:Ur):Prop:=kZ w W/\∃(p:Rg) (d c:List Ut) (B:Nat),e=.returned (.tuple #[.agg p.cs.toArray,iZ 0])/\VL W p.l.q p.l.n d/\VL W p.r.q p.r.n c/\p.l.n=k/\p.r.n=k/\(∀b o,p.l.q=some ⟨b,o,none⟩->0<k->w.heap.size<=b)/\(∀b o,p.r.q=some ⟨b,o,none⟩->0<k->w.heap.size<=b)/\w.heap.size<=B/\B<=W.heap.size/\(∀j,j<k+k+9->∃u,(qY p d c)[j]? = some u/\FrC B (chk s k j) u W)/\(∀(j f:Nat) u i g,j<f->(qY p d c)[j]? = some u->(qY p d c)[f]? = some i->u.ownBlock=some g->i.ownBlock≠some g)
theorem JW{W:Ur}(h:W'.heap[g]? = W.heap[g]?)(j:Nat):W'.cell? ⟨g,j,none⟩=W.cell? ⟨g,j,none⟩/\W'.frozen? ⟨g,j,none⟩=W.frozen? ⟨g,j,none⟩:=by
 unfold VY WY;rw[h];exact⟨rfl,rfl⟩
theorem Ig{k:Nat}(vs:List Ut)(h:vs.length=k+k+9):∃hd d b c,vs=hd++d++b++c/\hd.length=7/\d.length=k/\b.length=k/\c.length=2:=by
 refine⟨vs.take 7,(vs.drop 7).take k,((vs.drop 7).drop k).take k,((vs.drop 7).drop k).drop k,?_,?_,?_,?_,?_⟩
 ·rw[Vx,Zc,Vx,Zc,Zc]
 all_goals (simp only[WH,List.length_drop];omega)
theorem len2:∀(l:List Ut),l.length=2->∃b k,l=[b,k]
 | [b,k],_=>⟨b,k,rfl⟩
theorem TS:∀(l:List Ut),l.length=7->∃b g c d f k e,l=[b,g,c,d,f,k,e]
 | [b,g,c,d,f,k,e],_=>⟨b,g,c,d,f,k,e,rfl⟩
theorem RJ:∀(l:List Ut),l.length=11->∃e n f g j b i m c d k,l=[e,n,f,g,j,b,i,m,c,d,k]
 | [e,n,f,g,j,b,i,m,c,d,k],_=>⟨e,n,f,g,j,b,i,m,c,d,k,rfl⟩
theorem IG{w W:Ur}{s:SP.Bs}{k:Nat}{e:Ending}(h:RdR w s k e W)(O:nO s):RdG w s k e W:=by
 rcases h with⟨h,-⟩|⟨-,hb,Z,p,gq,F,J,H,vs,cs,hl,S,A,hc,Y,rfl,rfl⟩
 ·exact absurd O h
 have hz:=S.r;have h3:=A.sz;have X:∀b,b<p.heap.size->b≠w.heap.size->(p.setCells w.heap.size 0 cs).heap[b]? = p.heap[b]?:=λb C N=>Z1 p _ 0 cs C N
 have hM:(fN F J 0 k H 0 k).length=k+k+9:=by rw[<-kV k k,<-sK F J 0 k H 0 k,UQ]
 have z:∀(j:Nat) u,vs[j]? = some u->∃x,(fN F J 0 k H 0 k)[j]? = some x/\p.cell? x.1=some u:=λj u l=>by
  obtain⟨x,hx⟩:∃x,(fN F J 0 k H 0 k)[j]? = some x:=⟨_,UG (by have:=(UF.1 l).1;omega)⟩
  exact⟨x,hx,A.st j x u hx l⟩
 have P:∀(j:Nat) u,vs[j]? = some u->∃t:Sv,u=t.v:=λj u l=>by
  obtain⟨q,c,hv⟩:∃q c,u=.slice q (V5 (chk s k j)) c:=by
   rcases(A.ow j u l).own with⟨-,⟨rfl,i⟩|⟨g,cap,cur,rfl,-⟩⟩
   ·exact⟨none,0,by rw[i]⟩
   ·exact⟨_,_,rfl⟩
  exact⟨⟨q,_,c⟩,hv⟩
 have hF:∀(j:Nat) u,vs[j]? = some u->FrC Z.heap.size (chk s k j) u (p.setCells w.heap.size 0 cs):=λj u l=>by
  have C:=A.ow j u l;exact⟨bZ C.own (λg O=>X g (jG C.own O).2.1 (by have:=(jG C.own O).1;omega)),C.nn⟩
 have U:=A.ne;have h4:p.heap.size<=(p.setCells w.heap.size 0 cs).heap.size:=(below_setCells (B:=0) (b:=w.heap.size) (WA _) cs 0 p (UR 0 p)).size;have I:∀(g V:Nat) (ys:List Ut),ys.length=k->(∀j,j<k->∃u x,ys[j]? = some u/\vs[V+j]? = some u/\(fN F J 0 k H 0 k)[V+j]? = some x/\x.1=⟨g,j,none⟩)->VL (p.setCells w.heap.size 0 cs) (some (aZ g)) k ys/\(0<k->w.heap.size<=g):=λg V ys hn Q=>by
  refine⟨⟨hn,λe=>(by cases e),?_,λu l=>?_⟩,λK=>?_⟩
  ·by_cases K:k=0
   ·exact U4 (List.length_eq_zero_iff.1 (by omega))
   ·obtain⟨u0,D,-,-,m,v⟩:=Q 0 (by omega);obtain⟨b,o,i,C,-,-,N,-⟩:=S.ad _ D m;rw[v]at i;injection i with i _ _
    subst i;refine UX ⟨g,0,rfl,by omega,λj u r=>?_⟩;obtain⟨G,M,n,E,L,R⟩:=Q j (by have:=(UF.1 r).1;omega);rw[r]at n;obtain rfl:=UO.inj n;rw[UD,(JW (X g (by omega) N) j).1,<-R];exact A.st _ M u L E
  ·obtain⟨j,r⟩:=List.getElem?_of_mem l;obtain⟨G,M,n,E,-⟩:=Q j (by have:=(UF.1 r).1;omega);rw[r]at n;obtain rfl:=UO.inj n;obtain⟨t,rfl⟩:=P _ u E;rfl
  ·obtain⟨u0,D,-,-,m,v⟩:=Q 0 K;obtain⟨b,o,i,C,N,-⟩:=S.ad _ D m;rw[v]at i;injection i with i _ _
   subst i;exact N
 obtain⟨hd,D,E,L,rfl,R,T,n3,n4⟩:=Ig vs hl;have V1:=I J 7 D T (λj r=>by
  obtain⟨u,l⟩:∃u,D[j]? = some u:=⟨_,UG (by omega)⟩
  have hv:(hd++D++E++L)[7+j]? = some u:=by
   rw[Vx,Vx,U1 (by omega),R,WN,UT (by omega)];exact l
  obtain⟨x,hx,-⟩:=z _ u hv;refine⟨u,x,l,hv,hx,?_⟩;rcases dT hx with⟨n,m⟩|⟨n,i,m⟩|⟨n,i,m⟩|⟨n,i,m⟩
  ·omega
  ·rw[m,WN];congr 1;omega
  ·omega
  ·omega)
 have V2:=I H (7+k) E n3 (λj r=>by
  obtain⟨u,l⟩:∃u,E[j]? = some u:=⟨_,UG (by omega)⟩
  have hv:(hd++D++E++L)[7+k+j]? = some u:=by
   rw[Vx,U1 (by rw[UA];omega),UA,R,T,WN,UT (by omega)];exact l
  obtain⟨x,hx,-⟩:=z _ u hv;refine⟨u,x,l,hv,hx,?_⟩;rcases dT hx with⟨n,m⟩|⟨n,i,m⟩|⟨n,i,m⟩|⟨n,i,m⟩
  ·omega
  ·omega
  ·rw[m];congr 1;omega
  ·omega)
 have hT:∀j,j<2->∀u,L[j]? = some u->p.cell? ⟨F,9+j,none⟩=some u/\∃t:Sv,u=t.v:=λj r u l=>by
  have hv:(hd++D++E++L)[7+k+k+j]? = some u:=by
   rw[U1 (by rw[UA,UA];omega),UA,UA,R,T,n3,WN];exact l
  refine⟨?_,P _ u hv⟩;obtain⟨x,hx,v⟩:=z _ u hv;rcases dT hx with⟨n,m⟩|⟨n,i,m⟩|⟨n,i,m⟩|⟨n,i,m⟩
  ·omega
  ·omega
  ·omega
  ·rw[m,show 7+k+k+j-7-k-k=j by omega]at v;exact v
 have G:∀j,j<7->∀u,hd[j]? = some u->p.cell? ⟨F,j,none⟩=some u/\∃t:Sv,u=t.v:=λj r u l=>by
  have hv:(hd++D++E++L)[j]? = some u:=by
   rw[Vx,Vx,UT (by omega)];exact l
  refine⟨?_,P _ u hv⟩;obtain⟨x,hx,v⟩:=z _ u hv;rcases dT hx with⟨n,m⟩|⟨n,i,m⟩|⟨n,i,m⟩|⟨n,i,m⟩
  ·rw[m]at v;exact v
  ·omega
  ·omega
  ·omega
 have i:∀j u,cs[j]? = some u->p.cell? ⟨F,j,none⟩=some u:=λj u r=>by
  have:=Y j u r;rw[UD]at this;exact this
 have c7:=A.c7;have c8:=A.c8;clear z I A S Y P;obtain⟨v0,v1,v2,v3,v4,v5,v6,rfl⟩:=TS hd R;obtain⟨x,y,rfl⟩:=len2 L n4;obtain⟨z0,z1,z2,z3,z4,z5,z6,z7,z8,z9,n,rfl⟩:=RJ cs hc;obtain⟨q0,a,rfl⟩:=G 0 (by omega) v0 rfl;obtain⟨q1,b,rfl⟩:=G 1 (by omega) v1 rfl;obtain⟨q2,c,rfl⟩:=G 2 (by omega) v2 rfl;obtain⟨q3,d,rfl⟩:=G 3 (by omega) v3 rfl;obtain⟨q4,e,rfl⟩:=G 4 (by omega) v4 rfl;obtain⟨q5,f,rfl⟩:=G 5 (by omega) v5 rfl;obtain⟨q6,g,rfl⟩:=G 6 (by omega) v6 rfl;obtain⟨q9,M,rfl⟩:=hT 0 (by omega) x rfl;obtain⟨m,v,rfl⟩:=hT 1 (by omega) y rfl;obtain rfl:=UO.inj ((i 0 z0 rfl).symm.trans q0);obtain rfl:=UO.inj ((i 1 z1 rfl).symm.trans q1);obtain rfl:=UO.inj ((i 2 z2 rfl).symm.trans q2);obtain rfl:=UO.inj ((i 3 z3 rfl).symm.trans q3);obtain rfl:=UO.inj ((i 4 z4 rfl).symm.trans q4);obtain rfl:=UO.inj ((i 5 z5 rfl).symm.trans q5);obtain rfl:=UO.inj ((i 6 z6 rfl).symm.trans q6);obtain rfl:=UO.inj ((i 7 z7 rfl).symm.trans c7);obtain rfl:=UO.inj ((i 8 z8 rfl).symm.trans c8);obtain rfl:=UO.inj ((i 9 z9 rfl).symm.trans q9);obtain rfl:=UO.inj ((i 10 n rfl).symm.trans m);refine⟨hb,⟨a,b,c,d,e,f,g,⟨some (aZ J),k,k⟩,⟨some (aZ H),k,k⟩,M,v⟩,D,E,Z.heap.size,rfl,V1.1,V2.1,rfl,rfl,λb o e K=>by injection e with e;injection e with e _ _;subst e;exact V1.2 K,λb o e K=>by injection e with e;injection e with e _ _;subst e;exact V2.2 K,by omega,by omega,λj r=>?_,U⟩;obtain⟨u,l⟩:∃u,([a.v,b.v,c.v,d.v,e.v,f.v,g.v]++D++E++[M.v,v.v])[j]? = some u:=⟨_,UG (by omega)⟩
 exact⟨u,l,hF j u l⟩
theorem Mm{W:Ur}{u:Ut}{b:SP.Bs}(h:W.ownsRow B 5 1 u b.size (bC b)):Pt W u b:=by
 rcases id h with⟨-,⟨rfl,k⟩|⟨g,cap,cur,rfl,-⟩⟩
 ·exact⟨none,0,by rw[k],U4 k⟩
 ·exact⟨some (aZ g),cap,rfl,UX ⟨g,0,rfl,(jG h rfl).2.1,Dx h⟩⟩
theorem CP(p:Rg)(c b:List Ut)(k:Nat)(g:c.length=k)(l:b.length=k)(j:Nat)(m:j<k+k+9):(p.all c b)[j]? = (qY p c b)[if j<k+k+2 then 7+j else j-(k+k+2)]?:=by
 have f:p.all c b=(c++b++[p.x.v,p.y.v])++[p.a.v,p.b.v,p.c.v,p.d.v,p.e.v,p.f.v,p.g.v]:=rfl;have i:qY p c b=[p.a.v,p.b.v,p.c.v,p.d.v,p.e.v,p.f.v,p.g.v]++(c++b++[p.x.v,p.y.v]):=by unfold qY;simp only[Vx]
 have d:(c++b++[p.x.v,p.y.v]).length=k+k+2:=by rw[UA,UA,g,l];rfl
 rw[f,i];have e:[p.a.v,p.b.v,p.c.v,p.d.v,p.e.v,p.f.v,p.g.v].length=7:=rfl;generalize c++b++[p.x.v,p.y.v]=M at d;generalize [p.a.v,p.b.v,p.c.v,p.d.v,p.e.v,p.f.v,p.g.v]=H at e;split
 ·rw[UT (by omega),U1 (by omega),e,WN]
 ·rw[U1 (by omega),UT (by omega),d]
structure RdB(t:Nat)(BB:List SP.Bs)(e:Ut)(W:Ur):Prop where
 ex:∃(p:Rg) (l1 l2:List Ut),e=.agg p.cs.toArray/\VL W p.l.q p.l.n l1/\VL W p.r.q p.r.n l2/\p.l.n=t/\p.r.n=t/\∀j,j<t+t+9->∃u b,(qY p l1 l2)[j]? = some u/\BB[j]? = some b/\Pt W u b
theorem IF{BB:List SP.Bs}(k:mM t t BB)(W:Ur)(g c:Nat)(n:Pt W (sZ g (V5 (eU t BB (t+t+9))) c) (eU t BB (t+t+9)))(m:V5 (eU t BB (t+t+9))<=c):UH prog 14 #[sZ g (V5 (eU t BB (t+t+9))) c] W (rZ W λe W'=>∃e',e=.tuple #[e',iZ 0]/\RdB t BB e' W'):=by
 have I:=k.2.1;have H:=nJ k;have d:=vJ k (t+t+9) (Uw _);rw[xB]at d;obtain⟨f,hG⟩:=JX k;have i:∀j b,BB[j]? = some b->chk (eU t BB (t+t+9)) t j=b:=λj b=>MV k
 generalize eU t BB (t+t+9)=s at d f hG i n m;obtain⟨q,G,e,h|⟨F,o,a,z,A⟩⟩:=n
 ·omega
 injection e with e1 e2 e3
 rw[a]at e1;injection e1 with e1
 injection e1 with e1 e4 e5
 subst e1 e4;have:=LL s g c (by omega) m (by omega) W z A;rw[f]at this;refine this.mono λe W' h=>?_
 obtain⟨C,p,w,D,B,rfl,v1,v2,x,r,-,-,-,-,v,-⟩:=IG h hG;refine⟨_,rfl,C,_,rfl,⟨p,w,D,rfl,v1,v2,x,r,λj E=>?_⟩⟩;obtain⟨u,y,hf⟩:=v j E;have l:BB[j]? = some BB[j]:=UG (by omega);refine⟨u,_,y,l,?_⟩;have:=Mm hf.own;rw[i j _ l]at this;exact this
theorem RgA.same{G:Nat}{B Rb:Nat->SP.Bs}{w n:SP.Bs}{e':Ut}{W:Ur}(h:RgA G t p B Rb w n e W)(F:0<t)(J:t<=6)(I:RdB t (rgB t p B Rb w n) e' W):UH prog 7 #[e,e'] W (Ret λe W'=>e=.bool true/\kZ W W'):=by
 obtain⟨q,c,k,K,L,rfl,x,s,-,v1,v2,M,N,z⟩:=h.rg F;obtain⟨r,f,g,rfl,u,a,E,C,D⟩:=I.ex;refine(BO q r W v1 v2 u a (by omega) (by omega) (by omega) (by omega) λj m=>?_).mono ?_
 ·rw[x,s]at m;rw[CP q c k t (by rw[v1.len,x]) (by rw[v2.len,s]) j m,CP r f g t (by rw[u.len,E]) (by rw[a.len,C]) j m];obtain⟨i,y⟩:∃i,(if j<t+t+2 then 7+j else j-(t+t+2))=i:=⟨_,rfl⟩
  have l:i<t+t+9:=by
   rw[<-y];split<;>omega
  rw[y];obtain⟨v,b,hv,d,pv⟩:=D i l;have H:i<(qY q c k).length:=by rw[<-z.1];exact(UF.1 d).1
  have o:=UG H;exact⟨_,v,b,o,hv,z.2 i _ b o d,pv⟩
 ·rintro e W' ⟨rfl,d⟩;exact⟨_,rfl,rfl,d⟩
end
section
open Go.RowKit Go.Sort Go.Deep SPA
variable {P:Nat}[NeZero P]{N:Nat}
theorem Ag{P:VD}(w:Ur)(i sT p c:U8)(b o k e:Nat)(t:ByteArray)(l:P.underlying i=some (.slice c))(n:∀w,(Go.sizeOf c).run P w=.ok 1 w)
 (q:∀j,j<k->(w.cell? ⟨b,o+j,none⟩).isSome=true) (hf:∀j,j<k->w.frozen? ⟨b,o+j,none⟩=false) :
 (X1 #[i,sT] p #[.slice (some ⟨b,o,none⟩) k e,.string t]).run P w=.ok (goInt (XR t.size k)) (w.setCells b o ((t.data.toList.take k).map λx=>VZ .u8 (x.toNat:Int))):=by
 by_cases f:t.size<=k
 ·rw[run_copy_string w i sT p c b o k e t l n f (λj d=>q j (by omega)) (λj d=>hf j (by omega)),show XR t.size k=t.size from yBq f,Zb (by rw[<-yB2];exact f)]
 ·have d:XR t.size k=k:=Nat.min_eq_right (by omega);have m:((t.data.toList.take k).map λx=>VZ .u8 (x.toNat:Int)).length=k:=by rw[UQ,WH,<-yB2];omega
  have g:=run_storeCells_cells (P:=P) b o ((t.data.toList.take k).map λx=>VZ .u8 (x.toNat:Int)) 0 w (by rw[m];simpa using q) (by rw[m];simpa using hf) (by
   intro v hv;obtain⟨x,_,rfl⟩:=Vn.1 hv;rfl)
  rw[d];simp[X1,run_underlying l,Builtin.lenOf,Zj,n,d];rw[List.map_take]at g;rw[g];rfl
def fnB(f:Nat->UInt8):Bs:=Array.ofFn (n:=32) λi=>f i.val
theorem bJ(f:Nat->UInt8):(fnB f).size=32:=by unfold fnB;simp
theorem gB(f:Nat->UInt8)(j:Nat)(k:j<32):(fnB f)[j]! = f j:=by
 rw[getElem!_pos (fnB f) j (by rw[bJ];exact k)];unfold fnB;simp
def nm1(s:ByteArray)(j:Nat):UInt8:=if 2<=j/\j<30 then s.data.toList.getD (j-2) 0 else 0
def nm2(s:ByteArray)(n j:Nat):UInt8:=if j=30 then UM n else nm1 s j
def nm3(s:ByteArray)(n j:Nat):UInt8:=if j=31 then UM s.size else nm2 s n j
def nmB(s:ByteArray)(n:Nat):Bs:=fnB (nm3 s n)
theorem Qa(r:List UInt8)(h:r.length=30):beV (0 :: 0 :: r)<2^240:=by
 have e:beV (0 :: 0 :: r)=beV r:=rfl;rw[e];have:=Eg r;rw[h]at this;exact Ux this (by decide)
theorem O6(s:ByteArray)(n:Nat):beV (nmB s n).toList<2^240:=by
 have e:(nmB s n).toList=nm3 s n 0 :: nm3 s n 1 :: List.ofFn (n:=30) λi=>nm3 s n (i.val+2):=by
  unfold nmB fnB;rw[Zw,yBs,yBs];rfl
 have b:nm3 s n 0=0:=rfl;have k:nm3 s n 1=0:=rfl;rw[e,b,k];exact Qa _ (by simp)
theorem iU8:(prog.info? 5).map (·.size)=some 1:=by kernel_rfl
theorem Rj(s:ByteArray)(n:Nat)(w:Ur):UH prog 10 #[.string s,iZ n] w (rZ w λe w'=>ElQ (w.heap.size<=·) 32 w' e (nmB s n)):=by
 have y:=yBG (P:=prog) 23 5 (.int .u8 0) 1 SP.slice22 SP.info5 rfl .i64 .i64 32 (by omega) (by omega) w;have f:Holds encB (w.alloc (.cells (madeCells #[.int .u8 0] 32) 5)) w.heap.size 0 (UJ 32 0):=SP.Holds.made (enc:=encB) w 5 32 0;obtain⟨k,t⟩:∃k,Hid (w.heap.size=k):=⟨_,rfl⟩
 have q:w.heap.size<(w.alloc (.cells (madeCells #[.int .u8 0] 32) 5)).heap.size:=by rw[UB];exact YI _
 obtain⟨z,g⟩:∃W,Hid (w.alloc (.cells (madeCells #[.int .u8 0] 32) 5)=W):=⟨_,rfl⟩
 have b1:kZ w z:=by rw[<-g.out];exact aC _ _
 have D:(Instr.makeSlice 23 (iZ 32) (iZ 32)).run prog w=.ok (sZ k 32 32) z:=by rw[<-g.out,<-t.out];exact y
 rw[g.out,t.out]at f;rw[g.out,t.out]at q;clear y;have A:=Ag (P:=prog) z 23 9 3 5 k 2 28 30 s SP.slice22 SP.size5
  (λj b=>by rw[<-UD (2+j),(f (2+j) (by rw[UP];omega)).1];rfl) (λj b=>by rw[<-UD (2+j)];exact(f (2+j) (by rw[UP];omega)).2)
 obtain⟨a,d⟩:∃W,Hid (z.setCells k 2 ((s.data.toList.take 28).map λx=>VZ .u8 (x.toNat:Int))=W):=⟨_,rfl⟩
 have m:Holds encB a k 0 (fnB (nm1 s)):=by
  rw[<-d.out];refine SP.Holds.setCells (o:=0) (p:=2) f _ (by rw[bJ,UP]) (by rw[UQ,WH,UP];omega) (λj b=>?_) (λj b c=>?_)
  ·rw[UQ,WH]at b;rw[gB _ _ (by omega),Xf,yAS];unfold nm1;rw[yCl (by omega),WN,VQ,UG (by omega)];rfl
  ·rw[UP]at b;rw[UQ,WH]at c;rw[gB _ _ b,SP.rep_at 32 j b];unfold nm1;split
   ·rw[VQ,Wz (by omega)];rfl
   ·rfl
 obtain⟨B,i⟩:∃W,Hid (a.setCells k 30 [.int .u8 (XA.wrap (n:Int))]=W):=⟨_,rfl⟩
 have r:Holds encB B k 0 (fnB (nm2 s n)):=by
  rw[<-i.out];refine SP.Holds.setCells (o:=0) (p:=30) m _ (by rw[bJ,bJ]) (by rw[bJ];exact VR rfl) (λj b=>?_) (λj b c=>?_)
  ·have:j=0:=by simpa using b
   subst this;rw[gB _ _ (by decide),Hn];rfl
  ·rw[bJ]at b;rw[gB _ _ b,gB _ _ b];unfold nm2;rw[yCm (by simp at c;omega)]
 obtain⟨u,l⟩:∃W,Hid (B.setCells k 31 [.int .u8 (XA.wrap (s.size:Int))]=W):=⟨_,rfl⟩
 have v:Holds encB u k 0 (nmB s n):=by
  rw[<-l.out];refine SP.Holds.setCells (o:=0) (p:=31) r _ (by rw[show nmB s n=fnB (nm3 s n) from rfl,bJ,bJ]) (by rw[bJ];exact VR rfl) (λj b=>?_) (λj b c=>?_)
  ·have:j=0:=by simpa using b
   subst this;rw[show nmB s n=fnB (nm3 s n) from rfl,gB _ _ (by decide),Hn];rfl
  ·rw[bJ]at b;rw[show nmB s n=fnB (nm3 s n) from rfl,gB _ _ b,gB _ _ b];unfold nm3;rw[yCm (by simp at c;omega)]
 have C:kZ w u:=by
  rw[<-l.out,<-i.out,<-d.out];exact RG.below_setCells (by rw[t.out];exact Uw _) _ _ _ (RG.below_setCells (by rw[t.out];exact Uw _) _ _ _ (RG.below_setCells (by rw[t.out];exact Uw _) _ _ _ b1))
 have sz:k<u.heap.size:=by rw[<-l.out,<-i.out,<-d.out,setCells_size,setCells_size,setCells_size];exact q
 rw[d.out]at A;have T3:Hid (a.there k 30 1/\B.there k 31 1):=⟨λj b=>by
  have c:j=0:=by omega
  subst c;have:=m 30 (by rw[bJ];decide);exact⟨by rw[show(30+0:Nat)=0+30 from rfl,this.1];rfl,this.2⟩,λj b=>by
  have c:j=0:=by omega
  subst c;have:=r 31 (by rw[bJ];decide);exact⟨by rw[show(31+0:Nat)=0+31 from rfl,this.1];rfl,this.2⟩⟩
 have c:Hid (kZ w u/\ElQ (w.heap.size<=·) 32 u (sZ k 32 32) (nmB s n)):=⟨C,k,32,rfl,Uw _,bJ _,Nat.le_of_eq t.out,sz,v⟩
 clear f m r v C sz q b1 g d;go_enter func10,ntmps10;go_wp2_with (first|(refine fV rfl 5 (.tmp 14) _ rfl k 30 (.int .u8 (XA.wrap (n:Int))) ?_ ?_ rfl rfl T3.out.1 iU8 ?_;rfl;rfl;rw[i.out])|(refine fV rfl 5 (.tmp 19) _ rfl k 31 (.int .u8 (XA.wrap (s.size:Int))) ?_ ?_ rfl rfl T3.out.2 iU8 ?_;rfl;rfl;rw[l.out])|fail)
 go_ret;exact⟨_,rfl,c.out.1,c.out.2⟩
theorem MC(x n:Nat)(hx:x<18446744073709551616)(b:n<64):(Xd 64 (x:Int) &&& Xd 64 ((2^n-1:Nat):Int)).toNat=x%2^n:=by
 have k:2^n-1<2^64:=Ux (Nat.sub_lt (Nat.two_pow_pos n) (by decide)) (VA (by decide) (by omega));rw[Ze,Ze,BitVec.toNat_and,YG,YG,US (show x<2^64 from hx),US k,Nat.and_two_pow_sub_one_eq_mod]
def vbF(v i j:Nat):UInt8:=if 31-j<i then UM (v/2^(8*(31-j))) else 0
theorem Qv(v:Nat)(hv:v<18446744073709551616):fnB (vbF v 8)=bx v:=by
 apply yBT;unfold bx;rw[Am,US hv,Xg hv,Xg (show v<340282366920938463463374607431768211456 by omega),Xg (show v<6277101735386680763835789423207666416102355444464034512896 by omega)];have e:UM v=UM (v/1):=by rw[Nat.div_one]
 rw[e];unfold fnB;rw[Zw];rfl
theorem KX(v:Nat):fnB (vbF v 0)=UJ 32 0:=by
 apply yBT;unfold fnB;rw[Zw];rfl
theorem KY{W:Ur}{k v:Nat}(e:i<8)(h:Holds encB W k 0 (fnB (vbF v i))):Holds encB (W.setCells k (31-i) [.int .u8 (XA.wrap ((v/2^(8*i):Nat):Int))]) k 0 (fnB (vbF v (i+1))):=by
 rw[show 31-i=0+(31-i) by omega];refine SP.Holds.setCells (o:=0) (p:=31-i) h _ (by rw[bJ,bJ]) (by rw[bJ];simp only[Vj,WI];omega) (λj c=>?_) (λj c d=>?_)
 ·have:j=0:=by simpa using c
  subst this;rw[gB _ _ (by omega),Hn];unfold vbF;rw[yCl (by omega),show 31-(31-i+0)=i by omega];rfl
 ·rw[bJ]at c;rw[gB _ _ c,gB _ _ c];simp only[Vj,WI]at d;unfold vbF;by_cases b:31-j<i
  ·rw[yCl b,yCl (by omega)]
  ·rw[yCm b,yCm (by omega)]
theorem Rk{N:Nat}(O:Ord N)(f:2^240<=N)(s:ByteArray)(n:Nat):∃k:Fin N,nmB s n=bx k.val:=by
 have c:=Ux (O6 s n) f;have e:(nmB s n).size=32:=bJ _;generalize nmB s n=b at c e;obtain⟨m,d⟩:∃m,beV b.toList=m:=⟨_,rfl⟩
 rw[d]at c;exact⟨⟨m,c⟩,(SD e (Ux c O.le) d).symm⟩
theorem wd4(z:Int)(k:¬z<0):∃t:Nat,3<=t/\t<=6/\(z%4).toNat=t-3/\wrap64 (8*2^(z%4).toNat)=((2^t:Nat):Int):=by
 refine⟨(z%4).toNat+3,by omega,by omega,by omega,?_⟩;have:(z%4).toNat<4:=by omega
 generalize (z%4).toNat=t at this;match t,this with
 | 0,_=>decide +kernel
 | 1,_=>decide +kernel
 | 2,_=>decide +kernel
 | 3,_=>decide +kernel
 | n+4,h=>omega
def sdF(s:ByteArray)(j:Nat):UInt8:=s.data.toList.getD j 0
theorem sd_holds{W:Ur}{k:Nat}(s:ByteArray)(h:Holds encB W k 0 (UJ 32 0)):Holds encB (W.setCells k 0 ((s.data.toList.take 32).map λx=>VZ .u8 (x.toNat:Int))) k 0 (fnB (sdF s)):=by
 refine SP.Holds.setCells (o:=0) (p:=0) h _ (by rw[bJ,UP]) (by rw[UQ,WH,UP];omega) (λj b=>?_) (λj b c=>?_)
 ·rw[UQ,WH]at b;rw[gB _ _ (by omega),Xf,yAS];unfold sdF;rw[UD,VQ,UG (by omega)];rfl
 ·rw[UP]at b;rw[UQ,WH]at c;rw[gB _ _ b,SP.rep_at 32 j b];unfold sdF;rw[VQ,Wz (by omega)];rfl
def TrK(d:Bs)(m:List UInt8)(n t x:Nat):Prop:=∃(V:Bs) (j:Rp) (i Rb:Nat->Bs) (f b:Bs),
 (∀(v0 v1:Ut) (W:Ur),Arg W v0 (bx x)->Arg W v1 d->UH prog 11 #[v0,v1] W (rZ W λe W'=>∃g c,e=.tuple #[sZ g 33 c,iZ 0]/\Arg33 W' (sZ g 33 c) V)) /\
 (∀(l:Option Ww) (sc:Nat) (v1:Ut) (w:Ur),Arg w v1 d->PartOk w (.slice l 32 sc) m->UH prog 5 #[uZ x,v1,iZ n,.slice l 32 sc] w (rZ w λe w'=>∃e' k,e=.tuple #[e',iZ 0]/\w.heap.size<=k/\RgA k t j i Rb f b e' w')) /\
 ∀(k:Nat) (e v0:Ut) (w:Ur),Arg33 w v0 V->RgA k t j i Rb f b e w->UH prog 12 #[v0,iZ n,e] w (rZ w λe w'=>e=.bool true)
theorem Sy{P:Nat}[NeZero P]{N:Nat}(C:Fld P)(O:Ord N){n m:Nat}{k:Bs}(i:rq N k=some n)(d:rq N b=some m)(v0 v1:Ut)(W:Ur)(a0:Arg W v0 k)(o:Arg W v1 b):UH prog 11 #[v0,v1] W (rZ W λe W'=>∃g c,e=.tuple #[sZ g 33 c,iZ 0]/\Arg33 W' (sZ g 33 c) (wr (cmt P n m))):=by
 refine(CY C O.gap O.le v0 v1 k b W a0 o).mono ?_;rintro e W' ⟨v,rfl,l,hR⟩;unfold Bt at hR;rw[i,d]at hR;obtain⟨g,c,rfl,j,q,f,p⟩:=hR;exact⟨_,rfl,l,g,c,rfl,some (aZ g),33,c,rfl,aT _,λ_=>⟨g,0,rfl,j,f,p⟩⟩
theorem trk{P:Nat}[NeZero P]{N:Nat}[NeZero N](C:Fld P)(O:Ord N)(b:∀r:EC.Pt P,On r->mul N r=none)(w:IsP N)(i:2^240<=N)(s:ByteArray)(g:List UInt8){n:Nat}(f:Wd n t)(x:Nat)(hx:x<2^n):TrK (nmB s 0) g n t x:=by
 have c:18446744073709551616<=N:=UC (by decide) i;have e:n<=64:=by rw[f.1];exact UC (VA (by decide) f.2.2) (by decide)
 have d:x<18446744073709551616:=Ux hx (UC (VA (by decide) e) (by decide));obtain⟨k,v⟩:=Rk O i s 0;rw[v];obtain⟨V,a,y,Rb,u,l,z,o,m⟩:=Lv C O b w c f x hx k g;have j:(ofF N x).val=x:=US (Ux d c);have q:wr (cmt P x k.val)=V:=by rw[z,<-yB C b (ofF N x) k,j]
 refine⟨V,a,y,Rb,u,l,λv0 v1 W a0 p=>?_,o,m⟩;rw[<-q];exact Sy C O (kJ O (Ux d c)) (kJ O k.isLt) v0 v1 W a0 p
end
section
open Go.RowKit Go.Sort Go.Deep SPA
section
variable {P:VD}{Q:Exit->Act->Ur->Prop}{a:Act}{w:Ur}{c y:Code}
theorem Ho(C:Int->Prop)(h:c.wp P (λe b w'=>e=.normal/\w'=w/\∃z p q r,C z/\b=(((a.put (some 26) p).put (some 27) q).put (some 28) r).put (some 1) (iZ z)) a w)(k:∀z p q r,C z->y.wp P Q ((((a.put (some 26) p).put (some 27) q).put (some 28) r).put (some 1) (iZ z)) w):c.wp P (Exit.then (y.wp P Q) Q) a w:=
 wp_mono h λe b w' ⟨g,i,z,p,q,r,f,d⟩=>by
  subst g i d;exact k z p q r f
theorem Hp(C:Nat->Prop)(h:c.wp P (λe b w'=>e=.normal/\w'=w/\∃x p q r s u,C x/\b=(((((a.put (some 34) p).put (some 35) q).put (some 36) r).put (some 37) s).put (some 38) u).put (some 0) (uZ ((x:Nat):Int))) a w)(k:∀x p q r s u,C x->y.wp P Q ((((((a.put (some 34) p).put (some 35) q).put (some 36) r).put (some 37) s).put (some 38) u).put (some 0) (uZ ((x:Nat):Int))) w):c.wp P (Exit.then (y.wp P Q) Q) a w:=
 wp_mono h λe b w' ⟨g,i,x,p,q,r,s,u,f,d⟩=>by
  subst g i d;exact k x p q r s u f
theorem Hq(C:Nat->Prop)(h:c.wp P (λe b w'=>e=.normal/\w'=w/\∃n p q r,C n/\b=(((a.put (some 29) p).put (some 30) q).put (some 31) r).put (some 9) (iZ ((n:Nat):Int))) a w)(k:∀n p q r,C n->y.wp P Q ((((a.put (some 29) p).put (some 30) q).put (some 31) r).put (some 9) (iZ ((n:Nat):Int))) w):c.wp P (Exit.then (y.wp P Q) Q) a w:=
 wp_mono h λe b w' ⟨g,i,z,p,q,r,f,d⟩=>by
  subst g i d;exact k z p q r f
theorem wM(x n:Nat)(hx:x<18446744073709551616)(k:n<64):(yCb .and .u64 (x:Int) ((2^n-1:Nat):Int)).run P w=.ok (uZ ((x%2^n:Nat):Int)) w:=by
 have e:yCb .and .u64 (x:Int) ((2^n-1:Nat):Int)=pure (uZ (Vo.wrap ((Xd 64 (x:Int) &&& Xd 64 ((2^n-1:Nat):Int)).toNat:Int))):=rfl;rw[e,MC x n hx k,wrapN _ (Nat.lt_of_le_of_lt (Nat.mod_le _ _) hx)];rfl
end
theorem RdB.below{BB:List Bs}{W:Ur}(h:RdB t BB e W)(k:kZ W W'):RdB t BB e W':=by
 obtain⟨p,f,n,q,v1,v2,g,c,d⟩:=h.ex;refine⟨p,f,n,q,v1.below k,v2.below k,g,c,λj o=>?_⟩;obtain⟨u,b,l,i,m⟩:=d j o;exact⟨u,b,l,i,m.below k⟩
theorem RdB.cl{BB:List Bs}{W:Ur}(h:RdB t BB e W):∃cs:List Ut,Hid (.agg cs.toArray=e)/\cs.length=11/\cs.toArray.all (·.oneCell')=true:=by
 obtain⟨p,b,k,rfl,-⟩:=h.ex;exact⟨p.cs,rfl,rfl,by simp only[Yc,Rg.cs,rgC,Sv.v,Zv,ZM];rfl⟩
theorem RgA.cl{l:Nat->Bs}{j k:Bs}{W:Ur}(h:RgA g t p l Rb j k e W)(f:0<t):∃cs:List Ut,Hid (.agg cs.toArray=e)/\cs.length=11/\cs.toArray.all (·.oneCell')=true/\∃q c,cs[0]? = some (.slice q 33 c):=by
 obtain⟨q,d,b,m,n,rfl,-,-,i,-⟩:=h.rg f;exact⟨q.cs,rfl,rfl,by simp only[Yc,Rg.cs,rgC,Sv.v,Zv,ZM];rfl,q.a.q,q.a.c,by rw[<-i];rfl⟩
theorem LN{P:VD}{w:Ur}(x m:Nat)(k:m<=64):(Op.shift .shr .u64 (x:Int) .i64 (m:Int)).run P w=.ok (uZ ((x/2^m:Nat):Int)) w:=by
 have e:(x:Int).fdiv (2^min (m:Int).toNat 64)=((x/2^m:Nat):Int):=by
  rw[Int.toNat_natCast,yBq k,Int.fdiv_eq_ediv_of_nonneg _ (Int.pow_nonneg (by decide))];simp
 unfold Op.shift;rw[yCm (by omega)];show(pure (uZ ((x:Int).fdiv (2^min (m:Int).toNat 64))):Sem Ut).run P w=_;rw[e];rfl
theorem TU(k j:Nat)(b:j<32)(w:Ur):(Vl 23 (sZ k 32 32) (iZ j)).run prog w=.ok (oZ k j) w:=by
 have c:¬(j:Int)<0:=by omega
 have d:(j:Int)<32:=by omega
 go_simp
theorem uSb:(prog.underlying 23).map (·.isRow)=some false:=kR
theorem Ov(s sd:ByteArray)(l:Nat)(p:l<18446744073709551616)(z0:Int)(kc:-9223372036854775808<=z0)(h4:z0<=9223372036854775807)(w:Ur)(hK:∀n t x,Wd n t->x<2^n->TrK (nmB s 0) (fnB (sdF sd)).toList n t x):
 UH prog 4 #[uZ l,iZ z0,.string s,.string sd] w (rZ w λe w'=>e=.bool true):=by
 have HK:=mk1 hK;clear hK;go_enter func4,ntmps4;refine Uz ?_;refine PW.begin ?_;refine PW.va (.bool false) ?_;refine PW.dn ?_;refine Uz ?_;refine Uz ?_;refine PW.begin ?_;refine PW.mv ?_;refine PW.va (.bool (decide (z0<0))) ?_;refine PW.dn ?_;refine Ho (λz=>¬z<0/\z<=9223372036854775807) ?_ ?_
 ·by_cases hz:z0<0
  ·rw[decide_eq_true hz];go_wp2;omega
  ·rw[decide_eq_false hz];go_wp2
 clear kc h4;rintro z km kf kd ⟨hz,h4⟩;simp only[UN,Us,Uu,Uv];obtain⟨t,kb,D,-,hk⟩:=wd4 z hz;have hw:Wd (2^t) t:=⟨rfl,kb,D⟩
 obtain⟨n,hn⟩:=hE (2^t);rw[hn.out]at hk hw;refine Uz ?_;refine Hq (λm=>m=n) ?_ ?_
 ·go_wp2
 clear hk hz h4;intro m kl kh kn hm;rw[hm];clear hm m;simp only[UN,Us,Uu,Uv];refine Uz ?_;refine Uz ?_;refine PW.begin ?_;refine PW.mv ?_;refine PW.va (.bool (decide ((n:Int)<64))) ?_;refine PW.dn ?_;refine Hp (λx=>x<2^n) ?_ ?_
 ·rcases(show t=3\/t=4\/t=5\/t=6 by omega)with rfl|rfl|rfl|rfl
  ·obtain rfl:n=8:=hn.out.symm;refine VE rfl ?_;refine PW.begin ?_;refine PW.mv ?_;refine PW.mv ?_;refine PW.va (uZ 256) ?_;refine PW.va (uZ 255) ?_;refine PW.ns (wM l 8 p (by decide)) ?_;refine PW.va (uZ ((l%2^8:Nat):Int)) ?_;refine PW.dn ?_;exact⟨rfl,rfl,l%2^8,_,_,_,_,_,V7 _ (by decide),rfl⟩
  ·obtain rfl:n=16:=hn.out.symm;refine VE rfl ?_;refine PW.begin ?_;refine PW.mv ?_;refine PW.mv ?_;refine PW.va (uZ 65536) ?_;refine PW.va (uZ 65535) ?_;refine PW.ns (wM l 16 p (by decide)) ?_;refine PW.va (uZ ((l%2^16:Nat):Int)) ?_;refine PW.dn ?_;exact⟨rfl,rfl,l%2^16,_,_,_,_,_,V7 _ (by decide),rfl⟩
  ·obtain rfl:n=32:=hn.out.symm;refine VE rfl ?_;refine PW.begin ?_;refine PW.mv ?_;refine PW.mv ?_;refine PW.va (uZ 4294967296) ?_;refine PW.va (uZ 4294967295) ?_;refine PW.ns (wM l 32 p (by decide)) ?_;refine PW.va (uZ ((l%2^32:Nat):Int)) ?_;refine PW.dn ?_;exact⟨rfl,rfl,l%2^32,_,_,_,_,_,V7 _ (by decide),rfl⟩
  ·obtain rfl:n=64:=hn.out.symm;refine VI rfl ?_;refine WU ?_;exact⟨rfl,rfl,l,_,_,_,_,_,p,rfl⟩
 clear p hn;intro x kr ke kt ko kp hx;simp only[UN,Us,Uu,Uv];have ha:n<=64:=by rw[hw.1];exact UC (VA (by decide) hw.2.2) (by decide)
 have k2:x<18446744073709551616:=Ux hx (UC (VA (by decide) ha) (by decide));obtain⟨V,pz,Lb,Rb,Ab,Bb,hC,hP,hV⟩:=HK.out n t x hw hx;have HC:=mk3 hC hP hV;clear hC hP hV HK hx hw ha;refine Uz ?_;refine PW.begin ?_;refine PW.mv ?_;refine PW.ca (Rj s 0 w) ?_;rintro x1 v ⟨h6,k1⟩;simp only[UN,Us,Uu,Uv];refine PW.va x1 ?_;refine PW.dn ?_;refine hG v.heap.size λr c=>?_
 refine hG (v.alloc (.cells (madeCells #[.int .u8 0] 32) 5)) λW2 hs=>?_
 have m2:=Rx v;have g:Holds encB (v.alloc (.cells (madeCells #[.int .u8 0] 32) 5)) v.heap.size 0 (UJ 32 0):=SP.Holds.made (enc:=encB) v 5 32 0;have b2:=aC v (.cells (madeCells #[.int .u8 0] 32) 5);have s2:v.heap.size<(v.alloc (.cells (madeCells #[.int .u8 0] 32) 5)).heap.size:=by rw[UB];exact YI _
 rw[hs.out]at m2 g b2 s2;rw[c.out]at m2 g;refine Uz ?_;refine PW.begin ?_;refine PW.ns m2 ?_;refine PW.va (sZ r 32 32) ?_;refine PW.dn ?_;clear m2;have cp:=Ag (P:=prog) W2 23 9 3 5 r 0 32 32 sd SP.slice22 SP.size5 (λj hj=>by rw[(g j (by rw[UP];exact hj)).1];rfl) (λj hj=>(g j (by rw[UP];exact hj)).2);have h5:=sd_holds sd g;refine hG (W2.setCells r 0 ((sd.data.toList.take 32).map λx=>VZ .u8 (x.toNat:Int))) λb H=>?_
 have b3:kZ v b:=by rw[<-H.out];exact RG.below_setCells (by rw[c.out];exact Uw _) _ _ _ b2
 have s3:r<b.heap.size:=by rw[<-H.out,setCells_size,<-c.out];exact s2
 rw[H.out]at cp h5;refine Uz ?_;refine PW.begin ?_;refine PW.mv ?_;refine PW.mv ?_;refine PW.ns cp ?_;refine PW.dn ?_;clear cp g;have aK:=k1.argS.below b3;have pK:=qX h5 (bJ _);have hg:=h6.trans (b3.mono h6.size);have A3:=mk3 aK pK hg;clear aK pK hg k1 h6 b2 b3 s2 s3 h5 c hs H;refine hG b.heap.size λk u=>?_
 refine hG (b.alloc (.cells (madeCells #[.int .u8 0] 32) 5)) λW4 ht=>?_
 have m4:=Rx b;have G:Holds encB (b.alloc (.cells (madeCells #[.int .u8 0] 32) 5)) b.heap.size 0 (UJ 32 0):=SP.Holds.made (enc:=encB) b 5 32 0;have b4:=aC b (.cells (madeCells #[.int .u8 0] 32) 5);have s4:b.heap.size<(b.alloc (.cells (madeCells #[.int .u8 0] 32) 5)).heap.size:=by rw[UB];exact YI _
 rw[ht.out]at m4 G b4 s4;rw[u.out]at m4 G;refine Uz ?_;refine PW.begin ?_;refine PW.ns m4 ?_;refine PW.va (sZ k 32 32) ?_;refine PW.dn ?_;have K0:Hid (kZ b W4/\k<W4.heap.size/\Holds encB W4 k 0 (fnB (vbF x 0))):=⟨b4,by rw[<-u.out];exact s4,by rw[KX];exact G⟩
 clear m4 G b4 s4 ht;refine Uz ?_;refine Uz ?_;refine PW.begin ?_;refine PW.va (iZ 0) ?_;refine PW.dn ?_;refine wp_block ?_;go_loopg [13] 8 (λgk s13 wr=>∃i:Nat,i+gk=8/\s13=iZ i/\Hid (kZ b wr/\k<wr.heap.size/\Holds encB wr k 0 (fnB (vbF x i))))
 case atStart=>exact⟨0,by omega,rfl,K0⟩
 case round =>
  clear K0;obtain⟨i,k8,rfl,W⟩:=hrel;by_cases hi:i<8
  ·have B:(i:Int)<8:=by omega
   have y:VS.wrap (31-(i:Int))=((31-i:Nat):Int):=by rw[Yl];omega
   have A:VS.wrap (8*(i:Int))=((8*i:Nat):Int):=by rw[Yl];omega
   have a:VS.wrap ((i:Int)+1)=((i+1:Nat):Int):=by rw[Yl];omega
   have o:=TU k (31-i) (by omega) wr;have f:=LN (P:=prog) (w:=wr) x (8*i) (by omega);have th:wr.there k (31-i) 1:=λj hj=>by
    obtain rfl:j=0:=by omega
    have:=W.out.2.2 (31-i) (by rw[bJ];omega);rw[UD]at this;exact⟨by rw[XD,this.1];rfl,this.2⟩
   refine hG (wr.setCells k (31-i) [.int .u8 (XA.wrap ((x/2^(8*i):Nat):Int))]) λq d=>?_
   have C:Hid (kZ b q/\k<q.heap.size/\Holds encB q k 0 (fnB (vbF x (i+1)))):=by
    rw[<-d.out];exact⟨RG.below_setCells (by rw[u.out];exact Uw _) _ _ _ W.out.1,by rw[setCells_size];exact W.out.2.1,KY hi W.out.2.2⟩
   clear W;refine Uz ?_;refine Uz ?_;refine PW.begin ?_;refine PW.mv ?_;refine PW.va (.bool (decide ((i:Int)<8))) ?_;rw[decide_eq_true B];refine PW.dn ?_;refine VE rfl ?_;refine WU ?_;refine Uz ?_;refine wp_block ?_;refine PW.begin ?_;refine PW.mv ?_;refine PW.mv ?_;refine PW.va (iZ (VS.wrap (31-(i:Int)))) ?_;rw[y];refine PW.mv ?_;refine PW.mv ?_;refine PW.va (iZ (VS.wrap (8*(i:Int)))) ?_;rw[A];refine PW.ns f ?_;refine PW.va (.int .u8 (XA.wrap ((x/2^(8*i):Nat):Int))) ?_;refine PW.ns o ?_;refine fV rfl 5 _ _ rfl k (31-i) (.int .u8 (XA.wrap ((x/2^(8*i):Nat):Int))) rfl rfl rfl rfl th iU8 ?_;rw[d.out];refine PW.dn ?_;refine PW.begin ?_;refine PW.mv ?_;refine PW.va (iZ (VS.wrap ((i:Int)+1))) ?_;rw[a];go_wp2;go_roundg (gk-1)
   case measure=>omega
   case rel=>exact⟨i+1,by omega,rfl,C⟩
  ·have B:¬(i:Int)<8:=by omega
   refine Uz ?_;refine Uz ?_;refine PW.begin ?_;refine PW.mv ?_;refine PW.va (.bool (decide ((i:Int)<8))) ?_;rw[decide_eq_false B];refine PW.dn ?_;refine VI rfl ?_;refine wp_exit ?_;have h0:0<t:=by omega
   have S:Hid (Arg wr (sZ k 32 32) (bx x)/\Arg wr x1 (nmB s 0)/\PartOk wr (sZ r 32 32) (fnB (sdF sd)).toList/\kZ w wr):=by
    obtain⟨d,o,f⟩:=W.out;rw[show i=8 by omega,Qv x k2]at f;exact⟨⟨_,32,32,rfl,eE _,λ_=>⟨k,0,rfl,Uw _,o,f⟩⟩,A3.out.1.below d,A3.out.2.1.below d,A3.out.2.2.trans (d.mono A3.out.2.2.size)⟩
   clear W A3 k8 hi B;refine Uz (P:=prog) ?_;refine PW.begin ?_;refine PW.mv ?_;refine PW.mv ?_;refine PW.ca (HC.out.1 _ _ wr S.out.1 S.out.2.1) ?_;rintro e W6 ⟨A,hp,hr,rfl,h9⟩;simp only[UN,Us,Uu,Uv];refine PW.mv ?_;refine PW.va (sZ hp 33 hr) ?_;refine PW.va (iZ 0) ?_;refine PW.va (sZ hp 33 hr) ?_;refine PW.va (iZ 0) ?_;refine PW.dn ?_;have A6:=mk3 (S.out.2.1.below A) (S.out.2.2.1.below A) (S.out.2.2.2.trans (A.mono S.out.2.2.2.size));clear S;refine Uz ?_;refine PW.begin ?_;refine PW.mv ?_;refine PW.mv ?_;refine PW.mv ?_;refine PW.mv ?_;refine PW.ca (HC.out.2.1 _ _ _ W6 A6.out.1 A6.out.2.1) ?_;rintro e W7 ⟨U,e7,B0,rfl,-,hR⟩;simp only[UN,Us,Uu,Uv];obtain⟨cs,C,Z,k7,q0,c0,k5⟩:=hR.cl h0;have a7:=h9.below U;have B7:=mk1 (A6.out.2.2.trans (U.mono A6.out.2.2.size));clear A6 A U h9;refine hG W7.heap.size λhb J=>?_
   refine hG (W7.alloc (.cells z11.toArray 28)) λW8 Y=>?_
   refine hG (W8.setCells hb 0 cs) λW9 T=>?_
   have K8:=mk1 ((Mp.start W7).new J Y);have K9:=mk1 (K8.out.put 0 T rfl (by rw[Z];rfl));have a:(prog.info? 28).map (·.size)=some cs.length:=by rw[Z];exact iAr
   refine PW.mv ?_;refine PW.va e7 ?_;refine PW.va (iZ 0) ?_;refine PW.al J Y ?_;refine PW.st T C (K8.out.th 0 rfl (by rw[Z];rfl)) a k7 ?_;refine PW.va (iZ 0) ?_;refine PW.dn ?_;refine Uz ?_;refine PW.begin ?_;refine PW.mv ?_;refine PW.mv ?_;refine PW.ro (K9.out.at_ 0).2.1 C uAr a ?_;refine PW.gi (HC.out.2.2 B0 e7 _ W9 (a7.below K9.out.bl) (hR.below K9.out.bl)) λkj L=>?_
   have E:=mk1 (K9.out.grow L);clear K8 K9 L HC a7 Y T;refine PW.va (.bool true) ?_;refine PW.dn ?_;have y:=hR.below E.out.bl;refine Uz ?_;refine PW.begin ?_;refine PW.ro (E.out.at_ 0).2.1 C uAr a ?_;refine PW.ca (y.put h0 D) ?_;rintro e k4 ⟨N,ki,rfl,hpt,X,O,rfl,M⟩;have h7:=IF (y.good D) k4 X O hpt M;generalize V5 (eU t (rgB t pz Lb Rb Ab Bb) (t+t+9))=hc at h7;clear hpt M y;have h8:=mk1 (E.out.grow N);clear E N;simp only[UN,Us,Uu,Uv];refine PW.mv ?_;refine PW.va (sZ X hc O) ?_;refine PW.va (iZ 0) ?_;refine PW.va (sZ X hc O) ?_;refine PW.va (iZ 0) ?_;refine PW.dn ?_;refine Uz ?_;refine PW.begin ?_;refine PW.mv ?_;refine PW.ca h7 ?_;rintro e R ⟨I,k9,rfl,hD⟩;simp only[UN,Us,Uu,Uv];have he:=mk1 (h8.out.grow I);clear h8 I h7;obtain⟨ds,hu,F,k3⟩:=hD.cl;refine hG R.heap.size λka o=>?_
   refine hG (R.alloc (.cells z11.toArray 28)) λk6 d=>?_
   refine hG (k6.setCells ka 0 ds) λkk f=>?_
   have Q:=mk1 (he.out.new o d);have q:=mk1 (Q.out.put 1 f rfl (by rw[F];rfl));have k0:(prog.info? 28).map (·.size)=some ds.length:=by rw[F];exact iAr
   have hl:=hD.below ((((Mp.start R).new o d).put 0 f rfl (by rw[F];rfl)).bl);refine PW.mv ?_;refine PW.va k9 ?_;refine PW.va (iZ 0) ?_;refine PW.al o d ?_;refine PW.st f hu (Q.out.th 1 rfl (by rw[F];rfl)) k0 k3 ?_;refine PW.va (iZ 0) ?_;refine PW.dn ?_;have hy:=(hR.below q.out.bl).same h0 D hl;clear he Q hD hl hR d f;refine Uz ?_;refine PW.begin ?_;refine PW.ro (q.out.at_ 0).2.1 C uAr a ?_;refine PW.ro (q.out.at_ 1).2.1 hu uAr k0 ?_;refine PW.ca hy ?_;rintro e kg ⟨rfl,K⟩;have hq:=mk1 (q.out.grow K);clear q K hy;simp only[UN,Us,Uu,Uv];refine PW.va (.bool true) ?_;refine PW.dn ?_;refine Uz ?_;refine PW.begin ?_;refine PW.mv ?_;refine PW.va (.bool true) ?_;refine PW.mv ?_;refine PW.gd ?_;refine PW.mv ?_;refine PW.gd ?_;refine PW.va (.bool true) ?_;refine PW.va (.bool true) ?_;refine PW.mv ?_;refine PW.gd ?_;refine PW.mv ?_;refine PW.gd ?_;refine PW.va (.bool true) ?_;refine PW.va (.bool true) ?_;refine PW.mv ?_;refine PW.gd ?_;refine PW.mv ?_;refine PW.gd ?_;refine PW.va (.bool true) ?_;refine PW.va (.bool true) ?_;refine PW.mv ?_;refine PW.gd ?_;refine PW.va (jZ hb) ?_;refine PW.gd ?_;refine PW.ce ((hq.out.at_ 0).2.1 0 _ k5) uSb ?_;refine PW.gd ?_;refine PW.va (iZ 33) ?_;refine PW.gd ?_;refine PW.va (.bool true) ?_;refine PW.va (.bool true) ?_;refine PW.mv ?_;refine PW.gd ?_;refine PW.mv ?_;refine PW.va (.bool true) ?_;refine PW.mv ?_;refine PW.gd ?_;refine PW.mv ?_;refine PW.va (.bool true) ?_;refine PW.va (.bool true) ?_;refine PW.dn ?_;go_wp2;go_ret;exact⟨_,rfl,B7.out.trans (hq.out.bl.mono B7.out.size),rfl⟩
end
section
open Go.RowKit Go.Sort Go.Deep
variable {P:Nat}[NeZero P]{N:Nat}
theorem fld:∃(P:Nat) (_:NeZero P),Fld P:=by
 obtain⟨P,f,g,i⟩:=cur;have j:P=Go.Proofs.YtdoammpgchejcaaGreat.p0:=by rw[g];decide +kernel
 have c:=T8;have b:2<=Go.Proofs.YtdoammpgchejcaaGreat.p0%18446744073709551616:=by decide +kernel
 have e:Go.Proofs.YtdoammpgchejcaaGreat.p0/4%18446744073709551616<18446744073709551615:=by decide +kernel
 have k:Go.Proofs.YtdoammpgchejcaaGreat.p0%4=3:=by decide +kernel
 have d:7<Go.Proofs.YtdoammpgchejcaaGreat.p0:=by decide +kernel
 rw[<-j]at c b e k d;exact⟨P,f,⟨c,i,b,e,k,d⟩⟩
end
namespace EC
variable {P:Nat}[NeZero P]
def fo{α:Type}(x:Fin P)(f:Fin P->α):α:=
 match x.val with
 | 0=>f (Xj P 0)
 | n+1=>f (Xj P (n+1))
theorem Si{α:Type}(x:Fin P)(f:Fin P->α):fo x f=f x:=by
 have hx:Xj P x.val=x:=Fin.ext (US x.isLt);unfold fo;split
 ·next h=>rw[h]at hx;rw[hx]
 ·next n h=>rw[h]at hx;rw[hx]
def runs(u v:Fin P)(e:Nat):Nat->Fin P->Fin P->Fin P->Bool
 | 0,_,_,z=>decide (z=0)
 | k+1,x,y,z=>fo (twX x y) λX=>fo (twY x y) λY=>fo (twZ y z) λZ =>
  if e/2^k%2=1 then
   if Z=0 then false else
   fo (cN X 1) λd=>fo (eK Y 1) λf=>fo (cN u Z) λbx=>fo (eK v Z) λg =>
   if d=bx/\f=g then false else
   fo (plX d f bx g) λa=>fo (plY d f bx g) λb=>fo (plZ Z 1 d bx) λc=>runs u v e k a b c
  else runs u v e k X Y Z
theorem DD(C:Cur P):(1:Fin P)≠0:=λh=>C.two (by
 calc (2:Fin P)=2*1:=by grobner
  _=0:=by rw[h];grobner)
theorem AK(C:Cur P){u v:Fin P}(c:On (some (u,v)))(e:Nat):∀(k m:Nat) (x y z:Fin P),Jac x y z (mul m (some (u,v)))->runs u v e k x y z=true->mul (m*2^k+e%2^k) (some (u,v))=none
 | 0,m,x,y,z,hj,h=>by
  have b:=of_decide_eq_true h;rw[Nat.pow_zero,yAY,Nat.mul_one,XD];exact hj.zero C b
 | k+1,m,x,y,z,hj,h=>by
  have p:=cG C c m;have i:=hj.twice C p;rw[<-mul_add C c]at i;have n:e%2^(k+1)=e/2^k%2*2^k+e%2^k:=by
   rw[V9,Nat.mod_mul,Vv (2^k) (e/2^k%2),Nat.add_comm]
  have o:2^(k+1)=2*2^k:=by rw[V9,Vv]
  unfold runs at h;simp only[Si]at h;by_cases b:e/2^k%2=1
  ·rw[yCl b]at h;by_cases l:twZ y z=0
   ·rw[yCl l]at h;cases h
   ·rw[yCm l]at h;have f:Jac u v 1 (some (u,v)):=⟨DD C,by grobner,by grobner⟩
    rcases i.plus C (cG C c _) f c l (DD C)with⟨j,g,-⟩|⟨j,g⟩
    ·rw[yCl ⟨j,g⟩]at h;cases h
    ·rw[yCm j]at h;have d:=AK C c e k (m+m+1) _ _ _ g h;rw[n,b,o];rw[show m*(2*2^k)+(1*2^k+e%2^k)=(m+m+1)*2^k+e%2^k by
      rw[XH,XH,<-X5,Vv m 2,yBU,XH];omega]
     exact d
  ·rw[yCm b]at h;have f:e/2^k%2=0:=oM;have d:=AK C c e k (m+m) _ _ _ i h;rw[n,f,o];rw[show m*(2*2^k)+(0*2^k+e%2^k)=(m+m)*2^k+e%2^k by
    rw[<-X5,Vv m 2,yBU];omega]
   exact d
def pL:Nat:=115792089237316195423570985008687907853269984665640564039457584007908834671663
def nL:Nat:=115792089237316195423570985008687907852837564279074904382605163141518161494337
instance:NeZero pL:=⟨dK⟩
theorem OO:runs (P:=pL) (Xj pL 55066263022277343669578718895168534326250603453777594175500187360389116729240) (Xj pL 32670510020758816978083085130507043184471273380659243275938904335757337482424) nL 255 (Xj pL 55066263022277343669578718895168534326250603453777594175500187360389116729240) (Xj pL 32670510020758816978083085130507043184471273380659243275938904335757337482424) 1=true:=dK
theorem LG:2*pL+1<3*nL:=dK
theorem Pw:1*2^255+nL%2^255=nL:=dK
theorem order(C:Cur P)(b:P=pL)(k:On (some (Xj P 55066263022277343669578718895168534326250603453777594175500187360389116729240,Xj P 32670510020758816978083085130507043184471273380659243275938904335757337482424))){r:Pt P}(c:On r):mul nL r=none:=by
 subst b;refine IU C (n:=nL) NT.pN LG k (λh=>by cases h) ?_ c;have h:=AK C k nL 255 1 _ _ 1 (by
  show Jac _ _ 1 (add none _);rw[jJ];exact⟨DD C,by grobner,by grobner⟩) OO
 rwa[Pw]at h
end EC
section
theorem IM:Go.Proofs.YtdoammpgchejcaaGreat.p1=nL:=dK
variable {P:Nat}[NeZero P]
theorem order2(C:Fld P)(r:EC.Pt P)(k:On r):mul Go.Proofs.YtdoammpgchejcaaGreat.p1 r=none:=by
 rw[IM];have b:P=EC.pL:=by
  rw[C.eq];rfl
 exact order C.cur b (Cs C) k
end
section
open Go.RowKit Go.Sort Go.Deep SPA
variable {P:Nat}[NeZero P]{N:Nat}
theorem Rh:Ord Go.Proofs.YtdoammpgchejcaaGreat.p1:=⟨T0,QV,by decide +kernel,by decide +kernel⟩
theorem Me:IsP Go.Proofs.YtdoammpgchejcaaGreat.p1:=by
 rw[IM];exact NT.pN
theorem H9(x:Int)(d:0<=x)(hx:x<18446744073709551616)(z:Int)(k:-9223372036854775808<=z)(b:z<=9223372036854775807)(s c:ByteArray)(w:Ur):
 UH prog 4 #[uZ x,iZ z,.string s,.string c] w λe w'=>e=.returned (.bool true)/\kZ w w':=by
 obtain⟨P,i,C⟩:=fld;have g:NeZero Go.Proofs.YtdoammpgchejcaaGreat.p1:=⟨by decide +kernel⟩
 obtain⟨n,rfl⟩:=Int.eq_ofNat_of_zero_le d;refine(Ov s c n (by omega) z k b w λm t v f hv=>trk C Rh (order2 C) Me (by decide +kernel) s _ f v hv).mono ?_;rintro e w' ⟨v,rfl,h,rfl⟩;exact⟨rfl,h⟩
end
/-
  THE ROW OF 'SpanTrue' round its walk; the frame by the guide's program (howto/shells), the world behind the call told by 'Below'.
-/
namespace spanTrue
open Go.ChangeShapes Go.WideShapes Go.ChangeAt Go.RowKit
open Go.ChangeMaps (open_string shut_string)
theorem own:ownKnob prog.godebug=none:=by kernel_rfl
theorem lifted(u:Os)(c:u.Started)(H:Type)(enc:U8 × Ut->H):
 ReturnsInHanded {} Tryz.checked u 4 .any (Rows.spanTrueSpec.pre6 enc prog Tryz.f4 Rows.spanTrueRow.domain false) (Rows.spanTrueSpec.post enc prog Tryz.f4 false true false false):=by
 refine returnsInHanded_of_change (C:=Tryz.checked) own c (by kernel_rfl) func4
  (ChangeSpec.witness6 (enc:=enc) (C:=Tryz.checked) false ⟨#[],#[uZ 0,iZ 0,.string yAu,.string yAu],[]⟩ 8 (by kernel_rfl) (by kernel_rfl) (by kernel_rfl) (by kernel_rfl)) ?_
 intro W f args M gs i b y s _;have k:∀(j:Nat) t v,Tryz.f4.params[j]? = some t->args[j]? = some v->Value.okWide prog W .any f t v:=b;have l:=y;obtain⟨p,q,g,X,rfl,U,I⟩:=y;have w:DataW.TrodAll enc prog W 0 (λ_=>true) true Tryz.f4.params.toList args.toList M p:=g;rw[params4]at w k;obtain⟨v0,E,d0,O,p0,q0,m,rfl,rfl,N,R⟩:=trodAll_cons w;obtain⟨v1,S,d1,F,p1,Z,rfl,rfl,rfl,G,T⟩:=trodAll_cons R;obtain⟨v2,A,d2,Y,p2,q2,rfl,rfl,rfl,B,K⟩:=trodAll_cons T;obtain⟨r,P,d3,L,p3,q3,rfl,rfl,rfl,J,z⟩:=trodAll_cons K;obtain⟨rfl,rfl,rfl⟩:=trodAll_nil z;obtain rfl:args=#[v0,v1,v2,r]:=by cases args;simp_all
 obtain⟨rfl,rfl⟩:=trodVars_none X;obtain⟨a0,rfl,rfl,rfl,o⟩:=open_int underlying22 (k 0 22 v0 rfl rfl) N;obtain⟨n,rfl,rfl,rfl,x⟩:=open_int underlying3 (k 1 3 v1 rfl rfl) G;obtain⟨a2,rfl,rfl,rfl,V⟩:=open_string underlying9 (k 2 9 v2 rfl rfl) B;obtain⟨Q,rfl,rfl,rfl,D⟩:=open_string underlying9 (k 3 9 r rfl rfl) J;clear g b;have d:-9223372036854775808<=n/\n<=9223372036854775807:=by
  have h:=x;have e:VS.min = -9223372036854775808:=by decide
  have e':VS.max=9223372036854775807:=by decide
  simp[Lit.wf,e,e']at h;omega
 have hx:0<=a0/\a0<18446744073709551616:=by
  have h:=o;have e:Vo.min=0:=by decide
  have e':Vo.max=18446744073709551615:=by decide
  simp[Lit.wf,e,e']at h;omega
 refine(H9 a0 hx.1 hx.2 n d.1 d.2 a2 Q W).mono λe W' ⟨a,bel⟩=>?_
 subst a;exact⟨_,rfl,_,_,_,[],_,[],l,YM (shut_bool underlying4 _) trodAll_mk0,YM (shut_int underlying22 o) (YM (shut_int underlying3 x) (YM (shut_string underlying9 V) (YM (shut_string underlying9 D) trodAll_mk0))),rfl,bel.frame _,λh=>by cases h⟩
theorem over:Rows.spanTrueRow.holds Tryz.pinned (OpenSpec.ofChange Rows.spanTrueSpec):=
 OpenClaim.holds_of_wide 4 Tryz.f4 rfl rfl rfl rfl rfl rfl rfl ⟨rfl,rfl,rfl,rfl,rfl⟩ rfl rfl rfl rfl rfl (by kernel_rfl) func4 (by kernel_rfl)
  (of_decide_eq_true (by kernel_rfl)) (by unfold Func.isWrapper;first|(rw[yCl (by decide +kernel)];kernel_rfl)|(rw[yCm (by decide +kernel)];exact⟨rfl,rfl⟩))
  (λb k H enc _=>lifted b k H enc)
theorem proved:Rows.SpanTrueSaid:=
 over
end spanTrue
section
theorem spanTrue_holds:Rows.SpanTrueSaid:=spanTrue.proved
#print axioms spanTrue_holds
end
end Go.Proofs.YtdoammpgchejcaaGreat
