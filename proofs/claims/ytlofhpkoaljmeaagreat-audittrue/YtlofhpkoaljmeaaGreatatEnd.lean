import Derived.BigQuiet
import Derived.Lib.LazyBuf
import Derived.ChangeOld
import Derived.Below
import Derived.WalkKit
import Derived.ProofKit
import Derived.OpenShut
import Derived.ShutString
import Derived.Deep.Slices
import Derived.Deep.Strs
import Derived.Test.YtlofhpkoaljmeaaGreatat7
set_option linter.unusedVariables false
set_option linter.defProp false
set_option linter.constructorNameAsVariable false
set_option linter.unusedSimpArgs false
set_option maxRecDepth 1000000
set_option maxHeartbeats 4000000
namespace Go.Proofs.YtlofhpkoaljmeaaGreat
open EC NT RG SP
open _root_.And renaming intro->Y0
open _root_.Array renaming getD_eq_getD_getElem?->XU,replicate->XW,size->ZA,size_append->Ys,size_replicate->X8
open _root_.Fin renaming ofNat->Z2
open _root_.Go renaming Addr->Y4,Program->YO,TypeId->Yj,Value->XG,World->XF,bodyPost_ret->XR,execOp->Ym,undef->ZB,wpList_load_mid->YG,wpList_store_mid->Yi,wp_block->Zk,wp_cond_false->Yh,wp_cond_true->YH,wp_exit->yBt,wp_ret->Zj,wp_seq->XL,wp_skip->Y2
open _root_.Go.Act renaming put->Yo
open _root_.Go.Addr renaming add_mid->yDm
open _root_.Go.Builtin renaming append_->YK,copy_->yAL
open _root_.Go.DataW renaming trod_int->yCJ
open _root_.Go.Instr renaming buildSlice->YF,indexAt->YV,sliceAt->ZH
open _root_.Go.IntKind renaming i64->Yt,u32->yCX,u64->Yy,u8->yBj,wrap_i64->Zo,wrap_u64->ZX
open _root_.Go.Lib renaming size_eq->yEM
open _root_.Go.Oper renaming wp->Y8
open _root_.Go.Region renaming wanted->Zd
open _root_.Go.RowKit.Below renaming mono->yEC,refl->XX,size->yEB,trans->yEs
open _root_.Go.Sem renaming run_bind->X6
open _root_.Go.Value renaming agg->Yg,cells->yEr,int->Y1
open _root_.Go.World renaming cell?->YY,cells?_some->yDB,frozen?->Zt,rangeAt_setCells_apart->Yr,rangeAt_setCells_same->YW,size_alloc->XS,there_setCells->Za
open _root_.Int renaming tmod_eq_emod_of_nonneg->yBx
open _root_.List renaming append_assoc->YU,drop->Z5,getD_eq_getElem?_getD->Zn,getElem?_append_left->X1,getElem?_append_right->X4,getElem?_cons_succ->Yl,getElem?_cons_zero->Yn,getElem?_eq_getElem->XV,getElem?_eq_some_iff->XT,getElem?_map->YC,getElem?_range->yBw,getElem?_toArray->Yp,length_append->XP,length_cons->YA,length_eq_zero_iff->yC0,length_map->X7,length_nil->ZD,length_take->Z8,mem_append->Zh,mem_cons->Zc,mem_of_getElem?->YZ,mem_replicate->yB9,mem_singleton->Ze,not_mem_nil->Yf,setIfInBounds_toArray->XJ,set_cons_succ->XM,set_cons_zero->XO,take->Z4,take_append_drop->yBV
open _root_.Nat renaming add_assoc->ZL,add_mul->yAB,add_sub_cancel_left->ZN,add_zero->yAi,le_of_ble_eq_true->YM,le_refl->XH,le_trans->XN,lt_of_lt_of_le->XI,lt_of_succ_le->Z7,min->yAG,mod_eq_of_lt->Ya,mod_lt->Zi,mul_assoc->yAO,mul_comm->YN,mul_one->yAe,not_lt_zero->yAh,pow_succ->Zr,reduceAdd->YQ,two_mul->yEE,zero_add->XQ,zero_le->Zq,zero_lt_one->yD8
open _root_.Option renaming map->yEp,map_eq_some_iff->XK,some->X5
open _root_.Or renaming inl->Yk,inr->Yd
open _root_.Prod renaming mk->Zl
open _root_.UInt8 renaming ofNat->XY
open Go.Proofs.Tryz
open Go.RowKit Go.Sort Go.Deep
section
section
variable {P:YO}{ops:Array Oper}{Q:Exit->Act->XF->Prop}{a0:Act}{F:RG.Flow}{k:Nat}{o:Oper}
def O8(T:Yj)(s t:Tmp)(ho:o.op=.slice T (.tmp s) none (some (.tmp t)) none)
 (h:∀(a:Act) (w:XF),PreF F ops a0 k o a w->∃v1 v2 v,a.eval (.tmp s)=v1/\a.eval (.tmp t)=v2/\(ZH T v1 none (some v2) none).run P w=.ok v w/\F.E k w w/\F.R k v w):bE P Q F ops a0 k o:=
 nE λa w b=>by
  obtain⟨v1,v2,v,c,e,d,hE,hR⟩:=h a w b;refine⟨v,w,?_,hE,hR⟩;unfold Ym;rw[ho];dsimp only[yEp];rw[c,e,X6,d];rfl
def O7(T:Yj)(s t:Tmp)(ho:o.op=.slice T (.tmp s) (some (.tmp t)) none none)
 (h:∀(a:Act) (w:XF),PreF F ops a0 k o a w->∃v1 v2 v,a.eval (.tmp s)=v1/\a.eval (.tmp t)=v2/\(ZH T v1 (some v2) none none).run P w=.ok v w/\F.E k w w/\F.R k v w):bE P Q F ops a0 k o:=
 nE λa w b=>by
  obtain⟨v1,v2,v,c,e,d,hE,hR⟩:=h a w b;refine⟨v,w,?_,hE,hR⟩;unfold Ym;rw[ho];dsimp only[yEp];rw[c,e,X6,d];rfl
def IX(h:∀(a:Act) (w:XF),PreF F ops a0 k o a w->∃(b:List (Tmp × XG)) (f:FuncId) (args:Array XG),AllE a b/\(cN (b.map (·.1)) o,(Ym (evo (evl b)) o).run P w)=(true,.ok (.enter f args) w)/\Calls P f args w (λe w'=>∃v,e=.returned v/\F.E k w w'/\F.R k v w')):bE P Q F ops a0 k o:=by
 intro a w K j l i g;obtain⟨b,f,args,d,c,m⟩:=h a w ⟨j,l,i⟩;simp only[Zl.injEq]at c;unfold Y8;rw[jG (evl b) (b.map (·.1)) c.1 d.ev,c.2,Oper.upon_enter];refine m.mono ?_;rintro e w' ⟨v,rfl,hE,hR⟩;exact g _ _ hE hR
def IW{T:Yj}(t u:Tmp)(ho:o.op=.store T (.tmp t) (.tmp u))(hd:o.dst=none)(i:(P.info? T).map (·.size)=some 1)(h:∀(a:Act) (w:XF),PreF F ops a0 k o a w->∃g off v old,a.eval (.tmp t)=oZ g off/\a.eval (.tmp u)=v/\w.cell? ⟨g,off,none⟩=some old/\w.frozen? ⟨g,off,none⟩=false/\v.oneCell'=true/\v.cells=#[v]/\F.E k w (w.setCell ⟨g,off,none⟩ v)/\F.R k ZB (w.setCell ⟨g,off,none⟩ v)):bE P Q F ops a0 k o:=by
 intro a w K f l e b;obtain⟨g,off,v,old,j,c,e3,n,d,m,hE,hR⟩:=h a w ⟨f,l,e⟩;have:=b ZB _ hE hR;unfold Y8 Ym;rw[ho];dsimp only;rw[j,c,X6,yB e3 n d m i];show K (a.put o.dst ZB) _;exact this
end
def Td{s:SP.Bs}{k i j:Nat}(c:j<(chk s k i).size)(b:offs k i+j<s.size):(chk s k i)[j]! = s[offs k i+j]!:=by
 rw[getElem!_pos (chk s k i) j c,getElem!_pos s (offs k i+j) b];unfold chk at c⊢;rw[Array.getElem_extract]
def Kb{w q W:XF}{s o d i f k:Nat}{vs:List XG}{CH:Nat->SP.Bs}(h:RdI w q W s o d (sZ i k k) (sZ f k k) (gA d i 0 k f 0 k) vs CH)(E:vs.length=k+k+9):∃cs:List XG,cs.length=11/\W.rangeAt d 0 cs/\∀v∈cs,v.oneCell'=true:=by
 have a:(gA d i 0 k f 0 k).length=k+k+9:=by
  rw[<-lP k k,<-uD d i 0 k f 0 k,X7]
 have c:∀j,j<k+k+9->∃u,(∀x,(gA d i 0 k f 0 k)[j]? = some x->W.cell? x.1=some u)/\u.oneCell'=true:=λj b=>by
  obtain⟨u,l⟩:∃u,vs[j]? = some u:=⟨_,XV oM⟩
  exact⟨u,λx hx=>h.st j x u hx l,by rcases(h.ow j u l).own.2 with⟨e,-⟩|⟨g,cap,cur,e,-⟩<;>rw[e]<;>rfl⟩
 have two:∀j,j<2->∃u,W.cell? ⟨d,9+j,none⟩=some u/\u.oneCell'=true:=λj b=>by
  obtain⟨u,p,r⟩:=c (7+k+k+j) oM;obtain⟨x,hx⟩:∃x,(gA d i 0 k f 0 k)[7+k+k+j]? = some x:=⟨_,XV oM⟩
  rcases dV hx with⟨n,m⟩|⟨n,l,m⟩|⟨n,l,m⟩|⟨n,l,m⟩
  .omega
  .omega
  .omega
  .have:=p x hx;rw[m,show 7+k+k+j-7-k-k=j by omega]at this;exact⟨u,this,r⟩
 obtain⟨u0,a0,b0⟩:=c 0 oM;obtain⟨u1,n,b1⟩:=c 1 oM;obtain⟨u2,a2,A⟩:=c 2 oM;obtain⟨u3,y,G⟩:=c 3 oM;obtain⟨u4,t,D⟩:=c 4 oM;obtain⟨u5,z,B⟩:=c 5 oM;obtain⟨u6,r,C⟩:=c 6 oM;obtain⟨u9,p,F⟩:=two 0 oM;obtain⟨u10,l,m⟩:=two 1 oM;refine⟨[u0,u1,u2,u3,u4,u5,u6,sZ i k k,sZ f k k,u9,u10],rfl,λj u b=>?_,λv hv=>?_⟩
 .rw[XQ];match j,b with
  | 0,b=>obtain rfl:=X5.inj b;exact a0 _ rfl
  | 1,b=>obtain rfl:=X5.inj b;exact n _ rfl
  | 2,b=>obtain rfl:=X5.inj b;exact a2 _ rfl
  | 3,b=>obtain rfl:=X5.inj b;exact y _ rfl
  | 4,b=>obtain rfl:=X5.inj b;exact t _ rfl
  | 5,b=>obtain rfl:=X5.inj b;exact z _ rfl
  | 6,b=>obtain rfl:=X5.inj b;exact r _ rfl
  | 7,b=>obtain rfl:=X5.inj b;exact h.c7
  | 8,b=>obtain rfl:=X5.inj b;exact h.c8
  | 9,b=>obtain rfl:=X5.inj b;exact p
  | 10,b=>obtain rfl:=X5.inj b;exact l
  | j+11,b=>simp at b
 .simp only[Zc,Yf,or_false]at hv;rcases hv with rfl|rfl|rfl|rfl|rfl|rfl|rfl|rfl|rfl|rfl|rfl<;>first|assumption|rfl
end
section
variable {P:Nat}[NeZero P]{N:Nat}
def TU:wZ 99:=wQ
def PO:wZ 3:=wQ
def i22:gZ 23 1:=gQ
def C4{cs:List XG}(h:∀v∈cs,v.oneCell'=true):cs.toArray.all (·.oneCell')=true:=Go.all_oneCell_toArray h
def Bj:∀v∈zR,v.oneCell'=true:=λv hv=>by
 rw[(yB9.1 hv).2];rfl
def JW(s:SP.Bs)(gi oz c:Nat)(hs:s.size<=100000)(hc:s.size<=c)(h8:1<c)(w:XF)(hy:gi<w.heap.size)(hH:Holds SP.encB w gi oz s):
 cZ 106 #[qZ gi oz s.size c] w (RdR w s s[0]!.toNat):=by
 obtain⟨y,I⟩:=yH (w.alloc (.cells zR.toArray 66));have b1:kZ w y:=by rw[<-I.out];exact bJ _ _
 have z1:y.heap.size=w.heap.size+1:=by rw[<-I.out,XS]
 have Y:y.heap[w.heap.size]? = some (.cells zR.toArray 66 (0,0)):=by rw[<-I.out];exact Array.getElem?_push_size
 have km:=Hid.mkP b1;have k6:=Hid.mkP z1;have kr:=Hid.mkP Y;have P1:=Hid.mkP (Gj (cs:=zR) Y rfl b1);have HH:=Hid.mkP hH;obtain⟨n,hn⟩:∃n:Nat,Hid (n=s.size):=⟨_,rfl⟩
 obtain⟨k,hk⟩:∃k:Nat,Hid (k=s[0]!.toNat):=⟨_,rfl⟩
 rw[<-hk.out];rw[<-hn.out]at hs hc⊢;by_cases h0:0<n
 .have S:=(SP.Holds.below hH b1 hy 0 (by rw[<-hn.out];exact h0)).1;unfold SP.encB SP.ub at S;rw[<-hk.out,yAi]at S;obtain⟨m,hm⟩:∃m,n=m+1:=⟨n-1,oM⟩
  have k8:=oM;rw[hm]at hc hs⊢;have Hm:Hid (s.size=m+1):=by rw[<-hn.out,hm];rfl
  by_cases h6:k<=6
  .have kn:¬(6:Int)<(k:Int):=oM;have kt:=run_make_row' (P:=prog) 27 23 nZ 24 FT OK rfl .i64 .i64 k oM oM;have E:Hid (oS s↔m+1=293+66*k):=by
    show _↔_;unfold oS;rw[<-hk.out,Hm.out];exact⟨λh=>h.2.2,λh=>⟨oM,h6,h⟩⟩
   clear hm k8 h0 hH b1 Y z1;go_enter func106,ntmps106;go_wp2_with (first|(refine dQ (v:=jZ w.heap.size) (w':=y) rfl (.alloc 66) rfl ?_ ?_;(rw[<-I.out];kernel_rfl))|fail)
   go_cut [5] (λs5 wx=>∃o t z,s5=jZ o/\Hid (R4 y wx o t z k))
   case first =>
    go_region
    all_goals (try go_wp2)
    all_goals (go_meet;first|(refine⟨_,y.heap.size,y.heap.size+1,rfl,(⟨(three).1,?_,?_,?_,?_,?_,?_,?_,?_,?_⟩:R4 _ _ _ _ _ _)⟩<;>first|(rw[(three).2.1];omega)|exact(three).2.2.1|exact(three).2.2.2.1|exact(three).2.2.2.2|omega)|(refine⟨_,y.heap.size,y.heap.size+1+1,rfl,(⟨(three).1,?_,?_,?_,?_,?_,?_,?_,?_,?_⟩:R4 _ _ _ _ _ _)⟩<;>first|(rw[(three).2.1];omega)|exact(three).2.2.1|exact(three).2.2.2.1|exact(three).2.2.2.2|omega)|(refine⟨_,y.heap.size+1,y.heap.size,rfl,(⟨(three).1,?_,?_,?_,?_,?_,?_,?_,?_,?_⟩:R4 _ _ _ _ _ _)⟩<;>first|(rw[(three).2.1];omega)|exact(three).2.2.1|exact(three).2.2.2.1|exact(three).2.2.2.2|omega)|(refine⟨_,y.heap.size+1,y.heap.size+1+1,rfl,(⟨(three).1,?_,?_,?_,?_,?_,?_,?_,?_,?_⟩:R4 _ _ _ _ _ _)⟩<;>first|(rw[(three).2.1];omega)|exact(three).2.2.1|exact(three).2.2.2.1|exact(three).2.2.2.2|omega)|(refine⟨_,y.heap.size+1+1,y.heap.size,rfl,(⟨(three).1,?_,?_,?_,?_,?_,?_,?_,?_,?_⟩:R4 _ _ _ _ _ _)⟩<;>first|(rw[(three).2.1];omega)|exact(three).2.2.1|exact(three).2.2.2.1|exact(three).2.2.2.2|omega)|(refine⟨_,y.heap.size+1+1,y.heap.size+1,rfl,(⟨(three).1,?_,?_,?_,?_,?_,?_,?_,?_,?_⟩:R4 _ _ _ _ _ _)⟩<;>first|(rw[(three).2.1];omega)|exact(three).2.2.1|exact(three).2.2.2.1|exact(three).2.2.2.2|omega))
   case rest =>
    obtain⟨o,t,z,rfl,H4⟩:=hcut;have c7:wc.cell? ⟨o,7,none⟩=some (sZ t k k):=by unfold YY;rw[H4.out.hp];rfl
    have c8:wc.cell? ⟨o,8,none⟩=some (sZ z k k):=by unfold YY;rw[H4.out.hp];rfl
    have hq:=Hid.mkP (AO o ⟨some (aZ t),k,k⟩ ⟨some (aZ z),k,k⟩ t 0 z 0 wc H4.out.p1.2 c7 c8 (Yd rfl) (Yd rfl) (by show k<=_;omega) (by show k<=_;omega));have ka:=oM;have kj:=oM;have kp:=oM;have kk:=oM;go_wp2_with fail
    refine hq.out.mono ?_;rintro e w3 ⟨v3,rfl,g3⟩;obtain⟨J,h9,rfl,kf,kl⟩:=g3.lt;have X:=Ke (CH:=chk s k) H4.out km.out (oN k6.out) g3;have Q:=Hid.mkP X.1;have I0:=Hid.mkP X.2;have hM:(gA o t 0 k z 0 k).length=k+k+9:=by
     rw[<-lP k k,<-uD o t 0 k z 0 k,X7]
    have Z:(uQ o++lp t 0 k++lp z 0 k++endP o).length=k+k+9:=hM;have hr:Hid (∀W v,RdI w w3 W w.heap.size J o (sZ t k k) (sZ z k k) (gA o t 0 k z 0 k) v (chk s k)->∀i,i<k+k+9->∃bb A f,(fH k k)[i]? = some f/\(gA o t 0 k z 0 k)[i]? = some (⟨bb,A,none⟩,f)/\f<=33/\32<=f/\W.rangeAt J (i*2) [oZ bb A,iZ f]):=λW v G i hi=>by
     obtain⟨x,hx⟩:∃x,(gA o t 0 k z 0 k)[i]? = some x:=⟨_,XV oM⟩
     obtain⟨bb,A,l,-⟩:=Q.out.ad i x hx;have O:(fH k k)[i]? = some x.2:=by rw[<-uD o t 0 k z 0 k,YC,hx];rfl
     have d:=YZ O;have r:=g3.at i x hx;refine⟨bb,A,x.2,O,by rw[hx,<-l],Gu (n:=k) (m:=k) _ d,?_,λj u hj=>?_⟩
     .unfold fH at d;simp only[Zh,Zc,Yf,or_false,yB9]at d;omega
     .have e:=G.eq;have:W.cell? ⟨J,i*2+j,none⟩=w3.cell? ⟨J,i*2+j,none⟩:=by unfold YY;rw[e]
      rw[this,YN];exact r j u (by unfold pC;rw[l];exact hj)
    have h4:Hid (w3.heap[w.heap.size]? = some (.cells zR.toArray 66 (0,0))):=by
     have:=k6.out;have d:=H4.out.bl.size;show _=_;rw[g3.bl.block w.heap.size oM,H4.out.bl.block w.heap.size oM];exact kr.out
    obtain⟨M,N⟩:=yH (k+k+9);rw[N.out]at hr Z;rw[Z];have kv:M<=21:=oN N.out;obtain⟨dP,ht,k0⟩:=XK.1 TV;obtain⟨C1,k5⟩:=vH (c-1);rw[k5];have ke:1+C1=c:=oM;clear g3 hM Z X hq kf kl kt k5 ka kj kp kk;go_wp2;go_loopg [0,32] M (λgk s0 s32 wr=>∃(i off ad L C:Nat),i+gk=M/\s32=iZ i/\s0=qZ gi ad L C/\off+L=m+1/\off+C=c/\Hid (0<C->ad=oz+off)/\Hid (off=offs k i/\∃vs,vs.length=i/\RdI w w3 wr w.heap.size J o (sZ t k k) (sZ z k k) (gA o t 0 k z 0 k) vs (chk s k)))
    case atStart=>exact⟨0,1,oz+1,m,C1,oM,rfl,rfl,oM,ke,λ_=>rfl,rfl,[],rfl,I0.out⟩
    case round =>
     clear I0;obtain⟨i,off,ad,L,C,hi,rfl,rfl,kx,b2,ko,K⟩:=hrel;by_cases ha:i<M
     .have hw:(i:Int)<(M:Int):=oM;have kw:=Qf J (n:=M) h9 (i:=i) ha;obtain⟨F,vs,H,G⟩:=K.out;obtain⟨bb,A,f,k1,k2,k3,ky,k4⟩:=hr.out _ _ G i ha;have K4:=Hid.mkP k4;obtain⟨l,D⟩:=yH (wr.alloc (.cells #[oZ bb A,iZ f] 101));have ba:kZ wr l:=by rw[<-D.out];exact bJ _ _
      have za:l.heap.size=wr.heap.size+1:=by rw[<-D.out,XS]
      have a0:l.cell? ⟨wr.heap.size,0,none⟩=some (oZ bb A):=by rw[<-D.out];exact fO (w:=wr) (j:=0) rfl
      have a1:l.cell? ⟨wr.heap.size,1,none⟩=some (iZ f):=by rw[<-D.out];exact fO (w:=wr) (j:=1) rfl
      have T:Hid (RdI w w3 l w.heap.size J o (sZ t k k) (sZ z k k) (gA o t 0 k z 0 k) vs (chk s k)):=G.below Q.out ba;have B:Hid (off=offs k i/\(fH k k)[i]? = some f/\(gA o t 0 k z 0 k)[vs.length]? = some (⟨bb,A,none⟩,f)/\vs.length=i/\bb<wr.heap.size/\l.heap.size=wr.heap.size+1):=by
       refine⟨F,k1,by rw[H];exact k2,H,?_,za⟩;obtain⟨r,d,e',p1,-⟩:=Q.out.ad i _ k2;injection e' with e' _ _
       have:=G.sz;omega
      clear K k4 k2 k1 G ba za F H;by_cases kz:L<f
      .have he:(L:Int)<(f:Int):=oM;have R:=Hid.mkP (Gj (cs:=zR) (by rw[T.out.er];exact h4.out) rfl T.out.bl);have r:¬oS s:=λh=>by
        have S:=E.out.1 h;have V:=Oz k (i+1);rw[CZ,lS (n:=k) (j:=i) (k:=f) B.out.2.1]at V;have:=B.out.1;omega
       go_wp2_with (first|(refine YG rfl 101 _ rfl J (i*2) ?_ [oZ bb A,iZ f] dP ?_ ?_ ?_ ?_ ?_;rfl;exact K4.out;exact ht;exact k0;exact iPt;skip)|(refine Yi rfl 66 _ _ rfl w.heap.size 0 zR.toArray ?_ ?_ ?_ ?_ ?_ ?_;rfl;rfl;(rw[D.out];exact R.out.1);exact iRg;exact C4 Bj;rw[show zR.toArray.toList=zR from rfl,D.out])|fail)
       refine XR (fG 2 3 (T:=66) rfl R.out.2.1 rfl rfl uRg iRg) rfl ?_;exact Yk ⟨r,R.out.2.2,rfl⟩
      .have he:¬(L:Int)<(f:Int):=oM;have hl:Hid (ad=oz+off):=ko.out oM;go_wp2_with (first|(refine YG rfl 101 _ rfl J (i*2) ?_ [oZ bb A,iZ f] dP ?_ ?_ ?_ ?_ ?_;rfl;exact K4.out;exact ht;exact k0;exact iPt;skip)|fail)
       rw[D.out];have O:(chk s k i).size=f:=by
        unfold chk;rw[lS (n:=k) (j:=i) (k:=f) B.out.2.1,Array.size_extract,Hm.out];have:=B.out.1;omega
       have HX:Hid (∀W,kZ l W->Holds SP.encB W gi ad (chk s k i)):=λW U j hj=>by
        have kd:kZ w W:=T.out.bl.trans (U.mono T.out.bl.size);have d:off+j<s.size:=by rw[Hm.out];omega
        have S:=(SP.Holds.below HH.out kd hy) (off+j) d;rw[show oz+(off+j)=ad+j by have:=hl.out;omega]at S;have e:(chk s k i)[j]! = s[off+j]!:=by
         rw[B.out.1];exact Td (s:=s) (k:=k) (i:=i) (j:=j) hj (by rw[<-B.out.1];exact d)
        rw[e];exact S
       have kc:=NP gi ad L C f oM;obtain⟨nx,hz,kg⟩:=NN gi ad L C f oM oM;have kb:Hid (0<C-f->nx=oz+(off+f)):=λh=>by have:=hz h;have:=hl.out;omega
       clear hz;have h7:=Hid.mkP O;clear O;refine rC (FR l wr.heap.size bb A f gi ad L C nx (chk s k i)) kR ⟨kR,Dx ?_,λi j _ _ k7 _ _ v w w' hE hR=>FR.stab (oN B.out.2.2.2.2) i j k7 v w w' hE hR,λi b _ hk w w' hE hB=>FR.stabB (oN B.out.2.2.2.2) i b hk w w' hE hB⟩ (λb=>by
        match b with
        | 0=>exact(⟨rfl,rfl,rfl,XH _,λ_ _=>rfl⟩:kZ l l.drew)
        | _+1=>exact⟨a0,a1,oN B.out.2.2.2.2,XH _⟩) ?_
       .exact⟨mA λa W d=>⟨[(7,jZ wr.heap.size)],_,W,⟨d.o 7 kR,yE5⟩,kR,XX _ _,rfl⟩,
         Fh (T:=99) 42 rfl TU λa W d=>⟨wr.heap.size,0,oZ bb A,d.n 0 42 kR kR kR,(d.b 1 kR).1,XX _ _,rfl⟩,
         mA λa W d=>⟨[(0,qZ gi ad L C)],_,W,⟨d.o 0 kR,yE5⟩,kR,XX _ _,rfl⟩,
         mA λa W d=>⟨[(7,jZ wr.heap.size)],_,W,⟨d.o 7 kR,yE5⟩,kR,XX _ _,rfl⟩,
         Fh (T:=3) 45 rfl PO λa W d=>⟨wr.heap.size,1,iZ f,d.n 3 45 kR kR kR,(d.b 1 kR).2.1,XX _ _,rfl⟩,
         O8 23 44 46 rfl λa W d=>⟨_,_,_,d.n 2 44 kR kR kR,d.n 4 46 kR kR kR,kc W,XX _ _,rfl⟩,
         IX λa W d=>⟨[(47,qZ gi ad f C)],159,#[qZ gi ad f C],⟨d.n 5 47 kR kR kR,yE5⟩,kR,by
          have U:kZ l W:=d.b 0 kR;have hc:=Mh gi ad C (chk s k i) (by rw[h7.out];omega) W (by have S:=T.out.bl.size;have V:=U.size;omega) (HX.out W U);rw[h7.out]at hc;refine hc.mono ?_;rintro e' W' ⟨v,rfl,S,V⟩;refine⟨v,rfl,S,?_⟩;have h3:=U.size;refine(⟨?_,V.nn⟩:FrC l.heap.size (chk s k i) v W');rcases V.own with⟨x0,x1|⟨g,cap,cur,x1,x2,x3⟩⟩
          .exact⟨x0,Yk x1⟩
          .exact⟨x0,Yd ⟨g,cap,cur,x1,oM,x3⟩⟩⟩,
         mA λa W d=>⟨[(0,qZ gi ad L C)],_,W,⟨d.o 0 kR,yE5⟩,kR,XX _ _,rfl⟩,
         mA λa W d=>⟨[(7,jZ wr.heap.size)],_,W,⟨d.o 7 kR,yE5⟩,kR,XX _ _,rfl⟩,
         Fh (T:=3) 50 rfl PO λa W d=>⟨wr.heap.size,1,iZ f,d.n 8 50 kR kR kR,(d.b 1 kR).2.1,XX _ _,rfl⟩,
         O7 23 49 51 rfl λa W d=>⟨_,_,_,d.n 7 49 kR kR kR,d.n 9 51 kR kR kR,kg W,XX _ _,rfl⟩,
         mA λa W d=>⟨[(43,oZ bb A)],_,W,⟨d.n 1 43 kR kR kR,yE5⟩,kR,XX _ _,rfl⟩,
         IW (T:=23) 53 48 rfl rfl i22 λa W d=>by
          have U:kZ l W:=d.b 0 kR;have hF:FrC l.heap.size (chk s k i) (a.eval (.tmp 48)) W:=d.n 6 48 kR kR kR;obtain⟨⟨old,kh⟩,k9⟩:=T.out.th _ _ B.out.2.2.1;have V:bb<l.heap.size:=oN B.out.2.2.2.2;obtain⟨q,c',hv⟩:=Iz hF.own;refine⟨bb,A,_,old,d.n 11 53 kR kR kR,rfl,?_,?_,by rw[hv];rfl,by rw[hv];rfl,⟨_,rfl⟩,?_⟩
          .rw[U.cell (p:=⟨bb,A,none⟩) V];exact kh
          .have:W.frozen? ⟨bb,A,none⟩=l.frozen? ⟨bb,A,none⟩:=by unfold Zt;rw[U.block bb V]
           rw[this];exact k9
          .refine(⟨_,I8 U,⟨bG hF.own (λg hg=>?_),hF.nn⟩⟩:StR l bb A (chk s k i) _);have:=(bU hF.own hg).1;rw[heap_set,yE4 (by show bb≠g;omega)],
         nF 52 λa W d=>⟨a.eval (.tmp 52),W,kR,kR,XX _ _,d.n 10 52 kR kR kR⟩,yE5⟩
       .intro V w5 hV hB;have hS:StR l bb A (chk s k i) w5:=hV 12 (Z7 (YM kR)) rfl;have hu:V 13=qZ gi nx (L-f) (C-f):=hV 13 (Z7 (YM kR)) rfl;obtain⟨v,d⟩:=T.out.step Q.out B.out.2.2.1 (by rw[B.out.2.2.2.1];exact hS);have K5:Hid (off+f=offs k (i+1)/\∃vs,vs.length=i+1/\RdI w w3 w5 w.heap.size J o (sZ t k k) (sZ z k k) (gA o t 0 k z 0 k) vs (chk s k)):=by
         refine⟨by rw[lS (n:=k) (j:=i) (k:=f) B.out.2.1,B.out.1],_,?_,d⟩;rw[XP,B.out.2.2.2.1];rfl
        dsimp only[bY,YQ];simp only[Yo,XJ,XM,XO];rw[hu];clear hV hB hS hu d T B HX;go_wp2;go_roundg (gk-1)
        case measure=>omega
        case rel=>exact⟨i+1,off+f,nx,L-f,C-f,oM,rfl,rfl,oM,oM,kb,K5⟩
     .have hw:=oM;obtain⟨F,vs,H,G⟩:=K.out;have ku:off=293+66*k:=by
       rw[F,show i=k+k+9 by have:=N.out;omega];exact rW (n:=k)
      have T:=Hid.mkP G;by_cases b3:0<L
      .have d:=oM;have R:=Hid.mkP (Gj (cs:=zR) (by rw[G.er];exact h4.out) rfl G.bl);have r:¬oS s:=λh=>by
        have S:=E.out.1 h;omega
       go_wp2_with (first|(refine Yi rfl 66 _ _ rfl w.heap.size 0 zR.toArray ?_ ?_ ?_ ?_ ?_ ?_;rfl;rfl;exact R.out.1;exact iRg;exact C4 Bj;rw[show zR.toArray.toList=zR from rfl])|fail)
       refine XR (fG 2 3 (T:=66) rfl R.out.2.1 rfl rfl uRg iRg) rfl ?_;exact Yk ⟨r,R.out.2.2,rfl⟩
      .obtain rfl:L=0:=oM;have B:oS s:=E.out.2 oM;obtain⟨cs,d,D,h8⟩:=Kb G (by rw[H];have:=N.out;omega);have R:=Hid.mkP (Gj (cs:=cs) (by rw[G.er];exact h4.out) d G.bl);have HC:=Hid.mkP D;have O:=Hid.mkP h8;have l:=Hid.mkP d;have KR:Hid (RdR w s k (.returned (.tuple #[.agg cs.toArray,iZ 0])) (wr.setCells w.heap.size 0 cs)):=Yd ⟨B,R.out.2.2,w3,wr,J,o,t,z,vs,cs,by rw[H];have:=N.out;omega,Q.out,G,d,D,rfl,rfl⟩;obtain⟨dR,U,V⟩:=XK.1 uRg;go_wp2_with (first|(refine YG rfl 66 _ rfl o 0 ?_ cs dR ?_ ?_ ?_ ?_ ?_;rfl;exact HC.out;exact U;exact V;(rw[l.out];exact iRg);skip)|(refine Yi rfl 66 _ _ rfl w.heap.size 0 cs.toArray ?_ ?_ ?_ ?_ ?_ ?_;rfl;rfl;exact R.out.1;(rw[List.size_toArray,l.out];exact iRg);exact C4 O.out;rw[show cs.toArray.toList=cs from rfl])|fail)
       refine XR (fG 2 3 (T:=66) rfl R.out.2.1 rfl rfl uRg (by rw[l.out];exact iRg)) rfl ?_;exact KR.out
  .have kn:=oM;have r:¬oS s:=λh=>h6 (by rw[hk.out];exact h.2.1)
   go_enter func106,ntmps106;go_wp2_with (first|(refine dQ (v:=jZ w.heap.size) (w':=y) rfl (.alloc 66) rfl ?_ ?_;(rw[<-I.out];kernel_rfl))|(refine Yi rfl 66 _ _ rfl w.heap.size 0 zR.toArray ?_ ?_ ?_ ?_ ?_ ?_;rfl;rfl;exact P1.out.1;exact iRg;exact C4 Bj;rw[show zR.toArray.toList=zR from rfl])|fail)
   refine XR (fG 2 3 (T:=66) rfl P1.out.2.1 rfl rfl uRg iRg) rfl ?_;exact Yk ⟨r,P1.out.2.2,rfl⟩
 .have d:n=0:=oM;have r:¬oS s:=λh=>h0 (by rw[hn.out];exact h.1)
  subst d;go_enter func106,ntmps106;go_wp2_with (first|(refine dQ (v:=jZ w.heap.size) (w':=y) rfl (.alloc 66) rfl ?_ ?_;(rw[<-I.out];kernel_rfl))|(refine Yi rfl 66 _ _ rfl w.heap.size 0 zR.toArray ?_ ?_ ?_ ?_ ?_ ?_;rfl;rfl;exact P1.out.1;exact iRg;exact C4 Bj;rw[show zR.toArray.toList=zR from rfl])|fail)
  refine XR (fG 2 3 (T:=66) rfl P1.out.2.1 rfl rfl uRg iRg) rfl ?_;exact Yk ⟨r,P1.out.2.2,rfl⟩
def RdG(w:XF)(s:SP.Bs)(k:Nat)(e:Ending)(W:XF):Prop:=kZ w W/\∃(p:Rg) (c d:List XG) (B:Nat),e=.returned (.tuple #[.agg p.cs.toArray,iZ 0])/\VL W p.l.q p.l.n c/\VL W p.r.q p.r.n d/\p.l.n=k/\p.r.n=k/\(∀b o,p.l.q=some ⟨b,o,none⟩->0<k->w.heap.size<=b)/\(∀b o,p.r.q=some ⟨b,o,none⟩->0<k->w.heap.size<=b)/\w.heap.size<=B/\B<=W.heap.size/\(∀j,j<k+k+9->∃u,(qY p c d)[j]? = some u/\FrC B (chk s k j) u W)/\(∀(j f:Nat) u i g,j<f->(qY p c d)[j]? = some u->(qY p c d)[f]? = some i->u.ownBlock=some g->i.ownBlock≠some g)/\∃gl l,p.l.q=some (aZ gl)/\p.r.q=some (aZ l)
def Mq{W W':XF}{j g:Nat}(h:W'.heap[g]? = W.heap[g]?):W'.cell? ⟨g,j,none⟩=W.cell? ⟨g,j,none⟩/\W'.frozen? ⟨g,j,none⟩=W.frozen? ⟨g,j,none⟩:=by
 unfold YY Zt;rw[h];exact⟨rfl,rfl⟩
def JH{vs:List XG}{k:Nat}(h:vs.length=k+k+9):∃hd b c d,vs=hd++b++c++d/\hd.length=7/\b.length=k/\c.length=k/\d.length=2:=by
 refine⟨vs.take 7,(vs.drop 7).take k,((vs.drop 7).drop k).take k,((vs.drop 7).drop k).drop k,?_,?_,?_,?_,?_⟩
 .rw[YU,yBV,YU,yBV,yBV]
 all_goals (simp only[Z8,List.length_drop];omega)
def len2:∀(l:List XG),l.length=2->∃k b,l=[k,b]
 | [k,b],_=>⟨k,b,rfl⟩
def WX:∀(l:List XG),l.length=7->∃k b d z3 f c e,l=[k,b,d,z3,f,c,e]
 | [k,b,d,z3,f,c,e],_=>⟨k,b,d,z3,f,c,e,rfl⟩
def UO:∀(l:List XG),l.length=11->∃b c e z3 j d i z7 f g k,l=[b,c,e,z3,j,d,i,z7,f,g,k]
 | [b,c,e,z3,j,d,i,z7,f,g,k],_=>⟨b,c,e,z3,j,d,i,z7,f,g,k,rfl⟩
def Ka{w W:XF}{s:SP.Bs}{k:Nat}{e:Ending}(h:RdR w s k e W)(O:oS s):RdG w s k e W:=by
 rcases h with⟨h,-⟩|⟨-,hb,w3,r,gq,C,D,H,vs,cs,hl,V,F,hc,hr,rfl,rfl⟩
 .exact absurd O h
 have hz:=V.r;have h4:=F.sz;have Z:∀b,b<r.heap.size->b≠w.heap.size->(r.setCells w.heap.size 0 cs).heap[b]? = r.heap[b]?:=λb G M=>World.heap_setCells_other r _ 0 cs G M
 have hM:(gA C D 0 k H 0 k).length=k+k+9:=by rw[<-lP k k,<-uD C D 0 k H 0 k,X7]
 have z:∀(j:Nat) u,vs[j]? = some u->∃x,(gA C D 0 k H 0 k)[j]? = some x/\r.cell? x.1=some u:=λj u l=>by
  obtain⟨x,hx⟩:∃x,(gA C D 0 k H 0 k)[j]? = some x:=⟨_,XV (oN ((XT.1 l).1))⟩
  exact⟨x,hx,F.st j x u hx l⟩
 have R:∀(j:Nat) u,vs[j]? = some u->∃t:Sv,u=t.v:=λj u l=>by
  obtain⟨q,c,hv⟩:∃q c,u=.slice q (ZA (chk s k j)) c:=by
   rcases(F.ow j u l).own with⟨-,⟨rfl,i⟩|⟨g,cap,cur,rfl,-⟩⟩
   .exact⟨none,0,by rw[i]⟩
   .exact⟨_,_,rfl⟩
  exact⟨⟨q,_,c⟩,hv⟩
 have hF:∀(j:Nat) u,vs[j]? = some u->FrC w3.heap.size (chk s k j) u (r.setCells w.heap.size 0 cs):=λj u l=>by
  have G:=F.ow j u l;exact⟨bG G.own (λg O=>Z g (bU G.own O).2.1 (oN ((bU G.own O).1))),G.nn⟩
 have U:=F.ne;have h3:=(below_setCells (B:=0) (b:=w.heap.size) (Zq _) cs 0 r (XX 0 r)).size;have L:∀(g S:Nat) (ys:List XG),ys.length=k->(∀j,j<k->∃u x,ys[j]? = some u/\vs[S+j]? = some u/\(gA C D 0 k H 0 k)[S+j]? = some x/\x.1=⟨g,j,none⟩)->VL (r.setCells w.heap.size 0 cs) (some (aZ g)) k ys/\(0<k->w.heap.size<=g):=λg S ys hn P=>by
  refine⟨⟨hn,λe=>(by cases e),?_,λu l=>?_⟩,λJ=>?_⟩
  .by_cases J:k=0
   .exact Yk (yC0.1 oM)
   .obtain⟨u0,v,-,-,m,E⟩:=P 0 oM;obtain⟨b,o,i,G,-,-,M,-⟩:=V.ad _ v m;rw[E]at i;injection i with i _ _
    subst i;refine Yd ⟨g,0,rfl,oM,λj u p=>?_⟩;obtain⟨I,N,n,A,Q,K⟩:=P j (oN ((XT.1 p).1));rw[p]at n;obtain rfl:=X5.inj n;rw[XQ,(Mq (Z g oM M)).1,<-K];exact F.st _ N u Q A
  .obtain⟨j,p⟩:=List.getElem?_of_mem l;obtain⟨I,N,n,A,-⟩:=P j (oN ((XT.1 p).1));rw[p]at n;obtain rfl:=X5.inj n;obtain⟨t,rfl⟩:=R _ u A;rfl
  .obtain⟨u0,v,-,-,m,E⟩:=P 0 J;obtain⟨b,o,i,G,M,-⟩:=V.ad _ v m;rw[E]at i;injection i with i _ _
   subst i;exact M
 obtain⟨hd,A,E,K,rfl,Q,T,Y,n4⟩:=JH hl;have X:=L D 7 A T (λj p=>by
  obtain⟨u,l⟩:∃u,A[j]? = some u:=⟨_,XV oM⟩
  have hv:(hd++A++E++K)[7+j]? = some u:=by
   rw[YU,YU,X4 oM,Q,ZN,X1 oM];exact l
  obtain⟨x,hx,-⟩:=z _ u hv;refine⟨u,x,l,hv,hx,?_⟩;rcases dV hx with⟨n,m⟩|⟨n,i,m⟩|⟨n,i,m⟩|⟨n,i,m⟩
  .omega
  .rw[m,ZN];congr 1;omega
  .omega
  .omega)
 have V2:=L H (7+k) E Y (λj p=>by
  obtain⟨u,l⟩:∃u,E[j]? = some u:=⟨_,XV oM⟩
  have hv:(hd++A++E++K)[7+k+j]? = some u:=by
   rw[YU,X4 (by rw[XP];omega),XP,Q,T,ZN,X1 oM];exact l
  obtain⟨x,hx,-⟩:=z _ u hv;refine⟨u,x,l,hv,hx,?_⟩;rcases dV hx with⟨n,m⟩|⟨n,i,m⟩|⟨n,i,m⟩|⟨n,i,m⟩
  .omega
  .omega
  .rw[m];congr 1;omega
  .omega)
 have hT:∀j,j<2->∀u,K[j]? = some u->r.cell? ⟨C,9+j,none⟩=some u/\∃t:Sv,u=t.v:=λj p u l=>by
  have hv:(hd++A++E++K)[7+k+k+j]? = some u:=by
   rw[X4 (by rw[XP,XP];omega),XP,XP,Q,T,Y,ZN];exact l
  refine⟨?_,R _ u hv⟩;obtain⟨x,hx,v⟩:=z _ u hv;rcases dV hx with⟨n,m⟩|⟨n,i,m⟩|⟨n,i,m⟩|⟨n,i,m⟩
  .omega
  .omega
  .omega
  .rw[m,show 7+k+k+j-7-k-k=j by omega]at v;exact v
 have I:∀j,j<7->∀u,hd[j]? = some u->r.cell? ⟨C,j,none⟩=some u/\∃t:Sv,u=t.v:=λj p u l=>by
  have hv:(hd++A++E++K)[j]? = some u:=by
   rw[YU,YU,X1 oM];exact l
  refine⟨?_,R _ u hv⟩;obtain⟨x,hx,v⟩:=z _ u hv;rcases dV hx with⟨n,m⟩|⟨n,i,m⟩|⟨n,i,m⟩|⟨n,i,m⟩
  .rw[m]at v;exact v
  .omega
  .omega
  .omega
 have i:∀j u,cs[j]? = some u->r.cell? ⟨C,j,none⟩=some u:=λj u p=>by
  have:=hr j u p;rw[XQ]at this;exact this
 have c7:=F.c7;have c8:=F.c8;obtain⟨v0,v1,v2,v3,v4,v5,v6,rfl⟩:=WX hd Q;obtain⟨x,y,rfl⟩:=len2 K n4;obtain⟨z0,z1,z2,z3,z4,z5,z6,z7,z8,z9,m,rfl⟩:=UO cs hc;obtain⟨q0,a,rfl⟩:=I 0 oM v0 rfl;obtain⟨q1,b,rfl⟩:=I 1 oM v1 rfl;obtain⟨q2,c,rfl⟩:=I 2 oM v2 rfl;obtain⟨q3,d,rfl⟩:=I 3 oM v3 rfl;obtain⟨q4,e,rfl⟩:=I 4 oM v4 rfl;obtain⟨q5,f,rfl⟩:=I 5 oM v5 rfl;obtain⟨q6,g,rfl⟩:=I 6 oM v6 rfl;obtain⟨q9,N,rfl⟩:=hT 0 oM x rfl;obtain⟨n,v,rfl⟩:=hT 1 oM y rfl;obtain rfl:=X5.inj ((i 0 z0 rfl).symm.trans q0);obtain rfl:=X5.inj ((i 1 z1 rfl).symm.trans q1);obtain rfl:=X5.inj ((i 2 z2 rfl).symm.trans q2);obtain rfl:=X5.inj ((i 3 z3 rfl).symm.trans q3);obtain rfl:=X5.inj ((i 4 z4 rfl).symm.trans q4);obtain rfl:=X5.inj ((i 5 z5 rfl).symm.trans q5);obtain rfl:=X5.inj ((i 6 z6 rfl).symm.trans q6);obtain rfl:=X5.inj ((i 7 z7 rfl).symm.trans c7);obtain rfl:=X5.inj ((i 8 z8 rfl).symm.trans c8);obtain rfl:=X5.inj ((i 9 z9 rfl).symm.trans q9);obtain rfl:=X5.inj ((i 10 m rfl).symm.trans n);refine⟨hb,⟨a,b,c,d,e,f,g,⟨some (aZ D),k,k⟩,⟨some (aZ H),k,k⟩,N,v⟩,A,E,w3.heap.size,rfl,X.1,V2.1,rfl,rfl,λb o e J=>by injection e with e;injection e with e _ _;subst e;exact X.2 J,λb o e J=>by injection e with e;injection e with e _ _;subst e;exact V2.2 J,oM,oM,λj p=>?_,U,D,H,rfl,rfl⟩;obtain⟨u,l⟩:∃u,([a.v,b.v,c.v,d.v,e.v,f.v,g.v]++A++E++[N.v,v.v])[j]? = some u:=⟨_,XV oM⟩
 exact⟨u,l,hF j u l⟩
def wW{W:XF}{B:Nat}{v:XG}{b:SP.Bs}(h:W.ownsRow B 5 1 v b.size (bC b))(d:0<b.size):ElQ (B<=·) b.size W v b:=by
 rcases id h with⟨-,⟨-,e⟩|⟨g,cap,cur,rfl,c,f,k,-⟩⟩
 .omega
 .exact⟨g,cap,rfl,k,rfl,c,(bU h rfl).2.1,ED h⟩
structure RdB(B t:Nat)(BB:List SP.Bs)(e:XG)(W:XF):Prop where
 ex:∃(p:Rg) (l1 l2:List XG),e=.agg p.cs.toArray/\VL W p.l.q p.l.n l1/\VL W p.r.q p.r.n l2/\p.l.n=t/\p.r.n=t/\(∃gl gr,p.l.q=some (aZ gl)/\p.r.q=some (aZ gr)/\(0<t->B<=gl/\B<=gr))/\∀j,j<t+t+9->∃u b,(qY p l1 l2)[j]? = some u/\BB[j]? = some b/\ElQ (B<=·) b.size W u b
def J9{W:XF}{g o c t:Nat}{BB:List SP.Bs}(k:kV t t BB)(l:Pt W (qZ g o (ZA (fE t BB (t+t+9))) c) (fE t BB (t+t+9)))(w:ZA (fE t BB (t+t+9))<=c):cZ 106 #[qZ g o (ZA (fE t BB (t+t+9))) c] W (rZ W λe W'=>∃e',e=.tuple #[e',iZ 0]/\RdB W.heap.size t BB e' W'):=by
 have P:=k.2.1;have Q:=lW k;have v:=sW k (t+t+9) (XH _);rw[rW]at v;obtain⟨d,hG⟩:=Mr k;have m:∀j b,BB[j]? = some b->chk (fE t BB (t+t+9)) t j=b:=λj b=>O4 k
 generalize fE t BB (t+t+9)=s at v d hG m l w;obtain⟨q,N,e,h|⟨M,O,C,H,A⟩⟩:=l
 .omega
 injection e with e1 e2 e3
 rw[C]at e1;injection e1 with e1
 injection e1 with e1 e4 e5
 subst e1 e4;have:=JW s g o c oM w oM W H A;rw[d]at this;refine this.mono λe W' h=>?_
 obtain⟨I,p,z,D,B,rfl,v1,v2,F,y,a,K,G,-,E,-,gl,r,x,i⟩:=Ka h hG;refine⟨_,rfl,I,_,rfl,⟨p,z,D,rfl,v1,v2,F,y,⟨gl,r,x,i,λd=>⟨a gl 0 x d,K r 0 i d⟩⟩,λj J=>?_⟩⟩;obtain⟨u,L,hf⟩:=E j J;have f:BB[j]? = some BB[j]:=XV oM;refine⟨u,_,L,f,?_⟩;have hf:=hf.own;rw[m j _ f]at hf;have n:=YZ (xB k f);unfold fH at n;simp only[Zh,Zc,Yf,or_false,yB9]at n;exact(wW hf (by omega)).mono2 λg _ k=>XN G k
end
section
open SPA
variable {P:Nat}[NeZero P]{N:Nat}
def fsB(V:Nat->Bs):Nat->Bs
 | 0=>#[]
 | s+1=>fsB V s++V s
def zD{V:Nat->Bs}{m:Nat}(h:∀s,(V s).size=m):∀s,(fsB V s).size=m*s
 | 0=>rfl
 | s+1=>by
  rw[show fsB V (s+1)=fsB V s++V s from rfl,Ys,zD h s,h,Nat.mul_succ]
def FD{a b:Nat}(c:a<4294967296)(k:b<4294967296):∀s,amN s a b<4294967296
 | 0=>c
 | _+1=>k
def J4{W W':XF}{k:Nat}{vs:List XG}(h:Row W k vs)(c:W.heap.size<=W'.heap.size)(e:W'.heap[k]? = W.heap[k]?):Row W' k vs:=by
 refine⟨XI h.1 c,λj u b=>?_,λj b=>?_⟩
 .have:=h.2.1 j u b;unfold YY at this⊢;rw[e];exact this
 .have:=h.2.2 j b;unfold YY Zt at this⊢;rw[e];exact this
def Xp(x:Int)(w:XF):(YF 23 1 #[(0,.int .u8 x)]).run prog w=.ok (sZ w.heap.size 1 1) (w.alloc (.cells [Y1 .u8 x].toArray 5)):=kR
def VA(e c1 c b c2 k f d:Nat)(w:XF):(YF 27 3 #[(0,sZ e 1 c1),(1,sZ c b c2),(2,sZ k f d)]).run prog w=.ok (sZ w.heap.size 3 3) (w.alloc (.cells [sZ e 1 c1,sZ c b c2,sZ k f d].toArray 23)):=kR
def Ux(b m:Nat)(B:Bs):S1:=⟨λx W=>ElQ (b<=·) m W x B,λ_ _ _ k h=>h.keep (Kq.of_below k)⟩
def PrT.below{T:Bs}{e:XG}{w w':XF}(h:PrT T e w)(b:kZ w w'):PrT T e w':=⟨h.cs,λc W k us vs d g f=>h.put c W k us vs (b.trans (d.mono b.size)) g f⟩
def Uv(T:Bs):S1:=⟨λx W=>∃e',x=.tuple #[e',iZ 0]/\PrT T e' W,λ_ _ _ k ⟨e',b,c⟩=>⟨e',b,c.below k⟩⟩
def WL(T:Bs):S1:=⟨λx W=>PrT T x W,λ_ _ _ k h=>h.below k⟩
def ElQ.part{Q:Nat->Prop}{W:XF}{x:XG}{b:Bs}(h:ElQ Q 32 W x b):∃q c,x=.slice q 32 c/\PartOk W x b.toList:=by
 obtain⟨k,c,rfl,f,d,-,-,e⟩:=h;exact⟨_,_,rfl,some (aZ k),k,0,c,b,by rw[d],rfl,oM,oM,Yd ⟨rfl,e⟩⟩
def Ie(O:Ord N)(k a b i:Nat)(hi:i<4294967296)(ha:a<4294967296)(p:b<4294967296)(G:Bs)(k7:G.size=32)(l:Option Y4)(sc:Nat)(V T:Nat->Bs)(hV:∀s,(V s).size=33)(hT:∀s,(T s).size=623)(hC:∀s,Gives 14 #[nv (amN s a b),nv (blN N G s i)] (pvl (V s)))
 (kp:∀s (l:Option Y4) (sc:Nat) (v1:XG) (w:XF),Arg w v1 (bx (blN N G s i))->PartOk w (.slice l 32 sc) (psB G s i).toList->cZ 20 #[uZ (amN s a b:Int),v1,iZ 32,.slice l 32 sc] w (rZ w λe w'=>∃e',e=.tuple #[e',iZ 0]/\PrT (T s) e' w'))
 (w:XF) (hs:PartOk w (.slice l 32 sc) G.toList) :
 cZ 7 #[.slice l 32 sc,.int .u32 i,.agg (opC k a b).toArray] w (rZ w λe w'=>ElQ (w.heap.size<=·) 1313 w' e (#[XY k]++fsB V 2++fsB T 2)):=by
 refine hG w.heap.size λk5 h5=>?_
 refine hG (lZ w (opC k a b) 26) λw1 hy=>?_
 have K1:=mk1 ((Mp.start w).new h5 hy);have B:=Ho k a b w;rw[h5.out,hy.out]at B;have HS:=mk1 (λW=>wR O W);have HA:=mk1 (VP k a b);have HB:=mk1 (λs (W:XF) (p:kZ w W)=>Qs O s i hi G k7 l sc W (hs.below p));have HP:=mk1 (λs (W:XF) (p:kZ w W)=>Ur (N:=N) s i hi G k7 l sc W (hs.below p));have HO:=mk1 (λs=>rX (amN s a b) (Nat.lt_trans (FD ha p s) dC));have L:=mk3 hC kp (Y0 hV hT);obtain⟨vo,kz⟩:=hE (Yg (opC k a b).toArray);rw[kz.out]at B⊢;go_enter func7,ntmps7;refine PW.bg [] ?_;refine PW.ns B ?_;refine PW.en [nZ] ?_;refine PW.rg [nZ,nZ] ?_;refine XL<|PW.bg [] ?_
 refine PW.ca (HS w1) ?_;rintro e w3 ⟨h0,g,rfl,hg,hn⟩;refine PW.en [iZ 2,iZ 0] ?_;have H:=mk1 (K1.add h0 hn hg);have W0:Hid (Wt w3 w3 nZ nZ (fsB V 0) (fsB T 0)):=⟨XX _ _,⟨rfl,Yk ⟨rfl,rfl⟩⟩,⟨rfl,Yk ⟨rfl,rfl⟩⟩,λg e=>by cases e⟩
 apply Zk;go_loopg [7,8,19] 2 (λgk s7 s8 s19 wr=>∃s:Nat,s+gk=2/\s19=iZ s/\Hid (Wt w3 wr s7 s8 (fsB V s) (fsB T s)))
 case atStart=>exact⟨0,oM,rfl,W0⟩
 case round =>
  obtain⟨s,ba,rfl,K⟩:=hrel;by_cases hs:s<2
  .have k9:(s:Int)<2:=oM;have kn:Yt.wrap ((s:Int)+1)=((s+1:Nat):Int):=by rw[Zo];omega
   refine hG wr.heap.size λf F=>?_
   refine hG (lZ wr z7 61) λw4 q=>?_
   refine hG (w4.setCells f 0 (sdC N s)) λJ t=>?_
   have M4:=mk1 ((Mp.start wr).new F q);have n:=mk1 (M4.put 0 t);have R0:=Gg hs ((H.at_ 1).below K.bl);obtain⟨vs,hq⟩:=hE (Yg (sdC N s).toArray);have hu:=λW p=>HB s W p
   have hc:=L.1 s;have h4:=λl sc v1 W=>L.2.1 s l sc v1 W
   have h8:=Ck O G s i;have S:(psB G s i).size=32:=A6 _ _ _ _;have he:=λW p=>HP s W p
   generalize blN N G s i=m at hu hc h4 h8;generalize psB G s i=ps at h4 he S;have H1:=mk3 hu hc (Y0 h4 he);refine PW.bg [.bool (decide ((s:Int)<2))] ?_;rw[decide_eq_true k9];refine PW.dn ?_;refine XL<|YH rfl<|Y2<|XL<|Zk<|PW.bg [] ?_
   refine PW.ns (GO hs) ?_;refine PW.ro R0 hq uSd iSd ?_;refine PW.al F q ?_;refine PW.st t hq (M4.th 0) iSd BC ?_;refine PW.dn ?_;apply XL;have kb:=mk1 (K.grow n.bl);have kc:=mk1 (H.bl.trans (kb.bl.mono H.bl.size));obtain⟨bb,D⟩:=hE (J.heap.size);have E:∀ {W},kZ J W->bb<=W.heap.size:=λh=>D.out ▸ h.size
   refine(gwL [pE (oZ f 2),pE (.func (.func (sdA s)) #[] #[]),pE (.agg (opC k a b).toArray),pE (uZ (amN s a b:Int)),pE (.agg (sdC N s).toArray),pE (.slice l 32 sc),pE (.int .u32 i),pE (nv m),RG.pN bb (RG.z 4)] (λW=>kZ J W) (λW W' p h=>h.trans (p.mono h.size))).tail2 9 kR kR kR ⟨
    gP 10 (jZ f) (oZ f 2),
    fC 0 23 f 2 (.func (.func (sdA s)) #[] #[]) TW (λx W h=>h) (λW d=>((n.at_ 0).below d).2.1 2 _ rfl) (λ_=>rfl),
    gLo (cs:=opC k a b) 5 (λW d=>(((H.at_ 0).below kb.bl).below d).2.1) uOp iOp,
    gw_cv 1 24 2 25 (Qp s) (λx W h=>h) (λy W C d=>by
     obtain rfl:y=.agg (opC k a b).toArray:=C;exact HA s W),
    gLo (cs:=sdC N s) 10 (λW d=>((n.at_ 0).below d).2.1) uSd iSd,
    gP 0 (.slice l 32 sc) (.slice l 32 sc),
    gP 1 (.int .u32 i) (.int .u32 i),
    nJ 4 27 5 28 6 29 18 (λx y z=>#[x,y,z]) (λx y z W C Y e3 d=>by
     obtain rfl:x=.agg (sdC N s).toArray:=C;obtain rfl:y=.slice l 32 sc:=Y;obtain rfl:z=.int .u32 i:=e3;exact H1.1 W (kc.trans (d.mono kc.size))),
    uG (RG.z 4) 44 (λW W' h d=>⟨_,rfl,E d,h⟩),yE5⟩ ⟨rfl,rfl,rfl,XH _,λ_ _=>rfl⟩ ?_
   intro Vv w6 hR d;have e0:=hR 3 dC;have C:=hR 7 dC;obtain⟨A,Y,kk,h6⟩:=hR 8 dC;dsimp only[bY,YQ,Z4,Z5];rw[e0,C,Y];have b7:=mk1 h6;refine hG (w6.setCells A 0 (wn m)) λw7 hr=>?_
   have M6:=mk1 (n.add d h6 (D.out▸kk));have M7:=mk1 (M6.put 1 hr);obtain⟨vb,I⟩:=hE (nv m);rw[I.out];refine PW.go [uZ (amN s a b:Int)] ?_;refine PW.st hr I (M6.th 1) i40 aI ?_;refine PW.dn ?_;have ke:=mk1 (K.grow M7.bl);obtain⟨va,hz⟩:=hE (nv (amN s a b));obtain⟨vp,hk⟩:=hE (pvl (V s));have ku:Hid (∀W,cZ 15 #[uZ (amN s a b:Int)] W (rZ W λe w'=>e=va)):=hz.out▸HO s;have ko:Hid (∀W,cZ 14 #[va,vb] W (rZ W λe w'=>e=vp)):=hz.out▸I.out▸hk.out▸H1.2.1;have kf:Hid (∀W,cZ 19 #[vp] W (rZ W λe w'=>ElQ (W.heap.size<=·) 33 w' e (V s)/\∃g,e=r33 g)):=by rw[<-hk.out];exact λW=>eJ (L.2.2.1 s)
   have Q:∀g,wr.heap.size<=g->u7.ownBlock≠some g:=λg hg e=>oN ((bU K.oA e).2.1)
   have hl:wr.heap.size<=f:=F.out▸XH _;have k1:=(M7.lt (g:=A) (by simp)).1;refine XL<|AW.beg 6 6 ⟨M7.drew.at_ 0,M7.drew.at_ 1⟩ ?_
   refine AW.mv 0 ?_;refine AW.mv 1 ?_;refine AW.ro 3 (λW h=>h.2.2.1) I rSc nSc ?_;refine AW.gi 2 (λ_=>ku _) λW1 ki=>?_
   refine AW.gi 4 (λ_=>ko _) λW2 kj=>?_
   refine AW.ca 5 (λ_=>kf _) (λe w' h=>h.1) ?_;rintro e W3 ⟨h0,km,kx,rfl⟩;have b2:=(((ke.grow (show kZ w7 w7.drew from⟨rfl,rfl,rfl,XH _,λ_ _=>rfl⟩)).grow ki).grow kj).grow h0;obtain⟨g',c',e',-,-,-,-,hH⟩:=km;obtain rfl:kx=g':=by
    unfold r33 at e';injection e' with e' _ _
    injection e' with e'
    injection e' with e' _ _
   have k2:=L.2.2.1 s;have hf:=zD L.2.2.1 s;obtain⟨v7,W4,r1,kg,h9,hw⟩:=b2.app (c:=33) hH (by rw[hf,k2];omega);rw[k2]at r1;refine AW.nw 6 r1 (λhJ=>⟨J4 hJ.1 h9 (hw f hJ.1.1 (Q f hl)),J4 hJ.2 h9 (hw A hJ.2.1 (Q A k1))⟩) ?_;refine AW.nx 7 v7 ?_;refine AW.dn λhJ=>?_
   have ka:=mk1 kg;have RJ:=mk1 hJ;have b4:=mk1 (H.bl.trans (ka.bl.mono H.bl.size));obtain⟨bb,D⟩:=hE (W4.heap.size);have E:∀ {W},kZ W4 W->bb<=W.heap.size:=λh=>D.out ▸ h.size
   refine XL (P:=prog) ?_;refine(gwL [pE (uZ (amN s a b:Int)),pE (nv m),Ux bb 32 (bx m),pE (.agg (sdC N s).toArray),pE (.slice l 32 sc),pE (.int .u32 i),Ux bb 32 ps,Uv (T s),Uv (T s),WL (T s),pE (iZ 0),RG.pN bb z11] (λW=>kZ W4 W) (λW W' p h=>h.trans (p.mono h.size))).late 12 [10] (λj hj=>by
    obtain rfl:=Ze.1 hj;exact late1 13 8 38 λv W ⟨e',u,_⟩=>⟨iZ 0,rfl,λo ho W'=>by
     cases ho
     rw[u];kernel_rfl⟩) (FG ⟨al1 z11 66 yM,yE5⟩) kR kR kR ⟨
    gO 11 (uZ (amN s a b:Int)),
    gLo (cs:=wn m) 12 (λW d=>(RJ.2.below d).2.1) rSc nSc,
    oL 1 40 10 (λx=>#[x]) (λx W C d=>by
     obtain rfl:x=nv m:=C;exact(eI O h8 W).mono λe W' ⟨v,u,M,R,_⟩=>⟨v,u,M,R.mono2 λg _ hg=>XN (E d) hg⟩),
    gLo (cs:=sdC N s) 10 (λW d=>(RJ.1.below d).2.1) uSd iSd,
    gO 0 (.slice l 32 sc),
    gO 1 (.int .u32 i),
    nJ 3 42 4 43 5 44 21 (λx y z=>#[x,y,z]) (λx y z W C Y e3 d=>by
     obtain rfl:x=.agg (sdC N s).toArray:=C;obtain rfl:y=.slice l 32 sc:=Y;obtain rfl:z=.int .u32 i:=e3;apply(H1.2.2.2 W (b4.trans (d.mono b4.size))).mono;rintro e W' ⟨v,rfl,u,r,rfl,M,R⟩;exact⟨_,rfl,u,r,32,rfl,XH _,S,XN (E d) M,Holds.lt R (by rw[S];decide),R⟩),
    nJ 0 39 2 41 6 45 20 (λx y z=>#[x,y,iZ 32,z]) (λx y z W C Y e3 d=>by
     obtain rfl:x=uZ (amN s a b:Int):=C;obtain⟨U,c',rfl,R⟩:=ElQ.part e3;exact H1.2.2.1 U c' y W (ElQ.argS Y) R),
    Dk 7 46 id (λx W h=>h),
    bL λa W R=>by
     obtain⟨e',u,M⟩:=R.n 8 38 kR kR;exact⟨[(38,.tuple #[e',iZ 0])],e',W,⟨u,yE5⟩,kR,XX _ _,M⟩,
    bL λa W R=>by
     obtain⟨e',u,M⟩:=R.n 8 38 kR kR;exact⟨[(38,.tuple #[e',iZ 0])],iZ 0,W,⟨u,yE5⟩,kR,XX _ _,rfl⟩,
    uG z11 66 (λW W' h d=>⟨_,rfl,E d,h⟩),yE5⟩ ⟨rfl,rfl,rfl,XH _,λ_ _=>rfl⟩ ?_
   intro X w8 hR d hD;have PR:=hR 9 dC;have kh:=hR 10 dC;obtain⟨k6,kt,b5,k4⟩:=hR 11 dC;dsimp only[bY,YQ,Z4,Z5];simp only[Yo,XJ,XM,XO];rw[kh,kt];obtain⟨cs,kd,R,ky⟩:=PR.cs;have k3:gZ 66 cs.length:=by rw[R];exact iAr
   refine hG (w8.setCells k6 0 cs) λw9 U=>?_
   have h7:=mk1 ((Mp.start W4).add d k4 (D.out▸b5));have MX:=mk1 (h7.put 0 U rfl (by rw[R];rfl));have kl:=PR.put w8 w9 k6 cs _ (XX _ _) k4 (U.out▸XX _ _);refine PW.st U kd (h7.th 0 rfl (by rw[R];rfl)) k3 ky ?_;refine PW.en [iZ 0] ?_;have kr:=mk1 (ka.grow MX.bl);refine PW.bg (P:=prog) [] ?_;refine PW.ro (MX.at_ 0).2.1 kd uAr k3 ?_;refine PW.ca kl ?_;rintro e b8 ⟨ht,k8,Z,rfl,b6,bc,k0⟩;refine PW.en [sZ k8 623 Z,iZ 0,sZ k8 623 Z,iZ 0] ?_;have hf:=zD L.2.2.2 s;have hm:=L.2.2.2 s;obtain⟨v8,b9,r2,b3,-,-⟩:=(kr.grow ht).swap.app (c:=Z) k0 (by rw[hf,hm];omega);rw[hm]at r2;have kv:=mk1 b3.swap;refine PW.bb (P:=prog) [] ?_;refine PW.ns r2 ?_;refine PW.en [v8] ?_;refine PW.bb (P:=prog) [iZ (Yt.wrap ((s:Int)+1))] ?_;rw[kn];go_wp2;go_roundg (gk-1)
   case measure=>omega
   case rel=>exact⟨s+1,oM,rfl,kv⟩
  .have k9:¬(s:Int)<2:=oM;obtain rfl:s=2:=oM;have Q:=zD L.2.2.1 2;have R:=zD L.2.2.2 2;have U:=wW K.oA (by rw[Q];decide);have S:=wW K.oB (by rw[R];decide);have Q0:=((H.at_ 0).below K.bl).2.1 0 _ rfl;have bw:=mk1 (H.bl.trans (K.bl.mono H.bl.size));generalize fsB V 2=E at U Q⊢;generalize fsB T 2=C at S R⊢;rw[Q]at U;rw[R]at S;have F:=mk2 U S;obtain⟨g7,c7,rfl,-⟩:=U;obtain⟨g8,c8,rfl,-⟩:=S;clear K H;refine hG wr.heap.size λD d=>?_
   refine hG (wr.alloc (.cells [Y1 .u8 (yBj.wrap (k:Int))].toArray 5)) λw4 q=>?_
   have B1:=Xp (yBj.wrap (k:Int)) wr;rw[d.out,q.out]at B1;refine hG w4.heap.size λkw f=>?_
   refine hG (w4.alloc (.cells [sZ D 1 1,sZ g7 (33*2) c7,sZ g8 (623*2) c8].toArray 23)) λJ t=>?_
   have B2:=VA D 1 g7 (33*2) c7 g8 (623*2) c8 w4;rw[f.out,t.out]at B2;have n:=mk1 (((Mp.start wr).new d q).new f t);have A:=Dt kw 3 3 (λj=>if j=0 then #[XY k] else if j=1 then E else C) dC (λj hj=>by
    match j,hj with
    | 0,_=>show 1<=_;decide
    | 1,_=>show E.size<=_;omega
    | 2,_=>show C.size<=_;omega) J (n.at_ 1).1 (λj hj=>by
    match j,hj with
    | 0,_=>exact⟨_,(n.at_ 1).2.1 0 _ rfl,D,1,rfl,XH _,rfl,(n.at_ 0).1,λi hi=>by
     obtain rfl:i=0:=by have:i<1:=hi;omega
     have u:=(n.at_ 0).2.1 0 _ rfl;have M:=((show Row J D [.int .u8 (yBj.wrap (k:Int))] from n.at_ 0).2.2 0 yD8).2;rw[PL]at u;exact⟨u,M⟩⟩
    | 1,_=>exact⟨_,(n.at_ 1).2.1 1 _ rfl,by rw[show(if 1=0 then #[XY k] else if 1=1 then E else C)=E from rfl,Q];exact(F.1.keep (Kq.of_below n.bl)).el⟩
    | 2,_=>exact⟨_,(n.at_ 1).2.1 2 _ rfl,by rw[show(if 2=0 then #[XY k] else if 2=1 then E else C)=C from rfl,R];exact(F.2.keep (Kq.of_below n.bl)).el⟩)
   have eL:iH (λj=>if j=0 then #[XY k] else if j=1 then E else C) 3=(#[XY k]++E++C).toList:=by
    rw[iF,iF,iF];simp[iH]
   have M:(#[XY k]++E++C).size=1313:=by rw[Ys,Ys,Q,R];rfl
   rw[eL]at A;generalize #[XY k]++E++C=X at A M⊢;have Y:=mk1 A;have I:=mk1 (bw.trans (n.bl.mono bw.size));clear A eL F n bw d f q t;refine PW.rg [fZ] ?_;refine XL<|Yh rfl<|yBt<|PW.bg (P:=prog) [jZ k5] ?_
   refine PW.ce Q0 u3r ?_;refine PW.go [.int .u8 (yBj.wrap (k:Int))] ?_;refine PW.ns B1 ?_;refine PW.go [] ?_;refine PW.ns B2 ?_;refine PW.ca Y ?_;rintro e w6 ⟨Z,u⟩;refine PW.en [e] ?_;have hE:=wW (b:=X) (show w6.ownsRow J.heap.size 5 1 e X.size (bC X) by rw[Array.length_toList]at u;exact u) oM;rw[M]at hE;have KE:=mk2 (I.trans (Z.mono I.size)) (hE.mono2 (Q':=(w.heap.size<=·)) λg _ hg=>XN I.size hg);go_wp2;go_ret;exact⟨_,rfl,KE.1,KE.2⟩
end
section
open SPA
def BG{Q:Nat->Prop}{W:XF}{v:XG}{b:Bs}(h:ElQ Q 33 W v b):∃g,v=q33 g:=by
 obtain⟨k,c,rfl,-⟩:=h;exact⟨(k,c),rfl⟩
def Es{Q:Nat->Prop}{W:XF}{v:XG}{b:Bs}(h:ElQ Q 32 W v b):∃g,v=q32 g:=by
 obtain⟨k,c,rfl,-⟩:=h;exact⟨(k,c),rfl⟩
def RdB.v{B t:Nat}{p:Rp}{d Rb:Nat->Bs}{r m:Bs}{e:XG}{W:XF}(D:kV t t (rgB t p d Rb r m))(h:RdB B t (rgB t p d Rb r m) e W):RgV t p d Rb r m e W:=by
 obtain⟨q,f,i,rfl,v1,v2,Q,H,⟨gl,Y,U,hr,-⟩,T⟩:=h.ex;have O:=lW D;have E:∀(j:Nat) (b:Bs) (u:XG) (n:Nat),(rgB t p d Rb r m)[j]? = some b->(qY q f i)[j]? = some u->(fH t t)[j]? = some n->ElQ (λ_=>True) n W u b:=λj b u n k y C=>by
  have c:=(XT.1 k).1;obtain⟨z,F,v,w,A⟩:=T j oM;rw[k]at w;rw[y]at v;obtain rfl:=X5.inj w;obtain rfl:=X5.inj v;have x:=xB D k;rw[C]at x;rw[X5.inj x];exact A.mono2 λ_ _ _=>trivial
 have F:=E 0 p.a q.a.v 33 rfl rfl rfl;have K:=E 1 p.s q.b.v 33 rfl rfl rfl;have e3:=E 2 p.c q.c.v 33 rfl rfl rfl;have P:=E 3 p.d q.d.v 33 rfl rfl rfl;have M:=E 4 (bx p.u) q.e.v 32 rfl rfl rfl;have G:=E 5 (bx p.m) q.f.v 32 rfl rfl rfl;have J:=E 6 (bx p.t) q.g.v 32 rfl rfl rfl;have x:f.length=t:=by rw[v1.len,Q]
 have z:i.length=t:=by rw[v2.len,H]
 have eL:∀j,j<t->∃u,f[j]? = some u/\ElQ (λ_=>True) 33 W u (d j):=λj c=>by
  refine⟨f[j],XV oM,E (7+j) (d j) f[j] 33 ?_ ?_ ?_⟩
  .unfold rgB;rw[X1 (by simp;omega),X1 (by simp;omega),X4 (by simp)];simp[c]
  .unfold qY;rw[X1 (by simp;omega),X1 (by simp;omega),X4 (by simp)];simp[x,c]
  .unfold fH;rw[X1 (by simp;omega),X1 (by simp;omega),X4 (by simp)];simp[c]
 have Z:∀j,j<t->∃u,i[j]? = some u/\ElQ (λ_=>True) 33 W u (Rb j):=λj c=>by
  refine⟨i[j],XV oM,E (7+t+j) (Rb j) i[j] 33 ?_ ?_ ?_⟩
  .unfold rgB;rw[X1 (by simp;omega),X4 (by simp;omega)];simp[c,show 7+t+j-(t+1+1+1+1+1+1+1)=j by omega]
  .unfold qY;rw[X1 (by simp;omega),X4 (by simp;omega)];simp[x,z,c,show 7+t+j-(t+1+1+1+1+1+1+1)=j by omega]
  .unfold fH;rw[X1 (by simp;omega),X4 (by simp;omega)];simp[c,show 7+t+j-(t+1+1+1+1+1+1+1)=j by omega]
 have V:=E (7+t+t) r q.x.v 32 (by
  unfold rgB;rw[X4 (by simp;omega)];simp[show 7+t+t-(t+t+1+1+1+1+1+1+1)=0 by omega]) (by
  unfold qY;rw[X4 (by simp;omega)];simp[x,z,show 7+t+t-(t+t+1+1+1+1+1+1+1)=0 by omega]) (by
  unfold fH;rw[X4 (by simp;omega)];simp[show 7+t+t-(t+t+1+1+1+1+1+1+1)=0 by omega])
 have S:=E (7+t+t+1) m q.y.v 32 (by
  unfold rgB;rw[X4 (by simp;omega)];simp[show 7+t+t+1-(t+t+1+1+1+1+1+1+1)=1 by omega]) (by
  unfold qY;rw[X4 (by simp;omega)];simp[x,z,show 7+t+t+1-(t+t+1+1+1+1+1+1+1)=1 by omega]) (by
  unfold fH;rw[X4 (by simp;omega)];simp[show 7+t+t+1-(t+t+1+1+1+1+1+1+1)=1 by omega])
 have tv:∀(s:Sv) (l:List XG) (g:Nat) (B:Nat->Bs),VL W s.q s.n l->s.n=t->s.q=some (aZ g)->(∀j,j<t->∃u,l[j]? = some u/\ElQ (λ_=>True) 33 W u (B j))->TlV t W s.v B:=λs l g B hv R N X=>by
  refine⟨s.q,s.c,by unfold Sv.v;rw[R],λI=>⟨g,N,?_⟩⟩;rcases hv.cells with k|⟨b,o,k,y,C⟩
  .have:=hv.len;rw[k,R]at this;exact absurd this (by simp;omega)
  .rw[N]at k;injection k with k
   injection k with k v _
   subst k v;refine⟨y,λj c=>?_⟩;obtain⟨u,w,A⟩:=X j c;have:=C j u w;rw[XQ]at this;exact⟨u,this,A.arg⟩
 obtain⟨a1,w⟩:=BG F;obtain⟨a2,f2⟩:=BG K;obtain⟨a3,f3⟩:=BG e3;obtain⟨a4,L⟩:=BG P;obtain⟨a5,v⟩:=Es M;obtain⟨a6,I⟩:=Es G;obtain⟨a7,A⟩:=Es J;refine⟨a1,a2,a3,a4,a5,a6,a7,q.l.v,q.r.v,q.x.v,q.y.v,?_,⟨w ▸ F,f2 ▸ K,f3 ▸ e3,L ▸ P,v ▸ M,I ▸ G,A ▸ J⟩,tv q.l f gl d v1 Q U eL,tv q.r i Y Rb v2 H hr Z,V,S⟩;rw[<-w,<-f2,<-f3,<-L,<-v,<-I,<-A];rfl
def FS{B t:Nat}{W W':XF}{q:Option Y4}{g m:Nat}{ys:List XG}(h:VL W q m ys)(n:q=some (aZ g))(i:0<t->B<=g)(r:m=t)(d:Kq (B<=·) W W'):VL W' q m ys:=by
 refine⟨h.len,h.nil,?_,h.one⟩;rcases h.cells with c|⟨b,o,k,f,l⟩
 .exact Yk c
 .by_cases c:0<t
  .have e:b=g:=by
    rw[n]at k;injection k with k
    injection k with k _ _
    exact k.symm
   subst e;refine Yd ⟨b,o,k,XI f d.1,λj u p=>?_⟩;have:=l j u p;unfold YY at this⊢;rw[d.2 b (i c) f];exact this
  .exact Yk (yC0.1 (by rw[h.len];omega))
def RdB.keep{B t:Nat}{BB:List Bs}{e:XG}{W W':XF}(h:RdB B t BB e W)(c:Kq (B<=·) W W'):RdB B t BB e W':=by
 obtain⟨p,m,n,s,v1,v2,g,f,⟨gl,l,i,d,k⟩,o⟩:=h.ex;refine⟨p,m,n,s,FS v1 i (λh=>(k h).1) g c,FS v2 d (λh=>(k h).2) f c,g,f,⟨gl,l,i,d,k⟩,λj w=>?_⟩;obtain⟨u,b,q,v,r⟩:=o j w;exact⟨u,b,q,v,r.keep c⟩
structure VrT(B:Nat)(V:Bs)(e:XG)(w:XF):Prop where
 cs:∃cs:List XG,Hid (.agg cs.toArray=e)/\cs.length=11/\cs.toArray.all (·.oneCell')=true
 ver:∀(W:XF) (v0:XG),Kq (B<=·) w W->Arg33 W v0 V->cZ 61 #[v0,iZ 32,e] W (rZ W λx W'=>x=tZ)
variable {P:Nat}[NeZero P]{N:Nat}[NeZero N]
def NQ{v:Nat}{k:Fin N}{A:List UInt8}(C:Fld P)(O:Ord N)(d:∀r:EC.Pt P,On r->mul N r=none)(B:IsP N)(J:18446744073709551616<=N)(hv:v<4294967296):∃V T:Bs,V=wP ((aD C d).cm (hPV C) (gPG C) (ofF N v) k)/\T.size=623 /\
 (∀(i:Option Y4) (sc:Nat) (v1:XG) (w:XF),Arg w v1 (bx k.val)->PartOk w (.slice i 32 sc) A->cZ 20 #[uZ v,v1,iZ 32,.slice i 32 sc] w (rZ w λe w'=>∃e',e=.tuple #[e',iZ 0]/\PrT T e' w')) /\
 ∀(g o c:Nat) (w:XF),g<w.heap.size->hZ w g o T->623<=c->cZ 106 #[qZ g o 623 c] w (rZ w λe w'=>∃e',e=.tuple #[e',iZ 0]/\VrT w.heap.size V e' w'):=by
 have F:Wd 32 5:=⟨rfl,dC,dC⟩
 obtain⟨V,D,R,Rb,G,K,L,H,Q,ok,S,p,z,f⟩:=NG C O d B J F v hv k A;have l:=OP (t:=5) dC ok S p z f;have s:=sW l 19 (XH _);rw[show offs 5 19=623 from rW]at s;have b:=s;refine⟨V,fE 5 (rgB 5 D R Rb G K) 19,L,s,λi sc v1 w z m=>(H i sc v1 w z m).mono ?_,λg o c w n M j=>?_⟩
 .rintro e w' ⟨X,rfl,f,e',Y,rfl,-,hR⟩;obtain⟨cs,c1,c2,E,-⟩:=hR.cl dC;refine⟨_,rfl,f,e',rfl,⟨cs,c1,c2,E⟩,λU W k us vs q p u=>((((hR.below q).set0 dC p).below u).put dC dC).mono ?_⟩;rintro x W' ⟨y,rfl,a,I,rfl,m,g,c,rfl,j⟩;have hh:=pt_holds m (by rw[b];decide);rw[b]at j;exact⟨_,rfl,a,g,c,by rw[b],j,hh.1,hh.2⟩
 .have hR:=J9 l ⟨_,c,rfl,Yd ⟨g,o,rfl,n,M⟩⟩ (by rw[b];exact j);rw[b]at hR;refine hR.mono ?_;rintro e w' ⟨y,rfl,f,e',rfl,u⟩;obtain⟨a,I,U,rfl,-⟩:=id u.ex;refine⟨_,rfl,f,_,rfl,⟨a.cs,rfl,rfl,by simp only[List.all_toArray,Rg.cs,rgC,Sv.v,List.all_cons,List.all_nil];rfl⟩,λW v0 q E=>Q _ v0 W E ((u.keep q).v l)⟩
end
section
open SPA
variable {P:Nat}[NeZero P]{N:Nat}
def VrT.keep{B:Nat}{V:Bs}{e:XG}{w w':XF}(h:VrT B V e w)(k:Kq (B<=·) w w'):VrT B V e w':=⟨h.cs,λW v0 b f=>h.ver W v0 ⟨XN k.size b.size,λg c d=>(b.block g c (XI d k.size)).trans (k.block g c d)⟩ f⟩
def Um(V:Bs)(v:XG)(w:XF)(hR:∀W,kZ w W->cZ 106 #[v] W (rZ W λe w'=>∃e',e=.tuple #[e',iZ 0]/\VrT W.heap.size V e' w')):
 cZ 60 #[v] w (rZ w λe w'=>∃e' B,e=.tuple #[e',tZ]/\w.heap.size<=B/\VrT B V e' w'):=by
 refine hG w.heap.size λq l=>?_
 refine hG (lZ w z11 66) λu n=>?_
 have o:=mk1 ((Mp.start w).new l n);have E:=(o.at_ 0).1;have I:=mk1 (hR u o.bl);go_enter func60,ntmps60;refine PW.bg [] ?_;refine PW.al l n ?_;refine PW.en [fZ] ?_;refine PW.bg [] ?_;refine PW.ca I ?_;rintro e p ⟨s,e',rfl,y⟩;obtain⟨cs,d,k,m⟩:=y.cs;have b:gZ 66 cs.length:=by rw[k];exact iAr
 refine hG p.heap.size λH f=>?_
 refine hG (lZ p z11 66) λF i=>?_
 refine hG (F.setCells H 0 cs) λa j=>?_
 refine hG (a.setCells q 0 cs) λD c=>?_
 have G:=mk1 (o.grow s);have t:=mk1 (G.new f i);have r:=mk1 (t.put 1 j rfl (by rw[k];rfl));have z:=mk1 (r.put 0 c rfl (by rw[k];rfl));have C:=((Mp.start p).new f i).put 0 j rfl (by rw[k];rfl);have kq:Kq (u.heap.size<=·) p D:=by
  refine⟨?_,λg J x=>?_⟩
  .rw[<-c.out,setCells_size];exact C.bl.size
  .rw[<-c.out,aE (k:=q) cs 0 a g (by omega)];exact C.bl.block g x
 have x:=mk2 (y.keep kq) o.bl.size;refine PW.go [e',iZ 0] ?_;refine PW.al f i ?_;refine PW.st j d (t.th 1 rfl (by rw[k];rfl)) b m ?_;refine PW.en [iZ 0] ?_;refine PW.bg [] ?_;refine PW.ro (r.at_ 1).2.1 d uAr b ?_;refine PW.go [tZ] ?_;refine PW.st c d (r.th 0 rfl (by rw[k];rfl)) b m ?_;refine PW.en [tZ] ?_;refine Zj<|XR (fG 2 3 rfl (show D.rangeAt q 0 cs from(z.at_ 0).2.1) rfl rfl uAr b) rfl ?_
 exact⟨_,rfl,z.bl,e',_,by rw[d.out];rfl,x.2,x.1⟩
def CW(b d c m n cap:Nat)(w:XF)(s:0<c)(a:n=c*m)(x:m<=1024)(g:n<=cap)(i:n<=1073741824):
 cZ 58 #[qZ b d n cap,iZ c] w (rZ w λe w'=>w'.ownsRow w.heap.size 23 1 e m ((List.range m).map (chv b d c))):=by
 obtain⟨y,f⟩:=hE ((w.alloc (.cells #[qZ b d n cap] 23)).alloc (.cells #[iZ c] 3));obtain⟨k,v⟩:=hE w.heap.size;have u:=row_new w [qZ b d n cap] 23;have a2:=row_new (w.alloc (.cells #[qZ b d n cap] 23)) [iZ c] 3;have b1:=aC (w:=w) (.cells #[qZ b d n cap] 23);have r:=aC (w:=(w.alloc (.cells #[qZ b d n cap] 23))) (.cells #[iZ c] 3);have l:=Row.below u r;have z:(w.alloc (.cells #[qZ b d n cap] 23)).heap.size=w.heap.size+1:=XS _ _;rw[z]at a2;have bb:=b1.trans (r.mono b1.size);have p:=Mj b d n cap s w;have t:=Mi b d y s a x g i w.heap.size (f.out▸a2.1) (f.out▸l.2.1 0 _ rfl) (f.out▸a2.2.1 0 _ rfl);rw[f.out]at p bb;rw[v.out]at p t;have j:=mk3 p t bb;go_enter func58,ntmps58;refine PW.rg [nZ] ?_;refine PW.bg [] ?_;refine PW.ca j.1 ?_;rintro e B ⟨rfl,rfl⟩;refine PW.ca j.2.1 ?_;rintro e C ⟨o,ho,-⟩;refine PW.en [e] ?_;have q:=mk2 (j.2.2.trans (o.mono j.2.2.size)) (own_base ho j.2.2.size);go_wp2;go_ret;exact⟨_,rfl,q.1,q.2⟩
def z22:List XG:=List.replicate 22 nZ
def WQ(w:XF):(Instr.makeSlice 117 (iZ 2) (iZ 2)).run prog w=.ok (sZ w.heap.size 2 2) (w.alloc (.cells z22.toArray 66)):=kR
def UW{k i:Nat}(c:i<2)(w:XF):(YV 117 (sZ k 2 2) (iZ i)).run prog w=.ok (oZ k (11*i)) w:=by
 have d:¬(i:Int)<0:=oM;have e:(i:Int)<2:=oM;have b:=gU k 0 (11*i);rw[XQ]at b;go_simp
def V6:wZ 23:=wQ
def Vo:∀args W,(callFunc 60 args).run prog W=.ok (.enter 60 args) W:=λ_ _=>kR
def PrL(w W:XF)(K i:Nat)(V:Nat->Bs):Prop:=kZ w W/\w.heap.size<=K/\K<W.heap.size/\W.there K 0 22/\∀j,j<i->∃e cs B,Hid (.agg cs.toArray=e)/\cs.length=11/\W.rangeAt K (11*j) cs/\K<B/\VrT B (V j) e W
def PrL.grow{w W W':XF}{K i:Nat}{V:Nat->Bs}(h:PrL w W K i V)(k:kZ W W'):PrL w W' K i V:=by
 obtain⟨f,p,b,q,l⟩:=h;refine⟨f.trans (k.mono f.size),p,XI b k.size,λj c=>?_,λj c=>?_⟩
 .have:=q j c;have e:=k.block K b;unfold YY Zt at this⊢;rw[e];exact this
 .obtain⟨e,cs,B,o,m,g,n,d⟩:=l j c;exact⟨e,cs,B,o,m,range_below g k b,n,d.keep (Kq.of_below k)⟩
def PrL.put{w W W':XF}{K i:Nat}{V:Nat->Bs}{e:XG}{cs:List XG}{B:Nat}(h:PrL w W K i V)(a:i<2)(l:Hid (.agg cs.toArray=e))(y:cs.length=11)(b:K<B)(v:VrT B (V i) e W)(k:Hid (W.setCells K (11*i) cs=W')):W.there K (11*i) cs.length/\PrL w W' K (i+1) V:=by
 obtain⟨n,p,t,q,s⟩:=h;have th:W.there K (11*i) cs.length:=λj z=>by
  have:=q (11*i+j) oM;rw[XQ]at this;exact this
 have kq:∀B,K<B->Kq (B<=·) W W':=λB b=>by
  rw[<-k.out];exact⟨by rw[setCells_size];exact XH _,λg n _=>aE cs (11*i) W g oM⟩
 refine⟨th,k.out▸RG.below_setCells p _ _ _ n,p,by rw[<-k.out,setCells_size];exact t,?_,λj z=>?_⟩
 .rw[<-k.out];exact Za q _ _ _
 .by_cases d:j<i
  .obtain⟨e',c,m,x,u,r,o,f⟩:=s j d;refine⟨e',c,m,x,u,?_,o,f.keep (kq m o)⟩;rw[<-k.out];exact Yr r _ _ _ oM
  .obtain rfl:j=i:=oM;refine⟨e,cs,B,l,y,?_,b,v.keep (kq B b)⟩;rw[<-k.out];exact YW _ _ _ _ th
def Tu(g c:Nat)(V:Nat->Bs)(x:Nat->XG)(w:XF)(R:g<w.heap.size)(hx:∀i,i<2->w.cell? ⟨g,i,none⟩=some (x i))(hs:∀i,∃q n c,x i=.slice q n c)(hR:∀i W,i<2->kZ w W->cZ 60 #[x i] W (rZ W λe w'=>∃e' B,e=.tuple #[e',tZ]/\W.heap.size<=B/\VrT B (V i) e' w')):
 cZ 59 #[.func (.func 60) #[] #[],sZ g 2 c] w (Ret λe w'=>∃K,e=.tuple #[sZ K 2 2,tZ]/\PrL w w' K 2 V):=by
 refine hG w.heap.size λK C=>?_
 refine hG (lZ w z22 66) λL v=>?_
 have Q:=WQ w;rw[C.out,v.out]at Q;have D:=(Mp.start w).new C v;have Y:Hid (PrL w L K 0 V):=⟨D.bl,Nat.le_of_eq C,(D.at_ 0).1,(show Row L K z22 from D.at_ 0).2.2,λj hj=>absurd hj (yAh _)⟩
 have a:=mk3 R hx (Y0 hs hR);go_enter func59,ntmps59;refine PW.rg [nZ,fZ] ?_;refine PW.bg [iZ 2] ?_;refine PW.ns Q ?_;refine PW.en [sZ K 2 2] ?_;refine XL<|PW.rg [iZ 2,iZ 0] ?_
 apply Zk;go_loopg [16] 2 (λgk s16 wr=>∃i:Nat,i+gk=2/\s16=iZ i/\Hid (PrL w wr K i V))
 case atStart=>exact⟨0,oM,rfl,Y⟩
 case round =>
  obtain⟨i,h0,rfl,t⟩:=hrel;by_cases o:i<2
  .have y:(i:Int)<2:=oM;have E:Yt.wrap ((i:Int)+1)=((i+1:Nat):Int):=by rw[Zo];omega
   have M:wr.cell? ⟨g,i,none⟩=some (x i):=by rw[t.out.1.cell (p:=⟨g,i,none⟩) a.out.1];exact a.2.1 i o
   have f:=a.2.2.2 i wr o t.1;obtain⟨S,Z,T,ex⟩:=a.2.2.1 i;rw[ex]at M f;refine PW.bg [.bool (decide ((i:Int)<2))] ?_;rw[decide_eq_true y];refine PW.dn ?_;refine XL<|YH rfl<|Y2<|XL<|Zk<|PW.bg [] ?_
   refine PW.ns (UX o) ?_;refine PW.ce M V6 ?_;refine PW.en [iZ i,.slice S Z T] ?_;refine PW.bg [] ?_;refine PW.ca f ?_ rfl rfl (Fq Vo rfl rfl rfl);rintro e H ⟨G,e',B,rfl,A,N⟩;obtain⟨cs,k,b,l⟩:=N.cs;have d:gZ 66 cs.length:=by rw[b];exact iAr
   refine hG H.heap.size λX z=>?_
   refine hG (lZ H z11 66) λU m=>?_
   refine hG (U.setCells X 0 cs) λO r=>?_
   refine hG (O.setCells K (11*i) cs) λw6 u=>?_
   have I:=mk1 ((Mp.start H).new z m);have F:=mk1 (I.put 0 r rfl (by rw[b];rfl));have s:=((t.grow G).grow F.bl).put o k b (XI t.2.2.1 A) (N.keep (Kq.of_below F.bl)) u;have J:=mk2 s.1 s.2;refine PW.go [e',tZ] ?_;refine PW.al z m ?_;refine PW.st r k (I.th 0 rfl (by rw[b];rfl)) d l ?_;refine PW.en [tZ] ?_;refine XL<|PW.rg [fZ] ?_
   refine Yh rfl<|Y2<|PW.bb (P:=prog) [] ?_
   refine PW.ro (F.at_ 0).2.1 k uAr d ?_;refine PW.ns (UW o O) ?_;refine PW.st u k J.1 d l ?_;refine PW.dn ?_;refine PW.bb (P:=prog) [iZ (Yt.wrap ((i:Int)+1))] ?_;rw[E];go_wp2;go_roundg (gk-1)
   case measure=>omega
   case rel=>exact⟨i+1,oM,rfl,J.2⟩
  .have y:¬(i:Int)<2:=oM;obtain rfl:i=2:=oM;refine PW.rg [fZ] ?_;refine XL<|Yh rfl<|yBt<|PW.rg (P:=prog) [sZ K 2 2,tZ] ?_
   refine Zj<|XR (dT 4 5 rfl rfl rfl) rfl ?_
   exact⟨_,rfl,K,rfl,t⟩
end
section
open SPA
def U7(V:Nat->Bs):fsB V 2=V 0++V 1:=by
 show(#[]++V 0)++V 1=_;rw[Array.empty_append]
def qB{w:XF}{g o:Nat}{A B:Bs}(h:hZ w g o (A++B)):hZ w g o A/\hZ w g (o+A.size) B:=by
 refine⟨?_,?_⟩
 .have:=Holds.part (p:=0) (e:=A) h (by rw[Ys];omega) (λj k=>by
   rw[XQ,getElem!_pos A j k,getElem!_pos (A++B) j (by rw[Ys];omega),Array.getElem_append_left])
  exact this
 .exact Holds.part (p:=A.size) (e:=B) h (by rw[Ys];exact XH _) (λj k=>by
   rw[getElem!_pos B j k,getElem!_pos (A++B) (A.size+j) (by rw[Ys];omega),Array.getElem_append_right oM];simp)
def SX{W:XF}{g k:Nat}{V T:Nat->Bs}(d:∀s,(V s).size=33)(i:∀s,(T s).size=623)(h:hZ W g 0 (#[XY k]++fsB V 2++fsB T 2)):
 W.cell? ⟨g,0,none⟩=some (encB (XY k))/\(∀s,s<2->hZ W g (1+33*s) (V s))/\∀s,s<2->hZ W g (67+623*s) (T s):=by
 rw[U7,U7]at h;obtain⟨m,n⟩:=qB h;obtain⟨l,o⟩:=qB m;obtain⟨j,f⟩:=qB o;obtain⟨e,b⟩:=qB n;have z:(#[XY k]++(V 0++V 1)).size=67:=by rw[Ys,Ys,d,d];rfl
 rw[z]at e b;rw[d]at f;rw[i]at b;refine⟨(l 0 yD8).1,λs c=>?_,λs c=>?_⟩
 .match s,c with
  | 0,_=>exact j
  | 1,_=>exact f
 .match s,c with
  | 0,_=>exact e
  | 1,_=>exact b
def Ws{g c:Nat}{w:XF}(d:1313<=c):(ZH 23 (sZ g 1313 c) (some (iZ 1)) (some (iZ 67)) none).run prog w=.ok (qZ g 1 66 (c-1)) w:=by
 have b:¬c=1:=oM;have k:(67:Int)<=(c:Int):=oM;go_simp
def Re{g c:Nat}{w:XF}(b:1313<=c):(ZH 23 (sZ g 1313 c) (some (iZ 67)) none none).run prog w=.ok (qZ g 67 1246 (c-67)) w:=by
 have k:¬c=67:=oM;go_simp
def Xa{g c:Nat}{w:XF}:(YV 23 (sZ g 1313 c) (iZ 0)).run prog w=.ok (jZ g) w:=by
 go_simp
variable {P:Nat}[NeZero P]
def Rz(C:Fld P)(g c k:Nat)(hc:1313<=c)(R:1<=k)(h6:k<=3)(V T:Nat->Bs)(hV:∀s,(V s).size=33)(hT:∀s,(T s).size=623)(hp:∀s,∃p,rd P (V s)=some p)
 (O:∀s (g o c:Nat) (w:XF),g<w.heap.size->hZ w g o (T s)->623<=c->cZ 106 #[qZ g o 623 c] w (rZ w λe w'=>∃e',e=.tuple #[e',iZ 0]/\VrT w.heap.size (V s) e' w'))
 (w:XF) (hg:g<w.heap.size) (hH:hZ w g 0 (#[XY k]++fsB V 2++fsB T 2)) :
 cZ 30 #[sZ g 1313 c] w (rZ w λe w'=>∃K,e=.tuple #[sZ K 2 2,tZ]/\w.heap.size<=K/\K<w'.heap.size/\∀s,s<2->w'.rangeAt K (33*s) (aA (V s))):=by
 obtain⟨c0,h2,S⟩:=SX hV hT hH;have e8:encB (XY k)=.int .u8 k:=by
  show Y1 .u8 _=_
  congr 1
  rw[<-PL,IntKind.wrap_u8];omega
 rw[e8]at c0;have h8:Yt.wrap (k:Int)=(k:Int):=by rw[Zo];omega
 have HI:=mk1 (Qc R h6);have v:=mk3 h2 S hg;have J:=mk3 hV hp O;go_enter func30,ntmps30;refine PW.rg [nZ,fZ] ?_;refine XL<|PW.bg [iZ 1313,fZ] ?_
 refine PW.gd ?_;refine PW.go [] ?_;refine PW.gd ?_;refine PW.ns Xa ?_;refine PW.gd ?_;refine PW.ce c0 kR ?_;refine PW.gd ?_;refine PW.go [iZ (Yt.wrap (k:Int))] ?_;rw[h8];refine PW.gd ?_;refine PW.gi (HI w) λw1 q=>?_
 refine PW.gd ?_;refine PW.en [fZ,fZ] ?_;refine Yh rfl<|Y2<|PW.bg [] ?_
 refine PW.ns (Ws hc) ?_;refine PW.ca (CW g 1 33 2 66 (c-1) w1 dC rfl dC oM dC) ?_;rintro e w2 ⟨D,n⟩;have G:=q.trans (D.mono q.size);obtain⟨g2,c2,rfl⟩:=mW n dC;have hA:=FH C 2 c2 dC (L:=V) (bU n rfl).2.1 (λj x=>⟨chv g 1 33 j,jK n (by
  rw[YC,yBw x];rfl),some ⟨g,1+33*j,none⟩,33,33,rfl,J.1 j,λ_=>⟨g,1+33*j,rfl,XH _,XI v.2.2 G.size,Holds.below (v.1 j x) G v.2.2⟩⟩)
 refine PW.ca hA ?_;rintro e w3 ⟨h7,⟨-,K,rfl,t,h3,h0⟩|⟨⟨j,-,x⟩,-⟩⟩
 rotate_left
 .obtain⟨p,b⟩:=J.2.1 j;rw[x]at b;cases b
 have b3:=mk1 (G.trans (h7.mono G.size));have L:=mk3 (XN G.size t) h3 h0;refine PW.en [sZ K 2 2,tZ,sZ K 2 2,tZ] ?_;refine PW.bg [] ?_;refine PW.ns (Re hc) ?_;refine PW.ca (CW g 67 623 2 1246 (c-67) w3 dC rfl dC oM dC) ?_;rintro e w4 ⟨F,r⟩;obtain⟨g4,c4,rfl⟩:=mW r dC;have I:=b3.trans (F.mono b3.size);have hR:=Tu g4 c4 V (λj=>chv g 67 623 j) w4 (bU r rfl).2.1 (λj x=>jK r (by
  rw[YC,yBw x];rfl)) (λj=>⟨_,_,_,rfl⟩) (λs W d f=>Um (V s) _ W λW' b=>by
   have bb:=(I.trans (f.mono I.size)).trans (b.mono (XN I.size f.size));exact J.2.2 s g (67+623*s) 623 W' (XI v.2.2 bb.size) (Holds.below (v.2.1 s d) bb v.2.2) (XH _))
 refine PW.ca hR ?_;rintro e z ⟨K2,rfl,Y⟩;have l:=mk2 Y (Y0 I F);refine PW.en [sZ K2 2 2,tZ,sZ K2 2 2,tZ] ?_;refine XL<|PW.bg [fZ] ?_
 refine PW.gd ?_;refine PW.go [] ?_;refine PW.gd ?_;refine PW.en [fZ,fZ] ?_;refine Yh rfl<|Y2 ?_
 have m:=l.1.1;have b5:=mk1 (l.2.1.trans (m.mono l.2.1.size));have RK:Hid (∀s,s<2->z.rangeAt K (33*s) (aA (V s))):=λs d=>by
  have bb:=l.2.2.trans (m.mono l.2.2.size);exact range_below (L.2.2 s d) bb L.2.1
 have Q:=XI L.2.1 (XN l.2.2.size m.size);have HP:=mk1 l.1.2.2.2.2;have N:=l.1.2.2.1;have t:=L.1;have W0:=mk1 (XX z.heap.size z);refine XL<|PW.rg [iZ 2,iZ 0] ?_
 apply Zk;go_loopg [43] 2 (λgk s43 wr=>∃s:Nat,s+gk=2/\s43=iZ s/\Hid (kZ z wr))
 case atStart=>exact⟨0,oM,rfl,W0⟩
 case round =>
  obtain⟨s,he,rfl,u⟩:=hrel;by_cases d:s<2
  .have H:(s:Int)<2:=oM;have Z:Yt.wrap ((s:Int)+1)=((s+1:Nat):Int):=by rw[Zo];omega
   have b:=J.1 s;have lV:=aB b;have iV:(prog.info? 51).map (·.size)=some (aA (V s)).length:=by rw[aB b];exact iCP
   refine hG wr.heap.size λk9 a=>?_
   refine hG (lZ wr z33 51) λw7 A=>?_
   refine hG (w7.setCells k9 0 (aA (V s))) λw8 E=>?_
   have M7:=mk1 ((Mp.start wr).new a A);have M8:=mk1 (M7.put 0 E rfl lV);have R0:=range_below (RK s d) u Q;rw[<-XQ (33*s)]at R0;obtain⟨vp,i⟩:=hE (pvl (V s));obtain⟨ee,cs,B,h9,X,h5,ha,h1⟩:=HP s d;have h4:gZ 66 cs.length:=by rw[X];exact iAr
   have M:Hid (∀W,cZ 19 #[vp] W (rZ W λe w'=>ElQ (W.heap.size<=·) 33 w' e (V s)/\∃g,e=r33 g)):=by rw[<-i.out];exact λW=>eJ b
   have y:=mk1 (u.trans (M8.bl.mono u.size));refine PW.bg [.bool (decide ((s:Int)<2))] ?_;rw[decide_eq_true H];refine PW.dn ?_;refine XL<|YH rfl<|Y2<|XL<|Zk<|PW.bg [] ?_
   refine PW.ns (atP d wr) ?_;refine PW.ro R0 i uCP iV ?_;refine PW.al a A ?_;refine PW.go [iZ s] ?_;refine PW.st E i (M7.th 0 rfl lV) iV bQ ?_;refine PW.dn ?_;refine XL<|AW.beg 7 7 ⟨rfl,rfl,rfl,XH _,λ_ _=>rfl⟩ ?_
   refine AW.ro 0 (λW f=>((M8.at_ 0).below f).2.1) i uCP iV ?_;refine AW.mv 2 ?_;refine AW.mv 3 ?_;refine AW.iv 4 (UW d) ?_;refine AW.ro 5 (λW f=>range_below h5 (y.trans (f.mono y.size)) N) h9 uAr h4 ?_;refine AW.ca 1 (λ_=>M _) (λe w' h=>h.1) ?_;rintro e W1 ⟨q,U,hi,rfl⟩;refine AW.gi 6 (λf=>h1.ver W1 _ (Kq.of_below (y.trans (f.mono y.size))) U.arg) λW2 D=>?_
   refine AW.nx 7 fZ ?_;refine AW.dn λhJ=>?_
   have KC:=mk1 (y.trans (yEC hJ y.size));refine Yh (P:=prog) rfl ?_;refine Y2<|PW.bb (P:=prog) [iZ (Yt.wrap ((s:Int)+1))] ?_
   rw[Z];go_wp2;go_roundg (gk-1)
   case measure=>omega
   case rel=>exact⟨s+1,oM,rfl,KC⟩
  .have H:¬(s:Int)<2:=oM;obtain rfl:s=2:=oM;refine PW.rg [fZ] ?_;refine XL<|Yh rfl<|yBt<|PW.rg (P:=prog) [sZ K 2 2,tZ] ?_
   refine Zj<|XR (dT 2 3 rfl rfl rfl) rfl ?_
   exact⟨_,rfl,b5.trans (u.mono b5.size),K,rfl,t,XI Q u.size,λs d=>range_below (RK s d) u Q⟩
end
section
open SPA
variable {P:Nat}[NeZero P]{N:Nat}
def tmP(f:Nat->Nat->Nat × Bs):Nat->LB
 | 0=>[]
 | i+1=>(tmP f i++[f i 0])++[f i 1]
def tmQ(f:Nat->Nat->Nat × Bs)(i:Nat):Nat->LB
 | 0=>tmP f i
 | s+1=>tmQ f i s++[f i s]
def Bv(f:Nat->Nat->Nat × Bs):∀i,(tmP f i).length=2*i
 | 0=>rfl
 | i+1=>by
  show((tmP f i++[f i 0])++[f i 1]).length=_;rw[XP,XP,Bv f i];simp only[YA,ZD];omega
def FX(f:Nat->Nat->Nat × Bs)(i:Nat):∀s,(tmQ f i s).length=2*i+s
 | 0=>Bv f i
 | s+1=>by
  show(tmQ f i s++[f i s]).length=_;rw[XP,FX f i s];simp only[YA,ZD];omega
def JB{f:Nat->Nat->Nat × Bs}(h:∀i s,(f i s).2.size=33):∀i,∀x∈tmP f i,x.2.size=33
 | 0,x,hx=>by cases hx
 | i+1,x,hx=>by
  rcases Zh.1 hx with hx|hx
  .rcases Zh.1 hx with hx|hx
   .exact JB h i x hx
   .rw[Ze.1 hx];exact h i 0
  .rw[Ze.1 hx];exact h i 1
def Jz{i:Nat}{f:Nat->Nat->Nat × Bs}(h:∀i s,(f i s).2.size=33):∀s,∀x∈tmQ f i s,x.2.size=33
 | 0,x,hx=>JB h i x hx
 | s+1,x,hx=>by
  rcases Zh.1 hx with hx|hx
  .exact Jz h s x hx
  .rw[Ze.1 hx];exact h i s
def QQ:wZ 23:=wQ
def JE(O:Ord N)(q:Option Y4)(n c:Nat)(hn:n<=64)(V:Nat->Nat->Bs)(hV:∀i s,(V i s).size=33)(x:Nat->XG)(X:Bs)(hX:X.size=33)(w:XF)(hq:0<n->∃g,q=some (aZ g)/\g<w.heap.size/\∀i,i<n->w.cell? ⟨g,i,none⟩=some (x i))(r:∀i,∃q n c,x i=.slice q n c)
 (hR:∀i W,i<n->kZ w W->cZ 30 #[x i] W (rZ W λe w'=>∃K,e=.tuple #[sZ K 2 2,tZ]/\W.heap.size<=K/\K<w'.heap.size/\∀s,s<2->w'.rangeAt K (33*s) (aA (V i s))))
 (hP:∀(v:XG) (W:XF),SmZ 0 W v (tmP (λi s=>(sdW N s,V i s)) n)->(n=0->v=nZ)->cZ 33 #[v] W (rZ W λe w'=>e=pvl X)) :
 cZ 13 #[.slice q n c] w (rZ w λe w'=>e=.tuple #[pvl X,tZ]):=by
 obtain⟨f,hf⟩:=hE (λi s=>(sdW N s,V i s));rw[hf.out]at hP;have G:∀i s,(f i s).2.size=33:=λi s=>hf.out▸hV i s
 have HS:=mk1 (λW=>wR O W);refine hG w.heap.size λu L=>?_
 refine hG (lZ w z33 51) λw1 I=>?_
 have K1:=mk1 ((Mp.start w).new L I);have R:=mk3 hq r (Y0 hR hP);have S0:Hid (SmZ 0 w1 nZ (tmP f 0)/\Mp w w1 [(u,z33)] []):=⟨Yk ⟨rfl,rfl⟩,K1⟩
 clear hq r hR hP K1;go_enter func13,ntmps13;refine PW.bg [] ?_;refine PW.al L I ?_;refine PW.en [fZ] ?_;refine PW.rg [nZ] ?_;refine XL<|PW.rg [iZ n,iZ 0] ?_
 apply Zk;go_loopg [4,13] n (λgk s4 s13 wr=>∃i:Nat,i+gk=n/\s13=iZ i/\(i=0->s4=nZ)/\Hid (SmZ 0 wr s4 (tmP f i)/\Mp w wr [(u,z33)] []))
 case atStart=>exact⟨0,oM,rfl,λ_=>rfl,S0⟩
 case round =>
  obtain⟨i,hc,rfl,hz,k⟩:=hrel;by_cases Y:i<n
  .clear hz;have j:(i:Int)<(n:Int):=oM;have h4:Yt.wrap ((i:Int)+1)=((i+1:Nat):Int):=by rw[Zo];omega
   obtain⟨g,rfl,hg,hx⟩:=R.1 oM;have cx:wr.cell? ⟨g,i,none⟩=some (x i):=by rw[k.out.2.bl.cell (p:=⟨g,i,none⟩) hg];exact hx i Y
   have a:=R.2.2.1 i wr Y k.2.bl;obtain⟨q8,n8,c8,ex⟩:=R.2.1 i;rw[ex]at cx a;refine PW.bg [.bool (decide ((i:Int)<(n:Int)))] ?_;rw[decide_eq_true j];refine PW.dn ?_;refine XL<|YH rfl<|Y2<|XL<|Zk<|PW.bg [] ?_
   refine PW.ns (UX Y) ?_;refine PW.ce cx QQ ?_;refine PW.en [.slice q8 n8 c8] ?_;refine PW.bg [] ?_;refine PW.ca a ?_;rintro e A ⟨J,K,rfl,-,lK,rK⟩;have F:=mk2 (k.1.grow J) (k.2.grow J);have RK:=mk1 rK;refine PW.en [sZ K 2 2,tZ,sZ K 2 2,tZ] ?_;refine XL<|PW.rg [fZ] ?_
   refine Yh rfl<|Y2<|PW.bg [] ?_
   refine PW.ca (HS A) ?_;rintro e w6 ⟨o,S,rfl,h2,C⟩;refine PW.en [iZ 2,iZ 0] ?_;obtain⟨h3,h7⟩:∃x,x=gk:=⟨_,rfl⟩
   have S6:=mk3 (F.1.grow o) (F.2.add o C h2) o;apply Zk;go_loopg [4,27] 2 (λgk s4 s27 wr=>∃s:Nat,s+gk=2/\s27=iZ s/\Hid (SmZ 0 wr s4 (tmQ f i s)/\Mp w wr [(u,z33),(S,sdC N 0++sdC N 1)] []/\kZ A wr))
   case atStart=>exact⟨0,oM,rfl,S6⟩
   case round =>
    obtain⟨s,ha,rfl,k⟩:=hrel;by_cases r:s<2
    .have Q:(s:Int)<2:=oM;have h1:Yt.wrap ((s:Int)+1)=((s+1:Nat):Int):=by rw[Zo];omega
     have d:=hV i s;have iV:(prog.info? 51).map (·.size)=some (aA (V i s)).length:=by rw[aB d];exact iCP
     have Z:f i s=(sdW N s,V i s):=by rw[<-hf.out]
     refine hG wr.heap.size λm b=>?_
     refine hG (lZ wr z7 61) λw7 l=>?_
     refine hG (w7.setCells m 0 (sdC N s)) λw8 t=>?_
     have M7:=mk1 (k.2.1.new b l);have M:=mk1 (M7.put 2 t);have Q8:=mk1 (((Mp.start wr).new b l).put 0 t).bl;have R0:=Gg r (k.2.1.at_ 1);have U:=mk1 (k.2.2.trans (Q8.mono k.2.2.size));have S8:=mk1 (k.1.grow Q8);obtain⟨vs,E⟩:=hE (Yg (sdC N s).toArray);obtain⟨vp,B⟩:=hE (pvl (V i s));obtain⟨vw,H⟩:=hE (nv (sdW N s));have HT:Hid (∀W,cZ 32 #[vp,vw] W (rZ W λe w'=>Sm W.heap.size w' e [f i s])):=by rw[<-B.out,<-H.out,Z];exact λW=>AM d
     have RV:w8.rangeAt K (0+33*s) (aA (V i s)):=by
      rw[XQ];exact range_below (RK s r) U lK
     have h0:=XI lK U.size;refine PW.bg [.bool (decide ((s:Int)<2))] ?_;rw[decide_eq_true Q];refine PW.dn ?_;refine XL<|YH rfl<|Y2<|XL<|Zk<|PW.bg [] ?_
     refine PW.ns (GO r) ?_;refine PW.ro R0 E uSd iSd ?_;refine PW.al b l ?_;refine PW.go [iZ s] ?_;refine PW.st t E (M7.th 2) iSd BC ?_;refine PW.dn ?_;refine AW.beg 9 9 ⟨rfl,rfl,rfl,XH _,λ_ _=>rfl⟩ ?_;refine AW.mv 0 ?_;refine AW.mv 1 ?_;refine AW.mv 2 ?_;refine AW.iv 3 (atP r) ?_;refine AW.ro 4 (λW z=>range_below RV z h0) B uCP iV ?_;refine AW.va 5 (oZ m 3) ?_;refine AW.ro 6 (λW z=>rnB (xs:=[.string (sdL s),.string (sdP s),.func (.func (sdA s)) #[] #[]]) ((M.at_ 2).below z).2.1 rfl) H rSc nSc ?_;refine AW.ca 7 (λ_=>HT _) (λe w' h=>h.1) ?_;rintro e W1 ⟨h8,h5⟩;refine AW.ca 8 (λz=>cA 0 u4 e (tmQ f i s) [f i s] (by simp) (by rw[FX];omega) (show 1<=500 by decide) (Jz G s) (λy hy=>by rw[Ze.1 hy];exact G i s) W1 (S8.grow z) (Yd (h5.mono (Zq _)))) (λe w' h=>h.1) ?_;rintro e' T ⟨h9,h6⟩;refine AW.nx 9 e' ?_;refine AW.dn λhJ=>?_
     have D:kZ w8 T:=hJ;have S9:Hid (SmZ 0 T e' (tmQ f i (s+1))/\Mp w T [(u,z33),(S,sdC N 0++sdC N 1)] []/\kZ A T):=⟨Yd (h6.mono (Zq _)),Mp.pop (x:=(m,sdC N s)) (M.grow D),U.trans (D.mono U.size)⟩
     refine PW.bb (P:=prog) [iZ (Yt.wrap ((s:Int)+1))] ?_;rw[h1];go_wp2;go_roundg (gk-1)
     case measure=>omega
     case rel=>exact⟨s+1,oM,rfl,S9⟩
    .have Q:¬(s:Int)<2:=oM;obtain rfl:s=2:=oM;have S9:Hid (SmZ 0 wr u4 (tmP f (i+1))/\Mp w wr [(u,z33)] []):=⟨k.1,Mp.pop (x:=(S,sdC N 0++sdC N 1)) k.2.1⟩
     refine PW.rg [fZ] ?_;refine XL<|Yh rfl<|yBt<|PW.bb (P:=prog) [iZ (Yt.wrap ((i:Int)+1))] ?_
     rw[h4];go_wp2;go_roundg (h3-1)
     case measure=>omega
     case rel=>exact⟨i+1,oM,rfl,nofun,S9⟩
  .have j:¬(i:Int)<(n:Int):=oM;obtain rfl:i=n:=oM;obtain⟨A,b⟩:=hE (pvl X);have l:=R.2.2.2 u4 wr k.1 hz;rw[b.out]at l⊢;have o:gZ 51 (aA X).length:=by rw[aB hX];exact iCP
   have z:=aB hX;refine PW.bg [.bool (decide ((i:Int)<(i:Int)))] ?_;rw[decide_eq_false j];refine PW.dn ?_;refine XL<|Yh rfl<|yBt<|PW.bg (P:=prog) [] ?_
   refine PW.gi l λw8 m=>?_
   refine hG (w8.setCells u 0 (aA X)) λa d=>?_
   have M:=mk1 (k.2.grow m);have t:=mk1 (M.put 0 d rfl z);refine PW.st d b (M.th 0 rfl z) o bQ ?_;refine PW.en [tZ] ?_;refine Zj<|XR (results_ct 2 3 51 rfl (show Row a u (aA X) from t.at_ 0) rfl rfl uCP o) rfl ?_
   exact⟨_,rfl,t.bl,by rw[<-b.out];rfl⟩
end
section
namespace TG
def Row(W:XF)(k:Nat)(vs:List XG):Prop:=k<W.heap.size/\W.rangeAt k 0 vs/\W.there k 0 vs.length
def row_new(w:XF)(c:List XG)(T:Yj):Row (w.alloc (.cells c.toArray T)) w.heap.size c:=
 have h:=Made.alloc w c T
 ⟨h.lt,h.range,h.there⟩
def results_ct{P:YO}{c:Func}{tmps:Array XG}{W:XF}{k:Nat}{vs:List XG}{v:XG}(t u:Tmp)(T:Yj)(e:c.results=#[.cell t T,.tmp u])(h:Row W k vs)(j:tmps[t]? = some (jZ k))(hv:tmps[u]? = some v)
 (b:(P.underlying T).map (·.isRow)=some true) (i:(P.info? T).map (·.size)=some vs.length):(results c tmps).run P W=.ok (.tuple #[.agg vs.toArray,v]) W:=by
 obtain⟨d,b,hd⟩:=XK.1 b;have g:=run_loadVar_mid (P:=P) W k 0 T vs d h.2.1 b hd i;have l:tmps.getD t ZB=jZ k:=by rw[XU,j];rfl
 have f:tmps.getD u ZB=v:=by rw[XU,hv];rfl
 unfold results;rw[e];simp only[Array.mapM_eq_mapM_toList,List.mapM_cons,List.mapM_nil,l,f,asAddr];simp[X6,g]
def below2(w:XF)(a b:Obj):kZ w ((w.alloc a).alloc b):=((XX _ _).alloc (XH _) _).alloc (by rw[XS];exact Nat.le_succ _) _
end TG
namespace TG
def PS(w:XF)(v:XG)(T:Bs):Prop:=An w v T.toList
def Slc(v:XG):Prop:=∃q n c,v=.slice q n c
def Two(w:XF)(r:Nat):Prop:=∃x y,Slc x/\Slc y/\Row w r [x,y]
def Ex(r K i:Nat)(w w':XF):Prop:=kZ w w'\/(i=K/\Two w r/\∃x y,Slc x/\Slc y/\w'=w.setCells r 0 [x,y])
def Bx(c:XF)(r g:Nat)(i b k:XG)(e d f:Bs)(w:XF):Prop:=kZ c w/\Row w g [b,k]/\Two w r/\PS w i e/\PS w b d/\PS w k f
def Fin2(r:Nat)(b k:Bs)(w:XF):Prop:=∃x y,Row w r [x,y]/\PS w x b/\PS w y k
def XD(w:XF)(v:XG)(b k:Bs):Prop:=∃x y,v=.agg #[x,y]/\PS w x b/\PS w y k
def F9(j:XF)(r c:Nat)(d g f:XG)(e k b:Bs)(ok:Bool):Flow where
 R i v w:=match i with
  | 0=>v=d
  | 1=>v=jZ c
  | 2=>v=g
  | 3=>PS w v (oH e k)
  | 4=>v=d
  | 5=>v=oZ c 1
  | 6=>v=f
  | 7=>PS w v (oH e b)
  | 8=>XD w v (oH e k) (oH e b)
  | 9=>v=.bool ok
  | 10=>Fin2 r (oH e k) (oH e b) w
  | _=>v=.bool ok
 B _ w:=Bx j r c d g f e k b w
 E:=Ex r 10
 kill _:=[]
 killB _:=[]
end TG
end
section
variable {P:Nat}[NeZero P]{N:Nat}
def KQ:Bs:=iY [110,111,110,101] []
def EJ:KQ.size=32:=bV
def eZ(S:Nat->Bs)(a n:Nat):Bs:=
 if _h0:n=0 then KQ else if _h1:n=1 then De (S a) else oH (eZ S a (hf n)) (eZ S (a+hf n) (n-hf n))
termination_by n
decreasing_by all_goals (have:=Lt (n:=n) oM;omega)
def N3(S:Nat->Bs)(a:Nat):eZ S a 0=KQ:=by rw[eZ,dif_pos rfl]
def NZ(S:Nat->Bs)(a:Nat):eZ S a 1=De (S a):=by rw[eZ,dif_neg dC,dif_pos rfl]
def NY(S:Nat->Bs)(a n:Nat)(h:2<=n):eZ S a n=oH (eZ S a (hf n)) (eZ S (a+hf n) (n-hf n)):=by rw[eZ,dif_neg oM,dif_neg oM]
def jR(S:Nat->Bs)(a n:Nat):(eZ S a n).size=32:=by
 rw[eZ];by_cases k:n=0
 .rw[dif_pos k];exact EJ
 .rw[dif_neg k];by_cases b:n=1
  .rw[dif_pos b];exact ER
  .rw[dif_neg b];exact EK
def Jf(w:XF)(T:Bs)(e:XG)(w':XF):Prop:=kZ w w'/\∃r,e=sZ r 32 32/\w.heap.size<=r/\hZ w' r 0 T
def BN{w:XF}{r:Nat}{T:Bs}(k:T.size=32)(h:hZ w r 0 T):PartOk w (sZ r 32 32) T.toList:=
 ⟨_,r,0,32,T,by rw[k],rfl,by rw[k];exact XH _,by rw[k];decide,Yd ⟨rfl,h⟩⟩
def EQ(q:Option Y4)(n c:Nat)(b:Bs)(w:XF)(hv:PartOk w (.slice q n c) b.toList):cZ 47 #[.slice q n c] w (Ret (Jf w (De b))):=by
 obtain⟨i,d⟩:=hE (w.alloc (.cells #[.slice q n c] 23));have p:=Made.alloc w [.slice q n c] 23;have k:Made w w.heap.size [.slice q n c] i:=d.out▸p;have l:=kU ⟨#[108,101,97,102]⟩ (some (aZ w.heap.size)) 1 [b.toList] i dC (YM rfl) (Yd ⟨_,_,rfl,λj s=>by
  have f:j=0:=by simpa using s
  subst f;exact⟨_,k.range 0 _ rfl,hv.below k.bel⟩⟩)
 have g:=mk1 (k.bel);go_enter func47,ntmps47;go_wp2_with fail
 rw[d.out];refine l.mono ?_;rintro e t ⟨r,rfl,m,f,o⟩;have K:=mk3 (g.trans (f.mono g.size)) (XN g.size m) o;go_wp2_with fail
 go_ret;exact⟨_,rfl,K.1,_,rfl,K.2.1,K.2.2⟩
def Sg(q g:Option Y4)(n c d f:Nat)(b o:Bs)(w:XF)(hv:PartOk w (.slice q n c) b.toList)(l:PartOk w (.slice g d f) o.toList):cZ 49 #[.slice q n c,.slice g d f] w (Ret (Jf w (oH b o))):=by
 obtain⟨s,i⟩:=hE (w.alloc (.cells #[.slice q n c,.slice g d f] 23));have x:=Made.alloc w [.slice q n c,.slice g d f] 23;have k:Made w w.heap.size [.slice q n c,.slice g d f] s:=i.out▸x;have t:=kU ⟨#[110,111,100,101]⟩ (some (aZ w.heap.size)) 2 [b.toList,o.toList] s dC (YM rfl) (Yd ⟨_,_,rfl,λj y=>by
  have m:j=0\/j=1:=by simp at y;omega
  rcases m with rfl|rfl
  .exact⟨_,k.range 0 _ rfl,hv.below k.bel⟩
  .exact⟨_,k.range 1 _ rfl,l.below k.bel⟩⟩)
 have p:=mk1 (k.bel);go_enter func49,ntmps49;go_wp2_with fail
 rw[i.out];refine t.mono ?_;rintro e z ⟨r,rfl,u,m,v⟩;have K:=mk3 (p.trans (m.mono p.size)) (XN p.size u) v;go_wp2_with fail
 go_ret;exact⟨_,rfl,K.1,_,rfl,K.2.1,K.2.2⟩
def Ly(d b n c:Nat)(g:2<=n)(l:n<=1048576)(p:n<=c)(w:XF):Calls prog 48 #[.slice (some ⟨d,b,none⟩) n c] w (Ret λe w'=>Below w.heap.size w w'/\e=.tuple #[.slice (some ⟨d,b,none⟩) (hf n) c,.slice (some ⟨d,b+hf n,none⟩) (n-hf n) (c-hf n)]):=by
 have hh:=SG n g l w;have f:=Lt g;generalize hf n=k at hh f⊢;have i:∀w:XF,(ZH 27 (.slice (some ⟨d,b,none⟩) n c) none (some (.int .i64 k)) none).run prog w=.ok (.slice (some ⟨d,b,none⟩) k c) w:=λw=>by
  have j:(k:Int)<=c:=oM;go_simp
 have m:∀w:XF,(ZH 27 (.slice (some ⟨d,b,none⟩) n c) (some (.int .i64 k)) none none).run prog w=.ok (.slice (some ⟨d,b+k,none⟩) (n-k) (c-k)) w:=λw=>by
  have j:(k:Int)<=n:=oM;have g:(n:Int)<=c:=oM;have o:¬c=k:=oM;go_simp
 go_enter func48,ntmps48;go_wp2_with fail
 refine hh.mono ?_;rintro e w' ⟨rfl,rfl⟩;go_wp2_with fail
 go_quiet (fail);go_wp2
 go_ret2
 exact⟨_,rfl,⟨rfl,rfl,rfl,XH _,λ_ _=>rfl⟩,rfl⟩
def Lists.part{w:XF}{c b n k:Nat}{S:Nat->Bs}{a:Nat}(h:Lists w (some ⟨c,b,none⟩) n (λj=>S (a+j)))(m:k<=n):Lists w (some ⟨c,b+k,none⟩) (n-k) (λj=>S (a+k+j)):=λo=>by
 obtain⟨f,d,e,i,g⟩:=h oM;cases e
 refine⟨c,b+k,rfl,i,λj l=>?_⟩;have:=g (k+j) oM;rw[<-ZL]at this;show ∃v,_/\An w v (S (a+k+j)).toList;rw[ZL a k j];exact this
def Ry(S:Nat->Bs):∀(N n a:Nat) (q:Option Y4) (c:Nat) (w:XF),n<=N->n<=1048576->n<=c->Lists w q n (λj=>S (a+j))->cZ 24 #[.slice q n c] w (Ret (Jf w (eZ S a n))):=by
 intro N;induction N with
 | zero =>
  intro n a q c w W _ _ _;obtain rfl:n=0:=oM;rw[N3];have b:=kU ⟨#[110,111,110,101]⟩ none 0 [] w dC (YM rfl) (Yk rfl);go_enter func24,ntmps24;go_wp2_with fail
  refine b.mono ?_;rintro e o ⟨r,rfl,i,d,l⟩;have K:=mk3 d i l;go_wp2;go_ret;exact⟨_,rfl,K.1,_,rfl,K.2.1,K.2.2⟩
 | succ N ih =>
  intro n a q c w W T U f;by_cases h0:n=0
  .exact ih n a q c w oM T U f
  obtain⟨x,t,rfl,X,b⟩:=f oM;by_cases V:n=1
  .subst V;rw[NZ];obtain⟨v,hv,⟨s,m,p,rfl⟩,g⟩:=b 0 oM;have y:=EQ s m p (S a) w g;have u:w.cell? ⟨x,t,none⟩=some (.slice s m p):=hv;clear g f b ih hv;go_enter func24,ntmps24;go_wp2_with fail
   refine y.mono ?_;rintro e o ⟨v2,rfl,d,r,rfl,i,l⟩;have K:=mk3 d i l;go_wp2;go_ret;exact⟨_,rfl,K.1,_,rfl,K.2.1,K.2.2⟩
  .rw[NY S a n oM];have B:=Lt (n:=n) oM;have H:=Hid.mk2 (Ly x t n c oM T U w);have J:Hid (∀w',kZ w w'->cZ 24 #[qZ x t (hf n) c] w' (Ret (Jf w' (eZ S a (hf n))))):=λw' I=>ih (hf n) a _ c w' oM oM oM ((f.less oM).below I)
   have E:Hid (∀w',kZ w w'->cZ 24 #[qZ x (t+hf n) (n-hf n) (c-hf n)] w' (Ret (Jf w' (eZ S (a+hf n) (n-hf n))))):=λw' I=>ih (n-hf n) (a+hf n) _ (c-hf n) w' oM oM oM ((f.part oM).below I)
   have g:=jR S a (hf n);have i:=jR S (a+hf n) (n-hf n);generalize eZ S a (hf n)=z at J g⊢;generalize eZ S (a+hf n) (n-hf n)=R at E i⊢;have P:¬(n:Int)=1:=oM;have g0:((n:Int) == 1)=false:=by simpa using P
   have M:¬(n:Int)=0:=oM;have g3:((n:Int) == 0)=false:=by simpa using M
   clear f b ih B P M;generalize hf n=k at H J E;go_enter func24,ntmps24;go_wp2_with fail
   refine H.mono ?_;rintro e Q ⟨v1,rfl,s,rfl⟩;have L:Hid (kZ w Q):=s;clear s H;go_wp2_with fail
   apply(J Q L).mono;rintro e o ⟨v2,rfl,d,G,rfl,Z,F⟩;have m:Hid (kZ w o/\hZ o G 0 z):=⟨L.trans (d.mono L.size),F⟩
   go_wp2_with fail
   apply(E o m.1).mono;rintro e u ⟨v3,rfl,p,O,rfl,Y,K⟩;have l:Hid (kZ w u/\hZ u G 0 z/\hZ u O 0 R):=⟨m.1.trans (p.mono m.1.size),Holds.below m.2 p (Holds.lt m.2 oM),K⟩
   go_wp2_with fail
   apply(Sg (some (aZ G)) (some (aZ O)) 32 32 32 32 z R u (BN g l.2.1) (BN i l.2.2)).mono;rintro e w4 ⟨v4,rfl,D,r4,rfl,A,C⟩;have y:=mk3 (l.1.trans (D.mono l.1.size)) (XN l.1.size A) C;go_wp2;go_ret;exact⟨_,rfl,y.1,_,rfl,y.2.1,y.2.2⟩
def HL(W:XF)(B U:Nat)(v:XG)(L:List Bs):Prop:=
 (L=[]/\v=nZ)\/∃(g cap:Nat) (vs:List XG) (cur:Array XG) (k:Nat->Nat),v=sZ g L.length cap/\vs.length=L.length/\0<L.length/\B<=g/\ListAt W g cap vs cur/\(∀j,j<L.length->vs[j]! = sZ (k j) 32 32/\B<=k j/\k j<U/\L[j]!.size=32/\hZ W (k j) 0 L[j]!)/\∀i j,i<j->j<L.length->k i<k j
def MO{S:Nat->Bs}{n c:Nat}{q:Option Y4}{w:XF}(g:n<=1024)(d:n<=c)(b:Lists w q n S):cZ 8 #[.slice q n c] w (Ret λe w'=>∃v,e=.tuple #[v,iZ 0]/\Jf w (eZ S 0 n) v w'):=by
 have hR:=Ry S n n 0 q c w (XH _) oM d (by simpa using b);go_enter func8,ntmps8;go_wp2_with fail
 refine hR.mono ?_;rintro e f ⟨v2,rfl,k⟩;have K:=mk1 (k);go_wp2
 go_ret2
 exact⟨_,rfl,_,rfl,K⟩
end
section
open SPA
structure EnL(w W:XF)(i:Nat)(v:XG)(B:Nat->Bs):Prop where
 bl:kZ w W
 ex:∃xs,W.ownsRow w.heap.size 23 1 v i xs/\∀j,j<i->∃x,xs[j]? = some x/\ElQ (λg=>w.heap.size<=g/\v.ownBlock≠some g) 1313 W x (B j)
section
variable {w W W':XF}{i:Nat}{v:XG}{B:Nat->Bs}
def EnL.grow(h:EnL w W i v B)(k:kZ W W'):EnL w W' i v B:=by
 obtain⟨xs,b,l⟩:=h.ex;refine⟨h.bl.trans (k.mono h.bl.size),xs,bG b λg d=>k.block g (bU b d).2.1,λj e=>?_⟩;obtain⟨x,f,c⟩:=l j e;exact⟨x,f,c.keep (Kq.of_below k)⟩
def EnL.qn(h:EnL w W i v B):∀g,W.heap.size<=g->v.ownBlock≠some g:=λg b e=>by
 obtain⟨xs,k,-⟩:=h.ex;have:=(bU k e).2.1;omega
def EnL.app{x:XG}{ga:Nat}(h:EnL w W i v B)(hx:ElQ (λg=>w.heap.size<=g/\v.ownBlock≠some g) 1313 W x (B i))(a:W.cell? ⟨ga,0,none⟩=some x)(D:i<=900):
 ∃d W',(YK #[27,27] 27 #[v,sZ ga 1 1]).run prog W=.ok d W'/\EnL w W' (i+1) d B/\W.heap.size<=W'.heap.size/\∀k,k<W.heap.size->v.ownBlock≠some k->W'.heap[k]? = W.heap[k]?:=by
 obtain⟨xs,l,z⟩:=h.ex;obtain⟨d,W',r,u,b⟩:=Cl l hx.one.2 a oM h.bl.size;have p:∀g,g<W.heap.size->(w.heap.size<=g/\v.ownBlock≠some g)->w.heap.size<=g/\d.ownBlock≠some g:=λg c q=>⟨q.1,λe=>by
  rcases b.mv with m|⟨⟨f,m,n⟩,-⟩
  .rw[m]at e;exact q.2 e
  .rw[m]at e;have:=X5.inj e;omega⟩
 have kq:Kq (λg=>w.heap.size<=g/\d.ownBlock≠some g) W W':=⟨b.size,λg q c=>by
  rcases b.mv with m|⟨-,m⟩
  .exact b.keep g c (by rw[<-m];exact q.2)
  .exact m g c⟩
 have f:∀g,v.ownBlock=some g->w.heap.size<=g:=λg c=>(bU l c).1
 refine⟨d,W',r,⟨⟨b.os.trans h.bl.os,b.tape.trans h.bl.tape,b.output.trans h.bl.output,XN h.bl.size b.size,λg c=>(b.keep g (XI c h.bl.size) λe=>oN (f g e)).trans (h.bl.block g c)⟩,xs++[x],u,λj E=>?_⟩,b.size,λk s o=>b.keep k s o⟩;have C:xs.length=i:=oN l.1;by_cases n:j<i
 .obtain⟨y,t,A⟩:=z j n;exact⟨y,by rw[X1 oM];exact t,(A.mono2 p).keep kq⟩
 .obtain rfl:j=i:=oM;exact⟨x,by rw[X4 oM,C,Nat.sub_self];rfl,(hx.mono2 p).keep kq⟩
def EnL.set{k:Nat}{us:List XG}(h:EnL w W i v B)(n:k<w.heap.size):∃l xs,(W.setCells k 0 us).ownsRow l 23 1 v i xs/\∀j,j<i->∃x,xs[j]? = some x/\ElQ (λ_=>True) 1313 (W.setCells k 0 us) x (B j):=by
 obtain⟨xs,c,f⟩:=h.ex;refine⟨_,xs,bG c λg b=>aE us 0 W g (oN ((bU c b).1)),λj e=>?_⟩;obtain⟨x,m,d⟩:=f j e;exact⟨x,m,(d.keep ⟨by rw[setCells_size];exact XH _,λg b _=>aE us 0 W g (oN b.1)⟩).mono2 λ_ _ _=>trivial⟩
def AS{Q:Nat->Prop}{s:Nat}{xs:List XG}(b:W.ownsRow s 23 1 v i xs)(m:∀j,j<i->∃x,xs[j]? = some x/\ElQ Q 1313 W x (B j)):∃q c,v=.slice q i c/\i<=c/\Lists W q i B/\(0<i->∃g,q=some (aZ g)/\g<W.heap.size/\∀j,j<i->∃x,W.cell? ⟨g,j,none⟩=some x/\ElQ Q 1313 W x (B j)):=by
 rcases id b with⟨u,⟨rfl,r⟩|⟨g,cap,cur,rfl,-,-,p,-⟩⟩
 .exact⟨none,0,by rw[r],oM,λd=>absurd d oM,λd=>absurd d oM⟩
 .refine⟨_,cap,rfl,p,λd=>⟨g,0,rfl,(bU b rfl).2.1,λj l=>?_⟩,λd=>⟨g,rfl,(bU b rfl).2.1,λj l=>?_⟩⟩
  .obtain⟨x,e,f⟩:=m j l;refine⟨x,by rw[XQ];exact jK b e,?_⟩;obtain⟨k,c,rfl,t,o,-,-,n⟩:=f;exact⟨⟨_,_,_,rfl⟩,some (aZ k),k,0,c,B j,by rw[o],rfl,oM,oM,Yd ⟨rfl,n⟩⟩
  .obtain⟨x,e,f⟩:=m j l;exact⟨x,jK b e,f⟩
def EnL.lists(h:EnL w W i v B):∃q c,v=.slice q i c/\i<=c/\Lists W q i B:=by
 obtain⟨xs,b,d⟩:=h.ex;obtain⟨q,c,k,e,f,-⟩:=AS b d;exact⟨q,c,k,e,f⟩
end
end
section
open SPA
variable {P:Nat}[NeZero P]{N:Nat}
def zcl:List XG:=[iZ 0,nZ,uZ 0,nZ]
def uCl:yZ 29:=yQ
def iCl:gZ 29 4:=gQ
def O1(O:Ord N)(n c:Nat)(q:Option Y4)(K A B:Nat->Nat)(hn:n<=64)(hK:∀i,1<=K i/\K i<=3)(hA:∀i,A i<4294967296)(hB:∀i,B i<4294967296)(I:aW A n<=aW B n)(z:Bs)(hc:z.size=32)(T:Option Y4)(sc:Nat)(o:Nat->Bs)(w:XF)(hL:OpL w q n K A B)(hs:PartOk w (.slice T 32 sc) z.toList)
 (hW:∀i W,i<n->kZ w W->cZ 7 #[.slice T 32 sc,.int .u32 i,.agg (opC (K i) (A i) (B i)).toArray] W (rZ W λe w'=>ElQ (W.heap.size<=·) 1313 w' e (o i))) :
 cZ 4 #[.slice T 32 sc,.slice q n c] w (rZ w λe w'=>∃v r b B0 xs,e=.tuple #[v,.agg #[iZ n,sZ r 32 32,uZ ((aW B n-aW A n:Nat):Int),b],iZ 0]/\(w'.ownsRow B0 23 1 v n xs/\∀j,j<n->∃x,xs[j]? = some x/\ElQ (λ_=>True) 1313 w' x (o j))/\hZ w' r 0 (eZ o 0 n)/\r<w'.heap.size/\ElQ (λ_=>True) 32 w' b (bx (opA N (blW N z) n))):=by
 refine hG w.heap.size λX a=>?_
 refine hG (lZ w zcl 29) λw1 L=>?_
 have K1:=mk1 ((Mp.start w).new a L);have F:=mk1 (VJ O n c q K A B hn hK hA hB I w1 (hL.below K1.bl));have S:=mk1 (λ(W:XF) (hb:kZ w W)=>IB O n hn z hc T sc W (hs.below hb));have U:=mk3 hL hW (Kv O n);have h0:decide ((64:Int)<(n:Int))=false:=decide_eq_false oM;generalize hT:(aW B n-aW A n:Nat)=tot at F⊢;generalize opA N (blW N z) n=bl at U S⊢;clear hL hW hs hK hA hB I;go_enter func4,ntmps4;refine PW.bg [nZ] ?_;refine PW.al a L ?_;refine PW.en [iZ 0] ?_;refine XL<|PW.rg [iZ 32,fZ] ?_
 refine Yh rfl<|Y2<|XL<|PW.bg [iZ n,.bool (decide ((64:Int)<(n:Int)))] ?_
 rw[h0];refine PW.dn ?_;refine Yh rfl<|Y2<|PW.bg [] ?_
 refine PW.gi F λY h3=>?_
 refine PW.en [uZ tot,iZ 0,uZ tot,iZ 0] ?_;refine XL<|PW.rg [fZ] ?_
 refine Yh rfl<|Y2 ?_
 have s:=mk1 (K1.grow h3);have E0:Hid (EnL Y Y 0 nZ o):=⟨XX _ _,[],⟨rfl,Yk ⟨rfl,rfl⟩⟩,λj hj=>absurd hj (yAh _)⟩
 refine XL<|PW.rg [iZ n,iZ 0] ?_
 apply Zk;go_loopg [4,32] n (λgk s4 s32 wr=>∃i:Nat,i+gk=n/\s32=iZ i/\Hid (EnL Y wr i s4 o))
 case atStart=>exact⟨0,oM,rfl,E0⟩
 case round =>
  obtain⟨i,hp,rfl,t⟩:=hrel;by_cases hi:i<n
  .have m:(i:Int)<(n:Int):=oM;have Q:Yt.wrap ((i:Int)+1)=((i+1:Nat):Int):=by rw[Zo];omega
   have h5:yCX.wrap (i:Int)=(i:Int):=by rw[IntKind.wrap_u32];omega
   have bw:=mk1 (s.bl.trans (t.bl.mono s.bl.size));obtain⟨g,rfl,hg,h7⟩:=(U.1.below bw) oM;refine hG wr.heap.size λh6 f=>?_
   refine hG (lZ wr z3 26) λw4 y=>?_
   refine hG (w4.setCells h6 0 (opC (K i) (A i) (B i))) λw5 E=>?_
   have M4:=mk1 ((Mp.start wr).new f y);have M5:=mk1 (M4.put 0 E);have R0:=h7 i hi;obtain⟨vo,d⟩:=hE (Yg (opC (K i) (A i) (B i)).toArray);have M:=U.2.1 i w5 hi (bw.trans (M5.bl.mono bw.size));rw[d.out]at M;have l:=mk1 (t.grow M5.bl);refine PW.bg [.bool (decide ((i:Int)<(n:Int)))] ?_;rw[decide_eq_true m];refine PW.dn ?_;refine XL<|YH rfl<|Y2<|XL<|Zk<|PW.bg [] ?_
   refine PW.ns (Qg hi) ?_;refine PW.ro R0 d uOp iOp ?_;refine PW.al f y ?_;refine PW.go [iZ i] ?_;refine PW.st E d (M4.th 0) iOp BP ?_;refine PW.dn ?_;refine PW.bb (P:=prog) [.int .u32 (yCX.wrap (i:Int))] ?_;rw[h5];refine PW.ro (M5.at_ 0).2.1 d uOp iOp ?_;refine PW.ca M ?_;rintro e u ⟨h8,D⟩;have hk:=l.grow h8;have J:=D.mono2 (Q':=λg=>Y.heap.size<=g/\u4.ownBlock≠some g) λg' _ C=>⟨XN l.bl.size C,l.qn g' C⟩
   have R:∃p n c,e=.slice p n c:=by obtain⟨k,c,rfl,-⟩:=D;exact⟨_,_,_,rfl⟩
   have bs:=Xs R u;have bb:=aC (w:=u) (.cells #[e] 23);obtain⟨v',w8,G,Z,-,-⟩:=(hk.grow bb).app (ga:=u.heap.size) (J.keep (Kq.of_below bb)) ((row_new u [e] 23).2.1 0 _ rfl) oM;refine hG u.heap.size λhq H=>?_
   refine hG (u.alloc (.cells #[e] 23)) λw7 V=>?_
   rw[H.out,V.out]at bs G;have KF:=mk1 Z;refine PW.ns bs ?_;refine PW.ns G ?_;refine PW.en [v'] ?_;refine PW.bb (P:=prog) [iZ (Yt.wrap ((i:Int)+1))] ?_;rw[Q];go_wp2;go_roundg (gk-1)
   case measure=>omega
   case rel=>exact⟨i+1,oM,rfl,KF⟩
  .have m:¬(i:Int)<(n:Int):=oM;obtain rfl:i=n:=oM;obtain⟨q4,c4,rfl,h9,he⟩:=t.lists;have h2:=mk1 (MO oM h9 he);have bw:=mk1 (s.bl.trans (t.bl.mono s.bl.size));have Rk:=mk1 ((s.at_ 0).below t.bl);have lk:=(s.at_ 0).1;have h1:=(s.lt (g:=X) (by simp)).1;refine PW.bg [.bool (decide ((i:Int)<(i:Int)))] ?_;rw[decide_eq_false m];refine PW.dn ?_;refine XL<|Yh rfl<|yBt<|PW.bg (P:=prog) [] ?_
   refine PW.ca h2 ?_;rintro e w8 ⟨v8,rfl,l,r,rfl,hm,R⟩;refine PW.en [sZ r 32 32,iZ 0,sZ r 32 32,iZ 0] ?_;obtain⟨vb,D⟩:=hE (nv bl);have C:=S w8 (bw.trans (l.mono bw.size));rw[D.out]at C;have Z:Hid (∀W,cZ 10 #[vb] W (rZ W λe w'=>ElQ (W.heap.size<=·) 32 w' e (bx bl)/\∃g,e=r32 g)):=by rw[<-D.out];exact λW=>eI O U.2.2 W
   refine PW.bg [iZ i,iZ i] ?_;refine PW.gi C λw9 y=>?_
   refine PW.ca (Z w9) ?_;rintro e H ⟨E,J,u,rfl⟩;have bA:=y.trans (E.mono y.size);have bB:=l.trans (bA.mono l.size);refine PW.go [.agg #[iZ i,sZ r 32 32,uZ tot,r32 u],.slice q4 i c4] ?_;refine hG (H.setCells X 0 [iZ i,sZ r 32 32,uZ tot,r32 u]) λf d=>?_
   have Q:=Rk.below bB;have hl:=t.bl.size;have ha:Hid (Row f X [iZ i,sZ r 32 32,uZ tot,r32 u]):=d.out▸Q.put rfl;have V:=(t.grow bB).set (us:=[iZ i,sZ r 32 32,uZ tot,r32 u]) lk;have G:=Holds.lt R (by rw[jR];decide);have F2:hZ f r 0 (eZ o 0 i):=by
    rw[<-d.out];exact eR (Holds.below R bA G) oM
   have F3:ElQ (λ_=>True) 32 f (r32 u) (bx bl):=by
    rw[<-d.out];exact(J.keep ⟨by rw[setCells_size];exact XH _,λg hg _=>aE _ 0 H g (by have:=l.size;have:=y.size;omega)⟩).mono2 λ_ _ _=>trivial
   have F4:kZ w f:=by
    rw[<-d.out];exact RG.below_setCells h1 _ _ _ (bw.trans (bB.mono bw.size))
   have F5:r<f.heap.size:=by
    rw[<-d.out,setCells_size];exact XI G bA.size
   rw[d.out]at V;obtain⟨B0,xs,V,h4⟩:=V;have M:=mk3 F4 (Y0 V h4) (Y0 F2 (Y0 F5 F3));have th:=Q.2.2;refine PW.st (cs:=[iZ i,sZ r 32 32,uZ tot,r32 u]) d (Hid.mk' rfl) th iCl kR ?_;refine PW.en [iZ 0] ?_;refine Zj<|XR (CG 4 5 6 rfl ha rfl rfl rfl uCl iCl) rfl ?_
   exact⟨_,rfl,M.1,_,r,r32 u,B0,xs,rfl,M.2.1,M.2.2.1,M.2.2.2.1,M.2.2.2.2⟩
end
section
open SPA
section
variable {P:YO}{ops:Array Oper}{Q:Exit->Act->XF->Prop}{p r:Nat}{J:Iv}{fuel:Nat}{o:Oper}{listed:Array Bool}{a a':Act}{w w':XF}{d:Option Tmp}{x v:XG}{t:Tmp}{T:Yj}{b off:Nat}{cs:List XG}
def AG.va(i:Nat)(x:XG)(h:AW P ops Q p r J fuel (listed.setIfInBounds i true) a' w)(ho:ops[i]? = some o:=by(simp only[Yp,Yl,Yn])<;>rfl)(hd:o.dst=d:=by rfl)(k:Zd o (yielded ops a.tmps)=true:=by kernel_rfl)(hv:∀w,(Ym a.eval o).run P w=.ok (.value x) w:=by intro _;kernel_rfl)
 (e:a.put d x=a':=by(simp only[Yo,XJ,XM,XO])<;>rfl) (f:aw1 ops p r (fw ops i) i listed=true:=by kernel_rfl) (b:∀c a w,Q (.panic c) (a.put o.dst x) w->Q (.panic c) a w:=by exact λ_ _ _ h=>h):AW P ops Q p r J (fuel+1) listed a w:=
 AW.take i (fw ops i) ho hd (Yk ⟨k,λw _=>hv w⟩) e f b h
def AG.iv(i:Nat){I:Sem XG}(j:∀w,I.run P w=.ok x w)(h:AW P ops Q p r J fuel (listed.setIfInBounds i true) a' w)(ho:ops[i]? = some o:=by(simp only[Yp,Yl,Yn])<;>rfl)(hd:o.dst=d:=by rfl)(k:Zd o (yielded ops a.tmps)=true:=by kernel_rfl)(f:Ym a.eval o=I >>= λv=>pure (Next.value v):=by kernel_rfl)
 (e:a.put d x=a':=by(simp only[Yo,XJ,XM,XO])<;>rfl) (g:aw1 ops p r (fw ops i) i listed=true:=by kernel_rfl) (b:∀c a w,Q (.panic c) (a.put o.dst x) w->Q (.panic c) a w:=by exact λ_ _ _ h=>h):AW P ops Q p r J (fuel+1) listed a w:=
 AW.take i (fw ops i) ho hd (Yk ⟨k,λw _=>by rw[f,X6,j w];rfl⟩) e g b h
def AG.ce(i:Nat)(m:(P.underlying T).map (·.isRow)=some false)(n:∀W,J.p W->W.cell? ⟨b,off,none⟩=some x)(h:AW P ops Q p r J fuel (listed.setIfInBounds i true) a' w)(ho:ops[i]? = some o:=by(simp only[Yp,Yl,Yn])<;>rfl)(hd:o.dst=d:=by rfl)(f:Zd o (yielded ops a.tmps)=true:=by kernel_rfl)(e:o.op=.load T (.tmp t):=by rfl)(hx:a.eval (.tmp t)=oZ b off:=by rfl)
 (j:a.put d x=a':=by(simp only[Yo,XJ,XM,XO])<;>rfl) (l:aw1 ops p r (qw ops J.b p r i) i listed=true:=by kernel_rfl) (g:∀c a w,Q (.panic c) (a.put o.dst x) w->Q (.panic c) a w:=by exact λ_ _ _ h=>h):AW P ops Q p r J (fuel+1) listed a w:=
 AW.take i (qw ops J.b p r i) ho hd (Yk ⟨f,λw k=>by
  unfold Ym;rw[e];dsimp only;rw[hx,X6,eN (n w (Sa.bel k)) m];rfl⟩) j l g h
end
end
section
open SPA
variable {P:Nat}[NeZero P]{N:Nat}
def VF(a b c d:XG)(w:XF):(Instr.box 29 (.agg #[a,b,c,d])).run prog w=.ok (jZ w.heap.size) (w.alloc (.cells [a,b,c,d].toArray 29)):=kR
def O5(O:Ord N)(n c:Nat)(q:Option Y4)(hn:n<=64)(h4:n<=c)(S:Nat->Bs)(tot p:Nat)(ht:tot<2^64)(U:p<N)(X:Bs)(J:X.size=33)(rq m:Option Y4)(f s o:Nat)(w:XF)(hL:Lists w q n S)(hr:PartOk w (.slice rq 32 f) (eZ S 0 n).toList)(b:Arg w (.slice m s o) (bx p))
 (E:∀W,kZ w W->cZ 13 #[.slice q n c] W (rZ W λe w'=>e=.tuple #[pvl X,tZ])) (hC:Gives 14 #[nv tot,nv p] (pvl X)) :
 cZ 5 #[.slice q n c,.agg #[iZ n,.slice rq 32 f,uZ tot,.slice m s o]] w (rZ w λe w'=>e=tZ):=by
 refine hG w.heap.size λG B=>?_
 refine hG (w.alloc (.cells [iZ n,.slice rq 32 f,uZ tot,.slice m s o].toArray 29)) λI z=>?_
 have H:=mk1 ((Mp.start w).new B z);have K:=VF (iZ n) (.slice rq 32 f) (uZ tot) (.slice m s o) w;rw[B.out,z.out]at K;have j:=wO O (b.below H.bl);rw[kW O U]at j;obtain⟨T,d⟩:=hE (nv p);obtain⟨vt,a⟩:=hE (nv tot);obtain⟨i,k⟩:=hE (pvl X);have D:Hid (cZ 11 #[.slice m s o] I (rZ I λe w'=>e=.tuple #[T,tZ])):=d.out▸j;have HO:Hid (∀W,cZ 15 #[uZ tot] W (rZ W λe w'=>e=vt)):=a.out▸rX tot ht;have HC:Hid (∀W,cZ 14 #[vt,T] W (rZ W λe w'=>e=i)):=a.out▸d.out▸k.out▸hC;have Q:Hid (∀W,kZ w W->cZ 13 #[.slice q n c] W (rZ W λe w'=>e=.tuple #[i,tZ])):=k.out▸E;have h5:Hid (∀W:XF,(eqGuard .eql 51 (.tmp 47) (.tmp 52) i i >>= λ_=>binOp .eql 51 i i).run prog W=.ok tZ W):=λW=>by
  rw[<-k.out,X6,show(eqGuard .eql 51 (.tmp 47) (.tmp 52) (pvl X) (pvl X)).run prog W=.ok () W by kernel_rfl];have:=LU J J;rw[decide_eq_true rfl]at this;exact this
 have HL:=mk2 hL hr;have n1:decide ((64:Int)<(n:Int))=false:=decide_eq_false (by omega);have n2:((n:Int) != (n:Int))=false:=by simp
 have iX:gZ 51 (aA X).length:=by rw[aB J];exact iCP
 have lX:(aA X).length=z33.length:=aB J;clear hL hr b E hC j;obtain⟨vc,h3⟩:=hE (Yg #[iZ n,.slice rq 32 f,uZ tot,.slice m s o]);rw[h3.out]at K⊢;go_enter func5,ntmps5;refine PW.bg [] ?_;refine PW.ns K ?_;refine PW.en [fZ] ?_;refine PW.bg [oZ G 3] ?_;refine PW.ce ((H.at_ 0).2.1 3 _ rfl) QQ ?_;refine PW.gi D λw2 g=>?_
 refine hG w2.heap.size λk5 t=>?_
 refine hG (lZ w2 (RG.z 4) 44) λw3 u=>?_
 refine hG (w3.setCells k5 0 (wn p)) λw4 v=>?_
 have K3:=mk1 ((H.grow g).new t u);have V:=mk1 (K3.put 1 v);clear H g D K;refine PW.go [T,tZ] ?_;refine PW.al t u ?_;refine PW.st v d (K3.th 1) i40 (aI) ?_;refine PW.en [tZ] ?_;refine XL<|PW.bg [fZ] ?_
 refine PW.gd ?_;refine PW.go [] ?_;refine PW.gd ?_;refine PW.go [iZ n] ?_;refine PW.gd ?_;refine PW.go [.bool (decide ((64:Int)<(n:Int)))] ?_;rw[n1];refine PW.go [fZ] ?_;refine PW.gd ?_;refine PW.go [] ?_;refine PW.gd ?_;refine PW.go [iZ n] ?_;refine PW.gd ?_;refine PW.go [jZ G] ?_;refine PW.gd ?_;refine PW.ce ((V.at_ 0).2.1 0 _ rfl) u3r ?_;refine PW.gd ?_;refine PW.go [.bool ((n:Int) != (n:Int))] ?_;rw[n2];refine PW.en [fZ] ?_;refine Yh rfl<|Y2<|XL<|PW.bg [] ?_
 refine PW.ca (MO (by omega) h4 (HL.1.below V.bl)) ?_;rintro e F ⟨v5,rfl,Z,r,rfl,h7,M⟩;have R:=mk1 (V.grow Z);have h0:cZ 12 #[sZ r 32 32,.slice rq 32 f] F (rZ F λe w'=>e=tZ):=(OU (BN (jR _ _ _) M) (HL.2.below R.bl)).mono λe w' ⟨h1,h2⟩=>⟨_,h1,h2 ▸ XX _ _,by rw[decide_eq_true rfl]⟩
 refine PW.en [sZ r 32 32,iZ 0,sZ r 32 32,iZ 0] ?_;refine PW.bg [oZ G 1] ?_;refine PW.ce ((R.at_ 0).2.1 1 _ rfl) QQ ?_;refine PW.gi h0 λw6 Y=>?_
 refine PW.en [fZ] ?_;have K6:=mk1 (R.grow Y);refine Yh rfl<|Y2<|PW.bg (P:=prog) [] ?_
 refine PW.gi (Q w6 K6.bl) λw7 L=>?_
 refine hG w7.heap.size λk9 x=>?_
 refine hG (lZ w7 z33 51) λw8 A=>?_
 refine hG (w8.setCells k9 0 (aA X)) λw9 y=>?_
 have K8:=mk1 ((K6.grow L).new x A);have C:=mk1 (K8.put 2 y rfl lX);refine PW.go [i,tZ] ?_;refine PW.al x A ?_;refine PW.st y k (K8.th 2 rfl lX) iX bQ ?_;refine PW.en [tZ] ?_;refine XL<|AW.beg 10 10 ⟨rfl,rfl,rfl,XH _,λ_ _=>rfl⟩ ?_
 refine AW.mv 0 ?_;refine AW.mv 1 ?_;refine AG.ro 2 (λW b=>((C.at_ 2).below b).2.1) k uCP iX ?_;refine AG.va 3 (oZ G 2) ?_;refine AG.ce 4 Ao (λW b=>((C.at_ 0).below b).2.1 2 _ rfl) ?_;refine AG.ro 6 (λW b=>((C.at_ 1).below b).2.1) d u40 i40 ?_;refine AG.cw 5 (λ_=>HO _) (λe w' l h=>yEs l (h.1.mono (yEB l))) ?_;rintro e W1 ⟨h6,rfl⟩;refine AG.cw 7 (λ_=>HC _) (λe w' l h=>yEs l (h.1.mono (yEB l))) ?_;rintro e W2 ⟨g,rfl⟩;refine AG.iv 8 h5 ?_;refine AW.nx 9 tZ ?_;refine AW.nx 10 tZ ?_;refine AW.dn λl=>?_
 have KE:=mk1 (C.bl.trans (yEC l C.bl.size));go_wp2;go_ret;exact⟨_,rfl,KE,rfl⟩
end
section
open SPA
section
variable {N:Nat}[NeZero N]{M:Type}(D:Md N M)
def Qo(H G:M)(a b u v w:Fin N):D.ad (D.cm H G a b) (D.ac w (D.cm H G u v))=D.cm H G (a+w*u) (b+v*w):=by
 unfold Md.cm;rw[D.acAd,D.swap,D.acAc,D.acAc,<-D.adAc,<-D.adAc,show w*v=v*w by grind]
def Jy(w:Nat->Fin N)(f:Nat->Nat->Fin N):Nat->Fin N
 | 0=>0
 | i+1=>Jy w f i+w 0*f i 0+w 1*f i 1
def EH(w:Nat->Fin N)(f:Nat->Nat->Fin N):Nat->Fin N
 | 0=>0
 | i+1=>EH w f i+f i 0*w 0+f i 1*w 1
def Vm(H G:M):D.cm H G 0 0=D.zo:=by
 unfold Md.cm;rw[D.zac,D.zac,D.zadd]
end
variable {P:Nat}[NeZero P]{N:Nat}[NeZero N]
def Tl.term(C:Fld P)(k:∀r:EC.Pt P,On r->mul N r=none)(b:1<N)(n:Fin N)(X:OnP P):Tl N [(n.val,wP X)] ((aD C k).ac n X):=by
 have h:=(Tl.one C b X).tm C k n;have e:[(1,wr X.1)].map (tmT N n.val)=[(n.val,wP X)]:=by
  show [(n.val*1%N,wr X.1)]=_;rw[yAe,Ya n.isLt]
 rw[e]at h;exact h
def JA(C:Fld P)(k:∀r:EC.Pt P,On r->mul N r=none)(c:1<N)(H G:OnP P)(w:Nat->Fin N)(a b:Nat->Nat->Fin N)(f:Nat->Nat->Nat × Bs)(hf:∀i s,f i s=((w s).val,wP ((aD C k).cm H G (a i s) (b i s)))):
 ∀n,Tl N (tmP f n) ((aD C k).cm H G (Jy w a n) (EH w b n))
 | 0=>by
  show Tl N [] ((aD C k).cm H G 0 0);rw[Vm];exact Tl.nil C k
 | n+1=>by
  have h:=(Tl.app C k (Tl.app C k (JA C k c H G w a b f hf n) (Tl.term C k c (w 0) ((aD C k).cm H G (a n 0) (b n 0)))) (Tl.term C k c (w 1) ((aD C k).cm H G (a n 1) (b n 1))))
  rw[Qo,Qo,<-hf n 0,<-hf n 1]at h;exact h
def Gx(O:Ord N)(w:Nat->Fin N)(f:Nat->Nat->Fin N):∀n,(EH w f n).val=opA N (λi s=>sTi N (f i s).val (w s).val) n
 | 0=>rfl
 | n+1=>by
  show(EH w f n+f n 0*w 0+f n 1*w 1).val=sPl N (sPl N (opA N _ n) (sTi N _ _)) (sTi N _ _);rw[jS,jS,eW,eW,Gx O w f n]
def wF(N:Nat)[NeZero N]:Nat->Fin N
 | 0=>-1
 | _=>1
def Jp(O:Ord N):∀s,(wF N s).val=sdW N s
 | 0=>by
  show(-1:Fin N).val=sMi N 0 1;rw[EL];have:=O.n2
  congr 1
  exact Ya (show 1<N by omega)
 | _+1=>by
  have:=O.n2;exact Ya (show 1<N by omega)
def Jw(A B:Nat->Nat):∀n,Jy (wF N) (λi s=>ofF N (amN s (A i) (B i))) n+ofF N (aW A n)=ofF N (aW B n)
 | 0=>by
  show(0:Fin N)+ofF N 0=ofF N 0;rw[oG];grind
 | n+1=>by
  have h:=Jw A B n;show Jy (wF N) _ n+-1*ofF N (A n)+1*ofF N (B n)+ofF N (aW A n+A n)=ofF N (aW B n+B n);rw[sE,sE,<-h];grind
def QT{A B:Nat->Nat}{n:Nat}(h:aW A n<=aW B n):Jy (wF N) (λi s=>ofF N (amN s (A i) (B i))) n=ofF N (aW B n-aW A n):=by
 have k:=Jw (N:=N) A B n;have b:=sE (N:=N) (aW B n-aW A n) (aW A n);rw[Nat.sub_add_cancel h,<-k]at b;grind
end
section
open SPA
def ch1{α β:Type}{p:α->β->Prop}(h:∀i,∃x,p i x):∃x:α->β,∀i,p i (x i):=⟨λi=>(h i).choose,λi=>(h i).choose_spec⟩
def SS{N m:Nat}(h:m<N):∃k:Fin N,k.val=m:=⟨⟨m,h⟩,rfl⟩
def bks{N:Nat}(O:Ord N)(b:Bs):∃k:Nat->Nat->Fin N,∀i s,(k i s).val=blN N b s i:=ch1 λi=>ch1 λs=>SS (Ck O b s i)
variable {P:Nat}[NeZero P]{N:Nat}[NeZero N]
def OB{n:Nat}(h:n<N):(ofF N n).val=n:=Ya h
def Qn{b:Fin N}(C:Fld P)(O:Ord N)(k:∀r:EC.Pt P,On r->mul N r=none){a:Nat}(c:a<N):Gives 14 #[nv a,nv b.val] (pvl (wP ((aD C k).cm (hPV C) (gPG C) (ofF N a) b))):=by
 have h:=mE C O c b.isLt;have e:=zN C k (ofF N a) b;rw[OB c]at e;rw[e]at h;exact h
def pss(k:Bs):∃p:Nat->Nat->List UInt8,∀i s,p i s=(psB k s i).toList:=⟨_,λ_ _=>rfl⟩
def opW{b:Bs}(O:Ord N){k:Nat->Nat->Fin N}(h:∀i s,(k i s).val=blN N b s i):(λi s=>sTi N (k i s).val (wF N s).val)=blW N b:=funext λi=>funext λs=>by
 rw[h,Jp O];rfl
def books(C:Fld P)(O:Ord N)(d:∀r:EC.Pt P,On r->mul N r=none)(hP:IsP N)(hN:18446744073709551616<=N)(n:Nat)(hn:n<=64)(K A B:Nat->Nat)(hK:∀i,1<=K i/\K i<=3)(Y:∀i,A i<4294967296)(H:∀i,B i<4294967296)(L:aW A n<=aW B n)(t:Bs)(M:t.size=32)(q S:Option Y4)(c sc:Nat)(w:XF)(hL:OpL w q n K A B)(hs:PartOk w (.slice S 32 sc) t.toList):
 cZ 4 #[.slice S 32 sc,.slice q n c] w (rZ w λe w'=>∃z F r b1 R j,e=.tuple #[.slice z n F,.agg #[iZ n,sZ r 32 32,uZ ((aW B n-aW A n:Nat):Int),.slice b1 R j],iZ 0] /\
  ∀W,kZ w' W->cZ 5 #[.slice z n F,.agg #[iZ n,sZ r 32 32,uZ ((aW B n-aW A n:Nat):Int),.slice b1 R j]] W (rZ W λe f=>e=tZ)):=by
 have n1:1<N:=oM;obtain⟨l,E⟩:=bks O t;obtain⟨ps,ha⟩:=pss t;obtain⟨V,hV⟩:=ch1 λi=>ch1 λs=>NQ C O d hP hN (FD (Y i) (H i) s)
 obtain⟨T,o⟩:=ch1 λi=>ch1 (hV i)
 clear hV;have y:∀i s,(V i s).size=33:=λi s=>by rw[(o i s).1];exact aL _
 have f:aW B n-aW A n<2^64:=by
  have:=rJ H n;omega
 have u:=O1 O n c q K A B hn hK Y H L t M S sc (λi=>#[XY (K i)]++fsB (V i) 2++fsB (T i) 2) w hL hs λi W m hb =>
  Ie O (K i) (A i) (B i) i oM (Y i) (H i) t M S sc (V i) (T i) (y i) (λs=>(o i s).2.1) (λs=>by
   rw[(o i s).1,<-E i s];exact Qn C O d (XI (FD (Y i) (H i) s) oM)) (λs=>by
   rw[<-E i s,<-ha i s];exact(o i s).2.2.1) W (hs.below hb)
 have Z:=JA C d n1 (hPV C) (gPG C) (wF N) (λi s=>ofF N (amN s (A i) (B i))) l (λi s=>(sdW N s,V i s)) (λi s=>by rw[Jp O,<-(o i s).1]) n;have j:=Gx O (wF N) l n;rw[opW O E]at j;rw[QT L]at Z;have G:=Qn C O d (XI f hN) (b:=(EH (wF N) l n));have a:=(EH (wF N) l n).isLt;rw[j]at G a;generalize EH (wF N) l n=op at Z G j;clear j;have Q:∀(v:XG) (W:XF),SmZ 0 W v (tmP (λi s=>(sdW N s,V i s)) n)->(n=0->v=nZ)->cZ 33 #[v] W (rZ W λe w'=>e=pvl (wP ((aD C d).cm (hPV C) (gPG C) (ofF N (aW B n-aW A n)) op))):=λv W hv hz=>by
  have D:=Bv (λi s=>(sdW N s,V i s)) n;by_cases U:n=0
  .obtain rfl:=hz U;subst U;have e:wP ((aD C d).cm (hPV C) (gPG C) (ofF N (aW B 0-aW A 0)) op)=wr (none:EC.Pt P):=by
    show wr _=wr _;rw[<-Z.sum];rfl
   rw[e];exact Is C O
  .rcases hv with⟨rfl,hv⟩|hv
   .rw[hv]at D;exact absurd D (by simp;omega)
   .exact Tl.point C O d Z oM oM hv
 have D:(wP ((aD C d).cm (hPV C) (gPG C) (ofF N (aW B n-aW A n)) op)).size=33:=aL _;generalize wP ((aD C d).cm (hPV C) (gPG C) (ofF N (aW B n-aW A n)) op)=X at G Q D;generalize (aW B n-aW A n:Nat)=tot at u G f⊢;generalize opA N (blW N t) n=bl at u G a;refine u.mono ?_;rintro e w' ⟨_,rfl,hb,v,r,b,B0,xs,rfl,⟨h1,h2⟩,h3,h4,h5⟩;obtain⟨z,F,rfl,hc,hp,I⟩:=AS h1 h2;obtain⟨g5,bc,rfl,-⟩:=id h5;refine⟨_,rfl,hb,z,F,r,some (aZ g5),32,bc,rfl,λW J=>?_⟩;refine O5 O n F z hn hc _ tot bl f a X D _ _ 32 32 bc W (hp.below J) (BN (jR _ _ _) (Holds.below h3 J h4)) (h5.argS.below J) (λW1 hm=>?_) G;have b1:=J.trans (hm.mono J.size);have hq:∀i,∃x,(∀g,z=some (aZ g)->i<n->w'.cell? ⟨g,i,none⟩=some x)/\∃k c,x=sZ k 1313 c/\1313<=c/\(i<n->k<w'.heap.size/\hZ w' k 0 (#[XY (K i)]++fsB (V i) 2++fsB (T i) 2)):=λi=>by
  by_cases m:i<n
  .obtain⟨g,rfl,-,hx⟩:=I oM;obtain⟨x,hj,k,c,rfl,h6,-,-,h7,h8⟩:=hx i m;refine⟨_,λg' e _=>?_,k,c,rfl,h6,λ_=>⟨h7,h8⟩⟩;injection e with e
   injection e with e
   rw[<-e];exact hj
  .exact⟨_,λ_ _ h=>absurd h m,0,1313,rfl,XH _,λh=>absurd h m⟩
 obtain⟨x,hx⟩:=ch1 hq;refine JE O z n F hn V y x X D W1 (λU=>?_) (λi=>?_) (λi W2 m he=>?_) Q
 .obtain⟨g,e,hg,-⟩:=I U;exact⟨g,e,XI hg b1.size,λi m=>by rw[b1.cell (p:=⟨g,i,none⟩) hg];exact(hx i).1 g e m⟩
 .obtain⟨-,k,c,e,-⟩:=hx i;exact⟨_,_,_,e⟩
 .obtain⟨-,k,c1,e,h9,h⟩:=hx i;obtain⟨hk,hH⟩:=h m;have R:=b1.trans (he.mono b1.size);rw[e];exact Rz C k c1 (K i) h9 (hK i).1 (hK i).2 (V i) (T i) (y i) (λs=>(o i s).2.1) (λs=>by
   rw[(o i s).1];obtain⟨p,h,-⟩:=yF C ((aD C d).cm (hPV C) (gPG C) (ofF N (amN s (A i) (B i))) (l i s)).2;exact⟨p,h⟩) (λs=>(o i s).2.2.2) W2 (XI hk R.size) (Holds.below hH R hk)
end
section
open SPA
variable {P:Nat}[NeZero P]{N:Nat}
def IQ{P:YO}(w:XF)(i sT m c:Yj)(b o k e:Nat)(t:ByteArray)(q:P.underlying i=some (.slice c))(l:∀w,(Go.sizeOf c).run P w=.ok 1 w)
 (n:∀j,j<k->(w.cell? ⟨b,o+j,none⟩).isSome=true) (hf:∀j,j<k->w.frozen? ⟨b,o+j,none⟩=false) :
 (yAL #[i,sT] m #[qZ b o k e,.string t]).run P w=.ok (goInt (yAG t.size k)) (w.setCells b o ((t.data.toList.take k).map λx=>Y1 .u8 (x.toNat:Int))):=by
 by_cases f:t.size<=k
 .rw[run_copy_string w i sT m c b o k e t q l f (λj d=>n j oM) (λj d=>hf j oM),show yAG t.size k=t.size from Nat.min_eq_left f,List.take_of_length_le (by rw[<-yEM];exact f)]
 .have d:yAG t.size k=k:=Nat.min_eq_right oM;have p:((t.data.toList.take k).map λx=>Y1 .u8 (x.toNat:Int)).length=k:=by rw[X7,Z8,<-yEM];omega
  have g:=run_storeCells_cells (P:=P) b o ((t.data.toList.take k).map λx=>Y1 .u8 (x.toNat:Int)) 0 w (by rw[p];simpa using n) (by rw[p];simpa using hf) (by
   intro v hv;obtain⟨x,_,rfl⟩:=List.mem_map.1 hv;rfl)
  rw[d];simp[yAL,run_underlying q,Builtin.lenOf,Builtin.firstCells,l,d];rw[List.map_take]at g;rw[g];rfl
def fnB(f:Nat->UInt8):Bs:=Array.ofFn (n:=32) λi=>f i.val
def sM{f:Nat->UInt8}:(fnB f).size=32:=by unfold fnB;simp
def LN{f:Nat->UInt8}{j:Nat}(k:j<32):(fnB f)[j]! = f j:=by
 rw[getElem!_pos (fnB f) j (by rw[sM];exact k)];unfold fnB;simp
def sdF(s:ByteArray)(j:Nat):UInt8:=s.data.toList.getD j 0
theorem sd_holds{W:XF}{k:Nat}(s:ByteArray)(h:hZ W k 0 (XW 32 0)):hZ (W.setCells k 0 ((s.data.toList.take 32).map λx=>Y1 .u8 (x.toNat:Int))) k 0 (fnB (sdF s)):=by
 refine SP.Holds.setCells (o:=0) (p:=0) h _ (by rw[sM,X8]) (by rw[X7,Z8,X8];omega) (λj b=>?_) (λj b c=>?_)
 .rw[X7,Z8]at b;rw[LN oM,List.getElem_map,List.getElem_take];unfold sdF;rw[XQ,Zn,XV oM];rfl
 .rw[X8]at b;rw[X7,Z8]at c;rw[LN b,SP.rep_at 32 j b];unfold sdF;rw[Zn,List.getElem?_eq_none oM];rfl
end
section
open SPA
def tT(A B:Nat->Nat):Nat->Nat
 | 0=>0
 | i+1=>tT A B i+B i-if tT A B i+B i<A i then 0 else A i
def aT(A B:Nat->Nat)(i:Nat):Nat:=if tT A B i+B i<A i then 0 else A i
def VV{A B:Nat->Nat}{i:Nat}:aT A B i<=tT A B i+B i/\aT A B i<=A i:=by
 unfold aT;split<;>omega
def JC(A B:Nat->Nat):∀n,tT A B n+aW (aT A B) n=aW B n
 | 0=>rfl
 | n+1=>by
  have h:=JC A B n;have:=(VV).1;show tT A B n+B n-aT A B n+(aW (aT A B) n+aT A B n)=aW B n+B n;omega
def opR(K A B:Nat->Nat):Nat->List XG
 | 0=>[]
 | i+1=>opR K A B i++opC (K i) (A i) (B i)
def wX(K A B:Nat->Nat):∀n,(opR K A B n).length=3*n
 | 0=>rfl
 | n+1=>by
  show(opR K A B n++opC _ _ _).length=_;rw[XP,wX K A B n];rfl
def Ku{K A B:Nat->Nat}{i:Nat}:∀n,i<n->∀j u,(opC (K i) (A i) (B i))[j]? = some u->(opR K A B n)[3*i+j]? = some u
 | n+1,hi,j,u,hu=>by
  have k:j<3:=(XT.1 hu).1;show(opR K A B n++opC _ _ _)[3*i+j]? = _;by_cases h:i<n
  .rw[X1 (by rw[wX];omega)];exact Ku n h j u hu
  .obtain rfl:i=n:=by omega
   rw[X4 (by rw[wX];omega),wX,ZN];exact hu
def V3:prog.underlying 22=some (.slice 26):=kR
def UT:(prog.info? 26).map (λi=>(i.size,i.bytes,i.zero.map λz=>z.cells.size))=some (3,24,some 3):=kR
structure OwO(w W:XF)(i:Nat)(v:XG)(K A B:Nat->Nat):Prop where
 bl:kZ w W
 ow:W.ownsRow w.heap.size 26 3 v i (opR K A B i)
def OwO.grow{w W W':XF}{i:Nat}{v:XG}{K A B:Nat->Nat}(h:OwO w W i v K A B)(k:kZ W W'):OwO w W' i v K A B:=
 ⟨h.bl.trans (k.mono h.bl.size),bG h.ow λg b=>k.block g (bU h.ow b).2.1⟩
def OwO.app{w W:XF}{i g:Nat}{v:XG}{K A B:Nat->Nat}(h:OwO w W i v K A B)(p:Row W g (opC (K i) (A i) (B i)))(a:i<=64):
 ∃c W',(YK #[22,22] 22 #[v,sZ g 1 1]).run prog W=.ok c W'/\OwO w W' (i+1) c K A B:=by
 obtain⟨x,f,m⟩:=XK.1 UT;simp only[Zl.injEq]at m;obtain⟨r,t,q⟩:=m;obtain⟨z,o,d⟩:=XK.1 q;obtain⟨c,W',n,s,b,-⟩:=run_append_own (P:=prog) W w.heap.size 22 22 26 x z 3 24 V3 f o r t d (by decide) v i _ h.ow (aZ g) 1 1 (opC (K i) (A i) (B i)) rfl
  (λj u y=>by
   rw[gU];exact p.2.1 j u y) (λu l=>by
   simp only[opC,Zc,Yf,or_false]at l;rcases l with rfl|rfl|rfl<;>rfl) (by unfold maxLen;omega) (by omega) h.bl.size
 refine⟨c,W',n,⟨b.os.trans h.bl.os,b.tape.trans h.bl.tape,b.output.trans h.bl.output,XN h.bl.size b.size,λk l=>(b.block k (XI l h.bl.size) λe=>oN ((bU h.ow e.symm).1)).trans (h.bl.block k l)⟩,s⟩
def OwO.opl{w W:XF}{i:Nat}{v:XG}{K A B:Nat->Nat}(h:OwO w W i v K A B):∃q c,v=.slice q i c/\OpL W q i K A B:=by
 rcases id h.ow with⟨-,⟨rfl,rfl⟩|⟨g,cap,cur,rfl,-⟩⟩
 .exact⟨none,0,rfl,λh=>absurd h (by omega)⟩
 .refine⟨_,cap,rfl,λ_=>⟨g,rfl,(bU h.ow rfl).2.1,λj k m u b=>?_⟩⟩;have:=h.ow.cells (g:=g) rfl _ _ (Ku i k m u b);rw[gU,XQ]at this;exact this
section
variable {P:YO}{Q:Exit->Act->XF->Prop}{a:Act}{w:XF}{c y:Code}
def Jl(C:XF->Prop)(h:c.wp P (λe b w'=>e=.normal/\C w'/\∃p,b=a.put (some 50) p) a w)(k:∀w' p,C w'->y.wp P Q (a.put (some 50) p) w'):c.wp P (Exit.then (y.wp P Q) Q) a w:=
 wp_mono h λe b w' ⟨g,f,p,d⟩=>by
  subst g d;exact k w' p f
end
def idxOf{g o n c i:Nat}(k:i<n)(w:XF):(YV 22 (qZ g o n c) (iZ i)).run prog w=.ok (oZ g (o+3*i)) w:=by
 have b:=gU g o (3*i);go_simp
def P4{W:XF}{j k o:Nat}{cs:List XG}{x:XG}(h:W.rangeAt k o cs)(hx:cs[j]? = some x):W.rangeAt k (o+j) [x]:=λi v b=>by
 obtain rfl:i=0:=by have:=(XT.1 b).1;simp at this;omega
 rw[yAi];exact h j v (hx.trans b)
def row_one{W:XF}{k:Nat}{a b c u:XG}(h:Row W k [a,b,c]):W.there k 1 1/\Row (W.setCells k 1 [u]) k [a,u,c]:=by
 have t1:W.there k 1 1:=λj d=>by
  have:=h.2.2 (1+j) (by simp only[YA,ZD];omega);rw[XQ]at this;exact this
 have g:=Yr (P4 h.2.1 rfl) k 1 [u] (Yd (Yk (XH 1)));have e:=YW W k 1 [u] t1;have f:=Yr (P4 h.2.1 rfl) k 1 [u] (Yd (Yd (XH 2)));refine⟨t1,by rw[setCells_size];exact h.1,λj v d=>?_,Za h.2.2 _ _ _⟩;match j,d with
 | 0,d=>exact g 0 v d
 | 1,d=>exact e 0 v d
 | 2,d=>exact f 0 v d
def Xj(k a b:Nat)(w:XF):(YF 22 1 #[(0,.agg (opC k a b).toArray)]).run prog w=.ok (sZ w.heap.size 1 1) (w.alloc (.cells (opC k a b).toArray 26)):=kR
end
section
open SPA
variable {P:Nat}[NeZero P]{N:Nat}
def al3(w:XF):(Instr.alloc 26 true (.tuple #[])).run prog w=.ok (jZ w.heap.size) (w.alloc (.cells z3.toArray 26)):=kR
def Pu(s:ByteArray)(q:Option Y4)(n c:Nat)(X Y:Nat->Nat)(w:XF)(hX:∀i,X i<2^64)(hY:∀i,Y i<2^64)(hq:0<n->∃g o,q=some ⟨g,o,none⟩/\g<w.heap.size/\∀i,i<n->w.cell? ⟨g,o+3*i+1,none⟩=some (uZ (X i:Int))/\w.cell? ⟨g,o+3*i+2,none⟩=some (uZ (Y i:Int)))
 (hB:∀(K A B:Nat->Nat) n,n<=64->(∀i,1<=K i/\K i<=3)->(∀i,A i<4294967296)->(∀i,B i<4294967296)->aW A n<=aW B n->∀(l:Bs),l.size=32->∀(q b:Option Y4) (c sc:Nat) (w:XF),OpL w q n K A B->PartOk w (.slice b 32 sc) l.toList ->
  cZ 4 #[.slice b 32 sc,.slice q n c] w (rZ w λe w'=>∃f d r b1 a M,e=.tuple #[.slice f n d,.agg #[iZ n,sZ r 32 32,uZ ((aW B n-aW A n:Nat):Int),.slice b1 a M],iZ 0] /\
  ∀W,kZ w' W->cZ 5 #[.slice f n d,.agg #[iZ n,sZ r 32 32,uZ ((aW B n-aW A n:Nat):Int),.slice b1 a M]] W (rZ W λe k=>e=tZ))) :
 cZ 3 #[.string s,.slice q n c] w (rZ w λe w'=>e=tZ):=by
 have T:=mk3 hX hY (Y0 hq hB);go_enter func3,ntmps3;refine PW.rg [fZ] ?_;refine XL<|PW.rg [iZ n,.bool (decide ((8:Int)<(n:Int)))] ?_
 by_cases h8:(8:Int)<(n:Int)
 .rw[decide_eq_true h8];go_wp2;go_ret;exact⟨_,rfl,XX _ _,rfl⟩
 rw[decide_eq_false h8];refine Yh rfl<|Y2<|hG w.heap.size λk5 D=>?_
 refine hG (w.alloc (.cells (madeCells #[.int .u8 0] 32) 5)) λW1 h1=>?_
 have m1:=WT w;have b:hZ (w.alloc (.cells (madeCells #[.int .u8 0] 32) 5)) w.heap.size 0 (XW 32 0):=SP.Holds.made (enc:=encB) w 5 32 0;have b1:=aC (w:=w) (.cells (madeCells #[.int .u8 0] 32) 5);rw[h1.out]at m1 b b1;rw[D.out]at m1 b;refine PW.bg [] ?_;refine PW.ns m1 ?_;refine PW.en [sZ k5 32 32] ?_;have cp:=IQ (P:=prog) W1 23 9 3 5 k5 0 32 32 s SP.slice22 SP.size5 (λj hj=>by rw[(b j (by rw[X8];exact hj)).1];rfl) (λj hj=>(b j (by rw[X8];exact hj)).2);have Q:=sd_holds s b;refine hG (W1.setCells k5 0 ((s.data.toList.take 32).map λx=>Y1 .u8 (x.toNat:Int))) λW2 F=>?_
 have a:kZ w W2:=by rw[<-F.out];exact RG.below_setCells (D.out▸XH _) _ _ _ b1
 rw[F.out]at cp Q;refine PW.bg [] ?_;refine PW.ns cp ?_;refine PW.dn ?_;have R:=mk2 a (rU Q sM);refine PW.rg [nZ] ?_;refine PW.rg [uZ 0] ?_;refine XL<|PW.rg [iZ 0] ?_
 apply Zk;obtain⟨A,hA⟩:=hE (aT (λi=>X i%4294967296) (λi=>Y i%4294967296));obtain⟨B,d⟩:=hE (λi=>Y i%4294967296);obtain⟨K,hK⟩:=hE (λi=>1+i%3);obtain⟨t,Z⟩:=hE (tT (λi=>X i%4294967296) (λi=>Y i%4294967296));have fA:Hid (∀i,A i=if t i+B i<X i%4294967296 then 0 else X i%4294967296):=by rw[<-hA.out,<-d.out,<-Z.out];exact λ_=>rfl
 have ft:Hid (∀i,t (i+1)=t i+B i-A i):=by rw[<-hA.out,<-d.out,<-Z.out];exact λ_=>rfl
 have fS:Hid (∀i,t i+aW A i=aW B i):=by rw[<-hA.out,<-d.out,<-Z.out];exact λi=>JC _ _ i
 have U:Hid (∀i,B i<4294967296):=by rw[<-d.out];exact λi=>Zi _ dC
 have fL:Hid (∀i,A i<4294967296):=λi=>by rw[fA.out];have:=Zi (X i) (show 0<4294967296 by decide);split<;>omega
 have fK:Hid (∀i,K i=1+i%3):=by rw[<-hK.out];exact λ_=>rfl
 have h5:t 0=0:=by rw[<-Z.out];rfl
 have h4:Hid (∀i,B i=Y i%4294967296):=by rw[<-d.out];exact λ_=>rfl
 have O0:Hid (OwO W2 W2 0 nZ K A B):=⟨XX _ _,rfl,Yk ⟨rfl,rfl⟩⟩
 go_loopg [6,7,8] n (λgk s6 s7 s8 wr=>∃i:Nat,i+gk=n/\s8=iZ i/\s7=uZ (t i:Int)/\Hid (OwO W2 wr i s6 K A B))
 case atStart=>exact⟨0,oM,rfl,by rw[h5];rfl,O0⟩
 case round =>
  obtain⟨i,ha,rfl,rfl,J⟩:=hrel;refine XL<|PW.rg [iZ n,.bool (decide ((i:Int)<(n:Int)))] ?_
  by_cases hi:i<n
  .have y:(i:Int)<(n:Int):=oM;rw[decide_eq_true y];refine YH rfl<|Y2 ?_
   have h3:Yt.wrap ((i:Int)+1)=((i+1:Nat):Int):=by rw[Zo];omega
   have bw:=R.1.trans (J.bl.mono R.1.size);obtain⟨g,o,rfl,hg,hc⟩:=T.2.2.1 oM;obtain⟨c1,c2⟩:=hc i hi;have C1:=mk2 c1 c2;have h9:=T.1 i;have h7:=T.2.1 i;have lt:=fS i;have ls:=rJ U i;have N:(i:Int).tmod 3=((i%3:Nat):Int):=by rw[yBx oM];omega
   have E:Yt.wrap (1+((i%3:Nat):Int))=((K i:Nat):Int):=by rw[Zo,fK.out];omega
   have O:(X i:Int).tmod 4294967296=((X i%4294967296:Nat):Int):=by rw[yBx oM];omega
   have I:(Y i:Int).tmod 4294967296=((B i:Nat):Int):=by rw[yBx oM,h4.out];omega
   refine hG wr.drew.heap.size λm G=>?_
   refine hG (lZ wr.drew z3 26) λw4 f=>?_
   refine hG (w4.setCells m 0 (opC (K i) (X i%4294967296) (B i))) λw5 v=>?_
   have C:=mk1 ((Mp.start wr).drew.new G f);have L:=mk1 (C.put 0 v);have a3:=al3 wr.drew;have bb:=aC (w:=wr.drew) (.cells z3.toArray 26);rw[G.out,f.out]at a3;rw[f.out]at bb;obtain⟨vo,k⟩:=hE (Yg (opC (K i) (X i%4294967296) (B i)).toArray);refine XL<|Zk<|XL<|AW.begin 17 17 ?_
   refine AW.mv 0 ?_;refine AW.va 1 (iZ ((i:Int).tmod 3)) ?_;rw[N];refine AW.va 2 (iZ (Yt.wrap (1+((i%3:Nat):Int)))) ?_;rw[E];refine AW.mv 3 ?_;refine AW.mv 4 ?_;refine AW.iv 5 (idxOf hi) ?_;refine AW.va 6 (oZ g (o+3*i+1)) ?_;refine AW.ce 7 Ao (λW hb=>((bw.trans (hb.mono bw.size)).cell (p:=⟨g,o+3*i+1,none⟩) hg).trans C1.1) ?_;refine AW.va 8 (uZ ((X i:Int).tmod 4294967296)) ?_;rw[O];refine AW.mv 9 ?_;refine AW.mv 10 ?_;refine AW.iv 11 (idxOf hi) ?_;refine AW.va 12 (oZ g (o+3*i+2)) ?_;refine AW.ce 13 Ao (λW hb=>((bw.trans (hb.mono bw.size)).cell (p:=⟨g,o+3*i+2,none⟩) hg).trans C1.2) ?_;refine AW.va 14 (uZ ((Y i:Int).tmod 4294967296)) ?_;rw[I];refine AW.va 15 (.agg (opC (K i) (X i%4294967296) (B i)).toArray) ?_;rw[k.out];refine AW.ns 16 a3 bb ?_;refine AW.fi k BP iOp λ_=>?_
   rw[v.out];refine⟨C.th 0,?_⟩;clear C a3 bb f v N E O I k C1;have S:Yy.wrap ((t i:Int)+(B i:Int))=((t i+B i:Nat):Int):=by have:=U i;rw[ZX];omega
   have lA:A i<=t i+B i:=by rw[fA.out];split<;>omega
   have h0:Yy.wrap (((t i+B i:Nat):Int)-(A i:Int))=((t (i+1):Nat):Int):=by have:=U i;rw[ZX,ft.out];omega
   refine XL<|PW.bg [oZ m 1] ?_
   refine PW.ce ((L.at_ 0).2.1 1 _ rfl) Ao ?_;refine PW.go [oZ m 2] ?_;refine PW.ce ((L.at_ 0).2.1 2 _ rfl) Ao ?_;refine PW.go [uZ (Yy.wrap ((t i:Int)+(B i:Int)))] ?_;rw[S];refine PW.en [.bool (decide (((t i+B i:Nat):Int)<((X i%4294967296:Nat):Int)))] ?_;refine Jl (λW=>Mp wr W [(m,opC (K i) (A i) (B i))] []) ?_ ?_
   .by_cases l:t i+B i<X i%4294967296
    .rw[decide_eq_true oM];refine YH rfl<|hG (w5.setCells m 1 [uZ 0]) λz H=>?_
     obtain⟨th,V⟩:=row_one (u:=uZ 0) (L.at_ 0);refine PW.bb [oZ m 1] ?_;refine ND 50 H th kR kR kR ?_;refine PW.dn ?_;refine⟨rfl,?_,_,rfl⟩;rw[fA.out,yE3 l];exact L.upd 0 H V
    .rw[decide_eq_false oM];refine Yh rfl<|Y2 ?_
     refine⟨rfl,?_,_,rfl⟩;rw[fA.out,yE4 l];exact L
   intro z p6 M6;have V:=mk2 M6 (J.grow M6.bl);obtain⟨vo,k⟩:=hE (Yg (opC (K i) (A i) (B i)).toArray);have bs:=Xj (K i) (A i) (B i) z;have bb:=aC (w:=z) (.cells (opC (K i) (A i) (B i)).toArray 26);obtain⟨v',w8,r8,h2⟩:=(V.2.grow bb).app (g:=z.heap.size) (row_new z (opC (K i) (A i) (B i)) 26) oM;refine hG z.heap.size λh6 l=>?_
   refine hG (z.alloc (.cells (opC (K i) (A i) (B i)).toArray 26)) λw7 H=>?_
   rw[l.out,H.out,k.out]at bs;rw[l.out,H.out]at r8;have KF:=mk1 h2;refine PW.bg [oZ m 2] ?_;refine PW.ce ((V.1.at_ 0).2.1 2 _ rfl) Ao ?_;refine PW.go [uZ (Yy.wrap ((t i:Int)+(B i:Int)))] ?_;rw[S];refine PW.go [oZ m 1] ?_;refine PW.ce ((V.1.at_ 0).2.1 1 _ rfl) Ao ?_;refine PW.go [uZ (Yy.wrap (((t i+B i:Nat):Int)-(A i:Int)))] ?_;rw[h0];refine PW.en [uZ ((t (i+1):Nat):Int)] ?_;refine PW.bb (P:=prog) [] ?_;refine PW.ro (V.1.at_ 0).2.1 k uOp iOp ?_;refine PW.ns bs ?_;refine PW.ns r8 ?_;refine PW.en [v'] ?_;refine PW.bb (P:=prog) [iZ (Yt.wrap ((i:Int)+1))] ?_;rw[h3];go_wp2;go_roundg (gk-1)
   case measure=>omega
   case rel=>exact⟨i+1,oM,rfl,rfl,KF⟩
  .have y:¬(i:Int)<(n:Int):=oM;obtain rfl:i=n:=oM;rw[decide_eq_false y];refine Yh rfl<|yBt ?_
   have bw:=R.1.trans (J.bl.mono R.1.size);obtain⟨q6,c6,rfl,hO⟩:=J.opl;have HC:=T.2.2.2 K A B i oM (λj=>by rw[fK.out];omega) fL U (oN (fS i)) (fnB (sdF s)) sM q6 (some (aZ k5)) c6 32 wr hO (R.2.below J.bl);rw[show aW B i-aW A i=t i by have:=fS.out i;omega]at HC;have BW:=mk1 bw;refine PW.bg (P:=prog) [] ?_;refine PW.ca HC ?_;rintro e O ⟨z,q1,c1,r,b1,a,M,rfl,S⟩;refine hG O.heap.size λm f=>?_
   refine hG (lZ O zcl 29) λw2 E=>?_
   obtain⟨cs,k⟩:=hE [iZ i,sZ r 32 32,uZ (t i:Int),.slice b1 a M];refine hG (w2.setCells m 0 cs) λw3 v=>?_
   have N:cs.length=4:=by rw[<-k.out];rfl
   have V:=mk1 ((Mp.start O).new f E);have L:=mk1 (V.put 0 v rfl (by rw[N];rfl));have x0:cs[0]? = some (iZ i):=by rw[<-k.out];rfl
   have x2:cs[2]? = some (uZ (t i:Int)):=by rw[<-k.out];rfl
   have o1:cs.toArray.all (·.oneCell')=true:=k.out▸kR;have iC:gZ 29 cs.length:=by rw[N];exact iCl
   obtain⟨vc,H⟩:=hE (Yg #[iZ i,sZ r 32 32,uZ (t i:Int),.slice b1 a M]);have l:Hid (.agg cs.toArray=vc):=by rw[<-k.out,<-H.out];rfl
   have I:=S w3 L.bl;rw[H.out]at I⊢;have B3:=mk1 (BW.trans ((z.trans (L.bl.mono z.size)).mono BW.size));refine PW.go [.slice q1 i c1,vc,iZ 0] ?_;refine PW.al f E ?_;refine PW.go [.slice q1 i c1] ?_;refine PW.st v l (V.th 0 rfl (by rw[N];rfl)) iC o1 ?_;refine PW.en [iZ 0] ?_;refine PW.bg [] ?_;refine PW.ro (L.at_ 0).2.1 l uCl iC ?_;refine PW.gi I λw4 G=>?_
   refine PW.en [tZ] ?_;have C:=mk1 (L.grow G);have B4:=mk1 (B3.trans (G.mono B3.size));have et:((t i:Int) == (t i:Int))=true:=by simp
   have ei:((i:Int) == (i:Int))=true:=by simp
   refine PW.bg [tZ] ?_;refine PW.gd ?_;refine PW.go [tZ] ?_;refine PW.gd ?_;refine PW.go [oZ m 2] ?_;refine PW.gd ?_;refine PW.ce ((C.at_ 0).2.1 2 _ x2) Ao ?_;refine PW.gd ?_;refine PW.go [] ?_;refine PW.gd ?_;refine PW.go [.bool ((t i:Int) == (t i:Int))] ?_;rw[et];refine PW.go [tZ] ?_;refine PW.gd ?_;refine PW.go [jZ m] ?_;refine PW.gd ?_;refine PW.ce ((C.at_ 0).2.1 0 _ x0) u3r ?_;refine PW.gd ?_;refine PW.go [] ?_;refine PW.gd ?_;refine PW.go [iZ i] ?_;refine PW.gd ?_;refine PW.go [.bool ((i:Int) == (i:Int))] ?_;rw[ei];refine PW.go [tZ] ?_;refine PW.gd ?_;refine PW.go [] ?_;refine PW.gd ?_;refine PW.go [iZ i] ?_;refine PW.gd ?_;refine PW.go [] ?_;refine PW.gd ?_;refine PW.go [iZ i] ?_;refine PW.gd ?_;refine PW.go [.bool ((i:Int) == (i:Int))] ?_;rw[ei];refine PW.en [tZ,tZ] ?_;apply Zj;go_ret;exact⟨_,rfl,B4,rfl⟩
end
section
variable {P:Nat}[NeZero P]{N:Nat}
def fld:∃(P:Nat) (_:NeZero P),Fld P:=by
 obtain⟨P,i,g,j⟩:=cur;have f:P=Go.Proofs.YtlofhpkoaljmeaaGreat.p0:=by rw[g];decide +kernel
 have b:=Xh;have e:2<=Go.Proofs.YtlofhpkoaljmeaaGreat.p0%18446744073709551616:=dK;have k:Go.Proofs.YtlofhpkoaljmeaaGreat.p0/4%18446744073709551616<18446744073709551615:=dK;have c:Go.Proofs.YtlofhpkoaljmeaaGreat.p0%4=3:=dK;have d:7<Go.Proofs.YtlofhpkoaljmeaaGreat.p0:=dK;rw[<-f]at b e k c d;exact⟨P,i,⟨b,j,e,k,c,d⟩⟩
end
namespace EC
variable {P:Nat}[NeZero P]
def fo{α:Type}(x:Fin P)(f:Fin P->α):α:=
 match x.val with
 | 0=>f (Z2 P 0)
 | n+1=>f (Z2 P (n+1))
def U8{α:Type}(x:Fin P)(f:Fin P->α):fo x f=f x:=by
 have hx:Z2 P x.val=x:=Fin.ext (Ya x.isLt);unfold fo;split
 .next h=>rw[h]at hx;rw[hx]
 .next n h=>rw[h]at hx;rw[hx]
def runs(u v:Fin P)(e:Nat):Nat->Fin P->Fin P->Fin P->Bool
 | 0,_,_,z=>decide (z=0)
 | k+1,x,y,z=>fo (twX x y) λX=>fo (twY x y) λY=>fo (twZ y z) λZ =>
  if e/2^k%2=1 then
   if Z=0 then false else
   fo (cO X 1) λd=>fo (eO Y 1) λg=>fo (cO u Z) λbx=>fo (eO v Z) λf =>
   if d=bx/\g=f then false else
   fo (plX d g bx f) λa=>fo (plY d g bx f) λb=>fo (plZ Z 1 d bx) λc=>runs u v e k a b c
  else runs u v e k X Y Z
def EI(C:Cur P):(1:Fin P)≠0:=λh=>C.two (by
 calc (2:Fin P)=2*1:=by grobner
  _=0:=by rw[h];grobner)
def BD(C:Cur P){u v:Fin P}(c:On (some (u,v)))(e:Nat):∀(k m:Nat) (x y z:Fin P),Jac x y z (mul m (some (u,v)))->runs u v e k x y z=true->mul (m*2^k+e%2^k) (some (u,v))=none
 | 0,m,x,y,z,hj,h=>by
  have b:=of_decide_eq_true h;rw[Nat.pow_zero,Nat.mod_one,yAe,yAi];exact hj.zero C b
 | k+1,m,x,y,z,hj,h=>by
  have p:=cG C c m;have g:=hj.twice C p;rw[<-mul_add C c]at g;have o:e%2^(k+1)=e/2^k%2*2^k+e%2^k:=by
   rw[Zr,Nat.mod_mul,YN (2^k) (e/2^k%2),Nat.add_comm]
  have n:2^(k+1)=2*2^k:=by rw[Zr,YN]
  unfold runs at h;simp only[U8]at h;by_cases b:e/2^k%2=1
  .rw[yE3 b]at h;by_cases f:twZ y z=0
   .rw[yE3 f]at h;cases h
   .rw[yE4 f]at h;have i:Jac u v 1 (some (u,v)):=⟨EI C,by grobner,by grobner⟩
    rcases g.plus C (cG C c _) i c f (EI C)with⟨j,d,-⟩|⟨j,d⟩
    .rw[yE3 ⟨j,d⟩]at h;cases h
    .rw[yE4 j]at h;have l:=BD C c e k (m+m+1) _ _ _ d h;rw[o,b,n];rw[show m*(2*2^k)+(1*2^k+e%2^k)=(m+m+1)*2^k+e%2^k by
      rw[yAB,yAB,<-yAO,YN m 2,yEE,yAB];omega]
     exact l
  .rw[yE4 b]at h;have d:e/2^k%2=0:=oM;have l:=BD C c e k (m+m) _ _ _ g h;rw[o,d,n];rw[show m*(2*2^k)+(0*2^k+e%2^k)=(m+m)*2^k+e%2^k by
    rw[<-yAO,YN m 2,yEE];omega]
   exact l
def pL:Nat:=115792089237316195423570985008687907853269984665640564039457584007908834671663
def nL:Nat:=115792089237316195423570985008687907852837564279074904382605163141518161494337
instance:NeZero pL:=⟨dK⟩
def Ru:runs (P:=pL) (Z2 pL 55066263022277343669578718895168534326250603453777594175500187360389116729240) (Z2 pL 32670510020758816978083085130507043184471273380659243275938904335757337482424) nL 255 (Z2 pL 55066263022277343669578718895168534326250603453777594175500187360389116729240) (Z2 pL 32670510020758816978083085130507043184471273380659243275938904335757337482424) 1=true:=dK
def NM:2*pL+1<3*nL:=dK
def SD:1*2^255+nL%2^255=nL:=dK
def order(C:Cur P)(b:P=pL)(k:On (some (Z2 P 55066263022277343669578718895168534326250603453777594175500187360389116729240,Z2 P 32670510020758816978083085130507043184471273380659243275938904335757337482424))){r:Pt P}(c:On r):mul nL r=none:=by
 subst b;refine Ks C (n:=nL) NT.pN NM k (λh=>by cases h) ?_ c;have h:=BD C k nL 255 1 _ _ 1 (by
  show Jac _ _ 1 (add none _);rw[jV];exact⟨EI C,by grobner,by grobner⟩) Ru
 rwa[SD]at h
end EC
section
def Kk:Go.Proofs.YtlofhpkoaljmeaaGreat.p1=nL:=dK
variable {P:Nat}[NeZero P]
def order2(C:Fld P)(r:EC.Pt P)(b:On r):mul Go.Proofs.YtlofhpkoaljmeaaGreat.p1 r=none:=by
 rw[Kk];have k:P=EC.pL:=by
  rw[C.eq];rfl
 exact order C.cur k (Dm C) b
end
section
open SPA
variable {P:Nat}[NeZero P]{N:Nat}
def Uz:Ord Go.Proofs.YtlofhpkoaljmeaaGreat.p1:=⟨Xg,Ul,dK,dK⟩
def Oh:IsP Go.Proofs.YtlofhpkoaljmeaaGreat.p1:=by
 rw[Kk];exact NT.pN
def Jc{s:ByteArray}{q:Option Y4}{n c:Nat}{w:XF}(h:n=0\/∃g o,q=some ⟨g,o,none⟩/\∀i,i<n->∃x y:Nat,x<2^64/\y<2^64/\w.cell? ⟨g,o+3*i+1,none⟩=some (uZ x)/\w.cell? ⟨g,o+3*i+2,none⟩=some (uZ y)):
 cZ 3 #[.string s,.slice q n c] w λe w'=>e=.returned tZ/\kZ w w':=by
 obtain⟨P,u,C⟩:=fld;have a:NeZero Go.Proofs.YtlofhpkoaljmeaaGreat.p1:=⟨dK⟩
 have hx:∀i,∃z:Nat × Nat,z.1<2^64/\z.2<2^64/\(i<n->∀g o,q=some ⟨g,o,none⟩->w.cell? ⟨g,o+3*i+1,none⟩=some (uZ (z.1:Int))/\w.cell? ⟨g,o+3*i+2,none⟩=some (uZ (z.2:Int))):=λi=>by
  by_cases b:i<n
  .rcases h with h|⟨g,o,rfl,h⟩
   .omega
   .obtain⟨x,y,d,f,k⟩:=h i b;refine⟨(x,y),d,f,λ_ j l e=>?_⟩;injection e with e
    injection e with e1 e2
    rw[<-e1,<-e2];exact k
  .exact⟨(0,0),by decide,by decide,λh=>absurd h b⟩
 apply(Pu s q n c (λi=>(hx i).choose.1) (λi=>(hx i).choose.2) w (λi=>(hx i).choose_spec.1) (λi=>(hx i).choose_spec.2.1) (λt=>?_) λK A B n d f k r j m p q l c sc w=>books C Uz (order2 C) Oh dK n d K A B f k r j m p q l c sc w).mono
 .rcases h with h|⟨g,o,rfl,h⟩
  .omega
  .obtain⟨x,y,-,-,k,-⟩:=h 0 t;exact⟨g,o,rfl,World.block_lt_of_cell? _ _ k,λi b=>(hx i).choose_spec.2.2 b g o rfl⟩
 .rintro e w' ⟨v,rfl,h,rfl⟩;exact⟨rfl,h⟩
end
/-
  THE ROW OF 'AuditTrue' round its walk: a text and a slice of structs (three integers).
-/
namespace auditTrue
open Go.ChangeShapes Go.WideShapes Go.ChangeAt
open Go.ChangeMaps (open_string shut_string)
def own:ownKnob prog.godebug=none:=kR
def laidOut:laidOutB prog=true:=kR
def Hg:prog.cellsOf 26=3:=kR
def cells3:prog.cellsOf 3=1:=kR
def cells24:prog.cellsOf 24=1:=kR
def Kc{n:Int}(h:(Lit.int .u64 n).wf=true):∃m:Nat,m<2^64/\n=(m:Int):=by
 simp only[Lit.wf,Bool.and_eq_true,decide_eq_true_eq]at h;have e:Yy.min=0:=dC;have e':Yy.max=18446744073709551615:=dC;rw[e,e']at h;exact⟨n.toNat,oM,oM⟩
def P3{H:Type}{enc:Yj × XG->H}{W:XF}{n:Nat}{cs:List XG}{x:DataW H × List MemPlace}(h:DataW.trod enc prog W 0 (λ_=>true) true n 26 cs=some x):
 ∃(d:Int) (a b:Nat),a<2^64/\b<2^64/\cs=[iZ d,uZ a,uZ b]:=by
 obtain⟨A,w,v,m,_,g,r,o,q⟩:=Go.Deep.trod_struct3 underlying26 h;rw[Hg]at g;match cs,g with
 | [a,b,c],_ =>
  obtain⟨u,f,_,_⟩:=yCJ underlying3 r;obtain⟨y,e,_,p⟩:=yCJ underlying24 o;obtain⟨z,k,_,s⟩:=yCJ underlying24 q;obtain⟨j,i,rfl⟩:=Kc p;obtain⟨t,l,rfl⟩:=Kc s;simp only[cells3,cells24,List.drop_zero,List.drop_succ_cons,List.take_succ_cons,List.take_zero,List.cons.injEq,and_true]at f e k;exact⟨u,j,t,i,l,by rw[f,e,k]⟩
def lifted(X:Os)(k:X.Started)(H:Type)(enc:Yj × XG->H):
 ReturnsInHanded {} Tryz.checked X 3 .any (Rows.auditTrueSpec.pre6 enc prog Tryz.f3 Rows.auditTrueRow.domain false) (Rows.auditTrueSpec.post enc prog Tryz.f3 false true false false):=by
 refine returnsInHanded_of_change (C:=Tryz.checked) own k kR func3
  (ChangeSpec.witness6 (enc:=enc) (C:=Tryz.checked) false ⟨#[],#[.string ByteArray.empty,nZ],[]⟩ 8 kR kR kR kR) ?_
 intro W h2 args ds gs B u R S _;have f:=u;have F:=R;obtain⟨p,q,I,hV,rfl,h9,h3⟩:=R;have U:=I;rw[params3]at U f;obtain⟨v0,h6,d0,h4,p0,q0,K,rfl,rfl,h0,r0⟩:=trodAll_cons U;obtain⟨v1,h5,d1,h8,p1,q1,rfl,rfl,rfl,h1,r1⟩:=trodAll_cons r0;obtain⟨rfl,rfl,rfl⟩:=trodAll_nil r1;obtain rfl:args=#[v0,v1]:=by cases args;simp_all
 obtain⟨rfl,rfl⟩:=trodVars_none hV;obtain⟨a0,rfl,rfl,rfl,w0⟩:=open_string underlying9 (f 0 9 v0 rfl rfl) h0;obtain⟨Y,len1,A,rfl⟩:=okWide_slice underlying22 (f 1 22 v1 rfl rfl);have Q:=h1;have L:∀x∈p1,x.block<W.heap.size:=by obtain⟨m,Z⟩:=Q;exact DataW.trod_lt m _ _ _ Z
 have E:len1=0\/∃g o,Y=some ⟨g,o,none⟩/\∀i,i<len1->∃x y:Nat,x<2^64/\y<2^64/\W.cell? ⟨g,o+3*i+1,none⟩=some (uZ x)/\W.cell? ⟨g,o+3*i+2,none⟩=some (uZ y):=by
  obtain⟨T,hf⟩:=h1;rcases Go.Deep.open_slice underlying22 hf with⟨r,_⟩|⟨a,l,c,m,n,D,Pl,r,_,hl,Z,z,_,hx⟩
  .simp[yEr]at r;obtain⟨rfl,rfl,rfl⟩:=r;exact Yk rfl
  .simp[yEr]at r;obtain⟨rfl,rfl,rfl⟩:=r;simp only[if_true]at z;subst z;by_cases G:len1=0
   .exact Yk G
   rw[Hg]at hx;obtain⟨b,off,w⟩:=a;obtain⟨h7,O,M⟩:=hx 0 oM;obtain⟨_,P,s⟩:=yDB O;obtain⟨_,_,_,_,_,rfl⟩:=P3 M;have v:w=none:=by simpa[Addr.add]using World.cell?_spot (s 0 oM)
   subst v;refine Yd ⟨b,off,rfl,λi hi=>?_⟩;obtain⟨cs,hc,ht⟩:=hx i oM;obtain⟨_,V,t⟩:=yDB hc;obtain⟨d,x,y,J,N,rfl⟩:=P3 ht;have e:∀j,j<3->W.cell? ⟨b,off+3*i+j,none⟩=[iZ d,uZ x,uZ y][j]?:=λj hj=>by
    have:=t j hj;rw[yDm,yDm]at this;rw[YN 3 i];exact this
   exact⟨x,y,J,N,e 1 dC,e 2 dC⟩
 refine(Jc E).mono λe W' ⟨r,bel⟩=>?_
 subst r;exact⟨_,rfl,_,_,_,[],_,[],F,trodAll_mk1 (shut_bool underlying4 _),trodAll_cons_mk (shut_string underlying9 w0) (trodAll_cons_mk (Below.trod laidOut kR (of_decide_eq_true kR) Q bel L) trodAll_mk0),rfl,bel.frame _,λh=>by cases h⟩
def over:Rows.auditTrueRow.holds Tryz.pinned (OpenSpec.ofChange Rows.auditTrueSpec):=
 OpenClaim.holds_of_wide 3 Tryz.f3 rfl rfl rfl rfl rfl rfl rfl ⟨rfl,rfl,rfl,rfl,rfl⟩ rfl rfl rfl rfl rfl kR func3 kR
  (of_decide_eq_true kR) (by unfold Func.isWrapper;first|(rw[yE3 dK];kernel_rfl)|(rw[yE4 dK];exact⟨rfl,rfl⟩))
  (λb k H enc _=>lifted b k H enc)
def proved:Rows.AuditTrueSaid:=
 over
end auditTrue
section
theorem auditTrue_holds:Rows.AuditTrueSaid:=auditTrue.proved
#print axioms auditTrue_holds
end
end Go.Proofs.YtlofhpkoaljmeaaGreat
