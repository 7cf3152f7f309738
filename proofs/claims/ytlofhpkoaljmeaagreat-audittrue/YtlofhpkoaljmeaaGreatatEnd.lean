import Derived.Lib.LazyBuf
import Derived.ChangeOld
import Derived.Below
import Derived.WalkKit
import Derived.ProofKit
import Derived.OpenShut
import Derived.ShutString
import Derived.Deep.Slices
import Derived.Deep.Strs
import Derived.Test.YtlofhpkoaljmeaaGreatat8
set_option linter.unusedVariables false
set_option linter.constructorNameAsVariable false
set_option linter.unusedSimpArgs false
set_option maxRecDepth 1000000
set_option maxHeartbeats 4000000
namespace Go.Proofs.YtlofhpkoaljmeaaGreat
open EC NT RG SP
open _root_.Array renaming replicate->XL,size_replicate->XU
open _root_.Fin renaming ofNat->ZS
open _root_.Go renaming Addr->YW,Calls->XH,TypeId->Yd,Value->Xu,World->Xs,wp_cond_false->X7,wp_cond_true->Yx,wp_seq->Xy,wp_skip->YR
open _root_.Go.Act renaming put->XK
open _root_.Go.Addr renaming add_mid->yC8
open _root_.Go.Builtin renaming append_->YA,copy_->yAy
open _root_.Go.DataW renaming trod_int->yCA
open _root_.Go.IntKind renaming i64->Yh,u64->Yn,wrap_i64->Zc,wrap_u64->ZK
open _root_.Go.Lib renaming size_eq->yEB
open _root_.Go.RowKit.Below renaming refl->XM,size->yEq,trans->yEh
open _root_.Go.Value renaming agg->X6,cells->yEg,int->YQ
open _root_.Go.World renaming cells?_some->yDn,rangeAt_setCells_apart->Yk
open _root_.Int renaming tmod_eq_emod_of_nonneg->yBm
open _root_.List renaming getD_eq_getElem?_getD->Zb,getElem?_eq_some_iff->XG,length_map->XV,length_take->Z7,setIfInBounds_toArray->Xt,set_cons_succ->Xv,set_cons_zero->Xw
open _root_.Nat renaming add_mul->yAn,add_zero->yAi,le_refl->Xx,lt_of_lt_of_le->Xz,min->yAs,mod_eq_of_lt->XX,mod_lt->Y9,mul_assoc->yAB,mul_comm->YF,mul_one->Z5,pow_succ->Zf,two_mul->yEs,zero_add->XD
open _root_.Option renaming map_eq_some_iff->XA
open _root_.Or renaming inl->X9,inr->X0
open _root_.UInt8 renaming ofNat->XN
open Go.Proofs.Tryz
open Go.RowKit Go.Sort Go.Deep
section
open SPA
variable {P:Nat}[NeZero P]{N:Nat}
theorem Vq(a b c d:Xu)(w:Xs):(Instr.box 29 (.agg #[a,b,c,d])).run prog w=.ok (jZ w.heap.size) (w.alloc (.cells [a,b,c,d].toArray 29)):=kR
theorem OR(O:Ord N)(n c:Nat)(q:Option YW)(hn:n<=64)(h3:n<=c)(S:Nat->Bs)(tot s:Nat)(ht:tot<18446744073709551616)(h0:s<N)(X:Bs)(R:X.size=33)(rq p:Option YW)(i m o:Nat)(w:Xs)(hL:Lists w q n S)(hr:PartOk w (.slice rq 32 i) (eE S 0 n).toList)(b:Arg w (.slice p m o) (bx s))
 (D:∀W,kZ w W->XH prog 13 #[.slice q n c] W (rZ W λe w'=>e=.tuple #[pvl X,.bool true])) (hC:Gives 14 #[nv tot,nv s] (pvl X)) :
 XH prog 5 #[.slice q n c,.agg #[iZ n,.slice rq 32 i,uZ tot,.slice p m o]] w (rZ w λe w'=>e=.bool true):=by
 refine hG w.heap.size λV G=>?_
 refine hG (w.alloc (.cells [iZ n,.slice rq 32 i,uZ tot,.slice p m o].toArray 29)) λU B=>?_
 have M:=mk1 ((Mp.start w).new G B);have K:=Vq (iZ n) (.slice rq 32 i) (uZ tot) (.slice p m o) w;rw[G.out,B.out]at K;have l:=wE O _ (bx s) U (b.below M.out.bl);rw[kT O h0]at l;obtain⟨vb,d⟩:=hE (nv s);obtain⟨vt,a⟩:=hE (nv tot);obtain⟨j,k⟩:=hE (pvl X);have J:Hid (XH prog 11 #[.slice p m o] U (rZ U λe w'=>e=.tuple #[vb,.bool true])):=by rw[<-d.out];exact l
 have HO:Hid (∀W,XH prog 15 #[uZ tot] W (rZ W λe w'=>e=vt)):=by rw[<-a.out];exact rQ tot ht
 have HC:Hid (∀W,XH prog 14 #[vt,vb] W (rZ W λe w'=>e=j)):=by rw[<-a.out,<-d.out,<-k.out];exact hC
 have h4:Hid (∀W,kZ w W->XH prog 13 #[.slice q n c] W (rZ W λe w'=>e=.tuple #[j,.bool true])):=by rw[<-k.out];exact D
 have Y:Hid (∀W:Xs,(eqGuard .eql 51 (.tmp 47) (.tmp 52) j j >>= λ_=>binOp .eql 51 j j).run prog W=.ok (.bool true) W):=λW=>by
  rw[<-k.out,Sem.run_bind,show(eqGuard .eql 51 (.tmp 47) (.tmp 52) (pvl X) (pvl X)).run prog W=.ok () W by kernel_rfl];have:=LG R R W;rw[decide_eq_true rfl]at this;exact this
 have HL:=mk2 hL hr;have n1:decide ((64:Int)<(n:Int))=false:=decide_eq_false (by omega);have n2:((n:Int) != (n:Int))=false:=by simp
 have iX:(prog.info? 51).map (·.size)=some (aA X).length:=by rw[aB R];exact iCP
 have lX:(aA X).length=z33.length:=aB R;clear hL hr b D hC l;obtain⟨vc,h5⟩:=hE (X6 #[iZ n,.slice rq 32 i,uZ tot,.slice p m o]);rw[h5.out]at K⊢;go_enter func5,ntmps5;refine Xy ?_;refine PW.begin ?_;refine PW.ns K ?_;refine PW.va (.bool false) ?_;refine PW.dn ?_;refine Xy ?_;refine PW.begin ?_;refine PW.va (oZ V 3) ?_;refine PW.ce ((M.out.at_ 0).2.1 3 _ rfl) QC ?_;refine PW.gi J.out λw2 g=>?_
 refine hG w2.heap.size λk5 x=>?_
 refine hG (w2.alloc (.cells (RG.z 4).toArray 44)) λw3 v=>?_
 refine hG (w3.setCells k5 0 (wn s)) λw4 H=>?_
 have K3:=mk1 ((M.out.grow g).new x v);have L:=mk1 (K3.out.put 1 H);clear M g J K;refine PW.mv ?_;refine PW.va vb ?_;refine PW.va (.bool true) ?_;refine PW.al x v ?_;refine PW.st H d (K3.out.th 1) i40 (aI _) ?_;refine PW.va (.bool true) ?_;refine PW.dn ?_;refine Xy ?_;refine Xy ?_;refine PW.begin ?_;refine PW.mv ?_;refine PW.va (.bool false) ?_;refine PW.mv ?_;refine PW.gd ?_;refine PW.mv ?_;refine PW.gd ?_;refine PW.va (iZ n) ?_;refine PW.gd ?_;refine PW.va (.bool (decide ((64:Int)<(n:Int)))) ?_;rw[n1];refine PW.va (.bool false) ?_;refine PW.mv ?_;refine PW.gd ?_;refine PW.mv ?_;refine PW.gd ?_;refine PW.va (iZ n) ?_;refine PW.gd ?_;refine PW.va (jZ V) ?_;refine PW.gd ?_;refine PW.ce ((L.out.at_ 0).2.1 0 _ rfl) u3r ?_;refine PW.gd ?_;refine PW.va (.bool ((n:Int) != (n:Int))) ?_;rw[n2];refine PW.va (.bool false) ?_;refine PW.dn ?_;refine X7 rfl ?_;refine YR ?_;refine Xy ?_;refine Xy ?_;refine PW.begin ?_;refine PW.mv ?_;refine PW.ca (MB S n q c w4 (by omega) h3 (HL.out.1.below L.out.bl)) ?_;rintro e Q ⟨v5,rfl,z,r,rfl,h6,I⟩;simp only[XK,Xt,Xv,Xw];have T:=mk1 (L.out.grow z);have F:XH prog 12 #[sZ r 32 32,.slice rq 32 i] Q (rZ Q λe w'=>e=.bool true):=(OG (some (aZ r)) rq 32 32 32 i (eE S 0 n) (eE S 0 n) Q (Bt (jO _ _ _) I) (HL.out.2.below T.out.bl)).mono λe w' ⟨h1,h2⟩=>⟨_,h1,h2 ▸ XM _ _,by rw[decide_eq_true rfl]⟩
 clear z h6 I K3 L;refine PW.mv ?_;refine PW.va (sZ r 32 32) ?_;refine PW.va (iZ 0) ?_;refine PW.va (sZ r 32 32) ?_;refine PW.va (iZ 0) ?_;refine PW.dn ?_;refine Xy ?_;refine PW.begin ?_;refine PW.mv ?_;refine PW.va (oZ V 1) ?_;refine PW.ce ((T.out.at_ 0).2.1 1 _ rfl) QC ?_;refine PW.gi F λw6 u=>?_
 refine PW.va (.bool false) ?_;refine PW.dn ?_;have Z:=mk1 (T.out.grow u);clear T u F;refine X7 rfl ?_;refine YR ?_;refine Xy (P:=prog) ?_;refine PW.begin ?_;refine PW.mv ?_;refine PW.gi (h4.out w6 Z.out.bl) λw7 A=>?_
 refine hG w7.heap.size λk9 y=>?_
 refine hG (w7.alloc (.cells z33.toArray 51)) λw8 C=>?_
 refine hG (w8.setCells k9 0 (aA X)) λw9 E=>?_
 have K8:=mk1 ((Z.out.grow A).new y C);have t:=mk1 (K8.out.put 2 E rfl lX);refine PW.mv ?_;refine PW.va j ?_;refine PW.va (.bool true) ?_;refine PW.al y C ?_;refine PW.st E k (K8.out.th 2 rfl lX) iX (bQ _) ?_;refine PW.va (.bool true) ?_;refine PW.dn ?_;clear Z K8 A;refine Xy ?_;refine AW.beg 10 10 ⟨λW=>kZ w9 W,λ_ _ b h=>h.trans (b.mono h.size),false⟩ ⟨rfl,rfl,rfl,Xx _,λ_ _=>rfl⟩ ?_;refine AW.mv 0 ?_;refine AW.mv 1 ?_;refine AG.ro 2 (λW b=>((t.out.at_ 2).below b).2.1) k uCP iX ?_;refine AG.va 3 (oZ V 2) ?_;refine AG.ce 4 zZ (λW b=>((t.out.at_ 0).below b).2.1 2 _ rfl) ?_;refine AG.ro 6 (λW b=>((t.out.at_ 1).below b).2.1) d u40 i40 ?_;refine AG.cw 5 (λ_=>HO.out _) (λe w' f h=>yEh f (h.1.mono (yEq f))) ?_;rintro e W1 ⟨h7,rfl⟩;simp only[XK,Xt,Xv,Xw];refine AG.cw 7 (λ_=>HC.out _) (λe w' f h=>yEh f (h.1.mono (yEq f))) ?_;rintro e W2 ⟨g,rfl⟩;simp only[XK,Xt,Xv,Xw];refine AG.iv 8 Y.out ?_;refine AW.nx 9 (.bool true) ?_;refine AW.nx 10 (.bool true) ?_;refine AW.dn λf=>?_
 have KE:=mk1 (t.out.bl.trans (Below.mono f t.out.bl.size));clear t f;go_wp2;go_ret;exact⟨_,rfl,KE.out,rfl⟩
end
section
open SPA
section
variable {N:Nat}[NeZero N]{M:Type}(D:Md N M)
theorem Qb(H G:M)(a b u v w:Fin N):D.ad (D.cm H G a b) (D.ac w (D.cm H G u v))=D.cm H G (a+w*u) (b+v*w):=by
 unfold Md.cm;rw[D.acAd,D.swap,D.acAc,D.acAc,<-D.adAc,<-D.adAc,show w*v=v*w by grind]
def Jl(w:Nat->Fin N)(f:Nat->Nat->Fin N):Nat->Fin N
 | 0=>0
 | i+1=>Jl w f i+w 0*f i 0+w 1*f i 1
def En(w:Nat->Fin N)(f:Nat->Nat->Fin N):Nat->Fin N
 | 0=>0
 | i+1=>En w f i+f i 0*w 0+f i 1*w 1
theorem U7(H G:M):D.cm H G 0 0=D.zo:=by
 unfold Md.cm;rw[D.zac,D.zac,D.zadd]
end
variable {P:Nat}[NeZero P]{N:Nat}[NeZero N]
theorem Tl.term(C:Fld P)(k:∀r:EC.Pt P,On r->mul N r=none)(b:1<N)(n:Fin N)(X:OnP P):Tl N [(n.val,wP X)] ((aD C k).ac n X):=by
 have h:=(Tl.one C b X).tm C k n;have e:[(1,wr X.1)].map (tmT N n.val)=[(n.val,wP X)]:=by
  show [(n.val*1%N,wr X.1)]=_;rw[Z5,XX n.isLt]
 rw[e]at h;exact h
theorem Jn(C:Fld P)(k:∀r:EC.Pt P,On r->mul N r=none)(c:1<N)(H G:OnP P)(w:Nat->Fin N)(a b:Nat->Nat->Fin N)(f:Nat->Nat->Nat × Bs)(hf:∀i s,f i s=((w s).val,wP ((aD C k).cm H G (a i s) (b i s)))):
 ∀n,Tl N (tmP f n) ((aD C k).cm H G (Jl w a n) (En w b n))
 | 0=>by
  show Tl N [] ((aD C k).cm H G 0 0);rw[U7];exact Tl.nil C k
 | n+1=>by
  have h:=(Tl.app C k (Tl.app C k (Jn C k c H G w a b f hf n) (Tl.term C k c (w 0) ((aD C k).cm H G (a n 0) (b n 0)))) (Tl.term C k c (w 1) ((aD C k).cm H G (a n 1) (b n 1))))
  rw[Qb,Qb,<-hf n 0,<-hf n 1]at h;exact h
theorem Gg(O:Ord N)(w:Nat->Fin N)(f:Nat->Nat->Fin N):∀n,(En w f n).val=opA N (λi s=>sTi N (f i s).val (w s).val) n
 | 0=>rfl
 | n+1=>by
  show(En w f n+f n 0*w 0+f n 1*w 1).val=sPl N (sPl N (opA N _ n) (sTi N _ _)) (sTi N _ _);rw[jP,jP,eX,eX,Gg O w f n]
def wF(N:Nat)[NeZero N]:Nat->Fin N
 | 0=>-1
 | _=>1
theorem Jd(O:Ord N):∀s,(wF N s).val=sdW N s
 | 0=>by
  show(-1:Fin N).val=sMi N 0 1;rw[Es];have:=O.n2
  congr 1
  exact XX (show 1<N by omega)
 | _+1=>by
  have:=O.n2;exact XX (show 1<N by omega)
theorem Jk(A B:Nat->Nat):∀n,Jl (wF N) (λi s=>ofF N (amN s (A i) (B i))) n+ofF N (aW A n)=ofF N (aW B n)
 | 0=>by
  show(0:Fin N)+ofF N 0=ofF N 0;rw[nY];grind
 | n+1=>by
  have h:=Jk A B n;show Jl (wF N) _ n+-1*ofF N (A n)+1*ofF N (B n)+ofF N (aW A n+A n)=ofF N (aW B n+B n);rw[rS,rS,<-h];grind
theorem QE(A B:Nat->Nat)(n:Nat)(h:aW A n<=aW B n):Jl (wF N) (λi s=>ofF N (amN s (A i) (B i))) n=ofF N (aW B n-aW A n):=by
 have k:=Jk (N:=N) A B n;have b:=rS (N:=N) (aW B n-aW A n) (aW A n);rw[Nat.sub_add_cancel h,<-k]at b;grind
end
section
open SPA
theorem ch1{α β:Type}{p:α->β->Prop}(h:∀i,∃x,p i x):∃x:α->β,∀i,p i (x i):=⟨λi=>(h i).choose,λi=>(h i).choose_spec⟩
theorem SC{N m:Nat}(h:m<N):∃k:Fin N,k.val=m:=⟨⟨m,h⟩,rfl⟩
theorem bks{N:Nat}(O:Ord N)(b:Bs):∃k:Nat->Nat->Fin N,∀i s,(k i s).val=blN N b s i:=ch1 λi=>ch1 λs=>SC (B6 O b s i)
variable {P:Nat}[NeZero P]{N:Nat}[NeZero N]
theorem Oj{n:Nat}(h:n<N):(ofF N n).val=n:=XX h
theorem Qa(C:Fld P)(O:Ord N)(k:∀r:EC.Pt P,On r->mul N r=none){a:Nat}(c:a<N)(b:Fin N):Gives 14 #[nv a,nv b.val] (pvl (wP ((aD C k).cm (hPV C) (gPG C) (ofF N a) b))):=by
 have h:=mB C O c b.isLt;have e:=zA C k (ofF N a) b;rw[Oj c]at e;rw[e]at h;exact h
theorem pss(k:Bs):∃p:Nat->Nat->List UInt8,∀i s,p i s=(psB k s i).toList:=⟨_,λ_ _=>rfl⟩
theorem opW(O:Ord N)(b:Bs){k:Nat->Nat->Fin N}(h:∀i s,(k i s).val=blN N b s i):(λi s=>sTi N (k i s).val (wF N s).val)=blW N b:=funext λi=>funext λs=>by
 rw[h,Jd O];rfl
theorem books(C:Fld P)(O:Ord N)(d:∀r:EC.Pt P,On r->mul N r=none)(hP:IsP N)(hN:18446744073709551616<=N)(n:Nat)(hn:n<=64)(K A B:Nat->Nat)(hK:∀i,1<=K i/\K i<=3)(Z:∀i,A i<4294967296)(R:∀i,B i<4294967296)(L:aW A n<=aW B n)(o:Bs)(J:o.size=32)(q U:Option YW)(c sc:Nat)(w:Xs)(hL:OpL w q n K A B)(hs:PartOk w (.slice U 32 sc) o.toList):
 XH prog 4 #[.slice U 32 sc,.slice q n c] w (rZ w λe w'=>∃a F r b1 Q j,e=.tuple #[.slice a n F,.agg #[iZ n,sZ r 32 32,uZ ((aW B n-aW A n:Nat):Int),.slice b1 Q j],iZ 0] /\
  ∀W,kZ w' W->XH prog 5 #[.slice a n F,.agg #[iZ n,sZ r 32 32,uZ ((aW B n-aW A n:Nat):Int),.slice b1 Q j]] W (rZ W λe f=>e=.bool true)):=by
 have n1:1<N:=by omega
 obtain⟨m,z⟩:=bks O o;obtain⟨ps,hc⟩:=pss o;obtain⟨V,hV⟩:=ch1 λi=>ch1 λs=>NC C O d hP hN (amN s (A i) (B i)) (Fj (Z i) (R i) s) (m i s) (ps i s)
 obtain⟨T,l⟩:=ch1 λi=>ch1 (hV i)
 clear hV;have y:∀i s,(V i s).size=33:=λi s=>by rw[(l i s).1];exact aL _
 have f:aW B n-aW A n<18446744073709551616:=by
  have:=rC R n;omega
 have u:=OM O n c q K A B hn hK Z R L o J U sc (λi=>#[XN (K i)]++fsB (V i) 2++fsB (T i) 2) w hL hs λi W t hb =>
  Hw O (K i) (A i) (B i) i (by omega) (Z i) (R i) o J U sc (V i) (T i) (y i) (λs=>(l i s).2.1) (λs=>by
   rw[(l i s).1,<-z i s];exact Qa C O d (Xz (Fj (Z i) (R i) s) (by omega)) (m i s)) (λs=>by
   rw[<-z i s,<-hc i s];exact(l i s).2.2.1) W (hs.below hb)
 have M:=Jn C d n1 (hPV C) (gPG C) (wF N) (λi s=>ofF N (amN s (A i) (B i))) m (λi s=>(sdW N s,V i s)) (λi s=>by rw[Jd O,<-(l i s).1]) n;have j:=Gg O (wF N) m n;rw[opW O o z]at j;rw[QE A B n L]at M;have G:=Qa C O d (Xz f hN) (En (wF N) m n);have E:=(En (wF N) m n).isLt;rw[j]at G E;generalize En (wF N) m n=op at M G j;clear j;have H:∀(v:Xu) (W:Xs),SmZ 0 W v (tmP (λi s=>(sdW N s,V i s)) n)->(n=0->v=.slice none 0 0)->XH prog 33 #[v] W (rZ W λe w'=>e=pvl (wP ((aD C d).cm (hPV C) (gPG C) (ofF N (aW B n-aW A n)) op))):=λv W hv hz=>by
  have D:=Bc (λi s=>(sdW N s,V i s)) n;by_cases Y:n=0
  ·obtain rfl:=hz Y;subst Y;have e:wP ((aD C d).cm (hPV C) (gPG C) (ofF N (aW B 0-aW A 0)) op)=wr (none:EC.Pt P):=by
    show wr _=wr _;rw[<-M.sum];rfl
   rw[e];exact Ig C O W
  ·rcases hv with⟨rfl,hv⟩|hv
   ·rw[hv]at D;exact absurd D (by simp;omega)
   ·exact Tl.point C O d M (by omega) (by omega) hv
 have D:(wP ((aD C d).cm (hPV C) (gPG C) (ofF N (aW B n-aW A n)) op)).size=33:=aL _;clear M;generalize wP ((aD C d).cm (hPV C) (gPG C) (ofF N (aW B n-aW A n)) op)=X at G H D;generalize (aW B n-aW A n:Nat)=tot at u G f⊢;generalize opA N (blW N o) n=bl at u G E;refine u.mono ?_;rintro e w' ⟨_,rfl,hb,v,r,b,B0,xs,rfl,⟨h1,h2⟩,h3,h4,h5⟩;obtain⟨a,F,rfl,hp,hj,I⟩:=AA h1 h2;obtain⟨g5,bc,rfl,-⟩:=id h5;refine⟨_,rfl,hb,a,F,r,some (aZ g5),32,bc,rfl,λW S=>?_⟩;refine OR O n F a hn hp _ tot bl f E X D _ _ 32 32 bc W (hj.below S) (Bt (jO _ _ _) (Holds.below h3 S h4)) (h5.argS.below S) (λW1 he=>?_) G;have b1:=S.trans (he.mono S.size);have hm:∀i,∃x,(∀g,a=some (aZ g)->i<n->w'.cell? ⟨g,i,none⟩=some x)/\∃k c,x=sZ k 1313 c/\1313<=c/\(i<n->k<w'.heap.size/\Holds encB w' k 0 (#[XN (K i)]++fsB (V i) 2++fsB (T i) 2)):=λi=>by
  by_cases t:i<n
  ·obtain⟨g,rfl,-,hx⟩:=I (by omega);obtain⟨x,h9,k,c,rfl,h6,-,-,h7,h8⟩:=hx i t;refine⟨_,λg' e _=>?_,k,c,rfl,h6,λ_=>⟨h7,h8⟩⟩;injection e with e
   injection e with e
   rw[<-e];exact h9
  ·exact⟨_,λ_ _ h=>absurd h t,0,1313,rfl,Xx _,λh=>absurd h t⟩
 obtain⟨x,hx⟩:=ch1 hm;refine Jr O a n F hn V y x X D W1 (λY=>?_) (λi=>?_) (λi W2 t ha=>?_) H
 ·obtain⟨g,e,hg,-⟩:=I Y;exact⟨g,e,Xz hg b1.size,λi t=>by rw[b1.cell (p:=⟨g,i,none⟩) hg];exact(hx i).1 g e t⟩
 ·obtain⟨-,k,c,e,-⟩:=hx i;exact⟨_,_,_,e⟩
 ·obtain⟨-,k,c1,e,hq,h⟩:=hx i;obtain⟨hk,hH⟩:=h t;have Q:=b1.trans (ha.mono b1.size);rw[e];exact Rf C k c1 (K i) hq (hK i).1 (hK i).2 (V i) (T i) (y i) (λs=>(l i s).2.1) (λs=>by
   rw[(l i s).1];obtain⟨p,h,-⟩:=xT C ((aD C d).cm (hPV C) (gPG C) (ofF N (amN s (A i) (B i))) (m i s)).2;exact⟨p,h⟩) (λs=>(l i s).2.2.2) W2 (Xz hk Q.size) (Holds.below hH Q hk)
end
section
open SPA
variable {P:Nat}[NeZero P]{N:Nat}
theorem ID{P:Program}(w:Xs)(i sT p c:Yd)(b o k e:Nat)(t:ByteArray)(q:P.underlying i=some (.slice c))(n:∀w,(Go.sizeOf c).run P w=.ok 1 w)
 (m:∀j,j<k->(w.cell? ⟨b,o+j,none⟩).isSome=true) (hf:∀j,j<k->w.frozen? ⟨b,o+j,none⟩=false) :
 (yAy #[i,sT] p #[.slice (some ⟨b,o,none⟩) k e,.string t]).run P w=.ok (goInt (yAs t.size k)) (w.setCells b o ((t.data.toList.take k).map λx=>YQ .u8 (x.toNat:Int))):=by
 by_cases f:t.size<=k
 ·rw[run_copy_string w i sT p c b o k e t q n f (λj d=>m j oM) (λj d=>hf j oM),show yAs t.size k=t.size from Nat.min_eq_left f,List.take_of_length_le (by rw[<-yEB];exact f)]
 ·have d:yAs t.size k=k:=Nat.min_eq_right oM;have l:((t.data.toList.take k).map λx=>YQ .u8 (x.toNat:Int)).length=k:=by rw[XV,Z7,<-yEB];omega
  have g:=run_storeCells_cells (P:=P) b o ((t.data.toList.take k).map λx=>YQ .u8 (x.toNat:Int)) 0 w (by rw[l];simpa using m) (by rw[l];simpa using hf) (by
   intro v hv;obtain⟨x,_,rfl⟩:=List.mem_map.1 hv;rfl)
  rw[d];simp[yAy,run_underlying q,Builtin.lenOf,Builtin.firstCells,n,d];rw[List.map_take]at g;rw[g];rfl
def fnB(f:Nat->UInt8):Bs:=Array.ofFn (n:=32) λi=>f i.val
theorem rY(f:Nat->UInt8):(fnB f).size=32:=by unfold fnB;simp
theorem Lv(f:Nat->UInt8)(j:Nat)(k:j<32):(fnB f)[j]! = f j:=by
 rw[getElem!_pos (fnB f) j (by rw[rY];exact k)];unfold fnB;simp
def sdF(s:ByteArray)(j:Nat):UInt8:=s.data.toList.getD j 0
theorem sd_holds{W:Xs}{k:Nat}(s:ByteArray)(h:Holds encB W k 0 (XL 32 0)):Holds encB (W.setCells k 0 ((s.data.toList.take 32).map λx=>YQ .u8 (x.toNat:Int))) k 0 (fnB (sdF s)):=by
 refine SP.Holds.setCells (o:=0) (p:=0) h _ (by rw[rY,XU]) (by rw[XV,Z7,XU];omega) (λj b=>?_) (λj b c=>?_)
 ·rw[XV,Z7]at b;rw[Lv _ _ oM,List.getElem_map,List.getElem_take];unfold sdF;rw[XD,Zb,List.getElem?_eq_getElem oM];rfl
 ·rw[XU]at b;rw[XV,Z7]at c;rw[Lv _ _ b,SP.rep_at 32 j b];unfold sdF;rw[Zb,List.getElem?_eq_none oM];rfl
end
section
open SPA
def tT(A B:Nat->Nat):Nat->Nat
 | 0=>0
 | i+1=>tT A B i+B i-if tT A B i+B i<A i then 0 else A i
def aT(A B:Nat->Nat)(i:Nat):Nat:=if tT A B i+B i<A i then 0 else A i
theorem VG(A B:Nat->Nat)(i:Nat):aT A B i<=tT A B i+B i/\aT A B i<=A i:=by
 unfold aT;split<;>omega
theorem Jp(A B:Nat->Nat):∀n,tT A B n+aW (aT A B) n=aW B n
 | 0=>rfl
 | n+1=>by
  have h:=Jp A B n;have:=(VG A B n).1;show tT A B n+B n-aT A B n+(aW (aT A B) n+aT A B n)=aW B n+B n;omega
def opR(K A B:Nat->Nat):Nat->List Xu
 | 0=>[]
 | i+1=>opR K A B i++opC (K i) (A i) (B i)
theorem wM(K A B:Nat->Nat):∀n,(opR K A B n).length=3*n
 | 0=>rfl
 | n+1=>by
  show(opR K A B n++opC _ _ _).length=_;rw[List.length_append,wM K A B n];rfl
theorem Kc(K A B:Nat->Nat){i:Nat}:∀n,i<n->∀j u,(opC (K i) (A i) (B i))[j]? = some u->(opR K A B n)[3*i+j]? = some u
 | n+1,hi,j,u,hu=>by
  have k:j<3:=(XG.1 hu).1;show(opR K A B n++opC _ _ _)[3*i+j]? = _;by_cases h:i<n
  ·rw[List.getElem?_append_left (by rw[wM];omega)];exact Kc K A B n h j u hu
  ·obtain rfl:i=n:=by omega
   rw[List.getElem?_append_right (by rw[wM];omega),wM,Nat.add_sub_cancel_left];exact hu
theorem VP:prog.underlying 22=some (.slice 26):=kR
theorem UG:(prog.info? 26).map (λi=>(i.size,i.bytes,i.zero.map λz=>z.cells.size))=some (3,24,some 3):=kR
structure OwO(w W:Xs)(i:Nat)(v:Xu)(K A B:Nat->Nat):Prop where
 bl:kZ w W
 ow:W.ownsRow w.heap.size 26 3 v i (opR K A B i)
theorem OwO.grow{w W W':Xs}{i:Nat}{v:Xu}{K A B:Nat->Nat}(h:OwO w W i v K A B)(k:kZ W W'):OwO w W' i v K A B:=
 ⟨h.bl.trans (k.mono h.bl.size),bG h.ow λg b=>k.block g (bU h.ow b).2.1⟩
theorem OwO.app{w W:Xs}{i g:Nat}{v:Xu}{K A B:Nat->Nat}(h:OwO w W i v K A B)(q:Row W g (opC (K i) (A i) (B i)))(a:i<=64):
 ∃c W',(YA #[22,22] 22 #[v,sZ g 1 1]).run prog W=.ok c W'/\OwO w W' (i+1) c K A B:=by
 obtain⟨s,d,m⟩:=XA.1 UG;simp only[Prod.mk.injEq]at m;obtain⟨t,x,r⟩:=m;obtain⟨z,p,f⟩:=XA.1 r;obtain⟨c,W',n,y,b,-⟩:=run_append_own (P:=prog) W w.heap.size 22 22 26 s z 3 24 VP d p t x f (by decide) v i _ h.ow (aZ g) 1 1 (opC (K i) (A i) (B i)) rfl
  (λj u o=>by
   rw[gU];exact q.2.1 j u o) (λu l=>by
   simp only[opC,List.mem_cons,List.not_mem_nil,or_false]at l;rcases l with rfl|rfl|rfl<;>rfl) (by unfold maxLen;omega) (by omega) h.bl.size
 refine⟨c,W',n,⟨b.os.trans h.bl.os,b.tape.trans h.bl.tape,b.output.trans h.bl.output,Nat.le_trans h.bl.size b.size,λk l=>(b.block k (Xz l h.bl.size) λe=>by have:=(bU h.ow e.symm).1;omega).trans (h.bl.block k l)⟩,y⟩
theorem OwO.opl{w W:Xs}{i:Nat}{v:Xu}{K A B:Nat->Nat}(h:OwO w W i v K A B):∃q c,v=.slice q i c/\OpL W q i K A B:=by
 rcases id h.ow with⟨-,⟨rfl,rfl⟩|⟨g,cap,cur,rfl,-⟩⟩
 ·exact⟨none,0,rfl,λh=>absurd h (by omega)⟩
 ·refine⟨_,cap,rfl,λ_=>⟨g,rfl,(bU h.ow rfl).2.1,λj k m u b=>?_⟩⟩;have:=h.ow.cells (g:=g) rfl _ _ (Kc K A B i k m u b);rw[gU,XD]at this;exact this
section
variable {P:Program}{Q:Exit->Act->Xs->Prop}{a:Act}{w:Xs}{c y:Code}
theorem I9(C:Xs->Prop)(h:c.wp P (λe b w'=>e=.normal/\C w'/\∃p,b=a.put (some 50) p) a w)(k:∀w' p,C w'->y.wp P Q (a.put (some 50) p) w'):c.wp P (Exit.then (y.wp P Q) Q) a w:=
 wp_mono h λe b w' ⟨d,f,p,g⟩=>by
  subst d g;exact k w' p f
end
theorem idxOf(g o n c i:Nat)(b:i<n)(w:Xs):(Instr.indexAt 22 (.slice (some ⟨g,o,none⟩) n c) (iZ i)).run prog w=.ok (.pointer (some ⟨g,o+3*i,none⟩)) w:=by
 have k:¬(i:Int)<0:=by omega
 have d:(i:Int)<(n:Int):=by omega
 have e:=gU g o (3*i);go_simp
theorem PM{W:Xs}{k o:Nat}{cs:List Xu}{x:Xu}(j:Nat)(h:W.rangeAt k o cs)(hx:cs[j]? = some x):W.rangeAt k (o+j) [x]:=λi v b=>by
 obtain rfl:i=0:=by have:=(XG.1 b).1;simp at this;omega
 rw[yAi];exact h j v (hx.trans b)
theorem row_one{W:Xs}{k:Nat}{a b c u:Xu}(h:Row W k [a,b,c]):W.there k 1 1/\Row (W.setCells k 1 [u]) k [a,u,c]:=by
 have t1:W.there k 1 1:=λj d=>by
  have:=h.2.2 (1+j) (by simp only[List.length_cons,List.length_nil];omega);rw[XD]at this;exact this
 have g:=Yk (PM 0 h.2.1 rfl) k 1 [u] (X0 (X9 (Xx 1)));have e:=World.rangeAt_setCells_same W k 1 [u] t1;have f:=Yk (PM 2 h.2.1 rfl) k 1 [u] (X0 (X0 (Xx 2)));refine⟨t1,by rw[setCells_size];exact h.1,λj v d=>?_,World.there_setCells h.2.2 _ _ _⟩;match j,d with
 | 0,d=>exact g 0 v d
 | 1,d=>exact e 0 v d
 | 2,d=>exact f 0 v d
theorem WV(k a b:Nat)(w:Xs):(Instr.buildSlice 22 1 #[(0,.agg (opC k a b).toArray)]).run prog w=.ok (sZ w.heap.size 1 1) (w.alloc (.cells (opC k a b).toArray 26)):=kR
end
section
open SPA
variable {P:Nat}[NeZero P]{N:Nat}
theorem al3(w:Xs):(Instr.alloc 26 true (.tuple #[])).run prog w=.ok (jZ w.heap.size) (w.alloc (.cells z3.toArray 26)):=kR
theorem O4(s:ByteArray)(q:Option YW)(n c:Nat)(X Y:Nat->Nat)(w:Xs)(hX:∀i,X i<18446744073709551616)(hY:∀i,Y i<18446744073709551616)(hq:0<n->∃g o,q=some ⟨g,o,none⟩/\g<w.heap.size/\∀i,i<n->w.cell? ⟨g,o+3*i+1,none⟩=some (uZ (X i:Int))/\w.cell? ⟨g,o+3*i+2,none⟩=some (uZ (Y i:Int)))
 (hB:∀(K A B:Nat->Nat) n,n<=64->(∀i,1<=K i/\K i<=3)->(∀i,A i<4294967296)->(∀i,B i<4294967296)->aW A n<=aW B n->∀(d:Bs),d.size=32->∀(q b:Option YW) (c sc:Nat) (w:Xs),OpL w q n K A B->PartOk w (.slice b 32 sc) d.toList ->
  XH prog 4 #[.slice b 32 sc,.slice q n c] w (rZ w λe w'=>∃l f r b1 m U,e=.tuple #[.slice l n f,.agg #[iZ n,sZ r 32 32,uZ ((aW B n-aW A n:Nat):Int),.slice b1 m U],iZ 0] /\
  ∀W,kZ w' W->XH prog 5 #[.slice l n f,.agg #[iZ n,sZ r 32 32,uZ ((aW B n-aW A n:Nat):Int),.slice b1 m U]] W (rZ W λe k=>e=.bool true))) :
 XH prog 3 #[.string s,.slice q n c] w (rZ w λe w'=>e=.bool true):=by
 have N:=mk3 hX hY (And.intro hq hB);clear hX hY hq hB;go_enter func3,ntmps3;refine Xy ?_;refine PW.begin ?_;refine PW.va (.bool false) ?_;refine PW.dn ?_;refine Xy ?_;refine Xy ?_;refine PW.begin ?_;refine PW.mv ?_;refine PW.va (iZ n) ?_;refine PW.va (.bool (decide ((8:Int)<(n:Int)))) ?_;refine PW.dn ?_;by_cases h8:(8:Int)<(n:Int)
 ·rw[decide_eq_true h8];go_wp2;go_ret;exact⟨_,rfl,XM _ _,rfl⟩
 rw[decide_eq_false h8];have hn:n<=8:=by omega
 refine X7 rfl ?_;refine YR ?_;refine hG w.heap.size λk5 z=>?_
 refine hG (w.alloc (.cells (madeCells #[.int .u8 0] 32) 5)) λW1 S=>?_
 have m1:=WF w;have b:Holds encB (w.alloc (.cells (madeCells #[.int .u8 0] 32) 5)) w.heap.size 0 (XL 32 0):=SP.Holds.made (enc:=encB) w 5 32 0;have b1:=aC w (.cells (madeCells #[.int .u8 0] 32) 5);rw[S.out]at m1 b b1;rw[z.out]at m1 b;refine Xy ?_;refine PW.begin ?_;refine PW.ns m1 ?_;refine PW.va (sZ k5 32 32) ?_;refine PW.dn ?_;clear m1;have cp:=ID (P:=prog) W1 23 9 3 5 k5 0 32 32 s SP.slice22 SP.size5 (λj hj=>by rw[(b j (by rw[XU];exact hj)).1];rfl) (λj hj=>(b j (by rw[XU];exact hj)).2);have H:=sd_holds s b;refine hG (W1.setCells k5 0 ((s.data.toList.take 32).map λx=>YQ .u8 (x.toNat:Int))) λW2 E=>?_
 have m:kZ w W2:=by rw[<-E.out];exact RG.below_setCells (by rw[z.out];exact Xx _) _ _ _ b1
 rw[E.out]at cp H;refine Xy ?_;refine PW.begin ?_;refine PW.mv ?_;refine PW.mv ?_;refine PW.ns cp ?_;refine PW.dn ?_;have I:=mk2 m (rN H (rY _));clear cp b H b1 m S E z;refine Xy ?_;refine PW.begin ?_;refine PW.va (.slice none 0 0) ?_;refine PW.dn ?_;refine Xy ?_;refine PW.begin ?_;refine PW.va (uZ 0) ?_;refine PW.dn ?_;refine Xy ?_;refine Xy ?_;refine PW.begin ?_;refine PW.va (iZ 0) ?_;refine PW.dn ?_;refine wp_block ?_;obtain⟨A,hA⟩:=hE (aT (λi=>X i%4294967296) (λi=>Y i%4294967296));obtain⟨B,d⟩:=hE (λi=>Y i%4294967296);obtain⟨K,hK⟩:=hE (λi=>1+i%3);obtain⟨t,ht⟩:=hE (tT (λi=>X i%4294967296) (λi=>Y i%4294967296));have fA:Hid (∀i,A i=if t i+B i<X i%4294967296 then 0 else X i%4294967296):=by rw[<-hA.out,<-d.out,<-ht.out];exact λ_=>rfl
 have ft:Hid (∀i,t (i+1)=t i+B i-A i):=by rw[<-hA.out,<-d.out,<-ht.out];exact λ_=>rfl
 have fS:Hid (∀i,t i+aW A i=aW B i):=by rw[<-hA.out,<-d.out,<-ht.out];exact λi=>Jp _ _ i
 have fB:Hid (∀i,B i<4294967296):=by rw[<-d.out];exact λi=>Y9 _ (by decide)
 have fL:Hid (∀i,A i<4294967296):=λi=>by rw[fA.out];have:=Y9 (X i) (show 0<4294967296 by decide);split<;>omega
 have fK:Hid (∀i,K i=1+i%3):=by rw[<-hK.out];exact λ_=>rfl
 have h3:t 0=0:=by rw[<-ht.out];rfl
 have h1:Hid (∀i,B i=Y i%4294967296):=by rw[<-d.out];exact λ_=>rfl
 have O0:Hid (OwO W2 W2 0 (.slice none 0 0) K A B):=⟨XM _ _,rfl,X9 ⟨rfl,rfl⟩⟩
 go_loopg [6,7,8] n (λgk s6 s7 s8 wr=>∃i:Nat,i+gk=n/\s8=iZ i/\s7=uZ (t i:Int)/\Hid (OwO W2 wr i s6 K A B))
 case atStart=>exact⟨0,by omega,rfl,by rw[h3];rfl,O0⟩
 case round =>
  clear O0;obtain⟨i,h4,rfl,rfl,a⟩:=hrel;refine Xy ?_;refine Xy ?_;refine PW.begin ?_;refine PW.mv ?_;refine PW.mv ?_;refine PW.va (iZ n) ?_;refine PW.va (.bool (decide ((i:Int)<(n:Int)))) ?_;refine PW.dn ?_;by_cases hi:i<n
  ·have C:(i:Int)<(n:Int):=by omega
   rw[decide_eq_true C];refine Yx rfl ?_;refine YR ?_;have h0:Yh.wrap ((i:Int)+1)=((i+1:Nat):Int):=by rw[Zc];omega
   have bw:=I.out.1.trans (a.out.bl.mono I.out.1.size);obtain⟨g,o,rfl,hg,hc⟩:=N.out.2.2.1 (by omega);obtain⟨c1,c2⟩:=hc i hi;have C1:=mk2 c1 c2;clear c1 c2 hc;have h6:=N.out.1 i;have h7:=N.out.2.1 i;have lt:=fS.out i;have ls:=rC fB.out i;have R:(i:Int).tmod 3=((i%3:Nat):Int):=by rw[yBm (by omega)];omega
   have V:Yh.wrap (1+((i%3:Nat):Int))=((K i:Nat):Int):=by rw[Zc,fK.out];omega
   have T:(X i:Int).tmod 4294967296=((X i%4294967296:Nat):Int):=by rw[yBm (by omega)];omega
   have L:(Y i:Int).tmod 4294967296=((B i:Nat):Int):=by rw[yBm (by omega),h1.out];omega
   refine hG wr.drew.heap.size λl O=>?_
   refine hG (wr.drew.alloc (.cells z3.toArray 26)) λw4 f=>?_
   refine hG (w4.setCells l 0 (opC (K i) (X i%4294967296) (B i))) λw5 D=>?_
   have J:=mk1 ((Mp.start wr).drew.new O f);have F:=mk1 (J.out.put 0 D);have a3:=al3 wr.drew;have G:=aC wr.drew (.cells z3.toArray 26);rw[O.out,f.out]at a3;rw[f.out]at G;obtain⟨vo,k⟩:=hE (X6 (opC (K i) (X i%4294967296) (B i)).toArray);refine Xy ?_;refine wp_block ?_;refine Xy ?_;refine AW.begin 17 17 ?_;refine AW.mv 0 ?_;refine AW.va 1 (iZ ((i:Int).tmod 3)) ?_;rw[R];refine AW.va 2 (iZ (Yh.wrap (1+((i%3:Nat):Int)))) ?_;rw[V];refine AW.mv 3 ?_;refine AW.mv 4 ?_;refine AW.iv 5 (idxOf g o n c i hi) ?_;refine AW.va 6 (.pointer (some ⟨g,o+3*i+1,none⟩)) ?_;refine AW.ce 7 zZ (λW hb=>((bw.trans (hb.mono bw.size)).cell (p:=⟨g,o+3*i+1,none⟩) hg).trans C1.out.1) ?_;refine AW.va 8 (uZ ((X i:Int).tmod 4294967296)) ?_;rw[T];refine AW.mv 9 ?_;refine AW.mv 10 ?_;refine AW.iv 11 (idxOf g o n c i hi) ?_;refine AW.va 12 (.pointer (some ⟨g,o+3*i+2,none⟩)) ?_;refine AW.ce 13 zZ (λW hb=>((bw.trans (hb.mono bw.size)).cell (p:=⟨g,o+3*i+2,none⟩) hg).trans C1.out.2) ?_;refine AW.va 14 (uZ ((Y i:Int).tmod 4294967296)) ?_;rw[L];refine AW.va 15 (.agg (opC (K i) (X i%4294967296) (B i)).toArray) ?_;rw[k.out];refine AW.ns 16 a3 G ?_;refine AW.fi k (Bv _ _ _) iOp λ_=>?_
   rw[D.out];refine⟨J.out.th 0,?_⟩;clear J a3 G f D R V T L k C1;have Q:Yn.wrap ((t i:Int)+(B i:Int))=((t i+B i:Nat):Int):=by have:=fB.out i;rw[ZK];omega
   have lA:A i<=t i+B i:=by rw[fA.out];split<;>omega
   have h2:Yn.wrap (((t i+B i:Nat):Int)-(A i:Int))=((t (i+1):Nat):Int):=by have:=fB.out i;rw[ZK,ft.out];omega
   refine Xy ?_;refine Xy ?_;refine PW.begin ?_;refine PW.va (oZ l 1) ?_;refine PW.ce ((F.out.at_ 0).2.1 1 _ rfl) zZ ?_;refine PW.mv ?_;refine PW.va (oZ l 2) ?_;refine PW.ce ((F.out.at_ 0).2.1 2 _ rfl) zZ ?_;refine PW.va (uZ (Yn.wrap ((t i:Int)+(B i:Int)))) ?_;rw[Q];refine PW.va (.bool (decide (((t i+B i:Nat):Int)<((X i%4294967296:Nat):Int)))) ?_;refine PW.dn ?_;refine I9 (λW=>Mp wr W [(l,opC (K i) (A i) (B i))] []) ?_ ?_
   ·by_cases M:t i+B i<X i%4294967296
    ·rw[decide_eq_true (by omega)];refine Yx rfl ?_;refine hG (w5.setCells l 1 [uZ 0]) λy v=>?_
     obtain⟨th,Z⟩:=row_one (u:=uZ 0) (F.out.at_ 0);refine PW.begin ?_;refine PW.va (oZ l 1) ?_;refine Np 50 v th kR kR kR ?_;refine PW.dn ?_;refine⟨rfl,?_,_,rfl⟩;rw[fA.out,yES M];exact F.out.upd 0 v Z
    ·rw[decide_eq_false (by omega)];refine X7 rfl ?_;refine YR ?_;refine⟨rfl,?_,_,rfl⟩;rw[fA.out,yET M];exact F.out
   intro y p6 M6;simp only[XK,Xt,Xv,Xw];have KM:=mk2 M6 (a.out.grow M6.bl);obtain⟨vo,k⟩:=hE (X6 (opC (K i) (A i) (B i)).toArray);have bs:=WV (K i) (A i) (B i) y;have G:=aC y (.cells (opC (K i) (A i) (B i)).toArray 26);obtain⟨v',w8,r8,M⟩:=(KM.out.2.grow G).app (g:=y.heap.size) (row_new y (opC (K i) (A i) (B i)) 26) (by omega);refine hG y.heap.size λh5 v=>?_
   refine hG (y.alloc (.cells (opC (K i) (A i) (B i)).toArray 26)) λw7 Z=>?_
   rw[v.out,Z.out,k.out]at bs;rw[v.out,Z.out]at r8;have KF:=mk1 M;clear M a M6 F G;refine Xy ?_;refine PW.begin ?_;refine PW.mv ?_;refine PW.va (oZ l 2) ?_;refine PW.ce ((KM.out.1.at_ 0).2.1 2 _ rfl) zZ ?_;refine PW.va (uZ (Yn.wrap ((t i:Int)+(B i:Int)))) ?_;rw[Q];refine PW.va (oZ l 1) ?_;refine PW.ce ((KM.out.1.at_ 0).2.1 1 _ rfl) zZ ?_;refine PW.va (uZ (Yn.wrap (((t i+B i:Nat):Int)-(A i:Int)))) ?_;rw[h2];refine PW.va (uZ ((t (i+1):Nat):Int)) ?_;refine PW.dn ?_;refine PW.begin (P:=prog) ?_;refine PW.mv ?_;refine PW.ro (KM.out.1.at_ 0).2.1 k uOp iOp ?_;refine PW.ns bs ?_;refine PW.ns r8 ?_;refine PW.va v' ?_;refine PW.dn ?_;refine PW.begin (P:=prog) ?_;refine PW.mv ?_;refine PW.va (iZ (Yh.wrap ((i:Int)+1))) ?_;rw[h0];go_wp2;go_roundg (gk-1)
   case measure=>omega
   case rel=>exact⟨i+1,by omega,rfl,rfl,KF⟩
  ·have C:¬(i:Int)<(n:Int):=by omega
   obtain rfl:i=n:=by omega
   rw[decide_eq_false C];refine X7 rfl ?_;refine wp_exit ?_;have bw:=I.out.1.trans (a.out.bl.mono I.out.1.size);obtain⟨q6,c6,rfl,hO⟩:=a.out.opl;have HC:=N.out.2.2.2 K A B i (by omega) (λj=>by rw[fK.out];omega) fL.out fB.out (by have:=fS.out i;omega) (fnB (sdF s)) (rY _) q6 (some (aZ k5)) c6 32 wr hO (I.out.2.below a.out.bl);rw[show aW B i-aW A i=t i by have:=fS.out i;omega]at HC;have BW:=mk1 bw;clear N bw a hO I;refine Xy (P:=prog) ?_;refine PW.begin ?_;refine PW.mv ?_;refine PW.mv ?_;refine PW.ca HC ?_;rintro e Z ⟨F,q1,c1,r,b1,m,U,rfl,M⟩;simp only[XK,Xt,Xv,Xw];refine hG Z.heap.size λG f=>?_
   refine hG (Z.alloc (.cells zcl.toArray 29)) λw2 Q=>?_
   obtain⟨cs,k⟩:=hE [iZ i,sZ r 32 32,uZ (t i:Int),.slice b1 m U];refine hG (w2.setCells G 0 cs) λw3 L=>?_
   have V:cs.length=4:=by rw[<-k.out];rfl
   have R:=mk1 ((Mp.start Z).new f Q);have O:=mk1 (R.out.put 0 L rfl (by rw[V];rfl));have x0:cs[0]? = some (iZ i):=by rw[<-k.out];rfl
   have x2:cs[2]? = some (uZ (t i:Int)):=by rw[<-k.out];rfl
   have o1:cs.toArray.all (·.oneCell')=true:=by rw[<-k.out];exact kR
   have iC:(prog.info? 29).map (·.size)=some cs.length:=by rw[V];exact iCl
   obtain⟨vc,D⟩:=hE (X6 #[iZ i,sZ r 32 32,uZ (t i:Int),.slice b1 m U]);have l:Hid (.agg cs.toArray=vc):=by rw[<-k.out,<-D.out];rfl
   have v:=M w3 O.out.bl;rw[D.out]at v⊢;have T:=mk1 (BW.out.trans ((F.trans (O.out.bl.mono F.size)).mono BW.out.size));clear k D M F BW;refine PW.mv ?_;refine PW.va (.slice q1 i c1) ?_;refine PW.va vc ?_;refine PW.va (iZ 0) ?_;refine PW.al f Q ?_;refine PW.va (.slice q1 i c1) ?_;refine PW.st L l (R.out.th 0 rfl (by rw[V];rfl)) iC o1 ?_;refine PW.va (iZ 0) ?_;refine PW.dn ?_;refine Xy ?_;refine PW.begin ?_;refine PW.mv ?_;refine PW.ro (O.out.at_ 0).2.1 l uCl iC ?_;refine PW.gi v λw4 y=>?_
   refine PW.va (.bool true) ?_;refine PW.dn ?_;have J:=mk1 (O.out.grow y);have B4:=mk1 (T.out.trans (y.mono T.out.size));have et:((t i:Int) == (t i:Int))=true:=by simp
   have ei:((i:Int) == (i:Int))=true:=by simp
   clear R O y v T;refine Xy ?_;refine PW.begin ?_;refine PW.mv ?_;refine PW.va (.bool true) ?_;refine PW.mv ?_;refine PW.gd ?_;refine PW.mv ?_;refine PW.va (.bool true) ?_;refine PW.mv ?_;refine PW.gd ?_;refine PW.va (oZ G 2) ?_;refine PW.gd ?_;refine PW.ce ((J.out.at_ 0).2.1 2 _ x2) zZ ?_;refine PW.gd ?_;refine PW.mv ?_;refine PW.gd ?_;refine PW.va (.bool ((t i:Int) == (t i:Int))) ?_;rw[et];refine PW.va (.bool true) ?_;refine PW.mv ?_;refine PW.gd ?_;refine PW.va (jZ G) ?_;refine PW.gd ?_;refine PW.ce ((J.out.at_ 0).2.1 0 _ x0) u3r ?_;refine PW.gd ?_;refine PW.mv ?_;refine PW.gd ?_;refine PW.va (iZ i) ?_;refine PW.gd ?_;refine PW.va (.bool ((i:Int) == (i:Int))) ?_;rw[ei];refine PW.va (.bool true) ?_;refine PW.mv ?_;refine PW.gd ?_;refine PW.mv ?_;refine PW.gd ?_;refine PW.va (iZ i) ?_;refine PW.gd ?_;refine PW.mv ?_;refine PW.gd ?_;refine PW.va (iZ i) ?_;refine PW.gd ?_;refine PW.va (.bool ((i:Int) == (i:Int))) ?_;rw[ei];refine PW.va (.bool true) ?_;refine PW.va (.bool true) ?_;refine PW.dn ?_;refine wp_ret ?_;go_ret;exact⟨_,rfl,B4.out,rfl⟩
end
section
variable {P:Nat}[NeZero P]{N:Nat}
theorem fld:∃(P:Nat) (_:NeZero P),Fld P:=by
 obtain⟨P,f,i,g⟩:=cur;have j:P=Go.Proofs.YtlofhpkoaljmeaaGreat.p0:=by rw[i];decide +kernel
 have c:=WT;have b:2<=Go.Proofs.YtlofhpkoaljmeaaGreat.p0%18446744073709551616:=by decide +kernel
 have k:Go.Proofs.YtlofhpkoaljmeaaGreat.p0/4%18446744073709551616<18446744073709551615:=by decide +kernel
 have e:Go.Proofs.YtlofhpkoaljmeaaGreat.p0%4=3:=by decide +kernel
 have d:7<Go.Proofs.YtlofhpkoaljmeaaGreat.p0:=by decide +kernel
 rw[<-j]at c b k e d;exact⟨P,f,⟨c,g,b,k,e,d⟩⟩
end
namespace EC
variable {P:Nat}[NeZero P]
def fo{α:Type}(x:Fin P)(f:Fin P->α):α:=
 match x.val with
 | 0=>f (ZS P 0)
 | n+1=>f (ZS P (n+1))
theorem UV{α:Type}(x:Fin P)(f:Fin P->α):fo x f=f x:=by
 have hx:ZS P x.val=x:=Fin.ext (XX x.isLt);unfold fo;split
 ·next h=>rw[h]at hx;rw[hx]
 ·next n h=>rw[h]at hx;rw[hx]
def runs(u v:Fin P)(e:Nat):Nat->Fin P->Fin P->Fin P->Bool
 | 0,_,_,z=>decide (z=0)
 | k+1,x,y,z=>fo (twX x y) λX=>fo (twY x y) λY=>fo (twZ y z) λZ =>
  if e/2^k%2=1 then
   if Z=0 then false else
   fo (cO X 1) λd=>fo (eO Y 1) λg=>fo (cO u Z) λbx=>fo (eO v Z) λf =>
   if d=bx/\g=f then false else
   fo (plX d g bx f) λa=>fo (plY d g bx f) λb=>fo (plZ Z 1 d bx) λc=>runs u v e k a b c
  else runs u v e k X Y Z
theorem Eo(C:Cur P):(1:Fin P)≠0:=λh=>C.two (by
 calc (2:Fin P)=2*1:=by grobner
  _=0:=by rw[h];grobner)
theorem Bi(C:Cur P){u v:Fin P}(c:On (some (u,v)))(e:Nat):∀(k m:Nat) (x y z:Fin P),Jac x y z (mul m (some (u,v)))->runs u v e k x y z=true->mul (m*2^k+e%2^k) (some (u,v))=none
 | 0,m,x,y,z,hj,h=>by
  have b:=of_decide_eq_true h;rw[Nat.pow_zero,Nat.mod_one,Z5,yAi];exact hj.zero C b
 | k+1,m,x,y,z,hj,h=>by
  have p:=cG C c m;have i:=hj.twice C p;rw[<-mul_add C c]at i;have n:e%2^(k+1)=e/2^k%2*2^k+e%2^k:=by
   rw[Zf,Nat.mod_mul,YF (2^k) (e/2^k%2),Nat.add_comm]
  have o:2^(k+1)=2*2^k:=by rw[Zf,YF]
  unfold runs at h;simp only[UV]at h;by_cases b:e/2^k%2=1
  ·rw[yES b]at h;by_cases g:twZ y z=0
   ·rw[yES g]at h;cases h
   ·rw[yET g]at h;have l:Jac u v 1 (some (u,v)):=⟨Eo C,by grobner,by grobner⟩
    rcases i.plus C (cG C c _) l c g (Eo C)with⟨d,f,-⟩|⟨d,f⟩
    ·rw[yES ⟨d,f⟩]at h;cases h
    ·rw[yET d]at h;have j:=Bi C c e k (m+m+1) _ _ _ f h;rw[n,b,o];rw[show m*(2*2^k)+(1*2^k+e%2^k)=(m+m+1)*2^k+e%2^k by
      rw[yAn,yAn,<-yAB,YF m 2,yEs,yAn];omega]
     exact j
  ·rw[yET b]at h;have d:e/2^k%2=0:=oM;have j:=Bi C c e k (m+m) _ _ _ i h;rw[n,d,o];rw[show m*(2*2^k)+(0*2^k+e%2^k)=(m+m)*2^k+e%2^k by
    rw[<-yAB,YF m 2,yEs];omega]
   exact j
def pL:Nat:=115792089237316195423570985008687907853269984665640564039457584007908834671663
def nL:Nat:=115792089237316195423570985008687907852837564279074904382605163141518161494337
instance:NeZero pL:=⟨dK⟩
theorem Q6:runs (P:=pL) (ZS pL 55066263022277343669578718895168534326250603453777594175500187360389116729240) (ZS pL 32670510020758816978083085130507043184471273380659243275938904335757337482424) nL 255 (ZS pL 55066263022277343669578718895168534326250603453777594175500187360389116729240) (ZS pL 32670510020758816978083085130507043184471273380659243275938904335757337482424) 1=true:=dK
theorem Nz:2*pL+1<3*nL:=dK
theorem Sk:1*2^255+nL%2^255=nL:=dK
theorem order(C:Cur P)(b:P=pL)(k:On (some (ZS P 55066263022277343669578718895168534326250603453777594175500187360389116729240,ZS P 32670510020758816978083085130507043184471273380659243275938904335757337482424))){r:Pt P}(c:On r):mul nL r=none:=by
 subst b;refine Ka C (n:=nL) NT.pN Nz k (λh=>by cases h) ?_ c;have h:=Bi C k nL 255 1 _ _ 1 (by
  show Jac _ _ 1 (add none _);rw[jS];exact⟨Eo C,by grobner,by grobner⟩) Q6
 rwa[Sk]at h
end EC
section
theorem J6:Go.Proofs.YtlofhpkoaljmeaaGreat.p1=nL:=dK
variable {P:Nat}[NeZero P]
theorem order2(C:Fld P)(r:EC.Pt P)(b:On r):mul Go.Proofs.YtlofhpkoaljmeaaGreat.p1 r=none:=by
 rw[J6];have k:P=EC.pL:=by
  rw[C.eq];rfl
 exact order C.cur k (C5 C) b
end
section
open SPA
variable {P:Nat}[NeZero P]{N:Nat}
theorem Um:Ord Go.Proofs.YtlofhpkoaljmeaaGreat.p1:=⟨WS,T8,dK,dK⟩
theorem NZ:IsP Go.Proofs.YtlofhpkoaljmeaaGreat.p1:=by
 rw[J6];exact NT.pN
theorem I1(s:ByteArray)(q:Option YW)(n c:Nat)(w:Xs)(h:n=0\/∃g o,q=some ⟨g,o,none⟩/\∀i,i<n->∃x y:Nat,x<18446744073709551616/\y<18446744073709551616/\w.cell? ⟨g,o+3*i+1,none⟩=some (uZ x)/\w.cell? ⟨g,o+3*i+2,none⟩=some (uZ y)):
 XH prog 3 #[.string s,.slice q n c] w λe w'=>e=.returned (.bool true)/\kZ w w':=by
 obtain⟨P,a,C⟩:=fld;have u:NeZero Go.Proofs.YtlofhpkoaljmeaaGreat.p1:=⟨dK⟩
 have hx:∀i,∃z:Nat × Nat,z.1<18446744073709551616/\z.2<18446744073709551616/\(i<n->∀g o,q=some ⟨g,o,none⟩->w.cell? ⟨g,o+3*i+1,none⟩=some (uZ (z.1:Int))/\w.cell? ⟨g,o+3*i+2,none⟩=some (uZ (z.2:Int))):=λi=>by
  by_cases b:i<n
  ·rcases h with h|⟨g,o,rfl,h⟩
   ·omega
   ·obtain⟨x,y,d,f,k⟩:=h i b;refine⟨(x,y),d,f,λ_ l j e=>?_⟩;injection e with e
    injection e with e1 e2
    rw[<-e1,<-e2];exact k
  ·exact⟨(0,0),by decide,by decide,λh=>absurd h b⟩
 refine(O4 s q n c (λi=>(hx i).choose.1) (λi=>(hx i).choose.2) w (λi=>(hx i).choose_spec.1) (λi=>(hx i).choose_spec.2.1) (λr=>?_) λK A B n d f k m t j l q p c sc w=>books C Um (order2 C) NZ dK n d K A B f k m t j l q p c sc w).mono ?_
 ·rcases h with h|⟨g,o,rfl,h⟩
  ·omega
  ·obtain⟨x,y,-,-,k,-⟩:=h 0 r;exact⟨g,o,rfl,World.block_lt_of_cell? _ _ k,λi b=>(hx i).choose_spec.2.2 b g o rfl⟩
 ·rintro e w' ⟨v,rfl,h,rfl⟩;exact⟨rfl,h⟩
end
/-
  THE ROW OF 'AuditTrue' round its walk: a text and a slice of structs (three integers).
-/
namespace auditTrue
open Go.ChangeShapes Go.WideShapes Go.ChangeAt
open Go.ChangeMaps (open_string shut_string)
theorem own:ownKnob prog.godebug=none:=by kernel_rfl
theorem laidOut:laidOutB prog=true:=by kernel_rfl
theorem GY:prog.cellsOf 26=3:=by kernel_rfl
theorem cells3:prog.cellsOf 3=1:=by kernel_rfl
theorem cells24:prog.cellsOf 24=1:=by kernel_rfl
theorem JZ{n:Int}(h:(Lit.int .u64 n).wf=true):∃m:Nat,m<18446744073709551616/\n=(m:Int):=by
 simp only[Lit.wf,Bool.and_eq_true,decide_eq_true_eq]at h;have e:Yn.min=0:=by decide
 have e':Yn.max=18446744073709551615:=by decide
 rw[e,e']at h;exact⟨n.toNat,by omega,by omega⟩
theorem PL{H:Type}{enc:Yd × Xu->H}{W:Xs}{n:Nat}{cs:List Xu}{x:DataW H × List MemPlace}(h:DataW.trod enc prog W 0 (λ_=>true) true n 26 cs=some x):
 ∃(d:Int) (a b:Nat),a<18446744073709551616/\b<18446744073709551616/\cs=[iZ d,uZ a,uZ b]:=by
 obtain⟨y,w,v,m,_,k,r,t,u⟩:=Go.Deep.trod_struct3 underlying26 h;rw[GY]at k;match cs,k with
 | [a,b,c],_ =>
  obtain⟨j,f,_,_⟩:=yCA underlying3 r;obtain⟨z,e,_,s⟩:=yCA underlying24 t;obtain⟨A,g,_,o⟩:=yCA underlying24 u;obtain⟨p,l,rfl⟩:=JZ s;obtain⟨q,i,rfl⟩:=JZ o;simp only[cells3,cells24,List.drop_zero,List.drop_succ_cons,List.take_succ_cons,List.take_zero,List.cons.injEq,and_true]at f e g;exact⟨j,p,q,l,i,by rw[f,e,g]⟩
theorem lifted(os:Os)(s:os.Started)(H:Type)(enc:Yd × Xu->H):
 ReturnsInHanded {} Tryz.checked os 3 .any (Rows.auditTrueSpec.pre6 enc prog Tryz.f3 Rows.auditTrueRow.domain false) (Rows.auditTrueSpec.post enc prog Tryz.f3 false true false false):=by
 refine returnsInHanded_of_change (C:=Tryz.checked) own s (by kernel_rfl) func3
  (ChangeSpec.witness6 (enc:=enc) (C:=Tryz.checked) false ⟨#[],#[.string ByteArray.empty,.slice none 0 0],[]⟩ 8 (by kernel_rfl) (by kernel_rfl) (by kernel_rfl) (by kernel_rfl)) ?_
 intro W B args ds gs I k hW h2 _;have r:∀(j:Nat) t v,Tryz.f3.params[j]? = some t->args[j]? = some v->Value.okWide prog W .any B t v:=k;have R:=hW;obtain⟨p,q,F,hV,rfl,h4,h8⟩:=hW;have Z:DataW.TrodAll enc prog W 0 (λ_=>true) true Tryz.f3.params.toList args.toList ds p:=F;rw[params3]at Z r;obtain⟨v0,h9,d0,h5,p0,q0,K,rfl,rfl,h0,r0⟩:=trodAll_cons Z;obtain⟨v1,h7,d1,h3,p1,q1,rfl,rfl,rfl,h1,r1⟩:=trodAll_cons r0;obtain⟨rfl,rfl,rfl⟩:=trodAll_nil r1;obtain rfl:args=#[v0,v1]:=by cases args;simp_all
 obtain⟨rfl,rfl⟩:=trodVars_none hV;obtain⟨a0,rfl,rfl,rfl,w0⟩:=open_string underlying9 (r 0 9 v0 rfl rfl) h0;obtain⟨X,len1,A,rfl⟩:=okWide_slice underlying22 (r 1 22 v1 rfl rfl);have U:=h1;have O:∀x∈p1,x.block<W.heap.size:=by obtain⟨m,Y⟩:=U;exact DataW.trod_lt m _ _ _ Y
 have L:len1=0\/∃g o,X=some ⟨g,o,none⟩/\∀i,i<len1->∃x y:Nat,x<18446744073709551616/\y<18446744073709551616/\W.cell? ⟨g,o+3*i+1,none⟩=some (uZ x)/\W.cell? ⟨g,o+3*i+2,none⟩=some (uZ y):=by
  obtain⟨T,hf⟩:=h1;rcases Go.Deep.open_slice underlying22 hf with⟨f,_⟩|⟨a,l,c,m,n,D,Pl,f,_,hl,Y,E,_,hx⟩
  ·simp[yEg]at f;obtain⟨rfl,rfl,rfl⟩:=f;exact X9 rfl
  ·simp[yEg]at f;obtain⟨rfl,rfl,rfl⟩:=f;simp only[if_true]at E;subst E;by_cases P:len1=0
   ·exact X9 P
   rw[GY]at hx;obtain⟨b,off,G⟩:=a;obtain⟨h6,S,Q⟩:=hx 0 (by omega);obtain⟨_,N,u⟩:=yDn S;obtain⟨_,_,_,_,_,rfl⟩:=PL Q;have z:G=none:=by simpa[Addr.add]using World.cell?_spot (u 0 (by omega))
   subst z;refine X0 ⟨b,off,rfl,λi hi=>?_⟩;obtain⟨cs,hc,ht⟩:=hx i (by omega);obtain⟨_,V,w⟩:=yDn hc;obtain⟨d,x,y,J,M,rfl⟩:=PL ht;have e:∀j,j<3->W.cell? ⟨b,off+3*i+j,none⟩=[iZ d,uZ x,uZ y][j]?:=λj hj=>by
    have:=w j hj;rw[yC8,yC8]at this;rw[YF 3 i];exact this
   exact⟨x,y,J,M,e 1 (by decide),e 2 (by decide)⟩
 clear F k;refine(I1 a0 X len1 A W L).mono λe W' ⟨f,bel⟩=>?_
 subst f;exact⟨_,rfl,_,_,_,[],_,[],R,trodAll_mk1 (shut_bool underlying4 _),trodAll_cons_mk (shut_string underlying9 w0) (trodAll_cons_mk (Below.trod laidOut (by kernel_rfl) (of_decide_eq_true (by kernel_rfl)) U bel O) trodAll_mk0),rfl,bel.frame _,λh=>by cases h⟩
theorem over:Rows.auditTrueRow.holds Tryz.pinned (OpenSpec.ofChange Rows.auditTrueSpec):=
 OpenClaim.holds_of_wide 3 Tryz.f3 rfl rfl rfl rfl rfl rfl rfl ⟨rfl,rfl,rfl,rfl,rfl⟩ rfl rfl rfl rfl rfl (by kernel_rfl) func3 (by kernel_rfl)
  (of_decide_eq_true (by kernel_rfl)) (by unfold Func.isWrapper;first|(rw[yES (by decide +kernel)];kernel_rfl)|(rw[yET (by decide +kernel)];exact⟨rfl,rfl⟩))
  (λb k H enc _=>lifted b k H enc)
theorem proved:Rows.AuditTrueSaid:=
 over
end auditTrue
section
theorem auditTrue_holds:Rows.AuditTrueSaid:=auditTrue.proved
#print axioms auditTrue_holds
end
end Go.Proofs.YtlofhpkoaljmeaaGreat
