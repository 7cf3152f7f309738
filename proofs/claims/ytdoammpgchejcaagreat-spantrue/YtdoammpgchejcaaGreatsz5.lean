import Derived.Laws.IdiomCopy
import Derived.Lib.SlBuf
import Derived.Deep.AppendSrc
import Derived.Test.YtdoammpgchejcaaGreatsz4
set_option linter.unusedVariables false
set_option linter.constructorNameAsVariable false
set_option linter.unusedSimpArgs false
set_option maxRecDepth 1000000
set_option maxHeartbeats 4000000
namespace Go.Proofs.YtdoammpgchejcaaGreat
open EC NT RG SP
open _root_.And renaming intro->V4
open _root_.Array renaming any_eq_true'->Xs,getD_eq_getD_getElem?->UJ,getElem?_eq_getElem->UZ,getElem?_eq_some_iff->UY,getElem?_setIfInBounds->WL,length_toList->UL,replicate->UM,setIfInBounds_comm->yAi,size->Wt,toList_replicate->XT
open _root_.Bool renaming and_eq_true->UN,and_true->yAn,false_or->Zw,not_eq_true'->yA5,not_true->yAm,or_eq_true->WV
open _root_.Go renaming Addr->Wv,Calls->UK,Exit->X9,FuncId->Xl,Oper->Vk,Operand->XM,Program->VD,Tmp->WF,TypeId->Vb,Value->Uv,World->Ut,bodyPost_ret->UH,execOp->U9,run_loadVar_mid->Y2,undef->WJ,wpList_load_mid->U8,wpList_plain->Xd,wpList_store_mid->U3,wpOp_mono->X8,wp_seq->UC
open _root_.Go.Act renaming put->UR
open _root_.Go.Builtin renaming copy_->Ya
open _root_.Go.Code renaming region->V3
open _root_.Go.Instr renaming box->Vh,buildSlice->VF,indexAt->Vj,makeFunc->YV
open _root_.Go.IntKind renaming i64->VY,u64->Vw,wrap_i64->Yp,wrap_u64->XJ
open _root_.Go.Next renaming value->Xq
open _root_.Go.Oper renaming semAt_some->yAc,upon_enter->WU,wp->VT
open _root_.Go.Region renaming binds->VM,noSelect->XQ,ready->U7,wanted->V5
open _root_.Go.RowKit.Below renaming refl->UT
open _root_.Go.Sem renaming run_bind->UW
open _root_.Go.Value renaming agg->U5,int->V2
open _root_.Go.World renaming cell?_of_block->U0,frozen?->Xe,rangeAt->Y5,rangeAt_setCells_apart->Vq,size_alloc->UD,there_setCells->V7
open _root_.List renaming all_cons->ZC,all_eq_true->Va,all_nil->ZR,all_toArray->XP,append_assoc->VC,append_nil->XC,cons_append->Xv,drop->Xo,getElem?_append_left->UX,getElem?_append_right->U4,getElem?_cons_succ->Vf,getElem?_cons_zero->Vl,getElem?_eq_getElem->UI,getElem?_eq_some_iff->UG,getElem?_map->Vy,getElem?_range->Zy,getElem?_toArray->Vm,getElem_map->Xi,length_append->UB,length_cons->Vg,length_map->US,length_nil->WO,map_append->Wx,mem_append->Ww,mem_cons->V0,mem_map->Vn,mem_of_getElem?->VQ,mem_range->VS,mem_singleton->WT,nil_append->XI,nodup_append->Za,not_mem_nil->U1,pairwise_iff_getElem->yAd,range->VB,replicate->VG,setIfInBounds_toArray->Uu,set_cons_succ->Uw,set_cons_zero->Ux,size_toArray->VE,take->Xn
open _root_.Nat renaming add_assoc->WY,add_sub_cancel_left->WH,add_zero->Xm,div_eq_of_lt->XA,le_of_eq->YC,le_refl->Uy,le_trans->UE,lt_of_lt_of_le->Uz,lt_or_ge->VV,min->XV,min_le_left->yAj,min_le_right->Z9,mod_eq_of_lt->UU,mod_lt->V6,mul_add_div->yBt,mul_comm->Vv,ne_of_gt->Wp,not_lt_zero->Ys,one_mul->Xj,one_pos->yBZ,pow_le_pow_right->VN,pow_pos->X6,pow_succ->V8,reduceAdd->VO,sub_zero->Y8,zero_add->UF,zero_le->Wz,zero_mod->YO,zero_mul->ZW
open _root_.Ne renaming symm->YL
open _root_.Option renaming isSome_iff_exists->Vu,map_eq_some_iff->UA,map_some->Yj,some->UP
open _root_.Or renaming inl->U6,inr->U2
open _root_.Prod renaming mk->We
open Go.Proofs.Tryz
variable {K:Act->Ut->Prop}{args:Array Uv}{us vs xs ys:List Uv}{e id j:Nat}{B:Nat->Bs}{Q':Nat->Prop}{f:Xl}
section
open Go.RowKit Go.Sort Go.Deep
variable {P:Nat}[NeZero P]{N:Nat}
theorem Pr(O:Ord N)(x y z:Nat)(hx:x<N)(S:y<N)(J:z<N)(i o F p B a c1 t C D c2:Nat)(K:i<a)(P:i<D)(w:Ut)(I:p<w.heap.size)(L:t<w.heap.size)(E:Row w o [.slice (some ⟨p,B,none⟩) a c1,.slice (some ⟨t,C,none⟩) D c2])(M:Row w F (wn z))(Q:w.rangeAt p (B+4*i) (wn x))(G:w.rangeAt t (C+4*i) (wn y)):
 UK prog 153 #[iZ i,jZ o,jZ F] w (rZ w λe w'=>e=nv (sPl N x (sTi N y z))):=by
 obtain⟨k,v⟩:=hE (w.heap.size);obtain⟨Y,c⟩:=hE (w.alloc (.cells (RG.z 4).toArray 49));have d:=aN v c;have A:=iJ O y z S J;have u:sTi N y z<N:=V6 _ O.pos;have q:=mX O x (sTi N y z) hx u;generalize sTi N y z=s at A q⊢;generalize sPl N x s=r at q⊢;obtain⟨T,n⟩:=hE (nv x);obtain⟨Z,l⟩:=hE (nv y);obtain⟨X,f⟩:=hE (nv z);obtain⟨vs,g⟩:=hE (nv s);obtain⟨U,m⟩:=hE (nv r);rw[l.out,f.out,g.out]at A;rw[n.out,g.out,m.out]at q;go_enter func153,ntmps153;go_wp2_with (first|(refine alR 4 v c ?_)|fail)
 refine AW.begin 13 13 ?_;refine AW.va 0 (jZ o) ?_;refine AW.ce 1 uSl (λW b=>((E.below d.1).below b).2.1 0 _ rfl) ?_;refine AW.mv 2 ?_;refine AW.iv 3 (lH p B a c1 i K) ?_;refine AW.ro 4 (λW b=>row_of d.1 I Q b) n rSc nSc ?_;refine AW.va 5 (oZ o 1) ?_;refine AW.ce 6 uSl (λW b=>((E.below d.1).below b).2.1 1 _ rfl) ?_;refine AW.mv 7 ?_;refine AW.iv 8 (lH t C D c2 i P) ?_;refine AW.ro 9 (λW b=>row_of d.1 L G b) l rSc nSc ?_;refine AW.ro 10 (λW b=>((M.below d.1).below b).2.1) f rSc nSc ?_;refine AW.gi 11 (λ_=>A _) λV _=>?_
 refine AW.gi 12 (λ_=>q _) λH _=>?_
 refine AW.fi (us:=wn r) m (aM r) i40 (λb=>?_);obtain⟨W5,j⟩:=hE (H.setCells k 0 (wn r));have R:=rT v c b j;rw[j.out];refine⟨R.1,?_⟩;go_wp2_with fail
 refine UH (aG 4 49 rfl R.2.2 rfl u40 i40) rfl ?_;exact⟨_,rfl,R.2.1,rfl⟩
theorem RO(O:Ord N){Q:Nat->Prop}{n:Nat}(Z:n<=64){a b:Nat->Nat}(S:∀i,i<n->a i<N)(V:∀i,i<n->b i<N){z:Nat}(I:z<N){v:Uv}{w:Ut}(h:Ln Q w v n a b):
 UK prog 77 #[v,nv z] w (rZ w λe w'=>SLq (w.heap.size<=·) w' e n (λi=>sPl N (a i) (sTi N (b i) z))):=by
 obtain⟨x,y,rfl,hx,X⟩:=h.ex;obtain⟨o,q,c1,rfl,-,-,M,U⟩:=hx;obtain⟨D,E,c2,rfl,-,-,L,G⟩:=X;obtain⟨k,r⟩:=hE (w.heap.size);obtain⟨u,l⟩:=hE (w.alloc (.cells [.slice (some ⟨o,q,none⟩) n c1,.slice (some ⟨D,E,none⟩) n c2].toArray 126));obtain⟨B,d⟩:=hE (u.heap.size);obtain⟨t,j⟩:=hE (u.alloc (.cells (wn z).toArray 49));have f:=aN r l;have g:=aN d j;have F:=mk3 (f.1.trans (g.1.mono f.1.size)) (f.2.below g.1) g.2;have K:=mk1 (jD n (by omega) 153 #[jZ k,jZ B] (λ_ _=>kR) (λi=>sPl N (a i) (sTi N (b i) z)) t λi W c p=>by
  have m:=F.1.trans (p.mono F.1.size);have s:=m.size;exact Pr O (a i) (b i) z (S i c) (V i c) I i k B o q n c1 D E n c2 c c W (by omega) (by omega) (F.2.1.below p) (F.2.2.below p) (RG.range_below (U i c) m M) (RG.range_below (G i c) m L))
 have T:∀(C:Fn) (first cap:Array Uv) (w:Ut),(YV C first cap).run prog w=.ok (.func C first cap) w:=λ_ _ _ _=>rfl
 have P:t.cell? ⟨k,0,none⟩=some (.slice (some ⟨o,q,none⟩) n c1):=F.2.1.2.1 0 _ rfl;go_enter func77,ntmps77;go_wp2_with (first|(refine alR 2 r l ?_)|(refine alR 3 d j ?_)|fail)
 refine K.mono ?_;rintro e Y ⟨v,rfl,m,R⟩;have J:=mk2 (F.1.trans (m.mono F.1.size)) (R.mono λg H=>UE F.1.size H);go_wp2;go_ret;exact⟨_,rfl,J.out⟩
theorem RJ(O:Ord N){Q:Nat->Prop}{n:Nat}(hn:n<=64){a b c d:Nat->Nat}(A:∀i,i<n->a i<N/\b i<N/\c i<N/\d i<N){v u:Uv}{w:Ut}(h:Ln Q w v n a b)(h':Ln Q w u n c d):
 UK prog 75 #[v,u] w (rZ w λe w'=>e=.tuple #[nv (sPl N (prS N a d n) (prS N b c n)),nv (prS N b d n)]):=by
 obtain⟨x,y,rfl,hx,hy⟩:=h.ex;obtain⟨-,g1,o1,c1,rfl⟩:=bY hx;obtain⟨-,g2,o2,c2,rfl⟩:=bY hy;obtain⟨x',y',rfl,C,m⟩:=h'.ex;obtain⟨-,g3,o3,c3,rfl⟩:=bY C;obtain⟨-,g4,o4,c4,rfl⟩:=bY m;obtain⟨k,hk⟩:=hE (w.heap.size);obtain⟨w1,z⟩:=hE (w.alloc (.cells [.slice (some ⟨g1,o1,none⟩) n c1,.slice (some ⟨g2,o2,none⟩) n c2].toArray 126));obtain⟨Z,t⟩:=hE (w1.heap.size);obtain⟨w2,r⟩:=hE (w1.alloc (.cells [.slice (some ⟨g3,o3,none⟩) n c3,.slice (some ⟨g4,o4,none⟩) n c4].toArray 126));obtain⟨B,o⟩:=hE (w2.heap.size);obtain⟨w3,G⟩:=hE (w2.alloc (.cells (RG.z 4).toArray 49));obtain⟨D,s⟩:=hE (w3.heap.size);obtain⟨w4,M⟩:=hE (w3.alloc (.cells (RG.z 4).toArray 49));have f:=Ng hk z t r o G;have g:=aN s M;have F:=mk5 (f.1.trans (g.1.mono f.1.size)) (f.2.1.below g.1) (f.2.2.1.below g.1) (f.2.2.2.below g.1) g.2;have h0:w.heap.size<=B/\B<D:=⟨by rw[<-o.out];exact UE (aN hk z).1.size (aN t r).1.size,by rw[<-s.out];exact f.2.2.2.1⟩
 have X:Hid (∀ {p q:Nat->Nat}{x y:Uv},(∀i,i<n->p i<N/\q i<N)->SLq Q w x n p->SLq Q w y n q->∀W,kZ w4 W->UK prog 78 #[x,y] W (rZ W λe w'=>e=nv (prS N p q n))):=λ{p q x y} hp h1 h2 W j=>by
  have b:=F.1.trans (j.mono F.1.size);exact Be O (Q:=Q) n (by omega) p q (λi l=>(hp i l).1) (λi l=>(hp i l).2) x y W (h1.keep (Kq.of_below b)) (h2.keep (Kq.of_below b))
 have C1:=X (λi l=>⟨(A i l).1,(A i l).2.2.2⟩) hx m;have C2:=X (λi l=>⟨(A i l).2.1,(A i l).2.2.1⟩) hy C;have V:=X (λi l=>⟨(A i l).2.1,(A i l).2.2.2⟩) hy m;have E:=mX O _ _ (AO O.pos a d n) (AO O.pos b c n);generalize prS N a d n=p1 at C1 E⊢;generalize prS N b c n=p2 at C2 E⊢;generalize prS N b d n=T at V⊢;generalize sPl N p1 p2=S at E⊢;obtain⟨v1,L⟩:=hE (nv p1);obtain⟨v2,I⟩:=hE (nv p2);obtain⟨v3,K⟩:=hE (nv T);obtain⟨v4,P⟩:=hE (nv S);rw[L.out]at C1;rw[I.out]at C2;rw[K.out]at V;rw[L.out,I.out,P.out]at E;go_enter func75,ntmps75;go_wp2_with (first|(refine alR 2 hk z ?_)|(refine alR 3 t r ?_)|(refine alR 4 o G ?_)|(refine alR 5 s M ?_)|fail)
 refine AW.begin 16 15 ?_;refine AW.va 0 (jZ k) ?_;refine AW.ce 1 uSl (λW j=>(F.2.1.below j).2.1 0 _ rfl) ?_;refine AW.va 2 (oZ Z 1) ?_;refine AW.ce 3 uSl (λW j=>(F.2.2.1.below j).2.1 1 _ rfl) ?_;refine AW.va 5 (oZ k 1) ?_;refine AW.ce 6 uSl (λW j=>(F.2.1.below j).2.1 1 _ rfl) ?_;refine AW.va 7 (jZ Z) ?_;refine AW.ce 8 uSl (λW j=>(F.2.2.1.below j).2.1 0 _ rfl) ?_;refine AW.va 11 (oZ k 1) ?_;refine AW.ce 12 uSl (λW j=>(F.2.1.below j).2.1 1 _ rfl) ?_;refine AW.va 13 (oZ Z 1) ?_;refine AW.ce 14 uSl (λW j=>(F.2.2.1.below j).2.1 1 _ rfl) ?_;refine AW.gi 4 (λj=>C1 _ j) λW1 _=>?_
 refine AW.gi 9 (λj=>C2 _ j) λW2 _=>?_
 refine AW.gi 10 (λ_=>E _) λW3 _=>?_
 refine AW.gi 15 (λj=>V _ j) λU _=>?_
 refine AW.f2 (us:=wn S) (us':=wn T) P K (aM _) i40 (aM _) i40 (λj=>?_);obtain⟨W5,H⟩:=hE (U.setCells B 0 (wn S));obtain⟨Y,J⟩:=hE (W5.setCells D 0 (wn T));have R:Hid (U.there B 0 4/\W5.there D 0 4/\Row Y B (wn S)/\Row Y D (wn T)/\kZ w Y):=by
  have r4:=F.2.2.2.1.below j;have r5:Row (U.setCells B 0 (wn S)) D _:=aR (F.2.2.2.2.below j) (by omega);rw[<-J.out,<-H.out];exact⟨r4.2.2,r5.2.2,aR (r4.put rfl) (by omega),r5.put rfl,RG.below_setCells (by omega) _ _ _ (RG.below_setCells (by omega) _ _ _ (F.1.trans (j.mono F.1.size)))⟩
 rw[H.out,J.out];refine⟨R.1,R.2.1,?_⟩;go_wp2_with fail
 refine UH (qE 4 5 49 49 rfl R.2.2.1 R.2.2.2.1 rfl rfl u40 i40 u40 i40) rfl ?_;exact⟨_,rfl,R.2.2.2.2,rfl⟩
theorem OW(O:Ord N)(p x:Nat)(P:p<N)(hx:x<N)(i:Int)(c m:Nat)(F:m≠c)(w:Ut)(B:Row w c (wn p))(L:Row w m (wn x)):
 UK prog 152 #[iZ i,jZ c,jZ m] w (Ret λe w'=>Kz (·≠c) w w'/\(Row w' c (wn (sTi N p x))/\Row w' m (wn x))/\e=nv p):=by
 have H:=iJ O p x P hx;generalize sTi N p x=q at H⊢;obtain⟨T,k⟩:=hE (nv p);obtain⟨Y,a⟩:=hE (nv x);obtain⟨Z,y⟩:=hE (nv q);rw[k.out,a.out,y.out]at H;obtain⟨z,g⟩:=hE (w.heap.size);obtain⟨K,o⟩:=hE (w.alloc (.cells (RG.z 4).toArray 49));obtain⟨A,f⟩:=hE (K.heap.size);obtain⟨J,v⟩:=hE (K.alloc (.cells (RG.z 4).toArray 49));obtain⟨n,s⟩:=hE (J.setCells A 0 (wn p));have r:=aN g o;have D:=aN f v;have E:=r.1.trans (D.1.mono r.1.size);have W:=B.1;have U:=L.1;have S:=r.2.1;have X:=g.out;have R:=f.out;have d:Hid (kZ w n/\Row n c (wn p)/\Row n m (wn x)/\Row n z (RG.z 4)/\Row n A (wn p)/\J.there A 0 4):=by
  rw[<-s.out];exact⟨RG.below_setCells (by omega) _ _ _ E,aR (B.below E) (by omega),aR (L.below E) (by omega),aR (r.2.below D.1) (by omega),D.2.put rfl,D.2.2.2⟩
 have Q:=mk1 (B.below E);go_enter func152,ntmps152;go_wp2_with (first|(refine alR 4 g o ?_)|(refine ldR 1 (B.below r.1).2.1 k u40 i40 ?_)|(refine alR 5 f v ?_)|(refine stR 5 s k d.2.2.2.2.2 i40 (aM p) ?_)|(refine ldR 1 d.2.1.2.1 k u40 i40 ?_)|(refine ldR 2 d.2.2.1.2.1 a u40 i40 ?_)|fail)
 refine(H n).mono ?_;rintro e I ⟨V,rfl,b,rfl⟩;obtain⟨G,u⟩:=hE (I.setCells c 0 (wn q));obtain⟨C,t⟩:=hE (G.setCells z 0 (wn p));have l:=mk5 (d.1.trans (b.mono d.1.size)) (d.2.1.below b) (d.2.2.1.below b) (d.2.2.2.1.below b) (d.2.2.2.2.1.below b);have j:Hid (I.there c 0 4/\Row G A (wn p)/\G.there z 0 4/\Kz (·≠c) w C/\Row C c (wn q)/\Row C m (wn x)/\Row C z (wn p)):=by
  have M:Row (I.setCells c 0 (wn q)) z _:=aR l.2.2.2.1 (by omega);rw[<-t.out,<-u.out];exact⟨l.2.1.2.2,aR l.2.2.2.2 (by omega),M.2.2,((Kz.of l.1).set (U2 (by simp))).set (U6 (by omega)),aR (l.2.1.put rfl) (by omega),aR (aR l.2.2.1 F) (by omega),M.put rfl⟩
 go_wp2_with (first|(refine stR 1 u y j.1 i40 (aM q) ?_)|(refine ldR 5 j.2.1.2.1 k u40 i40 ?_)|(refine stR 4 t k j.2.2.1 i40 (aM p) ?_)|fail)
 refine UH (aG 4 49 rfl j.2.2.2.2.2.2 rfl u40 i40) rfl ?_;exact⟨_,rfl,j.2.2.2.1,⟨j.2.2.2.2.1,j.2.2.2.2.2.1⟩,rfl⟩
def pwN(N x:Nat):Nat->Nat
 | 0=>1
 | i+1=>sTi N (pwN N x i) x
theorem wS(O:Ord N)(x:Nat):∀i,pwN N x i<N
 | 0=>by show 1<N;have:=O.n2;omega
 | _+1=>V6 _ O.pos
theorem EH[NeZero N](k:1<N)(x:Fin N):∀i,(pwF x i).val=pwN N x.val i
 | 0=>UU k
 | i+1=>by
  show(pwF x i*x).val=_;rw[fM,EH k x i];rfl
theorem Kz.bw{Z:Nat->Prop}{w c d:Ut}(h:kZ w c)(k:Kz Z c d)(e:∀g,g<w.heap.size->Z g):kZ w d:=⟨k.os.trans h.os,k.tape.trans h.tape,k.output.trans h.output,UE h.size k.size,λg b=>(k.block g (Uz b h.size) (e g b)).trans (h.block g b)⟩
theorem EL(O:Ord N)(x:Nat)(hx:x<N)(n:Nat)(U:n<=512)(w:Ut):
 UK prog 74 #[nv x,iZ n] w (rZ w λe w'=>SLq (w.heap.size<=·) w' e n (pwN N x)/\∃g c,e=sZ g n c):=by
 obtain⟨H,t⟩:=hE (nv x);obtain⟨v1,q⟩:=hE (nv 1);have S:Hid (Gives 70 #[uZ 1] v1):=by rw[<-q.out];exact I1
 obtain⟨r,f⟩:=hE (w.heap.size);obtain⟨A,l⟩:=hE (w.alloc (.cells (wn x).toArray 49));have C:Hid ((Vh 49 H).run prog w=.ok (jZ r) A):=by rw[<-t.out,<-l.out,<-f.out];exact boxS x w
 have a:=aN f l;have R:∀(F:Fn) (first cap:Array Uv) (w:Ut),(YV F first cap).run prog w=.ok (.func F first cap) w:=λ_ _ _ _=>rfl
 rw[t.out];go_enter func74,ntmps74;go_wp2_with (first|(refine aF (u:=H) (v:=jZ r) (w':=A) rfl _ (.tmp 0) rfl ?_ ?_ ?_;rfl;exact C.out)|fail)
 refine(S A).mono ?_;rintro e E ⟨Y,rfl,k,rfl⟩;obtain⟨p,b⟩:=hE (E.heap.size);obtain⟨M,m⟩:=hE (E.alloc (.cells (RG.z 4).toArray 49));obtain⟨Q,s⟩:=hE (M.setCells p 0 (wn 1));have y:=EU b m s rfl;have D:=a.2.below k;have d:=D.1;rw[b.out]at d;have B:=a.1.trans (k.mono a.1.size);have j:=mk4 (B.trans (y.2.1.mono B.size)) (D.below y.2.1) y.2.2 d;have s4:=j.2.2.1.1;have J:=mk1 (zZ n U 152 #[jZ p,jZ r] (λ_ _=>kR) (pwN N x) (·≠p) (λi W=>Row W p (wn (pwN N x i))/\Row W r (wn x)) Q (λg z=>by omega) (λW G=>⟨j.2.2.1.below G,j.2.1.below G⟩) (λi W K o vs V h=>⟨aR h.1 (by omega),aR h.2 (by omega)⟩) λi W hi _ h=>OW O _ x (wS O x i) hx _ p r (by omega) W h.1 h.2);clear B D k d s4;go_wp2_with (first|(refine alR 5 b m ?_)|(refine stR 5 s q y.1 i40 (aM 1) ?_)|fail)
 refine J.mono ?_;rintro e Z ⟨v,rfl,I,-,P,T⟩;have X:=f.out;have L:=mk3 (Kz.bw j.1 I λg z=>by have:=j.2.2.2;omega) (P.mono λg z=>UE j.1.size z) T;go_wp2;go_ret;exact⟨_,rfl,L.out⟩
theorem NB(O:Ord N)(x:Nat)(hx:x<N)(n:Nat)(c:n<=512)(w:Ut):
 UK prog 74 #[nv x,iZ n] w (rZ w λe w'=>SLq (w.heap.size<=·) w' e n (pwN N x)):=
 (EL O x hx n c w).mono λ_ _ ⟨v,h,k,b,_⟩=>⟨v,h,k,b⟩
theorem uLs:(prog.underlying 129).map (·.isRow)=some false:=kR
theorem uSm:(prog.underlying 131).map (·.isRow)=some false:=kR
theorem Oy(O:Ord N)(l:List (Nat × Bs))(u:TOk N l)(d:l.length<=512)(z:Nat)(A:z<N)(i n s f m o c1 j q r c2:Nat)(v0 v2 x:Uv)(C:i<o)(I:i<r)(w:Ut)(a:f<w.heap.size)(E:j<w.heap.size)(D:Row w n [v0,.slice (some ⟨f,m,none⟩) o c1,v2])(H:Row w s [.slice (some ⟨j,q,none⟩) r c2])(J:w.cell? ⟨f,m+1*i,none⟩=some x)(hx:Sm 0 w x l)(v:w.rangeAt j (q+4*i) (wn z)):
 UK prog 163 #[iZ i,jZ n,jZ s] w (rZ w λe w'=>Sm w.heap.size w' e (l.map (tmT N z))):=by
 obtain⟨M,b⟩:=hE (nv z);have t:=mk1 (λ(W:Ut) (k:kZ w W)=>eG O A 0 x l d u.szm u.lt W (hx.grow k));rw[b.out]at t;obtain⟨L,y⟩:x.oneCell'=true/\∃g c,x=sZ g l.length c:=by
  obtain⟨g,c,rfl,-⟩:=hx;exact⟨rfl,_,_,rfl⟩
 go_enter func163,ntmps163;go_wp2_with fail
 refine AW.begin 10 10 ?_;refine AW.va 0 (oZ n 1) ?_;refine AW.ce 1 uLs (λW k=>(D.below k).2.1 1 _ rfl) ?_;refine AW.mv 2 ?_;refine AW.iv 3 (atS f m o c1 i C) ?_;refine AW.ce 4 uSm (λW k=>by rw[k.cell (p:=⟨f,m+1*i,none⟩) a];exact J) ?_;refine AW.ce 5 uSl (λW k=>(H.below k).2.1 0 _ rfl) ?_;refine AW.mv 6 ?_;refine AW.iv 7 (lH j q r c2 i I) ?_;refine AW.ro 8 (λW k=>RG.range_below v k E) b rSc nSc ?_;refine AW.ca 9 (λk=>t _ k) (λe w' h=>h.1) ?_;rintro e F ⟨B,G⟩;simp only[UR,Uu,Uw,Ux];refine AW.nx 10 e ?_;refine AW.dn λk=>?_
 have K:=mk2 k (show Sm w.heap.size F e _ from G);go_wp2;go_ret;exact⟨_,rfl,K.out⟩
theorem OK(O:Ord N)(z q y t:Nat)(T:z<N)(Z:q<N)(hy:y<N)(V:t<N)(i M H K L u F D c1 v G B c2:Nat)(U:i<D)(h2:i<B)(w:Ut)(S:u<w.heap.size)(Y:v<w.heap.size)(X:Row w M (wn z))(R2:Row w H [.slice (some ⟨u,F,none⟩) D c1])(R3:Row w K (wn q))(R4:Row w L [.slice (some ⟨v,G,none⟩) B c2])(r1:w.rangeAt u (F+4*i) (wn y))(P:w.rangeAt v (G+4*i) (wn t)):
 UK prog 150 #[iZ i,jZ M,jZ H,jZ K,jZ L] w (rZ w λe w'=>e=nv (sPl N (sTi N z y) (sTi N q t))):=by
 obtain⟨k,C⟩:=hE (w.heap.size);obtain⟨w1,d⟩:=hE (w.alloc (.cells (RG.z 4).toArray 49));have f:=aN C d;have x:=iJ O z y T hy;have A:=iJ O q t Z V;have J:sTi N z y<N:=V6 _ O.pos;have I:sTi N q t<N:=V6 _ O.pos;generalize sTi N z y=a at x J⊢;generalize sTi N q t=b at A I⊢;have E:=mX O a b J I;generalize sPl N a b=r at E⊢;obtain⟨vz,j⟩:=hE (nv z);obtain⟨vq,n⟩:=hE (nv q);obtain⟨vy,m⟩:=hE (nv y);obtain⟨vt,g⟩:=hE (nv t);obtain⟨va,p⟩:=hE (nv a);obtain⟨vb,s⟩:=hE (nv b);obtain⟨vr,o⟩:=hE (nv r);rw[j.out,m.out,p.out]at x;rw[n.out,g.out,s.out]at A;rw[p.out,s.out,o.out]at E;go_enter func150,ntmps150;go_wp2_with (first|(refine alR 6 C d ?_)|fail)
 refine AW.begin 13 13 ?_;refine AW.ro 0 (λW c=>((X.below f.1).below c).2.1) j rSc nSc ?_;refine AW.ce 1 uSl (λW c=>((R2.below f.1).below c).2.1 0 _ rfl) ?_;refine AW.mv 2 ?_;refine AW.iv 3 (lH u F D c1 i U) ?_;refine AW.ro 4 (λW c=>row_of f.1 S r1 c) m rSc nSc ?_;refine AW.ro 6 (λW c=>((R3.below f.1).below c).2.1) n rSc nSc ?_;refine AW.ce 7 uSl (λW c=>((R4.below f.1).below c).2.1 0 _ rfl) ?_;refine AW.mv 8 ?_;refine AW.iv 9 (lH v G B c2 i h2) ?_;refine AW.ro 10 (λW c=>row_of f.1 Y P c) g rSc nSc ?_;refine AW.gi 5 (λ_=>x _) λW2 _=>?_
 refine AW.gi 11 (λ_=>A _) λW3 _=>?_
 refine AW.gi 12 (λ_=>E _) λQ _=>?_
 refine AW.fi (us:=wn r) o (aM r) i40 (λc=>?_);obtain⟨W5,l⟩:=hE (Q.setCells k 0 (wn r));have R:=rT C d c l;rw[l.out];refine⟨R.1,?_⟩;go_wp2_with fail
 refine UH (aG 6 49 rfl R.2.2 rfl u40 i40) rfl ?_;exact⟨_,rfl,R.2.1,rfl⟩
end
namespace RG
open Go Go.RowKit
variable {P:VD}{ops:Array Vk}{Q:X9->Act->Ut->Prop}{w:Ut}{a0:Act}{L:Array Bool}{F:Flow}{m:Nat}
def Fr(a k:Act)(d:Option WF):Prop:=∃v,k.tmps=(a.put d v).tmps
theorem Lf{o:Vk}{a:Act}:∀ {r:Result Next},o.upon P a K Q r->o.upon P a (λb w'=>K b w'/\Fr a b o.dst) Q r
 | .ok (.value v) _,h=>⟨h,v,rfl⟩
 | .ok .skip _,h=>⟨h,WJ,rfl⟩
 | .ok (.defer d) _,h=>⟨h,WJ,by cases o.dst<;>rfl⟩
 | .ok (.enter f args) _,h=>Calls.mono h λe w' k=>by
  cases e with
  | returned v=>exact⟨k,v,rfl⟩
  | panicked c=>exact k
  | outgrown=>exact k
 | .ok (.row row args) _,h=>Rows.mono h λv w' k=>⟨k,v,rfl⟩
 | .halt (.panic v) _,h=>h
 | .halt (.exit _) _,h=>h.elim
theorem KV{i:Nat}{o:Vk}{a:Act}(ho:ops[i]? = some o)(h:wpOp P ops Q i K a w):wpOp P ops Q i (λk w'=>K k w'/\Fr a k o.dst) a w:=by
 unfold wpOp at *;rw[ho]at h⊢;dsimp only at h⊢;split
 ·rename_i hw
  rw[yCk hw]at h;rcases h with h|h
  ·exact U6 (Lf h)
  ·exact U2 h
 ·rename_i hw
  rw[yCl hw]at h;exact⟨h,WJ,rfl⟩
theorem Hu{i:Nat}{o:Vk}{a:Act}{v:Uv}{b:Ut}(ho:ops[i]? = some o)(c:o.guard=none)(d:(U9 a.eval o).run P w=.ok (.value v) b)(h:wpOp P ops Q i K a w):wpOp P ops Q i (λk w'=>K k w'/\k=a.put o.dst v) a w:=by
 unfold wpOp at *;rw[ho]at h⊢;dsimp only at h⊢;have e:V5 o (yielded ops a.tmps)=true:=by
  unfold V5;rw[c]
 rw[yCk e]at h⊢;rcases h with h|h
 ·unfold VT at h⊢;rw[d]at h⊢;exact U6 ⟨h,rfl⟩
 ·exact U2 h
def rB(k:Array Vk)(i:Nat):Bool:=match k[i]? with
 | some o=>match o.op with | .alloc _=>true|_=>false
 | none=>false
def Sep(k:Array Vk)(L:Array Bool)(a:Act):Prop:=∀i j di dj,on L i=true->on L j=true->i≠j->rB k i=true->rB k j=true->aX k i=some di->aX k j=some dj->a.tmps[di]?≠a.tmps[dj]?
def Als(P:VD)(F:Flow)(b:Array Vk)(n:Nat):Prop:=∀i o,i<n->b[i]? = some o->rB b i=true->o.guard=none/\F.kill i=[]/\(∀(a:Act) w,∃c,(U9 a.eval o).run P w=.ok (.value (jZ w.heap.size)) c)/\∀v w,F.R i v w->∃k,v=jZ k/\k<w.heap.size
theorem kE{a:Act}{d e:WF}{v:Uv}(h:d≠e):(a.put (some d) v).tmps[e]? = a.tmps[e]?:=by
 unfold UR;dsimp only;rw[WL,yCl h]
theorem stepS{k:Nat}{o:Vk}{a:Act}(R:RegF P Q F ops a0 m)(W:Als P F ops m)(D:k<m)(G:∀i,on L i=true->i<m)(ho:ops[k]? = some o)(O:on L k=false)(H:∀e∈o.after,VM .any e=true->on L e.on=true)(h:InvF F ops a0 L a w)(X:Sep ops L a):
 wpOp P ops Q k (λI w'=>InvF F ops a0 (L.setIfInBounds k true) I w'/\Sep ops (L.setIfInBounds k true) I) a w:=by
 have U:=BM R D G ho O H h;have T:=(UY.1 ho).1;have M:k<L.size:=by rw[h.size];exact T
 have C:=eY ho;have c:∀i,on (L.setIfInBounds k true) i=true->i≠k->on L i=true:=λi g z=>by
  rw[dD M]at g;rcases WV _ _ ▸ g with g|g
  ·exact g
  ·exact absurd (by simpa using g:k=i).symm z
 have d:∀i di r,i≠k->aX ops i=some di->o.dst=some r->r≠di:=λi di r z g hk e=>by
  subst e;exact z ((R.of ho).2 r hk |>.2 i g)
 cases B:rB ops k with
 | false =>
  refine X8 (λI w' hh=>⟨hh.1,λi j di dj g J f l t b n=>?_⟩) (KV ho U);have s:i≠k:=by rintro rfl;rw[B]at l;cases l
  have u:j≠k:=by rintro rfl;rw[B]at t;cases t
  have p:=X i j di dj (c i g s) (c j J u) f l t b n;obtain⟨v,hv⟩:=hh.2;rw[hv];cases hd:o.dst with
  | none=>exact p
  | some r=>rw[kE (d i di r s b hd),kE (d j dj r u n hd)];exact p
 | true =>
  obtain⟨Z,-,E,-⟩:=W k o D ho B;obtain⟨w1,hr⟩:=E a w;obtain⟨V,S,N⟩:=h.all;have y:∀i di,i≠k->on L i=true->rB ops i=true->aX ops i=some di->a.tmps[di]?≠some (jZ w.heap.size):=λi di s g l b e=>by
   have K:i<ops.size:=by rw[<-h.size];exact zV g
   obtain⟨-,A,-,hb⟩:=W i _ (G i g) (UZ K) l;obtain⟨q,hq,Y⟩:=hb (V i) w (N i g λx hx=>by rw[A]at hx;cases hx);rw[S i di g b,hq]at e;injection e with e
   injection e with e
   injection e with e
   injection e with e
   omega
  refine X8 (λI w' hh=>⟨hh.1,λi j di dj g J f l t b n=>?_⟩) (Hu ho Z hr U);rw[hh.2];have A:∀r,o.dst=some r->(a.put o.dst (jZ w.heap.size)).tmps[r]? = some (jZ w.heap.size):=λr hd=>by
   rw[hd];unfold UR;dsimp only;rw[WL,yCk rfl,yCk (by rw[h.sz];exact((R.of ho).2 r hd).1)]
  by_cases s:i=k
  ·subst s;have hd:o.dst=some di:=by rw[<-C];exact b
   rw[A di hd,hd,kE (d j dj di (YL f) n hd)];exact(y j dj (YL f) (c j J (YL f)) t n).symm
  ·by_cases u:j=k
   ·subst u;have hd:o.dst=some dj:=by rw[<-C];exact n
    rw[A dj hd,hd,kE (d i di dj f b hd)];exact y i di f (c i g f) l b
   ·have p:=X i j di dj (c i g s) (c j J u) f l t b n;cases hd:o.dst with
    | none=>exact p
    | some r=>rw[kE (d i di r s b hd),kE (d j dj r u n hd)];exact p
structure Al1(P:VD)(G:Gw)(ops:Array Vk)(i:Nat):Prop where
 o:∃o,ops[i]? = some o/\o.guard=none/\(∀(a:Act) w,∃w1,(U9 a.eval o).run P w=.ok (.value (jZ w.heap.size)) w1)
 r:∀v w,G.R i v w->∃k,v=jZ k/\k<w.heap.size
def AlL(P:VD)(G:Gw)(k:Array Vk):List Nat->Prop
 | []=>True
 | i :: r=>Al1 P G k i/\AlL P G k r
theorem AlL.of{G:Gw}{i:Nat}:∀ {l:List Nat},AlL P G ops l->l.contains i=true->Al1 P G ops i
 | [],_,h=>by cases h
 | x :: r,hl,h=>by
  rw[List.contains_cons,WV]at h;rcases h with h|h
  ·rw[show i=x by simpa using h];exact hl.1
  ·exact hl.2.of h
theorem Kg{G:Gw}{n:Nat}(l:List Nat)(h:AlL P G ops l)(b:(VB n).all (λi=>!rB ops i || l.contains i)=true:=by kernel_rfl):Als P G.flow ops n:=λi o g ho e=>by
 have k:=Va.1 b i (VS.2 g);rw[e,yAm,Zw]at k;obtain⟨⟨f,m,j,c⟩,d⟩:=h.of k;obtain rfl:o=f:=UP.inj (ho.symm.trans m);exact⟨j,rfl,c,d⟩
theorem al1{G:Gw}{i:Nat}(cs:List Uv)(T:Vb)(d:∀v w,G.R i v w->∃k,v=jZ k/\k<w.heap.size)(ho:(ops[i]?.map (·.guard))=some none:=by kernel_rfl)(c:∀o,ops[i]? = some o->∀W,(dA [] o,(U9 (evo (evl [])) o).run P W)=(true,.ok (.value (jZ W.heap.size)) (W.alloc (.cells cs.toArray T))):=by(intro _ h _;cases h;kernel_rfl)):Al1 P G ops i:=by
 refine⟨?_,d⟩;cases h:ops[i]? with
 | none=>rw[h]at ho;cases ho
 | some o =>
  rw[h]at ho;refine⟨o,rfl,UP.inj ho,λa w=>?_⟩;have b:=c o h w;simp only[We.injEq]at b;exact⟨_,by rw[iY (a:=a) (evl []) [] b.1 (λt e=>by cases e)];exact b.2⟩
theorem Gw.tail3(G:Gw)(n:Nat)(z:Als P G.flow ops n)(s:(decide (n<ops.size) && nN ops n)=true)(D:P.follows .mixedOrders=true)(u:Bf ops a0.tmps.size=true)(h:iM P Q G.flow ops a0 0 (ops.toList.take n))(y:G.B w.drew)
 (x:∀(V:Nat->Uv) (w':Ut),(∀i,i<n->G.R i (V i) w')->G.B w'->(∀i j,i<n->j<n->i≠j->rB ops i=true->rB ops j=true->(aX ops i).isSome=true->(aX ops j).isSome=true->V i≠V j)->wpList P ops Q (ops.toList.drop n) (bU V (ops.toList.take n) 0 a0) w'):(V3 id ops true).wp P Q a0 w:=by
 rw[UN,decide_eq_true_eq]at s;refine xU G.flow n (Sep ops) s.1 s.2 D (Gw.reg u h) (λ_=>y) (λL h i j di dj d=>by rw[h]at d;cases d) (λk o L a w l r g A B E v=>stepS (Gw.reg u h) z l r g A B E v) λV w' l r g=>x V w' (λi d=>l i d rfl) (r 0 rfl) λi j d t m p q b c e=>?_
 obtain⟨L,a,C,f⟩:=g;obtain⟨di,b⟩:=Vu.1 b;obtain⟨dj,c⟩:=Vu.1 c;refine C i j di dj (f i d).1 (f j t).1 m p q b c ?_;rw[(f i d).2 di b,(f j t).2 dj c,e]
end RG
section
open Go.RowKit Go.Sort Go.Deep
variable {N:Nat}
theorem SLq.from{B:Nat}{W W':Ut}{x:Uv}{n:Nat}{a:Nat->Nat}(h:B<=W.heap.size)(b:SLq (W.heap.size<=·) W' x n a):SLq (B<=·) W' x n a:=b.mono λg k=>UE h k
def pZ(B n:Nat)(a:Nat->Nat):S1:=⟨λv w=>SLq (B<=·) w v n a/\∃g c,v=sZ g n c,λ_ _ _ k h=>⟨h.1.keep (Kq.of_below k),h.2⟩⟩
theorem wI{Q:Nat->Prop}{W:Ut}{g k n c:Nat}{a:Nat->Nat}{u:Uv}{r:List Uv}(h:SLq Q W (sZ g n c) n a)(j:0<n)(R:Row W k (u :: r))(f:u≠uZ ((a 0%18446744073709551616:Nat):Int)):g≠k:=by
 rintro rfl;obtain⟨l,o,m,e,-,-,-,d⟩:=h;injection e with e
 injection e with e
 injection e with e1 e2
 subst e1 e2;have b:=d 0 j 0 _ rfl;have i:=R.2.1 0 u rfl;rw[i]at b;exact f (UP.inj b)
theorem pO{B g k n c:Nat}{W:Ut}{a:Nat->Nat}(h:SLq (B<=·) W (sZ g n c) n a)(b:g≠k):SLq (B<=·) (W.setCells k 0 vs) (sZ g n c) n a:=by
 obtain⟨q,p,o,e,f,m,d,l⟩:=h;have e':=e;injection e with e
 injection e with e
 injection e with e1 e2
 subst e1;exact⟨g,p,o,e',f,m,by rw[setCells_size];exact d,λj i=>Vq (l j i) k 0 vs (U6 b)⟩
section
variable {P:VD}{ops:Array Vk}{rest:List Vk}{op:Vk}{a:Act}{w w':Ut}{Q:X9->Act->Ut->Prop}{T:Vb}{y:XM}{g o:Nat}{u:Uv}
theorem OD(t:WF)(i:Hid (w.setCells g o [u]=w'))(th:w.there g o 1)(d:(P.info? T).map (·.size)=some 1)(hv:u.cells=#[u])(f:u.oneCell'=true)(h:wpList P ops Q rest (a.put op.dst WJ) w')(k:op.guard=none:=by rfl)(ho:op.op=.store T (.tmp t) y:=by rfl)(hx:a.eval (.tmp t)=oZ g o:=by rfl)(j:a.eval y=u:=by rfl):wpList P ops Q (op :: rest) a w:=
 Xd k λK c=>by
  have b:=run_storeVar_mid (P:=P) w g o T #[u] th d (by simp[f]);have e:storeVar T ⟨g,o,none⟩ u=storeVar T ⟨g,o,none⟩ (.agg #[u]):=by
   unfold storeVar;rw[hv];rfl
  rw[show(#[u]:Array Uv).toList=[u] from rfl,i.out]at b;unfold VT U9;simp only[ho,hx,j,Instr.storeAt,Instr.sureAddr,UW,Sem.run_pure,Result.andThen_ok,e,b];exact c _ _ h
theorem inR{v:Uv}(t:WF)(I:Sem Uv)(c:I.run P w=.ok v w')(h:wpList P ops Q rest (a.put op.dst v) w')(hd:op.dst=some t:=by rfl)(k:op.guard=none:=by rfl)(d:U9 a.eval op=I >>= λv=>pure (Xq v):=by kernel_rfl):wpList P ops Q (op :: rest) a w:=
 Xd k λK b=>by
  unfold VT;rw[d,UW,c];exact b _ _ h
end
theorem SI(n:Nat)(w:Ut):(VF 124 1 #[(0,nv n)]).run prog w=.ok (sZ w.heap.size 1 1) (w.alloc (.cells (wn n).toArray 49)):=kR
theorem iSl:(prog.info? 124).map (·.size)=some 1:=kR
theorem zS{B:Nat}{cs:List Uv}(v:Uv)(W:Ut)(h:(RG.pN B cs).p v W):∃k,v=jZ k/\k<W.heap.size:=by
 obtain⟨k,b,-,c⟩:=h;exact⟨k,b,c.1⟩
theorem QQ(O:Ord N)(h2:2<N)(y z:Nat)(hy:y<N)(hz:z<N)(n:Nat)(hn:n<=512)(w:Ut)(Q:∀x g W,Row W g (wn x)->UK prog 148 #[sZ g 1 1,iZ n] W (rZ W λe W'=>SLq (W.heap.size<=·) W' e n (λ_=>x))):
 UK prog 71 #[nv y,nv z,iZ n] w (rZ w λe w'=>∃l r,e=.tuple #[l,r]/\SLq (w.heap.size<=·) w' l n (λ_=>sMi N 0 z)/\SLq (w.heap.size<=·) w' r n (λi=>sPl N (sTi N z (pwN N y i)) (sTi N (sTi N z z) (pwN N 2 i)))):=by
 obtain⟨vy,h5⟩:=hE (nv y);obtain⟨vz,I⟩:=hE (nv z);obtain⟨k3,hj⟩:=hE (w.heap.size);obtain⟨Z,hl⟩:=hE (w.alloc (.cells (wn y).toArray 49));obtain⟨k4,h8⟩:=hE (Z.heap.size);obtain⟨f,h9⟩:=hE (Z.alloc (.cells (wn z).toArray 49));have k5:Hid ((Vh 49 vy).run prog w=.ok (jZ k3) Z):=by rw[<-h5.out,<-hl.out,<-hj.out];exact boxS y w
 have hw:Hid ((Vh 49 vz).run prog Z=.ok (jZ k4) f):=by rw[<-I.out,<-h9.out,<-h8.out];exact boxS z Z
 have F1:=aN hj hl;have F2:=aN h8 h9;have R3:=F1.2.below F2.1;have b2:=F1.1.trans (F2.1.mono F1.1.size);rw[h5.out,I.out];have K:=mk3 b2 R3 F2.2;clear b2 R3 F1 F2;go_enter func71,ntmps71;go_wp2_with (first|(refine aF (u:=vy) (v:=jZ k3) (w':=Z) rfl _ (.tmp 0) rfl ?_ ?_ ?_;rfl;exact k5.out)|(refine aF (u:=vz) (v:=jZ k4) (w':=f) rfl _ (.tmp 1) rfl ?_ ?_ ?_;rfl;exact hw.out)|fail)
 obtain⟨b,hb⟩:=hE (f.heap.size);have D:∀ {W},kZ f W->b<=W.heap.size:=λh=>hb.out ▸ h.size
 refine(gwL [pE (nv y),pE (iZ n),pZ b n (pwN N y),pE (nv 2),pE (iZ n),pZ b n (pwN N 2),pE (nv z),pE (nv z),pE (nv (sTi N z z)),RG.pN b [.slice none 0 0],RG.pN b [.slice none 0 0],RG.pN b (RG.z 4)] (λW=>kZ f W) (λW W' hb h=>h.trans (hb.mono h.size))).tail3 12 (Kg [9,10,11] ⟨al1 [.slice none 0 0] 124 zS,al1 [.slice none 0 0] 124 zS,al1 (RG.z 4) 49 zS,yCm⟩) kR kR kR ⟨
  gLo 3 (λW c=>(K.2.1.below c).2.1) u40 i40,
  gO 2 (iZ n),
  eD 0 11 1 12 74 (λx y=>#[x,y]) (λx u W C F c=>by
   obtain rfl:x=nv y:=C;obtain rfl:u=iZ n:=F;exact(EL O y hy n hn W).mono λe W' ⟨v,j,h2,k,d⟩=>⟨v,j,h2,k.from (D c),d⟩),
  NR 70 #[uZ 2] (λW _=>zW 2 oM W),
  gO 2 (iZ n),
  eD 3 14 4 15 74 (λx y=>#[x,y]) (λx u W C F c=>by
   obtain rfl:x=nv 2:=C;obtain rfl:u=iZ n:=F;exact(EL O 2 h2 n hn W).mono λe W' ⟨v,j,h2,k,d⟩=>⟨v,j,h2,k.from (D c),d⟩),
  gLo 4 (λW c=>(K.2.2.below c).2.1) u40 i40,
  gLo 4 (λW c=>(K.2.2.below c).2.1) u40 i40,
  gC2 6 17 7 18 (λW=>iJ O z z hz hz W),
  xO [.slice none 0 0] 124 (λW W' h c=>⟨_,rfl,D c,h⟩),
  xO [.slice none 0 0] 124 (λW W' h c=>⟨_,rfl,D c,h⟩),
  xO (RG.z 4) 49 (λW W' h c=>⟨_,rfl,D c,h⟩),yCm⟩ ⟨rfl,rfl,rfl,Uy _,λ_ _=>rfl⟩ ?_
 intro V w3 hR c hD;obtain⟨S1,g1,c1,F⟩:=hR 2 dC;obtain⟨S2,g2,c2,e5⟩:=hR 5 dC;rw[F]at S1;rw[e5]at S2;have e8:V 8=nv (sTi N z z):=hR 8 dC;obtain⟨A,e9,l8,R8⟩:=hR 9 dC;obtain⟨a,G,l9,R9⟩:=hR 10 dC;obtain⟨k,J,hs,H⟩:=hR 11 dC;have d1:=hD 9 10 dC dC dC kR kR kR kR;have d2:=hD 9 11 dC dC dC kR kR kR kR;have d3:=hD 10 11 dC dC dC kR kR kR kR;dsimp only[bU,VO,Xn,Xo];simp only[UR,Uu,Uw,Ux];rw[F,e5,e8,e9,G,J];rw[e9,G]at d1;rw[e9,J]at d2;rw[G,J]at d3;have n1:A≠a:=λe=>d1 (by rw[e])
 have n2:A≠k:=λe=>d2 (by rw[e])
 have n3:a≠k:=λe=>d3 (by rw[e])
 clear d1 d2 d3 hD hR F e5 e8 e9 G J;generalize V 0=s0;generalize V 1=s1;generalize V 3=s3;generalize V 4=s4;generalize V 6=s6;generalize V 7=s7;obtain⟨q,hq⟩:=hE (sTi N z z);obtain⟨ka,R⟩:=hE (nv q);rw[hq.out,R.out];obtain⟨M,s⟩:=hE (sZ g1 n c1);obtain⟨T,B⟩:=hE (sZ g2 n c2);have x1:0<n->(g1≠A/\g1≠a/\g1≠k)/\g2≠A/\g2≠a/\g2≠k:=λE=>⟨⟨wI S1 E R8 (by simp),wI S1 E R9 (by simp),wI S1 E H (by simp[pwN])⟩,wI S2 E R8 (by simp),wI S2 E R9 (by simp),wI S2 E H (by simp[pwN])⟩
 obtain⟨U,p⟩:=hE (w3.setCells A 0 [M]);obtain⟨X,o⟩:=hE (U.setCells a 0 [T]);obtain⟨Y,h7⟩:=hE (X.setCells k 0 (wn q));have k1:=hb.out;have q8:Row U A [M]:=by rw[<-p.out];exact R8.put rfl
 have q9:Row U a [.slice none 0 0]:=by rw[<-p.out];exact R9.other (YL n1)
 have hg:Row U k (RG.z 4):=by rw[<-p.out];exact H.other (YL n2)
 have u8:Row X A [M]:=by rw[<-o.out];exact q8.other n1
 have u9:Row X a [T]:=by rw[<-o.out];exact q9.put rfl
 have u10:Row X k (RG.z 4):=by rw[<-o.out];exact hg.other (YL n3)
 have HT:Hid (w3.there A 0 1/\U.there a 0 1/\X.there k 0 (wn q).toArray.size):=⟨R8.2.2,q9.2.2,u10.2.2⟩
 have HV:Hid ((M.cells=#[M]/\M.oneCell'=true)/\T.cells=#[T]/\T.oneCell'=true):=by rw[<-s.out,<-B.out];exact⟨⟨rfl,rfl⟩,rfl,rfl⟩
 have t:Hid (kZ f Y/\Row Y A [M]/\Row Y a [T]/\Row Y k (wn q)/\(0<n->SLq (b<=·) Y M n (pwN N y)/\SLq (b<=·) Y T n (pwN N 2))):=by
  have j:kZ f U:=by rw[<-p.out];exact RG.below_setCells (by omega) _ _ _ c
  have B5:kZ f X:=by rw[<-o.out];exact RG.below_setCells (by omega) _ _ _ j
  rw[<-h7.out];refine⟨RG.below_setCells (by omega) _ _ _ B5,u8.other n2,u9.other n3,u10.put rfl,λE=>?_⟩;rw[<-o.out,<-p.out];obtain⟨⟨a1,a2,P⟩,S,d,L⟩:=x1 E;rw[<-s.out,<-B.out];exact⟨pO (pO (pO S1 a1) a2) P,pO (pO (pO S2 S) d) L⟩
 rw[s.out,B.out];clear x1 q8 q9 hg u8 u9 u10 c S1 S2 R8 R9 H n1 n2 n3 l8 l9 hs k1;refine OD (w:=w3) 8 p HT.1 iSl HV.1.1 HV.1.2 ?_;refine OD (w:=U) 9 o HT.2.1 iSl HV.2.1 HV.2.2 ?_;refine stR (w:=X) 10 h7 R HT.2.2 i40 (aM q) ?_;go_wp2_with (first|(refine ldR 4 (K.2.2.below t.1).2.1 I u40 i40 ?_)|fail)
 have HO:=mk1 (IX O hz Y);rw[I.out]at HO;refine HO.mono ?_;clear HO HT HV;rintro e w7 ⟨uu,rfl,S,rfl⟩;obtain⟨m,hm⟩:=hE (sMi N 0 z);rw[hm.out];obtain⟨vo,hc⟩:=hE (nv m);obtain⟨h6,L⟩:=hE (w7.heap.size);obtain⟨w8,ha⟩:=hE (w7.alloc (.cells (wn m).toArray 49));have hp:Hid ((VF 124 1 #[(0,vo)]).run prog w7=.ok (sZ h6 1 1) w8):=by rw[<-hc.out,<-ha.out,<-L.out];exact SI m w7
 have F8:=aN L ha;have b68:=mk1 (S.trans (F8.1.mono S.size));rw[hc.out];have HR:=mk1 (Q m h6 w8 F8.2);clear S Q;go_wp2_with (first|(refine inR 22 (VF 124 1 #[(0,vo)]) hp.out ?_)|fail)
 refine HR.mono ?_;clear HR;rintro e w9 ⟨lv,rfl,hk,he⟩;have d:=b68.trans (hk.mono b68.size);have b9:=mk1 (K.1.trans ((t.1.trans (d.mono t.1.size)).mono K.1.size));have KZ:=mk6 ((K.2.2.below t.1).below d) (t.2.1.below d) (t.2.2.2.1.below d) (t.2.2.1.below d) (λ(E:0<n)=>V4 ((t.2.2.2.2 E).1.keep (Kq.of_below d)) ((t.2.2.2.2 E).2.keep (Kq.of_below d))) b9;have lq:q<N:=by rw[<-hq.out];exact V6 _ O.pos
 have HL:=mk1 (jD n hn 150 #[jZ k4,jZ A,jZ k,jZ a] (λ_ _=>kR) (λi=>sPl N (sTi N z (pwN N y i)) (sTi N q (pwN N 2 i))) w9 λi W hi j=>by
  obtain⟨T1,T2⟩:=KZ.2.2.2.2.1 (by omega);rw[<-s.out]at T1;rw[<-B.out]at T2;have Ra:=(KZ.1.below j)
  have Rb:=(KZ.2.1.below j)
  have Rc:=(KZ.2.2.1.below j)
  have Rd:=(KZ.2.2.2.1.below j)
  rw[<-s.out]at Rb;rw[<-B.out]at Rd;obtain⟨k2,hr,hu,C,-,-,t1,f1⟩:=T1.keep (Kq.of_below j);obtain⟨P,k0,ht,F,-,-,t2,f2⟩:=T2.keep (Kq.of_below j);rw[C]at Rb;rw[F]at Rd;exact OK O z q (pwN N y i) (pwN N 2 i) hz lq (wS O y i) (wS O 2 i) i k4 A k a k2 hr n hu P k0 n ht hi hi W t1 t2 Ra Rb Rc Rd (f1 i hi) (f2 i hi))
 have k7:∀(fn:Fn) (first cap:Array Uv) (w:Ut),(YV fn first cap).run prog w=.ok (.func fn first cap) w:=λ_ _ _ _=>rfl
 have hS:=mk1 (SLq.from (UE K.1.size (UE t.1.size b68.size)) he);clear he hk d lq t;go_wp2_with fail
 refine HL.mono ?_;clear HL;rintro e k6 ⟨rv,rfl,C,P⟩;have KE:=mk3 (b9.trans (C.mono b9.size)) (hS.keep (Kq.of_below C)) (SLq.from b9.size P);clear hS P C KZ;go_wp2
 go_ret2
 rw[<-hm.out,<-hq.out]at KE;exact⟨_,rfl,KE.1,_,_,rfl,KE.2.1,KE.2.2⟩
end
section
open Go.RowKit Go.Sort Go.Deep
variable {P:Nat}[NeZero P]{N:Nat}
theorem Do{P:VD}(w:Ut)(u sT y k:Vb)(b o d g:Nat)(a:Wv)(c e s n:Nat)(cs:List Uv)
 (B:P.underlying u=some (.slice k)) (r:(P.info? k).map (·.size)=some s) (C:n=XV c d) (z:cs.length=n*s)
 (f:∀j v,cs[j]? = some v->w.cell? (a.add j)=some v) (t:w.there b o cs.length) (x:∀v∈cs,v.oneCell'=true) :
 (Ya #[u,sT] y #[.slice (some ⟨b,o,none⟩) d g,.slice (some a) c e]).run P w=.ok (goInt n) (w.setCells b o cs):=by
 have l:=run_loadCells_list (P:=P) w a cs f;have m:=run_storeCells_cells (P:=P) b o cs 0 w (λj q=>by rw[Xm];exact(t j q).1) (λj q=>by rw[Xm];exact(t j q).2) x;rw[z]at l;cases p:P.info? k with
 | none=>simp[p]at r
 | some i =>
  have A:i.size=s:=by simpa[p]using r
  simp[Ya,run_underlying B,Builtin.lenOf,Builtin.firstCells,sizeOf,typeInfo,p,A,<-C,l,m]
def cw(x i:Nat):Uv:=(wn x).getD (i%4) WJ
theorem PZ(x i:Nat):(cw x i).oneCell'=true:=by
 unfold cw;have:i%4=0\/i%4=1\/i%4=2\/i%4=3:=by omega
 rcases this with h|h|h|h<;>rw[h]<;>rfl
structure Rs(g m n x:Nat)(w:Ut):Prop where
 lt:g<w.heap.size
 th:w.there g 0 (4*m)
 c:∀i,i<4*n->w.cell? ⟨g,i,none⟩=some (cw x i)
theorem Rs.copy{g m n k r sl sc dc x:Nat}{w:Ut}(h:Rs g m n x w)(t:k=XV sl (m-n))(z:n<=m)(e:∀i,i<4*k->w.cell? ⟨r,i,none⟩=some (cw x i)):
 ∃w',(∀l,(Ya #[124,124] l #[.slice (some ⟨g,n*4,none⟩) (m-n) dc,sZ r sl sc]).run prog w=.ok (goInt k) w')/\Rs g m (n+k) x w'/\(∀B,B<=g->Below B w w'):=by
 have s:n+k<=m:=by have:XV sl (m-n)<=m-n:=Z9 _ _;omega
 obtain⟨cs,d⟩:∃cs,cs=(VB (4*k)).map (cw x):=⟨_,rfl⟩
 have q:cs.length=4*k:=by rw[d,US,List.length_range]
 have c:∀j,j<4*k->cs[j]? = some (cw x j):=λj b=>by rw[d,Vy,Zy b];rfl
 have p:w.there g (n*4) cs.length:=λj b=>by
  have:=h.th (n*4+j) (by omega);rwa[UF]at this
 refine⟨w.setCells g (n*4) cs,λl=>Do w _ _ l 49 g (n*4) (m-n) dc (aZ r) sl sc 4 k cs uS4 i40 t (by omega) (λj v b=>?_) p (λv hv=>?_),⟨by rw[setCells_size];exact h.lt,V7 h.th _ _ _,λi y=>?_⟩,λB u=>RG.below_setCells u _ _ _ (UT _ _)⟩
 ·have f:j<4*k:=by have:=(UG.1 b).1;omega
  rw[c j f]at b;rw[Addr.add_mid,UF,e j f];exact b
 ·rw[d]at hv;obtain⟨i,-,rfl⟩:=Vn.1 hv;exact PZ x i
 ·by_cases f:i<4*n
  ·rw[World.cell?_setCells_out g cs (n*4) w ⟨g,i,none⟩ (λ_ _=>U6 (by show i<n*4;omega))];exact h.c i f
  ·have b:i-n*4<cs.length:=by omega
   have o:=World.cell?_setCells_in g cs (n*4) w (λj b=>(p j b).1) (i-n*4) b;rw[show n*4+(i-n*4)=i by omega]at o;rw[o,<-UI b,c _ (by omega)];unfold cw;rw[show(i-n*4)%4=i%4 by omega]
theorem Pk(m:Nat)(c:m<=1000)(w:Ut):UK prog 174 #[uZ 1,uZ m] w λe w'=>e=.returned (.tuple #[uZ 0,uZ m])/\w'=w:=by
 have d:bits .and .u64 1 4294967295=1:=rfl;have a2:bits .and .u64 (m:Int) 4294967295=(m:Int):=by
  have h:=bits_and_u64_nat m 4294967295 (by omega) (by omega);rw[show(4294967295:Nat)=2^32-1 from rfl,Nat.and_two_pow_sub_one_eq_mod,UU (by omega)]at h;exact h
 have a0:bits .and .u64 0 4294967295=0:=rfl;have k:(m:Int)/4294967296=0:=by omega
 have b:Vw.wrap (m:Int)=(m:Int):=by rw[XJ];omega
 go_enter func174,ntmps174;go_wp2
 go_ret2
 exact⟨rfl,rfl⟩
theorem Pj(m:Nat)(k:m<=1000)(w:Ut):UK prog 211 #[uZ 1,uZ m] w λe w'=>e=.returned (.tuple #[uZ 0,uZ m])/\w'=w:=by
 have h:=Pk m k w;go_enter func211,ntmps211;go_wp2_with fail
 refine h.mono ?_;rintro e w' ⟨rfl,rfl⟩;clear h;go_wp2
 go_ret2
 exact⟨rfl,rfl⟩
theorem BK{P:VD}{k:Array Vk}{o:Vk}{a:Act}{w:Ut}{Q:X9->Act->Ut->Prop}{E:Prop}(f:o.guard=none)(d s:XM)(t b:Vb)
 (ho:o.op=.call { callee:=.builtin .copy,args:=#[d,s],argTypes:=#[t,b] }) (v u:Uv) (hd:a.eval d=v) (e:a.eval s=u)
 (c:Uv) (w':Ut) (g:(Ya #[t,b] o.type #[v,u]).run P w=.ok c w') (h:K (a.put o.dst c) w'):if V5 o (yielded k a.tmps)=true then VT P o a w K Q else E:=by
 have c:V5 o (yielded k a.tmps)=true:=by simp[V5,f]
 rw[yCk c];exact Lib.wp_copy_run w d s t b ho v u hd e g h
theorem IF(x r m:Nat)(W:m<=512)(w:Ut)(hR:Row w r (wn x)):
 UK prog 148 #[.slice (some ⟨r,0,none⟩) 1 1,.int .i64 m] w (Ret λe w'=>Below w.heap.size w w'/\SLq (w.heap.size<=·) w' e m (λ_=>x)):=by
 have M:=Pj m (by omega) w;have X:¬(m:Int)<0:=by omega
 have Y:Vw.wrap (m:Int)=(m:Int):=by rw[XJ];omega
 have Z:¬(9223372036854775807:Int)<(m:Int):=by omega
 obtain⟨C0,B,z⟩:=Cj uS4 iS4 m W;obtain⟨g,u⟩:=hE (w.heap.size);obtain⟨N,s⟩:=hE (w.alloc (.cells C0.toArray 49));have F:=aN u s;have C:Rs g m 0 x N:=⟨F.2.1,by have:=F.2.2.2;rwa[B]at this,λi G=>absurd G (Ys _)⟩
 have f:=hR.below F.1;have y:∀i,i<4->N.cell? ⟨r,i,none⟩=some (cw x i):=λi G=>by
  have L:i=0\/i=1\/i=2\/i=3:=by omega
  rcases L with rfl|rfl|rfl|rfl
  ·exact f.2.1 0 _ rfl
  ·exact f.2.1 1 _ rfl
  ·exact f.2.1 2 _ rfl
  ·exact f.2.1 3 _ rfl
 obtain⟨a,d,c,l⟩:=C.copy (k:=XV 1 m) (r:=r) (sl:=1) (sc:=1) (dc:=m) (by rw[Y8]) (Wz _) (λi G=>y i (by have:XV 1 m<=1:=yAj _ _;omega));rw[Y8,ZW]at d;rw[UF]at c;have O:Hid (Below w.heap.size w a/\Rs g m (XV 1 m) x a):=⟨F.1.trans (l _ (YC u.out)),c⟩
 have J:XV 1 m<=m:=Z9 _ _;have H:0<m->0<XV 1 m:=λh=>by show 0<min 1 m;omega
 have b:=d 3;have p:=z w;rw[s.out,u.out]at p;generalize XV 1 m=Q at *;unfold goInt at b;clear C f hR y l c d F z B s;go_enter func148,ntmps148;go_wp2_with fail
 refine M.mono ?_;rintro e w' ⟨rfl,rfl⟩;clear M;go_wp2_with (at_builtin;refine Lib.wpList_copy_run _ rfl _ _ 124 124 rfl _ _ rfl rfl b ?_)
 clear b p;go_loopg [8] m (λgk s8 wr=>∃n:Nat,n<=m/\(0<m->0<n)/\m<=n+gk/\s8=.int .i64 n/\Hid (Below w'.heap.size w' wr/\Rs g m n x wr))
 case atStart=>exact⟨Q,J,H,by omega,rfl,O⟩
 case round =>
  clear O;obtain⟨n,E,P,T,rfl,o⟩:=hrel;by_cases I:n<m
  ·have A:(n:Int)<(m:Int):=by omega
   have U:0<XV n (m-n):=by show 0<min n (m-n);omega
   have K:n+XV n (m-n)<=m:=by show n+min n (m-n)<=m;omega
   have S:XV n (m-n)<=n:=yAj _ _;have q:Rs g m n x wr.drew:=⟨o.2.lt,o.2.th,o.2.c⟩
   obtain⟨a,d,c,l⟩:=q.copy (k:=XV n (m-n)) (r:=g) (sl:=n) (sc:=m) (dc:=m-n) rfl E (λi G=>q.c i (by omega));have b:=d 3;have R:=Dl g 0 m m n E;have D:=Dk g 0 m m n I (Uy _);rw[UF]at D;have V:Hid (Below w'.heap.size w' a/\Rs g m (n+XV n (m-n)) x a):=⟨o.out.1.drew.trans (l _ (YC u.out)),c⟩
   generalize XV n (m-n)=k at *;unfold goInt at b;clear d c l q o;go_wp2_with fail
   go_region_law (refine BK rfl (.tmp 41) (.tmp 44) 124 124 rfl (.slice (some ⟨g,n*4,none⟩) (m-n) (m-n)) (.slice (some ⟨g,0,none⟩) n m) (by simp[Act.eval,UR]) (by simp[Act.eval,UR]) _ _ b ?_)
   go_wp2;go_roundg (gk-1)
   case measure=>omega
   case rel=>exact⟨n+k,K,λ_=>by omega,by omega,congrArg (V2 VY) (show VY.wrap ((n:Int)+(k:Int))=((n+k:Nat):Int) by rw[Yp];omega),V⟩
  ·have A:¬(n:Int)<(m:Int):=by omega
   obtain rfl:n=m:=by omega
   have D:Hid (Below w'.heap.size w' wr/\SLq (w'.heap.size<=·) wr (.slice (some ⟨g,0,none⟩) n n) n (λ_=>x)):=⟨o.1,g,0,n,rfl,Uy _,YC u.out,o.2.lt,λj K t v q=>by
    have L:t<4:=(UG.1 q).1;rw[UF,o.2.c (4*j+t) (by omega)];unfold cw;rw[show(4*j+t)%4=t by omega,List.getD_eq_getElem?_getD,q];rfl⟩
   clear o;go_wp2;go_ret;exact⟨_,rfl,D.out⟩
theorem EF(O:Ord N)(c:2<N)(y z:Nat)(d:y<N)(b:z<N)(n:Nat)(k:n<=512)(w:Ut):
 UK prog 71 #[nv y,nv z,iZ n] w (rZ w λe w'=>∃l r,e=.tuple #[l,r]/\SLq (w.heap.size<=·) w' l n (λ_=>sMi N 0 z)/\SLq (w.heap.size<=·) w' r n (λi=>sPl N (sTi N z (pwN N y i)) (sTi N (sTi N z z) (pwN N 2 i)))):=
 QQ O c y z d b n k w λx g W hR=>IF x g n k W hR
def oQ(N y:Nat)(H:Nat->List (Nat × Bs))(i:Nat):List (Nat × Bs):=(H i).map (tmT N (pwN N (sIn N y) i))
theorem H9(O:Ord N){Q:Nat->Prop}(n:Nat)(hw:0<n)(hn:n<=64)(G H:Nat->List (Nat × Bs))(U:List (Nat × Bs))(hH:∀i,i<n->TOk N (H i)/\(H i).length<=512)(hU:TOk N U)(k0:U.length<=512)(y z:Nat)(hy:y<N)(hz:z<N)(v:Uv)(w:Ut)(hQ:∀g,w.heap.size<=g->Q g)(h0:GRq Q w v n G H U):
 UK prog 84 #[v,nv y,nv z] w (rZ w λe w'=>GRq Q w' e n G (oQ N y H) (U.map (tmT N z))):=by
 obtain⟨vg,vh,vu,rfl,h3,h4,h5⟩:=h0.ex;obtain⟨C,D,J,eg⟩:∃g o c,vg=.slice (some ⟨g,o,none⟩) n c:=by obtain⟨g,o,c,h,-⟩:=h3;exact⟨g,o,c,h⟩
 subst eg;have ka:vu.oneCell'=true:=h5.one.2;obtain⟨K,I,ch,rfl,kb,kf,h7,hm⟩:=h4;obtain⟨M,B⟩:=hE (sIn N y);have k2:M<N:=by rw[<-B.out];exact V6 _ O.pos
 have HI:=mk1 (λW=>uR O y hy W);rw[B.out]at HI;obtain⟨vy,h8⟩:=hE (nv y);obtain⟨vz,A⟩:=hE (nv z);obtain⟨k,hk⟩:=hE (w.heap.size);obtain⟨w1,hu⟩:=hE (w.alloc (.cells [.slice (some ⟨C,D,none⟩) n J,.slice (some ⟨K,I,none⟩) n ch,vu].toArray 133));obtain⟨k4,he⟩:=hE (w1.heap.size);obtain⟨w2,hj⟩:=hE (w1.alloc (.cells (wn y).toArray 49));obtain⟨k5,hq⟩:=hE (w2.heap.size);obtain⟨w3,ha⟩:=hE (w2.alloc (.cells (wn z).toArray 49));obtain⟨k6,Z⟩:=hE (w3.heap.size);obtain⟨r,ht⟩:=hE (w3.alloc (.cells [.slice none 0 0,.slice none 0 0,.slice none 0 0].toArray 133));have f:=Ng hk hu he hj hq ha;have g6:=aN Z ht;have F:=mk5 (f.1.trans (g6.1.mono f.1.size)) (f.2.1.below g6.1) (f.2.2.1.below g6.1) (f.2.2.2.below g6.1) g6.2;have X:w.heap.size<=k6:=by rw[<-Z.out];exact f.1.size
 obtain⟨v0,h9⟩:=hE (U5 #[.slice (some ⟨C,D,none⟩) n J,.slice (some ⟨K,I,none⟩) n ch,vu]);have B0:Hid ((Vh 133 v0).run prog w=.ok (jZ k) w1):=by rw[<-h9.out,<-hu.out,<-hk.out];exact CN _ _ _ _
 have B1:Hid ((Vh 49 vy).run prog w1=.ok (jZ k4) w2):=by rw[<-h8.out,<-hj.out,<-he.out];exact boxS y w1
 have B2:Hid ((Vh 49 vz).run prog w2=.ok (jZ k5) w3):=by rw[<-A.out,<-ha.out,<-hq.out];exact boxS z w2
 rw[h8.out,A.out,h9.out];have HT:=mk2 hH (λ(W:Ut) (d:Below w.heap.size w W)=>eG O hz 0 vu U k0 hU.szm hU.lt W (h5.sm.grow d));rw[A.out]at HT;have T:=mk2 hm h7;have HK:=mk3 h3 hQ B;clear f g6 hm h7 hH hU h0 h3 h5;go_enter func84,ntmps84;go_wp2_with (first|(refine aF (u:=v0) (v:=jZ k) (w':=w1) rfl _ (.tmp 0) rfl ?_ ?_ ?_;rfl;exact B0.out)|(refine aF (u:=vy) (v:=jZ k4) (w':=w2) rfl _ (.tmp 1) rfl ?_ ?_ ?_;rfl;exact B1.out)|(refine aF (u:=vz) (v:=jZ k5) (w':=w3) rfl _ (.tmp 2) rfl ?_ ?_ ?_;rfl;exact B2.out)|(refine alR 6 Z ht ?_)|fail)
 obtain⟨b,d⟩:=hE (r.heap.size);have hs:∀ {W},Below r.heap.size r W->b<=W.heap.size:=λh=>d.out ▸ h.size
 refine(gwL [pE (nv y),pE (nv M),pE (.pointer (some ⟨k,1,none⟩)),pE (.slice (some ⟨K,I,none⟩) n ch),pE (iZ n),pZ b n (pwN N M),RG.pN b [.slice none 0 0]] (λW=>Below r.heap.size r W) (λW W' d h=>h.trans (d.mono h.size))).tail2 7 kR kR kR ⟨
  gLo 4 (λW s=>(F.2.2.1.below s).2.1) u40 i40,
  oW 0 9 159 (λx=>#[x]) (λx W j s=>by
   obtain rfl:x=nv y:=j;exact HI W),
  gP 3 (jZ k) (.pointer (some ⟨k,1,none⟩)),
  fG 129 2 11 k 1 (.slice (some ⟨K,I,none⟩) n ch) uGL (λx W h=>h) (λW s=>(F.2.1.below s).2.1 1 _ rfl) (λ_=>rfl),
  rE 3 12 (.slice (some ⟨K,I,none⟩) n ch) (iZ n) (λx W h=>h) (λ_=>rfl),
  eD 1 10 4 13 74 (λx y=>#[x,y]) (λx u W j l s=>by
   obtain rfl:x=nv M:=j;obtain rfl:u=iZ n:=l;exact(EL O M k2 n (by omega) W).mono λe W' ⟨v,E,t,h3,h4⟩=>⟨v,E,t,h3.from (hs s),h4⟩),
  xO [.slice none 0 0] 124 (λW W' h s=>⟨_,rfl,hs s,h⟩),yCm⟩ ⟨rfl,rfl,rfl,Uy _,λ_ _=>rfl⟩ ?_
 intro V w5 hR s;obtain⟨S1,g1,c1,e5⟩:=hR 5 dC;rw[e5]at S1;obtain⟨k7,e6,l7,R7⟩:=hR 6 dC;dsimp only[bU,VO,Xn,Xo];simp only[UR,Uu,Uw,Ux];rw[e5,e6];clear hR e5 e6;generalize V 0=s0;generalize V 1=s1;generalize V 2=s2;generalize V 3=s3;generalize V 4=s4;have n7:g1≠k7:=wI S1 hw R7 (by simp);obtain⟨l1,R⟩:=hE (Value.slice (some (aZ g1)) n c1);obtain⟨w6,hc⟩:=hE (w5.setCells k7 0 [l1]);have E:Hid (Below r.heap.size r w6/\Row w6 k7 [l1]/\SLq (b<=·) w6 l1 n (pwN N M)):=by
  rw[<-hc.out,<-R.out];exact⟨RG.below_setCells (by rw[d.out];exact l7) _ _ _ s,R7.put rfl,pO S1 n7⟩
 have S:=mk2 R7.2.2 (show l1.cells=#[l1]/\l1.oneCell'=true by rw[<-R.out];exact⟨rfl,rfl⟩);rw[R.out];clear S1 R7 n7 s l7;refine OD (w:=w5) 7 hc S.1 iSl S.2.1 S.2.2 ?_;have kc:w6.cell? ⟨k,1,none⟩=some (.slice (some ⟨K,I,none⟩) n ch):=(F.2.1.below E.1).2.1 1 _ rfl;have ke:∀(fn:Fn) (first cap:Array Uv) (w:Ut),(YV fn first cap).run prog w=.ok (.func fn first cap) w:=λ_ _ _ _=>rfl
 have Y:=F.1.trans (E.1.mono F.1.size);have HL:=mk1 (Aa n (by omega) 163 #[jZ k,jZ k7] (λ_ _=>kR) (oQ N y H) w6 λi W hi t=>by
  have bb:=Y.trans (t.mono Y.size);obtain⟨x,l,P⟩:=T.1 i hi;have T1:=E.2.2.keep (Kq.of_below t);have Rb:=E.2.1.below t;obtain⟨k9,L,k8,j,-,-,t1,f1⟩:=T1;rw[j]at Rb;have hT:=Oy O (H i) (HT.1 i hi).1 (HT.1 i hi).2 (pwN N M i) (wS O M i) i k k7 K I n ch k9 L n k8 _ vu x hi hi W (Uz T.2 bb.size) t1 ((F.2.1.below E.1).below t) Rb (by rw[Xj,bb.cell (p:=⟨K,I+i,none⟩) T.2];exact l) (P.sm.grow bb) (f1 i hi);rw[<-B.out]at hT;exact hT)
 clear Y;go_wp2_with fail
 refine HL.mono ?_;clear HL;rintro e w7 ⟨vn,rfl,h6,P⟩;have hl:=E.1.trans (h6.mono E.1.size);obtain⟨gn,on,cn,en⟩:∃g o c,vn=.slice (some ⟨g,o,none⟩) n c:=by obtain⟨g,o,c,h,-⟩:=P;exact⟨g,o,c,h⟩
 subst en;have L:=mk3 hl (P.mono (Q':=(r.heap.size<=·)) λg hg=>UE E.1.size hg) X;clear h6 P hl;go_wp2_with fail
 refine AW.begin 8 8 ?_;refine AW.va 0 (jZ k) ?_;refine AW.ce 1 uGL (λW d=>((F.2.1.below L.1).below d).2.1 0 _ rfl) ?_;refine AW.mv 2 ?_;refine AW.va 3 (.pointer (some ⟨k,2,none⟩)) ?_;refine AW.ce 4 AC (λW d=>((F.2.1.below L.1).below d).2.1 2 _ rfl) ?_;refine AW.ro 5 (λW d=>((F.2.2.2.1.below L.1).below d).2.1) A u40 i40 ?_;have j:=mk1 (F.1.trans (L.1.mono F.1.size));refine AW.ca 6 (λd=>HT.2 _ (j.trans (d.mono j.size))) (λe w' h=>h.1) ?_;rintro e w8 ⟨kd,hr⟩;simp only[UR,Uu,Uw,Ux];obtain⟨ge,me,ce,ee⟩:∃g m c,e=.slice (some (aZ g)) m c:=by obtain⟨g,c,h,-⟩:=hr;exact⟨g,_,c,h⟩
 subst ee;refine AW.nx 7 (.agg #[.slice (some ⟨C,D,none⟩) n J,.slice (some ⟨gn,on,none⟩) n cn,.slice (some (aZ ge)) me ce]) ?_;refine AW.fi (us:=[.slice (some ⟨C,D,none⟩) n J,.slice (some ⟨gn,on,none⟩) n cn,.slice (some (aZ ge)) me ce]) (Hid.mk' rfl) kR iGr (λd=>?_);obtain⟨w9,l⟩:=hE (w8.setCells k6 0 [.slice (some ⟨C,D,none⟩) n J,.slice (some ⟨gn,on,none⟩) n cn,.slice (some (aZ ge)) me ce]);have KE:Hid (w8.there k6 0 3/\Row w9 k6 [.slice (some ⟨C,D,none⟩) n J,.slice (some ⟨gn,on,none⟩) n cn,.slice (some (aZ ge)) me ce]/\Below w.heap.size w w9/\GRq Q w9 (.agg #[.slice (some ⟨C,D,none⟩) n J,.slice (some ⟨gn,on,none⟩) n cn,.slice (some (aZ ge)) me ce]) n G (oQ N y H) (U.map (tmT N z))):=by
  have k3:=L.1.trans (d.mono L.1.size);have r6:=F.2.2.2.2.below k3;have l6:k6<r.heap.size:=F.2.2.2.2.1;have kq:Kq (r.heap.size<=·) w8 w9:=by rw[<-l.out];exact Kq.set λg hg=>by omega
  have k1:Kq Q w w9:=by
   have hp:Below w.heap.size w (w8.setCells k6 0 [.slice (some ⟨C,D,none⟩) n J,.slice (some ⟨gn,on,none⟩) n cn,.slice (some (aZ ge)) me ce]):=RG.below_setCells X _ _ _ (j.trans (d.mono j.size));rw[l.out]at hp;exact Kq.of_below hp
  rw[<-l.out];refine⟨r6.2.2,r6.put rfl,RG.below_setCells X _ _ _ (j.trans (d.mono j.size)),?_⟩;rw[l.out];have q:∀g,r.heap.size<=g->Q g:=λg hg=>HK.2.1 g (UE F.1.size hg)
  exact⟨_,_,_,rfl,HK.1.keep k1,((L.2.1.keep (Kq.of_below d)).keep kq).mono q,((hr.q.mono λg hg=>UE L.1.size hg).keep kq).mono q⟩
 rw[l.out];refine⟨KE.1,?_⟩;go_wp2_with fail
 refine UH (aG 6 133 rfl KE.2.1 rfl uGr iGr) rfl ?_;exact⟨_,rfl,KE.2.2.1,KE.2.2.2⟩
end
section
open Go.RowKit Go.Sort Go.Deep
variable {N:Nat}
section
variable {P:VD}{ops:Array Vk}{Q:X9->Act->Ut->Prop}{p r:Nat}{I:Iv}{fuel:Nat}{o:Vk}{listed:Array Bool}{a:Act}{w:Ut}{d:Option WF}
theorem AW.fc{R:Uv->Ut->Prop}(c:I.p w->UK P f args w (Ret R))(h:∀e w',I.p w->R e w'->Q .normal (a.put d e) w')(ho:ops[p]? = some o:=by(simp only[Vm,Vf,Vl])<;>rfl)(hd:o.dst=d:=by rfl)(g:o.guard=none:=by rfl)(hx:(U9 a.eval o).run P w=.ok (.enter f args) w:=by kernel_rfl)(k:(U7 .any ops listed,U7 .any ops (listed.setIfInBounds p true),I.b,(listed.setIfInBounds p true).getD p false,(listed.setIfInBounds p true).getD r false)=([p],[],true,true,true):=by kernel_rfl):AW P ops Q p r I (fuel+1) listed a w:=λb=>by
 simp only[We.injEq]at k;exact anyS.cal ho (c b) (λe w' hR=>⟨U6 k.2.2,anyS.done k.2.1 (h e w' b hR) _⟩) k.1 g hx hd
end
theorem rnF{W:Ut}{k o:Nat}(h:W.rangeAt k o (xs++ys)):W.rangeAt k o xs:=λj v b=>h j v (by rw[UX (UG.1 b).1];exact b)
theorem rnB{W:Ut}{k o m:Nat}(h:W.rangeAt k o (xs++ys))(b:o+xs.length=m):W.rangeAt k m ys:=λj v c=>by
 have:=h (xs.length+j) v (by rw[U4 (by omega),WH];exact c);rw[<-WY,b]at this;exact this
theorem rnC{W:Ut}{k o m:Nat}(d:W.rangeAt k o xs)(e:W.rangeAt k m ys)(c:o+xs.length=m):W.rangeAt k o (xs++ys):=λj v b=>by
 by_cases h:j<xs.length
 ·exact d j v (by rwa[UX h]at b)
 ·rw[U4 (by omega)]at b;have:=e (j-xs.length) v b;rwa[<-c,WY,Nat.add_sub_cancel' (by omega)]at this
theorem Row.mid{W:Ut}{k m:Nat}{zs l l':List Uv}(h:Row W k l)(e:l=xs++(ys++zs))(e':l'=xs++(us++zs))(f:us.length=ys.length)(i:xs.length=m):W.there k m us.length/\Row (W.setCells k m us) k l':=by
 subst e e' i;obtain⟨g,d,b⟩:=h;have c:W.there k xs.length us.length:=λj n=>by
  have:=b (xs.length+j) (by simp only[UB];omega);rwa[UF]at this
 have z:=UF xs.length;refine⟨c,by rw[setCells_size];exact g,rnC (Vq (rnF d) k _ us (U2 (U6 (by omega)))) (rnC (World.rangeAt_setCells_same W k _ us c) (Vq (rnB (rnB d z) rfl) k _ us (U2 (U2 (by omega)))) (by rw[f])) z,?_⟩;have:=V7 b k xs.length us;simp only[UB,f]at this⊢;exact this
structure Rp where
 a:Bs
 s:Bs
 c:Bs
 d:Bs
 u:Nat
 m:Nat
 t:Nat
namespace Rp
def l(p:Rp):List Uv:=aA p.a++(aA p.s++(aA p.c++(aA p.d++(wn p.u++(wn p.m++wn p.t)))))
structure Ok(p:Rp):Prop where
 a:p.a.size=33
 s:p.s.size=33
 c:p.c.size=33
 d:p.d.size=33
variable {p:Rp}{W:Ut}{k:Nat}
theorem len(h:p.Ok):p.l.length=144:=by
 unfold l;simp only[UB,aB h.a,aB h.s,aB h.c,aB h.d];rfl
theorem one(p:Rp):p.l.toArray.all (·.oneCell')=true:=by
 unfold l;have h:∀b:Bs,(aA b).all (·.oneCell')=true:=λb=>by have:=bW b;rwa[XP]at this
 have k:∀n,(wn n).all (·.oneCell')=true:=λn=>by have:=aM n;rwa[XP]at this
 rw[XP];simp only[List.all_append,h,k,yAn]
theorem at7(h:p.Ok)(d:W.rangeAt k 0 p.l):W.rangeAt k 0 (aA p.a)/\W.rangeAt k 33 (aA p.s)/\W.rangeAt k 66 (aA p.c)/\W.rangeAt k 99 (aA p.d)/\W.rangeAt k 132 (wn p.u)/\W.rangeAt k 136 (wn p.m)/\W.rangeAt k 140 (wn p.t):=by
 have f:=rnB (m:=33) d (by rw[aB h.a]);have g:=rnB (m:=66) f (by rw[aB h.s]);have e:=rnB (m:=99) g (by rw[aB h.c]);have b:=rnB (m:=132) e (by rw[aB h.d]);have c:=rnB (m:=136) b rfl;have i:=rnB (m:=140) c rfl;exact⟨rnF d,rnF f,rnF g,rnF e,rnF b,rnF c,i⟩
theorem TA(h:p.Ok)(b:Row W k p.l){x:Bs}(hx:x.size=33):W.there k 0 (aA x).length/\Row (W.setCells k 0 (aA x)) k { p with a:=x }.l/\{ p with a:=x }.Ok:=by
 obtain⟨c,d⟩:=Row.mid (xs:=[]) (us:=aA x) (l':={ p with a:=x }.l) b rfl rfl (by rw[aB hx,aB h.a]) rfl;exact⟨c,d,hx,h.s,h.c,h.d⟩
theorem sets(h:p.Ok)(b:Row W k p.l){x:Bs}(hx:x.size=33):W.there k 33 (aA x).length/\Row (W.setCells k 33 (aA x)) k { p with s:=x }.l/\{ p with s:=x }.Ok:=by
 obtain⟨c,d⟩:=Row.mid (xs:=aA p.a) (us:=aA x) (l':={ p with s:=x }.l) b rfl rfl (by rw[aB hx,aB h.s]) (aB h.a);exact⟨c,d,h.a,hx,h.c,h.d⟩
theorem Ty(h:p.Ok)(b:Row W k p.l){x:Bs}(hx:x.size=33):W.there k 66 (aA x).length/\Row (W.setCells k 66 (aA x)) k { p with c:=x }.l/\{ p with c:=x }.Ok:=by
 obtain⟨d,e⟩:=Row.mid (m:=66) (xs:=aA p.a++aA p.s) (ys:=aA p.c) (zs:=aA p.d++(wn p.u++(wn p.m++wn p.t))) (us:=aA x) (l':={ p with c:=x }.l) b (by unfold l;simp only[VC]) (by unfold l;simp only[VC]) (by rw[aB hx,aB h.c]) (by rw[UB,aB h.a,aB h.s]);exact⟨d,e,h.a,h.s,hx,h.d⟩
theorem Tx(h:p.Ok)(b:Row W k p.l){x:Bs}(hx:x.size=33):W.there k 99 (aA x).length/\Row (W.setCells k 99 (aA x)) k { p with d:=x }.l/\{ p with d:=x }.Ok:=by
 obtain⟨c,e⟩:=Row.mid (m:=99) (xs:=aA p.a++(aA p.s++aA p.c)) (ys:=aA p.d) (zs:=wn p.u++(wn p.m++wn p.t)) (us:=aA x) (l':={ p with d:=x }.l) b (by unfold l;simp only[VC]) (by unfold l;simp only[VC]) (by rw[aB hx,aB h.d]) (by simp only[UB,aB h.a,aB h.s,aB h.c]);exact⟨c,e,h.a,h.s,h.c,hx⟩
theorem Tu(h:p.Ok)(b:Row W k p.l)(x:Nat):W.there k 132 (wn x).length/\Row (W.setCells k 132 (wn x)) k { p with u:=x }.l/\{ p with u:=x }.Ok:=by
 obtain⟨c,d⟩:=Row.mid (m:=132) (xs:=aA p.a++(aA p.s++(aA p.c++aA p.d))) (ys:=wn p.u) (zs:=wn p.m++wn p.t) (us:=wn x) (l':={ p with u:=x }.l) b (by unfold l;simp only[VC]) (by unfold l;simp only[VC]) rfl (by simp only[UB,aB h.a,aB h.s,aB h.c,aB h.d]);exact⟨c,d,h.a,h.s,h.c,h.d⟩
theorem Tw(h:p.Ok)(b:Row W k p.l)(x:Nat):W.there k 136 (wn x).length/\Row (W.setCells k 136 (wn x)) k { p with m:=x }.l/\{ p with m:=x }.Ok:=by
 obtain⟨c,d⟩:=Row.mid (m:=136) (xs:=aA p.a++(aA p.s++(aA p.c++(aA p.d++wn p.u)))) (ys:=wn p.m) (zs:=wn p.t) (us:=wn x) (l':={ p with m:=x }.l) b (by unfold l;simp only[VC]) (by unfold l;simp only[VC]) rfl (by simp only[UB,aB h.a,aB h.s,aB h.c,aB h.d];rfl);exact⟨c,d,h.a,h.s,h.c,h.d⟩
theorem Tv(h:p.Ok)(b:Row W k p.l)(x:Nat):W.there k 140 (wn x).length/\Row (W.setCells k 140 (wn x)) k { p with t:=x }.l/\{ p with t:=x }.Ok:=by
 obtain⟨c,d⟩:=Row.mid (m:=140) (xs:=aA p.a++(aA p.s++(aA p.c++(aA p.d++(wn p.u++wn p.m))))) (ys:=wn p.t) (zs:=[]) (us:=wn x) (l':={ p with t:=x }.l) b (by unfold l;simp only[VC,XC]) (by unfold l;simp only[VC,XC]) rfl (by simp only[UB,aB h.a,aB h.s,aB h.c,aB h.d];rfl);exact⟨c,d,h.a,h.s,h.c,h.d⟩
end Rp
theorem uRd:(prog.underlying 137).map (·.isRow)=some true:=kR
theorem iRd:(prog.info? 137).map (·.size)=some 144:=kR
theorem J5{p:Rp}(h:p.Ok)(w:Ut):(Vh 137 (.agg p.l.toArray)).run prog w=.ok (jZ w.heap.size) (w.alloc (.cells p.l.toArray 137)):=by
 unfold Rp.l;rw[dH h.a,dH h.s,dH h.c,dH h.d];kernel_rfl
theorem OL(r:Nat)(L:Bs)(k:ByteArray)(f:Option Wv)(d g:Nat)(b:List UInt8)(w:Ut)(c:k.size<=1048576)(j:Holds encB w r 0 L)(i:L.size=32)(o:PartOk w (.slice f d g) b):
 UK prog 145 #[jZ r,.string k,.slice f d g] w (Ret λe w'=>e=.tuple #[]/\SP.Only r 0 32 w w'/\Holds encB w' r 0 (uM L k.data.toList b)):=
 (Br r L k f d g b w c (OI j) i o).mono λ_ _ ⟨m,n,l⟩=>⟨_,m,rfl,n,OH l⟩
def bgL(V:Bs)(n:Nat)(A S:Bs):Bs:=jY [102,105,114,115,116] [115,101,99,111,110,100] (uM (uM (newL [114,97,110,103,101]) [99,111,109,109,105,116] V.toList) [98,105,116,115] [bV n 1]) A S
structure BgI(w W:Ut)(k r:Nat)(p:Rp)(V:Bs)(y z:Nat)(L:Bs):Prop where
 bl:kZ w W
 r3:Row W k p.l
 r4:Row W (k+1) (aA V)
 r6:Row W (k+2) [jZ r]
 r7:Row W (k+3) (wn y)
 r8:Row W (k+4) (wn z)
 rk:w.heap.size=k/\k+5<=r
 lg:Holds encB W r 0 L
 ls:L.size=32
section
variable {w W W':Ut}{k r:Nat}{p:Rp}{V:Bs}{y z:Nat}{L L':Bs}
theorem BgI.lt(h:BgI w W k r p V y z L):r<W.heap.size:=Holds.lt h.lg (by rw[h.ls];decide)
theorem BgI.grow(h:BgI w W k r p V y z L)(b:kZ W W'):BgI w W' k r p V y z L:=
 ⟨h.bl.trans (b.mono h.bl.size),h.r3.below b,h.r4.below b,h.r6.below b,h.r7.below b,h.r8.below b,h.rk,Holds.below h.lg b h.lt,h.ls⟩
theorem BgI.say(h:BgI w W k r p V y z L)(b:SP.Only r 0 32 W W')(d:Holds encB W' r 0 L')(c:L'.size=32):BgI w W' k r p V y z L':=by
 have f:=h.rk.2;have e:=h.rk.1;exact⟨h.bl.trans (wX b h.bl.size oM),h.r3.only b oM,h.r4.only b oM,h.r6.only b oM,h.r7.only b oM,h.r8.only b oM,h.rk,d,c⟩
theorem BgI.put(h:BgI w W k r p V y z L)(c b:Nat)(j:Nat)(us:List Uv)(l:j<5)(f:Row (W.setCells (k+j) 0 us) (k+2) [jZ r])(d:Row (W.setCells (k+j) 0 us) (k+3) (wn c))(e:Row (W.setCells (k+j) 0 us) (k+4) (wn b))(m:2<=j):BgI w (W.setCells (k+j) 0 us) k r p V c b L:=by
 have i:=h.rk.2;have g:=h.rk.1;exact⟨RG.below_setCells oM _ _ _ h.bl,aR h.r3 oM,aR h.r4 oM,f,d,e,h.rk,fF h.lg oM,h.ls⟩
theorem BgI.p6(h:BgI w W k r p V y z L)(e:Hid (W.setCells (k+2) 0 [jZ r]=W')):BgI w W' k r p V y z L:=by
 rw[<-e.out];exact h.put y z 2 _ oM (h.r6.put rfl) (aR h.r7 oM) (aR h.r8 oM) oM
theorem BgI.p7(h:BgI w W k r p V y z L){b:Nat}(e:Hid (W.setCells (k+3) 0 (wn b)=W')):BgI w W' k r p V b z L:=by
 rw[<-e.out];exact h.put b z 3 _ oM (aR h.r6 oM) (h.r7.put rfl) (aR h.r8 oM) oM
theorem BgI.p8(h:BgI w W k r p V y z L){b:Nat}(e:Hid (W.setCells (k+4) 0 (wn b)=W')):BgI w W' k r p V y b L:=by
 rw[<-e.out];exact h.put y b 4 _ oM (aR h.r6 oM) (aR h.r7 oM) (h.r8.put rfl) oM
end
theorem BU{P:VD}{w:Func}{tmps:Array Uv}{W:Ut}{k q f:Nat}{m:List Uv}(t x l:WF)(T n c:Vb)(A:w.results=#[.cell t T,.cell x n,.cell l c])(h:Row W k vs)(D:Row W q us)(r:Row W f m)(a:tmps[t]? = some (jZ k))(o:tmps[x]? = some (jZ q))(g:tmps[l]? = some (jZ f))
 (v:(P.underlying T).map (·.isRow)=some true) (E:(P.info? T).map (·.size)=some vs.length) (e:(P.underlying n).map (·.isRow)=some true) (p:(P.info? n).map (·.size)=some us.length) (b:(P.underlying c).map (·.isRow)=some true) (j:(P.info? c).map (·.size)=some m.length):(results w tmps).run P W=.ok (.tuple #[.agg vs.toArray,.agg us.toArray,.agg m.toArray]) W:=by
 obtain⟨d,v,hd⟩:=UA.1 v;obtain⟨B,e,s⟩:=UA.1 e;obtain⟨u,b,i⟩:=UA.1 b;have z:=Y2 (P:=P) W k 0 T vs d h.2.1 v hd E;have C:=Y2 (P:=P) W q 0 n us B D.2.1 e s p;have y:=Y2 (P:=P) W f 0 c m u r.2.1 b i j;unfold results;simp[A,a,o,g,z,C,y,asAddr]
theorem N5(O:Ord N)(p:Rp)(hp:p.Ok)(V:Bs)(hV:V.size=33)(n:Nat)(hn:n<256)(w:Ut):
 UK prog 68 #[.agg p.l.toArray,pvl V,iZ n] w (rZ w λe w'=>∃r,e=.tuple #[lgV r,nv (chS N (bgL V n p.a p.s)),nv (chS N (bB (bgL V n p.a p.s)))]/\w.heap.size<=r/\Holds encB w' r 0 (bB (bB (bgL V n p.a p.s)))):=by
 obtain⟨L0,x⟩:=hE (newL [114,97,110,103,101]);obtain⟨L1,I⟩:=hE (uM L0 [99,111,109,109,105,116] V.toList);obtain⟨L2,s⟩:=hE (uM L1 [98,105,116,115] [bV n 1]);have e3:bgL V n p.a p.s=jY [102,105,114,115,116] [115,101,99,111,110,100] L2 p.a p.s:=by unfold bgL;rw[x.out,I.out,s.out]
 have s0:L0.size=32:=by rw[<-x.out];exact zY _
 have s1:L1.size=32:=by rw[<-I.out];exact kQ _ _ _
 have s2:L2.size=32:=by rw[<-s.out];exact kQ _ _ _
 obtain⟨L3,M⟩:=hE (jY [102,105,114,115,116] [115,101,99,111,110,100] L2 p.a p.s);obtain⟨X,t⟩:=hE (bB L3);obtain⟨L5,q⟩:=hE (bB X);have s4:X.size=32:=by rw[<-t.out];exact bE _ _
 have s5:L5.size=32:=by rw[<-q.out];exact bE _ _
 obtain⟨y,hy⟩:=hE (chS N L3);obtain⟨z,hz⟩:=hE (chS N X);rw[e3,M.out,t.out,q.out,hy.out,hz.out];have HA:Hid (∀(r:Nat) (W:Ut),Holds encB W r 0 L2->UK prog 146 #[lgV r,.string ⟨#[102,105,114,115,116]⟩,pvl p.a,.string ⟨#[115,101,99,111,110,100]⟩,pvl p.s] W (Ret λe w'=>SP.Only r 0 32 W w'/\Holds encB w' r 0 X/\e=nv y)):=λr W h=>by
  rw[<-hy.out,<-t.out,<-M.out];exact sU O r L2 p.a p.s ⟨#[102,105,114,115,116]⟩ ⟨#[115,101,99,111,110,100]⟩ dC dC hp.a hp.s W h s2
 have HC:Hid (∀(r:Nat) (W:Ut),Holds encB W r 0 X->UK prog 147 #[lgV r] W (Ret λe w'=>SP.Only r 0 32 W w'/\Holds encB w' r 0 L5/\e=nv z)):=λr W h=>by
  rw[<-hz.out,<-q.out];exact yF O r X W h s4
 have HN:Hid (∀W:Ut,UK prog 144 #[.string ⟨#[114,97,110,103,101]⟩] W (rZ W λe w'=>∃r,e=lgV r/\W.heap.size<=r/\r<w'.heap.size/\Holds encB w' r 0 L0)):=λW=>by
  rw[<-x.out];exact GG ⟨#[114,97,110,103,101]⟩ W dC
 clear M t q hy hz x e3;obtain⟨k,hk⟩:=hE (w.heap.size);obtain⟨U,B⟩:=hE (w.alloc (.cells p.l.toArray 137));obtain⟨w2,o⟩:=hE (U.alloc (.cells (aA V).toArray 103));obtain⟨w3,l⟩:=hE (w2.alloc (.cells [.pointer none].toArray 145));obtain⟨w4,a⟩:=hE (w3.alloc (.cells (RG.z 4).toArray 49));obtain⟨w5,m⟩:=hE (w4.alloc (.cells (RG.z 4).toArray 49));have z1:Hid (U.heap.size=k+1):=by rw[<-B.out,UD,hk.out];rfl
 have z2:Hid (w2.heap.size=k+2):=by rw[<-o.out,UD,z1.out];rfl
 have z3:Hid (w3.heap.size=k+3):=by rw[<-l.out,UD,z2.out];rfl
 have z4:Hid (w4.heap.size=k+4):=by rw[<-a.out,UD,z3.out];rfl
 have z5:Hid (w5.heap.size=k+5):=by rw[<-m.out,UD,z4.out];rfl
 have f1:=aN hk B;have f2:=aN z1 o;have f3:=aN z2 l;have f4:=aN z3 a;have f5:=aN z4 m;have H:=f4.1.trans (f5.1.mono f4.1.size);have Q:=f3.1.trans (H.mono f3.1.size);have T:=f2.1.trans (Q.mono f2.1.size);have F:=mk6 (f1.1.trans (T.mono f1.1.size)) (f1.2.below T) (f2.2.below Q) (f3.2.below H) (f4.2.below f5.1) f5.2;obtain⟨vp,h6⟩:=hE (U5 p.l.toArray);obtain⟨vV,h7⟩:=hE (pvl V);have B1:Hid ((Vh 137 vp).run prog w=.ok (jZ k) U):=by rw[<-h6.out,<-B.out,<-hk.out];exact J5 hp w
 have B2:Hid ((Vh 103 vV).run prog U=.ok (.pointer (some ⟨k+1,0,none⟩)) w2):=by rw[<-h7.out,<-o.out,<-z1.out];exact rL hV U
 rw[h6.out,h7.out];have HP:=mk2 hp hV;clear f1 f2 f3 f4 f5 H Q T;go_enter func68,ntmps68;go_wp2_with (first|(refine aF (u:=vp) (v:=jZ k) (w':=U) rfl _ (.tmp 0) rfl ?_ ?_ ?_;rfl;exact B1.out)|(refine aF (u:=vV) (v:=.pointer (some ⟨k+1,0,none⟩)) (w':=w2) rfl _ (.tmp 1) rfl ?_ ?_ ?_;rfl;exact B2.out)|(refine alR 6 z2 l ?_)|(refine alR 7 z3 a ?_)|(refine alR 8 z4 m ?_)|fail)
 refine(HN w5).mono ?_;rintro e w6 ⟨uu,rfl,b,r,rfl,J,hg,c⟩;obtain⟨w7,P⟩:=hE (w6.setCells (k+2) 0 [jZ r]);have h4:=mk1 (F.2.2.2.1.below b).2.2;have K7:Hid (BgI w w7 k r p V 0 0 L0):=by
  rw[z5.out]at J;rw[<-P.out];have d:=hk.out;exact⟨RG.below_setCells (by omega) _ _ _ (F.1.trans (b.mono F.1.size)),aR (F.2.1.below b) (by omega),aR (F.2.2.1.below b) (by omega),(F.2.2.2.1.below b).put rfl,aR (F.2.2.2.2.1.below b) (by omega),aR (F.2.2.2.2.2.below b) (by omega),⟨hk.out,J⟩,fF c (by omega),s0⟩
 clear F b J hg c z1 z2 z3 z4 z5 B o l a m B1 B2 HN;unfold lgV;go_wp2_with (first|(refine stR 6 P (Hid.mk' rfl) h4.out iLg kR ?_)|fail)
 clear h4 P;refine AW.begin 4 4 ?_;refine AW.va 0 (.pointer (some ⟨k+2,0,none⟩)) ?_;refine AW.va 1 (.pointer (some ⟨k+2,0,none⟩)) ?_;refine AW.ce 2 uLp (λW A=>(K7.grow A).r6.2.1 0 _ rfl) ?_;refine AW.va 3 (.slice (some ⟨k+1,0,none⟩) 33 33) ?_;refine AW.fc (λA=>OL r L0 ⟨#[99,111,109,109,105,116]⟩ (some ⟨k+1,0,none⟩) 33 33 V.toList _ dC (K7.grow A).lg s0 (wN HP.2 (K7.grow A).r4)) ?_;rintro e w8 A ⟨rfl,f,c⟩;rw[show(⟨#[99,111,109,109,105,116]⟩:ByteArray).data.toList=[99,111,109,109,105,116] from rfl,I.out]at c;have K8:=mk1 ((K7.grow A).say f c s1);clear K7 A f c;have c6:w8.cell? ⟨k+2,0,none⟩=some (jZ r):=K8.r6.2.1 0 _ rfl;have he:∀W:Ut,(convert 3 5 (iZ n)).run prog W=.ok (.int .u8 (SP.ub (bV n 1))) W:=λW=>by
  have d:(n:Int)%256=SP.ub (bV n 1):=xJ n;rw[<-d];rfl
 have HL:=mk1 (rfl:bV n 1=bV n 1);generalize bV n 1=G at s he;obtain⟨w9,K⟩:=hE (w8.alloc (.cells #[.int .u8 (SP.ub G)] 5));obtain⟨k9,Z⟩:=hE (w8.heap.size);have h0:Hid ((VF 23 1 #[(0,.int .u8 (SP.ub G))]).run prog w8=.ok (sZ k9 1 1) w9):=by rw[<-K.out,<-Z.out];show _=_;kernel_rfl
 have f9:Hid (kZ w8 w9/\Row w9 k9 [.int .u8 (SP.ub G)]):=by rw[<-K.out,<-Z.out];exact⟨aC _ _,aE w8 [.int .u8 (SP.ub G)] 5⟩
 have K9:=mk2 (K8.grow f9.1) (show PartOk w9 (sZ k9 1 1) [G] from⟨_,k9,0,1,#[G],rfl,rfl,Uy _,(by show 1<=1099511627776;decide),U2 ⟨rfl,λj hj=>by
  obtain rfl:j=0:=by simp at hj;omega
  exact⟨f9.2.2.1 0 _ rfl,(f9.2.2.2 0 yBZ).2⟩⟩⟩)
 go_wp2_with (first|(refine inR 20 (VF 23 1 #[(0,.int .u8 (SP.ub G))]) h0.out ?_)|fail)
 refine(OL r L1 ⟨#[98,105,116,115]⟩ (some (aZ k9)) 1 1 [G] w9 dC K9.1.lg s1 K9.2).mono ?_;rintro e ha ⟨uu,rfl,rfl,f,c⟩;rw[show(⟨#[98,105,116,115]⟩:ByteArray).data.toList=[98,105,116,115] from rfl,s.out]at c;have KA:=mk1 (K9.1.say f c s2);clear K9 f c K8 f9 h0 K c6;obtain⟨vl,d⟩:=hE (lgV r);obtain⟨vA,hvA⟩:=hE (pvl p.a);obtain⟨vS,h1⟩:=hE (pvl p.s);have iA:(prog.info? 103).map (·.size)=some (aA p.a).length:=by rw[aB HP.1.a];exact iCP
 have iS:(prog.info? 103).map (·.size)=some (aA p.s).length:=by rw[aB HP.1.s];exact iCP
 have H7:=Rp.at7 HP.1 KA.r3.2.1;have S:=mk1 (HA r ha KA.lg);rw[d.out,hvA.out,h1.out]at S;go_wp2_with (first|(refine ldR 6 KA.r6.2.1 d uLg iLg ?_)|(refine ldR 23 H7.1 hvA uCP iA ?_)|(refine ldR 25 H7.2.1 h1 uCP iS ?_)|fail)
 refine S.mono ?_;clear S H7;rintro e hc ⟨uu,rfl,f,c,rfl⟩;have KB:=mk1 (KA.say f c s4);clear KA f c;obtain⟨h5,g⟩:=hE (hc.setCells (k+3) 0 (wn y));obtain⟨vy,i⟩:=hE (nv y);rw[i.out];go_wp2_with (first|(refine stR 7 g i KB.r7.2.2 i40 (aM y) ?_)|fail)
 have KC:=mk1 (KB.p7 g);clear KB g;refine AW.beg 6 6 ⟨λW=>∃z L,BgI w W k r p V y z L,λ_ _ A ⟨z,L,h⟩=>⟨z,L,h.grow A⟩,true⟩ ⟨_,_,KC.grow ⟨rfl,rfl,rfl,Uy _,λ_ _=>rfl⟩⟩ ?_;refine AW.ro 0 (λW ⟨_,_,h⟩=>h.r6.2.1) d uLg iLg ?_;refine AW.ro 1 (λW ⟨_,_,h⟩=>h.r7.2.1) i u40 i40 ?_;refine AW.ro 2 (λW ⟨_,_,h⟩=>h.r6.2.1) d uLg iLg ?_;have KD:=mk1 (KC.grow (W':=h5.drew) ⟨rfl,rfl,rfl,Uy _,λ_ _=>rfl⟩);have R:=mk1 (HC r h5.drew KD.lg);rw[d.out]at R;refine AW.cw 3 (λ_=>R.out) (λe w' _ h=>⟨_,_,KD.say h.1 h.2.1 s5⟩) ?_;rintro e hi ⟨f,c,rfl⟩;simp only[UR,Uu,Uw,Ux];have KE:=mk1 (KD.say f c s5);clear KD f c R;obtain⟨h9,C⟩:=hE (hi.setCells (k+2) 0 [jZ r]);obtain⟨h8,E⟩:=hE (h9.setCells (k+3) 0 (wn y));obtain⟨hl,D⟩:=hE (h8.setCells (k+4) 0 (wn z));have KF:=mk1 (KE.p6 C);have KG:=mk1 (KF.p7 E);have Y:=mk1 (KG.p8 D);obtain⟨vz,h2⟩:=hE (nv z);rw[h2.out];refine AW.ss 4 d kR iLg C (λ_=>⟨KE.r6.2.2,_,_,KF.out⟩) ?_;refine AW.ss 5 i (aM y) i40 E (λ_=>⟨KF.r7.2.2,_,_,KG.out⟩) ?_;refine AW.fi (us:=wn z) h2 (aM z) i40 (λ_=>⟨KG.r8.2.2,?_⟩);rw[D.out];go_wp2_with fail
 refine UH (BU 6 7 8 145 49 49 rfl Y.r6 Y.r7 Y.r8 rfl rfl rfl uLg iLg u40 i40 u40 i40) rfl ?_;exact⟨_,rfl,Y.bl,r,rfl,by have:=Y.rk;omega,Y.lg⟩
structure MdI(w W:Ut)(k r:Nat)(p:Rp)(y:Nat)(L:Bs):Prop where
 on:SP.Only r 0 32 w W
 r2:Row W k p.l
 r3:Row W (k+1) [jZ r]
 r4:Row W (k+2) (wn y)
 rk:w.heap.size=k/\r<k
 lg:Holds encB W r 0 L
 ls:L.size=32
section
variable {w W W':Ut}{k r:Nat}{p:Rp}{y:Nat}{L L':Bs}
theorem MdI.lt(h:MdI w W k r p y L):r<W.heap.size:=Holds.lt h.lg (by rw[h.ls];decide)
theorem MdI.grow(h:MdI w W k r p y L)(b:kZ W W'):MdI w W' k r p y L:=
 ⟨h.on.trans (SP.Only.of_below b rfl h.lt),h.r2.below b,h.r3.below b,h.r4.below b,h.rk,Holds.below h.lg b h.lt,h.ls⟩
theorem MdI.say(h:MdI w W k r p y L)(b:SP.Only r 0 32 W W')(d:Holds encB W' r 0 L')(c:L'.size=32):MdI w W' k r p y L':=by
 have:=h.rk;exact⟨h.on.trans b,h.r2.only b oM,h.r3.only b oM,h.r4.only b oM,h.rk,d,c⟩
theorem MdI.put(h:MdI w W k r p y L){b:Nat}(e:Hid (W.setCells (k+2) 0 (wn b)=W')):MdI w W' k r p b L:=by
 have:=h.rk;rw[<-e.out];exact⟨jH h.on h.rk.1 h.rk.2 oM,aR h.r2 oM,aR h.r3 oM,h.r4.put rfl,h.rk,fF h.lg oM,h.ls⟩
theorem Jc(u:p.Ok)(s:Holds encB w r 0 L)(t:L.size=32):∃k c d n,Hid (w.heap.size=k)/\Hid (d.heap.size=k+2)/\Hid (d.alloc (.cells (RG.z 4).toArray 49)=n)/\Hid ((Vh 137 (.agg p.l.toArray)).run prog w=.ok (jZ k) c)/\Hid ((Vh 145 (lgV r)).run prog c=.ok (.pointer (some ⟨k+1,0,none⟩)) d)/\Hid (MdI w n k r p 0 L):=by
 have m:=Holds.lt s (by rw[t];decide);have g:=aN (T:=137) (Hid.mk' (rfl:w.heap.size=_)) (Hid.mk' (rfl:w.alloc (.cells p.l.toArray 137)=_));have i:(w.alloc (.cells p.l.toArray 137)).heap.size=w.heap.size+1:=UD _ _;have o:=Nf r (w.alloc (.cells p.l.toArray 137));generalize q:w.alloc (.cells p.l.toArray 137)=c at g i o;have f2:=aN (T:=145) (z:=[jZ r]) (Hid.mk' i) (Hid.mk' rfl);have l:(c.alloc (.cells [jZ r].toArray 145)).heap.size=w.heap.size+2:=by rw[UD,i]
 rw[i]at o;have e:(Vh 145 (lgV r)).run prog c=.ok (.pointer (some ⟨w.heap.size+1,0,none⟩)) (c.alloc (.cells [jZ r].toArray 145)):=o;generalize c.alloc (.cells [jZ r].toArray 145)=d at f2 l e;have j:=aN (T:=49) (z:=RG.z 4) (Hid.mk' l) (Hid.mk' rfl);refine⟨_,c,d,_,rfl,l,rfl,?_,e,?_⟩
 ·rw[<-q];exact J5 u w
 generalize d.alloc (.cells (RG.z 4).toArray 49)=n at j;have f:=f2.1.trans (j.1.mono f2.1.size);have b:=g.1.trans (f.mono g.1.size);exact⟨SP.Only.of_below b rfl m,g.2.below f,f2.2.below j.1,j.2,⟨rfl,m⟩,Holds.below s b m,t⟩
end
def mdL(L C D:Bs):Bs:=jY [116,104,105,114,100] [102,111,117,114,116,104] L C D
theorem NF(O:Ord N)(p:Rp)(f:p.Ok)(r:Nat)(L:Bs)(w:Ut)(A:Holds encB w r 0 L)(C:L.size=32):
 UK prog 76 #[.agg p.l.toArray,lgV r] w (Ret λe w'=>SP.Only r 0 32 w w'/\Holds encB w' r 0 (bB (mdL L p.c p.d))/\e=nv (chS N (mdL L p.c p.d))):=by
 obtain⟨G,d⟩:=hE (mdL L p.c p.d);obtain⟨B,c⟩:=hE (bB G);obtain⟨x,hx⟩:=hE (chS N G);have s2:B.size=32:=by rw[<-c.out];exact bE _ _
 rw[d.out,c.out,hx.out];have F:Hid (∀(W:Ut),Holds encB W r 0 L->UK prog 146 #[lgV r,.string ⟨#[116,104,105,114,100]⟩,pvl p.c,.string ⟨#[102,111,117,114,116,104]⟩,pvl p.d] W (Ret λe w'=>SP.Only r 0 32 W w'/\Holds encB w' r 0 B/\e=nv x)):=λW h=>by
  rw[<-hx.out,<-c.out,<-d.out];exact sU O r L p.c p.d ⟨#[116,104,105,114,100]⟩ ⟨#[102,111,117,114,116,104]⟩ dC dC f.c f.d W h C
 clear d c hx;obtain⟨k,Q,K,M,U,I,q,a,D,i⟩:=Jc f A C;obtain⟨J,l⟩:=hE (U5 p.l.toArray);obtain⟨vl,b⟩:=hE (lgV r);obtain⟨T,g⟩:=hE (pvl p.c);obtain⟨S,n⟩:=hE (pvl p.d);rw[l.out]at a;have o:=mk1 (F M i.lg);rw[b.out]at D;rw[b.out,g.out,n.out]at o;rw[l.out,b.out];have P:(prog.info? 103).map (·.size)=some (aA p.c).length:=by rw[aB f.c];exact iCP
 have H:(prog.info? 103).map (·.size)=some (aA p.d).length:=by rw[aB f.d];exact iCP
 have z:=mk1 (Rp.at7 f i.r2.2.1);clear F A;go_enter func76,ntmps76;go_wp2_with (first|(refine aF (u:=J) (v:=jZ k) (w':=Q) rfl _ (.tmp 0) rfl ?_ ?_ ?_;rfl;exact a.out)|(refine aF (u:=vl) (v:=.pointer (some ⟨k+1,0,none⟩)) (w':=K) rfl _ (.tmp 1) rfl ?_ ?_ ?_;rfl;exact D.out)|(refine alR 4 I q ?_)|(refine ldR 3 i.r3.2.1 b uLg iLg ?_)|(refine ldR 6 z.2.2.1 g uCP P ?_)|(refine ldR 8 z.2.2.2.1 n uCP H ?_)|fail)
 refine o.mono ?_;rintro e R ⟨V,rfl,E,y,rfl⟩;have t:=mk1 (i.say E y s2);clear o E y i;obtain⟨X,j⟩:=hE (R.setCells (k+2) 0 (wn x));have s:=mk1 (t.put j);obtain⟨Y,m⟩:=hE (nv x);rw[m.out];go_wp2_with (first|(refine stR 4 j m t.r4.2.2 i40 (aM x) ?_)|fail)
 refine UH (aG 4 49 rfl s.r4 rfl u40 i40) rfl ?_;exact⟨_,rfl,s.on,s.lg,rfl⟩
theorem SE(L:Nat->Bs):iK L 3=(L 0).toList++((L 1).toList++(L 2).toList):=by simp[iK,List.range_succ]
theorem GF{B n:Nat}{w:Ut}{v:Uv}{x:List UInt8}(h:w.ownsRow B 5 1 v n (x.map encB))(d:0<n)(s:n<=1000000):∃q c,v=.slice q n c/\PartOk w v x:=by
 have i:x.length=n:=by have:=h.1;rw[US,Nat.mul_one]at this;exact this
 rcases id h with⟨-,⟨rfl,d⟩|⟨g,cap,cur,rfl,m,f,l,o,p,r⟩⟩
 ·omega
 ·have hx:x.toArray.size=n:=by rw[VE];exact i
  refine⟨_,_,rfl,some (aZ g),g,0,cap,x.toArray,by rw[hx],rfl,by omega,by omega,U2 ⟨rfl,λj e=>?_⟩⟩;have k:j<x.length:=by omega
  have b:=h.cells (g:=g) rfl j (encB x[j]) (by rw[Vy,UI k];rfl);rw[lI]at b;refine⟨by rw[b,getElem!_pos _ j e];simp;rfl,?_⟩;simp[Xe,f]
theorem SN(g b k:Nat)(w:Ut):(VF 24 3 #[(0,r32 g),(1,r32 b),(2,r32 k)]).run prog w=.ok (sZ w.heap.size 3 3) (w.alloc (.cells #[r32 g,r32 b,r32 k] 23)):=kR
def enB(u m t:Nat):List UInt8:=(bx u).toList++((bx m).toList++(bx t).toList)
def enL(L:Bs)(u m t:Nat):Bs:=uM L [115,117,109,115] (enB u m t)
theorem ElQ.el{Q:Nat->Prop}{m:Nat}{W:Ut}{x:Uv}{b:Bs}(h:ElQ Q m W x b):El m W x b:=by
 obtain⟨k,c,f,i,e,-,d,g⟩:=h;exact⟨k,c,f,i,e,d,g⟩
theorem NV(O:Ord N)(p:Rp)(hp:p.Ok)(hu:p.u<N)(hm:p.m<N)(ht:p.t<N)(r:Nat)(L:Bs)(w:Ut)(hL:Holds encB w r 0 L)(hl:L.size=32):
 UK prog 81 #[.agg p.l.toArray,lgV r] w (Ret λe w'=>SP.Only r 0 32 w w'/\Holds encB w' r 0 (bB (enL L p.u p.m p.t))/\e=nv (chS N (enL L p.u p.m p.t))):=by
 obtain⟨T,c⟩:=hE (enL L p.u p.m p.t);obtain⟨L2,i⟩:=hE (bB T);obtain⟨x,hx⟩:=hE (chS N T);have s1:T.size=32:=by rw[<-c.out];exact kQ _ _ _
 have s2:L2.size=32:=by rw[<-i.out];exact bE _ _
 have HC:Hid (∀(W:Ut),Holds encB W r 0 T->UK prog 147 #[lgV r] W (Ret λe w'=>SP.Only r 0 32 W w'/\Holds encB w' r 0 L2/\e=nv x)):=λW h=>by
  rw[<-hx.out,<-i.out];exact yF O r T W h s1
 rw[c.out,i.out,hx.out];unfold enL enB at c;have o:=λ(a:Nat) (ha:a<N) (W:Ut)=>fX O ha W
 have b1:=λW=>o p.u hu W
 have b2:=λW=>o p.m hm W
 have b3:=λW=>o p.t ht W
 have sz:∀a:Nat,(bx a).size=32:=eE;have m:=mk3 (sz p.u) (sz p.m) (sz p.t);have HB:=mk3 b1 b2 b3;clear b1 b2 b3 o hu hm ht sz i hx;generalize bx p.u=t at *;generalize bx p.m=s at *;generalize bx p.t=q at *;obtain⟨vu,P⟩:=hE (nv p.u);obtain⟨vm,M⟩:=hE (nv p.m);obtain⟨vt,I⟩:=hE (nv p.t);rw[P.out,M.out,I.out]at HB;obtain⟨k,w1,w2,w3,hk,z2,h2,B1,B2,g⟩:=Jc hp hL hl;obtain⟨vp,X⟩:=hE (U5 p.l.toArray);obtain⟨vl,n⟩:=hE (lgV r);rw[X.out]at B1;rw[n.out]at B2;rw[X.out,n.out];clear hL;have HP:=mk1 hp;go_enter func81,ntmps81;go_wp2_with (first|(refine aF (u:=vp) (v:=jZ k) (w':=w1) rfl _ (.tmp 0) rfl ?_ ?_ ?_;rfl;exact B1.out)|(refine aF (u:=vl) (v:=.pointer (some ⟨k+1,0,none⟩)) (w':=w2) rfl _ (.tmp 1) rfl ?_ ?_ ?_;rfl;exact B2.out)|(refine alR 4 z2 h2 ?_)|fail)
 have n3:Hid (k+1≠r):=by have:=g.rk;show _≠_;omega
 have n2:Hid (k≠r):=by have:=g.rk;show _≠_;omega
 refine AW.beg 14 14 (Iv.only g.lt) (SP.Only.of_below (⟨rfl,rfl,rfl,Uy _,λ_ _=>rfl⟩:kZ w3 w3.drew) rfl g.lt) ?_;refine AW.va 0 (.pointer (some ⟨k+1,0,none⟩)) ?_;refine AW.va 1 (.pointer (some ⟨k+1,0,none⟩)) ?_;refine AW.ce 2 uLp (λW b=>(g.r3.only b n3.out).2.1 0 _ rfl) ?_;refine AW.va 3 (oZ k 132) ?_;refine AW.ro 4 (λW b=>(Rp.at7 HP.out (g.r2.only b n2.out).2.1).2.2.2.2.1) P u40 i40 ?_;refine AW.va 6 (oZ k 136) ?_;refine AW.ro 7 (λW b=>(Rp.at7 HP.out (g.r2.only b n2.out).2.1).2.2.2.2.2.1) M u40 i40 ?_;refine AW.va 9 (oZ k 140) ?_;refine AW.ro 10 (λW b=>(Rp.at7 HP.out (g.r2.only b n2.out).2.1).2.2.2.2.2.2) I u40 i40 ?_;refine AW.ca 5 (λ_=>HB.1 _) (λe w' h=>h.1) ?_;rintro e w4 ⟨f,K,D,rfl⟩;simp only[UR,Uu,Uw,Ux];refine AW.ca 8 (λ_=>HB.2.1 _) (λe w' h=>h.1) ?_;rintro e w5 ⟨y,S,B,rfl⟩;simp only[UR,Uu,Uw,Ux];refine AW.ca 11 (λ_=>HB.2.2 _) (λe w' h=>h.1) ?_;rintro e E ⟨z,R,C,rfl⟩;simp only[UR,Uu,Uw,Ux];have Q:=aC E (.cells #[r32 D,r32 B,r32 C] 23);have Y:=aE E [r32 D,r32 B,r32 C] 23;have d:=y.trans (z.mono y.size);have E1:=(K.keep (Kq.of_below d)).keep (Kq.of_below Q);have E2:=(S.keep (Kq.of_below z)).keep (Kq.of_below Q);have E3:=R.keep (Kq.of_below Q);refine AW.ns 12 (SN D B C E) Q ?_;have l:=mk1 (JQ E.heap.size 3 3 (λj=>if j=0 then t else if j=1 then s else q) (by decide) (λj hj=>by
  match j,hj with
  | 0,_=>show t.size<=10000;rw[m.1];decide
  | 1,_=>show s.size<=10000;rw[m.2.1];decide
  | 2,_=>show q.size<=10000;rw[m.2.2];decide) (E.alloc (.cells #[r32 D,r32 B,r32 C] 23)) Y.1 λj hj=>by
  match j,hj with
  | 0,_=>exact⟨r32 D,Y.2.1 0 _ rfl,by show El t.size _ _ t;rw[m.1];exact E1.el⟩
  | 1,_=>exact⟨r32 B,Y.2.1 1 _ rfl,by show El s.size _ _ s;rw[m.2.1];exact E2.el⟩
  | 2,_=>exact⟨r32 C,Y.2.1 2 _ rfl,by show El q.size _ _ q;rw[m.2.2];exact E3.el⟩)
 have h0:(iK (λj=>if j=0 then t else if j=1 then s else q) 3)=t.toList++(s.toList++q.toList):=SE _;rw[h0]at l;have h1:(t.toList++(s.toList++q.toList)).length=96:=by simp only[UB,UL,m.1,m.2.1,m.2.2]
 generalize t.toList++(s.toList++q.toList)=xx at *;rw[h1]at l;have F:=mk1 (((UT _ w3).drew.trans (f.trans (d.mono f.size))).trans (Q.mono (UE f.size d.size)));clear K S R E1 E2 E3 Y f y z d;generalize E.alloc (.cells #[r32 D,r32 B,r32 C] 23)=w7 at *;refine AW.ca 13 (λ_=>l.out) (λe w' h=>h.1) ?_;rintro e w8 ⟨H,J⟩;simp only[UR,Uu,Uw,Ux];obtain⟨qa,qc,rfl,V⟩:=GF J (by decide) (by decide);have K8:=mk1 (g.grow (F.trans (H.mono F.size)));refine AW.cw 14 (λ_=>OL r L ⟨#[115,117,109,115]⟩ qa 96 qc xx w8 dC K8.lg hl V) (λe w' hI h=>hI.trans h.2.1) ?_;rintro e w9 ⟨rfl,b,A⟩;simp only[UR,Uu,Uw,Ux];rw[show(⟨#[115,117,109,115]⟩:ByteArray).data.toList=[115,117,109,115] from rfl,c.out]at A;have Z:=mk1 (K8.say b A s1);clear b A J V l H K8;refine AW.dn λ_=>?_
 have HD:=mk1 (HC w9 Z.lg);rw[n.out]at HD;go_wp2_with (first|(refine ldR 3 Z.r3.2.1 n uLg iLg ?_)|fail)
 refine HD.mono ?_;rintro e wA ⟨uu,rfl,b,A,rfl⟩;have KA:=mk1 (Z.say b A s2);clear HD b A Z;obtain⟨wB,U⟩:=hE (wA.setCells (k+2) 0 (wn x));have KB:=mk1 (KA.put U);obtain⟨vx,G⟩:=hE (nv x);rw[G.out];go_wp2_with (first|(refine stR 4 U G KA.r4.2.2 i40 (aM x) ?_)|fail)
 refine UH (aG 4 49 rfl KB.r4 rfl u40 i40) rfl ?_;exact⟨_,rfl,KB.on,KB.lg,rfl⟩
end
section
open Go.RowKit Go.Sort Go.Deep
variable {P:Nat}[NeZero P]{N:Nat}
theorem uAr:(prog.underlying 28).map (·.isRow)=some true:=kR
theorem iAr:(prog.info? 28).map (·.size)=some 11:=kR
theorem SQ(a b c d:Uv)(w:Ut):(Vh 26 (.agg #[a,b,c,d])).run prog w=.ok (jZ w.heap.size) (w.alloc (.cells #[a,b,c,d] 26)):=kR
def z11:List Uv:=VG 11 (.slice none 0 0)
structure RgT(Q:Nat->Prop)(W:Ut)(p:Rp)(a b c d e f g:Nat):Prop where
 a:ElQ Q 33 W (r33 a) p.a
 b:ElQ Q 33 W (r33 b) p.s
 c:ElQ Q 33 W (r33 c) p.c
 d:ElQ Q 33 W (r33 d) p.d
 e:ElQ Q 32 W (r32 e) (bx p.u)
 f:ElQ Q 32 W (r32 f) (bx p.m)
 g:ElQ Q 32 W (r32 g) (bx p.t)
theorem RgT.keep{Q:Nat->Prop}{W W':Ut}{p:Rp}{a b c d f g:Nat}(h:RgT Q W p a b c d e f g)(k:Kq Q W W'):RgT Q W' p a b c d e f g:=⟨h.a.keep k,h.b.keep k,h.c.keep k,h.d.keep k,h.e.keep k,h.f.keep k,h.g.keep k⟩
theorem RgT.mono2{Q:Nat->Prop}{W:Ut}{p:Rp}{a b c d f g:Nat}(h:RgT Q W p a b c d e f g)(k:∀g,g<W.heap.size->Q g->Q' g):RgT Q' W p a b c d e f g:=⟨h.a.mono2 k,h.b.mono2 k,h.c.mono2 k,h.d.mono2 k,h.e.mono2 k,h.f.mono2 k,h.g.mono2 k⟩
theorem Oz(O:Ord N)(p:Rp)(X:p.Ok)(hu:p.u<N)(hm:p.m<N)(ht:p.t<N)(s l r y:Uv)(h1:s.oneCell'=true/\l.oneCell'=true/\r.oneCell'=true/\y.oneCell'=true)(w:Ut):
 UK prog 82 #[.agg p.l.toArray,.agg #[s,l,r,y]] w (rZ w λe w'=>∃a b c d u m t,e=.agg #[r33 a,r33 b,r33 c,r33 d,r32 u,r32 m,r32 t,s,l,r,y]/\RgT (w.heap.size<=·) w' p a b c d u m t):=by
 have C:=mk7 (λW=>gA X.a W) (λW=>gA X.s W) (λW=>gA X.c W) (λW=>gA X.d W) (λW=>fX O hu W) (λW=>fX O hm W) (λW=>fX O ht W);obtain⟨va,hc⟩:=hE (pvl p.a);obtain⟨vs,h7⟩:=hE (pvl p.s);obtain⟨vc,ha⟩:=hE (pvl p.c);obtain⟨vd,h0⟩:=hE (pvl p.d);obtain⟨vu,h9⟩:=hE (nv p.u);obtain⟨vm,h8⟩:=hE (nv p.m);obtain⟨vt,h4⟩:=hE (nv p.t);rw[hc.out,h7.out,ha.out,h0.out,h9.out,h8.out,h4.out]at C;have iP:∀ {b:Bs},b.size=33->(prog.info? 103).map (·.size)=some (aA b).length:=λh=>by rw[aB h];exact iCP
 obtain⟨k,hk⟩:=hE (w.heap.size);obtain⟨L,J⟩:=hE (w.alloc (.cells p.l.toArray 137));obtain⟨k3,I⟩:=hE (L.heap.size);obtain⟨w2,H⟩:=hE (L.alloc (.cells [s,l,r,y].toArray 26));obtain⟨k4,G⟩:=hE (w2.heap.size);obtain⟨D,h2⟩:=hE (w2.alloc (.cells z11.toArray 28));have F:=Ng hk J I H G h2;have h5:w.heap.size<=k4/\k4<D.heap.size:=⟨by rw[<-G.out];exact UE (aN hk J).1.size (aN I H).1.size,F.2.2.2.1⟩
 have i:=mk2 h5 h1;obtain⟨vp,he⟩:=hE (U5 p.l.toArray);obtain⟨vi,o⟩:=hE (U5 #[s,l,r,y]);have B1:Hid ((Vh 137 vp).run prog w=.ok (jZ k) L):=by rw[<-he.out,<-J.out,<-hk.out];exact J5 X w
 have B2:Hid ((Vh 26 vi).run prog L=.ok (jZ k3) w2):=by rw[<-o.out,<-H.out,<-I.out];exact SQ _ _ _ _ L
 have Z:=mk1 X;rw[he.out,o.out];clear h5 h1;go_enter func82,ntmps82;go_wp2_with (first|(refine aF (u:=vp) (v:=jZ k) (w':=L) rfl _ (.tmp 0) rfl ?_ ?_ ?_;rfl;exact B1.out)|(refine aF (u:=vi) (v:=jZ k3) (w':=w2) rfl _ (.tmp 1) rfl ?_ ?_ ?_;rfl;exact B2.out)|(refine alR 4 G h2 ?_)|fail)
 have E:∀W,kZ D W->_:=λW f=>Rp.at7 Z.out (F.2.1.below f).2.1
 refine AW.begin 23 23 ?_;refine AW.va 0 (jZ k) ?_;refine AW.ro 1 (λW f=>(E W f).1) hc uCP (iP Z.a) ?_;refine AW.va 3 (oZ k 33) ?_;refine AW.ro 4 (λW f=>(E W f).2.1) h7 uCP (iP Z.s) ?_;refine AW.va 6 (oZ k 66) ?_;refine AW.ro 7 (λW f=>(E W f).2.2.1) ha uCP (iP Z.c) ?_;refine AW.va 9 (oZ k 99) ?_;refine AW.ro 10 (λW f=>(E W f).2.2.2.1) h0 uCP (iP Z.d) ?_;refine AW.va 12 (oZ k 132) ?_;refine AW.ro 13 (λW f=>(E W f).2.2.2.2.1) h9 u40 i40 ?_;refine AW.va 15 (oZ k 136) ?_;refine AW.ro 16 (λW f=>(E W f).2.2.2.2.2.1) h8 u40 i40 ?_;refine AW.va 18 (oZ k 140) ?_;refine AW.ro 19 (λW f=>(E W f).2.2.2.2.2.2) h4 u40 i40 ?_;refine AW.ro 21 (λW f=>(F.2.2.1.below f).2.1) o Li Ji ?_;refine AW.ca 2 (λ_=>C.1 _) (λe w' h=>h.1) ?_;rintro e w4 ⟨h3,E1,Y,rfl⟩;simp only[UR,Uu,Uw,Ux];refine AW.ca 5 (λ_=>C.2.1 _) (λe w' h=>h.1) ?_;rintro e w5 ⟨x,E2,S,rfl⟩;simp only[UR,Uu,Uw,Ux];refine AW.ca 8 (λ_=>C.2.2.1 _) (λe w' h=>h.1) ?_;rintro e w6 ⟨z,E3,U,rfl⟩;simp only[UR,Uu,Uw,Ux];refine AW.ca 11 (λ_=>C.2.2.2.1 _) (λe w' h=>h.1) ?_;rintro e w7 ⟨j,E4,K,rfl⟩;simp only[UR,Uu,Uw,Ux];refine AW.ca 14 (λ_=>C.2.2.2.2.1 _) (λe w' h=>h.1) ?_;rintro e w8 ⟨n,E5,P,rfl⟩;simp only[UR,Uu,Uw,Ux];refine AW.ca 17 (λ_=>C.2.2.2.2.2.1 _) (λe w' h=>h.1) ?_;rintro e w9 ⟨B,E6,Q,rfl⟩;simp only[UR,Uu,Uw,Ux];refine AW.ca 20 (λ_=>C.2.2.2.2.2.2 _) (λe w' h=>h.1) ?_;rintro e R ⟨h6,E7,M,rfl⟩;simp only[UR,Uu,Uw,Ux];rw[<-o.out];refine AW.nx 22 (.agg #[r33 Y,r33 S,r33 U,r33 K,r32 P,r32 Q,r32 M,s,l,r,y]) ?_;have b9:=h6;have b8:=B.trans (b9.mono B.size);have b7:=n.trans (b8.mono n.size);have b6:=j.trans (b7.mono j.size);have b5:=z.trans (b6.mono z.size);have b4:=x.trans (b5.mono x.size);have s3:D.heap.size<=w4.heap.size:=h3.size;have q:∀ {W:Ut}{m:Nat}{v:Uv}{b:Bs},D.heap.size<=W.heap.size->ElQ (W.heap.size<=·) m R v b->ElQ (D.heap.size<=·) m R v b:=λhW h=>h.mono2 λg _ V=>UE hW V
 have t5:=UE s3 x.size;have t6:=UE t5 z.size;have t7:=UE t6 j.size;have t8:=UE t7 n.size;have t9:=UE t8 B.size;have T:Hid (RgT (D.heap.size<=·) R p Y S U K P Q M):=⟨(E1.keep (Kq.of_below b4)).mono2 λg _ V=>V,q s3 (E2.keep (Kq.of_below b5)),q t5 (E3.keep (Kq.of_below b6)),q t6 (E4.keep (Kq.of_below b7)),q t7 (E5.keep (Kq.of_below b8)),q t8 (E6.keep (Kq.of_below b9)),q t9 E7⟩
 clear q E1 E2 E3 E4 E5 E6 E7 b4 b5 b6 b7 b8 b9 h3 x z j n B h6 s3 t5 t6 t7 t8 t9;refine AW.fi (us:=[r33 Y,r33 S,r33 U,r33 K,r32 P,r32 Q,r32 M,s,l,r,y]) (Hid.mk' rfl) (by simp only[XP,ZC,ZR,i.2.1,i.2.2.1,i.2.2.2.1,i.2.2.2.2,show ∀g,(r33 g).oneCell'=true from λ_=>rfl,show ∀g,(r32 g).oneCell'=true from λ_=>rfl,yAn]) iAr (λf=>?_);obtain⟨wB,A⟩:=hE (R.setCells k4 0 [r33 Y,r33 S,r33 U,r33 K,r32 P,r32 Q,r32 M,s,l,r,y]);have r4:=F.2.2.2.below f;have KE:Hid (R.there k4 0 11/\Row wB k4 [r33 Y,r33 S,r33 U,r33 K,r32 P,r32 Q,r32 M,s,l,r,y]/\kZ w wB/\RgT (w.heap.size<=·) wB p Y S U K P Q M):=by
  have kq:Kq (D.heap.size<=·) R wB:=by rw[<-A.out];exact Kq.set λg V=>by have:=i.1;omega
  refine⟨r4.2.2,by rw[<-A.out];exact r4.put rfl,by rw[<-A.out];exact RG.below_setCells i.1.1 _ _ _ (F.1.trans (f.mono F.1.size)),(T.keep kq).mono2 λg _ V=>UE F.1.size V⟩
 rw[A.out];refine⟨KE.1,?_⟩;go_wp2_with fail
 refine UH (aG 4 28 rfl KE.2.1 rfl uAr iAr) rfl ?_;exact⟨_,rfl,KE.2.2.1,_,_,_,_,_,_,_,rfl,KE.2.2.2⟩
end
section
open Go.RowKit Go.Sort Go.Deep
variable {N:Nat}
structure Pq where
 p:(Nat->Prop)->Ut->Prop
 kp:∀Q W W',Kq Q W W'->p Q W->p Q W'
 mo:∀Q Q' W,(∀g,g<W.heap.size->Q g->Q' g)->p Q W->p Q' W
abbrev pqS(v:Uv)(n:Nat)(a:Nat->Nat):Pq:=⟨λQ W=>SLq Q W v n a,λ_ _ _ k h=>h.keep k,λ_ _ _ m h=>h.mono2 m⟩
abbrev pqG(v:Uv)(n:Nat)(G H:Nat->List (Nat × Bs))(U:List (Nat × Bs)):Pq:=⟨λQ W=>GRq Q W v n G H U,λ_ _ _ k h=>h.keep k,λ_ _ _ m h=>h.mono2 m⟩
abbrev pqM(v:Uv)(l:List (Nat × Bs)):Pq:=⟨λQ W=>SmQ Q W v l,λ_ _ _ k h=>h.keep k,λ_ _ _ m h=>h.mono2 m⟩
def Nk(k:List (Nat × List Uv))(g:Nat):Prop:=g ∉ k.map (·.1)
structure Mp(w W:Ut)(rs:List (Nat × List Uv))(S:List Pq):Prop where
 bl:kZ w W
 rw:∀x∈rs,w.heap.size<=x.1/\Row W x.1 x.2
 nd:(rs.map (·.1)).Nodup
 ob:∀s∈S,s.p (Nk rs) W
namespace Mp
variable {w W W':Ut}{rs rs':List (Nat × List Uv)}{S S':List Pq}{k r i:Nat}{c c':List Uv}{L L':Bs}
theorem start(w:Ut):Mp w w [] []:=⟨UT _ _,λ_ h=>(U1 h).elim,List.nodup_nil,λ_ h=>(U1 h).elim⟩
theorem grow(h:Mp w W rs S)(k:kZ W W'):Mp w W' rs S:=⟨h.bl.trans (k.mono h.bl.size),λx hx=>⟨(h.rw x hx).1,(h.rw x hx).2.below k⟩,h.nd,λs b=>s.kp _ _ _ (Kq.of_below k) (h.ob s b)⟩
theorem drew(h:Mp w W rs S):Mp w W.drew rs S:=h.grow ⟨rfl,rfl,rfl,Uy _,λ_ _=>rfl⟩
theorem lt(h:Mp w W rs S){g:Nat}(k:g∈rs.map (·.1)):w.heap.size<=g/\g<W.heap.size:=by
 obtain⟨x,hx,rfl⟩:=Vn.1 k;exact⟨(h.rw x hx).1,(h.rw x hx).2.1⟩
theorem nk(h:Mp w W rs S)(g:Nat)(k:W.heap.size<=g):Nk rs g:=λe=>by have:=(h.lt e).2;omega
theorem at_(h:Mp w W rs S)(i:Nat)(b:rs[i]? = some (k,c):=by rfl):Row W k c:=(h.rw _ (VQ b)).2
theorem key(b:rs[i]? = some (k,c)):k∈rs.map (·.1):=Vn.2 ⟨_,VQ b,rfl⟩
theorem get(h:Mp w W rs S)(j:Nat){s:Pq}(k:S[j]? = some s:=by rfl):s.p (Nk rs) W:=h.ob _ (VQ k)
theorem has(h:Mp w W rs S)(s:Pq)(k:s.p (Nk rs) W)(e:S++[s]=S':=by(simp only[Xv,XI])<;>rfl):Mp w W rs S':=e ▸ ⟨h.bl,h.rw,h.nd,λx hx=>by
 rcases Ww.1 hx with hx|hx
 ·exact h.ob x hx
 ·rw[WT.1 hx];exact k⟩
theorem gets(h:Mp w W rs S)(c:kZ W W')(s:Pq)(k:s.p (W.heap.size<=·) W')(e:S++[s]=S':=by(simp only[Xv,XI])<;>rfl):Mp w W' rs S':=(h.grow c).has s (s.mo _ _ _ (λg _ b=>h.nk g b) k) e
theorem q(_:Mp w W rs S):∃Q,Hid (Nk rs=Q):=⟨_,rfl⟩
theorem uO{Q:Nat->Prop}(h:Mp w W rs S)(k:Hid (Nk rs=Q))(j:Nat){s:Pq}(b:S[j]? = some s:=by rfl):s.p Q W:=by rw[<-k.out];exact h.get j b
theorem nkq{Q:Nat->Prop}(h:Mp w W rs S)(b:Hid (Nk rs=Q))(g:Nat)(k:W.heap.size<=g):Q g:=by rw[<-b.out];exact h.nk g k
theorem MK{Q:Nat->Prop}(h:Mp w W rs S)(b:Hid (Nk rs=Q))(s:Pq)(k:s.p Q W)(e:S++[s]=S':=by(simp only[Xv,XI])<;>rfl):Mp w W rs S':=h.has s (by rw[b.out];exact k) e
theorem ne{Q:Nat->Prop}(_:Mp w W rs S)(d:Hid (Nk rs=Q))(i:Nat)(f:rs[i]? = some (k,c):=by rfl)(g:Nat)(b:Q g):g≠k:=λe=>by
 rw[<-d.out]at b;exact b (by rw[e];exact Vn.2 ⟨_,VQ f,rfl⟩)
theorem add(h:Mp w W rs S)(f:kZ W W')(m:Row W' k c)(l:W.heap.size<=k)(e:rs++[(k,c)]=rs':=by(simp only[Xv,XI])<;>rfl):Mp w W' rs' S:=by
 subst e;have i:=h.grow f;refine⟨i.bl,λx hx=>?_,?_,λs j=>?_⟩
 ·rcases Ww.1 hx with hx|hx
  ·exact i.rw x hx
  ·rw[WT.1 hx];exact⟨UE h.bl.size l,m⟩
 ·rw[Wx,Za];refine⟨h.nd,by simp,λa n b d e=>?_⟩;have o:=(h.lt n).2;simp at d;omega
 ·refine s.kp _ _ _ (Kq.of_below f) (s.mo _ _ _ (λg n d e=>?_) (h.ob s j));rw[Wx,Ww]at e;rcases e with e|e
  ·exact d e
  ·simp at e;omega
theorem adds(h:Mp w W rs S)(j:kZ W W')(ns:List (Nat × List Uv))(d:(ns.map (·.1)).Nodup)(c:∀x∈ns,W.heap.size<=x.1/\Row W' x.1 x.2)(e:rs++ns=rs':=by(simp only[Xv,XI])<;>rfl):Mp w W' rs' S:=by
 subst e;have l:=h.grow j;have i:∀g,g∈ns.map (·.1)->W.heap.size<=g:=λg f=>by
  obtain⟨x,hx,rfl⟩:=Vn.1 f;exact(c x hx).1
 refine⟨l.bl,λx hx=>?_,?_,λs m=>?_⟩
 ·rcases Ww.1 hx with hx|hx
  ·exact l.rw x hx
  ·exact⟨UE h.bl.size (c x hx).1,(c x hx).2⟩
 ·rw[Wx,Za];refine⟨h.nd,d,λa n b k e=>?_⟩;have o:=(h.lt n).2;have p:=i b k;omega
 ·refine s.kp _ _ _ (Kq.of_below j) (s.mo _ _ _ (λg f d e=>?_) (h.ob s m));rw[Wx,Ww]at e;rcases e with e|e
  ·exact d e
  ·have:=i g e;omega
theorem new{T:Vb}(h:Mp w W rs S)(b:Hid (W.heap.size=k))(d:Hid (W.alloc (.cells c.toArray T)=W'))(e:rs++[(k,c)]=rs':=by(simp only[Xv,XI])<;>rfl):Mp w W' rs' S:=by
 have f:=aN b d;exact h.add f.1 f.2 (YC b.out) e
theorem keys(b:rs[i]? = some (k,c)):(rs.set i (k,c')).map (·.1)=rs.map (·.1):=by
 rw[List.map_set];refine List.ext_getElem? λj=>?_
 rw[List.getElem?_set];have d:=(UG.1 b).1;split
 ·rename_i e
  subst e;rw[yCk (by simpa using d),Vy,b];rfl
 ·rfl
theorem Rn(b:rs[i]? = some (k,c)):Nk (rs.set i (k,c'))=Nk rs:=funext λg=>by unfold Nk;rw[keys b]
theorem turn(h:Mp w W rs S)(d:rs[i]? = some (k,c))(A:kZ w W')(r:W.heap.size<=W'.heap.size)(ho:∀g,g≠k->g<W.heap.size->W'.heap[g]? = W.heap[g]?)(a:Row W' k c'):Mp w W' (rs.set i (k,c')) S:=by
 refine⟨A,λx hx=>?_,by rw[keys d];exact h.nd,λs n=>?_⟩
 ·have y:=hx;obtain⟨j,m,e⟩:=List.mem_iff_getElem.1 hx;rw[List.length_set]at m;rw[List.getElem_set]at e;by_cases b:i=j
  ·rw[yCk b]at e;rw[<-e];exact⟨(h.lt (key d)).1,a⟩
  ·rw[yCl b]at e;have B:rs[j]∈rs:=List.getElem_mem m;have hh:=h.rw _ B;rw[<-e];have f:rs[j].1≠k:=λe'=>by
    have q:=(UG.1 d)
    obtain⟨o,p⟩:=q;have u:=yAd.1 h.nd;have v:(rs.map (·.1))[i]'(by simpa using o)=k:=by rw[Xi,p]
    have t:(rs.map (·.1))[j]'(by simpa using m)=k:=by rw[Xi];exact e'
    rcases VV i j with l|z
    ·exact u i j _ _ l (v.trans t.symm)
    ·exact u j i _ _ (by omega) (t.trans v.symm)
   exact⟨hh.1,aV hh.2 r (ho _ f hh.2.1)⟩
 ·rw[Rn d];exact s.kp _ _ _ ⟨r,λg b q=>ho g (λe=>b (by rw[e];exact key d)) q⟩ (h.ob s n)
theorem upd{o:Nat}(h:Mp w W rs S)(i:Nat)(b:Hid (W.setCells k o us=W'))(d:Row (W.setCells k o us) k c')(f:rs[i]? = some (k,c):=by rfl)(e:rs.set i (k,c')=rs':=by(simp only[Uw,Ux])<;>rfl):Mp w W' rs' S:=by
 subst e;rw[b.out]at d;refine h.turn f ?_ ?_ (λg j _=>?_) d
 ·rw[<-b.out];exact RG.below_setCells (h.lt (key f)).1 _ _ _ h.bl
 ·rw[<-b.out,setCells_size];exact Uy _
 ·rw[<-b.out];exact aH k us o W g j
theorem put(h:Mp w W rs S)(i:Nat)(f:Hid (W.setCells k 0 c'=W'))(b:rs[i]? = some (k,c):=by rfl)(d:c'.length=c.length:=by rfl)(e:rs.set i (k,c')=rs':=by(simp only[Uw,Ux])<;>rfl):Mp w W' rs' S:=h.upd i f ((h.at_ i b).put d) b e
theorem th(h:Mp w W rs S)(i:Nat)(d:rs[i]? = some (k,c):=by rfl)(b:c'.length=c.length:=by rfl):W.there k 0 c'.length:=by rw[b];exact(h.at_ i d).2.2
theorem say(h:Mp w W rs S)(i:Nat)(k:SP.Only r 0 32 W W')(j:Holds encB W' r 0 L')(c:rs[i]? = some (r,aA L):=by rfl)(e:rs.set i (r,aA L')=rs':=by(simp only[Uw,Ux])<;>rfl):Mp w W' rs' S:=by
 subst e;have b:=h.lt (key c);refine h.turn c (h.bl.trans (wX k h.bl.size b.1)) k.size (λg f d=>k.block g d f) (pW j (Uz b.2 k.size))
theorem log(h:Mp w W rs S)(i:Nat)(k:rs[i]? = some (r,aA L):=by rfl):Holds encB W r 0 L:=row_holds (h.at_ i k)
theorem wk(h:Mp w W rs S)(i:Nat)(b:rs[i]? = some (k,c):=by rfl):∃c,Mp w W (rs.set i (k,c)) S:=⟨c,by
 obtain⟨e,d⟩:=UG.1 b;rw[<-d,List.set_getElem_self];exact h⟩
end Mp
abbrev Iv.mx(w:Ut)(d:List (Nat × List Uv))(S:List Pq)(i k:Nat)(b:Bool):Iv:=⟨λW=>∃c,Mp w W (d.set i (k,c)) S,λ_ _ e ⟨c,h⟩=>⟨c,h.grow e⟩,b⟩
abbrev Iv.mp(w:Ut)(k:List (Nat × List Uv))(S:List Pq)(b:Bool):Iv:=⟨λW=>Mp w W k S,λ_ _ c h=>h.grow c,b⟩
end
namespace SPA
variable {N:Nat}[NeZero N]{M:Type}
namespace Md
variable (D:Md N M)
theorem cancel(a b c:M):D.ad a b=D.ad a c↔b=c:=by
 constructor
 ·intro h;have k:D.ad (D.ac (-1) a) (D.ad a b)=D.ad (D.ac (-1) a) (D.ad a c):=by rw[h]
  rw[<-D.assoc,<-D.assoc,D.comm _ a,D.AS,D.zadd,D.zadd]at k;exact k
 ·rintro rfl;rfl
theorem Iw(Y W T:Nat->(Fin N))(z:(Fin N))(k:Nat->M)(n:Nat)(h:∀i,i<n->Y i*W i=1):
 D.dt (λi=>z*Y i+z*z*T i) (λi=>D.ac (W i) (k i)) n=D.dt (λi=>z+z*z*(T i*W i)) k n:=
 D.xX n λi b=>by
  have c:=h i b;rw[D.acAc,show(z*Y i+z*z*T i)*W i=z+z*z*(T i*W i) by
   generalize Y i=y,W i=w,T i=t at *;grind]
theorem Gn(H G:M)(t d tau:(Fin N))(A B E:M):D.cm H G (t-d) tau=D.ad (D.ad A B) E↔D.cm H G t tau=D.ad (D.ad A (D.ac d H)) (D.ad B E):=by
 rw[<-D.cancel (D.ac d H)];have b:D.ad (D.ac d H) (D.cm H G (t-d) tau)=D.cm H G t tau:=by
  unfold cm;rw[<-D.assoc,<-D.adAc,show d+(t-d)=t by grind]
 have k:D.ad (D.ac d H) (D.ad (D.ad A B) E)=D.ad (D.ad A (D.ac d H)) (D.ad B E):=by ac_rfl
 rw[b,k]
theorem Gy(A X G:M)(mu x t w:(Fin N))(L K U:M):
 D.ad (D.ad (D.ad (D.ad A (D.ac x X)) (D.ac (-1) (D.ac mu G))) (D.ad L K)) (D.ac t (D.ac w U))=D.ad (D.ad (D.ad (D.ad A (D.ac x X)) (D.ac (-mu) G)) (D.ad L K)) (D.ac (t*w) U):=by
 rw[D.acAc,D.acAc,show(-1:(Fin N))*mu = -mu by grind]
end Md
end SPA
section
open SPA
variable {N:Nat}[NeZero N]{M:Type}
structure Rv(N:Nat) where
 v:Nat
 n:Nat
 s:Nat->Fin N
 q:Nat->Fin N
 al:Fin N
 rho:Fin N
 t1:Fin N
 t2:Fin N
 k:Fin N
 y:Fin N
 z:Fin N
 x:Fin N
 w:Fin N
namespace Rv
variable (R:Rv N)
def l(i:Nat):Fin N:=btF N R.v i
def m(i:Nat):Fin N:=btF N R.v i-1
def a0(i:Nat):Fin N:=R.l i+-R.z
def sh(i:Nat):Fin N:=R.z*pwF R.y i+R.z*R.z*pwF (ofF N 2) i
def b0(i:Nat):Fin N:=R.m i*pwF R.y i+R.sh i
def b1(i:Nat):Fin N:=R.q i*pwF R.y i
def a(i:Nat):Fin N:=R.a0 i+R.s i*R.x
def b(i:Nat):Fin N:=R.b0 i+R.b1 i*R.x
def c1:Fin N:=Md.pr R.a0 R.b1 R.n+Md.pr R.s R.b0 R.n
def c2:Fin N:=Md.pr R.s R.b1 R.n
def t:Fin N:=Md.pr R.a R.b R.n
def tau:Fin N:=R.t1*R.x+R.t2*R.x*R.x+R.z*R.z*R.k
def mu:Fin N:=R.al+R.rho*R.x
def d:Fin N:=(R.z-R.z*R.z)*Md.pr (λ_=>1) (pwF R.y) R.n-R.z*R.z*R.z*ofF N (2^R.n-1)
variable (D:Md N M) (G H U:M) (g k:Nat->M)
def pA:M:=D.ad (D.ac R.al G) (D.ad (D.dt R.l g R.n) (D.dt R.m k R.n))
def pS:M:=D.ad (D.ac R.rho G) (D.ad (D.dt R.s g R.n) (D.dt R.q k R.n))
def pV:M:=D.cm H G (ofF N R.v) R.k
def p1:M:=D.cm H G R.c1 R.t1
def p2:M:=D.cm H G R.c2 R.t2
def hh(i:Nat):M:=D.ac (pwF (ivF R.y) i) (k i)
def rg:Md.Rg (Fin N):=rgF R.v R.s R.q R.y (ivF R.y) R.z R.x
theorem Sx:R.rg.a0=R.a0:=funext λi=>by
 show R.l i-R.z=R.l i+-R.z;grind
theorem Sw:R.rg.b0=R.b0:=funext λi=>by
 show pwF R.y i*(R.m i+R.z)+R.z*R.z*pwF (ofF N 2) i=R.m i*pwF R.y i+(R.z*pwF R.y i+R.z*R.z*pwF (ofF N 2) i);grind
theorem PU:R.rg.b1=R.b1:=funext λi=>by
 show pwF R.y i*R.q i=R.q i*pwF R.y i;grind
theorem e_a:R.rg.a=R.a:=funext λi=>by
 show R.rg.a0 i+_=_;rw[Sx];rfl
theorem e_b:R.rg.b=R.b:=funext λi=>by
 show R.rg.b0 i+R.rg.b1 i*_=_;rw[Sw,PU];rfl
theorem IM(b:Nat->Fin N):∀n,Md.pr (λ_=>1) b n=(SPA.own N).sm b n
 | 0=>rfl
 | n+1=>by
  show Md.pr (λ_=>1) b n+1*b n=(SPA.own N).sm b n+b n;rw[IM b n];grind
theorem e_d:R.rg.d R.n=R.d:=by
 unfold d;rw[IM];exact QW _ _ _ _ _ _ _ _
theorem sums(d:IsP N)(e:R.y.val≠0)(hv:R.v<2^R.n):D.cm H G (R.t-R.d) R.tau=D.ad (D.ad (D.ac (R.z*R.z) (R.pV D G H)) (D.ac R.x (R.p1 D G H))) (D.ac (R.x*R.x) (R.p2 D G H)):=by
 rw[D.Gn];have h:=D.De R.rg R.n (IE R.v R.s R.q R.z R.x (sL d R.y e) R.n) H G R.k R.t1 R.t2;have ev:R.rg.v R.n=ofF N R.v:=QV _ _ _ _ _ _ _ _ hv;have c:R.rg.t1 R.n=R.c1:=by
  show Md.pr R.rg.a0 R.rg.b1 R.n+Md.pr R.s R.rg.b0 R.n=_;rw[Sx,PU,Sw];rfl
 have k:R.rg.t2 R.n=R.c2:=by
  show Md.pr R.s R.rg.b1 R.n=_;rw[PU];rfl
 rw[ev,c,k,e_d,e_a,e_b]at h;have b:R.t1*R.x+R.t2*(R.x*R.x)+R.z*R.z*R.k=R.tau:=by
  show _=R.t1*R.x+R.t2*R.x*R.x+R.z*R.z*R.k;grind
 rw[show R.rg.x=R.x from rfl,show R.rg.z=R.z from rfl,b]at h;exact h
theorem point(b:IsP N)(c:R.y.val≠0):
 D.ad (D.ad (D.ad (D.ad (R.pA D G g k) (D.ac R.x (R.pS D G g k))) (D.ac (-1) (D.ac R.mu G))) (D.ad (D.dt (λ_=>-R.z) g R.n) (D.dt R.sh (R.hh D k) R.n))) (D.ac R.t (D.ac R.w U))=D.hd R.a R.b g (R.hh D k) (D.ac R.w U) R.n:=by
 rw[D.Gy];have h:=D.Cb R.rg R.n (IE R.v R.s R.q R.z R.x (sL b R.y c) R.n) G g k U R.al R.rho R.w;have d:=D.Iw (pwF R.y) (pwF (ivF R.y)) (pwF (ofF N 2)) R.z k R.n λi _=>Dv (sL b R.y c) i
 rw[e_a,e_b]at h;rw[show D.dt R.sh (R.hh D k) R.n=_ from d];exact h
end Rv
end
section
open Go.RowKit Go.Sort Go.Deep Go.Shelf
section
variable {P:VD}{ops:Array Vk}{rest:List Vk}{op:Vk}{a:Act}{w w':Ut}{v:Uv}{Q:X9->Act->Ut->Prop}
theorem wpList_build(b:op.guard=none)(e:Vb)(n:Nat)(k:Array (Nat × XM))(_:op.op=.buildSlice e n k)(d:(U9 a.eval op).run P w=.ok (.value v) w')(h:wpList P ops Q rest (a.put op.dst v) w'):wpList P ops Q (op :: rest) a w:=
 Xd b λK c=>by
  unfold VT;rw[d];exact c _ _ h
end
variable {P:Nat}[NeZero P]
def iF:ByteArray:=⟨#[118,97,108,117,101]⟩
noncomputable def cmt (P:Nat) [NeZero P] (n m:Nat):EC.Pt P:=tot (λj=>if j=0 then .some (hpt P iF []) else gG P) 2 (λj=>if j=0 then(n:Int) else(m:Int))
def Bu(P:Nat)[NeZero P](N:Nat)(w:Ut)(b k:Bs)(e:Uv)(w':Ut):Prop:=match rq N b,rq N k with
 | some n,some m=>He w (wr (cmt P n m)) e w'
 | _,_=>Ky 3 e
theorem Lj{w:Ut}{v b:Uv}{d k:Bs}(T:Vb)(h:Arg w v d)(f:Arg w b k):vQ (w.alloc (.cells #[v,b] T)) (some (aZ w.heap.size)) 2 (λj=>if j=0 then d else k):=λ_ =>
 ⟨w.heap.size,rfl,by rw[UD];omega,λj g=>by
  have e:=(Made.alloc w [v,b] T).range;have c:j=0\/j=1:=by omega
  rcases c with rfl|rfl
  ·exact⟨v,e 0 _ rfl,h.below (aC w _)⟩
  ·exact⟨b,e 1 _ rfl,f.below (aC w _)⟩⟩
theorem I5(w:Ut):PartOk w (.slice none 0 0) []:=⟨none,0,0,0,#[],rfl,rfl,Uy _,by decide,U6 rfl⟩
theorem zQ(q:Fin P × Fin P):Pair q.1 q.2 (.some q:EC.Pt P):=⟨rfl,rfl⟩
theorem P3(C : Fld P){n m : Nat}(hn : n < top)(hm : m < top){ns : Nat -> Nat}{xs ys : Nat -> Fin P}(h0 : ns 0 = n)(h1 : ns 1 = m)(hx0 : xs 0 = (hpt P iF []).1)(hy0 : ys 0 = (hpt P iF []).2)(hx1 : xs 1 = gX P)(hy1 : ys 1 = gY P):
    tC (ptP (iI ns xs ys 2 257)).1 (ptP (iI ns xs ys 2 257)).2 = wr (cmt P n m) := by
  have hJ := BG C (N := 2) (ns := ns) (xs := xs) (ys := ys) (p := λj => if j = 0 then(.some (hpt P iF []) : EC.Pt P) else gG P)
    (fun j hj => by have : j = 0 ∨ j = 1 := by omega
                    rcases this with rfl | rfl
                    · rw [h0]; exact hn
                    · rw [h1]; exact hm)
    (fun j hj => by have : j = 0 ∨ j = 1 := by omega
                    rcases this with rfl | rfl
                    · rw [hx0, hy0]; exact zQ _
                    · rw [hx1, hy1]; exact zQ (gX P, gY P))
    (fun j hj => by have : j = 0 ∨ j = 1 := by omega
                    rcases this with rfl | rfl
                    · exact AZ C _ _
                    · exact Cu C)
  have e1 := vK C (hJ.pair C) hJ.2;have e2 : tot (λj => if j = 0 then(.some (hpt P iF []) : EC.Pt P) else gG P) 2 (λj => (ns j : Int)) = cmt P n m := eJ 2 λj hj => by
    have : j = 0 \/ j = 1 := by omega
    rcases this with rfl | rfl
    · rw [h0]; rfl
    · rw [h1]; rfl
  rw [e2]at e1;exact e1
theorem C3{N:Nat}(C:Fld P)(hG:Gap 4624529908474429119 4994812053365940164 1 N)(hN:N<=top)(v0 v1:Uv)(A F:Bs)(w:Ut)(h0:Arg w v0 A)(h1:Arg w v1 F):
 UK prog 11 #[v0,v1] w (rZ w λe w'=>Bu P N w A F e w'):=by
 have hA:=Lj 23 h0 h1;obtain⟨p0,n0,c0,rfl,-,-⟩:=h0;obtain⟨p1,n1,c1,rfl,-,-⟩:=h1;have G:=Od hG 2 2 (by decide) _ _ _ hA;clear hA;go_enter func11,ntmps11;go_wp2_with fail
 refine G.mono ?_;rintro e c ⟨v,rfl,E,⟨k,h5,V,rfl,a⟩|⟨⟨j,U,b⟩,rfl⟩⟩
 ·obtain⟨n,hn,T⟩:=a 0 (by decide);obtain⟨m,hm,Z⟩:=a 1 (by decide);clear a G;have Y:Hid (kZ w c):=(aC w _).trans (E.mono (by rw[UD];omega));have Q:Hid (k<c.heap.size/\c.rangeAt k (4*0) (wn n)/\c.rangeAt k (4*1) (wn m)):=⟨V,T,Z⟩
  have R:Hid (rq N A=some n/\rq N F=some m):=⟨hn,hm⟩
  clear E h5 V T Z hn hm;go_wp2_with fail
  refine(wU iF none 0 0 c).mono ?_;rintro e w2 ⟨v,rfl,rfl,rfl⟩;have hF:=Ae C iF none 0 0 [] c (by decide) (I5 c);obtain⟨q,hq⟩:∃q,Hid (hpt P iF []=q):=⟨_,rfl⟩
  rw[hq.out]at hF;obtain⟨x,y⟩:=q;obtain⟨gx,W⟩:∃gx,Hid (gX P=gx):=⟨_,rfl⟩
  obtain⟨p,X⟩:∃p,Hid (gY P=p):=⟨_,rfl⟩
  have D:=Ej C;rw[W.out,X.out]at D;obtain⟨v4,L⟩:∃v4,Hid (pv x y=v4):=⟨_,rfl⟩
  obtain⟨v5,K⟩:∃v5,Hid (pv gx p=v5):=⟨_,rfl⟩
  replace hF:UK prog 49 #[.func (.func 112) #[] #[jZ c.heap.size,.pointer (some ⟨c.heap.size+1,0,none⟩)]] ((c.alloc (.cells #[.string iF] 9)).alloc (.cells #[.slice none 0 0] 23)) (rZ c λe w'=>e=v4):=by rw[<-L.out];exact hF
  rw[K.out]at D;go_wp2_with fail
  refine hF.mono ?_;rintro e w3 ⟨v,rfl,u,rfl⟩;have M:Hid (kZ w w3):=Y.out.trans (u.mono Y.out.size);have f:Hid (k<w3.heap.size/\w3.rangeAt k (4*0) (wn n)/\w3.rangeAt k (4*1) (wn m)):=⟨Uz Q.out.1 u.size,RG.range_below Q.out.2.1 u Q.out.1,RG.range_below Q.out.2.2 u Q.out.1⟩
  clear hF u Y Q;go_wp2_with fail
  refine(D _).mono ?_;rintro e o ⟨v,rfl,t,rfl⟩;have O:Hid (kZ w o):=M.out.trans (t.mono M.out.size);have d:Hid (k<o.heap.size/\o.rangeAt k (4*0) (wn n)/\o.rangeAt k (4*1) (wn m)):=⟨Uz f.out.1 t.size,RG.range_below f.out.2.1 t f.out.1,RG.range_below f.out.2.2 t f.out.1⟩
  clear D t M f;obtain⟨l,J⟩:∃l,Hid (o.alloc (.cells ((ws x++ws y)++(ws gx++ws p)).toArray 93)=l):=⟨_,rfl⟩
  go_wp2_with (refine wpList_build (v:=sZ o.heap.size 2 2) (w':=l) rfl 100 2 _ rfl ?_ ?_;rw[<-J.out,<-L.out,<-K.out];kernel_rfl;refine Hid.out ?_)
  have H:Hid (kZ w l/\k<l.heap.size/\o.heap.size<l.heap.size/\(∀i,i<2->l.rangeAt k (4*i) (wn (if i=0 then n else m)))/\∀i,i<2->l.rangeAt o.heap.size (8*i) (ws (if i=0 then x else gx)++ws (if i=0 then y else p))):=by
   have r:=Made.alloc o ((ws x++ws y)++(ws gx++ws p)) 93;have S:o.alloc (.cells ((ws x++ws y)++(ws gx++ws p)).toArray 93)=l:=J.out;rw[S]at r;refine⟨O.out.trans (r.bel.mono O.out.size),Uz d.out.1 r.bel.size,r.lt,λi I=>?_,λi I=>?_⟩
   ·have:i=0\/i=1:=by omega
    rcases this with rfl|rfl
    ·exact RG.range_below d.out.2.1 r.bel d.out.1
    ·exact RG.range_below d.out.2.2 r.bel d.out.1
   ·have:i=0\/i=1:=by omega
    rcases this with rfl|rfl
    ·intro j v U;have B:j<8:=(UG.1 U).1;have:=r.range j v (by rw[UX (show j<(ws x++ws y).length from B)];exact U);exact this
    ·intro j v U;have:=r.range (8+j) v (by rw[U4 (show(ws x++ws y).length<=8+j from Nat.le_add_right 8 j),show 8+j-(ws x++ws y).length=j from WH 8 j];exact U);rw[UF]at this;exact this
  clear J O d L K;show wpList _ _ _ _ _ _;have G:UK prog 48 #[sZ k 2 2,sZ o.heap.size 2 2] l (rZ l λe w'=>e=pv (ptP (iI (λi=>if i=0 then n else m) (λi=>if i=0 then x else gx) (λi=>if i=0 then y else p) 2 257)).1 (ptP (iI (λi=>if i=0 then n else m) (λi=>if i=0 then x else gx) (λi=>if i=0 then y else p) 2 257)).2):=by
   refine(Ic C 2 (by decide) (λi=>if i=0 then n else m) (λi=>if i=0 then x else gx) (λi=>if i=0 then y else p) (λi I=>?_) k o.heap.size l H.out.2.1 H.out.2.2.1 H.out.2.2.2.1 H.out.2.2.2.2).mono ?_
   ·have:i=0\/i=1:=by omega
    rcases this with rfl|rfl
    ·exact wM hN R.out.1
    ·exact wM hN R.out.2
   ·rintro e w' ⟨v,rfl,r,s,rfl,rfl⟩;exact⟨_,rfl,r,rfl⟩
  have hW:=P3 C (n:=n) (m:=m) (wM hN R.out.1) (wM hN R.out.2) (ns:=λi=>if i=0 then n else m) (xs:=λi=>if i=0 then x else gx) (ys:=λi=>if i=0 then y else p) rfl rfl (by rw[hq.out];rfl) (by rw[hq.out];rfl) (by rw[W.out];rfl) (by rw[X.out];rfl);generalize ptP (iI (λi=>if i=0 then n else m) (λi=>if i=0 then x else gx) (λi=>if i=0 then y else p) 2 257)=z at G hW;have B:∀w,UK prog 52 #[pv z.1 z.2] w (rZ w λe w'=>mK w (tC z.1 z.2) e w'):=vJ C _ _;rw[hW]at B;clear hW;generalize pv z.1 z.2=v6 at G B;go_wp2_with fail
  refine G.mono ?_;rintro e w6 ⟨v,rfl,h3,rfl⟩;have I:Hid (kZ w w6):=H.out.1.trans (h3.mono H.out.1.size);clear h3 H G;go_wp2_with fail
  refine(B _).mono ?_;rintro e w7 ⟨v,rfl,S,g,r,rfl,h6,h7,h4,h2⟩;have h8:Hid (kZ w w7):=I.out.trans (S.mono I.out.size);have HO:Hid (Bu P N w A F (.tuple #[sZ g 33 r,iZ 0]) w7):=by
   show Bu P N w A F (.tuple #[sZ g 33 r,iZ 0]) w7;unfold Bu;rw[R.out.1,R.out.2];exact⟨g,r,rfl,h6,UE I.out.size h7,h4,h2⟩
  clear S h2 B;go_wp2
  go_ret2
  exact⟨_,rfl,h8.out,HO.out⟩
 ·have Y:Hid (kZ w c):=(aC w _).trans (E.mono (by rw[UD];omega));have HO:Hid (Bu P N w A F (.tuple #[.slice none 0 0,iZ 3]) c):=by
   show Bu P N w A F (.tuple #[.slice none 0 0,iZ 3]) c;unfold Bu;have:j=0\/j=1:=by omega
   rcases this with rfl|rfl
   ·have b:rq N A=none:=b;rw[b];rfl
   ·have b:rq N F=none:=b;rw[b];cases rq N A<;>rfl
  clear E b G;go_wp2
  go_ret2
  exact⟨_,rfl,Y.out,HO.out⟩
end
section
open Go.RowKit Go.Sort Go.Deep
variable {P:Nat}[NeZero P]{N:Nat}
theorem kL(O:Ord N){n:Nat}(k:n<N):rq N (bx n)=some n:=by
 have hv:beV (bx n).toList=n:=Bn (Uz k O.le);unfold rq;rw[hv,yCk ⟨eE n,k⟩]
def Ez(W:Ut)(v:Uv)(T:Bs):Prop:=∃g c,v=sZ g 33 c/\33<=c/\g<W.heap.size/\Holds encB W g 0 T
theorem Ez.grow{W W':Ut}{v:Uv}{T:Bs}(h:Ez W v T)(k:kZ W W'):Ez W' v T:=by
 obtain⟨g,c,e,f,b,d⟩:=h;exact⟨g,c,e,f,Uz b k.size,Holds.below d k b⟩
def Et(W:Ut)(v:Uv)(T:Bs):Prop:=∃u,v=.tuple #[u,iZ 0]/\Ez W u T
section
variable (w:Ut) (k2 k3 k4 a b:Nat) (T:Bs)
def RC1:Nat->Uv->Ut->Prop
 | 0,v,_=>v=nv a
 | 1,v,W=>El 32 W v (bx a)
 | 2,v,_=>v=nv b
 | 3,v,W=>El 32 W v (bx b)
 | 4,v,W=>Et W v T
 | 5,v,W=>Et W v T
 | 6,v,W=>Ez W v T
 | 7,v,_=>v=iZ 0
 | 8,v,W=>Ez W v T
 | 9,v,_=>v=iZ 0
 | _,_,_=>True
def GC1:Gw:=⟨RC1 a b T,λW=>Kp w W [(k4,z33),(k3,wn b),(k2,wn a)],λi v W W' k h=>by
 match i,h with
 | 0,h=>exact h
 | 1,h=>exact El.below h k (Uy _)
 | 2,h=>exact h
 | 3,h=>exact El.below h k (Uy _)
 | 4,h=>obtain⟨u,c,d⟩:=h;exact⟨u,c,d.grow k⟩
 | 5,h=>obtain⟨u,c,d⟩:=h;exact⟨u,c,d.grow k⟩
 | 6,h=>exact Ez.grow h k
 | 7,h=>exact h
 | 8,h=>exact Ez.grow h k
 | 9,h=>exact h
 | _+10,_=>trivial,λW W' k h=>h.grow k⟩
end
theorem oL(C:Fld P)(O:Ord N){a b:Nat}(M:a<N)(R:b<N):Gives 69 #[nv a,nv b] (pvl (wr (cmt P a b))):=by
 intro w;obtain⟨T,J⟩:∃T,Hid (wr (cmt P a b)=T):=⟨_,rfl⟩
 have L:T.size=33:=by rw[<-J.out];exact aT _
 have r:Hid (Ord N/\a<N/\b<N):=⟨O,M,R⟩
 have S:Hid (∀(v0 v1:Uv) (W:Ut),El 32 W v0 (bx a)->El 32 W v1 (bx b)->UK prog 11 #[v0,v1] W (rZ W λe w'=>Et w' e T)):=λv0 v1 W h0 h1=>by
  refine(C3 (N:=N) C O.gap O.le v0 v1 (bx a) (bx b) W h0.arg h1.arg).mono ?_;rintro e W' ⟨u,rfl,k,hR⟩;unfold Bu at hR;rw[kL O M,kL O R]at hR;obtain⟨g,c,rfl,o,q,p,f⟩:=hR;rw[J.out]at f;exact⟨_,rfl,k,_,rfl,g,c,rfl,o,p,f⟩
 rw[J.out];clear C O J M R;obtain⟨va,z⟩:∃v,Hid (nv a=v):=⟨_,rfl⟩
 obtain⟨vb,E⟩:∃v,Hid (nv b=v):=⟨_,rfl⟩
 have Q:=boxS a w;obtain⟨j,n⟩:∃j,Hid (w.alloc (.cells (wn a).toArray 49)=j):=⟨_,rfl⟩
 have G:=boxS b j;obtain⟨i,l⟩:∃i,Hid (j.alloc (.cells (wn b).toArray 49)=i):=⟨_,rfl⟩
 obtain⟨m,f⟩:∃m,Hid (i.alloc (.cells z33.toArray 103)=m):=⟨_,rfl⟩
 rw[z.out,n.out]at Q;rw[E.out,l.out]at G;rw[z.out,E.out];have I:j.heap.size=w.heap.size+1:=by rw[<-n.out,UD]
 have K:i.heap.size=w.heap.size+2:=by rw[<-l.out,UD,I]
 rw[I]at G;have y:Hid (Kp w m [(w.heap.size+2,z33),(w.heap.size+1,wn b),(w.heap.size,wn a)]):=by
  have o:Row j w.heap.size (wn a):=by rw[<-n.out];exact aE w _ _
  have q:Row i (w.heap.size+1) (wn b):=by rw[<-l.out,<-I];exact aE j _ _
  have p:Row m (w.heap.size+2) z33:=by rw[<-f.out,<-K];exact aE i _ _
  have b1:kZ w j:=by rw[<-n.out];exact aC w _
  have s:kZ j i:=by rw[<-l.out];exact aC j _
  have k:kZ i m:=by rw[<-f.out];exact aC i _
  refine⟨(b1.trans (s.mono (by omega))).trans (k.mono (by omega)),λx hx=>?_⟩;simp only[V0,U1,or_false]at hx;rcases hx with rfl|rfl|rfl
  ·exact p
  ·exact q.below k
  ·exact(o.below s).below k
 have BA:=Hid.mk' Q;have BB:=Hid.mk' G;have X:=Hid.mk' K;clear Q G I K;go_enter func69,ntmps69;go_wp2_with (first|(refine aF (u:=va) (v:=jZ w.heap.size) (w':=j) rfl 49 (.tmp 0) rfl ?_ ?_ ?_;rfl;exact BA.out)|(refine aF (u:=vb) (v:=.pointer (some ⟨w.heap.size+1,0,none⟩)) (w':=i) rfl 49 (.tmp 1) rfl ?_ ?_ ?_;rfl;exact BB.out)|(refine bG (v:=.pointer (some ⟨w.heap.size+2,0,none⟩)) (w:=i) (w':=m) rfl (.alloc 103) rfl ?_ ?_;(rw[<-f.out,<-X.out];kernel_rfl))|fail)
 clear BA BB n l f X;refine(GC1 w w.heap.size (w.heap.size+1) (w.heap.size+2) a b T).draws (by kernel_rfl) (by kernel_rfl) ⟨
  iW 49 2 rfl u40 λx W k=>⟨w.heap.size,0,wn a,k.o 2 (by kernel_rfl),(k.b.at 2 rfl).2.1,i40,rfl⟩,
  gK λx W k=>⟨[(8,nv a)],141,#[nv a],⟨k.n 0 8 (by kernel_rfl) (by kernel_rfl),yCm⟩,by kernel_rfl,by
   refine(qN r.out.1 r.out.2.1 W).mono ?_;rintro e W' ⟨u,rfl,p,o,rfl⟩;exact⟨_,rfl,o.bel,El.of_made o (eE a)⟩⟩,
  iW 49 3 rfl u40 λx W k=>⟨w.heap.size+1,0,wn b,k.o 3 (by kernel_rfl),(k.b.at 1 rfl).2.1,i40,rfl⟩,
  gK λx W k=>⟨[(10,nv b)],141,#[nv b],⟨k.n 2 10 (by kernel_rfl) (by kernel_rfl),yCm⟩,by kernel_rfl,by
   refine(qN r.out.1 r.out.2.2 W).mono ?_;rintro e W' ⟨u,rfl,p,o,rfl⟩;exact⟨_,rfl,o.bel,El.of_made o (eE b)⟩⟩,
  gK λx W k=>⟨[(9,x.eval (.tmp 9)),(11,x.eval (.tmp 11))],11,#[x.eval (.tmp 9),x.eval (.tmp 11)],⟨rfl,rfl,yCm⟩,by kernel_rfl,S.out _ _ W (k.n 1 9 (by kernel_rfl) (by kernel_rfl)) (k.n 3 11 (by kernel_rfl) (by kernel_rfl))⟩,
  bN λx W k=>⟨[(12,x.eval (.tmp 12))],x.eval (.tmp 12),W,⟨rfl,yCm⟩,by kernel_rfl,UT _ _,k.n 4 12 (by kernel_rfl) (by kernel_rfl)⟩,
  bN λx W k=>by
   obtain⟨u,o,p⟩:=show Et W (x.eval (.tmp 7)) T from k.n 5 7 (by kernel_rfl) (by kernel_rfl)
   exact⟨[(7,.tuple #[u,iZ 0])],u,W,⟨o,yCm⟩,by kernel_rfl,UT _ _,p⟩,
  bN λx W k=>by
   obtain⟨u,o,p⟩:=show Et W (x.eval (.tmp 7)) T from k.n 5 7 (by kernel_rfl) (by kernel_rfl)
   exact⟨[(7,.tuple #[u,iZ 0])],iZ 0,W,⟨o,yCm⟩,by kernel_rfl,UT _ _,rfl⟩,
  bN λx W k=>⟨[(13,x.eval (.tmp 13))],x.eval (.tmp 13),W,⟨rfl,yCm⟩,by kernel_rfl,UT _ _,k.n 6 13 (by kernel_rfl) (by kernel_rfl)⟩,
  bN λx W k=>⟨[(14,iZ 0)],iZ 0,W,⟨k.n 7 14 (by kernel_rfl) (by kernel_rfl),yCm⟩,by kernel_rfl,UT _ _,rfl⟩,yCm⟩ y.out.drew ?_
 intro V p B D;obtain⟨g,cg,t,-,U,Y⟩:=show Ez p (V 8) T from B 8 (Nat.lt_of_succ_le (Nat.le_of_ble_eq_true (by kernel_rfl)))
 have o:Kp w p [(w.heap.size+2,z33),(w.heap.size+1,wn b),(w.heap.size,wn a)]:=D;have F:Hid (Row p (w.heap.size+2) z33/\kZ w p/\Row p g (aA T)):=⟨o.at 0 rfl,o.bl,pW Y U⟩
 dsimp only[bU,VO];simp only[UR,Uu,Uw,Ux];rw[t];clear B D t o y U Y r S;have h2:=FV g cg;obtain⟨m,f⟩:∃m,Hid (p.setCells (w.heap.size+2) 0 (aA T)=m):=⟨_,rfl⟩
 have k:(aA T).length=33:=aB L;have y:Hid (Row m (w.heap.size+2) (aA T)/\kZ w m):=by rw[<-f.out];exact⟨F.out.1.put (by rw[k];rfl),RG.below_setCells (by omega) _ _ _ F.out.2.1⟩
 obtain⟨vt,s⟩:∃vt,Hid (U5 (aA T).toArray=vt):=⟨_,rfl⟩
 obtain⟨d,A,q⟩:=UA.1 uCP;have Z:Hid (prog.underlying 103=some d/\d.isRow=true):=⟨A,q⟩
 have H:Hid ((prog.info? 103).map (·.size)=some (aA T).length/\p.there (w.heap.size+2) 0 (aA T).toArray.size/\(prog.info? 103).map (·.size)=some (aA T).toArray.size):=by
  have e:(aA T).toArray.size=33:=by rw[VE];exact k
  refine⟨by rw[k];exact cV,by rw[e];exact F.out.1.2.2,by rw[e];exact cV⟩
 clear k A q;generalize V 0=s0;generalize V 1=s1;generalize V 2=s2;generalize V 3=s3;generalize V 4=s4;generalize V 5=s5;generalize V 6=s6;generalize V 7=s7;generalize V 9=s9;go_wp2_with (first|(refine U8 rfl 103 _ rfl g 0 ?_ (aA T) d ?_ ?_ ?_ ?_ ?_;rfl;exact F.out.2.2.2.1;exact Z.out.1;exact Z.out.2;exact H.out.1;rw[s.out])|(refine U3 rfl 103 _ _ rfl (w.heap.size+2) 0 (aA T).toArray ?_ ?_ ?_ ?_ ?_ ?_;rfl;exact s.out.symm;exact H.out.2.1;exact H.out.2.2;exact bW T;rw[show(aA T).toArray.toList=aA T from rfl,f.out])|fail)
 refine UH (aG 4 103 rfl y.out.1 rfl uCP H.out.1) rfl ?_;exact⟨_,rfl,y.out.2,rfl⟩
end
section
open Go.RowKit Go.Sort Go.Deep Go.Shelf
attribute [local go_sem] yAc
end
section
open Go.RowKit Go.Sort Go.Deep Go.Shelf
attribute [local go_sem] yAc
end
section
open Go.RowKit Go.Sort Go.Deep
variable {P:Nat}[NeZero P]{N:Nat}
def zz(n:Nat):List Uv:=(VG n (V2 .u8 0))
def o33:Bs:=UM 33 0
theorem MA:(.agg z33.toArray:Uv)=pvl o33:=by
 unfold pvl z33 o33 aA;rw[XT,List.map_replicate];rfl
theorem Sm.mono{B k:Nat}{W:Ut}{v:Uv}{l:List (Nat × Bs)}(h:Sm B W v l)(d:k<=B):Sm k W v l:=by
 obtain⟨g,c,f,i,e,b⟩:=h;exact⟨g,c,f,i,UE d e,b⟩
section
variable (w:Ut) (k6 k8 n:Nat) (Y A T:Bs)
def Rb:Nat->Uv->Ut->Prop
 | 0,v,_=>v=pvl Y
 | 1,v,W=>Sm w.heap.size W v [(1,Y)]
 | 2,v,_=>v=pvl A
 | 3,v,_=>v=nv n
 | 4,v,W=>Sm w.heap.size W v [(n,A)]
 | 5,v,W=>Sm w.heap.size W v [(1,Y),(n,A)]
 | 6,v,_=>v=pvl T
 | 7,v,W=>El 33 W v T
 | 8,v,W=>El 33 W v T
 | 9,v,_=>v=iZ 0
 | _,_,_=>True
def Gb:Gw:=⟨Rb w n Y A T,λW=>Kp w W [(k8,wn n),(k6,aA Y)],λi v W W' k h=>by
 match i,h with
 | 0,h=>exact h
 | 1,h=>exact Sm.grow h k
 | 2,h=>exact h
 | 3,h=>exact h
 | 4,h=>exact Sm.grow h k
 | 5,h=>exact Sm.grow h k
 | 6,h=>exact h
 | 7,h=>exact El.below h k (Uy _)
 | 8,h=>exact El.below h k (Uy _)
 | 9,h=>exact h
 | _+10,_=>trivial,λW W' k h=>h.grow k⟩
end
theorem CP(x:UInt8)(r:List UInt8):beV (x :: r)=x.toNat*256^r.length+beV r:=by
 have h:=jR [x] r;rw[show [x]++r=x :: r from rfl]at h;rw[h];simp[beV]
end
section
open Go.RowKit Go.Sort Go.Deep
theorem FO:∀(l r:List UInt8),l.length=r.length->beV l=beV r->l=r
 | [],[],_,_=>rfl
 | x :: l,y :: r,hl,h=>by
  have k:l.length=r.length:=Nat.succ.inj hl;rw[CP,CP,k]at h;have b1:=Ei l;have c:=Ei r;rw[k]at b1;have b:0<256^r.length:=X6 dC;have e:(x.toNat*256^r.length+beV l)/256^r.length=x.toNat:=by
   rw[Vv,yBt b,XA b1,Xm]
  have d:(y.toNat*256^r.length+beV r)/256^r.length=y.toNat:=by
   rw[Vv,yBt b,XA c,Xm]
  have e3:x.toNat=y.toNat:=by rw[<-e,<-d,h]
  have f:=UInt8.toNat_inj.1 e3;subst f;rw[FO l r k oM]
theorem SG{b:Bs}(k:b.size=32){n:Nat}(c:n<top)(h:beV b.toList=n):bx n=b:=by
 have:=FO (bx n).toList b.toList (by rw[UL,UL,eE,k]) (by rw[Bn c,h]);exact Array.toList_inj.1 this
variable {P:Nat}[NeZero P]
end
section
open Go.RowKit Go.Sort Go.Deep
variable {P:Nat}[NeZero P]{N:Nat}
theorem wG(O:Ord N)(B:Nat)(s t:Uv)(l m:List (Nat × Bs))(z:0<l.length)(T:l.length<=500)(U:m.length<=500)(a:∀x∈l,x.2.size=33)(d:∀x∈m,x.2.size=33)(A:∀x∈m,x.1<N)(w:Ut)(L:B<=w.heap.size)(F:Sm B w s l)(I:Sm B w t m):
 UK prog 194 #[s,t] w (rZ w λe w'=>Sm w.heap.size w' e (l++m.map (tmT N (sMi N 0 1)))):=by
 have u:1<N:=by have:2<=N:=UE O.n2 (Nat.mod_le _ _);omega
 have k:=Hid.mk' (IX O u);have g:sMi N 0 1<N:=V6 _ O.pos;generalize sMi N 0 1=o at k g⊢;have H:Hid (∀W,kZ w W->UK prog 164 #[t,nv o] W (rZ W λe w'=>Sm W.heap.size w' e (m.map (tmT N o)))):=λW C=>by
  have b:∀x∈m.map (·.2),x.size=33:=λx hx=>by obtain⟨y,c,rfl⟩:=Vn.1 hx;exact d y c
  exact eG O g B t m oM b A W (I.grow C)
 have S:Hid (∀W v,kZ w W->Sm w.heap.size W v (m.map (tmT N o))->UK prog 65 #[s,v] W (rZ W λe w'=>Sm W.heap.size w' e (l++m.map (tmT N o)))):=λW v C hv=>by
  refine rS B s v l (m.map (tmT N o)) z T (by rw[US];exact U) a (λx hx=>?_) W (F.grow C) (hv.mono L);obtain⟨y,c,rfl⟩:=Vn.1 hx;exact d y c
 obtain⟨Z,cs,V,-⟩:=id F;obtain⟨gt,X,J,-⟩:=id I;subst V;subst J;obtain⟨v1,c⟩:=hE (nv 1);obtain⟨vo,b⟩:=hE (nv o);rw[c.out,b.out]at k;rw[b.out]at H;have G:=Hid.mk' (I1);rw[c.out]at G;go_enter func194,ntmps194;go_wp2_with fail
 refine(G w).mono ?_;rintro e R ⟨Q,rfl,f,rfl⟩;go_wp2_with fail
 refine(k R).mono ?_;rintro e M ⟨Q,rfl,n,rfl⟩;have j:=mk1 (f.trans (n.mono f.size));go_wp2_with fail
 refine(H M j.out).mono ?_;rintro e P ⟨K,rfl,q,r⟩;have i:=mk2 (j.trans (q.mono j.size)) (r.mono j.size);go_wp2_with fail
 refine(S P K i.1 i.2).mono ?_;rintro e w4 ⟨Y,rfl,p,D⟩;have E:=mk2 (i.1.trans (p.mono i.1.size)) (D.mono i.1.size);go_wp2;go_ret;exact⟨_,rfl,E.1,E.2⟩
def encV(v:Uv):Uv:=v
omit [NeZero P] in
theorem KU:(wr (none:EC.Pt P))=o33:=by
 show Hj=o33;decide +kernel
theorem Kk(q:Option Wv)(c:Nat)(w:Ut):UK prog 120 #[.func (.func 53) #[] #[],.slice q 0 c] w (rZ w λe w'=>∃K,e=.tuple #[sZ K 0 0,.bool true]):=by
 obtain⟨C0,g,d⟩:=Ry 0 dC;have k:(Instr.makeSlice 200 (iZ 0) (iZ 0)).run prog w=.ok (sZ w.heap.size 0 0) (w.alloc (.cells C0.toArray 103)):=d w;obtain⟨f,b⟩:∃f,Hid (w.alloc (.cells C0.toArray 103)=f):=⟨_,rfl⟩
 rw[b.out]at k;have j:Hid (kZ w f):=by rw[<-b.out];exact aC _ _
 clear d g b;go_enter func120,ntmps120;go_wp2;clear k;go_loopg [16] 0 (λm s16 W=>s16=iZ 0/\Hid (kZ w W))
 case atStart=>exact⟨rfl,j.out⟩
 case round =>
  obtain⟨rfl,i⟩:=hrel;go_wp2
  go_ret2
  exact⟨_,rfl,i.out,_,rfl⟩
end
section
open Go.RowKit Go.Sort Go.Deep SPA
variable {P:Nat}[NeZero P]{N:Nat}[NeZero N]
theorem S6(g j:Nat):(⟨g,0,none⟩:Wv).add j=⟨g,j,none⟩:=by
 simp[Addr.add];exact λh=>h.symm
theorem zU{W:Ut}{k n g c:Nat}{e:Vb}(h:W.ownsRow k e 1 (sZ g n c) n xs){u:Uv}(b:xs[j]? = some u):W.cell? ⟨g,j,none⟩=some u:=by
 have:=h.cells (g:=g) rfl j u b;rw[S6]at this;exact this
theorem wV{W:Ut}{k n:Nat}{e:Vb}{v:Uv}(h:W.ownsRow k e 1 v n xs)(d:0<n):∃g c,v=sZ g n c:=by
 rcases h with⟨-,⟨-,b⟩|⟨g,cap,cur,rfl,-⟩⟩
 ·omega
 ·exact⟨g,cap,rfl⟩
def PtL(Q:Nat->Prop)(W:Ut)(K t:Nat)(B:Nat->Bs):Prop:=∀j,j<t->Q K/\K<W.heap.size/\W.rangeAt K (33*j) (aA (B j))
theorem PtL.keep{Q:Nat->Prop}{W W':Ut}{K t:Nat}(h:PtL Q W K t B)(k:Kq Q W W'):PtL Q W' K t B:=λj d=>by
 obtain⟨b,c,e⟩:=h j d;refine⟨b,Uz c k.size,λi u f=>?_⟩;rw[U0 (a:=⟨K,33*j+i,none⟩) (k.block K b c)];exact e i u f
theorem PtL.mono2{Q:Nat->Prop}{W:Ut}{K t:Nat}(h:PtL Q W K t B)(b:∀g,g<W.heap.size->Q g->Q' g):PtL Q' W K t B:=λj c=>by
 obtain⟨e,k,d⟩:=h j c;exact⟨b K k e,k,d⟩
theorem TlL.shape{Q:Nat->Prop}{k t:Nat}{W:Ut}{v:Uv}(h:TlL Q k t W v B):∃q c,v=.slice q t c:=by
 obtain⟨xs,⟨-,⟨rfl,b⟩|⟨g,cap,cur,rfl,-⟩⟩,-⟩:=h.ex
 ·exact⟨none,0,by rw[b]⟩
 ·exact⟨_,_,rfl⟩
theorem TlL.below{Q:Nat->Prop}{k t:Nat}{W W':Ut}{v:Uv}(h:TlL Q k t W v B)(b:kZ W W'):TlL Q k t W' v B:=h.keep (Kq.of_below b) λg c=>b.block g (h.lt c).2
theorem Kh(C:Fld P){Q:Nat->Prop}{b t:Nat}{W:Ut}{v:Uv}(m:t<=512)(h:TlL Q b t W v B)(r:∀j,j<t->∃p,rd P (B j)=some p):UK prog 120 #[.func (.func 53) #[] #[],v] W (rZ W λe w'=>∃K,e=.tuple #[sZ K t t,.bool true]/\PtL (W.heap.size<=·) w' K t B):=by
 rcases Nat.eq_zero_or_pos t with d|d
 ·obtain⟨q,c,rfl⟩:=h.shape;subst d;refine(Kk q c W).mono ?_;rintro e w' ⟨v,rfl,f,K,rfl⟩;exact⟨_,rfl,f,K,rfl,λj k=>absurd k (Ys _)⟩
 ·obtain⟨xs,i,u⟩:=h.ex;obtain⟨g,c,rfl⟩:=wV i d;refine(Kl C g t c m B W (h.lt (g:=g) rfl).2 λj k=>?_).mono ?_
  ·obtain⟨x,l,n⟩:=u j k;exact⟨x,zU i l,n.arg⟩
  ·rintro e w' ⟨v,rfl,f,h⟩;rcases h with⟨-,K,rfl,w,o,s⟩|⟨⟨j,k,l⟩,-⟩
   ·exact⟨_,rfl,f,K,rfl,λj k=>⟨w,o,s j k⟩⟩
   ·obtain⟨p,n⟩:=r j k;rw[n]at l;cases l
theorem ElQ.argS{Q:Nat->Prop}{W:Ut}{x:Uv}{b:Bs}(h:ElQ Q 32 W x b):Arg W x b:=by
 obtain⟨k,c,rfl,g,e,-,d,f⟩:=h;exact⟨_,32,c,rfl,e,λ_=>⟨k,0,rfl,g,d,f⟩⟩
def two{α:Type}(x y:α)(j:Nat):α:=if j=0 then x else y
theorem Ue(k b:Nat)(n c e d:Nat)(w:Ut):(VF 24 2 #[(0,sZ k n c),(1,sZ b e d)]).run prog w=.ok (sZ w.heap.size 2 2) (w.alloc (.cells #[sZ k n c,sZ b e d] 23)):=kR
theorem Ud{Q:Nat->Prop}{W:Ut}{x y:Uv}{b e:Bs}(h:ElQ Q 32 W x b)(f:ElQ Q' 32 W y e)(w:Ut):(VF 24 2 #[(0,x),(1,y)]).run prog w=.ok (sZ w.heap.size 2 2) (w.alloc (.cells #[x,y] 23)):=by
 obtain⟨k,c,rfl,-⟩:=h;obtain⟨g,d,rfl,-⟩:=f;exact Ue k g 32 c 32 d w
theorem Ke{Q:Nat->Prop}{W:Ut}{x y:Uv}{b d:Bs}(h:ElQ Q 32 W x b)(e:ElQ Q' 32 W y d):Args (W.alloc (.cells #[x,y] 23)) (some (aZ W.heap.size)) 2 (two b d):=λ_=>by
 have c:=aC W (.cells #[x,y] 23);have k:=aE W [x,y] 23;refine⟨_,rfl,k.1,λj f=>?_⟩;match j,f with
 | 0,_=>exact⟨x,k.2.1 0 _ rfl,h.argS.below c⟩
 | 1,_=>exact⟨y,k.2.1 1 _ rfl,e.argS.below c⟩
 | j+2,h=>omega
theorem Uj{j n g i:Nat->Prop}{b1 p t:Nat}{W:Ut}{e b d f:Uv}{q Rb:Nat->Bs}{A B:Bs}(l:TlL j b1 t W e q)(hR:TlL n p t W b Rb)(o:ElQ g 32 W d A)(m:ElQ i 32 W f B)(w:Ut):(Vh 26 (.agg #[e,b,d,f])).run prog w=.ok (jZ w.heap.size) (w.alloc (.cells #[e,b,d,f] 26)):=by
 obtain⟨u,c1,rfl⟩:=l.shape;obtain⟨s,c2,rfl⟩:=hR.shape;obtain⟨k,c,rfl,-⟩:=o;obtain⟨r,v,rfl,-⟩:=m;kernel_rfl
theorem uIr:(prog.underlying 202).map (·.isRow)=some true:=kR
theorem iIr:(prog.info? 202).map (·.size)=some 10:=kR
def inL(k c t a b:Nat):List Uv:=sZ k t t :: sZ c t t :: (wn a++wn b)
def inZ:List Uv:=[.slice none 0 0,.slice none 0 0,uZ 0,uZ 0,uZ 0,uZ 0,uZ 0,uZ 0,uZ 0,uZ 0]
theorem Fb(k c t a b:Nat):(inL k c t a b).toArray.all (·.oneCell')=true:=kR
omit [NeZero N] in
theorem LX(C:Fld P)(O:Ord N){h1 t:Nat}(ht:t<=6){Lb Rb:Nat->Bs}{A B:Bs}{a b:Nat}{vL vR z E:Uv}(w:Ut)(hL:TlL (λ_=>True) h1 t w vL Lb)(hR:TlL (λ_=>True) h1 t w vR Rb)(hA:ElQ (λ_=>True) 32 w z A)(hB:ElQ (λ_=>True) 32 w E B)(hl:∀j,j<t->∃p,rd P (Lb j)=some p)(hr:∀j,j<t->∃p,rd P (Rb j)=some p)(ha:rq N A=some a)(hb:rq N B=some b):
 UK prog 119 #[.agg #[vL,vR,z,E],iZ t] w (rZ w λe w'=>∃q r,e=.tuple #[.agg (inL q r t a b).toArray,.bool true]/\PtL (w.heap.size<=·) w' q t Lb/\PtL (w.heap.size<=·) w' r t Rb):=by
 obtain⟨k,hk⟩:∃k,Hid (w.heap.size=k):=⟨_,rfl⟩
 obtain⟨H,Z⟩:∃H,Hid (w.alloc (.cells #[vL,vR,z,E] 26)=H):=⟨_,rfl⟩
 obtain⟨G,h6⟩:∃G,Hid (H.alloc (.cells inZ.toArray 202)=G):=⟨_,rfl⟩
 obtain⟨vI,hvI⟩:∃v,Hid (U5 #[vL,vR,z,E]=v):=⟨_,rfl⟩
 have B1:Hid ((Vh 26 vI).run prog w=.ok (jZ k) H):=by rw[<-hvI.out,<-Z.out,<-hk.out];exact Uj hL hR hA hB w
 obtain⟨q1,x1,rfl⟩:=hL.shape;obtain⟨q2,x2,rfl⟩:=hR.shape;have z1:H.heap.size=k+1:=by rw[<-Z.out,UD,hk.out]
 have hy:=Hid.mk' z1;have b1:kZ w H:=by rw[<-Z.out];exact aC _ _
 have b2:kZ H G:=by rw[<-h6.out];exact aC _ _
 have r1:Row H k [.slice q1 t x1,.slice q2 t x2,z,E]:=by rw[<-Z.out,<-hk.out];exact aE w _ _
 have r2:Row G (k+1) inZ:=by rw[<-h6.out,<-z1];exact aE H _ _
 have hw:=b1.trans (b2.mono b1.size);have hu:=Hid.mk' (λ(W:Ut) (S:kZ w W)=>Kh C (v:=.slice q1 t x1) oM (hL.below S) hl);have hq:=Hid.mk' (λ(W:Ut) (S:kZ w W)=>Kh C (v:=.slice q2 t x2) oM (hR.below S) hr);have J:=Hid.mk' (V4 (λ(W:Ut) (S:kZ w W)=>hA.keep (Kq.of_below S)) (λ(W:Ut) (S:kZ w W)=>hB.keep (Kq.of_below S)));have hp:=Hid.mk' (λ(W:Ut) (S:kZ w W)=>Ki O 2 2 dC (some (aZ W.heap.size)) (two A B) (two a b) (W.alloc (.cells #[z,E] 23)) (Ke (J.1 W S) (J.2 W S)) (λj hj=>by
  match j,hj with
  | 0,_=>exact ha
  | 1,_=>exact hb
  | j+2,h=>omega))
 have K2:Hid (Row G (k+1) inZ/\kZ w G/\Row G k [.slice q1 t x1,.slice q2 t x2,z,E]):=⟨r2,hw,r1.below b2⟩
 have c0:G.cell? ⟨k,0,none⟩=some (.slice q1 t x1):=(r1.below b2).2.1 0 _ rfl;have c1:G.cell? ⟨k,1,none⟩=some (.slice q2 t x2):=(r1.below b2).2.1 1 _ rfl;rw[hvI.out];clear b1 b2 r1 r2 hw z1 hL hR hA hB hvI hl hr ha hb;go_enter func119,ntmps119;go_wp2_with (first|(refine aF (u:=vI) (v:=jZ k) (w':=H) rfl 26 (.tmp 0) rfl ?_ ?_ ?_;rfl;exact B1.out)|(refine fC (v:=.pointer (some ⟨k+1,0,none⟩)) (w':=G) rfl 202 4 rfl rfl ?_ ?_;(rw[<-h6.out,<-hy.out];kernel_rfl))|fail)
 refine(hu G K2.2.1).mono ?_;rintro e w3 ⟨uu,rfl,U,q,rfl,h9⟩;have b3:=K2.2.1.trans (U.mono K2.2.1.size);have X:Hid (Row w3 (k+1) inZ/\kZ w w3/\Row w3 k [.slice q1 t x1,.slice q2 t x2,z,E]/\PtL (k+1 < ·) w3 q t Lb):=⟨K2.1.below U,b3,K2.2.2.below U,h9.mono2 λg _ Y=>Uz K2.1.1 Y⟩
 have hz:w3.cell? ⟨k,1,none⟩=some (.slice q2 t x2):=X.2.2.1.2.1 1 _ rfl;clear U h9 b3 K2 c0 c1 hu;go_wp2_with fail
 refine(hq w3 X.2.1).mono ?_;rintro e s ⟨uu,rfl,I,r,rfl,hm⟩;have b4:=X.2.1.trans (I.mono X.2.1.size);have R:Hid (Row s (k+1) inZ/\kZ w s/\Row s k [.slice q1 t x1,.slice q2 t x2,z,E]/\PtL (k+1 < ·) s q t Lb/\PtL (k+1 < ·) s r t Rb):=⟨X.1.below I,b4,X.2.2.1.below I,X.2.2.2.keep (Kq.of_below I),hm.mono2 λg _ Y=>Uz X.1.1 Y⟩
 have k0:s.cell? ⟨k,2,none⟩=some z:=R.2.2.1.2.1 2 _ rfl;have k1:s.cell? ⟨k,3,none⟩=some E:=R.2.2.1.2.1 3 _ rfl;obtain⟨w5,V⟩:∃W,Hid (s.alloc (.cells #[z,E] 23)=W):=⟨_,rfl⟩
 obtain⟨k5,hn⟩:∃n,Hid (s.heap.size=n):=⟨_,rfl⟩
 have HS:Hid ((VF 24 2 #[(0,z),(1,E)]).run prog s=.ok (sZ k5 2 2) w5):=by rw[<-V.out,<-hn.out];exact Ud (J.1 s R.2.1) (J.2 s R.2.1) s
 have h8:=hp.out s R.2.1;rw[V.out,hn.out]at h8;have hs:=Hid.mk' h8;have F:kZ s w5:=by rw[<-V.out];exact aC _ _
 have b5:=R.2.1.trans (F.mono R.2.1.size);have K5:Hid (Row w5 (k+1) inZ/\kZ w w5/\PtL (k+1 < ·) w5 q t Lb/\PtL (k+1 < ·) w5 r t Rb):=⟨R.1.below F,b5,R.2.2.2.1.keep (Kq.of_below F),R.2.2.2.2.keep (Kq.of_below F)⟩
 clear I hm b4 X hz hq h8 F b5 hp J;go_wp2_with (first|(refine jE (v:=sZ k5 2 2) (w':=w5) rfl 24 2 _ rfl #[(0,z),(1,E)] ?_ ?_ ?_;kernel_rfl;exact HS.out)|fail)
 refine hs.mono ?_;rintro e f ⟨uu,rfl,Q,m,rfl,hi⟩;have K6:Hid (Row f (k+1) inZ/\kZ w f/\PtL (k+1 < ·) f q t Lb/\PtL (k+1 < ·) f r t Rb/\SLq (k+1 < ·) f (sZ m 2 2) 2 (two a b)):=⟨K5.1.below Q,K5.2.1.trans (Q.mono K5.2.1.size),K5.2.2.1.keep (Kq.of_below Q),K5.2.2.2.keep (Kq.of_below Q),hi.mono λg Y=>Uz K5.1.1 Y⟩
 have hE:f.rangeAt m 0 (wn a)/\f.rangeAt m 4 (wn b)/\k+1≠m:=by
  obtain⟨g,o,c,e,-,D,-,y⟩:=K6.2.2.2.2;injection e with e1
  injection e1 with e1
  injection e1 with e2 e3
  subst e2 e3;exact⟨y 0 dC,y 1 dC,Nat.ne_of_lt D⟩
 have L:=Hid.mk' hE;clear Q hi K5 R hs HS k0 k1 V hE;go_wp2_with fail
 obtain⟨dS,M,K⟩:=UA.1 rSc;have D:f.drew.rangeAt m 0 (wn a)/\f.drew.rangeAt m 4 (wn b):=⟨L.1,L.2.1⟩
 refine anyS.begin (λ_ W=>W.rangeAt m 0 (wn a)/\W.rangeAt m 4 (wn b)) kR ?_;have T:∀(p:Nat),Bef (λ_ W=>Y5 W m 0 (wn a)/\Y5 W m 4 (wn b)) p f.drew:=λp=>⟨#[],by simp,D⟩
 refine anyS.val (i:=0) (d:=some 57) (x:=sZ q t t) rfl 9 (λ_ _ h=>h) (T 9) D ?_;simp only[UR,Uu,Uw,Ux];refine anyS.val (i:=1) (d:=some 58) (x:=sZ r t t) rfl 9 (λ_ _ h=>h) (T 9) D ?_;simp only[UR,Uu,Uw,Ux];refine anyS.val (i:=2) (d:=some 59) (x:=sZ m 2 2) rfl 9 (λ_ _ h=>h) (T 9) D ?_;simp only[UR,Uu,Uw,Ux];refine anyS.val (i:=3) (d:=some 60) (x:=jZ m) rfl 9 (λ_ _ h=>h) (T 9) D ?_;simp only[UR,Uu,Uw,Ux];refine anyS.row (i:=4) (d:=some 61) (cs:=wn a) rfl 9 (λ_ _ h=>h) 49 60 m 0 dS rfl M K nSc (λW ⟨l,e,h⟩=>h.1) (T 9) D ?_;simp only[UR,Uu,Uw,Ux];refine anyS.val (i:=5) (d:=some 62) (x:=sZ m 2 2) rfl 9 (λ_ _ h=>h) (T 9) D ?_;simp only[UR,Uu,Uw,Ux];refine anyS.val (i:=6) (d:=some 63) (x:=oZ m 4) rfl 9 (λ_ _ h=>h) (T 9) D ?_;simp only[UR,Uu,Uw,Ux];refine anyS.row (i:=7) (d:=some 64) (cs:=wn b) rfl 9 (λ_ _ h=>h) 49 63 m 4 dS rfl M K nSc (λW ⟨l,e,h⟩=>h.2) (T 9) D ?_;simp only[UR,Uu,Uw,Ux];clear T;refine anyS.nxt (i:=8) (d:=some 65) (x:=.agg (inL q r t a b).toArray) rfl D ?_;simp only[UR,Uu,Uw,Ux];have hc:f.drew.there (k+1) 0 10:=K6.1.2.2;have y:∀g,g≠k+1->(f.drew.setCells (k+1) 0 (inL q r t a b)).heap[g]? = f.drew.heap[g]?:=λg h=>aH (k+1) _ 0 f.drew g h
 have S7:(f.drew.setCells (k+1) 0 (inL q r t a b)).rangeAt m 0 (wn a)/\(f.drew.setCells (k+1) 0 (inL q r t a b)).rangeAt m 4 (wn b):=⟨λj u hj=>by rw[U0 (a:=⟨m,0+j,none⟩) (y m (YL L.2.2))];exact D.1 j u hj,λj u hj=>by rw[U0 (a:=⟨m,4+j,none⟩) (y m (YL L.2.2))];exact D.2 j u hj⟩
 have r6:Row f.drew (k+1) inZ:=K6.1;have r7:Row (f.drew.setCells (k+1) 0 (inL q r t a b)) (k+1) (inL q r t a b):=r6.put rfl;have b7:kZ w (f.drew.setCells (k+1) 0 (inL q r t a b)):=RG.below_setCells (by rw[hk.out];exact Nat.le_succ _) _ _ _ K6.2.1.drew;have h3:Kq (k+1 < ·) f (f.drew.setCells (k+1) 0 (inL q r t a b)):=⟨by rw[setCells_size];exact Uy _,λg Y _=>y g (Wp Y)⟩
 have h5:=(K6.2.2.1.keep h3).mono2 (Q':=(w.heap.size<=·)) λg _ Y=>by rw[hk.out];omega
 have h7:=(K6.2.2.2.1.keep h3).mono2 (Q':=(w.heap.size<=·)) λg _ Y=>by rw[hk.out];omega
 refine anyS.sta (i:=9) (d:=none) rfl 202 (.tmp 4) (.tmp 65) rfl (k+1) 0 (inL q r t a b).toArray (Fb q r t a b) hc iIr S7 ?_;simp only[UR,Uu,Uw,Ux];refine anyS.nxt (i:=10) (d:=some 5) (x:=.bool true) rfl S7 ?_;simp only[UR,Uu,Uw,Ux];refine anyS.fin kR ?_ _;intro WZ he;have h0:WZ=f.drew.setCells (k+1) 0 (inL q r t a b):=he;rw[<-h0]at r7 b7 h5 h7;have KZ:=Hid.mk' (V4 r7 (V4 b7 (V4 h5 h7)));clear r6 r7 b7 h3 h5 h7 S7 D y hc he h0 K6 L M K;go_wp2_with fail
 refine UH (qD 4 5 202 rfl KZ.1 rfl rfl uIr iIr) rfl ?_;exact⟨_,rfl,KZ.2.1,q,r,rfl,KZ.2.2.1,KZ.2.2.2⟩
end
section
open Go Go.RowKit Go.Sort Go.Deep SPA
section
variable {P:VD}{ops:Array Vk}{Q:X9->Act->Ut->Prop}{S:Array Bool->Ut->Prop}
theorem TG(a:Act){d e:WF}(h:d≠e)(v u:Uv):(a.put (some d) v).put (some e) u=(a.put (some e) u).put (some d) v:=by
 unfold UR;dsimp only;rw[yAi _ _ h]
theorem anyS.calal{i c:Nat}{r l:Vk}{di dj:WF}{obj:Obj}{k:Array Bool}{a:Act}{w:Ut}{L O:Uv->Ut->Prop}{F:Uv->Nat->Ut->Prop}(s:ops[i]? = some r)(n:ops[j]? = some l)
 (U:UK P f args w (Ret L)) (E:UK P f args (w.alloc obj) (Ret O)) (z:S (k.setIfInBounds j true) (w.alloc obj))
 (R:∀v W',L v W'->S (k.setIfInBounds i true) W'/\S ((k.setIfInBounds i true).setIfInBounds j true) (W'.alloc obj)/\F v W'.heap.size (W'.alloc obj)) (T:∀v W',O v W'->S ((k.setIfInBounds i true).setIfInBounds j true) W'/\F v w.heap.size W')
 (t:∀(b:Act) (W:Ut),(U9 b.eval l).run P W=.ok (.value (jZ W.heap.size)) (W.alloc obj))
 (h:∀v b W',F v b W'->anyS P ops Q S c ((k.setIfInBounds i true).setIfInBounds j true) ((a.put (some di) v).put (some dj) (jZ b)) W')
 (hx:∀W,(U9 a.eval r).run P W=.ok (.enter f args) W:=by intro _;kernel_rfl) (x:∀(b:Nat) (W:Ut),(U9 (a.put (some dj) (jZ b)).eval r).run P W=.ok (.enter f args) W:=by intro _ _;kernel_rfl)
 (C:i≠j:=by decide) (G:di≠dj:=by decide) (N:U7 .any ops k=[i,j]:=by kernel_rfl) (d:U7 .any ops (k.setIfInBounds i true)=[j]:=by kernel_rfl) (D:U7 .any ops (k.setIfInBounds j true)=[i]:=by kernel_rfl)
 (m:r.guard=none:=by rfl) (o:l.guard=none:=by rfl) (p:r.dst=some di:=by kernel_rfl) (u:l.dst=some dj:=by kernel_rfl):anyS P ops Q S (c+2) k a w:=by
 refine⟨λJ=>(by rw[N]at J;cases J),λq M=>?_⟩;rw[N]at M;have B:q=i\/q=j:=by simpa using M
 rcases B with rfl|rfl
 ·refine wpOp_step s λK y=>?_
  rw[yCk (bI m _)];unfold VT;rw[hx,WU];refine U.mono ?_;rintro e W' ⟨v,rfl,hR⟩;obtain⟨s1,s2,H⟩:=R v W' hR;refine y _ _ ⟨s1,?_⟩;rw[p];refine anyS.step n d λI g=>?_
  rw[yCk (bI o _)];unfold VT;rw[t];show I (UR _ l.dst _) _;rw[u];exact g.out _ _ s2 (h v _ _ H)
 ·refine wpOp_step n λK y=>?_
  rw[yCk (bI o _)];unfold VT;rw[t];show K (a.put l.dst _) _;rw[u];refine y _ _ ⟨z,?_⟩;refine anyS.step s D λI g=>?_
  rw[yCk (bI m _)];unfold VT;rw[x,WU];refine E.mono ?_;rintro e W' ⟨v,rfl,hR⟩;obtain⟨s2,H⟩:=T v W' hR;have d:=h v _ _ H;rw[yAi _ _ C]at s2 d;rw[TG a G]at d;rw[p];exact g.out _ _ s2 d
end
variable {P:Nat}[NeZero P]{N:Nat}[NeZero N]
theorem Hx(C:Fld P)(k:∀r:EC.Pt P,On r->mul N r=none)(g:IsP N)(t:Nat)(L T:Nat->OnP P)(v:Md.Vs Bs (OnP P))(i m:Nat)(j:m=2^(t-(i+1)))(s:Bs)(c:Fin N)(f:chF N ((aD C k).vst (chF N) ivF t L T v i).s (L i) (T i)=(s,c)):
 (aD C k).vst (chF N) ivF t L T v (i+1)=⟨s,(aD C k).ad ((aD C k).ad ((aD C k).vst (chF N) ivF t L T v i).p ((aD C k).ac (c*c) (L i))) ((aD C k).ac (ivF (c*c)) (T i)),(aD C k).fP (ivF c) c m ((aD C k).vst (chF N) ivF t L T v i).g,(aD C k).fP c (ivF c) m ((aD C k).vst (chF N) ivF t L T v i).h⟩:=by
 have b:=P6 g ((aD C k).vst (chF N) ivF t L T v i).s (L i) (T i);rw[f]at b;have d:c.val≠0:=λe=>b (by
  have:c=0:=Fin.ext (e.trans (YO N).symm);show(c*c).val=0;rw[this];show(0%N*(0%N))%N=0;rw[YO,ZW,YO])
 rw[Md.Ig,RP g c d b,j];show(aD C k).Eu (chF N) ivF (2^(t-(i+1))) (L i) (T i) ((aD C k).vst (chF N) ivF t L T v i)=_;unfold Md.Eu;rw[f]
end
section
open Go.RowKit Go.Sort Go.Deep SPA
variable {P:Nat}[NeZero P]{N:Nat}[NeZero N]
def QR(r k g:Nat):Prop:=g≠r/\(g<k\/k+3<=g)
structure Lk(w W:Ut)(r k kl kr t a b n:Nat)(v sv:Uv)(Lb Rb:Nat->Bs)(L:Bs)(G H:Nat->List (Nat × Bs))(U l:List (Nat × Bs)):Prop where
 on:SP.Only r 0 32 w W
 rk:r<k
 wk:w.heap.size=k
 r0:Row W k (inL kl kr t a b)
 r1:Row W (k+1) [jZ r]
 r2:∃e:Array Uv,v=.agg e/\e.size=3/\e.all (·.oneCell')=true/\Row W (k+2) e.toList
 pl:PtL (QR r k) W kl t Lb
 pr:PtL (QR r k) W kr t Rb
 gr:GRq (QR r k) W v n G H U
 sm:SmQ (QR r k) W sv l
 lg:Holds encB W r 0 L
 ls:L.size=32
section
variable {w W W':Ut}{r k kl kr t a b n:Nat}{v sv:Uv}{Lb Rb:Nat->Bs}{L:Bs}{G H:Nat->List (Nat × Bs)}{U l:List (Nat × Bs)}
theorem Lk.any{f:Bs}(h:Lk w W r k kl kr t a b n v sv Lb Rb L G H U l)(m:SP.Only r 0 32 w W')(kq:Kq (QR r k) W W')(d:∀g,k<=g->g<k+3->W'.heap[g]? = W.heap[g]?)(p:Holds encB W' r 0 f)(c:f.size=32):Lk w W' r k kl kr t a b n v sv Lb Rb f G H U l:=by
 obtain⟨e,j,i,e3,o⟩:=h.r2;exact⟨m,h.rk,h.wk,aV h.r0 kq.size (d k oM oM),aV h.r1 kq.size (d _ oM oM),⟨e,j,i,e3,aV o kq.size (d _ oM oM)⟩,h.pl.keep kq,h.pr.keep kq,h.gr.keep kq,h.sm.keep kq,p,c⟩
theorem Lk.big(h:Lk w W r k kl kr t a b n v sv Lb Rb L G H U l):k+3<=W.heap.size:=by
 obtain⟨e,-,-,-,c⟩:=h.r2;exact c.1
theorem Lk.grow(h:Lk w W r k kl kr t a b n v sv Lb Rb L G H U l)(c:kZ W W'):Lk w W' r k kl kr t a b n v sv Lb Rb L G H U l:=by
 have d:=Holds.lt h.lg (by rw[h.ls];decide);exact h.any (h.on.trans (SP.Only.of_below c rfl d)) (Kq.of_below c) (λg e f=>c.block g (by have:=h.big;omega)) (Holds.below h.lg c d) h.ls
theorem Lk.drew(h:Lk w W r k kl kr t a b n v sv Lb Rb L G H U l):Lk w W.drew r k kl kr t a b n v sv Lb Rb L G H U l:=h.grow ⟨rfl,rfl,rfl,Uy _,λ_ _=>rfl⟩
theorem Lk.say{d:Bs}(h:Lk w W r k kl kr t a b n v sv Lb Rb L G H U l)(c:SP.Only r 0 32 W W')(j:Holds encB W' r 0 d)(e:d.size=32):Lk w W' r k kl kr t a b n v sv Lb Rb d G H U l:=by
 have i:=h.rk;exact h.any (h.on.trans c) (Kq.of_only c λg f=>f.1) (λg m o=>c.block g (by have:=h.big;omega) oM) j e
theorem Lk.qn(h:Lk w W r k kl kr t a b n v sv Lb Rb L G H U l):∀g,W.heap.size<=g->QR r k g:=λg c=>⟨by have:=h.rk;have:=h.big;omega,U2 (by have:=h.big;omega)⟩
theorem Lk.hide{c:Uv}{l':List (Nat × Bs)}(h:Lk w W r k kl kr t a b n v sv Lb Rb L G H U l)(d:SmQ (QR r k) W c l'):Lk w W r k kl kr t a b n v c Lb Rb L G H U l':=⟨h.on,h.rk,h.wk,h.r0,h.r1,h.r2,h.pl,h.pr,h.gr,d,h.lg,h.ls⟩
theorem Lk.next{m:Nat}{e:Array Uv}{f j:Nat->List (Nat × Bs)}(h:Lk w W r k kl kr t a b n v sv Lb Rb L G H U l)(p:GRq (QR r k) W (.agg e) m f j U)(i:e.size=3)(s:e.all (·.oneCell')=true):Lk w (W.setCells (k+2) 0 e.toList) r k kl kr t a b m (.agg e) sv Lb Rb L f j U l:=by
 have c:∀g,g≠k+2->(W.setCells (k+2) 0 e.toList).heap[g]? = W.heap[g]?:=λg x=>aH (k+2) _ 0 W g x
 have d:W.heap.size<=(W.setCells (k+2) 0 e.toList).heap.size:=by rw[setCells_size];exact Uy _
 have kq:Kq (QR r k) W (W.setCells (k+2) 0 e.toList):=⟨d,λg q _=>c g (by have:=q.2;omega)⟩
 have u:=h.rk;obtain⟨z,-,y,-,o⟩:=h.r2;exact⟨jH h.on h.wk h.rk oM,h.rk,h.wk,aV h.r0 d (c k oM),aV h.r1 d (c _ oM),⟨e,rfl,i,s,o.put (by rw[UL,UL,i,y])⟩,h.pl.keep kq,h.pr.keep kq,p.keep kq,h.sm.keep kq,jO h.lg (c r oM),h.ls⟩
end
theorem SO(k c t a b:Nat)(w:Ut):(Vh 202 (.agg (inL k c t a b).toArray)).run prog w=.ok (jZ w.heap.size) (w.alloc (.cells (inL k c t a b).toArray 202)):=kR
theorem uPL:(prog.underlying 200).map (·.isRow)=some false:=kR
theorem ED{Q:Nat->Prop}{W:Ut}{g n:Nat}{p:Bs}(k:Row W g (wn n++aA p))(b:Q g):SmQ Q W (sZ g 1 1) [(n,p)]:=by
 have e:aU [(n,p)]=wn n++aA p:=by unfold aU;simp
 refine⟨g,1,rfl,Uy _,b,k.1,?_⟩;rw[e];exact k.2.1
theorem DO{k:VD}{o:Vk}{ev:XM->Uv}{I:Sem Uv}{v:Uv}{w:Ut}(h:I.run k w=.ok v w)(b:U9 ev o=I >>= λv=>pure (Xq v):=by kernel_rfl):(U9 ev o).run k w=.ok (.value v) w:=by
 rw[b,UW,h];rfl
theorem Lk.rd{w W W':Ut}{r k d t a b n:Nat}{v p:Uv}{j Rb:Nat->Bs}{L:Bs}{G H:Nat->List (Nat × Bs)}{U l:List (Nat × Bs)}(h:Lk w W r k d e t a b n v p j Rb L G H U l)(c:SP.Only r 0 32 W W'){i:Nat}(f:i<t):
 W'.rangeAt (k+1) 0 [jZ r]/\W'.cell? ⟨k,0,none⟩=some (sZ d t t)/\W'.cell? ⟨k,1,none⟩=some (sZ e t t)/\W'.rangeAt d (0+33*i) (aA (j i))/\W'.rangeAt e (0+33*i) (aA (Rb i)):=by
 have o:=h.rk;have kq:Kq (QR r k) W W':=Kq.of_only c λg m=>m.1
 rw[UF];exact⟨(h.r1.only c oM).2.1,(h.r0.only c oM).2.1 0 _ rfl,(h.r0.only c oM).2.1 1 _ rfl,((h.pl.keep kq) i f).2.2,((h.pr.keep kq) i f).2.2⟩
theorem Rx(h:1<N):(-1:Fin N).val=sMi N 0 1:=by
 have k:(1:Fin N).val=1:=by
  show 1%N=1;exact UU h
 have b:(-1:Fin N).val=(N-(1:Fin N).val)%N:=Fin.val_neg' _;rw[b,k];unfold sMi;rw[UF]
omit [NeZero N] in
theorem KT(C:Fld P){X:EC.Pt P}(b:On X):wr X=o33↔X=none:=by
 rw[<-KU (P:=P)];refine⟨λh=>?_,λh=>by rw[h]⟩;obtain⟨p,k,e⟩:=zM C b;obtain⟨q,d,c⟩:=zM C (iQ (P:=P));rw[h,d]at k;injection k with k
 rw[<-e,<-c,k]
theorem So(C:Fld P)(O:Ord N)(k:∀r:EC.Pt P,On r->mul N r=none)(B:IsP N){Q:Nat->Prop}{c:Nat}{G H:Nat->List (Nat × Bs)}{U l:List (Nat × Bs)}{g h:Nat->OnP P}{u p:OnP P}(K:0<c)(A:c<=64)(hG:Gd N 1 c G g)(y:Gd N 1 c H h)(z:Tl N U u)(F:0<U.length)(J:U.length<=16)(w:Tl N l p)(E:l.length<=200)(a b:Fin N):
 ∃l' f Y,Y.size=33/\(Y=o33↔p=(aD C k).ad ((aD C k).ad ((aD C k).ac a (g 0)) ((aD C k).ac b (h 0))) ((aD C k).ac (a*b) u))/\(∀(W:Ut) (v va m:Uv),GRq Q W v 1 G H U->SLq Q W va 1 (λ_=>a.val)->SLq Q W m 1 (λ_=>b.val)->UK prog 158 #[v,va,m] W (rZ W λe w'=>Sm W.heap.size w' e l')) /\
  (∀(W:Ut) (s n:Uv),Sm 0 W s l'->Sm 0 W n l->UK prog 194 #[s,n] W (rZ W λe w'=>Sm W.heap.size w' e f)) /\
  (∀(W:Ut) (v:Uv),Sm 0 W v f->UK prog 67 #[v] W (rZ W λe w'=>e=pvl Y)):=by
 have I:=sM (by decide:0<1) K oM hG y z F J;obtain⟨q,f⟩:=Jl C k hG y z (d:=U.length) rfl (λ_=>a) (λ_=>b);rw[<-kG]at q f;have j:=q.app C k (w.tm C k (-1));rw[Rx B.1]at j;have x:=(aD C k).OA ((aD C k).hd (λ_=>a) (λ_=>b) g h u 1) p;rw[(aD C k).Jn (λ_=>a) (λ_=>b) g h u]at x j;refine⟨_,_,_,aT _,(KT C (Subtype.property _)).trans ((Subtype.ext_iff (a2:=(aD C k).zo)).symm.trans x),λW v va m o t D=>Fg O 1 c G H U I _ _ (λi _=>a.isLt) (λi _=>b.isLt) v va m W o t D,λW s n o t=>wG O 0 s n _ l (by rw[f];omega) (by rw[f];omega) oM q.ok.sz w.ok.sz w.ok.lt W (Wz _) o t,λW v hv=>?_⟩;exact j.point C O k (by rw[UB,f];omega) (by rw[UB,US,f];omega) hv
theorem NU{a b:Bs}(c:a.size=33)(k:b.size=33)(w:Ut):(binOp .eql 103 (pvl a) (pvl b)).run prog w=.ok (.bool (decide (a=b))) w:=by
 have d:(binOp .eql 103 (pvl a) (pvl b)).run prog w=(Op.equal 103 (pvl a) (pvl b) >>= λb=>pure (Value.bool b)).run prog w:=rfl;rw[d,UW,show(Op.equal 103 (pvl a) (pvl b)).run prog w=.ok (decide (a=b)) w from Su c k w];rfl
theorem SK(n:Nat)(w:Ut):(VF 124 1 #[(0,nv n)]).run prog w=.ok (sZ w.heap.size 1 1) (w.alloc (.cells (wn n).toArray 49)):=kR
theorem QN{Q:Nat->Prop}{W:Ut}{g n:Nat}(k:Row W g (wn n))(b:Q g):SLq Q W (sZ g 1 1) 1 (λ_=>n):=⟨g,0,1,rfl,Uy _,b,k.1,λj c=>by
 have:j=0:=oM;subst this;exact k.2.1⟩
theorem LU(C:Fld P)(O:Ord N)(f:∀r:EC.Pt P,On r->mul N r=none)(hP:IsP N)(t:Nat)(ht:t<=6)(D E:Nat->OnP P)(v0:Md.Vs Bs (OnP P))(u:OnP P)(G0 H0:Nat->List (Nat × Bs))(U l0:List (Nat × Bs))(dp:Gd N (2^t) 1 G0 v0.g)(cz:Gd N (2^t) 1 H0 v0.h)(hU:Tl N U u)(da:0<U.length)(d1:U.length<=16)(ki:Tl N l0 v0.p)(bv:0<l0.length/\l0.length<=150)
 (q Rb:Nat->Bs) (dq:∀j,q j=wP (D j)) (dx:∀j,Rb j=wP (E j)) (r B A:Nat) (a b:Fin N) (n sv:Uv) (w:Ut) (hL:Holds encB w r 0 v0.s) (bp:v0.s.size=32) (H:PtL (·≠r) w B t q) (K:PtL (·≠r) w A t Rb) (hv:GRq (·≠r) w n (2^t) G0 H0 U) (S:SmQ (·≠r) w sv l0) (Bd:Bool) (d9:Bd=true↔(aD C f).KY u a b ((aD C f).vst (chF N) ivF t D E v0 t)) :
 UK prog 123 #[.agg (inL B A t a.val b.val).toArray,lgV r,n,sv] w (Ret λe w'=>SP.Only r 0 32 w w'/\e=.bool Bd):=by
 have hr:=Holds.lt hL (by rw[bp];decide);obtain⟨k,hk⟩:=hE (w.heap.size);obtain⟨e0,ds,df,co⟩:=hv.ar;subst ds;obtain⟨w1,k4⟩:=hE (w.alloc (.cells (inL B A t a.val b.val).toArray 202));obtain⟨w2,k3⟩:=hE (w1.alloc (.cells #[jZ r] 145));obtain⟨w3,kw⟩:∃w3,Hid (w2.alloc (.cells e0 133)=w3):=⟨_,rfl⟩
 have z1:w1.heap.size=k+1:=by rw[<-k4.out,UD,hk.out]
 have z2:w2.heap.size=k+2:=by rw[<-k3.out,UD,z1]
 have d4:r<k:=by rw[<-hk.out];exact hr
 have K3:Hid (Lk w w3 r k B A t a.val b.val (2^t) (.agg e0) sv q Rb v0.s G0 H0 U l0):=by
  have b1:kZ w w1:=by rw[<-k4.out];exact aC _ _
  have b2:kZ w1 w2:=by rw[<-k3.out];exact aC _ _
  have o:kZ w2 w3:=by rw[<-kw.out];exact aC _ _
  have r1:Row w1 k (inL B A t a.val b.val):=by rw[<-k4.out,<-hk.out];exact aE w _ _
  have r2:Row w2 (k+1) [jZ r]:=by rw[<-k3.out,<-z1];exact aE w1 _ _
  have V:Row w3 (k+2) e0.toList:=by rw[<-kw.out,<-z2];exact aE w2 e0.toList 133
  have J:kZ w w3:=(b1.trans (b2.mono b1.size)).trans (o.mono (UE b1.size b2.size));have n:∀g,g<w.heap.size->g≠r->QR r k g:=λg hg L=>⟨L,U6 (by rw[<-hk.out];exact hg)⟩
  have kq:∀ {Q:Nat->Prop},Kq Q w w3:=Kq.of_below J;have G:SmQ (QR r k) w sv l0:=by
   obtain⟨g,c,h1,h2,T,M,R⟩:=S;exact⟨g,c,h1,h2,n g M T,M,R⟩
  exact⟨SP.Only.of_below J rfl hr,d4,hk.out,(r1.below b2).below o,r2.below o,⟨e0,rfl,df,co,V⟩,(H.mono2 n).keep kq,(K.mono2 n).keep kq,(hv.mono2 n).keep kq,G.keep kq,Holds.below hL J hr,bp⟩
 obtain⟨vI,hvI⟩:=hE (U5 (inL B A t a.val b.val).toArray);obtain⟨vl,bk⟩:=hE (lgV r);obtain⟨vG,bl⟩:=hE (U5 e0);have B1:Hid ((Vh 202 vI).run prog w=.ok (jZ k) w1):=by rw[<-hvI.out,<-k4.out,<-hk.out];exact SO B A t a.val b.val w
 have B2:Hid ((Vh 145 vl).run prog w1=.ok (.pointer (some ⟨k+1,0,none⟩)) w2):=by rw[<-bk.out,<-k3.out,<-z1];exact Nf r w1
 have B3:Hid ((Vh 133 vG).run prog w2=.ok (.pointer (some ⟨k+2,0,none⟩)) w3):=by
  obtain⟨n,a2,o,H⟩:∃a b c,e0=#[a,b,c]:=by
   obtain⟨x1,x2,G,e,-⟩:=hv.ex;injection e with e
   exact⟨x1,x2,G,e⟩
  rw[<-bl.out,<-kw.out,<-z2,H];exact CN n a2 o w2
 have K4:Hid (∃v G H l,Gd N (2^(t-0)) (2^0) G ((aD C f).vst (chF N) ivF t D E v0 0).g/\Gd N (2^(t-0)) (2^0) H ((aD C f).vst (chF N) ivF t D E v0 0).h/\Tl N l ((aD C f).vst (chF N) ivF t D E v0 0).p/\l.length=l0.length+2*0/\Lk w w3 r k B A t a.val b.val (2^(t-0)) v sv q Rb ((aD C f).vst (chF N) ivF t D E v0 0).s G H U l):=⟨_,G0,H0,l0,dp,cz,ki,rfl,K3.out⟩
 have M:Hid ((∀j,q j=wP (D j))/\∀j,Rb j=wP (E j)):=⟨dq,dx⟩
 have K:=mk7 C O hP hU da d1 ht;have kh:=Hid.mk' bv;clear bv;have bm:=Hid.mk' d9;have c0:=K3.r0.2.1 0 _ rfl;rw[hvI.out,bk.out,bl.out];go_enter func123,ntmps123;go_wp2_with (first|(refine aF (u:=vI) (v:=jZ k) (w':=w1) rfl 202 (.tmp 0) rfl ?_ ?_ ?_;rfl;exact B1.out)|(refine aF (u:=vl) (v:=.pointer (some ⟨k+1,0,none⟩)) (w':=w2) rfl 145 (.tmp 1) rfl ?_ ?_ ?_;rfl;exact B2.out)|(refine aF (u:=vG) (v:=.pointer (some ⟨k+2,0,none⟩)) (w':=w3) rfl 133 (.tmp 2) rfl ?_ ?_ ?_;rfl;exact B3.out)|fail)
 go_loopg [3,16] t (λm s3 s16 W=>∃i:Nat,i+m=t/\s16=iZ i/\Hid (∃v G H l,Gd N (2^(t-i)) (2^i) G ((aD C f).vst (chF N) ivF t D E v0 i).g/\Gd N (2^(t-i)) (2^i) H ((aD C f).vst (chF N) ivF t D E v0 i).h/\Tl N l ((aD C f).vst (chF N) ivF t D E v0 i).p/\l.length=l0.length+2*i/\Lk w W r k B A t a.val b.val (2^(t-i)) v s3 q Rb ((aD C f).vst (chF N) ivF t D E v0 i).s G H U l))
 case atStart=>exact⟨0,oM,rfl,K4⟩
 case round =>
  obtain⟨i,e2,rfl,KM⟩:=hrel;by_cases hi:i<t
  ·have d3:(i:Int)<(t:Int):=oM;obtain⟨v,G,H,l,hG,hH,hl,kg,hR⟩:=KM.out;have HI:=Hid.mk' hi;obtain⟨m,hm⟩:∃m,m=2^(t-(i+1)):=⟨_,rfl⟩
   have km:2^(t-i)=m+m:=by rw[hm,show t-i=t-(i+1)+1 by omega,V8];omega
   have c8:0<m:=by rw[hm];exact X6 dC
   obtain⟨c,hc⟩:∃c,c=2^i:=⟨_,rfl⟩
   have hw:0<c:=by rw[hc];exact X6 dC
   have br:c*(m+m)<=64:=by
    rw[<-km,hc,<-Nat.pow_add,show i+(t-i)=t by omega];exact UE (VN dC K.2.2.2.2.2.2) dC
   have HE:Hid (2^(t-(i+1))=m/\2^(i+1)=c+c):=⟨hm.symm,by rw[V8,hc];omega⟩
   rw[km,<-hc]at hG hH;rw[km]at hR;have de:=λ(s:Bs) (x:Fin N)=>Hx C f K.2.2.1 t D E v0 i m hm s x
   obtain⟨sx,n,kv,k6⟩:=JU K.2.1 K.2.2.1 r ((aD C f).vst (chF N) ivF t D E v0 i).s (D i) (E i) (q i) (Rb i) (M.1 i) (M.2 i);have bs:=de sx n kv.1;have HS:=Hid.mk' bs;have du:(q i).size=33:=by rw[M.1 i];exact aT _
   have cy:(Rb i).size=33:=by rw[M.2 i];exact aT _
   have k0:=Hid.mk' (V4 du cy);generalize dk:(aD C f).vst (chF N) ivF t D E v0 i=Vi at hG hH hl hR kv k6 HS;have HG:=Hid.mk' (V4 hG (V4 hH (V4 hl (V4 kg (V4 c8 (V4 hw br))))));clear hG hH hl kg c8 hw br dk;have HR:=Hid.mk' hR;clear hR;go_wp2_with fail
   have R0:=HR.drew;have h7:=λ(W:Ut) (hO:SP.Only r 0 32 wr.drew W)=>R0.rd hO HI.out
   have O0:SP.Only r 0 32 wr.drew wr.drew:=SP.Only.of_below (UT _ _) rfl (Holds.lt R0.lg (by rw[R0.ls];decide));obtain⟨dL,c7,bf⟩:=UA.1 uLg;obtain⟨dP,kf,kc⟩:=UA.1 uCP;have bu:(prog.info? 103).map (·.size)=some (aA (q i)).length:=by rw[aB k0.1];exact iCP
   have be:(prog.info? 103).map (·.size)=some (aA (Rb i)).length:=by rw[aB k0.2];exact iCP
   refine anyS.begin (λ_ W=>SP.Only r 0 32 wr.drew W) kR ?_;have bS:∀(p:Nat),Bef (λ_ W=>SP.Only r 0 32 wr.drew W) p wr.drew:=λp=>⟨#[],by simp,O0⟩
   refine anyS.row (i:=0) (d:=some 19) (cs:=[jZ r]) rfl 13 (λ_ _ h=>h) 145 5 (k+1) 0 dL rfl c7 bf iLg (λW ⟨l,e,h⟩=>(h7 W h).1) (bS 13) O0 ?_;simp only[UR,Uu,Uw,Ux];refine anyS.val (i:=1) (d:=some 20) (x:=jZ k) rfl 13 (λ_ _ h=>h) (bS 13) O0 ?_;simp only[UR,Uu,Uw,Ux];refine anyS.cel (i:=2) (d:=some 21) (x:=sZ B t t) rfl 13 (λ_ _ h=>h) 200 20 k 0 rfl uPL (λW ⟨l,e,h⟩=>(h7 W h).2.1) (bS 13) O0 ?_;simp only[UR,Uu,Uw,Ux];refine anyS.val (i:=3) (d:=some 22) (x:=iZ i) rfl 13 (λ_ _ h=>h) (bS 13) O0 ?_;simp only[UR,Uu,Uw,Ux];refine anyS.val (i:=4) (d:=some 23) (x:=.pointer (some ⟨B,0+33*i,none⟩)) rfl 13 (λ_ _ h=>h) (bS 13) O0 ?_ (λW=>DO (I:=Vj 200 (sZ B t t) (iZ i)) (atP B 0 t t i HI.out W));simp only[UR,Uu,Uw,Ux];refine anyS.row (i:=5) (d:=some 24) (cs:=aA (q i)) rfl 13 (λ_ _ h=>h) 103 23 B (0+33*i) dP rfl kf kc bu (λW ⟨l,e,h⟩=>(h7 W h).2.2.2.1) (bS 13) O0 ?_;simp only[UR,Uu,Uw,Ux];refine anyS.val (i:=6) (d:=some 25) (x:=oZ k 1) rfl 13 (λ_ _ h=>h) (bS 13) O0 ?_;simp only[UR,Uu,Uw,Ux];refine anyS.cel (i:=7) (d:=some 26) (x:=sZ A t t) rfl 13 (λ_ _ h=>h) 200 25 k 1 rfl uPL (λW ⟨l,e,h⟩=>(h7 W h).2.2.1) (bS 13) O0 ?_;refine anyS.val (i:=8) (d:=some 27) (x:=iZ i) rfl 13 (λ_ _ h=>h) (bS 13) O0 ?_;refine anyS.val (i:=9) (d:=some 28) (x:=.pointer (some ⟨A,0+33*i,none⟩)) rfl 13 (λ_ _ h=>h) (bS 13) O0 ?_ (λW=>DO (I:=Vj 200 (sZ A t t) (iZ i)) (atP A 0 t t i HI.out W));refine anyS.row (i:=10) (d:=some 29) (cs:=aA (Rb i)) rfl 13 (λ_ _ h=>h) 103 28 A (0+33*i) dP rfl kf kc be (λW ⟨l,e,h⟩=>(h7 W h).2.2.2.2) (bS 13) O0 ?_;have h0:r<wr.drew.heap.size:=Holds.lt R0.lg (by rw[R0.ls];decide);have bA:=aC wr.drew (.cells #[uZ 0,uZ 0,uZ 0,uZ 0] 49);have oA:SP.Only r 0 32 wr.drew (wr.drew.alloc (.cells #[uZ 0,uZ 0,uZ 0,uZ 0] 49)):=SP.Only.of_below bA rfl h0;refine anyS.calal (i:=11) (j:=12) (di:=30) (dj:=10) (obj:=.cells #[uZ 0,uZ 0,uZ 0,uZ 0] 49) (F:=λv b W'=>v=nv n.val/\SP.Only r 0 32 wr.drew W'/\Holds encB W' r 0 sx/\wr.drew.heap.size<=b/\Row W' b [uZ 0,uZ 0,uZ 0,uZ 0]) rfl rfl (k6 wr.drew R0.lg R0.ls) (k6 _ (Holds.below R0.lg bA h0) R0.ls) oA ?_ ?_ (by intro _ _;kernel_rfl) ?_
   ·rintro v W' ⟨hO,hH,rfl⟩;have J:=aC W' (.cells #[uZ 0,uZ 0,uZ 0,uZ 0] 49);have o:=Uz h0 hO.size;exact⟨hO,hO.trans (SP.Only.of_below J rfl o),rfl,hO.trans (SP.Only.of_below J rfl o),Holds.below hH J o,hO.size,aE W' _ _⟩
   ·rintro v W' ⟨hO,hH,rfl⟩;exact⟨oA.trans hO,rfl,oA.trans hO,hH,Uy _,(aE wr.drew [uZ 0,uZ 0,uZ 0,uZ 0] 49).only hO (Wp h0)⟩
   ·rintro xv k5 W4 ⟨rfl,bq,bc,k2,ku⟩;have b4:SP.Only r 0 32 wr.drew (W4.setCells k5 0 (wn n.val)):=dX bq h0 k2 0;refine anyS.sta (i:=13) (d:=none) rfl 49 (.tmp 10) (.tmp 30) rfl k5 0 (wn n.val).toArray (aM _) ku.2.2 nSc b4 ?_;simp only[UR,Uu,Uw,Ux];refine anyS.fin kR ?_ _;intro W5 b8;have hn:=b8;have R5:Lk w W5 r k B A t a.val b.val (m+m) v u3 q Rb sx G H U l:=by rw[hn];exact R0.say b4 (fF bc oM) kv.2
    have r5:Row W5 k5 (wn n.val):=by rw[hn];exact ku.put rfl
    obtain⟨x,h6⟩:=hE (n.val);obtain⟨J,T⟩:=hE ((n*n).val);obtain⟨xi,hu⟩:=hE ((ivF (n*n)).val);have dl:Hid (∀W:Ut,UK prog 79 #[nv x,nv x] W (rZ W λe w'=>e=nv J)):=by
     rw[<-h6.out,<-T.out];exact λW=>iJ K.2.1 n.val n.val n.isLt n.isLt W
    have d5:Hid (∀W:Ut,UK prog 159 #[nv J] W (rZ W λe w'=>e=nv xi)):=by
     rw[<-T.out,<-hu.out];exact λW=>uR K.2.1 (n*n).val (n*n).isLt W
    rw[h6.out]at r5;rw[h6.out];have K5:=Hid.mk' (V4 R5 r5);clear R5 r5 hn b8 b4 bq bc k2 ku R0 h7 O0 oA bA h0 HR k6;obtain⟨vx,he⟩:=hE (nv x);have ba:Hid (∀W:Ut,UK prog 79 #[vx,vx] W (rZ W λe w'=>e=nv J)):=by rw[<-he.out];exact dl.out
    obtain⟨dS,k9,k8⟩:=UA.1 rSc;rw[he.out];go_wp2_with (first|(refine ldR 10 K5.2.2.1 he rSc nSc ?_)|fail)
    refine(ba W5).mono ?_;rintro e W6 ⟨uu,rfl,bj,rfl⟩;obtain⟨kj,ha⟩:=hE (W6.heap.size);obtain⟨W7,bh⟩:=hE (W6.alloc (.cells #[uZ 0,uZ 0,uZ 0,uZ 0] 49));obtain⟨Y,ko⟩:=hE (W7.setCells kj 0 (wn J));have F7:Hid (Row W7 kj [uZ 0,uZ 0,uZ 0,uZ 0]/\kZ W6 W7):=by rw[<-bh.out,<-ha.out];exact⟨aE W6 _ _,aC _ _⟩
    have b6:kZ W5 Y:=by
     have:kZ W6 Y:=by rw[<-ko.out];exact RG.below_setCells (by rw[ha.out];exact Uy _) _ _ _ F7.2
     exact bj.trans (this.mono bj.size)
    have K8:Hid (Lk w Y r k B A t a.val b.val (m+m) v u3 q Rb sx G H U l/\Row Y k5 (wn x)/\Row Y kj (wn J)):=⟨K5.1.grow b6,K5.2.below b6,by rw[<-ko.out];exact F7.1.put rfl⟩
    obtain⟨vq,ky⟩:=hE (nv J);rw[ky.out];go_wp2_with (first|(refine alR 11 ha bh ?_)|(refine stR 11 ko ky F7.1.2.2 nSc (aM J) ?_)|fail)
    have d0:∀(W:Ut),kZ Y W->∀g,W.heap.size<=g->QR r k g:=λW o g hg=>K8.1.qn g (UE o.size hg)
    have o8:∀(W:Ut),kZ Y W->SP.Only r 0 32 Y W:=λW o=>SP.Only.of_below o rfl (Holds.lt K8.1.lg (by rw[K8.1.ls];decide))
    have hq:=Hid.mk' (λ(W:Ut) (o:kZ Y W)=>K8.1.rd (o8 W o) HI.out);have h8:=Hid.mk' d0;have tk:=HG.2.2.1.ok;have bt:TOk N [(J,q i)]:=by rw[<-T.out,M.1 i];exact(Tl.pt C f (n*n) (D i)).ok
    have cp:TOk N [(xi,Rb i)]:=by rw[<-hu.out,M.2 i];exact(Tl.pt C f (ivF (n*n)) (E i)).ok
    have e1:l.length<=200:=by have:=HG.2.2.2.1;have:=K.2.2.2.2.2.2;have:=HI.out;have:=kh.2;omega
    have ki:0<l.length:=by have:=HG.2.2.2.1;have:=kh.1;omega
    have b7:=Hid.mk' (λW=>kV (q i) k0.1 J W);have ci:=Hid.mk' (λW=>kV (Rb i) k0.2 xi W);have c4:=Hid.mk' (λ(s1 s2:Uv) (W:Ut) (h1:Sm 0 W s1 l) (h2:Sm 0 W s2 [(J,q i)])=>rS 0 s1 s2 l [(J,q i)] ki oM (by simp) tk.sz bt.sz W h1 h2);have bo:=Hid.mk' (λ(s1 s2:Uv) (W:Ut) (h1:Sm 0 W s1 (l++[(J,q i)])) (h2:Sm 0 W s2 [(xi,Rb i)])=>rS 0 s1 s2 (l++[(J,q i)]) [(xi,Rb i)] (by simp) (by simp;omega) (by simp) (tk.app bt).sz cp.sz W h1 h2);rw[<-ky.out];refine(gwL [pE u3,pE (jZ k),pE (sZ B t t),pE (iZ i),pE (.pointer (some ⟨B,0+33*i,none⟩)),pE (pvl (q i)),pE (nv J),pM (QR r k) [(J,q i)],pM (QR r k) (l++[(J,q i)]),pE (oZ k 1),pE (sZ A t t),pE (iZ i),pE (.pointer (some ⟨A,0+33*i,none⟩)),pE (pvl (Rb i)),pE (nv J),pE (nv xi),pM (QR r k) [(xi,Rb i)],pM (QR r k) (l++[(J,q i)]++[(xi,Rb i)])] (λW=>kZ Y W) (λW W' hb h=>h.trans (hb.mono h.size))).tail2 18 kR kR kR ⟨
     gO 3 u3,
     gO 4 (jZ k),
     fG 200 1 35 k 0 (sZ B t t) uPL (λx W h=>h) (λW o=>(hq W o).2.1) (λ_=>rfl),
     gO 9 (iZ i),
     RG.gX 2 36 3 37 (atP B 0 t t i HI.out),
     gLr 4 38 (λW o=>(hq W o).2.2.2.1) uCP bu,
     gLo 11 (λW o=>RG.range_below K8.2.2.2.1 o K8.2.2.1) rSc nSc,
     eD 5 39 6 40 64 (λx y=>#[x,y]) (λz y W hx R o=>by
      obtain rfl:z=pvl (q i):=hx;obtain rfl:y=nv J:=R;refine(b7 W).mono ?_;rintro e W' ⟨uu,rfl,hb,g,rfl,hg,L⟩;exact⟨_,rfl,hb,ED L (h8 W o g hg)⟩),
     eD 0 34 7 41 65 (λx y=>#[x,y]) (λz y W hx R o=>by
      obtain rfl:z=u3:=hx;have R:=R;refine(c4 z y W ((K8.1.grow o).sm.sm) R.sm).mono ?_;rintro e W' ⟨uu,rfl,hb,S⟩;exact⟨_,rfl,hb,S.q.mono λg hg=>h8.out W o g hg⟩),
     gP 4 (jZ k) (oZ k 1),
     fG 200 9 43 k 1 (sZ A t t) uPL (λx W h=>h) (λW o=>(hq W o).2.2.1) (λ_=>rfl),
     gO 9 (iZ i),
     RG.gX 10 44 11 45 (atP A 0 t t i HI.out),
     gLr 12 46 (λW o=>(hq W o).2.2.2.2) uCP be,
     gLo 11 (λW o=>RG.range_below K8.2.2.2.1 o K8.2.2.1) rSc nSc,
     oW 14 48 159 (λx=>#[x]) (λz W hx o=>by
      obtain rfl:z=nv J:=hx;exact d5.out W),
     eD 13 47 15 49 64 (λx y=>#[x,y]) (λz y W hx R o=>by
      obtain rfl:z=pvl (Rb i):=hx;obtain rfl:y=nv xi:=R;refine(ci W).mono ?_;rintro e W' ⟨uu,rfl,hb,g,rfl,hg,L⟩;exact⟨_,rfl,hb,ED L (h8 W o g hg)⟩),
     eD 8 42 16 50 65 (λx y=>#[x,y]) (λz y W hx R o=>by
      have hx:=hx;have R:=R;refine(bo z y W hx.sm R.sm).mono ?_;rintro e W' ⟨uu,rfl,hb,S⟩;exact⟨_,rfl,hb,S.q.mono λg hg=>h8.out W o g hg⟩),yCm⟩ (UT _ _).drew ?_
    intro V W9 cg kz;have kd:=cg 17 dC;have K9:=mk2 ((K8.1.grow kz).hide kd) (K8.2.1.below kz);dsimp only[bU,VO,Xn,Xo];generalize V 17=s17 at K9⊢;clear kd cg kz K8 hq h8 b7 ci c4 bo;generalize V 0=y0;generalize V 1=y1;generalize V 2=y2;generalize V 3=y3;generalize V 4=y4;generalize V 5=y5;generalize V 6=y6;generalize V 7=y7;generalize V 8=y8;generalize V 9=y9;generalize V 10=ya;generalize V 11=yb;generalize V 12=yc;generalize V 13=yd;generalize V 14=ye;generalize V 15=yf;generalize V 16=yg;clear V;obtain⟨ev,k1,R,ke,S⟩:=K9.1.r2;have cj:GOk N (m+m) c G H U:=sM (by have:=HG.2.2.2.2.1;omega) HG.2.2.2.2.2.1 HG.2.2.2.2.2.2 HG.1 HG.2.1 K.2.2.2.1 K.2.2.2.2.1 K.2.2.2.2.2.1;obtain⟨xo,ka⟩:∃x,Hid ((ivF n).val=x):=⟨_,rfl⟩
    have bd:x<N:=by rw[<-h6.out];exact n.isLt
    have bn:sIn N x=xo:=by rw[<-h6.out,<-ka.out];rfl
    have k7:=Fq K.2.1 m c HG.2.2.2.2.1 G H U cj x bd v W9 K9.1.qn K9.1.gr;rw[bn]at k7;obtain⟨yv,h9⟩:∃y,Hid (v=y):=⟨_,rfl⟩
    have L:Hid (U5 ev.toList.toArray=yv/\Row W9 (k+2) ev.toList/\(prog.info? 133).map (·.size)=some ev.toList.length/\ev.size=3):=⟨k1.symm.trans h9.out,S,by rw[UL,R];exact iGr,R⟩
    rw[h9.out,he.out]at k7;have d2:=Hid.mk' k7;obtain⟨dG,X,Z⟩:=UA.1 uGr;have b9:Hid (prog.underlying 133=some dG/\dG.isRow=true):=⟨X,Z⟩
    clear k1 R ke S cj bd bn k7 X Z;go_wp2_with (first|(refine U8 rfl 133 (.tmp 6) rfl (k+2) 0 ?_ ev.toList dG ?_ ?_ ?_ ?_ ?_;rfl;exact L.2.1.2.1;exact b9.1;exact b9.2;exact L.2.2.1;rw[L.1])|(refine ldR 10 K9.2.2.1 he rSc nSc ?_)|fail)
    refine d2.mono ?_;rintro e Wa ⟨vf,rfl,c3,bg⟩;obtain⟨ef,dy,hp,kb⟩:=bg.ar;subst dy;have La:=(K9.1.grow c3).next bg hp kb;obtain⟨Wb,c9⟩:∃W,Hid (Wa.setCells (k+2) 0 ef.toList=W):=⟨_,rfl⟩
    rw[c9.out]at La;have kp:Hid (Wa.there (k+2) 0 ef.size/\(prog.info? 133).map (·.size)=some ef.size/\ef.all (·.oneCell')=true):=by
     refine⟨?_,by rw[hp];exact iGr,kb⟩;rw[hp];have:=(L.2.1.below c3).2.2;rw[UL,L.2.2.2]at this;exact this
    have c5:Hid (∃v G H l,Gd N (2^(t-(i+1))) (2^(i+1)) G ((aD C f).vst (chF N) ivF t D E v0 (i+1)).g/\Gd N (2^(t-(i+1))) (2^(i+1)) H ((aD C f).vst (chF N) ivF t D E v0 (i+1)).h/\Tl N l ((aD C f).vst (chF N) ivF t D E v0 (i+1)).p/\l.length=l0.length+2*(i+1)/\Lk w Wb r k B A t a.val b.val (2^(t-(i+1))) v s17 q Rb ((aD C f).vst (chF N) ivF t D E v0 (i+1)).s G H U l):=by
     show ∃v G H l,_;rw[HS.out,HE.1,HE.2];have g1:=HG.1.fold C f (ivF n) n;have g2:=HG.2.1.fold C f n (ivF n);rw[h6.out,ka.out]at g1 g2;have tl:=(HG.2.2.1.app C f (Tl.pt C f (n*n) (D i))).app C f (Tl.pt C f (ivF (n*n)) (E i));rw[T.out,hu.out]at tl;have dm:Tl N (l++[(J,q i)]++[(xi,Rb i)]) ((aD C f).ad ((aD C f).ad Vi.p ((aD C f).ac (n*n) (D i))) ((aD C f).ac (ivF (n*n)) (E i))):=by rw[M.1 i,M.2 i];exact tl
     exact⟨_,_,_,_,g1,g2,dm,by have:=HG.2.2.2.1;simp;omega,La⟩
    obtain⟨vo,c6⟩:=hE (U5 ef);rw[c6.out];go_wp2_with (first|(refine U3 rfl 133 (.tmp 6) _ rfl (k+2) 0 ef ?_ ?_ ?_ ?_ ?_ ?_;rfl;exact c6.symm;exact kp.1;exact kp.2.1;exact kp.2.2;rw[c9.out])|fail)
    go_roundg (gk-1)
    case measure=>have:=HI.out;omega
    case rel=>exact⟨i+1,by have:=HI.out;omega,rfl,c5⟩
  ·have d3:¬(i:Int)<(t:Int):=oM;have ct:i=t:=oM;obtain⟨v,G,H,l,hG,hH,hl,kg,hR⟩:=KM.out;subst ct;rw[Nat.sub_self,Nat.pow_zero]at hG hH hR;have hw:0<2^i:=X6 dC;have ck:2^i<=64:=UE (VN dC K.2.2.2.2.2.2) dC;obtain⟨l1,l2,Y,dw,d6,cH,cM,cP⟩:=So (Q:=QR r k) C K.2.1 f K.2.2.1 hw ck hG hH K.2.2.2.1 K.2.2.2.2.1 K.2.2.2.2.2.1 hl (by have:=K.2.2.2.2.2.2;have:=kh.2;omega) a b;have dz:decide (Y=o33)=Bd:=by
    have h2:=d6.trans bm.symm;cases Bd with
    | true=>exact decide_eq_true (h2.2 rfl)
    | false=>exact decide_eq_false λh=>Bool.false_ne_true (h2.1 h)
   obtain⟨ev,k1,R,ke,S⟩:=hR.r2;obtain⟨g1,V⟩:=hE (wr.heap.size);obtain⟨o,kx⟩:=hE (wr.alloc (.cells (wn a.val).toArray 49));obtain⟨g2,kt⟩:∃g,Hid (o.heap.size=g):=⟨_,rfl⟩
   obtain⟨W2,J⟩:∃W,Hid (o.alloc (.cells (wn b.val).toArray 49)=W):=⟨_,rfl⟩
   have b1:kZ wr o:=by rw[<-kx.out];exact aC _ _
   have b2:kZ o W2:=by rw[<-J.out];exact aC _ _
   have r1:Row o g1 (wn a.val):=by rw[<-kx.out,<-V.out];exact aE wr _ _
   have r2:Row W2 g2 (wn b.val):=by rw[<-J.out,<-kt.out];exact aE o _ _
   have L1:=hR.grow b1;have L2:=L1.grow b2;have q1:QR r k g1:=by rw[<-V.out];exact hR.qn _ (Uy _)
   have q2:QR r k g2:=by rw[<-kt.out];exact L1.qn _ (Uy _)
   have cf:=cH W2 v _ _ L2.gr (QN (r1.below b2) q1) (QN r2 q2);obtain⟨yv,h9⟩:∃y,Hid (v=y):=⟨_,rfl⟩
   obtain⟨va,cd⟩:∃y,Hid (nv a.val=y):=⟨_,rfl⟩
   obtain⟨vb,cn⟩:∃y,Hid (nv b.val=y):=⟨_,rfl⟩
   rw[h9.out]at cf;have ra:∀ {W:Ut},Row W k (inL B A i a.val b.val)->W.rangeAt k 2 (wn a.val)/\W.rangeAt k 6 (wn b.val):=λhW=>⟨λj z n=>by
    have:=hW.2.1 (2+j) z (by
     have T:j<4:=(UG.1 n).1;match j,T with
     | 0,_=>exact n
     | 1,_=>exact n
     | 2,_=>exact n
     | 3,_=>exact n
     | j+4,h=>omega)
    rw[UF]at this;exact this,λj z n=>by
    have:=hW.2.1 (6+j) z (by
     have T:j<4:=(UG.1 n).1;match j,T with
     | 0,_=>exact n
     | 1,_=>exact n
     | 2,_=>exact n
     | 3,_=>exact n
     | j+4,h=>omega)
    rw[UF]at this;exact this⟩
   have S1:Hid ((VF 124 1 #[(0,va)]).run prog wr=.ok (sZ g1 1 1) o):=by rw[<-cd.out,<-V.out,<-kx.out];exact SK a.val wr
   have S2:Hid ((VF 124 1 #[(0,vb)]).run prog o=.ok (sZ g2 1 1) W2):=by rw[<-cn.out,<-kt.out,<-J.out];exact SK b.val o
   have kn:=mk3 ((ra hR.r0).1) ((ra L1.r0).2) S.2.1;have L:Hid (U5 ev.toList.toArray=yv/\(prog.info? 133).map (·.size)=some ev.toList.length):=⟨k1.symm.trans h9.out,by rw[UL,R];exact iGr⟩
   obtain⟨dG,X,Z⟩:=UA.1 uGr;obtain⟨dS,k9,k8⟩:=UA.1 rSc;have HD:Hid ((prog.underlying 133=some dG/\dG.isRow=true)/\prog.underlying 49=some dS/\dS.isRow=true):=⟨⟨X,Z⟩,k9,k8⟩
   have dd:=Hid.mk' cf;have kk:=Hid.mk' (V4 cM cP);have d8:=Hid.mk' L2;obtain⟨vz,cv⟩:=hE (U5 z33.toArray);obtain⟨vy,bz⟩:=hE (pvl Y);rw[bz.out]at kk;have HZ:Hid (∀W,(binOp .eql 103 vy vz).run prog W=.ok (.bool Bd) W/\(Instr.build 103 #[]).run prog W=.ok vz W/\(eqGuard .eql 103 (.tmp 67) (.tmp 68) vy vz).run prog W=.ok () W):=by
    rw[<-cv.out,<-bz.out,<-dz];exact λW=>⟨by rw[MA];exact NU dw rfl W,NY W,by unfold pvl;kernel_rfl⟩
   go_wp2_with (first|(refine U8 rfl 133 (.tmp 6) rfl (k+2) 0 ?_ ev.toList dG ?_ ?_ ?_ ?_ ?_;rfl;exact kn.2.2;exact HD.1.1;exact HD.1.2;exact L.2;rw[L.1])|(refine ldR 57 kn.1 cd rSc nSc ?_)|(refine ldR 60 kn.2.1 cn rSc nSc ?_)|(refine jE (v:=sZ g1 1 1) (w':=o) rfl 124 1 _ rfl #[(0,va)] ?_ ?_ ?_;kernel_rfl;exact S1.out)|(refine jE (v:=sZ g2 1 1) (w':=W2) rfl 124 1 _ rfl #[(0,vb)] ?_ ?_ ?_;kernel_rfl;exact S2.out)|fail)
   refine dd.mono ?_;rintro e W3 ⟨s1,rfl,cu,cq⟩;have L3:=d8.grow cu;have T:=Hid.mk' (V4 L3 (show Sm 0 W3 s1 l1 from by
    obtain⟨g,c,x1,x2,-,x4⟩:=cq;exact⟨g,c,x1,x2,Wz _,x4⟩))
   go_wp2_with fail
   refine(kk.1 W3 s1 u3 T.2 T.1.sm.sm).mono ?_;rintro e W4 ⟨s2,rfl,k2,db⟩;have L4:=T.1.grow k2;have b5:=Hid.mk' (V4 L4 (show Sm 0 W4 s2 l2 from by
    obtain⟨g,c,x1,x2,-,x4⟩:=db;exact⟨g,c,x1,x2,Wz _,x4⟩))
   go_wp2_with fail
   refine(kk.2 W4 s2 b5.2).mono ?_;rintro e W5 ⟨uu,rfl,dh,d7⟩;have bi:=d7.symm;subst bi;have L5:=Hid.mk' (b5.1.grow dh).on;go_wp2_with (first|(refine lK (v:=vz) (w':=W5) rfl 103 _ rfl #[] ?_ ?_ ?_;kernel_rfl;exact(HZ W5).2.1)|(refine bG (v:=.bool Bd) (w':=W5) rfl (.binOp .eql 103 (.tmp 67) (.tmp 68) 103) rfl ?_ ?_;exact DO (I:=eqGuard .eql 103 (.tmp 67) (.tmp 68) vy vz >>= λ_=>binOp .eql 103 vy vz) (by rw[UW,(HZ W5).2.2];exact(HZ W5).1))|fail)
   go_ret;exact⟨_,rfl,L5.out,rfl⟩
end
section
open Go.RowKit Go.Sort Go.Deep SPA
variable {P:Nat}[NeZero P]{N:Nat}
noncomputable def gPG (C:Fld P):OnP P:=⟨gG P,Cu C⟩
noncomputable def hPV (C:Fld P):OnP P:=lPt C iF []
theorem MV(n m:Nat):cmt P n m=EC.add (mul n (.some (hpt P iF []))) (mul m (gG P)):=by
 unfold cmt;generalize (.some (hpt P iF []):EC.Pt P)=H;show EC.add (EC.add none (eF ((n:Nat):Int) H)) (eF ((m:Nat):Int) (gG P))=_;rw[jL];rfl
section
variable [NeZero N]
theorem yB(C:Fld P)(k:∀r:EC.Pt P,On r->mul N r=none)(a b:Fin N):wr (cmt P a.val b.val)=wP ((aD C k).cm (hPV C) (gPG C) a b):=by
 rw[MV];rfl
structure RvL(C:Fld P)(hord:∀r:EC.Pt P,On r->mul N r=none)(R:Rv N)(V A S C1 C2 L3 L6 L8:Bs):Prop where
 eV:V=wP (R.pV (aD C hord) (gPG C) (hPV C))
 eA:A=wP (R.pA (aD C hord) (gPG C) (gPt C ⟨#[108,101,102,116]⟩) (gPt C ⟨#[114,105,103,104,116]⟩))
 eS:S=wP (R.pS (aD C hord) (gPG C) (gPt C ⟨#[108,101,102,116]⟩) (gPt C ⟨#[114,105,103,104,116]⟩))
 e1:C1=wP (R.p1 (aD C hord) (gPG C) (hPV C))
 e2:C2=wP (R.p2 (aD C hord) (gPG C) (hPV C))
 l3:L3=bgL V R.n A S
 y:R.y=kO N L3
 z:R.z=kO N (bB L3)
 l6:L6=mdL (bB (bB L3)) C1 C2
 x:R.x=kO N L6
 l8:L8=enL (bB L6) R.tau.val R.mu.val R.t.val
 w:R.w=kO N L8
structure RvS(R:Rv N)(sd:List UInt8):Prop where
 s:∀i,(R.s i).val=chL N [115,108] [sd,(iC i).toList]
 q:∀i,(R.q i).val=chL N [115,114] [sd,(iC i).toList]
 al:R.al.val=chL N [97,108,112,104,97] [sd]
 rho:R.rho.val=chL N [114,104,111] [sd]
 t1:R.t1.val=chL N [116,97,117,49] [sd]
 t2:R.t2.val=chL N [116,97,117,50] [sd]
end
theorem Ug(q:Option Wv)(n c:Nat)(w:Ut):(VF 24 1 #[(0,.slice q n c)]).run prog w=.ok (sZ w.heap.size 1 1) (w.alloc (.cells #[.slice q n c] 23)):=kR
theorem Bg(O:Ord N)(d:ByteArray)(i:d.size<=1000)(g:List UInt8)(q:Option Wv)(n c:Nat)(w:Ut)(l:PartOk w (.slice q n c) g){x:Nat}(hx:x=chL N d.data.toList [g]):
 ∃k f,Hid ((VF 24 1 #[(0,.slice q n c)]).run prog w=.ok (sZ k 1 1) f)/\Hid (kZ w f)/\Hid (UK prog 60 #[.string d,sZ k 1 1] f (rZ f λe w'=>e=nv x)):=by
 have b:=aC w (.cells #[.slice q n c] 23);refine⟨_,_,Ug q n c w,b,?_⟩;rw[hx];refine CE O d _ 1 1 [g] _ (by omega) rfl (by decide) (U2 ⟨_,_,rfl,λj f=>?_⟩);obtain rfl:j=0:=by simp at f;omega
 exact⟨_,(aE w [.slice q n c] 23).2.1 0 _ rfl,l.below b⟩
def rp0:Rp:=⟨o33,o33,o33,o33,0,0,0⟩
theorem IB:rp0.Ok:=⟨rfl,rfl,rfl,rfl⟩
end
namespace RG
open Go Go.RowKit
variable {P:VD}{ops:Array Vk}{Q:X9->Act->Ut->Prop}{w:Ut}{a0:Act}{L:Array Bool}{F:Flow}{m:Nat}
theorem SZ:∀(k:Nat) (L:Array Bool) (a:Act) (w:Ut),wpAny P .any ops Q k L a w->anyS P ops Q (λ_ _=>True) k L a w
 | 0,_,_,_,h=>h
 | k+1,_,_,_,h=>⟨h.1,λi d=>X8 (λb w' c=>⟨trivial,SZ k _ b w' c⟩) (h.2 i d)⟩
def yH(k:Array Vk)(n:Nat)(late:List Nat):Bool:=(VB n).all (λj=>late.contains j || mZ k 5 n j) && (VB k.size).all (λi=>decide (i<=n) || depOn k i (i-1))
theorem yG{n i:Nat}{late:List Nat}(h:yH ops n late=true)(c:n<i)(b:i<ops.size):depOn ops i (i-1)=true:=by
 unfold yH at h;rw[UN]at h;have k:=Va.1 h.2 i (VS.2 b);rw[WV,decide_eq_true_eq]at k;rcases k with k|k
 ·omega
 ·exact k
def lz(m n:Nat)(late:List Nat):Array Bool:=((VB m).map λi=>decide (i<n) && !late.contains i).toArray
structure LateP(P:VD)(F:Flow)(ops:Array Vk)(n:Nat)(late:List Nat)(j:Nat):Prop where
 lt:j<n
 o:∃o,ops[j]? = some o/\o.guard=none/\rB ops j=false/\(∀i oi,ops[i]? = some oi->i≠j->(i∈late\/n<=i)->(∀e∈oi.after,VM .any e=true->e.on≠j)->o.apart ops oi=true)/\(∃p op,n<=p/\ops[p]? = some op/\∃e∈op.after,VM .any e=true/\e.on=j)/\(∀e∈o.after,VM .any e=true->e.on<n/\e.on ∉ late)/\∃j' t,dB o j'=true/\aX ops j'=some t/\F.kill j'=[]/\∀v w,F.R j' v w->∃u,F.R j u w/\F.E j w w/\∀(a:Act) (W:Ut),a.eval (.tmp t)=v->(U9 a.eval o).run P W=.ok (.value u) W
theorem GN(F:Flow)(n:Nat)(late:List Nat)(k6:∀j∈late,LateP P F ops n late j)(hQ:∀c (a:Act) t v w,Q (.panic c) (a.put (some t) v) w->Q (.panic c) a w)(hs:XQ ops=true)(hn:n<ops.size)(hc:yH ops n late=true)(hm:P.follows .mixedOrders=true)(R:RegF P Q F ops a0 n)(hA:Als P F ops n)(hB:∀b,F.B b w.drew)
 (hp:∀(V:Nat->Uv) (w':Ut),(∀i,i<n->F.kill i=[]->F.R i (V i) w')->(∀b,F.killB b=[]->F.B b w')->(∀i j,i<n->j<n->i≠j->rB ops i=true->rB ops j=true->(aX ops i).isSome=true->(aX ops j).isSome=true->V i≠V j)->wpList P ops Q (ops.toList.drop n) (bU V (ops.toList.take n) 0 a0) w'):(V3 id ops true).wp P Q a0 w:=by
 have k5:∀(i:Nat) (o:Vk),ops[i]? = some o->∀e∈o.after,VM .any e=true->e.on<i:=λi o ho=>(R.of ho).1
 have key:∀(g:Nat) (L:Array Bool) (a:Act) (w:Ut),unl L=g->(∀j,n<=j->on L j=false)->InvF F ops a0 L a w->Sep ops L a->wpAny P .any ops Q g L a w:=by
  intro g;induction g with
  | zero =>
   intro L a w hu k y hS;have:=gU hu n (by rw[y.size];omega);rw[k n (Uy _)]at this;cases this
  | succ g ih =>
   intro L a w hu k y hS;by_cases m:∀j,j<n->j ∉ late->on L j=true
   ·by_cases hq:∃j,j∈late/\on L j=false
    ·obtain⟨j,s,I⟩:=hq;obtain⟨k8,o,ho,hg,hw,k3,⟨p,op,k2,kd,ke⟩,h0,j',t,A,k7,kc,ht⟩:=k6 j s;have G:∀x∈F.kill j',on L x=false:=λx hx=>by rw[kc]at hx;cases hx
     obtain⟨V,E,T⟩:=y.all;have f:∀e∈o.after,VM .any e=true->on L e.on=true:=λe Z hb=>m _ (h0 e Z hb).1 (h0 e Z hb).2
     obtain⟨e,Z,X⟩:=Xs.1 A;simp only[UN,beq_iff_eq]at X;have B:on L j'=true:=by rw[<-X.2];exact f e Z X.1
     obtain⟨u,k9,k4,ka⟩:=ht (V j') w (T j' B G);have k0:a.eval (.tmp t)=V j':=A8 (E j' t B k7);have Y:=(UY.1 ho).1;have h8:L.getD j true=false:=by
      unfold on at I;rw[UJ,UZ (by rw[y.size];exact Y)]at I⊢;exact I
     have h5:∀i,on L i=true->i<n:=λi q=>by
      rcases VV i n with h|h
      ·exact h
      ·rw[k i h]at q;cases q
     have J:=y.nx R k8 h5 ho I f k4 k9;have O:∀i,on (L.setIfInBounds j true) i=true->i≠j->on L i=true:=λi q r=>by
      rw[dD (by rw[y.size];exact Y)]at q;rcases WV _ _ ▸ q with q|q
      ·exact q
      ·exact absurd (by simpa using q:j=i).symm r
     have kf:Sep ops (L.setIfInBounds j true) (a.put o.dst u):=λi i2 di dj q kb U C D z M=>by
      have h9:i≠j:=by rintro rfl;rw[hw]at C;cases C
      have hz:i2≠j:=by rintro rfl;rw[hw]at D;cases D
      have K:=hS i i2 di dj (O i q h9) (O i2 kb hz) U C D z M;have H:∀i di N,i≠j->aX ops i=some di->o.dst=some N->N≠di:=λi di N r q hk e=>by
       subst e;exact r ((R.of ho).2 N hk |>.2 i q)
      cases hd:o.dst with
      | none=>exact K
      | some N=>rw[kE (H i di N h9 z hd),kE (H i2 dj N hz M hd)];exact K
     have hy:=ih (L.setIfInBounds j true) (a.put o.dst u) w (by have:=iO h8;omega) (λi q=>by
      rw[dD (by rw[y.size];exact Y),k i q];simp only[Zw,beq_eq_false_iff_ne];omega) J kf
     refine anyS.any _ _ _ _ (anyS.first (S:=λ_ _=>True) (p:=p) ho kd ke (by omega) (λ_ _ _=>trivial) (Region.noSelect_spec hs) (λc a w h=>by
      cases hd:o.dst with
      | none=>rw[hd]at h;exact h
      | some t=>rw[hd]at h;exact hQ c a t u w h) g L a w ?_ (λi oi K r h6 k1=>k3 i oi K r (by
      rcases VV i n with h|h
      ·by_cases h7:i∈late
       ·exact U6 h7
       ·have N:=m i h h7;have H:=(UY.1 K).1;unfold on at N;rw[UJ,UZ (by rw[y.size];exact H)]at N h6;exact Bool.noConfusion (N.symm.trans h6)
      ·exact U2 h) k1) (mem_ready.2 ⟨h8,o,ho,?_⟩) (U6 ⟨bI hg _,λW _=>ka a W k0⟩) ⟨#[],by simp,yCm⟩ trivial (SZ g _ _ _ hy))
     ·have:=k p k2;unfold on at this;exact this
     ·intro e Z hb;exact f e Z hb
    have r:∀j,j<n->on L j=true:=λj s=>by
     by_cases I:j∈late
     ·cases h:on L j with
      | true=>rfl
      | false=>exact absurd ⟨j,I,h⟩ hq
     ·exact m j s I
    have B:∀j,on L j=true↔j<n:=λj=>⟨λs=>(by
     rcases VV j n with h|h
     ·exact h
     ·rw[k j h]at s;cases s),r j⟩
    obtain⟨V,E,T⟩:=y.all;have X:=y.act R oM B E;have G:∀l:List Nat,l=[]->∀x∈l,on L x=false:=λl Y x hx=>by rw[Y]at hx;cases hx
    have M:=hp V w (λj s hk=>T j (r j s) (G _ hk)) (λb hb=>y.base b (G _ hb)) (λi j q s U C D z A e=>by
     obtain⟨di,z⟩:=Vu.1 z;obtain⟨dj,A⟩:=Vu.1 A;refine hS i j di dj (r i q) (r j s) U C D z A ?_;rw[E i di (r i q) z,E j dj (r j s) A,e])
    rw[<-X]at M;exact zC (λi O N=>yG hc O N) k5 _ L a w n (Uy _) oM y.size B hu M
   ·refine⟨λB=>?_,λi q=>?_⟩
    ·exact absurd (λj s _=>y.full R B j oM) m
    ·obtain⟨O,o,ho,f⟩:=mem_ready.1 q;have H:=(UY.1 ho).1;have K:on L i=false:=by
      unfold on;rw[UJ]at O⊢;cases hh:L[i]? with
      | none=>rfl
      | some b=>rw[hh]at O;exact O
     have A:i<n:=by
      rcases VV i n with h|h
      ·exact h
      ·exfalso;rcases VV n i with N|N
       ·have:=eM ho f (yG hc N H);rw[k (i-1) oM]at this;cases this
       ·obtain rfl:i=n:=oM;refine m λj s I=>?_
        unfold yH at hc;rw[UN]at hc;have r:=Va.1 hc.1 j (VS.2 s);rw[WV]at r;replace r:=r.resolve_left (by simpa using I);unfold mZ at r;rw[WV]at r;rcases r with r|r
        ·exact eM ho f r
        ·obtain⟨x,hx,z⟩:=List.any_eq_true.1 r;rw[UN]at z;exact wO y 4 x j (by have:=VS.1 hx;omega) (eM ho f z.1) z.2
     refine X8 (λr w' J=>ih _ r w' (by have:=iO O;omega) (λj s=>?_) J.1 J.2) (stepS R hA A (λj s=>?_) ho K f y hS)
     ·rw[dD (by rw[y.size];exact H),k j s];simp only[Zw,beq_eq_false_iff_ne];omega
     ·rcases VV j n with h|h
      ·exact h
      ·rw[k j h]at s;cases s
 have k:∀i,on (UM ops.size false) i=false:=λi=>by
  unfold on;rw[UJ,Array.getElem?_replicate];by_cases h:i<ops.size
  ·rw[yCk h];rfl
  ·rw[yCl h];rfl
 refine wp_region_any hm (key _ _ a0 _ ?_ (λj _=>k j) ⟨Array.size_replicate,(λi o _ h=>by rw[k]at h;cases h),rfl,rfl,λ_ _=>rfl,⟨λ_=>WJ,λi d h=>(by rw[k]at h;cases h),λi h=>(by rw[k]at h;cases h)⟩,λb _=>hB b⟩ (λi j di dj q=>by rw[k]at q;cases q));unfold unl;rw[XT,List.countP_replicate];simp
theorem late1{G:Gw}{n:Nat}{late:List Nat}(p m:Nat)(t:WF)(d:∀v w,G.R m v w->∃u,G.R j u w/\∀o,ops[j]? = some o->∀W,(dA [t] o,(U9 (evo λ_=>v) o).run P W)=(true,.ok (.value u) W))
 (z:(decide (j<n) && decide (n<=p) && waits ops p j && Region.free .any ops (lz ops.size n late) j && !rB ops j && (match ops[j]? with|some o=>o.guard.isNone && o.after.all (λe=>!VM .any e || (decide (e.on<n) && !late.contains e.on)) && dB o m|none=>false))=true:=by kernel_rfl) (hd:aX ops m=some t:=by kernel_rfl):LateP P G.flow ops n late j:=by
 simp only[UN,decide_eq_true_eq,yA5]at z;obtain⟨⟨⟨⟨⟨C,J⟩,b⟩,E⟩,F⟩,l⟩:=z;cases ho:ops[j]? with
 | none=>rw[ho]at l;cases l
 | some o =>
  rw[ho]at l;simp only[UN]at l;obtain⟨⟨A,I⟩,D⟩:=l;have B:o.guard=none:=by simpa using A
  refine⟨C,o,ho,B,F,λi H f r k s=>Region.free_spec ho E i H f r ?_ s,?_,λe c g=>?_,m,t,D,hd,rfl,λv w hv=>?_⟩
  ·have q:=(UY.1 f).1;unfold lz;rw[UJ,Vm,Vy,Zy q,Yj,Option.getD_some];rcases k with k|k
   ·rw[List.contains_iff_mem.2 k,yAm,Bool.and_false]
   ·rw[decide_eq_false (by omega),Bool.false_and]
  ·unfold waits at b;cases q:ops[p]? with
   | none=>rw[q]at b;cases b
   | some op =>
    rw[q]at b;obtain⟨e,c,g⟩:=Xs.1 b;simp only[UN,beq_iff_eq]at g;exact⟨p,op,J,q,e,c,g.1,g.2⟩
  ·have:=Array.all_eq_true'.1 I e c;rw[g,yAm,Zw,UN,decide_eq_true_eq,yA5]at this;exact⟨this.1,by simpa using this.2⟩
  ·obtain⟨u,x,y⟩:=d v w hv;refine⟨u,x,UT _ _,λa W c=>?_⟩;have h:=y o ho W;rw[We.injEq]at h;rw[iY (a:=a) (λ_=>v) [t] h.1 (λK q=>by rw[WT.1 q];exact c)];exact h.2
theorem Gw.late(G:Gw)(n:Nat)(l:List Nat)(b:∀j∈l,LateP P G.flow ops n l j)(m:Als P G.flow ops n)(k:(decide (n<ops.size) && yH ops n l && XQ ops)=true)(r:P.follows .mixedOrders=true)(q:Bf ops a0.tmps.size=true)(h:iM P Q G.flow ops a0 0 (ops.toList.take n))(g:G.B w.drew)
 (f:∀(V:Nat->Uv) (w':Ut),(∀i,i<n->G.R i (V i) w')->G.B w'->(∀i j,i<n->j<n->i≠j->rB ops i=true->rB ops j=true->(aX ops i).isSome=true->(aX ops j).isSome=true->V i≠V j)->wpList P ops Q (ops.toList.drop n) (bU V (ops.toList.take n) 0 a0) w') (o:∀c (a:Act) t v w,Q (.panic c) (a.put (some t) v) w->Q (.panic c) a w:=by exact λ_ _ _ _ _ h=>h):(V3 id ops true).wp P Q a0 w:=by
 rw[UN,UN,decide_eq_true_eq]at k;exact GN G.flow n l b o k.2 k.1.1 k.1.2 r (Gw.reg q h) m (λ_=>g) λV w' e p d=>f V w' (λi s=>e i s rfl) (p 0 rfl) d
end RG
section
open Go Go.RowKit
section
variable {P:VD}{ops:Array Vk}{rest:List Vk}{op:Vk}{a a':Act}{w w':Ut}{Q:X9->Act->Ut->Prop}{d:Option WF}{x v:Uv}{t:WF}{T:Vb}{b off:Nat}{cs:List Uv}
theorem PW.begin{l:List Vk}(h:wpList P l.toArray Q l a w):(V3 id l.toArray false).wp P Q a w:=wp_region_list h
theorem PW.dn(h:Q .normal a w):wpList P ops Q [] a w:=h
theorem PW.va(x:Uv)(h:wpList P ops Q rest a' w)(hd:op.dst=d:=by rfl)(b:op.guard=none:=by rfl)(hv:(U9 a.eval op).run P w=.ok (.value x) w:=by kernel_rfl)(c:a.put d x=a':=by(simp only[UR,Uu,Uw,Ux])<;>rfl):wpList P ops Q (op :: rest) a w:=by
 subst c hd;exact Xd b λK k=>by
  unfold VT;rw[hv];exact k _ _ h
theorem PW.mv(h:wpList P ops Q rest a' w)(hd:op.dst=d:=by rfl)(b:op.guard=none:=by rfl)(k:op.op=.move (.tmp t):=by rfl)(hx:a.eval (.tmp t)=x:=by(conv=>lhs;whnf)<;>rfl)(c:a.put d x=a':=by(simp only[UR,Uu,Uw,Ux])<;>rfl):wpList P ops Q (op :: rest) a w:=
 PW.va x h hd b (by unfold U9;rw[k];dsimp only;rw[hx];rfl) c
theorem PW.ns{I:Sem Uv}(hx:I.run P w=.ok x w')(h:wpList P ops Q rest a' w')(hd:op.dst=d:=by rfl)(b:op.guard=none:=by rfl)(c:U9 a.eval op=I >>= λv=>pure (Xq v):=by kernel_rfl)(e:a.put d x=a':=by(simp only[UR,Uu,Uw,Ux])<;>rfl):wpList P ops Q (op :: rest) a w:=by
 subst e hd;exact Xd b λK k=>by
  unfold VT;rw[c,UW,hx];exact k _ _ h
theorem PW.ca{R:Uv->Ut->Prop}(k:UK P f args w (Ret R))(h:∀e w',R e w'->wpList P ops Q rest (a.put d e) w')(hd:op.dst=d:=by rfl)(c:op.guard=none:=by rfl)(hx:(U9 a.eval op).run P w=.ok (.enter f args) w:=by kernel_rfl):wpList P ops Q (op :: rest) a w:=by
 subst hd;exact Xd c λK b=>by
  unfold VT;rw[hx,WU];refine k.mono ?_;rintro e w' ⟨v,rfl,hR⟩;exact b _ _ (h v w' hR)
theorem PW.gi(k:UK P f args w (rZ w λe w'=>e=x))(h:∀w',kZ w w'->wpList P ops Q rest a' w')(hd:op.dst=d:=by rfl)(b:op.guard=none:=by rfl)(hx:(U9 a.eval op).run P w=.ok (.enter f args) w:=by kernel_rfl)(c:a.put d x=a':=by(simp only[UR,Uu,Uw,Ux])<;>rfl):wpList P ops Q (op :: rest) a w:=
 PW.ca k (λe w' hR=>by
  obtain⟨g,rfl⟩:=hR;subst c;exact h w' g) hd b hx
theorem PW.al{g:Nat}{b:Obj}(e:Hid (w.heap.size=g))(j:Hid (w.alloc b=w'))(h:wpList P ops Q rest a' w')(hd:op.dst=d:=by rfl)(k:op.guard=none:=by rfl)(f:(U9 a.eval op).run P w=.ok (.value (jZ w.heap.size)) (w.alloc b):=by kernel_rfl)(i:a.put d (jZ g)=a':=by(simp only[UR,Uu,Uw,Ux])<;>rfl):wpList P ops Q (op :: rest) a w:=by
 subst i hd;exact Xd k λK c=>by
  unfold VT;rw[f,e.out,j.out];exact c _ _ h
theorem PW.st(f:Hid (w.setCells b off cs=w'))(hv:Hid (.agg cs.toArray=v))(th:w.there b off cs.length)(d:(P.info? T).map (·.size)=some cs.length)(e:cs.toArray.all (·.oneCell')=true)(h:wpList P ops Q rest a' w')(hd:op.dst=none:=by rfl)(k:op.guard=none:=by rfl){y:XM}(ho:op.op=.store T (.tmp t) y:=by rfl)(hx:a.eval (.tmp t)=oZ b off:=by rfl)(g:a.eval y=v:=by rfl)(c:a.put none WJ=a':=by(simp only[UR])<;>rfl):wpList P ops Q (op :: rest) a w:=
 U3 k T (.tmp t) y ho b off cs.toArray hx (g.trans hv.out.symm) th d e (by rw[show cs.toArray.toList=cs from rfl,f.out,hd,c];exact h)
theorem PW.ro(e:w.rangeAt b off cs)(hv:Hid (.agg cs.toArray=v))(i:(P.underlying T).map (·.isRow)=some true)(g:(P.info? T).map (·.size)=some cs.length)(h:wpList P ops Q rest a' w)(hd:op.dst=d:=by rfl)(k:op.guard=none:=by rfl)(ho:op.op=.load T (.tmp t):=by rfl)(hx:a.eval (.tmp t)=oZ b off:=by rfl)(f:a.put d v=a':=by(simp only[UR,Uu,Uw,Ux])<;>rfl):wpList P ops Q (op :: rest) a w:=by
 obtain⟨c,j,l⟩:=UA.1 i;exact U8 k T (.tmp t) ho b off hx cs c e j l g (by rw[hv.out,hd,f];exact h)
theorem PW.ce(c:w.cell? ⟨b,off,none⟩=some x)(f:(P.underlying T).map (·.isRow)=some false)(h:wpList P ops Q rest a' w)(hd:op.dst=d:=by rfl)(k:op.guard=none:=by rfl)(ho:op.op=.load T (.tmp t):=by rfl)(hx:a.eval (.tmp t)=oZ b off:=by rfl)(e:a.put d x=a':=by(simp only[UR,Uu,Uw,Ux])<;>rfl):wpList P ops Q (op :: rest) a w:=
 PW.va x h hd k (by
  unfold U9;rw[ho];dsimp only;rw[hx,UW,fE c f];rfl) e
end
end
section
open Go.RowKit Go.Sort Go.Deep SPA
variable {P:Nat}[NeZero P]{N:Nat}[NeZero N]
omit [NeZero N] in
theorem SLq.fin{Q:Nat->Prop}{W:Ut}{v:Uv}{n:Nat}{a:Nat->Nat}(b:Nat->Fin N)(h:SLq Q W v n a)(e:∀i,i<n->a i=(b i).val):SLq Q W v n (λi=>(b i).val):=h.congr e
omit [NeZero N] in
theorem Ln.fin{Q:Nat->Prop}{W:Ut}{v:Uv}{n:Nat}{a b:Nat->Nat}(c d:Nat->Fin N)(h:Ln Q W v n a b)(e:∀i,i<n->a i=(c i).val)(e':∀i,i<n->b i=(d i).val):Ln Q W v n (λi=>(c i).val) (λi=>(d i).val):=by
 obtain⟨x,y,k,f,g⟩:=h.ex;exact⟨x,y,k,f.congr e,g.congr e'⟩
theorem J3(k:1<N)(v i:Nat):v/2^i%2=(btF N v i).val:=by
 exact(UU (Uz (V6 _ (by decide)) k)).symm
theorem Qb(k:1<N)(v i:Nat):sMi N (v/2^i%2) 1=(btF N v i-1).val:=by
 rw[Ja,<-J3 k,show(1:Fin N).val=1 from UU k]
theorem RU(C:Fld P)(O:Ord N)(b:∀r:EC.Pt P,On r->mul N r=none)(g:IsP N)(n:Nat)(f:0<n)(D:n<=64)(a:Fin N)(l m:Nat->Fin N)(Gb X:Bs)(hG:wr (gG P)=Gb)(x:X=wP ((aD C b).ad ((aD C b).ac a (gPG C)) ((aD C b).ad ((aD C b).dt l (gPt C ⟨#[108,101,102,116]⟩) n) ((aD C b).dt m (gPt C ⟨#[114,105,103,104,116]⟩) n)))):
 ∃d lb,(∀W:Ut,UK prog 64 #[pvl Gb,nv a.val] W (rZ W λe w'=>Sm W.heap.size w' e d)) /\
  (∀(Q:Nat->Prop) (W:Ut) (v va c:Uv),GRq Q W v n (gGT P) (hGT P) (uGT P)->SLq Q W va n (λi=>(l i).val)->SLq Q W c n (λi=>(m i).val)->UK prog 66 #[v,va,c] W (rZ W λe w'=>Sm W.heap.size w' e lb)) /\
  (∀(W:Ut) (s z:Uv),Sm 0 W s d->Sm 0 W z lb->UK prog 65 #[s,z] W (rZ W λe w'=>Sm W.heap.size w' e (d++lb))) /\
  (∀(W:Ut) (v:Uv),Sm 0 W v (d++lb)->UK prog 67 #[v] W (rZ W λe w'=>e=pvl X)):=by
 have o:=uY C g.1 n;have p:=nJ C g.1 n;have j:=sM f (by decide:0<1) (by omega) o p (mQ C g.1) yBZ (by show 1<=16;decide);have t:Gb.size=33:=by rw[<-hG];exact aT _
 have t0:Tl N [(a.val,Gb)] ((aD C b).ac a (gPG C)):=by rw[<-hG];exact Tl.pt C b a (gPG C)
 have t1:=(o.cmb C b l).1.app C b (p.cmb C b m).1;have y:(dJ N (λi=>(l i).val) (gGT P) n++dJ N (λi=>(m i).val) (hGT P) n).length=n+n:=by rw[UB,(o.cmb C b l).2,(p.cmb C b m).2,Xj]
 have t2:=t0.app C b t1;refine⟨_,_,λW=>?_,λ_ W v va c d q w=>xI O n 1 (gGT P) (hGT P) (uGT P) j _ _ (λi _=>(l i).isLt) (λi _=>(m i).isLt) v va c W d q w,λW s z d q=>cO 0 s z _ _ (by simp) (by simp) (by omega) t0.ok.sz t1.ok.sz W (U2 d) (U2 q),λW v hv=>?_⟩
 ·refine(kV Gb t a.val W).mono ?_;rintro e W' ⟨u,rfl,B,k,rfl,j,hR⟩;exact⟨_,rfl,B,Sm.one hR j rfl⟩
 ·rw[x];exact t2.point C O b (by simp) (by rw[UB,y];simp;omega) hv
theorem lV(k:1<N)(x:Fin N)(i:Nat):pwN N x.val i=(pwF x i).val:=(EH k x i).symm
theorem OJ(k:IsP N)(b:2<N)(R:Rv N)(i:Nat):sPl N (sTi N R.z.val (pwN N R.y.val i)) (sTi N (sTi N R.z.val R.z.val) (pwN N 2 i))=(R.sh i).val:=by
 show _=(R.z*pwF R.y i+R.z*R.z*pwF (ofF N 2) i).val;rw[mA,fM,fM,fM,<-lV k.1,<-lV k.1,show(ofF N 2).val=2 from UU b]
def pLn(Q:Nat->Prop)(n:Nat)(a b:Nat->Nat):S1:=⟨λv w=>Ln Q w v n a b,λ_ _ _ k h=>h.keep (Kq.of_below k)⟩
omit [NeZero N] in
theorem xQ(O:Ord N)(a b:Fin N)(W:Ut):UK prog 79 #[nv a.val,nv b.val] W (rZ W λe w'=>e=nv (a*b).val):=by
 rw[fM];exact iJ O a.val b.val a.isLt b.isLt W
omit [NeZero N] in
theorem PN(O:Ord N)(a b:Fin N)(W:Ut):UK prog 80 #[nv a.val,nv b.val] W (rZ W λe w'=>e=nv (a+b).val):=by
 rw[mA];exact mX O a.val b.val a.isLt b.isLt W
theorem mO(O:Ord N)(k:IsP N){y:Fin N}{L:Bs}(h:y=kO N L):chS N L=y.val:=by
 rw[h];exact FG k.1 L (uS O _)
def Ri(b:Nat)(f e:Uv)(L:Bs):S1:=⟨λv w=>∃r,v=.tuple #[lgV r,f,e]/\b<=r/\r<w.heap.size/\Holds encB w r 0 L,λ_ _ _ k ⟨r,g,i,c,d⟩=>⟨r,g,i,Uz c k.size,Holds.below d k c⟩⟩
def Rh(b:Nat)(L:Bs):S1:=⟨λv w=>∃r,v=lgV r/\b<=r/\r<w.heap.size/\Holds encB w r 0 L,λ_ _ _ k ⟨r,e,f,c,d⟩=>⟨r,e,f,Uz c k.size,Holds.below d k c⟩⟩
theorem DL{W:Ut}{r k:Nat}{L:Bs}{u:Uv}{cs:List Uv}(h:Holds encB W r 0 L)(d:0<L.size)(e:Row W k (u :: cs))(f:∀b:UInt8,encB b≠u):r≠k:=by
 rintro rfl;have c:=(h 0 d).1;have g:=e.2.1 0 u rfl;rw[g]at c;exact f _ (UP.inj c).symm
theorem hG{α:Sort _}{p:Prop}(x:α)(h:∀y,Hid (x=y)->p):p:=h x rfl
structure RgA(B0 t:Nat)(p:Rp)(Lb Rb:Nat->Bs)(Ab Bb:Bs)(e:Uv)(W:Ut):Prop where
 ex:∃a b c d u m s vL vR vA vB,e=.agg #[r33 a,r33 b,r33 c,r33 d,r32 u,r32 m,r32 s,vL,vR,vA,vB]/\RgT (λ_=>True) W p a b c d u m s/\TlL (λ_=>True) B0 t W vL Lb/\TlL (λ_=>True) B0 t W vR Rb/\ElQ (λ_=>True) 32 W vA Ab/\ElQ (λ_=>True) 32 W vB Bb
omit [NeZero N] [NeZero P] in
theorem RgA.set{i t k:Nat}{p:Rp}{v Rb:Nat->Bs}{n o:Bs}{e:Uv}{W:Ut}(h:RgA i t p v Rb n o e W)(y:Row W k (.slice none 0 0 :: vs))(O:k<i):RgA i t p v Rb n o e (W.setCells k 0 us):=by
 obtain⟨a,b,c,d,u,m,s,F,z,C,J,L,f,D,hR,G,E⟩:=h.ex;have kq:Kq (·≠k) W (W.setCells k 0 us):=Kq.set λg l=>l
 have el:∀ {m:Nat}{x:Uv}{b:Bs},0<m->ElQ (λ_=>True) m W x b->ElQ (λ_=>True) m (W.setCells k 0 us) x b:=λM hx=>((hx.off M y).keep kq).mono2 λ_ _ _=>trivial
 have q:∀ {r:Uv}{B:Nat->Bs},TlL (λ_=>True) i t W r B->TlL (λ_=>True) i t (W.setCells k 0 us) r B:=λhx=>by
  obtain⟨xs,K,w⟩:=hx.ex;refine⟨xs,bZ K λg l=>aH k us 0 W g (by have:=(hx.lt l).1;omega),λj A=>?_⟩;obtain⟨x,H,I⟩:=w j A;exact⟨x,H,el (by decide) I⟩
 exact⟨a,b,c,d,u,m,s,F,z,C,J,L,⟨el (by decide) f.a,el (by decide) f.b,el (by decide) f.c,el (by decide) f.d,el (by decide) f.e,el (by decide) f.f,el (by decide) f.g⟩,q D,q hR,el (by decide) G,el (by decide) E⟩
theorem MN(C:Fld P)(k:∀r:EC.Pt P,On r->mul N r=none)(c:IsP N)(R:Rv N)(n:Nat):Gd N n 1 (oQ N R.y.val (hGT P)) (R.hh (aD C k) (gPt C ⟨#[114,105,103,104,116]⟩)):=by
 have g:=nJ C c.1 n;refine⟨λi b=>?_,λi b=>by unfold oQ;rw[US];exact g.len i b⟩;have h:=(g.tl i b).tm C k (pwF (ivF R.y) i);rw[<-lV c.1]at h;exact h
theorem Me(C:Fld P)(O:Ord N)(k:∀r:EC.Pt P,On r->mul N r=none)(L:IsP N)(t:Nat)(ht:t<=6)(R:Rv N)(hn:R.n=2^t)(hv:R.v<18446744073709551616)(hN:18446744073709551616<=N)(sd:List UInt8)(sq:Option Wv)(sn sc:Nat)(V A S C1 C2 L3 L6 L8:Bs)(M:RvL C k R V A S C1 C2 L3 L6 L8)(hS:RvS R sd)(q:Md.Ps Bs (Fin N) (OnP P))(l0:q.s=bB L8)(md:q.a=R.a)(m6:q.b=R.b)(ml:q.g=gPt C ⟨#[108,101,102,116]⟩)(o6:q.h=R.hh (aD C k) (gPt C ⟨#[114,105,103,104,116]⟩))(u:OnP P)(hu:u=(aD C k).ac R.w (uPt C))(Lb Rb:Nat->Bs)(nq:∀j,Lb j=wP ((aD C k).pLi (chF N) ivF u t q j))(o8:∀j,Rb j=wP ((aD C k).pTi (chF N) ivF u t q j))(Ab Bb:Bs)(nf:Ab=bx (((aD C k).pst (chF N) ivF u t q t).a 0).val)(nm:Bb=bx (((aD C k).pst (chF N) ivF u t q t).b 0).val)(pz:Rp)(T:Hid (⟨A,S,C1,C2,R.tau.val,R.mu.val,R.t.val⟩=pz))(w:Ut)(hp:PartOk w (.slice sq sn sc) sd):
 UK prog 18 #[uZ (R.v:Int),nv R.k.val,iZ (R.n:Int),.slice sq sn sc] w (rZ w λe w'=>∃f,w.heap.size<=f/\RgA f t pz Lb Rb Ab Bb e w'):=by
 obtain⟨vr,hq⟩:=hE (nv R.k.val);obtain⟨va,hw⟩:=hE (nv R.al.val);obtain⟨vh,ha⟩:=hE (nv R.rho.val);obtain⟨v1,hm⟩:=hE (nv R.t1.val);obtain⟨v2,hr⟩:=hE (nv R.t2.val);obtain⟨k5,le⟩:=hE (w.heap.size);obtain⟨w1,jh⟩:=hE (w.alloc (.cells (wn R.k.val).toArray 49));obtain⟨k8,ix⟩:=hE (w1.heap.size);obtain⟨w2,j8⟩:=hE (w1.alloc (.cells z11.toArray 28));have K2:=mk1 (((Mp.start w).new le jh).new ix j8);have B1:Hid ((Vh 49 vr).run prog w=.ok (jZ k5) w1):=by rw[<-hq.out,<-jh.out,<-le.out];exact boxS _ w
 have n:R.n<=64:=by rw[hn];exact UE (VN (by decide) ht) (by decide)
 have k3:Hid (∀W,kZ w W->PartOk W (.slice sq sn sc) sd):=λW hb=>hp.below hb
 obtain⟨g3,w3,jl,il,fx⟩:=Bg O ⟨#[97,108,112,104,97]⟩ (by decide) sd sq sn sc w2 (k3 w2 K2.bl) hS.al;rw[hw.out]at fx;rw[hq.out];go_enter func18,ntmps18;refine UC ?_;refine PW.begin ?_;refine PW.ns B1.out ?_;refine PW.al ix j8 ?_;refine PW.dn ?_;refine UC ?_;refine PW.begin ?_;refine PW.mv ?_;refine PW.ns jl.out ?_;refine PW.gi fx.out λw4 j4=>?_
 have K4:=mk1 ((K2.grow il.out).grow j4);obtain⟨g5,w5,ju,jp,fe⟩:=Bg O ⟨#[114,104,111]⟩ (by decide) sd sq sn sc w4 (k3 w4 K4.bl) hS.rho;rw[ha.out]at fe;clear fx j4 il jl K2;refine PW.mv ?_;refine PW.ns ju.out ?_;refine PW.gi fe.out λw6 jd=>?_
 have K6:=mk1 ((K4.grow jp.out).grow jd);clear fe jp jd ju K4;refine hG (w6.heap.size) λk9 l1=>?_
 refine hG (w6.alloc (.cells (RG.z 4).toArray 49)) λw7 l7=>?_
 refine hG w7.heap.size λmz cn=>?_
 refine hG (w7.alloc (.cells (RG.z 4).toArray 49)) λw8 j9=>?_
 refine hG (w8.setCells k9 0 (wn R.al.val)) λw9 l6=>?_
 refine hG (w9.setCells mz 0 (wn R.rho.val)) λjk df=>?_
 have K8:=mk1 ((K6.new l1 l7).new cn j9);have K9:=mk1 (K8.put 2 l6);have ft:=mk1 (K9.put 3 df);refine PW.al l1 l7 ?_;refine PW.al cn j9 ?_;refine PW.st l6 hw (K8.th 2) i40 (aM _) ?_;refine PW.st df ha (K9.th 3) i40 (aM _) ?_;clear K6 K8 K9;refine PW.dn ?_;obtain⟨ol,oo,da,e0,kp⟩:=Bg O ⟨#[116,97,117,49]⟩ (by decide) sd sq sn sc jk (k3 jk ft.bl) hS.t1;rw[hm.out]at kp;refine UC ?_;refine PW.begin ?_;refine PW.mv ?_;refine PW.ns da.out ?_;refine PW.gi kp.out λjr ea=>?_
 have gn:=mk1 ((ft.grow e0.out).grow ea);obtain⟨oz,ox,eu,ee,kh⟩:=Bg O ⟨#[116,97,117,50]⟩ (by decide) sd sq sn sc jr (k3 jr gn.bl) hS.t2;rw[hr.out]at kh;clear kp e0 ea da ft;refine PW.mv ?_;refine PW.ns eu.out ?_;refine PW.gi kh.out λig f6=>?_
 have lm:=mk1 ((gn.grow ee.out).grow f6);clear kh ee f6 eu gn;refine hG (ig.heap.size) λm8 dq=>?_
 refine hG (ig.alloc (.cells (RG.z 4).toArray 49)) λji ef=>?_
 refine hG ji.heap.size λny dl=>?_
 refine hG (ji.alloc (.cells (RG.z 4).toArray 49)) λm0 de=>?_
 refine hG (m0.setCells m8 0 (wn R.t1.val)) λmh d6=>?_
 refine hG (mh.setCells ny 0 (wn R.t2.val)) λlq ep=>?_
 have fh:=mk1 ((lm.new dq ef).new dl de);have f8:=mk1 (fh.put 4 d6);have hs:=mk1 (f8.put 5 ep);refine PW.al dq ef ?_;refine PW.al dl de ?_;refine PW.st d6 hm (fh.th 4) i40 (aM _) ?_;refine PW.st ep hr (f8.th 5) i40 (aM _) ?_;clear lm fh f8;refine PW.dn ?_;have ii:=mk1 (RL O R.v hv R.n n sd sq sn sc lq (k3 lq hs.bl));refine UC ?_;refine PW.begin ?_;refine PW.mv ?_;refine PW.mv ?_;refine PW.mv ?_;refine PW.ca ii.out ?_;rintro e lx ⟨c8,xl,yl,rfl,iu,ja⟩;clear ii;obtain⟨ms,na,rfl,i0,fq⟩:=(iu.fin R.l R.s (λi _=>J3 L.1 R.v i) (λi _=>(hS.s i).symm)).ex;obtain⟨o4,nz,rfl,ge,gh⟩:=(ja.fin R.m R.q (λi _=>Qb L.1 R.v i) (λi _=>(hS.q i).symm)).ex;clear iu ja;have j2:=mk1 ((((hs.gets c8 (pqS ms R.n λi=>(R.l i).val) i0).has (pqS na R.n λi=>(R.s i).val) (fq.mono λg hg=>hs.nk g hg)).has (pqS o4 R.n λi=>(R.m i).val) (ge.mono λg hg=>hs.nk g hg)).has (pqS nz R.n λi=>(R.q i).val) (gh.mono λg hg=>hs.nk g hg));obtain⟨kb,ka,kr,Y⟩:=(bY i0).2;obtain⟨kk,ki,k4,p⟩:=(bY fq).2;obtain⟨k1,kz,b4,e3⟩:=(bY ge).2;obtain⟨hz,ko,kj,e4⟩:=(bY gh).2;subst Y p e3 e4;clear i0 fq ge gh c8 hs;simp only[UR,Uu,Uw,Ux];refine PW.mv ?_;refine PW.va (.agg #[.slice (some ⟨kb,ka,none⟩) R.n kr,.slice (some ⟨kk,ki,none⟩) R.n k4]) ?_;refine PW.va (.agg #[.slice (some ⟨k1,kz,none⟩) R.n b4,.slice (some ⟨hz,ko,none⟩) R.n kj]) ?_;refine hG (lx.heap.size) λbn em=>?_
 refine hG (lx.alloc (.cells [.slice none 0 0,.slice none 0 0].toArray 126)) λiz eb=>?_
 refine hG iz.heap.size λb9 f3=>?_
 refine hG (iz.alloc (.cells [.slice none 0 0,.slice none 0 0].toArray 126)) λnc f5=>?_
 refine hG (nc.setCells bn 0 [.slice (some ⟨kb,ka,none⟩) R.n kr,.slice (some ⟨kk,ki,none⟩) R.n k4]) λm9 du=>?_
 refine hG (m9.setCells b9 0 [.slice (some ⟨k1,kz,none⟩) R.n b4,.slice (some ⟨hz,ko,none⟩) R.n kj]) λmy dh=>?_
 have g4:=mk1 ((j2.new em eb).new f3 f5);have fs:=mk1 (g4.put 6 du);have l2:=mk1 (fs.put 7 dh);refine PW.al em eb ?_;refine PW.al f3 f5 ?_;refine PW.st du (Hid.mk' rfl) (g4.th 6) iLi kR ?_;refine PW.st dh (Hid.mk' rfl) (fs.th 7) iLi kR ?_;clear j2 g4 fs;refine PW.dn ?_;have HG:=mk1 (xP (P:=P) C R.n (by omega) my);refine UC ?_;refine PW.begin ?_;refine PW.mv ?_;refine PW.ca HG.out ?_;rintro e nb ⟨d8,hG⟩;clear HG;obtain⟨q1,q2,q3,rfl,je,lc,iy⟩:=hG.ex;obtain⟨ga,oa,ca,Y⟩:∃g o c,q1=.slice (some ⟨g,o,none⟩) R.n c:=by obtain⟨g,o,c,h,-⟩:=je;exact⟨g,o,c,h⟩
 obtain⟨gb,ob,cb,p⟩:∃g o c,q2=.slice (some ⟨g,o,none⟩) R.n c:=by obtain⟨g,o,c,h,-⟩:=lc;exact⟨g,o,c,h⟩
 obtain⟨gc,mc,cc,e3⟩:∃g m c,q3=sZ g m c:=by obtain⟨g,c,h,-⟩:=iy;exact⟨g,_,c,h⟩
 subst Y p e3;have jc:=mk1 (l2.gets d8 (pqG _ R.n (gGT P) (hGT P) (uGT P)) hG);clear hG je lc iy d8 l2;simp only[UR,Uu,Uw,Ux];have b2:=mk1 (NS (P:=P) C nb);refine hG (wr (gG P)) λGb c0=>?_
 have g0:Gb.size=33:=by rw[<-c0.out];exact aT _
 refine hG (pvl Gb) λvG hl=>?_
 rw[c0.out,hl.out]at b2;refine PW.gi b2.out λll d9=>?_
 have jj:=mk1 (jc.grow d9);clear b2 jc d9;refine hG (ll.heap.size) λnp eo=>?_
 refine hG (ll.alloc (.cells [.slice none 0 0,.slice none 0 0,.slice none 0 0].toArray 133)) λip f0=>?_
 refine hG ip.heap.size λo9 en=>?_
 refine hG (ip.alloc (.cells z33.toArray 103)) λo5 cz=>?_
 refine hG (o5.setCells np 0 [.slice (some ⟨ga,oa,none⟩) R.n ca,.slice (some ⟨gb,ob,none⟩) R.n cb,sZ gc mc cc]) λm7 d5=>?_
 refine hG (m7.setCells o9 0 (aA Gb)) λl9 ci=>?_
 have f9:=mk1 ((jj.new eo f0).new en cz);have gg:=mk1 (f9.put 8 d5);have lG:(aA Gb).length=z33.length:=aB g0;have jz:=mk1 (gg.put 9 ci rfl lG);refine PW.al eo f0 ?_;refine PW.al en cz ?_;refine PW.st d5 (Hid.mk' rfl) (f9.th 8) iGr kR ?_;refine PW.st ci hl (gg.th 9 rfl lG) (by rw[aB g0];exact iCP) (bW _) ?_;clear jj f9 gg;refine PW.dn ?_;refine hG (l9.heap.size) λl f7=>?_
 refine hG (l9.alloc (.cells rp0.l.toArray 137)) λou db=>?_
 have i4:=mk1 (jz.new f7 db);clear jz;refine UC ?_;refine PW.begin ?_;refine PW.al f7 db ?_;refine PW.dn ?_;have fp:0<R.n:=by rw[hn];exact X6 (by decide)
 have sA:A.size=33:=by rw[M.eA];exact aT _
 have sS:S.size=33:=by rw[M.eS];exact aT _
 have iG:(prog.info? 103).map (·.size)=some (aA Gb).length:=by rw[aB g0];exact iCP
 obtain⟨la,lb,cT,cL,cP,cX⟩:=RU C O k L R.n fp n R.al R.l R.m Gb A c0.out M.eA;have HX:=mk4 cT cL cP cX;clear cT cL cP cX;rw[hw.out,hl.out]at HX;refine hG (pvl A) λvA hvA=>?_
 rw[hvA.out]at HX;refine UC ?_;refine AW.beg 12 12 (Iv.mp w _ _ true) i4.out.drew ?_;refine AW.ro 0 (λW h=>(h.at_ 9).2.1) hl uCP iG ?_;refine AW.ro 1 (λW h=>(h.at_ 2).2.1) hw u40 i40 ?_;refine AW.ro 3 (cs:=[.slice (some ⟨ga,oa,none⟩) R.n ca,.slice (some ⟨gb,ob,none⟩) R.n cb,sZ gc mc cc]) (λW h=>(h.at_ 8).2.1) (Hid.mk' rfl) uGr iGr ?_;refine AW.va 4 (jZ bn) ?_;refine AW.ce 5 uSl (λW h=>(h.at_ 6).2.1 0 _ rfl) ?_;refine AW.va 6 (jZ b9) ?_;refine AW.ce 7 uSl (λW h=>(h.at_ 7).2.1 0 _ rfl) ?_;refine AW.ca 2 (λ_=>HX.1 _) (λe w' h=>h.1) ?_;rintro e ov ⟨cg,cy⟩;simp only[UR,Uu,Uw,Ux];refine AW.ca 8 (λh=>HX.2.1 _ _ _ _ _ (h.get 4) (h.get 0) (h.get 2)) (λe w' h=>h.1) ?_;rintro p oi ⟨k6,ei⟩;simp only[UR,Uu,Uw,Ux];refine AW.ca 9 (λh=>HX.2.2.1 _ _ _ ((cy.q.keep (Kq.of_below k6)).sm) ei.q.sm) (λe w' h=>h.1) ?_;rintro e3 ot ⟨co,cd⟩;simp only[UR,Uu,Uw,Ux];refine AW.gi 10 (λh=>HX.2.2.2 _ _ cd.q.sm) λmb ct=>?_
 have gy:=mk1 ((((i4.drew.grow cg).grow k6).grow co).grow ct);clear cg k6 co ct cy ei cd i4 HX;refine AW.nx 11 (jZ l) ?_;refine hG (mb.setCells l 0 (aA A)) λog k0=>?_
 have c6:=mk1 (Rp.TA IB (gy.at_ 10) sA);refine hG ({ rp0 with a:=A }:Rp) λp1 fr=>?_
 rw[fr.out]at c6;have g1:=mk1 (gy.upd 10 k0 c6.2.1);refine AW.fi (us:=aA A) hvA (bW A) (by rw[aB sA];exact iCP) (λ_=>⟨c6.1,?_⟩);rw[k0.out];clear gy k0;obtain⟨la,lb,cT,cL,cP,cX⟩:=RU C O k L R.n fp n R.rho R.s R.q Gb S c0.out M.eS;have HX:=mk4 cT cL cP cX;clear cT cL cP cX;rw[ha.out,hl.out]at HX;refine hG (pvl S) λvS jo=>?_
 rw[jo.out]at HX;refine UC ?_;refine AW.beg 12 12 (Iv.mp w _ _ true) g1.out.drew ?_;refine AW.ro 0 (λW h=>(h.at_ 9).2.1) hl uCP iG ?_;refine AW.ro 1 (λW h=>(h.at_ 3).2.1) ha u40 i40 ?_;refine AW.ro 3 (cs:=[.slice (some ⟨ga,oa,none⟩) R.n ca,.slice (some ⟨gb,ob,none⟩) R.n cb,sZ gc mc cc]) (λW h=>(h.at_ 8).2.1) (Hid.mk' rfl) uGr iGr ?_;refine AW.va 4 (oZ bn 1) ?_;refine AW.ce 5 uSl (λW h=>(h.at_ 6).2.1 1 _ rfl) ?_;refine AW.va 6 (oZ b9 1) ?_;refine AW.ce 7 uSl (λW h=>(h.at_ 7).2.1 1 _ rfl) ?_;refine AW.ca 2 (λ_=>HX.1 _) (λe w' h=>h.1) ?_;rintro e p9 ⟨er,ec⟩;simp only[UR,Uu,Uw,Ux];refine AW.ca 8 (λh=>HX.2.1 _ _ _ _ _ (h.get 4) (h.get 1) (h.get 3)) (λe w' h=>h.1) ?_;rintro p pa ⟨k2,cv⟩;simp only[UR,Uu,Uw,Ux];refine AW.ca 9 (λh=>HX.2.2.1 _ _ _ ((ec.q.keep (Kq.of_below k2)).sm) cv.q.sm) (λe w' h=>h.1) ?_;rintro e3 oq ⟨cj,d0⟩;simp only[UR,Uu,Uw,Ux];refine AW.gi 10 (λh=>HX.2.2.2 _ _ d0.q.sm) λmq ed=>?_
 have ib:=mk1 ((((g1.drew.grow er).grow k2).grow cj).grow ed);clear er k2 cj ed ec cv d0 g1 HX;refine AW.nx 11 (oZ l 33) ?_;refine hG (mq.setCells l 33 (aA S)) λkc kf=>?_
 have h9:=mk1 (Rp.sets c6.2.2 (ib.at_ 10) sS);refine hG ({ p1 with s:=S }:Rp) λp2 fz=>?_
 rw[fz.out]at h9;have b5:=mk1 (ib.upd 10 kf h9.2.1);refine AW.fi (us:=aA S) jo (bW S) (by rw[aB sS];exact iCP) (λ_=>⟨h9.1,?_⟩);rw[kf.out];clear ib kf;refine hG (bB (bB L3)) λL5 gk=>?_
 have s5:L5.size=32:=by rw[<-gk.out];exact bE _ _
 have sV:V.size=33:=by rw[M.eV];exact aT _
 refine hG (U5 p2.l.toArray) λvp jg=>?_
 refine hG (pvl V) λvV jy=>?_
 refine hG (nv R.v) λvn j5=>?_
 refine hG (nv R.y.val) λvy U=>?_
 refine hG (nv R.z.val) λvz h0=>?_
 have f4:Hid (∀W,UK prog 68 #[vp,vV,iZ (R.n:Int)] W (rZ W λe w'=>∃r,e=.tuple #[lgV r,vy,vz]/\W.heap.size<=r/\Holds encB w' r 0 L5)):=λW=>by
  have h:=N5 O p2 h9.2.2 V sV R.n (by omega) W;rw[show bgL V R.n p2.a p2.s=L3 by rw[<-fz.out,<-fr.out];exact M.l3.symm,mO O L M.y,mO O L M.z,gk.out,jg.out,jy.out,U.out,h0.out]at h;exact h
 have cu:Hid (∀W,UK prog 69 #[vn,vr] W (rZ W λe w'=>e=vV)):=λW=>by
  have h:=oL C O (a:=R.v) (b:=R.k.val) (by omega) R.k.isLt W;have e:(ofF N R.v).val=R.v:=UU (by omega);have p:=yB C k (ofF N R.v) R.k;rw[e]at p;rw[p,show wP ((aD C k).cm (hPV C) (gPG C) (ofF N R.v) R.k)=V from M.eV.symm,j5.out,hq.out,jy.out]at h;exact h
 have jx:Hid (∀W,UK prog 70 #[uZ (R.v:Int)] W (rZ W λe w'=>e=vn)):=λW=>by
  rw[<-j5.out];exact zW R.v hv W
 refine hG kc.heap.size λb hb=>?_
 have b3:∀ {W},kZ kc W->b<=W.heap.size:=λh=>hb.out ▸ h.size
 refine UC ?_;refine(gwL [pE vp,pE (uZ (R.v:Int)),pE vn,pE vr,pE vV,pE (iZ (R.n:Int)),Ri b vy vz L5,Ri b vy vz L5,Rh b L5,pE vy,pE vz,RG.pN b [.pointer none],RG.pN b (RG.z 4),RG.pN b (RG.z 4)] (λW=>kZ kc W) (λW W' hb h=>h.trans (hb.mono h.size))).late 14 [9,10] (λj hj=>by
  rcases V0.1 hj with rfl|hj
  ·exact late1 15 7 75 λv W ⟨r,e,_⟩=>⟨vy,rfl,λo ho W'=>by
    cases ho
    rw[e];kernel_rfl⟩
  ·obtain rfl:=WT.1 hj;exact late1 16 7 75 λv W ⟨r,e,_⟩=>⟨vz,rfl,λo ho W'=>by
    cases ho
    rw[e];kernel_rfl⟩) (Kg [11,12,13] ⟨al1 [.pointer none] 145 zS,al1 (RG.z 4) 49 zS,al1 (RG.z 4) 49 zS,yCm⟩) kR kR kR ⟨
  gLo (cs:=p2.l) 17 (λW f=>((b5.grow f).at_ 10).2.1) uRd (by rw[Rp.len h9.2.2];exact iRd) (hR:=λ_=>jg.out),
  gO 0 (uZ (R.v:Int)),
  oW 1 77 70 (λx=>#[x]) (λx W Y f=>by
   obtain rfl:x=uZ (R.v:Int):=Y;exact jx W),
  gLo (cs:=wn R.k.val) 5 (λW f=>((b5.grow f).at_ 0).2.1) u40 i40 (hR:=λ_=>hq.out),
  eD 2 78 3 79 69 (λx y=>#[x,y]) (λx u W Y p f=>by
   obtain rfl:x=vn:=Y;obtain rfl:u=vr:=p;exact cu W),
  gO 2 (iZ (R.n:Int)),
  rF 0 76 4 80 5 81 68 (λx y z=>#[x,y,z]) (λx u z W Y p e3 f=>by
   obtain rfl:x=vp:=Y;obtain rfl:u=vV:=p;obtain rfl:z=iZ (R.n:Int):=e3;refine(f4 W).mono ?_;rintro e W' ⟨I,rfl,E,r,J,B,D⟩;exact⟨_,rfl,E,r,J,UE (b3 f) B,Holds.lt D (by rw[s5];decide),D⟩),
  DV 6 82 id (λx W h=>h),
  bN λa W hp=>by
   obtain⟨r,e,E,J,B⟩:=hp.n 7 75 kR kR;exact⟨[(75,.tuple #[lgV r,vy,vz])],lgV r,W,⟨e,yCm⟩,kR,UT _ _,r,rfl,E,J,B⟩,
  bN λa W hp=>by
   obtain⟨r,e,E,J,B⟩:=hp.n 7 75 kR kR;exact⟨[(75,.tuple #[lgV r,vy,vz])],vy,W,⟨e,yCm⟩,kR,UT _ _,rfl⟩,
  bN λa W hp=>by
   obtain⟨r,e,E,J,B⟩:=hp.n 7 75 kR kR;exact⟨[(75,.tuple #[lgV r,vy,vz])],vz,W,⟨e,yCm⟩,kR,UT _ _,rfl⟩,
  xO [.pointer none] 145 (λW W' h f=>⟨_,rfl,b3 f,h⟩),
  xO (RG.z 4) 49 (λW W' h f=>⟨_,rfl,b3 f,h⟩),
  xO (RG.z 4) 49 (λW W' h f=>⟨_,rfl,b3 f,h⟩),yCm⟩ ⟨rfl,rfl,rfl,Uy _,λ_ _=>rfl⟩ ?_
 intro X nu hR f hD;obtain⟨r,e8,lr,lh,Hr⟩:=hR 8 dC;have e9:X 9=vy:=hR 9 dC;have jm:X 10=vz:=hR 10 dC;obtain⟨km,c4,i3,fl⟩:=hR 11 dC;obtain⟨kx,bg,fu,gp⟩:=hR 12 dC;obtain⟨hy,bq,gv,ia⟩:=hR 13 dC;have d1:=hD 11 12 dC dC dC kR kR kR kR;have d2:=hD 11 13 dC dC dC kR kR kR kR;have d3:=hD 12 13 dC dC dC kR kR kR kR;rw[c4,bg]at d1;rw[c4,bq]at d2;rw[bg,bq]at d3;have n1:km≠kx:=λe=>d1 (by rw[e])
 have n2:km≠hy:=λe=>d2 (by rw[e])
 have n3:kx≠hy:=λe=>d3 (by rw[e])
 have m1:r≠km:=DL Hr (by rw[s5];decide) fl (λb e=>by cases e);have m2:r≠kx:=DL Hr (by rw[s5];decide) gp (λb e=>by cases e);have m3:r≠hy:=DL Hr (by rw[s5];decide) ia (λb e=>by cases e);rw[<-hb.out]at lr i3 fu gv;have g9:=mk1 (b5.adds f [(km,[.pointer none]),(kx,RG.z 4),(hy,RG.z 4),(r,aA L5)] (by simp;omega) (λx hx=>by
  simp only[V0,U1,or_false]at hx;rcases hx with rfl|rfl|rfl|rfl
  ·exact⟨i3,fl⟩
  ·exact⟨fu,gp⟩
  ·exact⟨gv,ia⟩
  ·exact⟨lr,pW Hr lh⟩))
 dsimp only[bU,VO,Xn,Xo];simp only[UR,Uu,Uw,Ux];rw[e8,e9,jm,c4,bg,bq];clear hR hD d1 d2 d3 n1 n2 n3 m1 m2 m3 i3 fu gv lr lh Hr fl gp ia f e8 e9 jm c4 bg bq b5 f4 cu jx;refine hG (nu.setCells km 0 [jZ r]) λn4 ek=>?_
 refine hG (n4.setCells kx 0 (wn R.y.val)) λly cx=>?_
 refine hG (ly.setCells hy 0 (wn R.z.val)) λnl c9=>?_
 have i8:=mk1 (g9.put 11 ek);have gt:=mk1 (i8.put 12 cx);have kg:=mk1 (gt.put 13 c9);refine PW.st ek (Hid.mk' rfl) (g9.th 11) iLg kR ?_;refine PW.st cx U (i8.th 12) i40 (aM _) ?_;refine PW.st c9 h0 (gt.th 13) i40 (aM _) ?_;clear g9 i8 gt b3 hb;refine PW.dn ?_;have J:2<N:=by omega
 have gm:=mk1 (EF O J R.y.val R.z.val R.y.isLt R.z.isLt R.n (by omega) nl);rw[U.out,h0.out]at gm;refine UC ?_;refine PW.begin ?_;refine PW.ro (kg.at_ 12).2.1 U u40 i40 ?_;refine PW.ro (kg.at_ 13).2.1 h0 u40 i40 ?_;refine PW.mv ?_;refine PW.ca gm.out ?_;rintro e j6 ⟨cf,ls,rs,rfl,bi,bp⟩;clear gm;replace bi:=bi.fin (λ_=>-R.z) (λi _=>(I6 R.z).symm);replace bp:=bp.fin R.sh (λi _=>OJ L J R i);have D:=mk1 ((kg.gets cf (pqS ls R.n λ_=>(-R.z).val) bi).has (pqS rs R.n λi=>(R.sh i).val) (bp.mono λg hg=>kg.nk g hg));clear bi bp cf kg;simp only[UR,Uu,Uw,Ux];refine PW.mv ?_;refine PW.va ls ?_;refine PW.va rs ?_;refine PW.va ls ?_;refine PW.va rs ?_;refine PW.dn ?_;obtain⟨Q,F⟩:=D.out.q;refine UC ?_;refine(gwL [pE (.agg #[.slice (some ⟨kb,ka,none⟩) R.n kr,.slice (some ⟨kk,ki,none⟩) R.n k4]),pE ls,pLn Q R.n (λi=>(R.a0 i).val) (λi=>(R.s i).val),pE (.agg #[.slice (some ⟨k1,kz,none⟩) R.n b4,.slice (some ⟨hz,ko,none⟩) R.n kj]),pE vy,pE (iZ (R.n:Int)),RG.pS Q R.n (pwN N R.y.val),pLn Q R.n (λi=>sTi N (R.m i).val (pwN N R.y.val i)) (λi=>sTi N (R.q i).val (pwN N R.y.val i)),pE rs,pLn Q R.n (λi=>(R.b0 i).val) (λi=>(R.b1 i).val)] (λW=>kZ j6 W) (λW W' hb h=>h.trans (hb.mono h.size))).tail2 10 kR kR kR ⟨
  gLo (cs:=[.slice (some ⟨kb,ka,none⟩) R.n kr,.slice (some ⟨kk,ki,none⟩) R.n k4]) 13 (λW f=>((D.grow f).at_ 6).2.1) uLi iLi,
  gO 21 ls,
  eD 0 93 1 94 72 (λx y=>#[x,y]) (λx u W Y p f=>by
   obtain rfl:x=.agg #[.slice (some ⟨kb,ka,none⟩) R.n kr,.slice (some ⟨kk,ki,none⟩) R.n k4]:=Y;obtain rfl:u=ls:=p;have K:=D.grow f;refine(NG O n (λi _=>(R.l i).isLt) (λi _=>(-R.z).isLt) (⟨_,_,rfl,K.uO F 0,K.uO F 1⟩:Ln Q W _ R.n _ _) (K.uO F 5)).mono ?_;rintro e W' ⟨I,rfl,E,J⟩;exact⟨_,rfl,E,(J.mono λg hg=>hg.elim id (K.nkq F g)).fin R.a0 R.s (λi _=>(mA (R.l i) (-R.z)).symm) (λ_ _=>rfl)⟩),
  gLo (cs:=[.slice (some ⟨k1,kz,none⟩) R.n b4,.slice (some ⟨hz,ko,none⟩) R.n kj]) 14 (λW f=>((D.grow f).at_ 7).2.1) uLi iLi,
  gLo (cs:=wn R.y.val) 19 (λW f=>((D.grow f).at_ 12).2.1) u40 i40 (hR:=λ_=>U.out),
  gO 2 (iZ (R.n:Int)),
  eD 4 97 5 98 74 (λx y=>#[x,y]) (λx u W Y p f=>by
   obtain rfl:x=vy:=Y;obtain rfl:u=iZ (R.n:Int):=p;rw[<-U.out];exact(NB O R.y.val R.y.isLt R.n (by omega) W).mono λe W' ⟨v,E,J,B⟩=>⟨v,E,J,B.mono λg hg=>(D.grow f).nkq F g hg⟩),
  eD 3 96 6 99 73 (λx y=>#[x,y]) (λx u W Y p f=>by
   obtain rfl:x=.agg #[.slice (some ⟨k1,kz,none⟩) R.n b4,.slice (some ⟨hz,ko,none⟩) R.n kj]:=Y;have K:=D.grow f;refine(RI O n (λi _=>(R.m i).isLt) (λi _=>(R.q i).isLt) (λi _=>wS O _ i) (⟨_,_,rfl,K.uO F 2,K.uO F 3⟩:Ln Q W _ R.n _ _) p).mono ?_;rintro e W' ⟨I,rfl,E,J⟩;exact⟨_,rfl,E,J.mono λg hg=>K.nkq F g hg⟩),
  gO 22 rs,
  eD 7 100 8 101 72 (λx y=>#[x,y]) (λx u W Y p f=>by
   obtain rfl:u=rs:=p;have K:=D.grow f;refine(NG O n (λi _=>V6 _ O.pos) (λi _=>(R.sh i).isLt) Y (K.uO F 6)).mono ?_;rintro e W' ⟨I,rfl,E,J⟩;refine⟨_,rfl,E,(J.mono λg hg=>hg.elim id (K.nkq F g)).fin R.b0 R.b1 (λi _=>?_) (λi _=>?_)⟩
   ·show _=(R.m i*pwF R.y i+R.sh i).val;rw[mA,fM,<-lV L.1];rfl
   ·show _=(R.q i*pwF R.y i).val;rw[fM,<-lV L.1]),yCm⟩ ⟨rfl,rfl,rfl,Uy _,λ_ _=>rfl⟩ ?_
 intro X o2 hR f;obtain⟨n9,mf,p,G,H⟩:=(hR 2 dC).ex;obtain⟨nj,ni,e9,i7,gw⟩:=(hR 9 dC).ex;have i6:=mk1 (((((D.grow f).MK F (pqS n9 R.n λi=>(R.a0 i).val) G).MK F (pqS mf R.n λi=>(R.s i).val) H).MK F (pqS nj R.n λi=>(R.b0 i).val) i7).MK F (pqS ni R.n λi=>(R.b1 i).val) gw);obtain⟨b8,bz,bu,e3⟩:=(bY G).2;obtain⟨bh,bo,bk,e4⟩:=(bY H).2;obtain⟨bc,b7,bj,e5⟩:=(bY i7).2;obtain⟨c7,bm,b6,e6⟩:=(bY gw).2;subst e3 e4 e5 e6;dsimp only[bU,VO,Xn,Xo];simp only[UR,Uu,Uw,Ux];rw[p,e9];clear hR f G H i7 gw p e9 D F;refine hG (o2.setCells bn 0 [.slice (some ⟨b8,bz,none⟩) R.n bu,.slice (some ⟨bh,bo,none⟩) R.n bk]) λn6 dd=>?_
 refine hG (n6.setCells b9 0 [.slice (some ⟨bc,b7,none⟩) R.n bj,.slice (some ⟨c7,bm,none⟩) R.n b6]) λkw dx=>?_
 have i1:=mk1 (i6.put 6 dd);have K:=mk1 (i1.put 7 dx);refine PW.st dd (Hid.mk' rfl) (i6.th 6) iLi kR ?_;refine PW.st dx (Hid.mk' rfl) (i1.th 7) iLi kR ?_;clear i6 i1;refine PW.dn ?_;refine hG (nv R.c1.val) λgr h6=>?_
 refine hG (nv R.c2.val) λfk h7=>?_
 have jv:Hid (UK prog 75 #[.agg #[.slice (some ⟨b8,bz,none⟩) R.n bu,.slice (some ⟨bh,bo,none⟩) R.n bk],.agg #[.slice (some ⟨bc,b7,none⟩) R.n bj,.slice (some ⟨c7,bm,none⟩) R.n b6]] kw (rZ kw λe w'=>e=.tuple #[gr,fk])):=by
  have h:=RJ O n (λi _=>⟨(R.a0 i).isLt,(R.s i).isLt,(R.b0 i).isLt,(R.b1 i).isLt⟩) (⟨_,_,rfl,K.get 7,K.get 8⟩:Ln _ kw _ R.n _ _) (⟨_,_,rfl,K.get 9,K.get 10⟩:Ln _ kw _ R.n _ _);rw[kG,kG,kG,<-mA,show Md.pr R.a0 R.b1 R.n+Md.pr R.s R.b0 R.n=R.c1 from rfl,show Md.pr R.s R.b1 R.n=R.c2 from rfl,h6.out,h7.out]at h;exact h
 refine UC ?_;refine PW.begin ?_;refine PW.ro (cs:=[.slice (some ⟨b8,bz,none⟩) R.n bu,.slice (some ⟨bh,bo,none⟩) R.n bk]) (K.at_ 6).2.1 (Hid.mk' rfl) uLi iLi ?_;refine PW.ro (cs:=[.slice (some ⟨bc,b7,none⟩) R.n bj,.slice (some ⟨c7,bm,none⟩) R.n b6]) (K.at_ 7).2.1 (Hid.mk' rfl) uLi iLi ?_;refine PW.gi jv.out λli ex=>?_
 have j3:=mk1 (K.grow ex);clear jv ex K;refine PW.mv ?_;refine PW.va gr ?_;refine PW.va fk ?_;refine hG (li.heap.size) λn8 es=>?_
 refine hG (li.alloc (.cells (RG.z 4).toArray 49)) λjq ey=>?_
 refine hG jq.heap.size λmj ck=>?_
 refine hG (jq.alloc (.cells (RG.z 4).toArray 49)) λmt d4=>?_
 refine hG (mt.setCells n8 0 (wn R.c1.val)) λm5 dz=>?_
 refine hG (m5.setCells mj 0 (wn R.c2.val)) λoj eg=>?_
 have gz:=mk1 ((j3.new es ey).new ck d4);have fn:=mk1 (gz.put 15 dz);have gs:=mk1 (fn.put 16 eg);refine PW.al es ey ?_;refine PW.al ck d4 ?_;refine PW.st dz h6 (gz.th 15) i40 (aM _) ?_;refine PW.st eg h7 (fn.th 16) i40 (aM _) ?_;clear j3 gz fn;refine PW.dn ?_;have sC:C1.size=33:=by rw[M.e1];exact aT _
 have sD:C2.size=33:=by rw[M.e2];exact aT _
 refine hG (pvl C1) λvC iq=>?_
 refine hG (pvl C2) λvD iw=>?_
 have io:Hid (∀W,UK prog 69 #[gr,v1] W (rZ W λe w'=>e=vC)):=λW=>by
  have h:=oL C O R.c1.isLt R.t1.isLt W;rw[yB C k R.c1 R.t1,show wP ((aD C k).cm (hPV C) (gPG C) R.c1 R.t1)=C1 from M.e1.symm,h6.out,hm.out,iq.out]at h;exact h
 have ik:Hid (∀W,UK prog 69 #[fk,v2] W (rZ W λe w'=>e=vD)):=λW=>by
  have h:=oL C O R.c2.isLt R.t2.isLt W;rw[yB C k R.c2 R.t2,show wP ((aD C k).cm (hPV C) (gPG C) R.c2 R.t2)=C2 from M.e2.symm,h7.out,hr.out,iw.out]at h;exact h
 refine UC ?_;refine AW.beg 9 9 (Iv.mx w _ _ 10 l false) (gs.out.drew.wk 10) ?_;refine AW.ro 0 (λW ⟨_,h⟩=>(h.at_ 15).2.1) h6 u40 i40 ?_;refine AW.ro 1 (λW ⟨_,h⟩=>(h.at_ 4).2.1) hm u40 i40 ?_;refine AW.ro 3 (λW ⟨_,h⟩=>(h.at_ 16).2.1) h7 u40 i40 ?_;refine AW.ro 4 (λW ⟨_,h⟩=>(h.at_ 5).2.1) hr u40 i40 ?_;refine AW.gi 2 (λ_=>io _) λom e7=>?_
 refine AW.va 6 (oZ l 66) ?_;refine AW.gi 5 (λ_=>ik _) λng dm=>?_
 have i2:=mk1 ((gs.drew.grow e7).grow dm);clear e7 dm gs io ik;refine hG (ng.setCells l 66 (aA C1)) λn0 dy=>?_
 refine hG (n0.setCells l 99 (aA C2)) λfj et=>?_
 have kd:=mk1 (Rp.Ty h9.2.2 (i2.at_ 10) sC);refine hG ({ p2 with c:=C1 }:Rp) λp3 fy=>?_
 rw[fy.out]at kd;have bb:=mk1 (i2.upd 10 dy kd.2.1);have Z:=mk1 (Rp.Tx kd.2.2 (bb.at_ 10) sD);refine hG ({ p3 with d:=C2 }:Rp) λp4 gj=>?_
 rw[gj.out]at Z;have h8:=mk1 (bb.upd 10 et Z.2.1);refine AW.ss 7 iq (bW C1) (by rw[aB sC];exact iCP) dy (λ_=>⟨kd.1,bb.out.wk 10⟩) ?_;refine AW.nx 8 (oZ l 99) ?_;refine AW.ss 9 iw (bW C2) (by rw[aB sD];exact iCP) et (λ_=>⟨Z.1,h8.out.wk 10⟩) ?_;refine AW.dn λ_=>?_
 clear i2 bb kd;refine hG (bB L6) λL7 g2=>?_
 have s7:L7.size=32:=by rw[<-g2.out];exact bE _ _
 refine hG (nv R.x.val) λvx B=>?_
 refine hG (U5 p4.l.toArray) λvq lj=>?_
 refine hG (lgV r) λvl hk=>?_
 have jw:Hid (UK prog 76 #[vq,vl] fj (Ret λe w'=>SP.Only r 0 32 fj w'/\Holds encB w' r 0 L7/\e=vx)):=by
  have h:=NF O p4 Z.2.2 r L5 fj (h8.log 14) s5;rw[<-gk.out,show mdL (bB (bB L3)) p4.c p4.d=L6 by rw[<-gj.out,<-fy.out];exact M.l6.symm,mO O L M.x,g2.out,lj.out,hk.out,B.out]at h;exact h
 refine UC ?_;refine PW.begin ?_;refine PW.ro (cs:=p4.l) (h8.at_ 10).2.1 lj uRd (by rw[Rp.len Z.2.2];exact iRd) ?_;refine PW.ro (h8.at_ 11).2.1 hk uLg iLg ?_;refine PW.ca jw.out ?_;rintro e ln ⟨hO,hH,he⟩;obtain rfl:=he.symm;have l4:=mk1 (h8.say 14 hO hH);clear jw hO hH h8;simp only[UR,Uu,Uw,Ux];refine hG (ln.heap.size) λo7 ew=>?_
 refine hG (ln.alloc (.cells (RG.z 4).toArray 49)) λo0 ds=>?_
 refine hG (o0.setCells o7 0 (wn R.x.val)) λoe cp=>?_
 have g7:=mk1 (l4.new ew ds);have fd:=mk1 (g7.put 17 cp);refine PW.al ew ds ?_;refine PW.st cp B (g7.th 17) i40 (aM _) ?_;clear l4 g7;refine PW.dn ?_;have fa:Hid (∀(a b c:Nat->Fin N) (v:Uv) (Q:Nat->Prop) (W:Ut),(∀i,c i=a i+b i*R.x)->Ln Q W v R.n (λi=>(a i).val) (λi=>(b i).val)->UK prog 77 #[v,vx] W (rZ W λe w'=>SLq (W.heap.size<=·) w' e R.n (λi=>(c i).val))):=λa b c v Q W hc h=>by
  have h:=RO O n (λi _=>(a i).isLt) (λi _=>(b i).isLt) R.x.isLt h;rw[B.out]at h;refine h.mono ?_;rintro e w' ⟨I,rfl,E,J⟩;exact⟨_,rfl,E,J.fin c λi _=>by rw[hc,mA,fM]⟩
 refine UC ?_;refine AW.beg 7 7 (Iv.mp w _ _ false) fd.out.drew ?_;refine AW.ro 0 (cs:=[.slice (some ⟨b8,bz,none⟩) R.n bu,.slice (some ⟨bh,bo,none⟩) R.n bk]) (λW h=>(h.at_ 6).2.1) (Hid.mk' rfl) uLi iLi ?_;refine AW.ro 1 (λW h=>(h.at_ 17).2.1) B u40 i40 ?_;refine AW.ro 3 (cs:=[.slice (some ⟨bc,b7,none⟩) R.n bj,.slice (some ⟨c7,bm,none⟩) R.n b6]) (λW h=>(h.at_ 7).2.1) (Hid.mk' rfl) uLi iLi ?_;refine AW.ro 4 (λW h=>(h.at_ 17).2.1) B u40 i40 ?_;refine AW.ca 2 (λh=>fa R.a0 R.s R.a _ _ _ (λ_=>rfl) (⟨_,_,rfl,h.get 7,h.get 8⟩:Ln _ _ _ R.n _ _)) (λe w' h=>h.1) ?_;rintro av oh ⟨dw,jb⟩;simp only[UR,Uu,Uw,Ux];refine AW.ca 5 (λh=>fa R.b0 R.b1 R.b _ _ _ (λ_=>rfl) (⟨_,_,rfl,h.get 9,h.get 10⟩:Ln _ _ _ R.n _ _)) (λe w' h=>h.1) ?_;rintro bv bt ⟨f1,j0⟩;simp only[UR,Uu,Uw,Ux];have ic:=mk1 (fd.drew.gets dw (pqS av R.n λi=>(R.a i).val) jb);have br:=mk1 (ic.gets f1 (pqS bv R.n λi=>(R.b i).val) j0);clear fa dw f1 jb j0 fd ic;refine AW.nx 6 av ?_;refine AW.nx 7 bv ?_;refine AW.dn λ_=>?_
 refine hG (nv R.t.val) λvt jn=>?_
 have lg:Hid (UK prog 78 #[av,bv] bt (rZ bt λe w'=>e=vt)):=by
  have h:=Be O R.n (by omega) (λi=>(R.a i).val) (λi=>(R.b i).val) (λi _=>(R.a i).isLt) (λi _=>(R.b i).isLt) av bv bt (br.get 11) (br.get 12);rw[kG,show Md.pr R.a R.b R.n=R.t from rfl,jn.out]at h;exact h
 refine UC ?_;refine PW.begin ?_;refine PW.mv ?_;refine PW.mv ?_;refine PW.gi lg.out λmg dp=>?_
 have gq:=mk1 (br.grow dp);clear lg dp br;refine PW.va (oZ l 140) ?_;refine hG (mg.setCells l 140 (wn R.t.val)) λow eh=>?_
 have ky:=mk1 (Rp.Tv Z.2.2 (gq.at_ 10) R.t.val);refine hG ({ p4 with t:=R.t.val }:Rp) λp5 ij=>?_
 rw[ij.out]at ky;have fm:=mk1 (gq.upd 10 eh ky.2.1);refine PW.st eh jn ky.1 i40 (aM _) ?_;clear gq Z;refine PW.dn ?_;refine hG (nv (R.t1*R.x).val) λu1 mn=>?_
 refine hG (nv (R.t2*R.x).val) λu2 nw=>?_
 refine hG (nv (R.t2*R.x*R.x).val) λu3 o3=>?_
 refine hG (nv (R.t1*R.x+R.t2*R.x*R.x).val) λu4 m4=>?_
 refine hG (nv (R.z*R.z).val) λu5 oc=>?_
 refine hG (nv (R.z*R.z*R.k).val) λu6 nn=>?_
 refine hG (nv R.tau.val) λu7 lu=>?_
 have HT:=mk7 (λW=>xQ O R.t1 R.x W) (λW=>xQ O R.t2 R.x W) (λW=>xQ O (R.t2*R.x) R.x W) (λW=>PN O (R.t1*R.x) (R.t2*R.x*R.x) W) (λW=>xQ O R.z R.z W) (λW=>xQ O (R.z*R.z) R.k W) (λW=>PN O (R.t1*R.x+R.t2*R.x*R.x) (R.z*R.z*R.k) W);rw[show R.t1*R.x+R.t2*R.x*R.x+R.z*R.z*R.k=R.tau from rfl,mn.out,nw.out,o3.out,m4.out,oc.out,nn.out,lu.out,hm.out,hr.out,B.out,h0.out,hq.out]at HT;refine UC ?_;refine AW.beg 16 16 (Iv.mp w _ _ true) fm.out.drew ?_;refine AW.ro 0 (λW h=>(h.at_ 4).2.1) hm u40 i40 ?_;refine AW.ro 1 (λW h=>(h.at_ 17).2.1) B u40 i40 ?_;refine AW.ro 3 (λW h=>(h.at_ 5).2.1) hr u40 i40 ?_;refine AW.ro 4 (λW h=>(h.at_ 17).2.1) B u40 i40 ?_;refine AW.ro 6 (λW h=>(h.at_ 17).2.1) B u40 i40 ?_;refine AW.ro 9 (λW h=>(h.at_ 13).2.1) h0 u40 i40 ?_;refine AW.ro 10 (λW h=>(h.at_ 13).2.1) h0 u40 i40 ?_;refine AW.ro 12 (λW h=>(h.at_ 0).2.1) hq u40 i40 ?_;refine AW.gi 2 (λ_=>HT.1 _) λx1 G=>?_
 refine AW.gi 5 (λ_=>HT.2.1 _) λx2 H=>?_
 refine AW.gi 7 (λ_=>HT.2.2.1 _) λx3 lw=>?_
 refine AW.gi 8 (λ_=>HT.2.2.2.1 _) λx4 ie=>?_
 refine AW.gi 11 (λ_=>HT.2.2.2.2.1 _) λx5 l3=>?_
 refine AW.gi 13 (λ_=>HT.2.2.2.2.2.1 _) λx6 j1=>?_
 refine AW.gi 14 (λ_=>HT.2.2.2.2.2.2 _) λn5 ir=>?_
 have i5:=mk1 (((((((fm.drew.grow G).grow H).grow lw).grow ie).grow l3).grow j1).grow ir);clear G H lw ie l3 j1 ir fm HT;refine AW.nx 15 (oZ l 132) ?_;refine hG (n5.setCells l 132 (wn R.tau.val)) λoy kv=>?_
 have ku:=mk1 (Rp.Tu ky.2.2 (i5.at_ 10) R.tau.val);refine hG ({ p5 with u:=R.tau.val }:Rp) λp6 l5=>?_
 rw[l5.out]at ku;have ff:=mk1 (i5.upd 10 kv ku.2.1);refine AW.fi (us:=wn R.tau.val) lu (aM _) i40 (λ_=>⟨ku.1,?_⟩);rw[kv.out];clear i5 ky kv;refine hG (nv (R.rho*R.x).val) λu8 n7=>?_
 refine hG (nv R.mu.val) λu9 j7=>?_
 have HT:=mk2 (λW=>xQ O R.rho R.x W) (λW=>PN O R.al (R.rho*R.x) W);rw[show R.al+R.rho*R.x=R.mu from rfl,n7.out,j7.out,hw.out,ha.out,B.out]at HT;refine UC ?_;refine AW.beg 6 6 (Iv.mp w _ _ true) ff.out.drew ?_;refine AW.ro 0 (λW h=>(h.at_ 2).2.1) hw u40 i40 ?_;refine AW.ro 1 (λW h=>(h.at_ 3).2.1) ha u40 i40 ?_;refine AW.ro 2 (λW h=>(h.at_ 17).2.1) B u40 i40 ?_;refine AW.gi 3 (λ_=>HT.1 _) λx1 G=>?_
 refine AW.gi 4 (λ_=>HT.2 _) λme H=>?_
 have fb:=mk1 ((ff.drew.grow G).grow H);clear G H ff HT;refine AW.nx 5 (oZ l 136) ?_;refine hG (me.setCells l 136 (wn R.mu.val)) λgu kt=>?_
 have ke:=mk1 (Rp.Tw ku.2.2 (fb.at_ 10) R.mu.val);have ez:Hid (({ p6 with m:=R.mu.val }:Rp)=pz):=by
  rw[<-T.out,<-l5.out,<-ij.out,<-gj.out,<-fy.out,<-fz.out,<-fr.out];rfl
 rw[ez.out]at ke;have kl:=mk1 (fb.upd 10 kt ke.2.1);have bd:pz.Ok:=ke.2.2;refine AW.fi (us:=wn R.mu.val) j7 (aM _) i40 (λ_=>⟨ke.1,?_⟩);rw[kt.out];clear fb ku ke kt;refine hG (U5 pz.l.toArray) λo1 h5=>?_
 refine hG (bB L8) λL9 bf=>?_
 have s9:L9.size=32:=by rw[<-bf.out];exact bE _ _
 refine hG (nv R.w.val) λvw bs=>?_
 have lv:Hid (UK prog 81 #[o1,vl] gu (Ret λe w'=>SP.Only r 0 32 gu w'/\Holds encB w' r 0 L9/\e=vw)):=by
  have h:=NV O pz bd (by rw[<-T.out];exact R.tau.isLt) (by rw[<-T.out];exact R.mu.isLt) (by rw[<-T.out];exact R.t.isLt) r L7 gu (kl.log 14) s7;rw[<-g2.out,show enL (bB L6) pz.u pz.m pz.t=L8 by rw[<-T.out];exact M.l8.symm,mO O L M.w,bf.out,h5.out,hk.out,bs.out]at h;exact h
 refine UC ?_;refine PW.begin ?_;refine PW.ro (cs:=pz.l) (kl.at_ 10).2.1 h5 uRd (by rw[Rp.len bd];exact iRd) ?_;refine PW.ro (kl.at_ 11).2.1 hk uLg iLg ?_;refine PW.ca lv.out ?_;rintro e ih ⟨hO,hH,he⟩;obtain rfl:=he.symm;have im:=mk1 (kl.say 14 hO hH);clear lv hO hH he kl;simp only[UR,Uu,Uw,Ux];refine hG (ih.heap.size) λmo dk=>?_
 refine hG (ih.alloc (.cells (RG.z 4).toArray 49)) λnh cq=>?_
 refine hG (nh.setCells mo 0 (wn R.w.val)) λmr d7=>?_
 have i9:=mk1 (im.new dk cq);have mw:=mk1 (i9.put 18 d7);refine PW.al dk cq ?_;refine PW.st d7 bs (i9.th 18) i40 (aM _) ?_;clear im i9;refine PW.dn ?_;have Kd:=mk1 mw.out.drew;have fg:=mk1 (H9 O R.n fp n (gGT P) (hGT P) (uGT P) (λi hi=>⟨((nJ C L.1 R.n).tl i hi).ok,by show 1<=512;decide⟩) (mQ C L.1).ok (by show 1<=512;decide) R.y.val R.w.val R.y.isLt R.w.isLt _ mr.drew Kd.nk (Kd.get 4));rw[U.out,bs.out]at fg;refine UC ?_;refine AW.beg 10 10 (Iv.mx w _ _ 14 r true) (Kd.out.wk 14) ?_;refine AW.ro 0 (cs:=pz.l) (λW ⟨_,h⟩=>(h.at_ 10).2.1) h5 uRd (by rw[Rp.len bd];exact iRd) ?_;refine AW.ro 1 (λW ⟨_,h⟩=>(h.at_ 11).2.1) hk uLg iLg ?_;refine AW.ro 2 (cs:=[.slice (some ⟨ga,oa,none⟩) R.n ca,.slice (some ⟨gb,ob,none⟩) R.n cb,sZ gc mc cc]) (λW ⟨_,h⟩=>(h.at_ 8).2.1) (Hid.mk' rfl) uGr iGr ?_;refine AW.ro 3 (λW ⟨_,h⟩=>(h.at_ 12).2.1) U u40 i40 ?_;refine AW.ro 4 (λW ⟨_,h⟩=>(h.at_ 18).2.1) bs u40 i40 ?_;refine AW.mv 6 ?_;refine AW.mv 7 ?_;refine AW.ca 5 (λ_=>fg.out) (λe w' h=>h.1) ?_;rintro tv ba ⟨ej,k7⟩;simp only[UR,Uu,Uw,Ux];have I:=mk1 (Kd.grow ej);refine hG (((aD C k).pst (chF N) ivF u t q t).s) λLx mm=>?_
 have lo:Hid (UK prog 83 #[vl,tv,av,bv] ba (Ret (PhR ba r t Lb Rb Lx Ab Bb))):=by
  obtain⟨Q,F⟩:=I.out.q;have E:∀g,Q g->g≠r:=I.ne F 14;rw[F.out]at k7;have h:=Mf C O k L t ht q u (gGT P) (oQ N R.y.val (hGT P)) ((uGT P).map (tmT N R.w.val)) (by rw[ml];exact uY C L.1 _) (by rw[o6];exact MN C k L R _) (by rw[hu];exact(mQ C L.1).tm C k R.w) (by show 0<1;decide) (by show 1<=16;decide) Lb Rb nq o8 r tv av bv ba (by rw[l0,bf.out];exact I.log 14) (by rw[l0,bf.out];exact s9) (by rw[<-hn];exact k7.mono E) (by rw[<-hn,md];exact SLq.mono (I.uO F 11) E) (by rw[<-hn,m6];exact SLq.mono (I.uO F 12) E);rw[mm.out,<-nf,<-nm,hk.out]at h;exact h
 clear fg ej k7 Kd;refine AW.cw 8 (λ_=>lo.out) (λe w' _ h=>⟨_,I.say 14 h.on h.lg rfl rfl⟩) ?_;rintro e ma c5;obtain⟨vL,vR,vA,vB,rfl,tL,tR,eA,eB⟩:=c5.ex;have jf:=mk1 (I.say 14 c5.on c5.lg);have l8:=(I.at_ 1).1;clear lo c5;simp only[UR,Uu,Uw,Ux];have g8:=mk1 (Oz O pz bd (by rw[<-T.out];exact R.tau.isLt) (by rw[<-T.out];exact R.mu.isLt) (by rw[<-T.out];exact R.t.isLt) vL vR vA vB ⟨tL.one.2,tR.one.2,eA.one.2,eB.one.2⟩ ma);rw[h5.out]at g8;refine AW.ca 9 (λ_=>g8.out) (λe w' h=>h.1) ?_;rintro e js ⟨E,ra,rb,rc,bl,re,rf,c3,rfl,hT⟩;simp only[UR,Uu,Uw,Ux];have g6:=mk1 (jf.grow E);have be:vA.oneCell'=true/\vB.oneCell'=true/\vL.oneCell'=true/\vR.oneCell'=true:=⟨eA.one.2,eB.one.2,tL.one.2,tR.one.2⟩
 have RA:Hid (RgA ba.heap.size t pz Lb Rb Ab Bb (.agg #[r33 ra,r33 rb,r33 rc,r33 bl,r32 re,r32 rf,r32 c3,vL,vR,vA,vB]) js):=⟨_,_,_,_,_,_,_,_,_,_,_,rfl,hT.mono2 λ_ _ _=>trivial,tL.below E,tR.below E,(eA.keep (Kq.of_below E)).mono2 λ_ _ _=>trivial,(eB.keep (Kq.of_below E)).mono2 λ_ _ _=>trivial⟩
 clear hT tL tR eA eB E g8 jf;refine hG (js.setCells k8 0 [r33 ra,r33 rb,r33 rc,r33 bl,r32 re,r32 rf,r32 c3,vL,vR,vA,vB]) λos kn=>?_
 have jt:=mk1 (g6.put 1 kn);have RB:=mk1 (RA.set (us:=[r33 ra,r33 rb,r33 rc,r33 bl,r32 re,r32 rf,r32 c3,vL,vR,vA,vB]) (g6.at_ 1) l8);rw[kn.out]at RB;refine AW.fi (us:=[r33 ra,r33 rb,r33 rc,r33 bl,r32 re,r32 rf,r32 c3,vL,vR,vA,vB]) (Hid.mk' rfl) (by simp only[XP,ZC,ZR,be.1,be.2.1,be.2.2.1,be.2.2.2,show ∀g,(r33 g).oneCell'=true from λ_=>rfl,show ∀g,(r32 g).oneCell'=true from λ_=>rfl,yAn]) iAr (λ_=>⟨g6.th 1,?_⟩);rw[kn.out];have KE:=mk2 jt.bl (V4 I.bl.size RB.out);have K8:=jt.at_ 1;refine wp_ret ?_;refine UH (aG 8 28 rfl K8 rfl uAr iAr) rfl ?_;exact⟨_,rfl,KE.1,_,KE.2.1,KE.2.2⟩
def Wd(n t:Nat):Prop:=n=2^t/\3<=t/\t<=6
theorem Wd.hv{n t:Nat}(h:Wd n t)(W:Ut):UK prog 57 #[iZ n] W (rZ W λe w'=>e=.tuple #[iZ t,.bool true]):=by
 obtain⟨rfl,-,k⟩:=h;rw[<-Pw t k];exact PC (2^t) (OV t k) W
theorem Wd.eight{n t:Nat}(h:Wd n t):8<=n:=by
 obtain⟨rfl,k,-⟩:=h;exact VN (n:=2) (by decide) k
theorem NK{n t:Nat}(h:Wd n t)(w:Ut):UK prog 15 #[iZ n] w (rZ w λe w'=>e=.bool true):=by
 have H:=mk1 (h.hv w);have d:(8:Int)<=(n:Int):=by have:=h.eight;omega
 clear h;go_enter func15,ntmps15;go_wp2_with fail
 refine H.mono ?_;rintro e c ⟨f,rfl,b,rfl⟩;have k:=mk1 b;go_wp2;go_ret;exact⟨_,rfl,k.out,rfl⟩
theorem Fj{n t:Nat}(h:Wd n t)(w:Ut):UK prog 17 #[iZ n] w (rZ w λe w'=>e=uZ ((2^n-1:Nat):Int)):=by
 obtain⟨rfl,b,c⟩:=h;have k:t=3\/t=4\/t=5\/t=6:=by omega
 rcases k with rfl|rfl|rfl|rfl
 all_goals
  go_enter func17,ntmps17;go_wp2;go_ret;exact⟨_,rfl,UT _ _,rfl⟩
omit [NeZero N] in
theorem PQ(O:Ord N)(a b:Fin N)(W:Ut):UK prog 131 #[nv a.val,nv b.val] W (rZ W λe w'=>e=nv (a-b).val):=by
 rw[Ja];exact Dn O a.val b.val a.isLt b.isLt W
def rgD(n:Nat)(y z:Fin N):Fin N:=(z-z*z)*Md.pr (λ_=>1) (pwF y) n-z*z*z*ofF N (2^n-1)
theorem B9(a:Bs)(c:a.size=33)(n:Nat)(w:Ut):UK prog 64 #[pvl a,nv n] w (rZ w λe w'=>Sm w.heap.size w' e [(n,a)]):=
 (kV a c n w).mono λ_ _ ⟨_,d,b,_,f,k,hR⟩=>⟨_,d,b,by rw[f];exact Sm.one hR k rfl⟩
theorem Lu(C:Fld P)(O:Ord N)(k:∀r:EC.Pt P,On r->mul N r=none)(hP:IsP N)(hN:18446744073709551616<=N){n t:Nat}(hw:Wd n t)(p:Rp)(ok:p.Ok)(V:Bs)(Vp P1 P2:OnP P)(hV:V=wP Vp)(h1:p.c=wP P1)(h2:p.d=wP P2)(tau tt x y z:Fin N)(hu:p.u=tau.val)(ht:p.t=tt.val)(w:Ut)(X Y:Bs)(hX:X=wP ((aD C k).cm (hPV C) (gPG C) (tt-rgD n y z) tau))(hY:Y=wP ((aD C k).ad ((aD C k).ad ((aD C k).ac (z*z) Vp) ((aD C k).ac x P1)) ((aD C k).ac (x*x) P2))):
 UK prog 122 #[.agg p.l.toArray,pvl V,iZ n,nv x.val,nv y.val,nv z.val] w (rZ w λe w'=>e=.bool (decide (X=Y))):=by
 have hq:n<=64:=by rw[hw.1];exact UE (VN (by decide) hw.2.2) (by decide)
 have sV:V.size=33:=by rw[hV];exact aT _
 obtain⟨vp,ka⟩:=hE (U5 p.l.toArray);obtain⟨vV,G⟩:=hE (pvl V);obtain⟨vx,j⟩:=hE (nv x.val);obtain⟨vy,B⟩:=hE (nv y.val);obtain⟨vz,d⟩:=hE (nv z.val);obtain⟨vq,f⟩:=hE (nv (z*z).val);obtain⟨k6,hn⟩:=hE (w.heap.size);obtain⟨w1,T⟩:=hE (w.alloc (.cells p.l.toArray 137));obtain⟨k7,hm⟩:=hE (w1.heap.size);obtain⟨w2,hj⟩:=hE (w1.alloc (.cells (aA V).toArray 103));obtain⟨k9,h6⟩:=hE (w2.heap.size);obtain⟨w3,hc⟩:=hE (w2.alloc (.cells (wn x.val).toArray 49));obtain⟨kl,J⟩:=hE (w3.heap.size);obtain⟨w4,k8⟩:=hE (w3.alloc (.cells (wn y.val).toArray 49));obtain⟨ki,L⟩:=hE (w4.heap.size);obtain⟨w5,hi⟩:=hE (w4.alloc (.cells (wn z.val).toArray 49));have K5:=mk1 (((((Mp.start w).new hn T).new hm hj).new h6 hc).new J k8 |>.new L hi);have B1:Hid ((Vh 137 vp).run prog w=.ok (jZ k6) w1):=by rw[<-ka.out,<-T.out,<-hn.out];exact J5 ok w
 have B2:Hid ((Vh 103 vV).run prog w1=.ok (jZ k7) w2):=by rw[<-G.out,<-hj.out,<-hm.out];exact rL sV w1
 have B3:Hid ((Vh 49 vx).run prog w2=.ok (jZ k9) w3):=by rw[<-j.out,<-hc.out,<-h6.out];exact boxS _ w2
 have B4:Hid ((Vh 49 vy).run prog w3=.ok (jZ kl) w4):=by rw[<-B.out,<-k8.out,<-J.out];exact boxS _ w3
 have B5:Hid ((Vh 49 vz).run prog w4=.ok (jZ ki) w5):=by rw[<-d.out,<-hi.out,<-L.out];exact boxS _ w4
 rw[ka.out,G.out,j.out,B.out,d.out];go_enter func122,ntmps122;refine UC ?_;refine PW.begin ?_;refine PW.ns B1.out ?_;refine PW.ns B2.out ?_;refine PW.ns B3.out ?_;refine PW.ns B4.out ?_;refine PW.ns B5.out ?_;refine PW.va (.bool false) ?_;refine PW.dn ?_;clear B1 B2 B3 B4 B5;have HQ:=mk1 (xQ O z z w5);rw[d.out,f.out]at HQ;refine UC ?_;refine PW.begin ?_;refine PW.ro (K5.at_ 4).2.1 d u40 i40 ?_;refine PW.ro (K5.at_ 4).2.1 d u40 i40 ?_;refine PW.gi HQ.out λw6 o=>?_
 have K6:=mk1 (K5.grow o);obtain⟨km,K⟩:=hE (w6.heap.size);obtain⟨w7,hl⟩:=hE (w6.alloc (.cells (RG.z 4).toArray 49));obtain⟨w8,hr⟩:=hE (w7.setCells km 0 (wn (z*z).val));have K7:=mk1 (K6.new K hl);have K8:=mk1 (K7.put 5 hr);refine PW.al K hl ?_;refine PW.st hr f (K7.th 5) i40 (aM _) ?_;clear K5 K6 K7 HQ o;refine PW.dn ?_;obtain⟨v1,k5⟩:=hE (nv 1);have HO:=mk1 (zW 1 (by decide) w8);rw[k5.out]at HO;refine UC ?_;refine PW.begin ?_;refine PW.gi HO.out λw9 kd=>?_
 have K9:=mk1 (K8.grow kd);obtain⟨kb,k2⟩:=hE (w9.heap.size);obtain⟨wA,hk⟩:=hE (w9.alloc (.cells (wn 1).toArray 49));have ha:Hid ((VF 124 1 #[(0,v1)]).run prog w9=.ok (sZ kb 1 1) wA):=by rw[<-k5.out,<-hk.out,<-k2.out];exact SI 1 w9
 have FA:=aN k2 hk;refine PW.ns ha.out ?_;refine PW.mv ?_;refine PW.ca (IF 1 kb n (by omega) wA FA.2) ?_;rintro ov wB ⟨k3,F⟩;simp only[UR,Uu,Uw,Ux];replace F:=F.fin (λ_=>(1:Fin N)) (λi _=>(UU hP.1).symm);have A:=mk1 ((K9.grow FA.1).gets k3 (pqS ov n λi=>((λ_=>(1:Fin N)) i).val) F);clear K8 K9 HO kd F k3 FA ha;refine PW.va ov ?_;refine PW.dn ?_;obtain⟨a1,kh⟩:=hE (nv (z-z*z).val);obtain⟨a2,h9⟩:=hE (nv (Md.pr (λ_=>1) (pwF y) n).val);obtain⟨a3,ke⟩:=hE (nv ((z-z*z)*Md.pr (λ_=>1) (pwF y) n).val);obtain⟨a4,kn⟩:=hE (nv (z*z*z).val);obtain⟨a5,hz⟩:=hE (nv (ofF N (2^n-1)).val);obtain⟨a6,kf⟩:=hE (nv (z*z*z*ofF N (2^n-1)).val);obtain⟨a7,E⟩:=hE (nv (rgD n y z).val);have S:=mk5 (λW=>PQ O z (z*z) W) (λW=>xQ O (z-z*z) (Md.pr (λ_=>1) (pwF y) n) W) (λW=>xQ O (z*z) z W) (λW=>xQ O (z*z*z) (ofF N (2^n-1)) W) (λW=>PQ O ((z-z*z)*Md.pr (λ_=>1) (pwF y) n) (z*z*z*ofF N (2^n-1)) W);rw[show(z-z*z)*Md.pr (λ_=>1) (pwF y) n-z*z*z*ofF N (2^n-1)=rgD n y z from rfl,kh.out,h9.out,ke.out,kn.out,hz.out,kf.out,E.out,d.out,f.out]at S;have l2:2^n-1<18446744073709551616:=by
  have:=VN (n:=2) (by decide) hq;have:=X6 (n:=n) (show 0<2 by decide);omega
 obtain⟨gi,k1⟩:=hE (2^n-1);have kc:Hid (∀W,UK prog 70 #[uZ gi] W (rZ W λe w'=>e=a5)):=λW=>by
  rw[<-hz.out,<-k1.out,show(ofF N (2^n-1)).val=2^n-1 from UU (by omega)];exact zW _ l2 W
 have hs:Hid (∀W,UK prog 17 #[iZ n] W (rZ W λe w'=>e=uZ gi)):=λW=>by
  rw[<-k1.out];exact Fj hw W
 obtain⟨Q,hQ⟩:=A.out.q;refine UC ?_;refine(gwL [pE vz,pE vq,pE a1,pE ov,pE vy,pE (iZ n),RG.pS Q n (λi=>(pwF y i).val),pE a2,pE a3,pE vq,pE vz,pE a4,pE (iZ n),pE (uZ gi),pE a5,pE a6,pE a7,RG.pN wB.heap.size (RG.z 4)] (λW=>kZ wB W) (λW W' hb h=>h.trans (hb.mono h.size))).tail2 18 kR kR kR ⟨
  gLo (cs:=wn z.val) 11 (λW c=>((A.grow c).at_ 4).2.1) u40 i40 (hR:=λ_=>d.out),
  gLo (cs:=wn (z*z).val) 13 (λW c=>((A.grow c).at_ 5).2.1) u40 i40 (hR:=λ_=>f.out),
  gC2 0 24 1 25 S.1,
  gO 14 ov,
  gLo (cs:=wn y.val) 10 (λW c=>((A.grow c).at_ 3).2.1) u40 i40 (hR:=λ_=>B.out),
  gO 2 (iZ n),
  eD 4 28 5 29 74 (λx y=>#[x,y]) (λa u W l m c=>by
   obtain rfl:a=vy:=l;obtain rfl:u=iZ n:=m;rw[<-B.out];exact(NB O y.val y.isLt n (by omega) W).mono λe W' ⟨v,h1,h2,q⟩=>⟨v,h1,h2,(q.mono λg D=>(A.grow c).nkq hQ g D).fin (pwF y) λi _=>lV hP.1 y i⟩),
  eD 3 27 6 30 78 (λx y=>#[x,y]) (λa u W l m c=>by
   obtain rfl:a=ov:=l;have h:=Be O n (by omega) (λi=>((λ_=>(1:Fin N)) i).val) (λi=>(pwF y i).val) (λi _=>(1:Fin N).isLt) (λi _=>(pwF y i).isLt) a u W ((A.grow c).uO hQ 0) m;rw[kG,h9.out]at h;exact h),
  gC2 2 26 7 31 S.2.1,
  gLo (cs:=wn (z*z).val) 13 (λW c=>((A.grow c).at_ 5).2.1) u40 i40 (hR:=λ_=>f.out),
  gLo (cs:=wn z.val) 11 (λW c=>((A.grow c).at_ 4).2.1) u40 i40 (hR:=λ_=>d.out),
  gC2 9 33 10 34 S.2.2.1,
  gO 2 (iZ n),
  oW 12 36 17 (λx=>#[x]) (λa W l c=>by
   obtain rfl:a=iZ n:=l;exact hs W),
  oW 13 37 70 (λx=>#[x]) (λa W l c=>by
   obtain rfl:a=uZ gi:=l;exact kc W),
  gC2 11 35 14 38 S.2.2.2.1,
  gC2 8 32 15 39 S.2.2.2.2,
  xO (RG.z 4) 49 (λW W' h c=>⟨_,rfl,c.size,h⟩),yCm⟩ ⟨rfl,rfl,rfl,Uy _,λ_ _=>rfl⟩ ?_
 intro Z wC hR c;have h7:Z 16=a7:=hR 16 dC;obtain⟨kg,k4,h0,h5⟩:=hR 17 dC;dsimp only[bU,VO,Xn,Xo];simp only[UR,Uu,Uw,Ux];rw[h7,k4];have KC:=mk1 (A.add c h5 h0);obtain⟨wD,hp⟩:=hE (wC.setCells kg 0 (wn (rgD n y z).val));have KD:=mk1 (KC.put 6 hp);refine PW.st hp E (KC.th 6) i40 (aM _) ?_;clear A KC hR c h5 h0 h7 k4 S kc hs hQ;refine PW.dn ?_;have tV:Tl N [((z*z).val,V)] ((aD C k).ac (z*z) Vp):=by rw[hV];exact Tl.pt C k (z*z) Vp
 have t1:Tl N [(x.val,p.c)] ((aD C k).ac x P1):=by rw[h1];exact Tl.pt C k x P1
 have t2:Tl N [((x*x).val,p.d)] ((aD C k).ac (x*x) P2):=by rw[h2];exact Tl.pt C k (x*x) P2
 have t3:=tV.app C k t1;have t4:=t3.app C k t2;obtain⟨vc,hy⟩:=hE (pvl p.c);obtain⟨vd,h8⟩:=hE (pvl p.d);obtain⟨kp,he⟩:=hE (nv (x*x).val);obtain⟨vY,k0⟩:=hE (pvl Y);have D:=mk7 (λW=>B9 V sV (z*z).val W) (λW=>B9 p.c ok.c x.val W) (λW=>B9 p.d ok.d (x*x).val W) (λW=>xQ O x x W)
  (λ(W:Ut) (s u:Uv) (a:Sm 0 W s [((z*z).val,V)]) (b:Sm 0 W u [(x.val,p.c)])=>cO 0 s u _ _ (by simp) (by simp) (by simp) tV.ok.sz t1.ok.sz W (U2 a) (U2 b))
  (λ(W:Ut) (s u:Uv) (a:Sm 0 W s ([((z*z).val,V)]++[(x.val,p.c)])) (b:Sm 0 W u [((x*x).val,p.d)])=>cO 0 s u _ _ (by simp) (by simp) (by simp) t3.ok.sz t2.ok.sz W (U2 a) (U2 b))
  (λ(W:Ut) (s:Uv) (a:Sm 0 W s ([((z*z).val,V)]++[(x.val,p.c)]++[((x*x).val,p.d)]))=>(by rw[hY];exact t4.point C O k (by simp) (by simp) a:UK prog 67 #[s] W (rZ W λe w'=>e=pvl Y)))
 rw[G.out,hy.out,h8.out,j.out,f.out,he.out,k0.out]at D;have ip:∀ {b:Bs},b.size=33->(prog.info? 103).map (·.size)=some (aA b).length:=λh=>by rw[aB h];exact iCP
 refine UC ?_;refine AW.beg 15 15 (Iv.mp w _ _ false) KD.out.drew ?_;refine AW.ro 0 (λW h=>(h.at_ 1).2.1) G uCP (ip sV) ?_;refine AW.ro 1 (λW h=>(h.at_ 5).2.1) f u40 i40 ?_;refine AW.va 3 (oZ k6 66) ?_;refine AW.ro 4 (λW h=>(Rp.at7 ok (h.at_ 0).2.1).2.2.1) hy uCP (ip ok.c) ?_;refine AW.ro 5 (λW h=>(h.at_ 2).2.1) j u40 i40 ?_;refine AW.va 8 (oZ k6 99) ?_;refine AW.ro 9 (λW h=>(Rp.at7 ok (h.at_ 0).2.1).2.2.2.1) h8 uCP (ip ok.d) ?_;refine AW.ro 10 (λW h=>(h.at_ 2).2.1) j u40 i40 ?_;refine AW.ro 11 (λW h=>(h.at_ 2).2.1) j u40 i40 ?_;refine AW.ca 2 (λ_=>D.1 _) (λe w' h=>h.1) ?_;rintro s1 x1 ⟨q,q1⟩;simp only[UR,Uu,Uw,Ux];refine AW.ca 6 (λ_=>D.2.1 _) (λe w' h=>h.1) ?_;rintro s2 x2 ⟨l,q2⟩;simp only[UR,Uu,Uw,Ux];refine AW.ca 7 (λ_=>D.2.2.2.2.1 _ _ _ (q1.q.keep (Kq.of_below l)).sm q2.q.sm) (λe w' h=>h.1) ?_;rintro s3 x3 ⟨m,q3⟩;simp only[UR,Uu,Uw,Ux];refine AW.gi 12 (λ_=>D.2.2.2.1 _) λx4 M=>?_
 refine AW.ca 13 (λ_=>D.2.2.1 _) (λe w' h=>h.1) ?_;rintro s5 x5 ⟨R,q5⟩;simp only[UR,Uu,Uw,Ux];refine AW.ca 14 (λ_=>D.2.2.2.2.2.1 _ _ _ ((q3.q.keep (Kq.of_below M)).keep (Kq.of_below R)).sm q5.q.sm) (λe w' h=>h.1) ?_;rintro s6 x6 ⟨o,q6⟩;simp only[UR,Uu,Uw,Ux];have KE:=mk1 (((((KD.drew.grow q).grow l).grow m).grow M).grow R |>.gets o (pqM s6 _) q6.q);clear q l m M R o q1 q2 q3 q5 q6 KD;refine AW.nx 15 s6 ?_;refine AW.dn λ_=>?_
 obtain⟨ko,H⟩:=hE (nv tt.val);obtain⟨kr,I⟩:=hE (nv tau.val);obtain⟨vm,kj⟩:=hE (nv (tt-rgD n y z).val);obtain⟨vX,h4⟩:=hE (pvl X);have HM:=mk2 (λW=>PQ O tt (rgD n y z) W) (λW=>oL (P:=P) C O (tt-rgD n y z).isLt tau.isLt W);rw[yB C k (tt-rgD n y z) tau,show wP ((aD C k).cm (hPV C) (gPG C) (tt-rgD n y z) tau)=X from hX.symm,H.out,I.out,kj.out,h4.out,E.out]at HM;have sX:X.size=33:=by rw[hX];exact aT _
 have sY:Y.size=33:=by rw[hY];exact aT _
 have U:Hid (∀W:Ut,(eqGuard .eql 103 (.tmp 62) (.tmp 64) vX vY >>= λ_=>binOp .eql 103 vX vY).run prog W=.ok (.bool (decide (X=Y))) W):=λW=>by
  rw[<-h4.out,<-k0.out,UW,show(eqGuard .eql 103 (.tmp 62) (.tmp 64) (pvl X) (pvl Y)).run prog W=.ok () W by kernel_rfl];exact NU sX sY W
 refine UC ?_;refine AW.beg 10 10 (Iv.mp w _ _ false) KE.out.drew ?_;refine AW.va 0 (oZ k6 140) ?_;refine AW.ro 1 (cs:=wn tt.val) (λW h=>by rw[<-ht];exact(Rp.at7 ok (h.at_ 0).2.1).2.2.2.2.2.2) H u40 i40 ?_;refine AW.ro 2 (λW h=>(h.at_ 6).2.1) E u40 i40 ?_;refine AW.va 4 (oZ k6 132) ?_;refine AW.ro 5 (cs:=wn tau.val) (λW h=>by rw[<-hu];exact(Rp.at7 ok (h.at_ 0).2.1).2.2.2.2.1) I u40 i40 ?_;refine AW.mv 7 ?_;refine AW.gi 3 (λ_=>HM.1 _) λx1 q=>?_
 refine AW.gi 6 (λ_=>HM.2 _) λx2 l=>?_
 refine AW.gi 8 (λh=>D.2.2.2.2.2.2 _ _ (SmQ.sm (h.get 1))) λx3 m=>?_
 have KF:=mk1 (((KE.drew.grow q).grow l).grow m);refine AW.ns 9 (U x3) (UT _ _) ?_;refine AW.nx 10 (.bool (decide (X=Y))) ?_;refine AW.dn λ_=>?_
 clear q l m KE D HM U;obtain⟨bb,kk⟩:=hE (decide (X=Y));rw[kk.out];go_wp2;go_ret;exact⟨_,rfl,KF.bl,rfl⟩
def rgS(y z:Fin N)(i:Nat):Fin N:=z*pwF y i+z*z*pwF (ofF N 2) i
theorem LV(k:IsP N)(b:2<N)(y z:Fin N)(i:Nat):sPl N (sTi N z.val (pwN N y.val i)) (sTi N (sTi N z.val z.val) (pwN N 2 i))=(rgS y z i).val:=by
 show _=(z*pwF y i+z*z*pwF (ofF N 2) i).val;rw[mA,fM,fM,fM,<-lV k.1,<-lV k.1,show(ofF N 2).val=2 from UU b]
theorem RV(C:Fld P)(O:Ord N)(k:∀r:EC.Pt P,On r->mul N r=none)(hP:IsP N)(hN:18446744073709551616<=N){n:Nat}(hp:0<n)(hz:n<=64)(p:Rp)(ok:p.Ok)(PA PS:OnP P)(hA:p.a=wP PA)(hS:p.s=wP PS)(mu tt x y z:Fin N)(hm:p.m=mu.val)(ht:p.t=tt.val)(G H:Nat->List (Nat × Bs))(U:List (Nat × Bs))(g h:Nat->OnP P)(u:OnP P)(hG:Gd N n 1 G g)(hH:Gd N n 1 H h)(hU:Tl N U u)(hu:U.length=1):
 ∃l,Tl N l ((aD C k).ad ((aD C k).ad ((aD C k).ad ((aD C k).ad PA ((aD C k).ac x PS)) ((aD C k).ac (-1) ((aD C k).ac mu (gPG C)))) ((aD C k).ad ((aD C k).dt (λ_=>-z) g n) ((aD C k).dt (rgS y z) h n))) ((aD C k).ac tt u))/\(0<l.length/\l.length<=150) /\
  ∀(Q:Nat->Prop) (T:Uv) (w:Ut),GRq Q w T n G H U->UK prog 124 #[.agg p.l.toArray,T,iZ n,nv x.val,nv y.val,nv z.val] w (rZ w λe w'=>Sm w.heap.size w' e l):=by
 obtain⟨Gb,S⟩:=hE (wr (gG P));have sG:Gb.size=33:=by rw[<-S.out];exact aT _
 have tA:Tl N [(1,p.a)] PA:=by rw[hA];exact Tl.one C hP.1 PA
 have tS:Tl N [(x.val,p.s)] ((aD C k).ac x PS):=by rw[hS];exact Tl.pt C k x PS
 have tG:Tl N [(mu.val,Gb)] ((aD C k).ac mu (gPG C)):=by rw[<-S.out];exact Tl.pt C k mu (gPG C)
 have t1:=tA.app C k tS;have tM:=tG.tm C k (-1);rw[Rx hP.1]at tM;have t2:=t1.app C k tM;have Z:=(hG.cmb C k (λ_=>-z)).1.app C k (hH.cmb C k (rgS y z)).1;have lL:(dJ N (λ_=>(-z).val) G n++dJ N (λi=>(rgS y z i).val) H n).length=n+n:=by rw[UB,(hG.cmb C k (λ_=>-z)).2,(hH.cmb C k (rgS y z)).2,Xj]
 have tU:=hU.tm C k tt;have lU:(U.map (tmT N tt.val)).length=1:=by rw[US,hu]
 have t3:=t2.app C k Z;have t4:=t3.app C k tU;have hn:=sM hp (by decide:0<1) (by omega) hG hH hU (by omega) (by omega);refine⟨_,t4,⟨by simp,by simp only[UB,US,lL,lU,Vg,WO]at *;omega⟩,λQ T w h0=>?_⟩;obtain⟨lb,J⟩:=hE (dJ N (λ_=>(-z).val) G n++dJ N (λi=>(rgS y z i).val) H n);obtain⟨lu,K⟩:=hE (U.map (tmT N tt.val));obtain⟨R,o⟩:=hE ([(1,p.a)]++[(x.val,p.s)]++[(mu.val,Gb)].map (tmT N (sMi N 0 1)));rw[o.out,J.out,K.out];have n2:R.length=3:=by rw[<-o.out];rfl
 rw[J.out]at Z lL;rw[K.out]at tU lU;rw[o.out]at t2;have h6:=t2.app C k Z;have h2:2<N:=by omega
 obtain⟨vp,hl⟩:=hE (U5 p.l.toArray);obtain⟨vx,D⟩:=hE (nv x.val);obtain⟨vy,B⟩:=hE (nv y.val);obtain⟨vz,F⟩:=hE (nv z.val);obtain⟨vm,hc⟩:=hE (nv mu.val);obtain⟨vt,h5⟩:=hE (nv tt.val);obtain⟨vG,hw⟩:=hE (pvl Gb);obtain⟨va,hi⟩:=hE (pvl p.a);obtain⟨vs,hb⟩:=hE (pvl p.s);have E:=mk8 (λW=>AU p.a ok.a W) (λW=>B9 p.s ok.s x.val W) (λW=>B9 Gb sG mu.val W) (λW=>NS (P:=P) C W)
  (λ(W:Ut) (s u:Uv) (a:Sm 0 W s [(1,p.a)]) (b:Sm 0 W u [(x.val,p.s)])=>cO 0 s u _ _ (by simp) (by simp) (by simp) tA.ok.sz tS.ok.sz W (U2 a) (U2 b))
  (λ(W:Ut) (s u:Uv) (a:Sm 0 W s ([(1,p.a)]++[(x.val,p.s)])) (b:Sm 0 W u [(mu.val,Gb)])=>wG O 0 s u _ _ (by simp) (by simp) (by simp) t1.ok.sz tG.ok.sz tG.ok.lt W (Wz _) a b)
  (λ(W:Ut) (s u:Uv) (a:Sm 0 W s R) (b:Sm 0 W u lb)=>cO 0 s u R lb (by rw[UB];omega) (by omega) (by omega) t2.ok.sz Z.ok.sz W (U2 a) (U2 b))
  (λ(W:Ut) (s u:Uv) (a:Sm 0 W s (R++lb)) (b:Sm 0 W u lu)=>cO 0 s u (R++lb) lu (by simp only[UB];omega) (by rw[UB];omega) (by omega) h6.ok.sz tU.ok.sz W (U2 a) (U2 b))
 rw[o.out,S.out,hw.out,hi.out,hb.out,D.out,hc.out]at E;have hs:Hid (∀(Q:Nat->Prop) (W:Ut) (v a b:Uv),GRq Q W v n G H U->SLq Q W a n (λ_=>(-z).val)->SLq Q W b n (λi=>(rgS y z i).val)->UK prog 66 #[v,a,b] W (rZ W λe w'=>Sm W.heap.size w' e lb)):=λQ W v a b g1 g2 g3=>by
  rw[<-J.out];exact xI O n 1 G H U hn _ _ (λi _=>(-z).isLt) (λi _=>(rgS y z i).isLt) v a b W g1 g2 g3
 have hr:Hid (∀(W:Ut) (v:Uv),Sm 0 W v U->UK prog 164 #[v,vt] W (rZ W λe w'=>Sm W.heap.size w' e lu)):=λW v a=>by
  rw[<-K.out,<-h5.out];exact eG O tt.isLt 0 v U (by omega) hU.ok.szm hU.ok.lt W a
 have he:=mk1 (λW=>EF O h2 y.val z.val y.isLt z.isLt n (by omega) W);rw[B.out,F.out]at he;clear J K o tA tS tG t1 tM t2 Z tU t3 t4 h6 hn;obtain⟨q1,q2,q3,rfl,-,-,-⟩:=h0.ex;obtain⟨k6,ha⟩:=hE (w.heap.size);obtain⟨w1,Y⟩:=hE (w.alloc (.cells p.l.toArray 137));obtain⟨k7,h9⟩:=hE (w1.heap.size);obtain⟨w2,h8⟩:=hE (w1.alloc (.cells [q1,q2,q3].toArray 133));obtain⟨k9,h1⟩:=hE (w2.heap.size);obtain⟨w3,h4⟩:=hE (w2.alloc (.cells (wn x.val).toArray 49));obtain⟨hy,L⟩:=hE (w3.heap.size);obtain⟨w4,hk⟩:=hE (w3.alloc (.cells (wn y.val).toArray 49));obtain⟨hq,M⟩:=hE (w4.heap.size);obtain⟨w5,h7⟩:=hE (w4.alloc (.cells (wn z.val).toArray 49));have K0:=(Mp.start w).has (pqG (.agg #[q1,q2,q3]) n G H U) (h0.mono2 λg _ _ e=>by cases e);have K5:=mk1 ((((K0.new ha Y).new h9 h8).new h1 h4).new L hk |>.new M h7);obtain⟨T,q⟩:=hE (U5 #[q1,q2,q3]);have B1:Hid ((Vh 137 vp).run prog w=.ok (jZ k6) w1):=by rw[<-hl.out,<-Y.out,<-ha.out];exact J5 ok w
 have B2:Hid ((Vh 133 T).run prog w1=.ok (jZ k7) w2):=by rw[<-q.out,<-h8.out,<-h9.out];exact CN _ _ _ w1
 have B3:Hid ((Vh 49 vx).run prog w2=.ok (jZ k9) w3):=by rw[<-D.out,<-h4.out,<-h1.out];exact boxS _ w2
 have B4:Hid ((Vh 49 vy).run prog w3=.ok (jZ hy) w4):=by rw[<-B.out,<-hk.out,<-L.out];exact boxS _ w3
 have B5:Hid ((Vh 49 vz).run prog w4=.ok (jZ hq) w5):=by rw[<-F.out,<-h7.out,<-M.out];exact boxS _ w4
 rw[hl.out,q.out,D.out,B.out,F.out];rw[q.out]at K5;have ip:∀ {b:Bs},b.size=33->(prog.info? 103).map (·.size)=some (aA b).length:=λh=>by rw[aB h];exact iCP
 clear K0 h0;go_enter func124,ntmps124;refine UC ?_;refine PW.begin ?_;refine PW.ns B1.out ?_;refine PW.ns B2.out ?_;refine PW.ns B3.out ?_;refine PW.ns B4.out ?_;refine PW.ns B5.out ?_;refine PW.va (.slice none 0 0) ?_;refine PW.dn ?_;clear B1 B2 B3 B4 B5;refine UC ?_;refine AW.beg 13 13 (Iv.mp w _ _ false) K5.out.drew ?_;refine AW.va 0 (jZ k6) ?_;refine AW.ro 1 (λW h=>(Rp.at7 ok (h.at_ 0).2.1).1) hi uCP (ip ok.a) ?_;refine AW.va 3 (oZ k6 33) ?_;refine AW.ro 4 (λW h=>(Rp.at7 ok (h.at_ 0).2.1).2.1) hb uCP (ip ok.s) ?_;refine AW.ro 5 (λW h=>(h.at_ 2).2.1) D u40 i40 ?_;refine AW.va 9 (oZ k6 136) ?_;refine AW.ro 10 (cs:=wn mu.val) (λW h=>by rw[<-hm];exact(Rp.at7 ok (h.at_ 0).2.1).2.2.2.2.2.1) hc u40 i40 ?_;refine AW.ca 2 (λ_=>E.1 _) (λe w' h=>h.1) ?_;rintro s1 x1 ⟨t,e1⟩;simp only[UR,Uu,Uw,Ux];refine AW.ca 6 (λ_=>E.2.1 _) (λe w' h=>h.1) ?_;rintro s2 x2 ⟨f,X⟩;simp only[UR,Uu,Uw,Ux];refine AW.ca 7 (λ_=>E.2.2.2.2.1 _ _ _ (e1.q.keep (Kq.of_below f)).sm X.q.sm) (λe w' h=>h.1) ?_;rintro s3 x3 ⟨m,e3⟩;simp only[UR,Uu,Uw,Ux];refine AW.gi 8 (λ_=>E.2.2.2.1 _) λx4 d=>?_
 refine AW.ca 11 (λ_=>E.2.2.1 _) (λe w' h=>h.1) ?_;rintro s5 x5 ⟨j,e5⟩;simp only[UR,Uu,Uw,Ux];refine AW.ca 12 (λ_=>E.2.2.2.2.2.1 _ _ _ ((e3.q.keep (Kq.of_below d)).keep (Kq.of_below j)).sm e5.q.sm) (λe w' h=>h.1) ?_;rintro s6 x6 ⟨hj,e6⟩;simp only[UR,Uu,Uw,Ux];have KE:=mk1 (((((K5.drew.grow t).grow f).grow m).grow d).grow j |>.gets hj (pqM s6 R) e6.q);clear t f m d j hj e1 X e3 e5 e6 K5;refine AW.nx 13 s6 ?_;refine AW.dn λ_=>?_
 refine UC ?_;refine AW.beg 16 16 (Iv.mp w _ _ false) KE.out.drew ?_;refine AW.mv 0 ?_;refine AW.ro 1 (λW h=>(h.at_ 1).2.1) q uGr iGr ?_;refine AW.ro 2 (λW h=>(h.at_ 3).2.1) B u40 i40 ?_;refine AW.ro 3 (λW h=>(h.at_ 4).2.1) F u40 i40 ?_;refine AW.mv 4 ?_;refine AW.va 10 (oZ k7 2) ?_;refine AW.ce 11 AC (λW h=>(h.at_ 1).2.1 2 _ rfl) ?_;refine AW.va 12 (oZ k6 140) ?_;refine AW.ro 13 (cs:=wn tt.val) (λW h=>by rw[<-ht];exact(Rp.at7 ok (h.at_ 0).2.1).2.2.2.2.2.2) h5 u40 i40 ?_;refine AW.ca 5 (λ_=>he _) (λe w' h=>h.1) ?_;rintro e y1 ⟨t,ls,rs,rfl,I,A⟩;simp only[UR,Uu,Uw,Ux];replace I:=I.fin (λ_=>-z) (λi _=>(I6 z).symm);replace A:=A.fin (rgS y z) (λi _=>LV hP h2 y z i);have V:=mk1 ((KE.drew.gets t (pqS ls n λ_=>(-z).val) I).has (pqS rs n λi=>(rgS y z i).val) (A.mono λg hg=>KE.drew.nk g hg));clear I A t;refine AW.va 6 ls ?_;refine AW.va 7 rs ?_;refine AW.ca 8 (λ_=>hs _ _ _ _ _ (V.get 0) (V.get 2) (V.get 3)) (λe w' h=>h.1) ?_;rintro s2 y2 ⟨f,X⟩;simp only[UR,Uu,Uw,Ux];refine AW.ca 9 (λ_=>E.2.2.2.2.2.2.1 _ _ _ (SmQ.sm ((V.grow f).get 1)) X.q.sm) (λe w' h=>h.1) ?_;rintro s3 y3 ⟨m,e3⟩;simp only[UR,Uu,Uw,Ux];have KG:=mk1 ((V.grow f).grow m);refine AW.ca 14 (λ_=>hr _ _ (by
  have hh:GRq _ y3 T n G H U:=KG.get 0;rw[<-q.out]at hh;obtain⟨a,b,c,e,-,-,h3⟩:=hh.ex;cases e
  exact h3.sm)) (λe w' h=>h.1) ?_
 rintro s4 y4 ⟨d,e4⟩;simp only[UR,Uu,Uw,Ux];refine AW.ca 15 (λ_=>E.2.2.2.2.2.2.2 _ _ _ (e3.q.keep (Kq.of_below d)).sm e4.q.sm) (λe w' h=>h.1) ?_;rintro s5 y5 ⟨j,e5⟩;simp only[UR,Uu,Uw,Ux];have KH:=mk1 ((KG.grow d).grow j);have E5:Hid (Sm w.heap.size y5 s5 (R++(lb++lu))):=by
  rw[<-VC];exact e5.q.mono λg hg=>UE (KG.grow d).bl.size hg
 clear f m d j X e3 e4 e5 V KG KE;refine AW.nx 16 s5 ?_;refine AW.dn λ_=>?_
 go_wp2;go_ret;exact⟨_,rfl,KH.bl,E5.out⟩
end
namespace RG
open Go Go.RowKit
variable {P:VD}{ops:Array Vk}{Q:X9->Act->Ut->Prop}{w:Ut}{a0:Act}{G:Gw}{S:Ut->Ut->Prop}{B1:Ut->Prop}{m k:Nat}{o:Vk}
def Gw.lk(G:Gw)(m:Nat)(S:Ut->Ut->Prop)(k:Ut->Prop):Flow:=⟨G.R,λb=>if b=0 then G.B else k,λi w w'=>(i=m/\S w w')\/kZ w w',λ_=>[],λb=>if b=0 then [] else [m]⟩
theorem DN(h:bF P Q G.flow ops a0 k o):bF P Q (G.lk m S B1) ops a0 k o:=λa w K e f d c=>h a w K e f (λb _=>d 0 rfl) λv w' hE hR=>c v w' (U2 hE) hR
theorem TT(h:∀(a:Act) (w:Ut),PreG G ops a0 m o a w->B1 w->∃(k:List (WF × Uv)) (f:Xl) (args:Array Uv),AllE a k/\(dA (k.map (·.1)) o,(U9 (evo (evl k)) o).run P w)=(true,.ok (.enter f args) w)/\UK P f args w (Ret λe w'=>S w w'/\G.R m e w'))(s:okK ops m [m]=true:=by kernel_rfl):bF P Q (G.lk m S B1) ops a0 m o:=by
 intro a w K i q c g;obtain⟨k,f,args,n,b,r⟩:=h a w ⟨λj d l hd=>i j d l rfl hd,q,c 0 rfl⟩ (c 1 s);simp only[We.injEq]at b;unfold VT;rw[iY (evl k) (k.map (·.1)) b.1 n.ev,b.2,WU];refine r.mono ?_;rintro e w' ⟨v,rfl,p,t⟩;exact g _ _ (U6 ⟨rfl,p⟩) t
theorem Gw.tailL(G:Gw)(m:Nat)(S:Ut->Ut->Prop)(d:Ut->Prop)(n:Nat)(q:∀j v w w',j≠m->S w w'->G.R j v w->G.R j v w')(r:∀w w',S w w'->G.B w->G.B w')(p:∀w w',kZ w w'->d w->d w')(s:(decide (n<ops.size) && nN ops n)=true)(a:P.follows .mixedOrders=true)(z:Bf ops a0.tmps.size=true)(h:iM P Q (G.lk m S d) ops a0 0 (ops.toList.take n))(k:G.B w.drew)(g:d w.drew)
 (x:∀(V:Nat->Uv) (w':Ut),(∀i,i<n->G.R i (V i) w')->G.B w'->wpList P ops Q (ops.toList.drop n) (bU V (ops.toList.take n) 0 a0) w'):(V3 id ops true).wp P Q a0 w:=by
 rw[UN,decide_eq_true_eq]at s;refine xW (G.lk m S d) n s.1 s.2 a ⟨z,sW h,λi j _ _ l _ _ v w w' hE hR=>?_,λi b _ c w w' hE k=>?_⟩ (λb=>?_) λV w' u y=>x V w' (λi f=>u i f rfl) (y 0 rfl)
 ·rcases hE with⟨f,o⟩|hE
  ·exact q j v w w' (λe=>l (f.trans e.symm)) o hR
  ·exact G.sR j v w w' hE hR
 ·unfold Gw.lk at c k⊢;dsimp only at c k⊢;by_cases t:b=0
  ·rw[yCk t]at k⊢;rcases hE with⟨-,o⟩|hE
   ·exact r w w' o k
   ·exact G.sB w w' hE k
  ·rw[yCl t]at k c⊢;rcases hE with⟨f,-⟩|hE
   ·rw[f]at c;simp at c
   ·exact p w w' hE k
 ·unfold Gw.lk;dsimp only;split
  ·exact k
  ·exact g
end RG
section
open Go.RowKit Go.Sort Go.Deep SPA
def pX(b:Nat)(cs:List Uv):S1:=⟨λv w=>∃k,v=jZ k/\b<=k/\Row w k cs/\∀i x,w.cell? ⟨k,i,none⟩=some x->x∈cs,λ_ w w' c ⟨k,f,g,d,e⟩=>⟨k,f,g,d.below c,λi x hx=>e i x (by rw[<-U0 (a:=⟨k,i,none⟩) (c.block k d.1)];exact hx)⟩⟩
theorem Mn{b r:Nat}{cs:List Uv}{v:Uv}{W W':Ut}(c:SP.Only r 0 32 W W')(l:r<b)(h:(pX b cs).p v W):(pX b cs).p v W':=by
 obtain⟨k,g,j,d,f⟩:=h;have e:=c.block k d.1 (by omega);exact⟨k,g,j,aV d c.size e,λi x hx=>f i x (by rw[<-U0 (a:=⟨k,i,none⟩) e];exact hx)⟩
theorem RZ{P:VD}{c:Array Vk}{Q:X9->Act->Ut->Prop}{a0:Act}{G:Gw}{k:Nat}{o:Vk}(b:Nat)(cs:List Uv)(T:Vb)(f:∀W,G.B W->b<=W.heap.size)(hR:∀v W,(pX b cs).p v W->G.R k v W)(d:∀W,(dA [] o,(U9 (evo (evl [])) o).run P W)=(true,.ok (.value (jZ W.heap.size)) (W.alloc (.cells cs.toArray T))):=by intro _;kernel_rfl):bF P Q G.flow c a0 k o:=
 bN λa W e=>⟨[],_,_,trivial,d W,aC W _,hR _ _ ⟨_,rfl,f W e.b,aE W cs T,λi x hx=>by
  rw[World.cell?_alloc_at _ _ _ _ rfl,Vm]at hx;exact VQ hx⟩⟩
section
variable {Q:Nat->Prop}{W:Ut}{v:Uv}{k n:Nat}{T G H:Nat->List (Nat × Bs)}{l U:List (Nat × Bs)}
theorem SmQ.offX(h:SmQ Q W v l)(e:0<l.length)(hx:∀i x,W.cell? ⟨k,i,none⟩=some x->x=.slice none 0 0):SmQ (λg=>Q g/\g≠k) W v l:=by
 obtain⟨g,c,m,n,j,f,d⟩:=h;refine⟨g,c,m,n,⟨j,?_⟩,f,d⟩;rintro rfl;match l,e with
 | (a,b) :: t,_=>cases hx _ _ (d 0 _ rfl)
theorem GLq.offX(h:GLq Q W v n T)(t:0<n)(q:∀j,j<n->0<(T j).length)(hx:∀i x,W.cell? ⟨k,i,none⟩=some x->x=.slice none 0 0):GLq (λg=>Q g/\g≠k) W v n T:=by
 obtain⟨g,o,c,p,s,m,r,f⟩:=h;refine⟨g,o,c,p,s,⟨m,?_⟩,r,λj d=>?_⟩
 ·rintro rfl;obtain⟨x,b,l,u,e,-⟩:=f 0 t;have:=hx _ _ b;rw[e]at this;cases this
 ·obtain⟨x,b,l⟩:=f j d;exact⟨x,b,l.offX (q j d) hx⟩
theorem GRq.offX(h:GRq Q W v n G H U)(b:0<n)(hG:∀j,j<n->0<(G j).length)(q:∀j,j<n->0<(H j).length)(e:0<U.length)(hx:∀i x,W.cell? ⟨k,i,none⟩=some x->x=.slice none 0 0):GRq (λg=>Q g/\g≠k) W v n G H U:=by
 obtain⟨f,l,d,o,p,m,c⟩:=h.ex;exact⟨f,l,d,o,p.offX b hG hx,m.offX b q hx,c.offX e hx⟩
end
theorem Mp.sayAdd{w W W':Ut}{f d:List (Nat × List Uv)}{S:List Pq}{k r:Nat}{c:List Uv}{L n:Bs}(h:Mp w W f S)(i:Nat)(o:SP.Only r 0 32 W W')(B:Holds encB W' r 0 n)(z:Row W' k c)(y:W.heap.size<=k)(l:f[i]? = some (r,aA L):=by rfl)(e:f.set i (r,aA n)++[(k,c)]=d:=by(simp only[Uw,Ux,Xv,XI])<;>rfl):Mp w W' d S/\∀g,Nk f g->g≠k->Nk d g:=by
 subst e;have p:∀g,Nk (f.set i (r,aA n)++[(k,c)]) g↔Nk f g/\g≠k:=λg=>by
  unfold Nk;rw[Wx,Mp.keys l,Ww];simp
 refine⟨?_,λg j t=>(p g).2 ⟨j,t⟩⟩;have j:=h.say i o B l rfl;have v:=h.lt (Mp.key l);refine⟨j.bl,λx hx=>?_,?_,λs u=>?_⟩
 ·rcases Ww.1 hx with hx|hx
  ·exact j.rw x hx
  ·rw[WT.1 hx];exact⟨UE h.bl.size y,z⟩
 ·rw[Wx,Za];refine⟨j.nd,by simp,λa q b m e=>?_⟩;rw[Mp.keys l]at q;have t:=(h.lt q).2;simp at m;omega
 ·refine s.kp _ W _ ⟨o.size,λg m q=>o.block g q λe=>((p g).1 m).1 (by rw[e];exact Mp.key l)⟩ (s.mo _ _ _ (λg m C=>(p g).2 ⟨C,by omega⟩) (h.ob s u))
variable {P:Nat}[NeZero P]{N:Nat}[NeZero N]
theorem Ju(C:Fld P)(k:∀r:EC.Pt P,On r->mul N r=none)(c:IsP N)(y:Fin N)(n:Nat):Gd N n 1 (oQ N y.val (hGT P)) (λi=>(aD C k).ac (pwF (ivF y) i) (gPt C ⟨#[114,105,103,104,116]⟩ i)):=by
 have g:=nJ C c.1 n;refine⟨λi b=>?_,λi b=>by unfold oQ;rw[US];exact g.len i b⟩;have h:=(g.tl i b).tm C k (pwF (ivF y) i);rw[<-lV c.1]at h;exact h
end
section
open Go.RowKit Go.Sort Go.Deep SPA
section
variable {P:VD}{ops:Array Vk}{Q:X9->Act->Ut->Prop}{p r:Nat}{J:Iv}{i fuel:Nat}{o:Vk}{listed:Array Bool}{a a':Act}{w w':Ut}{d:Option WF}{x v:Uv}{t:WF}{T:Vb}{b off:Nat}{cs:List Uv}
theorem AG.ro(i:Nat)(s:∀W,J.p W->W.rangeAt b off cs)(hv:Hid (.agg cs.toArray=x))(v:(P.underlying T).map (·.isRow)=some true)(u:(P.info? T).map (·.size)=some cs.length)(h:AW P ops Q p r J fuel (listed.setIfInBounds i true) a' w)(ho:ops[i]? = some o:=by(simp only[Vm,Vf,Vl])<;>rfl)(hd:o.dst=d:=by rfl)(e:V5 o (yielded ops a.tmps)=true:=by kernel_rfl)(k:o.op=.load T (.tmp t):=by rfl)(hx:a.eval (.tmp t)=oZ b off:=by rfl)
 (n:a.put d x=a':=by(simp only[UR,Uu,Uw,Ux])<;>rfl) (j:aw1 ops p r (qw ops J.b p r i) i listed=true:=by kernel_rfl) (m:∀c a w,Q (.panic c) (a.put o.dst x) w->Q (.panic c) a w:=by exact λ_ _ _ h=>h):AW P ops Q p r J (fuel+1) listed a w:=by
 obtain rfl:=hv.out;obtain⟨l,g,q⟩:=UA.1 v;exact AW.take i (qw ops J.b p r i) ho hd (yieldsIf_load_mid e T (.tmp t) k b off hx cs l (λw f=>s w (Sa.bel f)) g q u) n j m h
theorem AG.mv(i:Nat)(h:AW P ops Q p r J fuel (listed.setIfInBounds i true) a' w)(ho:ops[i]? = some o:=by(simp only[Vm,Vf,Vl])<;>rfl)(hd:o.dst=d:=by rfl)(b:V5 o (yielded ops a.tmps)=true:=by kernel_rfl)(k:o.op=.move (.tmp t):=by rfl)(hx:a.eval (.tmp t)=x:=by(conv=>lhs;whnf)<;>rfl)
 (g:a.put d x=a':=by(simp only[UR,Uu,Uw,Ux])<;>rfl) (f:aw1 ops p r (fw ops i) i listed=true:=by kernel_rfl) (e:∀c a w,Q (.panic c) (a.put o.dst x) w->Q (.panic c) a w:=by exact λ_ _ _ h=>h):AW P ops Q p r J (fuel+1) listed a w:=
 AW.take i (fw ops i) ho hd (U6 ⟨b,λw _=>by unfold U9;rw[k];dsimp only;rw[hx];rfl⟩) g f e h
theorem AG.cw(i:Nat){R:Uv->Ut->Prop}(l:J.p w->UK P f args w (Ret R))(hR:∀e w',J.p w->R e w'->J.p w')(h:∀e w',R e w'->AW P ops Q p r J fuel (listed.setIfInBounds i true) (a.put d e) w')(ho:ops[i]? = some o:=by(simp only[Vm,Vf,Vl])<;>rfl)(hd:o.dst=d:=by rfl)(g:V5 o (yielded ops a.tmps)=true:=by kernel_rfl)(hx:(U9 a.eval o).run P w=.ok (.enter f args) w:=by kernel_rfl)(j:U7 .any ops listed=[i]:=by kernel_rfl):AW P ops Q p r J (fuel+1) listed a w:=λb=>by
 subst hd;exact anyS.step ho j λK c=>by
  rw[yCk g];unfold VT;rw[hx,WU];refine(l b).mono ?_;rintro e w' ⟨v,rfl,k⟩;exact c.out _ _ (U2 (hR v w' b k)) (h v w' k (hR v w' b k))
end
variable {P:Nat}[NeZero P]{N:Nat}[NeZero N]
theorem SR(a b c d e f g h i j k:Uv)(w:Ut):(Vh 28 (.agg #[a,b,c,d,e,f,g,h,i,j,k])).run prog w=.ok (jZ w.heap.size) (w.alloc (.cells #[a,b,c,d,e,f,g,h,i,j,k] 28)):=kR
theorem Uh(a b c d:Nat)(w:Ut):(VF 24 4 #[(0,r33 a),(1,r33 b),(2,r33 c),(3,r33 d)]).run prog w=.ok (sZ w.heap.size 4 4) (w.alloc (.cells #[r33 a,r33 b,r33 c,r33 d] 23)):=kR
abbrev pqP(k n:Nat)(B:Nat->Bs):Pq:=⟨λQ W=>PtL Q W k n B,λ_ _ _ k h=>h.keep k,λ_ _ _ m h=>h.mono2 m⟩
def four(a b c d:Bs)(j:Nat):Bs:=if j=0 then a else if j=1 then b else if j=2 then c else d
def AE{α:Type}(a b c:α)(j:Nat):α:=if j=0 then a else if j=1 then b else c
theorem Em{Q:Nat->Prop}{W':Ut}{k a b c:Nat}{x y z:Bs}(h:ElQ Q 32 W' (r32 a) x)(f:ElQ Q 32 W' (r32 b) y)(e:ElQ Q 32 W' (r32 c) z)(d:Row W' k [r32 a,r32 b,r32 c]):Args W' (some (aZ k)) 3 (AE x y z):=λ_=>by
 refine⟨_,rfl,d.1,λj g=>?_⟩;match j,g with
 | 0,_=>exact⟨_,d.2.1 0 _ rfl,h.argS⟩
 | 1,_=>exact⟨_,d.2.1 1 _ rfl,f.argS⟩
 | 2,_=>exact⟨_,d.2.1 2 _ rfl,e.argS⟩
 | j+3,h=>omega
theorem Ip{Q:Nat->Prop}{W:Ut}{k n c:Nat}{a:Nat->Nat}(h:SLq Q W (sZ k n c) n a)(i:Nat)(b:i<n):W.rangeAt k (0+4*i) (wn (a i)):=by
 obtain⟨g,o,d,e,-,-,-,h⟩:=h;cases e
 exact h i b
theorem EJ{Q:Nat->Prop}{W:Ut}{k n:Nat}(h:PtL Q W k n B)(i:Nat)(b:i<n):W.rangeAt k (0+33*i) (aA (B i)):=by
 rw[UF];exact(h i b).2.2
abbrev Z3:List Uv:=[.slice none 0 0,.slice none 0 0,.slice none 0 0]
theorem Oq{x:Uv}(h:x∈Z3):x=.slice none 0 0:=by
 simp only[V0,U1,or_false,or_self]at h;exact h
def pLw(v:Uv)(r:Nat)(L:Bs):S1:=⟨λx w=>x=v/\r<w.heap.size/\Holds encB w r 0 L,λ_ _ _ k h=>⟨h.1,Uz h.2.1 k.size,Holds.below h.2.2 k h.2.1⟩⟩
theorem row_ne{b:List (Nat × List Uv)}{k r:Nat}{c t:List Uv}(h:(b.map (·.1)).Nodup)(i j:Nat)(o:i≠j)(v:b[i]? = some (k,c))(p:b[j]? = some (r,t)):k≠r:=λe=>by
 have g:=yAd.1 h;obtain⟨q,m⟩:=UG.1 v;obtain⟨s,u⟩:=UG.1 p;have l:(b.map (·.1))[i]'(by simpa using q)=k:=by rw[Xi,m]
 have f:(b.map (·.1))[j]'(by simpa using s)=r:=by rw[Xi,u]
 rcases VV i j with d|n
 ·exact g i j _ _ d (l.trans (e.trans f.symm))
 ·exact g j i _ _ (by omega) (f.trans (e.symm.trans l.symm))
theorem Lt(C:Fld P)(O:Ord N)(k:∀r:EC.Pt P,On r->mul N r=none)(g:IsP N)(q:18446744073709551616<=N){n t:Nat}(i:Wd n t)(p:Rp)(ok:p.Ok)(V:Bs)(f c d:OnP P)(o:V=wP f)(b:p.c=wP c)(m:p.d=wP d)(tau tt x y z:Fin N)(s:p.u=tau.val)(j:p.t=tt.val)(w:Ut)(X:Bs)(l:X=wP ((aD C k).cm (hPV C) (gPG C) (tt-rgD n y z) tau))(u:X=wP ((aD C k).ad ((aD C k).ad ((aD C k).ac (z*z) f) ((aD C k).ac x c)) ((aD C k).ac (x*x) d))):
 UK prog 122 #[.agg p.l.toArray,pvl V,iZ n,nv x.val,nv y.val,nv z.val] w (rZ w λe w'=>e=.bool true):=by
 refine(Lu C O k g q i p ok V f c d o b m tau tt x y z s j w X X l u).mono ?_;rintro e w' ⟨v,rfl,b,rfl⟩;refine⟨_,rfl,b,?_⟩;generalize X=Y;simp only[decide_true]
theorem uIl:(prog.underlying 202).map (·.isRow)=some true:=kR
theorem iIl(k c t a b:Nat):(prog.info? 202).map (·.size)=some (inL k c t a b).length:=kR
theorem Ou(C:Fld P)(O:Ord N)(d:∀r:EC.Pt P,On r->mul N r=none)(hP:IsP N)(hN:18446744073709551616<=N){n t:Nat}(hw:Wd n t)(p:Rp)(ok:p.Ok)(V:Bs)(Vp PA PS P1 P2:OnP P)(hV:V=wP Vp)(hA:p.a=wP PA)(hS:p.s=wP PS)(Z:p.c=wP P1)(h2:p.d=wP P2)(tau mu tt x y z wf:Fin N)(hu:p.u=tau.val)(hm:p.m=mu.val)(ht:p.t=tt.val)(L3 L6 L8:Bs)(l3:L3=bgL V n p.a p.s)(ey:y=kO N L3)(ez:z=kO N (bB L3))(l6:L6=mdL (bB (bB L3)) p.c p.d)(ex:x=kO N L6)(l8:L8=enL (bB L6) p.u p.m p.t)(ew:wf=kO N L8)
 (Lb Rb:Nat->Bs) (Lp Tp:Nat->OnP P) (dh:∀j,Lb j=wP (Lp j)) (ea:∀j,Rb j=wP (Tp j)) (a b:Fin N) (u:OnP P) (eu:u=(aD C d).ac wf (uPt C)) (v0:Md.Vs Bs (OnP P)) (d6:v0.s=bB L8) (eo:v0.g=gPt C ⟨#[108,101,102,116]⟩) (em:v0.h=λi=>(aD C d).ac (pwF (ivF y) i) (gPt C ⟨#[114,105,103,104,116]⟩ i)) (ee:v0.p=(aD C d).ad ((aD C d).ad ((aD C d).ad ((aD C d).ad PA ((aD C d).ac x PS)) ((aD C d).ac (-1) ((aD C d).ac mu (gPG C)))) ((aD C d).ad ((aD C d).dt (λ_=>-z) v0.g n) ((aD C d).dt (rgS y z) v0.h n))) ((aD C d).ac tt u)) (X:Bs) (hX:X=wP ((aD C d).cm (hPV C) (gPG C) (tt-rgD n y z) tau)) (hY:X=wP ((aD C d).ad ((aD C d).ad ((aD C d).ac (z*z) Vp) ((aD C d).ac x P1)) ((aD C d).ac (x*x) P2))) (ef:(aD C d).KY u a b ((aD C d).vst (chF N) ivF t Lp Tp v0 t)) (f:Nat) (e:Uv) (w:Ut) (c4:RgA f t p Lb Rb (bx a.val) (bx b.val) e w) :
 UK prog 54 #[pvl V,iZ n,e] w (rZ w λe w'=>e=.bool true):=by
 obtain⟨g1,g2,g3,g4,g5,g6,g7,vL,vR,vA,vB,rfl,hT,hL,hR,eA,eB⟩:=c4.ex;have bp:=hw.2.2;have sV:V.size=33:=by rw[hV];exact aT _
 have h0:=λ(W:Ut) (B:kZ w W)=>(Kq.of_below B:Kq (λ_=>True) w W)
 have HT:=mk1 (λ(W:Ut) (B:kZ w W)=>hT.keep (h0 W B));have h5:∀X:OnP P,∃q,rd P (wP X)=some q:=λX=>by obtain⟨q,hq,-⟩:=zM C X.2;exact⟨q,hq⟩
 have bv:=mk1 (λ(W:Ut) (B:kZ w W)=>LX C O bp W (hL.keep (h0 W B) λg R=>B.block g (hL.lt R).2) (hR.keep (h0 W B) λg R=>B.block g (hR.lt R).2) (eA.keep (h0 W B)) (eB.keep (h0 W B)) (λj _=>by rw[dh];exact h5 _) (λj _=>by rw[ea];exact h5 _) (kL O a.isLt) (kL O b.isLt));obtain⟨vV,h7⟩:=hE (pvl V);obtain⟨k3,d8⟩:=hE (w.heap.size);obtain⟨w1,cp⟩:=hE (w.alloc (.cells (aA V).toArray 103));obtain⟨k5,dw⟩:=hE (w1.heap.size);obtain⟨w2,c9⟩:=hE (w1.alloc (.cells [r33 g1,r33 g2,r33 g3,r33 g4,r32 g5,r32 g6,r32 g7,vL,vR,vA,vB].toArray 28));have K2:=mk1 (((Mp.start w).new d8 cp).new dw c9);obtain⟨ve,ds⟩:=hE (U5 #[r33 g1,r33 g2,r33 g3,r33 g4,r32 g5,r32 g6,r32 g7,vL,vR,vA,vB]);have B1:Hid ((Vh 103 vV).run prog w=.ok (jZ k3) w1):=by rw[<-h7.out,<-cp.out,<-d8.out];exact rL sV w
 have B2:Hid ((Vh 28 ve).run prog w1=.ok (jZ k5) w2):=by rw[<-ds.out,<-c9.out,<-dw.out];exact SR _ _ _ _ _ _ _ _ _ _ _ w1
 have ci:=mk1 (hw.hv w2);rw[h7.out,ds.out];clear c4 hT hL hR eA eB h0;go_enter func54,ntmps54;refine UC ?_;refine PW.begin ?_;refine PW.ns B1.out ?_;refine PW.ns B2.out ?_;refine PW.va (.bool false) ?_;refine PW.dn ?_;refine UC ?_;refine PW.begin ?_;refine PW.mv ?_;refine PW.gi ci.out λw3 bm=>?_
 have K3:=mk1 (K2.grow bm);clear K2 bm ci B1 B2;refine PW.mv ?_;refine PW.va (iZ t) ?_;refine PW.va (.bool true) ?_;refine PW.va (iZ t) ?_;refine PW.va (.bool true) ?_;refine PW.dn ?_;refine UC ?_;refine PW.begin ?_;refine PW.va (oZ k5 7) ?_;refine PW.ro (cs:=[vL,vR,vA,vB]) (rnB (xs:=[r33 g1,r33 g2,r33 g3,r33 g4,r32 g5,r32 g6,r32 g7]) (K3.at_ 1).2.1 rfl) (Hid.mk' rfl) Li Ji ?_;refine PW.mv ?_;refine PW.ca (bv w3 K3.bl) ?_;rintro e w4 ⟨c8,kl,kr,rfl,cq,e0⟩;simp only[UR,Uu,Uw,Ux];have A:=mk1 ((K3.gets c8 (pqP kl t Lb) cq).has (pqP kr t Rb) (e0.mono2 λg _ R=>K3.nk g R));clear bv c8 cq e0 K3;obtain⟨vI,hvI⟩:=hE (U5 (inL kl kr t a.val b.val).toArray);rw[hvI.out];refine PW.mv ?_;refine PW.va vI ?_;refine PW.va (.bool true) ?_;obtain⟨k9,db⟩:=hE (w4.heap.size);obtain⟨w5,bo⟩:=hE (w4.alloc (.cells inZ.toArray 202));obtain⟨w6,bn⟩:=hE (w5.setCells k9 0 (inL kl kr t a.val b.val));have D:=mk1 (A.new db bo);have K6:=mk1 (D.put 2 bn);refine PW.al db bo ?_;refine PW.st bn hvI (D.th 2) (iIl _ _ _ _ _) (Fb _ _ _ _ _) ?_;refine PW.va (.bool true) ?_;clear A D;refine PW.dn ?_;have I:=HT w6 K6.bl;obtain⟨kb,e9⟩:=hE (w6.heap.size);obtain⟨w7,dp⟩:=hE (w6.alloc (.cells [r33 g1,r33 g2,r33 g3,r33 g4].toArray 23));have h9:Hid ((VF 24 4 #[(0,r33 g1),(1,r33 g2),(2,r33 g3),(3,r33 g4)]).run prog w6=.ok (sZ kb 4 4) w7):=by rw[<-dp.out,<-e9.out];exact Uh _ _ _ _ w6
 have F7:=aN e9 dp;have de:Hid (UK prog 120 #[.func (.func 53) #[] #[],sZ kb 4 4] w7 (rZ w7 λe w'=>∃K,e=.tuple #[sZ K 4 4,.bool true]/\PtL (w7.heap.size<=·) w' K 4 (four p.a p.s p.c p.d))):=by
  have kq:Kq (λ_=>True) w6 w7:=Kq.of_below F7.1;refine(Kl C kb 4 4 (by decide) (four p.a p.s p.c p.d) w7 F7.2.1 λj T=>?_).mono ?_
  ·match j,T with
   | 0,_=>exact⟨_,F7.2.2.1 0 _ rfl,(I.a.keep kq).arg⟩
   | 1,_=>exact⟨_,F7.2.2.1 1 _ rfl,(I.b.keep kq).arg⟩
   | 2,_=>exact⟨_,F7.2.2.1 2 _ rfl,(I.c.keep kq).arg⟩
   | 3,_=>exact⟨_,F7.2.2.1 3 _ rfl,(I.d.keep kq).arg⟩
  ·rintro e w' ⟨v,rfl,B,h⟩;rcases h with⟨-,K,rfl,s,l,k3⟩|⟨⟨j,T,f⟩,-⟩
   ·exact⟨_,rfl,B,K,rfl,λj T=>⟨s,l,k3 j T⟩⟩
   ·exfalso;have:∃q,rd P (four p.a p.s p.c p.d j)=some q:=by
     match j,T with
     | 0,_=>rw[show four p.a p.s p.c p.d 0=p.a from rfl,hA];exact h5 _
     | 1,_=>rw[show four p.a p.s p.c p.d 1=p.s from rfl,hS];exact h5 _
     | 2,_=>rw[show four p.a p.s p.c p.d 2=p.c from rfl,Z];exact h5 _
     | 3,_=>rw[show four p.a p.s p.c p.d 3=p.d from rfl,h2];exact h5 _
    obtain⟨q,hq⟩:=this;rw[hq]at f;cases f
 refine UC ?_;refine PW.begin ?_;refine PW.va (jZ k5) ?_;refine PW.ce ((K6.at_ 1).2.1 0 _ rfl) uBy ?_;refine PW.va (oZ k5 1) ?_;refine PW.ce ((K6.at_ 1).2.1 1 _ rfl) uBy ?_;refine PW.va (oZ k5 2) ?_;refine PW.ce ((K6.at_ 1).2.1 2 _ rfl) uBy ?_;refine PW.va (oZ k5 3) ?_;refine PW.ce ((K6.at_ 1).2.1 3 _ rfl) uBy ?_;refine PW.ns h9.out ?_;refine PW.ca de.out ?_;rintro e w8 ⟨dk,A,rfl,d0⟩;simp only[UR,Uu,Uw,Ux];have K8:=mk1 ((K6.grow F7.1).gets dk (pqP A 4 (four p.a p.s p.c p.d)) d0);clear de h9 F7 I K6 dk d0;refine PW.mv ?_;refine PW.va (sZ A 4 4) ?_;refine PW.va (.bool true) ?_;refine PW.va (sZ A 4 4) ?_;refine PW.va (.bool true) ?_;refine PW.dn ?_;have I:=HT w8 K8.bl;obtain⟨kc,cu⟩:=hE (w8.heap.size);obtain⟨w9,dm⟩:=hE (w8.alloc (.cells [r32 g5,r32 g6,r32 g7].toArray 23));have h9:Hid ((VF 24 3 #[(0,r32 g5),(1,r32 g6),(2,r32 g7)]).run prog w8=.ok (sZ kc 3 3) w9):=by rw[<-dm.out,<-cu.out];exact SN _ _ _ w8
 have F9:=aN cu dm;have hz:Kq (λ_=>True) w8 w9:=Kq.of_below F9.1;have bu:=mk1 (Ki O 3 3 (by decide) (some (aZ kc)) (AE (bx p.u) (bx p.m) (bx p.t)) (AE p.u p.m p.t) w9 (Em (I.e.keep hz) (I.f.keep hz) (I.g.keep hz) F9.2) λj T=>by
  match j,T with
  | 0,_=>exact kL O (by rw[hu];exact tau.isLt)
  | 1,_=>exact kL O (by rw[hm];exact mu.isLt)
  | 2,_=>exact kL O (by rw[ht];exact tt.isLt)
  | j+3,h=>omega)
 refine UC ?_;refine PW.begin ?_;refine PW.va (oZ k5 4) ?_;refine PW.ce ((K8.at_ 1).2.1 4 _ rfl) uBy ?_;refine PW.va (oZ k5 5) ?_;refine PW.ce ((K8.at_ 1).2.1 5 _ rfl) uBy ?_;refine PW.va (oZ k5 6) ?_;refine PW.ce ((K8.at_ 1).2.1 6 _ rfl) uBy ?_;refine PW.ns h9.out ?_;refine PW.ca bu.out ?_;rintro e hc ⟨kw,D,rfl,bk⟩;simp only[UR,Uu,Uw,Ux];have M:=mk1 ((K8.grow F9.1).gets kw (pqS (sZ D 3 3) 3 (AE p.u p.m p.t)) bk);clear bu h9 F9 I K8 kw bk hz;refine PW.mv ?_;refine PW.va (sZ D 3 3) ?_;refine PW.va (.bool true) ?_;refine PW.va (sZ D 3 3) ?_;refine PW.va (.bool true) ?_;refine PW.dn ?_;refine UC ?_;go_wp2_with fail
 rename_i Q' K hKK
 refine hG (pvl p.a) λva e8=>?_
 refine hG (pvl p.s) λvs dy=>?_
 refine hG (pvl p.c) λvc d4=>?_
 refine hG (pvl p.d) λvd cx=>?_
 refine hG (nv p.u) λvu e4=>?_
 refine hG (nv p.m) λvm cf=>?_
 refine hG (nv p.t) λvt cy=>?_
 refine hG (U5 p.l.toArray) λvp E=>?_
 refine hG hc.heap.size λb0 B=>?_
 have hy:∀ {W},kZ hc W->b0<=W.heap.size:=λh=>B.out ▸ h.size
 refine(gwL [pE (sZ A 4 4),pE (.pointer (some ⟨A,0+33*0,none⟩)),pE va,pE (sZ A 4 4),pE (.pointer (some ⟨A,0+33*1,none⟩)),pE vs,pE (sZ A 4 4),pE (.pointer (some ⟨A,0+33*2,none⟩)),pE vc,pE (sZ A 4 4),pE (.pointer (some ⟨A,0+33*3,none⟩)),pE vd,pE (sZ D 3 3),pE (.pointer (some ⟨D,0+4*0,none⟩)),pE vu,pE (sZ D 3 3),pE (.pointer (some ⟨D,0+4*1,none⟩)),pE vm,pE (sZ D 3 3),pE (.pointer (some ⟨D,0+4*2,none⟩)),pE vt,pE vp,RG.pN b0 rp0.l] (λW=>kZ hc W) (λW W' B h=>h.trans (B.mono h.size))).tail2 23 kR kR kR ⟨
  gO 11 (sZ A 4 4),
  DU 0 67 (sZ A 4 4) (.pointer (some ⟨A,0+33*0,none⟩)) (Vj 200 (sZ A 4 4) (iZ ((0:Nat):Int))) (atP A 0 4 4 0 (by decide)) (λx W h=>h) (λ_=>rfl),
  gLr (cs:=aA p.a) 1 68 (λW s=>EJ ((M.grow s).get 2) 0 (by decide)) uCP (by rw[aB ok.a];exact iCP) (hR:=λ_=>e8.out),
  gO 11 (sZ A 4 4),
  DU 3 70 (sZ A 4 4) (.pointer (some ⟨A,0+33*1,none⟩)) (Vj 200 (sZ A 4 4) (iZ ((1:Nat):Int))) (atP A 0 4 4 1 (by decide)) (λx W h=>h) (λ_=>rfl),
  gLr (cs:=aA p.s) 4 71 (λW s=>EJ ((M.grow s).get 2) 1 (by decide)) uCP (by rw[aB ok.s];exact iCP) (hR:=λ_=>dy.out),
  gO 11 (sZ A 4 4),
  DU 6 73 (sZ A 4 4) (.pointer (some ⟨A,0+33*2,none⟩)) (Vj 200 (sZ A 4 4) (iZ ((2:Nat):Int))) (atP A 0 4 4 2 (by decide)) (λx W h=>h) (λ_=>rfl),
  gLr (cs:=aA p.c) 7 74 (λW s=>EJ ((M.grow s).get 2) 2 (by decide)) uCP (by rw[aB ok.c];exact iCP) (hR:=λ_=>d4.out),
  gO 11 (sZ A 4 4),
  DU 9 76 (sZ A 4 4) (.pointer (some ⟨A,0+33*3,none⟩)) (Vj 200 (sZ A 4 4) (iZ ((3:Nat):Int))) (atP A 0 4 4 3 (by decide)) (λx W h=>h) (λ_=>rfl),
  gLr (cs:=aA p.d) 10 77 (λW s=>EJ ((M.grow s).get 2) 3 (by decide)) uCP (by rw[aB ok.d];exact iCP) (hR:=λ_=>cx.out),
  gO 13 (sZ D 3 3),
  DU 12 79 (sZ D 3 3) (.pointer (some ⟨D,0+4*0,none⟩)) (Vj 124 (sZ D 3 3) (iZ ((0:Nat):Int))) (lH D 0 3 3 0 (by decide)) (λx W h=>h) (λ_=>rfl),
  gLr (cs:=wn p.u) 13 80 (λW s=>Ip ((M.grow s).get 3) 0 (by decide)) u40 i40 (hR:=λ_=>e4.out),
  gO 13 (sZ D 3 3),
  DU 15 82 (sZ D 3 3) (.pointer (some ⟨D,0+4*1,none⟩)) (Vj 124 (sZ D 3 3) (iZ ((1:Nat):Int))) (lH D 0 3 3 1 (by decide)) (λx W h=>h) (λ_=>rfl),
  gLr (cs:=wn p.m) 16 83 (λW s=>Ip ((M.grow s).get 3) 1 (by decide)) u40 i40 (hR:=λ_=>cf.out),
  gO 13 (sZ D 3 3),
  DU 18 85 (sZ D 3 3) (.pointer (some ⟨D,0+4*2,none⟩)) (Vj 124 (sZ D 3 3) (iZ ((2:Nat):Int))) (lH D 0 3 3 2 (by decide)) (λx W h=>h) (λ_=>rfl),
  gLr (cs:=wn p.t) 19 86 (λW s=>Ip ((M.grow s).get 3) 2 (by decide)) u40 i40 (hR:=λ_=>cy.out),
  Jp [(69,va),(72,vs),(75,vc),(78,vd),(81,vu),(84,vm),(87,vt)] vp (λa W f=>⟨f.n 2 69 kR kR,f.n 5 72 kR kR,f.n 8 75 kR kR,f.n 11 78 kR kR,f.n 14 81 kR kR,f.n 17 84 kR kR,f.n 20 87 kR kR,yCm⟩) (λ_=>rfl) (λW=>by rw[<-e8.out,<-dy.out,<-d4.out,<-cx.out,<-e4.out,<-cf.out,<-cy.out,<-E.out];unfold pvl Rp.l;rw[dH ok.a,dH ok.s,dH ok.c,dH ok.d];kernel_rfl),
  xO rp0.l 137 (λW W' h s=>⟨_,rfl,hy s,h⟩),yCm⟩ ⟨rfl,rfl,rfl,Uy _,λ_ _=>rfl⟩ ?_
 intro Y7 ei hR s;have e5:Y7 21=vp:=hR 21 dC;obtain⟨bd,co,c5,c6⟩:=hR 22 dC;have b6:=mk1 (M.add s c6 (by rw[B.out];exact c5));dsimp only[bU,VO,Xn,Xo];simp only[UR,Uu,Uw,Ux];rw[e5,co];clear hR s e5 co M B hy c5 c6;refine hG (ei.setCells bd 0 p.l) λhr ke=>?_
 have lR:p.l.length=rp0.l.length:=(Rp.len ok).trans (Rp.len IB).symm;have k4:=mk1 (b6.put 3 ke rfl lR);have h8:(prog.info? 137).map (·.size)=some p.l.length:=by rw[Rp.len ok];exact iRd
 refine PW.st ke E (b6.th 3 rfl lR) h8 (Rp.one p) ?_;clear b6;refine PW.dn ?_;refine hKK _ _ ?_;clear hKK K;refine hG (bB (bB L3)) λL5 bc=>?_
 have s5:L5.size=32:=by rw[<-bc.out];exact bE _ _
 refine hG (nv y.val) λvy S=>?_
 refine hG (nv z.val) λvz h4=>?_
 have ku:n<=64:=by rw[hw.1];exact UE (VN (by decide) hw.2.2) (by decide)
 have kv:Hid (UK prog 68 #[vp,vV,iZ n] hr (rZ hr λe w'=>∃r,e=.tuple #[lgV r,vy,vz]/\hr.heap.size<=r/\Holds encB w' r 0 L5)):=by
  have h:=N5 O p ok V sV n (by omega) hr;rw[<-l3,mO O hP ey,mO O hP ez,bc.out,E.out,h7.out,S.out,h4.out]at h;exact h
 have iV:(prog.info? 103).map (·.size)=some (aA V).length:=by rw[aB sV];exact iCP
 refine UC ?_;refine PW.begin ?_;refine PW.ro (k4.at_ 3).2.1 E uRd h8 ?_;refine PW.ro (k4.at_ 0).2.1 h7 uCP iV ?_;refine PW.mv ?_;refine PW.ca kv.out ?_;rintro e d5 ⟨km,r,rfl,lr,Hr⟩;simp only[UR,Uu,Uw,Ux];have d2:=mk1 (k4.add km (pW Hr (Holds.lt Hr (by rw[s5];decide))) lr);clear kv km lr Hr k4;refine PW.mv ?_;refine PW.va (lgV r) ?_;refine PW.va vy ?_;refine PW.va vz ?_;refine hG (d5.heap.size) λbh ko=>?_
 refine hG (d5.alloc (.cells [.pointer none].toArray 145)) λbi kk=>?_
 refine hG bi.heap.size λbf kz=>?_
 refine hG (bi.alloc (.cells (RG.z 4).toArray 49)) λct kn=>?_
 refine hG ct.heap.size λcv ka=>?_
 refine hG (ct.alloc (.cells (RG.z 4).toArray 49)) λed kg=>?_
 refine hG (ed.setCells bh 0 [jZ r]) λeh kf=>?_
 refine hG (eh.setCells bf 0 (wn y.val)) λet kt=>?_
 refine hG (et.setCells cv 0 (wn z.val)) λbg kp=>?_
 have b4:=mk1 (((d2.new ko kk).new kz kn).new ka kg);have b2:=mk1 (b4.put 5 kf);have be:=mk1 (b2.put 6 kt);have ha:=mk1 (be.put 7 kp);refine PW.al ko kk ?_;refine PW.al kz kn ?_;refine PW.al ka kg ?_;refine PW.st kf (Hid.mk' rfl) (b4.th 5) iLg kR ?_;refine PW.st kt S (b2.th 6) i40 (aM _) ?_;refine PW.st kp h4 (be.th 7) i40 (aM _) ?_;clear d2 b4 b2 be;refine PW.dn ?_;refine hG (bB L6) λL7 b8=>?_
 have s7:L7.size=32:=by rw[<-b8.out];exact bE _ _
 refine hG (nv x.val) λvx h6=>?_
 have ky:Hid (UK prog 76 #[vp,lgV r] bg (Ret λe w'=>SP.Only r 0 32 bg w'/\Holds encB w' r 0 L7/\e=vx)):=by
  have h:=NF O p ok r L5 bg (ha.log 4) s5;rw[show mdL L5 p.c p.d=L6 by rw[<-bc.out];exact l6.symm,mO O hP ex,b8.out,E.out,h6.out]at h;exact h
 refine UC ?_;refine PW.begin ?_;refine PW.ro (ha.at_ 3).2.1 E uRd h8 ?_;refine PW.ro (cs:=[jZ r]) (ha.at_ 5).2.1 (Hid.mk' rfl) uLg iLg ?_;refine PW.ca ky.out ?_;rintro e c0 ⟨ki,kh,br⟩;obtain rfl:=br.symm;simp only[UR,Uu,Uw,Ux];have cg:=mk1 (ha.say 4 ki kh);clear ky ki kh ha;refine hG (c0.heap.size) λdz kd=>?_
 refine hG (c0.alloc (.cells (RG.z 4).toArray 49)) λej kx=>?_
 refine hG (ej.setCells dz 0 (wn x.val)) λL kj=>?_
 have bb:=mk1 (cg.new kd kx);have F:=mk1 (bb.put 8 kj);refine PW.al kd kx ?_;refine PW.st kj h6 (bb.th 8) i40 (aM _) ?_;clear cg bb;refine PW.dn ?_;refine hG (bB L8) λL9 k0=>?_
 have s9:L9.size=32:=by rw[<-k0.out];exact bE _ _
 refine hG (nv wf.val) λvw da=>?_
 have b5:0<n:=by rw[hw.1];exact X6 (by decide)
 obtain⟨Q2,hQ⟩:=F.out.q;have nr:∀g,Q2 g->g≠r:=F.ne hQ 4;have hs:=(F.at_ 4).1;have l:Hid (∀ {k:Nat}{c:List Uv}{W:Ut},Row L k c->k≠r->SP.Only r 0 32 L W->Row W k c):=λZ h2 h3=>aV Z h3.size (h3.block _ Z.1 h2)
 have nk:Hid ((bf≠r/\bd≠r)/\bh≠r):=by
  have h:=F.out.nd;simp only[List.map_cons,List.map_nil,List.nodup_cons,V0,U1,or_false,not_or]at h;exact⟨⟨λe=>h.2.2.2.2.1.2.1 e.symm,h.2.2.2.1.1⟩,λe=>h.2.2.2.2.1.1 e.symm⟩
 have bs:=nJ C hP.1 n;have eb:Hid (∀W,Holds encB W r 0 L7->UK prog 81 #[vp,lgV r] W (Ret λe w'=>SP.Only r 0 32 W w'/\Holds encB w' r 0 L9/\e=vw)):=λW hH=>by
  have h:=NV O p ok (by rw[hu];exact tau.isLt) (by rw[hm];exact mu.isLt) (by rw[ht];exact tt.isLt) r L7 W hH s7;rw[show enL L7 p.u p.m p.t=L8 by rw[<-b8.out];exact l8.symm,mO O hP ew,k0.out,E.out,da.out]at h;exact h
 have bt:Hid (∀W v,(∀g,W.heap.size<=g->Q2 g)->GRq Q2 W v n (gGT P) (hGT P) (uGT P)->UK prog 84 #[v,vy,vw] W (rZ W λe w'=>GRq Q2 w' e n (gGT P) (oQ N y.val (hGT P)) ((uGT P).map (tmT N wf.val)))):=λW v Z h2=>by
  rw[<-S.out,<-da.out];exact H9 O n b5 ku (gGT P) (hGT P) (uGT P) (λi G=>⟨(bs.tl i G).ok,by show 1<=512;decide⟩) (mQ C hP.1).ok (by show 1<=512;decide) y.val wf.val y.isLt wf.isLt v W Z h2
 refine hG L.heap.size λb0 B=>?_
 have hy:∀ {W},SP.Only r 0 32 L W->b0<=W.heap.size:=λh=>B.out ▸ h.size
 have Gk:Hid (∀ {W W':Ut}{v:Uv}{G H U},SP.Only r 0 32 W W'->GRq Q2 W v n G H U->GRq Q2 W' v n G H U):=λhO h=>h.keep ⟨hO.size,λg R hl=>hO.block g hl (nr g R)⟩
 have rb:r<b0:=by rw[<-B.out];exact hs
 have he:Hid (∀ {W:Ut},SP.Only r 0 32 L W->∀g,W.heap.size<=g->Q2 g):=λh g R=>F.nkq hQ g (UE h.size R)
 refine UC ?_;refine(gwL [pE (iZ n),pR Q2 n (gGT P) (hGT P) (uGT P),pE vy,pE vp,pE (lgV r),pLw vw r L9,pR Q2 n (gGT P) (oQ N y.val (hGT P)) ((uGT P).map (tmT N wf.val)),pX b0 Z3] (λW=>SP.Only r 0 32 L W) (λ_ _ B h=>h.trans (SP.Only.of_below B rfl (Uz hs h.size)))).tailL 5 (λW W'=>SP.Only r 0 32 W W') (λW=>r<W.heap.size/\Holds encB W r 0 L7) 8 (λj v W W' T hO h=>by
  match j,T with
  | 0,_=>exact h
  | 1,_=>exact Gk.out hO h
  | 2,_=>exact h
  | 3,_=>exact h
  | 4,_=>exact h
  | 5,T=>exact(T rfl).elim
  | 6,_=>exact Gk.out hO h
  | 7,_=>exact Mn hO rb h
  | j+8,_=>exact h) (λW W' hO h=>SP.Only.trans h hO) (λW W' B h=>⟨Uz h.1 B.size,Holds.below h.2 B h.1⟩) kR kR kR ⟨
  DN (gO 1 (iZ n)),
  DN (oW 0 100 62 (λx=>#[x]) (λx W e1 s=>by
   obtain rfl:x=iZ n:=e1;refine(xP (P:=P) C n (by omega) W).mono ?_;rintro e W' ⟨J,rfl,Z,h2⟩;exact⟨_,rfl,Z,h2.mono (he.out s)⟩)),
  DN (gLo (cs:=wn y.val) 17 (λW s=>(l.out (F.at_ 6) nk.1.1 s).2.1) u40 i40 (hR:=λ_=>S.out)),
  DN (gLo (cs:=p.l) 15 (λW s=>(l.out (F.at_ 3) nk.1.2 s).2.1) uRd h8 (hR:=λ_=>E.out)),
  DN (gLo (cs:=[jZ r]) 16 (λW s=>(l.out (F.at_ 5) nk.2 s).2.1) uLg iLg),
  TT (λa W f s=>⟨[(103,vp),(104,lgV r)],81,#[vp,lgV r],⟨f.n 3 103 kR kR,f.n 4 104 kR kR,yCm⟩,kR,by
   refine(eb.out W s.2).mono ?_;rintro e W' ⟨J,rfl,Z,h2,h3⟩;exact⟨_,rfl,Z,h3,Uz s.1 Z.size,h2⟩⟩),
  DN (rF 1 101 2 102 5 105 84 (λx y z=>#[x,y,z]) (λx u z W e1 e2 e3 s=>by
   obtain rfl:u=vy:=e2;obtain rfl:z=vw:=e3.1;exact bt.out W x (he.out s) e1)),
  DN (RZ b0 Z3 133 (λW s=>hy s) (λv W h=>h)),yCm⟩ (SP.Only.of_below (⟨rfl,rfl,rfl,Uy _,λ_ _=>rfl⟩:kZ L L.drew) rfl hs) ⟨hs,F.log 4⟩ ?_
 intro Y b9 hR s;have cn:GRq Q2 b9 (Y 6) n (gGT P) (oQ N y.val (hGT P)) ((uGT P).map (tmT N wf.val)):=hR 6 dC;have bq:Holds encB b9 r 0 L9:=(hR 5 dC).2.2;obtain⟨bl,e7,d9,ec,dl⟩:=hR 7 dC;obtain⟨dd,bj⟩:=F.out.sayAdd 4 s bq ec (by rw[B.out];exact d9);have gl:∀j,j<n->0<(gGT P j).length:=λj T=>by rw[(uY C hP.1 n).len j T];decide
 have hl:∀j,j<n->0<(oQ N y.val (hGT P) j).length:=λj T=>by rw[(Ju C d hP y n).len j T];decide
 have k7:=(cn.offX b5 gl hl (by rw[US];show 0<1;decide) (λi x hx=>Oq (dl i x hx))).mono λg R=>bj g (by rw[hQ.out];exact R.1) R.2
 obtain⟨q1,q2,q3,e6,ck,du,bz⟩:=k7.ex;obtain⟨ga,oa,ca,e1⟩:∃g o c,q1=.slice (some ⟨g,o,none⟩) n c:=by obtain⟨g,o,c,h,-⟩:=ck;exact⟨g,o,c,h⟩
 obtain⟨gb,ob,cb,e2⟩:∃g o c,q2=.slice (some ⟨g,o,none⟩) n c:=by obtain⟨g,o,c,h,-⟩:=du;exact⟨g,o,c,h⟩
 obtain⟨gc,mc,cc,e3⟩:∃g m c,q3=sZ g m c:=by obtain⟨g,c,h,-⟩:=bz;exact⟨g,_,c,h⟩
 subst e1 e2 e3;rw[e6]at k7;have b7:=mk1 (dd.has (pqG _ n (gGT P) (oQ N y.val (hGT P)) ((uGT P).map (tmT N wf.val))) k7);dsimp only[bU,VO,Xn,Xo];simp only[UR,Uu,Uw,Ux];rw[e6,e7];clear hR s cn k7 ck du bz bq ec dl d9 e6 e7 F dd bj B hy rb he Gk l eb bt nk hs nr hQ Q2 bs;refine hG (b9.setCells bl 0 [.slice (some ⟨ga,oa,none⟩) n ca,.slice (some ⟨gb,ob,none⟩) n cb,sZ gc mc cc]) λhk k8=>?_
 have f:=mk1 (b7.put 9 k8);refine PW.st k8 (Hid.mk' rfl) (b7.th 9) iGr kR ?_;clear b7;refine PW.dn ?_;have en:Hid (∀W,UK prog 122 #[vp,vV,iZ n,vx,vy,vz] W (rZ W λe w'=>e=.bool true)):=λW=>by
  rw[<-E.out,<-h7.out,<-h6.out,<-S.out,<-h4.out];exact Lt C O d hP hN hw p ok V Vp P1 P2 hV Z h2 tau tt x y z hu ht W X hX hY
 have G1:Gd N n 1 (gGT P) v0.g:=by rw[eo];exact uY C hP.1 n
 have G2:Gd N n 1 (oQ N y.val (hGT P)) v0.h:=by rw[em];exact Ju C d hP y n
 have G3:Tl N ((uGT P).map (tmT N wf.val)) u:=by rw[eu];exact(mQ C hP.1).tm C d wf
 have G4:((uGT P).map (tmT N wf.val)).length=1:=by rw[US];rfl
 obtain⟨lh,cd,es,df⟩:=RV C O d hP hN b5 ku p ok PA PS hA hS mu tt x y z hm ht (gGT P) (oQ N y.val (hGT P)) ((uGT P).map (tmT N wf.val)) v0.g v0.h u G1 G2 G3 G4;rw[<-ee]at cd;rw[E.out,h6.out,S.out,h4.out]at df;refine hG (U5 #[.slice (some ⟨ga,oa,none⟩) n ca,.slice (some ⟨gb,ob,none⟩) n cb,sZ gc mc cc]) λvg ba=>?_
 rw[ba.out]at f;have cz:=(f.at_ 4).1;refine UC ?_;have l:Hid (∀ {k:Nat}{c:List Uv}{W:Ut},Row hk k c->k≠r->SP.Only r 0 32 hk W->Row W k c):=λZ h2 h3=>aV Z h3.size (h3.block _ Z.1 h2)
 have dq:bd≠r:=(row_ne f.out.nd 3 4 (by decide) rfl rfl)
 have n3:k3≠r:=(row_ne f.out.nd 0 4 (by decide) rfl rfl)
 have n9:k9≠r:=(row_ne f.out.nd 2 4 (by decide) rfl rfl)
 have ek:bh≠r:=(row_ne f.out.nd 5 4 (by decide) rfl rfl)
 have cj:bf≠r:=(row_ne f.out.nd 6 4 (by decide) rfl rfl)
 have d3:cv≠r:=(row_ne f.out.nd 7 4 (by decide) rfl rfl)
 have d7:dz≠r:=(row_ne f.out.nd 8 4 (by decide) rfl rfl)
 have d1:bl≠r:=(row_ne f.out.nd 9 4 (by decide) rfl rfl)
 refine AW.beg 20 20 (Iv.only cz) (SP.Only.of_below (⟨rfl,rfl,rfl,Uy _,λ_ _=>rfl⟩:kZ hk hk.drew) rfl cz) ?_;refine AW.ro 0 (cs:=p.l) (λW h=>(l.out (f.at_ 3) dq h).2.1) E uRd h8 ?_;refine AW.ro 1 (λW h=>(l.out (f.at_ 0) n3 h).2.1) h7 uCP iV ?_;refine AW.mv 2 ?_;refine AW.ro 3 (λW h=>(l.out (f.at_ 8) d7 h).2.1) h6 u40 i40 ?_;refine AW.ro 4 (λW h=>(l.out (f.at_ 6) cj h).2.1) S u40 i40 ?_;refine AW.ro 5 (λW h=>(l.out (f.at_ 7) d3 h).2.1) h4 u40 i40 ?_;refine AW.gi 6 (λ_=>en.out _) λer c7=>?_
 have k6:=mk1 (f.drew.grow c7);refine AW.mv 7 ?_;refine AG.ro 8 (cs:=inL kl kr t a.val b.val) (λW h=>(l.out (f.at_ 2) n9 h).2.1) hvI uIl (iIl _ _ _ _ _) ?_;refine AG.ro 9 (cs:=[jZ r]) (λW h=>(l.out (f.at_ 5) ek h).2.1) (Hid.mk' rfl) uLg iLg ?_;refine AG.ro 10 (cs:=[.slice (some ⟨ga,oa,none⟩) n ca,.slice (some ⟨gb,ob,none⟩) n cb,sZ gc mc cc]) (λW h=>(l.out (f.at_ 9) d1 h).2.1) ba uGr iGr ?_;refine AG.ro 11 (cs:=p.l) (λW h=>(l.out (f.at_ 3) dq h).2.1) E uRd h8 ?_;refine AG.ro 12 (cs:=[.slice (some ⟨ga,oa,none⟩) n ca,.slice (some ⟨gb,ob,none⟩) n cb,sZ gc mc cc]) (λW h=>(l.out (f.at_ 9) d1 h).2.1) ba uGr iGr ?_;refine AG.mv 13 ?_;refine AG.ro 14 (λW h=>(l.out (f.at_ 8) d7 h).2.1) h6 u40 i40 ?_;refine AG.ro 15 (λW h=>(l.out (f.at_ 6) cj h).2.1) S u40 i40 ?_;refine AG.ro 16 (λW h=>(l.out (f.at_ 7) d3 h).2.1) h4 u40 i40 ?_;refine AG.cw 17 (λ_=>df _ vg er (k6.get 4)) (λe w' hJ h=>SP.Only.trans hJ (SP.Only.of_below h.1 rfl (k6.at_ 4).1)) ?_;rintro sv b3 ⟨c3,ep⟩;simp only[UR,Uu,Uw,Ux];have J:=mk1 (k6.grow c3);have eg:Hid (UK prog 123 #[vI,lgV r,vg,sv] b3 (Ret λe w'=>SP.Only r 0 32 b3 w'/\e=.bool true)):=by
  obtain⟨Q,hQ⟩:=J.out.q;have nr:∀g,Q g->g≠r:=J.ne hQ 4;have f0:=(k6.at_ 4).1;rw[<-hvI.out];exact LU C O d hP t bp Lp Tp v0 u (gGT P) (oQ N y.val (hGT P)) ((uGT P).map (tmT N wf.val)) lh (by rw[<-hw.1];exact G1) (by rw[<-hw.1];exact G2) G3 (by rw[G4];decide) (by rw[G4];decide) cd es Lb Rb dh ea r kl kr a b vg sv b3 (by rw[d6,k0.out];exact J.log 4) (by rw[d6,k0.out];exact s9) (PtL.mono2 (J.uO hQ 0) λg _ R=>nr g R) (PtL.mono2 (J.uO hQ 1) λg _ R=>nr g R) (by rw[<-hw.1];exact GRq.mono (J.uO hQ 4) nr) (ep.q.mono λg R=>by omega) true (by simp only[true_iff];exact ef)
 refine AG.cw 18 (λ_=>eg.out) (λe w' hJ h=>SP.Only.trans hJ h.1) ?_;rintro e f1 ⟨dx,rfl⟩;simp only[UR,Uu,Uw,Ux];refine AW.nx 19 (.bool true) ?_;refine AW.nx 20 (.bool true) ?_;refine AW.dn λ_=>?_
 have hF:=J.bl.trans (wX dx J.bl.size (J.rw (r,aA L9) (VQ (i:=4) rfl)).1);go_wp2;go_ret;exact⟨_,rfl,hF,rfl⟩
end
section
open Go.RowKit Go.Sort Go.Deep
variable {P:Nat}[NeZero P]{N:Nat}
def Cor(W:Ut)(k:List (Wv × Nat))(us:List Uv):Prop:=k.length=us.length/\∀(j:Nat) x u,k[j]? = some x->us[j]? = some u->(∃b o,x.1=⟨b,o,none⟩)/\W.cell? x.1=some u
theorem Cor.app{W:Ut}{p1 p2:List (Wv × Nat)}{u1 u2:List Uv}(k:Cor W p1 u1)(d:Cor W p2 u2):Cor W (p1++p2) (u1++u2):=by
 refine⟨by rw[UB,UB,k.1,d.1],λj x u hx b=>?_⟩;by_cases c:j<p1.length
 ·rw[UX c]at hx;rw[UX (by rw[<-k.1];exact c)]at b;exact k.2 j x u hx b
 ·rw[U4 (by omega)]at hx;rw[U4 (by rw[<-k.1];omega),<-k.1]at b;exact d.2 _ x u hx b
theorem Cor.lp{W:Ut}{s:Sv}{b o:Nat}(h:VL W s.q s.n ys)(d:s.n=0\/s.q=some ⟨b,o,none⟩):Cor W (lp b o s.n) ys:=by
 refine⟨by rw[jM,h.len],λj x u hx f=>?_⟩;unfold Go.Proofs.YtdoammpgchejcaaGreat.lp at hx;rw[Vy]at hx;obtain⟨k,g,rfl⟩:=UA.1 hx;have m:j<s.n:=by
  have:=(UG.1 g).1;simpa using this
 have e:j=k:=by
  have:=(UG.1 g).2;simpa using this
 subst e;refine⟨⟨_,_,rfl⟩,?_⟩;rcases h.cells with l|⟨n,p,c,-,i⟩
 ·rw[l]at f;cases f
 ·rcases d with d|d
  ·omega
  ·rw[d]at c;have c:=UP.inj c;injection c with e1 e2 _
   subst e1 e2;exact i j u f
def qX(p:Rg)(b k:List Uv):List Uv:=[p.a.v,p.b.v,p.c.v,p.d.v,p.e.v,p.f.v,p.g.v]++b++k++[p.x.v,p.y.v]
def fO(k b d n c or m:Nat):List (Wv × Nat):=tD k++lp b d n++lp c or m++endP k
theorem MS{W:Ut}{m g l i or:Nat}{p:Rg}{e d:List Uv}(f:W.rangeAt m 0 p.cs)(o:VL W p.l.q p.l.n e)(hR:VL W p.r.q p.r.n d)(q:p.l.n=0\/p.l.q=some ⟨g,l,none⟩)(n:p.r.n=0\/p.r.q=some ⟨i,or,none⟩):
 Cor W (fO m g l p.l.n i or p.r.n) (qX p e d):=by
 refine Cor.app (Cor.app (Cor.app ?_ (Cor.lp o q)) (Cor.lp hR n)) ?_
 ·refine⟨rfl,λj x u hx b=>?_⟩;have c:=f j u;rw[UF]at c;match j,hx,b with
  | 0,hx,b|1,hx,b|2,hx,b|3,hx,b|4,hx,b|5,hx,b|6,hx,b =>
   obtain rfl:=UP.inj hx;exact⟨⟨_,_,rfl⟩,c b⟩
  | k+7,hx,b=>cases hx
 ·refine⟨rfl,λj x u hx b=>?_⟩;match j,hx,b with
  | 0,hx,b =>
   obtain rfl:=UP.inj hx;exact⟨⟨_,_,rfl⟩,by have c:=f 9 u b;rw[UF]at c;exact c⟩
  | 1,hx,b =>
   obtain rfl:=UP.inj hx;exact⟨⟨_,_,rfl⟩,by have c:=f 10 u b;rw[UF]at c;exact c⟩
  | k+2,hx,b=>cases hx
def hZ(n m:Nat):List Nat:=[33,33,33,33,32,32,32]++VG n 33++VG m 33++[32,32]
theorem sJ(e k d n c or m:Nat):(fO e k d n c or m).map (·.2)=hZ n m:=by
 have h:∀b o n,(lp b o n).map (·.2)=VG n 33:=λb o n=>by
  unfold lp;rw[List.map_map];exact List.ext_getElem (by simp) (λi f g=>by simp)
 unfold fO hZ;rw[Wx,Wx,Wx,h,h];rfl
theorem EP(n m:Nat):∀k∈hZ n m,k<=33:=by
 intro k b;unfold hZ at b;simp only[Ww,V0,U1,or_false,List.mem_replicate]at b;omega
theorem kW(n m:Nat):(hZ n m).length=n+m+9:=by
 unfold hZ;simp only[UB,List.length_replicate,Vg,WO];omega
def PtB(W:Ut)(us:List Uv)(BB:List SP.Bs):Prop:=BB.length=us.length/\∀(j:Nat) u b,us[j]? = some u->BB[j]? = some b->Pt W u b
def eW(n:Nat)(BB:List SP.Bs)(i:Nat):SP.Bs:=(BB.take i).foldl (·++·) #[n.toUInt8]
theorem lF(n:Nat)(BB:List SP.Bs)(i:Nat)(b:SP.Bs)(h:BB[i]? = some b):eW n BB (i+1)=eW n BB i++b:=by
 unfold eW;rw[List.take_add_one,h];simp
def mL(n m:Nat)(BB:List SP.Bs):Prop:=n=m/\n<=6/\BB.map Wt=hZ n m
def S8(w:Ut)(n m:Nat)(BB:List SP.Bs)(e:Ending)(W:Ut):Prop:=kZ w W/\((mL n m BB/\∃v,e=.returned (.tuple #[v,iZ 0])/\Pt W v (eW n BB (n+m+9))/\∃g c,v=sZ g (Wt (eW n BB (n+m+9))) c/\Wt (eW n BB (n+m+9))<=c)\/(¬mL n m BB/\e=.returned (.tuple #[.slice none 0 0,iZ 2])))
theorem PuI.cap{w k W:Ut}{f:Nat}{v:Uv}{b:SP.Bs}(h:PuI w k W f e v b):∃g c,v=sZ g (Wt b) c/\Wt b<=c:=by
 rcases id h.ow with⟨j,⟨rfl,-⟩|⟨g,cap,cur,rfl,i,l,d,-⟩⟩
 ·exact absurd rfl h.nn
 ·exact⟨g,cap,rfl,d⟩
theorem PuI.pt{w m W:Ut}{o l:Nat}{v:Uv}{b:SP.Bs}(h:PuI w m W o l v b):Pt W v b:=by
 have k:=h.lt;rcases id h.ow with⟨r,⟨rfl,-⟩|⟨g,cap,cur,rfl,q,n,p,s,t,x⟩⟩
 ·exact absurd rfl h.nn
 ·obtain⟨u,f,e,-,i⟩:=k;injection e with e _ _
  injection e with e
  injection e with e _ _
  subst e;refine⟨_,_,rfl,U2 ⟨g,0,rfl,i,λj d=>?_⟩⟩;have c:=h.ow.cells (g:=g) rfl j (SP.encB b[j]!) (by
   unfold bC;rw[Vy,UI (by simpa using d),Yj,getElem!_pos b j d];simp)
  rw[lI,UF]at c;refine⟨by rw[UF];exact c,?_⟩;simp[Xe,n]
end
end Go.Proofs.YtdoammpgchejcaaGreat
