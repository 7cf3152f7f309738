import Derived.Deep.LoopGhost
import Derived.Deep.RegionHeld3
import Derived.Deep.CutRange
import Derived.Deep.DeepCutAuto
import Derived.Laws.MakeOwn
import Derived.ChangeKeysEq
import Derived.Deep.AppendSrc
import Derived.Lib.AppendZeros
import Derived.LoopN
import Derived.Deep.RegionWith
import Derived.WalkKit
import Derived.Sort.Row
import Derived.Deep.Draws
import Derived.Below
import Derived.Deep.OwnRows
import Derived.Test.YtlofhpkoaljmeaaGreatRows
import Derived.Deep.QuietTactic
import Derived.StillTailTactics
import Derived.BigRegion
import Derived.BigQuiet
import Derived.WalkSpells
import Derived.WalkLawsBesides
import Derived.KernelRfl
import Derived.Lib.LazyBuf
import Derived.Lib.SliceRun
import Derived.Lib.ConvBytes
import Derived.Test.YtlofhpkoaljmeaaGreatat2
set_option linter.unusedVariables false
set_option linter.defProp false
set_option linter.constructorNameAsVariable false
set_option linter.unusedSimpArgs false
set_option maxRecDepth 1000000
set_option maxHeartbeats 4000000
namespace Go.Proofs.YtlofhpkoaljmeaaGreat
open EC NT RG
open _root_.Array renaming append_assoc->yDy,ext->yES,getElem?_append_left->yAK,getElem?_append_right->yBq,getElem?_eq_getElem->Ye,getElem?_map->yDw,getElem?_toList->YI,getElem_append_left->yBz,getElem_append_right->yCK,getElem_replicate->Zp,getElem_toList->yAn,length_toList->X0,map->yER,map_replicate->yDo,replicate->XW,size->ZA,size_append->Ys,size_extract->yAd,size_replicate->X8,size_setIfInBounds->YT,toArray_toList->yBn
open _root_.BitVec renaming eq_of_toNat_eq->yC7,ofInt->yAk,ofInt_natCast->yDe,ofNat->yA6,toNat_ofNat->yB5
open _root_.Bool renaming and_eq_true->XZ
open _root_.Fin renaming ext->yA4,ofNat->Z2,val_mul->yAw
open _root_.Go renaming Addr->Y4,Calls->ZI,TypeId->Yj,Value->XG,World->XF,bodyPost_ret->XR,sizeOf->yCV,size_madeCells->yDs,undef->ZB,wp_block->Zk,wp_cond_false->Yh,wp_cond_true->YH,wp_exit->yBt,wp_loop_ghost->yBL,wp_ret->Zj,wp_seq->XL,wp_skip->Y2
open _root_.Go.Addr renaming add->yBZ,add_mid->yDm
open _root_.Go.Builtin renaming append_->YK,copy_->yAL
open _root_.Go.Exit renaming inBlock->yBc
open _root_.Go.Instr renaming indexAt->YV,makeSlice->yAq
open _root_.Go.IntKind renaming bits->yD7,i64->Yt,signed->yDK,u64->Yy,u8->yBj,wrap->yD6,wrap_u64->ZX
open _root_.Go.IntWalk renaming i64_in->Zv
open _root_.Go.Lib renaming bytesCells->yAT,bytesWorld->yBH,bytesWorld_size->yCl,wpList_append_run->yAs
open _root_.Go.Op renaming eqItems->yDY
open _root_.Go.Result renaming andThen_ok->YE
open _root_.Go.RowKit.Below renaming heap_setCell->yCc,refl->XX
open _root_.Go.Value renaming int->Y1
open _root_.Go.World renaming alloc->yAo,block_lt_of_cell?->yAa,cell?_alloc_new->Yz,cell?_of_block->Yb,cell?_setCell_other->Yc,cell?_setCell_same->Zf,cell?_setCells_out->yCR,freeze->yBQ,frozen?_alloc_new->Zz,frozen?_of_block->Y6,frozen?_setCell->YX,frozen?_setCells->yC3,setCell->yAV,size_alloc->XS
open _root_.Int renaming emod_eq_of_lt->yDV,natCast_ediv->yBX,natCast_mul->yAx,natCast_pow->yCU,toNat_natCast->yBW
open _root_.List renaming cons->yEf,forall_mem_cons->yDk,getElem?_eq_some_iff->XT,getElem?_map->YC,getElem?_toArray->Yp,getElem_map->yAj,length->yEy,length_cons->YA,length_map->X7,length_replicate->Z0,mem_cons_of_mem->Yx,mem_cons_self->YL,mem_map->YD,mem_range->Y9,not_mem_nil->Yf,range->YB,replicate->YR,size_toArray->YJ,take_of_length_le->yC9
open _root_.Nat renaming add_assoc->ZL,add_mul->yAB,add_sub_cancel_left->ZN,add_zero->yAi,le_add_right->yBU,le_refl->XH,le_trans->XN,lt_of_lt_of_le->XI,lt_succ_self->yB2,min_le_left->yCS,min_le_right->yCM,mod_eq_of_lt->Ya,mod_lt->Zi,mul_comm->YN,mul_le_mul->ZP,mul_le_mul_left->yAf,mul_mod->yAz,mul_one->yAe,mul_succ->yA1,ne_of_gt->Zs,pos_of_neZero->yAM,pow_two->yEF,sub_self->yBm,sub_sub->yA5,zero_add->XQ,zero_le->Zq
open _root_.Option renaming isSome_iff_exists->YP,map_eq_some_iff->XK,map_some->yAy,some->X5
open _root_.Or renaming inl->Yk,inr->Yd
open _root_.Prod renaming mk->Zl
open _root_.UInt8 renaming ofNat->XY,toNat_ofNat'->yBr
open Go.Proofs.Tryz
open Go.RowKit Go.Sort Go.Deep
section
variable {P:Nat}[NeZero P]{N:Nat}
def VS{P:Nat}[NeZero P](w:XF):(Instr.alloc 211 true (.tuple #[])).run prog w=.ok (jZ w.heap.size) (w.alloc (.cells (tw ((0,0,0):T3 P)).toArray 211)):=by
 show _=Result.ok _ (w.alloc (.cells (ws (0:Fin P)++(ws (0:Fin P)++ws (0:Fin P))).toArray 211));rw[<-Bm];kernel_rfl
def UE(w:XF):(binOp .neq 213 (.int .i8 0) (.int .i8 0)).run prog w=.ok fZ w:=kR
def UD{d:Int}(h:¬d=0)(w:XF):(binOp .neq 213 (.int .i8 d) (.int .i8 0)).run prog w=.ok tZ w:=by
 go_simp
def sub1'{q:Nat}(k:q<1000)(w:XF):(binOp .sub 3 (iZ q) (iZ 1)).run prog w=.ok (iZ ((q:Int)-1)) w:=Ee oM oM w
def geq0'{i:Nat}(w:XF):(binOp .geq 3 (iZ i) (iZ 0)).run prog w=.ok tZ w:=by
 go_simp
def JD(F:Fld P)(N:Nat)(hN:N<=512)(ns:Nat->Nat)(xs ys:Nat->Fin P)(ko:∀i,i<N->ns i<top)(l o:Nat)(w:XF)(kz:l<w.heap.size)(bi:o<w.heap.size)
 (hn:∀i,i<N->w.rangeAt l (4*i) (wn (ns i))) (V:∀i,i<N->w.rangeAt o (8*i) (ws (xs i)++ws (ys i))) :
 cZ 66 #[sZ l N N,sZ o N N] w (rZ w λe w'=>∃s,s=jA ns xs ys N 257/\e=pv (s.1*(inv s.2.2*inv s.2.2)) (s.2.1*(inv s.2.2*inv s.2.2)*inv s.2.2)):=by
 obtain⟨C,b5,bk⟩:=UI (N:=N) hN;have S:∀(i:Nat) (c2:List XG),fc (xs i) (ys i) (fM (ns i)) (cc ns xs ys C i) (353*i) 8=c2->cc ns xs ys C (i+1)=c2:=λi c2 h=>h
 obtain⟨i,-⟩:∃i:Nat,i=0:=⟨_,rfl⟩
 obtain⟨q,-⟩:∃i:Nat,i=0:=⟨_,rfl⟩
 obtain⟨d,-⟩:∃i:Int,i=0:=⟨_,rfl⟩
 obtain⟨C2,-⟩:∃c:List XG,c=C:=⟨_,rfl⟩
 obtain⟨s,-⟩:∃s:T3 P,s=(0,0,0):=⟨_,rfl⟩
 obtain⟨s2,-⟩:∃s:T3 P,s=(0,0,0):=⟨_,rfl⟩
 obtain⟨s3,-⟩:∃s:T3 P,s=(0,0,0):=⟨_,rfl⟩
 obtain⟨s4,-⟩:∃s:T3 P,s=(0,0,0):=⟨_,rfl⟩
 go_enter func66,ntmps66;refine QO (v0:=(sZ l N N)) (v1:=(sZ o N N)) (n:=62) kR kR kR kR ?_;intro a0 bh f0 f1;have kw:=RG.St.begin w;have M0:RG.M w w.heap.size [] 62 [] [] [(0,.v (sZ l N N)),(1,.v (sZ o N N))] a0 _:=⟨kw,bh,⟨f0,f1,yE5⟩⟩
 repeat apply XL
 refine M0.T [.m 0] [(0,RG.z 8)] [] [RG.z 8] [0,1,4] ⟨mk 0 131,yE5⟩ ?_;intro j1 a1 w1 M1;repeat apply XL
 refine M1.t [.x 11 [] (sZ l N N),.x 12 [(11,0)] (iZ N),⟨some 13,[(12,1)],.s 1 N N,.make 1⟩,.s 5 [(13,2)] (.s 1 N N)] [(2,C)] [] [RG.z 8,C] [(0,.v (sZ l N N)),(1,.v (sZ o N N)),(4,.p 0 0),(5,.s 1 N N)] ⟨st,gJ rfl (t:=11) (.v (sZ l N N)) (iZ N) rfl sx (λa w=>kR) (λμ w=>kR),nG 1 rfl rfl (T:=208) (E:=216) (t1:=12) (t2:=12) (n:=N) rfl rfl sx sx bk,st,yE5⟩ ?_;intro j2 a2 w2 M2;repeat apply XL
 refine M2.U [.s (.s 1 N N),.x (iZ N),.x (iZ 0)] [0,1,4,5,15,16] ⟨st,gJ rfl (t:=14) (.s 1 N N) (iZ N) rfl sx (λa w=>kR) (λμ w=>kR),st,yE5⟩ ?_;intro a3 w3 M3;have kf:a3.tmps[0]? = some (sZ l N N):=M3.at (s:=(.v (sZ l N N)));have kd:a3.tmps[1]? = some (sZ o N N):=M3.at (s:=(.v (sZ o N N)));have kk:a3.tmps[4]? = some (jZ j1):=M3.at (s:=(.p 0 0));have km:a3.tmps[5]? = some (sZ j2 N N):=M3.at (s:=(.s 1 N N));have k3:a3.tmps[15]? = some (iZ N):=M3.at (s:=(.v (iZ N)));have k2:a3.tmps[16]? = some (iZ 0):=M3.at (s:=(.v (iZ 0)));repeat apply XL
 refine Zk<|yBL (λm a wr=>∃i,i+m=N/\Sl a 62/\a.tmps[0]? = some (sZ l N N)/\a.tmps[1]? = some (sZ o N N)/\a.tmps[4]? = some (jZ j1)/\a.tmps[5]? = some (sZ j2 N N)/\a.tmps[15]? = some (iZ N)/\a.tmps[16]? = some (iZ i)/\RG.St w w.heap.size [] [[uZ 0,uZ 0,uZ 0,uZ 0,uZ 0,uZ 0,uZ 0,uZ 0],cc ns xs ys C i] [j1,j2] wr) N ⟨0,oM,M3.sl,kf,kd,kk,km,k3,k2,M3.st⟩ ?_
 intro m a wr;rintro⟨i,ky,sl,p0,p1,p4,p5,kh,kj,Q⟩;generalize j1=A at p4 Q;generalize j2=u at p5 Q;obtain⟨C,ki⟩:=vH (cc ns xs ys C i);have Y:=Qq (ns:=ns) (xs:=xs) (ys:=ys) b5 i oM;rw[ki]at Q Y;by_cases p:i<N
 .obtain⟨C2,x⟩:=vH (fc (xs i) (ys i) (fM (ns i)) C (353*i) 8);have B:353*i+353<=C.length:=by rw[Y.1];omega
  have L:C2.length=C.length:=x ▸ (GX B 8 (XH _)).len;have D:∀(k:Nat) (w:XF),w.there k 0 C.length->w.rangeAt k 0 C->cZ 112 #[oZ k (353*i),nv (ns i),pv (xs i) (ys i)] w (Ret λr w'=>PutTo k C.length C2 w w'/\r=.tuple #[]):=λk w M hr=>x ▸ LR F (ko i p) (x:=(xs i)) (y:=(ys i)) (C0:=C) (b:=k) (off:=(353*i)) B (w:=w) M hr
  have U:w.rangeAt l (0+4*i) (wn (ns i)):=by rw[XQ];exact hn i p
  have R:w.rangeAt o (0+8*i) (ws (xs i)++ws (ys i)):=by rw[XQ];exact V i p
  have O:RG.M w w.heap.size [] 62 [RG.z 8,C] [A,u] [(0,.v (sZ l N N)),(1,.v (sZ o N N)),(4,.p 0 0),(5,.s 1 N N),(15,.v (iZ N)),(16,.v (iZ i))] a _:=⟨Q,sl,⟨p0,p1,p4,p5,kh,kj,yE5⟩⟩
  repeat apply XL
  refine O.U [.x tZ] [0,1,4,5,15,16,17] ⟨aO rfl .lss (T:=3) 3 (t1:=16) (t2:=15) (v1:=(iZ i)) (v2:=(iZ N)) (v:=tZ) rfl rfl sx sx (λw=>kR) (iD p),yE5⟩ ?_;intro c5 Z J;repeat apply XL
  refine YH J.ev ?_;refine Y2<|XL<|Zk ?_
  repeat apply XL
  refine J.U [.x (iZ i),.x (iZ i)] [0,1,4,5,6,15,16] ⟨st,st,yE5⟩ ?_;intro X W T;repeat apply XL
  refine T.dr kR [.s 19 [] (.s 1 N N),.x 20 [] (iZ i),.s 21 [(19,0),(20,1)] (.p 1 (353*i)),.x 22 [] (sZ l N N),.x 23 [] (iZ i),.x 24 [(22,3),(23,4)] (oZ l (0+4*i)),.x 25 [(24,5)] (nv (ns i)),.x 26 [] (sZ o N N),.x 27 [] (iZ i),.x 28 [(26,7),(27,8)] (oZ o (0+8*i)),.x 29 [(28,9)] (pv (xs i) (ys i)),⟨some 30,[(21,2),(25,6),(29,10)],.v (.tuple #[]),.put 1⟩] [] [(1,11,C2)] [RG.z 8,C2] [(0,.v (sZ l N N)),(1,.v (sZ o N N)),(4,.p 0 0),(5,.s 1 N N),(15,.v (iZ N)),(16,.v (iZ i))] kR (congrArg (λn=>[n]) L) ⟨st,st,aY rfl 208 (t:=19) (u:=20) rfl (.s 1 N N) (iv:=(iZ i)) sx sx (λμ w=>Hu (i:=i) p (w:=w)),st,st,aY rfl 127 (t:=22) (u:=23) rfl (.v (sZ l N N)) (iv:=(iZ i)) sx sx (λμ w=>VK (i:=i) p (w:=w)),eK rfl (k:=l) (off:=(0+4*i)) kz Yf (T:=42) (t:=24) rfl (cs:=(wn (ns i))) rfl sx U u85 i85,st,st,aY rfl 138 (t:=26) (u:=27) rfl (.v (sZ o N N)) (iv:=(iZ i)) sx sx (λμ w=>Qw (i:=i) p (w:=w)),eK rfl (k:=o) (off:=(0+8*i)) bi Yf (T:=131) (t:=28) rfl (cs:=(ws (xs i)++ws (ys i))) rfl sx R iM i109,As 1 rfl rfl 112 (t1:=21) (t2:=25) (j:=29) (.p 1 (353*i)) (v2:=(nv (ns i))) (g:=(pv (xs i) (ys i))) (.tuple #[]) rfl (λa w=>kR) sx sx sx (λμ w M hr=>D (μ 1) w M hr),yE5⟩ ?_;intro bt bz K;repeat apply XL
  refine K.U [.x (iZ ((i+1:Nat):Int)),.x (iZ ((i+1:Nat):Int))] [0,1,4,5,15,16] ⟨aN rfl .add (T:=3) 3 (t1:=16) (v1:=(iZ i)) (v2:=(iZ 1)) (v:=(iZ ((i+1:Nat):Int))) rfl rfl sx (λw=>kR) (wM (a:=i) (b:=1) oM oM),st,yE5⟩ ?_;intro g bs f;have E:g.tmps[0]? = some (sZ l N N):=f.at (s:=(.v (sZ l N N)));have H:g.tmps[1]? = some (sZ o N N):=f.at (s:=(.v (sZ o N N)));have I:g.tmps[4]? = some (jZ A):=f.at (s:=(.p 0 0));have G:g.tmps[5]? = some (sZ u N N):=f.at (s:=(.s 1 N N));have y:g.tmps[15]? = some (iZ N):=f.at (s:=(.v (iZ N)));have z:g.tmps[16]? = some (iZ ((i+1:Nat):Int)):=f.at (s:=(.v (iZ ((i+1:Nat):Int))));show ∃n',_;refine⟨m-1,oM,i+1,oM,f.sl,E,H,I,G,y,z,?_⟩;rw[S i C2 (by rw[ki];exact x)];exact f.st
 .have ba:i=N:=oM;rw[ba]at Y;have be:=Y.2;have b7:RG.M w w.heap.size [] 62 [RG.z 8,C] [A,u] [(0,.v (sZ l N N)),(1,.v (sZ o N N)),(4,.p 0 0),(5,.s 1 N N),(15,.v (iZ N)),(16,.v (iZ i))] a _:=⟨Q,sl,⟨p0,p1,p4,p5,kh,kj,yE5⟩⟩
  repeat apply XL
  refine b7.U [.x fZ] [4,5,17] ⟨aO rfl .lss (T:=3) 3 (t1:=16) (t2:=15) (v1:=(iZ i)) (v2:=(iZ N)) (v:=fZ) rfl rfl sx sx (λw=>kR) (oJ p),yE5⟩ ?_;intro c3 bu kb;repeat apply XL
  refine Yh kb.ev ?_;apply yBt;dsimp only[Exit.then,yBc];rw[yE3 rfl];repeat apply XL
  refine kb.T [.m 2] [(0,tw ((0,0,0):T3 P))] [] [RG.z 8,C,tw ((0,0,0):T3 P)] [4,5,7] ⟨rD 2 rfl rfl rfl (T:=211) rfl VS,yE5⟩ ?_;intro h3 c0 c4 ku;repeat apply XL
  refine ku.U [.x (iZ 256)] [4,5,7,8] ⟨st,yE5⟩ ?_;intro Z bm I;have hy:Z.tmps[4]? = some (jZ A):=I.at (s:=(.p 0 0));have hc:Z.tmps[5]? = some (sZ u N N):=I.at (s:=(.s 1 N N));have hp:Z.tmps[7]? = some (jZ h3):=I.at (s:=(.p 2 0));have k5:Z.tmps[8]? = some (iZ 256):=I.at (s:=(.v (iZ 256)));repeat apply XL
  apply Zk;refine yBL (λm a wr=>m<=257/\Sl a 62/\a.tmps[4]? = some (jZ A)/\a.tmps[5]? = some (sZ u N N)/\a.tmps[7]? = some (jZ h3)/\a.tmps[8]? = some (iZ ((m:Int)-1))/\RG.St w w.heap.size [] [[uZ 0,uZ 0,uZ 0,uZ 0,uZ 0,uZ 0,uZ 0,uZ 0],C,tw (jA ns xs ys N (257-m))] [A,u,h3] wr) 257 ⟨XH _,I.sl,hy,hc,hp,k5,?_⟩ ?_
  .rw[yBm,jA];exact I.st
  intro m b wr;rintro⟨hm,kg,q4,q5,q7,q8,E⟩;generalize h3=O at q7 E;by_cases hz:m=0
  .subst hz;rw[show 257-0=257 from rfl]at E;obtain⟨s,M⟩:=vH (jA ns xs ys N 257);rw[M]at E;have x:RG.M w w.heap.size [] 62 [RG.z 8,C,tw s] [A,u,O] [(4,.p 0 0),(5,.s 1 N N),(7,.p 2 0),(8,.v (iZ (-1)))] b _:=⟨E,kg,⟨q4,q5,q7,q8,yE5⟩⟩
   repeat apply XL
   refine x.U [.x (iZ (-1)),.x fZ] [4,7,33] ⟨st,st,yE5⟩ ?_;intro D B g;repeat apply XL
   refine Yh g.ev ?_;apply yBt;dsimp only[Exit.then,yBc];rw[yE3 rfl];repeat apply XL
   refine g.T [.x (tv s),.c (pv (s.1*(inv s.2.2*inv s.2.2)) (s.2.1*(inv s.2.2*inv s.2.2)*inv s.2.2)),.u 0] [] [(0,2,ws (s.1*(inv s.2.2*inv s.2.2))++(ws (s.2.1*(inv s.2.2*inv s.2.2)*inv s.2.2)))] [ws (s.1*(inv s.2.2*inv s.2.2))++(ws (s.2.1*(inv s.2.2*inv s.2.2)*inv s.2.2)),C,tw s] [4] ⟨ld iW i117,cl (Uq F s),RG.pt i109,yE5⟩ ?_;intro y z f;refine Zj<|XR (v:=pv (s.1*(inv s.2.2*inv s.2.2)) (s.2.1*(inv s.2.2*inv s.2.2)*inv s.2.2)) (aH f.st (t:=4) (T:=131) rfl (b:=0) rfl (f.at (s:=(.p 0 0))) iM i109) f.sl.defers ?_
   exact⟨_,rfl,f.st.bel.below,s,M.symm,rfl⟩
  .obtain⟨q,rfl⟩:∃q,m=q+1:=⟨m-1,oM⟩
   have hq:q<257:=oM;replace q8:b.tmps[8]? = some (iZ q):=by rw[q8];congr 2;omega
   obtain⟨s,M⟩:=vH (jA ns xs ys N (257-(q+1)));rw[M]at E;obtain⟨s2,h4⟩:=vH (twJ s);have bf:=h4 ▸ PP F s;have K:jA ns xs ys N (257-q)=inn ns xs ys s2 q N:=by
    rw[show 257-q=257-(q+1)+1 by omega];show inn ns xs ys (twJ (jA ns xs ys N (257-(q+1)))) (256-(257-(q+1))) N=_;rw[M,h4,show 256-(257-(q+1))=q by omega]
   have kx:RG.M w w.heap.size [] 62 [RG.z 8,C,tw s] [A,u,O] [(4,.p 0 0),(5,.s 1 N N),(7,.p 2 0),(8,.v (iZ q))] b _:=⟨E,kg,⟨q4,q5,q7,q8,yE5⟩⟩
   repeat apply XL
   refine kx.U [.x (iZ q),.x tZ] [4,5,7,8,33] ⟨st,aN rfl .geq (T:=3) 3 (t1:=32) (v1:=(iZ q)) (v2:=(iZ 0)) (v:=tZ) rfl rfl sx (λw=>kR) (geq0' (i:=q)),yE5⟩ ?_;intro br bq kc;repeat apply XL
   refine YH kc.ev ?_;refine Y2<|XL<|Zk ?_
   repeat apply XL
   refine kc.T [.x (tv s),.c (tv s2),.u 2] [] [(2,2,tw s2)] [RG.z 8,C,tw s2] [4,5,7,8] ⟨ld iW i117,cl bf,RG.pt i117,yE5⟩ ?_;intro bn bv bj;repeat apply XL
   refine bj.U [.s (.s 1 N N),.x (iZ N),.x (iZ 0)] [4,5,7,8,39,40] ⟨st,gJ rfl (t:=38) (.s 1 N N) (iZ N) rfl sx (λa w=>kR) (λμ w=>kR),st,yE5⟩ ?_;intro G bp z;have hw:G.tmps[4]? = some (jZ A):=z.at (s:=(.p 0 0));have hg:G.tmps[5]? = some (sZ u N N):=z.at (s:=(.s 1 N N));have hl:G.tmps[7]? = some (jZ O):=z.at (s:=(.p 2 0));have he:G.tmps[8]? = some (iZ q):=z.at (s:=(.v (iZ q)));have T:G.tmps[39]? = some (iZ N):=z.at (s:=(.v (iZ N)));have h0:G.tmps[40]? = some (iZ 0):=z.at (s:=(.v (iZ 0)));repeat apply XL
   refine Zk<|yBL (λm a wr=>∃i,i+m=N/\Sl a 62/\a.tmps[4]? = some (jZ A)/\a.tmps[5]? = some (sZ u N N)/\a.tmps[7]? = some (jZ O)/\a.tmps[8]? = some (iZ q)/\a.tmps[39]? = some (iZ N)/\a.tmps[40]? = some (iZ i)/\RG.St w w.heap.size [] [[uZ 0,uZ 0,uZ 0,uZ 0,uZ 0,uZ 0,uZ 0,uZ 0],C,tw (inn ns xs ys s2 q i)] [A,u,O] wr) N ⟨0,oM,z.sl,hw,hg,hl,he,T,h0,z.st⟩ ?_
   intro m' c wr;rintro⟨i,ky,k6,r4,r5,r7,r8,k8,k4,X⟩;obtain⟨s,D⟩:=vH (inn ns xs ys s2 q i);rw[D]at X;by_cases p:i<N
   .obtain⟨h1,h2⟩:=be i p;obtain⟨d,V⟩:=vH (fM (ns i) q);have y:=V ▸ h1 q hq;have ke:C≠[]:=by intro h;rw[h]at y;simp at y
    have f:inn ns xs ys s2 q (i+1)=if d=0 then s else plJ s (tmJ (xs i) (ys i) d):=by rw[<-D,<-V];rfl
    by_cases L:d=0
    .rw[yE3 L]at f;rw[L]at y;have k0:RG.M w w.heap.size [] 62 [RG.z 8,C,tw s] [A,u,O] [(4,.p 0 0),(5,.s 1 N N),(7,.p 2 0),(8,.v (iZ q)),(39,.v (iZ N)),(40,.v (iZ i))] c _:=⟨X,k6,⟨r4,r5,r7,r8,k8,k4,yE5⟩⟩
     repeat apply XL
     refine k0.U [.x tZ] [4,5,7,8,39,40,41] ⟨aO rfl .lss (T:=3) 3 (t1:=40) (t2:=39) (v1:=(iZ i)) (v2:=(iZ N)) (v:=tZ) rfl rfl sx sx (λw=>kR) (iD p),yE5⟩ ?_;intro b8 b6 R;repeat apply XL
     refine YH R.ev ?_;refine Y2<|XL<|Zk ?_
     repeat apply XL
     refine R.U [.x (iZ i),.x (iZ i)] [4,5,7,8,9,39,40] ⟨st,st,yE5⟩ ?_;intro b9 b2 k1;repeat apply XL
     refine k1.U [.s (.s 1 N N),.x (iZ i),.x (iZ q),.s (.p 1 (353*i)),.s (.p 1 ((353*i)+96)),.s (.p 1 (((353*i)+96)+q)),.x (.int .i8 0),.x (.int .i8 0)] [4,5,7,8,10,39,40] ⟨st,st,st,aY rfl 208 (t:=43) (u:=44) rfl (.s 1 N N) (iv:=(iZ i)) sx sx (λμ w=>Hu (i:=i) p (w:=w)),st,aY rfl 214 (t:=47) (u:=45) rfl (.p 1 ((353*i)+96)) (iv:=(iZ q)) sx sx (λμ w=>MD _ _ (i:=q) hq w),zY rfl (b:=1) (off:=(((353*i)+96)+q)) rfl rfl kR (T:=213) (t:=48) rfl (v:=(.int .i8 0)) rfl sx y TY,st,yE5⟩ ?_;intro bd b4 hb;repeat apply XL
     refine hb.U [.x (.int .i8 0),.x fZ] [4,5,7,8,39,40,51] ⟨st,aN rfl .neq (T:=213) 213 (t1:=50) (v1:=(.int .i8 0)) (v2:=(.int .i8 0)) (v:=fZ) rfl rfl sx (λw=>kR) UE,yE5⟩ ?_;intro b3 bc J;repeat apply XL
     refine Yh J.ev ?_;apply Y2;repeat apply XL
     refine J.U [.x (iZ ((i+1:Nat):Int)),.x (iZ ((i+1:Nat):Int))] [4,5,7,8,39,40] ⟨aN rfl .add (T:=3) 3 (t1:=40) (v1:=(iZ i)) (v2:=(iZ 1)) (v:=(iZ ((i+1:Nat):Int))) rfl rfl sx (λw=>kR) (wM (a:=i) (b:=1) oM oM),st,yE5⟩ ?_;intro B kv g;have U:B.tmps[4]? = some (jZ A):=g.at (s:=(.p 0 0));have W:B.tmps[5]? = some (sZ u N N):=g.at (s:=(.s 1 N N));have k7:B.tmps[7]? = some (jZ O):=g.at (s:=(.p 2 0));have k9:B.tmps[8]? = some (iZ q):=g.at (s:=(.v (iZ q)));have x:B.tmps[39]? = some (iZ N):=g.at (s:=(.v (iZ N)));have H:B.tmps[40]? = some (iZ ((i+1:Nat):Int)):=g.at (s:=(.v (iZ ((i+1:Nat):Int))));show ∃n',_;exact⟨m'-1,oM,i+1,oM,g.sl,U,W,k7,k9,x,H,by rw[f];exact g.st⟩
    .rw[yE4 L]at f;have h7:d%2=1/\-15<=d/\d<=15:=by
      obtain⟨_,_,-,x⟩:=B9 (show ns i<2^256 from ko i p);rcases x.ho q with h|h
      .exact absurd (V ▸ h) L
      .exact V ▸ h
     obtain⟨s3,h5⟩:=vH (tmJ (xs i) (ys i) d);obtain⟨s4,h6⟩:=vH (plJ s s3);have bl:=h6 ▸ PY F s s3;have kp:∀(k:Nat) (w:XF),k<w.heap.size->w.rangeAt k 0 C->cZ 115 #[oZ k (353*i),.int .i8 d] w (rZ w λr w'=>r=tv s3):=λk w hu hr =>
      h5 ▸ NA F (b:=k) (o:=(353*i)) (x:=(xs i)) (y:=(ys i)) h7.1 h7.2 (w:=w) hu (λU x=>tP hr (λj H=>by rw[yAi];exact h2 U j x (by rw[cJ]at H;exact H)))
     rw[h5,h6]at f;have k0:RG.M w w.heap.size [] 62 [RG.z 8,C,tw s] [A,u,O] [(4,.p 0 0),(5,.s 1 N N),(7,.p 2 0),(8,.v (iZ q)),(39,.v (iZ N)),(40,.v (iZ i))] c _:=⟨X,k6,⟨r4,r5,r7,r8,k8,k4,yE5⟩⟩
     repeat apply XL
     refine k0.U [.x tZ] [4,5,7,8,39,40,41] ⟨aO rfl .lss (T:=3) 3 (t1:=40) (t2:=39) (v1:=(iZ i)) (v2:=(iZ N)) (v:=tZ) rfl rfl sx sx (λw=>kR) (iD p),yE5⟩ ?_;intro b8 b6 R;repeat apply XL
     refine YH R.ev ?_;refine Y2<|XL<|Zk ?_
     repeat apply XL
     refine R.U [.x (iZ i),.x (iZ i)] [4,5,7,8,9,39,40] ⟨st,st,yE5⟩ ?_;intro b9 b2 k1;repeat apply XL
     refine k1.U [.s (.s 1 N N),.x (iZ i),.x (iZ q),.s (.p 1 (353*i)),.s (.p 1 ((353*i)+96)),.s (.p 1 (((353*i)+96)+q)),.x (.int .i8 d),.x (.int .i8 d)] [4,5,7,8,9,10,39,40] ⟨st,st,st,aY rfl 208 (t:=43) (u:=44) rfl (.s 1 N N) (iv:=(iZ i)) sx sx (λμ w=>Hu (i:=i) p (w:=w)),st,aY rfl 214 (t:=47) (u:=45) rfl (.p 1 ((353*i)+96)) (iv:=(iZ q)) sx sx (λμ w=>MD _ _ (i:=q) hq w),zY rfl (b:=1) (off:=(((353*i)+96)+q)) rfl rfl kR (T:=213) (t:=48) rfl (v:=(.int .i8 d)) rfl sx y TY,st,yE5⟩ ?_;intro bd b4 hb;repeat apply XL
     refine hb.U [.x (.int .i8 d),.x tZ] [4,5,7,8,9,10,39,40,51] ⟨st,aN rfl .neq (T:=213) 213 (t1:=50) (v1:=(.int .i8 d)) (v2:=(.int .i8 0)) (v:=tZ) rfl rfl sx (λw=>kR) (UD L),yE5⟩ ?_;intro b3 bc J;repeat apply XL
     refine YH J.ev ?_;repeat apply XL
     refine J.D [.x (tv s),.s (.s 1 N N),.x (iZ i),.s (.p 1 (353*i)),.x (.int .i8 d),.c (tv s3),.c (tv s4),.u 2] [] [(2,7,tw s4)] [RG.z 8,C,tw s4] [4,5,7,8,39,40] ⟨ld iW i117,st,st,aY rfl 208 (t:=53) (u:=54) rfl (.s 1 N N) (iv:=(iZ i)) sx sx (λμ w=>Hu (i:=i) p (w:=w)),st,DC rfl 1 rfl rfl kR ke 115 (t1:=55) (t2:=56) (.p 1 (353*i)) (v2:=(.int .i8 d)) (tv s3) rfl (λa w=>kR) sx sx (λμ w hu hr=>kp (μ 1) w hu hr),cl bl,RG.pt i117,yE5⟩ ?_;intro B kv g;repeat apply XL
     refine g.U [.x (iZ ((i+1:Nat):Int)),.x (iZ ((i+1:Nat):Int))] [4,5,7,8,39,40] ⟨aN rfl .add (T:=3) 3 (t1:=40) (v1:=(iZ i)) (v2:=(iZ 1)) (v:=(iZ ((i+1:Nat):Int))) rfl rfl sx (λw=>kR) (wM (a:=i) (b:=1) oM oM),st,yE5⟩ ?_;intro H bo x;have hk:H.tmps[4]? = some (jZ A):=x.at (s:=(.p 0 0));have h9:H.tmps[5]? = some (sZ u N N):=x.at (s:=(.s 1 N N));have hs:H.tmps[7]? = some (jZ O):=x.at (s:=(.p 2 0));have h8:H.tmps[8]? = some (iZ q):=x.at (s:=(.v (iZ q)));have W:H.tmps[39]? = some (iZ N):=x.at (s:=(.v (iZ N)));have U:H.tmps[40]? = some (iZ ((i+1:Nat):Int)):=x.at (s:=(.v (iZ ((i+1:Nat):Int))));show ∃n',_;exact⟨m'-1,oM,i+1,oM,x.sl,hk,h9,hs,h8,W,U,by rw[f];exact x.st⟩
   .have J:i=N:=oM;rw[J]at D;rw[D]at K;have R:RG.M w w.heap.size [] 62 [RG.z 8,C,tw s] [A,u,O] [(4,.p 0 0),(5,.s 1 N N),(7,.p 2 0),(8,.v (iZ q)),(39,.v (iZ N)),(40,.v (iZ i))] c _:=⟨X,k6,⟨r4,r5,r7,r8,k8,k4,yE5⟩⟩
    repeat apply XL
    refine R.U [.x fZ] [4,5,7,8,41] ⟨aO rfl .lss (T:=3) 3 (t1:=40) (t2:=39) (v1:=(iZ i)) (v2:=(iZ N)) (v:=fZ) rfl rfl sx sx (λw=>kR) (oJ p),yE5⟩ ?_;intro W U L;repeat apply XL
    refine Yh L.ev ?_;apply yBt;dsimp only[Exit.then,yBc];rw[yE3 rfl];repeat apply XL
    refine L.U [.x (iZ q),.x (iZ ((q:Int)-1)),.x (iZ ((q:Int)-1))] [4,5,7,8] ⟨st,aN rfl .sub (T:=3) 3 (t1:=34) (v1:=(iZ q)) (v2:=(iZ 1)) (v:=(iZ ((q:Int)-1))) rfl rfl sx (λw=>kR) (sub1' (q:=q) oM),st,yE5⟩ ?_;intro g V f;have y:g.tmps[4]? = some (jZ A):=f.at (s:=(.p 0 0));have x:g.tmps[5]? = some (sZ u N N):=f.at (s:=(.s 1 N N));have H:g.tmps[7]? = some (jZ O):=f.at (s:=(.p 2 0));have B:g.tmps[8]? = some (iZ ((q:Int)-1)):=f.at (s:=(.v (iZ ((q:Int)-1))));show ∃n',_;exact⟨q,yB2 q,oM,f.sl,y,x,H,B,by rw[K];exact f.st⟩
def rt(m:Fin P):Option (Fin P):=if m.val^(P/4+1)%P*(m.val^(P/4+1)%P)%P=m.val then some (Z2 P (even P (m.val^(P/4+1)%P))) else none
omit [NeZero P] in
theorem GY{r:Nat}(k:0<P)(h:r<P):even P r<P:=by unfold even;split<;>omega
def NV{m y:Fin P}{v:XG}(h:rt m=some y)(k:Four v (even P (m.val^(P/4+1)%P))):v=fv y:=by
 unfold rt at h;split at h
 .obtain rfl:=X5.inj h;have:(Z2 P (even P (m.val^(P/4+1)%P))).val=even P (m.val^(P/4+1)%P):=Ya (GY (yAM P) (Zi _ (yAM P)));show v=nv _;rw[this];exact k.nv
 .cases h
def J1{m y:Fin P}(h:rt m=some y):m.val^(P/4+1)%P*(m.val^(P/4+1)%P)%P=m.val:=by
 unfold rt at h;split at h
 .assumption
 .cases h
def Ui{m:Fin P}(h:rt m=none):¬m.val^(P/4+1)%P*(m.val^(P/4+1)%P)%P=m.val:=by
 unfold rt at h;split at h
 .cases h
 .assumption
def RootR.val{m:Fin P}{e:XG}(h:RootR P m.val (m.val^(P/4+1)%P) e):(∀y,rt m=some y->e=.tuple #[fv y,tZ])/\(rt m=none->e=.tuple #[fv (0:Fin P),fZ]):=by
 obtain⟨j,l,i,g,ok,rfl,b,f,c⟩:=h;refine⟨λy k=>?_,λd=>?_⟩
 .cases ok with
  | true=>rw[NV k (b rfl).2]
  | false=>exact absurd (J1 k) (f rfl)
 .cases ok with
  | true=>exact absurd (b rfl).1 (Ui d)
  | false =>
   obtain⟨rfl,rfl,rfl,rfl⟩:=c rfl;rw[<-mG];rfl
def Tx(h:Fld P){m y:Fin P}(e:rt m=some y):Gives 177 #[gv0,fv m] (.tuple #[fv y,tZ]):=λw =>
 (DT 4294968273 0 0 P _ m.val h.gap h.p4 (h.four m) w).mono (by rintro e' w' ⟨v,rfl,k,b⟩;exact⟨_,rfl,k,b.val.1 y e⟩)
def Ty(h:Fld P){m:Fin P}(e:rt m=none):Gives 177 #[gv0,fv m] (.tuple #[fv (0:Fin P),fZ]):=λw =>
 (DT 4294968273 0 0 P _ m.val h.gap h.p4 (h.four m) w).mono (by rintro e' w' ⟨v,rfl,k,b⟩;exact⟨_,rfl,k,b.val.2 e⟩)
def gl0:List XG:=[uZ 4294968273,uZ 0,uZ 0,uZ 0]
def Bf(C:Fld P)(x y:Fin P)(m:rt (x*x*x+7)=some y):Gives 119 #[(fv x)] (.tuple #[pv x y,tZ]):=by
 intro w;obtain⟨c1,i⟩:∃c,c=x*x:=⟨_,rfl⟩
 obtain⟨c2,g⟩:∃c,c=c1*x:=⟨_,rfl⟩
 obtain⟨k,e⟩:∃c,c=c2+(7:Fin P):=⟨_,rfl⟩
 have d:((.tuple #[pv x y,tZ]):XG)=(.tuple #[pv x y,tZ]):=by
  subst_vars;rfl
 rw[<-d];go_enter func119,ntmps119;refine RG.M.enter [(0,.v (fv x))] 31 kR ?_;intro a0 q;repeat apply XL
 refine q.T [.m 0,.m 1,.x fZ] [(0,ws x),(1,RG.z 8)] [] [ws x,RG.z 8] [1,2,3] ⟨mk 0 42,mk 1 131,st,yE5⟩ ?_;intro u a r B p;repeat apply XL
 refine p.T [.c gv0,.m 2,.u 2] [(1,RG.z 4)] [(2,2,gl0)] [ws x,RG.z 8,gl0] [1,2,3,4] ⟨cl bP,mk 2 78,RG.pt i79,yE5⟩ ?_;intro A a2 H n;repeat apply XL
 refine n.D [.x gv0,.x gv0,.x gv0,.x (fv x),.x (fv x),.c (fv c1),.x (fv x),.c (fv c2),.x (fv (7:Fin P)),.c (fv k),.m 3,.u 3] [(10,RG.z 4)] [(3,11,ws k)] [ws x,RG.z 8,gl0,ws k] [1,2,3,4,5] ⟨ld u79 i79,ld u79 i79,ld u79 i79,ld u85 i85,ld u85 i85,cl ((tD C).e i),ld u85 i85,cl ((tD C).e g),se (CB C),cl ((H5 C).e e),mk 3 42,RG.pt i85,yE5⟩ ?_;intro L G J o;repeat apply XL
 refine o.T [.x gv0,.x (fv k),.c (.tuple #[fv y,tZ]),.x (.tuple #[fv y,tZ]),.x (fv y),.x tZ,.m 4,.u 4,.x tZ] [(6,RG.z 4)] [(4,7,ws y)] [ws x,RG.z 8,gl0,ws k,ws y] [1,2,3,6,7] ⟨ld u79 i79,ld u85 i85,cl (f:=177) (args:=#[gv0,fv k]) (v:=(.tuple #[fv y,tZ])) (Tx C (by subst_vars;exact m)),st,st,st,mk 4 42,RG.pt i85,st,yE5⟩ ?_;intro D F t l;repeat apply XL
 refine l.U [.x tZ,.x fZ] [1,2,3,6,26] ⟨st,st,yE5⟩ ?_;intro K E j;repeat apply XL
 refine Yh j.ev ?_;apply Y2;repeat apply XL
 refine j.T [.x (fv x),.x (fv y),.x (pv x y),.u 1,.x tZ] [] [(1,3,ws x++(ws y))] [ws x,ws x++(ws y),gl0,ws k,ws y] [2,3] ⟨ld u85 i85,ld u85 i85,st,RG.pt i109,st,yE5⟩ ?_;intro z I b;refine Zj<|XR (v:=(.tuple #[pv x y,tZ])) (cV b.st rfl rfl (b.at (s:=(.p 1 0))) (b.at (s:=(.v tZ))) iM i109) b.sl.defers ?_
 exact⟨_,rfl,b.st.bel.below,rfl⟩
def Bg(C:Fld P)(x:Fin P)(m:rt (x*x*x+7)=none):Gives 119 #[(fv x)] (.tuple #[pv (0:Fin P) 0,fZ]):=by
 intro w;obtain⟨c1,i⟩:∃c,c=x*x:=⟨_,rfl⟩
 obtain⟨c2,g⟩:∃c,c=c1*x:=⟨_,rfl⟩
 obtain⟨k,e⟩:∃c,c=c2+(7:Fin P):=⟨_,rfl⟩
 have d:((.tuple #[pv (0:Fin P) (0:Fin P),fZ]):XG)=(.tuple #[pv (0:Fin P) 0,fZ]):=by
  subst_vars;rfl
 rw[<-d];go_enter func119,ntmps119;refine RG.M.enter [(0,.v (fv x))] 31 kR ?_;intro a0 q;repeat apply XL
 refine q.T [.m 0,.m 1,.x fZ] [(0,ws x),(1,RG.z 8)] [] [ws x,RG.z 8] [1,2,3] ⟨mk 0 42,mk 1 131,st,yE5⟩ ?_;intro u z r A p;repeat apply XL
 refine p.T [.c gv0,.m 2,.u 2] [(1,RG.z 4)] [(2,2,gl0)] [ws x,RG.z 8,gl0] [1,2,3,4] ⟨cl bP,mk 2 78,RG.pt i79,yE5⟩ ?_;intro a a2 G n;repeat apply XL
 refine n.D [.x gv0,.x gv0,.x gv0,.x (fv x),.x (fv x),.c (fv c1),.x (fv x),.c (fv c2),.x (fv (7:Fin P)),.c (fv k),.m 3,.u 3] [(10,RG.z 4)] [(3,11,ws k)] [ws x,RG.z 8,gl0,ws k] [2,3,4,5] ⟨ld u79 i79,ld u79 i79,ld u79 i79,ld u85 i85,ld u85 i85,cl ((tD C).e i),ld u85 i85,cl ((tD C).e g),se (CB C),cl ((H5 C).e e),mk 3 42,RG.pt i85,yE5⟩ ?_;intro K F I o;repeat apply XL
 refine o.T [.x gv0,.x (fv k),.c (.tuple #[fv (0:Fin P),fZ]),.x (.tuple #[fv (0:Fin P),fZ]),.x (fv (0:Fin P)),.x fZ,.m 4,.u 4,.x fZ] [(6,RG.z 4)] [(4,7,ws (0:Fin P))] [ws x,RG.z 8,gl0,ws k,ws (0:Fin P)] [2,3,7] ⟨ld u79 i79,ld u85 i85,cl (f:=177) (args:=#[gv0,fv k]) (v:=(.tuple #[fv (0:Fin P),fZ])) (Ty C (by subst_vars;exact m)),st,st,st,mk 4 42,RG.pt i85,st,yE5⟩ ?_;intro B E t l;repeat apply XL
 refine l.U [.x fZ,.x tZ] [2,3,26] ⟨st,st,yE5⟩ ?_;intro J D j;repeat apply XL
 refine YH j.ev ?_;repeat apply XL
 refine j.T [.x (pv (0:Fin P) (0:Fin P)),.u 1,.x fZ] [] [(1,1,ws (0:Fin P)++(ws (0:Fin P)))] [ws x,ws (0:Fin P)++(ws (0:Fin P)),gl0,ws k,ws (0:Fin P)] [2,3] ⟨se (iI (P:=P)),RG.pt i109,st,yE5⟩ ?_;intro y H b;refine Zj<|XR (v:=(.tuple #[pv (0:Fin P) (0:Fin P),fZ])) (cV b.st rfl rfl (b.at (s:=(.p 1 0))) (b.at (s:=(.v fZ))) iM i109) b.sl.defers ?_
 exact⟨_,rfl,b.st.bel.below,rfl⟩
def RO(C:Fld P)(x y:Fin P):Gives 196 #[(pv x y)] (pv x (0-y)):=by
 intro w;obtain⟨c1,d⟩:∃c,c=(0:Fin P)-y:=⟨_,rfl⟩
 have k:((pv x c1):XG)=(pv x (0-y)):=by
  subst_vars;rfl
 rw[<-k];go_enter func196,ntmps196;refine RG.M.enter [(0,.v (pv x y))] 11 kR ?_;intro a0 f;repeat apply XL
 refine f.T [.m 0,.m 1] [(0,ws x++(ws y)),(1,RG.z 8)] [] [ws x++(ws y),RG.z 8] [1,2] ⟨mk 0 131,mk 1 131,yE5⟩ ?_;intro l g i m e;repeat apply XL
 refine e.D [.s (.p 0 0),.x (fv x),.c gv0,.x (fv (0:Fin P)),.s (.p 0 4),.x (fv y),.c (fv c1),.x (pv x c1),.u 1] [] [(1,8,ws x++(ws c1))] [ws x++(ws y),ws x++(ws c1)] [2] ⟨st,ld u85 i85,cl bP,se (mG (P:=P)),st,ld u85 i85,cl ((MS C).e d),st,RG.pt i109,yE5⟩ ?_;intro a2 j b;refine Zj<|XR (v:=(pv x c1)) (aH b.st rfl rfl (b.at (s:=(.p 1 0))) iM i109) b.sl.defers ?_
 exact⟨_,rfl,b.st.bel.below,rfl⟩
def iN{w W:XF}{k j e a b c d i f g:Nat}(h:Kept w k [⟨e,0,a,b,c,d⟩,⟨k,0,i,f,g,0⟩,⟨j,0,0,0,0,0⟩] W):W.cell? ⟨e,0,none⟩=some (uZ a)/\W.cell? ⟨e,1,none⟩=some (uZ b)/\W.cell? ⟨e,2,none⟩=some (uZ c)/\W.cell? ⟨e,3,none⟩=some (uZ d)/\W.cell? ⟨k,0,none⟩=some (uZ i)/\W.cell? ⟨k,1,none⟩=some (uZ f)/\W.cell? ⟨k,2,none⟩=some (uZ g)/\W.cell? ⟨k,3,none⟩=some (uZ 0)/\Kept w k [⟨e,0,a,b,c,d⟩,⟨k,0,i,f,g,0⟩,⟨j,0,0,0,0,0⟩] W:=⟨h.head.c0,h.head.c1,h.head.c2,h.head.c3,h.tail.head.c0,h.tail.head.c1,h.tail.head.c2,h.tail.head.c3,h⟩
def pK{w W:XF}{k j e a b c d i f g:Nat}(h:W.cell? ⟨e,0,none⟩=some (uZ a)/\W.cell? ⟨e,1,none⟩=some (uZ b)/\W.cell? ⟨e,2,none⟩=some (uZ c)/\W.cell? ⟨e,3,none⟩=some (uZ d)/\W.cell? ⟨k,0,none⟩=some (uZ i)/\W.cell? ⟨k,1,none⟩=some (uZ f)/\W.cell? ⟨k,2,none⟩=some (uZ g)/\W.cell? ⟨k,3,none⟩=some (uZ 0)/\Kept w k [⟨e,0,a,b,c,d⟩,⟨k,0,i,f,g,0⟩,⟨j,0,0,0,0,0⟩] W):Kept w k [⟨e,0,a,b,c,d⟩,⟨k,0,i,f,g,0⟩,⟨j,0,0,0,0,0⟩] W:=h.2.2.2.2.2.2.2.2
def CN{w W:XF}{k j e a b c d i f g:Nat}{o:Obj}(h:W.cell? ⟨e,0,none⟩=some (uZ a)/\W.cell? ⟨e,1,none⟩=some (uZ b)/\W.cell? ⟨e,2,none⟩=some (uZ c)/\W.cell? ⟨e,3,none⟩=some (uZ d)/\W.cell? ⟨k,0,none⟩=some (uZ i)/\W.cell? ⟨k,1,none⟩=some (uZ f)/\W.cell? ⟨k,2,none⟩=some (uZ g)/\W.cell? ⟨k,3,none⟩=some (uZ 0)/\Kept w k [⟨e,0,a,b,c,d⟩,⟨k,0,i,f,g,0⟩,⟨j,0,0,0,0,0⟩] W):(W.alloc o).cell? ⟨e,0,none⟩=some (uZ a)/\(W.alloc o).cell? ⟨e,1,none⟩=some (uZ b)/\(W.alloc o).cell? ⟨e,2,none⟩=some (uZ c)/\(W.alloc o).cell? ⟨e,3,none⟩=some (uZ d)/\(W.alloc o).cell? ⟨k,0,none⟩=some (uZ i)/\(W.alloc o).cell? ⟨k,1,none⟩=some (uZ f)/\(W.alloc o).cell? ⟨k,2,none⟩=some (uZ g)/\(W.alloc o).cell? ⟨k,3,none⟩=some (uZ 0)/\Kept w k [⟨e,0,a,b,c,d⟩,⟨k,0,i,f,g,0⟩,⟨j,0,0,0,0,0⟩] (W.alloc o):=iN ((pK h).alloc o)
def BE{w W:XF}{k j e a b c d i f g:Nat}{o:Obj}(h:W.drew.cell? ⟨e,0,none⟩=some (uZ a)/\W.drew.cell? ⟨e,1,none⟩=some (uZ b)/\W.drew.cell? ⟨e,2,none⟩=some (uZ c)/\W.drew.cell? ⟨e,3,none⟩=some (uZ d)/\W.drew.cell? ⟨k,0,none⟩=some (uZ i)/\W.drew.cell? ⟨k,1,none⟩=some (uZ f)/\W.drew.cell? ⟨k,2,none⟩=some (uZ g)/\W.drew.cell? ⟨k,3,none⟩=some (uZ 0)/\Kept w k [⟨e,0,a,b,c,d⟩,⟨k,0,i,f,g,0⟩,⟨j,0,0,0,0,0⟩] W.drew):(W.alloc o).drew.cell? ⟨e,0,none⟩=some (uZ a)/\(W.alloc o).drew.cell? ⟨e,1,none⟩=some (uZ b)/\(W.alloc o).drew.cell? ⟨e,2,none⟩=some (uZ c)/\(W.alloc o).drew.cell? ⟨e,3,none⟩=some (uZ d)/\(W.alloc o).drew.cell? ⟨k,0,none⟩=some (uZ i)/\(W.alloc o).drew.cell? ⟨k,1,none⟩=some (uZ f)/\(W.alloc o).drew.cell? ⟨k,2,none⟩=some (uZ g)/\(W.alloc o).drew.cell? ⟨k,3,none⟩=some (uZ 0)/\Kept w k [⟨e,0,a,b,c,d⟩,⟨k,0,i,f,g,0⟩,⟨j,0,0,0,0,0⟩] (W.alloc o).drew:=iN (((pK h).undrew).alloc o).drew
def MR(pv:XG)(p:Option Y4)(n cap:Nat)(w:XF)(d c k:Nat)(b:pv=.agg #[uZ d,uZ c,uZ k,uZ 0])(f:n≠32):
 cZ 29 #[pv,.slice p n cap] w (rZ w λe w'=>e=.tuple #[.agg #[uZ 0,uZ 0,uZ 0,uZ 0],fZ]):=by
 subst b;go_enter func29,ntmps29;go_wp2;refine XR (v:=?v) ?hr rfl ?hR
 case hr=>simp[results,Tryz.results29,go_sem];rfl
 exact⟨_,rfl,below2 _ _ _,rfl⟩
def Am(m l j P g o cap:Nat)(p:Bs)(hG:Gap m l j P)(w:XF)(X:p.size=32)(hc:32<=cap)(R:g<w.heap.size)(V:Holds encB w g o p):
 ZI prog 29 #[.agg #[.int .u64 m,.int .u64 l,.int .u64 j,.int .u64 0],.slice (some ⟨g,o,none⟩) 32 cap] w
  (Ret λe w'=>Below w.heap.size w w'/\((beV p.toList<P/\∃v,e=.tuple #[v,.bool true]/\Four v (beV p.toList))\/(P<=beV p.toList/\e=.tuple #[.agg #[.int .u64 0,.int .u64 0,.int .u64 0,.int .u64 0],.bool false]))):=by
 have D:Hid (Gap m l j P):=hG;have J:Hid (Holds encB w g o p):=V;have HS:Hid (p.size=32):=X;clear hG V X;go_enter func29,ntmps29;go_wp2_with fail
 have PR:=(At4.made w 78 m l j 0 rfl).alloc (.cells #[.int .u64 0,.int .u64 0,.int .u64 0,.int .u64 0] 42);have Y:=At4.made (w.alloc (.cells #[.int .u64 m,.int .u64 l,.int .u64 j,.int .u64 0] 78)) 42 0 0 0 0 (XS _ _);have u:=((Kept.mk1 (below2 w (.cells #[.int .u64 m,.int .u64 l,.int .u64 j,.int .u64 0] 78) (.cells #[.int .u64 0,.int .u64 0,.int .u64 0,.int .u64 0] 42)) (below2 w (.cells #[.int .u64 m,.int .u64 l,.int .u64 j,.int .u64 0] 78) (.cells #[.int .u64 0,.int .u64 0,.int .u64 0,.int .u64 0] 42)).size).cons Y.blk).cons PR.blk;have s:=Holds.below J (below2 w (.cells #[.int .u64 m,.int .u64 l,.int .u64 j,.int .u64 0] 78) (.cells #[.int .u64 0,.int .u64 0,.int .u64 0,.int .u64 0] 42)) R;clear PR Y;generalize yAo _ _=W0 at u s⊢;apply(kY (some ⟨g,o,none⟩) g o 32 cap p _ (XH 32) hc HS (Yd ⟨rfl,s⟩)).mono;rintro e N ⟨v,rfl,i,H⟩;obtain⟨a,b,c,d,rfl,ha,hb,K,hd,M⟩:=id H;have O:Hid (Four _ _):=H;have L:=u.call i;clear M H i u s;go_wp2_with fail
 have f:=(L.alloc (.cells #[.int .u64 a,.int .u64 b,.int .u64 c,.int .u64 d] 42)).cons (At4.made N 42 a b c d rfl).blk;have F:N.heap.size≠w.heap.size:=Zs L.head.lt;clear L;generalize yAo _ _=W1 at f⊢;generalize N.heap.size=y at f F⊢;generalize Q:w.heap.size+1=B at f⊢;have I:Hid (w.heap.size<=B):=by unfold Hid;omega
 generalize U:w.heap.size=q at f I R F⊢;have W:Hid (w.heap.size=q):=U;clear U Q
 go_cut [8] (λs8 wx=>∃k:Nat,s8=.int .u64 k/\k<=1/\Hid (∃t,t<top/\t+top*k=beV p.toList+val m l j 0)/\Kept w q [⟨y,0,a,b,c,d⟩,⟨q,0,m,l,j,0⟩,⟨B,0,0,0,0,0⟩] wx)
 case first =>
  go_region_held3 (λw'=>w'.cell? ⟨y,0,none⟩=some (.int .u64 a)/\w'.cell? ⟨y,1,none⟩=some (.int .u64 b)/\w'.cell? ⟨y,2,none⟩=some (.int .u64 c)/\w'.cell? ⟨y,3,none⟩=some (.int .u64 d)/\w'.cell? ⟨q,0,none⟩=some (.int .u64 m)/\w'.cell? ⟨q,1,none⟩=some (.int .u64 l)/\w'.cell? ⟨q,2,none⟩=some (.int .u64 j)/\w'.cell? ⟨q,3,none⟩=some (.int .u64 0)/\Kept w q [⟨y,0,a,b,c,d⟩,⟨q,0,m,l,j,0⟩,⟨B,0,0,0,0,0⟩] w') (first|(with_reducible exact iN f)|(with_reducible exact iN f.drew)|(with_reducible exact BE (by assumption))|(with_reducible exact CN (by assumption))|(with_reducible exact iN (f.alloc _))|(with_reducible exact iN (f.set4' A (λx hx=>Zs (z x hx)) _ _ _ _))|(with_reducible exact iN (f.alloc _).drew)|(with_reducible exact iN (f.set4' A (λx hx=>Zs (z x hx)) _ _ _ _).drew)|fail) (first|(go_at_call 55;apply(jY O).mono;rintro e w2 ⟨v,rfl,i,rfl⟩;(try(with_reducible have E:=T.call i;clear T;have T:=E;clear E));(try(first|(with_reducible have T:=(At4.made _ 76 0 0 0 0 rfl).call i)|(with_reducible have T:=(At4.made _ 76 0 0 0 0 rfl).drew.call i));have z:=f.lts;have A:=f.le);have n:=Kept.call (pK (by assumption)) i;clear f;have f:=n;clear n i)|(go_at_call 54;apply(rS _ _ _ _ O (Four.mk D.h0 D.h1 D.h2 dC rfl) _).mono;rintro e w2 ⟨v,rfl,i,v2,t,k,rfl,r,C,S⟩;obtain⟨a',b',c',d',rfl,h5,hi,K,hm,M⟩:=id r;have Z:Hid (t<top/\t+top*k=beV p.toList+val m l j 0):=⟨r.lt,S⟩;clear M S r;(try(with_reducible have E:=T.call i;clear T;have T:=E;clear E));(try(first|(with_reducible have T:=(At4.made _ 76 0 0 0 0 rfl).call i)|(with_reducible have T:=(At4.made _ 76 0 0 0 0 rfl).drew.call i));have z:=f.lts;have A:=f.le);have n:=Kept.call (pK (by assumption)) i;clear f;have f:=n;clear n i;(try(obtain⟨h7,h4,h3,h9,tf⟩:=id T;have zt:=T.lt))))
  all_goals (try go_wp2)
  all_goals (have G:Hid (∃t,t<top/\t+top*k=beV p.toList+val m l j 0):=⟨t,Z⟩)
  all_goals (go_meet;first|(with_reducible exact⟨k,rfl,C,G,f.alloc _⟩)|(with_reducible exact⟨k,rfl,C,G,(f.alloc _).drew⟩)|(with_reducible exact⟨k,rfl,C,G,f.set4' A (λx hx=>Zs (z x hx)) _ _ _ _⟩)|(with_reducible exact⟨k,rfl,C,G,(f.set4' A (λx hx=>Zs (z x hx)) _ _ _ _).drew⟩)|fail)
 case rest =>
  clear f;obtain⟨k,rfl,C,S,f⟩:=hcut;have E:k=0\/k=1:=oM;rcases E with rfl|rfl
  .obtain⟨hl,h8,h6,hj,xf⟩:=f.head.at4;obtain⟨G,z,A,r,rf⟩:=f.tail.tail.head.at4;have z1:=f.tail.tail.head.lt;go_wp2;have n:=f.tail.tail.head.at4.self4 a b c d;unfold set4 at n;refine XR (v:=?v0) ?hr0 rfl ?hR0
   case hr0=>simp[results,Tryz.results29,go_sem,n.c0,n.c1,n.c2,n.c3];rfl
   refine⟨_,rfl,?_,Yk ⟨?_,_,rfl,O⟩⟩
   .rw[W.out];exact aK f.bl I
   .obtain⟨t,Q,Z⟩:=S;have:=D.hP;omega
  .obtain⟨G,z,A,r,rf⟩:=f.tail.tail.head.at4;have z1:=f.tail.tail.head.lt;go_wp2;have n:At4 (set4 wc B (.int .u64 0) (.int .u64 0) (.int .u64 0) (.int .u64 0)) B 0 0 0 0:=f.tail.tail.head.at4.self4 0 0 0 0;unfold set4 at n;refine XR (v:=?v1) ?hr1 rfl ?hR1
   case hr1=>simp[results,Tryz.results29,go_sem,n.c0,n.c1,n.c2,n.c3];rfl
   refine⟨_,rfl,?_,Yd ⟨?_,rfl⟩⟩
   .rw[W.out];exact aK f.bl I
   .obtain⟨t,Q,Z⟩:=S;have:=D.hP;omega
def Arg(w:XF)(v:XG)(k:Bs):Prop:=∃(p:Option Y4) (n cap:Nat),v=.slice p n cap/\k.size=n/\(n=32->∃g o,p=some ⟨g,o,none⟩/\32<=cap/\g<w.heap.size/\hZ w g o k)
def Arg.below{w k:XF}{v:XG}{d:Bs}(h:Arg w v d)(c:kZ w k):Arg k v d:=by
 obtain⟨p,n,cap,rfl,j,i⟩:=h;refine⟨p,n,cap,rfl,j,λl=>?_⟩;obtain⟨g,o,e,m,b,f⟩:=i l;exact⟨g,o,e,m,XI b c.size,Holds.below f c b⟩
def Args(w:XF)(q:Option Y4)(n:Nat)(L:Nat->Bs):Prop:=0<n->∃k,q=some (aZ k)/\k<w.heap.size/\∀j,j<n->∃v,w.cell? ⟨k,j,none⟩=some v/\Arg w v (L j)
end
section
def u131:yZ 50:=yQ
def i131:gZ 50 33:=gQ
def u5:wZ 5:=wQ
def QP:prog.underlying 50=some (.array 33 5):=kR
def V5:prog.underlying 5=some (.int .u8):=kR
def cells5:prog.cellsOf 5=1:=kR
def Ue{g o cap:Nat}(k:33<=cap)(w:XF):(Instr.sliceAt 23 (qZ g o 33 cap) (some (iZ 1)) none none).run prog w=.ok (qZ g (o+1) 32 (cap-1)) w:=by
 go_simp;omega
def Qx{g o cap:Nat}(w:XF):(Instr.arrayAt 50 (qZ g o 33 cap)).run prog w=.ok (oZ g o) w:=kR
def FB{g o n cap:Nat}{w:XF}(k:0<n):(YV 23 (qZ g o n cap) (iZ 0)).run prog w=.ok (oZ g o) w:=by
 go_simp
def PZ{v:XG}(xs:Array XG)(i:Nat)(h:xs[i]? = some v)(w:XF):(part 5 xs i).run prog w=.ok v w:=by
 go_simp
def eqI{a b:Nat->Int}{D:Nat}(xs ys:Array XG)(w:XF):∀(k:List Nat),(∀i∈k,xs[i]? = some (.int .u8 (a i)))->(∀i∈k,ys[i]? = some (.int .u8 (b i))) ->
 (yDY (D+1) 5 1 xs ys k).run prog w=.ok (decide (∀i∈k,a i=b i)) w
 | [],_,_=>by
  rw[yDY];simp
 | i :: k,hx,hy=>by
  have e:=eqI xs ys (a:=a) (b:=b) (D:=D) w k (λj c=>hx j (Yx _ c)) (λj c=>hy j (Yx _ c));have p1:=PZ xs (i*1) (by rw[yAe];exact hx i YL) w;have p2:=PZ ys (i*1) (by rw[yAe];exact hy i YL) w;have d:=run_equalIn_int (P:=prog) w D 5 .u8 .u8 (a i) (b i) V5;rw[yDY];simp only[Sem.run_bind,p1,p2,d,YE];by_cases h:a i=b i
  .simp only[h,beq_self_eq_true,Bool.not_true,Bool.false_eq_true,if_false,e,yDk,true_and]
  .have f:(a i == b i)=false:=by simpa using h
   simp only[f,Bool.not_false,if_true,Sem.run_pure,yDk,h,false_and,decide_false]
def aA(k:Bs):List XG:=k.toList.map encB
def z33:List XG:=YR 33 (.int .u8 0)
def tC{k:Bs}{i:Nat}(h:i<k.size):(aA k)[i]? = some (.int .u8 (ub k[i]!)):=by
 unfold aA;rw[YC,YI,Ye h,getElem!_pos k i h];rfl
def eqz{b:Bs}(h:b.size=33)(w:XF):(binOp .eql 50 (.agg (aA b).toArray) (.agg z33.toArray)).run prog w=.ok (.bool (decide (∀i∈YB 33,ub b[i]! = 0))) w:=by
 have k:(prog.info? 5).isSome=true:=kR;obtain⟨d,c⟩:=YP.1 k;rw[run_eql_struct,run_equalIn_array w 9999 _ _ QP c,cells5,
  eqI _ _ w (YB 33) (λi k=>by
   rw[Yp];exact tC (by rw[h];exact Y9.1 k)) (λi k=>by
   rw[Yp];unfold z33;rw[List.getElem?_replicate,yE3 (Y9.1 k)])]
 rfl
@[reducible] def uU (bs:Bs):Prop:=∀i∈YB 33,ub bs[i]! = 0
def Va{k:Bs}(h:k.size=33)(b:uU k)(w:XF):(binOp .eql 50 (.agg (aA k).toArray) (.agg z33.toArray)).run prog w=.ok tZ w:=by rw[eqz h,decide_eq_true (show ∀i∈YB 33,ub k[i]! = 0 from b)]
def Vb{k:Bs}(h:k.size=33)(b:¬uU k)(w:XF):(binOp .eql 50 (.agg (aA k).toArray) (.agg z33.toArray)).run prog w=.ok fZ w:=by rw[eqz h,decide_eq_false (show ¬ ∀i∈YB 33,ub k[i]! = 0 from b)]
def aB{k:Bs}(h:k.size=33):(aA k).length=33:=by unfold aA;rw[X7,X0,h]
def Fw{k:Bs}{w:XF}{g o:Nat}(c:hZ w g o k):w.rangeAt g o (aA k):=λj v hv=>by
 have b:j<k.size:=by
  have:=(XT.1 hv).1;unfold aA at this;rwa[X7,X0]at this
 rw[tC b]at hv;rw[(c j b).1];exact hv
def wI(k:Bs):Bs:=k.extract 1 33
def oW{k:Bs}(h:k.size=33):(wI k).size=32:=by unfold wI;rw[yAd,h];rfl
theorem tl33_holds{k:Bs}{w:XF}{g o:Nat}(h:k.size=33)(c:hZ w g o k):hZ w g (o+1) (wI k):=
 Holds.part c (by rw[oW h,h];decide) (λj b=>by
  rw[oW h]at b;unfold wI;rw[getElem!_pos _ j (by rw[yAd,h];omega),getElem!_pos _ (1+j) (by rw[h];omega),Array.getElem_extract])
variable {P:Nat}[NeZero P]
def MP(C:Fld P){g o cap:Nat}{k:Bs}(f:k.size=32)(i:32<=cap){x:Fin P}(hx:beV k.toList=x.val){w:XF}(c:g<w.heap.size)(d:hZ w g o k):
 cZ 29 #[gv0,qZ g o 32 cap] w (rZ w λe w'=>e=.tuple #[fv x,tZ]):=
 (Am 4294968273 0 0 P g o cap k C.gap w f i c d).mono (by
  rintro e w' ⟨v,rfl,l,⟨j,m,rfl,b⟩|⟨j,rfl⟩⟩
  .refine⟨_,rfl,l,?_⟩;rw[hx]at b;rw[b.nv]
  .have:=x.isLt;omega)
def MQ(C:Fld P){g o cap:Nat}{k:Bs}(f:k.size=32)(i:32<=cap)(hx:¬beV k.toList<P){w:XF}(c:g<w.heap.size)(d:hZ w g o k):
 cZ 29 #[gv0,qZ g o 32 cap] w (rZ w λe w'=>e=.tuple #[fv (0:Fin P),fZ]):=
 (Am 4294968273 0 0 P g o cap k C.gap w f i c d).mono (by
  rintro e w' ⟨v,rfl,j,⟨b,m,rfl,l⟩|⟨b,rfl⟩⟩
  .exact absurd b hx
  .refine⟨_,rfl,j,?_⟩;rw[<-mG])
def rdx(P:Nat)[NeZero P](k:Bs):Fin P:=Z2 P (beV (wI k).toList)
def rd(P:Nat)[NeZero P](k:Bs):Option (Fin P × Fin P):=
 if k.size=33 then
  if uU k then some (0,0) else
  if ub k[0]! = 2\/ub k[0]! = 3 then
   if beV (wI k).toList<P then
    (rt (rdx P k*rdx P k*rdx P k+7)).map (λy=>(rdx P k,if ub k[0]! = 3 then 0-y else y))
   else none
  else none
 else none
def rdV:Option (Fin P × Fin P)->XG
 | none=>.tuple #[pv (0:Fin P) 0,fZ]
 | some p=>.tuple #[pv p.1 p.2,tZ]
end
section
variable {P:Nat}[NeZero P]{N:Nat}
def Rx(C:Fld P)(q:Option Y4)(n cap:Nat)(x:Fin P)(w:XF)(p:¬n=33):cZ 156 #[(.slice q n cap)] w (rZ w λe w'=>e=(.tuple #[pv (0:Fin P) 0,fZ])):=by
 have d:∀w,(binOp .neq 3 (iZ n) (iZ 33)).run prog w=.ok tZ w:=λw=>by
  have h:¬(n:Int)=33:=oM;go_simp
 go_enter func156,ntmps156;refine Jr (v0:=(.slice q n cap)) (n:=54) kR kR kR ?_;intro a0 b g;have c:=RG.St.begin w;have j:RG.M w w.heap.size [] 54 [] [] [(0,.v (.slice q n cap))] a0 _:=⟨c,b,⟨g,yE5⟩⟩
 repeat apply XL
 refine j.T [.m 0,.x fZ] [(0,RG.z 8)] [] [RG.z 8] [0,2,3] ⟨mk 0 131,st,yE5⟩ ?_;intro m l o i;repeat apply XL
 refine i.U [.x (.slice q n cap),.x (iZ n),.x tZ] [2,3,9] ⟨st,gJ rfl (t:=7) (.v (.slice q n cap)) (iZ n) rfl sx (λa w=>kR) (λμ w=>kR),aN rfl .neq (T:=3) 3 (t1:=8) (v1:=(iZ n)) (v2:=(iZ 33)) (v:=tZ) rfl rfl sx (λw=>kR) d,yE5⟩ ?_;intro a2 t f;repeat apply XL
 refine YH f.ev ?_;repeat apply XL
 refine f.T [.x (pv (0:Fin P) (0:Fin P)),.u 0,.x fZ] [] [(0,1,ws (0:Fin P)++(ws (0:Fin P)))] [ws (0:Fin P)++(ws (0:Fin P))] [2,3] ⟨se (iI (P:=P)),RG.pt i109,st,yE5⟩ ?_;intro r u k;refine Zj<|XR (v:=(.tuple #[pv (0:Fin P) (0:Fin P),fZ])) (cV k.st (t:=2) (u:=3) (T:=131) rfl (b:=0) rfl (k.at (s:=(.p 0 0))) (k.at (s:=(.v fZ))) iM i109) k.sl.defers ?_
 exact⟨_,rfl,k.st.bel.below,rfl⟩
abbrev v33(g o cap:Nat):XG:=qZ g o 33 cap
def WE(C:Fld P)(g o cap:Nat)(k:Bs)(w:XF)(l:k.size=33)(Y:33<=cap)(c:g<w.heap.size)(H:hZ w g o k):cZ 156 #[v33 g o cap] w (rZ w λe w'=>e=rdV (rd P k)):=by
 have E:=Fw H;have b:w.cell? ⟨g,o,none⟩=some (.int .u8 (ub k[0]!)):=by
  have:=(H 0 (by rw[l];decide)).1;rw[yAi]at this;exact this
 go_enter func156,ntmps156;refine Jr (v0:=(v33 g o cap)) (n:=54) kR kR kR ?_;intro a0 K f0;have M:=RG.St.begin w;have M0:RG.M w w.heap.size [] 54 [] [] [(0,.v (v33 g o cap))] a0 _:=⟨M,K,⟨f0,yE5⟩⟩
 repeat apply XL
 refine M0.T [.m 0,.x fZ] [(0,RG.z 8)] [] [RG.z 8] [0,2,3] ⟨mk 0 131,st,yE5⟩ ?_;intro j1 a1 w1 M1;repeat apply XL
 refine M1.U [.x (v33 g o cap),.x (iZ 33),.x fZ] [0,2,3,9] ⟨st,gJ rfl (t:=7) (.v (v33 g o cap)) (iZ 33) rfl sx (λa w=>kR) (λμ w=>kR),st,yE5⟩ ?_;intro a2 w2 L;repeat apply XL
 refine Yh L.ev ?_;apply Y2;repeat apply XL
 unfold rd;rw[yE3 l];by_cases I:uU k
 .rw[yE3 I];refine L.U [.x (v33 g o cap),.x (oZ g o),.x (.agg (aA k).toArray),.x (.agg z33.toArray),.x tZ] [2,3,15] ⟨st,Dy rfl (T:=50) (t:=11) (v:=(v33 g o cap)) (b:=(oZ g o)) rfl rfl sx (Qx (g:=g) (o:=o) (cap:=cap)),eK rfl (k:=g) (off:=o) c Yf (T:=50) (t:=12) rfl (cs:=(aA k)) rfl sx E u131 (by rw[aB l];exact i131),st,aO rfl .eql (T:=50) 50 (t1:=13) (t2:=14) (v1:=(.agg (aA k).toArray)) (v2:=(.agg z33.toArray)) (v:=tZ) rfl rfl sx sx (λw=>kR) (Va l I),yE5⟩ ?_;intro a3 w3 z;repeat apply XL
  refine YH z.ev ?_;repeat apply XL
  refine z.T [.x (pv (0:Fin P) (0:Fin P)),.u 0,.x tZ] [] [(0,1,ws (0:Fin P)++(ws (0:Fin P)))] [ws (0:Fin P)++(ws (0:Fin P))] [2,3] ⟨se (iI (P:=P)),RG.pt i109,st,yE5⟩ ?_;intro Z Q f;refine Zj<|XR (v:=(.tuple #[pv (0:Fin P) (0:Fin P),tZ])) (cV f.st (t:=2) (u:=3) (T:=131) rfl (b:=0) rfl (f.at (s:=(.p 0 0))) (f.at (s:=(.v tZ))) iM i109) f.sl.defers ?_
  exact⟨_,rfl,f.st.bel.below,rfl⟩
 rw[yE4 I];refine L.U [.x (v33 g o cap),.x (oZ g o),.x (.agg (aA k).toArray),.x (.agg z33.toArray),.x fZ] [0,2,3,15] ⟨st,Dy rfl (T:=50) (t:=11) (v:=(v33 g o cap)) (b:=(oZ g o)) rfl rfl sx (Qx (g:=g) (o:=o) (cap:=cap)),eK rfl (k:=g) (off:=o) c Yf (T:=50) (t:=12) rfl (cs:=(aA k)) rfl sx E u131 (by rw[aB l];exact i131),st,aO rfl .eql (T:=50) 50 (t1:=13) (t2:=14) (v1:=(.agg (aA k).toArray)) (v2:=(.agg z33.toArray)) (v:=fZ) rfl rfl sx sx (λw=>kR) (Vb l I),yE5⟩ ?_;intro a3 w3 z;repeat apply XL
 refine Yh z.ev ?_;apply Y2;repeat apply XL
 by_cases i:ub k[0]! = 2\/ub k[0]! = 3
 rotate_left
 .rw[yE4 i];generalize ub k[0]! = m at b i;have X:¬m=2:=λh=>i (.inl h)
  have J:¬m=3:=λh=>i (.inr h)
  have d:∀w,(binOp .neq 5 (.int .u8 m) (.int .u8 2)).run prog w=.ok tZ w:=λw=>by
   go_simp
  have j:∀w,(binOp .neq 5 (.int .u8 m) (.int .u8 3)).run prog w=.ok tZ w:=λw=>by
   go_simp
  refine z.U [.x (v33 g o cap),.x (oZ g o),.x (.int .u8 m),.x tZ,.x tZ,.x (v33 g o cap),.x (oZ g o),.x (.int .u8 m),.x tZ,.x tZ] [2,3,26] ⟨st,eU rfl 23 (t:=17) (iZ 0) rfl (.v (v33 g o cap)) sx (λμ w=>FB (g:=g) (o:=o) (n:=33) (cap:=cap) dC (w:=w)),bO rfl (k:=g) (off:=o) c Yf (T:=5) (t:=18) rfl (v:=(.int .u8 m)) rfl sx b u5,aN rfl .neq (T:=5) 5 (t1:=19) (v1:=(.int .u8 m)) (v2:=(.int .u8 2)) (v:=tZ) rfl rfl sx (λw=>kR) d,st,st,eU rfl 23 (t:=22) (iZ 0) rfl (.v (v33 g o cap)) sx (λμ w=>FB (g:=g) (o:=o) (n:=33) (cap:=cap) dC (w:=w)),bO rfl (k:=g) (off:=o) c Yf (T:=5) (t:=23) rfl (v:=(.int .u8 m)) rfl sx b u5,aN rfl .neq (T:=5) 5 (t1:=24) (v1:=(.int .u8 m)) (v2:=(.int .u8 3)) (v:=tZ) rfl rfl sx (λw=>kR) j,st,yE5⟩ ?_;intro Z Q f;repeat apply XL
  refine YH f.ev ?_;repeat apply XL
  refine f.T [.x (pv (0:Fin P) (0:Fin P)),.u 0,.x fZ] [] [(0,1,ws (0:Fin P)++(ws (0:Fin P)))] [ws (0:Fin P)++(ws (0:Fin P))] [2,3] ⟨se (iI (P:=P)),RG.pt i109,st,yE5⟩ ?_;intro a5 W t;refine Zj<|XR (v:=(.tuple #[pv (0:Fin P) (0:Fin P),fZ])) (cV t.st (t:=2) (u:=3) (T:=131) rfl (b:=0) rfl (t.at (s:=(.p 0 0))) (t.at (s:=(.v fZ))) iM i109) t.sl.defers ?_
  exact⟨_,rfl,t.st.bel.below,rfl⟩
 rw[yE3 i];rcases i with i|i
 case' inl=>refine z.u [.x 17 [] (v33 g o cap),.x 18 [(17,0)] (oZ g o),.x 19 [(18,1)] (.int .u8 2),.x 20 [(19,2)] fZ,.x 21 [(20,3)] fZ,⟨some 22,[],.v ZB,.pass⟩,⟨some 23,[],.v ZB,.pass⟩,⟨some 24,[],.v ZB,.pass⟩,⟨some 25,[],.v ZB,.pass⟩,.x 26 [(21,4),(25,8)] fZ] [(0,.v (v33 g o cap)),(2,.p 0 0),(3,.v fZ),(26,.v fZ)] ⟨st,eU rfl 23 (t:=17) (iZ 0) rfl (.v (v33 g o cap)) sx (λμ w=>FB (g:=g) (o:=o) (n:=33) (cap:=cap) dC (w:=w)),bO rfl (k:=g) (off:=o) c Yf (T:=5) (t:=18) rfl (v:=(.int .u8 2)) rfl sx (b.trans (by rw[i])) u5,st,st,dD rfl rfl,dD rfl rfl,dD rfl rfl,dD rfl rfl,st,yE5⟩ ?_
 case' inr=>refine z.U [.x (v33 g o cap),.x (oZ g o),.x (.int .u8 3),.x tZ,.x tZ,.x (v33 g o cap),.x (oZ g o),.x (.int .u8 3),.x fZ,.x fZ] [0,2,3,26] ⟨st,eU rfl 23 (t:=17) (iZ 0) rfl (.v (v33 g o cap)) sx (λμ w=>FB (g:=g) (o:=o) (n:=33) (cap:=cap) dC (w:=w)),bO rfl (k:=g) (off:=o) c Yf (T:=5) (t:=18) rfl (v:=(.int .u8 3)) rfl sx (b.trans (by rw[i])) u5,st,st,st,eU rfl 23 (t:=22) (iZ 0) rfl (.v (v33 g o cap)) sx (λμ w=>FB (g:=g) (o:=o) (n:=33) (cap:=cap) dC (w:=w)),bO rfl (k:=g) (off:=o) c Yf (T:=5) (t:=23) rfl (v:=(.int .u8 3)) rfl sx (b.trans (by rw[i])) u5,st,st,yE5⟩ ?_
 all_goals
  intro Z Q f;repeat apply XL
  refine Yh f.ev ?_;apply Y2;repeat apply XL
  by_cases hx:beV (wI k).toList<P
  rotate_left
  .rw[yE4 hx];have B:∀w',BelX w.heap.size [] w w'->cZ 29 #[gv0,qZ g (o+1) 32 (cap-1)] w' (Ret λe A=>kZ w' A/\e=.tuple #[fv (0:Fin P),fZ]):=λw' G=>MQ C (oW l) oM hx (XI c G.size) (Holds.below (tl33_holds l H) G.below c)
   refine f.D [.c gv0,.x (v33 g o cap),.x (qZ g (o+1) 32 (cap-1)),.c (.tuple #[fv (0:Fin P),fZ]),.x (.tuple #[fv (0:Fin P),fZ]),.x (fv (0:Fin P)),.x fZ,.m 1,.u 1,.x fZ] [(7,RG.z 4)] [(1,8,ws (0:Fin P))] [RG.z 8,ws (0:Fin P)] [2,3,5] ⟨cl bP,st,vU rfl (T:=23) (t:=30) (b:=(iZ 1)) (v:=(v33 g o cap)) (c:=(qZ g (o+1) 32 (cap-1))) rfl rfl sx (Ue (g:=g) (o:=o) (cap:=cap) Y),kT rfl (f:=29) (t1:=29) (t2:=31) (v1:=gv0) (v2:=(qZ g (o+1) 32 (cap-1))) (v:=(.tuple #[fv (0:Fin P),fZ])) rfl (λa w=>kR) sx sx B,st,st,st,mk 1 42,RG.pt i85,st,yE5⟩ ?_;intro j5 a5 W t;repeat apply XL
   refine t.U [.x fZ,.x tZ] [2,3,36] ⟨st,st,yE5⟩ ?_;intro a6 w6 D;repeat apply XL
   refine YH D.ev ?_;repeat apply XL
   refine D.T [.x (pv (0:Fin P) (0:Fin P)),.u 0,.x fZ] [] [(0,1,ws (0:Fin P)++(ws (0:Fin P)))] [ws (0:Fin P)++(ws (0:Fin P)),ws (0:Fin P)] [2,3] ⟨se (iI (P:=P)),RG.pt i109,st,yE5⟩ ?_;intro T V p;refine Zj<|XR (v:=(.tuple #[pv (0:Fin P) (0:Fin P),fZ])) (cV p.st (t:=2) (u:=3) (T:=131) rfl (b:=0) rfl (p.at (s:=(.p 0 0))) (p.at (s:=(.v fZ))) iM i109) p.sl.defers ?_
   exact⟨_,rfl,p.st.bel.below,rfl⟩
  rw[yE3 hx];have F:beV (wI k).toList=(rdx P k).val:=(Ya hx).symm;generalize rdx P k=x at F;have B:∀w',BelX w.heap.size [] w w'->cZ 29 #[gv0,qZ g (o+1) 32 (cap-1)] w' (Ret λe A=>kZ w' A/\e=.tuple #[fv x,tZ]):=λw' G=>MP C (oW l) oM F (XI c G.size) (Holds.below (tl33_holds l H) G.below c)
  refine f.D [.c gv0,.x (v33 g o cap),.x (qZ g (o+1) 32 (cap-1)),.c (.tuple #[fv x,tZ]),.x (.tuple #[fv x,tZ]),.x (fv x),.x tZ,.m 1,.u 1,.x tZ] [(7,RG.z 4)] [(1,8,ws x)] [RG.z 8,ws x] [0,2,3,4,5] ⟨cl bP,st,vU rfl (T:=23) (t:=30) (b:=(iZ 1)) (v:=(v33 g o cap)) (c:=(qZ g (o+1) 32 (cap-1))) rfl rfl sx (Ue (g:=g) (o:=o) (cap:=cap) Y),kT rfl (f:=29) (t1:=29) (t2:=31) (v1:=gv0) (v2:=(qZ g (o+1) 32 (cap-1))) (v:=(.tuple #[fv x,tZ])) rfl (λa w=>kR) sx sx B,st,st,st,mk 1 42,RG.pt i85,st,yE5⟩ ?_;intro j5 a5 W t;repeat apply XL
  refine t.U [.x tZ,.x fZ] [0,2,3,4,5,36] ⟨st,st,yE5⟩ ?_;intro a6 w6 D;repeat apply XL
  refine Yh D.ev ?_;apply Y2;repeat apply XL
  cases S:rt (x*x*x+7) with
  | none =>
   refine D.T [.x (fv x),.c (.tuple #[pv (0:Fin P) (0:Fin P),fZ]),.x (.tuple #[pv (0:Fin P) (0:Fin P),fZ]),.x (pv (0:Fin P) (0:Fin P)),.x fZ,.m 2,.u 2,.x fZ] [(5,RG.z 8)] [(2,6,ws (0:Fin P)++(ws (0:Fin P)))] [RG.z 8,ws x,ws (0:Fin P)++(ws (0:Fin P))] [2,3,5,6] ⟨ld u85 i85,zZ rfl (f:=119) (t1:=39) (v1:=(fv x)) (v:=(.tuple #[pv (0:Fin P) (0:Fin P),fZ])) rfl (λa w=>kR) sx (Bg C x S),st,st,st,mk 2 131,RG.pt i109,st,yE5⟩ ?_;intro j7 T V p;repeat apply XL
   refine p.u [.x 43 [] fZ,.x 44 [(43,0)] fZ,⟨some 45,[],.v ZB,.pass⟩,⟨some 46,[],.v ZB,.pass⟩,⟨some 47,[],.v ZB,.pass⟩,⟨some 48,[],.v ZB,.pass⟩,.x 49 [(44,1),(48,5)] fZ] [(2,.p 0 0),(3,.v fZ),(5,.v fZ),(6,.p 2 0),(49,.v fZ)] ⟨st,st,dD rfl rfl,dD rfl rfl,dD rfl rfl,dD rfl rfl,st,yE5⟩ ?_;intro U w8 u;repeat apply XL
   refine Yh u.ev ?_;apply Y2;repeat apply XL
   refine u.T [.x (pv (0:Fin P) (0:Fin P)),.x fZ,.u 0,.x fZ] [] [(0,2,ws (0:Fin P)++(ws (0:Fin P)))] [ws (0:Fin P)++(ws (0:Fin P)),ws x,ws (0:Fin P)++(ws (0:Fin P))] [2,3] ⟨ld iM i109,st,RG.pt i109,st,yE5⟩ ?_;intro O R d;refine Zj<|XR (v:=(.tuple #[pv (0:Fin P) (0:Fin P),fZ])) (cV d.st (t:=2) (u:=3) (T:=131) rfl (b:=0) rfl (d.at (s:=(.p 0 0))) (d.at (s:=(.v fZ))) iM i109) d.sl.defers ?_
   exact⟨_,rfl,d.st.bel.below,rfl⟩
  | some y =>
   refine D.T [.x (fv x),.c (.tuple #[pv x y,tZ]),.x (.tuple #[pv x y,tZ]),.x (pv x y),.x tZ,.m 2,.u 2,.x tZ] [(5,RG.z 8)] [(2,6,ws x++(ws y))] [RG.z 8,ws x,ws x++(ws y)] [0,2,3,5,6] ⟨ld u85 i85,zZ rfl (f:=119) (t1:=39) (v1:=(fv x)) (v:=(.tuple #[pv x y,tZ])) rfl (λa w=>kR) sx (Bf C x y S),st,st,st,mk 2 131,RG.pt i109,st,yE5⟩ ?_;intro j7 T V p;repeat apply XL
   rw[yAy];by_cases J:ub k[0]! = 3
   .rw[yE3 J];generalize N:0-y=q;have r:Gives 196 #[pv x y] (pv x q):=N ▸ RO C x y;refine p.U [.x tZ,.x tZ,.x (v33 g o cap),.x (oZ g o),.x (.int .u8 3),.x tZ,.x tZ] [2,3,5,6,49] ⟨st,st,st,eU rfl 23 (t:=45) (iZ 0) rfl (.v (v33 g o cap)) sx (λμ w=>FB (g:=g) (o:=o) (n:=33) (cap:=cap) dC (w:=w)),bO rfl (k:=g) (off:=o) c Yf (T:=5) (t:=46) rfl (v:=(.int .u8 3)) rfl sx (b.trans (by rw[J])) u5,st,st,yE5⟩ ?_;intro U w8 u;repeat apply XL
    refine YH u.ev ?_;repeat apply XL
    refine u.T [.x (pv x y),.c (pv x q),.u 2] [] [(2,2,ws x++(ws q))] [RG.z 8,ws x,ws x++(ws q)] [2,3,5,6] ⟨ld iM i109,cl r,RG.pt i109,yE5⟩ ?_;intro O R d;repeat apply XL
    refine d.T [.x (pv x q),.x tZ,.u 0,.x tZ] [] [(0,2,ws x++(ws q))] [ws x++(ws q),ws x,ws x++(ws q)] [2,3] ⟨ld iM i109,st,RG.pt i109,st,yE5⟩ ?_;intro h0 h1 j;refine Zj<|XR (v:=(.tuple #[pv x q,tZ])) (cV j.st (t:=2) (u:=3) (T:=131) rfl (b:=0) rfl (j.at (s:=(.p 0 0))) (j.at (s:=(.v tZ))) iM i109) j.sl.defers ?_
    exact⟨_,rfl,j.st.bel.below,rfl⟩
   .rw[yE4 J];have X:ub k[0]! = 2:=oM;refine p.U [.x tZ,.x tZ,.x (v33 g o cap),.x (oZ g o),.x (.int .u8 2),.x fZ,.x fZ] [2,3,5,6,49] ⟨st,st,st,eU rfl 23 (t:=45) (iZ 0) rfl (.v (v33 g o cap)) sx (λμ w=>FB (g:=g) (o:=o) (n:=33) (cap:=cap) dC (w:=w)),bO rfl (k:=g) (off:=o) c Yf (T:=5) (t:=46) rfl (v:=(.int .u8 2)) rfl sx (b.trans (by rw[X])) u5,st,st,yE5⟩ ?_;intro U w8 u;repeat apply XL
    refine Yh u.ev ?_;apply Y2;repeat apply XL
    refine u.T [.x (pv x y),.x tZ,.u 0,.x tZ] [] [(0,2,ws x++(ws y))] [ws x++(ws y),ws x,ws x++(ws y)] [2,3] ⟨ld iM i109,st,RG.pt i109,st,yE5⟩ ?_;intro O R d;refine Zj<|XR (v:=(.tuple #[pv x y,tZ])) (cV d.st (t:=2) (u:=3) (T:=131) rfl (b:=0) rfl (d.at (s:=(.p 0 0))) (d.at (s:=(.v tZ))) iM i109) d.sl.defers ?_
    exact⟨_,rfl,d.st.bel.below,rfl⟩
def Arg33(w:XF)(v:XG)(k:Bs):Prop:=∃(p:Option Y4) (n cap:Nat),v=.slice p n cap/\k.size=n/\(n=33->∃g o,p=some ⟨g,o,none⟩/\33<=cap/\g<w.heap.size/\hZ w g o k)
def Arg33.below{w k:XF}{v:XG}{d:Bs}(h:Arg33 w v d)(c:kZ w k):Arg33 k v d:=by
 obtain⟨p,n,cap,rfl,j,i⟩:=h;refine⟨p,n,cap,rfl,j,λl=>?_⟩;obtain⟨g,o,e,m,b,f⟩:=i l;exact⟨g,o,e,m,XI b c.size,Holds.below f c b⟩
def nW{v:XG}{b:Bs}{w:XF}(C:Fld P)(hv:Arg33 w v b):cZ 156 #[v] w (rZ w λe w'=>e=rdV (rd P b)):=by
 obtain⟨p,n,cap,rfl,c,i⟩:=hv;by_cases k:n=33
 .subst k;obtain⟨g,o,rfl,j,d,f⟩:=i rfl;exact WE C g o cap b w c j d f
 .unfold rd;rw[yE4 (by rw[c];exact k)];exact Rx C p n cap 0 w k
def bx(n:Nat):Bs:=be32 (n%2^64) (n/2^64%2^64) (n/2^128%2^64) (n/2^192%2^64)
def cU(n:Nat):(bx n).size=32:=by unfold bx;exact Bc
def mark(n:Nat):UInt8:=if n%2=1 then 3 else 2
def uP(x y:Fin P):Bs:=if x=0/\y=0 then XW 33 0 else #[mark y.val]++bx x.val
def Ia{x:Fin P}(C:Fld P)(w:XF):cZ 27 #[fv x] w (rZ w λe w'=>∃g,e=sZ g 32 32/\w.heap.size<=g/\hZ w' g 0 (bx x.val)):=
 (Bi _ _ w (C.four x)).mono (by
  rintro e w' ⟨v,rfl,i,g,a,b,c,d,rfl,f,k,j⟩;refine⟨_,rfl,i,g,rfl,f,?_⟩;have l:fv x=.agg #[uZ ((x.val%2^64:Nat):Int),uZ ((x.val/2^64%2^64:Nat):Int),uZ ((x.val/2^128%2^64:Nat):Int),uZ ((x.val/2^192%2^64:Nat):Int)]:=rfl;rw[l]at k;simp only[Value.agg.injEq,Array.mk.injEq,yEf.injEq,Y1.injEq,true_and,and_true,Int.ofNat_inj]at k;obtain⟨rfl,rfl,rfl,rfl⟩:=k;exact j)
def QC(C:Fld P)(y:Fin P):Gives 120 #[fv y] (.bool (decide (y.val%2=1))):=λw =>
 (H6 (C.four y)).mono (by rintro e w' ⟨v,rfl,k,rfl⟩;exact⟨_,rfl,k,rfl⟩)
def ET:(prog.info? 5).map (λi=>(i.zero,i.size,i.bytes))=some (some (.int .u8 0),1,1):=kR
def Jt:prog.underlying 23=some (.slice 5):=kR
def nI(w:XF)(T:Bs)(e:XG)(w':XF):Prop:=∃g cap,e=sZ g 33 cap/\33<=cap/\w.heap.size<=g/\g<w'.heap.size/\hZ w' g 0 T
def WS(w:XF):(yAq 23 (iZ 33) (iZ 33)).run prog w=.ok (sZ w.heap.size 33 33) (w.alloc (.cells (madeCells #[.int .u8 0] 33) 5)):=
 run_make_row' (P:=prog) 23 5 (.int .u8 0) 1 Jt ET rfl .i64 .i64 33 dC dC w
def Su(w:XF)(o:Obj):hZ ((w.alloc o).alloc (.cells (madeCells #[.int .u8 0] 33) 5)) (w.heap.size+1) 0 (XW 33 0):=by
 have h:=Holds.made (enc:=encB) (w.alloc o) 5 33 (0:UInt8);rw[XS]at h;exact h
omit [NeZero P] in
theorem lN(x y:Fin P):pv x y=.agg #[uZ ((x.val%2^64:Nat):Int),uZ ((x.val/2^64%2^64:Nat):Int),uZ ((x.val/2^128%2^64:Nat):Int),uZ ((x.val/2^192%2^64:Nat):Int),uZ ((y.val%2^64:Nat):Int),uZ ((y.val/2^64%2^64:Nat):Int),uZ ((y.val/2^128%2^64:Nat):Int),uZ ((y.val/2^192%2^64:Nat):Int)]:=rfl
def Ft(C:Fld P)(x y:Fin P)(i:x=0/\y=0)(w:XF):cZ 70 #[pv x y] w (rZ w λe w'=>nI w (XW 33 0) e w'):=by
 have k:=LS C (x:=x) (y:=y) (z:=0) (t:=0) i;rw[<-iI,lN]at k;rw[lN];generalize ((x.val%2^64:Nat):Int)=a at k⊢;generalize ((x.val/2^64%2^64:Nat):Int)=b at k⊢;generalize ((x.val/2^128%2^64:Nat):Int)=c at k⊢;generalize ((x.val/2^192%2^64:Nat):Int)=d at k⊢;generalize ((y.val%2^64:Nat):Int)=p at k⊢;generalize ((y.val/2^64%2^64:Nat):Int)=q at k⊢;generalize ((y.val/2^128%2^64:Nat):Int)=r at k⊢;generalize ((y.val/2^192%2^64:Nat):Int)=s at k⊢;have j:=WS;generalize g:(XW 33 0:Bs)=T;go_enter func70,ntmps70;go_wp2;go_ret;have f:=Su w (.cells #[uZ a,uZ b,uZ c,uZ d,uZ p,uZ q,uZ r,uZ s] 131);rw[g]at f;exact⟨_,rfl,below2 _ _ _,_,33,rfl,oM,oM,by simp,f⟩
def LG{w:XF}{k g m:Nat}{B:Bs}(f:B.size=32)(r:w.cell? ⟨k,0,none⟩=some (.int .u8 m))(q:hZ w g 0 B)(n:m<256:=by decide):
 ∃(w':XF) (cap:Nat),(YK #[23,23] 23 #[sZ k 1 1,sZ g 32 32]).run prog w=.ok (sZ w.heap.size 33 cap) w'/\kZ w w'/\33<=cap/\w.heap.size<w'.heap.size/\hZ w' w.heap.size 0 (#[XY m]++B):=by
 obtain⟨i,p,d⟩:=XK.1 ET;simp only[Zl.injEq]at d;obtain⟨o,l,s⟩:=d;have e:=run_append_grow (P:=prog) w 23 23 5 i (.int .u8 0) Jt p o (aZ k) 1 1 [.int .u8 m] (by rw[l];rfl) (λj v b=>by
  cases j with
  | zero =>
   obtain rfl:Y1 .u8 m=v:=by simpa using b
   rw[yDm];exact r
  | succ j=>simp at b) ⟨g,0,none⟩ 32 32 (B.toList.map encB) (by rw[l,X7,X0,f]) (λj v b=>by
  have c:j<B.size:=by
   have:=(XT.1 b).1;rwa[X7,X0]at this
  rw[yDm,(q j c).1];rw[YC,YI,Ye c]at b;rw[getElem!_pos B j c];exact b) dC dC (by rw[s];decide)
 refine⟨_,_,e,?_,?_,?_,?_⟩
 .exact(XX _ w).drew.trans (aC _)
 .exact grownCap_ge w (1+32) 1 5
 .show w.drew.heap.size<(w.drew.alloc _).heap.size;rw[XS];exact yB2 _
 .intro j b;have c:(#[XY m]++B).size=33:=by rw[Ys,f];rfl
  refine⟨?_,Zz w.drew _ _ _⟩;show(w.drew.alloc _).cell? ⟨w.drew.heap.size,0+j,none⟩=_;rw[XQ,Yz,getElem!_pos _ j b,yAK (by
   rw[Ys,YJ,YJ,X7,X0];show j<1+B.size;omega)]
  cases j with
  | zero =>
   rw[yAK (by simp),yBz (by simp)];show some (Y1 .u8 m)=some (encB (XY m));unfold encB;rw[nO,Ya n]
  | succ i =>
   rw[yBq (by simp),yCK (by simp),Yp,YC,YI];show Option.map encB B[i]? = some (encB B[i]);rw[Ye oM];rfl
def P8(w:XF)(a b c d p q r s:Nat):Kept w w.heap.size [⟨w.heap.size,0,a,b,c,d⟩,⟨w.heap.size,4,p,q,r,s⟩] (w.alloc (.cells #[uZ a,uZ b,uZ c,uZ d,uZ p,uZ q,uZ r,uZ s] 131)):=by
 have F:=At8.made w 131 a b c d p q r s rfl;refine((Kept.mk1 (aC (w:=w) _) (aC _).size).cons ?_).cons ?_
 .exact⟨F.c4,F.c5,F.c6,F.c7,F.fz⟩
 .exact⟨F.c0,F.c1,F.c2,F.c3,F.fz⟩
def I5(C:Fld P)(x y:Fin P)(K:¬(x=0/\y=0))(ho:y.val%2=1)(w:XF):cZ 70 #[pv x y] w (rZ w λe w'=>nI w (#[3]++bx x.val) e w'):=by
 have k:=EY C (x:=x) (y:=y) (z:=0) (t:=0) K;rw[<-iI,lN]at k;rw[lN];have i:∀w,cZ 120 #[.agg #[uZ ((y.val%2^64:Nat):Int),uZ ((y.val/2^64%2^64:Nat):Int),uZ ((y.val/2^128%2^64:Nat):Int),uZ ((y.val/2^192%2^64:Nat):Int)]] w (rZ w λe w'=>e=tZ):=λw=>by
  have h:=QC C y w;rw[decide_eq_true ho]at h;exact h
 have f:∀w,cZ 27 #[.agg #[uZ ((x.val%2^64:Nat):Int),uZ ((x.val/2^64%2^64:Nat):Int),uZ ((x.val/2^128%2^64:Nat):Int),uZ ((x.val/2^192%2^64:Nat):Int)]] w (rZ w λe w'=>∃g,e=sZ g 32 32/\w.heap.size<=g/\hZ w' g 0 (bx x.val)):=Ia C;have o:=cU x.val;generalize bx x.val=B at f o⊢;generalize x.val%2^64=a at k i f⊢;generalize x.val/2^64%2^64=b at k i f⊢;generalize x.val/2^128%2^64=c at k i f⊢;generalize x.val/2^192%2^64=d at k i f⊢;generalize y.val%2^64=p at k i f⊢;generalize y.val/2^64%2^64=q at k i f⊢;generalize y.val/2^128%2^64=r at k i f⊢;generalize y.val/2^192%2^64=s at k i f⊢;have U:=mk1 (k);go_enter func70,ntmps70;go_wp2_with fail
 have l:=P8 w a b c d p q r s;generalize I:w.heap.size=V at l⊢;apply(i _).mono;rintro e u ⟨v,rfl,D,rfl⟩;replace l:=l.call D;obtain⟨N,R,L,S,X⟩:=l.head;have zx:=l.head.lt;go_wp2_with fail
 apply(f _).mono;rintro e J ⟨v,rfl,j,g,rfl,T,O⟩;have Q:J.cell? ⟨u.heap.size,0,none⟩=some (.int .u8 3):=by
  rw[j.cell (p:=⟨u.heap.size,0,none⟩) (by show u.heap.size<_;rw[XS];omega),Yz];rfl
 have n:=XN l.le (XN (by rw[XS];omega) j.size);have F:=mk1 (((l.alloc _).call j).bl);obtain⟨W,M,E,H,A,m,G⟩:=LG o Q O;go_wp2_with (at_builtin;refine yAs _ rfl _ _ 23 23 rfl _ _ rfl rfl _ _ E ?_)
 go_ret;refine⟨_,rfl,?_,_,M,rfl,A,?_,m,G⟩
 .rw[I];exact F.trans (H.mono n)
 .rw[I];exact n
def Fu(C:Fld P)(x y:Fin P)(K:¬(x=0/\y=0))(ho:¬y.val%2=1)(w:XF):cZ 70 #[pv x y] w (rZ w λe w'=>nI w (#[2]++bx x.val) e w'):=by
 have k:=EY C (x:=x) (y:=y) (z:=0) (t:=0) K;rw[<-iI,lN]at k;rw[lN];have i:∀w,cZ 120 #[.agg #[uZ ((y.val%2^64:Nat):Int),uZ ((y.val/2^64%2^64:Nat):Int),uZ ((y.val/2^128%2^64:Nat):Int),uZ ((y.val/2^192%2^64:Nat):Int)]] w (rZ w λe w'=>e=fZ):=λw=>by
  have h:=QC C y w;rw[decide_eq_false ho]at h;exact h
 have f:∀w,cZ 27 #[.agg #[uZ ((x.val%2^64:Nat):Int),uZ ((x.val/2^64%2^64:Nat):Int),uZ ((x.val/2^128%2^64:Nat):Int),uZ ((x.val/2^192%2^64:Nat):Int)]] w (rZ w λe w'=>∃g,e=sZ g 32 32/\w.heap.size<=g/\hZ w' g 0 (bx x.val)):=Ia C;have o:=cU x.val;generalize bx x.val=B at f o⊢;generalize x.val%2^64=a at k i f⊢;generalize x.val/2^64%2^64=b at k i f⊢;generalize x.val/2^128%2^64=c at k i f⊢;generalize x.val/2^192%2^64=d at k i f⊢;generalize y.val%2^64=p at k i f⊢;generalize y.val/2^64%2^64=q at k i f⊢;generalize y.val/2^128%2^64=r at k i f⊢;generalize y.val/2^192%2^64=s at k i f⊢;have U:=mk1 (k);go_enter func70,ntmps70;go_wp2_with fail
 have l:=P8 w a b c d p q r s;generalize I:w.heap.size=V at l⊢;apply(i _).mono;rintro e u ⟨v,rfl,D,rfl⟩;replace l:=l.call D;obtain⟨N,R,L,S,X⟩:=l.head;have zx:=l.head.lt;go_wp2_with fail
 apply(f _).mono;rintro e J ⟨v,rfl,j,g,rfl,T,O⟩;have Q:J.cell? ⟨u.heap.size,0,none⟩=some (.int .u8 2):=by
  rw[j.cell (p:=⟨u.heap.size,0,none⟩) (by show u.heap.size<_;rw[XS];omega),Yz];rfl
 have n:=XN l.le (XN (by rw[XS];omega) j.size);have F:=mk1 (((l.alloc _).call j).bl);obtain⟨W,M,E,H,A,m,G⟩:=LG o Q O;go_wp2_with (at_builtin;refine yAs _ rfl _ _ 23 23 rfl _ _ rfl rfl _ _ E ?_)
 go_ret;refine⟨_,rfl,?_,_,M,rfl,A,?_,m,G⟩
 .rw[I];exact F.trans (H.mono n)
 .rw[I];exact n
def xG{x y:Fin P}(C:Fld P)(w:XF):cZ 70 #[pv x y] w (rZ w λe w'=>nI w (uP x y) e w'):=by
 unfold uP mark;by_cases k:x=0/\y=0
 .rw[yE3 k];exact Ft C x y k w
 .rw[yE4 k];by_cases ho:y.val%2=1
  .rw[yE3 ho];exact I5 C x y k ho w
  .rw[yE4 ho];exact Fu C x y k ho w
def u23:wZ 23:=wQ
def Px{k o n c i:Nat}{w:XF}(b:i<n):(YV 27 (qZ k o n c) (iZ i)).run prog w=.ok (oZ k (o+i)) w:=by
 go_simp
def UJ{N:Nat}(d:N<=512):∃C0:List XG,C0.length=8*N/\∀w:XF,(yAq 138 (iZ N) (iZ N)).run prog w=.ok (sZ w.heap.size N N) (w.alloc (.cells C0.toArray 131)):=by
 have j:prog.underlying 138=some (.slice 131):=kR;have e:(prog.info? 131).map (λi=>(i.size,decide (i.bytes<=4000),i.zero.isSome))=some (8,true,true):=kR;obtain⟨i,b,k⟩:=XK.1 e;simp only[Zl.injEq,decide_eq_true_eq]at k;obtain⟨g,m,f⟩:=k;obtain⟨z,l⟩:=YP.1 f;refine⟨(madeCells z.cells (N*8)).toList,by rw[X0,yDs,YN],λw=>?_⟩;have c:(i.bytes:Int)*(N:Int)<=281474976710656:=by
  have:i.bytes*N<=4000*512:=ZP m d;have n:((i.bytes*N:Nat):Int)<=281474976710656:=oM;rwa[yAx]at n
 have:=run_make (P:=prog) w 138 131 i z j b l .i64 .i64 (N:Int) (N:Int) oM oM c oM;rw[yBW,g]at this;rw[yBn];exact this
def WR{N:Nat}(d:N<=512):∃C0:List XG,C0.length=4*N/\∀w:XF,(yAq 127 (iZ N) (iZ N)).run prog w=.ok (sZ w.heap.size N N) (w.alloc (.cells C0.toArray 42)):=by
 have j:prog.underlying 127=some (.slice 42):=kR;have e:(prog.info? 42).map (λi=>(i.size,decide (i.bytes<=4000),i.zero.isSome))=some (4,true,true):=kR;obtain⟨i,b,k⟩:=XK.1 e;simp only[Zl.injEq,decide_eq_true_eq]at k;obtain⟨g,m,f⟩:=k;obtain⟨z,l⟩:=YP.1 f;refine⟨(madeCells z.cells (N*4)).toList,by rw[X0,yDs,YN],λw=>?_⟩;have c:(i.bytes:Int)*(N:Int)<=281474976710656:=by
  have:i.bytes*N<=4000*512:=ZP m d;have n:((i.bytes*N:Nat):Int)<=281474976710656:=oM;rwa[yAx]at n
 have:=run_make (P:=prog) w 127 42 i z j b l .i64 .i64 (N:Int) (N:Int) oM oM c oM;rw[yBW,g]at this;rw[yBn];exact this
structure Rows(sz N:Nat)(cell:Nat->List XG)(m:Nat)(C:List XG):Prop where
 len:C.length=sz*N
 row:∀j r,j<m->r<sz->C[sz*j+r]? = (cell j)[r]?
def Rows.next{sz N m:Nat}{cell:Nat->List XG}{C:List XG}(h:Rows sz N cell m C)(f:m<N)(c:(cell m).length=sz):Rows sz N cell (m+1) (rep C (0+sz*m) (cell m)):=by
 have k:=h.len;have g:sz*m+sz<=sz*N:=by rw[<-yA1];exact yAf _ f
 have d:0+sz*m+(cell m).length<=C.length:=by rw[c];omega
 refine⟨by rw[cY d];exact k,λj r i e=>?_⟩;rw[RG.rep_at d];by_cases b:j=m
 .subst b;rw[yE3 (by rw[c];omega),show sz*j+r-(0+sz*j)=r by omega]
 .have l:sz*j+sz<=sz*m:=by rw[<-yA1];exact yAf _ oM
  rw[yE4 (by rw[c];omega)];exact h.row j r oM e
def rq(N:Nat)(k:Bs):Option Nat:=if k.size=32/\beV k.toList<N then some (beV k.toList) else none
def rqV:Option Nat->XG
 | none=>.tuple #[nv 0,fZ]
 | some n=>.tuple #[nv n,tZ]
def fV:Gives 28 #[] gv1:=λw=>(DO).mono (by rintro e w' ⟨rfl,rfl⟩;exact⟨_,rfl,aC _,rfl⟩)
def BF{v:XG}{d:Bs}{w:XF}{N:Nat}(hG:Gap 4624529908474429119 4994812053365940164 1 N)(hv:Arg w v d):cZ 29 #[gv1,v] w (rZ w λe w'=>e=rqV (rq N d)):=by
 obtain⟨p,n,cap,rfl,b,l⟩:=hv;unfold rq;by_cases c:n=32
 .subst c;obtain⟨g,o,rfl,q,m,j⟩:=l rfl;apply(Am _ _ _ N g o cap d hG w b q m j).mono;rintro e w' ⟨v,rfl,k,⟨f,r,rfl,i⟩|⟨f,rfl⟩⟩
  .rw[yE3 ⟨b,f⟩];exact⟨_,rfl,k,by rw[i.nv];rfl⟩
  .rw[yE4 (λh=>oM)];exact⟨_,rfl,k,rfl⟩
 .apply(MR _ p n cap w _ _ _ rfl c).mono;rintro e w' ⟨v,rfl,k,rfl⟩;rw[yE4 (λh=>c (b.symm.trans h.1))];exact⟨_,rfl,k,rfl⟩
structure RefP(p0 p1 p2 p3 c0 c1 c2 c3 P:Nat):Prop where
 hp0:p0<18446744073709551616
 hp1:p1<18446744073709551616
 hp2:p2<18446744073709551616
 hp3:p3<18446744073709551616
 hc0:c0<18446744073709551616
 hc1:c1<18446744073709551616
 hc2:c2<18446744073709551616
 hc3:c3<18446744073709551616
 eP:P=val p0 p1 p2 p3
 hP:P+val c0 c1 c2 c3=top
 hP2:top<2*P
def Ul:RefP 13822214165235122497 13451932020343611451 18446744073709551614 18446744073709551615 4624529908474429119 4994812053365940164 1 0 Go.Proofs.YtlofhpkoaljmeaaGreat.p1:=
 ⟨dC,dC,dC,dC,dC,dC,dC,dC,dK,dK,dK⟩
def XE(v:XG)(n:Nat):Prop:=∃a b c d f g e k:Nat,v=.agg #[uZ a,uZ b,uZ c,uZ d,uZ f,uZ g,uZ e,uZ k] /\
 a<2^64/\b<2^64/\c<2^64/\d<2^64/\f<2^64/\g<2^64/\e<2^64/\k<2^64 /\
 n=val a b c d+top*val f g e k
def wordOf(a b c d k:Nat):Nat:=if k<8 then a else if k<16 then b else if k<24 then c else d
end
section
structure Ord(N:Nat):Prop where
 gap:Gap 4624529908474429119 4994812053365940164 1 N
 ref:RefP 13822214165235122497 13451932020343611451 18446744073709551614 18446744073709551615 4624529908474429119 4994812053365940164 1 0 N
 le:N<=top
 n2:2<=N%18446744073709551616
variable {N:Nat}
def Ord.pos(O:Ord N):0<N:=oN O.n2
def Ord.four(O:Ord N){a:Nat}(h:a<N):Four (nv a) a:=xE (XI h O.le)
def sMi(N a b:Nat):Nat:=(a+N-b)%N
def sTi(N a b:Nat):Nat:=a*b%N
def sIn(N a:Nat):Nat:=a^(N-2)%N
def JY(O:Ord N){a b:Nat}(c:a<N)(k:b<N):Gives 121 #[gv1,nv a,nv b] (nv (sMi N a b)):=λw =>
 (uV O.gap (O.four c) (O.four k) c k).mono (by rintro e w' ⟨v,rfl,k,d⟩;exact⟨_,rfl,k,d.nv⟩)
def JV(O:Ord N){a b:Nat}(c:a<N)(k:b<N):Gives 51 #[gv1,nv a,nv b] (nv (sTi N a b)):=λw =>
 (qG O.gap (O.four c) (O.four k)).mono (by rintro e w' ⟨v,rfl,k,d⟩;exact⟨_,rfl,k,d.nv⟩)
def Rr(O:Ord N){a:Nat}(b:a<N):Gives 174 #[gv1,nv a] (nv (sIn N a)):=λw =>
 (wE _ _ _ N _ a O.gap O.n2 (O.four b) w).mono (by rintro e w' ⟨v,rfl,k,c⟩;exact⟨_,rfl,k,c.nv⟩)
def KI{a x y z u:Nat}(h:nv a=.agg #[uZ x,uZ y,uZ z,uZ u]):be32 x y z u=bx a:=by
 have k:wn a=[uZ x,uZ y,uZ z,uZ u]:=by
  unfold nv at h;injection h with h
  exact congrArg Array.toList h
 unfold wn at k;simp only[yEf.injEq,Y1.injEq,true_and,and_true,Int.natCast_inj]at k;obtain⟨rfl,rfl,rfl,rfl⟩:=k;rfl
def cb(b:Bs):List XG:=b.toList.map encB
def mC(b:Bs):(cb b).length=b.size:=by unfold cb;rw[X7,X0]
def sU{w:XF}{g:Nat}{b:Bs}(h:hZ w g 0 b):w.rangeAt g 0 (cb b)/\w.there g 0 (cb b).length:=by
 refine⟨λj v hv=>?_,λj k=>?_⟩
 .have k:j<b.size:=by rw[<-mC];exact(XT.1 hv).1
  rw[(h j k).1];unfold cb at hv;rw[YC,YI,Ye k]at hv;rw[getElem!_pos b j k];exact hv
 .rw[mC]at k;exact⟨by rw[(h j k).1];rfl,(h j k).2⟩
theorem cb_holds{w:XF}{g:Nat}{b:Bs}(c:w.rangeAt g 0 (cb b))(d:w.there g 0 (cb b).length):hZ w g 0 b:=λj k=>by
 refine⟨c j _ ?_,(d j (by rw[mC];exact k)).2⟩;unfold cb;rw[YC,YI,Ye k,getElem!_pos b j k];rfl
def MZ(f:FuncId)(args:Array XG)(b:Bs)(n:Nat):Prop:=∀w,cZ f args w (Ret λe w'=>∃k,Made w k (cb b) w'/\e=sZ k n n)
def JZ(O:Ord N){a:Nat}(f:a<N):MZ 27 #[nv a] (bx a) 32:=λw =>
 (Bi _ a w (O.four f)).mono (by
  rintro e w' ⟨v,rfl,j,g,x,y,z,u,rfl,b,c,k⟩;rw[KI c]at k;obtain⟨d,i⟩:=sU k;exact⟨_,rfl,g,⟨j,b,Holds.lt k (by rw[cU];omega),d,i⟩,rfl⟩)
end
section
variable {P:Nat}[NeZero P]{N:Nat}
def Xi{a b c d p q r s:Nat}{w:XF}:(binOp .eql 44 (.agg #[uZ a,uZ b,uZ c,uZ d]) (.agg #[uZ p,uZ q,uZ r,uZ s])).run prog w=.ok (.bool (decide (a=p/\b=q/\c=r/\d=s))) w:=by
 go_simp;rw[GZ 9997,YE];by_cases k:a=p/\b=q/\c=r/\d=s
 .rw[decide_eq_true k];obtain⟨rfl,rfl,rfl,rfl⟩:=k;simp
 .have e:(decide (a=p) && (decide (b=q) && (decide (c=r) && decide (d=s))))=false:=by
   rw[<-Bool.not_eq_true,XZ,XZ,XZ];simpa using k
  rw[decide_eq_false k,e];simp
def eqS{w:XF}{a b:Nat}(c:a<top)(k:b<top):(binOp .eql 44 (nv a) (nv b)).run prog w=.ok (.bool (decide (a=b))) w:=by
 refine(Xi).trans ?_;simp only[Bq c k]
def u40:yZ 44:=yQ
def i40:gZ 44 4:=gQ
def u38:yZ 42:=yQ
def i38:gZ 42 4:=gQ
def Ek(O:Ord N)(a b:Nat)(e:a<N)(c:b<N):Gives 71 #[(nv a),(nv b)] (nv (sMi N a b)):=by
 intro w;go_enter func71,ntmps71;refine RG.M.enter [(0,.v (nv a)),(1,.v (nv b))] 12 kR ?_;intro a0 f;repeat apply XL
 refine f.T [.m 0,.m 1,.m 2] [(0,wn a),(1,wn b),(2,RG.z 4)] [] [wn a,wn b,RG.z 4] [2,3,4] ⟨mk 0 44,mk 1 44,mk 2 44,yE5⟩ ?_;intro m g l i n d;repeat apply XL
 refine d.D [.c gv1,.s (.p 0 0),.x (nv a),.s (.p 1 0),.x (nv b),.c (nv (sMi N a b)),.x (nv (sMi N a b)),.u 2] [] [(2,7,wn (sMi N a b))] [wn a,wn b,wn (sMi N a b)] [4] ⟨cl fV,st,ld u38 i38,st,ld u38 i38,cl (JY O e c),st,RG.pt i40,yE5⟩ ?_;intro a2 j k;refine Zj<|XR (v:=(nv (sMi N a b))) (aH k.st rfl rfl (k.at (s:=(.p 2 0))) u40 i40) k.sl.defers ?_
 exact⟨_,rfl,k.st.bel.below,rfl⟩
def gW(O:Ord N)(a b:Nat)(e:a<N)(c:b<N):Gives 26 #[(nv a),(nv b)] (nv (sTi N a b)):=by
 intro w;go_enter func26,ntmps26;refine RG.M.enter [(0,.v (nv a)),(1,.v (nv b))] 12 kR ?_;intro a0 f;repeat apply XL
 refine f.T [.m 0,.m 1,.m 2] [(0,wn a),(1,wn b),(2,RG.z 4)] [] [wn a,wn b,RG.z 4] [2,3,4] ⟨mk 0 44,mk 1 44,mk 2 44,yE5⟩ ?_;intro m g l i n d;repeat apply XL
 refine d.D [.c gv1,.s (.p 0 0),.x (nv a),.s (.p 1 0),.x (nv b),.c (nv (sTi N a b)),.x (nv (sTi N a b)),.u 2] [] [(2,7,wn (sTi N a b))] [wn a,wn b,wn (sTi N a b)] [4] ⟨cl fV,st,ld u38 i38,st,ld u38 i38,cl (JV O e c),st,RG.pt i40,yE5⟩ ?_;intro a2 j k;refine Zj<|XR (v:=(nv (sTi N a b))) (aH k.st rfl rfl (k.at (s:=(.p 2 0))) u40 i40) k.sl.defers ?_
 exact⟨_,rfl,k.st.bel.below,rfl⟩
def wS(O:Ord N)(a:Nat)(c:a<N):Gives 144 #[(nv a)] (nv (sIn N a)):=by
 intro w;go_enter func144,ntmps144;refine RG.M.enter [(0,.v (nv a))] 8 kR ?_;intro a0 d;repeat apply XL
 refine d.T [.m 0,.m 1] [(0,wn a),(1,RG.z 4)] [] [wn a,RG.z 4] [1,2] ⟨mk 0 44,mk 1 44,yE5⟩ ?_;intro i e f j b;repeat apply XL
 refine b.D [.c gv1,.s (.p 0 0),.x (nv a),.c (nv (sIn N a)),.x (nv (sIn N a)),.u 1] [] [(1,5,wn (sIn N a))] [wn a,wn (sIn N a)] [2] ⟨cl fV,st,ld u38 i38,cl (Rr O c),st,RG.pt i40,yE5⟩ ?_;intro a2 g k;refine Zj<|XR (v:=(nv (sIn N a))) (aH k.st rfl rfl (k.at (s:=(.p 1 0))) u40 i40) k.sl.defers ?_
 exact⟨_,rfl,k.st.bel.below,rfl⟩
def NE(v:XG)(m:Nat)(ok:Bool)(w:XF)(c:∀w',BelX w.heap.size [] w w'->cZ 29 #[gv1,v] w' (Ret λe b=>kZ w' b/\e=.tuple #[nv m,.bool ok])):
 cZ 11 #[v] w (rZ w λe w'=>e=.tuple #[nv m,.bool ok]):=by
 go_enter func11,ntmps11;refine RG.M.enter [(0,.v v)] 15 kR ?_;intro a0 g;repeat apply XL
 refine g.T [.m 0,.x fZ] [(0,RG.z 4)] [] [RG.z 4] [0,2,3] ⟨mk 0 44,st,yE5⟩ ?_;intro j i n f;repeat apply XL
 refine f.T [.c gv1,.x v,.c (.tuple #[nv m,.bool ok]),.x (.tuple #[nv m,.bool ok]),.x (nv m),.x (.bool ok),.m 1,.u 1,.x (.bool ok)] [(6,RG.z 4)] [(1,7,wn m)] [RG.z 4,wn m] [2,3,4,5] ⟨cl fV,st,clB (λ_ _=>kR) c,st,st,st,mk 1 42,RG.pt i38,st,yE5⟩ ?_;intro l a2 p d;repeat apply XL
 refine d.T [.x (nv m),.x (nv m),.x (.bool ok),.u 0,.x (.bool ok)] [] [(0,3,wn m)] [wn m,wn m] [2,3] ⟨ld u38 i38,st,st,RG.pt i40,st,yE5⟩ ?_;intro o q k;refine Zj<|XR (v:=.tuple #[nv m,.bool ok]) (cV k.st rfl rfl (k.at (s:=.p 0 0)) (k.av (v:=.bool ok) kR) u40 i40) k.sl.defers ?_
 exact⟨_,rfl,k.st.bel.below,rfl⟩
def wO{v:XG}{k:Bs}{w:XF}(O:Ord N)(hv:Arg w v k):cZ 11 #[v] w (rZ w λe w'=>e=.tuple #[nv ((rq N k).getD 0),.bool (rq N k).isSome]):=by
 refine NE v _ _ w λw' c=>?_
 have h:=BF O.gap (hv.below c.below);cases b:rq N k with
 | none=>rw[b]at h;exact h
 | some n=>rw[b]at h;exact h
def nV(O:Ord N){a:Nat}(d:a<N):MZ 10 #[nv a] (bx a) 32:=by
 intro w;go_enter func10,ntmps10;refine RG.M.enter [(0,.v (nv a))] 6 kR ?_;intro a0 e;repeat apply XL
 refine e.T [.m 0,.x nZ] [(0,wn a)] [] [wn a] [1,2] ⟨mk 0 44,st,yE5⟩ ?_;intro j f l c;repeat apply XL
 refine c.t [.s 3 [] (.p 0 0),.x 4 [(3,0)] (nv a),⟨some 5,[(4,1)],.s 1 32 32,.make 1⟩,.s 2 [(5,2)] (.s 1 32 32)] [(2,cb (bx a))] [] [wn a,cb (bx a)] [(2,.s 1 32 32)] ⟨st,ld u38 i38,RG.cm 1 (λw _=>JZ O d w) λ_ _=>kR,st,yE5⟩ ?_;intro g a2 i k;refine Zj<|XR (v:=_) (jJ rfl (k.at (s:=.s 1 32 32))) k.sl.defers ?_
 exact⟨_,rfl,_,k.st.made (b:=1) rfl,rfl⟩
end
namespace SP
def WV(x:BitVec 64):(x.toNat:Int)<2^64:=by
 have:=x.isLt;omega
def dZ(x:BitVec 64):yAk 64 (x.toNat:Int)=x:=by
 apply yC7;rw[yDe,yB5];exact Ya x.isLt
def fX(x:BitVec 64):Yy.wrap (x.toNat:Int)=x.toNat:=by
 rw[ZX];have:=WV x;exact yDV oM this
def u(v:BitVec 64):Int:=(v.toNat:Int)
def dB(a b:BitVec 64):bits .xor .u64 (u a) (u b)=u (a ^^^ b):=by
 show Yy.wrap ((yAk 64 (a.toNat:Int) ^^^ yAk 64 (b.toNat:Int)).toNat:Int)=_;rw[dZ,dZ,fX];rfl
def dX(a b:BitVec 64):bits .and .u64 (u a) (u b)=u (a &&& b):=by
 show Yy.wrap ((yAk 64 (a.toNat:Int) &&& yAk 64 (b.toNat:Int)).toNat:Int)=_;rw[dZ,dZ,fX];rfl
def eD(a b:BitVec 64):bits .or .u64 (u a) (u b)=u (a ||| b):=by
 show Yy.wrap ((yAk 64 (a.toNat:Int) ||| yAk 64 (b.toNat:Int)).toNat:Int)=_;rw[dZ,dZ,fX];rfl
def rF(a:BitVec 64):bits .xor .u64 Yy.max (u a)=u (~~~a):=by
 have e:Yy.max=u (BitVec.allOnes 64):=dK;rw[e,dB,BitVec.allOnes_xor]
def VO{k:Nat}(b:k<64):bits .and .u64 (k:Int) 63=k:=by
 have h:∀j:Fin 64,bits .and .u64 ((j.val:Nat):Int) 63=(j.val:Int):=dK;exact h ⟨k,b⟩
def JS(x:BitVec 64)(k:Nat):Yy.wrap (u x*2^k)=u (x <<< k):=by
 unfold u;rw[ZX,BitVec.toNat_shiftLeft,Nat.shiftLeft_eq,Int.natCast_emod,yAx,yCU];rfl
def PT(x:BitVec 64)(k:Nat):u x/2^k=u (x >>> k):=by
 unfold u;rw[BitVec.toNat_ushiftRight,Nat.shiftRight_eq_div_pow,yBX,yCU];rfl
def rol(w:BitVec 64)(n:Nat):BitVec 64:=w <<< n ||| w >>> (64-n)
abbrev St:=Array (BitVec 64)
def enc(v:BitVec 64):XG:=uZ (u v)
def Fg(d:St)(x:Nat):BitVec 64:=d[x]! ^^^ d[x+5]! ^^^ d[x+10]! ^^^ d[x+15]! ^^^ d[x+20]!
def qQ(d:St):Nat->St
 | 0=>#[0,0,0,0,0]
 | k+1=>(qQ d k).setIfInBounds k (Fg d k)
def bX(d:St)(i:Nat)(v:BitVec 64):St:=d.setIfInBounds i (d[i]! ^^^ v)
def nA(v:BitVec 64)(x:Nat)(d:St):Nat->St
 | 0=>d
 | m+1=>bX (nA v x d m) (x+5*m) v
def S4(s:St)(x:Nat):BitVec 64:=s[(x+4)%5]! ^^^ rol s[(x+1)%5]! 1
def oY(s d:St):Nat->St
 | 0=>d
 | k+1=>nA (S4 s k) k (oY s d k) 5
def xT(d:St):St:=oY (qQ d 5) d 5
def dO(d:St)(i:Nat)(v:BitVec 64):(bX d i v).size=d.size:=by simp[bX]
def uX(d:St)(k:Nat):(qQ d k).size=5:=by
 induction k with
 | zero=>rfl
 | succ k ih=>simp[qQ,ih]
def sJ(v:BitVec 64)(x:Nat)(d:St)(m:Nat):(nA v x d m).size=d.size:=by
 induction m with
 | zero=>rfl
 | succ k ih=>simp[nA,dO,ih]
def rI{s d:St}{m:Nat}:(oY s d m).size=d.size:=by
 induction m with
 | zero=>rfl
 | succ k ih=>simp[oY,sJ,ih]
structure Tm where
 x:Nat
 y:Nat
 m:BitVec 64
 d:St
def offs(t:Nat):Nat:=(t+1)*(t+2)/2%64
def D6(t:Nat)(s:Tm):Tm:=
 { x:=s.y,y:=(2*s.x+3*s.y)%5,m:=s.d[s.y+5*((2*s.x+3*s.y)%5)]!,d:=s.d.setIfInBounds (s.y+5*((2*s.x+3*s.y)%5)) (rol s.m (offs t)) }
def wH(d:St):Nat->Tm
 | 0=>{ x:=1,y:=0,m:=d[1]!,d:=d }
 | t+1=>D6 t (wH d t)
def AH(d:St):St:=(wH d 24).d
def FW{d:St}(hd:d.size=25)(t:Nat):(wH d t).x<5/\(wH d t).y<5/\(wH d t).d.size=25:=by
 induction t with
 | zero=>exact⟨show 1<5 by decide,show 0<5 by decide,hd⟩
 | succ t ih =>
  obtain⟨c,b,k⟩:=ih;refine⟨b,?_,?_⟩
  .show(2*(wH d t).x+3*(wH d t).y)%5<5;omega
  .show((wH d t).d.setIfInBounds _ _).size=25;rw[YT,k]
def rowAt(d:St)(i:Nat):St:=
 bX (bX (bX (bX (bX d i (~~~d[i+1]! &&& d[i+2]!)) (i+1) (~~~d[i+2]! &&& d[i+3]!)) (i+2) (~~~d[i+3]! &&& d[i+4]!)) (i+3) (~~~d[i+4]! &&& d[i]!)) (i+4) (~~~d[i]! &&& d[i+1]!)
def zQ(d:St):Nat->St
 | 0=>d
 | k+1=>rowAt (zQ d k) (5*k)
def chi(d:St):St:=zQ d 5
def Eo(d:St)(i:Nat):(rowAt d i).size=d.size:=by simp[rowAt,dO]
def zP{d:St}{k:Nat}:(zQ d k).size=d.size:=by
 induction k with
 | zero=>rfl
 | succ k ih=>simp[zQ,Eo,ih]
def yI(r:Nat):Nat:=if 255<2*r then(2*r) ^^^ 369 else 2*r
def yG(r:Nat):Nat->BitVec 64 × Nat
 | 0=>(0,r)
 | j+1=>((yG r j).1 ||| yA6 64 ((yG r j).2%2) <<< (2^j-1),yI (yG r j).2)
def CO{r:Nat}(h:r<256):yI r<256:=by
 have H:∀j:Fin 256,yI j.val<256:=dK;exact H ⟨r,h⟩
def N9{r j:Nat}(h:r<256):(yG r j).2<256:=by
 induction j with
 | zero=>exact h
 | succ j ih=>exact CO ih
def RD{r:Nat}(h:r<256):bits .xor .i64 ((r:Int)*2) 369=(((2*r) ^^^ 369:Nat):Int):=by
 have H:∀j:Fin 256,bits .xor .i64 ((j.val:Int)*2) 369=(((2*j.val) ^^^ 369:Nat):Int):=dK;exact H ⟨r,h⟩
def RH{r:Nat}(h:r<256):bits .and .i64 (r:Int) 1=u (yA6 64 (r%2)):=by
 have H:∀j:Fin 256,bits .and .i64 (j.val:Int) 1=u (yA6 64 (j.val%2)):=dK;exact H ⟨r,h⟩
def qM(x:BitVec 64):Yy.wrap (u x)=u x:=fX x
def yY(d:St)(c:BitVec 64):St:=bX (chi (AH (xT d))) 0 c
def rcC(r:Nat):BitVec 64:=(yG r 7).1
def rcN(r:Nat):Nat:=(yG r 7).2
def RI{r:Nat}(h:r<256):rcN r<256:=by
 unfold rcN;exact N9 h
def CP:Nat->Nat
 | 0=>1
 | k+1=>rcN (CP k)
def Oa(k:Nat):CP k<256:=by
 induction k with
 | zero=>decide
 | succ k ih=>exact RI ih
def uA(d:St):Nat->St
 | 0=>d
 | k+1=>yY (uA d k) (rcC (CP k))
def perm(d:St):St:=uA d 24
def mL(d:St):(xT d).size=d.size:=rI
def qW{d:St}(hd:d.size=25):(AH d).size=25:=(FW hd 24).2.2
def Dv(d:St):(chi d).size=d.size:=zP
def Df{d:St}{c:BitVec 64}(hd:d.size=25):(yY d c).size=25:=by
 unfold yY;rw[dO,Dv,qW];rw[mL,hd]
def vJ{d:St}(hd:d.size=25)(k:Nat):(uA d k).size=25:=by
 induction k with
 | zero=>exact hd
 | succ k ih=>exact Df ih
def tY{d:St}(hd:d.size=25):(perm d).size=25:=vJ hd 24
abbrev Bs:=Array UInt8
def ub(x:UInt8):Int:=(x.toNat:Int)
def encB(x:UInt8):XG:=.int .u8 (ub x)
def wide(x:UInt8):BitVec 64:=yA6 64 x.toNat
def low(v:BitVec 64):UInt8:=XY v.toNat
def Nm(x:UInt8):ub x=u (wide x):=by
 unfold ub u wide;rw[yB5,Ya];have:=x.toNat_lt;omega
def FN(x:UInt8):Yy.wrap (ub x)=u (wide x):=by rw[Nm,qM]
def P7(v:BitVec 64):yBj.wrap (u v)=ub (low v):=by
 have e:yBj.wrap (u v)=u v%256:=by simp[yD6,yD7,yDK]
 rw[e];unfold u ub low;rw[yBr];omega
def xO(b:Bs)(o:Nat):Nat->BitVec 64
 | 0=>0
 | i+1=>xO b o i ||| wide b[o+i]! <<< (8*i)
def wordOf(k:Bs)(o:Nat):BitVec 64:=xO k o 8
def lT(k:Bs)(d:St):Nat->St
 | 0=>d
 | i+1=>bX (lT k d i) i (wordOf k (8*i))
def mY(b:Bs)(d:St)(k:Nat):(lT b d k).size=d.size:=by
 induction k with
 | zero=>rfl
 | succ k ih=>simp[lT,dO,ih]
def byteOf(d:St)(k:Nat):UInt8:=low (d[k/8]! >>> (8*(k%8)))
def iK(d:St)(n:Nat):Nat->Bs
 | 0=>XW n 0
 | k+1=>(iK d n k).setIfInBounds k (byteOf d k)
def front(d:St)(n:Nat):Bs:=iK d n n
def nC{d:St}{n k:Nat}:(iK d n k).size=n:=by
 induction k with
 | zero=>simp[iK]
 | succ k ih=>simp[iK,ih]
def dW{d:St}{n:Nat}:(front d n).size=n:=nC
end SP
namespace SP
structure Only(b off n:Nat)(w w':XF):Prop where
 os:w'.os=w.os
 tape:w'.tape=w.tape
 output:w'.output=w.output
 size:w.heap.size<=w'.heap.size
 block:∀k,k<w.heap.size->k≠b->w'.heap[k]? = w.heap[k]?
 cell:∀o,(o<off\/off+n<=o)->w'.cell? ⟨b,o,none⟩=w.cell? ⟨b,o,none⟩
 froz:∀o,w'.frozen? ⟨b,o,none⟩=w.frozen? ⟨b,o,none⟩
variable {b off n:Nat}{w w1 w2:XF}
def Only.refl(b off n:Nat)(w:XF):Only b off n w w:=⟨rfl,rfl,rfl,XH _,λ_ _ _=>rfl,λ_ _=>rfl,λ_=>rfl⟩
def Only.trans(h:Only b off n w w1)(k:Only b off n w1 w2):Only b off n w w2:=
 ⟨k.os.trans h.os,k.tape.trans h.tape,k.output.trans h.output,XN h.size k.size,
  λi c d=>(k.block i (XI c h.size) d).trans (h.block i c d),
  λo ho=>(k.cell o ho).trans (h.cell o ho),λo=>(k.froz o).trans (h.froz o)⟩
def Only.drewN(h:Only b off n w w1)(q:Nat):Only b off n w (w1.drewN q):=⟨h.os,h.tape,h.output,h.size,h.block,h.cell,h.froz⟩
def Only.drew(h:Only b off n w w1):Only b off n w w1.drew:=⟨h.os,h.tape,h.output,h.size,h.block,h.cell,h.froz⟩
def Only.setCell(h:Only b off n w w1){o:Nat}(f:off<=o)(g:o<off+n)(v:XG):Only b off n w (w1.setCell ⟨b,o,none⟩ v):=by
 refine h.trans ⟨rfl,rfl,rfl,by simp,λk _ c=>yCc _ _ _ _ c,λd ho=>?_,λd=>by simp⟩;exact Yc _ _ _ _ (by intro e;simp only[Addr.mk.injEq,and_true,true_and]at e;omega)
def Only.alloc(h:Only b off n w w1)(c:b<w1.heap.size)(o:Obj):Only b off n w (w1.alloc o):=by
 refine h.trans ⟨rfl,rfl,rfl,by simp,λk d _=>Below.heap_alloc _ _ _ d,λe _=>?_,λe=>?_⟩
 .exact World.cell?_alloc_lt _ _ _ c
 .exact World.frozen?_alloc_old _ _ _ (by show b≠_;omega)
def Only.below(h:Only b off n w w1){B:Nat}(d:B<=w.heap.size)(c:B<=b):Below B w w1:=
 ⟨h.os,h.tape,h.output,h.size,λk e=>h.block k oM oM⟩
def Only.of_below{B:Nat}(h:Below B w w1)(d:B=w.heap.size)(c:b<B):Only b off n w w1:=
 ⟨h.os,h.tape,h.output,h.size,λk e _=>h.block k oM,λo _=>h.cell (p:=⟨b,o,none⟩) c,λo=>h.frozen (p:=⟨b,o,none⟩) c⟩
def Only.other(h:Only b off n w w1){c o:Nat}(d:c≠b)(k:c<w.heap.size):w1.cell? ⟨c,o,none⟩=w.cell? ⟨c,o,none⟩/\w1.frozen? ⟨c,o,none⟩=w.frozen? ⟨c,o,none⟩:=
 ⟨Yb (w:=w) (h.block c k d),Y6 (w:=w) (h.block c k d)⟩
def Only.fresh{o m:Nat}{x:Obj}(h:Only w.heap.size o m (w.alloc x) w1):Below w.heap.size w w1:=
 ((XX _ _).alloc (XH _) x).trans (h.below (by simp) (XH _))
section
variable {α:Type}[Inhabited α]{enc:α->XG}{d:Array α}
def Holds.lt(h:Holds enc w b off d)(hd:0<d.size):b<w.heap.size:=yAa _ _ (h 0 hd).1
def Holds.other{c o:Nat}(h:Holds enc w c o d)(k:Only b off n w w1)(f:c≠b)(hd:0<d.size):Holds enc w1 c o d:=by
 intro j e;have:=h j e;have:=k.other (o:=o+j) f (Holds.lt h hd);rw[this.1,this.2];exact h j e
def Holds.same{o:Nat}(h:Holds enc w b o d)(k:Only b off n w w1)(hd:o+d.size<=off\/off+n<=o):Holds enc w1 b o d:=by
 intro j c;rw[k.cell _ oM,k.froz];exact h j c
def Holds.below{B:Nat}(h:Holds enc w b off d)(k:Below B w w1)(c:b<B):Holds enc w1 b off d:=by
 intro j e;rw[k.cell (p:=⟨b,off+j,none⟩) c,k.frozen (p:=⟨b,off+j,none⟩) c];exact h j e
def Holds.drewN(h:Holds enc w b off d)(q:Nat):Holds enc (w.drewN q) b off d:=h
def Holds.drew(h:Holds enc w b off d):Holds enc w.drew b off d:=h
def Holds.set(h:Holds enc w b off d){i:Nat}(c:i<d.size)(x:α):Holds enc (w.setCell ⟨b,off+i,none⟩ (enc x)) b off (d.setIfInBounds i x):=by
 intro j k;rw[YT]at k;rw[YX];by_cases e:j=i
 .subst e;rw[getElem!_set_same d j x c];exact⟨Zf _ _ _ (h j k).1,(h j k).2⟩
 .rw[getElem!_set_other d i j x e,Yc _ _ _ _ (by intro e';simp only[Addr.mk.injEq,and_true,true_and]at e';omega)];exact h j k
def Holds.new(w:XF)(t:Yj)(d:Array α):Holds enc (w.alloc (.cells (d.map enc) t)) w.heap.size 0 d:=by
 intro j k;rw[Yz,Zz];refine⟨?_,rfl⟩;simp only[XQ,yDw,Ye k,yAy,getElem!_pos d j k]
def Holds.made(w:XF)(t:Yj)(n:Nat)(x:α):Holds enc (w.alloc (.cells (madeCells #[enc x] n) t)) w.heap.size 0 (XW n x):=by
 intro j k;rw[X8]at k;rw[Yz,Zz];refine⟨?_,rfl⟩;rw[getElem!_pos _ j (by simpa using k),Zp];simp[madeCells,k,Nat.mod_one]
end
def Holds.xor{d:St}(h:Holds enc w b off d){i:Nat}(k:i<d.size){x:BitVec 64}(hx:d[i]! = x)(v:BitVec 64):Holds enc (w.setCell ⟨b,off+i,none⟩ (uZ (u (x ^^^ v)))) b off (bX d i v):=by
 unfold bX;rw[hx];exact Holds.set h k (x ^^^ v)
def bZ{d:St}{i j:Nat}{v:BitVec 64}(h:j≠i):(bX d i v)[j]! = d[j]!:=getElem!_set_other d i j _ h
end SP
namespace SP
def mixed:prog.follows .mixedOrders=true:=kR
def bR{w:XF}{i b off:Nat}{d:St}(h:Holds enc w b off d)(k:i<d.size){x:BitVec 64}(hx:d[i]! = x):
 w.cell? ⟨b,off+i,none⟩=some (uZ (u x))/\w.frozen? ⟨b,off+i,none⟩=false:=by
 rw[<-hx];exact h i k
def ret_int{k:IntKind}{a b:Int}(h:a=b):Ending.returned (.int k a)=.returned (.int k b):=by rw[h]
def CE(x:BitVec 64)(k:Nat)(w:XF)(c:k<64):
 cZ 216 #[uZ (u x),iZ k] w λe w'=>e=.returned (uZ (u (rol x k)))/\w'=w:=by
 have b:=VO c;go_enter func216,ntmps216;go_wp2;go_ret;refine⟨ret_int ?_,rfl⟩;rw[JS,PT,eD];rfl
end SP
namespace SP
def Dh{w:XF}{t:Yj}:Holds enc (w.alloc (.cells #[uZ 0,uZ 0,uZ 0,uZ 0,uZ 0] t)) w.heap.size 0 (#[0,0,0,0,0]:St):=by
 have h:=Holds.new (enc:=enc) w t (#[0,0,0,0,0]:St);have e:yER enc (#[0,0,0,0,0]:St)=#[uZ 0,uZ 0,uZ 0,uZ 0,uZ 0]:=by simp[enc,u]
 rw[e]at h;exact h
attribute [local go_sem] dB dX eD
def yV(b off:Nat)(d:St)(w:XF)(hd:d.size=25)(S:Holds enc w b off d):
 ZI prog 210 #[.pointer (some ⟨b,off,none⟩)] w λe w'=>e=.returned (.tuple #[])/\Only b off 25 w w'/\Holds enc w' b off (xT d):=by
 have V:=Holds.lt S oM;go_enter func210,ntmps210;go_wp2;generalize o:(w.alloc _)=W1;go_loopg [7] 5 (λg s7 wr=>∃k l,k+g=5/\s7=.int .i64 (k:Nat)/\Holds enc wr w.heap.size 0 l/\Only w.heap.size 0 5 W1 wr/\Hid (l=qQ d k))
 case atStart =>
  refine⟨0,#[0,0,0,0,0],rfl,rfl,?_,Only.refl _ _ _ _,rfl⟩;rw[<-o];exact Dh
 case round =>
  obtain⟨k,l,T,rfl,H,n,p⟩:=hrel;have j:Holds enc wr b off d:=Holds.other (by rw[<-o];exact Holds.below S ((XX _ _).alloc (XH _) _) V) n oM oM;by_cases B:k<5
  .obtain⟨a,t⟩:∃x,d[k]! = x:=⟨_,rfl⟩
   obtain⟨D,s⟩:∃x,d[k+5]! = x:=⟨_,rfl⟩
   obtain⟨C,r⟩:∃x,d[k+10]! = x:=⟨_,rfl⟩
   obtain⟨A,u⟩:∃x,d[k+15]! = x:=⟨_,rfl⟩
   obtain⟨y,q⟩:∃x,d[k+20]! = x:=⟨_,rfl⟩
   obtain⟨x5,v⟩:∃x,l[k]! = x:=⟨_,rfl⟩
   have G:l.size=5:=by rw[p.out,uX]
   obtain⟨M,U⟩:=bR j oM t;obtain⟨c1,P⟩:=bR j oM s;obtain⟨c2,f2⟩:=bR j oM r;obtain⟨R,f3⟩:=bR j oM u;obtain⟨J,X⟩:=bR j oM q;obtain⟨I,F⟩:=bR H oM v;rw[XQ]at I F;have E:Hid (Fg d k=a ^^^ D ^^^ C ^^^ A ^^^ y):=by rw[<-t,<-s,<-r,<-u,<-q];rfl
   clear t s r u q v j;have Y:(k:Int)<5:=oM;have b0:(k:Int)<25:=oM;have b1:(k:Int)+5<25:=oM;have b2:(k:Int)+10<25:=oM;have O:(k:Int)+15<25:=oM;have N:(k:Int)+20<25:=oM;have p1:0<=(k:Int)+5:=oM;have p2:0<=(k:Int)+10:=oM;have K:0<=(k:Int)+15:=oM;have Q:0<=(k:Int)+20:=oM;have L:((k:Int)+5).toNat=k+5:=oM;have W:((k:Int)+10).toNat=k+10:=oM;have e3:((k:Int)+15).toNat=k+15:=oM;have e4:((k:Int)+20).toNat=k+20:=oM;have v1:Yt.wrap ((k:Int)+5)=(k:Int)+5:=Zv _ oM;have v2:Yt.wrap ((k:Int)+10)=(k:Int)+10:=Zv _ oM;have v3:Yt.wrap ((k:Int)+15)=(k:Int)+15:=Zv _ oM;have Z:Yt.wrap ((k:Int)+20)=(k:Int)+20:=Zv _ oM;go_wp2_with fail
   go_still_tail 35,mixed;go_wp2;go_roundg (gk-1)
   case measure=>omega
   case rel =>
    refine⟨k+1,l.setIfInBounds k (a ^^^ D ^^^ C ^^^ A ^^^ y),oM,by go_num,?_,?_,?_⟩
    .have:=Holds.set H (i:=k) oM (a ^^^ D ^^^ C ^^^ A ^^^ y);rw[XQ]at this;exact Holds.drew this
    .exact(n.setCell (Zq _) oM _).drew
    .show _=(qQ d k).setIfInBounds k (Fg d k);rw[E.out,p.out]
  .have s:k=5:=oM;subst s;have Q:Hid (l=qQ d 5):=p;have D:Only b off 25 w wr:=by
    rw[<-o]at n;exact Only.of_below n.fresh rfl V
   clear T B p n o;go_wp2;go_loopg [46] 5 (λg s46 v=>∃k q,k+g=5/\s46=.int .i64 (k:Nat)/\Holds enc v b off q/\Only b off 25 wr v/\Hid (q=oY l d k))
   case atStart=>exact⟨0,d,rfl,rfl,j,Only.refl _ _ _ _,rfl⟩
   case round =>
    obtain⟨k,q,T,rfl,R,n,p⟩:=hrel;by_cases B:k<5
    .have G:l.size=5:=by rw[Q.out,uX]
     have a:=Holds.other H n oM oM;obtain⟨C,u⟩:∃x,l[(k+4)%5]! = x:=⟨_,rfl⟩
     obtain⟨y,t⟩:∃x,l[(k+1)%5]! = x:=⟨_,rfl⟩
     obtain⟨M,U⟩:=bR a oM u;obtain⟨c1,P⟩:=bR a oM t;rw[XQ]at M c1;have X:Hid (S4 l k=C ^^^ rol y 1):=by rw[<-u,<-t];rfl
     clear u t U P;have Y:(k:Int)<5:=oM;go_wp2_with fail
     go_quiet ((go_at_call 216;exact Calls.quiet_of_same (CE _ 1 _ dC)));clear M c1;go_wp2;have h0:=n.drewN nq;have I:=Holds.drewN R nq;have K:q.size=25:=by rw[p.out,rI,hd]
     go_loopg [6] 5 (λg s6 v=>∃m r,m+g=5/\s6=.int .i64 ((k+5*m:Nat):Int)/\Holds enc v b off r/\Only b off 25 wr v/\Hid (r=nA (C ^^^ rol y 1) k q m))
     case atStart=>exact⟨0,q,rfl,rfl,I,(Only.refl _ _ _ _).drewN _,rfl⟩
     case round =>
      obtain⟨m,r,hm,rfl,J,A,L⟩:=hrel;by_cases N:m<5
      .have W:r.size=25:=by rw[L.out,sJ,K]
       obtain⟨z,E⟩:∃x,r[k+5*m]! = x:=⟨_,rfl⟩
       obtain⟨c,f⟩:=bR J oM E;have Z:Hid (r[k+5*m]! = z):=E;clear E;have r1:((k+5*m:Nat):Int)<25:=oM;generalize F:k+5*m=i at *;have O:Hid (k+5*m=i):=F;clear F;go_wp2_with fail
       go_still_tail 9,mixed;go_wp2;go_roundg (gk-1)
       case measure=>omega
       case rel =>
        refine⟨m+1,r.setIfInBounds i (z ^^^ (C ^^^ rol y 1)),oM,?_,?_,?_,?_⟩
        .rw[<-O.out];go_num
        .exact Holds.drew (Holds.set J oM _)
        .exact(A.setCell (yBU _ _) oM _).drew
        .show _=bX (nA (C ^^^ rol y 1) k q m) (k+5*m) (C ^^^ rol y 1);rw[<-L.out,O.out,<-Z.out];rfl
      .have E:m=5:=oM;subst E;have r1:(25:Int)<=((k+5*5:Nat):Int):=oM;generalize F:k+5*5=i at *;go_wp2;go_roundg (4-k)
       case measure=>omega
       case rel =>
        refine⟨k+1,r,oM,by go_num,J,n.trans A,?_⟩;show _=nA (S4 l k) k (oY l d k) 5;rw[<-p.out,X.out];exact L
    .have s:k=5:=oM;subst s;go_wp2
     go_end0
     refine⟨rfl,D.trans n,?_⟩;have:xT d=q:=by rw[p.out,Q.out];rfl
     rw[this];exact R
end SP
namespace SP
attribute [local go_sem] dB dX eD
def Kx{t:Nat}(h:t<24):(wrap64 ((wrap64 (((t:Int)+1)*((t:Int)+2))).tdiv 2)).tmod 64=(offs t:Int):=by
 have H:∀j:Fin 24,(wrap64 ((wrap64 (((j.val:Int)+1)*((j.val:Int)+2))).tdiv 2)).tmod 64=(offs j.val:Int):=dK;exact H ⟨t,h⟩
def wG(b off:Nat)(d:St)(w:XF)(hd:d.size=25)(B:Holds enc w b off d):
 cZ 211 #[oZ b off] w λe w'=>e=.returned (.tuple #[])/\Only b off 25 w w'/\Holds enc w' b off (AH d):=by
 obtain⟨M,j⟩:∃x,d[1]! = x:=⟨_,rfl⟩
 obtain⟨c1,L⟩:=bR B oM j;go_enter func211,ntmps211;go_wp2;go_loopg [2,3,4,12] 24 (λg sx H sm st wr=>∃t T,t+g=24/\st=iZ (t:Nat)/\sx=iZ (T.x:Nat)/\H=iZ (T.y:Nat)/\sm=uZ (u T.m)/\Holds enc wr b off T.d/\Only b off 25 w wr/\Hid (T=wH d t))
 case atStart=>exact⟨0,wH d 0,rfl,rfl,rfl,rfl,by rw[<-j];rfl,B,Only.refl _ _ _ _,rfl⟩
 case round =>
  obtain⟨t,⟨x,y,m,A⟩,K,rfl,rfl,rfl,rfl,q,D,r⟩:=hrel;have o:=FW hd t;rw[<-r.out]at o;obtain⟨hx,E,F⟩:=o;dsimp only at hx E F q;by_cases s:t<24
  .obtain⟨i,G⟩:=vH (y+5*((2*x+3*y)%5));obtain⟨z,a⟩:∃z,A[i]! = z:=⟨_,rfl⟩
   obtain⟨c,f⟩:=bR q oM a;have I:=mk1 (a);have C:=mk1 (G);go_wp2_with fail
   rw[Kx s];apply(CE m (offs t) _ (Zi _ dC)).mono;rintro e w' ⟨rfl,rfl⟩;go_wp2_with fail
   obtain⟨p,v⟩:=vH ((2*x+3*y)%5);have l:(2*(x:Int)+3*(y:Int))%5=(p:Int):=oM;rw[l];have k:=mk1 (v);have J:((y:Int)+5*(p:Int)).toNat=i:=by have:=C;have:=k;omega
   go_region
   go_wp2;go_roundg (gk-1)
   case measure=>omega
   case rel =>
    refine⟨t+1,⟨y,p,z,A.setIfInBounds i (rol m (offs t))⟩,oM,by go_num,rfl,rfl,rfl,?_,?_,?_⟩
    .exact Holds.drew (Holds.set q oM _)
    .exact(D.setCell (yBU _ _) oM _).drew
    .show _=D6 t (wH d t);rw[<-r.out];simp only[D6,k.out];have e:y+5*p=i:=by have:=C;have:=k;omega
     rw[e,I.out]
  .have k:t=24:=oM;subst k;go_wp2
   go_end0
   refine⟨rfl,D,?_⟩;show Holds enc _ b off (wH d 24).d;rw[<-r.out];exact q
end SP
namespace SP
attribute [local go_sem] dB dX eD rF
def C9(b off:Nat)(d:St)(w:XF)(hd:d.size=25)(hH:Holds enc w b off d):
 ZI prog 212 #[.pointer (some ⟨b,off,none⟩)] w λe w'=>e=.returned (.tuple #[])/\Only b off 25 w w'/\Holds enc w' b off (chi d):=by
 go_enter func212,ntmps212;go_wp2;go_loopg [2] 5 (λg si wr=>∃k j,k+g=5/\si=.int .i64 ((5*k:Nat):Int)/\Holds enc wr b off j/\Only b off 25 w wr/\Hid (j=zQ d k))
 case atStart=>exact⟨0,d,rfl,rfl,hH,Only.refl _ _ _ _,rfl⟩
 case round =>
  obtain⟨k,j,hk,rfl,A,hO,V⟩:=hrel;have hs:j.size=25:=by rw[V.out,zP,hd]
  by_cases ha:k<5
  .obtain⟨i,hi⟩:=vH (5*k);rw[hi];have Hi:Hid (5*k=i):=hi;obtain⟨u,N⟩:∃x,j[i]! = x:=⟨_,rfl⟩
   obtain⟨s,K⟩:∃x,j[i+1]! = x:=⟨_,rfl⟩
   obtain⟨r,J⟩:∃x,j[i+2]! = x:=⟨_,rfl⟩
   obtain⟨p,Q⟩:∃x,j[i+3]! = x:=⟨_,rfl⟩
   obtain⟨m,G⟩:∃x,j[i+4]! = x:=⟨_,rfl⟩
   obtain⟨c0,f0⟩:=bR A oM N;obtain⟨c1,f1⟩:=bR A oM K;obtain⟨c2,f2⟩:=bR A oM J;obtain⟨c3,f3⟩:=bR A oM Q;obtain⟨c4,f4⟩:=bR A oM G;have E:Hid (j[i]! = u):=N;have q:Hid (j[i+1]! = s):=K;have l:Hid (j[i+2]! = r):=J;have f:Hid (j[i+3]! = p):=Q;have c:Hid (j[i+4]! = m):=G;have Q0:=E;have Q1:=q;have Q2:=l;have Q3:=f;have Q4:=c;have b1:(i:Int)+1<25:=oM;have p1:0<=(i:Int)+1:=oM;have W:((i:Int)+1).toNat=i+1:=oM;have v1:Yt.wrap ((i:Int)+1)=(i:Int)+1:=Zv _ oM;have b2:(i:Int)+2<25:=oM;have p2:0<=(i:Int)+2:=oM;have e2:((i:Int)+2).toNat=i+2:=oM;have v2:Yt.wrap ((i:Int)+2)=(i:Int)+2:=Zv _ oM;have b3:(i:Int)+3<25:=oM;have U:0<=(i:Int)+3:=oM;have e3:((i:Int)+3).toNat=i+3:=oM;have v3:Yt.wrap ((i:Int)+3)=(i:Int)+3:=Zv _ oM;have b4:(i:Int)+4<25:=oM;have p4:0<=(i:Int)+4:=oM;have e4:((i:Int)+4).toNat=i+4:=oM;have v4:Yt.wrap ((i:Int)+4)=(i:Int)+4:=Zv _ oM;go_wp2_with fail
   go_quiet (fail);clear c1 c2 c3 c4 f1 f2 f3 f4 b1 p1 W v1 b2 p2 e2 v2 b3 U e3 v3 b4 p4 e4 v4;go_wp2_with fail
   go_region
   go_wp2_with fail
   generalize z:yAV _ _ _=W0;have h9:(bX j i (~~~s &&& r)).size=25:=by rw[dO];omega
   have H:Holds enc W0 b off (bX j i (~~~s &&& r)):=by rw[<-z];exact Holds.xor (Holds.drewN A _) oM E _
   have h6:Only b off 25 w W0:=by rw[<-z];exact(hO.drewN _).setCell (o:=off+i) oM oM _
   generalize n:bX j i (~~~s &&& r)=v at *;have h5:Hid (bX j i (~~~s &&& r)=v):=n;have q:Hid (v[i+1]! = s):=by show _=_;rw[<-n,bZ oM];exact q
   have l:Hid (v[i+2]! = r):=by show _=_;rw[<-n,bZ oM];exact l
   have f:Hid (v[i+3]! = p):=by show _=_;rw[<-n,bZ oM];exact f
   have c:Hid (v[i+4]! = m):=by show _=_;rw[<-n,bZ oM];exact c
   obtain⟨c1,f1⟩:=bR H oM q;clear n z c0 f0;have b1:(i:Int)+1<25:=oM;have p1:0<=(i:Int)+1:=oM;have W:((i:Int)+1).toNat=i+1:=oM;have v1:Yt.wrap ((i:Int)+1)=(i:Int)+1:=Zv _ oM;go_region
   go_wp2_with fail
   generalize M:yAV _ _ _=W1;have h7:(bX v (i+1) (~~~r &&& p)).size=25:=by rw[dO];omega
   have L:Holds enc W1 b off (bX v (i+1) (~~~r &&& p)):=by rw[<-M];exact Holds.xor H oM q _
   have h3:Only b off 25 w W1:=by rw[<-M];exact(h6).setCell (o:=off+(i+1)) oM oM _
   generalize t:bX v (i+1) (~~~r &&& p)=y at *;have X:Hid (bX v (i+1) (~~~r &&& p)=y):=t;have l:Hid (y[i+2]! = r):=by show _=_;rw[<-t,bZ oM];exact l
   have f:Hid (y[i+3]! = p):=by show _=_;rw[<-t,bZ oM];exact f
   have c:Hid (y[i+4]! = m):=by show _=_;rw[<-t,bZ oM];exact c
   obtain⟨c2,f2⟩:=bR L oM l;clear b1 p1 W v1;have b2:(i:Int)+2<25:=oM;have p2:0<=(i:Int)+2:=oM;have e2:((i:Int)+2).toNat=i+2:=oM;have v2:Yt.wrap ((i:Int)+2)=(i:Int)+2:=Zv _ oM;go_region
   go_wp2_with fail
   generalize D:yAV _ _ _=W2;have hb:(bX y (i+2) (~~~p &&& m)).size=25:=by rw[dO];omega
   have O:Holds enc W2 b off (bX y (i+2) (~~~p &&& m)):=by rw[<-D];exact Holds.xor L oM l _
   have T:Only b off 25 w W2:=by rw[<-D];exact(h3).setCell (o:=off+(i+2)) oM oM _
   generalize a:bX y (i+2) (~~~p &&& m)=B at *;have Y:Hid (bX y (i+2) (~~~p &&& m)=B):=a;have f:Hid (B[i+3]! = p):=by show _=_;rw[<-a,bZ oM];exact f
   have c:Hid (B[i+4]! = m):=by show _=_;rw[<-a,bZ oM];exact c
   obtain⟨c3,f3⟩:=bR O oM f;clear b2 p2 e2 v2;have b3:(i:Int)+3<25:=oM;have U:0<=(i:Int)+3:=oM;have e3:((i:Int)+3).toNat=i+3:=oM;have v3:Yt.wrap ((i:Int)+3)=(i:Int)+3:=Zv _ oM;go_region
   go_wp2_with fail
   generalize P:yAV _ _ _=W3;have h8:(bX B (i+3) (~~~m &&& u)).size=25:=by rw[dO];omega
   have F:Holds enc W3 b off (bX B (i+3) (~~~m &&& u)):=by rw[<-P];exact Holds.xor O oM f _
   have h4:Only b off 25 w W3:=by rw[<-P];exact(T).setCell (o:=off+(i+3)) oM oM _
   generalize R:bX B (i+3) (~~~m &&& u)=C at *;have h1:Hid (bX B (i+3) (~~~m &&& u)=C):=R;have c:Hid (C[i+4]! = m):=by show _=_;rw[<-R,bZ oM];exact c
   obtain⟨c4,f4⟩:=bR F oM c;clear b3 U e3 v3;have b4:(i:Int)+4<25:=oM;have p4:0<=(i:Int)+4:=oM;have e4:((i:Int)+4).toNat=i+4:=oM;have v4:Yt.wrap ((i:Int)+4)=(i:Int)+4:=Zv _ oM;go_region
   go_wp2;generalize I:yAV _ _ _=W4;have hc:(bX C (i+4) (~~~u &&& s)).size=25:=by rw[dO];omega
   have S:Holds enc W4 b off (bX C (i+4) (~~~u &&& s)):=by rw[<-I];exact Holds.xor F oM c _
   have Z:Only b off 25 w W4:=by rw[<-I];exact(h4).setCell (o:=off+(i+4)) oM oM _
   generalize h0:bX C (i+4) (~~~u &&& s)=d4 at *;have h2:Hid (bX C (i+4) (~~~u &&& s)=d4):=h0;go_roundg (gk-1)
   case measure=>omega
   case rel =>
    refine⟨k+1,d4,oM,?_,?_,?_,?_⟩
    .rw[<-Hi.out];go_num
    .exact S
    .exact Z.drewN 4
    .show d4=rowAt (zQ d k) (5*k);rw[<-V.out,Hi.out];unfold rowAt;rw[Q0.out,Q1.out,Q2.out,Q3.out,Q4.out,h5.out,X.out,Y.out,h1.out,h2.out]
  .have c:k=5:=oM;subst c;go_wp2
   go_end0
   refine⟨rfl,hO,?_⟩;show Holds enc _ b off (zQ d 5);rw[<-V.out];exact A
end SP
namespace SP
attribute [local go_sem] dB dX eD qM
def Iw{j:Nat}(k:j<7):∃p:Nat,wrap64 (wrap64 ((2:Int)^j)-1)=(p:Int)/\p<=63/\Hid (2^j-1=p):=by
 have H:∀j:Fin 7,wrap64 (wrap64 ((2:Int)^j.val)-1)=((2^j.val-1:Nat):Int)/\2^j.val-1<=63:=dK;exact⟨_,(H ⟨j,k⟩).1,(H ⟨j,k⟩).2,rfl⟩
def rN(r:Nat)(w:XF)(n:r<256):
 cZ 213 #[iZ r] w λe w'=>e=.returned (.tuple #[uZ (u (rcC r)),iZ (rcN r:Int)])/\w'=w:=by
 go_enter func213,ntmps213;go_wp2
 go_loop [0,2,6] (λs0 s2 s6=>∃j:Nat,j<=7/\∃(c:BitVec 64) (q:Nat),s6=iZ j/\s2=uZ (u c)/\s0=iZ q/\q<256/\Hid (yG r j=(c,q))) (λ_ _ s6=>7-(intOf s6).toNat)
 case atStart=>exact⟨0,dC,0,r,rfl,rfl,rfl,n,rfl⟩
 case round =>
  obtain⟨j,x,c,q,rfl,rfl,rfl,f,i⟩:=hrel;by_cases g:j<7
  .have s:=RH f;have a2:=RD f;obtain⟨p,y,t,o⟩:=Iw g;have l:Hid (yG r (j+1)=(c ||| yA6 64 (q%2) <<< p,yI q)):=by
    show((yG r j).1 ||| yA6 64 ((yG r j).2%2) <<< (2^j-1),yI (yG r j).2)=_;rw[i.out,o.out]
   have v:=JS (yA6 64 (q%2)) p;have k:=CO f;by_cases b:255<2*q
   .have d:Hid (yI q=2*q ^^^ 369):=yE3 b;rw[d.out]at k;generalize 2*q ^^^ 369=m at *;go_wp2
    go_round
    case rel=>exact⟨j+1,oM,_,m,by go_num,rfl,rfl,k,by rw[l.out,d.out];rfl⟩
    case measure=>simp[intOf];omega
   .have d:Hid (yI q=2*q):=yE4 b;go_wp2
    go_round
    case rel=>exact⟨j+1,oM,_,2*q,by go_num,rfl,by go_num,oM,by rw[l.out,d.out];rfl⟩
    case measure=>simp[intOf];omega
  .have k:j=7:=oM;subst k;go_wp2
   go_ret2
   unfold rcC rcN;rw[i.out];exact⟨rfl,rfl⟩
def vF(b off:Nat)(d:St)(w:XF)(hd:d.size=25)(H:Holds enc w b off d):
 cZ 192 #[oZ b off] w λe w'=>e=.returned (.tuple #[])/\Only b off 25 w w'/\Holds enc w' b off (perm d):=by
 go_enter func192,ntmps192;go_wp2;go_loopg [2,3,4] 24 (λg sc J E wr=>∃(k:Nat) (c:BitVec 64) (f:St),k+g=24/\E=iZ k/\sc=uZ (u c)/\J=iZ (CP k:Nat)/\Holds enc wr b off f/\Only b off 25 w wr/\Hid (f=uA d k))
 case atStart=>exact⟨0,0,d,rfl,rfl,rfl,rfl,H,Only.refl _ _ _ _,rfl⟩
 case round =>
  obtain⟨k,c,f,K,rfl,rfl,rfl,y,z,q⟩:=hrel;have l:f.size=25:=by rw[q.out,vJ hd]
  by_cases G:k<24
  .have B:(k:Int)<24:=oM;go_wp2_with fail
   apply(yV b off f _ l y).mono;rintro e M ⟨rfl,v,t⟩;go_wp2_with fail
   apply(wG b off _ _ (by rw[mL,l]) t).mono;rintro e N ⟨rfl,m,p⟩;go_wp2_with fail
   apply(C9 b off _ _ (qW (by rw[mL,l])) p).mono;rintro e O ⟨rfl,n,j⟩;have a:Hid (CP (k+1)=rcN (CP k)):=rfl;have F:Hid (uA d (k+1)=yY (uA d k) (rcC (CP k))):=rfl;have s:=Oa k;generalize CP k=r at *;go_wp2_with fail
   apply(rN r _ s).mono;rintro e L ⟨rfl,rfl⟩;have C:(chi (AH (xT f))).size=25:=by rw[Dv,qW (by rw[mL,l])]
   obtain⟨x,hx⟩:∃x,(chi (AH (xT f)))[0]! = x:=⟨_,rfl⟩
   obtain⟨I,A⟩:=bR j oM hx;rw[yAi]at I A;have D:Hid ((chi (AH (xT f)))[0]! = x):=hx;clear hx;go_wp2_with fail
   go_region
   go_wp2;go_roundg (gk-1)
   case measure=>omega
   case rel =>
    refine⟨k+1,rcC r,yY f (rcC r),oM,by go_num,rfl,by rw[a.out],?_,?_,?_⟩
    .exact Holds.drew (Holds.xor (i:=0) j oM D (rcC r))
    .exact((((z.trans v).trans m).trans n).setCell (o:=off) oM oM _).drew
    .rw[F.out,q.out];rfl
  .have j:k=24:=oM;subst j;go_wp2
   go_end0
   refine⟨rfl,z,?_⟩;unfold perm;rw[<-q.out];exact y
end SP
namespace SP
attribute [local go_sem] dB dX eD qM FN
def Hq{w:XF}{i b off:Nat}{d:Bs}(h:Holds encB w b off d)(k:i<d.size){x:UInt8}(hx:d[i]! = x):
 w.cell? ⟨b,off+i,none⟩=some (.int .u8 (ub x))/\w.frozen? ⟨b,off+i,none⟩=false:=by
 rw[<-hx];exact h i k
def word_any(g i o len cap:Nat)(b:Bs)(w:XF)(j:Holds encB w g i b)(q:8<=len)(ho:o+8<=b.size)(t:len<=4611686018427387904):
 cZ 209 #[qZ g (i+o) len cap] w λe w'=>e=.returned (uZ (u (wordOf b o)))/\w'=w:=by
 go_enter func209,ntmps209;go_wp2
 go_loop [3,5] (λs3 s5=>∃(k:Nat) (c:BitVec 64),k<=8/\s5=iZ k/\s3=uZ (u c)/\Hid (xO b o k=c)) (λ_ s5=>8-(intOf s5).toNat)
 case atStart=>exact⟨0,0,dC,rfl,rfl,rfl⟩
 case round =>
  obtain⟨k,c,p,rfl,rfl,f⟩:=hrel;by_cases l:k<8
  .obtain⟨x,hx⟩:∃x,b[o+k]! = x:=⟨_,rfl⟩
   obtain⟨m,d⟩:=Hq j oM hx;rw[<-ZL]at m;have n:Hid (xO b o (k+1)=c ||| wide x <<< (8*k)):=by
    show xO b o k ||| wide b[o+k]! <<< (8*k)=_
    rw[f.out,hx]
   clear hx d;have s:=JS (wide x) (8*k);have r:(k:Int)<(len:Int):=oM;go_wp2
   go_round
   case rel=>exact⟨k+1,_,oM,by go_num,rfl,n⟩
   case measure=>simp[intOf];omega
  .have d:k=8:=oM;subst d;go_wp2;go_ret;unfold wordOf;rw[f.out];exact⟨rfl,rfl⟩
def OG(b off i j len cap:Nat)(c:Bs)(d:St)(w:XF)(hd:d.size=25)(y:Holds enc w b off d)(s:Holds encB w i j c)(H:c.size=len)(t:len<=200)(r:len<=cap)
 (f:i≠b\/j+len<=off\/off+25<=j) :
 ZI prog 191 #[.pointer (some ⟨b,off,none⟩),.slice (some ⟨i,j,none⟩) len cap] w λe w'=>e=.returned (.tuple #[])/\Only b off 25 w w'/\Holds enc w' b off (lT c d (len/8)):=by
 go_enter func191,ntmps191;go_wp2;go_loopg [8] (len/8) (λg s8 wr=>∃(k:Nat) (f:St),k+g=len/8/\s8=.int .i64 k/\Holds enc wr b off f/\Only b off 25 w wr/\Hid (f=lT c d k))
 case atStart=>exact⟨0,d,oM,rfl,y,Only.refl _ _ _ _,rfl⟩
 case round =>
  obtain⟨k,f,B,rfl,q,n,p⟩:=hrel;have F:f.size=25:=by rw[p.out,mY,hd]
  by_cases v:k<len/8
  .have l:Holds encB wr i j c:=by
    by_cases m:i=b
    .subst m;exact Holds.same s n oM
    .exact Holds.other s n m oM
   obtain⟨x,hx⟩:∃x,f[k]! = x:=⟨_,rfl⟩
   obtain⟨G,D⟩:=bR q oM hx;have m:Hid (f[k]! = x):=hx;clear hx;have J:(k:Int)<25:=oM;have A:(0:Int)<=(k:Int)*8:=oM;have E:(k:Int)*8<=(len:Int):=oM;have C:((k:Int)*8).toNat=8*k:=oM;have s1:Yt.wrap ((k:Int)*8)=(k:Int)*8:=Zv _ oM;have lt:(k:Int)<(len:Int)/8:=oM;go_wp2_with fail
   have u:(cap=8*k)=False:=eq_false oM;have a:Hid (Holds encB wr.drew i j c):=Holds.drew l;have z:Hid (8*k+8<=c.size):=by show _<=_;omega
   clear l;go_region_with (go_at_call 209;apply(word_any i j (8*k) (len-8*k) (cap-8*k) c _ a oM z oM).mono;rintro e I ⟨rfl,rfl⟩)
   all_goals
    go_wp2;go_roundg (gk-1)
    case measure=>omega
    case rel =>
     refine⟨k+1,bX f k (wordOf c (8*k)),oM,by go_num,?_,?_,?_⟩
     .exact Holds.drew (Holds.xor q oM m _)
     .exact(n.setCell (o:=off+k) oM oM _).drew
     .rw[p.out];rfl
  .have l:k=len/8:=oM;have lt:(len:Int)/8<=(k:Int):=oM;go_wp2
   go_end0
   refine⟨rfl,n,?_⟩;rw[<-l,<-p.out];exact q
def slice22:prog.underlying 23=some (.slice 5):=kR
def info5:(prog.info? 5).map (λi=>(i.zero,i.size,i.bytes))=some (some (.int .u8 0),1,1):=kR
attribute [local go_sem] P7
def uI(b off n:Nat)(d:St)(w:XF)(hd:d.size=25)(q:Holds enc w b off d)(C:n<=200):
 ZI prog 96 #[.pointer (some ⟨b,off,none⟩),.int .i64 n] w λe w'=>e=.returned (.slice (some ⟨w.heap.size,0,none⟩) n n)/\Below w.heap.size w w'/\Holds encB w' w.heap.size 0 (front d n):=by
 have y:=Holds.lt q oM;have s:=run_make_row' (P:=prog) 23 5 (.int .u8 0) 1 slice22 info5 rfl .i64 .i64 n oM oM;go_enter func96,ntmps96;go_wp2;generalize c:(w.alloc _)=u;go_loopg [11] n (λg s11 wr=>∃(k:Nat) (f:Bs),k+g=n/\s11=.int .i64 k/\Holds encB wr w.heap.size 0 f/\Only w.heap.size 0 n u wr/\Hid (f=iK d n k))
 case atStart =>
  refine⟨0,_,oM,rfl,?_,Only.refl _ _ _ _,rfl⟩;rw[<-c];exact Holds.made (enc:=encB) w 5 n 0
 case round =>
  obtain⟨k,f,a,rfl,j,l,m⟩:=hrel;have B:f.size=n:=by rw[m.out,nC]
  have t:Holds enc wr b off d:=Holds.other (by rw[<-c];exact Holds.below q ((XX _ _).alloc (XH _) _) y) l oM oM;by_cases v:k<n
  .obtain⟨x,hx⟩:∃x,d[k/8]! = x:=⟨_,rfl⟩
   obtain⟨D,A⟩:=bR t oM hx;obtain⟨c1,z⟩:=j k oM;rw[XQ]at c1 z;have p:Hid (byteOf d k=low (x >>> (8*(k%8)))):=by show low _=_;rw[hx]
   have r:=PT x (8*(k%8));go_wp2;go_roundg (gk-1)
   case measure=>omega
   case rel =>
    refine⟨k+1,f.setIfInBounds k (low (x >>> (8*(k%8)))),oM,by go_num,?_,?_,?_⟩
    .have:=Holds.set j (i:=k) oM (low (x >>> (8*(k%8))));rw[XQ]at this;exact this
    .exact l.setCell (o:=k) oM oM _
    .show _=(iK d n k).setIfInBounds k (byteOf d k);rw[p.out,m.out]
  .have p:k=n:=oM;go_wp2;go_ret;refine⟨rfl,?_,?_⟩
   .rw[<-c]at l;exact l.fresh
   .unfold front;rw[m.out,p]at j;exact j
end SP
namespace SP
structure Of where
 x:Nat
 y:Nat
 o:Array Nat
def zx(x:BitVec 64):0 ^^^ x=x:=BitVec.zero_xor
end SP
namespace SP
open Go.Sort
def xN:St:=XW 25 0
def Ic{j:Nat}(h:j<25):xN[j]! = 0:=by
 have k:j<(XW 25 (0:BitVec 64)).size:=by rw[X8];exact h
 unfold xN;rw[getElem!_pos (XW 25 (0:BitVec 64)) j k,Zp]
end SP
namespace SP
def fill(i:Nat):UInt8:=XY (i%251) ^^^ 165
def lentTo(s:ByteArray):Nat->Bs
 | 0=>s.data++XW 160 0
 | k+1=>(lentTo s k).setIfInBounds (s.size+k) (fill (s.size+k))
def lent(s:ByteArray):Bs:=lentTo s 160
variable {w w1:XF}{b o n:Nat}
def heap_setCells(b:Nat){k:Nat}(c:k≠b):∀(vs:List XG) (p:Nat) (w:XF),(w.setCells b p vs).heap[k]? = w.heap[k]?
 | [],_,_=>rfl
 | v :: r,p,w=>by rw[World.setCells,heap_setCells b c r (p+1) _,yCc _ _ _ _ c]
def Only.setCells(h:Only b o n w w1)(vs:List XG)(p:Nat)(f:o<=p)(g:p+vs.length<=o+n):Only b o n w (w1.setCells b p vs):=by
 have c:=below_setCells (B:=0) (b:=b) (Zq _) vs p w1 (XX 0 w1);exact h.trans ⟨c.os,c.tape,c.output,c.size,λk _ d=>heap_setCells b d vs p w1,
  λq e=>yCR b vs p w1 ⟨b,q,none⟩ (λ_ _=>by simp only;omega),λq=>yC3 b vs p w1 _⟩
def Holds.setCells{d r:Bs}(h:Holds encB w b o d)(vs:List XG)(p:Nat)(g:r.size=d.size)(m:p+vs.length<=d.size)
 (f:∀j (k:j<vs.length),vs[j]=encB r[p+j]!) (c:∀j,j<d.size->j<p\/p+vs.length<=j->r[j]! = d[j]!):Holds encB (w.setCells b (o+p) vs) b o r:=by
 intro j k;rw[g]at k;rw[yC3];refine⟨?_,(h j k).2⟩;by_cases e:j<p\/p+vs.length<=j
 .rw[yCR b vs (o+p) w ⟨b,o+j,none⟩ (λ_ _=>by simp only;omega),c j k e];exact(h j k).1
 .have c:j-p<vs.length:=oM;have:=World.cell?_setCells_in b vs (o+p) w (λi l=>by
   have:=(h (p+i) oM).1;rw[<-ZL]at this;rw[this];rfl) (j-p) c
  rw[show o+p+(j-p)=o+j by omega]at this;rw[this,f (j-p) c,show p+(j-p)=j by omega]
def app_front(a r:Bs)(j:Nat)(k:j<a.size):(a++r)[j]! = a[j]:=by
 have h:j<(a++r).size:=by rw[Ys];omega
 rw[getElem!_pos (a++r) j h,yBz k]
def app_back(a r:Bs)(j:Nat)(b:a.size<=j)(c:j<a.size+r.size):(a++r)[j]! = r[j-a.size]!:=by
 have h:j<(a++r).size:=by rw[Ys];omega
 have k:j-a.size<r.size:=oM;rw[getElem!_pos (a++r) j h,yCK b,getElem!_pos r (j-a.size) k]
def rep_at(n j:Nat)(h:j<n):(XW n (0:UInt8))[j]! = 0:=by
 have k:j<(XW n (0:UInt8)).size:=by rw[X8];exact h
 rw[getElem!_pos (XW n (0:UInt8)) j k,Zp]
def size_of5(P:Program)(e:Yj)(h:(P.info? e).map (·.size)=some 1):∀w,(yCV e).run P w=.ok 1 w:=by
 intro w;cases k:P.info? e with
 | none=>simp[k]at h
 | some i =>
  simp[k]at h;simp[yCV,typeInfo,k,h]
def conv_str(P:Program)(src k e:Yj)(m:P.underlying src=some (.slice e))(l:P.underlying e=some (.int .u8))(hd:P.underlying k=some .string)
 (w:XF) (b o n cap:Nat) (c:Bs) (i:Holds encB w b o c) (q:c.size=n):(convert src k (qZ b o n cap)).run P w=.ok (.string ⟨c⟩) w:=by
 have h:=run_convert_bytes_back (P:=P) w src k e ⟨b,o,none⟩ cap c.toList m l hd (λj r=>by
  have d:j<c.size:=by simpa using r
  have f:=(i j d).1;rw[getElem!_pos c j d]at f;have p:(⟨b,o,none⟩:Y4).add j=⟨b,o+j,none⟩:=by
   unfold yBZ;by_cases g:j=0
   .subst g;rfl
   .rw[yE4 g]
  rw[p,f];simp[encB,ub])
 simpa[q]using h
end SP
namespace SP
def int5:prog.underlying 5=some (.int .u8):=kR
def str9:prog.underlying 9=some .string:=kR
def size5:∀w,(yCV 5).run prog w=.ok 1 w:=size_of5 prog 5 kR
end SP
namespace SP
open Go.Sort
def low_bit(v:BitVec 64)(i:Nat)(h:i<8):(low v).toNat.testBit i=v.getLsbD i:=by
 unfold low;rw[yBr,Nat.testBit_mod_two_pow,BitVec.getLsbD];simp[h]
def EW{n k j:Nat}(d:St)(e:k<=n)(b:j<n):(iK d n k)[j]! = if j<k then byteOf d j else 0:=by
 induction k with
 | zero =>
  have c:j<(XW n (0:UInt8)).size:=by rw[X8];exact b
  rw[iK,getElem!_pos (XW n (0:UInt8)) j c,Zp,yE4 oM]
 | succ k ih =>
  rw[iK];by_cases h:j=k
  .subst h;rw[getElem!_set_same _ _ _ (by rw[nC];exact b),yE3 oM]
  .rw[getElem!_set_other _ _ _ _ h,ih oM];by_cases c:j<k
   .rw[yE3 c,yE3 oM]
   .rw[yE4 c,yE4 oM]
def LL{d:St}{n j:Nat}(k:j<n):(front d n)[j]! = byteOf d j:=by
 unfold front;rw[EW d (XH _) k,yE3 k]
/-! ### The sponge, byte by byte -/
structure Sp where
  d : St
  p : Bs
  h : Nat
structure Ok(S:Sp):Prop where
 d25:S.d.size=25
 p136:S.p.size=136
 hlt:S.h<136
def kG(S:Sp):Sp:={ d:=perm (lT S.p S.d 17),p:=S.p,h:=0 }
def Ew(S:Sp)(x:UInt8):Sp:=
 if S.h+1=136 then kG { d:=S.d,p:=S.p.setIfInBounds S.h x,h:=S.h } else { d:=S.d,p:=S.p.setIfInBounds S.h x,h:=S.h+1 }
def gK(S:Sp)(l:List UInt8):Sp:=l.foldl Ew S
def splice(p:Bs):Nat->List UInt8->Bs
 | _,[]=>p
 | i,x :: r=>splice (p.setIfInBounds i x) (i+1) r
def mM(S:Sp)(a b:List UInt8):gK S (a++b)=gK (gK S a) b:=List.foldl_append
def dM{p:Bs}{i:Nat}{l:List UInt8}:(splice p i l).size=p.size:=by
 induction l generalizing p i with
 | nil=>rfl
 | cons x r ih=>rw[splice,ih,YT]
def lH(p:Bs)(i:Nat)(l:List UInt8)(j:Nat)(c:i+l.length<=p.size)(k:j<p.size):(splice p i l)[j]! = if i<=j/\j<i+l.length then l[j-i]! else p[j]!:=by
 induction l generalizing p i with
 | nil=>simp[splice];omega
 | cons x r ih =>
  simp only[YA]at c;rw[splice,ih _ _ (by rw[YT];omega) (by rw[YT];exact k)];by_cases h:j=i
  .subst h;rw[yE4 oM,getElem!_set_same _ _ _ k,yE3 (by simp),yBm];rfl
  .rw[getElem!_set_other _ _ _ _ h];by_cases b:i+1<=j/\j<i+1+r.length
   .rw[yE3 b,yE3 (by simp;omega),show j-i=(j-(i+1))+1 by omega];rfl
   .rw[yE4 b,yE4 (by simp;omega)]
def pD(d:St)(p:Bs)(h:Nat):kG ⟨d,p,h⟩=⟨perm (lT p d 17),p,0⟩:=by unfold kG;rfl
def NL(S:Sp):(kG S).d=perm (lT S.p S.d 17):=by
 obtain⟨d,p,h⟩:=S;rw[pD]
def NJ(S:Sp):(kG S).p=S.p:=by
 obtain⟨d,p,h⟩:=S;rw[pD]
def NK(S:Sp):(kG S).h=0:=by
 obtain⟨d,p,h⟩:=S;rw[pD]
def NI{S:Sp}(b:S.d.size=25)(k:S.p.size=136):Ok (kG S):=by
 have hd:(lT S.p S.d 17).size=25:=by rw[mY,b]
 refine⟨?_,by rw[NJ,k],?_⟩
 .rw[NL];exact tY hd
 .rw[NK];decide
def Ob{x:UInt8}{S:Sp}(h:Ok S):Ok (Ew S x):=by
 have:=h.hlt;unfold Ew;by_cases e:S.h+1=136
 .rw[yE3 e];exact NI h.d25 (by show(S.p.setIfInBounds _ _).size=136;rw[YT];exact h.p136)
 .rw[yE4 e];exact⟨h.d25,by show(S.p.setIfInBounds _ _).size=136;rw[YT];exact h.p136,by show S.h+1<136;omega⟩
def jO{l:List UInt8}{S:Sp}(h:Ok S):Ok (gK S l):=by
 induction l generalizing S with
 | nil=>exact h
 | cons x r ih=>exact ih (Ob h)
def uW{l:List UInt8}(S:Sp)(f:l≠[])(k:S.h+l.length<=136):
 gK S l=if S.h+l.length=136 then kG { d:=S.d,p:=splice S.p S.h l,h:=S.h } else { d:=S.d,p:=splice S.p S.h l,h:=S.h+l.length }:=by
 induction l generalizing S with
 | nil=>exact absurd rfl f
 | cons x r ih =>
  show gK (Ew S x) r=_;simp only[YA]at k⊢;cases r with
  | nil =>
   unfold Ew gK splice;simp only[List.foldl_nil,List.length_nil];by_cases e:S.h+1=136
   .rw[yE3 e,yE3 oM];rfl
   .rw[yE4 e,yE4 oM];rfl
  | cons y r' =>
   have e:¬S.h+1=136:=by simp only[YA]at k;omega
   have c:Ew S x = { d:=S.d,p:=S.p.setIfInBounds S.h x,h:=S.h+1 }:=by unfold Ew;rw[yE4 e]
   rw[c,ih _ (by simp) (by simp only[YA]at k⊢;omega)];simp only[splice,YA];by_cases b:S.h+(r'.length+1+1)=136
   .rw[yE3 oM,yE3 b];rfl
   .rw[yE4 oM,yE4 b,show S.h+1+(r'.length+1)=S.h+(r'.length+1+1) by omega]
/-! ### The end -/
def ended(p : Bs)(h : Nat)(e : UInt8): Bs:=
  let q:=(splice p h (YR (136-h) 0)).setIfInBounds h e
  q.setIfInBounds 135 (q[135]! ^^^ 128)
def uK(S:Sp)(e:UInt8):Sp:=kG { d:=S.d,p:=ended S.p S.h e,h:=S.h }
def kE(h:Nat)(e:UInt8):List UInt8:=
 (e :: YR (135-h) 0).set (135-h) ((e :: YR (135-h) 0)[135-h]! ^^^ 128)
def fY{h:Nat}(e:UInt8)(hh:h<136):(kE h e).length=136-h:=by
 unfold kE;rw[List.length_set,YA,Z0];omega
def Ti{a b:Bs}(n:Nat)(e:a.size=n)(d:b.size=n)(h:∀j,j<n->a[j]! = b[j]!):a=b:=by
 apply yES oM;intro i k c;have:=h i oM;rwa[getElem!_pos a i k,getElem!_pos b i c]at this
def RS{h j:Nat}(e:UInt8)(b:j<136-h)(hh:h<136):(kE h e)[j]! = (if j=0 then e else 0) ^^^ (if j=135-h then 128 else 0):=by
 have f:∀j,j<136-h->(e :: YR (135-h) (0:UInt8))[j]! = if j=0 then e else 0:=by
  intro j b;cases j with
  | zero=>rfl
  | succ j =>
   have d:j+1<(e :: YR (135-h) (0:UInt8)).length:=by rw[YA,Z0];omega
   rw[getElem!_pos (e :: YR (135-h) (0:UInt8)) (j+1) d];simp
 have k:=fY e hh;have d:j<(e :: YR (135-h) (0:UInt8)).length:=by rw[YA,Z0];omega
 rw[getElem!_pos (kE h e) j (by rw[k];exact b)];unfold kE;rw[List.getElem_set];by_cases c:135-h=j
 .rw[yE3 c,f (135-h) oM,c,yE3 (rfl:j=j)]
 .rw[yE4 c,yE4 (show ¬j=135-h by omega)];have:=f j b;rw[getElem!_pos (e :: YR (135-h) (0:UInt8)) j d]at this;rw[this];simp
def EZ(p:Bs)(h:Nat)(e:UInt8):(ended p h e).size=p.size:=by
 unfold ended;simp only[YT,dM]
def CL{n j:Nat}(h:j<n):(YR n (0:UInt8))[j]! = 0:=by
 rw[getElem!_pos _ j (by simpa using h)];simp
def LX{p:Bs}{h:Nat}{e:UInt8}(c:p.size=136)(hh:h<136):ended p h e=splice p h (kE h e):=by
 have i:(splice p h (YR (136-h) 0)).size=136:=by rw[dM,c]
 refine Ti 136 (by rw[EZ,c]) (by rw[dM,c]) (λj f=>?_);have d:∀j,j<136->((splice p h (YR (136-h) 0)).setIfInBounds h e)[j]! = if j<h then p[j]! else if j=h then e else 0:=by
  intro j f;by_cases k:j=h
  .rw[k,getElem!_set_same _ _ _ oM,yE4 oM,yE3 rfl]
  .rw[getElem!_set_other _ _ _ _ k,lH _ _ _ _ (by rw[Z0,c];omega) oM,Z0];by_cases b:j<h
   .rw[yE4 oM,yE3 b]
   .rw[yE3 oM,yE4 b,yE4 k,CL oM]
 have hR:(splice p h (kE h e))[j]! = if j<h then p[j]! else(if j=h then e else 0) ^^^ (if j=135 then 128 else 0):=by
  rw[lH _ _ _ _ (by rw[fY e hh,c];omega) oM,fY e hh];by_cases b:j<h
  .rw[yE4 (show ¬(h<=j/\j<h+(136-h)) by omega),yE3 b]
  .rw[yE3 (show h<=j/\j<h+(136-h) by omega),yE4 b,RS e oM hh];have g:(j-h=0)=(j=h):=by apply propext;omega
   have k:(j-h=135-h)=(j=135):=by apply propext;omega
   simp only[g,k]
 have g:(ended p h e)[j]! = if j<h then p[j]! else(if j=h then e else 0) ^^^ (if j=135 then 128 else 0):=by
  unfold ended;by_cases k:j=135
  .rw[k,getElem!_set_same _ _ _ (by rw[YT,i];decide),d 135 dC,yE4 (show ¬135<h by omega),yE4 (show ¬135<h by omega),yE3 (rfl:135=135)]
  .rw[getElem!_set_other _ _ _ _ k,d j f];by_cases b:j<h
   .rw[yE3 b,yE3 b]
   .rw[yE4 b,yE4 b,yE4 k];simp
 rw[g,hR]
def IL{S:Sp}(h:Ok S)(e:UInt8):uK S e=gK S (kE S.h e):=by
 have:=h.hlt;have k:=fY e h.hlt;rw[uW S (by intro c;rw[c]at k;simp at k;omega) oM,yE3 oM];unfold uK;rw[LX h.p136 h.hlt]
end SP
namespace SP
def Only.widen{b o n k c:Nat}{w w':XF}(h:Only b o n w w')(e:k<=o)(f:o+n<=k+c):Only b k c w w':=
 ⟨h.os,h.tape,h.output,h.size,h.block,λq d=>h.cell q oM,h.froz⟩
structure HSp(w:XF)(b:Nat)(S:Sp):Prop where
 d:Holds enc w b 0 S.d
 p:Holds encB w b 25 S.p
 h:w.cell? ⟨b,161,none⟩=some (iZ (S.h:Int))
 f:w.frozen? ⟨b,161,none⟩=false
def HSp.drew{w:XF}{b:Nat}{S:Sp}(h:HSp w b S):HSp w.drew b S:=⟨h.d,h.p,h.h,h.f⟩
def HSp.lt{w:XF}{b:Nat}{S:Sp}(h:HSp w b S):b<w.heap.size:=yAa _ _ h.h
def HSp.below{w w':XF}{b B:Nat}{S:Sp}(h:HSp w b S)(k:Below B w w')(c:b<B):HSp w' b S:=
 ⟨Holds.below h.d k c,Holds.below h.p k c,by rw[k.cell (p:=⟨b,161,none⟩) c];exact h.h,by rw[k.frozen (p:=⟨b,161,none⟩) c];exact h.f⟩
def xY(b:Nat)(S:Sp)(w:XF)(f:S.d.size=25)(g:S.p.size=136)(n:HSp w b S):
 ZI prog 152 #[.pointer (some ⟨b,0,none⟩)] w λe w'=>e=.returned (.tuple #[])/\Only b 0 162 w w'/\HSp w' b (kG S):=by
 obtain⟨d,p,h⟩:=S;dsimp only at f g;have C:Holds enc w b 0 d:=n.d;have a:Holds encB w b 25 p:=n.p;have A:=n.h;have hf:=n.f;dsimp only at A;rw[pD];clear n;have t:(perm (lT p d 17)).size=25:=tY (by rw[mY,f]);generalize j:perm (lT p d 17)=B at t⊢;have u:Hid (perm (lT p d 17)=B):=j;clear j;go_enter func152,ntmps152;go_wp2;go_still_tail 7,mixed;go_wp2_with fail
 apply(OG b 0 b 25 136 136 p d _ f (Holds.drew C) (Holds.drew a) g dC (XH _) oM).mono;rintro e s ⟨rfl,q,o⟩;have k:Only b 0 25 w s:=((Only.refl b 0 25 w).drew).trans q;have l:Holds enc s b 0 (lT p d 17):=o;have v:=Holds.same a k oM;have c1:s.cell? ⟨b,161,none⟩=some (.int .i64 h):=by rw[k.cell 161 oM];exact A
 have D:s.frozen? ⟨b,161,none⟩=false:=by rw[k.froz];exact hf
 clear q o;go_wp2_with fail
 apply(vF b 0 _ _ (by rw[mY,f]) l).mono;rintro e r ⟨rfl,c,m⟩;rw[u.out]at m;have x:=Holds.same v c oM;have c2:r.cell? ⟨b,161,none⟩=some (.int .i64 h):=by rw[c.cell 161 oM];exact c1
 have f2:r.frozen? ⟨b,161,none⟩=false:=by rw[c.froz];exact D
 go_wp2
 go_end0
 have i:Only b 161 1 r (r.setCell ⟨b,161,none⟩ (.int .i64 0)):=(Only.refl b 161 1 r).setCell oM oM _;have z:=Holds.same m i (Yk oM);have y:=Holds.same x i (Yk oM);exact⟨rfl,((k.trans c).widen (XH _) oM).trans (i.widen oM oM),⟨z,y,Zf _ _ _ c2,by rw[YX];exact f2⟩⟩
def ints5:gZ 5 1:=gQ
def jE{w:XF}{b o:Nat}{p:Bs}(h:Holds encB w b o p)(i:Nat)(l:List UInt8)(d:i+l.length<=p.size):Holds encB (w.setCells b (o+i) (l.map encB)) b o (splice p i l):=by
 refine Holds.setCells h _ i dM (by rw[X7];exact d) (λj c=>?_) (λj c k=>?_)
 .rw[X7]at c;rw[lH p i l (i+j) d oM,yE3 oM,ZN,getElem!_pos l j c,yAj]
 .rw[X7]at k;rw[lH p i l j d c,yE4 oM]
def piece(b:Bs)(k n:Nat):List UInt8:=(b.toList.drop k).take n
def rT(b:Bs)(k n:Nat)(h:k+n<=b.size):(piece b k n).length=n:=by
 unfold piece;rw[List.length_take,List.length_drop,X0];omega
def piece_at{n j:Nat}(b:Bs)(k:Nat)(h:k+n<=b.size)(c:j<n)(d:j<(piece b k n).length):(piece b k n)[j]=b[k+j]!:=by
 have e:(piece b k n)[j]? = some b[k+j]!:=by
  unfold piece;rw[List.getElem?_take_of_lt c,List.getElem?_drop,YI,Ye oM,getElem!_pos b (k+j) oM]
 exact(XT.1 e).2
def D9(b:Bs)(k n:Nat):b.toList.take (k+n)=b.toList.take k++piece b k n:=List.take_add
def Ff{w:XF}{b h e o len cap n:Nat}{p d:Bs}{k:Nat}(i:Holds encB w b 25 p)(z:p.size=136)(r:Holds encB w e o d)(hh:h<136)(a:k+len<=d.size)(g:Nat.min len (136-h)=n):
 (yAL #[23,23] 3 #[qZ b (25+h) (136-h) (136-h),qZ e (o+k) len cap]).run prog w=.ok (goInt n) (w.setCells b (25+h) ((piece d k n).map encB)):=by
 have t:n<=len:=by rw[<-g];exact yCS _ _
 have u:n<=136-h:=by rw[<-g];exact yCM _ _
 have c:((piece d k n).map encB).length=n:=by rw[X7,rT d k n oM]
 have:=run_copy_cells (P:=prog) w 23 23 3 5 b (25+h) (136-h) (136-h) ⟨e,o+k,none⟩ len cap ((piece d k n).map encB) slice22 ints5 (by rw[c,g])
  (λj v f=>by
   obtain⟨l,m⟩:=XT.1 f;rw[c]at l;have y:=(r (k+j) oM).1;rw[yAj,piece_at d k oM l]at m;have s:(⟨e,o+k,none⟩:Y4).add j=⟨e,o+(k+j),none⟩:=by
    unfold yBZ;by_cases q:j=0
    .subst q;rw[yE3 rfl];rfl
    .rw[yE4 q,ZL]
   rw[s,y,m])
  (λj f=>by
   rw[c]at f;have:=(i (h+j) oM).1;rw[<-ZL]at this;rw[this];rfl)
  (λj f=>by
   rw[c]at f;have:=(i (h+j) oM).2;rw[<-ZL]at this;exact this)
  (λv hv=>by
   obtain⟨x,_,rfl⟩:=YD.1 hv;rfl)
 rw[c]at this;exact this
def sK{w:XF}{m b:Nat}{d:St}{p:Bs}{v:XG}(j:Holds enc w b 0 d)(i:d.size=25)(g:Holds encB w b 25 p)(e:p.size=136)(l:w.cell? ⟨b,161,none⟩=some v)(hf:w.frozen? ⟨b,161,none⟩=false):
 HSp (w.setCell ⟨b,161,none⟩ (iZ ((m:Nat):Int))) b ⟨d,p,m⟩:=by
 have f:Only b 161 1 w (w.setCell ⟨b,161,none⟩ (iZ ((m:Nat):Int))):=(Only.refl b 161 1 w).setCell oM oM _;have c:=Holds.same j f (Yk oM);have k:=Holds.same g f (Yk oM);exact⟨c,k,Zf _ _ _ l,by rw[YX];exact hf⟩
def take_any(b:Nat)(S:Sp)(a:Option Y4)(x A len cap:Nat)(d:Bs)(w:XF)(Z:Ok S)(hS:HSp w b S)(hl:d.size=len)(h2:len<=cap)(h1:len<=1099511627776)
 (c:len=0\/(a=some ⟨x,A,none⟩/\x≠b/\Holds encB w x A d)) :
 ZI prog 151 #[.pointer (some ⟨b,0,none⟩),.slice a len cap] w λe w'=>e=.returned (.tuple #[])/\Only b 0 162 w w'/\HSp w' b (gK S d.toList):=by
 go_enter func151,ntmps151;go_wp2;go_loopg [1] len (λg s1 wr=>∃(k:Nat) (T:Option Y4) (j:Sp),k+g=len/\s1=.slice T (len-k) (cap-k)/\(k<len->T=some ⟨x,A+k,none⟩)/\HSp wr b j/\Only b 0 162 w wr/\Hid (j=gK S (d.toList.take k)))
 case atStart =>
  refine⟨0,a,S,oM,rfl,λf=>?_,hS,Only.refl _ _ _ _,rfl⟩;rcases c with h|⟨h,_,_⟩
  .omega
  .exact h
 case round =>
  obtain⟨k,T,j,hk,rfl,P,m,Q,N⟩:=hrel;by_cases V:k<len
  .have O:=P V;subst O;obtain⟨_,U,hB⟩:a=some ⟨x,A,none⟩/\x≠b/\Holds encB w x A d:=by
    rcases c with h|h
    .omega
    .exact h
   have I:=Holds.other hB Q U oM;have i:Ok j:=by rw[N.out];exact jO Z
   obtain⟨q,hh⟩:=vH j.h;have r:=i.hlt;have D:=i.p136;rw[hh]at r;have hc:=m.h;have hf:=m.f;rw[hh]at hc;have X:=m.p;obtain⟨n,K⟩:=vH (Nat.min (len-k) (136-q));have l0:(0:Int)<((len-k:Nat):Int):=oM;have Y:(q:Int)<=136:=oM;have Hh:Hid (j.h=q):=hh;clear hh;have M:=eq_false oM;have h3:1<=n:=by rw[<-K];exact(Nat.le_min).2 ⟨oM,oM⟩
   have h4:n<=len-k:=by rw[<-K];exact yCS _ _
   have h5:n<=136-q:=by rw[<-K];exact yCM _ _
   have W:=Ff (w:=wr.drew) (cap:=cap-k) (k:=k) X D I r oM K;have u:=rT d k n oM;have t:=jE (Holds.drew X) q (piece d k n) oM;have v:Only b 0 162 w (wr.drew.setCells b (25+q) ((piece d k n).map encB)):=Q.drew.setCells _ _ oM (by rw[X7];omega);have B:Only b 25 136 wr (wr.drew.setCells b (25+q) ((piece d k n).map encB)):=((Only.refl b 25 136 wr).drew).setCells _ _ oM (by rw[X7];omega);have s:=Holds.same m.d B (Yk (by rw[i.d25];omega));have c1:(wr.drew.setCells b (25+q) ((piece d k n).map encB)).cell? ⟨b,161,none⟩=some (.int .i64 q):=by rw[B.cell 161 oM];exact hc
   have G:(wr.drew.setCells b (25+q) ((piece d k n).map encB)).frozen? ⟨b,161,none⟩=false:=by rw[B.froz];exact hf
   have L:Hid (gK S (d.toList.take (k+n))=gK j (piece d k n)):=by
    show _=_;rw[D9,mM,<-N.out]
   have f:Hid (gK j (piece d k n)=if q+n=136 then kG ⟨j.d,splice j.p q (piece d k n),q⟩ else⟨j.d,splice j.p q (piece d k n),q+n⟩):=by
    show _=_;have:=uW j (l:=(piece d k n)) (by intro e;rw[e]at u;simp at u;omega) (by rw[u,Hh.out];omega);rw[u,Hh.out]at this;exact this
   have l:(splice j.p q (piece d k n)).size=136:=by rw[dM,D]
   have p:=i.d25;generalize R:wr.drew.setCells b (25+q) ((piece d k n).map encB)=W1 at W t v s c1 G;generalize splice j.p q (piece d k n)=E at t l f;generalize j.d=F at s p f;clear B R X I i u m D K;have z1:(n:Int)<=((len-k:Nat):Int):=oM;by_cases z:cap-k=n
   .have H:(cap-k=n)=True:=eq_true z;have J:Hid (cap-k=n):=z;clear z;by_cases c:q+n=136
    .have hb:((q:Int)+(n:Int) == 136)=true:=beq_iff_eq.2 oM;rw[yE3 c]at f;go_wp2_with fail
     go_still_tail 9,mixed;go_wp2_with fail
     refine(xY b ⟨F,E,q+n⟩ _ p l (sK s p t l c1 G (m:=(q+n)))).mono ?_;rintro e w2 ⟨rfl,C,y⟩;go_wp2;go_roundg (gk-n)
     case measure=>omega
     case rel =>
      refine⟨k+n,some ⟨x,A+k,none⟩,kG ⟨F,E,q⟩,oM,by rw[yA5,yA5],λhx=>oN J.out,?_,?_,?_⟩
      .rw[pD]at y⊢;exact y
      .exact(v.setCell (o:=161) oM oM _).trans C
      .rw[L.out,f.out];rfl
    .have hb:=beq_eq_false_iff_ne.2 oM;rw[yE4 c]at f;go_wp2_with fail
     go_still_tail 9,mixed;go_wp2;go_roundg (gk-n)
     case measure=>omega
     case rel =>
      refine⟨k+n,some ⟨x,A+k,none⟩,⟨F,E,q+n⟩,oM,by rw[yA5,yA5],λhx=>oN J.out,?_,?_,?_⟩
      .exact sK s p t l c1 G (m:=(q+n))
      .exact v.setCell (o:=161) oM oM _
      .rw[L.out,f.out];rfl
   .have H:=eq_false z;by_cases c:q+n=136
    .have hb:=beq_iff_eq.2 oM;rw[yE3 c]at f;go_wp2_with fail
     go_still_tail 9,mixed;go_wp2_with fail
     refine(xY b ⟨F,E,q+n⟩ _ p l (sK s p t l c1 G (m:=(q+n)))).mono ?_;rintro e w2 ⟨rfl,C,y⟩;go_wp2;go_roundg (gk-n)
     case measure=>omega
     case rel =>
      refine⟨k+n,some ⟨x,A+k+n,none⟩,kG ⟨F,E,q⟩,oM,by rw[yA5,yA5],λ_=>by rw[ZL],?_,?_,?_⟩
      .rw[pD]at y⊢;exact y
      .exact(v.setCell (o:=161) oM oM _).trans C
      .rw[L.out,f.out];rfl
    .have hb:=beq_eq_false_iff_ne.2 oM;rw[yE4 c]at f;go_wp2_with fail
     go_still_tail 9,mixed;go_wp2;go_roundg (gk-n)
     case measure=>omega
     case rel =>
      refine⟨k+n,some ⟨x,A+k+n,none⟩,⟨F,E,q+n⟩,oM,by rw[yA5,yA5],λ_=>by rw[ZL],?_,?_,?_⟩
      .exact sK s p t l c1 G (m:=(q+n))
      .exact v.setCell (o:=161) oM oM _
      .rw[L.out,f.out];rfl
  .have c:k=len:=oM;go_wp2
   go_end0
   refine⟨rfl,Q,?_⟩;have O:d.toList.take k=d.toList:=yC9 (by rw[X0];omega);rw[N.out,O]at m;exact m
def rY(x:UInt8):yAk 8 (x.toNat:Int)=x.toBitVec:=by
 apply yC7;rw[yDe,yB5];exact Ya x.toNat_lt
def A9(x y:UInt8):bits .xor .u8 (ub x) (ub y)=ub (x ^^^ y):=by
 show yBj.wrap ((yAk 8 (x.toNat:Int) ^^^ yAk 8 (y.toNat:Int)).toNat:Int)=_;rw[rY,rY,<-UInt8.toBitVec_xor];have h:((x ^^^ y).toNat:Int)<256:=oN ((x ^^^ y).toNat_lt);have e:∀n:Int,yBj.wrap n=n%256:=λn=>by simp[yD6,yD7,yDK]
 rw[e];exact yDV (Int.natCast_nonneg _) h
def TJ(x:UInt8):bits .xor .u8 (ub x) 128=ub (x ^^^ 128):=A9 x 128
def TI:∀w:XF,(zeroValue 5).run prog w=.ok (.int .u8 0) w:=λ_=>kR
def Du{w:XF}{b q:Nat}{p:Bs}(c:Holds encB w b 25 p)(f:p.size=136)(e:q<136)(k:Yj):
 (Builtin.clear_ #[23] k #[qZ b (25+q) (136-q) (136-q)]).run prog w=.ok (.tuple #[]) (w.setCells b (25+q) ((YR (136-q) (0:UInt8)).map encB)):=by
 have h:=Lib.run_clear_slice (P:=prog) w 23 5 k (.int .u8 0) slice22 TI rfl rfl b (25+q) (136-q) (136-q) oM
  (λj d=>by
   have:=(c (q+j) oM).1;rw[<-ZL]at this;rw[this];rfl)
  (λj d=>by
   have:=(c (q+j) oM).2;rw[<-ZL]at this;exact this)
 rw[List.map_replicate];exact h
def G6(b:Nat)(S:Sp)(e:UInt8)(w:XF)(l:Ok S)(A:HSp w b S):
 ZI prog 95 #[.pointer (some ⟨b,0,none⟩),.int .u8 (ub e)] w λr w'=>r=.returned (.tuple #[])/\Only b 0 162 w w'/\HSp w' b (uK S e):=by
 obtain⟨d,p,q⟩:=S;have G:d.size=25:=l.d25;have m:p.size=136:=l.p136;have U:q<136:=l.hlt;have V:Holds enc w b 0 d:=A.d;have E:Holds encB w b 25 p:=A.p;have Q:w.cell? ⟨b,161,none⟩=some (.int .i64 q):=A.h;have hf:=A.f;have a:=Du (Holds.drew E) m U 0;have t:Only b 25 136 w (w.drew.setCells b (25+q) ((YR (136-q) (0:UInt8)).map encB)):=((Only.refl b 25 136 w).drew).setCells _ _ oM (by rw[X7,Z0];omega);have g:=jE (Holds.drew E) q (YR (136-q) (0:UInt8)) (by rw[Z0];omega);have z:(splice p q (YR (136-q) 0)).size=136:=by rw[dM,m]
 have v:Hid (uK ⟨d,p,q⟩ e=kG ⟨d,((splice p q (YR (136-q) 0)).setIfInBounds q e).setIfInBounds 135 (((splice p q (YR (136-q) 0)).setIfInBounds q e)[135]! ^^^ 128),q⟩):=by
  show _=_;unfold uK ended;rfl
 generalize w.drew.setCells b (25+q) ((YR (136-q) (0:UInt8)).map encB)=D at a t g;generalize splice p q (YR (136-q) 0)=W at g z v;have B:(136=q)=False:=eq_false oM;have N:(q:Int)<=136:=oM;have C:(q:Int)<136:=oM;have c1:D.cell? ⟨b,161,none⟩=some (.int .i64 q):=by rw[t.cell 161 oM];exact Q
 obtain⟨c2,f2⟩:=g q oM;obtain⟨k,c⟩:=vH (W.setIfInBounds q e);rw[c]at v;have O:k.size=136:=by rw[<-c,YT,z]
 obtain⟨x,hx⟩:∃x,k[135]! = x:=⟨_,rfl⟩
 rw[hx]at v;have P:=TJ x;have u:=Holds.set g (i:=q) oM e;rw[c]at u;have y:Only b 25 136 w (D.setCell ⟨b,25+q,none⟩ (.int .u8 (ub e))):=t.setCell (o:=25+q) oM oM _;have j:Holds encB (D.setCell ⟨b,25+q,none⟩ (.int .u8 (ub e))) b 25 k:=u;have T:Hid (k[135]! = x):=hx;rw[v.out];clear A l E c hx u v;have H:(k.setIfInBounds 135 (x ^^^ 128)).size=136:=by rw[YT,O]
 go_enter func95,ntmps95;go_wp2;go_still_tail 8,mixed;go_wp2_with fail
 go_region
 go_wp2_with fail
 generalize D.setCell ⟨b,25+q,none⟩ (.int .u8 (ub e))=I at j y⊢;obtain⟨Y,f3⟩:=Hq j oM T;clear c1 c2 f2 a g;go_region
 go_wp2_with fail
 have L:=Holds.set j (i:=135) oM (x ^^^ 128);have f:Only b 25 136 w (I.setCell ⟨b,160,none⟩ (.int .u8 (ub (x ^^^ 128)))):=y.setCell (o:=160) oM oM _;have n:Holds encB (I.setCell ⟨b,160,none⟩ (.int .u8 (ub (x ^^^ 128)))) b 25 (k.setIfInBounds 135 (x ^^^ 128)):=L;generalize I.setCell ⟨b,160,none⟩ (.int .u8 (ub (x ^^^ 128)))=R at n f⊢;have M:Holds enc R b 0 d:=Holds.same V f (Yk oM);have F:HSp R b ⟨d,k.setIfInBounds 135 (x ^^^ 128),q⟩:=⟨M,n,by rw[f.cell 161 oM];exact Q,by rw[f.froz];exact hf⟩
 apply(xY b ⟨d,k.setIfInBounds 135 (x ^^^ 128),q⟩ _ G H F.drew.drew).mono;rintro r X ⟨rfl,J,K⟩;go_wp2
 go_end0
 exact⟨rfl,(f.drew.drew.widen oM oM).trans J,K⟩
end SP
namespace SP
open Go.Sort
def iO(d:St):Nat->St
 | 0=>d
 | m+1=>perm (iO d m)
def dU{d:St}(hd:d.size=25)(m:Nat):(iO d m).size=25:=by
 induction m with
 | zero=>exact hd
 | succ m ih=>exact tY ih
def jP(d:St)(j:Nat):UInt8:=byteOf (iO d (j/136)) (j%136)
def mO(d:St)(n:Nat):Bs:=Array.ofFn (λi:Fin n=>jP d i.val)
def mN(d:St)(n:Nat):(mO d n).size=n:=by simp[mO]
def Ef{n j:Nat}(d:St)(k:j<n):(mO d n)[j]! = jP d j:=by
 rw[getElem!_pos (mO d n) j (by rw[mN];exact k)];simp[mO]
def S0:Sp:=⟨xN,XW 136 0,0⟩
def DR:Ok S0:=⟨by simp[S0,xN],by simp[S0],dC⟩
def Ak(l:List UInt8)(e:UInt8):St:=(uK (gK S0 l) e).d
def v9{l:List UInt8}{e:UInt8}:(Ak l e).size=25:=by
 unfold Ak;have h:=jO DR (l:=l);rw[IL h];exact(jO h).d25
def Lv(l:List UInt8):Bs:=front (Ak l 6) 32
def lF(l:List UInt8)(n:Nat):Bs:=mO (Ak l 31) n
end SP
namespace SP
def vZ{w:XF}{g l cap r k n c:Nat}{cur f:Bs}(q:Holds encB w g 0 cur)(D:cur.size=cap)(z:Holds encB w r 0 f)(a:f.size=n)(p:k=n)(e:l+n<=cap)(s:Yj):
 (YK #[23,23] s #[sZ g l cap,sZ r k c]).run prog w=.ok (sZ g (l+n) cap) (w.setCells g l (f.toList.map encB)):=by
 subst p;obtain⟨i,B,_,d,_⟩:=info_parts info5;have b:(f.toList.map encB).length=k:=by rw[X7,X0,a]
 have m:Src prog i.size 23 (sZ r k c) k (f.toList.map encB) w:=by
  rw[d];refine Src.ofSlice w slice22 (aZ r) k c _ (by rw[b,yAe]) (λj v o=>?_) (λv hv=>?_)
  .obtain⟨A,t⟩:=XT.1 o;rw[b]at A;have u:=(z j oM).1;rw[getElem!_pos f j oM]at u;rw[yAj,yAn]at t;have C:(⟨r,0,none⟩:Y4).add j=⟨r,0+j,none⟩:=by
    unfold yBZ;by_cases y:j=0
    .subst y;rw[yE3 rfl]
    .rw[yE4 y]
   rw[C,u,t]
  .obtain⟨x,_,rfl⟩:=YD.1 hv;rfl
 have h:=run_append_room_src (P:=prog) w 23 23 s 5 i slice22 B g 0 l cap (sZ r k c) k _ m e
  (λj o=>by
   rw[b]at o;rw[d,yAe,ZL,(q (l+j) oM).1];rfl)
  (λj o=>by
   rw[b]at o;rw[d,yAe,ZL];exact(q (l+j) oM).2)
 rw[d,yAe,XQ]at h;exact h
def Only.with_new{b o n g m p:Nat}{w c d:XF}(h:Only b o n w c)(k:Only g p m c d)(r:w.heap.size<=g)(t:b<w.heap.size):Only b o n w d:=by
 have s:=h.size;have e:=k.block b oM oM;exact⟨k.os.trans h.os,k.tape.trans h.tape,k.output.trans h.output,XN h.size k.size,
  λj l i=>(k.block j oM oM).trans (h.block j l i),
  λq f=>(Yb (w:=c) (a:=⟨b,q,none⟩) e).trans (h.cell q f),λq=>(Y6 (w:=c) (a:=⟨b,q,none⟩) e).trans (h.froz q)⟩
def Ey{m:Nat}(d:St)(h:¬m=0):perm (iO d (m-1))=iO d m:=by
 obtain⟨k,rfl⟩:∃k,m=k+1:=⟨m-1,oM⟩
 rw[Nat.add_sub_cancel,iO]
def Cw{d:St}{m:Nat}{cur:Bs}(c:136*m+136<=cur.size)(h:∀j,j<136*m->cur[j]! = jP d j):∀j,j<136*(m+1)->(splice cur (136*m) (front (iO d m) 136).toList)[j]! = jP d j:=by
 intro j e;have k:(front (iO d m) 136).toList.length=136:=by rw[X0,dW]
 rw[lH _ _ _ _ (by rw[k];exact c) oM,k];by_cases b:j<136*m
 .rw[yE4 oM,h j b]
 .rw[yE3 oM,getElem!_pos _ (j-136*m) (by rw[k];omega),yAn,<-getElem!_pos (front (iO d m) 136) (j-136*m) (by rw[dW];omega),LL oM];unfold jP;rw[show j/136=m by omega,show j%136=j-136*m by omega]
def LH(b:Nat)(d:St)(n:Nat)(w:XF)(f:d.size=25)(hD:Holds enc w b 0 d)(hn:n<=16384):
 cZ 203 #[jZ b,iZ n] w λe w'=>e=.returned (sZ w.heap.size n n)/\Only b 0 25 w w'/\Holds encB w' w.heap.size 0 (mO d n):=by
 have L:=Holds.lt hD oM;obtain⟨i,hi,J,S,Y⟩:=info_parts info5;obtain⟨q,O⟩:=vH (n+136);have h3:∀w:XF,(yAq 23 (iZ 0) (iZ ((n:Int)+136))).run prog w=.ok (sZ w.heap.size 0 q) (w.alloc (.cells (madeCells #[.int .u8 0] q) 5)):=by
  intro w;have h:=run_make (P:=prog) w 23 5 i (.int .u8 0) slice22 hi J .i64 .i64 0 ((n:Int)+136) oM oM (by rw[Y];omega) oM;rw[S,yAe,show((n:Int)+136).toNat=q by omega]at h;exact h
 have M:Holds encB (w.alloc (.cells (madeCells #[.int .u8 0] q) 5)) w.heap.size 0 (XW q 0):=Holds.made (enc:=encB) w 5 q 0;have V:Only b 0 25 w (w.alloc (.cells (madeCells #[.int .u8 0] q) 5)):=(Only.refl _ _ _ _).alloc L _;have N:=Holds.below hD ((XX w.heap.size w).alloc (XH _) (.cells (madeCells #[.int .u8 0] q) 5)) L;have Q:w.heap.size<(w.alloc (.cells (madeCells #[.int .u8 0] q) 5)).heap.size:=by simp
 have T:=mk1 (O);go_enter func203,ntmps203;go_wp2;go_loopg [5] q (λg s5 wr=>∃(m l:Nat) (cur:Bs),Hid (l=136*m)/\l+g=q/\1<=g/\s5=sZ w.heap.size l q/\Holds encB wr w.heap.size 0 cur/\cur.size=q/\Holds enc wr b 0 (iO d (m-1))/\Only b 0 25 w wr/\w.heap.size<wr.heap.size/\Hid (∀j,j<136*m->cur[j]! = jP d j))
 case atStart=>exact⟨0,0,_,rfl,oM,oN T.out,rfl,M,by rw[X8],N,V,Q,λj W=>oM⟩
 case round =>
  obtain⟨m,l,cur,B,hg,h2,rfl,K,z,D,X,hs,HE⟩:=hrel;have R:=dU (d:=d) f (m-1);by_cases h4:l<n
  .have h0:(l:Int)<(n:Int):=oM;have Z:Hid (∀j,j<136*(m+1)->(splice cur l (front (iO d m) 136).toList)[j]! = jP d j):=by
    rw[B.out];exact Cw (d:=d) (m:=m) (cur:=cur) (by rw[<-B.out];omega) HE
   by_cases G:m=0
   .have J:¬(0:Int)<(l:Int):=oN B.out;have s:Holds enc wr b 0 (iO d m):=by rw[G]at D⊢;exact D
    go_wp2_with fail
    refine(uI b 0 136 _ _ (dU (d:=d) f m) s dC).mono ?_;rintro e E ⟨rfl,o,U⟩;have p:=Holds.below K o (Holds.lt K oM);have C:=Holds.below s o (Holds.lt s (by rw[dU (d:=d) f];decide));have x:=vZ (l:=l) (k:=136) (n:=136) (c:=136) p z U dW rfl oM 23;have t:=jE p l (front (iO d m) 136).toList (by rw[X0,dW];omega);rw[XQ]at t;have a:=X.trans (Only.of_below o rfl (Holds.lt s (by rw[dU (d:=d) f];decide)));have r:Only w.heap.size 0 q E (E.setCells w.heap.size l ((front (iO d m) 136).toList.map encB)):=(Only.refl _ _ _ _).setCells _ _ oM (by rw[X7,X0,dW];omega);have u:=a.with_new r (XH _) L;have y:=Holds.other C r oM (by rw[dU (d:=d) f];decide);have v:=XI (Holds.lt p oM) r.size;generalize E.setCells w.heap.size l ((front (iO d m) 136).toList.map encB)=F at x t u y v;have A:Hid _:=x;go_wp2_with (at_builtin;refine yAs _ rfl _ _ 23 23 rfl _ _ rfl rfl _ _ A.out ?_)
    go_roundg (gk-136)
    case measure=>omega
    case rel =>
     exact⟨m+1,l+136,_,by have:=B.out;show _=_;omega,oM,oM,rfl,t,by rw[dM,z],y,u,v,Z⟩
   .have h1:(0:Int)<(l:Int):=oN B.out;go_wp2_with fail
    refine(vF b 0 _ _ R D).mono ?_;rintro e w1 ⟨rfl,I,s⟩;rw[Ey d (m:=m) G]at s;have F:=Holds.other K I oM oM;have H:=X.trans I;go_wp2_with fail
    refine(uI b 0 136 _ _ (dU (d:=d) f m) s dC).mono ?_;rintro e E ⟨rfl,o,U⟩;have p:=Holds.below F o (Holds.lt F oM);have C:=Holds.below s o (Holds.lt s (by rw[dU (d:=d) f];decide));have x:=vZ (l:=l) (k:=136) (n:=136) (c:=136) p z U dW rfl oM 23;have t:=jE p l (front (iO d m) 136).toList (by rw[X0,dW];omega);rw[XQ]at t;have a:=H.trans (Only.of_below o rfl (Holds.lt s (by rw[dU (d:=d) f];decide)));have r:Only w.heap.size 0 q E (E.setCells w.heap.size l ((front (iO d m) 136).toList.map encB)):=(Only.refl _ _ _ _).setCells _ _ oM (by rw[X7,X0,dW];omega);have u:=a.with_new r (XH _) L;have y:=Holds.other C r oM (by rw[dU (d:=d) f];decide);have v:=XI (Holds.lt p oM) r.size;have A:Hid _:=x;go_wp2_with (at_builtin;refine yAs _ rfl _ _ 23 23 rfl _ _ rfl rfl _ _ A.out ?_)
    go_roundg (gk-136)
    case measure=>omega
    case rel =>
     exact⟨m+1,l+136,_,by have:=B.out;show _=_;omega,oM,oM,rfl,t,by rw[dM,z],y,u,v,Z⟩
  .have o:(n:Int)<=(l:Int):=oM;go_wp2;go_ret;refine⟨rfl,X,λj W=>?_⟩;rw[mN]at W;have:=K j oM;rw[HE.out j (oN B.out)]at this;rw[Ef d (n:=n) (j:=j) W];exact this
def eX:Array XG:=XW 25 (uZ 0)++XW 136 (.int .u8 0)++#[iZ 0]
def Jk:∀w:XF,(zeroValue 182).run prog w=.ok (.agg eX) w:=λ_=>kR
def JK{j:Nat}(b:j<25):eX[j]? = some (uZ 0):=by
 have k:j<(XW 25 (uZ 0)).size:=by rw[X8];exact b
 unfold eX;rw[yDy,yAK k,Ye k,Zp]
def JI{j:Nat}(b:j<136):eX[25+j]? = some (.int .u8 0):=by
 have k:j<(XW 136 (Y1 .u8 0)).size:=by rw[X8];exact b
 unfold eX;rw[yDy,yBq (by rw[X8];omega),X8,ZN,yAK k,Ye k,Zp]
def JJ:eX[161]? = some (iZ 0):=by
 unfold eX;rw[yBq (by rw[Ys,X8,X8];decide),Ys,X8,X8];rfl
def GP(w:XF)(t:Yj):HSp (w.alloc (.cells eX t)) w.heap.size S0:=by
 refine⟨λj b=>?_,λj b=>?_,?_,?_⟩
 .have k:j<25:=by simpa[S0,xN]using b
  rw[Yz,Zz,XQ,JK k];refine⟨?_,rfl⟩;have e:S0.d[j]! = 0:=Ic k;rw[e];rfl
 .have k:j<136:=by simpa[S0]using b
  rw[Yz,Zz,JI k];refine⟨?_,rfl⟩;have e:S0.p[j]! = 0:=rep_at 136 j k;rw[e];rfl
 .rw[Yz,JJ];rfl
 .rw[Zz]
def Al(a:Option Y4)(c o len cap n:Nat)(d:Bs)(w:XF)(z:n<=16384)(A:d.size=len)(g:len<=cap)(l:len<=1099511627776)(f:len=0\/(a=some ⟨c,o,none⟩/\Holds encB w c o d)):
 ZI prog 179 #[.slice a len cap,.int .i64 n] w λe w'=>∃r,e=.returned (.tuple #[.slice (some ⟨r,0,none⟩) n n,.int .i64 0])/\w.heap.size<=r/\Below w.heap.size w w'/\Holds encB w' r 0 (lF d.toList n):=by
 have j:=GP w 182;have b:Below w.heap.size w (w.alloc (.cells eX 182)):=(XX _ _).alloc (XH _) _;have p:w.heap.size<(w.alloc (.cells eX 182)).heap.size:=by simp
 have k:len=0\/(a=some ⟨c,o,none⟩/\c≠w.heap.size/\Holds encB (w.alloc (.cells eX 182)) c o d):=by
  by_cases s:len=0
  .exact Yk s
  .rcases f with h|⟨q,m⟩
   .exact Yk h
   .have i:=Holds.lt m oM;exact Yd ⟨q,oM,Holds.below m b i⟩
 have C:=Jk;go_enter func179,ntmps179;go_wp2_with fail
 generalize w.alloc (.cells eX 182)=y at j b p k⊢;apply(take_any w.heap.size S0 a c o len cap d y DR j A g l k).mono;rintro e x ⟨rfl,m,t⟩;go_wp2_with fail
 apply(G6 w.heap.size (gK S0 d.toList) 31 x (jO DR) t).mono;rintro e B ⟨rfl,i,u⟩;have s:=u.d;go_wp2_with fail
 apply(LH w.heap.size _ n _ v9 s z).mono;rintro e D ⟨rfl,q,v⟩;go_wp2
 go_ret2
 have s1:=m.size;have s2:=i.size;exact⟨B.heap.size,rfl,oM,(b.trans ((m.trans i).below oM (XH _))).trans (q.below oM (XH _)),v⟩
end SP
namespace SP
def Own(B:Nat)(w:XF)(v:XG)(T:List UInt8):Prop:=
 ∃g cap cur,v=sZ g T.length cap/\B<=g/\g<w.heap.size/\ZA cur=cap/\T.length<=cap/\Holds encB w g 0 cur/\∀j,j<T.length->cur[j]! = T[j]!
def Holds.front{α:Type}[Inhabited α]{f:α->XG}{w:XF}{b o:Nat}{d e:Array α}(h:Holds f w b o d)(g:e.size<=d.size)(c:∀j,j<e.size->e[j]! = d[j]!):Holds f w b o e:=by
 intro j k;rw[c j k];exact h j oM
def Dc(T:List UInt8)(j:Nat):T.toArray[j]! = T[j]!:=by
 by_cases h:j<T.length
 .rw[getElem!_pos T.toArray j (by simpa using h),getElem!_pos T j h];simp
 .rw[getElem!_neg T.toArray j (by simpa using h),getElem!_neg T j h]
variable {B:Nat}{w w1:XF}{v:XG}{T:List UInt8}
def Own.holds{g cap n:Nat}(h:Own B w (sZ g n cap) T):B<=g/\n=T.length/\T.length<=cap/\Holds encB w g 0 T.toArray:=by
 obtain⟨i,k,cur,hv,c,_,l,f,e,b⟩:=h;injection hv with e1 e2 e3
 injection e1 with e1
 injection e1 with e1 _ _
 subst e1 e3;exact⟨c,e2,f,Holds.front e (by simp;omega) (λj d=>by rw[Dc];exact(b j (by simpa using d)).symm)⟩
def zM(s:ByteArray)(i:B<=w.heap.size):
 ∃b w',(convert 9 23 (.string s)).run prog w=.ok b w'/\Own B w' b s.data.toList/\Below w.heap.size w w'/\b=.slice (some ⟨w.heap.size,0,none⟩) s.size (grownCap w s.size 0 5):=by
 have h:=Lib.run_convert_string_bytes (P:=prog) w 9 23 5 s str9 slice22 int5;have f:s.size<=grownCap w s.size 0 5:=by
  unfold grownCap Question.cut;exact yBU _ _
 have l:s.data.size=s.size:=rfl;refine⟨_,_,h,⟨w.heap.size,grownCap w s.size 0 5,s.data++XW (grownCap w s.size 0 5-s.size) 0,?_,i,by rw[yCl];omega,?_,?_,?_,?_⟩,?_,rfl⟩
 .rw[X0];rfl
 .rw[Ys,X8];omega
 .rw[X0];omega
 .intro j b;rw[Ys,X8]at b;have e:=Lib.bytesWorld_at_new w 5 s;have d:(yAT w 5 s).size=grownCap w s.size 0 5:=by
   unfold yAT;rw[Ys,Array.size_map,X8];omega
  have g:(yAT w 5 s)=(s.data++XW (grownCap w s.size 0 5-s.size) 0).map encB:=by
   unfold yAT;rw[Array.map_append,yDo];rfl
  have c:j<(s.data++XW (grownCap w s.size 0 5-s.size) 0).size:=by rw[Ys,X8];exact b
  constructor
  .unfold World.cell?;rw[e];simp only[XQ];rw[yE4 dC,g,yDw,Ye c,yAy,getElem!_pos _ j c]
  .unfold World.frozen?;rw[e];simp only[XQ,d];simp;omega
 .intro j b;rw[X0]at b;rw[app_front _ _ j b,getElem!_pos s.data.toList j (by rw[X0];exact b),yAn]
 .refine⟨?_,?_,?_,?_,λk b=>Lib.bytesWorld_at_old w 5 s k b⟩
  .unfold yBH yBQ;rw[yE4 dC];rfl
  .unfold yBH yBQ;rw[yE4 dC];rfl
  .unfold yBH yBQ;rw[yE4 dC];rfl
  .rw[yCl];omega
def Holds.below'{α:Type}[Inhabited α]{f:α->XG}{w e:XF}{b o:Nat}{d:Array α}(h:Holds f w b o d)(k:Below w.heap.size w e):Holds f e b o d:=by
 intro j g;have c:=Holds.lt h oM;exact Holds.below h k c j g
def EU{l:List UInt8}:(Lv l).size=32:=by rw[Lv,dW]
end SP
namespace SP
def bH(n d:Nat):UInt8:=XY (n/d)
def fB{n d:Nat}:(n:Int)/(d:Int)%256=ub (bH n d):=by
 have k:((n:Int)/(d:Int))=((n/d:Nat):Int):=by rw[yBX]
 rw[k];unfold ub bH;rw[yBr];omega
def sF(n:Nat):(n:Int)%256=ub (bH n 1):=by
 have:=fB (n:=n) (d:=1);rw[show((1:Nat):Int)=1 from rfl,Int.ediv_one]at this;exact this
def uJ(l:List UInt8):List UInt8:=[bH l.length 16777216,bH l.length 65536,bH l.length 256,bH l.length 1]++l
def rA(w:XF)(x y z t:UInt8):Holds encB (w.alloc (.cells #[.int .u8 (ub x),.int .u8 (ub y),.int .u8 (ub z),.int .u8 (ub t)] 5)) w.heap.size 0 #[x,y,z,t]:=by
 have h:=Holds.new (enc:=encB) w 5 #[x,y,z,t];have e:yER encB #[x,y,z,t]=#[.int .u8 (ub x),.int .u8 (ub y),.int .u8 (ub z),.int .u8 (ub t)]:=by simp[encB]
 rw[e]at h;exact h
def qJ(b:Nat)(S:Sp)(a:Option Y4)(c i len cap:Nat)(f:Bs)(w:XF)(o:Ok S)(A:HSp w b S)(B:f.size=len)(l:len<=cap)(n:len<=1099511627776)
 (g:len=0\/(a=some ⟨c,i,none⟩/\c≠b/\Holds encB w c i f)) :
 ZI prog 94 #[.pointer (some ⟨b,0,none⟩),.slice a len cap] w λe w'=>e=.returned (.tuple #[])/\Only b 0 162 w w'/\HSp w' b (gK S (uJ f.toList)):=by
 have D:=A.lt;have b0:(len:Int)/16777216%256=ub (bH len 16777216):=fB;have b1:(len:Int)/65536%256=ub (bH len 65536):=fB;have H:(len:Int)/256%256=ub (bH len 256):=fB;have I:(len:Int)%256=ub (bH len 1):=sF len;have F:Hid (uJ f.toList=(#[bH len 16777216,bH len 65536,bH len 256,bH len 1]:Bs).toList++f.toList):=by
  unfold uJ;rw[X0,B];rfl
 have C:=rA w (bH len 16777216) (bH len 65536) (bH len 256) (bH len 1);generalize bH len 16777216=r at *;generalize bH len 65536=q at *;generalize bH len 256=s at *;generalize bH len 1=j at *;have d:Below w.heap.size w (w.alloc (.cells #[.int .u8 (ub r),.int .u8 (ub q),.int .u8 (ub s),.int .u8 (ub j)] 5)):=(XX _ _).alloc (XH _) _;have p:=A.below d D;have t:Only b 0 162 w (w.alloc (.cells #[.int .u8 (ub r),.int .u8 (ub q),.int .u8 (ub s),.int .u8 (ub j)] 5)):=Only.of_below d rfl D;have k:len=0\/(a=some ⟨c,i,none⟩/\c≠b/\Holds encB (w.alloc (.cells #[.int .u8 (ub r),.int .u8 (ub q),.int .u8 (ub s),.int .u8 (ub j)] 5)) c i f):=by
  by_cases y:len=0
  .exact Yk y
  .rcases g with h|⟨x,v,u⟩
   .exact Yk h
   .exact Yd ⟨x,v,Holds.below u d (Holds.lt u oM)⟩
 go_enter func94,ntmps94;go_wp2_with fail
 generalize w.alloc (.cells #[.int .u8 (ub r),.int .u8 (ub q),.int .u8 (ub s),.int .u8 (ub j)] 5)=G at C d p t k⊢;apply(take_any b S (some ⟨w.heap.size,0,none⟩) w.heap.size 0 4 4 #[r,q,s,j] G o p rfl (XH _) dC (Yd ⟨rfl,oM,C⟩)).mono;rintro e E ⟨rfl,m,z⟩;have g:len=0\/(a=some ⟨c,i,none⟩/\c≠b/\Holds encB E c i f):=by
  by_cases y:len=0
  .exact Yk y
  .rcases k with h|⟨x,v,u⟩
   .exact Yk h
   .exact Yd ⟨x,v,Holds.other u m v oM⟩
 go_wp2_with fail
 apply(take_any b _ a c i len cap f E (jO o) z B l n g).mono;rintro e x ⟨rfl,u,v⟩;go_wp2
 go_end0
 refine⟨rfl,(t.trans m).trans u,?_⟩;rw[F.out,mM];exact v
def kS(k:List UInt8)(b:List (List UInt8)):List UInt8:=uJ k++b.flatMap uJ
def iY(k:List UInt8)(b:List (List UInt8)):Bs:=Lv (kS k b)
def bV{k:List UInt8}{b:List (List UInt8)}:(iY k b).size=32:=EU
def B7(k:List UInt8)(b:List (List UInt8))(x:List UInt8):kS k (b++[x])=kS k b++uJ x:=by
 unfold kS;rw[List.flatMap_append,<-List.append_assoc];simp
def PartOk(w:XF)(v:XG)(x:List UInt8):Prop:=
 ∃a b c cap k,v=.slice a (ZA k) cap/\k.toList=x/\k.size<=cap/\k.size<=1099511627776/\(k.size=0\/(a=some ⟨b,c,none⟩/\Holds encB w b c k))
def PartOk.below{w c:XF}{v:XG}{x:List UInt8}(h:PartOk w v x)(k:Below w.heap.size w c):PartOk c v x:=by
 obtain⟨a,f,d,cap,e,i,l,g,m,b⟩:=h;refine⟨a,f,d,cap,e,i,l,g,m,?_⟩;rcases b with b|⟨b,j⟩
 .exact Yk b
 .exact Yd ⟨b,Holds.below' j k⟩
def PartsOk(w:XF)(d:Option Y4)(k:List (List UInt8)):Prop:=
 k.length=0\/∃c b,d=some ⟨c,b,none⟩/\∀j,j<k.length->∃v,w.cell? ⟨c,b+j,none⟩=some v/\PartOk w v k[j]!
def PartsOk.below{w g:XF}{e:Option Y4}{f:List (List UInt8)}(h:PartsOk w e f)(k:Below w.heap.size w g):PartsOk g e f:=by
 rcases h with h|⟨d,b,m,l⟩
 .exact Yk h
 .refine Yd ⟨d,b,m,λj i=>?_⟩;obtain⟨v,c,n⟩:=l j i;exact⟨v,by rw[k.cell (p:=⟨d,b+j,none⟩) (yAa _ _ c)];exact c,n.below k⟩
def xU{α:Type}[Inhabited α](l:List α)(k:Nat)(h:k<l.length):l.take (k+1)=l.take k++[l[k]!]:=by
 rw[List.take_succ_eq_append_getElem h,getElem!_pos l k h]
def kU(b:ByteArray)(pa:Option Y4)(z:Nat)(c:List (List UInt8))(w:XF)(ha:b.size<=1048576)(hg:c.length<=1048576)(hP:PartsOk w pa c):
 ZI prog 46 #[.string b,.slice pa c.length z] w λe w'=>∃r,e=.returned (.slice (some ⟨r,0,none⟩) 32 32)/\w.heap.size<=r/\Below w.heap.size w w'/\Holds encB w' r 0 (iY b.data.toList c):=by
 have l:=GP w 182;have H:Below w.heap.size w (w.alloc (.cells eX 182)):=(XX _ _).alloc (XH _) _;have J:(w.alloc (.cells eX 182)).heap.size=w.heap.size+1:=by simp
 have zv:=Jk;generalize T:w.alloc (.cells eX 182)=X at l H J;obtain⟨v2,W,u,i,o,h7⟩:=zM (w:=X) (B:=0) b (Zq _);rw[h7]at u i;obtain⟨h5,G,A,V⟩:=i.holds;rw[<-G]at A;clear h5 G;have f:Holds encB W X.heap.size 0 b.data:=by simpa using V
 have h6:=l.below o l.lt;have h8:=o.size;obtain⟨n,hn⟩:=vH c.length;rw[hn];have L:=mk1 (hn);rw[J]at u f;generalize hi:grownCap X b.size 0 5=c2 at *;have hc:(convert 9 23 (.string b)).run prog (w.alloc (.cells eX 182))=.ok (.slice (some ⟨w.heap.size+1,0,none⟩) b.size c2) W:=by rw[T];exact u
 go_enter func46,ntmps46;go_wp2_with fail
 apply(qJ w.heap.size S0 (some ⟨w.heap.size+1,0,none⟩) (w.heap.size+1) 0 b.size c2 b.data W DR h6 rfl oM oM (Yd ⟨rfl,oM,f⟩)).mono;rintro e w3 ⟨rfl,h3,C⟩;have Z:=(H.trans (o.mono oM)).trans (h3.below oM (XH _));have he:=C.lt;go_wp2;go_loopg [13] n (λg s13 wr=>∃(k:Nat) (q:Sp),k+g=n/\s13=.int .i64 k/\HSp wr w.heap.size q/\Below w.heap.size w wr/\Ok q/\Hid (q=gK S0 (kS b.data.toList (c.take k))))
 case atStart =>
  refine⟨0,_,oM,rfl,C,Z,jO DR,?_⟩;rw[List.take_zero];unfold kS;rw[List.flatMap_nil,List.append_nil];rfl
 case round =>
  obtain⟨k,q,hk,rfl,K,x,t,N⟩:=hrel;by_cases hj:k<n
  .obtain⟨F,D,rfl,I⟩:∃F D,pa=some ⟨F,D,none⟩/\∀j,j<c.length->∃v,w.cell? ⟨F,D+j,none⟩=some v/\PartOk w v c[j]!:=by
    rcases hP with h|h
    .have:=L;omega
    .exact h
   obtain⟨v,s,P⟩:=I k (oN L);have R:=yAa _ _ s;have h9:wr.cell? ⟨F,D+k,none⟩=some v:=by rw[x.cell (p:=⟨F,D+k,none⟩) R];exact s
   obtain⟨a,M,Q,cap,y,rfl,E,h4,O,d⟩:=P;have m:y.size=0\/(a=some ⟨M,Q,none⟩/\M≠w.heap.size/\Holds encB wr M Q y):=by
    by_cases U:y.size=0
    .exact Yk U
    .rcases d with h|⟨Y,S⟩
     .exact Yk h
     .have:=Holds.lt S oM;exact Yd ⟨Y,oM,Holds.below S x this⟩
   have HB:Hid (y.toList=c[k]!):=E;have l1:(k:Int)<(n:Int):=oM;generalize U:y.size=bz at *;clear s d I E;go_wp2_with fail
   apply(qJ w.heap.size q a M Q bz cap y wr t K U h4 O m).mono;rintro e w4 ⟨rfl,S,Y⟩;go_wp2;go_roundg (gk-1)
   case measure=>omega
   case rel =>
    refine⟨k+1,_,oM,by go_num,Y,x.trans (S.below x.size (XH _)),jO t,?_⟩;rw[xU c k (oN L.out),B7,mM,<-N.out,HB.out];rfl
  .have I:k=n:=oM;have D:Hid (q=gK S0 (kS b.data.toList c)):=by
    have d:c.take k=c:=yC9 (oN L);rw[d]at N;exact N
   go_wp2_with fail
   apply(G6 w.heap.size q 6 wr t K).mono;rintro e F ⟨rfl,d,E⟩;have m:Holds enc F w.heap.size 0 (Ak (kS b.data.toList c) 6):=by
    have:=E.d;rw[D.out]at this;exact this
   go_wp2_with fail
   apply(uI w.heap.size 0 32 _ _ v9 m dC).mono;rintro e P ⟨rfl,y,s⟩;have M:=d.size;have O:=x.size;go_wp2;go_ret;exact⟨F.heap.size,rfl,oM,(x.trans (d.below x.size (XH _))).trans (y.mono oM),s⟩
end SP
namespace SP
variable {B:Nat}{w w1:XF}{v:XG}{T:List UInt8}
set_option maxRecDepth 4000
end SP
namespace SP
def Mf{w:XF}{b r:Nat}{L T:Bs}(d:Holds encB w b 0 L)(o:L.size=32)(i:Holds encB w r 0 T)(n:T.size=32):
 (yAL #[23,23] 3 #[sZ b 32 32,sZ r 32 32]).run prog w=.ok (goInt 32) (w.setCells b 0 (T.toList.map encB)):=by
 have k:(T.toList.map encB).length=32:=by rw[X7,X0,n]
 have:=run_copy_cells (P:=prog) w 23 23 3 5 b 0 32 32 (aZ r) 32 32 (T.toList.map encB) slice22 ints5 (by rw[k];rfl)
  (λj u c=>by
   obtain⟨l,e⟩:=XT.1 c;rw[k]at l;have f:=(i j oM).1;rw[getElem!_pos T j oM]at f;rw[yAj,yAn]at e;have m:(⟨r,0,none⟩:Y4).add j=⟨r,0+j,none⟩:=by
    unfold yBZ;by_cases g:j=0
    .subst g;rw[yE3 rfl]
    .rw[yE4 g]
   rw[m,f,e])
  (λj c=>by rw[(d j oM).1];rfl) (λj c=>(d j oM).2)
  (λu e=>by obtain⟨x,_,rfl⟩:=YD.1 e;rfl)
 rw[k]at this;exact this
def BX{w:XF}{b:Nat}{L T:Bs}(c:Holds encB w b 0 L)(i:L.size=32)(e:T.size=32):Holds encB (w.setCells b 0 (T.toList.map encB)) b 0 T:=by
 have k:(T.toList.map encB).length=32:=by rw[X7,X0,e]
 refine Holds.setCells c (T.toList.map encB) 0 oM oM (λj d=>?_) (λj f g=>oM);rw[k]at d;rw[yAj,yAn,XQ,getElem!_pos T j oM]
def Fy{w c:XF}{b:Nat}{L T:Bs}(g:Holds encB w b 0 L)(i:L.size=32)(e:T.size=32)(d:b<w.heap.size)(k:Below w.drew.heap.size w.drew c):
 Only b 0 32 w (c.setCells b 0 (T.toList.map encB))/\Holds encB (c.setCells b 0 (T.toList.map encB)) b 0 T:=by
 have f:(T.toList.map encB).length=32:=by rw[X7,X0,e]
 refine⟨?_,BX (Holds.below (Holds.drew g) k d) i e⟩;exact Only.setCells (((Only.refl b 0 32 w).drew).trans (Only.of_below k rfl d)) _ 0 (XH _) oM
def rG(b:Nat)(L:Bs)(k:ByteArray)(o:Option Y4)(c n:Nat)(g:List (List UInt8))(w:XF)(d:k.size<=1048576)(l:g.length=n)(y:n<=1048576)(x:PartsOk w o g)(p:Holds encB w b 0 L)(r:L.size=32):
 ZI prog 186 #[.pointer (some ⟨b,0,none⟩),.string k,.slice o n c] w λe w'=>e=.returned (.tuple #[])/\Only b 0 32 w w'/\Holds encB w' b 0 (iY k.data.toList g):=by
 subst l;have s:=Holds.lt p oM;have q:=kU k o c g w.drew d y (x.below ((XX _ _).drew));generalize t:iY k.data.toList g=T at q⊢;have j:T.size=32:=by rw[<-t,bV]
 have v:=mk1 (q);go_enter func186,ntmps186;go_wp2;go_region_with (go_at_call 46;refine Calls.mono v ?_;rintro e A ⟨a,rfl,z,f,m⟩;have u:=Mf (Holds.below (Holds.drew p) f s) r m j;have i:=Fy p r j s f)
 all_goals (try go_wp2)
 all_goals go_end0
 all_goals exact⟨rfl,i⟩
def encV(v:XG):XG:=v
def AD{l:List UInt8}{n:Nat}:(lF l n).size=n:=by rw[lF,mN]
def newL(k:List UInt8):Bs:=iY [108,111,103] [k]
def wJ(L:Bs)(k b:List UInt8):Bs:=iY [115,97,121] [L.toList,k,b]
def DK(L:Bs)(k:List UInt8)(n:Nat):Bs:=lF (iY [97,115,107] [L.toList,k]).toList n
def uS(L:Bs)(k:List UInt8):Bs:=iY [97,115,107,101,100] [L.toList,k]
def AX{l:List UInt8}:(newL l).size=32:=bV
def lI{L:Bs}{l t:List UInt8}:(wJ L l t).size=32:=bV
def bD{L:Bs}{l:List UInt8}:(uS L l).size=32:=bV
def Jd{L:Bs}{l:List UInt8}{n:Nat}:(DK L l n).size=n:=AD
def qD(s:ByteArray)(w:XF)(q:s.size<=1099511627776):
 ∃c w',(convert 9 23 (.string s)).run prog w=.ok (.slice (some ⟨w.heap.size,0,none⟩) s.size c) w'/\s.size<=c/\Holds encB w' w.heap.size 0 s.data/\PartOk w' (.slice (some ⟨w.heap.size,0,none⟩) s.size c) s.data.toList/\Below w.heap.size w w'/\w.heap.size<w'.heap.size:=by
 obtain⟨v2,m,e,k,j,o⟩:=zM (w:=w) (B:=0) s (Zq _);rw[o]at e k;have n:w.heap.size<m.heap.size:=by
  obtain⟨g,cap,cur,b,_,d,_⟩:=k;injection b with b
  injection b with b
  injection b with b
  omega
 obtain⟨p,i,b,l⟩:=k.holds;rw[<-i]at b;have d:Holds encB m w.heap.size 0 s.data:=by simpa using l
 have f:=b;exact⟨_,m,e,f,d,⟨_,w.heap.size,0,_,s.data,rfl,rfl,f,q,Yd ⟨rfl,d⟩⟩,j,n⟩
def pU(W:XF)(vs:Array XG)(k:List (List UInt8))(t:Yj)(d:vs.size=k.length)(h:∀j,j<k.length->PartOk W vs[j]! k[j]!):
 PartsOk (W.alloc (.cells vs t)) (some (aZ W.heap.size)) k:=by
 refine Yd ⟨W.heap.size,0,rfl,λj b=>⟨vs[j]!,?_,(h j b).below ((XX _ _).alloc (XH _) _)⟩⟩;have c:vs.map encV=vs:=by
  have:encV=id:=rfl;rw[this,Array.map_id]
 have:=(Holds.new (enc:=encV) W t vs j oM).1;rw[c]at this;exact this
def rU{w:XF}{b:Nat}{L:Bs}(k:Holds encB w b 0 L)(c:L.size=32):PartOk w (sZ b 32 32) L.toList:=
 ⟨_,b,0,32,L,by rw[c],rfl,oM,oM,Yd ⟨rfl,k⟩⟩
def Nf:∀w:XF,(zeroValue 272).run prog w=.ok (.agg (XW 32 (.int .u8 0))) w:=λ_=>kR
def FM(k:ByteArray)(w:XF)(v:k.size<=1048576):
 ZI prog 205 #[.string k] w λe w'=>e=.returned (.pointer (some ⟨w.heap.size,0,none⟩))/\Below w.heap.size w w'/\Holds encB w' w.heap.size 0 (newL k.data.toList):=by
 have a:=Nf;have u:Holds encB (w.alloc (.cells (XW 32 (.int .u8 0)) 272)) w.heap.size 0 (XW 32 0):=by
  have:=Holds.new (enc:=encB) w 272 (XW 32 0);rw[yDo]at this;exact this
 have o:Below w.heap.size w (w.alloc (.cells (XW 32 (.int .u8 0)) 272)):=(XX _ _).alloc (XH _) _;have p:(w.alloc (.cells (XW 32 (.int .u8 0)) 272)).heap.size=w.heap.size+1:=by simp
 obtain⟨c,g,t,A,x,r,n,f⟩:=qD k (w.alloc (.cells (XW 32 (.int .u8 0)) 272)) oM;have l:=Holds.below' u n;have i:=pU g #[.slice (some ⟨(w.alloc (.cells (XW 32 (.int .u8 0)) 272)).heap.size,0,none⟩) k.size c] [k.data.toList] 23 rfl (λj y=>by
  have b:j=0:=by simpa using y
  subst b;exact r)
 have d:Below g.heap.size g (g.alloc (.cells #[.slice (some ⟨(w.alloc (.cells (XW 32 (.int .u8 0)) 272)).heap.size,0,none⟩) k.size c] 23)):=(XX _ _).alloc (XH _) _;have b:=Holds.below' l d;rw[p]at t i d b f;have m:=(o.trans (n.mono oM)).trans (d.mono oM);go_enter func205,ntmps205;go_wp2_with fail
 apply(rG w.heap.size (XW 32 0) ⟨#[108,111,103]⟩ (some ⟨g.heap.size,0,none⟩) 1 1 [k.data.toList] _ dC rfl dC i b (by simp)).mono;rintro e z ⟨rfl,s,q⟩;go_wp2;go_ret;exact⟨rfl,m.trans (s.below m.size (XH _)),q⟩
def Cm(b:Nat)(L:Bs)(k:ByteArray)(l:Option Y4)(n i:Nat)(d:List UInt8)(w:XF)(x:k.size<=1048576)(z:Holds encB w b 0 L)(a:L.size=32)(B:PartOk w (.slice l n i) d):
 ZI prog 134 #[.pointer (some ⟨b,0,none⟩),.string k,.slice l n i] w λe w'=>e=.returned (.tuple #[])/\Only b 0 32 w w'/\Holds encB w' b 0 (wJ L k.data.toList d):=by
 have A:=Holds.lt z oM;obtain⟨c,g,D,G,C,s,f,y⟩:=qD k w oM;have m:=Holds.below z f A;have r:=B.below f;have u:=pU g #[.slice (some ⟨b,0,none⟩) 32 32,.slice (some ⟨w.heap.size,0,none⟩) k.size c,.slice l n i] [L.toList,k.data.toList,d] 23 rfl (λj E=>by
  have o:j<3:=E;match j,o with
  | 0,_=>exact rU m a
  | 1,_=>exact s
  | 2,_=>exact r)
 have o:Below g.heap.size g (g.alloc (.cells #[.slice (some ⟨b,0,none⟩) 32 32,.slice (some ⟨w.heap.size,0,none⟩) k.size c,.slice l n i] 23)):=(XX _ _).alloc (XH _) _;have v:=Holds.below' m o;have p:Only b 0 32 w (g.alloc (.cells #[.slice (some ⟨b,0,none⟩) 32 32,.slice (some ⟨w.heap.size,0,none⟩) k.size c,.slice l n i] 23)):=(Only.of_below f rfl A).alloc oM _;go_enter func134,ntmps134;go_wp2_with fail
 apply(rG b L ⟨#[115,97,121]⟩ (some ⟨g.heap.size,0,none⟩) 3 3 [L.toList,k.data.toList,d] _ dC rfl dC u v a).mono;rintro e F ⟨rfl,t,q⟩;go_wp2
 go_end0
 exact⟨rfl,p.trans t,q⟩
def PK(b:Nat)(L:Bs)(k:ByteArray)(n:Nat)(w:XF)(W:k.size<=1048576)(hn:n<=1024)(hL:Holds encB w b 0 L)(O:L.size=32):
 ZI prog 215 #[.pointer (some ⟨b,0,none⟩),.string k,.int .i64 n] w λe w'=>∃r,e=.returned (.tuple #[.slice (some ⟨r,0,none⟩) n n,.int .i64 0])/\w.heap.size<=r/\Only b 0 32 w w'/\Holds encB w' b 0 (uS L k.data.toList)/\Holds encB w' r 0 (DK L k.data.toList n):=by
 have S:=Holds.lt hL oM;obtain⟨c,l,h9,hc,F,u,D,Y⟩:=qD k w oM;have f:=Holds.below hL D S;have y:=pU l #[.slice (some ⟨b,0,none⟩) 32 32,.slice (some ⟨w.heap.size,0,none⟩) k.size c] [L.toList,k.data.toList] 23 rfl (λj a=>by
  have g:j<2:=a;match j,g with
  | 0,_=>exact rU f O
  | 1,_=>exact u)
 have m:Below l.heap.size l (l.alloc (.cells #[.slice (some ⟨b,0,none⟩) 32 32,.slice (some ⟨w.heap.size,0,none⟩) k.size c] 23)):=(XX _ _).alloc (XH _) _;have A:=Holds.below' f m;have q:Only b 0 32 w (l.alloc (.cells #[.slice (some ⟨b,0,none⟩) 32 32,.slice (some ⟨w.heap.size,0,none⟩) k.size c] 23)):=(Only.of_below D rfl S).alloc oM _;have d0:decide ((n:Int)<0)=false:=decide_eq_false oM;have d1:¬(1024:Int)<(n:Int):=oM;clear F u m;go_enter func215,ntmps215;go_wp2_with fail
 refine(kU ⟨#[97,115,107]⟩ (some ⟨l.heap.size,0,none⟩) 2 [L.toList,k.data.toList] _ dC (by show 2<=1048576;omega) y).mono ?_;rintro e w3 ⟨X,rfl,ha,B,U⟩;have R:=Holds.below' A B;have s:=q.trans (Only.of_below B rfl (XI S q.size));clear y A f;go_wp2_with fail
 apply(Al (some ⟨X,0,none⟩) X 0 32 32 n _ _ oM bV oM oM (Yd ⟨rfl,U⟩)).mono;rintro e p ⟨E,rfl,h5,t,J⟩;have H:=Holds.below' R t;have h6:=s.size;have x:=s.trans (Only.of_below t rfl oM);have P:Holds encB p E 0 (DK L k.data.toList n):=J;have he:=x.size;obtain⟨M,i,h0,h7,h8,N,d,h4⟩:=qD k p oM;have v:=Holds.below' H d;have G:=Holds.below' P d;have z:=pU i #[.slice (some ⟨b,0,none⟩) 32 32,.slice (some ⟨p.heap.size,0,none⟩) k.size M] [L.toList,k.data.toList] 23 rfl (λj a=>by
  have g:j<2:=a;match j,g with
  | 0,_=>exact rU v O
  | 1,_=>exact N)
 have g:Below i.heap.size i (i.alloc (.cells #[.slice (some ⟨b,0,none⟩) 32 32,.slice (some ⟨p.heap.size,0,none⟩) k.size M] 23)):=(XX _ _).alloc (XH _) _;have T:=Holds.below' v g;have K:=Holds.below' G g;have V:Only b 0 32 w (i.alloc (.cells #[.slice (some ⟨b,0,none⟩) 32 32,.slice (some ⟨p.heap.size,0,none⟩) k.size M] 23)):=x.trans ((Only.of_below d rfl oM).alloc oM _);go_wp2_with fail
 apply(rG b L ⟨#[97,115,107,101,100]⟩ (some ⟨i.heap.size,0,none⟩) 2 2 [L.toList,k.data.toList] _ dC rfl dC z T O).mono;rintro e w7 ⟨rfl,C,I⟩;have Q:Holds encB w7 E 0 (DK L k.data.toList n):=by
  intro j a;have h1:=K j a;have h2:=yAa _ _ h1.1;have Z:=C.other (c:=E) (o:=0+j) oM h2;rw[Z.1,Z.2];exact h1
 go_wp2
 go_ret2
 exact⟨E,rfl,oM,V.trans C,I,Q⟩
end SP
section
variable {P:Nat}[NeZero P]{N:Nat}
def ArgsPts(w:XF)(q:Option Y4)(n:Nat)(L:Nat->Bs):Prop:=0<n->∃k,q=some (aZ k)/\k<w.heap.size/\∀j,j<n->∃v,w.cell? ⟨k,j,none⟩=some v/\Arg33 w v (L j)
def Xz(P:Nat)[NeZero P](w:XF)(n:Nat)(L:Nat->Bs)(e:XG)(w':XF):Prop:=
 (∃k,w.heap.size<=k/\k<w'.heap.size/\e=.tuple #[sZ k n n,iZ 0]/\∀j,j<n->∃p,rd P (L j)=some p/\w'.rangeAt k (8*j) (ws p.1++ws p.2)) \/
 ((∃j,j<n/\rd P (L j)=none)/\e=.tuple #[nZ,iZ 4])
def VX(F:Fld P)(n cap:Nat)(hn:n<=512)(q:Option Y4)(L:Nat->Bs)(w:XF)(hA:ArgsPts w q n L):cZ 111 #[.slice q n cap] w (rZ w λe w'=>Xz P w n L e w'):=by
 obtain⟨C,h9,hk⟩:=UJ hn;obtain⟨i,-⟩:∃i:Nat,i=0:=⟨_,rfl⟩
 obtain⟨d,-⟩:∃i:Nat,i=0:=⟨_,rfl⟩
 obtain⟨m,-⟩:∃i:Nat,i=0:=⟨_,rfl⟩
 obtain⟨v,-⟩:∃v:XG,v=tZ:=⟨_,rfl⟩
 obtain⟨x,-⟩:∃x:Fin P,x=0:=⟨_,rfl⟩
 obtain⟨y,-⟩:∃x:Fin P,x=0:=⟨_,rfl⟩
 obtain⟨R,-⟩:∃c:List XG,c=C:=⟨_,rfl⟩
 go_enter func111,ntmps111;refine Jr (v0:=.slice q n cap) (n:=32) kR kR kR ?_;intro a0 hg f0;have h4:=RG.St.begin w;have M0:RG.M w w.heap.size [] 32 [] [] [(0,.v (.slice q n cap))] a0 _:=⟨h4,hg,⟨f0,yE5⟩⟩
 repeat apply XL
 refine M0.U [.x nZ,.x (iZ 0)] [0,2,3] ⟨st,st,yE5⟩ ?_;intro a1 w1 M1;repeat apply XL
 refine M1.t [.x 9 [] (.slice q n cap),.x 10 [(9,0)] (iZ n),⟨some 11,[(10,1)],.s 0 n n,.make 0⟩,.s 4 [(11,2)] (.s 0 n n)] [(2,C)] [] [C] [(0,.v (.slice q n cap)),(2,.v nZ),(3,.v (iZ 0)),(4,.s 0 n n)] ⟨st,gJ rfl (.v (.slice q n cap)) (iZ n) rfl sx (λa w=>kR) (λμ w=>kR),nG 0 rfl rfl rfl rfl sx sx hk,st,yE5⟩ ?_;intro j2 a2 w2 M2;repeat apply XL
 refine M2.U [.x (.slice q n cap),.x (iZ n),.x (iZ 0)] [2,3,4,12,13,14] ⟨st,gJ rfl (.v (.slice q n cap)) (iZ n) rfl sx (λa w=>kR) (λμ w=>kR),st,yE5⟩ ?_;intro U w3 E;have hl:U.tmps[2]? = some nZ:=E.at (s:=(.v nZ));have hm:U.tmps[3]? = some (iZ 0):=E.at (s:=(.v (iZ 0)));have h0:U.tmps[4]? = some (sZ j2 n n):=E.at (s:=(.s 0 n n));have T:U.tmps[12]? = some (.slice q n cap):=E.at (s:=(.v (.slice q n cap)));have K:U.tmps[13]? = some (iZ n):=E.at (s:=(.v (iZ n)));have M:U.tmps[14]? = some (iZ 0):=E.at (s:=(.v (iZ 0)));repeat apply XL
 refine Zk<|yBL (λm a wr=>∃(i:Nat) (C:List XG),i+m=n/\(∀j,j<i->(rd P (L j)).isSome=true)/\Rows 8 n (λj=>match rd P (L j) with|some p=>ws p.1++ws p.2|none=>[]) i C/\Sl a 32/\a.tmps[4]? = some (sZ j2 n n)/\a.tmps[12]? = some (.slice q n cap)/\a.tmps[13]? = some (iZ n)/\a.tmps[14]? = some (iZ i)/\RG.St w w.heap.size [] [C] [j2] wr) n ⟨0,C,oM,λj hj=>oM,⟨h9,λj r hj=>oM⟩,E.sl,h0,T,K,M,E.st⟩ ?_
 intro m' a wr;rintro⟨i,C,hs,G,hR,sl,p4,o,Q,S,B⟩;generalize j2=J at p4 B;by_cases t:i<n
 .obtain⟨d,Y,X,hc⟩:=hA oM;rw[Y]at o;obtain⟨v,hv,H⟩:=hc i t;have l:w.cell? ⟨d,0+i,none⟩=some v:=by rw[XQ];exact hv
  cases k:rd P (L i) with
  | some pp =>
   obtain⟨x,y⟩:=pp;have O:∀w',BelX w.heap.size [] w w'->cZ 156 #[v] w' (Ret λe N=>kZ w' N/\e=.tuple #[pv x y,tZ]):=λw' hb=>by
    have:=nW F (H.below hb.below);rw[k]at this;exact this
   have Z:=hR.len;have g:0+8*i+(ws x++ws y).length<=C.length:=by rw[Z];show 0+8*i+8<=8*n;omega
   obtain⟨R,f⟩:=vH (rep C (0+8*i) (ws x++ws y));have h2:=f ▸ RG.rep_at g;have h3:R.length=C.length:=f ▸ cY g;have h6:Rows 8 n (λj=>match rd P (L j) with|some p=>ws p.1++ws p.2|none=>[]) (i+1) R:=by
    have:=hR.next t (by show yEy (match rd P (L i) with|some p=>_|none=>_)=_;rw[k];rfl);rw[<-f];have e:(λj=>match rd P (L j) with|some p=>ws p.1++ws p.2|none=>[]) i=(ws x++ws y):=by show(match rd P (L i) with|some p=>_|none=>_)=_;rw[k]
    rw[<-e];exact this
   have h8:RG.M w w.heap.size [] 32 [C] [J] [(4,.s 0 n n),(12,.v (sZ d n cap)),(13,.v (iZ n)),(14,.v (iZ i))] a _:=⟨B,sl,⟨p4,o,Q,S,yE5⟩⟩
   repeat apply XL
   refine h8.U [.x tZ] [4,12,13,14,15] ⟨aO rfl .lss 3 rfl rfl sx sx (λw=>kR) (iD t),yE5⟩ ?_;intro ka hy V;repeat apply XL
   refine YH V.ev ?_;refine Y2<|XL<|Zk ?_
   repeat apply XL
   refine V.U [.x (iZ i),.x (oZ d (0+i)),.x v,.x (iZ i),.x v] [4,5,6,12,13,14] ⟨st,aY rfl 27 rfl (.v (sZ d n cap)) sx sx (λμ w=>Px t),bO rfl X Yf rfl rfl sx l u23,st,st,yE5⟩ ?_;intro hw ht he;repeat apply XL
   refine he.T [.x v,.c (.tuple #[pv x y,tZ]),.x (.tuple #[pv x y,tZ]),.x (pv x y),.x tZ,.m 1,.u 1,.x tZ] [(5,RG.z 8)] [(1,6,ws x++(ws y))] [C,ws x++(ws y)] [4,5,7,8,12,13,14] ⟨st,vW rfl rfl (λa w=>kR) sx O,st,st,st,mk 1 131,RG.pt i109,st,yE5⟩ ?_;intro hq k0 k4 h1;repeat apply XL
   refine h1.U [.x tZ,.x fZ] [4,5,7,12,13,14,25] ⟨st,st,yE5⟩ ?_;intro hp hz W;repeat apply XL
   refine Yh W.ev ?_;apply Y2;repeat apply XL
   refine W.tx [.s 26 [] (.s 0 n n),.x 27 [] (iZ i),.x 28 [] (pv x y),.s 29 [(26,0),(27,1)] (.p 0 (0+8*i)),.u [(29,3),(28,2)] 0] [] [(0,4,R)] [R,ws x++(ws y)] [(4,.s 0 n n),(12,.v (sZ d n cap)),(13,.v (iZ n)),(14,.v (iZ i))] kR (congrArg (λn=>[n]) h3) ⟨st,st,ld iM i109,aY rfl 138 rfl (.s 0 n n) sx sx (λμ w=>Qw t),fN rfl _ rfl rfl rfl sx sx g h2 i109 rfl,yE5⟩ ?_;intro k3 hu ha;repeat apply XL
   refine ha.U [.x (iZ ((i+1:Nat):Int)),.x (iZ ((i+1:Nat):Int))] [4,12,13,14] ⟨aN rfl .add 3 rfl rfl sx (λw=>kR) (wM oM oM),st,yE5⟩ ?_;intro D k5 b;have I:D.tmps[4]? = some (sZ J n n):=b.at (s:=(.s 0 n n));have u:D.tmps[12]? = some (sZ d n cap):=b.at (s:=(.v (sZ d n cap)));have z:D.tmps[13]? = some (iZ n):=b.at (s:=(.v (iZ n)));have A:D.tmps[14]? = some (iZ ((i+1:Nat):Int)):=b.at (s:=(.v (iZ ((i+1:Nat):Int))));show ∃n',_;exact⟨m'-1,oM,i+1,R,oM,λj hj=>(by
    by_cases h7:j=i
    .rw[h7,k];rfl
    .exact G j oM),h6,b.sl,I,(by rw[Y];exact u),z,A,RG.St.init (cs:=[R]) (ks:=[J]) b.st⟩
  | none =>
   have O:∀w',BelX w.heap.size [] w w'->cZ 156 #[v] w' (Ret λe N=>kZ w' N/\e=.tuple #[pv (0:Fin P) 0,fZ]):=λw' hb=>by
    have:=nW F (H.below hb.below);rw[k]at this;exact this
   have z:RG.M w w.heap.size [] 32 [C] [J] [(4,.s 0 n n),(12,.v (sZ d n cap)),(13,.v (iZ n)),(14,.v (iZ i))] a _:=⟨B,sl,⟨p4,o,Q,S,yE5⟩⟩
   repeat apply XL
   refine z.U [.x tZ] [12,14,15] ⟨aO rfl .lss 3 rfl rfl sx sx (λw=>kR) (iD t),yE5⟩ ?_;intro k7 k1 f;repeat apply XL
   refine YH f.ev ?_;refine Y2<|XL<|Zk ?_
   repeat apply XL
   refine f.U [.x (iZ i),.x (oZ d (0+i)),.x v,.x (iZ i),.x v] [6] ⟨st,aY rfl 27 rfl (.v (sZ d n cap)) sx sx (λμ w=>Px t),bO rfl X Yf rfl rfl sx l u23,st,st,yE5⟩ ?_;intro k6 k8 u;repeat apply XL
   refine u.T [.x v,.c (.tuple #[pv (0:Fin P) (0:Fin P),fZ]),.x (.tuple #[pv (0:Fin P) (0:Fin P),fZ]),.x (pv (0:Fin P) (0:Fin P)),.x fZ,.m 1,.u 1,.x fZ] [(5,RG.z 8)] [(1,6,ws (0:Fin P)++(ws (0:Fin P)))] [C,ws (0:Fin P)++(ws (0:Fin P))] [8] ⟨st,vW rfl rfl (λa w=>kR) sx O,st,st,st,mk 1 131,RG.pt i109,st,yE5⟩ ?_;intro k9 k2 D A;repeat apply XL
   refine A.U [.x fZ,.x tZ] [25] ⟨st,st,yE5⟩ ?_;intro V Z g;repeat apply XL
   refine YH g.ev ?_;repeat apply XL
   refine g.U [.x nZ,.x (iZ 4)] [2,3] ⟨st,st,yE5⟩ ?_;intro W I b;refine Zj<|XR (v:=.tuple #[nZ,iZ 4]) (dT 2 3 rfl (b.at (s:=(.v nZ))) (b.at (s:=(.v (iZ 4))))) b.sl.defers ?_
   exact⟨_,rfl,b.st.bel.below,Yd ⟨⟨i,t,k⟩,rfl⟩⟩
 .have D:i=n:=oM;have g:RG.M w w.heap.size [] 32 [C] [J] [(4,.s 0 n n),(12,.v (.slice q n cap)),(13,.v (iZ n)),(14,.v (iZ i))] a _:=⟨B,sl,⟨p4,o,Q,S,yE5⟩⟩
  repeat apply XL
  refine g.U [.x fZ] [4,15] ⟨aO rfl .lss 3 rfl rfl sx sx (λw=>kR) (oJ t),yE5⟩ ?_;intro A u f;repeat apply XL
  refine Yh f.ev ?_;apply yBt;dsimp only[Exit.then,yBc];rw[yE3 rfl];repeat apply XL
  refine f.U [.s (.s 0 n n),.s (.s 0 n n),.x (iZ 0)] [2,3] ⟨st,st,st,yE5⟩ ?_;intro l H k;refine Zj<|XR (v:=.tuple #[sZ J n n,iZ 0]) (dT 2 3 rfl (k.at (s:=(.s 0 n n))) (k.at (s:=(.v (iZ 0))))) k.sl.defers ?_
  refine⟨_,rfl,k.st.bel.below,Yk ⟨J,?_,?_,rfl,λj hj=>?_⟩⟩
  .exact(k.st.has 0 C rfl).2.2.2.elim id (λh=>absurd h Yf)
  .exact(k.st.has 0 C rfl).2.2.1
  .obtain⟨pp,b⟩:=YP.1 (G j oM);refine⟨pp,b,tP (k.st.has 0 C rfl).1 (λr z=>?_)⟩;have I:=hR.row j r oM z;rw[I];show(match rd P (L j) with|some p=>_|none=>_)[r]? = _;rw[b]
def xK(w:XF)(q:Option Y4)(n:Nat)(L:Nat->Bs):Prop:=0<n->∃k,q=some (aZ k)/\k<w.heap.size/\∀j,j<n->∃v,w.cell? ⟨k,j,none⟩=some v/\Arg w v (L j)
def Xy(N:Nat)(w:XF)(n:Nat)(L:Nat->Bs)(e:XG)(w':XF):Prop:=
 (∃k,w.heap.size<=k/\k<w'.heap.size/\e=.tuple #[sZ k n n,iZ 0]/\∀j,j<n->∃p,rq N (L j)=some p/\w'.rangeAt k (4*j) (wn p)) \/
 ((∃j,j<n/\rq N (L j)=none)/\e=.tuple #[nZ,iZ 3])
def QB{N:Nat}(hG:Gap 4624529908474429119 4994812053365940164 1 N)(n cap:Nat)(hn:n<=512)(q:Option Y4)(L:Nat->Bs)(w:XF)(hA:xK w q n L):cZ 65 #[.slice q n cap] w (rZ w λe w'=>Xy N w n L e w'):=by
 obtain⟨C,h8,hg⟩:=WR hn;obtain⟨i,-⟩:∃i:Nat,i=0:=⟨_,rfl⟩
 obtain⟨f,-⟩:∃i:Nat,i=0:=⟨_,rfl⟩
 obtain⟨m,-⟩:∃i:Nat,i=0:=⟨_,rfl⟩
 obtain⟨v,-⟩:∃v:XG,v=tZ:=⟨_,rfl⟩
 obtain⟨P,-⟩:∃c:List XG,c=C:=⟨_,rfl⟩
 go_enter func65,ntmps65;refine Jr (v0:=.slice q n cap) (n:=33) kR kR kR ?_;intro a0 he f0;have h3:=RG.St.begin w;have M0:RG.M w w.heap.size [] 33 [] [] [(0,.v (.slice q n cap))] a0 _:=⟨h3,he,⟨f0,yE5⟩⟩
 repeat apply XL
 refine M0.U [.x nZ,.x (iZ 0)] [0,2,3] ⟨st,st,yE5⟩ ?_;intro a1 w1 M1;repeat apply XL
 refine M1.t [.x 9 [] (.slice q n cap),.x 10 [(9,0)] (iZ n),⟨some 11,[(10,1)],.s 0 n n,.make 0⟩,.s 4 [(11,2)] (.s 0 n n)] [(2,C)] [] [C] [(0,.v (.slice q n cap)),(2,.v nZ),(3,.v (iZ 0)),(4,.s 0 n n)] ⟨st,gJ rfl (.v (.slice q n cap)) (iZ n) rfl sx (λa w=>kR) (λμ w=>kR),nG 0 rfl rfl rfl rfl sx sx hg,st,yE5⟩ ?_;intro j2 a2 w2 M2;repeat apply XL
 refine M2.U [.x (.slice q n cap),.x (iZ n),.x (iZ 0)] [2,3,4,12,13,14] ⟨st,gJ rfl (.v (.slice q n cap)) (iZ n) rfl sx (λa w=>kR) (λμ w=>kR),st,yE5⟩ ?_;intro S w3 D;have hk:S.tmps[2]? = some nZ:=D.at (s:=(.v nZ));have hl:S.tmps[3]? = some (iZ 0):=D.at (s:=(.v (iZ 0)));have Y:S.tmps[4]? = some (sZ j2 n n):=D.at (s:=(.s 0 n n));have R:S.tmps[12]? = some (.slice q n cap):=D.at (s:=(.v (.slice q n cap)));have I:S.tmps[13]? = some (iZ n):=D.at (s:=(.v (iZ n)));have J:S.tmps[14]? = some (iZ 0):=D.at (s:=(.v (iZ 0)));repeat apply XL
 refine Zk<|yBL (λm a wr=>∃(i:Nat) (C:List XG),i+m=n/\(∀j,j<i->(rq N (L j)).isSome=true)/\Rows 4 n (λj=>match rq N (L j) with|some k=>wn k|none=>[]) i C/\Sl a 33/\a.tmps[4]? = some (sZ j2 n n)/\a.tmps[12]? = some (.slice q n cap)/\a.tmps[13]? = some (iZ n)/\a.tmps[14]? = some (iZ i)/\RG.St w w.heap.size [] [C] [j2] wr) n ⟨0,C,oM,λj hj=>oM,⟨h8,λj r hj=>oM⟩,D.sl,Y,R,I,J,D.st⟩ ?_
 intro m' a wr;rintro⟨i,C,hq,E,hR,sl,Z,t,O,Q,A⟩;generalize j2=H at Z A;by_cases u:i<n
 .obtain⟨f,W,V,hc⟩:=hA oM;rw[W]at t;obtain⟨v,hv,F⟩:=hc i u;have o:w.cell? ⟨f,0+i,none⟩=some v:=by rw[XQ];exact hv
  cases b:rq N (L i) with
  | some pp =>
   obtain⟨m,rfl⟩:∃m,m=pp:=⟨_,rfl⟩
   have M:∀w',BelX w.heap.size [] w w'->cZ 29 #[gv1,v] w' (Ret λe K=>kZ w' K/\e=.tuple #[nv m,tZ]):=λw' hb=>by
    have:=BF hG (F.below hb.below);rw[b]at this;exact this
   have X:=hR.len;have l:0+4*i+(wn m).length<=C.length:=by rw[X];show 0+4*i+4<=4*n;omega
   obtain⟨P,g⟩:=vH (rep C (0+4*i) (wn m));have h1:=g ▸ RG.rep_at l;have h2:P.length=C.length:=g ▸ cY l;have h4:Rows 4 n (λj=>match rq N (L j) with|some k=>wn k|none=>[]) (i+1) P:=by
    have:=hR.next u (by show yEy (match rq N (L i) with|some p=>_|none=>_)=_;rw[b];rfl);rw[<-g];have e:(λj=>match rq N (L j) with|some k=>wn k|none=>[]) i=(wn m):=by show(match rq N (L i) with|some p=>_|none=>_)=_;rw[b]
    rw[<-e];exact this
   have h7:RG.M w w.heap.size [] 33 [C] [H] [(4,.s 0 n n),(12,.v (sZ f n cap)),(13,.v (iZ n)),(14,.v (iZ i))] a _:=⟨A,sl,⟨Z,t,O,Q,yE5⟩⟩
   repeat apply XL
   refine h7.U [.x tZ] [4,12,13,14,15] ⟨aO rfl .lss 3 rfl rfl sx sx (λw=>kR) (iD u),yE5⟩ ?_;intro k9 hw T;repeat apply XL
   refine YH T.ev ?_;refine Y2<|XL<|Zk ?_
   repeat apply XL
   refine T.U [.x (iZ i),.x (oZ f (0+i)),.x v,.x (iZ i),.x v] [4,5,6,12,13,14] ⟨st,aY rfl 27 rfl (.v (sZ f n cap)) sx sx (λμ w=>Px u),bO rfl V Yf rfl rfl sx o u23,st,st,yE5⟩ ?_;intro hu hs ha;repeat apply XL
   refine ha.T [.c gv1,.x v,.c (.tuple #[nv m,tZ]),.x (.tuple #[nv m,tZ]),.x (nv m),.x tZ,.m 1,.u 1,.x tZ] [(6,RG.z 4)] [(1,7,wn m)] [C,wn m] [4,5,7,8,12,13,14] ⟨cl fV,st,kT rfl rfl (λa w=>kR) sx sx M,st,st,st,mk 1 42,RG.pt i85,st,yE5⟩ ?_;intro hp hz k3 h0;repeat apply XL
   refine h0.U [.x tZ,.x fZ] [4,5,7,12,13,14,26] ⟨st,st,yE5⟩ ?_;intro hm hy U;repeat apply XL
   refine Yh U.ev ?_;apply Y2;repeat apply XL
   refine U.tx [.s 27 [] (.s 0 n n),.x 28 [] (iZ i),.x 29 [] (nv m),.s 30 [(27,0),(28,1)] (.p 0 (0+4*i)),.u [(30,3),(29,2)] 0] [] [(0,4,P)] [P,wn m] [(4,.s 0 n n),(12,.v (sZ f n cap)),(13,.v (iZ n)),(14,.v (iZ i))] kR (congrArg (λn=>[n]) h2) ⟨st,st,ld u85 i85,aY rfl 127 rfl (.s 0 n n) sx sx (λμ w=>VK u),fN rfl _ rfl rfl rfl sx sx l h1 i85 rfl,yE5⟩ ?_;intro k2 ht h9;repeat apply XL
   refine h9.U [.x (iZ ((i+1:Nat):Int)),.x (iZ ((i+1:Nat):Int))] [4,12,13,14] ⟨aN rfl .add 3 rfl rfl sx (λw=>kR) (wM oM oM),st,yE5⟩ ?_;intro B k4 d;have G:B.tmps[4]? = some (sZ H n n):=d.at (s:=(.s 0 n n));have x:B.tmps[12]? = some (sZ f n cap):=d.at (s:=(.v (sZ f n cap)));have y:B.tmps[13]? = some (iZ n):=d.at (s:=(.v (iZ n)));have z:B.tmps[14]? = some (iZ ((i+1:Nat):Int)):=d.at (s:=(.v (iZ ((i+1:Nat):Int))));show ∃n',_;exact⟨m'-1,oM,i+1,P,oM,λj hj=>(by
    by_cases h6:j=i
    .rw[h6,b];rfl
    .exact E j oM),h4,d.sl,G,(by rw[W];exact x),y,z,RG.St.init (cs:=[P]) (ks:=[H]) d.st⟩
  | none =>
   have M:∀w',BelX w.heap.size [] w w'->cZ 29 #[gv1,v] w' (Ret λe K=>kZ w' K/\e=.tuple #[nv 0,fZ]):=λw' hb=>by
    have:=BF hG (F.below hb.below);rw[b]at this;exact this
   have y:RG.M w w.heap.size [] 33 [C] [H] [(4,.s 0 n n),(12,.v (sZ f n cap)),(13,.v (iZ n)),(14,.v (iZ i))] a _:=⟨A,sl,⟨Z,t,O,Q,yE5⟩⟩
   repeat apply XL
   refine y.U [.x tZ] [12,14,15] ⟨aO rfl .lss 3 rfl rfl sx sx (λw=>kR) (iD u),yE5⟩ ?_;intro k6 k0 g;repeat apply XL
   refine YH g.ev ?_;refine Y2<|XL<|Zk ?_
   repeat apply XL
   refine g.U [.x (iZ i),.x (oZ f (0+i)),.x v,.x (iZ i),.x v] [6] ⟨st,aY rfl 27 rfl (.v (sZ f n cap)) sx sx (λμ w=>Px u),bO rfl V Yf rfl rfl sx o u23,st,st,yE5⟩ ?_;intro k5 k7 x;repeat apply XL
   refine x.T [.c gv1,.x v,.c (.tuple #[nv 0,fZ]),.x (.tuple #[nv 0,fZ]),.x (nv 0),.x fZ,.m 1,.u 1,.x fZ] [(6,RG.z 4)] [(1,7,wn 0)] [C,wn 0] [8] ⟨cl fV,st,kT rfl rfl (λa w=>kR) sx sx M,st,st,st,mk 1 42,RG.pt i85,st,yE5⟩ ?_;intro k8 k1 B z;repeat apply XL
   refine z.U [.x fZ,.x tZ] [26] ⟨st,st,yE5⟩ ?_;intro T X l;repeat apply XL
   refine YH l.ev ?_;repeat apply XL
   refine l.U [.x nZ,.x (iZ 3)] [2,3] ⟨st,st,yE5⟩ ?_;intro U G d;refine Zj<|XR (v:=.tuple #[nZ,iZ 3]) (dT 2 3 rfl (d.at (s:=(.v nZ))) (d.at (s:=(.v (iZ 3))))) d.sl.defers ?_
   exact⟨_,rfl,d.st.bel.below,Yd ⟨⟨i,u,b⟩,rfl⟩⟩
 .have B:i=n:=oM;have l:RG.M w w.heap.size [] 33 [C] [H] [(4,.s 0 n n),(12,.v (.slice q n cap)),(13,.v (iZ n)),(14,.v (iZ i))] a _:=⟨A,sl,⟨Z,t,O,Q,yE5⟩⟩
  repeat apply XL
  refine l.U [.x fZ] [4,15] ⟨aO rfl .lss 3 rfl rfl sx sx (λw=>kR) (oJ u),yE5⟩ ?_;intro z x g;repeat apply XL
  refine Yh g.ev ?_;apply yBt;dsimp only[Exit.then,yBc];rw[yE3 rfl];repeat apply XL
  refine g.U [.s (.s 0 n n),.s (.s 0 n n),.x (iZ 0)] [2,3] ⟨st,st,st,yE5⟩ ?_;intro o F b;refine Zj<|XR (v:=.tuple #[sZ H n n,iZ 0]) (dT 2 3 rfl (b.at (s:=(.s 0 n n))) (b.at (s:=(.v (iZ 0))))) b.sl.defers ?_
  refine⟨_,rfl,b.st.bel.below,Yk ⟨H,?_,?_,rfl,λj hj=>?_⟩⟩
  .exact(b.st.has 0 C rfl).2.2.2.elim id (λh=>absurd h Yf)
  .exact(b.st.has 0 C rfl).2.2.1
  .obtain⟨pp,d⟩:=YP.1 (E j oM);refine⟨pp,d,tP (b.st.has 0 C rfl).1 (λr y=>?_)⟩;have G:=hR.row j r oM y;rw[G];show(match rq N (L j) with|some p=>_|none=>_)[r]? = _;rw[d]
omit [NeZero P] in
theorem Jn(x y:Fin P):∃a b c d p q r s:Nat,pv x y=.agg #[uZ a,uZ b,uZ c,uZ d,uZ p,uZ q,uZ r,uZ s]/\ws x++ws y=[uZ a,uZ b,uZ c,uZ d,uZ p,uZ q,uZ r,uZ s]:=
 ⟨_,_,_,_,_,_,_,_,rfl,rfl⟩
def MW(c:Int)(e:XG):Prop:=e=.tuple #[nZ,iZ c]
def Je(w:XF)(T:Bs)(e:XG)(w':XF):Prop:=∃g cap,e=.tuple #[sZ g 33 cap,iZ 0]/\33<=cap/\w.heap.size<=g/\g<w'.heap.size/\hZ w' g 0 T
def Dl(C:Fld P)(v:XG)(g:Bs)(w:XF)(hv:Arg33 w v g):cZ 103 #[v] w (rZ w λe w'=>e=.bool (rd P g).isSome):=by
 have j:∃(k b1 c1 c p1 d b s1:Nat),cZ 156 #[v] w (rZ w λe w'=>e=.tuple #[.agg #[uZ k,uZ b1,uZ c1,uZ c,uZ p1,uZ d,uZ b,uZ s1],.bool (rd P g).isSome]):=by
  have h:=nW C hv;cases f:rd P g with
  | none =>
   obtain⟨k,b1,c1,c,p1,d,b,s1,i,-⟩:=Jn (0:Fin P) 0;refine⟨k,b1,c1,c,p1,d,b,s1,?_⟩;rw[f]at h;rw[<-i];exact h
  | some p =>
   obtain⟨k,b1,c1,c,p1,d,b,s1,i,-⟩:=Jn p.1 p.2;refine⟨k,b1,c1,c,p1,d,b,s1,?_⟩;rw[f]at h;rw[<-i];exact h
 obtain⟨k,b1,c1,c,p1,d,b,s1,j⟩:=j;obtain⟨q,n,cap,rfl,-⟩:=hv;go_enter func103,ntmps103;go_wp2_with fail
 refine j.mono ?_;rintro e l ⟨v,rfl,f,rfl⟩;have i:=mk1 (f);go_wp2;go_ret;exact⟨_,rfl,i.alloc i.size _,rfl⟩
structure PS(w:XF)(k:Nat)(a1 b1 c1 d1 p1 q1 r1 s1 a2 b2 c2 d2 p2 q2 r2 s2:Nat)(W:XF):Prop where
 r1:W.rangeAt k 0 [uZ a1,uZ b1,uZ c1,uZ d1,uZ p1,uZ q1,uZ r1,uZ s1]
 r2:W.rangeAt k 8 [uZ a2,uZ b2,uZ c2,uZ d2,uZ p2,uZ q2,uZ r2,uZ s2]
 lt:k<W.heap.size
 bl:kZ w W
def ptP(s:T3 P):Fin P × Fin P:=(s.1*(inv s.2.2*inv s.2.2),s.2.1*(inv s.2.2*inv s.2.2)*inv s.2.2)
def cell_below{w c:XF}{k j:Nat}{v:XG}(h:w.cell? ⟨k,j,none⟩=some v)(d:kZ w c)(e:k<w.heap.size):c.cell? ⟨k,j,none⟩=some v:=by
 have f:w.rangeAt k j [v]:=λi u b=>by
  cases i with
  | zero =>
   obtain rfl:v=u:=X5.inj b;exact h
  | succ i=>exact absurd b (by simp)
 exact RG.range_below f d e 0 v rfl
def ArgsPts.below{w c:XF}{q:Option Y4}{n:Nat}{L:Nat->Bs}(h:ArgsPts w q n L)(b:kZ w c):ArgsPts c q n L:=λi=>by
 obtain⟨l,d,k,f⟩:=h i;refine⟨l,d,XI k b.size,λj e=>?_⟩;obtain⟨v,hv,g⟩:=f j e;exact⟨v,cell_below hv b k,g.below b⟩
def SumR(P:Nat)[NeZero P](N:Nat)(w:XF)(n a:Nat)(L M:Nat->Bs)(e:XG)(w':XF):Prop:=
 (n≠a/\MW 2 e)\/(n=a/\512<n/\MW 1 e)\/(n=a/\n<=512/\(((∃j,j<n/\rq N (L j)=none)/\MW 3 e) \/
  ∃ns:Nat->Nat,(∀j,j<n->rq N (L j)=some (ns j))/\(((∃j,j<n/\rd P (M j)=none)/\MW 4 e) \/
   ∃xs ys:Nat->Fin P,(∀j,j<n->rd P (M j)=some (xs j,ys j))/\Je w (uP (ptP (jA ns xs ys n 257)).1 (ptP (jA ns xs ys n 257)).2) e w')))
def zO{A:Type}[Inhabited A]{n:Nat}{p:Nat->A->Prop}(h:∀j,j<n->∃a,p j a):∃f:Nat->A,∀j,j<n->p j (f j):=
 ⟨λj=>if k:j<n then(h j k).choose else default,λj k=>by
  show p j (if k:j<n then(h j k).choose else default);rw[dif_pos k];exact(h j k).choose_spec⟩
def yC{N:Nat}(b:N<=top){k:Bs}{m:Nat}(h:rq N k=some m):m<top:=by
 unfold rq at h;split at h
 .rename_i h1
  obtain rfl:beV k.toList=m:=X5.inj h;exact XI h1.2 b
 .exact absurd h (by simp)
def SL{N:Nat}(C:Fld P)(hG:Gap 4624529908474429119 4994812053365940164 1 N)(hN:N<=top)(q X:Option Y4)(n cap a o:Nat)(L M:Nat->Bs)(w:XF)(hL:xK w q n L)(hM:ArgsPts w X a M):
 cZ 64 #[.slice q n cap,.slice X a o] w (rZ w λe w'=>SumR P N w n a L M e w'):=by
 have HL:=mk1 (hL);have HM:=mk1 (hM);by_cases B:n=a
 .subst B;by_cases D:512<n
  .go_enter func64,ntmps64;go_wp2
   go_ret2
   exact⟨_,rfl,XX _ _,Yd (Yk ⟨rfl,D,rfl⟩)⟩
  .have y:n<=512:=oM;go_enter func64,ntmps64;go_wp2_with fail
   apply(QB hG n cap y q L w HL).mono;rintro e W ⟨v,rfl,J,⟨k,Y,r,rfl,c⟩|⟨t,rfl⟩⟩
   .obtain⟨ns,G⟩:=zO c;have u:=mk1 (J);have S:Hid (k<W.heap.size/\∀j,j<n->W.rangeAt k (4*j) (wn (ns j))):=⟨r,λj l=>(G j l).2⟩
    have Q:Hid (∀j,j<n->rq N (L j)=some (ns j)):=λj l=>(G j l).1
    go_wp2_with fail
    apply(VX C n o y X M W (HM.below u)).mono;rintro e p ⟨v,rfl,d,⟨K,Y,r,rfl,c⟩|⟨t,rfl⟩⟩
    .obtain⟨b,A⟩:=zO c;have f:=mk1 (u.trans (d.mono u.size));have H:Hid (k<p.heap.size/\∀j,j<n->p.rangeAt k (4*j) (wn (ns j))):=⟨XI S.1 d.size,λj l=>RG.range_below (S.2 j l) d S.1⟩
     have HP:Hid (K<p.heap.size/\∀j,j<n->p.rangeAt K (8*j) (ws (b j).1++ws (b j).2)):=⟨r,λj l=>(A j l).2⟩
     have T:Hid (∀j,j<n->rd P (M j)=some ((b j).1,(b j).2)):=λj l=>(A j l).1
     have E:∀w,cZ 70 #[pv (ptP (jA ns (λj=>(b j).1) (λj=>(b j).2) n 257)).1 (ptP (jA ns (λj=>(b j).1) (λj=>(b j).2) n 257)).2] w (rZ w λe w'=>nI w (uP (ptP (jA ns (λj=>(b j).1) (λj=>(b j).2) n 257)).1 (ptP (jA ns (λj=>(b j).1) (λj=>(b j).2) n 257)).2) e w'):=xG C;have hS:cZ 66 #[sZ k n n,sZ K n n] p (rZ p λe w'=>e=pv (ptP (jA ns (λj=>(b j).1) (λj=>(b j).2) n 257)).1 (ptP (jA ns (λj=>(b j).1) (λj=>(b j).2) n 257)).2):=by
      apply(JD C n y ns (λj=>(b j).1) (λj=>(b j).2) (λi m=>yC hN (Q i m)) k K p H.1 HP.1 H.2 HP.2).mono;rintro e w' ⟨v,rfl,x,s,rfl,rfl⟩;exact⟨_,rfl,x,rfl⟩
     generalize hz:ptP (jA ns (λj=>(b j).1) (λj=>(b j).2) n 257)=z at hS E;have HZ:Hid (ptP (jA ns (λj=>(b j).1) (λj=>(b j).2) n 257)=z):=hz;go_wp2_with fail
     refine hS.mono ?_;rintro e w3 ⟨v,rfl,h0,rfl⟩;have x:=mk1 (f.trans (h0.mono f.size));go_wp2_with fail
     apply(E _).mono;rintro e w4 ⟨v,rfl,V,g,m,rfl,O,R,I,Z⟩;have U:=mk1 (x.trans (V.mono x.size));have F:Hid (Je w (uP z.1 z.2) (.tuple #[sZ g 33 m,iZ 0]) w4):=⟨g,m,rfl,O,XN x.size R,I,Z⟩
     go_wp2
     go_ret2
     refine⟨_,rfl,U,Yd (Yd ⟨rfl,y,Yd ⟨ns,Q,Yd ⟨_,_,T,?_⟩⟩⟩)⟩;rw[HZ.out];exact F
    .have f:=mk1 (u.trans (d.mono u.size));have F:=mk1 (t);go_wp2
     go_ret2
     exact⟨_,rfl,f,Yd (Yd ⟨rfl,y,Yd ⟨ns,Q,Yk ⟨F,rfl⟩⟩⟩)⟩
   .have u:=mk1 (J);have F:=mk1 (t);go_wp2
    go_ret2
    exact⟨_,rfl,u,Yd (Yd ⟨rfl,y,Yk ⟨F,rfl⟩⟩)⟩
 .go_enter func64,ntmps64;go_wp2
  go_ret2
  exact⟨_,rfl,XX _ _,Yk ⟨B,rfl⟩⟩
def Ji:Bs:=XW 33 0
def QZ(r d:Nat):d*d%(r+d)=r*r%(r+d):=by
 have h:d*d+(r+d)*r=r*r+(r+d)*d:=by
  rw[yAB,yAB,YN d r];omega
 have k:=congrArg (· % (r+d)) h;simp only[Nat.add_mul_mod_self_left]at k;exact k
def PU{m y:Fin P}(h:rt m=some y):y*y=m:=by
 have k:=J1 h;unfold rt at h;rw[yE3 k]at h;obtain rfl:=X5.inj h;have c:=yAM P;have b:m.val^(P/4+1)%P<P:=Zi _ c;generalize m.val^(P/4+1)%P=r at k b;apply yA4;rw[yAw];show(even P r%P)*(even P r%P)%P=m.val;rw[Ya (GY c b),<-k];unfold even;split
 .have d:=QZ r (P-r);rw[show r+(P-r)=P by omega]at d;exact d
 .rfl
def D2{k:Bs}(c:k.size=33):uU k↔k=Ji:=by
 constructor
 .intro h;apply yES
  .rw[c];rfl
  .intro i e f;have:=h i (Y9.2 oM);rw[getElem!_pos k i e]at this;have b:k[i].toNat=0:=by
    have d:ub k[i]=(k[i].toNat:Int):=rfl;rw[d]at this;omega
   have g:(Ji)[i]=0:=by
    have d:(XW 33 (0:UInt8))[i]'f=0:=Zp _;exact d
   rw[g];exact UInt8.toNat_inj.1 b
 .rintro rfl i b;have b:=Y9.1 b;unfold Ji;rw[getElem!_pos _ i (by rw[X8];exact b),Zp];rfl
def Kw{x y:Fin P}(h:y*y=x*x*x+7):On (.some (x,y):EC.Pt P):=by
 show y^2=x^3+7
 grobner
def RZ{x y:Fin P}(h:y*y=x*x*x+7):On (.some (x,0-y):EC.Pt P):=by
 show(0-y)^2=x^3+7
 grobner
def wr:EC.Pt P->Bs
 | none=>Ji
 | some (x,y)=>#[mark y.val]++bx x.val
def xH(C:Fld P){x y:Fin P}{p:EC.Pt P}(h:Pair x y p)(ho:On p):uP x y=wr p:=by
 unfold uP;match p,h,ho with
 | none,h,_=>rw[yE3 (show x=0/\y=0 from h)];rfl
 | some (a,b),h,ho =>
  obtain⟨rfl,rfl⟩:=h;rw[yE4 (λe=>C.cur.y_ne ho e.2)];rfl
def pt(p:Fin P × Fin P):EC.Pt P:=if p.1=0/\p.2=0 then none else some p
def Oq(C:Fld P){x y:Fin P}{q:EC.Pt P}(h:Pair x y q)(ho:On q):q=pt (x,y):=by
 unfold pt;match q,h,ho with
 | none,h,_=>rw[yE3 (show x=0/\y=0 from h)]
 | some (a,b),h,ho =>
  obtain⟨rfl,rfl⟩:=h;rw[yE4 (λe=>C.cur.y_ne ho e.2)]
def Un(C:Fld P){b:Bs}{p:Fin P × Fin P}(h:rd P b=some p):Pair p.1 p.2 (pt p)/\On (pt p):=by
 have key:∃q:EC.Pt P,Pair p.1 p.2 q/\On q:=by
  unfold rd at h;split at h
  .split at h
   .obtain rfl:=X5.inj h;exact⟨none,⟨rfl,rfl⟩,jD⟩
   .split at h
    .split at h
     .obtain⟨y,c,rfl⟩:=XK.1 h;have k:=PU c;refine⟨some (rdx P b,if ub b[0]! = 3 then 0-y else y),⟨rfl,rfl⟩,?_⟩;split
      .exact RZ k
      .exact Kw k
     .cases h
    .cases h
  .cases h
 obtain⟨q,k,c⟩:=key;have:=Oq C k c;rw[show pt p=q from this.symm];exact⟨k,c⟩
omit [NeZero P] in
theorem aL(p:EC.Pt P):(wr p).size=33:=by
 match p with
 | none=>rfl
 | some (x,y) =>
  show(#[mark y.val]++bx x.val).size=33;rw[Ys,cU];rfl
def J5{a P:Nat}(h:IsP P)(k:P%4=3):(a*a%P)^(P/4+1)%P*((a*a%P)^(P/4+1)%P)%P=a*a%P:=by
 rw[<-yAz,<-Nat.pow_add,<-Nat.pow_mod,<-yEF,<-Nat.pow_mul,show 2*(P/4+1+(P/4+1))=P+1 by omega,Nat.pow_succ,yAz,h.fermat a,<-yAz,yEF]
def NX{a R P:Nat}(h:IsP P)(f:a<P)(hR:R<P)(e:R*R%P=a*a%P):R=a\/R+a=P:=by
 have key:∀x y:Nat,x<P->y<P->y<=x->x*x%P=y*y%P->x=y\/x+y=P:=by
  intro x y hx j g d;have hd:P ∣ x*x-y*y:=by
   refine Nat.dvd_of_mod_eq_zero ?_;exact Nat.sub_mod_eq_zero_of_mod_eq d
  have hf:x*x-y*y=(x-y)*(x+y):=by
   rw[YN (x-y),Nat.mul_self_sub_mul_self_eq]
  rw[hf]at hd;rcases h.euclid hd with b|b
  .left;have:=Nat.eq_zero_of_dvd_of_lt b oM;omega
  .obtain⟨k,i⟩:=b;have:k=0\/k=1\/2<=k:=oM;rcases this with rfl|rfl|c
   .left;omega
   .right;omega
   .have:=yAf P c;omega
 rcases Nat.le_total a R with b|b
 .exact key R a hR f b e
 .rcases key a R f hR b e.symm with c|c
  .left;exact c.symm
  .right;omega
end
section
def Br{x:Nat}(hx:x<2^64):
 w8 (XY (x/72057594037927936)) (XY (x/281474976710656)) (XY (x/1099511627776)) (XY (x/4294967296)) (XY (x/16777216)) (XY (x/65536)) (XY (x/256)) (XY x)=x:=by
 unfold w8;simp only[yBr];omega
def Jb{a b c d:Nat}:(be32 a b c d).toList=[XY (d/72057594037927936),XY (d/281474976710656),XY (d/1099511627776),XY (d/4294967296),XY (d/16777216),XY (d/65536),XY (d/256),XY d,XY (c/72057594037927936),XY (c/281474976710656),XY (c/1099511627776),XY (c/4294967296),XY (c/16777216),XY (c/65536),XY (c/256),XY c,XY (b/72057594037927936),XY (b/281474976710656),XY (b/1099511627776),XY (b/4294967296),XY (b/16777216),XY (b/65536),XY (b/256),XY b,XY (a/72057594037927936),XY (a/281474976710656),XY (a/1099511627776),XY (a/4294967296),XY (a/16777216),XY (a/65536),XY (a/256),XY a]:=by
 simp only[be32,be8,Array.toList_append,List.cons_append,List.nil_append]
def val_congr{a b c d p q r s:Nat}(k:a=p)(f:b=q)(e:c=r)(g:d=s):val a b c d=val p q r s:=by subst k f e g;rfl
def MA{a b c d:Nat}(e:a<2^64)(k:b<2^64)(f:c<2^64)(hd:d<2^64):beV (be32 a b c d).toList=val a b c d:=
 (congrArg beV Jb).trans ((MB _ _ _ _ _ _ _ _ _ _ _ _ _ _ _ _ _ _ _ _ _ _ _ _ _ _ _ _ _ _ _ _).trans (val_congr (Br e) (Br k) (Br f) (Br hd)))
def Fv{n:Nat}(k:n<top):beV (bx n).toList=n:=by
 unfold bx;rw[MA oM oM oM oM];unfold val;unfold top at k;omega
variable {P:Nat}[NeZero P]
def Uh(C:Fld P){y m:Fin P}(h:y*y=m):rt m=some (if y.val%2=1 then 0-y else y):=by
 have d:y.val*y.val%P=m.val:=by rw[<-h,yAw]
 have k:=J5 (a:=y.val) C.cur.pr C.p3;rw[d]at k;unfold rt;rw[yE3 k];have g:=yAM P;have c:m.val^(P/4+1)%P<P:=Zi _ g;generalize m.val^(P/4+1)%P=r at k c;have b:=y.isLt;have i:=C.p3;have hor:=NX C.cur.pr b c (k.trans d.symm)
 congr 1
 apply yA4;show even P r%P=_;unfold even;have f:(0-y:Fin P).val=(P-y.val)%P:=by rw[<-BA,val_zero,XQ]
 by_cases ho:y.val%2=1
 .rw[yE3 ho,f];rcases hor with e|e
  .rw[e,yE3 ho]
  .rw[yE4 oM,show P-y.val=r by omega]
 .rw[yE4 ho];rcases hor with e|e
  .rw[e,yE4 ho,Ya b]
  .by_cases j:y.val=0
   .omega
   .rw[yE3 oM,show P-r=y.val by omega,Ya b]
def Ns(n:Nat):ub (mark n)=if n%2=1 then 3 else 2:=by
 unfold mark;split<;>rfl
def Nx{m:UInt8}{b:Bs}(h:b.size=32):wI (#[m]++b)=b:=by
 unfold wI;rw[Array.extract_append];have k:(#[m]:Bs).extract 1 33=#[]:=by rfl
 rw[k];simp[h]
def Ss{m:UInt8}{b:Bs}:(#[m]++b)[0]! = m:=by
 rw[getElem!_pos _ 0 (by rw[Ys];simp;omega),yBz (by simp)];rfl
def Uo(C:Fld P){b:Bs}(d:b.size=33){x y:Fin P}(c:ub b[0]! = if y.val%2=1 then 3 else 2)(hv:beV (wI b).toList=x.val)(h:On (some (x,y):EC.Pt P)):rd P b=some (x,y):=by
 have k:¬uU b:=λk=>by
  have:=k 0 (Y9.2 dC);rw[c]at this;split at this<;>omega
 have hx:rdx P b=x:=by
  unfold rdx;rw[hv];exact yA4 (Ya x.isLt)
 have f:y*y=x*x*x+7:=by
  have:y^2=x^3+7:=h
  grobner
 unfold rd;rw[yE3 d,yE4 k,c,hv,yE3 x.isLt,hx,Uh C f];by_cases ho:y.val%2=1
 .rw[yE3 ho,yE3 (Yd rfl),yE3 ho,yAy,yE3 rfl];have e:0-(0-y)=y:=by grobner
  rw[e]
 .rw[yE4 ho,yE3 (Yk rfl),yE4 ho,yAy,yE4 dC]
def yF(C:Fld P){X:EC.Pt P}(h:On X):∃p,rd P (wr X)=some p/\pt p=X:=by
 match X,h with
 | none,_ =>
  refine⟨(0,0),?_,by unfold pt;rw[yE3 ⟨rfl,rfl⟩]⟩;have k:(wr (none:EC.Pt P)).size=33:=aL _;have b:=(D2 k).2 rfl;unfold rd;rw[yE3 k,yE3 b]
 | some (x,y),h =>
  have b:=aL (P:=P) (some (x,y));have k:(wr (some (x,y):EC.Pt P))[0]! = mark y.val:=Ss;have c:wI (wr (some (x,y):EC.Pt P))=bx x.val:=Nx (cU _);refine⟨(x,y),Uo C b (by rw[k,Ns]) (by rw[c,Fv (C.top x)]) h,by unfold pt;rw[yE4 (λe=>C.cur.y_ne h e.2)]⟩
end
section
variable {P:Nat}[NeZero P]{N:Nat}
def gxl:List XG:=[uZ 6481385041966929816,uZ 188021827762530521,uZ 6170039885052185351,uZ 8772561819708210092]
def gyl:List XG:=[uZ 11261198710074299576,uZ 18237243440184513561,uZ 6747795201694173352,uZ 5204712524664259685]
def gX(P:Nat)[NeZero P]:Fin P:=Z2 P 55066263022277343669578718895168534326250603453777594175500187360389116729240
def gY(P:Nat)[NeZero P]:Fin P:=Z2 P 32670510020758816978083085130507043184471273380659243275938904335757337482424
def gG(P:Nat)[NeZero P]:EC.Pt P:=some (gX P,gY P)
def Fld.eq(C:Fld P):P=115792089237316195423570985008687907853269984665640564039457584007908834671663:=by
 have h:=C.gap.hP;have e:val 4294968273 0 0 0=4294968273:=dC;rw[e]at h;unfold Go.Proofs.YtlofhpkoaljmeaaGreat.top at h;omega
def LK(C:Fld P):(gX P).val=55066263022277343669578718895168534326250603453777594175500187360389116729240:=by
 have h:=C.eq;exact Ya oM
def LJ(C:Fld P):(gY P).val=32670510020758816978083085130507043184471273380659243275938904335757337482424:=by
 have h:=C.eq;exact Ya oM
def SI(C:Fld P):gxl=ws (gX P):=by
 show _=wn (gX P).val;rw[LK C];kernel_rfl
def SH(C:Fld P):gyl=ws (gY P):=by
 show _=wn (gY P).val;rw[LJ C];kernel_rfl
def Dm(C:Fld P):On (gG P):=by
 refine Kw (yA4 ?_);have k:(7:Fin P).val=7:=Ya C.p7;rw[yAw,Fin.val_add,yAw,yAw,LK C,LJ C,k];have h:=C.eq;rw[h]
def Tk:Gives 69 #[] (.agg (gxl++gyl).toArray):=by
 intro w;go_enter func69,ntmps69;refine RG.M.enter [] 4 kR ?_;intro a0 c;repeat apply XL
 refine c.T [.m 0] [(0,RG.z 8)] [] [RG.z 8] [0] ⟨mk 0 131,yE5⟩ ?_;intro f d g b;repeat apply XL
 refine b.T [.x (.agg gxl.toArray),.x (.agg gyl.toArray),.x (.agg (gxl++gyl).toArray),.u 0] [] [(0,3,gxl++gyl)] [gxl++gyl] [0] ⟨st,st,st,RG.pt i109,yE5⟩ ?_;intro a2 e k;refine Zj<|XR (v:=.agg (gxl++gyl).toArray) (aH k.st rfl rfl (k.at (s:=.p 0 0)) iM i109) k.sl.defers ?_
 exact⟨_,rfl,k.st.bel.below,rfl⟩
def Fz(C:Fld P):Gives 69 #[] (pv (gX P) (gY P)):=by
 unfold pv;rw[<-SI C,<-SH C];exact Tk
def U6(C:Fld P):uP (gX P) (gY P)=wr (gG P):=xH C ⟨rfl,rfl⟩ (Dm C)
def TE(C:Fld P)(w:XF):cZ 131 #[] w (rZ w λe w'=>nI w (wr (gG P)) e w'):=by
 have d:Hid (Fld P):=C;clear C;go_enter func131,ntmps131;go_wp2_with fail
 apply(Fz d _).mono;rintro e n ⟨v,rfl,k,rfl⟩;go_wp2_with fail
 apply(xG d _).mono;rintro e f ⟨v,rfl,b,g,cap,rfl,j,l,i,c⟩;rw[U6 d.out]at c;have m:Hid (kZ w f/\nI w (wr (gG P)) (sZ g 33 cap) f):=⟨k.trans (b.mono k.size),g,cap,rfl,j,XN k.size l,i,c⟩
 clear k b j l i c;go_wp2;go_ret;exact⟨_,rfl,m⟩
end
end Go.Proofs.YtlofhpkoaljmeaaGreat
