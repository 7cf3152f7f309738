import Derived.Deep.LoopGhost
import Derived.ChangeSlices
import Derived.Deep.Slices
import Derived.Lib.SmallJoins
import Derived.ChangeOld
import Derived.Below
import Derived.WalkKit
import Derived.ProofKit
import Derived.OpenShut
import Derived.ShutString
import Derived.SliceStrings
import Derived.SizedLaws
import Derived.Test.YtnakcnljhmlikaaGreatsl8
set_option linter.unusedVariables false
set_option linter.constructorNameAsVariable false
set_option linter.unusedSimpArgs false
set_option maxRecDepth 1000000
set_option maxHeartbeats 4000000
namespace Go.Proofs.YtnakcnljhmlikaaGreat
open _root_.And renaming intro->Tj
open _root_.Array renaming getElem?_eq_some_iff->SZ,length_toList->Sx
open _root_.ByteArray renaming empty->Ya,size_append->ZZ
open _root_.Fin renaming ext->Vx,ofNat->Ua
open _root_.Go.Act renaming put->Tt
open _root_.Go.Addr renaming add->Vw
open _root_.Go.Builtin renaming append_->UG
open _root_.Go.DataW renaming trod->Yx
open _root_.Go.Exit renaming inBlock->U5
open _root_.Go.Instr renaming box->TF,build->VA,buildSlice->UK,indexAt->To,sliceAt->VN
open _root_.Go.IntKind renaming bits->Y7,signed->YG,u8->Xp,wrap->Y6
open _root_.Go.Next renaming value->UP
open _root_.Go.RowKit.Below renaming mono->Yw,refl->SE
open _root_.Go.Sem renaming run_bind->SK
open _root_.Go.Value renaming agg->SX,bool->ZN
open _root_.Go.World renaming block_lt_of_cell?->TV,cell?_of_block->SR,cell?_spot->YO,size_alloc->Sq
open _root_.Int renaming cast_ofNat_Int->Xo,natCast_one->XQ
open _root_.List renaming cons->Vy,cons_ne_nil->Xm,drop->U0,getElem?_eq_getElem->SH,getElem?_eq_some_iff->SI,mem_append->UT,mem_append_left->Wt,mem_append_right->Uv,mem_of_getElem?->TO,mem_range->TM,range->TD,setIfInBounds_toArray->Sw,set_cons_succ->SN,set_cons_zero->SQ,take->UY
open _root_.List.Mem renaming head->Xw
open _root_.Nat renaming add_mul->Vb,add_sub_cancel->V4,le_refl->Se,le_trans->SD,lt_of_lt_of_le->Si,mod_eq_of_lt->SA,mul_assoc->Uy,mul_comm->S9,ne_of_gt->TC,ne_of_lt->TJ,not_lt_zero->UI,pow_le_pow_right->TT,pow_pos->Va,pow_succ->T8,pow_zero->UV,reduceAdd->TG,reducePow->Wh,sub_self->WP,two_mul->ZP,zero_add->Sj
open _root_.Option renaming isSome_iff_exists->SU,map_eq_some_iff->Sf
open _root_.Or renaming inl->SY,inr->SJ
open _root_.Subtype renaming ext_iff->Z3
open _root_.UInt8 renaming ofNat->Sy,toNat_ofNat'->Vq
open Go.Proofs.Tryz (prog)
namespace RG
open Go Go.RowKit
variable {P:Program}{ops:Array Oper}{Q:Exit->Act->World->Prop}{w0:World}{k0:Nat}{X:List Nat}{its:List It}{bl:List Bl}{olds:List (Tmp × SV)}{i:Nat}{o:Oper}{it:It}
theorem nX(hk:it.kind=.stay)(op:BinOp)(T T':TypeId)(t2:Tmp)(v1 v2 v:Value)(ho:o.op=.binOp op T (.const v1) (.tmp t2) T')(hout:it.out=.v v)
 (h2:∀(μ:Nat->Nat) (a:Act),Known ops i its olds it.need μ a->a.eval (.tmp t2)=v2)
 (hg:∀w,(eqGuard op T (.const v1) (.tmp t2) v1 v2).run P w=.ok () w) (hb:∀w,(binOp op T v1 v2).run P w=.ok v w):Cert P Q w0 k0 X ops i its bl olds o it:=by
 refine bW hk λμ a w hK _=>?_
 unfold execOp;rw[ho,hout];dsimp only;rw[h2 μ a hK];show(((eqGuard op T (.const v1) (.tmp t2) v1 v2) >>= λ_=>binOp op T v1 v2) >>= λv=>pure (UP v)).run P w=_;rw[SK,SK,hg];dsimp only[Result.andThen];rw[hb];rfl
end RG
section
open Go.RowKit Go.Sort Go.Deep
variable {P:Nat}[NeZero P]
theorem OL(lab:ByteArray)(h:lab.size<=1000000)(w:World):(binOp .add 9 (.string ⟨#[112,111,105,110,116,32]⟩) (.string lab)).run prog w=.ok (.string (⟨#[112,111,105,110,116,32]⟩++lab)) w:=by
 have h2:(⟨#[112,111,105,110,116,32]⟩:ByteArray).size=6:=rfl;have h3:6+lab.size<=9223372036854775807:=oM;go_simp
theorem I3{i:Nat}{u:UInt8}(h:(i:Int)=ub u)(hi:i<256)(w:World):(convert 3 5 (iZ i)).run prog w=.ok (.int .u8 (ub u)) w:=by
 have h1:Xp.wrap (ub u)=ub u:=by
  have h2:=u.toNat_lt;unfold ub;simp[Y6,Y7,YG];omega
 rw[h];go_simp
def Me(i:Nat)(c:Bool):List RG.It:=[.x 9 [] (iZ i),.x 10 [(9,0)] (.bool c)]
def O8(lab s:ByteArray)(i:Nat)(u:UInt8)(T:Bs)(n:Nat)(ok:Bool):List RG.It:=[.c 14 [] rv0,.x 15 [] (.string lab),.x 16 [(15,1)] (.string ((⟨#[112,111,105,110,116,32]⟩:ByteArray)++lab)),.x 17 [] (.string s),.x 18 [] (iZ i),.x 19 [(18,4)] (.int .u8 (ub u)),⟨some 20,[(19,5)],(.s 1 1 1),.make 1⟩,.x 21 [(20,6)] (.string ⟨#[u]⟩),⟨some 22,[(17,3),(21,7)],(.s 2 2 2),.make 2⟩,.c 23 [(16,2),(22,8)] (.string ⟨T⟩),.c 24 [(14,0),(23,9)] (.tuple #[nv n,.bool ok]),.x 13 [(24,10)] (.tuple #[nv n,.bool ok]),.x 25 [(13,11)] (nv n),.x 26 [(13,11)] (.bool ok),.m 6 [] 3,.u [(6,14),(25,12)] 3,.x 7 [(26,13)] (.bool ok)]
def O7(ok:Bool):List RG.It:=[.x 27 [] (.bool ok),.x 28 [(27,0)] (.bool (!ok))]
def QI(n:Nat)(x y:Fin P)(ok:Bool):List RG.It:=[.x 30 [] (nv n),.c 31 [(30,0)] (.tuple #[rv x y 1,.bool ok]),.x 29 [(31,1)] (.tuple #[rv x y 1,.bool ok]),.x 32 [(29,2)] (rv x y 1),.x 33 [(29,2)] (.bool ok),.m 8 [] 4,.u [(8,5),(32,3)] 4,.x 7 [(33,4)] (.bool ok)]
def QH(ok:Bool):List RG.It:=[.x 34 [] (.bool ok)]
def QJ(i:Nat):List RG.It:=[.x 11 [] (iZ i),.x 12 [(11,0)] (iZ ((i+1:Nat):Int)),.x 5 [(12,1)] (iZ ((i+1:Nat):Int))]
def R7(x y:Fin P):List RG.It:=[.c 36 [] (rv x y 1),.u [(36,0)] 0]
theorem wQ{lab:ByteArray}{b:List UInt8}{i:Nat}(h:cands P lab b i=[])(hc:cand P lab b i=none):cands P lab b (i+1)=[]:=by rw[eY,h,hc];rfl
theorem Oh{lab:ByteArray}{b:List UInt8}{i:Nat}{q:Fin P × Fin P}(hi:i<256)(h:cands P lab b i=[])(hc:cand P lab b i=some q):hpt P lab b=q:=by
 have h1:cands P lab b (i+1)=[q]:=by rw[eY,h,hc];rfl
 obtain⟨r,hr⟩:=yG (P:=P) lab b (i:=i+1) (j:=256) oM;unfold hpt;rw[<-hr,h1];rfl
theorem Lm{lab:ByteArray}{b:List UInt8}(h:cands P lab b 256=[]):hpt P lab b=(gX P,gY P):=by
 unfold hpt;rw[h];rfl
theorem Lv(l x:List UInt8)(y:List UInt8):(SP.bO l [x,y]).length=l.length+x.length+y.length+12:=by
 unfold SP.bO;simp[SP.gV];omega
theorem uN(lab s:ByteArray)(u:UInt8)(hl:lab.size<=4096)(hs:s.size<=4096)(k:Nat)(w:World)(h:w.rangeAt k 0 [.string s,.string ⟨#[u]⟩]/\k<w.heap.size):
 Calls prog 87 #[.string ((⟨#[112,111,105,110,116,32]⟩:ByteArray)++lab),.slice (some (aZ k)) 2 2] w (rZ w λe w'=>e=.string ⟨SP.i9 ((⟨#[112,111,105,110,116,32]⟩:ByteArray)++lab).data.toList [s.data.toList,[u]]⟩):=by
 have hp:((⟨#[112,111,105,110,116,32]⟩:ByteArray)++lab).size=6+lab.size:=ZZ;refine(SP.uH ((⟨#[112,111,105,110,116,32]⟩:ByteArray)++lab) (some (aZ k)) 2 [s,⟨#[u]⟩] w oM (Nat.le_of_ble_eq_true rfl) (SJ ⟨k,0,rfl,λj hj=>?_⟩) (λj hj=>?_) ?_).mono ?_
 ·have hj2:j=0\/j=1:=by simp at hj;omega
  rcases hj2 with rfl|rfl
  ·exact h.1 0 _ rfl
  ·exact h.1 1 _ rfl
 ·have hj2:j=0\/j=1:=by simp at hj;omega
  rcases hj2 with rfl|rfl
  ·show s.size<=_;omega
  ·show 1<=1048576;decide
 ·show(SP.bO ((⟨#[112,111,105,110,116,32]⟩:ByteArray)++lab).data.toList [s.data.toList,[u]]).length<=_;rw[Lv];have e1:((⟨#[112,111,105,110,116,32]⟩:ByteArray)++lab).data.toList.length=6+lab.size:=by rw[Sx];exact hp
  have e2:s.data.toList.length=s.size:=Sx;rw[e1,e2];show 6+lab.size+s.size+1+12<=_;omega
 ·rintro e w' ⟨rfl,hb⟩;exact⟨_,rfl,hb,rfl⟩
theorem D6(C:Fl3 P)(lab s:ByteArray)(hl:lab.size<=4096)(hs0:s.size<=4096):Gives 56 #[.string lab,.string s] (rv (hpt P lab s.data.toList).1 (hpt P lab s.data.toList).2 1):=by
 intro w;go_enter Tryz.func56,Tryz.ntmps56;refine RG.M.enter [(0,.v (.string lab)),(1,.v (.string s))] 37 kR ?_;intro a0 M0;repeat refine wp_seq ?_
 refine M0.T [.m 0] [(0,RG.z 12)] [] [RG.z 12] [0,1,4] ⟨RG.mk 0 65,trivial⟩ ?_;intro k4 a1 w1 M1;repeat refine wp_seq ?_
 refine M1.U [.x (iZ 0)] [0,1,4,5] ⟨RG.st,trivial⟩ ?_;intro a2 w2 M2;repeat refine wp_seq ?_
 refine wp_block ?_;refine wp_loop_ghost (λm a wr=>∃i:Nat,i+m=256/\Hid (cands P lab s.data.toList i=[])/\RG.M w w.heap.size [] 37 [RG.z 12] [k4] [(0,.v (.string lab)),(1,.v (.string s)),(4,.p 0 0),(5,.v (iZ i))] a wr) 256 ⟨0,rfl,rfl,M2⟩ ?_;intro m' a wr;rintro⟨i,him,hnone,M20⟩;by_cases hi:i<256
 ·obtain⟨u,hu⟩:∃u:UInt8,(i:Int)=ub u:=⟨Sy i,by
   show _=(((Sy i).toNat:Nat):Int);rw[Vq,SA oM]⟩
  have hu2:Sy i=u:=by
   apply UInt8.toNat_inj.1;rw[Vq,SA oM];have h:(i:Int)=((u.toNat:Nat):Int):=hu;omega
  obtain⟨T,hT⟩:∃T,Hid (SP.i9 ((⟨#[112,111,105,110,116,32]⟩:ByteArray)++lab).data.toList [s.data.toList,[u]]=T):=⟨_,rfl⟩
  have hTs:T.size=32:=by rw[<-hT.out];exact SP.eG _ _
  have hcand:cand P lab s.data.toList i=if beV T.toList<P then(rt (Ua P (beV T.toList)*Ua P (beV T.toList)*Ua P (beV T.toList)+7)).map λy=>(Ua P (beV T.toList),y) else none:=by
   unfold cand;rw[hu2,hT.out]
  have uN:∀(lab' s':ByteArray) (u':UInt8),lab'.size<=4096->s'.size<=4096->∀(k:Nat) (w:World),w.rangeAt k 0 [.string s,.string ⟨#[u]⟩]/\k<w.heap.size->Calls prog 87 #[.string ((⟨#[112,111,105,110,116,32]⟩:ByteArray)++lab),.slice (some (aZ k)) 2 2] w (rZ w λe w'=>e=.string ⟨T⟩):=λ_ _ _ _ _ k w h=>by
   rw[<-hT.out];exact Go.Proofs.YtnakcnljhmlikaaGreat.uN lab s u hl hs0 k w h
  by_cases hx:beV T.toList<P
  ·obtain⟨x,hxv⟩:∃x:Fin P,Hid (beV T.toList=x.val):=⟨Ua P (beV T.toList),(SA hx).symm⟩
   have hfx:Ua P (beV T.toList)=x:=Vx (by show beV T.toList%P=_;rw[SA hx];exact hxv.out);rw[if_pos hx,hfx]at hcand;have hnum:=xW C T hTs hxv.out;obtain⟨n,hn⟩:∃n,n=x.val:=⟨_,rfl⟩
   cases hr:rt (x*x*x+7) with
   | none =>
    rw[hr]at hcand;have hat:=D3 C x hr;rw[show fv x=nv n by rw[hn]]at hat hnum;repeat refine wp_seq ?_
    refine M20.u (Me i true) [(0,.v (.string lab)),(1,.v (.string s)),(4,.p 0 0),(5,.v (iZ i)),(10,.v (.bool true))] ⟨RG.st,RG.aG rfl .lss 3 3 9 (iZ i) (iZ 256) (.bool true) rfl rfl RG.sx (λw=>kR) (eN (n:=256) hi),trivial⟩ ?_;intro a21 w21 M21;repeat refine wp_seq ?_
    refine wp_cond_true M21.ev ?_;refine wp_skip ?_;refine wp_seq ?_;refine wp_block ?_;repeat refine wp_seq ?_
    refine M21.d (O8 lab s i u T n true) [(6,[.int .u8 (ub u)]),(8,[.string s,.string ⟨#[u]⟩]),(14,RG.z 4)] [(3,15,wn n)] [RG.z 12,[.int .u8 (ub u)],[.string s,.string ⟨#[u]⟩],wn n] [(0,.v (.string lab)),(1,.v (.string s)),(4,.p 0 0),(5,.v (iZ i)),(6,.p 3 0),(7,.v (.bool true))] ⟨RG.cl bL,RG.st,RG.nX rfl .add 9 9 15 (.string ⟨#[112,111,105,110,116,32]⟩) (.string lab) (.string ((⟨#[112,111,105,110,116,32]⟩:ByteArray)++lab)) rfl rfl RG.sx (λw=>kR) (OL lab oM),RG.st,RG.st,RG.nE rfl 3 5 18 (iZ i) (.int .u8 (ub u)) rfl rfl RG.sx (I3 hu hi),RG.wM 1 rfl _ rfl 23 5 19 (.int .u8 (ub u)) rfl rfl RG.sx (bs1 (ub u)),RG.wI rfl 1 6 _ rfl _ rfl rfl kR kR 23 9 20 1 (.string ⟨#[u]⟩) rfl rfl RG.sx (λw k h=>str1 u w k h),RG.mk 2 9,RG.cr [2] (λμ w' _ hs=>uN lab s u hl hs0 (μ 2) w' (hs 2 (Xw _) _ rfl (Xm _ _))) λ_ _=>kR,RG.cl hnum,RG.st,RG.st,RG.st,RG.mk 3 63,RG.pt i33,RG.st,trivial⟩ ?_;intro b1 b2 b3 a22 w22 M22;repeat refine wp_seq ?_
    refine M22.u (O7 true) [(0,.v (.string lab)),(1,.v (.string s)),(4,.p 0 0),(5,.v (iZ i)),(6,.p 3 0),(28,.v (.bool (!true)))] ⟨RG.st,RG.st,trivial⟩ ?_;intro a23 w23 M23;repeat refine wp_seq ?_
    refine wp_cond_false M23.ev ?_;refine wp_skip ?_;repeat refine wp_seq ?_
    refine M23.t (QI n x (0:Fin P) false) [(5,RG.z 12)] [(4,6,ws x++(ws (0:Fin P)++ws (1:Fin P)))] [RG.z 12,[.int .u8 (ub u)],[.string s,.string ⟨#[u]⟩],wn n,ws x++(ws (0:Fin P)++ws (1:Fin P))] [(0,.v (.string lab)),(1,.v (.string s)),(4,.p 0 0),(5,.v (iZ i)),(7,.v (.bool false)),(8,.p 4 0)] ⟨RG.ld u33 i33,RG.cl hat,RG.st,RG.st,RG.st,RG.mk 4 65,RG.pt i56,RG.st,trivial⟩ ?_;intro b4 a24 w24 M24;repeat refine wp_seq ?_
    refine M24.u (QH false) [(0,.v (.string lab)),(1,.v (.string s)),(4,.p 0 0),(5,.v (iZ i)),(8,.p 4 0),(34,.v (.bool false))] ⟨RG.st,trivial⟩ ?_;intro a25 w25 M25;repeat refine wp_seq ?_
    refine wp_cond_false M25.ev ?_;refine wp_skip ?_;repeat refine wp_seq ?_
    refine M25.u (QJ i) [(0,.v (.string lab)),(1,.v (.string s)),(4,.p 0 0),(5,.v (iZ ((i+1:Nat):Int)))] ⟨RG.st,RG.aG rfl .add 3 3 11 (iZ i) (iZ 1) (iZ ((i+1:Nat):Int)) rfl rfl RG.sx (λw=>kR) (qM i 1 oM oM),RG.st,trivial⟩ ?_;intro a26 w26 M26;show ∃n',_;exact⟨m'-1,oM,i+1,oM,wQ hnone.out hcand,RG.M.drop (cs:=[RG.z 12]) (cs2:=[_,_,_,_]) (ks:=[k4]) (ks2:=[_,_,_,_]) M26 rfl rfl⟩
   | some y =>
    rw[hr]at hcand;have hat:=zH C x y hr;rw[show fv x=nv n by rw[hn]]at hat hnum;have hq:hpt P lab s.data.toList=(x,y):=Oh hi hnone.out hcand;rw[hq];repeat refine wp_seq ?_
    refine M20.u (Me i true) [(0,.v (.string lab)),(1,.v (.string s)),(4,.p 0 0),(5,.v (iZ i)),(10,.v (.bool true))] ⟨RG.st,RG.aG rfl .lss 3 3 9 (iZ i) (iZ 256) (.bool true) rfl rfl RG.sx (λw=>kR) (eN (n:=256) hi),trivial⟩ ?_;intro a21 w21 M21;repeat refine wp_seq ?_
    refine wp_cond_true M21.ev ?_;refine wp_skip ?_;refine wp_seq ?_;refine wp_block ?_;repeat refine wp_seq ?_
    refine M21.d (O8 lab s i u T n true) [(6,[.int .u8 (ub u)]),(8,[.string s,.string ⟨#[u]⟩]),(14,RG.z 4)] [(3,15,wn n)] [RG.z 12,[.int .u8 (ub u)],[.string s,.string ⟨#[u]⟩],wn n] [(0,.v (.string lab)),(1,.v (.string s)),(4,.p 0 0),(5,.v (iZ i)),(6,.p 3 0),(7,.v (.bool true))] ⟨RG.cl bL,RG.st,RG.nX rfl .add 9 9 15 (.string ⟨#[112,111,105,110,116,32]⟩) (.string lab) (.string ((⟨#[112,111,105,110,116,32]⟩:ByteArray)++lab)) rfl rfl RG.sx (λw=>kR) (OL lab oM),RG.st,RG.st,RG.nE rfl 3 5 18 (iZ i) (.int .u8 (ub u)) rfl rfl RG.sx (I3 hu hi),RG.wM 1 rfl _ rfl 23 5 19 (.int .u8 (ub u)) rfl rfl RG.sx (bs1 (ub u)),RG.wI rfl 1 6 _ rfl _ rfl rfl kR kR 23 9 20 1 (.string ⟨#[u]⟩) rfl rfl RG.sx (λw k h=>str1 u w k h),RG.mk 2 9,RG.cr [2] (λμ w' _ hs=>uN lab s u hl hs0 (μ 2) w' (hs 2 (Xw _) _ rfl (Xm _ _))) λ_ _=>kR,RG.cl hnum,RG.st,RG.st,RG.st,RG.mk 3 63,RG.pt i33,RG.st,trivial⟩ ?_;intro b1 b2 b3 a22 w22 M22;repeat refine wp_seq ?_
    refine M22.u (O7 true) [(0,.v (.string lab)),(1,.v (.string s)),(4,.p 0 0),(5,.v (iZ i)),(6,.p 3 0),(28,.v (.bool (!true)))] ⟨RG.st,RG.st,trivial⟩ ?_;intro a23 w23 M23;repeat refine wp_seq ?_
    refine wp_cond_false M23.ev ?_;refine wp_skip ?_;repeat refine wp_seq ?_
    refine M23.t (QI n x y true) [(5,RG.z 12)] [(4,6,ws x++(ws y++ws (1:Fin P)))] [RG.z 12,[.int .u8 (ub u)],[.string s,.string ⟨#[u]⟩],wn n,ws x++(ws y++ws (1:Fin P))] [(0,.v (.string lab)),(1,.v (.string s)),(4,.p 0 0),(5,.v (iZ i)),(7,.v (.bool true)),(8,.p 4 0)] ⟨RG.ld u33 i33,RG.cl hat,RG.st,RG.st,RG.st,RG.mk 4 65,RG.pt i56,RG.st,trivial⟩ ?_;intro b4 a24 w24 M24;repeat refine wp_seq ?_
    refine M24.u (QH true) [(0,.v (.string lab)),(1,.v (.string s)),(4,.p 0 0),(5,.v (iZ i)),(8,.p 4 0),(34,.v (.bool true))] ⟨RG.st,trivial⟩ ?_;intro a25 w25 M25;repeat refine wp_seq ?_
    refine wp_cond_true M25.ev ?_;repeat refine wp_seq ?_
    refine M25.T [.x (rv x y 1),.u 0] [] [(0,1,ws x++(ws y++ws (1:Fin P)))] [ws x++(ws y++ws (1:Fin P)),[.int .u8 (ub u)],[.string s,.string ⟨#[u]⟩],wn n,ws x++(ws y++ws (1:Fin P))] [4] ⟨RG.ld u56 i56,RG.pt i56,trivial⟩ ?_;intro a26 w26 M26;refine wp_ret ?_;refine bodyPost_ret (v:=rv x y 1) (RG.aE M26.st 4 65 rfl 0 _ rfl (M26.at (s:=(.p 0 0))) u56 i56) M26.sl.defers ?_;exact⟨_,rfl,M26.st.bel.below,rfl⟩
  ·rw[if_neg hx]at hcand;have hnum:=xX C T hTs hx;obtain⟨n,hn⟩:∃n,n=beV T.toList:=⟨_,rfl⟩
   rw[<-hn]at hnum;repeat refine wp_seq ?_
   refine M20.u (Me i true) [(0,.v (.string lab)),(1,.v (.string s)),(4,.p 0 0),(5,.v (iZ i)),(10,.v (.bool true))] ⟨RG.st,RG.aG rfl .lss 3 3 9 (iZ i) (iZ 256) (.bool true) rfl rfl RG.sx (λw=>kR) (eN (n:=256) hi),trivial⟩ ?_;intro a21 w21 M21;repeat refine wp_seq ?_
   refine wp_cond_true M21.ev ?_;refine wp_skip ?_;refine wp_seq ?_;refine wp_block ?_;repeat refine wp_seq ?_
   refine M21.d (O8 lab s i u T n false) [(6,[.int .u8 (ub u)]),(8,[.string s,.string ⟨#[u]⟩]),(14,RG.z 4)] [(3,15,wn n)] [RG.z 12,[.int .u8 (ub u)],[.string s,.string ⟨#[u]⟩],wn n] [(0,.v (.string lab)),(1,.v (.string s)),(4,.p 0 0),(5,.v (iZ i)),(6,.p 3 0),(7,.v (.bool false))] ⟨RG.cl bL,RG.st,RG.nX rfl .add 9 9 15 (.string ⟨#[112,111,105,110,116,32]⟩) (.string lab) (.string ((⟨#[112,111,105,110,116,32]⟩:ByteArray)++lab)) rfl rfl RG.sx (λw=>kR) (OL lab oM),RG.st,RG.st,RG.nE rfl 3 5 18 (iZ i) (.int .u8 (ub u)) rfl rfl RG.sx (I3 hu hi),RG.wM 1 rfl _ rfl 23 5 19 (.int .u8 (ub u)) rfl rfl RG.sx (bs1 (ub u)),RG.wI rfl 1 6 _ rfl _ rfl rfl kR kR 23 9 20 1 (.string ⟨#[u]⟩) rfl rfl RG.sx (λw k h=>str1 u w k h),RG.mk 2 9,RG.cr [2] (λμ w' _ hs=>uN lab s u hl hs0 (μ 2) w' (hs 2 (Xw _) _ rfl (Xm _ _))) λ_ _=>kR,RG.cl hnum,RG.st,RG.st,RG.st,RG.mk 3 63,RG.pt i33,RG.st,trivial⟩ ?_;intro b1 b2 b3 a22 w22 M22;repeat refine wp_seq ?_
   refine M22.u (O7 false) [(0,.v (.string lab)),(1,.v (.string s)),(4,.p 0 0),(5,.v (iZ i)),(6,.p 3 0),(28,.v (.bool (!false)))] ⟨RG.st,RG.st,trivial⟩ ?_;intro a23 w23 M23;repeat refine wp_seq ?_
   refine wp_cond_true M23.ev ?_;refine wp_exit ?_;dsimp only[Exit.then,U5];rw[if_pos rfl];repeat refine wp_seq ?_
   refine M23.u (QJ i) [(0,.v (.string lab)),(1,.v (.string s)),(4,.p 0 0),(5,.v (iZ ((i+1:Nat):Int)))] ⟨RG.st,RG.aG rfl .add 3 3 11 (iZ i) (iZ 1) (iZ ((i+1:Nat):Int)) rfl rfl RG.sx (λw=>kR) (qM i 1 oM oM),RG.st,trivial⟩ ?_;intro a26 w26 M26;show ∃n',_;exact⟨m'-1,oM,i+1,oM,wQ hnone.out hcand,RG.M.drop (cs:=[RG.z 12]) (cs2:=[_,_,_]) (ks:=[k4]) (ks2:=[_,_,_]) M26 rfl rfl⟩
 ·have he:i=256:=oM;have hq:hpt P lab s.data.toList=(gX P,gY P):=Lm (by have h:=hnone.out;rw[he]at h;exact h);rw[hq];have hG:Gives 98 #[] (rv (gX P) (gY P) 1):=Rc C;repeat refine wp_seq ?_
  refine M20.u (Me i false) [(0,.v (.string lab)),(1,.v (.string s)),(4,.p 0 0),(5,.v (iZ i)),(10,.v (.bool false))] ⟨RG.st,RG.aG rfl .lss 3 3 9 (iZ i) (iZ 256) (.bool false) rfl rfl RG.sx (λw=>kR) (lD (n:=256) hi),trivial⟩ ?_;intro a21 w21 M21;repeat refine wp_seq ?_
  refine wp_cond_false M21.ev ?_;refine wp_exit ?_;dsimp only[Exit.then,U5];rw[if_pos rfl];repeat refine wp_seq ?_
  refine M21.t (R7 (gX P) (gY P)) [] [(0,1,ws (gX P)++(ws (gY P)++ws (1:Fin P)))] [ws (gX P)++(ws (gY P)++ws (1:Fin P))] [(4,.p 0 0)] ⟨RG.cl hG,RG.pt i56,trivial⟩ ?_;intro a22 w22 M22;refine wp_ret ?_;refine bodyPost_ret (v:=rv (gX P) (gY P) 1) (RG.aE M22.st 4 65 rfl 0 _ rfl (M22.at (s:=(.p 0 0))) u56 i56) M22.sl.defers ?_;exact⟨_,rfl,M22.st.bel.below,rfl⟩
end
section
open Go.RowKit Go.Sort Go.Deep SPA
variable {P:Nat}
theorem Ly(n:Nat)(hn:n<4294967296)(w:World):Calls prog 57 #[iZ n] w (rZ w λe w'=>e=.string ⟨mF n⟩):=by
 have b00:(n:Int)/16777216%256=SP.ub (SP.aX n 16777216):=SP.dM n 16777216;have b0:(n:Int)/16777216=SP.ub (SP.aX n 16777216):=oM;clear b00;have b1:(n:Int)/65536%256=SP.ub (SP.aX n 65536):=SP.dM n 65536;have b2:(n:Int)/256%256=SP.ub (SP.aX n 256):=SP.dM n 256;have b3:(n:Int)%256=SP.ub (SP.aX n 1):=SP.pV n;have h4:=SP.lF w (SP.aX n 16777216) (SP.aX n 65536) (SP.aX n 256) (SP.aX n 1);have hcv:=SP.conv_str prog 23 9 5 slice22 int5 str9 _ _ 0 4 4 _ h4 rfl;have HN:Hid (mF n=#[SP.aX n 16777216,SP.aX n 65536,SP.aX n 256,SP.aX n 1]):=rfl;rw[HN.out];generalize SP.aX n 16777216=x0 at *;generalize SP.aX n 65536=x1 at *;generalize SP.aX n 256=x2 at *;generalize SP.aX n 1=x3 at *;have hb0:Below w.heap.size w (w.alloc (.cells #[.int .u8 (SP.ub x0),.int .u8 (SP.ub x1),.int .u8 (SP.ub x2),.int .u8 (SP.ub x3)] 5)):=(SE _ _).alloc (Se _) _;go_enter Tryz.func57,Tryz.ntmps57;go_wp2;go_ret;exact⟨_,rfl,hb0,rfl⟩
theorem Pd:prog.underlying 71=some (.slice 65):=kR
theorem P4:(prog.info? 65).map (λi=>(i.size,i.bytes,i.zero.map λz=>z.cells.size))=some (12,96,some 12):=kR
theorem Nf(t:T3 P):(tw t).length=12:=rfl
theorem Jl{base k g:Nat}{v:Value}{xs:List Value}(t:T3 P){W:World}(hown:W.ownsRow base 65 12 v k xs)(hR:Row W g (tw t))(hk:k<=1000000)(hb:base<=W.heap.size):
 ∃v' W',(UG #[71,71] 71 #[v,.slice (some (aZ g)) 1 1]).run prog W=.ok v' W'/\W'.ownsRow base 65 12 v' (k+1) (xs++tw t)/\W.grownBy W' v.ownBlock:=by
 obtain⟨i,hi,he⟩:=Sf.1 P4;simp only[Prod.mk.injEq]at he;obtain⟨h1,h2,h3⟩:=he;obtain⟨z,hz,hz2⟩:=Sf.1 h3;obtain⟨v',W',r1,r2,r3,-⟩:=run_append_own (P:=prog) W base 71 71 65 i z 12 96 Pd hi hz h1 h2 hz2 dC v k xs hown (aZ g) 1 1 (tw t) rfl
  (λj u hj=>by
   have:=hR.2.1 j u hj;rw[Sj]at this;rw[show(⟨g,0,none⟩:Addr).add j=⟨g,j,none⟩ by unfold Vw;split<;>simp_all];exact this) (λu hu=>List.all_eq_true.1 (BZ t) u hu) (by unfold maxLen;omega) oM hb
 exact⟨v',W',r1,r2,r3⟩
def PtQ(Q:Nat->Prop)(W:World)(v:Value)(n:Nat)(t:Nat->T3 P):Prop:=∃g o c,v=.slice (some ⟨g,o,none⟩) n c/\n<=c/\Q g/\g<W.heap.size/\∀j,j<n->W.rangeAt g (o+12*j) (tw (t j))
theorem PtQ.keep{Q:Nat->Prop}{W W':World}{v:Value}{n:Nat}{t:Nat->T3 P}(h:PtQ Q W v n t)(hk:Kq Q W W'):PtQ Q W' v n t:=by
 obtain⟨g,o,c,h1,h2,h3,h4,h5⟩:=h;refine⟨g,o,c,h1,h2,h3,Si h4 hk.size,λj hj i u hu=>?_⟩;rw[SR (a:=⟨g,o+12*j+i,none⟩) (hk.block g h3 h4)];exact h5 j hj i u hu
theorem PtQ.mono{Q Q':Nat->Prop}{W:World}{v:Value}{n:Nat}{t:Nat->T3 P}(h:PtQ Q W v n t)(hQ:∀g,g<W.heap.size->Q g->Q' g):PtQ Q' W v n t:=by
 obtain⟨g,o,c,h1,h2,h3,h4,h5⟩:=h;exact⟨g,o,c,h1,h2,hQ g h4 h3,h4,h5⟩
def xF(t:Nat->T3 P):Nat->List Value
 | 0=>[]
 | n+1=>xF t n++tw (t n)
theorem qJ(t:Nat->T3 P):∀n,(xF t n).length=12*n
 | 0=>rfl
 | n+1=>by rw[xF,List.length_append,qJ t n,Nf];omega
theorem EJ(t:Nat->T3 P):∀(n j i:Nat) (u:Value),j<n->(tw (t j))[i]? = some u->(xF t n)[12*j+i]? = some u
 | 0,_,_,_,h,_=>absurd h (UI _)
 | n+1,j,i,u,h,hu=>by
  have hi:i<12:=(SI.1 hu).1;rw[xF];by_cases hj:j<n
  ·rw[List.getElem?_append_left (by rw[qJ];omega)];exact EJ t n j i u hj hu
  ·obtain rfl:j=n:=oM;rw[List.getElem?_append_right (by rw[qJ];omega),qJ,show 12*j+i-12*j=i by omega];exact hu
theorem PtQ.of_own{base n:Nat}{W:World}{v:Value}{t:Nat->T3 P}(h:W.ownsRow base 65 12 v n (xF t n))(hn:0<n):PtQ (base<=·) W v n t:=by
 have hc:=λg=>h.cells (g:=g)
 rcases h with⟨-,⟨-,h0⟩|⟨g,cap,cur,rfl,h1,h2,h3,-⟩⟩
 ·omega
 ·refine⟨g,0,cap,rfl,h3,h1,(SZ.1 h2).1,λj hj i u hu=>?_⟩;have:=hc g rfl (12*j+i) u (EJ t n j i u hj hu);rw[QD]at this;rw[Sj];exact this
end
section
open Go.RowKit Go.Sort Go.Deep SPA
variable {P:Nat}[NeZero P]{N:Nat}
theorem below_grown{w W W':World}{base n:Nat}{e:TypeId}{s:Nat}{v:Value}{xs:List Value}(hb:Below w.heap.size w W)(ho:W.ownsRow w.heap.size e s v n xs)(hg:W.grownBy W' v.ownBlock):Below w.heap.size w W':=by
 refine⟨hg.os.trans hb.os,hg.tape.trans hb.tape,hg.output.trans hb.output,SD hb.size hg.size,λg hgw=>?_⟩;rw[hg.block g (Si hgw hb.size) ?_]
 ·exact hb.block g hgw
 ·rcases ho with⟨-,⟨rfl,-⟩|⟨k,cap,cur,rfl,h1,-⟩⟩
  ·exact λh=>by cases h
  ·intro h;injection h with h
   have h:g=k:=h;omega
theorem own_below{w W:World}{base n s:Nat}{e:TypeId}{v:Value}{xs:List Value}(ho:w.ownsRow base e s v n xs)(hb:Below w.heap.size w W):W.ownsRow base e s v n xs:=by
 rcases ho with⟨h0,h|⟨k,cap,cur,h1,h2,h3,h4⟩⟩
 ·exact⟨h0,SY h⟩
 ·exact⟨h0,SJ ⟨k,cap,cur,h1,h2,by rw[hb.block k (SZ.1 h3).1];exact h3,h4⟩⟩
theorem CC{W:World}{base n s:Nat}{e:TypeId}{v:Value}{xs:List Value}(h:W.ownsRow base e s v n xs)(hn:0<n):∃g c,v=.slice (some (aZ g)) n c:=by
 rcases h with⟨-,⟨-,h0⟩|⟨g,cap,cur,rfl,-⟩⟩
 ·omega
 ·exact⟨g,cap,rfl⟩
def zP:List Value:=List.replicate 12 (uZ 0)
theorem uP3:(prog.underlying 65).map (·.isRow)=some true:=kR
theorem iP3:(prog.info? 65).map (·.size)=some 12:=kR
omit [NeZero P] in
theorem jC(t:T3 P):(tw t).toArray.all (·.oneCell')=true:=kR
omit [NeZero P] in
theorem RQ(t:T3 P)(w:World):(UK 71 1 #[(0,tv t)]).run prog w=.ok (.slice (some ⟨w.heap.size,0,none⟩) 1 1) (w.alloc (.cells (tw t).toArray 65)):=kR
noncomputable def bsP (P:Nat) [NeZero P] (lab:ByteArray) (i:Nat):T3 P:=((hpt P lab (mF i).toList).1,(hpt P lab (mF i).toList).2,1)
theorem ES(C:Fl3 P)(lab:ByteArray)(hl:lab.size<=4096)(n:Nat)(hn:0<n)(h64:n<=64)(w:World):Calls prog 19 #[.string lab,iZ n] w (rZ w λe w'=>PtQ (w.heap.size<=·) w' e n (bsP P lab)/\∃g c,e=.slice (some (aZ g)) n c):=by
 obtain⟨t,ht⟩:=hE (bsP P lab);have hH:Hid (∀i,i<n->Gives 56 #[.string lab,.string ⟨mF i⟩] (tv (t i))):=by
  intro i _;have:=D6 C lab ⟨mF i⟩ hl (show 4<=4096 by decide);rw[<-ht.out];exact this
 have HN:=mk2 hn h64;rw[ht.out];obtain⟨dP,hdP1,hdP2⟩:=Sf.1 uP3;have HD:=mk2 hdP1 hdP2;have K0:Hid (Below w.heap.size w w/\w.ownsRow w.heap.size 65 12 (.slice none 0 0) 0 (xF t 0)):=⟨SE _ _,rfl,SY ⟨rfl,rfl⟩⟩
 go_enter Tryz.func19,Tryz.ntmps19;go_wp2;go_loopg [5,6] n (λm s5 s6 W=>∃i:Nat,i+m=n/\s6=iZ i/\Hid (Below w.heap.size w W/\W.ownsRow w.heap.size 65 12 s5 i (xF t i)))
 case atStart=>exact⟨0,oM,rfl,K0⟩
 case round =>
  obtain⟨i,hik,rfl,KM⟩:=hrel;by_cases hi:i<n
  ·have hi':(i:Int)<(n:Int):=oM;have HI:=Hid.mk' hi;go_wp2_with fail
   refine(Ly i (by have:=HN.out.2;have:=HI.out;omega) wr).mono ?_;rintro e W1 ⟨uu,rfl,hb1,rfl⟩;have K1:=mk2 (KM.out.1.trans (hb1.mono KM.out.1.size)) (own_below KM.out.2 hb1);go_wp2_with fail
   refine(hH.out i HI.out W1).mono ?_;rintro e W2 ⟨uu,rfl,hb2,rfl⟩;obtain⟨g7,hg7⟩:=hE (W2.heap.size);obtain⟨W3,hW3⟩:=hE (W2.alloc (.cells zP.toArray 65));obtain⟨W4,hW4⟩:=hE (W3.setCells g7 0 (tw (t i)));obtain⟨g8,hg8⟩:=hE (W4.heap.size);obtain⟨W5,hW5⟩:=hE (W4.alloc (.cells (tw (t i)).toArray 65));have F3:Hid (Row W3 g7 zP/\Below W2.heap.size W2 W3):=by rw[<-hW3.out,<-hg7.out];exact⟨aD W2 _ _,aB _ _⟩
   have F4:Hid (Row W4 g7 (tw (t i))/\Below W2.heap.size W2 W4):=by rw[<-hW4.out];exact⟨F3.out.1.put rfl,RG.below_setCells (by rw[hg7.out];exact Se _) _ _ _ F3.out.2⟩
   have b45:Below W4.heap.size W4 W5:=by rw[<-hW5.out];exact aB _ _
   have r5:Row W5 g8 (tw (t i)):=by rw[<-hW5.out,<-hg8.out];exact aD W4 _ _
   have b15:=hb2.trans ((F4.out.2.trans (b45.mono F4.out.2.size)).mono hb2.size);have K5:=mk2 (K1.out.1.trans (b15.mono K1.out.1.size)) (own_below K1.out.2 b15);obtain⟨v',W6,ha1,ha2,ha3⟩:=Jl (t i) K5.out.2 r5 (by have:=HN.out.2;have:=HI.out;omega) K5.out.1.size;have HA:=Hid.mk' ha1;have K6:=mk2 (below_grown (base:=0) K5.out.1 K5.out.2 ha3) ha2;obtain⟨vt,hvt⟩:=hE (tv (t i));have HB:Hid ((UK 71 1 #[(0,vt)]).run prog W4=.ok (.slice (some (aZ g8)) 1 1) W5):=by rw[<-hvt.out,<-hg8.out,<-hW5.out];exact RQ (t i) W4
   rw[hvt.out];go_wp2_with (first|(refine bB (v:=pZ g7) (w':=W3) rfl 65 7 rfl rfl ?_ ?_;(rw[<-hW3.out,<-hg7.out];kernel_rfl))|(refine wpList_store_mid rfl 65 (.tmp 7) _ rfl g7 0 (tw (t i)).toArray ?_ ?_ ?_ ?_ ?_ ?_;rfl;exact hvt.out.symm;exact F3.out.1.2.2;exact iP3;exact jC (t i);rw[show(tw (t i)).toArray.toList=tw (t i) from rfl,hW4.out])|(refine wpList_load_mid rfl 65 (.tmp 7) rfl g7 0 ?_ (tw (t i)) dP ?_ ?_ ?_ ?_ ?_;rfl;exact F4.out.1.2.1;exact HD.out.1;exact HD.out.2;exact iP3;rw[show SX (tw (t i)).toArray=vt from hvt.out])|(refine f9 (v:=.slice (some (aZ g8)) 1 1) (w':=W5) rfl 71 1 _ rfl #[(0,vt)] ?_ ?_ ?_;kernel_rfl;exact HB.out)|(refine iN (x:=u5) (y:=.slice (some (aZ g8)) 1 1) (v:=v') (w':=W6) rfl _ _ 71 rfl ?_ ?_ ?_ ?_;rfl;rfl;exact HA.out)|fail)
   go_roundg (gk-1)
   case measure=>have:=HI.out;omega
   case rel=>exact⟨i+1,by have:=HI.out;omega,rfl,K6⟩
  ·have hi':¬(i:Int)<(n:Int):=oM;have hin:i=n:=oM;go_wp2;go_ret;have:=KM.out.2;rw[hin]at this;exact⟨_,rfl,KM.out.1,PtQ.of_own this HN.out.1,CC this HN.out.1⟩
end
section
open Go.RowKit Go.Sort Go.Deep SPA
namespace RG
variable {P:Program}{ops:Array Oper}{Q:Exit->Act->World->Prop}{w:World}{a0:Act}{G:Gw}{k:Nat}{o:Oper}
theorem RA(j:Nat)(t:Tmp)(v:Value)(cs:List Value)(T:TypeId)(hj:∀x W,G.R j x W->x=v)(hR:∀W W':World,Row W' W.heap.size cs->G.B W->G.R k (.slice (some ⟨W.heap.size,0,none⟩) 1 1) W')(hd:(bU o j,bC ops j)=(true,some t):=by kernel_rfl)(hs:∀W,(dW [t] o,(execOp (evo (evl [(t,v)])) o).run P W)=(true,.ok (.value (.slice (some ⟨W.heap.size,0,none⟩) 1 1)) (W.alloc (.cells cs.toArray T))):=by intro _;kernel_rfl):bQ P Q G.flow ops a0 k o:=
 cE λa W hp=>⟨[(t,v)],_,_,⟨hj _ W (hp.n j t (congrArg Prod.fst hd) (congrArg Prod.snd hd)),trivial⟩,hs W,aB W _,hR W _ (aD W cs T) hp.b⟩
def pB(cs:List Value):S1:=⟨λv w=>∃g,v=.slice (some (aZ g)) 1 1/\Row w g cs,λ_ _ _ hb ⟨g,h1,h2⟩=>⟨g,h1,h2.below hb⟩⟩
end RG
variable {P:Nat}[NeZero P]
theorem MF(n:Nat)(w:World):(TF 63 (nv n)).run prog w=.ok (.pointer (some ⟨w.heap.size,0,none⟩)) (w.alloc (.cells (wn n).toArray 63)):=kR
theorem LX(k o n c i:Nat)(hi:i<n)(w:World):(To 71 (.slice (some ⟨k,o,none⟩) n c) (iZ i)).run prog w=.ok (.pointer (some ⟨k,o+12*i,none⟩)) w:=by
 go_simp
def mxT(x y:Nat)(ta tb:Nat->T3 P)(j:Nat):T3 P:=plF (tmF x (ta j) 256) (tmF y (tb j) 256)
theorem Ij(C:Fl3 P)(x y:Nat)(hx:x<top)(hy:y<top)(n:Nat)(hn:0<n)(h64:n<=64)(ta tb:Nat->T3 P)(pa pb:Nat->EC.Pt P)(hta:∀j,j<n->FracT (ta j) (pa j))(htb:∀j,j<n->FracT (tb j) (pb j))(va vb:Value)(w:World)(hA:PtQ (λ_=>True) w va n ta)(hB:PtQ (λ_=>True) w vb n tb):
 Calls prog 53 #[nv x,va,nv y,vb] w (rZ w λe w'=>PtQ (w.heap.size<=·) w' e n (mxT x y ta tb)):=by
 obtain⟨ga,oa,ca,rfl,hca,-,hga,hra⟩:=hA;obtain⟨gb,ob,cb,rfl,hcb,-,hgb,hrb⟩:=hB;obtain⟨k,hk⟩:=hE (w.heap.size);obtain⟨w1,hw1⟩:=hE (w.alloc (.cells (wn x).toArray 63));obtain⟨w2,hw2⟩:=hE (w1.alloc (.cells (wn y).toArray 63));have z1:w1.heap.size=k+1:=by rw[<-hw1.out,Sq,hk.out]
 have b1:Below w.heap.size w w1:=by rw[<-hw1.out];exact aB _ _
 have b2:Below w1.heap.size w1 w2:=by rw[<-hw2.out];exact aB _ _
 have r1:Row w1 k (wn x):=by rw[<-hw1.out,<-hk.out];exact aD w _ _
 have r2:Row w2 (k+1) (wn y):=by rw[<-hw2.out,<-z1];exact aD w1 _ _
 have b12:=b1.trans (b2.mono b1.size);have HR:Hid (Row w2 k (wn x)/\Row w2 (k+1) (wn y)/\ga<w2.heap.size/\gb<w2.heap.size/\(∀j,j<n->w2.rangeAt ga (oa+12*j) (tw (ta j)))/\(∀j,j<n->w2.rangeAt gb (ob+12*j) (tw (tb j)))/\Below w.heap.size w w2):=⟨r1.below b2,r2,Si hga b12.size,Si hgb b12.size,λj hj=>RG.range_below (hra j hj) b12 hga,λj hj=>RG.range_below (hrb j hj) b12 hgb,b12⟩
 have cT:Hid (∀j,j<n->Gives 51 #[nv x,tv (ta j)] (tv (tmF x (ta j) 256))/\Gives 51 #[nv y,tv (tb j)] (tv (tmF y (tb j) 256))/\Gives 50 #[tv (tmF x (ta j) 256),tv (tmF y (tb j) 256)] (tv (mxT x y ta tb j))):=λj hj=>⟨uM C x hx (ta j) (hta j hj),uM C y hy (tb j) (htb j hj),(FracT.plus C (Ay C (by unfold top at hx;omega) (hta j hj) 256 (Se _)) (Ay C (by unfold top at hy;omega) (htb j hj) 256 (Se _))).1⟩
 obtain⟨t,ht⟩:=hE (mxT x y ta tb);rw[ht.out]at cT;rw[ht.out];have B1:Hid ((TF 63 (nv x)).run prog w=.ok (pZ k) w1):=by rw[<-hw1.out,<-hk.out];exact MF x w
 have B2:Hid ((TF 63 (nv y)).run prog w1=.ok (.pointer (some ⟨k+1,0,none⟩)) w2):=by rw[<-hw2.out,<-z1];exact MF y w1
 have K0:Hid (Below w2.heap.size w2 w2/\w2.ownsRow w2.heap.size 65 12 (.slice none 0 0) 0 (xF t 0)):=⟨SE _ _,rfl,SY ⟨rfl,rfl⟩⟩
 have HN:=mk2 hn h64;obtain⟨vx,hvx⟩:=hE (nv x);obtain⟨vy,hvy⟩:=hE (nv y);rw[hvx.out]at B1;rw[hvy.out]at B2;rw[hvx.out,hvy.out];go_enter Tryz.func53,Tryz.ntmps53;go_wp2_with (first|(refine aI (u:=vx) (v:=pZ k) (w':=w1) rfl 63 (.tmp 0) rfl ?_ ?_ ?_;rfl;exact B1.out)|(refine aI (u:=vy) (v:=.pointer (some ⟨k+1,0,none⟩)) (w':=w2) rfl 63 (.tmp 2) rfl ?_ ?_ ?_;rfl;exact B2.out)|fail)
 go_loopg [9,10] n (λm s9 s10 W=>∃i:Nat,i+m=n/\s10=iZ i/\Hid (Below w2.heap.size w2 W/\W.ownsRow w2.heap.size 65 12 s9 i (xF t i)))
 case atStart=>exact⟨0,oM,rfl,K0⟩
 case round =>
  obtain⟨i,hik,rfl,KM⟩:=hrel;by_cases hi:i<n
  ·have hi':(i:Int)<(n:Int):=oM;have HI:=Hid.mk' hi;go_wp2_with fail
   have hB0:=KM.1.drew;obtain⟨c1,c2,c3⟩:=cT.out i HI.out;refine(RG.gwL [RG.pE u9,RG.pE (nv x),RG.pE (.slice (some ⟨ga,oa,none⟩) n ca),RG.pE (iZ i),RG.pE (.pointer (some ⟨ga,oa+12*i,none⟩)),RG.pE (tv (ta i)),RG.pE (tv (tmF x (ta i) 256)),RG.pE (nv y),RG.pE (.slice (some ⟨gb,ob,none⟩) n cb),RG.pE (iZ i),RG.pE (.pointer (some ⟨gb,ob+12*i,none⟩)),RG.pE (tv (tb i)),RG.pE (tv (tmF y (tb i) 256)),RG.pE (tv (t i)),RG.pB (tw (t i))] (λW=>Below wr.heap.size wr W) (λW W' hb h=>h.trans (hb.mono h.size))).tail2 15 kR kR kR ⟨
    RG.gO 9 u9,
    RG.gLo 4 (λW hB=>RG.range_below HR.1.2.1 (KM.1.trans (hB.mono KM.1.size)) HR.1.1) u33 i33,
    RG.gO 1 (.slice (some ⟨ga,oa,none⟩) n ca),
    RG.gO 10 (iZ i),
    RG.gX 2 19 3 20 (LX ga oa n ca i HI.out),
    RG.gLr 4 21 (λW hB=>RG.range_below (HR.2.2.2.2.1 i HI.out) (KM.1.trans (hB.mono KM.1.size)) HR.2.2.1) uP3 iP3,
    RG.gC2 1 18 5 22 c1,
    RG.gLo 6 (λW hB=>RG.range_below HR.2.1.2.1 (KM.1.trans (hB.mono KM.1.size)) HR.2.1.1) u33 i33,
    RG.gO 3 (.slice (some ⟨gb,ob,none⟩) n cb),
    RG.gO 10 (iZ i),
    RG.gX 8 25 9 26 (LX gb ob n cb i HI.out),
    RG.gLr 10 27 (λW hB=>RG.range_below (HR.2.2.2.2.2.1 i HI.out) (KM.1.trans (hB.mono KM.1.size)) HR.2.2.2.1) uP3 iP3,
    RG.gC2 7 24 11 28 c2,
    RG.gC2 6 23 12 29 c3,
    RG.RA 13 30 (tv (t i)) (tw (t i)) 65 (λx W h=>h) (λW W' h _=>⟨_,rfl,h⟩),trivial⟩ (SE _ _).drew ?_
   intro V W9 hR9 hB9;have hV0:=hR9 0 dC;obtain⟨g8,hV14,r8⟩:∃g,V 14=.slice (some (aZ g)) 1 1/\Row W9 g (tw (t i)):=hR9 14 dC;have K9:=mk2 (KM.1.trans (hB9.mono KM.1.size)) (own_below KM.2 hB9);obtain⟨v',W6,ha1,ha2,ha3⟩:=Jl (t i) K9.2 r8 (by have:=HN.2;have:=HI.out;omega) K9.1.size;have HA:=Hid.mk' ha1;have K6:=mk2 (below_grown (base:=0) K9.1 K9.2 ha3) ha2;dsimp only[RG.dJ,TG,UY,U0];simp only[Tt,Sw,SN,SQ];rw[hV0,hV14];go_wp2_with (first|(refine iN (x:=u9) (y:=.slice (some (aZ g8)) 1 1) (v:=v') (w':=W6) rfl _ _ 71 rfl ?_ ?_ ?_ ?_;rfl;rfl;exact HA.out)|fail)
   go_roundg (gk-1)
   case measure=>have:=HI.out;omega
   case rel=>exact⟨i+1,by have:=HI.out;omega,rfl,K6⟩
  ·have hi':¬(i:Int)<(n:Int):=oM;have hin:i=n:=oM;go_wp2;go_ret;have:=KM.2;rw[hin]at this;exact⟨_,rfl,HR.2.2.2.2.2.2.trans (KM.1.mono HR.2.2.2.2.2.2.size),(PtQ.of_own this HN.1).mono λg _ hg=>SD HR.2.2.2.2.2.2.size hg⟩
end
section
open Go.RowKit Go.Sort Go.Deep SPA
variable {P:Nat}[NeZero P]{N:Nat}
theorem oW{w:World}{y g o:Nat}{L:Bs}{vs:List Value}(h:SP.RLog w y L)(hne:y≠g):SP.RLog (w.setCells g o vs) y L:=by
 have hb:=RG.aS g vs o w y hne;refine⟨by rw[SR (a:=⟨y,0,none⟩) hb];exact h.1,?_⟩;rw[World.frozen?_of_block (a:=⟨y,0,none⟩) hb];exact h.2
theorem Hu(O:Ord N)(y:Nat)(L:Bs)(w:World)(hl:L.size=32)(hL:SP.RLog w y L):Calls prog 88 #[pZ y] w (Ret λe w'=>SP.Only y 0 1 w w'/\SP.RLog w' y (gZ L)/\e=nv (cha N L)):=by
 obtain⟨L2,hL2⟩:=hE (gZ L);rw[hL2.out];obtain⟨A,hA⟩:∃A,Hid (SP.tC L [99,104,97,108,108,101,110,103,101] 64=A):=⟨_,rfl⟩
 have hAs:A.size=64:=by rw[<-hA.out];exact SP.yN _ _ _
 have hr:cha N L=oZ N A:=by unfold cha;rw[hA.out]
 rw[hr];clear hr;have hy:=hL.lt;obtain⟨w1,hw1⟩:∃w1,Hid (w.alloc (.cells #[uZ 0,uZ 0,uZ 0,uZ 0] 63)=w1):=⟨_,rfl⟩
 have K1:Hid (Row w1 w.heap.size [uZ 0,uZ 0,uZ 0,uZ 0]/\Below w.heap.size w w1):=by rw[<-hw1.out];exact⟨aD w _ _,aB w _⟩
 go_enter Tryz.func88,Tryz.ntmps88;go_wp2_with fail
 rw[hw1.out];refine(O4 w1).mono ?_;rintro e w2 ⟨v,rfl,hb2,rfl⟩;have K2:Hid (Row w2 w.heap.size [uZ 0,uZ 0,uZ 0,uZ 0]/\Below w.heap.size w w2/\SP.RLog w2 y L):=⟨K1.1.below hb2,K1.2.trans (hb2.mono K1.2.size),(hL.below K1.2).below hb2⟩
 clear hb2 K1 hw1;go_wp2_with fail
 refine(SP.Cl y L ⟨#[99,104,97,108,108,101,110,103,101]⟩ 64 w2 dC dC hl K2.2.2).mono ?_;rintro e w3 ⟨rfl,hO,hl3⟩;rw[show SP.lJ L (⟨#[99,104,97,108,108,101,110,103,101]⟩:ByteArray).data.toList=L2 from hL2.out]at hl3;rw[show SP.tC L (⟨#[99,104,97,108,108,101,110,103,101]⟩:ByteArray).data.toList 64=A from hA.out];have K3:Hid (Row w3 w.heap.size [uZ 0,uZ 0,uZ 0,uZ 0]/\SP.Only y 0 1 w w3/\SP.RLog w3 y L2):=⟨K2.1.only hO oM,(SP.Only.of_below K2.2.1 rfl hy).trans hO,hl3⟩
 clear hO K2 hl3;go_wp2_with fail
 refine(NG O A oM w3).mono ?_;rintro e w4 ⟨v,rfl,hb4,rfl⟩;have K4:=mk3 (K3.1.below hb4) (K3.2.1.trans (SP.Only.of_below hb4 rfl (Si hy K3.2.1.size))) (K3.2.2.below hb4);obtain⟨m,hm⟩:=hE (oZ N A);rw[hm.out];obtain⟨w5,hw5⟩:=hE (w4.setCells w.heap.size 0 (wn m));have K5:Hid (Row w5 w.heap.size (wn m)/\SP.Only y 0 1 w w5/\SP.RLog w5 y L2):=by
  rw[<-hw5.out];exact⟨K4.1.put rfl,bR K4.2.1 hy (Se _) _,oW K4.2.2 (TJ hy)⟩
 obtain⟨vm,hvm⟩:=hE (nv m);rw[hvm.out];go_wp2_with (refine wpList_store_mid rfl 63 _ _ rfl w.heap.size 0 (wn m).toArray ?_ ?_ ?_ ?_ ?_ ?_;rfl;exact hvm.symm;exact K4.1.2.2;exact i33;exact dE m;rw[show(wn m).toArray.toList=wn m from rfl,hw5.out])
 refine bodyPost_ret (aP 2 63 rfl K5.1 rfl u33 i33) rfl ?_;exact⟨_,rfl,K5.2.1,K5.2.2,by rw[hm.out];rfl⟩
theorem LK(O:Ord N)(y:Nat)(L:Bs)(w:World)(hl:L.size=32)(hL:SP.RLog w y L):Calls prog 48 #[pZ y] w (Ret λe w'=>SP.Only y 0 1 w w'/\SP.RLog w' y (gZ L)/\e=nv (jM (cha N L))):=by
 have hy:=hL.lt;have hcN:cha N L<N:=tK O _;obtain⟨L2,hL2⟩:=hE (gZ L);have cC:=Hid.mk' (λ(W:World) (h:SP.RLog W y L)=>Hu O y L W hl h);rw[hL2.out]at cC;rw[hL2.out];obtain⟨c,hc⟩:=hE (cha N L);rw[hc.out]at cC hcN;rw[hc.out];have cZ:=Hid.mk' (λ(W:World)=>mY (nv c) c (O.four hcN) W);have c1:=Hid.mk' (λ(W:World)=>kX 1 dC W);obtain⟨k,hk⟩:=hE (w.heap.size);obtain⟨w1,hw1⟩:=hE (w.alloc (.cells #[uZ 0,uZ 0,uZ 0,uZ 0] 63));have K1:Hid (Row w1 k [uZ 0,uZ 0,uZ 0,uZ 0]/\Below w.heap.size w w1/\SP.RLog w1 y L/\y<k):=by rw[<-hw1.out,<-hk.out];exact⟨aD w _ _,aB w _,hL.below (aB w _),hy⟩
 obtain⟨dN,hdN1,hdN2⟩:=Sf.1 u33;have HD:=mk2 hdN1 hdN2;go_enter Tryz.func48,Tryz.ntmps48;go_wp2_with (first|(refine alR 2 hk hw1 ?_)|fail)
 refine(cC w1 K1.2.2.1).mono ?_;rintro e w2 ⟨vv,rfl,hO,hl2,rfl⟩;obtain⟨g3,hg3⟩:=hE (w2.heap.size);obtain⟨w3,hw3⟩:=hE (w2.alloc (.cells #[uZ 0,uZ 0,uZ 0,uZ 0] 63));obtain⟨w4,hw4⟩:=hE (w3.setCells g3 0 (wn c));have hy2:=hl2.lt;have F3:Hid (Row w3 g3 [uZ 0,uZ 0,uZ 0,uZ 0]/\Below w2.heap.size w2 w3):=by rw[<-hw3.out,<-hg3.out];exact⟨aD w2 _ _,aB w2 _⟩
 have b24:Below w2.heap.size w2 w4:=by rw[<-hw4.out];exact RG.below_setCells (by rw[hg3.out];exact Se _) _ _ _ F3.2
 have oA:=(SP.Only.of_below K1.2.1 rfl hy).trans hO;have K4:Hid (Row w4 k [uZ 0,uZ 0,uZ 0,uZ 0]/\Row w4 g3 (wn c)/\SP.Only y 0 1 w w4/\SP.RLog w4 y L2):=⟨(K1.1.only hO (TC K1.2.2.2)).below b24,by rw[<-hw4.out];exact F3.1.put rfl,oA.trans (SP.Only.of_below b24 rfl hy2),hl2.below b24⟩
 obtain⟨vc,hvc⟩:=hE (nv c);rw[hvc.out]at cZ;rw[hvc.out];go_wp2_with (first|(refine alR 3 hg3 hw3 ?_)|(refine stR 3 hw4 hvc F3.1.2.2 i33 (dE c) ?_)|(refine ldR 3 K4.2.1.2.1 hvc u33 i33 ?_)|fail)
 refine(cZ w4).mono ?_;rintro e w5 ⟨vv,rfl,hb5,rfl⟩;have K5:=mk4 (K4.1.below hb5) (K4.2.1.below hb5) (K4.2.2.1.trans (SP.Only.of_below hb5 rfl K4.2.2.2.lt)) (K4.2.2.2.below hb5);by_cases h0:c=0
 ·have hd:=decide_eq_true h0;rw[hd];have hr:Hid (jM c=1):=by show _=_;unfold jM;rw[if_pos h0]
  go_wp2_with fail
  refine(c1 w5).mono ?_;rintro e w6 ⟨vv,rfl,hb6,rfl⟩;obtain⟨w7,hw7⟩:=hE (w6.setCells k 0 (wn 1));have r6:=K5.1.below hb6;have K7:Hid (Row w7 k (wn 1)/\SP.Only y 0 1 w w7/\SP.RLog w7 y L2):=by
   rw[<-hw7.out];exact⟨r6.put rfl,bR (K5.2.2.1.trans (SP.Only.of_below hb6 rfl K5.2.2.2.lt)) hy (by rw[hk.out];exact Se _) _,oW (K5.2.2.2.below hb6) (by have:=K1.2.2.2;omega)⟩
  have H6:=Hid.mk' r6;rw[show SX #[uZ ((1:Nat):Int),uZ 0,uZ 0,uZ 0]=nv 1 from rfl];obtain⟨v1,hv1⟩:=hE (nv 1);rw[hv1.out];go_wp2_with (first|(refine stR 2 hw7 hv1 H6.2.2 i33 (dE 1) ?_)|fail)
  refine bodyPost_ret (aP 2 63 rfl K7.1 rfl u33 i33) rfl ?_;exact⟨_,rfl,K7.2.1,K7.2.2,by rw[hr.out];rfl⟩
 ·have hd:=decide_eq_false h0;rw[hd];have hr:Hid (jM c=c):=by show _=_;unfold jM;rw[if_neg h0]
  obtain⟨w7,hw7⟩:=hE (w5.setCells k 0 (wn c));have K7:Hid (Row w7 k (wn c)/\SP.Only y 0 1 w w7/\SP.RLog w7 y L2):=by
   rw[<-hw7.out];exact⟨K5.1.put rfl,bR K5.2.2.1 hy (by rw[hk.out];exact Se _) _,oW K5.2.2.2 (by have:=K1.2.2.2;omega)⟩
  go_wp2_with (first|(refine ldR 3 K5.2.1.2.1 hvc u33 i33 ?_)|(refine stR 2 hw7 hvc K5.1.2.2 i33 (dE c) ?_)|fail)
  refine bodyPost_ret (aP 2 63 rfl K7.1 rfl u33 i33) rfl ?_;exact⟨_,rfl,K7.2.1,K7.2.2,by rw[hr.out];rfl⟩
noncomputable def inT (P:Nat) [NeZero P]:T3 P:=((hpt P ⟨#[105,110,110,101,114]⟩ []).1,(hpt P ⟨#[105,110,110,101,114]⟩ []).2,1)
theorem Iv(C:Fl3 P):Gives 20 #[] (tv (inT P)):=by
 intro w;have hh:Gives 56 #[.string ⟨#[105,110,110,101,114]⟩,.string ⟨#[]⟩] (tv (inT P)):=D6 C ⟨#[105,110,110,101,114]⟩ ⟨#[]⟩ dC dC;generalize inT P=t at hh;go_enter Tryz.func20,Tryz.ntmps20;refine RG.M.enter [] 2 kR ?_;intro a0 M0;repeat refine wp_seq ?_
 refine M0.tx [.m 0 [] 0] [(0,RG.z 12)] [] [RG.z 12] [(0,.p 0 0)] kR kR ⟨RG.mk 0 65 λ_ _=>kR,trivial⟩ ?_;intro k a1 w1 M1;repeat refine wp_seq ?_
 refine M1.tx [.c 1 [] (tv t),.u [(1,0)] 0] [] [(0,1,tw t)] [tw t] [(0,.p 0 0)] kR kR ⟨RG.cl hh λ_ _=>kR,RG.pt i56 kR,trivial⟩ ?_;intro a2 w2 M2;refine wp_ret ?_;refine bodyPost_ret (v:=tv t) (RG.aE M2.st 0 65 rfl 0 _ rfl (M2.at (s:=(.p 0 0)) kR) u56 i56) M2.sl.defers ?_;exact⟨_,rfl,M2.st.bel.below,rfl⟩
theorem Cv(label point:ByteArray)(hl:label.size<=16384)(hp:point.size<=16384)(w:World):Calls prog 18 #[.string label,.string point] w (rZ w λe w'=>∃y,e=pZ y/\w.heap.size<=y/\SP.RLog w' y (tA label.data.toList point.data)):=by
 have hS:=Hid.mk' (λ(y:Nat) (L:Bs) (hL:L.size=32) (W:World) (h:SP.RLog W y L)=>Tj (SP.kU y L ⟨#[108,97,98,101,108]⟩ label W dC hl hL h) (SP.kU y L ⟨#[112,111,105,110,116]⟩ point W dC hp hL h));have hN:=Hid.mk' (λ(W:World)=>SP.Ck ⟨#[112,114,111,100,117,99,116]⟩ W dC);obtain⟨L3,hL3⟩:=hE (tA label.data.toList point.data);rw[hL3.out];unfold tA at hL3;obtain⟨L1,hL1⟩:=hE (SP.newL [112,114,111,100,117,99,116]);have s1:L1.size=32:=by rw[<-hL1.out];exact SP.rM _
 rw[hL1.out]at hL3;obtain⟨L2,hL2⟩:=hE (SP.jY L1 [108,97,98,101,108] label.data.toList);have s2:L2.size=32:=by rw[<-hL2.out];exact SP.fD _ _ _
 rw[hL2.out]at hL3;go_enter Tryz.func18,Tryz.ntmps18;go_wp2_with fail
 refine(hN w).mono ?_;rintro e w1 ⟨y,rfl,hy,hb1,hr1⟩;rw[show SP.newL (⟨#[112,114,111,100,117,99,116]⟩:ByteArray).data.toList=L1 from hL1.out]at hr1;have K1:=mk3 hy hb1 hr1;go_wp2_with fail
 refine((hS y L1 s1 w1 K1.2.2).1).mono ?_;rintro e w2 ⟨rfl,hO2,hr2⟩;rw[show SP.jY L1 (⟨#[108,97,98,101,108]⟩:ByteArray).data.toList label.data.toList=L2 from hL2.out]at hr2;have K2:=mk3 K1.1 (K1.2.1.trans (pO hO2 K1.2.1.size K1.1)) hr2;go_wp2_with fail
 refine((hS y L2 s2 w2 K2.2.2).2).mono ?_;rintro e w3 ⟨rfl,hO3,hr3⟩;rw[show SP.jY L2 (⟨#[112,111,105,110,116]⟩:ByteArray).data.toList point.data.toList=L3 from hL3.out]at hr3;have K3:=mk3 K2.1 (K2.2.1.trans (pO hO3 K2.2.1.size K2.1)) hr3;go_wp2_with fail
 go_ret;exact⟨_,rfl,K3.2.1,y,rfl,K3.1,K3.2.2⟩
theorem Oy(n:Int):Gives 15 #[iZ n] (.bool (hvT n).2):=by
 intro w;obtain⟨v,hv⟩:=hE (ZN (hvT n).2);rw[hv.out];go_enter Tryz.func15,Tryz.ntmps15;go_wp2;go_loopg [3] 7 (λm s3 W=>W=w/\∃i:Nat,i+m=7/\s3=iZ ((2^i:Nat):Int)/\Hid (∀j,j<i->¬n=((2^j:Nat):Int)))
 case atStart=>exact⟨rfl,0,rfl,rfl,λj hj=>absurd hj (UI _)⟩
 case round =>
  obtain⟨rfl,i,hi,rfl,hne⟩:=hrel;have hc:i=7\/i=0\/i=1\/i=2\/i=3\/i=4\/i=5\/i=6:=oM;rcases hc with rfl|hc
  ·have e:Hid (ZN false=v):=by
    show _=_;have h:=λj hj=>hne.out j hj
    have h0:=h 0 dC;have h1:=h 1 dC;have h2:=h 2 dC;have h3:=h 3 dC;have h4:=h 4 dC;have h5:=h 5 dC;have h6:=h 6 dC;simp only[Wh,Xo,XQ]at h0 h1 h2 h3 h4 h5 h6;rw[<-hv.out];simp[hvT,h0,h1,h2,h3,h4,h5,h6]
   go_wp2;go_ret;exact⟨_,rfl,SE _ _,e.out⟩
  ·have hs:i<7:=oM;by_cases hn:n=((2^i:Nat):Int)
   ·rcases hc with rfl|rfl|rfl|rfl|rfl|rfl|rfl
    all_goals
     simp only[Wh]at hn;subst hn;go_wp2;go_ret;exact⟨_,rfl,SE _ _,hv.out⟩
   ·have hne2:Hid (∀j,j<i+1->¬n=((2^j:Nat):Int)):=λj hj=>by
     by_cases hji:j=i
     ·rw[hji];exact hn
     ·exact hne.out j oM
    rcases hc with rfl|rfl|rfl|rfl|rfl|rfl|rfl
    all_goals
     simp only[Wh,Xo,XQ]at hn;go_wp2;go_roundg (gk-1)
     case measure=>omega
     case rel=>refine⟨rfl,_,?_,?_,hne2⟩<;>first|omega|rfl
end
section
open Go.RowKit Go.Sort Go.Deep
variable {P:Nat}[NeZero P]{N:Nat}
abbrev pz(n:Nat):RG.It:=⟨some n,[],.v undef,.pass⟩
theorem Kt(C:Fl3 P)(x1 y1 z1 x2 y2 z2:Fin P){v1 v2 dx dy:Bool}(h1:Gives 92 #[rv x1 y1 z1] (.bool v1))(h2:Gives 92 #[rv x2 y2 z2] (.bool v2))(hx:∀w,(binOp .eql 63 (fv (x1*z2)) (fv (x2*z1))).run prog w=.ok (.bool dx) w)(hy:∀w,(binOp .eql 63 (fv (y1*z2)) (fv (y2*z1))).run prog w=.ok (.bool dy) w):Gives 54 #[rv x1 y1 z1,rv x2 y2 z2] (.bool (if v1 || v2 then v1 && v2 else dx && dy)):=by
 intro w;go_enter Tryz.func54,Tryz.ntmps54;refine RG.M.enter [(0,.v (rv x1 y1 z1)),(1,.v (rv x2 y2 z2))] 47 kR ?_;intro a0 M0;repeat refine wp_seq ?_
 refine M0.T [.m 0,.m 1,.x (.bool false)] [(0,ws x1++(ws y1++ws z1)),(1,ws x2++(ws y2++ws z2))] [] [ws x1++(ws y1++ws z1),ws x2++(ws y2++ws z2)] [2,3,4] ⟨RG.mk 0 65,RG.mk 1 65,RG.st,trivial⟩ ?_;intro j1 i1 a1 w1 M1;repeat refine wp_seq ?_
 refine M1.U [.x (rv x1 y1 z1),.c (.bool v1),.x (.bool v1)] [2,3,4,5] ⟨RG.ld u56 i56,RG.cl h1,RG.st,trivial⟩ ?_;intro a2 w2 M2;repeat refine wp_seq ?_
 refine M2.U [.x (rv x2 y2 z2),.c (.bool v2),.x (.bool v2)] [2,3,4,5,6] ⟨RG.ld u56 i56,RG.cl h2,RG.st,trivial⟩ ?_;intro a3 w3 M3;repeat refine wp_seq ?_
 cases v1 with
 | true =>
  refine M3.u [.x 11 [] (.bool true),.x 12 [(11,0)] (.bool true),pz 13,.x 14 [(12,1),(13,2)] (.bool true)] [(5,.v (.bool true)),(6,.v (.bool v2)),(14,.v (.bool true))] ⟨RG.st,RG.st,RG.aM rfl rfl,RG.st,trivial⟩ ?_;intro a4 w4 M4;repeat refine wp_seq ?_
  refine wp_cond_true M4.ev ?_;repeat refine wp_seq ?_
  refine M4.U [.x (.bool true),.x (.bool true),.x (.bool v2),.x (.bool v2),.x (.bool v2)] [4] ⟨RG.st,RG.st,RG.st,RG.st,RG.st,trivial⟩ ?_;intro a5 w5 M5;refine wp_ret ?_;refine bodyPost_ret (v:=.bool v2) (RG.cK 4 rfl _ (M5.at (s:=.v (.bool v2)))) M5.sl.defers ?_;exact⟨_,rfl,M5.st.bel.below,rfl⟩
 | false =>
  refine M3.U [.x (.bool false),.x (.bool false),.x (.bool v2),.x (.bool v2)] [2,3,5,14] ⟨RG.st,RG.st,RG.st,RG.st,trivial⟩ ?_;intro a4 w4 M4;repeat refine wp_seq ?_
  cases v2 with
  | true =>
   refine wp_cond_true M4.ev ?_;repeat refine wp_seq ?_
   refine M4.u [.x 15 [] (.bool false),.x 16 [(15,0)] (.bool false),pz 17,.x 18 [(16,1),(17,2)] (.bool false),.x 4 [(18,3)] (.bool false)] [(4,.v (.bool false))] ⟨RG.st,RG.st,RG.aM rfl rfl,RG.st,RG.st,trivial⟩ ?_;intro a5 w5 M5;refine wp_ret ?_;refine bodyPost_ret (v:=.bool false) (RG.cK 4 rfl _ (M5.at (s:=.v (.bool false)))) M5.sl.defers ?_;exact⟨_,rfl,M5.st.bel.below,rfl⟩
  | false =>
   refine wp_cond_false M4.ev ?_;refine wp_skip ?_;repeat refine wp_seq ?_
   cases dx with
   | true =>
    refine M4.E [.c rv0,.s (.p 0 0),.x (fv x1),.s (.p 1 8),.x (fv z2),.c (fv (x1*z2)),.c rv0,.s (.p 1 0),.x (fv x2),.s (.p 0 8),.x (fv z1),.c (fv (x2*z1)),.x (.bool true),.x (.bool true),.c rv0,.s (.p 0 4),.x (fv y1),.s (.p 1 8),.x (fv z2),.c (fv (y1*z2)),.c rv0,.s (.p 1 4),.x (fv y2),.s (.p 0 8),.x (fv z1),.c (fv (y2*z1)),.x (.bool dy),.x (.bool dy),.x (.bool dy)] [4] ⟨RG.cl bL,RG.st,RG.ld u33 i33,RG.st,RG.ld u33 i33,RG.cl (aW C x1 z2),RG.cl bL,RG.st,RG.ld u33 i33,RG.st,RG.ld u33 i33,RG.cl (aW C x2 z1),RG.aK rfl .eql 63 63 24 30 (fv (x1*z2)) (fv (x2*z1)) (.bool true) rfl rfl RG.sx RG.sx (λw=>kR) hx,RG.st,RG.cl bL,RG.st,RG.ld u33 i33,RG.st,RG.ld u33 i33,RG.cl (aW C y1 z2),RG.cl bL,RG.st,RG.ld u33 i33,RG.st,RG.ld u33 i33,RG.cl (aW C y2 z1),RG.aK rfl .eql 63 63 38 44 (fv (y1*z2)) (fv (y2*z1)) (.bool dy) rfl rfl RG.sx RG.sx (λw=>kR) hy,RG.st,RG.st,trivial⟩ ?_;intro a5 w5 M5;refine wp_ret ?_;refine bodyPost_ret (v:=.bool dy) (RG.cK 4 rfl _ (M5.at (s:=.v (.bool dy)))) M5.sl.defers ?_;exact⟨_,rfl,M5.st.bel.below,rfl⟩
   | false =>
    refine M4.e [.c 19 [] rv0,.s 20 [] (.p 0 0),.x 21 [(20,1)] (fv x1),.s 22 [] (.p 1 8),.x 23 [(22,3)] (fv z2),.c 24 [(19,0),(21,2),(23,4)] (fv (x1*z2)),.c 25 [] rv0,.s 26 [] (.p 1 0),.x 27 [(26,7)] (fv x2),.s 28 [] (.p 0 8),.x 29 [(28,9)] (fv z1),.c 30 [(25,6),(27,8),(29,10)] (fv (x2*z1)),.x 31 [(24,5),(30,11)] (.bool false),.x 32 [(31,12)] (.bool false),pz 33,pz 34,pz 35,pz 36,pz 37,pz 38,pz 39,pz 40,pz 41,pz 42,pz 43,pz 44,pz 45,.x 46 [(32,13),(45,26)] (.bool false),.x 4 [(46,27)] (.bool false)] [(4,.v (.bool false))] ⟨RG.cl bL,RG.st,RG.ld u33 i33,RG.st,RG.ld u33 i33,RG.cl (aW C x1 z2),RG.cl bL,RG.st,RG.ld u33 i33,RG.st,RG.ld u33 i33,RG.cl (aW C x2 z1),RG.aK rfl .eql 63 63 24 30 (fv (x1*z2)) (fv (x2*z1)) (.bool false) rfl rfl RG.sx RG.sx (λw=>kR) hx,RG.st,RG.aM rfl rfl,RG.aM rfl rfl,RG.aM rfl rfl,RG.aM rfl rfl,RG.aM rfl rfl,RG.aM rfl rfl,RG.aM rfl rfl,RG.aM rfl rfl,RG.aM rfl rfl,RG.aM rfl rfl,RG.aM rfl rfl,RG.aM rfl rfl,RG.aM rfl rfl,RG.st,RG.st,trivial⟩ ?_;intro a5 w5 M5;refine wp_ret ?_;refine bodyPost_ret (v:=.bool false) (RG.cK 4 rfl _ (M5.at (s:=.v (.bool false)))) M5.sl.defers ?_;exact⟨_,rfl,M5.st.bel.below,rfl⟩
theorem GU(C:EC.Cur P){a b c d z1 z2 x1 x2 y1 y2:Fin P}(h1:¬z1=0)(h2:¬z2=0)(e1:x1=a*z1)(e2:y1=b*z1)(e3:x2=c*z2)(e4:y2=d*z2)(hx:x1*z2=x2*z1)(hy:y1*z2=y2*z1):a=c/\b=d:=by
 have h3:=EC.bD C.pr h1 h2;subst e1 e2 e3 e4;exact⟨EC.cancel C.pr h3 (by grobner),EC.cancel C.pr h3 (by grobner)⟩
theorem vQ{x y z:Fin P}{q:EC.Pt P}(h:EC.Frac x y z q)(hz:¬z=0):q≠none:=λe=>by
 subst e;exact hz h
theorem Ku(C:Fl3 P){a b:T3 P}{p q:EC.Pt P}(h:FracT a p)(h':FracT b q):Gives 54 #[tv a,tv b] (.bool (decide (p=q))):=by
 obtain⟨x1,y1,z1⟩:=a;obtain⟨x2,y2,z2⟩:=b;have k:=λ{v1 v2:Bool} h1 h2=>@Kt P _ C x1 y1 z1 x2 y2 z2 v1 v2 _ _ h1 h2 (eqR C.toFld _ _) (eqR C.toFld _ _)
 by_cases n1:z1=0
 ·obtain rfl:=h.1.zero n1;by_cases n2:z2=0
  ·obtain rfl:=h'.1.zero n2;rw[decide_eq_true rfl];exact k (sC C x1 y1 z1 n1) (sC C x2 y2 z2 n2)
  ·rw[decide_eq_false (λe=>vQ h'.1 n2 e.symm)];exact k (sC C x1 y1 z1 n1) (sD C x2 y2 z2 n2)
 ·by_cases n2:z2=0
  ·obtain rfl:=h'.1.zero n2;rw[decide_eq_false (λe=>vQ h.1 n1 e)];exact k (sD C x1 y1 z1 n1) (sC C x2 y2 z2 n2)
  ·have k:=k (sD C x1 y1 z1 n1) (sD C x2 y2 z2 n2);match p,q,h.1,h'.1 with
   | none,_,k,_=>exact absurd k n1
   | some (a,b),none,_,k=>exact absurd k n2
   | some (a,b),some (c,d),⟨_,e1,e2⟩,⟨_,e3,e4⟩ =>
    have e1:x1=a*z1:=e1;have e2:y1=b*z1:=e2;have e3:x2=c*z2:=e3;have e4:y2=d*z2:=e4;have hd:decide ((some (a,b):EC.Pt P)=some (c,d))=(decide (x1*z2=x2*z1) && decide (y1*z2=y2*z1)):=by
     rw[<-Bool.decide_and,decide_eq_decide];refine⟨λe=>?_,λe=>?_⟩
     ·injection e with e
      injection e with ea eb
      subst ea eb;rw[e1,e2,e3,e4];exact⟨by grobner,by grobner⟩
     ·obtain⟨r1,r2⟩:=GU C.cur n1 n2 e1 e2 e3 e4 e.1 e.2;rw[r1,r2]
    rw[hd];exact k
end
section
open Go.RowKit Go.Sort Go.Deep SPA
variable {P:Nat}[NeZero P]{N:Nat}[NeZero N]
theorem JJ(C:Fld P)(hord:∀r:EC.Pt P,EC.On r->EC.mul N r=none)(t:Nat)(L T:Nat->OnP P)(v:Md.Vs Bs (OnP P))(i m:Nat)(hm:m=2^(t-(i+1)))(s:Bs)(c:Fin N)(hc:chF N ((aL C hord).vst (chF N) ivF t L T v i).s (L i) (T i)=(s,c)):
 (aL C hord).vst (chF N) ivF t L T v (i+1)=⟨s,(aL C hord).ad ((aL C hord).vst (chF N) ivF t L T v i).p ((aL C hord).ad ((aL C hord).ac (c*c) (L i)) ((aL C hord).ac (ivF c*ivF c) (T i))),(aL C hord).fP (ivF c) c m ((aL C hord).vst (chF N) ivF t L T v i).g,(aL C hord).fP c (ivF c) m ((aL C hord).vst (chF N) ivF t L T v i).h⟩:=by
 rw[Md.GG,hm];show(aL C hord).Aw (chF N) ivF (2^(t-(i+1))) (L i) (T i) ((aL C hord).vst (chF N) ivF t L T v i)=_;unfold Md.Aw;rw[hc]
theorem vS(C:Fl3 P)(hord:∀r:EC.Pt P,EC.On r->EC.mul N r=none)(hN:N<=top)(n:Fin N){t:T3 P}{X:OnP P}(h:FracT t X.1):Gives 51 #[nv n.val,tv t] (tv (tmF n.val t 256))/\FracT (tmF n.val t 256) ((aL C.toFld hord).ac n X).1:=by
 have hn:=Si n.isLt hN;refine⟨uM C n.val hn t h,?_⟩;have:=Ay C (n:=n.val) (by unfold top at hn;omega) h 256 (Se _);rw[WP,UV,Nat.div_one]at this;exact this
theorem Bt(C:Fl3 P)(hord:∀r:EC.Pt P,EC.On r->EC.mul N r=none){t t':T3 P}{X Y:OnP P}(h:FracT t X.1)(h':FracT t' Y.1):Gives 50 #[tv t,tv t'] (tv (plF t t'))/\FracT (plF t t') ((aL C.toFld hord).ad X Y).1:=FracT.plus C h h'
theorem GQ(b o n c k:Nat)(hk:k<=c)(w:World):(VN 71 (.slice (some ⟨b,o,none⟩) n c) none (some (iZ k)) none).run prog w=.ok (.slice (some ⟨b,o,none⟩) k c) w:=by
 go_simp
theorem GP(b o n c k:Nat)(hk:k<n)(hc:n<=c)(w:World):(VN 71 (.slice (some ⟨b,o,none⟩) n c) (some (iZ k)) none none).run prog w=.ok (.slice (some ⟨b,o+12*k,none⟩) (n-k) (c-k)) w:=by
 have h1:¬(k:Int)<0:=oM;have h2:(k:Int)<=(n:Int):=oM;have h3:¬c=k:=oM;have e:=QC b o (12*k);go_simp
omit [NeZero P] in
theorem ME(t:T3 P)(w:World):(TF 65 (tv t)).run prog w=.ok (.pointer (some ⟨w.heap.size,0,none⟩)) (w.alloc (.cells (tw t).toArray 65)):=kR
def RArg(w:World)(q:Option Addr)(n:Nat)(L:Nat->Bs):Prop:=0<n->∃gg o,q=some ⟨gg,o,none⟩/\gg<w.heap.size/\∀j,j<n->∃v,w.cell? ⟨gg,o+j,none⟩=some v/\Pt w v (L j)
omit [NeZero P] in
theorem RArg.at{w W:World}{q:Option Addr}{n c i:Nat}{L:Nat->Bs}(h:RArg w q n L)(hi:i<n)(hb:Below w.heap.size w W):∃gg o v,q=some ⟨gg,o,none⟩/\W.cell? ⟨gg,o+i,none⟩=some v/\(convert 23 9 v).run prog W=.ok (.string ⟨L i⟩) W/\(To 22 (.slice q n c) (iZ i)).run prog W=.ok (.pointer (some ⟨gg,o+i,none⟩)) W:=by
 obtain⟨gg,o,rfl,h1,h2⟩:=h oM;obtain⟨v,h3,h4⟩:=h2 i hi;exact⟨gg,o,v,rfl,by rw[hb.cell (p:=⟨gg,o+i,none⟩) h1];exact h3,(h4.below hb).conv,by have:=atB gg o n c i hi W;rwa[Nat.one_mul]at this⟩
omit [NeZero P] in
theorem PtQ.low{Q:Nat->Prop}{W:World}{g o m c:Nat}{t:Nat->T3 P}(h:PtQ Q W (.slice (some ⟨g,o,none⟩) (m+m) c) (m+m) t):PtQ Q W (.slice (some ⟨g,o,none⟩) m c) m t:=by
 obtain⟨g',o',c',e,h1,h2,h3,h4⟩:=h;injection e with e1 e2 e3
 injection e1 with e1
 injection e1 with e4 e5
 subst e3 e4 e5;exact⟨g,o,c,rfl,oM,h2,h3,λj hj=>h4 j oM⟩
omit [NeZero P] in
theorem PtQ.high{Q:Nat->Prop}{W:World}{g o m c:Nat}{t:Nat->T3 P}(h:PtQ Q W (.slice (some ⟨g,o,none⟩) (m+m) c) (m+m) t):PtQ Q W (.slice (some ⟨g,o+12*m,none⟩) m (c-m)) m (λj=>t (m+j)):=by
 obtain⟨g',o',c',e,h1,h2,h3,h4⟩:=h;injection e with e1 e2 e3
 injection e1 with e1
 injection e1 with e4 e5
 subst e3 e4 e5;refine⟨g,o+12*m,c-m,rfl,oM,h2,h3,λj hj=>?_⟩;have:=h4 (m+j) oM;rw[show o+12*(m+j)=o+12*m+12*j by omega]at this;exact this
structure Lr(w0 W:World)(y k kq ka kb:Nat)(vI:List Value)(a b:Nat)(L:Bs)(tp tu:T3 P)(m:Nat)(v3 v4:Value)(tg th:Nat->T3 P):Prop where
 bl:Below w0.heap.size w0 W
 y0:w0.heap.size<=y
 yk:y<k
 qk:k+2<kq
 ak:k+2<ka
 bk:k+2<kb
 rp:Row W k (tw tp)
 ru:Row W (k+1) (tw tu)
 rI:Row W (k+2) vI
 rq:Row W kq rl1
 ra:Row W ka (wn a)
 rb:Row W kb (wn b)
 g:PtQ (λg=>g≠y/\g≠k) W v3 m tg
 h:PtQ (λg=>g≠y/\g≠k) W v4 m th
 lg:SP.RLog W y L
variable {w0 W W':World}{y k kq ka kb a b m:Nat}{vI:List Value}{L L':Bs}{tp tu:T3 P}{v3 v4:Value}{tg th:Nat->T3 P}
omit [NeZero P] in
theorem Lr.grow(h:Lr w0 W y k kq ka kb vI a b L tp tu m v3 v4 tg th)(hb:Below W.heap.size W W'):Lr w0 W' y k kq ka kb vI a b L tp tu m v3 v4 tg th:=
 ⟨h.bl.trans (hb.mono h.bl.size),h.y0,h.yk,h.qk,h.ak,h.bk,h.rp.below hb,h.ru.below hb,h.rI.below hb,h.rq.below hb,h.ra.below hb,h.rb.below hb,h.g.keep (Kq.of_below hb),h.h.keep (Kq.of_below hb),h.lg.below hb⟩
omit [NeZero P] in
theorem Lr.say(h:Lr w0 W y k kq ka kb vI a b L tp tu m v3 v4 tg th)(hO:SP.Only y 0 1 W W')(hl:SP.RLog W' y L'):Lr w0 W' y k kq ka kb vI a b L' tp tu m v3 v4 tg th:=by
 have h1:=h.yk;have h2:=h.qk;have h3:=h.ak;have h4:=h.bk;exact⟨h.bl.trans (pO hO h.bl.size h.y0),h.y0,h.yk,h.qk,h.ak,h.bk,h.rp.only hO oM,h.ru.only hO oM,h.rI.only hO oM,h.rq.only hO oM,h.ra.only hO oM,h.rb.only hO oM,h.g.keep (Kq.of_only hO λg hg=>hg.1),h.h.keep (Kq.of_only hO λg hg=>hg.1),hl⟩
omit [NeZero P] in
theorem Lr.lists{m':Nat}{v3' v4':Value}{tg' th':Nat->T3 P}(h:Lr w0 W y k kq ka kb vI a b L tp tu m v3 v4 tg th)(hg:PtQ (λg=>g≠y/\g≠k) W v3' m' tg')(hh:PtQ (λg=>g≠y/\g≠k) W v4' m' th'):Lr w0 W y k kq ka kb vI a b L tp tu m' v3' v4' tg' th':=
 ⟨h.bl,h.y0,h.yk,h.qk,h.ak,h.bk,h.rp,h.ru,h.rI,h.rq,h.ra,h.rb,hg,hh,h.lg⟩
omit [NeZero P] in
theorem Lr.setp{tp':T3 P}(h:Lr w0 W y k kq ka kb vI a b L tp tu m v3 v4 tg th)(hw:w0.heap.size<=k):Lr w0 (W.setCells k 0 (tw tp')) y k kq ka kb vI a b L tp' tu m v3 v4 tg th:=by
 have h1:=h.yk;have h2:=h.qk;have h3:=h.ak;have h4:=h.bk;have hq:Kq (λg=>g≠y/\g≠k) W (W.setCells k 0 (tw tp')):=⟨by rw[RG.setCells_size];exact Se _,λg hg _=>RG.aS k _ 0 W g hg.2⟩
 exact⟨RG.below_setCells hw _ _ _ h.bl,h.y0,h.yk,h.qk,h.ak,h.bk,h.rp.put rfl,h.ru.other oM,h.rI.other oM,h.rq.other oM,h.ra.other oM,h.rb.other oM,h.g.keep hq,h.h.keep hq,oW h.lg oM⟩
namespace RG
variable {P:Program}{ops:Array Oper}{Q:Exit->Act->World->Prop}{w:World}{a0:Act}{G:Gw}{k:Nat}{o:Oper}
theorem My(j:Nat)(t:Tmp)(j':Nat)(t':Tmp)(j'':Nat)(t'':Tmp)(i:Nat)(s:Tmp)(f:FuncId)(args:Value->Value->Value->Value->Array Value)(hc:∀x y z u W,G.R j x W->G.R j' y W->G.R j'' z W->G.R i u W->G.B W->Calls P f (args x y z u) W (rZ W λe W'=>G.R k e W'))(hd:((bU o j,bC ops j),(bU o j',bC ops j'),(bU o j'',bC ops j''),(bU o i,bC ops i))=((true,some t),(true,some t'),(true,some t''),(true,some s)):=by kernel_rfl)(hs:∀x y z u W,(dW [t,t',t'',s] o,(execOp (evo (evl [(t,x),(t',y),(t'',z),(s,u)])) o).run P W)=(true,.ok (.enter f (args x y z u)) W):=by intro _ _ _ _ _;kernel_rfl):bQ P Q G.flow ops a0 k o:=
 jN λa W hp=>⟨[(t,a.eval (.tmp t)),(t',a.eval (.tmp t')),(t'',a.eval (.tmp t'')),(s,a.eval (.tmp s))],f,_,⟨rfl,rfl,rfl,rfl,trivial⟩,hs _ _ _ _ W,hc _ _ _ _ W (hp.n j t (congrArg (·.1.1) hd) (congrArg (·.1.2) hd)) (hp.n j' t' (congrArg (·.2.1.1) hd) (congrArg (·.2.1.2) hd)) (hp.n j'' t'' (congrArg (·.2.2.1.1) hd) (congrArg (·.2.2.1.2) hd)) (hp.n i s (congrArg (·.2.2.2.1) hd) (congrArg (·.2.2.2.2) hd)) hp.b⟩
def pT{P:Nat}(Q:Nat->Prop)(n:Nat)(t:Nat->T3 P):S1:=⟨λv w=>PtQ Q w v n t,λ_ _ _ hb h=>h.keep (Kq.of_below hb)⟩
end RG
end
section
open Go.RowKit Go.Sort Go.Deep SPA
variable {P:Nat}[NeZero P]{N:Nat}[NeZero N]
theorem iFr:(prog.info? 97).map (·.size)=some rl1.toArray.size:=kR
theorem Kh:rl1.toArray.all (·.oneCell')=true:=kR
omit [NeZero P] in
theorem Hv{Q:Nat->Prop}{W:World}{g o n c j:Nat}{t:Nat->T3 P}(h:PtQ Q W (.slice (some ⟨g,o,none⟩) n c) n t)(hj:j<n):W.rangeAt g (o+12*j) (tw (t j)):=by
 obtain⟨g',o',c',e,-,-,-,h4⟩:=h;injection e with e1 e2 e3
 injection e1 with e1
 injection e1 with e4 e5
 subst e3 e4 e5;exact h4 j hj
theorem Ip(C:Fl3 P)(O:Ord N)(hord:∀r:EC.Pt P,EC.On r->EC.mul N r=none)(T:Nat)(hT:T<=6)(v0:Md.Vs Bs (OnP P))(u:OnP P)(tp tu:T3 P)(tg th:Nat->T3 P)(hp:FracT tp v0.p.1)(hu:FracT tu u.1)(hg:∀j,j<2^T->FracT (tg j) (v0.g j).1)(hh:∀j,j<2^T->FracT (th j) (v0.h j).1)(hs:v0.s.size=32)
 {nL nR x1 x2:Nat}{q1 q2:Option Addr}{vA vB:Value}{A B:Bs}{Lb Rb:Nat->Bs}(w0 w:World) (y:Nat) (hb:Below w0.heap.size w0 w) (hy:w0.heap.size<=y) (hl:SP.RLog w y v0.s) (v3 v4:Value) (h3:PtQ (·≠y) w v3 (2^T) tg) (h4:PtQ (·≠y) w v4 (2^T) th)
 (hL:RArg w0 q1 nL Lb) (hR:RArg w0 q2 nR Rb) (hA:Pt w0 vA A) (hB:Pt w0 vB B) (hsz:∀j,(j<nL->(Lb j).size<=16384)/\(j<nR->(Rb j).size<=16384)) (Bd:Bool) (hBd:Bd=true↔okI P N T nL nR Lb Rb A B/\(aL C.toFld hord).JK u (rdN N A) (rdN N B) ((aL C.toFld hord).vst (chF N) ivF T (λj=>rdO C.toFld (Lb j)) (λj=>rdO C.toFld (Rb j)) v0 T)) :
 Calls prog 17 #[pZ y,iZ ((2^T:Nat):Int),tv tp,v3,v4,tv tu,.agg #[.slice q1 nL x1,.slice q2 nR x2,vA,vB]] w (rZ w0 λe w'=>e=.bool Bd):=by
 have hyw:=hl.lt;obtain⟨k,hk⟩:∃k,Hid (w.heap.size=k):=⟨_,rfl⟩
 obtain⟨vI,hvI⟩:∃v,Hid (SX #[.slice q1 nL x1,.slice q2 nR x2,vA,vB]=v):=⟨_,rfl⟩
 obtain⟨w1,hw1⟩:∃W,Hid (w.alloc (.cells (tw tp).toArray 65)=W):=⟨_,rfl⟩
 obtain⟨w2,hw2⟩:∃W,Hid (w1.alloc (.cells (tw tu).toArray 65)=W):=⟨_,rfl⟩
 obtain⟨w3,hw3⟩:∃W,Hid (w2.alloc (.cells #[.slice q1 nL x1,.slice q2 nR x2,vA,vB] 25)=W):=⟨_,rfl⟩
 have z1:w1.heap.size=k+1:=by rw[<-hw1.out,Sq,hk.out]
 have z2:w2.heap.size=k+2:=by rw[<-hw2.out,Sq,z1]
 have z3:w3.heap.size=k+3:=by rw[<-hw3.out,Sq,z2]
 have b1:Below w.heap.size w w1:=by rw[<-hw1.out];exact aB _ _
 have b2:Below w1.heap.size w1 w2:=by rw[<-hw2.out];exact aB _ _
 have b3:Below w2.heap.size w2 w3:=by rw[<-hw3.out];exact aB _ _
 have b03:Below w.heap.size w w3:=(b1.trans (b2.mono b1.size)).trans (b3.mono (SD b1.size b2.size));have r1:Row w1 k (tw tp):=by rw[<-hw1.out,<-hk.out];exact aD w _ _
 have r2:Row w2 (k+1) (tw tu):=by rw[<-hw2.out,<-z1];exact aD w1 _ _
 have r3:Row w3 (k+2) [.slice q1 nL x1,.slice q2 nR x2,vA,vB]:=by rw[<-hw3.out,<-z2];exact aD w2 _ _
 have B1:Hid ((TF 65 (tv tp)).run prog w=.ok (pZ k) w1):=by rw[<-hw1.out,<-hk.out];exact ME tp w
 have B2:Hid ((TF 65 (tv tu)).run prog w1=.ok (.pointer (some ⟨k+1,0,none⟩)) w2):=by rw[<-hw2.out,<-z1];exact ME tu w1
 have B3:Hid ((TF 25 vI).run prog w2=.ok (.pointer (some ⟨k+2,0,none⟩)) w3):=by
  rw[<-hvI.out,<-hw3.out,<-z2];obtain⟨qa,ca,rfl,-⟩:=hA;obtain⟨qb,cb,rfl,-⟩:=hB;exact boxJ _ _ _ _ _ _ _ _ _ _ _ _ w2
 have wb:Below w0.heap.size w0 w3:=hb.trans (b03.mono hb.size);have K3:Hid (Below w0.heap.size w0 w3/\Row w3 k (tw tp)/\Row w3 (k+1) (tw tu)/\Row w3 (k+2) [.slice q1 nL x1,.slice q2 nR x2,vA,vB]/\PtQ (λg=>g≠y/\g≠k) w3 v3 (2^T) tg/\PtQ (λg=>g≠y/\g≠k) w3 v4 (2^T) th/\SP.RLog w3 y v0.s/\w3.heap.size=k+3):=⟨wb,(r1.below b2).below b3,r2.below b3,r3,(h3.mono λg hg h=>⟨h,by rw[<-hk.out];exact TJ hg⟩).keep (Kq.of_below b03),(h4.mono λg hg h=>⟨h,by rw[<-hk.out];exact TJ hg⟩).keep (Kq.of_below b03),hl.below b03,z3⟩
 have HY:Hid (w0.heap.size<=y/\y<k/\w0.heap.size<=k):=⟨hy,by rw[<-hk.out];exact hyw,by rw[<-hk.out];exact hb.size⟩
 have HRow:=Hid.mk' (Tj hL (Tj hR hsz));have HAB:=Hid.mk' (Tj hA hB);have HF:=Hid.mk' (Tj C (Tj O (Tj hT (Tj hu hs))));have HFr:Hid (FracT tp v0.p.1/\(∀j,j<2^T->FracT (tg j) (v0.g j).1)/\(∀j,j<2^T->FracT (th j) (v0.h j).1)):=⟨hp,hg,hh⟩
 obtain⟨V,hV⟩:∃V:Nat->Md.Vs Bs (OnP P),V=λi=>(aL C.toFld hord).vst (chF N) ivF T (λj=>rdO C.toFld (Lb j)) (λj=>rdO C.toFld (Rb j)) v0 i:=⟨_,rfl⟩
 have HV:Hid (V 0=v0/\∀i m s c,m=2^(T-(i+1))->chF N (V i).s (rdO C.toFld (Lb i)) (rdO C.toFld (Rb i))=(s,c)->V (i+1)=⟨s,(aL C.toFld hord).ad (V i).p ((aL C.toFld hord).ad ((aL C.toFld hord).ac (c*c) (rdO C.toFld (Lb i))) ((aL C.toFld hord).ac (ivF c*ivF c) (rdO C.toFld (Rb i)))),(aL C.toFld hord).fP (ivF c) c m (V i).g,(aL C.toFld hord).fP c (ivF c) m (V i).h⟩):=by
  rw[hV];exact⟨rfl,λi m s c hm hc=>JJ C.toFld hord T _ _ v0 i m hm s c hc⟩
 have hBd:Bd=true↔okI P N T nL nR Lb Rb A B/\(aL C.toFld hord).JK u (rdN N A) (rdN N B) (V T):=by rw[hV];exact hBd
 clear hV;have HBd:=Hid.mk' hBd;obtain⟨a,hae⟩:∃a,Hid (nuV A=a):=⟨_,rfl⟩
 obtain⟨b,hbe⟩:∃b,Hid (nuV B=b):=⟨_,rfl⟩
 obtain⟨oa,hoa⟩:∃o,Hid ((rq N A).isSome=o):=⟨_,rfl⟩
 obtain⟨ob,hob⟩:∃o,Hid ((rq N B).isSome=o):=⟨_,rfl⟩
 have cA:Hid (Gives 46 #[.string ⟨A⟩] (.tuple #[nv a,.bool oa])):=by rw[<-hae.out,<-hoa.out];exact D7 O ⟨A⟩
 have cB:Hid (Gives 46 #[.string ⟨B⟩] (.tuple #[nv b,.bool ob])):=by rw[<-hbe.out,<-hob.out];exact D7 O ⟨B⟩
 obtain⟨vp,hvp⟩:∃v,Hid (tv tp=v):=⟨_,rfl⟩
 obtain⟨vu,hvu⟩:∃v,Hid (tv tu=v):=⟨_,rfl⟩
 rw[hvp.out]at B1;rw[hvu.out]at B2;obtain⟨n,hn⟩:∃n:Nat,Hid (2^T=n):=⟨_,rfl⟩
 have hn64:Hid (n<=64):=by rw[<-hn.out];exact SD (TT dC hT) dC
 rw[hvI.out,hvp.out,hvu.out,hn.out];clear hT hp hu hg hh hs hb hy hl h3 h4 hL hR hA hB hsz hBd O z1 z2 z3 b1 b2 b3 b03 r1 r2 r3 wb hw1 hw2 hw3 hyw;go_enter Tryz.func17,Tryz.ntmps17;go_wp2_with (first|(refine aI (u:=vp) (v:=pZ k) (w':=w1) rfl 65 (.tmp 2) rfl ?_ ?_ ?_;rfl;exact B1.out)|(refine aI (u:=vu) (v:=.pointer (some ⟨k+1,0,none⟩)) (w':=w2) rfl 65 (.tmp 5) rfl ?_ ?_ ?_;rfl;exact B2.out)|(refine aI (u:=vI) (v:=.pointer (some ⟨k+2,0,none⟩)) (w':=w3) rfl 25 (.tmp 6) rfl ?_ ?_ ?_;rfl;exact B3.out)|fail)
 refine(O4 w3).mono ?_;rintro e w4 ⟨uu,rfl,hb4,rfl⟩;obtain⟨kq,hkq⟩:∃g,Hid (w4.heap.size=g):=⟨_,rfl⟩
 obtain⟨w5,hw5⟩:∃W,Hid (w4.alloc (.cells (RG.z 8).toArray 97)=W):=⟨_,rfl⟩
 obtain⟨w6,hw6⟩:∃W,Hid (w5.setCells kq 0 rl1=W):=⟨_,rfl⟩
 have F5:Hid (Row w5 kq (RG.z 8)/\Below w4.heap.size w4 w5):=by rw[<-hw5.out,<-hkq.out];exact⟨aD w4 _ _,aB _ _⟩
 have b36:Below w3.heap.size w3 w6:=hb4.trans (Yw (by rw[<-hw6.out];exact RG.below_setCells (by rw[hkq.out];exact Se _) _ _ _ F5.out.2) hb4.size);have K6:Hid (Below w3.heap.size w3 w6/\Row w6 kq rl1/\k+2<kq):=⟨b36,by rw[<-hw6.out];exact F5.out.1.put rfl,by have:=hb4.size;have:=hkq.out;have:=K3.out.2.2.2.2.2.2.2;omega⟩
 have c2':w6.cell? ⟨k+2,2,none⟩=some vA:=(K3.out.2.2.2.1.below b36).2.1 2 _ rfl;have cv2:(convert 23 9 vA).run prog w6=.ok (.string ⟨A⟩) w6:=(HAB.out.1.below (K3.out.1.trans (b36.mono K3.out.1.size))).conv;obtain⟨vq,hvq⟩:∃v,Hid (rv1=v):=⟨_,rfl⟩
 rw[hvq.out];clear hb4 b36 B1 B2 B3;go_wp2_with (first|(refine bB (v:=pZ kq) (w':=w5) rfl 97 15 rfl rfl ?_ ?_;(rw[<-hw5.out,<-hkq.out];kernel_rfl))|(refine wpList_store_mid rfl 97 (.tmp 15) _ rfl kq 0 rl1.toArray ?_ ?_ ?_ ?_ ?_ ?_;rfl;exact hvq.out.symm;exact F5.out.1.2.2;exact iFr;exact Kh;rw[show rl1.toArray.toList=rl1 from rfl,hw6.out])|fail)
 refine(cA.out w6).mono ?_;rintro e w7 ⟨uu,rfl,hb7,rfl⟩;obtain⟨ka,hka⟩:∃g,Hid (w7.heap.size=g):=⟨_,rfl⟩
 obtain⟨w8,hw8⟩:∃W,Hid (w7.alloc (.cells #[uZ 0,uZ 0,uZ 0,uZ 0] 63)=W):=⟨_,rfl⟩
 obtain⟨w9,hw9⟩:∃W,Hid (w8.setCells ka 0 (wn a)=W):=⟨_,rfl⟩
 have F8:Hid (Row w8 ka [uZ 0,uZ 0,uZ 0,uZ 0]/\Below w7.heap.size w7 w8):=by rw[<-hw8.out,<-hka.out];exact⟨aD w7 _ _,aB _ _⟩
 have b69:Below w6.heap.size w6 w9:=hb7.trans (Yw (by rw[<-hw9.out];exact RG.below_setCells (by rw[hka.out];exact Se _) _ _ _ F8.out.2) hb7.size);have K9:Hid (Below w3.heap.size w3 w9/\Row w9 kq rl1/\k+2<kq/\Row w9 ka (wn a)/\k+2<ka):=⟨K6.out.1.trans (b69.mono K6.out.1.size),K6.out.2.1.below b69,K6.out.2.2,by rw[<-hw9.out];exact F8.out.1.put rfl,by have:=hb7.size;have:=K6.out.1.size;have:=hka.out;have:=K3.out.2.2.2.2.2.2.2;omega⟩
 have c3':w9.cell? ⟨k+2,3,none⟩=some vB:=(K3.out.2.2.2.1.below K9.out.1).2.1 3 _ rfl;have cv3:(convert 23 9 vB).run prog w9=.ok (.string ⟨B⟩) w9:=(HAB.out.2.below (K3.out.1.trans (K9.out.1.mono K3.out.1.size))).conv;obtain⟨va,hva⟩:∃v,Hid (nv a=v):=⟨_,rfl⟩
 rw[hva.out];clear hb7 b69 K6 c2' cv2 F5 hw5 hw6;go_wp2_with (first|(refine bB (v:=pZ ka) (w':=w8) rfl 63 16 rfl rfl ?_ ?_;(rw[<-hw8.out,<-hka.out];kernel_rfl))|(refine wpList_store_mid rfl 63 (.tmp 16) _ rfl ka 0 (wn a).toArray ?_ ?_ ?_ ?_ ?_ ?_;rfl;exact hva.out.symm;exact F8.out.1.2.2;exact i33;exact dE a;rw[show(wn a).toArray.toList=wn a from rfl,hw9.out])|fail)
 refine(cB.out w9).mono ?_;rintro e wa ⟨uu,rfl,hba,rfl⟩;obtain⟨kb,hkb⟩:∃g,Hid (wa.heap.size=g):=⟨_,rfl⟩
 obtain⟨wb,hwb⟩:∃W,Hid (wa.alloc (.cells #[uZ 0,uZ 0,uZ 0,uZ 0] 63)=W):=⟨_,rfl⟩
 obtain⟨wc,hwc⟩:∃W,Hid (wb.setCells kb 0 (wn b)=W):=⟨_,rfl⟩
 have Fb:Hid (Row wb kb [uZ 0,uZ 0,uZ 0,uZ 0]/\Below wa.heap.size wa wb):=by rw[<-hwb.out,<-hkb.out];exact⟨aD wa _ _,aB _ _⟩
 have b9c:Below w9.heap.size w9 wc:=hba.trans (Yw (by rw[<-hwc.out];exact RG.below_setCells (by rw[hkb.out];exact Se _) _ _ _ Fb.out.2) hba.size);have b3c:=K9.out.1.trans (b9c.mono K9.out.1.size);have KC:Hid (Lr w0 wc y k kq ka kb [.slice q1 nL x1,.slice q2 nR x2,vA,vB] a b v0.s tp tu (2^T) v3 v4 tg th):=⟨K3.out.1.trans (b3c.mono K3.out.1.size),HY.out.1,HY.out.2.1,K9.out.2.2.1,K9.out.2.2.2.2,by have:=hba.size;have:=K9.out.1.size;have:=hkb.out;have:=K3.out.2.2.2.2.2.2.2;omega,K3.out.2.1.below b3c,K3.out.2.2.1.below b3c,K3.out.2.2.2.1.below b3c,K9.out.2.1.below b9c,K9.out.2.2.2.1.below b9c,by rw[<-hwc.out];exact Fb.out.1.put rfl,K3.out.2.2.2.2.1.keep (Kq.of_below b3c),K3.out.2.2.2.2.2.1.keep (Kq.of_below b3c),K3.out.2.2.2.2.2.2.1.below b3c⟩
 obtain⟨vb,hvb⟩:∃v,Hid (nv b=v):=⟨_,rfl⟩
 rw[hvb.out];have HAe:Hid (nuV A=a/\nuV B=b/\(rq N A).isSome=oa/\(rq N B).isSome=ob):=⟨hae.out,hbe.out,hoa.out,hob.out⟩
 clear hba b9c b3c K9 K3 c3' cv3 F8 hw8 hw9 cA cB HAB hka hkq hae hbe hoa hob;go_wp2_with (first|(refine bB (v:=pZ kb) (w':=wb) rfl 63 18 rfl rfl ?_ ?_;(rw[<-hwb.out,<-hkb.out];kernel_rfl))|(refine wpList_store_mid rfl 63 (.tmp 18) _ rfl kb 0 (wn b).toArray ?_ ?_ ?_ ?_ ?_ ?_;rfl;exact hvb.out.symm;exact Fb.out.1.2.2;exact i33;exact dE b;rw[show(wn b).toArray.toList=wn b from rfl,hwc.out])|fail)
 clear Fb hwb hwc hkb;go_loopg [20,21] T (λmm s20 s21 W=>W=wc/\∃r K:Nat,r+mm=T/\s20=iZ r/\s21=iZ K/\Hid (K=2^r))
 case atStart=>exact⟨rfl,0,1,oM,rfl,rfl,rfl⟩
 case round =>
  obtain⟨rfl,r,K,hrT,rfl,rfl,hK⟩:=hrel;by_cases hr:r<T
  ·have hKn:(K:Int)<(n:Int):=by
    have:K<n:=by rw[hK.out,<-hn.out];exact Nat.pow_lt_pow_right dC hr
    omega
   have hK6:(K:Int)<=64:=by have:=hn64.out;omega
   have hr6:(r:Int)<=64:=by have:=HF.out.2.2.1;omega
   have HK2:Hid (2*K=2^(r+1)/\r<T):=⟨by rw[T8,hK.out];omega,hr⟩
   clear hK;go_wp2;go_roundg (gk-1)
   case measure=>have:=HK2.out.2;omega
   case rel=>exact⟨rfl,r+1,2*K,by have:=HK2.out.2;omega,by simp,by simp,HK2.out.1⟩
  ·have hrT2:r=T:=oM;subst hrT2;have hKn:¬(K:Int)<(n:Int):=by
    have:K=n:=by rw[hK.out,hn.out]
    omega
   clear hK;have c0:wr.cell? ⟨k+2,0,none⟩=some (.slice q1 nL x1):=KC.out.rI.2.1 0 _ rfl;have c1:wr.cell? ⟨k+2,1,none⟩=some (.slice q2 nR x2):=KC.out.rI.2.1 1 _ rfl;by_cases hall:oa=true/\ob=true/\(nL:Int)=(r:Int)/\(nR:Int)=(r:Int)
   case neg =>
    have hBf:Bd=false:=by
     cases Bd with
     | false=>rfl
     | true =>
      have h:=(HBd.out.1 rfl).1;exact absurd ⟨by rw[<-HAe.out.2.2.1];exact h.2.2.2.2.1,by rw[<-HAe.out.2.2.2];exact h.2.2.2.2.2,by rw[h.1],by rw[h.2.1]⟩ hall
    have hcs:oa=false\/(oa=true/\ob=false)\/(oa=true/\ob=true/\¬(nL:Int)=(r:Int))\/(oa=true/\ob=true/\(nL:Int)=(r:Int)/\¬(nR:Int)=(r:Int)):=by
     by_cases h1:(nL:Int)=(r:Int)
     ·by_cases h2:(nR:Int)=(r:Int)
      ·revert hall;cases oa<;>cases ob<;>simp[h1,h2]
      ·cases oa<;>cases ob<;>simp[h1,h2]
     ·cases oa<;>cases ob<;>simp[h1]
    clear hall;subst hBf;rcases hcs with rfl|⟨rfl,rfl⟩|⟨rfl,rfl,h1⟩|⟨rfl,rfl,h1,h2⟩
    all_goals
     go_wp2;go_ret;exact⟨_,rfl,KC.out.bl,rfl⟩
   case pos =>
   obtain⟨rfl,rfl,hl1,hl2⟩:=hall;have el:nL=r:=oM;have er:nR=r:=oM;subst el;subst er;clear hl1 hl2;go_wp2_with fail
   clear c0 c1 hKn;have K0:Hid (∃tp tg th,FracT tp (V 0).p.1/\(∀j,j<2^(nR-0)->FracT (tg j) ((V 0).g j).1)/\(∀j,j<2^(nR-0)->FracT (th j) ((V 0).h j).1)/\(V 0).s.size=32/\Lr w0 wr y k kq ka kb [.slice q1 nR x1,.slice q2 nR x2,vA,vB] a b (V 0).s tp tu (2^(nR-0)) v3 v4 tg th/\∀j,j<0->(∃p,rd P (Lb j)=some p)/\∃p,rd P (Rb j)=some p):=by
    show ∃tp tg th,_;rw[HV.out.1,Nat.sub_zero];exact⟨tp,tg,th,HFr.out.1,HFr.out.2.1,HFr.out.2.2,HF.out.2.2.2.2,KC.out,λj hj=>absurd hj (UI _)⟩
   clear KC HFr;go_loopg [3,4,22] nR (λmm s3 s4 s22 W=>∃i:Nat,i+mm=nR/\s22=iZ i/\Hid (∃tp tg th,FracT tp (V i).p.1/\(∀j,j<2^(nR-i)->FracT (tg j) ((V i).g j).1)/\(∀j,j<2^(nR-i)->FracT (th j) ((V i).h j).1)/\(V i).s.size=32/\Lr w0 W y k kq ka kb [.slice q1 nR x1,.slice q2 nR x2,vA,vB] a b (V i).s tp tu (2^(nR-i)) s3 s4 tg th/\∀j,j<i->(∃p,rd P (Lb j)=some p)/\∃p,rd P (Rb j)=some p))
   case atStart=>exact⟨0,oM,rfl,K0⟩
   case round =>
    clear K0;obtain⟨i,hik,rfl,KM⟩:=hrel;by_cases hi:i<nR
    ·have hi':(i:Int)<(nR:Int):=oM;have hi5:(i:Int)<=600:=by have:=HF.out.2.2.1;omega
     have HI:=Hid.mk' hi;obtain⟨tp,tg,th,fp,fg,fh,hss,hLr,hrd⟩:=KM.out;clear KM;obtain⟨m,hm⟩:∃m,m=2^(nR-(i+1)):=⟨_,rfl⟩
     have hn2:2^(nR-i)=m+m:=by rw[hm,show nR-i=nR-(i+1)+1 by omega,T8];omega
     have HM:Hid (2^(nR-(i+1))=m/\0<m/\m+m<=64):=by
      refine⟨hm.symm,by rw[hm];exact Va dC,?_⟩;rw[<-hn2];exact SD (TT dC (SD (Nat.sub_le _ _) HF.out.2.2.1)) dC
     rw[hn2]at fg fh hLr;obtain⟨g3,o3,c3,e3,hc3,-,-⟩:=hLr.g;obtain⟨g4,o4,c4,e4,hc4,-,-⟩:=hLr.h;subst e3;subst e4;obtain⟨Ls,hLs⟩:∃L,(V i).s=L:=⟨_,rfl⟩
     rw[hLs]at hss hLr;have HFi:Hid (FracT tp (V i).p.1/\(∀j,j<m+m->FracT (tg j) ((V i).g j).1)/\(∀j,j<m+m->FracT (th j) ((V i).h j).1)/\(∀j,j<i->(∃p,rd P (Lb j)=some p)/\∃p,rd P (Rb j)=some p)/\(V i).s=Ls/\Ls.size=32/\m+m<=c3/\m+m<=c4):=⟨fp,fg,fh,hrd,hLs,hss,hc3,hc4⟩
     have KL:=Hid.mk' hLr;clear fp fg fh hrd hss hLr hm hn2 hLs hc3 hc4;obtain⟨tL,htL⟩:∃t,Hid (rdT P (Lb i)=t):=⟨_,rfl⟩
     obtain⟨tR,htR⟩:∃t,Hid (rdT P (Rb i)=t):=⟨_,rfl⟩
     obtain⟨oL,hoL⟩:∃o,Hid ((rd P (Lb i)).isSome=o):=⟨_,rfl⟩
     obtain⟨oR,hoR⟩:=hE ((rd P (Rb i)).isSome);have cRL:Hid (Gives 16 #[.string ⟨Lb i⟩] (.tuple #[tv tL,.bool oL])):=by rw[<-htL.out,<-hoL.out];exact zI C (Lb i)
     have cRR:Hid (Gives 16 #[.string ⟨Rb i⟩] (.tuple #[tv tR,.bool oR])):=by rw[<-htR.out,<-hoR.out];exact zI C (Rb i)
     have c0:=KL.out.rI.2.1 0 _ rfl;obtain⟨gl,ol,xl,-,cl,cvl,ixl⟩:=HRow.out.1.at (c:=x1) HI.out KL.out.bl;go_wp2_with fail
     refine(cRL.out wr).mono ?_;rintro e X1 ⟨uu,rfl,hb1,rfl⟩;obtain⟨g23,hg23⟩:=hE (X1.heap.size);obtain⟨X2,hX2⟩:=hE (X1.alloc (.cells zP.toArray 65));obtain⟨X3,hX3⟩:=hE (X2.setCells g23 0 (tw tL));have FX2:Hid (Row X2 g23 zP/\Below X1.heap.size X1 X2):=by rw[<-hX2.out,<-hg23.out];exact⟨aD X1 _ _,aB _ _⟩
     have blX3:Below X1.heap.size X1 X3:=by rw[<-hX3.out];exact RG.below_setCells (by rw[hg23.out];exact Se _) _ _ _ FX2.out.2
     have rwX3:Row X3 g23 (tw tL):=by rw[<-hX3.out];exact FX2.out.1.put rfl
     obtain⟨vtL,hvtL⟩:=hE (tv tL);rw[hvtL.out];have hLr3:=(KL.out.grow hb1).grow blX3;have KL3:Hid (Lr w0 X3 y k kq ka kb [.slice q1 nR x1,.slice q2 nR x2,vA,vB] a b Ls tp tu (m+m) (.slice (some ⟨g3,o3,none⟩) (m+m) c3) (.slice (some ⟨g4,o4,none⟩) (m+m) c4) tg th/\Row X3 g23 (tw tL)/\k+2<g23):=⟨hLr3,rwX3,by have:=(KL.out.grow hb1).rI.1;have:=hg23.out;omega⟩
     have c1:=hLr3.rI.2.1 1 _ rfl;obtain⟨gr,or,xr,-,cr,cvr,ixr⟩:=HRow.out.2.1.at (c:=x2) HI.out hLr3.bl;go_wp2_with (first|(refine bB (v:=pZ g23) (w':=X2) rfl 65 23 rfl rfl ?_ ?_;(rw[<-hX2.out,<-hg23.out];kernel_rfl))|(refine wpList_store_mid rfl 65 (.tmp 23) _ rfl g23 0 (tw tL).toArray ?_ ?_ ?_ ?_ ?_ ?_;rfl;exact hvtL.out.symm;exact FX2.out.1.2.2;exact iP3;exact jC tL;rw[show(tw tL).toArray.toList=tw tL from rfl,hX3.out])|fail)
     refine(cRR.out X3).mono ?_;rintro e X4 ⟨uu,rfl,hb4,rfl⟩;obtain⟨g25,hg25⟩:=hE (X4.heap.size);obtain⟨X5,hX5⟩:=hE (X4.alloc (.cells zP.toArray 65));obtain⟨X6,hX6⟩:=hE (X5.setCells g25 0 (tw tR));have FX5:Hid (Row X5 g25 zP/\Below X4.heap.size X4 X5):=by rw[<-hX5.out,<-hg25.out];exact⟨aD X4 _ _,aB _ _⟩
     have blX6:Below X4.heap.size X4 X6:=by rw[<-hX6.out];exact RG.below_setCells (by rw[hg25.out];exact Se _) _ _ _ FX5.out.2
     have rwX6:Row X6 g25 (tw tR):=by rw[<-hX6.out];exact FX5.out.1.put rfl
     obtain⟨vtR,hvtR⟩:=hE (tv tR);rw[hvtR.out];have hLr6:=(KL3.out.1.grow hb4).grow blX6;have KL6:Hid (Lr w0 X6 y k kq ka kb [.slice q1 nR x1,.slice q2 nR x2,vA,vB] a b Ls tp tu (m+m) (.slice (some ⟨g3,o3,none⟩) (m+m) c3) (.slice (some ⟨g4,o4,none⟩) (m+m) c4) tg th/\Row X6 g23 (tw tL)/\k+2<g23/\Row X6 g25 (tw tR)/\k+2<g25):=⟨hLr6,(KL3.out.2.1.below hb4).below blX6,KL3.out.2.2,rwX6,by have:=(KL3.out.1.grow hb4).rI.1;have:=hg25.out;omega⟩
     have c0:=hLr6.rI.2.1 0 _ rfl;obtain⟨gl,ol,xl,-,cl,cvl,ixl⟩:=HRow.out.1.at (c:=x1) HI.out hLr6.bl;by_cases hall2:oL=true/\oR=true
     case neg =>
      have hBf:Bd=false:=by
       cases Bd with
       | false=>rfl
       | true =>
        have h:=(HBd.out.1 rfl).1;exact absurd ⟨by rw[<-hoL.out];exact SU.2 (h.2.2.1 i HI.out),by rw[<-hoR.out];exact SU.2 (h.2.2.2.1 i HI.out)⟩ hall2
      have hcs:oL=false\/(oL=true/\oR=false):=by
       revert hall2;cases oL<;>cases oR<;>simp
      subst hBf;rcases hcs with rfl|⟨rfl,rfl⟩
      all_goals
       go_wp2_with (first|(refine bB (v:=pZ g25) (w':=X5) rfl 65 25 rfl rfl ?_ ?_;(rw[<-hX5.out,<-hg25.out];kernel_rfl))|(refine wpList_store_mid rfl 65 (.tmp 25) _ rfl g25 0 (tw tR).toArray ?_ ?_ ?_ ?_ ?_ ?_;rfl;exact hvtR.out.symm;exact FX5.out.1.2.2;exact iP3;exact jC tR;rw[show(tw tR).toArray.toList=tw tR from rfl,hX6.out])|fail)
       go_ret;exact⟨_,rfl,KL6.out.1.bl,rfl⟩
     case pos =>
     obtain⟨rfl,rfl⟩:=hall2;go_wp2_with (first|(refine bB (v:=pZ g25) (w':=X5) rfl 65 25 rfl rfl ?_ ?_;(rw[<-hX5.out,<-hg25.out];kernel_rfl))|(refine wpList_store_mid rfl 65 (.tmp 25) _ rfl g25 0 (tw tR).toArray ?_ ?_ ?_ ?_ ?_ ?_;rfl;exact hvtR.out.symm;exact FX5.out.1.2.2;exact iP3;exact jC tR;rw[show(tw tR).toArray.toList=tw tR from rfl,hX6.out])|fail)
     obtain⟨L1,hL1⟩:=hE (SP.jY Ls [108,101,102,116] (Lb i).toList);obtain⟨L2,hL2⟩:=hE (SP.jY L1 [114,105,103,104,116] (Rb i).toList);have z1:L1.size=32:=by rw[<-hL1.out];exact SP.fD _ _ _
     have z2:L2.size=32:=by rw[<-hL2.out];exact SP.fD _ _ _
     refine(SP.kU y Ls ⟨#[108,101,102,116]⟩ ⟨Lb i⟩ X6 dC ((HRow.out.2.2 i).1 HI.out) HFi.out.2.2.2.2.2.1 KL6.out.1.lg).mono ?_;rintro e X7 ⟨rfl,hO7,hl7⟩;rw[show SP.jY Ls (⟨#[108,101,102,116]⟩:ByteArray).data.toList (⟨Lb i⟩:ByteArray).data.toList=L1 from hL1.out]at hl7;have hLr7:=KL6.out.1.say hO7 hl7;have yk:=KL6.out.1.yk;have KL7:=mk5 hLr7 (KL6.out.2.1.only hO7 (by have:=KL6.out.2.2.1;omega)) KL6.out.2.2.1 (KL6.out.2.2.2.1.only hO7 (by have:=KL6.out.2.2.2.2;omega)) KL6.out.2.2.2.2;have c1:=hLr7.rI.2.1 1 _ rfl;obtain⟨gr,or,xr,-,cr,cvr,ixr⟩:=HRow.out.2.1.at (c:=x2) HI.out hLr7.bl;go_wp2_with fail
     refine(SP.kU y L1 ⟨#[114,105,103,104,116]⟩ ⟨Rb i⟩ X7 dC ((HRow.out.2.2 i).2 HI.out) z1 KL7.out.1.lg).mono ?_;rintro e X8 ⟨rfl,hO8,hl8⟩;rw[show SP.jY L1 (⟨#[114,105,103,104,116]⟩:ByteArray).data.toList (⟨Rb i⟩:ByteArray).data.toList=L2 from hL2.out]at hl8;have KL8:=mk5 (KL7.out.1.say hO8 hl8) (KL7.out.2.1.only hO8 (by have:=KL7.out.2.2.1;omega)) KL7.out.2.2.1 (KL7.out.2.2.2.1.only hO8 (by have:=KL7.out.2.2.2.2;omega)) KL7.out.2.2.2.2;obtain⟨L3,hL3⟩:=hE (gZ L2);have z3:L3.size=32:=by rw[<-hL3.out];exact SP.fH _ _
     obtain⟨c,hc⟩:=hE (Ak N L2:Fin N);obtain⟨x,hx⟩:=hE (c.val);obtain⟨xo,hxo⟩:=hE ((ivF c).val);have h1N:1<N:=by have:=HF.out.2.1.n2;have:=Nat.mod_le N 18446744073709551616;omega
     have hcv:jM (cha N L2)=x:=by rw[<-hx.out,<-hc.out];exact EG h1N L2 (tK HF.out.2.1 _)
     have cC:=LK HF.out.2.1 y L2 X8 z2 KL8.out.1.lg;rw[hL3.out,hcv]at cC;have HC:=Hid.mk' cC;have HZ:=mk3 z3 hL1.out hL2.out;go_wp2_with fail
     refine HC.out.mono ?_;rintro e X9 ⟨uu,rfl,hO9,hl9,rfl⟩;obtain⟨g27,hg27⟩:=hE (X9.heap.size);obtain⟨Xa,hXa⟩:=hE (X9.alloc (.cells #[uZ 0,uZ 0,uZ 0,uZ 0] 63));obtain⟨Xb,hXb⟩:=hE (Xa.setCells g27 0 (wn x));have FXa:Hid (Row Xa g27 [uZ 0,uZ 0,uZ 0,uZ 0]/\Below X9.heap.size X9 Xa):=by rw[<-hXa.out,<-hg27.out];exact⟨aD X9 _ _,aB _ _⟩
     have blXb:Below X9.heap.size X9 Xb:=by rw[<-hXb.out];exact RG.below_setCells (by rw[hg27.out];exact Se _) _ _ _ FXa.out.2
     have rwXb:Row Xb g27 (wn x):=by rw[<-hXb.out];exact FXa.out.1.put rfl
     obtain⟨vx,hvx⟩:=hE (nv x);rw[hvx.out];have hLr9:=KL8.out.1.say hO9 hl9;have KLb:Hid (Lr w0 Xb y k kq ka kb [.slice q1 nR x1,.slice q2 nR x2,vA,vB] a b L3 tp tu (m+m) (.slice (some ⟨g3,o3,none⟩) (m+m) c3) (.slice (some ⟨g4,o4,none⟩) (m+m) c4) tg th/\Row Xb g23 (tw tL)/\Row Xb g25 (tw tR)/\Row Xb g27 (wn x)/\k+2<g27):=⟨hLr9.grow blXb,(KL8.out.2.1.only hO9 (by have:=KL8.out.2.2.1;omega)).below blXb,(KL8.out.2.2.2.1.only hO9 (by have:=KL8.out.2.2.2.2;omega)).below blXb,rwXb,by have:=hLr9.rI.1;have:=hg27.out;omega⟩
     obtain⟨dF,hdF1,hdF2⟩:=Sf.1 uFq;have HDF:=mk2 hdF1 hdF2;obtain⟨dN,hdN1,hdN2⟩:=Sf.1 u33;have HDN:=mk2 hdN1 hdN2;have cI:Hid (∀W,Calls prog 49 #[vq,vx] W (rZ W λe w'=>e=nv xo)):=by
      rw[<-hvq.out,<-hvx.out,<-hx.out,<-hxo.out];exact NH HF.out.2.1 c.isLt
     go_wp2_with (first|(refine bB (v:=pZ g27) (w':=Xa) rfl 63 27 rfl rfl ?_ ?_;(rw[<-hXa.out,<-hg27.out];kernel_rfl))|(refine wpList_store_mid rfl 63 (.tmp 27) _ rfl g27 0 (wn x).toArray ?_ ?_ ?_ ?_ ?_ ?_;rfl;exact hvx.out.symm;exact FXa.out.1.2.2;exact i33;exact dE x;rw[show(wn x).toArray.toList=wn x from rfl,hXb.out])|(refine wpList_load_mid rfl 97 (.tmp 15) rfl kq 0 ?_ rl1 dF ?_ ?_ ?_ ?_ ?_;rfl;exact KLb.out.1.rq.2.1;exact HDF.out.1;exact HDF.out.2;exact iFq;rw[show SX rl1.toArray=vq from hvq.out])|(refine wpList_load_mid rfl 63 (.tmp 27) rfl g27 0 ?_ (wn x) dN ?_ ?_ ?_ ?_ ?_;rfl;exact KLb.out.2.2.2.1.2.1;exact HDN.out.1;exact HDN.out.2;exact i33;rw[show SX (wn x).toArray=vx from hvx.out])|fail)
     refine(cI.out Xb).mono ?_;rintro e Xc ⟨uu,rfl,hbc,rfl⟩;obtain⟨g28,hg28⟩:=hE (Xc.heap.size);obtain⟨Xd,hXd⟩:=hE (Xc.alloc (.cells #[uZ 0,uZ 0,uZ 0,uZ 0] 63));obtain⟨Xe,hXe⟩:=hE (Xd.setCells g28 0 (wn xo));have FXd:Hid (Row Xd g28 [uZ 0,uZ 0,uZ 0,uZ 0]/\Below Xc.heap.size Xc Xd):=by rw[<-hXd.out,<-hg28.out];exact⟨aD Xc _ _,aB _ _⟩
     have blXe:Below Xc.heap.size Xc Xe:=by rw[<-hXe.out];exact RG.below_setCells (by rw[hg28.out];exact Se _) _ _ _ FXd.out.2
     have rwXe:Row Xe g28 (wn xo):=by rw[<-hXe.out];exact FXd.out.1.put rfl
     obtain⟨vxo,hvxo⟩:=hE (nv xo);rw[hvxo.out];have hbe:=hbc.trans (blXe.mono hbc.size);have KLe:Hid (Lr w0 Xe y k kq ka kb [.slice q1 nR x1,.slice q2 nR x2,vA,vB] a b L3 tp tu (m+m) (.slice (some ⟨g3,o3,none⟩) (m+m) c3) (.slice (some ⟨g4,o4,none⟩) (m+m) c4) tg th/\Row Xe g23 (tw tL)/\Row Xe g25 (tw tR)/\Row Xe g27 (wn x)/\Row Xe g28 (wn xo)/\k+2<g27/\k+2<g28):=⟨KLb.out.1.grow hbe,KLb.out.2.1.below hbe,KLb.out.2.2.1.below hbe,KLb.out.2.2.2.1.below hbe,rwXe,KLb.out.2.2.2.2,by have:=(KLb.out.1.grow hbc).rI.1;have:=hg28.out;omega⟩
     clear hbc hbe rwXe blXe KLb cI FXa hXa hXb hg27;go_wp2_with (first|(refine bB (v:=pZ g28) (w':=Xd) rfl 63 28 rfl rfl ?_ ?_;(rw[<-hXd.out,<-hg28.out];kernel_rfl))|(refine wpList_store_mid rfl 63 (.tmp 28) _ rfl g28 0 (wn xo).toArray ?_ ?_ ?_ ?_ ?_ ?_;rfl;exact hvxo.out.symm;exact FXd.out.1.2.2;exact i33;exact dE xo;rw[show(wn xo).toArray.toList=wn xo from rfl,hXe.out])|fail)
     clear FXd hXd hXe hg28;obtain⟨xq,hxq⟩:∃x,Hid ((c*c).val=x):=⟨_,rfl⟩
     obtain⟨xr,hxr⟩:∃x,Hid ((ivF c*ivF c).val=x):=⟨_,rfl⟩
     have fL:FracT tL (rdO C.toFld (Lb i)).1:=by rw[<-htL.out];exact uI C hoL.out
     have fR:FracT tR (rdO C.toFld (Rb i)).1:=by rw[<-htR.out];exact uI C hoR.out
     obtain⟨t1,cT1,F1⟩:∃t,Gives 51 #[nv xq,tv tL] (tv t)/\FracT t ((aL C.toFld hord).ac (c*c) (rdO C.toFld (Lb i))).1:=⟨_,by rw[<-hxq.out];exact vS C hord HF.out.2.1.le (c*c) fL⟩
     obtain⟨t2,cT2,F2⟩:∃t,Gives 51 #[nv xr,tv tR] (tv t)/\FracT t ((aL C.toFld hord).ac (ivF c*ivF c) (rdO C.toFld (Rb i))).1:=⟨_,by rw[<-hxr.out];exact vS C hord HF.out.2.1.le (ivF c*ivF c) fR⟩
     obtain⟨t3,cT3,F3⟩:∃t,Gives 50 #[tv t1,tv t2] (tv t)/\FracT t ((aL C.toFld hord).ad ((aL C.toFld hord).ac (c*c) (rdO C.toFld (Lb i))) ((aL C.toFld hord).ac (ivF c*ivF c) (rdO C.toFld (Rb i)))).1:=⟨_,Bt C hord F1 F2⟩
     obtain⟨t4,cT4,F4⟩:∃t,Gives 50 #[tv tp,tv t3] (tv t)/\FracT t ((aL C.toFld hord).ad (V i).p ((aL C.toFld hord).ad ((aL C.toFld hord).ac (c*c) (rdO C.toFld (Lb i))) ((aL C.toFld hord).ac (ivF c*ivF c) (rdO C.toFld (Rb i))))).1:=⟨_,Bt C hord HFi.out.1 F3⟩
     have cM1:Gives 52 #[rv1,nv x,nv x] (nv xq):=by rw[<-hx.out,<-hxq.out];exact Ct HF.out.2.1 c.isLt c.isLt
     have cM2:Gives 52 #[rv1,nv xo,nv xo] (nv xr):=by rw[<-hxo.out,<-hxr.out];exact Ct HF.out.2.1 (ivF c).isLt (ivF c).isLt
     have HF4:=Hid.mk' F4;clear F1 F2 F3 F4 fL fR;refine(RG.gwL [RG.pE (tv tp),RG.pE rv1,RG.pE (nv x),RG.pE (nv x),RG.pE (nv xq),RG.pE (tv tL),RG.pE (tv t1),RG.pE rv1,RG.pE (nv xo),RG.pE (nv xo),RG.pE (nv xr),RG.pE (tv tR),RG.pE (tv t2),RG.pE (tv t3),RG.pE (tv t4)] (λW=>Below Xe.heap.size Xe W) (λW W' hb h=>h.trans (hb.mono h.size))).tail2 15 kR kR kR ⟨
      RG.gLo 9 (λW hB=>(KLe.out.1.grow hB).rp.2.1) uP3 iP3,
      RG.gLo 15 (λW hB=>(KLe.out.1.grow hB).rq.2.1) uFq iFq,
      RG.gLo 27 (λW hB=>(KLe.out.2.2.2.1.below hB).2.1) u33 i33,
      RG.gLo 27 (λW hB=>(KLe.out.2.2.2.1.below hB).2.1) u33 i33,
      RG.gC3 1 126 2 127 3 128 cM1,
      RG.gLo 23 (λW hB=>(KLe.out.2.1.below hB).2.1) uP3 iP3,
      RG.gC2 4 129 5 130 cT1,
      RG.gLo 15 (λW hB=>(KLe.out.1.grow hB).rq.2.1) uFq iFq,
      RG.gLo 28 (λW hB=>(KLe.out.2.2.2.2.1.below hB).2.1) u33 i33,
      RG.gLo 28 (λW hB=>(KLe.out.2.2.2.2.1.below hB).2.1) u33 i33,
      RG.gC3 7 132 8 133 9 134 cM2,
      RG.gLo 25 (λW hB=>(KLe.out.2.2.1.below hB).2.1) uP3 iP3,
      RG.gC2 10 135 11 136 cT2,
      RG.gC2 6 131 12 137 cT3,
      RG.gC2 0 125 13 138 cT4,trivial⟩ (SE _ _).drew ?_
     intro V9 Xf hRf hBf;have hV14:V9 14=tv t4:=hRf 14 dC;obtain⟨Xg,hXg⟩:∃W,Hid (Xf.setCells k 0 (tw t4)=W):=⟨_,rfl⟩
     have hLrf:=KLe.out.1.grow hBf;have HTh:=Hid.mk' hLrf.rp.2.2;have KLg:Hid (Lr w0 Xg y k kq ka kb [.slice q1 nR x1,.slice q2 nR x2,vA,vB] a b L3 t4 tu (m+m) (.slice (some ⟨g3,o3,none⟩) (m+m) c3) (.slice (some ⟨g4,o4,none⟩) (m+m) c4) tg th/\Row Xg g27 (wn x)/\Row Xg g28 (wn xo)):=by
      rw[<-hXg.out];exact⟨hLrf.setp HY.out.2.2,(KLe.out.2.2.2.1.below hBf).other (by have:=KLe.out.2.2.2.2.2.1;omega),(KLe.out.2.2.2.2.1.below hBf).other (by have:=KLe.out.2.2.2.2.2.2;omega)⟩
     dsimp only[RG.dJ,TG,UY,U0];simp only[Tt,Sw,SN,SQ];rw[hV14];clear hV14 hRf hBf hLrf KLe cT1 cT2 cT3 cT4 cM1 cM2;generalize V9 0=yy0;generalize V9 1=yy1;generalize V9 2=yy2;generalize V9 3=yy3;generalize V9 4=yy4;generalize V9 5=yy5;generalize V9 6=yy6;generalize V9 7=yy7;generalize V9 8=yy8;generalize V9 9=yy9;generalize V9 10=yy10;generalize V9 11=yy11;generalize V9 12=yy12;generalize V9 13=yy13;clear V9;obtain⟨vt4,hvt4⟩:∃v,Hid (tv t4=v):=⟨_,rfl⟩
     rw[hvt4.out];have hq1:((m+m:Nat):Int).tdiv 2=(m:Int):=PD m;have hq2:((m:Int)+(m:Int)).tdiv 2=(m:Int):=by have:=PD m;rwa[Int.natCast_add]at this
     have hm6:(m:Int)<=64:=by have:=HM.out.2.2;omega
     go_wp2_with (first|(refine wpList_store_mid rfl 65 (.tmp 9) _ rfl k 0 (tw t4).toArray ?_ ?_ ?_ ?_ ?_ ?_;rfl;exact hvt4.out.symm;exact HTh.out;exact iP3;exact jC t4;rw[show(tw t4).toArray.toList=tw t4 from rfl,hXg.out])|fail)
     clear hq1 hq2 HTh hXg;have HX:Hid (x<top/\xo<top):=⟨by rw[<-hx.out];exact Si c.isLt HF.out.2.1.le,by rw[<-hxo.out];exact Si (ivF c).isLt HF.out.2.1.le⟩
     refine(RG.gwL [RG.pE (nv xo),RG.pE (.slice (some ⟨g3,o3,none⟩) (m+m) c3),RG.pE (iZ m),RG.pE (.slice (some ⟨g3,o3,none⟩) m c3),RG.pE (nv x),RG.pE (.slice (some ⟨g3,o3,none⟩) (m+m) c3),RG.pE (iZ m),RG.pE (.slice (some ⟨g3,o3+12*m,none⟩) m (c3-m)),RG.pT (λg=>g≠y/\g≠k) m (mxT xo x tg (λj=>tg (m+j)))] (λW=>Below Xg.heap.size Xg W) (λW W' hb h=>h.trans (hb.mono h.size))).tail2 9 kR kR kR ⟨
      RG.gLo 28 (λW hB=>(KLg.out.2.2.below hB).2.1) u33 i33,
      RG.gO 3 (.slice (some ⟨g3,o3,none⟩) (m+m) c3),
      RG.gO 29 (iZ m),
      RG.gX 1 144 2 145 (GQ g3 o3 (m+m) c3 m (by have:=HFi.out.2.2.2.2.2.2;omega)),
      RG.gLo 27 (λW hB=>(KLg.out.2.1.below hB).2.1) u33 i33,
      RG.gO 3 (.slice (some ⟨g3,o3,none⟩) (m+m) c3),
      RG.gO 29 (iZ m),
      RG.gX 5 148 6 149 (by have h:=GP g3 o3 (m+m) c3 m (by have:=HM.out.2.1;omega) (by have:=HFi.out.2.2.2.2.2.2;omega);rw[V4]at h;exact h),
      RG.My 0 143 3 146 4 147 7 150 53 (λx y z u=>#[x,y,z,u]) (λz1 z2 z3 z4 W h1 h2 h3 h4 hB=>by
       obtain rfl:z1=nv xo:=h1;obtain rfl:z2=(.slice (some ⟨g3,o3,none⟩) m c3):=h2;obtain rfl:z3=nv x:=h3;obtain rfl:z4=(.slice (some ⟨g3,o3+12*m,none⟩) m (c3-m)):=h4;have hLW:=KLg.out.1.grow hB;refine(Ij C xo x HX.out.2 HX.out.1 m HM.out.2.1 (by have:=HM.out.2.2;omega) tg (λj=>tg (m+j)) _ _ (λj hj=>HFi.out.2.1 j oM) (λj hj=>HFi.out.2.1 (m+j) oM) _ _ W (hLW.g.low.mono λ_ _ _=>trivial) (hLW.g.high.mono λ_ _ _=>trivial)).mono ?_;rintro e W' ⟨uu,rfl,hb,hq⟩;refine⟨_,rfl,hb,hq.mono λg _ hg=>⟨?_,?_⟩⟩
       ·have:=hLW.lg.lt;omega
       ·have:=hLW.rp.1;omega),trivial⟩ (SE _ _).drew ?_
     intro V9 Xh hRn hBn;have hV8:PtQ (λg=>g≠y/\g≠k) Xh (V9 8) m (mxT xo x tg (λj=>tg (m+j))):=hRn 8 dC;have KLh:Hid (Lr w0 Xh y k kq ka kb [.slice q1 nR x1,.slice q2 nR x2,vA,vB] a b L3 t4 tu (m+m) (.slice (some ⟨g3,o3,none⟩) (m+m) c3) (.slice (some ⟨g4,o4,none⟩) (m+m) c4) tg th/\Row Xh g27 (wn x)/\Row Xh g28 (wn xo)/\PtQ (λg=>g≠y/\g≠k) Xh (V9 8) m (mxT xo x tg (λj=>tg (m+j)))):=⟨KLg.out.1.grow hBn,KLg.out.2.1.below hBn,KLg.out.2.2.below hBn,hV8⟩
     dsimp only[RG.dJ,TG,UY,U0];simp only[Tt,Sw,SN,SQ];clear hRn hBn hV8 KLg;generalize V9 8=s3 at KLh⊢;generalize V9 0=yz0;generalize V9 1=yz1;generalize V9 2=yz2;generalize V9 3=yz3;generalize V9 4=yz4;generalize V9 5=yz5;generalize V9 6=yz6;generalize V9 7=yz7;clear V9;go_wp2_with fail
     refine(RG.gwL [RG.pE (nv x),RG.pE (.slice (some ⟨g4,o4,none⟩) (m+m) c4),RG.pE (iZ m),RG.pE (.slice (some ⟨g4,o4,none⟩) m c4),RG.pE (nv xo),RG.pE (.slice (some ⟨g4,o4,none⟩) (m+m) c4),RG.pE (iZ m),RG.pE (.slice (some ⟨g4,o4+12*m,none⟩) m (c4-m)),RG.pT (λg=>g≠y/\g≠k) m (mxT x xo th (λj=>th (m+j)))] (λW=>Below Xh.heap.size Xh W) (λW W' hb h=>h.trans (hb.mono h.size))).tail2 9 kR kR kR ⟨
      RG.gLo 27 (λW hB=>(KLh.out.2.1.below hB).2.1) u33 i33,
      RG.gO 4 (.slice (some ⟨g4,o4,none⟩) (m+m) c4),
      RG.gO 29 (iZ m),
      RG.gX 1 153 2 154 (GQ g4 o4 (m+m) c4 m (by have:=HFi.out.2.2.2.2.2.2;omega)),
      RG.gLo 28 (λW hB=>(KLh.out.2.2.1.below hB).2.1) u33 i33,
      RG.gO 4 (.slice (some ⟨g4,o4,none⟩) (m+m) c4),
      RG.gO 29 (iZ m),
      RG.gX 5 157 6 158 (by have h:=GP g4 o4 (m+m) c4 m (by have:=HM.out.2.1;omega) (by have:=HFi.out.2.2.2.2.2.2;omega);rw[V4]at h;exact h),
      RG.My 0 152 3 155 4 156 7 159 53 (λx y z u=>#[x,y,z,u]) (λz1 z2 z3 z4 W h1 h2 h3 h4 hB=>by
       obtain rfl:z1=nv x:=h1;obtain rfl:z2=(.slice (some ⟨g4,o4,none⟩) m c4):=h2;obtain rfl:z3=nv xo:=h3;obtain rfl:z4=(.slice (some ⟨g4,o4+12*m,none⟩) m (c4-m)):=h4;have hLW:=KLh.out.1.grow hB;refine(Ij C x xo HX.out.1 HX.out.2 m HM.out.2.1 (by have:=HM.out.2.2;omega) th (λj=>th (m+j)) _ _ (λj hj=>HFi.out.2.2.1 j oM) (λj hj=>HFi.out.2.2.1 (m+j) oM) _ _ W (hLW.h.low.mono λ_ _ _=>trivial) (hLW.h.high.mono λ_ _ _=>trivial)).mono ?_;rintro e W' ⟨uu,rfl,hb,hq⟩;refine⟨_,rfl,hb,hq.mono λg _ hg=>⟨?_,?_⟩⟩
       ·have:=hLW.lg.lt;omega
       ·have:=hLW.rp.1;omega),trivial⟩ (SE _ _).drew ?_
     intro V9 Xi hRn hBn;have hV8:PtQ (λg=>g≠y/\g≠k) Xi (V9 8) m (mxT x xo th (λj=>th (m+j))):=hRn 8 dC;have KEND:Hid (∃tp tg th,FracT tp (V (i+1)).p.1/\(∀j,j<2^(nR-(i+1))->FracT (tg j) ((V (i+1)).g j).1)/\(∀j,j<2^(nR-(i+1))->FracT (th j) ((V (i+1)).h j).1)/\(V (i+1)).s.size=32/\Lr w0 Xi y k kq ka kb [.slice q1 nR x1,.slice q2 nR x2,vA,vB] a b (V (i+1)).s tp tu (2^(nR-(i+1))) s3 (V9 8) tg th/\∀j,j<i+1->(∃p,rd P (Lb j)=some p)/\∃p,rd P (Rb j)=some p):=by
      have hch:chF N (V i).s (rdO C.toFld (Lb i)) (rdO C.toFld (Rb i))=(L3,c):=by
       unfold chF;dsimp only;rw[show Go.Proofs.YtnakcnljhmlikaaGreat.wr (rdO C.toFld (Lb i)).1=Lb i from uJ C.toFld hoL.out,show Go.Proofs.YtnakcnljhmlikaaGreat.wr (rdO C.toFld (Rb i)).1=Rb i from uJ C.toFld hoR.out,HFi.out.2.2.2.2.1];unfold lY;rw[HZ.out.2.1,HZ.out.2.2,hL3.out,hc.out]
      have hst:=HV.out.2 i m L3 c HM.out.1.symm hch;have hfr:∀(z1 z2:Fin N) (t:Nat->T3 P) (g:Nat->OnP P),(∀j,j<m+m->FracT (t j) (g j).1)->∀j,j<m->FracT (mxT z1.val z2.val t (λj=>t (m+j)) j) ((aL C.toFld hord).fP z1 z2 m g j).1:=λz1 z2 t g hf j hj=>(Bt C hord (vS C hord HF.out.2.1.le z1 (hf j oM)).2 (vS C hord HF.out.2.1.le z2 (hf (m+j) oM)).2).2
      show ∃tp tg th,_;rw[hst,HM.out.1];refine⟨t4,mxT xo x tg (λj=>tg (m+j)),mxT x xo th (λj=>th (m+j)),HF4.out,?_,?_,HZ.out.1,(KLh.out.1.grow hBn).lists (KLh.out.2.2.2.keep (Kq.of_below hBn)) hV8,λj hj=>?_⟩
      ·rw[<-hx.out,<-hxo.out];exact hfr (ivF c) c tg _ HFi.out.2.1
      ·rw[<-hx.out,<-hxo.out];exact hfr c (ivF c) th _ HFi.out.2.2.1
      ·by_cases hji:j=i
       ·subst hji;exact⟨SU.1 hoL.out,SU.1 hoR.out⟩
       ·exact HFi.out.2.2.2.1 j oM
     dsimp only[RG.dJ,TG,UY,U0];simp only[Tt,Sw,SN,SQ];clear hRn hBn hV8 KLh;generalize V9 8=s4 at KEND⊢;generalize V9 0=yw0;generalize V9 1=yw1;generalize V9 2=yw2;generalize V9 3=yw3;generalize V9 4=yw4;generalize V9 5=yw5;generalize V9 6=yw6;generalize V9 7=yw7;clear V9;go_wp2_with fail
     go_roundg (gk-1)
     case measure=>have:=HI.out;omega
     case rel=>exact⟨i+1,by have:=HI.out;omega,rfl,KEND⟩
    ·have hi':¬(i:Int)<(nR:Int):=oM;have hin:nR=i:=oM;obtain⟨tp,tg,th,fp,fg,fh,hss,hLr,hrd⟩:=KM.out;clear KM;subst hin;rw[WP,UV]at fg fh hLr;obtain⟨g3,o3,c3,e3,hc3,-,-⟩:=hLr.g;obtain⟨g4,o4,c4,e4,hc4,-,-⟩:=hLr.h;subst e3;subst e4;obtain⟨Ls,hLs⟩:∃L,(V nR).s=L:=⟨_,rfl⟩
     rw[hLs]at hLr;have KL:=Hid.mk' hLr;have hOk:okI P N nR nR nR Lb Rb A B:=⟨rfl,rfl,λj hj=>(hrd j hj).1,λj hj=>(hrd j hj).2,HAe.out.2.2.1,HAe.out.2.2.2⟩
     have hnu:∀ {b:Bs},(rq N b).isSome=true->(rdN N b).val=nuV b:=λ{b} h=>by
      rw[zG h];obtain⟨n,hn⟩:=SU.1 h;rw[hn];exact Pv hn
     have ea:(rdN N A).val=a:=(hnu HAe.out.2.2.1).trans HAe.out.1;have eb:(rdN N B).val=b:=(hnu HAe.out.2.2.2).trans HAe.out.2.1;obtain⟨xq,hxq⟩:∃x,Hid ((rdN N A*rdN N B).val=x):=⟨_,rfl⟩
     obtain⟨t1,cT1,F1⟩:∃t,Gives 51 #[nv a,tv (tg 0)] (tv t)/\FracT t ((aL C.toFld hord).ac (rdN N A) ((V nR).g 0)).1:=⟨_,by rw[<-ea];exact vS C hord HF.out.2.1.le (rdN N A) (fg 0 dC)⟩
     obtain⟨t2,cT2,F2⟩:∃t,Gives 51 #[nv b,tv (th 0)] (tv t)/\FracT t ((aL C.toFld hord).ac (rdN N B) ((V nR).h 0)).1:=⟨_,by rw[<-eb];exact vS C hord HF.out.2.1.le (rdN N B) (fh 0 dC)⟩
     obtain⟨t3,cT3,F3⟩:∃t,Gives 50 #[tv t1,tv t2] (tv t)/\FracT t ((aL C.toFld hord).ad ((aL C.toFld hord).ac (rdN N A) ((V nR).g 0)) ((aL C.toFld hord).ac (rdN N B) ((V nR).h 0))).1:=⟨_,Bt C hord F1 F2⟩
     obtain⟨t4,cT4,F4⟩:∃t,Gives 51 #[nv xq,tv tu] (tv t)/\FracT t ((aL C.toFld hord).ac (rdN N A*rdN N B) u).1:=⟨_,by rw[<-hxq.out];exact vS C hord HF.out.2.1.le (rdN N A*rdN N B) HF.out.2.2.2.1⟩
     obtain⟨t5,cT5,F5⟩:∃t,Gives 50 #[tv t3,tv t4] (tv t)/\FracT t ((aL C.toFld hord).ad ((aL C.toFld hord).ad ((aL C.toFld hord).ac (rdN N A) ((V nR).g 0)) ((aL C.toFld hord).ac (rdN N B) ((V nR).h 0))) ((aL C.toFld hord).ac (rdN N A*rdN N B) u)).1:=⟨_,Bt C hord F3 F4⟩
     have cM:Gives 52 #[rv1,nv a,nv b] (nv xq):=by rw[<-ea,<-eb,<-hxq.out];exact Ct HF.out.2.1 (rdN N A).isLt (rdN N B).isLt
     have hD:decide ((V nR).p.1=((aL C.toFld hord).ad ((aL C.toFld hord).ad ((aL C.toFld hord).ac (rdN N A) ((V nR).g 0)) ((aL C.toFld hord).ac (rdN N B) ((V nR).h 0))) ((aL C.toFld hord).ac (rdN N A*rdN N B) u)).1)=Bd:=by
      have h2:(V nR).p.1=((aL C.toFld hord).ad ((aL C.toFld hord).ad ((aL C.toFld hord).ac (rdN N A) ((V nR).g 0)) ((aL C.toFld hord).ac (rdN N B) ((V nR).h 0))) ((aL C.toFld hord).ac (rdN N A*rdN N B) u)).1↔Bd=true:=Z3.symm.trans (Iff.trans ⟨λh=>⟨hOk,h⟩,λh=>h.2⟩ HBd.out.symm);cases Bd with
      | true=>exact decide_eq_true (h2.2 rfl)
      | false=>exact decide_eq_false λh=>Bool.false_ne_true (h2.1 h)
     have cS:=Ku C fp F5;rw[hD]at cS;have HS:=Hid.mk' cS;clear F1 F2 F3 F4 F5 fp fg fh hss hLr hrd hLs hOk hnu cS hD ea eb;go_wp2_with fail
     refine(RG.gwL [RG.pE (nv a),RG.pE (.slice (some ⟨g3,o3,none⟩) 1 c3),RG.pE (.pointer (some ⟨g3,o3+12*0,none⟩)),RG.pE (tv (tg 0)),RG.pE (tv t1),RG.pE (nv b),RG.pE (.slice (some ⟨g4,o4,none⟩) 1 c4),RG.pE (.pointer (some ⟨g4,o4+12*0,none⟩)),RG.pE (tv (th 0)),RG.pE (tv t2),RG.pE (tv t3),RG.pE rv1,RG.pE (nv a),RG.pE (nv b),RG.pE (nv xq),RG.pE (tv tu),RG.pE (tv t4),RG.pE (tv t5),RG.pN wr.heap.size zP] (λW=>Below wr.heap.size wr W) (λW W' hb h=>h.trans (hb.mono h.size))).tail2 19 kR kR kR ⟨
      RG.gLo 16 (λW hB=>(KL.out.grow hB).ra.2.1) u33 i33,
      RG.gO 3 (.slice (some ⟨g3,o3,none⟩) 1 c3),
      RG.P6 1 162 (.slice (some ⟨g3,o3,none⟩) 1 c3) (.pointer (some ⟨g3,o3+12*0,none⟩)) (To 71 (.slice (some ⟨g3,o3,none⟩) 1 c3) (iZ ((0:Nat):Int))) (LX g3 o3 1 c3 0 dC) (λx W h=>h) (λ_=>rfl),
      RG.gLr 2 163 (λW hB=>Hv (j:=0) (KL.out.grow hB).g dC) uP3 iP3,
      RG.gC2 0 161 3 164 cT1,
      RG.gLo 18 (λW hB=>(KL.out.grow hB).rb.2.1) u33 i33,
      RG.gO 4 (.slice (some ⟨g4,o4,none⟩) 1 c4),
      RG.P6 6 167 (.slice (some ⟨g4,o4,none⟩) 1 c4) (.pointer (some ⟨g4,o4+12*0,none⟩)) (To 71 (.slice (some ⟨g4,o4,none⟩) 1 c4) (iZ ((0:Nat):Int))) (LX g4 o4 1 c4 0 dC) (λx W h=>h) (λ_=>rfl),
      RG.gLr 7 168 (λW hB=>Hv (j:=0) (KL.out.grow hB).h dC) uP3 iP3,
      RG.gC2 5 166 8 169 cT2,
      RG.gC2 4 165 9 170 cT3,
      RG.gLo 15 (λW hB=>(KL.out.grow hB).rq.2.1) uFq iFq,
      RG.gLo 16 (λW hB=>(KL.out.grow hB).ra.2.1) u33 i33,
      RG.gLo 18 (λW hB=>(KL.out.grow hB).rb.2.1) u33 i33,
      RG.gC3 11 172 12 173 13 174 cM,
      RG.gLo 12 (λW hB=>(KL.out.grow hB).ru.2.1) uP3 iP3,
      RG.gC2 14 175 15 176 cT4,
      RG.gC2 10 171 16 177 cT5,
      RG.RB zP 65 (λW W' h hB=>⟨_,rfl,hB.size,h⟩),trivial⟩ (SE _ _).drew ?_
     intro V9 Xf hRf hBf;have hV17:V9 17=tv t5:=hRf 17 dC;obtain⟨g30,hV18,hg30,r30⟩:∃k,V9 18=pZ k/\wr.heap.size<=k/\Row Xf k zP:=hRf 18 dC;obtain⟨Xg,hXg⟩:∃W,Hid (Xf.setCells g30 0 (tw t5)=W):=⟨_,rfl⟩
     have hLf:=KL.out.grow hBf;have HTh:=Hid.mk' r30.2.2;have KG:Hid (Row Xg k (tw tp)/\Row Xg g30 (tw t5)/\Below w0.heap.size w0 Xg):=by
      rw[<-hXg.out];exact⟨hLf.rp.other (by have:=KL.out.rp.1;omega),r30.put rfl,RG.below_setCells (SD KL.out.bl.size hg30) _ _ _ hLf.bl⟩
     dsimp only[RG.dJ,TG,UY,U0];simp only[Tt,Sw,SN,SQ];rw[hV17,hV18];clear hV17 hV18 hRf hBf hLf KL cT1 cT2 cT3 cT4 cT5 cM r30 hg30;generalize V9 0=yv0;generalize V9 1=yv1;generalize V9 2=yv2;generalize V9 3=yv3;generalize V9 4=yv4;generalize V9 5=yv5;generalize V9 6=yv6;generalize V9 7=yv7;generalize V9 8=yv8;generalize V9 9=yv9;generalize V9 10=yv10;generalize V9 11=yv11;generalize V9 12=yv12;generalize V9 13=yv13;generalize V9 14=yv14;generalize V9 15=yv15;generalize V9 16=yv16;clear V9;obtain⟨vt5,hvt5⟩:∃v,Hid (tv t5=v):=⟨_,rfl⟩
     obtain⟨vtp,hvtp⟩:∃v,Hid (tv tp=v):=⟨_,rfl⟩
     obtain⟨dP,hdP1,hdP2⟩:=Sf.1 uP3;have HDP:Hid (prog.underlying 65=some dP/\dP.isRow=true):=⟨hdP1,hdP2⟩
     rw[hvt5.out,hvtp.out]at HS;rw[hvt5.out];clear hdP1 hdP2;go_wp2_with (first|(refine wpList_store_mid rfl 65 (.tmp 30) _ rfl g30 0 (tw t5).toArray ?_ ?_ ?_ ?_ ?_ ?_;rfl;exact hvt5.out.symm;exact HTh.out;exact iP3;exact jC t5;rw[show(tw t5).toArray.toList=tw t5 from rfl,hXg.out])|(refine wpList_load_mid rfl 65 (.tmp 9) rfl k 0 ?_ (tw tp) dP ?_ ?_ ?_ ?_ ?_;rfl;exact KG.out.1.2.1;exact HDP.out.1;exact HDP.out.2;exact iP3;rw[show SX (tw tp).toArray=vtp from hvtp.out])|(refine wpList_load_mid rfl 65 (.tmp 30) rfl g30 0 ?_ (tw t5) dP ?_ ?_ ?_ ?_ ?_;rfl;exact KG.out.2.1.2.1;exact HDP.out.1;exact HDP.out.2;exact iP3;rw[show SX (tw t5).toArray=vt5 from hvt5.out])|fail)
     refine(HS.out Xg).mono ?_;rintro e Xk ⟨uu,rfl,hbk,rfl⟩;have hZ:=Hid.mk' (KG.out.2.2.trans (hbk.mono KG.out.2.2.size));clear hbk KG;go_wp2_with fail
     go_ret;exact⟨_,rfl,hZ.out,rfl⟩
namespace RG
def pLg(B:Nat)(L:Bs):S1:=⟨λv w=>∃y,v=pZ y/\B<=y/\SP.RLog w y L,λ_ _ _ hb ⟨y,h1,h2,h3⟩=>⟨y,h1,h2,h3.below hb⟩⟩
def pT0{P:Nat}(n:Nat)(t:Nat->T3 P):S1:=⟨λv w=>PtQ (λ_=>True) w v n t/\∃g c,v=.slice (some (aZ g)) n c,λ_ _ _ hb h=>⟨h.1.keep (Kq.of_below hb),h.2⟩⟩
end RG
omit [NeZero P] [NeZero N] in
theorem PtQ.log{W:World}{v:Value}{n y:Nat}{t:Nat->T3 P}{L:Bs}(h:PtQ (λ_=>True) W v n t)(hs:∃g c,v=.slice (some (aZ g)) n c)(hn:0<n)(hl:SP.RLog W y L):PtQ (·≠y) W v n t:=by
 obtain⟨g,c,rfl⟩:=hs;have h0:=Hv h hn 0 _ rfl;obtain⟨g',o',c',e,h1,-,h3,h4⟩:=h;injection e with e1 e2 e3
 injection e1 with e1
 injection e1 with e4 e5
 subst e3 e4 e5;refine⟨g,0,c,rfl,h1,λe=>?_,h3,h4⟩;rw[e,hl.1]at h0;injection h0 with h0
 cases h0
theorem Nz(C:Fl3 P)(O:Ord N)(hord:∀r:EC.Pt P,EC.On r->EC.mul N r=none)(label point:ByteArray)(hlab:label.size<=16384)(hpt:point.size<=16384)(n:Int){nL nR x1 x2:Nat}{q1 q2:Option Addr}{vA vB:Value}{A B:Bs}{Lb Rb:Nat->Bs}(w:World)(hL:RArg w q1 nL Lb)(hR:RArg w q2 nR Rb)(hA:Pt w vA A)(hB:Pt w vB B)(hsz:∀j,(j<nL->(Lb j).size<=16384)/\(j<nR->(Rb j).size<=16384))(Bd:Bool)(hBd:Bd=true↔vOk C.toFld hord label.data.toList n point.data A B nL nR Lb Rb):
 Calls prog 6 #[.string label,iZ n,.string point,.agg #[.slice q1 nL x1,.slice q2 nR x2,vA,vB]] w (rZ w λe w'=>e=.bool Bd):=by
 have hle:=Ix n;have heq:=@Iy n;have hF:=Oy n;unfold vOk at hBd;generalize (hvT n).1=T at hle heq hBd;generalize (hvT n).2=ok at heq hF hBd;obtain⟨tp,htp⟩:∃t,Hid (rdT P point.data=t):=⟨_,rfl⟩
 obtain⟨oP,hoP⟩:∃o,Hid ((rd P point.data).isSome=o):=⟨_,rfl⟩
 have cR:Hid (Gives 16 #[.string point] (.tuple #[tv tp,.bool oP])):=by rw[<-htp.out,<-hoP.out];exact zI C point.data
 have cF:=Hid.mk' hF;obtain⟨k,hk⟩:∃k,Hid (w.heap.size=k):=⟨_,rfl⟩
 obtain⟨vI,hvI⟩:∃v,Hid (SX #[.slice q1 nL x1,.slice q2 nR x2,vA,vB]=v):=⟨_,rfl⟩
 obtain⟨w1,hw1⟩:∃W,Hid (w.alloc (.cells #[.slice q1 nL x1,.slice q2 nR x2,vA,vB] 25)=W):=⟨_,rfl⟩
 have B1:Hid ((TF 25 vI).run prog w=.ok (pZ k) w1):=by
  rw[<-hvI.out,<-hw1.out,<-hk.out];obtain⟨qa,ca,rfl,-⟩:=hA;obtain⟨qb,cb,rfl,-⟩:=hB;exact boxJ _ _ _ _ _ _ _ _ _ _ _ _ w
 have K1:Hid (Below w.heap.size w w1/\Row w1 k [.slice q1 nL x1,.slice q2 nR x2,vA,vB]):=⟨by rw[<-hw1.out];exact aB _ _,by rw[<-hw1.out,<-hk.out];exact aD w _ _⟩
 have HBd:=Hid.mk' hBd;have HAll:=Hid.mk' (Tj hL (Tj hR (Tj hA (Tj hB hsz))));have HE:=Hid.mk' (Tj (Tj hle heq) (Tj O (Tj hlab hpt)));rw[hvI.out];clear hF hBd hL hR hA hB hsz hle heq O hlab hpt hw1;go_enter Tryz.func6,Tryz.ntmps6;go_wp2_with (first|(refine aI (u:=vI) (v:=pZ k) (w':=w1) rfl 25 (.tmp 3) rfl ?_ ?_ ?_;rfl;exact B1.out)|fail)
 refine(cF.out w1).mono ?_;rintro e w2 ⟨uu,rfl,hb2,rfl⟩;have K2:Hid (Below w.heap.size w w2/\Row w2 k [.slice q1 nL x1,.slice q2 nR x2,vA,vB]):=⟨K1.out.1.trans (hb2.mono K1.out.1.size),K1.out.2.below hb2⟩
 clear hb2 K1 B1;go_wp2_with fail
 refine(cR.out w2).mono ?_;rintro e X1 ⟨uu,rfl,hb3,rfl⟩;obtain⟨g23,hg23⟩:∃g,Hid (X1.heap.size=g):=⟨_,rfl⟩
 obtain⟨X2,hX2⟩:∃W,Hid (X1.alloc (.cells zP.toArray 65)=W):=⟨_,rfl⟩
 obtain⟨X3,hX3⟩:∃W,Hid (X2.setCells g23 0 (tw tp)=W):=⟨_,rfl⟩
 have FX2:Hid (Row X2 g23 zP/\Below X1.heap.size X1 X2):=by rw[<-hX2.out,<-hg23.out];exact⟨aD X1 _ _,aB _ _⟩
 have blX3:Below X1.heap.size X1 X3:=by rw[<-hX3.out];exact RG.below_setCells (by rw[hg23.out];exact Se _) _ _ _ FX2.out.2
 have rwX3:Row X3 g23 (tw tp):=by rw[<-hX3.out];exact FX2.out.1.put rfl
 have b23:=hb3.trans (blX3.mono hb3.size);have K3:Hid (Below w.heap.size w X3/\Row X3 k [.slice q1 nL x1,.slice q2 nR x2,vA,vB]/\Row X3 g23 (tw tp)):=⟨K2.out.1.trans (b23.mono K2.out.1.size),K2.out.2.below b23,rwX3⟩
 obtain⟨vt,hvt⟩:∃v,Hid (tv tp=v):=⟨_,rfl⟩
 rw[hvt.out];clear hb3 blX3 rwX3 b23 K2 cR cF;by_cases hall:ok=true/\oP=true
 case neg =>
  have hBf:Bd=false:=by
   cases Bd with
   | false=>rfl
   | true=>exact absurd ⟨(HBd.out.1 rfl).1,by rw[<-hoP.out];exact(HBd.out.1 rfl).2.1⟩ hall
  have hcs:ok=false\/(ok=true/\oP=false):=by
   revert hall;cases ok<;>cases oP<;>simp
  clear hall;subst hBf;rcases hcs with rfl|⟨rfl,rfl⟩
  all_goals
   go_wp2_with (first|(refine bB (v:=pZ g23) (w':=X2) rfl 65 10 rfl rfl ?_ ?_;(rw[<-hX2.out,<-hg23.out];kernel_rfl))|(refine wpList_store_mid rfl 65 (.tmp 10) _ rfl g23 0 (tw tp).toArray ?_ ?_ ?_ ?_ ?_ ?_;rfl;exact hvt.out.symm;exact FX2.out.1.2.2;exact iP3;exact jC tp;rw[show(tw tp).toArray.toList=tw tp from rfl,hX3.out])|fail)
   go_ret;exact⟨_,rfl,K3.out.1,rfl⟩
 case pos =>
 obtain⟨rfl,rfl⟩:=hall;have hnT:=HE.out.1.2 rfl;subst hnT;go_wp2_with (first|(refine bB (v:=pZ g23) (w':=X2) rfl 65 10 rfl rfl ?_ ?_;(rw[<-hX2.out,<-hg23.out];kernel_rfl))|(refine wpList_store_mid rfl 65 (.tmp 10) _ rfl g23 0 (tw tp).toArray ?_ ?_ ?_ ?_ ?_ ?_;rfl;exact hvt.out.symm;exact FX2.out.1.2.2;exact iP3;exact jC tp;rw[show(tw tp).toArray.toList=tw tp from rfl,hX3.out])|fail)
 have hn0:0<2^T:=Va dC;have hn64:2^T<=64:=SD (TT dC HE.out.1.1) dC;have iI4:=Iw;refine(RG.gwL [RG.pE (.string label),RG.pE (.string point),RG.pLg w.heap.size (tA label.data.toList point.data),RG.pE (iZ ((2^T:Nat):Int)),RG.pE (tv tp),RG.pE (iZ ((2^T:Nat):Int)),RG.pT0 (2^T) (bsP P ⟨#[108,101,102,116]⟩),RG.pE (iZ ((2^T:Nat):Int)),RG.pT0 (2^T) (bsP P ⟨#[114,105,103,104,116]⟩),RG.pE (tv (inT P)),RG.pE (.agg #[.slice q1 nL x1,.slice q2 nR x2,vA,vB])] (λW=>Below X3.heap.size X3 W) (λW W' hb h=>h.trans (hb.mono h.size))).tail2 11 kR kR kR ⟨
  RG.gO 0 (.string label),
  RG.gO 2 (.string point),
  RG.jO 0 25 1 26 18 (λx y=>#[x,y]) (λz1 z2 W h1 h2 hB=>by
   obtain rfl:z1=.string label:=h1;obtain rfl:z2=.string point:=h2;refine(Cv label point HE.out.2.2.1 HE.out.2.2.2 W).mono ?_;rintro e W' ⟨uu,rfl,hb,y,rfl,hy,hl⟩;exact⟨_,rfl,hb,y,rfl,SD K3.out.1.size (SD hB.size hy),hl⟩),
  RG.gO 1 (iZ ((2^T:Nat):Int)),
  RG.gLo 10 (λW hB=>(K3.out.2.2.below hB).2.1) uP3 iP3,
  RG.gO 1 (iZ ((2^T:Nat):Int)),
  RG.Bp 5 30 19 (λx=>#[.string ⟨#[108,101,102,116]⟩,x]) (λz1 W h1 hB=>by
   obtain rfl:z1=iZ ((2^T:Nat):Int):=h1;refine(ES C ⟨#[108,101,102,116]⟩ dC (2^T) hn0 hn64 W).mono ?_;rintro e W' ⟨uu,rfl,hb,hq,hs⟩;exact⟨_,rfl,hb,hq.mono λ_ _ _=>trivial,hs⟩),
  RG.gO 1 (iZ ((2^T:Nat):Int)),
  RG.Bp 7 32 19 (λx=>#[.string ⟨#[114,105,103,104,116]⟩,x]) (λz1 W h1 hB=>by
   obtain rfl:z1=iZ ((2^T:Nat):Int):=h1;refine(ES C ⟨#[114,105,103,104,116]⟩ dC (2^T) hn0 hn64 W).mono ?_;rintro e W' ⟨uu,rfl,hb,hq,hs⟩;exact⟨_,rfl,hb,hq.mono λ_ _ _=>trivial,hs⟩),
  RG.Mz 20 #[] (λW hB=>Iv C W),
  RG.gLo 7 (λW hB=>(K3.out.2.1.below hB).2.1) Nc iI4,trivial⟩ (SE _ _).drew ?_
 intro V9 Xf hRf hBf;obtain⟨y,hV2,hy,hlg⟩:∃y,V9 2=pZ y/\w.heap.size<=y/\SP.RLog Xf y (tA label.data.toList point.data):=hRf 2 dC;have hV3:=hRf 3 dC;have hV4:=hRf 4 dC;obtain⟨hV6,sV6⟩:PtQ (λ_=>True) Xf (V9 6) (2^T) (bsP P ⟨#[108,101,102,116]⟩)/\∃g c,V9 6=.slice (some (aZ g)) (2^T) c:=hRf 6 dC;obtain⟨hV8,sV8⟩:PtQ (λ_=>True) Xf (V9 8) (2^T) (bsP P ⟨#[114,105,103,104,116]⟩)/\∃g c,V9 8=.slice (some (aZ g)) (2^T) c:=hRf 8 dC;have hV9:=hRf 9 dC;have hVa:=hRf 10 dC;have bF:=K3.out.1.trans (hBf.mono K3.out.1.size);have fb:∀(lab:ByteArray) (j:Nat),FracT (bsP P lab j) (gPt C.toFld lab j).1:=λlab j=>⟨qD C.toFld _ _,(gPt C.toFld lab j).2⟩
 have fu:FracT (inT P) (uPt C.toFld).1:=⟨qD C.toFld _ _,(uPt C.toFld).2⟩
 have fp:FracT tp (vBeg C.toFld label.data.toList point.data).p.1:=by rw[<-htp.out];exact uI C hoP.out
 have hlg':SP.RLog Xf y (vBeg C.toFld label.data.toList point.data).s:=by rw[yW];exact hlg
 have hs:(vBeg C.toFld label.data.toList point.data).s.size=32:=by rw[yW];exact rH _ _
 have hBd':=HBd.out.trans ⟨λh=>h.2.2,λh=>⟨by trivial,hoP.out,h⟩⟩;have hg:∀j,j<2^T->FracT (bsP P ⟨#[108,101,102,116]⟩ j) ((vBeg C.toFld label.data.toList point.data).g j).1:=λj _=>fb _ j
 have hh:∀j,j<2^T->FracT (bsP P ⟨#[114,105,103,104,116]⟩ j) ((vBeg C.toFld label.data.toList point.data).h j).1:=λj _=>fb _ j
 have cL:=Ip (x1:=x1) (x2:=x2) C HE.out.2.1 hord T HE.out.1.1 (vBeg C.toFld label.data.toList point.data) (uPt C.toFld) tp (inT P) _ _ fp fu hg hh hs w Xf y bF hy hlg' (V9 6) (V9 8) (hV6.log sV6 hn0 hlg) (hV8.log sV8 hn0 hlg) HAll.out.1 HAll.out.2.1 HAll.out.2.2.1 HAll.out.2.2.2.1 HAll.out.2.2.2.2 Bd hBd';have HL:Hid (Calls prog 17 #[V9 2,V9 3,V9 4,V9 6,V9 8,V9 9,V9 10] Xf (rZ w λe w'=>e=.bool Bd)):=by rw[hV2,hV3,hV4,hV9,hVa];exact cL
 dsimp only[RG.dJ,TG,UY,U0];clear cL hBd' hg hh hs hlg' fp fu fb bF hVa hV9 hV8 sV8 hV6 sV6 hV4 hV3 hV2 hlg hy hRf hBf iI4 K3;generalize V9 0=y0;go_wp2_with fail
 refine HL.out.mono ?_;rintro e Xk ⟨uu,rfl,hbk,rfl⟩;have hZ:=Hid.mk' hbk;go_wp2_with fail
 go_ret;exact⟨_,rfl,hZ.out,rfl⟩
end
section
open Go.RowKit Go.Sort Go.Deep
variable {P:Nat}[NeZero P]{N:Nat}
theorem fl3:∃(P:Nat) (_:NeZero P),Fl3 P:=by
 obtain⟨P,hz,hP,hc⟩:=EC.cur;have h0:P=Go.Proofs.YtnakcnljhmlikaaGreat.p0:=by rw[hP];decide +kernel
 have hg:=RH;have hr:=Px;have h2:2<=Go.Proofs.YtnakcnljhmlikaaGreat.p0%18446744073709551616:=dK;have h4:Go.Proofs.YtnakcnljhmlikaaGreat.p0/4%18446744073709551616<18446744073709551615:=dK;have h3:Go.Proofs.YtnakcnljhmlikaaGreat.p0%4=3:=dK;have h7:7<Go.Proofs.YtnakcnljhmlikaaGreat.p0:=dK;rw[<-h0]at hg hr h2 h4 h3 h7;exact⟨P,hz,⟨⟨hg,hc,h2,h4,h3,h7⟩,hr⟩⟩
end
namespace EC
variable {P:Nat}[NeZero P]
def fo{α:Type}(x:Fin P)(f:Fin P->α):α:=
 match x.val with
 | 0=>f (Ua P 0)
 | n+1=>f (Ua P (n+1))
theorem Qd{α:Type}(x:Fin P)(f:Fin P->α):fo x f=f x:=by
 have hx:Ua P x.val=x:=Vx (SA x.isLt);unfold fo;split
 ·next h=>rw[h]at hx;rw[hx]
 ·next n h=>rw[h]at hx;rw[hx]
def runs(u v:Fin P)(e:Nat):Nat->Fin P->Fin P->Fin P->Bool
 | 0,_,_,z=>decide (z=0)
 | k+1,x,y,z=>fo (twX x y) λX=>fo (twY x y) λY=>fo (twZ y z) λZ =>
  if e/2^k%2=1 then
   if Z=0 then false else
   fo (cQ X 1) λax=>fo (eH Y 1) λay=>fo (cQ u Z) λbx=>fo (eH v Z) λbY =>
   if ax=bx/\ay=bY then false else
   fo (plX ax ay bx bY) λa=>fo (plY ax ay bx bY) λb=>fo (plZ Z 1 ax bx) λc=>runs u v e k a b c
  else runs u v e k X Y Z
theorem CH(C:Cur P):(1:Fin P)≠0:=λh=>C.two (by
 calc (2:Fin P)=2*1:=by grobner
  _=0:=by rw[h];grobner)
theorem zC(C:Cur P){u v:Fin P}(hg:On (some (u,v)))(e:Nat):∀(k m:Nat) (x y z:Fin P),Jac x y z (mul m (some (u,v)))->runs u v e k x y z=true->mul (m*2^k+e%2^k) (some (u,v))=none
 | 0,m,x,y,z,hj,h=>by
  have hz:=of_decide_eq_true h;rw[UV,Nat.mod_one,Nat.mul_one,Nat.add_zero];exact hj.zero C hz
 | k+1,m,x,y,z,hj,h=>by
  have hm:=cD C hg m;have h1:=hj.twice C hm;rw[<-mul_add C hg]at h1;have hb:e%2^(k+1)=e/2^k%2*2^k+e%2^k:=by
   rw[T8,Nat.mod_mul,S9 (2^k) (e/2^k%2),Nat.add_comm]
  have hp:2^(k+1)=2*2^k:=by rw[T8,S9]
  unfold runs at h;simp only[Qd]at h;by_cases hbit:e/2^k%2=1
  ·rw[if_pos hbit]at h;by_cases hZ:twZ y z=0
   ·rw[if_pos hZ]at h;cases h
   ·rw[if_neg hZ]at h;have hj1:Jac u v 1 (some (u,v)):=⟨CH C,by grobner,by grobner⟩
    rcases h1.plus C (cD C hg _) hj1 hg hZ (CH C)with⟨e1,e2,-⟩|⟨e1,e2⟩
    ·rw[if_pos ⟨e1,e2⟩]at h;cases h
    ·rw[if_neg e1]at h;have h2:=zC C hg e k (m+m+1) _ _ _ e2 h;rw[hb,hbit,hp];rw[show m*(2*2^k)+(1*2^k+e%2^k)=(m+m+1)*2^k+e%2^k by
      rw[Vb,Vb,<-Uy,S9 m 2,ZP,Vb];omega]
     exact h2
  ·rw[if_neg hbit]at h;have h0:e/2^k%2=0:=oM;have h2:=zC C hg e k (m+m) _ _ _ h1 h;rw[hb,h0,hp];rw[show m*(2*2^k)+(0*2^k+e%2^k)=(m+m)*2^k+e%2^k by
    rw[<-Uy,S9 m 2,ZP];omega]
   exact h2
def pL:Nat:=115792089237316195423570985008687907853269984665640564039457584007908834671663
def nL:Nat:=115792089237316195423570985008687907852837564279074904382605163141518161494337
instance:NeZero pL:=⟨dK⟩
theorem Nr:runs (P:=pL) (Ua pL 55066263022277343669578718895168534326250603453777594175500187360389116729240) (Ua pL 32670510020758816978083085130507043184471273380659243275938904335757337482424) nL 255 (Ua pL 55066263022277343669578718895168534326250603453777594175500187360389116729240) (Ua pL 32670510020758816978083085130507043184471273380659243275938904335757337482424) 1=true:=dK
theorem J8:2*pL+1<3*nL:=dK
theorem Oi:1*2^255+nL%2^255=nL:=dK
theorem order(C:Cur P)(hP:P=pL)(hg:On (some (Ua P 55066263022277343669578718895168534326250603453777594175500187360389116729240,Ua P 32670510020758816978083085130507043184471273380659243275938904335757337482424))){r:Pt P}(hr:On r):mul nL r=none:=by
 subst hP;refine H9 C (n:=nL) NT.pN J8 hg (λh=>by cases h) ?_ hr;have h:=zC C hg nL 255 1 _ _ 1 (by
  show Jac _ _ 1 (add none _);rw[kF];exact⟨CH C,by grobner,by grobner⟩) Nr
 rwa[Oi]at h
end EC
section
theorem Hx:Go.Proofs.YtnakcnljhmlikaaGreat.p1=EC.nL:=dK
variable {P:Nat}[NeZero P]
theorem order2(C:Fld P)(r:EC.Pt P)(hr:EC.On r):EC.mul Go.Proofs.YtnakcnljhmlikaaGreat.p1 r=none:=by
 rw[Hx];have hP:P=EC.pL:=by
  rw[C.eq];rfl
 exact EC.order C.cur hP (II C) hr
end
section
open Go.RowKit Go.Sort Go.Deep SPA
variable {P:Nat}[NeZero P]{N:Nat}
def PtC(W:World)(u:Value)(b:Bs):Prop:=∃q c,u=.slice q (Array.size b) c/\b.size<=c/\(b.size=0\/∃g o,q=some ⟨g,o,none⟩/\g<W.heap.size/\Holds SP.encB W g o b)
theorem PtC.pt{W:World}{u:Value}{b:Bs}(h:PtC W u b):Pt W u b:=by
 obtain⟨q,c,h1,-,h2⟩:=h;exact⟨q,c,h1,h2⟩
theorem PtC.a33{W:World}{u:Value}{b:Bs}(h:PtC W u b):Arg33 W u b:=by
 obtain⟨q,c,h1,h2,h3⟩:=h;refine⟨q,_,c,h1,rfl,λhn=>?_⟩;rcases h3 with h3|⟨g,o,h3,h4,h5⟩
 ·omega
 ·exact⟨g,o,h3,oM,h4,h5⟩
theorem PtC.a32{W:World}{u:Value}{b:Bs}(h:PtC W u b):Arg W u b:=by
 obtain⟨q,c,h1,h2,h3⟩:=h;refine⟨q,_,c,h1,rfl,λhn=>?_⟩;rcases h3 with h3|⟨g,o,h3,h4,h5⟩
 ·omega
 ·exact⟨g,o,h3,oM,h4,h5⟩
theorem DX{W:World}{q:Option Addr}{n:Nat}{ys:List Value}(h:VL W q n ys)(hp:∀u∈ys,∃b,PtC W u b):∃L:Nat->Bs,PArg W q n L/\RArg W q n L/\∀j,j<n->∃u,u∈ys/\PtC W u (L j):=by
 have hc:∀j:Nat,∃b:Bs,∀u,ys[j]? = some u->PtC W u b:=λj=>by
  cases hj:ys[j]? with
  | none=>exact⟨#[],λu h=>by cases h⟩
  | some u =>
   obtain⟨b,hb⟩:=hp u (TO hj);exact⟨b,λv hv=>by injection hv with hv;rw[<-hv];exact hb⟩
 have hat:∀j:Nat,j<n->∃u,ys[j]? = some u:=λj hj=>⟨_,SH (by rw[h.len];exact hj)⟩
 refine⟨λj=>(hc j).choose,λhn=>?_,λhn=>?_,λj hj=>?_⟩
 ·rcases h.cells with e|⟨g,o,h1,h2,h3⟩
  ·have:=h.len;rw[e]at this;exact absurd this.symm (TC hn)
  ·refine⟨g,o,h1,h2,λj hj=>?_⟩;obtain⟨u,hu⟩:=hat j hj;exact⟨u,h3 j u hu,((hc j).choose_spec u hu).a33⟩
 ·rcases h.cells with e|⟨g,o,h1,h2,h3⟩
  ·have:=h.len;rw[e]at this;exact absurd this.symm (TC hn)
  ·refine⟨g,o,h1,h2,λj hj=>?_⟩;obtain⟨u,hu⟩:=hat j hj;exact⟨u,h3 j u hu,((hc j).choose_spec u hu).pt⟩
 ·obtain⟨u,hu⟩:=hat j hj;exact⟨u,TO hu,(hc j).choose_spec u hu⟩
theorem RArg.below{w W:World}{q:Option Addr}{n:Nat}{L:Nat->Bs}(h:RArg w q n L)(hb:Below w.heap.size w W):RArg W q n L:=λhn=>by
 obtain⟨g,o,h1,h2,h3⟩:=h hn;refine⟨g,o,h1,Si h2 hb.size,λj hj=>?_⟩;obtain⟨v,h4,h5⟩:=h3 j hj;exact⟨v,by rw[hb.cell (p:=⟨g,o+j,none⟩) h2];exact h4,h5.below hb⟩
theorem PI:Ord Go.Proofs.YtnakcnljhmlikaaGreat.p1:=⟨RD,Pw,dK,dK⟩
theorem NJ:NT.IsP Go.Proofs.YtnakcnljhmlikaaGreat.p1:=by
 rw[Hx];exact NT.pN
def zS:Sv:=⟨none,0,0⟩
theorem RX(l r x y:Sv)(w:World):(VA 28 #[(7,.agg #[l.v,r.v,x.v,y.v])]).run prog w=.ok (.agg (rgC zS zS zS zS zS zS zS l r x y).toArray) w:=kR
theorem I2{Pg:Program}{o:Oper}{ev:Operand->Value}{T T':TypeId}{x v:Value}{w w':World}(h:(convert T T' x).run Pg w=.ok v w')(he:execOp ev o=convert T T' x >>= λv=>pure (UP v):=by kernel_rfl):(execOp ev o).run Pg w=.ok (.value v) w':=by
 rw[he,SK,h];rfl
theorem OM(label point:ByteArray)(hlab:label.size<=4096)(hpt:point.size<=4096)(n:Int)(l r:Sv){vA vB:Value}{A B:Bs}{Lb Rb:Nat->Bs}(hsz:∀j,(j<l.n->(Lb j).size<=16384)/\(j<r.n->(Rb j).size<=16384)):
 ∃Bd:Bool,(∀(W:World) (vp:Value),Arg33 W vp point.data->PArg W l.q l.n Lb->PArg W r.q r.n Rb->Arg W vA A->Arg W vB B->Calls prog 5 #[.string label,iZ n,vp,.agg #[l.v,r.v,vA,vB]] W (rZ W λe w'=>e=.bool Bd)) /\
  ∀W:World,RArg W l.q l.n Lb->RArg W r.q r.n Rb->Pt W vA A->Pt W vB B->Calls prog 6 #[.string label,iZ n,.string point,.agg #[l.v,r.v,vA,vB]] W (rZ W λe w'=>e=.bool Bd):=by
 obtain⟨P,hz,C⟩:=fl3;have hn:NeZero Go.Proofs.YtnakcnljhmlikaaGreat.p1:=⟨dK⟩
 obtain⟨Bd,hBd⟩:∃Bd:Bool,Bd=true↔vOk C.toFld (order2 C.toFld) label.data.toList n point.data A B l.n r.n Lb Rb:=by
  classical
  exact⟨decide _,decide_eq_true_iff⟩
 exact⟨Bd,λW vp h1 h2 h3 h4 h5=>MX C.toFld PI (order2 C.toFld) NJ label oM n W h1 h2 h3 h4 h5 Bd hBd,λW h1 h2 h3 h4=>Nz C PI (order2 C.toFld) label point oM oM n W h1 h2 h3 h4 hsz Bd hBd⟩
theorem Fz(label point:ByteArray)(n:Int)(l r x y:Sv){ys1 ys2:List Value}(w:World)(hL:VL w l.q l.n ys1)(hR:VL w r.q r.n ys2)(hp1:∀u∈ys1,∃b,PtC w u b)(hp2:∀u∈ys2,∃b,PtC w u b)(hx:∃b,PtC w x.v b)(hy:∃b,PtC w y.v b):
 Calls prog 3 #[.string label,iZ n,.string point,.agg #[l.v,r.v,x.v,y.v]] w λe w'=>e=.returned (.bool true)/\Below w.heap.size w w':=by
 obtain⟨Lb,pL,rL,sL⟩:=DX hL hp1;obtain⟨Rb,pR,rR,sR⟩:=DX hR hp2;obtain⟨A,hA⟩:=hx;obtain⟨B,hB⟩:=hy;have hsv:∀ {u:Value}{b:Bs},PtC w u b->∃s:Sv,u=s.v/\s.n=b.size:=λ{u b} h=>by
  obtain⟨q,c,h1,-⟩:=h;exact⟨⟨q,b.size,c⟩,h1,rfl⟩
 have hS:∀u∈ys1++ys2,∃s:Sv,u=s.v:=λu hu=>by
  rcases UT.1 hu with h|h
  ·obtain⟨b,hb⟩:=hp1 u h;obtain⟨s,h1,-⟩:=hsv hb;exact⟨s,h1⟩
  ·obtain⟨b,hb⟩:=hp2 u h;obtain⟨s,h1,-⟩:=hsv hb;exact⟨s,h1⟩
 obtain⟨k,hk⟩:=hE (w.heap.size);obtain⟨vI,hvI⟩:=hE (SX #[l.v,r.v,x.v,y.v]);obtain⟨vR,hvR⟩:=hE (SX (rgC zS zS zS zS zS zS zS l r x y).toArray);obtain⟨w1,hw1⟩:=hE (w.alloc (.cells #[l.v,r.v,x.v,y.v] 25));have b1:Below w.heap.size w w1:=by rw[<-hw1.out];exact aB _ _
 have B1:Hid ((TF 25 vI).run prog w=.ok (pZ k) w1):=by
  rw[<-hvI.out,<-hw1.out,<-hk.out];exact boxJ _ _ _ _ _ _ _ _ _ _ _ _ w
 have K1:Hid (Below w.heap.size w w1/\Row w1 k [l.v,r.v,x.v,y.v]):=⟨b1,by rw[<-hw1.out,<-hk.out];exact aD w _ _⟩
 have B2:Hid ((VA 28 #[(7,vI)]).run prog w1=.ok vR w1):=by rw[<-hvI.out,<-hvR.out];exact RX l r x y w1
 have hC:Hid (Calls prog 4 #[vR] w1 (ClR w1 l.n r.n (ys1++ys2++[x.v,y.v]++[zS.v,zS.v,zS.v,zS.v,zS.v,zS.v,zS.v]))):=by
  rw[<-hvR.out];exact FS zS zS zS zS zS zS zS l r x y w1 (hL.below b1) (hR.below b1) hS
 have HSz:Hid ((∀s:Sv,s.v∈ys1++ys2++[x.v,y.v]++[zS.v,zS.v,zS.v,zS.v,zS.v,zS.v,zS.v]->s.n<=100)->∀j,(j<l.n->(Lb j).size<=16384)/\(j<r.n->(Rb j).size<=16384)):=λh j=>⟨λhj=>by
  obtain⟨u,hu,hb⟩:=sL j hj;obtain⟨s,rfl,h2⟩:=hsv hb;have:=h s (by simp only[UT];exact SY (SY (SY hu)));omega,λhj=>by
  obtain⟨u,hu,hb⟩:=sR j hj;obtain⟨s,rfl,h2⟩:=hsv hb;have:=h s (by simp only[UT];exact SY (SY (SJ hu)));omega⟩
 have HRows:=Hid.mk' (Tj (Tj pL pR) (Tj (Tj rL rR) (Tj hA hB)));obtain⟨dI,hdI1,hdI2⟩:=Sf.1 Nc;have HDI:=mk2 hdI1 hdI2;rw[hvI.out];go_enter Tryz.func3,Tryz.ntmps3;go_wp2_with (first|(refine aI (u:=vI) (v:=pZ k) (w':=w1) rfl 25 (.tmp 3) rfl ?_ ?_ ?_;rfl;exact B1.out)|(refine wpList_load_mid rfl 25 (.tmp 7) rfl k 0 ?_ [l.v,r.v,x.v,y.v] dI ?_ ?_ ?_ ?_ ?_;rfl;exact K1.2.2.1;exact HDI.1;exact HDI.2;exact Iw;rw[show SX [l.v,r.v,x.v,y.v].toArray=vI from hvI.out])|(refine d6 (v:=vR) (w':=w1) rfl 28 _ rfl #[(7,vI)] ?_ ?_ ?_;kernel_rfl;exact B2.out)|fail)
 refine hC.mono ?_;rintro e w2 ⟨hb2,t,rfl,ht⟩;have K2:=mk2 (K1.1.trans (hb2.mono K1.1.size)) (K1.2.below hb2);have HT:=Hid.mk' ht;by_cases h1:(label.size:Int) > 4096
 ·go_wp2;go_ret;exact⟨rfl,K2.1⟩
 by_cases h2:n > 20
 ·go_wp2;go_ret;exact⟨rfl,K2.1⟩
 by_cases h3:(point.size:Int) > 4096
 ·go_wp2;go_ret;exact⟨rfl,K2.1⟩
 cases t with
 | false =>
  go_wp2;go_ret;exact⟨rfl,K2.1⟩
 | true =>
  obtain⟨Bd,cP,cR⟩:=OM label point oM oM n l r (vA:=x.v) (vB:=y.v) (A:=A) (B:=B) (HSz (HT rfl).2.2);obtain⟨cp,w3,hcv,hcp,hb3,hH3,hlt⟩:=LH point w2;rw[hvI.out]at cP cR;have b23:=K2.1.trans (hb3.mono K2.1.size);have hAp:Arg33 w3 (.slice (some ⟨w2.heap.size,0,none⟩) point.size cp) point.data:=⟨_,_,_,rfl,rfl,λhn=>⟨_,_,rfl,oM,hlt,hH3⟩⟩
  have HP:=Hid.mk' (cP w3 _ hAp (HRows.1.1.below b23) (HRows.1.2.below b23) (HRows.2.2.1.a32.below b23) (HRows.2.2.2.a32.below b23));have K3:=mk2 b23 (K2.2.below hb3);have HR:=Hid.mk' cR;have HCv:=Hid.mk' hcv;go_wp2_with (first|(refine bG (v:=.slice (some ⟨w2.heap.size,0,none⟩) point.size cp) (w':=w3) rfl (.convert 9 23 (.tmp 33)) rfl ?_ ?_;exact I2 HCv.out)|(refine wpList_load_mid rfl 25 (.tmp 7) rfl k 0 ?_ [l.v,r.v,x.v,y.v] dI ?_ ?_ ?_ ?_ ?_;rfl;exact K3.2.2.1;exact HDI.1;exact HDI.2;exact Iw;rw[show SX [l.v,r.v,x.v,y.v].toArray=vI from hvI.out])|fail)
  refine HP.mono ?_;rintro e w4 ⟨uu,rfl,hb4,rfl⟩;have b24:=K3.1.trans (hb4.mono K3.1.size);have K4:=mk2 b24 (K3.2.below hb4);have HQ:=Hid.mk' (HR w4 (HRows.2.1.1.below b24) (HRows.2.1.2.below b24) (HRows.2.2.1.pt.below b24) (HRows.2.2.2.pt.below b24));go_wp2_with (first|(refine wpList_load_mid rfl 25 (.tmp 7) rfl k 0 ?_ [l.v,r.v,x.v,y.v] dI ?_ ?_ ?_ ?_ ?_;rfl;exact K4.2.2.1;exact HDI.1;exact HDI.2;exact Iw;rw[show SX [l.v,r.v,x.v,y.v].toArray=vI from hvI.out])|fail)
  refine HQ.mono ?_;rintro e w5 ⟨uu,rfl,hb5,rfl⟩;have K5:=mk1 (K4.1.trans (hb5.mono K4.1.size));cases Bd
  all_goals
   go_wp2;go_ret;exact⟨rfl,K5.out⟩
end
section
open Go.RowKit Go.Sort Go.Deep Go.ChangeShapes Go.WideShapes Go.ChangeAt
theorem LO:prog.cellsOf 5=1:=kR
theorem EI:prog.cellsOf 23=1:=kR
theorem LN:prog.cellsOf 22=1:=kR
theorem cellsIn:prog.cellsOf 25=4:=kR
theorem Ko{n:Int}(h:(Lit.int .u8 n).wf=true):0<=n/\n<=255:=by
 simp only[Lit.wf,Bool.and_eq_true,decide_eq_true_eq]at h;exact h
section
variable {H:Type}{enc:TypeId × Value->H}{W:World}
theorem rW{n:Nat}{v:Value}{x:DataW H × List MemPlace}(hf:Yx enc prog W 0 (λ_=>true) true n 23 [v]=some x)(hz:W.noneFrozen x.2):∃b:Bs,PtC W v b:=by
 rcases open_ints Tryz.underlying23 Tryz.underlying5 LO hf with⟨hcs,hx⟩|⟨a,l,c,zs,hcs,_,hl,hm,hzl,hx,hcell,hws⟩
 ·simp only[Vy.injEq,and_true]at hcs;subst hcs;exact⟨#[],none,0,rfl,Se _,SY rfl⟩
 ·simp only[Vy.injEq,and_true]at hcs;subst hcs;simp only[if_true]at hzl;subst hx;have hr:∀j,j<l->0<=zs.getD j 0/\zs.getD j 0<=255:=λj hj=>by
   refine Ko (hws _ ?_);rw[List.getD_eq_getElem?_getD,SH oM];exact List.getElem_mem _
  have hsz:((TD l).map λj=>Sy (zs.getD j 0).toNat).toArray.size=l:=by simp
  refine⟨((TD l).map λj=>Sy (zs.getD j 0).toNat).toArray,some a,c,by rw[hsz],by rw[hsz];omega,?_⟩;rw[hsz];by_cases h0:l=0
  ·exact SY h0
  ·right;obtain⟨b,off,spot⟩:=a;have hspot:spot=none:=by simpa[Vw]using YO (hcell 0 oM)
   subst hspot;have hP:∀j,j<l->W.cell? ⟨b,off+j,none⟩=some (.int .u8 (zs.getD j 0)):=λj hj=>by
    rw[<-hcell j oM]
    congr 1
    unfold Vw;by_cases hj0:j=0
    ·subst hj0;rfl
    ·rw[if_neg hj0]
   refine⟨b,off,rfl,TV _ _ (hP 0 oM),λj hj=>?_⟩;rw[hsz]at hj;refine⟨?_,hz b (off+j) (MemPlace.mem_row.2 ⟨j,oM,rfl⟩)⟩;rw[hP j hj];have h1:((TD l).map λj=>Sy (zs.getD j 0).toNat).toArray[j]! = Sy (zs.getD j 0).toNat:=by
    rw[getElem!_pos _ j (by rw[hsz];exact hj)];simp
   rw[h1];obtain⟨y1,y2⟩:=hr j hj;show _=some (Value.int .u8 (((Sy (zs.getD j 0).toNat).toNat:Nat):Int));rw[Vq,SA oM,Int.toNat_of_nonneg y1]
theorem Be{n:Nat}{v:Value}{x:DataW H × List MemPlace}(hf:Yx enc prog W 0 (λ_=>true) true n 22 [v]=some x)(hz:W.noneFrozen x.2):∃(s:Sv) (ys:List Value),v=s.v/\VL W s.q s.n ys/\∀u∈ys,∃b,PtC W u b:=by
 rcases open_slice1 Tryz.underlying22 EI hf with⟨hcs,hx⟩|⟨a,l,c,m,n',V,D,Pl,hcs,_,hl,hm,hmm,hx,hV⟩
 ·simp only[Vy.injEq,and_true]at hcs;subst hcs;exact⟨⟨none,0,0⟩,[],rfl,⟨rfl,λ_=>rfl,SY rfl,λu hu=>by cases hu⟩,λu hu=>by cases hu⟩
 ·simp only[Vy.injEq,and_true]at hcs;subst hcs;simp only[if_true]at hmm;subst hmm;subst hx;have hp:∀u∈(TD l).map V,∃b,PtC W u b:=λu hu=>by
   obtain⟨j,hj,rfl⟩:=List.mem_map.1 hu;have hj':=TM.1 hj;refine rW (hV j oM).2 (λb off hm'=>hz b off (Uv _ (List.mem_flatMap.2 ⟨j,TM.2 oM,hm'⟩)))
  refine⟨⟨some a,l,m⟩,(TD l).map V,rfl,⟨by simp,λe=>(by cases e),?_,λu hu=>?_⟩,hp⟩
  ·by_cases h0:l=0
   ·subst h0;exact SY rfl
   ·obtain⟨b,off,spot⟩:=a;have hspot:spot=none:=by simpa[Vw]using YO (hV 0 oM).1
    subst hspot;have hP:∀j,j<l->W.cell? ⟨b,off+j,none⟩=some (V j):=λj hj=>by
     rw[<-(hV j oM).1,Jp]
    refine SJ ⟨b,off,rfl,TV _ _ (hP 0 oM),λj u hj=>?_⟩;have hj':j<l:=by
     have:=(SI.1 hj).1;simpa using this
    rw[hP j hj',<-hj,List.getElem?_map,List.getElem?_range hj'];rfl
  ·obtain⟨b,hb⟩:=hp u hu;obtain⟨q',c',rfl,-⟩:=hb;rfl
theorem Iu{n:Nat}{cs:List Value}{x:DataW H × List MemPlace}(hf:Yx enc prog W 0 (λ_=>true) true n 25 cs=some x)(hz:W.noneFrozen x.2):
 ∃(l r a b:Sv) (ys1 ys2:List Value),cs=[l.v,r.v,a.v,b.v]/\VL W l.q l.n ys1/\VL W r.q r.n ys2/\(∀u∈ys1,∃b,PtC W u b)/\(∀u∈ys2,∃b,PtC W u b)/\(∃c,PtC W a.v c)/\∃c,PtC W b.v c:=by
 have hl:cs.length=4:=by
  obtain⟨xs,n1,-,-,hl,-⟩:=DataW.trod_struct Tryz.underlying25 hf;rw[cellsIn]at hl;exact hl
 obtain⟨z7,z8,z9,z10,rfl⟩:∃a b c d,cs=[a,b,c,d]:=by
  match cs,hl with
  | [a,b,c,d],_=>exact⟨a,b,c,d,rfl⟩
 obtain⟨w0,w1,w2,w3,n2,rfl,-,i0,i1,i2,i3⟩:=Joins.trod_struct4 Tryz.underlying25 hf;simp only[LN]at i0 i1;simp only[EI]at i2 i3;obtain⟨l,ys1,e7,vl,p7⟩:=Be (v:=z7) i0 (λb off hm=>hz b off (Wt _ hm));obtain⟨r,ys2,e8,vr,p8⟩:=Be (v:=z8) i1 (λb off hm=>hz b off (Uv _ (Wt _ hm)));obtain⟨b9,q9⟩:=rW (v:=z9) i2 (λb off hm=>hz b off (Uv _ (Uv _ (Wt _ hm))));obtain⟨b10,q10⟩:=rW (v:=z10) i3 (λb off hm=>hz b off (Uv _ (Uv _ (Uv _ hm))));have k9:=q9;have k10:=q10;obtain⟨qa,ca,rfl,-⟩:=q9;obtain⟨qb,cb,rfl,-⟩:=q10;subst e7 e8;exact⟨l,r,⟨qa,_,ca⟩,⟨qb,_,cb⟩,ys1,ys2,rfl,vl,vr,p7,p8,⟨b9,k9⟩,b10,k10⟩
end
end
/-
  THE ROW OF 'SpanLooks' round its walk: a text, a number, a text, a struct of slices.
-/
namespace spanLooks
open Go.ChangeShapes Go.WideShapes Go.ChangeAt Go.RowKit
open Go.ChangeMaps (open_string shut_string)
theorem own:ownKnob prog.godebug=none:=kR
theorem laidOut:laidOutB prog=true:=kR
theorem cells9:prog.cellsOf 9=1:=kR
theorem bytes9:prog.bytesOf 9=16:=kR
theorem lifted(os:Os)(started:os.Started)(H:Type)(enc:TypeId × Value->H):
 ReturnsInHanded {} Tryz.checked os 3 .any (Rows.spanLooksSpec.pre6 enc prog Tryz.f3 Rows.spanLooksRow.domain false) (Rows.spanLooksSpec.post enc prog Tryz.f3 false true false false):=by
 refine returnsInHanded_of_change (C:=Tryz.checked) own started kR Tryz.func3
  (ChangeSpec.witness6 (enc:=enc) (C:=Tryz.checked) false ⟨#[],#[.string Ya,iZ 0,.string Ya,.agg #[.slice none 0 0,.slice none 0 0,.slice none 0 0,.slice none 0 0]],[]⟩ 8 kR kR kR kR) ?_
 intro W base args ds gs before hval0 hW hcnd _;have hval:=hval0;have hW':=hW;obtain⟨p,q,hA0,hV,rfl,hfz,hnd⟩:=hW;have hA:DataW.TrodAll enc prog W 0 (λ_=>true) true Tryz.f3.params.toList args.toList ds p:=hA0;rw[Tryz.params3]at hA hval;obtain⟨v0,vs0,d0,ds0,p0,q0,hargs,rfl,rfl,h0,r0⟩:=trodAll_cons hA;obtain⟨v1,vs1,d1,ds1,p1,q1,rfl,rfl,rfl,h1,r1⟩:=trodAll_cons r0;obtain⟨v2,vs2,d2,ds2,p2,q2,rfl,rfl,rfl,h2,r2⟩:=trodAll_cons r1;obtain⟨v3,vs3,d3,ds3,p3,q3,rfl,rfl,rfl,h3,r3⟩:=trodAll_cons r2;obtain⟨rfl,rfl,rfl⟩:=trodAll_nil r3;obtain rfl:args=#[v0,v1,v2,v3]:=by cases args;simp_all
 obtain⟨rfl,rfl⟩:=trodVars_none hV;have k3:=h3;have lt3:∀x∈p3,x.block<W.heap.size:=by obtain⟨m,hm⟩:=k3;exact DataW.trod_lt m _ _ _ hm
 obtain⟨a0,rfl,rfl,rfl,w0⟩:=open_string Tryz.underlying9 (hval 0 9 v0 rfl rfl) h0;obtain⟨a1,rfl,rfl,rfl,w1⟩:=open_int Tryz.underlying3 (hval 1 3 v1 rfl rfl) h1;obtain⟨a2,rfl,rfl,rfl,w2⟩:=open_string Tryz.underlying9 (hval 2 9 v2 rfl rfl) h2;obtain⟨cs0,rfl,hsz0⟩:=okWide_struct Tryz.underlying25 (hval 3 25 v3 rfl rfl);obtain⟨fuel,hf⟩:=h3;obtain⟨l0⟩:=cs0;obtain⟨l,r,x,y,ys1,ys2,e0,hL,hR,hp1,hp2,hx,hy⟩:=Iu (cs:=l0) (by simpa[Value.cells]using hf) (λb off hm=>hfz b off (by simpa using hm));subst e0;refine(Fz a0 a2 a1 l r x y W hL hR hp1 hp2 hx hy).mono λe W' ⟨he,bel⟩=>?_
 subst he;exact⟨_,rfl,_,_,_,[],_,[],hW',trodAll_mk1 (shut_bool Tryz.underlying4 _),trodAll_cons_mk (shut_string Tryz.underlying9 w0) (trodAll_cons_mk (shut_int Tryz.underlying3 w1) (trodAll_cons_mk (shut_string Tryz.underlying9 w2) (trodAll_cons_mk (Below.trod laidOut kR (of_decide_eq_true kR) k3 bel lt3) trodAll_mk0))),rfl,bel.frame _,λh=>by cases h⟩
theorem over:Rows.spanLooksRow.holds Tryz.pinned (OpenSpec.ofChange Rows.spanLooksSpec):=
 OpenClaim.holds_of_wide 3 Tryz.f3 rfl rfl rfl rfl rfl rfl rfl ⟨rfl,rfl,rfl,rfl,rfl⟩ rfl rfl rfl rfl rfl kR Tryz.func3 kR
  (of_decide_eq_true kR) (by unfold Func.isWrapper;first|(rw[if_pos dK];kernel_rfl)|(rw[if_neg dK];exact⟨rfl,rfl⟩))
  (λos started H enc _=>lifted os started H enc)
theorem proved:Rows.SpanLooksSaid:=
 over
end spanLooks
section
theorem spanLooks_holds:Rows.SpanLooksSaid:=spanLooks.proved
#print axioms spanLooks_holds
end
end Go.Proofs.YtnakcnljhmlikaaGreat
