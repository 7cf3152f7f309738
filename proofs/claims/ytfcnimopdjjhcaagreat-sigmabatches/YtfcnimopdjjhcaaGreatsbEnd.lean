import Derived.Laws.OwnMore
import Derived.ArgAppend
import Derived.ChangeOld
import Derived.Below
import Derived.WalkKit
import Derived.ProofKit
import Derived.OpenShut
import Derived.ShutString
import Derived.Deep.Slices
import Derived.Deep.Strs
import Derived.Lib.SmallJoins
import Derived.Test.YtfcnimopdjjhcaaGreatsb8
set_option linter.unusedVariables false
set_option linter.constructorNameAsVariable false
set_option linter.unusedSimpArgs false
set_option maxRecDepth 1000000
set_option maxHeartbeats 4000000
namespace Go.Proofs.YtfcnimopdjjhcaaGreat
open _root_.And renaming intro->Uy
open _root_.Array renaming getElem_toList->Ry,length_toList->P8,replicate->PX,size_extract->QQ,size_replicate->P7,size_setIfInBounds->Qq
open _root_.Bool renaming and_eq_true->P3
open _root_.ByteArray renaming data_extract->UL,empty->UK,ext->XN
open _root_.Go.Addr renaming add_mid->VZ
open _root_.Go.Builtin renaming append_->QS,firstCells->XS,nextslicecap->Ui
open _root_.Go.DataW renaming trod_int->Xa
open _root_.Go.Instr renaming sliceAt->Re
open _root_.Go.Lib renaming wpList_append_run->QC
open _root_.Go.RowKit.Below renaming refl->Qd
open _root_.Go.Value renaming cells->Xv,string->Uq
open _root_.Go.World renaming cells?_some->Wm,frozen?->Ti,size_setCell->Tg
open _root_.List renaming getElem?_append_left->QL,getElem?_append_right->Rn,getElem?_eq_getElem->P6,getElem?_eq_none->RY,getElem?_eq_some_iff->Qe,getElem?_map->QX,getElem?_set_ne->UE,getElem?_set_self->Un,length_append->PY,length_map->Qb,map_append->RL,mem_cons->QU,mem_of_getElem?->QY,not_mem_nil->P4,replicate->QO
open _root_.Nat renaming le_refl->PQ,le_trans->Qn,lt_irrefl->U1,lt_of_lt_of_le->PS,mul_comm->Qr,sub_self->TK,zero_add->PU
open _root_.Option renaming map_eq_some_iff->PV,some->Qh
open _root_.Or renaming inl->Ql,inr->Qc
open _root_.UInt8 renaming ofNat->P9
open Go.Proofs.Tryz (prog)
section
open Go.RowKit Go.Sort Go.Deep
variable {P:Nat}[NeZero P]{N:Nat}
theorem A8{base n m size c:Nat}{T e:TypeId}{i:TypeInfo}{z:Value}{W W':World}{v v':Value}{xs news:List Value}{a:Addr}(hT:prog.underlying T=some (.slice e))(hi:prog.info? e=some i)(hz:i.zero=some z)(hsz:i.size=size)(hby:i.bytes<=1000)
 (hown:W.ownsRow base e size v n xs) (hs:Src prog size T (.slice (some a) m c) m news W) (hn:n+m<=1000000000)
 (hr:(QS #[T,T] T #[v,.slice (some a) m c]).run prog W=.ok v' W'):v'.ownBlock=v.ownBlock\/(v'.ownBlock=some W.heap.size/\Below W.heap.size W W'):=by
 subst hsz;have hgrow:∀(q:Option Addr) (cap:Nat) (olds:List Value),v=.slice q n cap->cap<n+m->(XS i.size n (.slice q n cap)).run prog W.drew=.ok olds.toArray W.drew->v'.ownBlock=v.ownBlock\/(v'.ownBlock=some W.heap.size/\Below W.heap.size W W'):=fun q cap olds hv hc hold=>by
  have h1:=yU (n+m) cap hc;have h2:Ui (n+m) cap*i.bytes<=(2*(n+m)+768)*1000:=Nat.mul_le_mul h1 hby;have hap:=run_append_grow_src (P:=prog) W T T T e i z hT hi hz q n cap olds hold (.slice (some a) m c) m news hs hc (by omega) (Qn h2 (by clear h1 h2;omega));rw[hv,hap]at hr;injection hr with hr1 hr2
  right;refine⟨by rw[<-hr1];rfl,?_⟩;rw[<-hr2];exact(⟨rfl,rfl,rfl,PQ _,fun _ _=>rfl⟩:Below W.heap.size W W.drew).trans (pT W.drew _)
 rcases id hown with⟨-,⟨rfl,rfl⟩|⟨g,cap,cur,rfl,g1,g2,g3,g4,g5,g6⟩⟩
 ·by_cases hm:m=0
  ·subst hm;have hr':=hr;obtain⟨w1,hr2⟩:∃w1,(QS #[T,T] T #[.slice none 0 0,.slice (some a) 0 c]).run prog W=.ok (.slice none 0 0) w1:=by
    rcases hs.kind with⟨e',hk⟩|hk<;>exact⟨_,by simp[QS,run_underlying hT,run_underlying hk,sizeOf,typeInfo,hi,hs.len,hs.cells];rfl⟩
   rw[hr2]at hr;injection hr with hr1 hr2
   left;rw[<-hr1]
  ·exact hgrow none 0 [] rfl (by omega) (run_firstCells_none W.drew i.size 0 0 0)
 ·by_cases hroom:n+m<=cap
  ·have hap:=run_append_room_src (P:=prog) W T T T e i hT hi g 0 n cap (.slice (some a) m c) m news hs hroom
    (fun j hj=>by
     have hj2:n*i.size+j<cur.size:=by
      rw[g5];have h1:j<m*i.size:=by rw[<-hs.newsLen];exact hj
      have h2:(n+m)*i.size<=cap*i.size:=Nat.mul_le_mul_right _ hroom;rw[Nat.add_mul]at h2;omega
     simp[World.cell?,g2,PU,Array.getElem?_eq_getElem hj2])
    (fun j hj=>by simp[Ti,g2])
   rw[hap]at hr;injection hr with hr1 hr2
   left;rw[<-hr1];rfl
  ·refine hgrow (some ⟨g,0,none⟩) cap xs rfl (by omega) ?_;exact run_firstCells_some W.drew i.size n ⟨g,0,none⟩ n cap xs hown.1 (fun j u hj=>by rw[World.cell?_drew];exact hown.cells (g:=g) rfl j u hj)
structure Ap1(W W':World)(v v':Value):Prop where
 os:W'.os=W.os
 tape:W'.tape=W.tape
 output:W'.output=W.output
 size:W.heap.size<=W'.heap.size
 keep:∀g,g<W.heap.size->v.ownBlock≠some g->W'.heap[g]? = W.heap[g]?
 mv:v'.ownBlock=v.ownBlock\/((∃g,v'.ownBlock=some g/\W.heap.size<=g)/\∀g,g<W.heap.size->W'.heap[g]? = W.heap[g]?)
theorem dZ{W W':World}{base n k:Nat}{e:TypeId}{v:Value}{xs:List Value}(h:W.ownsRow base e k v n xs)(hk:∀g,v.ownBlock=some g->W'.heap[g]? = W.heap[g]?):W'.ownsRow base e k v n xs:=by
 rcases h with⟨h0,h1|⟨g,cap,cur,rfl,h2,h3,h4⟩⟩
 ·exact⟨h0,Ql h1⟩
 ·exact⟨h0,Qc ⟨g,cap,cur,rfl,h2,by rw[hk g rfl];exact h3,h4⟩⟩
theorem kM{W:World}{base n k g:Nat}{e:TypeId}{v:Value}{xs:List Value}(h:W.ownsRow base e k v n xs)(hg:v.ownBlock=some g):base<=g/\g<W.heap.size/\∃cur,W.heap[g]? = some (.cells cur e (0,0)):=by
 rcases h with⟨h0,⟨rfl,-⟩|⟨g',cap,cur,rfl,h2,h3,h4⟩⟩
 ·cases hg
 ·obtain rfl:g'=g:=Qh.inj hg;refine⟨h2,?_,cur,h3⟩;by_cases hg:g'<W.heap.size
  ·exact hg
  ·rw[Array.getElem?_eq_none (by omega)]at h3;cases h3
theorem Gl{base n by':Nat}{T e:TypeId}{W:World}{v x:Value}{xs:List Value}(hT:prog.underlying T=some (.slice e))(hI:(prog.info? e).map (fun i=>(i.size,i.bytes,i.zero.map fun z=>z.cells.size))=some (1,by',some 1))(hby:by'<=1000)
 (hown:W.ownsRow base e 1 v n xs) (hx:x.oneCell'=true) (hn:n<=100000000) (hb:base<=W.heap.size) :
 ∃v' W',(QS #[T,T] T #[v,.slice (some ⟨W.heap.size,0,none⟩) 1 1]).run prog (W.alloc (.cells #[x] e))=.ok v' W'/\W'.ownsRow base e 1 v' (n+1) (xs++[x])/\Ap1 W W' v v':=by
 obtain⟨i,hi,he⟩:=PV.1 hI;simp only[Prod.mk.injEq]at he;obtain⟨h1,h2,h3⟩:=he;obtain⟨z,hz,hz2⟩:=PV.1 h3;have ba:=pT W (.cells #[x] e);have hz1:(W.alloc (.cells #[x] e)).heap.size=W.heap.size+1:=World.size_alloc _ _;have ho:(W.alloc (.cells #[x] e)).ownsRow base e 1 v n xs:=dZ hown (fun g hg=>ba.block g (kM hown hg).2.1);have hc:∀(j:Nat) u,[x][j]? = some u->(W.alloc (.cells #[x] e)).cell? ((⟨W.heap.size,0,none⟩:Addr).add j)=some u:=fun j u hj=>by
  rw[KV,PU];exact BX W _ _ j u (by simpa using hj)
 have h1x:∀u∈[x],u.oneCell'=true:=fun u hu=>by
  obtain rfl:u=x:=by simpa using hu
  exact hx
 obtain⟨v',W',r1,r2,r3,-⟩:=run_append_own (P:=prog) (W.alloc (.cells #[x] e)) base T T e i z 1 by' hT hi hz h1 h2 hz2 (by decide) v n xs ho ⟨W.heap.size,0,none⟩ 1 1 [x] rfl hc h1x (by unfold maxLen;omega) (by
  have:(n+1)*by'<=(n+1)*1000:=Nat.mul_le_mul_left _ hby;omega) (by omega)
 have hq:=A8 (c:=1) hT hi hz h1 (by omega) ho (Src.ofSlice (P:=prog) (size:=1) (W.alloc (.cells #[x] e)) hT ⟨W.heap.size,0,none⟩ 1 1 [x] rfl hc h1x) (by omega) r1;refine⟨v',W',r1,r2,r3.os,r3.tape,r3.output,by have:=r3.size;omega,fun g hg hv=>?_,?_⟩
 ·rw[r3.block g (by omega) (fun h=>hv h.symm),ba.block g hg]
 ·rcases hq with h|⟨h,hbl⟩
  ·exact Ql h
  ·refine Qc ⟨⟨_,h,by omega⟩,fun g hg=>?_⟩;rw[hbl.block g (by omega),ba.block g hg]
noncomputable def bRs (P:Nat) [NeZero P] (N:Nat) (n0 n:Nat) (Pb Sg:Nat->Bs) (Tx:Nat->List UInt8):Bool × Nat:=if n0=n then(if n<=64 then(btA P N n Pb Sg Tx,0) else(false,1)) else(false,2)
theorem Kg(C:Fl3 P)(O:Ord N)(hord:∀r:EC.Pt P,EC.On r->EC.mul N r=none)(q0 q1 q2:Option Addr)(n0 n c0 c1 c2:Nat)(hn0:n0<=1000)(hn:n<=1000)(Pb Sg:Nat->Bs)(Tx:Nat->List UInt8)(w:World)(hB:n0=n->BL w q0 n (fun i=>(Pb i).toList)/\BL w q1 n Tx/\BL w q2 n (fun i=>(Sg i).toList)):
 Calls prog 8 #[.slice q0 n0 c0,.slice q1 n c1,.slice q2 n c2] w (Ret fun e w'=>Below w.heap.size w w'/\e=.tuple #[.bool (bRs P N n0 n Pb Sg Tx).1,.int .i64 ((bRs P N n0 n Pb Sg Tx).2:Int)]):=by
 by_cases he:n0=n
 ·subst he;by_cases h64:n0<=64
  ·have e:bRs P N n0 n0 Pb Sg Tx=(btA P N n0 Pb Sg Tx,0):=by unfold bRs;rw[if_pos rfl,if_pos h64]
   rw[e];obtain⟨h0,h1,h2⟩:=hB rfl;exact Kf C O hord q0 q1 q2 n0 c0 c1 c2 h64 Pb Sg Tx w h0 h1 h2
  ·have e:bRs P N n0 n0 Pb Sg Tx=(false,1):=by unfold bRs;rw[if_pos rfl,if_neg h64]
   rw[e];have g:(64:Int)<(n0:Int):=by omega
   clear hB C O hord e h64;go_enter Tryz.func8,Tryz.ntmps8;go_wp2
   go_ret2
   exact⟨_,rfl,Qd _ _,rfl⟩
 ·have e:bRs P N n0 n Pb Sg Tx=(false,2):=by unfold bRs;rw[if_neg he]
  rw[e];have g:¬(n0:Int)=(n:Int):=by omega
  have g2:((n0:Int) == (n:Int))=false:=by simpa using g
  clear hB C O hord e he;go_enter Tryz.func8,Tryz.ntmps8;go_wp2
  go_ret2
  exact⟨_,rfl,Qd _ _,rfl⟩
theorem Gb(C:Fl3 P)(O:Ord N)(q0 q1 q2:Option Addr)(n0 n c0 c1 c2:Nat)(hn0:n0<=1000)(hn:n<=1000)(Sp St Ss:Nat->ByteArray)(w:World)(hB:n0=n->(∀i,i<n->(Sp i).size<=16384/\(St i).size<=16384/\(Ss i).size<=16384)/\TL w q0 n Sp/\TL w q1 n St/\TL w q2 n Ss):
 Calls prog 9 #[.slice q0 n0 c0,.slice q1 n c1,.slice q2 n c2] w (Ret fun e w'=>Below w.heap.size w w'/\e=.tuple #[.bool (bRs P N n0 n (fun i=>(Sp i).data) (fun i=>(Ss i).data) (fun i=>(St i).data.toList)).1,.int .i64 ((bRs P N n0 n (fun i=>(Sp i).data) (fun i=>(Ss i).data) (fun i=>(St i).data.toList)).2:Int)]):=by
 by_cases he:n0=n
 ·subst he;by_cases h64:n0<=64
  ·have e:bRs P N n0 n0 (fun i=>(Sp i).data) (fun i=>(Ss i).data) (fun i=>(St i).data.toList)=(btA P N n0 (fun i=>(Sp i).data) (fun i=>(Ss i).data) (fun i=>(St i).data.toList),0):=by unfold bRs;rw[if_pos rfl,if_pos h64]
   rw[e];obtain⟨hsz,h0,h1,h2⟩:=hB rfl;exact F9 C O q0 q1 q2 n0 c0 c1 c2 h64 Sp St Ss hsz w h0 h1 h2
  ·have e:bRs P N n0 n0 (fun i=>(Sp i).data) (fun i=>(Ss i).data) (fun i=>(St i).data.toList)=(false,1):=by unfold bRs;rw[if_pos rfl,if_neg h64]
   rw[e];have g:(64:Int)<(n0:Int):=by omega
   clear hB C O e h64;go_enter Tryz.func9,Tryz.ntmps9;go_wp2
   go_ret2
   exact⟨_,rfl,Qd _ _,rfl⟩
 ·have e:bRs P N n0 n (fun i=>(Sp i).data) (fun i=>(Ss i).data) (fun i=>(St i).data.toList)=(false,2):=by unfold bRs;rw[if_neg he]
  rw[e];have g:¬(n:Int)=(n0:Int):=by omega
  have g2:((n:Int) == (n0:Int))=false:=by simpa using g
  clear hB C O e he;go_enter Tryz.func9,Tryz.ntmps9;go_wp2
  go_ret2
  exact⟨_,rfl,Qd _ _,rfl⟩
abbrev LR:=TypeId × Value × List Value
structure Six(W:World)(B:Nat)(R:List LR):Prop where
 ow:∀(k:Nat) (r:LR),R[k]? = some r->W.ownsRow B r.1 1 r.2.1 r.2.2.length r.2.2
 ap:∀(k l:Nat) (r s:LR),R[k]? = some r->R[l]? = some s->k≠l->∀g,r.2.1.ownBlock=some g->s.2.1.ownBlock≠some g
def ElR(W:World)(R:List LR)(v:Value)(b:Bs):Prop:=∃g c,v=.slice (some ⟨g,0,none⟩) b.size c/\b.size<=c/\g<W.heap.size/\Holds encB W g 0 b/\∀(k:Nat) (r:LR),R[k]? = some r->r.2.1.ownBlock≠some g
theorem Six.below{W W':World}{B:Nat}{R:List LR}(h:Six W B R)(hb:Below W.heap.size W W'):Six W' B R:=⟨fun k r hk=>dZ (h.ow k r hk) (fun g hg=>hb.block g (kM (h.ow k r hk) hg).2.1),h.ap⟩
theorem ElR.below{W W':World}{R:List LR}{v:Value}{b:Bs}(h:ElR W R v b)(hb:Below W.heap.size W W'):ElR W' R v b:=by
 obtain⟨g,c,h1,h2,h3,h4,h5⟩:=h;exact⟨g,c,h1,h2,PS h3 hb.size,Holds.kept h4 (hb.block g h3),h5⟩
theorem ElR.new{W W0:World}{B:Nat}{R:List LR}{g c:Nat}{b:Bs}(hS:Six W0 B R)(h1:b.size<=c)(h2:W0.heap.size<=g)(h3:g<W.heap.size)(h4:Holds encB W g 0 b):ElR W R (.slice (some ⟨g,0,none⟩) b.size c) b:=
 ⟨g,c,rfl,h1,h3,h4,fun k r hk e=>by have:=(kM (hS.ow k r hk) e).2.1;omega⟩
theorem ElR.part{W:World}{R:List LR}{v:Value}{b:Bs}(h:ElR W R v b)(hb:b.size<=16384):SP.PartOk W v b.toList:=by
 obtain⟨g,c,rfl,h2,h3,h4,-⟩:=h;exact⟨_,g,0,c,b,rfl,rfl,h2,Qn hb (by decide),Qc ⟨rfl,h4⟩⟩
theorem Six.app{W:World}{B k by':Nat}{R:List LR}{T e:TypeId}{v x:Value}{xs:List Value}(h:Six W B R)(hk:R[k]? = some (e,v,xs))(hT:prog.underlying T=some (.slice e))(hI:(prog.info? e).map (fun i=>(i.size,i.bytes,i.zero.map fun z=>z.cells.size))=some (1,by',some 1))(hby:by'<=1000)(hx:x.oneCell'=true)(hn:xs.length<=1000)(hB:B<=W.heap.size):
 ∃v' W',(QS #[T,T] T #[v,.slice (some ⟨W.heap.size,0,none⟩) 1 1]).run prog (W.alloc (.cells #[x] e))=.ok v' W'/\Six W' B (R.set k (e,v',xs++[x]))/\Below B W W'/\∀y b,ElR W R y b->ElR W' (R.set k (e,v',xs++[x])) y b:=by
 have hkl:k<R.length:=(Qe.1 hk).1;have hov:=h.ow k _ hk;obtain⟨v',W',r1,r2,r3⟩:=Gl hT hI hby hov hx (show xs.length<=100000000 by omega) hB;have r2':W'.ownsRow B e 1 v' (xs++[x]).length (xs++[x]):=by rw[PY];exact r2
 have hget:∀(l:Nat) (r:LR),(R.set k (e,v',xs++[x]))[l]? = some r->(l=k/\r=(e,v',xs++[x]))\/(l≠k/\R[l]? = some r):=fun l r hl=>by
  by_cases hlk:l=k
  ·subst hlk;rw[Un hkl]at hl;exact Ql ⟨rfl,(Qh.inj hl).symm⟩
  ·rw[UE (fun h=>hlk h.symm)]at hl;exact Qc ⟨hlk,hl⟩
 refine⟨v',W',r1,⟨fun l r hl=>?_,fun l m r s hl hm hne g hg hg'=>?_⟩,⟨r3.os,r3.tape,r3.output,r3.size,fun g hg=>r3.keep g (by omega) (fun e'=>by have:=(kM hov e').1;omega)⟩,fun y b hy=>?_⟩
 ·rcases hget l r hl with⟨-,rfl⟩|⟨hlk,hl⟩
  ·exact r2'
  ·exact dZ (h.ow l r hl) (fun g hg=>r3.keep g (kM (h.ow l r hl) hg).2.1 (h.ap l k r _ hl hk hlk g hg))
 ·rcases hget l r hl with⟨rfl,rfl⟩|⟨hlk,hl⟩
  ·clear hl;rcases hget m s hm with⟨rfl,-⟩|⟨hmk,hm⟩
   ·exact hne rfl
   ·rcases r3.mv with e1|⟨⟨g1,e1,e2⟩,-⟩
    ·exact h.ap l m _ s hk hm hne g (by rw[<-e1];exact hg) hg'
    ·have:=(kM (h.ow m s hm) hg').2.1;have hg2:v'.ownBlock=some g:=hg;rw[e1]at hg2;have:=Qh.inj hg2;omega
  ·have hl2:R[l]? = some r:=hl;rcases hget m s hm with⟨rfl,rfl⟩|⟨hmk,hm⟩
   ·rcases r3.mv with e1|⟨⟨g1,e1,e2⟩,-⟩
    ·exact h.ap l m r _ hl2 hk hne g hg (by rw[<-e1];exact hg')
    ·have:=(kM (h.ow l r hl2) hg).2.1;have hg2:v'.ownBlock=some g:=hg';rw[e1]at hg2;have:=Qh.inj hg2;omega
   ·exact h.ap l m r s hl2 hm hne g hg hg'
 ·obtain⟨g,c,h1,h2,h3,h4,h5⟩:=hy;refine⟨g,c,h1,h2,PS h3 r3.size,Holds.kept h4 (r3.keep g h3 (h5 k _ hk)),fun l r hl=>?_⟩;rcases hget l r hl with⟨-,rfl⟩|⟨hlk,hl⟩
  ·rcases r3.mv with e1|⟨⟨g1,e1,e2⟩,-⟩
   ·intro e';exact h5 k _ hk (by rw[<-e1];exact e')
   ·intro e';have e'':v'.ownBlock=some g:=e';rw[e1]at e'';have:=Qh.inj e'';omega
  ·exact h5 l r hl
theorem byte_of(z:Int):∃u:UInt8,z%256=ub u:=by
 refine⟨P9 (z%256).toNat,?_⟩;show _=((P9 (z%256).toNat).toNat:Int);rw[UInt8.toNat_ofNat',Nat.mod_eq_of_lt (by omega)];omega
theorem AA{T:Bs}{i j:Nat}{u:UInt8}(hj:j<T.size):(T.setIfInBounds i u)[j]! = if i=j then u else T[j]!:=by
 rw[getElem!_pos (T.setIfInBounds i u) j (by rw[Qq];exact hj),Array.getElem_setIfInBounds hj,getElem!_pos T j hj]
theorem Lr(n:Int)(w:World):Calls prog 4 #[.int .i64 n] w (Ret fun e w'=>Below w.heap.size w w'/\∃T:Bs,e=.string ⟨T⟩/\T.size=32/\(∀j,j<20->T[j]! = 0)/\T[20]! = 1):=by
 have hmk:=O9 w;have hH0:Holds encB (w.alloc (.cells (madeCells #[.int .u8 0] 32) 5)) w.heap.size 0 (PX 32 0):=Holds.made (enc:=encB) w 5 32 0;obtain⟨k,hk⟩:∃k,Hid (w.heap.size=k):=⟨_,rfl⟩
 obtain⟨w1,hw1⟩:∃w1,Hid (w.alloc (.cells (madeCells #[.int .u8 0] 32) 5)=w1):=⟨_,rfl⟩
 have K1:Hid (Below w.heap.size w w1/\Holds encB w1 k 0 (PX 32 0)/\(PX 32 (0:UInt8)).size=32/\∀j,j<24->(PX 32 (0:UInt8))[j]! = 0):=by
  refine⟨by rw[<-hw1.out];exact aE _ _,by rw[<-hw1.out,<-hk.out];exact hH0,P7,fun j hj=>?_⟩;rw[getElem!_pos _ j (by rw[P7];omega),Array.getElem_replicate]
 rw[hw1.out,hk.out]at hmk;clear hH0 hw1;go_enter Tryz.func4,Tryz.ntmps4;go_wp2;clear hmk;go_loopg [4] 8 (fun gk s4 W=>∃(i:Nat) (T:Bs),i+gk=8/\s4=.int .i64 i/\Hid (Below w.heap.size w W/\Holds encB W k 0 T/\T.size=32/\∀j,j<24->T[j]! = 0))
 case atStart=>exact⟨0,_,by omega,rfl,K1⟩
 case round =>
  clear K1;obtain⟨i,T,hi,rfl,KM⟩:=hrel;by_cases h8:i<8
  ·have hi8:i=0\/i=1\/i=2\/i=3\/i=4\/i=5\/i=6\/i=7:=by omega
   have hnx:∀(j:Nat) (u:UInt8),24<=j->j<32->Hid (Below w.heap.size w (wr.setCell ⟨k,j,none⟩ (.int .u8 (ub u)))/\Holds encB (wr.setCell ⟨k,j,none⟩ (.int .u8 (ub u))) k 0 (T.setIfInBounds j u)/\(T.setIfInBounds j u).size=32/\∀t,t<24->(T.setIfInBounds j u)[t]! = 0):=fun j u hj1 hj2=>by
    obtain⟨a1,a2,a3,a4⟩:=KM.out;refine⟨a1.setCell (p:=⟨k,j,none⟩) (by show w.heap.size<=k;rw[hk.out];exact PQ _) _,?_,by rw[Qq];exact a3,fun t ht=>?_⟩
    ·have:=Holds.set a2 (i:=j) (by omega) u;rw[PU]at this;exact this
    ·rw[AA (by omega),if_neg (by omega)];exact a4 t ht
   have HNX:=Hid.mk' hnx;have hce:∀j,j<32->∃v,wr.cell? ⟨k,j,none⟩=some v/\wr.frozen? ⟨k,j,none⟩=false:=fun j hj=>by
    have:=KM.out.2.1 j (by rw[KM.out.2.2.1];exact hj);rw[PU]at this;exact⟨_,this⟩
   clear hnx h8 KM;rcases hi8 with rfl|rfl|rfl|rfl|rfl|rfl|rfl|rfl
   ·obtain⟨u,hu⟩:=byte_of (n);obtain⟨v,hv1,hv2⟩:=hce 31 (by omega);have KN:=HNX.out 31 u (by omega) (by omega);clear hce;go_wp2;go_roundg (gk-1)
    case measure=>omega
    case rel=>exact⟨1,_,by omega,rfl,KN⟩
   ·obtain⟨u,hu⟩:=byte_of (n/256);obtain⟨v,hv1,hv2⟩:=hce 30 (by omega);have KN:=HNX.out 30 u (by omega) (by omega);clear hce;go_wp2;go_roundg (gk-1)
    case measure=>omega
    case rel=>exact⟨2,_,by omega,rfl,KN⟩
   ·obtain⟨u,hu⟩:=byte_of (n/65536);obtain⟨v,hv1,hv2⟩:=hce 29 (by omega);have KN:=HNX.out 29 u (by omega) (by omega);clear hce;go_wp2;go_roundg (gk-1)
    case measure=>omega
    case rel=>exact⟨3,_,by omega,rfl,KN⟩
   ·obtain⟨u,hu⟩:=byte_of (n/16777216);obtain⟨v,hv1,hv2⟩:=hce 28 (by omega);have KN:=HNX.out 28 u (by omega) (by omega);clear hce;go_wp2;go_roundg (gk-1)
    case measure=>omega
    case rel=>exact⟨4,_,by omega,rfl,KN⟩
   ·obtain⟨u,hu⟩:=byte_of (n/4294967296);obtain⟨v,hv1,hv2⟩:=hce 27 (by omega);have KN:=HNX.out 27 u (by omega) (by omega);clear hce;go_wp2;go_roundg (gk-1)
    case measure=>omega
    case rel=>exact⟨5,_,by omega,rfl,KN⟩
   ·obtain⟨u,hu⟩:=byte_of (n/1099511627776);obtain⟨v,hv1,hv2⟩:=hce 26 (by omega);have KN:=HNX.out 26 u (by omega) (by omega);clear hce;go_wp2;go_roundg (gk-1)
    case measure=>omega
    case rel=>exact⟨6,_,by omega,rfl,KN⟩
   ·obtain⟨u,hu⟩:=byte_of (n/281474976710656);obtain⟨v,hv1,hv2⟩:=hce 25 (by omega);have KN:=HNX.out 25 u (by omega) (by omega);clear hce;go_wp2;go_roundg (gk-1)
    case measure=>omega
    case rel=>exact⟨7,_,by omega,rfl,KN⟩
   ·obtain⟨u,hu⟩:=byte_of (n/72057594037927936);obtain⟨v,hv1,hv2⟩:=hce 24 (by omega);have KN:=HNX.out 24 u (by omega) (by omega);clear hce;go_wp2;go_roundg (gk-1)
    case measure=>omega
    case rel=>exact⟨8,_,by omega,rfl,KN⟩
  ·have h8':¬(i:Int)<8:=by omega
   obtain⟨a1,a2,a3,a4⟩:=KM.out;obtain⟨c20,f20⟩:=a2 20 (by omega);rw[PU]at c20 f20;have H2:Holds encB (wr.setCell ⟨k,20,none⟩ (.int .u8 1)) k 0 (T.setIfInBounds 20 1):=by
    have:=Holds.set a2 (i:=20) (by omega) 1;rw[PU]at this;exact this
   have hcv:=SP.conv_str prog 28 9 5 SP.slice22 SP.int5 SP.str9 (wr.setCell ⟨k,20,none⟩ (.int .u8 1)) k 0 32 32 (T.setIfInBounds 20 1) H2 (by rw[Qq];exact a3);have KF:Hid (Below w.heap.size w (wr.setCell ⟨k,20,none⟩ (.int .u8 1))/\(T.setIfInBounds 20 1).size=32/\(∀j,j<20->(T.setIfInBounds 20 1)[j]! = 0)/\(T.setIfInBounds 20 1)[20]! = 1):=by
    refine⟨a1.setCell (p:=⟨k,20,none⟩) (by show w.heap.size<=k;rw[hk.out];exact PQ _) _,by rw[Qq];exact a3,fun j hj=>?_,?_⟩
    ·rw[AA (by omega),if_neg (by omega)];exact a4 j (by omega)
    ·rw[AA (by omega),if_pos rfl]
   generalize T.setIfInBounds 20 1=T2 at hcv KF;clear a1 a2 a3 a4 H2 KM;go_wp2;go_ret;exact⟨_,rfl,KF.out.1,_,rfl,KF.out.2⟩
theorem Dw:∀n,beV (QO n (0:UInt8))=0
 | 0=>rfl
 | n+1=>by rw[List.replicate_succ,nR,Dw n];simp
theorem IV{T:Bs}(hs:T.size=32)(h0:∀j,j<20->T[j]! = 0)(h1:T[20]! = 1):beV T.toList≠0/\beV T.toList<2^248:=by
 have e1:T.toList.take 20=QO 20 0:=by
  apply List.ext_getElem?;intro j;by_cases hj:j<20
  ·rw[List.getElem?_take,if_pos hj,P6 (by rw[P8];omega),List.getElem?_replicate,if_pos hj,Ry];have:=h0 j hj;rw[getElem!_pos T j (by omega)]at this;rw[this]
  ·rw[RY (by rw[List.length_take];omega),RY (by rw[List.length_replicate];omega)]
 have e2:T.toList.drop 20=1 :: T.toList.drop 21:=by
  rw[List.drop_eq_getElem_cons (by rw[P8];omega),Ry];rw[getElem!_pos T 20 (by omega)]at h1;rw[h1]
 have e3:T.toList=QO 20 0++(1 :: T.toList.drop 21):=by rw[<-e1,<-e2,List.take_append_drop]
 have hl:(T.toList.drop 21).length=11:=by rw[List.length_drop,P8];omega
 have hb:=xB (T.toList.drop 21);rw[hl]at hb;rw[e3,cX,Dw,nR,hl];have:(1:UInt8).toNat=1:=rfl;rw[this];constructor
 ·omega
 ·omega
structure Dt where
 pub:Bs
 sg:Bs
 tx:ByteArray
def DOk(d:Dt):Prop:=d.pub.size=33/\d.sg.size=65/\d.tx.size<=4096
def DRt(P:Nat)[NeZero P](N:Nat)(d:Dt):Prop:=bOk P N d.pub d.sg=true/\EC.mul (bZ P N d.sg) (gG P)=EC.add (jU P (d.sg.extract 0 33)) (EC.mul (rsC N d.pub d.sg d.tx.data.toList) (jU P d.pub))
def SgR(W:World)(sg:Bs)(e:Value)(w':World):Prop:=Below W.heap.size W w'/\∃g c,e=.tuple #[.slice (some ⟨g,0,none⟩) 65 c,.int .i64 0]/\65<=c/\W.heap.size<=g/\g<w'.heap.size/\Holds encB w' g 0 sg
theorem zM(C:Fl3 P)(O:Ord N)(hord:∀r:EC.Pt P,EC.On r->EC.mul N r=none)(hpr:NT.IsP N)(hbig:2^248<N){T:Bs}(hs:T.size=32)(h0:∀j,j<20->T[j]! = 0)(h1:T[20]! = 1)(tx:ByteArray)(htx:tx.size<=4096):∃pub sg:Bs,DOk ⟨pub,sg,tx⟩/\DRt P N ⟨pub,sg,tx⟩ /\
 (∀(W:World) (gs cs g c:Nat),32<=cs->gs<W.heap.size->Holds encB W gs 0 T->33<=c->g<W.heap.size->Holds encB W g 0 (wr (gG P))->Calls prog 5 #[.slice (some ⟨gs,0,none⟩) 32 cs,.slice (some ⟨g,0,none⟩) 33 c] W (Ret fun e w'=>Below W.heap.size W w'/\Cd W pub e w')) /\
 (∀(W:World) (gs cs gt ct:Nat),32<=cs->gs<W.heap.size->Holds encB W gs 0 T->tx.size<=ct->Holds encB W gt 0 tx.data->Calls prog 7 #[.slice (some ⟨gs,0,none⟩) 32 cs,.slice (some ⟨gt,0,none⟩) tx.size ct] W (Ret (SgR W sg))):=by
 obtain⟨x0,xb⟩:=IV hs h0 h1;obtain⟨x,hx⟩:∃x,beV T.toList=x:=⟨_,rfl⟩
 rw[hx]at x0 xb;have xN:x<N:=Nat.lt_trans xb hbig;have hrq:rq N T=some x:=by unfold rq;rw[hx,if_pos ⟨hs,xN⟩]
 have hg:=nE C.toFld;have nG:gG P≠none:=fun h=>by unfold gG at h;cases h
 have nxG:EC.mul x (gG P)≠none:=mul_ne C.toFld hord hpr hg nG xN x0;obtain⟨ra,pa⟩:=I5 C (EC.bI C.toFld.cur hg x) nxG;obtain⟨kk,hkk⟩:∃kk,chL N Be.data.toList [T.toList,tx.data.toList]=kk:=⟨_,rfl⟩
 obtain⟨cc,hcc⟩:∃c,asg N (wr (EC.mul x (gG P))).toList (wr (EC.mul kk (gG P))).toList tx.data.toList=c:=⟨_,rfl⟩
 obtain⟨z,hz⟩:∃z,sPl N kk (sTi N cc x)=z:=⟨_,rfl⟩
 have hzN:z<N:=by rw[<-hz];exact Nat.mod_lt _ O.pos
 obtain⟨q,hq,hqp⟩:=rC C.toFld (EC.bI C.toFld.cur hg kk);obtain⟨e1,e2⟩:=Ms (aX (EC.mul kk (gG P))) (cN z);have h65:(wr (EC.mul kk (gG P))++bx z).size=65:=by rw[Array.size_append,aX,cN]
 have hRp:cY P N (wr (EC.mul kk (gG P))++bx z)=true:=by
  unfold cY;rw[e1,e2,hq,Kn O hzN,decide_eq_true h65];rfl
 refine⟨wr (EC.mul x (gG P)),wr (EC.mul kk (gG P))++bx z,⟨aX _,h65,htx⟩,⟨?_,?_⟩,fun W gs cs g c k1 k2 k3 k4 k5 k6=>?_,fun W gs cs gt ct k1 k2 k3 k4 k5=>?_⟩
 ·unfold bOk;rw[ra,hRp];rfl
 ·show EC.mul (bZ P N (wr (EC.mul kk (gG P))++bx z)) (gG P)=EC.add (jU P ((wr (EC.mul kk (gG P))++bx z).extract 0 33)) (EC.mul (rsC N (wr (EC.mul x (gG P))) (wr (EC.mul kk (gG P))++bx z) tx.data.toList) (jU P (wr (EC.mul x (gG P)))));have hpk:jU P (wr (EC.mul kk (gG P)))=EC.mul kk (gG P):=by unfold jU;rw[hq];exact hqp
  unfold bZ rsC;rw[hRp,if_pos rfl,e1,e2,NE O hzN,pa,hpk,hcc,<-hz];unfold sPl sTi;rw[mul_mod C.toFld hord hg,EC.mul_add C.toFld.cur hg,mul_mod C.toFld hord hg,Qr cc x,EC.fH C.toFld.cur hg]
 ·refine(GU C.toFld O.gap O.le _ _ T _ W ⟨_,_,_,rfl,hs,fun _=>⟨gs,0,rfl,by omega,k2,k3⟩⟩ (Ka (X:=gG P) ⟨k4,k5,hg,k6⟩)).mono ?_;rintro e w' ⟨v,rfl,hb,hR⟩;have:=hR.q C.toFld O.le;unfold Cc at this;obtain⟨pg,hpg,hpp⟩:=rC C.toFld hg;rw[hrq,hpg]at this;have this:Cd W (wr (EC.mul x (pt pg))) v w':=this;rw[hpp]at this;exact⟨_,rfl,hb,this⟩
 ·have hp0:SP.PartOk W (.slice (some ⟨gs,0,none⟩) 32 cs) T.toList:=⟨_,gs,0,cs,T,by rw[hs],rfl,by omega,by omega,Qc ⟨rfl,k3⟩⟩
  have hp1:SP.PartOk W (.slice (some ⟨gt,0,none⟩) tx.size ct) tx.data.toList:=⟨_,gt,0,ct,tx.data,rfl,rfl,k4,Qn htx (by decide),Qc ⟨rfl,k5⟩⟩
  refine(Lq C.toFld O _ _ 32 cs tx.size ct T tx.data W ⟨_,_,_,rfl,hs,fun _=>⟨gs,0,rfl,by omega,k2,k3⟩⟩ hp0 hp1 x hrq x0 kk cc z hkk hcc hz).mono ?_;rintro e w' ⟨u,rfl,hb,v,rfl,hA⟩;have hA0:w'.ownsRow W.heap.size 5 1 v 65 (((wr (EC.mul kk (gG P))).toList++(bx z).toList).map encB):=hA;rw[<-Array.toList_append]at hA0;obtain⟨g,c,rfl,l1,-,l3,l4⟩:=Jr hA0 (by decide) h65;have l0:W.heap.size<=g:=by
   rcases hA0.2 with⟨e,-⟩|⟨g',cap,cur,e,hb',-⟩
   ·cases e
   ·injection e with e _ _
    injection e with e
    injection e with e _ _
    subst e;exact hb'
  exact⟨_,rfl,hb,g,c,rfl,l1,l0,l3,l4⟩
theorem BU(C:Fl3 P)(O:Ord N)(hord:∀r:EC.Pt P,EC.On r->EC.mul N r=none)(n:Nat)(D:Nat->Dt)(h:∀i,i<n->DRt P N (D i)):btA P N n (fun i=>(D i).pub) (fun i=>(D i).sg) (fun i=>(D i).tx.data.toList)=true:=by
 unfold btA;rw[decide_eq_true (fun i hi=>(h i hi).1),Bool.true_and,decide_eq_true];refine Hu C.toFld hord (nE C.toFld) _ fun e he=>?_
 unfold ent at he;obtain⟨i,hi,rfl⟩:=List.mem_map.1 he;obtain⟨h1,h2⟩:=h i (List.mem_range.1 hi);unfold bOk at h1;rw[P3]at h1;have h3:=h1.2;unfold cY at h3;simp only[P3,decide_eq_true_eq]at h3;exact⟨⟨(fS C h3.2.1).2,(fS C (mV h1.1)).2⟩,h2⟩
theorem wJ:(prog.info? 9).map (fun i=>(i.size,i.bytes,i.zero.map fun z=>z.cells.size))=some (1,16,some 1):=by kernel_rfl
theorem Cl:prog.underlying 24=some (.slice 9):=by kernel_rfl
theorem OC(u:UInt8):bits .xor .u8 (ub u) 1=ub (u ^^^ 1):=by
 have H:∀j:Fin 256,bits .xor .u8 (j.val:Int) 1=(((P9 j.val ^^^ 1).toNat:Nat):Int):=by decide +kernel
 have:=H ⟨u.toNat,u.toNat_lt⟩;simp only[UInt8.ofNat_toNat]at this;exact this
def EnL(w:World)(q:Option Addr)(n:Nat)(A B:Nat->Int)(X:Nat->ByteArray):Prop:=0<n->∃g o,q=some ⟨g,o,none⟩/\g<w.heap.size/\∀i,i<n->w.cell? ⟨g,o+3*i,none⟩=some (.int .i64 (A i))/\w.cell? ⟨g,o+3*i+1,none⟩=some (.int .i64 (B i))/\w.cell? ⟨g,o+3*i+2,none⟩=some (.string (X i))
theorem NS(g o n c i:Nat)(hi:i<n)(w:World):(Instr.indexAt 22 (.slice (some ⟨g,o,none⟩) n c) (.int .i64 i)).run prog w=.ok (.pointer (some ⟨g,o+3*i,none⟩)) w:=by
 have h1:¬(i:Int)<0:=by omega
 have h2:(i:Int)<(n:Int):=by omega
 go_simp
def mkR(v0 v1 v2 v3 v4 v5:Value)(x0 x1 x2 x3 x4 x5:List Value):List LR:=[(28,v0,x0),(28,v1,x1),(28,v2,x2),(9,v3,x3),(9,v4,x4),(9,v5,x5)]
structure Lw(P:Nat)[NeZero P](N:Nat)(w W:World)(v0 v1 v2 v3 v4 v5:Value)(x0 x1 x2:List Value)(D:List Dt)(bb:Bool):Prop where
 bl:Below w.heap.size w W
 six:Six W w.heap.size (mkR v0 v1 v2 v3 v4 v5 x0 x1 x2 (D.map fun d=>.string ⟨d.pub⟩) (D.map fun d=>.string d.tx) (D.map fun d=>.string ⟨d.sg⟩))
 l0:x0.length=D.length
 l1:x1.length=D.length
 l2:x2.length=D.length
 el:∀(i:Nat) (d:Dt),D[i]? = some d->DOk d/\∃a b c,x0[i]? = some a/\x1[i]? = some b/\x2[i]? = some c/\ElR W (mkR v0 v1 v2 v3 v4 v5 x0 x1 x2 (D.map fun d=>.string ⟨d.pub⟩) (D.map fun d=>.string d.tx) (D.map fun d=>.string ⟨d.sg⟩)) a d.pub/\ElR W (mkR v0 v1 v2 v3 v4 v5 x0 x1 x2 (D.map fun d=>.string ⟨d.pub⟩) (D.map fun d=>.string d.tx) (D.map fun d=>.string ⟨d.sg⟩)) b d.tx.data/\ElR W (mkR v0 v1 v2 v3 v4 v5 x0 x1 x2 (D.map fun d=>.string ⟨d.pub⟩) (D.map fun d=>.string d.tx) (D.map fun d=>.string ⟨d.sg⟩)) c d.sg
 al:bb=true->∀d∈D,DRt P N d
theorem Lw.begin(w:World):Lw P N w w (.slice none 0 0) (.slice none 0 0) (.slice none 0 0) (.slice none 0 0) (.slice none 0 0) (.slice none 0 0) [] [] [] [] true:=by
 refine⟨Qd _ _,⟨fun k r hk=>?_,fun k l r s hk _ _ g hg=>?_⟩,rfl,rfl,rfl,fun i d h=>by simp at h,fun _ d h=>by cases h⟩
 ·unfold mkR at hk;have hm:=QY hk;simp only[QU,P4,or_false]at hm;rcases hm with rfl|rfl|rfl|rfl|rfl|rfl<;>exact⟨rfl,Ql ⟨rfl,rfl⟩⟩
 ·unfold mkR at hk;have hm:=QY hk;simp only[QU,P4,or_false]at hm;rcases hm with rfl|rfl|rfl|rfl|rfl|rfl<;>cases hg
theorem ElR.conv{W:World}{R:List LR}{v:Value}{b:Bs}(h:ElR W R v b):(convert 28 9 v).run prog W=.ok (.string ⟨b⟩) W:=by
 obtain⟨g,c,rfl,h2,h3,h4,-⟩:=h;exact SP.conv_str prog 28 9 5 SP.slice22 SP.int5 SP.str9 W g 0 _ c b h4 rfl
theorem ElR.form{W:World}{R:List LR}{v:Value}{b:Bs}(h:ElR W R v b):∃a n c,v=.slice a n c:=by
 obtain⟨g,c,e,-⟩:=h;exact⟨_,_,_,e⟩
theorem Lw.next{w Wa:World}{v0 v1 v2 v3 v4 v5:Value}{x0 x1 x2:List Value}{D:List Dt}{bb bb2:Bool}{gp cp gs cs:Nat}{d:Dt}(W0:World)(h:Lw P N w W0 v0 v1 v2 v3 v4 v5 x0 x1 x2 D bb)(hb:Below W0.heap.size W0 Wa)(hn:D.length<=100)(hd:DOk d)(hp1:33<=cp)(hp2:W0.heap.size<=gp)(hp3:gp<Wa.heap.size)(hp4:Holds encB Wa gp 0 d.pub)(hs1:65<=cs)(hs2:W0.heap.size<=gs)(hs3:gs<Wa.heap.size)(hs4:Holds encB Wa gs 0 d.sg)(hbb:bb2=true->bb=true/\DRt P N d):
 ∃u0 W1 ct W2 u1 W3 u2 W4 u3 W5 u4 W6 u5 W7,
  (QS #[23,23] 23 #[v0,.slice (some ⟨Wa.heap.size,0,none⟩) 1 1]).run prog (Wa.alloc (.cells #[.slice (some ⟨gp,0,none⟩) 33 cp] 28))=.ok u0 W1 /\
  (convert 9 28 (.string d.tx)).run prog W1=.ok (.slice (some ⟨W1.heap.size,0,none⟩) d.tx.size ct) W2 /\
  (QS #[23,23] 23 #[v1,.slice (some ⟨W2.heap.size,0,none⟩) 1 1]).run prog (W2.alloc (.cells #[.slice (some ⟨W1.heap.size,0,none⟩) d.tx.size ct] 28))=.ok u1 W3 /\
  (QS #[23,23] 23 #[v2,.slice (some ⟨W3.heap.size,0,none⟩) 1 1]).run prog (W3.alloc (.cells #[.slice (some ⟨gs,0,none⟩) 65 cs] 28))=.ok u2 W4 /\
  (convert 28 9 (.slice (some ⟨gp,0,none⟩) 33 cp)).run prog W4=.ok (.string ⟨d.pub⟩) W4 /\
  (QS #[24,24] 24 #[v3,.slice (some ⟨W4.heap.size,0,none⟩) 1 1]).run prog (W4.alloc (.cells #[.string ⟨d.pub⟩] 9))=.ok u3 W5 /\
  Below w.heap.size w W5 /\
  (QS #[24,24] 24 #[v4,.slice (some ⟨W5.heap.size,0,none⟩) 1 1]).run prog (W5.alloc (.cells #[.string d.tx] 9))=.ok u4 W6 /\
  (convert 28 9 (.slice (some ⟨gs,0,none⟩) 65 cs)).run prog W6=.ok (.string ⟨d.sg⟩) W6 /\
  (QS #[24,24] 24 #[v5,.slice (some ⟨W6.heap.size,0,none⟩) 1 1]).run prog (W6.alloc (.cells #[.string ⟨d.sg⟩] 9))=.ok u5 W7 /\
  Below w.heap.size w W1/\Lw P N w W7 u0 u1 u2 u3 u4 u5 (x0++[.slice (some ⟨gp,0,none⟩) 33 cp]) (x1++[.slice (some ⟨W1.heap.size,0,none⟩) d.tx.size ct]) (x2++[.slice (some ⟨gs,0,none⟩) 65 cs]) (D++[d]) bb2:=by
 obtain⟨d1,d2,d3⟩:=hd;have sz:=h.bl.size;have Sa:=h.six.below hb;have ba:=h.bl.trans (hb.mono sz);have Ep:ElR Wa _ (.slice (some ⟨gp,0,none⟩) d.pub.size cp) d.pub:=ElR.new h.six (by omega) hp2 hp3 hp4;have Es:ElR Wa _ (.slice (some ⟨gs,0,none⟩) d.sg.size cs) d.sg:=ElR.new h.six (by omega) hs2 hs3 hs4;rw[d1]at Ep;rw[d2]at Es;have hl0:=h.l0;have hl1:=h.l1;have hl2:=h.l2;obtain⟨u0,W1,r0,S1,B1,E1⟩:=Sa.app (k:=0) rfl Cm wK (by omega) (x:=.slice (some ⟨gp,0,none⟩) 33 cp) rfl (by omega) ba.size;have b1:=ba.trans B1;obtain⟨ct,W2,hcv,hct,bc,hHc,hlc⟩:=qH d.tx W1;have S2:=S1.below bc;have Et:ElR W2 _ (.slice (some ⟨W1.heap.size,0,none⟩) d.tx.data.size ct) d.tx.data:=ElR.new S1 hct (PQ _) hlc hHc;have b2:=b1.trans (bc.mono b1.size);obtain⟨u1,W3,r1,S3,B3,E3⟩:=S2.app (k:=1) rfl Cm wK (by omega) (x:=.slice (some ⟨W1.heap.size,0,none⟩) d.tx.size ct) rfl (by omega) b2.size;have b3:=b2.trans B3;obtain⟨u2,W4,r2,S4,B4,E4⟩:=S3.app (k:=2) rfl Cm wK (by omega) (x:=.slice (some ⟨gs,0,none⟩) 65 cs) rfl (by omega) b3.size;have b4:=b3.trans B4;obtain⟨u3,W5,r3,S5,B5,E5⟩:=S4.app (k:=3) rfl Cl wJ (by omega) (x:=.string ⟨d.pub⟩) rfl (by rw[Qb];omega) b4.size;have b5:=b4.trans B5;obtain⟨u4,W6,r4,S6,B6,E6⟩:=S5.app (k:=4) rfl Cl wJ (by omega) (x:=.string d.tx) rfl (by rw[Qb];omega) b5.size;have b6:=b5.trans B6;obtain⟨u5,W7,r5,S7,B7,E7⟩:=S6.app (k:=5) rfl Cl wJ (by omega) (x:=.string ⟨d.sg⟩) rfl (by rw[Qb];omega) b6.size;have b7:=b6.trans B7;have up1:∀y b,ElR Wa _ y b->ElR W4 _ y b:=fun y b hy=>E4 y b (E3 y b ((E1 y b hy).below bc))
 have up2:∀y b,ElR W4 _ y b->ElR W7 _ y b:=fun y b hy=>E7 y b (E6 y b (E5 y b hy))
 refine⟨u0,W1,ct,W2,u1,W3,u2,W4,u3,W5,u4,W6,u5,W7,r0,hcv,r1,r2,(up1 _ _ Ep).conv,r3,b5,r4,(E6 _ _ (E5 _ _ (up1 _ _ Es))).conv,r5,b1,⟨b7,?_,?_,?_,?_,fun i e hi=>?_,fun hb2 e he=>?_⟩⟩
 ·rw[RL,RL,RL];exact S7
 ·rw[PY,PY,hl0];rfl
 ·rw[PY,PY,hl1];rfl
 ·rw[PY,PY,hl2];rfl
 ·rw[RL,RL,RL];by_cases hil:i<D.length
  ·rw[QL hil]at hi;obtain⟨ok,a,b,c,h1,h2,h3,h4,h5,h6⟩:=h.el i e hi;refine⟨ok,a,b,c,?_,?_,?_,up2 _ _ (up1 _ _ (h4.below hb)),up2 _ _ (up1 _ _ (h5.below hb)),up2 _ _ (up1 _ _ (h6.below hb))⟩
   ·rw[QL (by omega)];exact h1
   ·rw[QL (by omega)];exact h2
   ·rw[QL (by omega)];exact h3
  ·have hil2:i=D.length:=by
    have:=(Qe.1 hi).1;rw[PY,List.length_singleton]at this;omega
   subst hil2;rw[Rn (PQ _),TK]at hi;obtain rfl:d=e:=Qh.inj hi;refine⟨⟨d1,d2,d3⟩,_,_,_,?_,?_,?_,up2 _ _ (up1 _ _ Ep),up2 _ _ (E4 _ _ (E3 _ _ Et)),up2 _ _ (up1 _ _ Es)⟩
   ·rw[<-hl0,Rn (PQ _),TK];rfl
   ·rw[<-hl1,Rn (PQ _),TK];rfl
   ·rw[<-hl2,Rn (PQ _),TK];rfl
 ·obtain⟨hb3,hr⟩:=hbb hb2;rcases List.mem_append.1 he with he|he
  ·exact h.al hb3 e he
  ·rw[List.mem_singleton.1 he];exact hr
theorem bN{W:World}{B n:Nat}{e:TypeId}{v:Value}{xs:List Value}(h:W.ownsRow B e 1 v n xs):∃q c,v=.slice q n c/\n<=c/\(0<n->∃g,q=some ⟨g,0,none⟩/\g<W.heap.size/\B<=g/\v.ownBlock=some g/\(∀(i:Nat) x,xs[i]? = some x->W.cell? ⟨g,i,none⟩=some x)/\∀i,i<n->W.frozen? ⟨g,i,none⟩=false):=by
 rcases id h.2 with⟨rfl,rfl⟩|⟨g,cap,cur,rfl,h1,h2,h3,-,h5,-⟩
 ·exact⟨none,0,rfl,PQ _,fun h=>absurd h (U1 _)⟩
 ·have hlt:=kM h (g:=g) rfl;refine⟨_,_,rfl,h3,fun _=>⟨g,rfl,hlt.2.1,hlt.1,rfl,fun i x hx=>?_,fun i hi=>by simp[Ti,h2]⟩⟩;have:=h.cells (g:=g) rfl i x hx;rw[KV,PU]at this;exact this
def dF(D:List Dt)(i:Nat):Dt:=(D[i]?).getD ⟨#[],#[],⟨#[]⟩⟩
theorem fC{D:List Dt}{i:Nat}(hi:i<D.length):D[i]? = some (dF D i):=by unfold dF;rw[P6 hi];rfl
theorem ElR.setL{W:World}{R:List LR}{v u:Value}{b:Bs}{gz j k:Nat}{r:LR}(h:ElR W R v b)(hk:R[k]? = some r)(hr:r.2.1.ownBlock=some gz):ElR (W.setCell ⟨gz,j,none⟩ u) R v b:=by
 obtain⟨g,c,h1,h2,h3,h4,h5⟩:=h;exact⟨g,c,h1,h2,by rw[Tg];exact h3,Holds.kept h4 (heap_setCell_other W ⟨gz,j,none⟩ g u (fun e=>h5 k r hk (by rw[hr,e]))),h5⟩
structure GvB(W:World)(n:Nat)(q0 q1 q2 q3 q4 q5:Option Addr)(Pb Sg:Nat->Bs)(Tx:Nat->ByteArray):Prop where
 b0:BL W q0 n (fun i=>(Pb i).toList)
 b1:BL W q1 n (fun i=>(Tx i).data.toList)
 b2:BL W q2 n (fun i=>(Sg i).toList)
 t3:TL W q3 n (fun i=>⟨Pb i⟩)
 t4:TL W q4 n Tx
 t5:TL W q5 n (fun i=>⟨Sg i⟩)
 sz:∀i,i<n->(Pb i).size<=16384/\(Tx i).size<=16384/\(Sg i).size<=16384
theorem TL.of{W:World}{B n:Nat}{v:Value}{q:Option Addr}{c:Nat}{ys:List Value}{S:Nat->ByteArray}(h:W.ownsRow B 9 1 v n ys)(hv:v=.slice q n c)(hS:∀i,i<n->ys[i]? = some (.string (S i))):TL W q n S:=fun hn=>by
 obtain⟨q',c',e,-,h2⟩:=bN h;rw[hv]at e;injection e with e1 _ _
 obtain⟨g,h3,h4,-,-,h5,-⟩:=h2 hn;exact⟨g,by rw[e1];exact h3,h4,fun i hi=>h5 i _ (hS i hi)⟩
theorem Lw.gv{w W:World}{v0 v1 v2 v3 v4 v5:Value}{x0 x1 x2:List Value}{D:List Dt}{bb:Bool}(h:Lw P N w W v0 v1 v2 v3 v4 v5 x0 x1 x2 D bb):∃q0 c0 q1 c1 q2 c2 q3 c3 q4 c4 q5 c5,v0=.slice q0 D.length c0/\v1=.slice q1 D.length c1/\v2=.slice q2 D.length c2/\v3=.slice q3 D.length c3/\v4=.slice q4 D.length c4/\v5=.slice q5 D.length c5/\GvB W D.length q0 q1 q2 q3 q4 q5 (fun i=>(dF D i).pub) (fun i=>(dF D i).sg) (fun i=>(dF D i).tx):=by
 have o0:=h.six.ow 0 _ rfl;have o1:=h.six.ow 1 _ rfl;have o2:=h.six.ow 2 _ rfl;have o3:=h.six.ow 3 _ rfl;have o4:=h.six.ow 4 _ rfl;have o5:=h.six.ow 5 _ rfl;have m3:(D.map fun d=>(Uq ⟨d.pub⟩)).length=D.length:=Qb ..;have m4:(D.map fun d=>(Uq d.tx)).length=D.length:=Qb ..;have m5:(D.map fun d=>(Uq ⟨d.sg⟩)).length=D.length:=Qb ..;have o0:W.ownsRow w.heap.size 28 1 v0 D.length x0:=by rw[<-h.l0];exact o0
 have o1:W.ownsRow w.heap.size 28 1 v1 D.length x1:=by rw[<-h.l1];exact o1
 have o2:W.ownsRow w.heap.size 28 1 v2 D.length x2:=by rw[<-h.l2];exact o2
 have o3:W.ownsRow w.heap.size 9 1 v3 D.length (D.map fun d=>.string ⟨d.pub⟩):=by have:=o3;simp only[m3]at this;exact this
 have o4:W.ownsRow w.heap.size 9 1 v4 D.length (D.map fun d=>.string d.tx):=by have:=o4;simp only[m4]at this;exact this
 have o5:W.ownsRow w.heap.size 9 1 v5 D.length (D.map fun d=>.string ⟨d.sg⟩):=by have:=o5;simp only[m5]at this;exact this
 obtain⟨q0,c0,e0,-,f0⟩:=bN o0;obtain⟨q1,c1,e1,-,f1⟩:=bN o1;obtain⟨q2,c2,e2,-,f2⟩:=bN o2;obtain⟨q3,c3,e3,-,-⟩:=bN o3;obtain⟨q4,c4,e4,-,-⟩:=bN o4;obtain⟨q5,c5,e5,-,-⟩:=bN o5;have hget:∀i,i<D.length->∀(F:Dt->Value),(D.map F)[i]? = some (F (dF D i)):=fun i hi F=>by rw[QX,fC hi];rfl
 have hbl:∀ {q:Option Addr}{xs:List Value}{F:Nat->Bs},xs.length=D.length->(0<D.length->∃g,q=some ⟨g,0,none⟩/\g<W.heap.size/\∀(i:Nat) x,xs[i]? = some x->W.cell? ⟨g,i,none⟩=some x)->(∀i,i<D.length->∃x R,xs[i]? = some x/\ElR W R x (F i)/\(F i).size<=16384)->BL W q D.length (fun i=>(F i).toList):=fun {q xs F} hl hq he hn=>by
  obtain⟨g,h1,h2,h3⟩:=hq hn;refine⟨g,h1,h2,fun i hi=>?_⟩;obtain⟨x,R,hx,hE,hz⟩:=he i hi;obtain⟨a,l,c,ex⟩:=hE.form;have hp:=hE.part hz;have:=h3 i x hx;rw[ex]at this hp;exact⟨a,l,c,this,hp⟩
 refine⟨q0,c0,q1,c1,q2,c2,q3,c3,q4,c4,q5,c5,e0,e1,e2,e3,e4,e5,hbl h.l0 (fun hn=>?_) (fun i hi=>?_),hbl (F:=fun i=>(dF D i).tx.data) h.l1 (fun hn=>?_) (fun i hi=>?_),hbl h.l2 (fun hn=>?_) (fun i hi=>?_),TL.of o3 e3 (fun i hi=>hget i hi _),TL.of o4 e4 (fun i hi=>hget i hi _),TL.of o5 e5 (fun i hi=>hget i hi _),fun i hi=>?_⟩
 ·obtain⟨g,a1,a2,-,-,a3,-⟩:=f0 hn;exact⟨g,a1,a2,a3⟩
 ·obtain⟨ok,a,b,c,k1,k2,k3,k4,k5,k6⟩:=h.el i _ (fC hi);exact⟨a,_,k1,k4,by have:=ok.1;omega⟩
 ·obtain⟨g,a1,a2,-,-,a3,-⟩:=f1 hn;exact⟨g,a1,a2,a3⟩
 ·obtain⟨ok,a,b,c,k1,k2,k3,k4,k5,k6⟩:=h.el i _ (fC hi);exact⟨b,_,k2,k5,by have:=ok.2.2;show(dF D i).tx.size<=_;omega⟩
 ·obtain⟨g,a1,a2,-,-,a3,-⟩:=f2 hn;exact⟨g,a1,a2,a3⟩
 ·obtain⟨ok,a,b,c,k1,k2,k3,k4,k5,k6⟩:=h.el i _ (fC hi);exact⟨c,_,k3,k6,by have:=ok.2.1;omega⟩
 ·obtain⟨ok,-⟩:=h.el i _ (fC hi);obtain⟨z1,z2,z3⟩:=ok;exact⟨by omega,by omega,by omega⟩
def EG(D:List Dt)(i:Nat):Bs:=if i=0 then(dF D 0).sg.extract 1 65 else(dF D i).sg
theorem holds_one{W:World}{g:Nat}{b:Bs}(hb:b.size=65)(h:Holds encB W g 0 b):Holds encB W g 1 (b.extract 1 65):=fun j hj=>by
 have hs:(b.extract 1 65).size=64:=by rw[QQ];omega
 rw[hs]at hj;have:=h (1+j) (by omega);rw[PU]at this;rw[getElem!_pos (b.extract 1 65) j (by omega),Array.getElem_extract];rw[getElem!_pos b (1+j) (by omega)]at this;exact this
theorem Lw.cut{w W:World}{v0 v1 v2 v3 v4 v5:Value}{x0 x1 x2:List Value}{D:List Dt}{bb:Bool}(h:Lw P N w W v0 v1 v2 v3 v4 v5 x0 x1 x2 D bb)(hn:0<D.length):
 ∃q0 c0 q1 c1 g2 c2 q3 c3 q4 c4 g5 c5 gs cs,v0=.slice q0 D.length c0/\v1=.slice q1 D.length c1/\v2=.slice (some ⟨g2,0,none⟩) D.length c2/\v3=.slice q3 D.length c3/\v4=.slice q4 D.length c4/\v5=.slice (some ⟨g5,0,none⟩) D.length c5/\W.cell? ⟨g2,0,none⟩=some (.slice (some ⟨gs,0,none⟩) 65 cs)/\W.frozen? ⟨g2,0,none⟩=false/\65<=cs /\
  (∀u,(W.setCell ⟨g2,0,none⟩ u).cell? ⟨g5,0,none⟩=some (.string ⟨(dF D 0).sg⟩)/\(W.setCell ⟨g2,0,none⟩ u).frozen? ⟨g5,0,none⟩=false)/\(dF D 0).sg.size=65 /\
  Below w.heap.size w ((W.setCell ⟨g2,0,none⟩ (.slice (some ⟨gs,1,none⟩) 64 (cs-1))).setCell ⟨g5,0,none⟩ (.string ⟨(dF D 0).sg.extract 1 65⟩)) /\
  GvB ((W.setCell ⟨g2,0,none⟩ (.slice (some ⟨gs,1,none⟩) 64 (cs-1))).setCell ⟨g5,0,none⟩ (.string ⟨(dF D 0).sg.extract 1 65⟩)) D.length q0 q1 (some ⟨g2,0,none⟩) q3 q4 (some ⟨g5,0,none⟩) (fun i=>(dF D i).pub) (EG D) (fun i=>(dF D i).tx):=by
 have o0:W.ownsRow w.heap.size 28 1 v0 D.length x0:=by have:=h.six.ow 0 _ rfl;rw[<-h.l0];exact this
 have o1:W.ownsRow w.heap.size 28 1 v1 D.length x1:=by have:=h.six.ow 1 _ rfl;rw[<-h.l1];exact this
 have o2:W.ownsRow w.heap.size 28 1 v2 D.length x2:=by have:=h.six.ow 2 _ rfl;rw[<-h.l2];exact this
 have o3:W.ownsRow w.heap.size 9 1 v3 D.length (D.map fun d=>.string ⟨d.pub⟩):=by have:=h.six.ow 3 _ rfl;simp only[Qb]at this;exact this
 have o4:W.ownsRow w.heap.size 9 1 v4 D.length (D.map fun d=>.string d.tx):=by have:=h.six.ow 4 _ rfl;simp only[Qb]at this;exact this
 have o5:W.ownsRow w.heap.size 9 1 v5 D.length (D.map fun d=>.string ⟨d.sg⟩):=by have:=h.six.ow 5 _ rfl;simp only[Qb]at this;exact this
 obtain⟨q0,c0,e0,-,f0⟩:=bN o0;obtain⟨q1,c1,e1,-,f1⟩:=bN o1;obtain⟨q2,c2,e2,-,f2⟩:=bN o2;obtain⟨q3,c3,e3,-,-⟩:=bN o3;obtain⟨q4,c4,e4,-,-⟩:=bN o4;obtain⟨q5,c5,e5,-,f5⟩:=bN o5;obtain⟨g2,rfl,g2a,g2b,g2c,g2d,g2e⟩:=f2 hn;obtain⟨g5,rfl,g5a,g5b,g5c,g5d,g5e⟩:=f5 hn;have hne:g5≠g2:=fun e=>h.six.ap 2 5 _ _ rfl rfl (by decide) g2 g2c (by rw[<-e];exact g5c)
 obtain⟨ok0,a00,b00,c00,-,-,k3,-,-,k6⟩:=h.el 0 _ (fC hn);obtain⟨gs,cs,ec,ec1,ec2,ec3,ec4⟩:=id k6;rw[ok0.2.1]at ec ec1;subst ec;obtain⟨W1,hW1⟩:∃W1,W.setCell ⟨g2,0,none⟩ (.slice (some ⟨gs,1,none⟩) 64 (cs-1))=W1:=⟨_,rfl⟩
 obtain⟨W2,hW2⟩:∃W2,W1.setCell ⟨g5,0,none⟩ (.string ⟨(dF D 0).sg.extract 1 65⟩)=W2:=⟨_,rfl⟩
 have s1:W1.heap.size=W.heap.size:=by rw[<-hW1];exact Tg _ _ _
 have s2:W2.heap.size=W.heap.size:=by rw[<-hW2,Tg];exact s1
 have k1:∀y,y≠g2->W1.heap[y]? = W.heap[y]?:=fun y hy=>by rw[<-hW1];exact heap_setCell_other W ⟨g2,0,none⟩ y _ hy
 have k2:∀y,y≠g5->W2.heap[y]? = W1.heap[y]?:=fun y hy=>by rw[<-hW2];exact heap_setCell_other W1 ⟨g5,0,none⟩ y _ hy
 have kk:∀y,y≠g2->y≠g5->W2.heap[y]? = W.heap[y]?:=fun y h1 h2=>by rw[k2 y h2,k1 y h1]
 have up:∀ {y:Value}{b:Bs},ElR W (mkR v0 v1 v2 v3 v4 v5 x0 x1 x2 (D.map fun d=>.string ⟨d.pub⟩) (D.map fun d=>.string d.tx) (D.map fun d=>.string ⟨d.sg⟩)) y b->ElR W2 (mkR v0 v1 v2 v3 v4 v5 x0 x1 x2 (D.map fun d=>.string ⟨d.pub⟩) (D.map fun d=>.string d.tx) (D.map fun d=>.string ⟨d.sg⟩)) y b:=fun hy=>by
  rw[<-hW2,<-hW1];exact ElR.setL (k:=5) (r:=(9,v5,D.map fun d=>.string ⟨d.sg⟩)) (ElR.setL (k:=2) (r:=(28,v2,x2)) hy rfl g2c) rfl g5c
 have n0:=fun g (hg:v0.ownBlock=some g)=>kk g (fun e=>h.six.ap 0 2 _ _ rfl rfl (by decide) g hg (by rw[e];exact g2c)) (fun e=>h.six.ap 0 5 _ _ rfl rfl (by decide) g hg (by rw[e];exact g5c))
 have n1:=fun g (hg:v1.ownBlock=some g)=>kk g (fun e=>h.six.ap 1 2 _ _ rfl rfl (by decide) g hg (by rw[e];exact g2c)) (fun e=>h.six.ap 1 5 _ _ rfl rfl (by decide) g hg (by rw[e];exact g5c))
 have n3:=fun g (hg:v3.ownBlock=some g)=>kk g (fun e=>h.six.ap 3 2 _ _ rfl rfl (by decide) g hg (by rw[e];exact g2c)) (fun e=>h.six.ap 3 5 _ _ rfl rfl (by decide) g hg (by rw[e];exact g5c))
 have n4:=fun g (hg:v4.ownBlock=some g)=>kk g (fun e=>h.six.ap 4 2 _ _ rfl rfl (by decide) g hg (by rw[e];exact g2c)) (fun e=>h.six.ap 4 5 _ _ rfl rfl (by decide) g hg (by rw[e];exact g5c))
 have p0:=dZ o0 n0;have p1:=dZ o1 n1;have p3:=dZ o3 n3;have p4:=dZ o4 n4;have p2:W2.ownsRow w.heap.size 28 1 v2 D.length (x2.set 0 (.slice (some ⟨gs,1,none⟩) 64 (cs-1))):=by
  rw[e2]at o2;have t1:=(o2.stored 0 (.slice (some ⟨gs,1,none⟩) 64 (cs-1))).1;rw[hW1]at t1;rw[e2];exact dZ t1 (fun g hg=>k2 g (fun e=>hne (by have:g2=g:=Qh.inj hg;omega)))
 have p5:W2.ownsRow w.heap.size 9 1 v5 D.length ((D.map fun d=>(Uq ⟨d.sg⟩)).set 0 (.string ⟨(dF D 0).sg.extract 1 65⟩)):=by
  have t0:W1.ownsRow w.heap.size 9 1 v5 D.length (D.map fun d=>.string ⟨d.sg⟩):=dZ o5 (fun g hg=>k1 g (fun e=>hne (by rw[g5c]at hg;have:=Qh.inj hg;omega)));rw[e5]at t0;have t1:=(t0.stored 0 (.string ⟨(dF D 0).sg.extract 1 65⟩)).1;rw[hW2]at t1;rw[e5];exact t1
 have hget:∀i,i<D.length->∀(F:Dt->Value),(D.map F)[i]? = some (F (dF D i)):=fun i hi F=>by rw[QX,fC hi];rfl
 have hbl:∀ {v:Value}{q:Option Addr}{c:Nat}{xs:List Value}{F:Nat->Bs},W2.ownsRow w.heap.size 28 1 v D.length xs->v=.slice q D.length c->(∀i,i<D.length->∃x,xs[i]? = some x/\SP.PartOk W2 x (F i).toList/\∃a l c,x=.slice a l c)->BL W2 q D.length (fun i=>(F i).toList):=fun {v q c xs F} ho hv he hn=>by
  obtain⟨q',c',ev,-,f⟩:=bN ho;rw[hv]at ev;injection ev with ev _ _
  obtain⟨g,h1,h2,-,-,h3,-⟩:=f hn;refine⟨g,by rw[ev];exact h1,h2,fun i hi=>?_⟩;obtain⟨x,hx,hp,a,l,c2,ex⟩:=he i hi;have:=h3 i x hx;rw[ex]at this hp;exact⟨a,l,c2,this,hp⟩
 refine⟨q0,c0,q1,c1,g2,c2,q3,c3,q4,c4,g5,c5,gs,cs,e0,e1,e2,e3,e4,e5,g2d 0 _ k3,g2e 0 hn,ec1,fun u=>⟨?_,?_⟩,ok0.2.1,?_,?_⟩
 ·rw[World.cell?_of_block (a:=⟨g5,0,none⟩) (heap_setCell_other W ⟨g2,0,none⟩ g5 u hne)];exact g5d 0 _ (hget 0 hn _)
 ·rw[World.frozen?_setCell];exact g5e 0 hn
 ·exact(h.bl.setCell (p:=⟨g2,0,none⟩) g2b _).setCell (p:=⟨g5,0,none⟩) g5b _
 ·rw[hW1,hW2];refine⟨hbl p0 e0 (fun i hi=>?_),hbl (F:=fun i=>(dF D i).tx.data) p1 e1 (fun i hi=>?_),hbl p2 e2 (fun i hi=>?_),TL.of p3 e3 (fun i hi=>hget i hi _),TL.of p4 e4 (fun i hi=>hget i hi _),TL.of p5 e5 (fun i hi=>?_),fun i hi=>?_⟩
  ·obtain⟨ok,a,b,c,y1,y2,y3,y4,y5,y6⟩:=h.el i _ (fC hi);exact⟨a,y1,(up y4).part (by have:=ok.1;omega),y4.form⟩
  ·obtain⟨ok,a,b,c,y1,y2,y3,y4,y5,y6⟩:=h.el i _ (fC hi);exact⟨b,y2,(up y5).part (by have:=ok.2.2;show(dF D i).tx.size<=_;omega),y5.form⟩
  ·by_cases h0:i=0
   ·subst h0;refine⟨_,Un (by rw[h.l2];exact hn),?_,_,_,_,rfl⟩;obtain⟨gs',cs',ee,-,e2',e3',-⟩:=up k6;injection ee with ee _ _
    injection ee with ee
    injection ee with ee _ _
    subst ee;have hs:((dF D 0).sg.extract 1 65).size=64:=by rw[QQ,ok0.2.1];rfl
    unfold EG;rw[if_pos rfl];exact⟨_,gs,1,cs-1,_,by rw[hs],rfl,by omega,by omega,Qc ⟨rfl,holds_one ok0.2.1 e3'⟩⟩
   ·obtain⟨ok,a,b,c,y1,y2,y3,y4,y5,y6⟩:=h.el i _ (fC hi);refine⟨c,by rw[UE (fun e=>h0 e.symm)];exact y3,?_,y6.form⟩;unfold EG;rw[if_neg h0];exact(up y6).part (by have:=ok.2.1;omega)
  ·by_cases h0:i=0
   ·subst h0;rw[Un (by rw[Qb];exact hn)];unfold EG;rw[if_pos rfl]
   ·rw[UE (fun e=>h0 e.symm),hget i hi];unfold EG;rw[if_neg h0]
  ·obtain⟨ok,-⟩:=h.el i _ (fC hi);obtain⟨z1,z2,z3⟩:=ok;refine⟨by omega,by omega,?_⟩;unfold EG;split
   ·rw[QQ];omega
   ·omega
theorem GvB.below{W W':World}{n:Nat}{q0 q1 q2 q3 q4 q5:Option Addr}{Pb Sg:Nat->Bs}{Tx:Nat->ByteArray}(h:GvB W n q0 q1 q2 q3 q4 q5 Pb Sg Tx)(hb:Below W.heap.size W W'):GvB W' n q0 q1 q2 q3 q4 q5 Pb Sg Tx:=by
 have ht:∀ {q:Option Addr}{S:Nat->ByteArray},TL W q n S->TL W' q n S:=fun h hn=>by
  obtain⟨g,h1,h2,h3⟩:=h hn;exact⟨g,h1,PS h2 hb.size,fun i hi=>by rw[hb.cell (p:=⟨g,i,none⟩) h2];exact h3 i hi⟩
 exact⟨h.b0.below hb,h.b1.below hb,h.b2.below hb,ht h.t3,ht h.t4,ht h.t5,h.sz⟩
theorem BQ(C:Fl3 P)(O:Ord N)(hord:∀r:EC.Pt P,EC.On r->EC.mul N r=none)(W:World)(n0 n:Nat)(hn0:n0<=1000)(hn:n<=1000)(q0 q1 q2 q3 q4 q5:Option Addr)(c0 c1 c2 c3 c4 c5:Nat)(Pb Sg:Nat->Bs)(Tx:Nat->ByteArray)(hG:n0=n->GvB W n q0 q1 q2 q3 q4 q5 Pb Sg Tx):
 ∃(rb:Bool) (re:Nat),bRs P N n0 n Pb Sg (fun i=>(Tx i).data.toList)=(rb,re)/\Calls prog 8 #[.slice q0 n0 c0,.slice q1 n c1,.slice q2 n c2] W (Ret fun e w'=>Below W.heap.size W w'/\e=.tuple #[.bool rb,.int .i64 re]) /\
  ∀W':World,Below W.heap.size W W'->Calls prog 9 #[.slice q3 n0 c3,.slice q4 n c4,.slice q5 n c5] W' (Ret fun e w'=>Below W'.heap.size W' w'/\e=.tuple #[.bool rb,.int .i64 re]):=by
 refine⟨_,_,rfl,Kg C O hord q0 q1 q2 n0 n c0 c1 c2 hn0 hn Pb Sg _ W (fun e=>⟨(hG e).b0,(hG e).b1,(hG e).b2⟩),fun W' hb=>?_⟩;exact Gb C O q3 q4 q5 n0 n c3 c4 c5 hn0 hn (fun i=>⟨Pb i⟩) Tx (fun i=>⟨Sg i⟩) W' (fun e=>⟨(hG e).sz,((hG e).below hb).t3,((hG e).below hb).t4,((hG e).below hb).t5⟩)
theorem xC(C:Fl3 P)(O:Ord N)(hord:∀r:EC.Pt P,EC.On r->EC.mul N r=none)(hpr:NT.IsP N)(hbig:2^248<N)(q:Option Addr)(n c:Nat)(more:Int)(A B:Nat->Int)(X:Nat->ByteArray)(hn:n<=70)(w:World)(hE:EnL w q n A B X):
 Calls prog 3 #[.slice q n c,.int .i64 more] w fun e w'=>e=.returned (.bool true)/\Below w.heap.size w w':=by
 have HE:=Hid.mk' hE;have HX:=Hid.mk' (Uy C (Uy O (Uy hord (Uy hpr hbig))));have hn70:¬(70:Int)<(n:Int):=by omega
 have K0:Hid (Lw P N w w (.slice none 0 0) (.slice none 0 0) (.slice none 0 0) (.slice none 0 0) (.slice none 0 0) (.slice none 0 0) [] [] [] [] true):=Lw.begin w;clear hE C O hord hpr hbig;go_enter Tryz.func3,Tryz.ntmps3;go_wp2;go_loopg [5,6,7,8,9,10,11,12] n (fun gk s5 s6 s7 s8 s9 s10 s11 s12 W=>∃(i:Nat) (x0 x1 x2:List Value) (D:List Dt) (bb:Bool),i+gk=n/\D.length=i/\s12=.int .i64 i/\s11=.bool bb/\Hid (Lw P N w W s5 s6 s7 s8 s9 s10 x0 x1 x2 D bb))
 case atStart=>exact⟨0,_,_,_,[],true,PU _,rfl,rfl,rfl,K0⟩
 case round =>
  clear K0;obtain⟨i,x0,x1,x2,D,bb,hi,hD,rfl,rfl,KM⟩:=hrel;by_cases hlt:i<n
  ·have hlt':(i:Int)<(n:Int):=by omega
   obtain⟨g,o,rfl,hg,hc⟩:=HE.out (by omega);have hc:=hc i hlt;have HC:Hid (∀W:World,Below w.heap.size w W->W.cell? ⟨g,o+3*i,none⟩=some (.int .i64 (A i))/\W.cell? ⟨g,o+3*i+1,none⟩=some (.int .i64 (B i))/\W.cell? ⟨g,o+3*i+2,none⟩=some (.string (X i))):=fun W hb=>⟨by rw[hb.cell (p:=⟨g,o+3*i,none⟩) hg];exact hc.1,by rw[hb.cell (p:=⟨g,o+3*i+1,none⟩) hg];exact hc.2.1,by rw[hb.cell (p:=⟨g,o+3*i+2,none⟩) hg];exact hc.2.2⟩
   have HG:=Hid.mk' hg;have hix:=NS g o n c i hlt;clear hc hg;generalize A i=a at HC;generalize B i=b at HC;generalize X i=tx at HC;obtain⟨k0,-,k2⟩:=HC.out wr KM.out.bl;by_cases htx:tx.size<=4096
   ·have htx':¬(4096:Int)<(tx.size:Int):=by omega
    obtain⟨C,O,hord,hpr,hbig⟩:=HX.out;have HB:=Hid.mk' (fun w=>Ch C.toFld w);go_wp2_with fail
    refine(Lr a wr).mono ?_;rintro e w2 ⟨v2,rfl,hb2,T,rfl,t1,t2,t3⟩;obtain⟨pub,sg,dok,drt,hT,hS⟩:=zM C O hord hpr hbig t1 t2 t3 tx htx;have HT:=Hid.mk' hT;have HS:=Hid.mk' hS;have DD:=Hid.mk' (Uy dok drt);have TT:Hid ((⟨T⟩:ByteArray).size=32):=t1;generalize hTb:(⟨T⟩:ByteArray)=Tb at TT;have HTb:Hid (Tb.data=T):=by rw[<-hTb];rfl
    obtain⟨ck,w3,cv3,hck,bc3,hH3,hl3⟩:=qH Tb w2;rw[TT.out]at cv3 hck;rw[HTb.out]at hH3;have K3:Hid (Below wr.heap.size wr w3/\w2.heap.size<w3.heap.size/\Holds encB w3 w2.heap.size 0 T/\32<=ck):=⟨hb2.trans (bc3.mono hb2.size),hl3,hH3,hck⟩
    clear hT hS dok drt t1 t2 t3 hTb hck bc3 hH3 hl3 hb2 C O hord hpr hbig;go_wp2_with fail
    refine(HB.out w3).mono ?_;rintro e w4 ⟨v4,rfl,hb4,gb,cb,rfl,hcb,-,hgb,hHb⟩;have K4:Hid (Below wr.heap.size wr w4/\w2.heap.size<w4.heap.size/\Holds encB w4 w2.heap.size 0 T/\32<=ck/\33<=cb/\gb<w4.heap.size/\Holds encB w4 gb 0 (Go.Proofs.YtfcnimopdjjhcaaGreat.wr (gG P))):=⟨K3.out.1.trans (hb4.mono K3.out.1.size),PS K3.out.2.1 hb4.size,Holds.below K3.out.2.2.1 hb4 K3.out.2.1,K3.out.2.2.2,hcb,hgb,hHb⟩
    clear hb4 hcb hgb hHb K3 HB cv3;go_wp2_with fail
    refine(HT.out w4 w2.heap.size ck gb cb K4.out.2.2.2.1 K4.out.2.1 K4.out.2.2.1 K4.out.2.2.2.2.1 K4.out.2.2.2.2.2.1 K4.out.2.2.2.2.2.2).mono ?_;rintro e w5 ⟨v5,rfl,hb5,gp,cp,rfl,hcp,hgp0,hgp,hHp⟩;have K5:Hid (Below wr.heap.size wr w5/\33<=cp/\wr.heap.size<=gp/\gp<w5.heap.size/\Holds encB w5 gp 0 pub):=⟨K4.out.1.trans (hb5.mono K4.out.1.size),hcp,Qn K4.out.1.size hgp0,hgp,hHp⟩
    clear hb5 hcp hgp0 hgp hHp K4 HT;obtain⟨ck2,w6,cv6,hck6,bc6,hH6,hl6⟩:=qH Tb w5;rw[TT.out]at cv6 hck6;rw[HTb.out]at hH6;obtain⟨ct7,w7,cv7,hct7,bc7,hH7,hl7⟩:=qH tx w6;have K7:Hid (Below wr.heap.size wr w7/\w5.heap.size<w7.heap.size/\Holds encB w7 w5.heap.size 0 T/\32<=ck2/\tx.size<=ct7/\Holds encB w7 w6.heap.size 0 tx.data/\gp<w7.heap.size/\Holds encB w7 gp 0 pub):=by
     have b6:=K5.out.1.trans (bc6.mono K5.out.1.size);exact⟨b6.trans (bc7.mono b6.size),PS hl6 bc7.size,Holds.below hH6 bc7 hl6,hck6,hct7,hH7,PS K5.out.2.2.2.1 (Qn bc6.size bc7.size),Holds.below (Holds.below K5.out.2.2.2.2 bc6 K5.out.2.2.2.1) bc7 (PS K5.out.2.2.2.1 bc6.size)⟩
    have kx6:=(HC.out w6 (KM.out.bl.trans ((K5.out.1.trans (bc6.mono K5.out.1.size)).mono KM.out.bl.size))).2.2;have P5:Hid (33<=cp/\wr.heap.size<=gp):=⟨K5.out.2.1,K5.out.2.2.1⟩
    clear hck6 bc6 hH6 hl6 hct7 bc7 hH7 hl7 K5;go_wp2_with fail
    refine(HS.out w7 w5.heap.size ck2 w6.heap.size ct7 K7.out.2.2.2.1 K7.out.2.1 K7.out.2.2.1 K7.out.2.2.2.2.1 K7.out.2.2.2.2.2.1).mono ?_;rintro e w8 ⟨v8,rfl,hb8,gs,cs,rfl,hcs,hgs0,hgs,hHs⟩;have B8:Hid (Below wr.heap.size wr w8):=K7.out.1.trans (hb8.mono K7.out.1.size);have PP:Hid (33<=cp/\wr.heap.size<=gp/\gp<w8.heap.size/\Holds encB w8 gp 0 pub):=⟨P5.out.1,P5.out.2,PS K7.out.2.2.2.2.2.2.1 hb8.size,Holds.below K7.out.2.2.2.2.2.2.2 hb8 K7.out.2.2.2.2.2.2.1⟩
    have SS:Hid (65<=cs/\wr.heap.size<=gs/\gs<w8.heap.size/\Holds encB w8 gs 0 sg):=⟨hcs,Qn K7.out.1.size hgs0,hgs,hHs⟩
    have kb8:=(HC.out w8 (KM.out.bl.trans (B8.out.mono KM.out.bl.size))).2.1;have hne:Hid (gp≠gs):=fun e=>by
     have:=K7.out.2.2.2.2.2.2.1;omega
    clear hb8 hcs hgs0 hgs hHs K7 P5 HS cv6 cv7 kx6;by_cases hb0:b=0
    ·subst hb0;obtain⟨u0,W1,ct,W2,u1,W3,u2,W4,u3,W5,u4,W6,u5,W7,r0,q1,r1,r2,q2,r3,bW5,r4,q3,r5,bW1,hL7⟩:=Lw.next (d:=⟨pub,sg,tx⟩) (gp:=gp) (cp:=cp) (gs:=gs) (cs:=cs) (bb2:=bb) wr KM.out B8.out (by rw[hD];omega) DD.out.1 PP.out.1 PP.out.2.1 PP.out.2.2.1 PP.out.2.2.2 SS.out.1 SS.out.2.1 SS.out.2.2.1 SS.out.2.2.2 (fun h=>⟨h,DD.out.2⟩);have kx1:=(HC.out W1 bW1).2.2;have kx5:=(HC.out W5 bW5).2.2;have KN:=Hid.mk' hL7;have A0:=Hid.mk' r0;have A1:=Hid.mk' r1;have A2:=Hid.mk' r2;have A3:=Hid.mk' r3;have A4:=Hid.mk' r4;have A5:=Hid.mk' r5;clear hL7 r0 r1 r2 r3 r4 r5 bW1 bW5 KM PP SS;go_wp2_with (first|(at_builtin;refine QC _ rfl _ _ 23 23 rfl _ _ rfl rfl _ _ A0.out ?_)|(at_builtin;refine QC _ rfl _ _ 23 23 rfl _ _ rfl rfl _ _ A1.out ?_)|(at_builtin;refine QC _ rfl _ _ 23 23 rfl _ _ rfl rfl _ _ A2.out ?_)|(at_builtin;refine QC _ rfl _ _ 24 24 rfl _ _ rfl rfl _ _ A3.out ?_)|(at_builtin;refine QC _ rfl _ _ 24 24 rfl _ _ rfl rfl _ _ A4.out ?_)|(at_builtin;refine QC _ rfl _ _ 24 24 rfl _ _ rfl rfl _ _ A5.out ?_)|fail)
     go_roundg (gk-1)
     case measure=>omega
     case rel=>exact⟨i+1,_,_,_,_,_,by omega,by rw[PY,hD];rfl,rfl,rfl,KN⟩
    ·have hb1:(b == 0)=false:=by simpa using hb0
     obtain⟨uu,huu⟩:∃uu:UInt8,Hid (sg[40]! = uu):=⟨_,rfl⟩
     obtain⟨c40a,f40⟩:=SS.out.2.2.2 40 (by rw[DD.out.1.2.1];omega);rw[PU,huu.out]at c40a;rw[PU]at f40;have hxr:=OC uu;have c40:w8.cell? ⟨gs,40,none⟩=some (.int .u8 (ub uu)):=c40a;clear c40a;obtain⟨w9,hw9⟩:∃w9,Hid (w8.setCell ⟨gs,40,none⟩ (.int .u8 (ub (uu ^^^ 1)))=w9):=⟨_,rfl⟩
     have h40:Holds encB w9 gs 0 (sg.setIfInBounds 40 (uu ^^^ 1)):=by
      have:=Holds.set SS.out.2.2.2 (i:=40) (by rw[DD.out.1.2.1];omega) (uu ^^^ 1);rw[PU]at this;rw[<-hw9.out];exact this
     have sz9:w9.heap.size=w8.heap.size:=by rw[<-hw9.out];exact Tg _ _ _
     have B9:Hid (Below wr.heap.size wr w9):=by rw[<-hw9.out];exact B8.out.setCell (p:=⟨gs,40,none⟩) SS.out.2.1 _
     have PW:Hid (gp<w9.heap.size/\Holds encB w9 gp 0 pub):=⟨by rw[sz9];exact PP.out.2.2.1,Holds.kept PP.out.2.2.2 (by rw[<-hw9.out];exact heap_setCell_other w8 ⟨gs,40,none⟩ gp _ hne.out)⟩
     have SW:Hid (gs<w9.heap.size/\Holds encB w9 gs 0 (sg.setIfInBounds 40 (uu ^^^ 1))):=⟨by rw[sz9];exact SS.out.2.2.1,h40⟩
     have DW:Hid (DOk ⟨pub,sg.setIfInBounds 40 (uu ^^^ 1),tx⟩):=⟨DD.out.1.1,by rw[Qq];exact DD.out.1.2.1,DD.out.1.2.2⟩
     have SZ9:=Hid.mk' sz9;clear h40 sz9;obtain⟨u0,W1,ct,W2,u1,W3,u2,W4,u3,W5,u4,W6,u5,W7,r0,q1,r1,r2,q2,r3,bW5,r4,q3,r5,bW1,hL7⟩:=Lw.next (d:=⟨pub,sg.setIfInBounds 40 (uu ^^^ 1),tx⟩) (gp:=gp) (cp:=cp) (gs:=gs) (cs:=cs) (bb2:=false) wr KM.out B9.out (by rw[hD];omega) DW.out PP.out.1 PP.out.2.1 PW.out.1 PW.out.2 SS.out.1 SS.out.2.1 SW.out.1 SW.out.2 (fun h=>by cases h);have kx1:=(HC.out W1 bW1).2.2;have kx5:=(HC.out W5 bW5).2.2;have KN:=Hid.mk' hL7;rw[SZ9.out,<-hw9.out]at r0;have A0:=Hid.mk' r0;have A1:=Hid.mk' r1;have A2:=Hid.mk' r2;have A3:=Hid.mk' r3;have A4:=Hid.mk' r4;have A5:=Hid.mk' r5;clear hL7 r0 r1 r2 r3 r4 r5 bW1 bW5 KM PP SS;go_wp2_with (first|(at_builtin;refine QC _ rfl _ _ 23 23 rfl _ _ rfl rfl _ _ A0.out ?_)|(at_builtin;refine QC _ rfl _ _ 23 23 rfl _ _ rfl rfl _ _ A1.out ?_)|(at_builtin;refine QC _ rfl _ _ 23 23 rfl _ _ rfl rfl _ _ A2.out ?_)|(at_builtin;refine QC _ rfl _ _ 24 24 rfl _ _ rfl rfl _ _ A3.out ?_)|(at_builtin;refine QC _ rfl _ _ 24 24 rfl _ _ rfl rfl _ _ A4.out ?_)|(at_builtin;refine QC _ rfl _ _ 24 24 rfl _ _ rfl rfl _ _ A5.out ?_)|fail)
     go_roundg (gk-1)
     case measure=>omega
     case rel=>exact⟨i+1,_,_,_,_,_,by omega,by rw[PY,hD];rfl,rfl,rfl,KN⟩
   ·have htx':(4096:Int)<(tx.size:Int):=by omega
    go_wp2;go_ret;exact⟨rfl,KM.out.bl⟩
  ·have hlt':¬(i:Int)<(n:Int):=by omega
   obtain rfl:i=n:=by omega
   obtain⟨C,O,hord,hpr,hbig⟩:=HX.out;by_cases hm1:more=1
   ·subst hm1;have HB:=Hid.mk' (fun w=>Ch C.toFld w);obtain⟨q0,c0,q1,c1,q2,c2,q3,c3,q4,c4,q5,c5,e0,e1,e2,e3,e4,e5,-⟩:=KM.out.gv;rw[hD]at e1 e2 e4 e5;subst e1 e2 e4 e5;clear e0 e3;go_wp2_with fail
    refine(HB.out wr).mono ?_;rintro e w2 ⟨v2,rfl,hb2,gb,cb,rfl,hcb,hgb0,hgb,hHb⟩;have hz:=(aX (gG P):(Go.Proofs.YtfcnimopdjjhcaaGreat.wr (gG P)).size=33)
    have bl2:=KM.out.bl.trans (hb2.mono KM.out.bl.size);obtain⟨u0,W3,r0,S3,B3,E3⟩:=(KM.out.six.below hb2).app (k:=0) rfl Cm wK (by omega) (x:=.slice (some ⟨gb,0,none⟩) 33 cb) rfl (by rw[KM.out.l0,hD];omega) bl2.size;have bl3:=bl2.trans B3;have K3:Hid (Six W3 w.heap.size _/\Below w.heap.size w W3/\x0.length=i):=⟨S3,bl3,by rw[KM.out.l0,hD]⟩
    have A0:=Hid.mk' r0;clear r0 S3 B3 E3 bl2 bl3 hb2 hcb hgb0 hgb hHb;go_wp2_with (first|(at_builtin;refine QC _ rfl _ _ 23 23 rfl _ _ rfl rfl _ _ A0.out ?_)|fail)
    refine(HB.out W3).mono ?_;rintro e w4 ⟨v4,rfl,hb4,gb4,cb4,rfl,hcb4,hgb40,hgb4,hHb4⟩;have hcv:=SP.conv_str prog 28 9 5 SP.slice22 SP.int5 SP.str9 w4 gb4 0 33 cb4 (Go.Proofs.YtfcnimopdjjhcaaGreat.wr (gG P)) hHb4 hz;have bl4:=K3.out.2.1.trans (hb4.mono K3.out.2.1.size);obtain⟨u3,W5,r3,S5,B5,E5⟩:=(K3.out.1.below hb4).app (k:=3) rfl Cl wJ (by omega) (x:=.string ⟨Go.Proofs.YtfcnimopdjjhcaaGreat.wr (gG P)⟩) rfl (by rw[Qb,hD];omega) bl4.size;have A3:=Hid.mk' r3;have KE:Hid (Below w.heap.size w W5):=bl4.trans B5;obtain⟨qa,ca,ea0,-,-⟩:=bN (S5.ow 0 _ rfl);obtain⟨qb,cb',eb0,-,-⟩:=bN (S5.ow 3 _ rfl);have ea:u0=.slice qa (i+1) ca:=by have:=ea0;simp only[PY,K3.out.2.2]at this;exact this
    have eb:u3=.slice qb (i+1) cb':=by have:=eb0;simp only[PY,Qb,hD]at this;exact this
    clear ea0 eb0;subst ea eb;obtain⟨rb,re,hre,hBt,hRb⟩:=BQ C O hord W5 (i+1) i (by omega) (by omega) qa q1 q2 qb q4 q5 ca c1 c2 cb' c4 c5 (fun _=>#[]) (fun _=>#[]) (fun _=>⟨#[]⟩) (fun e=>by omega);have hre2:rb=false/\re=2:=by
     unfold bRs at hre;rw[if_neg (by omega)]at hre;injection hre with h1 h2
     exact⟨h1.symm,h2.symm⟩
    obtain⟨rfl,rfl⟩:=hre2;have HBt:=Hid.mk' hBt;have HRb:=Hid.mk' hRb;clear r3 S5 B5 E5 bl4 hb4 hcb4 hgb40 hgb4 hHb4 hz K3 hre hBt hRb HB A0;generalize Go.Proofs.YtfcnimopdjjhcaaGreat.wr (gG P)=GB at hcv A3;go_wp2_with (first|(at_builtin;refine QC _ rfl _ _ 24 24 rfl _ _ rfl rfl _ _ A3.out ?_)|fail)
    refine HBt.out.mono ?_;rintro e wA ⟨vA,rfl,hbA,rfl⟩;have HR2:=Hid.mk' (HRb.out wA hbA);have KA:Hid (Below w.heap.size w wA):=KE.out.trans (hbA.mono KE.out.size);clear HBt HRb hbA KE;go_wp2_with fail
    refine HR2.out.mono ?_;rintro e wB ⟨vB,rfl,hbB,rfl⟩;have KB:Hid (Below w.heap.size w wB):=KA.out.trans (hbB.mono KA.out.size);clear HR2 hbB KA;cases bb with
    | true =>
     go_wp2;go_ret;exact⟨rfl,KB.out⟩
    | false =>
     go_wp2;go_ret;exact⟨rfl,KB.out⟩
   ·have hm1':(more == 1)=false:=by simpa using hm1
    by_cases hm2:more=2/\0<i
    ·obtain⟨rfl,hi0⟩:=hm2;obtain⟨q0,c0,q1,c1,g2,c2,q3,c3,q4,c4,g5,c5,gs,cs,e0,e1,e2,e3,e4,e5,k1,k2,k3,k4,k5,k6,k7⟩:=KM.out.cut (by rw[hD];exact hi0);rw[hD]at e0 e1 e2 e3 e4 e5 k7;subst e0 e1 e2 e3 e4 e5;have hi0':(0:Int)<(i:Int):=by omega
     have hcs:(1:Int)<=(cs:Int):=by omega
     obtain⟨k4a,k4b⟩:=k4 (.slice (some ⟨gs,1,none⟩) 64 (cs-1));obtain⟨rb,re,hre,hBt,hRb⟩:=BQ C O hord _ i i (by omega) (by omega) q0 q1 (some ⟨g2,0,none⟩) q3 q4 (some ⟨g5,0,none⟩) c0 c1 c2 c3 c4 c5 _ _ _ (fun _=>k7);have hsl:∀W:World,(Re 28 (.slice (some ⟨gs,0,none⟩) 65 cs) (some (.int .i64 1)) none none).run prog W=.ok (.slice (some ⟨gs,1,none⟩) 64 (cs-1)) W:=fun W=>by
      have h1:¬(cs:Int)<65:=by omega
      have h2:((65:Nat):Int)<=(cs:Int):=by omega
      have h3:¬cs=1:=by omega
      go_simp
     have hsl2:∀W:World,(Re 9 (.string ⟨(dF D 0).sg⟩) (some (.int .i64 1)) none none).run prog W=.ok (.string ⟨(dF D 0).sg.extract 1 65⟩) W:=fun W=>by
      have h:(⟨(dF D 0).sg⟩:ByteArray).size=65:=k5;have h2:(⟨(dF D 0).sg⟩:ByteArray).extract 1 65=⟨(dF D 0).sg.extract 1 65⟩:=by
       apply XN;rw[UL]
      rw[<-h2];generalize (⟨(dF D 0).sg⟩:ByteArray)=D0 at h;go_simp
     have HBt:=Hid.mk' hBt;have HRb:=Hid.mk' hRb;have KE:=Hid.mk' k6;clear hBt hRb k6 k7 k5 k4 hre;generalize (dF D 0).sg.extract 1 65=s1 at hsl2 HBt HRb KE;generalize (dF D 0).sg=s0 at hsl2 k4a;go_wp2_with fail
     refine HBt.out.mono ?_;rintro e wA ⟨vA,rfl,hbA,rfl⟩;have HR2:=Hid.mk' (HRb.out wA hbA);have KA:Hid (Below w.heap.size w wA):=KE.out.trans (hbA.mono KE.out.size);clear HBt HRb hbA KE;go_wp2_with fail
     refine HR2.out.mono ?_;rintro e wB ⟨vB,rfl,hbB,rfl⟩;have KB:Hid (Below w.heap.size w wB):=KA.out.trans (hbB.mono KA.out.size);clear HR2 hbB KA;go_wp2;go_ret;exact⟨rfl,KB.out⟩
    ·obtain⟨q0,c0,q1,c1,q2,c2,q3,c3,q4,c4,q5,c5,e0,e1,e2,e3,e4,e5,hG⟩:=KM.out.gv;rw[hD]at e0 e1 e2 e3 e4 e5 hG;subst e0 e1 e2 e3 e4 e5;obtain⟨rb,re,hre,hBt,hRb⟩:=BQ C O hord wr i i (by omega) (by omega) q0 q1 q2 q3 q4 q5 c0 c1 c2 c3 c4 c5 _ _ _ (fun _=>hG);have hfin:bb=false\/re≠0\/rb=true:=by
      cases hbb:bb with
      | false=>exact Ql rfl
      | true =>
       right;unfold bRs at hre;rw[if_pos rfl]at hre;by_cases h64:i<=64
       ·rw[if_pos h64]at hre;injection hre with h1 h2
        right;rw[<-h1];exact BU C O hord i (dF D) (fun j hj=>KM.out.al hbb _ (QY (fC (by rw[hD];exact hj))))
       ·rw[if_neg h64]at hre;injection hre with h1 h2
        left;omega
     have HBt:=Hid.mk' hBt;have HRb:=Hid.mk' hRb;have KE:=Hid.mk' KM.out.bl;have HF:=Hid.mk' hfin;clear hBt hRb hre hfin hG;by_cases hm3:more=2
     ·subst hm3;have hi0:¬(0:Int)<(i:Int):=by omega
      go_wp2_with fail
      refine HBt.out.mono ?_;rintro e wA ⟨vA,rfl,hbA,rfl⟩;have HR2:=Hid.mk' (HRb.out wA hbA);have KA:Hid (Below w.heap.size w wA):=KE.out.trans (hbA.mono KE.out.size);clear HBt HRb hbA KE;go_wp2_with fail
      refine HR2.out.mono ?_;rintro e wB ⟨vB,rfl,hbB,rfl⟩;have KB:Hid (Below w.heap.size w wB):=KA.out.trans (hbB.mono KA.out.size);clear HR2 hbB KA;rcases HF.out with rfl|hre|rfl
      ·go_wp2;go_ret;exact⟨rfl,KB.out⟩
      ·have hre1:¬(re:Int)=0:=by omega
       have hre2:((re:Int) == 0)=false:=by simpa using hre1
       cases bb with
       | true =>
        go_wp2;go_ret;exact⟨rfl,KB.out⟩
       | false =>
        go_wp2;go_ret;exact⟨rfl,KB.out⟩
      ·cases bb with
       | true =>
        by_cases hre1:(re:Int)=0
        ·have hre2:((re:Int) == 0)=true:=by simpa using hre1
         go_wp2;go_ret;exact⟨rfl,KB.out⟩
        ·have hre2:((re:Int) == 0)=false:=by simpa using hre1
         go_wp2;go_ret;exact⟨rfl,KB.out⟩
       | false =>
        go_wp2;go_ret;exact⟨rfl,KB.out⟩
     ·have hm3':(more == 2)=false:=by simpa using hm3
      go_wp2_with fail
      refine HBt.out.mono ?_;rintro e wA ⟨vA,rfl,hbA,rfl⟩;have HR2:=Hid.mk' (HRb.out wA hbA);have KA:Hid (Below w.heap.size w wA):=KE.out.trans (hbA.mono KE.out.size);clear HBt HRb hbA KE;go_wp2_with fail
      refine HR2.out.mono ?_;rintro e wB ⟨vB,rfl,hbB,rfl⟩;have KB:Hid (Below w.heap.size w wB):=KA.out.trans (hbB.mono KA.out.size);clear HR2 hbB KA;rcases HF.out with rfl|hre|rfl
      ·go_wp2;go_ret;exact⟨rfl,KB.out⟩
      ·have hre1:¬(re:Int)=0:=by omega
       have hre2:((re:Int) == 0)=false:=by simpa using hre1
       cases bb with
       | true =>
        go_wp2;go_ret;exact⟨rfl,KB.out⟩
       | false =>
        go_wp2;go_ret;exact⟨rfl,KB.out⟩
      ·cases bb with
       | true =>
        by_cases hre1:(re:Int)=0
        ·have hre2:((re:Int) == 0)=true:=by simpa using hre1
         go_wp2;go_ret;exact⟨rfl,KB.out⟩
        ·have hre2:((re:Int) == 0)=false:=by simpa using hre1
         go_wp2;go_ret;exact⟨rfl,KB.out⟩
       | false =>
        go_wp2;go_ret;exact⟨rfl,KB.out⟩
end
/-
  THE ROW OF 'SigmaBatches' round its walk; the frame by the guide's program (howto/shells), the world behind the call told by 'Below'.
-/
namespace sigmaBatches
open Go.ChangeShapes Go.WideShapes Go.ChangeAt Go.RowKit
open Go.ChangeMaps (open_string shut_string)
theorem own:ownKnob prog.godebug=none:=by kernel_rfl
theorem laidOut:laidOutB prog=true:=by kernel_rfl
theorem OX:Ord Go.Proofs.YtfcnimopdjjhcaaGreat.p1:=⟨Pj,Nv,by decide +kernel,by decide +kernel⟩
theorem LQ:NT.IsP Go.Proofs.YtfcnimopdjjhcaaGreat.p1:=by
 rw[Gh];exact NT.pN
theorem Dm:prog.cellsOf 26=3:=by kernel_rfl
theorem cells3:prog.cellsOf 3=1:=by kernel_rfl
theorem cells9:prog.cellsOf 9=1:=by kernel_rfl
theorem Ab(q:Option Addr)(n c:Nat)(more:Int)(A B:Nat->Int)(X:Nat->ByteArray)(w:World)(hE:n<=70->EnL w q n A B X):Calls prog 3 #[.slice q n c,.int .i64 more] w fun e w'=>e=.returned (.bool true)/\Below w.heap.size w w':=by
 by_cases hn:n<=70
 ·obtain⟨P,hz,C⟩:=fl3;exact xC C OX (order2 C.toFld) LQ (by decide +kernel) q n c more A B X hn w (hE hn)
 ·have hn':(70:Int)<(n:Int):=by omega
  clear hE hn;go_enter Tryz.func3,Tryz.ntmps3;go_wp2;go_ret;exact⟨rfl,Qd _ _⟩
theorem zL{H:Type}{enc:TypeId × Value->H}{W:World}{n:Nat}{cs:List Value}{x:DataW H × List MemPlace}(h:DataW.trod enc prog W 0 (fun _=>true) true n 26 cs=some x):∃(a b:Int) (s:ByteArray),cs=[.int .i64 a,.int .i64 b,.string s]:=by
 obtain⟨y0,y1,y2,m,hx,hl,h0,h1,h2⟩:=Go.Deep.trod_struct3 Tryz.underlying26 h;rw[Dm]at hl;match cs,hl with
 | [a,b,c],_ =>
  obtain⟨d0,e0,_,_⟩:=Xa Tryz.underlying3 h0;obtain⟨d1,e1,_,_⟩:=Xa Tryz.underlying3 h1;obtain⟨s2,e2,_,_⟩:=DataW.trod_string Tryz.underlying9 h2;simp only[cells3,cells9,List.drop_zero,List.drop_succ_cons,List.take_succ_cons,List.take_zero,List.cons.injEq,and_true]at e0 e1 e2;exact⟨d0,d1,s2,by rw[e0,e1,e2]⟩
theorem lifted(os:Os)(started:os.Started)(H:Type)(enc:TypeId × Value->H):
 ReturnsInHanded {} Tryz.checked os 3 .any (Rows.sigmaBatchesSpec.pre6 enc prog Tryz.f3 Rows.sigmaBatchesRow.domain false) (Rows.sigmaBatchesSpec.post enc prog Tryz.f3 false true false false):=by
 refine returnsInHanded_of_change (C:=Tryz.checked) own started (by kernel_rfl) Tryz.func3
  (ChangeSpec.witness6 (enc:=enc) (C:=Tryz.checked) false ⟨#[],#[.slice none 0 0,.int .i64 0],[]⟩ 8 (by kernel_rfl) (by kernel_rfl) (by kernel_rfl) (by kernel_rfl)) ?_
 intro W base args ds gs before hval0 hW hcnd _;have hval:∀(j:Nat) t v,Tryz.f3.params[j]? = some t->args[j]? = some v->Value.okWide prog W .any base t v:=hval0;have hW':=hW;obtain⟨p,q,hA0,hV,rfl,hfz,hnd⟩:=hW;have hA:DataW.TrodAll enc prog W 0 (fun _=>true) true Tryz.f3.params.toList args.toList ds p:=hA0;rw[Tryz.params3]at hA hval;obtain⟨v0,vs0,d0,ds0,p0,q0,hargs,rfl,rfl,h0,r0⟩:=trodAll_cons hA;obtain⟨v1,vs1,d1,ds1,p1,q1,rfl,rfl,rfl,h1,r1⟩:=trodAll_cons r0;obtain⟨rfl,rfl,rfl⟩:=trodAll_nil r1;obtain rfl:args=#[v0,v1]:=by cases args;simp_all
 obtain⟨rfl,rfl⟩:=trodVars_none hV;obtain⟨m1,rfl,rfl,rfl,w1⟩:=open_int Tryz.underlying3 (hval 1 3 v1 rfl rfl) h1;obtain⟨a1,len1,cap1,rfl⟩:=okWide_slice Tryz.underlying22 (hval 0 22 v0 rfl rfl);have k1:=h0;have lt1:∀x∈p0,x.block<W.heap.size:=by obtain⟨m,hm⟩:=k1;exact DataW.trod_lt m _ _ _ hm
 obtain⟨A,B,X,hE⟩:∃(A B:Nat->Int) (X:Nat->ByteArray),EnL W a1 len1 A B X:=by
  obtain⟨fuel,hf⟩:=h0;rcases Go.Deep.open_slice Tryz.underlying22 hf with⟨hcs,_⟩|⟨a,l,c,m,n,D,Pl,hcs,_,hl,hm,hmm,hx0,hx⟩
  ·simp[Xv]at hcs;obtain⟨rfl,rfl,rfl⟩:=hcs;exact⟨fun _=>0,fun _=>0,fun _=>UK,fun h=>absurd h (U1 _)⟩
  ·simp[Xv]at hcs;obtain⟨rfl,rfl,rfl⟩:=hcs;simp only[if_true]at hmm;subst hmm;rw[Dm]at hx;obtain⟨b,off,spot⟩:=a;by_cases h00:len1=0
   ·subst h00;exact⟨fun _=>0,fun _=>0,fun _=>UK,fun h=>absurd h (U1 _)⟩
   obtain⟨cs0,hc0,ht0⟩:=hx 0 (by omega);obtain⟨_,hlen0,hcell0⟩:=Wm hc0;obtain⟨_,_,_,rfl⟩:=zL ht0;have hspot:spot=none:=by simpa[Addr.add]using World.cell?_spot (hcell0 0 (by omega))
   subst hspot;have hall:∀i,∃t:Int × Int × ByteArray,i<len1->W.cell? ⟨b,off+3*i,none⟩=some (.int .i64 t.1)/\W.cell? ⟨b,off+3*i+1,none⟩=some (.int .i64 t.2.1)/\W.cell? ⟨b,off+3*i+2,none⟩=some (.string t.2.2):=fun i=>by
    by_cases hi:i<len1
    ·obtain⟨cs,hc,ht⟩:=hx i (by omega);obtain⟨_,hlen,hcell⟩:=Wm hc;obtain⟨x,y,s,rfl⟩:=zL ht;refine⟨(x,y,s),fun _=>?_⟩;have hh:∀(j:Nat) (v:Value),([.int .i64 x,.int .i64 y,.string s]:List Value)[j]? = some v->W.cell? ⟨b,off+3*i+j,none⟩=some v:=fun j v hj=>by
      have hj3:j<3:=(Qe.1 hj).1;have:=hcell j hj3;rw[hj,VZ,VZ,Qr i 3]at this;exact this
     exact⟨hh 0 _ rfl,hh 1 _ rfl,hh 2 _ rfl⟩
    ·exact⟨(0,0,UK),fun h=>absurd h hi⟩
   refine⟨fun i=>(hall i).choose.1,fun i=>(hall i).choose.2.1,fun i=>(hall i).choose.2.2,fun hn=>⟨b,off,rfl,?_,fun i hi=>(hall i).choose_spec hi⟩⟩;exact World.block_lt_of_cell? _ _ ((hall 0).choose_spec (by omega)).1
 clear hA0 hval0;refine(Ab a1 len1 cap1 m1 A B X W (fun _=>hE)).mono fun e W' ⟨he,bel⟩=>?_
 subst he;exact⟨_,rfl,_,_,_,[],_,[],hW',(trodAll_cons_mk (shut_bool Tryz.underlying4 _) trodAll_mk0),(trodAll_cons_mk (Below.trod laidOut (by kernel_rfl) (of_decide_eq_true (by kernel_rfl)) k1 bel lt1) (trodAll_cons_mk (shut_int Tryz.underlying3 w1) trodAll_mk0)),rfl,bel.frame _,fun h=>by cases h⟩
theorem over:Rows.sigmaBatchesRow.holds Tryz.pinned (OpenSpec.ofChange Rows.sigmaBatchesSpec):=
 OpenClaim.holds_of_wide 3 Tryz.f3 rfl rfl rfl rfl rfl rfl rfl ⟨rfl,rfl,rfl,rfl,rfl⟩ rfl rfl rfl rfl rfl (by kernel_rfl) Tryz.func3 (by kernel_rfl)
  (of_decide_eq_true (by kernel_rfl)) (by unfold Func.isWrapper;first|(rw[if_pos (by decide +kernel)];kernel_rfl)|(rw[if_neg (by decide +kernel)];exact⟨rfl,rfl⟩))
  (fun os started H enc _=>lifted os started H enc)
theorem proved:Rows.SigmaBatchesSaid:=
 over
end sigmaBatches
section
theorem sigmaBatches_holds:Rows.SigmaBatchesSaid:=sigmaBatches.proved
#print axioms sigmaBatches_holds
end
end Go.Proofs.YtfcnimopdjjhcaaGreat
