import Derived.Deep.LoopGhost
import Derived.ChangeOld
import Derived.Below
import Derived.WalkKit
import Derived.ProofKit
import Derived.OpenShut
import Derived.ShutString
import Derived.Test.YtmfodnkinmnopaaGreatSp7
set_option linter.unusedVariables false
set_option linter.constructorNameAsVariable false
set_option linter.unusedSimpArgs false
set_option maxRecDepth 1000000
set_option maxHeartbeats 4000000
namespace Go.Proofs.YtmfodnkinmnopaaGreat
open _root_.Array renaming ext->Tk,ext'->Vq,extract_append_extract->Tj,getD_eq_getD_getElem?->Ov,getElem?_eq_some_iff->OH,getElem_append_left->RP,getElem_append_right->Ry,getElem_extract->Rj,length_toList->Ot,size_append->ON,size_extract->Po,toList_append->Rr
open _root_.Bool renaming and_eq_true->Ox
open _root_.ByteArray renaming empty->RI,size_append->Vz
open _root_.Fin renaming ext->RS,ofNat->PL
open _root_.Go.Act renaming put->Pk
open _root_.Go.Exit renaming inBlock->QK
open _root_.Go.Fence renaming wide->Vp
open _root_.Go.Instr renaming sliceAt->Pp
open _root_.Go.IntKind renaming bits->VH,signed->VG,u8->TK,wrap->VF
open _root_.Go.KeepsOthers renaming alloc->U3,setCell->S7
open _root_.Go.Next renaming value->Rf
open _root_.Go.OwnFrom renaming and->UO
open _root_.Go.RowKit.Below renaming heap_alloc->Se,refl->Ow
open _root_.Go.Sem renaming run_bind->OG
open _root_.Go.Value renaming agg->O8,bool->Uf,int->Pi,ownBlock->Sz,slice->Qz
open _root_.Go.World renaming cell?->Qs,cell?_alloc_new->OK,frozen?->RZ,size_alloc->Oo
open _root_.List renaming cons_ne_nil->Rk,drop->VE,ext_getElem?->Sg,getElem?_eq_none->PX,getElem?_map->PD,getElem?_range->QT,length_append->Oz,length_map->OO,mem_cons->Pg,nil_append->Tv,not_mem_nil->OD,range->Pj,setIfInBounds_toArray->OL,set_cons_succ->Pd,set_cons_zero->Pf,size_toArray->O4,take->VD
open _root_.List.Mem renaming head->RA
open _root_.Nat renaming add_assoc->Qa,add_mul->QC,div_one->TA,le_of_ble_eq_true->PH,le_refl->Oh,le_trans->OM,lt_of_lt_of_le->Oi,lt_of_succ_le->Qx,mod_eq_of_lt->Oy,mod_lt->Qf,mul_assoc->P5,mul_comm->OX,ne_of_lt->Pv,pow_succ->PQ,pow_zero->Ql,reduceAdd->QL,sub_self->R9,two_mul->Vr,zero_add->Om,zero_lt_succ->UH
open _root_.Option renaming isSome_iff_exists->O9,some->OW
open _root_.Or renaming inl->OQ,inr->OC
open _root_.UInt8 renaming ofNat->Oq,toNat_ofNat'->RD
open Go.Proofs.Tryz (prog)
section
open Go.RowKit Go.Sort Go.Deep Go.Shelf
attribute [local go_sem] Oper.semAt_some
theorem yG(base:Nat)(T:TypeId)(v:Value)(n:Nat)(xs:List Value):Own (fun(_:Unit) W=>W.ownsRow base T 1 v n xs):=fun s A B row hs hg hr=>by
 refine hs.kept hg ?_;rcases hs.2 with⟨rfl,_⟩|⟨g,cap,cur,rfl,_,hgb,_⟩
 ·exact .inl rfl
 ·refine .inr fun e'=>?_
  obtain⟨o,ho,hw⟩:=hr g (by simpa[Sz]using e'.symm);rw[hgb]at ho;cases ho;cases hw
theorem iI{W:World}{base:Nat}{T U:TypeId}{v:Value}{n k:Nat}{xs:List Value}(h:W.ownsRow base T 1 v n xs){o:Obj}(hk:W.heap[k]? = some o)(hT:∀cs,o≠.cells cs T (0,0)):v.ownBlock=none\/v.ownBlock≠some k:=by
 rcases h.2 with⟨rfl,_⟩|⟨g,cap,cur,rfl,_,hgb,_⟩
 ·exact .inl rfl
 ·refine .inr fun e'=>?_
  have:g=k:=by simpa[Sz]using e'
  subst this;rw[hgb]at hk;cases hk;exact hT cur rfl
theorem Fh{W W':World}{base:Nat}{T:TypeId}{v:Value}{n:Nat}{xs:List Value}(h:W.ownsRow base T 1 v n xs)(hg:W.grownBy W' v.ownBlock):KeepsOthers W W':=by
 refine⟨hg.size,fun k o hk ho=>?_⟩;rw[hg.block k (OH.1 hk).1 ?_]
 ·exact hk
 ·rcases h.2 with⟨rfl,_⟩|⟨g,cap,cur,rfl,_,hgb,_⟩
  ·simp[Sz]
  ·intro e;have:k=g:=by simpa[Sz]using e
   subst this;rw[hgb]at hk;cases hk;cases ho
def Box(T U:TypeId)(base Bs:Nat)(xs:List Value)(W:World):Prop:=∃v,W.heap[Bs]? = some (.cells #[v] U (0,0))/\W.ownsRow base T 1 v xs.length xs/\(v=.slice none 0 0↔xs=[])
theorem IW(T U:TypeId)(base Bs:Nat)(xs:List Value):Own (fun(_:Unit) W=>Box T U base Bs xs W):=fun s A B row hs hg hr=>by
 obtain⟨v,h1,h2,h3⟩:=hs;refine⟨v,?_,yG base T v _ xs () A B row h2 hg hr,h3⟩;rw[hg.block Bs (OH.1 h1).1 ?_]
 ·exact h1
 ·intro e;obtain⟨o,ho,hw⟩:=hr Bs e.symm;rw[h1]at ho;cases ho;cases hw
theorem IV{W:World}{B:Nat}{v:Value}{t:TypeId}(v':Value)(h:W.heap[B]? = some (.cells #[v] t (0,0))):(W.setCell ⟨B,0,none⟩ v').heap[B]? = some (.cells #[v'] t (0,0)):=by
 obtain⟨hlt,hk⟩:=OH.1 h;show(W.heap.modify B _)[B]? = _;rw[Array.getElem?_eq_getElem (by rw[Array.size_modify];exact hlt),Array.getElem_modify_self,hk];rfl
theorem D3(W:World)(b:Nat)(v:Value):W.grownBy (W.setCell ⟨b,0,none⟩ v) (some b):=
 ⟨rfl,rfl,rfl,(S7 W _ v).size,fun k _ hk=>Below.heap_setCell _ _ _ k (fun e=>hk (by rw[e]))⟩
theorem iBy:(prog.info? 22).map (fun i=>(i.zero,i.size,i.bytes))=some (some (.slice none 0 0),1,24):=by kernel_rfl
theorem uBB:prog.underlying 82=some (.slice 22):=by kernel_rfl
theorem zQ(g:Nat->Addr)(c:Nat)(gf:Nat)(eg:∀args w,(callFunc gf args).run prog w=.ok (.enter gf args) w)(lb:Array Value)(N:Nat)(hN:N<=1048576)(w:World)
 (hseq:∀n,SeqStopsK Vp n prog gf lb (fun i:Nat=>#[.slice (some (g i)) c c]) (Below w.heap.size) (fun xs=>xs=Pj N) (fun _=>True) N w) :
 Calls prog 140 #[.slice none 0 0,.func (.func gf) #[] lb] w (Ret fun e w'=>Below w.heap.size w w'/\w'.ownsRow w.heap.size 22 1 e N ((Pj N).map (fun i=>Qz (some (g i)) c c))/\(e=.slice none 0 0↔N=0)):=by
 obtain⟨i0,hi,hz0,hz1,hz2⟩:=info_parts iBy;refine(callsIn_wide (n:=5)).1 ?_;refine callsIn_of_wp_marks Tryz.func140 rfl trivial ?_ rfl;simp only[Tryz.ntmps140,O4,List.length_cons,List.length_nil,QL,Nat.reduceSub,Array.replicate_succ,Array.replicate_zero,List.push_toArray,List.append_toArray,Tv,List.cons_append]
 gi_wp2
 obtain⟨W0,hW0⟩:∃W0,W0=w.alloc (.cells #[.slice none 0 0] 82):=⟨_,rfl⟩
 have hsz:W0.heap.size=w.heap.size+1:=by rw[hW0,Oo]
 have hv0:W0.heap[w.heap.size]? = some (.cells #[.slice none 0 0] 82 (0,0)):=by rw[hW0];exact World.alloc_heap_new w _
 have hB0:Below w.heap.size w W0:=by rw[hW0];exact(Ow _ w).alloc (Oh _) _
 rw[<-hW0];clear hW0;refine wpIn_rangeFunc_ownH (α:=Nat) rfl (by decide) (gf:=gf) (lb:=lb) rfl trivial eg (hseq 4) belowK_t (belowK_b (by omega)) hB0 (fun _=>rfl)
  (fun pre W=>Box 22 82 w.heap.size w.heap.size (pre.map (fun i=>Qz (some (g i)) c c)) W/\Below w.heap.size w W)
  (fun c pre W=>False)
  (UO (Own.from (show Own (fun(pre:List Nat) W=>Box 22 82 w.heap.size w.heap.size (pre.map (fun i=>Qz (some (g i)) c c)) W) from fun s A B row hs hg hr=>IW 22 82 w.heap.size w.heap.size (s.map (fun i=>Qz (some (g i)) c c)) () A B row hs hg hr) _) (ownFrom_below (Oh _) (by omega)))
  (fun c=>fun s A B row hs hg hr=>hs.elim)
  ⟨⟨_,hv0,⟨rfl,.inl ⟨rfl,rfl⟩⟩,by simp⟩,hB0⟩
  (fun x a' W=>a' = { tmps:=#[.slice none 0 0,.func (.func gf) #[] lb,.pointer (some ⟨w.heap.size,0,none⟩),undef,.slice none 0 0,(.slice (some (g x)) c c),.func (.func gf) #[] lb,(.slice (some (g x)) c c),undef,undef,undef,undef,undef],defers:=[] })
  (fun x a'=>fun s A B row hs hg hr=>hs) ?assign ?body ?done ?stop
 case assign =>
  intro l pre x W K hI hK
  gi_wp2
  exact hK _ _ (KeepsFrom.refl _ _) (Ow _ _) hI rfl
 case body =>
  rintro l pre x a' W hl ⟨r,hr⟩ ⟨⟨v,hv,hrow,hnil⟩,hB⟩ rfl hlt;have hc:W.cell? ⟨w.heap.size,0,none⟩=some v:=by simp[Qs,hv]
  have hfz:W.frozen? ⟨w.heap.size,0,none⟩=false:=by simp[RZ,hv]
  have hBlt:w.heap.size<W.heap.size:=(OH.1 hv).1;have hlen:(pre.map (fun i=>Qz (some (g i)) c c)).length=pre.length:=OO _;have hrow2:(W.alloc (.cells #[(.slice (some (g x)) c c)] 22)).ownsRow w.heap.size 22 1 v (pre.map (fun i=>Qz (some (g i)) c c)).length (pre.map (fun i=>Qz (some (g i)) c c)):=hrow.alloc _;have hv2:(W.alloc (.cells #[(.slice (some (g x)) c c)] 22)).heap[w.heap.size]? = some (.cells #[v] 82 (0,0)):=(Se _ _ _ hBlt).trans hv;have hap:=iI (U:=0) hrow2 hv2 (fun cs e=>by cases e)
  gi_wp2_with (gi_at_builtin;refine Hid.out ?_)
  show wpListIn _ _ _ _ _ _ _ _
  (refine wpListIn_append_own _ rfl _ _ 82 rfl w.heap.size 22 i0 (.slice none 0 0) 1 24 uBB hi hz0 hz1 hz2 rfl (by decide) v _ _ rfl hrow2 ⟨W.heap.size,0,none⟩ 1 1 [(.slice (some (g x)) c c)] rfl rfl (cell_one_new _ _ _) (fun u hu=>by rw[List.mem_singleton.1 hu];rfl) (by rw[hlen];exact OM (show pre.length+1<=1048577 by omega) (by decide)) (by rw[hlen];omega) (by simp;omega) ?_;intro v' w3 hown' hg3 hnil3)
  have hne:(some w.heap.size:Option Nat)≠v.ownBlock:=by
   rcases hap with e|e
   ·rw[e];simp
   ·exact fun e'=>e e'.symm
  have hv3:w3.heap[w.heap.size]? = some (.cells #[v] 82 (0,0)):=(hg3.block _ (by rw[Oo];omega) hne).trans hv2;have hc3:w3.cell? ⟨w.heap.size,0,none⟩=some v:=by simp[Qs,hv3]
  have hf3:w3.frozen? ⟨w.heap.size,0,none⟩=false:=by simp[RZ,hv3]
  have hk3:KeepsOthers W w3:=(U3 W _).trans (Fh hrow2 hg3);have hb3:Below w.heap.size W w3:=((Ow _ W).alloc (Nat.le_of_lt hBlt) _).grown hg3 (by rw[Oo];omega) (fun k e=>(hrow2.lt k e).1);obtain⟨g',cap',cur',rfl,hbase',hgb',hr⟩:∃g' cap' cur',v'=.slice (some ⟨g',0,none⟩) ((pre.map (fun i=>Qz (some (g i)) c c)).length+1) cap'/\w.heap.size<=g'/\w3.heap[g']? = some (.cells cur' 22 (0,0))/\True:=by
   rcases hown'.2 with⟨_,h0⟩|⟨g',cap',cur',h1,h2,h3,_⟩
   ·exact absurd h0 (by omega)
   ·exact⟨g',cap',cur',h1,h2,h3,trivial⟩
  clear hg3 hc hfz hv hv2 hrow hrow2
  gi_wp2
  have hgB:=D3 w3 w.heap.size (.slice (some ⟨g',0,none⟩) (pre.length+1) cap');have hBx:=IV (.slice (some ⟨g',0,none⟩) (pre.length+1) cap') hv3;rw[hlen]at hown';have hown4:=hown'.kept hgB (iI (U:=0) hown' hv3 (fun cs e=>by cases e));have hb4:Below w.heap.size W (w3.setCell ⟨w.heap.size,0,none⟩ (.slice (some ⟨g',0,none⟩) (pre.length+1) cap')):=hb3.grown hgB (OM hB.size hb3.size) (fun k e=>by cases e;exact Oh _);refine⟨(hk3.trans (S7 w3 _ _)).from _,hb4,⟨_,hBx,?_,?_⟩,hB.trans hb4⟩
  ·rw[List.map_append,Oz,hlen];exact hown4
  ·simp
 case done =>
  rintro D ys W hD rfl ⟨⟨v,hv,hrow,hnil⟩,hB⟩ hK;have hc:W.cell? ⟨w.heap.size,0,none⟩=some v:=by simp[Qs,hv]
  gi_wp2
  refine⟨by simp,.inl ⟨_,_,rfl,run_takeDeferred hK,?_⟩⟩;have hgD:=grownBy_putObj' W D (.deferred none);rw[OO,List.length_range]at hrow;refine⟨_,results_tmp rfl _ _ _,v,rfl,hB.grown hgD hB.size (fun k e=>by cases e;omega),hrow.kept hgD (iI (U:=0) hrow hK (fun cs e=>by cases e)),?_⟩;rw[hnil];simp
 case stop =>
  rintro D c pre W hD hpre hF hK;exact hF.elim
theorem DV(g:Nat->Addr)(c:Nat)(gf:Nat)(eg:∀args w,(callFunc gf args).run prog w=.ok (.enter gf args) w)(lb:Array Value)(N:Nat)(hN:N<=1048576)(w:World)
 (hseq:∀n,SeqStopsK Vp n prog gf lb (fun i:Nat=>#[.slice (some (g i)) c c]) (Below w.heap.size) (fun xs=>xs=Pj N) (fun _=>True) N w) :
 Calls prog 90 #[.func (.func gf) #[] lb] w (Ret fun e w'=>Below w.heap.size w w'/\w'.ownsRow w.heap.size 22 1 e N ((Pj N).map (fun i=>Qz (some (g i)) c c))/\(e=.slice none 0 0↔N=0)):=by
 go_enter Tryz.func90,Tryz.ntmps90;go_wp2_with fail
 refine(zQ g c gf eg lb N hN w hseq).mono ?_;rintro e w1 ⟨v,rfl,hb,hr,hn⟩;go_wp2_with fail
 go_ret;exact⟨_,rfl,hb,hr,hn⟩
theorem nQ(sb so c m n cap:Nat)(w:World)(hc:0<c)(hn:n=c*m)(hm:m<=1024)(hcap:n<=cap)(hbig:n<=1073741824)(k:Nat)(hk:k+1<w.heap.size)(h1:w.cell? ⟨k,0,none⟩=some (.slice (some ⟨sb,so,none⟩) n cap))(h2:w.cell? ⟨k+1,0,none⟩=some (.int .i64 c)):
 Calls prog 90 #[.func (.func 141) #[] #[.pointer (some ⟨k,0,none⟩),.pointer (some ⟨k+1,0,none⟩)]] w (Ret fun e w'=>Below w.heap.size w w'/\w'.ownsRow w.heap.size 22 1 e m ((Pj m).map (chv sb so c))/\(e=.slice none 0 0↔m=0)):=
 DV (fun i=>⟨sb,so+c*i,none⟩) c _ (enters_of Tryz.func141 (by kernel_rfl) rfl) _ m (by omega) w (IP sb so c m n cap k (k+1) w hc hn hcap hbig h1 h2 (by omega) hk)
theorem nR(sb so n cap:Nat)(c:Nat)(hc:0<c)(w:World):Calls prog 91 #[.slice (some ⟨sb,so,none⟩) n cap,.int .i64 c] w (Ret fun e w'=>e=.func (.func 141) #[] #[.pointer (some ⟨w.heap.size,0,none⟩),.pointer (some ⟨w.heap.size+1,0,none⟩)]/\w'=(w.alloc (.cells #[.slice (some ⟨sb,so,none⟩) n cap] 22)).alloc (.cells #[.int .i64 c] 3)):=by
 have h1:¬(c:Int)<1:=by omega
 go_enter Tryz.func91,Tryz.ntmps91;go_wp2;go_ret;exact⟨_,rfl,rfl,rfl⟩
end
section
open Go.RowKit Go.Sort Go.Deep
variable {P:Nat}[NeZero P]{N:Nat}
end
section
open Go.RowKit Go.Sort Go.Deep
namespace RG
section
variable {P:Program}{ops:Array Oper}{Q:Exit->Act->World->Prop}{w0 w:World}{k0:Nat}{X:List Nat}{its:List It}{bl:List Bl}{olds:List (Tmp × SV)}{a:Act}{i:Nat}{o:Oper}{it:It}
theorem pW(hk:it.kind=.stay)(T:TypeId)(t:Tmp)(hi v v':Value)(ho:o.op=.slice T (.tmp t) none (some (.const hi)) none)(hout:it.out=.v v')(hx:∀(μ:Nat->Nat) (a:Act),Known ops i its olds it.need μ a->a.eval (.tmp t)=v)
 (hf:∀w:World,(Pp T v none (some hi) none).run P w=.ok v' w):Cert P Q w0 k0 X ops i its bl olds o it:=by
 refine bS hk fun μ a w hK _=>?_
 unfold execOp;rw[ho,hout];dsimp only;rw[hx μ a hK];show((Pp T v none (some hi) none) >>= fun v=>pure (Rf v)).run P w=_;rw[OG,hf];rfl
end
end RG
variable {P:Nat}[NeZero P]{N:Nat}
end
section
open Go.RowKit Go.Sort Go.Deep
variable {P:Nat}[NeZero P]{N:Nat}
theorem uB{bs:Bs}(h:(rq N bs).isSome=true):nuV bs<N:=by
 obtain⟨n,hn⟩:=O9.1 h;rw[<-xO hn];unfold rq at hn;split at hn
 ·rename_i h
  rw[<-OW.inj hn];exact h.2
 ·cases hn
theorem bW{P:Program}{w:World}{fn:Func}{a:Act}(t u x:Tmp)(hr:fn.results=#[.tmp t,.tmp u,.tmp x])(v v' v'':Value)(ht:a.tmps[t]? = some v)(hu:a.tmps[u]? = some v')(hx:a.tmps[x]? = some v''):(results fn a.tmps).run P w=.ok (.tuple #[v,v',v'']) w:=by
 have h2:a.tmps.getD t undef=v:=by rw[Ov,ht];rfl
 have h3:a.tmps.getD u undef=v':=by rw[Ov,hu];rfl
 have h4:a.tmps.getD x undef=v'':=by rw[Ov,hx];rfl
 unfold results;rw[hr];simp only[Array.mapM_eq_mapM_toList,List.mapM_cons,List.mapM_nil,h2,h3,h4];simp[OG]
theorem lI{W:World}{base m:Nat}{T:TypeId}{e:Value}{xs:List Value}(h:W.ownsRow base T 1 e m xs)(hm:0<m):∃g cap,e=.slice (some ⟨g,0,none⟩) m cap/\base<=g/\g<W.heap.size/\∀j,j<m->W.cell? ⟨g,j,none⟩=xs[j]?:=by
 rcases h.2 with⟨_,h0⟩|⟨g,cap,cur,rfl,hb,hg,h1,h2,h3,h4⟩
 ·omega
 ·refine⟨g,cap,rfl,hb,(OH.1 hg).1,fun j hj=>?_⟩;rw[<-h4,List.getElem?_take_of_lt (by omega)];simp[Qs,hg]
theorem lA(w:World)(u v:Value)(T U:TypeId):Below w.heap.size w ((w.alloc (.cells #[u] T)).alloc (.cells #[v] U))/\((w.alloc (.cells #[u] T)).alloc (.cells #[v] U)).heap.size=w.heap.size+2/\((w.alloc (.cells #[u] T)).alloc (.cells #[v] U)).cell? ⟨w.heap.size,0,none⟩=some u/\((w.alloc (.cells #[u] T)).alloc (.cells #[v] U)).cell? ⟨w.heap.size+1,0,none⟩=some v:=by
 have h1:=RG.Made.alloc w [u] T;have h2:=RG.Made.alloc (w.alloc (.cells #[u] T)) [v] U;rw[Oo]at h2;refine⟨h1.bel.trans (h2.bel.mono (by rw[Oo];omega)),by rw[Oo,Oo],?_,h2.range 0 _ rfl⟩;have hlt:=h1.lt;rw[World.cell?_of_block (a:=⟨w.heap.size,0,none⟩) (Se _ _ _ hlt)];exact h1.range 0 _ rfl
theorem Jf{f:Nat->List Value}{C:List Value}(h:Rows 4 2 f 2 C)(h0:∀j,(f j).length=4):C=f 0++f 1:=by
 apply Sg;intro j;have hl:=h.len;by_cases hj:j<8
 ·have e:j=4*(j/4)+j%4:=by omega
  have hr:=h.row (j/4) (j%4) (by omega) (by omega);rw[<-e]at hr;rw[hr];have h3:j/4=0\/j/4=1:=by omega
  rcases h3 with h3|h3
  ·rw[h3,List.getElem?_append_left (by rw[h0];omega)];congr 1;omega
  ·rw[h3,List.getElem?_append_right (by rw[h0];omega),h0];congr 1;omega
 ·rw[PX (by omega),PX (by simp only[Oz,h0];omega)]
theorem Aq{b:Bs}(h:(rq N b).isSome=true):(rq N b).getD 0=nuV b:=by
 obtain⟨n,hn⟩:=O9.1 h;rw[hn,Option.getD_some,xO hn]
end
section
open Go.RowKit Go.Sort Go.Deep
variable {P:Nat}[NeZero P]{N:Nat}
def L3(F:Bs)(z t:Nat):Nat->Bs:=fun j=>if j=0 then F else if j=1 then bx z else bx t
theorem CW{F:Bs}{z t:Nat}(hF:F.size=33)(j:Nat)(hj:j<3):(L3 F z t j).size=if j=0 then 33 else 32:=by
 unfold L3;by_cases h0:j=0
 ·rw[if_pos h0,if_pos h0,hF]
 ·rw[if_neg h0,if_neg h0];by_cases h1:j=1
  ·rw[if_pos h1,bM]
  ·rw[if_neg h1,bM]
theorem N4(F:Bs)(z t:Nat):fM (L3 F z t) 3=(F++(bx z++bx t)).toList:=by
 rw[eM,eM,eM,Rr,Rr];show(([]++F.toList)++(bx z).toList)++(bx t).toList=_;rw[Tv,List.append_assoc]
def Tw3(F:Bs)(z t:Nat)(v:Value)(W:World):Prop:=∃k y0 y1 y2,v=.slice (some ⟨k,0,none⟩) 3 3/\k<W.heap.size/\W.cell? ⟨k,0,none⟩=some y0/\W.cell? ⟨k,1,none⟩=some y1/\W.cell? ⟨k,2,none⟩=some y2/\El 33 W y0 F/\El 32 W y1 (bx z)/\El 32 W y2 (bx t)
theorem Tw3.grow{F:Bs}{z t:Nat}{v:Value}{W W':World}(h:Tw3 F z t v W)(hb:Below W.heap.size W W'):Tw3 F z t v W':=by
 obtain⟨k,y0,y1,y2,h1,h2,h3,h4,h5,h6,h7,h8⟩:=h;exact⟨k,y0,y1,y2,h1,Oi h2 hb.size,by rw[hb.cell (p:=⟨k,0,none⟩) h2];exact h3,by rw[hb.cell (p:=⟨k,1,none⟩) h2];exact h4,by rw[hb.cell (p:=⟨k,2,none⟩) h2];exact h5,h6.below hb (Oh _),h7.below hb (Oh _),h8.below hb (Oh _)⟩
theorem el3{W:World}{F:Bs}{z t k:Nat}{y0 y1 y2:Value}(hF:F.size=33)(h2:W.cell? ⟨k,0,none⟩=some y0)(h3:W.cell? ⟨k,1,none⟩=some y1)(h4:W.cell? ⟨k,2,none⟩=some y2)(h5:El 33 W y0 F)(h6:El 32 W y1 (bx z))(h7:El 32 W y2 (bx t))(j:Nat)(hj:j<3):∃x,W.cell? ⟨k,j,none⟩=some x/\El (L3 F z t j).size W x (L3 F z t j):=by
 rw[CW hF j hj];have hj3:j=0\/j=1\/j=2:=by omega
 rcases hj3 with rfl|rfl|rfl
 ·exact⟨_,h2,h5⟩
 ·exact⟨_,h3,h6⟩
 ·exact⟨_,h4,h7⟩
theorem Kn{W:World}{B:Nat}{F:Bs}{z t:Nat}{v:Value}(hF:F.size=33)(h:W.ownsRow B 5 1 v (fM (L3 F z t) 3).length ((fM (L3 F z t) 3).map encB)):El 97 W v (F++(bx z++bx t)):=by
 have hs:(F++(bx z++bx t)).size=97:=by rw[ON,ON,hF,bM,bM]
 rw[N4]at h;have hl:(F++(bx z++bx t)).toList.length=97:=by rw[Ot];exact hs
 rw[hl]at h;exact Ii h (by decide) hs
section
variable (w:World) (kh k8 k9 k10 k11 x y kv km c z t B0:Nat) (A F:Bs)
def RO6:Nat->Value->World->Prop
 | 0,v,_=>v=.slice (some ⟨kh,0,none⟩) 2 2
 | 1,v,_=>v=.pointer (some ⟨kh,0,none⟩)
 | 2,v,_=>v=nv x
 | 3,v,_=>v=.slice (some ⟨kh,0,none⟩) 2 2
 | 4,v,_=>v=.pointer (some ⟨kh,4,none⟩)
 | 5,v,_=>v=nv y
 | 6,v,_=>v=pvl A
 | 7,v,_=>v=pvl F
 | 8,v,_=>v=nv c
 | 9,v,W=>Nw B0 [.int .u64 0,.int .u64 0,.int .u64 0,.int .u64 0] v W
 | _,_,_=>True
def GO6:RG.Gw:=⟨RO6 kh x y c B0 A F,fun W=>Kp w W [(k10,aD F),(k9,wn km),(k8,wn kv),(kh,wn x++wn y)]/\B0<=W.heap.size,fun i v W W' hb h=>by
 match i,h with
 | 0,h|1,h|2,h|3,h|4,h|5,h|6,h|7,h|8,h=>exact h
 | 9,h=>exact Nw.grow h hb
 | _+10,_=>trivial,fun W W' hb h=>⟨h.1.grow hb,OM h.2 hb.size⟩⟩
def RO7:Nat->Value->World->Prop
 | 0,v,_=>v=.slice (some ⟨k10,0,none⟩) 33 33
 | 1,v,_=>v=nv c
 | 2,v,_=>v=nv kv
 | 3,v,_=>v=.slice (some ⟨kh,0,none⟩) 2 2
 | 4,v,_=>v=.pointer (some ⟨kh,0,none⟩)
 | 5,v,_=>v=nv x
 | 6,v,_=>v=nv z
 | 7,v,W=>El 32 W v (bx z)
 | 8,v,_=>v=nv c
 | 9,v,_=>v=nv km
 | 10,v,_=>v=.slice (some ⟨kh,0,none⟩) 2 2
 | 11,v,_=>v=.pointer (some ⟨kh,4,none⟩)
 | 12,v,_=>v=nv y
 | 13,v,_=>v=nv t
 | 14,v,W=>El 32 W v (bx t)
 | 15,v,W=>Tw3 F z t v W
 | 16,v,W=>El 97 W v (F++(bx z++bx t))
 | 17,v,W=>El 97 W v (F++(bx z++bx t))
 | 18,v,_=>v=.int .i64 0
 | _,_,_=>True
def GO7:RG.Gw:=⟨RO7 kh k10 x y kv km c z t F,fun W=>Kp w W [(k11,wn c),(k10,aD F),(k9,wn km),(k8,wn kv),(kh,wn x++wn y)]/\True,fun i v W W' hb h=>by
 match i,h with
 | 0,h|1,h|2,h|3,h|4,h|5,h|6,h|8,h|9,h|10,h|11,h|12,h|13,h|18,h=>exact h
 | 7,h|14,h=>exact El.below h hb (Oh _)
 | 15,h=>exact Tw3.grow h hb
 | 16,h|17,h=>exact El.below h hb (Oh _)
 | _+19,_=>trivial,fun W W' hb h=>⟨h.1.grow hb,trivial⟩⟩
end
def Dy:ByteArray:=⟨#[110,111,110,99,101,32,118,97,108,117,101]⟩
def DC:ByteArray:=⟨#[110,111,110,99,101,32,98,108,105,110,100]⟩
theorem H9(C:Fld P)(O:Ord N)(p0 p1:Option Addr)(n0 c0 n1 c1:Nat)(sk rb:Bs)(w:World)(hA:Arg w (.slice p0 n0 c0) sk)(h0:SP.PartOk w (.slice p0 n0 c0) sk.toList)(hA1:Arg w (.slice p1 n1 c1) rb)(h1:SP.PartOk w (.slice p1 n1 c1) rb.toList)
 (x y:Nat) (hx:rq N sk=some x) (hy:rq N rb=some y) (hxN:x<N) (hyN:y<N) (kv km c z t:Nat) (hkv:chL N Dy.data.toList [sk.toList,rb.toList]=kv) (hkm:chL N DC.data.toList [sk.toList,rb.toList]=km)
 (hc:aop N (wr (cmt P x y)).toList (wr (cmt P kv km)).toList=c) (hz:sPl N kv (sTi N c x)=z) (ht:sPl N km (sTi N c y)=t) :
 Calls prog 5 #[.slice p0 n0 c0,.slice p1 n1 c1] w (Ret fun e w'=>Below w.heap.size w w'/\∃v,e=.tuple #[v,.int .i64 0]/\El 97 w' v (wr (cmt P kv km)++(bx z++bx t))):=by
 have hvN:kv<N:=by rw[<-hkv];exact m6 O _
 have hmN:km<N:=by rw[<-hkm];exact m6 O _
 have hcN:c<N:=by rw[<-hc];exact wX O _ _
 have hzN:z<N:=by rw[<-hz];unfold sPl;exact Qf _ O.pos
 have htN:t<N:=by rw[<-ht];unfold sPl;exact Qf _ O.pos
 have HO:Hid (Ord N/\c<N/\x<N/\y<N/\kv<N/\km<N/\sPl N kv (sTi N c x)=z/\sPl N km (sTi N c y)=t/\z<N/\t<N):=⟨O,hcN,hxN,hyN,hvN,hmN,hz,ht,hzN,htN⟩
 have HCF:=Hid.mk' (pG C O hvN hmN);have HCA:=Hid.mk' (pG C O hxN hyN);have HQ:=Hid.mk' (BR O (wr (cmt P x y)) (wr (cmt P kv km)) (bO _) (bO _));rw[hc]at HQ;have HF:Hid ((wr (cmt P kv km)).size=33):=bO _;have HK:Hid (chL N Dy.data.toList [sk.toList,rb.toList]=kv/\chL N DC.data.toList [sk.toList,rb.toList]=km):=⟨hkv,hkm⟩
 have HAll:Hid (∀(k:Nat) (W:World),Below w.heap.size w W->k<W.heap.size->W.rangeAt k 0 [.slice p0 n0 c0,.slice p1 n1 c1]->Calls prog 17 #[(.func (.func 18) #[] #[]),.slice (some ⟨k,0,none⟩) 2 2] W (Ret fun e w'=>∃k',RG.Made W k' (wn x++wn y) w'/\e=.tuple #[.slice (some ⟨k',0,none⟩) 2 2,.bool true])):=fun k W hb hk hr=>by
  have hargs:Args W (some ⟨k,0,none⟩) 2 (fun j=>if j=0 then sk else rb):=fun _=>⟨k,rfl,hk,fun j hj=>by
   have h2:j=0\/j=1:=by omega
   have hc':=fun(j:Nat) (v:Value) (h:[(.slice p0 n0 c0),(.slice p1 n1 c1)][j]? = some v)=>hr j v h
   simp only[Om]at hc';rcases h2 with rfl|rfl
   ·exact⟨_,hc' 0 _ rfl,hA.below hb⟩
   ·exact⟨_,hc' 1 _ rfl,hA1.below hb⟩⟩
  refine(qR O 2 2 (by decide) _ _ W hargs).mono ?_;rintro e w'' ⟨v,rfl,⟨⟨j,hj,hn⟩,-⟩|⟨-,k',D,hm,hR,rfl⟩⟩
  ·have h2:j=0\/j=1:=by omega
   rcases h2 with rfl|rfl
   ·have hn':rq N sk=none:=hn;rw[hx]at hn';cases hn'
   ·have hn':rq N rb=none:=hn;rw[hy]at hn';cases hn'
  ·have hD:=Jf hR (fun _=>rfl);simp only[if_true]at hD;rw[show(if (1:Nat)=0 then sk else rb)=rb from rfl,hx,hy]at hD;have hD':D=wn x++wn y:=hD;rw[hD']at hm;exact⟨_,rfl,k',hm,rfl⟩
 have HP:Hid (SP.PartOk w (.slice p0 n0 c0) sk.toList/\SP.PartOk w (.slice p1 n1 c1) rb.toList):=⟨h0,h1⟩
 clear hc hkv hkm hA hA1 h0 h1 hx hy hxN hyN hvN hmN hcN hz ht hzN htN;generalize wr (cmt P kv km)=F at HCF HQ HF⊢;generalize wr (cmt P x y)=A at HCA HQ;clear C O;have hParts:Hid (∀(k:Nat) (W:World),Below w.heap.size w W->W.rangeAt k 0 [.slice p0 n0 c0,.slice p1 n1 c1]->SP.PartsOk W (some ⟨k,0,none⟩) [sk.toList,rb.toList]):=fun k W hb hM=>by
  refine OC ⟨k,0,rfl,fun j hj=>?_⟩;have hj2:j=0\/j=1:=by simp at hj;omega
  rcases hj2 with rfl|rfl
  ·exact⟨_,hM 0 _ rfl,HP.out.1.below hb⟩
  ·exact⟨_,hM 1 _ rfl,HP.out.2.below hb⟩
 obtain⟨vv,hvv⟩:∃v,Hid (nv kv=v):=⟨_,rfl⟩
 obtain⟨vm,hvm⟩:∃v,Hid (nv km=v):=⟨_,rfl⟩
 obtain⟨w1,hw1⟩:∃w1,Hid (w.alloc (.cells #[.slice p0 n0 c0,.slice p1 n1 c1] 22)=w1):=⟨_,rfl⟩
 have hb1:Below w.heap.size w w1:=by rw[<-hw1.out];exact aH _ _
 have hA1:=Hid.mk' (HAll.out w.heap.size w1 hb1 (by rw[<-hw1.out,Oo];omega) (by rw[<-hw1.out];exact(RG.Made.alloc w [.slice p0 n0 c0,.slice p1 n1 c1] 22).range));have HB1:=Hid.mk' hb1;clear hb1 HAll;go_enter Tryz.func5,Tryz.ntmps5;go_wp2_with fail
 rw[hw1.out];refine hA1.out.mono ?_;rintro e w2 ⟨u,rfl,kh,hm2,rfl⟩;have K2:Hid (Kp w w2 [(kh,wn x++wn y)]):=⟨HB1.out.trans (hm2.bel.mono HB1.out.size),fun y' hy'=>by rw[show y'=(kh,wn x++wn y) by simpa using hy'];exact⟨hm2.lt,hm2.range,hm2.there⟩⟩
 clear hm2 hA1 HB1 hw1;obtain⟨w3,hw3⟩:∃w3,Hid (w2.alloc (.cells #[.slice p0 n0 c0,.slice p1 n1 c1] 22)=w3):=⟨_,rfl⟩
 have K3:Hid (Kp w w3 [(kh,wn x++wn y)]/\SP.PartsOk w3 (some ⟨w2.heap.size,0,none⟩) [sk.toList,rb.toList]):=by
  have hk:=K2.out.grow (by rw[<-hw3.out];exact aH _ _:Below w2.heap.size w2 w3);exact⟨hk,hParts.out _ _ hk.bl (by rw[<-hw3.out];exact(RG.Made.alloc w2 [.slice p0 n0 c0,.slice p1 n1 c1] 22).range)⟩
 go_wp2_with fail
 rw[hw3.out];refine(zG HO.out.1 Dy (some ⟨w2.heap.size,0,none⟩) 2 2 [sk.toList,rb.toList] w3 (by decide) rfl (by decide) K3.out.2).mono ?_;rintro e w4 ⟨u,rfl,hb4,rfl⟩;rw[HK.out.1,hvv.out];have K4:Hid (Kp w w4 [(kh,wn x++wn y)]):=K3.out.1.grow hb4;clear hb4 K3 K2 hw3;obtain⟨w5,hw5⟩:∃w5,Hid (w4.alloc (.cells #[.slice p0 n0 c0,.slice p1 n1 c1] 22)=w5):=⟨_,rfl⟩
 have K5:Hid (Kp w w5 [(kh,wn x++wn y)]/\SP.PartsOk w5 (some ⟨w4.heap.size,0,none⟩) [sk.toList,rb.toList]):=by
  have hk:=K4.out.grow (by rw[<-hw5.out];exact aH _ _:Below w4.heap.size w4 w5);exact⟨hk,hParts.out _ _ hk.bl (by rw[<-hw5.out];exact(RG.Made.alloc w4 [.slice p0 n0 c0,.slice p1 n1 c1] 22).range)⟩
 go_wp2_with fail
 rw[hw5.out];refine(zG HO.out.1 DC (some ⟨w4.heap.size,0,none⟩) 2 2 [sk.toList,rb.toList] w5 (by decide) rfl (by decide) K5.out.2).mono ?_;rintro e w6 ⟨u,rfl,hb6,rfl⟩;rw[HK.out.2,hvm.out];have K6:Hid (Kp w w6 [(kh,wn x++wn y)]):=K5.out.1.grow hb6;clear hb6 K5 K4 hw5 HK hParts HP;obtain⟨k8,hk8⟩:∃k,Hid (w6.heap.size=k):=⟨_,rfl⟩
 obtain⟨w7,hw7⟩:∃w7,Hid (w6.alloc (.cells #[.int .u64 0,.int .u64 0,.int .u64 0,.int .u64 0] 43)=w7):=⟨_,rfl⟩
 obtain⟨k9,hk9⟩:∃k,Hid (w7.heap.size=k):=⟨_,rfl⟩
 obtain⟨w8,hw8⟩:∃w8,Hid (w7.alloc (.cells #[.int .u64 0,.int .u64 0,.int .u64 0,.int .u64 0] 43)=w8):=⟨_,rfl⟩
 obtain⟨w9,hw9⟩:∃w9,Hid (w8.setCells k8 0 (wn kv)=w9):=⟨_,rfl⟩
 obtain⟨wa,hwa⟩:∃wa,Hid (w9.setCells k9 0 (wn km)=wa):=⟨_,rfl⟩
 have F8:Hid (Row w8 k8 [.int .u64 0,.int .u64 0,.int .u64 0,.int .u64 0]/\Row w8 k9 [.int .u64 0,.int .u64 0,.int .u64 0,.int .u64 0]/\Kp w w8 [(kh,wn x++wn y)]/\kh<k8/\k8<k9/\w.heap.size<=k8):=by
  have z7:w7.heap.size=w6.heap.size+1:=by rw[<-hw7.out,Oo]
  have b7:Below w6.heap.size w6 w7:=by rw[<-hw7.out];exact aH _ _
  have b8:Below w7.heap.size w7 w8:=by rw[<-hw8.out];exact aH _ _
  have r7:Row w7 w6.heap.size [.int .u64 0,.int .u64 0,.int .u64 0,.int .u64 0]:=by rw[<-hw7.out];exact aO w6 _ _
  have r8:Row w8 w7.heap.size [.int .u64 0,.int .u64 0,.int .u64 0,.int .u64 0]:=by rw[<-hw8.out];exact aO w7 _ _
  have e8:=hk8.out;have e9:=hk9.out;have l1:=(K6.out.at 0 rfl).1;have l2:=K6.out.bl.size;rw[<-hk8.out,<-hk9.out];exact⟨r7.below b8,r8,(K6.out.grow b7).grow b8,by omega,by omega,l2⟩
 have Ka:Hid (Kp w w9 [(k8,wn kv),(kh,wn x++wn y)]/\Row w9 k9 [.int .u64 0,.int .u64 0,.int .u64 0,.int .u64 0]/\Kp w wa [(k9,wn km),(k8,wn kv),(kh,wn x++wn y)]):=by
  obtain⟨f1,f2,f3,f4,f5,f6⟩:=F8.out;have h9:Kp w w9 [(k8,wn kv),(kh,wn x++wn y)]:=by
   rw[<-hw9.out];refine f3.put f1 rfl f6 fun q hq=>?_
   rw[show q=(kh,wn x++wn y) by simpa using hq];exact Pv f4
  have r9:Row w9 k9 [.int .u64 0,.int .u64 0,.int .u64 0,.int .u64 0]:=by
   rw[<-hw9.out];exact f2.other (by omega)
  refine⟨h9,r9,?_⟩;rw[<-hwa.out];refine h9.put r9 rfl (by omega) fun q hq=>?_
  simp only[Pg,OD,or_false]at hq;rcases hq with rfl|rfl
  ·exact Pv f5
  ·show kh≠k9;omega
 obtain⟨d',hd3,hd4⟩:=Option.map_eq_some_iff.1 u40;have HD:Hid (prog.underlying 43=some d'/\d'.isRow=true):=⟨hd3,hd4⟩
 clear hd3 hd4;go_wp2_with (first|(refine bJ (v:=.pointer (some ⟨k8,0,none⟩)) (w:=w6) (w':=w7) rfl (.alloc 43) rfl ?_ ?_;(rw[<-hw7.out,<-hk8.out];kernel_rfl))|(refine bJ (v:=.pointer (some ⟨k9,0,none⟩)) (w:=w7) (w':=w8) rfl (.alloc 43) rfl ?_ ?_;(rw[<-hw8.out,<-hk9.out];kernel_rfl))|(refine wpList_store_mid rfl 43 _ _ rfl k8 0 (wn kv).toArray ?_ ?_ ?_ ?_ ?_ ?_;rfl;exact hvv.out.symm;exact F8.out.1.2.2;exact i40;exact fF kv;rw[show(wn kv).toArray.toList=wn kv from rfl,hw9.out])|(refine wpList_store_mid rfl 43 _ _ rfl k9 0 (wn km).toArray ?_ ?_ ?_ ?_ ?_ ?_;rfl;exact hvm.out.symm;exact Ka.out.2.1.2.2;exact i40;exact fF km;rw[show(wn km).toArray.toList=wn km from rfl,hwa.out])|(refine wpList_load_mid rfl 43 _ rfl k8 0 ?_ (wn kv) d' ?_ ?_ ?_ ?_ ?_;rfl;exact(Ka.out.2.2.at 1 rfl).2.1;exact HD.out.1;exact HD.out.2;exact i40;rw[show O8 (wn kv).toArray=vv from hvv.out])|(refine wpList_load_mid rfl 43 _ rfl k9 0 ?_ (wn km) d' ?_ ?_ ?_ ?_ ?_;rfl;exact(Ka.out.2.2.at 0 rfl).2.1;exact HD.out.1;exact HD.out.2;exact i40;rw[show O8 (wn km).toArray=vm from hvm.out])|fail)
 rw[hvv.out,hvm.out]at HCF;refine(HCF.out wa).mono ?_;rintro e wb ⟨u,rfl,hbb,rfl⟩;have Kb:Hid (Kp w wb [(k9,wn km),(k8,wn kv),(kh,wn x++wn y)]):=Ka.out.2.2.grow hbb;clear hbb Ka F8 hw7 hw8 hw9 hwa K6 hk8 hk9;obtain⟨vF,hvF⟩:∃v,Hid (pvl F=v):=⟨_,rfl⟩
 rw[hvF.out];obtain⟨wc,hwc⟩:∃wc,Hid (wb.alloc (.cells z33.toArray 47)=wc):=⟨_,rfl⟩
 obtain⟨k10,hk10⟩:∃k,Hid (wb.heap.size=k):=⟨_,rfl⟩
 obtain⟨wd,hwd⟩:∃wd,Hid (wc.setCells k10 0 (aD F)=wd):=⟨_,rfl⟩
 have hlen:(aD F).length=33:=aM HF.out;have Fc:Hid (Row wc k10 z33/\Kp w wc [(k9,wn km),(k8,wn kv),(kh,wn x++wn y)]):=by
  rw[<-hwc.out,<-hk10.out];exact⟨aO wb _ _,Kb.out.grow (aH _ _)⟩
 have Kd:Hid (Kp w wd [(k10,aD F),(k9,wn km),(k8,wn kv),(kh,wn x++wn y)]):=by
  rw[<-hwd.out];refine Fc.out.2.put Fc.out.1 (by rw[hlen];rfl) (by rw[<-hk10.out];exact Kb.out.bl.size) fun q hq=>?_
  rw[<-hk10.out];exact Pv (Kb.out.rw q hq).1
 have HI:Hid (wc.there k10 0 (aD F).toArray.size/\(prog.info? 47).map (·.size)=some (aD F).toArray.size/\(prog.info? 47).map (·.size)=some (aD F).length):=by
  have e:(aD F).toArray.size=33:=by rw[O4];exact hlen
  rw[e,hlen];exact⟨Fc.out.1.2.2,cK,cK⟩
 clear hlen;go_wp2_with (first|(refine bJ (v:=.pointer (some ⟨k10,0,none⟩)) (w':=wc) rfl (.alloc 47) rfl ?_ ?_;(rw[<-hwc.out,<-hk10.out];kernel_rfl))|(refine wpList_store_mid rfl 47 _ _ rfl k10 0 (aD F).toArray ?_ ?_ ?_ ?_ ?_ ?_;rfl;exact hvF.out.symm;exact HI.out.1;exact HI.out.2.1;exact fD F;rw[show(aD F).toArray.toList=aD F from rfl,hwd.out])|fail)
 clear hwc hwd hk10 Fc Kb;refine(GO6 w kh k8 k9 k10 x y kv km c wd.heap.size A F).last 10 (by kernel_rfl) (by kernel_rfl) (by kernel_rfl) ⟨
  RG.aY fun a W hp=>⟨[(6,.slice (some ⟨kh,0,none⟩) 2 2)],.slice (some ⟨kh,0,none⟩) 2 2,W,⟨hp.o 6 (by kernel_rfl),trivial⟩,by kernel_rfl,Ow _ _,rfl⟩,
  RG.aY fun a W hp=>⟨[(32,.slice (some ⟨kh,0,none⟩) 2 2)],.pointer (some ⟨kh,0,none⟩),W,⟨hp.n 0 32 (by kernel_rfl) (by kernel_rfl),trivial⟩,by kernel_rfl,Ow _ _,rfl⟩,
  RG.bU 43 33 rfl u40 fun a W hp=>⟨kh,0,wn x,hp.n 1 33 (by kernel_rfl) (by kernel_rfl),dS (hp.b.1.at 3 rfl).2.1,i40,rfl⟩,
  RG.aY fun a W hp=>⟨[(6,.slice (some ⟨kh,0,none⟩) 2 2)],.slice (some ⟨kh,0,none⟩) 2 2,W,⟨hp.o 6 (by kernel_rfl),trivial⟩,by kernel_rfl,Ow _ _,rfl⟩,
  RG.aY fun a W hp=>⟨[(35,.slice (some ⟨kh,0,none⟩) 2 2)],.pointer (some ⟨kh,4,none⟩),W,⟨hp.n 3 35 (by kernel_rfl) (by kernel_rfl),trivial⟩,by kernel_rfl,Ow _ _,rfl⟩,
  RG.bU 43 36 rfl u40 fun a W hp=>⟨kh,4,wn y,hp.n 4 36 (by kernel_rfl) (by kernel_rfl),eJ (xs:=wn x) (hp.b.1.at 3 rfl).2.1,i40,rfl⟩,
  RG.b9 fun a W hp=>⟨[(34,nv x),(37,nv y)],20,#[nv x,nv y],⟨hp.n 2 34 (by kernel_rfl) (by kernel_rfl),hp.n 5 37 (by kernel_rfl) (by kernel_rfl),trivial⟩,by kernel_rfl,by
   refine(HCA.out W).mono ?_;rintro e W' ⟨u,rfl,hb,rfl⟩;exact⟨_,rfl,hb,rfl⟩⟩,
  RG.bU 47 10 rfl uCP fun a W hp=>⟨k10,0,aD F,hp.o 10 (by kernel_rfl),(hp.b.1.at 0 rfl).2.1,HI.out.2.2,rfl⟩,
  RG.b9 fun a W hp=>⟨[(38,pvl A),(39,pvl F)],21,#[pvl A,pvl F],⟨hp.n 6 38 (by kernel_rfl) (by kernel_rfl),hp.n 7 39 (by kernel_rfl) (by kernel_rfl),trivial⟩,by kernel_rfl,by
   refine(HQ.out W).mono ?_;rintro e W' ⟨u,rfl,hb,rfl⟩;exact⟨_,rfl,hb,rfl⟩⟩,
  RG.aY fun a W hp=>⟨[],.pointer (some ⟨W.heap.size,0,none⟩),W.alloc (.cells #[.int .u64 0,.int .u64 0,.int .u64 0,.int .u64 0] 43),trivial,by kernel_rfl,aH _ _,W.heap.size,rfl,hp.b.2,aO W _ _⟩,trivial⟩ ⟨Kd.out.drew,Oh _⟩ ?_
 intro V we hRe hBe;obtain⟨k11,hk11,hk11b,hk11r⟩:=show Nw wd.heap.size [.int .u64 0,.int .u64 0,.int .u64 0,.int .u64 0] (V 9) we from hRe 9 (by decide)
 have hV8:V 8=nv c:=hRe 8 (by decide);dsimp only[RG.gP,QL,VD,VE];obtain⟨vc,hvc⟩:∃v,Hid (nv c=v):=⟨_,rfl⟩
 rw[hk11,hV8,hvc.out];generalize V 0=s0;generalize V 1=s1;generalize V 2=s2;generalize V 3=s3;generalize V 4=s4;generalize V 5=s5;generalize V 6=s6;generalize V 7=s7;obtain⟨wf,hwf⟩:∃wf,Hid (we.setCells k11 0 (wn c)=wf):=⟨_,rfl⟩
 have HBe:Hid (Kp w we [(k10,aD F),(k9,wn km),(k8,wn kv),(kh,wn x++wn y)]/\wd.heap.size<=we.heap.size):=hBe;have Kf:Hid (Kp w wf [(k11,wn c),(k10,aD F),(k9,wn km),(k8,wn kv),(kh,wn x++wn y)]):=by
  rw[<-hwf.out];refine HBe.out.1.put hk11r rfl (OM Kd.out.bl.size hk11b) fun q hq=>?_
  have h8:=(Kd.out.rw q hq).1;omega
 have HJ:Hid (we.there k11 0 [Pi .u64 0,.int .u64 0,.int .u64 0,.int .u64 0].length):=hk11r.2.2;clear hRe hBe hk11 hk11b hk11r hV8 HBe Kd V HCF HCA HQ;simp only[Pk,OL,Pd,Pf];go_wp2_with (first|(refine wpList_store_mid rfl 43 _ _ rfl k11 0 (wn c).toArray ?_ ?_ ?_ ?_ ?_ ?_;rfl;exact hvc.out.symm;exact HJ.out;exact i40;exact fF c;rw[show(wn c).toArray.toList=wn c from rfl,hwf.out])|fail)
 clear hwf HJ;refine(GO7 w kh k8 k9 k10 k11 x y kv km c z t F).draws (by kernel_rfl) (by kernel_rfl) ⟨
  RG.aY fun a W hp=>⟨[(10,.pointer (some ⟨k10,0,none⟩))],.slice (some ⟨k10,0,none⟩) 33 33,W,⟨hp.o 10 (by kernel_rfl),trivial⟩,by kernel_rfl,Ow _ _,rfl⟩,
  RG.bU 43 11 rfl u40 fun a W hp=>⟨k11,0,wn c,hp.o 11 (by kernel_rfl),(hp.b.1.at 0 rfl).2.1,i40,rfl⟩,
  RG.bU 43 8 rfl u40 fun a W hp=>⟨k8,0,wn kv,hp.o 8 (by kernel_rfl),(hp.b.1.at 3 rfl).2.1,i40,rfl⟩,
  RG.aY fun a W hp=>⟨[(6,.slice (some ⟨kh,0,none⟩) 2 2)],.slice (some ⟨kh,0,none⟩) 2 2,W,⟨hp.o 6 (by kernel_rfl),trivial⟩,by kernel_rfl,Ow _ _,rfl⟩,
  RG.aY fun a W hp=>⟨[(44,.slice (some ⟨kh,0,none⟩) 2 2)],.pointer (some ⟨kh,0,none⟩),W,⟨hp.n 3 44 (by kernel_rfl) (by kernel_rfl),trivial⟩,by kernel_rfl,Ow _ _,rfl⟩,
  RG.bU 43 45 rfl u40 fun a W hp=>⟨kh,0,wn x,hp.n 4 45 (by kernel_rfl) (by kernel_rfl),dS (hp.b.1.at 4 rfl).2.1,i40,rfl⟩,
  RG.b9 fun a W hp=>⟨[(42,nv c),(43,nv kv),(46,nv x)],23,#[nv c,nv kv,nv x],⟨hp.n 1 42 (by kernel_rfl) (by kernel_rfl),hp.n 2 43 (by kernel_rfl) (by kernel_rfl),hp.n 5 46 (by kernel_rfl) (by kernel_rfl),trivial⟩,by kernel_rfl,by
   refine(zR HO.out.1 HO.out.2.1 HO.out.2.2.2.2.1 HO.out.2.2.1 W).mono ?_;rintro e W' ⟨u,rfl,hb,rfl⟩;exact⟨_,rfl,hb,by rw[HO.out.2.2.2.2.2.2.1];rfl⟩⟩,
  RG.b9 fun a W hp=>⟨[(47,nv z)],24,#[nv z],⟨hp.n 6 47 (by kernel_rfl) (by kernel_rfl),trivial⟩,by kernel_rfl,by
   refine(jZ HO.out.1 (HO.out.2.2.2.2.2.2.2.2.1) W).mono ?_;rintro e W' ⟨u,rfl,k',hm,rfl⟩;exact⟨_,rfl,hm.bel,El.of_made hm (bM z)⟩⟩,
  RG.bU 43 11 rfl u40 fun a W hp=>⟨k11,0,wn c,hp.o 11 (by kernel_rfl),(hp.b.1.at 0 rfl).2.1,i40,rfl⟩,
  RG.bU 43 9 rfl u40 fun a W hp=>⟨k9,0,wn km,hp.o 9 (by kernel_rfl),(hp.b.1.at 2 rfl).2.1,i40,rfl⟩,
  RG.aY fun a W hp=>⟨[(6,.slice (some ⟨kh,0,none⟩) 2 2)],.slice (some ⟨kh,0,none⟩) 2 2,W,⟨hp.o 6 (by kernel_rfl),trivial⟩,by kernel_rfl,Ow _ _,rfl⟩,
  RG.aY fun a W hp=>⟨[(51,.slice (some ⟨kh,0,none⟩) 2 2)],.pointer (some ⟨kh,4,none⟩),W,⟨hp.n 10 51 (by kernel_rfl) (by kernel_rfl),trivial⟩,by kernel_rfl,Ow _ _,rfl⟩,
  RG.bU 43 52 rfl u40 fun a W hp=>⟨kh,4,wn y,hp.n 11 52 (by kernel_rfl) (by kernel_rfl),eJ (xs:=wn x) (hp.b.1.at 4 rfl).2.1,i40,rfl⟩,
  RG.b9 fun a W hp=>⟨[(49,nv c),(50,nv km),(53,nv y)],23,#[nv c,nv km,nv y],⟨hp.n 8 49 (by kernel_rfl) (by kernel_rfl),hp.n 9 50 (by kernel_rfl) (by kernel_rfl),hp.n 12 53 (by kernel_rfl) (by kernel_rfl),trivial⟩,by kernel_rfl,by
   refine(zR HO.out.1 HO.out.2.1 HO.out.2.2.2.2.2.1 HO.out.2.2.2.1 W).mono ?_;rintro e W' ⟨u,rfl,hb,rfl⟩;exact⟨_,rfl,hb,by rw[HO.out.2.2.2.2.2.2.2.1];rfl⟩⟩,
  RG.b9 fun a W hp=>⟨[(54,nv t)],24,#[nv t],⟨hp.n 13 54 (by kernel_rfl) (by kernel_rfl),trivial⟩,by kernel_rfl,by
   refine(jZ HO.out.1 (HO.out.2.2.2.2.2.2.2.2.2) W).mono ?_;rintro e W' ⟨u,rfl,k',hm,rfl⟩;exact⟨_,rfl,hm.bel,El.of_made hm (bM t)⟩⟩,
  RG.aY fun a W hp=>⟨[(41,.slice (some ⟨k10,0,none⟩) 33 33),(48,a.eval (.tmp 48)),(55,a.eval (.tmp 55))],.slice (some ⟨W.heap.size,0,none⟩) 3 3,W.alloc (.cells #[.slice (some ⟨k10,0,none⟩) 33 33,a.eval (.tmp 48),a.eval (.tmp 55)] 22),⟨hp.n 0 41 (by kernel_rfl) (by kernel_rfl),rfl,rfl,trivial⟩,by
   obtain⟨k',c',he,-⟩:=show El 32 W (a.eval (.tmp 48)) (bx z) from hp.n 7 48 (by kernel_rfl) (by kernel_rfl)
   obtain⟨k2,c2,he2,-⟩:=show El 32 W (a.eval (.tmp 55)) (bx t) from hp.n 14 55 (by kernel_rfl) (by kernel_rfl)
   rw[he,he2];kernel_rfl,aH _ _,by
   have hE:=show El 32 W (a.eval (.tmp 48)) (bx z) from hp.n 7 48 (by kernel_rfl) (by kernel_rfl)
   have hE2:=show El 32 W (a.eval (.tmp 55)) (bx t) from hp.n 14 55 (by kernel_rfl) (by kernel_rfl)
   have hR:=(hp.b.1.at (k:=k10) (c:=aD F) 1 rfl).below (aH W (.cells #[.slice (some ⟨k10,0,none⟩) 33 33,a.eval (.tmp 48),a.eval (.tmp 55)] 22));exact⟨W.heap.size,.slice (some ⟨k10,0,none⟩) 33 33,a.eval (.tmp 48),a.eval (.tmp 55),rfl,by rw[Oo];omega,by rw[OK];rfl,by rw[OK];rfl,by rw[OK];rfl,⟨k10,33,rfl,Oh _,HF.out,hR.1,row_holds hR⟩,hE.below (aH _ _) (Oh _),hE2.below (aH _ _) (Oh _)⟩⟩,
  RG.b9 fun a W hp=>⟨[(56,a.eval (.tmp 56))],22,#[a.eval (.tmp 56)],⟨rfl,trivial⟩,by kernel_rfl,by
   obtain⟨k',y0,y1,y2,he,h1,h2,h3,h4,h5,h6,h7⟩:=show Tw3 F z t (a.eval (.tmp 56)) W from hp.n 15 56 (by kernel_rfl) (by kernel_rfl)
   rw[he];refine(FN k' 3 3 (L3 F z t) (by decide) (fun j hj=>by rw[CW HF.out j hj];split<;>decide) W h1 (fun j hj=>el3 HF.out h2 h3 h4 h5 h6 h7 j hj)).mono ?_;rintro e W' ⟨u,rfl,hb,ho⟩;exact⟨_,rfl,hb,Kn HF.out ho⟩⟩,
  RG.aY fun a W hp=>⟨[(57,a.eval (.tmp 57))],a.eval (.tmp 57),W,⟨rfl,trivial⟩,by kernel_rfl,Ow _ _,hp.n 16 57 (by kernel_rfl) (by kernel_rfl)⟩,
  RG.aY fun a W hp=>⟨[],.int .i64 0,W,trivial,by kernel_rfl,Ow _ _,rfl⟩,trivial⟩ ⟨Kf.out.drew,trivial⟩ ?_
 intro V wg hRg hBg;have hV18:V 18=.int .i64 0:=hRg 18 (Qx (PH (by kernel_rfl)));have HA:Hid (El 97 wg (V 17) (F++(bx z++bx t))):=hRg 17 (Qx (PH (by kernel_rfl)));have HBg:Hid (Below w.heap.size w wg):=hBg.1.bl;dsimp only[RG.gP,QL];simp only[Pk,OL,Pd,Pf];rw[hV18];generalize V 17=s17 at HA⊢;clear hRg hBg Kf;go_wp2
 go_ret2
 exact⟨_,rfl,HBg.out,s17,rfl,HA.out⟩
end
section
open Go.RowKit Go.Sort Go.Deep
variable {P:Nat}[NeZero P]{N:Nat}
theorem B7(O:Ord N)(a b:ByteArray)(ha:a.size<=16384)(hb:b.size<=16384):Gives 30 #[.string a,.string b] (nv (aop N a.data.toList b.data.toList)):=by
 intro w;obtain⟨L0,h0⟩:∃L,Hid (SP.newL [111,112,101,110]=L):=⟨_,rfl⟩
 obtain⟨L1,h1⟩:∃L,Hid (SP.mV L0 [99,111,109,109,105,116] a.data.toList=L):=⟨_,rfl⟩
 obtain⟨L2,h2⟩:∃L,Hid (SP.mV L1 [102,105,114,115,116] b.data.toList=L):=⟨_,rfl⟩
 have s0:L0.size=32:=by rw[<-h0.out];exact SP.o9 _
 have s1:L1.size=32:=by rw[<-h1.out];exact SP.lB _ _ _
 have s2:L2.size=32:=by rw[<-h2.out];exact SP.lB _ _ _
 have hr:aop N a.data.toList b.data.toList=cha N L2:=by unfold aop Kz;rw[h0.out,h1.out,h2.out]
 rw[hr];clear hr;obtain⟨w1,hw1⟩:∃w1,Hid (w.alloc (.cells #[.int .u64 0,.int .u64 0,.int .u64 0,.int .u64 0] 52)=w1):=⟨_,rfl⟩
 have K1:Hid (Row w1 w.heap.size [.int .u64 0,.int .u64 0,.int .u64 0,.int .u64 0]/\Below w.heap.size w w1/\w.heap.size<w1.heap.size):=by rw[<-hw1.out];exact⟨aO w _ _,aH w _,by rw[Oo];omega⟩
 go_enter Tryz.func30,Tryz.ntmps30;go_wp2_with fail
 rw[hw1.out];clear hw1;refine(SP.As ⟨#[111,112,101,110]⟩ w1 (by decide)).mono ?_;rintro e w2 ⟨y,rfl,hy,hb2,hL2⟩;rw[show SP.newL (⟨#[111,112,101,110]⟩:ByteArray).data.toList=L0 from h0.out]at hL2;have hyw:w.heap.size<y:=by have:=K1.out.2.2;omega
 have K2:Hid (Row w2 w.heap.size [.int .u64 0,.int .u64 0,.int .u64 0,.int .u64 0]/\Below w.heap.size w w2/\SP.RLog w2 y L0):=⟨K1.out.1.below hb2,K1.out.2.1.trans (hb2.mono K1.out.2.1.size),hL2⟩
 clear hb2 hL2 K1 hy;go_wp2_with fail
 refine(SP.rI y L0 ⟨#[99,111,109,109,105,116]⟩ a w2 (by decide) ha s0 K2.out.2.2).mono ?_;rintro e w3 ⟨rfl,hO,hL⟩;rw[show SP.mV L0 (⟨#[99,111,109,109,105,116]⟩:ByteArray).data.toList a.data.toList=L1 from h1.out]at hL;have K3:Hid (Row w3 w.heap.size [.int .u64 0,.int .u64 0,.int .u64 0,.int .u64 0]/\Below w.heap.size w w3/\SP.RLog w3 y L1):=⟨K2.out.1.only hO (by omega),K2.out.2.1.trans (hO.below K2.out.2.1.size (by omega)),hL⟩
 clear hO hL K2;go_wp2_with fail
 refine(SP.rI y L1 ⟨#[102,105,114,115,116]⟩ b w3 (by decide) hb s1 K3.out.2.2).mono ?_;rintro e w4 ⟨rfl,hO,hL⟩;rw[show SP.mV L1 (⟨#[102,105,114,115,116]⟩:ByteArray).data.toList b.data.toList=L2 from h2.out]at hL;have K4:Hid (Row w4 w.heap.size [.int .u64 0,.int .u64 0,.int .u64 0,.int .u64 0]/\Below w.heap.size w w4/\SP.RLog w4 y L2):=⟨K3.out.1.only hO (by omega),K3.out.2.1.trans (hO.below K3.out.2.1.size (by omega)),hL⟩
 clear hO hL K3;go_wp2_with fail
 refine(vX O y L2 w4 s2 K4.out.2.2).mono ?_;rintro e w8 ⟨v,rfl,hO,rfl⟩;have K8:Hid (Row w8 w.heap.size [.int .u64 0,.int .u64 0,.int .u64 0,.int .u64 0]/\Below w.heap.size w w8):=⟨K4.out.1.only hO (by omega),K4.out.2.1.trans (hO.below K4.out.2.1.size (by omega))⟩
 clear hO K4;obtain⟨m,hm⟩:∃m,Hid (cha N L2=m):=⟨_,rfl⟩
 rw[hm.out];obtain⟨w9,hw9⟩:∃w9,Hid (w8.setCells w.heap.size 0 (wn m)=w9):=⟨_,rfl⟩
 have K9:Hid (Row w9 w.heap.size (wn m)/\Below w.heap.size w w9):=by rw[<-hw9.out];exact⟨K8.out.1.put rfl,RG.below_setCells (Oh _) _ _ _ K8.out.2⟩
 obtain⟨vm,hvm⟩:∃vm,Hid (nv m=vm):=⟨_,rfl⟩
 rw[hvm.out];go_wp2_with (refine wpList_store_mid rfl 52 _ _ rfl w.heap.size 0 (wn m).toArray ?_ ?_ ?_ ?_ ?_ ?_;rfl;exact hvm.out.symm;exact K8.out.1.2.2;exact i33;exact fF m;rw[show(wn m).toArray.toList=wn m from rfl,hw9.out])
 refine bodyPost_ret (bF 4 52 rfl K9.out.1 rfl u33 i33) rfl ?_;exact⟨_,rfl,K9.out.2,by rw[hm.out];rfl⟩
end
namespace RG
open Go Go.RowKit
variable {P:Program}{ops:Array Oper}{Q:Exit->Act->World->Prop}{w0:World}{k0:Nat}{X:List Nat}{its:List It}{bl:List Bl}{olds:List (Tmp × SV)}{i:Nat}{o:Oper}{it:It}
theorem mJ(hk:it.kind=.stay)(op:BinOp)(T T':TypeId)(t2:Tmp)(v1 v2 v:Value)(ho:o.op=.binOp op T (.const v1) (.tmp t2) T')(hout:it.out=.v v)
 (h2:∀(μ:Nat->Nat) (a:Act),Known ops i its olds it.need μ a->a.eval (.tmp t2)=v2)
 (hg:∀w,(eqGuard op T (.const v1) (.tmp t2) v1 v2).run P w=.ok () w) (hb:∀w,(binOp op T v1 v2).run P w=.ok v w):Cert P Q w0 k0 X ops i its bl olds o it:=by
 refine bS hk fun μ a w hK _=>?_
 unfold execOp;rw[ho,hout];dsimp only;rw[h2 μ a hK];show(((eqGuard op T (.const v1) (.tmp t2) v1 v2) >>= fun _=>binOp op T v1 v2) >>= fun v=>pure (Rf v)).run P w=_;rw[OG,OG,hg];dsimp only[Result.andThen];rw[hb];rfl
end RG
section
open Go.RowKit Go.Sort Go.Deep
variable {P:Nat}[NeZero P]
theorem Lh(lab:ByteArray)(h:lab.size<=1000000)(w:World):(binOp .add 9 (.string ⟨#[112,111,105,110,116,32]⟩) (.string lab)).run prog w=.ok (.string (⟨#[112,111,105,110,116,32]⟩++lab)) w:=by
 have h2:(⟨#[112,111,105,110,116,32]⟩:ByteArray).size=6:=rfl;have h3:6+lab.size<=9223372036854775807:=by omega
 go_simp
theorem FM{i:Nat}{u:UInt8}(h:(i:Int)=ub u)(hi:i<256)(w:World):(convert 3 5 (.int .i64 i)).run prog w=.ok (.int .u8 (ub u)) w:=by
 have h1:TK.wrap (ub u)=ub u:=by
  have h2:=u.toNat_lt;unfold ub;simp[VF,VH,VG];omega
 rw[h];go_simp
def I8(i:Nat)(c:Bool):List RG.It:=[.x 9 [] (.int .i64 i),.x 10 [(9,0)] (.bool c)]
def Ly(lab s:ByteArray)(i:Nat)(u:UInt8)(T:Bs)(n:Nat)(ok:Bool):List RG.It:=[.c 14 [] rv0,.x 15 [] (.string lab),.x 16 [(15,1)] (.string ((⟨#[112,111,105,110,116,32]⟩:ByteArray)++lab)),.x 17 [] (.string s),.x 18 [] (.int .i64 i),.x 19 [(18,4)] (.int .u8 (ub u)),⟨some 20,[(19,5)],(.s 1 1 1),.make 1⟩,.x 21 [(20,6)] (.string ⟨#[u]⟩),⟨some 22,[(17,3),(21,7)],(.s 2 2 2),.make 2⟩,.c 23 [(16,2),(22,8)] (.string ⟨T⟩),.c 24 [(14,0),(23,9)] (.tuple #[nv n,.bool ok]),.x 13 [(24,10)] (.tuple #[nv n,.bool ok]),.x 25 [(13,11)] (nv n),.x 26 [(13,11)] (.bool ok),.m 6 [] 3,.u [(6,14),(25,12)] 3,.x 7 [(26,13)] (.bool ok)]
def Lx(ok:Bool):List RG.It:=[.x 27 [] (.bool ok),.x 28 [(27,0)] (.bool (!ok))]
def Nc(n:Nat)(x y:Fin P)(ok:Bool):List RG.It:=[.x 30 [] (nv n),.c 31 [(30,0)] (.tuple #[rv x y 1,.bool ok]),.x 29 [(31,1)] (.tuple #[rv x y 1,.bool ok]),.x 32 [(29,2)] (rv x y 1),.x 33 [(29,2)] (.bool ok),.m 8 [] 4,.u [(8,5),(32,3)] 4,.x 7 [(33,4)] (.bool ok)]
def Nb(ok:Bool):List RG.It:=[.x 34 [] (.bool ok)]
def Nf(i:Nat):List RG.It:=[.x 11 [] (.int .i64 i),.x 12 [(11,0)] (.int .i64 ((i+1:Nat):Int)),.x 5 [(12,1)] (.int .i64 ((i+1:Nat):Int))]
def Oc(x y:Fin P):List RG.It:=[.c 36 [] (rv x y 1),.u [(36,0)] 0]
theorem tC{lab:ByteArray}{b:List UInt8}{i:Nat}(h:cands P lab b i=[])(hc:cand P lab b i=none):cands P lab b (i+1)=[]:=by rw[dP,h,hc];rfl
theorem KG{lab:ByteArray}{b:List UInt8}{i:Nat}{q:Fin P × Fin P}(hi:i<256)(h:cands P lab b i=[])(hc:cand P lab b i=some q):hpt P lab b=q:=by
 have h1:cands P lab b (i+1)=[q]:=by rw[dP,h,hc];rfl
 obtain⟨r,hr⟩:=uW (P:=P) lab b (i:=i+1) (j:=256) (by omega);unfold hpt;rw[<-hr,h1];rfl
theorem IB{lab:ByteArray}{b:List UInt8}(h:cands P lab b 256=[]):hpt P lab b=(gX P,gY P):=by
 unfold hpt;rw[h];rfl
theorem IF(l x:List UInt8)(y:List UInt8):(SP.bP l [x,y]).length=l.length+x.length+y.length+12:=by
 unfold SP.bP;simp[SP.eS];omega
theorem rO(lab s:ByteArray)(u:UInt8)(hl:lab.size<=4096)(hs:s.size<=4096)(k:Nat)(w:World)(h:w.rangeAt k 0 [.string s,.string ⟨#[u]⟩]/\k<w.heap.size):
 Calls prog 77 #[.string ((⟨#[112,111,105,110,116,32]⟩:ByteArray)++lab),.slice (some ⟨k,0,none⟩) 2 2] w (Ret fun e w'=>Below w.heap.size w w'/\e=.string ⟨SP.eW ((⟨#[112,111,105,110,116,32]⟩:ByteArray)++lab).data.toList [s.data.toList,[u]]⟩):=by
 have hp:((⟨#[112,111,105,110,116,32]⟩:ByteArray)++lab).size=6+lab.size:=Vz;refine(SP.mF ((⟨#[112,111,105,110,116,32]⟩:ByteArray)++lab) (some ⟨k,0,none⟩) 2 [s,⟨#[u]⟩] w (by omega) (PH rfl) (OC ⟨k,0,rfl,fun j hj=>?_⟩) (fun j hj=>?_) ?_).mono ?_
 ·have hj2:j=0\/j=1:=by simp at hj;omega
  rcases hj2 with rfl|rfl
  ·exact h.1 0 _ rfl
  ·exact h.1 1 _ rfl
 ·have hj2:j=0\/j=1:=by simp at hj;omega
  rcases hj2 with rfl|rfl
  ·show s.size<=_;omega
  ·show 1<=1048576;decide
 ·show(SP.bP ((⟨#[112,111,105,110,116,32]⟩:ByteArray)++lab).data.toList [s.data.toList,[u]]).length<=_;rw[IF];have e1:((⟨#[112,111,105,110,116,32]⟩:ByteArray)++lab).data.toList.length=6+lab.size:=by rw[Ot];exact hp
  have e2:s.data.toList.length=s.size:=Ot;rw[e1,e2];show 6+lab.size+s.size+1+12<=_;omega
 ·rintro e w' ⟨rfl,hb⟩;exact⟨_,rfl,hb,rfl⟩
theorem HU(C:Fl3 P)(lab s:ByteArray)(hl:lab.size<=4096)(hs0:s.size<=4096):Gives 133 #[.string lab,.string s] (rv (hpt P lab s.data.toList).1 (hpt P lab s.data.toList).2 1):=by
 intro w;go_enter Tryz.func133,Tryz.ntmps133;refine RG.M.enter [(0,.v (.string lab)),(1,.v (.string s))] 37 (by kernel_rfl) ?_;intro a0 M0;repeat refine wp_seq ?_
 refine M0.t [.m 4 [] 0] [(0,(RG.z 12))] [] [(RG.z 12)] [(0,.v (.string lab)),(1,.v (.string s)),(4,.p 0 0)] ⟨RG.mk 0 60,trivial⟩ ?_;intro k4 a1 w1 M1;repeat refine wp_seq ?_
 refine M1.u [.x 5 [] (.int .i64 0)] [(0,.v (.string lab)),(1,.v (.string s)),(4,.p 0 0),(5,.v (.int .i64 0))] ⟨RG.st,trivial⟩ ?_;intro a2 w2 M2;repeat refine wp_seq ?_
 refine wp_block ?_;refine wp_loop_ghost (fun m a wr=>∃i:Nat,i+m=256/\Hid (cands P lab s.data.toList i=[])/\RG.M w w.heap.size [] 37 [(RG.z 12)] [k4] [(0,.v (.string lab)),(1,.v (.string s)),(4,.p 0 0),(5,.v (.int .i64 i))] a wr) 256 ⟨0,rfl,rfl,M2⟩ ?_;intro m' a wr;rintro⟨i,him,hnone,M20⟩;by_cases hi:i<256
 ·obtain⟨u,hu⟩:∃u:UInt8,(i:Int)=ub u:=⟨Oq i,by
   show _=(((Oq i).toNat:Nat):Int);rw[RD,Oy (by omega)]⟩
  have hu2:Oq i=u:=by
   apply UInt8.toNat_inj.1;rw[RD,Oy (by omega)];have h:(i:Int)=((u.toNat:Nat):Int):=hu;omega
  obtain⟨T,hT⟩:∃T,Hid (SP.eW ((⟨#[112,111,105,110,116,32]⟩:ByteArray)++lab).data.toList [s.data.toList,[u]]=T):=⟨_,rfl⟩
  have hTs:T.size=32:=by rw[<-hT.out];exact SP.cY _ _
  have hcand:cand P lab s.data.toList i=if beV T.toList<P then(rt (PL P (beV T.toList)*PL P (beV T.toList)*PL P (beV T.toList)+7)).map fun y=>(PL P (beV T.toList),y) else none:=by
   unfold cand;rw[hu2,hT.out]
  have rO:∀(lab' s':ByteArray) (u':UInt8),lab'.size<=4096->s'.size<=4096->∀(k:Nat) (w:World),w.rangeAt k 0 [.string s,.string ⟨#[u]⟩]/\k<w.heap.size->Calls prog 77 #[.string ((⟨#[112,111,105,110,116,32]⟩:ByteArray)++lab),.slice (some ⟨k,0,none⟩) 2 2] w (Ret fun e w'=>Below w.heap.size w w'/\e=.string ⟨T⟩):=fun _ _ _ _ _ k w h=>by
   rw[<-hT.out];exact Go.Proofs.YtmfodnkinmnopaaGreat.rO lab s u hl hs0 k w h
  by_cases hx:beV T.toList<P
  ·obtain⟨x,hxv⟩:∃x:Fin P,Hid (beV T.toList=x.val):=⟨PL P (beV T.toList),(Oy hx).symm⟩
   have hfx:PL P (beV T.toList)=x:=RS (by show beV T.toList%P=_;rw[Oy hx];exact hxv.out);rw[if_pos hx,hfx]at hcand;have hnum:=uG C T hTs hxv.out;obtain⟨n,hn⟩:∃n,n=x.val:=⟨_,rfl⟩
   cases hr:rt (x*x*x+7) with
   | none =>
    rw[hr]at hcand;have hat:=BX C x hr;rw[show fv x=nv n by rw[hn]]at hat hnum;repeat refine wp_seq ?_
    refine M20.u (I8 i true) [(0,.v (.string lab)),(1,.v (.string s)),(4,.p 0 0),(5,.v (.int .i64 i)),(10,.v (.bool true))] ⟨RG.st,RG.aI rfl .lss 3 3 9 (.int .i64 i) (.int .i64 256) (.bool true) rfl rfl RG.sx (fun w=>by kernel_rfl) (dJ (n:=256) hi),trivial⟩ ?_;intro a21 w21 M21;repeat refine wp_seq ?_
    refine wp_cond_true M21.ev ?_;refine wp_skip ?_;refine wp_seq ?_;refine wp_block ?_;repeat refine wp_seq ?_
    refine M21.d (Ly lab s i u T n true) [(6,[.int .u8 (ub u)]),(8,[.string s,.string ⟨#[u]⟩]),(14,RG.z 4)] [(3,15,wn n)] [(RG.z 12),[.int .u8 (ub u)],[.string s,.string ⟨#[u]⟩],wn n] [(0,.v (.string lab)),(1,.v (.string s)),(4,.p 0 0),(5,.v (.int .i64 i)),(6,.p 3 0),(7,.v (.bool true))] ⟨RG.cl bD,RG.st,RG.mJ rfl .add 9 9 15 (.string ⟨#[112,111,105,110,116,32]⟩) (.string lab) (.string ((⟨#[112,111,105,110,116,32]⟩:ByteArray)++lab)) rfl rfl RG.sx (fun w=>by kernel_rfl) (Lh lab (by omega)),RG.st,RG.st,RG.fV rfl 3 5 18 (.int .i64 i) (.int .u8 (ub u)) rfl rfl RG.sx (FM hu hi),RG.kS 1 rfl _ rfl 22 5 19 (.int .u8 (ub u)) rfl rfl RG.sx (bs1 (ub u)),RG.kR rfl 1 6 _ rfl _ rfl rfl (by kernel_rfl) (by kernel_rfl) 22 9 20 1 (.string ⟨#[u]⟩) rfl rfl RG.sx (fun w k h=>str1 u w k h),RG.mk 2 9,RG.cr [2] (fun μ w' _ hs=>rO lab s u hl hs0 (μ 2) w' (hs 2 (RA _) _ rfl (Rk _ _))) fun _ _=>by kernel_rfl,RG.cl hnum,RG.st,RG.st,RG.st,RG.mk 3 52,RG.pt i33,RG.st,trivial⟩ ?_;intro b1 b2 b3 a22 w22 M22;repeat refine wp_seq ?_
    refine M22.u (Lx true) [(0,.v (.string lab)),(1,.v (.string s)),(4,.p 0 0),(5,.v (.int .i64 i)),(6,.p 3 0),(28,.v (.bool (!true)))] ⟨RG.st,RG.st,trivial⟩ ?_;intro a23 w23 M23;repeat refine wp_seq ?_
    refine wp_cond_false M23.ev ?_;refine wp_skip ?_;repeat refine wp_seq ?_
    refine M23.t (Nc n x (0:Fin P) false) [(5,RG.z 12)] [(4,6,ws x++(ws (0:Fin P)++ws (1:Fin P)))] [(RG.z 12),[.int .u8 (ub u)],[.string s,.string ⟨#[u]⟩],wn n,ws x++(ws (0:Fin P)++ws (1:Fin P))] [(0,.v (.string lab)),(1,.v (.string s)),(4,.p 0 0),(5,.v (.int .i64 i)),(7,.v (.bool false)),(8,.p 4 0)] ⟨RG.ld u33 i33,RG.cl hat,RG.st,RG.st,RG.st,RG.mk 4 60,RG.pt i56,RG.st,trivial⟩ ?_;intro b4 a24 w24 M24;repeat refine wp_seq ?_
    refine M24.u (Nb false) [(0,.v (.string lab)),(1,.v (.string s)),(4,.p 0 0),(5,.v (.int .i64 i)),(8,.p 4 0),(34,.v (.bool false))] ⟨RG.st,trivial⟩ ?_;intro a25 w25 M25;repeat refine wp_seq ?_
    refine wp_cond_false M25.ev ?_;refine wp_skip ?_;repeat refine wp_seq ?_
    refine M25.u (Nf i) [(0,.v (.string lab)),(1,.v (.string s)),(4,.p 0 0),(5,.v (.int .i64 ((i+1:Nat):Int)))] ⟨RG.st,RG.aI rfl .add 3 3 11 (.int .i64 i) (.int .i64 1) (.int .i64 ((i+1:Nat):Int)) rfl rfl RG.sx (fun w=>by kernel_rfl) (nY i 1 (by omega) (by omega)),RG.st,trivial⟩ ?_;intro a26 w26 M26;show ∃n',_;exact⟨m'-1,by omega,i+1,by omega,tC hnone.out hcand,RG.M.drop (cs:=[RG.z 12]) (cs2:=[_,_,_,_]) (ks:=[k4]) (ks2:=[_,_,_,_]) M26 rfl rfl⟩
   | some y =>
    rw[hr]at hcand;have hat:=vW C x y hr;rw[show fv x=nv n by rw[hn]]at hat hnum;have hq:hpt P lab s.data.toList=(x,y):=KG hi hnone.out hcand;rw[hq];repeat refine wp_seq ?_
    refine M20.u (I8 i true) [(0,.v (.string lab)),(1,.v (.string s)),(4,.p 0 0),(5,.v (.int .i64 i)),(10,.v (.bool true))] ⟨RG.st,RG.aI rfl .lss 3 3 9 (.int .i64 i) (.int .i64 256) (.bool true) rfl rfl RG.sx (fun w=>by kernel_rfl) (dJ (n:=256) hi),trivial⟩ ?_;intro a21 w21 M21;repeat refine wp_seq ?_
    refine wp_cond_true M21.ev ?_;refine wp_skip ?_;refine wp_seq ?_;refine wp_block ?_;repeat refine wp_seq ?_
    refine M21.d (Ly lab s i u T n true) [(6,[.int .u8 (ub u)]),(8,[.string s,.string ⟨#[u]⟩]),(14,RG.z 4)] [(3,15,wn n)] [(RG.z 12),[.int .u8 (ub u)],[.string s,.string ⟨#[u]⟩],wn n] [(0,.v (.string lab)),(1,.v (.string s)),(4,.p 0 0),(5,.v (.int .i64 i)),(6,.p 3 0),(7,.v (.bool true))] ⟨RG.cl bD,RG.st,RG.mJ rfl .add 9 9 15 (.string ⟨#[112,111,105,110,116,32]⟩) (.string lab) (.string ((⟨#[112,111,105,110,116,32]⟩:ByteArray)++lab)) rfl rfl RG.sx (fun w=>by kernel_rfl) (Lh lab (by omega)),RG.st,RG.st,RG.fV rfl 3 5 18 (.int .i64 i) (.int .u8 (ub u)) rfl rfl RG.sx (FM hu hi),RG.kS 1 rfl _ rfl 22 5 19 (.int .u8 (ub u)) rfl rfl RG.sx (bs1 (ub u)),RG.kR rfl 1 6 _ rfl _ rfl rfl (by kernel_rfl) (by kernel_rfl) 22 9 20 1 (.string ⟨#[u]⟩) rfl rfl RG.sx (fun w k h=>str1 u w k h),RG.mk 2 9,RG.cr [2] (fun μ w' _ hs=>rO lab s u hl hs0 (μ 2) w' (hs 2 (RA _) _ rfl (Rk _ _))) fun _ _=>by kernel_rfl,RG.cl hnum,RG.st,RG.st,RG.st,RG.mk 3 52,RG.pt i33,RG.st,trivial⟩ ?_;intro b1 b2 b3 a22 w22 M22;repeat refine wp_seq ?_
    refine M22.u (Lx true) [(0,.v (.string lab)),(1,.v (.string s)),(4,.p 0 0),(5,.v (.int .i64 i)),(6,.p 3 0),(28,.v (.bool (!true)))] ⟨RG.st,RG.st,trivial⟩ ?_;intro a23 w23 M23;repeat refine wp_seq ?_
    refine wp_cond_false M23.ev ?_;refine wp_skip ?_;repeat refine wp_seq ?_
    refine M23.t (Nc n x y true) [(5,RG.z 12)] [(4,6,ws x++(ws y++ws (1:Fin P)))] [(RG.z 12),[.int .u8 (ub u)],[.string s,.string ⟨#[u]⟩],wn n,ws x++(ws y++ws (1:Fin P))] [(0,.v (.string lab)),(1,.v (.string s)),(4,.p 0 0),(5,.v (.int .i64 i)),(7,.v (.bool true)),(8,.p 4 0)] ⟨RG.ld u33 i33,RG.cl hat,RG.st,RG.st,RG.st,RG.mk 4 60,RG.pt i56,RG.st,trivial⟩ ?_;intro b4 a24 w24 M24;repeat refine wp_seq ?_
    refine M24.u (Nb true) [(0,.v (.string lab)),(1,.v (.string s)),(4,.p 0 0),(5,.v (.int .i64 i)),(8,.p 4 0),(34,.v (.bool true))] ⟨RG.st,trivial⟩ ?_;intro a25 w25 M25;repeat refine wp_seq ?_
    refine wp_cond_true M25.ev ?_;repeat refine wp_seq ?_
    refine M25.t [.x 35 [] (rv x y 1),.u [(35,0)] 0] [] [(0,1,ws x++(ws y++ws (1:Fin P)))] [ws x++(ws y++ws (1:Fin P)),[.int .u8 (ub u)],[.string s,.string ⟨#[u]⟩],wn n,ws x++(ws y++ws (1:Fin P))] [(4,.p 0 0)] ⟨RG.ld u56 i56,RG.pt i56,trivial⟩ ?_;intro a26 w26 M26;refine wp_ret ?_;refine bodyPost_ret (v:=rv x y 1) (RG.aF M26.st 4 60 rfl 0 _ rfl (M26.at (s:=(.p 0 0))) u56 i56) M26.sl.defers ?_;exact⟨_,rfl,M26.st.bel.below,rfl⟩
  ·rw[if_neg hx]at hcand;have hnum:=uH C T hTs hx;obtain⟨n,hn⟩:∃n,n=beV T.toList:=⟨_,rfl⟩
   rw[<-hn]at hnum;repeat refine wp_seq ?_
   refine M20.u (I8 i true) [(0,.v (.string lab)),(1,.v (.string s)),(4,.p 0 0),(5,.v (.int .i64 i)),(10,.v (.bool true))] ⟨RG.st,RG.aI rfl .lss 3 3 9 (.int .i64 i) (.int .i64 256) (.bool true) rfl rfl RG.sx (fun w=>by kernel_rfl) (dJ (n:=256) hi),trivial⟩ ?_;intro a21 w21 M21;repeat refine wp_seq ?_
   refine wp_cond_true M21.ev ?_;refine wp_skip ?_;refine wp_seq ?_;refine wp_block ?_;repeat refine wp_seq ?_
   refine M21.d (Ly lab s i u T n false) [(6,[.int .u8 (ub u)]),(8,[.string s,.string ⟨#[u]⟩]),(14,RG.z 4)] [(3,15,wn n)] [(RG.z 12),[.int .u8 (ub u)],[.string s,.string ⟨#[u]⟩],wn n] [(0,.v (.string lab)),(1,.v (.string s)),(4,.p 0 0),(5,.v (.int .i64 i)),(6,.p 3 0),(7,.v (.bool false))] ⟨RG.cl bD,RG.st,RG.mJ rfl .add 9 9 15 (.string ⟨#[112,111,105,110,116,32]⟩) (.string lab) (.string ((⟨#[112,111,105,110,116,32]⟩:ByteArray)++lab)) rfl rfl RG.sx (fun w=>by kernel_rfl) (Lh lab (by omega)),RG.st,RG.st,RG.fV rfl 3 5 18 (.int .i64 i) (.int .u8 (ub u)) rfl rfl RG.sx (FM hu hi),RG.kS 1 rfl _ rfl 22 5 19 (.int .u8 (ub u)) rfl rfl RG.sx (bs1 (ub u)),RG.kR rfl 1 6 _ rfl _ rfl rfl (by kernel_rfl) (by kernel_rfl) 22 9 20 1 (.string ⟨#[u]⟩) rfl rfl RG.sx (fun w k h=>str1 u w k h),RG.mk 2 9,RG.cr [2] (fun μ w' _ hs=>rO lab s u hl hs0 (μ 2) w' (hs 2 (RA _) _ rfl (Rk _ _))) fun _ _=>by kernel_rfl,RG.cl hnum,RG.st,RG.st,RG.st,RG.mk 3 52,RG.pt i33,RG.st,trivial⟩ ?_;intro b1 b2 b3 a22 w22 M22;repeat refine wp_seq ?_
   refine M22.u (Lx false) [(0,.v (.string lab)),(1,.v (.string s)),(4,.p 0 0),(5,.v (.int .i64 i)),(6,.p 3 0),(28,.v (.bool (!false)))] ⟨RG.st,RG.st,trivial⟩ ?_;intro a23 w23 M23;repeat refine wp_seq ?_
   refine wp_cond_true M23.ev ?_;refine wp_exit ?_;dsimp only[Exit.then,QK];rw[if_pos rfl];repeat refine wp_seq ?_
   refine M23.u (Nf i) [(0,.v (.string lab)),(1,.v (.string s)),(4,.p 0 0),(5,.v (.int .i64 ((i+1:Nat):Int)))] ⟨RG.st,RG.aI rfl .add 3 3 11 (.int .i64 i) (.int .i64 1) (.int .i64 ((i+1:Nat):Int)) rfl rfl RG.sx (fun w=>by kernel_rfl) (nY i 1 (by omega) (by omega)),RG.st,trivial⟩ ?_;intro a26 w26 M26;show ∃n',_;exact⟨m'-1,by omega,i+1,by omega,tC hnone.out hcand,RG.M.drop (cs:=[RG.z 12]) (cs2:=[_,_,_]) (ks:=[k4]) (ks2:=[_,_,_]) M26 rfl rfl⟩
 ·have he:i=256:=by omega
  have hq:hpt P lab s.data.toList=(gX P,gY P):=IB (by have h:=hnone.out;rw[he]at h;exact h);rw[hq];have hG:Gives 79 #[] (rv (gX P) (gY P) 1):=L9 C;repeat refine wp_seq ?_
  refine M20.u (I8 i false) [(0,.v (.string lab)),(1,.v (.string s)),(4,.p 0 0),(5,.v (.int .i64 i)),(10,.v (.bool false))] ⟨RG.st,RG.aI rfl .lss 3 3 9 (.int .i64 i) (.int .i64 256) (.bool false) rfl rfl RG.sx (fun w=>by kernel_rfl) (jL (n:=256) hi),trivial⟩ ?_;intro a21 w21 M21;repeat refine wp_seq ?_
  refine wp_cond_false M21.ev ?_;refine wp_exit ?_;dsimp only[Exit.then,QK];rw[if_pos rfl];repeat refine wp_seq ?_
  refine M21.t (Oc (gX P) (gY P)) [] [(0,1,ws (gX P)++(ws (gY P)++ws (1:Fin P)))] [ws (gX P)++(ws (gY P)++ws (1:Fin P))] [(4,.p 0 0)] ⟨RG.cl hG,RG.pt i56,trivial⟩ ?_;intro a22 w22 M22;refine wp_ret ?_;refine bodyPost_ret (v:=rv (gX P) (gY P) 1) (RG.aF M22.st 4 60 rfl 0 _ rfl (M22.at (s:=(.p 0 0))) u56 i56) M22.sl.defers ?_;exact⟨_,rfl,M22.st.bel.below,rfl⟩
end
section
open Go.RowKit Go.Sort Go.Deep
variable {P:Nat}[NeZero P]{N:Nat}
def MY:List RG.It:=[.m 0 [] 0]
def MX(x y:Fin P):List RG.It:=[.c 1 [] (rv x y 1),.u [(1,0)] 0]
theorem NA(C:Fl3 P){x y:Fin P}(hq:hpt P cR []=(x,y)):Gives 78 #[] (rv x y 1):=by
 intro w;have hh:Gives 133 #[.string cR,.string ⟨#[]⟩] (rv x y 1):=by
  have h:=HU C cR ⟨#[]⟩ (by decide) (by decide);have e:hpt P cR (⟨#[]⟩:ByteArray).data.toList=(x,y):=hq;rw[e]at h;exact h
 clear hq;go_enter Tryz.func78,Tryz.ntmps78;refine RG.M.enter [] 2 (by kernel_rfl) ?_;intro a0 M0;repeat refine wp_seq ?_
 refine M0.tx MY [(0,RG.z 12)] [] [RG.z 12] [(0,.p 0 0)] (by kernel_rfl) (by kernel_rfl) ⟨RG.mk 0 60 fun _ _=>by kernel_rfl,trivial⟩ ?_;intro k a1 w1 M1;repeat refine wp_seq ?_
 refine M1.tx (MX x y) [] [(0,1,ws x++(ws y++ws (1:Fin P)))] [ws x++(ws y++ws (1:Fin P))] [(0,.p 0 0)] (by kernel_rfl) (by kernel_rfl) ⟨RG.cl hh fun _ _=>by kernel_rfl,RG.pt i56 (by kernel_rfl),trivial⟩ ?_;intro a2 w2 M2;refine wp_ret ?_;refine bodyPost_ret (v:=rv x y 1) (RG.aF M2.st 0 60 rfl 0 _ rfl (M2.at (s:=(.p 0 0)) (by kernel_rfl)) u56 i56) M2.sl.defers ?_;exact⟨_,rfl,M2.st.bel.below,rfl⟩
def Na:List RG.It:=[.m 2 [] 0,.m 3 [] 1,.m 4 [] 2]
def MZ(n m:Nat)(x y gx gy:Fin P)(t1 t2 t3:T3 P):List RG.It:=[.x 5 [] (nv n),.c 6 [] (rv x y 1),.c 7 [(5,0),(6,1)] (tv t1),.x 8 [] (nv m),.c 9 [] (rv gx gy 1),.c 10 [(8,3),(9,4)] (tv t2),.c 11 [(7,2),(10,5)] (tv t3),.u [(11,6)] 2]
theorem Lf(n m:Nat):cmt P n m=EC.add (EC.mul n (.some (hpt P cR []):EC.Pt P)) (EC.mul m (gG P)):=by
 unfold cmt;generalize hpt P cR []=q;show EC.add (EC.add none (EC.cX (n:Int) (.some q:EC.Pt P))) (EC.cX (m:Int) (gG P))=_;rw[EC.eB];rfl
theorem oS(C:Fl3 P)(n m:Nat)(hn:n<top)(hm:m<top):∃t:T3 P,FracT t (cmt P n m)/\Gives 28 #[nv n,nv m] (tv t):=by
 rw[Lf];have hon:=AZ C.toFld cR [];obtain⟨q,hq⟩:∃q,hpt P cR []=q:=⟨_,rfl⟩
 rw[hq]at hon⊢;obtain⟨x,y⟩:=q;have hH:=NA C hq;clear hq;have hG:Gives 79 #[] (rv (gX P) (gY P) 1):=L9 C;have f0:FracT ((x,y,1):T3 P) (.some (x,y)):=⟨nO C.toFld x y,hon⟩
 have f1:=IE C.toFld;have g0:=rN C n hn (x,y,1) f0;have g1:=rN C m hm (gT P) f1;have e0:FracT (tmF n (x,y,1) 256) (EC.mul n (.some (x,y))):=by
  have h:=xH C (n:=n) (by unfold top at hn;omega) f0 256 (Oh _);rwa[R9,Ql,TA]at h
 have e1:FracT (tmF m (gT P) 256) (EC.mul m (gG P)):=by
  have h:=xH C (n:=m) (by unfold top at hm;omega) f1 256 (Oh _);rwa[R9,Ql,TA]at h
 obtain⟨g2,e2⟩:=FracT.plus C e0 e1;refine⟨_,e2,?_⟩;generalize plF (tmF n (x,y,1) 256) (tmF m (gT P) 256)=t3 at g2⊢;generalize tmF n (x,y,1) 256=t1 at g0 g2;generalize tmF m (gT P) 256=t2 at g1 g2;replace g1:Gives 43 #[nv m,rv (gX P) (gY P) 1] (tv t2):=g1;replace g0:Gives 43 #[nv n,rv x y 1] (tv t1):=g0;generalize gX P=gx at hG g1;generalize gY P=gy at hG g1;clear e0 e1 e2 f0 f1 hon;intro w;go_enter Tryz.func28,Tryz.ntmps28;refine RG.M.enter [(0,.v (nv n)),(1,.v (nv m))] 12 (by kernel_rfl) ?_;intro a0 M0;repeat refine wp_seq ?_
 refine M0.tx Na [(0,wn n),(1,wn m),(2,RG.z 12)] [] [wn n,wn m,RG.z 12] [(2,.p 0 0),(3,.p 1 0),(4,.p 2 0)] (by kernel_rfl) (by kernel_rfl) ⟨RG.mk 0 52 fun _ _=>by kernel_rfl,RG.mk 1 52 fun _ _=>by kernel_rfl,RG.mk 2 60 fun _ _=>by kernel_rfl,trivial⟩ ?_;intro k1 k2 k3 a1 w1 M1;repeat refine wp_seq ?_
 refine M1.dr (by kernel_rfl) (MZ n m x y gx gy t1 t2 t3) [] [(2,7,tw t3)] [wn n,wn m,tw t3] [(4,.p 2 0)] (by kernel_rfl) (by kernel_rfl) ⟨RG.ld u33 i33 (by kernel_rfl),RG.cl hH fun _ _=>by kernel_rfl,RG.cl g0 fun _ _=>by kernel_rfl,RG.ld u33 i33 (by kernel_rfl),RG.cl hG fun _ _=>by kernel_rfl,RG.cl g1 fun _ _=>by kernel_rfl,RG.cl g2 fun _ _=>by kernel_rfl,RG.pt i56 (by kernel_rfl),trivial⟩ ?_;intro a2 w2 M2;refine wp_ret ?_;refine bodyPost_ret (v:=tv t3) (RG.aF M2.st 4 60 rfl 2 _ rfl (M2.at (s:=(.p 2 0)) (by kernel_rfl)) u56 i56) M2.sl.defers ?_;exact⟨_,rfl,M2.st.bel.below,rfl⟩
def MW(sk:ByteArray)(x:Nat)(ok:Bool):List RG.It:=[.x 18 [] (.string sk),.c 19 [(18,0)] (.tuple #[nv x,.bool ok]),.x 17 [(19,1)] (.tuple #[nv x,.bool ok]),.x 20 [(17,2)] (nv x),.x 21 [(17,2)] (.bool ok),.m 6 [] 0,.u [(6,5),(20,3)] 0,.x 7 [(21,4)] (.bool ok)]
def MV(sk:ByteArray)(x:Nat)(ok:Bool):List RG.It:=[.x 23 [] (.string sk),.c 24 [(23,0)] (.tuple #[nv x,.bool ok]),.x 22 [(24,1)] (.tuple #[nv x,.bool ok]),.x 25 [(22,2)] (nv x),.x 26 [(22,2)] (.bool ok),.m 8 [] 1,.u [(8,5),(25,3)] 1,.x 9 [(26,4)] (.bool ok)]
def Lv:List RG.It:=[.x 27 [] (.bool false),.x 28 [(27,0)] (.bool true),.x 29 [(28,1)] (.bool true),⟨some 30,[],(.v undef),.pass⟩,⟨some 31,[],(.v undef),.pass⟩,.x 32 [(29,2),(31,4)] (.bool true)]
def Lu(ok:Bool):List RG.It:=[.x 27 [] (.bool true),.x 28 [(27,0)] (.bool false),.x 29 [(28,1)] (.bool false),.x 30 [] (.bool ok),.x 31 [(30,3)] (.bool (!ok)),.x 32 [(29,2),(31,4)] (.bool (!ok))]
omit [NeZero P] in
theorem Ma(sk rb:ByteArray)(x y kv km c cx cy z t:Nat)(o0 o1:Bool)(ta tf:T3 P)(A F Z T:Bs)(hS0:Gives 25 #[.string sk] (.tuple #[nv x,.bool o0]))(hS1:Gives 25 #[.string rb] (.tuple #[nv y,.bool o1]))
 (hgood:o0=true->o1=true->(∀(g:Nat) (w':World),w'.rangeAt g 0 [.string sk,.string rb]/\g<w'.heap.size->Calls prog 27 #[.string ⟨#[110,111,110,99,101,32,118,97,108,117,101]⟩,.slice (some ⟨g,0,none⟩) 2 2] w' (Ret fun e w''=>Below w'.heap.size w' w''/\e=nv kv))/\(∀(g:Nat) (w':World),w'.rangeAt g 0 [.string sk,.string rb]/\g<w'.heap.size->Calls prog 27 #[.string ⟨#[110,111,110,99,101,32,98,108,105,110,100]⟩,.slice (some ⟨g,0,none⟩) 2 2] w' (Ret fun e w''=>Below w'.heap.size w' w''/\e=nv km)) /\
  Gives 28 #[nv kv,nv km] (tv tf)/\Gives 29 #[tv tf] (.string ⟨F⟩)/\Gives 28 #[nv x,nv y] (tv ta)/\Gives 29 #[tv ta] (.string ⟨A⟩)/\Gives 30 #[.string ⟨A⟩,.string ⟨F⟩] (nv c) /\
  Gives 32 #[rv1,nv c,nv x] (nv cx)/\Gives 31 #[rv1,nv kv,nv cx] (nv z)/\Gives 32 #[rv1,nv c,nv y] (nv cy)/\Gives 31 #[rv1,nv km,nv cy] (nv t)/\Gives 33 #[nv z] (.string ⟨Z⟩)/\Gives 33 #[nv t] (.string ⟨T⟩)/\F.size=33/\Z.size=32/\T.size=32) :
 Gives 6 #[.string sk,.string rb] (if o0 then if o1 then .tuple #[.string ⟨F++Z++T⟩,.int .i64 0] else .tuple #[.string ⟨#[]⟩,.int .i64 3] else .tuple #[.string ⟨#[]⟩,.int .i64 3]):=by
 intro w;go_enter Tryz.func6,Tryz.ntmps6;refine RG.M.enter [(0,.v (.string sk)),(1,.v (.string rb))] 73 (by kernel_rfl) ?_;intro a0 M0;repeat refine wp_seq ?_
 refine M0.u [.x 4 [] (.string ⟨#[]⟩),.x 5 [] (.int .i64 0)] [(0,.v (.string sk)),(1,.v (.string rb))] ⟨RG.st,RG.st,trivial⟩ ?_;intro a1 w1 M1;repeat refine wp_seq ?_
 refine M1.t (MW sk x o0) [(5,RG.z 4)] [(0,6,wn x)] [wn x] [(0,.v (.string sk)),(1,.v (.string rb)),(6,.p 0 0),(7,.v (.bool o0))] ⟨RG.st,RG.cl hS0,RG.st,RG.st,RG.st,RG.mk 0 52,RG.pt i33,RG.st,trivial⟩ ?_;intro j2 a2 w2 M2;repeat refine wp_seq ?_
 refine M2.t (MV rb y o1) [(5,RG.z 4)] [(1,6,wn y)] [wn x,wn y] [(0,.v (.string sk)),(1,.v (.string rb)),(6,.p 0 0),(8,.p 1 0),(7,.v (.bool o0)),(9,.v (.bool o1))] ⟨RG.st,RG.cl hS1,RG.st,RG.st,RG.st,RG.mk 1 52,RG.pt i33,RG.st,trivial⟩ ?_;intro j3 a3 w3 M3;repeat refine wp_seq ?_
 cases o0 with
 | false =>
  refine M3.u Lv [(32,.v (.bool true))] ⟨RG.st,RG.st,RG.st,RG.aJ rfl rfl,RG.aJ rfl rfl,RG.st,trivial⟩ ?_;intro a4 w4 M4;repeat refine wp_seq ?_
  refine wp_cond_true (M4.ev (v:=.bool true) (by kernel_rfl)) ?_;repeat refine wp_seq ?_
  refine M4.u [.x 4 [] (.string ⟨#[]⟩),.x 5 [] (.int .i64 3)] [(4,.v (.string ⟨#[]⟩)),(5,.v (.int .i64 3))] ⟨RG.st,RG.st,trivial⟩ ?_;intro a5 w5 M5;refine wp_ret ?_;refine bodyPost_ret (v:=.tuple #[.string ⟨#[]⟩,.int .i64 3]) (RG.cS 4 5 rfl _ _ M5.av M5.av) M5.sl.defers ?_;exact⟨_,rfl,M5.st.bel.below,rfl⟩
 | true =>
  refine M3.u (Lu o1) [(0,.v (.string sk)),(1,.v (.string rb)),(6,.p 0 0),(8,.p 1 0),(32,.v (.bool (!o1)))] ⟨RG.st,RG.st,RG.st,RG.st,RG.st,RG.st,trivial⟩ ?_;intro a4 w4 M4;repeat refine wp_seq ?_
  cases o1 with
  | false =>
   refine wp_cond_true (M4.ev (v:=.bool true) (by kernel_rfl)) ?_;repeat refine wp_seq ?_
   refine M4.u [.x 4 [] (.string ⟨#[]⟩),.x 5 [] (.int .i64 3)] [(4,.v (.string ⟨#[]⟩)),(5,.v (.int .i64 3))] ⟨RG.st,RG.st,trivial⟩ ?_;intro a5 w5 M5;refine wp_ret ?_;refine bodyPost_ret (v:=.tuple #[.string ⟨#[]⟩,.int .i64 3]) (RG.cS 4 5 rfl _ _ M5.av M5.av) M5.sl.defers ?_;exact⟨_,rfl,M5.st.bel.below,rfl⟩
  | true =>
   obtain⟨hC1,hC2,hCf,hWf,hCa,hWa,hOp,hM1,hA1,hM2,hA2,hZ,hT,zF,zZ,zT⟩:=hgood rfl rfl;have hcat:=MI F Z (by omega) (by omega);have hcat2:=MI (F++Z) T (by rw[ON];omega) (by omega);refine wp_cond_false (M4.ev (v:=.bool false) (by kernel_rfl)) ?_;refine wp_skip ?_;repeat refine wp_seq ?_
   refine M4.t [.c 33 [] rv1,.m 10 [] 2,.u [(10,1),(33,0)] 2] [(1,RG.z 8)] [(2,2,rl1)] [wn x,wn y,rl1] [(0,.v (.string sk)),(1,.v (.string rb)),(6,.p 0 0),(8,.p 1 0),(10,.p 2 0)] ⟨RG.cl I5,RG.mk 2 56,RG.pt i35,trivial⟩ ?_;intro j5 a5 w5 M5;repeat refine wp_seq ?_
   refine M5.t [.x 34 [] (.string sk),.x 35 [] (.string rb),⟨some 36,[(34,0),(35,1)],.s 3 2 2,.make 3⟩,.c 37 [(36,2)] (nv kv),.m 11 [] 4,.u [(11,4),(37,3)] 4] [(2,[.string sk,.string rb]),(4,RG.z 4)] [(4,5,wn kv)] [wn x,wn y,rl1,[.string sk,.string rb],wn kv] [(0,.v (.string sk)),(1,.v (.string rb)),(6,.p 0 0),(8,.p 1 0),(10,.p 2 0),(11,.p 4 0)] ⟨RG.st,RG.st,RG.mk 3 9,RG.cr [3] (fun μ w' _ hs=>hC1 (μ 3) w' (hs 3 (RA _) _ rfl (Rk _ _))) fun _ _=>by kernel_rfl,RG.mk 4 52,RG.pt i33,trivial⟩ ?_;intro j6 i6 a6 w6 M6;repeat refine wp_seq ?_
   refine M6.t [.x 38 [] (.string sk),.x 39 [] (.string rb),⟨some 40,[(38,0),(39,1)],.s 5 2 2,.make 5⟩,.c 41 [(40,2)] (nv km),.m 12 [] 6,.u [(12,4),(41,3)] 6] [(2,[.string sk,.string rb]),(4,RG.z 4)] [(6,5,wn km)] [wn x,wn y,rl1,[.string sk,.string rb],wn kv,[.string sk,.string rb],wn km] [(6,.p 0 0),(8,.p 1 0),(10,.p 2 0),(11,.p 4 0),(12,.p 6 0)] ⟨RG.st,RG.st,RG.mk 5 9,RG.cr [5] (fun μ w' _ hs=>hC2 (μ 5) w' (hs 5 (RA _) _ rfl (Rk _ _))) fun _ _=>by kernel_rfl,RG.mk 6 52,RG.pt i33,trivial⟩ ?_;intro j7 i7 a7 w7 M7;repeat refine wp_seq ?_
   refine M7.u [.x 42 [] (nv kv),.x 43 [] (nv km),.c 44 [(42,0),(43,1)] (tv tf),.c 45 [(44,2)] (.string ⟨F⟩),.x 13 [(45,3)] (.string ⟨F⟩)] [(6,.p 0 0),(8,.p 1 0),(10,.p 2 0),(11,.p 4 0),(12,.p 6 0),(13,.v (.string ⟨F⟩))] ⟨RG.ld u33 i33,RG.ld u33 i33,RG.cl hCf,RG.cl hWf,RG.st,trivial⟩ ?_;intro a8 w8 M8;repeat refine wp_seq ?_
   refine M8.t [.x 46 [] (nv x),.x 47 [] (nv y),.c 48 [(46,0),(47,1)] (tv ta),.c 49 [(48,2)] (.string ⟨A⟩),.x 50 [] (.string ⟨F⟩),.c 51 [(49,3),(50,4)] (nv c),.m 14 [] 7,.u [(14,6),(51,5)] 7] [(6,RG.z 4)] [(7,7,wn c)] [wn x,wn y,rl1,[.string sk,.string rb],wn kv,[.string sk,.string rb],wn km,wn c] [(6,.p 0 0),(8,.p 1 0),(10,.p 2 0),(11,.p 4 0),(12,.p 6 0),(13,.v (.string ⟨F⟩)),(14,.p 7 0)] ⟨RG.ld u33 i33,RG.ld u33 i33,RG.cl hCa,RG.cl hWa,RG.st,RG.cl hOp,RG.mk 7 52,RG.pt i33,trivial⟩ ?_;intro j9 a9 w9 M9;repeat refine wp_seq ?_
   refine M9.d [.x 52 [] rv1,.x 53 [] (nv kv),.x 54 [] rv1,.x 55 [] (nv c),.x 56 [] (nv x),.c 57 [(54,2),(55,3),(56,4)] (nv cx),.c 58 [(52,0),(53,1),(57,5)] (nv z),.m 15 [] 8,.u [(15,7),(58,6)] 8] [(7,RG.z 4)] [(8,8,wn z)] [wn x,wn y,rl1,[.string sk,.string rb],wn kv,[.string sk,.string rb],wn km,wn c,wn z] [(8,.p 1 0),(10,.p 2 0),(12,.p 6 0),(13,.v (.string ⟨F⟩)),(14,.p 7 0),(15,.p 8 0)] ⟨RG.ld u35 i35,RG.ld u33 i33,RG.ld u35 i35,RG.ld u33 i33,RG.ld u33 i33,RG.cl hM1,RG.cl hA1,RG.mk 8 52,RG.pt i33,trivial⟩ ?_;intro jA aA wA MA;repeat refine wp_seq ?_
   refine MA.d [.x 59 [] rv1,.x 60 [] (nv km),.x 61 [] rv1,.x 62 [] (nv c),.x 63 [] (nv y),.c 64 [(61,2),(62,3),(63,4)] (nv cy),.c 65 [(59,0),(60,1),(64,5)] (nv t),.m 16 [] 9,.u [(16,7),(65,6)] 9] [(7,RG.z 4)] [(9,8,wn t)] [wn x,wn y,rl1,[.string sk,.string rb],wn kv,[.string sk,.string rb],wn km,wn c,wn z,wn t] [(13,.v (.string ⟨F⟩)),(15,.p 8 0),(16,.p 9 0)] ⟨RG.ld u35 i35,RG.ld u33 i33,RG.ld u35 i35,RG.ld u33 i33,RG.ld u33 i33,RG.cl hM2,RG.cl hA2,RG.mk 9 52,RG.pt i33,trivial⟩ ?_;intro jB aB wB MB;repeat refine wp_seq ?_
   refine MB.e [.x 66 [] (.string ⟨F⟩),.x 67 [] (nv z),.c 68 [(67,1)] (.string ⟨Z⟩),.x 69 [(66,0),(68,2)] (.string ⟨F++Z⟩),.x 70 [] (nv t),.c 71 [(70,4)] (.string ⟨T⟩),.x 72 [(69,3),(71,5)] (.string ⟨F++Z++T⟩),.x 4 [(72,6)] (.string ⟨F++Z++T⟩),.x 5 [] (.int .i64 0)] [(4,.v (.string ⟨F++Z++T⟩)),(5,.v (.int .i64 0))] ⟨RG.st,RG.ld u33 i33,RG.cl hZ,RG.aK rfl .add 9 9 66 68 (.string ⟨F⟩) (.string ⟨Z⟩) (.string ⟨F++Z⟩) rfl rfl RG.sx RG.sx (fun w=>by kernel_rfl) hcat,RG.ld u33 i33,RG.cl hT,RG.aK rfl .add 9 9 69 71 (.string ⟨F++Z⟩) (.string ⟨T⟩) (.string ⟨F++Z++T⟩) rfl rfl RG.sx RG.sx (fun w=>by kernel_rfl) hcat2,RG.st,RG.st,trivial⟩ ?_;intro aC wC MC;refine wp_ret ?_;refine bodyPost_ret (v:=.tuple #[.string ⟨F++Z++T⟩,.int .i64 0]) (RG.cS 4 5 rfl _ _ MC.av MC.av) MC.sl.defers ?_;exact⟨_,rfl,MC.st.bel.below,rfl⟩
theorem u54:(prog.underlying 60).map (·.isRow)=some true:=by kernel_rfl
theorem i54:(prog.info? 60).map (·.size)=some 12:=by kernel_rfl
theorem Dn(C:Fl3 P)(x1 y1 z1 x2 y2 z2:Fin P)(hz1:z1=0)(hz2:z2=0):Gives 41 #[(rv x1 y1 z1),(rv x2 y2 z2)] (.bool true):=by
 intro w;go_enter Tryz.func41,Tryz.ntmps41;refine RG.M.enter [(0,(.v (rv x1 y1 z1))),(1,(.v (rv x2 y2 z2)))] 47 (by kernel_rfl) ?_;intro a0 M0;repeat refine wp_seq ?_
 refine M0.t [.m 2 [] 0,.m 3 [] 1,.x 4 [] (.bool false)] [(0,(ws x1++(ws y1++(ws z1)))),(1,(ws x2++(ws y2++(ws z2))))] [] [(ws x1++(ws y1++(ws z1))),(ws x2++(ws y2++(ws z2)))] [(2,(.p 0 0)),(3,(.p 1 0)),(4,(.v (.bool false)))] ⟨RG.mk 0 60,RG.mk 1 60,RG.st,trivial⟩ ?_;intro j1 i1 a1 w1 M1;repeat refine wp_seq ?_
 refine M1.u [.x 7 [] (rv x1 y1 z1),.c 8 [(7,0)] (.bool true),.x 5 [(8,1)] (.bool true)] [(3,(.p 1 0)),(4,(.v (.bool false))),(5,(.v (.bool true)))] ⟨RG.ld u54 i54,RG.cl (mN C x1 y1 z1 hz1),RG.st,trivial⟩ ?_;intro a2 w2 M2;repeat refine wp_seq ?_
 refine M2.u [.x 9 [] (rv x2 y2 z2),.c 10 [(9,0)] (.bool true),.x 6 [(10,1)] (.bool true)] [(4,(.v (.bool false))),(5,(.v (.bool true))),(6,(.v (.bool true)))] ⟨RG.ld u54 i54,RG.cl (mN C x2 y2 z2 hz2),RG.st,trivial⟩ ?_;intro a3 w3 M3;repeat refine wp_seq ?_
 refine M3.u [.x 11 [] (.bool true),.x 12 [(11,0)] (.bool true),⟨some 13,[],(.v undef),.pass⟩,.x 14 [(12,1),(13,2)] (.bool true)] [(4,(.v (.bool false))),(5,(.v (.bool true))),(6,(.v (.bool true))),(14,(.v (.bool true)))] ⟨RG.st,RG.st,RG.aJ rfl rfl,RG.st,trivial⟩ ?_;intro a4 w4 M4;repeat refine wp_seq ?_
 refine wp_cond_true M4.ev ?_;repeat refine wp_seq ?_
 refine M4.u [.x 15 [] (.bool true),.x 16 [(15,0)] (.bool true),.x 17 [] (.bool true),.x 18 [(16,1),(17,2)] (.bool true),.x 4 [(18,3)] (.bool true)] [(4,(.v (.bool true)))] ⟨RG.st,RG.st,RG.st,RG.st,RG.st,trivial⟩ ?_;intro a5 w5 M5;refine wp_ret ?_;refine bodyPost_ret (v:=(.bool true)) (RG.aV 4 rfl _ (M5.at (s:=(.v (.bool true))))) M5.sl.defers ?_;exact⟨_,rfl,M5.st.bel.below,rfl⟩
theorem Dm(C:Fl3 P)(x1 y1 z1 x2 y2 z2:Fin P)(hz1:z1=0)(hz2:¬z2=0):Gives 41 #[(rv x1 y1 z1),(rv x2 y2 z2)] (.bool false):=by
 intro w;go_enter Tryz.func41,Tryz.ntmps41;refine RG.M.enter [(0,(.v (rv x1 y1 z1))),(1,(.v (rv x2 y2 z2)))] 47 (by kernel_rfl) ?_;intro a0 M0;repeat refine wp_seq ?_
 refine M0.t [.m 2 [] 0,.m 3 [] 1,.x 4 [] (.bool false)] [(0,(ws x1++(ws y1++(ws z1)))),(1,(ws x2++(ws y2++(ws z2))))] [] [(ws x1++(ws y1++(ws z1))),(ws x2++(ws y2++(ws z2)))] [(2,(.p 0 0)),(3,(.p 1 0)),(4,(.v (.bool false)))] ⟨RG.mk 0 60,RG.mk 1 60,RG.st,trivial⟩ ?_;intro j1 i1 a1 w1 M1;repeat refine wp_seq ?_
 refine M1.u [.x 7 [] (rv x1 y1 z1),.c 8 [(7,0)] (.bool true),.x 5 [(8,1)] (.bool true)] [(3,(.p 1 0)),(4,(.v (.bool false))),(5,(.v (.bool true)))] ⟨RG.ld u54 i54,RG.cl (mN C x1 y1 z1 hz1),RG.st,trivial⟩ ?_;intro a2 w2 M2;repeat refine wp_seq ?_
 refine M2.u [.x 9 [] (rv x2 y2 z2),.c 10 [(9,0)] (.bool false),.x 6 [(10,1)] (.bool false)] [(4,(.v (.bool false))),(5,(.v (.bool true))),(6,(.v (.bool false)))] ⟨RG.ld u54 i54,RG.cl (fN C x2 y2 z2 hz2),RG.st,trivial⟩ ?_;intro a3 w3 M3;repeat refine wp_seq ?_
 refine M3.u [.x 11 [] (.bool true),.x 12 [(11,0)] (.bool true),⟨some 13,[],(.v undef),.pass⟩,.x 14 [(12,1),(13,2)] (.bool true)] [(4,(.v (.bool false))),(5,(.v (.bool true))),(6,(.v (.bool false))),(14,(.v (.bool true)))] ⟨RG.st,RG.st,RG.aJ rfl rfl,RG.st,trivial⟩ ?_;intro a4 w4 M4;repeat refine wp_seq ?_
 refine wp_cond_true M4.ev ?_;repeat refine wp_seq ?_
 refine M4.u [.x 15 [] (.bool true),.x 16 [(15,0)] (.bool true),.x 17 [] (.bool false),.x 18 [(16,1),(17,2)] (.bool false),.x 4 [(18,3)] (.bool false)] [(4,(.v (.bool false)))] ⟨RG.st,RG.st,RG.st,RG.st,RG.st,trivial⟩ ?_;intro a5 w5 M5;refine wp_ret ?_;refine bodyPost_ret (v:=(.bool false)) (RG.aV 4 rfl _ (M5.at (s:=(.v (.bool false))))) M5.sl.defers ?_;exact⟨_,rfl,M5.st.bel.below,rfl⟩
theorem Dl(C:Fl3 P)(x1 y1 z1 x2 y2 z2:Fin P)(hz1:¬z1=0)(hz2:z2=0):Gives 41 #[(rv x1 y1 z1),(rv x2 y2 z2)] (.bool false):=by
 intro w;go_enter Tryz.func41,Tryz.ntmps41;refine RG.M.enter [(0,(.v (rv x1 y1 z1))),(1,(.v (rv x2 y2 z2)))] 47 (by kernel_rfl) ?_;intro a0 M0;repeat refine wp_seq ?_
 refine M0.t [.m 2 [] 0,.m 3 [] 1,.x 4 [] (.bool false)] [(0,(ws x1++(ws y1++(ws z1)))),(1,(ws x2++(ws y2++(ws z2))))] [] [(ws x1++(ws y1++(ws z1))),(ws x2++(ws y2++(ws z2)))] [(2,(.p 0 0)),(3,(.p 1 0)),(4,(.v (.bool false)))] ⟨RG.mk 0 60,RG.mk 1 60,RG.st,trivial⟩ ?_;intro j1 i1 a1 w1 M1;repeat refine wp_seq ?_
 refine M1.u [.x 7 [] (rv x1 y1 z1),.c 8 [(7,0)] (.bool false),.x 5 [(8,1)] (.bool false)] [(3,(.p 1 0)),(4,(.v (.bool false))),(5,(.v (.bool false)))] ⟨RG.ld u54 i54,RG.cl (fN C x1 y1 z1 hz1),RG.st,trivial⟩ ?_;intro a2 w2 M2;repeat refine wp_seq ?_
 refine M2.u [.x 9 [] (rv x2 y2 z2),.c 10 [(9,0)] (.bool true),.x 6 [(10,1)] (.bool true)] [(4,(.v (.bool false))),(5,(.v (.bool false))),(6,(.v (.bool true)))] ⟨RG.ld u54 i54,RG.cl (mN C x2 y2 z2 hz2),RG.st,trivial⟩ ?_;intro a3 w3 M3;repeat refine wp_seq ?_
 refine M3.u [.x 11 [] (.bool false),.x 12 [(11,0)] (.bool false),.x 13 [] (.bool true),.x 14 [(12,1),(13,2)] (.bool true)] [(4,(.v (.bool false))),(5,(.v (.bool false))),(14,(.v (.bool true)))] ⟨RG.st,RG.st,RG.st,RG.st,trivial⟩ ?_;intro a4 w4 M4;repeat refine wp_seq ?_
 refine wp_cond_true M4.ev ?_;repeat refine wp_seq ?_
 refine M4.u [.x 15 [] (.bool false),.x 16 [(15,0)] (.bool false),⟨some 17,[],(.v undef),.pass⟩,.x 18 [(16,1),(17,2)] (.bool false),.x 4 [(18,3)] (.bool false)] [(4,(.v (.bool false)))] ⟨RG.st,RG.st,RG.aJ rfl rfl,RG.st,RG.st,trivial⟩ ?_;intro a5 w5 M5;refine wp_ret ?_;refine bodyPost_ret (v:=(.bool false)) (RG.aV 4 rfl _ (M5.at (s:=(.v (.bool false))))) M5.sl.defers ?_;exact⟨_,rfl,M5.st.bel.below,rfl⟩
theorem Dk(C:Fl3 P)(x1 y1 z1 x2 y2 z2:Fin P)(hz1:¬z1=0)(hz2:¬z2=0)(hx:x1*z2=x2*z1)(hy:y1*z2=y2*z1):Gives 41 #[(rv x1 y1 z1),(rv x2 y2 z2)] (.bool true):=by
 intro w;obtain⟨c1,hc1⟩:∃c,c=x1*z2:=⟨_,rfl⟩
 obtain⟨c2,hc2⟩:∃c,c=x2*z1:=⟨_,rfl⟩
 obtain⟨c3,hc3⟩:∃c,c=y1*z2:=⟨_,rfl⟩
 obtain⟨c4,hc4⟩:∃c,c=y2*z1:=⟨_,rfl⟩
 go_enter Tryz.func41,Tryz.ntmps41;refine RG.M.enter [(0,(.v (rv x1 y1 z1))),(1,(.v (rv x2 y2 z2)))] 47 (by kernel_rfl) ?_;intro a0 M0;repeat refine wp_seq ?_
 refine M0.t [.m 2 [] 0,.m 3 [] 1,.x 4 [] (.bool false)] [(0,(ws x1++(ws y1++(ws z1)))),(1,(ws x2++(ws y2++(ws z2))))] [] [(ws x1++(ws y1++(ws z1))),(ws x2++(ws y2++(ws z2)))] [(2,(.p 0 0)),(3,(.p 1 0)),(4,(.v (.bool false)))] ⟨RG.mk 0 60,RG.mk 1 60,RG.st,trivial⟩ ?_;intro j1 i1 a1 w1 M1;repeat refine wp_seq ?_
 refine M1.u [.x 7 [] (rv x1 y1 z1),.c 8 [(7,0)] (.bool false),.x 5 [(8,1)] (.bool false)] [(2,(.p 0 0)),(3,(.p 1 0)),(4,(.v (.bool false))),(5,(.v (.bool false)))] ⟨RG.ld u54 i54,RG.cl (fN C x1 y1 z1 hz1),RG.st,trivial⟩ ?_;intro a2 w2 M2;repeat refine wp_seq ?_
 refine M2.u [.x 9 [] (rv x2 y2 z2),.c 10 [(9,0)] (.bool false),.x 6 [(10,1)] (.bool false)] [(2,(.p 0 0)),(3,(.p 1 0)),(4,(.v (.bool false))),(5,(.v (.bool false))),(6,(.v (.bool false)))] ⟨RG.ld u54 i54,RG.cl (fN C x2 y2 z2 hz2),RG.st,trivial⟩ ?_;intro a3 w3 M3;repeat refine wp_seq ?_
 refine M3.u [.x 11 [] (.bool false),.x 12 [(11,0)] (.bool false),.x 13 [] (.bool false),.x 14 [(12,1),(13,2)] (.bool false)] [(2,(.p 0 0)),(3,(.p 1 0)),(4,(.v (.bool false))),(14,(.v (.bool false)))] ⟨RG.st,RG.st,RG.st,RG.st,trivial⟩ ?_;intro a4 w4 M4;repeat refine wp_seq ?_
 refine wp_cond_false M4.ev ?_;refine wp_skip ?_;repeat refine wp_seq ?_
 refine M4.e [.c 19 [] rv0,.s 20 [] (.p 0 0),.x 21 [(20,1)] (fv x1),.s 22 [] (.p 1 8),.x 23 [(22,3)] (fv z2),.c 24 [(19,0),(21,2),(23,4)] (fv c1),.c 25 [] rv0,.s 26 [] (.p 1 0),.x 27 [(26,7)] (fv x2),.s 28 [] (.p 0 8),.x 29 [(28,9)] (fv z1),.c 30 [(25,6),(27,8),(29,10)] (fv c2),.x 31 [(24,5),(30,11)] (.bool true),.x 32 [(31,12)] (.bool true),.c 33 [] rv0,.s 34 [] (.p 0 4),.x 35 [(34,15)] (fv y1),.s 36 [] (.p 1 8),.x 37 [(36,17)] (fv z2),.c 38 [(33,14),(35,16),(37,18)] (fv c3),.c 39 [] rv0,.s 40 [] (.p 1 4),.x 41 [(40,21)] (fv y2),.s 42 [] (.p 0 8),.x 43 [(42,23)] (fv z1),.c 44 [(39,20),(41,22),(43,24)] (fv c4),.x 45 [(38,19),(44,25)] (.bool true),.x 46 [(32,13),(45,26)] (.bool true),.x 4 [(46,27)] (.bool true)] [(4,(.v (.bool true)))] ⟨RG.cl (bD),RG.st,RG.ld u44 i44,RG.st,RG.ld u44 i44,RG.cl ((aQ C x1 z2).e hc1),RG.cl (bD),RG.st,RG.ld u44 i44,RG.st,RG.ld u44 i44,RG.cl ((aQ C x2 z1).e hc2),RG.aK rfl .eql 52 52 24 30 (fv c1) (fv c2) (.bool true) rfl rfl RG.sx RG.sx (fun w=>by kernel_rfl) (Cq C.toFld (by subst_vars;exact hx)),RG.st,RG.cl (bD),RG.st,RG.ld u44 i44,RG.st,RG.ld u44 i44,RG.cl ((aQ C y1 z2).e hc3),RG.cl (bD),RG.st,RG.ld u44 i44,RG.st,RG.ld u44 i44,RG.cl ((aQ C y2 z1).e hc4),RG.aK rfl .eql 52 52 38 44 (fv c3) (fv c4) (.bool true) rfl rfl RG.sx RG.sx (fun w=>by kernel_rfl) (Cq C.toFld (by subst_vars;exact hy)),RG.st,RG.st,trivial⟩ ?_;intro a5 w5 M5;refine wp_ret ?_;refine bodyPost_ret (v:=(.bool true)) (RG.aV 4 rfl _ (M5.at (s:=(.v (.bool true))))) M5.sl.defers ?_;exact⟨_,rfl,M5.st.bel.below,rfl⟩
theorem Dj(C:Fl3 P)(x1 y1 z1 x2 y2 z2:Fin P)(hz1:¬z1=0)(hz2:¬z2=0)(hx:¬x1*z2=x2*z1):Gives 41 #[(rv x1 y1 z1),(rv x2 y2 z2)] (.bool false):=by
 intro w;obtain⟨c1,hc1⟩:∃c,c=x1*z2:=⟨_,rfl⟩
 obtain⟨c2,hc2⟩:∃c,c=x2*z1:=⟨_,rfl⟩
 go_enter Tryz.func41,Tryz.ntmps41;refine RG.M.enter [(0,(.v (rv x1 y1 z1))),(1,(.v (rv x2 y2 z2)))] 47 (by kernel_rfl) ?_;intro a0 M0;repeat refine wp_seq ?_
 refine M0.t [.m 2 [] 0,.m 3 [] 1,.x 4 [] (.bool false)] [(0,(ws x1++(ws y1++(ws z1)))),(1,(ws x2++(ws y2++(ws z2))))] [] [(ws x1++(ws y1++(ws z1))),(ws x2++(ws y2++(ws z2)))] [(2,(.p 0 0)),(3,(.p 1 0)),(4,(.v (.bool false)))] ⟨RG.mk 0 60,RG.mk 1 60,RG.st,trivial⟩ ?_;intro j1 i1 a1 w1 M1;repeat refine wp_seq ?_
 refine M1.u [.x 7 [] (rv x1 y1 z1),.c 8 [(7,0)] (.bool false),.x 5 [(8,1)] (.bool false)] [(2,(.p 0 0)),(3,(.p 1 0)),(4,(.v (.bool false))),(5,(.v (.bool false)))] ⟨RG.ld u54 i54,RG.cl (fN C x1 y1 z1 hz1),RG.st,trivial⟩ ?_;intro a2 w2 M2;repeat refine wp_seq ?_
 refine M2.u [.x 9 [] (rv x2 y2 z2),.c 10 [(9,0)] (.bool false),.x 6 [(10,1)] (.bool false)] [(2,(.p 0 0)),(3,(.p 1 0)),(4,(.v (.bool false))),(5,(.v (.bool false))),(6,(.v (.bool false)))] ⟨RG.ld u54 i54,RG.cl (fN C x2 y2 z2 hz2),RG.st,trivial⟩ ?_;intro a3 w3 M3;repeat refine wp_seq ?_
 refine M3.u [.x 11 [] (.bool false),.x 12 [(11,0)] (.bool false),.x 13 [] (.bool false),.x 14 [(12,1),(13,2)] (.bool false)] [(2,(.p 0 0)),(3,(.p 1 0)),(4,(.v (.bool false))),(14,(.v (.bool false)))] ⟨RG.st,RG.st,RG.st,RG.st,trivial⟩ ?_;intro a4 w4 M4;repeat refine wp_seq ?_
 refine wp_cond_false M4.ev ?_;refine wp_skip ?_;repeat refine wp_seq ?_
 refine M4.e [.c 19 [] rv0,.s 20 [] (.p 0 0),.x 21 [(20,1)] (fv x1),.s 22 [] (.p 1 8),.x 23 [(22,3)] (fv z2),.c 24 [(19,0),(21,2),(23,4)] (fv c1),.c 25 [] rv0,.s 26 [] (.p 1 0),.x 27 [(26,7)] (fv x2),.s 28 [] (.p 0 8),.x 29 [(28,9)] (fv z1),.c 30 [(25,6),(27,8),(29,10)] (fv c2),.x 31 [(24,5),(30,11)] (.bool false),.x 32 [(31,12)] (.bool false),⟨some 33,[],(.v undef),.pass⟩,⟨some 34,[],(.v undef),.pass⟩,⟨some 35,[],(.v undef),.pass⟩,⟨some 36,[],(.v undef),.pass⟩,⟨some 37,[],(.v undef),.pass⟩,⟨some 38,[],(.v undef),.pass⟩,⟨some 39,[],(.v undef),.pass⟩,⟨some 40,[],(.v undef),.pass⟩,⟨some 41,[],(.v undef),.pass⟩,⟨some 42,[],(.v undef),.pass⟩,⟨some 43,[],(.v undef),.pass⟩,⟨some 44,[],(.v undef),.pass⟩,⟨some 45,[],(.v undef),.pass⟩,.x 46 [(32,13),(45,26)] (.bool false),.x 4 [(46,27)] (.bool false)] [(4,(.v (.bool false)))] ⟨RG.cl (bD),RG.st,RG.ld u44 i44,RG.st,RG.ld u44 i44,RG.cl ((aQ C x1 z2).e hc1),RG.cl (bD),RG.st,RG.ld u44 i44,RG.st,RG.ld u44 i44,RG.cl ((aQ C x2 z1).e hc2),RG.aK rfl .eql 52 52 24 30 (fv c1) (fv c2) (.bool false) rfl rfl RG.sx RG.sx (fun w=>by kernel_rfl) (Fu C.toFld (by subst_vars;exact hx)),RG.st,RG.aJ rfl rfl,RG.aJ rfl rfl,RG.aJ rfl rfl,RG.aJ rfl rfl,RG.aJ rfl rfl,RG.aJ rfl rfl,RG.aJ rfl rfl,RG.aJ rfl rfl,RG.aJ rfl rfl,RG.aJ rfl rfl,RG.aJ rfl rfl,RG.aJ rfl rfl,RG.aJ rfl rfl,RG.st,RG.st,trivial⟩ ?_;intro a5 w5 M5;refine wp_ret ?_;refine bodyPost_ret (v:=(.bool false)) (RG.aV 4 rfl _ (M5.at (s:=(.v (.bool false))))) M5.sl.defers ?_;exact⟨_,rfl,M5.st.bel.below,rfl⟩
theorem Di(C:Fl3 P)(x1 y1 z1 x2 y2 z2:Fin P)(hz1:¬z1=0)(hz2:¬z2=0)(hx:x1*z2=x2*z1)(hy:¬y1*z2=y2*z1):Gives 41 #[(rv x1 y1 z1),(rv x2 y2 z2)] (.bool false):=by
 intro w;obtain⟨c1,hc1⟩:∃c,c=x1*z2:=⟨_,rfl⟩
 obtain⟨c2,hc2⟩:∃c,c=x2*z1:=⟨_,rfl⟩
 obtain⟨c3,hc3⟩:∃c,c=y1*z2:=⟨_,rfl⟩
 obtain⟨c4,hc4⟩:∃c,c=y2*z1:=⟨_,rfl⟩
 go_enter Tryz.func41,Tryz.ntmps41;refine RG.M.enter [(0,(.v (rv x1 y1 z1))),(1,(.v (rv x2 y2 z2)))] 47 (by kernel_rfl) ?_;intro a0 M0;repeat refine wp_seq ?_
 refine M0.t [.m 2 [] 0,.m 3 [] 1,.x 4 [] (.bool false)] [(0,(ws x1++(ws y1++(ws z1)))),(1,(ws x2++(ws y2++(ws z2))))] [] [(ws x1++(ws y1++(ws z1))),(ws x2++(ws y2++(ws z2)))] [(2,(.p 0 0)),(3,(.p 1 0)),(4,(.v (.bool false)))] ⟨RG.mk 0 60,RG.mk 1 60,RG.st,trivial⟩ ?_;intro j1 i1 a1 w1 M1;repeat refine wp_seq ?_
 refine M1.u [.x 7 [] (rv x1 y1 z1),.c 8 [(7,0)] (.bool false),.x 5 [(8,1)] (.bool false)] [(2,(.p 0 0)),(3,(.p 1 0)),(4,(.v (.bool false))),(5,(.v (.bool false)))] ⟨RG.ld u54 i54,RG.cl (fN C x1 y1 z1 hz1),RG.st,trivial⟩ ?_;intro a2 w2 M2;repeat refine wp_seq ?_
 refine M2.u [.x 9 [] (rv x2 y2 z2),.c 10 [(9,0)] (.bool false),.x 6 [(10,1)] (.bool false)] [(2,(.p 0 0)),(3,(.p 1 0)),(4,(.v (.bool false))),(5,(.v (.bool false))),(6,(.v (.bool false)))] ⟨RG.ld u54 i54,RG.cl (fN C x2 y2 z2 hz2),RG.st,trivial⟩ ?_;intro a3 w3 M3;repeat refine wp_seq ?_
 refine M3.u [.x 11 [] (.bool false),.x 12 [(11,0)] (.bool false),.x 13 [] (.bool false),.x 14 [(12,1),(13,2)] (.bool false)] [(2,(.p 0 0)),(3,(.p 1 0)),(4,(.v (.bool false))),(14,(.v (.bool false)))] ⟨RG.st,RG.st,RG.st,RG.st,trivial⟩ ?_;intro a4 w4 M4;repeat refine wp_seq ?_
 refine wp_cond_false M4.ev ?_;refine wp_skip ?_;repeat refine wp_seq ?_
 refine M4.e [.c 19 [] rv0,.s 20 [] (.p 0 0),.x 21 [(20,1)] (fv x1),.s 22 [] (.p 1 8),.x 23 [(22,3)] (fv z2),.c 24 [(19,0),(21,2),(23,4)] (fv c1),.c 25 [] rv0,.s 26 [] (.p 1 0),.x 27 [(26,7)] (fv x2),.s 28 [] (.p 0 8),.x 29 [(28,9)] (fv z1),.c 30 [(25,6),(27,8),(29,10)] (fv c2),.x 31 [(24,5),(30,11)] (.bool true),.x 32 [(31,12)] (.bool true),.c 33 [] rv0,.s 34 [] (.p 0 4),.x 35 [(34,15)] (fv y1),.s 36 [] (.p 1 8),.x 37 [(36,17)] (fv z2),.c 38 [(33,14),(35,16),(37,18)] (fv c3),.c 39 [] rv0,.s 40 [] (.p 1 4),.x 41 [(40,21)] (fv y2),.s 42 [] (.p 0 8),.x 43 [(42,23)] (fv z1),.c 44 [(39,20),(41,22),(43,24)] (fv c4),.x 45 [(38,19),(44,25)] (.bool false),.x 46 [(32,13),(45,26)] (.bool false),.x 4 [(46,27)] (.bool false)] [(4,(.v (.bool false)))] ⟨RG.cl (bD),RG.st,RG.ld u44 i44,RG.st,RG.ld u44 i44,RG.cl ((aQ C x1 z2).e hc1),RG.cl (bD),RG.st,RG.ld u44 i44,RG.st,RG.ld u44 i44,RG.cl ((aQ C x2 z1).e hc2),RG.aK rfl .eql 52 52 24 30 (fv c1) (fv c2) (.bool true) rfl rfl RG.sx RG.sx (fun w=>by kernel_rfl) (Cq C.toFld (by subst_vars;exact hx)),RG.st,RG.cl (bD),RG.st,RG.ld u44 i44,RG.st,RG.ld u44 i44,RG.cl ((aQ C y1 z2).e hc3),RG.cl (bD),RG.st,RG.ld u44 i44,RG.st,RG.ld u44 i44,RG.cl ((aQ C y2 z1).e hc4),RG.aK rfl .eql 52 52 38 44 (fv c3) (fv c4) (.bool false) rfl rfl RG.sx RG.sx (fun w=>by kernel_rfl) (Fu C.toFld (by subst_vars;exact hy)),RG.st,RG.st,trivial⟩ ?_;intro a5 w5 M5;refine wp_ret ?_;refine bodyPost_ret (v:=(.bool false)) (RG.aV 4 rfl _ (M5.at (s:=(.v (.bool false))))) M5.sl.defers ?_;exact⟨_,rfl,M5.st.bel.below,rfl⟩
theorem G7(C:EC.Cur P){a b c d z1 z2 x1 x2 y1 y2:Fin P}(h1:¬z1=0)(h2:¬z2=0)(e1:x1=a*z1)(e2:y1=b*z1)(e3:x2=c*z2)(e4:y2=d*z2)(hx:x1*z2=x2*z1)(hy:y1*z2=y2*z1):a=c/\b=d:=by
 have h3:=EC.bE C.pr h1 h2;subst e1 e2 e3 e4;exact⟨EC.cancel C.pr h3 (by grobner),EC.cancel C.pr h3 (by grobner)⟩
theorem uS{x y z:Fin P}{q:EC.Pt P}(h:EC.Frac x y z q)(hz:¬z=0):q≠none:=fun e=>by
 subst e;exact hz h
theorem Hw(C:Fl3 P){a b:T3 P}{p q:EC.Pt P}(h:FracT a p)(h':FracT b q):Gives 41 #[tv a,tv b] (.bool (decide (p=q))):=by
 obtain⟨x1,y1,z1⟩:=a;obtain⟨x2,y2,z2⟩:=b;by_cases n1:z1=0
 ·obtain rfl:=h.1.zero n1;by_cases n2:z2=0
  ·obtain rfl:=h'.1.zero n2;rw[decide_eq_true rfl];exact Dn C x1 y1 z1 x2 y2 z2 n1 n2
  ·rw[decide_eq_false (fun e=>uS h'.1 n2 e.symm)];exact Dm C x1 y1 z1 x2 y2 z2 n1 n2
 ·by_cases n2:z2=0
  ·obtain rfl:=h'.1.zero n2;rw[decide_eq_false (fun e=>uS h.1 n1 e)];exact Dl C x1 y1 z1 x2 y2 z2 n1 n2
  ·match p,q,h.1,h'.1 with
   | none,_,k,_=>exact absurd k n1
   | some (a,b),none,_,k=>exact absurd k n2
   | some (a,b),some (c,d),⟨_,e1,e2⟩,⟨_,e3,e4⟩ =>
    have e1:x1=a*z1:=e1;have e2:y1=b*z1:=e2;have e3:x2=c*z2:=e3;have e4:y2=d*z2:=e4;by_cases hx:x1*z2=x2*z1
    ·by_cases hy:y1*z2=y2*z1
     ·obtain⟨r1,r2⟩:=G7 C.cur n1 n2 e1 e2 e3 e4 hx hy;rw[decide_eq_true (by rw[r1,r2])];exact Dk C x1 y1 z1 x2 y2 z2 n1 n2 hx hy
     ·rw[decide_eq_false (fun e=>hy (by cases e;rw[e2,e4];grobner))];exact Di C x1 y1 z1 x2 y2 z2 n1 n2 hx hy
    ·rw[decide_eq_false (fun e=>hx (by cases e;rw[e1,e3];grobner))];exact Dj C x1 y1 z1 x2 y2 z2 n1 n2 hx
end
section
open Go.RowKit Go.Sort Go.Deep
namespace RG
section
variable {P:Program}{ops:Array Oper}{Q:Exit->Act->World->Prop}{w0 w:World}{k0:Nat}{X:List Nat}{its:List It}{bl:List Bl}{olds:List (Tmp × SV)}{a:Act}{i:Nat}{o:Oper}{it:It}
theorem zH(hk:it.kind=.stay)(T:TypeId)(t:Tmp)(lo hi v v':Value)(ho:o.op=.slice T (.tmp t) (some (.const lo)) (some (.const hi)) none)(hout:it.out=.v v')(hx:∀(μ:Nat->Nat) (a:Act),Known ops i its olds it.need μ a->a.eval (.tmp t)=v)
 (hf:∀w:World,(Pp T v (some lo) (some hi) none).run P w=.ok v' w):Cert P Q w0 k0 X ops i its bl olds o it:=by
 refine bS hk fun μ a w hK _=>?_
 unfold execOp;rw[ho,hout];dsimp only;rw[hx μ a hK];show((Pp T v (some lo) (some hi) none) >>= fun v=>pure (Rf v)).run P w=_;rw[OG,hf];rfl
end
end RG
variable {P:Nat}[NeZero P]{N:Nat}
def MU(s:ByteArray)(v:Value)(ok:Bool):List RG.It:=[.x 15 [] (.string s),.c 16 [(15,0)] (.tuple #[v,.bool ok]),.x 14 [(16,1)] (.tuple #[v,.bool ok]),.x 17 [(14,2)] v,.x 18 [(14,2)] (.bool ok),.m 5 [] 0,.u [(5,5),(17,3)] 0,.x 6 [(18,4)] (.bool ok)]
def MS(pr u:ByteArray)(v:Value)(ok:Bool):List RG.It:=[.x 27 [] (.string pr),.x 28 [(27,0)] (.string u),.c 29 [(28,1)] (.tuple #[v,.bool ok]),.x 26 [(29,2)] (.tuple #[v,.bool ok]),.x 30 [(26,3)] v,.x 31 [(26,3)] (.bool ok),.m 7 [] 1,.u [(7,6),(30,4)] 1,.x 8 [(31,5)] (.bool ok)]
def MR(pr u:ByteArray)(n:Nat)(ok:Bool):List RG.It:=[.x 33 [] (.string pr),.x 34 [(33,0)] (.string u),.c 35 [(34,1)] (.tuple #[nv n,.bool ok]),.x 32 [(35,2)] (.tuple #[nv n,.bool ok]),.x 36 [(32,3)] (nv n),.x 37 [(32,3)] (.bool ok),.m 9 [] 2,.u [(9,6),(36,4)] 2,.x 10 [(37,5)] (.bool ok)]
def MQ(pr u:ByteArray)(n:Nat)(ok:Bool):List RG.It:=[.x 39 [] (.string pr),.x 40 [(39,0)] (.string u),.c 41 [(40,1)] (.tuple #[nv n,.bool ok]),.x 38 [(41,2)] (.tuple #[nv n,.bool ok]),.x 42 [(38,3)] (nv n),.x 43 [(38,3)] (.bool ok),.m 11 [] 3,.u [(11,6),(42,4)] 3,.x 12 [(43,5)] (.bool ok)]
def voR(o0 lb o1 o2 o3 e:Bool):Bool:=o0 && !lb && o1 && o2 && o3 && e
omit [NeZero P] in
theorem LZ(cb pr u0 u1 u2:ByteArray)(t0 t1 tc tm tp:T3 P)(z t c:Nat)(o0 lb o1 o2 o3 r:Bool)(hlb:(!((pr.size:Int) == 97))=lb)(h0:Gives 40 #[.string cb] (.tuple #[tv t0,.bool o0]))
 (hs0:lb=false->∀w,(Pp 9 (.string pr) none (some (.int .i64 33)) none).run prog w=.ok (.string u0) w) (hs1:lb=false->∀w,(Pp 9 (.string pr) (some (.int .i64 33)) (some (.int .i64 65)) none).run prog w=.ok (.string u1) w) (hs2:lb=false->∀w,(Pp 9 (.string pr) (some (.int .i64 65)) none none).run prog w=.ok (.string u2) w)
 (h1:Gives 40 #[.string u0] (.tuple #[tv t1,.bool o1])) (h2:Gives 25 #[.string u1] (.tuple #[nv z,.bool o2])) (h3:Gives 25 #[.string u2] (.tuple #[nv t,.bool o3]))
 (hgood:o0=true->o1=true->o2=true->o3=true->Gives 30 #[.string cb,.string u0] (nv c)/\Gives 28 #[nv z,nv t] (tv tc)/\Gives 43 #[nv c,tv t0] (tv tm)/\Gives 42 #[tv t1,tv tm] (tv tp)/\Gives 41 #[tv tc,tv tp] (.bool r)) :
 Gives 8 #[.string cb,.string pr] (.bool (voR o0 lb o1 o2 o3 r)):=by
 intro w;go_enter Tryz.func8,Tryz.ntmps8;refine RG.M.enter [(0,.v (.string cb)),(1,.v (.string pr))] 67 (by kernel_rfl) ?_;intro a0 M0;repeat refine wp_seq ?_
 refine M0.u [.x 4 [] (.bool false)] [(0,.v (.string cb)),(1,.v (.string pr))] ⟨RG.st,trivial⟩ ?_;intro a1 w1 M1;repeat refine wp_seq ?_
 refine M1.t (MU cb (tv t0) o0) [(5,RG.z 12)] [(0,6,tw t0)] [tw t0] [(0,.v (.string cb)),(1,.v (.string pr)),(5,.p 0 0),(6,.v (.bool o0))] ⟨RG.st,RG.cl h0,RG.st,RG.st,RG.st,RG.mk 0 60,RG.pt i56,RG.st,trivial⟩ ?_;intro j2 a2 w2 M2;repeat refine wp_seq ?_
 cases o0 with
 | false =>
  refine M2.u [.x 19 [] (.bool false),.x 20 [(19,0)] (.bool true),.x 21 [(20,1)] (.bool true),⟨some 22,[],(.v undef),.pass⟩,⟨some 23,[],(.v undef),.pass⟩,⟨some 24,[],(.v undef),.pass⟩,.x 25 [(21,2),(24,5)] (.bool true)] [(25,.v (.bool true))] ⟨RG.st,RG.st,RG.st,RG.aJ rfl rfl,RG.aJ rfl rfl,RG.aJ rfl rfl,RG.st,trivial⟩ ?_;intro a3 w3 M3;repeat refine wp_seq ?_
  refine wp_cond_true (M3.ev (v:=.bool true) (by kernel_rfl)) ?_;repeat refine wp_seq ?_
  refine M3.u [.x 4 [] (.bool false)] [(4,.v (.bool false))] ⟨RG.st,trivial⟩ ?_;intro az wz Mz;refine wp_ret ?_;refine bodyPost_ret (v:=.bool false) (RG.aV 4 rfl _ Mz.av) Mz.sl.defers ?_;exact⟨_,rfl,Mz.st.bel.below,rfl⟩
 | true =>
  refine M2.u [.x 19 [] (.bool true),.x 20 [(19,0)] (.bool false),.x 21 [(20,1)] (.bool false),.x 22 [] (.string pr),.x 23 [(22,3)] (.int .i64 (pr.size:Int)),.x 24 [(23,4)] (.bool lb),.x 25 [(21,2),(24,5)] (.bool lb)] [(0,.v (.string cb)),(1,.v (.string pr)),(5,.p 0 0),(25,.v (.bool lb))] ⟨RG.st,RG.st,RG.st,RG.st,RG.st,RG.se (show Uf (!((pr.size:Int) == 97))=.bool lb by rw[hlb]),RG.st,trivial⟩ ?_;intro a3 w3 M3;repeat refine wp_seq ?_
  cases lb with
  | true =>
   refine wp_cond_true (M3.ev (v:=.bool true) (by kernel_rfl)) ?_;repeat refine wp_seq ?_
   refine M3.u [.x 4 [] (.bool false)] [(4,.v (.bool false))] ⟨RG.st,trivial⟩ ?_;intro az wz Mz;refine wp_ret ?_;refine bodyPost_ret (v:=.bool false) (RG.aV 4 rfl _ Mz.av) Mz.sl.defers ?_;exact⟨_,rfl,Mz.st.bel.below,rfl⟩
  | false =>
   have hq0:=hs0 rfl;have hq1:=hs1 rfl;have hq2:=hs2 rfl;refine wp_cond_false (M3.ev (v:=.bool false) (by kernel_rfl)) ?_;refine wp_skip ?_;repeat refine wp_seq ?_
   refine M3.t (MS pr u0 (tv t1) o1) [(6,RG.z 12)] [(1,7,tw t1)] [tw t0,tw t1] [(0,.v (.string cb)),(1,.v (.string pr)),(5,.p 0 0),(7,.p 1 0),(8,.v (.bool o1))] ⟨RG.st,RG.pW rfl 9 27 (.int .i64 33) (.string pr) (.string u0) rfl rfl RG.sx hq0,RG.cl h1,RG.st,RG.st,RG.st,RG.mk 1 60,RG.pt i56,RG.st,trivial⟩ ?_;intro j4 a4 w4 M4;repeat refine wp_seq ?_
   refine M4.t (MR pr u1 z o2) [(6,RG.z 4)] [(2,7,wn z)] [tw t0,tw t1,wn z] [(0,.v (.string cb)),(1,.v (.string pr)),(5,.p 0 0),(7,.p 1 0),(9,.p 2 0),(8,.v (.bool o1)),(10,.v (.bool o2))] ⟨RG.st,RG.zH rfl 9 33 (.int .i64 33) (.int .i64 65) (.string pr) (.string u1) rfl rfl RG.sx hq1,RG.cl h2,RG.st,RG.st,RG.st,RG.mk 2 52,RG.pt i33,RG.st,trivial⟩ ?_;intro j5 a5 w5 M5;repeat refine wp_seq ?_
   refine M5.t (MQ pr u2 t o3) [(6,RG.z 4)] [(3,7,wn t)] [tw t0,tw t1,wn z,wn t] [(0,.v (.string cb)),(1,.v (.string pr)),(5,.p 0 0),(7,.p 1 0),(9,.p 2 0),(11,.p 3 0),(8,.v (.bool o1)),(10,.v (.bool o2)),(12,.v (.bool o3))] ⟨RG.st,RG.fC rfl 9 39 (.int .i64 65) (.string pr) (.string u2) rfl rfl RG.sx hq2,RG.cl h3,RG.st,RG.st,RG.st,RG.mk 3 52,RG.pt i33,RG.st,trivial⟩ ?_;intro j6 a6 w6 M6;repeat refine wp_seq ?_
   cases o1 with
   | false =>
    refine M6.u [.x 44 [] (.bool false),.x 45 [(44,0)] (.bool true),.x 46 [(45,1)] (.bool true),⟨some 47,[],(.v undef),.pass⟩,⟨some 48,[],(.v undef),.pass⟩,.x 49 [(46,2),(48,4)] (.bool true),.x 50 [(49,5)] (.bool true),⟨some 51,[],(.v undef),.pass⟩,⟨some 52,[],(.v undef),.pass⟩,.x 53 [(50,6),(52,8)] (.bool true)] [(53,.v (.bool true))] ⟨RG.st,RG.st,RG.st,RG.aJ rfl rfl,RG.aJ rfl rfl,RG.st,RG.st,RG.aJ rfl rfl,RG.aJ rfl rfl,RG.st,trivial⟩ ?_;intro a7 w7 M7;repeat refine wp_seq ?_
    refine wp_cond_true (M7.ev (v:=.bool true) (by kernel_rfl)) ?_;repeat refine wp_seq ?_
    refine M7.u [.x 4 [] (.bool false)] [(4,.v (.bool false))] ⟨RG.st,trivial⟩ ?_;intro az wz Mz;refine wp_ret ?_;refine bodyPost_ret (v:=.bool false) (RG.aV 4 rfl _ Mz.av) Mz.sl.defers ?_;exact⟨_,rfl,Mz.st.bel.below,rfl⟩
   | true =>
    cases o2 with
    | false =>
     refine M6.u [.x 44 [] (.bool true),.x 45 [(44,0)] (.bool false),.x 46 [(45,1)] (.bool false),.x 47 [] (.bool false),.x 48 [(47,3)] (.bool true),.x 49 [(46,2),(48,4)] (.bool true),.x 50 [(49,5)] (.bool true),⟨some 51,[],(.v undef),.pass⟩,⟨some 52,[],(.v undef),.pass⟩,.x 53 [(50,6),(52,8)] (.bool true)] [(53,.v (.bool true))] ⟨RG.st,RG.st,RG.st,RG.st,RG.st,RG.st,RG.st,RG.aJ rfl rfl,RG.aJ rfl rfl,RG.st,trivial⟩ ?_;intro a7 w7 M7;repeat refine wp_seq ?_
     refine wp_cond_true (M7.ev (v:=.bool true) (by kernel_rfl)) ?_;repeat refine wp_seq ?_
     refine M7.u [.x 4 [] (.bool false)] [(4,.v (.bool false))] ⟨RG.st,trivial⟩ ?_;intro az wz Mz;refine wp_ret ?_;refine bodyPost_ret (v:=.bool false) (RG.aV 4 rfl _ Mz.av) Mz.sl.defers ?_;exact⟨_,rfl,Mz.st.bel.below,rfl⟩
    | true =>
     refine M6.u [.x 44 [] (.bool true),.x 45 [(44,0)] (.bool false),.x 46 [(45,1)] (.bool false),.x 47 [] (.bool true),.x 48 [(47,3)] (.bool false),.x 49 [(46,2),(48,4)] (.bool false),.x 50 [(49,5)] (.bool false),.x 51 [] (.bool o3),.x 52 [(51,7)] (.bool (!o3)),.x 53 [(50,6),(52,8)] (.bool (!o3))] [(0,.v (.string cb)),(1,.v (.string pr)),(5,.p 0 0),(7,.p 1 0),(9,.p 2 0),(11,.p 3 0),(53,.v (.bool (!o3)))] ⟨RG.st,RG.st,RG.st,RG.st,RG.st,RG.st,RG.st,RG.st,RG.st,RG.st,trivial⟩ ?_;intro a7 w7 M7;repeat refine wp_seq ?_
     cases o3 with
     | false =>
      refine wp_cond_true (M7.ev (v:=.bool true) (by kernel_rfl)) ?_;repeat refine wp_seq ?_
      refine M7.u [.x 4 [] (.bool false)] [(4,.v (.bool false))] ⟨RG.st,trivial⟩ ?_;intro az wz Mz;refine wp_ret ?_;refine bodyPost_ret (v:=.bool false) (RG.aV 4 rfl _ Mz.av) Mz.sl.defers ?_;exact⟨_,rfl,Mz.st.bel.below,rfl⟩
     | true =>
      obtain⟨hOp,hCm,hTm,hPl,hSm⟩:=hgood rfl rfl rfl rfl;refine wp_cond_false (M7.ev (v:=.bool false) (by kernel_rfl)) ?_;refine wp_skip ?_;repeat refine wp_seq ?_
      refine M7.t [.x 54 [] (.string cb),.x 55 [] (.string pr),.x 56 [(55,1)] (.string u0),.c 57 [(54,0),(56,2)] (nv c),.m 13 [] 4,.u [(13,4),(57,3)] 4] [(4,RG.z 4)] [(4,5,wn c)] [tw t0,tw t1,wn z,wn t,wn c] [(5,.p 0 0),(7,.p 1 0),(9,.p 2 0),(11,.p 3 0),(13,.p 4 0)] ⟨RG.st,RG.st,RG.pW rfl 9 55 (.int .i64 33) (.string pr) (.string u0) rfl rfl RG.sx hq0,RG.cl hOp,RG.mk 4 52,RG.pt i33,trivial⟩ ?_;intro j8 a8 w8 M8;repeat refine wp_seq ?_
      refine M8.e [.x 58 [] (nv z),.x 59 [] (nv t),.c 60 [(58,0),(59,1)] (tv tc),.x 61 [] (tv t1),.x 62 [] (nv c),.x 63 [] (tv t0),.c 64 [(62,4),(63,5)] (tv tm),.c 65 [(61,3),(64,6)] (tv tp),.c 66 [(60,2),(65,7)] (.bool r),.x 4 [(66,8)] (.bool r)] [(4,.v (.bool r))] ⟨RG.ld u33 i33,RG.ld u33 i33,RG.cl hCm,RG.ld u56 i56,RG.ld u33 i33,RG.ld u56 i56,RG.cl hTm,RG.cl hPl,RG.cl hSm,RG.st,trivial⟩ ?_;intro a9 w9 M9;refine wp_ret ?_;refine bodyPost_ret (v:=.bool r) (RG.aV 4 rfl _ M9.av) M9.sl.defers ?_;exact⟨_,rfl,M9.st.bel.below,rfl⟩
end
section
open Go.RowKit Go.Sort Go.Deep
variable {P:Nat}[NeZero P]{N:Nat}
theorem LS{f:Nat->List Value}{C:List Value}(h:Rows 4 1 f 1 C)(h0:∀j,(f j).length=4):C=f 0:=by
 apply Sg;intro j;have hl:=h.len;by_cases hj:j<4
 ·have hr:=h.row 0 j (by omega) hj;rw[Nat.mul_zero,Om]at hr;exact hr
 ·rw[PX (by omega),PX (by rw[h0];omega)]
def oC(P:Nat)[NeZero P](N:Nat)(b:Bs):Bool:=decide (b.size=65) && ((rd P (b.extract 0 33)).isSome && (rq N (b.extract 33 65)).isSome)
def JE(P:Nat)[NeZero P](N:Nat)(w:World)(b:Bs)(e:Value)(w':World):Prop:=
 Below w.heap.size w w'/\((oC P N b=true/\∃K k,e=.tuple #[.slice (some ⟨K,0,none⟩) 1 1,.slice (some ⟨k,0,none⟩) 1 1,.bool true]/\w.heap.size<=K/\K<k/\k<w'.heap.size/\w'.rangeAt K 0 (aD (b.extract 0 33))/\w'.there K 0 33/\w'.rangeAt k 0 (wn (nuV (b.extract 33 65)))/\w'.there k 0 4)\/(oC P N b=false/\∃q1 q2,e=.tuple #[q1,q2,.bool false]))
theorem Gp(C:Fld P)(O:Ord N)(v:Value)(b:Bs)(w:World)(hv:SP.PartOk w v b.toList):Calls prog 35 #[v,.int .i64 1,.int .i64 1] w (Ret (JE P N w b)):=by
 obtain⟨a0,sb,so,cap,bs,rfl,hbe,hcap,-,hor⟩:=hv;obtain rfl:bs=b:=Vq hbe;clear hbe;by_cases h64:bs.size=65
 ·obtain⟨rfl,hH⟩:a0=some ⟨sb,so,none⟩/\Holds encB w sb so bs:=by
   rcases hor with h|h
   ·omega
   ·exact h
  clear hor;have hlt:sb<w.heap.size:=sJ hH (by omega);rw[h64]at hcap⊢;have hs1:∀w:World,(Pp 22 (.slice (some ⟨sb,so,none⟩) 65 cap) none (some (.int .i64 33)) none).run prog w=.ok (.slice (some ⟨sb,so,none⟩) 33 cap) w:=fun w=>by
   have h1:(33:Int)<=cap:=by omega
   go_simp
  have hs2:∀w:World,(Pp 22 (.slice (some ⟨sb,so,none⟩) 65 cap) (some (.int .i64 33)) none none).run prog w=.ok (.slice (some ⟨sb,so+33,none⟩) 32 (cap-33)) w:=fun w=>by
   have h1:(65:Int)<=cap:=by omega
   have h2:¬cap=33:=by omega
   go_simp
  have HH:Hid (Holds encB w sb so bs/\bs.size=65):=⟨hH,h64⟩
  clear hH h64;go_enter Tryz.func35,Tryz.ntmps35;go_wp2_with fail
  refine(nR sb so 33 cap 33 (by decide) w).mono ?_;rintro e w1 ⟨v1,rfl,rfl,hw1⟩;obtain⟨h1,h2,h3,h4⟩:=lA w (.slice (some ⟨sb,so,none⟩) 33 cap) (.int .i64 33) 22 3;have hw1':w1=(w.alloc (.cells #[.slice (some ⟨sb,so,none⟩) 33 cap] 22)).alloc (.cells #[.int .i64 33] 3):=hw1;rw[<-hw1']at h1 h2 h3 h4;clear hw1 hw1';have hcl:=nQ sb so 33 1 33 cap w1 (by decide) rfl (by decide) (by omega) (by decide) w.heap.size (by omega) h3 h4;clear h3 h4;go_wp2_with fail
  refine hcl.mono ?_;rintro e w2 ⟨v2,rfl,hb2,hr2,-⟩;obtain⟨g2,c2,rfl,hg2,hl2,hc2⟩:=lI hr2 (by decide);have H2:Hid (Below w.heap.size w w2):=h1.trans (hb2.mono h1.size);clear h1 h2 hcl hb2 hg2 hr2;have HP:Hid (g2<w2.heap.size/\∀j,j<1->∃v,w2.cell? ⟨g2,j,none⟩=some v/\Arg33 w2 v (bs.extract 0 33)):=by
   refine⟨hl2,fun j hj=>⟨chv sb so 33 j,?_,?_⟩⟩
   ·rw[hc2 j hj,PD,QT hj];rfl
   ·have hsz:=HH.out.2;obtain rfl:j=0:=by omega
    refine⟨_,33,33,rfl,by rw[Po];omega,fun _=>⟨sb,so+33*0,rfl,Oh _,Oi hlt H2.out.size,?_⟩⟩;have hH2:Holds encB w2 sb so bs:=Holds.below HH.out.1 H2.out hlt;exact eK 0 33 hH2 (by omega)
  clear hl2 hc2;go_wp2_with fail
  refine(Gc C g2 1 c2 (by decide) (fun _=>bs.extract 0 33) w2 HP.out.1 HP.out.2).mono ?_;clear HP;rintro e w3 ⟨v3,rfl,hb3,hR3⟩;have H3:Hid (Below w.heap.size w w3):=H2.out.trans (hb3.mono H2.out.size);have HS:Hid (w.heap.size<=w2.heap.size):=H2.out.size;clear hb3 H2;obtain⟨qv,okp,rfl,HP⟩:∃qv okp,v3=.tuple #[qv,.bool okp]/\Hid (okp=(rd P (bs.extract 0 33)).isSome/\(okp=true->∃K,qv=.slice (some ⟨K,0,none⟩) 1 1/\w.heap.size<=K/\K<w3.heap.size/\w3.there K 0 33/\w3.rangeAt K 0 (aD (bs.extract 0 33)))):=by
   rcases hR3 with⟨h1,K,rfl,h3,h4,h5,h6⟩|⟨⟨j,hj,h1⟩,rfl⟩
   ·obtain⟨p,hp⟩:=h1 0 (by decide);exact⟨_,true,rfl,by rw[hp];rfl,fun _=>⟨K,rfl,OM HS.out h3,h4,h5,h6 0 (by decide)⟩⟩
   ·exact⟨_,false,rfl,by rw[h1];rfl,fun h=>by cases h⟩
  clear hR3;go_wp2_with fail
  refine(nR sb (so+33) 32 (cap-33) 32 (by decide) w3).mono ?_;rintro e w4 ⟨v4,rfl,rfl,hw4⟩;obtain⟨h1,h2,h3,h4⟩:=lA w3 (.slice (some ⟨sb,so+33,none⟩) 32 (cap-33)) (.int .i64 32) 22 3;have hw4':w4=(w3.alloc (.cells #[.slice (some ⟨sb,so+33,none⟩) 32 (cap-33)] 22)).alloc (.cells #[.int .i64 32] 3):=hw4;rw[<-hw4']at h1 h2 h3 h4;clear hw4 hw4';have hcl:=nQ sb (so+33) 32 1 32 (cap-33) w4 (by decide) rfl (by decide) (by omega) (by decide) w3.heap.size (by omega) h3 h4;clear h3 h4;go_wp2_with fail
  refine hcl.mono ?_;rintro e w5 ⟨v5,rfl,hb5,hr5,-⟩;obtain⟨g5,c5,rfl,hg5,hl5,hc5⟩:=lI hr5 (by decide);have H35:Hid (Below w3.heap.size w3 w5):=h1.trans (hb5.mono h1.size);have H5:Hid (Below w.heap.size w w5):=H3.out.trans (H35.out.mono H3.out.size);clear h1 h2 hcl hb5 hg5 hr5 H3;have HA:Hid (Args w5 (some ⟨g5,0,none⟩) 1 (fun j=>bs.extract (33+32*j) (33+32*j+32))):=fun _=>by
   refine⟨g5,rfl,hl5,fun j hj=>⟨chv sb (so+33) 32 j,?_,?_⟩⟩
   ·rw[hc5 j hj,PD,QT hj];rfl
   ·have hsz:=HH.out.2;refine⟨_,32,32,rfl,by rw[Po];omega,fun _=>⟨sb,so+33+32*j,rfl,Oh _,Oi hlt H5.out.size,?_⟩⟩;have hH5:Holds encB w5 sb so bs:=Holds.below HH.out.1 H5.out hlt;have:=eK (33+32*j) 32 hH5 (by omega);rwa[<-Qa]at this
  clear hl5 hc5;go_wp2_with fail
  refine(qR O 1 c5 (by decide) (some ⟨g5,0,none⟩) _ w5 HA.out).mono ?_;have HN:Hid (w.heap.size<=w5.heap.size):=H5.out.size;rintro e w6 ⟨v6,rfl,⟨hno,hb6,rfl⟩|⟨hall,k6,C6,hM6,hRo,rfl⟩⟩
  ·have H6:Hid (Below w.heap.size w w6/\oC P N bs=false):=by
    refine⟨H5.out.trans (hb6.mono HN.out),?_⟩;obtain⟨j,hj,hq⟩:=hno;unfold oC;obtain rfl:j=0:=by omega
    have hq':rq N (bs.extract 33 65)=none:=hq;rw[hq'];simp
   clear hno hb6 H5 HA HH HP H35;cases okp
   ·go_wp2;refine bodyPost_ret (v:=.tuple #[qv,.slice none 0 0,.bool false]) (bW (a:=⟨_,_⟩) 6 7 8 rfl _ _ _ rfl rfl rfl) rfl ?_;exact⟨_,rfl,H6.out.1,OC ⟨H6.out.2,_,_,rfl⟩⟩
   ·go_wp2;refine bodyPost_ret (v:=.tuple #[qv,.slice none 0 0,.bool false]) (bW (a:=⟨_,_⟩) 6 7 8 rfl _ _ _ rfl rfl rfl) rfl ?_;exact⟨_,rfl,H6.out.1,OC ⟨H6.out.2,_,_,rfl⟩⟩
  ·cases okp
   ·have H6:Hid (Below w.heap.size w w6/\oC P N bs=false):=by
     refine⟨H5.out.trans (hM6.bel.mono HN.out),?_⟩;unfold oC;rw[<-HP.out.1];simp
    clear hall hM6 hRo H5 HA HH HP H35;go_wp2;refine bodyPost_ret (v:=.tuple #[qv,.slice (some ⟨k6,0,none⟩) 1 1,.bool false]) (bW (a:=⟨_,_⟩) 6 7 8 rfl _ _ _ rfl rfl rfl) rfl ?_;exact⟨_,rfl,H6.out.1,OC ⟨H6.out.2,_,_,rfl⟩⟩
   ·obtain⟨K,rfl,hK1,hK2,hK3,hK4⟩:=HP.out.2 rfl;have H6:Hid (JE P N w bs (.tuple #[.slice (some ⟨K,0,none⟩) 1 1,.slice (some ⟨k6,0,none⟩) 1 1,.bool true]) w6):=by
     have q0:(rq N (bs.extract 33 65)).isSome=true:=hall 0 (by decide);have h36:Below w3.heap.size w3 w6:=H35.out.trans (hM6.bel.mono H35.out.size);refine⟨H5.out.trans (hM6.bel.mono HN.out),OQ ⟨?_,K,k6,rfl,hK1,Oi hK2 (OM H35.out.size hM6.le),hM6.lt,RG.aN hK4 h36 hK2,RG.dC hK3 h36 hK2,?_,?_⟩⟩
     ·unfold oC;rw[q0,HH.out.2,<-HP.out.1];rfl
     ·have hC:=LS hRo (fun _=>rfl);rw[<-Aq q0];have:=hM6.range;rw[hC]at this;exact this
     ·have hC:=hRo.len;have:=hM6.there;rw[hC]at this;exact this
    clear hall hM6 hRo H5 HA HH HP H35 hK1 hK2 hK3 hK4;go_wp2;refine bodyPost_ret (v:=.tuple #[.slice (some ⟨K,0,none⟩) 1 1,.slice (some ⟨k6,0,none⟩) 1 1,.bool true]) (bW (a:=⟨_,_⟩) 6 7 8 rfl _ _ _ rfl rfl rfl) rfl ?_;exact⟨_,rfl,H6.out⟩
 ·have hne:((bs.size:Int) == 65)=false:=by simpa using(by omega:¬(bs.size:Int)=65)
  have HT:Hid (oC P N bs=false):=by show _=_;unfold oC;rw[decide_eq_false h64];rfl
  have h64':¬(bs.size:Int)=65:=by omega
  go_enter Tryz.func35,Tryz.ntmps35;go_wp2;refine bodyPost_ret (v:=.tuple #[.slice none 0 0,.slice none 0 0,.bool false]) (bW (a:=⟨_,_⟩) 6 7 8 rfl _ _ _ rfl rfl rfl) rfl ?_;exact⟨_,rfl,Ow _ _,OC ⟨HT.out,_,_,rfl⟩⟩
def fE(P:Nat)[NeZero P](N:Nat)(b:Bs):Bool:=decide (b.size=97) && ((rd P (b.extract 0 33)).isSome && ((rq N (b.extract 33 65)).isSome && (rq N (b.extract 65 97)).isSome))
def JD(P:Nat)[NeZero P](N:Nat)(w:World)(b:Bs)(e:Value)(w':World):Prop:=
 Below w.heap.size w w'/\((fE P N b=true/\∃K k,e=.tuple #[.slice (some ⟨K,0,none⟩) 1 1,.slice (some ⟨k,0,none⟩) 2 2,.bool true]/\w.heap.size<=K/\K<k/\k<w'.heap.size/\w'.rangeAt K 0 (aD (b.extract 0 33))/\w'.there K 0 33/\w'.rangeAt k 0 (wn (nuV (b.extract 33 65))++wn (nuV (b.extract 65 97)))/\w'.there k 0 8)\/(fE P N b=false/\∃q1 q2,e=.tuple #[q1,q2,.bool false]))
theorem lX(C:Fld P)(O:Ord N)(v:Value)(b:Bs)(w:World)(hv:SP.PartOk w v b.toList):Calls prog 35 #[v,.int .i64 1,.int .i64 2] w (Ret (JD P N w b)):=by
 obtain⟨a0,sb,so,cap,bs,rfl,hbe,hcap,-,hor⟩:=hv;obtain rfl:bs=b:=Vq hbe;clear hbe;by_cases h64:bs.size=97
 ·obtain⟨rfl,hH⟩:a0=some ⟨sb,so,none⟩/\Holds encB w sb so bs:=by
   rcases hor with h|h
   ·omega
   ·exact h
  clear hor;have hlt:sb<w.heap.size:=sJ hH (by omega);rw[h64]at hcap⊢;have hs1:∀w:World,(Pp 22 (.slice (some ⟨sb,so,none⟩) 97 cap) none (some (.int .i64 33)) none).run prog w=.ok (.slice (some ⟨sb,so,none⟩) 33 cap) w:=fun w=>by
   have h1:(33:Int)<=cap:=by omega
   go_simp
  have hs2:∀w:World,(Pp 22 (.slice (some ⟨sb,so,none⟩) 97 cap) (some (.int .i64 33)) none none).run prog w=.ok (.slice (some ⟨sb,so+33,none⟩) 64 (cap-33)) w:=fun w=>by
   have h1:(97:Int)<=cap:=by omega
   have h2:¬cap=33:=by omega
   go_simp
  have HH:Hid (Holds encB w sb so bs/\bs.size=97):=⟨hH,h64⟩
  clear hH h64;go_enter Tryz.func35,Tryz.ntmps35;go_wp2_with fail
  refine(nR sb so 33 cap 33 (by decide) w).mono ?_;rintro e w1 ⟨v1,rfl,rfl,hw1⟩;obtain⟨h1,h2,h3,h4⟩:=lA w (.slice (some ⟨sb,so,none⟩) 33 cap) (.int .i64 33) 22 3;have hw1':w1=(w.alloc (.cells #[.slice (some ⟨sb,so,none⟩) 33 cap] 22)).alloc (.cells #[.int .i64 33] 3):=hw1;rw[<-hw1']at h1 h2 h3 h4;clear hw1 hw1';have hcl:=nQ sb so 33 1 33 cap w1 (by decide) rfl (by decide) (by omega) (by decide) w.heap.size (by omega) h3 h4;clear h3 h4;go_wp2_with fail
  refine hcl.mono ?_;rintro e w2 ⟨v2,rfl,hb2,hr2,-⟩;obtain⟨g2,c2,rfl,hg2,hl2,hc2⟩:=lI hr2 (by decide);have H2:Hid (Below w.heap.size w w2):=h1.trans (hb2.mono h1.size);clear h1 h2 hcl hb2 hg2 hr2;have HP:Hid (g2<w2.heap.size/\∀j,j<1->∃v,w2.cell? ⟨g2,j,none⟩=some v/\Arg33 w2 v (bs.extract 0 33)):=by
   refine⟨hl2,fun j hj=>⟨chv sb so 33 j,?_,?_⟩⟩
   ·rw[hc2 j hj,PD,QT hj];rfl
   ·have hsz:=HH.out.2;obtain rfl:j=0:=by omega
    refine⟨_,33,33,rfl,by rw[Po];omega,fun _=>⟨sb,so+33*0,rfl,Oh _,Oi hlt H2.out.size,?_⟩⟩;have hH2:Holds encB w2 sb so bs:=Holds.below HH.out.1 H2.out hlt;exact eK 0 33 hH2 (by omega)
  clear hl2 hc2;go_wp2_with fail
  refine(Gc C g2 1 c2 (by decide) (fun _=>bs.extract 0 33) w2 HP.out.1 HP.out.2).mono ?_;clear HP;rintro e w3 ⟨v3,rfl,hb3,hR3⟩;have H3:Hid (Below w.heap.size w w3):=H2.out.trans (hb3.mono H2.out.size);have HS:Hid (w.heap.size<=w2.heap.size):=H2.out.size;clear hb3 H2;obtain⟨qv,okp,rfl,HP⟩:∃qv okp,v3=.tuple #[qv,.bool okp]/\Hid (okp=(rd P (bs.extract 0 33)).isSome/\(okp=true->∃K,qv=.slice (some ⟨K,0,none⟩) 1 1/\w.heap.size<=K/\K<w3.heap.size/\w3.there K 0 33/\w3.rangeAt K 0 (aD (bs.extract 0 33)))):=by
   rcases hR3 with⟨h1,K,rfl,h3,h4,h5,h6⟩|⟨⟨j,hj,h1⟩,rfl⟩
   ·obtain⟨p,hp⟩:=h1 0 (by decide);exact⟨_,true,rfl,by rw[hp];rfl,fun _=>⟨K,rfl,OM HS.out h3,h4,h5,h6 0 (by decide)⟩⟩
   ·exact⟨_,false,rfl,by rw[h1];rfl,fun h=>by cases h⟩
  clear hR3;go_wp2_with fail
  refine(nR sb (so+33) 64 (cap-33) 32 (by decide) w3).mono ?_;rintro e w4 ⟨v4,rfl,rfl,hw4⟩;obtain⟨h1,h2,h3,h4⟩:=lA w3 (.slice (some ⟨sb,so+33,none⟩) 64 (cap-33)) (.int .i64 32) 22 3;have hw4':w4=(w3.alloc (.cells #[.slice (some ⟨sb,so+33,none⟩) 64 (cap-33)] 22)).alloc (.cells #[.int .i64 32] 3):=hw4;rw[<-hw4']at h1 h2 h3 h4;clear hw4 hw4';have hcl:=nQ sb (so+33) 32 2 64 (cap-33) w4 (by decide) rfl (by decide) (by omega) (by decide) w3.heap.size (by omega) h3 h4;clear h3 h4;go_wp2_with fail
  refine hcl.mono ?_;rintro e w5 ⟨v5,rfl,hb5,hr5,-⟩;obtain⟨g5,c5,rfl,hg5,hl5,hc5⟩:=lI hr5 (by decide);have H35:Hid (Below w3.heap.size w3 w5):=h1.trans (hb5.mono h1.size);have H5:Hid (Below w.heap.size w w5):=H3.out.trans (H35.out.mono H3.out.size);clear h1 h2 hcl hb5 hg5 hr5 H3;have HA:Hid (Args w5 (some ⟨g5,0,none⟩) 2 (fun j=>bs.extract (33+32*j) (33+32*j+32))):=fun _=>by
   refine⟨g5,rfl,hl5,fun j hj=>⟨chv sb (so+33) 32 j,?_,?_⟩⟩
   ·rw[hc5 j hj,PD,QT hj];rfl
   ·have hsz:=HH.out.2;refine⟨_,32,32,rfl,by rw[Po];omega,fun _=>⟨sb,so+33+32*j,rfl,Oh _,Oi hlt H5.out.size,?_⟩⟩;have hH5:Holds encB w5 sb so bs:=Holds.below HH.out.1 H5.out hlt;have:=eK (33+32*j) 32 hH5 (by omega);rwa[<-Qa]at this
  clear hl5 hc5;go_wp2_with fail
  refine(qR O 2 c5 (by decide) (some ⟨g5,0,none⟩) _ w5 HA.out).mono ?_;have HN:Hid (w.heap.size<=w5.heap.size):=H5.out.size;rintro e w6 ⟨v6,rfl,⟨hno,hb6,rfl⟩|⟨hall,k6,C6,hM6,hRo,rfl⟩⟩
  ·have H6:Hid (Below w.heap.size w w6/\fE P N bs=false):=by
    refine⟨H5.out.trans (hb6.mono HN.out),?_⟩;obtain⟨j,hj,hq⟩:=hno;unfold fE;have hj2:j=0\/j=1:=by omega
    rcases hj2 with rfl|rfl
    ·have hq':rq N (bs.extract 33 65)=none:=hq;rw[hq'];simp
    ·have hq':rq N (bs.extract 65 97)=none:=hq;rw[hq'];simp
   clear hno hb6 H5 HA HH HP H35;cases okp
   ·go_wp2;refine bodyPost_ret (v:=.tuple #[qv,.slice none 0 0,.bool false]) (bW (a:=⟨_,_⟩) 6 7 8 rfl _ _ _ rfl rfl rfl) rfl ?_;exact⟨_,rfl,H6.out.1,OC ⟨H6.out.2,_,_,rfl⟩⟩
   ·go_wp2;refine bodyPost_ret (v:=.tuple #[qv,.slice none 0 0,.bool false]) (bW (a:=⟨_,_⟩) 6 7 8 rfl _ _ _ rfl rfl rfl) rfl ?_;exact⟨_,rfl,H6.out.1,OC ⟨H6.out.2,_,_,rfl⟩⟩
  ·cases okp
   ·have H6:Hid (Below w.heap.size w w6/\fE P N bs=false):=by
     refine⟨H5.out.trans (hM6.bel.mono HN.out),?_⟩;unfold fE;rw[<-HP.out.1];simp
    clear hall hM6 hRo H5 HA HH HP H35;go_wp2;refine bodyPost_ret (v:=.tuple #[qv,.slice (some ⟨k6,0,none⟩) 2 2,.bool false]) (bW (a:=⟨_,_⟩) 6 7 8 rfl _ _ _ rfl rfl rfl) rfl ?_;exact⟨_,rfl,H6.out.1,OC ⟨H6.out.2,_,_,rfl⟩⟩
   ·obtain⟨K,rfl,hK1,hK2,hK3,hK4⟩:=HP.out.2 rfl;have H6:Hid (JD P N w bs (.tuple #[.slice (some ⟨K,0,none⟩) 1 1,.slice (some ⟨k6,0,none⟩) 2 2,.bool true]) w6):=by
     have q0:(rq N (bs.extract 33 65)).isSome=true:=hall 0 (by decide);have q1:(rq N (bs.extract 65 97)).isSome=true:=hall 1 (by decide);have h36:Below w3.heap.size w3 w6:=H35.out.trans (hM6.bel.mono H35.out.size);refine⟨H5.out.trans (hM6.bel.mono HN.out),OQ ⟨?_,K,k6,rfl,hK1,Oi hK2 (OM H35.out.size hM6.le),hM6.lt,RG.aN hK4 h36 hK2,RG.dC hK3 h36 hK2,?_,?_⟩⟩
     ·unfold fE;rw[q0,q1,HH.out.2,<-HP.out.1];rfl
     ·have hC:=Jf hRo (fun _=>rfl);rw[<-Aq q0,<-Aq q1];have:=hM6.range;rw[hC]at this;exact this
     ·have hC:=hRo.len;have:=hM6.there;rw[hC]at this;exact this
    clear hall hM6 hRo H5 HA HH HP H35 hK1 hK2 hK3 hK4;go_wp2;refine bodyPost_ret (v:=.tuple #[.slice (some ⟨K,0,none⟩) 1 1,.slice (some ⟨k6,0,none⟩) 2 2,.bool true]) (bW (a:=⟨_,_⟩) 6 7 8 rfl _ _ _ rfl rfl rfl) rfl ?_;exact⟨_,rfl,H6.out⟩
 ·have hne:((bs.size:Int) == 97)=false:=by simpa using(by omega:¬(bs.size:Int)=97)
  have HT:Hid (fE P N bs=false):=by show _=_;unfold fE;rw[decide_eq_false h64];rfl
  have h64':¬(bs.size:Int)=97:=by omega
  go_enter Tryz.func35,Tryz.ntmps35;go_wp2;refine bodyPost_ret (v:=.tuple #[.slice none 0 0,.slice none 0 0,.bool false]) (bW (a:=⟨_,_⟩) 6 7 8 rfl _ _ _ rfl rfl rfl) rfl ?_;exact⟨_,rfl,Ow _ _,OC ⟨HT.out,_,_,rfl⟩⟩
end
section
open Go.RowKit Go.Sort Go.Deep
variable {P:Nat}[NeZero P]{N:Nat}
theorem E5(O:Ord N){n:Nat}(hn:n<N):nuV (bx n)=n:=(xO (rG O hn)).symm
theorem eqO{a b:Bs}(ha:a.size=33)(hb:b.size=33)(w:World):(binOp .eql 47 (pvl a) (pvl b)).run prog w=.ok (.bool (decide (a=b))) w:=by
 have h:=MD ha hb w;have h2:(binOp .eql 47 (pvl a) (pvl b)).run prog w=(Op.equal 47 (pvl a) (pvl b) >>= fun b=>pure (Uf b)).run prog w:=rfl;rw[h2,OG];unfold pvl;rw[h];rfl
section
variable (w:World) (k5 K k k10 z t c B0:Nat) (A F S R:Bs)
def RV5:Nat->Value->World->Prop
 | 0,v,_=>v=pvl A
 | 1,v,_=>v=.slice (some ⟨K,0,none⟩) 1 1
 | 2,v,_=>v=.pointer (some ⟨K,0,none⟩)
 | 3,v,_=>v=pvl F
 | 4,v,_=>v=nv c
 | 5,v,W=>Nw B0 [.int .u64 0,.int .u64 0,.int .u64 0,.int .u64 0] v W
 | _,_,_=>True
def GV5:RG.Gw:=⟨RV5 K c B0 A F,fun W=>Kp w W [(k,wn z++wn t),(K,aD F),(k5,aD A)]/\B0<=W.heap.size,fun i v W W' hb h=>by
 match i,h with
 | 0,h|1,h|2,h|3,h|4,h=>exact h
 | 5,h=>exact Nw.grow h hb
 | _+6,_=>trivial,fun W W' hb h=>⟨h.1.grow hb,OM h.2 hb.size⟩⟩
def RV6:Nat->Value->World->Prop
 | 0,v,_=>v=.slice (some ⟨k,0,none⟩) 2 2
 | 1,v,_=>v=.pointer (some ⟨k,0,none⟩)
 | 2,v,_=>v=nv z
 | 3,v,_=>v=.slice (some ⟨k,0,none⟩) 2 2
 | 4,v,_=>v=.pointer (some ⟨k,4,none⟩)
 | 5,v,_=>v=nv t
 | 6,v,_=>v=pvl S
 | 7,v,_=>v=.slice (some ⟨K,0,none⟩) 1 1
 | 8,v,_=>v=.pointer (some ⟨K,0,none⟩)
 | 9,v,_=>v=pvl F
 | 10,v,_=>v=nv 1
 | 11,v,W=>Sm B0 W v [(1,F)]
 | 12,v,_=>v=pvl A
 | 13,v,_=>v=nv c
 | 14,v,W=>Sm B0 W v [(c,A)]
 | 15,v,W=>∃B',Sm B' W v [(1,F),(c,A)]
 | 16,v,_=>v=pvl R
 | 17,v,_=>v=.bool (decide (S=R))
 | 18,v,_=>v=.bool (decide (S=R))
 | _,_,_=>True
def GV6:RG.Gw:=⟨RV6 K k z t c B0 A F S R,fun W=>Kp w W [(k10,wn c),(k,wn z++wn t),(K,aD F),(k5,aD A)]/\B0<=W.heap.size,fun i v W W' hb h=>by
 match i,h with
 | 0,h|1,h|2,h|3,h|4,h|5,h|6,h|7,h|8,h|9,h|10,h|12,h|13,h|16,h|17,h|18,h=>exact h
 | 11,h|14,h=>exact Sm.grow h hb
 | 15,h=>obtain⟨B',h⟩:=h;exact⟨B',Sm.grow h hb⟩
 | _+19,_=>trivial,fun W W' hb h=>⟨h.1.grow hb,OM h.2 hb.size⟩⟩
end
theorem KZ{F Z T:Bs}(hF:F.size=33)(hZ:Z.size=32)(hT:T.size=32):(F++(Z++T)).extract 0 33=F/\(F++(Z++T)).extract 33 65=Z/\(F++(Z++T)).extract 65 97=T:=by
 have h97:(F++(Z++T)).size=97:=by rw[ON,ON,hF,hZ,hT]
 refine⟨?_,?_,?_⟩
 ·apply Tk
  ·rw[Po,h97,hF];rfl
  ·intro i q1 q2;rw[Rj,RP (by omega)];simp
 ·apply Tk
  ·rw[Po,h97,hZ];rfl
  ·intro i q1 q2;rw[Rj,Ry (by omega),RP (by omega)];simp[hF]
 ·apply Tk
  ·rw[Po,h97,hT];rfl
  ·intro i q1 q2;rw[Rj,Ry (by omega),Ry (by omega)]
   congr 1
   omega
theorem GA(C:Fld P)(O:Ord N)(hord:∀r:EC.Pt P,EC.On r->EC.mul N r=none)(p0 p1:Option Addr)(n0 c0 n1 c1:Nat)(X Y:EC.Pt P)(hX:EC.On X)(hY:EC.On Y)(z t c:Nat)(hzN:z<N)(htN:t<N)(hN1:1<N)(hc:aop N (wr X).toList (wr Y).toList=c)(w:World)(h0:Arg33 w (.slice p0 n0 c0) (wr X))(h1:SP.PartOk w (.slice p1 n1 c1) (wr Y++(bx z++bx t)).toList):
 Calls prog 7 #[.slice p0 n0 c0,.slice p1 n1 c1] w (Ret fun e w'=>Below w.heap.size w w'/\e=.bool (decide (wr (cmt P z t)=wr (EC.add Y (EC.mul c X))))):=by
 obtain⟨px,hpx,-⟩:=uD C hX;obtain⟨py,hpy,-⟩:=uD C hY;obtain⟨e1,e2,e3⟩:=KZ (bO Y) (bM z) (bM t);have hcN:c<N:=by rw[<-hc];exact wX O _ _
 have HR:=Hid.mk' (wR C (.slice p0 n0 c0) (wr X) px w h0 hpx);have hT:fE P N (wr Y++(bx z++bx t))=true:=by
  unfold fE;rw[e1,e2,e3,hpy,rG O hzN,rG O htN,ON,ON,bO,bM,bM];rfl
 have HRp:Hid (∀W,Below w.heap.size w W->Calls prog 35 #[.slice p1 n1 c1,.int .i64 1,.int .i64 2] W (Ret fun e w'=>Below W.heap.size W w'/\∃K k,e=.tuple #[.slice (some ⟨K,0,none⟩) 1 1,.slice (some ⟨k,0,none⟩) 2 2,.bool true]/\W.heap.size<=K/\K<k/\k<w'.heap.size/\w'.rangeAt K 0 (aD (wr Y))/\w'.there K 0 33/\w'.rangeAt k 0 (wn z++wn t)/\w'.there k 0 8)):=fun W hb=>by
  refine(lX C O _ _ W (h1.below hb)).mono ?_;rintro e w' ⟨u,rfl,hb',⟨-,K,k,rfl,q1,q2,q3,q4,q5,q6,q7⟩|⟨hf,-⟩⟩
  ·rw[e1]at q4;rw[e2,e3,E5 O hzN,E5 O htN]at q6;exact⟨_,rfl,hb',K,k,rfl,q1,q2,q3,q4,q5,q6,q7⟩
  ·rw[hT]at hf;cases hf
 have HQ:=Hid.mk' (BR O (wr X) (wr Y) (bO _) (bO _));rw[hc]at HQ;have HCm:=Hid.mk' (pG C O hzN htN);have hsum:gK P [(1,wr Y),(c,wr X)]=EC.add Y (EC.mul c X):=by
  show EC.add (EC.mul 1 (fH P (wr Y))) (EC.add (EC.mul c (fH P (wr X))) none)=_;rw[iY C hY,iY C hX,show EC.mul 1 Y=Y from EC.eB _,C.cur.comm (EC.cJ C.cur hX c) EC.fP];rfl
 have HPt:Hid (∀(B':Nat) (W:World) (v:Value),Sm B' W v [(1,wr Y),(c,wr X)]->Calls prog 39 #[v] W (Ret fun e w'=>Below W.heap.size W w'/\e=pvl (wr (EC.add Y (EC.mul c X))))):=fun B' W v h=>by
  rw[<-hsum];refine h.point C O hord (UH _) (by show 2<=512;omega) (fun q hq=>?_) (fun q hq=>?_)
  ·simp only[Pg,OD,or_false]at hq;rcases hq with rfl|rfl
   ·exact hN1
   ·exact hcN
  ·simp only[Pg,OD,or_false]at hq;rcases hq with rfl|rfl
   ·exact⟨Y,hY,rfl⟩
   ·exact⟨X,hX,rfl⟩
 have HS:Hid ((wr X).size=33/\(wr Y).size=33/\(wr (cmt P z t)).size=33/\(wr (EC.add Y (EC.mul c X))).size=33):=⟨bO _,bO _,bO _,bO _⟩
 clear hc h0 h1 hpx hpy e1 e2 e3 hT hsum hcN;generalize wr (EC.add Y (EC.mul c X))=R at HPt HS⊢;generalize wr (cmt P z t)=S at HCm HS⊢;generalize wr X=A at HR HQ HPt HS;generalize wr Y=F at HRp HQ HPt HS;clear C O hord hX hY hzN htN;obtain⟨vA,hvA⟩:∃v,Hid (pvl A=v):=⟨_,rfl⟩
 rw[hvA.out]at HR;have hlA:(aD A).length=33:=aM HS.out.1;have hlF:(aD F).length=33:=aM HS.out.2.1;have HI:Hid ((prog.info? 47).map (·.size)=some (aD A).length/\(prog.info? 47).map (·.size)=some (aD F).length):=by
  rw[hlA,hlF];exact⟨cK,cK⟩
 go_enter Tryz.func7,Tryz.ntmps7;go_wp2_with fail
 refine HR.out.mono ?_;rintro e w1 ⟨u,rfl,hb1,rfl⟩;obtain⟨w2,hw2⟩:∃w2,Hid (w1.alloc (.cells z33.toArray 47)=w2):=⟨_,rfl⟩
 obtain⟨k5,hk5⟩:∃k,Hid (w1.heap.size=k):=⟨_,rfl⟩
 obtain⟨w3,hw3⟩:∃w3,Hid (w2.setCells k5 0 (aD A)=w3):=⟨_,rfl⟩
 have F2:Hid (Row w2 k5 z33/\Below w.heap.size w w2/\w.heap.size<=k5):=by
  rw[<-hw2.out,<-hk5.out];exact⟨aO w1 _ _,hb1.alloc hb1.size _,hb1.size⟩
 have K3:Hid (Kp w w3 [(k5,aD A)]):=by
  rw[<-hw3.out];exact⟨RG.below_setCells F2.out.2.2 _ _ _ F2.out.2.1,fun q hq=>by rw[show q=(k5,aD A) by simpa using hq];exact F2.out.1.put (by rw[hlA];rfl)⟩
 have HJ:Hid (w2.there k5 0 (aD A).toArray.size/\(prog.info? 47).map (·.size)=some (aD A).toArray.size):=by
  have e:(aD A).toArray.size=33:=by rw[O4];exact hlA
  rw[e];exact⟨F2.out.1.2.2,cK⟩
 clear hb1 HR hlA hlF;go_wp2_with (first|(refine bJ (v:=.pointer (some ⟨k5,0,none⟩)) (w':=w2) rfl (.alloc 47) rfl ?_ ?_;(rw[<-hw2.out,<-hk5.out];kernel_rfl))|(refine wpList_store_mid rfl 47 _ _ rfl k5 0 (aD A).toArray ?_ ?_ ?_ ?_ ?_ ?_;rfl;exact hvA.out.symm;exact HJ.out.1;exact HJ.out.2;exact fD A;rw[show(aD A).toArray.toList=aD A from rfl,hw3.out])|fail)
 clear hw2 hw3 hk5 F2 HJ;refine(HRp.out w3 K3.out.bl).mono ?_;rintro e w4 ⟨u,rfl,hb4,K,k,rfl,q1,q2,q3,q4,q5,q6,q7⟩;have K4:Hid (Kp w w4 [(k,wn z++wn t),(K,aD F),(k5,aD A)]):=by
  have h3:=K3.out.grow hb4;refine⟨h3.bl,fun q hq=>?_⟩;simp only[Pg,OD,or_false]at hq;rcases hq with rfl|rfl|rfl
  ·exact⟨q3,q6,q7⟩
  ·exact⟨by show K<_;omega,q4,by have e:(aD F).length=33:=aM HS.out.2.1;rw[e];exact q5⟩
  ·exact h3.at 0 rfl
 clear hb4 q1 q2 q3 q4 q5 q6 q7 K3 HRp;go_wp2_with fail
 refine(GV5 w k5 K k z t c w4.heap.size A F).last 6 (by kernel_rfl) (by kernel_rfl) (by kernel_rfl) ⟨
  RG.bU 47 5 rfl uCP fun a W hp=>⟨k5,0,aD A,hp.o 5 (by kernel_rfl),(hp.b.1.at 2 rfl).2.1,HI.out.1,rfl⟩,
  RG.aY fun a W hp=>⟨[(7,.slice (some ⟨K,0,none⟩) 1 1)],.slice (some ⟨K,0,none⟩) 1 1,W,⟨hp.o 7 (by kernel_rfl),trivial⟩,by kernel_rfl,Ow _ _,rfl⟩,
  RG.aY fun a W hp=>⟨[(29,.slice (some ⟨K,0,none⟩) 1 1)],.pointer (some ⟨K,0,none⟩),W,⟨hp.n 1 29 (by kernel_rfl) (by kernel_rfl),trivial⟩,by kernel_rfl,Ow _ _,rfl⟩,
  RG.bU 47 30 rfl uCP fun a W hp=>⟨K,0,aD F,hp.n 2 30 (by kernel_rfl) (by kernel_rfl),(hp.b.1.at 1 rfl).2.1,HI.out.2,rfl⟩,
  RG.b9 fun a W hp=>⟨[(28,pvl A),(31,pvl F)],21,#[pvl A,pvl F],⟨hp.n 0 28 (by kernel_rfl) (by kernel_rfl),hp.n 3 31 (by kernel_rfl) (by kernel_rfl),trivial⟩,by kernel_rfl,by
   refine(HQ.out W).mono ?_;rintro e W' ⟨u,rfl,hb,rfl⟩;exact⟨_,rfl,hb,rfl⟩⟩,
  RG.aY fun a W hp=>⟨[],.pointer (some ⟨W.heap.size,0,none⟩),W.alloc (.cells #[.int .u64 0,.int .u64 0,.int .u64 0,.int .u64 0] 43),trivial,by kernel_rfl,aH _ _,W.heap.size,rfl,hp.b.2,aO W _ _⟩,trivial⟩ ⟨K4.out.drew,Oh _⟩ ?_
 intro V we hRe hBe;obtain⟨k10,hk10,hk10b,hk10r⟩:=show Nw w4.heap.size [.int .u64 0,.int .u64 0,.int .u64 0,.int .u64 0] (V 5) we from hRe 5 (by decide)
 have hV4:V 4=nv c:=hRe 4 (by decide);dsimp only[RG.gP,QL,VD,VE];obtain⟨vc,hvc⟩:∃v,Hid (nv c=v):=⟨_,rfl⟩
 rw[hk10,hV4,hvc.out];generalize V 0=s0;generalize V 1=s1;generalize V 2=s2;generalize V 3=s3;obtain⟨wf,hwf⟩:∃wf,Hid (we.setCells k10 0 (wn c)=wf):=⟨_,rfl⟩
 have HBe:Hid (Kp w we [(k,wn z++wn t),(K,aD F),(k5,aD A)]/\w4.heap.size<=we.heap.size):=hBe;have Kf:Hid (Kp w wf [(k10,wn c),(k,wn z++wn t),(K,aD F),(k5,aD A)]):=by
  rw[<-hwf.out];refine HBe.out.1.put hk10r rfl (OM K4.out.bl.size hk10b) fun q hq=>?_
  have h8:=(K4.out.rw q hq).1;omega
 have HJ:Hid (we.there k10 0 [Pi .u64 0,.int .u64 0,.int .u64 0,.int .u64 0].length):=hk10r.2.2;clear hRe hBe hk10 hk10b hk10r hV4 HBe K4 V HQ;simp only[Pk,OL,Pd,Pf];go_wp2_with (first|(refine wpList_store_mid rfl 43 _ _ rfl k10 0 (wn c).toArray ?_ ?_ ?_ ?_ ?_ ?_;rfl;exact hvc.out.symm;exact HJ.out;exact i40;exact fF c;rw[show(wn c).toArray.toList=wn c from rfl,hwf.out])|fail)
 clear hwf HJ;obtain⟨B0,hB0⟩:∃B0,Hid (wf.heap.size=B0):=⟨_,rfl⟩
 refine(GV6 w k5 K k k10 z t c B0 A F S R).draws (by kernel_rfl) (by kernel_rfl) ⟨
  RG.aY fun a W hp=>⟨[(8,.slice (some ⟨k,0,none⟩) 2 2)],.slice (some ⟨k,0,none⟩) 2 2,W,⟨hp.o 8 (by kernel_rfl),trivial⟩,by kernel_rfl,Ow _ _,rfl⟩,
  RG.aY fun a W hp=>⟨[(33,.slice (some ⟨k,0,none⟩) 2 2)],.pointer (some ⟨k,0,none⟩),W,⟨hp.n 0 33 (by kernel_rfl) (by kernel_rfl),trivial⟩,by kernel_rfl,Ow _ _,rfl⟩,
  RG.bU 43 34 rfl u40 fun a W hp=>⟨k,0,wn z,hp.n 1 34 (by kernel_rfl) (by kernel_rfl),dS (hp.b.1.at 1 rfl).2.1,i40,rfl⟩,
  RG.aY fun a W hp=>⟨[(8,.slice (some ⟨k,0,none⟩) 2 2)],.slice (some ⟨k,0,none⟩) 2 2,W,⟨hp.o 8 (by kernel_rfl),trivial⟩,by kernel_rfl,Ow _ _,rfl⟩,
  RG.aY fun a W hp=>⟨[(36,.slice (some ⟨k,0,none⟩) 2 2)],.pointer (some ⟨k,4,none⟩),W,⟨hp.n 3 36 (by kernel_rfl) (by kernel_rfl),trivial⟩,by kernel_rfl,Ow _ _,rfl⟩,
  RG.bU 43 37 rfl u40 fun a W hp=>⟨k,4,wn t,hp.n 4 37 (by kernel_rfl) (by kernel_rfl),eJ (xs:=wn z) (hp.b.1.at 1 rfl).2.1,i40,rfl⟩,
  RG.b9 fun a W hp=>⟨[(35,nv z),(38,nv t)],20,#[nv z,nv t],⟨hp.n 2 35 (by kernel_rfl) (by kernel_rfl),hp.n 5 38 (by kernel_rfl) (by kernel_rfl),trivial⟩,by kernel_rfl,by
   refine(HCm.out W).mono ?_;rintro e W' ⟨u,rfl,hb,rfl⟩;exact⟨_,rfl,hb,rfl⟩⟩,
  RG.aY fun a W hp=>⟨[(7,.slice (some ⟨K,0,none⟩) 1 1)],.slice (some ⟨K,0,none⟩) 1 1,W,⟨hp.o 7 (by kernel_rfl),trivial⟩,by kernel_rfl,Ow _ _,rfl⟩,
  RG.aY fun a W hp=>⟨[(40,.slice (some ⟨K,0,none⟩) 1 1)],.pointer (some ⟨K,0,none⟩),W,⟨hp.n 7 40 (by kernel_rfl) (by kernel_rfl),trivial⟩,by kernel_rfl,Ow _ _,rfl⟩,
  RG.bU 47 41 rfl uCP fun a W hp=>⟨K,0,aD F,hp.n 8 41 (by kernel_rfl) (by kernel_rfl),(hp.b.1.at 2 rfl).2.1,HI.out.2,rfl⟩,
  RG.b9 fun a W hp=>⟨[],37,#[.int .u64 1],trivial,by kernel_rfl,by
   refine(Me W).mono ?_;rintro e W' ⟨u,rfl,hb,rfl⟩;exact⟨_,rfl,hb,rfl⟩⟩,
  RG.b9 fun a W hp=>⟨[(42,pvl F),(43,nv 1)],36,#[pvl F,nv 1],⟨hp.n 9 42 (by kernel_rfl) (by kernel_rfl),hp.n 10 43 (by kernel_rfl) (by kernel_rfl),trivial⟩,by kernel_rfl,by
   refine(uJ F HS.out.2.1 1 W).mono ?_;rintro e W' ⟨u,rfl,hb,k',rfl,hk1,hk2⟩;exact⟨_,rfl,hb,Sm.one hk2 (OM hp.b.2 hk1) rfl⟩⟩,
  RG.bU 47 5 rfl uCP fun a W hp=>⟨k5,0,aD A,hp.o 5 (by kernel_rfl),(hp.b.1.at 3 rfl).2.1,HI.out.1,rfl⟩,
  RG.bU 43 10 rfl u40 fun a W hp=>⟨k10,0,wn c,hp.o 10 (by kernel_rfl),(hp.b.1.at 0 rfl).2.1,i40,rfl⟩,
  RG.b9 fun a W hp=>⟨[(45,pvl A),(46,nv c)],36,#[pvl A,nv c],⟨hp.n 12 45 (by kernel_rfl) (by kernel_rfl),hp.n 13 46 (by kernel_rfl) (by kernel_rfl),trivial⟩,by kernel_rfl,by
   refine(uJ A HS.out.1 c W).mono ?_;rintro e W' ⟨u,rfl,hb,k',rfl,hk1,hk2⟩;exact⟨_,rfl,hb,Sm.one hk2 (OM hp.b.2 hk1) rfl⟩⟩,
  RG.b9 fun a W hp=>⟨[(44,a.eval (.tmp 44)),(47,a.eval (.tmp 47))],38,#[a.eval (.tmp 44),a.eval (.tmp 47)],⟨rfl,rfl,trivial⟩,by kernel_rfl,by
   have h1:=show Sm B0 W (a.eval (.tmp 44)) [(1,F)] from hp.n 11 44 (by kernel_rfl) (by kernel_rfl)
   have h2:=show Sm B0 W (a.eval (.tmp 47)) [(c,A)] from hp.n 14 47 (by kernel_rfl) (by kernel_rfl)
   refine(C9 B0 _ _ [(1,F)] [(c,A)] (UH _) (by show 1<=500;omega) (by show 1<=500;omega) (fun q hq=>by rw[show q=(1,F) by simpa using hq];exact HS.out.2.1) (fun q hq=>by rw[show q=(c,A) by simpa using hq];exact HS.out.1) W h1 h2).mono ?_;rintro e W' ⟨u,rfl,hb,hs⟩;exact⟨_,rfl,hb,W.heap.size,hs⟩⟩,
  RG.b9 fun a W hp=>⟨[(48,a.eval (.tmp 48))],39,#[a.eval (.tmp 48)],⟨rfl,trivial⟩,by kernel_rfl,by
   obtain⟨B',hs⟩:=show ∃B',Sm B' W (a.eval (.tmp 48)) [(1,F),(c,A)] from hp.n 15 48 (by kernel_rfl) (by kernel_rfl)
   refine(HPt.out B' W _ hs).mono ?_;rintro e W' ⟨u,rfl,hb,rfl⟩;exact⟨_,rfl,hb,rfl⟩⟩,
  RG.KL .eql 47 47 39 49 rfl fun a W hp=>⟨_,_,_,hp.n 6 39 (by kernel_rfl) (by kernel_rfl),hp.n 16 49 (by kernel_rfl) (by kernel_rfl),by kernel_rfl,eqO HS.out.2.2.1 HS.out.2.2.2 W,rfl⟩,
  RG.aY fun a W hp=>⟨[(50,.bool (decide (S=R)))],.bool (decide (S=R)),W,⟨hp.n 17 50 (by kernel_rfl) (by kernel_rfl),trivial⟩,by kernel_rfl,Ow _ _,rfl⟩,trivial⟩ ⟨Kf.out.drew,by rw[<-hB0.out];exact Oh _⟩ ?_
 intro V wg hRg hBg;have hV18:V 18=.bool (decide (S=R)):=hRg 18 (Qx (PH (by kernel_rfl)));have HBg:Hid (Below w.heap.size w wg):=hBg.1.bl;dsimp only[RG.gP,QL];simp only[Pk,OL,Pd,Pf];rw[hV18];clear hRg hBg Kf;go_wp2;go_ret;exact⟨_,rfl,HBg.out,rfl⟩
end
section
open Go.RowKit Go.Sort Go.Deep
variable {P:Nat}[NeZero P]{N:Nat}
noncomputable def poV (N:Nat) (sk rb:Bs):Nat:=chL N Dy.data.toList [sk.toList,rb.toList]
noncomputable def poB (N:Nat) (sk rb:Bs):Nat:=chL N DC.data.toList [sk.toList,rb.toList]
noncomputable def poC (P:Nat) [NeZero P] (N:Nat) (sk rb:Bs):Nat:=aop N (wr (cmt P (nuV sk) (nuV rb))).toList (wr (cmt P (poV N sk rb) (poB N sk rb))).toList
noncomputable def poZ (P:Nat) [NeZero P] (N:Nat) (sk rb:Bs):Nat:=sPl N (poV N sk rb) (sTi N (poC P N sk rb) (nuV sk))
noncomputable def poW (P:Nat) [NeZero P] (N:Nat) (sk rb:Bs):Nat:=sPl N (poB N sk rb) (sTi N (poC P N sk rb) (nuV rb))
noncomputable def poT (P:Nat) [NeZero P] (N:Nat) (sk rb:Bs):Bs × Int:=if (rq N sk).isSome then if (rq N rb).isSome then(wr (cmt P (poV N sk rb) (poB N sk rb))++(bx (poZ P N sk rb)++bx (poW P N sk rb)),0) else(#[],3) else(#[],3)
theorem chO(O:Ord N)(lab sk b:ByteArray)(hl:lab.size<=16)(hsk:sk.size<=4096)(hb:b.size<=4096)(g:Nat)(w':World)(h:w'.rangeAt g 0 [.string sk,.string b]/\g<w'.heap.size):Calls prog 27 #[.string lab,.slice (some ⟨g,0,none⟩) 2 2] w' (Ret fun e w''=>Below w'.heap.size w' w''/\e=nv (chL N lab.data.toList [sk.data.toList,b.data.toList])):=by
 refine Do O lab (some ⟨g,0,none⟩) 2 [sk,b] w' (by omega) (PH rfl) (OC ⟨g,0,rfl,fun j hj=>?_⟩) (fun j hj=>?_) ?_
 ·have hj2:j=0\/j=1:=by simp at hj;omega
  rcases hj2 with rfl|rfl
  ·exact h.1 0 _ rfl
  ·exact h.1 1 _ rfl
 ·have hj2:j=0\/j=1:=by simp at hj;omega
  rcases hj2 with rfl|rfl
  ·show sk.size<=_;omega
  ·show b.size<=_;omega
 ·have h2:=SP.nM lab.data.toList ([sk,b].map fun s=>s.data.toList) 4096 (by rw[Ot];show lab.size<=_;omega) (fun p hp=>by
   simp only[List.map_cons,List.map_nil,Pg,OD,or_false]at hp;rcases hp with rfl|rfl
   ·rw[Ot];exact hsk
   ·rw[Ot];exact hb)
  refine OM h2 ?_;show(2+1)*(4096+4)<=1048576;decide
theorem L8(C:Fl3 P)(O:Ord N)(sk rb:ByteArray)(hsk:sk.size<=4096)(hrb:rb.size<=4096):Gives 6 #[.string sk,.string rb] (.tuple #[.string ⟨(poT P N sk.data rb.data).1⟩,.int .i64 (poT P N sk.data rb.data).2]):=by
 have hC1:=chO O Dy sk rb (by decide) hsk hrb;have hC2:=chO O DC sk rb (by decide) hsk hrb;have hv:poV N sk.data rb.data<N:=m6 O _;have hm:poB N sk.data rb.data<N:=m6 O _;have hcN:poC P N sk.data rb.data<N:=wX O _ _;have hz:poZ P N sk.data rb.data=sPl N (poV N sk.data rb.data) (sTi N (poC P N sk.data rb.data) (nuV sk.data)):=rfl;have ht:poW P N sk.data rb.data=sPl N (poB N sk.data rb.data) (sTi N (poC P N sk.data rb.data) (nuV rb.data)):=rfl;have hc:aop N (wr (cmt P (nuV sk.data) (nuV rb.data))).toList (wr (cmt P (poV N sk.data rb.data) (poB N sk.data rb.data))).toList=poC P N sk.data rb.data:=rfl;have lx:=nF sk.data;have ly:=nF rb.data;have qx:=fun h=>uB (N:=N) (bs:=sk.data) h
 have qy:=fun h=>uB (N:=N) (bs:=rb.data) h
 have hS0:=qI O sk;have hS1:=qI O rb;unfold poT;rw[show chL N Dy.data.toList [sk.data.toList,rb.data.toList]=poV N sk.data rb.data from rfl]at hC1;rw[show chL N DC.data.toList [sk.data.toList,rb.data.toList]=poB N sk.data rb.data from rfl]at hC2;generalize poV N sk.data rb.data=kv at hC1 hv hz hc⊢;generalize poB N sk.data rb.data=km at hC2 hm ht hc⊢;generalize poC P N sk.data rb.data=c at hcN hz ht hc⊢;generalize poZ P N sk.data rb.data=z at hz⊢;generalize poW P N sk.data rb.data=t at ht⊢;generalize nuV sk.data=x at hz hc lx qx hS0;generalize nuV rb.data=y at ht hc ly qy hS1;generalize (rq N sk.data).isSome=o0 at qx hS0⊢;generalize (rq N rb.data).isSome=o1 at qy hS1⊢;obtain⟨tf,ff,hCf⟩:=oS C kv km (Oi hv O.le) (Oi hm O.le);obtain⟨ta,fa,hCa⟩:=oS C x y lx ly;have zA:(wr (cmt P x y)).size=33:=bO _;have zF:(wr (cmt P kv km)).size=33:=bO _;have hWf:=rM C ff;have hWa:=rM C fa;have hOp:Gives 30 #[.string ⟨wr (cmt P x y)⟩,.string ⟨wr (cmt P kv km)⟩] (nv c):=by
  rw[<-hc];exact B7 O ⟨_⟩ ⟨_⟩ (by show(wr _).size<=_;rw[bO];decide) (by show(wr _).size<=_;rw[bO];decide)
 generalize wr (cmt P x y)=A at hWa hOp zA;generalize wr (cmt P kv km)=F at hWf hOp zF⊢;have hmain:=Ma (P:=P) sk rb x y kv km c (sTi N c x) (sTi N c y) z t o0 o1 ta tf A F (bx z) (bx t) hS0 hS1 (fun e0 e1=>⟨hC1,hC2,hCf,hWf,hCa,hWa,hOp,EU O hcN (qx e0),by rw[hz];exact EW O hv (O.ti _ _),EU O hcN (qy e1),by rw[ht];exact EW O hm (O.ti _ _),yC O (by rw[hz];exact O.pl _ _),yC O (by rw[ht];exact O.pl _ _),zF,bM _,bM _⟩);rw[Array.append_assoc]at hmain;generalize F++(bx z++bx t)=R at hmain⊢;cases o0<;>cases o1<;>exact hmain
theorem Ia(O:Ord N)(p0 p1:Option Addr)(n0 c0 n1 c1:Nat)(sk rb:Bs)(w:World)(hA:Arg w (.slice p0 n0 c0) sk)(hA1:Arg w (.slice p1 n1 c1) rb)(hno:¬((rq N sk).isSome=true/\(rq N rb).isSome=true)):
 Calls prog 5 #[.slice p0 n0 c0,.slice p1 n1 c1] w (Ret fun e w'=>Below w.heap.size w w'/\e=.tuple #[.slice none 0 0,.int .i64 3]):=by
 obtain⟨w1,hw1⟩:∃w1,Hid (w.alloc (.cells #[.slice p0 n0 c0,.slice p1 n1 c1] 22)=w1):=⟨_,rfl⟩
 have hb1:Below w.heap.size w w1:=by rw[<-hw1.out];exact aH _ _
 have hr:w1.rangeAt w.heap.size 0 [.slice p0 n0 c0,.slice p1 n1 c1]:=by rw[<-hw1.out];exact(RG.Made.alloc w [.slice p0 n0 c0,.slice p1 n1 c1] 22).range
 have hargs:Args w1 (some ⟨w.heap.size,0,none⟩) 2 (fun j=>if j=0 then sk else rb):=fun _=>⟨w.heap.size,rfl,by rw[<-hw1.out,Oo];omega,fun j hj=>by
  have h2:j=0\/j=1:=by omega
  have hc':=fun(j:Nat) (v:Value) (h:[(.slice p0 n0 c0),(.slice p1 n1 c1)][j]? = some v)=>hr j v h
  simp only[Om]at hc';rcases h2 with rfl|rfl
  ·exact⟨_,hc' 0 _ rfl,hA.below hb1⟩
  ·exact⟨_,hc' 1 _ rfl,hA1.below hb1⟩⟩
 have H:Hid (Calls prog 17 #[(.func (.func 18) #[] #[]),.slice (some ⟨w.heap.size,0,none⟩) 2 2] w1 (Ret fun e w'=>Below w1.heap.size w1 w'/\e=.tuple #[.slice none 0 0,.bool false])):=by
  refine(qR O 2 2 (by decide) _ _ w1 hargs).mono ?_;rintro e w'' ⟨v,rfl,⟨-,hb,rfl⟩|⟨hall,-⟩⟩
  ·exact⟨_,rfl,hb,rfl⟩
  ·exact absurd ⟨hall 0 (by omega),hall 1 (by omega)⟩ hno
 have HB:=Hid.mk' hb1;clear hb1 hr hargs hA hA1 hno O;go_enter Tryz.func5,Tryz.ntmps5;go_wp2_with fail
 rw[hw1.out];refine H.out.mono ?_;rintro e w2 ⟨u,rfl,hb2,rfl⟩;have K:Hid (Below w.heap.size w w2):=HB.out.trans (hb2.mono HB.out.size);clear hb2 H HB;go_wp2
 go_ret2
 exact⟨_,rfl,K.out,rfl⟩
theorem Kk(C:Fl3 P)(O:Ord N)(p0 p1:Option Addr)(n0 c0 n1 c1:Nat)(sk rb:Bs)(w:World)(hA:Arg w (.slice p0 n0 c0) sk)(h0:SP.PartOk w (.slice p0 n0 c0) sk.toList)(hA1:Arg w (.slice p1 n1 c1) rb)(h1:SP.PartOk w (.slice p1 n1 c1) rb.toList):
 Calls prog 5 #[.slice p0 n0 c0,.slice p1 n1 c1] w (Ret fun e w'=>Below w.heap.size w w'/\∃q n cap,e=.tuple #[.slice q n cap,.int .i64 (poT P N sk rb).2]/\Cw w' q n cap (poT P N sk rb).1):=by
 by_cases hno:(rq N sk).isSome=true/\(rq N rb).isSome=true
 ·have e:poT P N sk rb=(wr (cmt P (poV N sk rb) (poB N sk rb))++(bx (poZ P N sk rb)++bx (poW P N sk rb)),0):=by
   unfold poT;rw[if_pos hno.1,if_pos hno.2]
  rw[e];obtain⟨x,hx⟩:=O9.1 hno.1;obtain⟨y,hy⟩:=O9.1 hno.2;have ex:=xO hx;have ey:=xO hy;subst ex ey;refine(H9 C.toFld O p0 p1 n0 c0 n1 c1 sk rb w hA h0 hA1 h1 _ _ hx hy (uB hno.1) (uB hno.2) (poV N sk rb) (poB N sk rb) (poC P N sk rb) (poZ P N sk rb) (poW P N sk rb) rfl rfl rfl rfl rfl).mono ?_;rintro e w' ⟨u,rfl,hb,v,rfl,hE⟩;obtain⟨q,n,cap,rfl,hC⟩:=hE.cw;exact⟨_,rfl,hb,q,n,cap,rfl,hC⟩
 ·have e:poT P N sk rb=(#[],3):=by
   unfold poT;by_cases h2:(rq N sk).isSome=true
   ·rw[if_pos h2,if_neg (fun h3=>hno ⟨h2,h3⟩)]
   ·rw[if_neg h2]
  rw[e];refine(Ia O p0 p1 n0 c0 n1 c1 sk rb w hA hA1 hno).mono ?_;rintro e w' ⟨u,rfl,hb,rfl⟩;exact⟨_,rfl,hb,none,0,0,rfl,OQ ⟨rfl,rfl,rfl,rfl⟩⟩
theorem Ns(pr:ByteArray)(h:pr.size=97)(w:World):(Pp 9 (.string pr) none (some (.int .i64 33)) none).run prog w=.ok (.string (pr.extract 0 33)) w:=by
 go_simp
theorem Nr(pr:ByteArray)(h:pr.size=97)(w:World):(Pp 9 (.string pr) (some (.int .i64 33)) (some (.int .i64 65)) none).run prog w=.ok (.string (pr.extract 33 65)) w:=by
 go_simp
theorem Nq(pr:ByteArray)(h:pr.size=97)(w:World):(Pp 9 (.string pr) (some (.int .i64 65)) none none).run prog w=.ok (.string (pr.extract 65 97)) w:=by
 go_simp
noncomputable def voE (P:Nat) [NeZero P] (N:Nat) (cb F Z T:Bs):Bool:=open Classical in decide (cmt P (nuV Z) (nuV T)=EC.add (lT P F) (EC.mul (aop N cb.toList F.toList) (lT P cb)))
noncomputable def voT (P:Nat) [NeZero P] (N:Nat) (cb pr:Bs):Bool:=voR (rd P cb).isSome (!decide (pr.size=97)) (rd P (pr.extract 0 33)).isSome (rq N (pr.extract 33 65)).isSome (rq N (pr.extract 65 97)).isSome (voE P N cb (pr.extract 0 33) (pr.extract 33 65) (pr.extract 65 97))
theorem L6(C:Fl3 P)(O:Ord N)(cb pr:ByteArray)(hcb:cb.size<=4096):Gives 8 #[.string cb,.string pr] (.bool (voT P N cb.data pr.data)):=by
 have e1:(pr.extract 0 33).data=pr.data.extract 0 33:=by simp
 have e2:(pr.extract 33 65).data=pr.data.extract 33 65:=by simp
 have e3:(pr.extract 65 97).data=pr.data.extract 65 97:=by simp
 have elb:(!((pr.size:Int) == 97)) = !decide (pr.data.size=97):=by
  by_cases h:pr.size=97
  ·have h':pr.data.size=97:=h;rw[h,decide_eq_true h'];rfl
  ·have h':¬pr.data.size=97:=h;have h2:((pr.size:Int) == 97)=false:=by simpa using(by omega:¬(pr.size:Int)=97)
   rw[h2,decide_eq_false h']
 have hl:(!decide (pr.data.size=97))=false->pr.size=97:=fun h=>by
  have:pr.data.size=97:=by simpa using h
  exact this
 have h0:=B5 C cb.data;have h1:=B5 C (pr.extract 0 33).data;have h2:=qI O (pr.extract 33 65);have h3:=qI O (pr.extract 65 97);unfold voT;rw[<-e1,<-e2,<-e3];have lz:=nF (pr.extract 33 65).data;have lt:=nF (pr.extract 65 97).data;have hcN:aop N cb.data.toList (pr.extract 0 33).data.toList<N:=wX O _ _;have hct:=Oi hcN O.le;obtain⟨tc,fc,hCm⟩:=oS C (nuV (pr.extract 33 65).data) (nuV (pr.extract 65 97).data) lz lt;have hmul:(rd P cb.data).isSome=true->FracT (tmF (aop N cb.data.toList (pr.extract 0 33).data.toList) (rdT P cb.data) 256) (EC.mul (aop N cb.data.toList (pr.extract 0 33).data.toList) (lT P cb.data)):=fun hd=>by
  have h:=xH C (n:=aop N cb.data.toList (pr.extract 0 33).data.toList) (by unfold top at hct;omega) (rJ C hd) 256 (Oh _);rwa[R9,Ql,TA]at h
 refine LZ (P:=P) cb pr (pr.extract 0 33) (pr.extract 33 65) (pr.extract 65 97) (rdT P cb.data) (rdT P (pr.extract 0 33).data) tc (tmF (aop N cb.data.toList (pr.extract 0 33).data.toList) (rdT P cb.data) 256) (plF (rdT P (pr.extract 0 33).data) (tmF (aop N cb.data.toList (pr.extract 0 33).data.toList) (rdT P cb.data) 256)) _ _ (aop N cb.data.toList (pr.extract 0 33).data.toList) _ _ _ _ _ _ elb h0 (fun h w=>Ns pr (hl h) w) (fun h w=>Nr pr (hl h) w) (fun h w=>Nq pr (hl h) w) h1 h2 h3 ?_;intro r0 r1 _ _;obtain⟨p1,f1⟩:=FracT.plus C (rJ C r1) (hmul r0);refine⟨B7 O cb (pr.extract 0 33) (by omega) (by rw[ByteArray.size_extract];omega),hCm,rN C _ hct _ (rJ C r0),p1,?_⟩;have hS:=Hw C fc f1;unfold voE;have ed:∀(p:Prop) [i1:Decidable p] [i2:Decidable p],@decide p i1 = @decide p i2:=fun p i1 i2=>by congr
 rw[ed (cmt P (nuV (pr.extract 33 65).data) (nuV (pr.extract 65 97).data)=_)];exact hS
theorem BH(p0 p1:Option Addr)(n0 c0 n1 c1:Nat)(cl:List Value)(hcl:cl.length=33)(hone:cl.toArray.all (·.oneCell')=true)(ok ok2:Bool)(hno:(ok && ok2)=false)(w:World)(hR:Calls prog 34 #[.slice p0 n0 c0] w (Ret fun e w'=>Below w.heap.size w w'/\e=.tuple #[.agg cl.toArray,.bool ok]))
 (hP:∀W,Below w.heap.size w W->Calls prog 35 #[.slice p1 n1 c1,.int .i64 1,.int .i64 2] W (Ret fun e w'=>Below W.heap.size W w'/\∃q1 q2,e=.tuple #[q1,q2,.bool ok2])) :
 Calls prog 7 #[.slice p0 n0 c0,.slice p1 n1 c1] w (Ret fun e w'=>Below w.heap.size w w'/\e=.bool false):=by
 have HR:=Hid.mk' hR;have HP:=Hid.mk' hP;clear hR hP;obtain⟨vA,hvA⟩:∃v,Hid (O8 cl.toArray=v):=⟨_,rfl⟩
 rw[hvA.out]at HR;go_enter Tryz.func7,Tryz.ntmps7;go_wp2_with fail
 refine HR.out.mono ?_;rintro e w1 ⟨u,rfl,hb1,rfl⟩;obtain⟨w2,hw2⟩:∃w2,Hid (w1.alloc (.cells z33.toArray 47)=w2):=⟨_,rfl⟩
 obtain⟨k5,hk5⟩:∃k,Hid (w1.heap.size=k):=⟨_,rfl⟩
 obtain⟨w3,hw3⟩:∃w3,Hid (w2.setCells k5 0 cl=w3):=⟨_,rfl⟩
 have F2:Hid (Row w2 k5 z33/\Below w.heap.size w w2/\w.heap.size<=k5):=by
  rw[<-hw2.out,<-hk5.out];exact⟨aO w1 _ _,hb1.alloc hb1.size _,hb1.size⟩
 have K3:Hid (Below w.heap.size w w3):=by
  rw[<-hw3.out];exact RG.below_setCells F2.out.2.2 _ _ _ F2.out.2.1
 have HJ:Hid (w2.there k5 0 cl.toArray.size/\(prog.info? 47).map (·.size)=some cl.toArray.size/\cl.toArray.all (·.oneCell')=true):=by
  have e:cl.toArray.size=33:=by rw[O4];exact hcl
  exact⟨by rw[e];exact F2.out.1.2.2,by rw[e];exact cK,hone⟩
 clear hb1 HR hcl hone;go_wp2_with (first|(refine bJ (v:=.pointer (some ⟨k5,0,none⟩)) (w':=w2) rfl (.alloc 47) rfl ?_ ?_;(rw[<-hw2.out,<-hk5.out];kernel_rfl))|(refine wpList_store_mid rfl 47 _ _ rfl k5 0 cl.toArray ?_ ?_ ?_ ?_ ?_ ?_;rfl;exact hvA.out.symm;exact HJ.out.1;exact HJ.out.2.1;exact HJ.out.2.2;rw[show cl.toArray.toList=cl from rfl,hw3.out])|fail)
 clear hw2 hw3 hk5 F2 HJ;refine(HP.out w3 K3.out).mono ?_;rintro e w4 ⟨u,rfl,hb4,q1,q2,rfl⟩;have K4:Hid (Below w.heap.size w w4):=K3.out.trans (hb4.mono K3.out.size);clear hb4 K3 HP;cases ok with
 | false =>
  go_wp2;go_ret;exact⟨_,rfl,K4.out,rfl⟩
 | true =>
  cases ok2 with
  | false =>
   go_wp2;go_ret;exact⟨_,rfl,K4.out,rfl⟩
  | true=>cases hno
theorem EX(C:Fld P){b:Bs}(h:(rd P b).isSome=true):wr (lT P b)=b/\EC.On (lT P b):=by
 obtain⟨p,hp⟩:=O9.1 h;rw[B9 hp];exact⟨LC C hp,(BV C hp).2⟩
theorem FV{b:Bs}(h:(rq N b).isSome=true):bx (nuV b)=b:=by
 have hs:b.size=32:=by
  unfold rq at h;split at h
  ·rename_i h2
   exact h2.1
  ·cases h
 exact Ju hs (nF b) (by unfold nuV;rw[if_pos hs])
theorem Gx(C:Fld P){X Y:EC.Pt P}(hX:EC.On X)(hY:EC.On Y)(h:wr X=wr Y):X=Y:=by
 obtain⟨p,h1,h2⟩:=uD C hX;obtain⟨q,h3,h4⟩:=uD C hY;rw[h]at h1;rw[h1]at h3;obtain rfl:=OW.inj h3;rw[<-h2,h4]
theorem IL(C:Fld P)(n m:Nat):EC.On (cmt P n m):=by
 unfold cmt;have hH:=AZ C cR [];generalize (.some (hpt P cR []):EC.Pt P)=H at hH⊢;show EC.On (EC.add (EC.add none (EC.cX ((n:Nat):Int) H)) (EC.cX ((m:Nat):Int) (gG P)));rw[EC.eB];exact C.cur.on (EC.cJ C.cur hH n) (EC.cJ C.cur (uR C) m)
theorem La{pr:Bs}(h:pr.size=97):pr=pr.extract 0 33++(pr.extract 33 65++pr.extract 65 97):=by
 rw[Tj];show pr=pr.extract 0 33++pr.extract 33 97;rw[Tj];show pr=pr.extract 0 97;rw[<-h,Array.extract_size]
theorem GB(P:Nat)[NeZero P](N:Nat)(cb pr:Bs):voT P N cb pr=((rd P cb).isSome && fE P N pr && voE P N cb (pr.extract 0 33) (pr.extract 33 65) (pr.extract 65 97)):=by
 unfold voT voR fE;generalize voE P N cb (pr.extract 0 33) (pr.extract 33 65) (pr.extract 65 97)=e;generalize (rd P cb).isSome=a;generalize decide (pr.size=97)=b;generalize (rd P (pr.extract 0 33)).isSome=c;generalize (rq N (pr.extract 33 65)).isSome=d;generalize (rq N (pr.extract 65 97)).isSome=f;cases a<;>cases b<;>cases c<;>cases d<;>cases f<;>cases e<;>rfl
theorem Gs:z33.toArray.all (·.oneCell')=true:=by
 rw[List.all_toArray,List.all_eq_true];intro u hu;unfold z33 at hu;rw[(List.mem_replicate.1 hu).2];rfl
theorem KY(C:Fld P){A B:EC.Pt P}(hA:EC.On A)(hB:EC.On B){i1:Decidable (wr A=wr B)}{i2:Decidable (A=B)}:Uf (@decide _ i1)=.bool (@decide _ i2):=by
 by_cases h:A=B
 ·rw[decide_eq_true h,decide_eq_true (congrArg wr h)]
 ·rw[decide_eq_false h,decide_eq_false (fun h2=>h (Gx C hA hB h2))]
theorem JQ(C:Fl3 P)(O:Ord N)(hord:∀r:EC.Pt P,EC.On r->EC.mul N r=none)(hN1:1<N)(p0 p1:Option Addr)(n0 c0 n1 c1:Nat)(cb pr:Bs)(w:World)(h0:Arg33 w (.slice p0 n0 c0) cb)(h1:SP.PartOk w (.slice p1 n1 c1) pr.toList):
 Calls prog 7 #[.slice p0 n0 c0,.slice p1 n1 c1] w (Ret fun e w'=>Below w.heap.size w w'/\e=.bool (voT P N cb pr)):=by
 rw[GB];have hP:∀W,Below w.heap.size w W->Calls prog 35 #[.slice p1 n1 c1,.int .i64 1,.int .i64 2] W (Ret fun e w'=>Below W.heap.size W w'/\∃q1 q2,e=.tuple #[q1,q2,.bool (fE P N pr)]):=fun W hb=>by
  refine(lX C.toFld O _ pr W (h1.below hb)).mono ?_;rintro e w' ⟨v,rfl,hb,⟨ht,K,k,rfl,-⟩|⟨hf,q1,q2,rfl⟩⟩
  ·exact⟨_,rfl,hb,_,_,by rw[ht]⟩
  ·exact⟨_,rfl,hb,q1,q2,by rw[hf]⟩
 cases hr:rd P cb with
 | none=>exact BH p0 p1 n0 c0 n1 c1 z33 rfl Gs false (fE P N pr) rfl w (CE C.toFld _ cb w h0 hr) hP
 | some p =>
  cases ht:fE P N pr with
  | false =>
   rw[ht]at hP;exact BH p0 p1 n0 c0 n1 c1 (aD cb) (aM (BW hr)) (fD cb) true false rfl w (wR C.toFld _ cb p w h0 hr) hP
  | true =>
   have hr':(rd P cb).isSome=true:=by rw[hr];rfl
   unfold fE at ht;rw[Ox,Ox,Ox]at ht;obtain⟨hs,hF,hZ,hT⟩:=ht;have hs:=of_decide_eq_true hs;obtain⟨ex,hX⟩:=EX C.toFld hr';obtain⟨ey,hY⟩:=EX C.toFld hF;have ez:=FV hZ;have et:=FV hT;have lz:=uB hZ;have lt:=uB hT;have ec:=La hs;clear hr hP;show Calls _ _ _ _ (Ret fun e w'=>Below w.heap.size w w'/\e=.bool (voE P N cb (pr.extract 0 33) (pr.extract 33 65) (pr.extract 65 97)));unfold voE;generalize pr.extract 0 33=F at *;generalize pr.extract 33 65=Z at *;generalize pr.extract 65 97=T at *;have hcmt:=IL C.toFld (nuV Z) (nuV T);have h0':Arg33 w (.slice p0 n0 c0) (wr (lT P cb)):=by rw[ex];exact h0
   have h1':SP.PartOk w (.slice p1 n1 c1) (wr (lT P F)++(bx (nuV Z)++bx (nuV T))).toList:=by rw[ey,ez,et,<-ec];exact h1
   have hc:aop N (wr (lT P cb)).toList (wr (lT P F)).toList=aop N cb.toList F.toList:=by rw[ex,ey]
   generalize aop N cb.toList F.toList=c at hc⊢;have hmul:=EC.cJ C.toFld.cur hX c;have hadd:EC.On (EC.add (lT P F) (EC.mul c (lT P cb))):=C.toFld.cur.on hY hmul;refine(GA C.toFld O hord p0 p1 n0 c0 n1 c1 (lT P cb) (lT P F) hX hY (nuV Z) (nuV T) c lz lt hN1 hc w h0' h1').mono ?_;rintro e w' ⟨v,rfl,hb,rfl⟩;exact⟨_,rfl,hb,KY C.toFld hcmt hadd⟩
end
section
open Go.RowKit Go.Sort Go.Deep
variable {P:Nat}[NeZero P]{N:Nat}
section
variable (w:World) (k4 k5 k6 k7 k8 c s m B0:Nat) (a b T:Bs)
end
end
section
open Go.RowKit Go.Sort Go.Deep
variable {P:Nat}[NeZero P]{N:Nat}
theorem fl3:∃(P:Nat) (_:NeZero P),Fl3 P:=by
 obtain⟨P,hz,hP,hc⟩:=EC.cur;have h0:P=Go.Proofs.YtmfodnkinmnopaaGreat.p0:=by rw[hP];decide +kernel
 have hg:=NW;have hr:=LV;have h2:2<=Go.Proofs.YtmfodnkinmnopaaGreat.p0%18446744073709551616:=by decide +kernel
 have h4:Go.Proofs.YtmfodnkinmnopaaGreat.p0/4%18446744073709551616<18446744073709551615:=by decide +kernel
 have h3:Go.Proofs.YtmfodnkinmnopaaGreat.p0%4=3:=by decide +kernel
 have h7:7<Go.Proofs.YtmfodnkinmnopaaGreat.p0:=by decide +kernel
 rw[<-h0]at hg hr h2 h4 h3 h7;exact⟨P,hz,⟨⟨hg,hc,h2,h4,h3,h7⟩,hr⟩⟩
end
namespace EC
variable {P:Nat}[NeZero P]
def fo{α:Type}(x:Fin P)(f:Fin P->α):α:=
 match x.val with
 | 0=>f (PL P 0)
 | n+1=>f (PL P (n+1))
theorem Mt{α:Type}(x:Fin P)(f:Fin P->α):fo x f=f x:=by
 have hx:PL P x.val=x:=RS (Oy x.isLt);unfold fo;split
 ·next h=>rw[h]at hx;rw[hx]
 ·next n h=>rw[h]at hx;rw[hx]
def runs(u v:Fin P)(e:Nat):Nat->Fin P->Fin P->Fin P->Bool
 | 0,_,_,z=>decide (z=0)
 | k+1,x,y,z=>fo (twX x y) fun X=>fo (twY x y) fun Y=>fo (twZ y z) fun Z =>
  if e/2^k%2=1 then
   if Z=0 then false else
   fo (cF X 1) fun ax=>fo (dG Y 1) fun ay=>fo (cF u Z) fun bx=>fo (dG v Z) fun bY =>
   if ax=bx/\ay=bY then false else
   fo (plX ax ay bx bY) fun a=>fo (plY ax ay bx bY) fun b=>fo (plZ Z 1 ax bx) fun c=>runs u v e k a b c
  else runs u v e k X Y Z
theorem AN(C:Cur P):(1:Fin P)≠0:=fun h=>C.two (by
 calc (2:Fin P)=2*1:=by grobner
  _=0:=by rw[h];grobner)
theorem vT(C:Cur P){u v:Fin P}(hg:On (some (u,v)))(e:Nat):∀(k m:Nat) (x y z:Fin P),Jac x y z (mul m (some (u,v)))->runs u v e k x y z=true->mul (m*2^k+e%2^k) (some (u,v))=none
 | 0,m,x,y,z,hj,h=>by
  have hz:z=0:=of_decide_eq_true h;rw[Ql,Nat.mod_one,Nat.mul_one,Nat.add_zero];exact hj.zero C hz
 | k+1,m,x,y,z,hj,h=>by
  have hm:=cJ C hg m;have h1:=hj.twice C hm;rw[<-mul_add C hg]at h1;have hb:e%2^(k+1)=e/2^k%2*2^k+e%2^k:=by
   rw[PQ,Nat.mod_mul,OX (2^k) (e/2^k%2),Nat.add_comm]
  have hp:2^(k+1)=2*2^k:=by rw[PQ,OX]
  unfold runs at h;simp only[Mt]at h;by_cases hbit:e/2^k%2=1
  ·rw[if_pos hbit]at h;by_cases hZ:twZ y z=0
   ·rw[if_pos hZ]at h;cases h
   ·rw[if_neg hZ]at h;have hj1:Jac u v 1 (some (u,v)):=⟨AN C,by grobner,by grobner⟩
    rcases h1.plus C (cJ C hg _) hj1 hg hZ (AN C)with⟨e1,e2,-⟩|⟨e1,e2⟩
    ·rw[if_pos ⟨e1,e2⟩]at h;cases h
    ·rw[if_neg e1]at h;have h2:=vT C hg e k (m+m+1) _ _ _ e2 h;rw[hb,hbit,hp];rw[show m*(2*2^k)+(1*2^k+e%2^k)=(m+m+1)*2^k+e%2^k by
      rw[QC,QC,<-P5,OX m 2,Vr,QC];omega]
     exact h2
  ·rw[if_neg hbit]at h;have h0:e/2^k%2=0:=by omega
   have h2:=vT C hg e k (m+m) _ _ _ h1 h;rw[hb,h0,hp];rw[show m*(2*2^k)+(0*2^k+e%2^k)=(m+m)*2^k+e%2^k by
    rw[<-P5,OX m 2,Vr];omega]
   exact h2
def pL:Nat:=115792089237316195423570985008687907853269984665640564039457584007908834671663
def nL:Nat:=115792089237316195423570985008687907852837564279074904382605163141518161494337
instance:NeZero pL:=⟨by decide +kernel⟩
theorem J2:runs (P:=pL) (PL pL 55066263022277343669578718895168534326250603453777594175500187360389116729240) (PL pL 32670510020758816978083085130507043184471273380659243275938904335757337482424) nL 255 (PL pL 55066263022277343669578718895168534326250603453777594175500187360389116729240) (PL pL 32670510020758816978083085130507043184471273380659243275938904335757337482424) 1=true:=by decide +kernel
theorem G3:2*pL+1<3*nL:=by decide +kernel
theorem KH:1*2^255+nL%2^255=nL:=by decide +kernel
theorem order(C:Cur P)(hP:P=pL)(hg:On (some (PL P 55066263022277343669578718895168534326250603453777594175500187360389116729240,PL P 32670510020758816978083085130507043184471273380659243275938904335757337482424))){r:Pt P}(hr:On r):mul nL r=none:=by
 subst hP;refine E1 C (n:=nL) NT.pN G3 hg (fun h=>by cases h) ?_ hr;have h:=vT C hg nL 255 1 _ _ 1 (by
  show Jac _ _ 1 (add none _);rw[eB];exact⟨AN C,by grobner,by grobner⟩) J2
 rwa[KH]at h
end EC
section
theorem Km:Go.Proofs.YtmfodnkinmnopaaGreat.p1=EC.nL:=by decide +kernel
variable {P:Nat}[NeZero P]
theorem order2(C:Fld P)(r:EC.Pt P)(hr:EC.On r):EC.mul Go.Proofs.YtmfodnkinmnopaaGreat.p1 r=none:=by
 rw[Km];have hP:P=EC.pL:=by
  rw[C.eq];rfl
 exact EC.order C.cur hP (uR C) hr
end
section
open Go.RowKit Go.Sort Go.Deep
variable {P:Nat}[NeZero P]{N:Nat}
theorem NE:Ord Go.Proofs.YtmfodnkinmnopaaGreat.p1:=⟨NV,LU,by decide +kernel,by decide +kernel⟩
theorem v8{w:World}{k cap:Nat}{s:ByteArray}(hs:s.size<=4096)(hc:s.size<=cap)(hH:Holds encB w k 0 s.data):SP.PartOk w (.slice (some ⟨k,0,none⟩) s.size cap) s.data.toList:=
 ⟨_,k,0,cap,s.data,rfl,rfl,hc,OM hs (by decide),OC ⟨rfl,hH⟩⟩
theorem Dx(C:Fl3 P)(O:Ord N)(hord:∀r:EC.Pt P,EC.On r->EC.mul N r=none)(hN1:1<N)(sk g a pr:ByteArray)(h1:sk.size<=4096)(h2:g.size<=4096)(h3:a.size<=4096)(h5:pr.size<=4096)(w0:World):
 Calls prog 3 #[.string sk,.string g,.string a,.string pr] w0 fun e w'=>e=.returned (.bool true)/\Below w0.heap.size w0 w':=by
 have HP:=Hid.mk' (fun p0 p1 n0 c0 n1 c1 w hA h0 hA1 h1=>Kk C O p0 p1 n0 c0 n1 c1 sk.data g.data w hA h0 hA1 h1);have HR:=Hid.mk' (L8 C O sk g h1 h2);have HV:=Hid.mk' (fun p0 p1 n0 c0 n1 c1 w k0 k1=>JQ C O hord hN1 p0 p1 n0 c0 n1 c1 a.data pr.data w k0 k1);have HW:=Hid.mk' (L6 C O a pr h3);generalize (poT P N sk.data g.data).1=T at HP HR;generalize (poT P N sk.data g.data).2=ec at HP HR;generalize voT P N a.data pr.data=u at HV HW;have g1:¬(4096:Int)<(sk.size:Int):=by omega
 have g2:¬(4096:Int)<(g.size:Int):=by omega
 have g3:¬(4096:Int)<(a.size:Int):=by omega
 have g5:¬(4096:Int)<(pr.size:Int):=by omega
 obtain⟨cap1,w1,hc1,hcc1,hb1,hH1,hlt1⟩:=qO sk w0;obtain⟨cap2,w2,hc2,hcc2,hb2,hH2,hlt2⟩:=qO g w1;have HB:Hid (Below w0.heap.size w0 w2):=hb1.trans (hb2.mono hb1.size);have A1:Hid (Arg w2 (.slice (some ⟨w0.heap.size,0,none⟩) sk.size cap1) sk.data):=⟨_,_,_,rfl,rfl,fun h=>⟨_,0,rfl,by omega,Oi hlt1 hb2.size,Holds.below hH1 hb2 hlt1⟩⟩
 have A2:Hid (Arg w2 (.slice (some ⟨w1.heap.size,0,none⟩) g.size cap2) g.data):=⟨_,_,_,rfl,rfl,fun h=>⟨_,0,rfl,by omega,hlt2,hH2⟩⟩
 have B1:Hid (SP.PartOk w2 (.slice (some ⟨w0.heap.size,0,none⟩) sk.size cap1) sk.data.toList):=v8 h1 hcc1 (Holds.below hH1 hb2 hlt1);have B2:Hid (SP.PartOk w2 (.slice (some ⟨w1.heap.size,0,none⟩) g.size cap2) g.data.toList):=v8 h2 hcc2 hH2;have S5:Hid (pr.size<=4096):=h5;clear hb1 hb2 hH1 hH2 hlt1 hlt2 hcc1 hcc2 h1 h2 h3 h5 C O hord hN1;go_enter Tryz.func3,Tryz.ntmps3;go_wp2_with fail
 refine(HP.out _ _ _ _ _ _ w2 A1.out B1.out A2.out B2.out).mono ?_;rintro e w3 ⟨vv,rfl,hb3,q,n,cap,rfl,hC⟩;have K3:Hid (Below w0.heap.size w0 w3/\Cw w3 q n cap T):=⟨HB.out.trans (hb3.mono HB.out.size),hC⟩
 clear hb3 hC HP A1 A2 B1 B2 HB hc1 hc2;go_wp2_with fail
 refine(HR.out w3).mono ?_;rintro e w4 ⟨vv,rfl,hb4,rfl⟩;have K4:Hid (Below w0.heap.size w0 w4/\Cw w4 q n cap T):=⟨K3.out.1.trans (hb4.mono K3.out.1.size),K3.out.2.grow hb4⟩
 clear hb4 K3 HR;obtain⟨cap5,w5,hc5,hcc5,hb5,hH5,hlt5⟩:=qO a w4;obtain⟨cap6,w6,hc6,hcc6,hb6,hH6,hlt6⟩:=qO pr w5;have hb46:=hb5.trans (hb6.mono hb5.size);have A5:Hid (Arg33 w6 (.slice (some ⟨w4.heap.size,0,none⟩) a.size cap5) a.data):=⟨_,_,_,rfl,rfl,fun h=>⟨_,0,rfl,by omega,Oi hlt5 hb6.size,Holds.below hH5 hb6 hlt5⟩⟩
 have A6:Hid (SP.PartOk w6 (.slice (some ⟨w5.heap.size,0,none⟩) pr.size cap6) pr.data.toList):=v8 S5.out hcc6 hH6;have K6:Hid (Below w0.heap.size w0 w6/\Cw w6 q n cap T):=⟨K4.out.1.trans (hb46.mono K4.out.1.size),K4.out.2.grow hb46⟩
 clear hb5 hb6 hb46 hH5 hH6 hlt5 hlt6 hcc5 hcc6 K4;go_wp2_with fail
 refine(HV.out _ _ _ _ _ _ w6 A5.out A6.out).mono ?_;rintro e w7 ⟨vv,rfl,hb7,rfl⟩;have K7:Hid (Below w0.heap.size w0 w7/\Cw w7 q n cap T):=⟨K6.out.1.trans (hb7.mono K6.out.1.size),K6.out.2.grow hb7⟩
 clear hb7 K6 HV A5 A6 hc5 hc6;go_wp2_with fail
 refine(HW.out w7).mono ?_;rintro e wA ⟨vv,rfl,hbA,rfl⟩;have KA:Hid (Below w0.heap.size w0 wA/\Cw wA q n cap T):=⟨K7.out.1.trans (hbA.mono K7.out.1.size),K7.out.2.grow hbA⟩
 clear hbA K7 HW;have hcv:=KA.out.2.conv;have eT:=GR T;cases u<;>go_wp2<;>go_ret<;>exact⟨by simp,KA.out.1⟩
theorem Dw(sk g a pr:ByteArray)(w0:World):
 Calls prog 3 #[.string sk,.string g,.string a,.string pr] w0 fun e w'=>e=.returned (.bool true)/\Below w0.heap.size w0 w':=by
 by_cases h1:sk.size<=4096
 ·by_cases h2:g.size<=4096
  ·by_cases h3:a.size<=4096
   ·by_cases h5:pr.size<=4096
    ·obtain⟨P,hz,C⟩:=fl3;exact Dx C NE (order2 C.toFld) (by decide +kernel) sk g a pr h1 h2 h3 h5 w0
    ·have g1:¬(4096:Int)<(sk.size:Int):=by omega
     have g2:¬(4096:Int)<(g.size:Int):=by omega
     have g3:¬(4096:Int)<(a.size:Int):=by omega
     have g5:(4096:Int)<(pr.size:Int):=by omega
     go_enter Tryz.func3,Tryz.ntmps3;go_wp2;go_ret;exact⟨rfl,Ow _ _⟩
   ·have g1:¬(4096:Int)<(sk.size:Int):=by omega
    have g2:¬(4096:Int)<(g.size:Int):=by omega
    have g3:(4096:Int)<(a.size:Int):=by omega
    go_enter Tryz.func3,Tryz.ntmps3;go_wp2;go_ret;exact⟨rfl,Ow _ _⟩
  ·have g1:¬(4096:Int)<(sk.size:Int):=by omega
   have g2:(4096:Int)<(g.size:Int):=by omega
   go_enter Tryz.func3,Tryz.ntmps3;go_wp2;go_ret;exact⟨rfl,Ow _ _⟩
 ·have g1:(4096:Int)<(sk.size:Int):=by omega
  go_enter Tryz.func3,Tryz.ntmps3;go_wp2;go_ret;exact⟨rfl,Ow _ _⟩
end
/-
  THE ROW OF 'SigmaOpens' round its walk; the frame by the guide's program (howto/shells), the world behind the call told by 'Below'.
-/
namespace sigmaOpens
open Go.ChangeShapes Go.WideShapes Go.ChangeAt Go.RowKit
open Go.ChangeMaps (open_string shut_string)
theorem own:ownKnob prog.godebug=none:=by kernel_rfl
theorem lifted(os:Os)(started:os.Started)(H:Type)(enc:TypeId × Value->H):
 ReturnsInHanded {} Tryz.checked os 3 .any (Rows.sigmaOpensSpec.pre6 enc prog Tryz.f3 Rows.sigmaOpensRow.domain false) (Rows.sigmaOpensSpec.post enc prog Tryz.f3 false true false false):=by
 refine returnsInHanded_of_change (C:=Tryz.checked) own started (by kernel_rfl) Tryz.func3
  (ChangeSpec.witness6 (enc:=enc) (C:=Tryz.checked) false ⟨#[],#[.string RI,.string RI,.string RI,.string RI],[]⟩ 8 (by kernel_rfl) (by kernel_rfl) (by kernel_rfl) (by kernel_rfl)) ?_
 intro W base args ds gs before hval0 hW hcnd _;have hval:∀(j:Nat) t v,Tryz.f3.params[j]? = some t->args[j]? = some v->Value.okWide prog W .any base t v:=hval0;have hW':=hW;obtain⟨p,q,hA0,hV,rfl,hfz,hnd⟩:=hW;have hA:DataW.TrodAll enc prog W 0 (fun _=>true) true Tryz.f3.params.toList args.toList ds p:=hA0;rw[Tryz.params3]at hA hval;obtain⟨v0,vs0,d0,ds0,p0,q0,hargs,rfl,rfl,h0,r0⟩:=trodAll_cons hA;obtain⟨v1,vs1,d1,ds1,p1,q1,rfl,rfl,rfl,h1,r1⟩:=trodAll_cons r0;obtain⟨v2,vs2,d2,ds2,p2,q2,rfl,rfl,rfl,h2,r2⟩:=trodAll_cons r1;obtain⟨v3,vs3,d3,ds3,p3,q3,rfl,rfl,rfl,h3,r3⟩:=trodAll_cons r2;obtain⟨rfl,rfl,rfl⟩:=trodAll_nil r3;obtain rfl:args=#[v0,v1,v2,v3]:=by cases args;simp_all
 obtain⟨rfl,rfl⟩:=trodVars_none hV;obtain⟨a0,rfl,rfl,rfl,w0⟩:=open_string Tryz.underlying9 (hval 0 9 v0 rfl rfl) h0;obtain⟨a1,rfl,rfl,rfl,w1⟩:=open_string Tryz.underlying9 (hval 1 9 v1 rfl rfl) h1;obtain⟨a2,rfl,rfl,rfl,w2⟩:=open_string Tryz.underlying9 (hval 2 9 v2 rfl rfl) h2;obtain⟨a3,rfl,rfl,rfl,w3⟩:=open_string Tryz.underlying9 (hval 3 9 v3 rfl rfl) h3;clear hA0 hval0;refine(Dw a0 a1 a2 a3 W).mono fun e W' ⟨he,bel⟩=>?_
 subst he;exact⟨_,rfl,_,_,_,[],_,[],hW',(trodAll_cons_mk (shut_bool Tryz.underlying4 _) trodAll_mk0),(trodAll_cons_mk (shut_string Tryz.underlying9 w0) (trodAll_cons_mk (shut_string Tryz.underlying9 w1) (trodAll_cons_mk (shut_string Tryz.underlying9 w2) (trodAll_cons_mk (shut_string Tryz.underlying9 w3) trodAll_mk0)))),rfl,bel.frame _,fun h=>by cases h⟩
theorem over:Rows.sigmaOpensRow.holds Tryz.pinned (OpenSpec.ofChange Rows.sigmaOpensSpec):=
 OpenClaim.holds_of_wide 3 Tryz.f3 rfl rfl rfl rfl rfl rfl rfl ⟨rfl,rfl,rfl,rfl,rfl⟩ rfl rfl rfl rfl rfl (by kernel_rfl) Tryz.func3 (by kernel_rfl)
  (of_decide_eq_true (by kernel_rfl)) (by unfold Func.isWrapper;first|(rw[if_pos (by decide +kernel)];kernel_rfl)|(rw[if_neg (by decide +kernel)];exact⟨rfl,rfl⟩))
  (fun os started H enc _=>lifted os started H enc)
theorem proved:Rows.SigmaOpensSaid:=
 over
end sigmaOpens
section
theorem sigmaOpens_holds:Rows.SigmaOpensSaid:=sigmaOpens.proved
#print axioms sigmaOpens_holds
end
end Go.Proofs.YtmfodnkinmnopaaGreat
