import Derived.Deep.RegionHeld3
import Derived.Deep.LoopGhost
import Derived.Great.BuildSlice
import Derived.Lib.LazyBuf
import Derived.Laws.AppendOwn
import Derived.Laws.IdiomCopy
import Derived.Test.YtfcnimopdjjhcaaGreatsb5
set_option linter.unusedVariables false
set_option linter.constructorNameAsVariable false
set_option linter.unusedSimpArgs false
set_option maxRecDepth 1000000
set_option maxHeartbeats 4000000
namespace Go.Proofs.YtfcnimopdjjhcaaGreat
open _root_.Array renaming all_eq_true'->Si,any_eq_true'->Tk,ext_getElem?->Wi,getD_eq_getD_getElem?->PZ,getElem?_eq_getElem->Qo,getElem?_eq_some_iff->Qg,getElem?_replicate->Tf,getElem?_setIfInBounds->Ru,getElem?_toList->QE,length_toList->P8,map_id->Xs,replicate->PX,size_replicate->P7,toList_replicate->VM
open _root_.Bool renaming and_eq_true->P3,or_eq_false_iff->V5,or_eq_true->Xb,true_or->Ta
open _root_.ByteArray renaming data_extract->UL
open _root_.Fin renaming ext_iff->WR
open _root_.Go.Addr renaming add->UZ
open _root_.Go.Builtin renaming append_->QS,clear_->Uj,zeroCells->Q9
open _root_.Go.ByteArray renaming toList_eq->VD
open _root_.Go.Code renaming region->Sq
open _root_.Go.Exit renaming inBlock->So
open _root_.Go.Instr renaming box->Ug,build->UA,buildSlice->WB,findAsking->WA,findKey->Xo,lookup->VJ,mapUpdate->Ur,sliceAt->Re
open _root_.Go.IntKind renaming u64->Qs
open _root_.Go.IntWalk renaming i64_in->QG
open _root_.Go.Op renaming equal->VX
open _root_.Go.Oper renaming wp->Sf
open _root_.Go.Region renaming binds->RB,ready->R9,wanted->TV
open _root_.Go.Result renaming andThen_ok->QK
open _root_.Go.RowKit.Below renaming refl->Qd
open _root_.Go.Sem renaming run->XE,run_bind->Qi,run_pure->Sc
open _root_.Go.Value renaming agg->QD,bool->Vv,string->Uq
open _root_.Go.World renaming alloc->QN,cell?->RU,cell?_of_block->Qt,frozen?->Ti,frozen?_of_block->Ro,putObj->VG,size_alloc->Qa
open _root_.List renaming all_eq_true->Qp,countP_replicate->VS,eq_nil_iff_forall_not_mem->Va,flatMap_cons->U8,getElem?_append_left->QL,getElem?_append_right->Rn,getElem?_eq_getElem->P6,getElem?_eq_none->RY,getElem?_eq_some_iff->Qe,getElem?_of_mem->RZ,getElem?_take->RA,getElem?_toArray->Tw,getElem_mem->QI,length_append->PY,length_cons->Qw,length_map->Qb,map_cons->SQ,map_nil->Xu,map_toArray->WJ,mem_append->Rv,mem_cons->QU,mem_cons_of_mem->Qv,mem_cons_self->Qy,mem_map->QZ,mem_range->Rh,mem_toArray->Tz,not_mem_nil->P4,range->QJ,size_toArray->QB
open _root_.Nat renaming add_mod->T9,add_zero->RD,le_refl->PQ,lt_of_lt_of_le->PS,lt_or_ge->UB,lt_succ_self->Su,mul_le_mul_right->SH,mul_mod->RP,mul_zero->Ul,sub_self->TK,succ_mul->Xz,zero_add->PU
open _root_.Option renaming isSome_iff_exists->Qx,map_eq_some_iff->PV,some->Qh
open _root_.Or renaming inr->Qc
open Go.Proofs.Tryz (prog)
namespace SP
open Go.RowKit Go.Sort Go.Deep
def RLog(w:World)(y:Nat)(L:Bs):Prop:=w.cell? ⟨y,0,none⟩=some (.string ⟨L⟩)/\w.frozen? ⟨y,0,none⟩=false
theorem Fu(W:World)(vs:Array Value)(ps:List ByteArray)(t:TypeId)(hl:vs.size=ps.length)(h:∀j,j<ps.length->vs[j]! = .string ps[j]!):
 ∀j,j<ps.length->(W.alloc (.cells vs t)).cell? ⟨W.heap.size,0+j,none⟩=some (.string ps[j]!):=by
 intro j hj;have e0:vs.map encV=vs:=by
  have:encV=id:=rfl;rw[this,Xs]
 have:=(Holds.new (enc:=encV) W t vs j (by omega)).1;rw[e0,h j hj]at this;exact this
theorem wN(label:List UInt8)(ps:List (List UInt8))(M:Nat)(hl:label.length<=M)(hp:∀p∈ps,p.length<=M):(bQ label ps).length<=(ps.length+1)*(M+4):=by
 unfold bQ;rw[PY,iJ];have:(ps.flatMap d6).length<=ps.length*(M+4):=by
  induction ps with
  | nil=>simp
  | cons p ps ih =>
   rw[U8,PY,iJ,Qw,Xz];have h1:=hp p (Qy ..);have h2:=ih (fun q hq=>hp q (Qv _ hq));omega
 rw[Xz];omega
theorem mA(lab:ByteArray)(vs:Array Value)(ps:List ByteArray)(n:Nat)(W:World)(hn:ps.length=n)(hv:vs.size=ps.length)(h:∀j,j<ps.length->vs[j]! = .string ps[j]!)(hlab:lab.size<=16384)(h64:n<=8)(hs:∀p∈ps,p.size<=16384):
 Calls prog 59 #[.string lab,.slice (some ⟨W.heap.size,0,none⟩) n n] (W.alloc (.cells vs 9)) fun e w'=>e=.returned (.string ⟨iF lab.data.toList (ps.map fun s=>s.data.toList)⟩)/\Below (W.alloc (.cells vs 9)).heap.size (W.alloc (.cells vs 9)) w':=by
 subst hn;refine AL lab (some ⟨W.heap.size,0,none⟩) ps.length ps (W.alloc (.cells vs 9)) (by omega) (by omega) (Qc ⟨W.heap.size,0,rfl,Fu W vs ps 9 hv h⟩) (fun j hj=>?_) ?_
 ·rw[getElem!_pos ps j hj];have:=hs _ (QI hj);omega
 ·have:=wN lab.data.toList (ps.map fun s=>s.data.toList) 16384 (by rw[P8];exact hlab) (fun p hp=>by
   obtain⟨s,h1,rfl⟩:=QZ.1 hp;rw[P8];exact hs s h1)
  rw[Qb]at this;have h2:(ps.length+1)*(16384+4)<=9*(16384+4):=SH _ (by omega);omega
theorem FQ(w:World)(t:TypeId)(N:Bs):RLog (w.alloc (.cells #[.string ⟨N⟩] t)) w.heap.size N:=by
 have:=Holds.new (enc:=encV) w t #[.string ⟨N⟩] 0 (by simp);have e0:(#[Uq ⟨N⟩]).map encV=#[Uq ⟨N⟩]:=by
  have:encV=id:=rfl;rw[this,Xs]
 rw[e0]at this;exact⟨this.1,this.2⟩
theorem rA(label:ByteArray)(w:World)(hlab:label.size<=16384):
 Calls prog 24 #[.string label] w fun e w'=>∃y,e=.returned (.pointer (some ⟨y,0,none⟩))/\w.heap.size<=y/\Below w.heap.size w w'/\RLog w' y (newL label.data.toList):=by
 have hT:=mA ⟨#[108,111,103]⟩ #[.string label] [label] 1 w rfl rfl (fun j hj=>by
  have hj0:j=0:=by simpa using hj
  subst hj0;rfl) (by decide) (by decide) (fun p hp=>by
  have:p=label:=by simpa using hp
  rw[this];exact hlab)
 go_enter Tryz.func24,Tryz.ntmps24;go_wp2_with fail
 refine hT.mono ?_;rintro e w2 ⟨rfl,hb2⟩;have hN:iF (⟨#[108,111,103]⟩:ByteArray).data.toList ([label].map fun s=>s.data.toList)=newL label.data.toList:=rfl;rw[hN];obtain⟨N,hNe⟩:∃N,newL label.data.toList=N:=⟨_,rfl⟩
 rw[hNe];have HN:Hid (N=newL label.data.toList):=hNe.symm;clear hNe hN hT;have hb2':Below w.heap.size w w2:=((Qd _ _).alloc (PQ _) _).trans (hb2.mono (by simp));have hs2:=hb2'.size;go_wp2;go_ret;rw[<-HN.out];exact⟨w2.heap.size,rfl,by omega,hb2'.alloc (by omega) _,FQ _ _ _⟩
theorem RLog.lt{w:World}{y:Nat}{L:Bs}(h:RLog w y L):y<w.heap.size:=World.block_lt_of_cell? _ _ h.1
theorem RLog.below{w w1:World}{y:Nat}{L:Bs}(h:RLog w y L)(k:Below w.heap.size w w1):RLog w1 y L:=by
 have h2:=(Only.of_below (b:=w.heap.size) (off:=0) (n:=0) (B:=w.heap.size) k rfl)
 have hy:=h.lt;have e:=k.block y hy;unfold RLog RU Ti at *;simp only at *;rw[e];exact h
theorem RLog.set{w:World}{y:Nat}{L:Bs}(h:RLog w y L)(M:Bs):RLog (w.setCell ⟨y,0,none⟩ (.string ⟨M⟩)) y M:=by
 have h1:Holds encV w y 0 #[.string ⟨L⟩]:=by
  intro j hj;have hj0:j=0:=by simpa using hj
  subst hj0;exact⟨h.1,h.2⟩
 have:=Holds.set h1 (i:=0) (by simp) (.string ⟨M⟩);have h2:=this 0 (by simp);simp only[RD]at h2;exact⟨by simpa[encV]using h2.1,h2.2⟩
theorem jD(y:Nat)(L:Bs)(label text:ByteArray)(w:World)(hlab:label.size<=16384)(ht:text.size<=16384)(hl:L.size=32)(hL:RLog w y L):
 Calls prog 25 #[.pointer (some ⟨y,0,none⟩),.string label,.string text] w fun e w'=>e=.returned (.tuple #[])/\Only y 0 1 w w'/\RLog w' y (cT L label.data.toList text.data.toList):=by
 have hy:=hL.lt;have hT:=mA ⟨#[115,97,121]⟩ #[.string ⟨L⟩,.string label,.string text] [⟨L⟩,label,text] 3 w rfl rfl (fun j hj=>by
  have hj3:j<3:=hj;match j,hj3 with
  | 0,_=>rfl
  | 1,_=>rfl
  | 2,_=>rfl) (by decide) (by decide) (fun p hp=>by
  simp only[QU,P4,or_false]at hp;rcases hp with rfl|rfl|rfl
  ·show L.size<=16384;omega
  ·exact hlab
  ·exact ht)
 obtain⟨N,hNe⟩:∃N,cT L label.data.toList text.data.toList=N:=⟨_,rfl⟩
 have hT':Calls prog 59 #[.string ⟨#[115,97,121]⟩,.slice (some ⟨w.heap.size,0,none⟩) 3 3] (w.alloc (.cells #[.string ⟨L⟩,.string label,.string text] 9)) fun e w'=>e=.returned (.string ⟨N⟩)/\Below (w.alloc (.cells #[.string ⟨L⟩,.string label,.string text] 9)).heap.size (w.alloc (.cells #[.string ⟨L⟩,.string label,.string text] 9)) w':=by
  rw[<-hNe];exact hT
 rw[hNe];have HT:Hid (Calls prog 59 #[.string ⟨#[115,97,121]⟩,.slice (some ⟨w.heap.size,0,none⟩) 3 3] (w.alloc (.cells #[.string ⟨L⟩,.string label,.string text] 9)) fun e w'=>e=.returned (.string ⟨N⟩)/\Below (w.alloc (.cells #[.string ⟨L⟩,.string label,.string text] 9)).heap.size (w.alloc (.cells #[.string ⟨L⟩,.string label,.string text] 9)) w'):=hT';have hb1:Below w.heap.size w (w.alloc (.cells #[.string ⟨L⟩,.string label,.string text] 9)):=(Qd _ _).alloc (PQ _) _;obtain⟨c0,f0⟩:=hL;clear hT hT' hNe;go_enter Tryz.func25,Tryz.ntmps25;go_wp2_with fail
 refine(HT.out).mono ?_;rintro e w2 ⟨rfl,hb2⟩;have hb2':Below w.heap.size w w2:=hb1.trans (hb2.mono hb1.size);have hL2:=RLog.below ⟨c0,f0⟩ hb2';have hO2:Only y 0 1 w w2:=Only.of_below hb2' rfl hy;obtain⟨c2,f2⟩:=hL2;clear HT hb1 hb2 c0 f0;go_wp2
 go_end0
 exact⟨rfl,hO2.setCell (by omega) (by omega) _,RLog.set ⟨c2,f2⟩ N⟩
theorem Cz(lab:ByteArray)(hlab:lab.size<=16384)(L:Bs)(hl:L.size=32)(label:ByteArray)(hs:label.size<=16384)(w:World):
 Calls prog 59 #[.string lab,.slice (some ⟨w.heap.size,0,none⟩) 2 2] (w.alloc (.cells #[.string ⟨L⟩,.string label] 9)) fun e w'=>e=.returned (.string ⟨iF lab.data.toList [L.toList,label.data.toList]⟩)/\Below (w.alloc (.cells #[.string ⟨L⟩,.string label] 9)).heap.size (w.alloc (.cells #[.string ⟨L⟩,.string label] 9)) w':=
 mA lab #[.string ⟨L⟩,.string label] [⟨L⟩,label] 2 w rfl rfl (fun j hj=>by
  have hj3:j<2:=hj;match j,hj3 with
  | 0,_=>rfl
  | 1,_=>rfl) hlab (by decide) (fun p hp=>by
  simp only[QU,P4,or_false]at hp;rcases hp with rfl|rfl
  ·show L.size<=16384;omega
  ·exact hs)
theorem rB(y:Nat)(L:Bs)(label:ByteArray)(n:Nat)(w:World)(hlab:label.size<=16384)(hn:n<=1024)(hl:L.size=32)(hL:RLog w y L):
 Calls prog 31 #[.pointer (some ⟨y,0,none⟩),.string label,.int .i64 n] w fun e w'=>e=.returned (.string ⟨iK L label.data.toList n⟩)/\Only y 0 1 w w'/\RLog w' y (gJ L label.data.toList):=by
 have hy:=hL.lt;have hT:=Cz ⟨#[97,115,107]⟩ (by decide) L hl label hlab w;obtain⟨T,hTe⟩:∃T,iF [97,115,107] [L.toList,label.data.toList]=T:=⟨_,rfl⟩
 have hTs:T.size=32:=by rw[<-hTe,eG]
 obtain⟨N,hNe⟩:∃N,gJ L label.data.toList=N:=⟨_,rfl⟩
 obtain⟨A,hAe⟩:∃A,iK L label.data.toList n=A:=⟨_,rfl⟩
 have HA:Hid (jR T.toList n=A):=by
  show _=_;rw[<-hAe,<-hTe];rfl
 have HN:Hid (iF [97,115,107,101,100] [L.toList,label.data.toList]=N):=hNe;have HT:Hid (Calls prog 59 #[.string ⟨#[97,115,107]⟩,.slice (some ⟨w.heap.size,0,none⟩) 2 2] (w.alloc (.cells #[.string ⟨L⟩,.string label] 9)) fun e w'=>e=.returned (.string ⟨T⟩)/\Below (w.alloc (.cells #[.string ⟨L⟩,.string label] 9)).heap.size (w.alloc (.cells #[.string ⟨L⟩,.string label] 9)) w'):=by
  show Calls _ _ _ _ _;rw[<-hTe];exact hT
 rw[hNe,hAe];have hb1:Below w.heap.size w (w.alloc (.cells #[.string ⟨L⟩,.string label] 9)):=(Qd _ _).alloc (PQ _) _;obtain⟨c0,f0⟩:=hL;clear hT hNe hAe hTe;go_enter Tryz.func31,Tryz.ntmps31;go_wp2_with fail
 refine(HT.out).mono ?_;rintro e w2 ⟨rfl,hb2⟩;have hb2':Below w.heap.size w w2:=hb1.trans (hb2.mono hb1.size);clear HT hb1 hb2;go_wp2_with fail
 refine(tI ⟨T⟩ n _ (by show T.size<=1048576;omega) (by omega)).mono ?_;rintro e w3 ⟨rfl,hb3⟩;have hAA:jR (⟨T⟩:ByteArray).data.toList n=A:=HA.out;rw[hAA];have hb3':Below w.heap.size w w3:=hb2'.trans (hb3.mono hb2'.size);have hL3:=RLog.below ⟨c0,f0⟩ hb3';have hO3:Only y 0 1 w w3:=Only.of_below hb3' rfl hy;have hy3:=hL3.lt;obtain⟨c3,f3⟩:=hL3;have hT4:=Cz ⟨#[97,115,107,101,100]⟩ (by decide) L hl label hlab w3;have HT4:Hid (Calls prog 59 #[.string ⟨#[97,115,107,101,100]⟩,.slice (some ⟨w3.heap.size,0,none⟩) 2 2] (w3.alloc (.cells #[.string ⟨L⟩,.string label] 9)) fun e w'=>e=.returned (.string ⟨N⟩)/\Below (w3.alloc (.cells #[.string ⟨L⟩,.string label] 9)).heap.size (w3.alloc (.cells #[.string ⟨L⟩,.string label] 9)) w'):=by
  show Calls _ _ _ _ _;rw[<-HN.out];exact hT4
 have hb4:Below w3.heap.size w3 (w3.alloc (.cells #[.string ⟨L⟩,.string label] 9)):=(Qd _ _).alloc (PQ _) _;clear c0 f0 hT4 hb2' hb3 hb3' hAA HA HN;go_wp2_with fail
 refine(HT4.out).mono ?_;rintro e w5 ⟨rfl,hb5⟩;have hb5':Below w3.heap.size w3 w5:=hb4.trans (hb5.mono hb4.size);have hL5:=RLog.below ⟨c3,f3⟩ hb5';have hO5:Only y 0 1 w w5:=hO3.trans (Only.of_below hb5' rfl hy3);obtain⟨c5,f5⟩:=hL5;clear c3 f3 HT4 hb4 hb5 hb5' hO3;go_wp2;go_ret;exact⟨rfl,hO5.setCell (by omega) (by omega) _,RLog.set ⟨c5,f5⟩ N⟩
end SP
section
open Go.RowKit Go.Sort Go.Deep
variable {P:Nat}[NeZero P]{N:Nat}
theorem qE{w W:World}{k0 k1 k7 p0 p1 p2 p3 c0 c1 c2 c3 x0 x1 x2 x3 x4 x5 x6 x7:Nat}(h:Kept w k0 [⟨k0,0,p0,p1,p2,p3⟩,⟨k0,4,c0,c1,c2,c3⟩,⟨k7,0,x0,x1,x2,x3⟩,⟨k7,4,x4,x5,x6,x7⟩,⟨k1,0,0,0,0,0⟩] W):W.cell? ⟨k0,0,none⟩=some (.int .u64 p0)/\W.cell? ⟨k0,1,none⟩=some (.int .u64 p1)/\W.cell? ⟨k0,2,none⟩=some (.int .u64 p2)/\W.cell? ⟨k0,3,none⟩=some (.int .u64 p3)/\W.cell? ⟨k0,4,none⟩=some (.int .u64 c0)/\W.cell? ⟨k0,5,none⟩=some (.int .u64 c1)/\W.cell? ⟨k0,6,none⟩=some (.int .u64 c2)/\W.cell? ⟨k0,7,none⟩=some (.int .u64 c3)/\W.cell? ⟨k7,0,none⟩=some (.int .u64 x0)/\W.cell? ⟨k7,1,none⟩=some (.int .u64 x1)/\W.cell? ⟨k7,2,none⟩=some (.int .u64 x2)/\W.cell? ⟨k7,3,none⟩=some (.int .u64 x3)/\W.cell? ⟨k7,4,none⟩=some (.int .u64 x4)/\W.cell? ⟨k7,5,none⟩=some (.int .u64 x5)/\W.cell? ⟨k7,6,none⟩=some (.int .u64 x6)/\W.cell? ⟨k7,7,none⟩=some (.int .u64 x7)/\Kept w k0 [⟨k0,0,p0,p1,p2,p3⟩,⟨k0,4,c0,c1,c2,c3⟩,⟨k7,0,x0,x1,x2,x3⟩,⟨k7,4,x4,x5,x6,x7⟩,⟨k1,0,0,0,0,0⟩] W:=
 ⟨h.head.c0,h.head.c1,h.head.c2,h.head.c3,h.tail.head.c0,h.tail.head.c1,h.tail.head.c2,h.tail.head.c3,h.tail.tail.head.c0,h.tail.tail.head.c1,h.tail.tail.head.c2,h.tail.tail.head.c3,h.tail.tail.tail.head.c0,h.tail.tail.tail.head.c1,h.tail.tail.tail.head.c2,h.tail.tail.tail.head.c3,h⟩
theorem Ev{v:Value}{n B:Nat}(hF:Four v n)(hB:B<256):n*val 256 0 0 0+(val B 0 0 0+top*val 0 0 0 0)<top*top:=by
 have h1:=hF.lt;have e1:val 256 0 0 0=256:=rfl;have e2:val B 0 0 0=B:=by unfold val;omega
 have e3:val 0 0 0 0=0:=rfl;have h2:n*256<=(top-1)*256:=SH _ (by omega);have h3:(top-1)*256+256<=top*top:=by unfold top;decide
 rw[e1,e2,e3];omega
theorem Gx(P:Nat)(s:ByteArray)(k:Nat)(hk:k<s.size):
 (beV (s.data.extract 0 k).toList%P*val 256 0 0 0+(val s[k].toNat 0 0 0+top*val 0 0 0 0))%P=beV (s.data.extract 0 (k+1)).toList%P:=by
 have e:(s.data.extract 0 (k+1)).toList=(s.data.extract 0 k).toList++[s[k]]:=by
  rw[Array.extract_succ_right (by omega) hk,Array.toList_push];rfl
 have e1:val 256 0 0 0=256:=rfl;have e2:val s[k].toNat 0 0 0=s[k].toNat:=by unfold val;omega
 have e3:val 0 0 0 0=0:=rfl;rw[e,cX,e1,e2,e3,Ul,RD,T9,RP,Nat.mod_mod,<-RP,<-T9];simp[beV]
theorem F7(p0 p1 p2 p3 c0 c1 c2 c3 P:Nat)(s:ByteArray)(hR:RefP p0 p1 p2 p3 c0 c1 c2 c3 P)(hs:s.size<=1048576)(w:World):
 Calls prog 30 #[.agg #[.int .u64 p0,.int .u64 p1,.int .u64 p2,.int .u64 p3,.int .u64 c0,.int .u64 c1,.int .u64 c2,.int .u64 c3],.string s] w (Ret fun e w'=>Below w.heap.size w w'/\Four e (beV s.data.toList%P)):=by
 have HR:Hid (RefP p0 p1 p2 p3 c0 c1 c2 c3 P):=hR;clear hR;go_enter Tryz.func30,Tryz.ntmps30;go_wp2;have FR:=((At8.made w 70 p0 p1 p2 p3 c0 c1 c2 c3 rfl).alloc (.cells #[.int .u64 0,.int .u64 0,.int .u64 0,.int .u64 0] 68)).alloc (.cells #[.int .u64 0,.int .u64 0,.int .u64 0,.int .u64 0] 68);have RE:=(At4.made (w.alloc (.cells #[.int .u64 p0,.int .u64 p1,.int .u64 p2,.int .u64 p3,.int .u64 c0,.int .u64 c1,.int .u64 c2,.int .u64 c3] 70)) 68 0 0 0 0 (Qa _ _)).alloc (.cells #[.int .u64 0,.int .u64 0,.int .u64 0,.int .u64 0] 68);have NN:=At4.made ((w.alloc (.cells #[.int .u64 p0,.int .u64 p1,.int .u64 p2,.int .u64 p3,.int .u64 c0,.int .u64 c1,.int .u64 c2,.int .u64 c3] 70)).alloc (.cells #[.int .u64 0,.int .u64 0,.int .u64 0,.int .u64 0] 68)) 68 0 0 0 0 (k:=w.heap.size+1+1) (by simp);have KP:=((((Kept.mk1 (below3 w (.cells #[.int .u64 p0,.int .u64 p1,.int .u64 p2,.int .u64 p3,.int .u64 c0,.int .u64 c1,.int .u64 c2,.int .u64 c3] 70) (.cells #[.int .u64 0,.int .u64 0,.int .u64 0,.int .u64 0] 68) (.cells #[.int .u64 0,.int .u64 0,.int .u64 0,.int .u64 0] 68)) (below3 w (.cells #[.int .u64 p0,.int .u64 p1,.int .u64 p2,.int .u64 p3,.int .u64 c0,.int .u64 c1,.int .u64 c2,.int .u64 c3] 70) (.cells #[.int .u64 0,.int .u64 0,.int .u64 0,.int .u64 0] 68) (.cells #[.int .u64 0,.int .u64 0,.int .u64 0,.int .u64 0] 68)).size).cons RE.blk).cons NN.blk).cons (x:=⟨w.heap.size,4,c0,c1,c2,c3⟩) ⟨FR.c4,FR.c5,FR.c6,FR.c7,FR.fz⟩).cons (x:=⟨w.heap.size,0,p0,p1,p2,p3⟩) ⟨FR.c0,FR.c1,FR.c2,FR.c3,FR.fz⟩;clear FR RE NN;generalize QN _ _=W0 at KP⊢;go_loopg [6] s.size (fun gk s6 wr=>∃(k a b c d:Nat),k+gk=s.size/\s6=.int .i64 k/\Kept w w.heap.size [⟨w.heap.size,0,p0,p1,p2,p3⟩,⟨w.heap.size,4,c0,c1,c2,c3⟩,⟨w.heap.size+1+1,0,a,b,c,d⟩,⟨w.heap.size+1,0,0,0,0,0⟩] wr /\
  Hid (Four (.agg #[.int .u64 a,.int .u64 b,.int .u64 c,.int .u64 d]) (beV (s.data.extract 0 k).toList%P)))
 case atStart =>
  refine⟨0,0,0,0,0,PU _,rfl,KP,?_⟩;have:beV (s.data.extract 0 0).toList=0:=by simp[beV]
  rw[this,Nat.zero_mod];exact Four.mk (by decide) (by decide) (by decide) (by decide) rfl
 case round =>
  clear KP;obtain⟨k,a,b,c,d,hk,rfl,KP,HF⟩:=hrel;generalize h2:w.heap.size+1+1=k2 at KP⊢;generalize h1:w.heap.size+1=k1 at KP⊢;have H:Hid (w.heap.size+1=k1/\w.heap.size+1+1=k2):=⟨h1,h2⟩
  have Q1:Hid (w.heap.size<=k1):=by unfold Hid;omega
  have Q2:Hid (w.heap.size<=k2):=by unfold Hid;omega
  have n12:k2≠k1:=by omega
  have n02:k2≠w.heap.size:=by omega
  generalize h0:w.heap.size=k0 at KP Q1 Q2 n02⊢;have H0:Hid (w.heap.size=k0):=h0;clear h0 h1 h2;obtain⟨nc0,nc1,nc2,nc3,nf⟩:=KP.tail.tail.head.at4;have z2:=KP.tail.tail.head.lt;by_cases hlt:k<s.size
  ·have hlt':(k:Int)<(s.size:Int):=by omega
   go_wp2_with fail
   refine(jB _ _ _ _ HF.out (Four.mk (a:=256) (b:=0) (c:=0) (d:=0) (by decide) (by decide) (by decide) (by decide) rfl) _).mono ?_;rintro r w1 ⟨v,rfl,hb1,hE1⟩;obtain⟨x0,x1,x2,x3,x4,x5,x6,x7,rfl,hx0,hx1,hx2,hx3,hx4,hx5,hx6,hx7,hxe⟩:=id hE1;clear hxe nc0 nc1 nc2 nc3 nf z2;replace KP:=KP.call hb1;clear hb1;have A7:=At8.made w1 124 x0 x1 x2 x3 x4 x5 x6 x7 rfl;have T2:=KP.tail.tail.head.at4.alloc (.cells #[.int .u64 x0,.int .u64 x1,.int .u64 x2,.int .u64 x3,.int .u64 x4,.int .u64 x5,.int .u64 x6,.int .u64 x7] 124);have KP7:Kept w k0 [⟨k0,0,p0,p1,p2,p3⟩,⟨k0,4,c0,c1,c2,c3⟩,⟨w1.heap.size,0,x0,x1,x2,x3⟩,⟨w1.heap.size,4,x4,x5,x6,x7⟩,⟨k1,0,0,0,0,0⟩] _:=
    ((((KP.alloc _).tail.tail.tail.cons (x:=⟨w1.heap.size,4,x4,x5,x6,x7⟩) ⟨A7.c4,A7.c5,A7.c6,A7.c7,A7.fz⟩).cons (x:=⟨w1.heap.size,0,x0,x1,x2,x3⟩) ⟨A7.c0,A7.c1,A7.c2,A7.c3,A7.fz⟩).cons (x:=⟨k0,4,c0,c1,c2,c3⟩) (KP.alloc _).tail.head).cons (x:=⟨k0,0,p0,p1,p2,p3⟩) (KP.alloc _).head
   have n72:k2≠w1.heap.size:=Nat.ne_of_lt KP.tail.tail.head.lt;clear A7 KP;have KP:=KP7;clear KP7;have z0:=KP.head.lt;go_wp2_with fail
   generalize QN _ _=W7 at KP T2⊢;generalize w1.heap.size=k7 at KP n72⊢;have hl2:∀x∈([⟨k0,0,p0,p1,p2,p3⟩,⟨k0,4,c0,c1,c2,c3⟩,⟨k7,0,x0,x1,x2,x3⟩,⟨k7,4,x4,x5,x6,x7⟩,⟨k1,0,0,0,0,0⟩]:List Blk),k2≠x.k:=by simp only[QU,P4,or_false];rintro x (rfl|rfl|rfl|rfl|rfl);exact n02;exact n02;exact n72;exact n72;exact n12
   have HE1:Hid (jT _ _):=hE1;obtain⟨B,hB⟩:∃B,s[k].toNat=B:=⟨_,rfl⟩
   have hB256:B<256:=hB ▸ s[k].toNat_lt;have hsb:Qs.wrap (s[k].toNat:Int)=(B:Int):=by rw[hB];exact wrapN _ (by omega)
   have HFX:Hid _:=Gx P s k hlt;have HB:Hid (s[k].toNat=B):=hB;clear hE1 hB z0;obtain⟨tc0,tc1,tc2,tc3,tf⟩:=id T2;have zt:=T2.lt;go_region_held3 (fun w'=>w'.cell? ⟨k0,0,none⟩=some (.int .u64 p0)/\w'.cell? ⟨k0,1,none⟩=some (.int .u64 p1)/\w'.cell? ⟨k0,2,none⟩=some (.int .u64 p2)/\w'.cell? ⟨k0,3,none⟩=some (.int .u64 p3)/\w'.cell? ⟨k0,4,none⟩=some (.int .u64 c0)/\w'.cell? ⟨k0,5,none⟩=some (.int .u64 c1)/\w'.cell? ⟨k0,6,none⟩=some (.int .u64 c2)/\w'.cell? ⟨k0,7,none⟩=some (.int .u64 c3)/\w'.cell? ⟨k7,0,none⟩=some (.int .u64 x0)/\w'.cell? ⟨k7,1,none⟩=some (.int .u64 x1)/\w'.cell? ⟨k7,2,none⟩=some (.int .u64 x2)/\w'.cell? ⟨k7,3,none⟩=some (.int .u64 x3)/\w'.cell? ⟨k7,4,none⟩=some (.int .u64 x4)/\w'.cell? ⟨k7,5,none⟩=some (.int .u64 x5)/\w'.cell? ⟨k7,6,none⟩=some (.int .u64 x6)/\w'.cell? ⟨k7,7,none⟩=some (.int .u64 x7)/\Kept w k0 [⟨k0,0,p0,p1,p2,p3⟩,⟨k0,4,c0,c1,c2,c3⟩,⟨k7,0,x0,x1,x2,x3⟩,⟨k7,4,x4,x5,x6,x7⟩,⟨k1,0,0,0,0,0⟩] w') (first|(with_reducible exact qE KP)|(with_reducible exact qE KP.drew)|(with_reducible exact qE (KP.set4' Q2.out hl2 _ _ _ _))|(with_reducible exact qE (KP.set4' Q2.out hl2 _ _ _ _).drew)|fail) (first|(go_at_call 67;refine(oD _ _ _ _ HE1.out ⟨B,0,0,0,0,0,0,0,rfl,by omega,by decide,by decide,by decide,by decide,by decide,by decide,by decide,rfl⟩ (Ev HF.out hB256) _).mono ?_;rintro r w2 ⟨v,rfl,hb2,hE2⟩;obtain⟨y0,y1,y2,y3,y4,y5,y6,y7,rfl,hy0,hy1,hy2,hy3,hy4,hy5,hy6,hy7,hye⟩:=id hE2;clear hye;have HE2:Hid (jT _ _):=hE2;clear hE2;have KP1:=KP.drew.call hb2;have T1:=T2.drew.call hb2;clear KP T2 hb2;have KP:=KP1;have T2:=T1;clear KP1 T1;obtain⟨tc0,tc1,tc2,tc3,tf⟩:=id T2;have zt:=T2.lt)|(go_at_call 66;refine(oN p0 p1 p2 p3 c0 c1 c2 c3 P _ _ HR.out.hp0 HR.out.hp1 HR.out.hp2 HR.out.hp3 HR.out.hc0 HR.out.hc1 HR.out.hc2 HR.out.hc3 HR.out.eP HR.out.hP HR.out.hP2 HE2.out _).mono ?_;rintro r w3 ⟨v,rfl,hb3,hF3⟩;obtain⟨a',b',c',d',rfl,ha',hb',hc',hd',es3⟩:=id hF3;clear es3;have HF3:Hid (Four _ _):=hF3;clear hF3;have KP1:=KP.call hb3;have T1:=T2.call hb3;clear KP T2 hb3;have KP:=KP1;have T2:=T1;clear KP1 T1;obtain⟨tc0,tc1,tc2,tc3,tf⟩:=id T2;have zt:=T2.lt))
   go_wp2;obtain⟨q1,q2⟩:=H.out;have q0:=H0.out;subst q1 q2 q0;go_roundg (gk-1)
   case measure=>omega
   case rel =>
    refine⟨k+1,a',b',c',d',by omega,rfl,?_,?_⟩
    ·have K3:=KP.set4' Q2.out hl2 (.int .u64 a') (.int .u64 b') (.int .u64 c') (.int .u64 d');exact(((K3.tail.tail.tail.tail).cons (T2.self4 a' b' c' d').blk).cons K3.tail.head).cons K3.head
    ·have h1:=HF3.out;rw[HB.out]at HFX;unfold Hid;rw[<-HFX.out];exact h1
  ·have hk2:k=s.size:=by omega
   have hge:¬((k:Int)<(s.size:Int)):=by omega
   obtain⟨rc0,rc1,rc2,rc3,rf⟩:=KP.tail.tail.tail.head.at4;have z1:=KP.tail.tail.tail.head.lt;have HK:Hid (k=s.size):=hk2;clear hk2;go_wp2;have RF:=KP.tail.tail.tail.head.at4.self4 a b c d;unfold set4 at RF;refine bodyPost_ret (v:=?v) ?hr rfl ?hR
   case hr=>simp[results,Tryz.results30,go_sem,RF.c0,RF.c1,RF.c2,RF.c3];rfl
   refine⟨_,rfl,?_,?_⟩
   ·rw[H0.out];exact aD KP.bl Q1.out _ _ _ _
   ·have:=HF.out;rw[HK.out,show s.size=s.data.size from rfl,Array.extract_size]at this;exact this
end
section
open Go.RowKit Go.Sort
variable {P:Nat}[NeZero P]{N:Nat}
def rl0:List Value:=[.int .u64 18446744069414583343,.int .u64 18446744073709551615,.int .u64 18446744073709551615,.int .u64 18446744073709551615,.int .u64 4294968273,.int .u64 0,.int .u64 0,.int .u64 0]
def rv0:Value:=.agg rl0.toArray
structure Fl3(P:Nat)[NeZero P]:Prop extends Fld P where
 ref:RefP 18446744069414583343 18446744073709551615 18446744073709551615 18446744073709551615 4294968273 0 0 0 P
theorem Jf:Gives 60 #[.int .i64 0] rv0:=fun w=>(LJ w).mono (by rintro e w' ⟨v,rfl,hb,rfl⟩;exact⟨_,rfl,hb,rfl⟩)
theorem mC(h:Fl3 P)(x y:Fin P):Gives 33 #[rv0,fv x,fv y] (fv (x+y)):=fun w =>
 (AP h.ref (h.four x) (h.four y) w).mono (by rintro e w' ⟨v,rfl,hb,hF⟩;exact⟨_,rfl,hb,hF.nv⟩)
theorem aS(h:Fl3 P)(x y:Fin P):Gives 34 #[rv0,fv x,fv y] (fv (x*y)):=fun w =>
 (oM h.ref (h.four x) (h.four y) w).mono (by rintro e w' ⟨v,rfl,hb,hF⟩;exact⟨_,rfl,hb,hF.nv⟩)
theorem jF(h:Fl3 P)(x y:Fin P):Gives 73 #[rv0,fv x,fv y] (fv (x-y)):=fun w =>
 (FY _ _ _ _ _ _ _ _ P _ _ x.val y.val h.ref (h.four x) (h.four y) y.isLt w).mono (by rintro e w' ⟨v,rfl,hb,hF⟩;rw[iZ]at hF;exact⟨_,rfl,hb,hF.nv⟩)
theorem LH(h:Fl3 P)(x:Fin P):Gives 113 #[rv0,fv x] (fv (0-x)):=fun w =>
 (rH _ _ _ _ _ _ _ _ P _ x.val h.ref (h.four x) x.isLt w).mono (by
  rintro e w' ⟨v,rfl,hb,hF⟩;rw[show(P-x.val)%P=(0-x:Fin P).val by rw[<-iZ,EC.val_zero,PU]]at hF;exact⟨_,rfl,hb,hF.nv⟩)
theorem Ja(h:Fl3 P){x:Fin P}(e:x=0):Gives 71 #[fv x] (.bool true):=fun w =>
 (oK _ _ (h.four x) w).mono (by
  rintro e w' ⟨v,rfl,hb,rfl⟩;refine⟨_,rfl,hb,?_⟩;rw[decide_eq_true (by rw[e,EC.val_zero])])
theorem CH(h:Fl3 P){x:Fin P}(e:¬x=0):Gives 71 #[fv x] (.bool false):=fun w =>
 (oK _ _ (h.four x) w).mono (by
  rintro e w' ⟨v,rfl,hb,rfl⟩;refine⟨_,rfl,hb,?_⟩;rw[decide_eq_false (fun h=>e (Fin.ext (by rw[EC.val_zero];exact h)))])
theorem oL(h:Fl3 P):Gives 61 #[.int .u64 1] (fv (1:Fin P)):=fun w =>
 (mB 1 (by decide) w).mono (by rintro e w' ⟨v,rfl,hb,rfl⟩;exact⟨_,rfl,hb,wF h.toFld⟩)
theorem uH(h:Fl3 P):Gives 61 #[.int .u64 7] (fv (7:Fin P)):=fun w =>
 (mB 7 (by decide) w).mono (by rintro e w' ⟨v,rfl,hb,rfl⟩;exact⟨_,rfl,hb,qX h.toFld⟩)
theorem eqR(h:Fld P)(x y:Fin P)(w:World):(binOp .eql 68 (fv x) (fv y)).run prog w=.ok (.bool (decide (x=y))) w:=by
 have h1:(binOp .eql 68 (fv x) (fv y)).run prog w=.ok (.bool (decide (x.val%18446744073709551616=y.val%18446744073709551616/\x.val/18446744073709551616%18446744073709551616=y.val/18446744073709551616%18446744073709551616/\x.val/340282366920938463463374607431768211456%18446744073709551616=y.val/340282366920938463463374607431768211456%18446744073709551616/\x.val/6277101735386680763835789423207666416102355444464034512896%18446744073709551616=y.val/6277101735386680763835789423207666416102355444464034512896%18446744073709551616))) w:=by
  show(binOp .eql 68 (.agg _) (.agg _)).run prog w=_;rw[run_eql_struct];have h2:=KG 9998 (x.val%18446744073709551616) (x.val/18446744073709551616%18446744073709551616) (x.val/340282366920938463463374607431768211456%18446744073709551616) (x.val/6277101735386680763835789423207666416102355444464034512896%18446744073709551616) (y.val%18446744073709551616) (y.val/18446744073709551616%18446744073709551616) (y.val/340282366920938463463374607431768211456%18446744073709551616) (y.val/6277101735386680763835789423207666416102355444464034512896%18446744073709551616) w;unfold wn;rw[h2,QK]
 rw[h1];simp only[nZ (h.top x) (h.top y),<-WR]
theorem Dd(h:Fld P){x y:Fin P}(e:x=y)(w:World):(binOp .eql 68 (fv x) (fv y)).run prog w=.ok (.bool true) w:=by rw[eqR h,decide_eq_true e]
theorem GY(h:Fld P){x y:Fin P}(e:¬x=y)(w:World):(binOp .eql 68 (fv x) (fv y)).run prog w=.ok (.bool false) w:=by rw[eqR h,decide_eq_false e]
theorem neR(h:Fld P)(x y:Fin P)(w:World):(binOp .neq 68 (fv x) (fv y)).run prog w=.ok (.bool (!decide (x=y))) w:=by
 have h1:(binOp .neq 68 (fv x) (fv y)).run prog w=.ok (.bool (!decide (x.val%18446744073709551616=y.val%18446744073709551616/\x.val/18446744073709551616%18446744073709551616=y.val/18446744073709551616%18446744073709551616/\x.val/340282366920938463463374607431768211456%18446744073709551616=y.val/340282366920938463463374607431768211456%18446744073709551616/\x.val/6277101735386680763835789423207666416102355444464034512896%18446744073709551616=y.val/6277101735386680763835789423207666416102355444464034512896%18446744073709551616))) w:=L8 _ _ _ _ _ _ _ _ w;rw[h1];simp only[nZ (h.top x) (h.top y),<-WR]
theorem NH(h:Fld P){x y:Fin P}(e:x=y)(w:World):(binOp .neq 68 (fv x) (fv y)).run prog w=.ok (.bool false) w:=by rw[neR h,decide_eq_true e];rfl
theorem NG(h:Fld P){x y:Fin P}(e:¬x=y)(w:World):(binOp .neq 68 (fv x) (fv y)).run prog w=.ok (.bool true) w:=by rw[neR h,decide_eq_false e];rfl
theorem Iu:QD #[.int .u64 0,.int .u64 0,.int .u64 0,.int .u64 0,.int .u64 1,.int .u64 0,.int .u64 0,.int .u64 0,.int .u64 0,.int .u64 0,.int .u64 0,.int .u64 0]=.agg (([.int .u64 0,.int .u64 0,.int .u64 0,.int .u64 0]:List Value)++(([.int .u64 1,.int .u64 0,.int .u64 0,.int .u64 0]:List Value)++([.int .u64 0,.int .u64 0,.int .u64 0,.int .u64 0]:List Value))).toArray:=rfl
theorem BP(h:Fld P)(w:World):(UA 73 #[(1,fv (1:Fin P))]).run prog w=.ok (rv (0:Fin P) 1 0) w:=by
 unfold rv;rw[<-pZ,<-Lg h,<-wF h,<-Iu];kernel_rfl
theorem Jb(h:Fl3 P){m y:Fin P}(e:rt m=some y):Gives 146 #[rv0,fv m] (.tuple #[fv y,.bool true]):=fun w =>
 (uG _ _ _ _ _ _ _ _ P _ m.val h.ref h.p4 (h.four m) w).mono (by rintro e' w' ⟨v,rfl,hb,hF⟩;exact⟨_,rfl,hb,hF.val.1 y e⟩)
theorem Jc(h:Fl3 P){m:Fin P}(e:rt m=none):Gives 146 #[rv0,fv m] (.tuple #[fv (0:Fin P),.bool false]):=fun w =>
 (uG _ _ _ _ _ _ _ _ P _ m.val h.ref h.p4 (h.four m) w).mono (by rintro e' w' ⟨v,rfl,hb,hF⟩;exact⟨_,rfl,hb,hF.val.2 e⟩)
theorem u33:(prog.underlying 68).map (·.isRow)=some true:=by kernel_rfl
theorem i33:(prog.info? 68).map (·.size)=some 4:=by kernel_rfl
theorem u56:(prog.underlying 73).map (·.isRow)=some true:=by kernel_rfl
theorem i56:(prog.info? 73).map (·.size)=some 12:=by kernel_rfl
theorem u35:(prog.underlying 70).map (·.isRow)=some true:=by kernel_rfl
theorem i35:(prog.info? 70).map (·.size)=some 8:=by kernel_rfl
theorem bE:Gives 70 #[] rv0:=by
 intro w;go_enter Tryz.func70,Tryz.ntmps70;refine RG.M.enter [] 2 (by kernel_rfl) ?_;intro a0 M0;repeat refine wp_seq ?_
 refine M0.t [.m 0 [] 0] [(0,(RG.z 8))] [] [(RG.z 8)] [(0,(.p 0 0))] ⟨RG.mk 0 70,trivial⟩ ?_;intro j1 a1 w1 M1;repeat refine wp_seq ?_
 refine M1.t [.c 1 [] rv0,.u [(1,0)] 0] [] [(0,1,rl0)] [rl0] [(0,(.p 0 0))] ⟨RG.cl (Jf),RG.pt i35,trivial⟩ ?_;intro a2 w2 M2;refine wp_ret ?_;refine bodyPost_ret (v:=rv0) (RG.aC M2.st 0 70 rfl 0 _ rfl (M2.at (s:=(.p 0 0))) u35 i35) M2.sl.defers ?_;exact⟨_,rfl,M2.st.bel.below,rfl⟩
theorem xH(C:Fl3 P):Gives 27 #[] (rv (0:Fin P) 1 0):=by
 intro w;have hfin:((rv (0:Fin P) (1:Fin P) (0:Fin P)):Value)=(rv (0:Fin P) 1 0):=by
  subst_vars;rfl
 rw[<-hfin];go_enter Tryz.func27,Tryz.ntmps27;refine RG.M.enter [] 3 (by kernel_rfl) ?_;intro a0 M0;repeat refine wp_seq ?_
 refine M0.t [.m 0 [] 0] [(0,(RG.z 12))] [] [(RG.z 12)] [(0,(.p 0 0))] ⟨RG.mk 0 73,trivial⟩ ?_;intro j1 a1 w1 M1;repeat refine wp_seq ?_
 refine M1.t [.c 1 [] (fv (1:Fin P)),.x 2 [(1,0)] (rv (0:Fin P) (1:Fin P) (0:Fin P)),.u [(2,1)] 0] [] [(0,2,(ws (0:Fin P)++(ws (1:Fin P)++(ws (0:Fin P)))))] [(ws (0:Fin P)++(ws (1:Fin P)++(ws (0:Fin P))))] [(0,(.p 0 0))] ⟨RG.cl (oL C),RG.zW rfl 73 1 1 rfl (fv (1:Fin P)) (rv (0:Fin P) (1:Fin P) (0:Fin P)) rfl RG.sx (BP C.toFld),RG.pt i56,trivial⟩ ?_;intro a2 w2 M2;refine wp_ret ?_;refine bodyPost_ret (v:=(rv (0:Fin P) (1:Fin P) (0:Fin P))) (RG.aC M2.st 0 73 rfl 0 _ rfl (M2.at (s:=(.p 0 0))) u56 i56) M2.sl.defers ?_;exact⟨_,rfl,M2.st.bel.below,rfl⟩
theorem mI(C:Fl3 P)(x y z:Fin P)(hz:z=0):Gives 63 #[(rv x y z)] (.bool true):=by
 intro w;go_enter Tryz.func63,Tryz.ntmps63;refine RG.M.enter [(0,(.v (rv x y z)))] 6 (by kernel_rfl) ?_;intro a0 M0;repeat refine wp_seq ?_
 refine M0.t [.m 1 [] 0,.x 2 [] (.bool false)] [(0,(ws x++(ws y++(ws z))))] [] [(ws x++(ws y++(ws z)))] [(1,(.p 0 0)),(2,(.v (.bool false)))] ⟨RG.mk 0 73,RG.st,trivial⟩ ?_;intro j1 a1 w1 M1;repeat refine wp_seq ?_
 refine M1.u [.s 3 [] (.p 0 8),.x 4 [(3,0)] (fv z),.c 5 [(4,1)] (.bool true),.x 2 [(5,2)] (.bool true)] [(2,(.v (.bool true)))] ⟨RG.st,RG.ld u33 i33,RG.cl (Ja C hz),RG.st,trivial⟩ ?_;intro a2 w2 M2;refine wp_ret ?_;refine bodyPost_ret (v:=(.bool true)) (RG.bM 2 rfl _ (M2.at (s:=(.v (.bool true))))) M2.sl.defers ?_;exact⟨_,rfl,M2.st.bel.below,rfl⟩
theorem gK(C:Fl3 P)(x y z:Fin P)(hz:¬z=0):Gives 63 #[(rv x y z)] (.bool false):=by
 intro w;go_enter Tryz.func63,Tryz.ntmps63;refine RG.M.enter [(0,(.v (rv x y z)))] 6 (by kernel_rfl) ?_;intro a0 M0;repeat refine wp_seq ?_
 refine M0.t [.m 1 [] 0,.x 2 [] (.bool false)] [(0,(ws x++(ws y++(ws z))))] [] [(ws x++(ws y++(ws z)))] [(1,(.p 0 0)),(2,(.v (.bool false)))] ⟨RG.mk 0 73,RG.st,trivial⟩ ?_;intro j1 a1 w1 M1;repeat refine wp_seq ?_
 refine M1.u [.s 3 [] (.p 0 8),.x 4 [(3,0)] (fv z),.c 5 [(4,1)] (.bool false),.x 2 [(5,2)] (.bool false)] [(2,(.v (.bool false)))] ⟨RG.st,RG.ld u33 i33,RG.cl (CH C hz),RG.st,trivial⟩ ?_;intro a2 w2 M2;refine wp_ret ?_;refine bodyPost_ret (v:=(.bool false)) (RG.bM 2 rfl _ (M2.at (s:=(.v (.bool false))))) M2.sl.defers ?_;exact⟨_,rfl,M2.st.bel.below,rfl⟩
theorem D8(C:Fl3 P)(x y z:Fin P):Gives 72 #[(rv x y z)] (rv ((EC.fdE y z)*(EC.fdT x y z)) ((EC.fdD x)*(x*((EC.fdE y z)*(EC.fdE y z))-(EC.fdT x y z))-y*((EC.fdE y z)*(EC.fdE y z)*(EC.fdE y z))) ((EC.fdE y z)*(EC.fdE y z)*(EC.fdE y z)*z)):=by
 intro w;obtain⟨c1,hc1⟩:∃c,c=x*x:=⟨_,rfl⟩
 obtain⟨c2,hc2⟩:∃c,c=c1+c1:=⟨_,rfl⟩
 obtain⟨c3,hc3⟩:∃c,c=c2+c1:=⟨_,rfl⟩
 obtain⟨c4,hc4⟩:∃c,c=y+y:=⟨_,rfl⟩
 obtain⟨c5,hc5⟩:∃c,c=c4*z:=⟨_,rfl⟩
 obtain⟨c6,hc6⟩:∃c,c=c5*c5:=⟨_,rfl⟩
 obtain⟨c7,hc7⟩:∃c,c=c6*c5:=⟨_,rfl⟩
 obtain⟨c8,hc8⟩:∃c,c=c3*c3:=⟨_,rfl⟩
 obtain⟨c9,hc9⟩:∃c,c=c8*z:=⟨_,rfl⟩
 obtain⟨c10,hc10⟩:∃c,c=x+x:=⟨_,rfl⟩
 obtain⟨c11,hc11⟩:∃c,c=c10*c6:=⟨_,rfl⟩
 obtain⟨c12,hc12⟩:∃c,c=c9-c11:=⟨_,rfl⟩
 obtain⟨c13,hc13⟩:∃c,c=c5*c12:=⟨_,rfl⟩
 obtain⟨c14,hc14⟩:∃c,c=x*c6:=⟨_,rfl⟩
 obtain⟨c15,hc15⟩:∃c,c=c14-c12:=⟨_,rfl⟩
 obtain⟨c16,hc16⟩:∃c,c=c3*c15:=⟨_,rfl⟩
 obtain⟨c17,hc17⟩:∃c,c=y*c7:=⟨_,rfl⟩
 obtain⟨c18,hc18⟩:∃c,c=c16-c17:=⟨_,rfl⟩
 obtain⟨c19,hc19⟩:∃c,c=c7*z:=⟨_,rfl⟩
 have hfin:((rv c13 c18 c19):Value)=(rv ((EC.fdE y z)*(EC.fdT x y z)) ((EC.fdD x)*(x*((EC.fdE y z)*(EC.fdE y z))-(EC.fdT x y z))-y*((EC.fdE y z)*(EC.fdE y z)*(EC.fdE y z))) ((EC.fdE y z)*(EC.fdE y z)*(EC.fdE y z)*z)):=by
  subst_vars;rfl
 rw[<-hfin];go_enter Tryz.func72,Tryz.ntmps72;refine RG.M.enter [(0,(.v (rv x y z)))] 91 (by kernel_rfl) ?_;intro a0 M0;repeat refine wp_seq ?_
 refine M0.t [.m 1 [] 0,.m 2 [] 1] [(0,(ws x++(ws y++(ws z)))),(1,(RG.z 12))] [] [(ws x++(ws y++(ws z))),(RG.z 12)] [(1,(.p 0 0)),(2,(.p 1 0))] ⟨RG.mk 0 73,RG.mk 1 73,trivial⟩ ?_;intro j1 i1 a1 w1 M1;repeat refine wp_seq ?_
 refine M1.d [.c 11 [] rv0,.s 12 [] (.p 0 0),.x 13 [(12,1)] (fv x),.s 14 [] (.p 0 0),.x 15 [(14,3)] (fv x),.c 16 [(11,0),(13,2),(15,4)] (fv c1),.m 3 [] 2,.u [(3,6),(16,5)] 2] [(6,(RG.z 4))] [(2,7,(ws c1))] [(ws x++(ws y++(ws z))),(RG.z 12),(ws c1)] [(1,(.p 0 0)),(2,(.p 1 0)),(3,(.p 2 0))] ⟨RG.cl (bE),RG.st,RG.ld u33 i33,RG.st,RG.ld u33 i33,RG.cl ((aS C x x).e hc1),RG.mk 2 68,RG.pt i33,trivial⟩ ?_;intro j2 a2 w2 M2;repeat refine wp_seq ?_
 refine M2.d [.c 17 [] rv0,.c 18 [] rv0,.x 19 [] (fv c1),.x 20 [] (fv c1),.c 21 [(18,1),(19,2),(20,3)] (fv c2),.x 22 [] (fv c1),.c 23 [(17,0),(21,4),(22,5)] (fv c3),.m 4 [] 3,.u [(4,7),(23,6)] 3] [(7,(RG.z 4))] [(3,8,(ws c3))] [(ws x++(ws y++(ws z))),(RG.z 12),(ws c1),(ws c3)] [(1,(.p 0 0)),(2,(.p 1 0)),(4,(.p 3 0))] ⟨RG.cl (bE),RG.cl (bE),RG.ld u33 i33,RG.ld u33 i33,RG.cl ((mC C c1 c1).e hc2),RG.ld u33 i33,RG.cl ((mC C c2 c1).e hc3),RG.mk 3 68,RG.pt i33,trivial⟩ ?_;intro j3 a3 w3 M3;repeat refine wp_seq ?_
 refine M3.d [.c 24 [] rv0,.c 25 [] rv0,.s 26 [] (.p 0 4),.x 27 [(26,2)] (fv y),.s 28 [] (.p 0 4),.x 29 [(28,4)] (fv y),.c 30 [(25,1),(27,3),(29,5)] (fv c4),.s 31 [] (.p 0 8),.x 32 [(31,7)] (fv z),.c 33 [(24,0),(30,6),(32,8)] (fv c5),.m 5 [] 4,.u [(5,10),(33,9)] 4] [(10,(RG.z 4))] [(4,11,(ws c5))] [(ws x++(ws y++(ws z))),(RG.z 12),(ws c1),(ws c3),(ws c5)] [(1,(.p 0 0)),(2,(.p 1 0)),(4,(.p 3 0)),(5,(.p 4 0))] ⟨RG.cl (bE),RG.cl (bE),RG.st,RG.ld u33 i33,RG.st,RG.ld u33 i33,RG.cl ((mC C y y).e hc4),RG.st,RG.ld u33 i33,RG.cl ((aS C c4 z).e hc5),RG.mk 4 68,RG.pt i33,trivial⟩ ?_;intro j4 a4 w4 M4;repeat refine wp_seq ?_
 refine M4.d [.c 34 [] rv0,.x 35 [] (fv c5),.x 36 [] (fv c5),.c 37 [(34,0),(35,1),(36,2)] (fv c6),.m 6 [] 5,.u [(6,4),(37,3)] 5] [(4,(RG.z 4))] [(5,5,(ws c6))] [(ws x++(ws y++(ws z))),(RG.z 12),(ws c1),(ws c3),(ws c5),(ws c6)] [(1,(.p 0 0)),(2,(.p 1 0)),(4,(.p 3 0)),(5,(.p 4 0)),(6,(.p 5 0))] ⟨RG.cl (bE),RG.ld u33 i33,RG.ld u33 i33,RG.cl ((aS C c5 c5).e hc6),RG.mk 5 68,RG.pt i33,trivial⟩ ?_;intro j5 a5 w5 M5;repeat refine wp_seq ?_
 refine M5.d [.c 38 [] rv0,.x 39 [] (fv c6),.x 40 [] (fv c5),.c 41 [(38,0),(39,1),(40,2)] (fv c7),.m 7 [] 6,.u [(7,4),(41,3)] 6] [(4,(RG.z 4))] [(6,5,(ws c7))] [(ws x++(ws y++(ws z))),(RG.z 12),(ws c1),(ws c3),(ws c5),(ws c6),(ws c7)] [(1,(.p 0 0)),(2,(.p 1 0)),(4,(.p 3 0)),(5,(.p 4 0)),(6,(.p 5 0)),(7,(.p 6 0))] ⟨RG.cl (bE),RG.ld u33 i33,RG.ld u33 i33,RG.cl ((aS C c6 c5).e hc7),RG.mk 6 68,RG.pt i33,trivial⟩ ?_;intro j6 a6 w6 M6;repeat refine wp_seq ?_
 refine M6.d [.c 42 [] rv0,.c 43 [] rv0,.c 44 [] rv0,.x 45 [] (fv c3),.x 46 [] (fv c3),.c 47 [(44,2),(45,3),(46,4)] (fv c8),.s 48 [] (.p 0 8),.x 49 [(48,6)] (fv z),.c 50 [(43,1),(47,5),(49,7)] (fv c9),.c 51 [] rv0,.c 52 [] rv0,.s 53 [] (.p 0 0),.x 54 [(53,11)] (fv x),.s 55 [] (.p 0 0),.x 56 [(55,13)] (fv x),.c 57 [(52,10),(54,12),(56,14)] (fv c10),.x 58 [] (fv c6),.c 59 [(51,9),(57,15),(58,16)] (fv c11),.c 60 [(42,0),(50,8),(59,17)] (fv c12),.m 8 [] 7,.u [(8,19),(60,18)] 7] [(19,(RG.z 4))] [(7,20,(ws c12))] [(ws x++(ws y++(ws z))),(RG.z 12),(ws c1),(ws c3),(ws c5),(ws c6),(ws c7),(ws c12)] [(1,(.p 0 0)),(2,(.p 1 0)),(4,(.p 3 0)),(5,(.p 4 0)),(6,(.p 5 0)),(7,(.p 6 0)),(8,(.p 7 0))] ⟨RG.cl (bE),RG.cl (bE),RG.cl (bE),RG.ld u33 i33,RG.ld u33 i33,RG.cl ((aS C c3 c3).e hc8),RG.st,RG.ld u33 i33,RG.cl ((aS C c8 z).e hc9),RG.cl (bE),RG.cl (bE),RG.st,RG.ld u33 i33,RG.st,RG.ld u33 i33,RG.cl ((mC C x x).e hc10),RG.ld u33 i33,RG.cl ((aS C c10 c6).e hc11),RG.cl ((jF C c9 c11).e hc12),RG.mk 7 68,RG.pt i33,trivial⟩ ?_;intro j7 a7 w7 M7;repeat refine wp_seq ?_
 refine M7.d [.c 61 [] rv0,.x 62 [] (fv c5),.x 63 [] (fv c12),.c 64 [(61,0),(62,1),(63,2)] (fv c13),.m 9 [] 8,.u [(9,4),(64,3)] 8] [(4,(RG.z 4))] [(8,5,(ws c13))] [(ws x++(ws y++(ws z))),(RG.z 12),(ws c1),(ws c3),(ws c5),(ws c6),(ws c7),(ws c12),(ws c13)] [(1,(.p 0 0)),(2,(.p 1 0)),(4,(.p 3 0)),(6,(.p 5 0)),(7,(.p 6 0)),(8,(.p 7 0)),(9,(.p 8 0))] ⟨RG.cl (bE),RG.ld u33 i33,RG.ld u33 i33,RG.cl ((aS C c5 c12).e hc13),RG.mk 8 68,RG.pt i33,trivial⟩ ?_;intro j8 a8 w8 M8;repeat refine wp_seq ?_
 refine M8.d [.c 65 [] rv0,.c 66 [] rv0,.x 67 [] (fv c3),.c 68 [] rv0,.c 69 [] rv0,.s 70 [] (.p 0 0),.x 71 [(70,5)] (fv x),.x 72 [] (fv c6),.c 73 [(69,4),(71,6),(72,7)] (fv c14),.x 74 [] (fv c12),.c 75 [(68,3),(73,8),(74,9)] (fv c15),.c 76 [(66,1),(67,2),(75,10)] (fv c16),.c 77 [] rv0,.s 78 [] (.p 0 4),.x 79 [(78,13)] (fv y),.x 80 [] (fv c7),.c 81 [(77,12),(79,14),(80,15)] (fv c17),.c 82 [(65,0),(76,11),(81,16)] (fv c18),.m 10 [] 9,.u [(10,18),(82,17)] 9] [(18,(RG.z 4))] [(9,19,(ws c18))] [(ws x++(ws y++(ws z))),(RG.z 12),(ws c1),(ws c3),(ws c5),(ws c6),(ws c7),(ws c12),(ws c13),(ws c18)] [(1,(.p 0 0)),(2,(.p 1 0)),(7,(.p 6 0)),(9,(.p 8 0)),(10,(.p 9 0))] ⟨RG.cl (bE),RG.cl (bE),RG.ld u33 i33,RG.cl (bE),RG.cl (bE),RG.st,RG.ld u33 i33,RG.ld u33 i33,RG.cl ((aS C x c6).e hc14),RG.ld u33 i33,RG.cl ((jF C c14 c12).e hc15),RG.cl ((aS C c3 c15).e hc16),RG.cl (bE),RG.st,RG.ld u33 i33,RG.ld u33 i33,RG.cl ((aS C y c7).e hc17),RG.cl ((jF C c16 c17).e hc18),RG.mk 9 68,RG.pt i33,trivial⟩ ?_;intro j9 a9 w9 M9;repeat refine wp_seq ?_
 refine M9.d [.x 83 [] (fv c13),.x 84 [] (fv c18),.c 85 [] rv0,.x 86 [] (fv c7),.s 87 [] (.p 0 8),.x 88 [(87,4)] (fv z),.c 89 [(85,2),(86,3),(88,5)] (fv c19),.x 90 [(83,0),(84,1),(89,6)] (rv c13 c18 c19),.u [(90,7)] 1] [] [(1,8,(ws c13++(ws c18++(ws c19))))] [(ws x++(ws y++(ws z))),(ws c13++(ws c18++(ws c19))),(ws c1),(ws c3),(ws c5),(ws c6),(ws c7),(ws c12),(ws c13),(ws c18)] [(2,(.p 1 0))] ⟨RG.ld u33 i33,RG.ld u33 i33,RG.cl (bE),RG.ld u33 i33,RG.st,RG.ld u33 i33,RG.cl ((aS C c7 z).e hc19),RG.st,RG.pt i56,trivial⟩ ?_;intro a10 w10 M10;refine wp_ret ?_;refine bodyPost_ret (v:=(rv c13 c18 c19)) (RG.aC M10.st 2 73 rfl 1 _ rfl (M10.at (s:=(.p 1 0))) u56 i56) M10.sl.defers ?_;exact⟨_,rfl,M10.st.bel.below,rfl⟩
theorem Je(C:Fl3 P)(x y z:Fin P):Gives 108 #[(rv x y z)] (rv x (0-y) z):=by
 intro w;obtain⟨c1,hc1⟩:∃c,c=0-y:=⟨_,rfl⟩
 have hfin:((rv x c1 z):Value)=(rv x (0-y) z):=by
  subst_vars;rfl
 rw[<-hfin];go_enter Tryz.func108,Tryz.ntmps108;refine RG.M.enter [(0,(.v (rv x y z)))] 12 (by kernel_rfl) ?_;intro a0 M0;repeat refine wp_seq ?_
 refine M0.t [.m 1 [] 0,.m 2 [] 1] [(0,(ws x++(ws y++(ws z)))),(1,(RG.z 12))] [] [(ws x++(ws y++(ws z))),(RG.z 12)] [(1,(.p 0 0)),(2,(.p 1 0))] ⟨RG.mk 0 73,RG.mk 1 73,trivial⟩ ?_;intro j1 i1 a1 w1 M1;repeat refine wp_seq ?_
 refine M1.d [.s 3 [] (.p 0 0),.x 4 [(3,0)] (fv x),.c 5 [] rv0,.s 6 [] (.p 0 4),.x 7 [(6,3)] (fv y),.c 8 [(5,2),(7,4)] (fv c1),.s 9 [] (.p 0 8),.x 10 [(9,6)] (fv z),.x 11 [(4,1),(8,5),(10,7)] (rv x c1 z),.u [(11,8)] 1] [] [(1,9,(ws x++(ws c1++(ws z))))] [(ws x++(ws y++(ws z))),(ws x++(ws c1++(ws z)))] [(2,(.p 1 0))] ⟨RG.st,RG.ld u33 i33,RG.cl (bE),RG.st,RG.ld u33 i33,RG.cl ((LH C y).e hc1),RG.st,RG.ld u33 i33,RG.st,RG.pt i56,trivial⟩ ?_;intro a2 w2 M2;refine wp_ret ?_;refine bodyPost_ret (v:=(rv x c1 z)) (RG.aC M2.st 2 73 rfl 1 _ rfl (M2.at (s:=(.p 1 0))) u56 i56) M2.sl.defers ?_;exact⟨_,rfl,M2.st.bel.below,rfl⟩
theorem AN(C:Fl3 P)(x1 y1 z1 x2 y2 z2:Fin P)(R:Value)(ha:z1=0->R=(rv x2 y2 z2))(hb:¬z1=0->z2=0->R=(rv x1 y1 z1))(hd:¬z1=0->¬z2=0->x2*z1=x1*z2->(¬y2*z1=y1*z2/\R=(rv (0:Fin P) 1 0))\/(y2*z1=y1*z2/\¬y2*z1=0/\R=(rv ((EC.fdE y1 z1)*(EC.fdT x1 y1 z1)) ((EC.fdD x1)*(x1*((EC.fdE y1 z1)*(EC.fdE y1 z1))-(EC.fdT x1 y1 z1))-y1*((EC.fdE y1 z1)*(EC.fdE y1 z1)*(EC.fdE y1 z1))) ((EC.fdE y1 z1)*(EC.fdE y1 z1)*(EC.fdE y1 z1)*z1))))(he:¬z1=0->¬z2=0->¬x2*z1=x1*z2->R=(rv ((x2*z1-x1*z2)*EC.frT (y2*z1-y1*z2) (x2*z1-x1*z2) (z1*z2) (x1*z2)) ((y2*z1-y1*z2)*(x1*z2*((x2*z1-x1*z2)*(x2*z1-x1*z2))-EC.frT (y2*z1-y1*z2) (x2*z1-x1*z2) (z1*z2) (x1*z2))-y1*z2*((x2*z1-x1*z2)*(x2*z1-x1*z2)*(x2*z1-x1*z2))) ((x2*z1-x1*z2)*(x2*z1-x1*z2)*(x2*z1-x1*z2)*(z1*z2)))):Gives 35 #[(rv x1 y1 z1),(rv x2 y2 z2)] R:=by
 intro w;obtain⟨c1,hc1⟩:∃c,c=y2*z1:=⟨_,rfl⟩
 obtain⟨c2,hc2⟩:∃c,c=x2*z1:=⟨_,rfl⟩
 obtain⟨c3,hc3⟩:∃c,c=y1*z2:=⟨_,rfl⟩
 obtain⟨c4,hc4⟩:∃c,c=x1*z2:=⟨_,rfl⟩
 go_enter Tryz.func35,Tryz.ntmps35;refine RG.M.enter [(0,(.v (rv x1 y1 z1))),(1,(.v (rv x2 y2 z2)))] 127 (by kernel_rfl) ?_;intro a0 M0;repeat refine wp_seq ?_
 refine M0.t [.m 2 [] 0,.m 3 [] 1,.m 4 [] 2] [(0,(ws x1++(ws y1++(ws z1)))),(1,(ws x2++(ws y2++(ws z2)))),(2,(RG.z 12))] [] [(ws x1++(ws y1++(ws z1))),(ws x2++(ws y2++(ws z2))),(RG.z 12)] [(2,(.p 0 0)),(3,(.p 1 0)),(4,(.p 2 0))] ⟨RG.mk 0 73,RG.mk 1 73,RG.mk 2 73,trivial⟩ ?_;intro j1 i1 m1 a1 w1 M1;repeat refine wp_seq ?_
 by_cases hz1:z1=0
 ·obtain rfl:=ha hz1;refine M1.u [.x 16 [] (rv x1 y1 z1),.c 17 [(16,0)] (.bool true),.x 5 [(17,1)] (.bool true)] [(3,(.p 1 0)),(4,(.p 2 0)),(5,(.v (.bool true)))] ⟨RG.ld u56 i56,RG.cl (mI C x1 y1 z1 hz1),RG.st,trivial⟩ ?_;intro a2 w2 M2;repeat refine wp_seq ?_
  refine M2.u [.x 18 [] (.bool true)] [(3,(.p 1 0)),(4,(.p 2 0)),(18,(.v (.bool true)))] ⟨RG.st,trivial⟩ ?_;intro a3 w3 M3;repeat refine wp_seq ?_
  refine wp_cond_true M3.ev ?_;repeat refine wp_seq ?_
  refine M3.t [.x 19 [] (rv x2 y2 z2),.u [(19,0)] 2] [] [(2,1,(ws x2++(ws y2++(ws z2))))] [(ws x1++(ws y1++(ws z1))),(ws x2++(ws y2++(ws z2))),(ws x2++(ws y2++(ws z2)))] [(4,(.p 2 0))] ⟨RG.ld u56 i56,RG.pt i56,trivial⟩ ?_;intro a4 w4 M4;refine wp_ret ?_;refine bodyPost_ret (v:=(rv x2 y2 z2)) (RG.aC M4.st 4 73 rfl 2 _ rfl (M4.at (s:=(.p 2 0))) u56 i56) M4.sl.defers ?_;exact⟨_,rfl,M4.st.bel.below,rfl⟩
 refine M1.u [.x 16 [] (rv x1 y1 z1),.c 17 [(16,0)] (.bool false),.x 5 [(17,1)] (.bool false)] [(2,(.p 0 0)),(3,(.p 1 0)),(4,(.p 2 0)),(5,(.v (.bool false)))] ⟨RG.ld u56 i56,RG.cl (gK C x1 y1 z1 hz1),RG.st,trivial⟩ ?_;intro a2 w2 M2;repeat refine wp_seq ?_
 refine M2.u [.x 18 [] (.bool false)] [(2,(.p 0 0)),(3,(.p 1 0)),(4,(.p 2 0)),(5,(.v (.bool false))),(18,(.v (.bool false)))] ⟨RG.st,trivial⟩ ?_;intro a3 w3 M3;repeat refine wp_seq ?_
 refine wp_cond_false M3.ev ?_;refine wp_skip ?_;repeat refine wp_seq ?_
 by_cases hz2:z2=0
 ·obtain rfl:=hb hz1 hz2;refine M3.u [.x 20 [] (rv x2 y2 z2),.c 21 [(20,0)] (.bool true),.x 5 [(21,1)] (.bool true)] [(2,(.p 0 0)),(4,(.p 2 0)),(5,(.v (.bool true)))] ⟨RG.ld u56 i56,RG.cl (mI C x2 y2 z2 hz2),RG.st,trivial⟩ ?_;intro a4 w4 M4;repeat refine wp_seq ?_
  refine M4.u [.x 22 [] (.bool true)] [(2,(.p 0 0)),(4,(.p 2 0)),(22,(.v (.bool true)))] ⟨RG.st,trivial⟩ ?_;intro a5 w5 M5;repeat refine wp_seq ?_
  refine wp_cond_true M5.ev ?_;repeat refine wp_seq ?_
  refine M5.t [.x 23 [] (rv x1 y1 z1),.u [(23,0)] 2] [] [(2,1,(ws x1++(ws y1++(ws z1))))] [(ws x1++(ws y1++(ws z1))),(ws x2++(ws y2++(ws z2))),(ws x1++(ws y1++(ws z1)))] [(4,(.p 2 0))] ⟨RG.ld u56 i56,RG.pt i56,trivial⟩ ?_;intro a6 w6 M6;refine wp_ret ?_;refine bodyPost_ret (v:=(rv x1 y1 z1)) (RG.aC M6.st 4 73 rfl 2 _ rfl (M6.at (s:=(.p 2 0))) u56 i56) M6.sl.defers ?_;exact⟨_,rfl,M6.st.bel.below,rfl⟩
 refine M3.u [.x 20 [] (rv x2 y2 z2),.c 21 [(20,0)] (.bool false),.x 5 [(21,1)] (.bool false)] [(2,(.p 0 0)),(3,(.p 1 0)),(4,(.p 2 0)),(5,(.v (.bool false)))] ⟨RG.ld u56 i56,RG.cl (gK C x2 y2 z2 hz2),RG.st,trivial⟩ ?_;intro a4 w4 M4;repeat refine wp_seq ?_
 refine M4.u [.x 22 [] (.bool false)] [(2,(.p 0 0)),(3,(.p 1 0)),(4,(.p 2 0)),(22,(.v (.bool false)))] ⟨RG.st,trivial⟩ ?_;intro a5 w5 M5;repeat refine wp_seq ?_
 refine wp_cond_false M5.ev ?_;refine wp_skip ?_;repeat refine wp_seq ?_
 refine M5.d [.c 24 [] rv0,.s 25 [] (.p 1 4),.x 26 [(25,1)] (fv y2),.s 27 [] (.p 0 8),.x 28 [(27,3)] (fv z1),.c 29 [(24,0),(26,2),(28,4)] (fv c1),.m 6 [] 3,.u [(6,6),(29,5)] 3] [(6,(RG.z 4))] [(3,7,(ws c1))] [(ws x1++(ws y1++(ws z1))),(ws x2++(ws y2++(ws z2))),(RG.z 12),(ws c1)] [(2,(.p 0 0)),(3,(.p 1 0)),(4,(.p 2 0)),(6,(.p 3 0))] ⟨RG.cl (bE),RG.st,RG.ld u33 i33,RG.st,RG.ld u33 i33,RG.cl ((aS C y2 z1).e hc1),RG.mk 3 68,RG.pt i33,trivial⟩ ?_;intro j6 a6 w6 M6;repeat refine wp_seq ?_
 refine M6.d [.c 30 [] rv0,.s 31 [] (.p 1 0),.x 32 [(31,1)] (fv x2),.s 33 [] (.p 0 8),.x 34 [(33,3)] (fv z1),.c 35 [(30,0),(32,2),(34,4)] (fv c2),.m 7 [] 4,.u [(7,6),(35,5)] 4] [(6,(RG.z 4))] [(4,7,(ws c2))] [(ws x1++(ws y1++(ws z1))),(ws x2++(ws y2++(ws z2))),(RG.z 12),(ws c1),(ws c2)] [(2,(.p 0 0)),(3,(.p 1 0)),(4,(.p 2 0)),(6,(.p 3 0)),(7,(.p 4 0))] ⟨RG.cl (bE),RG.st,RG.ld u33 i33,RG.st,RG.ld u33 i33,RG.cl ((aS C x2 z1).e hc2),RG.mk 4 68,RG.pt i33,trivial⟩ ?_;intro j7 a7 w7 M7;repeat refine wp_seq ?_
 refine M7.d [.c 36 [] rv0,.s 37 [] (.p 0 4),.x 38 [(37,1)] (fv y1),.s 39 [] (.p 1 8),.x 40 [(39,3)] (fv z2),.c 41 [(36,0),(38,2),(40,4)] (fv c3),.m 8 [] 5,.u [(8,6),(41,5)] 5] [(6,(RG.z 4))] [(5,7,(ws c3))] [(ws x1++(ws y1++(ws z1))),(ws x2++(ws y2++(ws z2))),(RG.z 12),(ws c1),(ws c2),(ws c3)] [(2,(.p 0 0)),(3,(.p 1 0)),(4,(.p 2 0)),(6,(.p 3 0)),(7,(.p 4 0)),(8,(.p 5 0))] ⟨RG.cl (bE),RG.st,RG.ld u33 i33,RG.st,RG.ld u33 i33,RG.cl ((aS C y1 z2).e hc3),RG.mk 5 68,RG.pt i33,trivial⟩ ?_;intro j8 a8 w8 M8;repeat refine wp_seq ?_
 refine M8.d [.c 42 [] rv0,.s 43 [] (.p 0 0),.x 44 [(43,1)] (fv x1),.s 45 [] (.p 1 8),.x 46 [(45,3)] (fv z2),.c 47 [(42,0),(44,2),(46,4)] (fv c4),.m 9 [] 6,.u [(9,6),(47,5)] 6] [(6,(RG.z 4))] [(6,7,(ws c4))] [(ws x1++(ws y1++(ws z1))),(ws x2++(ws y2++(ws z2))),(RG.z 12),(ws c1),(ws c2),(ws c3),(ws c4)] [(2,(.p 0 0)),(3,(.p 1 0)),(4,(.p 2 0)),(6,(.p 3 0)),(7,(.p 4 0)),(8,(.p 5 0)),(9,(.p 6 0))] ⟨RG.cl (bE),RG.st,RG.ld u33 i33,RG.st,RG.ld u33 i33,RG.cl ((aS C x1 z2).e hc4),RG.mk 6 68,RG.pt i33,trivial⟩ ?_;intro j9 a9 w9 M9;repeat refine wp_seq ?_
 by_cases hv:x2*z1=x1*z2
 ·have hR:=hd hz1 hz2 hv;refine M9.u [.x 48 [] (fv c2),.x 49 [] (fv c4),.x 50 [(48,0),(49,1)] (.bool true)] [(2,(.p 0 0)),(4,(.p 2 0)),(6,(.p 3 0)),(8,(.p 5 0)),(50,(.v (.bool true)))] ⟨RG.ld u33 i33,RG.ld u33 i33,RG.aG rfl .eql 68 68 48 49 (fv c2) (fv c4) (.bool true) rfl rfl RG.sx RG.sx (fun w=>by kernel_rfl) (Dd C.toFld (by subst_vars;exact hv)),trivial⟩ ?_;intro a10 w10 M10;repeat refine wp_seq ?_
  refine wp_cond_true M10.ev ?_;repeat refine wp_seq ?_
  rcases hR with⟨hu,rfl⟩|⟨hu,hn,hR⟩
  ·refine M10.u [.x 51 [] (fv c1),.x 52 [] (fv c3),.x 53 [(51,0),(52,1)] (.bool true),.x 54 [(53,2)] (.bool true),⟨some 55,[],(.v undef),.pass⟩,⟨some 56,[],(.v undef),.pass⟩,.x 57 [(54,3),(56,5)] (.bool true)] [(4,(.p 2 0)),(57,(.v (.bool true)))] ⟨RG.ld u33 i33,RG.ld u33 i33,RG.aG rfl .neq 68 68 51 52 (fv c1) (fv c3) (.bool true) rfl rfl RG.sx RG.sx (fun w=>by kernel_rfl) (NG C.toFld (by subst_vars;exact hu)),RG.st,RG.aH rfl rfl,RG.aH rfl rfl,RG.st,trivial⟩ ?_;intro a11 w11 M11;repeat refine wp_seq ?_
   refine wp_cond_true M11.ev ?_;repeat refine wp_seq ?_
   refine M11.t [.c 58 [] (rv (0:Fin P) (1:Fin P) (0:Fin P)),.u [(58,0)] 2] [] [(2,1,(ws (0:Fin P)++(ws (1:Fin P)++(ws (0:Fin P)))))] [(ws x1++(ws y1++(ws z1))),(ws x2++(ws y2++(ws z2))),(ws (0:Fin P)++(ws (1:Fin P)++(ws (0:Fin P)))),(ws c1),(ws c2),(ws c3),(ws c4)] [(4,(.p 2 0))] ⟨RG.cl (xH C),RG.pt i56,trivial⟩ ?_;intro a12 w12 M12;refine wp_ret ?_;refine bodyPost_ret (v:=(rv (0:Fin P) (1:Fin P) (0:Fin P))) (RG.aC M12.st 4 73 rfl 2 _ rfl (M12.at (s:=(.p 2 0))) u56 i56) M12.sl.defers ?_;exact⟨_,rfl,M12.st.bel.below,rfl⟩
  obtain⟨c5,hc5⟩:∃c,c=(EC.fdE y1 z1)*(EC.fdT x1 y1 z1):=⟨_,rfl⟩
  obtain⟨c6,hc6⟩:∃c,c=(EC.fdD x1)*(x1*((EC.fdE y1 z1)*(EC.fdE y1 z1))-(EC.fdT x1 y1 z1))-y1*((EC.fdE y1 z1)*(EC.fdE y1 z1)*(EC.fdE y1 z1)):=⟨_,rfl⟩
  obtain⟨c7,hc7⟩:∃c,c=(EC.fdE y1 z1)*(EC.fdE y1 z1)*(EC.fdE y1 z1)*z1:=⟨_,rfl⟩
  obtain rfl:R=rv c5 c6 c7:=hR.trans (by subst_vars;rfl);refine M10.u [.x 51 [] (fv c1),.x 52 [] (fv c3),.x 53 [(51,0),(52,1)] (.bool false),.x 54 [(53,2)] (.bool false),.x 55 [] (fv c1),.c 56 [(55,4)] (.bool false),.x 57 [(54,3),(56,5)] (.bool false)] [(2,(.p 0 0)),(4,(.p 2 0)),(57,(.v (.bool false)))] ⟨RG.ld u33 i33,RG.ld u33 i33,RG.aG rfl .neq 68 68 51 52 (fv c1) (fv c3) (.bool false) rfl rfl RG.sx RG.sx (fun w=>by kernel_rfl) (NH C.toFld (by subst_vars;exact hu)),RG.st,RG.ld u33 i33,RG.cl (f:=71) (args:=#[(fv c1)]) (v:=(.bool false)) (CH C (by subst_vars;exact hn)),RG.st,trivial⟩ ?_;intro a11 w11 M11;repeat refine wp_seq ?_
  refine wp_cond_false M11.ev ?_;refine wp_skip ?_;repeat refine wp_seq ?_
  refine M11.t [.x 59 [] (rv x1 y1 z1),.c 60 [(59,0)] (rv c5 c6 c7),.u [(60,1)] 2] [] [(2,2,(ws c5++(ws c6++(ws c7))))] [(ws x1++(ws y1++(ws z1))),(ws x2++(ws y2++(ws z2))),(ws c5++(ws c6++(ws c7))),(ws c1),(ws c2),(ws c3),(ws c4)] [(4,(.p 2 0))] ⟨RG.ld u56 i56,RG.cl ((D8 C x1 y1 z1).e3 hc5 hc6 hc7),RG.pt i56,trivial⟩ ?_;intro a12 w12 M12;refine wp_ret ?_;refine bodyPost_ret (v:=(rv c5 c6 c7)) (RG.aC M12.st 4 73 rfl 2 _ rfl (M12.at (s:=(.p 2 0))) u56 i56) M12.sl.defers ?_;exact⟨_,rfl,M12.st.bel.below,rfl⟩
 have hR:=he hz1 hz2 hv;obtain⟨c5,hc5⟩:∃c,c=c1-c3:=⟨_,rfl⟩
 obtain⟨c6,hc6⟩:∃c,c=c2-c4:=⟨_,rfl⟩
 obtain⟨c7,hc7⟩:∃c,c=z1*z2:=⟨_,rfl⟩
 obtain⟨c8,hc8⟩:∃c,c=c6*c6:=⟨_,rfl⟩
 obtain⟨c9,hc9⟩:∃c,c=c8*c6:=⟨_,rfl⟩
 obtain⟨c10,hc10⟩:∃c,c=c5*c5:=⟨_,rfl⟩
 obtain⟨c11,hc11⟩:∃c,c=c10*c7:=⟨_,rfl⟩
 obtain⟨c12,hc12⟩:∃c,c=c11-c9:=⟨_,rfl⟩
 obtain⟨c13,hc13⟩:∃c,c=c4+c4:=⟨_,rfl⟩
 obtain⟨c14,hc14⟩:∃c,c=c13*c8:=⟨_,rfl⟩
 obtain⟨c15,hc15⟩:∃c,c=c12-c14:=⟨_,rfl⟩
 obtain⟨c16,hc16⟩:∃c,c=c6*c15:=⟨_,rfl⟩
 obtain⟨c17,hc17⟩:∃c,c=c4*c8:=⟨_,rfl⟩
 obtain⟨c18,hc18⟩:∃c,c=c17-c15:=⟨_,rfl⟩
 obtain⟨c19,hc19⟩:∃c,c=c5*c18:=⟨_,rfl⟩
 obtain⟨c20,hc20⟩:∃c,c=c3*c9:=⟨_,rfl⟩
 obtain⟨c21,hc21⟩:∃c,c=c19-c20:=⟨_,rfl⟩
 obtain⟨c22,hc22⟩:∃c,c=c9*c7:=⟨_,rfl⟩
 obtain rfl:R=rv c16 c21 c22:=hR.trans (by subst_vars;rfl);refine M9.u [.x 48 [] (fv c2),.x 49 [] (fv c4),.x 50 [(48,0),(49,1)] (.bool false)] [(2,(.p 0 0)),(3,(.p 1 0)),(4,(.p 2 0)),(6,(.p 3 0)),(7,(.p 4 0)),(8,(.p 5 0)),(9,(.p 6 0)),(50,(.v (.bool false)))] ⟨RG.ld u33 i33,RG.ld u33 i33,RG.aG rfl .eql 68 68 48 49 (fv c2) (fv c4) (.bool false) rfl rfl RG.sx RG.sx (fun w=>by kernel_rfl) (GY C.toFld (by subst_vars;exact hv)),trivial⟩ ?_;intro a10 w10 M10;repeat refine wp_seq ?_
 refine wp_cond_false M10.ev ?_;refine wp_skip ?_;repeat refine wp_seq ?_
 refine M10.d [.c 61 [] rv0,.x 62 [] (fv c1),.x 63 [] (fv c3),.c 64 [(61,0),(62,1),(63,2)] (fv c5),.m 10 [] 7,.u [(10,4),(64,3)] 7] [(4,(RG.z 4))] [(7,5,(ws c5))] [(ws x1++(ws y1++(ws z1))),(ws x2++(ws y2++(ws z2))),(RG.z 12),(ws c1),(ws c2),(ws c3),(ws c4),(ws c5)] [(2,(.p 0 0)),(3,(.p 1 0)),(4,(.p 2 0)),(7,(.p 4 0)),(8,(.p 5 0)),(9,(.p 6 0)),(10,(.p 7 0))] ⟨RG.cl (bE),RG.ld u33 i33,RG.ld u33 i33,RG.cl ((jF C c1 c3).e hc5),RG.mk 7 68,RG.pt i33,trivial⟩ ?_;intro j11 a11 w11 M11;repeat refine wp_seq ?_
 refine M11.d [.c 65 [] rv0,.x 66 [] (fv c2),.x 67 [] (fv c4),.c 68 [(65,0),(66,1),(67,2)] (fv c6),.m 11 [] 8,.u [(11,4),(68,3)] 8] [(4,(RG.z 4))] [(8,5,(ws c6))] [(ws x1++(ws y1++(ws z1))),(ws x2++(ws y2++(ws z2))),(RG.z 12),(ws c1),(ws c2),(ws c3),(ws c4),(ws c5),(ws c6)] [(2,(.p 0 0)),(3,(.p 1 0)),(4,(.p 2 0)),(8,(.p 5 0)),(9,(.p 6 0)),(10,(.p 7 0)),(11,(.p 8 0))] ⟨RG.cl (bE),RG.ld u33 i33,RG.ld u33 i33,RG.cl ((jF C c2 c4).e hc6),RG.mk 8 68,RG.pt i33,trivial⟩ ?_;intro j12 a12 w12 M12;repeat refine wp_seq ?_
 refine M12.d [.c 69 [] rv0,.s 70 [] (.p 0 8),.x 71 [(70,1)] (fv z1),.s 72 [] (.p 1 8),.x 73 [(72,3)] (fv z2),.c 74 [(69,0),(71,2),(73,4)] (fv c7),.m 12 [] 9,.u [(12,6),(74,5)] 9] [(6,(RG.z 4))] [(9,7,(ws c7))] [(ws x1++(ws y1++(ws z1))),(ws x2++(ws y2++(ws z2))),(RG.z 12),(ws c1),(ws c2),(ws c3),(ws c4),(ws c5),(ws c6),(ws c7)] [(4,(.p 2 0)),(8,(.p 5 0)),(9,(.p 6 0)),(10,(.p 7 0)),(11,(.p 8 0)),(12,(.p 9 0))] ⟨RG.cl (bE),RG.st,RG.ld u33 i33,RG.st,RG.ld u33 i33,RG.cl ((aS C z1 z2).e hc7),RG.mk 9 68,RG.pt i33,trivial⟩ ?_;intro j13 a13 w13 M13;repeat refine wp_seq ?_
 refine M13.d [.c 75 [] rv0,.x 76 [] (fv c6),.x 77 [] (fv c6),.c 78 [(75,0),(76,1),(77,2)] (fv c8),.m 13 [] 10,.u [(13,4),(78,3)] 10] [(4,(RG.z 4))] [(10,5,(ws c8))] [(ws x1++(ws y1++(ws z1))),(ws x2++(ws y2++(ws z2))),(RG.z 12),(ws c1),(ws c2),(ws c3),(ws c4),(ws c5),(ws c6),(ws c7),(ws c8)] [(4,(.p 2 0)),(8,(.p 5 0)),(9,(.p 6 0)),(10,(.p 7 0)),(11,(.p 8 0)),(12,(.p 9 0)),(13,(.p 10 0))] ⟨RG.cl (bE),RG.ld u33 i33,RG.ld u33 i33,RG.cl ((aS C c6 c6).e hc8),RG.mk 10 68,RG.pt i33,trivial⟩ ?_;intro j14 a14 w14 M14;repeat refine wp_seq ?_
 refine M14.d [.c 79 [] rv0,.x 80 [] (fv c8),.x 81 [] (fv c6),.c 82 [(79,0),(80,1),(81,2)] (fv c9),.m 14 [] 11,.u [(14,4),(82,3)] 11] [(4,(RG.z 4))] [(11,5,(ws c9))] [(ws x1++(ws y1++(ws z1))),(ws x2++(ws y2++(ws z2))),(RG.z 12),(ws c1),(ws c2),(ws c3),(ws c4),(ws c5),(ws c6),(ws c7),(ws c8),(ws c9)] [(4,(.p 2 0)),(8,(.p 5 0)),(9,(.p 6 0)),(10,(.p 7 0)),(11,(.p 8 0)),(12,(.p 9 0)),(13,(.p 10 0)),(14,(.p 11 0))] ⟨RG.cl (bE),RG.ld u33 i33,RG.ld u33 i33,RG.cl ((aS C c8 c6).e hc9),RG.mk 11 68,RG.pt i33,trivial⟩ ?_;intro j15 a15 w15 M15;repeat refine wp_seq ?_
 refine M15.d [.c 83 [] rv0,.c 84 [] rv0,.c 85 [] rv0,.c 86 [] rv0,.x 87 [] (fv c5),.x 88 [] (fv c5),.c 89 [(86,3),(87,4),(88,5)] (fv c10),.x 90 [] (fv c7),.c 91 [(85,2),(89,6),(90,7)] (fv c11),.x 92 [] (fv c9),.c 93 [(84,1),(91,8),(92,9)] (fv c12),.c 94 [] rv0,.c 95 [] rv0,.x 96 [] (fv c4),.x 97 [] (fv c4),.c 98 [(95,12),(96,13),(97,14)] (fv c13),.x 99 [] (fv c8),.c 100 [(94,11),(98,15),(99,16)] (fv c14),.c 101 [(83,0),(93,10),(100,17)] (fv c15),.m 15 [] 12,.u [(15,19),(101,18)] 12] [(19,(RG.z 4))] [(12,20,(ws c15))] [(ws x1++(ws y1++(ws z1))),(ws x2++(ws y2++(ws z2))),(RG.z 12),(ws c1),(ws c2),(ws c3),(ws c4),(ws c5),(ws c6),(ws c7),(ws c8),(ws c9),(ws c15)] [(4,(.p 2 0)),(8,(.p 5 0)),(9,(.p 6 0)),(10,(.p 7 0)),(11,(.p 8 0)),(12,(.p 9 0)),(13,(.p 10 0)),(14,(.p 11 0)),(15,(.p 12 0))] ⟨RG.cl (bE),RG.cl (bE),RG.cl (bE),RG.cl (bE),RG.ld u33 i33,RG.ld u33 i33,RG.cl ((aS C c5 c5).e hc10),RG.ld u33 i33,RG.cl ((aS C c10 c7).e hc11),RG.ld u33 i33,RG.cl ((jF C c11 c9).e hc12),RG.cl (bE),RG.cl (bE),RG.ld u33 i33,RG.ld u33 i33,RG.cl ((mC C c4 c4).e hc13),RG.ld u33 i33,RG.cl ((aS C c13 c8).e hc14),RG.cl ((jF C c12 c14).e hc15),RG.mk 12 68,RG.pt i33,trivial⟩ ?_;intro j16 a16 w16 M16;repeat refine wp_seq ?_
 refine M16.d [.c 102 [] rv0,.x 103 [] (fv c6),.x 104 [] (fv c15),.c 105 [(102,0),(103,1),(104,2)] (fv c16),.c 106 [] rv0,.c 107 [] rv0,.x 108 [] (fv c5),.c 109 [] rv0,.c 110 [] rv0,.x 111 [] (fv c4),.x 112 [] (fv c8),.c 113 [(110,8),(111,9),(112,10)] (fv c17),.x 114 [] (fv c15),.c 115 [(109,7),(113,11),(114,12)] (fv c18),.c 116 [(107,5),(108,6),(115,13)] (fv c19),.c 117 [] rv0,.x 118 [] (fv c3),.x 119 [] (fv c9),.c 120 [(117,15),(118,16),(119,17)] (fv c20),.c 121 [(106,4),(116,14),(120,18)] (fv c21),.c 122 [] rv0,.x 123 [] (fv c9),.x 124 [] (fv c7),.c 125 [(122,20),(123,21),(124,22)] (fv c22),.x 126 [(105,3),(121,19),(125,23)] (rv c16 c21 c22),.u [(126,24)] 2] [] [(2,25,(ws c16++(ws c21++(ws c22))))] [(ws x1++(ws y1++(ws z1))),(ws x2++(ws y2++(ws z2))),(ws c16++(ws c21++(ws c22))),(ws c1),(ws c2),(ws c3),(ws c4),(ws c5),(ws c6),(ws c7),(ws c8),(ws c9),(ws c15)] [(4,(.p 2 0))] ⟨RG.cl (bE),RG.ld u33 i33,RG.ld u33 i33,RG.cl ((aS C c6 c15).e hc16),RG.cl (bE),RG.cl (bE),RG.ld u33 i33,RG.cl (bE),RG.cl (bE),RG.ld u33 i33,RG.ld u33 i33,RG.cl ((aS C c4 c8).e hc17),RG.ld u33 i33,RG.cl ((jF C c17 c15).e hc18),RG.cl ((aS C c5 c18).e hc19),RG.cl (bE),RG.ld u33 i33,RG.ld u33 i33,RG.cl ((aS C c3 c9).e hc20),RG.cl ((jF C c19 c20).e hc21),RG.cl (bE),RG.ld u33 i33,RG.ld u33 i33,RG.cl ((aS C c9 c7).e hc22),RG.st,RG.pt i56,trivial⟩ ?_;intro a17 w17 M17;refine wp_ret ?_;refine bodyPost_ret (v:=(rv c16 c21 c22)) (RG.aC M17.st 4 73 rfl 2 _ rfl (M17.at (s:=(.p 2 0))) u56 i56) M17.sl.defers ?_;exact⟨_,rfl,M17.st.bel.below,rfl⟩
theorem CG(C:Fl3 P)(x y:Fin P)(hr:rt (x*x*x+7)=some y):Gives 107 #[(fv x)] (.tuple #[rv x y 1,.bool true]):=by
 intro w;obtain⟨c1,hc1⟩:∃c,c=x*x:=⟨_,rfl⟩
 obtain⟨c2,hc2⟩:∃c,c=c1*x:=⟨_,rfl⟩
 obtain⟨c3,hc3⟩:∃c,c=c2+(7:Fin P):=⟨_,rfl⟩
 have hfin:((.tuple #[(rv x y (1:Fin P)),(.bool true)]):Value)=(.tuple #[rv x y 1,.bool true]):=by
  subst_vars;rfl
 rw[<-hfin];go_enter Tryz.func107,Tryz.ntmps107;refine RG.M.enter [(0,(.v (fv x)))] 26 (by kernel_rfl) ?_;intro a0 M0;repeat refine wp_seq ?_
 refine M0.t [.m 1 [] 0,.m 2 [] 1,.x 3 [] (.bool false)] [(0,(ws x)),(1,(RG.z 12))] [] [(ws x),(RG.z 12)] [(1,(.p 0 0)),(2,(.p 1 0)),(3,(.v (.bool false)))] ⟨RG.mk 0 68,RG.mk 1 73,RG.st,trivial⟩ ?_;intro j1 i1 a1 w1 M1;repeat refine wp_seq ?_
 refine M1.d [.c 7 [] rv0,.c 8 [] rv0,.c 9 [] rv0,.c 10 [] rv0,.x 11 [] (fv x),.x 12 [] (fv x),.c 13 [(10,3),(11,4),(12,5)] (fv c1),.x 14 [] (fv x),.c 15 [(9,2),(13,6),(14,7)] (fv c2),.c 16 [] (fv (7:Fin P)),.c 17 [(8,1),(15,8),(16,9)] (fv c3),.c 18 [(7,0),(17,10)] (.tuple #[(fv y),(.bool true)]),.x 6 [(18,11)] (.tuple #[(fv y),(.bool true)]),.x 19 [(6,12)] (fv y),.x 20 [(6,12)] (.bool true),.m 4 [] 2,.u [(4,15),(19,13)] 2,.x 5 [(20,14)] (.bool true)] [(15,(RG.z 4))] [(2,16,(ws y))] [(ws x),(RG.z 12),(ws y)] [(1,(.p 0 0)),(2,(.p 1 0)),(3,(.v (.bool false))),(4,(.p 2 0)),(5,(.v (.bool true)))] ⟨RG.cl (bE),RG.cl (bE),RG.cl (bE),RG.cl (bE),RG.ld u33 i33,RG.ld u33 i33,RG.cl ((aS C x x).e hc1),RG.ld u33 i33,RG.cl ((aS C c1 x).e hc2),RG.cl (uH C),RG.cl ((mC C c2 (7:Fin P)).e hc3),RG.cl (f:=146) (args:=#[rv0,(fv c3)]) (v:=(.tuple #[(fv y),(.bool true)])) (Jb C (by subst_vars;exact hr)),RG.st,RG.st,RG.st,RG.mk 2 68,RG.pt i33,RG.st,trivial⟩ ?_;intro j2 a2 w2 M2;repeat refine wp_seq ?_
 refine M2.d [.x 21 [] (fv x),.x 22 [] (fv y),.c 23 [] (fv (1:Fin P)),.x 24 [(21,0),(22,1),(23,2)] (rv x y (1:Fin P)),.x 25 [] (.bool true),.u [(24,3)] 1,.x 3 [(25,4)] (.bool true)] [] [(1,5,(ws x++(ws y++(ws (1:Fin P)))))] [(ws x),(ws x++(ws y++(ws (1:Fin P)))),(ws y)] [(2,(.p 1 0)),(3,(.v (.bool true)))] ⟨RG.ld u33 i33,RG.ld u33 i33,RG.cl (oL C),RG.st,RG.st,RG.pt i56,RG.st,trivial⟩ ?_;intro a3 w3 M3;refine wp_ret ?_;refine bodyPost_ret (v:=(.tuple #[(rv x y (1:Fin P)),(.bool true)])) (RG.aN M3.st 2 3 73 rfl 1 _ rfl (M3.at (s:=(.p 1 0))) _ (M3.at (s:=(.v (.bool true)))) u56 i56) M3.sl.defers ?_;exact⟨_,rfl,M3.st.bel.below,rfl⟩
theorem I9(C:Fl3 P)(x:Fin P)(hr:rt (x*x*x+7)=none):Gives 107 #[(fv x)] (.tuple #[rv x 0 1,.bool false]):=by
 intro w;obtain⟨c1,hc1⟩:∃c,c=x*x:=⟨_,rfl⟩
 obtain⟨c2,hc2⟩:∃c,c=c1*x:=⟨_,rfl⟩
 obtain⟨c3,hc3⟩:∃c,c=c2+(7:Fin P):=⟨_,rfl⟩
 have hfin:((.tuple #[(rv x (0:Fin P) (1:Fin P)),(.bool false)]):Value)=(.tuple #[rv x 0 1,.bool false]):=by
  subst_vars;rfl
 rw[<-hfin];go_enter Tryz.func107,Tryz.ntmps107;refine RG.M.enter [(0,(.v (fv x)))] 26 (by kernel_rfl) ?_;intro a0 M0;repeat refine wp_seq ?_
 refine M0.t [.m 1 [] 0,.m 2 [] 1,.x 3 [] (.bool false)] [(0,(ws x)),(1,(RG.z 12))] [] [(ws x),(RG.z 12)] [(1,(.p 0 0)),(2,(.p 1 0)),(3,(.v (.bool false)))] ⟨RG.mk 0 68,RG.mk 1 73,RG.st,trivial⟩ ?_;intro j1 i1 a1 w1 M1;repeat refine wp_seq ?_
 refine M1.d [.c 7 [] rv0,.c 8 [] rv0,.c 9 [] rv0,.c 10 [] rv0,.x 11 [] (fv x),.x 12 [] (fv x),.c 13 [(10,3),(11,4),(12,5)] (fv c1),.x 14 [] (fv x),.c 15 [(9,2),(13,6),(14,7)] (fv c2),.c 16 [] (fv (7:Fin P)),.c 17 [(8,1),(15,8),(16,9)] (fv c3),.c 18 [(7,0),(17,10)] (.tuple #[(fv (0:Fin P)),(.bool false)]),.x 6 [(18,11)] (.tuple #[(fv (0:Fin P)),(.bool false)]),.x 19 [(6,12)] (fv (0:Fin P)),.x 20 [(6,12)] (.bool false),.m 4 [] 2,.u [(4,15),(19,13)] 2,.x 5 [(20,14)] (.bool false)] [(15,(RG.z 4))] [(2,16,(ws (0:Fin P)))] [(ws x),(RG.z 12),(ws (0:Fin P))] [(1,(.p 0 0)),(2,(.p 1 0)),(3,(.v (.bool false))),(4,(.p 2 0)),(5,(.v (.bool false)))] ⟨RG.cl (bE),RG.cl (bE),RG.cl (bE),RG.cl (bE),RG.ld u33 i33,RG.ld u33 i33,RG.cl ((aS C x x).e hc1),RG.ld u33 i33,RG.cl ((aS C c1 x).e hc2),RG.cl (uH C),RG.cl ((mC C c2 (7:Fin P)).e hc3),RG.cl (f:=146) (args:=#[rv0,(fv c3)]) (v:=(.tuple #[(fv (0:Fin P)),(.bool false)])) (Jc C (by subst_vars;exact hr)),RG.st,RG.st,RG.st,RG.mk 2 68,RG.pt i33,RG.st,trivial⟩ ?_;intro j2 a2 w2 M2;repeat refine wp_seq ?_
 refine M2.d [.x 21 [] (fv x),.x 22 [] (fv (0:Fin P)),.c 23 [] (fv (1:Fin P)),.x 24 [(21,0),(22,1),(23,2)] (rv x (0:Fin P) (1:Fin P)),.x 25 [] (.bool false),.u [(24,3)] 1,.x 3 [(25,4)] (.bool false)] [] [(1,5,(ws x++(ws (0:Fin P)++(ws (1:Fin P)))))] [(ws x),(ws x++(ws (0:Fin P)++(ws (1:Fin P)))),(ws (0:Fin P))] [(2,(.p 1 0)),(3,(.v (.bool false)))] ⟨RG.ld u33 i33,RG.ld u33 i33,RG.cl (oL C),RG.st,RG.st,RG.pt i56,RG.st,trivial⟩ ?_;intro a3 w3 M3;refine wp_ret ?_;refine bodyPost_ret (v:=(.tuple #[(rv x (0:Fin P) (1:Fin P)),(.bool false)])) (RG.aN M3.st 2 3 73 rfl 1 _ rfl (M3.at (s:=(.p 1 0))) _ (M3.at (s:=(.v (.bool false)))) u56 i56) M3.sl.defers ?_;exact⟨_,rfl,M3.st.bel.below,rfl⟩
end
section
open Go.RowKit Go.Sort Go.Deep
variable {P:Nat}[NeZero P]{N:Nat}
theorem Ge(O:Ord N)(s:Bs)(hs:s.size<=1048576):Gives 30 #[rv1,.string ⟨s⟩] (nv (fG N s)):=fun w =>
 (F7 _ _ _ _ _ _ _ _ N ⟨s⟩ O.ref hs w).mono (by rintro e w' ⟨v,rfl,hb,hF⟩;exact⟨_,rfl,hb,hF.nv⟩)
theorem LO(O:Ord N){a b:Nat}(ha:a<N)(hb:b<N):Gives 33 #[rv1,nv a,nv b] (nv (sPl N a b)):=fun w =>
 (AP O.ref (O.four ha) (O.four hb) w).mono (by rintro e w' ⟨v,rfl,hb,hF⟩;exact⟨_,rfl,hb,hF.nv⟩)
theorem v9(O:Ord N)(y:Nat)(L:Bs)(w:World)(hl:L.size=32)(hL:SP.RLog w y L):Calls prog 69 #[.pointer (some ⟨y,0,none⟩)] w (Ret fun e w'=>SP.Only y 0 1 w w'/\e=nv (cha N L)):=by
 obtain⟨A,hA⟩:∃A,Hid (SP.iK L [99,104,97,108,108,101,110,103,101] 64=A):=⟨_,rfl⟩
 have hAs:A.size=64:=by rw[<-hA.out];exact SP.lO _ _ _
 have hr:cha N L=fG N A:=by unfold cha;rw[hA.out]
 rw[hr];clear hr;have hy:=hL.lt;obtain⟨w1,hw1⟩:∃w1,Hid (w.alloc (.cells #[.int .u64 0,.int .u64 0,.int .u64 0,.int .u64 0] 68)=w1):=⟨_,rfl⟩
 have K1:Hid (Row w1 w.heap.size [.int .u64 0,.int .u64 0,.int .u64 0,.int .u64 0]/\Below w.heap.size w w1):=by rw[<-hw1.out];exact⟨aM w _ _,aE w _⟩
 go_enter Tryz.func69,Tryz.ntmps69;go_wp2_with fail
 rw[hw1.out];refine(MS w1).mono ?_;rintro e w2 ⟨v,rfl,hb2,rfl⟩;have K2:Hid (Row w2 w.heap.size [.int .u64 0,.int .u64 0,.int .u64 0,.int .u64 0]/\Below w.heap.size w w2/\SP.RLog w2 y L):=⟨K1.out.1.below hb2,K1.out.2.trans (hb2.mono K1.out.2.size),(hL.below K1.out.2).below hb2⟩
 clear hb2 K1 hw1;go_wp2_with fail
 refine(SP.rB y L ⟨#[99,104,97,108,108,101,110,103,101]⟩ 64 w2 (by decide) (by decide) hl K2.out.2.2).mono ?_;rintro e w3 ⟨rfl,hO,-⟩;rw[show SP.iK L (⟨#[99,104,97,108,108,101,110,103,101]⟩:ByteArray).data.toList 64=A from hA.out];have K3:Hid (Row w3 w.heap.size [.int .u64 0,.int .u64 0,.int .u64 0,.int .u64 0]/\SP.Only y 0 1 w w3):=⟨K2.out.1.only hO (by omega),(SP.Only.of_below K2.out.2.1 rfl hy).trans hO⟩
 clear hO K2;go_wp2_with fail
 refine(Ge O A (by omega) w3).mono ?_;rintro e w4 ⟨v,rfl,hb4,rfl⟩;have K4:Hid (Row w4 w.heap.size [.int .u64 0,.int .u64 0,.int .u64 0,.int .u64 0]/\SP.Only y 0 1 w w4):=⟨K3.out.1.below hb4,K3.out.2.trans (SP.Only.of_below hb4 rfl (PS hy K3.out.2.size))⟩
 clear hb4 K3;obtain⟨m,hm⟩:∃m,Hid (fG N A=m):=⟨_,rfl⟩
 rw[hm.out];obtain⟨w5,hw5⟩:∃w5,Hid (w4.setCells w.heap.size 0 (wn m)=w5):=⟨_,rfl⟩
 have K5:Hid (Row w5 w.heap.size (wn m)/\SP.Only y 0 1 w w5):=by
  rw[<-hw5.out];exact⟨K4.out.1.put rfl,eM K4.out.2 hy (PQ _) _⟩
 obtain⟨vm,hvm⟩:∃vm,Hid (nv m=vm):=⟨_,rfl⟩
 rw[hvm.out];go_wp2_with (refine wpList_store_mid rfl 68 _ _ rfl w.heap.size 0 (wn m).toArray ?_ ?_ ?_ ?_ ?_ ?_;rfl;exact hvm.out.symm;exact K4.out.1.2.2;exact i33;exact dK m;rw[show(wn m).toArray.toList=wn m from rfl,hw5.out])
 refine bodyPost_ret (aY 2 68 rfl K5.out.1 rfl u33 i33) rfl ?_;exact⟨_,rfl,K5.out.2,by rw[hm.out];rfl⟩
def Mc(a b c:List UInt8):Bs:=SP.cT (SP.cT (SP.cT (SP.newL [115,105,103,110]) [112,117,98,108,105,99] a) [102,105,114,115,116] b) [116,101,120,116] c
def asg(N:Nat)(a b c:List UInt8):Nat:=cha N (Mc a b c)
theorem BW(O:Ord N)(a b c:List UInt8):asg N a b c<N:=vV O _
theorem Gf(O:Ord N)(a b c:ByteArray)(ha:a.size<=16384)(hb:b.size<=16384)(hc:c.size<=16384):Gives 32 #[.string a,.string b,.string c] (nv (asg N a.data.toList b.data.toList c.data.toList)):=by
 intro w;obtain⟨L0,h0⟩:∃L,Hid (SP.newL [115,105,103,110]=L):=⟨_,rfl⟩
 obtain⟨L1,h1⟩:∃L,Hid (SP.cT L0 [112,117,98,108,105,99] a.data.toList=L):=⟨_,rfl⟩
 obtain⟨L2,h2⟩:∃L,Hid (SP.cT L1 [102,105,114,115,116] b.data.toList=L):=⟨_,rfl⟩
 obtain⟨L3,h3⟩:∃L,Hid (SP.cT L2 [116,101,120,116] c.data.toList=L):=⟨_,rfl⟩
 have s0:L0.size=32:=by rw[<-h0.out];exact SP.lI _
 have s1:L1.size=32:=by rw[<-h1.out];exact SP.cI _ _ _
 have s2:L2.size=32:=by rw[<-h2.out];exact SP.cI _ _ _
 have s3:L3.size=32:=by rw[<-h3.out];exact SP.cI _ _ _
 have hr:asg N a.data.toList b.data.toList c.data.toList=cha N L3:=by unfold asg Mc;rw[h0.out,h1.out,h2.out,h3.out]
 rw[hr];clear hr;obtain⟨w1,hw1⟩:∃w1,Hid (w.alloc (.cells #[.int .u64 0,.int .u64 0,.int .u64 0,.int .u64 0] 68)=w1):=⟨_,rfl⟩
 have K1:Hid (Row w1 w.heap.size [.int .u64 0,.int .u64 0,.int .u64 0,.int .u64 0]/\Below w.heap.size w w1/\w.heap.size<w1.heap.size):=by rw[<-hw1.out];exact⟨aM w _ _,aE w _,by rw[Qa];omega⟩
 go_enter Tryz.func32,Tryz.ntmps32;go_wp2_with fail
 rw[hw1.out];clear hw1;refine(SP.rA ⟨#[115,105,103,110]⟩ w1 (by decide)).mono ?_;rintro e w2 ⟨y,rfl,hy,hb2,hL2⟩;rw[show SP.newL (⟨#[115,105,103,110]⟩:ByteArray).data.toList=L0 from h0.out]at hL2;have hyw:w.heap.size<y:=by have:=K1.out.2.2;omega
 have K2:Hid (Row w2 w.heap.size [.int .u64 0,.int .u64 0,.int .u64 0,.int .u64 0]/\Below w.heap.size w w2/\SP.RLog w2 y L0):=⟨K1.out.1.below hb2,K1.out.2.1.trans (hb2.mono K1.out.2.1.size),hL2⟩
 clear hb2 hL2 K1 hy;go_wp2_with fail
 refine(SP.jD y L0 ⟨#[112,117,98,108,105,99]⟩ a w2 (by decide) ha s0 K2.out.2.2).mono ?_;rintro e w3 ⟨rfl,hO,hL⟩;rw[show SP.cT L0 (⟨#[112,117,98,108,105,99]⟩:ByteArray).data.toList a.data.toList=L1 from h1.out]at hL;have K3:Hid (Row w3 w.heap.size [.int .u64 0,.int .u64 0,.int .u64 0,.int .u64 0]/\Below w.heap.size w w3/\SP.RLog w3 y L1):=⟨K2.out.1.only hO (by omega),K2.out.2.1.trans (hO.below K2.out.2.1.size (by omega)),hL⟩
 clear hO hL K2;go_wp2_with fail
 refine(SP.jD y L1 ⟨#[102,105,114,115,116]⟩ b w3 (by decide) hb s1 K3.out.2.2).mono ?_;rintro e w4 ⟨rfl,hO,hL⟩;rw[show SP.cT L1 (⟨#[102,105,114,115,116]⟩:ByteArray).data.toList b.data.toList=L2 from h2.out]at hL;have K4:Hid (Row w4 w.heap.size [.int .u64 0,.int .u64 0,.int .u64 0,.int .u64 0]/\Below w.heap.size w w4/\SP.RLog w4 y L2):=⟨K3.out.1.only hO (by omega),K3.out.2.1.trans (hO.below K3.out.2.1.size (by omega)),hL⟩
 clear hO hL K3;go_wp2_with fail
 refine(SP.jD y L2 ⟨#[116,101,120,116]⟩ c w4 (by decide) hc s2 K4.out.2.2).mono ?_;rintro e w5 ⟨rfl,hO,hL⟩;rw[show SP.cT L2 (⟨#[116,101,120,116]⟩:ByteArray).data.toList c.data.toList=L3 from h3.out]at hL;have K5:Hid (Row w5 w.heap.size [.int .u64 0,.int .u64 0,.int .u64 0,.int .u64 0]/\Below w.heap.size w w5/\SP.RLog w5 y L3):=⟨K4.out.1.only hO (by omega),K4.out.2.1.trans (hO.below K4.out.2.1.size (by omega)),hL⟩
 clear hO hL K4;go_wp2_with fail
 refine(v9 O y L3 w5 s3 K5.out.2.2).mono ?_;rintro e w6 ⟨v,rfl,hO,rfl⟩;have K6:Hid (Row w6 w.heap.size [.int .u64 0,.int .u64 0,.int .u64 0,.int .u64 0]/\Below w.heap.size w w6):=⟨K5.out.1.only hO (by omega),K5.out.2.1.trans (hO.below K5.out.2.1.size (by omega))⟩
 clear hO K5;obtain⟨m,hm⟩:∃m,Hid (cha N L3=m):=⟨_,rfl⟩
 rw[hm.out];obtain⟨w7,hw7⟩:∃w7,Hid (w6.setCells w.heap.size 0 (wn m)=w7):=⟨_,rfl⟩
 have K7:Hid (Row w7 w.heap.size (wn m)/\Below w.heap.size w w7):=by rw[<-hw7.out];exact⟨K6.out.1.put rfl,RG.below_setCells (PQ _) _ _ _ K6.out.2⟩
 obtain⟨vm,hvm⟩:∃vm,Hid (nv m=vm):=⟨_,rfl⟩
 rw[hvm.out];go_wp2_with (refine wpList_store_mid rfl 68 _ _ rfl w.heap.size 0 (wn m).toArray ?_ ?_ ?_ ?_ ?_ ?_;rfl;exact hvm.out.symm;exact K6.out.1.2.2;exact i33;exact dK m;rw[show(wn m).toArray.toList=wn m from rfl,hw7.out])
 refine bodyPost_ret (aY 6 68 rfl K7.out.1 rfl u33 i33) rfl ?_;exact⟨_,rfl,K7.out.2,by rw[hm.out];rfl⟩
def z12:Array Value:=#[.int .u64 0,.int .u64 0,.int .u64 0,.int .u64 0,.int .u64 0,.int .u64 0,.int .u64 0,.int .u64 0,.int .u64 0,.int .u64 0,.int .u64 0,.int .u64 0]
def W5(w:World):World:=(w.alloc (.cells z12 73)).alloc (.cells (madeCells #[.int .u8 0] 33) 5)
theorem tD(w:World):RG.St w w.heap.size [] [z12.toList] [w.heap.size] (W5 w):=(RG.St.new w z12.toList 73).more (aE _ _)
theorem sG(w:World):(convert 28 9 (.slice (some ⟨w.heap.size+1,0,none⟩) 33 33)).run prog (W5 w)=.ok (.string ⟨nW⟩) (W5 w):=
 conv_str prog 28 9 5 slice22 int5 str9 _ _ 0 33 33 _ (GG w _) (by decide)
theorem str_eq(a:Bs):((⟨a⟩:ByteArray).toList == (⟨a⟩:ByteArray).toList)=true:=by simp
theorem qA{a b:Bs}(h:¬a=b):((⟨a⟩:ByteArray).toList == (⟨b⟩:ByteArray).toList)=false:=by
 rw[VD,VD];simp only[beq_eq_false_iff_ne,ne_eq];exact fun e=>h (Array.toList_inj.1 e)
theorem slS(bs:Bs)(hs:bs.size=33)(w:World):(Re 9 (.string ⟨bs⟩) (some (.int .i64 1)) none none).run prog w=.ok (.string ⟨dT bs⟩) w:=by
 have h:(⟨bs⟩:ByteArray).size=33:=hs;go_simp;have h2:((⟨bs⟩:ByteArray).extract 1 33).data=dT bs:=by rw[UL];rfl
 rw[<-h2]
theorem JK{bs:Bs}(hs:bs.size=33)(hp:0<(⟨bs⟩:ByteArray).size):(((⟨bs⟩:ByteArray)[0]'hp).toNat:Int)=ub bs[0]!:=by
 rw[getElem!_pos bs 0 (by omega)];rfl
theorem ixS(bs:Bs)(hs:bs.size=33)(m:Int)(hm:ub bs[0]! = m)(w:World):(Instr.index 9 (.string ⟨bs⟩) (.int .i64 0)).run prog w=.ok (.int .u8 m) w:=by
 have h:(⟨bs⟩:ByteArray).size=33:=hs;have h2:∀hp,(((⟨bs⟩:ByteArray)[0]'hp).toNat:Int)=m:=fun hp=>by rw[JK hs,hm]
 go_simp
theorem Eh(C:Fl3 P)(bs:Bs)(hs:bs.size=32){x:Fin P}(hx:beV bs.toList=x.val):Gives 106 #[rv0,.string ⟨bs⟩] (.tuple #[fv x,.bool true]):=fun w =>
 (kF _ _ _ _ _ _ _ _ P ⟨bs⟩ C.ref w).mono (by
  rintro e w' ⟨v,rfl,hb,a,b,c,d,ok,rfl,h1,h2,h3,-⟩;cases ok with
  | false=>exact absurd ⟨hs,by rw[hx];exact x.isLt⟩ (h2 rfl)
  | true =>
   have h4:=(h1 rfl).2;rw[hx]at h4;refine⟨_,rfl,hb,?_⟩;rw[C.toFld.four x |>.inj h4])
theorem Ei(C:Fl3 P)(bs:Bs)(hs:bs.size=32)(hx:¬beV bs.toList<P):Gives 106 #[rv0,.string ⟨bs⟩] (.tuple #[nv (beV bs.toList),.bool false]):=fun w =>
 (kF _ _ _ _ _ _ _ _ P ⟨bs⟩ C.ref w).mono (by
  rintro e w' ⟨v,rfl,hb,a,b,c,d,ok,rfl,h1,h2,h3,-⟩;cases ok with
  | true=>exact absurd (h1 rfl).1.2 hx
  | false =>
   have h4:=h3 hs;refine⟨_,rfl,hb,?_⟩;rw[h4.nv])
def n12(P:Nat)[NeZero P]:List Value:=ws (0:Fin P)++(ws (1:Fin P)++ws (0:Fin P))
theorem I0(C:Fl3 P)(w:World):Calls prog 62 #[.string ⟨nW⟩] w (Ret fun e w'=>Below w.heap.size w w'/\e=.tuple #[rv (0:Fin P) 1 0,.bool true]):=by
 have hmk:=Ew;have hcv:=sG w;have hse:=str_eq nW;unfold W5 z12 at hcv;have hN:=xH C;have hrv:rv (0:Fin P) 1 0=.agg (n12 P).toArray:=rfl;rw[hrv]at hN⊢;have hln:(n12 P).length=12:=rfl;have hone:(n12 P).all (·.oneCell')=true:=rfl;generalize n12 P=N at hN hln hone⊢;go_enter Tryz.func62,Tryz.ntmps62;go_wp2_with fail
 refine(hN _).mono ?_;rintro e w1 ⟨v,rfl,hb,rfl⟩;obtain⟨w2,s0,s1,s2,hS⟩:=(RG.St.more (tD w) hb).store1 (P:=prog) 73 (D:=N) hln (by rw[hln];exact i56) hone;clear hcv hmk hN hse;go_wp2;refine bodyPost_ret (v:=.tuple #[.agg N.toArray,.bool true]) (RG.aN hS 2 3 73 rfl 0 _ rfl rfl _ rfl u56 (by rw[hln];exact i56)) rfl ?_;exact⟨_,rfl,hS.bel.below,rfl⟩
theorem Ly(C:Fl3 P)(bs:Bs)(hs:¬bs.size=33)(w:World):Calls prog 62 #[.string ⟨bs⟩] w (Ret fun e w'=>Below w.heap.size w w'/\e=.tuple #[rv (0:Fin P) 0 0,.bool false]):=by
 have hmk:=Ew;have hcv:=sG w;have hse:=qA (a:=bs) (b:=nW) (fun h=>hs (by rw[h];rfl));unfold W5 z12 at hcv;have hs2:¬(⟨bs⟩:ByteArray).size=33:=hs;rw[<-pY];go_enter Tryz.func62,Tryz.ntmps62;go_wp2;refine bodyPost_ret (v:=.tuple #[.agg z12,.bool false]) (RG.aN (tD w) 2 3 73 rfl 0 _ rfl rfl _ rfl u56 i56) rfl ?_;exact⟨_,rfl,(tD w).bel.below,rfl⟩
theorem I1(C:Fl3 P)(bs:Bs)(hs:bs.size=33)(hz:¬bs=nW)(m:Int)(hm:ub bs[0]! = m)(hm2:¬m=2)(hm3:¬m=3)(w:World):Calls prog 62 #[.string ⟨bs⟩] w (Ret fun e w'=>Below w.heap.size w w'/\e=.tuple #[rv (0:Fin P) 0 0,.bool false]):=by
 have hmk:=Ew;have hcv:=sG w;have hse:=qA hz;unfold W5 z12 at hcv;have hs2:(⟨bs⟩:ByteArray).size=33:=hs;have hix:=ixS bs hs m hm;have e2:(m != 2)=true:=by simpa using hm2
 have e3:(m != 3)=true:=by simpa using hm3
 rw[<-pY];go_enter Tryz.func62,Tryz.ntmps62;go_wp2;refine bodyPost_ret (v:=.tuple #[.agg z12,.bool false]) (RG.aN (tD w) 2 3 73 rfl 0 _ rfl rfl _ rfl u56 i56) rfl ?_;exact⟨_,rfl,(tD w).bel.below,rfl⟩
theorem Lx(C:Fl3 P)(m:Nat)(bs:Bs)(w:World)(hs:bs.size=33)(hz:¬bs=nW)(hm:ub bs[0]! = 2\/ub bs[0]! = 3)(hnum:Gives 106 #[rv0,.string ⟨dT bs⟩] (.tuple #[nv m,.bool false])):Calls prog 62 #[.string ⟨bs⟩] w (Ret fun e w'=>Below w.heap.size w w'/\e=.tuple #[rv (0:Fin P) 0 0,.bool false]):=by
 rcases hm with hm|hm
 all_goals
  have hmk:=Ew;have hcv:=sG w;have hse:=qA hz;unfold W5 z12 at hcv;have hs2:(⟨bs⟩:ByteArray).size=33:=hs;have hix:=ixS bs hs _ hm;have hS0:=tD w;unfold W5 z12 at hS0;go_enter Tryz.func62,Tryz.ntmps62;go_wp2_with fail
  rename_i hK
  clear hmk hcv hse hs2 hix;generalize (w.alloc _).alloc _=w0 at hS0⊢;refine RG.NP (v0:=.string ⟨bs⟩) (v1:=.pointer (some ⟨w.heap.size,0,none⟩)) (v2:=.bool false) (n:=48) 0 2 3 rfl rfl rfl rfl rfl ?_;intro a0 sl0 f0 f2 f3;have M0:RG.M w w.heap.size [] 48 [(RG.z 12)] [w.heap.size] [(0,(.v (.string ⟨bs⟩))),(2,(.p 0 0)),(3,(.v (.bool false)))] a0 _:=⟨hS0,sl0,⟨f0,f2,f3,trivial⟩⟩
  repeat refine wp_seq ?_
  refine M0.d [.c 27 [] rv0,.x 28 [] (.string ⟨bs⟩),.x 29 [(28,1)] (.string ⟨dT bs⟩),.c 30 [(27,0),(29,2)] (.tuple #[(nv m),(.bool false)]),.x 26 [(30,3)] (.tuple #[(nv m),(.bool false)]),.x 31 [(26,4)] (nv m),.x 32 [(26,4)] (.bool false),.m 4 [] 1,.u [(4,7),(31,5)] 1,.x 5 [(32,6)] (.bool false)] [(7,(RG.z 4))] [(1,8,(wn m))] [(RG.z 12),(wn m)] [(2,(.p 0 0)),(3,(.v (.bool false))),(5,(.v (.bool false)))] ⟨RG.cl (bE),RG.st,RG.eW rfl 9 28 (.int .i64 1) (.string ⟨bs⟩) (.string ⟨dT bs⟩) rfl rfl RG.sx (slS bs hs),RG.cl (hnum),RG.st,RG.st,RG.st,RG.mk 1 68,RG.pt i33,RG.st,trivial⟩ ?_;intro j1 a1 w1 M1;refine hK _ _ ?_;repeat refine wp_seq ?_
  refine M1.u [.x 33 [] (.bool false),.x 34 [(33,0)] (.bool true)] [(2,(.p 0 0)),(3,(.v (.bool false))),(34,(.v (.bool true)))] ⟨RG.st,RG.st,trivial⟩ ?_;intro a2 w2 M2;repeat refine wp_seq ?_
  refine wp_cond_true M2.ev ?_;repeat refine wp_seq ?_
  refine M2.t [.x 35 [] (rv (0:Fin P) (0:Fin P) (0:Fin P)),.u [(35,0)] 0,.x 3 [] (.bool false)] [] [(0,1,(ws (0:Fin P)++(ws (0:Fin P)++(ws (0:Fin P)))))] [(ws (0:Fin P)++(ws (0:Fin P)++(ws (0:Fin P)))),(wn m)] [(2,(.p 0 0)),(3,(.v (.bool false)))] ⟨RG.se (pY (P:=P)),RG.pt i56,RG.st,trivial⟩ ?_;intro a3 w3 M3;refine wp_ret ?_;refine bodyPost_ret (v:=(.tuple #[(rv (0:Fin P) (0:Fin P) (0:Fin P)),(.bool false)])) (RG.aN M3.st 2 3 73 rfl 0 _ rfl (M3.at (s:=(.p 0 0))) _ (M3.at (s:=(.v (.bool false)))) u56 i56) M3.sl.defers ?_;exact⟨_,rfl,M3.st.bel.below,rfl⟩
theorem Cx(C:Fl3 P)(bs:Bs)(x y:Fin P)(b:Bool)(w:World)(hs:bs.size=33)(hz:¬bs=nW)(hm:ub bs[0]! = 2\/ub bs[0]! = 3)(hx:beV (dT bs).toList=x.val)(hat:Gives 107 #[(fv x)] (.tuple #[rv x y 1,.bool b])):Calls prog 62 #[.string ⟨bs⟩] w (Ret fun e w'=>Below w.heap.size w w'/\e=.tuple #[rv x (if ub bs[0]! = 3 then 0-y else y) 1,.bool b]):=by
 rcases hm with hm|hm
 case' inl=>rw[if_neg (by rw[hm];decide)]
 case' inr =>
  rw[if_pos hm];generalize hy2:0-y=y2
 all_goals
  have hmk:=Ew;have hcv:=sG w;have hse:=qA hz;unfold W5 z12 at hcv;have hs2:(⟨bs⟩:ByteArray).size=33:=hs;have hix:=ixS bs hs _ hm;have hS0:=tD w;unfold W5 z12 at hS0;go_enter Tryz.func62,Tryz.ntmps62;go_wp2_with fail
  rename_i hK
  clear hmk hcv hse hs2 hix;generalize (w.alloc _).alloc _=w0 at hS0⊢;refine RG.NP (v0:=.string ⟨bs⟩) (v1:=.pointer (some ⟨w.heap.size,0,none⟩)) (v2:=.bool false) (n:=48) 0 2 3 rfl rfl rfl rfl rfl ?_;intro a0 sl0 f0 f2 f3;have M0:RG.M w w.heap.size [] 48 [(RG.z 12)] [w.heap.size] [(0,(.v (.string ⟨bs⟩))),(2,(.p 0 0)),(3,(.v (.bool false)))] a0 _:=⟨hS0,sl0,⟨f0,f2,f3,trivial⟩⟩
  repeat refine wp_seq ?_
  refine M0.d [.c 27 [] rv0,.x 28 [] (.string ⟨bs⟩),.x 29 [(28,1)] (.string ⟨dT bs⟩),.c 30 [(27,0),(29,2)] (.tuple #[(fv x),(.bool true)]),.x 26 [(30,3)] (.tuple #[(fv x),(.bool true)]),.x 31 [(26,4)] (fv x),.x 32 [(26,4)] (.bool true),.m 4 [] 1,.u [(4,7),(31,5)] 1,.x 5 [(32,6)] (.bool true)] [(7,(RG.z 4))] [(1,8,(ws x))] [(RG.z 12),(ws x)] [(0,(.v (.string ⟨bs⟩))),(2,(.p 0 0)),(3,(.v (.bool false))),(4,(.p 1 0)),(5,(.v (.bool true)))] ⟨RG.cl (bE),RG.st,RG.eW rfl 9 28 (.int .i64 1) (.string ⟨bs⟩) (.string ⟨dT bs⟩) rfl rfl RG.sx (slS bs hs),RG.cl (Eh C (dT bs) (eF hs) hx),RG.st,RG.st,RG.st,RG.mk 1 68,RG.pt i33,RG.st,trivial⟩ ?_;intro j1 a1 w1 M1;refine hK _ _ ?_;repeat refine wp_seq ?_
  refine M1.u [.x 33 [] (.bool true),.x 34 [(33,0)] (.bool false)] [(0,(.v (.string ⟨bs⟩))),(2,(.p 0 0)),(3,(.v (.bool false))),(4,(.p 1 0)),(5,(.v (.bool true))),(34,(.v (.bool false)))] ⟨RG.st,RG.st,trivial⟩ ?_;intro a2 w2 M2;repeat refine wp_seq ?_
  refine wp_cond_false M2.ev ?_;refine wp_skip ?_;repeat refine wp_seq ?_
  refine M2.t [.x 37 [] (fv x),.c 38 [(37,0)] (.tuple #[(rv x y (1:Fin P)),(.bool b)]),.x 36 [(38,1)] (.tuple #[(rv x y (1:Fin P)),(.bool b)]),.x 39 [(36,2)] (rv x y (1:Fin P)),.x 40 [(36,2)] (.bool b),.m 6 [] 2,.u [(6,5),(39,3)] 2,.x 5 [(40,4)] (.bool b)] [(5,(RG.z 12))] [(2,6,(ws x++(ws y++(ws (1:Fin P)))))] [(RG.z 12),(ws x),(ws x++(ws y++(ws (1:Fin P))))] [(0,(.v (.string ⟨bs⟩))),(2,(.p 0 0)),(3,(.v (.bool false))),(5,(.v (.bool b))),(6,(.p 2 0))] ⟨RG.ld u33 i33,RG.cl (hat),RG.st,RG.st,RG.st,RG.mk 2 73,RG.pt i56,RG.st,trivial⟩ ?_;intro j3 a3 w3 M3;repeat refine wp_seq ?_
 ·refine M3.u [.x 41 [] (.string ⟨bs⟩),.x 42 [(41,0)] (.int .u8 3),.x 43 [(42,1)] (.bool true)] [(2,(.p 0 0)),(3,(.v (.bool false))),(5,(.v (.bool b))),(6,(.p 2 0)),(43,(.v (.bool true)))] ⟨RG.st,RG.sQ rfl 9 41 (.int .i64 0) (.string ⟨bs⟩) (.int .u8 3) rfl rfl RG.sx (ixS bs hs 3 hm),RG.st,trivial⟩ ?_;intro a4 w4 M4;repeat refine wp_seq ?_
  refine wp_cond_true M4.ev ?_;repeat refine wp_seq ?_
  refine M4.t [.x 44 [] (rv x y (1:Fin P)),.c 45 [(44,0)] (rv x y2 (1:Fin P)),.u [(45,1)] 2] [] [(2,2,(ws x++(ws y2++(ws (1:Fin P)))))] [(RG.z 12),(ws x),(ws x++(ws y2++(ws (1:Fin P))))] [(2,(.p 0 0)),(3,(.v (.bool false))),(5,(.v (.bool b))),(6,(.p 2 0))] ⟨RG.ld u56 i56,RG.cl (f:=108) (args:=#[(rv x y (1:Fin P))]) (v:=(rv x y2 (1:Fin P))) (hy2 ▸ Je C x y 1),RG.pt i56,trivial⟩ ?_;intro a5 w5 M5;repeat refine wp_seq ?_
  refine M5.t [.x 46 [] (rv x y2 (1:Fin P)),.x 47 [] (.bool b),.u [(46,0)] 0,.x 3 [(47,1)] (.bool b)] [] [(0,2,(ws x++(ws y2++(ws (1:Fin P)))))] [(ws x++(ws y2++(ws (1:Fin P)))),(ws x),(ws x++(ws y2++(ws (1:Fin P))))] [(2,(.p 0 0)),(3,(.v (.bool b)))] ⟨RG.ld u56 i56,RG.st,RG.pt i56,RG.st,trivial⟩ ?_;intro a6 w6 M6;refine wp_ret ?_;refine bodyPost_ret (v:=(.tuple #[(rv x y2 (1:Fin P)),(.bool b)])) (RG.aN M6.st 2 3 73 rfl 0 _ rfl (M6.at (s:=(.p 0 0))) _ (M6.at (s:=(.v (.bool b)))) u56 i56) M6.sl.defers ?_;exact⟨_,rfl,M6.st.bel.below,rfl⟩
 refine M3.u [.x 41 [] (.string ⟨bs⟩),.x 42 [(41,0)] (.int .u8 2),.x 43 [(42,1)] (.bool false)] [(2,(.p 0 0)),(3,(.v (.bool false))),(5,(.v (.bool b))),(6,(.p 2 0)),(43,(.v (.bool false)))] ⟨RG.st,RG.sQ rfl 9 41 (.int .i64 0) (.string ⟨bs⟩) (.int .u8 2) rfl rfl RG.sx (ixS bs hs 2 hm),RG.st,trivial⟩ ?_;intro a4 w4 M4;repeat refine wp_seq ?_
 refine wp_cond_false M4.ev ?_;refine wp_skip ?_;repeat refine wp_seq ?_
 refine M4.t [.x 46 [] (rv x y (1:Fin P)),.x 47 [] (.bool b),.u [(46,0)] 0,.x 3 [(47,1)] (.bool b)] [] [(0,2,(ws x++(ws y++(ws (1:Fin P)))))] [(ws x++(ws y++(ws (1:Fin P)))),(ws x),(ws x++(ws y++(ws (1:Fin P))))] [(2,(.p 0 0)),(3,(.v (.bool b)))] ⟨RG.ld u56 i56,RG.st,RG.pt i56,RG.st,trivial⟩ ?_;intro a5 w5 M5;refine wp_ret ?_;refine bodyPost_ret (v:=(.tuple #[(rv x y (1:Fin P)),(.bool b)])) (RG.aN M5.st 2 3 73 rfl 0 _ rfl (M5.at (s:=(.p 0 0))) _ (M5.at (s:=(.v (.bool b)))) u56 i56) M5.sl.defers ?_;exact⟨_,rfl,M5.st.bel.below,rfl⟩
end
section
open Go.RowKit Go.Sort
variable {P:Nat}[NeZero P]{N:Nat}
def FracT(t:T3 P)(p:EC.Pt P):Prop:=EC.Frac t.1 t.2.1 t.2.2 p/\EC.On p
def dbF(t:T3 P):T3 P:=(EC.fdE t.2.1 t.2.2*EC.fdT t.1 t.2.1 t.2.2,EC.fdD t.1*(t.1*(EC.fdE t.2.1 t.2.2*EC.fdE t.2.1 t.2.2)-EC.fdT t.1 t.2.1 t.2.2)-t.2.1*(EC.fdE t.2.1 t.2.2*EC.fdE t.2.1 t.2.2*EC.fdE t.2.1 t.2.2),EC.fdE t.2.1 t.2.2*EC.fdE t.2.1 t.2.2*EC.fdE t.2.1 t.2.2*t.2.2)
def plF(a b : T3 P): T3 P :=
  if a.2.2 = 0 then b else if b.2.2 = 0 then a else
  if b.1 * a.2.2 = a.1 * b.2.2 then(if b.2.1 * a.2.2 = a.2.1 * b.2.2 then dbF a else(0, 1, 0)) else
  ((b.1 * a.2.2 - a.1 * b.2.2) * EC.frT (b.2.1 * a.2.2 - a.2.1 * b.2.2) (b.1 * a.2.2 - a.1 * b.2.2) (a.2.2 * b.2.2) (a.1 * b.2.2),
   (b.2.1 * a.2.2 - a.2.1 * b.2.2) * (a.1 * b.2.2 * ((b.1 * a.2.2 - a.1 * b.2.2) * (b.1 * a.2.2 - a.1 * b.2.2)) - EC.frT (b.2.1 * a.2.2 - a.2.1 * b.2.2) (b.1 * a.2.2 - a.1 * b.2.2) (a.2.2 * b.2.2) (a.1 * b.2.2)) - a.2.1 * b.2.2 * ((b.1 * a.2.2 - a.1 * b.2.2) * (b.1 * a.2.2 - a.1 * b.2.2) * (b.1 * a.2.2 - a.1 * b.2.2)),
   (b.1 * a.2.2 - a.1 * b.2.2) * (b.1 * a.2.2 - a.1 * b.2.2) * (b.1 * a.2.2 - a.1 * b.2.2) * (a.2.2 * b.2.2))
theorem FracT.plus(C:Fl3 P){a b:T3 P}{p q:EC.Pt P}(h:FracT a p)(h':FracT b q):Gives 35 #[tv a,tv b] (tv (plF a b))/\FracT (plF a b) (EC.add p q):=by
 have ho:=C.cur.on h.2 h'.2;obtain⟨x1,y1,z1⟩:=a;obtain⟨x2,y2,z2⟩:=b;refine⟨AN C x1 y1 z1 x2 y2 z2 _ (fun n1=>by unfold plF;rw[if_pos n1]) (fun n1 n2=>by unfold plF;rw[if_neg n1,if_pos n2]) (fun n1 n2 e=>?_) (fun n1 n2 e1=>by unfold plF;rw[if_neg n1,if_neg n2,if_neg e1]),?_⟩
 ·rcases h.1.plus C.cur h.2 h'.1 h'.2 n1 n2 with⟨e1,e2,e3⟩|⟨e1,e2,e3,e4⟩|⟨e1,e2⟩
  ·exact .inl ⟨e2,by unfold plF;rw[if_neg n1,if_neg n2,if_pos e1,if_neg e2]⟩
  ·exact .inr ⟨e2,e3,by unfold plF;rw[if_neg n1,if_neg n2,if_pos e1,if_pos e2];rfl⟩
  ·exact absurd e e1
 unfold plF;by_cases n1:z1=0
 ·rw[if_pos n1];obtain rfl:=h.1.zero n1;exact h'
 ·rw[if_neg n1];by_cases n2:z2=0
  ·rw[if_pos n2];obtain rfl:=h'.1.zero n2;rw[EC.bD];exact h
  ·rw[if_neg n2];rcases h.1.plus C.cur h.2 h'.1 h'.2 n1 n2 with⟨e1,e2,e3⟩|⟨e1,e2,e3,e4⟩|⟨e1,e2⟩
   ·rw[if_pos e1,if_neg e2];refine⟨?_,ho⟩;rw[e3];exact rfl
   ·rw[if_pos e1,if_pos e2];refine⟨?_,ho⟩;rw[e4];exact h.1.double C.cur h.2 n1
   ·rw[if_neg e1];exact⟨e2,ho⟩
theorem FracT.none:FracT ((0,1,0):T3 P) .none:=⟨rfl,EC.eN⟩
def tmF(n:Nat)(t:T3 P):Nat->T3 P
 | 0=>(0,1,0)
 | m+1=>if n/2^(255-m)%2=1 then plF (plF (tmF n t m) (tmF n t m)) t else plF (tmF n t m) (tmF n t m)
theorem Cr(C:Fl3 P){n:Nat}{t:T3 P}{p:EC.Pt P}(hn:n<2^256)(h:FracT t p):∀m,m<=256->FracT (tmF n t m) (EC.mul (n/2^(256-m)) p)
 | 0,_=>by
  rw[Nat.sub_zero,Nat.div_eq_of_lt hn];exact FracT.none
 | m+1,hm=>by
  have ih:=Cr C hn h m (by omega);have e1:256-m=255-m+1:=by omega
  rw[show 256-(m+1)=255-m by omega,wP n (255-m),<-e1];unfold tmF;have h2:=(FracT.plus C ih ih).2;rw[<-EC.mul_add C.cur h.2,<-Nat.two_mul]at h2;by_cases hb:n/2^(255-m)%2=1
  ·rw[if_pos hb,hb];exact(FracT.plus C h2 h).2
  ·rw[if_neg hb,show n/2^(255-m)%2=0 by omega];exact h2
theorem rZ(C:Fld P)(x y:Fin P):EC.Frac x y 1 (.some (x,y):EC.Pt P):=⟨fun h=>C.cur.two (by grobner),by grobner,by grobner⟩
end
section
open Go.RowKit Go.Sort Go.Deep
variable {P:Nat}[NeZero P]{N:Nat}
def gxB:Bs:=#[121,190,102,126,249,220,187,172,85,160,98,149,206,135,11,7,2,155,252,219,45,206,40,217,89,242,129,91,22,248,23,152]
theorem O4(C:Fld P):Gives 114 #[.string ⟨gxB⟩] (fv (gX P)):=fun w=>(CL ⟨gxB⟩ rfl w).mono (by
 rintro e w' ⟨v,rfl,hb,hF⟩;refine⟨_,rfl,hb,?_⟩;have h:=hF.nv;rw[h];show nv _=nv _;rw[Bq C];exact congrArg nv (by decide +kernel:beV gxB.toList=55066263022277343669578718895168534326250603453777594175500187360389116729240))
theorem Mm(C:Fld P):rt (gX P*gX P*gX P+7)=some (gY P):=by
 have h:=nE C;have h1:gY P^2=gX P^3+7:=h;have h2:gY P*gY P=gX P*gX P*gX P+7:=by
  generalize gX P=x at *;generalize gY P=y at *;clear h C
  grobner
 rw[FG C h2,if_neg];rw[Bp C];decide
def gT(P:Nat)[NeZero P]:T3 P:=(gX P,gY P,1)
theorem C5(C:Fld P):FracT (gT P) (gG P):=⟨rZ C _ _,nE C⟩
theorem OT(C:Fl3 P):Gives 75 #[] (tv (gT P)):=by
 intro w;go_enter Tryz.func75,Tryz.ntmps75;refine RG.M.enter [] 11 (by kernel_rfl) ?_;intro a0 M0;repeat refine wp_seq ?_
 refine M0.t [.m 0 [] 0] [(0,(RG.z 12))] [] [(RG.z 12)] [(0,(.p 0 0))] ⟨RG.mk 0 73,trivial⟩ ?_;intro j1 a1 w1 M1;repeat refine wp_seq ?_
 refine M1.t [.c 4 [] (fv (gX P)),.m 1 [] 1,.u [(1,1),(4,0)] 1] [(1,(RG.z 4))] [(1,2,(ws (gX P)))] [(RG.z 12),(ws (gX P))] [(0,(.p 0 0)),(1,(.p 1 0))] ⟨RG.cl (O4 C.toFld),RG.mk 1 68,RG.pt i33,trivial⟩ ?_;intro j2 a2 w2 M2;repeat refine wp_seq ?_
 refine M2.t [.x 6 [] (fv (gX P)),.c 7 [(6,0)] (.tuple #[(rv (gX P) (gY P) (1:Fin P)),(.bool true)]),.x 5 [(7,1)] (.tuple #[(rv (gX P) (gY P) (1:Fin P)),(.bool true)]),.x 8 [(5,2)] (rv (gX P) (gY P) (1:Fin P)),.x 9 [(5,2)] (.bool true),.m 2 [] 2,.u [(2,5),(8,3)] 2,.x 3 [(9,4)] (.bool true)] [(5,(RG.z 12))] [(2,6,(ws (gX P)++(ws (gY P)++(ws (1:Fin P)))))] [(RG.z 12),(ws (gX P)),(ws (gX P)++(ws (gY P)++(ws (1:Fin P))))] [(0,(.p 0 0)),(2,(.p 2 0))] ⟨RG.ld u33 i33,RG.cl (CG C (gX P) (gY P) (Mm C.toFld)),RG.st,RG.st,RG.st,RG.mk 2 73,RG.pt i56,RG.st,trivial⟩ ?_;intro j3 a3 w3 M3;repeat refine wp_seq ?_
 refine M3.t [.x 10 [] (rv (gX P) (gY P) (1:Fin P)),.u [(10,0)] 0] [] [(0,1,(ws (gX P)++(ws (gY P)++(ws (1:Fin P)))))] [(ws (gX P)++(ws (gY P)++(ws (1:Fin P)))),(ws (gX P)),(ws (gX P)++(ws (gY P)++(ws (1:Fin P))))] [(0,(.p 0 0))] ⟨RG.ld u56 i56,RG.pt i56,trivial⟩ ?_;intro a4 w4 M4;refine wp_ret ?_;refine bodyPost_ret (v:=tv (gT P)) (RG.aC M4.st 0 73 rfl 0 _ rfl (M4.at (s:=.p 0 0)) u56 i56) M4.sl.defers ?_;exact⟨_,rfl,M4.st.bel.below,rfl⟩
end
section
open Go.RowKit Go.Sort
variable {P:Nat}[NeZero P]{N:Nat}
theorem NV(i:Nat)(w:World):(binOp .geq 3 (.int .i64 i) (.int .i64 0)).run prog w=.ok (.bool true) w:=by
 go_simp
theorem Nq(i:Nat)(hi:i<1000)(w:World):(binOp .sub 3 (.int .i64 i) (.int .i64 1)).run prog w=.ok (.int .i64 ((i:Int)-1)) w:=by
 have h:=QG ((i:Int)-1) (by omega);go_simp
theorem LK{n i:Nat}(hn:n<top)(hi:i<256)(h:n/2^i%2=1):Gives 74 #[nv n,.int .i64 i] (.int .u64 1):=fun w =>
 (mW _ n i (lK hn) hi w).mono (by rintro e w' ⟨v,rfl,hb,t,rfl,ht⟩;exact⟨_,rfl,hb,by rw[ht,h];rfl⟩)
theorem LM{n i:Nat}(hn:n<top)(hi:i<256)(h:¬n/2^i%2=1):Gives 74 #[nv n,.int .i64 i] (.int .u64 0):=fun w =>
 (mW _ n i (lK hn) hi w).mono (by rintro e w' ⟨v,rfl,hb,t,rfl,ht⟩;exact⟨_,rfl,hb,by rw[ht,show n/2^i%2=0 by omega];rfl⟩)
theorem rG(C:Fl3 P)(n:Nat)(hn:n<top)(t:T3 P){p:EC.Pt P}(h:FracT t p):Gives 36 #[nv n,tv t] (tv (tmF n t 256)):=by
 intro w;go_enter Tryz.func36,Tryz.ntmps36;refine RG.Ix (v0:=nv n) (v1:=tv t) (n:=23) (by kernel_rfl) (by kernel_rfl) (by kernel_rfl) (by kernel_rfl) ?_;intro a0 sl0 f0 f1;have hS0:=RG.St.begin w;have M0:RG.M w w.heap.size [] 23 [] [] [(0,(.v (nv n))),(1,(.v (tv t)))] a0 _:=⟨hS0,sl0,⟨f0,f1,trivial⟩⟩
 repeat refine wp_seq ?_
 refine M0.t [.m 2 [] 0,.m 3 [] 1,.m 4 [] 2] [(0,(wn n)),(1,(tw t)),(2,(RG.z 12))] [] [(wn n),(tw t),(RG.z 12)] [(2,(.p 0 0)),(3,(.p 1 0)),(4,(.p 2 0))] ⟨RG.mk 0 68,RG.mk 1 73,RG.mk 2 73,trivial⟩ ?_;intro j1 i1 m1 a1 w1 M1;repeat refine wp_seq ?_
 refine M1.t [.c 7 [] (tv ((0,1,0):T3 P)),.m 5 [] 3,.u [(5,1),(7,0)] 3] [(1,(RG.z 12))] [(3,2,(tw ((0,1,0):T3 P)))] [(wn n),(tw t),(RG.z 12),(tw ((0,1,0):T3 P))] [(2,(.p 0 0)),(3,(.p 1 0)),(4,(.p 2 0)),(5,(.p 3 0))] ⟨RG.cl (xH C),RG.mk 3 73,RG.pt i56,trivial⟩ ?_;intro j2 a2 w2 M2;repeat refine wp_seq ?_
 refine M2.u [.x 6 [] (.int .i64 255)] [(2,(.p 0 0)),(3,(.p 1 0)),(4,(.p 2 0)),(5,(.p 3 0)),(6,(.v (.int .i64 255)))] ⟨RG.st,trivial⟩ ?_;intro a3 w3 M3;have f2_3:a3.tmps[2]? = some (.pointer (some ⟨j1,0,none⟩)):=M3.at (s:=(.p 0 0));have f3_3:a3.tmps[3]? = some (.pointer (some ⟨i1,0,none⟩)):=M3.at (s:=(.p 1 0));have f4_3:a3.tmps[4]? = some (.pointer (some ⟨m1,0,none⟩)):=M3.at (s:=(.p 2 0));have f5_3:a3.tmps[5]? = some (.pointer (some ⟨j2,0,none⟩)):=M3.at (s:=(.p 3 0));have f6_3:a3.tmps[6]? = some (.int .i64 255):=M3.at (s:=(.v (.int .i64 255)));repeat refine wp_seq ?_
 refine wp_block ?_;refine wp_loop_ghost (fun m a wr=>m<=256/\RG.Sl a 23/\a.tmps[2]? = some (.pointer (some ⟨j1,0,none⟩))/\a.tmps[3]? = some (.pointer (some ⟨i1,0,none⟩))/\a.tmps[4]? = some (.pointer (some ⟨m1,0,none⟩))/\a.tmps[5]? = some (.pointer (some ⟨j2,0,none⟩))/\a.tmps[6]? = some (.int .i64 ((m:Int)-1))/\RG.St w w.heap.size [] [wn n,tw t,[.int .u64 0,.int .u64 0,.int .u64 0,.int .u64 0,.int .u64 0,.int .u64 0,.int .u64 0,.int .u64 0,.int .u64 0,.int .u64 0,.int .u64 0,.int .u64 0],tw (tmF n t (256-m))] [j1,i1,m1,j2] wr) 256 ⟨PQ _,M3.sl,f2_3,f3_3,f4_3,f5_3,f6_3,?_⟩ ?_
 ·rw[TK,tmF];exact M3.st
 intro m a wr;rintro⟨hm,sl,f2,f3,f4,f5,f6,hS⟩;have hn2:n<2^256:=hn;generalize j1=k2 at f2 f3 f4 f5 hS;generalize i1=k3 at f2 f3 f4 f5 hS;generalize m1=k4 at f2 f3 f4 f5 hS;generalize j2=k5 at f2 f3 f4 f5 hS;by_cases hz:m=0
 ·subst hz;have e256:tmF n t (256-0)=tmF n t 256:=rfl;rw[e256]at hS;obtain⟨s,hs⟩:∃s,tmF n t 256=s:=⟨_,rfl⟩
  rw[hs]at hS⊢;have M0:RG.M w w.heap.size [] 23 [(wn n),(tw t),(RG.z 12),(tw s)] [k2,k3,k4,k5] [(2,(.p 0 0)),(3,(.p 1 0)),(4,(.p 2 0)),(5,(.p 3 0)),(6,(.v (.int .i64 (-1))))] a _:=⟨hS,sl,⟨f2,f3,f4,f5,f6,trivial⟩⟩
  repeat refine wp_seq ?_
  refine M0.u [.x 8 [] (.int .i64 (-1)),.x 9 [(8,0)] (.bool false)] [(4,(.p 2 0)),(5,(.p 3 0)),(9,(.v (.bool false)))] ⟨RG.st,RG.st,trivial⟩ ?_;intro a1 w1 M1;repeat refine wp_seq ?_
  refine wp_cond_false M1.ev ?_;refine wp_exit ?_;dsimp only[Exit.then,So];rw[if_pos rfl];repeat refine wp_seq ?_
  refine M1.t [.x 22 [] (tv s),.u [(22,0)] 2] [] [(2,1,(tw s))] [(wn n),(tw t),(tw s),(tw s)] [(4,(.p 2 0))] ⟨RG.ld u56 i56,RG.pt i56,trivial⟩ ?_;intro a2 w2 M2;refine wp_ret ?_;refine bodyPost_ret (v:=tv s) (RG.aC M2.st 4 73 rfl 2 _ rfl (M2.at (s:=(.p 2 0))) u56 i56) M2.sl.defers ?_;exact⟨_,rfl,M2.st.bel.below,rfl⟩
 ·obtain⟨i,rfl⟩:∃i,m=i+1:=⟨m-1,by omega⟩
  have hi:i<256:=by omega
  replace f6:a.tmps[6]? = some (.int .i64 i):=by rw[f6];congr 2;omega
  have ih:=Cr C hn2 h (256-(i+1)) (by omega);obtain⟨s,hs⟩:∃s,tmF n t (256-(i+1))=s:=⟨_,rfl⟩
  rw[hs]at hS ih;obtain⟨s2,hs2⟩:∃s2,s2=plF s s:=⟨_,rfl⟩
  have hp1:=(ih.plus C ih).1;have ih2:=(ih.plus C ih).2;rw[<-hs2]at hp1 ih2;obtain⟨s3,hs3⟩:∃s3,s3=plF s2 t:=⟨_,rfl⟩
  have hp2:=(ih2.plus C h).1;rw[<-hs3]at hp2;have hstep:tmF n t (256-i)=if n/2^i%2=1 then s3 else s2:=by
   rw[show 256-i=256-(i+1)+1 by omega];show(if n/2^(255-(256-(i+1)))%2=1 then plF (plF (tmF n t (256-(i+1))) (tmF n t (256-(i+1)))) t else plF (tmF n t (256-(i+1))) (tmF n t (256-(i+1))))=_;rw[show 255-(256-(i+1))=i by omega,hs,<-hs2,<-hs3]
  by_cases hb:n/2^i%2=1
  ·rw[if_pos hb]at hstep;have M0:RG.M w w.heap.size [] 23 [(wn n),(tw t),(RG.z 12),(tw s)] [k2,k3,k4,k5] [(2,(.p 0 0)),(3,(.p 1 0)),(4,(.p 2 0)),(5,(.p 3 0)),(6,(.v (.int .i64 i)))] a _:=⟨hS,sl,⟨f2,f3,f4,f5,f6,trivial⟩⟩
   repeat refine wp_seq ?_
   refine M0.u [.x 8 [] (.int .i64 i),.x 9 [(8,0)] (.bool true)] [(2,(.p 0 0)),(3,(.p 1 0)),(4,(.p 2 0)),(5,(.p 3 0)),(6,(.v (.int .i64 i))),(9,(.v (.bool true)))] ⟨RG.st,RG.aI rfl .geq 3 3 8 (.int .i64 i) (.int .i64 0) (.bool true) rfl rfl RG.sx (fun w=>by kernel_rfl) (NV i),trivial⟩ ?_;intro a1 w1 M1;repeat refine wp_seq ?_
   refine wp_cond_true M1.ev ?_;refine wp_skip ?_;refine wp_seq ?_;refine wp_block ?_;repeat refine wp_seq ?_
   refine M1.t [.x 12 [] (tv s),.x 13 [] (tv s),.c 14 [(12,0),(13,1)] (tv s2),.u [(14,2)] 3] [] [(3,3,(tw s2))] [(wn n),(tw t),(RG.z 12),(tw s2)] [(2,(.p 0 0)),(3,(.p 1 0)),(4,(.p 2 0)),(5,(.p 3 0)),(6,(.v (.int .i64 i)))] ⟨RG.ld u56 i56,RG.ld u56 i56,RG.cl (hp1),RG.pt i56,trivial⟩ ?_;intro a2 w2 M2;repeat refine wp_seq ?_
   refine M2.u [.x 15 [] (nv n),.x 16 [] (.int .i64 i),.c 17 [(15,0),(16,1)] (.int .u64 1),.x 18 [(17,2)] (.bool true)] [(2,(.p 0 0)),(3,(.p 1 0)),(4,(.p 2 0)),(5,(.p 3 0)),(6,(.v (.int .i64 i))),(18,(.v (.bool true)))] ⟨RG.ld u33 i33,RG.st,RG.cl (LK hn hi hb),RG.st,trivial⟩ ?_;intro a3 w3 M3;repeat refine wp_seq ?_
   refine wp_cond_true M3.ev ?_;repeat refine wp_seq ?_
   refine M3.t [.x 19 [] (tv s2),.x 20 [] (tv t),.c 21 [(19,0),(20,1)] (tv s3),.u [(21,2)] 3] [] [(3,3,(tw s3))] [(wn n),(tw t),(RG.z 12),(tw s3)] [(2,(.p 0 0)),(3,(.p 1 0)),(4,(.p 2 0)),(5,(.p 3 0)),(6,(.v (.int .i64 i)))] ⟨RG.ld u56 i56,RG.ld u56 i56,RG.cl (hp2),RG.pt i56,trivial⟩ ?_;intro a4 w4 M4;repeat refine wp_seq ?_
   refine M4.u [.x 10 [] (.int .i64 i),.x 11 [(10,0)] (.int .i64 ((i:Int)-1)),.x 6 [(11,1)] (.int .i64 ((i:Int)-1))] [(2,(.p 0 0)),(3,(.p 1 0)),(4,(.p 2 0)),(5,(.p 3 0)),(6,(.v (.int .i64 ((i:Int)-1))))] ⟨RG.st,RG.aI rfl .sub 3 3 10 (.int .i64 i) (.int .i64 1) (.int .i64 ((i:Int)-1)) rfl rfl RG.sx (fun w=>by kernel_rfl) (Nq i (by omega)),RG.st,trivial⟩ ?_;intro a5 w5 M5;have f2_5:a5.tmps[2]? = some (.pointer (some ⟨k2,0,none⟩)):=M5.at (s:=(.p 0 0));have f3_5:a5.tmps[3]? = some (.pointer (some ⟨k3,0,none⟩)):=M5.at (s:=(.p 1 0));have f4_5:a5.tmps[4]? = some (.pointer (some ⟨k4,0,none⟩)):=M5.at (s:=(.p 2 0));have f5_5:a5.tmps[5]? = some (.pointer (some ⟨k5,0,none⟩)):=M5.at (s:=(.p 3 0));have f6_5:a5.tmps[6]? = some (.int .i64 ((i:Int)-1)):=M5.at (s:=(.v (.int .i64 ((i:Int)-1))));show ∃n',_;exact⟨i,Su i,by omega,M5.sl,f2_5,f3_5,f4_5,f5_5,f6_5,by rw[hstep];exact M5.st⟩
  ·rw[if_neg hb]at hstep;have M0:RG.M w w.heap.size [] 23 [(wn n),(tw t),(RG.z 12),(tw s)] [k2,k3,k4,k5] [(2,(.p 0 0)),(3,(.p 1 0)),(4,(.p 2 0)),(5,(.p 3 0)),(6,(.v (.int .i64 i)))] a _:=⟨hS,sl,⟨f2,f3,f4,f5,f6,trivial⟩⟩
   repeat refine wp_seq ?_
   refine M0.u [.x 8 [] (.int .i64 i),.x 9 [(8,0)] (.bool true)] [(2,(.p 0 0)),(3,(.p 1 0)),(4,(.p 2 0)),(5,(.p 3 0)),(6,(.v (.int .i64 i))),(9,(.v (.bool true)))] ⟨RG.st,RG.aI rfl .geq 3 3 8 (.int .i64 i) (.int .i64 0) (.bool true) rfl rfl RG.sx (fun w=>by kernel_rfl) (NV i),trivial⟩ ?_;intro a1 w1 M1;repeat refine wp_seq ?_
   refine wp_cond_true M1.ev ?_;refine wp_skip ?_;refine wp_seq ?_;refine wp_block ?_;repeat refine wp_seq ?_
   refine M1.t [.x 12 [] (tv s),.x 13 [] (tv s),.c 14 [(12,0),(13,1)] (tv s2),.u [(14,2)] 3] [] [(3,3,(tw s2))] [(wn n),(tw t),(RG.z 12),(tw s2)] [(2,(.p 0 0)),(3,(.p 1 0)),(4,(.p 2 0)),(5,(.p 3 0)),(6,(.v (.int .i64 i)))] ⟨RG.ld u56 i56,RG.ld u56 i56,RG.cl (hp1),RG.pt i56,trivial⟩ ?_;intro a2 w2 M2;repeat refine wp_seq ?_
   refine M2.u [.x 15 [] (nv n),.x 16 [] (.int .i64 i),.c 17 [(15,0),(16,1)] (.int .u64 0),.x 18 [(17,2)] (.bool false)] [(2,(.p 0 0)),(3,(.p 1 0)),(4,(.p 2 0)),(5,(.p 3 0)),(6,(.v (.int .i64 i))),(18,(.v (.bool false)))] ⟨RG.ld u33 i33,RG.st,RG.cl (LM hn hi hb),RG.st,trivial⟩ ?_;intro a3 w3 M3;repeat refine wp_seq ?_
   refine wp_cond_false M3.ev ?_;refine wp_skip ?_;repeat refine wp_seq ?_
   refine M3.u [.x 10 [] (.int .i64 i),.x 11 [(10,0)] (.int .i64 ((i:Int)-1)),.x 6 [(11,1)] (.int .i64 ((i:Int)-1))] [(2,(.p 0 0)),(3,(.p 1 0)),(4,(.p 2 0)),(5,(.p 3 0)),(6,(.v (.int .i64 ((i:Int)-1))))] ⟨RG.st,RG.aI rfl .sub 3 3 10 (.int .i64 i) (.int .i64 1) (.int .i64 ((i:Int)-1)) rfl rfl RG.sx (fun w=>by kernel_rfl) (Nq i (by omega)),RG.st,trivial⟩ ?_;intro a4 w4 M4;have f2_4:a4.tmps[2]? = some (.pointer (some ⟨k2,0,none⟩)):=M4.at (s:=(.p 0 0));have f3_4:a4.tmps[3]? = some (.pointer (some ⟨k3,0,none⟩)):=M4.at (s:=(.p 1 0));have f4_4:a4.tmps[4]? = some (.pointer (some ⟨k4,0,none⟩)):=M4.at (s:=(.p 2 0));have f5_4:a4.tmps[5]? = some (.pointer (some ⟨k5,0,none⟩)):=M4.at (s:=(.p 3 0));have f6_4:a4.tmps[6]? = some (.int .i64 ((i:Int)-1)):=M4.at (s:=(.v (.int .i64 ((i:Int)-1))));show ∃n',_;exact⟨i,Su i,by omega,M4.sl,f2_4,f3_4,f4_4,f5_4,f6_4,by rw[hstep];exact M4.st⟩
end
section
open Go.RowKit Go.Sort Go.Deep
variable {P:Nat}[NeZero P]{N:Nat}
def PL(n:Nat):List RG.It:=[.x 3 [] (nv n),.c 4 [] (tv (gT P)),.c 5 [(3,0),(4,1)] (tv (tmF n (gT P) 256)),.u [(5,2)] 1]
theorem Jj(C:Fl3 P)(n:Nat)(hn:n<top):Gives 38 #[nv n] (tv (tmF n (gT P) 256)):=by
 intro w;go_enter Tryz.func38,Tryz.ntmps38;refine RG.M.enter [(0,.v (nv n))] 6 (by kernel_rfl) ?_;intro a0 M0;repeat refine wp_seq ?_
 refine M0.t [.m 1 [] 0,.m 2 [] 1] [(0,(wn n)),(1,(RG.z 12))] [] [(wn n),(RG.z 12)] [(1,(.p 0 0)),(2,(.p 1 0))] ⟨RG.mk 0 68,RG.mk 1 73,trivial⟩ ?_;intro j1 i1 a1 w1 M1;repeat refine wp_seq ?_
 refine M1.d (PL (P:=P) n) [] [(1,3,(tw (tmF n (gT P) 256)))] [(wn n),(tw (tmF n (gT P) 256))] [(2,(.p 1 0))] ⟨RG.ld u33 i33,RG.cl (OT C),RG.cl (rG C n hn (gT P) (C5 C.toFld)),RG.pt i56,trivial⟩ ?_;intro a2 w2 M2;refine wp_ret ?_;refine bodyPost_ret (v:=tv (tmF n (gT P) 256)) (RG.aC M2.st 2 73 rfl 1 _ rfl (M2.at (s:=.p 1 0)) u56 i56) M2.sl.defers ?_;exact⟨_,rfl,M2.st.bel.below,rfl⟩
end
section
open Go.RowKit Go.Sort
variable {P:Nat}[NeZero P]{N:Nat}
end
section
open Go.RowKit Go.Sort Go.Deep
variable {P:Nat}[NeZero P]{N:Nat}
theorem xB(l:List UInt8):beV l<256^l.length:=by
 induction l with
 | nil=>decide
 | cons x r ih =>
  have h:=cX [x] r;rw[show [x]++r=x :: r from rfl]at h;have hx:beV [x]=x.toNat:=by simp[beV]
  have hx2:=x.toNat_lt;rw[h,hx,Qw,Nat.pow_succ,Nat.mul_comm (256^r.length)];have:=SH (256^r.length) (show x.toNat+1<=256 by omega);rw[Nat.add_mul,Nat.one_mul]at this;omega
theorem O9(w:World):(Instr.makeSlice 28 (.int .i64 32) (.int .i64 32)).run prog w=.ok (.slice (some ⟨w.heap.size,0,none⟩) 32 32) (w.alloc (.cells (madeCells #[.int .u8 0] 32) 5)):=
 run_make_row' (P:=prog) 28 5 (.int .u8 0) 1 Fg Bj rfl .i64 .i64 32 (by decide) (by decide) w
end
section
open Go.RowKit Go.Sort Go.Deep
variable {N:Nat}
theorem JF(bs:Bs):nuV bs<top:=by
 unfold nuV;split
 ·rename_i h
  have h1:=xB bs.toList;rw[P8,h]at h1;exact h1
 ·unfold top;omega
variable {P:Nat}[NeZero P]
theorem IB(C:Fl3 P){n:Nat}(hn:n<top):FracT (tmF n (gT P) 256) (EC.mul n (gG P)):=by
 have h:=Cr C (n:=n) (by unfold top at hn;omega) (C5 C.toFld) 256 (PQ _);rwa[TK,Nat.pow_zero,Nat.div_one]at h
end
section
open Go.RowKit Go.Sort Go.Deep
variable {P:Nat}[NeZero P]{N:Nat}
theorem Ki:prog.underlying 51=some (.array 33 5):=by kernel_rfl
theorem iR{b:Bs}(h:b.size=33):aA b=[.int .u8 (ub b[0]!),.int .u8 (ub b[1]!),.int .u8 (ub b[2]!),.int .u8 (ub b[3]!),.int .u8 (ub b[4]!),.int .u8 (ub b[5]!),.int .u8 (ub b[6]!),.int .u8 (ub b[7]!),.int .u8 (ub b[8]!),.int .u8 (ub b[9]!),.int .u8 (ub b[10]!),.int .u8 (ub b[11]!),.int .u8 (ub b[12]!),.int .u8 (ub b[13]!),.int .u8 (ub b[14]!),.int .u8 (ub b[15]!),.int .u8 (ub b[16]!),.int .u8 (ub b[17]!),.int .u8 (ub b[18]!),.int .u8 (ub b[19]!),.int .u8 (ub b[20]!),.int .u8 (ub b[21]!),.int .u8 (ub b[22]!),.int .u8 (ub b[23]!),.int .u8 (ub b[24]!),.int .u8 (ub b[25]!),.int .u8 (ub b[26]!),.int .u8 (ub b[27]!),.int .u8 (ub b[28]!),.int .u8 (ub b[29]!),.int .u8 (ub b[30]!),.int .u8 (ub b[31]!),.int .u8 (ub b[32]!)]:=by
 apply List.ext_getElem?;intro i;by_cases hi:i<33
 ·rw[nQ b i (by omega)];match i,hi with
  | 0,_=>rfl
  | 1,_=>rfl
  | 2,_=>rfl
  | 3,_=>rfl
  | 4,_=>rfl
  | 5,_=>rfl
  | 6,_=>rfl
  | 7,_=>rfl
  | 8,_=>rfl
  | 9,_=>rfl
  | 10,_=>rfl
  | 11,_=>rfl
  | 12,_=>rfl
  | 13,_=>rfl
  | 14,_=>rfl
  | 15,_=>rfl
  | 16,_=>rfl
  | 17,_=>rfl
  | 18,_=>rfl
  | 19,_=>rfl
  | 20,_=>rfl
  | 21,_=>rfl
  | 22,_=>rfl
  | 23,_=>rfl
  | 24,_=>rfl
  | 25,_=>rfl
  | 26,_=>rfl
  | 27,_=>rfl
  | 28,_=>rfl
  | 29,_=>rfl
  | 30,_=>rfl
  | 31,_=>rfl
  | 32,_=>rfl
  | n+33,h=>exact absurd h (by omega)
 ·rw[RY (by rw[aF h];omega),RY (by show 33<=i;omega)]
theorem bytes_eq{a b:Bs}(ha:a.size=33)(hb:b.size=33):(∀i∈QJ 33,ub a[i]! = ub b[i]!)↔a=b:=by
 constructor
 ·intro h;apply Array.ext (by rw[ha,hb]);intro i h1 h2;have h3:=h i (Rh.2 (by omega));rw[getElem!_pos a i h1,getElem!_pos b i h2]at h3;have h4:a[i].toNat=b[i].toNat:=by unfold ub at h3;omega
  exact UInt8.toNat_inj.1 h4
 ·rintro rfl i _;rfl
theorem Mp{a b:Bs}(ha:a.size=33)(hb:b.size=33)(w:World):(VX 51 (.agg (aA a).toArray) (.agg (aA b).toArray)).run prog w=.ok (decide (a=b)) w:=by
 have hi:(prog.info? 5).isSome=true:=by kernel_rfl
 obtain⟨inf,hinf⟩:=Qx.1 hi;show(Op.equalIn 10000 51 _ _).run prog w=_;rw[run_equalIn_array w 9999 _ _ Ki hinf,cells5,
  eqI _ _ (fun i=>ub a[i]!) (fun i=>ub b[i]!) 9998 w (QJ 33) (fun i hi=>by
   rw[Tw];exact nQ a i (by rw[ha];exact Rh.1 hi)) (fun i hi=>by
   rw[Tw];exact nQ b i (by rw[hb];exact Rh.1 hi))]
 rw[decide_eq_decide.2 (bytes_eq ha hb)]
theorem Dj{b:Bs}(hb:b.size=33)(e:Bool)(w:World):(Instr.checkKey e 10000 51 (.agg (aA b).toArray)).run prog w=.ok () w:=by
 rw[iR hb];kernel_rfl
def at?(b:Bs):List Bs->Nat->Option Nat
 | [],_=>none
 | k :: r,i=>if b=k then some i else at? b r (i+1)
def ents:List Bs->Nat->List MapEntry
 | [],_=>[]
 | k :: r,i=>{ key:=.agg (aA k).toArray,val:=.int .i64 i,born:=i } :: ents r (i+1)
theorem zK{b:Bs}(hb:b.size=33)(w:World):∀(D:List Bs) (i:Nat),(∀k∈D,k.size=33)->(WA 51 (.agg (aA b).toArray) (ents D i) i).run prog w=.ok ((at? b D i).map fun j=>(j,.int .i64 j)) w
 | [],i,_=>rfl
 | k :: r,i,h=>by
  have ih:=zK hb w r (i+1) (fun x hx=>h x (Qv _ hx));have he:=Mp hb (h k Qy) w;unfold ents WA at?;simp only[Qi,he,QK];by_cases hk:b=k
  ·simp only[hk,decide_true,if_true,Sc,Option.map_some]
  ·simp only[hk,decide_false,Bool.false_eq_true,if_false,ih]
theorem CZ{b:Bs}(hb:b.size=33)(D:List Bs)(h:∀k∈D,k.size=33)(w:World):(Xo 51 (.agg (aA b).toArray) (ents D 0)).run prog w=.ok ((at? b D 0).map fun j=>(j,.int .i64 j)) w:=by
 have hu:(underlying 51).run prog w=.ok (.array 33 5) w:=run_underlying Ki w;unfold Xo;rw[Qi,hu,QK];cases D with
 | nil=>rfl
 | cons k r =>
  have h1:Instr.findNow (.array 33 5) (.agg (aA b).toArray) (ents (k :: r) 0) 0=none:=rfl;simp only[h1];exact zK hb w (k :: r) 0 h
theorem at?_none{b:Bs}:∀ {D:List Bs}{i:Nat},at? b D i=none↔b ∉ D
 | [],i=>by simp[at?]
 | k :: r,i=>by
  unfold at?;by_cases h:b=k
  ·simp[h]
  ·simp[h,at?_none (D:=r) (i:=i+1)]
end
section
open Go.RowKit Go.Sort Go.Deep
section
variable {P:Program}{ops:Array Oper}{rest:List Oper}{op:Oper}{a:Act}{w w':World}{v u:Value}{Q:Exit->Act->World->Prop}
theorem cR(hgd:op.guard=none)(T:TypeId)(x:Operand)(ho:op.op=.box T x)(hx:a.eval x=u)(hr:(Ug T u).run P w=.ok v w')(h:wpList P ops Q rest (a.put op.dst v) w'):wpList P ops Q (op :: rest) a w:=
 wpList_plain hgd fun K hK=>by
  unfold Sf execOp;simp only[ho,hx,Qi,hr,QK,Sc];exact hK _ _ h
end
variable {N:Nat}
theorem aW:(prog.info? 51).map (·.size)=some 33:=by kernel_rfl
theorem uCP:(prog.underlying 51).map (·.isRow)=some true:=by kernel_rfl
theorem zY{a:Bs}(ha:a.size=33)(w:World):(Ug 51 (.agg (aA a).toArray)).run prog w=.ok (.pointer (some ⟨w.heap.size,0,none⟩)) (w.alloc (.cells (aA a).toArray 51)):=by
 rw[iR ha];kernel_rfl
theorem Lp(k:Nat)(w:World):(Re 51 (.pointer (some ⟨k,0,none⟩)) none none none).run prog w=.ok (.slice (some ⟨k,0,none⟩) 33 33) w:=by kernel_rfl
theorem row_holds{W:World}{k:Nat}{a:Bs}(h:Row W k (aA a)):Holds encB W k 0 a:=cb_holds h.2.1 h.2.2
theorem mR{W:World}{k:Nat}{a:Bs}(ha:a.size=33)(h:Row W k (aA a)):SP.PartOk W (.slice (some ⟨k,0,none⟩) 33 33) a.toList:=
 ⟨_,k,0,33,a,by rw[ha],rfl,by omega,by omega,Qc ⟨rfl,row_holds h⟩⟩
theorem qU{W:World}{r:Nat}{L:Bs}(h:Holds encB W r 0 L):Holds SP.encB W r 0 L:=h
theorem qT{W:World}{r:Nat}{L:Bs}(h:Holds SP.encB W r 0 L):Holds encB W r 0 L:=h
structure Sx(w W:World)(k3 k4 k6 k7 r:Nat)(a b L:Bs):Prop where
 bl:Below w.heap.size w W
 r3:Row W k3 (aA a)
 r4:Row W k4 (aA b)
 r6:Row W k6 [.int .u64 0,.int .u64 0,.int .u64 0,.int .u64 0]
 r7:Row W k7 [.pointer (some ⟨r,0,none⟩)]
 lg:Holds encB W r 0 L
structure Sn(w:World)(k3 k4 k6 k7 r:Nat):Prop where
 lr:w.heap.size<=r
 n3:k3≠r
 n4:k4≠r
 n6:k6≠r
 n7:k7≠r
 l6:w.heap.size<=k6
theorem Sx.say{w W W':World}{k3 k4 k6 k7 r:Nat}{a b L L':Bs}(h:Sx w W k3 k4 k6 k7 r a b L)(n:Sn w k3 k4 k6 k7 r)(hO:SP.Only r 0 32 W W')(hL:Holds encB W' r 0 L'):Sx w W' k3 k4 k6 k7 r a b L':=
 ⟨h.bl.trans (hO.below h.bl.size n.lr),h.r3.only hO n.n3,h.r4.only hO n.n4,h.r6.only hO n.n6,h.r7.only hO n.n7,hL⟩
theorem Sx.drew{w W:World}{k3 k4 k6 k7 r:Nat}{a b L:Bs}(h:Sx w W k3 k4 k6 k7 r a b L):Sx w W.drew k3 k4 k6 k7 r a b L:=⟨h.bl.drew,h.r3,h.r4,h.r6,h.r7,h.lg⟩
theorem Sx.cell{w W:World}{k3 k4 k6 k7 r:Nat}{a b L:Bs}(h:Sx w W k3 k4 k6 k7 r a b L):W.cell? ⟨k7,0,none⟩=some (.pointer (some ⟨r,0,none⟩)):=h.r7.2.1 0 _ rfl
theorem yB(O:Ord N)(a b:Bs)(ha:a.size=33)(hb:b.size=33)(ta:Option Addr)(tl tc:Nat)(tx:List UInt8)(w:World)(hP:SP.PartOk w (.slice ta tl tc) tx):
 Calls prog 17 #[.agg (aA a).toArray,.agg (aA b).toArray,.slice ta tl tc] w (Ret fun e w'=>Below w.heap.size w w'/\e=nv (asg N a.toList b.toList tx)):=by
 obtain⟨L0,h0⟩:∃L,Hid (SP.newL [115,105,103,110]=L):=⟨_,rfl⟩
 obtain⟨L1,h1⟩:∃L,Hid (SP.cT L0 [112,117,98,108,105,99] a.toList=L):=⟨_,rfl⟩
 obtain⟨L2,h2⟩:∃L,Hid (SP.cT L1 [102,105,114,115,116] b.toList=L):=⟨_,rfl⟩
 obtain⟨L3,h3⟩:∃L,Hid (SP.cT L2 [116,101,120,116] tx=L):=⟨_,rfl⟩
 have s0:L0.size=32:=by rw[<-h0.out];exact SP.lI _
 have s1:L1.size=32:=by rw[<-h1.out];exact SP.cI _ _ _
 have s2:L2.size=32:=by rw[<-h2.out];exact SP.cI _ _ _
 have s3:L3.size=32:=by rw[<-h3.out];exact SP.cI _ _ _
 have hr:asg N a.toList b.toList tx=cha N L3:=by unfold asg Mc;rw[h0.out,h1.out,h2.out,h3.out]
 rw[hr];clear hr;have HP:=Hid.mk' hP;clear hP;obtain⟨va,hva⟩:∃v,Hid (QD (aA a).toArray=v):=⟨_,rfl⟩
 obtain⟨vb,hvb⟩:∃v,Hid (QD (aA b).toArray=v):=⟨_,rfl⟩
 have bA:=zY ha w;obtain⟨w1,hw1⟩:∃w1,Hid (w.alloc (.cells (aA a).toArray 51)=w1):=⟨_,rfl⟩
 have bB:=zY hb w1;obtain⟨w2,hw2⟩:∃w2,Hid (w1.alloc (.cells (aA b).toArray 51)=w2):=⟨_,rfl⟩
 obtain⟨w3,hw3⟩:∃w3,Hid (w2.alloc (.cells #[.int .u64 0,.int .u64 0,.int .u64 0,.int .u64 0] 46)=w3):=⟨_,rfl⟩
 rw[hva.out,hw1.out]at bA;rw[hvb.out,hw2.out]at bB;rw[hva.out,hvb.out];have e1:w1.heap.size=w.heap.size+1:=by rw[<-hw1.out,Qa]
 have e2:w2.heap.size=w.heap.size+2:=by rw[<-hw2.out,Qa,e1]
 have e3:w3.heap.size=w.heap.size+3:=by rw[<-hw3.out,Qa,e2]
 rw[e1]at bB;have K3:Hid (Row w3 w.heap.size (aA a)/\Row w3 (w.heap.size+1) (aA b)/\Row w3 (w.heap.size+2) [.int .u64 0,.int .u64 0,.int .u64 0,.int .u64 0]/\Below w.heap.size w w3):=by
  have q1:Row w1 w.heap.size (aA a):=by rw[<-hw1.out];exact aM w _ _
  have q2:Row w2 (w.heap.size+1) (aA b):=by rw[<-hw2.out,<-e1];exact aM w1 _ _
  have q3:Row w3 (w.heap.size+2) [.int .u64 0,.int .u64 0,.int .u64 0,.int .u64 0]:=by rw[<-hw3.out,<-e2];exact aM w2 _ _
  have b1:Below w.heap.size w w1:=by rw[<-hw1.out];exact aE w _
  have b2:Below w1.heap.size w1 w2:=by rw[<-hw2.out];exact aE w1 _
  have b3:Below w2.heap.size w2 w3:=by rw[<-hw3.out];exact aE w2 _
  exact⟨(q1.below b2).below b3,q2.below b3,q3,(b1.trans (b2.mono (by omega))).trans (b3.mono (by omega))⟩
 clear hw1 hw2;have BA:=Hid.mk' bA;have BB:=Hid.mk' bB;clear bA bB;go_enter Tryz.func17,Tryz.ntmps17;go_wp2_with (first|(refine cR (u:=va) (v:=.pointer (some ⟨w.heap.size,0,none⟩)) (w':=w1) rfl 51 (.tmp 0) rfl ?_ ?_ ?_;rfl;exact BA.out)|(refine cR (u:=vb) (v:=.pointer (some ⟨w.heap.size+1,0,none⟩)) (w':=w2) rfl 51 (.tmp 1) rfl ?_ ?_ ?_;rfl;exact BB.out))
 rw[hw3.out];clear hw3 BA BB;refine(uD ⟨#[115,105,103,110]⟩ w3 (by decide)).mono ?_;rintro e w4 ⟨v,rfl,hb4,r,rfl,hr1,hr2,hL⟩;rw[show SP.newL (⟨#[115,105,103,110]⟩:ByteArray).data.toList=L0 from h0.out]at hL;have hb04:Below w.heap.size w w4:=K3.out.2.2.2.trans (hb4.mono K3.out.2.2.2.size);obtain⟨k7,hk7⟩:∃k,Hid (w4.heap.size=k):=⟨_,rfl⟩
 have hk7r:r<k7:=by rw[<-hk7.out];exact hr2
 have hb04s:=hb04.size;have HN:Hid (Sn w w.heap.size (w.heap.size+1) (w.heap.size+2) k7 r):=⟨by omega,by omega,by omega,by omega,by omega,by omega⟩
 obtain⟨w5,hw5⟩:∃w5,Hid ((w4.alloc (.cells #[.pointer none] 102)).setCells k7 0 [.pointer (some ⟨r,0,none⟩)]=w5):=⟨_,rfl⟩
 have KS:Hid (Sx w w5 w.heap.size (w.heap.size+1) (w.heap.size+2) k7 r a b L0):=by
  rw[<-hw5.out,<-hk7.out];have hR:=aM w4 [.pointer none] 102;have hlt:w4.heap.size=k7:=hk7.out;refine⟨RG.below_setCells hb04.size _ _ _ (hb04.alloc hb04.size _),((K3.out.1.below hb4).alloc _).other (by omega),((K3.out.2.1.below hb4).alloc _).other (by omega),((K3.out.2.2.1.below hb4).alloc _).other (by omega),hR.put rfl,fun j hj=>?_⟩;have e:=RG.bK w4.heap.size [.pointer (some ⟨r,0,none⟩)] 0 (w4.alloc (.cells #[.pointer none] 102)) r (by omega);have e2:=Below.heap_alloc w4 (.cells #[.pointer none] 102) r hr2;rw[Qt (a:=⟨r,0+j,none⟩) e,Ro (a:=⟨r,0+j,none⟩) e,Qt (a:=⟨r,0+j,none⟩) e2,Ro (a:=⟨r,0+j,none⟩) e2];exact hL j hj
 have HTH:Hid ((w4.alloc (.cells #[.pointer none] 102)).there k7 0 1):=by rw[<-hk7.out];exact(aM w4 [.pointer none] 102).2.2
 clear hb4 hL hb04 hr1 hr2 K3 hk7r hb04s;go_wp2_with (refine aQ (v:=.pointer (some ⟨k7,0,none⟩)) (w':=w4.alloc (.cells #[.pointer none] 102)) rfl (.alloc 102) rfl ?_ ?_;(rw[<-hk7.out];kernel_rfl);refine Hid.out ?_)
 show wpList _ _ _ _ _ _;refine wpList_store_mid rfl 102 _ _ rfl k7 0 #[.pointer (some ⟨r,0,none⟩)] ?_ ?_ ?_ ?_ ?_ ?_
 ·kernel_rfl
 ·kernel_rfl
 ·exact HTH.out
 ·exact i124
 ·kernel_rfl
 rw[show(#[Value.pointer (some ⟨r,0,none⟩)]).toList=[.pointer (some ⟨r,0,none⟩)] from rfl,hw5.out];clear HTH hw5 hk7;have hs3:=Lp w.heap.size;have hs4:=Lp (w.heap.size+1);have KP:=KS.out;clear KS;go_wp2_with fail
 go_region_held3 (fun W=>W.cell? ⟨k7,0,none⟩=some (.pointer (some ⟨r,0,none⟩))/\∃L,Sx w W w.heap.size (w.heap.size+1) (w.heap.size+2) k7 r a b L) (first|(with_reducible exact⟨KP.cell,_,KP⟩)|(with_reducible exact⟨KP.drew.cell,_,KP.drew⟩)|fail) (first|(go_at_call 50;(first|(with_reducible refine(SP.eD r L0 ⟨#[112,117,98,108,105,99]⟩ (some ⟨w.heap.size,0,none⟩) 33 33 a.toList _ (by decide) (qU KP.lg) s0 (mR ha KP.r3)).mono ?_)|(with_reducible refine(SP.eD r L0 ⟨#[112,117,98,108,105,99]⟩ (some ⟨w.heap.size,0,none⟩) 33 33 a.toList _ (by decide) (qU KP.drew.lg) s0 (mR ha KP.drew.r3)).mono ?_));rintro e w6 ⟨rfl,hO,hL⟩;rw[show SP.cT L0 (⟨#[112,117,98,108,105,99]⟩:ByteArray).data.toList a.toList=L1 from h1.out]at hL;(first|(with_reducible (have KP1:=KP.drew.say HN.out hO (qT hL)))|(with_reducible (have KP1:=KP.say HN.out hO (qT hL)))|fail);clear KP hO hL;have KP:=KP1;clear KP1))
 clear hs3;go_wp2_with fail
 go_region_held3 (fun W=>W.cell? ⟨k7,0,none⟩=some (.pointer (some ⟨r,0,none⟩))/\∃L,Sx w W w.heap.size (w.heap.size+1) (w.heap.size+2) k7 r a b L) (first|(with_reducible exact⟨KP.cell,_,KP⟩)|(with_reducible exact⟨KP.drew.cell,_,KP.drew⟩)|fail) (first|(go_at_call 50;(first|(with_reducible refine(SP.eD r L1 ⟨#[102,105,114,115,116]⟩ (some ⟨w.heap.size+1,0,none⟩) 33 33 b.toList _ (by decide) (qU KP.lg) s1 (mR hb KP.r4)).mono ?_)|(with_reducible refine(SP.eD r L1 ⟨#[102,105,114,115,116]⟩ (some ⟨w.heap.size+1,0,none⟩) 33 33 b.toList _ (by decide) (qU KP.drew.lg) s1 (mR hb KP.drew.r4)).mono ?_));rintro e w7 ⟨rfl,hO,hL⟩;rw[show SP.cT L1 (⟨#[102,105,114,115,116]⟩:ByteArray).data.toList b.toList=L2 from h2.out]at hL;(first|(with_reducible (have KP1:=KP.drew.say HN.out hO (qT hL)))|(with_reducible (have KP1:=KP.say HN.out hO (qT hL)))|fail);clear KP hO hL;have KP:=KP1;clear KP1))
 clear hs4;have c7:=KP.cell;have KS:=Hid.mk' KP;clear KP;go_wp2_with fail
 clear c7;refine(SP.eD r L2 ⟨#[116,101,120,116]⟩ ta tl tc tx w7 (by decide) (qU KS.out.lg) s2 (HP.out.below KS.out.bl)).mono ?_;rintro e w8 ⟨rfl,hO,hL⟩;rw[show SP.cT L2 (⟨#[116,101,120,116]⟩:ByteArray).data.toList tx=L3 from h3.out]at hL;have KT:Hid (Sx w w8 w.heap.size (w.heap.size+1) (w.heap.size+2) k7 r a b L3):=KS.out.say HN.out hO (qT hL);clear hO hL KS HP;obtain⟨d,hd1,hd2⟩:=PV.1 u124;have HD:Hid (prog.underlying 102=some d/\d.isRow=true):=⟨hd1,hd2⟩
 clear hd1 hd2;go_wp2_with (refine wpList_load_mid rfl 102 _ rfl k7 0 ?_ [.pointer (some ⟨r,0,none⟩)] d ?_ ?_ ?_ ?_ ?_;kernel_rfl;exact KT.out.r7.2.1;exact HD.out.1;exact HD.out.2;exact i124)
 refine(vT O r L3 w8 KT.out.lg s3).mono ?_;rintro e w9 ⟨v,rfl,hO,rfl⟩;have K9:Hid (Row w9 (w.heap.size+2) [.int .u64 0,.int .u64 0,.int .u64 0,.int .u64 0]/\Below w.heap.size w w9):=⟨KT.out.r6.only hO HN.out.n6,KT.out.bl.trans (hO.below KT.out.bl.size HN.out.lr)⟩
 clear hO KT HN;obtain⟨m,hm⟩:∃m,Hid (cha N L3=m):=⟨_,rfl⟩
 rw[hm.out];obtain⟨wa,hwa⟩:∃wa,Hid (w9.setCells (w.heap.size+2) 0 (wn m)=wa):=⟨_,rfl⟩
 have KA:Hid (Row wa (w.heap.size+2) (wn m)/\Below w.heap.size w wa):=by rw[<-hwa.out];exact⟨K9.out.1.put rfl,RG.below_setCells (by omega) _ _ _ K9.out.2⟩
 obtain⟨vm,hvm⟩:∃vm,Hid (nv m=vm):=⟨_,rfl⟩
 rw[hvm.out];go_wp2_with (refine wpList_store_mid rfl 46 _ _ rfl (w.heap.size+2) 0 (wn m).toArray ?_ ?_ ?_ ?_ ?_ ?_;rfl;exact hvm.out.symm;exact K9.out.1.2.2;exact i40;exact dK m;rw[show(wn m).toArray.toList=wn m from rfl,hwa.out])
 refine bodyPost_ret (aY 6 46 rfl KA.out.1 rfl u40 i40) rfl ?_;exact⟨_,rfl,KA.out.2,by rw[hm.out];rfl⟩
end
section
open Go.RowKit Go.Sort Go.Deep
variable {P:Nat}[NeZero P]{N:Nat}
theorem Ic(O:Ord N){c k x:Nat}(hc:c<N)(hk:k<N)(hx:x<N):Gives 19 #[nv c,nv k,nv x] (nv (sPl N k (sTi N c x))):=by
 intro w;have h1:=AB O c x hc hx;have h2:=AD O k (sTi N c x) hk (O.ti c x);generalize sTi N c x=cx at h1 h2⊢;generalize sPl N k cx=z at h2⊢;go_enter Tryz.func19,Tryz.ntmps19;refine RG.M.enter [(0,.v (nv c)),(1,.v (nv k)),(2,.v (nv x))] 12 (by kernel_rfl) ?_;intro a0 M0;repeat refine wp_seq ?_
 refine M0.t [.m 3 [] 0,.m 4 [] 1,.m 5 [] 2,.m 6 [] 3] [(0,wn c),(1,wn k),(2,wn x),(3,RG.z 4)] [] [wn c,wn k,wn x,RG.z 4] [(3,.p 0 0),(4,.p 1 0),(5,.p 2 0),(6,.p 3 0)] ⟨RG.mk 0 46,RG.mk 1 46,RG.mk 2 46,RG.mk 3 46,trivial⟩ ?_;intro j1 j2 j3 j4 a1 w1 M1;repeat refine wp_seq ?_
 refine M1.d [.x 7 [] (nv k),.x 8 [] (nv c),.x 9 [] (nv x),.c 10 [(8,1),(9,2)] (nv cx),.c 11 [(7,0),(10,3)] (nv z),.u [(11,4)] 3] [] [(3,5,wn z)] [wn c,wn k,wn x,wn z] [(6,.p 3 0)] ⟨RG.ld u40 i40,RG.ld u40 i40,RG.ld u40 i40,RG.cl h1,RG.cl h2,RG.pt i40,trivial⟩ ?_;intro a2 w2 M2;refine wp_ret ?_;refine bodyPost_ret (v:=nv z) (RG.aC M2.st 6 46 rfl 3 _ rfl (M2.at (s:=(.p 3 0))) u40 i40) M2.sl.defers ?_;exact⟨_,rfl,M2.st.bel.below,rfl⟩
theorem neS{a:Nat}(ha:a<top)(w:World):(binOp .neq 46 (nv a) (nv 0)).run prog w=.ok (.bool (!decide (a=0))) w:=by
 have h:=eqS ha (show 0<top by unfold top;omega) w;have h1:(binOp .eql 46 (nv a) (nv 0)).run prog w=(VX 46 (nv a) (nv 0) >>= fun b=>pure (Vv b)).run prog w:=rfl;have h2:(binOp .neq 46 (nv a) (nv 0)).run prog w=(VX 46 (nv a) (nv 0) >>= fun b=>pure (Vv (!b))).run prog w:=rfl;rw[h1,Qi]at h;rw[h2,Qi];cases he:(VX 46 (nv a) (nv 0)).run prog w with
 | ok r w2 =>
  rw[he]at h;simp only[QK,Sc,Result.ok.injEq,Vv.injEq]at h⊢;rw[h.1,h.2];exact⟨rfl,rfl⟩
 | halt r w2 =>
  rw[he]at h;cases h
theorem D4(O:Ord N)(v:Value)(bs:Bs)(w:World)(hv:Arg w v bs):Calls prog 13 #[v] w (Ret fun e w'=>Below w.heap.size w w'/\e=.tuple #[nv ((rq N bs).getD 0),.bool ((rq N bs).isSome && !decide ((rq N bs).getD 0=0))]):=by
 have hR:∀w',RG.BelX w.heap.size [] w w'->Calls prog 44 #[v] w' (Ret fun e w''=>Below w'.heap.size w' w''/\e=.tuple #[nv ((rq N bs).getD 0),.bool (rq N bs).isSome]):=fun w' hb=>Ct O v bs w' (hv.below hb.below)
 have hlt:(rq N bs).getD 0<top:=by
  cases h:rq N bs with
  | none=>show 0<top;unfold top;omega
  | some n=>exact AG O.le h
 have hne:=neS hlt;generalize (rq N bs).getD 0=n at hR hlt hne⊢;generalize (rq N bs).isSome=ok at hR⊢;generalize (!decide (n=0))=z at hne⊢;go_enter Tryz.func13,Tryz.ntmps13;refine RG.M.enter [(0,.v v)] 18 (by kernel_rfl) ?_;intro a0 M0;repeat refine wp_seq ?_
 refine M0.t [.m 2 [] 0,.x 3 [] (.bool false)] [(0,RG.z 4)] [] [RG.z 4] [(0,.v v),(2,.p 0 0),(3,.v (.bool false))] ⟨RG.mk 0 46,RG.st,trivial⟩ ?_;intro j1 a1 w1 M1;repeat refine wp_seq ?_
 refine M1.t [.x 7 [] v,.c 8 [(7,0)] (.tuple #[nv n,.bool ok]),.x 6 [(8,1)] (.tuple #[nv n,.bool ok]),.x 9 [(6,2)] (nv n),.x 10 [(6,2)] (.bool ok),.m 4 [] 1,.u [(4,5),(9,3)] 1,.x 5 [(10,4)] (.bool ok)] [(5,RG.z 4)] [(1,6,wn n)] [RG.z 4,wn n] [(2,.p 0 0),(4,.p 1 0),(5,.v (.bool ok))] ⟨RG.st,RG.clB (fun _ _=>by kernel_rfl) hR,RG.st,RG.st,RG.st,RG.mk 1 46,RG.pt i40,RG.st,trivial⟩ ?_;intro j2 a2 w2 M2;repeat refine wp_seq ?_
 cases ok with
 | true =>
  refine M2.d [.x 11 [] (nv n),.x 12 [] (.bool true),.x 13 [(12,1)] (.bool true),.x 14 [] (nv n),.x 15 [] (nv 0),.x 16 [(14,3),(15,4)] (.bool z),.x 17 [(13,2),(16,5)] (.bool z),.u [(11,0)] 0,.x 3 [(17,6)] (.bool z)] [] [(0,7,wn n)] [wn n,wn n] [(2,.p 0 0),(3,.v (.bool z))] ⟨RG.ld u40 i40,RG.st,RG.st,RG.ld u40 i40,RG.st,RG.aG rfl .neq 46 46 14 15 (nv n) (nv 0) (.bool z) rfl rfl RG.sx RG.sx (fun w=>by kernel_rfl) hne,RG.st,RG.pt i40,RG.st,trivial⟩ ?_;intro a4 w4 M4;refine wp_ret ?_;refine bodyPost_ret (v:=.tuple #[nv n,.bool z]) (RG.aN M4.st 2 3 46 rfl 0 _ rfl (M4.at (s:=.p 0 0)) (.bool z) M4.av u40 i40) M4.sl.defers ?_;exact⟨_,rfl,M4.st.bel.below,rfl⟩
 | false =>
  refine M2.d [.x 11 [] (nv n),.x 12 [] (.bool false),.x 13 [(12,1)] (.bool false),⟨some 14,[],(.v undef),.pass⟩,⟨some 15,[],(.v undef),.pass⟩,⟨some 16,[],(.v undef),.pass⟩,.x 17 [(13,2),(16,5)] (.bool false),.u [(11,0)] 0,.x 3 [(17,6)] (.bool false)] [] [(0,7,wn n)] [wn n,wn n] [(2,.p 0 0),(3,.v (.bool false))] ⟨RG.ld u40 i40,RG.st,RG.st,RG.aH rfl rfl,RG.aH rfl rfl,RG.aH rfl rfl,RG.st,RG.pt i40,RG.st,trivial⟩ ?_;intro a4 w4 M4;refine wp_ret ?_;refine bodyPost_ret (v:=.tuple #[nv n,.bool false]) (RG.aN M4.st 2 3 46 rfl 0 _ rfl (M4.at (s:=.p 0 0)) (.bool false) M4.av u40 i40) M4.sl.defers ?_;exact⟨_,rfl,M4.st.bel.below,rfl⟩
theorem KO(g cg:Nat)(w:World):(Instr.arrayAt 51 (.slice (some ⟨g,0,none⟩) 33 cg)).run prog w=.ok (.pointer (some ⟨g,0,none⟩)) w:=by kernel_rfl
theorem FM{W:World}{k:Nat}{a:Bs}(ha:Holds encB W k 0 a)(hk:k<W.heap.size):Row W k (aA a):=⟨hk,(nM ha).1,(nM ha).2⟩
theorem eX(a:Bs):(aA a).toArray.all (·.oneCell')=true:=by
 rw[Si];intro v hv;obtain⟨x,-,rfl⟩:=QZ.1 (Tz.1 hv);rfl
def pvl(a:Bs):Value:=.agg (aA a).toArray
theorem GT(C:Fld P):Gives 16 #[] (pvl (wr (gG P))):=by
 intro w;obtain⟨T,hT⟩:∃T,Hid (wr (gG P)=T):=⟨_,rfl⟩
 have hTs:T.size=33:=by rw[<-hT.out];exact aX _
 rw[hT.out];obtain⟨w1,hw1⟩:∃w1,Hid (w.alloc (.cells z33.toArray 51)=w1):=⟨_,rfl⟩
 have K1:Hid (Row w1 w.heap.size z33/\Below w.heap.size w w1):=by rw[<-hw1.out];exact⟨aM w _ _,aE w _⟩
 obtain⟨d,hd1,hd2⟩:=PV.1 uCP;have HD:Hid (prog.underlying 51=some d/\d.isRow=true):=⟨hd1,hd2⟩
 clear hd1 hd2;go_enter Tryz.func16,Tryz.ntmps16;go_wp2_with (refine aQ (v:=.pointer (some ⟨w.heap.size,0,none⟩)) (w':=w1) rfl (.alloc 51) rfl ?_ ?_;(rw[<-hw1.out];kernel_rfl))
 refine(Ch C w1).mono ?_;rintro e w2 ⟨vv,rfl,hb2,g,cg,rfl,-,k2,k3,k4⟩;rw[hT.out]at k4;have K2:Hid (Row w2 w.heap.size z33/\Below w.heap.size w w2/\Row w2 g (aA T)):=⟨K1.out.1.below hb2,K1.out.2.trans (hb2.mono K1.out.2.size),FM k4 k3⟩
 clear hb2 k2 k3 k4 K1 hw1;have harr:=KO g cg;obtain⟨w3,hw3⟩:∃w3,Hid (w2.setCells w.heap.size 0 (aA T)=w3):=⟨_,rfl⟩
 have hlen:(aA T).length=33:=aF hTs;have K3:Hid (Row w3 w.heap.size (aA T)/\Below w.heap.size w w3):=by rw[<-hw3.out];exact⟨K2.out.1.put (by rw[hlen];rfl),RG.below_setCells (PQ _) _ _ _ K2.out.2.1⟩
 obtain⟨vt,hvt⟩:∃vt,Hid (QD (aA T).toArray=vt):=⟨_,rfl⟩
 have HI:Hid ((prog.info? 51).map (·.size)=some (aA T).length/\w2.there w.heap.size 0 (aA T).toArray.size/\(prog.info? 51).map (·.size)=some (aA T).toArray.size):=by
  have e:(aA T).toArray.size=33:=by rw[QB];exact hlen
  refine⟨by rw[hlen];exact aW,by rw[e];exact K2.out.1.2.2,by rw[e];exact aW⟩
 clear hlen;go_wp2_with (first|(refine wpList_load_mid rfl 51 _ rfl g 0 ?_ (aA T) d ?_ ?_ ?_ ?_ ?_;rfl;exact K2.out.2.2.2.1;exact HD.out.1;exact HD.out.2;exact HI.out.1;rw[hvt.out])|(refine wpList_store_mid rfl 51 _ _ rfl w.heap.size 0 (aA T).toArray ?_ ?_ ?_ ?_ ?_ ?_;rfl;exact hvt.out.symm;exact HI.out.2.1;exact HI.out.2.2;exact eX T;rw[show(aA T).toArray.toList=aA T from rfl,hw3.out]))
 refine bodyPost_ret (aY 0 51 rfl K3.out.1 rfl uCP HI.out.1) rfl ?_;exact⟨_,rfl,K3.out.2,rfl⟩
end
section
open Go.RowKit Go.Sort Go.Deep
section
variable {P:Program}{ops:Array Oper}{rest:List Oper}{op:Oper}{a:Act}{w w':World}{v:Value}{Q:Exit->Act->World->Prop}
theorem lY(hgd:op.guard=none)(T:TypeId)(parts:Array (Nat × Operand))(ho:op.op=.build T parts)(vs:Array (Nat × Value))(hx:(parts.map fun(i,x)=>(i,a.eval x))=vs)(hr:(UA T vs).run P w=.ok v w')(h:wpList P ops Q rest (a.put op.dst v) w'):wpList P ops Q (op :: rest) a w:=
 wpList_plain hgd fun K hK=>by
  unfold Sf execOp;simp only[ho,hx,Qi,hr,QK,Sc];exact hK _ _ h
theorem lX(hgd:op.guard=none)(T:TypeId)(n:Nat)(parts:Array (Nat × Operand))(ho:op.op=.buildSlice T n parts)(vs:Array (Nat × Value))(hx:(parts.map fun(i,x)=>(i,a.eval x))=vs)(hr:(WB T n vs).run P w=.ok v w')(h:wpList P ops Q rest (a.put op.dst v) w'):wpList P ops Q (op :: rest) a w:=
 wpList_plain hgd fun K hK=>by
  unfold Sf execOp;simp only[ho,hx,Qi,hr,QK,Sc];exact hK _ _ h
end
theorem Pw{a:Bs}(ha:a.size=33)(n:Nat)(w:World):(UA 164 #[(0,nv n),(1,pvl a)]).run prog w=.ok (.agg (wn n++aA a).toArray) w:=by
 unfold pvl;rw[iR ha];kernel_rfl
theorem MC{a:Bs}(ha:a.size=33)(n:Nat)(w:World):(WB 98 1 #[(0,.agg (wn n++aA a).toArray)]).run prog w=.ok (.slice (some ⟨w.heap.size,0,none⟩) 1 1) (w.alloc (.cells (wn n++aA a).toArray 164)):=by
 rw[iR ha];kernel_rfl
theorem boxS(n:Nat)(w:World):(Ug 46 (nv n)).run prog w=.ok (.pointer (some ⟨w.heap.size,0,none⟩)) (w.alloc (.cells (wn n).toArray 46)):=by kernel_rfl
theorem oQ(a:Bs)(ha:a.size=33)(n:Nat)(w:World):Calls prog 47 #[pvl a,nv n] w (Ret fun e w'=>Below w.heap.size w w'/\∃k,e=.slice (some ⟨k,0,none⟩) 1 1/\w.heap.size<=k/\Row w' k (wn n++aA a)):=by
 have B1:=Hid.mk' (zY ha w);obtain⟨w1,hw1⟩:∃w1,Hid (w.alloc (.cells (aA a).toArray 51)=w1):=⟨_,rfl⟩
 rw[hw1.out]at B1;have e1:w1.heap.size=w.heap.size+1:=by rw[<-hw1.out,Qa]
 have B2:=Hid.mk' (boxS n w1);obtain⟨w2,hw2⟩:∃w2,Hid (w1.alloc (.cells (wn n).toArray 46)=w2):=⟨_,rfl⟩
 rw[hw2.out,e1]at B2;have e2:w2.heap.size=w.heap.size+2:=by rw[<-hw2.out,Qa,e1]
 have B3:=Hid.mk' (Pw ha n w2);have B4:=Hid.mk' (MC ha n w2);obtain⟨w3,hw3⟩:∃w3,Hid (w2.alloc (.cells (wn n++aA a).toArray 164)=w3):=⟨_,rfl⟩
 rw[hw3.out,e2]at B4;have K:Hid (Row w2 w.heap.size (aA a)/\Row w2 (w.heap.size+1) (wn n)/\Below w.heap.size w w3/\Row w3 (w.heap.size+2) (wn n++aA a)):=by
  have q1:Row w1 w.heap.size (aA a):=by rw[<-hw1.out];exact aM w _ _
  have q2:Row w2 (w.heap.size+1) (wn n):=by rw[<-hw2.out,<-e1];exact aM w1 _ _
  have q3:Row w3 (w.heap.size+2) (wn n++aA a):=by rw[<-hw3.out,<-e2];exact aM w2 _ _
  have b1:Below w.heap.size w w1:=by rw[<-hw1.out];exact aE w _
  have b2:Below w1.heap.size w1 w2:=by rw[<-hw2.out];exact aE w1 _
  have b3:Below w2.heap.size w2 w3:=by rw[<-hw3.out];exact aE w2 _
  exact⟨q1.below b2,q2,(b1.trans (b2.mono (by omega))).trans (b3.mono (by omega)),q3⟩
 have HL:Hid ((prog.info? 51).map (·.size)=some (aA a).length):=by show _=_;rw[aF ha];exact aW
 obtain⟨d,hd1,hd2⟩:=PV.1 uCP;obtain⟨d',hd3,hd4⟩:=PV.1 u40;have HD:Hid ((prog.underlying 51=some d/\d.isRow=true)/\prog.underlying 46=some d'/\d'.isRow=true):=⟨⟨hd1,hd2⟩,hd3,hd4⟩
 clear hd1 hd2 hd3 hd4 hw1 hw2 hw3 e1 e2;obtain⟨va,hva⟩:∃v,Hid (pvl a=v):=⟨_,rfl⟩
 obtain⟨vn,hvn⟩:∃v,Hid (nv n=v):=⟨_,rfl⟩
 obtain⟨vt,hvt⟩:∃v,Hid (QD (wn n++aA a).toArray=v):=⟨_,rfl⟩
 have B1':Hid ((Ug 51 va).run prog w=.ok (.pointer (some ⟨w.heap.size,0,none⟩)) w1):=by rw[<-hva.out];exact B1
 rw[hvn.out]at B2;rw[hva.out,hvn.out,hvt.out]at B3;rw[hvt.out]at B4;rw[hva.out,hvn.out];clear B1;go_enter Tryz.func47,Tryz.ntmps47;go_wp2_with (first|(refine cR (u:=va) (v:=.pointer (some ⟨w.heap.size,0,none⟩)) (w':=w1) rfl 51 (.tmp 0) rfl ?_ ?_ ?_;rfl;exact B1'.out)|(refine cR (u:=vn) (v:=.pointer (some ⟨w.heap.size+1,0,none⟩)) (w':=w2) rfl 46 (.tmp 1) rfl ?_ ?_ ?_;rfl;exact B2.out)|(refine wpList_load_mid rfl 46 _ rfl (w.heap.size+1) 0 ?_ (wn n) d' ?_ ?_ ?_ ?_ ?_;rfl;exact K.out.2.1.2.1;exact HD.out.2.1;exact HD.out.2.2;exact i40;rw[show QD (wn n).toArray=vn from hvn.out])|(refine wpList_load_mid rfl 51 _ rfl w.heap.size 0 ?_ (aA a) d ?_ ?_ ?_ ?_ ?_;rfl;exact K.out.1.2.1;exact HD.out.1.1;exact HD.out.1.2;exact HL.out;rw[show QD (aA a).toArray=va from hva.out])|(refine lY (v:=vt) (w':=w2) rfl 164 _ rfl #[(0,vn),(1,va)] ?_ ?_ ?_;kernel_rfl;exact B3.out)|(refine lX (v:=.slice (some ⟨w.heap.size+2,0,none⟩) 1 1) (w':=w3) rfl 98 1 _ rfl #[(0,vt)] ?_ ?_ ?_;kernel_rfl;exact B4.out))
 go_ret;exact⟨_,rfl,K.out.2.2.1,w.heap.size+2,rfl,by omega,K.out.2.2.2⟩
end
section
open Go.RowKit Go.Sort Go.Deep
variable {P:Nat}[NeZero P]{N:Nat}
theorem Pv{a:Bs}(ha:a.size=33)(n:Nat)(w:World):(Ug 164 (.agg (wn n++aA a).toArray)).run prog w=.ok (.pointer (some ⟨w.heap.size,0,none⟩)) (w.alloc (.cells (wn n++aA a).toArray 164)):=by
 rw[iR ha];kernel_rfl
theorem Px(w:World):(UA 46 #[]).run prog w=.ok (nv 0) w:=by kernel_rfl
def tvl(n:Nat)(a:Bs):Value:=.agg (wn n++aA a).toArray
theorem kE{W:World}{k:Nat}{xs ys:List Value}(h:W.rangeAt k 0 (xs++ys)):W.rangeAt k 0 xs:=fun j v hj=>h j v (by rw[QL (Qe.1 hj).1];exact hj)
theorem jE{W:World}{k:Nat}{xs ys:List Value}(h:W.rangeAt k 0 (xs++ys)):W.rangeAt k xs.length ys:=fun j v hj=>by
 have:=h (xs.length+j) v (by rw[Rn (Nat.le_add_right _ _),Nat.add_sub_cancel_left];exact hj);rwa[PU]at this
theorem Gu{n:Nat}(hn:n<top){a:Bs}(ha:a.size=33):Gives 137 #[tvl n a] (.bool (decide (n=0))):=by
 intro w;have B1:=Hid.mk' (Pv ha n w);obtain⟨w1,hw1⟩:∃w1,Hid (w.alloc (.cells (wn n++aA a).toArray 164)=w1):=⟨_,rfl⟩
 rw[hw1.out]at B1;have K:Hid (Row w1 w.heap.size (wn n++aA a)/\Below w.heap.size w w1):=by rw[<-hw1.out];exact⟨aM w _ _,aE w _⟩
 obtain⟨d',hd3,hd4⟩:=PV.1 u40;have HD:Hid (prog.underlying 46=some d'/\d'.isRow=true):=⟨hd3,hd4⟩
 clear hd3 hd4 hw1;obtain⟨va,hva⟩:∃v,Hid (tvl n a=v):=⟨_,rfl⟩
 obtain⟨vn,hvn⟩:∃v,Hid (nv n=v):=⟨_,rfl⟩
 obtain⟨v0,hv0⟩:∃v,Hid (nv 0=v):=⟨_,rfl⟩
 have B1':Hid ((Ug 164 va).run prog w=.ok (.pointer (some ⟨w.heap.size,0,none⟩)) w1):=by rw[<-hva.out];exact B1
 have B2:Hid ((UA 46 #[]).run prog w1=.ok v0 w1):=by rw[<-hv0.out];exact Px w1
 have B3:=Hid.mk' (eqS hn (show 0<top by unfold top;omega) w1);rw[hvn.out,hv0.out]at B3;have hq:=B3.out;obtain⟨z,hz⟩:∃z,Hid (decide (n=0)=z):=⟨_,rfl⟩
 rw[hz.out]at hq;have hg:(eqGuard .eql 46 (.tmp 4) (.tmp 5) vn v0).run prog w1=.ok () w1:=by rw[<-hvn.out,<-hv0.out];kernel_rfl
 rw[hva.out,hz.out];clear B1 B3;go_enter Tryz.func137,Tryz.ntmps137;go_wp2_with (first|(refine cR (u:=va) (v:=.pointer (some ⟨w.heap.size,0,none⟩)) (w':=w1) rfl 164 (.tmp 0) rfl ?_ ?_ ?_;rfl;exact B1'.out)|(refine wpList_load_mid rfl 46 _ rfl w.heap.size 0 ?_ (wn n) d' ?_ ?_ ?_ ?_ ?_;rfl;exact kE K.out.1.2.1;exact HD.out.1;exact HD.out.2;exact i40;rw[show QD (wn n).toArray=vn from hvn.out])|(refine lY (v:=v0) (w':=w1) rfl 46 _ rfl #[] ?_ ?_ ?_;kernel_rfl;exact B2.out))
 go_wp2;go_ret;exact⟨_,rfl,K.out.2,rfl⟩
theorem uT:(prog.underlying 164).map (·.isRow)=some true:=by kernel_rfl
theorem iT:(prog.info? 164).map (·.size)=some 37:=by kernel_rfl
theorem atT(k o n c i:Nat)(hi:i<n)(w:World):(Instr.indexAt 98 (.slice (some ⟨k,o,none⟩) n c) (.int .i64 i)).run prog w=.ok (.pointer (some ⟨k,o+37*i,none⟩)) w:=by
 have h1:¬(i:Int)<0:=by omega
 have h2:(i:Int)<n:=by omega
 go_simp
def gA(ns:Nat->Nat):Nat->Nat->Int
 | _,0=>-1
 | i,m+1=>if ns i=0 then(i:Int) else gA ns (i+1) m
def Ld(b:Bool):List RG.It:=[.x 9 [] (.bool b)]
def Lc(g k c i n:Nat)(a:Bs)(z:Bool):List RG.It:=[.x 11 [] (.func (.func 137) #[] #[]),.x 12 [] (.slice (some ⟨g,0,none⟩) k c),.x 13 [] (.int .i64 i),.x 14 [(12,1),(13,2)] (.pointer (some ⟨g,(0+37*i),none⟩)),.x 15 [(14,3)] (tvl n a),.c 16 [(11,0),(15,4)] (.bool z)]
theorem wL(g k c:Nat)(hk:k<=1000000)(ns:Nat->Nat)(az:Nat->Bs)(hn:∀j,j<k->ns j<top)(ha:∀j,j<k->(az j).size=33)(w:World)(hg:g<w.heap.size)(hr:∀j,j<k->w.rangeAt g (37*j) (wn (ns j)++aA (az j))):
 Calls prog 158 #[(.slice (some ⟨g,0,none⟩) k c),(.func (.func 137) #[] #[])] w (Ret fun e w'=>Below w.heap.size w w'/\e=.int .i64 (gA ns 0 k)):=by
 obtain⟨R,hR⟩:∃R,gA ns 0 k=R:=⟨_,rfl⟩
 rw[hR];go_enter Tryz.func158,Tryz.ntmps158;refine RG.M.enter [(0,.v (.slice (some ⟨g,0,none⟩) k c)),(1,.v (.func (.func 137) #[] #[]))] 19 (by kernel_rfl) ?_;intro a0 M0;repeat refine wp_seq ?_
 refine M0.u [.x 4 [] (.int .i64 0)] [(0,.v (.slice (some ⟨g,0,none⟩) k c)),(1,.v (.func (.func 137) #[] #[]))] ⟨RG.st,trivial⟩ ?_;intro a1 w1 M1;repeat refine wp_seq ?_
 refine M1.u [.x 6 [] (.slice (some ⟨g,0,none⟩) k c),.x 7 [(6,0)] (.int .i64 k),.x 8 [] (.int .i64 0)] [(0,.v (.slice (some ⟨g,0,none⟩) k c)),(1,.v (.func (.func 137) #[] #[])),(7,.v (.int .i64 k)),(8,.v (.int .i64 0))] ⟨RG.st,RG.st,RG.st,trivial⟩ ?_;intro a2 w2 M2;repeat refine wp_seq ?_
 refine wp_block ?_;refine wp_loop_ghost (fun m a wr=>∃i:Nat,i+m=k/\gA ns i m=R/\RG.M w w.heap.size [] 19 [] [] [(0,.v (.slice (some ⟨g,0,none⟩) k c)),(1,.v (.func (.func 137) #[] #[])),(7,.v (.int .i64 k)),(8,.v (.int .i64 i))] a wr) k ⟨0,by omega,hR,M2⟩ ?_;intro m' a wr;rintro⟨i,him,hf,M20⟩;by_cases hi:i<k
 ·obtain⟨n,hne⟩:∃n,ns i=n:=⟨_,rfl⟩
  obtain⟨b,hbe⟩:∃b,az i=b:=⟨_,rfl⟩
  have hnt:=hn i hi;have hbs:=ha i hi;have hri:=hr i hi;rw[hne]at hnt hri;rw[hbe]at hbs hri;have hri':w.rangeAt g (0+37*i) (wn n++aA b):=by rw[PU];exact hri
  have hlen:(prog.info? 164).map (·.size)=some (wn n++aA b).length:=by rw[PY,aF hbs];exact iT
  have hz:=Gu hnt hbs;obtain⟨m2,rfl⟩:∃m2,m'=m2+1:=⟨m'-1,by omega⟩
  unfold gA at hf;rw[hne]at hf;repeat refine wp_seq ?_
  refine M20.u (Ld true) [(0,.v (.slice (some ⟨g,0,none⟩) k c)),(1,.v (.func (.func 137) #[] #[])),(7,.v (.int .i64 k)),(8,.v (.int .i64 i)),(9,.v (.bool true))] ⟨RG.aG rfl .lss 3 3 8 7 (.int .i64 i) (.int .i64 k) (.bool true) rfl rfl RG.sx RG.sx (fun w=>by kernel_rfl) (dE hi),trivial⟩ ?_;intro a21 w21 M21;repeat refine wp_seq ?_
  refine wp_cond_true M21.ev ?_;refine wp_skip ?_;refine wp_seq ?_;refine wp_block ?_;repeat refine wp_seq ?_
  refine M21.u [.x 10 [] (.int .i64 i),.x 5 [(10,0)] (.int .i64 i)] [(0,.v (.slice (some ⟨g,0,none⟩) k c)),(1,.v (.func (.func 137) #[] #[])),(7,.v (.int .i64 k)),(8,.v (.int .i64 i)),(5,.v (.int .i64 i))] ⟨RG.st,RG.st,trivial⟩ ?_;intro a22 w22 M22;repeat refine wp_seq ?_
  by_cases h0:n=0
  ·rw[decide_eq_true h0]at hz;rw[if_pos h0]at hf;refine M22.u (Lc g k c i n b true) [(0,.v (.slice (some ⟨g,0,none⟩) k c)),(1,.v (.func (.func 137) #[] #[])),(7,.v (.int .i64 k)),(8,.v (.int .i64 i)),(5,.v (.int .i64 i)),(16,.v (.bool true))] ⟨RG.st,RG.st,RG.st,RG.aK rfl 98 12 13 rfl (.v (.slice (some ⟨g,0,none⟩) k c)) (.int .i64 i) RG.sx RG.sx (fun μ w=>atT _ 0 _ _ i hi w),RG.cV rfl g (0+37*i) hg P4 164 14 rfl (wn n++aA b) rfl RG.sx hri' uT hlen,RG.clB (fun _ _=>by kernel_rfl) (fun w' _=>hz w'),trivial⟩ ?_;intro a23 w23 M23;repeat refine wp_seq ?_
   refine wp_cond_true M23.ev ?_;repeat refine wp_seq ?_
   refine M23.u [.x 17 [] (.int .i64 i),.x 4 [(17,0)] (.int .i64 i)] [(4,.v (.int .i64 i))] ⟨RG.st,RG.st,trivial⟩ ?_;intro a24 w24 M24;refine wp_ret ?_;refine bodyPost_ret (v:=.int .i64 i) (RG.bM 4 rfl (.int .i64 i) M24.av) M24.sl.defers ?_;exact⟨_,rfl,M24.st.bel.below,by rw[hf]⟩
  ·rw[decide_eq_false h0]at hz;rw[if_neg h0]at hf;refine M22.u (Lc g k c i n b false) [(0,.v (.slice (some ⟨g,0,none⟩) k c)),(1,.v (.func (.func 137) #[] #[])),(7,.v (.int .i64 k)),(8,.v (.int .i64 i)),(16,.v (.bool false))] ⟨RG.st,RG.st,RG.st,RG.aK rfl 98 12 13 rfl (.v (.slice (some ⟨g,0,none⟩) k c)) (.int .i64 i) RG.sx RG.sx (fun μ w=>atT _ 0 _ _ i hi w),RG.cV rfl g (0+37*i) hg P4 164 14 rfl (wn n++aA b) rfl RG.sx hri' uT hlen,RG.clB (fun _ _=>by kernel_rfl) (fun w' _=>hz w'),trivial⟩ ?_;intro a23 w23 M23;repeat refine wp_seq ?_
   refine wp_cond_false M23.ev ?_;refine wp_skip ?_;repeat refine wp_seq ?_
   refine M23.u [.x 18 [] (.int .i64 ((i+1:Nat):Int)),.x 8 [(18,0)] (.int .i64 ((i+1:Nat):Int))] [(0,.v (.slice (some ⟨g,0,none⟩) k c)),(1,.v (.func (.func 137) #[] #[])),(7,.v (.int .i64 k)),(8,.v (.int .i64 ((i+1:Nat):Int)))] ⟨RG.aI rfl .add 3 3 8 (.int .i64 i) (.int .i64 1) (.int .i64 ((i+1:Nat):Int)) rfl rfl RG.sx (fun w=>by kernel_rfl) (mH i 1 (by omega) (by omega)),RG.st,trivial⟩ ?_;intro a24 w24 M24;show ∃n',_;exact⟨m2,by omega,i+1,by omega,hf,M24⟩
 ·have hik:m'=0:=by omega
  rw[hik]at hf;unfold gA at hf;repeat refine wp_seq ?_
  refine M20.u (Ld false) [(9,.v (.bool false))] ⟨RG.aG rfl .lss 3 3 8 7 (.int .i64 i) (.int .i64 k) (.bool false) rfl rfl RG.sx RG.sx (fun w=>by kernel_rfl) (fY hi),trivial⟩ ?_;intro a21 w21 M21;repeat refine wp_seq ?_
  refine wp_cond_false M21.ev ?_;refine wp_exit ?_;dsimp only[Exit.then,So];rw[if_pos rfl];repeat refine wp_seq ?_
  refine M21.u [.x 4 [] (.int .i64 (-1))] [(4,.v (.int .i64 (-1)))] ⟨RG.st,trivial⟩ ?_;intro a22 w22 M22;refine wp_ret ?_;refine bodyPost_ret (v:=.int .i64 (-1)) (RG.bM 4 rfl (.int .i64 (-1)) M22.av) M22.sl.defers ?_;exact⟨_,rfl,M22.st.bel.below,by rw[<-hf]⟩
theorem pK{ns:Nat->Nat}:∀(m i:Nat),(∀j,i<=j->j<i+m->ns j≠0)->gA ns i m = -1
 | 0,_,_=>rfl
 | m+1,i,h=>by
  unfold gA;rw[if_neg (h i (PQ _) (by omega))];exact pK m (i+1) (fun j h1 h2=>h j (by omega) (by omega))
theorem pM(g k c:Nat)(hk:k<=1000000)(ns:Nat->Nat)(az:Nat->Bs)(hn:∀j,j<k->ns j<top)(hn0:∀j,j<k->ns j≠0)(ha:∀j,j<k->(az j).size=33)(w:World)(hg:g<w.heap.size)(hr:∀j,j<k->w.rangeAt g (37*j) (wn (ns j)++aA (az j))):
 Calls prog 136 #[(.slice (some ⟨g,0,none⟩) k c),(.func (.func 137) #[] #[])] w (Ret fun e w'=>Below w.heap.size w w'/\e=(.slice (some ⟨g,0,none⟩) k c)):=by
 have hI:∀w',RG.BelX w.heap.size [] w w'->Calls prog 158 #[(.slice (some ⟨g,0,none⟩) k c),(.func (.func 137) #[] #[])] w' (Ret fun e w''=>Below w'.heap.size w' w''/\e=.int .i64 (-1)):=fun w' hb=>by
  have h:=wL g k c hk ns az hn ha w' (PS hg hb.below.size) (fun j hj=>RG.range_below (hr j hj) hb.below hg);rw[pK k 0 (fun j _ h2=>hn0 j (by omega))]at h;exact h
 go_enter Tryz.func136,Tryz.ntmps136;refine RG.M.enter [(0,.v (.slice (some ⟨g,0,none⟩) k c)),(1,.v (.func (.func 137) #[] #[]))] 42 (by kernel_rfl) ?_;intro a0 M0;repeat refine wp_seq ?_
 refine M0.u [.x 4 [] (.slice none 0 0)] [(0,.v (.slice (some ⟨g,0,none⟩) k c)),(1,.v (.func (.func 137) #[] #[]))] ⟨RG.st,trivial⟩ ?_;intro a1 w1 M1;repeat refine wp_seq ?_
 refine M1.u [.x 8 [] (.slice (some ⟨g,0,none⟩) k c),.x 9 [] (.func (.func 137) #[] #[]),.c 10 [(8,0),(9,1)] (.int .i64 (-1)),.x 5 [(10,2)] (.int .i64 (-1))] [(0,.v (.slice (some ⟨g,0,none⟩) k c)),(5,.v (.int .i64 (-1)))] ⟨RG.st,RG.st,RG.clB (fun _ _=>by kernel_rfl) hI,RG.st,trivial⟩ ?_;intro a2 w2 M2;repeat refine wp_seq ?_
 refine M2.u [.x 11 [] (.int .i64 (-1)),.x 12 [(11,0)] (.bool true)] [(0,.v (.slice (some ⟨g,0,none⟩) k c)),(12,.v (.bool true))] ⟨RG.st,RG.st,trivial⟩ ?_;intro a3 w3 M3;repeat refine wp_seq ?_
 refine wp_cond_true M3.ev ?_;repeat refine wp_seq ?_
 refine M3.u [.x 13 [] (.slice (some ⟨g,0,none⟩) k c),.x 4 [(13,0)] (.slice (some ⟨g,0,none⟩) k c)] [(4,.v (.slice (some ⟨g,0,none⟩) k c))] ⟨RG.st,RG.st,trivial⟩ ?_;intro a4 w4 M4;refine wp_ret ?_;refine bodyPost_ret (v:=(.slice (some ⟨g,0,none⟩) k c)) (RG.bM 4 rfl _ M4.av) M4.sl.defers ?_;exact⟨_,rfl,M4.st.bel.below,rfl⟩
theorem Ng:prog.underlying 205=some (.map 51 3):=by kernel_rfl
theorem zero3(w:World):(zeroValue 3).run prog w=.ok (.int .i64 0) w:=by kernel_rfl
theorem uS(b:Bs):∀(D:List Bs) (i:Nat),ents (D++[b]) i=ents D i++[{ key:=.agg (aA b).toArray,val:=.int .i64 ((i+D.length:Nat):Int),born:=i+D.length }]
 | [],i=>rfl
 | k :: r,i=>by
  rw[List.cons_append];unfold ents;rw[uS b r (i+1),Qw,show i+1+r.length=i+(r.length+1) by omega];rfl
theorem rV{b:Bs}(hb:b.size=33)(D:List Bs)(hD:∀k∈D,k.size=33)(m clock:Nat)(w:World)(hm:w.heap[m]? = some (.map (ents D 0).toArray clock)):
 (VJ 205 (.map (some m)) (.agg (aA b).toArray) true).run prog w=.ok (.tuple #[.int .i64 (((at? b D 0).getD 0:Nat):Int),.bool (at? b D 0).isSome]) w:=by
 have h1:=run_underlying Ng w;have h2:=fun e=>Dj hb e w
 have h3:=CZ hb D hD w;have h4:(getObj m).run prog w=.ok (.map (ents D 0).toArray clock) w:=by
  simp[getObj,XE,hm]
 unfold VJ;simp only[Qi,h1,QK,h4,Sc,h2,h3];cases h:at? b D 0 with
 | none=>simp[Qi,zero3]
 | some j=>simp
theorem Ck{b:Bs}(hb:b.size=33)(D:List Bs)(hD:∀k∈D,k.size=33)(m:Nat)(w:World)(hm:w.heap[m]? = some (.map (ents D 0).toArray D.length))(hn:at? b D 0=none):
 (Ur 205 (.map (some m)) (.agg (aA b).toArray) (.int .i64 (D.length:Int))).run prog w=.ok () (w.putObj m (.map (ents (D++[b]) 0).toArray (D.length+1))):=by
 have h1:=run_underlying Ng w;have h2:=fun e=>Dj hb e w
 have h3:=CZ hb D hD w;rw[hn]at h3;have h4:(getObj m).run prog w=.ok (.map (ents D 0).toArray D.length) w:=by
  simp[getObj,XE,hm]
 unfold Ur;simp only[Qi,h1,QK,h4,Sc,h2,h3];rw[uS,PU];simp[setObj,XE,hm,VG]
theorem An:prog.underlying 98=some (.slice 164):=by kernel_rfl
theorem NQ:(prog.info? 164).map (fun i=>(i.size,i.bytes,i.zero.map fun z=>z.cells.size))=some (37,72,some 37):=by kernel_rfl
theorem cells_one(n:Nat)(a:Bs):∀u∈wn n++aA a,u.oneCell'=true:=by
 intro u hu;rcases Rv.1 hu with h|h
 ·unfold wn at h;simp only[QU,P4,or_false]at h;rcases h with rfl|rfl|rfl|rfl<;>rfl
 ·obtain⟨x,-,rfl⟩:=QZ.1 h;rfl
theorem Ib{base k g n:Nat}{v:Value}{xs:List Value}{a:Bs}(ha:a.size=33){W:World}(hown:W.ownsRow base 164 37 v k xs)(hR:Row W g (wn n++aA a))(hk:k<=1000000)(hb:base<=W.heap.size):
 ∃v' W',(QS #[98,98] 98 #[v,.slice (some ⟨g,0,none⟩) 1 1]).run prog W=.ok v' W'/\W'.ownsRow base 164 37 v' (k+1) (xs++(wn n++aA a))/\W.grownBy W' v.ownBlock:=by
 obtain⟨i,hi,he⟩:=PV.1 NQ;simp only[Prod.mk.injEq]at he;obtain⟨h1,h2,h3⟩:=he;obtain⟨z,hz,hz2⟩:=PV.1 h3;obtain⟨v',W',r1,r2,r3,-⟩:=run_append_own (P:=prog) W base 98 98 164 i z 37 72 An hi hz h1 h2 hz2 (by decide) v k xs hown ⟨g,0,none⟩ 1 1 (wn n++aA a) (by rw[PY,aF ha];rfl)
  (fun j u hj=>by
   have:=hR.2.1 j u hj;rw[PU]at this;rw[show(⟨g,0,none⟩:Addr).add j=⟨g,j,none⟩ by unfold UZ;split<;>simp_all];exact this) (cells_one n a) (by unfold maxLen;omega) (by omega) hb
 exact⟨v',W',r1,r2,r3⟩
def dH(N:Nat):List (Nat × Bs)->Nat->Bs->List (Nat × Bs)
 | [],n,p=>[(n,p)]
 | (s,q) :: r,n,p=>if p=q then(sPl N s n,q) :: r else(s,q) :: dH N r n p
def mrg(N:Nat)(ns:Nat->Nat)(az:Nat->Bs):Nat->List (Nat × Bs)
 | 0=>[]
 | i+1=>dH N (mrg N ns az i) (ns i) (az i)
def aV(l:List (Nat × Bs)):List Value:=l.flatMap fun x=>wn x.1++aA x.2
theorem tC{N n:Nat}{p:Bs}:∀ {l:List (Nat × Bs)},at? p (l.map (·.2)) 0=none->dH N l n p=l++[(n,p)]
 | [],_=>rfl
 | (s,q) :: r,h=>by
  have h2:=at?_none.1 h;rw[SQ,QU,not_or]at h2;unfold dH;rw[if_neg h2.1,tC (l:=r) (at?_none.2 h2.2)];rfl
theorem zX(l:List (Nat × Bs))(n:Nat)(p:Bs):aV (l++[(n,p)])=aV l++(wn n++aA p):=by
 unfold aV;rw[List.flatMap_append];simp
structure Mx(w W:World)(m:Nat)(l:List (Nat × Bs))(v:Value):Prop where
 bl:Below w.heap.size w W
 mp:W.heap[m]? = some (.map (ents (l.map (·.2)) 0).toArray l.length)
 lm:w.heap.size<=m
 ow:W.ownsRow w.heap.size 164 37 v l.length (aV l)
theorem Mx.own_ne{w W:World}{m:Nat}{l:List (Nat × Bs)}{v:Value}(h:Mx w W m l v){g:Nat}(hg:v.ownBlock=some g):g≠m/\w.heap.size<=g/\g<W.heap.size:=by
 rcases h.ow.2 with⟨rfl,-⟩|⟨g',cap,cur,rfl,h1,h2,-⟩
 ·cases hg
 ·obtain rfl:g'=g:=by simpa[Value.ownBlock]using hg
  refine⟨fun e=>?_,h1,(Qg.1 h2).1⟩;have:=h.mp;rw[<-e,h2]at this;cases this
theorem oU{W W':World}{base k:Nat}{e:TypeId}{s:Nat}{v:Value}{xs:List Value}(h:W.ownsRow base e s v k xs)(hk:∀g,v.ownBlock=some g->W'.heap[g]? = W.heap[g]?):W'.ownsRow base e s v k xs:=by
 refine⟨h.1,?_⟩;rcases h.2 with h2|⟨g,cap,cur,rfl,h1,h2,h3⟩
 ·exact Or.inl h2
 ·exact Qc ⟨g,cap,cur,rfl,h1,by rw[hk g rfl];exact h2,h3⟩
theorem Mx.kept{w W W':World}{m:Nat}{l:List (Nat × Bs)}{v:Value}(h:Mx w W m l v)(hb:Below W.heap.size W W'):Mx w W' m l v:=
 ⟨h.bl.trans (hb.mono h.bl.size),by rw[hb.block m (Qg.1 h.mp).1];exact h.mp,h.lm,oU h.ow fun g hg=>hb.block g (h.own_ne hg).2.2⟩
theorem G1(l:List (Nat × Bs))(n:Nat)(p:Bs):(l++[(n,p)]).map (·.2)=l.map (·.2)++[p]:=by simp
theorem Mx.push{w W:World}{m:Nat}{l:List (Nat × Bs)}{v:Value}(h:Mx w W m l v){p:Bs}(hp:p.size=33)(hk:l.length<=1000000)(n:Nat):
 ∃v' W5x,(QS #[98,98] 98 #[v,.slice (some ⟨W.heap.size,0,none⟩) 1 1]).run prog ((W.putObj m (.map (ents (l.map (·.2)++[p]) 0).toArray (l.length+1))).alloc (.cells (wn n++aA p).toArray 164))=.ok v' W5x/\Mx w W5x m (l++[(n,p)]) v'/\W.heap.size<W5x.heap.size/\∀j,j<W.heap.size->w.heap.size<=j->j≠m->some j≠v.ownBlock->W5x.heap[j]? = W.heap[j]?:=by
 obtain⟨W3,h3⟩:∃W3,W.putObj m (.map (ents (l.map (·.2)++[p]) 0).toArray (l.length+1))=W3:=⟨_,rfl⟩
 have s3:W3.heap.size=W.heap.size:=by rw[<-h3];simp[VG]
 have hmW:m<W.heap.size:=(Qg.1 h.mp).1;have o3:∀j,j≠m->W3.heap[j]? = W.heap[j]?:=fun j hj=>by rw[<-h3];exact World.putObj_heap_other hj
 have b3:Below w.heap.size w W3:=h.bl.trans ⟨by rw[<-h3];rfl,by rw[<-h3];rfl,by rw[<-h3];rfl,by omega,fun j hj=>o3 j (by have:=h.lm;omega)⟩;have w3:W3.ownsRow w.heap.size 164 37 v l.length (aV l):=oU h.ow fun g hg=>o3 g (h.own_ne hg).1
 have m3:W3.heap[m]? = some (.map (ents (l.map (·.2)++[p]) 0).toArray (l.length+1)):=by rw[<-h3];exact World.putObj_heap_same hmW
 rw[h3];have R4:=aM W3 (wn n++aA p) 164;have b4:=aE W3 (.cells (wn n++aA p).toArray 164);have s4:(W3.alloc (.cells (wn n++aA p).toArray 164)).heap.size=W.heap.size+1:=by rw[Qa,s3]
 generalize W3.alloc (.cells (wn n++aA p).toArray 164)=W4 at R4 b4 s4⊢;have w4:W4.ownsRow w.heap.size 164 37 v l.length (aV l):=oU w3 fun g hg=>b4.block g (by have:=(h.own_ne hg).2.2;omega)
 rw[s3]at R4;obtain⟨v',W5x,r1,r2,r3⟩:=Ib hp w4 R4 hk (by have:=b3.size;omega);have hm5:some m≠v.ownBlock:=fun e=>(h.own_ne e.symm).1 rfl
 refine⟨v',W5x,r1,⟨?_,?_,h.lm,?_⟩,by have:=r3.size;omega,fun j hj _ hjm hjo=>?_⟩
 ·exact(b3.trans (b4.mono b3.size)).grown r3 (by have:=b3.size;omega) (fun k e=>(h.own_ne e).2.1)
 ·rw[r3.block m (by omega) hm5,b4.block m (by omega),m3,G1,PY];rfl
 ·rw[zX,PY];exact r2
 ·rw[r3.block j (by omega) hjo,b4.block j (by omega),o3 j hjm]
end
section
open Go.RowKit Go.Sort Go.Deep
variable {N:Nat}
section
variable {P:Program}{ops:Array Oper}{rest:List Oper}{op:Oper}{a:Act}{w w':World}{v x y z:Value}{Q:Exit->Act->World->Prop}
theorem nY(hgd:op.guard=none)(T:TypeId)(m k:Operand)(ok:Bool)(ho:op.op=.lookup T m k ok)(hm:a.eval m=x)(hk:a.eval k=y)(hr:(VJ T x y ok).run P w=.ok v w')(h:wpList P ops Q rest (a.put op.dst v) w'):wpList P ops Q (op :: rest) a w:=
 wpList_plain hgd fun K hK=>by
  unfold Sf execOp;simp only[ho,hm,hk,Qi,hr,QK,Sc];exact hK _ _ h
theorem tR(hgd:op.guard=none)(T:TypeId)(m k u:Operand)(ho:op.op=.mapUpdate T m k u)(hm:a.eval m=x)(hk:a.eval k=y)(hu:a.eval u=z)(hr:(Ur T x y z).run P w=.ok () w')(h:wpList P ops Q rest (a.put op.dst undef) w'):wpList P ops Q (op :: rest) a w:=
 wpList_plain hgd fun K hK=>by
  unfold Sf execOp;simp only[ho,hm,hk,hu,Qi,hr,QK,Sc];exact hK _ _ h
theorem iV(hgd:op.guard=none)(s u:Operand)(t:TypeId)(ho:op.op=.call { callee:=.builtin .append,args:=#[s,u],argTypes:=#[t,t] })(hs:a.eval s=x)(hu:a.eval u=y)(hr:(QS #[t,t] op.type #[x,y]).run P w=.ok v w')(h:wpList P ops Q rest (a.put op.dst v) w'):wpList P ops Q (op :: rest) a w:=
 wpList_plain hgd fun K hK=>by
  unfold Sf execOp;simp only[ho,resolve,invoke,builtin,Qi,Sc,QK,WJ,SQ,Xu,hs,hu,hr];exact hK _ _ h
end
def zT:List Value:=[.int .u64 0,.int .u64 0,.int .u64 0,.int .u64 0]++z33
theorem uK{W:World}{base k:Nat}{e:TypeId}{s:Nat}{v:Value}{xs:List Value}(h:W.ownsRow base e s v k xs):∃q cap,v=.slice q k cap:=by
 rcases h.2 with⟨rfl,rfl⟩|⟨g,cap,cur,rfl,-⟩
 ·exact⟨none,0,rfl⟩
 ·exact⟨some ⟨g,0,none⟩,cap,rfl⟩
theorem nA(ns:Nat->Nat)(az:Nat->Bs):∀i,(mrg N ns az i).length<=i
 | 0=>PQ _
 | i+1=>by
  have ih:=nA ns az i;have h:∀(l:List (Nat × Bs)) n p,(dH N l n p).length<=l.length+1:=by
   intro l n p;induction l with
   | nil=>exact PQ _
   | cons x r ihr =>
    unfold dH;split
    ·simp
    ·simp only[Qw];omega
  exact Nat.le_trans (h _ _ _) (by omega)
theorem kO(ns:Nat->Nat)(az:Nat->Bs){k:Nat}(ha:∀j,j<k->(az j).size=33):∀i,i<=k->∀x∈(mrg N ns az i).map (·.2),x.size=33
 | 0,_=>fun x hx=>by cases hx
 | i+1,hi=>by
  have ih:=kO ns az ha i (by omega);have h:∀(l:List (Nat × Bs)) n p,p.size=33->(∀x∈l.map (·.2),x.size=33)->∀x∈(dH N l n p).map (·.2),x.size=33:=by
   intro l n p hp;induction l with
   | nil=>intro _ x hx;simp[dH]at hx;rw[hx];exact hp
   | cons y r ihr =>
    intro hl x hx;unfold dH at hx;split at hx
    ·exact hl x (by simpa using hx)
    ·rw[SQ,QU]at hx;rcases hx with hx|hx
     ·exact hl x (by rw[hx];simp)
     ·exact ihr (fun z hz=>hl z (Qv _ hz)) x hx
  exact h _ _ _ (ha i (by omega)) ih
theorem o8:∀(l:List (Nat × Bs)),(∀x∈l.map (·.2),x.size=33)->∀(j:Nat) (hj:j<l.length) (t:Nat),t<37->(aV l)[37*j+t]? = (wn (l[j]).1++aA (l[j]).2)[t]?
 | [],_,j,hj,_,_=>by cases hj
 | x :: r,hs,j,hj,t,ht=>by
  have hx:(wn x.1++aA x.2).length=37:=by rw[PY,aF (hs x.2 (by simp))];rfl
  have e:aV (x :: r)=(wn x.1++aA x.2)++aV r:=by unfold aV;rw[U8]
  rw[e];cases j with
  | zero =>
   rw[Ul,PU,QL (by omega)];rfl
  | succ j =>
   rw[Rn (by omega),hx,show 37*(j+1)+t-37=37*j+t by omega,o8 r (fun y hy=>hs y (Qv _ hy)) j (by simpa using hj) t ht];rfl
theorem iP{W:World}{base:Nat}{v:Value}{l:List (Nat × Bs)}(h:W.ownsRow base 164 37 v l.length (aV l))(hs:∀x∈l.map (·.2),x.size=33)(hl:0<l.length):
 ∃g cap,v=.slice (some ⟨g,0,none⟩) l.length cap/\base<=g/\g<W.heap.size/\∀j (hj:j<l.length),W.rangeAt g (37*j) (wn (l[j]).1++aA (l[j]).2):=by
 have h0:=h;rcases h.2 with⟨-,h2⟩|⟨g,cap,cur,rfl,h1,h2,h3⟩
 ·omega
 ·refine⟨g,cap,rfl,h1,(Qg.1 h2).1,fun j hj t u hu=>?_⟩;have ht:t<37:=by
   have:=(Qe.1 hu).1;rw[PY,aF (hs _ (QZ.2 ⟨_,QI hj,rfl⟩))]at this;exact this
  have hc:=h0.cells (g:=g) rfl (37*j+t) u (by rw[o8 l hs j hj t ht];exact hu);have e:(⟨g,0,none⟩:Addr).add (37*j+t)=⟨g,37*j+t,none⟩:=by
   unfold UZ;split
   ·rename_i h;rw[h]
   ·simp
  rw[e]at hc;exact hc
theorem yY(R:Value->World->Prop)(g k c:Nat)(hk:k<=1000)(ns:Nat->Nat)(az:Nat->Bs)(ha:∀j,j<k->(az j).size=33)(hd:∀i,i<k->at? (az i) ((mrg N ns az i).map (·.2)) 0=none)(w:World)(hg:g<w.heap.size)(hr:∀j,j<k->w.rangeAt g (37*j) (wn (ns j)++aA (az j)))
 (hdel:∀W v,Mx w W w.heap.size (mrg N ns az k) v->Calls prog 136 #[v,.func (.func 137) #[] #[]] W (Ret R)) :
 Calls prog 90 #[.slice (some ⟨g,0,none⟩) k c] w (Ret R):=by
 have HDEL:=Hid.mk' hdel;clear hdel;have hmm:(Instr.makeMap 205 none).run prog w=.ok (.map (some w.heap.size)) (w.alloc (.map #[] 0)):=by kernel_rfl
 obtain⟨w1,hw1⟩:∃w1,Hid (w.alloc (.map #[] 0)=w1):=⟨_,rfl⟩
 rw[hw1.out]at hmm;have M1:Hid (Mx w w1 w.heap.size (mrg N ns az 0) (.slice none 0 0)):=by
  rw[<-hw1.out];exact⟨aE w _,by show(w.heap.push (.map #[] 0))[w.heap.size]? = _;rw[Array.getElem?_push_size];rfl,PQ _,rfl,Or.inl ⟨rfl,rfl⟩⟩
 have HH:Hid (True/\(∀j,j<k->(az j).size=33)/\(∀i,i<k->at? (az i) ((mrg N ns az i).map (·.2)) 0=none)/\g<w.heap.size/\∀j,j<k->w.rangeAt g (37*j) (wn (ns j)++aA (az j))):=⟨trivial,ha,hd,hg,hr⟩
 obtain⟨d,hd1,hd2⟩:=PV.1 uCP;obtain⟨d',hd3,hd4⟩:=PV.1 uT;have HD:Hid ((prog.underlying 51=some d/\d.isRow=true)/\prog.underlying 164=some d'/\d'.isRow=true):=⟨⟨hd1,hd2⟩,hd3,hd4⟩
 clear hd1 hd2 hd3 hd4 hw1 ha hd hg hr;go_enter Tryz.func90,Tryz.ntmps90;go_wp2;clear hmm;go_loopg [4,12] k (fun q s4 s12 W=>∃i:Nat,i+q=k/\s12=.int .i64 i/\Hid (Mx w W w.heap.size (mrg N ns az i) s4))
 case atStart=>exact⟨0,by omega,rfl,M1⟩
 case round =>
  clear M1;obtain⟨i,hik,rfl,KM⟩:=hrel;by_cases hi:i<k
  ·have hi':(i:Int)<(k:Int):=by omega
   obtain⟨n,hne⟩:∃n,Hid (ns i=n):=⟨_,rfl⟩
   obtain⟨p,hpe⟩:∃p,Hid (az i=p):=⟨_,rfl⟩
   obtain⟨l,hl⟩:∃l,Hid (mrg N ns az i=l):=⟨_,rfl⟩
   rw[hl.out]at KM;have hps:Hid (p.size=33):=by have:=HH.out.2.1 i hi;rw[hpe.out]at this;exact this
   have hll:Hid (l.length<=i):=by have:=nA (N:=N) ns az i;rw[hl.out]at this;exact this
   obtain⟨q,cap,rfl⟩:=uK KM.out.ow;obtain⟨W1,hW1⟩:∃W1,Hid (wr.alloc (.cells zT.toArray 164)=W1):=⟨_,rfl⟩
   obtain⟨W2,hW2⟩:∃W2,Hid (W1.setCells wr.heap.size 0 (wn n++aA p)=W2):=⟨_,rfl⟩
   have hlen:(wn n++aA p).length=37:=by rw[PY,aF hps.out];rfl
   have F1:Hid (Row W1 wr.heap.size zT/\Below wr.heap.size wr W1/\W1.heap.size=wr.heap.size+1):=by rw[<-hW1.out];exact⟨aM wr _ _,aE wr _,Qa _ _⟩
   have F2:Hid (Row W2 wr.heap.size (wn n++aA p)/\Below wr.heap.size wr W2/\W2.heap.size=wr.heap.size+1):=by rw[<-hW2.out];exact⟨F1.out.1.put (by rw[hlen];rfl),RG.below_setCells (PQ _) _ _ _ F1.out.2.1,by rw[RG.setCells_size];exact F1.out.2.2⟩
   have K2:Hid (Mx w W2 w.heap.size l (.slice q l.length cap)):=KM.out.kept F2.out.2.1;have hnone:Hid (at? p (l.map (·.2)) 0=none):=by have:=HH.out.2.2.1 i hi;rw[hpe.out,hl.out]at this;exact this
   have hsz:∀x∈l.map (·.2),x.size=33:=by have:=kO (N:=N) ns az HH.out.2.1 i (by omega);rw[hl.out]at this;exact this
   have B1:=Hid.mk' (rV hps.out (l.map (·.2)) hsz w.heap.size l.length W2 K2.out.mp);rw[hnone.out]at B1;have B2:Hid ((Ur 205 (.map (some w.heap.size)) (.agg (aA p).toArray) (.int .i64 (l.length:Int))).run prog W2=.ok () (W2.putObj w.heap.size (.map (ents (l.map (·.2)++[p]) 0).toArray (l.length+1)))):=by
    have h:=Ck hps.out (l.map (·.2)) hsz w.heap.size W2 (by rw[Qb];exact K2.out.mp) hnone.out;rw[Qb]at h;exact h
   obtain⟨v',W5x,happ,K5,lt5,-⟩:=K2.out.push hps.out (by have:=hll.out;omega) n;obtain⟨W3,hW3⟩:∃W3,Hid (W2.putObj w.heap.size (.map (ents (l.map (·.2)++[p]) 0).toArray (l.length+1))=W3):=⟨_,rfl⟩
   have F3:Hid (Row W3 wr.heap.size (wn n++aA p)/\W3.heap.size=wr.heap.size+1):=by rw[<-hW3.out];exact⟨F2.out.1.putObj K2.out.mp rfl _,by simp[VG];exact F2.out.2.2⟩
   have B3:=Hid.mk' (MC hps.out n W3);obtain⟨W4,hW4⟩:∃W4,Hid (W3.alloc (.cells (wn n++aA p).toArray 164)=W4):=⟨_,rfl⟩
   rw[hW3.out]at B2 happ;rw[hW4.out]at B3 happ;rw[F3.out.2]at B3;rw[F2.out.2.2]at happ;have K5':Hid (Mx w W5x w.heap.size (mrg N ns az (i+1)) v'):=by
    have e:mrg N ns az (i+1)=l++[(n,p)]:=by
     show dH N (mrg N ns az i) (ns i) (az i)=_;rw[hl.out,hne.out,hpe.out];exact tC hnone.out
    rw[e];exact K5
   have B0:Hid (wr.rangeAt g (37*i) (wn n++aA p)):=by
    have h:=RG.range_below (HH.out.2.2.2.2 i hi) KM.out.bl HH.out.2.2.2.1;rw[hne.out,hpe.out]at h;exact h
   have HLT:Hid ((prog.info? 164).map (·.size)=some (wn n++aA p).length):=by show _=_;rw[hlen];exact iT
   have HLS:Hid ((prog.info? 164).map (·.size)=some (wn n++aA p).toArray.size/\W1.there wr.heap.size 0 (wn n++aA p).toArray.size):=by
    have e:(wn n++aA p).toArray.size=37:=by rw[QB];exact hlen
    rw[e];exact⟨iT,F1.out.1.2.2⟩
   have HLP:Hid ((prog.info? 51).map (·.size)=some (aA p).length):=by show _=_;rw[aF hps.out];exact aW
   have HB:Hid (W2.rangeAt wr.heap.size 4 (aA p)):=jE (xs:=wn n) F2.out.1.2.1;have HAL:Hid ((wn n++aA p).toArray.all (·.oneCell')=true):=by
    show _=_;rw[Si];intro u hu;exact cells_one n p u (Tz.1 hu)
   have hix:=atT g 0 k c i hi;have HAP:=Hid.mk' happ;clear happ;obtain⟨vt,hvt⟩:∃v,Hid (QD (wn n++aA p).toArray=v):=⟨_,rfl⟩
   obtain⟨vp,hvp⟩:∃v,Hid (QD (aA p).toArray=v):=⟨_,rfl⟩
   rw[hvp.out]at B1 B2;rw[hvt.out]at B3;clear hlen hsz K5 lt5 hW4 hW3 K2 KM;go_wp2_with (first|(refine wpList_load_mid rfl 164 _ rfl g (37*i) ?_ (wn n++aA p) d' ?_ ?_ ?_ ?_ ?_;rfl;exact B0.out;exact HD.out.2.1;exact HD.out.2.2;exact HLT.out;rw[hvt.out])|(refine aQ (v:=.pointer (some ⟨wr.heap.size,0,none⟩)) (w':=W1) rfl (.alloc 164) rfl ?_ ?_;(rw[<-hW1.out];kernel_rfl))|(refine wpList_store_mid rfl 164 _ _ rfl wr.heap.size 0 (wn n++aA p).toArray ?_ ?_ ?_ ?_ ?_ ?_;rfl;exact hvt.out.symm;exact HLS.out.2;exact HLS.out.1;exact HAL.out;rw[show(wn n++aA p).toArray.toList=wn n++aA p from rfl,hW2.out])|(refine wpList_load_mid rfl 51 _ rfl wr.heap.size 4 ?_ (aA p) d ?_ ?_ ?_ ?_ ?_;rfl;exact HB.out;exact HD.out.1.1;exact HD.out.1.2;exact HLP.out;rw[hvp.out])|(refine nY (x:=.map (some w.heap.size)) (y:=vp) (w':=W2) rfl 205 _ _ true rfl ?_ ?_ B1.out ?_;rfl;rfl)|(refine tR (x:=.map (some w.heap.size)) (y:=vp) (z:=.int .i64 (l.length:Int)) (w':=W3) rfl 205 _ _ _ rfl ?_ ?_ ?_ B2.out ?_;rfl;rfl;rfl)|(refine wpList_load_mid rfl 164 _ rfl wr.heap.size 0 ?_ (wn n++aA p) d' ?_ ?_ ?_ ?_ ?_;rfl;exact F3.out.1.2.1;exact HD.out.2.1;exact HD.out.2.2;exact HLT.out;rw[hvt.out])|(refine lX (v:=.slice (some ⟨wr.heap.size+1,0,none⟩) 1 1) (w':=W4) rfl 98 1 _ rfl #[(0,vt)] ?_ B3.out ?_;kernel_rfl)|(refine iV (x:=.slice q l.length cap) (y:=.slice (some ⟨wr.heap.size+1,0,none⟩) 1 1) (v:=v') (w':=W5x) rfl _ _ 98 rfl ?_ ?_ ?_ ?_;rfl;rfl;exact HAP.out))
   go_roundg (gk-1)
   case measure=>omega
   case rel=>exact⟨i+1,by omega,rfl,K5'⟩
  ·have hi':¬(i:Int)<(k:Int):=by omega
   obtain rfl:i=k:=by omega
   go_wp2_with fail
   refine(HDEL.out wr _ KM.out).mono ?_;rintro e w9 ⟨vv,rfl,hR9⟩;have HR9:=Hid.mk' hR9;clear hR9 HDEL;go_wp2;go_ret;exact⟨_,rfl,HR9.out⟩
theorem GA(g k c:Nat)(hk:k<=1000)(ns:Nat->Nat)(az:Nat->Bs)(ha:∀j,j<k->(az j).size=33)(hd:∀i,i<k->at? (az i) ((mrg N ns az i).map (·.2)) 0=none)(hz:∀x∈mrg N ns az k,x.1≠0/\x.1<top)(hk0:0<(mrg N ns az k).length)(w:World)(hg:g<w.heap.size)(hr:∀j,j<k->w.rangeAt g (37*j) (wn (ns j)++aA (az j))):
 Calls prog 90 #[.slice (some ⟨g,0,none⟩) k c] w (Ret fun e w'=>Below w.heap.size w w'/\∃g' cap,e=.slice (some ⟨g',0,none⟩) (mrg N ns az k).length cap/\w.heap.size<=g'/\g'<w'.heap.size/\∀j (hj:j<(mrg N ns az k).length),w'.rangeAt g' (37*j) (wn ((mrg N ns az k)[j]).1++aA ((mrg N ns az k)[j]).2)):=by
 refine yY _ g k c hk ns az ha hd w hg hr fun W v hM=>?_
 have hms:=kO (N:=N) ns az ha k (PQ _);have hml:=nA (N:=N) ns az k;generalize mrg N ns az k=l at hM hms hml hz hk0⊢;obtain⟨g',cap,rfl,h1,h2,h3⟩:=iP hM.ow hms hk0;refine(pM g' l.length cap (by omega) (fun j=>((l[j]?).getD (0,#[])).1) (fun j=>((l[j]?).getD (0,#[])).2) (fun j hj=>by rw[P6 hj];exact(hz _ (QI hj)).2) (fun j hj=>by rw[P6 hj];exact(hz _ (QI hj)).1) (fun j hj=>by rw[P6 hj];exact hms _ (QZ.2 ⟨_,QI hj,rfl⟩)) W h2 (fun j hj=>by rw[P6 hj];exact h3 j hj)).mono ?_;rintro e w9 ⟨vv,rfl,hb9,rfl⟩;exact⟨_,rfl,hM.bl.trans (hb9.mono hM.bl.size),g',cap,rfl,h1,PS h2 hb9.size,fun j hj=>RG.range_below (h3 j hj) hb9 h2⟩
end
section
open Go.RowKit Go.Sort Go.Deep
variable {P:Nat}[NeZero P]{N:Nat}
theorem EY(w:World):(zeroValue 164).run prog w=.ok (.agg zT.toArray) w:=by kernel_rfl
theorem Lf:(Q9 (QD zT.toArray).cells 1).toList=zT:=by kernel_rfl
theorem E0:∀v∈zT,v.oneCell'=true:=by
 intro v hv;unfold zT z33 at hv;rcases Rv.1 hv with h|h
 ·simp only[QU,P4,or_false]at h;rcases h with rfl|rfl|rfl|rfl<;>rfl
 ·rw[(List.mem_replicate.1 h).2];rfl
theorem E2:zT.length=37:=by kernel_rfl
theorem My(g c:Nat)(ty:TypeId)(w:World)(h:w.there g 0 37):(Uj #[98] ty #[.slice (some ⟨g,0,none⟩) 1 c]).run prog w=.ok (.tuple #[]) (w.setCells g 0 zT):=by
 have h1:=EY w;have h2:=Lf;have h3:=run_underlying An w;have h4:(storeCells ⟨g,0,none⟩ zT).run prog w=.ok () (w.setCells g 0 zT):=by
  have h5:=run_storeCells_cells (P:=prog) g 0 zT 0 w (fun j hj=>by rw[E2]at hj;have:=(h j hj).1;simpa using this) (fun j hj=>by rw[E2]at hj;have:=(h j hj).2;simpa using this) E0;exact h5
 generalize zT=Z at h1 h2 h4⊢;unfold Uj;simp[Qi,h3,h1,h2,h4]
theorem zN(g c:Nat)(a:Bs)(ha:a.size=33)(w:World)(hR:Row w g (wn 0++aA a))(hc:1<=c):
 Calls prog 136 #[.slice (some ⟨g,0,none⟩) 1 c,.func (.func 137) #[] #[]] w (Ret fun e w'=>(∀j,j<w.heap.size->j≠g->w'.heap[j]? = w.heap[j]?)/\w.heap.size<=w'.heap.size/\Below g w w'/\e=.slice (some ⟨g,0,none⟩) 0 c):=by
 have hI:=wL g 1 c (by decide) (fun _=>0) (fun _=>a) (fun _ _=>by show 0<top;unfold top;omega) (fun _ _=>ha) w hR.1 (fun j hj=>by
  obtain rfl:j=0:=by omega
  exact hR.2.1)
 have hf:gA (fun _=>0) 0 1=0:=rfl;rw[hf]at hI;have HI:=Hid.mk' hI;have hlen:(wn 0++aA a).length=37:=by rw[PY,aF ha];rfl
 have HR:=Hid.mk' hR;have hth:Hid (w.there g 0 37):=by have:=hR.2.2;rw[hlen]at this;exact this
 clear hI hf hR hlen;have hc1:(1:Int)<=(c:Int):=by omega
 have hc0:(0:Int)<=(c:Int):=by omega
 go_enter Tryz.func136,Tryz.ntmps136;go_wp2_with fail
 refine HI.out.mono ?_;rintro e w1 ⟨v,rfl,hb1,rfl⟩;have K1:Hid (Below w.heap.size w w1/\Row w1 g (wn 0++aA a)):=⟨hb1,HR.out.below hb1⟩
 have hcl:∀ty,(Uj #[98] ty #[.slice (some ⟨g,0,none⟩) 1 c]).run prog w1=.ok (.tuple #[]) (w1.setCells g 0 zT):=fun ty=>My g c ty w1 (by
  have:=K1.out.2.2.2;rw[PY,aF ha]at this;exact this)
 clear hb1 HI;go_wp2;refine wp_loop_once ?_;go_wp2;go_ret;refine⟨_,rfl,fun j hj hne=>?_,by rw[RG.setCells_size];exact K1.out.1.size,RG.below_setCells (PQ _) _ _ _ (K1.out.1.mono (Nat.le_of_lt HR.out.1)),rfl⟩;rw[RG.bK _ _ _ _ _ hne];exact K1.out.1.block j hj
theorem GF(g c:Nat)(a:Bs)(ha:a.size=33)(w:World)(hg:g<w.heap.size)(hr:w.rangeAt g 0 (wn 0++aA a)):
 Calls prog 90 #[.slice (some ⟨g,0,none⟩) 1 c] w (Ret fun e w'=>Below w.heap.size w w'/\∃q cap,e=.slice q 0 cap):=by
 refine yY (N:=2) _ g 1 c (by decide) (fun _=>0) (fun _=>a) (fun _ _=>ha) (fun i hi=>by
  obtain rfl:i=0:=by omega
  rfl) w hg (fun j hj=>by
  obtain rfl:j=0:=by omega
  exact hr) fun W v hM=>?_
 have e1:mrg 2 (fun _=>0) (fun _=>a) 1=[(0,a)]:=rfl;rw[e1]at hM;obtain⟨g',cap,rfl,h1,h2,h3⟩:=iP hM.ow (fun x hx=>by simp at hx;rw[hx];exact ha) (Su 0);have h0:=h3 0 (Su 0);have hth:W.there g' 0 37:=by
  rcases hM.ow.2 with⟨h,-⟩|⟨g2,cap2,cur,he,-,hc,hn,-,hs,-⟩
  ·cases h
  ·injection he with he1 he2 he3
   injection he1 with he1
   injection he1 with he1
   subst he1;intro j hj;have hj2:0+j<cur.size:=by
    rw[hs];have:1<=cap2:=hn;omega
   refine⟨?_,?_⟩
   ·simp[RU,hc,hj2];omega
   ·simp[Ti,hc]
 have hR:Row W g' (wn 0++aA a):=⟨h2,h0,by rw[PY,aF ha];exact hth⟩
 refine(zN g' cap a ha W hR ?_).mono ?_
 ·rcases hM.ow.2 with⟨h,-⟩|⟨g2,cap2,cur,he,-,hc,hn,-,hs,-⟩
  ·cases h
  ·injection he with he1 he2 he3
   rw[he3];exact hn
 ·rintro e w9 ⟨vv,rfl,hk9,hs9,hb9,rfl⟩;exact⟨_,rfl,hM.bl.trans (hb9.mono h1),_,_,rfl⟩
end
namespace RG
open Go Go.RowKit
variable {P:Program}{ops:Array Oper}{Q:Exit->Act->World->Prop}{w:World}{a0:Act}{L:Array Bool}
structure Flow where
 R:Nat->Value->World->Prop
 B:Nat->World->Prop
 E:Nat->World->World->Prop
 kill:Nat->List Nat
 killB:Nat->List Nat
def eA(ops:Array Oper)(i:Nat):Option Tmp:=(ops[i]?).bind (·.dst)
def depOn(ops:Array Oper)(x k:Nat):Bool:=match ops[x]? with|some o=>jO o k|none=>true
def okK(ops:Array Oper)(k:Nat)(l:List Nat):Bool:=l.all (fun x=>x == k || depOn ops x k)
def C7(ops:Array Oper)(k:Nat)(t:Tmp):Bool:=(QJ ops.size).all (fun i=>eA ops i != some t || i == k || depOn ops i k)
structure InvF(F:Flow)(ops:Array Oper)(a0:Act)(L:Array Bool)(a:Act)(w:World):Prop where
 size:L.size=ops.size
 cl:∀(i:Nat) (o:Oper),ops[i]? = some o->on L i=true->∀e∈o.after,RB .any e=true->on L e.on=true
 def':a.defers=a0.defers
 sz:a.tmps.size=a0.tmps.size
 rest:∀t:Tmp,(∀i,on L i=true->eA ops i≠some t)->a.tmps[t]? = a0.tmps[t]?
 all:∃V:Nat->Value,(∀i d,on L i=true->eA ops i=some d->a.tmps[d]? = some (V i))/\(∀i,on L i=true->(∀x∈F.kill i,on L x=false)->F.R i (V i) w)
 base:∀b,(∀x∈F.killB b,on L x=false)->F.B b w
def kZ(P:Program)(Q:Exit->Act->World->Prop)(F:Flow)(ops:Array Oper)(a0:Act)(k:Nat)(o:Oper):Prop:=
 ∀(a:Act) (w:World) (K:Act->World->Prop),
  (∀j d,jO o j=true->okK ops k (F.kill j)=true->eA ops j=some d->F.R j (a.eval (.tmp d)) w) ->
  (∀t,C7 ops k t=true->a.eval (.tmp t)=a0.eval (.tmp t)) ->
  (∀b,okK ops k (F.killB b)=true->F.B b w) ->
  (∀v w',F.E k w w'->F.R k v w'->K (a.put o.dst v) w')->o.wp P a w K Q
def vC(P:Program)(Q:Exit->Act->World->Prop)(F:Flow)(ops:Array Oper)(a0:Act)(k:Nat)(o:Oper):Prop:=
 match o.guard with
 | none=>kZ P Q F ops a0 k o
 | some (j,want)=>jO o j=true/\(eA ops j).isSome=true/\okK ops k (F.kill j)=true /\
  (((∀v w,F.R j v w->v=.bool want)/\kZ P Q F ops a0 k o)\/((∀v w,F.R j v w->v=.bool (!want))/\∀w,F.E k w w/\F.R k undef w))
def JX(ops:Array Oper)(n:Nat):Bool:=
 (QJ ops.size).all (fun i=>match ops[i]? with
  | some o=>o.after.all (fun e=>!RB .any e || e.on<i) && (match o.dst with|none=>true|some d=>decide (d<n) && (QJ ops.size).all (fun j=>j == i || eA ops j != some d))
  | none=>false)
structure RegF(P:Program)(Q:Exit->Act->World->Prop)(F:Flow)(ops:Array Oper)(a0:Act)(m:Nat):Prop where
 chk:JX ops a0.tmps.size=true
 cert:∀k o,k<m->ops[k]? = some o->vC P Q F ops a0 k o
 stab:∀i j,i<m->j<m->i≠j->(F.kill j).contains i=false->depOn ops j i=false->∀v w w',F.E i w w'->F.R j v w->F.R j v w'
 stabB:∀i b,i<m->(F.killB b).contains i=false->∀w w',F.E i w w'->F.B b w->F.B b w'
variable {F:Flow}{m:Nat}
theorem RegF.of{k:Nat}{o:Oper}(h:RegF P Q F ops a0 m)(ho:ops[k]? = some o):(∀e∈o.after,RB .any e=true->e.on<k)/\∀d,o.dst=some d->d<a0.tmps.size/\∀j,eA ops j=some d->j=k:=by
 have hk:k<ops.size:=(Qg.1 ho).1;have h1:=Qp.1 h.chk k (Rh.2 hk);rw[ho]at h1;simp only[P3]at h1;obtain⟨h2,h3⟩:=h1;refine⟨fun e he hb=>?_,fun d hd=>?_⟩
 ·have:=Si.1 h2 e he;simpa[hb]using this
 ·rw[hd]at h3;simp only[P3,decide_eq_true_eq]at h3;refine⟨h3.1,fun j hj=>?_⟩;have hjs:j<ops.size:=by
   unfold eA at hj;cases hx:ops[j]? with
   | none=>rw[hx]at hj;cases hj
   | some x=>exact(Qg.1 hx).1
  have:=Qp.1 h3.2 j (Rh.2 hjs);simpa[hj]using this
theorem gB{i:Nat}{o:Oper}(ho:ops[i]? = some o):eA ops i=o.dst:=by unfold eA;rw[ho];rfl
theorem Hd{a:Act}{x k:Nat}{o:Oper}(h:InvF F ops a0 L a w){ho:ops[x]? = some o}(hd:jO o k=true)(hx:on L x=true):on L k=true:=by
 obtain⟨e,he,hb⟩:=Tk.1 hd;simp only[P3,beq_iff_eq]at hb;rw[<-hb.2];exact h.cl x o ho hx e he hb.1
theorem uM{L:Array Bool}{x:Nat}(h:on L x=true):x<L.size:=by
 rcases UB x L.size with h1|h1
 ·exact h1
 ·unfold on at h;rw[PZ,Array.getElem?_eq_none h1]at h;cases h
theorem Kl{k:Nat}{o:Oper}{a:Act}(R:RegF P Q F ops a0 m)(hkm:k<m)(hlt:∀i,on L i=true->i<m)(ho:ops[k]? = some o)(hun:on L k=false)(hdep:∀e∈o.after,RB .any e=true->on L e.on=true)(h:InvF F ops a0 L a w):
 wpOp P ops Q k (InvF F ops a0 (L.setIfInBounds k true)) a w:=by
 obtain⟨hback,hdst⟩:=R.of ho;have hks:k<ops.size:=(Qg.1 ho).1;have hkL:k<L.size:=by rw[h.size];exact hks
 have hdo:eA ops k=o.dst:=gB ho;have hnot:∀x,(x == k || depOn ops x k)=true->on L x=false:=fun x hx=>by
  cases hon:on L x with
  | false=>rfl
  | true =>
   rcases Xb _ _ ▸ hx with h1|h1
   ·rw[show x=k by simpa using h1,hun]at hon;cases hon
   ·unfold depOn at h1;have hxs:x<ops.size:=by rw[<-h.size];exact uM hon
    have hox:ops[x]? = some ops[x]:=Qo hxs;rw[hox]at h1;have:=Hd (ho:=hox) h h1 hon;rw[hun]at this;cases this
 obtain⟨V,hV1,hV2⟩:=h.all;have hp1:∀j d,jO o j=true->okK ops k (F.kill j)=true->eA ops j=some d->a.tmps[d]? = some (V j)/\F.R j (V j) w:=fun j d hj hok hd=>by
  obtain⟨e,he,hb⟩:=Tk.1 hj;simp only[P3,beq_iff_eq]at hb;have hjon:on L j=true:=by rw[<-hb.2];exact hdep e he hb.1
  exact⟨hV1 j d hjon hd,hV2 j hjon fun x hx=>hnot x (Qp.1 hok x hx)⟩
 have hpre1:∀j d,jO o j=true->okK ops k (F.kill j)=true->eA ops j=some d->F.R j (a.eval (.tmp d)) w:=fun j d hj hok hd=>by
  rw[Dc (hp1 j d hj hok hd).1];exact(hp1 j d hj hok hd).2
 have hpre2:∀t,C7 ops k t=true->a.eval (.tmp t)=a0.eval (.tmp t):=fun t hf=>by
  have h1:=h.rest t fun i hi hd=>by
   have his:i<ops.size:=by rw[<-h.size];exact uM hi
   have h2:=Qp.1 hf i (Rh.2 his);rw[hd]at h2;have h3:(i == k || depOn ops i k)=true:=by simpa using h2
   rw[hnot i h3]at hi;cases hi
  show a.tmps.getD t undef=a0.tmps.getD t undef;rw[PZ,PZ,h1]
 have hpre3:∀b,okK ops k (F.killB b)=true->F.B b w:=fun b hb=>h.base b fun x hx=>hnot x (Qp.1 hb x hx)
 have hpost:∀v w',F.E k w w'->F.R k v w'->InvF F ops a0 (L.setIfInBounds k true) (a.put o.dst v) w':=fun v w' hE hR=>by
  have hon:∀x,on (L.setIfInBounds k true) x=(on L x || k == x):=fun x=>fB hkL
  refine⟨by rw[Array.size_setIfInBounds];exact h.size,fun i oi hoi hi e he hb=>?_,?_,?_,fun t ht=>?_,⟨fun x=>if x=k then v else V x,fun i d hi hd=>?_,fun i hi hkl=>?_⟩,fun b hb=>?_⟩
  ·rw[hon]at hi⊢;by_cases hik:k=i
   ·subst hik;rw[ho]at hoi;obtain rfl:=Qh.inj hoi;rw[hdep e he hb,Ta]
   ·rw[h.cl i oi hoi (by simpa[hik]using hi) e he hb,Ta]
  ·rw[<-h.def'];cases o.dst<;>rfl
  ·rw[mX];exact h.sz
  ·have h1:o.dst≠some t:=fun hd=>ht k (by rw[hon];simp) (by rw[hdo];exact hd)
   rw[lF a v h1];exact h.rest t fun i hi=>ht i (by rw[hon,hi,Ta])
  ·rw[hon]at hi;by_cases hik:i=k
   ·subst hik;rw[hdo]at hd;rw[hd];show(a.tmps.setIfInBounds d v)[d]? = some (if i=i then v else V i);rw[if_pos (rfl:i=i)];rw[Ru,if_pos rfl,if_pos (by rw[h.sz];exact(hdst d hd).1)]
   ·have hne:o.dst≠some d:=fun hd2=>hik ((hdst d hd2).2 i hd)
    rw[lF a v hne];show _=some (if i=k then v else V i);rw[if_neg hik];have hik':¬k=i:=fun e=>hik e.symm
    exact hV1 i d (by simpa[hik']using hi) hd
  ·rw[hon]at hi;by_cases hik:i=k
   ·subst hik;show F.R i (if i=i then v else V i) w';rw[if_pos rfl];exact hR
   ·show F.R i (if i=k then v else V i) w';rw[if_neg hik];have hik':¬k=i:=fun e=>hik e.symm
    have hi':on L i=true:=by simpa[hik']using hi
    have h1:∀x∈F.kill i,on L x=false:=fun x hx=>by
     have:=hkl x hx;rw[hon,V5]at this;exact this.1
    have h2:(F.kill i).contains k=false:=by
     cases hc:(F.kill i).contains k with
     | false=>rfl
     | true =>
      have:=hkl k (by simpa using hc);rw[hon]at this;simp at this
    have his:i<ops.size:=by rw[<-h.size];exact uM hi'
    have h3:depOn ops i k=false:=by
     cases hc:depOn ops i k with
     | false=>rfl
     | true=>rw[hnot i (by rw[hc,Bool.or_true])]at hi';cases hi'
    exact R.stab k i hkm (hlt i hi') (Ne.symm hik) h2 h3 _ _ _ hE (hV2 i hi' h1)
  ·have h1:∀x∈F.killB b,on L x=false:=fun x hx=>by
    have:=hb x hx;rw[hon,V5]at this;exact this.1
   have h2:(F.killB b).contains k=false:=by
    cases hc:(F.killB b).contains k with
    | false=>rfl
    | true =>
     have:=hb k (by simpa using hc);rw[hon]at this;simp at this
   exact R.stabB k b hkm h2 _ _ hE (h.base b h1)
 have hC:=R.cert k o hkm ho;unfold vC at hC;unfold wpOp;rw[ho];dsimp only;cases hg:o.guard with
 | none =>
  rw[hg]at hC;rw[xQ hg,if_pos rfl];left;exact hC a w _ hpre1 hpre2 hpre3 hpost
 | some jw =>
  obtain⟨j,want⟩:=jw;rw[hg]at hC;obtain⟨hd1,hd2,hd3,hcase⟩:=hC;obtain⟨d,hd⟩:=Qx.1 hd2;obtain⟨hs,hRj⟩:=hp1 j d hd1 hd3 hd;have hy:∀b,V j=.bool b->TV o (yielded ops a.tmps)=(b == want):=fun b hb=>by
   have h4:yielded ops a.tmps j=some b:=by
    unfold eA at hd;unfold yielded;cases hoj:ops[j]? with
    | none=>rw[hoj]at hd;cases hd
    | some oj =>
     rw[hoj]at hd;show(match oj.dst.bind (a.tmps[·]?) with|some (.bool b)=>some b|_=>none)=_;rw[show oj.dst=some d from hd];show(match a.tmps[d]? with|some (.bool b)=>some b|_=>none)=_;rw[hs,hb]
   unfold TV;rw[hg];show(yielded ops a.tmps j == some want)=_;rw[h4];cases b<;>cases want<;>rfl
  rcases hcase with⟨hw,hc⟩|⟨hw,hsk⟩
  ·rw[hy _ (hw _ _ hRj),show(want == want)=true by cases want<;>rfl,if_pos rfl];left;exact hc a w _ hpre1 hpre2 hpre3 hpost
  ·rw[hy _ (hw _ _ hRj),show((!want) == want)=false by cases want<;>rfl];exact hpost undef w (hsk w).1 (hsk w).2
def fU(V:Nat->Value):List Oper->Nat->Act->Act
 | [],_,a=>a
 | o :: r,i,a=>fU V r (i+1) (a.put o.dst (V i))
theorem kJ(V:Nat->Value):∀(l:List Oper) (i:Nat) (a:Act),(fU V l i a).defers=a.defers
 | [],_,_=>rfl
 | o :: r,i,a=>by
  rw[fU,kJ V r];cases o.dst<;>rfl
theorem jH(V:Nat->Value):∀(l:List Oper) (i:Nat) (a:Act) (t:Tmp),(∀o∈l,o.dst≠some t)->(fU V l i a).tmps[t]? = a.tmps[t]?
 | [],_,_,_,_=>rfl
 | o :: r,i,a,t,h=>by
  rw[fU,jH V r _ _ t (fun x hx=>h x (Qv _ hx)),lF a _ (h o Qy)]
theorem oP(V:Nat->Value):∀(l:List Oper) (i:Nat) (a:Act) (j:Nat) (o:Oper) (d:Tmp),l[j]? = some o->o.dst=some d->(∀j' o',l[j']? = some o'->o'.dst=some d->j'=j)->d<a.tmps.size->(fU V l i a).tmps[d]? = some (V (i+j))
 | [],_,_,_,_,_,h,_,_,_=>by simp at h
 | x :: r,i,a,0,o,d,h,hd,hu,hs=>by
  obtain rfl:x=o:=by simpa using h
  rw[fU,jH V r _ _ d (fun y hy hyd=>by
   obtain⟨j',hj'⟩:=RZ hy;have:=hu (j'+1) y (by simpa using hj') hyd;omega),hd]
  show(a.tmps.setIfInBounds d _)[d]? = _;rw[Ru,if_pos rfl,if_pos hs];rfl
 | x :: r,i,a,j+1,o,d,h,hd,hu,hs=>by
  rw[fU,oP V r (i+1) _ j o d (by simpa using h) hd (fun j' o' h' hd'=>by
   have:=hu (j'+1) o' (by simpa using h') hd';omega) (by rw[mX];exact hs)]
  congr 2
  omega
theorem InvF.done{a:Act}(R:RegF P Q F ops a0 m)(h:InvF F ops a0 L a w)(hall:∀i,i<ops.size->on L i=true)
 (hp:∀(V:Nat->Value),(∀i,i<ops.size->F.kill i=[]->F.R i (V i) w)->(∀b,F.killB b=[]->F.B b w)->Q .normal (fU V ops.toList 0 a0) w):Q .normal a w:=by
 obtain⟨V,hV1,hV2⟩:=h.all;have e:a=fU V ops.toList 0 a0:=by
  refine Act.ext' ?_ (by rw[kJ];exact h.def');apply Wi;intro t;by_cases ht:∃(i:Nat) (o:Oper),ops[i]? = some o/\o.dst=some t
  ·obtain⟨i,o,ho,hd⟩:=ht;rw[hV1 i t (hall i (Qg.1 ho).1) (by rw[gB ho];exact hd)];rw[oP V ops.toList 0 a0 i o t (by rw[QE];exact ho) hd (fun j' o' hj' hd'=>((R.of ho).2 t hd).2 j' (by rw[QE]at hj';rw[gB hj'];exact hd')) ((R.of ho).2 t hd).1,PU]
  ·rw[h.rest t (fun i hi hd=>?_),jH V ops.toList 0 a0 t (fun o hm hd=>?_)]
   ·obtain⟨i,hi⟩:=RZ hm;rw[QE]at hi;exact ht ⟨i,o,hi,hd⟩
   ·unfold eA at hd;cases hx:ops[i]? with
    | none=>rw[hx]at hd;cases hd
    | some x=>rw[hx]at hd;exact ht ⟨i,x,hx,hd⟩
 rw[e];exact hp V (fun i hi hk=>hV2 i (hall i hi) (by rw[hk];simp)) (fun b hb=>h.base b (by rw[hb];simp))
theorem InvF.full{a:Act}(R:RegF P Q F ops a0 m)(h:InvF F ops a0 L a w)(hr:R9 .any ops L=[]):∀i,i<ops.size->on L i=true:=by
 intro i;induction i using Nat.strongRecOn with
 | ind i ih =>
  intro hi;have ho:ops[i]? = some ops[i]:=Qo _;cases hon:on L i with
  | true=>rfl
  | false =>
   have:i∈R9 .any ops L:=mem_ready.2 ⟨?_,_,ho,fun e he hb=>?_⟩
   ·rw[hr]at this;cases this
   ·unfold on at hon;rw[PZ,Qo (by rw[h.size];exact hi)]at hon⊢;exact hon
   ·have hlt:=(R.of ho).1 e he hb;exact ih e.on hlt (Nat.lt_trans hlt hi)
theorem sD{id:Nat}(F:Flow)(hm:P.follows .mixedOrders=true)(R:RegF P Q F ops a0 ops.size)(hB:∀b,F.B b w.drew)
 (hp:∀(V:Nat->Value) (w':World),(∀i,i<ops.size->F.kill i=[]->F.R i (V i) w')->(∀b,F.killB b=[]->F.B b w')->Q .normal (fU V ops.toList 0 a0) w'):(Sq id ops true).wp P Q a0 w:=by
 have key:∀(fuel:Nat) (L:Array Bool) (a:Act) (w:World),unl L=fuel->InvF F ops a0 L a w->wpAny P .any ops Q fuel L a w:=by
  intro fuel;induction fuel with
  | zero =>
   intro L a w hu hI;have hall:∀i,i<ops.size->on L i=true:=fun i hi=>qN hu i (by rw[hI.size];exact hi)
   refine⟨?_,hI.done R hall (fun V=>hp V w)⟩;apply Va.2;intro i hi;obtain⟨h1,o,ho,-⟩:=mem_ready.1 hi;have h2:=hall i (Qg.1 ho).1;unfold on at h2;rw[PZ]at h1 h2;cases hh:L[i]? with
   | none=>rw[hh]at h1;cases h1
   | some b=>rw[hh]at h1 h2;rw[show b=false from h1]at h2;cases h2
  | succ fuel ih =>
   intro L a w hu hI;refine⟨fun hr=>hI.done R (hI.full R hr) (fun V=>hp V w),fun i hi=>?_⟩;obtain⟨h1,o,ho,hdep⟩:=mem_ready.1 hi;have hoff:on L i=false:=by
    unfold on;rw[PZ]at h1⊢;cases hh:L[i]? with
    | none=>rfl
    | some b=>rw[hh]at h1;exact h1
   exact wpOp_mono (fun a' w' hI'=>ih _ a' w' (by have:=vJ h1;omega) hI') (Kl R (Qg.1 ho).1 (fun i hi=>by rw[<-hI.size];exact uM hi) ho hoff hdep hI)
 have hoff:∀i,on (PX ops.size false) i=false:=fun i=>by
  unfold on;rw[PZ,Tf];by_cases h:i<ops.size
  ·rw[if_pos h];rfl
  ·rw[if_neg h];rfl
 refine wp_region_any hm (key _ _ a0 _ ?_ ⟨P7,(fun i o _ h=>by rw[hoff]at h;cases h),rfl,rfl,fun _ _=>rfl,⟨fun _=>undef,fun i d h=>(by rw[hoff]at h;cases h),fun i h=>(by rw[hoff]at h;cases h)⟩,fun b _=>hB b⟩);unfold unl;rw[VM,VS];simp
structure PreF(F:Flow)(ops:Array Oper)(a0:Act)(k:Nat)(o:Oper)(a:Act)(w:World):Prop where
 n:∀j d,jO o j=true->okK ops k (F.kill j)=true->eA ops j=some d->F.R j (a.eval (.tmp d)) w
 o:∀t,C7 ops k t=true->a.eval (.tmp t)=a0.eval (.tmp t)
 b:∀b,okK ops k (F.killB b)=true->F.B b w
def mJ(P:Program)(Q:Exit->Act->World->Prop)(F:Flow)(ops:Array Oper)(a0:Act):Nat->List Oper->Prop
 | _,[]=>True
 | k,o :: r=>vC P Q F ops a0 k o/\mJ P Q F ops a0 (k+1) r
theorem sO:∀(l:List Oper) (i:Nat),mJ P Q F ops a0 i l->∀k o,l[k]? = some o->vC P Q F ops a0 (i+k) o
 | [],_,_,k,o,h=>by simp at h
 | x :: r,i,hc,0,o,h=>by
  obtain rfl:x=o:=by simpa using h
  exact hc.1
 | x :: r,i,hc,k+1,o,h=>by
  have:=sO r (i+1) hc.2 k o (by simpa using h);rwa[show i+1+k=i+(k+1) by omega]at this
theorem Hq(h:mJ P Q F ops a0 0 ops.toList):∀k o,k<ops.size->ops[k]? = some o->vC P Q F ops a0 k o:=fun k o _ ho=>by
 have:=sO ops.toList 0 h k o (by rw[QE];exact ho);rwa[PU]at this
def evo(ev:Tmp->Value):Operand->Value
 | .tmp t=>ev t
 | .const v=>v
 | .global g=>.pointer (some ⟨g,0,none⟩)
 | .func f=>.func (.func f) #[] #[]
def uC(T:List Tmp)(o:Oper):Bool:=
 (match o.op with | .select _ _=>false|_=>true) && o.op.operands.all (fun x=>match x with | .tmp t=>T.contains t|_=>true)
theorem qG{a:Act}{o:Oper}(ev:Tmp->Value)(T:List Tmp)(h:uC T o=true)(he:∀t∈T,a.eval (.tmp t)=ev t):execOp a.eval o=execOp (evo ev) o:=by
 simp only[uC,P3]at h;refine execOp_congr o (fun cs b he=>?_) (fun x hx=>?_)
 ·rw[he]at h;exact absurd h.1 (by simp)
 ·have h1:=Si.1 h.2 x hx;cases x with
  | tmp t=>exact he t (by simpa using h1)
  | const v=>rfl
  | global g=>rfl
  | func f=>rfl
theorem BG{k:Nat}{o:Oper}(h:∀(a:Act) (w:World),PreF F ops a0 k o a w->∃v w',(execOp a.eval o).run P w=.ok (.value v) w'/\F.E k w w'/\F.R k v w'):kZ P Q F ops a0 k o:=by
 intro a w K h1 h2 h3 hK;obtain⟨v,w',hr,hE,hR⟩:=h a w ⟨h1,h2,h3⟩;unfold Sf;rw[hr];exact hK v w' hE hR
theorem kV{k:Nat}{o:Oper}(t:Tmp)(h:∀(a:Act) (w:World),PreF F ops a0 k o a w->∃v w',(uC [t] o=true)/\(execOp (evo fun _=>a.eval (.tmp t)) o).run P w=.ok (.value v) w'/\F.E k w w'/\F.R k v w'):kZ P Q F ops a0 k o:=by
 refine BG fun a w hp=>?_
 obtain⟨v,w',hs,hr,hE⟩:=h a w hp;refine⟨v,w',?_,hE⟩;rw[qG (fun _=>a.eval (.tmp t)) [t] hs (fun x hx=>by rw[show x=t by simpa using hx])];exact hr
theorem Dl{k:Nat}{o:Oper}(t:Tmp)(h:∀(a:Act) (w:World),PreF F ops a0 k o a w->∃f args,(uC [t] o=true)/\(execOp (evo fun _=>a.eval (.tmp t)) o).run P w=.ok (.enter f args) w/\Calls P f args w (Ret fun e w'=>F.E k w w'/\F.R k e w')):kZ P Q F ops a0 k o:=by
 intro a w K h1 h2 h3 hK;obtain⟨f,args,hs,hr,hc⟩:=h a w ⟨h1,h2,h3⟩;unfold Sf;rw[qG (fun _=>a.eval (.tmp t)) [t] hs (fun x hx=>by rw[show x=t by simpa using hx]),hr,Oper.upon_enter];refine hc.mono ?_;rintro e w' ⟨v,rfl,hE,hR⟩;exact hK _ _ hE hR
theorem wT{k:Nat}{o:Oper}(T:TypeId)(t:Tmp)(ho:o.op=.load T (.tmp t))(hu:(P.underlying T).map (·.isRow)=some true)
 (h:∀(a:Act) (w:World),PreF F ops a0 k o a w->∃g off cs,a.eval (.tmp t)=.pointer (some ⟨g,off,none⟩)/\w.rangeAt g off cs/\(P.info? T).map (·.size)=some cs.length/\F.E k w w/\F.R k (.agg cs.toArray) w):kZ P Q F ops a0 k o:=by
 intro a w K h1 h2 h3 hK;obtain⟨g,off,cs,he,hr,hi,hE,hR⟩:=h a w ⟨h1,h2,h3⟩;obtain⟨d,hu,hd⟩:=PV.1 hu;exact wp_load_mid T (.tmp t) ho g off he cs d hr hu hd hi (hK _ _ hE hR)
theorem Hp{k:Nat}{o:Oper}(s u:Tmp)(t:TypeId)(ho:o.op=.call { callee:=.builtin .append,args:=#[.tmp s,.tmp u],argTypes:=#[t,t] })
 (h:∀(a:Act) (w:World),PreF F ops a0 k o a w->∃v w',(QS #[t,t] o.type #[a.eval (.tmp s),a.eval (.tmp u)]).run P w=.ok v w'/\F.E k w w'/\F.R k v w'):kZ P Q F ops a0 k o:=by
 intro a w K h1 h2 h3 hK;obtain⟨v,w',hr,hE,hR⟩:=h a w ⟨h1,h2,h3⟩;unfold Sf execOp;simp only[ho,resolve,invoke,builtin,Qi,Sc,QK,WJ,SQ,Xu,hr];exact hK _ _ hE hR
theorem EJ(h:mJ P Q F ops a0 0 (ops.toList.take m)):∀k o,k<m->ops[k]? = some o->vC P Q F ops a0 k o:=fun k o hk ho=>by
 have:=sO (ops.toList.take m) 0 h k o (by rw[RA,if_pos hk,QE];exact ho);rwa[PU]at this
theorem InvF.act{a:Act}(R:RegF P Q F ops a0 m)(h:InvF F ops a0 L a w)(hm:m<=ops.size)(hall:∀i,on L i=true↔i<m){V:Nat->Value}(hV1:∀i d,on L i=true->eA ops i=some d->a.tmps[d]? = some (V i)):a=fU V (ops.toList.take m) 0 a0:=by
 refine Act.ext' ?_ (by rw[kJ];exact h.def');apply Wi;intro t;by_cases ht:∃(i:Nat) (o:Oper),i<m/\ops[i]? = some o/\o.dst=some t
 ·obtain⟨i,o,him,ho,hd⟩:=ht;rw[hV1 i t ((hall i).2 him) (by rw[gB ho];exact hd)];rw[oP V (ops.toList.take m) 0 a0 i o t (by rw[RA,if_pos him,QE];exact ho) hd (fun j' o' hj' hd'=>((R.of ho).2 t hd).2 j' (by
   rw[RA]at hj';split at hj'
   ·rw[QE]at hj';rw[gB hj'];exact hd'
   ·cases hj')) ((R.of ho).2 t hd).1,PU]
 ·rw[h.rest t (fun i hi hd=>?_),jH V (ops.toList.take m) 0 a0 t (fun o hm' hd=>?_)]
  ·obtain⟨i,hi⟩:=RZ hm';rw[RA]at hi;split at hi
   ·rename_i him
    rw[QE]at hi;exact ht ⟨i,o,him,hi,hd⟩
   ·cases hi
  ·unfold eA at hd;cases hx:ops[i]? with
   | none=>rw[hx]at hd;cases hd
   | some x=>rw[hx]at hd;exact ht ⟨i,x,(hall i).1 hi,hx,hd⟩
theorem EF{id:Nat}(F:Flow)(n:Nat)(hn:ops.size=n+1)(hd:(QJ n).all (fun j=>depOn ops n j || (QJ n).any (fun i=>depOn ops n i && depOn ops i j))=true)(hm:P.follows .mixedOrders=true)(R:RegF P Q F ops a0 n)(hB:∀b,F.B b w.drew)
 (hp:∀(V:Nat->Value) (w':World),(∀i,i<n->F.kill i=[]->F.R i (V i) w')->(∀b,F.killB b=[]->F.B b w')->wpList P ops Q (ops.toList.drop n) (fU V (ops.toList.take n) 0 a0) w'):(Sq id ops true).wp P Q a0 w:=by
 have hon':ops[n]? = some (ops[n]'(by omega)):=Qo _;have key:∀(fuel:Nat) (L:Array Bool) (a:Act) (w:World),unl L=fuel->on L n=false->InvF F ops a0 L a w->wpAny P .any ops Q fuel L a w:=by
  intro fuel;induction fuel with
  | zero =>
   intro L a w hu hoff hI;have:=qN hu n (by rw[hI.size];omega);rw[hoff]at this;cases this
  | succ fuel ih =>
   intro L a w hu hoff hI;refine⟨fun hr=>?_,fun i hi=>?_⟩
   ·have:=hI.full R hr n (by omega);rw[hoff]at this;cases this
   ·obtain⟨h1,o,ho,hdep⟩:=mem_ready.1 hi;have his:i<ops.size:=(Qg.1 ho).1;have hoi:on L i=false:=by
     unfold on;rw[PZ]at h1⊢;cases hh:L[i]? with
     | none=>rfl
     | some b=>rw[hh]at h1;exact h1
    by_cases hin:i=n
    ·subst hin;have hall:∀j,on L j=true↔j<i:=fun j=>by
      constructor
      ·intro hj;have h2:j<ops.size:=by rw[<-hI.size];exact uM hj
       rcases UB j i with h|h
       ·exact h
       ·obtain rfl:j=i:=by omega
        rw[hoff]at hj;cases hj
      ·intro hj;have hdir:∀j,depOn ops i j=true->on L j=true:=fun j h2=>by
        unfold depOn at h2;rw[ho]at h2;obtain⟨e,he,hb⟩:=Tk.1 h2;simp only[P3,beq_iff_eq]at hb;have:=hdep e he hb.1;rw[hb.2]at this;exact this
       have h2:=Qp.1 hd j (Rh.2 hj);rw[Xb]at h2;rcases h2 with h2|h2
       ·exact hdir j h2
       ·obtain⟨x,hx,h3⟩:=List.any_eq_true.1 h2;rw[P3]at h3;have hxo:=hdir x h3.1;have hxs:x<ops.size:=by have:=Rh.1 hx;omega
        have hox:ops[x]? = some ops[x]:=Qo hxs;have h4:=h3.2;unfold depOn at h4;rw[hox]at h4;exact Hd (ho:=hox) hI h4 hxo
     obtain⟨V,hV1,hV2⟩:=hI.all;have ha:=hI.act R (by omega) hall hV1;have hkl:∀l:List Nat,l=[]->∀x∈l,on L x=false:=fun l hl x hx=>by rw[hl]at hx;cases hx
     have hfin:=hp V w (fun j hj hk=>hV2 j ((hall j).2 hj) (hkl _ hk)) (fun b hb=>hI.base b (hkl _ hb));have hdrop:ops.toList.drop i=[o]:=by
      have hlen:ops.toList.length=i+1:=by rw[P8];exact hn
      rw[List.drop_eq_getElem_cons (by omega),List.drop_of_length_le (by omega)];have:ops.toList[i]? = some o:=by rw[QE];exact ho
      rw[P6 (by omega)]at this;rw[Qh.inj this]
     rw[hdrop,<-ha]at hfin;have hop:wpOp P ops Q i (fun a' w'=>Q .normal a' w') a w:=by
      unfold wpOp;rw[ho];exact hfin
     refine wpOp_mono (fun a' w' hq=>?_) hop;have hon2:∀j,j<ops.size->on (L.setIfInBounds i true) j=true:=fun j hj=>by
      rw[fB (by rw[hI.size];omega)];by_cases h:j<i
      ·rw[(hall j).2 h,Ta]
      ·rw[show j=i by omega];simp
     have hr:R9 .any ops (L.setIfInBounds i true)=[]:=by
      apply Va.2;intro j hj;obtain⟨h1,o',ho',-⟩:=mem_ready.1 hj;have h2:=hon2 j (Qg.1 ho').1;unfold on at h2;rw[PZ]at h1 h2;cases hh:(L.setIfInBounds i true)[j]? with
      | none=>rw[hh]at h1;cases h1
      | some b=>rw[hh]at h1 h2;rw[show b=false from h1]at h2;cases h2
     cases fuel with
     | zero=>exact⟨hr,hq⟩
     | succ f=>exact⟨fun _=>hq,fun j hj=>by rw[hr]at hj;cases hj⟩
    ·refine wpOp_mono (fun a' w' hI'=>ih _ a' w' (by have:=vJ h1;omega) ?_ hI') (Kl R (by omega) (fun j hj=>?_) ho hoi hdep hI)
     ·rw[fB (by rw[hI.size];exact his),hoff];simpa using hin
     ·have h2:j<ops.size:=by rw[<-hI.size];exact uM hj
      rcases UB j n with h|h
      ·exact h
      ·obtain rfl:j=n:=by omega
       rw[hoff]at hj;cases hj
 have hoff:∀i,on (PX ops.size false) i=false:=fun i=>by
  unfold on;rw[PZ,Tf];by_cases h:i<ops.size
  ·rw[if_pos h];rfl
  ·rw[if_neg h];rfl
 refine wp_region_any hm (key _ _ a0 _ ?_ (hoff n) ⟨P7,(fun i o _ h=>by rw[hoff]at h;cases h),rfl,rfl,fun _ _=>rfl,⟨fun _=>undef,fun i d h=>(by rw[hoff]at h;cases h),fun i h=>(by rw[hoff]at h;cases h)⟩,fun b _=>hB b⟩);unfold unl;rw[VM,VS];simp
end RG
end Go.Proofs.YtfcnimopdjjhcaaGreat
