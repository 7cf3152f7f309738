import Derived.Deep.RegionHeld3
import Derived.Deep.LoopGhost
import Derived.Great.BuildSlice
import Derived.Lib.LazyBuf
import Derived.Laws.AppendOwn
import Derived.Laws.IdiomCopy
import Derived.Test.YtmfodnkinmnopaaGreatSp5
set_option linter.unusedVariables false
set_option linter.constructorNameAsVariable false
set_option linter.unusedSimpArgs false
set_option maxRecDepth 1000000
set_option maxHeartbeats 4000000
namespace Go.Proofs.YtmfodnkinmnopaaGreat
open _root_.Array renaming getElem?_eq_some_iff->OH,length_toList->Ot,map_id->Vb,size->SO
open _root_.ByteArray renaming data_append->QW,data_extract->VA,size_append->Vz
open _root_.Fin renaming ext->RS,ext_iff->UG,ofNat->PL
open _root_.Go.Addr renaming add->S1
open _root_.Go.Builtin renaming append_->Qv
open _root_.Go.ByteArray renaming toList_eq->TF
open _root_.Go.Exit renaming inBlock->QK
open _root_.Go.Instr renaming box->SH,build->SA,buildSlice->S8,findAsking->Uw,findKey->U4,lookup->TL,mapUpdate->Ti,sliceAt->Pp
open _root_.Go.IntKind renaming u64->OS
open _root_.Go.IntWalk renaming i64_in->Pa
open _root_.Go.Oper renaming semAt_some->UP,wp->Qg
open _root_.Go.Result renaming andThen_ok->Pe
open _root_.Go.RowKit.Below renaming heap_alloc->Se,refl->Ow
open _root_.Go.RowKit.Hid renaming out->Ty
open _root_.Go.Sem renaming run->Vo,run_bind->OG,run_pure->Qo
open _root_.Go.Value renaming agg->O8,int->Pi,string->U7
open _root_.Go.World renaming alloc->Pb,block_lt_of_cell?->PK,cell?_of_block->OR,frozen?_of_block->P4,putObj->U6,rangeAt_setCells_same->QJ,size_alloc->Oo,there->Ve
open _root_.List renaming cons_append->Sr,flatMap_cons->Td,getElem?_append_left->Pn,getElem?_append_right->Qp,getElem?_eq_none->PX,getElem?_eq_some_iff->OE,getElem?_toArray->Rl,getElem_mem->Pm,length_append->Oz,length_cons->OV,length_map->OO,map_cons->Qu,mem_append->UK,mem_cons->Pg,mem_cons_of_mem->OU,mem_cons_self->O5,mem_map->Pw,mem_range->PY,not_mem_nil->OD,prefix_rfl->UJ,range->Pj
open _root_.Nat renaming add_mod->RY,add_sub_cancel_left->QG,add_zero->P9,le_add_right->RL,le_of_ble_eq_true->PH,le_refl->Oh,le_trans->OM,lt_of_lt_of_le->Oi,lt_succ_self->QR,mod_eq_of_lt->Oy,mul_le_mul_right->Qw,mul_mod->Qb,mul_zero->RH,succ_mul->Vj,zero_add->Om
open _root_.Option renaming map_eq_some_iff->Ol
open _root_.Or renaming inl->OQ,inr->OC
open _root_.Prod renaming mk->P3
open _root_.UInt8 renaming ofNat->Oq
open Go.Proofs.Tryz (prog)
namespace SP
open Go.RowKit Go.Sort Go.Deep
theorem mF(label:ByteArray)(pa:Option Addr)(pcap:Nat)(ps:List ByteArray)(w:World)(hlab:label.size<=1048576)(hpl:ps.length<=1048576)
 (hP:ps.length=0\/∃pb po,pa=some ⟨pb,po,none⟩/\∀j,j<ps.length->w.cell? ⟨pb,po+j,none⟩=some (.string ps[j]!)) (hsz:∀j,j<ps.length->(ps[j]!).size<=1048576)
 (htot:(bP label.data.toList (ps.map fun s=>s.data.toList)).length<=1048576) :
 Calls prog 77 #[.string label,.slice pa ps.length pcap] w fun e w'=>e=.returned (.string ⟨eW label.data.toList (ps.map fun s=>s.data.toList)⟩)/\Below w.heap.size w w':=by
 obtain⟨n,hn⟩:∃n,ps.length=n:=⟨_,rfl⟩
 rw[hn];have Hn:Hid (ps.length=n):=hn;have hn20:n<=1048576:=by omega
 clear hn;go_enter Tryz.func77,Tryz.ntmps77;go_wp2_with fail
 refine(vE label _ hlab).mono ?_;rintro e w1 ⟨o1,rfl,ho1,hb1⟩;go_wp2;go_loopg [5,6] n (fun g s5 s6 wr=>∃(k:Nat) (o:ByteArray),k+g=n/\s6=.int .i64 k/\s5=.string o/\Below w.heap.size w wr/\Hid (o.data.toList=bP label.data.toList ((ps.map fun s=>s.data.toList).take k)))
 case atStart =>
  refine⟨0,o1,by omega,rfl,rfl,hb1,?_⟩;rw[List.take_zero];unfold bP;rw[List.flatMap_nil,List.append_nil];exact ho1
 case round =>
  clear ho1 hb1;obtain⟨k,o,hk,rfl,rfl,hb,HE⟩:=hrel;by_cases hlt:k<n
  ·obtain⟨pb,po,rfl,hPj⟩:∃pb po,pa=some ⟨pb,po,none⟩/\∀j,j<ps.length->w.cell? ⟨pb,po+j,none⟩=some (.string ps[j]!):=by
    rcases hP with h|h
    ·have:=Hn.out;omega
    ·exact h
   have hvc:=hPj k (by have:=Hn.out;omega);have hszk:=hsz k (by have:=Hn.out;omega);obtain⟨s,hs⟩:∃s,ps[k]! = s:=⟨_,rfl⟩
   rw[hs]at hvc hszk;have HS:Hid (s=ps[k]!):=hs.symm;have hvc':wr.cell? ⟨pb,po+k,none⟩=some (.string s):=by rw[hb.cell (p:=⟨pb,po+k,none⟩) (PK _ _ hvc)];exact hvc
   have l1:(k:Int)<(n:Int):=by omega
   clear hs hvc hPj;go_wp2_with fail
   refine(vE s _ hszk).mono ?_;rintro e w2 ⟨o2,rfl,ho2,hb2⟩;have HO2:Hid (o2.data.toList=eD s.data.toList):=ho2;have hos:o.size<=1048576:=by
    have h1:o.data.toList.length=o.size:=Ot;rw[HE.out]at h1;have:=wJ label.data.toList (ps.map fun s=>s.data.toList) k;omega
   have ho2s:o2.size<=1048580:=by
    have h1:o2.data.toList.length=o2.size:=Ot;have h2:s.data.toList.length=s.size:=Ot;rw[ho2,eS]at h1;omega
   clear ho2;go_wp2;go_roundg (gk-1)
   case measure=>omega
   case rel =>
    refine⟨k+1,o++o2,by omega,by go_num,rfl,hb.trans (hb2.mono hb.size),?_⟩;have hkl:k<(ps.map fun s=>s.data.toList).length:=by rw[OO];have:=Hn.out;omega
    have hkl2:k<ps.length:=by have:=Hn.out;omega
    rw[jU _ k hkl,nN,QW,Array.toList_append,HE.out,HO2.out,getElem!_pos (ps.map fun s=>s.data.toList) k hkl,List.getElem_map,HS.out,getElem!_pos ps k hkl2];rfl
  ·have l1:(n:Int)<=(k:Int):=by omega
   have HE2:Hid (o.data.toList=bP label.data.toList (ps.map fun s=>s.data.toList)):=by
    have e1:(ps.map fun s=>s.data.toList).take k=ps.map fun s=>s.data.toList:=List.take_of_length_le (by rw[OO];have:=Hn.out;omega)
    rw[e1]at HE;exact HE
   have hos:o.size<=1048576:=by
    have h1:o.data.toList.length=o.size:=Ot;rw[HE2.out]at h1;omega
   clear HE;go_wp2_with fail
   refine(xW o _ hos).mono ?_;rintro e w3 ⟨rfl,hb3⟩;rw[HE2.out];go_wp2;go_ret;exact⟨rfl,hb.trans (hb3.mono hb.size)⟩
end SP
namespace SP
open Go.RowKit Go.Sort Go.Deep
def RLog(w:World)(y:Nat)(L:Bs):Prop:=w.cell? ⟨y,0,none⟩=some (.string ⟨L⟩)/\w.frozen? ⟨y,0,none⟩=false
theorem Ep(W:World)(vs:Array Value)(ps:List ByteArray)(t:TypeId)(hl:vs.size=ps.length)(h:∀j,j<ps.length->vs[j]! = .string ps[j]!):
 ∀j,j<ps.length->(W.alloc (.cells vs t)).cell? ⟨W.heap.size,0+j,none⟩=some (.string ps[j]!):=by
 intro j hj;have e0:vs.map encV=vs:=by
  have:encV=id:=rfl;rw[this,Vb]
 have:=(Holds.new (enc:=encV) W t vs j (by omega)).1;rw[e0,h j hj]at this;exact this
theorem nM(label:List UInt8)(ps:List (List UInt8))(M:Nat)(hl:label.length<=M)(hp:∀p∈ps,p.length<=M):(bP label ps).length<=(ps.length+1)*(M+4):=by
 unfold bP;rw[Oz,eS];have:(ps.flatMap eD).length<=ps.length*(M+4):=by
  induction ps with
  | nil=>simp
  | cons p ps ih =>
   rw[Td,Oz,eS,OV,Vj];have h1:=hp p (O5 ..);have h2:=ih (fun q hq=>hp q (OU _ hq));omega
 rw[Vj];omega
theorem mE(lab:ByteArray)(vs:Array Value)(ps:List ByteArray)(n:Nat)(W:World)(hn:ps.length=n)(hv:vs.size=ps.length)(h:∀j,j<ps.length->vs[j]! = .string ps[j]!)(hlab:lab.size<=16384)(h64:n<=8)(hs:∀p∈ps,p.size<=16384):
 Calls prog 77 #[.string lab,.slice (some ⟨W.heap.size,0,none⟩) n n] (W.alloc (.cells vs 9)) fun e w'=>e=.returned (.string ⟨eW lab.data.toList (ps.map fun s=>s.data.toList)⟩)/\Below (W.alloc (.cells vs 9)).heap.size (W.alloc (.cells vs 9)) w':=by
 subst hn;refine mF lab (some ⟨W.heap.size,0,none⟩) ps.length ps (W.alloc (.cells vs 9)) (by omega) (by omega) (OC ⟨W.heap.size,0,rfl,Ep W vs ps 9 hv h⟩) (fun j hj=>?_) ?_
 ·rw[getElem!_pos ps j hj];have:=hs _ (Pm hj);omega
 ·have:=nM lab.data.toList (ps.map fun s=>s.data.toList) 16384 (by rw[Ot];exact hlab) (fun p hp=>by
   obtain⟨s,h1,rfl⟩:=Pw.1 hp;rw[Ot];exact hs s h1)
  rw[OO]at this;have h2:(ps.length+1)*(16384+4)<=9*(16384+4):=Qw _ (by omega);omega
theorem EH(w:World)(t:TypeId)(N:Bs):RLog (w.alloc (.cells #[.string ⟨N⟩] t)) w.heap.size N:=by
 have:=Holds.new (enc:=encV) w t #[.string ⟨N⟩] 0 (by simp);have e0:(#[U7 ⟨N⟩]).map encV=#[U7 ⟨N⟩]:=by
  have:encV=id:=rfl;rw[this,Vb]
 rw[e0]at this;exact⟨this.1,this.2⟩
theorem As(label:ByteArray)(w:World)(hlab:label.size<=16384):
 Calls prog 83 #[.string label] w fun e w'=>∃y,e=.returned (.pointer (some ⟨y,0,none⟩))/\w.heap.size<=y/\Below w.heap.size w w'/\RLog w' y (newL label.data.toList):=by
 have hT:=mE ⟨#[108,111,103]⟩ #[.string label] [label] 1 w rfl rfl (fun j hj=>by
  have hj0:j=0:=by simpa using hj
  subst hj0;rfl) (by decide) (by decide) (fun p hp=>by
  have:p=label:=by simpa using hp
  rw[this];exact hlab)
 go_enter Tryz.func83,Tryz.ntmps83;go_wp2_with fail
 refine hT.mono ?_;rintro e w2 ⟨rfl,hb2⟩;have hN:eW (⟨#[108,111,103]⟩:ByteArray).data.toList ([label].map fun s=>s.data.toList)=newL label.data.toList:=rfl;rw[hN];obtain⟨N,hNe⟩:∃N,newL label.data.toList=N:=⟨_,rfl⟩
 rw[hNe];have HN:Hid (N=newL label.data.toList):=hNe.symm;clear hNe hN hT;have hb2':Below w.heap.size w w2:=((Ow _ _).alloc (Oh _) _).trans (hb2.mono (by simp));have hs2:=hb2'.size;go_wp2;go_ret;rw[<-HN.out];exact⟨w2.heap.size,rfl,by omega,hb2'.alloc (by omega) _,EH _ _ _⟩
theorem RLog.lt{w:World}{y:Nat}{L:Bs}(h:RLog w y L):y<w.heap.size:=PK _ _ h.1
theorem RLog.below{w w1:World}{y:Nat}{L:Bs}(h:RLog w y L)(k:Below w.heap.size w w1):RLog w1 y L:=by
 have h2:=(Only.of_below (b:=w.heap.size) (off:=0) (n:=0) (B:=w.heap.size) k rfl)
 have hy:=h.lt;have e:=k.block y hy;unfold RLog World.cell? World.frozen? at *;simp only at *;rw[e];exact h
theorem RLog.set{w:World}{y:Nat}{L:Bs}(h:RLog w y L)(M:Bs):RLog (w.setCell ⟨y,0,none⟩ (.string ⟨M⟩)) y M:=by
 have h1:Holds encV w y 0 #[.string ⟨L⟩]:=by
  intro j hj;have hj0:j=0:=by simpa using hj
  subst hj0;exact⟨h.1,h.2⟩
 have:=Holds.set h1 (i:=0) (by simp) (.string ⟨M⟩);have h2:=this 0 (by simp);simp only[P9]at h2;exact⟨by simpa[encV]using h2.1,h2.2⟩
theorem rI(y:Nat)(L:Bs)(label text:ByteArray)(w:World)(hlab:label.size<=16384)(ht:text.size<=16384)(hl:L.size=32)(hL:RLog w y L):
 Calls prog 84 #[.pointer (some ⟨y,0,none⟩),.string label,.string text] w fun e w'=>e=.returned (.tuple #[])/\Only y 0 1 w w'/\RLog w' y (mV L label.data.toList text.data.toList):=by
 have hy:=hL.lt;have hT:=mE ⟨#[115,97,121]⟩ #[.string ⟨L⟩,.string label,.string text] [⟨L⟩,label,text] 3 w rfl rfl (fun j hj=>by
  have hj3:j<3:=hj;match j,hj3 with
  | 0,_=>rfl
  | 1,_=>rfl
  | 2,_=>rfl) (by decide) (by decide) (fun p hp=>by
  simp only[Pg,OD,or_false]at hp;rcases hp with rfl|rfl|rfl
  ·show L.size<=16384;omega
  ·exact hlab
  ·exact ht)
 obtain⟨N,hNe⟩:∃N,mV L label.data.toList text.data.toList=N:=⟨_,rfl⟩
 have hT':Calls prog 77 #[.string ⟨#[115,97,121]⟩,.slice (some ⟨w.heap.size,0,none⟩) 3 3] (w.alloc (.cells #[.string ⟨L⟩,.string label,.string text] 9)) fun e w'=>e=.returned (.string ⟨N⟩)/\Below (w.alloc (.cells #[.string ⟨L⟩,.string label,.string text] 9)).heap.size (w.alloc (.cells #[.string ⟨L⟩,.string label,.string text] 9)) w':=by
  rw[<-hNe];exact hT
 rw[hNe];have HT:Hid (Calls prog 77 #[.string ⟨#[115,97,121]⟩,.slice (some ⟨w.heap.size,0,none⟩) 3 3] (w.alloc (.cells #[.string ⟨L⟩,.string label,.string text] 9)) fun e w'=>e=.returned (.string ⟨N⟩)/\Below (w.alloc (.cells #[.string ⟨L⟩,.string label,.string text] 9)).heap.size (w.alloc (.cells #[.string ⟨L⟩,.string label,.string text] 9)) w'):=hT';have hb1:Below w.heap.size w (w.alloc (.cells #[.string ⟨L⟩,.string label,.string text] 9)):=(Ow _ _).alloc (Oh _) _;obtain⟨c0,f0⟩:=hL;clear hT hT' hNe;go_enter Tryz.func84,Tryz.ntmps84;go_wp2_with fail
 refine(HT.out).mono ?_;rintro e w2 ⟨rfl,hb2⟩;have hb2':Below w.heap.size w w2:=hb1.trans (hb2.mono hb1.size);have hL2:=RLog.below ⟨c0,f0⟩ hb2';have hO2:Only y 0 1 w w2:=Only.of_below hb2' rfl hy;obtain⟨c2,f2⟩:=hL2;clear HT hb1 hb2 c0 f0;go_wp2
 go_end0
 exact⟨rfl,hO2.setCell (by omega) (by omega) _,RLog.set ⟨c2,f2⟩ N⟩
theorem BU(lab:ByteArray)(hlab:lab.size<=16384)(L:Bs)(hl:L.size=32)(label:ByteArray)(hs:label.size<=16384)(w:World):
 Calls prog 77 #[.string lab,.slice (some ⟨w.heap.size,0,none⟩) 2 2] (w.alloc (.cells #[.string ⟨L⟩,.string label] 9)) fun e w'=>e=.returned (.string ⟨eW lab.data.toList [L.toList,label.data.toList]⟩)/\Below (w.alloc (.cells #[.string ⟨L⟩,.string label] 9)).heap.size (w.alloc (.cells #[.string ⟨L⟩,.string label] 9)) w':=
 mE lab #[.string ⟨L⟩,.string label] [⟨L⟩,label] 2 w rfl rfl (fun j hj=>by
  have hj3:j<2:=hj;match j,hj3 with
  | 0,_=>rfl
  | 1,_=>rfl) hlab (by decide) (fun p hp=>by
  simp only[Pg,OD,or_false]at hp;rcases hp with rfl|rfl
  ·show L.size<=16384;omega
  ·exact hs)
theorem Au(y:Nat)(L:Bs)(label:ByteArray)(n:Nat)(w:World)(hlab:label.size<=16384)(hn:n<=1024)(hl:L.size=32)(hL:RLog w y L):
 Calls prog 136 #[.pointer (some ⟨y,0,none⟩),.string label,.int .i64 n] w fun e w'=>e=.returned (.string ⟨qC L label.data.toList n⟩)/\Only y 0 1 w w'/\RLog w' y (Bw L label.data.toList):=by
 have hy:=hL.lt;have hT:=BU ⟨#[97,115,107]⟩ (by decide) L hl label hlab w;obtain⟨T,hTe⟩:∃T,eW [97,115,107] [L.toList,label.data.toList]=T:=⟨_,rfl⟩
 have hTs:T.size=32:=by rw[<-hTe,cY]
 obtain⟨N,hNe⟩:∃N,Bw L label.data.toList=N:=⟨_,rfl⟩
 obtain⟨A,hAe⟩:∃A,qC L label.data.toList n=A:=⟨_,rfl⟩
 have HA:Hid (f8 T.toList n=A):=by
  show _=_;rw[<-hAe,<-hTe];rfl
 have HN:Hid (eW [97,115,107,101,100] [L.toList,label.data.toList]=N):=hNe;have HT:Hid (Calls prog 77 #[.string ⟨#[97,115,107]⟩,.slice (some ⟨w.heap.size,0,none⟩) 2 2] (w.alloc (.cells #[.string ⟨L⟩,.string label] 9)) fun e w'=>e=.returned (.string ⟨T⟩)/\Below (w.alloc (.cells #[.string ⟨L⟩,.string label] 9)).heap.size (w.alloc (.cells #[.string ⟨L⟩,.string label] 9)) w'):=by
  show Calls _ _ _ _ _;rw[<-hTe];exact hT
 rw[hNe,hAe];have hb1:Below w.heap.size w (w.alloc (.cells #[.string ⟨L⟩,.string label] 9)):=(Ow _ _).alloc (Oh _) _;obtain⟨c0,f0⟩:=hL;clear hT hNe hAe hTe;go_enter Tryz.func136,Tryz.ntmps136;go_wp2_with fail
 refine(HT.out).mono ?_;rintro e w2 ⟨rfl,hb2⟩;have hb2':Below w.heap.size w w2:=hb1.trans (hb2.mono hb1.size);clear HT hb1 hb2;go_wp2_with fail
 refine(lV ⟨T⟩ n _ (by show T.size<=1048576;omega) (by omega)).mono ?_;rintro e w3 ⟨rfl,hb3⟩;have hAA:f8 (⟨T⟩:ByteArray).data.toList n=A:=HA.out;rw[hAA];have hb3':Below w.heap.size w w3:=hb2'.trans (hb3.mono hb2'.size);have hL3:=RLog.below ⟨c0,f0⟩ hb3';have hO3:Only y 0 1 w w3:=Only.of_below hb3' rfl hy;have hy3:=hL3.lt;obtain⟨c3,f3⟩:=hL3;have hT4:=BU ⟨#[97,115,107,101,100]⟩ (by decide) L hl label hlab w3;have HT4:Hid (Calls prog 77 #[.string ⟨#[97,115,107,101,100]⟩,.slice (some ⟨w3.heap.size,0,none⟩) 2 2] (w3.alloc (.cells #[.string ⟨L⟩,.string label] 9)) fun e w'=>e=.returned (.string ⟨N⟩)/\Below (w3.alloc (.cells #[.string ⟨L⟩,.string label] 9)).heap.size (w3.alloc (.cells #[.string ⟨L⟩,.string label] 9)) w'):=by
  show Calls _ _ _ _ _;rw[<-HN.out];exact hT4
 have hb4:Below w3.heap.size w3 (w3.alloc (.cells #[.string ⟨L⟩,.string label] 9)):=(Ow _ _).alloc (Oh _) _;clear c0 f0 hT4 hb2' hb3 hb3' hAA HA HN;go_wp2_with fail
 refine(HT4.out).mono ?_;rintro e w5 ⟨rfl,hb5⟩;have hb5':Below w3.heap.size w3 w5:=hb4.trans (hb5.mono hb4.size);have hL5:=RLog.below ⟨c3,f3⟩ hb5';have hO5:Only y 0 1 w w5:=hO3.trans (Only.of_below hb5' rfl hy3);obtain⟨c5,f5⟩:=hL5;clear c3 f3 HT4 hb4 hb5 hb5' hO3;go_wp2;go_ret;exact⟨rfl,hO5.setCell (by omega) (by omega) _,RLog.set ⟨c5,f5⟩ N⟩
end SP
section
open Go.RowKit Go.Sort Go.Deep
variable {P:Nat}[NeZero P]{N:Nat}
theorem qL{w W:World}{k0 k1 k7 p0 p1 p2 p3 c0 c1 c2 c3 x0 x1 x2 x3 x4 x5 x6 x7:Nat}(h:Kept w k0 [⟨k0,0,p0,p1,p2,p3⟩,⟨k0,4,c0,c1,c2,c3⟩,⟨k7,0,x0,x1,x2,x3⟩,⟨k7,4,x4,x5,x6,x7⟩,⟨k1,0,0,0,0,0⟩] W):W.cell? ⟨k0,0,none⟩=some (.int .u64 p0)/\W.cell? ⟨k0,1,none⟩=some (.int .u64 p1)/\W.cell? ⟨k0,2,none⟩=some (.int .u64 p2)/\W.cell? ⟨k0,3,none⟩=some (.int .u64 p3)/\W.cell? ⟨k0,4,none⟩=some (.int .u64 c0)/\W.cell? ⟨k0,5,none⟩=some (.int .u64 c1)/\W.cell? ⟨k0,6,none⟩=some (.int .u64 c2)/\W.cell? ⟨k0,7,none⟩=some (.int .u64 c3)/\W.cell? ⟨k7,0,none⟩=some (.int .u64 x0)/\W.cell? ⟨k7,1,none⟩=some (.int .u64 x1)/\W.cell? ⟨k7,2,none⟩=some (.int .u64 x2)/\W.cell? ⟨k7,3,none⟩=some (.int .u64 x3)/\W.cell? ⟨k7,4,none⟩=some (.int .u64 x4)/\W.cell? ⟨k7,5,none⟩=some (.int .u64 x5)/\W.cell? ⟨k7,6,none⟩=some (.int .u64 x6)/\W.cell? ⟨k7,7,none⟩=some (.int .u64 x7)/\Kept w k0 [⟨k0,0,p0,p1,p2,p3⟩,⟨k0,4,c0,c1,c2,c3⟩,⟨k7,0,x0,x1,x2,x3⟩,⟨k7,4,x4,x5,x6,x7⟩,⟨k1,0,0,0,0,0⟩] W:=
 ⟨h.head.c0,h.head.c1,h.head.c2,h.head.c3,h.tail.head.c0,h.tail.head.c1,h.tail.head.c2,h.tail.head.c3,h.tail.tail.head.c0,h.tail.tail.head.c1,h.tail.tail.head.c2,h.tail.tail.head.c3,h.tail.tail.tail.head.c0,h.tail.tail.tail.head.c1,h.tail.tail.tail.head.c2,h.tail.tail.tail.head.c3,h⟩
theorem DD{v:Value}{n B:Nat}(hF:Four v n)(hB:B<256):n*val 256 0 0 0+(val B 0 0 0+top*val 0 0 0 0)<top*top:=by
 have h1:=hF.lt;have e1:val 256 0 0 0=256:=rfl;have e2:val B 0 0 0=B:=by unfold val;omega
 have e3:val 0 0 0 0=0:=rfl;have h2:n*256<=(top-1)*256:=Qw _ (by omega);have h3:(top-1)*256+256<=top*top:=by unfold top;decide
 rw[e1,e2,e3];omega
theorem E9(P:Nat)(s:ByteArray)(k:Nat)(hk:k<s.size):
 (beV (s.data.extract 0 k).toList%P*val 256 0 0 0+(val s[k].toNat 0 0 0+top*val 0 0 0 0))%P=beV (s.data.extract 0 (k+1)).toList%P:=by
 have e:(s.data.extract 0 (k+1)).toList=(s.data.extract 0 k).toList++[s[k]]:=by
  rw[Array.extract_succ_right (by omega) hk,Array.toList_push];rfl
 have e1:val 256 0 0 0=256:=rfl;have e2:val s[k].toNat 0 0 0=s[k].toNat:=by unfold val;omega
 have e3:val 0 0 0 0=0:=rfl;rw[e,dQ,e1,e2,e3,RH,P9,RY,Qb,Nat.mod_mod,<-Qb,<-RY];simp[beV]
theorem EP(p0 p1 p2 p3 c0 c1 c2 c3 P:Nat)(s:ByteArray)(hR:RefP p0 p1 p2 p3 c0 c1 c2 c3 P)(hs:s.size<=1048576)(w:World):
 Calls prog 75 #[.agg #[.int .u64 p0,.int .u64 p1,.int .u64 p2,.int .u64 p3,.int .u64 c0,.int .u64 c1,.int .u64 c2,.int .u64 c3],.string s] w (Ret fun e w'=>Below w.heap.size w w'/\Four e (beV s.data.toList%P)):=by
 have HR:Hid (RefP p0 p1 p2 p3 c0 c1 c2 c3 P):=hR;clear hR;go_enter Tryz.func75,Tryz.ntmps75;go_wp2;have FR:=((At8.made w 56 p0 p1 p2 p3 c0 c1 c2 c3 rfl).alloc (.cells #[.int .u64 0,.int .u64 0,.int .u64 0,.int .u64 0] 52)).alloc (.cells #[.int .u64 0,.int .u64 0,.int .u64 0,.int .u64 0] 52);have RE:=(At4.made (w.alloc (.cells #[.int .u64 p0,.int .u64 p1,.int .u64 p2,.int .u64 p3,.int .u64 c0,.int .u64 c1,.int .u64 c2,.int .u64 c3] 56)) 52 0 0 0 0 (Oo _ _)).alloc (.cells #[.int .u64 0,.int .u64 0,.int .u64 0,.int .u64 0] 52);have NN:=At4.made ((w.alloc (.cells #[.int .u64 p0,.int .u64 p1,.int .u64 p2,.int .u64 p3,.int .u64 c0,.int .u64 c1,.int .u64 c2,.int .u64 c3] 56)).alloc (.cells #[.int .u64 0,.int .u64 0,.int .u64 0,.int .u64 0] 52)) 52 0 0 0 0 (k:=w.heap.size+1+1) (by simp);have KP:=((((Kept.mk1 (below3 w (.cells #[.int .u64 p0,.int .u64 p1,.int .u64 p2,.int .u64 p3,.int .u64 c0,.int .u64 c1,.int .u64 c2,.int .u64 c3] 56) (.cells #[.int .u64 0,.int .u64 0,.int .u64 0,.int .u64 0] 52) (.cells #[.int .u64 0,.int .u64 0,.int .u64 0,.int .u64 0] 52)) (below3 w (.cells #[.int .u64 p0,.int .u64 p1,.int .u64 p2,.int .u64 p3,.int .u64 c0,.int .u64 c1,.int .u64 c2,.int .u64 c3] 56) (.cells #[.int .u64 0,.int .u64 0,.int .u64 0,.int .u64 0] 52) (.cells #[.int .u64 0,.int .u64 0,.int .u64 0,.int .u64 0] 52)).size).cons RE.blk).cons NN.blk).cons (x:=⟨w.heap.size,4,c0,c1,c2,c3⟩) ⟨FR.c4,FR.c5,FR.c6,FR.c7,FR.fz⟩).cons (x:=⟨w.heap.size,0,p0,p1,p2,p3⟩) ⟨FR.c0,FR.c1,FR.c2,FR.c3,FR.fz⟩;clear FR RE NN;generalize Pb _ _=W0 at KP⊢;go_loopg [6] s.size (fun gk s6 wr=>∃(k a b c d:Nat),k+gk=s.size/\s6=.int .i64 k/\Kept w w.heap.size [⟨w.heap.size,0,p0,p1,p2,p3⟩,⟨w.heap.size,4,c0,c1,c2,c3⟩,⟨w.heap.size+1+1,0,a,b,c,d⟩,⟨w.heap.size+1,0,0,0,0,0⟩] wr /\
  Hid (Four (.agg #[.int .u64 a,.int .u64 b,.int .u64 c,.int .u64 d]) (beV (s.data.extract 0 k).toList%P)))
 case atStart =>
  refine⟨0,0,0,0,0,Om _,rfl,KP,?_⟩;have:beV (s.data.extract 0 0).toList=0:=by simp[beV]
  rw[this,Nat.zero_mod];exact Four.mk (by decide) (by decide) (by decide) (by decide) rfl
 case round =>
  clear KP;obtain⟨k,a,b,c,d,hk,rfl,KP,HF⟩:=hrel;generalize h2:w.heap.size+1+1=k2 at KP⊢;generalize h1:w.heap.size+1=k1 at KP⊢;have H:Hid (w.heap.size+1=k1/\w.heap.size+1+1=k2):=⟨h1,h2⟩
  have Q1:Hid (w.heap.size<=k1):=by unfold Hid;omega
  have Q2:Hid (w.heap.size<=k2):=by unfold Hid;omega
  have n12:k2≠k1:=by omega
  have n02:k2≠w.heap.size:=by omega
  generalize h0:w.heap.size=k0 at KP Q1 Q2 n02⊢;have H0:Hid (w.heap.size=k0):=h0;clear h0 h1 h2;obtain⟨nc0,nc1,nc2,nc3,nf⟩:=KP.tail.tail.head.at4;have z2:=KP.tail.tail.head.lt;by_cases hlt:k<s.size
  ·have hlt':(k:Int)<(s.size:Int):=by omega
   go_wp2_with fail
   refine(jE _ _ _ _ HF.out (Four.mk (a:=256) (b:=0) (c:=0) (d:=0) (by decide) (by decide) (by decide) (by decide) rfl) _).mono ?_;rintro r w1 ⟨v,rfl,hb1,hE1⟩;obtain⟨x0,x1,x2,x3,x4,x5,x6,x7,rfl,hx0,hx1,hx2,hx3,hx4,hx5,hx6,hx7,hxe⟩:=id hE1;clear hxe nc0 nc1 nc2 nc3 nf z2;replace KP:=KP.call hb1;clear hb1;have A7:=At8.made w1 141 x0 x1 x2 x3 x4 x5 x6 x7 rfl;have T2:=KP.tail.tail.head.at4.alloc (.cells #[.int .u64 x0,.int .u64 x1,.int .u64 x2,.int .u64 x3,.int .u64 x4,.int .u64 x5,.int .u64 x6,.int .u64 x7] 141);have KP7:Kept w k0 [⟨k0,0,p0,p1,p2,p3⟩,⟨k0,4,c0,c1,c2,c3⟩,⟨w1.heap.size,0,x0,x1,x2,x3⟩,⟨w1.heap.size,4,x4,x5,x6,x7⟩,⟨k1,0,0,0,0,0⟩] _:=
    ((((KP.alloc _).tail.tail.tail.cons (x:=⟨w1.heap.size,4,x4,x5,x6,x7⟩) ⟨A7.c4,A7.c5,A7.c6,A7.c7,A7.fz⟩).cons (x:=⟨w1.heap.size,0,x0,x1,x2,x3⟩) ⟨A7.c0,A7.c1,A7.c2,A7.c3,A7.fz⟩).cons (x:=⟨k0,4,c0,c1,c2,c3⟩) (KP.alloc _).tail.head).cons (x:=⟨k0,0,p0,p1,p2,p3⟩) (KP.alloc _).head
   have n72:k2≠w1.heap.size:=Nat.ne_of_lt KP.tail.tail.head.lt;clear A7 KP;have KP:=KP7;clear KP7;have z0:=KP.head.lt;go_wp2_with fail
   generalize Pb _ _=W7 at KP T2⊢;generalize w1.heap.size=k7 at KP n72⊢;have hl2:∀x∈([⟨k0,0,p0,p1,p2,p3⟩,⟨k0,4,c0,c1,c2,c3⟩,⟨k7,0,x0,x1,x2,x3⟩,⟨k7,4,x4,x5,x6,x7⟩,⟨k1,0,0,0,0,0⟩]:List Blk),k2≠x.k:=by simp only[Pg,OD,or_false];rintro x (rfl|rfl|rfl|rfl|rfl);exact n02;exact n02;exact n72;exact n72;exact n12
   have HE1:Hid (jT _ _):=hE1;obtain⟨B,hB⟩:∃B,s[k].toNat=B:=⟨_,rfl⟩
   have hB256:B<256:=hB ▸ s[k].toNat_lt;have hsb:OS.wrap (s[k].toNat:Int)=(B:Int):=by rw[hB];exact wrapN _ (by omega)
   have HFX:Hid _:=E9 P s k hlt;have HB:Hid (s[k].toNat=B):=hB;clear hE1 hB z0;obtain⟨tc0,tc1,tc2,tc3,tf⟩:=id T2;have zt:=T2.lt;go_region_held3 (fun w'=>w'.cell? ⟨k0,0,none⟩=some (.int .u64 p0)/\w'.cell? ⟨k0,1,none⟩=some (.int .u64 p1)/\w'.cell? ⟨k0,2,none⟩=some (.int .u64 p2)/\w'.cell? ⟨k0,3,none⟩=some (.int .u64 p3)/\w'.cell? ⟨k0,4,none⟩=some (.int .u64 c0)/\w'.cell? ⟨k0,5,none⟩=some (.int .u64 c1)/\w'.cell? ⟨k0,6,none⟩=some (.int .u64 c2)/\w'.cell? ⟨k0,7,none⟩=some (.int .u64 c3)/\w'.cell? ⟨k7,0,none⟩=some (.int .u64 x0)/\w'.cell? ⟨k7,1,none⟩=some (.int .u64 x1)/\w'.cell? ⟨k7,2,none⟩=some (.int .u64 x2)/\w'.cell? ⟨k7,3,none⟩=some (.int .u64 x3)/\w'.cell? ⟨k7,4,none⟩=some (.int .u64 x4)/\w'.cell? ⟨k7,5,none⟩=some (.int .u64 x5)/\w'.cell? ⟨k7,6,none⟩=some (.int .u64 x6)/\w'.cell? ⟨k7,7,none⟩=some (.int .u64 x7)/\Kept w k0 [⟨k0,0,p0,p1,p2,p3⟩,⟨k0,4,c0,c1,c2,c3⟩,⟨k7,0,x0,x1,x2,x3⟩,⟨k7,4,x4,x5,x6,x7⟩,⟨k1,0,0,0,0,0⟩] w') (first|(with_reducible exact qL KP)|(with_reducible exact qL KP.drew)|(with_reducible exact qL (KP.set4' Q2.out hl2 _ _ _ _))|(with_reducible exact qL (KP.set4' Q2.out hl2 _ _ _ _).drew)|fail) (first|(go_at_call 87;refine(oM _ _ _ _ HE1.out ⟨B,0,0,0,0,0,0,0,rfl,by omega,by decide,by decide,by decide,by decide,by decide,by decide,by decide,rfl⟩ (DD HF.out hB256) _).mono ?_;rintro r w2 ⟨v,rfl,hb2,hE2⟩;obtain⟨y0,y1,y2,y3,y4,y5,y6,y7,rfl,hy0,hy1,hy2,hy3,hy4,hy5,hy6,hy7,hye⟩:=id hE2;clear hye;have HE2:Hid (jT _ _):=hE2;clear hE2;have KP1:=KP.drew.call hb2;have T1:=T2.drew.call hb2;clear KP T2 hb2;have KP:=KP1;have T2:=T1;clear KP1 T1;obtain⟨tc0,tc1,tc2,tc3,tf⟩:=id T2;have zt:=T2.lt)|(go_at_call 86;refine(oR p0 p1 p2 p3 c0 c1 c2 c3 P _ _ HR.out.hp0 HR.out.hp1 HR.out.hp2 HR.out.hp3 HR.out.hc0 HR.out.hc1 HR.out.hc2 HR.out.hc3 HR.out.eP HR.out.hP HR.out.hP2 HE2.out _).mono ?_;rintro r w3 ⟨v,rfl,hb3,hF3⟩;obtain⟨a',b',c',d',rfl,ha',hb',hc',hd',es3⟩:=id hF3;clear es3;have HF3:Hid (Four _ _):=hF3;clear hF3;have KP1:=KP.call hb3;have T1:=T2.call hb3;clear KP T2 hb3;have KP:=KP1;have T2:=T1;clear KP1 T1;obtain⟨tc0,tc1,tc2,tc3,tf⟩:=id T2;have zt:=T2.lt))
   go_wp2;obtain⟨q1,q2⟩:=H.out;have q0:=H0.out;subst q1 q2 q0;go_roundg (gk-1)
   case measure=>omega
   case rel =>
    refine⟨k+1,a',b',c',d',by omega,rfl,?_,?_⟩
    ·have K3:=KP.set4' Q2.out hl2 (.int .u64 a') (.int .u64 b') (.int .u64 c') (.int .u64 d');exact(((K3.tail.tail.tail.tail).cons (T2.self4 a' b' c' d').blk).cons K3.tail.head).cons K3.head
    ·have h1:=HF3.out;rw[HB.out]at HFX;unfold Hid;rw[<-HFX.out];exact h1
  ·have hk2:k=s.size:=by omega
   have hge:¬((k:Int)<(s.size:Int)):=by omega
   obtain⟨rc0,rc1,rc2,rc3,rf⟩:=KP.tail.tail.tail.head.at4;have z1:=KP.tail.tail.tail.head.lt;have HK:Hid (k=s.size):=hk2;clear hk2;go_wp2;have RF:=KP.tail.tail.tail.head.at4.self4 a b c d;unfold set4 at RF;refine bodyPost_ret (v:=?v) ?hr rfl ?hR
   case hr=>simp[results,Tryz.results75,go_sem,RF.c0,RF.c1,RF.c2,RF.c3];rfl
   refine⟨_,rfl,?_,?_⟩
   ·rw[H0.out];exact aG KP.bl Q1.out _ _ _ _
   ·have:=HF.out;rw[HK.out,show s.size=s.data.size from rfl,Array.extract_size]at this;exact this
end
section
open Go.RowKit Go.Sort
variable {P:Nat}[NeZero P]{N:Nat}
def rl0:List Value:=[.int .u64 18446744069414583343,.int .u64 18446744073709551615,.int .u64 18446744073709551615,.int .u64 18446744073709551615,.int .u64 4294968273,.int .u64 0,.int .u64 0,.int .u64 0]
def rv0:Value:=.agg rl0.toArray
structure Fl3(P:Nat)[NeZero P]:Prop extends Fld P where
 ref:RefP 18446744069414583343 18446744073709551615 18446744073709551615 18446744073709551615 4294968273 0 0 0 P
theorem Hy:Gives 74 #[.int .i64 0] rv0:=fun w=>(Ke w).mono (by rintro e w' ⟨v,rfl,hb,rfl⟩;exact⟨_,rfl,hb,rfl⟩)
theorem mH(h:Fl3 P)(x y:Fin P):Gives 31 #[rv0,fv x,fv y] (fv (x+y)):=fun w =>
 (Ay h.ref (h.four x) (h.four y) w).mono (by rintro e w' ⟨v,rfl,hb,hF⟩;exact⟨_,rfl,hb,hF.nv⟩)
theorem aQ(h:Fl3 P)(x y:Fin P):Gives 32 #[rv0,fv x,fv y] (fv (x*y)):=fun w =>
 (oQ h.ref (h.four x) (h.four y) w).mono (by rintro e w' ⟨v,rfl,hb,hF⟩;exact⟨_,rfl,hb,hF.nv⟩)
theorem jG(h:Fl3 P)(x y:Fin P):Gives 100 #[rv0,fv x,fv y] (fv (x-y)):=fun w =>
 (EN _ _ _ _ _ _ _ _ P _ _ x.val y.val h.ref (h.four x) (h.four y) y.isLt w).mono (by rintro e w' ⟨v,rfl,hb,hF⟩;rw[jC]at hF;exact⟨_,rfl,hb,hF.nv⟩)
theorem J9(h:Fl3 P)(x:Fin P):Gives 147 #[rv0,fv x] (fv (0-x)):=fun w =>
 (rP _ _ _ _ _ _ _ _ P _ x.val h.ref (h.four x) x.isLt w).mono (by
  rintro e w' ⟨v,rfl,hb,hF⟩;rw[show(P-x.val)%P=(0-x:Fin P).val by rw[<-jC,EC.val_zero,Om]]at hF;exact⟨_,rfl,hb,hF.nv⟩)
theorem ER(h:Fl3 P)(x:Fin P):Gives 82 #[rv0,fv x] (fv (EC.inv x)):=fun w =>
 (ES _ _ _ _ _ _ _ _ P _ x.val h.ref (h.four x) w).mono (by rintro e w' ⟨v,rfl,hb,hF⟩;exact⟨_,rfl,hb,hF.nv⟩)
theorem Hp(h:Fl3 P){x:Fin P}(e:x=0):Gives 98 #[fv x] (.bool true):=fun w =>
 (oO _ _ (h.four x) w).mono (by
  rintro e w' ⟨v,rfl,hb,rfl⟩;refine⟨_,rfl,hb,?_⟩;rw[decide_eq_true (by rw[e,EC.val_zero])])
theorem BZ(h:Fl3 P){x:Fin P}(e:¬x=0):Gives 98 #[fv x] (.bool false):=fun w =>
 (oO _ _ (h.four x) w).mono (by
  rintro e w' ⟨v,rfl,hb,rfl⟩;refine⟨_,rfl,hb,?_⟩;rw[decide_eq_false (fun h=>e (RS (by rw[EC.val_zero];exact h)))])
theorem oP(h:Fl3 P):Gives 145 #[.int .u64 1] (fv (1:Fin P)):=fun w =>
 (mG 1 (by decide) w).mono (by rintro e w' ⟨v,rfl,hb,rfl⟩;exact⟨_,rfl,hb,v9 h.toFld⟩)
theorem uF(h:Fl3 P):Gives 145 #[.int .u64 7] (fv (7:Fin P)):=fun w =>
 (mG 7 (by decide) w).mono (by rintro e w' ⟨v,rfl,hb,rfl⟩;exact⟨_,rfl,hb,rE h.toFld⟩)
theorem eqR(h:Fld P)(x y:Fin P)(w:World):(binOp .eql 52 (fv x) (fv y)).run prog w=.ok (.bool (decide (x=y))) w:=by
 have h1:(binOp .eql 52 (fv x) (fv y)).run prog w=.ok (.bool (decide (x.val%18446744073709551616=y.val%18446744073709551616/\x.val/18446744073709551616%18446744073709551616=y.val/18446744073709551616%18446744073709551616/\x.val/340282366920938463463374607431768211456%18446744073709551616=y.val/340282366920938463463374607431768211456%18446744073709551616/\x.val/6277101735386680763835789423207666416102355444464034512896%18446744073709551616=y.val/6277101735386680763835789423207666416102355444464034512896%18446744073709551616))) w:=by
  show(binOp .eql 52 (.agg _) (.agg _)).run prog w=_;rw[run_eql_struct];have h2:=Jr 9998 (x.val%18446744073709551616) (x.val/18446744073709551616%18446744073709551616) (x.val/340282366920938463463374607431768211456%18446744073709551616) (x.val/6277101735386680763835789423207666416102355444464034512896%18446744073709551616) (y.val%18446744073709551616) (y.val/18446744073709551616%18446744073709551616) (y.val/340282366920938463463374607431768211456%18446744073709551616) (y.val/6277101735386680763835789423207666416102355444464034512896%18446744073709551616) w;unfold wn;rw[h2,Pe]
 rw[h1];simp only[oJ (h.top x) (h.top y),<-UG]
theorem Cq(h:Fld P){x y:Fin P}(e:x=y)(w:World):(binOp .eql 52 (fv x) (fv y)).run prog w=.ok (.bool true) w:=by rw[eqR h,decide_eq_true e]
theorem Fu(h:Fld P){x y:Fin P}(e:¬x=y)(w:World):(binOp .eql 52 (fv x) (fv y)).run prog w=.ok (.bool false) w:=by rw[eqR h,decide_eq_false e]
theorem neR(h:Fld P)(x y:Fin P)(w:World):(binOp .neq 52 (fv x) (fv y)).run prog w=.ok (.bool (!decide (x=y))) w:=by
 have h1:(binOp .neq 52 (fv x) (fv y)).run prog w=.ok (.bool (!decide (x.val%18446744073709551616=y.val%18446744073709551616/\x.val/18446744073709551616%18446744073709551616=y.val/18446744073709551616%18446744073709551616/\x.val/340282366920938463463374607431768211456%18446744073709551616=y.val/340282366920938463463374607431768211456%18446744073709551616/\x.val/6277101735386680763835789423207666416102355444464034512896%18446744073709551616=y.val/6277101735386680763835789423207666416102355444464034512896%18446744073709551616))) w:=Kv _ _ _ _ _ _ _ _ w;rw[h1];simp only[oJ (h.top x) (h.top y),<-UG]
theorem Mh(h:Fld P){x y:Fin P}(e:x=y)(w:World):(binOp .neq 52 (fv x) (fv y)).run prog w=.ok (.bool false) w:=by rw[neR h,decide_eq_true e];rfl
theorem Mg(h:Fld P){x y:Fin P}(e:¬x=y)(w:World):(binOp .neq 52 (fv x) (fv y)).run prog w=.ok (.bool true) w:=by rw[neR h,decide_eq_false e];rfl
theorem Gv:O8 #[.int .u64 0,.int .u64 0,.int .u64 0,.int .u64 0,.int .u64 1,.int .u64 0,.int .u64 0,.int .u64 0,.int .u64 0,.int .u64 0,.int .u64 0,.int .u64 0]=.agg (([.int .u64 0,.int .u64 0,.int .u64 0,.int .u64 0]:List Value)++(([.int .u64 1,.int .u64 0,.int .u64 0,.int .u64 0]:List Value)++([.int .u64 0,.int .u64 0,.int .u64 0,.int .u64 0]:List Value))).toArray:=rfl
theorem Bq(h:Fld P)(w:World):(SA 60 #[(1,fv (1:Fin P))]).run prog w=.ok (rv (0:Fin P) 1 0) w:=by
 unfold rv;rw[<-qF,<-JO h,<-v9 h,<-Gv];kernel_rfl
theorem Ht(h:Fl3 P){m y:Fin P}(e:rt m=some y):Gives 146 #[rv0,fv m] (.tuple #[fv y,.bool true]):=fun w =>
 (uE _ _ _ _ _ _ _ _ P _ m.val h.ref h.p4 (h.four m) w).mono (by rintro e' w' ⟨v,rfl,hb,hF⟩;exact⟨_,rfl,hb,hF.val.1 y e⟩)
theorem Hu(h:Fl3 P){m:Fin P}(e:rt m=none):Gives 146 #[rv0,fv m] (.tuple #[fv (0:Fin P),.bool false]):=fun w =>
 (uE _ _ _ _ _ _ _ _ P _ m.val h.ref h.p4 (h.four m) w).mono (by rintro e' w' ⟨v,rfl,hb,hF⟩;exact⟨_,rfl,hb,hF.val.2 e⟩)
theorem u33:(prog.underlying 52).map (·.isRow)=some true:=by kernel_rfl
theorem i33:(prog.info? 52).map (·.size)=some 4:=by kernel_rfl
theorem u56:(prog.underlying 60).map (·.isRow)=some true:=by kernel_rfl
theorem i56:(prog.info? 60).map (·.size)=some 12:=by kernel_rfl
theorem u35:(prog.underlying 56).map (·.isRow)=some true:=by kernel_rfl
theorem i35:(prog.info? 56).map (·.size)=some 8:=by kernel_rfl
theorem bD:Gives 81 #[] rv0:=by
 intro w;go_enter Tryz.func81,Tryz.ntmps81;refine RG.M.enter [] 2 (by kernel_rfl) ?_;intro a0 M0;repeat refine wp_seq ?_
 refine M0.t [.m 0 [] 0] [(0,(RG.z 8))] [] [(RG.z 8)] [(0,(.p 0 0))] ⟨RG.mk 0 56,trivial⟩ ?_;intro j1 a1 w1 M1;repeat refine wp_seq ?_
 refine M1.t [.c 1 [] rv0,.u [(1,0)] 0] [] [(0,1,rl0)] [rl0] [(0,(.p 0 0))] ⟨RG.cl (Hy),RG.pt i35,trivial⟩ ?_;intro a2 w2 M2;refine wp_ret ?_;refine bodyPost_ret (v:=rv0) (RG.aF M2.st 0 56 rfl 0 _ rfl (M2.at (s:=(.p 0 0))) u35 i35) M2.sl.defers ?_;exact⟨_,rfl,M2.st.bel.below,rfl⟩
theorem BE(C:Fl3 P):Gives 95 #[] (rv (0:Fin P) 1 0):=by
 intro w;have hfin:((rv (0:Fin P) (1:Fin P) (0:Fin P)):Value)=(rv (0:Fin P) 1 0):=by
  subst_vars;rfl
 rw[<-hfin];go_enter Tryz.func95,Tryz.ntmps95;refine RG.M.enter [] 3 (by kernel_rfl) ?_;intro a0 M0;repeat refine wp_seq ?_
 refine M0.t [.m 0 [] 0] [(0,(RG.z 12))] [] [(RG.z 12)] [(0,(.p 0 0))] ⟨RG.mk 0 60,trivial⟩ ?_;intro j1 a1 w1 M1;repeat refine wp_seq ?_
 refine M1.t [.c 1 [] (fv (1:Fin P)),.x 2 [(1,0)] (rv (0:Fin P) (1:Fin P) (0:Fin P)),.u [(2,1)] 0] [] [(0,2,(ws (0:Fin P)++(ws (1:Fin P)++(ws (0:Fin P)))))] [(ws (0:Fin P)++(ws (1:Fin P)++(ws (0:Fin P))))] [(0,(.p 0 0))] ⟨RG.cl (oP C),RG.zK rfl 60 1 1 rfl (fv (1:Fin P)) (rv (0:Fin P) (1:Fin P) (0:Fin P)) rfl RG.sx (Bq C.toFld),RG.pt i56,trivial⟩ ?_;intro a2 w2 M2;refine wp_ret ?_;refine bodyPost_ret (v:=(rv (0:Fin P) (1:Fin P) (0:Fin P))) (RG.aF M2.st 0 60 rfl 0 _ rfl (M2.at (s:=(.p 0 0))) u56 i56) M2.sl.defers ?_;exact⟨_,rfl,M2.st.bel.below,rfl⟩
theorem mN(C:Fl3 P)(x y z:Fin P)(hz:z=0):Gives 80 #[(rv x y z)] (.bool true):=by
 intro w;go_enter Tryz.func80,Tryz.ntmps80;refine RG.M.enter [(0,(.v (rv x y z)))] 6 (by kernel_rfl) ?_;intro a0 M0;repeat refine wp_seq ?_
 refine M0.t [.m 1 [] 0,.x 2 [] (.bool false)] [(0,(ws x++(ws y++(ws z))))] [] [(ws x++(ws y++(ws z)))] [(1,(.p 0 0)),(2,(.v (.bool false)))] ⟨RG.mk 0 60,RG.st,trivial⟩ ?_;intro j1 a1 w1 M1;repeat refine wp_seq ?_
 refine M1.u [.s 3 [] (.p 0 8),.x 4 [(3,0)] (fv z),.c 5 [(4,1)] (.bool true),.x 2 [(5,2)] (.bool true)] [(2,(.v (.bool true)))] ⟨RG.st,RG.ld u33 i33,RG.cl (Hp C hz),RG.st,trivial⟩ ?_;intro a2 w2 M2;refine wp_ret ?_;refine bodyPost_ret (v:=(.bool true)) (RG.aV 2 rfl _ (M2.at (s:=(.v (.bool true))))) M2.sl.defers ?_;exact⟨_,rfl,M2.st.bel.below,rfl⟩
theorem fN(C:Fl3 P)(x y z:Fin P)(hz:¬z=0):Gives 80 #[(rv x y z)] (.bool false):=by
 intro w;go_enter Tryz.func80,Tryz.ntmps80;refine RG.M.enter [(0,(.v (rv x y z)))] 6 (by kernel_rfl) ?_;intro a0 M0;repeat refine wp_seq ?_
 refine M0.t [.m 1 [] 0,.x 2 [] (.bool false)] [(0,(ws x++(ws y++(ws z))))] [] [(ws x++(ws y++(ws z)))] [(1,(.p 0 0)),(2,(.v (.bool false)))] ⟨RG.mk 0 60,RG.st,trivial⟩ ?_;intro j1 a1 w1 M1;repeat refine wp_seq ?_
 refine M1.u [.s 3 [] (.p 0 8),.x 4 [(3,0)] (fv z),.c 5 [(4,1)] (.bool false),.x 2 [(5,2)] (.bool false)] [(2,(.v (.bool false)))] ⟨RG.st,RG.ld u33 i33,RG.cl (BZ C hz),RG.st,trivial⟩ ?_;intro a2 w2 M2;refine wp_ret ?_;refine bodyPost_ret (v:=(.bool false)) (RG.aV 2 rfl _ (M2.at (s:=(.v (.bool false))))) M2.sl.defers ?_;exact⟨_,rfl,M2.st.bel.below,rfl⟩
theorem Df(C:Fl3 P)(x y z:Fin P):Gives 99 #[(rv x y z)] (rv ((EC.fdE y z)*(EC.fdT x y z)) ((EC.fdD x)*(x*((EC.fdE y z)*(EC.fdE y z))-(EC.fdT x y z))-y*((EC.fdE y z)*(EC.fdE y z)*(EC.fdE y z))) ((EC.fdE y z)*(EC.fdE y z)*(EC.fdE y z)*z)):=by
 intro w;obtain⟨c1,hc1⟩:∃c,c=x*x:=⟨_,rfl⟩
 obtain⟨c2,hc2⟩:∃c,c=c1+c1:=⟨_,rfl⟩
 obtain⟨c3,hc3⟩:∃c,c=c2+c1:=⟨_,rfl⟩
 obtain⟨c4,hc4⟩:∃c,c=y+y:=⟨_,rfl⟩
 obtain⟨c5,hc5⟩:∃c,c=c4*z:=⟨_,rfl⟩
 obtain⟨c6,hc6⟩:∃c,c=c5*c5:=⟨_,rfl⟩
 obtain⟨c7,hc7⟩:∃c,c=c6*c5:=⟨_,rfl⟩
 obtain⟨c8,hc8⟩:∃c,c=c3*c3:=⟨_,rfl⟩
 obtain⟨c9,hc9⟩:∃c,c=c8*z:=⟨_,rfl⟩
 obtain⟨c10,hc10⟩:∃c,c=x+x:=⟨_,rfl⟩
 obtain⟨c11,hc11⟩:∃c,c=c10*c6:=⟨_,rfl⟩
 obtain⟨c12,hc12⟩:∃c,c=c9-c11:=⟨_,rfl⟩
 obtain⟨c13,hc13⟩:∃c,c=c5*c12:=⟨_,rfl⟩
 obtain⟨c14,hc14⟩:∃c,c=x*c6:=⟨_,rfl⟩
 obtain⟨c15,hc15⟩:∃c,c=c14-c12:=⟨_,rfl⟩
 obtain⟨c16,hc16⟩:∃c,c=c3*c15:=⟨_,rfl⟩
 obtain⟨c17,hc17⟩:∃c,c=y*c7:=⟨_,rfl⟩
 obtain⟨c18,hc18⟩:∃c,c=c16-c17:=⟨_,rfl⟩
 obtain⟨c19,hc19⟩:∃c,c=c7*z:=⟨_,rfl⟩
 have hfin:((rv c13 c18 c19):Value)=(rv ((EC.fdE y z)*(EC.fdT x y z)) ((EC.fdD x)*(x*((EC.fdE y z)*(EC.fdE y z))-(EC.fdT x y z))-y*((EC.fdE y z)*(EC.fdE y z)*(EC.fdE y z))) ((EC.fdE y z)*(EC.fdE y z)*(EC.fdE y z)*z)):=by
  subst_vars;rfl
 rw[<-hfin];go_enter Tryz.func99,Tryz.ntmps99;refine RG.M.enter [(0,(.v (rv x y z)))] 91 (by kernel_rfl) ?_;intro a0 M0;repeat refine wp_seq ?_
 refine M0.t [.m 1 [] 0,.m 2 [] 1] [(0,(ws x++(ws y++(ws z)))),(1,(RG.z 12))] [] [(ws x++(ws y++(ws z))),(RG.z 12)] [(1,(.p 0 0)),(2,(.p 1 0))] ⟨RG.mk 0 60,RG.mk 1 60,trivial⟩ ?_;intro j1 i1 a1 w1 M1;repeat refine wp_seq ?_
 refine M1.d [.c 11 [] rv0,.s 12 [] (.p 0 0),.x 13 [(12,1)] (fv x),.s 14 [] (.p 0 0),.x 15 [(14,3)] (fv x),.c 16 [(11,0),(13,2),(15,4)] (fv c1),.m 3 [] 2,.u [(3,6),(16,5)] 2] [(6,(RG.z 4))] [(2,7,(ws c1))] [(ws x++(ws y++(ws z))),(RG.z 12),(ws c1)] [(1,(.p 0 0)),(2,(.p 1 0)),(3,(.p 2 0))] ⟨RG.cl (bD),RG.st,RG.ld u33 i33,RG.st,RG.ld u33 i33,RG.cl ((aQ C x x).e hc1),RG.mk 2 52,RG.pt i33,trivial⟩ ?_;intro j2 a2 w2 M2;repeat refine wp_seq ?_
 refine M2.d [.c 17 [] rv0,.c 18 [] rv0,.x 19 [] (fv c1),.x 20 [] (fv c1),.c 21 [(18,1),(19,2),(20,3)] (fv c2),.x 22 [] (fv c1),.c 23 [(17,0),(21,4),(22,5)] (fv c3),.m 4 [] 3,.u [(4,7),(23,6)] 3] [(7,(RG.z 4))] [(3,8,(ws c3))] [(ws x++(ws y++(ws z))),(RG.z 12),(ws c1),(ws c3)] [(1,(.p 0 0)),(2,(.p 1 0)),(4,(.p 3 0))] ⟨RG.cl (bD),RG.cl (bD),RG.ld u33 i33,RG.ld u33 i33,RG.cl ((mH C c1 c1).e hc2),RG.ld u33 i33,RG.cl ((mH C c2 c1).e hc3),RG.mk 3 52,RG.pt i33,trivial⟩ ?_;intro j3 a3 w3 M3;repeat refine wp_seq ?_
 refine M3.d [.c 24 [] rv0,.c 25 [] rv0,.s 26 [] (.p 0 4),.x 27 [(26,2)] (fv y),.s 28 [] (.p 0 4),.x 29 [(28,4)] (fv y),.c 30 [(25,1),(27,3),(29,5)] (fv c4),.s 31 [] (.p 0 8),.x 32 [(31,7)] (fv z),.c 33 [(24,0),(30,6),(32,8)] (fv c5),.m 5 [] 4,.u [(5,10),(33,9)] 4] [(10,(RG.z 4))] [(4,11,(ws c5))] [(ws x++(ws y++(ws z))),(RG.z 12),(ws c1),(ws c3),(ws c5)] [(1,(.p 0 0)),(2,(.p 1 0)),(4,(.p 3 0)),(5,(.p 4 0))] ⟨RG.cl (bD),RG.cl (bD),RG.st,RG.ld u33 i33,RG.st,RG.ld u33 i33,RG.cl ((mH C y y).e hc4),RG.st,RG.ld u33 i33,RG.cl ((aQ C c4 z).e hc5),RG.mk 4 52,RG.pt i33,trivial⟩ ?_;intro j4 a4 w4 M4;repeat refine wp_seq ?_
 refine M4.d [.c 34 [] rv0,.x 35 [] (fv c5),.x 36 [] (fv c5),.c 37 [(34,0),(35,1),(36,2)] (fv c6),.m 6 [] 5,.u [(6,4),(37,3)] 5] [(4,(RG.z 4))] [(5,5,(ws c6))] [(ws x++(ws y++(ws z))),(RG.z 12),(ws c1),(ws c3),(ws c5),(ws c6)] [(1,(.p 0 0)),(2,(.p 1 0)),(4,(.p 3 0)),(5,(.p 4 0)),(6,(.p 5 0))] ⟨RG.cl (bD),RG.ld u33 i33,RG.ld u33 i33,RG.cl ((aQ C c5 c5).e hc6),RG.mk 5 52,RG.pt i33,trivial⟩ ?_;intro j5 a5 w5 M5;repeat refine wp_seq ?_
 refine M5.d [.c 38 [] rv0,.x 39 [] (fv c6),.x 40 [] (fv c5),.c 41 [(38,0),(39,1),(40,2)] (fv c7),.m 7 [] 6,.u [(7,4),(41,3)] 6] [(4,(RG.z 4))] [(6,5,(ws c7))] [(ws x++(ws y++(ws z))),(RG.z 12),(ws c1),(ws c3),(ws c5),(ws c6),(ws c7)] [(1,(.p 0 0)),(2,(.p 1 0)),(4,(.p 3 0)),(5,(.p 4 0)),(6,(.p 5 0)),(7,(.p 6 0))] ⟨RG.cl (bD),RG.ld u33 i33,RG.ld u33 i33,RG.cl ((aQ C c6 c5).e hc7),RG.mk 6 52,RG.pt i33,trivial⟩ ?_;intro j6 a6 w6 M6;repeat refine wp_seq ?_
 refine M6.d [.c 42 [] rv0,.c 43 [] rv0,.c 44 [] rv0,.x 45 [] (fv c3),.x 46 [] (fv c3),.c 47 [(44,2),(45,3),(46,4)] (fv c8),.s 48 [] (.p 0 8),.x 49 [(48,6)] (fv z),.c 50 [(43,1),(47,5),(49,7)] (fv c9),.c 51 [] rv0,.c 52 [] rv0,.s 53 [] (.p 0 0),.x 54 [(53,11)] (fv x),.s 55 [] (.p 0 0),.x 56 [(55,13)] (fv x),.c 57 [(52,10),(54,12),(56,14)] (fv c10),.x 58 [] (fv c6),.c 59 [(51,9),(57,15),(58,16)] (fv c11),.c 60 [(42,0),(50,8),(59,17)] (fv c12),.m 8 [] 7,.u [(8,19),(60,18)] 7] [(19,(RG.z 4))] [(7,20,(ws c12))] [(ws x++(ws y++(ws z))),(RG.z 12),(ws c1),(ws c3),(ws c5),(ws c6),(ws c7),(ws c12)] [(1,(.p 0 0)),(2,(.p 1 0)),(4,(.p 3 0)),(5,(.p 4 0)),(6,(.p 5 0)),(7,(.p 6 0)),(8,(.p 7 0))] ⟨RG.cl (bD),RG.cl (bD),RG.cl (bD),RG.ld u33 i33,RG.ld u33 i33,RG.cl ((aQ C c3 c3).e hc8),RG.st,RG.ld u33 i33,RG.cl ((aQ C c8 z).e hc9),RG.cl (bD),RG.cl (bD),RG.st,RG.ld u33 i33,RG.st,RG.ld u33 i33,RG.cl ((mH C x x).e hc10),RG.ld u33 i33,RG.cl ((aQ C c10 c6).e hc11),RG.cl ((jG C c9 c11).e hc12),RG.mk 7 52,RG.pt i33,trivial⟩ ?_;intro j7 a7 w7 M7;repeat refine wp_seq ?_
 refine M7.d [.c 61 [] rv0,.x 62 [] (fv c5),.x 63 [] (fv c12),.c 64 [(61,0),(62,1),(63,2)] (fv c13),.m 9 [] 8,.u [(9,4),(64,3)] 8] [(4,(RG.z 4))] [(8,5,(ws c13))] [(ws x++(ws y++(ws z))),(RG.z 12),(ws c1),(ws c3),(ws c5),(ws c6),(ws c7),(ws c12),(ws c13)] [(1,(.p 0 0)),(2,(.p 1 0)),(4,(.p 3 0)),(6,(.p 5 0)),(7,(.p 6 0)),(8,(.p 7 0)),(9,(.p 8 0))] ⟨RG.cl (bD),RG.ld u33 i33,RG.ld u33 i33,RG.cl ((aQ C c5 c12).e hc13),RG.mk 8 52,RG.pt i33,trivial⟩ ?_;intro j8 a8 w8 M8;repeat refine wp_seq ?_
 refine M8.d [.c 65 [] rv0,.c 66 [] rv0,.x 67 [] (fv c3),.c 68 [] rv0,.c 69 [] rv0,.s 70 [] (.p 0 0),.x 71 [(70,5)] (fv x),.x 72 [] (fv c6),.c 73 [(69,4),(71,6),(72,7)] (fv c14),.x 74 [] (fv c12),.c 75 [(68,3),(73,8),(74,9)] (fv c15),.c 76 [(66,1),(67,2),(75,10)] (fv c16),.c 77 [] rv0,.s 78 [] (.p 0 4),.x 79 [(78,13)] (fv y),.x 80 [] (fv c7),.c 81 [(77,12),(79,14),(80,15)] (fv c17),.c 82 [(65,0),(76,11),(81,16)] (fv c18),.m 10 [] 9,.u [(10,18),(82,17)] 9] [(18,(RG.z 4))] [(9,19,(ws c18))] [(ws x++(ws y++(ws z))),(RG.z 12),(ws c1),(ws c3),(ws c5),(ws c6),(ws c7),(ws c12),(ws c13),(ws c18)] [(1,(.p 0 0)),(2,(.p 1 0)),(7,(.p 6 0)),(9,(.p 8 0)),(10,(.p 9 0))] ⟨RG.cl (bD),RG.cl (bD),RG.ld u33 i33,RG.cl (bD),RG.cl (bD),RG.st,RG.ld u33 i33,RG.ld u33 i33,RG.cl ((aQ C x c6).e hc14),RG.ld u33 i33,RG.cl ((jG C c14 c12).e hc15),RG.cl ((aQ C c3 c15).e hc16),RG.cl (bD),RG.st,RG.ld u33 i33,RG.ld u33 i33,RG.cl ((aQ C y c7).e hc17),RG.cl ((jG C c16 c17).e hc18),RG.mk 9 52,RG.pt i33,trivial⟩ ?_;intro j9 a9 w9 M9;repeat refine wp_seq ?_
 refine M9.d [.x 83 [] (fv c13),.x 84 [] (fv c18),.c 85 [] rv0,.x 86 [] (fv c7),.s 87 [] (.p 0 8),.x 88 [(87,4)] (fv z),.c 89 [(85,2),(86,3),(88,5)] (fv c19),.x 90 [(83,0),(84,1),(89,6)] (rv c13 c18 c19),.u [(90,7)] 1] [] [(1,8,(ws c13++(ws c18++(ws c19))))] [(ws x++(ws y++(ws z))),(ws c13++(ws c18++(ws c19))),(ws c1),(ws c3),(ws c5),(ws c6),(ws c7),(ws c12),(ws c13),(ws c18)] [(2,(.p 1 0))] ⟨RG.ld u33 i33,RG.ld u33 i33,RG.cl (bD),RG.ld u33 i33,RG.st,RG.ld u33 i33,RG.cl ((aQ C c7 z).e hc19),RG.st,RG.pt i56,trivial⟩ ?_;intro a10 w10 M10;refine wp_ret ?_;refine bodyPost_ret (v:=(rv c13 c18 c19)) (RG.aF M10.st 2 60 rfl 1 _ rfl (M10.at (s:=(.p 1 0))) u56 i56) M10.sl.defers ?_;exact⟨_,rfl,M10.st.bel.below,rfl⟩
theorem Hx(C:Fl3 P)(x y z:Fin P):Gives 97 #[(rv x y z)] (rv x (0-y) z):=by
 intro w;obtain⟨c1,hc1⟩:∃c,c=0-y:=⟨_,rfl⟩
 have hfin:((rv x c1 z):Value)=(rv x (0-y) z):=by
  subst_vars;rfl
 rw[<-hfin];go_enter Tryz.func97,Tryz.ntmps97;refine RG.M.enter [(0,(.v (rv x y z)))] 12 (by kernel_rfl) ?_;intro a0 M0;repeat refine wp_seq ?_
 refine M0.t [.m 1 [] 0,.m 2 [] 1] [(0,(ws x++(ws y++(ws z)))),(1,(RG.z 12))] [] [(ws x++(ws y++(ws z))),(RG.z 12)] [(1,(.p 0 0)),(2,(.p 1 0))] ⟨RG.mk 0 60,RG.mk 1 60,trivial⟩ ?_;intro j1 i1 a1 w1 M1;repeat refine wp_seq ?_
 refine M1.d [.s 3 [] (.p 0 0),.x 4 [(3,0)] (fv x),.c 5 [] rv0,.s 6 [] (.p 0 4),.x 7 [(6,3)] (fv y),.c 8 [(5,2),(7,4)] (fv c1),.s 9 [] (.p 0 8),.x 10 [(9,6)] (fv z),.x 11 [(4,1),(8,5),(10,7)] (rv x c1 z),.u [(11,8)] 1] [] [(1,9,(ws x++(ws c1++(ws z))))] [(ws x++(ws y++(ws z))),(ws x++(ws c1++(ws z)))] [(2,(.p 1 0))] ⟨RG.st,RG.ld u33 i33,RG.cl (bD),RG.st,RG.ld u33 i33,RG.cl ((J9 C y).e hc1),RG.st,RG.ld u33 i33,RG.st,RG.pt i56,trivial⟩ ?_;intro a2 w2 M2;refine wp_ret ?_;refine bodyPost_ret (v:=(rv x c1 z)) (RG.aF M2.st 2 60 rfl 1 _ rfl (M2.at (s:=(.p 1 0))) u56 i56) M2.sl.defers ?_;exact⟨_,rfl,M2.st.bel.below,rfl⟩
theorem Aw(C:Fl3 P)(x1 y1 z1 x2 y2 z2:Fin P)(R:Value)(ha:z1=0->R=(rv x2 y2 z2))(hb:¬z1=0->z2=0->R=(rv x1 y1 z1))(hd:¬z1=0->¬z2=0->x2*z1=x1*z2->(¬y2*z1=y1*z2/\R=(rv (0:Fin P) 1 0))\/(y2*z1=y1*z2/\¬y2*z1=0/\R=(rv ((EC.fdE y1 z1)*(EC.fdT x1 y1 z1)) ((EC.fdD x1)*(x1*((EC.fdE y1 z1)*(EC.fdE y1 z1))-(EC.fdT x1 y1 z1))-y1*((EC.fdE y1 z1)*(EC.fdE y1 z1)*(EC.fdE y1 z1))) ((EC.fdE y1 z1)*(EC.fdE y1 z1)*(EC.fdE y1 z1)*z1))))(he:¬z1=0->¬z2=0->¬x2*z1=x1*z2->R=(rv ((x2*z1-x1*z2)*EC.frT (y2*z1-y1*z2) (x2*z1-x1*z2) (z1*z2) (x1*z2)) ((y2*z1-y1*z2)*(x1*z2*((x2*z1-x1*z2)*(x2*z1-x1*z2))-EC.frT (y2*z1-y1*z2) (x2*z1-x1*z2) (z1*z2) (x1*z2))-y1*z2*((x2*z1-x1*z2)*(x2*z1-x1*z2)*(x2*z1-x1*z2))) ((x2*z1-x1*z2)*(x2*z1-x1*z2)*(x2*z1-x1*z2)*(z1*z2)))):Gives 42 #[(rv x1 y1 z1),(rv x2 y2 z2)] R:=by
 intro w;obtain⟨c1,hc1⟩:∃c,c=y2*z1:=⟨_,rfl⟩
 obtain⟨c2,hc2⟩:∃c,c=x2*z1:=⟨_,rfl⟩
 obtain⟨c3,hc3⟩:∃c,c=y1*z2:=⟨_,rfl⟩
 obtain⟨c4,hc4⟩:∃c,c=x1*z2:=⟨_,rfl⟩
 go_enter Tryz.func42,Tryz.ntmps42;refine RG.M.enter [(0,(.v (rv x1 y1 z1))),(1,(.v (rv x2 y2 z2)))] 127 (by kernel_rfl) ?_;intro a0 M0;repeat refine wp_seq ?_
 refine M0.t [.m 2 [] 0,.m 3 [] 1,.m 4 [] 2] [(0,(ws x1++(ws y1++(ws z1)))),(1,(ws x2++(ws y2++(ws z2)))),(2,(RG.z 12))] [] [(ws x1++(ws y1++(ws z1))),(ws x2++(ws y2++(ws z2))),(RG.z 12)] [(2,(.p 0 0)),(3,(.p 1 0)),(4,(.p 2 0))] ⟨RG.mk 0 60,RG.mk 1 60,RG.mk 2 60,trivial⟩ ?_;intro j1 i1 m1 a1 w1 M1;repeat refine wp_seq ?_
 by_cases hz1:z1=0
 ·obtain rfl:=ha hz1;refine M1.u [.x 16 [] (rv x1 y1 z1),.c 17 [(16,0)] (.bool true),.x 5 [(17,1)] (.bool true)] [(3,(.p 1 0)),(4,(.p 2 0)),(5,(.v (.bool true)))] ⟨RG.ld u56 i56,RG.cl (mN C x1 y1 z1 hz1),RG.st,trivial⟩ ?_;intro a2 w2 M2;repeat refine wp_seq ?_
  refine M2.u [.x 18 [] (.bool true)] [(3,(.p 1 0)),(4,(.p 2 0)),(18,(.v (.bool true)))] ⟨RG.st,trivial⟩ ?_;intro a3 w3 M3;repeat refine wp_seq ?_
  refine wp_cond_true M3.ev ?_;repeat refine wp_seq ?_
  refine M3.t [.x 19 [] (rv x2 y2 z2),.u [(19,0)] 2] [] [(2,1,(ws x2++(ws y2++(ws z2))))] [(ws x1++(ws y1++(ws z1))),(ws x2++(ws y2++(ws z2))),(ws x2++(ws y2++(ws z2)))] [(4,(.p 2 0))] ⟨RG.ld u56 i56,RG.pt i56,trivial⟩ ?_;intro a4 w4 M4;refine wp_ret ?_;refine bodyPost_ret (v:=(rv x2 y2 z2)) (RG.aF M4.st 4 60 rfl 2 _ rfl (M4.at (s:=(.p 2 0))) u56 i56) M4.sl.defers ?_;exact⟨_,rfl,M4.st.bel.below,rfl⟩
 refine M1.u [.x 16 [] (rv x1 y1 z1),.c 17 [(16,0)] (.bool false),.x 5 [(17,1)] (.bool false)] [(2,(.p 0 0)),(3,(.p 1 0)),(4,(.p 2 0)),(5,(.v (.bool false)))] ⟨RG.ld u56 i56,RG.cl (fN C x1 y1 z1 hz1),RG.st,trivial⟩ ?_;intro a2 w2 M2;repeat refine wp_seq ?_
 refine M2.u [.x 18 [] (.bool false)] [(2,(.p 0 0)),(3,(.p 1 0)),(4,(.p 2 0)),(5,(.v (.bool false))),(18,(.v (.bool false)))] ⟨RG.st,trivial⟩ ?_;intro a3 w3 M3;repeat refine wp_seq ?_
 refine wp_cond_false M3.ev ?_;refine wp_skip ?_;repeat refine wp_seq ?_
 by_cases hz2:z2=0
 ·obtain rfl:=hb hz1 hz2;refine M3.u [.x 20 [] (rv x2 y2 z2),.c 21 [(20,0)] (.bool true),.x 5 [(21,1)] (.bool true)] [(2,(.p 0 0)),(4,(.p 2 0)),(5,(.v (.bool true)))] ⟨RG.ld u56 i56,RG.cl (mN C x2 y2 z2 hz2),RG.st,trivial⟩ ?_;intro a4 w4 M4;repeat refine wp_seq ?_
  refine M4.u [.x 22 [] (.bool true)] [(2,(.p 0 0)),(4,(.p 2 0)),(22,(.v (.bool true)))] ⟨RG.st,trivial⟩ ?_;intro a5 w5 M5;repeat refine wp_seq ?_
  refine wp_cond_true M5.ev ?_;repeat refine wp_seq ?_
  refine M5.t [.x 23 [] (rv x1 y1 z1),.u [(23,0)] 2] [] [(2,1,(ws x1++(ws y1++(ws z1))))] [(ws x1++(ws y1++(ws z1))),(ws x2++(ws y2++(ws z2))),(ws x1++(ws y1++(ws z1)))] [(4,(.p 2 0))] ⟨RG.ld u56 i56,RG.pt i56,trivial⟩ ?_;intro a6 w6 M6;refine wp_ret ?_;refine bodyPost_ret (v:=(rv x1 y1 z1)) (RG.aF M6.st 4 60 rfl 2 _ rfl (M6.at (s:=(.p 2 0))) u56 i56) M6.sl.defers ?_;exact⟨_,rfl,M6.st.bel.below,rfl⟩
 refine M3.u [.x 20 [] (rv x2 y2 z2),.c 21 [(20,0)] (.bool false),.x 5 [(21,1)] (.bool false)] [(2,(.p 0 0)),(3,(.p 1 0)),(4,(.p 2 0)),(5,(.v (.bool false)))] ⟨RG.ld u56 i56,RG.cl (fN C x2 y2 z2 hz2),RG.st,trivial⟩ ?_;intro a4 w4 M4;repeat refine wp_seq ?_
 refine M4.u [.x 22 [] (.bool false)] [(2,(.p 0 0)),(3,(.p 1 0)),(4,(.p 2 0)),(22,(.v (.bool false)))] ⟨RG.st,trivial⟩ ?_;intro a5 w5 M5;repeat refine wp_seq ?_
 refine wp_cond_false M5.ev ?_;refine wp_skip ?_;repeat refine wp_seq ?_
 refine M5.d [.c 24 [] rv0,.s 25 [] (.p 1 4),.x 26 [(25,1)] (fv y2),.s 27 [] (.p 0 8),.x 28 [(27,3)] (fv z1),.c 29 [(24,0),(26,2),(28,4)] (fv c1),.m 6 [] 3,.u [(6,6),(29,5)] 3] [(6,(RG.z 4))] [(3,7,(ws c1))] [(ws x1++(ws y1++(ws z1))),(ws x2++(ws y2++(ws z2))),(RG.z 12),(ws c1)] [(2,(.p 0 0)),(3,(.p 1 0)),(4,(.p 2 0)),(6,(.p 3 0))] ⟨RG.cl (bD),RG.st,RG.ld u33 i33,RG.st,RG.ld u33 i33,RG.cl ((aQ C y2 z1).e hc1),RG.mk 3 52,RG.pt i33,trivial⟩ ?_;intro j6 a6 w6 M6;repeat refine wp_seq ?_
 refine M6.d [.c 30 [] rv0,.s 31 [] (.p 1 0),.x 32 [(31,1)] (fv x2),.s 33 [] (.p 0 8),.x 34 [(33,3)] (fv z1),.c 35 [(30,0),(32,2),(34,4)] (fv c2),.m 7 [] 4,.u [(7,6),(35,5)] 4] [(6,(RG.z 4))] [(4,7,(ws c2))] [(ws x1++(ws y1++(ws z1))),(ws x2++(ws y2++(ws z2))),(RG.z 12),(ws c1),(ws c2)] [(2,(.p 0 0)),(3,(.p 1 0)),(4,(.p 2 0)),(6,(.p 3 0)),(7,(.p 4 0))] ⟨RG.cl (bD),RG.st,RG.ld u33 i33,RG.st,RG.ld u33 i33,RG.cl ((aQ C x2 z1).e hc2),RG.mk 4 52,RG.pt i33,trivial⟩ ?_;intro j7 a7 w7 M7;repeat refine wp_seq ?_
 refine M7.d [.c 36 [] rv0,.s 37 [] (.p 0 4),.x 38 [(37,1)] (fv y1),.s 39 [] (.p 1 8),.x 40 [(39,3)] (fv z2),.c 41 [(36,0),(38,2),(40,4)] (fv c3),.m 8 [] 5,.u [(8,6),(41,5)] 5] [(6,(RG.z 4))] [(5,7,(ws c3))] [(ws x1++(ws y1++(ws z1))),(ws x2++(ws y2++(ws z2))),(RG.z 12),(ws c1),(ws c2),(ws c3)] [(2,(.p 0 0)),(3,(.p 1 0)),(4,(.p 2 0)),(6,(.p 3 0)),(7,(.p 4 0)),(8,(.p 5 0))] ⟨RG.cl (bD),RG.st,RG.ld u33 i33,RG.st,RG.ld u33 i33,RG.cl ((aQ C y1 z2).e hc3),RG.mk 5 52,RG.pt i33,trivial⟩ ?_;intro j8 a8 w8 M8;repeat refine wp_seq ?_
 refine M8.d [.c 42 [] rv0,.s 43 [] (.p 0 0),.x 44 [(43,1)] (fv x1),.s 45 [] (.p 1 8),.x 46 [(45,3)] (fv z2),.c 47 [(42,0),(44,2),(46,4)] (fv c4),.m 9 [] 6,.u [(9,6),(47,5)] 6] [(6,(RG.z 4))] [(6,7,(ws c4))] [(ws x1++(ws y1++(ws z1))),(ws x2++(ws y2++(ws z2))),(RG.z 12),(ws c1),(ws c2),(ws c3),(ws c4)] [(2,(.p 0 0)),(3,(.p 1 0)),(4,(.p 2 0)),(6,(.p 3 0)),(7,(.p 4 0)),(8,(.p 5 0)),(9,(.p 6 0))] ⟨RG.cl (bD),RG.st,RG.ld u33 i33,RG.st,RG.ld u33 i33,RG.cl ((aQ C x1 z2).e hc4),RG.mk 6 52,RG.pt i33,trivial⟩ ?_;intro j9 a9 w9 M9;repeat refine wp_seq ?_
 by_cases hv:x2*z1=x1*z2
 ·have hR:=hd hz1 hz2 hv;refine M9.u [.x 48 [] (fv c2),.x 49 [] (fv c4),.x 50 [(48,0),(49,1)] (.bool true)] [(2,(.p 0 0)),(4,(.p 2 0)),(6,(.p 3 0)),(8,(.p 5 0)),(50,(.v (.bool true)))] ⟨RG.ld u33 i33,RG.ld u33 i33,RG.aK rfl .eql 52 52 48 49 (fv c2) (fv c4) (.bool true) rfl rfl RG.sx RG.sx (fun w=>by kernel_rfl) (Cq C.toFld (by subst_vars;exact hv)),trivial⟩ ?_;intro a10 w10 M10;repeat refine wp_seq ?_
  refine wp_cond_true M10.ev ?_;repeat refine wp_seq ?_
  rcases hR with⟨hu,rfl⟩|⟨hu,hn,hR⟩
  ·refine M10.u [.x 51 [] (fv c1),.x 52 [] (fv c3),.x 53 [(51,0),(52,1)] (.bool true),.x 54 [(53,2)] (.bool true),⟨some 55,[],(.v undef),.pass⟩,⟨some 56,[],(.v undef),.pass⟩,.x 57 [(54,3),(56,5)] (.bool true)] [(4,(.p 2 0)),(57,(.v (.bool true)))] ⟨RG.ld u33 i33,RG.ld u33 i33,RG.aK rfl .neq 52 52 51 52 (fv c1) (fv c3) (.bool true) rfl rfl RG.sx RG.sx (fun w=>by kernel_rfl) (Mg C.toFld (by subst_vars;exact hu)),RG.st,RG.aJ rfl rfl,RG.aJ rfl rfl,RG.st,trivial⟩ ?_;intro a11 w11 M11;repeat refine wp_seq ?_
   refine wp_cond_true M11.ev ?_;repeat refine wp_seq ?_
   refine M11.t [.c 58 [] (rv (0:Fin P) (1:Fin P) (0:Fin P)),.u [(58,0)] 2] [] [(2,1,(ws (0:Fin P)++(ws (1:Fin P)++(ws (0:Fin P)))))] [(ws x1++(ws y1++(ws z1))),(ws x2++(ws y2++(ws z2))),(ws (0:Fin P)++(ws (1:Fin P)++(ws (0:Fin P)))),(ws c1),(ws c2),(ws c3),(ws c4)] [(4,(.p 2 0))] ⟨RG.cl (BE C),RG.pt i56,trivial⟩ ?_;intro a12 w12 M12;refine wp_ret ?_;refine bodyPost_ret (v:=(rv (0:Fin P) (1:Fin P) (0:Fin P))) (RG.aF M12.st 4 60 rfl 2 _ rfl (M12.at (s:=(.p 2 0))) u56 i56) M12.sl.defers ?_;exact⟨_,rfl,M12.st.bel.below,rfl⟩
  obtain⟨c5,hc5⟩:∃c,c=(EC.fdE y1 z1)*(EC.fdT x1 y1 z1):=⟨_,rfl⟩
  obtain⟨c6,hc6⟩:∃c,c=(EC.fdD x1)*(x1*((EC.fdE y1 z1)*(EC.fdE y1 z1))-(EC.fdT x1 y1 z1))-y1*((EC.fdE y1 z1)*(EC.fdE y1 z1)*(EC.fdE y1 z1)):=⟨_,rfl⟩
  obtain⟨c7,hc7⟩:∃c,c=(EC.fdE y1 z1)*(EC.fdE y1 z1)*(EC.fdE y1 z1)*z1:=⟨_,rfl⟩
  obtain rfl:R=rv c5 c6 c7:=hR.trans (by subst_vars;rfl);refine M10.u [.x 51 [] (fv c1),.x 52 [] (fv c3),.x 53 [(51,0),(52,1)] (.bool false),.x 54 [(53,2)] (.bool false),.x 55 [] (fv c1),.c 56 [(55,4)] (.bool false),.x 57 [(54,3),(56,5)] (.bool false)] [(2,(.p 0 0)),(4,(.p 2 0)),(57,(.v (.bool false)))] ⟨RG.ld u33 i33,RG.ld u33 i33,RG.aK rfl .neq 52 52 51 52 (fv c1) (fv c3) (.bool false) rfl rfl RG.sx RG.sx (fun w=>by kernel_rfl) (Mh C.toFld (by subst_vars;exact hu)),RG.st,RG.ld u33 i33,RG.cl (f:=98) (args:=#[(fv c1)]) (v:=(.bool false)) (BZ C (by subst_vars;exact hn)),RG.st,trivial⟩ ?_;intro a11 w11 M11;repeat refine wp_seq ?_
  refine wp_cond_false M11.ev ?_;refine wp_skip ?_;repeat refine wp_seq ?_
  refine M11.t [.x 59 [] (rv x1 y1 z1),.c 60 [(59,0)] (rv c5 c6 c7),.u [(60,1)] 2] [] [(2,2,(ws c5++(ws c6++(ws c7))))] [(ws x1++(ws y1++(ws z1))),(ws x2++(ws y2++(ws z2))),(ws c5++(ws c6++(ws c7))),(ws c1),(ws c2),(ws c3),(ws c4)] [(4,(.p 2 0))] ⟨RG.ld u56 i56,RG.cl ((Df C x1 y1 z1).e3 hc5 hc6 hc7),RG.pt i56,trivial⟩ ?_;intro a12 w12 M12;refine wp_ret ?_;refine bodyPost_ret (v:=(rv c5 c6 c7)) (RG.aF M12.st 4 60 rfl 2 _ rfl (M12.at (s:=(.p 2 0))) u56 i56) M12.sl.defers ?_;exact⟨_,rfl,M12.st.bel.below,rfl⟩
 have hR:=he hz1 hz2 hv;obtain⟨c5,hc5⟩:∃c,c=c1-c3:=⟨_,rfl⟩
 obtain⟨c6,hc6⟩:∃c,c=c2-c4:=⟨_,rfl⟩
 obtain⟨c7,hc7⟩:∃c,c=z1*z2:=⟨_,rfl⟩
 obtain⟨c8,hc8⟩:∃c,c=c6*c6:=⟨_,rfl⟩
 obtain⟨c9,hc9⟩:∃c,c=c8*c6:=⟨_,rfl⟩
 obtain⟨c10,hc10⟩:∃c,c=c5*c5:=⟨_,rfl⟩
 obtain⟨c11,hc11⟩:∃c,c=c10*c7:=⟨_,rfl⟩
 obtain⟨c12,hc12⟩:∃c,c=c11-c9:=⟨_,rfl⟩
 obtain⟨c13,hc13⟩:∃c,c=c4+c4:=⟨_,rfl⟩
 obtain⟨c14,hc14⟩:∃c,c=c13*c8:=⟨_,rfl⟩
 obtain⟨c15,hc15⟩:∃c,c=c12-c14:=⟨_,rfl⟩
 obtain⟨c16,hc16⟩:∃c,c=c6*c15:=⟨_,rfl⟩
 obtain⟨c17,hc17⟩:∃c,c=c4*c8:=⟨_,rfl⟩
 obtain⟨c18,hc18⟩:∃c,c=c17-c15:=⟨_,rfl⟩
 obtain⟨c19,hc19⟩:∃c,c=c5*c18:=⟨_,rfl⟩
 obtain⟨c20,hc20⟩:∃c,c=c3*c9:=⟨_,rfl⟩
 obtain⟨c21,hc21⟩:∃c,c=c19-c20:=⟨_,rfl⟩
 obtain⟨c22,hc22⟩:∃c,c=c9*c7:=⟨_,rfl⟩
 obtain rfl:R=rv c16 c21 c22:=hR.trans (by subst_vars;rfl);refine M9.u [.x 48 [] (fv c2),.x 49 [] (fv c4),.x 50 [(48,0),(49,1)] (.bool false)] [(2,(.p 0 0)),(3,(.p 1 0)),(4,(.p 2 0)),(6,(.p 3 0)),(7,(.p 4 0)),(8,(.p 5 0)),(9,(.p 6 0)),(50,(.v (.bool false)))] ⟨RG.ld u33 i33,RG.ld u33 i33,RG.aK rfl .eql 52 52 48 49 (fv c2) (fv c4) (.bool false) rfl rfl RG.sx RG.sx (fun w=>by kernel_rfl) (Fu C.toFld (by subst_vars;exact hv)),trivial⟩ ?_;intro a10 w10 M10;repeat refine wp_seq ?_
 refine wp_cond_false M10.ev ?_;refine wp_skip ?_;repeat refine wp_seq ?_
 refine M10.d [.c 61 [] rv0,.x 62 [] (fv c1),.x 63 [] (fv c3),.c 64 [(61,0),(62,1),(63,2)] (fv c5),.m 10 [] 7,.u [(10,4),(64,3)] 7] [(4,(RG.z 4))] [(7,5,(ws c5))] [(ws x1++(ws y1++(ws z1))),(ws x2++(ws y2++(ws z2))),(RG.z 12),(ws c1),(ws c2),(ws c3),(ws c4),(ws c5)] [(2,(.p 0 0)),(3,(.p 1 0)),(4,(.p 2 0)),(7,(.p 4 0)),(8,(.p 5 0)),(9,(.p 6 0)),(10,(.p 7 0))] ⟨RG.cl (bD),RG.ld u33 i33,RG.ld u33 i33,RG.cl ((jG C c1 c3).e hc5),RG.mk 7 52,RG.pt i33,trivial⟩ ?_;intro j11 a11 w11 M11;repeat refine wp_seq ?_
 refine M11.d [.c 65 [] rv0,.x 66 [] (fv c2),.x 67 [] (fv c4),.c 68 [(65,0),(66,1),(67,2)] (fv c6),.m 11 [] 8,.u [(11,4),(68,3)] 8] [(4,(RG.z 4))] [(8,5,(ws c6))] [(ws x1++(ws y1++(ws z1))),(ws x2++(ws y2++(ws z2))),(RG.z 12),(ws c1),(ws c2),(ws c3),(ws c4),(ws c5),(ws c6)] [(2,(.p 0 0)),(3,(.p 1 0)),(4,(.p 2 0)),(8,(.p 5 0)),(9,(.p 6 0)),(10,(.p 7 0)),(11,(.p 8 0))] ⟨RG.cl (bD),RG.ld u33 i33,RG.ld u33 i33,RG.cl ((jG C c2 c4).e hc6),RG.mk 8 52,RG.pt i33,trivial⟩ ?_;intro j12 a12 w12 M12;repeat refine wp_seq ?_
 refine M12.d [.c 69 [] rv0,.s 70 [] (.p 0 8),.x 71 [(70,1)] (fv z1),.s 72 [] (.p 1 8),.x 73 [(72,3)] (fv z2),.c 74 [(69,0),(71,2),(73,4)] (fv c7),.m 12 [] 9,.u [(12,6),(74,5)] 9] [(6,(RG.z 4))] [(9,7,(ws c7))] [(ws x1++(ws y1++(ws z1))),(ws x2++(ws y2++(ws z2))),(RG.z 12),(ws c1),(ws c2),(ws c3),(ws c4),(ws c5),(ws c6),(ws c7)] [(4,(.p 2 0)),(8,(.p 5 0)),(9,(.p 6 0)),(10,(.p 7 0)),(11,(.p 8 0)),(12,(.p 9 0))] ⟨RG.cl (bD),RG.st,RG.ld u33 i33,RG.st,RG.ld u33 i33,RG.cl ((aQ C z1 z2).e hc7),RG.mk 9 52,RG.pt i33,trivial⟩ ?_;intro j13 a13 w13 M13;repeat refine wp_seq ?_
 refine M13.d [.c 75 [] rv0,.x 76 [] (fv c6),.x 77 [] (fv c6),.c 78 [(75,0),(76,1),(77,2)] (fv c8),.m 13 [] 10,.u [(13,4),(78,3)] 10] [(4,(RG.z 4))] [(10,5,(ws c8))] [(ws x1++(ws y1++(ws z1))),(ws x2++(ws y2++(ws z2))),(RG.z 12),(ws c1),(ws c2),(ws c3),(ws c4),(ws c5),(ws c6),(ws c7),(ws c8)] [(4,(.p 2 0)),(8,(.p 5 0)),(9,(.p 6 0)),(10,(.p 7 0)),(11,(.p 8 0)),(12,(.p 9 0)),(13,(.p 10 0))] ⟨RG.cl (bD),RG.ld u33 i33,RG.ld u33 i33,RG.cl ((aQ C c6 c6).e hc8),RG.mk 10 52,RG.pt i33,trivial⟩ ?_;intro j14 a14 w14 M14;repeat refine wp_seq ?_
 refine M14.d [.c 79 [] rv0,.x 80 [] (fv c8),.x 81 [] (fv c6),.c 82 [(79,0),(80,1),(81,2)] (fv c9),.m 14 [] 11,.u [(14,4),(82,3)] 11] [(4,(RG.z 4))] [(11,5,(ws c9))] [(ws x1++(ws y1++(ws z1))),(ws x2++(ws y2++(ws z2))),(RG.z 12),(ws c1),(ws c2),(ws c3),(ws c4),(ws c5),(ws c6),(ws c7),(ws c8),(ws c9)] [(4,(.p 2 0)),(8,(.p 5 0)),(9,(.p 6 0)),(10,(.p 7 0)),(11,(.p 8 0)),(12,(.p 9 0)),(13,(.p 10 0)),(14,(.p 11 0))] ⟨RG.cl (bD),RG.ld u33 i33,RG.ld u33 i33,RG.cl ((aQ C c8 c6).e hc9),RG.mk 11 52,RG.pt i33,trivial⟩ ?_;intro j15 a15 w15 M15;repeat refine wp_seq ?_
 refine M15.d [.c 83 [] rv0,.c 84 [] rv0,.c 85 [] rv0,.c 86 [] rv0,.x 87 [] (fv c5),.x 88 [] (fv c5),.c 89 [(86,3),(87,4),(88,5)] (fv c10),.x 90 [] (fv c7),.c 91 [(85,2),(89,6),(90,7)] (fv c11),.x 92 [] (fv c9),.c 93 [(84,1),(91,8),(92,9)] (fv c12),.c 94 [] rv0,.c 95 [] rv0,.x 96 [] (fv c4),.x 97 [] (fv c4),.c 98 [(95,12),(96,13),(97,14)] (fv c13),.x 99 [] (fv c8),.c 100 [(94,11),(98,15),(99,16)] (fv c14),.c 101 [(83,0),(93,10),(100,17)] (fv c15),.m 15 [] 12,.u [(15,19),(101,18)] 12] [(19,(RG.z 4))] [(12,20,(ws c15))] [(ws x1++(ws y1++(ws z1))),(ws x2++(ws y2++(ws z2))),(RG.z 12),(ws c1),(ws c2),(ws c3),(ws c4),(ws c5),(ws c6),(ws c7),(ws c8),(ws c9),(ws c15)] [(4,(.p 2 0)),(8,(.p 5 0)),(9,(.p 6 0)),(10,(.p 7 0)),(11,(.p 8 0)),(12,(.p 9 0)),(13,(.p 10 0)),(14,(.p 11 0)),(15,(.p 12 0))] ⟨RG.cl (bD),RG.cl (bD),RG.cl (bD),RG.cl (bD),RG.ld u33 i33,RG.ld u33 i33,RG.cl ((aQ C c5 c5).e hc10),RG.ld u33 i33,RG.cl ((aQ C c10 c7).e hc11),RG.ld u33 i33,RG.cl ((jG C c11 c9).e hc12),RG.cl (bD),RG.cl (bD),RG.ld u33 i33,RG.ld u33 i33,RG.cl ((mH C c4 c4).e hc13),RG.ld u33 i33,RG.cl ((aQ C c13 c8).e hc14),RG.cl ((jG C c12 c14).e hc15),RG.mk 12 52,RG.pt i33,trivial⟩ ?_;intro j16 a16 w16 M16;repeat refine wp_seq ?_
 refine M16.d [.c 102 [] rv0,.x 103 [] (fv c6),.x 104 [] (fv c15),.c 105 [(102,0),(103,1),(104,2)] (fv c16),.c 106 [] rv0,.c 107 [] rv0,.x 108 [] (fv c5),.c 109 [] rv0,.c 110 [] rv0,.x 111 [] (fv c4),.x 112 [] (fv c8),.c 113 [(110,8),(111,9),(112,10)] (fv c17),.x 114 [] (fv c15),.c 115 [(109,7),(113,11),(114,12)] (fv c18),.c 116 [(107,5),(108,6),(115,13)] (fv c19),.c 117 [] rv0,.x 118 [] (fv c3),.x 119 [] (fv c9),.c 120 [(117,15),(118,16),(119,17)] (fv c20),.c 121 [(106,4),(116,14),(120,18)] (fv c21),.c 122 [] rv0,.x 123 [] (fv c9),.x 124 [] (fv c7),.c 125 [(122,20),(123,21),(124,22)] (fv c22),.x 126 [(105,3),(121,19),(125,23)] (rv c16 c21 c22),.u [(126,24)] 2] [] [(2,25,(ws c16++(ws c21++(ws c22))))] [(ws x1++(ws y1++(ws z1))),(ws x2++(ws y2++(ws z2))),(ws c16++(ws c21++(ws c22))),(ws c1),(ws c2),(ws c3),(ws c4),(ws c5),(ws c6),(ws c7),(ws c8),(ws c9),(ws c15)] [(4,(.p 2 0))] ⟨RG.cl (bD),RG.ld u33 i33,RG.ld u33 i33,RG.cl ((aQ C c6 c15).e hc16),RG.cl (bD),RG.cl (bD),RG.ld u33 i33,RG.cl (bD),RG.cl (bD),RG.ld u33 i33,RG.ld u33 i33,RG.cl ((aQ C c4 c8).e hc17),RG.ld u33 i33,RG.cl ((jG C c17 c15).e hc18),RG.cl ((aQ C c5 c18).e hc19),RG.cl (bD),RG.ld u33 i33,RG.ld u33 i33,RG.cl ((aQ C c3 c9).e hc20),RG.cl ((jG C c19 c20).e hc21),RG.cl (bD),RG.ld u33 i33,RG.ld u33 i33,RG.cl ((aQ C c9 c7).e hc22),RG.st,RG.pt i56,trivial⟩ ?_;intro a17 w17 M17;refine wp_ret ?_;refine bodyPost_ret (v:=(rv c16 c21 c22)) (RG.aF M17.st 4 60 rfl 2 _ rfl (M17.at (s:=(.p 2 0))) u56 i56) M17.sl.defers ?_;exact⟨_,rfl,M17.st.bel.below,rfl⟩
theorem vW(C:Fl3 P)(x y:Fin P)(hr:rt (x*x*x+7)=some y):Gives 96 #[(fv x)] (.tuple #[rv x y 1,.bool true]):=by
 intro w;obtain⟨c1,hc1⟩:∃c,c=x*x:=⟨_,rfl⟩
 obtain⟨c2,hc2⟩:∃c,c=c1*x:=⟨_,rfl⟩
 obtain⟨c3,hc3⟩:∃c,c=c2+(7:Fin P):=⟨_,rfl⟩
 have hfin:((.tuple #[(rv x y (1:Fin P)),(.bool true)]):Value)=(.tuple #[rv x y 1,.bool true]):=by
  subst_vars;rfl
 rw[<-hfin];go_enter Tryz.func96,Tryz.ntmps96;refine RG.M.enter [(0,(.v (fv x)))] 26 (by kernel_rfl) ?_;intro a0 M0;repeat refine wp_seq ?_
 refine M0.t [.m 1 [] 0,.m 2 [] 1,.x 3 [] (.bool false)] [(0,(ws x)),(1,(RG.z 12))] [] [(ws x),(RG.z 12)] [(1,(.p 0 0)),(2,(.p 1 0)),(3,(.v (.bool false)))] ⟨RG.mk 0 52,RG.mk 1 60,RG.st,trivial⟩ ?_;intro j1 i1 a1 w1 M1;repeat refine wp_seq ?_
 refine M1.d [.c 7 [] rv0,.c 8 [] rv0,.c 9 [] rv0,.c 10 [] rv0,.x 11 [] (fv x),.x 12 [] (fv x),.c 13 [(10,3),(11,4),(12,5)] (fv c1),.x 14 [] (fv x),.c 15 [(9,2),(13,6),(14,7)] (fv c2),.c 16 [] (fv (7:Fin P)),.c 17 [(8,1),(15,8),(16,9)] (fv c3),.c 18 [(7,0),(17,10)] (.tuple #[(fv y),(.bool true)]),.x 6 [(18,11)] (.tuple #[(fv y),(.bool true)]),.x 19 [(6,12)] (fv y),.x 20 [(6,12)] (.bool true),.m 4 [] 2,.u [(4,15),(19,13)] 2,.x 5 [(20,14)] (.bool true)] [(15,(RG.z 4))] [(2,16,(ws y))] [(ws x),(RG.z 12),(ws y)] [(1,(.p 0 0)),(2,(.p 1 0)),(3,(.v (.bool false))),(4,(.p 2 0)),(5,(.v (.bool true)))] ⟨RG.cl (bD),RG.cl (bD),RG.cl (bD),RG.cl (bD),RG.ld u33 i33,RG.ld u33 i33,RG.cl ((aQ C x x).e hc1),RG.ld u33 i33,RG.cl ((aQ C c1 x).e hc2),RG.cl (uF C),RG.cl ((mH C c2 (7:Fin P)).e hc3),RG.cl (f:=146) (args:=#[rv0,(fv c3)]) (v:=(.tuple #[(fv y),(.bool true)])) (Ht C (by subst_vars;exact hr)),RG.st,RG.st,RG.st,RG.mk 2 52,RG.pt i33,RG.st,trivial⟩ ?_;intro j2 a2 w2 M2;repeat refine wp_seq ?_
 refine M2.d [.x 21 [] (fv x),.x 22 [] (fv y),.c 23 [] (fv (1:Fin P)),.x 24 [(21,0),(22,1),(23,2)] (rv x y (1:Fin P)),.x 25 [] (.bool true),.u [(24,3)] 1,.x 3 [(25,4)] (.bool true)] [] [(1,5,(ws x++(ws y++(ws (1:Fin P)))))] [(ws x),(ws x++(ws y++(ws (1:Fin P)))),(ws y)] [(2,(.p 1 0)),(3,(.v (.bool true)))] ⟨RG.ld u33 i33,RG.ld u33 i33,RG.cl (oP C),RG.st,RG.st,RG.pt i56,RG.st,trivial⟩ ?_;intro a3 w3 M3;refine wp_ret ?_;refine bodyPost_ret (v:=(.tuple #[(rv x y (1:Fin P)),(.bool true)])) (RG.aW M3.st 2 3 60 rfl 1 _ rfl (M3.at (s:=(.p 1 0))) _ (M3.at (s:=(.v (.bool true)))) u56 i56) M3.sl.defers ?_;exact⟨_,rfl,M3.st.bel.below,rfl⟩
theorem BX(C:Fl3 P)(x:Fin P)(hr:rt (x*x*x+7)=none):Gives 96 #[(fv x)] (.tuple #[rv x 0 1,.bool false]):=by
 intro w;obtain⟨c1,hc1⟩:∃c,c=x*x:=⟨_,rfl⟩
 obtain⟨c2,hc2⟩:∃c,c=c1*x:=⟨_,rfl⟩
 obtain⟨c3,hc3⟩:∃c,c=c2+(7:Fin P):=⟨_,rfl⟩
 have hfin:((.tuple #[(rv x (0:Fin P) (1:Fin P)),(.bool false)]):Value)=(.tuple #[rv x 0 1,.bool false]):=by
  subst_vars;rfl
 rw[<-hfin];go_enter Tryz.func96,Tryz.ntmps96;refine RG.M.enter [(0,(.v (fv x)))] 26 (by kernel_rfl) ?_;intro a0 M0;repeat refine wp_seq ?_
 refine M0.t [.m 1 [] 0,.m 2 [] 1,.x 3 [] (.bool false)] [(0,(ws x)),(1,(RG.z 12))] [] [(ws x),(RG.z 12)] [(1,(.p 0 0)),(2,(.p 1 0)),(3,(.v (.bool false)))] ⟨RG.mk 0 52,RG.mk 1 60,RG.st,trivial⟩ ?_;intro j1 i1 a1 w1 M1;repeat refine wp_seq ?_
 refine M1.d [.c 7 [] rv0,.c 8 [] rv0,.c 9 [] rv0,.c 10 [] rv0,.x 11 [] (fv x),.x 12 [] (fv x),.c 13 [(10,3),(11,4),(12,5)] (fv c1),.x 14 [] (fv x),.c 15 [(9,2),(13,6),(14,7)] (fv c2),.c 16 [] (fv (7:Fin P)),.c 17 [(8,1),(15,8),(16,9)] (fv c3),.c 18 [(7,0),(17,10)] (.tuple #[(fv (0:Fin P)),(.bool false)]),.x 6 [(18,11)] (.tuple #[(fv (0:Fin P)),(.bool false)]),.x 19 [(6,12)] (fv (0:Fin P)),.x 20 [(6,12)] (.bool false),.m 4 [] 2,.u [(4,15),(19,13)] 2,.x 5 [(20,14)] (.bool false)] [(15,(RG.z 4))] [(2,16,(ws (0:Fin P)))] [(ws x),(RG.z 12),(ws (0:Fin P))] [(1,(.p 0 0)),(2,(.p 1 0)),(3,(.v (.bool false))),(4,(.p 2 0)),(5,(.v (.bool false)))] ⟨RG.cl (bD),RG.cl (bD),RG.cl (bD),RG.cl (bD),RG.ld u33 i33,RG.ld u33 i33,RG.cl ((aQ C x x).e hc1),RG.ld u33 i33,RG.cl ((aQ C c1 x).e hc2),RG.cl (uF C),RG.cl ((mH C c2 (7:Fin P)).e hc3),RG.cl (f:=146) (args:=#[rv0,(fv c3)]) (v:=(.tuple #[(fv (0:Fin P)),(.bool false)])) (Hu C (by subst_vars;exact hr)),RG.st,RG.st,RG.st,RG.mk 2 52,RG.pt i33,RG.st,trivial⟩ ?_;intro j2 a2 w2 M2;repeat refine wp_seq ?_
 refine M2.d [.x 21 [] (fv x),.x 22 [] (fv (0:Fin P)),.c 23 [] (fv (1:Fin P)),.x 24 [(21,0),(22,1),(23,2)] (rv x (0:Fin P) (1:Fin P)),.x 25 [] (.bool false),.u [(24,3)] 1,.x 3 [(25,4)] (.bool false)] [] [(1,5,(ws x++(ws (0:Fin P)++(ws (1:Fin P)))))] [(ws x),(ws x++(ws (0:Fin P)++(ws (1:Fin P)))),(ws (0:Fin P))] [(2,(.p 1 0)),(3,(.v (.bool false)))] ⟨RG.ld u33 i33,RG.ld u33 i33,RG.cl (oP C),RG.st,RG.st,RG.pt i56,RG.st,trivial⟩ ?_;intro a3 w3 M3;refine wp_ret ?_;refine bodyPost_ret (v:=(.tuple #[(rv x (0:Fin P) (1:Fin P)),(.bool false)])) (RG.aW M3.st 2 3 60 rfl 1 _ rfl (M3.at (s:=(.p 1 0))) _ (M3.at (s:=(.v (.bool false)))) u56 i56) M3.sl.defers ?_;exact⟨_,rfl,M3.st.bel.below,rfl⟩
end
section
open Go.RowKit Go.Sort Go.Deep
variable {P:Nat}[NeZero P]{N:Nat}
theorem EV(O:Ord N)(s:Bs)(hs:s.size<=1048576):Gives 75 #[rv1,.string ⟨s⟩] (nv (iP N s)):=fun w =>
 (EP _ _ _ _ _ _ _ _ N ⟨s⟩ O.ref hs w).mono (by rintro e w' ⟨v,rfl,hb,hF⟩;exact⟨_,rfl,hb,hF.nv⟩)
theorem EW(O:Ord N){a b:Nat}(ha:a<N)(hb:b<N):Gives 31 #[rv1,nv a,nv b] (nv (sPl N a b)):=fun w =>
 (Ay O.ref (O.four ha) (O.four hb) w).mono (by rintro e w' ⟨v,rfl,hb,hF⟩;exact⟨_,rfl,hb,hF.nv⟩)
theorem Do(O:Ord N)(label:ByteArray)(pa:Option Addr)(cap:Nat)(ps:List ByteArray)(w:World)(hlab:label.size<=1048576)(hpl:ps.length<=1048576)
 (hP:ps.length=0\/∃pb po,pa=some ⟨pb,po,none⟩/\∀j,j<ps.length->w.cell? ⟨pb,po+j,none⟩=some (.string ps[j]!)) (hsz:∀j,j<ps.length->(ps[j]!).size<=1048576)
 (htot:(SP.bP label.data.toList (ps.map fun s=>s.data.toList)).length<=1048576) :
 Calls prog 27 #[.string label,.slice pa ps.length cap] w (Ret fun e w'=>Below w.heap.size w w'/\e=nv (chL N label.data.toList (ps.map fun s=>s.data.toList))):=by
 have hT0:∀w',RG.BelX w.heap.size [] w w'->Calls prog 77 #[.string label,.slice pa ps.length cap] w' (Ret fun e w''=>Below w'.heap.size w' w''/\e=.string ⟨SP.eW label.data.toList (ps.map fun s=>s.data.toList)⟩):=fun w' hb=>by
  refine(SP.mF label pa cap ps w' hlab hpl ?_ hsz htot).mono ?_
  ·rcases hP with h|⟨pb,po,h1,h2⟩
   ·exact OQ h
   ·exact OC ⟨pb,po,h1,fun j hj=>by rw[hb.below.cell (p:=⟨pb,po+j,none⟩) (PK _ _ (h2 j hj))];exact h2 j hj⟩
  ·rintro e w'' ⟨rfl,hb⟩;exact⟨_,rfl,hb,rfl⟩
 unfold chL;have hTs:=SP.cY label.data.toList (ps.map fun s=>s.data.toList);generalize SP.eW label.data.toList (ps.map fun s=>s.data.toList)=T at hT0 hTs⊢;have hS0:Gives 76 #[.string ⟨T⟩,.int .i64 64] (.string ⟨SP.f8 T.toList 64⟩):=fun w'=>by
  refine(SP.lV ⟨T⟩ 64 w' (by show T.size<=_;omega) (by decide)).mono ?_;rintro e w'' ⟨rfl,hb⟩;exact⟨_,rfl,hb,rfl⟩
 have hM:=EV O (SP.f8 T.toList 64) (by rw[SP.oL];decide);generalize SP.f8 T.toList 64=S at hS0 hM⊢;generalize iP N S=n at hM⊢;generalize hv:Value.slice pa ps.length cap=v at hT0⊢;clear hTs hP hsz htot hpl hlab hv;go_enter Tryz.func27,Tryz.ntmps27;refine RG.M.enter [(0,.v (.string label)),(1,.v v)] 11 (by kernel_rfl) ?_;intro a0 M0;repeat refine wp_seq ?_
 refine M0.t [.m 4 [] 0] [(0,RG.z 4)] [] [RG.z 4] [(0,.v (.string label)),(1,.v v),(4,.p 0 0)] ⟨RG.mk 0 52,trivial⟩ ?_;intro j1 a1 w1 M1;repeat refine wp_seq ?_
 refine M1.t [.c 5 [] rv1,.x 6 [] (.string label),.x 7 [] v,.c 8 [(6,1),(7,2)] (.string ⟨T⟩),.c 9 [(8,3)] (.string ⟨S⟩),.c 10 [(5,0),(9,4)] (nv n),.u [(10,5)] 0] [] [(0,6,wn n)] [wn n] [(4,.p 0 0)] ⟨RG.cl I5,RG.st,RG.st,RG.clB (fun _ _=>by kernel_rfl) hT0,RG.cl hS0,RG.cl hM,RG.pt i33,trivial⟩ ?_;intro a2 w2 M2;refine wp_ret ?_;refine bodyPost_ret (v:=nv n) (RG.aF M2.st 4 52 rfl 0 _ rfl (M2.at (s:=(.p 0 0))) u33 i33) M2.sl.defers ?_;exact⟨_,rfl,M2.st.bel.below,rfl⟩
theorem vX(O:Ord N)(y:Nat)(L:Bs)(w:World)(hl:L.size=32)(hL:SP.RLog w y L):Calls prog 85 #[.pointer (some ⟨y,0,none⟩)] w (Ret fun e w'=>SP.Only y 0 1 w w'/\e=nv (cha N L)):=by
 obtain⟨A,hA⟩:∃A,Hid (SP.qC L [99,104,97,108,108,101,110,103,101] 64=A):=⟨_,rfl⟩
 have hAs:A.size=64:=by rw[<-hA.out];exact SP.u9 _ _ _
 have hr:cha N L=iP N A:=by unfold cha;rw[hA.out]
 rw[hr];clear hr;have hy:=hL.lt;obtain⟨w1,hw1⟩:∃w1,Hid (w.alloc (.cells #[.int .u64 0,.int .u64 0,.int .u64 0,.int .u64 0] 52)=w1):=⟨_,rfl⟩
 have K1:Hid (Row w1 w.heap.size [.int .u64 0,.int .u64 0,.int .u64 0,.int .u64 0]/\Below w.heap.size w w1):=by rw[<-hw1.out];exact⟨aO w _ _,aH w _⟩
 go_enter Tryz.func85,Tryz.ntmps85;go_wp2_with fail
 rw[hw1.out];refine(I5 w1).mono ?_;rintro e w2 ⟨v,rfl,hb2,rfl⟩;have K2:Hid (Row w2 w.heap.size [.int .u64 0,.int .u64 0,.int .u64 0,.int .u64 0]/\Below w.heap.size w w2/\SP.RLog w2 y L):=⟨K1.out.1.below hb2,K1.out.2.trans (hb2.mono K1.out.2.size),(hL.below K1.out.2).below hb2⟩
 clear hb2 K1 hw1;go_wp2_with fail
 refine(SP.Au y L ⟨#[99,104,97,108,108,101,110,103,101]⟩ 64 w2 (by decide) (by decide) hl K2.out.2.2).mono ?_;rintro e w3 ⟨rfl,hO,-⟩;rw[show SP.qC L (⟨#[99,104,97,108,108,101,110,103,101]⟩:ByteArray).data.toList 64=A from hA.out];have K3:Hid (Row w3 w.heap.size [.int .u64 0,.int .u64 0,.int .u64 0,.int .u64 0]/\SP.Only y 0 1 w w3):=⟨K2.out.1.only hO (by omega),(SP.Only.of_below K2.out.2.1 rfl hy).trans hO⟩
 clear hO K2;go_wp2_with fail
 refine(EV O A (by omega) w3).mono ?_;rintro e w4 ⟨v,rfl,hb4,rfl⟩;have K4:Hid (Row w4 w.heap.size [.int .u64 0,.int .u64 0,.int .u64 0,.int .u64 0]/\SP.Only y 0 1 w w4):=⟨K3.out.1.below hb4,K3.out.2.trans (SP.Only.of_below hb4 rfl (Oi hy K3.out.2.size))⟩
 clear hb4 K3;obtain⟨m,hm⟩:∃m,Hid (iP N A=m):=⟨_,rfl⟩
 rw[hm.out];obtain⟨w5,hw5⟩:∃w5,Hid (w4.setCells w.heap.size 0 (wn m)=w5):=⟨_,rfl⟩
 have K5:Hid (Row w5 w.heap.size (wn m)/\SP.Only y 0 1 w w5):=by
  rw[<-hw5.out];exact⟨K4.out.1.put rfl,iJ K4.out.2 hy (Oh _) _⟩
 obtain⟨vm,hvm⟩:∃vm,Hid (nv m=vm):=⟨_,rfl⟩
 rw[hvm.out];go_wp2_with (refine wpList_store_mid rfl 52 _ _ rfl w.heap.size 0 (wn m).toArray ?_ ?_ ?_ ?_ ?_ ?_;rfl;exact hvm.out.symm;exact K4.out.1.2.2;exact i33;exact fF m;rw[show(wn m).toArray.toList=wn m from rfl,hw5.out])
 refine bodyPost_ret (bF 2 52 rfl K5.out.1 rfl u33 i33) rfl ?_;exact⟨_,rfl,K5.out.2,by rw[hm.out];rfl⟩
def z12:Array Value:=#[.int .u64 0,.int .u64 0,.int .u64 0,.int .u64 0,.int .u64 0,.int .u64 0,.int .u64 0,.int .u64 0,.int .u64 0,.int .u64 0,.int .u64 0,.int .u64 0]
def W5(w:World):World:=(w.alloc (.cells z12 60)).alloc (.cells (madeCells #[.int .u8 0] 33) 5)
theorem tK(w:World):RG.St w w.heap.size [] [z12.toList] [w.heap.size] (W5 w):=(RG.St.new w z12.toList 60).more (aH _ _)
theorem sQ(w:World):(convert 22 9 (.slice (some ⟨w.heap.size+1,0,none⟩) 33 33)).run prog (W5 w)=.ok (.string ⟨mP⟩) (W5 w):=
 conv_str prog 22 9 5 slice22 int5 str9 _ _ 0 33 33 _ (Ff w _) (by decide)
theorem str_eq(a:Bs):((⟨a⟩:ByteArray).toList == (⟨a⟩:ByteArray).toList)=true:=by simp
theorem qG{a b:Bs}(h:¬a=b):((⟨a⟩:ByteArray).toList == (⟨b⟩:ByteArray).toList)=false:=by
 rw[TF,TF];simp only[beq_eq_false_iff_ne,ne_eq];exact fun e=>h (Array.toList_inj.1 e)
theorem slS(bs:Bs)(hs:bs.size=33)(w:World):(Pp 9 (.string ⟨bs⟩) (some (.int .i64 1)) none none).run prog w=.ok (.string ⟨dX bs⟩) w:=by
 have h:(⟨bs⟩:ByteArray).size=33:=hs;go_simp;have h2:((⟨bs⟩:ByteArray).extract 1 33).data=dX bs:=by rw[VA];rfl
 rw[<-h2]
theorem Iz{bs:Bs}(hs:bs.size=33)(hp:0<(⟨bs⟩:ByteArray).size):(((⟨bs⟩:ByteArray)[0]'hp).toNat:Int)=ub bs[0]!:=by
 rw[getElem!_pos bs 0 (by omega)];rfl
theorem ixS(bs:Bs)(hs:bs.size=33)(m:Int)(hm:ub bs[0]! = m)(w:World):(Instr.index 9 (.string ⟨bs⟩) (.int .i64 0)).run prog w=.ok (.int .u8 m) w:=by
 have h:(⟨bs⟩:ByteArray).size=33:=hs;have h2:∀hp,(((⟨bs⟩:ByteArray)[0]'hp).toNat:Int)=m:=fun hp=>by rw[Iz hs,hm]
 go_simp
theorem uG(C:Fl3 P)(bs:Bs)(hs:bs.size=32){x:Fin P}(hx:beV bs.toList=x.val):Gives 73 #[rv0,.string ⟨bs⟩] (.tuple #[fv x,.bool true]):=fun w =>
 (kD _ _ _ _ _ _ _ _ P ⟨bs⟩ C.ref w).mono (by
  rintro e w' ⟨v,rfl,hb,a,b,c,d,ok,rfl,h1,h2,h3,-⟩;cases ok with
  | false=>exact absurd ⟨hs,by rw[hx];exact x.isLt⟩ (h2 rfl)
  | true =>
   have h4:=(h1 rfl).2;rw[hx]at h4;refine⟨_,rfl,hb,?_⟩;rw[C.toFld.four x |>.inj h4])
theorem uH(C:Fl3 P)(bs:Bs)(hs:bs.size=32)(hx:¬beV bs.toList<P):Gives 73 #[rv0,.string ⟨bs⟩] (.tuple #[nv (beV bs.toList),.bool false]):=fun w =>
 (kD _ _ _ _ _ _ _ _ P ⟨bs⟩ C.ref w).mono (by
  rintro e w' ⟨v,rfl,hb,a,b,c,d,ok,rfl,h1,h2,h3,-⟩;cases ok with
  | true=>exact absurd (h1 rfl).1.2 hx
  | false =>
   have h4:=h3 hs;refine⟨_,rfl,hb,?_⟩;rw[h4.nv])
def n12(P:Nat)[NeZero P]:List Value:=ws (0:Fin P)++(ws (1:Fin P)++ws (0:Fin P))
theorem Ha(C:Fl3 P)(w:World):Calls prog 40 #[.string ⟨mP⟩] w (Ret fun e w'=>Below w.heap.size w w'/\e=.tuple #[rv (0:Fin P) 1 0,.bool true]):=by
 have hmk:=AV;have hcv:=sQ w;have hse:=str_eq mP;unfold W5 z12 at hcv;have hN:=BE C;have hrv:rv (0:Fin P) 1 0=.agg (n12 P).toArray:=rfl;rw[hrv]at hN⊢;have hln:(n12 P).length=12:=rfl;have hone:(n12 P).all (·.oneCell')=true:=rfl;generalize n12 P=N at hN hln hone⊢;go_enter Tryz.func40,Tryz.ntmps40;go_wp2_with fail
 refine(hN _).mono ?_;rintro e w1 ⟨v,rfl,hb,rfl⟩;obtain⟨w2,s0,s1,s2,hS⟩:=(RG.St.more (tK w) hb).store1 (P:=prog) 60 (D:=N) hln (by rw[hln];exact i56) hone;clear hcv hmk hN hse;go_wp2;refine bodyPost_ret (v:=.tuple #[.agg N.toArray,.bool true]) (RG.aW hS 2 3 60 rfl 0 _ rfl rfl _ rfl u56 (by rw[hln];exact i56)) rfl ?_;exact⟨_,rfl,hS.bel.below,rfl⟩
theorem J5(C:Fl3 P)(bs:Bs)(hs:¬bs.size=33)(w:World):Calls prog 40 #[.string ⟨bs⟩] w (Ret fun e w'=>Below w.heap.size w w'/\e=.tuple #[rv (0:Fin P) 0 0,.bool false]):=by
 have hmk:=AV;have hcv:=sQ w;have hse:=qG (a:=bs) (b:=mP) (fun h=>hs (by rw[h];rfl));unfold W5 z12 at hcv;have hs2:¬(⟨bs⟩:ByteArray).size=33:=hs;rw[<-qE];go_enter Tryz.func40,Tryz.ntmps40;go_wp2;refine bodyPost_ret (v:=.tuple #[.agg z12,.bool false]) (RG.aW (tK w) 2 3 60 rfl 0 _ rfl rfl _ rfl u56 i56) rfl ?_;exact⟨_,rfl,(tK w).bel.below,rfl⟩
theorem Hb(C:Fl3 P)(bs:Bs)(hs:bs.size=33)(hz:¬bs=mP)(m:Int)(hm:ub bs[0]! = m)(hm2:¬m=2)(hm3:¬m=3)(w:World):Calls prog 40 #[.string ⟨bs⟩] w (Ret fun e w'=>Below w.heap.size w w'/\e=.tuple #[rv (0:Fin P) 0 0,.bool false]):=by
 have hmk:=AV;have hcv:=sQ w;have hse:=qG hz;unfold W5 z12 at hcv;have hs2:(⟨bs⟩:ByteArray).size=33:=hs;have hix:=ixS bs hs m hm;have e2:(m != 2)=true:=by simpa using hm2
 have e3:(m != 3)=true:=by simpa using hm3
 rw[<-qE];go_enter Tryz.func40,Tryz.ntmps40;go_wp2;refine bodyPost_ret (v:=.tuple #[.agg z12,.bool false]) (RG.aW (tK w) 2 3 60 rfl 0 _ rfl rfl _ rfl u56 i56) rfl ?_;exact⟨_,rfl,(tK w).bel.below,rfl⟩
theorem J4(C:Fl3 P)(m:Nat)(bs:Bs)(w:World)(hs:bs.size=33)(hz:¬bs=mP)(hm:ub bs[0]! = 2\/ub bs[0]! = 3)(hnum:Gives 73 #[rv0,.string ⟨dX bs⟩] (.tuple #[nv m,.bool false])):Calls prog 40 #[.string ⟨bs⟩] w (Ret fun e w'=>Below w.heap.size w w'/\e=.tuple #[rv (0:Fin P) 0 0,.bool false]):=by
 rcases hm with hm|hm
 all_goals
  have hmk:=AV;have hcv:=sQ w;have hse:=qG hz;unfold W5 z12 at hcv;have hs2:(⟨bs⟩:ByteArray).size=33:=hs;have hix:=ixS bs hs _ hm;have hS0:=tK w;unfold W5 z12 at hS0;go_enter Tryz.func40,Tryz.ntmps40;go_wp2_with fail
  rename_i hK
  clear hmk hcv hse hs2 hix;generalize (w.alloc _).alloc _=w0 at hS0⊢;refine RG.Mn (v0:=.string ⟨bs⟩) (v1:=.pointer (some ⟨w.heap.size,0,none⟩)) (v2:=.bool false) (n:=48) 0 2 3 rfl rfl rfl rfl rfl ?_;intro a0 sl0 f0 f2 f3;have M0:RG.M w w.heap.size [] 48 [(RG.z 12)] [w.heap.size] [(0,(.v (.string ⟨bs⟩))),(2,(.p 0 0)),(3,(.v (.bool false)))] a0 _:=⟨hS0,sl0,⟨f0,f2,f3,trivial⟩⟩
  repeat refine wp_seq ?_
  refine M0.d [.c 27 [] rv0,.x 28 [] (.string ⟨bs⟩),.x 29 [(28,1)] (.string ⟨dX bs⟩),.c 30 [(27,0),(29,2)] (.tuple #[(nv m),(.bool false)]),.x 26 [(30,3)] (.tuple #[(nv m),(.bool false)]),.x 31 [(26,4)] (nv m),.x 32 [(26,4)] (.bool false),.m 4 [] 1,.u [(4,7),(31,5)] 1,.x 5 [(32,6)] (.bool false)] [(7,(RG.z 4))] [(1,8,(wn m))] [(RG.z 12),(wn m)] [(2,(.p 0 0)),(3,(.v (.bool false))),(5,(.v (.bool false)))] ⟨RG.cl (bD),RG.st,RG.fC rfl 9 28 (.int .i64 1) (.string ⟨bs⟩) (.string ⟨dX bs⟩) rfl rfl RG.sx (slS bs hs),RG.cl (hnum),RG.st,RG.st,RG.st,RG.mk 1 52,RG.pt i33,RG.st,trivial⟩ ?_;intro j1 a1 w1 M1;refine hK _ _ ?_;repeat refine wp_seq ?_
  refine M1.u [.x 33 [] (.bool false),.x 34 [(33,0)] (.bool true)] [(2,(.p 0 0)),(3,(.v (.bool false))),(34,(.v (.bool true)))] ⟨RG.st,RG.st,trivial⟩ ?_;intro a2 w2 M2;repeat refine wp_seq ?_
  refine wp_cond_true M2.ev ?_;repeat refine wp_seq ?_
  refine M2.t [.x 35 [] (rv (0:Fin P) (0:Fin P) (0:Fin P)),.u [(35,0)] 0,.x 3 [] (.bool false)] [] [(0,1,(ws (0:Fin P)++(ws (0:Fin P)++(ws (0:Fin P)))))] [(ws (0:Fin P)++(ws (0:Fin P)++(ws (0:Fin P)))),(wn m)] [(2,(.p 0 0)),(3,(.v (.bool false)))] ⟨RG.se (qE (P:=P)),RG.pt i56,RG.st,trivial⟩ ?_;intro a3 w3 M3;refine wp_ret ?_;refine bodyPost_ret (v:=(.tuple #[(rv (0:Fin P) (0:Fin P) (0:Fin P)),(.bool false)])) (RG.aW M3.st 2 3 60 rfl 0 _ rfl (M3.at (s:=(.p 0 0))) _ (M3.at (s:=(.v (.bool false)))) u56 i56) M3.sl.defers ?_;exact⟨_,rfl,M3.st.bel.below,rfl⟩
theorem BS(C:Fl3 P)(bs:Bs)(x y:Fin P)(b:Bool)(w:World)(hs:bs.size=33)(hz:¬bs=mP)(hm:ub bs[0]! = 2\/ub bs[0]! = 3)(hx:beV (dX bs).toList=x.val)(hat:Gives 96 #[(fv x)] (.tuple #[rv x y 1,.bool b])):Calls prog 40 #[.string ⟨bs⟩] w (Ret fun e w'=>Below w.heap.size w w'/\e=.tuple #[rv x (if ub bs[0]! = 3 then 0-y else y) 1,.bool b]):=by
 rcases hm with hm|hm
 case' inl=>rw[if_neg (by rw[hm];decide)]
 case' inr =>
  rw[if_pos hm];generalize hy2:0-y=y2
 all_goals
  have hmk:=AV;have hcv:=sQ w;have hse:=qG hz;unfold W5 z12 at hcv;have hs2:(⟨bs⟩:ByteArray).size=33:=hs;have hix:=ixS bs hs _ hm;have hS0:=tK w;unfold W5 z12 at hS0;go_enter Tryz.func40,Tryz.ntmps40;go_wp2_with fail
  rename_i hK
  clear hmk hcv hse hs2 hix;generalize (w.alloc _).alloc _=w0 at hS0⊢;refine RG.Mn (v0:=.string ⟨bs⟩) (v1:=.pointer (some ⟨w.heap.size,0,none⟩)) (v2:=.bool false) (n:=48) 0 2 3 rfl rfl rfl rfl rfl ?_;intro a0 sl0 f0 f2 f3;have M0:RG.M w w.heap.size [] 48 [(RG.z 12)] [w.heap.size] [(0,(.v (.string ⟨bs⟩))),(2,(.p 0 0)),(3,(.v (.bool false)))] a0 _:=⟨hS0,sl0,⟨f0,f2,f3,trivial⟩⟩
  repeat refine wp_seq ?_
  refine M0.d [.c 27 [] rv0,.x 28 [] (.string ⟨bs⟩),.x 29 [(28,1)] (.string ⟨dX bs⟩),.c 30 [(27,0),(29,2)] (.tuple #[(fv x),(.bool true)]),.x 26 [(30,3)] (.tuple #[(fv x),(.bool true)]),.x 31 [(26,4)] (fv x),.x 32 [(26,4)] (.bool true),.m 4 [] 1,.u [(4,7),(31,5)] 1,.x 5 [(32,6)] (.bool true)] [(7,(RG.z 4))] [(1,8,(ws x))] [(RG.z 12),(ws x)] [(0,(.v (.string ⟨bs⟩))),(2,(.p 0 0)),(3,(.v (.bool false))),(4,(.p 1 0)),(5,(.v (.bool true)))] ⟨RG.cl (bD),RG.st,RG.fC rfl 9 28 (.int .i64 1) (.string ⟨bs⟩) (.string ⟨dX bs⟩) rfl rfl RG.sx (slS bs hs),RG.cl (uG C (dX bs) (eH hs) hx),RG.st,RG.st,RG.st,RG.mk 1 52,RG.pt i33,RG.st,trivial⟩ ?_;intro j1 a1 w1 M1;refine hK _ _ ?_;repeat refine wp_seq ?_
  refine M1.u [.x 33 [] (.bool true),.x 34 [(33,0)] (.bool false)] [(0,(.v (.string ⟨bs⟩))),(2,(.p 0 0)),(3,(.v (.bool false))),(4,(.p 1 0)),(5,(.v (.bool true))),(34,(.v (.bool false)))] ⟨RG.st,RG.st,trivial⟩ ?_;intro a2 w2 M2;repeat refine wp_seq ?_
  refine wp_cond_false M2.ev ?_;refine wp_skip ?_;repeat refine wp_seq ?_
  refine M2.t [.x 37 [] (fv x),.c 38 [(37,0)] (.tuple #[(rv x y (1:Fin P)),(.bool b)]),.x 36 [(38,1)] (.tuple #[(rv x y (1:Fin P)),(.bool b)]),.x 39 [(36,2)] (rv x y (1:Fin P)),.x 40 [(36,2)] (.bool b),.m 6 [] 2,.u [(6,5),(39,3)] 2,.x 5 [(40,4)] (.bool b)] [(5,(RG.z 12))] [(2,6,(ws x++(ws y++(ws (1:Fin P)))))] [(RG.z 12),(ws x),(ws x++(ws y++(ws (1:Fin P))))] [(0,(.v (.string ⟨bs⟩))),(2,(.p 0 0)),(3,(.v (.bool false))),(5,(.v (.bool b))),(6,(.p 2 0))] ⟨RG.ld u33 i33,RG.cl (hat),RG.st,RG.st,RG.st,RG.mk 2 60,RG.pt i56,RG.st,trivial⟩ ?_;intro j3 a3 w3 M3;repeat refine wp_seq ?_
 ·refine M3.u [.x 41 [] (.string ⟨bs⟩),.x 42 [(41,0)] (.int .u8 3),.x 43 [(42,1)] (.bool true)] [(2,(.p 0 0)),(3,(.v (.bool false))),(5,(.v (.bool b))),(6,(.p 2 0)),(43,(.v (.bool true)))] ⟨RG.st,RG.sY rfl 9 41 (.int .i64 0) (.string ⟨bs⟩) (.int .u8 3) rfl rfl RG.sx (ixS bs hs 3 hm),RG.st,trivial⟩ ?_;intro a4 w4 M4;repeat refine wp_seq ?_
  refine wp_cond_true M4.ev ?_;repeat refine wp_seq ?_
  refine M4.t [.x 44 [] (rv x y (1:Fin P)),.c 45 [(44,0)] (rv x y2 (1:Fin P)),.u [(45,1)] 2] [] [(2,2,(ws x++(ws y2++(ws (1:Fin P)))))] [(RG.z 12),(ws x),(ws x++(ws y2++(ws (1:Fin P))))] [(2,(.p 0 0)),(3,(.v (.bool false))),(5,(.v (.bool b))),(6,(.p 2 0))] ⟨RG.ld u56 i56,RG.cl (f:=97) (args:=#[(rv x y (1:Fin P))]) (v:=(rv x y2 (1:Fin P))) (hy2 ▸ Hx C x y 1),RG.pt i56,trivial⟩ ?_;intro a5 w5 M5;repeat refine wp_seq ?_
  refine M5.t [.x 46 [] (rv x y2 (1:Fin P)),.x 47 [] (.bool b),.u [(46,0)] 0,.x 3 [(47,1)] (.bool b)] [] [(0,2,(ws x++(ws y2++(ws (1:Fin P)))))] [(ws x++(ws y2++(ws (1:Fin P)))),(ws x),(ws x++(ws y2++(ws (1:Fin P))))] [(2,(.p 0 0)),(3,(.v (.bool b)))] ⟨RG.ld u56 i56,RG.st,RG.pt i56,RG.st,trivial⟩ ?_;intro a6 w6 M6;refine wp_ret ?_;refine bodyPost_ret (v:=(.tuple #[(rv x y2 (1:Fin P)),(.bool b)])) (RG.aW M6.st 2 3 60 rfl 0 _ rfl (M6.at (s:=(.p 0 0))) _ (M6.at (s:=(.v (.bool b)))) u56 i56) M6.sl.defers ?_;exact⟨_,rfl,M6.st.bel.below,rfl⟩
 refine M3.u [.x 41 [] (.string ⟨bs⟩),.x 42 [(41,0)] (.int .u8 2),.x 43 [(42,1)] (.bool false)] [(2,(.p 0 0)),(3,(.v (.bool false))),(5,(.v (.bool b))),(6,(.p 2 0)),(43,(.v (.bool false)))] ⟨RG.st,RG.sY rfl 9 41 (.int .i64 0) (.string ⟨bs⟩) (.int .u8 2) rfl rfl RG.sx (ixS bs hs 2 hm),RG.st,trivial⟩ ?_;intro a4 w4 M4;repeat refine wp_seq ?_
 refine wp_cond_false M4.ev ?_;refine wp_skip ?_;repeat refine wp_seq ?_
 refine M4.t [.x 46 [] (rv x y (1:Fin P)),.x 47 [] (.bool b),.u [(46,0)] 0,.x 3 [(47,1)] (.bool b)] [] [(0,2,(ws x++(ws y++(ws (1:Fin P)))))] [(ws x++(ws y++(ws (1:Fin P)))),(ws x),(ws x++(ws y++(ws (1:Fin P))))] [(2,(.p 0 0)),(3,(.v (.bool b)))] ⟨RG.ld u56 i56,RG.st,RG.pt i56,RG.st,trivial⟩ ?_;intro a5 w5 M5;refine wp_ret ?_;refine bodyPost_ret (v:=(.tuple #[(rv x y (1:Fin P)),(.bool b)])) (RG.aW M5.st 2 3 60 rfl 0 _ rfl (M5.at (s:=(.p 0 0))) _ (M5.at (s:=(.v (.bool b)))) u56 i56) M5.sl.defers ?_;exact⟨_,rfl,M5.st.bel.below,rfl⟩
end
section
open Go.RowKit Go.Sort
variable {P:Nat}[NeZero P]{N:Nat}
def FracT(t:T3 P)(p:EC.Pt P):Prop:=EC.Frac t.1 t.2.1 t.2.2 p/\EC.On p
def dbF(t:T3 P):T3 P:=(EC.fdE t.2.1 t.2.2*EC.fdT t.1 t.2.1 t.2.2,EC.fdD t.1*(t.1*(EC.fdE t.2.1 t.2.2*EC.fdE t.2.1 t.2.2)-EC.fdT t.1 t.2.1 t.2.2)-t.2.1*(EC.fdE t.2.1 t.2.2*EC.fdE t.2.1 t.2.2*EC.fdE t.2.1 t.2.2),EC.fdE t.2.1 t.2.2*EC.fdE t.2.1 t.2.2*EC.fdE t.2.1 t.2.2*t.2.2)
def plF(a b : T3 P): T3 P :=
  if a.2.2 = 0 then b else if b.2.2 = 0 then a else
  if b.1 * a.2.2 = a.1 * b.2.2 then(if b.2.1 * a.2.2 = a.2.1 * b.2.2 then dbF a else(0, 1, 0)) else
  ((b.1 * a.2.2 - a.1 * b.2.2) * EC.frT (b.2.1 * a.2.2 - a.2.1 * b.2.2) (b.1 * a.2.2 - a.1 * b.2.2) (a.2.2 * b.2.2) (a.1 * b.2.2),
   (b.2.1 * a.2.2 - a.2.1 * b.2.2) * (a.1 * b.2.2 * ((b.1 * a.2.2 - a.1 * b.2.2) * (b.1 * a.2.2 - a.1 * b.2.2)) - EC.frT (b.2.1 * a.2.2 - a.2.1 * b.2.2) (b.1 * a.2.2 - a.1 * b.2.2) (a.2.2 * b.2.2) (a.1 * b.2.2)) - a.2.1 * b.2.2 * ((b.1 * a.2.2 - a.1 * b.2.2) * (b.1 * a.2.2 - a.1 * b.2.2) * (b.1 * a.2.2 - a.1 * b.2.2)),
   (b.1 * a.2.2 - a.1 * b.2.2) * (b.1 * a.2.2 - a.1 * b.2.2) * (b.1 * a.2.2 - a.1 * b.2.2) * (a.2.2 * b.2.2))
theorem FracT.plus(C:Fl3 P){a b:T3 P}{p q:EC.Pt P}(h:FracT a p)(h':FracT b q):Gives 42 #[tv a,tv b] (tv (plF a b))/\FracT (plF a b) (EC.add p q):=by
 have ho:=C.cur.on h.2 h'.2;obtain⟨x1,y1,z1⟩:=a;obtain⟨x2,y2,z2⟩:=b;refine⟨Aw C x1 y1 z1 x2 y2 z2 _ (fun n1=>by unfold plF;rw[if_pos n1]) (fun n1 n2=>by unfold plF;rw[if_neg n1,if_pos n2]) (fun n1 n2 e=>?_) (fun n1 n2 e1=>by unfold plF;rw[if_neg n1,if_neg n2,if_neg e1]),?_⟩
 ·rcases h.1.plus C.cur h.2 h'.1 h'.2 n1 n2 with⟨e1,e2,e3⟩|⟨e1,e2,e3,e4⟩|⟨e1,e2⟩
  ·exact .inl ⟨e2,by unfold plF;rw[if_neg n1,if_neg n2,if_pos e1,if_neg e2]⟩
  ·exact .inr ⟨e2,e3,by unfold plF;rw[if_neg n1,if_neg n2,if_pos e1,if_pos e2];rfl⟩
  ·exact absurd e e1
 unfold plF;by_cases n1:z1=0
 ·rw[if_pos n1];obtain rfl:=h.1.zero n1;exact h'
 ·rw[if_neg n1];by_cases n2:z2=0
  ·rw[if_pos n2];obtain rfl:=h'.1.zero n2;rw[EC.bL];exact h
  ·rw[if_neg n2];rcases h.1.plus C.cur h.2 h'.1 h'.2 n1 n2 with⟨e1,e2,e3⟩|⟨e1,e2,e3,e4⟩|⟨e1,e2⟩
   ·rw[if_pos e1,if_neg e2];refine⟨?_,ho⟩;rw[e3];exact rfl
   ·rw[if_pos e1,if_pos e2];refine⟨?_,ho⟩;rw[e4];exact h.1.double C.cur h.2 n1
   ·rw[if_neg e1];exact⟨e2,ho⟩
theorem FracT.none:FracT ((0,1,0):T3 P) .none:=⟨rfl,EC.fP⟩
def tmF(n:Nat)(t:T3 P):Nat->T3 P
 | 0=>(0,1,0)
 | m+1=>if n/2^(255-m)%2=1 then plF (plF (tmF n t m) (tmF n t m)) t else plF (tmF n t m) (tmF n t m)
theorem xH(C:Fl3 P){n:Nat}{t:T3 P}{p:EC.Pt P}(hn:n<2^256)(h:FracT t p):∀m,m<=256->FracT (tmF n t m) (EC.mul (n/2^(256-m)) p)
 | 0,_=>by
  rw[Nat.sub_zero,Nat.div_eq_of_lt hn];exact FracT.none
 | m+1,hm=>by
  have ih:=xH C hn h m (by omega);have e1:256-m=255-m+1:=by omega
  rw[show 256-(m+1)=255-m by omega,wK n (255-m),<-e1];unfold tmF;have h2:=(FracT.plus C ih ih).2;rw[<-EC.mul_add C.cur h.2,<-Nat.two_mul]at h2;by_cases hb:n/2^(255-m)%2=1
  ·rw[if_pos hb,hb];exact(FracT.plus C h2 h).2
  ·rw[if_neg hb,show n/2^(255-m)%2=0 by omega];exact h2
theorem nO(C:Fld P)(x y:Fin P):EC.Frac x y 1 (.some (x,y):EC.Pt P):=⟨fun h=>C.cur.two (by grobner),by grobner,by grobner⟩
end
section
open Go.RowKit Go.Sort Go.Deep
variable {P:Nat}[NeZero P]{N:Nat}
def gxB:Bs:=#[121,190,102,126,249,220,187,172,85,160,98,149,206,135,11,7,2,155,252,219,45,206,40,217,89,242,129,91,22,248,23,152]
theorem NH(C:Fld P):Gives 127 #[.string ⟨gxB⟩] (fv (gX P)):=fun w=>(B6 ⟨gxB⟩ rfl w).mono (by
 rintro e w' ⟨v,rfl,hb,hF⟩;refine⟨_,rfl,hb,?_⟩;have h:=hF.nv;rw[h];show nv _=nv _;rw[A4 C];exact congrArg nv (by decide +kernel:beV gxB.toList=55066263022277343669578718895168534326250603453777594175500187360389116729240))
theorem KQ(C:Fld P):rt (gX P*gX P*gX P+7)=some (gY P):=by
 have h:=uR C;have h1:gY P^2=gX P^3+7:=h;have h2:gY P*gY P=gX P*gX P*gX P+7:=by
  generalize gX P=x at *;generalize gY P=y at *;clear h C
  grobner
 rw[EB C h2,if_neg];rw[A3 C];decide
def gT(P:Nat)[NeZero P]:T3 P:=(gX P,gY P,1)
theorem IE(C:Fld P):FracT (gT P) (gG P):=⟨nO C _ _,uR C⟩
theorem L9(C:Fl3 P):Gives 79 #[] (tv (gT P)):=by
 intro w;go_enter Tryz.func79,Tryz.ntmps79;refine RG.M.enter [] 11 (by kernel_rfl) ?_;intro a0 M0;repeat refine wp_seq ?_
 refine M0.t [.m 0 [] 0] [(0,(RG.z 12))] [] [(RG.z 12)] [(0,(.p 0 0))] ⟨RG.mk 0 60,trivial⟩ ?_;intro j1 a1 w1 M1;repeat refine wp_seq ?_
 refine M1.t [.c 4 [] (fv (gX P)),.m 1 [] 1,.u [(1,1),(4,0)] 1] [(1,(RG.z 4))] [(1,2,(ws (gX P)))] [(RG.z 12),(ws (gX P))] [(0,(.p 0 0)),(1,(.p 1 0))] ⟨RG.cl (NH C.toFld),RG.mk 1 52,RG.pt i33,trivial⟩ ?_;intro j2 a2 w2 M2;repeat refine wp_seq ?_
 refine M2.t [.x 6 [] (fv (gX P)),.c 7 [(6,0)] (.tuple #[(rv (gX P) (gY P) (1:Fin P)),(.bool true)]),.x 5 [(7,1)] (.tuple #[(rv (gX P) (gY P) (1:Fin P)),(.bool true)]),.x 8 [(5,2)] (rv (gX P) (gY P) (1:Fin P)),.x 9 [(5,2)] (.bool true),.m 2 [] 2,.u [(2,5),(8,3)] 2,.x 3 [(9,4)] (.bool true)] [(5,(RG.z 12))] [(2,6,(ws (gX P)++(ws (gY P)++(ws (1:Fin P)))))] [(RG.z 12),(ws (gX P)),(ws (gX P)++(ws (gY P)++(ws (1:Fin P))))] [(0,(.p 0 0)),(2,(.p 2 0))] ⟨RG.ld u33 i33,RG.cl (vW C (gX P) (gY P) (KQ C.toFld)),RG.st,RG.st,RG.st,RG.mk 2 60,RG.pt i56,RG.st,trivial⟩ ?_;intro j3 a3 w3 M3;repeat refine wp_seq ?_
 refine M3.t [.x 10 [] (rv (gX P) (gY P) (1:Fin P)),.u [(10,0)] 0] [] [(0,1,(ws (gX P)++(ws (gY P)++(ws (1:Fin P)))))] [(ws (gX P)++(ws (gY P)++(ws (1:Fin P)))),(ws (gX P)),(ws (gX P)++(ws (gY P)++(ws (1:Fin P))))] [(0,(.p 0 0))] ⟨RG.ld u56 i56,RG.pt i56,trivial⟩ ?_;intro a4 w4 M4;refine wp_ret ?_;refine bodyPost_ret (v:=tv (gT P)) (RG.aF M4.st 0 60 rfl 0 _ rfl (M4.at (s:=.p 0 0)) u56 i56) M4.sl.defers ?_;exact⟨_,rfl,M4.st.bel.below,rfl⟩
end
section
open Go.RowKit Go.Sort
variable {P:Nat}[NeZero P]{N:Nat}
theorem Mq(i:Nat)(w:World):(binOp .geq 3 (.int .i64 i) (.int .i64 0)).run prog w=.ok (.bool true) w:=by
 go_simp
theorem LP(i:Nat)(hi:i<1000)(w:World):(binOp .sub 3 (.int .i64 i) (.int .i64 1)).run prog w=.ok (.int .i64 ((i:Int)-1)) w:=by
 have h:=Pa ((i:Int)-1) (by omega);go_simp
theorem Kg{n i:Nat}(hn:n<top)(hi:i<256)(h:n/2^i%2=1):Gives 101 #[nv n,.int .i64 i] (.int .u64 1):=fun w =>
 (m7 _ n i (lK hn) hi w).mono (by rintro e w' ⟨v,rfl,hb,t,rfl,ht⟩;exact⟨_,rfl,hb,by rw[ht,h];rfl⟩)
theorem Kh{n i:Nat}(hn:n<top)(hi:i<256)(h:¬n/2^i%2=1):Gives 101 #[nv n,.int .i64 i] (.int .u64 0):=fun w =>
 (m7 _ n i (lK hn) hi w).mono (by rintro e w' ⟨v,rfl,hb,t,rfl,ht⟩;exact⟨_,rfl,hb,by rw[ht,show n/2^i%2=0 by omega];rfl⟩)
theorem rN(C:Fl3 P)(n:Nat)(hn:n<top)(t:T3 P){p:EC.Pt P}(h:FracT t p):Gives 43 #[nv n,tv t] (tv (tmF n t 256)):=by
 intro w;go_enter Tryz.func43,Tryz.ntmps43;refine RG.GE (v0:=nv n) (v1:=tv t) (n:=23) (by kernel_rfl) (by kernel_rfl) (by kernel_rfl) (by kernel_rfl) ?_;intro a0 sl0 f0 f1;have hS0:=RG.St.begin w;have M0:RG.M w w.heap.size [] 23 [] [] [(0,(.v (nv n))),(1,(.v (tv t)))] a0 _:=⟨hS0,sl0,⟨f0,f1,trivial⟩⟩
 repeat refine wp_seq ?_
 refine M0.t [.m 2 [] 0,.m 3 [] 1,.m 4 [] 2] [(0,(wn n)),(1,(tw t)),(2,(RG.z 12))] [] [(wn n),(tw t),(RG.z 12)] [(2,(.p 0 0)),(3,(.p 1 0)),(4,(.p 2 0))] ⟨RG.mk 0 52,RG.mk 1 60,RG.mk 2 60,trivial⟩ ?_;intro j1 i1 m1 a1 w1 M1;repeat refine wp_seq ?_
 refine M1.t [.c 7 [] (tv ((0,1,0):T3 P)),.m 5 [] 3,.u [(5,1),(7,0)] 3] [(1,(RG.z 12))] [(3,2,(tw ((0,1,0):T3 P)))] [(wn n),(tw t),(RG.z 12),(tw ((0,1,0):T3 P))] [(2,(.p 0 0)),(3,(.p 1 0)),(4,(.p 2 0)),(5,(.p 3 0))] ⟨RG.cl (BE C),RG.mk 3 60,RG.pt i56,trivial⟩ ?_;intro j2 a2 w2 M2;repeat refine wp_seq ?_
 refine M2.u [.x 6 [] (.int .i64 255)] [(2,(.p 0 0)),(3,(.p 1 0)),(4,(.p 2 0)),(5,(.p 3 0)),(6,(.v (.int .i64 255)))] ⟨RG.st,trivial⟩ ?_;intro a3 w3 M3;have f2_3:a3.tmps[2]? = some (.pointer (some ⟨j1,0,none⟩)):=M3.at (s:=(.p 0 0));have f3_3:a3.tmps[3]? = some (.pointer (some ⟨i1,0,none⟩)):=M3.at (s:=(.p 1 0));have f4_3:a3.tmps[4]? = some (.pointer (some ⟨m1,0,none⟩)):=M3.at (s:=(.p 2 0));have f5_3:a3.tmps[5]? = some (.pointer (some ⟨j2,0,none⟩)):=M3.at (s:=(.p 3 0));have f6_3:a3.tmps[6]? = some (.int .i64 255):=M3.at (s:=(.v (.int .i64 255)));repeat refine wp_seq ?_
 refine wp_block ?_;refine wp_loop_ghost (fun m a wr=>m<=256/\RG.Sl a 23/\a.tmps[2]? = some (.pointer (some ⟨j1,0,none⟩))/\a.tmps[3]? = some (.pointer (some ⟨i1,0,none⟩))/\a.tmps[4]? = some (.pointer (some ⟨m1,0,none⟩))/\a.tmps[5]? = some (.pointer (some ⟨j2,0,none⟩))/\a.tmps[6]? = some (.int .i64 ((m:Int)-1))/\RG.St w w.heap.size [] [wn n,tw t,[.int .u64 0,.int .u64 0,.int .u64 0,.int .u64 0,.int .u64 0,.int .u64 0,.int .u64 0,.int .u64 0,.int .u64 0,.int .u64 0,.int .u64 0,.int .u64 0],tw (tmF n t (256-m))] [j1,i1,m1,j2] wr) 256 ⟨Oh _,M3.sl,f2_3,f3_3,f4_3,f5_3,f6_3,?_⟩ ?_
 ·rw[Nat.sub_self,tmF];exact M3.st
 intro m a wr;rintro⟨hm,sl,f2,f3,f4,f5,f6,hS⟩;have hn2:n<2^256:=hn;generalize j1=k2 at f2 f3 f4 f5 hS;generalize i1=k3 at f2 f3 f4 f5 hS;generalize m1=k4 at f2 f3 f4 f5 hS;generalize j2=k5 at f2 f3 f4 f5 hS;by_cases hz:m=0
 ·subst hz;have e256:tmF n t (256-0)=tmF n t 256:=rfl;rw[e256]at hS;obtain⟨s,hs⟩:∃s,tmF n t 256=s:=⟨_,rfl⟩
  rw[hs]at hS⊢;have M0:RG.M w w.heap.size [] 23 [(wn n),(tw t),(RG.z 12),(tw s)] [k2,k3,k4,k5] [(2,(.p 0 0)),(3,(.p 1 0)),(4,(.p 2 0)),(5,(.p 3 0)),(6,(.v (.int .i64 (-1))))] a _:=⟨hS,sl,⟨f2,f3,f4,f5,f6,trivial⟩⟩
  repeat refine wp_seq ?_
  refine M0.u [.x 8 [] (.int .i64 (-1)),.x 9 [(8,0)] (.bool false)] [(4,(.p 2 0)),(5,(.p 3 0)),(9,(.v (.bool false)))] ⟨RG.st,RG.st,trivial⟩ ?_;intro a1 w1 M1;repeat refine wp_seq ?_
  refine wp_cond_false M1.ev ?_;refine wp_exit ?_;dsimp only[Exit.then,QK];rw[if_pos rfl];repeat refine wp_seq ?_
  refine M1.t [.x 22 [] (tv s),.u [(22,0)] 2] [] [(2,1,(tw s))] [(wn n),(tw t),(tw s),(tw s)] [(4,(.p 2 0))] ⟨RG.ld u56 i56,RG.pt i56,trivial⟩ ?_;intro a2 w2 M2;refine wp_ret ?_;refine bodyPost_ret (v:=tv s) (RG.aF M2.st 4 60 rfl 2 _ rfl (M2.at (s:=(.p 2 0))) u56 i56) M2.sl.defers ?_;exact⟨_,rfl,M2.st.bel.below,rfl⟩
 ·obtain⟨i,rfl⟩:∃i,m=i+1:=⟨m-1,by omega⟩
  have hi:i<256:=by omega
  replace f6:a.tmps[6]? = some (.int .i64 i):=by rw[f6];congr 2;omega
  have ih:=xH C hn2 h (256-(i+1)) (by omega);obtain⟨s,hs⟩:∃s,tmF n t (256-(i+1))=s:=⟨_,rfl⟩
  rw[hs]at hS ih;obtain⟨s2,hs2⟩:∃s2,s2=plF s s:=⟨_,rfl⟩
  have hp1:=(ih.plus C ih).1;have ih2:=(ih.plus C ih).2;rw[<-hs2]at hp1 ih2;obtain⟨s3,hs3⟩:∃s3,s3=plF s2 t:=⟨_,rfl⟩
  have hp2:=(ih2.plus C h).1;rw[<-hs3]at hp2;have hstep:tmF n t (256-i)=if n/2^i%2=1 then s3 else s2:=by
   rw[show 256-i=256-(i+1)+1 by omega];show(if n/2^(255-(256-(i+1)))%2=1 then plF (plF (tmF n t (256-(i+1))) (tmF n t (256-(i+1)))) t else plF (tmF n t (256-(i+1))) (tmF n t (256-(i+1))))=_;rw[show 255-(256-(i+1))=i by omega,hs,<-hs2,<-hs3]
  by_cases hb:n/2^i%2=1
  ·rw[if_pos hb]at hstep;have M0:RG.M w w.heap.size [] 23 [(wn n),(tw t),(RG.z 12),(tw s)] [k2,k3,k4,k5] [(2,(.p 0 0)),(3,(.p 1 0)),(4,(.p 2 0)),(5,(.p 3 0)),(6,(.v (.int .i64 i)))] a _:=⟨hS,sl,⟨f2,f3,f4,f5,f6,trivial⟩⟩
   repeat refine wp_seq ?_
   refine M0.u [.x 8 [] (.int .i64 i),.x 9 [(8,0)] (.bool true)] [(2,(.p 0 0)),(3,(.p 1 0)),(4,(.p 2 0)),(5,(.p 3 0)),(6,(.v (.int .i64 i))),(9,(.v (.bool true)))] ⟨RG.st,RG.aI rfl .geq 3 3 8 (.int .i64 i) (.int .i64 0) (.bool true) rfl rfl RG.sx (fun w=>by kernel_rfl) (Mq i),trivial⟩ ?_;intro a1 w1 M1;repeat refine wp_seq ?_
   refine wp_cond_true M1.ev ?_;refine wp_skip ?_;refine wp_seq ?_;refine wp_block ?_;repeat refine wp_seq ?_
   refine M1.t [.x 12 [] (tv s),.x 13 [] (tv s),.c 14 [(12,0),(13,1)] (tv s2),.u [(14,2)] 3] [] [(3,3,(tw s2))] [(wn n),(tw t),(RG.z 12),(tw s2)] [(2,(.p 0 0)),(3,(.p 1 0)),(4,(.p 2 0)),(5,(.p 3 0)),(6,(.v (.int .i64 i)))] ⟨RG.ld u56 i56,RG.ld u56 i56,RG.cl (hp1),RG.pt i56,trivial⟩ ?_;intro a2 w2 M2;repeat refine wp_seq ?_
   refine M2.u [.x 15 [] (nv n),.x 16 [] (.int .i64 i),.c 17 [(15,0),(16,1)] (.int .u64 1),.x 18 [(17,2)] (.bool true)] [(2,(.p 0 0)),(3,(.p 1 0)),(4,(.p 2 0)),(5,(.p 3 0)),(6,(.v (.int .i64 i))),(18,(.v (.bool true)))] ⟨RG.ld u33 i33,RG.st,RG.cl (Kg hn hi hb),RG.st,trivial⟩ ?_;intro a3 w3 M3;repeat refine wp_seq ?_
   refine wp_cond_true M3.ev ?_;repeat refine wp_seq ?_
   refine M3.t [.x 19 [] (tv s2),.x 20 [] (tv t),.c 21 [(19,0),(20,1)] (tv s3),.u [(21,2)] 3] [] [(3,3,(tw s3))] [(wn n),(tw t),(RG.z 12),(tw s3)] [(2,(.p 0 0)),(3,(.p 1 0)),(4,(.p 2 0)),(5,(.p 3 0)),(6,(.v (.int .i64 i)))] ⟨RG.ld u56 i56,RG.ld u56 i56,RG.cl (hp2),RG.pt i56,trivial⟩ ?_;intro a4 w4 M4;repeat refine wp_seq ?_
   refine M4.u [.x 10 [] (.int .i64 i),.x 11 [(10,0)] (.int .i64 ((i:Int)-1)),.x 6 [(11,1)] (.int .i64 ((i:Int)-1))] [(2,(.p 0 0)),(3,(.p 1 0)),(4,(.p 2 0)),(5,(.p 3 0)),(6,(.v (.int .i64 ((i:Int)-1))))] ⟨RG.st,RG.aI rfl .sub 3 3 10 (.int .i64 i) (.int .i64 1) (.int .i64 ((i:Int)-1)) rfl rfl RG.sx (fun w=>by kernel_rfl) (LP i (by omega)),RG.st,trivial⟩ ?_;intro a5 w5 M5;have f2_5:a5.tmps[2]? = some (.pointer (some ⟨k2,0,none⟩)):=M5.at (s:=(.p 0 0));have f3_5:a5.tmps[3]? = some (.pointer (some ⟨k3,0,none⟩)):=M5.at (s:=(.p 1 0));have f4_5:a5.tmps[4]? = some (.pointer (some ⟨k4,0,none⟩)):=M5.at (s:=(.p 2 0));have f5_5:a5.tmps[5]? = some (.pointer (some ⟨k5,0,none⟩)):=M5.at (s:=(.p 3 0));have f6_5:a5.tmps[6]? = some (.int .i64 ((i:Int)-1)):=M5.at (s:=(.v (.int .i64 ((i:Int)-1))));show ∃n',_;exact⟨i,QR i,by omega,M5.sl,f2_5,f3_5,f4_5,f5_5,f6_5,by rw[hstep];exact M5.st⟩
  ·rw[if_neg hb]at hstep;have M0:RG.M w w.heap.size [] 23 [(wn n),(tw t),(RG.z 12),(tw s)] [k2,k3,k4,k5] [(2,(.p 0 0)),(3,(.p 1 0)),(4,(.p 2 0)),(5,(.p 3 0)),(6,(.v (.int .i64 i)))] a _:=⟨hS,sl,⟨f2,f3,f4,f5,f6,trivial⟩⟩
   repeat refine wp_seq ?_
   refine M0.u [.x 8 [] (.int .i64 i),.x 9 [(8,0)] (.bool true)] [(2,(.p 0 0)),(3,(.p 1 0)),(4,(.p 2 0)),(5,(.p 3 0)),(6,(.v (.int .i64 i))),(9,(.v (.bool true)))] ⟨RG.st,RG.aI rfl .geq 3 3 8 (.int .i64 i) (.int .i64 0) (.bool true) rfl rfl RG.sx (fun w=>by kernel_rfl) (Mq i),trivial⟩ ?_;intro a1 w1 M1;repeat refine wp_seq ?_
   refine wp_cond_true M1.ev ?_;refine wp_skip ?_;refine wp_seq ?_;refine wp_block ?_;repeat refine wp_seq ?_
   refine M1.t [.x 12 [] (tv s),.x 13 [] (tv s),.c 14 [(12,0),(13,1)] (tv s2),.u [(14,2)] 3] [] [(3,3,(tw s2))] [(wn n),(tw t),(RG.z 12),(tw s2)] [(2,(.p 0 0)),(3,(.p 1 0)),(4,(.p 2 0)),(5,(.p 3 0)),(6,(.v (.int .i64 i)))] ⟨RG.ld u56 i56,RG.ld u56 i56,RG.cl (hp1),RG.pt i56,trivial⟩ ?_;intro a2 w2 M2;repeat refine wp_seq ?_
   refine M2.u [.x 15 [] (nv n),.x 16 [] (.int .i64 i),.c 17 [(15,0),(16,1)] (.int .u64 0),.x 18 [(17,2)] (.bool false)] [(2,(.p 0 0)),(3,(.p 1 0)),(4,(.p 2 0)),(5,(.p 3 0)),(6,(.v (.int .i64 i))),(18,(.v (.bool false)))] ⟨RG.ld u33 i33,RG.st,RG.cl (Kh hn hi hb),RG.st,trivial⟩ ?_;intro a3 w3 M3;repeat refine wp_seq ?_
   refine wp_cond_false M3.ev ?_;refine wp_skip ?_;repeat refine wp_seq ?_
   refine M3.u [.x 10 [] (.int .i64 i),.x 11 [(10,0)] (.int .i64 ((i:Int)-1)),.x 6 [(11,1)] (.int .i64 ((i:Int)-1))] [(2,(.p 0 0)),(3,(.p 1 0)),(4,(.p 2 0)),(5,(.p 3 0)),(6,(.v (.int .i64 ((i:Int)-1))))] ⟨RG.st,RG.aI rfl .sub 3 3 10 (.int .i64 i) (.int .i64 1) (.int .i64 ((i:Int)-1)) rfl rfl RG.sx (fun w=>by kernel_rfl) (LP i (by omega)),RG.st,trivial⟩ ?_;intro a4 w4 M4;have f2_4:a4.tmps[2]? = some (.pointer (some ⟨k2,0,none⟩)):=M4.at (s:=(.p 0 0));have f3_4:a4.tmps[3]? = some (.pointer (some ⟨k3,0,none⟩)):=M4.at (s:=(.p 1 0));have f4_4:a4.tmps[4]? = some (.pointer (some ⟨k4,0,none⟩)):=M4.at (s:=(.p 2 0));have f5_4:a4.tmps[5]? = some (.pointer (some ⟨k5,0,none⟩)):=M4.at (s:=(.p 3 0));have f6_4:a4.tmps[6]? = some (.int .i64 ((i:Int)-1)):=M4.at (s:=(.v (.int .i64 ((i:Int)-1))));show ∃n',_;exact⟨i,QR i,by omega,M4.sl,f2_4,f3_4,f4_4,f5_4,f6_4,by rw[hstep];exact M4.st⟩
end
section
open Go.RowKit Go.Sort Go.Deep
variable {P:Nat}[NeZero P]{N:Nat}
theorem yA(C:Fld P)(x:Fin P):Gives 33 #[fv x] (.string ⟨bx x.val⟩):=fun w =>
 (rQ _ _ w (C.four x)).mono (by
  rintro e w' ⟨v,rfl,hb,a,b,c,d,he,rfl⟩;refine⟨_,rfl,hb,?_⟩;have h2:fv x=.agg #[.int .u64 ((x.val%18446744073709551616:Nat):Int),.int .u64 ((x.val/18446744073709551616%18446744073709551616:Nat):Int),.int .u64 ((x.val/340282366920938463463374607431768211456%18446744073709551616:Nat):Int),.int .u64 ((x.val/6277101735386680763835789423207666416102355444464034512896%18446744073709551616:Nat):Int)]:=rfl;rw[h2]at he;simp only[O8.injEq,Array.mk.injEq,List.cons.injEq,Pi.injEq,true_and,and_true,Int.ofNat_inj]at he;obtain⟨rfl,rfl,rfl,rfl⟩:=he;rfl)
theorem u31:(prog.underlying 39).map (·.isRow)=some false:=by kernel_rfl
theorem and1(n r:Nat)(hr:n%2=r)(w:World):(binOp .and 39 (.int .u64 ((n%18446744073709551616:Nat):Int)) (.int .u64 1)).run prog w=.ok (.int .u64 r) w:=by
 have h:=and_one (n%18446744073709551616) (Nat.mod_lt _ (by decide));rw[show n%18446744073709551616%2=r by omega]at h;generalize n%18446744073709551616=k at h⊢;go_simp
theorem cat(m:UInt8)(n:Nat)(w:World):(binOp .add 9 (.string ⟨#[m]⟩) (.string ⟨bx n⟩)).run prog w=.ok (.string ⟨#[m]++bx n⟩) w:=by
 have h:=bM n;generalize bx n=b at h⊢;have h2:(⟨#[m]⟩:ByteArray)++⟨b⟩=⟨#[m]++b⟩:=by
  have h3:((⟨#[m]⟩:ByteArray)++⟨b⟩).data=#[m]++b:=QW;rw[<-h3]
 go_simp
theorem bs1(m:Int)(w:World):(S8 22 1 #[(0,.int .u8 m)]).run prog w=.ok (.slice (some ⟨w.heap.size,0,none⟩) 1 1) (w.alloc (.cells #[.int .u8 m] 5)):=by
 obtain⟨ie,hie,he⟩:=Ol.1 AX;simp only[P3.injEq]at he;obtain⟨h1,h2,-⟩:=he;exact run_buildSlice w 22 5 1 _ #[.int .u8 m] ie (.int .u8 0) Eh hie h1 (by rw[h2];omega) (by rw[h2];omega) (by rw[h2];kernel_rfl)
theorem str1(m:UInt8)(w:World)(k:Nat)(h:w.rangeAt k 0 [.int .u8 (ub m)]):(convert 22 9 (.slice (some ⟨k,0,none⟩) 1 1)).run prog w=.ok (.string ⟨#[m]⟩) w:=by
 have h2:=run_convert_bytes_back (P:=prog) w 22 9 5 ⟨k,0,none⟩ 1 [m] slice22 int5 str9 (fun j hj=>by
  obtain rfl:j=0:=by simpa using hj
  have h3:=h 0 _ rfl;have e1:(⟨k,0,none⟩:Addr).add 0=⟨k,0,none⟩:=rfl;rw[e1,h3];simp[ub])
 simpa using h2
omit [NeZero P] in
theorem JP(x y z:Fin P):∃a1 b1 c1 d1 a2 b2 c2 d2 a3 b3 c3 d3:Nat,rv x y z=.agg #[.int .u64 a1,.int .u64 b1,.int .u64 c1,.int .u64 d1,.int .u64 a2,.int .u64 b2,.int .u64 c2,.int .u64 d2,.int .u64 a3,.int .u64 b3,.int .u64 c3,.int .u64 d3]:=
 ⟨_,_,_,_,_,_,_,_,_,_,_,_,rfl⟩
theorem LY(C:Fl3 P)(x y z:Fin P)(hz:z=0):Gives 29 #[rv x y z] (.string ⟨mP⟩):=by
 intro w;have hI:=mN C x y z hz;obtain⟨a1,b1,c1,d1,a2,b2,c2,d2,a3,b3,c3,d3,e⟩:=JP x y z;rw[e]at hI⊢;have hmk:=AV;go_enter Tryz.func29,Tryz.ntmps29;go_wp2_with fail
 refine(hI _).mono ?_;rintro e w1 ⟨v,rfl,hb1,rfl⟩;have HB:Hid (Below w.heap.size w w1):=(aH w _).trans (hb1.mono (by simp));have hcv:(convert 22 9 (.slice (some ⟨w1.heap.size,0,none⟩) 33 33)).run prog (w1.alloc (.cells (madeCells #[.int .u8 0] 33) 5))=.ok (.string ⟨mP⟩) (w1.alloc (.cells (madeCells #[.int .u8 0] 33) 5)):=
  conv_str prog 22 9 5 slice22 int5 str9 _ _ 0 33 33 _ (Holds.made (enc:=encB) w1 5 33 (0:UInt8)) (by decide)
 clear hb1 hI;go_wp2;go_ret;exact⟨_,rfl,HB.out.trans ((aH w1 _).mono HB.out.size),rfl⟩
theorem Hr(C:Fl3 P)(x y z:Fin P)(hz:¬z=0)(hpar:(y*EC.inv z).val%2=0):Gives 29 #[(rv x y z)] (.string ⟨#[2]++bx (x*EC.inv z).val⟩):=by
 intro w;obtain⟨c1,hc1⟩:∃c,c=EC.inv z:=⟨_,rfl⟩
 obtain⟨c2,hc2⟩:∃c,c=x*c1:=⟨_,rfl⟩
 obtain⟨c3,hc3⟩:∃c,c=y*c1:=⟨_,rfl⟩
 have hfin:((.string ⟨#[2]++bx c2.val⟩):Value)=(.string ⟨#[2]++bx (x*EC.inv z).val⟩):=by
  subst_vars;rfl
 rw[<-hfin];go_enter Tryz.func29,Tryz.ntmps29;refine RG.M.enter [(0,(.v (rv x y z)))] 36 (by kernel_rfl) ?_;intro a0 M0;repeat refine wp_seq ?_
 refine M0.t [.m 1 [] 0,.x 2 [] (.string ⟨#[]⟩)] [(0,(ws x++(ws y++(ws z))))] [] [(ws x++(ws y++(ws z)))] [(1,(.p 0 0)),(2,(.v (.string ⟨#[]⟩)))] ⟨RG.mk 0 60,RG.st,trivial⟩ ?_;intro j1 a1 w1 M1;repeat refine wp_seq ?_
 refine M1.u [.x 7 [] (rv x y z),.c 8 [(7,0)] (.bool false),.x 3 [(8,1)] (.bool false)] [(1,(.p 0 0)),(2,(.v (.string ⟨#[]⟩))),(3,(.v (.bool false)))] ⟨RG.ld u56 i56,RG.cl (fN C x y z hz),RG.st,trivial⟩ ?_;intro a2 w2 M2;repeat refine wp_seq ?_
 refine M2.u [.x 9 [] (.bool false)] [(1,(.p 0 0)),(2,(.v (.string ⟨#[]⟩))),(9,(.v (.bool false)))] ⟨RG.st,trivial⟩ ?_;intro a3 w3 M3;repeat refine wp_seq ?_
 refine wp_cond_false M3.ev ?_;refine wp_skip ?_;repeat refine wp_seq ?_
 refine M3.d [.c 12 [] rv0,.s 13 [] (.p 0 8),.x 14 [(13,1)] (fv z),.c 15 [(12,0),(14,2)] (fv c1),.m 4 [] 1,.u [(4,4),(15,3)] 1] [(4,(RG.z 4))] [(1,5,(ws c1))] [(ws x++(ws y++(ws z))),(ws c1)] [(1,(.p 0 0)),(2,(.v (.string ⟨#[]⟩))),(4,(.p 1 0))] ⟨RG.cl (bD),RG.st,RG.ld u33 i33,RG.cl ((ER C z).e hc1),RG.mk 1 52,RG.pt i33,trivial⟩ ?_;intro j4 a4 w4 M4;repeat refine wp_seq ?_
 refine M4.d [.c 16 [] rv0,.s 17 [] (.p 0 0),.x 18 [(17,1)] (fv x),.x 19 [] (fv c1),.c 20 [(16,0),(18,2),(19,3)] (fv c2),.m 5 [] 2,.u [(5,5),(20,4)] 2] [(5,(RG.z 4))] [(2,6,(ws c2))] [(ws x++(ws y++(ws z))),(ws c1),(ws c2)] [(1,(.p 0 0)),(2,(.v (.string ⟨#[]⟩))),(4,(.p 1 0)),(5,(.p 2 0))] ⟨RG.cl (bD),RG.st,RG.ld u33 i33,RG.ld u33 i33,RG.cl ((aQ C x c1).e hc2),RG.mk 2 52,RG.pt i33,trivial⟩ ?_;intro j5 a5 w5 M5;repeat refine wp_seq ?_
 refine M5.d [.c 21 [] rv0,.s 22 [] (.p 0 4),.x 23 [(22,1)] (fv y),.x 24 [] (fv c1),.c 25 [(21,0),(23,2),(24,3)] (fv c3),.m 6 [] 3,.u [(6,5),(25,4)] 3] [(5,(RG.z 4))] [(3,6,(ws c3))] [(ws x++(ws y++(ws z))),(ws c1),(ws c2),(ws c3)] [(2,(.v (.string ⟨#[]⟩))),(5,(.p 2 0)),(6,(.p 3 0))] ⟨RG.cl (bD),RG.st,RG.ld u33 i33,RG.ld u33 i33,RG.cl ((aQ C y c1).e hc3),RG.mk 3 52,RG.pt i33,trivial⟩ ?_;intro j6 a6 w6 M6;repeat refine wp_seq ?_
 refine M6.d [.s 26 [] (.p 3 0),.x 27 [(26,0)] (.int .u64 ((c3.val%18446744073709551616:Nat):Int)),.x 28 [(27,1)] (.int .u64 0),.x 29 [(28,2)] (.int .u8 0),.x 30 [(29,3)] (.int .u8 2),⟨some 31,[(30,4)],(.s 4 1 1),.make 4⟩,.x 32 [(31,5)] (.string ⟨#[2]⟩),.x 33 [] (fv c2),.c 34 [(33,7)] (.string ⟨bx c2.val⟩),.x 35 [(32,6),(34,8)] (.string ⟨#[2]++bx c2.val⟩),.x 2 [(35,9)] (.string ⟨#[2]++bx c2.val⟩)] [(5,[(.int .u8 2)])] [] [(ws x++(ws y++(ws z))),(ws c1),(ws c2),(ws c3),[(.int .u8 2)]] [(2,(.v (.string ⟨#[2]++bx c2.val⟩)))] ⟨RG.cO rfl 52 6 (.int .i64 0) rfl (.p 3 0) RG.sx (fun μ w=>by kernel_rfl),RG.jQ rfl 3 0 _ rfl rfl (by kernel_rfl) 39 26 rfl (.int .u64 ((c3.val%18446744073709551616:Nat):Int)) rfl RG.sx rfl u31,RG.aI rfl .and 39 39 27 (.int .u64 ((c3.val%18446744073709551616:Nat):Int)) (.int .u64 1) (.int .u64 0) rfl rfl RG.sx (fun w=>by kernel_rfl) (and1 c3.val 0 (by subst_vars;exact hpar)),RG.fV rfl 39 5 28 (.int .u64 0) (.int .u8 0) rfl rfl RG.sx (fun w=>by kernel_rfl),RG.st,RG.kS 4 rfl _ rfl 22 5 30 (.int .u8 2) rfl rfl RG.sx (bs1 2),RG.kR rfl 4 5 _ rfl _ rfl rfl (by kernel_rfl) (by kernel_rfl) 22 9 31 1 (.string ⟨#[2]⟩) rfl rfl RG.sx (fun w k h=>str1 2 w k h),RG.ld u33 i33,RG.cl (yA C.toFld c2),RG.aK rfl .add 9 9 32 34 (.string ⟨#[2]⟩) (.string ⟨bx c2.val⟩) (.string ⟨#[2]++bx c2.val⟩) rfl rfl RG.sx RG.sx (fun w=>by kernel_rfl) (cat 2 _),RG.st,trivial⟩ ?_;intro j7 a7 w7 M7;refine wp_ret ?_;refine bodyPost_ret (v:=(.string ⟨#[2]++bx c2.val⟩)) (RG.aV 2 rfl _ (M7.at (s:=(.v (.string ⟨#[2]++bx c2.val⟩))))) M7.sl.defers ?_;exact⟨_,rfl,M7.st.bel.below,rfl⟩
theorem Hq(C:Fl3 P)(x y z:Fin P)(hz:¬z=0)(hpar:(y*EC.inv z).val%2=1):Gives 29 #[(rv x y z)] (.string ⟨#[3]++bx (x*EC.inv z).val⟩):=by
 intro w;obtain⟨c1,hc1⟩:∃c,c=EC.inv z:=⟨_,rfl⟩
 obtain⟨c2,hc2⟩:∃c,c=x*c1:=⟨_,rfl⟩
 obtain⟨c3,hc3⟩:∃c,c=y*c1:=⟨_,rfl⟩
 have hfin:((.string ⟨#[3]++bx c2.val⟩):Value)=(.string ⟨#[3]++bx (x*EC.inv z).val⟩):=by
  subst_vars;rfl
 rw[<-hfin];go_enter Tryz.func29,Tryz.ntmps29;refine RG.M.enter [(0,(.v (rv x y z)))] 36 (by kernel_rfl) ?_;intro a0 M0;repeat refine wp_seq ?_
 refine M0.t [.m 1 [] 0,.x 2 [] (.string ⟨#[]⟩)] [(0,(ws x++(ws y++(ws z))))] [] [(ws x++(ws y++(ws z)))] [(1,(.p 0 0)),(2,(.v (.string ⟨#[]⟩)))] ⟨RG.mk 0 60,RG.st,trivial⟩ ?_;intro j1 a1 w1 M1;repeat refine wp_seq ?_
 refine M1.u [.x 7 [] (rv x y z),.c 8 [(7,0)] (.bool false),.x 3 [(8,1)] (.bool false)] [(1,(.p 0 0)),(2,(.v (.string ⟨#[]⟩))),(3,(.v (.bool false)))] ⟨RG.ld u56 i56,RG.cl (fN C x y z hz),RG.st,trivial⟩ ?_;intro a2 w2 M2;repeat refine wp_seq ?_
 refine M2.u [.x 9 [] (.bool false)] [(1,(.p 0 0)),(2,(.v (.string ⟨#[]⟩))),(9,(.v (.bool false)))] ⟨RG.st,trivial⟩ ?_;intro a3 w3 M3;repeat refine wp_seq ?_
 refine wp_cond_false M3.ev ?_;refine wp_skip ?_;repeat refine wp_seq ?_
 refine M3.d [.c 12 [] rv0,.s 13 [] (.p 0 8),.x 14 [(13,1)] (fv z),.c 15 [(12,0),(14,2)] (fv c1),.m 4 [] 1,.u [(4,4),(15,3)] 1] [(4,(RG.z 4))] [(1,5,(ws c1))] [(ws x++(ws y++(ws z))),(ws c1)] [(1,(.p 0 0)),(2,(.v (.string ⟨#[]⟩))),(4,(.p 1 0))] ⟨RG.cl (bD),RG.st,RG.ld u33 i33,RG.cl ((ER C z).e hc1),RG.mk 1 52,RG.pt i33,trivial⟩ ?_;intro j4 a4 w4 M4;repeat refine wp_seq ?_
 refine M4.d [.c 16 [] rv0,.s 17 [] (.p 0 0),.x 18 [(17,1)] (fv x),.x 19 [] (fv c1),.c 20 [(16,0),(18,2),(19,3)] (fv c2),.m 5 [] 2,.u [(5,5),(20,4)] 2] [(5,(RG.z 4))] [(2,6,(ws c2))] [(ws x++(ws y++(ws z))),(ws c1),(ws c2)] [(1,(.p 0 0)),(2,(.v (.string ⟨#[]⟩))),(4,(.p 1 0)),(5,(.p 2 0))] ⟨RG.cl (bD),RG.st,RG.ld u33 i33,RG.ld u33 i33,RG.cl ((aQ C x c1).e hc2),RG.mk 2 52,RG.pt i33,trivial⟩ ?_;intro j5 a5 w5 M5;repeat refine wp_seq ?_
 refine M5.d [.c 21 [] rv0,.s 22 [] (.p 0 4),.x 23 [(22,1)] (fv y),.x 24 [] (fv c1),.c 25 [(21,0),(23,2),(24,3)] (fv c3),.m 6 [] 3,.u [(6,5),(25,4)] 3] [(5,(RG.z 4))] [(3,6,(ws c3))] [(ws x++(ws y++(ws z))),(ws c1),(ws c2),(ws c3)] [(2,(.v (.string ⟨#[]⟩))),(5,(.p 2 0)),(6,(.p 3 0))] ⟨RG.cl (bD),RG.st,RG.ld u33 i33,RG.ld u33 i33,RG.cl ((aQ C y c1).e hc3),RG.mk 3 52,RG.pt i33,trivial⟩ ?_;intro j6 a6 w6 M6;repeat refine wp_seq ?_
 refine M6.d [.s 26 [] (.p 3 0),.x 27 [(26,0)] (.int .u64 ((c3.val%18446744073709551616:Nat):Int)),.x 28 [(27,1)] (.int .u64 1),.x 29 [(28,2)] (.int .u8 1),.x 30 [(29,3)] (.int .u8 3),⟨some 31,[(30,4)],(.s 4 1 1),.make 4⟩,.x 32 [(31,5)] (.string ⟨#[3]⟩),.x 33 [] (fv c2),.c 34 [(33,7)] (.string ⟨bx c2.val⟩),.x 35 [(32,6),(34,8)] (.string ⟨#[3]++bx c2.val⟩),.x 2 [(35,9)] (.string ⟨#[3]++bx c2.val⟩)] [(5,[(.int .u8 3)])] [] [(ws x++(ws y++(ws z))),(ws c1),(ws c2),(ws c3),[(.int .u8 3)]] [(2,(.v (.string ⟨#[3]++bx c2.val⟩)))] ⟨RG.cO rfl 52 6 (.int .i64 0) rfl (.p 3 0) RG.sx (fun μ w=>by kernel_rfl),RG.jQ rfl 3 0 _ rfl rfl (by kernel_rfl) 39 26 rfl (.int .u64 ((c3.val%18446744073709551616:Nat):Int)) rfl RG.sx rfl u31,RG.aI rfl .and 39 39 27 (.int .u64 ((c3.val%18446744073709551616:Nat):Int)) (.int .u64 1) (.int .u64 1) rfl rfl RG.sx (fun w=>by kernel_rfl) (and1 c3.val 1 (by subst_vars;exact hpar)),RG.fV rfl 39 5 28 (.int .u64 1) (.int .u8 1) rfl rfl RG.sx (fun w=>by kernel_rfl),RG.st,RG.kS 4 rfl _ rfl 22 5 30 (.int .u8 3) rfl rfl RG.sx (bs1 3),RG.kR rfl 4 5 _ rfl _ rfl rfl (by kernel_rfl) (by kernel_rfl) 22 9 31 1 (.string ⟨#[3]⟩) rfl rfl RG.sx (fun w k h=>str1 3 w k h),RG.ld u33 i33,RG.cl (yA C.toFld c2),RG.aK rfl .add 9 9 32 34 (.string ⟨#[3]⟩) (.string ⟨bx c2.val⟩) (.string ⟨#[3]++bx c2.val⟩) rfl rfl RG.sx RG.sx (fun w=>by kernel_rfl) (cat 3 _),RG.st,trivial⟩ ?_;intro j7 a7 w7 M7;refine wp_ret ?_;refine bodyPost_ret (v:=(.string ⟨#[3]++bx c2.val⟩)) (RG.aV 2 rfl _ (M7.at (s:=(.v (.string ⟨#[3]++bx c2.val⟩))))) M7.sl.defers ?_;exact⟨_,rfl,M7.st.bel.below,rfl⟩
end
section
open Go.RowKit Go.Sort
variable {P:Nat}[NeZero P]{N:Nat}
theorem rM(C:Fl3 P){t:T3 P}{p:EC.Pt P}(h:FracT t p):Gives 29 #[tv t] (.string ⟨wr p⟩):=by
 obtain⟨x,y,z⟩:=t;match p,h with
 | none,h=>exact LY C x y z h.1
 | some (a,b),h =>
  obtain⟨⟨hz,hx,hy⟩,ho⟩:=h;have hi:=EC.inv_mul C.toFld.cur.pr hz;have e1:x*EC.inv z=a:=by
   have hx:x=a*z:=hx;rw[hx]
   grobner
  have e2:y*EC.inv z=b:=by
   have hy:y=b*z:=hy;rw[hy]
   grobner
  show Gives _ #[rv x y z] (.string ⟨#[mark b.val]++bx a.val⟩);rw[<-e1,<-e2];unfold mark;by_cases hp:(y*EC.inv z).val%2=1
  ·rw[if_pos hp];exact Hq C x y z hz hp
  ·rw[if_neg hp];exact Hr C x y z hz (by omega)
end
section
open Go.RowKit Go.Sort Go.Deep
variable {P:Nat}[NeZero P]{N:Nat}
theorem Bu(l:List UInt8):beV l<256^l.length:=by
 induction l with
 | nil=>decide
 | cons x r ih =>
  have h:=dQ [x] r;rw[show [x]++r=x :: r from rfl]at h;have hx:beV [x]=x.toNat:=by simp[beV]
  have hx2:=x.toNat_lt;rw[h,hx,OV,Nat.pow_succ,Nat.mul_comm (256^r.length)];have:=Qw (256^r.length) (show x.toNat+1<=256 by omega);rw[Nat.add_mul,Nat.one_mul]at this;omega
end
section
open Go.RowKit Go.Sort Go.Deep
variable {N:Nat}
theorem nF(bs:Bs):nuV bs<top:=by
 unfold nuV;split
 ·rename_i h
  have h1:=Bu bs.toList;rw[Ot,h]at h1;exact h1
 ·unfold top;omega
theorem MI(A B:Bs)(ha:A.size<=1000000)(hb:B.size<=1000000)(w:World):(binOp .add 9 (.string ⟨A⟩) (.string ⟨B⟩)).run prog w=.ok (.string ⟨A++B⟩) w:=by
 have h2:(⟨A⟩:ByteArray)++⟨B⟩=⟨A++B⟩:=by
  have h3:((⟨A⟩:ByteArray)++⟨B⟩).data=A++B:=QW;rw[<-h3]
 have h4:SO A+SO B<=9223372036854775807:=by omega
 go_simp
variable {P:Nat}[NeZero P]
end
section
open Go.RowKit Go.Sort Go.Deep
variable {P:Nat}[NeZero P]{N:Nat}
theorem Jb:prog.underlying 47=some (.array 33 5):=by kernel_rfl
theorem kT{b:Bs}(h:b.size=33):aD b=[.int .u8 (ub b[0]!),.int .u8 (ub b[1]!),.int .u8 (ub b[2]!),.int .u8 (ub b[3]!),.int .u8 (ub b[4]!),.int .u8 (ub b[5]!),.int .u8 (ub b[6]!),.int .u8 (ub b[7]!),.int .u8 (ub b[8]!),.int .u8 (ub b[9]!),.int .u8 (ub b[10]!),.int .u8 (ub b[11]!),.int .u8 (ub b[12]!),.int .u8 (ub b[13]!),.int .u8 (ub b[14]!),.int .u8 (ub b[15]!),.int .u8 (ub b[16]!),.int .u8 (ub b[17]!),.int .u8 (ub b[18]!),.int .u8 (ub b[19]!),.int .u8 (ub b[20]!),.int .u8 (ub b[21]!),.int .u8 (ub b[22]!),.int .u8 (ub b[23]!),.int .u8 (ub b[24]!),.int .u8 (ub b[25]!),.int .u8 (ub b[26]!),.int .u8 (ub b[27]!),.int .u8 (ub b[28]!),.int .u8 (ub b[29]!),.int .u8 (ub b[30]!),.int .u8 (ub b[31]!),.int .u8 (ub b[32]!)]:=by
 apply List.ext_getElem?;intro i;by_cases hi:i<33
 ·rw[nW b i (by omega)];match i,hi with
  | 0,_=>rfl
  | 1,_=>rfl
  | 2,_=>rfl
  | 3,_=>rfl
  | 4,_=>rfl
  | 5,_=>rfl
  | 6,_=>rfl
  | 7,_=>rfl
  | 8,_=>rfl
  | 9,_=>rfl
  | 10,_=>rfl
  | 11,_=>rfl
  | 12,_=>rfl
  | 13,_=>rfl
  | 14,_=>rfl
  | 15,_=>rfl
  | 16,_=>rfl
  | 17,_=>rfl
  | 18,_=>rfl
  | 19,_=>rfl
  | 20,_=>rfl
  | 21,_=>rfl
  | 22,_=>rfl
  | 23,_=>rfl
  | 24,_=>rfl
  | 25,_=>rfl
  | 26,_=>rfl
  | 27,_=>rfl
  | 28,_=>rfl
  | 29,_=>rfl
  | 30,_=>rfl
  | 31,_=>rfl
  | 32,_=>rfl
  | n+33,h=>exact absurd h (by omega)
 ·rw[PX (by rw[aM h];omega),PX (by show 33<=i;omega)]
theorem bytes_eq{a b:Bs}(ha:a.size=33)(hb:b.size=33):(∀i∈Pj 33,ub a[i]! = ub b[i]!)↔a=b:=by
 constructor
 ·intro h;apply Array.ext (by rw[ha,hb]);intro i h1 h2;have h3:=h i (PY.2 (by omega));rw[getElem!_pos a i h1,getElem!_pos b i h2]at h3;have h4:a[i].toNat=b[i].toNat:=by unfold ub at h3;omega
  exact UInt8.toNat_inj.1 h4
 ·rintro rfl i _;rfl
theorem MD{a b:Bs}(ha:a.size=33)(hb:b.size=33)(w:World):(Op.equal 47 (.agg (aD a).toArray) (.agg (aD b).toArray)).run prog w=.ok (decide (a=b)) w:=by
 have hi:(prog.info? 5).isSome=true:=by kernel_rfl
 obtain⟨inf,hinf⟩:=Option.isSome_iff_exists.1 hi;show(Op.equalIn 10000 47 _ _).run prog w=_;rw[run_equalIn_array w 9999 _ _ Jb hinf,cells5,
  eqI _ _ (fun i=>ub a[i]!) (fun i=>ub b[i]!) 9998 w (Pj 33) (fun i hi=>by
   rw[Rl];exact nW a i (by rw[ha];exact PY.1 hi)) (fun i hi=>by
   rw[Rl];exact nW b i (by rw[hb];exact PY.1 hi))]
 rw[decide_eq_decide.2 (bytes_eq ha hb)]
theorem Cx{b:Bs}(hb:b.size=33)(e:Bool)(w:World):(Instr.checkKey e 10000 47 (.agg (aD b).toArray)).run prog w=.ok () w:=by
 rw[kT hb];kernel_rfl
def at?(b:Bs):List Bs->Nat->Option Nat
 | [],_=>none
 | k :: r,i=>if b=k then some i else at? b r (i+1)
def ents:List Bs->Nat->List MapEntry
 | [],_=>[]
 | k :: r,i=>{ key:=.agg (aD k).toArray,val:=.int .i64 i,born:=i } :: ents r (i+1)
theorem y9{b:Bs}(hb:b.size=33)(w:World):∀(D:List Bs) (i:Nat),(∀k∈D,k.size=33)->(Uw 47 (.agg (aD b).toArray) (ents D i) i).run prog w=.ok ((at? b D i).map fun j=>(j,.int .i64 j)) w
 | [],i,_=>rfl
 | k :: r,i,h=>by
  have ih:=y9 hb w r (i+1) (fun x hx=>h x (OU _ hx));have he:=MD hb (h k O5) w;unfold ents Uw at?;simp only[OG,he,Pe];by_cases hk:b=k
  ·simp only[hk,decide_true,if_true,Qo,Option.map_some]
  ·simp only[hk,decide_false,Bool.false_eq_true,if_false,ih]
theorem Ch{b:Bs}(hb:b.size=33)(D:List Bs)(h:∀k∈D,k.size=33)(w:World):(U4 47 (.agg (aD b).toArray) (ents D 0)).run prog w=.ok ((at? b D 0).map fun j=>(j,.int .i64 j)) w:=by
 have hu:(underlying 47).run prog w=.ok (.array 33 5) w:=run_underlying Jb w;unfold U4;rw[OG,hu,Pe];cases D with
 | nil=>rfl
 | cons k r =>
  have h1:Instr.findNow (.array 33 5) (.agg (aD b).toArray) (ents (k :: r) 0) 0=none:=rfl;simp only[h1];exact y9 hb w (k :: r) 0 h
theorem at?_none{b:Bs}:∀ {D:List Bs}{i:Nat},at? b D i=none↔b ∉ D
 | [],i=>by simp[at?]
 | k :: r,i=>by
  unfold at?;by_cases h:b=k
  ·simp[h]
  ·simp[h,at?_none (D:=r) (i:=i+1)]
end
section
open Go.RowKit Go.Sort Go.Deep
section
variable {P:Program}{ops:Array Oper}{rest:List Oper}{op:Oper}{a:Act}{w w':World}{v u:Value}{Q:Exit->Act->World->Prop}
theorem dB(hgd:op.guard=none)(T:TypeId)(x:Operand)(ho:op.op=.box T x)(hx:a.eval x=u)(hr:(SH T u).run P w=.ok v w')(h:wpList P ops Q rest (a.put op.dst v) w'):wpList P ops Q (op :: rest) a w:=
 wpList_plain hgd fun K hK=>by
  unfold Qg execOp;simp only[ho,hx,OG,hr,Pe,Qo];exact hK _ _ h
end
variable {N:Nat}
theorem cK:(prog.info? 47).map (·.size)=some 33:=by kernel_rfl
theorem uCP:(prog.underlying 47).map (·.isRow)=some true:=by kernel_rfl
theorem CJ{a:Bs}(ha:a.size=33)(w:World):(SH 47 (.agg (aD a).toArray)).run prog w=.ok (.pointer (some ⟨w.heap.size,0,none⟩)) (w.alloc (.cells (aD a).toArray 47)):=by
 rw[kT ha];kernel_rfl
theorem JX(k:Nat)(w:World):(Pp 47 (.pointer (some ⟨k,0,none⟩)) none none none).run prog w=.ok (.slice (some ⟨k,0,none⟩) 33 33) w:=by kernel_rfl
theorem row_holds{W:World}{k:Nat}{a:Bs}(h:Row W k (aD a)):Holds encB W k 0 a:=cb_holds h.2.1 h.2.2
theorem mX{W:World}{k:Nat}{a:Bs}(ha:a.size=33)(h:Row W k (aD a)):SP.PartOk W (.slice (some ⟨k,0,none⟩) 33 33) a.toList:=
 ⟨_,k,0,33,a,by rw[ha],rfl,by omega,by omega,OC ⟨rfl,row_holds h⟩⟩
theorem GX{W:World}{r:Nat}{L:Bs}(h:Holds encB W r 0 L):Holds SP.encB W r 0 L:=h
theorem GW{W:World}{r:Nat}{L:Bs}(h:Holds SP.encB W r 0 L):Holds encB W r 0 L:=h
structure Sx(w W:World)(k3 k4 k6 k7 r:Nat)(a b L:Bs):Prop where
 bl:Below w.heap.size w W
 r3:Row W k3 (aD a)
 r4:Row W k4 (aD b)
 r6:Row W k6 [.int .u64 0,.int .u64 0,.int .u64 0,.int .u64 0]
 r7:Row W k7 [.pointer (some ⟨r,0,none⟩)]
 lg:Holds encB W r 0 L
structure Sn(w:World)(k3 k4 k6 k7 r:Nat):Prop where
 lr:w.heap.size<=r
 n3:k3≠r
 n4:k4≠r
 n6:k6≠r
 n7:k7≠r
 l6:w.heap.size<=k6
theorem Sx.say{w W W':World}{k3 k4 k6 k7 r:Nat}{a b L L':Bs}(h:Sx w W k3 k4 k6 k7 r a b L)(n:Sn w k3 k4 k6 k7 r)(hO:SP.Only r 0 32 W W')(hL:Holds encB W' r 0 L'):Sx w W' k3 k4 k6 k7 r a b L':=
 ⟨h.bl.trans (hO.below h.bl.size n.lr),h.r3.only hO n.n3,h.r4.only hO n.n4,h.r6.only hO n.n6,h.r7.only hO n.n7,hL⟩
theorem Sx.drew{w W:World}{k3 k4 k6 k7 r:Nat}{a b L:Bs}(h:Sx w W k3 k4 k6 k7 r a b L):Sx w W.drew k3 k4 k6 k7 r a b L:=⟨h.bl.drew,h.r3,h.r4,h.r6,h.r7,h.lg⟩
theorem Sx.cell{w W:World}{k3 k4 k6 k7 r:Nat}{a b L:Bs}(h:Sx w W k3 k4 k6 k7 r a b L):W.cell? ⟨k7,0,none⟩=some (.pointer (some ⟨r,0,none⟩)):=h.r7.2.1 0 _ rfl
end
section
open Go.RowKit Go.Sort Go.Deep
variable {P:Nat}[NeZero P]{N:Nat}
theorem zR(O:Ord N){c k x:Nat}(hc:c<N)(hk:k<N)(hx:x<N):Gives 23 #[nv c,nv k,nv x] (nv (sPl N k (sTi N c x))):=by
 intro w;have h1:=J1 O c x hc hx;have h2:=Ex O k (sTi N c x) hk (O.ti c x);generalize sTi N c x=cx at h1 h2⊢;generalize sPl N k cx=z at h2⊢;go_enter Tryz.func23,Tryz.ntmps23;refine RG.M.enter [(0,.v (nv c)),(1,.v (nv k)),(2,.v (nv x))] 12 (by kernel_rfl) ?_;intro a0 M0;repeat refine wp_seq ?_
 refine M0.t [.m 3 [] 0,.m 4 [] 1,.m 5 [] 2,.m 6 [] 3] [(0,wn c),(1,wn k),(2,wn x),(3,RG.z 4)] [] [wn c,wn k,wn x,RG.z 4] [(3,.p 0 0),(4,.p 1 0),(5,.p 2 0),(6,.p 3 0)] ⟨RG.mk 0 43,RG.mk 1 43,RG.mk 2 43,RG.mk 3 43,trivial⟩ ?_;intro j1 j2 j3 j4 a1 w1 M1;repeat refine wp_seq ?_
 refine M1.d [.x 7 [] (nv k),.x 8 [] (nv c),.x 9 [] (nv x),.c 10 [(8,1),(9,2)] (nv cx),.c 11 [(7,0),(10,3)] (nv z),.u [(11,4)] 3] [] [(3,5,wn z)] [wn c,wn k,wn x,wn z] [(6,.p 3 0)] ⟨RG.ld u40 i40,RG.ld u40 i40,RG.ld u40 i40,RG.cl h1,RG.cl h2,RG.pt i40,trivial⟩ ?_;intro a2 w2 M2;refine wp_ret ?_;refine bodyPost_ret (v:=nv z) (RG.aF M2.st 6 43 rfl 3 _ rfl (M2.at (s:=(.p 3 0))) u40 i40) M2.sl.defers ?_;exact⟨_,rfl,M2.st.bel.below,rfl⟩
theorem Jy(g cg:Nat)(w:World):(Instr.arrayAt 47 (.slice (some ⟨g,0,none⟩) 33 cg)).run prog w=.ok (.pointer (some ⟨g,0,none⟩)) w:=by kernel_rfl
theorem EE{W:World}{k:Nat}{a:Bs}(ha:Holds encB W k 0 a)(hk:k<W.heap.size):Row W k (aD a):=⟨hk,(nV ha).1,(nV ha).2⟩
theorem fD(a:Bs):(aD a).toArray.all (·.oneCell')=true:=by
 rw[Array.all_eq_true'];intro v hv;obtain⟨x,-,rfl⟩:=Pw.1 (List.mem_toArray.1 hv);rfl
def pvl(a:Bs):Value:=.agg (aD a).toArray
def Kz(a b:List UInt8):Bs:=SP.mV (SP.mV (SP.newL [111,112,101,110]) [99,111,109,109,105,116] a) [102,105,114,115,116] b
def aop(N:Nat)(a b:List UInt8):Nat:=cha N (Kz a b)
theorem wX(O:Ord N)(a b:List UInt8):aop N a b<N:=m6 O _
theorem BR(O:Ord N)(a b:Bs)(ha:a.size=33)(hb:b.size=33):Gives 21 #[pvl a,pvl b] (nv (aop N a.toList b.toList)):=by
 intro w;have ea:pvl a=O8 (aD a).toArray:=rfl;have eb:pvl b=O8 (aD b).toArray:=rfl;rw[ea,eb];clear ea eb;obtain⟨L0,h0⟩:∃L,Hid (SP.newL [111,112,101,110]=L):=⟨_,rfl⟩
 obtain⟨L1,h1⟩:∃L,Hid (SP.mV L0 [99,111,109,109,105,116] a.toList=L):=⟨_,rfl⟩
 obtain⟨L2,h2⟩:∃L,Hid (SP.mV L1 [102,105,114,115,116] b.toList=L):=⟨_,rfl⟩
 have s0:L0.size=32:=by rw[<-h0.out];exact SP.o9 _
 have s1:L1.size=32:=by rw[<-h1.out];exact SP.lB _ _ _
 have s2:L2.size=32:=by rw[<-h2.out];exact SP.lB _ _ _
 have hr:aop N a.toList b.toList=cha N L2:=by unfold aop Kz;rw[h0.out,h1.out,h2.out]
 rw[hr];clear hr;obtain⟨va,hva⟩:∃v,Hid (O8 (aD a).toArray=v):=⟨_,rfl⟩
 obtain⟨vb,hvb⟩:∃v,Hid (O8 (aD b).toArray=v):=⟨_,rfl⟩
 have bA:=CJ ha w;obtain⟨w1,hw1⟩:∃w1,Hid (w.alloc (.cells (aD a).toArray 47)=w1):=⟨_,rfl⟩
 have bB:=CJ hb w1;obtain⟨w2,hw2⟩:∃w2,Hid (w1.alloc (.cells (aD b).toArray 47)=w2):=⟨_,rfl⟩
 obtain⟨w3,hw3⟩:∃w3,Hid (w2.alloc (.cells #[.int .u64 0,.int .u64 0,.int .u64 0,.int .u64 0] 43)=w3):=⟨_,rfl⟩
 rw[hva.out,hw1.out]at bA;rw[hvb.out,hw2.out]at bB;rw[hva.out,hvb.out];have e1:w1.heap.size=w.heap.size+1:=by rw[<-hw1.out,Oo]
 have e2:w2.heap.size=w.heap.size+2:=by rw[<-hw2.out,Oo,e1]
 have e3:w3.heap.size=w.heap.size+3:=by rw[<-hw3.out,Oo,e2]
 rw[e1]at bB;have K3:Hid (Row w3 w.heap.size (aD a)/\Row w3 (w.heap.size+1) (aD b)/\Row w3 (w.heap.size+2) [.int .u64 0,.int .u64 0,.int .u64 0,.int .u64 0]/\Below w.heap.size w w3):=by
  have q1:Row w1 w.heap.size (aD a):=by rw[<-hw1.out];exact aO w _ _
  have q2:Row w2 (w.heap.size+1) (aD b):=by rw[<-hw2.out,<-e1];exact aO w1 _ _
  have q3:Row w3 (w.heap.size+2) [.int .u64 0,.int .u64 0,.int .u64 0,.int .u64 0]:=by rw[<-hw3.out,<-e2];exact aO w2 _ _
  have b1:Below w.heap.size w w1:=by rw[<-hw1.out];exact aH w _
  have b2:Below w1.heap.size w1 w2:=by rw[<-hw2.out];exact aH w1 _
  have b3:Below w2.heap.size w2 w3:=by rw[<-hw3.out];exact aH w2 _
  exact⟨(q1.below b2).below b3,q2.below b3,q3,(b1.trans (b2.mono (by omega))).trans (b3.mono (by omega))⟩
 clear hw1 hw2;have BA:=Hid.mk' bA;have BB:=Hid.mk' bB;clear bA bB;go_enter Tryz.func21,Tryz.ntmps21;go_wp2_with (first|(refine dB (u:=va) (v:=.pointer (some ⟨w.heap.size,0,none⟩)) (w':=w1) rfl 47 (.tmp 0) rfl ?_ ?_ ?_;rfl;exact BA.out)|(refine dB (u:=vb) (v:=.pointer (some ⟨w.heap.size+1,0,none⟩)) (w':=w2) rfl 47 (.tmp 1) rfl ?_ ?_ ?_;rfl;exact BB.out))
 rw[hw3.out];clear hw3 BA BB;refine(Dc ⟨#[111,112,101,110]⟩ w3 (by decide)).mono ?_;rintro e w4 ⟨v,rfl,hb4,r,rfl,hr1,hr2,hL⟩;rw[show SP.newL (⟨#[111,112,101,110]⟩:ByteArray).data.toList=L0 from h0.out]at hL;have hb04:Below w.heap.size w w4:=K3.out.2.2.2.trans (hb4.mono K3.out.2.2.2.size);obtain⟨k7,hk7⟩:∃k,Hid (w4.heap.size=k):=⟨_,rfl⟩
 have hk7r:r<k7:=by rw[<-hk7.out];exact hr2
 have hb04s:=hb04.size;have HN:Hid (Sn w w.heap.size (w.heap.size+1) (w.heap.size+2) k7 r):=⟨by omega,by omega,by omega,by omega,by omega,by omega⟩
 obtain⟨w5,hw5⟩:∃w5,Hid ((w4.alloc (.cells #[.pointer none] 121)).setCells k7 0 [.pointer (some ⟨r,0,none⟩)]=w5):=⟨_,rfl⟩
 have KS:Hid (Sx w w5 w.heap.size (w.heap.size+1) (w.heap.size+2) k7 r a b L0):=by
  rw[<-hw5.out,<-hk7.out];have hR:=aO w4 [.pointer none] 121;have hlt:w4.heap.size=k7:=hk7.out;refine⟨RG.below_setCells hb04.size _ _ _ (hb04.alloc hb04.size _),((K3.out.1.below hb4).alloc _).other (by omega),((K3.out.2.1.below hb4).alloc _).other (by omega),((K3.out.2.2.1.below hb4).alloc _).other (by omega),hR.put rfl,fun j hj=>?_⟩;have e:=RG.cN w4.heap.size [.pointer (some ⟨r,0,none⟩)] 0 (w4.alloc (.cells #[.pointer none] 121)) r (by omega);have e2:=Se w4 (.cells #[.pointer none] 121) r hr2;rw[OR (a:=⟨r,0+j,none⟩) e,P4 (a:=⟨r,0+j,none⟩) e,OR (a:=⟨r,0+j,none⟩) e2,P4 (a:=⟨r,0+j,none⟩) e2];exact hL j hj
 have HTH:Hid ((w4.alloc (.cells #[.pointer none] 121)).there k7 0 1):=by rw[<-hk7.out];exact(aO w4 [.pointer none] 121).2.2
 clear hb4 hL hb04 hr1 hr2 K3 hk7r hb04s;go_wp2_with (refine bJ (v:=.pointer (some ⟨k7,0,none⟩)) (w':=w4.alloc (.cells #[.pointer none] 121)) rfl (.alloc 121) rfl ?_ ?_;(rw[<-hk7.out];kernel_rfl);refine Ty ?_)
 show wpList _ _ _ _ _ _;refine wpList_store_mid rfl 121 _ _ rfl k7 0 #[.pointer (some ⟨r,0,none⟩)] ?_ ?_ ?_ ?_ ?_ ?_
 ·kernel_rfl
 ·kernel_rfl
 ·exact HTH.out
 ·exact i124
 ·kernel_rfl
 rw[show(#[Value.pointer (some ⟨r,0,none⟩)]).toList=[.pointer (some ⟨r,0,none⟩)] from rfl,hw5.out];clear HTH hw5 hk7;have hs3:=JX w.heap.size;have hs4:=JX (w.heap.size+1);have KP:=KS.out;clear KS;go_wp2_with fail
 go_region_held3 (fun W=>W.cell? ⟨k7,0,none⟩=some (.pointer (some ⟨r,0,none⟩))/\∃L,Sx w W w.heap.size (w.heap.size+1) (w.heap.size+2) k7 r a b L) (first|(with_reducible exact⟨KP.cell,_,KP⟩)|(with_reducible exact⟨KP.drew.cell,_,KP.drew⟩)|fail) (first|(go_at_call 67;(first|(with_reducible refine(SP.qT r L0 ⟨#[99,111,109,109,105,116]⟩ (some ⟨w.heap.size,0,none⟩) 33 33 a.toList _ (by decide) (GX KP.lg) s0 (mX ha KP.r3)).mono ?_)|(with_reducible refine(SP.qT r L0 ⟨#[99,111,109,109,105,116]⟩ (some ⟨w.heap.size,0,none⟩) 33 33 a.toList _ (by decide) (GX KP.drew.lg) s0 (mX ha KP.drew.r3)).mono ?_));rintro e w6 ⟨rfl,hO,hL⟩;rw[show SP.mV L0 (⟨#[99,111,109,109,105,116]⟩:ByteArray).data.toList a.toList=L1 from h1.out]at hL;(first|(with_reducible (have KP1:=KP.drew.say HN.out hO (GW hL)))|(with_reducible (have KP1:=KP.say HN.out hO (GW hL)))|fail);clear KP hO hL;have KP:=KP1;clear KP1))
 clear hs3;go_wp2_with fail
 go_region_held3 (fun W=>W.cell? ⟨k7,0,none⟩=some (.pointer (some ⟨r,0,none⟩))/\∃L,Sx w W w.heap.size (w.heap.size+1) (w.heap.size+2) k7 r a b L) (first|(with_reducible exact⟨KP.cell,_,KP⟩)|(with_reducible exact⟨KP.drew.cell,_,KP.drew⟩)|fail) (first|(go_at_call 67;(first|(with_reducible refine(SP.qT r L1 ⟨#[102,105,114,115,116]⟩ (some ⟨w.heap.size+1,0,none⟩) 33 33 b.toList _ (by decide) (GX KP.lg) s1 (mX hb KP.r4)).mono ?_)|(with_reducible refine(SP.qT r L1 ⟨#[102,105,114,115,116]⟩ (some ⟨w.heap.size+1,0,none⟩) 33 33 b.toList _ (by decide) (GX KP.drew.lg) s1 (mX hb KP.drew.r4)).mono ?_));rintro e w7 ⟨rfl,hO,hL⟩;rw[show SP.mV L1 (⟨#[102,105,114,115,116]⟩:ByteArray).data.toList b.toList=L2 from h2.out]at hL;(first|(with_reducible (have KP1:=KP.drew.say HN.out hO (GW hL)))|(with_reducible (have KP1:=KP.say HN.out hO (GW hL)))|fail);clear KP hO hL;have KP:=KP1;clear KP1))
 clear hs4;have KT:=Hid.mk' KP;clear KP;obtain⟨d,hd1,hd2⟩:=Ol.1 u124;have HD:Hid (prog.underlying 121=some d/\d.isRow=true):=⟨hd1,hd2⟩
 clear hd1 hd2;go_wp2_with (refine wpList_load_mid rfl 121 _ rfl k7 0 ?_ [.pointer (some ⟨r,0,none⟩)] d ?_ ?_ ?_ ?_ ?_;kernel_rfl;exact KT.out.r7.2.1;exact HD.out.1;exact HD.out.2;exact i124)
 refine(vS O r L2 w7 KT.out.lg s2).mono ?_;rintro e w9 ⟨v,rfl,hO,rfl⟩;have K9:Hid (Row w9 (w.heap.size+2) [.int .u64 0,.int .u64 0,.int .u64 0,.int .u64 0]/\Below w.heap.size w w9):=⟨KT.out.r6.only hO HN.out.n6,KT.out.bl.trans (hO.below KT.out.bl.size HN.out.lr)⟩
 clear hO KT HN;obtain⟨m,hm⟩:∃m,Hid (cha N L2=m):=⟨_,rfl⟩
 rw[hm.out];obtain⟨wa,hwa⟩:∃wa,Hid (w9.setCells (w.heap.size+2) 0 (wn m)=wa):=⟨_,rfl⟩
 have KA:Hid (Row wa (w.heap.size+2) (wn m)/\Below w.heap.size w wa):=by rw[<-hwa.out];exact⟨K9.out.1.put rfl,RG.below_setCells (by omega) _ _ _ K9.out.2⟩
 obtain⟨vm,hvm⟩:∃vm,Hid (nv m=vm):=⟨_,rfl⟩
 rw[hvm.out];go_wp2_with (refine wpList_store_mid rfl 43 _ _ rfl (w.heap.size+2) 0 (wn m).toArray ?_ ?_ ?_ ?_ ?_ ?_;rfl;exact hvm.out.symm;exact K9.out.1.2.2;exact i40;exact fF m;rw[show(wn m).toArray.toList=wn m from rfl,hwa.out])
 refine bodyPost_ret (bF 4 43 rfl KA.out.1 rfl u40 i40) rfl ?_;exact⟨_,rfl,KA.out.2,by rw[hm.out];rfl⟩
end
section
open Go.RowKit Go.Sort Go.Deep Go.Shelf
attribute [local go_sem] UP
variable {P:Nat}[NeZero P]
theorem wI{w w':World}(h:Below w.heap.size w w')(row:Option Nat):w.grownBy w' row:=⟨h.os,h.tape,h.output,h.size,fun k hk _=>h.block k hk⟩
theorem sJ{w:World}{g o:Nat}{bs:Bs}(h:Holds encB w g o bs)(hs:0<bs.size):g<w.heap.size:=by
 obtain⟨ob,ho,-⟩:=cells_of_cell (h 0 hs).1;exact(OH.1 ho).1
noncomputable def cand (P:Nat) [NeZero P] (lab:ByteArray) (b:List UInt8) (i:Nat):Option (Fin P × Fin P):=
 if beV (SP.eW ((⟨#[112,111,105,110,116,32]⟩:ByteArray)++lab).data.toList [b,[Oq i]]).toList<P then
  (rt (PL P (beV (SP.eW ((⟨#[112,111,105,110,116,32]⟩:ByteArray)++lab).data.toList [b,[Oq i]]).toList)*PL P (beV (SP.eW ((⟨#[112,111,105,110,116,32]⟩:ByteArray)++lab).data.toList [b,[Oq i]]).toList)*PL P (beV (SP.eW ((⟨#[112,111,105,110,116,32]⟩:ByteArray)++lab).data.toList [b,[Oq i]]).toList)+7)).map fun y=>(PL P (beV (SP.eW ((⟨#[112,111,105,110,116,32]⟩:ByteArray)++lab).data.toList [b,[Oq i]]).toList),y)
 else none
noncomputable def cands (P:Nat) [NeZero P] (lab:ByteArray) (b:List UInt8) (i:Nat):List (Fin P × Fin P):=(Pj i).filterMap (cand P lab b)
theorem dP(lab:ByteArray)(b:List UInt8)(i:Nat):cands P lab b (i+1)=cands P lab b i++(cand P lab b i).toList:=by
 unfold cands;rw[List.range_succ,List.filterMap_append];cases h:cand P lab b i<;>simp[h]
theorem uW(lab:ByteArray)(b:List UInt8){i j:Nat}(h:i<=j):cands P lab b i <+: cands P lab b j:=by
 induction j with
 | zero=>rw[Nat.le_zero.1 h];exact UJ
 | succ j ih =>
  rcases Nat.lt_or_ge i (j+1)with h1|h1
  ·rw[dP];exact(ih (by omega)).trans (List.prefix_append _ _)
  ·rw[show i=j+1 by omega];exact UJ
theorem DZ(lab:ByteArray)(b:List UInt8)(i:Nat):(cands P lab b i).length<=i:=by
 unfold cands;exact OM (List.length_filterMap_le _ _) (by rw[List.length_range];exact Oh _)
end
section
open Go.RowKit Go.Sort Go.Deep Go.Shelf
attribute [local go_sem] UP
section
variable {F:Fence}{n:Nat}{P:Program}{ops:Array Oper}{rest:List Oper}{op:Oper}{a:Act}{w:World}{Q:Exit->Act->World->Prop}
theorem lS(hgd:Region.wanted op (yielded ops a.tmps)=true)(ty:TypeId)(x:Operand)(ho:op.op=.load ty x)(b o:Nat)(hx:a.eval x=.pointer (some ⟨b,o,none⟩))(cs:List Value)(d:TypeDesc)(hc:w.rangeAt b o cs)
 (hu:P.underlying ty=some d) (hd:d.isRow=true) (hi:(P.info? ty).map (·.size)=some cs.length) (h:wpListIn F n P ops Q rest (a.put op.dst (.agg cs.toArray)) w):wpListIn F n P ops Q (op :: rest) a w:=
 wpListIn_step fun K hK=>by
  rw[hgd,if_pos rfl];refine⟨fun f hf=>(by unfold Oper.about at hf;rw[ho]at hf;cases hf),?_⟩;rw[Oper.semAt_eq _ _ _ (fun c=>by rw[ho];intro e;cases e)];unfold execOp;simp only[ho,hx,Instr.loadAt,Instr.sureAddr,OG,Qo,Pe,run_loadVar_mid w b o ty cs d hc hu hd hi];exact hK _ _ h
end
variable {P:Nat}[NeZero P]
theorem Hid.mk{p:Prop}(h:p):Hid p:=h
theorem KF(C:Fld P)(lab:ByteArray)(vb:Value)(b:List UInt8)(k1 k2:Nat)(w:World)(hlab:lab.size<=1000000)(h1:w.cell? ⟨k1,0,none⟩=some (.string lab))(h2:w.cell? ⟨k2,0,none⟩=some vb)(l1:k1<w.heap.size)(l2:k2<w.heap.size)(hb:SP.PartOk w vb b)(n:Nat):
 SeqStopsK Fence.wide n prog 110 #[.pointer (some ⟨k1,0,none⟩),.pointer (some ⟨k2,0,none⟩)] (fun x:Fin P × Fin P=>#[pv x.1 x.2]) (Below w.heap.size) (fun xs=>xs=cands P lab b 256) (fun pre=>pre <+: cands P lab b 256) 256 w:=by
 have HP:=hb;obtain⟨a0,sb,so,cap,bs,rfl,-,-,-,-⟩:=hb;intro l J Jx W hW hJ hJx hY h0;refine callsIn_of_wp Tryz.func110 rfl trivial ?_ rfl;simp only[Tryz.ntmps110,List.size_toArray,OV,List.length_nil,Nat.reduceAdd,Nat.reduceSub,Array.replicate_succ,Array.replicate_zero,List.push_toArray,List.append_toArray,List.nil_append,Sr]
 gi_wp2
 gi_loopw [10] (fun p wr=>∃i:Nat,i<=256/\p=.int .i64 i/\J (cands P lab b i) wr/\Below w.heap.size w wr/\W.heap.size<=wr.heap.size) (fun p wr=>256-(intOf p).toNat)
 case atStart =>
  exact⟨0,by decide,rfl,h0,hW,Oh _⟩
 case round =>
  obtain⟨i,hi,rfl,hJi,hB,hsz⟩:=hrel;have hB':=hB;by_cases he:i=256
  ·subst he
   gi_wp2
   go_end0
   exact⟨⟨_,rfl⟩,.inl ⟨_,rfl,hJi⟩⟩
  ·have hlt:(i:Int)<256:=by omega
   have c1:wr.cell? ⟨k1,0,none⟩=some (.string lab):=(OR (hB.block k1 l1)).trans h1;have c2:wr.cell? ⟨k2,0,none⟩=some (.slice a0 bs.size cap):=(OR (hB.block k2 l2)).trans h2;have hM1:=RG.Made.alloc wr [.int .u8 i] 5;have hM2:=RG.Made.alloc (wr.alloc (.cells #[.int .u8 i] 5)) [.slice a0 bs.size cap,.slice (some ⟨wr.heap.size,0,none⟩) 1 1] 22;rw[Oo]at hM2;have hub:ub (Oq i)=(i:Int):=by
    show(((Oq i).toNat:Nat):Int)=_;rw[UInt8.toNat_ofNat',Oy (by omega)]
   obtain⟨W1,hW1⟩:∃W1,W1=(wr.alloc (.cells #[.int .u8 i] 5)).alloc (.cells #[.slice a0 bs.size cap,.slice (some ⟨wr.heap.size,0,none⟩) 1 1] 22):=⟨_,rfl⟩
   have hb1:Below wr.heap.size wr W1:=by rw[hW1];exact((Ow _ wr).alloc (Oh _) _).alloc (by rw[Oo];omega) _
   have hP:SP.PartsOk W1 (some ⟨wr.heap.size+1,0,none⟩) [b,[Oq i]]:=by
    have hm2:W1.rangeAt (wr.heap.size+1) 0 [.slice a0 bs.size cap,.slice (some ⟨wr.heap.size,0,none⟩) 1 1]:=by rw[hW1];exact hM2.range
    refine OC ⟨_,_,rfl,fun j hj=>?_⟩;have hj2:j=0\/j=1:=by simp at hj;omega
    rcases hj2 with rfl|rfl
    ·exact⟨_,hm2 0 _ rfl,(HP.below hB').below hb1⟩
    ·refine⟨_,hm2 1 _ rfl,some ⟨wr.heap.size,0,none⟩,wr.heap.size,0,1,#[Oq i],rfl,rfl,Oh _,PH rfl,OC ⟨rfl,?_⟩⟩;have hm1:=hM1.range;have hc:wr.heap.size<(wr.alloc (.cells #[.int .u8 i] 5)).heap.size:=by rw[Oo];omega
     intro j hj;have hj0:j=0:=by simp at hj;omega
     subst hj0;have hq:W1.heap[wr.heap.size]? = (wr.alloc (.cells #[.int .u8 i] 5)).heap[wr.heap.size]?:=by rw[hW1];exact Se _ _ _ hc
     refine⟨?_,?_⟩
     ·rw[OR (a:=⟨wr.heap.size,0+0,none⟩) hq];show _=some (Pi .u8 (ub (Oq i)));rw[hub];exact hm1 0 _ rfl
     ·rw[P4 (a:=⟨wr.heap.size,0+0,none⟩) hq];exact(hM1.there 0 (Oh _)).2
   have hTag:=SP.qS ((⟨#[112,111,105,110,116,32]⟩:ByteArray)++lab) (some ⟨wr.heap.size+1,0,none⟩) 2 [b,[Oq i]] W1 (by rw[Vz];show 6+lab.size<=_;omega) (PH rfl) hP
   gi_wp2_with fail
   rw[<-hW1];refine⟨trivial,fun h=>(by cases h),(callsIn_wide.2 hTag).mono ?_⟩;rintro e w2 ⟨r,rfl,hr1,hb2,hH2⟩;clear hTag hP c1 c2 hM1 hM2 hlt;obtain⟨T,hT⟩:∃T,Hid (SP.eW ((⟨#[112,111,105,110,116,32]⟩:ByteArray)++lab).data.toList [b,[Oq i]]=T):=⟨_,rfl⟩
   rw[hT.out]at hH2
   gi_wp2_with fail
   refine⟨trivial,fun h=>(by cases h),(callsIn_wide.2 (bN _)).mono ?_⟩;rintro e w3 ⟨v,rfl,hb3,rfl⟩;have hrl:r<w2.heap.size:=sJ hH2 (by rw[<-hT.out,SP.cY];decide);have hTs:T.size=32:=by rw[<-hT.out];exact SP.cY _ _
   have hH3:Holds encB w3 r 0 T:=Holds.below hH2 hb3 hrl;have hrl3:r<w3.heap.size:=Oi hrl hb3.size;have hb03:Below wr.heap.size wr w3:=(hb1.trans (hb2.mono hb1.size)).trans (hb3.mono (OM hb1.size hb2.size));by_cases hx:beV T.toList<P
   ·obtain⟨x,hxv⟩:∃x:Fin P,Hid (beV T.toList=x.val):=⟨PL P (beV T.toList),(Oy hx).symm⟩
    have hfx:Hid (PL P (beV T.toList)=x):=RS (by show beV T.toList%P=_;rw[Oy hx];exact hxv.out);have hx:Hid (beV T.toList<P):=hx
    gi_wp2_with fail
    refine⟨trivial,fun h=>(by cases h),(callsIn_wide.2 (Ge C hTs (Oh _) hxv.out hrl3 hH3)).mono ?_⟩;rintro e w4 ⟨v,rfl,hb4,rfl⟩;have hth4:=(RG.Made.alloc w4 [.int .u64 0,.int .u64 0,.int .u64 0,.int .u64 0] 41).there;have hb04:=hb03.trans (hb4.mono hb03.size);have hra4:=QJ _ _ 0 (ws x) hth4;obtain⟨d,hd1,hd2⟩:=Ol.1 u85;clear hth4 hra4 hTs hH3 hrl hrl3 hb3 hb4 hH2 hr1 hb2 hb1;obtain⟨w5,hw5⟩:∃w5,Hid ((w4.alloc (.cells #[.int .u64 0,.int .u64 0,.int .u64 0,.int .u64 0] 41)).setCells w4.heap.size 0 (ws x)=w5):=⟨_,rfl⟩
    have hb05:Hid (Below wr.heap.size wr w5):=by rw[<-hw5.out];exact RG.below_setCells hb04.size _ _ _ (hb04.alloc hb04.size _)
    have hra5:w5.rangeAt w4.heap.size 0 (ws x):=by rw[<-hw5.out];exact QJ _ _ 0 (ws x) (RG.Made.alloc w4 [.int .u64 0,.int .u64 0,.int .u64 0,.int .u64 0] 41).there
    gi_wp2_with (first|(refine bG rfl 41 _ _ rfl w4.heap.size 0 (ws x).toArray rfl rfl (RG.Made.alloc w4 [.int .u64 0,.int .u64 0,.int .u64 0,.int .u64 0] 41).there i85 (by kernel_rfl) ?_;rw[show(ws x).toArray.toList=ws x from rfl,hw5.out])|refine gU rfl 41 _ rfl w4.heap.size 0 rfl (ws x) d hra5 hd1 hd2 i85 ?_)
    refine⟨trivial,fun h=>(by cases h),?_⟩;clear hra5 hd1 hd2;have hdum:True:=trivial;obtain⟨d8,hd81,hd82⟩:=Ol.1 eV;cases hrt:rt (x*x*x+7) with
    | none =>
     obtain⟨z,hz⟩:∃z:Fin P,Hid (z=0):=⟨_,rfl⟩
     have habove:=vC C x hrt w5;rw[<-hz.out]at habove;obtain⟨vz,hvz⟩:∃vz,Hid (pv z z=vz):=⟨_,rfl⟩
     rw[hvz.out]at habove;refine(callsIn_wide.2 habove).mono ?_;clear habove;rintro e w6 ⟨v,rfl,hb6,rfl⟩;have hcand:Hid (cand P lab b i=none):=by
      show cand P lab b i=none;unfold cand;rw[hT.out,if_pos hx.out,hfx.out,hrt];rfl
     clear hrt;have hbA:Hid (Below wr.heap.size wr ((w6.alloc (.cells #[.int .u64 0,.int .u64 0,.int .u64 0,.int .u64 0,.int .u64 0,.int .u64 0,.int .u64 0,.int .u64 0] 84)).setCells w6.heap.size 0 (ws z++ws z))):=
      have h6:=hb05.out.trans (hb6.mono hb05.out.size)
      RG.below_setCells h6.size _ _ _ (h6.alloc h6.size _)
     clear hb6;have hs8:(ws z++ws z).toArray.size=8:=by kernel_rfl
     have hth6:Hid <| (w6.alloc (.cells #[.int .u64 0,.int .u64 0,.int .u64 0,.int .u64 0,.int .u64 0,.int .u64 0,.int .u64 0,.int .u64 0] 84)).there w6.heap.size 0 (ws z++ws z).toArray.size:=by show Ve _ _ _ _;rw[hs8];exact(RG.Made.alloc w6 [.int .u64 0,.int .u64 0,.int .u64 0,.int .u64 0,.int .u64 0,.int .u64 0,.int .u64 0,.int .u64 0] 84).there
     have hi8:Hid ((prog.info? 84).map (·.size)=some (ws z++ws z).toArray.size):=by show _=_;rw[hs8];exact i109
     clear hs8;obtain⟨w7,hw7⟩:∃w7,Hid ((w6.alloc (.cells #[.int .u64 0,.int .u64 0,.int .u64 0,.int .u64 0,.int .u64 0,.int .u64 0,.int .u64 0,.int .u64 0] 84)).setCells w6.heap.size 0 (ws z++ws z)=w7):=⟨_,rfl⟩
     rw[hw7.out]at hbA
     gi_wp2_with (refine bG rfl 84 _ _ rfl w6.heap.size 0 (ws z++ws z).toArray ?_ ?_ ?_ ?_ ?_ ?_;rfl;exact hvz.out.symm;exact hth6.out;exact hi8.out;kernel_rfl;rw[show(ws z++ws z).toArray.toList=ws z++ws z from rfl,hw7.out];refine Ty ?_)
     clear hth6 hi8 hvz hz hw7 hb05 hfx hxv hx hT;show wpListIn _ _ _ _ _ _ _ _
     gi_wp2_with fail
     refine⟨fun _ h=>(by cases h),?_⟩
     gi_wp2_with fail
     refine⟨⟨i+1,by omega,rfl,?_,hB.trans (hbA.out.mono hB.size),OM hsz hbA.out.size⟩,?_⟩
     ·rw[dP,hcand.out];exact hJ _ wr _ none (by simpa using hJi) (wI hbA.out none) (fun _ e=>by cases e)
     ·simp[intOf];omega
    | some y =>
     have habove:=vB C x y hrt w5;obtain⟨vz,hvz⟩:∃vz,Hid (pv x y=vz):=⟨_,rfl⟩
     rw[hvz.out]at habove;refine(callsIn_wide.2 habove).mono ?_;clear habove;rintro e w6 ⟨v,rfl,hb6,rfl⟩;have hcand:Hid (cand P lab b i=some (x,y)):=by
      show cand P lab b i=some (x,y);unfold cand;rw[hT.out,if_pos hx.out,hfx.out,hrt];rfl
     clear hrt;obtain⟨w7,hw7⟩:∃w7,Hid ((w6.alloc (.cells #[.int .u64 0,.int .u64 0,.int .u64 0,.int .u64 0,.int .u64 0,.int .u64 0,.int .u64 0,.int .u64 0] 84)).setCells w6.heap.size 0 (ws x++ws y)=w7):=⟨_,rfl⟩
     have hb07:Hid (Below wr.heap.size wr w7):=by
      rw[<-hw7.out];have h6:=hb05.out.trans (hb6.mono hb05.out.size);exact RG.below_setCells h6.size _ _ _ (h6.alloc h6.size _)
     clear hb6;have hra7:w7.rangeAt w6.heap.size 0 (ws x++ws y):=by rw[<-hw7.out];exact QJ _ _ 0 (ws x++ws y) (RG.Made.alloc w6 [.int .u64 0,.int .u64 0,.int .u64 0,.int .u64 0,.int .u64 0,.int .u64 0,.int .u64 0,.int .u64 0] 84).there
     have hJ7:Hid (J (cands P lab b i) w7):=hJ _ wr _ none (by simpa using hJi) (wI hb07.out none) (fun _ e=>by cases e);have hs8:(ws x++ws y).toArray.size=8:=by kernel_rfl
     have hth6:Hid <| (w6.alloc (.cells #[.int .u64 0,.int .u64 0,.int .u64 0,.int .u64 0,.int .u64 0,.int .u64 0,.int .u64 0,.int .u64 0] 84)).there w6.heap.size 0 (ws x++ws y).toArray.size:=by show Ve _ _ _ _;rw[hs8];exact(RG.Made.alloc w6 [.int .u64 0,.int .u64 0,.int .u64 0,.int .u64 0,.int .u64 0,.int .u64 0,.int .u64 0,.int .u64 0] 84).there
     have hi8:Hid ((prog.info? 84).map (·.size)=some (ws x++ws y).toArray.size):=by show _=_;rw[hs8];exact i109
     clear hs8;obtain⟨fn,tmps,assign,body,hy,hR⟩:=hY (cands P lab b i) (x,y) w7 hJ7.out (Nat.lt_of_le_of_lt (DZ lab b i) (by omega));dsimp only at hy;obtain⟨va,hva⟩:∃va,Hid (O8 (ws x++ws y).toArray=va):=⟨_,rfl⟩
     rw[show pv x y=va from hva.out]at hy
     gi_wp2_with (refine bG rfl 84 _ _ rfl w6.heap.size 0 (ws x++ws y).toArray ?_ ?_ ?_ ?_ ?_ ?_;rfl;exact hvz.out.symm;exact hth6.out;exact hi8.out;kernel_rfl;rw[show(ws x++ws y).toArray.toList=ws x++ws y from rfl,hw7.out];refine Ty ?_)
     clear hth6 hi8 hw7 hb05 hfx hxv hx hT;have hR2:=Hid.mk hR;have hra8:=Hid.mk hra7;have hd8:=Hid.mk hd81;have hd9:=Hid.mk hd82;clear hR hra7 hd81 hd82;show wpListIn _ _ _ _ _ _ _ _
     gi_wp2_with (refine lS rfl 84 _ rfl w6.heap.size 0 ?_ (ws x++ws y) d8 ?_ ?_ ?_ ?_ ?_;rfl;exact hra8.out;exact hd8.out;exact hd9.out;exact i109;rw[hva.out];refine Ty ?_)
     clear hra8 hd8 hd9 hva hvz;show wpListIn _ _ _ _ _ _ _ _
     gi_wp2_with fail
     refine⟨fun h=>(by cases h),hR2.out.mono ?_⟩;clear hR2 hy;rintro e W8 (⟨rfl,hJ8,hk8⟩|⟨rfl,hJx8⟩)
     ·gi_wp2_with fail
      refine⟨⟨i+1,by omega,rfl,?_,(hB.trans (hb07.out.mono hB.size)).trans hk8,OM hsz (OM hb07.out.size hk8.size)⟩,?_⟩
      ·rw[dP,hcand.out];exact hJ8
      ·simp[intOf];omega
     ·gi_wp2_with fail
      refine bodyPost_ret (results_none rfl _ _ _) rfl ?_;refine⟨⟨_,rfl⟩,.inr ⟨_,?_,hJx8⟩⟩;have hp:=uW (P:=P) lab b (i:=i+1) (j:=256) (by omega);rw[dP,hcand.out]at hp;exact hp
   ·have hcand:cand P lab b i=none:=by
     unfold cand;rw[hT.out,if_neg hx]
    gi_wp2_with fail
    refine⟨trivial,fun h=>(by cases h),(callsIn_wide.2 (Gf C hTs (Oh _) hx hrl3 hH3)).mono ?_⟩;rintro e w4 ⟨v,rfl,hb4,rfl⟩;have hth4:Hid ((w4.alloc (.cells #[.int .u64 0,.int .u64 0,.int .u64 0,.int .u64 0] 41)).there w4.heap.size 0 4):=(RG.Made.alloc w4 [.int .u64 0,.int .u64 0,.int .u64 0,.int .u64 0] 41).there;have hb04:=hb03.trans (hb4.mono hb03.size);have hbA:Hid (Below wr.heap.size wr ((w4.alloc (.cells #[.int .u64 0,.int .u64 0,.int .u64 0,.int .u64 0] 41)).setCells w4.heap.size 0 (ws (0:Fin P)))):=RG.below_setCells hb04.size _ _ _ (hb04.alloc hb04.size _);have hcand:Hid (cand P lab b i=none):=hcand;obtain⟨w7,hw7⟩:∃w7,Hid ((w4.alloc (.cells #[.int .u64 0,.int .u64 0,.int .u64 0,.int .u64 0] 41)).setCells w4.heap.size 0 (ws (0:Fin P))=w7):=⟨_,rfl⟩
    rw[hw7.out]at hbA
    gi_wp2_with (refine bG rfl 41 _ _ rfl w4.heap.size 0 (ws (0:Fin P)).toArray ?_ ?_ ?_ ?_ ?_ ?_;rfl;rfl;exact hth4.out;exact i85;kernel_rfl;rw[show(ws (0:Fin P)).toArray.toList=ws (0:Fin P) from rfl,hw7.out];refine Ty ?_)
    clear hth4 hb04 hb03 hb4 hT hw7;show wpListIn _ _ _ _ _ _ _ _
    gi_wp2_with fail
    refine⟨⟨i+1,by omega,rfl,?_,hB.trans (hbA.out.mono hB.size),OM hsz hbA.out.size⟩,?_⟩
    ·rw[dP,hcand.out];exact hJ _ wr _ none (by simpa using hJi) (wI hbA.out none) (fun _ e=>by cases e)
    ·simp[intOf];omega
end
section
open Go.RowKit Go.Sort Go.Deep Go.Shelf
variable {P:Nat}[NeZero P]{N:Nat}
theorem AD(lab:ByteArray)(a:Option Addr)(m c:Nat)(w:World):
 Calls prog 61 #[.string lab,.slice a m c] w (Ret fun e w'=>e=.func (.func 110) #[] #[.pointer (some ⟨w.heap.size,0,none⟩),.pointer (some ⟨w.heap.size+1,0,none⟩)]/\w'=(w.alloc (.cells #[.string lab] 9)).alloc (.cells #[.slice a m c] 22)):=by
 go_enter Tryz.func61,Tryz.ntmps61;go_wp2;go_ret;exact⟨_,rfl,rfl,rfl⟩
noncomputable def hpt (P:Nat) [NeZero P] (lab:ByteArray) (b:List UInt8):Fin P × Fin P:=(cands P lab b 256).headD (gX P,gY P)
theorem IU{lab:ByteArray}{b:List UInt8}{i:Nat}{x:Fin P × Fin P}(h:cand P lab b i=some x):x.2*x.2=x.1*x.1*x.1+7:=by
 unfold cand at h;split at h
 ·obtain⟨y,hy,rfl⟩:=Ol.1 h;exact xN hy
 ·cases h
theorem FT{lab:ByteArray}{b:List UInt8}{n:Nat}{x:Fin P × Fin P}(h:x∈cands P lab b n):x.2*x.2=x.1*x.1*x.1+7:=by
 unfold cands at h;obtain⟨i,-,hi⟩:=List.mem_filterMap.1 h;exact IU hi
theorem AZ(C:Fld P)(lab:ByteArray)(b:List UInt8):EC.On (.some (hpt P lab b):EC.Pt P):=by
 unfold hpt;cases h:cands P lab b 256 with
 | nil=>exact uR C
 | cons x r=>exact uM (x:=x.1) (y:=x.2) (FT (by rw[h];exact O5))
theorem DT(C:Fld P)(lab:ByteArray)(a:Option Addr)(m c:Nat)(b:List UInt8)(w:World)(hlab:lab.size<=1000000)(hb:SP.PartOk w (.slice a m c) b):
 Calls prog 60 #[.func (.func 110) #[] #[.pointer (some ⟨w.heap.size,0,none⟩),.pointer (some ⟨w.heap.size+1,0,none⟩)]] ((w.alloc (.cells #[.string lab] 9)).alloc (.cells #[.slice a m c] 22)) (Ret fun e w'=>Below w.heap.size w w'/\e=pv (hpt P lab b).1 (hpt P lab b).2):=by
 have hM1:=RG.Made.alloc w [.string lab] 9;have hM2:=RG.Made.alloc (w.alloc (.cells #[.string lab] 9)) [.slice a m c] 22;have hB1:Below w.heap.size w ((w.alloc (.cells #[.string lab] 9)).alloc (.cells #[.slice a m c] 22)):=((Ow _ w).alloc (Oh _) _).alloc (by rw[Oo];omega) _;have hs:((w.alloc (.cells #[.string lab] 9)).alloc (.cells #[.slice a m c] 22)).heap.size=w.heap.size+2:=by rw[Oo,Oo]
 have h1:((w.alloc (.cells #[.string lab] 9)).alloc (.cells #[.slice a m c] 22)).cell? ⟨w.heap.size,0,none⟩=some (.string lab):=by
  rw[OR (a:=⟨w.heap.size,0,none⟩) (Se _ _ _ (by rw[Oo];exact QR _))];exact hM1.range 0 _ rfl
 have h2:((w.alloc (.cells #[.string lab] 9)).alloc (.cells #[.slice a m c] 22)).cell? ⟨w.heap.size+1,0,none⟩=some (.slice a m c):=by
  have:=hM2.range 0 _ rfl;rwa[Oo]at this
 refine(IH C _ (cands P lab b 256) 256 _ (fun n=>KF C lab (.slice a m c) b w.heap.size (w.heap.size+1) _ hlab h1 h2 (by omega) (by omega) (hb.below hB1) n)).mono ?_;rintro e w' ⟨v,rfl,hb2,rfl⟩;exact⟨_,rfl,hB1.trans (hb2.mono hB1.size),rfl⟩
end
section
open Go.RowKit Go.Sort Go.Deep Go.Shelf
section
variable {P:Program}{ops:Array Oper}{rest:List Oper}{op:Oper}{a:Act}{w w':World}{v:Value}{Q:Exit->Act->World->Prop}
theorem wpList_build(hgd:op.guard=none)(ty:TypeId)(n:Nat)(parts:Array (Nat × Operand))(_:op.op=.buildSlice ty n parts)(hr:(execOp a.eval op).run P w=.ok (.value v) w')(h:wpList P ops Q rest (a.put op.dst v) w'):wpList P ops Q (op :: rest) a w:=
 wpList_plain hgd fun K hK=>by
  unfold Qg;rw[hr];exact hK _ _ h
end
variable {P:Nat}[NeZero P]
def cR:ByteArray:=⟨#[118,97,108,117,101]⟩
noncomputable def cmt (P:Nat) [NeZero P] (n m:Nat):EC.Pt P:=EC.tot (fun j=>if j=0 then .some (hpt P cR []) else gG P) 2 (fun j=>if j=0 then(n:Int) else(m:Int))
def Aa(P:Nat)[NeZero P](N:Nat)(w:World)(az bs:Bs)(e:Value)(w':World):Prop:=match rq N az,rq N bs with
 | some n,some m=>I7 w (wr (cmt P n m)) e w'
 | _,_=>Gk 3 e
theorem GK{w:World}{v v':Value}{bs bs':Bs}(T:TypeId)(h:Arg w v bs)(h':Arg w v' bs'):oH (w.alloc (.cells #[v,v'] T)) (some ⟨w.heap.size,0,none⟩) 2 (fun j=>if j=0 then bs else bs'):=fun _ =>
 ⟨w.heap.size,rfl,by rw[Oo];omega,fun j hj=>by
  have hM:=(RG.Made.alloc w [v,v'] T).range;have hj2:j=0\/j=1:=by omega
  rcases hj2 with rfl|rfl
  ·exact⟨v,hM 0 _ rfl,h.below (aH w _)⟩
  ·exact⟨v',hM 1 _ rfl,h'.below (aH w _)⟩⟩
theorem E7(w:World):SP.PartOk w (.slice none 0 0) []:=⟨none,0,0,0,#[],rfl,rfl,Oh _,by decide,OQ rfl⟩
theorem uL(q:Fin P × Fin P):EC.Pair q.1 q.2 (.some q:EC.Pt P):=⟨rfl,rfl⟩
theorem Le(C : Fld P){n m : Nat}(hn : n < top)(hm : m < top){ns : Nat -> Nat}{xs ys : Nat -> Fin P}(h0 : ns 0 = n)(h1 : ns 1 = m)(hx0 : xs 0 = (hpt P cR []).1)(hy0 : ys 0 = (hpt P cR []).2)(hx1 : xs 1 = gX P)(hy1 : ys 1 = gY P):
    wS (ptP (fK ns xs ys 2 257)).1 (ptP (fK ns xs ys 2 257)).2 = wr (cmt P n m) := by
  have hJ := xI C (N := 2) (ns := ns) (xs := xs) (ys := ys) (p := fun j => if j = 0 then(.some (hpt P cR []) : EC.Pt P) else gG P)
    (fun j hj => by have : j = 0 ∨ j = 1 := by omega
                    rcases this with rfl | rfl
                    · rw [h0]; exact hn
                    · rw [h1]; exact hm)
    (fun j hj => by have : j = 0 ∨ j = 1 := by omega
                    rcases this with rfl | rfl
                    · rw [hx0, hy0]; exact uL _
                    · rw [hx1, hy1]; exact uL (gX P, gY P))
    (fun j hj => by have : j = 0 ∨ j = 1 := by omega
                    rcases this with rfl | rfl
                    · exact AZ C _ _
                    · exact uR C)
  have e1 := CH C (hJ.pair C) hJ.2;have e2 : EC.tot (fun j => if j = 0 then(.some (hpt P cR []) : EC.Pt P) else gG P) 2 (fun j => (ns j : Int)) = cmt P n m := EC.dF 2 fun j hj => by
    have : j = 0 \/ j = 1 := by omega
    rcases this with rfl | rfl
    · rw [h0]; rfl
    · rw [h1]; rfl
  rw [e2]at e1;exact e1
theorem Gm{N:Nat}(C:Fld P)(hG:Gap 4624529908474429119 4994812053365940164 1 N)(hN:N<=top)(v0 v1:Value)(az bs:Bs)(w:World)(h0:Arg w v0 az)(h1:Arg w v1 bs):
 Calls prog 16 #[v0,v1] w (Ret fun e w'=>Below w.heap.size w w'/\Aa P N w az bs e w'):=by
 have hA:=GK 22 h0 h1;obtain⟨p0,n0,c0,rfl,-,-⟩:=h0;obtain⟨p1,n1,c1,rfl,-,-⟩:=h1;have hS:=JC hG 2 2 (by decide) _ _ _ hA;clear hA;go_enter Tryz.func16,Tryz.ntmps16;go_wp2_with fail
 refine hS.mono ?_;rintro e w1 ⟨v,rfl,hb1,⟨k,hk1,hk2,rfl,hrow⟩|⟨⟨j,hj,hno⟩,rfl⟩⟩
 ·obtain⟨n,hn,hrn⟩:=hrow 0 (by decide);obtain⟨m,hm,hrm⟩:=hrow 1 (by decide);clear hrow hS;have HB:Hid (Below w.heap.size w w1):=(aH w _).trans (hb1.mono (by rw[Oo];omega));have HK:Hid (k<w1.heap.size/\w1.rangeAt k (4*0) (wn n)/\w1.rangeAt k (4*1) (wn m)):=⟨hk2,hrn,hrm⟩
  have HN:Hid (rq N az=some n/\rq N bs=some m):=⟨hn,hm⟩
  clear hb1 hk1 hk2 hrn hrm hn hm;go_wp2_with fail
  refine(AD cR none 0 0 w1).mono ?_;rintro e w2 ⟨v,rfl,rfl,rfl⟩;have hF:=DT C cR none 0 0 [] w1 (by decide) (E7 w1);obtain⟨q,hq⟩:∃q,Hid (hpt P cR []=q):=⟨_,rfl⟩
  rw[hq.out]at hF;obtain⟨x,y⟩:=q;obtain⟨gx,hgx⟩:∃gx,Hid (gX P=gx):=⟨_,rfl⟩
  obtain⟨gy,hgy⟩:∃gy,Hid (gY P=gy):=⟨_,rfl⟩
  have hbs:=F4 C;rw[hgx.out,hgy.out]at hbs;obtain⟨v4,hv4⟩:∃v4,Hid (pv x y=v4):=⟨_,rfl⟩
  obtain⟨v5,hv5⟩:∃v5,Hid (pv gx gy=v5):=⟨_,rfl⟩
  replace hF:Calls prog 60 #[.func (.func 110) #[] #[.pointer (some ⟨w1.heap.size,0,none⟩),.pointer (some ⟨w1.heap.size+1,0,none⟩)]] ((w1.alloc (.cells #[.string cR] 9)).alloc (.cells #[.slice none 0 0] 22)) (Ret fun e w'=>Below w1.heap.size w1 w'/\e=v4):=by rw[<-hv4.out];exact hF
  rw[hv5.out]at hbs;go_wp2_with fail
  refine hF.mono ?_;rintro e w3 ⟨v,rfl,hb3,rfl⟩;have HB3:Hid (Below w.heap.size w w3):=HB.out.trans (hb3.mono HB.out.size);have HK3:Hid (k<w3.heap.size/\w3.rangeAt k (4*0) (wn n)/\w3.rangeAt k (4*1) (wn m)):=⟨Oi HK.out.1 hb3.size,RG.aN HK.out.2.1 hb3 HK.out.1,RG.aN HK.out.2.2 hb3 HK.out.1⟩
  clear hF hb3 HB HK;go_wp2_with fail
  refine(hbs _).mono ?_;rintro e w4 ⟨v,rfl,hb4,rfl⟩;have HB4:Hid (Below w.heap.size w w4):=HB3.out.trans (hb4.mono HB3.out.size);have HK4:Hid (k<w4.heap.size/\w4.rangeAt k (4*0) (wn n)/\w4.rangeAt k (4*1) (wn m)):=⟨Oi HK3.out.1 hb4.size,RG.aN HK3.out.2.1 hb4 HK3.out.1,RG.aN HK3.out.2.2 hb4 HK3.out.1⟩
  clear hbs hb4 HB3 HK3;obtain⟨w5,hw5⟩:∃w5,Hid (w4.alloc (.cells ((ws x++ws y)++(ws gx++ws gy)).toArray 84)=w5):=⟨_,rfl⟩
  go_wp2_with (refine wpList_build (v:=.slice (some ⟨w4.heap.size,0,none⟩) 2 2) (w':=w5) rfl 109 2 _ rfl ?_ ?_;rw[<-hw5.out,<-hv4.out,<-hv5.out];kernel_rfl;refine Ty ?_)
  have H5:Hid (Below w.heap.size w w5/\k<w5.heap.size/\w4.heap.size<w5.heap.size/\(∀i,i<2->w5.rangeAt k (4*i) (wn (if i=0 then n else m)))/\∀i,i<2->w5.rangeAt w4.heap.size (8*i) (ws (if i=0 then x else gx)++ws (if i=0 then y else gy))):=by
   have hM:=RG.Made.alloc w4 ((ws x++ws y)++(ws gx++ws gy)) 84;have hw:w4.alloc (.cells ((ws x++ws y)++(ws gx++ws gy)).toArray 84)=w5:=hw5.out;rw[hw]at hM;refine⟨HB4.out.trans (hM.bel.mono HB4.out.size),Oi HK4.out.1 hM.bel.size,hM.lt,fun i hi=>?_,fun i hi=>?_⟩
   ·have:i=0\/i=1:=by omega
    rcases this with rfl|rfl
    ·exact RG.aN HK4.out.2.1 hM.bel HK4.out.1
    ·exact RG.aN HK4.out.2.2 hM.bel HK4.out.1
   ·have:i=0\/i=1:=by omega
    rcases this with rfl|rfl
    ·intro j v hj;have hj8:j<8:=(OE.1 hj).1;have:=hM.range j v (by rw[Pn (show j<(ws x++ws y).length from hj8)];exact hj);exact this
    ·intro j v hj;have:=hM.range (8+j) v (by rw[Qp (show(ws x++ws y).length<=8+j from RL 8 j),show 8+j-(ws x++ws y).length=j from QG 8 j];exact hj);rw[Om]at this;exact this
  clear hw5 HB4 HK4 hv4 hv5;show wpList _ _ _ _ _ _;have hS:Calls prog 59 #[.slice (some ⟨k,0,none⟩) 2 2,.slice (some ⟨w4.heap.size,0,none⟩) 2 2] w5 (Ret fun e w'=>Below w5.heap.size w5 w'/\e=pv (ptP (fK (fun i=>if i=0 then n else m) (fun i=>if i=0 then x else gx) (fun i=>if i=0 then y else gy) 2 257)).1 (ptP (fK (fun i=>if i=0 then n else m) (fun i=>if i=0 then x else gx) (fun i=>if i=0 then y else gy) 2 257)).2):=by
   refine(En C 2 (by decide) (fun i=>if i=0 then n else m) (fun i=>if i=0 then x else gx) (fun i=>if i=0 then y else gy) (fun i hi=>?_) k w4.heap.size w5 H5.out.2.1 H5.out.2.2.1 H5.out.2.2.2.1 H5.out.2.2.2.2).mono ?_
   ·have:i=0\/i=1:=by omega
    rcases this with rfl|rfl
    ·exact rF hN HN.out.1
    ·exact rF hN HN.out.2
   ·rintro e w' ⟨v,rfl,hb,s,rfl,rfl⟩;exact⟨_,rfl,hb,rfl⟩
  have hW:=Le C (n:=n) (m:=m) (rF hN HN.out.1) (rF hN HN.out.2) (ns:=fun i=>if i=0 then n else m) (xs:=fun i=>if i=0 then x else gx) (ys:=fun i=>if i=0 then y else gy) rfl rfl (by rw[hq.out];rfl) (by rw[hq.out];rfl) (by rw[hgx.out];rfl) (by rw[hgy.out];rfl);generalize ptP (fK (fun i=>if i=0 then n else m) (fun i=>if i=0 then x else gx) (fun i=>if i=0 then y else gy) 2 257)=z at hS hW;have hBt:∀w,Calls prog 46 #[pv z.1 z.2] w (Ret fun e w'=>Below w.heap.size w w'/\pI w (wS z.1 z.2) e w'):=CG C _ _;rw[hW]at hBt;clear hW;generalize pv z.1 z.2=v6 at hS hBt;go_wp2_with fail
  refine hS.mono ?_;rintro e w6 ⟨v,rfl,hb6,rfl⟩;have HB6:Hid (Below w.heap.size w w6):=H5.out.1.trans (hb6.mono H5.out.1.size);clear hb6 H5 hS;go_wp2_with fail
  refine(hBt _).mono ?_;rintro e w7 ⟨v,rfl,hb7,g,cap3,rfl,hc3,hg3,hlt3,hH3⟩;have HB7:Hid (Below w.heap.size w w7):=HB6.out.trans (hb7.mono HB6.out.size);have HO:Hid (Aa P N w az bs (.tuple #[.slice (some ⟨g,0,none⟩) 33 cap3,.int .i64 0]) w7):=by
   show Aa P N w az bs (.tuple #[.slice (some ⟨g,0,none⟩) 33 cap3,.int .i64 0]) w7;unfold Aa;rw[HN.out.1,HN.out.2];exact⟨g,cap3,rfl,hc3,OM HB6.out.size hg3,hlt3,hH3⟩
  clear hb7 hH3 hBt;go_wp2
  go_ret2
  exact⟨_,rfl,HB7.out,HO.out⟩
 ·have HB:Hid (Below w.heap.size w w1):=(aH w _).trans (hb1.mono (by rw[Oo];omega));have HO:Hid (Aa P N w az bs (.tuple #[.slice none 0 0,.int .i64 3]) w1):=by
   show Aa P N w az bs (.tuple #[.slice none 0 0,.int .i64 3]) w1;unfold Aa;have:j=0\/j=1:=by omega
   rcases this with rfl|rfl
   ·have hno:rq N az=none:=hno;rw[hno];rfl
   ·have hno:rq N bs=none:=hno;rw[hno];cases rq N az<;>rfl
  clear hb1 hno hS;go_wp2
  go_ret2
  exact⟨_,rfl,HB.out,HO.out⟩
end
section
open Go.RowKit Go.Sort Go.Deep
section
variable {P:Program}{ops:Array Oper}{rest:List Oper}{op:Oper}{a:Act}{w w':World}{v:Value}{Q:Exit->Act->World->Prop}
theorem l9(hgd:op.guard=none)(T:TypeId)(parts:Array (Nat × Operand))(ho:op.op=.build T parts)(vs:Array (Nat × Value))(hx:(parts.map fun(i,x)=>(i,a.eval x))=vs)(hr:(SA T vs).run P w=.ok v w')(h:wpList P ops Q rest (a.put op.dst v) w'):wpList P ops Q (op :: rest) a w:=
 wpList_plain hgd fun K hK=>by
  unfold Qg execOp;simp only[ho,hx,OG,hr,Pe,Qo];exact hK _ _ h
theorem qW(hgd:op.guard=none)(T:TypeId)(n:Nat)(parts:Array (Nat × Operand))(ho:op.op=.buildSlice T n parts)(vs:Array (Nat × Value))(hx:(parts.map fun(i,x)=>(i,a.eval x))=vs)(hr:(S8 T n vs).run P w=.ok v w')(h:wpList P ops Q rest (a.put op.dst v) w'):wpList P ops Q (op :: rest) a w:=
 wpList_plain hgd fun K hK=>by
  unfold Qg execOp;simp only[ho,hx,OG,hr,Pe,Qo];exact hK _ _ h
end
theorem N6{a:Bs}(ha:a.size=33)(n:Nat)(w:World):(SA 150 #[(0,nv n),(1,pvl a)]).run prog w=.ok (.agg (wn n++aD a).toArray) w:=by
 unfold pvl;rw[kT ha];kernel_rfl
theorem MJ{a:Bs}(ha:a.size=33)(n:Nat)(w:World):(S8 71 1 #[(0,.agg (wn n++aD a).toArray)]).run prog w=.ok (.slice (some ⟨w.heap.size,0,none⟩) 1 1) (w.alloc (.cells (wn n++aD a).toArray 150)):=by
 rw[kT ha];kernel_rfl
theorem boxS(n:Nat)(w:World):(SH 43 (nv n)).run prog w=.ok (.pointer (some ⟨w.heap.size,0,none⟩)) (w.alloc (.cells (wn n).toArray 43)):=by kernel_rfl
theorem uJ(a:Bs)(ha:a.size=33)(n:Nat)(w:World):Calls prog 36 #[pvl a,nv n] w (Ret fun e w'=>Below w.heap.size w w'/\∃k,e=.slice (some ⟨k,0,none⟩) 1 1/\w.heap.size<=k/\Row w' k (wn n++aD a)):=by
 have B1:=Hid.mk' (CJ ha w);obtain⟨w1,hw1⟩:∃w1,Hid (w.alloc (.cells (aD a).toArray 47)=w1):=⟨_,rfl⟩
 rw[hw1.out]at B1;have e1:w1.heap.size=w.heap.size+1:=by rw[<-hw1.out,Oo]
 have B2:=Hid.mk' (boxS n w1);obtain⟨w2,hw2⟩:∃w2,Hid (w1.alloc (.cells (wn n).toArray 43)=w2):=⟨_,rfl⟩
 rw[hw2.out,e1]at B2;have e2:w2.heap.size=w.heap.size+2:=by rw[<-hw2.out,Oo,e1]
 have B3:=Hid.mk' (N6 ha n w2);have B4:=Hid.mk' (MJ ha n w2);obtain⟨w3,hw3⟩:∃w3,Hid (w2.alloc (.cells (wn n++aD a).toArray 150)=w3):=⟨_,rfl⟩
 rw[hw3.out,e2]at B4;have K:Hid (Row w2 w.heap.size (aD a)/\Row w2 (w.heap.size+1) (wn n)/\Below w.heap.size w w3/\Row w3 (w.heap.size+2) (wn n++aD a)):=by
  have q1:Row w1 w.heap.size (aD a):=by rw[<-hw1.out];exact aO w _ _
  have q2:Row w2 (w.heap.size+1) (wn n):=by rw[<-hw2.out,<-e1];exact aO w1 _ _
  have q3:Row w3 (w.heap.size+2) (wn n++aD a):=by rw[<-hw3.out,<-e2];exact aO w2 _ _
  have b1:Below w.heap.size w w1:=by rw[<-hw1.out];exact aH w _
  have b2:Below w1.heap.size w1 w2:=by rw[<-hw2.out];exact aH w1 _
  have b3:Below w2.heap.size w2 w3:=by rw[<-hw3.out];exact aH w2 _
  exact⟨q1.below b2,q2,(b1.trans (b2.mono (by omega))).trans (b3.mono (by omega)),q3⟩
 have HL:Hid ((prog.info? 47).map (·.size)=some (aD a).length):=by show _=_;rw[aM ha];exact cK
 obtain⟨d,hd1,hd2⟩:=Ol.1 uCP;obtain⟨d',hd3,hd4⟩:=Ol.1 u40;have HD:Hid ((prog.underlying 47=some d/\d.isRow=true)/\prog.underlying 43=some d'/\d'.isRow=true):=⟨⟨hd1,hd2⟩,hd3,hd4⟩
 clear hd1 hd2 hd3 hd4 hw1 hw2 hw3 e1 e2;obtain⟨va,hva⟩:∃v,Hid (pvl a=v):=⟨_,rfl⟩
 obtain⟨vn,hvn⟩:∃v,Hid (nv n=v):=⟨_,rfl⟩
 obtain⟨vt,hvt⟩:∃v,Hid (O8 (wn n++aD a).toArray=v):=⟨_,rfl⟩
 have B1':Hid ((SH 47 va).run prog w=.ok (.pointer (some ⟨w.heap.size,0,none⟩)) w1):=by rw[<-hva.out];exact B1
 rw[hvn.out]at B2;rw[hva.out,hvn.out,hvt.out]at B3;rw[hvt.out]at B4;rw[hva.out,hvn.out];clear B1;go_enter Tryz.func36,Tryz.ntmps36;go_wp2_with (first|(refine dB (u:=va) (v:=.pointer (some ⟨w.heap.size,0,none⟩)) (w':=w1) rfl 47 (.tmp 0) rfl ?_ ?_ ?_;rfl;exact B1'.out)|(refine dB (u:=vn) (v:=.pointer (some ⟨w.heap.size+1,0,none⟩)) (w':=w2) rfl 43 (.tmp 1) rfl ?_ ?_ ?_;rfl;exact B2.out)|(refine wpList_load_mid rfl 43 _ rfl (w.heap.size+1) 0 ?_ (wn n) d' ?_ ?_ ?_ ?_ ?_;rfl;exact K.out.2.1.2.1;exact HD.out.2.1;exact HD.out.2.2;exact i40;rw[show O8 (wn n).toArray=vn from hvn.out])|(refine wpList_load_mid rfl 47 _ rfl w.heap.size 0 ?_ (aD a) d ?_ ?_ ?_ ?_ ?_;rfl;exact K.out.1.2.1;exact HD.out.1.1;exact HD.out.1.2;exact HL.out;rw[show O8 (aD a).toArray=va from hva.out])|(refine l9 (v:=vt) (w':=w2) rfl 150 _ rfl #[(0,vn),(1,va)] ?_ ?_ ?_;kernel_rfl;exact B3.out)|(refine qW (v:=.slice (some ⟨w.heap.size+2,0,none⟩) 1 1) (w':=w3) rfl 71 1 _ rfl #[(0,vt)] ?_ ?_ ?_;kernel_rfl;exact B4.out))
 go_ret;exact⟨_,rfl,K.out.2.2.1,w.heap.size+2,rfl,by omega,K.out.2.2.2⟩
end
section
open Go.RowKit Go.Sort Go.Deep
variable {P:Nat}[NeZero P]{N:Nat}
theorem N5{a:Bs}(ha:a.size=33)(n:Nat)(w:World):(SH 150 (.agg (wn n++aD a).toArray)).run prog w=.ok (.pointer (some ⟨w.heap.size,0,none⟩)) (w.alloc (.cells (wn n++aD a).toArray 150)):=by
 rw[kT ha];kernel_rfl
theorem N8(w:World):(SA 43 #[]).run prog w=.ok (nv 0) w:=by kernel_rfl
def tvl(n:Nat)(a:Bs):Value:=.agg (wn n++aD a).toArray
theorem dS{W:World}{k:Nat}{xs ys:List Value}(h:W.rangeAt k 0 (xs++ys)):W.rangeAt k 0 xs:=fun j v hj=>h j v (by rw[Pn (OE.1 hj).1];exact hj)
theorem eJ{W:World}{k:Nat}{xs ys:List Value}(h:W.rangeAt k 0 (xs++ys)):W.rangeAt k xs.length ys:=fun j v hj=>by
 have:=h (xs.length+j) v (by rw[Qp (RL _ _),QG];exact hj);rwa[Om]at this
theorem E6{n:Nat}(hn:n<top){a:Bs}(ha:a.size=33):Gives 144 #[tvl n a] (.bool (decide (n=0))):=by
 intro w;have B1:=Hid.mk' (N5 ha n w);obtain⟨w1,hw1⟩:∃w1,Hid (w.alloc (.cells (wn n++aD a).toArray 150)=w1):=⟨_,rfl⟩
 rw[hw1.out]at B1;have K:Hid (Row w1 w.heap.size (wn n++aD a)/\Below w.heap.size w w1):=by rw[<-hw1.out];exact⟨aO w _ _,aH w _⟩
 obtain⟨d',hd3,hd4⟩:=Ol.1 u40;have HD:Hid (prog.underlying 43=some d'/\d'.isRow=true):=⟨hd3,hd4⟩
 clear hd3 hd4 hw1;obtain⟨va,hva⟩:∃v,Hid (tvl n a=v):=⟨_,rfl⟩
 obtain⟨vn,hvn⟩:∃v,Hid (nv n=v):=⟨_,rfl⟩
 obtain⟨v0,hv0⟩:∃v,Hid (nv 0=v):=⟨_,rfl⟩
 have B1':Hid ((SH 150 va).run prog w=.ok (.pointer (some ⟨w.heap.size,0,none⟩)) w1):=by rw[<-hva.out];exact B1
 have B2:Hid ((SA 43 #[]).run prog w1=.ok v0 w1):=by rw[<-hv0.out];exact N8 w1
 have B3:=Hid.mk' (eqS hn (show 0<top by unfold top;omega) w1);rw[hvn.out,hv0.out]at B3;have hq:=B3.out;obtain⟨z,hz⟩:∃z,Hid (decide (n=0)=z):=⟨_,rfl⟩
 rw[hz.out]at hq;have hg:(eqGuard .eql 43 (.tmp 4) (.tmp 5) vn v0).run prog w1=.ok () w1:=by rw[<-hvn.out,<-hv0.out];kernel_rfl
 rw[hva.out,hz.out];clear B1 B3;go_enter Tryz.func144,Tryz.ntmps144;go_wp2_with (first|(refine dB (u:=va) (v:=.pointer (some ⟨w.heap.size,0,none⟩)) (w':=w1) rfl 150 (.tmp 0) rfl ?_ ?_ ?_;rfl;exact B1'.out)|(refine wpList_load_mid rfl 43 _ rfl w.heap.size 0 ?_ (wn n) d' ?_ ?_ ?_ ?_ ?_;rfl;exact dS K.out.1.2.1;exact HD.out.1;exact HD.out.2;exact i40;rw[show O8 (wn n).toArray=vn from hvn.out])|(refine l9 (v:=v0) (w':=w1) rfl 43 _ rfl #[] ?_ ?_ ?_;kernel_rfl;exact B2.out))
 go_wp2;go_ret;exact⟨_,rfl,K.out.2,rfl⟩
theorem uT:(prog.underlying 150).map (·.isRow)=some true:=by kernel_rfl
theorem iT:(prog.info? 150).map (·.size)=some 37:=by kernel_rfl
theorem atT(k o n c i:Nat)(hi:i<n)(w:World):(Instr.indexAt 71 (.slice (some ⟨k,o,none⟩) n c) (.int .i64 i)).run prog w=.ok (.pointer (some ⟨k,o+37*i,none⟩)) w:=by
 have h1:¬(i:Int)<0:=by omega
 have h2:(i:Int)<n:=by omega
 go_simp
def iM(ns:Nat->Nat):Nat->Nat->Int
 | _,0=>-1
 | i,m+1=>if ns i=0 then(i:Int) else iM ns (i+1) m
def JK(b:Bool):List RG.It:=[.x 9 [] (.bool b)]
def JJ(g k c i n:Nat)(a:Bs)(z:Bool):List RG.It:=[.x 11 [] (.func (.func 144) #[] #[]),.x 12 [] (.slice (some ⟨g,0,none⟩) k c),.x 13 [] (.int .i64 i),.x 14 [(12,1),(13,2)] (.pointer (some ⟨g,(0+37*i),none⟩)),.x 15 [(14,3)] (tvl n a),.c 16 [(11,0),(15,4)] (.bool z)]
theorem Ci(g k c:Nat)(hk:k<=1000000)(ns:Nat->Nat)(az:Nat->Bs)(hn:∀j,j<k->ns j<top)(ha:∀j,j<k->(az j).size=33)(w:World)(hg:g<w.heap.size)(hr:∀j,j<k->w.rangeAt g (37*j) (wn (ns j)++aD (az j))):
 Calls prog 173 #[(.slice (some ⟨g,0,none⟩) k c),(.func (.func 144) #[] #[])] w (Ret fun e w'=>Below w.heap.size w w'/\e=.int .i64 (iM ns 0 k)):=by
 obtain⟨R,hR⟩:∃R,iM ns 0 k=R:=⟨_,rfl⟩
 rw[hR];go_enter Tryz.func173,Tryz.ntmps173;refine RG.M.enter [(0,.v (.slice (some ⟨g,0,none⟩) k c)),(1,.v (.func (.func 144) #[] #[]))] 19 (by kernel_rfl) ?_;intro a0 M0;repeat refine wp_seq ?_
 refine M0.u [.x 4 [] (.int .i64 0)] [(0,.v (.slice (some ⟨g,0,none⟩) k c)),(1,.v (.func (.func 144) #[] #[]))] ⟨RG.st,trivial⟩ ?_;intro a1 w1 M1;repeat refine wp_seq ?_
 refine M1.u [.x 6 [] (.slice (some ⟨g,0,none⟩) k c),.x 7 [(6,0)] (.int .i64 k),.x 8 [] (.int .i64 0)] [(0,.v (.slice (some ⟨g,0,none⟩) k c)),(1,.v (.func (.func 144) #[] #[])),(7,.v (.int .i64 k)),(8,.v (.int .i64 0))] ⟨RG.st,RG.st,RG.st,trivial⟩ ?_;intro a2 w2 M2;repeat refine wp_seq ?_
 refine wp_block ?_;refine wp_loop_ghost (fun m a wr=>∃i:Nat,i+m=k/\iM ns i m=R/\RG.M w w.heap.size [] 19 [] [] [(0,.v (.slice (some ⟨g,0,none⟩) k c)),(1,.v (.func (.func 144) #[] #[])),(7,.v (.int .i64 k)),(8,.v (.int .i64 i))] a wr) k ⟨0,by omega,hR,M2⟩ ?_;intro m' a wr;rintro⟨i,him,hf,M20⟩;by_cases hi:i<k
 ·obtain⟨n,hne⟩:∃n,ns i=n:=⟨_,rfl⟩
  obtain⟨b,hbe⟩:∃b,az i=b:=⟨_,rfl⟩
  have hnt:=hn i hi;have hbs:=ha i hi;have hri:=hr i hi;rw[hne]at hnt hri;rw[hbe]at hbs hri;have hri':w.rangeAt g (0+37*i) (wn n++aD b):=by rw[Om];exact hri
  have hlen:(prog.info? 150).map (·.size)=some (wn n++aD b).length:=by rw[Oz,aM hbs];exact iT
  have hz:=E6 hnt hbs;obtain⟨m2,rfl⟩:∃m2,m'=m2+1:=⟨m'-1,by omega⟩
  unfold iM at hf;rw[hne]at hf;repeat refine wp_seq ?_
  refine M20.u (JK true) [(0,.v (.slice (some ⟨g,0,none⟩) k c)),(1,.v (.func (.func 144) #[] #[])),(7,.v (.int .i64 k)),(8,.v (.int .i64 i)),(9,.v (.bool true))] ⟨RG.aK rfl .lss 3 3 8 7 (.int .i64 i) (.int .i64 k) (.bool true) rfl rfl RG.sx RG.sx (fun w=>by kernel_rfl) (dJ hi),trivial⟩ ?_;intro a21 w21 M21;repeat refine wp_seq ?_
  refine wp_cond_true M21.ev ?_;refine wp_skip ?_;refine wp_seq ?_;refine wp_block ?_;repeat refine wp_seq ?_
  refine M21.u [.x 10 [] (.int .i64 i),.x 5 [(10,0)] (.int .i64 i)] [(0,.v (.slice (some ⟨g,0,none⟩) k c)),(1,.v (.func (.func 144) #[] #[])),(7,.v (.int .i64 k)),(8,.v (.int .i64 i)),(5,.v (.int .i64 i))] ⟨RG.st,RG.st,trivial⟩ ?_;intro a22 w22 M22;repeat refine wp_seq ?_
  by_cases h0:n=0
  ·rw[decide_eq_true h0]at hz;rw[if_pos h0]at hf;refine M22.u (JJ g k c i n b true) [(0,.v (.slice (some ⟨g,0,none⟩) k c)),(1,.v (.func (.func 144) #[] #[])),(7,.v (.int .i64 k)),(8,.v (.int .i64 i)),(5,.v (.int .i64 i)),(16,.v (.bool true))] ⟨RG.st,RG.st,RG.st,RG.bC rfl 71 12 13 rfl (.v (.slice (some ⟨g,0,none⟩) k c)) (.int .i64 i) RG.sx RG.sx (fun μ w=>atT _ 0 _ _ i hi w),RG.dE rfl g (0+37*i) hg OD 150 14 rfl (wn n++aD b) rfl RG.sx hri' uT hlen,RG.clB (fun _ _=>by kernel_rfl) (fun w' _=>hz w'),trivial⟩ ?_;intro a23 w23 M23;repeat refine wp_seq ?_
   refine wp_cond_true M23.ev ?_;repeat refine wp_seq ?_
   refine M23.u [.x 17 [] (.int .i64 i),.x 4 [(17,0)] (.int .i64 i)] [(4,.v (.int .i64 i))] ⟨RG.st,RG.st,trivial⟩ ?_;intro a24 w24 M24;refine wp_ret ?_;refine bodyPost_ret (v:=.int .i64 i) (RG.aV 4 rfl (.int .i64 i) M24.av) M24.sl.defers ?_;exact⟨_,rfl,M24.st.bel.below,by rw[hf]⟩
  ·rw[decide_eq_false h0]at hz;rw[if_neg h0]at hf;refine M22.u (JJ g k c i n b false) [(0,.v (.slice (some ⟨g,0,none⟩) k c)),(1,.v (.func (.func 144) #[] #[])),(7,.v (.int .i64 k)),(8,.v (.int .i64 i)),(16,.v (.bool false))] ⟨RG.st,RG.st,RG.st,RG.bC rfl 71 12 13 rfl (.v (.slice (some ⟨g,0,none⟩) k c)) (.int .i64 i) RG.sx RG.sx (fun μ w=>atT _ 0 _ _ i hi w),RG.dE rfl g (0+37*i) hg OD 150 14 rfl (wn n++aD b) rfl RG.sx hri' uT hlen,RG.clB (fun _ _=>by kernel_rfl) (fun w' _=>hz w'),trivial⟩ ?_;intro a23 w23 M23;repeat refine wp_seq ?_
   refine wp_cond_false M23.ev ?_;refine wp_skip ?_;repeat refine wp_seq ?_
   refine M23.u [.x 18 [] (.int .i64 ((i+1:Nat):Int)),.x 8 [(18,0)] (.int .i64 ((i+1:Nat):Int))] [(0,.v (.slice (some ⟨g,0,none⟩) k c)),(1,.v (.func (.func 144) #[] #[])),(7,.v (.int .i64 k)),(8,.v (.int .i64 ((i+1:Nat):Int)))] ⟨RG.aI rfl .add 3 3 8 (.int .i64 i) (.int .i64 1) (.int .i64 ((i+1:Nat):Int)) rfl rfl RG.sx (fun w=>by kernel_rfl) (nY i 1 (by omega) (by omega)),RG.st,trivial⟩ ?_;intro a24 w24 M24;show ∃n',_;exact⟨m2,by omega,i+1,by omega,hf,M24⟩
 ·have hik:m'=0:=by omega
  rw[hik]at hf;unfold iM at hf;repeat refine wp_seq ?_
  refine M20.u (JK false) [(9,.v (.bool false))] ⟨RG.aK rfl .lss 3 3 8 7 (.int .i64 i) (.int .i64 k) (.bool false) rfl rfl RG.sx RG.sx (fun w=>by kernel_rfl) (jL hi),trivial⟩ ?_;intro a21 w21 M21;repeat refine wp_seq ?_
  refine wp_cond_false M21.ev ?_;refine wp_exit ?_;dsimp only[Exit.then,QK];rw[if_pos rfl];repeat refine wp_seq ?_
  refine M21.u [.x 4 [] (.int .i64 (-1))] [(4,.v (.int .i64 (-1)))] ⟨RG.st,trivial⟩ ?_;intro a22 w22 M22;refine wp_ret ?_;refine bodyPost_ret (v:=.int .i64 (-1)) (RG.aV 4 rfl (.int .i64 (-1)) M22.av) M22.sl.defers ?_;exact⟨_,rfl,M22.st.bel.below,by rw[<-hf]⟩
theorem pV{ns:Nat->Nat}:∀(m i:Nat),(∀j,i<=j->j<i+m->ns j≠0)->iM ns i m = -1
 | 0,_,_=>rfl
 | m+1,i,h=>by
  unfold iM;rw[if_neg (h i (Oh _) (by omega))];exact pV m (i+1) (fun j h1 h2=>h j (by omega) (by omega))
theorem zB(g k c:Nat)(hk:k<=1000000)(ns:Nat->Nat)(az:Nat->Bs)(hn:∀j,j<k->ns j<top)(hn0:∀j,j<k->ns j≠0)(ha:∀j,j<k->(az j).size=33)(w:World)(hg:g<w.heap.size)(hr:∀j,j<k->w.rangeAt g (37*j) (wn (ns j)++aD (az j))):
 Calls prog 143 #[(.slice (some ⟨g,0,none⟩) k c),(.func (.func 144) #[] #[])] w (Ret fun e w'=>Below w.heap.size w w'/\e=(.slice (some ⟨g,0,none⟩) k c)):=by
 have hI:∀w',RG.BelX w.heap.size [] w w'->Calls prog 173 #[(.slice (some ⟨g,0,none⟩) k c),(.func (.func 144) #[] #[])] w' (Ret fun e w''=>Below w'.heap.size w' w''/\e=.int .i64 (-1)):=fun w' hb=>by
  have h:=Ci g k c hk ns az hn ha w' (Oi hg hb.below.size) (fun j hj=>RG.aN (hr j hj) hb.below hg);rw[pV k 0 (fun j _ h2=>hn0 j (by omega))]at h;exact h
 go_enter Tryz.func143,Tryz.ntmps143;refine RG.M.enter [(0,.v (.slice (some ⟨g,0,none⟩) k c)),(1,.v (.func (.func 144) #[] #[]))] 42 (by kernel_rfl) ?_;intro a0 M0;repeat refine wp_seq ?_
 refine M0.u [.x 4 [] (.slice none 0 0)] [(0,.v (.slice (some ⟨g,0,none⟩) k c)),(1,.v (.func (.func 144) #[] #[]))] ⟨RG.st,trivial⟩ ?_;intro a1 w1 M1;repeat refine wp_seq ?_
 refine M1.u [.x 8 [] (.slice (some ⟨g,0,none⟩) k c),.x 9 [] (.func (.func 144) #[] #[]),.c 10 [(8,0),(9,1)] (.int .i64 (-1)),.x 5 [(10,2)] (.int .i64 (-1))] [(0,.v (.slice (some ⟨g,0,none⟩) k c)),(5,.v (.int .i64 (-1)))] ⟨RG.st,RG.st,RG.clB (fun _ _=>by kernel_rfl) hI,RG.st,trivial⟩ ?_;intro a2 w2 M2;repeat refine wp_seq ?_
 refine M2.u [.x 11 [] (.int .i64 (-1)),.x 12 [(11,0)] (.bool true)] [(0,.v (.slice (some ⟨g,0,none⟩) k c)),(12,.v (.bool true))] ⟨RG.st,RG.st,trivial⟩ ?_;intro a3 w3 M3;repeat refine wp_seq ?_
 refine wp_cond_true M3.ev ?_;repeat refine wp_seq ?_
 refine M3.u [.x 13 [] (.slice (some ⟨g,0,none⟩) k c),.x 4 [(13,0)] (.slice (some ⟨g,0,none⟩) k c)] [(4,.v (.slice (some ⟨g,0,none⟩) k c))] ⟨RG.st,RG.st,trivial⟩ ?_;intro a4 w4 M4;refine wp_ret ?_;refine bodyPost_ret (v:=(.slice (some ⟨g,0,none⟩) k c)) (RG.aV 4 rfl _ M4.av) M4.sl.defers ?_;exact⟨_,rfl,M4.st.bel.below,rfl⟩
theorem LG:prog.underlying 210=some (.map 47 3):=by kernel_rfl
theorem zero3(w:World):(zeroValue 3).run prog w=.ok (.int .i64 0) w:=by kernel_rfl
theorem uV(b:Bs):∀(D:List Bs) (i:Nat),ents (D++[b]) i=ents D i++[{ key:=.agg (aD b).toArray,val:=.int .i64 ((i+D.length:Nat):Int),born:=i+D.length }]
 | [],i=>rfl
 | k :: r,i=>by
  rw[Sr];unfold ents;rw[uV b r (i+1),OV,show i+1+r.length=i+(r.length+1) by omega];rfl
theorem yN{b:Bs}(hb:b.size=33)(D:List Bs)(hD:∀k∈D,k.size=33)(m clock:Nat)(w:World)(hm:w.heap[m]? = some (.map (ents D 0).toArray clock)):
 (TL 210 (.map (some m)) (.agg (aD b).toArray) true).run prog w=.ok (.tuple #[.int .i64 (((at? b D 0).getD 0:Nat):Int),.bool (at? b D 0).isSome]) w:=by
 have h1:=run_underlying LG w;have h2:=fun e=>Cx hb e w
 have h3:=Ch hb D hD w;have h4:(getObj m).run prog w=.ok (.map (ents D 0).toArray clock) w:=by
  simp[getObj,Vo,hm]
 unfold TL;simp only[OG,h1,Pe,h4,Qo,h2,h3];cases h:at? b D 0 with
 | none=>simp[OG,zero3]
 | some j=>simp
theorem GG{b:Bs}(hb:b.size=33)(D:List Bs)(hD:∀k∈D,k.size=33)(m:Nat)(w:World)(hm:w.heap[m]? = some (.map (ents D 0).toArray D.length))(hn:at? b D 0=none):
 (Ti 210 (.map (some m)) (.agg (aD b).toArray) (.int .i64 (D.length:Int))).run prog w=.ok () (w.putObj m (.map (ents (D++[b]) 0).toArray (D.length+1))):=by
 have h1:=run_underlying LG w;have h2:=fun e=>Cx hb e w
 have h3:=Ch hb D hD w;rw[hn]at h3;have h4:(getObj m).run prog w=.ok (.map (ents D 0).toArray D.length) w:=by
  simp[getObj,Vo,hm]
 unfold Ti;simp only[OG,h1,Pe,h4,Qo,h2,h3];rw[uV,Om];simp[setObj,Vo,hm,U6]
theorem GH:prog.underlying 71=some (.slice 150):=by kernel_rfl
theorem Mo:(prog.info? 150).map (fun i=>(i.size,i.bytes,i.zero.map fun z=>z.cells.size))=some (37,72,some 37):=by kernel_rfl
theorem cells_one(n:Nat)(a:Bs):∀u∈wn n++aD a,u.oneCell'=true:=by
 intro u hu;rcases UK.1 hu with h|h
 ·unfold wn at h;simp only[Pg,OD,or_false]at h;rcases h with rfl|rfl|rfl|rfl<;>rfl
 ·obtain⟨x,-,rfl⟩:=Pw.1 h;rfl
theorem Gb{base k g n:Nat}{v:Value}{xs:List Value}{a:Bs}(ha:a.size=33){W:World}(hown:W.ownsRow base 150 37 v k xs)(hR:Row W g (wn n++aD a))(hk:k<=1000000)(hb:base<=W.heap.size):
 ∃v' W',(Qv #[71,71] 71 #[v,.slice (some ⟨g,0,none⟩) 1 1]).run prog W=.ok v' W'/\W'.ownsRow base 150 37 v' (k+1) (xs++(wn n++aD a))/\W.grownBy W' v.ownBlock:=by
 obtain⟨i,hi,he⟩:=Ol.1 Mo;simp only[P3.injEq]at he;obtain⟨h1,h2,h3⟩:=he;obtain⟨z,hz,hz2⟩:=Ol.1 h3;obtain⟨v',W',r1,r2,r3,-⟩:=run_append_own (P:=prog) W base 71 71 150 i z 37 72 GH hi hz h1 h2 hz2 (by decide) v k xs hown ⟨g,0,none⟩ 1 1 (wn n++aD a) (by rw[Oz,aM ha];rfl)
  (fun j u hj=>by
   have:=hR.2.1 j u hj;rw[Om]at this;rw[show(⟨g,0,none⟩:Addr).add j=⟨g,j,none⟩ by unfold S1;split<;>simp_all];exact this) (cells_one n a) (by unfold maxLen;omega) (by omega) hb
 exact⟨v',W',r1,r2,r3⟩
def dR(N:Nat):List (Nat × Bs)->Nat->Bs->List (Nat × Bs)
 | [],n,p=>[(n,p)]
 | (s,q) :: r,n,p=>if p=q then(sPl N s n,q) :: r else(s,q) :: dR N r n p
def mrg(N:Nat)(ns:Nat->Nat)(az:Nat->Bs):Nat->List (Nat × Bs)
 | 0=>[]
 | i+1=>dR N (mrg N ns az i) (ns i) (az i)
def aZ(l:List (Nat × Bs)):List Value:=l.flatMap fun x=>wn x.1++aD x.2
theorem zS{N n:Nat}{p:Bs}:∀ {l:List (Nat × Bs)},at? p (l.map (·.2)) 0=none->dR N l n p=l++[(n,p)]
 | [],_=>rfl
 | (s,q) :: r,h=>by
  have h2:=at?_none.1 h;rw[Qu,Pg,not_or]at h2;unfold dR;rw[if_neg h2.1,zS (l:=r) (at?_none.2 h2.2)];rfl
theorem zL(l:List (Nat × Bs))(n:Nat)(p:Bs):aZ (l++[(n,p)])=aZ l++(wn n++aD p):=by
 unfold aZ;rw[List.flatMap_append];simp
structure Mx(w W:World)(m:Nat)(l:List (Nat × Bs))(v:Value):Prop where
 bl:Below w.heap.size w W
 mp:W.heap[m]? = some (.map (ents (l.map (·.2)) 0).toArray l.length)
 lm:w.heap.size<=m
 ow:W.ownsRow w.heap.size 150 37 v l.length (aZ l)
theorem Mx.own_ne{w W:World}{m:Nat}{l:List (Nat × Bs)}{v:Value}(h:Mx w W m l v){g:Nat}(hg:v.ownBlock=some g):g≠m/\w.heap.size<=g/\g<W.heap.size:=by
 rcases h.ow.2 with⟨rfl,-⟩|⟨g',cap,cur,rfl,h1,h2,-⟩
 ·cases hg
 ·obtain rfl:g'=g:=by simpa[Value.ownBlock]using hg
  refine⟨fun e=>?_,h1,(OH.1 h2).1⟩;have:=h.mp;rw[<-e,h2]at this;cases this
theorem o8{W W':World}{base k:Nat}{e:TypeId}{s:Nat}{v:Value}{xs:List Value}(h:W.ownsRow base e s v k xs)(hk:∀g,v.ownBlock=some g->W'.heap[g]? = W.heap[g]?):W'.ownsRow base e s v k xs:=by
 refine⟨h.1,?_⟩;rcases h.2 with h2|⟨g,cap,cur,rfl,h1,h2,h3⟩
 ·exact OQ h2
 ·exact OC ⟨g,cap,cur,rfl,h1,by rw[hk g rfl];exact h2,h3⟩
theorem Mx.kept{w W W':World}{m:Nat}{l:List (Nat × Bs)}{v:Value}(h:Mx w W m l v)(hb:Below W.heap.size W W'):Mx w W' m l v:=
 ⟨h.bl.trans (hb.mono h.bl.size),by rw[hb.block m (OH.1 h.mp).1];exact h.mp,h.lm,o8 h.ow fun g hg=>hb.block g (h.own_ne hg).2.2⟩
theorem Fx(l:List (Nat × Bs))(n:Nat)(p:Bs):(l++[(n,p)]).map (·.2)=l.map (·.2)++[p]:=by simp
theorem Mx.push{w W:World}{m:Nat}{l:List (Nat × Bs)}{v:Value}(h:Mx w W m l v){p:Bs}(hp:p.size=33)(hk:l.length<=1000000)(n:Nat):
 ∃v' W5x,(Qv #[71,71] 71 #[v,.slice (some ⟨W.heap.size,0,none⟩) 1 1]).run prog ((W.putObj m (.map (ents (l.map (·.2)++[p]) 0).toArray (l.length+1))).alloc (.cells (wn n++aD p).toArray 150))=.ok v' W5x/\Mx w W5x m (l++[(n,p)]) v'/\W.heap.size<W5x.heap.size/\∀j,j<W.heap.size->w.heap.size<=j->j≠m->some j≠v.ownBlock->W5x.heap[j]? = W.heap[j]?:=by
 obtain⟨W3,h3⟩:∃W3,W.putObj m (.map (ents (l.map (·.2)++[p]) 0).toArray (l.length+1))=W3:=⟨_,rfl⟩
 have s3:W3.heap.size=W.heap.size:=by rw[<-h3];simp[U6]
 have hmW:m<W.heap.size:=(OH.1 h.mp).1;have o3:∀j,j≠m->W3.heap[j]? = W.heap[j]?:=fun j hj=>by rw[<-h3];exact World.putObj_heap_other hj
 have b3:Below w.heap.size w W3:=h.bl.trans ⟨by rw[<-h3];rfl,by rw[<-h3];rfl,by rw[<-h3];rfl,by omega,fun j hj=>o3 j (by have:=h.lm;omega)⟩;have w3:W3.ownsRow w.heap.size 150 37 v l.length (aZ l):=o8 h.ow fun g hg=>o3 g (h.own_ne hg).1
 have m3:W3.heap[m]? = some (.map (ents (l.map (·.2)++[p]) 0).toArray (l.length+1)):=by rw[<-h3];exact World.putObj_heap_same hmW
 rw[h3];have R4:=aO W3 (wn n++aD p) 150;have b4:=aH W3 (.cells (wn n++aD p).toArray 150);have s4:(W3.alloc (.cells (wn n++aD p).toArray 150)).heap.size=W.heap.size+1:=by rw[Oo,s3]
 generalize W3.alloc (.cells (wn n++aD p).toArray 150)=W4 at R4 b4 s4⊢;have w4:W4.ownsRow w.heap.size 150 37 v l.length (aZ l):=o8 w3 fun g hg=>b4.block g (by have:=(h.own_ne hg).2.2;omega)
 rw[s3]at R4;obtain⟨v',W5x,r1,r2,r3⟩:=Gb hp w4 R4 hk (by have:=b3.size;omega);have hm5:some m≠v.ownBlock:=fun e=>(h.own_ne e.symm).1 rfl
 refine⟨v',W5x,r1,⟨?_,?_,h.lm,?_⟩,by have:=r3.size;omega,fun j hj _ hjm hjo=>?_⟩
 ·exact(b3.trans (b4.mono b3.size)).grown r3 (by have:=b3.size;omega) (fun k e=>(h.own_ne e).2.1)
 ·rw[r3.block m (by omega) hm5,b4.block m (by omega),m3,Fx,Oz];rfl
 ·rw[zL,Oz];exact r2
 ·rw[r3.block j (by omega) hjo,b4.block j (by omega),o3 j hjm]
end
section
open Go.RowKit Go.Sort Go.Deep
variable {N:Nat}
section
variable {P:Program}{ops:Array Oper}{rest:List Oper}{op:Oper}{a:Act}{w w':World}{v x y z:Value}{Q:Exit->Act->World->Prop}
theorem tW(hgd:op.guard=none)(T:TypeId)(m k:Operand)(ok:Bool)(ho:op.op=.lookup T m k ok)(hm:a.eval m=x)(hk:a.eval k=y)(hr:(TL T x y ok).run P w=.ok v w')(h:wpList P ops Q rest (a.put op.dst v) w'):wpList P ops Q (op :: rest) a w:=
 wpList_plain hgd fun K hK=>by
  unfold Qg execOp;simp only[ho,hm,hk,OG,hr,Pe,Qo];exact hK _ _ h
theorem C3(hgd:op.guard=none)(T:TypeId)(m k u:Operand)(ho:op.op=.mapUpdate T m k u)(hm:a.eval m=x)(hk:a.eval k=y)(hu:a.eval u=z)(hr:(Ti T x y z).run P w=.ok () w')(h:wpList P ops Q rest (a.put op.dst undef) w'):wpList P ops Q (op :: rest) a w:=
 wpList_plain hgd fun K hK=>by
  unfold Qg execOp;simp only[ho,hm,hk,hu,OG,hr,Pe,Qo];exact hK _ _ h
theorem mA(hgd:op.guard=none)(s u:Operand)(t:TypeId)(ho:op.op=.call { callee:=.builtin .append,args:=#[s,u],argTypes:=#[t,t] })(hs:a.eval s=x)(hu:a.eval u=y)(hr:(Qv #[t,t] op.type #[x,y]).run P w=.ok v w')(h:wpList P ops Q rest (a.put op.dst v) w'):wpList P ops Q (op :: rest) a w:=
 wpList_plain hgd fun K hK=>by
  unfold Qg execOp;simp only[ho,resolve,invoke,builtin,OG,Qo,Pe,List.map_toArray,Qu,List.map_nil,hs,hu,hr];exact hK _ _ h
end
def zT:List Value:=[.int .u64 0,.int .u64 0,.int .u64 0,.int .u64 0]++z33
theorem Dv{W:World}{base k:Nat}{e:TypeId}{s:Nat}{v:Value}{xs:List Value}(h:W.ownsRow base e s v k xs):∃q cap,v=.slice q k cap:=by
 rcases h.2 with⟨rfl,rfl⟩|⟨g,cap,cur,rfl,-⟩
 ·exact⟨none,0,rfl⟩
 ·exact⟨some ⟨g,0,none⟩,cap,rfl⟩
theorem wG(ns:Nat->Nat)(az:Nat->Bs):∀i,(mrg N ns az i).length<=i
 | 0=>Oh _
 | i+1=>by
  have ih:=wG ns az i;have h:∀(l:List (Nat × Bs)) n p,(dR N l n p).length<=l.length+1:=by
   intro l n p;induction l with
   | nil=>exact Oh _
   | cons x r ihr =>
    unfold dR;split
    ·simp
    ·simp only[OV];omega
  exact OM (h _ _ _) (by omega)
theorem rZ(ns:Nat->Nat)(az:Nat->Bs){k:Nat}(ha:∀j,j<k->(az j).size=33):∀i,i<=k->∀x∈(mrg N ns az i).map (·.2),x.size=33
 | 0,_=>fun x hx=>by cases hx
 | i+1,hi=>by
  have ih:=rZ ns az ha i (by omega);have h:∀(l:List (Nat × Bs)) n p,p.size=33->(∀x∈l.map (·.2),x.size=33)->∀x∈(dR N l n p).map (·.2),x.size=33:=by
   intro l n p hp;induction l with
   | nil=>intro _ x hx;simp[dR]at hx;rw[hx];exact hp
   | cons y r ihr =>
    intro hl x hx;unfold dR at hx;split at hx
    ·exact hl x (by simpa using hx)
    ·rw[Qu,Pg]at hx;rcases hx with hx|hx
     ·exact hl x (by rw[hx];simp)
     ·exact ihr (fun z hz=>hl z (OU _ hz)) x hx
  exact h _ _ _ (ha i (by omega)) ih
theorem pF:∀(l:List (Nat × Bs)),(∀x∈l.map (·.2),x.size=33)->∀(j:Nat) (hj:j<l.length) (t:Nat),t<37->(aZ l)[37*j+t]? = (wn (l[j]).1++aD (l[j]).2)[t]?
 | [],_,j,hj,_,_=>by cases hj
 | x :: r,hs,j,hj,t,ht=>by
  have hx:(wn x.1++aD x.2).length=37:=by rw[Oz,aM (hs x.2 (by simp))];rfl
  have e:aZ (x :: r)=(wn x.1++aD x.2)++aZ r:=by unfold aZ;rw[Td]
  rw[e];cases j with
  | zero =>
   rw[RH,Om,Pn (by omega)];rfl
  | succ j =>
   rw[Qp (by omega),hx,show 37*(j+1)+t-37=37*j+t by omega,pF r (fun y hy=>hs y (OU _ hy)) j (by simpa using hj) t ht];rfl
theorem oZ{W:World}{base:Nat}{v:Value}{l:List (Nat × Bs)}(h:W.ownsRow base 150 37 v l.length (aZ l))(hs:∀x∈l.map (·.2),x.size=33)(hl:0<l.length):
 ∃g cap,v=.slice (some ⟨g,0,none⟩) l.length cap/\base<=g/\g<W.heap.size/\∀j (hj:j<l.length),W.rangeAt g (37*j) (wn (l[j]).1++aD (l[j]).2):=by
 have h0:=h;rcases h.2 with⟨-,h2⟩|⟨g,cap,cur,rfl,h1,h2,h3⟩
 ·omega
 ·refine⟨g,cap,rfl,h1,(OH.1 h2).1,fun j hj t u hu=>?_⟩;have ht:t<37:=by
   have:=(OE.1 hu).1;rw[Oz,aM (hs _ (Pw.2 ⟨_,Pm hj,rfl⟩))]at this;exact this
  have hc:=h0.cells (g:=g) rfl (37*j+t) u (by rw[pF l hs j hj t ht];exact hu);have e:(⟨g,0,none⟩:Addr).add (37*j+t)=⟨g,37*j+t,none⟩:=by
   unfold S1;split
   ·rename_i h;rw[h]
   ·simp
  rw[e]at hc;exact hc
end
section
open Go.RowKit Go.Sort Go.Deep
variable {P:Nat}[NeZero P]{N:Nat}
theorem JL(w:World):(zeroValue 150).run prog w=.ok (.agg zT.toArray) w:=by kernel_rfl
theorem JM:∀v∈zT,v.oneCell'=true:=by
 intro v hv;unfold zT z33 at hv;rcases UK.1 hv with h|h
 ·simp only[Pg,OD,or_false]at h;rcases h with rfl|rfl|rfl|rfl<;>rfl
 ·rw[(List.mem_replicate.1 h).2];rfl
end
end Go.Proofs.YtmfodnkinmnopaaGreat
