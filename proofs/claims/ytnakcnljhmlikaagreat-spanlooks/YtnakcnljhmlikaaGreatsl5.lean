import Derived.BigQuiet
import Derived.Deep.LoopGhost
import Derived.Deep.RegionHeld3
import Derived.Lib.LazyBuf
import Derived.RangeFuncNested
import Derived.RangeFuncBound
import Derived.RangeFuncCalls
import Derived.RangeFuncLeaves
import Derived.Shelf.Abstract
import Derived.Shelf.RegionOpen
import Derived.WalkKit
import Derived.OwnWalkIn
import Derived.TacticsInMore
import Derived.LoopNIn
import Derived.LoopIn
import Derived.Deep.RegionWith
import Derived.Deep.CutRange
import Derived.Deep.DeepCutAuto
import Derived.Deep.OwnRows
import Derived.Test.YtnakcnljhmlikaaGreatsl4
set_option linter.unusedVariables false
set_option linter.constructorNameAsVariable false
set_option linter.unusedSimpArgs false
set_option maxRecDepth 1000000
set_option maxHeartbeats 4000000
namespace Go.Proofs.YtnakcnljhmlikaaGreat
open _root_.Array renaming ext->Y9,extract_size->YB,getElem_extract->Yh,getElem_replicate->TL,getElem_toList->UR,length_toList->Sx,map_id->Yc,map_replicate->Yp,replicate->So,size->Yz,size_append->Tw,size_extract->Uo,size_replicate->SB,toList_append->Wy
open _root_.ByteArray renaming data_append->Xs,data_extract->Z0,empty->Ya,mk->Wx
open _root_.Fin renaming ext->Vx,ext_iff->Y8,ofNat->Ua,val_mul->U6
open _root_.Go.Addr renaming add->Vw
open _root_.Go.Builtin renaming append_->UG,copy_->YH,nextslicecap->XZ,zeroCells->UB
open _root_.Go.Calls renaming mono->Yy
open _root_.Go.Exit renaming inBlock->U5
open _root_.Go.Instr renaming makeSlice->Uc,sureAddr->VZ
open _root_.Go.IntKind renaming i64->TA,u64->Ta
open _root_.Go.IntWalk renaming i64_in->Tv
open _root_.Go.Lib renaming wpList_append_run->UD
open _root_.Go.Oper renaming about->ZW,semAt_eq->ZA
open _root_.Go.OwnFrom renaming and->Zt
open _root_.Go.Question renaming cut->ZV
open _root_.Go.Result renaming andThen_ok->Tr
open _root_.Go.RowKit.Below renaming refl->SE
open _root_.Go.Sem renaming run_bind->SK,run_pure->Ux
open _root_.Go.Value renaming int->TW,string->Zy
open _root_.Go.World renaming alloc->TI,block_lt_of_cell?->TV,cell?_of_block->SR,frozen?_of_block->Uf,size_alloc->Sq,size_setCell->Yv,there_setCells->U8
open _root_.Int renaming tmod_eq_emod_of_nonneg->V5
open _root_.List renaming append_assoc->WR,append_nil->U7,cons_append->Xn,drop_succ_cons->Yu,drop_zero->Zp,flatMap_append->WH,flatMap_nil->YW,getElem?_eq_some_iff->SI,getElem_map->UM,length->ZL,length_append->Su,length_cons->Tc,length_map->SO,length_replicate->Uk,mem_cons->TP,mem_map->Tq,mem_range->TM,nil_append->Zc,not_mem_nil->SL,size_toArray->Tf,take_of_length_le->Wo,take_succ_cons->Yr,take_zero->Wq
open _root_.Nat renaming add_mod->VI,add_mul->Vb,add_sub_cancel_left->VH,add_zero->Ur,le_of_lt->Uw,le_refl->Se,le_trans->SD,lt_of_lt_of_le->Si,mod_eq_of_lt->SA,mod_lt->Ug,mod_mod->YS,mul_comm->S9,mul_mod->UA,mul_one->UW,mul_zero->V8,ne_of_gt->TC,ne_of_lt->TJ,pos_of_neZero->VQ,pow_two->ZQ,succ_mul->ZI,zero_add->Sj,zero_le->Us
open _root_.Option renaming isSome_iff_exists->SU,map_eq_some_iff->Sf,map_some->WX,some->Td
open _root_.Or renaming inl->SY,inr->SJ
open _root_.UInt8 renaming ofNat->Sy
open Go.Proofs.Tryz (prog)
namespace SP
open Go.RowKit Go.Sort Go.Deep
def bO(label:List UInt8)(ps:List (List UInt8)):List UInt8:=gJ label++ps.flatMap gJ
def i9(label:List UInt8)(ps:List (List UInt8)):Bs:=yD (bO label ps)
theorem eG(label:List UInt8)(ps:List (List UInt8)):(i9 label ps).size=32:=CY _
theorem qC(label:List UInt8)(ps:List (List UInt8))(x:List UInt8):bO label (ps++[x])=bO label ps++gJ x:=by
 unfold bO;rw[WH,<-WR];simp
def PartOk(w:World)(v:Value)(x:List UInt8):Prop:=
 ∃a sb so cap bs,v=.slice a (Yz bs) cap/\bs.toList=x/\bs.size<=cap/\bs.size<=1099511627776/\(bs.size=0\/(a=some ⟨sb,so,none⟩/\Holds encB w sb so bs))
theorem PartOk.below{w w1:World}{v:Value}{x:List UInt8}(h:PartOk w v x)(k:Below w.heap.size w w1):PartOk w1 v x:=by
 obtain⟨a,sb,so,cap,bs,h1,h2,h3,h4,h5⟩:=h;refine⟨a,sb,so,cap,bs,h1,h2,h3,h4,?_⟩;rcases h5 with h5|⟨h5,h6⟩
 ·exact SY h5
 ·exact SJ ⟨h5,Holds.below' h6 k⟩
def PartsOk(w:World)(pa:Option Addr)(ps:List (List UInt8)):Prop:=
 ps.length=0\/∃pb po,pa=some ⟨pb,po,none⟩/\∀j,j<ps.length->∃v,w.cell? ⟨pb,po+j,none⟩=some v/\PartOk w v ps[j]!
theorem PartsOk.below{w w1:World}{pa:Option Addr}{ps:List (List UInt8)}(h:PartsOk w pa ps)(k:Below w.heap.size w w1):PartsOk w1 pa ps:=by
 rcases h with h|⟨pb,po,h1,h2⟩
 ·exact SY h
 ·refine SJ ⟨pb,po,h1,λj hj=>?_⟩;obtain⟨v,h3,h4⟩:=h2 j hj;exact⟨v,by rw[k.cell (p:=⟨pb,po+j,none⟩) (TV _ _ h3)];exact h3,h4.below k⟩
theorem zW(label:List UInt8)(ps:List (List UInt8))(k:Nat):(bO label (ps.take k)).length<=(bO label ps).length:=by
 have e:bO label ps=bO label (ps.take k)++(ps.drop k).flatMap gJ:=by
  unfold bO;rw[WR,<-WH,List.take_append_drop]
 rw[e,Su];omega
theorem lR{α:Type}[Inhabited α](l:List α)(k:Nat)(h:k<l.length):l.take (k+1)=l.take k++[l[k]!]:=by
 rw[List.take_succ_eq_append_getElem h,getElem!_pos l k h]
theorem Am(label:ByteArray)(pa:Option Addr)(pcap:Nat)(ps:List (List UInt8))(w:World)(hlab:label.size<=1048576)(hpl:ps.length<=1048576)(hP:PartsOk w pa ps):
 Calls prog 123 #[.string label,.slice pa ps.length pcap] w λe w'=>∃r,e=.returned (.slice (some (aZ r)) 32 32)/\w.heap.size<=r/\Below w.heap.size w w'/\Holds encB w' r 0 (i9 label.data.toList ps):=by
 have hS0:=Eo w 223;have hb0:Below w.heap.size w (w.alloc (.cells eM 223)):=(SE _ _).alloc (Se _) _;have hs0:(w.alloc (.cells eM 223)).heap.size=w.heap.size+1:=by simp
 have zv:=Gi;generalize hW1:w.alloc (.cells eM 223)=W1 at hS0 hb0 hs0;obtain⟨v2,W2,hcv,own2,hb2,hv2⟩:=lH (w:=W1) (B:=0) label (Us _);rw[hv2]at hcv own2;obtain⟨hq0,hq1,hle2,hH2⟩:=own2.holds;rw[<-hq1]at hle2;clear hq0 hq1;have hH2':Holds encB W2 W1.heap.size 0 label.data:=by simpa using hH2
 have hS2:=hS0.below hb2 hS0.lt;have hsz2:=hb2.size;obtain⟨n,hn⟩:∃n,ps.length=n:=⟨_,rfl⟩
 rw[hn];have Hn:=mk1 (hn);rw[hs0]at hcv hH2';generalize hc2:grownCap W1 label.size 0 5=c2 at *;have hcv':(convert 9 23 (.string label)).run prog (w.alloc (.cells eM 223))=.ok (.slice (some ⟨w.heap.size+1,0,none⟩) label.size c2) W2:=by rw[hW1];exact hcv
 go_enter Tryz.func123,Tryz.ntmps123;go_wp2_with fail
 refine(nI w.heap.size S0 (some ⟨w.heap.size+1,0,none⟩) (w.heap.size+1) 0 label.size c2 label.data W2 qN hS2 rfl oM oM (SJ ⟨rfl,oM,hH2'⟩)).mono ?_;rintro e w3 ⟨rfl,hO3,hS3⟩;have hb3:=(hb0.trans (hb2.mono oM)).trans (hO3.below oM (Se _));have hz3:=hS3.lt;go_wp2;go_loopg [13] n (λg s13 wr=>∃(k:Nat) (Sk:Sp),k+g=n/\s13=iZ k/\HSp wr w.heap.size Sk/\Below w.heap.size w wr/\Ok Sk/\Hid (Sk=dZ S0 (bO label.data.toList (ps.take k))))
 case atStart =>
  refine⟨0,_,oM,rfl,hS3,hb3,fN qN _,?_⟩;rw[Wq];unfold bO;rw[YW,U7];rfl
 case round =>
  obtain⟨k,Sk,hk,rfl,hSk,hb,hok,HE⟩:=hrel;by_cases hlt:k<n
  ·obtain⟨pb,po,rfl,hPj⟩:∃pb po,pa=some ⟨pb,po,none⟩/\∀j,j<ps.length->∃v,w.cell? ⟨pb,po+j,none⟩=some v/\PartOk w v ps[j]!:=by
    rcases hP with h|h
    ·have:=Hn.out;omega
    ·exact h
   obtain⟨v,hvc,hvp⟩:=hPj k (by have:=Hn.out;omega);have hpb:=TV _ _ hvc;have hvc':wr.cell? ⟨pb,po+k,none⟩=some v:=by rw[hb.cell (p:=⟨pb,po+k,none⟩) hpb];exact hvc
   obtain⟨a,sb,so,cap,bs,rfl,hbl,hbc,hbb,hsrc⟩:=hvp;have hsrc':bs.size=0\/(a=some ⟨sb,so,none⟩/\sb≠w.heap.size/\Holds encB wr sb so bs):=by
    by_cases h0:bs.size=0
    ·exact SY h0
    ·rcases hsrc with h|⟨h1,h2⟩
     ·exact SY h
     ·have:=Holds.lt h2 oM;exact SJ ⟨h1,oM,Holds.below h2 hb this⟩
   have HB:Hid (bs.toList=ps[k]!):=hbl;have l1:(k:Int)<(n:Int):=oM;generalize hbz:bs.size=bz at *;clear hvc hsrc hPj hbl;go_wp2_with fail
   refine(nI w.heap.size Sk a sb so bz cap bs wr hok hSk hbz hbc hbb hsrc').mono ?_;rintro e w4 ⟨rfl,hO4,hS4⟩;go_wp2;go_roundg (gk-1)
   case measure=>omega
   case rel =>
    refine⟨k+1,_,oM,by go_num,hS4,hb.trans (hO4.below hb.size (Se _)),fN hok _,?_⟩;rw[lR ps k (by have:=Hn.out;omega),qC,fO,<-HE.out,HB.out];rfl
  ·have hkn:k=n:=oM;have HE2:Hid (Sk=dZ S0 (bO label.data.toList ps)):=by
    have e1:ps.take k=ps:=Wo (by have:=Hn.out;omega);rw[e1]at HE;exact HE
   go_wp2_with fail
   refine(Ez w.heap.size Sk 6 wr hok hSk).mono ?_;rintro e w5 ⟨rfl,hO5,hS5⟩;have hD5:Holds enc w5 w.heap.size 0 (i7 (bO label.data.toList ps) 6):=by
    have:=hS5.d;rw[HE2.out]at this;exact this
   go_wp2_with fail
   refine(rO w.heap.size 0 32 _ _ (mR _ _) hD5 dC).mono ?_;rintro e w6 ⟨rfl,hb6,hF6⟩;have hs5:=hO5.size;have hs4:=hb.size;go_wp2;go_ret;exact⟨w5.heap.size,rfl,oM,(hb.trans (hO5.below hb.size (Se _))).trans (hb6.mono oM),hF6⟩
end SP
namespace SP
open Go.RowKit Go.Sort Go.Deep
variable {B:Nat}{w w1:World}{v:Value}{T:List UInt8}
set_option maxRecDepth 4000
theorem wU{r c:Nat}{xs:Bs}(h:Own B w v T)(hX:Holds encB w r 0 xs)(hB:B<=w.heap.size)(hbig:T.length+xs.size<=1099511627776)(k:Nat)(hk:k=xs.size):
 ∃v' w',(UG #[23,23] 23 #[v,.slice (some (aZ r)) k c]).run prog w=.ok v' w'/\Own B w' v' (T++xs.toList)/\Below B w w':=by
 subst hk;obtain⟨g,cap,cur,rfl,hg,hgl,hs,hl,hH,hTc⟩:=h;obtain⟨i,hi,hz,hsz,hby⟩:=info_parts info5;have hxl0:xs.toList.length=xs.size:=Sx;have hlen:(T++xs.toList).length=T.length+xs.size:=by rw[Su,hxl0]
 by_cases hroom:T.length+xs.size<=cap
 ·have hap:=mP (l:=T.length) (k:=xs.size) (n:=xs.size) (c:=c) hH hs hX rfl rfl hroom 23;have hH3:=fW hH T.length xs.toList (by rw[hxl0];omega);rw[Sj]at hH3;refine⟨_,_,hap,⟨g,cap,splice cur T.length xs.toList,by rw[hlen],hg,Si hgl (below_setCells (B:=0) (b:=g) (Us _) _ _ _ (SE 0 w)).size,by rw[cO,hs],oM,hH3,λj hj=>?_⟩,?_⟩
  ·rw[hlen]at hj;rw[gB _ _ _ _ (by rw[hxl0];omega) oM,hxl0];by_cases h1:j<T.length
   ·rw[if_neg oM,vK _ _ _ h1,hTc j h1]
   ·rw[if_pos oM,nM _ _ _ oM (by rw[hxl0];omega)]
  ·exact below_setCells hg _ _ _ (SE _ _)
 ·have hold:(Builtin.firstCells i.size T.length (.slice (some (aZ g)) T.length cap)).run prog w.drew=.ok (T.map encB).toArray w.drew:=by
   rw[hsz];refine run_firstCells_some w.drew 1 T.length (aZ g) T.length cap (T.map encB) (by rw[SO,UW]) (λj u hj=>?_);obtain⟨h1,h2⟩:=SI.1 hj;rw[SO]at h1;have hc:=(hH j oM).1;rw[hTc j h1,getElem!_pos T j h1]at hc;rw[UM]at h2;have e1:(⟨g,0,none⟩:Addr).add j=⟨g,0+j,none⟩:=by
    unfold Vw;by_cases h0:j=0
    ·subst h0;rw[if_pos rfl]
    ·rw[if_neg h0]
   rw[e1,World.cell?_drew,hc,h2]
  have hxl:(xs.toList.map encB).length=xs.size:=by rw[SO,hxl0]
  have hsrc:Src prog i.size 23 (.slice (some (aZ r)) xs.size c) xs.size (xs.toList.map encB) w:=by
   rw[hsz];refine Src.ofSlice w slice22 (aZ r) xs.size c _ (by rw[hxl,UW]) (λj u hj=>?_) (λu hu=>?_)
   ·obtain⟨h1,h2⟩:=SI.1 hj;rw[hxl]at h1;have hc:=(hX j oM).1;rw[getElem!_pos xs j oM]at hc;rw[UM,UR]at h2;have e1:(⟨r,0,none⟩:Addr).add j=⟨r,0+j,none⟩:=by
     unfold Vw;by_cases h0:j=0
     ·subst h0;rw[if_pos rfl]
     ·rw[if_neg h0]
    rw[e1,hc,h2]
   ·obtain⟨x,_,rfl⟩:=Tq.1 hu;rfl
  have hnc:XZ (T.length+xs.size) cap<=2*(T.length+xs.size)+768:=by
   unfold XZ;split
   ·omega
   ·split
    ·omega
    ·simp only[Builtin.growBy];repeat' split
     all_goals omega
  have hap:=run_append_grow_src (P:=prog) w 23 23 23 5 i (.int .u8 0) slice22 hi hz (some (aZ g)) T.length cap (T.map encB) hold _ xs.size (xs.toList.map encB) hsrc oM oM (by rw[hby];omega);generalize hG:grownCap w (T.length+xs.size) cap 5=G at hap;have hGl:T.length+xs.size<=G:=by
   rw[<-hG];unfold grownCap ZV;exact Nat.le_add_right _ _
  have hcells:(T.map encB++xs.toList.map encB).toArray++UB (TW .u8 0).cells (G-(T.length+xs.size))=((T++xs.toList).toArray++So (G-(T.length+xs.size)) (0:UInt8)).map encB:=by
   rw[Array.map_append,Yp,<-List.map_append]
   congr 1
   ·simp
   ·unfold UB;have e:(TW .u8 0).cells=#[TW .u8 0]:=rfl;rw[e];apply Y9
    ·simp
    ·intro k h1 h2;simp[Nat.mod_one];rfl
  rw[hcells]at hap;refine⟨_,_,hap,⟨w.heap.size,G,(T++xs.toList).toArray++So (G-(T.length+xs.size)) 0,by rw[hlen],hB,by simp,?_,oM,?_,λj hj=>?_⟩,?_⟩
  ·rw[Tw,SB,Tf,hlen];omega
  ·exact Holds.new (enc:=encB) w.drew 5 _
  ·rw[app_front _ _ j (by simpa using hj)];rw[getElem!_pos (T++xs.toList) j hj];simp
  ·exact((SE B w).drew).alloc (by exact hB) _
end SP
namespace SP
open Go.RowKit Go.Sort Go.Deep
theorem I1{w:World}{b r:Nat}{L T:Bs}(hL:Holds encB w b 0 L)(hl:L.size=32)(hT:Holds encB w r 0 T)(ht:T.size=32):
 (YH #[23,23] 3 #[.slice (some (aZ b)) 32 32,.slice (some (aZ r)) 32 32]).run prog w=.ok (goInt 32) (w.setCells b 0 (T.toList.map encB)):=by
 have hlen:(T.toList.map encB).length=32:=by rw[SO,Sx,ht]
 have:=run_copy_cells (P:=prog) w 23 23 3 5 b 0 32 32 (aZ r) 32 32 (T.toList.map encB) slice22 ints5 (by rw[hlen];rfl)
  (λj u hj=>by
   obtain⟨h1,h2⟩:=SI.1 hj;rw[hlen]at h1;have hc:=(hT j oM).1;rw[getElem!_pos T j oM]at hc;rw[UM,UR]at h2;have e1:(⟨r,0,none⟩:Addr).add j=⟨r,0+j,none⟩:=by
    unfold Vw;by_cases h0:j=0
    ·subst h0;rw[if_pos rfl]
    ·rw[if_neg h0]
   rw[e1,hc,h2])
  (λj hj=>by rw[(hL j oM).1];rfl) (λj hj=>(hL j oM).2)
  (λu hu=>by obtain⟨x,_,rfl⟩:=Tq.1 hu;rfl)
 rw[hlen]at this;exact this
theorem zR{w:World}{b:Nat}{L T:Bs}(hL:Holds encB w b 0 L)(hl:L.size=32)(ht:T.size=32):Holds encB (w.setCells b 0 (T.toList.map encB)) b 0 T:=by
 have hlen:(T.toList.map encB).length=32:=by rw[SO,Sx,ht]
 refine Holds.setCells hL (T.toList.map encB) 0 oM oM (λj hj=>?_) (λj h1 h2=>oM);rw[hlen]at hj;rw[UM,UR,Sj,getElem!_pos T j oM]
theorem Dq{w w2:World}{b:Nat}{L T:Bs}(hL:Holds encB w b 0 L)(hl:L.size=32)(ht:T.size=32)(hb:b<w.heap.size)(hb2:Below w.drew.heap.size w.drew w2):
 Only b 0 32 w (w2.setCells b 0 (T.toList.map encB))/\Holds encB (w2.setCells b 0 (T.toList.map encB)) b 0 T:=by
 have hlen:(T.toList.map encB).length=32:=by rw[SO,Sx,ht]
 refine⟨?_,zR (Holds.below (Holds.drew hL) hb2 hb) hl ht⟩;exact Only.setCells (((Only.refl b 0 32 w).drew).trans (Only.of_below hb2 rfl hb)) _ 0 (Se _) oM
theorem oD(b:Nat)(L:Bs)(label:ByteArray)(pa:Option Addr)(pcap n:Nat)(ps:List (List UInt8))(w:World)(hlab:label.size<=1048576)(hpl:ps.length=n)(hn:n<=1048576)(hP:PartsOk w pa ps)(hL:Holds encB w b 0 L)(hl:L.size=32):
 Calls prog 75 #[Go.Value.pointer (some ⟨b,0,none⟩),.string label,.slice pa n pcap] w λe w'=>e=.returned (.tuple #[])/\Only b 0 32 w w'/\Holds encB w' b 0 (i9 label.data.toList ps):=by
 subst hpl;have hb:=Holds.lt hL oM;have ht:=Am label pa pcap ps w.drew hlab hn (hP.below ((SE _ _).drew));generalize hT:i9 label.data.toList ps=T at ht⊢;have hTs:T.size=32:=by rw[<-hT,eG]
 have HT:=mk1 (ht);go_enter Tryz.func75,Tryz.ntmps75;go_wp2;go_region_with (go_at_call 123;refine Yy HT.out ?_;rintro e w2 ⟨r2,rfl,hr2,hb2,hH2⟩;have hcp:=I1 (Holds.below (Holds.drew hL) hb2 hb) hl hH2 hTs;have hfin:=Dq hL hl hTs hb hb2)
 all_goals (try go_wp2)
 all_goals go_end0
 all_goals exact⟨rfl,hfin⟩
def encV(v:Value):Value:=v
theorem E7(l:List UInt8)(n:Nat):(uB l n).size=n:=by rw[uB,fQ]
def newL(label:List UInt8):Bs:=i9 [108,111,103] [label]
def jY(L:Bs)(label text:List UInt8):Bs:=i9 [115,97,121] [L.toList,label,text]
def tC(L:Bs)(label:List UInt8)(n:Nat):Bs:=uB (i9 [97,115,107] [L.toList,label]).toList n
def lJ(L:Bs)(label:List UInt8):Bs:=i9 [97,115,107,101,100] [L.toList,label]
theorem rM(l:List UInt8):(newL l).size=32:=eG _ _
theorem fD(L:Bs)(l t:List UInt8):(jY L l t).size=32:=eG _ _
theorem fH(L:Bs)(l:List UInt8):(lJ L l).size=32:=eG _ _
theorem yN(L:Bs)(l:List UInt8)(n:Nat):(tC L l n).size=n:=E7 _ _
theorem kG(s:ByteArray)(w:World)(hs:s.size<=1099511627776):
 ∃c w',(convert 9 23 (.string s)).run prog w=.ok (.slice (some ⟨w.heap.size,0,none⟩) s.size c) w'/\s.size<=c/\Holds encB w' w.heap.size 0 s.data/\PartOk w' (.slice (some ⟨w.heap.size,0,none⟩) s.size c) s.data.toList/\Below w.heap.size w w'/\w.heap.size<w'.heap.size:=by
 obtain⟨v2,W2,hcv,own2,hb2,hv2⟩:=lH (w:=w) (B:=0) s (Us _);rw[hv2]at hcv own2;have hlt:w.heap.size<W2.heap.size:=by
  obtain⟨g,cap,cur,h1,_,h3,_⟩:=own2;injection h1 with h1
  injection h1 with h1
  injection h1 with h1
  omega
 obtain⟨hq0,hq1,hle2,hH2⟩:=own2.holds;rw[<-hq1]at hle2;have hH2':Holds encB W2 w.heap.size 0 s.data:=by simpa using hH2
 have hle:=hle2;exact⟨_,W2,hcv,hle,hH2',⟨_,w.heap.size,0,_,s.data,rfl,rfl,hle,hs,SJ ⟨rfl,hH2'⟩⟩,hb2,hlt⟩
theorem m4(W:World)(vs:Array Value)(ps:List (List UInt8))(t:TypeId)(hl:vs.size=ps.length)(h:∀j,j<ps.length->PartOk W vs[j]! ps[j]!):
 PartsOk (W.alloc (.cells vs t)) (some ⟨W.heap.size,0,none⟩) ps:=by
 refine SJ ⟨W.heap.size,0,rfl,λj hj=>⟨vs[j]!,?_,(h j hj).below ((SE _ _).alloc (Se _) _)⟩⟩;have e0:vs.map encV=vs:=by
  have:encV=id:=rfl;rw[this,Yc]
 have:=(Holds.new (enc:=encV) W t vs j oM).1;rw[e0]at this;exact this
theorem uQ{w:World}{b:Nat}{L:Bs}(hL:Holds encB w b 0 L)(hl:L.size=32):PartOk w (.slice (some (aZ b)) 32 32) L.toList:=
 ⟨_,b,0,32,L,by rw[hl],rfl,oM,oM,SJ ⟨rfl,hL⟩⟩
theorem JB:∀w:World,(zeroValue 141).run prog w=.ok (.agg (So 32 (.int .u8 0))) w:=λ_=>kR
theorem Dy(label:ByteArray)(w:World)(hlab:label.size<=1048576):
 Calls prog 122 #[.string label] w λe w'=>e=.returned (.pointer (some ⟨w.heap.size,0,none⟩))/\Below w.heap.size w w'/\Holds encB w' w.heap.size 0 (newL label.data.toList):=by
 have zv:=JB;have hH0:Holds encB (w.alloc (.cells (So 32 (.int .u8 0)) 141)) w.heap.size 0 (So 32 0):=by
  have:=Holds.new (enc:=encB) w 141 (So 32 0);rw[Yp]at this;exact this
 have hb0:Below w.heap.size w (w.alloc (.cells (So 32 (.int .u8 0)) 141)):=(SE _ _).alloc (Se _) _;have hs0:(w.alloc (.cells (So 32 (.int .u8 0)) 141)).heap.size=w.heap.size+1:=by simp
 obtain⟨c,W1,hcv,hc,hH1,hP1,hb1,hlt1⟩:=kG label (w.alloc (.cells (So 32 (.int .u8 0)) 141)) oM;have hH01:=Holds.below' hH0 hb1;have hPs:=m4 W1 #[.slice (some ⟨(w.alloc (.cells (So 32 (.int .u8 0)) 141)).heap.size,0,none⟩) label.size c] [label.data.toList] 23 rfl (λj hj=>by
  have hj0:j=0:=by simpa using hj
  subst hj0;exact hP1)
 have hb2:Below W1.heap.size W1 (W1.alloc (.cells #[.slice (some ⟨(w.alloc (.cells (So 32 (.int .u8 0)) 141)).heap.size,0,none⟩) label.size c] 23)):=(SE _ _).alloc (Se _) _;have hH02:=Holds.below' hH01 hb2;rw[hs0]at hcv hPs hb2 hH02 hlt1;have hb3:=(hb0.trans (hb1.mono oM)).trans (hb2.mono oM);go_enter Tryz.func122,Tryz.ntmps122;go_wp2_with fail
 refine(oD w.heap.size (So 32 0) ⟨#[108,111,103]⟩ (some ⟨W1.heap.size,0,none⟩) 1 1 [label.data.toList] _ dC rfl dC hPs hH02 (by simp)).mono ?_;rintro e w4 ⟨rfl,hO4,hH4⟩;go_wp2;go_ret;exact⟨rfl,hb3.trans (hO4.below hb3.size (Se _)),hH4⟩
theorem tW(b:Nat)(L:Bs)(label:ByteArray)(ta:Option Addr)(tl tc:Nat)(text:List UInt8)(w:World)(hlab:label.size<=1048576)(hL:Holds encB w b 0 L)(hl:L.size=32)(hT:PartOk w (.slice ta tl tc) text):
 Calls prog 36 #[pZ b,.string label,.slice ta tl tc] w λe w'=>e=.returned (.tuple #[])/\Only b 0 32 w w'/\Holds encB w' b 0 (jY L label.data.toList text):=by
 have hb:=Holds.lt hL oM;obtain⟨c,W1,hcv,hc,hH1,hP1,hb1,hlt1⟩:=kG label w oM;have hL1:=Holds.below hL hb1 hb;have hT1:=hT.below hb1;have hPs:=m4 W1 #[.slice (some (aZ b)) 32 32,.slice (some ⟨w.heap.size,0,none⟩) label.size c,.slice ta tl tc] [L.toList,label.data.toList,text] 23 rfl (λj hj=>by
  have hj3:j<3:=hj;match j,hj3 with
  | 0,_=>exact uQ hL1 hl
  | 1,_=>exact hP1
  | 2,_=>exact hT1)
 have hb2:Below W1.heap.size W1 (W1.alloc (.cells #[.slice (some (aZ b)) 32 32,.slice (some ⟨w.heap.size,0,none⟩) label.size c,.slice ta tl tc] 23)):=(SE _ _).alloc (Se _) _;have hL2:=Holds.below' hL1 hb2;have hO2:Only b 0 32 w (W1.alloc (.cells #[.slice (some (aZ b)) 32 32,.slice (some ⟨w.heap.size,0,none⟩) label.size c,.slice ta tl tc] 23)):=(Only.of_below hb1 rfl hb).alloc oM _;go_enter Tryz.func36,Tryz.ntmps36;go_wp2_with fail
 refine(oD b L ⟨#[115,97,121]⟩ (some ⟨W1.heap.size,0,none⟩) 3 3 [L.toList,label.data.toList,text] _ dC rfl dC hPs hL2 hl).mono ?_;rintro e w4 ⟨rfl,hO4,hH4⟩;go_wp2
 go_end0
 exact⟨rfl,hO2.trans hO4,hH4⟩
theorem Mf(b:Nat)(L:Bs)(label:ByteArray)(n:Nat)(w:World)(hlab:label.size<=1048576)(hn:n<=1024)(hL:Holds encB w b 0 L)(hl:L.size=32):
 Calls prog 161 #[pZ b,.string label,iZ n] w λe w'=>∃r,e=.returned (.tuple #[.slice (some (aZ r)) n n,iZ 0])/\w.heap.size<=r/\Only b 0 32 w w'/\Holds encB w' b 0 (lJ L label.data.toList)/\Holds encB w' r 0 (tC L label.data.toList n):=by
 have hb:=Holds.lt hL oM;obtain⟨c,W1,hcv,hc,hH1,hP1,hb1,hlt1⟩:=kG label w oM;have hL1:=Holds.below hL hb1 hb;have hPs:=m4 W1 #[.slice (some (aZ b)) 32 32,.slice (some ⟨w.heap.size,0,none⟩) label.size c] [L.toList,label.data.toList] 23 rfl (λj hj=>by
  have hj3:j<2:=hj;match j,hj3 with
  | 0,_=>exact uQ hL1 hl
  | 1,_=>exact hP1)
 have hb2:Below W1.heap.size W1 (W1.alloc (.cells #[.slice (some (aZ b)) 32 32,.slice (some ⟨w.heap.size,0,none⟩) label.size c] 23)):=(SE _ _).alloc (Se _) _;have hL2:=Holds.below' hL1 hb2;have hO2:Only b 0 32 w (W1.alloc (.cells #[.slice (some (aZ b)) 32 32,.slice (some ⟨w.heap.size,0,none⟩) label.size c] 23)):=(Only.of_below hb1 rfl hb).alloc oM _;have d0:decide ((n:Int)<0)=false:=decide_eq_false oM;have d1:¬(1024:Int)<(n:Int):=oM;clear hH1 hP1 hb2;go_enter Tryz.func161,Tryz.ntmps161;go_wp2_with fail
 refine(Am ⟨#[97,115,107]⟩ (some ⟨W1.heap.size,0,none⟩) 2 [L.toList,label.data.toList] _ dC (by show 2<=1048576;omega) hPs).mono ?_;rintro e w3 ⟨r3,rfl,hr3,hb3,hH3⟩;have hL3:=Holds.below' hL2 hb3;have hO3:=hO2.trans (Only.of_below hb3 rfl (Si hb hO2.size));clear hPs hL2 hL1;go_wp2_with fail
 refine(Dv (some (aZ r3)) r3 0 32 32 n _ _ oM (eG _ _) oM oM (SJ ⟨rfl,hH3⟩)).mono ?_;rintro e w4 ⟨r4,rfl,hr4,hb4,hH4⟩;have hL4:=Holds.below' hL3 hb4;have hs3:=hO3.size;have hO4:=hO3.trans (Only.of_below hb4 rfl oM);have hA4:Holds encB w4 r4 0 (tC L label.data.toList n):=hH4;have hs4:=hO4.size;obtain⟨c5,W5,hcv5,hc5,hH5,hP5,hb5,hlt5⟩:=kG label w4 oM;have hL5:=Holds.below' hL4 hb5;have hA5:=Holds.below' hA4 hb5;have hPs5:=m4 W5 #[.slice (some (aZ b)) 32 32,.slice (some ⟨w4.heap.size,0,none⟩) label.size c5] [L.toList,label.data.toList] 23 rfl (λj hj=>by
  have hj3:j<2:=hj;match j,hj3 with
  | 0,_=>exact uQ hL5 hl
  | 1,_=>exact hP5)
 have hb6:Below W5.heap.size W5 (W5.alloc (.cells #[.slice (some (aZ b)) 32 32,.slice (some ⟨w4.heap.size,0,none⟩) label.size c5] 23)):=(SE _ _).alloc (Se _) _;have hL6:=Holds.below' hL5 hb6;have hA6:=Holds.below' hA5 hb6;have hO6:Only b 0 32 w (W5.alloc (.cells #[.slice (some (aZ b)) 32 32,.slice (some ⟨w4.heap.size,0,none⟩) label.size c5] 23)):=hO4.trans ((Only.of_below hb5 rfl oM).alloc oM _);go_wp2_with fail
 refine(oD b L ⟨#[97,115,107,101,100]⟩ (some ⟨W5.heap.size,0,none⟩) 2 2 [L.toList,label.data.toList] _ dC rfl dC hPs5 hL6 hl).mono ?_;rintro e w7 ⟨rfl,hO7,hH7⟩;have hA7:Holds encB w7 r4 0 (tC L label.data.toList n):=by
  intro j hj;have h1:=hA6 j hj;have h2:=TV _ _ h1.1;have h3:=hO7.other (c:=r4) (o:=0+j) oM h2;rw[h3.1,h3.2];exact h1
 go_wp2
 go_ret2
 exact⟨r4,rfl,oM,hO6.trans hO7,hH7,hA7⟩
end SP
section
open Go.RowKit Go.Sort
variable {P:Nat}[NeZero P]{N:Nat}
def ArgsPts(w:World)(q:Option Addr)(n:Nat)(L:Nat->Bs):Prop:=0<n->∃gg,q=some (aZ gg)/\gg<w.heap.size/\∀j,j<n->∃v,w.cell? ⟨gg,j,none⟩=some v/\Arg33 w v (L j)
def RZ(P:Nat)[NeZero P](w:World)(n:Nat)(L:Nat->Bs)(e:Value)(w':World):Prop:=
 (∃k,w.heap.size<=k/\k<w'.heap.size/\e=.tuple #[.slice (some (aZ k)) n n,iZ 0]/\∀j,j<n->∃p,rd P (L j)=some p/\w'.rangeAt k (8*j) (ws p.1++ws p.2)) \/
 ((∃j,j<n/\rd P (L j)=none)/\e=.tuple #[.slice none 0 0,iZ 4])
theorem QG(F:Fld P)(n cap:Nat)(hn:n<=512)(q:Option Addr)(L:Nat->Bs)(w:World)(hA:ArgsPts w q n L):Calls prog 119 #[.slice q n cap] w (rZ w λe w'=>RZ P w n L e w'):=by
 obtain⟨C,hCl,hmk⟩:=PX n hn;obtain⟨i,-⟩:∃i:Nat,i=0:=⟨_,rfl⟩
 obtain⟨gg,-⟩:∃i:Nat,i=0:=⟨_,rfl⟩
 obtain⟨m,-⟩:∃i:Nat,i=0:=⟨_,rfl⟩
 obtain⟨v,-⟩:∃v:Value,v=.bool true:=⟨_,rfl⟩
 obtain⟨x,-⟩:∃x:Fin P,x=0:=⟨_,rfl⟩
 obtain⟨y,-⟩:∃x:Fin P,x=0:=⟨_,rfl⟩
 obtain⟨C2,-⟩:∃c:List Value,c=C:=⟨_,rfl⟩
 go_enter Tryz.func119,Tryz.ntmps119;refine RG.Gq (v0:=.slice q n cap) (n:=32) kR kR kR ?_;intro a0 sl0 f0;have hS0:=RG.St.begin w;have M0:RG.M w w.heap.size [] 32 [] [] [(0,.v (.slice q n cap))] a0 _:=⟨hS0,sl0,⟨f0,trivial⟩⟩
 repeat refine wp_seq ?_
 refine M0.U [.x (.slice none 0 0),.x (iZ 0)] [0,2,3] ⟨RG.st,RG.st,trivial⟩ ?_;intro a1 w1 M1;repeat refine wp_seq ?_
 refine M1.t [.x 9 [] (.slice q n cap),.x 10 [(9,0)] (iZ n),⟨some 11,[(10,1)],.s 0 n n,.make 0⟩,.s 4 [(11,2)] (.s 0 n n)] [(2,C)] [] [C] [(0,.v (.slice q n cap)),(2,.v (.slice none 0 0)),(3,.v (iZ 0)),(4,.s 0 n n)] ⟨RG.st,RG.fY rfl 9 (.v (.slice q n cap)) (iZ n) rfl RG.sx (λa w=>kR) (λμ w=>kR),RG.lI 0 rfl _ rfl 180 114 10 10 n rfl rfl RG.sx RG.sx hmk,RG.st,trivial⟩ ?_;intro j2 a2 w2 M2;repeat refine wp_seq ?_
 refine M2.U [.x (.slice q n cap),.x (iZ n),.x (iZ 0)] [2,3,4,12,13,14] ⟨RG.st,RG.fY rfl 12 (.v (.slice q n cap)) (iZ n) rfl RG.sx (λa w=>kR) (λμ w=>kR),RG.st,trivial⟩ ?_;intro a3 w3 M3;have f2_3:a3.tmps[2]? = some (.slice none 0 0):=M3.at (s:=(.v (.slice none 0 0)));have f3_3:a3.tmps[3]? = some (iZ 0):=M3.at (s:=(.v (iZ 0)));have f4_3:a3.tmps[4]? = some (.slice (some (aZ j2)) n n):=M3.at (s:=(.s 0 n n));have f12_3:a3.tmps[12]? = some (.slice q n cap):=M3.at (s:=(.v (.slice q n cap)));have f13_3:a3.tmps[13]? = some (iZ n):=M3.at (s:=(.v (iZ n)));have f14_3:a3.tmps[14]? = some (iZ 0):=M3.at (s:=(.v (iZ 0)));repeat refine wp_seq ?_
 refine wp_block ?_;refine wp_loop_ghost (λm a wr=>∃(i:Nat) (C:List Value),i+m=n/\(∀j,j<i->(rd P (L j)).isSome=true)/\Rows 8 n (λj=>match rd P (L j) with|some p=>ws p.1++ws p.2|none=>[]) i C/\RG.Sl a 32/\a.tmps[4]? = some (.slice (some (aZ j2)) n n)/\a.tmps[12]? = some (.slice q n cap)/\a.tmps[13]? = some (iZ n)/\a.tmps[14]? = some (iZ i)/\RG.St w w.heap.size [] [C] [j2] wr) n ⟨0,C,oM,λj hj=>oM,⟨hCl,λj r hj=>oM⟩,M3.sl,f4_3,f12_3,f13_3,f14_3,M3.st⟩ ?_;intro m' a wr;rintro⟨i,C,him,hall,hR,sl,p4,p12,p13,p14,hSp⟩;generalize j2=kt at p4 hSp;by_cases hi:i<n
 ·obtain⟨gg,hqe,hgg,hc⟩:=hA oM;rw[hqe]at p12;obtain⟨v,hv,harg⟩:=hc i hi;have hcell:w.cell? ⟨gg,0+i,none⟩=some v:=by rw[Sj];exact hv
  cases hrdv:rd P (L i) with
  | some pp =>
   obtain⟨x,y⟩:=pp;have hrd:∀w',RG.BelX w.heap.size [] w w'->Calls prog 58 #[v] w' (Ret λe w''=>Below w'.heap.size w' w''/\e=.tuple #[pv x y,.bool true]):=λw' hb=>by
    have:=l8 F v (L i) w' (harg.below hb.below);rw[hrdv]at this;exact this
   have hlen:=hR.len;have hoff:0+8*i+(ws x++ws y).length<=C.length:=by rw[hlen];show 0+8*i+8<=8*n;omega
   obtain⟨C2,hC2e⟩:∃c,RG.rep C (0+8*i) (ws x++ws y)=c:=⟨_,rfl⟩
   have hC2:=hC2e ▸ RG.rep_at hoff;have hcl:C2.length=C.length:=hC2e ▸ RG.cX hoff;have hR2:Rows 8 n (λj=>match rd P (L j) with|some p=>ws p.1++ws p.2|none=>[]) (i+1) C2:=by
    have:=hR.next hi (by show ZL (match rd P (L i) with|some p=>_|none=>_)=_;rw[hrdv];rfl);rw[<-hC2e];have e:(λj=>match rd P (L j) with|some p=>ws p.1++ws p.2|none=>[]) i=(ws x++ws y):=by show(match rd P (L i) with|some p=>_|none=>_)=_;rw[hrdv]
    rw[<-e];exact this
   have M10:RG.M w w.heap.size [] 32 [C] [kt] [(4,.s 0 n n),(12,.v (.slice (some (aZ gg)) n cap)),(13,.v (iZ n)),(14,.v (iZ i))] a _:=⟨hSp,sl,⟨p4,p12,p13,p14,trivial⟩⟩
   repeat refine wp_seq ?_
   refine M10.U [.x (.bool true)] [4,12,13,14,15] ⟨RG.aK rfl .lss 3 3 14 13 (iZ i) (iZ n) (.bool true) rfl rfl RG.sx RG.sx (λw=>kR) (eN hi),trivial⟩ ?_;intro a11 w11 M11;repeat refine wp_seq ?_
   refine wp_cond_true M11.ev ?_;refine wp_skip ?_;refine wp_seq ?_;refine wp_block ?_;repeat refine wp_seq ?_
   refine M11.U [.x (iZ i),.x (.pointer (some ⟨gg,0+i,none⟩)),.x v,.x (iZ i),.x v] [4,5,6,12,13,14] ⟨RG.st,RG.aY rfl 22 12 14 rfl (.v (.slice (some (aZ gg)) n cap)) (iZ i) RG.sx RG.sx (λμ w=>LY _ 0 _ _ i hi w),RG.bK rfl gg (0+i) hgg SL 23 17 rfl v rfl RG.sx hcell u23,RG.st,RG.st,trivial⟩ ?_;intro a12 w12 M12;repeat refine wp_seq ?_
   refine M12.T [.x v,.c (.tuple #[pv x y,.bool true]),.x (.tuple #[pv x y,.bool true]),.x (pv x y),.x (.bool true),.m 1,.u 1,.x (.bool true)] [(5,RG.z 8)] [(1,6,ws x++(ws y))] [C,ws x++(ws y)] [4,5,7,8,12,13,14] ⟨RG.st,RG.sT rfl 58 20 v (.tuple #[pv x y,.bool true]) rfl (λa w=>kR) RG.sx hrd,RG.st,RG.st,RG.st,RG.mk 1 114,RG.pt i109,RG.st,trivial⟩ ?_;intro j13 a13 w13 M13;repeat refine wp_seq ?_
   refine M13.U [.x (.bool true),.x (.bool false)] [4,5,7,12,13,14,25] ⟨RG.st,RG.st,trivial⟩ ?_;intro a14 w14 M14;repeat refine wp_seq ?_
   refine wp_cond_false M14.ev ?_;refine wp_skip ?_;repeat refine wp_seq ?_
   refine M14.tx [.s 26 [] (.s 0 n n),.x 27 [] (iZ i),.x 28 [] (pv x y),.s 29 [(26,0),(27,1)] (.p 0 (0+8*i)),.u [(29,3),(28,2)] 0] [] [(0,4,C2)] [C2,ws x++(ws y)] [(4,.s 0 n n),(12,.v (.slice (some (aZ gg)) n cap)),(13,.v (iZ n)),(14,.v (iZ i))] kR (congrArg (λn=>[n]) hcl) ⟨RG.st,RG.st,RG.ld g9 i109,RG.aY rfl 180 26 27 rfl (.s 0 n n) (iZ i) RG.sx RG.sx (λμ w=>MI _ 0 _ _ i hi w),RG.eX 0 (0+8*i) rfl _ rfl 114 (.tmp 29) (.tmp 28) (ws x++ws y) rfl rfl RG.sx RG.sx hoff hC2 i109 rfl,trivial⟩ ?_;intro a15 w15 M15;repeat refine wp_seq ?_
   refine M15.U [.x (iZ ((i+1:Nat):Int)),.x (iZ ((i+1:Nat):Int))] [4,12,13,14] ⟨RG.aG rfl .add 3 3 14 (iZ i) (iZ 1) (iZ ((i+1:Nat):Int)) rfl rfl RG.sx (λw=>kR) (qM i 1 oM oM),RG.st,trivial⟩ ?_;intro a16 w16 M16;have f4_16:a16.tmps[4]? = some (.slice (some (aZ kt)) n n):=M16.at (s:=(.s 0 n n));have f12_16:a16.tmps[12]? = some (.slice (some (aZ gg)) n cap):=M16.at (s:=(.v (.slice (some (aZ gg)) n cap)));have f13_16:a16.tmps[13]? = some (iZ n):=M16.at (s:=(.v (iZ n)));have f14_16:a16.tmps[14]? = some (iZ ((i+1:Nat):Int)):=M16.at (s:=(.v (iZ ((i+1:Nat):Int))));show ∃n',_;exact⟨m'-1,oM,i+1,C2,oM,λj hj=>(by
    by_cases hji:j=i
    ·rw[hji,hrdv];rfl
    ·exact hall j oM),hR2,M16.sl,f4_16,(by rw[hqe];exact f12_16),f13_16,f14_16,RG.St.init (cs:=[C2]) (ks:=[kt]) M16.st⟩
  | none =>
   have hrd:∀w',RG.BelX w.heap.size [] w w'->Calls prog 58 #[v] w' (Ret λe w''=>Below w'.heap.size w' w''/\e=.tuple #[pv (0:Fin P) 0,.bool false]):=λw' hb=>by
    have:=l8 F v (L i) w' (harg.below hb.below);rw[hrdv]at this;exact this
   have M20:RG.M w w.heap.size [] 32 [C] [kt] [(4,.s 0 n n),(12,.v (.slice (some (aZ gg)) n cap)),(13,.v (iZ n)),(14,.v (iZ i))] a _:=⟨hSp,sl,⟨p4,p12,p13,p14,trivial⟩⟩
   repeat refine wp_seq ?_
   refine M20.U [.x (.bool true)] [12,14,15] ⟨RG.aK rfl .lss 3 3 14 13 (iZ i) (iZ n) (.bool true) rfl rfl RG.sx RG.sx (λw=>kR) (eN hi),trivial⟩ ?_;intro a21 w21 M21;repeat refine wp_seq ?_
   refine wp_cond_true M21.ev ?_;refine wp_skip ?_;refine wp_seq ?_;refine wp_block ?_;repeat refine wp_seq ?_
   refine M21.U [.x (iZ i),.x (.pointer (some ⟨gg,0+i,none⟩)),.x v,.x (iZ i),.x v] [6] ⟨RG.st,RG.aY rfl 22 12 14 rfl (.v (.slice (some (aZ gg)) n cap)) (iZ i) RG.sx RG.sx (λμ w=>LY _ 0 _ _ i hi w),RG.bK rfl gg (0+i) hgg SL 23 17 rfl v rfl RG.sx hcell u23,RG.st,RG.st,trivial⟩ ?_;intro a22 w22 M22;repeat refine wp_seq ?_
   refine M22.T [.x v,.c (.tuple #[pv (0:Fin P) (0:Fin P),.bool false]),.x (.tuple #[pv (0:Fin P) (0:Fin P),.bool false]),.x (pv (0:Fin P) (0:Fin P)),.x (.bool false),.m 1,.u 1,.x (.bool false)] [(5,RG.z 8)] [(1,6,ws (0:Fin P)++(ws (0:Fin P)))] [C,ws (0:Fin P)++(ws (0:Fin P))] [8] ⟨RG.st,RG.sT rfl 58 20 v (.tuple #[pv (0:Fin P) (0:Fin P),.bool false]) rfl (λa w=>kR) RG.sx hrd,RG.st,RG.st,RG.st,RG.mk 1 114,RG.pt i109,RG.st,trivial⟩ ?_;intro j23 a23 w23 M23;repeat refine wp_seq ?_
   refine M23.U [.x (.bool false),.x (.bool true)] [25] ⟨RG.st,RG.st,trivial⟩ ?_;intro a24 w24 M24;repeat refine wp_seq ?_
   refine wp_cond_true M24.ev ?_;repeat refine wp_seq ?_
   refine M24.U [.x (.slice none 0 0),.x (iZ 4)] [2,3] ⟨RG.st,RG.st,trivial⟩ ?_;intro a25 w25 M25;refine wp_ret ?_;refine bodyPost_ret (v:=.tuple #[.slice none 0 0,iZ 4]) (RG.gC 2 3 rfl _ _ (M25.at (s:=(.v (.slice none 0 0)))) (M25.at (s:=(.v (iZ 4))))) M25.sl.defers ?_;exact⟨_,rfl,M25.st.bel.below,SJ ⟨⟨i,hi,hrdv⟩,rfl⟩⟩
 ·have hiN:i=n:=oM;have M30:RG.M w w.heap.size [] 32 [C] [kt] [(4,.s 0 n n),(12,.v (.slice q n cap)),(13,.v (iZ n)),(14,.v (iZ i))] a _:=⟨hSp,sl,⟨p4,p12,p13,p14,trivial⟩⟩
  repeat refine wp_seq ?_
  refine M30.U [.x (.bool false)] [4,15] ⟨RG.aK rfl .lss 3 3 14 13 (iZ i) (iZ n) (.bool false) rfl rfl RG.sx RG.sx (λw=>kR) (lD hi),trivial⟩ ?_;intro a31 w31 M31;repeat refine wp_seq ?_
  refine wp_cond_false M31.ev ?_;refine wp_exit ?_;dsimp only[Exit.then,U5];rw[if_pos rfl];repeat refine wp_seq ?_
  refine M31.U [.s (.s 0 n n),.s (.s 0 n n),.x (iZ 0)] [2,3] ⟨RG.st,RG.st,RG.st,trivial⟩ ?_;intro a32 w32 M32;refine wp_ret ?_;refine bodyPost_ret (v:=.tuple #[.slice (some (aZ kt)) n n,iZ 0]) (RG.gC 2 3 rfl _ _ (M32.at (s:=(.s 0 n n))) (M32.at (s:=(.v (iZ 0))))) M32.sl.defers ?_;refine⟨_,rfl,M32.st.bel.below,SY ⟨kt,?_,?_,rfl,λj hj=>?_⟩⟩
  ·exact(M32.st.has 0 C rfl).2.2.2.elim id (λh=>absurd h SL)
  ·exact(M32.st.has 0 C rfl).2.2.1
  ·obtain⟨pp,hpp⟩:=SU.1 (hall j oM);refine⟨pp,hpp,RG.qY (M32.st.has 0 C rfl).1 (λr hr=>?_)⟩;have h5:=hR.row j r oM hr;rw[h5];show(match rd P (L j) with|some p=>_|none=>_)[r]? = _;rw[hpp]
def Ao(w:World)(q:Option Addr)(n:Nat)(L:Nat->Bs):Prop:=0<n->∃gg,q=some (aZ gg)/\gg<w.heap.size/\∀j,j<n->∃v,w.cell? ⟨gg,j,none⟩=some v/\Arg w v (L j)
def RY(N:Nat)(w:World)(n:Nat)(L:Nat->Bs)(e:Value)(w':World):Prop:=
 (∃k,w.heap.size<=k/\k<w'.heap.size/\e=.tuple #[.slice (some (aZ k)) n n,iZ 0]/\∀j,j<n->∃p,rq N (L j)=some p/\w'.rangeAt k (4*j) (wn p)) \/
 ((∃j,j<n/\rq N (L j)=none)/\e=.tuple #[.slice none 0 0,iZ 3])
theorem QF{N:Nat}(hG:Gap 4624529908474429119 4994812053365940164 1 N)(n cap:Nat)(hn:n<=512)(q:Option Addr)(L:Nat->Bs)(w:World)(hA:Ao w q n L):Calls prog 118 #[.slice q n cap] w (rZ w λe w'=>RY N w n L e w'):=by
 obtain⟨C,hCl,hmk⟩:=Rp n hn;obtain⟨i,-⟩:∃i:Nat,i=0:=⟨_,rfl⟩
 obtain⟨gg,-⟩:∃i:Nat,i=0:=⟨_,rfl⟩
 obtain⟨m,-⟩:∃i:Nat,i=0:=⟨_,rfl⟩
 obtain⟨v,-⟩:∃v:Value,v=.bool true:=⟨_,rfl⟩
 obtain⟨C2,-⟩:∃c:List Value,c=C:=⟨_,rfl⟩
 go_enter Tryz.func118,Tryz.ntmps118;refine RG.Gq (v0:=.slice q n cap) (n:=33) kR kR kR ?_;intro a0 sl0 f0;have hS0:=RG.St.begin w;have M0:RG.M w w.heap.size [] 33 [] [] [(0,.v (.slice q n cap))] a0 _:=⟨hS0,sl0,⟨f0,trivial⟩⟩
 repeat refine wp_seq ?_
 refine M0.U [.x (.slice none 0 0),.x (iZ 0)] [0,2,3] ⟨RG.st,RG.st,trivial⟩ ?_;intro a1 w1 M1;repeat refine wp_seq ?_
 refine M1.t [.x 9 [] (.slice q n cap),.x 10 [(9,0)] (iZ n),⟨some 11,[(10,1)],.s 0 n n,.make 0⟩,.s 4 [(11,2)] (.s 0 n n)] [(2,C)] [] [C] [(0,.v (.slice q n cap)),(2,.v (.slice none 0 0)),(3,.v (iZ 0)),(4,.s 0 n n)] ⟨RG.st,RG.fY rfl 9 (.v (.slice q n cap)) (iZ n) rfl RG.sx (λa w=>kR) (λμ w=>kR),RG.lI 0 rfl _ rfl 177 41 10 10 n rfl rfl RG.sx RG.sx hmk,RG.st,trivial⟩ ?_;intro j2 a2 w2 M2;repeat refine wp_seq ?_
 refine M2.U [.x (.slice q n cap),.x (iZ n),.x (iZ 0)] [2,3,4,12,13,14] ⟨RG.st,RG.fY rfl 12 (.v (.slice q n cap)) (iZ n) rfl RG.sx (λa w=>kR) (λμ w=>kR),RG.st,trivial⟩ ?_;intro a3 w3 M3;have f2_3:a3.tmps[2]? = some (.slice none 0 0):=M3.at (s:=(.v (.slice none 0 0)));have f3_3:a3.tmps[3]? = some (iZ 0):=M3.at (s:=(.v (iZ 0)));have f4_3:a3.tmps[4]? = some (.slice (some (aZ j2)) n n):=M3.at (s:=(.s 0 n n));have f12_3:a3.tmps[12]? = some (.slice q n cap):=M3.at (s:=(.v (.slice q n cap)));have f13_3:a3.tmps[13]? = some (iZ n):=M3.at (s:=(.v (iZ n)));have f14_3:a3.tmps[14]? = some (iZ 0):=M3.at (s:=(.v (iZ 0)));repeat refine wp_seq ?_
 refine wp_block ?_;refine wp_loop_ghost (λm a wr=>∃(i:Nat) (C:List Value),i+m=n/\(∀j,j<i->(rq N (L j)).isSome=true)/\Rows 4 n (λj=>match rq N (L j) with|some k=>wn k|none=>[]) i C/\RG.Sl a 33/\a.tmps[4]? = some (.slice (some (aZ j2)) n n)/\a.tmps[12]? = some (.slice q n cap)/\a.tmps[13]? = some (iZ n)/\a.tmps[14]? = some (iZ i)/\RG.St w w.heap.size [] [C] [j2] wr) n ⟨0,C,oM,λj hj=>oM,⟨hCl,λj r hj=>oM⟩,M3.sl,f4_3,f12_3,f13_3,f14_3,M3.st⟩ ?_;intro m' a wr;rintro⟨i,C,him,hall,hR,sl,p4,p12,p13,p14,hSp⟩;generalize j2=kt at p4 hSp;by_cases hi:i<n
 ·obtain⟨gg,hqe,hgg,hc⟩:=hA oM;rw[hqe]at p12;obtain⟨v,hv,harg⟩:=hc i hi;have hcell:w.cell? ⟨gg,0+i,none⟩=some v:=by rw[Sj];exact hv
  cases hrdv:rq N (L i) with
  | some pp =>
   obtain⟨m,rfl⟩:∃m,m=pp:=⟨_,rfl⟩
   have hrd:∀w',RG.BelX w.heap.size [] w w'->Calls prog 60 #[gv1,v] w' (Ret λe w''=>Below w'.heap.size w' w''/\e=.tuple #[nv m,.bool true]):=λw' hb=>by
    have:=zF hG v (L i) w' (harg.below hb.below);rw[hrdv]at this;exact this
   have hlen:=hR.len;have hoff:0+4*i+(wn m).length<=C.length:=by rw[hlen];show 0+4*i+4<=4*n;omega
   obtain⟨C2,hC2e⟩:∃c,RG.rep C (0+4*i) (wn m)=c:=⟨_,rfl⟩
   have hC2:=hC2e ▸ RG.rep_at hoff;have hcl:C2.length=C.length:=hC2e ▸ RG.cX hoff;have hR2:Rows 4 n (λj=>match rq N (L j) with|some k=>wn k|none=>[]) (i+1) C2:=by
    have:=hR.next hi (by show ZL (match rq N (L i) with|some p=>_|none=>_)=_;rw[hrdv];rfl);rw[<-hC2e];have e:(λj=>match rq N (L j) with|some k=>wn k|none=>[]) i=(wn m):=by show(match rq N (L i) with|some p=>_|none=>_)=_;rw[hrdv]
    rw[<-e];exact this
   have M10:RG.M w w.heap.size [] 33 [C] [kt] [(4,.s 0 n n),(12,.v (.slice (some (aZ gg)) n cap)),(13,.v (iZ n)),(14,.v (iZ i))] a _:=⟨hSp,sl,⟨p4,p12,p13,p14,trivial⟩⟩
   repeat refine wp_seq ?_
   refine M10.U [.x (.bool true)] [4,12,13,14,15] ⟨RG.aK rfl .lss 3 3 14 13 (iZ i) (iZ n) (.bool true) rfl rfl RG.sx RG.sx (λw=>kR) (eN hi),trivial⟩ ?_;intro a11 w11 M11;repeat refine wp_seq ?_
   refine wp_cond_true M11.ev ?_;refine wp_skip ?_;refine wp_seq ?_;refine wp_block ?_;repeat refine wp_seq ?_
   refine M11.U [.x (iZ i),.x (.pointer (some ⟨gg,0+i,none⟩)),.x v,.x (iZ i),.x v] [4,5,6,12,13,14] ⟨RG.st,RG.aY rfl 22 12 14 rfl (.v (.slice (some (aZ gg)) n cap)) (iZ i) RG.sx RG.sx (λμ w=>LY _ 0 _ _ i hi w),RG.bK rfl gg (0+i) hgg SL 23 17 rfl v rfl RG.sx hcell u23,RG.st,RG.st,trivial⟩ ?_;intro a12 w12 M12;repeat refine wp_seq ?_
   refine M12.T [.c gv1,.x v,.c (.tuple #[nv m,.bool true]),.x (.tuple #[nv m,.bool true]),.x (nv m),.x (.bool true),.m 1,.u 1,.x (.bool true)] [(6,RG.z 4)] [(1,7,wn m)] [C,wn m] [4,5,7,8,12,13,14] ⟨RG.cl fJ,RG.st,RG.jQ rfl 60 20 21 gv1 v (.tuple #[nv m,.bool true]) rfl (λa w=>kR) RG.sx RG.sx hrd,RG.st,RG.st,RG.st,RG.mk 1 41,RG.pt i85,RG.st,trivial⟩ ?_;intro j13 a13 w13 M13;repeat refine wp_seq ?_
   refine M13.U [.x (.bool true),.x (.bool false)] [4,5,7,12,13,14,26] ⟨RG.st,RG.st,trivial⟩ ?_;intro a14 w14 M14;repeat refine wp_seq ?_
   refine wp_cond_false M14.ev ?_;refine wp_skip ?_;repeat refine wp_seq ?_
   refine M14.tx [.s 27 [] (.s 0 n n),.x 28 [] (iZ i),.x 29 [] (nv m),.s 30 [(27,0),(28,1)] (.p 0 (0+4*i)),.u [(30,3),(29,2)] 0] [] [(0,4,C2)] [C2,wn m] [(4,.s 0 n n),(12,.v (.slice (some (aZ gg)) n cap)),(13,.v (iZ n)),(14,.v (iZ i))] kR (congrArg (λn=>[n]) hcl) ⟨RG.st,RG.st,RG.ld u85 i85,RG.aY rfl 177 27 28 rfl (.s 0 n n) (iZ i) RG.sx RG.sx (λμ w=>Qw _ 0 _ _ i hi w),RG.eX 0 (0+4*i) rfl _ rfl 41 (.tmp 30) (.tmp 29) (wn m) rfl rfl RG.sx RG.sx hoff hC2 i85 rfl,trivial⟩ ?_;intro a15 w15 M15;repeat refine wp_seq ?_
   refine M15.U [.x (iZ ((i+1:Nat):Int)),.x (iZ ((i+1:Nat):Int))] [4,12,13,14] ⟨RG.aG rfl .add 3 3 14 (iZ i) (iZ 1) (iZ ((i+1:Nat):Int)) rfl rfl RG.sx (λw=>kR) (qM i 1 oM oM),RG.st,trivial⟩ ?_;intro a16 w16 M16;have f4_16:a16.tmps[4]? = some (.slice (some (aZ kt)) n n):=M16.at (s:=(.s 0 n n));have f12_16:a16.tmps[12]? = some (.slice (some (aZ gg)) n cap):=M16.at (s:=(.v (.slice (some (aZ gg)) n cap)));have f13_16:a16.tmps[13]? = some (iZ n):=M16.at (s:=(.v (iZ n)));have f14_16:a16.tmps[14]? = some (iZ ((i+1:Nat):Int)):=M16.at (s:=(.v (iZ ((i+1:Nat):Int))));show ∃n',_;exact⟨m'-1,oM,i+1,C2,oM,λj hj=>(by
    by_cases hji:j=i
    ·rw[hji,hrdv];rfl
    ·exact hall j oM),hR2,M16.sl,f4_16,(by rw[hqe];exact f12_16),f13_16,f14_16,RG.St.init (cs:=[C2]) (ks:=[kt]) M16.st⟩
  | none =>
   have hrd:∀w',RG.BelX w.heap.size [] w w'->Calls prog 60 #[gv1,v] w' (Ret λe w''=>Below w'.heap.size w' w''/\e=.tuple #[nv 0,.bool false]):=λw' hb=>by
    have:=zF hG v (L i) w' (harg.below hb.below);rw[hrdv]at this;exact this
   have M20:RG.M w w.heap.size [] 33 [C] [kt] [(4,.s 0 n n),(12,.v (.slice (some (aZ gg)) n cap)),(13,.v (iZ n)),(14,.v (iZ i))] a _:=⟨hSp,sl,⟨p4,p12,p13,p14,trivial⟩⟩
   repeat refine wp_seq ?_
   refine M20.U [.x (.bool true)] [12,14,15] ⟨RG.aK rfl .lss 3 3 14 13 (iZ i) (iZ n) (.bool true) rfl rfl RG.sx RG.sx (λw=>kR) (eN hi),trivial⟩ ?_;intro a21 w21 M21;repeat refine wp_seq ?_
   refine wp_cond_true M21.ev ?_;refine wp_skip ?_;refine wp_seq ?_;refine wp_block ?_;repeat refine wp_seq ?_
   refine M21.U [.x (iZ i),.x (.pointer (some ⟨gg,0+i,none⟩)),.x v,.x (iZ i),.x v] [6] ⟨RG.st,RG.aY rfl 22 12 14 rfl (.v (.slice (some (aZ gg)) n cap)) (iZ i) RG.sx RG.sx (λμ w=>LY _ 0 _ _ i hi w),RG.bK rfl gg (0+i) hgg SL 23 17 rfl v rfl RG.sx hcell u23,RG.st,RG.st,trivial⟩ ?_;intro a22 w22 M22;repeat refine wp_seq ?_
   refine M22.T [.c gv1,.x v,.c (.tuple #[nv 0,.bool false]),.x (.tuple #[nv 0,.bool false]),.x (nv 0),.x (.bool false),.m 1,.u 1,.x (.bool false)] [(6,RG.z 4)] [(1,7,wn 0)] [C,wn 0] [8] ⟨RG.cl fJ,RG.st,RG.jQ rfl 60 20 21 gv1 v (.tuple #[nv 0,.bool false]) rfl (λa w=>kR) RG.sx RG.sx hrd,RG.st,RG.st,RG.st,RG.mk 1 41,RG.pt i85,RG.st,trivial⟩ ?_;intro j23 a23 w23 M23;repeat refine wp_seq ?_
   refine M23.U [.x (.bool false),.x (.bool true)] [26] ⟨RG.st,RG.st,trivial⟩ ?_;intro a24 w24 M24;repeat refine wp_seq ?_
   refine wp_cond_true M24.ev ?_;repeat refine wp_seq ?_
   refine M24.U [.x (.slice none 0 0),.x (iZ 3)] [2,3] ⟨RG.st,RG.st,trivial⟩ ?_;intro a25 w25 M25;refine wp_ret ?_;refine bodyPost_ret (v:=.tuple #[.slice none 0 0,iZ 3]) (RG.gC 2 3 rfl _ _ (M25.at (s:=(.v (.slice none 0 0)))) (M25.at (s:=(.v (iZ 3))))) M25.sl.defers ?_;exact⟨_,rfl,M25.st.bel.below,SJ ⟨⟨i,hi,hrdv⟩,rfl⟩⟩
 ·have hiN:i=n:=oM;have M30:RG.M w w.heap.size [] 33 [C] [kt] [(4,.s 0 n n),(12,.v (.slice q n cap)),(13,.v (iZ n)),(14,.v (iZ i))] a _:=⟨hSp,sl,⟨p4,p12,p13,p14,trivial⟩⟩
  repeat refine wp_seq ?_
  refine M30.U [.x (.bool false)] [4,15] ⟨RG.aK rfl .lss 3 3 14 13 (iZ i) (iZ n) (.bool false) rfl rfl RG.sx RG.sx (λw=>kR) (lD hi),trivial⟩ ?_;intro a31 w31 M31;repeat refine wp_seq ?_
  refine wp_cond_false M31.ev ?_;refine wp_exit ?_;dsimp only[Exit.then,U5];rw[if_pos rfl];repeat refine wp_seq ?_
  refine M31.U [.s (.s 0 n n),.s (.s 0 n n),.x (iZ 0)] [2,3] ⟨RG.st,RG.st,RG.st,trivial⟩ ?_;intro a32 w32 M32;refine wp_ret ?_;refine bodyPost_ret (v:=.tuple #[.slice (some (aZ kt)) n n,iZ 0]) (RG.gC 2 3 rfl _ _ (M32.at (s:=(.s 0 n n))) (M32.at (s:=(.v (iZ 0))))) M32.sl.defers ?_;refine⟨_,rfl,M32.st.bel.below,SY ⟨kt,?_,?_,rfl,λj hj=>?_⟩⟩
  ·exact(M32.st.has 0 C rfl).2.2.2.elim id (λh=>absurd h SL)
  ·exact(M32.st.has 0 C rfl).2.2.1
  ·obtain⟨pp,hpp⟩:=SU.1 (hall j oM);refine⟨pp,hpp,RG.qY (M32.st.has 0 C rfl).1 (λr hr=>?_)⟩;have h5:=hR.row j r oM hr;rw[h5];show(match rq N (L j) with|some p=>_|none=>_)[r]? = _;rw[hpp]
end
section
open Go.RowKit Go.Sort Go.Deep
variable {P:Nat}[NeZero P]{N:Nat}
omit [NeZero P] in
theorem Gj(x y:Fin P):∃a b c d p q r s:Nat,pv x y=.agg #[uZ a,uZ b,uZ c,uZ d,uZ p,uZ q,uZ r,uZ s]/\ws x++ws y=[uZ a,uZ b,uZ c,uZ d,uZ p,uZ q,uZ r,uZ s]:=
 ⟨_,_,_,_,_,_,_,_,rfl,rfl⟩
def Mc(c:Int)(e:Value):Prop:=e=.tuple #[.slice none 0 0,iZ c]
def Jw(w:World)(T:Bs)(e:Value)(w':World):Prop:=∃g cap,e=.tuple #[.slice (some (aZ g)) 33 cap,iZ 0]/\33<=cap/\w.heap.size<=g/\g<w'.heap.size/\Holds encB w' g 0 T
theorem Bq(C:Fld P)(v:Value)(bs:Bs)(w:World)(hv:Arg33 w v bs):Calls prog 22 #[v] w (rZ w λe w'=>e=.bool (rd P bs).isSome):=by
 have hc:∃(a1 b1 c1 d1 p1 q1 r1 s1:Nat),Calls prog 58 #[v] w (rZ w λe w'=>e=.tuple #[.agg #[uZ a1,uZ b1,uZ c1,uZ d1,uZ p1,uZ q1,uZ r1,uZ s1],.bool (rd P bs).isSome]):=by
  have h:=l8 C v bs w hv;cases hrd:rd P bs with
  | none =>
   obtain⟨a1,b1,c1,d1,p1,q1,r1,s1,e1,-⟩:=Gj (0:Fin P) 0;refine⟨a1,b1,c1,d1,p1,q1,r1,s1,?_⟩;rw[hrd]at h;rw[<-e1];exact h
  | some p =>
   obtain⟨a1,b1,c1,d1,p1,q1,r1,s1,e1,-⟩:=Gj p.1 p.2;refine⟨a1,b1,c1,d1,p1,q1,r1,s1,?_⟩;rw[hrd]at h;rw[<-e1];exact h
 obtain⟨a1,b1,c1,d1,p1,q1,r1,s1,hc⟩:=hc;obtain⟨q,n,cap,rfl,-⟩:=hv;go_enter Tryz.func22,Tryz.ntmps22;go_wp2_with fail
 refine hc.mono ?_;rintro e w1 ⟨v,rfl,hb1,rfl⟩;have HB:=mk1 (hb1);go_wp2;go_ret;exact⟨_,rfl,HB.alloc HB.size _,rfl⟩
def ptP(s:T3 P):Fin P × Fin P:=(s.1*(EC.inv s.2.2*EC.inv s.2.2),s.2.1*(EC.inv s.2.2*EC.inv s.2.2)*EC.inv s.2.2)
theorem cell_below{w w1:World}{k j:Nat}{v:Value}(h:w.cell? ⟨k,j,none⟩=some v)(hb:Below w.heap.size w w1)(hk:k<w.heap.size):w1.cell? ⟨k,j,none⟩=some v:=by
 have h1:w.rangeAt k j [v]:=λi u hu=>by
  cases i with
  | zero =>
   obtain rfl:v=u:=Td.inj hu;exact h
  | succ i=>exact absurd hu (by simp)
 exact RG.range_below h1 hb hk 0 v rfl
theorem ArgsPts.below{w w1:World}{q:Option Addr}{n:Nat}{L:Nat->Bs}(h:ArgsPts w q n L)(hb:Below w.heap.size w w1):ArgsPts w1 q n L:=λhn=>by
 obtain⟨gg,hq,hlt,hc⟩:=h hn;refine⟨gg,hq,Si hlt hb.size,λj hj=>?_⟩;obtain⟨v,hv,ha⟩:=hc j hj;exact⟨v,cell_below hv hb hlt,ha.below hb⟩
def SumR(P:Nat)[NeZero P](N:Nat)(w:World)(n a:Nat)(L M:Nat->Bs)(e:Value)(w':World):Prop:=
 (n≠a/\Mc 2 e)\/(n=a/\512<n/\Mc 1 e)\/(n=a/\n<=512/\(((∃j,j<n/\rq N (L j)=none)/\Mc 3 e) \/
  ∃ns:Nat->Nat,(∀j,j<n->rq N (L j)=some (ns j))/\(((∃j,j<n/\rd P (M j)=none)/\Mc 4 e) \/
   ∃xs ys:Nat->Fin P,(∀j,j<n->rd P (M j)=some (xs j,ys j))/\Jw w (xH (ptP (jW ns xs ys n 257)).1 (ptP (jW ns xs ys n 257)).2) e w')))
theorem wC{A:Type}[Inhabited A]{n:Nat}{p:Nat->A->Prop}(h:∀j,j<n->∃a,p j a):∃f:Nat->A,∀j,j<n->p j (f j):=
 ⟨λj=>if hj:j<n then(h j hj).choose else default,λj hj=>by
  show p j (if hj:j<n then(h j hj).choose else default);rw[dif_pos hj];exact(h j hj).choose_spec⟩
theorem Nv{N:Nat}(hN:N<=top){bs:Bs}{m:Nat}(h:rq N bs=some m):m<top:=by
 unfold rq at h;split at h
 ·rename_i h1
  obtain rfl:beV bs.toList=m:=Td.inj h;exact Si h1.2 hN
 ·exact absurd h (by simp)
theorem Ow{N:Nat}(C:Fld P)(hG:Gap 4624529908474429119 4994812053365940164 1 N)(hN:N<=top)(q q':Option Addr)(n cap a cap':Nat)(L M:Nat->Bs)(w:World)(hL:Ao w q n L)(hM:ArgsPts w q' a M):
 Calls prog 73 #[.slice q n cap,.slice q' a cap'] w (rZ w λe w'=>SumR P N w n a L M e w'):=by
 have HL:=mk1 (hL);have HM:=mk1 (hM);by_cases hna:n=a
 ·subst hna;by_cases h512:512<n
  ·go_enter Tryz.func73,Tryz.ntmps73;go_wp2
   go_ret2
   exact⟨_,rfl,SE _ _,SJ (SY ⟨rfl,h512,rfl⟩)⟩
  ·have H5:n<=512:=oM;go_enter Tryz.func73,Tryz.ntmps73;go_wp2_with fail
   refine(QF hG n cap H5 q L w HL.out).mono ?_;rintro e w1 ⟨v,rfl,hb1,⟨k,hk1,hk2,rfl,hrow⟩|⟨hno,rfl⟩⟩
   ·obtain⟨ns,hns⟩:=wC hrow;have HB:=mk1 (hb1);have HS:Hid (k<w1.heap.size/\∀j,j<n->w1.rangeAt k (4*j) (wn (ns j))):=⟨hk2,λj hj=>(hns j hj).2⟩
    have HN:Hid (∀j,j<n->rq N (L j)=some (ns j)):=λj hj=>(hns j hj).1
    go_wp2_with fail
    refine(QG C n cap' H5 q' M w1 (HM.below HB.out)).mono ?_;rintro e w2 ⟨v,rfl,hb2,⟨k',hk1,hk2,rfl,hrow⟩|⟨hno,rfl⟩⟩
    ·obtain⟨ps,hps⟩:=wC hrow;have HB2:=mk1 (HB.trans (hb2.mono HB.size));have HS2:Hid (k<w2.heap.size/\∀j,j<n->w2.rangeAt k (4*j) (wn (ns j))):=⟨Si HS.1 hb2.size,λj hj=>RG.range_below (HS.2 j hj) hb2 HS.1⟩
     have HP:Hid (k'<w2.heap.size/\∀j,j<n->w2.rangeAt k' (8*j) (ws (ps j).1++ws (ps j).2)):=⟨hk2,λj hj=>(hps j hj).2⟩
     have HM2:Hid (∀j,j<n->rd P (M j)=some ((ps j).1,(ps j).2)):=λj hj=>(hps j hj).1
     have hBt:∀w,Calls prog 121 #[pv (ptP (jW ns (λj=>(ps j).1) (λj=>(ps j).2) n 257)).1 (ptP (jW ns (λj=>(ps j).1) (λj=>(ps j).2) n 257)).2] w (rZ w λe w'=>sE w (xH (ptP (jW ns (λj=>(ps j).1) (λj=>(ps j).2) n 257)).1 (ptP (jW ns (λj=>(ps j).1) (λj=>(ps j).2) n 257)).2) e w'):=EN C _ _;have hS:Calls prog 120 #[.slice (some (aZ k)) n n,.slice (some ⟨k',0,none⟩) n n] w2 (rZ w2 λe w'=>e=pv (ptP (jW ns (λj=>(ps j).1) (λj=>(ps j).2) n 257)).1 (ptP (jW ns (λj=>(ps j).1) (λj=>(ps j).2) n 257)).2):=by
      refine(Nh C n H5 ns (λj=>(ps j).1) (λj=>(ps j).2) (λi hi=>Nv hN (HN i hi)) k k' w2 HS2.1 HP.1 HS2.2 HP.2).mono ?_;rintro e w' ⟨v,rfl,hb,s,rfl,rfl⟩;exact⟨_,rfl,hb,rfl⟩
     generalize hz:ptP (jW ns (λj=>(ps j).1) (λj=>(ps j).2) n 257)=z at hS hBt;have HZ:Hid (ptP (jW ns (λj=>(ps j).1) (λj=>(ps j).2) n 257)=z):=hz;go_wp2_with fail
     refine hS.mono ?_;rintro e w3 ⟨v,rfl,hb3,rfl⟩;have HB3:=mk1 (HB2.trans (hb3.mono HB2.size));go_wp2_with fail
     refine(hBt _).mono ?_;rintro e w4 ⟨v,rfl,hb4,g,cap3,rfl,hc3,hg3,hlt3,hH3⟩;have HB4:=mk1 (HB3.trans (hb4.mono HB3.size));have HO:Hid (Jw w (xH z.1 z.2) (.tuple #[.slice (some (aZ g)) 33 cap3,iZ 0]) w4):=⟨g,cap3,rfl,hc3,SD HB3.size hg3,hlt3,hH3⟩
     go_wp2
     go_ret2
     refine⟨_,rfl,HB4.out,SJ (SJ ⟨rfl,H5,SJ ⟨ns,HN.out,SJ ⟨_,_,HM2.out,?_⟩⟩⟩)⟩;rw[HZ.out];exact HO.out
    ·have HB2:=mk1 (HB.trans (hb2.mono HB.size));have HO:=mk1 (hno);go_wp2
     go_ret2
     exact⟨_,rfl,HB2.out,SJ (SJ ⟨rfl,H5,SJ ⟨ns,HN.out,SY ⟨HO.out,rfl⟩⟩⟩)⟩
   ·have HB:=mk1 (hb1);have HO:=mk1 (hno);go_wp2
    go_ret2
    exact⟨_,rfl,HB.out,SJ (SJ ⟨rfl,H5,SY ⟨HO.out,rfl⟩⟩)⟩
 ·go_enter Tryz.func73,Tryz.ntmps73;go_wp2
  go_ret2
  exact⟨_,rfl,SE _ _,SY ⟨hna,rfl⟩⟩
def qQ:Bs:=So 33 0
theorem Nl(r d:Nat):d*d%(r+d)=r*r%(r+d):=by
 have h:d*d+(r+d)*r=r*r+(r+d)*d:=by
  rw[Vb,Vb,S9 d r];omega
 have h1:=congrArg (· % (r+d)) h;simp only[Nat.add_mul_mod_self_left]at h1;exact h1
theorem AG{m y:Fin P}(h:rt m=some y):y*y=m:=by
 have h0:=GZ h;unfold rt at h;rw[if_pos h0]at h;obtain rfl:=Td.inj h;have hP:=VQ P;have hr:m.val^(P/4+1)%P<P:=Ug _ hP;generalize m.val^(P/4+1)%P=r at h0 hr;apply Vx;rw[U6];show(even P r%P)*(even P r%P)%P=m.val;rw[SA (Ev hP hr),<-h0];unfold even;split
 ·have h2:=Nl r (P-r);rw[show r+(P-r)=P by omega]at h2;exact h2
 ·rfl
theorem kL{bs:Bs}(hs:bs.size=33):mS bs↔bs=qQ:=by
 constructor
 ·intro h;apply Y9
  ·rw[hs];rfl
  ·intro i h1 h2;have:=h i (TM.2 oM);rw[getElem!_pos bs i h1]at this;have h3:bs[i].toNat=0:=by
    have h4:ub bs[i]=(bs[i].toNat:Int):=rfl;rw[h4]at this;omega
   have h5:(qQ)[i]=0:=by
    have h6:(So 33 (0:UInt8))[i]'h2=0:=TL _;exact h6
   rw[h5];exact UInt8.toNat_inj.1 h3
 ·rintro rfl i hi;have hi:=TM.1 hi;unfold qQ;rw[getElem!_pos _ i (by rw[SB];exact hi),TL];rfl
theorem yA{x y:Fin P}(h:y*y=x*x*x+7):EC.On (.some (x,y):EC.Pt P):=by
 show y^2=x^3+7
 grobner
theorem CJ{x y:Fin P}(h:y*y=x*x*x+7):EC.On (.some (x,0-y):EC.Pt P):=by
 show(0-y)^2=x^3+7
 grobner
def wr:EC.Pt P->Bs
 | none=>qQ
 | some (x,y)=>#[mark y.val]++bx x.val
theorem EO(C:Fld P){x y:Fin P}{p:EC.Pt P}(h:EC.Pair x y p)(ho:EC.On p):xH x y=wr p:=by
 unfold xH;match p,h,ho with
 | none,h,_=>rw[if_pos (show x=0/\y=0 from h)];rfl
 | some (a,b),h,ho =>
  obtain⟨rfl,rfl⟩:=h;rw[if_neg (λe=>C.cur.y_ne ho e.2)];rfl
def pt(p:Fin P × Fin P):EC.Pt P:=if p.1=0/\p.2=0 then none else some p
theorem KH(C:Fld P){x y:Fin P}{q:EC.Pt P}(h:EC.Pair x y q)(ho:EC.On q):q=pt (x,y):=by
 unfold pt;match q,h,ho with
 | none,h,_=>rw[if_pos (show x=0/\y=0 from h)]
 | some (a,b),h,ho =>
  obtain⟨rfl,rfl⟩:=h;rw[if_neg (λe=>C.cur.y_ne ho e.2)]
theorem D2(C:Fld P){bs:Bs}{p:Fin P × Fin P}(h:rd P bs=some p):EC.Pair p.1 p.2 (pt p)/\EC.On (pt p):=by
 have key:∃q:EC.Pt P,EC.Pair p.1 p.2 q/\EC.On q:=by
  unfold rd at h;split at h
  ·split at h
   ·obtain rfl:=Td.inj h;exact⟨none,⟨rfl,rfl⟩,EC.fV⟩
   ·split at h
    ·split at h
     ·obtain⟨y,hr,rfl⟩:=Sf.1 h;have hsq:=AG hr;refine⟨some (rdx P bs,if ub bs[0]! = 3 then 0-y else y),⟨rfl,rfl⟩,?_⟩;split
      ·exact CJ hsq
      ·exact yA hsq
     ·cases h
    ·cases h
  ·cases h
 obtain⟨q,h1,h2⟩:=key;have:=KH C h1 h2;rw[show pt p=q from this.symm];exact⟨h1,h2⟩
omit [NeZero P] in
theorem dB(p:EC.Pt P):(wr p).size=33:=by
 match p with
 | none=>rfl
 | some (x,y) =>
  show(#[mark y.val]++bx x.val).size=33;rw[Tw,jR];rfl
end
section
variable {P:Nat}[NeZero P]{N:Nat}
theorem G5{a P:Nat}(h:NT.IsP P)(h4:P%4=3):(a*a%P)^(P/4+1)%P*((a*a%P)^(P/4+1)%P)%P=a*a%P:=by
 rw[<-UA,<-Nat.pow_add,<-Nat.pow_mod,<-ZQ,<-Nat.pow_mul,show 2*(P/4+1+(P/4+1))=P+1 by omega,Nat.pow_succ,UA,h.fermat a,<-UA,ZQ]
theorem Kg{a R P:Nat}(h:NT.IsP P)(ha:a<P)(hR:R<P)(he:R*R%P=a*a%P):R=a\/R+a=P:=by
 have key:∀x y:Nat,x<P->y<P->y<=x->x*x%P=y*y%P->x=y\/x+y=P:=by
  intro x y hx hy hxy hxe;have hd:P ∣ x*x-y*y:=by
   refine Nat.dvd_of_mod_eq_zero ?_;exact Nat.sub_mod_eq_zero_of_mod_eq hxe
  have hf:x*x-y*y=(x-y)*(x+y):=by
   rw[S9 (x-y),Nat.mul_self_sub_mul_self_eq]
  rw[hf]at hd;rcases h.euclid hd with h1|h1
  ·left;have:=Nat.eq_zero_of_dvd_of_lt h1 oM;omega
  ·obtain⟨k,hk⟩:=h1;have:k=0\/k=1\/2<=k:=oM;rcases this with rfl|rfl|h2
   ·left;omega
   ·right;omega
   ·have:=Nat.mul_le_mul_left P h2;omega
 rcases Nat.le_total a R with h1|h1
 ·exact key R a hR ha h1 he
 ·rcases key a R ha hR h1 he.symm with h2|h2
  ·left;exact h2.symm
  ·right;omega
end
section
open Go.RowKit Go.Sort Go.Deep
theorem yV(x:Nat)(hx:x<18446744073709551616):
 w8 (Sy (x/72057594037927936)) (Sy (x/281474976710656)) (Sy (x/1099511627776)) (Sy (x/4294967296)) (Sy (x/16777216)) (Sy (x/65536)) (Sy (x/256)) (Sy x)=x:=by
 unfold w8;simp only[UInt8.toNat_ofNat'];omega
theorem Ge(a b c d:Nat):(be32 a b c d).toList=[Sy (d/72057594037927936),Sy (d/281474976710656),Sy (d/1099511627776),Sy (d/4294967296),Sy (d/16777216),Sy (d/65536),Sy (d/256),Sy d,Sy (c/72057594037927936),Sy (c/281474976710656),Sy (c/1099511627776),Sy (c/4294967296),Sy (c/16777216),Sy (c/65536),Sy (c/256),Sy c,Sy (b/72057594037927936),Sy (b/281474976710656),Sy (b/1099511627776),Sy (b/4294967296),Sy (b/16777216),Sy (b/65536),Sy (b/256),Sy b,Sy (a/72057594037927936),Sy (a/281474976710656),Sy (a/1099511627776),Sy (a/4294967296),Sy (a/16777216),Sy (a/65536),Sy (a/256),Sy a]:=by
 simp only[be32,be8,Wy,Xn,Zc]
theorem val_congr{a b c d p q r s:Nat}(h1:a=p)(h2:b=q)(h3:c=r)(h4:d=s):val a b c d=val p q r s:=by subst h1 h2 h3 h4;rfl
theorem Je(a b c d:Nat)(ha:a<18446744073709551616)(hb:b<18446744073709551616)(hc:c<18446744073709551616)(hd:d<18446744073709551616):beV (be32 a b c d).toList=val a b c d:=
 (congrArg beV (Ge a b c d)).trans ((Jf _ _ _ _ _ _ _ _ _ _ _ _ _ _ _ _ _ _ _ _ _ _ _ _ _ _ _ _ _ _ _ _).trans (val_congr (yV a ha) (yV b hb) (yV c hc) (yV d hd)))
theorem Dn{n:Nat}(hn:n<top):beV (bx n).toList=n:=by
 unfold bx;rw[Je _ _ _ _ oM oM oM oM];unfold val;unfold top at hn;omega
variable {P:Nat}[NeZero P]
theorem G1(C:Fld P){y m:Fin P}(h:y*y=m):rt m=some (if y.val%2=1 then 0-y else y):=by
 have hm:y.val*y.val%P=m.val:=by rw[<-h,U6]
 have h1:=G5 (a:=y.val) C.cur.pr C.p3;rw[hm]at h1;unfold rt;rw[if_pos h1];have hP:=VQ P;have hr:m.val^(P/4+1)%P<P:=Ug _ hP;generalize m.val^(P/4+1)%P=r at h1 hr;have hy:=y.isLt;have h3:=C.p3;have hor:=Kg C.cur.pr hy hr (h1.trans hm.symm)
 congr 1
 apply Vx;show even P r%P=_;unfold even;have h0:(0-y:Fin P).val=(P-y.val)%P:=by rw[<-kP,EC.val_zero,Sj]
 by_cases ho:y.val%2=1
 ·rw[if_pos ho,h0];rcases hor with e|e
  ·rw[e,if_pos ho]
  ·rw[if_neg oM,show P-y.val=r by omega]
 ·rw[if_neg ho];rcases hor with e|e
  ·rw[e,if_neg ho,SA hy]
  ·by_cases hz:y.val=0
   ·omega
   ·rw[if_pos oM,show P-r=y.val by omega,SA hy]
theorem JP(n:Nat):ub (mark n)=if n%2=1 then 3 else 2:=by
 unfold mark;split<;>rfl
theorem JR{m:UInt8}{b:Bs}(h:b.size=32):f8 (#[m]++b)=b:=by
 unfold f8;rw[Array.extract_append];have h1:(#[m]:Bs).extract 1 33=#[]:=by rfl
 rw[h1];simp[h]
theorem N9(m:UInt8)(b:Bs):(#[m]++b)[0]! = m:=by
 rw[getElem!_pos _ 0 (by rw[Tw];simp;omega),Array.getElem_append_left (by simp)];rfl
theorem Py(C:Fld P){b:Bs}(hs:b.size=33){x y:Fin P}(hm:ub b[0]! = if y.val%2=1 then 3 else 2)(hv:beV (f8 b).toList=x.val)(h:EC.On (some (x,y):EC.Pt P)):rd P b=some (x,y):=by
 have hz:¬mS b:=λhz=>by
  have:=hz 0 (TM.2 dC);rw[hm]at this;split at this<;>omega
 have hx:rdx P b=x:=by
  unfold rdx;rw[hv];exact Vx (SA x.isLt)
 have hy:y*y=x*x*x+7:=by
  have:y^2=x^3+7:=h
  grobner
 unfold rd;rw[if_pos hs,if_neg hz,hm,hv,if_pos x.isLt,hx,G1 C hy];by_cases ho:y.val%2=1
 ·rw[if_pos ho,if_pos (SJ rfl),if_pos ho,WX,if_pos rfl];have e:0-(0-y)=y:=by grobner
  rw[e]
 ·rw[if_neg ho,if_pos (SY rfl),if_neg ho,WX,if_neg dC]
theorem DZ(C:Fld P){X:EC.Pt P}(h:EC.On X):∃p,rd P (wr X)=some p/\pt p=X:=by
 match X,h with
 | none,_ =>
  refine⟨(0,0),?_,by unfold pt;rw[if_pos ⟨rfl,rfl⟩]⟩;have h1:(wr (none:EC.Pt P)).size=33:=dB _;have h2:=(kL h1).2 rfl;unfold rd;rw[if_pos h1,if_pos h2]
 | some (x,y),h =>
  have hs:=dB (P:=P) (some (x,y));have hb0:(wr (some (x,y):EC.Pt P))[0]! = mark y.val:=N9 _ _;have ht:f8 (wr (some (x,y):EC.Pt P))=bx x.val:=JR (jR _);refine⟨(x,y),Py C hs (by rw[hb0,JP]) (by rw[ht,Dn (C.top x)]) h,by unfold pt;rw[if_neg (λe=>C.cur.y_ne h e.2)]⟩
end
section
open Go.RowKit Go.Sort Go.Deep
variable {P:Nat}[NeZero P]{N:Nat}
def gxl:List Value:=[uZ 6481385041966929816,uZ 188021827762530521,uZ 6170039885052185351,uZ 8772561819708210092]
def gyl:List Value:=[uZ 11261198710074299576,uZ 18237243440184513561,uZ 6747795201694173352,uZ 5204712524664259685]
def gX(P:Nat)[NeZero P]:Fin P:=Ua P 55066263022277343669578718895168534326250603453777594175500187360389116729240
def gY(P:Nat)[NeZero P]:Fin P:=Ua P 32670510020758816978083085130507043184471273380659243275938904335757337482424
def gG(P:Nat)[NeZero P]:EC.Pt P:=some (gX P,gY P)
theorem Fld.eq(C:Fld P):P=115792089237316195423570985008687907853269984665640564039457584007908834671663:=by
 have h:=C.gap.hP;have e:val 4294968273 0 0 0=4294968273:=dC;rw[e]at h;unfold Go.Proofs.YtnakcnljhmlikaaGreat.top at h;omega
theorem C4(C:Fld P):(gX P).val=55066263022277343669578718895168534326250603453777594175500187360389116729240:=by
 have h:=C.eq;exact SA oM
theorem C3(C:Fld P):(gY P).val=32670510020758816978083085130507043184471273380659243275938904335757337482424:=by
 have h:=C.eq;exact SA oM
theorem Oq(C:Fld P):gxl=ws (gX P):=by
 show _=wn (gX P).val;rw[C4 C];kernel_rfl
theorem Oo(C:Fld P):gyl=ws (gY P):=by
 show _=wn (gY P).val;rw[C3 C];kernel_rfl
theorem II(C:Fld P):EC.On (gG P):=by
 refine yA (Vx ?_);have h7:(7:Fin P).val=7:=SA C.p7;rw[U6,Fin.val_add,U6,U6,C4 C,C3 C,h7];have h:=C.eq;rw[h]
theorem ON:Gives 154 #[] (.agg (gxl++gyl).toArray):=by
 intro w;go_enter Tryz.func154,Tryz.ntmps154;refine RG.M.enter [] 4 kR ?_;intro a0 M0;repeat refine wp_seq ?_
 refine M0.T [.m 0] [(0,RG.z 8)] [] [RG.z 8] [0] ⟨RG.mk 0 114,trivial⟩ ?_;intro j1 a1 w1 M1;repeat refine wp_seq ?_
 refine M1.T [.x (.agg gxl.toArray),.x (.agg gyl.toArray),.x (.agg (gxl++gyl).toArray),.u 0] [] [(0,3,gxl++gyl)] [gxl++gyl] [0] ⟨RG.st,RG.st,RG.st,RG.pt i109,trivial⟩ ?_;intro a2 w2 M2;refine wp_ret ?_;refine bodyPost_ret (v:=.agg (gxl++gyl).toArray) (RG.aE M2.st 0 114 rfl 0 _ rfl (M2.at (s:=.p 0 0)) g9 i109) M2.sl.defers ?_;exact⟨_,rfl,M2.st.bel.below,rfl⟩
theorem OO(C:Fld P):Gives 154 #[] (pv (gX P) (gY P)):=by
 unfold pv;rw[<-Oq C,<-Oo C];exact ON
end
section
open Go.RowKit Go.Sort Go.Deep Go.Shelf
attribute [local go_sem] Oper.semAt_some
section
variable {F:Fence}{n:Nat}{P:Program}{ops:Array Oper}{rest:List Oper}{op:Oper}{a:Act}{w:World}{Q:Exit->Act->World->Prop}
theorem jB(hgd:op.guard=none)(ty:TypeId)(x:Operand)(ho:op.op=.load ty x)(b o:Nat)(hx:a.eval x=.pointer (some ⟨b,o,none⟩))(cs:List Value)(d:TypeDesc)(hc:w.rangeAt b o cs)
 (hu:P.underlying ty=some d) (hd:d.isRow=true) (hi:(P.info? ty).map (·.size)=some cs.length) (h:wpListIn F n P ops Q rest (a.put op.dst (.agg cs.toArray)) w):wpListIn F n P ops Q (op :: rest) a w:=
 wpListIn_plain hgd λK hK=>by
  refine⟨λf hf=>(by unfold ZW at hf;rw[ho]at hf;cases hf),?_⟩;rw[ZA _ _ _ (λc=>by rw[ho];intro e;cases e)];unfold execOp;simp only[ho,hx,Instr.loadAt,VZ,SK,Ux,Tr,run_loadVar_mid w b o ty cs d hc hu hd hi];exact hK _ _ h
theorem bH(hgd:op.guard=none)(ty:TypeId)(x y:Operand)(ho:op.op=.store ty x y)(b o:Nat)(cells:Array Value)(hx:a.eval x=.pointer (some ⟨b,o,none⟩))(hy:a.eval y=.agg cells)
 (ht:w.there b o cells.size) (hi:(P.info? ty).map (·.size)=some cells.size) (h1:cells.all (·.oneCell')=true)
 (h:wpListIn F n P ops Q rest (a.put op.dst undef) (w.setCells b o cells.toList)):wpListIn F n P ops Q (op :: rest) a w:=
 wpListIn_plain hgd λK hK=>by
  refine⟨λf hf=>(by unfold ZW at hf;rw[ho]at hf;cases hf),?_⟩;rw[ZA _ _ _ (λc=>by rw[ho];intro e;cases e)];unfold execOp;simp only[ho,hx,hy,Instr.storeAt,VZ,SK,Ux,Tr,run_storeVar_mid w b o ty cells ht hi h1];exact hK _ _ h
end
def Row(W:World)(k:Nat)(vs:List Value):Prop:=k<W.heap.size/\W.rangeAt k 0 vs/\W.there k 0 vs.length
theorem oS(k:Nat)(vs:List Value):Own (λ(_:Unit) W=>Row W k vs):=λs A B row hs hg hr=>by
 refine⟨Si hs.1 hg.size,λj v hj=>?_,λj hj=>?_⟩
 ·exact cell_kept (hs.2.1 j v hj) hg hr
 ·have h1:=hs.2.1 j vs[j] (List.getElem?_eq_getElem hj);have h2:=cell_kept h1 hg hr;exact⟨by rw[h2];rfl,(frozen_kept h1 hg hr).trans (hs.2.2 j hj).2⟩
theorem mK(k:Nat):∀(vs:List Value) (o:Nat) (W:World),KeepsOthers W (W.setCells k o vs)
 | [],_,W=>KeepsOthers.refl W
 | v :: vs,o,W=>(KeepsOthers.setCell W ⟨k,o,none⟩ v).trans (mK k vs (o+1) _)
theorem Row.alloc{W:World}{k:Nat}{vs:List Value}(h:Row W k vs)(o:Obj):Row (W.alloc o) k vs:=
 oS k vs () W (W.alloc o) none h (World.grownBy_alloc W o none) (λ_ e=>by cases e)
theorem Row.putObj{W:World}{k D:Nat}{vs:List Value}(h:Row W k vs){o:Obj}(hD:W.heap[D]? = some o)(ho:o.isCells=false)(o':Obj):Row (W.putObj D o') k vs:=
 oS k vs () W (W.putObj D o') (some D) h (grownBy_putObj' W D o') (λr e=>by cases e;exact⟨_,hD,ho⟩)
theorem Row.below{W W':World}{k:Nat}{vs:List Value}(h:Row W k vs)(hb:Below W.heap.size W W'):Row W' k vs:=by
 have e:=hb.block k h.1;refine⟨Si h.1 hb.size,λj v hj=>?_,λj hj=>?_⟩
 ·exact(SR e).trans (h.2.1 j v hj)
 ·have h1:=h.2.2 j hj;exact⟨by rw[SR e];exact h1.1,(Uf e).trans h1.2⟩
theorem aP{P:Program}{fn:Func}{tmps:Array Value}{W:World}{k:Nat}{vs:List Value}(t:Tmp)(T:TypeId)(hr:fn.results=#[.cell t T])(h:Row W k vs)(ht:tmps[t]? = some (pZ k))
 (hu:(P.underlying T).map (·.isRow)=some true) (hi:(P.info? T).map (·.size)=some vs.length):(results fn tmps).run P W=.ok (.agg vs.toArray) W:=by
 obtain⟨d,hu,hd⟩:=Sf.1 hu;have h1:=run_loadVar_mid (P:=P) W k 0 T vs d h.2.1 hu hd hi;have h2:tmps.getD t undef=pZ k:=by rw[Array.getD_eq_getD_getElem?,ht];rfl
 unfold results;rw[hr];simp only[Array.mapM_eq_mapM_toList,List.mapM_cons,List.mapM_nil,h2,asAddr];simp[SK,h1]
theorem Row.put{W:World}{k:Nat}{vs us:List Value}(h:Row W k vs)(hl:us.length=vs.length):Row (W.setCells k 0 us) k us:=
 ⟨by rw[RG.setCells_size];exact h.1,World.rangeAt_setCells_same W k 0 us (by rw[hl];exact h.2.2),by rw[hl];exact U8 h.2.2 _ _ _⟩
theorem Row.other{W:World}{k j:Nat}{vs us:List Value}(h:Row W k vs)(hne:k≠j):Row (W.setCells j 0 us) k vs:=
 ⟨by rw[RG.setCells_size];exact h.1,World.rangeAt_setCells_apart h.2.1 j 0 us (SY hne),U8 h.2.2 _ _ _⟩
variable {P:Nat}[NeZero P]
theorem LC(C:Fld P)(lb:Array Value)(L:List (Fin P × Fin P))(N:Nat)(w:World)
 (hseq:∀n,SeqStopsK Fence.wide n prog 155 lb (λx:Fin P × Fin P=>#[pv x.1 x.2]) (Below w.heap.size) (λxs=>xs=L) (λpre=>pre <+: L) N w) :
 Calls prog 124 #[.func (.func 155) #[] lb] w (rZ w λe w'=>e=pv (L.headD (gX P,gY P)).1 (L.headD (gX P,gY P)).2):=by
 refine(callsIn_wide (n:=5)).1 ?_;refine callsIn_of_wp_marks Tryz.func124 rfl trivial ?_ rfl;simp only[Tryz.ntmps124,Tf,Tc,List.length_nil,Nat.reduceAdd,Nat.reduceSub,Array.replicate_succ,Array.replicate_zero,List.push_toArray,List.append_toArray,Zc,Xn]
 gi_wp2
 have hM:=RG.Made.alloc w [uZ 0,uZ 0,uZ 0,uZ 0,uZ 0,uZ 0,uZ 0,uZ 0] 114;have hR0:Row (w.alloc (.cells #[uZ 0,uZ 0,uZ 0,uZ 0,uZ 0,uZ 0,uZ 0,uZ 0] 114)) w.heap.size [uZ 0,uZ 0,uZ 0,uZ 0,uZ 0,uZ 0,uZ 0,uZ 0]:=⟨hM.lt,hM.range,hM.there⟩
 have hB0:Below w.heap.size w (w.alloc (.cells #[uZ 0,uZ 0,uZ 0,uZ 0,uZ 0,uZ 0,uZ 0,uZ 0] 114)):=hM.bel;clear hM;obtain⟨W0,hW0⟩:∃W0,W0=w.alloc (.cells #[uZ 0,uZ 0,uZ 0,uZ 0,uZ 0,uZ 0,uZ 0,uZ 0] 114):=⟨_,rfl⟩
 have hsz:W0.heap.size=w.heap.size+1:=by rw[hW0,Sq]
 rw[<-hW0]at hR0 hB0⊢;clear hW0;refine wpIn_rangeFunc_ownH (α:=Fin P × Fin P) rfl dC (gf:=155) (lb:=lb) rfl trivial (enters_of Tryz.func155 kR rfl) (hseq 4) belowK_t (belowK_b oM) hB0 (λ_=>rfl)
  (λpre W=>(pre=[]/\Row W w.heap.size [uZ 0,uZ 0,uZ 0,uZ 0,uZ 0,uZ 0,uZ 0,uZ 0])/\Below w.heap.size w W)
  (λc pre W=>(c=.ret/\∃x:Fin P × Fin P,pre=[x]/\Row W w.heap.size (ws x.1++ws x.2))/\Below w.heap.size w W)
  (Zt (Own.from (λs A B row hs hg hr=>⟨hs.1,oS _ _ () A B row hs.2 hg hr⟩) _) (ownFrom_below (Se _) oM))
  (λc=>Zt (Own.from (λs A B row hs hg hr=>⟨hs.1,hs.2.imp λx hx=>⟨hx.1,oS _ _ () A B row hx.2 hg hr⟩⟩) _) (ownFrom_below (Se _) oM))
  ⟨⟨rfl,hR0⟩,hB0⟩
  (λx a' W=>∃Bx,w.heap.size<Bx/\Row W Bx (ws x.1++ws x.2)/\a' = { tmps:=#[.func (.func 155) #[] lb,undef,.pointer (some ⟨w.heap.size,0,none⟩),pZ Bx,.func (.func 155) #[] lb,pv x.1 x.2,undef,undef],defers:=[] })
  (λx a'=>Own.from (λs A B row hs hg hr=>hs.imp λBx hx=>⟨hx.1,oS _ _ () A B row hx.2.1 hg hr,hx.2.2⟩) _) ?assign ?body ?done ?stop
 case assign =>
  intro l pre x W K hI hK;have hMx:=RG.Made.alloc W [uZ 0,uZ 0,uZ 0,uZ 0,uZ 0,uZ 0,uZ 0,uZ 0] 114;have hth:=hMx.there
  gi_wp2_with (refine bH rfl 114 _ _ rfl W.heap.size 0 (ws x.1++ws x.2).toArray rfl rfl hth i109 kR ?_)
  have hle:=hI.1.2.1;have hbl:Below w.heap.size W ((W.alloc (.cells #[uZ 0,uZ 0,uZ 0,uZ 0,uZ 0,uZ 0,uZ 0,uZ 0] 114)).setCells W.heap.size 0 (ws x.1++ws x.2)):=
   RG.below_setCells (Uw hle) _ _ _ ((SE _ W).alloc (Uw hle) _)
  exact hK _ _ (((KeepsOthers.alloc W _).trans (mK _ _ _ _)).from _) hbl ⟨⟨hI.1.1,(hI.1.2.alloc _).other (TJ hle)⟩,hI.2.trans hbl⟩
   ⟨W.heap.size,hle,Row.put (vs:=[uZ 0,uZ 0,uZ 0,uZ 0,uZ 0,uZ 0,uZ 0,uZ 0]) ⟨hMx.lt,hMx.range,hMx.there⟩ rfl,rfl⟩
 case body =>
  rintro l pre x a' W hl ⟨r,hr⟩ ⟨⟨rfl,hRow⟩,hB⟩ ⟨Bx,hBx,hX,rfl⟩ hlt;obtain⟨d,hd1,hd2⟩:=Sf.1 g9;have hXr:=hX.2.1;have hth:=hRow.2.2
  gi_wp2_with (first|refine jB rfl 114 _ rfl Bx 0 rfl (ws x.1++ws x.2) d hXr hd1 hd2 i109 ?_|refine bH rfl 114 _ _ rfl w.heap.size 0 (ws x.1++ws x.2).toArray rfl rfl hth i109 kR ?_)
  exact⟨(mK _ _ _ _).from _,⟨rfl,x,rfl,hRow.put rfl⟩,RG.below_setCells (Se _) _ _ _ hB⟩
 case done =>
  rintro D ys W hD rfl ⟨⟨rfl,hRow⟩,hB⟩ hK;have hth:=hRow.2.2
  gi_wp2_with fail
  refine⟨trivial,(callsIn_wide.2 (OO C _)).mono ?_⟩;rintro e w2 ⟨v,rfl,hb2,rfl⟩;have hRow2:Row w2 w.heap.size [uZ 0,uZ 0,uZ 0,uZ 0,uZ 0,uZ 0,uZ 0,uZ 0]:=hRow.below hb2;have hth2:=hRow2.2.2
  gi_wp2_with (refine bH rfl 114 _ _ rfl w.heap.size 0 (ws (gX P)++ws (gY P)).toArray rfl rfl hth2 i109 kR ?_)
  have hK2:(w2.setCells w.heap.size 0 (ws (gX P)++ws (gY P))).heap[D]? = some (.deferred (some [])):=by
   rw[RG.aS _ _ _ _ _ oM,hb2.block D (Array.getElem?_eq_some_iff.1 hK).1];exact hK
  have hB2:Below w.heap.size w (w2.setCells w.heap.size 0 (ws (gX P)++ws (gY P))):=RG.below_setCells (Se _) _ _ _ (hB.trans (hb2.mono hB.size));have hRow3:Row (w2.setCells w.heap.size 0 (ws (gX P)++ws (gY P))) w.heap.size (ws (gX P)++ws (gY P)):=hRow2.put rfl;refine⟨by simp,.inl ⟨_,_,rfl,run_takeDeferred hK2,?_⟩⟩;exact⟨_,aP 2 114 rfl (hRow3.putObj hK2 rfl _) rfl g9 i109,_,rfl,hB2.trans (belowK_b (w:=W0) oM _ D _ _ hD hK2 rfl rfl),rfl⟩
 case stop =>
  rintro D c pre W hD hpre ⟨⟨rfl,x,rfl,hRow⟩,hB⟩ hK
  gi_wp2
  obtain⟨L',hL⟩:=hpre;have hL2:L=x :: L':=hL.symm;rw[hL2];refine⟨by simp,.inl ⟨_,_,rfl,run_takeDeferred hK,?_⟩⟩;exact⟨_,aP 2 114 rfl (hRow.putObj hK rfl _) rfl g9 i109,_,rfl,hB.trans (belowK_b (w:=W0) oM _ D _ _ hD hK rfl rfl),rfl⟩
end
section
open Go.RowKit Go.Sort Go.Deep
variable {P:Nat}[NeZero P]{N:Nat}
theorem jI{w W:World}{k0 k1 g0 g1 g2:Nat}(h:Kept w k0 [⟨k0,0,g0,g1,g2,0⟩,⟨k1,0,0,0,0,0⟩] W):W.cell? ⟨k0,0,none⟩=some (uZ g0)/\W.cell? ⟨k0,1,none⟩=some (uZ g1)/\W.cell? ⟨k0,2,none⟩=some (uZ g2)/\W.cell? ⟨k0,3,none⟩=some (uZ 0)/\Kept w k0 [⟨k0,0,g0,g1,g2,0⟩,⟨k1,0,0,0,0,0⟩] W:=⟨h.head.c0,h.head.c1,h.head.c2,h.head.c3,h⟩
theorem kB{w W:World}{k0 k1 g0 g1 g2:Nat}(h:W.cell? ⟨k0,0,none⟩=some (uZ g0)/\W.cell? ⟨k0,1,none⟩=some (uZ g1)/\W.cell? ⟨k0,2,none⟩=some (uZ g2)/\W.cell? ⟨k0,3,none⟩=some (uZ 0)/\Kept w k0 [⟨k0,0,g0,g1,g2,0⟩,⟨k1,0,0,0,0,0⟩] W):Kept w k0 [⟨k0,0,g0,g1,g2,0⟩,⟨k1,0,0,0,0,0⟩] W:=h.2.2.2.2
theorem Cm{w W:World}{k0 k1 g0 g1 g2:Nat}{o:Obj}(h:W.cell? ⟨k0,0,none⟩=some (uZ g0)/\W.cell? ⟨k0,1,none⟩=some (uZ g1)/\W.cell? ⟨k0,2,none⟩=some (uZ g2)/\W.cell? ⟨k0,3,none⟩=some (uZ 0)/\Kept w k0 [⟨k0,0,g0,g1,g2,0⟩,⟨k1,0,0,0,0,0⟩] W):(W.alloc o).cell? ⟨k0,0,none⟩=some (uZ g0)/\(W.alloc o).cell? ⟨k0,1,none⟩=some (uZ g1)/\(W.alloc o).cell? ⟨k0,2,none⟩=some (uZ g2)/\(W.alloc o).cell? ⟨k0,3,none⟩=some (uZ 0)/\Kept w k0 [⟨k0,0,g0,g1,g2,0⟩,⟨k1,0,0,0,0,0⟩] (W.alloc o):=jI ((kB h).alloc o)
theorem AP{w W:World}{k0 k1 g0 g1 g2:Nat}{o:Obj}(h:W.drew.cell? ⟨k0,0,none⟩=some (uZ g0)/\W.drew.cell? ⟨k0,1,none⟩=some (uZ g1)/\W.drew.cell? ⟨k0,2,none⟩=some (uZ g2)/\W.drew.cell? ⟨k0,3,none⟩=some (uZ 0)/\Kept w k0 [⟨k0,0,g0,g1,g2,0⟩,⟨k1,0,0,0,0,0⟩] W.drew):(W.alloc o).drew.cell? ⟨k0,0,none⟩=some (uZ g0)/\(W.alloc o).drew.cell? ⟨k0,1,none⟩=some (uZ g1)/\(W.alloc o).drew.cell? ⟨k0,2,none⟩=some (uZ g2)/\(W.alloc o).drew.cell? ⟨k0,3,none⟩=some (uZ 0)/\Kept w k0 [⟨k0,0,g0,g1,g2,0⟩,⟨k1,0,0,0,0,0⟩] (W.alloc o).drew:=jI (((kB h).undrew).alloc o).drew
theorem vN{w:World}{g o:Nat}{bs:Bs}(p l:Nat)(h:Holds encB w g o bs)(hp:p+l<=bs.size):Holds encB w g (o+p) (bs.extract p (p+l)):=by
 refine Holds.part h (by rw[Uo];omega) (λj hj=>?_);rw[Uo]at hj;rw[getElem!_pos (bs.extract p (p+l)) j (by rw[Uo];omega),getElem!_pos bs (p+j) oM,Yh]
theorem Bm{w:World}{g o:Nat}{bs:Bs}(f:Nat)(h:Holds encB w g o bs)(hf:f<=bs.size):Holds encB w g o (bs.extract 0 f):=by
 have:=vN 0 f h oM;rwa[Sj,Ur]at this
def RedR(w:World)(k0 k1 g0 g1 g2 N:Nat)(s6:Value)(wx:World):Prop:=
 ∃k6 a b c d:Nat,s6=pZ k6/\Kept w k0 [⟨k6,0,a,b,c,d⟩,⟨k0,0,g0,g1,g2,0⟩,⟨k1,0,0,0,0,0⟩] wx/\k6≠k0/\k6≠k1/\k0<=k6 /\
  Hid (Four (.agg #[uZ a,uZ b,uZ c,uZ d]) N)
theorem RedR.made{w w1:World}{k0 k1 g0 g1 g2 N a b c d:Nat}(KP:Kept w k0 [⟨k0,0,g0,g1,g2,0⟩,⟨k1,0,0,0,0,0⟩] w1)(hF:Hid (Four (.agg #[uZ a,uZ b,uZ c,uZ d]) N)):
 RedR w k0 k1 g0 g1 g2 N (.pointer (some ⟨w1.heap.size,0,none⟩)) (w1.alloc (.cells #[uZ a,uZ b,uZ c,uZ d] 120)):=
 ⟨w1.heap.size,a,b,c,d,rfl,(KP.alloc _).cons (At4.made w1 120 a b c d rfl).blk,TC KP.head.lt,TC KP.tail.head.lt,KP.le,hF⟩
theorem RedR.put{w w1:World}{k0 k1 k6 g0 g1 g2 N a b c d x y z u:Nat}(KP:Kept w k0 [⟨k0,0,g0,g1,g2,0⟩,⟨k1,0,0,0,0,0⟩] w1)(T:At4 w1 k6 x y z u)(M7:k0<=k6)(N7:∀x∈([⟨k0,0,g0,g1,g2,0⟩,⟨k1,0,0,0,0,0⟩]:List Blk),x.k<k6)(hF:Hid (Four (.agg #[uZ a,uZ b,uZ c,uZ d]) N)):
 RedR w k0 k1 g0 g1 g2 N (pZ k6) ((((w1.setCell (aZ k6) (uZ a)).setCell ⟨k6,1,none⟩ (uZ b)).setCell ⟨k6,2,none⟩ (uZ c)).setCell ⟨k6,3,none⟩ (uZ d)):=
 ⟨k6,a,b,c,d,rfl,(KP.set4' M7 (λx hx=>TC (N7 x hx)) _ _ _ _).cons (T.self4 a b c d).blk,TC (N7 ⟨k0,0,g0,g1,g2,0⟩ (by simp)),TC (N7 ⟨k1,0,0,0,0,0⟩ (by simp)),M7,hF⟩
theorem Ha{P:Nat}(bs:Bs)(p:Nat)(hp:p+32<=bs.size):(beV (bs.extract p (p+32)).toList+top*(beV (bs.extract 0 p).toList%P))%P=beV (bs.extract 0 (p+32)).toList%P:=by
 have e:(bs.extract 0 (p+32)).toList=(bs.extract 0 p).toList++(bs.extract p (p+32)).toList:=by
  rw[<-Wy,Array.extract_append_extract,Nat.min_eq_left oM,Nat.max_eq_right oM]
 have l32:(bs.extract p (p+32)).toList.length=32:=by rw[Sx,Uo];omega
 have ht:256^32=top:=by unfold top;decide
 rw[e,fA,l32,ht,Nat.add_comm,VI,UA,YS,<-UA,<-VI,S9]
theorem BR(g0 g1 g2 P g o n cap : Nat)(bs : Bs)(hG : Gap g0 g1 g2 P)(w : World)(hs : bs.size = n)(hc : n <= cap)(hg : g < w.heap.size)(hB : Holds encB w g o bs):
    Calls prog 178 #[.agg #[Go.Value.int .u64 (g0 : Int), Go.Value.int .u64 (g1 : Int), Go.Value.int .u64 (g2 : Int), Go.Value.int .u64 0], .slice (some ⟨g, o, none⟩) n cap] w (Ret λe w'=>Go.RowKit.Below w.heap.size w w'/\Four e (beV bs.toList % P)) := by
  obtain⟨f, hf⟩ : ∃f, f = n % 32 := ⟨_, rfl⟩;have hf32 : f < 32 := oM;have hfn : f <= n := oM;have e1 : (n : Int) % 32 = (f : Int) := oM;have e2 : (f : Int) <= (cap : Int) := oM;have e3 : (f : Int) <= (n : Int) := oM;have e4 : f <= cap := oM;have hsz0 : (bs.extract 0 f).size = f := by rw [Uo]; omega
  have Hf : Hid (f = n % 32) := hf;have HS : Hid ((bs.extract 0 f).size = f) := hsz0;have hbs : f <= bs.size := oM;have HSZ : Hid (bs.size = n) := hs;have HG : Hid (Gap g0 g1 g2 P) := hG;clear hf hsz0 hG;go_enter Tryz.func178, Tryz.ntmps178
  go_upto_region 2 with fail
  rw [e1];clear e1;have PR := (At4.made w 122 g0 g1 g2 0 rfl).alloc (.cells #[Go.Value.int .u64 0, Go.Value.int .u64 0, Go.Value.int .u64 0, Go.Value.int .u64 0] 41);have RE := At4.made (w.alloc (.cells #[Go.Value.int .u64 (g0 : Int), Go.Value.int .u64 (g1 : Int), Go.Value.int .u64 (g2 : Int), Go.Value.int .u64 0] 122)) 41 0 0 0 0 (Sq _ _);have KP := ((Kept.mk1 (below2 w (.cells #[Go.Value.int .u64 (g0 : Int), Go.Value.int .u64 (g1 : Int), Go.Value.int .u64 (g2 : Int), Go.Value.int .u64 0] 122) (.cells #[Go.Value.int .u64 0, Go.Value.int .u64 0, Go.Value.int .u64 0, Go.Value.int .u64 0] 41)) (below2 w (.cells #[Go.Value.int .u64 (g0 : Int), Go.Value.int .u64 (g1 : Int), Go.Value.int .u64 (g2 : Int), Go.Value.int .u64 0] 122) (.cells #[Go.Value.int .u64 0, Go.Value.int .u64 0, Go.Value.int .u64 0, Go.Value.int .u64 0] 41)).size).cons RE.blk).cons PR.blk;clear PR RE;generalize TI _ _ = W0 at KP⊢;generalize h1 : w.heap.size + 1 = k1 at KP⊢;have Q1 : Hid (w.heap.size <= k1) := by unfold Hid; omega
  generalize h0 : w.heap.size = k0 at KP Q1 hg⊢;have n01 : k0 ≠ k1 := oM;have H0 : Hid (w.heap.size = k0) := h0;have HBS : Hid (Holds encB w g o bs) := hB;clear h0 h1 hB hs
  go_cut [6] (λs6 wx => RedR w k0 k1 g0 g1 g2 (beV (bs.extract 0 f).toList % P) s6 wx)
  case first =>
    go_region_held3 (λw' => w'.cell? ⟨k0, 0, none⟩ = some (Go.Value.int .u64 (g0 : Int)) /\ w'.cell? ⟨k0, 1, none⟩ = some (Go.Value.int .u64 (g1 : Int)) /\ w'.cell? ⟨k0, 2, none⟩ = some (Go.Value.int .u64 (g2 : Int)) /\ w'.cell? ⟨k0, 3, none⟩ = some (Go.Value.int .u64 0) /\ Kept w k0 [⟨k0, 0, g0, g1, g2, 0⟩, ⟨k1, 0, 0, 0, 0, 0⟩] w') (first | (with_reducible exact jI KP) | (with_reducible exact jI KP.drew) | (with_reducible exact AP (by assumption)) | (with_reducible exact Cm (by assumption)) | (with_reducible exact jI (KP.alloc _)) | (with_reducible exact jI (KP.set4' M7 (λx hx => TC (N7 x hx)) _ _ _ _)) | (with_reducible exact jI (KP.alloc _).drew) | (with_reducible exact jI (KP.set4' M7 (λx hx => TC (N7 x hx)) _ _ _ _).drew) | fail) (first | (go_at_call 102; refine(jU (some ⟨g, o, none⟩) g o f cap (bs.extract 0 f) _ (Uw hf32) e4 HS.out (SJ ⟨rfl, Bm f (Holds.below HBS.out (kB (by assumption)).bl hg) hbs⟩)).mono ?_; rintro e w1 ⟨v, rfl, hb1, hF1⟩; obtain⟨a1, b1, c1, d1, rfl, ha1, hb1', hc1, hd1, es1⟩ := id hF1; clear es1; have HF1 : Hid (Four _ _) := hF1; clear hF1; (try(with_reducible have T1 := T.call hb1; clear T; have T := T1; clear T1)); (try(first | (with_reducible have T := (At4.made _ 120 0 0 0 0 rfl).call hb1) | (with_reducible have T := (At4.made _ 120 0 0 0 0 rfl).drew.call hb1)); have N7 := KP.lts; have M7 := KP.le); have KP1 := Kept.call (kB (by assumption)) hb1; clear KP; have KP := KP1; clear KP1 hb1) | (go_at_call 104; refine(iW _ _ HF1.out _).mono ?_; rintro e w1 ⟨v, rfl, hb1, rfl⟩; (try(with_reducible have T1 := T.call hb1; clear T; have T := T1; clear T1)); (try(first | (with_reducible have T := (At4.made _ 120 0 0 0 0 rfl).call hb1) | (with_reducible have T := (At4.made _ 120 0 0 0 0 rfl).drew.call hb1)); have N7 := KP.lts; have M7 := KP.le); have KP1 := Kept.call (kB (by assumption)) hb1; clear KP; have KP := KP1; clear KP1 hb1) | (go_at_call 140; refine(vU g0 g1 g2 _ _ _ _ P HG.h0 HG.h1 HG.h2 HG.hor HG.hP HG.hP2 HF1.out (Four.mk (a := 0) (b := 0) (c := 0) (d := 0) dC dC dC dC rfl) _).mono ?_; rintro e w1 ⟨v, rfl, hb1, hF3⟩; obtain⟨a', b', c', d', rfl, ha', hb', hc', hd', es3⟩ := id hF3; clear es3; have HF3 : Hid (Four _ _) := hF3; clear hF3; (try(with_reducible have T1 := T.call hb1; clear T; have T := T1; clear T1)); (try(first | (with_reducible have T := (At4.made _ 120 0 0 0 0 rfl).call hb1) | (with_reducible have T := (At4.made _ 120 0 0 0 0 rfl).drew.call hb1)); have N7 := KP.lts; have M7 := KP.le); have KP1 := Kept.call (kB (by assumption)) hb1; clear KP; have KP := KP1; clear KP1 hb1; (try(obtain⟨tc0, tc1, tc2, tc3, tf⟩ := id T; have zt := T.lt))))
    all_goals (try go_wp2)
    all_goals (rw [show val 0 0 0 0 = 0 from rfl, V8, Ur]at HF3)
    all_goals (go_meet; first | (with_reducible exact RedR.made KP HF3) | (with_reducible exact(RedR.made KP HF3).drew) | (with_reducible exact RedR.put KP T M7 N7 HF3) | (with_reducible exact(RedR.put KP T M7 N7 HF3).drew) | fail)
  case rest =>
    clear KP;obtain⟨k6, a, b, c, d, rfl, KP, n60, n61, M6, HF⟩ := hcut;have f0 : (0 : Int) <= (f : Int) := Int.natCast_nonneg _
    go_upto_region 3 with fail
    go_cut [1] (λs1 wx => ∃q : Nat, s1 = .slice (some ⟨g, q, none⟩) (n - f) (cap - f) /\ Hid (0 < n - f -> q = o + f) /\ Kept w k0 [⟨k6, 0, a, b, c, d⟩, ⟨k0, 0, g0, g1, g2, 0⟩, ⟨k1, 0, 0, 0, 0, 0⟩] wx)
    case first =>
      by_cases ec : cap = f
      · have en : n = f := oM
        have HEN : Hid (n = f /\ cap = f) := ⟨en, ec⟩;go_wp2
        go_meet
        refine⟨o, ?_, λh => ?_, KP⟩
        · rw [HEN.1, HEN.2]; try simp
        · have := HEN.1; omega
      · go_wp2
        go_meet
        exact⟨o + f, rfl, λ_ => rfl, KP⟩
    case rest =>
    clear KP;obtain⟨q0, rfl, HQ0, KP⟩ := hcut;go_wp2_with fail
    go_loopg [1] (n - f) (λgk s1 wr => ∃(l q lc a b c d : Nat), gk = l /\ l <= n /\ s1 = .slice (some ⟨g, q, none⟩) l lc /\ Hid (l % 32 = 0 /\ (0 < l -> q = o + (n - l)) /\ lc = cap - (n - l)) /\ Kept w k0 [⟨k6, 0, a, b, c, d⟩, ⟨k0, 0, g0, g1, g2, 0⟩, ⟨k1, 0, 0, 0, 0, 0⟩] wr /\
      Hid (Four (.agg #[Go.Value.int .u64 (a : Int), Go.Value.int .u64 (b : Int), Go.Value.int .u64 (c : Int), Go.Value.int .u64 (d : Int)]) (beV (bs.extract 0 (n - l)).toList % P)))
    case atStart =>
      refine⟨n - f, q0, cap - f, a, b, c, d, rfl, oM, rfl, ⟨by have := Hf.out; omega, λh => by have := HQ0.out h; omega, oM⟩, KP, ?_⟩;rw [show n - (n - f) = f by omega];exact HF
    case round =>
      clear KP HF;obtain⟨l, q, lc, a, b, c, d, hgk, hln, rfl, HQ3, KP, HF⟩ := hrel;clear e2 e3 e4 f0 hbs HS hf32 hfn HQ0;have hlcl : l <= lc := by have := HQ3.out; omega
      by_cases h0 : l = 0
      · subst h0
        obtain⟨xc0, xc1, xc2, xc3, xf⟩ := KP.head.at4;have z7 := KP.head.lt;go_wp2_with fail
        refine(iS _ _ HF.out _).mono ?_;rintro e w3 ⟨v, rfl, hb3, rfl⟩;have KP3 := KP.call hb3;clear hb3 xc0 xc1 xc2 xc3 xf z7 KP;obtain⟨rc0, rc1, rc2, rc3, rf⟩ := KP3.tail.tail.head.at4;have z3 := KP3.tail.tail.head.lt;go_wp2;have RF := KP3.tail.tail.head.at4.self4 a b c d;unfold set4 at RF;refine bodyPost_ret (v := ?v) ?hr rfl ?hR
        case hr => simp [results, Tryz.results178, go_sem, RF.c0, RF.c1, RF.c2, RF.c3]; rfl
        refine⟨_, rfl, ?_, ?_⟩
        · rw [H0.out]
          exact aF KP3.bl Q1.out _ _ _ _
        · have := HF.out
          rw [Nat.sub_zero, <-HSZ.out, YB]at this;exact this
      · have h32 : 32 <= l := by have := HQ3.out; omega
        have HQ : Hid (o + (n - l) = q) := (HQ3.2.1 oM).symm;have h32c : 32 <= lc := oM;have i1 : (32 : Int) <= (lc : Int) := oM;have i2 : (32 : Int) <= (l : Int) := oM;have i3 : (0 : Int) < (l : Int) := oM;have HSL : Hid (n - l + 32 <= bs.size) := by unfold Hid; have := HSZ.out; omega
        have HS3 : Hid ((bs.extract (n - l) (n - l + 32)).size = 32) := by unfold Hid; rw [Uo]; have := HSL.out; omega
        obtain⟨tc0, tc1, tc2, tc3, tf⟩ := KP.head.at4;have zt := KP.head.lt;obtain⟨pc0, pc1, pc2, pc3, pf⟩ := KP.tail.head.at4;have hl6 : ∀x ∈ ([⟨k0, 0, g0, g1, g2, 0⟩, ⟨k1, 0, 0, 0, 0, 0⟩] : List Blk), k6 ≠ x.k := by simp only [TP, SL, or_false]; rintro x (rfl | rfl); exact n60; exact n61
        have HFF : Hid (_ = _) := Ha (P := P) bs (n - l) HSL.out;go_wp2_with fail
        go_region_with (first | (go_at_call 102; refine(jU (some ⟨g, q, none⟩) g q 32 lc (bs.extract (n - l) (n - l + 32)) _ (Se 32) h32c HS3.out (SJ ⟨rfl, HQ.out ▸ vN (n - l) 32 (by first | (with_reducible exact Holds.below HBS.out KP.bl hg) | (with_reducible exact Holds.below HBS.out KP.drew.bl hg) | fail) HSL.out⟩)).mono ?_; rintro e w1 ⟨v, rfl, hb1, hF1⟩; obtain⟨a1, b1, c1, d1, rfl, ha1, hb1', hc1, hd1, es1⟩ := id hF1; clear es1; have HF1 : Hid (Four _ _) := hF1; clear hF1; (first | (with_reducible have KP1 := KP.call hb1) | (with_reducible have KP1 := KP.drew.call hb1) | fail); clear KP; have KP := KP1; clear KP1 hb1; obtain⟨tc0, tc1, tc2, tc3, tf⟩ := KP.head.at4; have zt := KP.head.lt; obtain⟨pc0, pc1, pc2, pc3, pf⟩ := KP.tail.head.at4) | (go_at_call 104; refine(iW _ _ HF1.out _).mono ?_; rintro e w1 ⟨v, rfl, hb1, rfl⟩; (first | (with_reducible have KP1 := KP.call hb1) | (with_reducible have KP1 := KP.drew.call hb1) | fail); clear KP; have KP := KP1; clear KP1 hb1; obtain⟨tc0, tc1, tc2, tc3, tf⟩ := KP.head.at4; have zt := KP.head.lt; obtain⟨pc0, pc1, pc2, pc3, pf⟩ := KP.tail.head.at4) | (go_at_call 140; refine(vU g0 g1 g2 _ _ _ _ P HG.h0 HG.h1 HG.h2 HG.hor HG.hP HG.hP2 HF1.out HF.out _).mono ?_; rintro e w1 ⟨v, rfl, hb1, hF3⟩; obtain⟨a', b', c', d', rfl, ha', hb', hc', hd', es3⟩ := id hF3; clear es3; have HF3 : Hid (Four _ _) := hF3; clear hF3; (first | (with_reducible have KP1 := KP.call hb1) | (with_reducible have KP1 := KP.drew.call hb1) | fail); clear KP; have KP := KP1; clear KP1 hb1; obtain⟨tc0, tc1, tc2, tc3, tf⟩ := KP.head.at4; have zt := KP.head.lt; obtain⟨pc0, pc1, pc2, pc3, pf⟩ := KP.tail.head.at4))
        all_goals (rw [HFF.out]at HF3)
        all_goals (by_cases i4 : lc = 32)
        all_goals (try go_wp2)
        all_goals
          (go_roundg (l - 32)
           case measure => omega
           case rel =>
            first
              | refine⟨l - 32, q + 32, lc - 32, a', b', c', d', rfl, oM, rfl, ⟨by have := HQ3.out; omega, λ_ => by have := HQ.out; omega, by have := HQ3.out; omega⟩, ?_, ?_⟩
              | refine⟨l - 32, q, lc - 32, a', b', c', d', rfl, oM, by first | rfl | (rw [i4]), ⟨by have := HQ3.out; omega, λh => oM, by have := HQ3.out; omega⟩, ?_, ?_⟩
              | fail
            · first | (with_reducible exact KP.put M6 hl6 a' b' c' d') | (with_reducible exact(KP.put M6 hl6 a' b' c' d').drew) | fail
            · rw [show n - (l - 32) = n - l + 32 by omega]; exact HF3)
def sPl(N a b:Nat):Nat:=(a+b)%N
theorem Kc(O:Ord N){a b:Nat}(ha:a<N)(hb:b<N):Gives 134 #[gv1,nv a,nv b] (nv (sPl N a b)):=λw =>
 (BQ _ _ _ N _ _ a b O.gap (O.four ha) (O.four hb) ha hb w).mono (by rintro e w' ⟨v,rfl,hb,hF⟩;exact⟨_,rfl,hb,hF.nv⟩)
theorem GW(O:Ord N)(a b:Nat)(ha:a<N)(hb:b<N):Gives 114 #[(nv a),(nv b)] (nv (sPl N a b)):=by
 intro w;go_enter Tryz.func114,Tryz.ntmps114;refine RG.M.enter [(0,.v (nv a)),(1,.v (nv b))] 12 kR ?_;intro a0 M0;repeat refine wp_seq ?_
 refine M0.T [.m 0,.m 1,.m 2] [(0,wn a),(1,wn b),(2,RG.z 4)] [] [wn a,wn b,RG.z 4] [2,3,4] ⟨RG.mk 0 43,RG.mk 1 43,RG.mk 2 43,trivial⟩ ?_;intro j1 i1 m1 a1 w1 M1;repeat refine wp_seq ?_
 refine M1.D [.c gv1,.s (.p 0 0),.x (nv a),.s (.p 1 0),.x (nv b),.c (nv (sPl N a b)),.x (nv (sPl N a b)),.u 2] [] [(2,7,wn (sPl N a b))] [wn a,wn b,wn (sPl N a b)] [4] ⟨RG.cl fJ,RG.st,RG.ld u38 i38,RG.st,RG.ld u38 i38,RG.cl (Kc O ha hb),RG.st,RG.pt i40,trivial⟩ ?_;intro a2 w2 M2;refine wp_ret ?_;refine bodyPost_ret (v:=(nv (sPl N a b))) (RG.aE M2.st 4 43 rfl 2 _ rfl (M2.at (s:=(.p 2 0))) u40 i40) M2.sl.defers ?_;exact⟨_,rfl,M2.st.bel.below,rfl⟩
def oZ(N:Nat)(bs:Bs):Nat:=beV bs.toList%N
def O6(v:Value)(n:Nat):List RG.It:=[.c 3 [] gv1,.x 4 [] v,.c 5 [(3,0),(4,1)] (nv n),.x 6 [(5,2)] (nv n),.u [(6,3)] 0]
theorem Fe(O:Ord N)(g:Nat)(bs:Bs)(hs:bs.size=64)(w:World)(hg:g<w.heap.size)(hB:Holds encB w g 0 bs):Calls prog 162 #[.slice (some (aZ g)) 64 64] w (rZ w λe w'=>e=nv (oZ N bs)):=by
 have hc:∀w',RG.BelX w.heap.size [] w w'->Calls prog 178 #[gv1,.slice (some (aZ g)) 64 64] w' (Ret λe w''=>Below w'.heap.size w' w''/\e=nv (oZ N bs)):=λw' hb =>
  (BR _ _ _ N g 0 64 64 bs O.gap w' hs (Se _) (Si hg hb.below.size) (Holds.below hB hb.below hg)).mono (by rintro e w'' ⟨v,rfl,hb,hF⟩;exact⟨_,rfl,hb,hF.nv⟩)
 go_enter Tryz.func162,Tryz.ntmps162;refine RG.M.enter [(0,.v (.slice (some (aZ g)) 64 64))] 7 kR ?_;intro a0 M0;repeat refine wp_seq ?_
 refine M0.T [.m 0] [(0,RG.z 4)] [] [RG.z 4] [0,2] ⟨RG.mk 0 43,trivial⟩ ?_;intro j1 a1 w1 M1;repeat refine wp_seq ?_
 refine M1.t (O6 (.slice (some (aZ g)) 64 64) (oZ N bs)) [] [(0,4,wn (oZ N bs))] [wn (oZ N bs)] [(2,.p 0 0)] ⟨RG.cl fJ,RG.st,RG.clB (λ_ _=>kR) hc,RG.st,RG.pt i40,trivial⟩ ?_;intro a2 w2 M2;refine wp_ret ?_;refine bodyPost_ret (v:=(nv (oZ N bs))) (RG.aE M2.st 2 43 rfl 0 _ rfl (M2.at (s:=(.p 0 0))) u40 i40) M2.sl.defers ?_;exact⟨_,rfl,M2.st.bel.below,rfl⟩
theorem tK(O:Ord N)(bs:Bs):oZ N bs<N:=Ug _ O.pos
theorem aD(w:World)(c:List Value)(T:TypeId):Row (w.alloc (.cells c.toArray T)) w.heap.size c:=
 have h:=RG.Made.alloc w c T
 ⟨h.lt,h.range,h.there⟩
theorem dE(n:Nat):(wn n).toArray.all (·.oneCell')=true:=kR
end
section
open Go.RowKit Go.Sort Go.Deep
section
variable {P:Program}{ops:Array Oper}{rest:List Oper}{op:Oper}{a:Act}{w w':World}{v:Value}{Q:Exit->Act->World->Prop}
theorem bG(hgd:op.guard=none)(X:Op)(_:op.op=X)(hr:(execOp a.eval op).run P w=.ok (.value v) w')(h:wpList P ops Q rest (a.put op.dst v) w'):wpList P ops Q (op :: rest) a w:=
 wpList_plain hgd λK hK=>by
  unfold Oper.wp;rw[hr];exact hK _ _ h
end
variable {N:Nat}
theorem Row.only{W W':World}{k b o n:Nat}{vs:List Value}(h:Row W k vs)(hO:SP.Only b o n W W')(hne:k≠b):Row W' k vs:=by
 refine⟨Si h.1 hO.size,λj v hj=>?_,λj hj=>?_⟩
 ·rw[(hO.other (c:=k) (o:=0+j) hne h.1).1];exact h.2.1 j v hj
 ·have h1:=h.2.2 j hj;have h2:=hO.other (c:=k) (o:=0+j) hne h.1;exact⟨by rw[h2.1];exact h1.1,by rw[h2.2];exact h1.2⟩
theorem bR{w W:World}{y o n k:Nat}{vs:List Value}(h:SP.Only y o n w W)(hy:y<w.heap.size)(hk:w.heap.size<=k)(q:Nat):SP.Only y o n w (W.setCells k q vs):=
 have hb:=RG.below_setCells hk _ _ _ (SE _ _)
 ⟨hb.os.trans h.os,hb.tape.trans h.tape,hb.output.trans h.output,SD h.size hb.size,λj hj hne=>(hb.block j hj).trans (h.block j hj hne),λp hp=>(SR (a:=⟨y,p,none⟩) (hb.block y hy)).trans (h.cell p hp),λp=>(Uf (a:=⟨y,p,none⟩) (hb.block y hy)).trans (h.froz p)⟩
theorem Hid.mk'{p:Prop}(h:p):Hid p:=h
theorem u124:(prog.underlying 51).map (·.isRow)=some true:=kR
theorem i124:(prog.info? 51).map (·.size)=some 1:=kR
theorem E9(label:ByteArray)(w:World)(hlab:label.size<=1048576):Calls prog 74 #[.string label] w (rZ w λe w'=>∃r,e=.agg #[pZ r]/\w.heap.size<=r/\r<w'.heap.size/\Holds encB w' r 0 (SP.newL label.data.toList)):=by
 obtain⟨L,hL⟩:=hE (SP.newL label.data.toList);have hLs:L.size=32:=by rw[<-hL.out];exact SP.rM _
 rw[hL.out];obtain⟨w1,hw1⟩:∃w1,Hid (w.alloc (.cells #[.pointer none] 51)=w1):=⟨_,rfl⟩
 have K1:Hid (Row w1 w.heap.size [.pointer none]/\Below w.heap.size w w1):=by rw[<-hw1.out];exact⟨aD w _ _,aB w _⟩
 go_enter Tryz.func74,Tryz.ntmps74;go_wp2_with fail
 rw[hw1.out];clear hw1;refine(SP.Dy label w1 hlab).mono ?_;rintro e w2 ⟨rfl,hb2,hH2⟩;rw[hL.out]at hH2;have hlt:w1.heap.size<w2.heap.size:=Holds.lt hH2 oM;obtain⟨r,hr⟩:∃r,Hid (w1.heap.size=r):=⟨_,rfl⟩
 rw[hr.out]at hH2 hlt⊢;have hle:w.heap.size<r:=by rw[<-hr.out];exact K1.1.1
 have K2:Hid (Row w2 w.heap.size [.pointer none]/\Below w.heap.size w w2/\Holds encB w2 r 0 L):=⟨K1.1.below hb2,K1.2.trans (hb2.mono K1.2.size),hH2⟩
 clear hb2 hH2 K1 hr;obtain⟨w5,hw5⟩:∃w5,Hid (w2.setCells w.heap.size 0 [pZ r]=w5):=⟨_,rfl⟩
 have K5:Hid (Row w5 w.heap.size [pZ r]/\Below w.heap.size w w5/\Holds encB w5 r 0 L/\r<w5.heap.size):=by
  rw[<-hw5.out];refine⟨K2.1.put rfl,RG.below_setCells (Se _) _ _ _ K2.2.1,λj hj=>?_,by rw[RG.setCells_size];exact hlt⟩;have h:=K2.2.2 j hj;have e:=RG.aS w.heap.size [pZ r] 0 w2 r oM;rw[SR (a:=⟨r,0+j,none⟩) e,Uf (a:=⟨r,0+j,none⟩) e];exact h
 go_wp2_with (refine bG (v:=.agg #[pZ r]) (w':=w2) rfl (.build 51 _) rfl ?_ ?_;kernel_rfl;refine Hid.out ?_)
 show wpList _ _ _ _ _ _;refine wpList_store_mid rfl 51 _ _ rfl w.heap.size 0 #[pZ r] ?_ ?_ ?_ ?_ ?_ ?_
 ·kernel_rfl
 ·kernel_rfl
 ·exact K2.1.2.2
 ·exact i124
 ·kernel_rfl
 rw[show(#[pZ r]).toList=[pZ r] from rfl,hw5.out];go_wp2;refine bodyPost_ret (aP 2 51 rfl K5.1 rfl u124 i124) rfl ?_;exact⟨_,rfl,K5.2.1,r,rfl,oM,K5.2.2.2,K5.2.2.1⟩
def cha(N:Nat)(L:Bs):Nat:=oZ N (SP.tC L [99,104,97,108,108,101,110,103,101] 64)
end
namespace SP
open Go.RowKit Go.Sort Go.Deep
attribute [local go_sem] dA dV dQ nO
theorem fE(a b:Int)(n:Nat)(w:World)(ha:0<=a/\a<=1000)(hb:0<=b/\b<=1000)(h:a%5+5*(b%5)=(n:Int)):
 Calls prog 190 #[iZ a,iZ b] w λe w'=>e=.returned (iZ n)/\w'=w:=by
 obtain⟨a1,a2⟩:=ha;obtain⟨b1,b2⟩:=hb;rw[<-h];clear h;go_enter Tryz.func190,Tryz.ntmps190;go_wp2;go_ret;exact⟨rfl,rfl⟩
theorem Bg(x:BitVec 64)(k:Nat)(w:World)(hk:k<64):
 Calls prog 191 #[Go.Value.int .u64 (u x),Go.Value.int .i64 k] w λe w'=>e=.returned (Go.Value.int .u64 (u (rol x k)))/\∃n,w'=w.drewN n:=by
 have h1:(0:Int)<=64-(k:Int):=oM;have h2:(64:Int)-(k:Int)<=64:=oM;have h3:(k:Int)<=64:=oM;have h4:TA.wrap (64-(k:Int))=64-(k:Int):=Tv _ oM;have h5:((64:Int)-(k:Int)).toNat=64-k:=oM;have s1:=xR x k;have s2:=DU x (64-k);go_enter Tryz.func191,Tryz.ntmps191;go_wp2;go_quiet (fail);go_wp2;go_ret;refine⟨ret_int ?_,_,rfl⟩;rfl
theorem LS(t:Nat)(w:World)(ht:t<=1000):
 Calls prog 192 #[iZ t] w λe w'=>e=.returned (uZ (u (LU t)))/\w'=w:=by
 go_enter Tryz.func192,Tryz.ntmps192;go_wp2
 go_loop [3,4] (λs3 s4=>∃(i q:Nat),i<=t/\s4=iZ i/\s3=iZ q/\q<256/\Hid (AL i=q)) (λ_ s4=>t-(intOf s4).toNat)
 case atStart=>exact⟨0,1,oM,rfl,rfl,dC,rfl⟩
 case round =>
  obtain⟨i,q,hi,rfl,rfl,hq,HE⟩:=hrel;by_cases hlt:i<t
  ·have a2:=Hd q hq;rw[Int.mul_comm]at a2;have hlt2:=uL q hq;have HC:Hid (AL (i+1)=lM q):=by show lM (AL i)=_;rw[HE.out]
   by_cases h255:255<2*q
   ·have HR:Hid (lM q=2*q ^^^ 369):=if_pos h255;rw[HR.out]at hlt2;generalize 2*q ^^^ 369=q2 at *;go_wp2
    go_round
    case rel=>exact⟨i+1,q2,oM,by go_num,rfl,hlt2,by rw[HC.out,HR.out];rfl⟩
    case measure=>simp[intOf];omega
   ·have HR:Hid (lM q=2*q):=if_neg h255;go_wp2
    go_round
    case rel=>exact⟨i+1,2*q,oM,by go_num,by go_num,oM,by rw[HC.out,HR.out];rfl⟩
    case measure=>simp[intOf];omega
  ·have a1:=He q hq;have hit:i=t:=oM;subst hit;go_wp2;go_ret;unfold LU;rw[HE.out];exact⟨rfl,rfl⟩
end SP
namespace SP
open Go.RowKit Go.Sort Go.Deep
attribute [local go_sem] dA dV dQ nO
theorem Cx(j:Nat)(hj:j<7):min (Ta.wrap (Ta.wrap ((2:Int)^j)-1)).toNat 64=2^j-1:=by
 have H:∀j:Fin 7,min (Ta.wrap (Ta.wrap ((2:Int)^j.val)-1)).toNat 64=2^j.val-1:=dK;exact H ⟨j,hj⟩
theorem Ad(r:Nat)(w:World)(hr:r<24):
 Calls prog 183 #[iZ r] w λe w'=>e=.returned (uZ (u (Dg r)))/\w'=w:=by
 go_enter Tryz.func183,Tryz.ntmps183;go_wp2
 go_loop [3,4] (λs3 s4=>∃(j:Nat) (c:BitVec 64),j<=7/\s4=iZ j/\s3=uZ (u c)/\Hid (BA r j=c)) (λ_ s4=>7-(intOf s4).toNat)
 case atStart=>exact⟨0,0,oM,rfl,rfl,rfl⟩
 case round =>
  obtain⟨j,c,hj,rfl,rfl,HE⟩:=hrel;by_cases hlt:j<7
  ·have hj6:(j:Int)<=6:=oM;go_wp2_with fail
   rw[show(j:Int)+7*(r:Int)=((j+7*r:Nat):Int) from by omega];refine(LS (j+7*r) _ oM).mono ?_;rintro e w' ⟨rfl,rfl⟩;go_wp2
   go_round
   case rel =>
    refine⟨j+1,BA r (j+1),oM,by go_num,?_,rfl⟩;rw[Cx j hlt,xR,dQ];show _=uZ (u (BA r j ||| LU (j+7*r) <<< (2^j-1)));rw[HE.out]
   case measure=>simp[intOf];omega
  ·have hj6:¬(j:Int)<=6:=oM;have hj7:j=7:=oM;subst hj7;go_wp2;go_ret;unfold Dg;rw[HE.out];exact⟨rfl,rfl⟩
theorem J9:prog.underlying 239=some (.slice 3):=kR
theorem info3:(prog.info? 3).map (λi=>(i.zero,i.size,i.bytes))=some (some (iZ 0),1,8):=kR
theorem OR{w:World}{b off:Nat}{d:Array Nat}(h:Holds encI w b off d)(i:Nat)(hi:i<d.size){x:Nat}(hx:d[i]! = x):
 w.cell? ⟨b,off+i,none⟩=some (iZ x)/\w.frozen? ⟨b,off+i,none⟩=false:=by
 rw[<-hx];exact h i hi
theorem offs_int'(t:Nat)(h:t<24):(wrap64 ((wrap64 (((t:Int)+1)*((t:Int)+2))).tdiv 2)).tmod 64=(uX t:Int):=by
 have H:∀j:Fin 24,(wrap64 ((wrap64 (((j.val:Int)+1)*((j.val:Int)+2))).tdiv 2)).tmod 64=(uX j.val:Int):=dK;exact H ⟨t,h⟩
theorem A6(w:World):
 Calls prog 181 #[] w λe w'=>e=.returned (.slice (some ⟨w.heap.size,0,none⟩) 25 25)/\Below w.heap.size w w'/\Holds encI w' w.heap.size 0 cU:=by
 have hmk:∀w:World,(Uc 239 (iZ 25) (iZ 25)).run prog w=.ok (.slice (some ⟨w.heap.size,0,none⟩) 25 25) (w.alloc (.cells (madeCells #[iZ 0] 25) 3)):=
  run_make_row' (P:=prog) 239 3 (iZ 0) 8 J9 info3 rfl .i64 .i64 25 oM oM
 go_enter Tryz.func181,Tryz.ntmps181;go_wp2;generalize hW1:(w.alloc _)=W1;go_loopg [2,3,4] 24 (λg sx sy st wr=>∃t T,t+g=24/\st=iZ (t:Nat)/\sx=iZ (T.x:Nat)/\sy=iZ (T.y:Nat)/\Holds encI wr w.heap.size 0 T.o/\Only w.heap.size 0 25 W1 wr/\Hid (T=jT t))
 case atStart =>
  refine⟨0,jT 0,rfl,rfl,rfl,rfl,?_,Only.refl _ _ _ _,rfl⟩;rw[<-hW1];exact Holds.made (enc:=encI) w 3 25 0
 case round =>
  obtain⟨t,⟨x,y,o⟩,ht,rfl,rfl,rfl,hD,hO,HE⟩:=hrel;have hok:=Lc t;rw[<-HE.out]at hok;obtain⟨hx,hy,hs⟩:=hok;dsimp only at hx hy hs hD;by_cases hlt:t<24
  ·obtain⟨i,hi⟩:∃i,x%5+5*(y%5)=i:=⟨_,rfl⟩
   obtain⟨c,f⟩:=hD i oM;rw[Sj]at c f;have Hi:=mk1 (hi);go_wp2_with fail
   refine(fE (x:Int) (y:Int) i _ oM oM (by have:=Hi.out;omega)).mono ?_;rintro e w' ⟨rfl,rfl⟩;have hoff:=offs_int' t hlt;go_wp2;go_roundg (gk-1)
   case measure=>omega
   case rel =>
    refine⟨t+1,⟨y,(2*x+3*y)%5,o.setIfInBounds i (uX t)⟩,oM,by go_num,rfl,by go_num,?_,?_,?_⟩
    ·have:=Holds.set hD (i:=i) oM (uX t);rw[Sj]at this;exact this
    ·exact hO.setCell (o:=i) oM oM _
    ·show _=(Of.mk (jT t).y ((2*(jT t).x+3*(jT t).y)%5) ((jT t).o.setIfInBounds ((jT t).x%5+5*((jT t).y%5)) (uX t)));rw[<-HE.out];dsimp only;rw[Hi.out]
  ·have ht24:t=24:=oM;subst ht24;go_wp2;go_ret;refine⟨rfl,?_,?_⟩
   ·rw[<-hW1]at hO;exact hO.fresh
   ·unfold cU;rw[<-HE.out];exact hD
end SP
namespace SP
open Go.RowKit Go.Sort Go.Deep
attribute [local go_sem] dA dV dQ oC nO
theorem zB:prog.underlying 238=some (.slice 39):=kR
theorem CW:(prog.info? 39).map (λi=>(i.zero,i.size,i.bytes))=some (some (uZ 0),1,8):=kR
theorem Fa(ab tb:Nat)(a:St)(tn:Array Nat)(c:BitVec 64)(w:World)(ha:a.size=25)(ht:tn.size=25)(hA:Holds enc w ab 0 a)(hT:Holds encI w tb 0 tn)(h64:∀i,i<25->tn[i]! < 64):
 Calls prog 182 #[.slice (some ⟨ab,0,none⟩) 25 25,.slice (some ⟨tb,0,none⟩) 25 25,Go.Value.int .u64 (u c)] w λe w'=>∃r,e=.returned (.slice (some ⟨r,0,none⟩) 25 25)/\w.heap.size<=r/\Below w.heap.size w w'/\Holds enc w' r 0 (eR a tn c):=by
 have hab:=Holds.lt hA oM;have htb:=Holds.lt hT oM;have hmk5:∀w:World,(Uc 238 (Go.Value.int .i64 5) (Go.Value.int .i64 5)).run prog w=.ok (.slice (some ⟨w.heap.size,0,none⟩) 5 5) (w.alloc (.cells (madeCells #[Go.Value.int .u64 0] 5) 39)):=
  run_make_row' (P:=prog) 238 39 (Go.Value.int .u64 0) 8 zB CW rfl .i64 .i64 5 oM oM
 have hmk25:∀w:World,(Uc 238 (Go.Value.int .i64 25) (Go.Value.int .i64 25)).run prog w=.ok (.slice (some ⟨w.heap.size,0,none⟩) 25 25) (w.alloc (.cells (madeCells #[Go.Value.int .u64 0] 25) 39)):=
  run_make_row' (P:=prog) 238 39 (Go.Value.int .u64 0) 8 zB CW rfl .i64 .i64 25 oM oM
 have HM25:Hid _:=hmk25;clear hmk25;go_enter Tryz.func182,Tryz.ntmps182;go_wp2;clear hmk5;have hC1:Holds enc (w.alloc (.cells (madeCells #[Go.Value.int .u64 0] 5) 39)) w.heap.size 0 (mM a 0):=Holds.made (enc:=enc) w 39 5 0;have hb1:Below w.heap.size w (w.alloc (.cells (madeCells #[Go.Value.int .u64 0] 5) 39)):=(SE _ _).alloc (Se _) _;generalize hW1:(w.alloc _)=W1 at hC1 hb1⊢;have hs1:w.heap.size<W1.heap.size:=by rw[<-hW1];simp
 have hA1:=Holds.below hA hb1 hab;have hT1:=Holds.below hT hb1 htb;clear hW1;go_loopg [8] 5 (λg s8 wr=>∃(x:Nat) (ck:St),x+g=5/\s8=Go.Value.int .i64 x/\Holds enc wr w.heap.size 0 ck/\Only w.heap.size 0 5 W1 wr/\Hid (ck=mM a x))
 case atStart=>exact⟨0,_,rfl,rfl,hC1,Only.refl _ _ _ _,rfl⟩
 case round =>
  obtain⟨x,ck,hx,rfl,hC,hO,HE⟩:=hrel;have hcs:ck.size=5:=by rw[HE.out,Di]
  by_cases hlt:x<5
  ·have l5:(x:Int)<5:=oM;go_wp2;go_loopg [9] 5 (λg s9 wq=>∃(y:Nat) (cy:St),y+g=5/\s9=Go.Value.int .i64 y/\Holds enc wq w.heap.size 0 cy/\Only w.heap.size 0 5 W1 wq/\Hid (cy=wB a x ck y))
   case atStart=>exact⟨0,ck,rfl,rfl,hC,hO,rfl⟩
   case round =>
    obtain⟨y,cy,hy,rfl,hCy,hOy,HEy⟩:=hrel;have hcys:cy.size=5:=by rw[HEy.out,wA,hcs]
    by_cases hlty:y<5
    ·have hAy:=Holds.other hA1 hOy oM oM;obtain⟨z,hz⟩:∃z,a[x+5*y]! = z:=⟨_,rfl⟩
     obtain⟨v,hv⟩:∃z,cy[x]! = z:=⟨_,rfl⟩
     obtain⟨c0,f0⟩:=aR hAy (x+5*y) oM hz;obtain⟨c1,f1⟩:=aR hCy x oM hv;rw[Sj]at c0 c1 f1;have HZ:Hid (a[x+5*y]! = z):=hz;have HV:Hid (cy[x]! = v):=hv;obtain⟨i,hi⟩:∃i,x+5*y=i:=⟨_,rfl⟩
     rw[hi]at c0;have Hi:Hid (x+5*y=i):=hi;have i25:i<25:=oM;have i25':(i:Int)<25:=oM;have y5:(y:Int)<5:=oM;clear hz hv hi f0;go_wp2_with fail
     refine wp_region_still_tail 14 mixed kR ?_;simp only[Yr,Wq,Yu,Zp];repeat still_step
     still_call (fE (x:Int) (y:Int) i _ oM oM (by have:=Hi.out;omega))
     repeat still_step
     refine wpStill_nil ?_;go_wp2;go_roundg (gk-1)
     case measure=>omega
     case rel =>
      refine⟨y+1,bJ cy x z,oM,by go_num,?_,?_,?_⟩
      ·have:=Holds.xor hCy (i:=x) oM HV.out z;rw[Sj]at this;exact Holds.drew this
      ·exact(hOy.setCell (o:=x) oM oM _).drew
      ·show _=bJ (wB a x ck y) x a[x+5*y]!;rw[HZ.out,HEy.out]
    ·have hy5:y=5:=oM;subst hy5;go_wp2;go_roundg (4-x)
     case measure=>omega
     case rel =>
      refine⟨x+1,cy,oM,by go_num,hCy,hOy,?_⟩;show _=wB a x (mM a x) 5;rw[HEy.out,HE.out]
  ·have hx5:x=5:=oM;subst hx5;have hb2:Below w.heap.size w wr:=hb1.trans (hO.below oM (Se _));have hs2:w.heap.size<wr.heap.size:=Si hs1 hO.size;clear hlt hx hC1 hb1 hs1 hA1 hT1 hO;have hmk:=HM25.out;go_wp2;clear hmk;have hM3:Holds enc (wr.alloc (.cells (madeCells #[Go.Value.int .u64 0] 25) 39)) wr.heap.size 0 (mH a tn ck 0):=Holds.made (enc:=enc) wr 39 25 0;have hb3':Below wr.heap.size wr (wr.alloc (.cells (madeCells #[Go.Value.int .u64 0] 25) 39)):=(SE _ _).alloc (Se _) _;generalize hW3:(wr.alloc _)=W3 at hM3 hb3'⊢;have hs3:wr.heap.size<W3.heap.size:=by rw[<-hW3];simp
   have hC3:=Holds.below hC hb3' hs2;have hb3:=hb2.trans (hb3'.mono oM);have hA3:=Holds.below hA hb3 hab;have hT3:=Holds.below hT hb3 htb;clear hW3 hb3' hb2 hC;generalize hMB:wr.heap.size=MB at *;go_loopg [11] 5 (λg s11 wr=>∃(x:Nat) (mk:St),x+g=5/\s11=Go.Value.int .i64 x/\Holds enc wr MB 0 mk/\Only MB 0 25 W3 wr/\Hid (mk=mH a tn ck x))
   case atStart=>exact⟨0,_,rfl,rfl,hM3,Only.refl _ _ _ _,rfl⟩
   case round =>
    obtain⟨x,mk,hx,rfl,hM,hO,HEx⟩:=hrel;have hms:mk.size=25:=by rw[HEx.out,CP]
    by_cases hlt:x<5
    ·have hCw:=Holds.other hC3 hO oM oM;obtain⟨y0,hy0⟩:∃z,ck[(x+4)%5]! = z:=⟨_,rfl⟩
     obtain⟨y1,hy1⟩:∃z,ck[(x+1)%5]! = z:=⟨_,rfl⟩
     obtain⟨c0,f0⟩:=aR hCw ((x+4)%5) oM hy0;obtain⟨c1,f1⟩:=aR hCw ((x+1)%5) oM hy1;rw[Sj]at c0 c1;have HD:Hid (bP ck x=y0 ^^^ rol y1 1):=by rw[<-hy0,<-hy1];rfl
     clear hy0 hy1 f0 f1;have l5:(x:Int)<5:=oM;have q1:0<=((x:Int)+4)%5:=oM;have q2:((x:Int)+4)%5<5:=oM;have q3:(((x:Int)+4)%5).toNat=(x+4)%5:=oM;have q4:0<=((x:Int)+1)%5:=oM;have q5:((x:Int)+1)%5<5:=oM;have q6:(((x:Int)+1)%5).toNat=(x+1)%5:=oM;go_wp2_with fail
     go_quiet ((go_at_call 191;exact Calls.quiet_of (Bg _ 1 _ dC)));clear c0 c1 q1 q2 q3 q4 q5 q6;go_wp2;have hM1:=Holds.drewN hM nq;have hO1:=hO.drewN nq;generalize y0 ^^^ rol y1 1=dv at *;go_loopg [13] 5 (λg s13 wq=>∃(y:Nat) (my:St),y+g=5/\s13=Go.Value.int .i64 y/\Holds enc wq MB 0 my/\Only MB 0 25 W3 wq/\Hid (my=vE a tn x dv mk y))
     case atStart=>exact⟨0,mk,rfl,rfl,hM1,hO1,rfl⟩
     case round =>
      obtain⟨y,my,hy,rfl,hMy,hOy,HEy⟩:=hrel;have hmys:my.size=25:=by rw[HEy.out,vD,hms]
      by_cases hlty:y<5
      ·have hAy:=Holds.other hA3 hOy oM oM;have hTy:=Holds.other hT3 hOy oM oM;obtain⟨z,hz⟩:∃z,a[x+5*y]! = z:=⟨_,rfl⟩
       obtain⟨tv,htv⟩:∃z,tn[x+5*y]! = z:=⟨_,rfl⟩
       obtain⟨c0,f0⟩:=aR hAy (x+5*y) oM hz;obtain⟨c1,f1⟩:=OR hTy (x+5*y) oM htv;have t64:tv<64:=by rw[<-htv];exact h64 _ oM
       obtain⟨i,hi⟩:∃i,x+5*y=i:=⟨_,rfl⟩
       obtain⟨j,hj⟩:∃j,y%5+5*((2*x+3*y)%5)=j:=⟨_,rfl⟩
       obtain⟨c2,f2⟩:=hMy j oM;rw[Sj]at c0 c1 c2 f2;rw[hi]at c0 c1;have Hi:Hid (x+5*y=i):=hi;have Hj:Hid (y%5+5*((2*x+3*y)%5)=j):=hj;have HZ:Hid (a[x+5*y]! = z):=hz;have HT:Hid (tn[x+5*y]! = tv):=htv;have i25:i<25:=oM;have j25:j<25:=oM;have i25':(i:Int)<25:=oM;have j25':(j:Int)<25:=oM;have y5:(y:Int)<5:=oM;have s1:TA.wrap (2*(x:Int))=2*(x:Int):=Tv _ oM;have s2:TA.wrap (3*(y:Int))=3*(y:Int):=Tv _ oM;have s3:TA.wrap (2*(x:Int)+3*(y:Int))=2*(x:Int)+3*(y:Int):=Tv _ oM;clear hz htv hi hj f0 f1;go_wp2_with fail
       have P1:∀w,Hid (Calls prog 190 #[Go.Value.int .i64 y,Go.Value.int .i64 (2*(x:Int)+3*(y:Int))] w λe w'=>e=.returned (Go.Value.int .i64 j)/\w'=w):=λw=>fE _ _ j w oM oM (by have:=Hj.out;omega)
       have P2:∀w,Hid (Calls prog 190 #[Go.Value.int .i64 x,Go.Value.int .i64 y] w λe w'=>e=.returned (Go.Value.int .i64 i)/\w'=w):=λw=>fE _ _ i w oM oM (by have:=Hi.out;omega)
       go_region_with (first|(go_at_call_of 190 (TW TA (x:Int));refine Yy (P2 _).out ?_;rintro e w2 ⟨rfl,rfl⟩)|(go_at_call 190;refine Yy (P1 _).out ?_;rintro e w2 ⟨rfl,rfl⟩)|(go_at_call 191;refine(Bg (z ^^^ dv) tv _ t64).mono ?_;rintro e w2 ⟨rfl,n2,rfl⟩))
       all_goals
        go_wp2;go_roundg (gk-1)
        case measure=>omega
        case rel =>
         refine⟨y+1,my.setIfInBounds j (rol (z ^^^ dv) tv),oM,by go_num,?_,?_,?_⟩
         ·have:=Holds.set (Holds.drewN hMy (1+n2)) (i:=j) oM (rol (z ^^^ dv) tv);rw[Sj]at this;exact this
         ·exact(hOy.drewN (1+n2)).setCell (o:=j) oM oM _
         ·show _=(vE a tn x dv mk y).setIfInBounds (y%5+5*((2*x+3*y)%5)) (rol (a[x+5*y]! ^^^ dv) tn[x+5*y]!);rw[HZ.out,HT.out,Hj.out,HEy.out]
      ·have hy5:y=5:=oM;subst hy5;go_wp2;go_roundg (4-x)
       case measure=>omega
       case rel =>
        refine⟨x+1,my,oM,by go_num,hMy,hOy,?_⟩;show _=vE a tn x (bP ck x) (mH a tn ck x) 5;rw[HEy.out,HEx.out,HD.out]
    ·have hx5:x=5:=oM;subst hx5;have hb4:Below w.heap.size w wr:=hb3.trans (hO.below oM oM);have hs4:MB<wr.heap.size:=Si hs3 hO.size;clear hlt hx hb3 hs3 hA3 hT3 hC3 hM3 hO;have hmk:=HM25.out;go_wp2;clear hmk;have hU5:Holds enc (wr.alloc (.cells (madeCells #[Go.Value.int .u64 0] 25) 39)) wr.heap.size 0 (nK mk 0):=Holds.made (enc:=enc) wr 39 25 0;have hb5':Below wr.heap.size wr (wr.alloc (.cells (madeCells #[Go.Value.int .u64 0] 25) 39)):=(SE _ _).alloc (Se _) _;generalize hW5:(wr.alloc _)=W5 at hU5 hb5'⊢;have hs5:wr.heap.size<W5.heap.size:=by rw[<-hW5];simp
     have hM5:=Holds.below hM hb5' hs4;have hb5:=hb4.trans (hb5'.mono oM);clear hW5 hb5' hb4 hM;generalize hOB:wr.heap.size=OB at *;go_loopg [15] 5 (λg s15 wr=>∃(x:Nat) (ok:St),x+g=5/\s15=Go.Value.int .i64 x/\Holds enc wr OB 0 ok/\Only OB 0 25 W5 wr/\Hid (ok=nK mk x))
     case atStart=>exact⟨0,_,rfl,rfl,hU5,Only.refl _ _ _ _,rfl⟩
     case round =>
      obtain⟨x,ok,hx,rfl,hU,hO,HEu⟩:=hrel;have hus:ok.size=25:=by rw[HEu.out,uR]
      by_cases hlt:x<5
      ·have l5:(x:Int)<5:=oM;go_wp2;go_loopg [16] 5 (λg s16 wq=>∃(y:Nat) (oy:St),y+g=5/\s16=Go.Value.int .i64 y/\Holds enc wq OB 0 oy/\Only OB 0 25 W5 wq/\Hid (oy=uU mk x ok y))
       case atStart=>exact⟨0,ok,rfl,rfl,hU,hO,rfl⟩
       case round =>
        obtain⟨y,oy,hy,rfl,hUy,hOy,HEy⟩:=hrel;have hoys:oy.size=25:=by rw[HEy.out,uS,hus]
        by_cases hlty:y<5
        ·have hMy:=Holds.other hM5 hOy oM oM;obtain⟨i0,hi0⟩:∃i,x+5*y=i:=⟨_,rfl⟩
         obtain⟨i1,hi1⟩:∃i,(x+1)%5+5*y=i:=⟨_,rfl⟩
         obtain⟨i2,hi2⟩:∃i,(x+2)%5+5*y=i:=⟨_,rfl⟩
         obtain⟨z0,hz0⟩:∃z,mk[i0]! = z:=⟨_,rfl⟩
         obtain⟨z1,hz1⟩:∃z,mk[i1]! = z:=⟨_,rfl⟩
         obtain⟨z2,hz2⟩:∃z,mk[i2]! = z:=⟨_,rfl⟩
         obtain⟨c0,f0⟩:=aR hMy i0 oM hz0;obtain⟨c1,f1⟩:=aR hMy i1 oM hz1;obtain⟨c2,f2⟩:=aR hMy i2 oM hz2;obtain⟨c3,f3⟩:=hUy i0 oM;rw[Sj]at c0 c1 c2 c3 f3;have H0:Hid (x+5*y=i0):=hi0;have H1:Hid ((x+1)%5+5*y=i1):=hi1;have H2:Hid ((x+2)%5+5*y=i2):=hi2;have HV:Hid (mk[x+5*y]! ^^^ (~~~mk[(x+1)%5+5*y]! &&& mk[(x+2)%5+5*y]!)=z0 ^^^ (~~~z1 &&& z2)):=by
          show _=_;rw[hi0,hi1,hi2,hz0,hz1,hz2]
         have b0:i0<25:=oM;have b0':(i0:Int)<25:=oM;have b1':(i1:Int)<25:=oM;have b2':(i2:Int)<25:=oM;have y5:(y:Int)<5:=oM;have s1:TA.wrap ((x:Int)+1)=(x:Int)+1:=Tv _ oM;have s2:TA.wrap ((x:Int)+2)=(x:Int)+2:=Tv _ oM;clear hz0 hz1 hz2 hi0 hi1 hi2 f0 f1 f2;go_wp2_with fail
         refine wp_region_still_tail 28 mixed kR ?_;simp only[Yr,Wq,Yu,Zp];repeat still_step
         still_call (fE (x:Int) (y:Int) i0 _ oM oM (by have:=H0.out;omega))
         repeat still_step
         still_call (fE (x:Int) (y:Int) i0 _ oM oM (by have:=H0.out;omega))
         repeat still_step
         still_call (fE ((x:Int)+1) (y:Int) i1 _ oM oM (by have:=H1.out;omega))
         repeat still_step
         still_call (fE ((x:Int)+2) (y:Int) i2 _ oM oM (by have:=H2.out;omega))
         repeat still_step
         refine wpStill_nil ?_;go_wp2;go_roundg (gk-1)
         case measure=>omega
         case rel =>
          refine⟨y+1,oy.setIfInBounds i0 (z0 ^^^ (~~~z1 &&& z2)),oM,by go_num,?_,?_,?_⟩
          ·have:=Holds.set hUy (i:=i0) oM (z0 ^^^ (~~~z1 &&& z2));rw[Sj]at this;exact Holds.drew this
          ·exact(hOy.setCell (o:=i0) oM oM _).drew
          ·show _=(uU mk x ok y).setIfInBounds (x+5*y) (mk[x+5*y]! ^^^ (~~~mk[(x+1)%5+5*y]! &&& mk[(x+2)%5+5*y]!));rw[HV.out,H0.out,HEy.out]
        ·have hy5:y=5:=oM;subst hy5;go_wp2;go_roundg (4-x)
         case measure=>omega
         case rel =>
          refine⟨x+1,oy,oM,by go_num,hUy,hOy,?_⟩;show _=uU mk x (nK mk x) 5;rw[HEy.out,HEu.out]
      ·have hx5:x=5:=oM;subst hx5;obtain⟨z,hz⟩:∃z,ok[0]! = z:=⟨_,rfl⟩
       obtain⟨c0,f0⟩:=aR hU 0 oM hz;rw[Sj]at c0 f0;have HZ:Hid (ok[0]! = z):=hz;clear hz;go_wp2;go_ret;refine⟨OB,rfl,oM,?_,?_⟩
       ·exact(hb5.trans (hO.below oM oM)).setCell (p:=⟨OB,0,none⟩) (by show _<=OB;omega) _
       ·have e:eR a tn c=bJ ok 0 c:=by unfold eR;rw[HEu.out,HEx.out,HE.out]
        rw[e];exact Holds.xor (i:=0) hU oM HZ.out c
end SP
namespace SP
open Go.RowKit Go.Sort Go.Deep
attribute [local go_sem] dA dV dQ oC nO yT Mq
theorem lZ(s:ByteArray)(w:World)(hs:s.size=200):
 Calls prog 176 #[.string s] w λe w'=>e=.returned (.string ⟨kD s.data⟩)/\Below w.heap.size w w':=by
 have hmk25:∀w:World,(Uc 238 (Go.Value.int .i64 25) (Go.Value.int .i64 25)).run prog w=.ok (.slice (some ⟨w.heap.size,0,none⟩) 25 25) (w.alloc (.cells (madeCells #[Go.Value.int .u64 0] 25) 39)):=
  run_make_row' (P:=prog) 238 39 (Go.Value.int .u64 0) 8 zB CW rfl .i64 .i64 25 oM oM
 have hmk200:∀w:World,(Uc 23 (Go.Value.int .i64 200) (Go.Value.int .i64 200)).run prog w=.ok (.slice (some ⟨w.heap.size,0,none⟩) 200 200) (w.alloc (.cells (madeCells #[.int .u8 0] 200) 5)):=
  run_make_row' (P:=prog) 23 5 (.int .u8 0) 1 slice22 info5 rfl .i64 .i64 200 oM oM
 have HM200:Hid _:=hmk200;clear hmk200;go_enter Tryz.func176,Tryz.ntmps176;go_wp2;clear hmk25;have hA1:Holds enc (w.alloc (.cells (madeCells #[Go.Value.int .u64 0] 25) 39)) w.heap.size 0 (nW s.data 0):=Holds.made (enc:=enc) w 39 25 0;have hb1:Below w.heap.size w (w.alloc (.cells (madeCells #[Go.Value.int .u64 0] 25) 39)):=(SE _ _).alloc (Se _) _;generalize hW1:(w.alloc _)=W1 at hA1 hb1⊢;have hs1:w.heap.size<W1.heap.size:=by rw[<-hW1];simp
 clear hW1;go_loopg [4] 200 (λg s4 wr=>∃(i:Nat) (dk:St),i+g=200/\s4=Go.Value.int .i64 i/\Holds enc wr w.heap.size 0 dk/\Only w.heap.size 0 25 W1 wr/\Hid (dk=nW s.data i))
 case atStart=>exact⟨0,_,rfl,rfl,hA1,Only.refl _ _ _ _,rfl⟩
 case round =>
  obtain⟨i,dk,hi,rfl,hD,hO,HE⟩:=hrel;have hds:dk.size=25:=by rw[HE.out,kE]
  by_cases hlt:i<200
  ·obtain⟨x,hx⟩:∃x,dk[i/8]! = x:=⟨_,rfl⟩
   obtain⟨c0,f0⟩:=aR hD (i/8) oM hx;rw[Sj]at c0 f0;have HX:Hid (dk[i/8]! = x):=hx;clear hx;have l200:(i:Int)<200:=oM;have p0:0<=(i:Int)/8:=oM;have p1:(i:Int)/8<25:=oM;have p2:((i:Int)/8).toNat=i/8:=oM;have s1:TA.wrap ((i:Int)/8)=(i:Int)/8:=Tv _ oM;have s2:TA.wrap (8*((i:Int)%8))=8*((i:Int)%8):=Tv _ oM;have s3:0<=8*((i:Int)%8):=oM;have s4:8*((i:Int)%8)<=64:=oM;have s5:(8*((i:Int)%8)).toNat=8*(i%8):=oM;have his:(i:Int)<(s.size:Int):=oM;have his':i<s.size:=oM;have tm:(i:Int).tmod 8=(i:Int)%8:=V5 oM;obtain⟨y,hy⟩:∃y,wide s.data[i]! = y:=⟨_,rfl⟩
   have hsb:Ta.wrap (s[i].toNat:Int)=u y:=by
    have e:s.data[i]! = s[i]:=getElem!_pos s.data i his';rw[<-hy,e];exact yT s[i]
   have HY:Hid (wide s.data[i]! = y):=hy;clear hy;have sh:=xR y (8*(i%8));go_wp2_with fail
   go_still_tail 18,mixed;go_wp2;go_roundg (gk-1)
   case measure=>omega
   case rel =>
    refine⟨i+1,dk.setIfInBounds (i/8) (x ||| y <<< (8*(i%8))),oM,by go_num,?_,?_,?_⟩
    ·have:=Holds.set hD (i:=i/8) oM (x ||| y <<< (8*(i%8)));rw[Sj]at this;exact Holds.drew this
    ·exact(hO.setCell (o:=i/8) oM oM _).drew
    ·show _=(nW s.data i).setIfInBounds (i/8) ((nW s.data i)[i/8]! ||| wide s.data[i]! <<< (8*(i%8)));rw[HY.out,<-HE.out,HX.out]
  ·have hi200:i=200:=oM;subst hi200;have hb2:Below w.heap.size w wr:=hb1.trans (hO.below oM (Se _));have hs2:w.heap.size<wr.heap.size:=Si hs1 hO.size;clear hlt hi hA1 hb1 hs1 hO;go_wp2_with fail
   refine(A6 _).mono ?_;rintro e w3 ⟨rfl,hb3,hT⟩;have hD3:=Holds.below hD hb3 hs2;have hb4:=hb2.trans (hb3.mono oM);have hs3:wr.heap.size<w3.heap.size:=Holds.lt hT (by rw[lA];omega);generalize hTB:wr.heap.size=TB at *;clear hb2 hb3 hD;go_wp2;go_loopg [3,6] 24 (λg s3 s6 wr=>∃(k ab:Nat) (dk:St),k+g=24/\s6=Go.Value.int .i64 k/\s3=.slice (some ⟨ab,0,none⟩) 25 25/\Holds enc wr ab 0 dk/\w.heap.size<=ab/\Holds encI wr TB 0 cU/\Below w.heap.size w wr/\Hid (dk=AM (nW s.data 200) k))
   case atStart=>exact⟨0,w.heap.size,dk,rfl,rfl,rfl,hD3,Se _,hT,hb4,HE⟩
   case round =>
    clear hT hb4 hD3 HE hds dk;obtain⟨k,ab,dk,hk,rfl,rfl,hD,hab,hT,hb,HE⟩:=hrel;have hds:dk.size=25:=by
     rw[HE.out];cases k with
     | zero=>exact kE _ _
     | succ k=>exact wZ _ _ _
    by_cases hlt:k<24
    ·have l24:(k:Int)<24:=oM;go_wp2_with fail
     refine(Ad k _ hlt).mono ?_;rintro e w4 ⟨rfl,rfl⟩;go_wp2_with fail
     refine(Fa ab TB dk cU (Dg k) _ hds lA hD hT CL).mono ?_;rintro e w5 ⟨r,rfl,hr,hb5,hR⟩;have hTl:=Holds.lt hT (by rw[lA];omega);have hsz:=hb.size;go_wp2;go_roundg (gk-1)
     case measure=>omega
     case rel =>
      refine⟨k+1,r,eR dk cU (Dg k),oM,by go_num,rfl,hR,oM,Holds.below hT hb5 hTl,hb.trans (hb5.mono oM),?_⟩;rw[HE.out];rfl
    ·have hk24:k=24:=oM;subst hk24;have hmk:=HM200.out;go_wp2;clear hmk;have hsz:=hb.size;have hal:=Holds.lt hD oM;have hF1:Holds encB (wr.alloc (.cells (madeCells #[.int .u8 0] 200) 5)) wr.heap.size 0 (eI dk 200 0):=Holds.made (enc:=encB) wr 5 200 0;have hb6:Below wr.heap.size wr (wr.alloc (.cells (madeCells #[.int .u8 0] 200) 5)):=(SE _ _).alloc (Se _) _;generalize hW6:(wr.alloc _)=W6 at hF1 hb6⊢;have hs6:wr.heap.size<W6.heap.size:=by rw[<-hW6];simp
     have hD6:=Holds.below hD hb6 hal;have hb7:=hb.trans (hb6.mono hsz);clear hW6 hb6 hb hD hT;generalize hFB:wr.heap.size=FB at *;go_loopg [8] 200 (λg s8 wr=>∃(i:Nat) (bs:Bs),i+g=200/\s8=Go.Value.int .i64 i/\Holds encB wr FB 0 bs/\Only FB 0 200 W6 wr/\Hid (bs=eI dk 200 i))
     case atStart=>exact⟨0,_,rfl,rfl,hF1,Only.refl _ _ _ _,rfl⟩
     case round =>
      obtain⟨i,bs,hi,rfl,hB,hO,HEb⟩:=hrel;have hbs:bs.size=200:=by rw[HEb.out,iI]
      by_cases hlt:i<200
      ·have hDw:=Holds.other hD6 hO oM oM;obtain⟨x,hx⟩:∃x,dk[i/8]! = x:=⟨_,rfl⟩
       obtain⟨c0,f0⟩:=aR hDw (i/8) oM hx;obtain⟨c1,f1⟩:=hB i oM;rw[Sj]at c0 c1 f1;have HX:Hid (byteOf dk i=low (x >>> (8*(i%8)))):=by show low _=_;rw[hx]
       clear hx f0;have p1:(i:Int)/8<25:=oM;have l200:(i:Int)<200:=oM;have hsr:=DU x (8*(i%8));go_wp2;go_roundg (gk-1)
       case measure=>omega
       case rel =>
        refine⟨i+1,bs.setIfInBounds i (low (x >>> (8*(i%8)))),oM,by go_num,?_,?_,?_⟩
        ·have:=Holds.set hB (i:=i) oM (low (x >>> (8*(i%8))));rw[Sj]at this;exact this
        ·exact hO.setCell (o:=i) oM oM _
        ·show _=(eI dk 200 i).setIfInBounds i (byteOf dk i);rw[HX.out,HEb.out]
      ·have hi200:i=200:=oM;subst hi200;have kc:=conv_str prog 23 9 5 slice22 int5 str9 wr FB 0 200 200 bs hB hbs;go_wp2;go_ret;have e1:bs=kD s.data:=by rw[HEb.out,HE.out];exact Fc s.data
       rw[e1];exact⟨rfl,hb7.trans (hO.below oM oM)⟩
end SP
namespace SP
open Go.RowKit Go.Sort Go.Deep
attribute [local go_sem] yJ
theorem holds_one(w:World)(x:UInt8):Holds encB (w.alloc (.cells #[.int .u8 (ub x)] 5)) w.heap.size 0 #[x]:=by
 have h:=Holds.new (enc:=encB) w 5 #[x];have e:Array.map encB #[x]=#[.int .u8 (ub x)]:=by simp[encB]
 rw[e]at h;exact h
def rG(l:List UInt8)(e:UInt8)(k:Nat):List UInt8:=l++e :: List.replicate k 0
theorem sN(l:List UInt8)(e:UInt8)(k:Nat):(rG l e k).length=l.length+1+k:=by
 unfold rG;rw[Su,Tc,Uk];omega
theorem Fq(l:List UInt8)(e:UInt8)(k:Nat):rG l e k++[0]=rG l e (k+1):=by
 unfold rG;rw[WR,Xn,List.replicate_succ']
theorem CB(l:List UInt8)(e:UInt8):(rG l e (135-l.length%136)).set (l.length+(135-l.length%136)) ((rG l e (135-l.length%136))[l.length+(135-l.length%136)]! ^^^ 128)=total l e:=by
 unfold rG total gR;rw[List.set_append_right _ _ oM,VH,nM _ _ _ oM (by rw[Tc,Uk];omega),VH]
theorem Bc(l:List UInt8)(i j:Nat)(x:UInt8)(hj:j<l.length):(l.set i x)[j]! = if i=j then x else l[j]!:=by
 rw[getElem!_pos (l.set i x) j (by rw[List.length_set];exact hj),List.getElem_set,getElem!_pos l j hj]
theorem Gy(l:List UInt8)(e:UInt8)(cur:Bs)(L k:Nat)(hk:k=135-l.length%136)(hL:L=l.length+1+k)(hc:L<=cur.size)(hT:∀j,j<L->cur[j]! = (rG l e k)[j]!):
 ∀j,j<L->(cur.setIfInBounds (L-1) (cur[L-1]! ^^^ 128))[j]! = (total l e)[j]!:=by
 intro j hj;have hpl:=sN l e k;rw[<-CB,<-hk,Bc _ _ _ _ oM,show l.length+k=L-1 by omega];by_cases h:j=L-1
 ·rw[if_pos h.symm,h,getElem!_set_same _ _ _ oM,hT _ oM]
 ·rw[if_neg oM,getElem!_set_other _ _ _ _ h,hT _ hj]
theorem zA(o:ByteArray)(d:St)(n m:Nat)(ho:o.size=136*m)(hnm:n<=136*m)(h:∀j,j<136*m->o.data[j]! = dH d j):o.extract 0 n=⟨fU d n⟩:=by
 apply ByteArray.ext;have hd:(o.extract 0 n).data=o.data.extract 0 n:=Z0;have hs:o.data.size=136*m:=ho;rw[hd];refine Ai _ _ n (by rw[Uo,hs];omega) (fQ _ _) (λj hj=>?_);have h1:j<(o.data.extract 0 n).size:=by rw[Uo,hs];omega
 have h2:j<o.data.size:=oM;have h3:=h j oM;rw[getElem!_pos o.data j h2]at h3;rw[nQ _ _ _ hj,<-h3,getElem!_pos (o.data.extract 0 n) j h1,Yh];simp only[Sj]
theorem H8(o:ByteArray)(d:St)(m:Nat)(p:Bs)(hp:p.size=136)(hpa:∀j,j<136->p[j]! = byteOf (dT d m) j)(ho:o.size=136*m)(h:∀j,j<136*m->o.data[j]! = dH d j):
 (o++⟨p⟩).size=136*(m+1)/\∀j,j<136*(m+1)->(o++(⟨p⟩:ByteArray)).data[j]! = dH d j:=by
 have hd:(o++(⟨p⟩:ByteArray)).data=o.data++p:=Xs;have hs:o.data.size=136*m:=ho;refine⟨?_,λj hj=>?_⟩
 ·show(o++(⟨p⟩:ByteArray)).data.size=_;rw[hd,Tw,hp,hs];omega
 ·rw[hd];by_cases h1:j<136*m
  ·have h2:j<o.data.size:=oM;have h3:=h j h1;rw[getElem!_pos o.data j h2]at h3;rw[app_front _ _ j h2,h3]
  ·rw[app_back _ _ j oM oM,hs,hpa _ oM];unfold dH;rw[show j/136=m by omega,show j%136=j-136*m by omega]
theorem EB(w:World)(p:Bs)(h:p.size=200):
 ∃sc w',(convert 9 23 (.string ⟨p⟩)).run prog w=.ok (.slice (some ⟨w.heap.size,0,none⟩) 200 sc) w'/\200<=sc/\Holds encB w' w.heap.size 0 p/\Below w.heap.size w w':=by
 obtain⟨v,w',hcv,own,hb,hv⟩:=lH (w:=w) (B:=0) ⟨p⟩ (Us _);have hps:(Wx p).size=200:=h;rw[hv]at hcv own;rw[hps]at hcv own;obtain⟨_,_,hle,hH⟩:=own.holds;exact⟨_,_,hcv,oM,by simpa using hH,hb⟩
theorem Br(d:St):Yz (front d 136)<=Yz (front d 200)/\∀j,j<(front d 136).size->(front d 136)[j]! = (front d 200)[j]!:=by
 refine⟨by rw[aQ,aQ];omega,λj hj=>?_⟩;rw[aQ]at hj;rw[iV _ _ _ hj,iV _ _ _ oM]
theorem nJ(s:ByteArray)(e:UInt8)(n:Nat)(w:World)(hs:s.size<=1048576)(hn:n<=16384):
 Calls prog 156 #[.string s,.int .u8 (ub e),Go.Value.int .i64 n] w λr w'=>r=.returned (.string ⟨fU (i7 s.data.toList e) n⟩)/\Below w.heap.size w w':=by
 obtain⟨v0,w0,hcv,own0,hb0,hv0⟩:=lH (w:=w) (B:=w.heap.size) s (Se _);rw[hv0]at hcv own0;have hsz0:w.heap.size<=w0.heap.size:=hb0.size;have hX:=holds_one w0 e;have hbx:Below w0.heap.size w0 (w0.alloc (.cells #[.int .u8 (ub e)] 5)):=(SE _ _).alloc (Se _) _;have hl:s.data.toList.length=s.size:=Sx;obtain⟨v1,w1,hap,own1,hb1⟩:=wU (c:=1) (own0.below hbx) hX (by rw[Sq];omega) (by rw[hl];simp;omega) 1 rfl;have hbb1:Below w.heap.size w w1:=(hb0.trans (hbx.mono hsz0)).trans hb1;have own1':Own w.heap.size w1 v1 (rG s.data.toList e 0):=own1;clear hv0 own0 hX own1 hb1 hbx;have hmk200:∀w:World,(Uc 23 (Go.Value.int .i64 200) (Go.Value.int .i64 200)).run prog w=.ok (.slice (some ⟨w.heap.size,0,none⟩) 200 200) (w.alloc (.cells (madeCells #[.int .u8 0] 200) 5)):=
  run_make_row' (P:=prog) 23 5 (.int .u8 0) 1 slice22 info5 rfl .i64 .i64 200 oM oM
 have HM200:Hid _:=hmk200;clear hmk200;go_enter Tryz.func156,Tryz.ntmps156;go_wp2_with (at_builtin;refine UD _ rfl _ _ 23 23 rfl _ _ rfl rfl _ _ hap ?_)
 clear hap hcv hb0;obtain⟨h,hh⟩:∃h,s.data.toList.length%136=h:=⟨_,rfl⟩
 have h136:h<136:=by rw[<-hh];exact Ug _ dC
 have Hh:Hid (s.data.toList.length%136=h):=hh;clear hh;go_loopg [7] (135-h) (λg s7 wr=>∃k,k+g=135-h/\Own w.heap.size wr s7 (rG s.data.toList e k)/\Below w.heap.size w wr)
 case atStart=>exact⟨0,oM,own1',hbb1⟩
 case round =>
  clear own1' hbb1;obtain⟨k,hk,own,hb⟩:=hrel;have own':=own;obtain⟨g,cap,cur,rfl,hg,hgl,hcs,hlc,hH,hT⟩:=own';have hL:=sN s.data.toList e k;generalize hLL:(rG s.data.toList e k).length=L at *;have hL':L=s.size+1+k:=by rw[hL,hl]
  have HL':Hid (L=s.size+1+k):=hL';have hLb:L<=1048900:=oM;have hL0:1<=L:=oM;have tm:(L:Int).tmod 136=(L:Int)%136:=V5 oM;by_cases hlt:k<135-h
  ·have hb2:((L:Int)%136 != 0)=true:=by rw[bne_iff_ne];have:=Hh.out;rw[hl]at this;omega
   have hX:=holds_one wr 0;have hbx:Below wr.heap.size wr (wr.alloc (.cells #[.int .u8 (ub 0)] 5)):=(SE _ _).alloc (Se _) _;obtain⟨v2,w2,hap,own2,hbb⟩:=wU (c:=1) (own.below hbx) hX (by rw[Sq];have:=hb.size;omega) (by rw[hLL];simp;omega) 1 rfl;have own3:Own w.heap.size w2 v2 (rG s.data.toList e (k+1)):=by rw[<-Fq];exact own2
   have hb3:Below w.heap.size w w2:=(hb.trans (hbx.mono hb.size)).trans hbb;go_wp2_with (at_builtin;refine UD _ rfl _ _ 23 23 rfl _ _ rfl rfl _ _ hap ?_)
   go_roundg (gk-1)
   case measure=>omega
   case rel=>exact⟨k+1,oM,own3,hb3⟩
  ·have hb2:((L:Int)%136 != 0)=false:=by
    rw[bne_eq_false_iff_eq];have:=Hh.out;rw[hl]at this;omega
   have hk0:k=135-s.data.toList.length%136:=by have:=Hh.out;omega
   obtain⟨x,hx⟩:∃x,cur[L-1]! = x:=⟨_,rfl⟩
   obtain⟨c0,f0⟩:=qL hH (L-1) oM hx;rw[Sj]at c0 f0;have hx80:=Mg x;have hTot:=Gy s.data.toList e cur L k hk0 hL oM hT;rw[hx]at hTot;have hH2:=Holds.set hH (i:=L-1) oM (x ^^^ 128);rw[Sj]at hH2;have htl:(total s.data.toList e).length=L:=by rw[oK];omega
   have hTA:Holds encB (wr.setCell ⟨g,L-1,none⟩ (.int .u8 (ub (x ^^^ 128)))) g 0 (total s.data.toList e).toArray:=
    Holds.front hH2 (by rw[Array.size_setIfInBounds,Tf,htl];omega) (λj hj=>by rw[mI];exact(hTot j (by simpa[htl]using hj)).symm)
   have hb4:Below w.heap.size w (wr.setCell ⟨g,L-1,none⟩ (.int .u8 (ub (x ^^^ 128)))):=hb.setCell (p:=⟨g,L-1,none⟩) hg _;have hg4:g<(wr.setCell ⟨g,L-1,none⟩ (.int .u8 (ub (x ^^^ 128)))).heap.size:=by rw[Yv];exact hgl
   obtain⟨M,hM⟩:∃M,s.data.toList.length/136+1=M:=⟨_,rfl⟩
   have hLM:L=136*M:=by have:=Hh.out;omega
   have HLM:=mk1 (hLM);have HM:=mk1 (hM);have hmk:=HM200.out;clear hM hLM hTot hH2 hH hT hx hL hL' hLL own hk0;go_wp2;clear hmk c0 f0 hb2 tm hx80;have hW2:(wr.setCell ⟨g,L-1,none⟩ (.int .u8 (ub (x ^^^ 128)))).heap.size=wr.heap.size:=by rw[Yv]
   generalize wr.setCell ⟨g,L-1,none⟩ (.int .u8 (ub (x ^^^ 128)))=W2 at hTA hb4 hg4 hW2⊢;have hS0:Holds encB (W2.alloc (.cells (madeCells #[.int .u8 0] 200) 5)) W2.heap.size 0 (jH (total s.data.toList e) 0):=Holds.made (enc:=encB) W2 5 200 0;have hb5':Below W2.heap.size W2 (W2.alloc (.cells (madeCells #[.int .u8 0] 200) 5)):=(SE _ _).alloc (Se _) _;have hs5:W2.heap.size<(W2.alloc (.cells (madeCells #[.int .u8 0] 200) 5)).heap.size:=by simp
   have hTA5:=Holds.below hTA hb5' hg4;have hb5:=hb4.trans (hb5'.mono hb4.size);have hz4:=hb4.size;rw[hW2]at hS0 hs5 hg4 hz4;generalize hSG:wr.heap.size=SG at *;generalize (W2.alloc _)=W3 at hS0 hb5 hs5 hTA5⊢;clear hTA hb4 hb5' hSG hW2;go_loopg [8,9] M (λg2 s8 s9 wr=>∃(i sg sc:Nat),i+g2=M/\s9=Go.Value.int .i64 ((136*i:Nat):Int)/\s8=.slice (some ⟨sg,0,none⟩) 200 sc/\200<=sc/\w.heap.size<=sg/\sg≠g/\Holds encB wr sg 0 (jH (total s.data.toList e) i)/\Holds encB wr g 0 (total s.data.toList e).toArray/\Below w.heap.size w wr)
   case atStart=>exact⟨0,SG,200,oM,rfl,rfl,Se _,oM,oM,hS0,hTA5,hb5⟩
   case round =>
    obtain⟨i,sg,sc,hi,rfl,rfl,hsc,hsg,hne,hS,hTA,hb⟩:=hrel;have hrs:(jH (total s.data.toList e) i).size=200:=by
     cases i with
     | zero=>rw[jH,SB]
     | succ i=>rw[jH,kD,aQ]
    have hgz:=Holds.lt hTA (by rw[Tf,htl];omega);by_cases hlt:i<M
    ·have hlt':((136*i:Nat):Int)<(L:Int):=by have:=HLM.out;omega
     have hii:136*i+136<=L:=by have:=HLM.out;omega
     generalize hI:136*i=I at *;have HI:Hid (136*i=I):=hI;go_wp2;have hD0:Holds encB wr sg 0 (oH (jH (total s.data.toList e) i) (total s.data.toList e) I 0):=hS;generalize hR:jH (total s.data.toList e) i=R at *;have HR:Hid (R=jH (total s.data.toList e) i):=hR.symm;go_loopg [10] 136 (λg3 s10 wq=>∃(k:Nat) (st:Bs),k+g3=136/\s10=Go.Value.int .i64 k/\Holds encB wq sg 0 st/\Only sg 0 200 wr wq/\Hid (st=oH R (total s.data.toList e) I k))
     case atStart=>exact⟨0,_,rfl,rfl,hD0,Only.refl _ _ _ _,rfl⟩
     case round =>
      obtain⟨k,st,hk,rfl,hSt,hO,HE⟩:=hrel;have hsts:st.size=200:=by rw[HE.out,xI];exact hrs
      have hTq:=Holds.other hTA hO (Ne.symm hne) (by rw[Tf,htl];omega);by_cases hltk:k<136
      ·obtain⟨y,hy⟩:∃y,(total s.data.toList e)[I+k]! = y:=⟨_,rfl⟩
       obtain⟨c0,f0⟩:=qL (x:=y) hTq (I+k) (by rw[Tf,htl];omega) (by rw[mI];exact hy);obtain⟨z,hz⟩:∃z,st[k]! = z:=⟨_,rfl⟩
       obtain⟨c1,f1⟩:=qL hSt k oM hz;rw[Sj]at c0 c1 f1;have HY:=mk1 (hy);have HZ:Hid (st[k]! = z):=hz;have k136:(k:Int)<136:=oM;have k200:(k:Int)<200:=oM;have ik0:(0:Int)<=(I:Int)+(k:Int):=oM;have ik1:(I:Int)+(k:Int)<(L:Int):=oM;have ik2:((I:Int)+(k:Int)).toNat=I+k:=oM;have ik3:TA.wrap ((I:Int)+(k:Int))=(I:Int)+(k:Int):=Tv _ oM;clear hy hz f0 hTq;go_wp2_with fail
       go_still_tail 14,mixed;go_wp2;go_roundg (gk-1)
       case measure=>omega
       case rel =>
        refine⟨k+1,st.setIfInBounds k (z ^^^ y),oM,by go_num,?_,?_,?_⟩
        ·have:=Holds.set hSt (i:=k) oM (z ^^^ y);rw[Sj]at this;exact Holds.drew this
        ·exact(hO.setCell (o:=k) oM oM _).drew
        ·show _=(oH R (total s.data.toList e) I k).setIfInBounds k ((oH R (total s.data.toList e) I k)[k]! ^^^ (total s.data.toList e)[I+k]!);rw[<-HE.out,HZ.out,HY.out]
      ·have hk136:k=136:=oM;subst hk136;have hgz2:=Holds.lt hSt oM;have kc:=conv_str prog 23 9 5 slice22 int5 str9 _ sg 0 200 sc st hSt hsts;have hbq:=hb.trans (hO.below hb.size hsg);obtain⟨PB,hPB⟩:∃x,kD st=x:=⟨_,rfl⟩
       have hps:PB.size=200:=by rw[<-hPB,kD,aQ]
       have HE2:Hid (PB=jH (total s.data.toList e) (i+1)):=by
        show PB=kD (oH (jH (total s.data.toList e) i) (total s.data.toList e) (136*i) 136);rw[<-HR.out,HI.out,<-HE.out,hPB]
       have HPB:=mk1 (hPB.symm);go_wp2_with fail
       refine(lZ ⟨st⟩ _ hsts).mono ?_;rintro r w5 ⟨rfl,hb5⟩;have e5:=congrArg Wx HPB.symm;rw[e5];obtain⟨sc6,w6,hcv6,hle6,hH6,hb6⟩:=EB w5 PB hps;have hgq:=Holds.lt hTq (by rw[Tf,htl];omega);have hg5:=Si hgq hb5.size;have hT6:=Holds.below (Holds.below hTq hb5 hgq) hb6 hg5;have hb8:=(hbq.trans (hb5.mono hbq.size)).trans (hb6.mono (by have:=hb5.size;have:=hbq.size;omega));rw[HE2.out]at hH6;have hz5:w.heap.size<=w5.heap.size:=by have:=hb5.size;have:=hbq.size;omega
       go_wp2;go_roundg (M-(i+1))
       case measure=>omega
       case rel=>exact⟨i+1,w5.heap.size,sc6,oM,by rw[<-HI.out];go_num,rfl,hle6,hz5,oM,hH6,hT6,hb8⟩
    ·have hiM:i=M:=oM;have hge:(L:Int)<=((136*i:Nat):Int):=by have:=HLM.out;omega
     obtain⟨d,hd⟩:∃d,i7 s.data.toList e=d:=⟨_,rfl⟩
     obtain⟨F,hF⟩:∃F,front (dT d 0) 200=F:=⟨_,rfl⟩
     have hSf:Holds encB wr sg 0 F:=by
      have:=AN s.data.toList e;rw[HM.out,<-hiM,hd]at this;rw[this]at hS;rw[<-hF,dT];exact hS
     have hab:d.size=25:=by rw[<-hd];exact mR s.data.toList e
     have HDD:=mk1 (hd.symm);have HFF:=mk1 (hF.symm);generalize hI:136*i=I at *;have hdec2:decide (I<L)=false:=decide_eq_false oM;go_wp2;go_loopg [8,11] (n+136) (λg4 s8 s11 wq=>∃(m sg sc:Nat) (o:ByteArray) (Fm:Bs),136*m+g4=n+136/\1<=g4/\s11=.string o/\o.size=136*m/\s8=.slice (some ⟨sg,0,none⟩) 200 sc/\200<=sc/\Holds encB wq sg 0 Fm/\Fm.size=200/\Below w.heap.size w wq/\Hid (Fm=front (dT d m) 200)/\Hid (∀j,j<136*m->o.data[j]! = dH d j))
     case atStart=>exact⟨0,sg,sc,Ya,F,oM,oM,rfl,rfl,rfl,hsc,hSf,by rw[HFF.out,aQ],hb,HFF,λj hj=>oM⟩
     case round =>
      obtain⟨m,sg,sc,o,Fm,hg4,hg41,rfl,ho,rfl,hsc,hF,hFs,hb,HF,HO⟩:=hrel;have Ho:=mk1 (ho);by_cases hlt:o.size<n
      ·have hlt':(o.size:Int)<(n:Int):=oM;obtain⟨Q,hQ⟩:∃Q,front (dT d m) 136=Q:=⟨_,rfl⟩
       have hQs:Q.size=136:=by rw[<-hQ,aQ]
       have hQa:∀j,j<136->Q[j]! = byteOf (dT d m) j:=λj hj=>by rw[<-hQ,iV _ _ _ hj]
       have hHQ:Holds encB wr sg 0 Q:=by
        have h1:=Br (dT d m);rw[<-HF.out,hQ]at h1;exact Holds.front hF h1.1 h1.2
       have hnx:=H8 o d m Q hQs hQa ho HO;have HNX:=mk1 (hnx);obtain⟨PB,hPB⟩:∃x,kD Fm=x:=⟨_,rfl⟩
       have hps:PB.size=200:=by rw[<-hPB,kD,aQ]
       have HN:Hid (PB=front (dT d (m+1)) 200):=by
        show PB=front (perm (dT d m)) 200;rw[<-hPB,HF.out,AZ _ (cY d hab m)]
       have HPB:=mk1 (hPB.symm);have kc1:=conv_str prog 23 9 5 slice22 int5 str9 wr sg 0 136 sc Q hHQ hQs;have kc2:=conv_str prog 23 9 5 slice22 int5 str9 wr sg 0 200 sc Fm hF hFs;clear hQ hQa hHQ hnx hPB HO ho;go_wp2_with fail
       refine(lZ ⟨Fm⟩ _ hFs).mono ?_;rintro r w5 ⟨rfl,hb5⟩;have e5:=congrArg Wx HPB.symm;rw[e5];clear e5;obtain⟨sc6,w6,hcv6,hle6,hH6,hb6⟩:=EB w5 PB hps;have hb8:Below w.heap.size w w6:=(hb.trans (hb5.mono hb.size)).trans (hb6.mono (by have:=hb5.size;have:=hb.size;omega));go_wp2;go_roundg (gk-136)
       case measure=>have:=Ho.out;omega
       case rel=>exact⟨m+1,w5.heap.size,sc6,o++(Wx Q),PB,by have:=Ho.out;omega,by have:=Ho.out;omega,rfl,HNX.1,rfl,hle6,hH6,hps,hb8,HN,HNX.2⟩
      ·have hge:(n:Int)<=(o.size:Int):=oM;have hex:=zA o d n m ho oM HO;have HEX:Hid (o.extract 0 n=⟨fU d n⟩):=hex;clear hex ho HO;go_wp2;go_ret;rw[<-HDD.out,<-HEX.out];exact⟨rfl,hb⟩
end SP
namespace SP
open Go.RowKit Go.Sort Go.Deep
theorem AO(s:ByteArray)(w:World)(hs:s.size<=1048576):
 Calls prog 129 #[.string s] w λr w'=>r=.returned (.string ⟨yD s.data.toList⟩)/\Below w.heap.size w w':=by
 go_enter Tryz.func129,Tryz.ntmps129;go_wp2_with fail
 refine(nJ s 6 32 _ hs dC).mono ?_;rintro r w1 ⟨rfl,hb⟩;rw[<-Bn];go_wp2;go_ret;exact⟨rfl,hb⟩
theorem wY(s:ByteArray)(n:Nat)(w:World)(hs:s.size<=1048576)(hn:n<=16384):
 Calls prog 157 #[.string s,iZ n] w λr w'=>r=.returned (.string ⟨uB s.data.toList n⟩)/\Below w.heap.size w w':=by
 go_enter Tryz.func157,Tryz.ntmps157;go_wp2_with fail
 refine(nJ s 31 n _ hs hn).mono ?_;rintro r w1 ⟨rfl,hb⟩;go_wp2;go_ret;exact⟨rfl,hb⟩
theorem uH(label:ByteArray)(pa:Option Addr)(pcap:Nat)(ps:List ByteArray)(w:World)(hlab:label.size<=1048576)(hpl:ps.length<=1048576)
 (hP:ps.length=0\/∃pb po,pa=some ⟨pb,po,none⟩/\∀j,j<ps.length->w.cell? ⟨pb,po+j,none⟩=some (.string ps[j]!)) (hsz:∀j,j<ps.length->(ps[j]!).size<=1048576)
 (htot:(bO label.data.toList (ps.map λs=>s.data.toList)).length<=1048576) :
 Calls prog 87 #[.string label,.slice pa ps.length pcap] w λe w'=>e=.returned (.string ⟨i9 label.data.toList (ps.map λs=>s.data.toList)⟩)/\Below w.heap.size w w':=by
 obtain⟨n,hn⟩:∃n,ps.length=n:=⟨_,rfl⟩
 rw[hn];have Hn:Hid (ps.length=n):=hn;go_enter Tryz.func87,Tryz.ntmps87;go_wp2_with fail
 refine(yQ label _ hlab).mono ?_;rintro e w1 ⟨o1,rfl,ho1,hb1⟩;go_wp2;go_loopg [5,6] n (λg s5 s6 wr=>∃(k:Nat) (o:ByteArray),k+g=n/\s6=iZ k/\s5=.string o/\Below w.heap.size w wr/\Hid (o.data.toList=bO label.data.toList ((ps.map λs=>s.data.toList).take k)))
 case atStart =>
  refine⟨0,o1,oM,rfl,rfl,hb1,?_⟩;rw[Wq];unfold bO;rw[YW,U7];exact ho1
 case round =>
  obtain⟨k,o,hk,rfl,rfl,hb,HE⟩:=hrel;by_cases hlt:k<n
  ·obtain⟨pb,po,rfl,hPj⟩:∃pb po,pa=some ⟨pb,po,none⟩/\∀j,j<ps.length->w.cell? ⟨pb,po+j,none⟩=some (.string ps[j]!):=by
    rcases hP with h|h
    ·have:=Hn.out;omega
    ·exact h
   have hvc:=hPj k (by have:=Hn.out;omega);have hszk:=hsz k (by have:=Hn.out;omega);obtain⟨s,hs⟩:∃s,ps[k]! = s:=⟨_,rfl⟩
   rw[hs]at hvc hszk;have HS:=mk1 (hs.symm);have hvc':wr.cell? ⟨pb,po+k,none⟩=some (.string s):=by rw[hb.cell (p:=⟨pb,po+k,none⟩) (TV _ _ hvc)];exact hvc
   have l1:(k:Int)<(n:Int):=oM;clear hs hvc hPj;go_wp2_with fail
   refine(yQ s _ hszk).mono ?_;rintro e w2 ⟨o2,rfl,ho2,hb2⟩;have HO2:=mk1 (ho2);have hos:o.size<=1048576:=by
    have h1:o.data.toList.length=o.size:=Sx;rw[HE.out]at h1;have:=zW label.data.toList (ps.map λs=>s.data.toList) k;omega
   have ho2s:o2.size<=1048580:=by
    have h1:o2.data.toList.length=o2.size:=Sx;have h2:s.data.toList.length=s.size:=Sx;rw[ho2,gV]at h1;omega
   go_wp2;go_roundg (gk-1)
   case measure=>omega
   case rel =>
    refine⟨k+1,o++o2,oM,by go_num,rfl,hb.trans (hb2.mono hb.size),?_⟩;have hkl:k<(ps.map λs=>s.data.toList).length:=by rw[SO];have:=Hn.out;omega
    have hkl2:k<ps.length:=by have:=Hn.out;omega
    rw[lR _ k hkl,qC,Xs,Wy,HE.out,HO2.out,getElem!_pos (ps.map λs=>s.data.toList) k hkl,UM,HS.out,getElem!_pos ps k hkl2];rfl
  ·have l1:(n:Int)<=(k:Int):=oM;have HE2:Hid (o.data.toList=bO label.data.toList (ps.map λs=>s.data.toList)):=by
    have e1:(ps.map λs=>s.data.toList).take k=ps.map λs=>s.data.toList:=Wo (by rw[SO];have:=Hn.out;omega)
    rw[e1]at HE;exact HE
   have hos:o.size<=1048576:=by
    have h1:o.data.toList.length=o.size:=Sx;rw[HE2.out]at h1;omega
   go_wp2_with fail
   refine(AO o _ hos).mono ?_;rintro e w3 ⟨rfl,hb3⟩;rw[HE2.out];go_wp2;go_ret;exact⟨rfl,hb.trans (hb3.mono hb.size)⟩
def RLog(w:World)(y:Nat)(L:Bs):Prop:=w.cell? ⟨y,0,none⟩=some (.string ⟨L⟩)/\w.frozen? ⟨y,0,none⟩=false
theorem GF(W:World)(vs:Array Value)(ps:List ByteArray)(t:TypeId)(hl:vs.size=ps.length)(h:∀j,j<ps.length->vs[j]! = .string ps[j]!):
 ∀j,j<ps.length->(W.alloc (.cells vs t)).cell? ⟨W.heap.size,0+j,none⟩=some (.string ps[j]!):=by
 intro j hj;have e0:vs.map encV=vs:=by
  have:encV=id:=rfl;rw[this,Yc]
 have:=(Holds.new (enc:=encV) W t vs j oM).1;rw[e0,h j hj]at this;exact this
theorem zV(label:List UInt8)(ps:List (List UInt8))(M:Nat)(hl:label.length<=M)(hp:∀p∈ps,p.length<=M):(bO label ps).length<=(ps.length+1)*(M+4):=by
 unfold bO;rw[Su,gV];have:(ps.flatMap gJ).length<=ps.length*(M+4):=by
  induction ps with
  | nil=>simp
  | cons p ps ih =>
   rw[List.flatMap_cons,Su,gV,Tc,ZI];have h1:=hp p (List.mem_cons_self ..);have h2:=ih (λq hq=>hp q (List.mem_cons_of_mem _ hq));omega
 rw[ZI];omega
theorem nT(lab:ByteArray)(vs:Array Value)(ps:List ByteArray)(n:Nat)(W:World)(hn:ps.length=n)(hv:vs.size=ps.length)(h:∀j,j<ps.length->vs[j]! = .string ps[j]!)(hlab:lab.size<=16384)(h64:n<=8)(hs:∀p∈ps,p.size<=16384):
 Calls prog 87 #[.string lab,.slice (some ⟨W.heap.size,0,none⟩) n n] (W.alloc (.cells vs 9)) λe w'=>e=.returned (.string ⟨i9 lab.data.toList (ps.map λs=>s.data.toList)⟩)/\Below (W.alloc (.cells vs 9)).heap.size (W.alloc (.cells vs 9)) w':=by
 subst hn;refine uH lab (some ⟨W.heap.size,0,none⟩) ps.length ps (W.alloc (.cells vs 9)) oM oM (SJ ⟨W.heap.size,0,rfl,GF W vs ps 9 hv h⟩) (λj hj=>?_) ?_
 ·rw[getElem!_pos ps j hj];have:=hs _ (List.getElem_mem hj);omega
 ·have:=zV lab.data.toList (ps.map λs=>s.data.toList) 16384 (by rw[Sx];exact hlab) (λp hp=>by
   obtain⟨s,h1,rfl⟩:=Tq.1 hp;rw[Sx];exact hs s h1)
  rw[SO]at this;omega
theorem G7(w:World)(t:TypeId)(N:Bs):RLog (w.alloc (.cells #[.string ⟨N⟩] t)) w.heap.size N:=by
 have:=Holds.new (enc:=encV) w t #[.string ⟨N⟩] 0 (by simp);have e0:(#[Zy ⟨N⟩]).map encV=#[Zy ⟨N⟩]:=by
  have:encV=id:=rfl;rw[this,Yc]
 rw[e0]at this;exact⟨this.1,this.2⟩
theorem Ck(label:ByteArray)(w:World)(hlab:label.size<=16384):
 Calls prog 55 #[.string label] w λe w'=>∃y,e=.returned (pZ y)/\w.heap.size<=y/\Below w.heap.size w w'/\RLog w' y (newL label.data.toList):=by
 have hT:=nT ⟨#[108,111,103]⟩ #[.string label] [label] 1 w rfl rfl (λj hj=>by
  have hj0:j=0:=by simpa using hj
  subst hj0;rfl) dC dC (λp hp=>by
  have:p=label:=by simpa using hp
  rw[this];exact hlab)
 go_enter Tryz.func55,Tryz.ntmps55;go_wp2_with fail
 refine hT.mono ?_;rintro e w2 ⟨rfl,hb2⟩;have hN:i9 (⟨#[108,111,103]⟩:ByteArray).data.toList ([label].map λs=>s.data.toList)=newL label.data.toList:=rfl;rw[hN];obtain⟨N,hNe⟩:∃N,newL label.data.toList=N:=⟨_,rfl⟩
 rw[hNe];have HN:=mk1 (hNe.symm);have hb2':=((SE _ _).alloc (Se _) _).trans (hb2.mono (by simp));have hs2:=hb2'.size;go_wp2;go_ret;rw[<-HN.out];exact⟨w2.heap.size,rfl,oM,hb2'.alloc oM _,G7 _ _ _⟩
theorem RLog.lt{w:World}{y:Nat}{L:Bs}(h:RLog w y L):y<w.heap.size:=TV _ _ h.1
theorem RLog.below{w w1:World}{y:Nat}{L:Bs}(h:RLog w y L)(k:Below w.heap.size w w1):RLog w1 y L:=by
 have h2:=(Only.of_below (b:=w.heap.size) (off:=0) (n:=0) (B:=w.heap.size) k rfl)
 have hy:=h.lt;have e:=k.block y hy;unfold RLog World.cell? World.frozen? at *;simp only at *;rw[e];exact h
theorem RLog.set{w:World}{y:Nat}{L:Bs}(h:RLog w y L)(M:Bs):RLog (w.setCell (aZ y) (.string ⟨M⟩)) y M:=by
 have h1:Holds encV w y 0 #[.string ⟨L⟩]:=by
  intro j hj;have hj0:j=0:=by simpa using hj
  subst hj0;exact⟨h.1,h.2⟩
 have:=Holds.set h1 (i:=0) (by simp) (.string ⟨M⟩);have h2:=this 0 (by simp);simp only[Ur]at h2;exact⟨by simpa[encV]using h2.1,h2.2⟩
theorem kU(y:Nat)(L:Bs)(label text:ByteArray)(w:World)(hlab:label.size<=16384)(ht:text.size<=16384)(hl:L.size=32)(hL:RLog w y L):
 Calls prog 47 #[pZ y,.string label,.string text] w λe w'=>e=.returned (.tuple #[])/\Only y 0 1 w w'/\RLog w' y (jY L label.data.toList text.data.toList):=by
 have hy:=hL.lt;have hT:=nT ⟨#[115,97,121]⟩ #[.string ⟨L⟩,.string label,.string text] [⟨L⟩,label,text] 3 w rfl rfl (λj hj=>by
  have hj3:j<3:=hj;match j,hj3 with
  | 0,_=>rfl
  | 1,_=>rfl
  | 2,_=>rfl) dC dC (λp hp=>by
  simp only[TP,SL,or_false]at hp;rcases hp with rfl|rfl|rfl
  ·show L.size<=16384;omega
  ·exact hlab
  ·exact ht)
 obtain⟨N,hNe⟩:∃N,jY L label.data.toList text.data.toList=N:=⟨_,rfl⟩
 have hT':Calls prog 87 #[.string ⟨#[115,97,121]⟩,.slice (some ⟨w.heap.size,0,none⟩) 3 3] (w.alloc (.cells #[.string ⟨L⟩,.string label,.string text] 9)) λe w'=>e=.returned (.string ⟨N⟩)/\Below (w.alloc (.cells #[.string ⟨L⟩,.string label,.string text] 9)).heap.size (w.alloc (.cells #[.string ⟨L⟩,.string label,.string text] 9)) w':=by
  rw[<-hNe];exact hT
 rw[hNe];have HT:Hid (Calls prog 87 #[.string ⟨#[115,97,121]⟩,.slice (some ⟨w.heap.size,0,none⟩) 3 3] (w.alloc (.cells #[.string ⟨L⟩,.string label,.string text] 9)) λe w'=>e=.returned (.string ⟨N⟩)/\Below (w.alloc (.cells #[.string ⟨L⟩,.string label,.string text] 9)).heap.size (w.alloc (.cells #[.string ⟨L⟩,.string label,.string text] 9)) w'):=hT';have hb1:Below w.heap.size w (w.alloc (.cells #[.string ⟨L⟩,.string label,.string text] 9)):=(SE _ _).alloc (Se _) _;obtain⟨c0,f0⟩:=hL;clear hT hT' hNe;go_enter Tryz.func47,Tryz.ntmps47;go_wp2_with fail
 refine(HT.out).mono ?_;rintro e w2 ⟨rfl,hb2⟩;have hb2':Below w.heap.size w w2:=hb1.trans (hb2.mono hb1.size);have hL2:=RLog.below ⟨c0,f0⟩ hb2';have hO2:Only y 0 1 w w2:=Only.of_below hb2' rfl hy;obtain⟨c2,f2⟩:=hL2;go_wp2
 go_end0
 exact⟨rfl,hO2.setCell oM oM _,RLog.set ⟨c2,f2⟩ N⟩
theorem DY(lab:ByteArray)(hlab:lab.size<=16384)(L:Bs)(hl:L.size=32)(label:ByteArray)(hs:label.size<=16384)(w:World):
 Calls prog 87 #[.string lab,.slice (some ⟨w.heap.size,0,none⟩) 2 2] (w.alloc (.cells #[.string ⟨L⟩,.string label] 9)) λe w'=>e=.returned (.string ⟨i9 lab.data.toList [L.toList,label.data.toList]⟩)/\Below (w.alloc (.cells #[.string ⟨L⟩,.string label] 9)).heap.size (w.alloc (.cells #[.string ⟨L⟩,.string label] 9)) w':=
 nT lab #[.string ⟨L⟩,.string label] [⟨L⟩,label] 2 w rfl rfl (λj hj=>by
  have hj3:=hj;match j,hj3 with
  | 0,_=>rfl
  | 1,_=>rfl) hlab dC (λp hp=>by
  simp only[TP,SL,or_false]at hp;rcases hp with rfl|rfl
  ·show L.size<=16384;omega
  ·exact hs)
theorem Cl(y:Nat)(L:Bs)(label:ByteArray)(n:Nat)(w:World)(hlab:label.size<=16384)(hn:n<=1024)(hl:L.size=32)(hL:RLog w y L):
 Calls prog 131 #[pZ y,.string label,iZ n] w λe w'=>e=.returned (.string ⟨tC L label.data.toList n⟩)/\Only y 0 1 w w'/\RLog w' y (lJ L label.data.toList):=by
 have hy:=hL.lt;have hT:=DY ⟨#[97,115,107]⟩ dC L hl label hlab w;obtain⟨T,hTe⟩:∃T,i9 [97,115,107] [L.toList,label.data.toList]=T:=⟨_,rfl⟩
 have hTs:T.size=32:=by rw[<-hTe,eG]
 obtain⟨N,hNe⟩:∃N,lJ L label.data.toList=N:=⟨_,rfl⟩
 obtain⟨A,hAe⟩:∃A,tC L label.data.toList n=A:=⟨_,rfl⟩
 have HA:Hid (uB T.toList n=A):=by
  show _=_;rw[<-hAe,<-hTe];rfl
 have HN:Hid (i9 [97,115,107,101,100] [L.toList,label.data.toList]=N):=hNe;have HT:Hid (Calls prog 87 #[.string ⟨#[97,115,107]⟩,.slice (some ⟨w.heap.size,0,none⟩) 2 2] (w.alloc (.cells #[.string ⟨L⟩,.string label] 9)) λe w'=>e=.returned (.string ⟨T⟩)/\Below (w.alloc (.cells #[.string ⟨L⟩,.string label] 9)).heap.size (w.alloc (.cells #[.string ⟨L⟩,.string label] 9)) w'):=by
  show Calls _ _ _ _ _;rw[<-hTe];exact hT
 rw[hNe,hAe];have hb1:Below w.heap.size w (w.alloc (.cells #[.string ⟨L⟩,.string label] 9)):=(SE _ _).alloc (Se _) _;obtain⟨c0,f0⟩:=hL;clear hT hNe hAe hTe;go_enter Tryz.func131,Tryz.ntmps131;go_wp2_with fail
 refine(HT.out).mono ?_;rintro e w2 ⟨rfl,hb2⟩;have hb2':Below w.heap.size w w2:=hb1.trans (hb2.mono hb1.size);clear HT hb1 hb2;go_wp2_with fail
 refine(wY ⟨T⟩ n _ (by show T.size<=1048576;omega) oM).mono ?_;rintro e w3 ⟨rfl,hb3⟩;have hAA:uB (⟨T⟩:ByteArray).data.toList n=A:=HA.out;rw[hAA];have hb3':Below w.heap.size w w3:=hb2'.trans (hb3.mono hb2'.size);have hL3:=RLog.below ⟨c0,f0⟩ hb3';have hO3:Only y 0 1 w w3:=Only.of_below hb3' rfl hy;have hy3:=hL3.lt;obtain⟨c3,f3⟩:=hL3;have hT4:=DY ⟨#[97,115,107,101,100]⟩ dC L hl label hlab w3;have HT4:Hid (Calls prog 87 #[.string ⟨#[97,115,107,101,100]⟩,.slice (some ⟨w3.heap.size,0,none⟩) 2 2] (w3.alloc (.cells #[.string ⟨L⟩,.string label] 9)) λe w'=>e=.returned (.string ⟨N⟩)/\Below (w3.alloc (.cells #[.string ⟨L⟩,.string label] 9)).heap.size (w3.alloc (.cells #[.string ⟨L⟩,.string label] 9)) w'):=by
  show Calls _ _ _ _ _;rw[<-HN.out];exact hT4
 have hb4:Below w3.heap.size w3 (w3.alloc (.cells #[.string ⟨L⟩,.string label] 9)):=(SE _ _).alloc (Se _) _;go_wp2_with fail
 refine(HT4.out).mono ?_;rintro e w5 ⟨rfl,hb5⟩;have hb5':=hb4.trans (hb5.mono hb4.size);have hL5:=RLog.below ⟨c3,f3⟩ hb5';have hO5:=hO3.trans (Only.of_below hb5' rfl hy3);obtain⟨c5,f5⟩:=hL5;go_wp2;go_ret;exact⟨rfl,hO5.setCell oM oM _,RLog.set ⟨c5,f5⟩ N⟩
end SP
section
open Go.RowKit Go.Sort Go.Deep
variable {P:Nat}[NeZero P]{N:Nat}
theorem tO{w W:World}{k0 k1 k7 p0 p1 p2 p3 c0 c1 c2 c3 x0 x1 x2 x3 x4 x5 x6 x7:Nat}(h:Kept w k0 [⟨k0,0,p0,p1,p2,p3⟩,⟨k0,4,c0,c1,c2,c3⟩,⟨k7,0,x0,x1,x2,x3⟩,⟨k7,4,x4,x5,x6,x7⟩,⟨k1,0,0,0,0,0⟩] W):W.cell? ⟨k0,0,none⟩=some (uZ p0)/\W.cell? ⟨k0,1,none⟩=some (uZ p1)/\W.cell? ⟨k0,2,none⟩=some (uZ p2)/\W.cell? ⟨k0,3,none⟩=some (uZ p3)/\W.cell? ⟨k0,4,none⟩=some (uZ c0)/\W.cell? ⟨k0,5,none⟩=some (uZ c1)/\W.cell? ⟨k0,6,none⟩=some (uZ c2)/\W.cell? ⟨k0,7,none⟩=some (uZ c3)/\W.cell? ⟨k7,0,none⟩=some (uZ x0)/\W.cell? ⟨k7,1,none⟩=some (uZ x1)/\W.cell? ⟨k7,2,none⟩=some (uZ x2)/\W.cell? ⟨k7,3,none⟩=some (uZ x3)/\W.cell? ⟨k7,4,none⟩=some (uZ x4)/\W.cell? ⟨k7,5,none⟩=some (uZ x5)/\W.cell? ⟨k7,6,none⟩=some (uZ x6)/\W.cell? ⟨k7,7,none⟩=some (uZ x7)/\Kept w k0 [⟨k0,0,p0,p1,p2,p3⟩,⟨k0,4,c0,c1,c2,c3⟩,⟨k7,0,x0,x1,x2,x3⟩,⟨k7,4,x4,x5,x6,x7⟩,⟨k1,0,0,0,0,0⟩] W:=
 ⟨h.head.c0,h.head.c1,h.head.c2,h.head.c3,h.tail.head.c0,h.tail.head.c1,h.tail.head.c2,h.tail.head.c3,h.tail.tail.head.c0,h.tail.tail.head.c1,h.tail.tail.head.c2,h.tail.tail.head.c3,h.tail.tail.tail.head.c0,h.tail.tail.tail.head.c1,h.tail.tail.tail.head.c2,h.tail.tail.tail.head.c3,h⟩
theorem Fv{v:Value}{n B:Nat}(hF:Four v n)(hB:B<256):n*val 256 0 0 0+(val B 0 0 0+top*val 0 0 0 0)<top*top:=by
 have h1:=hF.lt;have e1:val 256 0 0 0=256:=rfl;have e2:val B 0 0 0=B:=by unfold val;omega
 have e3:val 0 0 0 0=0:=rfl;have h3:(top-1)*256+256<=top*top:=by unfold top;decide
 rw[e1,e2,e3];omega
theorem Ii(P:Nat)(s:ByteArray)(k:Nat)(hk:k<s.size):
 (beV (s.data.extract 0 k).toList%P*val 256 0 0 0+(val s[k].toNat 0 0 0+top*val 0 0 0 0))%P=beV (s.data.extract 0 (k+1)).toList%P:=by
 have e:(s.data.extract 0 (k+1)).toList=(s.data.extract 0 k).toList++[s[k]]:=by
  rw[Array.extract_succ_right oM hk,Array.toList_push];rfl
 have e1:val 256 0 0 0=256:=rfl;have e2:val s[k].toNat 0 0 0=s[k].toNat:=by unfold val;omega
 have e3:val 0 0 0 0=0:=rfl;rw[e,fA,e1,e2,e3,V8,Ur,VI,UA,YS,<-UA,<-VI];simp[beV]
theorem Hm(p0 p1 p2 p3 c0 c1 c2 c3 P:Nat)(s:ByteArray)(hR:RefP p0 p1 p2 p3 c0 c1 c2 c3 P)(hs:s.size<=1048576)(w:World):
 Calls prog 130 #[.agg #[Go.Value.int .u64 p0,Go.Value.int .u64 p1,Go.Value.int .u64 p2,Go.Value.int .u64 p3,Go.Value.int .u64 c0,Go.Value.int .u64 c1,Go.Value.int .u64 c2,Go.Value.int .u64 c3],.string s] w (Ret λe w'=>Go.RowKit.Below w.heap.size w w'/\Four e (beV s.data.toList%P)):=by
 have HR:Hid (RefP p0 p1 p2 p3 c0 c1 c2 c3 P):=hR;clear hR;go_enter Tryz.func130,Tryz.ntmps130;go_wp2;have FR:=((At8.made w 97 p0 p1 p2 p3 c0 c1 c2 c3 rfl).alloc (.cells #[Go.Value.int .u64 0,Go.Value.int .u64 0,Go.Value.int .u64 0,Go.Value.int .u64 0] 63)).alloc (.cells #[Go.Value.int .u64 0,Go.Value.int .u64 0,Go.Value.int .u64 0,Go.Value.int .u64 0] 63);have RE:=(At4.made (w.alloc (.cells #[Go.Value.int .u64 p0,Go.Value.int .u64 p1,Go.Value.int .u64 p2,Go.Value.int .u64 p3,Go.Value.int .u64 c0,Go.Value.int .u64 c1,Go.Value.int .u64 c2,Go.Value.int .u64 c3] 97)) 63 0 0 0 0 (Sq _ _)).alloc (.cells #[Go.Value.int .u64 0,Go.Value.int .u64 0,Go.Value.int .u64 0,Go.Value.int .u64 0] 63);have NN:=At4.made ((w.alloc (.cells #[Go.Value.int .u64 p0,Go.Value.int .u64 p1,Go.Value.int .u64 p2,Go.Value.int .u64 p3,Go.Value.int .u64 c0,Go.Value.int .u64 c1,Go.Value.int .u64 c2,Go.Value.int .u64 c3] 97)).alloc (.cells #[Go.Value.int .u64 0,Go.Value.int .u64 0,Go.Value.int .u64 0,Go.Value.int .u64 0] 63)) 63 0 0 0 0 (k:=w.heap.size+1+1) (by simp);have KP:=((((Kept.mk1 (below3 w (.cells #[Go.Value.int .u64 p0,Go.Value.int .u64 p1,Go.Value.int .u64 p2,Go.Value.int .u64 p3,Go.Value.int .u64 c0,Go.Value.int .u64 c1,Go.Value.int .u64 c2,Go.Value.int .u64 c3] 97) (.cells #[Go.Value.int .u64 0,Go.Value.int .u64 0,Go.Value.int .u64 0,Go.Value.int .u64 0] 63) (.cells #[Go.Value.int .u64 0,Go.Value.int .u64 0,Go.Value.int .u64 0,Go.Value.int .u64 0] 63)) (below3 w (.cells #[Go.Value.int .u64 p0,Go.Value.int .u64 p1,Go.Value.int .u64 p2,Go.Value.int .u64 p3,Go.Value.int .u64 c0,Go.Value.int .u64 c1,Go.Value.int .u64 c2,Go.Value.int .u64 c3] 97) (.cells #[Go.Value.int .u64 0,Go.Value.int .u64 0,Go.Value.int .u64 0,Go.Value.int .u64 0] 63) (.cells #[Go.Value.int .u64 0,Go.Value.int .u64 0,Go.Value.int .u64 0,Go.Value.int .u64 0] 63)).size).cons RE.blk).cons NN.blk).cons (x:=⟨w.heap.size,4,c0,c1,c2,c3⟩) ⟨FR.c4,FR.c5,FR.c6,FR.c7,FR.fz⟩).cons (x:=⟨w.heap.size,0,p0,p1,p2,p3⟩) ⟨FR.c0,FR.c1,FR.c2,FR.c3,FR.fz⟩;clear FR RE NN;generalize TI _ _=W0 at KP⊢;go_loopg [6] s.size (λgk s6 wr=>∃(k a b c d:Nat),k+gk=s.size/\s6=Go.Value.int .i64 k/\Kept w w.heap.size [⟨w.heap.size,0,p0,p1,p2,p3⟩,⟨w.heap.size,4,c0,c1,c2,c3⟩,⟨w.heap.size+1+1,0,a,b,c,d⟩,⟨w.heap.size+1,0,0,0,0,0⟩] wr /\
  Hid (Four (.agg #[Go.Value.int .u64 a,Go.Value.int .u64 b,Go.Value.int .u64 c,Go.Value.int .u64 d]) (beV (s.data.extract 0 k).toList%P)))
 case atStart =>
  refine⟨0,0,0,0,0,Sj _,rfl,KP,?_⟩;have:beV (s.data.extract 0 0).toList=0:=by simp[beV]
  rw[this,Nat.zero_mod];exact Four.mk dC dC dC dC rfl
 case round =>
  clear KP;obtain⟨k,a,b,c,d,hk,rfl,KP,HF⟩:=hrel;generalize h2:w.heap.size+1+1=k2 at KP⊢;generalize h1:w.heap.size+1=k1 at KP⊢;have H:Hid (w.heap.size+1=k1/\w.heap.size+1+1=k2):=⟨h1,h2⟩
  have Q1:Hid (w.heap.size<=k1):=by unfold Hid;omega
  have Q2:Hid (w.heap.size<=k2):=by unfold Hid;omega
  have n12:k2≠k1:=oM;have n02:k2≠w.heap.size:=oM;generalize h0:w.heap.size=k0 at KP Q1 Q2 n02⊢;have H0:Hid (w.heap.size=k0):=h0;clear h0 h1 h2;obtain⟨nc0,nc1,nc2,nc3,nf⟩:=KP.tail.tail.head.at4;have z2:=KP.tail.tail.head.lt;by_cases hlt:k<s.size
  ·have hlt':(k:Int)<(s.size:Int):=oM;go_wp2_with fail
   refine(kS _ _ _ _ HF.out (Four.mk (a:=256) (b:=0) (c:=0) (d:=0) dC dC dC dC rfl) _).mono ?_;rintro r w1 ⟨v,rfl,hb1,hE1⟩;obtain⟨x0,x1,x2,x3,x4,x5,x6,x7,rfl,hx0,hx1,hx2,hx3,hx4,hx5,hx6,hx7,hxe⟩:=id hE1;clear hxe nc0 nc1 nc2 nc3 nf z2;replace KP:=KP.call hb1;clear hb1;have A7:=At8.made w1 161 x0 x1 x2 x3 x4 x5 x6 x7 rfl;have T2:=KP.tail.tail.head.at4.alloc (.cells #[Go.Value.int .u64 x0,Go.Value.int .u64 x1,Go.Value.int .u64 x2,Go.Value.int .u64 x3,Go.Value.int .u64 x4,Go.Value.int .u64 x5,Go.Value.int .u64 x6,Go.Value.int .u64 x7] 161);have KP7:Kept w k0 [⟨k0,0,p0,p1,p2,p3⟩,⟨k0,4,c0,c1,c2,c3⟩,⟨w1.heap.size,0,x0,x1,x2,x3⟩,⟨w1.heap.size,4,x4,x5,x6,x7⟩,⟨k1,0,0,0,0,0⟩] _:=
    ((((KP.alloc _).tail.tail.tail.cons (x:=⟨w1.heap.size,4,x4,x5,x6,x7⟩) ⟨A7.c4,A7.c5,A7.c6,A7.c7,A7.fz⟩).cons (x:=⟨w1.heap.size,0,x0,x1,x2,x3⟩) ⟨A7.c0,A7.c1,A7.c2,A7.c3,A7.fz⟩).cons (x:=⟨k0,4,c0,c1,c2,c3⟩) (KP.alloc _).tail.head).cons (x:=⟨k0,0,p0,p1,p2,p3⟩) (KP.alloc _).head
   have n72:k2≠w1.heap.size:=TJ KP.tail.tail.head.lt;clear A7 KP;have KP:=KP7;clear KP7;have z0:=KP.head.lt;go_wp2_with fail
   generalize TI _ _=W7 at KP T2⊢;generalize w1.heap.size=k7 at KP n72⊢;have hl2:∀x∈([⟨k0,0,p0,p1,p2,p3⟩,⟨k0,4,c0,c1,c2,c3⟩,⟨k7,0,x0,x1,x2,x3⟩,⟨k7,4,x4,x5,x6,x7⟩,⟨k1,0,0,0,0,0⟩]:List Blk),k2≠x.k:=by simp only[TP,SL,or_false];rintro x (rfl|rfl|rfl|rfl|rfl);exact n02;exact n02;exact n72;exact n72;exact n12
   have HE1:Hid (lO _ _):=hE1;obtain⟨B,hB⟩:∃B,s[k].toNat=B:=⟨_,rfl⟩
   have hB256:B<256:=hB ▸ s[k].toNat_lt;have hsb:Ta.wrap (s[k].toNat:Int)=(B:Int):=by rw[hB];exact wrapN _ oM
   have HFX:Hid _:=Ii P s k hlt;have HB:Hid (s[k].toNat=B):=hB;clear hE1 hB z0;obtain⟨tc0,tc1,tc2,tc3,tf⟩:=id T2;have zt:=T2.lt;go_region_held3 (λw'=>w'.cell? ⟨k0,0,none⟩=some (Go.Value.int .u64 p0)/\w'.cell? ⟨k0,1,none⟩=some (Go.Value.int .u64 p1)/\w'.cell? ⟨k0,2,none⟩=some (Go.Value.int .u64 p2)/\w'.cell? ⟨k0,3,none⟩=some (Go.Value.int .u64 p3)/\w'.cell? ⟨k0,4,none⟩=some (Go.Value.int .u64 c0)/\w'.cell? ⟨k0,5,none⟩=some (Go.Value.int .u64 c1)/\w'.cell? ⟨k0,6,none⟩=some (Go.Value.int .u64 c2)/\w'.cell? ⟨k0,7,none⟩=some (Go.Value.int .u64 c3)/\w'.cell? ⟨k7,0,none⟩=some (Go.Value.int .u64 x0)/\w'.cell? ⟨k7,1,none⟩=some (Go.Value.int .u64 x1)/\w'.cell? ⟨k7,2,none⟩=some (Go.Value.int .u64 x2)/\w'.cell? ⟨k7,3,none⟩=some (Go.Value.int .u64 x3)/\w'.cell? ⟨k7,4,none⟩=some (Go.Value.int .u64 x4)/\w'.cell? ⟨k7,5,none⟩=some (Go.Value.int .u64 x5)/\w'.cell? ⟨k7,6,none⟩=some (Go.Value.int .u64 x6)/\w'.cell? ⟨k7,7,none⟩=some (Go.Value.int .u64 x7)/\Kept w k0 [⟨k0,0,p0,p1,p2,p3⟩,⟨k0,4,c0,c1,c2,c3⟩,⟨k7,0,x0,x1,x2,x3⟩,⟨k7,4,x4,x5,x6,x7⟩,⟨k1,0,0,0,0,0⟩] w') (first|(with_reducible exact tO KP)|(with_reducible exact tO KP.drew)|(with_reducible exact tO (KP.set4' Q2.out hl2 _ _ _ _))|(with_reducible exact tO (KP.set4' Q2.out hl2 _ _ _ _).drew)|fail) (first|(go_at_call 127;refine(qW _ _ _ _ HE1.out ⟨B,0,0,0,0,0,0,0,rfl,oM,dC,dC,dC,dC,dC,dC,dC,rfl⟩ (Fv HF.out hB256) _).mono ?_;rintro r w2 ⟨v,rfl,hb2,hE2⟩;obtain⟨y0,y1,y2,y3,y4,y5,y6,y7,rfl,hy0,hy1,hy2,hy3,hy4,hy5,hy6,hy7,hye⟩:=id hE2;clear hye;have HE2:Hid (lO _ _):=hE2;clear hE2;have KP1:=KP.drew.call hb2;have T1:=T2.drew.call hb2;clear KP T2 hb2;have KP:=KP1;have T2:=T1;clear KP1 T1;obtain⟨tc0,tc1,tc2,tc3,tf⟩:=id T2;have zt:=T2.lt)|(go_at_call 96;refine(rB p0 p1 p2 p3 c0 c1 c2 c3 P _ _ HR.hp0 HR.hp1 HR.hp2 HR.hp3 HR.hc0 HR.hc1 HR.hc2 HR.hc3 HR.eP HR.hP HR.hP2 HE2.out _).mono ?_;rintro r w3 ⟨v,rfl,hb3,hF3⟩;obtain⟨a',b',c',d',rfl,ha',hb',hc',hd',es3⟩:=id hF3;clear es3;have HF3:Hid (Four _ _):=hF3;clear hF3;have KP1:=KP.call hb3;have T1:=T2.call hb3;clear KP T2 hb3;have KP:=KP1;have T2:=T1;clear KP1 T1;obtain⟨tc0,tc1,tc2,tc3,tf⟩:=id T2;have zt:=T2.lt))
   go_wp2;obtain⟨q1,q2⟩:=H.out;have q0:=H0.out;subst q1 q2 q0;go_roundg (gk-1)
   case measure=>omega
   case rel =>
    refine⟨k+1,a',b',c',d',oM,rfl,?_,?_⟩
    ·have K3:=KP.set4' Q2.out hl2 (Go.Value.int .u64 a') (Go.Value.int .u64 b') (Go.Value.int .u64 c') (Go.Value.int .u64 d');exact(((K3.tail.tail.tail.tail).cons (T2.self4 a' b' c' d').blk).cons K3.tail.head).cons K3.head
    ·have h1:=HF3.out;rw[HB.out]at HFX;unfold Hid;rw[<-HFX.out];exact h1
  ·have hk2:k=s.size:=oM;have hge:¬((k:Int)<(s.size:Int)):=oM;obtain⟨rc0,rc1,rc2,rc3,rf⟩:=KP.tail.tail.tail.head.at4;have z1:=KP.tail.tail.tail.head.lt;have HK:Hid (k=s.size):=hk2;clear hk2;go_wp2;have RF:=KP.tail.tail.tail.head.at4.self4 a b c d;unfold set4 at RF;refine bodyPost_ret (v:=?v) ?hr rfl ?hR
   case hr=>simp[results,Tryz.results130,go_sem,RF.c0,RF.c1,RF.c2,RF.c3];rfl
   refine⟨_,rfl,?_,?_⟩
   ·rw[H0.out];exact aF KP.bl Q1.out _ _ _ _
   ·have:=HF.out;rw[HK.out,show s.size=s.data.size from rfl,YB]at this;exact this
end
section
open Go.RowKit Go.Sort
variable {P:Nat}[NeZero P]{N:Nat}
def rl0:List Value:=[uZ 18446744069414583343,uZ 18446744073709551615,uZ 18446744073709551615,uZ 18446744073709551615,uZ 4294968273,uZ 0,uZ 0,uZ 0]
def rv0:Value:=.agg rl0.toArray
structure Fl3(P:Nat)[NeZero P]:Prop extends Fld P where
 ref:RefP 18446744069414583343 18446744073709551615 18446744073709551615 18446744073709551615 4294968273 0 0 0 P
theorem Kw:Gives 81 #[iZ 0] rv0:=λw=>(ND w).mono (by rintro e w' ⟨v,rfl,hb,rfl⟩;exact⟨_,rfl,hb,rfl⟩)
theorem nU(h:Fl3 P)(x y:Fin P):Gives 85 #[rv0,fv x,fv y] (fv (x+y)):=λw =>
 (Ht h.ref (h.four x) (h.four y) w).mono (by rintro e w' ⟨v,rfl,hb,hF⟩;exact⟨_,rfl,hb,hF.nv⟩)
theorem aW(h:Fl3 P)(x y:Fin P):Gives 52 #[rv0,fv x,fv y] (fv (x*y)):=λw =>
 (rA h.ref (h.four x) (h.four y) w).mono (by rintro e w' ⟨v,rfl,hb,hF⟩;exact⟨_,rfl,hb,hF.nv⟩)
theorem kW(h:Fl3 P)(x y:Fin P):Gives 94 #[rv0,fv x,fv y] (fv (x-y)):=λw =>
 (Hg _ _ _ _ _ _ _ _ P _ _ x.val y.val h.ref (h.four x) (h.four y) y.isLt w).mono (by rintro e w' ⟨v,rfl,hb,hF⟩;rw[kP]at hF;exact⟨_,rfl,hb,hF.nv⟩)
theorem NB(h:Fl3 P)(x:Fin P):Gives 86 #[rv0,fv x] (fv (0-x)):=λw =>
 (uO _ _ _ _ _ _ _ _ P _ x.val h.ref (h.four x) x.isLt w).mono (by
  rintro e w' ⟨v,rfl,hb,hF⟩;rw[show(P-x.val)%P=(0-x:Fin P).val by rw[<-kP,EC.val_zero,Sj]]at hF;exact⟨_,rfl,hb,hF.nv⟩)
theorem Kp(h:Fl3 P){x:Fin P}(e:x=0):Gives 89 #[fv x] (.bool true):=λw =>
 (mY _ _ (h.four x) w).mono (by
  rintro e w' ⟨v,rfl,hb,rfl⟩;refine⟨_,rfl,hb,?_⟩;rw[decide_eq_true (by rw[e,EC.val_zero])])
theorem D4(h:Fl3 P){x:Fin P}(e:¬x=0):Gives 89 #[fv x] (.bool false):=λw =>
 (mY _ _ (h.four x) w).mono (by
  rintro e w' ⟨v,rfl,hb,rfl⟩;refine⟨_,rfl,hb,?_⟩;rw[decide_eq_false (λh=>e (Vx (by rw[EC.val_zero];exact h)))])
theorem qZ(h:Fl3 P):Gives 80 #[uZ 1] (fv (1:Fin P)):=λw =>
 (kX 1 dC w).mono (by rintro e w' ⟨v,rfl,hb,rfl⟩;exact⟨_,rfl,hb,zK h.toFld⟩)
theorem xU(h:Fl3 P):Gives 80 #[uZ 7] (fv (7:Fin P)):=λw =>
 (kX 7 dC w).mono (by rintro e w' ⟨v,rfl,hb,rfl⟩;exact⟨_,rfl,hb,uF h.toFld⟩)
theorem eqR(h:Fld P)(x y:Fin P)(w:World):(binOp .eql 63 (fv x) (fv y)).run prog w=.ok (.bool (decide (x=y))) w:=by
 have h1:(binOp .eql 63 (fv x) (fv y)).run prog w=.ok (.bool (decide (x.val%18446744073709551616=y.val%18446744073709551616/\x.val/18446744073709551616%18446744073709551616=y.val/18446744073709551616%18446744073709551616/\x.val/340282366920938463463374607431768211456%18446744073709551616=y.val/340282366920938463463374607431768211456%18446744073709551616/\x.val/6277101735386680763835789423207666416102355444464034512896%18446744073709551616=y.val/6277101735386680763835789423207666416102355444464034512896%18446744073709551616))) w:=by
  show(binOp .eql 63 (.agg _) (.agg _)).run prog w=_;rw[run_eql_struct];have h2:=MA 9998 (x.val%18446744073709551616) (x.val/18446744073709551616%18446744073709551616) (x.val/340282366920938463463374607431768211456%18446744073709551616) (x.val/6277101735386680763835789423207666416102355444464034512896%18446744073709551616) (y.val%18446744073709551616) (y.val/18446744073709551616%18446744073709551616) (y.val/340282366920938463463374607431768211456%18446744073709551616) (y.val/6277101735386680763835789423207666416102355444464034512896%18446744073709551616) w;unfold wn;rw[h2,Tr]
 rw[h1];simp only[qT (h.top x) (h.top y),<-Y8]
theorem Qh(h:Fld P){x y:Fin P}(e:x=y)(w:World):(binOp .eql 63 (fv x) (fv y)).run prog w=.ok (.bool true) w:=by rw[eqR h,decide_eq_true e]
theorem Qi(h:Fld P){x y:Fin P}(e:¬x=y)(w:World):(binOp .eql 63 (fv x) (fv y)).run prog w=.ok (.bool false) w:=by rw[eqR h,decide_eq_false e]
theorem neR(h:Fld P)(x y:Fin P)(w:World):(binOp .neq 63 (fv x) (fv y)).run prog w=.ok (.bool (!decide (x=y))) w:=by
 have h1:(binOp .neq 63 (fv x) (fv y)).run prog w=.ok (.bool (!decide (x.val%18446744073709551616=y.val%18446744073709551616/\x.val/18446744073709551616%18446744073709551616=y.val/18446744073709551616%18446744073709551616/\x.val/340282366920938463463374607431768211456%18446744073709551616=y.val/340282366920938463463374607431768211456%18446744073709551616/\x.val/6277101735386680763835789423207666416102355444464034512896%18446744073709551616=y.val/6277101735386680763835789423207666416102355444464034512896%18446744073709551616))) w:=N1 _ _ _ _ _ _ _ _ w;rw[h1];simp only[qT (h.top x) (h.top y),<-Y8]
theorem PP(h:Fld P){x y:Fin P}(e:x=y)(w:World):(binOp .neq 63 (fv x) (fv y)).run prog w=.ok (.bool false) w:=by rw[neR h,decide_eq_true e];rfl
theorem PO(h:Fld P){x y:Fin P}(e:¬x=y)(w:World):(binOp .neq 63 (fv x) (fv y)).run prog w=.ok (.bool true) w:=by rw[neR h,decide_eq_false e];rfl
theorem JE:Value.agg #[uZ 0,uZ 0,uZ 0,uZ 0,uZ 1,uZ 0,uZ 0,uZ 0,uZ 0,uZ 0,uZ 0,uZ 0]=.agg (([uZ 0,uZ 0,uZ 0,uZ 0]:List Value)++(([uZ 1,uZ 0,uZ 0,uZ 0]:List Value)++([uZ 0,uZ 0,uZ 0,uZ 0]:List Value))).toArray:=rfl
theorem Do(h:Fld P)(w:World):(Instr.build 65 #[(1,fv (1:Fin P))]).run prog w=.ok (rv (0:Fin P) 1 0) w:=by
 unfold rv;rw[<-tH,<-MW h,<-zK h,<-JE];kernel_rfl
theorem Kr(h:Fl3 P){m y:Fin P}(e:rt m=some y):Gives 84 #[rv0,fv m] (.tuple #[fv y,.bool true]):=λw =>
 (xT _ _ _ _ _ _ _ _ P _ m.val h.ref h.p4 (h.four m) w).mono (by rintro e' w' ⟨v,rfl,hb,hF⟩;exact⟨_,rfl,hb,hF.val.1 y e⟩)
theorem Ks(h:Fl3 P){m:Fin P}(e:rt m=none):Gives 84 #[rv0,fv m] (.tuple #[fv (0:Fin P),.bool false]):=λw =>
 (xT _ _ _ _ _ _ _ _ P _ m.val h.ref h.p4 (h.four m) w).mono (by rintro e' w' ⟨v,rfl,hb,hF⟩;exact⟨_,rfl,hb,hF.val.2 e⟩)
end
end Go.Proofs.YtnakcnljhmlikaaGreat
