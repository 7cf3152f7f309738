import Derived.Deep.RegionHeld3
import Derived.Deep.LoopGhost
import Derived.Great.BuildSlice
import Derived.Lib.LazyBuf
import Derived.Laws.AppendOwn
import Derived.Laws.IdiomCopy
import Derived.Test.YtgbjainaafdpgaaGreatBt5
set_option linter.unusedVariables false
set_option linter.unusedSimpArgs false
set_option maxRecDepth 1000000
set_option maxHeartbeats 4000000
namespace Go.Proofs.YtgbjainaafdpgaaGreat
open Go.Proofs.Tryz (prog)
namespace SP
open Go.RowKit Go.Sort Go.Deep
attribute [local go_sem] vG
theorem holds_one(w:World)(x:UInt8):Holds encB (w.alloc (.cells #[.int .u8 (ub x)] 5)) w.heap.size 0 #[x]:=by
 have h:=Holds.new (enc:=encB) w 5 #[x];have e:Array.map encB #[x]=#[.int .u8 (ub x)]:=by simp[encB]
 rw[e]at h;exact h
def pG(l:List UInt8)(e:UInt8)(k:Nat):List UInt8:=l++e :: List.replicate k 0
theorem pY(l:List UInt8)(e:UInt8)(k:Nat):(pG l e k).length=l.length+1+k:=by
 unfold pG;rw[List.length_append,List.length_cons,List.length_replicate];omega
theorem DW(l:List UInt8)(e:UInt8)(k:Nat):pG l e k++[0]=pG l e (k+1):=by
 unfold pG;rw[List.append_assoc,List.cons_append,List.replicate_succ']
theorem A9(l:List UInt8)(e:UInt8):(pG l e (135-l.length%136)).set (l.length+(135-l.length%136)) ((pG l e (135-l.length%136))[l.length+(135-l.length%136)]! ^^^ 128)=total l e:=by
 unfold pG total eC;rw[List.set_append_right _ _ (by omega),Nat.add_sub_cancel_left,mI _ _ _ (by omega) (by rw[List.length_cons,List.length_replicate];omega),Nat.add_sub_cancel_left]
theorem zA(l:List UInt8)(i j:Nat)(x:UInt8)(hj:j<l.length):(l.set i x)[j]! = if i=j then x else l[j]!:=by
 rw[getElem!_pos (l.set i x) j (by rw[List.length_set];exact hj),List.getElem_set,getElem!_pos l j hj]
theorem EL(l:List UInt8)(e:UInt8)(cur:Bs)(L k:Nat)(hk:k=135-l.length%136)(hL:L=l.length+1+k)(hc:L<=cur.size)(hT:∀j,j<L->cur[j]! = (pG l e k)[j]!):
 ∀j,j<L->(cur.setIfInBounds (L-1) (cur[L-1]! ^^^ 128))[j]! = (total l e)[j]!:=by
 intro j hj;have hpl:=pY l e k;rw[<-A9,<-hk,zA _ _ _ _ (by omega),show l.length+k=L-1 by omega];by_cases h:j=L-1
 ·rw[if_pos h.symm,h,getElem!_set_same _ _ _ (by omega),hT _ (by omega)]
 ·rw[if_neg (by omega),getElem!_set_other _ _ _ _ h,hT _ hj]
theorem vW(o:ByteArray)(d:St)(n m:Nat)(ho:o.size=136*m)(hnm:n<=136*m)(h:∀j,j<136*m->o.data[j]! = cH d j):o.extract 0 n=⟨eE d n⟩:=by
 apply ByteArray.ext;have hd:(o.extract 0 n).data=o.data.extract 0 n:=ByteArray.data_extract;have hs:o.data.size=136*m:=ho;rw[hd];refine xI _ _ n (by rw[Array.size_extract,hs];omega) (eD _ _) (fun j hj=>?_);have h1:j<(o.data.extract 0 n).size:=by rw[Array.size_extract,hs];omega
 have h2:j<o.data.size:=by omega
 have h3:=h j (by omega);rw[getElem!_pos o.data j h2]at h3;rw[mQ _ _ _ hj,<-h3,getElem!_pos (o.data.extract 0 n) j h1,Array.getElem_extract];simp only[Nat.zero_add]
theorem Fz(o:ByteArray)(d:St)(m:Nat)(p:Bs)(hp:p.size=136)(hpa:∀j,j<136->p[j]! = byteOf (cE d m) j)(ho:o.size=136*m)(h:∀j,j<136*m->o.data[j]! = cH d j):
 (o++⟨p⟩).size=136*(m+1)/\∀j,j<136*(m+1)->(o++(⟨p⟩:ByteArray)).data[j]! = cH d j:=by
 have hd:(o++(⟨p⟩:ByteArray)).data=o.data++p:=ByteArray.data_append;have hs:o.data.size=136*m:=ho;refine⟨?_,fun j hj=>?_⟩
 ·show(o++(⟨p⟩:ByteArray)).data.size=_;rw[hd,Array.size_append,hp,hs];omega
 ·rw[hd];by_cases h1:j<136*m
  ·have h2:j<o.data.size:=by omega
   have h3:=h j h1;rw[getElem!_pos o.data j h2]at h3;rw[app_front _ _ j h2,h3]
  ·rw[app_back _ _ j (by omega) (by omega),hs,hpa _ (by omega)];unfold cH;rw[show j/136=m by omega,show j%136=j-136*m by omega]
theorem C7(w:World)(p:Bs)(h:p.size=200):
 ∃sc w',(convert 9 22 (.string ⟨p⟩)).run prog w=.ok (.slice (some ⟨w.heap.size,0,none⟩) 200 sc) w'/\200<=sc/\Holds encB w' w.heap.size 0 p/\Below w.heap.size w w':=by
 obtain⟨v,w',hcv,own,hb,hv⟩:=jZ (w:=w) (B:=0) ⟨p⟩ (Nat.zero_le _);have hps:(ByteArray.mk p).size=200:=h;have hpl:(ByteArray.mk p).data.toList.length=200:=by rw[Array.length_toList];exact h
 rw[hv]at hcv own;rw[hps]at hcv own;obtain⟨_,_,hle,hH⟩:=own.holds;exact⟨_,_,hcv,by omega,by simpa using hH,hb⟩
theorem zM(d:St):Array.size (front d 136)<=Array.size (front d 200)/\∀j,j<(front d 136).size->(front d 136)[j]! = (front d 200)[j]!:=by
 refine⟨by rw[aR,aR];omega,fun j hj=>?_⟩;rw[aR]at hj;rw[gR _ _ _ hj,gR _ _ _ (by omega)]
theorem tR(s:ByteArray)(e:UInt8)(n:Nat)(w:World)(hs:s.size<=1048576)(hn:n<=16384):
 Calls prog 139 #[.string s,.int .u8 (ub e),.int .i64 n] w fun r w'=>r=.returned (.string ⟨eE (eS s.data.toList e) n⟩)/\Below w.heap.size w w':=by
 obtain⟨v0,w0,hcv,own0,hb0,hv0⟩:=jZ (w:=w) (B:=w.heap.size) s (Nat.le_refl _);rw[hv0]at hcv own0;have hsz0:w.heap.size<=w0.heap.size:=hb0.size;have hX:=holds_one w0 e;have hbx:Below w0.heap.size w0 (w0.alloc (.cells #[.int .u8 (ub e)] 5)):=(Below.refl _ _).alloc (Nat.le_refl _) _;have hl:s.data.toList.length=s.size:=Array.length_toList;obtain⟨v1,w1,hap,own1,hb1⟩:=tJ (c:=1) (own0.below hbx) hX (by rw[World.size_alloc];omega) (by rw[hl];simp;omega) 1 rfl;have hbb1:Below w.heap.size w w1:=(hb0.trans (hbx.mono hsz0)).trans hb1;have own1':Own w.heap.size w1 v1 (pG s.data.toList e 0):=own1;clear hv0 own0 hX own1 hb1 hbx;have hmk200:∀w:World,(Instr.makeSlice 22 (.int .i64 200) (.int .i64 200)).run prog w=.ok (.slice (some ⟨w.heap.size,0,none⟩) 200 200) (w.alloc (.cells (madeCells #[.int .u8 0] 200) 5)):=
  run_make_row' (P:=prog) 22 5 (.int .u8 0) 1 slice22 info5 rfl .i64 .i64 200 (by omega) (by omega)
 have HM200:Hid _:=hmk200;clear hmk200;go_enter Tryz.func139,Tryz.ntmps139;go_wp2_with (at_builtin;refine Lib.wpList_append_run _ rfl _ _ 22 22 rfl _ _ rfl rfl _ _ hap ?_)
 clear hap hcv hb0;obtain⟨h,hh⟩:∃h,s.data.toList.length%136=h:=⟨_,rfl⟩
 have h136:h<136:=by rw[<-hh];exact Nat.mod_lt _ (by decide)
 have Hh:Hid (s.data.toList.length%136=h):=hh;clear hh;go_loopg [7] (135-h) (fun g s7 wr=>∃k,k+g=135-h/\Own w.heap.size wr s7 (pG s.data.toList e k)/\Below w.heap.size w wr)
 case atStart=>exact⟨0,by omega,own1',hbb1⟩
 case round =>
  clear own1' hbb1;obtain⟨k,hk,own,hb⟩:=hrel;have own':=own;obtain⟨g,cap,cur,rfl,hg,hgl,hcs,hlc,hH,hT⟩:=own';have hL:=pY s.data.toList e k;generalize hLL:(pG s.data.toList e k).length=L at *;have hL':L=s.size+1+k:=by rw[hL,hl]
  have HL':Hid (L=s.size+1+k):=hL';have hLb:L<=1048900:=by omega
  have hL0:1<=L:=by omega
  have tm:(L:Int).tmod 136=(L:Int)%136:=Int.tmod_eq_emod_of_nonneg (by omega);by_cases hlt:k<135-h
  ·have hb2:((L:Int)%136 != 0)=true:=by rw[bne_iff_ne];have:=Hh.out;rw[hl]at this;omega
   have hX:=holds_one wr 0;have hbx:Below wr.heap.size wr (wr.alloc (.cells #[.int .u8 (ub 0)] 5)):=(Below.refl _ _).alloc (Nat.le_refl _) _;obtain⟨v2,w2,hap,own2,hbb⟩:=tJ (c:=1) (own.below hbx) hX (by rw[World.size_alloc];have:=hb.size;omega) (by rw[hLL];simp;omega) 1 rfl;have own3:Own w.heap.size w2 v2 (pG s.data.toList e (k+1)):=by rw[<-DW];exact own2
   have hb3:Below w.heap.size w w2:=(hb.trans (hbx.mono hb.size)).trans hbb;clear hL hL' hLL own own2 hX hbb hbx hH hT;go_wp2_with (at_builtin;refine Lib.wpList_append_run _ rfl _ _ 22 22 rfl _ _ rfl rfl _ _ hap ?_)
   go_roundg (gk-1)
   case measure=>omega
   case rel=>exact⟨k+1,by omega,own3,hb3⟩
  ·have hb2:((L:Int)%136 != 0)=false:=by
    rw[bne_eq_false_iff_eq];have:=Hh.out;rw[hl]at this;omega
   have hk0:k=135-s.data.toList.length%136:=by have:=Hh.out;omega
   obtain⟨x,hx⟩:∃x,cur[L-1]! = x:=⟨_,rfl⟩
   obtain⟨c0,f0⟩:=oQ hH (L-1) (by omega) hx;rw[Nat.zero_add]at c0 f0;have hx80:=JU x;have hTot:=EL s.data.toList e cur L k hk0 hL (by omega) hT;rw[hx]at hTot;have hH2:=Holds.set hH (i:=L-1) (by omega) (x ^^^ 128);rw[Nat.zero_add]at hH2;have htl:(total s.data.toList e).length=L:=by rw[m9];omega
   have hTA:Holds encB (wr.setCell ⟨g,L-1,none⟩ (.int .u8 (ub (x ^^^ 128)))) g 0 (total s.data.toList e).toArray:=
    Holds.front hH2 (by rw[Array.size_setIfInBounds,List.size_toArray,htl];omega) (fun j hj=>by rw[kX];exact(hTot j (by simpa[htl]using hj)).symm)
   have hb4:Below w.heap.size w (wr.setCell ⟨g,L-1,none⟩ (.int .u8 (ub (x ^^^ 128)))):=hb.setCell (p:=⟨g,L-1,none⟩) hg _;have hg4:g<(wr.setCell ⟨g,L-1,none⟩ (.int .u8 (ub (x ^^^ 128)))).heap.size:=by rw[World.size_setCell];exact hgl
   obtain⟨M,hM⟩:∃M,s.data.toList.length/136+1=M:=⟨_,rfl⟩
   have hLM:L=136*M:=by have:=Hh.out;omega
   have HLM:Hid (L=136*M):=hLM;have HM:Hid (s.data.toList.length/136+1=M):=hM;have z1:(0:Int)<=(L:Int)-1:=by omega
   have z2:(L:Int)-1<(L:Int):=by omega
   have z3:((L:Int)-1).toNat=L-1:=by omega
   have hmk:=HM200.out;clear hM hLM hTot hH2 hH hT hx hL hL' hLL own hk0;go_wp2;clear hmk c0 f0 hb2 tm hx80;have hW2:(wr.setCell ⟨g,L-1,none⟩ (.int .u8 (ub (x ^^^ 128)))).heap.size=wr.heap.size:=by rw[World.size_setCell]
   generalize wr.setCell ⟨g,L-1,none⟩ (.int .u8 (ub (x ^^^ 128)))=W2 at hTA hb4 hg4 hW2⊢;have hS0:Holds encB (W2.alloc (.cells (madeCells #[.int .u8 0] 200) 5)) W2.heap.size 0 (iK (total s.data.toList e) 0):=Holds.made (enc:=encB) W2 5 200 0;have hb5':Below W2.heap.size W2 (W2.alloc (.cells (madeCells #[.int .u8 0] 200) 5)):=(Below.refl _ _).alloc (Nat.le_refl _) _;have hs5:W2.heap.size<(W2.alloc (.cells (madeCells #[.int .u8 0] 200) 5)).heap.size:=by simp
   have hTA5:=Holds.below hTA hb5' hg4;have hb5:=hb4.trans (hb5'.mono hb4.size);have hz4:=hb4.size;rw[hW2]at hS0 hs5 hg4 hz4;generalize hSG:wr.heap.size=SG at *;generalize (W2.alloc _)=W3 at hS0 hb5 hs5 hTA5⊢;clear hTA hb4 hb5' hSG hW2;go_loopg [8,9] M (fun g2 s8 s9 wr=>∃(i sg sc:Nat),i+g2=M/\s9=.int .i64 ((136*i:Nat):Int)/\s8=.slice (some ⟨sg,0,none⟩) 200 sc/\200<=sc/\w.heap.size<=sg/\sg≠g/\Holds encB wr sg 0 (iK (total s.data.toList e) i)/\Holds encB wr g 0 (total s.data.toList e).toArray/\Below w.heap.size w wr)
   case atStart=>exact⟨0,SG,200,by omega,rfl,rfl,Nat.le_refl _,by omega,by omega,hS0,hTA5,hb5⟩
   case round =>
    clear hS0 hTA5 hb5 hs5;obtain⟨i,sg,sc,hi,rfl,rfl,hsc,hsg,hne,hS,hTA,hb⟩:=hrel;have hrs:(iK (total s.data.toList e) i).size=200:=by
     cases i with
     | zero=>rw[iK,Array.size_replicate]
     | succ i=>rw[iK,fJ,aR]
    have hgz:g<wr.heap.size:=Holds.lt hTA (by rw[List.size_toArray,htl];omega);by_cases hlt:i<M
    ·have hlt':((136*i:Nat):Int)<(L:Int):=by have:=HLM.out;omega
     have hii:136*i+136<=L:=by have:=HLM.out;omega
     generalize hI:136*i=I at *;have HI:Hid (136*i=I):=hI;clear hI;go_wp2;have hD0:Holds encB wr sg 0 (m7 (iK (total s.data.toList e) i) (total s.data.toList e) I 0):=hS;generalize hR:iK (total s.data.toList e) i=R at *;have HR:Hid (R=iK (total s.data.toList e) i):=hR.symm;clear hR;go_loopg [10] 136 (fun g3 s10 wq=>∃(k:Nat) (st:Bs),k+g3=136/\s10=.int .i64 k/\Holds encB wq sg 0 st/\Only sg 0 200 wr wq/\Hid (st=m7 R (total s.data.toList e) I k))
     case atStart=>exact⟨0,_,rfl,rfl,hD0,Only.refl _ _ _ _,rfl⟩
     case round =>
      clear hD0;obtain⟨k,st,hk,rfl,hSt,hO,HE⟩:=hrel;have hsts:st.size=200:=by rw[HE.out,t5];exact hrs
      have hTq:=Holds.other hTA hO (Ne.symm hne) (by rw[List.size_toArray,htl];omega);by_cases hltk:k<136
      ·obtain⟨y,hy⟩:∃y,(total s.data.toList e)[I+k]! = y:=⟨_,rfl⟩
       obtain⟨c0,f0⟩:=oQ (x:=y) hTq (I+k) (by rw[List.size_toArray,htl];omega) (by rw[kX];exact hy);obtain⟨z,hz⟩:∃z,st[k]! = z:=⟨_,rfl⟩
       obtain⟨c1,f1⟩:=oQ hSt k (by omega) hz;rw[Nat.zero_add]at c0 c1 f1;have HY:Hid ((total s.data.toList e)[I+k]! = y):=hy;have HZ:Hid (st[k]! = z):=hz;have k136:(k:Int)<136:=by omega
       have k200:(k:Int)<200:=by omega
       have ik0:(0:Int)<=(I:Int)+(k:Int):=by omega
       have ik1:(I:Int)+(k:Int)<(L:Int):=by omega
       have ik2:((I:Int)+(k:Int)).toNat=I+k:=by omega
       have ik3:IntKind.i64.wrap ((I:Int)+(k:Int))=(I:Int)+(k:Int):=IntWalk.i64_in _ (by omega);clear hy hz f0 hTq;go_wp2_with fail
       go_still_tail 14,mixed;go_wp2;go_roundg (gk-1)
       case measure=>omega
       case rel =>
        refine⟨k+1,st.setIfInBounds k (z ^^^ y),by omega,by go_num,?_,?_,?_⟩
        ·have:=Holds.set hSt (i:=k) (by omega) (z ^^^ y);rw[Nat.zero_add]at this;exact Holds.drew this
        ·exact(hO.setCell (o:=k) (by omega) (by omega) _).drew
        ·show _=(m7 R (total s.data.toList e) I k).setIfInBounds k ((m7 R (total s.data.toList e) I k)[k]! ^^^ (total s.data.toList e)[I+k]!);rw[<-HE.out,HZ.out,HY.out]
      ·have hk136:k=136:=by omega
       subst hk136;have hgz2:=Holds.lt hSt (by omega);have kc:=conv_str prog 22 9 5 slice22 int5 str9 _ sg 0 200 sc st hSt hsts;have hbq:=hb.trans (hO.below hb.size hsg);obtain⟨PB,hPB⟩:∃x,fJ st=x:=⟨_,rfl⟩
       have hps:PB.size=200:=by rw[<-hPB,fJ,aR]
       have HE2:Hid (PB=iK (total s.data.toList e) (i+1)):=by
        show PB=fJ (m7 (iK (total s.data.toList e) i) (total s.data.toList e) (136*i) 136);rw[<-HR.out,HI.out,<-HE.out,hPB]
       have HPB:Hid (PB=fJ st):=hPB.symm;clear hPB HE;go_wp2_with fail
       refine(kN ⟨st⟩ _ hsts).mono ?_;rintro r w5 ⟨rfl,hb5⟩;have e5:(ByteArray.mk (fJ (ByteArray.mk st).data))=ByteArray.mk PB:=congrArg ByteArray.mk HPB.out.symm;rw[e5];clear e5;obtain⟨sc6,w6,hcv6,hle6,hH6,hb6⟩:=C7 w5 PB hps;have hgq:=Holds.lt hTq (by rw[List.size_toArray,htl];omega);have hg5:g<w5.heap.size:=Nat.lt_of_lt_of_le hgq hb5.size;have hT6:=Holds.below (Holds.below hTq hb5 hgq) hb6 hg5;have hb8:Below w.heap.size w w6:=(hbq.trans (hb5.mono hbq.size)).trans (hb6.mono (by have:=hb5.size;have:=hbq.size;omega));rw[HE2.out]at hH6;have hz5:w.heap.size<=w5.heap.size:=by have:=hb5.size;have:=hbq.size;omega
       go_wp2;go_roundg (M-(i+1))
       case measure=>omega
       case rel=>exact⟨i+1,w5.heap.size,sc6,by omega,by rw[<-HI.out];go_num,rfl,hle6,hz5,by omega,hH6,hT6,hb8⟩
    ·have hiM:i=M:=by omega
     have hge:(L:Int)<=((136*i:Nat):Int):=by have:=HLM.out;omega
     obtain⟨d,hd⟩:∃d,eS s.data.toList e=d:=⟨_,rfl⟩
     obtain⟨F,hF⟩:∃F,front (cE d 0) 200=F:=⟨_,rfl⟩
     have hSf:Holds encB wr sg 0 F:=by
      have:=yJ s.data.toList e;rw[HM.out,<-hiM,hd]at this;rw[this]at hS;rw[<-hF,cE];exact hS
     have hab:d.size=25:=by rw[<-hd];exact lH s.data.toList e
     have HDD:Hid (d=eS s.data.toList e):=hd.symm;have HFF:Hid (F=front (cE d 0) 200):=hF.symm;clear hS hrs hTA hgz hiM hlt hi hd hF;generalize hI:136*i=I at *;clear hI;have hdec:decide ((I:Int)<(L:Int))=false:=decide_eq_false (by omega);have hdec2:decide (I<L)=false:=decide_eq_false (by omega);go_wp2;go_loopg [8,11] (n+136) (fun g4 s8 s11 wq=>∃(m sg sc:Nat) (o:ByteArray) (Fm:Bs),136*m+g4=n+136/\1<=g4/\s11=.string o/\o.size=136*m/\s8=.slice (some ⟨sg,0,none⟩) 200 sc/\200<=sc/\Holds encB wq sg 0 Fm/\Fm.size=200/\Below w.heap.size w wq/\Hid (Fm=front (cE d m) 200)/\Hid (∀j,j<136*m->o.data[j]! = cH d j))
     case atStart=>exact⟨0,sg,sc,ByteArray.empty,F,by omega,by omega,rfl,rfl,rfl,hsc,hSf,by rw[HFF.out,aR],hb,HFF,fun j hj=>by omega⟩
     case round =>
      clear hSf HFF hsc;obtain⟨m,sg,sc,o,Fm,hg4,hg41,rfl,ho,rfl,hsc,hF,hFs,hb,HF,HO⟩:=hrel;have Ho:Hid (o.size=136*m):=ho;have hob:o.size<=n+136:=by omega
      by_cases hlt:o.size<n
      ·have hlt':(o.size:Int)<(n:Int):=by omega
       obtain⟨Q,hQ⟩:∃Q,front (cE d m) 136=Q:=⟨_,rfl⟩
       have hQs:Q.size=136:=by rw[<-hQ,aR]
       have hQa:∀j,j<136->Q[j]! = byteOf (cE d m) j:=fun j hj=>by rw[<-hQ,gR _ _ _ hj]
       have hHQ:Holds encB wr sg 0 Q:=by
        have h1:=zM (cE d m);rw[<-HF.out,hQ]at h1;exact Holds.front hF h1.1 h1.2
       have hnx:=Fz o d m Q hQs hQa ho HO;have HNX:Hid ((o++⟨Q⟩).size=136*(m+1)/\∀j,j<136*(m+1)->(o++(⟨Q⟩:ByteArray)).data[j]! = cH d j):=hnx;obtain⟨PB,hPB⟩:∃x,fJ Fm=x:=⟨_,rfl⟩
       have hps:PB.size=200:=by rw[<-hPB,fJ,aR]
       have HN:Hid (PB=front (cE d (m+1)) 200):=by
        show PB=front (perm (cE d m)) 200;rw[<-hPB,HF.out,yT _ (cN d hab m)]
       have HPB:Hid (PB=fJ Fm):=hPB.symm;have kc1:=conv_str prog 22 9 5 slice22 int5 str9 wr sg 0 136 sc Q hHQ hQs;have kc2:=conv_str prog 22 9 5 slice22 int5 str9 wr sg 0 200 sc Fm hF hFs;have hsc0:(sc=0)=False:=eq_false (by omega);have hsc1:(136:Int)<=(sc:Int):=by omega
       clear hQ hQa hHQ hnx hPB HO ho;go_wp2_with fail
       refine(kN ⟨Fm⟩ _ hFs).mono ?_;rintro r w5 ⟨rfl,hb5⟩;have e5:(ByteArray.mk (fJ (ByteArray.mk Fm).data))=ByteArray.mk PB:=congrArg ByteArray.mk HPB.out.symm;rw[e5];clear e5;obtain⟨sc6,w6,hcv6,hle6,hH6,hb6⟩:=C7 w5 PB hps;have hb8:Below w.heap.size w w6:=(hb.trans (hb5.mono hb.size)).trans (hb6.mono (by have:=hb5.size;have:=hb.size;omega));go_wp2;go_roundg (gk-136)
       case measure=>have:=Ho.out;omega
       case rel=>exact⟨m+1,w5.heap.size,sc6,o++(ByteArray.mk Q),PB,by have:=Ho.out;omega,by have:=Ho.out;omega,rfl,HNX.out.1,rfl,hle6,hH6,hps,hb8,HN,HNX.out.2⟩
      ·have hge:(n:Int)<=(o.size:Int):=by omega
       have hex:=vW o d n m ho (by omega) HO;have HEX:Hid (o.extract 0 n=⟨eE d n⟩):=hex;clear hex ho HO;go_wp2;go_ret;rw[<-HDD.out,<-HEX.out];exact⟨rfl,hb⟩
end SP
namespace SP
open Go.RowKit Go.Sort Go.Deep
end SP
namespace SP
open Go.RowKit Go.Sort Go.Deep
theorem yK(s:ByteArray)(w:World)(hs:s.size<=1048576):
 Calls prog 100 #[.string s] w fun r w'=>r=.returned (.string ⟨uZ s.data.toList⟩)/\Below w.heap.size w w':=by
 go_enter Tryz.func100,Tryz.ntmps100;go_wp2_with fail
 refine(tR s 6 32 _ hs (by decide)).mono ?_;rintro r w1 ⟨rfl,hb⟩;rw[<-zK];go_wp2;go_ret;exact⟨rfl,hb⟩
end SP
namespace SP
open Go.RowKit Go.Sort Go.Deep
theorem AU(label:ByteArray)(pa:Option Addr)(pcap:Nat)(ps:List ByteArray)(w:World)(hlab:label.size<=1048576)(hpl:ps.length<=1048576)
 (hP:ps.length=0\/∃pb po,pa=some ⟨pb,po,none⟩/\∀j,j<ps.length->w.cell? ⟨pb,po+j,none⟩=some (.string ps[j]!)) (hsz:∀j,j<ps.length->(ps[j]!).size<=1048576)
 (htot:(bV label.data.toList (ps.map fun s=>s.data.toList)).length<=1048576) :
 Calls prog 66 #[.string label,.slice pa ps.length pcap] w fun e w'=>e=.returned (.string ⟨jN label.data.toList (ps.map fun s=>s.data.toList)⟩)/\Below w.heap.size w w':=by
 obtain⟨n,hn⟩:∃n,ps.length=n:=⟨_,rfl⟩
 rw[hn];have Hn:Hid (ps.length=n):=hn;have hn20:n<=1048576:=by omega
 clear hn;go_enter Tryz.func66,Tryz.ntmps66;go_wp2_with fail
 refine(vL label _ hlab).mono ?_;rintro e w1 ⟨o1,rfl,ho1,hb1⟩;go_wp2;go_loopg [5,6] n (fun g s5 s6 wr=>∃(k:Nat) (o:ByteArray),k+g=n/\s6=.int .i64 k/\s5=.string o/\Below w.heap.size w wr/\Hid (o.data.toList=bV label.data.toList ((ps.map fun s=>s.data.toList).take k)))
 case atStart =>
  refine⟨0,o1,by omega,rfl,rfl,hb1,?_⟩;rw[List.take_zero];unfold bV;rw[List.flatMap_nil,List.append_nil];exact ho1
 case round =>
  clear ho1 hb1;obtain⟨k,o,hk,rfl,rfl,hb,HE⟩:=hrel;by_cases hlt:k<n
  ·obtain⟨pb,po,rfl,hPj⟩:∃pb po,pa=some ⟨pb,po,none⟩/\∀j,j<ps.length->w.cell? ⟨pb,po+j,none⟩=some (.string ps[j]!):=by
    rcases hP with h|h
    ·have:=Hn.out;omega
    ·exact h
   have hvc:=hPj k (by have:=Hn.out;omega);have hszk:=hsz k (by have:=Hn.out;omega);obtain⟨s,hs⟩:∃s,ps[k]! = s:=⟨_,rfl⟩
   rw[hs]at hvc hszk;have HS:Hid (s=ps[k]!):=hs.symm;have hvc':wr.cell? ⟨pb,po+k,none⟩=some (.string s):=by rw[hb.cell (p:=⟨pb,po+k,none⟩) (World.block_lt_of_cell? _ _ hvc)];exact hvc
   have l1:(k:Int)<(n:Int):=by omega
   clear hs hvc hPj;go_wp2_with fail
   refine(vL s _ hszk).mono ?_;rintro e w2 ⟨o2,rfl,ho2,hb2⟩;have HO2:Hid (o2.data.toList=eO s.data.toList):=ho2;have hos:o.size<=1048576:=by
    have h1:o.data.toList.length=o.size:=Array.length_toList;rw[HE.out]at h1;have:=wV label.data.toList (ps.map fun s=>s.data.toList) k;omega
   have ho2s:o2.size<=1048580:=by
    have h1:o2.data.toList.length=o2.size:=Array.length_toList;have h2:s.data.toList.length=s.size:=Array.length_toList;rw[ho2,mJ]at h1;omega
   clear ho2;go_wp2;go_roundg (gk-1)
   case measure=>omega
   case rel =>
    refine⟨k+1,o++o2,by omega,by go_num,rfl,hb.trans (hb2.mono hb.size),?_⟩;have hkl:k<(ps.map fun s=>s.data.toList).length:=by rw[List.length_map];have:=Hn.out;omega
    have hkl2:k<ps.length:=by have:=Hn.out;omega
    rw[kE _ k hkl,oI,ByteArray.data_append,Array.toList_append,HE.out,HO2.out,getElem!_pos (ps.map fun s=>s.data.toList) k hkl,List.getElem_map,HS.out,getElem!_pos ps k hkl2];rfl
  ·have l1:(n:Int)<=(k:Int):=by omega
   have HE2:Hid (o.data.toList=bV label.data.toList (ps.map fun s=>s.data.toList)):=by
    have e1:(ps.map fun s=>s.data.toList).take k=ps.map fun s=>s.data.toList:=List.take_of_length_le (by rw[List.length_map];have:=Hn.out;omega)
    rw[e1]at HE;exact HE
   have hos:o.size<=1048576:=by
    have h1:o.data.toList.length=o.size:=Array.length_toList;rw[HE2.out]at h1;omega
   clear HE;go_wp2_with fail
   refine(yK o _ hos).mono ?_;rintro e w3 ⟨rfl,hb3⟩;rw[HE2.out];go_wp2;go_ret;exact⟨rfl,hb.trans (hb3.mono hb.size)⟩
end SP
namespace SP
open Go.RowKit Go.Sort Go.Deep
end SP
section
open Go.RowKit Go.Sort Go.Deep
variable {P:Nat}[NeZero P]{N:Nat}
end
section
open Go.RowKit Go.Sort
variable {P:Nat}[NeZero P]{N:Nat}
def rl0:List Value:=[.int .u64 18446744069414583343,.int .u64 18446744073709551615,.int .u64 18446744073709551615,.int .u64 18446744073709551615,.int .u64 4294968273,.int .u64 0,.int .u64 0,.int .u64 0]
def rv0:Value:=.agg rl0.toArray
structure Fl3(P:Nat)[NeZero P]:Prop extends Fld P where
 ref:RefP 18446744069414583343 18446744073709551615 18446744073709551615 18446744073709551615 4294968273 0 0 0 P
theorem II:Gives 62 #[.int .i64 0] rv0:=fun w=>(Le w).mono (by rintro e w' ⟨v,rfl,hb,rfl⟩;exact⟨_,rfl,hb,rfl⟩)
theorem mT(h:Fl3 P)(x y:Fin P):Gives 36 #[rv0,fv x,fv y] (fv (x+y)):=fun w =>
 (Fq h.ref (h.four x) (h.four y) w).mono (by rintro e w' ⟨v,rfl,hb,hF⟩;exact⟨_,rfl,hb,hF.nv⟩)
theorem bE(h:Fl3 P)(x y:Fin P):Gives 32 #[rv0,fv x,fv y] (fv (x*y)):=fun w =>
 (rT h.ref (h.four x) (h.four y) w).mono (by rintro e w' ⟨v,rfl,hb,hF⟩;exact⟨_,rfl,hb,hF.nv⟩)
theorem jR(h:Fl3 P)(x y:Fin P):Gives 35 #[rv0,fv x,fv y] (fv (x-y)):=fun w =>
 (Fg _ _ _ _ _ _ _ _ P _ _ x.val y.val h.ref (h.four x) (h.four y) y.isLt w).mono (by rintro e w' ⟨v,rfl,hb,hF⟩;rw[lL]at hF;exact⟨_,rfl,hb,hF.nv⟩)
theorem Fl(h:Fl3 P)(x:Fin P):Gives 39 #[rv0,fv x] (fv (EC.inv x)):=fun w =>
 (Fo _ _ _ _ _ _ _ _ P _ x.val h.ref (h.four x) w).mono (by rintro e w' ⟨v,rfl,hb,hF⟩;exact⟨_,rfl,hb,hF.nv⟩)
theorem ID(h:Fl3 P){x:Fin P}(e:x=0):Gives 33 #[fv x] (.bool true):=fun w =>
 (pB _ _ (h.four x) w).mono (by
  rintro e w' ⟨v,rfl,hb,rfl⟩;refine⟨_,rfl,hb,?_⟩;rw[decide_eq_true (by rw[e,EC.val_zero])])
theorem Cs(h:Fl3 P){x:Fin P}(e:¬x=0):Gives 33 #[fv x] (.bool false):=fun w =>
 (pB _ _ (h.four x) w).mono (by
  rintro e w' ⟨v,rfl,hb,rfl⟩;refine⟨_,rfl,hb,?_⟩;rw[decide_eq_false (fun h=>e (Fin.ext (by rw[EC.val_zero];exact h)))])
theorem pC(h:Fl3 P):Gives 65 #[.int .u64 1] (fv (1:Fin P)):=fun w =>
 (mS 1 (by decide) w).mono (by rintro e w' ⟨v,rfl,hb,rfl⟩;exact⟨_,rfl,hb,wN h.toFld⟩)
theorem uO(h:Fl3 P):Gives 65 #[.int .u64 7] (fv (7:Fin P)):=fun w =>
 (mS 7 (by decide) w).mono (by rintro e w' ⟨v,rfl,hb,rfl⟩;exact⟨_,rfl,hb,rL h.toFld⟩)
theorem eqR(h:Fld P)(x y:Fin P)(w:World):(binOp .eql 37 (fv x) (fv y)).run prog w=.ok (.bool (decide (x=y))) w:=by
 have h1:(binOp .eql 37 (fv x) (fv y)).run prog w=.ok (.bool (decide (x.val%18446744073709551616=y.val%18446744073709551616/\x.val/18446744073709551616%18446744073709551616=y.val/18446744073709551616%18446744073709551616/\x.val/340282366920938463463374607431768211456%18446744073709551616=y.val/340282366920938463463374607431768211456%18446744073709551616/\x.val/6277101735386680763835789423207666416102355444464034512896%18446744073709551616=y.val/6277101735386680763835789423207666416102355444464034512896%18446744073709551616))) w:=by
  show(binOp .eql 37 (.agg _) (.agg _)).run prog w=_;rw[run_eql_struct];have h2:=Kf 9998 (x.val%18446744073709551616) (x.val/18446744073709551616%18446744073709551616) (x.val/340282366920938463463374607431768211456%18446744073709551616) (x.val/6277101735386680763835789423207666416102355444464034512896%18446744073709551616) (y.val%18446744073709551616) (y.val/18446744073709551616%18446744073709551616) (y.val/340282366920938463463374607431768211456%18446744073709551616) (y.val/6277101735386680763835789423207666416102355444464034512896%18446744073709551616) w;unfold wn;rw[h2,Result.andThen_ok]
 rw[h1];simp only[oZ (h.top x) (h.top y),<-Fin.ext_iff]
theorem Nx(h:Fld P){x y:Fin P}(e:x=y)(w:World):(binOp .eql 37 (fv x) (fv y)).run prog w=.ok (.bool true) w:=by rw[eqR h,decide_eq_true e]
theorem Ny(h:Fld P){x y:Fin P}(e:¬x=y)(w:World):(binOp .eql 37 (fv x) (fv y)).run prog w=.ok (.bool false) w:=by rw[eqR h,decide_eq_false e]
theorem neR(h:Fld P)(x y:Fin P)(w:World):(binOp .neq 37 (fv x) (fv y)).run prog w=.ok (.bool (!decide (x=y))) w:=by
 have h1:(binOp .neq 37 (fv x) (fv y)).run prog w=.ok (.bool (!decide (x.val%18446744073709551616=y.val%18446744073709551616/\x.val/18446744073709551616%18446744073709551616=y.val/18446744073709551616%18446744073709551616/\x.val/340282366920938463463374607431768211456%18446744073709551616=y.val/340282366920938463463374607431768211456%18446744073709551616/\x.val/6277101735386680763835789423207666416102355444464034512896%18446744073709551616=y.val/6277101735386680763835789423207666416102355444464034512896%18446744073709551616))) w:=Lu _ _ _ _ _ _ _ _ w;rw[h1];simp only[oZ (h.top x) (h.top y),<-Fin.ext_iff]
theorem Nb(h:Fld P){x y:Fin P}(e:x=y)(w:World):(binOp .neq 37 (fv x) (fv y)).run prog w=.ok (.bool false) w:=by rw[neR h,decide_eq_true e];rfl
theorem Na(h:Fld P){x y:Fin P}(e:¬x=y)(w:World):(binOp .neq 37 (fv x) (fv y)).run prog w=.ok (.bool true) w:=by rw[neR h,decide_eq_false e];rfl
theorem Hk:Value.agg #[.int .u64 0,.int .u64 0,.int .u64 0,.int .u64 0,.int .u64 1,.int .u64 0,.int .u64 0,.int .u64 0,.int .u64 0,.int .u64 0,.int .u64 0,.int .u64 0]=.agg (([.int .u64 0,.int .u64 0,.int .u64 0,.int .u64 0]:List Value)++(([.int .u64 1,.int .u64 0,.int .u64 0,.int .u64 0]:List Value)++([.int .u64 0,.int .u64 0,.int .u64 0,.int .u64 0]:List Value))).toArray:=rfl
theorem BO(h:Fld P)(w:World):(Instr.build 41 #[(1,fv (1:Fin P))]).run prog w=.ok (rv (0:Fin P) 1 0) w:=by
 unfold rv;rw[<-qQ,<-KF h,<-wN h,<-Hk];kernel_rfl
theorem IG(h:Fl3 P){m y:Fin P}(e:rt m=some y):Gives 101 #[rv0,fv m] (.tuple #[fv y,.bool true]):=fun w =>
 (uN _ _ _ _ _ _ _ _ P _ m.val h.ref h.p4 (h.four m) w).mono (by rintro e' w' ⟨v,rfl,hb,hF⟩;exact⟨_,rfl,hb,hF.val.1 y e⟩)
theorem IH(h:Fl3 P){m:Fin P}(e:rt m=none):Gives 101 #[rv0,fv m] (.tuple #[fv (0:Fin P),.bool false]):=fun w =>
 (uN _ _ _ _ _ _ _ _ P _ m.val h.ref h.p4 (h.four m) w).mono (by rintro e' w' ⟨v,rfl,hb,hF⟩;exact⟨_,rfl,hb,hF.val.2 e⟩)
theorem u33:(prog.underlying 37).map (·.isRow)=some true:=by kernel_rfl
theorem i33:(prog.info? 37).map (·.size)=some 4:=by kernel_rfl
theorem u56:(prog.underlying 41).map (·.isRow)=some true:=by kernel_rfl
theorem i56:(prog.info? 41).map (·.size)=some 12:=by kernel_rfl
theorem u35:(prog.underlying 65).map (·.isRow)=some true:=by kernel_rfl
theorem i35:(prog.info? 65).map (·.size)=some 8:=by kernel_rfl
theorem bR:Gives 31 #[] rv0:=by
 intro w;go_enter Tryz.func31,Tryz.ntmps31;refine RG.M.enter [] 2 (by kernel_rfl) ?_;intro a0 M0;repeat refine wp_seq ?_
 refine M0.t [.m 0 [] 0] [(0,(RG.z 8))] [] [(RG.z 8)] [(0,(.p 0 0))] ⟨RG.mk 0 65,trivial⟩ ?_;intro j1 a1 w1 M1;repeat refine wp_seq ?_
 refine M1.t [.c 1 [] rv0,.u [(1,0)] 0] [] [(0,1,rl0)] [rl0] [(0,(.p 0 0))] ⟨RG.cl (II),RG.pt i35,trivial⟩ ?_;intro a2 w2 M2;refine wp_ret ?_;refine bodyPost_ret (v:=rv0) (RG.aD M2.st 0 65 rfl 0 _ rfl (M2.at (s:=(.p 0 0))) u35 i35) M2.sl.defers ?_;exact⟨_,rfl,M2.st.bel.below,rfl⟩
theorem B7(C:Fl3 P):Gives 28 #[] (rv (0:Fin P) 1 0):=by
 intro w;have hfin:((rv (0:Fin P) (1:Fin P) (0:Fin P)):Value)=(rv (0:Fin P) 1 0):=by
  subst_vars;rfl
 rw[<-hfin];go_enter Tryz.func28,Tryz.ntmps28;refine RG.M.enter [] 3 (by kernel_rfl) ?_;intro a0 M0;repeat refine wp_seq ?_
 refine M0.t [.m 0 [] 0] [(0,(RG.z 12))] [] [(RG.z 12)] [(0,(.p 0 0))] ⟨RG.mk 0 41,trivial⟩ ?_;intro j1 a1 w1 M1;repeat refine wp_seq ?_
 refine M1.t [.c 1 [] (fv (1:Fin P)),.x 2 [(1,0)] (rv (0:Fin P) (1:Fin P) (0:Fin P)),.u [(2,1)] 0] [] [(0,2,(ws (0:Fin P)++(ws (1:Fin P)++(ws (0:Fin P)))))] [(ws (0:Fin P)++(ws (1:Fin P)++(ws (0:Fin P))))] [(0,(.p 0 0))] ⟨RG.cl (pC C),RG.Ab rfl 41 1 1 rfl (fv (1:Fin P)) (rv (0:Fin P) (1:Fin P) (0:Fin P)) rfl RG.sx (BO C.toFld),RG.pt i56,trivial⟩ ?_;intro a2 w2 M2;refine wp_ret ?_;refine bodyPost_ret (v:=(rv (0:Fin P) (1:Fin P) (0:Fin P))) (RG.aD M2.st 0 41 rfl 0 _ rfl (M2.at (s:=(.p 0 0))) u56 i56) M2.sl.defers ?_;exact⟨_,rfl,M2.st.bel.below,rfl⟩
theorem B9(C:Fl3 P)(x y z:Fin P)(hz:z=0):Gives 30 #[(rv x y z)] (.bool true):=by
 intro w;go_enter Tryz.func30,Tryz.ntmps30;refine RG.M.enter [(0,(.v (rv x y z)))] 6 (by kernel_rfl) ?_;intro a0 M0;repeat refine wp_seq ?_
 refine M0.t [.m 1 [] 0,.x 2 [] (.bool false)] [(0,(ws x++(ws y++(ws z))))] [] [(ws x++(ws y++(ws z)))] [(1,(.p 0 0)),(2,(.v (.bool false)))] ⟨RG.mk 0 41,RG.st,trivial⟩ ?_;intro j1 a1 w1 M1;repeat refine wp_seq ?_
 refine M1.u [.s 3 [] (.p 0 8),.x 4 [(3,0)] (fv z),.c 5 [(4,1)] (.bool true),.x 2 [(5,2)] (.bool true)] [(2,(.v (.bool true)))] ⟨RG.st,RG.ld u33 i33,RG.cl (ID C hz),RG.st,trivial⟩ ?_;intro a2 w2 M2;refine wp_ret ?_;refine bodyPost_ret (v:=(.bool true)) (RG.cQ 2 rfl _ (M2.at (s:=(.v (.bool true))))) M2.sl.defers ?_;exact⟨_,rfl,M2.st.bel.below,rfl⟩
theorem xO(C:Fl3 P)(x y z:Fin P)(hz:¬z=0):Gives 30 #[(rv x y z)] (.bool false):=by
 intro w;go_enter Tryz.func30,Tryz.ntmps30;refine RG.M.enter [(0,(.v (rv x y z)))] 6 (by kernel_rfl) ?_;intro a0 M0;repeat refine wp_seq ?_
 refine M0.t [.m 1 [] 0,.x 2 [] (.bool false)] [(0,(ws x++(ws y++(ws z))))] [] [(ws x++(ws y++(ws z)))] [(1,(.p 0 0)),(2,(.v (.bool false)))] ⟨RG.mk 0 41,RG.st,trivial⟩ ?_;intro j1 a1 w1 M1;repeat refine wp_seq ?_
 refine M1.u [.s 3 [] (.p 0 8),.x 4 [(3,0)] (fv z),.c 5 [(4,1)] (.bool false),.x 2 [(5,2)] (.bool false)] [(2,(.v (.bool false)))] ⟨RG.st,RG.ld u33 i33,RG.cl (Cs C hz),RG.st,trivial⟩ ?_;intro a2 w2 M2;refine wp_ret ?_;refine bodyPost_ret (v:=(.bool false)) (RG.cQ 2 rfl _ (M2.at (s:=(.v (.bool false))))) M2.sl.defers ?_;exact⟨_,rfl,M2.st.bel.below,rfl⟩
theorem DF(C:Fl3 P)(x y z:Fin P):Gives 34 #[(rv x y z)] (rv ((EC.fdE y z)*(EC.fdT x y z)) ((EC.fdD x)*(x*((EC.fdE y z)*(EC.fdE y z))-(EC.fdT x y z))-y*((EC.fdE y z)*(EC.fdE y z)*(EC.fdE y z))) ((EC.fdE y z)*(EC.fdE y z)*(EC.fdE y z)*z)):=by
 intro w;obtain⟨c1,hc1⟩:∃c,c=x*x:=⟨_,rfl⟩
 obtain⟨c2,hc2⟩:∃c,c=c1+c1:=⟨_,rfl⟩
 obtain⟨c3,hc3⟩:∃c,c=c2+c1:=⟨_,rfl⟩
 obtain⟨c4,hc4⟩:∃c,c=y+y:=⟨_,rfl⟩
 obtain⟨c5,hc5⟩:∃c,c=c4*z:=⟨_,rfl⟩
 obtain⟨c6,hc6⟩:∃c,c=c5*c5:=⟨_,rfl⟩
 obtain⟨c7,hc7⟩:∃c,c=c6*c5:=⟨_,rfl⟩
 obtain⟨c8,hc8⟩:∃c,c=c3*c3:=⟨_,rfl⟩
 obtain⟨c9,hc9⟩:∃c,c=c8*z:=⟨_,rfl⟩
 obtain⟨c10,hc10⟩:∃c,c=x+x:=⟨_,rfl⟩
 obtain⟨c11,hc11⟩:∃c,c=c10*c6:=⟨_,rfl⟩
 obtain⟨c12,hc12⟩:∃c,c=c9-c11:=⟨_,rfl⟩
 obtain⟨c13,hc13⟩:∃c,c=c5*c12:=⟨_,rfl⟩
 obtain⟨c14,hc14⟩:∃c,c=x*c6:=⟨_,rfl⟩
 obtain⟨c15,hc15⟩:∃c,c=c14-c12:=⟨_,rfl⟩
 obtain⟨c16,hc16⟩:∃c,c=c3*c15:=⟨_,rfl⟩
 obtain⟨c17,hc17⟩:∃c,c=y*c7:=⟨_,rfl⟩
 obtain⟨c18,hc18⟩:∃c,c=c16-c17:=⟨_,rfl⟩
 obtain⟨c19,hc19⟩:∃c,c=c7*z:=⟨_,rfl⟩
 have hfin:((rv c13 c18 c19):Value)=(rv ((EC.fdE y z)*(EC.fdT x y z)) ((EC.fdD x)*(x*((EC.fdE y z)*(EC.fdE y z))-(EC.fdT x y z))-y*((EC.fdE y z)*(EC.fdE y z)*(EC.fdE y z))) ((EC.fdE y z)*(EC.fdE y z)*(EC.fdE y z)*z)):=by
  subst_vars;rfl
 rw[<-hfin];go_enter Tryz.func34,Tryz.ntmps34;refine RG.M.enter [(0,(.v (rv x y z)))] 91 (by kernel_rfl) ?_;intro a0 M0;repeat refine wp_seq ?_
 refine M0.t [.m 1 [] 0,.m 2 [] 1] [(0,(ws x++(ws y++(ws z)))),(1,(RG.z 12))] [] [(ws x++(ws y++(ws z))),(RG.z 12)] [(1,(.p 0 0)),(2,(.p 1 0))] ⟨RG.mk 0 41,RG.mk 1 41,trivial⟩ ?_;intro j1 i1 a1 w1 M1;repeat refine wp_seq ?_
 refine M1.d [.c 11 [] rv0,.s 12 [] (.p 0 0),.x 13 [(12,1)] (fv x),.s 14 [] (.p 0 0),.x 15 [(14,3)] (fv x),.c 16 [(11,0),(13,2),(15,4)] (fv c1),.m 3 [] 2,.u [(3,6),(16,5)] 2] [(6,(RG.z 4))] [(2,7,(ws c1))] [(ws x++(ws y++(ws z))),(RG.z 12),(ws c1)] [(1,(.p 0 0)),(2,(.p 1 0)),(3,(.p 2 0))] ⟨RG.cl (bR),RG.st,RG.ld u33 i33,RG.st,RG.ld u33 i33,RG.cl ((bE C x x).e hc1),RG.mk 2 37,RG.pt i33,trivial⟩ ?_;intro j2 a2 w2 M2;repeat refine wp_seq ?_
 refine M2.d [.c 17 [] rv0,.c 18 [] rv0,.x 19 [] (fv c1),.x 20 [] (fv c1),.c 21 [(18,1),(19,2),(20,3)] (fv c2),.x 22 [] (fv c1),.c 23 [(17,0),(21,4),(22,5)] (fv c3),.m 4 [] 3,.u [(4,7),(23,6)] 3] [(7,(RG.z 4))] [(3,8,(ws c3))] [(ws x++(ws y++(ws z))),(RG.z 12),(ws c1),(ws c3)] [(1,(.p 0 0)),(2,(.p 1 0)),(4,(.p 3 0))] ⟨RG.cl (bR),RG.cl (bR),RG.ld u33 i33,RG.ld u33 i33,RG.cl ((mT C c1 c1).e hc2),RG.ld u33 i33,RG.cl ((mT C c2 c1).e hc3),RG.mk 3 37,RG.pt i33,trivial⟩ ?_;intro j3 a3 w3 M3;repeat refine wp_seq ?_
 refine M3.d [.c 24 [] rv0,.c 25 [] rv0,.s 26 [] (.p 0 4),.x 27 [(26,2)] (fv y),.s 28 [] (.p 0 4),.x 29 [(28,4)] (fv y),.c 30 [(25,1),(27,3),(29,5)] (fv c4),.s 31 [] (.p 0 8),.x 32 [(31,7)] (fv z),.c 33 [(24,0),(30,6),(32,8)] (fv c5),.m 5 [] 4,.u [(5,10),(33,9)] 4] [(10,(RG.z 4))] [(4,11,(ws c5))] [(ws x++(ws y++(ws z))),(RG.z 12),(ws c1),(ws c3),(ws c5)] [(1,(.p 0 0)),(2,(.p 1 0)),(4,(.p 3 0)),(5,(.p 4 0))] ⟨RG.cl (bR),RG.cl (bR),RG.st,RG.ld u33 i33,RG.st,RG.ld u33 i33,RG.cl ((mT C y y).e hc4),RG.st,RG.ld u33 i33,RG.cl ((bE C c4 z).e hc5),RG.mk 4 37,RG.pt i33,trivial⟩ ?_;intro j4 a4 w4 M4;repeat refine wp_seq ?_
 refine M4.d [.c 34 [] rv0,.x 35 [] (fv c5),.x 36 [] (fv c5),.c 37 [(34,0),(35,1),(36,2)] (fv c6),.m 6 [] 5,.u [(6,4),(37,3)] 5] [(4,(RG.z 4))] [(5,5,(ws c6))] [(ws x++(ws y++(ws z))),(RG.z 12),(ws c1),(ws c3),(ws c5),(ws c6)] [(1,(.p 0 0)),(2,(.p 1 0)),(4,(.p 3 0)),(5,(.p 4 0)),(6,(.p 5 0))] ⟨RG.cl (bR),RG.ld u33 i33,RG.ld u33 i33,RG.cl ((bE C c5 c5).e hc6),RG.mk 5 37,RG.pt i33,trivial⟩ ?_;intro j5 a5 w5 M5;repeat refine wp_seq ?_
 refine M5.d [.c 38 [] rv0,.x 39 [] (fv c6),.x 40 [] (fv c5),.c 41 [(38,0),(39,1),(40,2)] (fv c7),.m 7 [] 6,.u [(7,4),(41,3)] 6] [(4,(RG.z 4))] [(6,5,(ws c7))] [(ws x++(ws y++(ws z))),(RG.z 12),(ws c1),(ws c3),(ws c5),(ws c6),(ws c7)] [(1,(.p 0 0)),(2,(.p 1 0)),(4,(.p 3 0)),(5,(.p 4 0)),(6,(.p 5 0)),(7,(.p 6 0))] ⟨RG.cl (bR),RG.ld u33 i33,RG.ld u33 i33,RG.cl ((bE C c6 c5).e hc7),RG.mk 6 37,RG.pt i33,trivial⟩ ?_;intro j6 a6 w6 M6;repeat refine wp_seq ?_
 refine M6.d [.c 42 [] rv0,.c 43 [] rv0,.c 44 [] rv0,.x 45 [] (fv c3),.x 46 [] (fv c3),.c 47 [(44,2),(45,3),(46,4)] (fv c8),.s 48 [] (.p 0 8),.x 49 [(48,6)] (fv z),.c 50 [(43,1),(47,5),(49,7)] (fv c9),.c 51 [] rv0,.c 52 [] rv0,.s 53 [] (.p 0 0),.x 54 [(53,11)] (fv x),.s 55 [] (.p 0 0),.x 56 [(55,13)] (fv x),.c 57 [(52,10),(54,12),(56,14)] (fv c10),.x 58 [] (fv c6),.c 59 [(51,9),(57,15),(58,16)] (fv c11),.c 60 [(42,0),(50,8),(59,17)] (fv c12),.m 8 [] 7,.u [(8,19),(60,18)] 7] [(19,(RG.z 4))] [(7,20,(ws c12))] [(ws x++(ws y++(ws z))),(RG.z 12),(ws c1),(ws c3),(ws c5),(ws c6),(ws c7),(ws c12)] [(1,(.p 0 0)),(2,(.p 1 0)),(4,(.p 3 0)),(5,(.p 4 0)),(6,(.p 5 0)),(7,(.p 6 0)),(8,(.p 7 0))] ⟨RG.cl (bR),RG.cl (bR),RG.cl (bR),RG.ld u33 i33,RG.ld u33 i33,RG.cl ((bE C c3 c3).e hc8),RG.st,RG.ld u33 i33,RG.cl ((bE C c8 z).e hc9),RG.cl (bR),RG.cl (bR),RG.st,RG.ld u33 i33,RG.st,RG.ld u33 i33,RG.cl ((mT C x x).e hc10),RG.ld u33 i33,RG.cl ((bE C c10 c6).e hc11),RG.cl ((jR C c9 c11).e hc12),RG.mk 7 37,RG.pt i33,trivial⟩ ?_;intro j7 a7 w7 M7;repeat refine wp_seq ?_
 refine M7.d [.c 61 [] rv0,.x 62 [] (fv c5),.x 63 [] (fv c12),.c 64 [(61,0),(62,1),(63,2)] (fv c13),.m 9 [] 8,.u [(9,4),(64,3)] 8] [(4,(RG.z 4))] [(8,5,(ws c13))] [(ws x++(ws y++(ws z))),(RG.z 12),(ws c1),(ws c3),(ws c5),(ws c6),(ws c7),(ws c12),(ws c13)] [(1,(.p 0 0)),(2,(.p 1 0)),(4,(.p 3 0)),(6,(.p 5 0)),(7,(.p 6 0)),(8,(.p 7 0)),(9,(.p 8 0))] ⟨RG.cl (bR),RG.ld u33 i33,RG.ld u33 i33,RG.cl ((bE C c5 c12).e hc13),RG.mk 8 37,RG.pt i33,trivial⟩ ?_;intro j8 a8 w8 M8;repeat refine wp_seq ?_
 refine M8.d [.c 65 [] rv0,.c 66 [] rv0,.x 67 [] (fv c3),.c 68 [] rv0,.c 69 [] rv0,.s 70 [] (.p 0 0),.x 71 [(70,5)] (fv x),.x 72 [] (fv c6),.c 73 [(69,4),(71,6),(72,7)] (fv c14),.x 74 [] (fv c12),.c 75 [(68,3),(73,8),(74,9)] (fv c15),.c 76 [(66,1),(67,2),(75,10)] (fv c16),.c 77 [] rv0,.s 78 [] (.p 0 4),.x 79 [(78,13)] (fv y),.x 80 [] (fv c7),.c 81 [(77,12),(79,14),(80,15)] (fv c17),.c 82 [(65,0),(76,11),(81,16)] (fv c18),.m 10 [] 9,.u [(10,18),(82,17)] 9] [(18,(RG.z 4))] [(9,19,(ws c18))] [(ws x++(ws y++(ws z))),(RG.z 12),(ws c1),(ws c3),(ws c5),(ws c6),(ws c7),(ws c12),(ws c13),(ws c18)] [(1,(.p 0 0)),(2,(.p 1 0)),(7,(.p 6 0)),(9,(.p 8 0)),(10,(.p 9 0))] ⟨RG.cl (bR),RG.cl (bR),RG.ld u33 i33,RG.cl (bR),RG.cl (bR),RG.st,RG.ld u33 i33,RG.ld u33 i33,RG.cl ((bE C x c6).e hc14),RG.ld u33 i33,RG.cl ((jR C c14 c12).e hc15),RG.cl ((bE C c3 c15).e hc16),RG.cl (bR),RG.st,RG.ld u33 i33,RG.ld u33 i33,RG.cl ((bE C y c7).e hc17),RG.cl ((jR C c16 c17).e hc18),RG.mk 9 37,RG.pt i33,trivial⟩ ?_;intro j9 a9 w9 M9;repeat refine wp_seq ?_
 refine M9.d [.x 83 [] (fv c13),.x 84 [] (fv c18),.c 85 [] rv0,.x 86 [] (fv c7),.s 87 [] (.p 0 8),.x 88 [(87,4)] (fv z),.c 89 [(85,2),(86,3),(88,5)] (fv c19),.x 90 [(83,0),(84,1),(89,6)] (rv c13 c18 c19),.u [(90,7)] 1] [] [(1,8,(ws c13++(ws c18++(ws c19))))] [(ws x++(ws y++(ws z))),(ws c13++(ws c18++(ws c19))),(ws c1),(ws c3),(ws c5),(ws c6),(ws c7),(ws c12),(ws c13),(ws c18)] [(2,(.p 1 0))] ⟨RG.ld u33 i33,RG.ld u33 i33,RG.cl (bR),RG.ld u33 i33,RG.st,RG.ld u33 i33,RG.cl ((bE C c7 z).e hc19),RG.st,RG.pt i56,trivial⟩ ?_;intro a10 w10 M10;refine wp_ret ?_;refine bodyPost_ret (v:=(rv c13 c18 c19)) (RG.aD M10.st 2 41 rfl 1 _ rfl (M10.at (s:=(.p 1 0))) u56 i56) M10.sl.defers ?_;exact⟨_,rfl,M10.st.bel.below,rfl⟩
theorem AX(C:Fl3 P)(x1 y1 z1 x2 y2 z2:Fin P)(R:Value)(ha:z1=0->R=(rv x2 y2 z2))(hb:¬z1=0->z2=0->R=(rv x1 y1 z1))(hd:¬z1=0->¬z2=0->x2*z1=x1*z2->(¬y2*z1=y1*z2/\R=(rv (0:Fin P) 1 0))\/(y2*z1=y1*z2/\¬y2*z1=0/\R=(rv ((EC.fdE y1 z1)*(EC.fdT x1 y1 z1)) ((EC.fdD x1)*(x1*((EC.fdE y1 z1)*(EC.fdE y1 z1))-(EC.fdT x1 y1 z1))-y1*((EC.fdE y1 z1)*(EC.fdE y1 z1)*(EC.fdE y1 z1))) ((EC.fdE y1 z1)*(EC.fdE y1 z1)*(EC.fdE y1 z1)*z1))))(he:¬z1=0->¬z2=0->¬x2*z1=x1*z2->R=(rv ((x2*z1-x1*z2)*EC.frT (y2*z1-y1*z2) (x2*z1-x1*z2) (z1*z2) (x1*z2)) ((y2*z1-y1*z2)*(x1*z2*((x2*z1-x1*z2)*(x2*z1-x1*z2))-EC.frT (y2*z1-y1*z2) (x2*z1-x1*z2) (z1*z2) (x1*z2))-y1*z2*((x2*z1-x1*z2)*(x2*z1-x1*z2)*(x2*z1-x1*z2))) ((x2*z1-x1*z2)*(x2*z1-x1*z2)*(x2*z1-x1*z2)*(z1*z2)))):Gives 13 #[(rv x1 y1 z1),(rv x2 y2 z2)] R:=by
 intro w;obtain⟨c1,hc1⟩:∃c,c=y2*z1:=⟨_,rfl⟩
 obtain⟨c2,hc2⟩:∃c,c=x2*z1:=⟨_,rfl⟩
 obtain⟨c3,hc3⟩:∃c,c=y1*z2:=⟨_,rfl⟩
 obtain⟨c4,hc4⟩:∃c,c=x1*z2:=⟨_,rfl⟩
 go_enter Tryz.func13,Tryz.ntmps13;refine RG.M.enter [(0,(.v (rv x1 y1 z1))),(1,(.v (rv x2 y2 z2)))] 127 (by kernel_rfl) ?_;intro a0 M0;repeat refine wp_seq ?_
 refine M0.t [.m 2 [] 0,.m 3 [] 1,.m 4 [] 2] [(0,(ws x1++(ws y1++(ws z1)))),(1,(ws x2++(ws y2++(ws z2)))),(2,(RG.z 12))] [] [(ws x1++(ws y1++(ws z1))),(ws x2++(ws y2++(ws z2))),(RG.z 12)] [(2,(.p 0 0)),(3,(.p 1 0)),(4,(.p 2 0))] ⟨RG.mk 0 41,RG.mk 1 41,RG.mk 2 41,trivial⟩ ?_;intro j1 i1 m1 a1 w1 M1;repeat refine wp_seq ?_
 by_cases hz1:z1=0
 ·obtain rfl:=ha hz1;refine M1.u [.x 16 [] (rv x1 y1 z1),.c 17 [(16,0)] (.bool true),.x 5 [(17,1)] (.bool true)] [(3,(.p 1 0)),(4,(.p 2 0)),(5,(.v (.bool true)))] ⟨RG.ld u56 i56,RG.cl (B9 C x1 y1 z1 hz1),RG.st,trivial⟩ ?_;intro a2 w2 M2;repeat refine wp_seq ?_
  refine M2.u [.x 18 [] (.bool true)] [(3,(.p 1 0)),(4,(.p 2 0)),(18,(.v (.bool true)))] ⟨RG.st,trivial⟩ ?_;intro a3 w3 M3;repeat refine wp_seq ?_
  refine wp_cond_true M3.ev ?_;repeat refine wp_seq ?_
  refine M3.t [.x 19 [] (rv x2 y2 z2),.u [(19,0)] 2] [] [(2,1,(ws x2++(ws y2++(ws z2))))] [(ws x1++(ws y1++(ws z1))),(ws x2++(ws y2++(ws z2))),(ws x2++(ws y2++(ws z2)))] [(4,(.p 2 0))] ⟨RG.ld u56 i56,RG.pt i56,trivial⟩ ?_;intro a4 w4 M4;refine wp_ret ?_;refine bodyPost_ret (v:=(rv x2 y2 z2)) (RG.aD M4.st 4 41 rfl 2 _ rfl (M4.at (s:=(.p 2 0))) u56 i56) M4.sl.defers ?_;exact⟨_,rfl,M4.st.bel.below,rfl⟩
 refine M1.u [.x 16 [] (rv x1 y1 z1),.c 17 [(16,0)] (.bool false),.x 5 [(17,1)] (.bool false)] [(2,(.p 0 0)),(3,(.p 1 0)),(4,(.p 2 0)),(5,(.v (.bool false)))] ⟨RG.ld u56 i56,RG.cl (xO C x1 y1 z1 hz1),RG.st,trivial⟩ ?_;intro a2 w2 M2;repeat refine wp_seq ?_
 refine M2.u [.x 18 [] (.bool false)] [(2,(.p 0 0)),(3,(.p 1 0)),(4,(.p 2 0)),(5,(.v (.bool false))),(18,(.v (.bool false)))] ⟨RG.st,trivial⟩ ?_;intro a3 w3 M3;repeat refine wp_seq ?_
 refine wp_cond_false M3.ev ?_;refine wp_skip ?_;repeat refine wp_seq ?_
 by_cases hz2:z2=0
 ·obtain rfl:=hb hz1 hz2;refine M3.u [.x 20 [] (rv x2 y2 z2),.c 21 [(20,0)] (.bool true),.x 5 [(21,1)] (.bool true)] [(2,(.p 0 0)),(4,(.p 2 0)),(5,(.v (.bool true)))] ⟨RG.ld u56 i56,RG.cl (B9 C x2 y2 z2 hz2),RG.st,trivial⟩ ?_;intro a4 w4 M4;repeat refine wp_seq ?_
  refine M4.u [.x 22 [] (.bool true)] [(2,(.p 0 0)),(4,(.p 2 0)),(22,(.v (.bool true)))] ⟨RG.st,trivial⟩ ?_;intro a5 w5 M5;repeat refine wp_seq ?_
  refine wp_cond_true M5.ev ?_;repeat refine wp_seq ?_
  refine M5.t [.x 23 [] (rv x1 y1 z1),.u [(23,0)] 2] [] [(2,1,(ws x1++(ws y1++(ws z1))))] [(ws x1++(ws y1++(ws z1))),(ws x2++(ws y2++(ws z2))),(ws x1++(ws y1++(ws z1)))] [(4,(.p 2 0))] ⟨RG.ld u56 i56,RG.pt i56,trivial⟩ ?_;intro a6 w6 M6;refine wp_ret ?_;refine bodyPost_ret (v:=(rv x1 y1 z1)) (RG.aD M6.st 4 41 rfl 2 _ rfl (M6.at (s:=(.p 2 0))) u56 i56) M6.sl.defers ?_;exact⟨_,rfl,M6.st.bel.below,rfl⟩
 refine M3.u [.x 20 [] (rv x2 y2 z2),.c 21 [(20,0)] (.bool false),.x 5 [(21,1)] (.bool false)] [(2,(.p 0 0)),(3,(.p 1 0)),(4,(.p 2 0)),(5,(.v (.bool false)))] ⟨RG.ld u56 i56,RG.cl (xO C x2 y2 z2 hz2),RG.st,trivial⟩ ?_;intro a4 w4 M4;repeat refine wp_seq ?_
 refine M4.u [.x 22 [] (.bool false)] [(2,(.p 0 0)),(3,(.p 1 0)),(4,(.p 2 0)),(22,(.v (.bool false)))] ⟨RG.st,trivial⟩ ?_;intro a5 w5 M5;repeat refine wp_seq ?_
 refine wp_cond_false M5.ev ?_;refine wp_skip ?_;repeat refine wp_seq ?_
 refine M5.d [.c 24 [] rv0,.s 25 [] (.p 1 4),.x 26 [(25,1)] (fv y2),.s 27 [] (.p 0 8),.x 28 [(27,3)] (fv z1),.c 29 [(24,0),(26,2),(28,4)] (fv c1),.m 6 [] 3,.u [(6,6),(29,5)] 3] [(6,(RG.z 4))] [(3,7,(ws c1))] [(ws x1++(ws y1++(ws z1))),(ws x2++(ws y2++(ws z2))),(RG.z 12),(ws c1)] [(2,(.p 0 0)),(3,(.p 1 0)),(4,(.p 2 0)),(6,(.p 3 0))] ⟨RG.cl (bR),RG.st,RG.ld u33 i33,RG.st,RG.ld u33 i33,RG.cl ((bE C y2 z1).e hc1),RG.mk 3 37,RG.pt i33,trivial⟩ ?_;intro j6 a6 w6 M6;repeat refine wp_seq ?_
 refine M6.d [.c 30 [] rv0,.s 31 [] (.p 1 0),.x 32 [(31,1)] (fv x2),.s 33 [] (.p 0 8),.x 34 [(33,3)] (fv z1),.c 35 [(30,0),(32,2),(34,4)] (fv c2),.m 7 [] 4,.u [(7,6),(35,5)] 4] [(6,(RG.z 4))] [(4,7,(ws c2))] [(ws x1++(ws y1++(ws z1))),(ws x2++(ws y2++(ws z2))),(RG.z 12),(ws c1),(ws c2)] [(2,(.p 0 0)),(3,(.p 1 0)),(4,(.p 2 0)),(6,(.p 3 0)),(7,(.p 4 0))] ⟨RG.cl (bR),RG.st,RG.ld u33 i33,RG.st,RG.ld u33 i33,RG.cl ((bE C x2 z1).e hc2),RG.mk 4 37,RG.pt i33,trivial⟩ ?_;intro j7 a7 w7 M7;repeat refine wp_seq ?_
 refine M7.d [.c 36 [] rv0,.s 37 [] (.p 0 4),.x 38 [(37,1)] (fv y1),.s 39 [] (.p 1 8),.x 40 [(39,3)] (fv z2),.c 41 [(36,0),(38,2),(40,4)] (fv c3),.m 8 [] 5,.u [(8,6),(41,5)] 5] [(6,(RG.z 4))] [(5,7,(ws c3))] [(ws x1++(ws y1++(ws z1))),(ws x2++(ws y2++(ws z2))),(RG.z 12),(ws c1),(ws c2),(ws c3)] [(2,(.p 0 0)),(3,(.p 1 0)),(4,(.p 2 0)),(6,(.p 3 0)),(7,(.p 4 0)),(8,(.p 5 0))] ⟨RG.cl (bR),RG.st,RG.ld u33 i33,RG.st,RG.ld u33 i33,RG.cl ((bE C y1 z2).e hc3),RG.mk 5 37,RG.pt i33,trivial⟩ ?_;intro j8 a8 w8 M8;repeat refine wp_seq ?_
 refine M8.d [.c 42 [] rv0,.s 43 [] (.p 0 0),.x 44 [(43,1)] (fv x1),.s 45 [] (.p 1 8),.x 46 [(45,3)] (fv z2),.c 47 [(42,0),(44,2),(46,4)] (fv c4),.m 9 [] 6,.u [(9,6),(47,5)] 6] [(6,(RG.z 4))] [(6,7,(ws c4))] [(ws x1++(ws y1++(ws z1))),(ws x2++(ws y2++(ws z2))),(RG.z 12),(ws c1),(ws c2),(ws c3),(ws c4)] [(2,(.p 0 0)),(3,(.p 1 0)),(4,(.p 2 0)),(6,(.p 3 0)),(7,(.p 4 0)),(8,(.p 5 0)),(9,(.p 6 0))] ⟨RG.cl (bR),RG.st,RG.ld u33 i33,RG.st,RG.ld u33 i33,RG.cl ((bE C x1 z2).e hc4),RG.mk 6 37,RG.pt i33,trivial⟩ ?_;intro j9 a9 w9 M9;repeat refine wp_seq ?_
 by_cases hv:x2*z1=x1*z2
 ·have hR:=hd hz1 hz2 hv;refine M9.u [.x 48 [] (fv c2),.x 49 [] (fv c4),.x 50 [(48,0),(49,1)] (.bool true)] [(2,(.p 0 0)),(4,(.p 2 0)),(6,(.p 3 0)),(8,(.p 5 0)),(50,(.v (.bool true)))] ⟨RG.ld u33 i33,RG.ld u33 i33,RG.aM rfl .eql 37 37 48 49 (fv c2) (fv c4) (.bool true) rfl rfl RG.sx RG.sx (fun w=>by kernel_rfl) (Nx C.toFld (by subst_vars;exact hv)),trivial⟩ ?_;intro a10 w10 M10;repeat refine wp_seq ?_
  refine wp_cond_true M10.ev ?_;repeat refine wp_seq ?_
  rcases hR with⟨hu,rfl⟩|⟨hu,hn,hR⟩
  ·refine M10.u [.x 51 [] (fv c1),.x 52 [] (fv c3),.x 53 [(51,0),(52,1)] (.bool true),.x 54 [(53,2)] (.bool true),⟨some 55,[],(.v undef),.pass⟩,⟨some 56,[],(.v undef),.pass⟩,.x 57 [(54,3),(56,5)] (.bool true)] [(4,(.p 2 0)),(57,(.v (.bool true)))] ⟨RG.ld u33 i33,RG.ld u33 i33,RG.aM rfl .neq 37 37 51 52 (fv c1) (fv c3) (.bool true) rfl rfl RG.sx RG.sx (fun w=>by kernel_rfl) (Na C.toFld (by subst_vars;exact hu)),RG.st,RG.bH rfl rfl,RG.bH rfl rfl,RG.st,trivial⟩ ?_;intro a11 w11 M11;repeat refine wp_seq ?_
   refine wp_cond_true M11.ev ?_;repeat refine wp_seq ?_
   refine M11.t [.c 58 [] (rv (0:Fin P) (1:Fin P) (0:Fin P)),.u [(58,0)] 2] [] [(2,1,(ws (0:Fin P)++(ws (1:Fin P)++(ws (0:Fin P)))))] [(ws x1++(ws y1++(ws z1))),(ws x2++(ws y2++(ws z2))),(ws (0:Fin P)++(ws (1:Fin P)++(ws (0:Fin P)))),(ws c1),(ws c2),(ws c3),(ws c4)] [(4,(.p 2 0))] ⟨RG.cl (B7 C),RG.pt i56,trivial⟩ ?_;intro a12 w12 M12;refine wp_ret ?_;refine bodyPost_ret (v:=(rv (0:Fin P) (1:Fin P) (0:Fin P))) (RG.aD M12.st 4 41 rfl 2 _ rfl (M12.at (s:=(.p 2 0))) u56 i56) M12.sl.defers ?_;exact⟨_,rfl,M12.st.bel.below,rfl⟩
  obtain⟨c5,hc5⟩:∃c,c=(EC.fdE y1 z1)*(EC.fdT x1 y1 z1):=⟨_,rfl⟩
  obtain⟨c6,hc6⟩:∃c,c=(EC.fdD x1)*(x1*((EC.fdE y1 z1)*(EC.fdE y1 z1))-(EC.fdT x1 y1 z1))-y1*((EC.fdE y1 z1)*(EC.fdE y1 z1)*(EC.fdE y1 z1)):=⟨_,rfl⟩
  obtain⟨c7,hc7⟩:∃c,c=(EC.fdE y1 z1)*(EC.fdE y1 z1)*(EC.fdE y1 z1)*z1:=⟨_,rfl⟩
  obtain rfl:R=rv c5 c6 c7:=hR.trans (by subst_vars;rfl);refine M10.u [.x 51 [] (fv c1),.x 52 [] (fv c3),.x 53 [(51,0),(52,1)] (.bool false),.x 54 [(53,2)] (.bool false),.x 55 [] (fv c1),.c 56 [(55,4)] (.bool false),.x 57 [(54,3),(56,5)] (.bool false)] [(2,(.p 0 0)),(4,(.p 2 0)),(57,(.v (.bool false)))] ⟨RG.ld u33 i33,RG.ld u33 i33,RG.aM rfl .neq 37 37 51 52 (fv c1) (fv c3) (.bool false) rfl rfl RG.sx RG.sx (fun w=>by kernel_rfl) (Nb C.toFld (by subst_vars;exact hu)),RG.st,RG.ld u33 i33,RG.cl (f:=33) (args:=#[(fv c1)]) (v:=(.bool false)) (Cs C (by subst_vars;exact hn)),RG.st,trivial⟩ ?_;intro a11 w11 M11;repeat refine wp_seq ?_
  refine wp_cond_false M11.ev ?_;refine wp_skip ?_;repeat refine wp_seq ?_
  refine M11.t [.x 59 [] (rv x1 y1 z1),.c 60 [(59,0)] (rv c5 c6 c7),.u [(60,1)] 2] [] [(2,2,(ws c5++(ws c6++(ws c7))))] [(ws x1++(ws y1++(ws z1))),(ws x2++(ws y2++(ws z2))),(ws c5++(ws c6++(ws c7))),(ws c1),(ws c2),(ws c3),(ws c4)] [(4,(.p 2 0))] ⟨RG.ld u56 i56,RG.cl ((DF C x1 y1 z1).e3 hc5 hc6 hc7),RG.pt i56,trivial⟩ ?_;intro a12 w12 M12;refine wp_ret ?_;refine bodyPost_ret (v:=(rv c5 c6 c7)) (RG.aD M12.st 4 41 rfl 2 _ rfl (M12.at (s:=(.p 2 0))) u56 i56) M12.sl.defers ?_;exact⟨_,rfl,M12.st.bel.below,rfl⟩
 have hR:=he hz1 hz2 hv;obtain⟨c5,hc5⟩:∃c,c=c1-c3:=⟨_,rfl⟩
 obtain⟨c6,hc6⟩:∃c,c=c2-c4:=⟨_,rfl⟩
 obtain⟨c7,hc7⟩:∃c,c=z1*z2:=⟨_,rfl⟩
 obtain⟨c8,hc8⟩:∃c,c=c6*c6:=⟨_,rfl⟩
 obtain⟨c9,hc9⟩:∃c,c=c8*c6:=⟨_,rfl⟩
 obtain⟨c10,hc10⟩:∃c,c=c5*c5:=⟨_,rfl⟩
 obtain⟨c11,hc11⟩:∃c,c=c10*c7:=⟨_,rfl⟩
 obtain⟨c12,hc12⟩:∃c,c=c11-c9:=⟨_,rfl⟩
 obtain⟨c13,hc13⟩:∃c,c=c4+c4:=⟨_,rfl⟩
 obtain⟨c14,hc14⟩:∃c,c=c13*c8:=⟨_,rfl⟩
 obtain⟨c15,hc15⟩:∃c,c=c12-c14:=⟨_,rfl⟩
 obtain⟨c16,hc16⟩:∃c,c=c6*c15:=⟨_,rfl⟩
 obtain⟨c17,hc17⟩:∃c,c=c4*c8:=⟨_,rfl⟩
 obtain⟨c18,hc18⟩:∃c,c=c17-c15:=⟨_,rfl⟩
 obtain⟨c19,hc19⟩:∃c,c=c5*c18:=⟨_,rfl⟩
 obtain⟨c20,hc20⟩:∃c,c=c3*c9:=⟨_,rfl⟩
 obtain⟨c21,hc21⟩:∃c,c=c19-c20:=⟨_,rfl⟩
 obtain⟨c22,hc22⟩:∃c,c=c9*c7:=⟨_,rfl⟩
 obtain rfl:R=rv c16 c21 c22:=hR.trans (by subst_vars;rfl);refine M9.u [.x 48 [] (fv c2),.x 49 [] (fv c4),.x 50 [(48,0),(49,1)] (.bool false)] [(2,(.p 0 0)),(3,(.p 1 0)),(4,(.p 2 0)),(6,(.p 3 0)),(7,(.p 4 0)),(8,(.p 5 0)),(9,(.p 6 0)),(50,(.v (.bool false)))] ⟨RG.ld u33 i33,RG.ld u33 i33,RG.aM rfl .eql 37 37 48 49 (fv c2) (fv c4) (.bool false) rfl rfl RG.sx RG.sx (fun w=>by kernel_rfl) (Ny C.toFld (by subst_vars;exact hv)),trivial⟩ ?_;intro a10 w10 M10;repeat refine wp_seq ?_
 refine wp_cond_false M10.ev ?_;refine wp_skip ?_;repeat refine wp_seq ?_
 refine M10.d [.c 61 [] rv0,.x 62 [] (fv c1),.x 63 [] (fv c3),.c 64 [(61,0),(62,1),(63,2)] (fv c5),.m 10 [] 7,.u [(10,4),(64,3)] 7] [(4,(RG.z 4))] [(7,5,(ws c5))] [(ws x1++(ws y1++(ws z1))),(ws x2++(ws y2++(ws z2))),(RG.z 12),(ws c1),(ws c2),(ws c3),(ws c4),(ws c5)] [(2,(.p 0 0)),(3,(.p 1 0)),(4,(.p 2 0)),(7,(.p 4 0)),(8,(.p 5 0)),(9,(.p 6 0)),(10,(.p 7 0))] ⟨RG.cl (bR),RG.ld u33 i33,RG.ld u33 i33,RG.cl ((jR C c1 c3).e hc5),RG.mk 7 37,RG.pt i33,trivial⟩ ?_;intro j11 a11 w11 M11;repeat refine wp_seq ?_
 refine M11.d [.c 65 [] rv0,.x 66 [] (fv c2),.x 67 [] (fv c4),.c 68 [(65,0),(66,1),(67,2)] (fv c6),.m 11 [] 8,.u [(11,4),(68,3)] 8] [(4,(RG.z 4))] [(8,5,(ws c6))] [(ws x1++(ws y1++(ws z1))),(ws x2++(ws y2++(ws z2))),(RG.z 12),(ws c1),(ws c2),(ws c3),(ws c4),(ws c5),(ws c6)] [(2,(.p 0 0)),(3,(.p 1 0)),(4,(.p 2 0)),(8,(.p 5 0)),(9,(.p 6 0)),(10,(.p 7 0)),(11,(.p 8 0))] ⟨RG.cl (bR),RG.ld u33 i33,RG.ld u33 i33,RG.cl ((jR C c2 c4).e hc6),RG.mk 8 37,RG.pt i33,trivial⟩ ?_;intro j12 a12 w12 M12;repeat refine wp_seq ?_
 refine M12.d [.c 69 [] rv0,.s 70 [] (.p 0 8),.x 71 [(70,1)] (fv z1),.s 72 [] (.p 1 8),.x 73 [(72,3)] (fv z2),.c 74 [(69,0),(71,2),(73,4)] (fv c7),.m 12 [] 9,.u [(12,6),(74,5)] 9] [(6,(RG.z 4))] [(9,7,(ws c7))] [(ws x1++(ws y1++(ws z1))),(ws x2++(ws y2++(ws z2))),(RG.z 12),(ws c1),(ws c2),(ws c3),(ws c4),(ws c5),(ws c6),(ws c7)] [(4,(.p 2 0)),(8,(.p 5 0)),(9,(.p 6 0)),(10,(.p 7 0)),(11,(.p 8 0)),(12,(.p 9 0))] ⟨RG.cl (bR),RG.st,RG.ld u33 i33,RG.st,RG.ld u33 i33,RG.cl ((bE C z1 z2).e hc7),RG.mk 9 37,RG.pt i33,trivial⟩ ?_;intro j13 a13 w13 M13;repeat refine wp_seq ?_
 refine M13.d [.c 75 [] rv0,.x 76 [] (fv c6),.x 77 [] (fv c6),.c 78 [(75,0),(76,1),(77,2)] (fv c8),.m 13 [] 10,.u [(13,4),(78,3)] 10] [(4,(RG.z 4))] [(10,5,(ws c8))] [(ws x1++(ws y1++(ws z1))),(ws x2++(ws y2++(ws z2))),(RG.z 12),(ws c1),(ws c2),(ws c3),(ws c4),(ws c5),(ws c6),(ws c7),(ws c8)] [(4,(.p 2 0)),(8,(.p 5 0)),(9,(.p 6 0)),(10,(.p 7 0)),(11,(.p 8 0)),(12,(.p 9 0)),(13,(.p 10 0))] ⟨RG.cl (bR),RG.ld u33 i33,RG.ld u33 i33,RG.cl ((bE C c6 c6).e hc8),RG.mk 10 37,RG.pt i33,trivial⟩ ?_;intro j14 a14 w14 M14;repeat refine wp_seq ?_
 refine M14.d [.c 79 [] rv0,.x 80 [] (fv c8),.x 81 [] (fv c6),.c 82 [(79,0),(80,1),(81,2)] (fv c9),.m 14 [] 11,.u [(14,4),(82,3)] 11] [(4,(RG.z 4))] [(11,5,(ws c9))] [(ws x1++(ws y1++(ws z1))),(ws x2++(ws y2++(ws z2))),(RG.z 12),(ws c1),(ws c2),(ws c3),(ws c4),(ws c5),(ws c6),(ws c7),(ws c8),(ws c9)] [(4,(.p 2 0)),(8,(.p 5 0)),(9,(.p 6 0)),(10,(.p 7 0)),(11,(.p 8 0)),(12,(.p 9 0)),(13,(.p 10 0)),(14,(.p 11 0))] ⟨RG.cl (bR),RG.ld u33 i33,RG.ld u33 i33,RG.cl ((bE C c8 c6).e hc9),RG.mk 11 37,RG.pt i33,trivial⟩ ?_;intro j15 a15 w15 M15;repeat refine wp_seq ?_
 refine M15.d [.c 83 [] rv0,.c 84 [] rv0,.c 85 [] rv0,.c 86 [] rv0,.x 87 [] (fv c5),.x 88 [] (fv c5),.c 89 [(86,3),(87,4),(88,5)] (fv c10),.x 90 [] (fv c7),.c 91 [(85,2),(89,6),(90,7)] (fv c11),.x 92 [] (fv c9),.c 93 [(84,1),(91,8),(92,9)] (fv c12),.c 94 [] rv0,.c 95 [] rv0,.x 96 [] (fv c4),.x 97 [] (fv c4),.c 98 [(95,12),(96,13),(97,14)] (fv c13),.x 99 [] (fv c8),.c 100 [(94,11),(98,15),(99,16)] (fv c14),.c 101 [(83,0),(93,10),(100,17)] (fv c15),.m 15 [] 12,.u [(15,19),(101,18)] 12] [(19,(RG.z 4))] [(12,20,(ws c15))] [(ws x1++(ws y1++(ws z1))),(ws x2++(ws y2++(ws z2))),(RG.z 12),(ws c1),(ws c2),(ws c3),(ws c4),(ws c5),(ws c6),(ws c7),(ws c8),(ws c9),(ws c15)] [(4,(.p 2 0)),(8,(.p 5 0)),(9,(.p 6 0)),(10,(.p 7 0)),(11,(.p 8 0)),(12,(.p 9 0)),(13,(.p 10 0)),(14,(.p 11 0)),(15,(.p 12 0))] ⟨RG.cl (bR),RG.cl (bR),RG.cl (bR),RG.cl (bR),RG.ld u33 i33,RG.ld u33 i33,RG.cl ((bE C c5 c5).e hc10),RG.ld u33 i33,RG.cl ((bE C c10 c7).e hc11),RG.ld u33 i33,RG.cl ((jR C c11 c9).e hc12),RG.cl (bR),RG.cl (bR),RG.ld u33 i33,RG.ld u33 i33,RG.cl ((mT C c4 c4).e hc13),RG.ld u33 i33,RG.cl ((bE C c13 c8).e hc14),RG.cl ((jR C c12 c14).e hc15),RG.mk 12 37,RG.pt i33,trivial⟩ ?_;intro j16 a16 w16 M16;repeat refine wp_seq ?_
 refine M16.d [.c 102 [] rv0,.x 103 [] (fv c6),.x 104 [] (fv c15),.c 105 [(102,0),(103,1),(104,2)] (fv c16),.c 106 [] rv0,.c 107 [] rv0,.x 108 [] (fv c5),.c 109 [] rv0,.c 110 [] rv0,.x 111 [] (fv c4),.x 112 [] (fv c8),.c 113 [(110,8),(111,9),(112,10)] (fv c17),.x 114 [] (fv c15),.c 115 [(109,7),(113,11),(114,12)] (fv c18),.c 116 [(107,5),(108,6),(115,13)] (fv c19),.c 117 [] rv0,.x 118 [] (fv c3),.x 119 [] (fv c9),.c 120 [(117,15),(118,16),(119,17)] (fv c20),.c 121 [(106,4),(116,14),(120,18)] (fv c21),.c 122 [] rv0,.x 123 [] (fv c9),.x 124 [] (fv c7),.c 125 [(122,20),(123,21),(124,22)] (fv c22),.x 126 [(105,3),(121,19),(125,23)] (rv c16 c21 c22),.u [(126,24)] 2] [] [(2,25,(ws c16++(ws c21++(ws c22))))] [(ws x1++(ws y1++(ws z1))),(ws x2++(ws y2++(ws z2))),(ws c16++(ws c21++(ws c22))),(ws c1),(ws c2),(ws c3),(ws c4),(ws c5),(ws c6),(ws c7),(ws c8),(ws c9),(ws c15)] [(4,(.p 2 0))] ⟨RG.cl (bR),RG.ld u33 i33,RG.ld u33 i33,RG.cl ((bE C c6 c15).e hc16),RG.cl (bR),RG.cl (bR),RG.ld u33 i33,RG.cl (bR),RG.cl (bR),RG.ld u33 i33,RG.ld u33 i33,RG.cl ((bE C c4 c8).e hc17),RG.ld u33 i33,RG.cl ((jR C c17 c15).e hc18),RG.cl ((bE C c5 c18).e hc19),RG.cl (bR),RG.ld u33 i33,RG.ld u33 i33,RG.cl ((bE C c3 c9).e hc20),RG.cl ((jR C c19 c20).e hc21),RG.cl (bR),RG.ld u33 i33,RG.ld u33 i33,RG.cl ((bE C c9 c7).e hc22),RG.st,RG.pt i56,trivial⟩ ?_;intro a17 w17 M17;refine wp_ret ?_;refine bodyPost_ret (v:=(rv c16 c21 c22)) (RG.aD M17.st 4 41 rfl 2 _ rfl (M17.at (s:=(.p 2 0))) u56 i56) M17.sl.defers ?_;exact⟨_,rfl,M17.st.bel.below,rfl⟩
theorem Cr(C:Fl3 P)(x y:Fin P)(hr:rt (x*x*x+7)=some y):Gives 67 #[(fv x)] (.tuple #[rv x y 1,.bool true]):=by
 intro w;obtain⟨c1,hc1⟩:∃c,c=x*x:=⟨_,rfl⟩
 obtain⟨c2,hc2⟩:∃c,c=c1*x:=⟨_,rfl⟩
 obtain⟨c3,hc3⟩:∃c,c=c2+(7:Fin P):=⟨_,rfl⟩
 have hfin:((.tuple #[(rv x y (1:Fin P)),(.bool true)]):Value)=(.tuple #[rv x y 1,.bool true]):=by
  subst_vars;rfl
 rw[<-hfin];go_enter Tryz.func67,Tryz.ntmps67;refine RG.M.enter [(0,(.v (fv x)))] 26 (by kernel_rfl) ?_;intro a0 M0;repeat refine wp_seq ?_
 refine M0.t [.m 1 [] 0,.m 2 [] 1,.x 3 [] (.bool false)] [(0,(ws x)),(1,(RG.z 12))] [] [(ws x),(RG.z 12)] [(1,(.p 0 0)),(2,(.p 1 0)),(3,(.v (.bool false)))] ⟨RG.mk 0 37,RG.mk 1 41,RG.st,trivial⟩ ?_;intro j1 i1 a1 w1 M1;repeat refine wp_seq ?_
 refine M1.d [.c 7 [] rv0,.c 8 [] rv0,.c 9 [] rv0,.c 10 [] rv0,.x 11 [] (fv x),.x 12 [] (fv x),.c 13 [(10,3),(11,4),(12,5)] (fv c1),.x 14 [] (fv x),.c 15 [(9,2),(13,6),(14,7)] (fv c2),.c 16 [] (fv (7:Fin P)),.c 17 [(8,1),(15,8),(16,9)] (fv c3),.c 18 [(7,0),(17,10)] (.tuple #[(fv y),(.bool true)]),.x 6 [(18,11)] (.tuple #[(fv y),(.bool true)]),.x 19 [(6,12)] (fv y),.x 20 [(6,12)] (.bool true),.m 4 [] 2,.u [(4,15),(19,13)] 2,.x 5 [(20,14)] (.bool true)] [(15,(RG.z 4))] [(2,16,(ws y))] [(ws x),(RG.z 12),(ws y)] [(1,(.p 0 0)),(2,(.p 1 0)),(3,(.v (.bool false))),(4,(.p 2 0)),(5,(.v (.bool true)))] ⟨RG.cl (bR),RG.cl (bR),RG.cl (bR),RG.cl (bR),RG.ld u33 i33,RG.ld u33 i33,RG.cl ((bE C x x).e hc1),RG.ld u33 i33,RG.cl ((bE C c1 x).e hc2),RG.cl (uO C),RG.cl ((mT C c2 (7:Fin P)).e hc3),RG.cl (f:=101) (args:=#[rv0,(fv c3)]) (v:=(.tuple #[(fv y),(.bool true)])) (IG C (by subst_vars;exact hr)),RG.st,RG.st,RG.st,RG.mk 2 37,RG.pt i33,RG.st,trivial⟩ ?_;intro j2 a2 w2 M2;repeat refine wp_seq ?_
 refine M2.d [.x 21 [] (fv x),.x 22 [] (fv y),.c 23 [] (fv (1:Fin P)),.x 24 [(21,0),(22,1),(23,2)] (rv x y (1:Fin P)),.x 25 [] (.bool true),.u [(24,3)] 1,.x 3 [(25,4)] (.bool true)] [] [(1,5,(ws x++(ws y++(ws (1:Fin P)))))] [(ws x),(ws x++(ws y++(ws (1:Fin P)))),(ws y)] [(2,(.p 1 0)),(3,(.v (.bool true)))] ⟨RG.ld u33 i33,RG.ld u33 i33,RG.cl (pC C),RG.st,RG.st,RG.pt i56,RG.st,trivial⟩ ?_;intro a3 w3 M3;refine wp_ret ?_;refine bodyPost_ret (v:=(.tuple #[(rv x y (1:Fin P)),(.bool true)])) (RG.aW M3.st 2 3 41 rfl 1 _ rfl (M3.at (s:=(.p 1 0))) _ (M3.at (s:=(.v (.bool true)))) u56 i56) M3.sl.defers ?_;exact⟨_,rfl,M3.st.bel.below,rfl⟩
theorem IC(C:Fl3 P)(x:Fin P)(hr:rt (x*x*x+7)=none):Gives 67 #[(fv x)] (.tuple #[rv x 0 1,.bool false]):=by
 intro w;obtain⟨c1,hc1⟩:∃c,c=x*x:=⟨_,rfl⟩
 obtain⟨c2,hc2⟩:∃c,c=c1*x:=⟨_,rfl⟩
 obtain⟨c3,hc3⟩:∃c,c=c2+(7:Fin P):=⟨_,rfl⟩
 have hfin:((.tuple #[(rv x (0:Fin P) (1:Fin P)),(.bool false)]):Value)=(.tuple #[rv x 0 1,.bool false]):=by
  subst_vars;rfl
 rw[<-hfin];go_enter Tryz.func67,Tryz.ntmps67;refine RG.M.enter [(0,(.v (fv x)))] 26 (by kernel_rfl) ?_;intro a0 M0;repeat refine wp_seq ?_
 refine M0.t [.m 1 [] 0,.m 2 [] 1,.x 3 [] (.bool false)] [(0,(ws x)),(1,(RG.z 12))] [] [(ws x),(RG.z 12)] [(1,(.p 0 0)),(2,(.p 1 0)),(3,(.v (.bool false)))] ⟨RG.mk 0 37,RG.mk 1 41,RG.st,trivial⟩ ?_;intro j1 i1 a1 w1 M1;repeat refine wp_seq ?_
 refine M1.d [.c 7 [] rv0,.c 8 [] rv0,.c 9 [] rv0,.c 10 [] rv0,.x 11 [] (fv x),.x 12 [] (fv x),.c 13 [(10,3),(11,4),(12,5)] (fv c1),.x 14 [] (fv x),.c 15 [(9,2),(13,6),(14,7)] (fv c2),.c 16 [] (fv (7:Fin P)),.c 17 [(8,1),(15,8),(16,9)] (fv c3),.c 18 [(7,0),(17,10)] (.tuple #[(fv (0:Fin P)),(.bool false)]),.x 6 [(18,11)] (.tuple #[(fv (0:Fin P)),(.bool false)]),.x 19 [(6,12)] (fv (0:Fin P)),.x 20 [(6,12)] (.bool false),.m 4 [] 2,.u [(4,15),(19,13)] 2,.x 5 [(20,14)] (.bool false)] [(15,(RG.z 4))] [(2,16,(ws (0:Fin P)))] [(ws x),(RG.z 12),(ws (0:Fin P))] [(1,(.p 0 0)),(2,(.p 1 0)),(3,(.v (.bool false))),(4,(.p 2 0)),(5,(.v (.bool false)))] ⟨RG.cl (bR),RG.cl (bR),RG.cl (bR),RG.cl (bR),RG.ld u33 i33,RG.ld u33 i33,RG.cl ((bE C x x).e hc1),RG.ld u33 i33,RG.cl ((bE C c1 x).e hc2),RG.cl (uO C),RG.cl ((mT C c2 (7:Fin P)).e hc3),RG.cl (f:=101) (args:=#[rv0,(fv c3)]) (v:=(.tuple #[(fv (0:Fin P)),(.bool false)])) (IH C (by subst_vars;exact hr)),RG.st,RG.st,RG.st,RG.mk 2 37,RG.pt i33,RG.st,trivial⟩ ?_;intro j2 a2 w2 M2;repeat refine wp_seq ?_
 refine M2.d [.x 21 [] (fv x),.x 22 [] (fv (0:Fin P)),.c 23 [] (fv (1:Fin P)),.x 24 [(21,0),(22,1),(23,2)] (rv x (0:Fin P) (1:Fin P)),.x 25 [] (.bool false),.u [(24,3)] 1,.x 3 [(25,4)] (.bool false)] [] [(1,5,(ws x++(ws (0:Fin P)++(ws (1:Fin P)))))] [(ws x),(ws x++(ws (0:Fin P)++(ws (1:Fin P)))),(ws (0:Fin P))] [(2,(.p 1 0)),(3,(.v (.bool false)))] ⟨RG.ld u33 i33,RG.ld u33 i33,RG.cl (pC C),RG.st,RG.st,RG.pt i56,RG.st,trivial⟩ ?_;intro a3 w3 M3;refine wp_ret ?_;refine bodyPost_ret (v:=(.tuple #[(rv x (0:Fin P) (1:Fin P)),(.bool false)])) (RG.aW M3.st 2 3 41 rfl 1 _ rfl (M3.at (s:=(.p 1 0))) _ (M3.at (s:=(.v (.bool false)))) u56 i56) M3.sl.defers ?_;exact⟨_,rfl,M3.st.bel.below,rfl⟩
end
section
open Go.RowKit Go.Sort Go.Deep
variable {P:Nat}[NeZero P]{N:Nat}
def z12:Array Value:=#[.int .u64 0,.int .u64 0,.int .u64 0,.int .u64 0,.int .u64 0,.int .u64 0,.int .u64 0,.int .u64 0,.int .u64 0,.int .u64 0,.int .u64 0,.int .u64 0]
def W5(w:World):World:=(w.alloc (.cells z12 41)).alloc (.cells (madeCells #[.int .u8 0] 33) 5)
theorem Ck{a b:Bs}(h:¬a=b):((⟨a⟩:ByteArray).toList == (⟨b⟩:ByteArray).toList)=false:=by
 rw[ByteArray.toList_eq,ByteArray.toList_eq];simp only[beq_eq_false_iff_ne,ne_eq];exact fun e=>h (Array.toList_inj.1 e)
theorem DL(C:Fl3 P)(bs:Bs)(hs:bs.size=32){x:Fin P}(hx:beV bs.toList=x.val):Gives 27 #[rv0,.string ⟨bs⟩] (.tuple #[fv x,.bool true]):=fun w =>
 (kP _ _ _ _ _ _ _ _ P ⟨bs⟩ C.ref w).mono (by
  rintro e w' ⟨v,rfl,hb,a,b,c,d,ok,rfl,h1,h2,h3,-⟩;cases ok with
  | false=>exact absurd ⟨hs,by rw[hx];exact x.isLt⟩ (h2 rfl)
  | true =>
   have h4:=(h1 rfl).2;rw[hx]at h4;refine⟨_,rfl,hb,?_⟩;rw[C.toFld.four x |>.inj h4])
theorem DN(C:Fl3 P)(bs:Bs)(hs:bs.size=32)(hx:¬beV bs.toList<P):Gives 27 #[rv0,.string ⟨bs⟩] (.tuple #[nv (beV bs.toList),.bool false]):=fun w =>
 (kP _ _ _ _ _ _ _ _ P ⟨bs⟩ C.ref w).mono (by
  rintro e w' ⟨v,rfl,hb,a,b,c,d,ok,rfl,h1,h2,h3,-⟩;cases ok with
  | true=>exact absurd (h1 rfl).1.2 hx
  | false =>
   have h4:=h3 hs;refine⟨_,rfl,hb,?_⟩;rw[h4.nv])
def n12(P:Nat)[NeZero P]:List Value:=ws (0:Fin P)++(ws (1:Fin P)++ws (0:Fin P))
end
section
open Go.RowKit Go.Sort
variable {P:Nat}[NeZero P]{N:Nat}
def FracT(t:T3 P)(p:EC.Pt P):Prop:=EC.Frac t.1 t.2.1 t.2.2 p/\EC.On p
def dbF(t:T3 P):T3 P:=(EC.fdE t.2.1 t.2.2*EC.fdT t.1 t.2.1 t.2.2,EC.fdD t.1*(t.1*(EC.fdE t.2.1 t.2.2*EC.fdE t.2.1 t.2.2)-EC.fdT t.1 t.2.1 t.2.2)-t.2.1*(EC.fdE t.2.1 t.2.2*EC.fdE t.2.1 t.2.2*EC.fdE t.2.1 t.2.2),EC.fdE t.2.1 t.2.2*EC.fdE t.2.1 t.2.2*EC.fdE t.2.1 t.2.2*t.2.2)
def plF(a b : T3 P): T3 P :=
  if a.2.2 = 0 then b else if b.2.2 = 0 then a else
  if b.1 * a.2.2 = a.1 * b.2.2 then(if b.2.1 * a.2.2 = a.2.1 * b.2.2 then dbF a else(0, 1, 0)) else
  ((b.1 * a.2.2 - a.1 * b.2.2) * EC.frT (b.2.1 * a.2.2 - a.2.1 * b.2.2) (b.1 * a.2.2 - a.1 * b.2.2) (a.2.2 * b.2.2) (a.1 * b.2.2),
   (b.2.1 * a.2.2 - a.2.1 * b.2.2) * (a.1 * b.2.2 * ((b.1 * a.2.2 - a.1 * b.2.2) * (b.1 * a.2.2 - a.1 * b.2.2)) - EC.frT (b.2.1 * a.2.2 - a.2.1 * b.2.2) (b.1 * a.2.2 - a.1 * b.2.2) (a.2.2 * b.2.2) (a.1 * b.2.2)) - a.2.1 * b.2.2 * ((b.1 * a.2.2 - a.1 * b.2.2) * (b.1 * a.2.2 - a.1 * b.2.2) * (b.1 * a.2.2 - a.1 * b.2.2)),
   (b.1 * a.2.2 - a.1 * b.2.2) * (b.1 * a.2.2 - a.1 * b.2.2) * (b.1 * a.2.2 - a.1 * b.2.2) * (a.2.2 * b.2.2))
theorem FracT.plus(C:Fl3 P){a b:T3 P}{p q:EC.Pt P}(h:FracT a p)(h':FracT b q):Gives 13 #[tv a,tv b] (tv (plF a b))/\FracT (plF a b) (EC.add p q):=by
 have ho:=C.cur.on h.2 h'.2;obtain⟨x1,y1,z1⟩:=a;obtain⟨x2,y2,z2⟩:=b;refine⟨AX C x1 y1 z1 x2 y2 z2 _ (fun n1=>by unfold plF;rw[if_pos n1]) (fun n1 n2=>by unfold plF;rw[if_neg n1,if_pos n2]) (fun n1 n2 e=>?_) (fun n1 n2 e1=>by unfold plF;rw[if_neg n1,if_neg n2,if_neg e1]),?_⟩
 ·rcases h.1.plus C.cur h.2 h'.1 h'.2 n1 n2 with⟨e1,e2,e3⟩|⟨e1,e2,e3,e4⟩|⟨e1,e2⟩
  ·exact .inl ⟨e2,by unfold plF;rw[if_neg n1,if_neg n2,if_pos e1,if_neg e2]⟩
  ·exact .inr ⟨e2,e3,by unfold plF;rw[if_neg n1,if_neg n2,if_pos e1,if_pos e2];rfl⟩
  ·exact absurd e e1
 unfold plF;by_cases n1:z1=0
 ·rw[if_pos n1];obtain rfl:=h.1.zero n1;exact h'
 ·rw[if_neg n1];by_cases n2:z2=0
  ·rw[if_pos n2];obtain rfl:=h'.1.zero n2;rw[EC.bD];exact h
  ·rw[if_neg n2];rcases h.1.plus C.cur h.2 h'.1 h'.2 n1 n2 with⟨e1,e2,e3⟩|⟨e1,e2,e3,e4⟩|⟨e1,e2⟩
   ·rw[if_pos e1,if_neg e2];refine⟨?_,ho⟩;rw[e3];exact rfl
   ·rw[if_pos e1,if_pos e2];refine⟨?_,ho⟩;rw[e4];exact h.1.double C.cur h.2 n1
   ·rw[if_neg e1];exact⟨e2,ho⟩
theorem FracT.none:FracT ((0,1,0):T3 P) .none:=⟨rfl,EC.eX⟩
def tmF(n:Nat)(t:T3 P):Nat->T3 P
 | 0=>(0,1,0)
 | m+1=>if n/2^(255-m)%2=1 then plF (plF (tmF n t m) (tmF n t m)) t else plF (tmF n t m) (tmF n t m)
theorem EM(C:Fl3 P){n:Nat}{t:T3 P}{p:EC.Pt P}(hn:n<2^256)(h:FracT t p):∀m,m<=256->FracT (tmF n t m) (EC.mul (n/2^(256-m)) p)
 | 0,_=>by
  rw[Nat.sub_zero,Nat.div_eq_of_lt hn];exact FracT.none
 | m+1,hm=>by
  have ih:=EM C hn h m (by omega);have e1:256-m=255-m+1:=by omega
  rw[show 256-(m+1)=255-m by omega,wW n (255-m),<-e1];unfold tmF;have h2:=(FracT.plus C ih ih).2;rw[<-EC.mul_add C.cur h.2,<-Nat.two_mul]at h2;by_cases hb:n/2^(255-m)%2=1
  ·rw[if_pos hb,hb];exact(FracT.plus C h2 h).2
  ·rw[if_neg hb,show n/2^(255-m)%2=0 by omega];exact h2
theorem zN(C:Fld P)(x y:Fin P):EC.Frac x y 1 (.some (x,y):EC.Pt P):=⟨fun h=>C.cur.two (by grobner),by grobner,by grobner⟩
end
section
open Go.RowKit Go.Sort Go.Deep
variable {P:Nat}[NeZero P]{N:Nat}
def gxB:Bs:=#[121,190,102,126,249,220,187,172,85,160,98,149,206,135,11,7,2,155,252,219,45,206,40,217,89,242,129,91,22,248,23,152]
theorem Ov(C:Fld P):Gives 63 #[.string ⟨gxB⟩] (fv (gX P)):=fun w=>(Ct ⟨gxB⟩ rfl w).mono (by
 rintro e w' ⟨v,rfl,hb,hF⟩;refine⟨_,rfl,hb,?_⟩;have h:=hF.nv;rw[h];show nv _=nv _;rw[Bp C];exact congrArg nv (by decide +kernel:beV gxB.toList=55066263022277343669578718895168534326250603453777594175500187360389116729240))
theorem LQ(C:Fld P):rt (gX P*gX P*gX P+7)=some (gY P):=by
 have h:=jJ C;have h1:gY P^2=gX P^3+7:=h;have h2:gY P*gY P=gX P*gX P*gX P+7:=by
  generalize gX P=x at *;generalize gY P=y at *;clear h C
  grobner
 rw[E1 C h2,if_neg];rw[Bn C];decide
def gT(P:Nat)[NeZero P]:T3 P:=(gX P,gY P,1)
theorem CQ(C:Fld P):FracT (gT P) (gG P):=⟨zN C _ _,jJ C⟩
theorem MV(C:Fl3 P):Gives 38 #[] (tv (gT P)):=by
 intro w;go_enter Tryz.func38,Tryz.ntmps38;refine RG.M.enter [] 11 (by kernel_rfl) ?_;intro a0 M0;repeat refine wp_seq ?_
 refine M0.t [.m 0 [] 0] [(0,(RG.z 12))] [] [(RG.z 12)] [(0,(.p 0 0))] ⟨RG.mk 0 41,trivial⟩ ?_;intro j1 a1 w1 M1;repeat refine wp_seq ?_
 refine M1.t [.c 4 [] (fv (gX P)),.m 1 [] 1,.u [(1,1),(4,0)] 1] [(1,(RG.z 4))] [(1,2,(ws (gX P)))] [(RG.z 12),(ws (gX P))] [(0,(.p 0 0)),(1,(.p 1 0))] ⟨RG.cl (Ov C.toFld),RG.mk 1 37,RG.pt i33,trivial⟩ ?_;intro j2 a2 w2 M2;repeat refine wp_seq ?_
 refine M2.t [.x 6 [] (fv (gX P)),.c 7 [(6,0)] (.tuple #[(rv (gX P) (gY P) (1:Fin P)),(.bool true)]),.x 5 [(7,1)] (.tuple #[(rv (gX P) (gY P) (1:Fin P)),(.bool true)]),.x 8 [(5,2)] (rv (gX P) (gY P) (1:Fin P)),.x 9 [(5,2)] (.bool true),.m 2 [] 2,.u [(2,5),(8,3)] 2,.x 3 [(9,4)] (.bool true)] [(5,(RG.z 12))] [(2,6,(ws (gX P)++(ws (gY P)++(ws (1:Fin P)))))] [(RG.z 12),(ws (gX P)),(ws (gX P)++(ws (gY P)++(ws (1:Fin P))))] [(0,(.p 0 0)),(2,(.p 2 0))] ⟨RG.ld u33 i33,RG.cl (Cr C (gX P) (gY P) (LQ C.toFld)),RG.st,RG.st,RG.st,RG.mk 2 41,RG.pt i56,RG.st,trivial⟩ ?_;intro j3 a3 w3 M3;repeat refine wp_seq ?_
 refine M3.t [.x 10 [] (rv (gX P) (gY P) (1:Fin P)),.u [(10,0)] 0] [] [(0,1,(ws (gX P)++(ws (gY P)++(ws (1:Fin P)))))] [(ws (gX P)++(ws (gY P)++(ws (1:Fin P)))),(ws (gX P)),(ws (gX P)++(ws (gY P)++(ws (1:Fin P))))] [(0,(.p 0 0))] ⟨RG.ld u56 i56,RG.pt i56,trivial⟩ ?_;intro a4 w4 M4;refine wp_ret ?_;refine bodyPost_ret (v:=tv (gT P)) (RG.aD M4.st 0 41 rfl 0 _ rfl (M4.at (s:=.p 0 0)) u56 i56) M4.sl.defers ?_;exact⟨_,rfl,M4.st.bel.below,rfl⟩
end
section
open Go.RowKit Go.Sort
variable {P:Nat}[NeZero P]{N:Nat}
theorem Nm(i:Nat)(w:World):(binOp .geq 3 (.int .i64 i) (.int .i64 0)).run prog w=.ok (.bool true) w:=by
 go_simp
theorem ML(i:Nat)(hi:i<1000)(w:World):(binOp .sub 3 (.int .i64 i) (.int .i64 1)).run prog w=.ok (.int .i64 ((i:Int)-1)) w:=by
 have h:=IntWalk.i64_in ((i:Int)-1) (by omega);go_simp
theorem Lf{n i:Nat}(hn:n<top)(hi:i<256)(h:n/2^i%2=1):Gives 72 #[nv n,.int .i64 i] (.int .u64 1):=fun w =>
 (nS _ n i (lV hn) hi w).mono (by rintro e w' ⟨v,rfl,hb,t,rfl,ht⟩;exact⟨_,rfl,hb,by rw[ht,h];rfl⟩)
theorem Lg{n i:Nat}(hn:n<top)(hi:i<256)(h:¬n/2^i%2=1):Gives 72 #[nv n,.int .i64 i] (.int .u64 0):=fun w =>
 (nS _ n i (lV hn) hi w).mono (by rintro e w' ⟨v,rfl,hb,t,rfl,ht⟩;exact⟨_,rfl,hb,by rw[ht,show n/2^i%2=0 by omega];rfl⟩)
theorem Ff(C:Fl3 P)(n:Nat)(hn:n<top)(t:T3 P){p:EC.Pt P}(h:FracT t p):Gives 37 #[nv n,tv t] (tv (tmF n t 256)):=by
 intro w;go_enter Tryz.func37,Tryz.ntmps37;refine RG.Hr (v0:=nv n) (v1:=tv t) (n:=23) (by kernel_rfl) (by kernel_rfl) (by kernel_rfl) (by kernel_rfl) ?_;intro a0 sl0 f0 f1;have hS0:=RG.St.begin w;have M0:RG.M w w.heap.size [] 23 [] [] [(0,(.v (nv n))),(1,(.v (tv t)))] a0 _:=⟨hS0,sl0,⟨f0,f1,trivial⟩⟩
 repeat refine wp_seq ?_
 refine M0.t [.m 2 [] 0,.m 3 [] 1,.m 4 [] 2] [(0,(wn n)),(1,(tw t)),(2,(RG.z 12))] [] [(wn n),(tw t),(RG.z 12)] [(2,(.p 0 0)),(3,(.p 1 0)),(4,(.p 2 0))] ⟨RG.mk 0 37,RG.mk 1 41,RG.mk 2 41,trivial⟩ ?_;intro j1 i1 m1 a1 w1 M1;repeat refine wp_seq ?_
 refine M1.t [.c 7 [] (tv ((0,1,0):T3 P)),.m 5 [] 3,.u [(5,1),(7,0)] 3] [(1,(RG.z 12))] [(3,2,(tw ((0,1,0):T3 P)))] [(wn n),(tw t),(RG.z 12),(tw ((0,1,0):T3 P))] [(2,(.p 0 0)),(3,(.p 1 0)),(4,(.p 2 0)),(5,(.p 3 0))] ⟨RG.cl (B7 C),RG.mk 3 41,RG.pt i56,trivial⟩ ?_;intro j2 a2 w2 M2;repeat refine wp_seq ?_
 refine M2.u [.x 6 [] (.int .i64 255)] [(2,(.p 0 0)),(3,(.p 1 0)),(4,(.p 2 0)),(5,(.p 3 0)),(6,(.v (.int .i64 255)))] ⟨RG.st,trivial⟩ ?_;intro a3 w3 M3;have f2_3:a3.tmps[2]? = some (.pointer (some ⟨j1,0,none⟩)):=M3.at (s:=(.p 0 0));have f3_3:a3.tmps[3]? = some (.pointer (some ⟨i1,0,none⟩)):=M3.at (s:=(.p 1 0));have f4_3:a3.tmps[4]? = some (.pointer (some ⟨m1,0,none⟩)):=M3.at (s:=(.p 2 0));have f5_3:a3.tmps[5]? = some (.pointer (some ⟨j2,0,none⟩)):=M3.at (s:=(.p 3 0));have f6_3:a3.tmps[6]? = some (.int .i64 255):=M3.at (s:=(.v (.int .i64 255)));repeat refine wp_seq ?_
 refine wp_block ?_;refine wp_loop_ghost (fun m a wr=>m<=256/\RG.Sl a 23/\a.tmps[2]? = some (.pointer (some ⟨j1,0,none⟩))/\a.tmps[3]? = some (.pointer (some ⟨i1,0,none⟩))/\a.tmps[4]? = some (.pointer (some ⟨m1,0,none⟩))/\a.tmps[5]? = some (.pointer (some ⟨j2,0,none⟩))/\a.tmps[6]? = some (.int .i64 ((m:Int)-1))/\RG.St w w.heap.size [] [wn n,tw t,[.int .u64 0,.int .u64 0,.int .u64 0,.int .u64 0,.int .u64 0,.int .u64 0,.int .u64 0,.int .u64 0,.int .u64 0,.int .u64 0,.int .u64 0,.int .u64 0],tw (tmF n t (256-m))] [j1,i1,m1,j2] wr) 256 ⟨Nat.le_refl _,M3.sl,f2_3,f3_3,f4_3,f5_3,f6_3,?_⟩ ?_
 ·rw[Nat.sub_self,tmF];exact M3.st
 intro m a wr;rintro⟨hm,sl,f2,f3,f4,f5,f6,hS⟩;have hn2:n<2^256:=hn;generalize j1=k2 at f2 f3 f4 f5 hS;generalize i1=k3 at f2 f3 f4 f5 hS;generalize m1=k4 at f2 f3 f4 f5 hS;generalize j2=k5 at f2 f3 f4 f5 hS;by_cases hz:m=0
 ·subst hz;have e256:tmF n t (256-0)=tmF n t 256:=rfl;rw[e256]at hS;obtain⟨s,hs⟩:∃s,tmF n t 256=s:=⟨_,rfl⟩
  rw[hs]at hS⊢;have M0:RG.M w w.heap.size [] 23 [(wn n),(tw t),(RG.z 12),(tw s)] [k2,k3,k4,k5] [(2,(.p 0 0)),(3,(.p 1 0)),(4,(.p 2 0)),(5,(.p 3 0)),(6,(.v (.int .i64 (-1))))] a _:=⟨hS,sl,⟨f2,f3,f4,f5,f6,trivial⟩⟩
  repeat refine wp_seq ?_
  refine M0.u [.x 8 [] (.int .i64 (-1)),.x 9 [(8,0)] (.bool false)] [(4,(.p 2 0)),(5,(.p 3 0)),(9,(.v (.bool false)))] ⟨RG.st,RG.st,trivial⟩ ?_;intro a1 w1 M1;repeat refine wp_seq ?_
  refine wp_cond_false M1.ev ?_;refine wp_exit ?_;dsimp only[Exit.then,Exit.inBlock];rw[if_pos rfl];repeat refine wp_seq ?_
  refine M1.t [.x 22 [] (tv s),.u [(22,0)] 2] [] [(2,1,(tw s))] [(wn n),(tw t),(tw s),(tw s)] [(4,(.p 2 0))] ⟨RG.ld u56 i56,RG.pt i56,trivial⟩ ?_;intro a2 w2 M2;refine wp_ret ?_;refine bodyPost_ret (v:=tv s) (RG.aD M2.st 4 41 rfl 2 _ rfl (M2.at (s:=(.p 2 0))) u56 i56) M2.sl.defers ?_;exact⟨_,rfl,M2.st.bel.below,rfl⟩
 ·obtain⟨i,rfl⟩:∃i,m=i+1:=⟨m-1,by omega⟩
  have hi:i<256:=by omega
  replace f6:a.tmps[6]? = some (.int .i64 i):=by rw[f6];congr 2;omega
  have ih:=EM C hn2 h (256-(i+1)) (by omega);obtain⟨s,hs⟩:∃s,tmF n t (256-(i+1))=s:=⟨_,rfl⟩
  rw[hs]at hS ih;obtain⟨s2,hs2⟩:∃s2,s2=plF s s:=⟨_,rfl⟩
  have hp1:=(ih.plus C ih).1;have ih2:=(ih.plus C ih).2;rw[<-hs2]at hp1 ih2;obtain⟨s3,hs3⟩:∃s3,s3=plF s2 t:=⟨_,rfl⟩
  have hp2:=(ih2.plus C h).1;rw[<-hs3]at hp2;have hstep:tmF n t (256-i)=if n/2^i%2=1 then s3 else s2:=by
   rw[show 256-i=256-(i+1)+1 by omega];show(if n/2^(255-(256-(i+1)))%2=1 then plF (plF (tmF n t (256-(i+1))) (tmF n t (256-(i+1)))) t else plF (tmF n t (256-(i+1))) (tmF n t (256-(i+1))))=_;rw[show 255-(256-(i+1))=i by omega,hs,<-hs2,<-hs3]
  by_cases hb:n/2^i%2=1
  ·rw[if_pos hb]at hstep;have M0:RG.M w w.heap.size [] 23 [(wn n),(tw t),(RG.z 12),(tw s)] [k2,k3,k4,k5] [(2,(.p 0 0)),(3,(.p 1 0)),(4,(.p 2 0)),(5,(.p 3 0)),(6,(.v (.int .i64 i)))] a _:=⟨hS,sl,⟨f2,f3,f4,f5,f6,trivial⟩⟩
   repeat refine wp_seq ?_
   refine M0.u [.x 8 [] (.int .i64 i),.x 9 [(8,0)] (.bool true)] [(2,(.p 0 0)),(3,(.p 1 0)),(4,(.p 2 0)),(5,(.p 3 0)),(6,(.v (.int .i64 i))),(9,(.v (.bool true)))] ⟨RG.st,RG.aH rfl .geq 3 3 8 (.int .i64 i) (.int .i64 0) (.bool true) rfl rfl RG.sx (fun w=>by kernel_rfl) (Nm i),trivial⟩ ?_;intro a1 w1 M1;repeat refine wp_seq ?_
   refine wp_cond_true M1.ev ?_;refine wp_skip ?_;refine wp_seq ?_;refine wp_block ?_;repeat refine wp_seq ?_
   refine M1.t [.x 12 [] (tv s),.x 13 [] (tv s),.c 14 [(12,0),(13,1)] (tv s2),.u [(14,2)] 3] [] [(3,3,(tw s2))] [(wn n),(tw t),(RG.z 12),(tw s2)] [(2,(.p 0 0)),(3,(.p 1 0)),(4,(.p 2 0)),(5,(.p 3 0)),(6,(.v (.int .i64 i)))] ⟨RG.ld u56 i56,RG.ld u56 i56,RG.cl (hp1),RG.pt i56,trivial⟩ ?_;intro a2 w2 M2;repeat refine wp_seq ?_
   refine M2.u [.x 15 [] (nv n),.x 16 [] (.int .i64 i),.c 17 [(15,0),(16,1)] (.int .u64 1),.x 18 [(17,2)] (.bool true)] [(2,(.p 0 0)),(3,(.p 1 0)),(4,(.p 2 0)),(5,(.p 3 0)),(6,(.v (.int .i64 i))),(18,(.v (.bool true)))] ⟨RG.ld u33 i33,RG.st,RG.cl (Lf hn hi hb),RG.st,trivial⟩ ?_;intro a3 w3 M3;repeat refine wp_seq ?_
   refine wp_cond_true M3.ev ?_;repeat refine wp_seq ?_
   refine M3.t [.x 19 [] (tv s2),.x 20 [] (tv t),.c 21 [(19,0),(20,1)] (tv s3),.u [(21,2)] 3] [] [(3,3,(tw s3))] [(wn n),(tw t),(RG.z 12),(tw s3)] [(2,(.p 0 0)),(3,(.p 1 0)),(4,(.p 2 0)),(5,(.p 3 0)),(6,(.v (.int .i64 i)))] ⟨RG.ld u56 i56,RG.ld u56 i56,RG.cl (hp2),RG.pt i56,trivial⟩ ?_;intro a4 w4 M4;repeat refine wp_seq ?_
   refine M4.u [.x 10 [] (.int .i64 i),.x 11 [(10,0)] (.int .i64 ((i:Int)-1)),.x 6 [(11,1)] (.int .i64 ((i:Int)-1))] [(2,(.p 0 0)),(3,(.p 1 0)),(4,(.p 2 0)),(5,(.p 3 0)),(6,(.v (.int .i64 ((i:Int)-1))))] ⟨RG.st,RG.aH rfl .sub 3 3 10 (.int .i64 i) (.int .i64 1) (.int .i64 ((i:Int)-1)) rfl rfl RG.sx (fun w=>by kernel_rfl) (ML i (by omega)),RG.st,trivial⟩ ?_;intro a5 w5 M5;have f2_5:a5.tmps[2]? = some (.pointer (some ⟨k2,0,none⟩)):=M5.at (s:=(.p 0 0));have f3_5:a5.tmps[3]? = some (.pointer (some ⟨k3,0,none⟩)):=M5.at (s:=(.p 1 0));have f4_5:a5.tmps[4]? = some (.pointer (some ⟨k4,0,none⟩)):=M5.at (s:=(.p 2 0));have f5_5:a5.tmps[5]? = some (.pointer (some ⟨k5,0,none⟩)):=M5.at (s:=(.p 3 0));have f6_5:a5.tmps[6]? = some (.int .i64 ((i:Int)-1)):=M5.at (s:=(.v (.int .i64 ((i:Int)-1))));show ∃n',_;exact⟨i,Nat.lt_succ_self i,by omega,M5.sl,f2_5,f3_5,f4_5,f5_5,f6_5,by rw[hstep];exact M5.st⟩
  ·rw[if_neg hb]at hstep;have M0:RG.M w w.heap.size [] 23 [(wn n),(tw t),(RG.z 12),(tw s)] [k2,k3,k4,k5] [(2,(.p 0 0)),(3,(.p 1 0)),(4,(.p 2 0)),(5,(.p 3 0)),(6,(.v (.int .i64 i)))] a _:=⟨hS,sl,⟨f2,f3,f4,f5,f6,trivial⟩⟩
   repeat refine wp_seq ?_
   refine M0.u [.x 8 [] (.int .i64 i),.x 9 [(8,0)] (.bool true)] [(2,(.p 0 0)),(3,(.p 1 0)),(4,(.p 2 0)),(5,(.p 3 0)),(6,(.v (.int .i64 i))),(9,(.v (.bool true)))] ⟨RG.st,RG.aH rfl .geq 3 3 8 (.int .i64 i) (.int .i64 0) (.bool true) rfl rfl RG.sx (fun w=>by kernel_rfl) (Nm i),trivial⟩ ?_;intro a1 w1 M1;repeat refine wp_seq ?_
   refine wp_cond_true M1.ev ?_;refine wp_skip ?_;refine wp_seq ?_;refine wp_block ?_;repeat refine wp_seq ?_
   refine M1.t [.x 12 [] (tv s),.x 13 [] (tv s),.c 14 [(12,0),(13,1)] (tv s2),.u [(14,2)] 3] [] [(3,3,(tw s2))] [(wn n),(tw t),(RG.z 12),(tw s2)] [(2,(.p 0 0)),(3,(.p 1 0)),(4,(.p 2 0)),(5,(.p 3 0)),(6,(.v (.int .i64 i)))] ⟨RG.ld u56 i56,RG.ld u56 i56,RG.cl (hp1),RG.pt i56,trivial⟩ ?_;intro a2 w2 M2;repeat refine wp_seq ?_
   refine M2.u [.x 15 [] (nv n),.x 16 [] (.int .i64 i),.c 17 [(15,0),(16,1)] (.int .u64 0),.x 18 [(17,2)] (.bool false)] [(2,(.p 0 0)),(3,(.p 1 0)),(4,(.p 2 0)),(5,(.p 3 0)),(6,(.v (.int .i64 i))),(18,(.v (.bool false)))] ⟨RG.ld u33 i33,RG.st,RG.cl (Lg hn hi hb),RG.st,trivial⟩ ?_;intro a3 w3 M3;repeat refine wp_seq ?_
   refine wp_cond_false M3.ev ?_;refine wp_skip ?_;repeat refine wp_seq ?_
   refine M3.u [.x 10 [] (.int .i64 i),.x 11 [(10,0)] (.int .i64 ((i:Int)-1)),.x 6 [(11,1)] (.int .i64 ((i:Int)-1))] [(2,(.p 0 0)),(3,(.p 1 0)),(4,(.p 2 0)),(5,(.p 3 0)),(6,(.v (.int .i64 ((i:Int)-1))))] ⟨RG.st,RG.aH rfl .sub 3 3 10 (.int .i64 i) (.int .i64 1) (.int .i64 ((i:Int)-1)) rfl rfl RG.sx (fun w=>by kernel_rfl) (ML i (by omega)),RG.st,trivial⟩ ?_;intro a4 w4 M4;have f2_4:a4.tmps[2]? = some (.pointer (some ⟨k2,0,none⟩)):=M4.at (s:=(.p 0 0));have f3_4:a4.tmps[3]? = some (.pointer (some ⟨k3,0,none⟩)):=M4.at (s:=(.p 1 0));have f4_4:a4.tmps[4]? = some (.pointer (some ⟨k4,0,none⟩)):=M4.at (s:=(.p 2 0));have f5_4:a4.tmps[5]? = some (.pointer (some ⟨k5,0,none⟩)):=M4.at (s:=(.p 3 0));have f6_4:a4.tmps[6]? = some (.int .i64 ((i:Int)-1)):=M4.at (s:=(.v (.int .i64 ((i:Int)-1))));show ∃n',_;exact⟨i,Nat.lt_succ_self i,by omega,M4.sl,f2_4,f3_4,f4_4,f5_4,f6_4,by rw[hstep];exact M4.st⟩
end
section
open Go.RowKit Go.Sort Go.Deep
variable {P:Nat}[NeZero P]{N:Nat}
def OZ(n:Nat):List RG.It:=[.x 3 [] (nv n),.c 4 [] (tv (gT P)),.c 5 [(3,0),(4,1)] (tv (tmF n (gT P) 256)),.u [(5,2)] 1]
theorem IL(C:Fl3 P)(n:Nat)(hn:n<top):Gives 14 #[nv n] (tv (tmF n (gT P) 256)):=by
 intro w;go_enter Tryz.func14,Tryz.ntmps14;refine RG.M.enter [(0,.v (nv n))] 6 (by kernel_rfl) ?_;intro a0 M0;repeat refine wp_seq ?_
 refine M0.t [.m 1 [] 0,.m 2 [] 1] [(0,(wn n)),(1,(RG.z 12))] [] [(wn n),(RG.z 12)] [(1,(.p 0 0)),(2,(.p 1 0))] ⟨RG.mk 0 37,RG.mk 1 41,trivial⟩ ?_;intro j1 i1 a1 w1 M1;repeat refine wp_seq ?_
 refine M1.d (OZ (P:=P) n) [] [(1,3,(tw (tmF n (gT P) 256)))] [(wn n),(tw (tmF n (gT P) 256))] [(2,(.p 1 0))] ⟨RG.ld u33 i33,RG.cl (MV C),RG.cl (Ff C n hn (gT P) (CQ C.toFld)),RG.pt i56,trivial⟩ ?_;intro a2 w2 M2;refine wp_ret ?_;refine bodyPost_ret (v:=tv (tmF n (gT P) 256)) (RG.aD M2.st 2 41 rfl 1 _ rfl (M2.at (s:=.p 1 0)) u56 i56) M2.sl.defers ?_;exact⟨_,rfl,M2.st.bel.below,rfl⟩
theorem yP(C:Fld P)(x:Fin P):Gives 40 #[fv x] (.string ⟨bx x.val⟩):=fun w =>
 (AY _ _ w (C.four x)).mono (by
  rintro e w' ⟨v,rfl,hb,a,b,c,d,he,rfl⟩;refine⟨_,rfl,hb,?_⟩;have h2:fv x=.agg #[.int .u64 ((x.val%18446744073709551616:Nat):Int),.int .u64 ((x.val/18446744073709551616%18446744073709551616:Nat):Int),.int .u64 ((x.val/340282366920938463463374607431768211456%18446744073709551616:Nat):Int),.int .u64 ((x.val/6277101735386680763835789423207666416102355444464034512896%18446744073709551616:Nat):Int)]:=rfl;rw[h2]at he;simp only[Value.agg.injEq,Array.mk.injEq,List.cons.injEq,Value.int.injEq,true_and,and_true,Int.ofNat_inj]at he;obtain⟨rfl,rfl,rfl,rfl⟩:=he;rfl)
theorem u31:(prog.underlying 35).map (·.isRow)=some false:=by kernel_rfl
theorem and1(n r:Nat)(hr:n%2=r)(w:World):(binOp .and 35 (.int .u64 ((n%18446744073709551616:Nat):Int)) (.int .u64 1)).run prog w=.ok (.int .u64 r) w:=by
 have h:=and_one (n%18446744073709551616) (Nat.mod_lt _ (by decide));rw[show n%18446744073709551616%2=r by omega]at h;generalize n%18446744073709551616=k at h⊢;go_simp
theorem cat(m:UInt8)(n:Nat)(w:World):(binOp .add 9 (.string ⟨#[m]⟩) (.string ⟨bx n⟩)).run prog w=.ok (.string ⟨#[m]++bx n⟩) w:=by
 have h:=bK n;generalize bx n=b at h⊢;have h2:(⟨#[m]⟩:ByteArray)++⟨b⟩=⟨#[m]++b⟩:=by
  have h3:((⟨#[m]⟩:ByteArray)++⟨b⟩).data=#[m]++b:=ByteArray.data_append;rw[<-h3]
 go_simp
theorem bs1(m:Int)(w:World):(Instr.buildSlice 22 1 #[(0,.int .u8 m)]).run prog w=.ok (.slice (some ⟨w.heap.size,0,none⟩) 1 1) (w.alloc (.cells #[.int .u8 m] 5)):=by
 obtain⟨ie,hie,he⟩:=Option.map_eq_some_iff.1 wR;simp only[Prod.mk.injEq]at he;obtain⟨h1,h2,-⟩:=he;exact run_buildSlice w 22 5 1 _ #[.int .u8 m] ie (.int .u8 0) Ce hie h1 (by rw[h2];omega) (by rw[h2];omega) (by rw[h2];kernel_rfl)
theorem str1(m:UInt8)(w:World)(k:Nat)(h:w.rangeAt k 0 [.int .u8 (ub m)]):(convert 22 9 (.slice (some ⟨k,0,none⟩) 1 1)).run prog w=.ok (.string ⟨#[m]⟩) w:=by
 have h2:=run_convert_bytes_back (P:=prog) w 22 9 5 ⟨k,0,none⟩ 1 [m] slice22 int5 str9 (fun j hj=>by
  obtain rfl:j=0:=by simpa using hj
  have h3:=h 0 _ rfl;have e1:(⟨k,0,none⟩:Addr).add 0=⟨k,0,none⟩:=rfl;rw[e1,h3];simp[ub])
 simpa using h2
omit [NeZero P] in
theorem KG(x y z:Fin P):∃a1 b1 c1 d1 a2 b2 c2 d2 a3 b3 c3 d3:Nat,rv x y z=.agg #[.int .u64 a1,.int .u64 b1,.int .u64 c1,.int .u64 d1,.int .u64 a2,.int .u64 b2,.int .u64 c2,.int .u64 d2,.int .u64 a3,.int .u64 b3,.int .u64 c3,.int .u64 d3]:=
 ⟨_,_,_,_,_,_,_,_,_,_,_,_,rfl⟩
theorem MU(C:Fl3 P)(x y z:Fin P)(hz:z=0):Gives 15 #[rv x y z] (.string ⟨Av⟩):=by
 intro w;have hI:=B9 C x y z hz;obtain⟨a1,b1,c1,d1,a2,b2,c2,d2,a3,b3,c3,d3,e⟩:=KG x y z;rw[e]at hI⊢;have hmk:=Lz;go_enter Tryz.func15,Tryz.ntmps15;go_wp2_with fail
 refine(hI _).mono ?_;rintro e w1 ⟨v,rfl,hb1,rfl⟩;have HB:Hid (Below w.heap.size w w1):=(aE w _).trans (hb1.mono (by simp));have hcv:(convert 22 9 (.slice (some ⟨w1.heap.size,0,none⟩) 33 33)).run prog (w1.alloc (.cells (madeCells #[.int .u8 0] 33) 5))=.ok (.string ⟨Av⟩) (w1.alloc (.cells (madeCells #[.int .u8 0] 33) 5)):=
  conv_str prog 22 9 5 slice22 int5 str9 _ _ 0 33 33 _ (Holds.made (enc:=encB) w1 5 33 (0:UInt8)) (by decide)
 clear hb1 hI;go_wp2;go_ret;exact⟨_,rfl,HB.out.trans ((aE w1 _).mono HB.out.size),rfl⟩
theorem IF(C:Fl3 P)(x y z:Fin P)(hz:¬z=0)(hpar:(y*EC.inv z).val%2=0):Gives 15 #[(rv x y z)] (.string ⟨#[2]++bx (x*EC.inv z).val⟩):=by
 intro w;obtain⟨c1,hc1⟩:∃c,c=EC.inv z:=⟨_,rfl⟩
 obtain⟨c2,hc2⟩:∃c,c=x*c1:=⟨_,rfl⟩
 obtain⟨c3,hc3⟩:∃c,c=y*c1:=⟨_,rfl⟩
 have hfin:((.string ⟨#[2]++bx c2.val⟩):Value)=(.string ⟨#[2]++bx (x*EC.inv z).val⟩):=by
  subst_vars;rfl
 rw[<-hfin];go_enter Tryz.func15,Tryz.ntmps15;refine RG.M.enter [(0,(.v (rv x y z)))] 36 (by kernel_rfl) ?_;intro a0 M0;repeat refine wp_seq ?_
 refine M0.t [.m 1 [] 0,.x 2 [] (.string ⟨#[]⟩)] [(0,(ws x++(ws y++(ws z))))] [] [(ws x++(ws y++(ws z)))] [(1,(.p 0 0)),(2,(.v (.string ⟨#[]⟩)))] ⟨RG.mk 0 41,RG.st,trivial⟩ ?_;intro j1 a1 w1 M1;repeat refine wp_seq ?_
 refine M1.u [.x 7 [] (rv x y z),.c 8 [(7,0)] (.bool false),.x 3 [(8,1)] (.bool false)] [(1,(.p 0 0)),(2,(.v (.string ⟨#[]⟩))),(3,(.v (.bool false)))] ⟨RG.ld u56 i56,RG.cl (xO C x y z hz),RG.st,trivial⟩ ?_;intro a2 w2 M2;repeat refine wp_seq ?_
 refine M2.u [.x 9 [] (.bool false)] [(1,(.p 0 0)),(2,(.v (.string ⟨#[]⟩))),(9,(.v (.bool false)))] ⟨RG.st,trivial⟩ ?_;intro a3 w3 M3;repeat refine wp_seq ?_
 refine wp_cond_false M3.ev ?_;refine wp_skip ?_;repeat refine wp_seq ?_
 refine M3.d [.c 12 [] rv0,.s 13 [] (.p 0 8),.x 14 [(13,1)] (fv z),.c 15 [(12,0),(14,2)] (fv c1),.m 4 [] 1,.u [(4,4),(15,3)] 1] [(4,(RG.z 4))] [(1,5,(ws c1))] [(ws x++(ws y++(ws z))),(ws c1)] [(1,(.p 0 0)),(2,(.v (.string ⟨#[]⟩))),(4,(.p 1 0))] ⟨RG.cl (bR),RG.st,RG.ld u33 i33,RG.cl ((Fl C z).e hc1),RG.mk 1 37,RG.pt i33,trivial⟩ ?_;intro j4 a4 w4 M4;repeat refine wp_seq ?_
 refine M4.d [.c 16 [] rv0,.s 17 [] (.p 0 0),.x 18 [(17,1)] (fv x),.x 19 [] (fv c1),.c 20 [(16,0),(18,2),(19,3)] (fv c2),.m 5 [] 2,.u [(5,5),(20,4)] 2] [(5,(RG.z 4))] [(2,6,(ws c2))] [(ws x++(ws y++(ws z))),(ws c1),(ws c2)] [(1,(.p 0 0)),(2,(.v (.string ⟨#[]⟩))),(4,(.p 1 0)),(5,(.p 2 0))] ⟨RG.cl (bR),RG.st,RG.ld u33 i33,RG.ld u33 i33,RG.cl ((bE C x c1).e hc2),RG.mk 2 37,RG.pt i33,trivial⟩ ?_;intro j5 a5 w5 M5;repeat refine wp_seq ?_
 refine M5.d [.c 21 [] rv0,.s 22 [] (.p 0 4),.x 23 [(22,1)] (fv y),.x 24 [] (fv c1),.c 25 [(21,0),(23,2),(24,3)] (fv c3),.m 6 [] 3,.u [(6,5),(25,4)] 3] [(5,(RG.z 4))] [(3,6,(ws c3))] [(ws x++(ws y++(ws z))),(ws c1),(ws c2),(ws c3)] [(2,(.v (.string ⟨#[]⟩))),(5,(.p 2 0)),(6,(.p 3 0))] ⟨RG.cl (bR),RG.st,RG.ld u33 i33,RG.ld u33 i33,RG.cl ((bE C y c1).e hc3),RG.mk 3 37,RG.pt i33,trivial⟩ ?_;intro j6 a6 w6 M6;repeat refine wp_seq ?_
 refine M6.d [.s 26 [] (.p 3 0),.x 27 [(26,0)] (.int .u64 ((c3.val%18446744073709551616:Nat):Int)),.x 28 [(27,1)] (.int .u64 0),.x 29 [(28,2)] (.int .u8 0),.x 30 [(29,3)] (.int .u8 2),⟨some 31,[(30,4)],(.s 4 1 1),.make 4⟩,.x 32 [(31,5)] (.string ⟨#[2]⟩),.x 33 [] (fv c2),.c 34 [(33,7)] (.string ⟨bx c2.val⟩),.x 35 [(32,6),(34,8)] (.string ⟨#[2]++bx c2.val⟩),.x 2 [(35,9)] (.string ⟨#[2]++bx c2.val⟩)] [(5,[(.int .u8 2)])] [] [(ws x++(ws y++(ws z))),(ws c1),(ws c2),(ws c3),[(.int .u8 2)]] [(2,(.v (.string ⟨#[2]++bx c2.val⟩)))] ⟨RG.cR rfl 37 6 (.int .i64 0) rfl (.p 3 0) RG.sx (fun μ w=>by kernel_rfl),RG.kB rfl 3 0 _ rfl rfl (by kernel_rfl) 35 26 rfl (.int .u64 ((c3.val%18446744073709551616:Nat):Int)) rfl RG.sx rfl u31,RG.aH rfl .and 35 35 27 (.int .u64 ((c3.val%18446744073709551616:Nat):Int)) (.int .u64 1) (.int .u64 0) rfl rfl RG.sx (fun w=>by kernel_rfl) (and1 c3.val 0 (by subst_vars;exact hpar)),RG.fX rfl 35 5 28 (.int .u64 0) (.int .u8 0) rfl rfl RG.sx (fun w=>by kernel_rfl),RG.st,RG.lE 4 rfl _ rfl 22 5 30 (.int .u8 2) rfl rfl RG.sx (bs1 2),RG.lD rfl 4 5 _ rfl _ rfl rfl (by kernel_rfl) (by kernel_rfl) 22 9 31 1 (.string ⟨#[2]⟩) rfl rfl RG.sx (fun w k h=>str1 2 w k h),RG.ld u33 i33,RG.cl (yP C.toFld c2),RG.aM rfl .add 9 9 32 34 (.string ⟨#[2]⟩) (.string ⟨bx c2.val⟩) (.string ⟨#[2]++bx c2.val⟩) rfl rfl RG.sx RG.sx (fun w=>by kernel_rfl) (cat 2 _),RG.st,trivial⟩ ?_;intro j7 a7 w7 M7;refine wp_ret ?_;refine bodyPost_ret (v:=(.string ⟨#[2]++bx c2.val⟩)) (RG.cQ 2 rfl _ (M7.at (s:=(.v (.string ⟨#[2]++bx c2.val⟩))))) M7.sl.defers ?_;exact⟨_,rfl,M7.st.bel.below,rfl⟩
theorem IE(C:Fl3 P)(x y z:Fin P)(hz:¬z=0)(hpar:(y*EC.inv z).val%2=1):Gives 15 #[(rv x y z)] (.string ⟨#[3]++bx (x*EC.inv z).val⟩):=by
 intro w;obtain⟨c1,hc1⟩:∃c,c=EC.inv z:=⟨_,rfl⟩
 obtain⟨c2,hc2⟩:∃c,c=x*c1:=⟨_,rfl⟩
 obtain⟨c3,hc3⟩:∃c,c=y*c1:=⟨_,rfl⟩
 have hfin:((.string ⟨#[3]++bx c2.val⟩):Value)=(.string ⟨#[3]++bx (x*EC.inv z).val⟩):=by
  subst_vars;rfl
 rw[<-hfin];go_enter Tryz.func15,Tryz.ntmps15;refine RG.M.enter [(0,(.v (rv x y z)))] 36 (by kernel_rfl) ?_;intro a0 M0;repeat refine wp_seq ?_
 refine M0.t [.m 1 [] 0,.x 2 [] (.string ⟨#[]⟩)] [(0,(ws x++(ws y++(ws z))))] [] [(ws x++(ws y++(ws z)))] [(1,(.p 0 0)),(2,(.v (.string ⟨#[]⟩)))] ⟨RG.mk 0 41,RG.st,trivial⟩ ?_;intro j1 a1 w1 M1;repeat refine wp_seq ?_
 refine M1.u [.x 7 [] (rv x y z),.c 8 [(7,0)] (.bool false),.x 3 [(8,1)] (.bool false)] [(1,(.p 0 0)),(2,(.v (.string ⟨#[]⟩))),(3,(.v (.bool false)))] ⟨RG.ld u56 i56,RG.cl (xO C x y z hz),RG.st,trivial⟩ ?_;intro a2 w2 M2;repeat refine wp_seq ?_
 refine M2.u [.x 9 [] (.bool false)] [(1,(.p 0 0)),(2,(.v (.string ⟨#[]⟩))),(9,(.v (.bool false)))] ⟨RG.st,trivial⟩ ?_;intro a3 w3 M3;repeat refine wp_seq ?_
 refine wp_cond_false M3.ev ?_;refine wp_skip ?_;repeat refine wp_seq ?_
 refine M3.d [.c 12 [] rv0,.s 13 [] (.p 0 8),.x 14 [(13,1)] (fv z),.c 15 [(12,0),(14,2)] (fv c1),.m 4 [] 1,.u [(4,4),(15,3)] 1] [(4,(RG.z 4))] [(1,5,(ws c1))] [(ws x++(ws y++(ws z))),(ws c1)] [(1,(.p 0 0)),(2,(.v (.string ⟨#[]⟩))),(4,(.p 1 0))] ⟨RG.cl (bR),RG.st,RG.ld u33 i33,RG.cl ((Fl C z).e hc1),RG.mk 1 37,RG.pt i33,trivial⟩ ?_;intro j4 a4 w4 M4;repeat refine wp_seq ?_
 refine M4.d [.c 16 [] rv0,.s 17 [] (.p 0 0),.x 18 [(17,1)] (fv x),.x 19 [] (fv c1),.c 20 [(16,0),(18,2),(19,3)] (fv c2),.m 5 [] 2,.u [(5,5),(20,4)] 2] [(5,(RG.z 4))] [(2,6,(ws c2))] [(ws x++(ws y++(ws z))),(ws c1),(ws c2)] [(1,(.p 0 0)),(2,(.v (.string ⟨#[]⟩))),(4,(.p 1 0)),(5,(.p 2 0))] ⟨RG.cl (bR),RG.st,RG.ld u33 i33,RG.ld u33 i33,RG.cl ((bE C x c1).e hc2),RG.mk 2 37,RG.pt i33,trivial⟩ ?_;intro j5 a5 w5 M5;repeat refine wp_seq ?_
 refine M5.d [.c 21 [] rv0,.s 22 [] (.p 0 4),.x 23 [(22,1)] (fv y),.x 24 [] (fv c1),.c 25 [(21,0),(23,2),(24,3)] (fv c3),.m 6 [] 3,.u [(6,5),(25,4)] 3] [(5,(RG.z 4))] [(3,6,(ws c3))] [(ws x++(ws y++(ws z))),(ws c1),(ws c2),(ws c3)] [(2,(.v (.string ⟨#[]⟩))),(5,(.p 2 0)),(6,(.p 3 0))] ⟨RG.cl (bR),RG.st,RG.ld u33 i33,RG.ld u33 i33,RG.cl ((bE C y c1).e hc3),RG.mk 3 37,RG.pt i33,trivial⟩ ?_;intro j6 a6 w6 M6;repeat refine wp_seq ?_
 refine M6.d [.s 26 [] (.p 3 0),.x 27 [(26,0)] (.int .u64 ((c3.val%18446744073709551616:Nat):Int)),.x 28 [(27,1)] (.int .u64 1),.x 29 [(28,2)] (.int .u8 1),.x 30 [(29,3)] (.int .u8 3),⟨some 31,[(30,4)],(.s 4 1 1),.make 4⟩,.x 32 [(31,5)] (.string ⟨#[3]⟩),.x 33 [] (fv c2),.c 34 [(33,7)] (.string ⟨bx c2.val⟩),.x 35 [(32,6),(34,8)] (.string ⟨#[3]++bx c2.val⟩),.x 2 [(35,9)] (.string ⟨#[3]++bx c2.val⟩)] [(5,[(.int .u8 3)])] [] [(ws x++(ws y++(ws z))),(ws c1),(ws c2),(ws c3),[(.int .u8 3)]] [(2,(.v (.string ⟨#[3]++bx c2.val⟩)))] ⟨RG.cR rfl 37 6 (.int .i64 0) rfl (.p 3 0) RG.sx (fun μ w=>by kernel_rfl),RG.kB rfl 3 0 _ rfl rfl (by kernel_rfl) 35 26 rfl (.int .u64 ((c3.val%18446744073709551616:Nat):Int)) rfl RG.sx rfl u31,RG.aH rfl .and 35 35 27 (.int .u64 ((c3.val%18446744073709551616:Nat):Int)) (.int .u64 1) (.int .u64 1) rfl rfl RG.sx (fun w=>by kernel_rfl) (and1 c3.val 1 (by subst_vars;exact hpar)),RG.fX rfl 35 5 28 (.int .u64 1) (.int .u8 1) rfl rfl RG.sx (fun w=>by kernel_rfl),RG.st,RG.lE 4 rfl _ rfl 22 5 30 (.int .u8 3) rfl rfl RG.sx (bs1 3),RG.lD rfl 4 5 _ rfl _ rfl rfl (by kernel_rfl) (by kernel_rfl) 22 9 31 1 (.string ⟨#[3]⟩) rfl rfl RG.sx (fun w k h=>str1 3 w k h),RG.ld u33 i33,RG.cl (yP C.toFld c2),RG.aM rfl .add 9 9 32 34 (.string ⟨#[3]⟩) (.string ⟨bx c2.val⟩) (.string ⟨#[3]++bx c2.val⟩) rfl rfl RG.sx RG.sx (fun w=>by kernel_rfl) (cat 3 _),RG.st,trivial⟩ ?_;intro j7 a7 w7 M7;refine wp_ret ?_;refine bodyPost_ret (v:=(.string ⟨#[3]++bx c2.val⟩)) (RG.cQ 2 rfl _ (M7.at (s:=(.v (.string ⟨#[3]++bx c2.val⟩))))) M7.sl.defers ?_;exact⟨_,rfl,M7.st.bel.below,rfl⟩
end
section
open Go.RowKit Go.Sort
variable {P:Nat}[NeZero P]{N:Nat}
theorem AW(C:Fl3 P){t:T3 P}{p:EC.Pt P}(h:FracT t p):Gives 15 #[tv t] (.string ⟨wr p⟩):=by
 obtain⟨x,y,z⟩:=t;match p,h with
 | none,h=>exact MU C x y z h.1
 | some (a,b),h =>
  obtain⟨⟨hz,hx,hy⟩,ho⟩:=h;have hi:=EC.inv_mul C.toFld.cur.pr hz;have e1:x*EC.inv z=a:=by
   have hx:x=a*z:=hx;rw[hx]
   grobner
  have e2:y*EC.inv z=b:=by
   have hy:y=b*z:=hy;rw[hy]
   grobner
  show Gives _ #[rv x y z] (.string ⟨#[mark b.val]++bx a.val⟩);rw[<-e1,<-e2];unfold mark;by_cases hp:(y*EC.inv z).val%2=1
  ·rw[if_pos hp];exact IE C x y z hz hp
  ·rw[if_neg hp];exact IF C x y z hz (by omega)
end
section
open Go.RowKit Go.Sort Go.Deep
variable {P:Nat}[NeZero P]{N:Nat}
theorem tQ{P:Program}(w:World)(dT sT ty elem:TypeId)(b o dLen dCap:Nat)(t:ByteArray)
 (hu:P.underlying dT=some (.slice elem)) (hz:∀w,(Go.sizeOf elem).run P w=.ok 1 w)
 (hc:∀j,j<dLen->(w.cell? ⟨b,o+j,none⟩).isSome=true) (hf:∀j,j<dLen->w.frozen? ⟨b,o+j,none⟩=false) :
 (Builtin.copy_ #[dT,sT] ty #[.slice (some ⟨b,o,none⟩) dLen dCap,.string t]).run P w=.ok (goInt (Nat.min t.size dLen)) (w.setCells b o ((t.data.toList.map fun x=>Value.int .u8 (x.toNat:Int)).take (Nat.min t.size dLen))):=by
 have hl:(t.data.toList.map fun x=>Value.int .u8 (x.toNat:Int)).length=t.size:=by rw[List.length_map,<-Lib.size_eq]
 have hm:Nat.min t.size dLen<=dLen:=Nat.min_le_right _ _;have hst:=run_storeCells_cells (P:=P) b o ((t.data.toList.map fun x=>Value.int .u8 (x.toNat:Int)).take (Nat.min t.size dLen)) 0 w (by
  rw[List.length_take,hl];intro j hj;simpa using hc j (by omega)) (by
  rw[List.length_take,hl];intro j hj;simpa using hf j (by omega)) (by
  intro v hv;obtain⟨x,_,rfl⟩:=List.mem_map.1 (List.mem_of_mem_take hv);rfl)
 simp[Builtin.copy_,run_underlying hu,Builtin.lenOf,Builtin.firstCells,hz];rw[hst];rfl
theorem BR(l:List UInt8):beV l<256^l.length:=by
 induction l with
 | nil=>decide
 | cons x r ih =>
  have h:=dD [x] r;rw[show [x]++r=x :: r from rfl]at h;have hx:beV [x]=x.toNat:=by simp[beV]
  have hx2:=x.toNat_lt;rw[h,hx,List.length_cons,Nat.pow_succ,Nat.mul_comm (256^r.length)];have:=Nat.mul_le_mul_right (256^r.length) (show x.toNat+1<=256 by omega);rw[Nat.add_mul,Nat.one_mul]at this;omega
theorem OA(w:World):(Instr.makeSlice 22 (.int .i64 32) (.int .i64 32)).run prog w=.ok (.slice (some ⟨w.heap.size,0,none⟩) 32 32) (w.alloc (.cells (madeCells #[.int .u8 0] 32) 5)):=
 run_make_row' (P:=prog) 22 5 (.int .u8 0) 1 Ce wR rfl .i64 .i64 32 (by decide) (by decide) w
end
section
open Go.RowKit Go.Sort Go.Deep
variable {N:Nat}
def sec(N:Nat)(bs:Bs):Bool:=(rq N bs).isSome && !decide (nuV bs=0)
variable {P:Nat}[NeZero P]
end
section
open Go.RowKit Go.Sort Go.Deep
variable {P:Nat}[NeZero P]{N:Nat}
theorem JV:prog.underlying 61=some (.array 33 5):=by kernel_rfl
theorem fM{b:Bs}(h:b.size=33):aA b=[.int .u8 (ub b[0]!),.int .u8 (ub b[1]!),.int .u8 (ub b[2]!),.int .u8 (ub b[3]!),.int .u8 (ub b[4]!),.int .u8 (ub b[5]!),.int .u8 (ub b[6]!),.int .u8 (ub b[7]!),.int .u8 (ub b[8]!),.int .u8 (ub b[9]!),.int .u8 (ub b[10]!),.int .u8 (ub b[11]!),.int .u8 (ub b[12]!),.int .u8 (ub b[13]!),.int .u8 (ub b[14]!),.int .u8 (ub b[15]!),.int .u8 (ub b[16]!),.int .u8 (ub b[17]!),.int .u8 (ub b[18]!),.int .u8 (ub b[19]!),.int .u8 (ub b[20]!),.int .u8 (ub b[21]!),.int .u8 (ub b[22]!),.int .u8 (ub b[23]!),.int .u8 (ub b[24]!),.int .u8 (ub b[25]!),.int .u8 (ub b[26]!),.int .u8 (ub b[27]!),.int .u8 (ub b[28]!),.int .u8 (ub b[29]!),.int .u8 (ub b[30]!),.int .u8 (ub b[31]!),.int .u8 (ub b[32]!)]:=by
 apply List.ext_getElem?;intro i;by_cases hi:i<33
 ·rw[oP b i (by omega)];match i,hi with
  | 0,_=>rfl
  | 1,_=>rfl
  | 2,_=>rfl
  | 3,_=>rfl
  | 4,_=>rfl
  | 5,_=>rfl
  | 6,_=>rfl
  | 7,_=>rfl
  | 8,_=>rfl
  | 9,_=>rfl
  | 10,_=>rfl
  | 11,_=>rfl
  | 12,_=>rfl
  | 13,_=>rfl
  | 14,_=>rfl
  | 15,_=>rfl
  | 16,_=>rfl
  | 17,_=>rfl
  | 18,_=>rfl
  | 19,_=>rfl
  | 20,_=>rfl
  | 21,_=>rfl
  | 22,_=>rfl
  | 23,_=>rfl
  | 24,_=>rfl
  | 25,_=>rfl
  | 26,_=>rfl
  | 27,_=>rfl
  | 28,_=>rfl
  | 29,_=>rfl
  | 30,_=>rfl
  | 31,_=>rfl
  | 32,_=>rfl
  | n+33,h=>exact absurd h (by omega)
 ·rw[List.getElem?_eq_none (by rw[aC h];omega),List.getElem?_eq_none (by show 33<=i;omega)]
theorem bytes_eq{a b:Bs}(ha:a.size=33)(hb:b.size=33):(∀i∈List.range 33,ub a[i]! = ub b[i]!)↔a=b:=by
 constructor
 ·intro h;apply Array.ext (by rw[ha,hb]);intro i h1 h2;have h3:=h i (List.mem_range.2 (by omega));rw[getElem!_pos a i h1,getElem!_pos b i h2]at h3;have h4:a[i].toNat=b[i].toNat:=by unfold ub at h3;omega
  exact UInt8.toNat_inj.1 h4
 ·rintro rfl i _;rfl
theorem LV{a b:Bs}(ha:a.size=33)(hb:b.size=33)(w:World):(Op.equal 61 (.agg (aA a).toArray) (.agg (aA b).toArray)).run prog w=.ok (decide (a=b)) w:=by
 have hi:(prog.info? 5).isSome=true:=by kernel_rfl
 obtain⟨inf,hinf⟩:=Option.isSome_iff_exists.1 hi;show(Op.equalIn 10000 61 _ _).run prog w=_;rw[run_equalIn_array w 9999 _ _ JV hinf,cells5,
  eqI _ _ (fun i=>ub a[i]!) (fun i=>ub b[i]!) 9998 w (List.range 33) (fun i hi=>by
   rw[List.getElem?_toArray];exact oP a i (by rw[ha];exact List.mem_range.1 hi)) (fun i hi=>by
   rw[List.getElem?_toArray];exact oP b i (by rw[hb];exact List.mem_range.1 hi))]
 rw[decide_eq_decide.2 (bytes_eq ha hb)]
theorem C9{b:Bs}(hb:b.size=33)(e:Bool)(w:World):(Instr.checkKey e 10000 61 (.agg (aA b).toArray)).run prog w=.ok () w:=by
 rw[fM hb];kernel_rfl
def at?(b:Bs):List Bs->Nat->Option Nat
 | [],_=>none
 | k :: r,i=>if b=k then some i else at? b r (i+1)
def ents:List Bs->Nat->List MapEntry
 | [],_=>[]
 | k :: r,i=>{ key:=.agg (aA k).toArray,val:=.int .i64 i,born:=i } :: ents r (i+1)
theorem zR{b:Bs}(hb:b.size=33)(w:World):∀(D:List Bs) (i:Nat),(∀k∈D,k.size=33)->(Instr.findAsking 61 (.agg (aA b).toArray) (ents D i) i).run prog w=.ok ((at? b D i).map fun j=>(j,.int .i64 j)) w
 | [],i,_=>rfl
 | k :: r,i,h=>by
  have ih:=zR hb w r (i+1) (fun x hx=>h x (List.mem_cons_of_mem _ hx));have he:=LV hb (h k List.mem_cons_self) w;unfold ents Instr.findAsking at?;simp only[Sem.run_bind,he,Result.andThen_ok];by_cases hk:b=k
  ·simp only[hk,decide_true,if_true,Sem.run_pure,Option.map_some]
  ·simp only[hk,decide_false,Bool.false_eq_true,if_false,ih]
theorem CN{b:Bs}(hb:b.size=33)(D:List Bs)(h:∀k∈D,k.size=33)(w:World):(Instr.findKey 61 (.agg (aA b).toArray) (ents D 0)).run prog w=.ok ((at? b D 0).map fun j=>(j,.int .i64 j)) w:=by
 have hu:(underlying 61).run prog w=.ok (.array 33 5) w:=run_underlying JV w;unfold Instr.findKey;rw[Sem.run_bind,hu,Result.andThen_ok];cases D with
 | nil=>rfl
 | cons k r =>
  have h1:Instr.findNow (.array 33 5) (.agg (aA b).toArray) (ents (k :: r) 0) 0=none:=rfl;simp only[h1];exact zR hb w (k :: r) 0 h
theorem at?_none{b:Bs}:∀ {D:List Bs}{i:Nat},at? b D i=none↔b ∉ D
 | [],i=>by simp[at?]
 | k :: r,i=>by
  unfold at?;by_cases h:b=k
  ·simp[h]
  ·simp[h,at?_none (D:=r) (i:=i+1)]
end
section
open Go.RowKit Go.Sort Go.Deep
section
variable {P:Program}{ops:Array Oper}{rest:List Oper}{op:Oper}{a:Act}{w w':World}{v u:Value}{Q:Exit->Act->World->Prop}
theorem bI(hgd:op.guard=none)(T:TypeId)(x:Operand)(ho:op.op=.box T x)(hx:a.eval x=u)(hr:(Instr.box T u).run P w=.ok v w')(h:wpList P ops Q rest (a.put op.dst v) w'):wpList P ops Q (op :: rest) a w:=
 wpList_plain hgd fun K hK=>by
  unfold Oper.wp execOp;simp only[ho,hx,Sem.run_bind,hr,Result.andThen_ok,Sem.run_pure];exact hK _ _ h
end
variable {N:Nat}
theorem aI:(prog.info? 61).map (·.size)=some 33:=by kernel_rfl
theorem uCP:(prog.underlying 61).map (·.isRow)=some true:=by kernel_rfl
theorem qJ{a:Bs}(ha:a.size=33)(w:World):(Instr.box 61 (.agg (aA a).toArray)).run prog w=.ok (.pointer (some ⟨w.heap.size,0,none⟩)) (w.alloc (.cells (aA a).toArray 61)):=by
 rw[fM ha];kernel_rfl
theorem Oe(k:Nat)(w:World):(Instr.sliceAt 61 (.pointer (some ⟨k,0,none⟩)) none none none).run prog w=.ok (.slice (some ⟨k,0,none⟩) 33 33) w:=by kernel_rfl
theorem row_holds{W:World}{k:Nat}{a:Bs}(h:Row W k (aA a)):Holds encB W k 0 a:=cb_holds h.2.1 h.2.2
theorem yE{W:World}{k:Nat}{a:Bs}(ha:a.size=33)(h:Row W k (aA a)):SP.PartOk W (.slice (some ⟨k,0,none⟩) 33 33) a.toList:=
 ⟨_,k,0,33,a,by rw[ha],rfl,by omega,by omega,Or.inr ⟨rfl,row_holds h⟩⟩
theorem tP{W:World}{r:Nat}{L:Bs}(h:Holds encB W r 0 L):Holds SP.encB W r 0 L:=h
theorem tO{W:World}{r:Nat}{L:Bs}(h:Holds SP.encB W r 0 L):Holds encB W r 0 L:=h
end
section
open Go.RowKit Go.Sort Go.Deep
variable {P:Nat}[NeZero P]{N:Nat}
theorem GU(O:Ord N){c k x:Nat}(hc:c<N)(hk:k<N)(hx:x<N):Gives 92 #[nv c,nv k,nv x] (nv (sPl N k (sTi N c x))):=by
 intro w;have h1:=EW O c x hc hx;have h2:=EX O k (sTi N c x) hk (O.ti c x);generalize sTi N c x=cx at h1 h2⊢;generalize sPl N k cx=z at h2⊢;go_enter Tryz.func92,Tryz.ntmps92;refine RG.M.enter [(0,.v (nv c)),(1,.v (nv k)),(2,.v (nv x))] 12 (by kernel_rfl) ?_;intro a0 M0;repeat refine wp_seq ?_
 refine M0.t [.m 3 [] 0,.m 4 [] 1,.m 5 [] 2,.m 6 [] 3] [(0,wn c),(1,wn k),(2,wn x),(3,RG.z 4)] [] [wn c,wn k,wn x,RG.z 4] [(3,.p 0 0),(4,.p 1 0),(5,.p 2 0),(6,.p 3 0)] ⟨RG.mk 0 82,RG.mk 1 82,RG.mk 2 82,RG.mk 3 82,trivial⟩ ?_;intro j1 j2 j3 j4 a1 w1 M1;repeat refine wp_seq ?_
 refine M1.d [.x 7 [] (nv k),.x 8 [] (nv c),.x 9 [] (nv x),.c 10 [(8,1),(9,2)] (nv cx),.c 11 [(7,0),(10,3)] (nv z),.u [(11,4)] 3] [] [(3,5,wn z)] [wn c,wn k,wn x,wn z] [(6,.p 3 0)] ⟨RG.ld u40 i40,RG.ld u40 i40,RG.ld u40 i40,RG.cl h1,RG.cl h2,RG.pt i40,trivial⟩ ?_;intro a2 w2 M2;refine wp_ret ?_;refine bodyPost_ret (v:=nv z) (RG.aD M2.st 6 82 rfl 3 _ rfl (M2.at (s:=(.p 3 0))) u40 i40) M2.sl.defers ?_;exact⟨_,rfl,M2.st.bel.below,rfl⟩
theorem neS{a:Nat}(ha:a<top)(w:World):(binOp .neq 82 (nv a) (nv 0)).run prog w=.ok (.bool (!decide (a=0))) w:=by
 have h:=eqS ha (show 0<top by unfold top;omega) w;have h1:(binOp .eql 82 (nv a) (nv 0)).run prog w=(Op.equal 82 (nv a) (nv 0) >>= fun b=>pure (Value.bool b)).run prog w:=rfl;have h2:(binOp .neq 82 (nv a) (nv 0)).run prog w=(Op.equal 82 (nv a) (nv 0) >>= fun b=>pure (Value.bool (!b))).run prog w:=rfl;rw[h1,Sem.run_bind]at h;rw[h2,Sem.run_bind];cases he:(Op.equal 82 (nv a) (nv 0)).run prog w with
 | ok r w2 =>
  rw[he]at h;simp only[Result.andThen_ok,Sem.run_pure,Result.ok.injEq,Value.bool.injEq]at h⊢;rw[h.1,h.2];exact⟨rfl,rfl⟩
 | halt r w2 =>
  rw[he]at h;cases h
theorem jC(O:Ord N)(v:Value)(bs:Bs)(w:World)(hv:Arg w v bs):Calls prog 58 #[v] w (Ret fun e w'=>Below w.heap.size w w'/\e=.tuple #[nv ((rq N bs).getD 0),.bool ((rq N bs).isSome && !decide ((rq N bs).getD 0=0))]):=by
 have hR:∀w',RG.BelX w.heap.size [] w w'->Calls prog 46 #[v] w' (Ret fun e w''=>Below w'.heap.size w' w''/\e=.tuple #[nv ((rq N bs).getD 0),.bool (rq N bs).isSome]):=fun w' hb=>nE O v bs w' (hv.below hb.below)
 have hlt:(rq N bs).getD 0<top:=by
  cases h:rq N bs with
  | none=>show 0<top;unfold top;omega
  | some n=>exact AO O.le h
 have hne:=neS hlt;generalize (rq N bs).getD 0=n at hR hlt hne⊢;generalize (rq N bs).isSome=ok at hR⊢;generalize (!decide (n=0))=z at hne⊢;go_enter Tryz.func58,Tryz.ntmps58;refine RG.M.enter [(0,.v v)] 18 (by kernel_rfl) ?_;intro a0 M0;repeat refine wp_seq ?_
 refine M0.t [.m 2 [] 0,.x 3 [] (.bool false)] [(0,RG.z 4)] [] [RG.z 4] [(0,.v v),(2,.p 0 0),(3,.v (.bool false))] ⟨RG.mk 0 82,RG.st,trivial⟩ ?_;intro j1 a1 w1 M1;repeat refine wp_seq ?_
 refine M1.t [.x 7 [] v,.c 8 [(7,0)] (.tuple #[nv n,.bool ok]),.x 6 [(8,1)] (.tuple #[nv n,.bool ok]),.x 9 [(6,2)] (nv n),.x 10 [(6,2)] (.bool ok),.m 4 [] 1,.u [(4,5),(9,3)] 1,.x 5 [(10,4)] (.bool ok)] [(5,RG.z 4)] [(1,6,wn n)] [RG.z 4,wn n] [(2,.p 0 0),(4,.p 1 0),(5,.v (.bool ok))] ⟨RG.st,RG.clB (fun _ _=>by kernel_rfl) hR,RG.st,RG.st,RG.st,RG.mk 1 82,RG.pt i40,RG.st,trivial⟩ ?_;intro j2 a2 w2 M2;repeat refine wp_seq ?_
 cases ok with
 | true =>
  refine M2.d [.x 11 [] (nv n),.x 12 [] (.bool true),.x 13 [(12,1)] (.bool true),.x 14 [] (nv n),.x 15 [] (nv 0),.x 16 [(14,3),(15,4)] (.bool z),.x 17 [(13,2),(16,5)] (.bool z),.u [(11,0)] 0,.x 3 [(17,6)] (.bool z)] [] [(0,7,wn n)] [wn n,wn n] [(2,.p 0 0),(3,.v (.bool z))] ⟨RG.ld u40 i40,RG.st,RG.st,RG.ld u40 i40,RG.st,RG.aM rfl .neq 82 82 14 15 (nv n) (nv 0) (.bool z) rfl rfl RG.sx RG.sx (fun w=>by kernel_rfl) hne,RG.st,RG.pt i40,RG.st,trivial⟩ ?_;intro a4 w4 M4;refine wp_ret ?_;refine bodyPost_ret (v:=.tuple #[nv n,.bool z]) (RG.aW M4.st 2 3 82 rfl 0 _ rfl (M4.at (s:=.p 0 0)) (.bool z) M4.av u40 i40) M4.sl.defers ?_;exact⟨_,rfl,M4.st.bel.below,rfl⟩
 | false =>
  refine M2.d [.x 11 [] (nv n),.x 12 [] (.bool false),.x 13 [(12,1)] (.bool false),⟨some 14,[],(.v undef),.pass⟩,⟨some 15,[],(.v undef),.pass⟩,⟨some 16,[],(.v undef),.pass⟩,.x 17 [(13,2),(16,5)] (.bool false),.u [(11,0)] 0,.x 3 [(17,6)] (.bool false)] [] [(0,7,wn n)] [wn n,wn n] [(2,.p 0 0),(3,.v (.bool false))] ⟨RG.ld u40 i40,RG.st,RG.st,RG.bH rfl rfl,RG.bH rfl rfl,RG.bH rfl rfl,RG.st,RG.pt i40,RG.st,trivial⟩ ?_;intro a4 w4 M4;refine wp_ret ?_;refine bodyPost_ret (v:=.tuple #[nv n,.bool false]) (RG.aW M4.st 2 3 82 rfl 0 _ rfl (M4.at (s:=.p 0 0)) (.bool false) M4.av u40 i40) M4.sl.defers ?_;exact⟨_,rfl,M4.st.bel.below,rfl⟩
theorem GR(g cg:Nat)(w:World):(Instr.arrayAt 61 (.slice (some ⟨g,0,none⟩) 33 cg)).run prog w=.ok (.pointer (some ⟨g,0,none⟩)) w:=by kernel_rfl
theorem AQ{W:World}{k:Nat}{a:Bs}(ha:Holds encB W k 0 a)(hk:k<W.heap.size):Row W k (aA a):=⟨hk,(oN ha).1,(oN ha).2⟩
theorem bW(a:Bs):(aA a).toArray.all (·.oneCell')=true:=by
 rw[Array.all_eq_true'];intro v hv;obtain⟨x,-,rfl⟩:=List.mem_map.1 (List.mem_toArray.1 hv);rfl
def pvl(a:Bs):Value:=.agg (aA a).toArray
theorem F7(C:Fld P):Gives 49 #[] (pvl (wr (gG P))):=by
 intro w;obtain⟨T,hT⟩:∃T,Hid (wr (gG P)=T):=⟨_,rfl⟩
 have hTs:T.size=33:=by rw[<-hT.out];exact aL _
 rw[hT.out];obtain⟨w1,hw1⟩:∃w1,Hid (w.alloc (.cells z33.toArray 61)=w1):=⟨_,rfl⟩
 have K1:Hid (Row w1 w.heap.size z33/\Below w.heap.size w w1):=by rw[<-hw1.out];exact⟨aG w _ _,aE w _⟩
 obtain⟨d,hd1,hd2⟩:=Option.map_eq_some_iff.1 uCP;have HD:Hid (prog.underlying 61=some d/\d.isRow=true):=⟨hd1,hd2⟩
 clear hd1 hd2;go_enter Tryz.func49,Tryz.ntmps49;go_wp2_with (refine aJ (v:=.pointer (some ⟨w.heap.size,0,none⟩)) (w':=w1) rfl (.alloc 61) rfl ?_ ?_;(rw[<-hw1.out];kernel_rfl))
 refine(Ha C w1).mono ?_;rintro e w2 ⟨vv,rfl,hb2,g,cg,rfl,-,k2,k3,k4⟩;rw[hT.out]at k4;have K2:Hid (Row w2 w.heap.size z33/\Below w.heap.size w w2/\Row w2 g (aA T)):=⟨K1.out.1.below hb2,K1.out.2.trans (hb2.mono K1.out.2.size),AQ k4 k3⟩
 clear hb2 k2 k3 k4 K1 hw1;have harr:=GR g cg;obtain⟨w3,hw3⟩:∃w3,Hid (w2.setCells w.heap.size 0 (aA T)=w3):=⟨_,rfl⟩
 have hlen:(aA T).length=33:=aC hTs;have K3:Hid (Row w3 w.heap.size (aA T)/\Below w.heap.size w w3):=by rw[<-hw3.out];exact⟨K2.out.1.put (by rw[hlen];rfl),RG.below_setCells (Nat.le_refl _) _ _ _ K2.out.2.1⟩
 obtain⟨vt,hvt⟩:∃vt,Hid (Value.agg (aA T).toArray=vt):=⟨_,rfl⟩
 have HI:Hid ((prog.info? 61).map (·.size)=some (aA T).length/\w2.there w.heap.size 0 (aA T).toArray.size/\(prog.info? 61).map (·.size)=some (aA T).toArray.size):=by
  have e:(aA T).toArray.size=33:=by rw[List.size_toArray];exact hlen
  refine⟨by rw[hlen];exact aI,by rw[e];exact K2.out.1.2.2,by rw[e];exact aI⟩
 clear hlen;go_wp2_with (first|(refine wpList_load_mid rfl 61 _ rfl g 0 ?_ (aA T) d ?_ ?_ ?_ ?_ ?_;rfl;exact K2.out.2.2.2.1;exact HD.out.1;exact HD.out.2;exact HI.out.1;rw[hvt.out])|(refine wpList_store_mid rfl 61 _ _ rfl w.heap.size 0 (aA T).toArray ?_ ?_ ?_ ?_ ?_ ?_;rfl;exact hvt.out.symm;exact HI.out.2.1;exact HI.out.2.2;exact bW T;rw[show(aA T).toArray.toList=aA T from rfl,hw3.out]))
 refine bodyPost_ret (aY 0 61 rfl K3.out.1 rfl uCP HI.out.1) rfl ?_;exact⟨_,rfl,K3.out.2,rfl⟩
end
section
open Go.RowKit Go.Sort Go.Deep
section
variable {P:Program}{ops:Array Oper}{rest:List Oper}{op:Oper}{a:Act}{w w':World}{v:Value}{Q:Exit->Act->World->Prop}
theorem f9(hgd:op.guard=none)(T:TypeId)(parts:Array (Nat × Operand))(ho:op.op=.build T parts)(vs:Array (Nat × Value))(hx:(parts.map fun(i,x)=>(i,a.eval x))=vs)(hr:(Instr.build T vs).run P w=.ok v w')(h:wpList P ops Q rest (a.put op.dst v) w'):wpList P ops Q (op :: rest) a w:=
 wpList_plain hgd fun K hK=>by
  unfold Oper.wp execOp;simp only[ho,hx,Sem.run_bind,hr,Result.andThen_ok,Sem.run_pure];exact hK _ _ h
theorem mN(hgd:op.guard=none)(T:TypeId)(n:Nat)(parts:Array (Nat × Operand))(ho:op.op=.buildSlice T n parts)(vs:Array (Nat × Value))(hx:(parts.map fun(i,x)=>(i,a.eval x))=vs)(hr:(Instr.buildSlice T n vs).run P w=.ok v w')(h:wpList P ops Q rest (a.put op.dst v) w'):wpList P ops Q (op :: rest) a w:=
 wpList_plain hgd fun K hK=>by
  unfold Oper.wp execOp;simp only[ho,hx,Sem.run_bind,hr,Result.andThen_ok,Sem.run_pure];exact hK _ _ h
end
theorem NF{a:Bs}(ha:a.size=33)(n:Nat)(w:World):(Instr.build 138 #[(0,nv n),(1,pvl a)]).run prog w=.ok (.agg (wn n++aA a).toArray) w:=by
 unfold pvl;rw[fM ha];kernel_rfl
theorem Mc{a:Bs}(ha:a.size=33)(n:Nat)(w:World):(Instr.buildSlice 86 1 #[(0,.agg (wn n++aA a).toArray)]).run prog w=.ok (.slice (some ⟨w.heap.size,0,none⟩) 1 1) (w.alloc (.cells (wn n++aA a).toArray 138)):=by
 rw[fM ha];kernel_rfl
theorem boxS(n:Nat)(w:World):(Instr.box 82 (nv n)).run prog w=.ok (.pointer (some ⟨w.heap.size,0,none⟩)) (w.alloc (.cells (wn n).toArray 82)):=by kernel_rfl
theorem eN(a:Bs)(ha:a.size=33)(n:Nat)(w:World):Calls prog 50 #[pvl a,nv n] w (Ret fun e w'=>Below w.heap.size w w'/\∃k,e=.slice (some ⟨k,0,none⟩) 1 1/\w.heap.size<=k/\Row w' k (wn n++aA a)):=by
 have B1:=Hid.mk' (qJ ha w);obtain⟨w1,hw1⟩:∃w1,Hid (w.alloc (.cells (aA a).toArray 61)=w1):=⟨_,rfl⟩
 rw[hw1.out]at B1;have e1:w1.heap.size=w.heap.size+1:=by rw[<-hw1.out,World.size_alloc]
 have B2:=Hid.mk' (boxS n w1);obtain⟨w2,hw2⟩:∃w2,Hid (w1.alloc (.cells (wn n).toArray 82)=w2):=⟨_,rfl⟩
 rw[hw2.out,e1]at B2;have e2:w2.heap.size=w.heap.size+2:=by rw[<-hw2.out,World.size_alloc,e1]
 have B3:=Hid.mk' (NF ha n w2);have B4:=Hid.mk' (Mc ha n w2);obtain⟨w3,hw3⟩:∃w3,Hid (w2.alloc (.cells (wn n++aA a).toArray 138)=w3):=⟨_,rfl⟩
 rw[hw3.out,e2]at B4;have K:Hid (Row w2 w.heap.size (aA a)/\Row w2 (w.heap.size+1) (wn n)/\Below w.heap.size w w3/\Row w3 (w.heap.size+2) (wn n++aA a)):=by
  have q1:Row w1 w.heap.size (aA a):=by rw[<-hw1.out];exact aG w _ _
  have q2:Row w2 (w.heap.size+1) (wn n):=by rw[<-hw2.out,<-e1];exact aG w1 _ _
  have q3:Row w3 (w.heap.size+2) (wn n++aA a):=by rw[<-hw3.out,<-e2];exact aG w2 _ _
  have b1:Below w.heap.size w w1:=by rw[<-hw1.out];exact aE w _
  have b2:Below w1.heap.size w1 w2:=by rw[<-hw2.out];exact aE w1 _
  have b3:Below w2.heap.size w2 w3:=by rw[<-hw3.out];exact aE w2 _
  exact⟨q1.below b2,q2,(b1.trans (b2.mono (by omega))).trans (b3.mono (by omega)),q3⟩
 have HL:Hid ((prog.info? 61).map (·.size)=some (aA a).length):=by show _=_;rw[aC ha];exact aI
 obtain⟨d,hd1,hd2⟩:=Option.map_eq_some_iff.1 uCP;obtain⟨d',hd3,hd4⟩:=Option.map_eq_some_iff.1 u40;have HD:Hid ((prog.underlying 61=some d/\d.isRow=true)/\prog.underlying 82=some d'/\d'.isRow=true):=⟨⟨hd1,hd2⟩,hd3,hd4⟩
 clear hd1 hd2 hd3 hd4 hw1 hw2 hw3 e1 e2;obtain⟨va,hva⟩:∃v,Hid (pvl a=v):=⟨_,rfl⟩
 obtain⟨vn,hvn⟩:∃v,Hid (nv n=v):=⟨_,rfl⟩
 obtain⟨vt,hvt⟩:∃v,Hid (Value.agg (wn n++aA a).toArray=v):=⟨_,rfl⟩
 have B1':Hid ((Instr.box 61 va).run prog w=.ok (.pointer (some ⟨w.heap.size,0,none⟩)) w1):=by rw[<-hva.out];exact B1
 rw[hvn.out]at B2;rw[hva.out,hvn.out,hvt.out]at B3;rw[hvt.out]at B4;rw[hva.out,hvn.out];clear B1;go_enter Tryz.func50,Tryz.ntmps50;go_wp2_with (first|(refine bI (u:=va) (v:=.pointer (some ⟨w.heap.size,0,none⟩)) (w':=w1) rfl 61 (.tmp 0) rfl ?_ ?_ ?_;rfl;exact B1'.out)|(refine bI (u:=vn) (v:=.pointer (some ⟨w.heap.size+1,0,none⟩)) (w':=w2) rfl 82 (.tmp 1) rfl ?_ ?_ ?_;rfl;exact B2.out)|(refine wpList_load_mid rfl 82 _ rfl (w.heap.size+1) 0 ?_ (wn n) d' ?_ ?_ ?_ ?_ ?_;rfl;exact K.out.2.1.2.1;exact HD.out.2.1;exact HD.out.2.2;exact i40;rw[show Value.agg (wn n).toArray=vn from hvn.out])|(refine wpList_load_mid rfl 61 _ rfl w.heap.size 0 ?_ (aA a) d ?_ ?_ ?_ ?_ ?_;rfl;exact K.out.1.2.1;exact HD.out.1.1;exact HD.out.1.2;exact HL.out;rw[show Value.agg (aA a).toArray=va from hva.out])|(refine f9 (v:=vt) (w':=w2) rfl 138 _ rfl #[(0,vn),(1,va)] ?_ ?_ ?_;kernel_rfl;exact B3.out)|(refine mN (v:=.slice (some ⟨w.heap.size+2,0,none⟩) 1 1) (w':=w3) rfl 86 1 _ rfl #[(0,vt)] ?_ ?_ ?_;kernel_rfl;exact B4.out))
 go_ret;exact⟨_,rfl,K.out.2.2.1,w.heap.size+2,rfl,by omega,K.out.2.2.2⟩
end
section
open Go.RowKit Go.Sort Go.Deep
variable {P:Nat}[NeZero P]{N:Nat}
theorem OS{a:Bs}(ha:a.size=33)(n:Nat)(w:World):(Instr.box 138 (.agg (wn n++aA a).toArray)).run prog w=.ok (.pointer (some ⟨w.heap.size,0,none⟩)) (w.alloc (.cells (wn n++aA a).toArray 138)):=by
 rw[fM ha];kernel_rfl
theorem OT(w:World):(Instr.build 82 #[]).run prog w=.ok (nv 0) w:=by kernel_rfl
def tvl(n:Nat)(a:Bs):Value:=.agg (wn n++aA a).toArray
theorem iM{W:World}{k:Nat}{xs ys:List Value}(h:W.rangeAt k 0 (xs++ys)):W.rangeAt k 0 xs:=fun j v hj=>h j v (by rw[List.getElem?_append_left (List.getElem?_eq_some_iff.1 hj).1];exact hj)
theorem gI{W:World}{k:Nat}{xs ys:List Value}(h:W.rangeAt k 0 (xs++ys)):W.rangeAt k xs.length ys:=fun j v hj=>by
 have:=h (xs.length+j) v (by rw[List.getElem?_append_right (Nat.le_add_right _ _),Nat.add_sub_cancel_left];exact hj);rwa[Nat.zero_add]at this
theorem FK{n:Nat}(hn:n<top){a:Bs}(ha:a.size=33):Gives 124 #[tvl n a] (.bool (decide (n=0))):=by
 intro w;have B1:=Hid.mk' (OS ha n w);obtain⟨w1,hw1⟩:∃w1,Hid (w.alloc (.cells (wn n++aA a).toArray 138)=w1):=⟨_,rfl⟩
 rw[hw1.out]at B1;have K:Hid (Row w1 w.heap.size (wn n++aA a)/\Below w.heap.size w w1):=by rw[<-hw1.out];exact⟨aG w _ _,aE w _⟩
 obtain⟨d',hd3,hd4⟩:=Option.map_eq_some_iff.1 u40;have HD:Hid (prog.underlying 82=some d'/\d'.isRow=true):=⟨hd3,hd4⟩
 clear hd3 hd4 hw1;obtain⟨va,hva⟩:∃v,Hid (tvl n a=v):=⟨_,rfl⟩
 obtain⟨vn,hvn⟩:∃v,Hid (nv n=v):=⟨_,rfl⟩
 obtain⟨v0,hv0⟩:∃v,Hid (nv 0=v):=⟨_,rfl⟩
 have B1':Hid ((Instr.box 138 va).run prog w=.ok (.pointer (some ⟨w.heap.size,0,none⟩)) w1):=by rw[<-hva.out];exact B1
 have B2:Hid ((Instr.build 82 #[]).run prog w1=.ok v0 w1):=by rw[<-hv0.out];exact OT w1
 have B3:=Hid.mk' (eqS hn (show 0<top by unfold top;omega) w1);rw[hvn.out,hv0.out]at B3;have hq:=B3.out;obtain⟨z,hz⟩:∃z,Hid (decide (n=0)=z):=⟨_,rfl⟩
 rw[hz.out]at hq;have hg:(eqGuard .eql 82 (.tmp 4) (.tmp 5) vn v0).run prog w1=.ok () w1:=by rw[<-hvn.out,<-hv0.out];kernel_rfl
 rw[hva.out,hz.out];clear B1 B3;go_enter Tryz.func124,Tryz.ntmps124;go_wp2_with (first|(refine bI (u:=va) (v:=.pointer (some ⟨w.heap.size,0,none⟩)) (w':=w1) rfl 138 (.tmp 0) rfl ?_ ?_ ?_;rfl;exact B1'.out)|(refine wpList_load_mid rfl 82 _ rfl w.heap.size 0 ?_ (wn n) d' ?_ ?_ ?_ ?_ ?_;rfl;exact iM K.out.1.2.1;exact HD.out.1;exact HD.out.2;exact i40;rw[show Value.agg (wn n).toArray=vn from hvn.out])|(refine f9 (v:=v0) (w':=w1) rfl 82 _ rfl #[] ?_ ?_ ?_;kernel_rfl;exact B2.out))
 go_wp2;go_ret;exact⟨_,rfl,K.out.2,rfl⟩
theorem uT:(prog.underlying 138).map (·.isRow)=some true:=by kernel_rfl
theorem iT:(prog.info? 138).map (·.size)=some 37:=by kernel_rfl
theorem atT(k o n c i:Nat)(hi:i<n)(w:World):(Instr.indexAt 86 (.slice (some ⟨k,o,none⟩) n c) (.int .i64 i)).run prog w=.ok (.pointer (some ⟨k,o+37*i,none⟩)) w:=by
 have h1:¬(i:Int)<0:=by omega
 have h2:(i:Int)<n:=by omega
 go_simp
def gV(ns:Nat->Nat):Nat->Nat->Int
 | _,0=>-1
 | i,m+1=>if ns i=0 then(i:Int) else gV ns (i+1) m
def Kw(b:Bool):List RG.It:=[.x 9 [] (.bool b)]
def Kv(g k c i n:Nat)(a:Bs)(z:Bool):List RG.It:=[.x 11 [] (.func (.func 124) #[] #[]),.x 12 [] (.slice (some ⟨g,0,none⟩) k c),.x 13 [] (.int .i64 i),.x 14 [(12,1),(13,2)] (.pointer (some ⟨g,(0+37*i),none⟩)),.x 15 [(14,3)] (tvl n a),.c 16 [(11,0),(15,4)] (.bool z)]
theorem wS(g k c:Nat)(hk:k<=1000000)(ns:Nat->Nat)(az:Nat->Bs)(hn:∀j,j<k->ns j<top)(ha:∀j,j<k->(az j).size=33)(w:World)(hg:g<w.heap.size)(hr:∀j,j<k->w.rangeAt g (37*j) (wn (ns j)++aA (az j))):
 Calls prog 152 #[(.slice (some ⟨g,0,none⟩) k c),(.func (.func 124) #[] #[])] w (Ret fun e w'=>Below w.heap.size w w'/\e=.int .i64 (gV ns 0 k)):=by
 obtain⟨R,hR⟩:∃R,gV ns 0 k=R:=⟨_,rfl⟩
 rw[hR];go_enter Tryz.func152,Tryz.ntmps152;refine RG.M.enter [(0,.v (.slice (some ⟨g,0,none⟩) k c)),(1,.v (.func (.func 124) #[] #[]))] 19 (by kernel_rfl) ?_;intro a0 M0;repeat refine wp_seq ?_
 refine M0.u [.x 4 [] (.int .i64 0)] [(0,.v (.slice (some ⟨g,0,none⟩) k c)),(1,.v (.func (.func 124) #[] #[]))] ⟨RG.st,trivial⟩ ?_;intro a1 w1 M1;repeat refine wp_seq ?_
 refine M1.u [.x 6 [] (.slice (some ⟨g,0,none⟩) k c),.x 7 [(6,0)] (.int .i64 k),.x 8 [] (.int .i64 0)] [(0,.v (.slice (some ⟨g,0,none⟩) k c)),(1,.v (.func (.func 124) #[] #[])),(7,.v (.int .i64 k)),(8,.v (.int .i64 0))] ⟨RG.st,RG.st,RG.st,trivial⟩ ?_;intro a2 w2 M2;repeat refine wp_seq ?_
 refine wp_block ?_;refine wp_loop_ghost (fun m a wr=>∃i:Nat,i+m=k/\gV ns i m=R/\RG.M w w.heap.size [] 19 [] [] [(0,.v (.slice (some ⟨g,0,none⟩) k c)),(1,.v (.func (.func 124) #[] #[])),(7,.v (.int .i64 k)),(8,.v (.int .i64 i))] a wr) k ⟨0,by omega,hR,M2⟩ ?_;intro m' a wr;rintro⟨i,him,hf,M20⟩;by_cases hi:i<k
 ·obtain⟨n,hne⟩:∃n,ns i=n:=⟨_,rfl⟩
  obtain⟨b,hbe⟩:∃b,az i=b:=⟨_,rfl⟩
  have hnt:=hn i hi;have hbs:=ha i hi;have hri:=hr i hi;rw[hne]at hnt hri;rw[hbe]at hbs hri;have hri':w.rangeAt g (0+37*i) (wn n++aA b):=by rw[Nat.zero_add];exact hri
  have hlen:(prog.info? 138).map (·.size)=some (wn n++aA b).length:=by rw[List.length_append,aC hbs];exact iT
  have hz:=FK hnt hbs;obtain⟨m2,rfl⟩:∃m2,m'=m2+1:=⟨m'-1,by omega⟩
  unfold gV at hf;rw[hne]at hf;repeat refine wp_seq ?_
  refine M20.u (Kw true) [(0,.v (.slice (some ⟨g,0,none⟩) k c)),(1,.v (.func (.func 124) #[] #[])),(7,.v (.int .i64 k)),(8,.v (.int .i64 i)),(9,.v (.bool true))] ⟨RG.aM rfl .lss 3 3 8 7 (.int .i64 i) (.int .i64 k) (.bool true) rfl rfl RG.sx RG.sx (fun w=>by kernel_rfl) (dK hi),trivial⟩ ?_;intro a21 w21 M21;repeat refine wp_seq ?_
  refine wp_cond_true M21.ev ?_;refine wp_skip ?_;refine wp_seq ?_;refine wp_block ?_;repeat refine wp_seq ?_
  refine M21.u [.x 10 [] (.int .i64 i),.x 5 [(10,0)] (.int .i64 i)] [(0,.v (.slice (some ⟨g,0,none⟩) k c)),(1,.v (.func (.func 124) #[] #[])),(7,.v (.int .i64 k)),(8,.v (.int .i64 i)),(5,.v (.int .i64 i))] ⟨RG.st,RG.st,trivial⟩ ?_;intro a22 w22 M22;repeat refine wp_seq ?_
  by_cases h0:n=0
  ·rw[decide_eq_true h0]at hz;rw[if_pos h0]at hf;refine M22.u (Kv g k c i n b true) [(0,.v (.slice (some ⟨g,0,none⟩) k c)),(1,.v (.func (.func 124) #[] #[])),(7,.v (.int .i64 k)),(8,.v (.int .i64 i)),(5,.v (.int .i64 i)),(16,.v (.bool true))] ⟨RG.st,RG.st,RG.st,RG.aZ rfl 86 12 13 rfl (.v (.slice (some ⟨g,0,none⟩) k c)) (.int .i64 i) RG.sx RG.sx (fun μ w=>atT _ 0 _ _ i hi w),RG.dC rfl g (0+37*i) hg List.not_mem_nil 138 14 rfl (wn n++aA b) rfl RG.sx hri' uT hlen,RG.clB (fun _ _=>by kernel_rfl) (fun w' _=>hz w'),trivial⟩ ?_;intro a23 w23 M23;repeat refine wp_seq ?_
   refine wp_cond_true M23.ev ?_;repeat refine wp_seq ?_
   refine M23.u [.x 17 [] (.int .i64 i),.x 4 [(17,0)] (.int .i64 i)] [(4,.v (.int .i64 i))] ⟨RG.st,RG.st,trivial⟩ ?_;intro a24 w24 M24;refine wp_ret ?_;refine bodyPost_ret (v:=.int .i64 i) (RG.cQ 4 rfl (.int .i64 i) M24.av) M24.sl.defers ?_;exact⟨_,rfl,M24.st.bel.below,by rw[hf]⟩
  ·rw[decide_eq_false h0]at hz;rw[if_neg h0]at hf;refine M22.u (Kv g k c i n b false) [(0,.v (.slice (some ⟨g,0,none⟩) k c)),(1,.v (.func (.func 124) #[] #[])),(7,.v (.int .i64 k)),(8,.v (.int .i64 i)),(16,.v (.bool false))] ⟨RG.st,RG.st,RG.st,RG.aZ rfl 86 12 13 rfl (.v (.slice (some ⟨g,0,none⟩) k c)) (.int .i64 i) RG.sx RG.sx (fun μ w=>atT _ 0 _ _ i hi w),RG.dC rfl g (0+37*i) hg List.not_mem_nil 138 14 rfl (wn n++aA b) rfl RG.sx hri' uT hlen,RG.clB (fun _ _=>by kernel_rfl) (fun w' _=>hz w'),trivial⟩ ?_;intro a23 w23 M23;repeat refine wp_seq ?_
   refine wp_cond_false M23.ev ?_;refine wp_skip ?_;repeat refine wp_seq ?_
   refine M23.u [.x 18 [] (.int .i64 ((i+1:Nat):Int)),.x 8 [(18,0)] (.int .i64 ((i+1:Nat):Int))] [(0,.v (.slice (some ⟨g,0,none⟩) k c)),(1,.v (.func (.func 124) #[] #[])),(7,.v (.int .i64 k)),(8,.v (.int .i64 ((i+1:Nat):Int)))] ⟨RG.aH rfl .add 3 3 8 (.int .i64 i) (.int .i64 1) (.int .i64 ((i+1:Nat):Int)) rfl rfl RG.sx (fun w=>by kernel_rfl) (oR i 1 (by omega) (by omega)),RG.st,trivial⟩ ?_;intro a24 w24 M24;show ∃n',_;exact⟨m2,by omega,i+1,by omega,hf,M24⟩
 ·have hik:m'=0:=by omega
  rw[hik]at hf;unfold gV at hf;repeat refine wp_seq ?_
  refine M20.u (Kw false) [(9,.v (.bool false))] ⟨RG.aM rfl .lss 3 3 8 7 (.int .i64 i) (.int .i64 k) (.bool false) rfl rfl RG.sx RG.sx (fun w=>by kernel_rfl) (jW hi),trivial⟩ ?_;intro a21 w21 M21;repeat refine wp_seq ?_
  refine wp_cond_false M21.ev ?_;refine wp_exit ?_;dsimp only[Exit.then,Exit.inBlock];rw[if_pos rfl];repeat refine wp_seq ?_
  refine M21.u [.x 4 [] (.int .i64 (-1))] [(4,.v (.int .i64 (-1)))] ⟨RG.st,trivial⟩ ?_;intro a22 w22 M22;refine wp_ret ?_;refine bodyPost_ret (v:=.int .i64 (-1)) (RG.cQ 4 rfl (.int .i64 (-1)) M22.av) M22.sl.defers ?_;exact⟨_,rfl,M22.st.bel.below,by rw[<-hf]⟩
theorem qF{ns:Nat->Nat}:∀(m i:Nat),(∀j,i<=j->j<i+m->ns j≠0)->gV ns i m = -1
 | 0,_,_=>rfl
 | m+1,i,h=>by
  unfold gV;rw[if_neg (h i (Nat.le_refl _) (by omega))];exact qF m (i+1) (fun j h1 h2=>h j (by omega) (by omega))
theorem qG(g k c:Nat)(hk:k<=1000000)(ns:Nat->Nat)(az:Nat->Bs)(hn:∀j,j<k->ns j<top)(hn0:∀j,j<k->ns j≠0)(ha:∀j,j<k->(az j).size=33)(w:World)(hg:g<w.heap.size)(hr:∀j,j<k->w.rangeAt g (37*j) (wn (ns j)++aA (az j))):
 Calls prog 123 #[(.slice (some ⟨g,0,none⟩) k c),(.func (.func 124) #[] #[])] w (Ret fun e w'=>Below w.heap.size w w'/\e=(.slice (some ⟨g,0,none⟩) k c)):=by
 have hI:∀w',RG.BelX w.heap.size [] w w'->Calls prog 152 #[(.slice (some ⟨g,0,none⟩) k c),(.func (.func 124) #[] #[])] w' (Ret fun e w''=>Below w'.heap.size w' w''/\e=.int .i64 (-1)):=fun w' hb=>by
  have h:=wS g k c hk ns az hn ha w' (Nat.lt_of_lt_of_le hg hb.below.size) (fun j hj=>RG.aO (hr j hj) hb.below hg);rw[qF k 0 (fun j _ h2=>hn0 j (by omega))]at h;exact h
 go_enter Tryz.func123,Tryz.ntmps123;refine RG.M.enter [(0,.v (.slice (some ⟨g,0,none⟩) k c)),(1,.v (.func (.func 124) #[] #[]))] 42 (by kernel_rfl) ?_;intro a0 M0;repeat refine wp_seq ?_
 refine M0.u [.x 4 [] (.slice none 0 0)] [(0,.v (.slice (some ⟨g,0,none⟩) k c)),(1,.v (.func (.func 124) #[] #[]))] ⟨RG.st,trivial⟩ ?_;intro a1 w1 M1;repeat refine wp_seq ?_
 refine M1.u [.x 8 [] (.slice (some ⟨g,0,none⟩) k c),.x 9 [] (.func (.func 124) #[] #[]),.c 10 [(8,0),(9,1)] (.int .i64 (-1)),.x 5 [(10,2)] (.int .i64 (-1))] [(0,.v (.slice (some ⟨g,0,none⟩) k c)),(5,.v (.int .i64 (-1)))] ⟨RG.st,RG.st,RG.clB (fun _ _=>by kernel_rfl) hI,RG.st,trivial⟩ ?_;intro a2 w2 M2;repeat refine wp_seq ?_
 refine M2.u [.x 11 [] (.int .i64 (-1)),.x 12 [(11,0)] (.bool true)] [(0,.v (.slice (some ⟨g,0,none⟩) k c)),(12,.v (.bool true))] ⟨RG.st,RG.st,trivial⟩ ?_;intro a3 w3 M3;repeat refine wp_seq ?_
 refine wp_cond_true M3.ev ?_;repeat refine wp_seq ?_
 refine M3.u [.x 13 [] (.slice (some ⟨g,0,none⟩) k c),.x 4 [(13,0)] (.slice (some ⟨g,0,none⟩) k c)] [(4,.v (.slice (some ⟨g,0,none⟩) k c))] ⟨RG.st,RG.st,trivial⟩ ?_;intro a4 w4 M4;refine wp_ret ?_;refine bodyPost_ret (v:=(.slice (some ⟨g,0,none⟩) k c)) (RG.cQ 4 rfl _ M4.av) M4.sl.defers ?_;exact⟨_,rfl,M4.st.bel.below,rfl⟩
theorem MC:prog.underlying 173=some (.map 61 3):=by kernel_rfl
theorem zero3(w:World):(zeroValue 3).run prog w=.ok (.int .i64 0) w:=by kernel_rfl
theorem u9(b:Bs):∀(D:List Bs) (i:Nat),ents (D++[b]) i=ents D i++[{ key:=.agg (aA b).toArray,val:=.int .i64 ((i+D.length:Nat):Int),born:=i+D.length }]
 | [],i=>rfl
 | k :: r,i=>by
  rw[List.cons_append];unfold ents;rw[u9 b r (i+1),List.length_cons,show i+1+r.length=i+(r.length+1) by omega];rfl
theorem sK{b:Bs}(hb:b.size=33)(D:List Bs)(hD:∀k∈D,k.size=33)(m clock:Nat)(w:World)(hm:w.heap[m]? = some (.map (ents D 0).toArray clock)):
 (Instr.lookup 173 (.map (some m)) (.agg (aA b).toArray) true).run prog w=.ok (.tuple #[.int .i64 (((at? b D 0).getD 0:Nat):Int),.bool (at? b D 0).isSome]) w:=by
 have h1:=run_underlying MC w;have h2:=fun e=>C9 hb e w
 have h3:=CN hb D hD w;have h4:(getObj m).run prog w=.ok (.map (ents D 0).toArray clock) w:=by
  simp[getObj,Sem.run,hm]
 unfold Instr.lookup;simp only[Sem.run_bind,h1,Result.andThen_ok,h4,Sem.run_pure,h2,h3];cases h:at? b D 0 with
 | none=>simp[Sem.run_bind,zero3]
 | some j=>simp
theorem Cd{b:Bs}(hb:b.size=33)(D:List Bs)(hD:∀k∈D,k.size=33)(m:Nat)(w:World)(hm:w.heap[m]? = some (.map (ents D 0).toArray D.length))(hn:at? b D 0=none):
 (Instr.mapUpdate 173 (.map (some m)) (.agg (aA b).toArray) (.int .i64 (D.length:Int))).run prog w=.ok () (w.putObj m (.map (ents (D++[b]) 0).toArray (D.length+1))):=by
 have h1:=run_underlying MC w;have h2:=fun e=>C9 hb e w
 have h3:=CN hb D hD w;rw[hn]at h3;have h4:(getObj m).run prog w=.ok (.map (ents D 0).toArray D.length) w:=by
  simp[getObj,Sem.run,hm]
 unfold Instr.mapUpdate;simp only[Sem.run_bind,h1,Result.andThen_ok,h4,Sem.run_pure,h2,h3];rw[u9,Nat.zero_add];simp[setObj,Sem.run,hm,World.putObj]
theorem Dt:prog.underlying 86=some (.slice 138):=by kernel_rfl
theorem Nk:(prog.info? 138).map (fun i=>(i.size,i.bytes,i.zero.map fun z=>z.cells.size))=some (37,72,some 37):=by kernel_rfl
theorem cells_one(n:Nat)(a:Bs):∀u∈wn n++aA a,u.oneCell'=true:=by
 intro u hu;rcases List.mem_append.1 hu with h|h
 ·unfold wn at h;simp only[List.mem_cons,List.not_mem_nil,or_false]at h;rcases h with rfl|rfl|rfl|rfl<;>rfl
 ·obtain⟨x,-,rfl⟩:=List.mem_map.1 h;rfl
theorem GT{base k g n:Nat}{v:Value}{xs:List Value}{a:Bs}(ha:a.size=33){W:World}(hown:W.ownsRow base 138 37 v k xs)(hR:Row W g (wn n++aA a))(hk:k<=1000000)(hb:base<=W.heap.size):
 ∃v' W',(Builtin.append_ #[86,86] 86 #[v,.slice (some ⟨g,0,none⟩) 1 1]).run prog W=.ok v' W'/\W'.ownsRow base 138 37 v' (k+1) (xs++(wn n++aA a))/\W.grownBy W' v.ownBlock:=by
 obtain⟨i,hi,he⟩:=Option.map_eq_some_iff.1 Nk;simp only[Prod.mk.injEq]at he;obtain⟨h1,h2,h3⟩:=he;obtain⟨z,hz,hz2⟩:=Option.map_eq_some_iff.1 h3;obtain⟨v',W',r1,r2,r3,-⟩:=run_append_own (P:=prog) W base 86 86 138 i z 37 72 Dt hi hz h1 h2 hz2 (by decide) v k xs hown ⟨g,0,none⟩ 1 1 (wn n++aA a) (by rw[List.length_append,aC ha];rfl)
  (fun j u hj=>by
   have:=hR.2.1 j u hj;rw[Nat.zero_add]at this;rw[show(⟨g,0,none⟩:Addr).add j=⟨g,j,none⟩ by unfold Addr.add;split<;>simp_all];exact this) (cells_one n a) (by unfold maxLen;omega) (by omega) hb
 exact⟨v',W',r1,r2,r3⟩
def dN(N:Nat):List (Nat × Bs)->Nat->Bs->List (Nat × Bs)
 | [],n,p=>[(n,p)]
 | (s,q) :: r,n,p=>if p=q then(sPl N s n,q) :: r else(s,q) :: dN N r n p
def mrg(N:Nat)(ns:Nat->Nat)(az:Nat->Bs):Nat->List (Nat × Bs)
 | 0=>[]
 | i+1=>dN N (mrg N ns az i) (ns i) (az i)
def aV(l:List (Nat × Bs)):List Value:=l.flatMap fun x=>wn x.1++aA x.2
theorem tL{N n:Nat}{p:Bs}:∀ {l:List (Nat × Bs)},at? p (l.map (·.2)) 0=none->dN N l n p=l++[(n,p)]
 | [],_=>rfl
 | (s,q) :: r,h=>by
  have h2:=at?_none.1 h;rw[List.map_cons,List.mem_cons,not_or]at h2;unfold dN;rw[if_neg h2.1,tL (l:=r) (at?_none.2 h2.2)];rfl
theorem Ad(l:List (Nat × Bs))(n:Nat)(p:Bs):aV (l++[(n,p)])=aV l++(wn n++aA p):=by
 unfold aV;rw[List.flatMap_append];simp
structure Mx(w W:World)(m:Nat)(l:List (Nat × Bs))(v:Value):Prop where
 bl:Below w.heap.size w W
 mp:W.heap[m]? = some (.map (ents (l.map (·.2)) 0).toArray l.length)
 lm:w.heap.size<=m
 ow:W.ownsRow w.heap.size 138 37 v l.length (aV l)
theorem Mx.own_ne{w W:World}{m:Nat}{l:List (Nat × Bs)}{v:Value}(h:Mx w W m l v){g:Nat}(hg:v.ownBlock=some g):g≠m/\w.heap.size<=g/\g<W.heap.size:=by
 rcases h.ow.2 with⟨rfl,-⟩|⟨g',cap,cur,rfl,h1,h2,-⟩
 ·cases hg
 ·obtain rfl:g'=g:=by simpa[Value.ownBlock]using hg
  refine⟨fun e=>?_,h1,(Array.getElem?_eq_some_iff.1 h2).1⟩;have:=h.mp;rw[<-e,h2]at this;cases this
theorem pH{W W':World}{base k:Nat}{e:TypeId}{s:Nat}{v:Value}{xs:List Value}(h:W.ownsRow base e s v k xs)(hk:∀g,v.ownBlock=some g->W'.heap[g]? = W.heap[g]?):W'.ownsRow base e s v k xs:=by
 refine⟨h.1,?_⟩;rcases h.2 with h2|⟨g,cap,cur,rfl,h1,h2,h3⟩
 ·exact Or.inl h2
 ·exact Or.inr ⟨g,cap,cur,rfl,h1,by rw[hk g rfl];exact h2,h3⟩
theorem Mx.kept{w W W':World}{m:Nat}{l:List (Nat × Bs)}{v:Value}(h:Mx w W m l v)(hb:Below W.heap.size W W'):Mx w W' m l v:=
 ⟨h.bl.trans (hb.mono h.bl.size),by rw[hb.block m (Array.getElem?_eq_some_iff.1 h.mp).1];exact h.mp,h.lm,pH h.ow fun g hg=>hb.block g (h.own_ne hg).2.2⟩
theorem Gg(l:List (Nat × Bs))(n:Nat)(p:Bs):(l++[(n,p)]).map (·.2)=l.map (·.2)++[p]:=by simp
theorem Mx.push{w W:World}{m:Nat}{l:List (Nat × Bs)}{v:Value}(h:Mx w W m l v){p:Bs}(hp:p.size=33)(hk:l.length<=1000000)(n:Nat):
 ∃v' W5x,(Builtin.append_ #[86,86] 86 #[v,.slice (some ⟨W.heap.size,0,none⟩) 1 1]).run prog ((W.putObj m (.map (ents (l.map (·.2)++[p]) 0).toArray (l.length+1))).alloc (.cells (wn n++aA p).toArray 138))=.ok v' W5x/\Mx w W5x m (l++[(n,p)]) v'/\W.heap.size<W5x.heap.size/\∀j,j<W.heap.size->w.heap.size<=j->j≠m->some j≠v.ownBlock->W5x.heap[j]? = W.heap[j]?:=by
 obtain⟨W3,h3⟩:∃W3,W.putObj m (.map (ents (l.map (·.2)++[p]) 0).toArray (l.length+1))=W3:=⟨_,rfl⟩
 have s3:W3.heap.size=W.heap.size:=by rw[<-h3];simp[World.putObj]
 have hmW:m<W.heap.size:=(Array.getElem?_eq_some_iff.1 h.mp).1;have o3:∀j,j≠m->W3.heap[j]? = W.heap[j]?:=fun j hj=>by rw[<-h3];exact World.putObj_heap_other hj
 have b3:Below w.heap.size w W3:=h.bl.trans ⟨by rw[<-h3];rfl,by rw[<-h3];rfl,by rw[<-h3];rfl,by omega,fun j hj=>o3 j (by have:=h.lm;omega)⟩;have w3:W3.ownsRow w.heap.size 138 37 v l.length (aV l):=pH h.ow fun g hg=>o3 g (h.own_ne hg).1
 have m3:W3.heap[m]? = some (.map (ents (l.map (·.2)++[p]) 0).toArray (l.length+1)):=by rw[<-h3];exact World.putObj_heap_same hmW
 rw[h3];have R4:=aG W3 (wn n++aA p) 138;have b4:=aE W3 (.cells (wn n++aA p).toArray 138);have s4:(W3.alloc (.cells (wn n++aA p).toArray 138)).heap.size=W.heap.size+1:=by rw[World.size_alloc,s3]
 generalize W3.alloc (.cells (wn n++aA p).toArray 138)=W4 at R4 b4 s4⊢;have w4:W4.ownsRow w.heap.size 138 37 v l.length (aV l):=pH w3 fun g hg=>b4.block g (by have:=(h.own_ne hg).2.2;omega)
 rw[s3]at R4;obtain⟨v',W5x,r1,r2,r3⟩:=GT hp w4 R4 hk (by have:=b3.size;omega);have hm5:some m≠v.ownBlock:=fun e=>(h.own_ne e.symm).1 rfl
 refine⟨v',W5x,r1,⟨?_,?_,h.lm,?_⟩,by have:=r3.size;omega,fun j hj _ hjm hjo=>?_⟩
 ·exact(b3.trans (b4.mono b3.size)).grown r3 (by have:=b3.size;omega) (fun k e=>(h.own_ne e).2.1)
 ·rw[r3.block m (by omega) hm5,b4.block m (by omega),m3,Gg,List.length_append];rfl
 ·rw[Ad,List.length_append];exact r2
 ·rw[r3.block j (by omega) hjo,b4.block j (by omega),o3 j hjm]
end
section
open Go.RowKit Go.Sort Go.Deep
variable {N:Nat}
section
variable {P:Program}{ops:Array Oper}{rest:List Oper}{op:Oper}{a:Act}{w w':World}{v x y z:Value}{Q:Exit->Act->World->Prop}
theorem oY(hgd:op.guard=none)(T:TypeId)(m k:Operand)(ok:Bool)(ho:op.op=.lookup T m k ok)(hm:a.eval m=x)(hk:a.eval k=y)(hr:(Instr.lookup T x y ok).run P w=.ok v w')(h:wpList P ops Q rest (a.put op.dst v) w'):wpList P ops Q (op :: rest) a w:=
 wpList_plain hgd fun K hK=>by
  unfold Oper.wp execOp;simp only[ho,hm,hk,Sem.run_bind,hr,Result.andThen_ok,Sem.run_pure];exact hK _ _ h
theorem t6(hgd:op.guard=none)(T:TypeId)(m k u:Operand)(ho:op.op=.mapUpdate T m k u)(hm:a.eval m=x)(hk:a.eval k=y)(hu:a.eval u=z)(hr:(Instr.mapUpdate T x y z).run P w=.ok () w')(h:wpList P ops Q rest (a.put op.dst undef) w'):wpList P ops Q (op :: rest) a w:=
 wpList_plain hgd fun K hK=>by
  unfold Oper.wp execOp;simp only[ho,hm,hk,hu,Sem.run_bind,hr,Result.andThen_ok,Sem.run_pure];exact hK _ _ h
theorem jM(hgd:op.guard=none)(s u:Operand)(t:TypeId)(ho:op.op=.call { callee:=.builtin .append,args:=#[s,u],argTypes:=#[t,t] })(hs:a.eval s=x)(hu:a.eval u=y)(hr:(Builtin.append_ #[t,t] op.type #[x,y]).run P w=.ok v w')(h:wpList P ops Q rest (a.put op.dst v) w'):wpList P ops Q (op :: rest) a w:=
 wpList_plain hgd fun K hK=>by
  unfold Oper.wp execOp;simp only[ho,resolve,invoke,builtin,Sem.run_bind,Sem.run_pure,Result.andThen_ok,List.map_toArray,List.map_cons,List.map_nil,hs,hu,hr];exact hK _ _ h
end
def zT:List Value:=[.int .u64 0,.int .u64 0,.int .u64 0,.int .u64 0]++z33
theorem uS{W:World}{base k:Nat}{e:TypeId}{s:Nat}{v:Value}{xs:List Value}(h:W.ownsRow base e s v k xs):∃q cap,v=.slice q k cap:=by
 rcases h.2 with⟨rfl,rfl⟩|⟨g,cap,cur,rfl,-⟩
 ·exact⟨none,0,rfl⟩
 ·exact⟨some ⟨g,0,none⟩,cap,rfl⟩
theorem oC(ns:Nat->Nat)(az:Nat->Bs):∀i,(mrg N ns az i).length<=i
 | 0=>Nat.le_refl _
 | i+1=>by
  have ih:=oC ns az i;have h:∀(l:List (Nat × Bs)) n p,(dN N l n p).length<=l.length+1:=by
   intro l n p;induction l with
   | nil=>exact Nat.le_refl _
   | cons x r ihr =>
    unfold dN;split
    ·simp
    ·simp only[List.length_cons];omega
  exact Nat.le_trans (h _ _ _) (by omega)
theorem kV(ns:Nat->Nat)(az:Nat->Bs){k:Nat}(ha:∀j,j<k->(az j).size=33):∀i,i<=k->∀x∈(mrg N ns az i).map (·.2),x.size=33
 | 0,_=>fun x hx=>by cases hx
 | i+1,hi=>by
  have ih:=kV ns az ha i (by omega);have h:∀(l:List (Nat × Bs)) n p,p.size=33->(∀x∈l.map (·.2),x.size=33)->∀x∈(dN N l n p).map (·.2),x.size=33:=by
   intro l n p hp;induction l with
   | nil=>intro _ x hx;simp[dN]at hx;rw[hx];exact hp
   | cons y r ihr =>
    intro hl x hx;unfold dN at hx;split at hx
    ·exact hl x (by simpa using hx)
    ·rw[List.map_cons,List.mem_cons]at hx;rcases hx with hx|hx
     ·exact hl x (by rw[hx];simp)
     ·exact ihr (fun z hz=>hl z (List.mem_cons_of_mem _ hz)) x hx
  exact h _ _ _ (ha i (by omega)) ih
theorem jK:∀(l:List (Nat × Bs)),(∀x∈l.map (·.2),x.size=33)->∀(j:Nat) (hj:j<l.length) (t:Nat),t<37->(aV l)[37*j+t]? = (wn (l[j]).1++aA (l[j]).2)[t]?
 | [],_,j,hj,_,_=>by cases hj
 | x :: r,hs,j,hj,t,ht=>by
  have hx:(wn x.1++aA x.2).length=37:=by rw[List.length_append,aC (hs x.2 (by simp))];rfl
  have e:aV (x :: r)=(wn x.1++aA x.2)++aV r:=by unfold aV;rw[List.flatMap_cons]
  rw[e];cases j with
  | zero =>
   rw[Nat.mul_zero,Nat.zero_add,List.getElem?_append_left (by omega)];rfl
  | succ j =>
   rw[List.getElem?_append_right (by omega),hx,show 37*(j+1)+t-37=37*j+t by omega,jK r (fun y hy=>hs y (List.mem_cons_of_mem _ hy)) j (by simpa using hj) t ht];rfl
theorem jG{W:World}{base:Nat}{v:Value}{l:List (Nat × Bs)}(h:W.ownsRow base 138 37 v l.length (aV l))(hs:∀x∈l.map (·.2),x.size=33)(hl:0<l.length):
 ∃g cap,v=.slice (some ⟨g,0,none⟩) l.length cap/\base<=g/\g<W.heap.size/\∀j (hj:j<l.length),W.rangeAt g (37*j) (wn (l[j]).1++aA (l[j]).2):=by
 have h0:=h;rcases h.2 with⟨-,h2⟩|⟨g,cap,cur,rfl,h1,h2,h3⟩
 ·omega
 ·refine⟨g,cap,rfl,h1,(Array.getElem?_eq_some_iff.1 h2).1,fun j hj t u hu=>?_⟩;have ht:t<37:=by
   have:=(List.getElem?_eq_some_iff.1 hu).1;rw[List.length_append,aC (hs _ (List.mem_map.2 ⟨_,List.getElem_mem hj,rfl⟩))]at this;exact this
  have hc:=h0.cells (g:=g) rfl (37*j+t) u (by rw[jK l hs j hj t ht];exact hu);have e:(⟨g,0,none⟩:Addr).add (37*j+t)=⟨g,37*j+t,none⟩:=by
   unfold Addr.add;split
   ·rename_i h;rw[h]
   ·simp
  rw[e]at hc;exact hc
theorem y9(R:Value->World->Prop)(g k c:Nat)(hk:k<=1000)(ns:Nat->Nat)(az:Nat->Bs)(ha:∀j,j<k->(az j).size=33)(hd:∀i,i<k->at? (az i) ((mrg N ns az i).map (·.2)) 0=none)(w:World)(hg:g<w.heap.size)(hr:∀j,j<k->w.rangeAt g (37*j) (wn (ns j)++aA (az j)))
 (hdel:∀W v,Mx w W w.heap.size (mrg N ns az k) v->Calls prog 123 #[v,.func (.func 124) #[] #[]] W (Ret R)) :
 Calls prog 86 #[.slice (some ⟨g,0,none⟩) k c] w (Ret R):=by
 have HDEL:=Hid.mk' hdel;clear hdel;have hmm:(Instr.makeMap 173 none).run prog w=.ok (.map (some w.heap.size)) (w.alloc (.map #[] 0)):=by kernel_rfl
 obtain⟨w1,hw1⟩:∃w1,Hid (w.alloc (.map #[] 0)=w1):=⟨_,rfl⟩
 rw[hw1.out]at hmm;have M1:Hid (Mx w w1 w.heap.size (mrg N ns az 0) (.slice none 0 0)):=by
  rw[<-hw1.out];exact⟨aE w _,by show(w.heap.push (.map #[] 0))[w.heap.size]? = _;rw[Array.getElem?_push_size];rfl,Nat.le_refl _,rfl,Or.inl ⟨rfl,rfl⟩⟩
 have HH:Hid (True/\(∀j,j<k->(az j).size=33)/\(∀i,i<k->at? (az i) ((mrg N ns az i).map (·.2)) 0=none)/\g<w.heap.size/\∀j,j<k->w.rangeAt g (37*j) (wn (ns j)++aA (az j))):=⟨trivial,ha,hd,hg,hr⟩
 obtain⟨d,hd1,hd2⟩:=Option.map_eq_some_iff.1 uCP;obtain⟨d',hd3,hd4⟩:=Option.map_eq_some_iff.1 uT;have HD:Hid ((prog.underlying 61=some d/\d.isRow=true)/\prog.underlying 138=some d'/\d'.isRow=true):=⟨⟨hd1,hd2⟩,hd3,hd4⟩
 clear hd1 hd2 hd3 hd4 hw1 ha hd hg hr;go_enter Tryz.func86,Tryz.ntmps86;go_wp2;clear hmm;go_loopg [4,12] k (fun q s4 s12 W=>∃i:Nat,i+q=k/\s12=.int .i64 i/\Hid (Mx w W w.heap.size (mrg N ns az i) s4))
 case atStart=>exact⟨0,by omega,rfl,M1⟩
 case round =>
  clear M1;obtain⟨i,hik,rfl,KM⟩:=hrel;by_cases hi:i<k
  ·have hi':(i:Int)<(k:Int):=by omega
   obtain⟨n,hne⟩:∃n,Hid (ns i=n):=⟨_,rfl⟩
   obtain⟨p,hpe⟩:∃p,Hid (az i=p):=⟨_,rfl⟩
   obtain⟨l,hl⟩:∃l,Hid (mrg N ns az i=l):=⟨_,rfl⟩
   rw[hl.out]at KM;have hps:Hid (p.size=33):=by have:=HH.out.2.1 i hi;rw[hpe.out]at this;exact this
   have hll:Hid (l.length<=i):=by have:=oC (N:=N) ns az i;rw[hl.out]at this;exact this
   obtain⟨q,cap,rfl⟩:=uS KM.out.ow;obtain⟨W1,hW1⟩:∃W1,Hid (wr.alloc (.cells zT.toArray 138)=W1):=⟨_,rfl⟩
   obtain⟨W2,hW2⟩:∃W2,Hid (W1.setCells wr.heap.size 0 (wn n++aA p)=W2):=⟨_,rfl⟩
   have hlen:(wn n++aA p).length=37:=by rw[List.length_append,aC hps.out];rfl
   have F1:Hid (Row W1 wr.heap.size zT/\Below wr.heap.size wr W1/\W1.heap.size=wr.heap.size+1):=by rw[<-hW1.out];exact⟨aG wr _ _,aE wr _,World.size_alloc _ _⟩
   have F2:Hid (Row W2 wr.heap.size (wn n++aA p)/\Below wr.heap.size wr W2/\W2.heap.size=wr.heap.size+1):=by rw[<-hW2.out];exact⟨F1.out.1.put (by rw[hlen];rfl),RG.below_setCells (Nat.le_refl _) _ _ _ F1.out.2.1,by rw[RG.setCells_size];exact F1.out.2.2⟩
   have K2:Hid (Mx w W2 w.heap.size l (.slice q l.length cap)):=KM.out.kept F2.out.2.1;have hnone:Hid (at? p (l.map (·.2)) 0=none):=by have:=HH.out.2.2.1 i hi;rw[hpe.out,hl.out]at this;exact this
   have hsz:∀x∈l.map (·.2),x.size=33:=by have:=kV (N:=N) ns az HH.out.2.1 i (by omega);rw[hl.out]at this;exact this
   have B1:=Hid.mk' (sK hps.out (l.map (·.2)) hsz w.heap.size l.length W2 K2.out.mp);rw[hnone.out]at B1;have B2:Hid ((Instr.mapUpdate 173 (.map (some w.heap.size)) (.agg (aA p).toArray) (.int .i64 (l.length:Int))).run prog W2=.ok () (W2.putObj w.heap.size (.map (ents (l.map (·.2)++[p]) 0).toArray (l.length+1)))):=by
    have h:=Cd hps.out (l.map (·.2)) hsz w.heap.size W2 (by rw[List.length_map];exact K2.out.mp) hnone.out;rw[List.length_map]at h;exact h
   obtain⟨v',W5x,happ,K5,lt5,-⟩:=K2.out.push hps.out (by have:=hll.out;omega) n;obtain⟨W3,hW3⟩:∃W3,Hid (W2.putObj w.heap.size (.map (ents (l.map (·.2)++[p]) 0).toArray (l.length+1))=W3):=⟨_,rfl⟩
   have F3:Hid (Row W3 wr.heap.size (wn n++aA p)/\W3.heap.size=wr.heap.size+1):=by rw[<-hW3.out];exact⟨F2.out.1.putObj K2.out.mp rfl _,by simp[World.putObj];exact F2.out.2.2⟩
   have B3:=Hid.mk' (Mc hps.out n W3);obtain⟨W4,hW4⟩:∃W4,Hid (W3.alloc (.cells (wn n++aA p).toArray 138)=W4):=⟨_,rfl⟩
   rw[hW3.out]at B2 happ;rw[hW4.out]at B3 happ;rw[F3.out.2]at B3;rw[F2.out.2.2]at happ;have K5':Hid (Mx w W5x w.heap.size (mrg N ns az (i+1)) v'):=by
    have e:mrg N ns az (i+1)=l++[(n,p)]:=by
     show dN N (mrg N ns az i) (ns i) (az i)=_;rw[hl.out,hne.out,hpe.out];exact tL hnone.out
    rw[e];exact K5
   have B0:Hid (wr.rangeAt g (37*i) (wn n++aA p)):=by
    have h:=RG.aO (HH.out.2.2.2.2 i hi) KM.out.bl HH.out.2.2.2.1;rw[hne.out,hpe.out]at h;exact h
   have HLT:Hid ((prog.info? 138).map (·.size)=some (wn n++aA p).length):=by show _=_;rw[hlen];exact iT
   have HLS:Hid ((prog.info? 138).map (·.size)=some (wn n++aA p).toArray.size/\W1.there wr.heap.size 0 (wn n++aA p).toArray.size):=by
    have e:(wn n++aA p).toArray.size=37:=by rw[List.size_toArray];exact hlen
    rw[e];exact⟨iT,F1.out.1.2.2⟩
   have HLP:Hid ((prog.info? 61).map (·.size)=some (aA p).length):=by show _=_;rw[aC hps.out];exact aI
   have HB:Hid (W2.rangeAt wr.heap.size 4 (aA p)):=gI (xs:=wn n) F2.out.1.2.1;have HAL:Hid ((wn n++aA p).toArray.all (·.oneCell')=true):=by
    show _=_;rw[Array.all_eq_true'];intro u hu;exact cells_one n p u (List.mem_toArray.1 hu)
   have hix:=atT g 0 k c i hi;have HAP:=Hid.mk' happ;clear happ;obtain⟨vt,hvt⟩:∃v,Hid (Value.agg (wn n++aA p).toArray=v):=⟨_,rfl⟩
   obtain⟨vp,hvp⟩:∃v,Hid (Value.agg (aA p).toArray=v):=⟨_,rfl⟩
   rw[hvp.out]at B1 B2;rw[hvt.out]at B3;clear hlen hsz K5 lt5 hW4 hW3 K2 KM;go_wp2_with (first|(refine wpList_load_mid rfl 138 _ rfl g (37*i) ?_ (wn n++aA p) d' ?_ ?_ ?_ ?_ ?_;rfl;exact B0.out;exact HD.out.2.1;exact HD.out.2.2;exact HLT.out;rw[hvt.out])|(refine aJ (v:=.pointer (some ⟨wr.heap.size,0,none⟩)) (w':=W1) rfl (.alloc 138) rfl ?_ ?_;(rw[<-hW1.out];kernel_rfl))|(refine wpList_store_mid rfl 138 _ _ rfl wr.heap.size 0 (wn n++aA p).toArray ?_ ?_ ?_ ?_ ?_ ?_;rfl;exact hvt.out.symm;exact HLS.out.2;exact HLS.out.1;exact HAL.out;rw[show(wn n++aA p).toArray.toList=wn n++aA p from rfl,hW2.out])|(refine wpList_load_mid rfl 61 _ rfl wr.heap.size 4 ?_ (aA p) d ?_ ?_ ?_ ?_ ?_;rfl;exact HB.out;exact HD.out.1.1;exact HD.out.1.2;exact HLP.out;rw[hvp.out])|(refine oY (x:=.map (some w.heap.size)) (y:=vp) (w':=W2) rfl 173 _ _ true rfl ?_ ?_ B1.out ?_;rfl;rfl)|(refine t6 (x:=.map (some w.heap.size)) (y:=vp) (z:=.int .i64 (l.length:Int)) (w':=W3) rfl 173 _ _ _ rfl ?_ ?_ ?_ B2.out ?_;rfl;rfl;rfl)|(refine wpList_load_mid rfl 138 _ rfl wr.heap.size 0 ?_ (wn n++aA p) d' ?_ ?_ ?_ ?_ ?_;rfl;exact F3.out.1.2.1;exact HD.out.2.1;exact HD.out.2.2;exact HLT.out;rw[hvt.out])|(refine mN (v:=.slice (some ⟨wr.heap.size+1,0,none⟩) 1 1) (w':=W4) rfl 86 1 _ rfl #[(0,vt)] ?_ B3.out ?_;kernel_rfl)|(refine jM (x:=.slice q l.length cap) (y:=.slice (some ⟨wr.heap.size+1,0,none⟩) 1 1) (v:=v') (w':=W5x) rfl _ _ 86 rfl ?_ ?_ ?_ ?_;rfl;rfl;exact HAP.out))
   go_roundg (gk-1)
   case measure=>omega
   case rel=>exact⟨i+1,by omega,rfl,K5'⟩
  ·have hi':¬(i:Int)<(k:Int):=by omega
   obtain rfl:i=k:=by omega
   go_wp2_with fail
   refine(HDEL.out wr _ KM.out).mono ?_;rintro e w9 ⟨vv,rfl,hR9⟩;have HR9:=Hid.mk' hR9;clear hR9 HDEL;go_wp2;go_ret;exact⟨_,rfl,HR9.out⟩
theorem FQ(g k c:Nat)(hk:k<=1000)(ns:Nat->Nat)(az:Nat->Bs)(ha:∀j,j<k->(az j).size=33)(hd:∀i,i<k->at? (az i) ((mrg N ns az i).map (·.2)) 0=none)(hz:∀x∈mrg N ns az k,x.1≠0/\x.1<top)(hk0:0<(mrg N ns az k).length)(w:World)(hg:g<w.heap.size)(hr:∀j,j<k->w.rangeAt g (37*j) (wn (ns j)++aA (az j))):
 Calls prog 86 #[.slice (some ⟨g,0,none⟩) k c] w (Ret fun e w'=>Below w.heap.size w w'/\∃g' cap,e=.slice (some ⟨g',0,none⟩) (mrg N ns az k).length cap/\w.heap.size<=g'/\g'<w'.heap.size/\∀j (hj:j<(mrg N ns az k).length),w'.rangeAt g' (37*j) (wn ((mrg N ns az k)[j]).1++aA ((mrg N ns az k)[j]).2)):=by
 refine y9 _ g k c hk ns az ha hd w hg hr fun W v hM=>?_
 have hms:=kV (N:=N) ns az ha k (Nat.le_refl _);have hml:=oC (N:=N) ns az k;generalize mrg N ns az k=l at hM hms hml hz hk0⊢;obtain⟨g',cap,rfl,h1,h2,h3⟩:=jG hM.ow hms hk0;refine(qG g' l.length cap (by omega) (fun j=>((l[j]?).getD (0,#[])).1) (fun j=>((l[j]?).getD (0,#[])).2) (fun j hj=>by rw[List.getElem?_eq_getElem hj];exact(hz _ (List.getElem_mem hj)).2) (fun j hj=>by rw[List.getElem?_eq_getElem hj];exact(hz _ (List.getElem_mem hj)).1) (fun j hj=>by rw[List.getElem?_eq_getElem hj];exact hms _ (List.mem_map.2 ⟨_,List.getElem_mem hj,rfl⟩)) W h2 (fun j hj=>by rw[List.getElem?_eq_getElem hj];exact h3 j hj)).mono ?_;rintro e w9 ⟨vv,rfl,hb9,rfl⟩;exact⟨_,rfl,hM.bl.trans (hb9.mono hM.bl.size),g',cap,rfl,h1,Nat.lt_of_lt_of_le h2 hb9.size,fun j hj=>RG.aO (h3 j hj) hb9 h2⟩
end
section
open Go.RowKit Go.Sort Go.Deep
variable {P:Nat}[NeZero P]{N:Nat}
theorem Ev(w:World):(zeroValue 138).run prog w=.ok (.agg zT.toArray) w:=by kernel_rfl
theorem KC:(Builtin.zeroCells (Value.agg zT.toArray).cells 1).toList=zT:=by kernel_rfl
theorem Ex:∀v∈zT,v.oneCell'=true:=by
 intro v hv;unfold zT z33 at hv;rcases List.mem_append.1 hv with h|h
 ·simp only[List.mem_cons,List.not_mem_nil,or_false]at h;rcases h with rfl|rfl|rfl|rfl<;>rfl
 ·rw[(List.mem_replicate.1 h).2];rfl
theorem Ey:zT.length=37:=by kernel_rfl
theorem L8(g c:Nat)(ty:TypeId)(w:World)(h:w.there g 0 37):(Builtin.clear_ #[86] ty #[.slice (some ⟨g,0,none⟩) 1 c]).run prog w=.ok (.tuple #[]) (w.setCells g 0 zT):=by
 have h1:=Ev w;have h2:=KC;have h3:=run_underlying Dt w;have h4:(storeCells ⟨g,0,none⟩ zT).run prog w=.ok () (w.setCells g 0 zT):=by
  have h5:=run_storeCells_cells (P:=prog) g 0 zT 0 w (fun j hj=>by rw[Ey]at hj;have:=(h j hj).1;simpa using this) (fun j hj=>by rw[Ey]at hj;have:=(h j hj).2;simpa using this) Ex;exact h5
 generalize zT=Z at h1 h2 h4⊢;unfold Builtin.clear_;simp[Sem.run_bind,h3,h1,h2,h4]
theorem zS(g c:Nat)(a:Bs)(ha:a.size=33)(w:World)(hR:Row w g (wn 0++aA a))(hc:1<=c):
 Calls prog 123 #[.slice (some ⟨g,0,none⟩) 1 c,.func (.func 124) #[] #[]] w (Ret fun e w'=>(∀j,j<w.heap.size->j≠g->w'.heap[j]? = w.heap[j]?)/\w.heap.size<=w'.heap.size/\Below g w w'/\e=.slice (some ⟨g,0,none⟩) 0 c):=by
 have hI:=wS g 1 c (by decide) (fun _=>0) (fun _=>a) (fun _ _=>by show 0<top;unfold top;omega) (fun _ _=>ha) w hR.1 (fun j hj=>by
  obtain rfl:j=0:=by omega
  exact hR.2.1)
 have hf:gV (fun _=>0) 0 1=0:=rfl;rw[hf]at hI;have HI:=Hid.mk' hI;have hlen:(wn 0++aA a).length=37:=by rw[List.length_append,aC ha];rfl
 have HR:=Hid.mk' hR;have hth:Hid (w.there g 0 37):=by have:=hR.2.2;rw[hlen]at this;exact this
 clear hI hf hR hlen;have hc1:(1:Int)<=(c:Int):=by omega
 have hc0:(0:Int)<=(c:Int):=by omega
 go_enter Tryz.func123,Tryz.ntmps123;go_wp2_with fail
 refine HI.out.mono ?_;rintro e w1 ⟨v,rfl,hb1,rfl⟩;have K1:Hid (Below w.heap.size w w1/\Row w1 g (wn 0++aA a)):=⟨hb1,HR.out.below hb1⟩
 have hcl:∀ty,(Builtin.clear_ #[86] ty #[.slice (some ⟨g,0,none⟩) 1 c]).run prog w1=.ok (.tuple #[]) (w1.setCells g 0 zT):=fun ty=>L8 g c ty w1 (by
  have:=K1.out.2.2.2;rw[List.length_append,aC ha]at this;exact this)
 clear hb1 HI;go_wp2;refine wp_loop_once ?_;go_wp2;go_ret;refine⟨_,rfl,fun j hj hne=>?_,by rw[RG.setCells_size];exact K1.out.1.size,RG.below_setCells (Nat.le_refl _) _ _ _ (K1.out.1.mono (Nat.le_of_lt HR.out.1)),rfl⟩;rw[RG.cB _ _ _ _ _ hne];exact K1.out.1.block j hj
theorem FT(g c:Nat)(a:Bs)(ha:a.size=33)(w:World)(hg:g<w.heap.size)(hr:w.rangeAt g 0 (wn 0++aA a)):
 Calls prog 86 #[.slice (some ⟨g,0,none⟩) 1 c] w (Ret fun e w'=>Below w.heap.size w w'/\∃q cap,e=.slice q 0 cap):=by
 refine y9 (N:=2) _ g 1 c (by decide) (fun _=>0) (fun _=>a) (fun _ _=>ha) (fun i hi=>by
  obtain rfl:i=0:=by omega
  rfl) w hg (fun j hj=>by
  obtain rfl:j=0:=by omega
  exact hr) fun W v hM=>?_
 have e1:mrg 2 (fun _=>0) (fun _=>a) 1=[(0,a)]:=rfl;rw[e1]at hM;obtain⟨g',cap,rfl,h1,h2,h3⟩:=jG hM.ow (fun x hx=>by simp at hx;rw[hx];exact ha) (Nat.lt_succ_self 0);have h0:=h3 0 (Nat.lt_succ_self 0);have hth:W.there g' 0 37:=by
  rcases hM.ow.2 with⟨h,-⟩|⟨g2,cap2,cur,he,-,hc,hn,-,hs,-⟩
  ·cases h
  ·injection he with he1 he2 he3
   injection he1 with he1
   injection he1 with he1
   subst he1;intro j hj;have hj2:0+j<cur.size:=by
    rw[hs];have:1<=cap2:=hn;omega
   refine⟨?_,?_⟩
   ·simp[World.cell?,hc,hj2];omega
   ·simp[World.frozen?,hc]
 have hR:Row W g' (wn 0++aA a):=⟨h2,h0,by rw[List.length_append,aC ha];exact hth⟩
 refine(zS g' cap a ha W hR ?_).mono ?_
 ·rcases hM.ow.2 with⟨h,-⟩|⟨g2,cap2,cur,he,-,hc,hn,-,hs,-⟩
  ·cases h
  ·injection he with he1 he2 he3
   rw[he3];exact hn
 ·rintro e w9 ⟨vv,rfl,hk9,hs9,hb9,rfl⟩;exact⟨_,rfl,hM.bl.trans (hb9.mono h1),_,_,rfl⟩
end
namespace RG
open Go Go.RowKit
variable {P:Program}{ops:Array Oper}{Q:Exit->Act->World->Prop}{w:World}{a0:Act}{L:Array Bool}
structure Flow where
 R:Nat->Value->World->Prop
 B:Nat->World->Prop
 E:Nat->World->World->Prop
 kill:Nat->List Nat
 killB:Nat->List Nat
def dM(ops:Array Oper)(i:Nat):Option Tmp:=(ops[i]?).bind (·.dst)
def depOn(ops:Array Oper)(x k:Nat):Bool:=match ops[x]? with|some o=>iC o k|none=>true
def okK(ops:Array Oper)(k:Nat)(l:List Nat):Bool:=l.all (fun x=>x == k || depOn ops x k)
def CS(ops:Array Oper)(k:Nat)(t:Tmp):Bool:=(List.range ops.size).all (fun i=>dM ops i != some t || i == k || depOn ops i k)
structure InvF(F:Flow)(ops:Array Oper)(a0:Act)(L:Array Bool)(a:Act)(w:World):Prop where
 size:L.size=ops.size
 cl:∀(i:Nat) (o:Oper),ops[i]? = some o->on L i=true->∀e∈o.after,Region.binds .any e=true->on L e.on=true
 def':a.defers=a0.defers
 sz:a.tmps.size=a0.tmps.size
 rest:∀t:Tmp,(∀i,on L i=true->dM ops i≠some t)->a.tmps[t]? = a0.tmps[t]?
 all:∃V:Nat->Value,(∀i d,on L i=true->dM ops i=some d->a.tmps[d]? = some (V i))/\(∀i,on L i=true->(∀x∈F.kill i,on L x=false)->F.R i (V i) w)
 base:∀b,(∀x∈F.killB b,on L x=false)->F.B b w
def kD(P:Program)(Q:Exit->Act->World->Prop)(F:Flow)(ops:Array Oper)(a0:Act)(k:Nat)(o:Oper):Prop:=
 ∀(a:Act) (w:World) (K:Act->World->Prop),
  (∀j d,iC o j=true->okK ops k (F.kill j)=true->dM ops j=some d->F.R j (a.eval (.tmp d)) w) ->
  (∀t,CS ops k t=true->a.eval (.tmp t)=a0.eval (.tmp t)) ->
  (∀b,okK ops k (F.killB b)=true->F.B b w) ->
  (∀v w',F.E k w w'->F.R k v w'->K (a.put o.dst v) w')->o.wp P a w K Q
def mL(P:Program)(Q:Exit->Act->World->Prop)(F:Flow)(ops:Array Oper)(a0:Act)(k:Nat)(o:Oper):Prop:=
 match o.guard with
 | none=>kD P Q F ops a0 k o
 | some (j,want)=>iC o j=true/\(dM ops j).isSome=true/\okK ops k (F.kill j)=true /\
  (((∀v w,F.R j v w->v=.bool want)/\kD P Q F ops a0 k o)\/((∀v w,F.R j v w->v=.bool (!want))/\∀w,F.E k w w/\F.R k undef w))
def Jt(ops:Array Oper)(n:Nat):Bool:=
 (List.range ops.size).all (fun i=>match ops[i]? with
  | some o=>o.after.all (fun e=>!Region.binds .any e || e.on<i) && (match o.dst with|none=>true|some d=>decide (d<n) && (List.range ops.size).all (fun j=>j == i || dM ops j != some d))
  | none=>false)
structure RegF(P:Program)(Q:Exit->Act->World->Prop)(F:Flow)(ops:Array Oper)(a0:Act)(m:Nat):Prop where
 chk:Jt ops a0.tmps.size=true
 cert:∀k o,k<m->ops[k]? = some o->mL P Q F ops a0 k o
 stab:∀i j,i<m->j<m->i≠j->(F.kill j).contains i=false->depOn ops j i=false->∀v w w',F.E i w w'->F.R j v w->F.R j v w'
 stabB:∀i b,i<m->(F.killB b).contains i=false->∀w w',F.E i w w'->F.B b w->F.B b w'
variable {F:Flow}{m:Nat}
theorem RegF.of{k:Nat}{o:Oper}(h:RegF P Q F ops a0 m)(ho:ops[k]? = some o):(∀e∈o.after,Region.binds .any e=true->e.on<k)/\∀d,o.dst=some d->d<a0.tmps.size/\∀j,dM ops j=some d->j=k:=by
 have hk:k<ops.size:=(Array.getElem?_eq_some_iff.1 ho).1;have h1:=List.all_eq_true.1 h.chk k (List.mem_range.2 hk);rw[ho]at h1;simp only[Bool.and_eq_true]at h1;obtain⟨h2,h3⟩:=h1;refine⟨fun e he hb=>?_,fun d hd=>?_⟩
 ·have:=Array.all_eq_true'.1 h2 e he;simpa[hb]using this
 ·rw[hd]at h3;simp only[Bool.and_eq_true,decide_eq_true_eq]at h3;refine⟨h3.1,fun j hj=>?_⟩;have hjs:j<ops.size:=by
   unfold dM at hj;cases hx:ops[j]? with
   | none=>rw[hx]at hj;cases hj
   | some x=>exact(Array.getElem?_eq_some_iff.1 hx).1
  have:=List.all_eq_true.1 h3.2 j (List.mem_range.2 hjs);simpa[hj]using this
theorem gW{i:Nat}{o:Oper}(ho:ops[i]? = some o):dM ops i=o.dst:=by unfold dM;rw[ho];rfl
theorem Gn{a:Act}{x k:Nat}{o:Oper}(h:InvF F ops a0 L a w){ho:ops[x]? = some o}(hd:iC o k=true)(hx:on L x=true):on L k=true:=by
 obtain⟨e,he,hb⟩:=Array.any_eq_true'.1 hd;simp only[Bool.and_eq_true,beq_iff_eq]at hb;rw[<-hb.2];exact h.cl x o ho hx e he hb.1
theorem uV{L:Array Bool}{x:Nat}(h:on L x=true):x<L.size:=by
 rcases Nat.lt_or_ge x L.size with h1|h1
 ·exact h1
 ·unfold on at h;rw[Array.getD_eq_getD_getElem?,Array.getElem?_eq_none h1]at h;cases h
theorem JY{k:Nat}{o:Oper}{a:Act}(R:RegF P Q F ops a0 m)(hkm:k<m)(hlt:∀i,on L i=true->i<m)(ho:ops[k]? = some o)(hun:on L k=false)(hdep:∀e∈o.after,Region.binds .any e=true->on L e.on=true)(h:InvF F ops a0 L a w):
 wpOp P ops Q k (InvF F ops a0 (L.setIfInBounds k true)) a w:=by
 obtain⟨hback,hdst⟩:=R.of ho;have hks:k<ops.size:=(Array.getElem?_eq_some_iff.1 ho).1;have hkL:k<L.size:=by rw[h.size];exact hks
 have hdo:dM ops k=o.dst:=gW ho;have hnot:∀x,(x == k || depOn ops x k)=true->on L x=false:=fun x hx=>by
  cases hon:on L x with
  | false=>rfl
  | true =>
   rcases Bool.or_eq_true _ _ ▸ hx with h1|h1
   ·rw[show x=k by simpa using h1,hun]at hon;cases hon
   ·unfold depOn at h1;have hxs:x<ops.size:=by rw[<-h.size];exact uV hon
    have hox:ops[x]? = some ops[x]:=Array.getElem?_eq_getElem hxs;rw[hox]at h1;have:=Gn (ho:=hox) h h1 hon;rw[hun]at this;cases this
 obtain⟨V,hV1,hV2⟩:=h.all;have hp1:∀j d,iC o j=true->okK ops k (F.kill j)=true->dM ops j=some d->a.tmps[d]? = some (V j)/\F.R j (V j) w:=fun j d hj hok hd=>by
  obtain⟨e,he,hb⟩:=Array.any_eq_true'.1 hj;simp only[Bool.and_eq_true,beq_iff_eq]at hb;have hjon:on L j=true:=by rw[<-hb.2];exact hdep e he hb.1
  exact⟨hV1 j d hjon hd,hV2 j hjon fun x hx=>hnot x (List.all_eq_true.1 hok x hx)⟩
 have hpre1:∀j d,iC o j=true->okK ops k (F.kill j)=true->dM ops j=some d->F.R j (a.eval (.tmp d)) w:=fun j d hj hok hd=>by
  rw[CX (hp1 j d hj hok hd).1];exact(hp1 j d hj hok hd).2
 have hpre2:∀t,CS ops k t=true->a.eval (.tmp t)=a0.eval (.tmp t):=fun t hf=>by
  have h1:=h.rest t fun i hi hd=>by
   have his:i<ops.size:=by rw[<-h.size];exact uV hi
   have h2:=List.all_eq_true.1 hf i (List.mem_range.2 his);rw[hd]at h2;have h3:(i == k || depOn ops i k)=true:=by simpa using h2
   rw[hnot i h3]at hi;cases hi
  show a.tmps.getD t undef=a0.tmps.getD t undef;rw[Array.getD_eq_getD_getElem?,Array.getD_eq_getD_getElem?,h1]
 have hpre3:∀b,okK ops k (F.killB b)=true->F.B b w:=fun b hb=>h.base b fun x hx=>hnot x (List.all_eq_true.1 hb x hx)
 have hpost:∀v w',F.E k w w'->F.R k v w'->InvF F ops a0 (L.setIfInBounds k true) (a.put o.dst v) w':=fun v w' hE hR=>by
  have hon:∀x,on (L.setIfInBounds k true) x=(on L x || k == x):=fun x=>fP hkL
  refine⟨by rw[Array.size_setIfInBounds];exact h.size,fun i oi hoi hi e he hb=>?_,?_,?_,fun t ht=>?_,⟨fun x=>if x=k then v else V x,fun i d hi hd=>?_,fun i hi hkl=>?_⟩,fun b hb=>?_⟩
  ·rw[hon]at hi⊢;by_cases hik:k=i
   ·subst hik;rw[ho]at hoi;obtain rfl:=Option.some.inj hoi;rw[hdep e he hb,Bool.true_or]
   ·rw[h.cl i oi hoi (by simpa[hik]using hi) e he hb,Bool.true_or]
  ·rw[<-h.def'];cases o.dst<;>rfl
  ·rw[nT];exact h.sz
  ·have h1:o.dst≠some t:=fun hd=>ht k (by rw[hon];simp) (by rw[hdo];exact hd)
   rw[lQ a v h1];exact h.rest t fun i hi=>ht i (by rw[hon,hi,Bool.true_or])
  ·rw[hon]at hi;by_cases hik:i=k
   ·subst hik;rw[hdo]at hd;rw[hd];show(a.tmps.setIfInBounds d v)[d]? = some (if i=i then v else V i);rw[if_pos (rfl:i=i)];rw[Array.getElem?_setIfInBounds,if_pos rfl,if_pos (by rw[h.sz];exact(hdst d hd).1)]
   ·have hne:o.dst≠some d:=fun hd2=>hik ((hdst d hd2).2 i hd)
    rw[lQ a v hne];show _=some (if i=k then v else V i);rw[if_neg hik];have hik':¬k=i:=fun e=>hik e.symm
    exact hV1 i d (by simpa[hik']using hi) hd
  ·rw[hon]at hi;by_cases hik:i=k
   ·subst hik;show F.R i (if i=i then v else V i) w';rw[if_pos rfl];exact hR
   ·show F.R i (if i=k then v else V i) w';rw[if_neg hik];have hik':¬k=i:=fun e=>hik e.symm
    have hi':on L i=true:=by simpa[hik']using hi
    have h1:∀x∈F.kill i,on L x=false:=fun x hx=>by
     have:=hkl x hx;rw[hon,Bool.or_eq_false_iff]at this;exact this.1
    have h2:(F.kill i).contains k=false:=by
     cases hc:(F.kill i).contains k with
     | false=>rfl
     | true =>
      have:=hkl k (by simpa using hc);rw[hon]at this;simp at this
    have his:i<ops.size:=by rw[<-h.size];exact uV hi'
    have h3:depOn ops i k=false:=by
     cases hc:depOn ops i k with
     | false=>rfl
     | true=>rw[hnot i (by rw[hc,Bool.or_true])]at hi';cases hi'
    exact R.stab k i hkm (hlt i hi') (Ne.symm hik) h2 h3 _ _ _ hE (hV2 i hi' h1)
  ·have h1:∀x∈F.killB b,on L x=false:=fun x hx=>by
    have:=hb x hx;rw[hon,Bool.or_eq_false_iff]at this;exact this.1
   have h2:(F.killB b).contains k=false:=by
    cases hc:(F.killB b).contains k with
    | false=>rfl
    | true =>
     have:=hb k (by simpa using hc);rw[hon]at this;simp at this
   exact R.stabB k b hkm h2 _ _ hE (h.base b h1)
 have hC:=R.cert k o hkm ho;unfold mL at hC;unfold wpOp;rw[ho];dsimp only;cases hg:o.guard with
 | none =>
  rw[hg]at hC;rw[xU hg,if_pos rfl];left;exact hC a w _ hpre1 hpre2 hpre3 hpost
 | some jw =>
  obtain⟨j,want⟩:=jw;rw[hg]at hC;obtain⟨hd1,hd2,hd3,hcase⟩:=hC;obtain⟨d,hd⟩:=Option.isSome_iff_exists.1 hd2;obtain⟨hs,hRj⟩:=hp1 j d hd1 hd3 hd;have hy:∀b,V j=.bool b->Region.wanted o (yielded ops a.tmps)=(b == want):=fun b hb=>by
   have h4:yielded ops a.tmps j=some b:=by
    unfold dM at hd;unfold yielded;cases hoj:ops[j]? with
    | none=>rw[hoj]at hd;cases hd
    | some oj =>
     rw[hoj]at hd;show(match oj.dst.bind (a.tmps[·]?) with|some (.bool b)=>some b|_=>none)=_;rw[show oj.dst=some d from hd];show(match a.tmps[d]? with|some (.bool b)=>some b|_=>none)=_;rw[hs,hb]
   unfold Region.wanted;rw[hg];show(yielded ops a.tmps j == some want)=_;rw[h4];cases b<;>cases want<;>rfl
  rcases hcase with⟨hw,hc⟩|⟨hw,hsk⟩
  ·rw[hy _ (hw _ _ hRj),show(want == want)=true by cases want<;>rfl,if_pos rfl];left;exact hc a w _ hpre1 hpre2 hpre3 hpost
  ·rw[hy _ (hw _ _ hRj),show((!want) == want)=false by cases want<;>rfl];exact hpost undef w (hsk w).1 (hsk w).2
def eK(V:Nat->Value):List Oper->Nat->Act->Act
 | [],_,a=>a
 | o :: r,i,a=>eK V r (i+1) (a.put o.dst (V i))
theorem kS(V:Nat->Value):∀(l:List Oper) (i:Nat) (a:Act),(eK V l i a).defers=a.defers
 | [],_,_=>rfl
 | o :: r,i,a=>by
  rw[eK,kS V r];cases o.dst<;>rfl
theorem jT(V:Nat->Value):∀(l:List Oper) (i:Nat) (a:Act) (t:Tmp),(∀o∈l,o.dst≠some t)->(eK V l i a).tmps[t]? = a.tmps[t]?
 | [],_,_,_,_=>rfl
 | o :: r,i,a,t,h=>by
  rw[eK,jT V r _ _ t (fun x hx=>h x (List.mem_cons_of_mem _ hx)),lQ a _ (h o List.mem_cons_self)]
theorem pE(V:Nat->Value):∀(l:List Oper) (i:Nat) (a:Act) (j:Nat) (o:Oper) (d:Tmp),l[j]? = some o->o.dst=some d->(∀j' o',l[j']? = some o'->o'.dst=some d->j'=j)->d<a.tmps.size->(eK V l i a).tmps[d]? = some (V (i+j))
 | [],_,_,_,_,_,h,_,_,_=>by simp at h
 | x :: r,i,a,0,o,d,h,hd,hu,hs=>by
  obtain rfl:x=o:=by simpa using h
  rw[eK,jT V r _ _ d (fun y hy hyd=>by
   obtain⟨j',hj'⟩:=List.getElem?_of_mem hy;have:=hu (j'+1) y (by simpa using hj') hyd;omega),hd]
  show(a.tmps.setIfInBounds d _)[d]? = _;rw[Array.getElem?_setIfInBounds,if_pos rfl,if_pos hs];rfl
 | x :: r,i,a,j+1,o,d,h,hd,hu,hs=>by
  rw[eK,pE V r (i+1) _ j o d (by simpa using h) hd (fun j' o' h' hd'=>by
   have:=hu (j'+1) o' (by simpa using h') hd';omega) (by rw[nT];exact hs)]
  congr 2
  omega
theorem InvF.done{a:Act}(R:RegF P Q F ops a0 m)(h:InvF F ops a0 L a w)(hall:∀i,i<ops.size->on L i=true)
 (hp:∀(V:Nat->Value),(∀i,i<ops.size->F.kill i=[]->F.R i (V i) w)->(∀b,F.killB b=[]->F.B b w)->Q .normal (eK V ops.toList 0 a0) w):Q .normal a w:=by
 obtain⟨V,hV1,hV2⟩:=h.all;have e:a=eK V ops.toList 0 a0:=by
  refine Act.ext' ?_ (by rw[kS];exact h.def');apply Array.ext_getElem?;intro t;by_cases ht:∃(i:Nat) (o:Oper),ops[i]? = some o/\o.dst=some t
  ·obtain⟨i,o,ho,hd⟩:=ht;rw[hV1 i t (hall i (Array.getElem?_eq_some_iff.1 ho).1) (by rw[gW ho];exact hd)];rw[pE V ops.toList 0 a0 i o t (by rw[Array.getElem?_toList];exact ho) hd (fun j' o' hj' hd'=>((R.of ho).2 t hd).2 j' (by rw[Array.getElem?_toList]at hj';rw[gW hj'];exact hd')) ((R.of ho).2 t hd).1,Nat.zero_add]
  ·rw[h.rest t (fun i hi hd=>?_),jT V ops.toList 0 a0 t (fun o hm hd=>?_)]
   ·obtain⟨i,hi⟩:=List.getElem?_of_mem hm;rw[Array.getElem?_toList]at hi;exact ht ⟨i,o,hi,hd⟩
   ·unfold dM at hd;cases hx:ops[i]? with
    | none=>rw[hx]at hd;cases hd
    | some x=>rw[hx]at hd;exact ht ⟨i,x,hx,hd⟩
 rw[e];exact hp V (fun i hi hk=>hV2 i (hall i hi) (by rw[hk];simp)) (fun b hb=>h.base b (by rw[hb];simp))
theorem InvF.full{a:Act}(R:RegF P Q F ops a0 m)(h:InvF F ops a0 L a w)(hr:Region.ready .any ops L=[]):∀i,i<ops.size->on L i=true:=by
 intro i;induction i using Nat.strongRecOn with
 | ind i ih =>
  intro hi;have ho:ops[i]? = some ops[i]:=Array.getElem?_eq_getElem _;cases hon:on L i with
  | true=>rfl
  | false =>
   have:i∈Region.ready .any ops L:=mem_ready.2 ⟨?_,_,ho,fun e he hb=>?_⟩
   ·rw[hr]at this;cases this
   ·unfold on at hon;rw[Array.getD_eq_getD_getElem?,Array.getElem?_eq_getElem (by rw[h.size];exact hi)]at hon⊢;exact hon
   ·have hlt:=(R.of ho).1 e he hb;exact ih e.on hlt (Nat.lt_trans hlt hi)
theorem sQ{id:Nat}(F:Flow)(hm:P.follows .mixedOrders=true)(R:RegF P Q F ops a0 ops.size)(hB:∀b,F.B b w.drew)
 (hp:∀(V:Nat->Value) (w':World),(∀i,i<ops.size->F.kill i=[]->F.R i (V i) w')->(∀b,F.killB b=[]->F.B b w')->Q .normal (eK V ops.toList 0 a0) w'):(Code.region id ops true).wp P Q a0 w:=by
 have key:∀(fuel:Nat) (L:Array Bool) (a:Act) (w:World),unl L=fuel->InvF F ops a0 L a w->wpAny P .any ops Q fuel L a w:=by
  intro fuel;induction fuel with
  | zero =>
   intro L a w hu hI;have hall:∀i,i<ops.size->on L i=true:=fun i hi=>rD hu i (by rw[hI.size];exact hi)
   refine⟨?_,hI.done R hall (fun V=>hp V w)⟩;apply List.eq_nil_iff_forall_not_mem.2;intro i hi;obtain⟨h1,o,ho,-⟩:=mem_ready.1 hi;have h2:=hall i (Array.getElem?_eq_some_iff.1 ho).1;unfold on at h2;rw[Array.getD_eq_getD_getElem?]at h1 h2;cases hh:L[i]? with
   | none=>rw[hh]at h1;cases h1
   | some b=>rw[hh]at h1 h2;rw[show b=false from h1]at h2;cases h2
  | succ fuel ih =>
   intro L a w hu hI;refine⟨fun hr=>hI.done R (hI.full R hr) (fun V=>hp V w),fun i hi=>?_⟩;obtain⟨h1,o,ho,hdep⟩:=mem_ready.1 hi;have hoff:on L i=false:=by
    unfold on;rw[Array.getD_eq_getD_getElem?]at h1⊢;cases hh:L[i]? with
    | none=>rfl
    | some b=>rw[hh]at h1;exact h1
   exact wpOp_mono (fun a' w' hI'=>ih _ a' w' (by have:=vQ h1;omega) hI') (JY R (Array.getElem?_eq_some_iff.1 ho).1 (fun i hi=>by rw[<-hI.size];exact uV hi) ho hoff hdep hI)
 have hoff:∀i,on (Array.replicate ops.size false) i=false:=fun i=>by
  unfold on;rw[Array.getD_eq_getD_getElem?,Array.getElem?_replicate];by_cases h:i<ops.size
  ·rw[if_pos h];rfl
  ·rw[if_neg h];rfl
 refine wp_region_any hm (key _ _ a0 _ ?_ ⟨Array.size_replicate,(fun i o _ h=>by rw[hoff]at h;cases h),rfl,rfl,fun _ _=>rfl,⟨fun _=>undef,fun i d h=>(by rw[hoff]at h;cases h),fun i h=>(by rw[hoff]at h;cases h)⟩,fun b _=>hB b⟩);unfold unl;rw[Array.toList_replicate,List.countP_replicate];simp
structure PreF(F:Flow)(ops:Array Oper)(a0:Act)(k:Nat)(o:Oper)(a:Act)(w:World):Prop where
 n:∀j d,iC o j=true->okK ops k (F.kill j)=true->dM ops j=some d->F.R j (a.eval (.tmp d)) w
 o:∀t,CS ops k t=true->a.eval (.tmp t)=a0.eval (.tmp t)
 b:∀b,okK ops k (F.killB b)=true->F.B b w
def m6(P:Program)(Q:Exit->Act->World->Prop)(F:Flow)(ops:Array Oper)(a0:Act):Nat->List Oper->Prop
 | _,[]=>True
 | k,o :: r=>mL P Q F ops a0 k o/\m6 P Q F ops a0 (k+1) r
theorem tA:∀(l:List Oper) (i:Nat),m6 P Q F ops a0 i l->∀k o,l[k]? = some o->mL P Q F ops a0 (i+k) o
 | [],_,_,k,o,h=>by simp at h
 | x :: r,i,hc,0,o,h=>by
  obtain rfl:x=o:=by simpa using h
  exact hc.1
 | x :: r,i,hc,k+1,o,h=>by
  have:=tA r (i+1) hc.2 k o (by simpa using h);rwa[show i+1+k=i+(k+1) by omega]at this
theorem GA(h:m6 P Q F ops a0 0 ops.toList):∀k o,k<ops.size->ops[k]? = some o->mL P Q F ops a0 k o:=fun k o _ ho=>by
 have:=tA ops.toList 0 h k o (by rw[Array.getElem?_toList];exact ho);rwa[Nat.zero_add]at this
def evo(ev:Tmp->Value):Operand->Value
 | .tmp t=>ev t
 | .const v=>v
 | .global g=>.pointer (some ⟨g,0,none⟩)
 | .func f=>.func (.func f) #[] #[]
def uH(T:List Tmp)(o:Oper):Bool:=
 (match o.op with | .select _ _=>false|_=>true) && o.op.operands.all (fun x=>match x with | .tmp t=>T.contains t|_=>true)
theorem qV{a:Act}{o:Oper}(ev:Tmp->Value)(T:List Tmp)(h:uH T o=true)(he:∀t∈T,a.eval (.tmp t)=ev t):execOp a.eval o=execOp (evo ev) o:=by
 simp only[uH,Bool.and_eq_true]at h;refine execOp_congr o (fun cs b he=>?_) (fun x hx=>?_)
 ·rw[he]at h;exact absurd h.1 (by simp)
 ·have h1:=Array.all_eq_true'.1 h.2 x hx;cases x with
  | tmp t=>exact he t (by simpa using h1)
  | const v=>rfl
  | global g=>rfl
  | func f=>rfl
theorem BF{k:Nat}{o:Oper}(h:∀(a:Act) (w:World),PreF F ops a0 k o a w->∃v w',(execOp a.eval o).run P w=.ok (.value v) w'/\F.E k w w'/\F.R k v w'):kD P Q F ops a0 k o:=by
 intro a w K h1 h2 h3 hK;obtain⟨v,w',hr,hE,hR⟩:=h a w ⟨h1,h2,h3⟩;unfold Oper.wp;rw[hr];exact hK v w' hE hR
theorem lC{k:Nat}{o:Oper}(t:Tmp)(h:∀(a:Act) (w:World),PreF F ops a0 k o a w->∃v w',(uH [t] o=true)/\(execOp (evo fun _=>a.eval (.tmp t)) o).run P w=.ok (.value v) w'/\F.E k w w'/\F.R k v w'):kD P Q F ops a0 k o:=by
 refine BF fun a w hp=>?_
 obtain⟨v,w',hs,hr,hE⟩:=h a w hp;refine⟨v,w',?_,hE⟩;rw[qV (fun _=>a.eval (.tmp t)) [t] hs (fun x hx=>by rw[show x=t by simpa using hx])];exact hr
theorem Db{k:Nat}{o:Oper}(t:Tmp)(h:∀(a:Act) (w:World),PreF F ops a0 k o a w->∃f args,(uH [t] o=true)/\(execOp (evo fun _=>a.eval (.tmp t)) o).run P w=.ok (.enter f args) w/\Calls P f args w (Ret fun e w'=>F.E k w w'/\F.R k e w')):kD P Q F ops a0 k o:=by
 intro a w K h1 h2 h3 hK;obtain⟨f,args,hs,hr,hc⟩:=h a w ⟨h1,h2,h3⟩;unfold Oper.wp;rw[qV (fun _=>a.eval (.tmp t)) [t] hs (fun x hx=>by rw[show x=t by simpa using hx]),hr,Oper.upon_enter];refine hc.mono ?_;rintro e w' ⟨v,rfl,hE,hR⟩;exact hK _ _ hE hR
theorem xA{k:Nat}{o:Oper}(T:TypeId)(t:Tmp)(ho:o.op=.load T (.tmp t))(hu:(P.underlying T).map (·.isRow)=some true)
 (h:∀(a:Act) (w:World),PreF F ops a0 k o a w->∃g off cs,a.eval (.tmp t)=.pointer (some ⟨g,off,none⟩)/\w.rangeAt g off cs/\(P.info? T).map (·.size)=some cs.length/\F.E k w w/\F.R k (.agg cs.toArray) w):kD P Q F ops a0 k o:=by
 intro a w K h1 h2 h3 hK;obtain⟨g,off,cs,he,hr,hi,hE,hR⟩:=h a w ⟨h1,h2,h3⟩;obtain⟨d,hu,hd⟩:=Option.map_eq_some_iff.1 hu;exact wp_load_mid T (.tmp t) ho g off he cs d hr hu hd hi (hK _ _ hE hR)
theorem Gz{k:Nat}{o:Oper}(s u:Tmp)(t:TypeId)(ho:o.op=.call { callee:=.builtin .append,args:=#[.tmp s,.tmp u],argTypes:=#[t,t] })
 (h:∀(a:Act) (w:World),PreF F ops a0 k o a w->∃v w',(Builtin.append_ #[t,t] o.type #[a.eval (.tmp s),a.eval (.tmp u)]).run P w=.ok v w'/\F.E k w w'/\F.R k v w'):kD P Q F ops a0 k o:=by
 intro a w K h1 h2 h3 hK;obtain⟨v,w',hr,hE,hR⟩:=h a w ⟨h1,h2,h3⟩;unfold Oper.wp execOp;simp only[ho,resolve,invoke,builtin,Sem.run_bind,Sem.run_pure,Result.andThen_ok,List.map_toArray,List.map_cons,List.map_nil,hr];exact hK _ _ hE hR
theorem Eb(h:m6 P Q F ops a0 0 (ops.toList.take m)):∀k o,k<m->ops[k]? = some o->mL P Q F ops a0 k o:=fun k o hk ho=>by
 have:=tA (ops.toList.take m) 0 h k o (by rw[List.getElem?_take,if_pos hk,Array.getElem?_toList];exact ho);rwa[Nat.zero_add]at this
theorem InvF.act{a:Act}(R:RegF P Q F ops a0 m)(h:InvF F ops a0 L a w)(hm:m<=ops.size)(hall:∀i,on L i=true↔i<m){V:Nat->Value}(hV1:∀i d,on L i=true->dM ops i=some d->a.tmps[d]? = some (V i)):a=eK V (ops.toList.take m) 0 a0:=by
 refine Act.ext' ?_ (by rw[kS];exact h.def');apply Array.ext_getElem?;intro t;by_cases ht:∃(i:Nat) (o:Oper),i<m/\ops[i]? = some o/\o.dst=some t
 ·obtain⟨i,o,him,ho,hd⟩:=ht;rw[hV1 i t ((hall i).2 him) (by rw[gW ho];exact hd)];rw[pE V (ops.toList.take m) 0 a0 i o t (by rw[List.getElem?_take,if_pos him,Array.getElem?_toList];exact ho) hd (fun j' o' hj' hd'=>((R.of ho).2 t hd).2 j' (by
   rw[List.getElem?_take]at hj';split at hj'
   ·rw[Array.getElem?_toList]at hj';rw[gW hj'];exact hd'
   ·cases hj')) ((R.of ho).2 t hd).1,Nat.zero_add]
 ·rw[h.rest t (fun i hi hd=>?_),jT V (ops.toList.take m) 0 a0 t (fun o hm' hd=>?_)]
  ·obtain⟨i,hi⟩:=List.getElem?_of_mem hm';rw[List.getElem?_take]at hi;split at hi
   ·rename_i him
    rw[Array.getElem?_toList]at hi;exact ht ⟨i,o,him,hi,hd⟩
   ·cases hi
  ·unfold dM at hd;cases hx:ops[i]? with
   | none=>rw[hx]at hd;cases hd
   | some x=>rw[hx]at hd;exact ht ⟨i,x,(hall i).1 hi,hx,hd⟩
theorem D7{id:Nat}(F:Flow)(n:Nat)(hn:ops.size=n+1)(hd:(List.range n).all (fun j=>depOn ops n j || (List.range n).any (fun i=>depOn ops n i && depOn ops i j))=true)(hm:P.follows .mixedOrders=true)(R:RegF P Q F ops a0 n)(hB:∀b,F.B b w.drew)
 (hp:∀(V:Nat->Value) (w':World),(∀i,i<n->F.kill i=[]->F.R i (V i) w')->(∀b,F.killB b=[]->F.B b w')->wpList P ops Q (ops.toList.drop n) (eK V (ops.toList.take n) 0 a0) w'):(Code.region id ops true).wp P Q a0 w:=by
 have hon':ops[n]? = some (ops[n]'(by omega)):=Array.getElem?_eq_getElem _;have key:∀(fuel:Nat) (L:Array Bool) (a:Act) (w:World),unl L=fuel->on L n=false->InvF F ops a0 L a w->wpAny P .any ops Q fuel L a w:=by
  intro fuel;induction fuel with
  | zero =>
   intro L a w hu hoff hI;have:=rD hu n (by rw[hI.size];omega);rw[hoff]at this;cases this
  | succ fuel ih =>
   intro L a w hu hoff hI;refine⟨fun hr=>?_,fun i hi=>?_⟩
   ·have:=hI.full R hr n (by omega);rw[hoff]at this;cases this
   ·obtain⟨h1,o,ho,hdep⟩:=mem_ready.1 hi;have his:i<ops.size:=(Array.getElem?_eq_some_iff.1 ho).1;have hoi:on L i=false:=by
     unfold on;rw[Array.getD_eq_getD_getElem?]at h1⊢;cases hh:L[i]? with
     | none=>rfl
     | some b=>rw[hh]at h1;exact h1
    by_cases hin:i=n
    ·subst hin;have hall:∀j,on L j=true↔j<i:=fun j=>by
      constructor
      ·intro hj;have h2:j<ops.size:=by rw[<-hI.size];exact uV hj
       rcases Nat.lt_or_ge j i with h|h
       ·exact h
       ·obtain rfl:j=i:=by omega
        rw[hoff]at hj;cases hj
      ·intro hj;have hdir:∀j,depOn ops i j=true->on L j=true:=fun j h2=>by
        unfold depOn at h2;rw[ho]at h2;obtain⟨e,he,hb⟩:=Array.any_eq_true'.1 h2;simp only[Bool.and_eq_true,beq_iff_eq]at hb;have:=hdep e he hb.1;rw[hb.2]at this;exact this
       have h2:=List.all_eq_true.1 hd j (List.mem_range.2 hj);rw[Bool.or_eq_true]at h2;rcases h2 with h2|h2
       ·exact hdir j h2
       ·obtain⟨x,hx,h3⟩:=List.any_eq_true.1 h2;rw[Bool.and_eq_true]at h3;have hxo:=hdir x h3.1;have hxs:x<ops.size:=by have:=List.mem_range.1 hx;omega
        have hox:ops[x]? = some ops[x]:=Array.getElem?_eq_getElem hxs;have h4:=h3.2;unfold depOn at h4;rw[hox]at h4;exact Gn (ho:=hox) hI h4 hxo
     obtain⟨V,hV1,hV2⟩:=hI.all;have ha:=hI.act R (by omega) hall hV1;have hkl:∀l:List Nat,l=[]->∀x∈l,on L x=false:=fun l hl x hx=>by rw[hl]at hx;cases hx
     have hfin:=hp V w (fun j hj hk=>hV2 j ((hall j).2 hj) (hkl _ hk)) (fun b hb=>hI.base b (hkl _ hb));have hdrop:ops.toList.drop i=[o]:=by
      have hlen:ops.toList.length=i+1:=by rw[Array.length_toList];exact hn
      rw[List.drop_eq_getElem_cons (by omega),List.drop_of_length_le (by omega)];have:ops.toList[i]? = some o:=by rw[Array.getElem?_toList];exact ho
      rw[List.getElem?_eq_getElem (by omega)]at this;rw[Option.some.inj this]
     rw[hdrop,<-ha]at hfin;have hop:wpOp P ops Q i (fun a' w'=>Q .normal a' w') a w:=by
      unfold wpOp;rw[ho];exact hfin
     refine wpOp_mono (fun a' w' hq=>?_) hop;have hon2:∀j,j<ops.size->on (L.setIfInBounds i true) j=true:=fun j hj=>by
      rw[fP (by rw[hI.size];omega)];by_cases h:j<i
      ·rw[(hall j).2 h,Bool.true_or]
      ·rw[show j=i by omega];simp
     have hr:Region.ready .any ops (L.setIfInBounds i true)=[]:=by
      apply List.eq_nil_iff_forall_not_mem.2;intro j hj;obtain⟨h1,o',ho',-⟩:=mem_ready.1 hj;have h2:=hon2 j (Array.getElem?_eq_some_iff.1 ho').1;unfold on at h2;rw[Array.getD_eq_getD_getElem?]at h1 h2;cases hh:(L.setIfInBounds i true)[j]? with
      | none=>rw[hh]at h1;cases h1
      | some b=>rw[hh]at h1 h2;rw[show b=false from h1]at h2;cases h2
     cases fuel with
     | zero=>exact⟨hr,hq⟩
     | succ f=>exact⟨fun _=>hq,fun j hj=>by rw[hr]at hj;cases hj⟩
    ·refine wpOp_mono (fun a' w' hI'=>ih _ a' w' (by have:=vQ h1;omega) ?_ hI') (JY R (by omega) (fun j hj=>?_) ho hoi hdep hI)
     ·rw[fP (by rw[hI.size];exact his),hoff];simpa using hin
     ·have h2:j<ops.size:=by rw[<-hI.size];exact uV hj
      rcases Nat.lt_or_ge j n with h|h
      ·exact h
      ·obtain rfl:j=n:=by omega
       rw[hoff]at hj;cases hj
 have hoff:∀i,on (Array.replicate ops.size false) i=false:=fun i=>by
  unfold on;rw[Array.getD_eq_getD_getElem?,Array.getElem?_replicate];by_cases h:i<ops.size
  ·rw[if_pos h];rfl
  ·rw[if_neg h];rfl
 refine wp_region_any hm (key _ _ a0 _ ?_ (hoff n) ⟨Array.size_replicate,(fun i o _ h=>by rw[hoff]at h;cases h),rfl,rfl,fun _ _=>rfl,⟨fun _=>undef,fun i d h=>(by rw[hoff]at h;cases h),fun i h=>(by rw[hoff]at h;cases h)⟩,fun b _=>hB b⟩);unfold unl;rw[Array.toList_replicate,List.countP_replicate];simp
end RG
section
open Go.RowKit Go.Sort Go.Deep
variable {P:Nat}[NeZero P]{N:Nat}
theorem ME{p:Option Addr}{n c:Nat}{x:UInt8}:encB x≠.slice p n c:=fun h=>by cases h
def El(n:Nat)(W:World)(x:Value)(b:Bs):Prop:=∃k c,x=.slice (some ⟨k,0,none⟩) n c/\n<=c/\b.size=n/\k<W.heap.size/\Holds encB W k 0 b
def isL(n:Nat)(W:World)(g:Nat):Prop:=∃p c,W.cell? ⟨g,0,none⟩=some (.slice p n c)
structure Gr(n:Nat)(v:Value)(W W':World):Prop where
 gr:W.grownBy W' v.ownBlock
 is:∀g,v.ownBlock=some g->isL n W g
theorem Gr.of{W W':World}{n:Nat}(h:Below W.heap.size W W'):Gr n (.slice none 0 0) W W':=
 ⟨⟨h.os,h.tape,h.output,h.size,fun k hk _=>h.block k hk⟩,fun g hg=>by cases hg⟩
theorem Gr.below{n:Nat}{v:Value}{w W W':World}{B:Nat}(h:Gr n v W W')(hb:Below B w W)(hB:B<=W.heap.size)(hv:∀g,v.ownBlock=some g->B<=g):Below B w W':=
 hb.grown h.gr hB (fun k hk=>hv k hk)
theorem Gr.block{n k:Nat}{v:Value}{W W':World}(h:Gr n v W W')(hk:k<W.heap.size)(hne:∀p c,W.cell? ⟨k,0,none⟩≠some (.slice p n c)):W'.heap[k]? = W.heap[k]? :=
 h.gr.block k hk fun e=>by
  obtain⟨p,c,hc⟩:=h.is k e.symm;exact hne p c hc
theorem Holds.kept{W W':World}{k:Nat}{b:Bs}(h:Holds encB W k 0 b)(e:W'.heap[k]? = W.heap[k]?):Holds encB W' k 0 b:=fun j hj=>by
 rw[World.cell?_of_block (a:=⟨k,0+j,none⟩) e,World.frozen?_of_block (a:=⟨k,0+j,none⟩) e];exact h j hj
theorem El.kept{m n:Nat}{v x:Value}{W W':World}{b:Bs}(h:El m W x b)(hm:0<m)(hg:Gr n v W W'):El m W' x b:=by
 obtain⟨k,c,rfl,h1,h2,h3,h4⟩:=h;refine⟨k,c,rfl,h1,h2,Nat.lt_of_lt_of_le h3 hg.gr.size,Holds.kept h4 (hg.block h3 fun p c' hc=>?_)⟩;have:=(h4 0 (by omega)).1;rw[Nat.zero_add,hc]at this;exact ME (Option.some.inj this).symm
theorem Row.kept{n k:Nat}{v:Value}{W W':World}{vs:List Value}(h:Row W k vs)(hg:Gr n v W W')(hne:∀p c,vs[0]?≠some (.slice p n c))(hl:0<vs.length):Row W' k vs:=by
 have e:=hg.block h.1 fun p c hc=>by
  have h0:=h.2.1 0 vs[0] (List.getElem?_eq_getElem hl);rw[Nat.zero_add,hc]at h0;exact hne p c (by rw[List.getElem?_eq_getElem hl,h0])
 refine⟨Nat.lt_of_lt_of_le h.1 hg.gr.size,fun j u hj=>?_,fun j hj=>?_⟩
 ·rw[World.cell?_of_block (a:=⟨k,0+j,none⟩) e];exact h.2.1 j u hj
 ·rw[World.cell?_of_block (a:=⟨k,0+j,none⟩) e,World.frozen?_of_block (a:=⟨k,0+j,none⟩) e];exact h.2.2 j hj
structure Lo(n base:Nat)(W:World)(v:Value)(bs:List Bs):Prop where
 ex:∃xs:List Value,xs.length=bs.length/\W.ownsRow base 22 1 v bs.length xs/\∀(j:Nat) (x:Value) (b:Bs),xs[j]? = some x->bs[j]? = some b->El n W x b
 nil:bs=[]->v=.slice none 0 0
theorem Lo.begin(n base:Nat)(W:World):Lo n base W (.slice none 0 0) []:=⟨⟨[],rfl,World.ownsRow_nil _ _ _ _,fun j x b h=>by cases h⟩,fun _=>rfl⟩
theorem add0(g j:Nat):(⟨g,0,none⟩:Addr).add j=⟨g,j,none⟩:=by unfold Addr.add;split<;>simp_all
theorem Lo.isL{n base:Nat}{W:World}{v:Value}{bs:List Bs}(h:Lo n base W v bs){g:Nat}(hg:v.ownBlock=some g):isL n W g:=by
 obtain⟨xs,h1,h2,h3⟩:=h.ex;have hne:bs≠[]:=fun e=>by rw[h.nil e]at hg;cases hg
 cases bs with
 | nil=>exact absurd rfl hne
 | cons b r =>
  cases xs with
  | nil=>cases h1
  | cons x xr =>
   obtain⟨k,c,rfl,-⟩:=h3 0 x b rfl rfl;have:=h2.cells hg 0 _ rfl;rw[add0]at this;exact⟨_,_,this⟩
theorem Lo.lt{n base:Nat}{W:World}{v:Value}{bs:List Bs}(h:Lo n base W v bs):∀g,v.ownBlock=some g->base<=g/\g<W.heap.size:=by
 obtain⟨xs,h1,h2,h3⟩:=h.ex;exact h2.lt
theorem Lo.kept{m n base:Nat}{W W':World}{v v':Value}{bs:List Bs}(h:Lo m base W v bs)(hm:0<m)(hg:Gr n v' W W')(hne:m≠n):Lo m base W' v bs:=by
 have hL:=fun {g}=>h.isL (g:=g)
 obtain⟨xs,h1,h2,h3⟩:=h.ex;refine⟨⟨xs,h1,h2.kept hg.gr ?_,fun j x b hx hb=>(h3 j x b hx hb).kept hm hg⟩,h.nil⟩;cases hv:v.ownBlock with
 | none=>exact Or.inl rfl
 | some g =>
  refine Or.inr fun e=>hne ?_
  obtain⟨p,c,hc⟩:=hL hv;obtain⟨p',c',hc'⟩:=hg.is g e.symm;rw[hc]at hc';injection hc' with hc'
  injection hc' with _ h5 _
theorem Nl:(prog.info? 22).map (fun i=>(i.size,i.bytes,i.zero.map fun z=>z.cells.size))=some (1,24,some 1):=by kernel_rfl
theorem N6:prog.underlying 48=some (.slice 22):=by kernel_rfl
theorem Lo.app{n base g:Nat}{W:World}{v x:Value}{bs:List Bs}{b:Bs}(h:Lo n base W v bs)(hn:0<n)(hx:El n W x b)(hc:W.cell? ⟨g,0,none⟩=some x)(hk:bs.length<=1000000)(hb:base<=W.heap.size):
 ∃v' W',(Builtin.append_ #[48,48] 48 #[v,.slice (some ⟨g,0,none⟩) 1 1]).run prog W=.ok v' W'/\Lo n base W' v' (bs++[b])/\Gr n v W W':=by
 obtain⟨i,hi,he⟩:=Option.map_eq_some_iff.1 Nl;simp only[Prod.mk.injEq]at he;obtain⟨h1,h2,h3⟩:=he;obtain⟨z,hz,hz2⟩:=Option.map_eq_some_iff.1 h3;obtain⟨xs,x1,x2,x3⟩:=h.ex;obtain⟨v',W',r1,r2,r3,r4⟩:=run_append_own (P:=prog) W base 48 48 22 i z 1 24 N6 hi hz h1 h2 hz2 (by decide) v bs.length xs x2 ⟨g,0,none⟩ 1 1 [x] rfl
  (fun j u hj=>by
   cases j with
   | zero =>
    obtain rfl:x=u:=by simpa using hj
    rw[add0];exact hc
   | succ j=>simp at hj) (fun u hu=>by
   obtain rfl:u=x:=by simpa using hu
   obtain⟨k,c,rfl,-⟩:=hx;rfl) (by unfold maxLen;omega) (by omega) hb
 have G:Gr n v W W':=⟨r3,fun g hg=>h.isL hg⟩
 refine⟨v',W',r1,⟨⟨xs++[x],by simp[x1],by rw[List.length_append];exact r2,fun j y c hy hcy=>?_⟩,fun e=>by simp at e⟩,G⟩;by_cases hj:j<bs.length
 ·rw[List.getElem?_append_left (by omega)]at hy hcy;exact(x3 j y c hy hcy).kept hn G
 ·rw[List.getElem?_append_right (by omega)]at hy hcy;rw[x1]at hy;cases hjj:j-bs.length with
  | zero =>
   rw[hjj]at hy hcy;obtain rfl:x=y:=by simpa using hy
   obtain rfl:b=c:=by simpa using hcy
   exact hx.kept hn G
  | succ d=>rw[hjj]at hy;simp at hy
theorem lR{a:Bs}(ha:a.size=33)(w:World):Calls prog 52 #[pvl a] w (Ret fun e w'=>Below w.heap.size w w'/\El 33 w' e a):=by
 have B1:=Hid.mk' (qJ ha w);obtain⟨w1,hw1⟩:∃w1,Hid (w.alloc (.cells (aA a).toArray 61)=w1):=⟨_,rfl⟩
 rw[hw1.out]at B1;have K:Hid (Row w1 w.heap.size (aA a)/\Below w.heap.size w w1):=by rw[<-hw1.out];exact⟨aG w _ _,aE w _⟩
 obtain⟨va,hva⟩:∃v,Hid (pvl a=v):=⟨_,rfl⟩
 have B1':Hid ((Instr.box 61 va).run prog w=.ok (.pointer (some ⟨w.heap.size,0,none⟩)) w1):=by rw[<-hva.out];exact B1
 rw[hva.out];have hs:=Oe w.heap.size;clear B1 hw1;go_enter Tryz.func52,Tryz.ntmps52;go_wp2_with (first|(refine bI (u:=va) (v:=.pointer (some ⟨w.heap.size,0,none⟩)) (w':=w1) rfl 61 (.tmp 0) rfl ?_ ?_ ?_;rfl;exact B1'.out))
 go_ret;exact⟨_,rfl,K.out.2,w.heap.size,33,rfl,by omega,ha,K.out.1.1,row_holds K.out.1⟩
end
section
open Go.RowKit Go.Sort Go.Deep
variable {P:Nat}[NeZero P]{N:Nat}
def Bo(n B0:Nat)(W:World)(v:Value)(b:Bs):Prop:=∃k x,v=.slice (some ⟨k,0,none⟩) 1 1/\B0<=k/\k<W.heap.size/\W.cell? ⟨k,0,none⟩=some x/\El n W x b
theorem Bo.kept{m n B0:Nat}{W W':World}{v u:Value}{b:Bs}(h:Bo n B0 W v b)(hn:0<n)(hg:Gr m u W W')(hu:∀g,u.ownBlock=some g->g<B0):Bo n B0 W' v b:=by
 obtain⟨k,x,rfl,h1,h2,h3,h4⟩:=h;refine⟨k,x,rfl,h1,Nat.lt_of_lt_of_le h2 hg.gr.size,?_,h4.kept hn hg⟩;rw[World.cell?_of_block (a:=⟨k,0,none⟩) (hg.gr.block k h2 fun e=>by have:=hu k e.symm;omega)];exact h3
def Tm(W:World)(q:Option Addr)(k:Nat)(ns:Nat->Nat)(az:Nat->Bs):Prop:=0<k->∃g,q=some ⟨g,0,none⟩/\g<W.heap.size/\∀j,j<k->W.rangeAt g (37*j) (wn (ns j)++aA (az j))
theorem Tm.kept{m k:Nat}{W W':World}{u:Value}{q:Option Addr}{ns:Nat->Nat}{az:Nat->Bs}(h:Tm W q k ns az)(hg:Gr m u W W'):Tm W' q k ns az:=fun hk=>by
 obtain⟨g,h1,h2,h3⟩:=h hk;refine⟨g,h1,Nat.lt_of_lt_of_le h2 hg.gr.size,fun j hj i v hv=>?_⟩;have e:=hg.block h2 fun p c hc=>by
  have h0:=h3 0 hk 0 _ (show(wn (ns 0)++aA (az 0))[0]? = some _ from rfl);rw[show 37*0+0=0 from rfl,hc]at h0;cases h0
 rw[World.cell?_of_block (a:=⟨g,37*j+i,none⟩) e];exact h3 j hj i v hv
section
variable (w0:World) (v3 v4:Value) (k6 n B0 base:Nat) (p:Bs) (bs cs:List Bs) (q:Option Addr) (k:Nat) (ns:Nat->Nat) (az:Nat->Bs)
def PR:Nat->Value->World->Prop
 | 0,v,_=>v=v3
 | 1,v,_=>v=.pointer (some ⟨k6,0,none⟩)
 | 2,v,_=>v=nv n
 | 3,v,w=>El 32 w v (bx n)
 | 4,v,w=>Bo 32 B0 w v (bx n)
 | 5,v,w=>Lo 32 base w v (bs++[bx n])
 | 6,v,_=>v=v4
 | 7,v,_=>v=.pointer (some ⟨k6,4,none⟩)
 | 8,v,_=>v=pvl p
 | 9,v,w=>El 33 w v p
 | 10,v,w=>Bo 33 B0 w v p
 | 11,v,w=>Lo 33 base w v (cs++[p])
 | 12,v,w=>Lo 32 base w v (bs++[bx n])
 | 13,v,w=>Lo 33 base w v (cs++[p])
 | _,_,_=>True
def PBs:Nat->World->Prop
 | 0,w=>Row w k6 (wn n++aA p)
 | 1,w=>Lo 32 base w v3 bs
 | 2,w=>Lo 33 base w v4 cs
 | 3,w=>Below base w0 w/\base<=w.heap.size/\B0<=w.heap.size
 | 4,w=>Tm w q k ns az
 | 5,w=>Row w base z33
 | _,_=>True
def PE:Nat->World->World->Prop
 | 5=>Gr 32 v3
 | 11=>Gr 33 v4
 | _=>Gr 0 (.slice none 0 0)
def Pk1:Nat->List Nat
 | 4=>[5]
 | 10=>[11]
 | _=>[]
def Pk2:Nat->List Nat
 | 1=>[5]
 | 2=>[11]
 | _=>[]
def FP:RG.Flow:=⟨PR v3 v4 k6 n B0 base p bs cs,PBs w0 v3 v4 k6 n B0 base p bs cs q k ns az,PE v3 v4,Pk1,Pk2⟩
theorem G3{i:Nat}{w w':World}(h:PE v3 v4 i w w'):∃m u,Gr m u w w'/\((i=5/\m=32/\u=v3)\/(i=11/\m=33/\u=v4)\/(i≠5/\i≠11/\m=0/\u=.slice none 0 0)):=by
 unfold PE at h;split at h
 ·exact⟨_,_,h,Or.inl ⟨rfl,rfl,rfl⟩⟩
 ·exact⟨_,_,h,Or.inr (Or.inl ⟨rfl,rfl,rfl⟩)⟩
 ·rename_i h1 h2
  exact⟨_,_,h,Or.inr (Or.inr ⟨h1,h2,rfl,rfl⟩)⟩
variable (hv3:∀g,v3.ownBlock=some g->base<=g/\g<B0) (hv4:∀g,v4.ownBlock=some g->base<=g/\g<B0)
include hv3 hv4
theorem G1{i m:Nat}{u:Value}(h:(i=5/\m=32/\u=v3)\/(i=11/\m=33/\u=v4)\/(i≠5/\i≠11/\m=0/\u=.slice none 0 0)):∀g,u.ownBlock=some g->base<=g/\g<B0:=by
 rcases h with⟨-,-,rfl⟩|⟨-,-,rfl⟩|⟨-,-,-,rfl⟩
 ·exact hv3
 ·exact hv4
 ·intro g hg;cases hg
theorem Mr(i j:Nat)(hj:j<14)(hij:i≠j)(hk:(Pk1 j).contains i=false)(h1:¬(j=12/\i=5))(h2:¬(j=13/\i=11))(v:Value)(w w':World)(hE:PE v3 v4 i w w')(hR:PR v3 v4 k6 n B0 base p bs cs j v w):PR v3 v4 k6 n B0 base p bs cs j v w':=by
 obtain⟨m,u,hg,hc⟩:=G3 v3 v4 hE;have hu:=G1 v3 v4 B0 base hv3 hv4 hc;have m32:m=32->i=5:=fun h=>by rcases hc with⟨h1,-⟩|⟨-,h2,-⟩|⟨-,-,h2,-⟩<;>omega
 have m33:m=33->i=11:=fun h=>by rcases hc with⟨-,h2,-⟩|⟨h1,-⟩|⟨-,-,h2,-⟩<;>omega
 match j,hj,hR with
 | 0,_,h=>exact h
 | 1,_,h=>exact h
 | 2,_,h=>exact h
 | 3,_,h=>exact El.kept h (by decide) hg
 | 4,_,h=>exact Bo.kept h (by decide) hg fun g hgg=>(hu g hgg).2
 | 5,_,h=>exact Lo.kept h (by decide) hg fun e=>hij (m32 e.symm)
 | 6,_,h=>exact h
 | 7,_,h=>exact h
 | 8,_,h=>exact h
 | 9,_,h=>exact El.kept h (by decide) hg
 | 10,_,h=>exact Bo.kept h (by decide) hg fun g hgg=>(hu g hgg).2
 | 11,_,h=>exact Lo.kept h (by decide) hg fun e=>hij (m33 e.symm)
 | 12,_,h=>exact Lo.kept h (by decide) hg fun e=>h1 ⟨rfl,m32 e.symm⟩
 | 13,_,h=>exact Lo.kept h (by decide) hg fun e=>h2 ⟨rfl,m33 e.symm⟩
 | _+14,hj,_=>omega
theorem JO(i b:Nat)(hk:(Pk2 b).contains i=false)(w w':World)(hE:PE v3 v4 i w w')(hR:PBs w0 v3 v4 k6 n B0 base p bs cs q k ns az b w):PBs w0 v3 v4 k6 n B0 base p bs cs q k ns az b w':=by
 obtain⟨m,u,hg,hc⟩:=G3 v3 v4 hE;have hu:=G1 v3 v4 B0 base hv3 hv4 hc;have m32:m=32->i=5:=fun h=>by rcases hc with⟨h1,-⟩|⟨-,h2,-⟩|⟨-,-,h2,-⟩<;>omega
 have m33:m=33->i=11:=fun h=>by rcases hc with⟨-,h2,-⟩|⟨h1,-⟩|⟨-,-,h2,-⟩<;>omega
 match b,hk,hR with
 | 0,_,h=>exact Row.kept h hg (fun p c e=>by cases e) (by rw[List.length_append];exact Nat.lt_of_lt_of_le (by decide) (Nat.le_add_right 4 _))
 | 1,hk,h=>exact Lo.kept h (by decide) hg fun e=>by rw[m32 e.symm]at hk;cases hk
 | 2,hk,h=>exact Lo.kept h (by decide) hg fun e=>by rw[m33 e.symm]at hk;cases hk
 | 3,_,h=>exact⟨hg.below h.1 h.2.1 fun g hgg=>(hu g hgg).1,Nat.le_trans h.2.1 hg.gr.size,Nat.le_trans h.2.2 hg.gr.size⟩
 | 4,_,h=>exact Tm.kept h hg
 | 5,_,h=>exact Row.kept h hg (fun p c e=>by cases e) (by decide)
 | _+6,_,_=>trivial
end
end
section
open Go.RowKit Go.Sort Go.Deep
variable {P:Nat}[NeZero P]{N:Nat}
theorem Lo.drew{n base:Nat}{W:World}{v:Value}{bs:List Bs}(h:Lo n base W v bs):Lo n base W.drew v bs:=⟨h.ex,h.nil⟩
theorem SumR.all(C:Fld P)(O:Ord N){w w':World}{k:Nat}(hk:k<=512){ns:Nat->Nat}{X:Nat->EC.Pt P}(hn:∀j,j<k->ns j<N)(hX:∀j,j<k->EC.On (X j)){L M:Nat->Bs}(hL:∀j,j<k->L j=bx (ns j))(hM:∀j,j<k->M j=wr (X j)){e:Value}(h:SumR P N w k k L M e w'):
 Aq w (wr (EC.tot X k (fun j=>(ns j:Int)))) e w':=by
 have hq:∀j,j<k->rq N (L j)=some (ns j):=fun j hj=>by
  rw[hL j hj];have hb:beV (bx (ns j)).toList=ns j:=xH (Nat.lt_of_lt_of_le (hn j hj) O.le);unfold rq;rw[if_pos ⟨bK _,by rw[hb];exact hn j hj⟩,hb]
 have hr:∀j,j<k->∃p,rd P (M j)=some p/\pt p=X j:=fun j hj=>by rw[hM j hj];exact rO C (hX j hj)
 rcases h with⟨h,-⟩|⟨-,h,-⟩|⟨-,-,⟨⟨j,hj,hn'⟩,-⟩|⟨ns',hns,⟨⟨j,hj,hn'⟩,-⟩|⟨xs,ys,hxy,h⟩⟩⟩
 ·exact absurd rfl h
 ·omega
 ·rw[hq j hj]at hn';cases hn'
 ·obtain⟨p,hp,-⟩:=hr j hj;rw[hp]at hn';cases hn'
 ·have e1:∀j,j<k->ns' j=ns j:=fun j hj=>by
   have:=hns j hj;rw[hq j hj]at this;exact(Option.some.inj this).symm
  have hp:∀j,j<k->EC.Pair (xs j) (ys j) (X j)/\EC.On (X j):=fun j hj=>by
   obtain⟨p,hp,hpt⟩:=hr j hj;have h1:=hxy j hj;rw[hp]at h1;have h2:=Option.some.inj h1;have h3:=uL C hp;rw[hpt]at h3;rw[h2]at h3;exact h3
  have hJ:=xY C (ns:=ns') (xs:=xs) (ys:=ys) (p:=X) (N:=k) (fun i hi=>by rw[e1 i hi];exact Nat.lt_of_lt_of_le (hn i hi) O.le) (fun i hi=>(hp i hi).1) (fun i hi=>(hp i hi).2);have e2:EC.tot X k (fun j=>(ns' j:Int))=EC.tot X k (fun j=>(ns j:Int)):=EC.dU k fun j hj=>by rw[e1 j hj]
  rw[e2]at hJ;rw[<-qX C (hJ.pair C) hJ.2];exact h
structure Pz(w W:World)(q:Option Addr)(k i:Nat)(ns:Nat->Nat)(az:Nat->Bs)(s3 s4:Value):Prop where
 bl:Below w.heap.size w W
 l3:Lo 32 w.heap.size W s3 ((List.range i).map fun j=>bx (ns j))
 l4:Lo 33 w.heap.size W s4 ((List.range i).map az)
 tm:Tm W q k ns az
 r2:Row W w.heap.size z33
end
end Go.Proofs.YtgbjainaafdpgaaGreat
