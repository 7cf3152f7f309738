import Derived.Lib.AppendZeros
import Derived.Test.YtgbjainaafdpgaaGreatBt6
set_option linter.unusedVariables false
set_option linter.unusedSimpArgs false
set_option maxRecDepth 1000000
set_option maxHeartbeats 4000000
namespace Go.Proofs.YtgbjainaafdpgaaGreat
open Go.Proofs.Tryz (prog)
section
open Go.RowKit Go.Sort Go.Deep
variable {P:Nat}[NeZero P]{N:Nat}
theorem El.of_made{w w':World}{k n:Nat}{b:Bs}(h:RG.Made w k (cb b) w')(hb:b.size=n):El n w' (.slice (some ⟨k,0,none⟩) n n) b:=⟨k,n,rfl,Nat.le_refl _,hb,h.lt,cb_holds h.range h.there⟩
theorem Bo.of{n B0:Nat}{w:World}{x:Value}{b:Bs}(h:El n w x b)(hn:0<n)(hB:B0<=w.heap.size)(T:TypeId):Bo n B0 (w.alloc (.cells #[x] T)) (.slice (some ⟨w.heap.size,0,none⟩) 1 1) b:=
 ⟨w.heap.size,x,rfl,hB,by rw[World.size_alloc];omega,by rw[World.cell?_alloc_new];rfl,h.kept hn (Gr.of (n:=0) (aE w _))⟩
theorem Lo.args{n base:Nat}{W:World}{v:Value}{bs:List Bs}(h:Lo n base W v bs):∃q cap,v=.slice q bs.length cap/\(0<bs.length->∃g,q=some ⟨g,0,none⟩/\g<W.heap.size/\∀(j:Nat) (b:Bs),bs[j]? = some b->∃x,W.cell? ⟨g,j,none⟩=some x/\El n W x b):=by
 obtain⟨xs,h1,h2,h3⟩:=h.ex;have h4:=fun {g:Nat}=>h2.cells (g:=g)
 rcases h2.2 with⟨rfl,h0⟩|⟨g,cap,cur,rfl,-,hc,-⟩
 ·exact⟨none,0,by rw[h0],fun h=>by omega⟩
 ·refine⟨_,_,rfl,fun _=>⟨g,rfl,(Array.getElem?_eq_some_iff.1 hc).1,fun j b hb=>?_⟩⟩;have hj:j<xs.length:=by rw[h1];exact(List.getElem?_eq_some_iff.1 hb).1
  have:=h4 (g:=g) rfl j xs[j] (List.getElem?_eq_getElem hj);rw[add0]at this;exact⟨_,this,h3 j _ b (List.getElem?_eq_getElem hj) hb⟩
theorem El.arg{W:World}{x:Value}{b:Bs}(h:El 32 W x b):Arg W x b:=by
 obtain⟨k,c,rfl,h1,h2,h3,h4⟩:=h;exact⟨_,_,_,rfl,h2,fun _=>⟨k,0,rfl,h1,h3,h4⟩⟩
theorem El.arg33{W:World}{x:Value}{b:Bs}(h:El 33 W x b):Arg33 W x b:=by
 obtain⟨k,c,rfl,h1,h2,h3,h4⟩:=h;exact⟨_,_,_,rfl,h2,fun _=>⟨k,0,rfl,h1,h3,h4⟩⟩
theorem mP(C:Fld P)(O:Ord N)(v:Value)(w:World)(k:Nat)(hk:k<=512)(ns:Nat->Nat)(X:Nat->EC.Pt P)(hn:∀j,j<k->ns j<N)(hX:∀j,j<k->EC.On (X j))
 (hmer:∀W,Below w.heap.size w W->Calls prog 86 #[v] W (Ret fun e w'=>Below W.heap.size W w'/\∃q cap,e=.slice q k cap/\Tm w' q k ns (fun j=>wr (X j)))) :
 Calls prog 51 #[v] w (Ret fun e w'=>Below w.heap.size w w'/\e=pvl (wr (EC.tot X k (fun j=>(ns j:Int))))):=by
 have HM:=Hid.mk' hmer;have HC:Hid (Fld P/\Ord N/\(∀j,j<k->ns j<N)/\∀j,j<k->EC.On (X j)):=⟨C,O,hn,hX⟩
 obtain⟨az,haz⟩:∃az:Nat->Bs,Hid ((fun j=>wr (X j))=az):=⟨_,rfl⟩
 have haz':Hid (∀j,az j=wr (X j)):=fun j=>by rw[<-haz.out]
 rw[haz.out]at HM;obtain⟨w1,hw1⟩:∃w1,Hid (w.alloc (.cells z33.toArray 61)=w1):=⟨_,rfl⟩
 have K1:Hid (Row w1 w.heap.size z33/\Below w.heap.size w w1):=by rw[<-hw1.out];exact⟨aG w _ _,aE w _⟩
 obtain⟨d,hd1,hd2⟩:=Option.map_eq_some_iff.1 uCP;obtain⟨d',hd3,hd4⟩:=Option.map_eq_some_iff.1 uT;have HD:Hid ((prog.underlying 61=some d/\d.isRow=true)/\prog.underlying 138=some d'/\d'.isRow=true):=⟨⟨hd1,hd2⟩,hd3,hd4⟩
 clear hd1 hd2 hd3 hd4 hmer hn hX haz C O;go_enter Tryz.func51,Tryz.ntmps51;go_wp2_with (refine aJ (v:=.pointer (some ⟨w.heap.size,0,none⟩)) (w':=w1) rfl (.alloc 61) rfl ?_ ?_;(rw[<-hw1.out];kernel_rfl))
 clear hw1;refine(HM.out w1 K1.out.2).mono ?_;rintro e w2 ⟨vv,rfl,hb2,q,cap,rfl,hT⟩;have K2:Hid (Pz w w2 q k 0 ns az (.slice none 0 0) (.slice none 0 0)):=⟨K1.out.2.trans (hb2.mono K1.out.2.size),Lo.begin _ _ _,Lo.begin _ _ _,hT,K1.out.1.below hb2⟩
 clear hb2 hT K1 HM;go_wp2_with fail
 go_loopg [3,4,12] k (fun m s3 s4 s12 W=>∃i:Nat,i+m=k/\s12=.int .i64 i/\Hid (Pz w W q k i ns az s3 s4))
 case atStart=>exact⟨0,by omega,rfl,K2⟩
 case round =>
  clear K2;obtain⟨i,hik,rfl,KM⟩:=hrel;by_cases hi:i<k
  ·have hi':(i:Int)<(k:Int):=by omega
   obtain⟨g,hq,hg,hr⟩:=KM.out.tm (by omega);subst hq;obtain⟨n,hne⟩:∃n,Hid (ns i=n):=⟨_,rfl⟩
   obtain⟨p,hpe⟩:∃p,Hid (az i=p):=⟨_,rfl⟩
   have B0:Hid (wr.rangeAt g (37*i) (wn n++aA p)):=by
    have h:=hr i hi;rw[hne.out,hpe.out]at h;exact h
   have hps:Hid (p.size=33):=by rw[<-hpe.out,haz'.out i];exact aL _
   have hnN:Hid (n<N):=by rw[<-hne.out];exact HC.out.2.2.1 i hi
   obtain⟨W1,hW1⟩:∃W1,Hid (wr.alloc (.cells zT.toArray 138)=W1):=⟨_,rfl⟩
   obtain⟨W2,hW2⟩:∃W2,Hid (W1.setCells wr.heap.size 0 (wn n++aA p)=W2):=⟨_,rfl⟩
   have hlen:(wn n++aA p).length=37:=by rw[List.length_append,aC hps.out];rfl
   have F1:Hid (Row W1 wr.heap.size zT/\Below wr.heap.size wr W1/\W1.heap.size=wr.heap.size+1):=by rw[<-hW1.out];exact⟨aG wr _ _,aE wr _,World.size_alloc _ _⟩
   have F2:Hid (Row W2 wr.heap.size (wn n++aA p)/\Below wr.heap.size wr W2):=by rw[<-hW2.out];exact⟨F1.out.1.put (by rw[hlen];rfl),RG.below_setCells (Nat.le_refl _) _ _ _ F1.out.2.1⟩
   have HLT:Hid ((prog.info? 138).map (·.size)=some (wn n++aA p).length):=by show _=_;rw[hlen];exact iT
   have HLS:Hid ((prog.info? 138).map (·.size)=some (wn n++aA p).toArray.size/\W1.there wr.heap.size 0 (wn n++aA p).toArray.size):=by
    have e:(wn n++aA p).toArray.size=37:=by rw[List.size_toArray];exact hlen
    rw[e];exact⟨iT,F1.out.1.2.2⟩
   have HAL:Hid ((wn n++aA p).toArray.all (·.oneCell')=true):=by
    show _=_;rw[Array.all_eq_true'];intro u hu;exact cells_one n p u (List.mem_toArray.1 hu)
   have hix:=atT g 0 k cap i hi;obtain⟨vt,hvt⟩:∃v,Hid (Value.agg (wn n++aA p).toArray=v):=⟨_,rfl⟩
   have G2:Gr 0 (.slice none 0 0) wr W2:=Gr.of F2.out.2;have HB:Hid (∀b,PBs w u3 u4 wr.heap.size n W2.heap.size w.heap.size p ((List.range i).map fun j=>bx (ns j)) ((List.range i).map az) (some ⟨g,0,none⟩) k ns az b W2.drew):=fun b=>by
    match b with
    | 0=>exact F2.out.1
    | 1=>exact(KM.out.l3.kept (by decide) G2 (by decide)).drew
    | 2=>exact(KM.out.l4.kept (by decide) G2 (by decide)).drew
    | 3=>exact⟨(KM.out.bl.trans (F2.out.2.mono KM.out.bl.size)).drew,Nat.le_trans KM.out.bl.size F2.out.2.size,Nat.le_refl _⟩
    | 4=>exact KM.out.tm.kept (W':=W2) G2
    | 5=>exact KM.out.r2.below (W':=W2) F2.out.2
    | _+6=>trivial
   have H3:Hid (∀g,u3.ownBlock=some g->w.heap.size<=g/\g<W2.heap.size):=fun g hg=>⟨(KM.out.l3.lt g hg).1,Nat.lt_of_lt_of_le (KM.out.l3.lt g hg).2 F2.out.2.size⟩
   have H4:Hid (∀g,u4.ownBlock=some g->w.heap.size<=g/\g<W2.heap.size):=fun g hg=>⟨(KM.out.l4.lt g hg).1,Nat.lt_of_lt_of_le (KM.out.l4.lt g hg).2 F2.out.2.size⟩
   have HG:=Hid.mk' hg;clear hlen hr G2 KM F2 hg;go_wp2_with (first|(refine wpList_load_mid rfl 138 _ rfl g (37*i) ?_ (wn n++aA p) d' ?_ ?_ ?_ ?_ ?_;rfl;exact B0.out;exact HD.out.2.1;exact HD.out.2.2;exact HLT.out;rw[hvt.out])|(refine aJ (v:=.pointer (some ⟨wr.heap.size,0,none⟩)) (w':=W1) rfl (.alloc 138) rfl ?_ ?_;(rw[<-hW1.out];kernel_rfl))|(refine wpList_store_mid rfl 138 _ _ rfl wr.heap.size 0 (wn n++aA p).toArray ?_ ?_ ?_ ?_ ?_ ?_;rfl;exact hvt.out.symm;exact HLS.out.2;exact HLS.out.1;exact HAL.out;rw[show(wn n++aA p).toArray.toList=wn n++aA p from rfl,hW2.out])|fail)
   refine RG.sQ (FP w u3 u4 wr.heap.size n W2.heap.size w.heap.size p ((List.range i).map fun j=>bx (ns j)) ((List.range i).map az) (some ⟨g,0,none⟩) k ns az) (by kernel_rfl) ⟨by kernel_rfl,RG.GA ?_,fun i' j hi0 hj hij hkl hdp=>Mr u3 u4 wr.heap.size n W2.heap.size w.heap.size p _ _ H3.out H4.out i' j hj hij hkl (fun h=>by rw[h.1,h.2]at hdp;exact absurd (show false=true from hdp.symm.trans (by kernel_rfl)) (by decide)) (fun h=>by rw[h.1,h.2]at hdp;exact absurd (show false=true from hdp.symm.trans (by kernel_rfl)) (by decide)),fun i' b _ hkl=>JO w u3 u4 wr.heap.size n W2.heap.size w.heap.size p _ _ _ k ns az H3.out H4.out i' b hkl⟩ HB.out ?_
   ·have hb0:∀W:World,Gr 0 (.slice none 0 0) W W:=fun W=>Gr.of (Below.refl _ _)
    refine⟨RG.lC 3 fun a W hp=>⟨a.eval (.tmp 3),W,by kernel_rfl,by kernel_rfl,hb0 W,hp.o 3 (by kernel_rfl)⟩,
     RG.lC 6 fun a W hp=>⟨.pointer (some ⟨wr.heap.size,0,none⟩),W,by kernel_rfl,by rw[show a.eval (.tmp 6)=.pointer (some ⟨wr.heap.size,0,none⟩) from hp.o 6 (by kernel_rfl)];kernel_rfl,hb0 W,rfl⟩,
     RG.xA 82 17 rfl u40 fun a W hp=>⟨wr.heap.size,0,wn n,hp.n 1 17 (by kernel_rfl) (by kernel_rfl) (by kernel_rfl),iM (show Row W wr.heap.size (wn n++aA p) from hp.b 0 (by kernel_rfl)).2.1,i40,hb0 W,rfl⟩,
     RG.Db 18 fun a W hp=>⟨87,#[nv n],by kernel_rfl,by rw[show a.eval (.tmp 18)=nv n from hp.n 2 18 (by kernel_rfl) (by kernel_rfl) (by kernel_rfl)];kernel_rfl,(rM HC.out.2.1 hnN.out W).mono (by
      rintro e W' ⟨u,rfl,k',hm,rfl⟩;exact⟨_,rfl,Gr.of hm.bel,El.of_made hm (bK n)⟩)⟩,
     RG.lC 19 fun a W hp=>⟨.slice (some ⟨W.heap.size,0,none⟩) 1 1,W.alloc (.cells #[a.eval (.tmp 19)] 22),by kernel_rfl,by
      obtain⟨k',c',he,-⟩:=show El 32 W (a.eval (.tmp 19)) (bx n) from hp.n 3 19 (by kernel_rfl) (by kernel_rfl) (by kernel_rfl)
      rw[he];kernel_rfl,Gr.of (aE W _),Bo.of (show El 32 W (a.eval (.tmp 19)) (bx n) from hp.n 3 19 (by kernel_rfl) (by kernel_rfl) (by kernel_rfl)) (by decide) (hp.b 3 (by kernel_rfl)).2.2 _⟩,
     RG.Gz 16 20 48 rfl fun a W hp=>?_,
     RG.lC 4 fun a W hp=>⟨a.eval (.tmp 4),W,by kernel_rfl,by kernel_rfl,hb0 W,hp.o 4 (by kernel_rfl)⟩,
     RG.lC 6 fun a W hp=>⟨.pointer (some ⟨wr.heap.size,4,none⟩),W,by kernel_rfl,by rw[show a.eval (.tmp 6)=.pointer (some ⟨wr.heap.size,0,none⟩) from hp.o 6 (by kernel_rfl)];kernel_rfl,hb0 W,rfl⟩,
     RG.xA 61 23 rfl uCP fun a W hp=>⟨wr.heap.size,4,aA p,hp.n 7 23 (by kernel_rfl) (by kernel_rfl) (by kernel_rfl),gI (xs:=wn n) (show Row W wr.heap.size (wn n++aA p) from hp.b 0 (by kernel_rfl)).2.1,by rw[aC hps.out];exact aI,hb0 W,rfl⟩,
     RG.Db 24 fun a W hp=>⟨52,#[pvl p],by kernel_rfl,by rw[show a.eval (.tmp 24)=pvl p from hp.n 8 24 (by kernel_rfl) (by kernel_rfl) (by kernel_rfl)];kernel_rfl,(lR hps.out W).mono (by
      rintro e W' ⟨u,rfl,hb,hE⟩;exact⟨_,rfl,Gr.of hb,hE⟩)⟩,
     RG.lC 25 fun a W hp=>⟨.slice (some ⟨W.heap.size,0,none⟩) 1 1,W.alloc (.cells #[a.eval (.tmp 25)] 22),by kernel_rfl,by
      obtain⟨k',c',he,-⟩:=show El 33 W (a.eval (.tmp 25)) p from hp.n 9 25 (by kernel_rfl) (by kernel_rfl) (by kernel_rfl)
      rw[he];kernel_rfl,Gr.of (aE W _),Bo.of (show El 33 W (a.eval (.tmp 25)) p from hp.n 9 25 (by kernel_rfl) (by kernel_rfl) (by kernel_rfl)) (by decide) (hp.b 3 (by kernel_rfl)).2.2 _⟩,
     RG.Gz 22 26 48 rfl fun a W hp=>?_,
     RG.lC 21 fun a W hp=>⟨a.eval (.tmp 21),W,by kernel_rfl,by kernel_rfl,hb0 W,hp.n 5 21 (by kernel_rfl) (by kernel_rfl) (by kernel_rfl)⟩,
     RG.lC 27 fun a W hp=>⟨a.eval (.tmp 27),W,by kernel_rfl,by kernel_rfl,hb0 W,hp.n 11 27 (by kernel_rfl) (by kernel_rfl) (by kernel_rfl)⟩,trivial⟩
    ·obtain⟨k',x,he,h1,h2,h3,h4⟩:=show Bo 32 W2.heap.size W (a.eval (.tmp 20)) (bx n) from hp.n 4 20 (by kernel_rfl) (by kernel_rfl) (by kernel_rfl)
     obtain⟨v',W',r1,r2,r3⟩:=Lo.app (show Lo 32 w.heap.size W u3 _ from hp.b 1 (by kernel_rfl)) (by decide) h4 h3 (by rw[List.length_map,List.length_range];omega) (hp.b 3 (by kernel_rfl)).2.1;refine⟨v',W',?_,r3,r2⟩;rw[he,show a.eval (.tmp 16)=u3 from hp.n 0 16 (by kernel_rfl) (by kernel_rfl) (by kernel_rfl)];exact r1
    ·obtain⟨k',x,he,h1,h2,h3,h4⟩:=show Bo 33 W2.heap.size W (a.eval (.tmp 26)) p from hp.n 10 26 (by kernel_rfl) (by kernel_rfl) (by kernel_rfl)
     obtain⟨v',W',r1,r2,r3⟩:=Lo.app (show Lo 33 w.heap.size W u4 _ from hp.b 2 (by kernel_rfl)) (by decide) h4 h3 (by rw[List.length_map,List.length_range];omega) (hp.b 3 (by kernel_rfl)).2.1;refine⟨v',W',?_,r3,r2⟩;rw[he,show a.eval (.tmp 22)=u4 from hp.n 6 22 (by kernel_rfl) (by kernel_rfl) (by kernel_rfl)];exact r1
   ·intro V w5 hR5 hB5;have KN:Hid (Pz w w5 (some ⟨g,0,none⟩) k (i+1) ns az (V 12) (V 13)):=by
     have h1:=hR5 12 (Nat.lt_of_succ_le (Nat.le_of_ble_eq_true (by kernel_rfl))) rfl;have h2:=hR5 13 (Nat.lt_of_succ_le (Nat.le_of_ble_eq_true (by kernel_rfl))) rfl;refine⟨(hB5 3 rfl).1,?_,?_,hB5 4 rfl,hB5 5 rfl⟩
     ·rw[List.range_succ,List.map_append];show Lo 32 w.heap.size w5 (V 12) (_++[bx (ns i)]);rw[hne.out];exact h1
     ·rw[List.range_succ,List.map_append];show Lo 33 w.heap.size w5 (V 13) (_++[az i]);rw[hpe.out];exact h2
    clear hR5 hB5 HB H3 H4;dsimp only[RG.eK,Nat.reduceAdd];generalize V 12=s3 at KN⊢;generalize V 13=s4 at KN⊢;go_wp2;go_roundg (gk-1)
    case measure=>omega
    case rel=>exact⟨i+1,by omega,rfl,KN⟩
  ·have hi':¬(i:Int)<(k:Int):=by omega
   obtain rfl:i=k:=by omega
   obtain⟨q3,c3,rfl,h3⟩:=KM.out.l3.args;obtain⟨q4,c4,rfl,h4⟩:=KM.out.l4.args;rw[List.length_map,List.length_range]at h3 h4;have HA:Hid (ArgsScs wr q3 i (fun j=>bx (ns j))):=fun h0=>by
    obtain⟨g,e1,e2,e3⟩:=h3 h0;refine⟨g,e1,e2,fun j hj=>?_⟩;obtain⟨x,x1,x2⟩:=e3 j (bx (ns j)) (by rw[List.getElem?_map,List.getElem?_range hj];rfl);exact⟨x,x1,x2.arg⟩
   have HP:Hid (ArgsPts wr q4 i az):=fun h0=>by
    obtain⟨g,e1,e2,e3⟩:=h4 h0;refine⟨g,e1,e2,fun j hj=>?_⟩;obtain⟨x,x1,x2⟩:=e3 j (az j) (by rw[List.getElem?_map,List.getElem?_range hj];rfl);exact⟨x,x1,x2.arg33⟩
   rw[List.length_map,List.length_range,List.length_map,List.length_range];have KB:Hid (Below w.heap.size w wr/\Row wr w.heap.size z33):=⟨KM.out.bl,KM.out.r2⟩
   clear h3 h4 KM;go_wp2_with fail
   refine(F9 HC.out.1 HC.out.2.1.gap HC.out.2.1.le q3 q4 i c3 i c4 (fun j=>bx (ns j)) az wr HA.out HP.out).mono ?_;rintro e w6 ⟨vv,rfl,hb6,hS⟩;obtain⟨gs,cs,rfl,-,-,h6,h7⟩:=SumR.all HC.out.1 HC.out.2.1 (by omega) HC.out.2.2.1 HC.out.2.2.2 (fun _ _=>rfl) (fun j _=>haz'.out j) hS;obtain⟨T,hT⟩:∃T,Hid (Go.Proofs.YtgbjainaafdpgaaGreat.wr (EC.tot X i (fun j=>(ns j:Int)))=T):=⟨_,rfl⟩
   have hTs:T.size=33:=by rw[<-hT.out];exact aL _
   rw[hT.out]at h7;have K6:Hid (Row w6 w.heap.size z33/\Below w.heap.size w w6/\Row w6 gs (aA T)):=⟨KB.out.2.below hb6,KB.out.1.trans (hb6.mono KB.out.1.size),AQ h7 h6⟩
   clear hb6 hS h6 h7 KB HA HP;have harr:=GR gs cs;obtain⟨w7,hw7⟩:∃w7,Hid (w6.setCells w.heap.size 0 (aA T)=w7):=⟨_,rfl⟩
   have hlen:(aA T).length=33:=aC hTs;have K7:Hid (Row w7 w.heap.size (aA T)/\Below w.heap.size w w7):=by rw[<-hw7.out];exact⟨K6.out.1.put (by rw[hlen];rfl),RG.below_setCells (Nat.le_refl _) _ _ _ K6.out.2.1⟩
   obtain⟨vt,hvt⟩:∃vt,Hid (Value.agg (aA T).toArray=vt):=⟨_,rfl⟩
   have HI:Hid ((prog.info? 61).map (·.size)=some (aA T).length/\w6.there w.heap.size 0 (aA T).toArray.size/\(prog.info? 61).map (·.size)=some (aA T).toArray.size):=by
    have e:(aA T).toArray.size=33:=by rw[List.size_toArray];exact hlen
    refine⟨by rw[hlen];exact aI,by rw[e];exact K6.out.1.2.2,by rw[e];exact aI⟩
   clear hlen;go_wp2_with (first|(refine wpList_load_mid rfl 61 _ rfl gs 0 ?_ (aA T) d ?_ ?_ ?_ ?_ ?_;rfl;exact K6.out.2.2.2.1;exact HD.out.1.1;exact HD.out.1.2;exact HI.out.1;rw[hvt.out])|(refine wpList_store_mid rfl 61 _ _ rfl w.heap.size 0 (aA T).toArray ?_ ?_ ?_ ?_ ?_ ?_;rfl;exact hvt.out.symm;exact HI.out.2.1;exact HI.out.2.2;exact bW T;rw[show(aA T).toArray.toList=aA T from rfl,hw7.out]))
   refine bodyPost_ret (aY 2 61 rfl K7.out.1 rfl uCP HI.out.1) rfl ?_;exact⟨_,rfl,K7.out.2,by rw[hT.out];rfl⟩
theorem uU(C:Fld P)(O:Ord N){g c n:Nat}(hn:n<N){X:EC.Pt P}(hX:EC.On X)(w:World)(hR:Row w g (wn n++aA (wr X))):
 Calls prog 51 #[.slice (some ⟨g,0,none⟩) 1 c] w (Ret fun e w'=>Below w.heap.size w w'/\e=pvl (wr (EC.mul n X))):=by
 by_cases h0:n=0
 ·subst h0;refine(mP C O _ w 0 (by decide) (fun _=>0) (fun _=>X) (fun j hj=>by omega) (fun j hj=>by omega) fun W hb=>?_).mono ?_
  ·refine(FT g c (wr X) (aL X) W (hR.below hb).1 (hR.below hb).2.1).mono ?_;rintro e w' ⟨v,rfl,hb',q,cap,rfl⟩;exact⟨_,rfl,hb',q,cap,rfl,fun h=>by omega⟩
  ·rintro e w' ⟨v,rfl,hb',rfl⟩;exact⟨_,rfl,hb',rfl⟩
 ·refine(mP C O _ w 1 (by decide) (fun _=>n) (fun _=>X) (fun j hj=>hn) (fun j hj=>hX) fun W hb=>?_).mono ?_
  ·have e1:mrg N (fun _=>n) (fun _=>wr X) 1=[(n,wr X)]:=rfl;have h:=FQ (N:=N) g 1 c (by decide) (fun _=>n) (fun _=>wr X) (fun _ _=>aL X) (fun i hi=>by
    obtain rfl:i=0:=by omega
    rfl) (fun x hx=>by
    rw[e1]at hx;obtain rfl:x=(n,wr X):=by simpa using hx
    exact⟨h0,Nat.lt_of_lt_of_le hn O.le⟩) (by rw[e1];exact Nat.lt_succ_self 0) W (hR.below hb).1 (fun j hj=>by
    obtain rfl:j=0:=by omega
    exact(hR.below hb).2.1)
   refine h.mono ?_;rintro e w' ⟨v,rfl,hb',g',cap,rfl,h1,h2,h3⟩;refine⟨_,rfl,hb',some ⟨g',0,none⟩,cap,rfl,fun _=>⟨g',rfl,h2,fun j hj=>?_⟩⟩;have:=h3 j hj;obtain rfl:j=0:=by omega
   exact this
  ·rintro e w' ⟨v,rfl,hb',rfl⟩;exact⟨_,rfl,hb',rfl⟩
theorem Ci(C:Fld P)(O:Ord N){n:Nat}(hn:n<N){X:EC.Pt P}(hX:EC.On X):Gives 130 #[nv n,pvl (wr X)] (pvl (wr (EC.mul n X))):=by
 intro w;have HC:Hid (Fld P/\Ord N/\n<N/\EC.On X):=⟨C,O,hn,hX⟩
 obtain⟨a,hae⟩:∃a,Hid (wr X=a):=⟨_,rfl⟩
 have ha:a.size=33:=by rw[<-hae.out];exact aL X
 rw[hae.out];clear C O hn hX;have B2:=Hid.mk' (boxS n w);obtain⟨w1,hw1⟩:∃w1,Hid (w.alloc (.cells (wn n).toArray 82)=w1):=⟨_,rfl⟩
 rw[hw1.out]at B2;have e1:w1.heap.size=w.heap.size+1:=by rw[<-hw1.out,World.size_alloc]
 have B1:=Hid.mk' (qJ ha w1);obtain⟨w2,hw2⟩:∃w2,Hid (w1.alloc (.cells (aA a).toArray 61)=w2):=⟨_,rfl⟩
 rw[hw2.out,e1]at B1;have e2:w2.heap.size=w.heap.size+2:=by rw[<-hw2.out,World.size_alloc,e1]
 obtain⟨w3,hw3⟩:∃w3,Hid (w2.alloc (.cells z33.toArray 61)=w3):=⟨_,rfl⟩
 have K:Hid (Row w3 w.heap.size (wn n)/\Row w3 (w.heap.size+1) (aA a)/\Row w3 (w.heap.size+2) z33/\Below w.heap.size w w3):=by
  have q1:Row w1 w.heap.size (wn n):=by rw[<-hw1.out];exact aG w _ _
  have q2:Row w2 (w.heap.size+1) (aA a):=by rw[<-hw2.out,<-e1];exact aG w1 _ _
  have q3:Row w3 (w.heap.size+2) z33:=by rw[<-hw3.out,<-e2];exact aG w2 _ _
  have b1:Below w.heap.size w w1:=by rw[<-hw1.out];exact aE w _
  have b2:Below w1.heap.size w1 w2:=by rw[<-hw2.out];exact aE w1 _
  have b3:Below w2.heap.size w2 w3:=by rw[<-hw3.out];exact aE w2 _
  exact⟨(q1.below b2).below b3,q2.below b3,q3,(b1.trans (b2.mono (by omega))).trans (b3.mono (by omega))⟩
 have HE:Hid (w2.heap.size=w.heap.size+2):=e2;have HL:Hid ((prog.info? 61).map (·.size)=some (aA a).length):=by show _=_;rw[aC ha];exact aI
 obtain⟨d,hd1,hd2⟩:=Option.map_eq_some_iff.1 uCP;obtain⟨d',hd3,hd4⟩:=Option.map_eq_some_iff.1 u40;have HD:Hid ((prog.underlying 61=some d/\d.isRow=true)/\prog.underlying 82=some d'/\d'.isRow=true):=⟨⟨hd1,hd2⟩,hd3,hd4⟩
 clear hd1 hd2 hd3 hd4 hw1 hw2 e1 e2;obtain⟨va,hva⟩:∃v,Hid (pvl a=v):=⟨_,rfl⟩
 obtain⟨vn,hvn⟩:∃v,Hid (nv n=v):=⟨_,rfl⟩
 have B1':Hid ((Instr.box 61 va).run prog w1=.ok (.pointer (some ⟨w.heap.size+1,0,none⟩)) w2):=by rw[<-hva.out];exact B1
 rw[hvn.out]at B2;rw[hva.out,hvn.out];clear B1;go_enter Tryz.func130,Tryz.ntmps130;go_wp2_with (first|(refine bI (u:=vn) (v:=.pointer (some ⟨w.heap.size,0,none⟩)) (w':=w1) rfl 82 (.tmp 0) rfl ?_ ?_ ?_;rfl;exact B2.out)|(refine bI (u:=va) (v:=.pointer (some ⟨w.heap.size+1,0,none⟩)) (w':=w2) rfl 61 (.tmp 1) rfl ?_ ?_ ?_;rfl;exact B1'.out)|(refine aJ (v:=.pointer (some ⟨w.heap.size+2,0,none⟩)) (w':=w3) rfl (.alloc 61) rfl ?_ ?_;(rw[<-hw3.out,<-HE.out];kernel_rfl))|(refine wpList_load_mid rfl 82 _ rfl w.heap.size 0 ?_ (wn n) d' ?_ ?_ ?_ ?_ ?_;rfl;exact K.out.1.2.1;exact HD.out.2.1;exact HD.out.2.2;exact i40;rw[show Value.agg (wn n).toArray=vn from hvn.out])|(refine wpList_load_mid rfl 61 _ rfl (w.heap.size+1) 0 ?_ (aA a) d ?_ ?_ ?_ ?_ ?_;rfl;exact K.out.2.1.2.1;exact HD.out.1.1;exact HD.out.1.2;exact HL.out;rw[show Value.agg (aA a).toArray=va from hva.out]))
 have HT:=eN a ha n w3;rw[hva.out,hvn.out]at HT;refine HT.mono ?_;rintro e w4 ⟨vv,rfl,hb4,k4,rfl,-,hR4⟩;have K4:Hid (Row w4 (w.heap.size+2) z33/\Below w.heap.size w w4/\Row w4 k4 (wn n++aA a)):=⟨K.out.2.2.1.below hb4,K.out.2.2.2.trans (hb4.mono K.out.2.2.2.size),hR4⟩
 clear hb4 hR4 K HT B2 B1' hw3 HE;go_wp2_with fail
 refine(uU HC.out.1 HC.out.2.1 HC.out.2.2.1 HC.out.2.2.2 w4 (by rw[hae.out];exact K4.out.2.2)).mono ?_;rintro e w5 ⟨vv,rfl,hb5,rfl⟩;obtain⟨T,hT⟩:∃T,Hid (wr (EC.mul n X)=T):=⟨_,rfl⟩
 have hTs:T.size=33:=by rw[<-hT.out];exact aL _
 rw[hT.out];have K5:Hid (Row w5 (w.heap.size+2) z33/\Below w.heap.size w w5):=⟨K4.out.1.below hb5,K4.out.2.1.trans (hb5.mono K4.out.2.1.size)⟩
 clear hb5 K4;obtain⟨w6,hw6⟩:∃w6,Hid (w5.setCells (w.heap.size+2) 0 (aA T)=w6):=⟨_,rfl⟩
 have hlen:(aA T).length=33:=aC hTs;have K6:Hid (Row w6 (w.heap.size+2) (aA T)/\Below w.heap.size w w6):=by rw[<-hw6.out];exact⟨K5.out.1.put (by rw[hlen];rfl),RG.below_setCells (by omega) _ _ _ K5.out.2⟩
 obtain⟨vt,hvt⟩:∃vt,Hid (pvl T=vt):=⟨_,rfl⟩
 have HI:Hid ((prog.info? 61).map (·.size)=some (aA T).length/\w5.there (w.heap.size+2) 0 (aA T).toArray.size/\(prog.info? 61).map (·.size)=some (aA T).toArray.size):=by
  have e:(aA T).toArray.size=33:=by rw[List.size_toArray];exact hlen
  refine⟨by rw[hlen];exact aI,by rw[e];exact K5.out.1.2.2,by rw[e];exact aI⟩
 clear hlen;rw[hvt.out];go_wp2_with (first|(refine wpList_store_mid rfl 61 _ _ rfl (w.heap.size+2) 0 (aA T).toArray ?_ ?_ ?_ ?_ ?_ ?_;rfl;exact hvt.out.symm;exact HI.out.2.1;exact HI.out.2.2;exact bW T;rw[show(aA T).toArray.toList=aA T from rfl,hw6.out]))
 refine bodyPost_ret (aY 4 61 rfl K6.out.1 rfl uCP HI.out.1) rfl ?_;exact⟨_,rfl,K6.out.2,by rw[hT.out];rfl⟩
def cL(f:Nat->UInt8):List Value:=(List.range 33).map fun i=>.int .u8 (ub (f i))
theorem iR{a:Bs}(ha:a.size=33):aA a=cL fun i=>a[i]!:=(fM ha).trans rfl
def prv(a b:Bs):Value:=.agg (aA a++aA b).toArray
def fpv(f:Nat->UInt8):Value:=.agg (cL f).toArray
def fpr(f g:Nat->UInt8):Value:=.agg (cL f++cL g).toArray
theorem gJ{a:Bs}(ha:a.size=33):pvl a=fpv fun i=>a[i]!:=by unfold pvl fpv;rw[iR ha]
theorem A4{a b:Bs}(ha:a.size=33)(hb:b.size=33):prv a b=fpr (fun i=>a[i]!) (fun i=>b[i]!):=by unfold prv fpr;rw[iR ha,iR hb]
theorem uPr:(prog.underlying 143).map (·.isRow)=some true:=by kernel_rfl
theorem iPr:(prog.info? 143).map (·.size)=some 66:=by kernel_rfl
def zz(n:Nat):List Value:=(List.replicate n (Value.int .u8 0))
theorem yU(C:Fld P)(O:Ord N){n:Nat}(hn:n<N){X:EC.Pt P}(hX:EC.On X):Gives 90 #[nv n,pvl (wr X)] (prv (wr (EC.mul n (gG P))) (wr (EC.mul n X))):=by
 intro w;have hG:=F7 C;have h1:=Ci C O hn (jJ C);have h2:=Ci C O hn hX;rw[gJ (aL _)]at hG h1 h2⊢;rw[gJ (aL (EC.mul n _))]at h1 h2;rw[A4 (aL _) (aL _)];generalize (fun i:Nat=>(wr (gG P))[i]!)=g at hG h1;generalize (fun i:Nat=>(wr (EC.mul n (gG P)))[i]!)=h at h1⊢;generalize (fun i:Nat=>(wr (EC.mul n X))[i]!)=k at h2⊢;generalize (fun i:Nat=>(wr X)[i]!)=f at h2⊢;go_enter Tryz.func90,Tryz.ntmps90;refine RG.M.enter [(0,.v (nv n)),(1,.v (fpv f))] 12 (by kernel_rfl) ?_;intro a0 M0;repeat refine wp_seq ?_
 refine M0.t [.m 2 [] 0,.m 3 [] 1,.m 4 [] 2] [(0,wn n),(1,cL f),(2,zz 66)] [] [wn n,cL f,zz 66] [(2,.p 0 0),(3,.p 1 0),(4,.p 2 0)] ⟨RG.mk 0 82,RG.mk 1 61,RG.mk 2 143,trivial⟩ ?_;intro j1 j2 j3 a1 w1 M1;repeat refine wp_seq ?_
 refine M1.d [.x 5 [] (nv n),.c 6 [] (fpv g),.c 7 [(5,0),(6,1)] (fpv h),.x 8 [] (nv n),.x 9 [] (fpv f),.c 10 [(8,3),(9,4)] (fpv k),.x 11 [(7,2),(10,5)] (fpr h k),.u [(11,6)] 2] [] [(2,7,cL h++cL k)] [wn n,cL f,cL h++cL k] [(4,.p 2 0)] ⟨RG.ld u40 i40,RG.cl hG,RG.cl h1,RG.ld u40 i40,RG.ld uCP aI,RG.cl h2,RG.st,RG.pt iPr,trivial⟩ ?_;intro a2 w2 M2;refine wp_ret ?_;refine bodyPost_ret (v:=fpr h k) (RG.aD M2.st 4 143 rfl 2 _ rfl (M2.at (s:=(.p 2 0))) uPr iPr) M2.sl.defers ?_;exact⟨_,rfl,M2.st.bel.below,rfl⟩
theorem rN{W:World}{k:Nat}{a b:Bs}(h:Row W k (aA a++aA b)):Holds encB W k 0 (a++b):=by
 have e:aA a++aA b=cb (a++b):=by unfold aA cb;rw[Array.toList_append,List.map_append]
 rw[e]at h;exact cb_holds h.2.1 h.2.2
theorem lN{W:World}{k:Nat}{a b:Bs}(ha:a.size=33)(hb:b.size=33)(h:Row W k (aA a++aA b)):SP.PartOk W (.slice (some ⟨k,0,none⟩) 33 33) a.toList:=
 ⟨_,k,0,33,a,by rw[ha],rfl,by omega,by omega,Or.inr ⟨rfl,by
  have:=Holds.part (p:=0) (e:=a) (rN h) (by rw[Array.size_append];omega) (fun j hj=>by
   rw[Nat.zero_add,getElem!_pos a j hj,getElem!_pos (a++b) j (by rw[Array.size_append];omega),Array.getElem_append_left])
  exact this⟩⟩
theorem lM{W:World}{k:Nat}{a b:Bs}(ha:a.size=33)(hb:b.size=33)(h:Row W k (aA a++aA b)):SP.PartOk W (.slice (some ⟨k,33,none⟩) 33 33) b.toList:=
 ⟨_,k,33,33,b,by rw[hb],rfl,by omega,by omega,Or.inr ⟨rfl,by
  have:=Holds.part (p:=33) (e:=b) (rN h) (by rw[Array.size_append];omega) (fun j hj=>by
   rw[getElem!_pos b j hj,getElem!_pos (a++b) (33+j) (by rw[Array.size_append];omega),Array.getElem_append_right (by omega)]
   congr 1
   omega)
  rwa[Nat.zero_add]at this⟩⟩
theorem Kj{a b:Bs}(ha:a.size=33)(hb:b.size=33)(w:World):(Instr.box 143 (.agg (aA a++aA b).toArray)).run prog w=.ok (.pointer (some ⟨w.heap.size,0,none⟩)) (w.alloc (.cells (aA a++aA b).toArray 143)):=by
 rw[iR ha,iR hb];kernel_rfl
theorem yA(k o:Nat)(w:World):(Instr.sliceAt 61 (.pointer (some ⟨k,o,none⟩)) none none none).run prog w=.ok (.slice (some ⟨k,o,none⟩) 33 33) w:=by kernel_rfl
structure Sy(w W:World)(k3 k4 k5 k6 k7 r:Nat)(a pa pb fa fb L:Bs):Prop where
 bl:Below w.heap.size w W
 r3:Row W k3 (aA a)
 r4:Row W k4 (aA pa++aA pb)
 r5:Row W k5 (aA fa++aA fb)
 r6:Row W k6 [.int .u64 0,.int .u64 0,.int .u64 0,.int .u64 0]
 r7:Row W k7 [.pointer (some ⟨r,0,none⟩)]
 lg:Holds encB W r 0 L
structure Sz(w:World)(k3 k4 k5 k6 k7 r:Nat):Prop where
 lr:w.heap.size<=r
 n3:k3≠r
 n4:k4≠r
 n5:k5≠r
 n6:k6≠r
 n7:k7≠r
theorem Sy.say{w W W':World}{k3 k4 k5 k6 k7 r:Nat}{a pa pb fa fb L L':Bs}(h:Sy w W k3 k4 k5 k6 k7 r a pa pb fa fb L)(n:Sz w k3 k4 k5 k6 k7 r)(hO:SP.Only r 0 32 W W')(hL:Holds encB W' r 0 L'):Sy w W' k3 k4 k5 k6 k7 r a pa pb fa fb L':=
 ⟨h.bl.trans (hO.below h.bl.size n.lr),h.r3.only hO n.n3,h.r4.only hO n.n4,h.r5.only hO n.n5,h.r6.only hO n.n6,h.r7.only hO n.n7,hL⟩
theorem Sy.drew{w W:World}{k3 k4 k5 k6 k7 r:Nat}{a pa pb fa fb L:Bs}(h:Sy w W k3 k4 k5 k6 k7 r a pa pb fa fb L):Sy w W.drew k3 k4 k5 k6 k7 r a pa pb fa fb L:=⟨h.bl.drew,h.r3,h.r4,h.r5,h.r6,h.r7,h.lg⟩
theorem Sy.cell{w W:World}{k3 k4 k5 k6 k7 r:Nat}{a pa pb fa fb L:Bs}(h:Sy w W k3 k4 k5 k6 k7 r a pa pb fa fb L):W.cell? ⟨k7,0,none⟩=some (.pointer (some ⟨r,0,none⟩)):=h.r7.2.1 0 _ rfl
def Nj(a pa pb fa fb:List UInt8):Bs:=SP.kK (SP.kK (SP.kK (SP.kK (SP.kK (SP.newL [115,97,109,101]) [98,97,115,101] a) [97] pa) [98] pb) [102,105,114,115,116] fa) [115,101,99,111,110,100] fb
def asm(N:Nat)(a pa pb fa fb:List UInt8):Nat:=cha N (Nj a pa pb fa fb)
theorem BV(O:Ord N)(a pa pb fa fb:List UInt8):asm N a pa pb fa fb<N:=Cp O _
theorem Cn(O:Ord N)(a pa pb fa fb:Bs)(ha:a.size=33)(hpa:pa.size=33)(hpb:pb.size=33)(hfa:fa.size=33)(hfb:fb.size=33):Gives 89 #[pvl a,prv pa pb,prv fa fb] (nv (asm N a.toList pa.toList pb.toList fa.toList fb.toList)):=by
 intro w;unfold pvl prv;obtain⟨L0,h0⟩:∃L,Hid (SP.newL [115,97,109,101]=L):=⟨_,rfl⟩
 obtain⟨L1,h1⟩:∃L,Hid (SP.kK L0 [98,97,115,101] a.toList=L):=⟨_,rfl⟩
 obtain⟨L2,h2⟩:∃L,Hid (SP.kK L1 [97] pa.toList=L):=⟨_,rfl⟩
 obtain⟨L3,h3⟩:∃L,Hid (SP.kK L2 [98] pb.toList=L):=⟨_,rfl⟩
 obtain⟨L4,h4⟩:∃L,Hid (SP.kK L3 [102,105,114,115,116] fa.toList=L):=⟨_,rfl⟩
 obtain⟨L5,h5⟩:∃L,Hid (SP.kK L4 [115,101,99,111,110,100] fb.toList=L):=⟨_,rfl⟩
 have s0:L0.size=32:=by rw[<-h0.out];exact SP.uX _
 have s1:L1.size=32:=by rw[<-h1.out];exact SP.jB _ _ _
 have s2:L2.size=32:=by rw[<-h2.out];exact SP.jB _ _ _
 have s3:L3.size=32:=by rw[<-h3.out];exact SP.jB _ _ _
 have s4:L4.size=32:=by rw[<-h4.out];exact SP.jB _ _ _
 have s5:L5.size=32:=by rw[<-h5.out];exact SP.jB _ _ _
 have hr:asm N a.toList pa.toList pb.toList fa.toList fb.toList=cha N L5:=by unfold asm Nj;rw[h0.out,h1.out,h2.out,h3.out,h4.out,h5.out]
 rw[hr];clear hr;obtain⟨va,hva⟩:∃v,Hid (Value.agg (aA a).toArray=v):=⟨_,rfl⟩
 obtain⟨vp,hvp⟩:∃v,Hid (Value.agg (aA pa++aA pb).toArray=v):=⟨_,rfl⟩
 obtain⟨vf,hvf⟩:∃v,Hid (Value.agg (aA fa++aA fb).toArray=v):=⟨_,rfl⟩
 have bA:=qJ ha w;obtain⟨w1,hw1⟩:∃w1,Hid (w.alloc (.cells (aA a).toArray 61)=w1):=⟨_,rfl⟩
 have bB:=Kj hpa hpb w1;obtain⟨w2,hw2⟩:∃w2,Hid (w1.alloc (.cells (aA pa++aA pb).toArray 143)=w2):=⟨_,rfl⟩
 have bC:=Kj hfa hfb w2;obtain⟨w3,hw3⟩:∃w3,Hid (w2.alloc (.cells (aA fa++aA fb).toArray 143)=w3):=⟨_,rfl⟩
 obtain⟨w4,hw4⟩:∃w4,Hid (w3.alloc (.cells #[.int .u64 0,.int .u64 0,.int .u64 0,.int .u64 0] 82)=w4):=⟨_,rfl⟩
 rw[hva.out,hw1.out]at bA;rw[hvp.out,hw2.out]at bB;rw[hvf.out,hw3.out]at bC;rw[hva.out,hvp.out,hvf.out];have e1:w1.heap.size=w.heap.size+1:=by rw[<-hw1.out,World.size_alloc]
 have e2:w2.heap.size=w.heap.size+2:=by rw[<-hw2.out,World.size_alloc,e1]
 have e3:w3.heap.size=w.heap.size+3:=by rw[<-hw3.out,World.size_alloc,e2]
 have e4:w4.heap.size=w.heap.size+4:=by rw[<-hw4.out,World.size_alloc,e3]
 rw[e1]at bB;rw[e2]at bC;have K4:Hid (Row w4 w.heap.size (aA a)/\Row w4 (w.heap.size+1) (aA pa++aA pb)/\Row w4 (w.heap.size+2) (aA fa++aA fb)/\Row w4 (w.heap.size+3) [.int .u64 0,.int .u64 0,.int .u64 0,.int .u64 0]/\Below w.heap.size w w4):=by
  have q1:Row w1 w.heap.size (aA a):=by rw[<-hw1.out];exact aG w _ _
  have q2:Row w2 (w.heap.size+1) (aA pa++aA pb):=by rw[<-hw2.out,<-e1];exact aG w1 _ _
  have q3:Row w3 (w.heap.size+2) (aA fa++aA fb):=by rw[<-hw3.out,<-e2];exact aG w2 _ _
  have q4:Row w4 (w.heap.size+3) [.int .u64 0,.int .u64 0,.int .u64 0,.int .u64 0]:=by rw[<-hw4.out,<-e3];exact aG w3 _ _
  have b1:Below w.heap.size w w1:=by rw[<-hw1.out];exact aE w _
  have b2:Below w1.heap.size w1 w2:=by rw[<-hw2.out];exact aE w1 _
  have b3:Below w2.heap.size w2 w3:=by rw[<-hw3.out];exact aE w2 _
  have b4:Below w3.heap.size w3 w4:=by rw[<-hw4.out];exact aE w3 _
  exact⟨((q1.below b2).below b3).below b4,(q2.below b3).below b4,q3.below b4,q4,((b1.trans (b2.mono (by omega))).trans (b3.mono (by omega))).trans (b4.mono (by omega))⟩
 clear hw1 hw2 hw3;have BA:=Hid.mk' bA;have BB:=Hid.mk' bB;have BC:=Hid.mk' bC;clear bA bB bC;go_enter Tryz.func89,Tryz.ntmps89;go_wp2_with (first|(refine bI (u:=va) (v:=.pointer (some ⟨w.heap.size,0,none⟩)) (w':=w1) rfl 61 (.tmp 0) rfl ?_ ?_ ?_;rfl;exact BA.out)|(refine bI (u:=vp) (v:=.pointer (some ⟨w.heap.size+1,0,none⟩)) (w':=w2) rfl 143 (.tmp 1) rfl ?_ ?_ ?_;rfl;exact BB.out)|(refine bI (u:=vf) (v:=.pointer (some ⟨w.heap.size+2,0,none⟩)) (w':=w3) rfl 143 (.tmp 2) rfl ?_ ?_ ?_;rfl;exact BC.out))
 rw[hw4.out];clear hw4 BA BB BC;refine(Dy ⟨#[115,97,109,101]⟩ w4 (by decide)).mono ?_;rintro e w5 ⟨v,rfl,hb5,r,rfl,hr1,hr2,hL⟩;rw[show SP.newL (⟨#[115,97,109,101]⟩:ByteArray).data.toList=L0 from h0.out]at hL;have hb05:Below w.heap.size w w5:=K4.out.2.2.2.2.trans (hb5.mono K4.out.2.2.2.2.size);obtain⟨k7,hk7⟩:∃k,Hid (w5.heap.size=k):=⟨_,rfl⟩
 have hk7r:r<k7:=by rw[<-hk7.out];exact hr2
 have hb05s:=hb05.size;have HN:Hid (Sz w w.heap.size (w.heap.size+1) (w.heap.size+2) (w.heap.size+3) k7 r):=⟨by omega,by omega,by omega,by omega,by omega,by omega⟩
 obtain⟨w6,hw6⟩:∃w6,Hid ((w5.alloc (.cells #[.pointer none] 182)).setCells k7 0 [.pointer (some ⟨r,0,none⟩)]=w6):=⟨_,rfl⟩
 have KS:Hid (Sy w w6 w.heap.size (w.heap.size+1) (w.heap.size+2) (w.heap.size+3) k7 r a pa pb fa fb L0):=by
  rw[<-hw6.out,<-hk7.out];have hR:=aG w5 [.pointer none] 182;have hlt:w5.heap.size=k7:=hk7.out;refine⟨RG.below_setCells hb05.size _ _ _ (hb05.alloc hb05.size _),((K4.out.1.below hb5).alloc _).other (by omega),((K4.out.2.1.below hb5).alloc _).other (by omega),((K4.out.2.2.1.below hb5).alloc _).other (by omega),((K4.out.2.2.2.1.below hb5).alloc _).other (by omega),hR.put rfl,fun j hj=>?_⟩;have e:=RG.cB w5.heap.size [.pointer (some ⟨r,0,none⟩)] 0 (w5.alloc (.cells #[.pointer none] 182)) r (by omega);have e2:=Below.heap_alloc w5 (.cells #[.pointer none] 182) r hr2;rw[World.cell?_of_block (a:=⟨r,0+j,none⟩) e,World.frozen?_of_block (a:=⟨r,0+j,none⟩) e,World.cell?_of_block (a:=⟨r,0+j,none⟩) e2,World.frozen?_of_block (a:=⟨r,0+j,none⟩) e2];exact hL j hj
 have HTH:Hid ((w5.alloc (.cells #[.pointer none] 182)).there k7 0 1):=by rw[<-hk7.out];exact(aG w5 [.pointer none] 182).2.2
 clear hb5 hL hb05 hr1 hr2 K4 hk7r hb05s;go_wp2_with (refine aJ (v:=.pointer (some ⟨k7,0,none⟩)) (w':=w5.alloc (.cells #[.pointer none] 182)) rfl (.alloc 182) rfl ?_ ?_;(rw[<-hk7.out];kernel_rfl);refine Hid.out ?_)
 show wpList _ _ _ _ _ _;refine wpList_store_mid rfl 182 _ _ rfl k7 0 #[.pointer (some ⟨r,0,none⟩)] ?_ ?_ ?_ ?_ ?_ ?_
 ·kernel_rfl
 ·kernel_rfl
 ·exact HTH.out
 ·exact i124
 ·kernel_rfl
 rw[show(#[Value.pointer (some ⟨r,0,none⟩)]).toList=[.pointer (some ⟨r,0,none⟩)] from rfl,hw6.out];clear HTH hw6 hk7;have KP:=KS.out;clear KS;have hsl:=yA w.heap.size 0;go_wp2_with fail
 go_region_held3 (fun W=>W.cell? ⟨k7,0,none⟩=some (.pointer (some ⟨r,0,none⟩))/\∃L,Sy w W w.heap.size (w.heap.size+1) (w.heap.size+2) (w.heap.size+3) k7 r a pa pb fa fb L) (first|(with_reducible exact⟨KP.cell,_,KP⟩)|(with_reducible exact⟨KP.drew.cell,_,KP.drew⟩)|fail) (first|(go_at_call 128;(first|(with_reducible refine(SP.fC r L0 ⟨#[98,97,115,101]⟩ (some ⟨w.heap.size,0,none⟩) 33 33 a.toList _ (by decide) (tP KP.lg) s0 (yE ha KP.r3)).mono ?_)|(with_reducible refine(SP.fC r L0 ⟨#[98,97,115,101]⟩ (some ⟨w.heap.size,0,none⟩) 33 33 a.toList _ (by decide) (tP KP.drew.lg) s0 (yE ha KP.drew.r3)).mono ?_));rintro e w7 ⟨rfl,hO,hL⟩;rw[show SP.kK L0 (⟨#[98,97,115,101]⟩:ByteArray).data.toList a.toList=L1 from h1.out]at hL;(first|(with_reducible (have KP1:=KP.drew.say HN.out hO (tO hL)))|(with_reducible (have KP1:=KP.say HN.out hO (tO hL)))|fail);clear KP hO hL;have KP:=KP1;clear KP1))
 clear hsl;have hsl:=yA (w.heap.size+1) 0;go_wp2_with fail
 go_region_held3 (fun W=>W.cell? ⟨k7,0,none⟩=some (.pointer (some ⟨r,0,none⟩))/\∃L,Sy w W w.heap.size (w.heap.size+1) (w.heap.size+2) (w.heap.size+3) k7 r a pa pb fa fb L) (first|(with_reducible exact⟨KP.cell,_,KP⟩)|(with_reducible exact⟨KP.drew.cell,_,KP.drew⟩)|fail) (first|(go_at_call 128;(first|(with_reducible refine(SP.fC r L1 ⟨#[97]⟩ (some ⟨w.heap.size+1,0,none⟩) 33 33 pa.toList _ (by decide) (tP KP.lg) s1 (lN hpa hpb KP.r4)).mono ?_)|(with_reducible refine(SP.fC r L1 ⟨#[97]⟩ (some ⟨w.heap.size+1,0,none⟩) 33 33 pa.toList _ (by decide) (tP KP.drew.lg) s1 (lN hpa hpb KP.drew.r4)).mono ?_));rintro e w8 ⟨rfl,hO,hL⟩;rw[show SP.kK L1 (⟨#[97]⟩:ByteArray).data.toList pa.toList=L2 from h2.out]at hL;(first|(with_reducible (have KP1:=KP.drew.say HN.out hO (tO hL)))|(with_reducible (have KP1:=KP.say HN.out hO (tO hL)))|fail);clear KP hO hL;have KP:=KP1;clear KP1))
 clear hsl;have hsl:=yA (w.heap.size+1) 33;go_wp2_with fail
 go_region_held3 (fun W=>W.cell? ⟨k7,0,none⟩=some (.pointer (some ⟨r,0,none⟩))/\∃L,Sy w W w.heap.size (w.heap.size+1) (w.heap.size+2) (w.heap.size+3) k7 r a pa pb fa fb L) (first|(with_reducible exact⟨KP.cell,_,KP⟩)|(with_reducible exact⟨KP.drew.cell,_,KP.drew⟩)|fail) (first|(go_at_call 128;(first|(with_reducible refine(SP.fC r L2 ⟨#[98]⟩ (some ⟨w.heap.size+1,33,none⟩) 33 33 pb.toList _ (by decide) (tP KP.lg) s2 (lM hpa hpb KP.r4)).mono ?_)|(with_reducible refine(SP.fC r L2 ⟨#[98]⟩ (some ⟨w.heap.size+1,33,none⟩) 33 33 pb.toList _ (by decide) (tP KP.drew.lg) s2 (lM hpa hpb KP.drew.r4)).mono ?_));rintro e w9 ⟨rfl,hO,hL⟩;rw[show SP.kK L2 (⟨#[98]⟩:ByteArray).data.toList pb.toList=L3 from h3.out]at hL;(first|(with_reducible (have KP1:=KP.drew.say HN.out hO (tO hL)))|(with_reducible (have KP1:=KP.say HN.out hO (tO hL)))|fail);clear KP hO hL;have KP:=KP1;clear KP1))
 clear hsl;have hsl:=yA (w.heap.size+2) 0;go_wp2_with fail
 go_region_held3 (fun W=>W.cell? ⟨k7,0,none⟩=some (.pointer (some ⟨r,0,none⟩))/\∃L,Sy w W w.heap.size (w.heap.size+1) (w.heap.size+2) (w.heap.size+3) k7 r a pa pb fa fb L) (first|(with_reducible exact⟨KP.cell,_,KP⟩)|(with_reducible exact⟨KP.drew.cell,_,KP.drew⟩)|fail) (first|(go_at_call 128;(first|(with_reducible refine(SP.fC r L3 ⟨#[102,105,114,115,116]⟩ (some ⟨w.heap.size+2,0,none⟩) 33 33 fa.toList _ (by decide) (tP KP.lg) s3 (lN hfa hfb KP.r5)).mono ?_)|(with_reducible refine(SP.fC r L3 ⟨#[102,105,114,115,116]⟩ (some ⟨w.heap.size+2,0,none⟩) 33 33 fa.toList _ (by decide) (tP KP.drew.lg) s3 (lN hfa hfb KP.drew.r5)).mono ?_));rintro e w10 ⟨rfl,hO,hL⟩;rw[show SP.kK L3 (⟨#[102,105,114,115,116]⟩:ByteArray).data.toList fa.toList=L4 from h4.out]at hL;(first|(with_reducible (have KP1:=KP.drew.say HN.out hO (tO hL)))|(with_reducible (have KP1:=KP.say HN.out hO (tO hL)))|fail);clear KP hO hL;have KP:=KP1;clear KP1))
 clear hsl;have hsl:=yA (w.heap.size+2) 33;go_wp2_with fail
 go_region_held3 (fun W=>W.cell? ⟨k7,0,none⟩=some (.pointer (some ⟨r,0,none⟩))/\∃L,Sy w W w.heap.size (w.heap.size+1) (w.heap.size+2) (w.heap.size+3) k7 r a pa pb fa fb L) (first|(with_reducible exact⟨KP.cell,_,KP⟩)|(with_reducible exact⟨KP.drew.cell,_,KP.drew⟩)|fail) (first|(go_at_call 128;(first|(with_reducible refine(SP.fC r L4 ⟨#[115,101,99,111,110,100]⟩ (some ⟨w.heap.size+2,33,none⟩) 33 33 fb.toList _ (by decide) (tP KP.lg) s4 (lM hfa hfb KP.r5)).mono ?_)|(with_reducible refine(SP.fC r L4 ⟨#[115,101,99,111,110,100]⟩ (some ⟨w.heap.size+2,33,none⟩) 33 33 fb.toList _ (by decide) (tP KP.drew.lg) s4 (lM hfa hfb KP.drew.r5)).mono ?_));rintro e w11 ⟨rfl,hO,hL⟩;rw[show SP.kK L4 (⟨#[115,101,99,111,110,100]⟩:ByteArray).data.toList fb.toList=L5 from h5.out]at hL;(first|(with_reducible (have KP1:=KP.drew.say HN.out hO (tO hL)))|(with_reducible (have KP1:=KP.say HN.out hO (tO hL)))|fail);clear KP hO hL;have KP:=KP1;clear KP1))
 clear hsl;have KT:=Hid.mk' KP;clear KP;obtain⟨d,hd1,hd2⟩:=Option.map_eq_some_iff.1 u124;have HD:Hid (prog.underlying 182=some d/\d.isRow=true):=⟨hd1,hd2⟩
 clear hd1 hd2;go_wp2_with (refine wpList_load_mid rfl 182 _ rfl k7 0 ?_ [.pointer (some ⟨r,0,none⟩)] d ?_ ?_ ?_ ?_ ?_;kernel_rfl;exact KT.out.r7.2.1;exact HD.out.1;exact HD.out.2;exact i124)
 refine(wG O r L5 w11 KT.out.lg s5).mono ?_;rintro e w12 ⟨v,rfl,hO,rfl⟩;have K9:Hid (Row w12 (w.heap.size+3) [.int .u64 0,.int .u64 0,.int .u64 0,.int .u64 0]/\Below w.heap.size w w12):=⟨KT.out.r6.only hO HN.out.n6,KT.out.bl.trans (hO.below KT.out.bl.size HN.out.lr)⟩
 clear hO KT HN;obtain⟨m,hm⟩:∃m,Hid (cha N L5=m):=⟨_,rfl⟩
 rw[hm.out];obtain⟨wa,hwa⟩:∃wa,Hid (w12.setCells (w.heap.size+3) 0 (wn m)=wa):=⟨_,rfl⟩
 have KA:Hid (Row wa (w.heap.size+3) (wn m)/\Below w.heap.size w wa):=by rw[<-hwa.out];exact⟨K9.out.1.put rfl,RG.below_setCells (by omega) _ _ _ K9.out.2⟩
 obtain⟨vm,hvm⟩:∃vm,Hid (nv m=vm):=⟨_,rfl⟩
 rw[hvm.out];go_wp2_with (refine wpList_store_mid rfl 82 _ _ rfl (w.heap.size+3) 0 (wn m).toArray ?_ ?_ ?_ ?_ ?_ ?_;rfl;exact hvm.out.symm;exact K9.out.1.2.2;exact i40;exact dI m;rw[show(wn m).toArray.toList=wn m from rfl,hwa.out])
 refine bodyPost_ret (aY 6 82 rfl KA.out.1 rfl u40 i40) rfl ?_;exact⟨_,rfl,KA.out.2,by rw[hm.out];rfl⟩
end
namespace RG
open Go Go.RowKit
variable {P:Program}{ops:Array Oper}{Q:Exit->Act->World->Prop}{w:World}{a0:Act}
def AllE(a:Act):List (Tmp × Value)->Prop
 | []=>True
 | x :: r=>a.eval (.tmp x.1)=x.2/\AllE a r
def evl(ps:List (Tmp × Value))(t:Tmp):Value:=match ps.find? (fun x=>x.1 == t) with|some x=>x.2|none=>undef
theorem AllE.mem{a:Act}:∀ {ps:List (Tmp × Value)},AllE a ps->∀x∈ps,a.eval (.tmp x.1)=x.2
 | [],_,x,hx=>by cases hx
 | y :: r,h,x,hx=>by
  rcases List.mem_cons.1 hx with rfl|hx
  ·exact h.1
  ·exact AllE.mem h.2 x hx
theorem AllE.ev{a:Act}{ps:List (Tmp × Value)}(h:AllE a ps):∀t∈ps.map (·.1),a.eval (.tmp t)=evl ps t:=fun t ht=>by
 obtain⟨x,hx,rfl⟩:=List.mem_map.1 ht;unfold evl;cases hf:ps.find? (fun y=>y.1 == x.1) with
 | none =>
  have:=List.find?_eq_none.1 hf x hx;simp at this
 | some y =>
  have h1:=List.mem_of_find?_eq_some hf;have h2:y.1=x.1:=by simpa using List.find?_some hf
  have:=h.mem y h1;rw[h2]at this;exact this
structure Gw where
 R:Nat->Value->World->Prop
 B:World->Prop
 sR:∀i v w w',Below w.heap.size w w'->R i v w->R i v w'
 sB:∀w w',Below w.heap.size w w'->B w->B w'
def Gw.flow(G:Gw):Flow:=⟨G.R,fun _=>G.B,fun _ w w'=>Below w.heap.size w w',fun _=>[],fun _=>[]⟩
structure PreG(G:Gw)(ops:Array Oper)(a0:Act)(k:Nat)(o:Oper)(a:Act)(w:World):Prop where
 n:∀j d,iC o j=true->dM ops j=some d->G.R j (a.eval (.tmp d)) w
 o:∀t,CS ops k t=true->a.eval (.tmp t)=a0.eval (.tmp t)
 b:G.B w
variable {G:Gw}
theorem wL{k:Nat}{o:Oper}{a:Act}(h:PreF G.flow ops a0 k o a w):PreG G ops a0 k o a w:=⟨fun j d hj hd=>h.n j d hj rfl hd,h.o,h.b 0 rfl⟩
theorem aK{k:Nat}{o:Oper}(h:∀(a:Act) (w:World),PreG G ops a0 k o a w->∃(ps:List (Tmp × Value)) (v:Value) (w':World),AllE a ps/\(uH (ps.map (·.1)) o,(execOp (evo (evl ps)) o).run P w)=(true,.ok (.value v) w')/\Below w.heap.size w w'/\G.R k v w'):kD P Q G.flow ops a0 k o:=
 BF fun a w hp=>by
  obtain⟨ps,v,w',he,hs,hE⟩:=h a w (wL hp);simp only[Prod.mk.injEq]at hs;refine⟨v,w',?_,hE⟩;rw[qV (evl ps) (ps.map (·.1)) hs.1 he.ev];exact hs.2
theorem bG{k:Nat}{o:Oper}(h:∀(a:Act) (w:World),PreG G ops a0 k o a w->∃(ps:List (Tmp × Value)) (f:FuncId) (args:Array Value),AllE a ps/\(uH (ps.map (·.1)) o,(execOp (evo (evl ps)) o).run P w)=(true,.ok (.enter f args) w)/\Calls P f args w (Ret fun e w'=>Below w.heap.size w w'/\G.R k e w')):kD P Q G.flow ops a0 k o:=by
 intro a w K h1 h2 h3 hK;obtain⟨ps,f,args,he,hs,hc⟩:=h a w (wL ⟨h1,h2,h3⟩);simp only[Prod.mk.injEq]at hs;unfold Oper.wp;rw[qV (evl ps) (ps.map (·.1)) hs.1 he.ev,hs.2,Oper.upon_enter];refine hc.mono ?_;rintro e w' ⟨v,rfl,hE,hR⟩;exact hK _ _ hE hR
theorem bJ{k:Nat}{o:Oper}(T:TypeId)(t:Tmp)(ho:o.op=.load T (.tmp t))(hu:(P.underlying T).map (·.isRow)=some true)
 (h:∀(a:Act) (w:World),PreG G ops a0 k o a w->∃g off cs,a.eval (.tmp t)=.pointer (some ⟨g,off,none⟩)/\w.rangeAt g off cs/\(P.info? T).map (·.size)=some cs.length/\G.R k (.agg cs.toArray) w):kD P Q G.flow ops a0 k o:=
 xA T t ho hu fun a w hp=>by
  obtain⟨g,off,cs,h1,h2,h3,h4⟩:=h a w (wL hp);exact⟨g,off,cs,h1,h2,h3,Below.refl _ _,h4⟩
theorem LO{k:Nat}{o:Oper}(op:BinOp)(T T':TypeId)(t1 t2:Tmp)(ho:o.op=.binOp op T (.tmp t1) (.tmp t2) T')
 (h:∀(a:Act) (w:World),PreG G ops a0 k o a w->∃v1 v2 v,a.eval (.tmp t1)=v1/\a.eval (.tmp t2)=v2/\(eqGuard op T (.tmp t1) (.tmp t2) v1 v2).run P w=.ok () w/\(binOp op T v1 v2).run P w=.ok v w/\G.R k v w):kD P Q G.flow ops a0 k o:=
 BF fun a w hp=>by
  obtain⟨v1,v2,v,h1,h2,hg,hb,hR⟩:=h a w (wL hp);refine⟨v,w,?_,Below.refl _ _,hR⟩;unfold execOp;rw[ho];dsimp only;rw[h1,h2,Sem.run_bind,Sem.run_bind,hg];dsimp only[Result.andThen];rw[hb];rfl
theorem cD{k:Nat}{o:Oper}{j:Nat}{want:Bool}(hg:o.guard=some (j,want))(h:(iC o j,(dM ops j).isSome)=(true,true))(hw:∀v w,G.R j v w->v=.bool (!want))(hR:∀w,G.R k undef w):mL P Q G.flow ops a0 k o:=by
 unfold mL;rw[hg];simp only[Prod.mk.injEq]at h;exact⟨h.1,h.2,rfl,Or.inr ⟨hw,fun w=>⟨Below.refl _ _,hR w⟩⟩⟩
theorem fA{k:Nat}{o:Oper}{j:Nat}{want:Bool}(hg:o.guard=some (j,want))(h:(iC o j,(dM ops j).isSome)=(true,true))(hw:∀v w,G.R j v w->v=.bool want)(hc:kD P Q G.flow ops a0 k o):mL P Q G.flow ops a0 k o:=by
 unfold mL;rw[hg];simp only[Prod.mk.injEq]at h;exact⟨h.1,h.2,rfl,Or.inl ⟨hw,hc⟩⟩
theorem Gw.reg{m:Nat}(hc:Jt ops a0.tmps.size=true)(h:m6 P Q G.flow ops a0 0 (ops.toList.take m)):RegF P Q G.flow ops a0 m:=
 ⟨hc,Eb h,fun i j _ _ _ _ _ v w w' hE hR=>G.sR j v w w' hE hR,fun i b _ _ w w' hE hB=>G.sB w w' hE hB⟩
theorem Gw.draws{id:Nat}(G:Gw)(hm:P.follows .mixedOrders=true)(hc:Jt ops a0.tmps.size=true)(h:m6 P Q G.flow ops a0 0 (ops.toList.take ops.size))(hB:G.B w.drew)
 (hp:∀(V:Nat->Value) (w':World),(∀i,i<ops.size->G.R i (V i) w')->G.B w'->Q .normal (eK V ops.toList 0 a0) w'):(Code.region id ops true).wp P Q a0 w:=
 sQ G.flow hm (Gw.reg hc h) (fun _=>hB) fun V w' h1 h2=>hp V w' (fun i hi=>h1 i hi rfl) (h2 0 rfl)
theorem Gw.last{id:Nat}(G:Gw)(n:Nat)(hn:((ops.size == n+1) && (List.range n).all (fun j=>depOn ops n j || (List.range n).any (fun i=>depOn ops n i && depOn ops i j)))=true)(hm:P.follows .mixedOrders=true)(hc:Jt ops a0.tmps.size=true)(h:m6 P Q G.flow ops a0 0 (ops.toList.take n))(hB:G.B w.drew)
 (hp:∀(V:Nat->Value) (w':World),(∀i,i<n->G.R i (V i) w')->G.B w'->wpList P ops Q (ops.toList.drop n) (eK V (ops.toList.take n) 0 a0) w'):(Code.region id ops true).wp P Q a0 w:=by
 rw[Bool.and_eq_true,beq_iff_eq]at hn;exact D7 G.flow n hn.1 hn.2 hm (Gw.reg hc h) (fun _=>hB) fun V w' h1 h2=>hp V w' (fun i hi=>h1 i hi rfl) (h2 0 rfl)
end RG
section
open Go.RowKit Go.Sort Go.Deep
variable {P:Nat}[NeZero P]{N:Nat}
theorem yC{w:World}{g o:Nat}{v:Value}{cur:Array Value}{e:TypeId}{z:Nat × Nat}(h:w.heap[g]? = some (.cells cur e z)):∃cur2:Array Value,(w.setCell ⟨g,o,none⟩ v).heap[g]? = some (.cells cur2 e z)/\cur2.size=cur.size:=by
 have hlt:g<w.heap.size:=(Array.getElem?_eq_some_iff.1 h).1;refine⟨cur.setIfInBounds o v,?_,Array.size_setIfInBounds ..⟩;have h2:w.heap[g]=.cells cur e z:=by rw[Array.getElem?_eq_getElem hlt]at h;exact Option.some.inj h
 simp[World.setCell,Array.getElem_modify,hlt,h2]
theorem nF{g:Nat}{e:TypeId}{z:Nat × Nat}:∀(vs:List Value) (o:Nat) (w:World) (cur:Array Value),w.heap[g]? = some (.cells cur e z)->∃cur2:Array Value,(w.setCells g o vs).heap[g]? = some (.cells cur2 e z)/\cur2.size=cur.size
 | [],_,_,cur,h=>⟨cur,h,rfl⟩
 | v :: r,o,w,cur,h=>by
  obtain⟨c1,h1,h2⟩:=yC (o:=o) (v:=v) h;obtain⟨c2,h3,h4⟩:=nF r (o+1) _ c1 h1;exact⟨c2,h3,h4.trans h2⟩
theorem Fx{W:World}{base n s g o cap:Nat}{e:TypeId}{xs vs:List Value}(h:W.ownsRow base e s (.slice (some ⟨g,0,none⟩) n cap) n xs)(hl:o+vs.length<=n*s):(W.setCells g o vs).ownsRow base e s (.slice (some ⟨g,0,none⟩) n cap) n (RG.rep xs o vs):=by
 have hx:o+vs.length<=xs.length:=by rw[h.1];exact hl
 refine⟨by rw[RG.cM hx];exact h.1,?_⟩;rcases h.2 with⟨h1,-⟩|⟨g',cap',cur,h1,h2,h3,h4,h5,h6,h7⟩
 ·cases h1
 ·injection h1 with e1 e2 e3
  injection e1 with e1
  injection e1 with e1
  subst e1;subst e3;obtain⟨c2,k1,k2⟩:=nF vs o W cur h3;refine Or.inr ⟨g,cap,c2,rfl,h2,k1,h4,h5,by rw[k2];exact h6,?_⟩;have hcs:n*s<=cur.size:=by rw[h6];exact Nat.mul_le_mul_right s h4
  apply List.ext_getElem?;intro i;rw[RG.rep_at hx,List.getElem?_take,<-h7];have c1:∀i,W.cell? ⟨g,i,none⟩=cur[i]?:=fun i=>cell_of_row W g i cur e (0,0) h3
  have c3:(W.setCells g o vs).cell? ⟨g,i,none⟩=c2[i]?:=cell_of_row _ g i c2 e (0,0) k1;by_cases hi:i<n*s
  ·rw[if_pos hi];by_cases hin:o<=i/\i<o+vs.length
   ·rw[if_pos hin];have hj:i-o<vs.length:=by omega
    have:=World.cell?_setCells_in g vs o W (fun j hj=>by rw[c1 (o+j),Array.getElem?_eq_getElem (by omega)];rfl) (i-o) hj;rw[show o+(i-o)=i by omega,c3]at this;rw[Array.getElem?_toList,this,List.getElem?_eq_getElem hj]
   ·rw[if_neg hin,List.getElem?_take,if_pos hi,Array.getElem?_toList,Array.getElem?_toList,<-c3,<-c1 i];exact World.cell?_setCells_out g vs o W ⟨g,i,none⟩ (fun _ _=>by show i<o\/o+vs.length<=i;omega)
  ·rw[if_neg hi,if_neg (by omega),List.getElem?_take,if_neg hi]
theorem Iz{xs ys vs:List Value}{o:Nat}:RG.rep (xs++ys) (xs.length+o) vs=xs++RG.rep ys o vs:=by
 unfold RG.rep;rw[List.take_length_add_append,Nat.add_assoc,List.drop_length_add_append,List.append_assoc]
theorem eW{n:Nat}{p:Bs}(hp:p.size=33):(wn n++aA p).length=37:=by rw[List.length_append,aC hp];rfl
theorem dZ(x:Nat × Bs)(r:List (Nat × Bs)):aV (x :: r)=(wn x.1++aA x.2)++aV r:=by unfold aV;rw[List.flatMap_cons]
theorem tC(s:Nat):∀(l:List (Nat × Bs)) (j:Nat) (hj:j<l.length),(∀x∈l.map (·.2),x.size=33)->aV (l.set j (s,(l[j]).2))=RG.rep (aV l) (37*j) (wn s)
 | [],j,hj,_=>by cases hj
 | x :: r,0,_,_=>by
  show aV ((s,x.2) :: r)=_;rw[dZ,dZ];rfl
 | x :: r,j+1,hj,hs=>by
  have hx:=eW (n:=x.1) (hs x.2 (by simp));show aV (x :: r.set j (s,(r[j]'(by simpa using hj)).2))=_;rw[dZ,dZ,tC s r j (by simpa using hj) (fun y hy=>hs y (List.mem_cons_of_mem _ hy)),show 37*(j+1)=(wn x.1++aA x.2).length+37*j by rw[hx];omega,Iz]
theorem at?_some{p:Bs}:∀ {l:List (Nat × Bs)}{i j:Nat},at? p (l.map (·.2)) i=some j->i<=j/\∃h:j-i<l.length,(l[j-i]).2=p/\∀n,dN N l n p=l.set (j-i) (sPl N (l[j-i]).1 n,p)
 | [],i,j,h=>by cases h
 | (s,q) :: r,i,j,h=>by
  rw[List.map_cons]at h;unfold at? at h;by_cases hq:p=q
  ·rw[if_pos hq]at h;obtain rfl:=Option.some.inj h;refine⟨Nat.le_refl _,by simp,?_,fun n=>?_⟩
   ·simp[hq]
   ·unfold dN;rw[if_pos hq];simp[hq]
  ·rw[if_neg hq]at h;obtain⟨h1,h2,h3,h4⟩:=at?_some h;have e:j-i=(j-(i+1))+1:=by omega
   refine⟨by omega,by simp;omega,?_,fun n=>?_⟩
   ·simp only[e,List.getElem_cons_succ];exact h3
   ·unfold dN;rw[if_neg hq,h4 n];simp only[e,List.getElem_cons_succ,List.set_cons_succ]
theorem GW{n:Nat}{p:Bs}{l:List (Nat × Bs)}{j:Nat}(h:at? p (l.map (·.2)) 0=some j):(dN N l n p).map (·.2)=l.map (·.2)/\(dN N l n p).length=l.length:=by
 obtain⟨-,h2,h3,h4⟩:=at?_some (N:=N) h;rw[h4 n];refine⟨?_,List.length_set ..⟩;rw[List.map_set];apply List.ext_getElem?;intro i;rw[List.getElem?_set];by_cases hi:j-0=i
 ·subst hi;rw[if_pos rfl,if_pos (by rw[List.length_map];exact h2),List.getElem?_map,List.getElem?_eq_getElem h2];exact congrArg some h3.symm
 ·rw[if_neg hi]
theorem Mx.again{w W:World}{m g cap:Nat}{l:List (Nat × Bs)}{p:Bs}{j:Nat}(h:Mx w W m l (.slice (some ⟨g,0,none⟩) l.length cap))(hs:∀x∈l.map (·.2),x.size=33)(hj:at? p (l.map (·.2)) 0=some j)(hl:j<l.length)(n:Nat):
 Mx w (W.setCells g (37*j) (wn (sPl N (l[j]).1 n))) m (dN N l n p) (.slice (some ⟨g,0,none⟩) l.length cap):=by
 have hne:=h.own_ne (g:=g) rfl;obtain⟨e1,e2⟩:=GW (N:=N) (n:=n) hj;refine⟨RG.below_setCells hne.2.1 _ _ _ h.bl,?_,h.lm,?_⟩
 ·rw[RG.cB _ _ _ _ _ (Ne.symm hne.1),e1,e2];exact h.mp
 ·obtain⟨-,h2,h3,h4⟩:=at?_some (N:=N) hj;have e3:dN N l n p=l.set j (sPl N (l[j]).1 n,(l[j]).2):=by rw[h4 n];simp only[Nat.sub_zero]at h3⊢;rw[h3]
  rw[e2,e3,tC _ l j hl hs];exact Fx h.ow (by show 37*j+4<=_;omega)
theorem Bg(O:Ord N)(ns:Nat->Nat)(az:Nat->Bs){k:Nat}(hn:∀j,j<k->ns j<N):∀i,i<=k->∀x∈mrg N ns az i,x.1<N
 | 0,_=>fun x hx=>by cases hx
 | i+1,hi=>by
  have ih:=Bg O ns az hn i (by omega);have h:∀(l:List (Nat × Bs)) n p,n<N->(∀x∈l,x.1<N)->∀x∈dN N l n p,x.1<N:=by
   intro l n p hp;induction l with
   | nil=>intro _ x hx;simp[dN]at hx;rw[hx];exact hp
   | cons y r ihr =>
    intro hl x hx;unfold dN at hx;split at hx
    ·rcases List.mem_cons.1 hx with rfl|hx
     ·exact Nat.mod_lt _ O.pos
     ·exact hl x (List.mem_cons_of_mem _ hx)
    ·rcases List.mem_cons.1 hx with rfl|hx
     ·exact hl _ List.mem_cons_self
     ·exact ihr (fun z hz=>hl z (List.mem_cons_of_mem _ hz)) x hx
  exact h _ _ _ (hn i (by omega)) ih
end
section
open Go.RowKit Go.Sort Go.Deep
variable {N:Nat}
section
variable (w:World) (m g4 cap k6 j s n z:Nat) (l:List (Nat × Bs)) (p:Bs)
def Ra:Nat->Value->World->Prop
 | 0,v,_=>v=.slice (some ⟨g4,0,none⟩) l.length cap
 | 1,v,_=>v=.int .i64 j
 | 2,v,_=>v=.slice (some ⟨g4,0,none⟩) l.length cap
 | 3,v,_=>v=.int .i64 j
 | 4,v,_=>v=.pointer (some ⟨g4,0+37*j,none⟩)
 | 5,v,_=>v=.pointer (some ⟨g4,0+37*j,none⟩)
 | 6,v,_=>v=nv s
 | 7,v,_=>v=.pointer (some ⟨k6,0,none⟩)
 | 8,v,_=>v=nv n
 | 9,v,_=>v=nv z
 | 10,v,_=>v=.pointer (some ⟨g4,0+37*j,none⟩)
 | 11,v,_=>v=.pointer (some ⟨g4,0+37*j,none⟩)
 | _,_,_=>True
theorem Mq{i:Nat}{v:Value}{W W':World}(h:Ra g4 cap k6 j s n z l i v W):Ra g4 cap k6 j s n z l i v W':=by
 match i,h with
 | 0,h=>exact h
 | 1,h=>exact h
 | 2,h=>exact h
 | 3,h=>exact h
 | 4,h=>exact h
 | 5,h=>exact h
 | 6,h=>exact h
 | 7,h=>exact h
 | 8,h=>exact h
 | 9,h=>exact h
 | 10,h=>exact h
 | 11,h=>exact h
 | _+12,_=>trivial
def Ga:RG.Gw:=⟨Ra g4 cap k6 j s n z l,fun W=>Mx w W m l (.slice (some ⟨g4,0,none⟩) l.length cap)/\Row W k6 (wn n++aA p),fun _ _ _ _ _ h=>Mq g4 cap k6 j s n z l h,fun _ _ hb h=>⟨h.1.kept hb,h.2.below hb⟩⟩
end
theorem range_front'{W:World}{k o:Nat}{xs ys:List Value}(h:W.rangeAt k o (xs++ys)):W.rangeAt k o xs:=fun j v hj=>h j v (by rw[List.getElem?_append_left (List.getElem?_eq_some_iff.1 hj).1];exact hj)
theorem Mx.drew{w W:World}{m:Nat}{l:List (Nat × Bs)}{v:Value}(h:Mx w W m l v):Mx w W.drew m l v:=⟨h.bl.drew,h.mp,h.lm,h.ow⟩
theorem FS(O:Ord N)(R:Value->World->Prop)(g k c:Nat)(hk:k<=1000)(ns:Nat->Nat)(az:Nat->Bs)(ha:∀j,j<k->(az j).size=33)(hn:∀j,j<k->ns j<N)(w:World)(hg:g<w.heap.size)(hr:∀j,j<k->w.rangeAt g (37*j) (wn (ns j)++aA (az j)))
 (hdel:∀W v,Mx w W w.heap.size (mrg N ns az k) v->Calls prog 123 #[v,.func (.func 124) #[] #[]] W (Ret R)) :
 Calls prog 86 #[.slice (some ⟨g,0,none⟩) k c] w (Ret R):=by
 have HDEL:=Hid.mk' hdel;clear hdel;have hmm:(Instr.makeMap 173 none).run prog w=.ok (.map (some w.heap.size)) (w.alloc (.map #[] 0)):=by kernel_rfl
 obtain⟨w1,hw1⟩:∃w1,Hid (w.alloc (.map #[] 0)=w1):=⟨_,rfl⟩
 rw[hw1.out]at hmm;have M1:Hid (Mx w w1 w.heap.size (mrg N ns az 0) (.slice none 0 0)):=by
  rw[<-hw1.out];exact⟨aE w _,by show(w.heap.push (.map #[] 0))[w.heap.size]? = _;rw[Array.getElem?_push_size];rfl,Nat.le_refl _,rfl,Or.inl ⟨rfl,rfl⟩⟩
 have HH:Hid (Ord N/\(∀j,j<k->(az j).size=33)/\(∀i,i<k->ns i<N)/\g<w.heap.size/\∀j,j<k->w.rangeAt g (37*j) (wn (ns j)++aA (az j))):=⟨O,ha,hn,hg,hr⟩
 obtain⟨d,hd1,hd2⟩:=Option.map_eq_some_iff.1 uCP;obtain⟨d',hd3,hd4⟩:=Option.map_eq_some_iff.1 uT;have HD:Hid ((prog.underlying 61=some d/\d.isRow=true)/\prog.underlying 138=some d'/\d'.isRow=true):=⟨⟨hd1,hd2⟩,hd3,hd4⟩
 clear hd1 hd2 hd3 hd4 hw1 ha hn hg hr O;go_enter Tryz.func86,Tryz.ntmps86;go_wp2;clear hmm;go_loopg [4,12] k (fun q s4 s12 W=>∃i:Nat,i+q=k/\s12=.int .i64 i/\Hid (Mx w W w.heap.size (mrg N ns az i) s4))
 case atStart=>exact⟨0,by omega,rfl,M1⟩
 case round =>
  clear M1;obtain⟨i,hik,rfl,KM⟩:=hrel;by_cases hi:i<k
  ·have hi':(i:Int)<(k:Int):=by omega
   obtain⟨n,hne⟩:∃n,Hid (ns i=n):=⟨_,rfl⟩
   obtain⟨p,hpe⟩:∃p,Hid (az i=p):=⟨_,rfl⟩
   obtain⟨l,hl⟩:∃l,Hid (mrg N ns az i=l):=⟨_,rfl⟩
   rw[hl.out]at KM;have hps:Hid (p.size=33):=by have:=HH.out.2.1 i hi;rw[hpe.out]at this;exact this
   have hll:Hid (l.length<=i):=by have:=oC (N:=N) ns az i;rw[hl.out]at this;exact this
   obtain⟨q,cap,rfl⟩:=uS KM.out.ow;obtain⟨W1,hW1⟩:∃W1,Hid (wr.alloc (.cells zT.toArray 138)=W1):=⟨_,rfl⟩
   obtain⟨W2,hW2⟩:∃W2,Hid (W1.setCells wr.heap.size 0 (wn n++aA p)=W2):=⟨_,rfl⟩
   have hlen:(wn n++aA p).length=37:=by rw[List.length_append,aC hps.out];rfl
   have F1:Hid (Row W1 wr.heap.size zT/\Below wr.heap.size wr W1/\W1.heap.size=wr.heap.size+1):=by rw[<-hW1.out];exact⟨aG wr _ _,aE wr _,World.size_alloc _ _⟩
   have F2:Hid (Row W2 wr.heap.size (wn n++aA p)/\Below wr.heap.size wr W2/\W2.heap.size=wr.heap.size+1):=by rw[<-hW2.out];exact⟨F1.out.1.put (by rw[hlen];rfl),RG.below_setCells (Nat.le_refl _) _ _ _ F1.out.2.1,by rw[RG.setCells_size];exact F1.out.2.2⟩
   have K2:Hid (Mx w W2 w.heap.size l (.slice q l.length cap)):=KM.out.kept F2.out.2.1;have hsz:∀x∈l.map (·.2),x.size=33:=by have:=kV (N:=N) ns az HH.out.2.1 i (by omega);rw[hl.out]at this;exact this
   cases hat:at? p (l.map (·.2)) 0 with
   | none =>
    have hnone:Hid (at? p (l.map (·.2)) 0=none):=hat;have B1:=Hid.mk' (sK hps.out (l.map (·.2)) hsz w.heap.size l.length W2 K2.out.mp);rw[hnone.out]at B1;have B2:Hid ((Instr.mapUpdate 173 (.map (some w.heap.size)) (.agg (aA p).toArray) (.int .i64 (l.length:Int))).run prog W2=.ok () (W2.putObj w.heap.size (.map (ents (l.map (·.2)++[p]) 0).toArray (l.length+1)))):=by
     have h:=Cd hps.out (l.map (·.2)) hsz w.heap.size W2 (by rw[List.length_map];exact K2.out.mp) hnone.out;rw[List.length_map]at h;exact h
    obtain⟨v',W5,happ,K5,lt5,-⟩:=K2.out.push hps.out (by have:=hll.out;omega) n;obtain⟨W3,hW3⟩:∃W3,Hid (W2.putObj w.heap.size (.map (ents (l.map (·.2)++[p]) 0).toArray (l.length+1))=W3):=⟨_,rfl⟩
    have F3:Hid (Row W3 wr.heap.size (wn n++aA p)/\W3.heap.size=wr.heap.size+1):=by rw[<-hW3.out];exact⟨F2.out.1.putObj K2.out.mp rfl _,by simp[World.putObj];exact F2.out.2.2⟩
    have B3:=Hid.mk' (Mc hps.out n W3);obtain⟨W4,hW4⟩:∃W4,Hid (W3.alloc (.cells (wn n++aA p).toArray 138)=W4):=⟨_,rfl⟩
    rw[hW3.out]at B2 happ;rw[hW4.out]at B3 happ;rw[F3.out.2]at B3;rw[F2.out.2.2]at happ;have K5':Hid (Mx w W5 w.heap.size (mrg N ns az (i+1)) v'):=by
     have e:mrg N ns az (i+1)=l++[(n,p)]:=by
      show dN N (mrg N ns az i) (ns i) (az i)=_;rw[hl.out,hne.out,hpe.out];exact tL hnone.out
     rw[e];exact K5
    have B0:Hid (wr.rangeAt g (37*i) (wn n++aA p)):=by
     have h:=RG.aO (HH.out.2.2.2.2 i hi) KM.out.bl HH.out.2.2.2.1;rw[hne.out,hpe.out]at h;exact h
    have HLT:Hid ((prog.info? 138).map (·.size)=some (wn n++aA p).length):=by show _=_;rw[hlen];exact iT
    have HLS:Hid ((prog.info? 138).map (·.size)=some (wn n++aA p).toArray.size/\W1.there wr.heap.size 0 (wn n++aA p).toArray.size):=by
     have e:(wn n++aA p).toArray.size=37:=by rw[List.size_toArray];exact hlen
     rw[e];exact⟨iT,F1.out.1.2.2⟩
    have HLP:Hid ((prog.info? 61).map (·.size)=some (aA p).length):=by show _=_;rw[aC hps.out];exact aI
    have HB:Hid (W2.rangeAt wr.heap.size 4 (aA p)):=gI (xs:=wn n) F2.out.1.2.1;have HAL:Hid ((wn n++aA p).toArray.all (·.oneCell')=true):=by
     show _=_;rw[Array.all_eq_true'];intro u hu;exact cells_one n p u (List.mem_toArray.1 hu)
    have hix:=atT g 0 k c i hi;have HAP:=Hid.mk' happ;clear happ;obtain⟨vt,hvt⟩:∃v,Hid (Value.agg (wn n++aA p).toArray=v):=⟨_,rfl⟩
    obtain⟨vp,hvp⟩:∃v,Hid (Value.agg (aA p).toArray=v):=⟨_,rfl⟩
    rw[hvp.out]at B1 B2;rw[hvt.out]at B3;clear hlen hsz K5 lt5 hW4 hW3 K2 KM;go_wp2_with (first|(refine wpList_load_mid rfl 138 _ rfl g (37*i) ?_ (wn n++aA p) d' ?_ ?_ ?_ ?_ ?_;rfl;exact B0.out;exact HD.out.2.1;exact HD.out.2.2;exact HLT.out;rw[hvt.out])|(refine aJ (v:=.pointer (some ⟨wr.heap.size,0,none⟩)) (w':=W1) rfl (.alloc 138) rfl ?_ ?_;(rw[<-hW1.out];kernel_rfl))|(refine wpList_store_mid rfl 138 _ _ rfl wr.heap.size 0 (wn n++aA p).toArray ?_ ?_ ?_ ?_ ?_ ?_;rfl;exact hvt.out.symm;exact HLS.out.2;exact HLS.out.1;exact HAL.out;rw[show(wn n++aA p).toArray.toList=wn n++aA p from rfl,hW2.out])|(refine wpList_load_mid rfl 61 _ rfl wr.heap.size 4 ?_ (aA p) d ?_ ?_ ?_ ?_ ?_;rfl;exact HB.out;exact HD.out.1.1;exact HD.out.1.2;exact HLP.out;rw[hvp.out])|(refine oY (x:=.map (some w.heap.size)) (y:=vp) (w':=W2) rfl 173 _ _ true rfl ?_ ?_ B1.out ?_;rfl;rfl)|(refine t6 (x:=.map (some w.heap.size)) (y:=vp) (z:=.int .i64 (l.length:Int)) (w':=W3) rfl 173 _ _ _ rfl ?_ ?_ ?_ B2.out ?_;rfl;rfl;rfl)|(refine wpList_load_mid rfl 138 _ rfl wr.heap.size 0 ?_ (wn n++aA p) d' ?_ ?_ ?_ ?_ ?_;rfl;exact F3.out.1.2.1;exact HD.out.2.1;exact HD.out.2.2;exact HLT.out;rw[hvt.out])|(refine mN (v:=.slice (some ⟨wr.heap.size+1,0,none⟩) 1 1) (w':=W4) rfl 86 1 _ rfl #[(0,vt)] ?_ B3.out ?_;kernel_rfl)|(refine jM (x:=.slice q l.length cap) (y:=.slice (some ⟨wr.heap.size+1,0,none⟩) 1 1) (v:=v') (w':=W5) rfl _ _ 86 rfl ?_ ?_ ?_ ?_;rfl;rfl;exact HAP.out))
    go_roundg (gk-1)
    case measure=>omega
    case rel=>exact⟨i+1,by omega,rfl,K5'⟩
   | some j =>
    obtain⟨-,hjl,hjp,-⟩:=at?_some (N:=N) hat;rw[Nat.sub_zero]at hjl;simp only[Nat.sub_zero]at hjp;have B1:=Hid.mk' (sK hps.out (l.map (·.2)) hsz w.heap.size l.length W2 K2.out.mp);rw[hat]at B1;obtain⟨g4,cap4,he4,-,hg4,hr4⟩:=jG K2.out.ow hsz (by omega);injection he4 with q1 q2 q3
    subst q1;obtain⟨s,hse⟩:∃s,Hid ((l[j]'hjl).1=s):=⟨(l[j]'hjl).1,(rfl:(l[j]'hjl).1=(l[j]'hjl).1)⟩
    have hsN:Hid (s<N):=by
     have:=Bg HH.out.1 ns az HH.out.2.2.1 i (by omega);rw[hl.out]at this;rw[<-hse.out];exact this _ (List.getElem_mem hjl)
    have hnN:Hid (n<N):=by rw[<-hne.out];exact HH.out.2.2.1 i hi
    have B0:Hid (wr.rangeAt g (37*i) (wn n++aA p)):=by
     have h:=RG.aO (HH.out.2.2.2.2 i hi) KM.out.bl HH.out.2.2.2.1;rw[hne.out,hpe.out]at h;exact h
    have HLT:Hid ((prog.info? 138).map (·.size)=some (wn n++aA p).length):=by show _=_;rw[hlen];exact iT
    have HLS:Hid ((prog.info? 138).map (·.size)=some (wn n++aA p).toArray.size/\W1.there wr.heap.size 0 (wn n++aA p).toArray.size):=by
     have e:(wn n++aA p).toArray.size=37:=by rw[List.size_toArray];exact hlen
     rw[e];exact⟨iT,F1.out.1.2.2⟩
    have HLP:Hid ((prog.info? 61).map (·.size)=some (aA p).length):=by show _=_;rw[aC hps.out];exact aI
    have HB:Hid (W2.rangeAt wr.heap.size 4 (aA p)):=gI (xs:=wn n) F2.out.1.2.1;have HAL:Hid ((wn n++aA p).toArray.all (·.oneCell')=true):=by
     show _=_;rw[Array.all_eq_true'];intro u hu;exact cells_one n p u (List.mem_toArray.1 hu)
    have hix:=atT g 0 k c i hi;obtain⟨vt,hvt⟩:∃v,Hid (Value.agg (wn n++aA p).toArray=v):=⟨_,rfl⟩
    obtain⟨vp,hvp⟩:∃v,Hid (Value.agg (aA p).toArray=v):=⟨_,rfl⟩
    rw[hvp.out]at B1;have HL:Hid (j<l.length):=hjl;have HS:Hid (∀h:j<l.length,(l[j]'h).1=s):=fun _=>hse.out
    have HJ:Hid (at? p (l.map (·.2)) 0=some j/\(∀x∈l.map (·.2),x.size=33)):=⟨hat,hsz⟩
    have HK:Hid (Mx w W2 w.heap.size l (.slice (some ⟨g4,0,none⟩) l.length cap)/\Row W2 wr.heap.size (wn n++aA p)):=⟨K2.out,F2.out.1⟩
    have KN:Hid (mrg N ns az (i+1)=dN N l n p):=by
     show dN N (mrg N ns az i) (ns i) (az i)=_;rw[hl.out,hne.out,hpe.out]
    clear hlen hsz K2 KM hjp q2 q3 hr4 hg4;clear hat;go_wp2_with (first|(refine wpList_load_mid rfl 138 _ rfl g (37*i) ?_ (wn n++aA p) d' ?_ ?_ ?_ ?_ ?_;rfl;exact B0.out;exact HD.out.2.1;exact HD.out.2.2;exact HLT.out;rw[hvt.out])|(refine aJ (v:=.pointer (some ⟨wr.heap.size,0,none⟩)) (w':=W1) rfl (.alloc 138) rfl ?_ ?_;(rw[<-hW1.out];kernel_rfl))|(refine wpList_store_mid rfl 138 _ _ rfl wr.heap.size 0 (wn n++aA p).toArray ?_ ?_ ?_ ?_ ?_ ?_;rfl;exact hvt.out.symm;exact HLS.out.2;exact HLS.out.1;exact HAL.out;rw[show(wn n++aA p).toArray.toList=wn n++aA p from rfl,hW2.out])|(refine wpList_load_mid rfl 61 _ rfl wr.heap.size 4 ?_ (aA p) d ?_ ?_ ?_ ?_ ?_;rfl;exact HB.out;exact HD.out.1.1;exact HD.out.1.2;exact HLP.out;rw[hvp.out])|(refine oY (x:=.map (some w.heap.size)) (y:=vp) (w':=W2) rfl 173 _ _ true rfl ?_ ?_ B1.out ?_;rfl;rfl)|fail)
    refine(Ga w w.heap.size g4 cap wr.heap.size j s n (sPl N s n) l p).last 12 (by kernel_rfl) (by kernel_rfl) (by kernel_rfl) ⟨
     RG.aK fun a W hp=>⟨[(4,.slice (some ⟨g4,0,none⟩) l.length cap)],.slice (some ⟨g4,0,none⟩) l.length cap,W,⟨hp.o 4 (by kernel_rfl),trivial⟩,by kernel_rfl,Below.refl _ _,rfl⟩,
     RG.aK fun a W hp=>⟨[(7,.int .i64 j)],.int .i64 j,W,⟨hp.o 7 (by kernel_rfl),trivial⟩,by kernel_rfl,Below.refl _ _,rfl⟩,
     RG.aK fun a W hp=>⟨[(4,.slice (some ⟨g4,0,none⟩) l.length cap)],.slice (some ⟨g4,0,none⟩) l.length cap,W,⟨hp.o 4 (by kernel_rfl),trivial⟩,by kernel_rfl,Below.refl _ _,rfl⟩,
     RG.aK fun a W hp=>⟨[(7,.int .i64 j)],.int .i64 j,W,⟨hp.o 7 (by kernel_rfl),trivial⟩,by kernel_rfl,Below.refl _ _,rfl⟩,
     RG.aK fun a W hp=>⟨[(36,.slice (some ⟨g4,0,none⟩) l.length cap),(37,.int .i64 j)],.pointer (some ⟨g4,0+37*j,none⟩),W,⟨hp.n 2 36 (by kernel_rfl) (by kernel_rfl),hp.n 3 37 (by kernel_rfl) (by kernel_rfl),trivial⟩,by
      rw[Prod.mk.injEq];refine⟨by kernel_rfl,?_⟩;show((Instr.indexAt 86 (.slice (some ⟨g4,0,none⟩) l.length cap) (.int .i64 j)) >>= fun v=>pure (Next.value v)).run prog W=_;rw[Sem.run_bind,atT g4 0 l.length cap j HL.out];rfl,Below.refl _ _,rfl⟩,
     RG.aK fun a W hp=>⟨[(38,.pointer (some ⟨g4,0+37*j,none⟩))],.pointer (some ⟨g4,0+37*j,none⟩),W,⟨hp.n 4 38 (by kernel_rfl) (by kernel_rfl),trivial⟩,by kernel_rfl,Below.refl _ _,rfl⟩,
     RG.bJ 82 39 rfl Go.Proofs.YtgbjainaafdpgaaGreat.u40 fun a W hp=>⟨g4,0+37*j,wn s,hp.n 5 39 (by kernel_rfl) (by kernel_rfl),by
      obtain⟨g5,cap5,he5,-,-,hr5⟩:=jG hp.b.1.ow HJ.out.2 (by have:=HL.out;omega);injection he5 with q1 q2 q3
      injection q1 with q1
      injection q1 with q1
      subst q1;have:=hr5 j HL.out;rw[(HS.out HL.out)]at this;rw[Nat.zero_add];exact range_front' this,i40,rfl⟩,
     RG.aK fun a W hp=>⟨[(6,.pointer (some ⟨wr.heap.size,0,none⟩))],.pointer (some ⟨wr.heap.size,0,none⟩),W,⟨hp.o 6 (by kernel_rfl),trivial⟩,by kernel_rfl,Below.refl _ _,rfl⟩,
     RG.bJ 82 41 rfl Go.Proofs.YtgbjainaafdpgaaGreat.u40 fun a W hp=>⟨wr.heap.size,0,wn n,hp.n 7 41 (by kernel_rfl) (by kernel_rfl),iM hp.b.2.2.1,i40,rfl⟩,
     RG.bG fun a W hp=>⟨[(40,nv s),(42,nv n)],122,#[nv s,nv n],⟨hp.n 6 40 (by kernel_rfl) (by kernel_rfl),hp.n 8 42 (by kernel_rfl) (by kernel_rfl),trivial⟩,by kernel_rfl,(EX HH.out.1 s n hsN.out hnN.out W).mono (by
      rintro e W' ⟨u,rfl,hb,rfl⟩;exact⟨_,rfl,hb,rfl⟩)⟩,
     RG.aK fun a W hp=>⟨[(34,.slice (some ⟨g4,0,none⟩) l.length cap),(35,.int .i64 j)],.pointer (some ⟨g4,0+37*j,none⟩),W,⟨hp.n 0 34 (by kernel_rfl) (by kernel_rfl),hp.n 1 35 (by kernel_rfl) (by kernel_rfl),trivial⟩,by
      rw[Prod.mk.injEq];refine⟨by kernel_rfl,?_⟩;show((Instr.indexAt 86 (.slice (some ⟨g4,0,none⟩) l.length cap) (.int .i64 j)) >>= fun v=>pure (Next.value v)).run prog W=_;rw[Sem.run_bind,atT g4 0 l.length cap j HL.out];rfl,Below.refl _ _,rfl⟩,
     RG.aK fun a W hp=>⟨[(44,.pointer (some ⟨g4,0+37*j,none⟩))],.pointer (some ⟨g4,0+37*j,none⟩),W,⟨hp.n 10 44 (by kernel_rfl) (by kernel_rfl),trivial⟩,by kernel_rfl,Below.refl _ _,rfl⟩,trivial⟩ ⟨HK.out.1.drew,HK.out.2⟩ ?_
    intro V W3 hR3 hB3;have hV9:V 9=nv (sPl N s n):=hR3 9 (by decide);have hV11:V 11=.pointer (some ⟨g4,0+37*j,none⟩):=hR3 11 (by decide);obtain⟨W4,hW4⟩:∃W4,Hid (W3.setCells g4 (37*j) (wn (sPl N s n))=W4):=⟨_,rfl⟩
    have K4:Hid (Mx w W4 w.heap.size (mrg N ns az (i+1)) (.slice (some ⟨g4,0,none⟩) l.length cap)):=by
     rw[<-hW4.out,KN.out,<-(HS.out HL.out)];exact hB3.1.again HJ.out.2 HJ.out.1 HL.out n
    have HTH:Hid (W3.there g4 (37*j) 4):=by
     intro t ht;have hj:=HL.out;rcases hB3.1.ow.2 with⟨h,-⟩|⟨g2,cap2,cur,he,-,hc,hn,-,hs,-⟩
     ·cases h
     ·injection he with he1 he2 he3
      injection he1 with he1
      injection he1 with he1
      subst he1;have hlt:37*j+t<cur.size:=by
       rw[hs];have:(j+1)*37<=cap2*37:=Nat.mul_le_mul_right 37 (by omega);omega
      refine⟨?_,?_⟩
      ·simp[World.cell?,hc,hlt]
      ·simp[World.frozen?,hc]
    clear hR3 hB3;dsimp only[RG.eK,Nat.reduceAdd,List.take,List.drop];simp only[Act.put,List.setIfInBounds_toArray,List.set_cons_succ,List.set_cons_zero];obtain⟨vz,hvz⟩:∃v,Hid (nv (sPl N s n)=v):=⟨_,rfl⟩
    rw[hV9,hV11,hvz.out,Nat.zero_add];clear hV9 hV11;generalize V 0=s0;generalize V 1=s1;generalize V 2=s2;generalize V 3=s3;generalize V 4=s4;generalize V 5=s5;generalize V 6=s6;generalize V 7=s7;generalize V 8=s8;generalize V 10=s10;go_wp2_with (first|(refine wpList_store_mid rfl 82 _ _ rfl g4 (37*j) (wn (sPl N s n)).toArray ?_ ?_ ?_ ?_ ?_ ?_;rfl;exact hvz.out.symm;exact HTH.out;exact i40;exact dI (sPl N s n);rw[show(wn (sPl N s n)).toArray.toList=wn (sPl N s n) from rfl,hW4.out])|fail)
    go_roundg (gk-1)
    case measure=>omega
    case rel=>exact⟨i+1,by omega,rfl,K4⟩
  ·have hi':¬(i:Int)<(k:Int):=by omega
   obtain rfl:i=k:=by omega
   go_wp2_with fail
   refine(HDEL.out wr _ KM.out).mono ?_;rintro e w9 ⟨vv,rfl,hR9⟩;have HR9:=Hid.mk' hR9;clear hR9 HDEL;go_wp2;go_ret;exact⟨_,rfl,HR9.out⟩
end
section
open Go.RowKit Go.Sort Go.Deep
variable {P:Nat}[NeZero P]{N:Nat}
def LF(l:List (Nat × Bs)):List (Nat × Bs):=l.filter fun x=>x.1 != 0
theorem mA{l:List (Nat × Bs)}{j:Nat}(hj:j<l.length):LF (l.take (j+1))=LF (l.take j)++(if (l[j]).1=0 then [] else [l[j]]):=by
 unfold LF;rw[List.take_add_one,List.getElem?_eq_getElem hj,List.filter_append]
 congr 1
 by_cases h:(l[j]).1=0
 ·simp[h]
 ·simp[h]
theorem Kt(l:List (Nat × Bs))(j:Nat):(LF (l.take j)).length<=j:=
 Nat.le_trans (List.length_filter_le _ _) (by rw[List.length_take];exact Nat.min_le_left _ _)
theorem xN{l:List (Nat × Bs)}{x:Nat × Bs}(h:x∈LF l):x∈l:=(List.mem_filter.1 h).1
theorem qE{ns:Nat->Nat}:∀(m i:Nat),(∃j,i<=j/\j<i+m/\ns j=0)->∃i0,gV ns i m=((i0:Nat):Int)/\i<=i0/\i0<i+m/\ns i0=0/\∀j,i<=j->j<i0->ns j≠0
 | 0,i,h=>by obtain⟨j,h1,h2,-⟩:=h;omega
 | m+1,i,h=>by
  unfold gV;by_cases h0:ns i=0
  ·rw[if_pos h0];exact⟨i,rfl,Nat.le_refl _,by omega,h0,fun j h1 h2=>by omega⟩
  ·rw[if_neg h0];obtain⟨j,h1,h2,h3⟩:=h;obtain⟨i0,e1,e2,e3,e4,e5⟩:=qE m (i+1) ⟨j,by
    rcases Nat.lt_or_ge i j with h|h
    ·omega
    ·obtain rfl:j=i:=by omega
     exact absurd h3 h0,by omega,h3⟩
   refine⟨i0,e1,by omega,by omega,e4,fun j' h1' h2'=>?_⟩;rcases Nat.lt_or_ge i j' with h|h
   ·exact e5 j' h h2'
   ·obtain rfl:j'=i:=by omega
    exact h0
def Rw(W:World)(g j:Nat)(x:Nat × Bs):Prop:=W.rangeAt g (37*j) (wn x.1++aA x.2)
theorem Rw.below{W W':World}{g j:Nat}{x:Nat × Bs}(h:Rw W g j x)(hb:Below W.heap.size W W')(hg:g<W.heap.size):Rw W' g j x:=RG.aO h hb hg
structure Dz(base:Nat)(w W:World)(g:Nat)(l:List (Nat × Bs))(j:Nat):Prop where
 bl:Below base w W
 hb:base<=W.heap.size
 lt:g<W.heap.size
 th:W.there g 0 (37*l.length)
 lo:∀a (ha:a<(LF (l.take j)).length),Rw W g a ((LF (l.take j))[a])
 hi:∀b (hb:b<l.length),j<=b->Rw W g b (l[b])
theorem Dz.grow{base:Nat}{w W W':World}{g:Nat}{l:List (Nat × Bs)}{j:Nat}(h:Dz base w W g l j)(hb:Below W.heap.size W W'):Dz base w W' g l j:=
 ⟨h.bl.trans (hb.mono h.hb),Nat.le_trans h.hb hb.size,Nat.lt_of_lt_of_le h.lt hb.size,RG.dV h.th hb h.lt,fun a ha=>(h.lo a ha).below hb h.lt,fun b hb' hj=>(h.hi b hb' hj).below hb h.lt⟩
theorem Dz.skip{base:Nat}{w W:World}{g:Nat}{l:List (Nat × Bs)}{j:Nat}(h:Dz base w W g l j)(hj:j<l.length)(h0:(l[j]).1=0):Dz base w W g l (j+1):=by
 have e:LF (l.take (j+1))=LF (l.take j):=by rw[mA hj,if_pos h0,List.append_nil]
 exact⟨h.bl,h.hb,h.lt,h.th,fun a ha=>by
  have h1:=h.lo a (by rw[<-e];exact ha);simp only[e];exact h1,fun b hb hj=>h.hi b hb (by omega)⟩
theorem Dz.put{base:Nat}{w W:World}{g:Nat}{l:List (Nat × Bs)}{j:Nat}(h:Dz base w W g l j)(hg:base<=g)(hs:∀x∈l.map (·.2),x.size=33)(hj:j<l.length)(h0:(l[j]).1≠0):
 Dz base w (W.setCells g (37*(LF (l.take j)).length) (wn (l[j]).1++aA (l[j]).2)) g l (j+1):=by
 have e:LF (l.take (j+1))=LF (l.take j)++[l[j]]:=by rw[mA hj,if_neg h0]
 have hle:=Kt l j;have hsz:∀x∈l,(wn x.1++aA x.2).length=37:=fun x hx=>eW (hs x.2 (List.mem_map.2 ⟨x,hx,rfl⟩))
 have hlen:=hsz (l[j]) (List.getElem_mem hj);refine⟨RG.below_setCells hg _ _ _ h.bl,by rw[RG.setCells_size];exact h.hb,by rw[RG.setCells_size];exact h.lt,World.there_setCells h.th _ _ _,fun a ha=>?_,fun b hb hjb=>?_⟩
 ·simp only[e]at ha⊢;by_cases hlt:a<(LF (l.take j)).length
  ·rw[List.getElem_append_left hlt];have h1:=h.lo a hlt;have hm:(LF (l.take j))[a]∈l:=List.mem_of_mem_take (xN (List.getElem_mem hlt));exact World.rangeAt_setCells_apart h1 g _ _ (Or.inr (Or.inl (by rw[hsz _ hm];omega)))
  ·have ha2:a=(LF (l.take j)).length:=by rw[List.length_append,List.length_singleton]at ha;omega
   subst ha2;rw[List.getElem_append_right (Nat.le_refl _)];simp only[Nat.sub_self,List.getElem_singleton];refine World.rangeAt_setCells_same W g _ _ fun t ht=>?_
   rw[hlen]at ht;have:=h.th (37*(LF (l.take j)).length+t) (by omega);rwa[Nat.zero_add]at this
 ·exact World.rangeAt_setCells_apart (h.hi b hb (by omega)) g _ _ (Or.inr (Or.inr (by rw[hlen];omega)))
theorem Eu(n:Nat):∀v∈(Builtin.zeroCells (Value.agg zT.toArray).cells n).toList,v.oneCell'=true:=by
 intro v hv;have hz:=Ex;have hl:(Value.agg zT.toArray).cells.size=37:=by kernel_rfl
 unfold Builtin.zeroCells at hv;rw[Array.toList_map]at hv;obtain⟨i,-,rfl⟩:=List.mem_map.1 hv;have hi:i%(Value.agg zT.toArray).cells.size<(Value.agg zT.toArray).cells.size:=Nat.mod_lt _ (by rw[hl];decide);rw[getElem!_pos (Value.agg zT.toArray).cells _ hi];exact hz _ (by
  have e:(Value.agg zT.toArray).cells.toList=zT:=by kernel_rfl
  have h2:=Array.getElem_mem_toList hi;rwa[e]at h2)
theorem Jr(g i n c:Nat)(w:World)(hn:0<n)(h:w.there g 0 (37*(i+n))):∃Z:List Value,∀ty,(Builtin.clear_ #[86] ty #[.slice (some ⟨g,37*i,none⟩) n c]).run prog w=.ok (.tuple #[]) (w.setCells g (37*i) Z):=by
 have h1:=Ev w;have h3:=run_underlying Dt w;have ho:=Eu n;have hl:(Builtin.zeroCells (Value.agg zT.toArray).cells n).toList.length=n*37:=by
  have:(Value.agg zT.toArray).cells.size=37:=by kernel_rfl
  rw[Array.length_toList,size_zeroCells,this]
 generalize (Value.agg zT.toArray)=Zv at h1 ho hl;generalize hZ:(Builtin.zeroCells Zv.cells n).toList=Z at ho hl;have h4:(storeCells ⟨g,37*i,none⟩ Z).run prog w=.ok () (w.setCells g (37*i) Z):=
  run_storeCells_cells (P:=prog) g (37*i) Z 0 w (fun j hj=>by rw[hl]at hj;have:=(h (37*i+j) (by omega)).1;simpa using this) (fun j hj=>by rw[hl]at hj;have:=(h (37*i+j) (by omega)).2;simpa using this) ho
 refine⟨Z,fun ty=>?_⟩;obtain⟨n',rfl⟩:∃n',n=n'+1:=⟨n-1,by omega⟩
 unfold Builtin.clear_;simp[Sem.run_bind,h3,h1,hZ,h4]
theorem Od(g n c i:Nat)(hi:i<=n)(hn:n<=c)(w:World):(Instr.sliceAt 86 (.slice (some ⟨g,0,none⟩) n c) none (some (.int .i64 i)) none).run prog w=.ok (.slice (some ⟨g,0,none⟩) i c) w:=by
 have h1:¬(i:Int)<0:=by omega
 have h2:(i:Int)<=(c:Int):=by omega
 go_simp
theorem Oc(g n c i:Nat)(hi:i<n)(hn:n<=c)(w:World):(Instr.sliceAt 86 (.slice (some ⟨g,0,none⟩) n c) (some (.int .i64 i)) none none).run prog w=.ok (.slice (some ⟨g,37*i,none⟩) (n-i) (c-i)) w:=by
 have h1:¬(i:Int)<0:=by omega
 have h2:(i:Int)<=(n:Int):=by omega
 have h3:(n:Int)<=(c:Int):=by omega
 go_simp;rw[if_neg (by omega),Nat.mul_comm]
def TmL(W:World)(q:Option Addr)(l:List (Nat × Bs)):Prop:=0<l.length->∃g,q=some ⟨g,0,none⟩/\g<W.heap.size/\∀j (hj:j<l.length),W.rangeAt g (37*j) (wn (l[j]).1++aA (l[j]).2)
def O4(base:Nat)(l:List (Nat × Bs))(w:World)(e:Value)(w':World):Prop:=Below base w w'/\∃q cap,e=.slice q (LF l).length cap/\TmL w' q (LF l)
theorem Dn{l:List (Nat × Bs)}(h:∀x∈l,x.1≠0):LF l=l:=List.filter_eq_self.2 fun x hx=>by simpa using h x hx
theorem Ks{l:List (Nat × Bs)}{i0:Nat}(hi:i0<l.length)(h0:(l[i0]).1=0):∀j,i0<j->j<=l.length->(LF (l.take j)).length<j
 | 0,h,_=>by omega
 | j+1,h,hj=>by
  rw[mA (by omega),List.length_append];rcases Nat.lt_or_ge i0 j with h1|h1
  ·have:=Ks hi h0 j h1 (by omega);split<;>simp<;>omega
  ·obtain rfl:j=i0:=by omega
   rw[if_pos h0];have:=Kt l j;simp;omega
theorem Gp(l:List (Nat × Bs))(hl0:0<l.length)(hlk:l.length<=1000)(hs:∀x∈l.map (·.2),x.size=33)(hn:∀x∈l,x.1<top)(base:Nat)(v:Value)(w:World)(hb:base<=w.heap.size)(ho:w.ownsRow base 138 37 v l.length (aV l)):
 Calls prog 123 #[v,.func (.func 124) #[] #[]] w (Ret (O4 base l w)):=by
 obtain⟨g,c,rfl,hg1,hg2,hr⟩:=jG ho hs hl0;have hsz:∀(j:Nat) (hj:j<l.length),(l[j]).2.size=33:=fun j hj=>hs _ (List.mem_map.2 ⟨_,List.getElem_mem hj,rfl⟩)
 have hcap:l.length<=c/\w.there g 0 (37*l.length):=by
  rcases ho.2 with⟨h,-⟩|⟨g2,cap2,cur,he,-,hc,hn',-,hs',-⟩
  ·cases h
  ·injection he with he1 he2 he3
   injection he1 with he1
   injection he1 with he1
   subst he1;subst he3;refine⟨hn',fun t ht=>?_⟩;have hlt:0+t<cur.size:=by
    rw[hs'];have:l.length*37<=c*37:=Nat.mul_le_mul_right 37 hn';omega
   exact⟨by simp only[World.cell?,hc];simp;omega,by simp[World.frozen?,hc]⟩
 by_cases hall:∀x∈l,x.1≠0
 ·have eL:=Dn hall;refine(qG g l.length c (by omega) (fun j=>((l[j]?).getD (0,#[])).1) (fun j=>((l[j]?).getD (0,#[])).2) (fun j hj=>by rw[List.getElem?_eq_getElem hj];exact hn _ (List.getElem_mem hj)) (fun j hj=>by rw[List.getElem?_eq_getElem hj];exact hall _ (List.getElem_mem hj)) (fun j hj=>by rw[List.getElem?_eq_getElem hj];exact hsz j hj) w hg2 (fun j hj=>by rw[List.getElem?_eq_getElem hj];exact hr j hj)).mono ?_;rintro e w9 ⟨vv,rfl,hb9,rfl⟩;refine⟨_,rfl,hb9.mono hb,some ⟨g,0,none⟩,c,by rw[eL],?_⟩;rw[eL];exact fun _=>⟨g,rfl,Nat.lt_of_lt_of_le hg2 hb9.size,fun j hj=>RG.aO (hr j hj) hb9 hg2⟩
 ·have hI:=wS g l.length c (by omega) (fun j=>((l[j]?).getD (0,#[])).1) (fun j=>((l[j]?).getD (0,#[])).2) (fun j hj=>by rw[List.getElem?_eq_getElem hj];exact hn _ (List.getElem_mem hj)) (fun j hj=>by rw[List.getElem?_eq_getElem hj];exact hsz j hj) w hg2 (fun j hj=>by rw[List.getElem?_eq_getElem hj];exact hr j hj);obtain⟨i0,e1,-,e3,e4,e5⟩:=qE (ns:=fun j=>((l[j]?).getD (0,#[])).1) l.length 0 (by
   have:∃x,x∈l/\x.1=0:=Classical.byContradiction fun h=>hall fun x hx h0=>h ⟨x,hx,h0⟩
   obtain⟨x,hx,hx0⟩:=this;obtain⟨j,hj⟩:=List.getElem?_of_mem hx;exact⟨j,Nat.zero_le _,by have:=(List.getElem?_eq_some_iff.1 hj).1;omega,by show((l[j]?).getD (0,#[])).1=0;rw[hj];exact hx0⟩)
  rw[e1]at hI;have hi0:i0<l.length:=by omega
  have hz0:(l[i0]).1=0:=by
   have:((l[i0]?).getD (0,#[])).1=0:=e4;rw[List.getElem?_eq_getElem hi0]at this;exact this
  have hpre:LF (l.take i0)=l.take i0:=Dn fun x hx=>by
   obtain⟨j,hj⟩:=List.getElem?_of_mem hx;rw[List.getElem?_take]at hj;split at hj
   ·rename_i hji
    have:=e5 j (Nat.zero_le _) hji;have h6:((l[j]?).getD (0,#[])).1≠0:=this;rw[hj]at h6;exact h6
   ·cases hj
  have hlen0:(LF (l.take i0)).length=i0:=by rw[hpre,List.length_take];omega
  have D0:Dz base w w g l i0:=⟨Below.refl _ _,hb,hg2,hcap.2,fun a ha=>by
   simp only[hpre]at ha⊢;rw[List.getElem_take];exact hr a _,fun b hb' _=>hr b hb'⟩
  have D1:Dz base w w g l (i0+1):=D0.skip hi0 hz0;have e6:(LF (l.take (i0+1))).length=i0:=by rw[mA hi0,if_pos hz0,List.append_nil];exact hlen0
  have HI:=Hid.mk' hI;have HZ:Hid (∀j,i0<j->j<=l.length->(LF (l.take j)).length<j):=Ks hi0 hz0;have HD1:=Hid.mk' D1;have HF:Hid (base<=g/\l.length<=c/\(∀x∈l.map (·.2),x.size=33)/\(∀x∈l,x.1<top)/\∀(j:Nat) (hj:j<l.length),(l[j]).2.size=33):=⟨hg1,hcap.1,hs,hn,hsz⟩
  obtain⟨d',hd3,hd4⟩:=Option.map_eq_some_iff.1 uT;have HD:Hid (prog.underlying 138=some d'/\d'.isRow=true):=⟨hd3,hd4⟩
  have hi1:¬((i0:Int) = -1):=by omega
  clear hd3 hd4 hI D0 D1 hs hn ho hr hsz hcap hall e1 e4 e5 hpre hlen0 hz0 hg1 hg2;go_enter Tryz.func123,Tryz.ntmps123;go_wp2_with fail
  refine HI.out.mono ?_;rintro e w1 ⟨vv,rfl,hb1,rfl⟩;have K1:Hid (Dz base w w1 g l (i0+1)):=HD1.out.grow hb1;clear hb1 HI HD1;go_wp2_with fail
  go_loopg [5,6] (l.length-(i0+1)) (fun m s5 s6 W=>∃j:Nat,i0<j/\j+m=l.length/\s6=.int .i64 j/\s5=.int .i64 ((LF (l.take j)).length:Int)/\Hid (Dz base w W g l j))
  case atStart=>exact⟨i0+1,by omega,by omega,rfl,by rw[e6],K1⟩
  case round =>
   clear K1;obtain⟨j,hij,hjk,rfl,rfl,KM⟩:=hrel;by_cases hj:j<l.length
   ·have hj':(j:Int)<(l.length:Int):=by omega
    obtain⟨n,hne⟩:∃n,Hid ((l[j]'hj).1=n):=⟨(l[j]'hj).1,(rfl:(l[j]'hj).1=(l[j]'hj).1)⟩
    obtain⟨p,hpe⟩:∃p,Hid ((l[j]'hj).2=p):=⟨(l[j]'hj).2,(rfl:(l[j]'hj).2=(l[j]'hj).2)⟩
    obtain⟨i,hie⟩:∃i,Hid ((LF (l.take j)).length=i):=⟨_,rfl⟩
    have hilt:i<l.length:=by have:=HZ.out j hij (by omega);rw[hie.out]at this;omega
    rw[hie.out];have hps:Hid (p.size=33):=by rw[<-hpe.out];exact HF.out.2.2.2.2 j hj
    have hnt:Hid (n<top):=by rw[<-hne.out];exact HF.out.2.2.2.1 _ (List.getElem_mem hj)
    have B0:Hid (wr.rangeAt g (37*j) (wn n++aA p)):=by
     have h:=KM.out.hi j hj (Nat.le_refl _);unfold Rw at h;rw[hne.out,hpe.out]at h;exact h
    obtain⟨W1,hW1⟩:∃W1,Hid (wr.alloc (.cells zT.toArray 138)=W1):=⟨_,rfl⟩
    obtain⟨W2,hW2⟩:∃W2,Hid (W1.setCells wr.heap.size 0 (wn n++aA p)=W2):=⟨_,rfl⟩
    have hlen:(wn n++aA p).length=37:=eW hps.out;have F1:Hid (Row W1 wr.heap.size zT/\Below wr.heap.size wr W1/\W1.heap.size=wr.heap.size+1):=by rw[<-hW1.out];exact⟨aG wr _ _,aE wr _,World.size_alloc _ _⟩
    have F2:Hid (Row W2 wr.heap.size (wn n++aA p)/\Below wr.heap.size wr W2):=by rw[<-hW2.out];exact⟨F1.out.1.put (by rw[hlen];rfl),RG.below_setCells (Nat.le_refl _) _ _ _ F1.out.2.1⟩
    have HLT:Hid ((prog.info? 138).map (·.size)=some (wn n++aA p).length):=by show _=_;rw[hlen];exact iT
    have HLS:Hid ((prog.info? 138).map (·.size)=some (wn n++aA p).toArray.size/\W1.there wr.heap.size 0 (wn n++aA p).toArray.size):=by
     have e:(wn n++aA p).toArray.size=37:=by rw[List.size_toArray];exact hlen
     rw[e];exact⟨iT,F1.out.1.2.2⟩
    have HAL:Hid ((wn n++aA p).toArray.all (·.oneCell')=true):=by
     show _=_;rw[Array.all_eq_true'];intro u hu;exact cells_one n p u (List.mem_toArray.1 hu)
    have hix:=atT g 0 l.length c j hj;obtain⟨vt,hvt⟩:∃v,Hid (tvl n p=v):=⟨_,rfl⟩
    have hvt':Hid (Value.agg (wn n++aA p).toArray=vt):=hvt;have K2:Hid (Dz base w W2 g l j):=KM.out.grow F2.out.2;have HN:=Hid.mk' (FK hnt.out hps.out W2);rw[hvt.out]at HN;clear KM;go_wp2_with (first|(refine wpList_load_mid rfl 138 _ rfl g (37*j) ?_ (wn n++aA p) d' ?_ ?_ ?_ ?_ ?_;rfl;exact B0.out;exact HD.out.1;exact HD.out.2;exact HLT.out;rw[hvt'.out])|(refine aJ (v:=.pointer (some ⟨wr.heap.size,0,none⟩)) (w':=W1) rfl (.alloc 138) rfl ?_ ?_;(rw[<-hW1.out];kernel_rfl))|(refine wpList_store_mid rfl 138 _ _ rfl wr.heap.size 0 (wn n++aA p).toArray ?_ ?_ ?_ ?_ ?_ ?_;rfl;exact hvt'.out.symm;exact HLS.out.2;exact HLS.out.1;exact HAL.out;rw[show(wn n++aA p).toArray.toList=wn n++aA p from rfl,hW2.out])|(refine wpList_load_mid rfl 138 _ rfl wr.heap.size 0 ?_ (wn n++aA p) d' ?_ ?_ ?_ ?_ ?_;rfl;exact F2.out.1.2.1;exact HD.out.1;exact HD.out.2;exact HLT.out;rw[hvt'.out])|fail)
    refine HN.out.mono ?_;rintro e W3 ⟨vv,rfl,hb3,rfl⟩;have K3:Hid (Dz base w W3 g l j/\Row W3 wr.heap.size (wn n++aA p)):=⟨K2.out.grow hb3,F2.out.1.below hb3⟩
    clear hb3 K2 HN F2 F1;by_cases h0:n=0
    ·rw[show decide (n=0)=true by simp[h0]];have K4:Hid (Dz base w W3 g l (j+1)):=K3.out.1.skip hj (by rw[hne.out];exact h0);have e4:Hid ((LF (l.take (j+1))).length=i):=by
      show _=_;rw[mA hj,if_pos (by rw[hne.out];exact h0),List.append_nil];exact hie.out
     go_wp2;go_roundg (gk-1)
     case measure=>omega
     case rel=>exact⟨j+1,by omega,by omega,rfl,by rw[e4.out],K4⟩
    ·rw[show decide (n=0)=false by simp[h0]];obtain⟨W4,hW4⟩:∃W4,Hid (W3.setCells g (37*i) (wn n++aA p)=W4):=⟨_,rfl⟩
     have K4:Hid (Dz base w W4 g l (j+1)):=by
      have h:=K3.out.1.put HF.out.1 HF.out.2.2.1 hj (by rw[hne.out];exact h0);rw[hie.out,hne.out,hpe.out,hW4.out]at h;exact h
     have e4:Hid ((LF (l.take (j+1))).length=i+1):=by
      show _=_;rw[mA hj,if_neg (by rw[hne.out];exact h0),List.length_append,hie.out];rfl
     have HTH:Hid (W3.there g (37*i) (wn n++aA p).toArray.size):=by
      have e:(wn n++aA p).toArray.size=37:=by rw[List.size_toArray];exact hlen
      rw[e];intro t ht;have:=K3.out.1.th (37*i+t) (by omega);rwa[Nat.zero_add]at this
     have hix2:=atT g 0 l.length c i hilt;go_wp2_with (first|(refine wpList_load_mid rfl 138 _ rfl wr.heap.size 0 ?_ (wn n++aA p) d' ?_ ?_ ?_ ?_ ?_;rfl;exact K3.out.2.2.1;exact HD.out.1;exact HD.out.2;exact HLT.out;rw[hvt'.out])|(refine wpList_store_mid rfl 138 _ _ rfl g (37*i) (wn n++aA p).toArray ?_ ?_ ?_ ?_ ?_ ?_;rfl;exact hvt'.out.symm;exact HTH.out;exact HLS.out.1;exact HAL.out;rw[show(wn n++aA p).toArray.toList=wn n++aA p from rfl,hW4.out])|fail)
     go_roundg (gk-1)
     case measure=>omega
     case rel=>exact⟨j+1,by omega,by omega,rfl,by rw[e4.out];rfl,K4⟩
   ·have hj':¬(j:Int)<(l.length:Int):=by omega
    obtain rfl:j=l.length:=by omega
    have eL:LF (l.take l.length)=LF l:=by rw[List.take_length]
    rw[eL];have hilt:(LF l).length<l.length:=by have:=HZ.out l.length hij (Nat.le_refl _);rw[eL]at this;exact this
    have hlo:∀a (ha:a<(LF l).length),Rw wr g a ((LF l)[a]):=fun a ha=>by
     have:=KM.out.lo a (by rw[eL];exact ha);simp only[eL]at this;exact this
    have hszL:∀x∈LF l,(wn x.1++aA x.2).length=37:=fun x hx=>eW (HF.out.2.2.1 _ (List.mem_map.2 ⟨x,xN hx,rfl⟩))
    obtain⟨Z,hZ⟩:=Jr g (LF l).length (l.length-(LF l).length) (c-(LF l).length) wr (by omega) (by rw[show(LF l).length+(l.length-(LF l).length)=l.length by omega];exact KM.out.th);obtain⟨W5,hW5⟩:∃W5,Hid (wr.setCells g (37*(LF l).length) Z=W5):=⟨_,rfl⟩
    rw[hW5.out]at hZ;have K5:Hid (Below base w W5/\TmL W5 (some ⟨g,0,none⟩) (LF l)):=by
     rw[<-hW5.out];refine⟨RG.below_setCells HF.out.1 _ _ _ KM.out.bl,fun _=>⟨g,rfl,by rw[RG.setCells_size];exact KM.out.lt,fun a ha=>?_⟩⟩;exact World.rangeAt_setCells_apart (hlo a ha) g _ _ (Or.inr (Or.inl (by rw[hszL _ (List.getElem_mem ha)];omega)))
    have hs1:=Oc g l.length c (LF l).length hilt HF.out.2.1;have hs2:=Od g l.length c (LF l).length (by omega) HF.out.2.1;clear KM hlo hszL eL hW5;obtain⟨i,hie⟩:∃i,Hid ((LF l).length=i):=⟨_,rfl⟩
    rw[hie.out]at hs1 hs2 hZ hilt⊢;go_wp2;go_ret;exact⟨_,rfl,K5.out.1,some ⟨g,0,none⟩,c,by rw[hie.out];rfl,K5.out.2⟩
end
namespace EC
variable {P:Nat}[NeZero P]
def pts(P:Nat)[NeZero P]:List (Pt P):=
 none :: (List.finRange P).flatMap fun x=>((List.finRange P).filter fun y=>decide (y^2=x^3+7)).map fun y=>some (x,y)
theorem jV(a:Pt P):a∈pts P↔On a:=by
 unfold pts;rcases a with _|⟨x,y⟩
 ·exact⟨fun _=>trivial,fun _=>List.mem_cons_self⟩
 ·rw[List.mem_cons,List.mem_flatMap];constructor
  ·rintro(h|⟨u,-,h⟩)
   ·cases h
   ·obtain⟨v,hv,e⟩:=List.mem_map.1 h;cases e
    have h2:=(List.mem_filter.1 hv).2;exact(decide_eq_true_iff (p:=y^2=x^3+7)).1 h2
  ·intro h;have h:y^2=x^3+7:=h;exact Or.inr ⟨x,List.mem_finRange x,List.mem_map.2 ⟨y,List.mem_filter.2 ⟨List.mem_finRange y,decide_eq_true h⟩,rfl⟩⟩
theorem uW:(pts P).Nodup:=by
 unfold pts;refine List.nodup_cons.2 ⟨fun h=>?_,?_⟩
 ·obtain⟨u,-,h⟩:=List.mem_flatMap.1 h;obtain⟨v,-,e⟩:=List.mem_map.1 h;cases e
 ·refine List.pairwise_flatMap.2 ⟨fun x _=>List.pairwise_map.2 ?_,?_⟩
  ·refine List.Pairwise.imp ?_ ((List.nodup_finRange P).sublist List.filter_sublist);intro a b h e;exact h (by cases e;rfl)
  ·refine List.Pairwise.imp ?_ (List.nodup_finRange P);intro a b h u hu v hv e;obtain⟨c,-,rfl⟩:=List.mem_map.1 hu;obtain⟨d,-,rfl⟩:=List.mem_map.1 hv;exact h (by cases e;rfl)
theorem Ig{u v c:Fin P}(hu:u^2=c)(hv:v^2=c):(u-v)*(u+v)=0:=by grobner
theorem I5{a b d:Fin P}(e1:a+b=0)(e2:a+d=0):b=d:=by grobner
theorem Du(C:Cur P){c:Fin P}:∀l:List (Fin P),l.Nodup->(∀y,y∈l->y^2=c)->l.length<=2
 | [],_,_=>Nat.zero_le _
 | [_],_,_=>Nat.le_succ _
 | [_,_],_,_=>Nat.le_refl _
 | a :: b :: d :: l,hn,h=>by
  exfalso;have ha:a^2=c:=h a (by simp);have hb:b^2=c:=h b (by simp);have hd:d^2=c:=h d (by simp);have n1:a≠b:=fun e=>(List.nodup_cons.1 hn).1 (by rw[e];simp)
  have n2:a≠d:=fun e=>(List.nodup_cons.1 hn).1 (by rw[e];simp)
  have n3:b≠d:=fun e=>(List.nodup_cons.1 (List.nodup_cons.1 hn).2).1 (by rw[e];simp)
  have f:∀u v:Fin P,u^2=c->v^2=c->u≠v->u+v=0:=fun u v hu hv hn=>by
   exact Classical.byContradiction fun hs=>mul_ne C.pr (kG hn) hs (Ig hu hv)
  have e1:=f a b ha hb n1;have e2:=f a d ha hd n2;exact n3 (I5 e1 e2)
theorem zP{α β:Type}(f:α->List β)(k:Nat)(h:∀a,(f a).length<=k):∀l:List α,(l.flatMap f).length<=k*l.length
 | []=>Nat.zero_le _
 | a :: l=>by
  rw[List.flatMap_cons,List.length_append,List.length_cons,Nat.mul_succ,Nat.add_comm];exact Nat.add_le_add (zP f k h l) (h a)
theorem Jf(C:Cur P):(pts P).length<=2*P+1:=by
 unfold pts;rw[List.length_cons];refine Nat.succ_le_succ (Nat.le_trans (zP _ 2 (fun x=>?_) _) (by rw[List.length_finRange];exact Nat.le_refl _));rw[List.length_map];exact Du C (c:=x^3+7) _ ((List.nodup_finRange P).sublist List.filter_sublist) fun y hy=>of_decide_eq_true (List.mem_filter.1 hy).2
theorem IM:0<(pts P).length:=Nat.succ_pos _
def qO:List (Pt P)->Pt P
 | []=>none
 | a :: l=>add a (qO l)
theorem qU(C:Cur P):∀l:List (Pt P),(∀a,a∈l->On a)->On (qO l)
 | [],_=>eX
 | a :: l,h=>C.on (h a List.mem_cons_self) (qU C l fun b hb=>h b (List.mem_cons_of_mem _ hb))
theorem D2(C:Cur P){l m:List (Pt P)}(p:l.Perm m):(∀a,a∈l->On a)->qO l=qO m:=by
 induction p with
 | nil=>intro _;rfl
 | cons x _ ih =>
  intro h;show add x _=add x _;rw[ih fun b hb=>h b (List.mem_cons_of_mem _ hb)]
 | swap x y l =>
  intro h;have hy:=h y List.mem_cons_self;have hx:=h x (List.mem_cons_of_mem _ List.mem_cons_self);have hl:=qU C l fun b hb=>h b (List.mem_cons_of_mem _ (List.mem_cons_of_mem _ hb))
  show add y (add x (qO l))=add x (add y (qO l));rw[<-C.assoc hy hx hl,C.comm hy hx,C.assoc hx hy hl]
 | trans p _ ih1 ih2 =>
  intro h;rw[ih1 h,ih2 fun a ha=>h a (p.mem_iff.2 ha)]
theorem sJ(C:Cur P){r:Pt P}(hr:On r):∀l:List (Pt P),(∀a,a∈l->On a)->qO (l.map fun a=>add a r)=add (qO l) (mul l.length r)
 | [],_=>rfl
 | a :: l,h=>by
  have ha:=h a List.mem_cons_self;have hl:∀b,b∈l->On b:=fun b hb=>h b (List.mem_cons_of_mem _ hb)
  show add (add a r) (qO (l.map _))=add (add a (qO l)) (add (mul l.length r) r);rw[sJ C hr l hl,C.comm (bF C hr _) hr,C.swap ha hr (qU C l hl) (bF C hr _)]
theorem tK(C:Cur P){a b r:Pt P}(ha:On a)(hb:On b)(hr:On r)(e:add a r=add b r):a=b:=by
 have:add (add a r) (neg r)=add (add b r) (neg r):=by rw[e]
 rwa[C.assoc ha hr (bX hr),C.assoc hb hr (bX hr),add_neg,bD,bD]at this
theorem rK(C:Cur P){r:Pt P}(hr:On r):((pts P).map fun a=>add a r).Perm (pts P):=by
 refine(List.perm_ext_iff_of_nodup ?_ uW).2 fun a=>?_
 ·refine List.pairwise_map.2 (List.Pairwise.imp_of_mem ?_ (uW (P:=P)));intro a b ha hb h e;exact h (tK C ((jV a).1 ha) ((jV b).1 hb) hr e)
 ·rw[jV,List.mem_map];constructor
  ·rintro⟨b,hb,rfl⟩;exact C.on ((jV b).1 hb) hr
  ·intro ha;refine⟨add a (neg r),(jV _).2 (C.on ha (bX hr)),?_⟩;rw[C.assoc ha (bX hr) hr,C.neg_l hr,bD]
theorem CG(C:Cur P){r:Pt P}(hr:On r):mul (pts P).length r=none:=by
 have h0:∀a,a∈pts P->On a:=fun a ha=>(jV a).1 ha
 have h1:=sJ C hr (pts P) h0;rw[D2 C (rK C hr) fun a ha=>(jV a).1 ((rK C hr).mem_iff.1 ha)]at h1;have hs:=qU C (pts P) h0;have hm:=bF C hr (pts P).length;have h2:add (mul (pts P).length r) (qO (pts P))=add none (qO (pts P)):=by
  rw[C.comm hm hs,<-h1,fK]
 exact tK C hm eX hs h2
theorem eY(C:Cur P){a:Pt P}(ha:On a)(m:Nat):∀n,mul (m*n) a=mul n (mul m a)
 | 0=>rfl
 | n+1=>by
  rw[Nat.mul_succ,mul_add C ha,eY C ha m n];rfl
theorem jI:∀n,mul n (none:Pt P)=none
 | 0=>rfl
 | n+1=>by
  show add (mul n none) none=none;rw[jI n];rfl
theorem Ay(C:Cur P){a:Pt P}(ha:On a)(e:add a a=none):a=none:=by
 rcases a with _|⟨x,y⟩
 ·rfl
 ·exfalso;have ho:=C.opp_ne ha;rw[bU C.pr C.two ha ha ho (bM C.pr C.two ha ha ho)]at e;cases e
theorem FA(C:Cur P){n:Nat}(hn:NT.IsP n)(h3:2*P+1<3*n){g:Pt P}(hg:On g)(h0:g≠none)(hz:mul n g=none){r:Pt P}(hr:On r):mul n r=none:=by
 have hd:n ∣ (pts P).length:=Classical.byContradiction fun hd=>by
  have h1:=hn.fermat1 _ hd;have h2:mul ((pts P).length^(n-1)) g=none:=by
   have:n-1=(n-2)+1:=by have:=hn.1;omega
   rw[this,Nat.pow_succ,Nat.mul_comm,eY C hg,CG C hg,jI]
  have h4:=Nat.div_add_mod ((pts P).length^(n-1)) n;rw[h1]at h4;rw[<-h4,mul_add C hg,eY C hg,hz,jI,fK]at h2;exact h0 h2
 obtain⟨c,hc⟩:=hd;have hl:=Jf C;have hp:=IM (P:=P);have hm:=CG C hr;rw[hc]at hl hp hm;have hc3:c<3:=Nat.lt_of_mul_lt_mul_left (a:=n) (by omega);match c,hc3 with
 | 0,_=>omega
 | 1,_=>rwa[Nat.mul_one]at hm
 | 2,_ =>
  rw[eY C hr]at hm;exact Ay C (bF C hr n) hm
end EC
section
open Go.RowKit Go.Sort Go.Deep
variable {P:Nat}[NeZero P]{N:Nat}
def d5(P:Nat)[NeZero P](b:Bs):EC.Pt P:=match rd P b with|some p=>pt p|none=>none
theorem dF(C:Fld P){X:EC.Pt P}(h:EC.On X):d5 P (wr X)=X:=by
 obtain⟨p,h1,h2⟩:=rO C h;unfold d5;rw[h1];exact h2
def eI(P:Nat)[NeZero P]:List (Nat × Bs)->EC.Pt P
 | []=>none
 | x :: r=>EC.add (EC.mul x.1 (d5 P x.2)) (eI P r)
def PtsL(P:Nat)[NeZero P](l:List (Nat × Bs)):Prop:=∀x∈l,∃X:EC.Pt P,EC.On X/\x.2=wr X
theorem PtsL.on(C:Fld P){l:List (Nat × Bs)}(h:PtsL P l){x:Nat × Bs}(hx:x∈l):EC.On (d5 P x.2):=by
 obtain⟨X,h1,h2⟩:=h x hx;rw[h2,dF C h1];exact h1
theorem vS(C:Fld P):∀ {l:List (Nat × Bs)},PtsL P l->EC.On (eI P l)
 | [],_=>EC.eX
 | x :: r,h=>C.cur.on (EC.bF C.cur (h.on C List.mem_cons_self) _) (vS C fun y hy=>h y (List.mem_cons_of_mem _ hy))
theorem uC(C:Fld P)(y:Nat × Bs)(hy:EC.On (d5 P y.2)):∀ {l:List (Nat × Bs)},PtsL P l->eI P (l++[y])=EC.add (eI P l) (EC.mul y.1 (d5 P y.2))
 | [],_=>EC.bD _
 | x :: r,h=>by
  have hr:PtsL P r:=fun z hz=>h z (List.mem_cons_of_mem _ hz)
  show EC.add (EC.mul x.1 (d5 P x.2)) (eI P (r++[y]))=_;rw[uC C y hy hr];exact(C.cur.assoc (EC.bF C.cur (h.on C List.mem_cons_self) _) (vS C hr) (EC.bF C.cur hy _)).symm
theorem vU:∀l:List (Nat × Bs),eI P (LF l)=eI P l
 | []=>rfl
 | x :: r=>by
  unfold LF;rw[List.filter_cons];by_cases h:x.1=0
  ·rw[if_neg (by simp[h])];show eI P (LF r)=EC.add (EC.mul x.1 (d5 P x.2)) (eI P r);rw[h,vU r];rfl
  ·rw[if_pos (by simp[h])];show EC.add _ (eI P (LF r))=EC.add _ (eI P r);rw[vU r]
theorem mul_mod(C:Fld P)(hord:∀r:EC.Pt P,EC.On r->EC.mul N r=none){X:EC.Pt P}(hX:EC.On X)(n:Nat):EC.mul (n%N) X=EC.mul n X:=by
 have h:=EC.mul_add C.cur hX (N*(n/N)) (n%N);rw[Nat.div_add_mod,EC.eY C.cur hX N (n/N),hord X hX,EC.jI,EC.fK]at h;exact h.symm
theorem uD(C:Fld P)(hord:∀r:EC.Pt P,EC.On r->EC.mul N r=none)(n:Nat)(p:Bs)(hp:EC.On (d5 P p)):∀ {l:List (Nat × Bs)},PtsL P l->eI P (dN N l n p)=EC.add (eI P l) (EC.mul n (d5 P p))
 | [],_=>EC.bD _
 | (s,q) :: r,h=>by
  have hr:PtsL P r:=fun z hz=>h z (List.mem_cons_of_mem _ hz)
  have hq:=h.on C (x:=(s,q)) List.mem_cons_self;have h1:=EC.bF C.cur hq s;have h2:=vS C hr;have h3:=EC.bF C.cur hp n;unfold dN;by_cases e:p=q
  ·rw[if_pos e];subst e;show EC.add (EC.mul (sPl N s n) (d5 P p)) (eI P r)=EC.add (EC.add (EC.mul s (d5 P p)) (eI P r)) (EC.mul n (d5 P p));unfold sPl;rw[mul_mod C hord hp,EC.mul_add C.cur hp,C.cur.assoc h1 h3 h2,C.cur.assoc h1 h2 h3,C.cur.comm h3 h2]
  ·rw[if_neg e];show EC.add (EC.mul s (d5 P q)) (eI P (dN N r n p))=EC.add (EC.add (EC.mul s (d5 P q)) (eI P r)) (EC.mul n (d5 P p));rw[uD C hord n p hp hr,C.cur.assoc h1 h2 h3]
theorem Dk{n:Nat}{p:Bs}(hp:∃X:EC.Pt P,EC.On X/\p=wr X):∀ {l:List (Nat × Bs)},PtsL P l->PtsL P (dN N l n p)
 | [],_=>fun x hx=>by
  have:x=(n,p):=by simpa[dN]using hx
  rw[this];exact hp
 | (s,q) :: r,h=>by
  have hr:PtsL P r:=fun z hz=>h z (List.mem_cons_of_mem _ hz)
  unfold dN;split
  ·intro x hx;rcases List.mem_cons.1 hx with rfl|hx
   ·exact h (s,q) List.mem_cons_self
   ·exact hr x hx
  ·intro x hx;rcases List.mem_cons.1 hx with rfl|hx
   ·exact h (s,q) List.mem_cons_self
   ·exact Dk hp hr x hx
theorem wQ(ns:Nat->Nat)(X:Nat->EC.Pt P){k:Nat}(hX:∀j,j<k->EC.On (X j)):∀i,i<=k->PtsL P (mrg N ns (fun j=>wr (X j)) i)
 | 0,_=>fun x hx=>by cases hx
 | i+1,hi=>Dk ⟨X i,hX i (by omega),rfl⟩ (wQ ns X hX i (by omega))
theorem CJ(C:Fld P)(hord:∀r:EC.Pt P,EC.On r->EC.mul N r=none)(ns:Nat->Nat)(X:Nat->EC.Pt P){k:Nat}(hX:∀j,j<k->EC.On (X j)):∀i,i<=k->eI P (mrg N ns (fun j=>wr (X j)) i)=EC.tot X i (fun j=>(ns j:Int))
 | 0,_=>rfl
 | i+1,hi=>by
  have hi':=hX i (by omega);show eI P (dN N (mrg N ns (fun j=>wr (X j)) i) (ns i) (wr (X i)))=EC.add (EC.tot X i (fun j=>(ns j:Int))) (EC.mul (ns i) (X i));rw[uD C hord _ _ (by rw[dF C hi'];exact hi') (wQ ns X hX i (by omega)),CJ C hord ns X hX i (by omega),dF C hi']
theorem rG(C:Fld P)(l:List (Nat × Bs))(h:PtsL P l):∀i,i<=l.length->EC.tot (fun j=>d5 P ((l[j]?).getD (0,#[])).2) i (fun j=>(((l[j]?).getD (0,#[])).1:Int))=eI P (l.take i)
 | 0,_=>by rw[List.take_zero];rfl
 | i+1,hi=>by
  have hlt:i<l.length:=by omega
  show EC.add (EC.tot _ i _) (EC.mul ((l[i]?).getD (0,#[])).1 (d5 P ((l[i]?).getD (0,#[])).2))=_;rw[rG C l h i (by omega),List.take_add_one,List.getElem?_eq_getElem hlt];exact(uC C (l[i]) (h.on C (List.getElem_mem hlt)) fun x hx=>h x (List.mem_of_mem_take hx)).symm
theorem AH(C:Fld P)(O:Ord N)(hord:∀r:EC.Pt P,EC.On r->EC.mul N r=none)(g k c:Nat)(hk0:0<k)(hk:k<=512)(ns:Nat->Nat)(X:Nat->EC.Pt P)(hn:∀j,j<k->ns j<N)(hX:∀j,j<k->EC.On (X j))(w:World)(hg:g<w.heap.size)(hr:∀j,j<k->w.rangeAt g (37*j) (wn (ns j)++aA (wr (X j)))):
 Calls prog 51 #[.slice (some ⟨g,0,none⟩) k c] w (Ret fun e w'=>Below w.heap.size w w'/\e=pvl (wr (EC.tot X k (fun j=>(ns j:Int))))):=by
 have hM:=wQ (N:=N) ns X hX k (Nat.le_refl _);have hlt:=Bg O ns (fun j=>wr (X j)) hn k (Nat.le_refl _);have hsz:=kV (N:=N) ns (fun j=>wr (X j)) (k:=k) (fun j _=>aL _) k (Nat.le_refl _);have hle:=oC (N:=N) ns (fun j=>wr (X j)) k;have hsum:=CJ C hord ns X hX k (Nat.le_refl _);have hpos:0<(mrg N ns (fun j=>wr (X j)) k).length:=by
  obtain⟨k',rfl⟩:∃k',k=k'+1:=⟨k-1,by omega⟩
  show 0<(dN N _ _ _).length;cases mrg N ns (fun j=>wr (X j)) k' with
  | nil=>exact Nat.lt_succ_self 0
  | cons x r=>unfold dN;split<;>simp
 have hmer:=fun W (hb:Below w.heap.size w W)=>FS O (fun e w'=>Below W.heap.size W w'/\∃q cap,e=.slice q (LF (mrg N ns (fun j=>wr (X j)) k)).length cap/\TmL w' q (LF (mrg N ns (fun j=>wr (X j)) k))) g k c (by omega) ns (fun j=>wr (X j)) (fun j _=>aL _) hn W (Nat.lt_of_lt_of_le hg hb.size) (fun j hj=>RG.aO (hr j hj) hb hg) (fun W' v hMx=>by
  refine(Gp _ hpos (by omega) hsz (fun x hx=>Nat.lt_of_lt_of_le (hlt x hx) O.le) W.heap.size v W' hMx.bl.size hMx.ow).mono ?_;rintro e w' ⟨u,rfl,hb',hT⟩;exact⟨_,rfl,hMx.bl.trans hb',hT⟩)
 generalize mrg N ns (fun j=>wr (X j)) k=L at hM hlt hsz hle hsum hpos hmer;have hF:PtsL P (LF L):=fun x hx=>hM x (xN hx)
 have hFl:(LF L).length<=L.length:=List.length_filter_le _ _;refine(mP C O _ w (LF L).length (by omega) (fun j=>(((LF L)[j]?).getD (0,#[])).1) (fun j=>d5 P (((LF L)[j]?).getD (0,#[])).2) (fun j hj=>by rw[List.getElem?_eq_getElem hj];exact hlt _ (xN (List.getElem_mem hj))) (fun j hj=>by rw[List.getElem?_eq_getElem hj];exact hF.on C (List.getElem_mem hj)) fun W hb=>?_).mono ?_
 ·refine(hmer W hb).mono ?_;rintro e w' ⟨u,rfl,hb',q,cap,rfl,hT⟩;refine⟨_,rfl,hb',q,cap,rfl,fun h0=>?_⟩;obtain⟨g',e1,e2,e3⟩:=hT h0;refine⟨g',e1,e2,fun j hj=>?_⟩;have h5:=e3 j hj;obtain⟨Y,y1,y2⟩:=hF _ (List.getElem_mem hj);show w'.rangeAt g' (37*j) (wn (((LF L)[j]?).getD (0,#[])).1++aA (wr (d5 P (((LF L)[j]?).getD (0,#[])).2)));rw[List.getElem?_eq_getElem hj];show w'.rangeAt g' (37*j) (wn ((LF L)[j]).1++aA (wr (d5 P ((LF L)[j]).2)));rw[y2,dF C y1,<-y2];exact h5
 ·rintro e w' ⟨u,rfl,hb',rfl⟩;refine⟨_,rfl,hb',?_⟩;rw[rG C (LF L) hF _ (Nat.le_refl _),List.take_length,vU,hsum]
theorem MA:prog.underlying 22=some (.slice 5):=by kernel_rfl
theorem MD:prog.underlying 3=some (.int .i64):=by kernel_rfl
theorem Kc:(prog.info? 5).map (fun i=>(i.size,i.bytes,i.zero.map fun z=>z.cells.size))=some (1,1,some 1):=by kernel_rfl
theorem atB(k o n c i:Nat)(hi:i<n)(w:World):(Instr.indexAt 48 (.slice (some ⟨k,o,none⟩) n c) (.int .i64 i)).run prog w=.ok (.pointer (some ⟨k,o+1*i,none⟩)) w:=by
 have h1:¬(i:Int)<0:=by omega
 have h2:(i:Int)<n:=by omega
 go_simp
theorem LP(n:Nat)(hn:n<=10000000)(w:World):Calls prog 131 #[.slice none 0 0,.int .i64 n] w (Ret fun e w'=>Below w.heap.size w w'/\w'.ownsRow w.heap.size 5 1 e 0 []):=by
 by_cases h0:n=0
 ·subst h0;go_enter Tryz.func131,Tryz.ntmps131;go_wp2;go_ret;exact⟨_,rfl,Below.refl _ _,World.ownsRow_nil _ _ _ _⟩
 ·obtain⟨i,hi,he⟩:=Option.map_eq_some_iff.1 Kc;simp only[Prod.mk.injEq]at he;obtain⟨h1,h2,h3⟩:=he;obtain⟨z,hz,hz2⟩:=Option.map_eq_some_iff.1 h3;have hr:=Lib.run_append_nil_zeros (P:=prog) w 22 3 22 5 i z .i64 .i64 MA MD hi hz n (by omega) (by omega) (by omega) (by rw[h2];omega);have hcap:=grownCap_ge w n 0 5;have hcap2:=grownCap_le_maxLen w n 0 5 (by unfold maxLen;omega);have hcs:(Builtin.zeroCells z.cells n++Builtin.zeroCells z.cells (grownCap w n 0 5-n)).size=grownCap w n 0 5*1:=by rw[Array.size_append,size_zeroCells,size_zeroCells,hz2];omega
  generalize grownCap w n 0 5=cp at hr hcap hcap2 hcs;generalize Builtin.zeroCells z.cells n++Builtin.zeroCells z.cells (cp-n)=cur at hr hcs;obtain⟨w1,hw1⟩:∃w1,Hid (w.drew.alloc (.cells cur 5)=w1):=⟨_,rfl⟩
  rw[hw1.out]at hr;have HR:=Hid.mk' hr;have K:Hid (Below w.heap.size w w1/\w1.ownsRow w.heap.size 5 1 (.slice (some ⟨w.heap.size,0,none⟩) 0 cp) 0 []):=by
   rw[<-hw1.out];exact⟨(Below.refl _ _).drew.alloc (Nat.le_refl _) _,World.ownsRow_made w.drew cur cp (Nat.le_refl _) hcap2 hcs⟩
  clear hr hw1 hcs hi hz hz2 h1 h2 h3;have hn1:(0:Int)<(n:Int):=by omega
  have hn2:¬((n:Int)<0):=by omega
  have hw:IntKind.i64.wrap (n:Int)=n:=by rw[IntKind.wrap_i64];omega
  go_enter Tryz.func131,Tryz.ntmps131;go_wp2_with (at_builtin;refine Lib.wpList_append_run _ rfl _ _ _ _ rfl _ _ rfl rfl _ _ HR.out ?_)
  go_ret;exact⟨_,rfl,K.out.1,K.out.2⟩
def gZ(L:Nat->Bs)(k:Nat):List UInt8:=(List.range k).flatMap fun j=>(L j).toList
theorem fZ(L:Nat->Bs)(i:Nat):gZ L (i+1)=gZ L i++(L i).toList:=by
 unfold gZ;rw[List.range_succ,List.flatMap_append];simp
theorem Dd(L:Nat->Bs){k m:Nat}(hs:∀j,j<k->(L j).size<=m):∀i,i<=k->(gZ L i).length<=m*i
 | 0,_=>Nat.le_refl _
 | i+1,hi=>by
  have h1:=Dd L hs i (by omega);have h2:=hs i (by omega);have e:(L i).toList.length=(L i).size:=rfl;rw[fZ,List.length_append,e,Nat.mul_succ];omega
theorem El.below{n B:Nat}{W W':World}{x:Value}{b:Bs}(h:El n W x b)(hb:Below B W W')(hB:W.heap.size<=B):El n W' x b:=by
 obtain⟨k,c,rfl,h1,h2,h3,h4⟩:=h;exact⟨k,c,rfl,h1,h2,Nat.lt_of_lt_of_le h3 hb.size,Holds.kept h4 (hb.block k (by omega))⟩
theorem IZ{base n m:Nat}{W:World}{v x:Value}{xs:List Value}{b:Bs}(hown:W.ownsRow base 5 1 v n xs)(hx:El m W x b)(hn:n+m<=100000000)(hb:base<=W.heap.size):
 ∃v' W',(Builtin.append_ #[22,22] 22 #[v,x]).run prog W=.ok v' W'/\W'.ownsRow base 5 1 v' (n+m) (xs++cb b)/\W.grownBy W' v.ownBlock:=by
 obtain⟨i,hi,he⟩:=Option.map_eq_some_iff.1 Kc;simp only[Prod.mk.injEq]at he;obtain⟨h1,h2,h3⟩:=he;obtain⟨z,hz,hz2⟩:=Option.map_eq_some_iff.1 h3;obtain⟨k,c,rfl,e1,e2,e3,e4⟩:=hx;obtain⟨v',W',r1,r2,r3,-⟩:=run_append_own (P:=prog) W base 22 22 5 i z 1 1 MA hi hz h1 h2 hz2 (by decide) v n xs hown ⟨k,0,none⟩ m c (cb b) (by rw[lZ,e2];omega)
  (fun j u hj=>by
   have:=(oN e4).1 j u hj;rw[Nat.zero_add]at this;rw[add0];exact this) (fun u hu=>by
   obtain⟨y,-,rfl⟩:=List.mem_map.1 hu;rfl) (by unfold maxLen;omega) (by omega) hb
 exact⟨v',W',r1,r2,r3⟩
theorem L9(L:Nat->Bs)(i:Nat):(gZ L (i+1)).map encB=(gZ L i).map encB++cb (L i):=by rw[fZ,List.map_append];rfl
theorem Gx(g k c:Nat)(L:Nat->Bs)(hk:k<=1000)(hs:∀j,j<k->(L j).size<=10000)(w:World)(hg:g<w.heap.size)(hL:∀j,j<k->∃x,w.cell? ⟨g,j,none⟩=some x/\El (L j).size w x (L j)):
 Calls prog 91 #[.slice (some ⟨g,0,none⟩) k c] w (Ret fun e w'=>Below w.heap.size w w'/\w'.ownsRow w.heap.size 5 1 e (gZ L k).length ((gZ L k).map encB)):=by
 have HL:=Hid.mk' hL;have HS:Hid (∀i,i<=k->(gZ L i).length<=10000*i):=Dd L hs;have HG:=Hid.mk' hg;clear hL hs hg;go_enter Tryz.func91,Tryz.ntmps91;go_wp2_with fail
 go_loopg [3,11] k (fun m s3 s11 W=>∃i:Nat,i+m=k/\s11=.int .i64 i/\s3=.int .i64 ((gZ L i).length:Int)/\w=W)
 case atStart=>exact⟨0,by omega,rfl,rfl,rfl⟩
 case round =>
  obtain⟨i,hik,rfl,rfl,rfl⟩:=hrel;by_cases hi:i<k
  ·have hi':(i:Int)<(k:Int):=by omega
   obtain⟨x,hc,hE⟩:=HL.out i hi;obtain⟨kx,cx,rfl,h1,-⟩:=hE;have hix:=atB g 0 k c i hi;rw[show 0+1*i=i by omega]at hix;have hlen:(gZ L (i+1)).length=(gZ L i).length+(L i).size:=by rw[fZ,List.length_append];rfl
   have hb1:=HS.out i (by omega);have hb2:=HS.out (i+1) (by omega);obtain⟨a,ha⟩:∃a,Hid ((gZ L i).length=a):=⟨_,rfl⟩
   obtain⟨b,hb⟩:∃b,Hid ((L i).size=b):=⟨_,rfl⟩
   rw[ha.out]at hlen hb1;rw[hb.out]at hlen h1;rw[ha.out];have hwr:IntKind.i64.wrap ((a:Int)+(b:Int))=((a+b:Nat):Int):=by rw[IntKind.wrap_i64];omega
   have hng:¬(((a+b:Nat):Int)<0):=by omega
   rw[hb.out]at hc;go_wp2;go_roundg (gk-1)
   case measure=>omega
   case rel=>exact⟨i+1,by omega,rfl,by rw[hlen,Int.natCast_add],rfl⟩
  ·have hi':¬(i:Int)<(k:Int):=by omega
   obtain rfl:i=k:=by omega
   go_wp2_with fail
   refine(LP (gZ L i).length (by have:=HS.out i (Nat.le_refl _);omega) w).mono ?_;rintro e w1 ⟨v,rfl,hb1,ho1⟩;have K1:Hid (Below w.heap.size w w1/\w1.ownsRow w.heap.size 5 1 v (gZ L 0).length ((gZ L 0).map encB)):=⟨hb1,ho1⟩
   clear hb1 ho1;go_wp2_with fail
   go_loopg [6,27] i (fun m s6 s27 W=>∃j:Nat,j+m=i/\s27=.int .i64 j/\Hid (Below w.heap.size w W/\W.ownsRow w.heap.size 5 1 s6 (gZ L j).length ((gZ L j).map encB)))
   case atStart=>exact⟨0,by omega,rfl,K1⟩
   case round =>
    clear K1;obtain⟨j,hjk,rfl,KM⟩:=hrel;by_cases hj:j<i
    ·have hj':(j:Int)<(i:Int):=by omega
     obtain⟨x,hc0,hE0⟩:=HL.out j hj;have hc:wr.cell? ⟨g,j,none⟩=some x:=by rw[KM.out.1.cell (p:=⟨g,j,none⟩) HG.out];exact hc0
     have hE:=hE0.below KM.out.1 (Nat.le_refl _);have hb2:=HS.out (j+1) (by omega);have hlen:(gZ L (j+1)).length=(gZ L j).length+(L j).size:=by rw[fZ,List.length_append];rfl
     obtain⟨v',W',r1,r2,r3⟩:=IZ KM.out.2 hE (by omega) KM.out.1.size;rw[<-hlen,<-L9]at r2;have KN:Hid (Below w.heap.size w W'/\W'.ownsRow w.heap.size 5 1 v' (gZ L (j+1)).length ((gZ L (j+1)).map encB)):=⟨KM.out.1.grown r3 KM.out.1.size (fun k hk=>(KM.out.2.lt k hk).1),r2⟩
     have HAP:=Hid.mk' r1;obtain⟨kx,cx,rfl,-⟩:=hE;have hix:=atB g 0 i c j hj;rw[show 0+1*j=j by omega]at hix;clear r1 r2 r3 hlen hb2 KM hE0 hc0;go_wp2_with (first|(refine jM (x:=u6) (y:=.slice (some ⟨kx,0,none⟩) (L j).size cx) (v:=v') (w':=W') rfl _ _ 22 rfl ?_ ?_ ?_ ?_;rfl;rfl;exact HAP.out)|fail)
     go_roundg (gk-1)
     case measure=>omega
     case rel=>exact⟨j+1,by omega,rfl,KN⟩
    ·have hj':¬(j:Int)<(i:Int):=by omega
     obtain rfl:j=i:=by omega
     go_wp2;go_ret;exact⟨_,rfl,KM.out.1,KM.out.2⟩
end
section
open Go.RowKit Go.Sort Go.Deep Go.Shelf
attribute [local go_sem] Oper.semAt_some
variable {P:Nat}[NeZero P]
theorem wU{w w':World}(h:Below w.heap.size w w')(row:Option Nat):w.grownBy w' row:=⟨h.os,h.tape,h.output,h.size,fun k hk _=>h.block k hk⟩
theorem zI{w:World}{g o:Nat}{bs:Bs}(h:Holds encB w g o bs)(hs:0<bs.size):g<w.heap.size:=by
 obtain⟨ob,ho,-⟩:=cells_of_cell (h 0 hs).1;exact(Array.getElem?_eq_some_iff.1 ho).1
noncomputable def cand (P:Nat) [NeZero P] (lab:ByteArray) (b:List UInt8) (i:Nat):Option (Fin P × Fin P):=
 if beV (SP.jN ((⟨#[112,111,105,110,116,32]⟩:ByteArray)++lab).data.toList [b,[UInt8.ofNat i]]).toList<P then
  (rt (Fin.ofNat P (beV (SP.jN ((⟨#[112,111,105,110,116,32]⟩:ByteArray)++lab).data.toList [b,[UInt8.ofNat i]]).toList)*Fin.ofNat P (beV (SP.jN ((⟨#[112,111,105,110,116,32]⟩:ByteArray)++lab).data.toList [b,[UInt8.ofNat i]]).toList)*Fin.ofNat P (beV (SP.jN ((⟨#[112,111,105,110,116,32]⟩:ByteArray)++lab).data.toList [b,[UInt8.ofNat i]]).toList)+7)).map fun y=>(Fin.ofNat P (beV (SP.jN ((⟨#[112,111,105,110,116,32]⟩:ByteArray)++lab).data.toList [b,[UInt8.ofNat i]]).toList),y)
 else none
noncomputable def cands (P:Nat) [NeZero P] (lab:ByteArray) (b:List UInt8) (i:Nat):List (Fin P × Fin P):=(List.range i).filterMap (cand P lab b)
theorem dS(lab:ByteArray)(b:List UInt8)(i:Nat):cands P lab b (i+1)=cands P lab b i++(cand P lab b i).toList:=by
 unfold cands;rw[List.range_succ,List.filterMap_append];cases h:cand P lab b i<;>simp[h]
theorem vD(lab:ByteArray)(b:List UInt8){i j:Nat}(h:i<=j):cands P lab b i <+: cands P lab b j:=by
 induction j with
 | zero=>rw[Nat.le_zero.1 h];exact List.prefix_rfl
 | succ j ih =>
  rcases Nat.lt_or_ge i (j+1)with h1|h1
  ·rw[dS];exact(ih (by omega)).trans (List.prefix_append _ _)
  ·rw[show i=j+1 by omega];exact List.prefix_rfl
theorem Ef(lab:ByteArray)(b:List UInt8)(i:Nat):(cands P lab b i).length<=i:=by
 unfold cands;exact Nat.le_trans (List.length_filterMap_le _ _) (by rw[List.length_range];exact Nat.le_refl _)
end
section
open Go.RowKit Go.Sort Go.Deep Go.Shelf
attribute [local go_sem] Oper.semAt_some
section
variable {F:Fence}{n:Nat}{P:Program}{ops:Array Oper}{rest:List Oper}{op:Oper}{a:Act}{w:World}{Q:Exit->Act->World->Prop}
theorem mB(hgd:Region.wanted op (yielded ops a.tmps)=true)(ty:TypeId)(x:Operand)(ho:op.op=.load ty x)(b o:Nat)(hx:a.eval x=.pointer (some ⟨b,o,none⟩))(cs:List Value)(d:TypeDesc)(hc:w.rangeAt b o cs)
 (hu:P.underlying ty=some d) (hd:d.isRow=true) (hi:(P.info? ty).map (·.size)=some cs.length) (h:wpListIn F n P ops Q rest (a.put op.dst (.agg cs.toArray)) w):wpListIn F n P ops Q (op :: rest) a w:=
 wpListIn_step fun K hK=>by
  rw[hgd,if_pos rfl];refine⟨fun f hf=>(by unfold Oper.about at hf;rw[ho]at hf;cases hf),?_⟩;rw[Oper.semAt_eq _ _ _ (fun c=>by rw[ho];intro e;cases e)];unfold execOp;simp only[ho,hx,Instr.loadAt,Instr.sureAddr,Sem.run_bind,Sem.run_pure,Result.andThen_ok,run_loadVar_mid w b o ty cs d hc hu hd hi];exact hK _ _ h
end
variable {P:Nat}[NeZero P]
theorem Hid.mk{p:Prop}(h:p):Hid p:=h
theorem LI(C:Fld P)(lab:ByteArray)(vb:Value)(b:List UInt8)(k1 k2:Nat)(w:World)(hlab:lab.size<=1000000)(h1:w.cell? ⟨k1,0,none⟩=some (.string lab))(h2:w.cell? ⟨k2,0,none⟩=some vb)(l1:k1<w.heap.size)(l2:k2<w.heap.size)(hb:SP.PartOk w vb b)(n:Nat):
 SeqStopsK Fence.wide n prog 163 #[.pointer (some ⟨k1,0,none⟩),.pointer (some ⟨k2,0,none⟩)] (fun x:Fin P × Fin P=>#[pv x.1 x.2]) (Below w.heap.size) (fun xs=>xs=cands P lab b 256) (fun pre=>pre <+: cands P lab b 256) 256 w:=by
 have HP:=hb;obtain⟨a0,sb,so,cap,bs,rfl,-,-,-,-⟩:=hb;intro l J Jx W hW hJ hJx hY h0;refine callsIn_of_wp Tryz.func163 rfl trivial ?_ rfl;simp only[Tryz.ntmps163,List.size_toArray,List.length_cons,List.length_nil,Nat.reduceAdd,Nat.reduceSub,Array.replicate_succ,Array.replicate_zero,List.push_toArray,List.append_toArray,List.nil_append,List.cons_append]
 gi_wp2
 gi_loopw [10] (fun p wr=>∃i:Nat,i<=256/\p=.int .i64 i/\J (cands P lab b i) wr/\Below w.heap.size w wr/\W.heap.size<=wr.heap.size) (fun p wr=>256-(intOf p).toNat)
 case atStart =>
  exact⟨0,by decide,rfl,h0,hW,Nat.le_refl _⟩
 case round =>
  obtain⟨i,hi,rfl,hJi,hB,hsz⟩:=hrel;have hB':=hB;by_cases he:i=256
  ·subst he
   gi_wp2
   go_end0
   exact⟨⟨_,rfl⟩,.inl ⟨_,rfl,hJi⟩⟩
  ·have hlt:(i:Int)<256:=by omega
   have c1:wr.cell? ⟨k1,0,none⟩=some (.string lab):=(World.cell?_of_block (hB.block k1 l1)).trans h1;have c2:wr.cell? ⟨k2,0,none⟩=some (.slice a0 bs.size cap):=(World.cell?_of_block (hB.block k2 l2)).trans h2;have hM1:=RG.Made.alloc wr [.int .u8 i] 5;have hM2:=RG.Made.alloc (wr.alloc (.cells #[.int .u8 i] 5)) [.slice a0 bs.size cap,.slice (some ⟨wr.heap.size,0,none⟩) 1 1] 22;rw[World.size_alloc]at hM2;have hub:ub (UInt8.ofNat i)=(i:Int):=by
    show(((UInt8.ofNat i).toNat:Nat):Int)=_;rw[UInt8.toNat_ofNat',Nat.mod_eq_of_lt (by omega)]
   obtain⟨W1,hW1⟩:∃W1,W1=(wr.alloc (.cells #[.int .u8 i] 5)).alloc (.cells #[.slice a0 bs.size cap,.slice (some ⟨wr.heap.size,0,none⟩) 1 1] 22):=⟨_,rfl⟩
   have hb1:Below wr.heap.size wr W1:=by rw[hW1];exact((Below.refl _ wr).alloc (Nat.le_refl _) _).alloc (by rw[World.size_alloc];omega) _
   have hP:SP.PartsOk W1 (some ⟨wr.heap.size+1,0,none⟩) [b,[UInt8.ofNat i]]:=by
    have hm2:W1.rangeAt (wr.heap.size+1) 0 [.slice a0 bs.size cap,.slice (some ⟨wr.heap.size,0,none⟩) 1 1]:=by rw[hW1];exact hM2.range
    refine Or.inr ⟨_,_,rfl,fun j hj=>?_⟩;have hj2:j=0\/j=1:=by simp at hj;omega
    rcases hj2 with rfl|rfl
    ·exact⟨_,hm2 0 _ rfl,(HP.below hB').below hb1⟩
    ·refine⟨_,hm2 1 _ rfl,some ⟨wr.heap.size,0,none⟩,wr.heap.size,0,1,#[UInt8.ofNat i],rfl,rfl,Nat.le_refl _,Nat.le_of_ble_eq_true rfl,Or.inr ⟨rfl,?_⟩⟩;have hm1:=hM1.range;have hc:wr.heap.size<(wr.alloc (.cells #[.int .u8 i] 5)).heap.size:=by rw[World.size_alloc];omega
     intro j hj;have hj0:j=0:=by simp at hj;omega
     subst hj0;have hq:W1.heap[wr.heap.size]? = (wr.alloc (.cells #[.int .u8 i] 5)).heap[wr.heap.size]?:=by rw[hW1];exact Below.heap_alloc _ _ _ hc
     refine⟨?_,?_⟩
     ·rw[World.cell?_of_block (a:=⟨wr.heap.size,0+0,none⟩) hq];show _=some (Value.int .u8 (ub (UInt8.ofNat i)));rw[hub];exact hm1 0 _ rfl
     ·rw[World.frozen?_of_block (a:=⟨wr.heap.size,0+0,none⟩) hq];exact(hM1.there 0 (Nat.le_refl _)).2
   have hTag:=SP.qZ ((⟨#[112,111,105,110,116,32]⟩:ByteArray)++lab) (some ⟨wr.heap.size+1,0,none⟩) 2 [b,[UInt8.ofNat i]] W1 (by rw[ByteArray.size_append];show 6+lab.size<=_;omega) (Nat.le_of_ble_eq_true rfl) hP
   gi_wp2_with fail
   rw[<-hW1];refine⟨trivial,fun h=>(by cases h),(callsIn_wide.2 hTag).mono ?_⟩;rintro e w2 ⟨r,rfl,hr1,hb2,hH2⟩;clear hTag hP c1 c2 hM1 hM2 hlt;obtain⟨T,hT⟩:∃T,Hid (SP.jN ((⟨#[112,111,105,110,116,32]⟩:ByteArray)++lab).data.toList [b,[UInt8.ofNat i]]=T):=⟨_,rfl⟩
   rw[hT.out]at hH2
   gi_wp2_with fail
   refine⟨trivial,fun h=>(by cases h),(callsIn_wide.2 (bP _)).mono ?_⟩;rintro e w3 ⟨v,rfl,hb3,rfl⟩;have hrl:r<w2.heap.size:=zI hH2 (by rw[<-hT.out,SP.dW];decide);have hTs:T.size=32:=by rw[<-hT.out];exact SP.dW _ _
   have hH3:Holds encB w3 r 0 T:=Holds.below hH2 hb3 hrl;have hrl3:r<w3.heap.size:=Nat.lt_of_lt_of_le hrl hb3.size;have hb03:Below wr.heap.size wr w3:=(hb1.trans (hb2.mono hb1.size)).trans (hb3.mono (Nat.le_trans hb1.size hb2.size));by_cases hx:beV T.toList<P
   ·obtain⟨x,hxv⟩:∃x:Fin P,Hid (beV T.toList=x.val):=⟨Fin.ofNat P (beV T.toList),(Nat.mod_eq_of_lt hx).symm⟩
    have hfx:Hid (Fin.ofNat P (beV T.toList)=x):=Fin.ext (by show beV T.toList%P=_;rw[Nat.mod_eq_of_lt hx];exact hxv.out);have hx:Hid (beV T.toList<P):=hx
    gi_wp2_with fail
    refine⟨trivial,fun h=>(by cases h),(callsIn_wide.2 (GX C hTs (Nat.le_refl _) hxv.out hrl3 hH3)).mono ?_⟩;rintro e w4 ⟨v,rfl,hb4,rfl⟩;have hth4:=(RG.Made.alloc w4 [.int .u64 0,.int .u64 0,.int .u64 0,.int .u64 0] 49).there;have hb04:=hb03.trans (hb4.mono hb03.size);have hra4:=World.rangeAt_setCells_same _ _ 0 (ws x) hth4;obtain⟨d,hd1,hd2⟩:=Option.map_eq_some_iff.1 u85;clear hth4 hra4 hTs hH3 hrl hrl3 hb3 hb4 hH2 hr1 hb2 hb1;obtain⟨w5,hw5⟩:∃w5,Hid ((w4.alloc (.cells #[.int .u64 0,.int .u64 0,.int .u64 0,.int .u64 0] 49)).setCells w4.heap.size 0 (ws x)=w5):=⟨_,rfl⟩
    have hb05:Hid (Below wr.heap.size wr w5):=by rw[<-hw5.out];exact RG.below_setCells hb04.size _ _ _ (hb04.alloc hb04.size _)
    have hra5:w5.rangeAt w4.heap.size 0 (ws x):=by rw[<-hw5.out];exact World.rangeAt_setCells_same _ _ 0 (ws x) (RG.Made.alloc w4 [.int .u64 0,.int .u64 0,.int .u64 0,.int .u64 0] 49).there
    gi_wp2_with (first|(refine bL rfl 49 _ _ rfl w4.heap.size 0 (ws x).toArray rfl rfl (RG.Made.alloc w4 [.int .u64 0,.int .u64 0,.int .u64 0,.int .u64 0] 49).there i85 (by kernel_rfl) ?_;rw[show(ws x).toArray.toList=ws x from rfl,hw5.out])|refine iF rfl 49 _ rfl w4.heap.size 0 rfl (ws x) d hra5 hd1 hd2 i85 ?_)
    refine⟨trivial,fun h=>(by cases h),?_⟩;clear hra5 hd1 hd2;have hdum:True:=trivial;obtain⟨d8,hd81,hd82⟩:=Option.map_eq_some_iff.1 fD;cases hrt:rt (x*x*x+7) with
    | none =>
     obtain⟨z,hz⟩:∃z:Fin P,Hid (z=0):=⟨_,rfl⟩
     have habove:=vK C x hrt w5;rw[<-hz.out]at habove;obtain⟨vz,hvz⟩:∃vz,Hid (pv z z=vz):=⟨_,rfl⟩
     rw[hvz.out]at habove;refine(callsIn_wide.2 habove).mono ?_;clear habove;rintro e w6 ⟨v,rfl,hb6,rfl⟩;have hcand:Hid (cand P lab b i=none):=by
      show cand P lab b i=none;unfold cand;rw[hT.out,if_pos hx.out,hfx.out,hrt];rfl
     clear hrt;have hbA:Hid (Below wr.heap.size wr ((w6.alloc (.cells #[.int .u64 0,.int .u64 0,.int .u64 0,.int .u64 0,.int .u64 0,.int .u64 0,.int .u64 0,.int .u64 0] 51)).setCells w6.heap.size 0 (ws z++ws z))):=
      have h6:=hb05.out.trans (hb6.mono hb05.out.size)
      RG.below_setCells h6.size _ _ _ (h6.alloc h6.size _)
     clear hb6;have hs8:(ws z++ws z).toArray.size=8:=by kernel_rfl
     have hth6:Hid <| (w6.alloc (.cells #[.int .u64 0,.int .u64 0,.int .u64 0,.int .u64 0,.int .u64 0,.int .u64 0,.int .u64 0,.int .u64 0] 51)).there w6.heap.size 0 (ws z++ws z).toArray.size:=by show World.there _ _ _ _;rw[hs8];exact(RG.Made.alloc w6 [.int .u64 0,.int .u64 0,.int .u64 0,.int .u64 0,.int .u64 0,.int .u64 0,.int .u64 0,.int .u64 0] 51).there
     have hi8:Hid ((prog.info? 51).map (·.size)=some (ws z++ws z).toArray.size):=by show _=_;rw[hs8];exact i109
     clear hs8;obtain⟨w7,hw7⟩:∃w7,Hid ((w6.alloc (.cells #[.int .u64 0,.int .u64 0,.int .u64 0,.int .u64 0,.int .u64 0,.int .u64 0,.int .u64 0,.int .u64 0] 51)).setCells w6.heap.size 0 (ws z++ws z)=w7):=⟨_,rfl⟩
     rw[hw7.out]at hbA
     gi_wp2_with (refine bL rfl 51 _ _ rfl w6.heap.size 0 (ws z++ws z).toArray ?_ ?_ ?_ ?_ ?_ ?_;rfl;exact hvz.out.symm;exact hth6.out;exact hi8.out;kernel_rfl;rw[show(ws z++ws z).toArray.toList=ws z++ws z from rfl,hw7.out];refine Hid.out ?_)
     clear hth6 hi8 hvz hz hw7 hb05 hfx hxv hx hT;show wpListIn _ _ _ _ _ _ _ _
     gi_wp2_with fail
     refine⟨fun _ h=>(by cases h),?_⟩
     gi_wp2_with fail
     refine⟨⟨i+1,by omega,rfl,?_,hB.trans (hbA.out.mono hB.size),Nat.le_trans hsz hbA.out.size⟩,?_⟩
     ·rw[dS,hcand.out];exact hJ _ wr _ none (by simpa using hJi) (wU hbA.out none) (fun _ e=>by cases e)
     ·simp[intOf];omega
    | some y =>
     have habove:=vJ C x y hrt w5;obtain⟨vz,hvz⟩:∃vz,Hid (pv x y=vz):=⟨_,rfl⟩
     rw[hvz.out]at habove;refine(callsIn_wide.2 habove).mono ?_;clear habove;rintro e w6 ⟨v,rfl,hb6,rfl⟩;have hcand:Hid (cand P lab b i=some (x,y)):=by
      show cand P lab b i=some (x,y);unfold cand;rw[hT.out,if_pos hx.out,hfx.out,hrt];rfl
     clear hrt;obtain⟨w7,hw7⟩:∃w7,Hid ((w6.alloc (.cells #[.int .u64 0,.int .u64 0,.int .u64 0,.int .u64 0,.int .u64 0,.int .u64 0,.int .u64 0,.int .u64 0] 51)).setCells w6.heap.size 0 (ws x++ws y)=w7):=⟨_,rfl⟩
     have hb07:Hid (Below wr.heap.size wr w7):=by
      rw[<-hw7.out];have h6:=hb05.out.trans (hb6.mono hb05.out.size);exact RG.below_setCells h6.size _ _ _ (h6.alloc h6.size _)
     clear hb6;have hra7:w7.rangeAt w6.heap.size 0 (ws x++ws y):=by rw[<-hw7.out];exact World.rangeAt_setCells_same _ _ 0 (ws x++ws y) (RG.Made.alloc w6 [.int .u64 0,.int .u64 0,.int .u64 0,.int .u64 0,.int .u64 0,.int .u64 0,.int .u64 0,.int .u64 0] 51).there
     have hJ7:Hid (J (cands P lab b i) w7):=hJ _ wr _ none (by simpa using hJi) (wU hb07.out none) (fun _ e=>by cases e);have hs8:(ws x++ws y).toArray.size=8:=by kernel_rfl
     have hth6:Hid <| (w6.alloc (.cells #[.int .u64 0,.int .u64 0,.int .u64 0,.int .u64 0,.int .u64 0,.int .u64 0,.int .u64 0,.int .u64 0] 51)).there w6.heap.size 0 (ws x++ws y).toArray.size:=by show World.there _ _ _ _;rw[hs8];exact(RG.Made.alloc w6 [.int .u64 0,.int .u64 0,.int .u64 0,.int .u64 0,.int .u64 0,.int .u64 0,.int .u64 0,.int .u64 0] 51).there
     have hi8:Hid ((prog.info? 51).map (·.size)=some (ws x++ws y).toArray.size):=by show _=_;rw[hs8];exact i109
     clear hs8;obtain⟨fn,tmps,assign,body,hy,hR⟩:=hY (cands P lab b i) (x,y) w7 hJ7.out (Nat.lt_of_le_of_lt (Ef lab b i) (by omega));dsimp only at hy;obtain⟨va,hva⟩:∃va,Hid (Value.agg (ws x++ws y).toArray=va):=⟨_,rfl⟩
     rw[show pv x y=va from hva.out]at hy
     gi_wp2_with (refine bL rfl 51 _ _ rfl w6.heap.size 0 (ws x++ws y).toArray ?_ ?_ ?_ ?_ ?_ ?_;rfl;exact hvz.out.symm;exact hth6.out;exact hi8.out;kernel_rfl;rw[show(ws x++ws y).toArray.toList=ws x++ws y from rfl,hw7.out];refine Hid.out ?_)
     clear hth6 hi8 hw7 hb05 hfx hxv hx hT;have hR2:=Hid.mk hR;have hra8:=Hid.mk hra7;have hd8:=Hid.mk hd81;have hd9:=Hid.mk hd82;clear hR hra7 hd81 hd82;show wpListIn _ _ _ _ _ _ _ _
     gi_wp2_with (refine mB rfl 51 _ rfl w6.heap.size 0 ?_ (ws x++ws y) d8 ?_ ?_ ?_ ?_ ?_;rfl;exact hra8.out;exact hd8.out;exact hd9.out;exact i109;rw[hva.out];refine Hid.out ?_)
     clear hra8 hd8 hd9 hva hvz;show wpListIn _ _ _ _ _ _ _ _
     gi_wp2_with fail
     refine⟨fun h=>(by cases h),hR2.out.mono ?_⟩;clear hR2 hy;rintro e W8 (⟨rfl,hJ8,hk8⟩|⟨rfl,hJx8⟩)
     ·gi_wp2_with fail
      refine⟨⟨i+1,by omega,rfl,?_,(hB.trans (hb07.out.mono hB.size)).trans hk8,Nat.le_trans hsz (Nat.le_trans hb07.out.size hk8.size)⟩,?_⟩
      ·rw[dS,hcand.out];exact hJ8
      ·simp[intOf];omega
     ·gi_wp2_with fail
      refine bodyPost_ret (results_none rfl _ _ _) rfl ?_;refine⟨⟨_,rfl⟩,.inr ⟨_,?_,hJx8⟩⟩;have hp:=vD (P:=P) lab b (i:=i+1) (j:=256) (by omega);rw[dS,hcand.out]at hp;exact hp
   ·have hcand:cand P lab b i=none:=by
     unfold cand;rw[hT.out,if_neg hx]
    gi_wp2_with fail
    refine⟨trivial,fun h=>(by cases h),(callsIn_wide.2 (GY C hTs (Nat.le_refl _) hx hrl3 hH3)).mono ?_⟩;rintro e w4 ⟨v,rfl,hb4,rfl⟩;have hth4:Hid ((w4.alloc (.cells #[.int .u64 0,.int .u64 0,.int .u64 0,.int .u64 0] 49)).there w4.heap.size 0 4):=(RG.Made.alloc w4 [.int .u64 0,.int .u64 0,.int .u64 0,.int .u64 0] 49).there;have hb04:=hb03.trans (hb4.mono hb03.size);have hbA:Hid (Below wr.heap.size wr ((w4.alloc (.cells #[.int .u64 0,.int .u64 0,.int .u64 0,.int .u64 0] 49)).setCells w4.heap.size 0 (ws (0:Fin P)))):=RG.below_setCells hb04.size _ _ _ (hb04.alloc hb04.size _);have hcand:Hid (cand P lab b i=none):=hcand;obtain⟨w7,hw7⟩:∃w7,Hid ((w4.alloc (.cells #[.int .u64 0,.int .u64 0,.int .u64 0,.int .u64 0] 49)).setCells w4.heap.size 0 (ws (0:Fin P))=w7):=⟨_,rfl⟩
    rw[hw7.out]at hbA
    gi_wp2_with (refine bL rfl 49 _ _ rfl w4.heap.size 0 (ws (0:Fin P)).toArray ?_ ?_ ?_ ?_ ?_ ?_;rfl;rfl;exact hth4.out;exact i85;kernel_rfl;rw[show(ws (0:Fin P)).toArray.toList=ws (0:Fin P) from rfl,hw7.out];refine Hid.out ?_)
    clear hth4 hb04 hb03 hb4 hT hw7;show wpListIn _ _ _ _ _ _ _ _
    gi_wp2_with fail
    refine⟨⟨i+1,by omega,rfl,?_,hB.trans (hbA.out.mono hB.size),Nat.le_trans hsz hbA.out.size⟩,?_⟩
    ·rw[dS,hcand.out];exact hJ _ wr _ none (by simpa using hJi) (wU hbA.out none) (fun _ e=>by cases e)
    ·simp[intOf];omega
end
section
open Go.RowKit Go.Sort Go.Deep Go.Shelf
variable {P:Nat}[NeZero P]{N:Nat}
theorem A5(lab:ByteArray)(a:Option Addr)(m c:Nat)(w:World):
 Calls prog 138 #[.string lab,.slice a m c] w (Ret fun e w'=>e=.func (.func 163) #[] #[.pointer (some ⟨w.heap.size,0,none⟩),.pointer (some ⟨w.heap.size+1,0,none⟩)]/\w'=(w.alloc (.cells #[.string lab] 9)).alloc (.cells #[.slice a m c] 22)):=by
 go_enter Tryz.func138,Tryz.ntmps138;go_wp2;go_ret;exact⟨_,rfl,rfl,rfl⟩
noncomputable def hpt (P:Nat) [NeZero P] (lab:ByteArray) (b:List UInt8):Fin P × Fin P:=(cands P lab b 256).headD (gX P,gY P)
theorem Jv{lab:ByteArray}{b:List UInt8}{i:Nat}{x:Fin P × Fin P}(h:cand P lab b i=some x):x.2*x.2=x.1*x.1*x.1+7:=by
 unfold cand at h;split at h
 ·obtain⟨y,hy,rfl⟩:=Option.map_eq_some_iff.1 h;exact Co hy
 ·cases h
theorem GE{lab:ByteArray}{b:List UInt8}{n:Nat}{x:Fin P × Fin P}(h:x∈cands P lab b n):x.2*x.2=x.1*x.1*x.1+7:=by
 unfold cands at h;obtain⟨i,-,hi⟩:=List.mem_filterMap.1 h;exact Jv hi
theorem pJ(C:Fld P)(lab:ByteArray)(b:List UInt8):EC.On (.some (hpt P lab b):EC.Pt P):=by
 unfold hpt;cases h:cands P lab b 256 with
 | nil=>exact jJ C
 | cons x r=>exact CB (x:=x.1) (y:=x.2) (GE (by rw[h];exact List.mem_cons_self))
theorem Ih(C:Fld P)(q:Fin P × Fin P)(h:EC.On (.some q:EC.Pt P)):oO q.1 q.2=wr (.some q:EC.Pt P):=qX C ⟨rfl,rfl⟩ h
theorem LJ(C:Fld P)(lab:ByteArray)(b:List UInt8):oO (hpt P lab b).1 (hpt P lab b).2=wr (.some (hpt P lab b):EC.Pt P):=Ih C _ (pJ C lab b)
theorem D8(C:Fld P)(lab:ByteArray)(a:Option Addr)(m c:Nat)(b:List UInt8)(w:World)(hlab:lab.size<=1000000)(hb:SP.PartOk w (.slice a m c) b):
 Calls prog 137 #[.func (.func 163) #[] #[.pointer (some ⟨w.heap.size,0,none⟩),.pointer (some ⟨w.heap.size+1,0,none⟩)]] ((w.alloc (.cells #[.string lab] 9)).alloc (.cells #[.slice a m c] 22)) (Ret fun e w'=>Below w.heap.size w w'/\e=pv (hpt P lab b).1 (hpt P lab b).2):=by
 have hM1:=RG.Made.alloc w [.string lab] 9;have hM2:=RG.Made.alloc (w.alloc (.cells #[.string lab] 9)) [.slice a m c] 22;have hB1:Below w.heap.size w ((w.alloc (.cells #[.string lab] 9)).alloc (.cells #[.slice a m c] 22)):=((Below.refl _ w).alloc (Nat.le_refl _) _).alloc (by rw[World.size_alloc];omega) _;have hs:((w.alloc (.cells #[.string lab] 9)).alloc (.cells #[.slice a m c] 22)).heap.size=w.heap.size+2:=by rw[World.size_alloc,World.size_alloc]
 have h1:((w.alloc (.cells #[.string lab] 9)).alloc (.cells #[.slice a m c] 22)).cell? ⟨w.heap.size,0,none⟩=some (.string lab):=by
  rw[World.cell?_of_block (a:=⟨w.heap.size,0,none⟩) (Below.heap_alloc _ _ _ (by rw[World.size_alloc];exact Nat.lt_succ_self _))];exact hM1.range 0 _ rfl
 have h2:((w.alloc (.cells #[.string lab] 9)).alloc (.cells #[.slice a m c] 22)).cell? ⟨w.heap.size+1,0,none⟩=some (.slice a m c):=by
  have:=hM2.range 0 _ rfl;rwa[World.size_alloc]at this
 refine(Jm C _ (cands P lab b 256) 256 _ (fun n=>LI C lab (.slice a m c) b w.heap.size (w.heap.size+1) _ hlab h1 h2 (by omega) (by omega) (hb.below hB1) n)).mono ?_;rintro e w' ⟨v,rfl,hb2,rfl⟩;exact⟨_,rfl,hB1.trans (hb2.mono hB1.size),rfl⟩
theorem G4(C:Fld P)(lab:ByteArray)(a:Option Addr)(m c:Nat)(b:List UInt8)(w:World)(hlab:lab.size<=1000000)(hb:SP.PartOk w (.slice a m c) b):
 Calls prog 97 #[.string lab,.slice a m c] w (Ret fun e w'=>Below w.heap.size w w'/\Aq w (wr (.some (hpt P lab b):EC.Pt P)) e w'):=by
 have hF:=D8 C lab a m c b w hlab hb;have hBt:∀w,Calls prog 18 #[pv (hpt P lab b).1 (hpt P lab b).2] w (Ret fun e w'=>Below w.heap.size w w'/\lI w (oO (hpt P lab b).1 (hpt P lab b).2) e w'):=xG C _ _;rw[LJ C]at hBt;generalize pv (hpt P lab b).1 (hpt P lab b).2=v4 at hF hBt;clear hb;go_enter Tryz.func97,Tryz.ntmps97;go_wp2_with fail
 refine(A5 lab a m c w).mono ?_;rintro e w1 ⟨v,rfl,rfl,rfl⟩;go_wp2_with fail
 refine hF.mono ?_;rintro e w2 ⟨v,rfl,hb2,rfl⟩;have HB2:Hid (Below w.heap.size w w2):=hb2;clear hb2 hF;go_wp2_with fail
 refine(hBt _).mono ?_;rintro e w3 ⟨v,rfl,hb3,g,cap3,rfl,hc3,hg3,hlt3,hH3⟩;have HB3:Hid (Below w.heap.size w w3):=HB2.out.trans (hb3.mono HB2.out.size);have HO:Hid (Aq w (wr (.some (hpt P lab b):EC.Pt P)) (.tuple #[.slice (some ⟨g,0,none⟩) 33 cap3,.int .i64 0]) w3):=⟨g,cap3,rfl,hc3,Nat.le_trans HB2.out.size hg3,hlt3,hH3⟩
 clear hb3 hH3 hBt;go_wp2
 go_ret2
 exact⟨_,rfl,HB3.out,HO.out⟩
end
section
open Go.RowKit Go.Sort Go.Deep
variable {P:Nat}[NeZero P]{N:Nat}
theorem Jy(C:Fld P)(lb:ByteArray)(hlb:lb.size<=1000000)(ta:Option Addr)(tl tc:Nat)(tx:List UInt8)(w:World)(hP:SP.PartOk w (.slice ta tl tc) tx):
 Calls prog 60 #[.string lb,.slice ta tl tc] w (Ret fun e w'=>Below w.heap.size w w'/\e=pvl (wr (.some (hpt P lb tx):EC.Pt P))):=by
 obtain⟨T,hT⟩:∃T,Hid (wr (.some (hpt P lb tx):EC.Pt P)=T):=⟨_,rfl⟩
 have hTs:T.size=33:=by rw[<-hT.out];exact aL _
 rw[hT.out];have HC:Hid (Fld P):=C;have HP:=Hid.mk' hP;have HL:=Hid.mk' hlb;clear C hP hlb;obtain⟨w1,hw1⟩:∃w1,Hid (w.alloc (.cells z33.toArray 61)=w1):=⟨_,rfl⟩
 have K1:Hid (Row w1 w.heap.size z33/\Below w.heap.size w w1):=by rw[<-hw1.out];exact⟨aG w _ _,aE w _⟩
 obtain⟨d,hd1,hd2⟩:=Option.map_eq_some_iff.1 uCP;have HD:Hid (prog.underlying 61=some d/\d.isRow=true):=⟨hd1,hd2⟩
 clear hd1 hd2;go_enter Tryz.func60,Tryz.ntmps60;go_wp2_with (refine aJ (v:=.pointer (some ⟨w.heap.size,0,none⟩)) (w':=w1) rfl (.alloc 61) rfl ?_ ?_;(rw[<-hw1.out];kernel_rfl))
 refine(G4 HC.out lb ta tl tc tx w1 HL.out (HP.out.below K1.out.2)).mono ?_;rintro e w2 ⟨vv,rfl,hb2,g,cg,rfl,-,-,k3,k4⟩;rw[hT.out]at k4;have K2:Hid (Row w2 w.heap.size z33/\Below w.heap.size w w2/\Row w2 g (aA T)):=⟨K1.out.1.below hb2,K1.out.2.trans (hb2.mono K1.out.2.size),AQ k4 k3⟩
 clear hb2 k3 k4 K1 hw1;have harr:=GR g cg;obtain⟨w3,hw3⟩:∃w3,Hid (w2.setCells w.heap.size 0 (aA T)=w3):=⟨_,rfl⟩
 have hlen:(aA T).length=33:=aC hTs;have K3:Hid (Row w3 w.heap.size (aA T)/\Below w.heap.size w w3):=by rw[<-hw3.out];exact⟨K2.out.1.put (by rw[hlen];rfl),RG.below_setCells (Nat.le_refl _) _ _ _ K2.out.2.1⟩
 obtain⟨vt,hvt⟩:∃vt,Hid (Value.agg (aA T).toArray=vt):=⟨_,rfl⟩
 have HI:Hid ((prog.info? 61).map (·.size)=some (aA T).length/\w2.there w.heap.size 0 (aA T).toArray.size/\(prog.info? 61).map (·.size)=some (aA T).toArray.size):=by
  have e:(aA T).toArray.size=33:=by rw[List.size_toArray];exact hlen
  refine⟨by rw[hlen];exact aI,by rw[e];exact K2.out.1.2.2,by rw[e];exact aI⟩
 clear hlen;go_wp2_with (first|(refine wpList_load_mid rfl 61 _ rfl g 0 ?_ (aA T) d ?_ ?_ ?_ ?_ ?_;rfl;exact K2.out.2.2.2.1;exact HD.out.1;exact HD.out.2;exact HI.out.1;rw[hvt.out])|(refine wpList_store_mid rfl 61 _ _ rfl w.heap.size 0 (aA T).toArray ?_ ?_ ?_ ?_ ?_ ?_;rfl;exact hvt.out.symm;exact HI.out.2.1;exact HI.out.2.2;exact bW T;rw[show(aA T).toArray.toList=aA T from rfl,hw3.out]))
 refine bodyPost_ret (aY 4 61 rfl K3.out.1 rfl uCP HI.out.1) rfl ?_;exact⟨_,rfl,K3.out.2,rfl⟩
end
section
open Go.RowKit Go.Sort Go.Deep
variable {P:Nat}[NeZero P]{N:Nat}
theorem J5:Gives 84 #[.int .u64 1] (nv 1):=by
 intro w;go_enter Tryz.func84,Tryz.ntmps84;refine RG.M.enter [(0,.v (.int .u64 1))] 6 (by kernel_rfl) ?_;intro a0 M0;repeat refine wp_seq ?_
 refine M0.t [.m 2 [] 0] [(0,RG.z 4)] [] [RG.z 4] [(0,.v (.int .u64 1)),(2,.p 0 0)] ⟨RG.mk 0 82,trivial⟩ ?_;intro k a1 w1 M1;repeat refine wp_seq ?_
 refine M1.t [.x 3 [] (.int .u64 1),.x 4 [(3,0)] (nv 1),.x 5 [(4,1)] (nv 1),.u [(5,2)] 0] [] [(0,3,wn 1)] [wn 1] [(2,.p 0 0)] ⟨RG.st,RG.st,RG.st,RG.pt i40,trivial⟩ ?_;intro a2 w2 M2;refine wp_ret ?_;refine bodyPost_ret (v:=nv 1) (RG.aD M2.st 2 82 rfl 0 _ rfl (M2.at (s:=(.p 0 0))) u40 i40) M2.sl.defers ?_;exact⟨_,rfl,M2.st.bel.below,rfl⟩
def Sm(B:Nat)(W:World)(v:Value)(l:List (Nat × Bs)):Prop:=∃g c,v=.slice (some ⟨g,0,none⟩) l.length c/\l.length<=c/\B<=g/\g<W.heap.size/\W.rangeAt g 0 (aV l)
theorem Sm.grow{B:Nat}{W W':World}{v:Value}{l:List (Nat × Bs)}(h:Sm B W v l)(hb:Below W.heap.size W W'):Sm B W' v l:=by
 obtain⟨g,c,h1,h2,h3,h4,h5⟩:=h;exact⟨g,c,h1,h2,h3,Nat.lt_of_lt_of_le h4 hb.size,RG.aO h5 hb h4⟩
theorem cellsT_one'(n:Nat)(a:Bs):aV [(n,a)]=wn n++aA a:=by rw[dZ];exact List.append_nil _
theorem Sm.one{B W k n}{w:World}{a:Bs}(h:Row w k (wn n++aA a))(hB:B<=k)(hW:w=W):Sm B W (.slice (some ⟨k,0,none⟩) 1 1) [(n,a)]:=by
 subst hW;exact⟨k,1,rfl,Nat.le_refl _,hB,h.1,by rw[cellsT_one'];exact h.2.1⟩
section
variable (a:Bs) (w:World) (k1:Nat)
def Ron:Nat->Value->World->Prop
 | 0,v,_=>v=pvl a
 | 1,v,_=>v=nv 1
 | 2,v,W=>Sm w.heap.size W v [(1,a)]
 | 3,v,W=>Sm w.heap.size W v [(1,a)]
 | _,_,_=>True
def Gon:RG.Gw:=⟨Ron a w,fun W=>Row W k1 (aA a)/\Below w.heap.size w W,fun i v W W' hb h=>by
 match i,h with
 | 0,h=>exact h
 | 1,h=>exact h
 | 2,h=>exact Sm.grow h hb
 | 3,h=>exact Sm.grow h hb
 | _+4,_=>trivial,fun W W' hb h=>⟨h.1.below hb,h.2.trans (hb.mono h.2.size)⟩⟩
end
theorem FD(a:Bs)(ha:a.size=33)(w:World):Calls prog 47 #[pvl a] w (Ret fun e w'=>Below w.heap.size w w'/\Sm w.heap.size w' e [(1,a)]):=by
 have B1:=Hid.mk' (qJ ha w);obtain⟨w1,hw1⟩:∃w1,Hid (w.alloc (.cells (aA a).toArray 61)=w1):=⟨_,rfl⟩
 rw[hw1.out]at B1;have K:Hid (Row w1 w.heap.size (aA a)/\Below w.heap.size w w1):=by rw[<-hw1.out];exact⟨aG w _ _,aE w _⟩
 obtain⟨va,hva⟩:∃v,Hid (pvl a=v):=⟨_,rfl⟩
 have B1':Hid ((Instr.box 61 va).run prog w=.ok (.pointer (some ⟨w.heap.size,0,none⟩)) w1):=by rw[<-hva.out];exact B1
 rw[hva.out];clear B1 hw1;go_enter Tryz.func47,Tryz.ntmps47;go_wp2_with (first|(refine bI (u:=va) (v:=.pointer (some ⟨w.heap.size,0,none⟩)) (w':=w1) rfl 61 (.tmp 0) rfl ?_ ?_ ?_;rfl;exact B1'.out)|fail)
 refine(Gon a w w.heap.size).draws (by kernel_rfl) (by kernel_rfl) ⟨
  RG.bJ 61 1 rfl uCP fun a' W hp=>⟨w.heap.size,0,aA a,hp.o 1 (by kernel_rfl),hp.b.1.2.1,by rw[aC ha];exact aI,rfl⟩,
  RG.bG fun a' W hp=>⟨[],84,#[.int .u64 1],trivial,by kernel_rfl,(J5 W).mono (by
   rintro e W' ⟨u,rfl,hb,rfl⟩;exact⟨_,rfl,hb,rfl⟩)⟩,
  RG.bG fun a' W hp=>⟨[(3,pvl a),(4,nv 1)],50,#[pvl a,nv 1],⟨hp.n 0 3 (by kernel_rfl) (by kernel_rfl),hp.n 1 4 (by kernel_rfl) (by kernel_rfl),trivial⟩,by kernel_rfl,(eN a ha 1 W).mono (by
   rintro e W' ⟨u,rfl,hb,k,rfl,hk,hR⟩;exact⟨_,rfl,hb,Sm.one hR (Nat.le_trans hp.b.2.size hk) rfl⟩)⟩,
  RG.aK fun a' W hp=>⟨[(5,a'.eval (.tmp 5))],a'.eval (.tmp 5),W,⟨rfl,trivial⟩,by kernel_rfl,Below.refl _ _,hp.n 2 5 (by kernel_rfl) (by kernel_rfl)⟩,trivial⟩ ⟨K.out.1,K.out.2.drew⟩ ?_
 intro V w2 hR hB;have HS:Hid (Sm w.heap.size w2 (V 3) [(1,a)]):=hR 3 (Nat.lt_of_succ_le (Nat.le_of_ble_eq_true (by kernel_rfl)));have HB:Hid (Below w.heap.size w w2):=hB.2;dsimp only[RG.eK,Nat.reduceAdd];simp only[Act.put,List.setIfInBounds_toArray,List.set_cons_succ,List.set_cons_zero];generalize V 3=s3 at HS⊢;clear hR hB;go_wp2;go_ret;exact⟨_,rfl,HB.out,HS.out⟩
theorem infoT':(prog.info? 138).map (fun i=>(i.size,i.bytes,i.zero.map fun z=>z.cells.size))=some (37,72,some 37):=by kernel_rfl
theorem Jj(n:Nat)(hn:n<=10000000)(w:World):Calls prog 121 #[.slice none 0 0,.int .i64 n] w (Ret fun e w'=>Below w.heap.size w w'/\w'.ownsRow w.heap.size 138 37 e 0 []):=by
 by_cases h0:n=0
 ·subst h0;go_enter Tryz.func121,Tryz.ntmps121;go_wp2;go_ret;exact⟨_,rfl,Below.refl _ _,World.ownsRow_nil _ _ _ _⟩
 ·obtain⟨i,hi,he⟩:=Option.map_eq_some_iff.1 infoT';simp only[Prod.mk.injEq]at he;obtain⟨h1,h2,h3⟩:=he;obtain⟨z,hz,hz2⟩:=Option.map_eq_some_iff.1 h3;have hr:=Lib.run_append_nil_zeros (P:=prog) w 86 3 86 138 i z .i64 .i64 Dt MD hi hz n (by omega) (by omega) (by omega) (by rw[h2];omega);have hcap:=grownCap_ge w n 0 138;have hcap2:=grownCap_le_maxLen w n 0 138 (by unfold maxLen;omega);have hcs:(Builtin.zeroCells z.cells n++Builtin.zeroCells z.cells (grownCap w n 0 138-n)).size=grownCap w n 0 138*37:=by rw[Array.size_append,size_zeroCells,size_zeroCells,hz2];omega
  generalize grownCap w n 0 138=cp at hr hcap hcap2 hcs;generalize Builtin.zeroCells z.cells n++Builtin.zeroCells z.cells (cp-n)=cur at hr hcs;obtain⟨w1,hw1⟩:∃w1,Hid (w.drew.alloc (.cells cur 138)=w1):=⟨_,rfl⟩
  rw[hw1.out]at hr;have HR:=Hid.mk' hr;have K:Hid (Below w.heap.size w w1/\w1.ownsRow w.heap.size 138 37 (.slice (some ⟨w.heap.size,0,none⟩) 0 cp) 0 []):=by
   rw[<-hw1.out];exact⟨(Below.refl _ _).drew.alloc (Nat.le_refl _) _,World.ownsRow_made w.drew cur cp (Nat.le_refl _) hcap2 hcs⟩
  clear hr hw1 hcs hi hz hz2 h1 h2 h3;have hn1:(0:Int)<(n:Int):=by omega
  have hn2:¬((n:Int)<0):=by omega
  have hw:IntKind.i64.wrap (n:Int)=n:=by rw[IntKind.wrap_i64];omega
  go_enter Tryz.func121,Tryz.ntmps121;go_wp2_with (at_builtin;refine Lib.wpList_append_run _ rfl _ _ _ _ rfl _ _ rfl rfl _ _ HR.out ?_)
  go_ret;exact⟨_,rfl,K.out.1,K.out.2⟩
theorem BH(l m:List (Nat × Bs)):aV (l++m)=aV l++aV m:=by unfold aV;rw[List.flatMap_append]
theorem Ee(l:List (Nat × Bs)):∀u∈aV l,u.oneCell'=true:=fun u hu=>by
 unfold aV at hu;obtain⟨x,-,hx⟩:=List.mem_flatMap.1 hu;exact cells_one x.1 x.2 u hx
theorem mY:∀ {l:List (Nat × Bs)},(∀x∈l,x.2.size=33)->(aV l).length=l.length*37
 | [],_=>rfl
 | x :: r,h=>by
  rw[dZ,List.length_append,eW (h x List.mem_cons_self),mY fun y hy=>h y (List.mem_cons_of_mem _ hy),List.length_cons];omega
theorem Fy{base B:Nat}{W:World}{v x:Value}{l m:List (Nat × Bs)}(hown:W.ownsRow base 138 37 v l.length (aV l))(hm:∀y∈m,y.2.size=33)(hx:Sm B W x m)(hn:l.length+m.length<=1000000)(hb:base<=W.heap.size):
 ∃v' W',(Builtin.append_ #[86,86] 86 #[v,x]).run prog W=.ok v' W'/\W'.ownsRow base 138 37 v' (l++m).length (aV (l++m))/\W.grownBy W' v.ownBlock:=by
 obtain⟨i,hi,he⟩:=Option.map_eq_some_iff.1 infoT';simp only[Prod.mk.injEq]at he;obtain⟨h1,h2,h3⟩:=he;obtain⟨z,hz,hz2⟩:=Option.map_eq_some_iff.1 h3;obtain⟨k,c,rfl,e1,e2,e3,e4⟩:=hx;obtain⟨v',W',r1,r2,r3,-⟩:=run_append_own (P:=prog) W base 86 86 138 i z 37 72 Dt hi hz h1 h2 hz2 (by decide) v l.length (aV l) hown ⟨k,0,none⟩ m.length c (aV m) (mY hm)
  (fun j u hj=>by
   have:=e4 j u hj;rw[Nat.zero_add]at this;rw[add0];exact this) (Ee m) (by unfold maxLen;omega) (by omega) hb
 exact⟨v',W',r1,by rw[List.length_append,BH];exact r2,r3⟩
end
section
open Go.RowKit Go.Sort Go.Deep
variable {P:Nat}[NeZero P]{N:Nat}
theorem atS(k o n c i:Nat)(hi:i<n)(w:World):(Instr.indexAt 171 (.slice (some ⟨k,o,none⟩) n c) (.int .i64 i)).run prog w=.ok (.pointer (some ⟨k,o+1*i,none⟩)) w:=by
 have h1:¬(i:Int)<0:=by omega
 have h2:(i:Int)<n:=by omega
 go_simp
def iD(L:Nat->List (Nat × Bs))(k:Nat):List (Nat × Bs):=(List.range k).flatMap L
theorem fY(L:Nat->List (Nat × Bs))(i:Nat):iD L (i+1)=iD L i++L i:=by
 unfold iD;rw[List.range_succ,List.flatMap_append];simp
theorem Dc(L:Nat->List (Nat × Bs)){k m:Nat}(hs:∀j,j<k->(L j).length<=m):∀i,i<=k->(iD L i).length<=m*i
 | 0,_=>Nat.le_refl _
 | i+1,hi=>by
  have h1:=Dc L hs i (by omega);have h2:=hs i (by omega);rw[fY,List.length_append,Nat.mul_succ];omega
theorem D9(g k c:Nat)(L:Nat->List (Nat × Bs))(hk:k<=1000)(hs:∀j,j<k->(L j).length<=600)(h33:∀j,j<k->∀x∈L j,x.2.size=33)(w:World)(hg:g<w.heap.size)(hL:∀j,j<k->∃x,w.cell? ⟨g,j,none⟩=some x/\Sm 0 w x (L j)):
 Calls prog 85 #[.slice (some ⟨g,0,none⟩) k c] w (Ret fun e w'=>Below w.heap.size w w'/\w'.ownsRow w.heap.size 138 37 e (iD L k).length (aV (iD L k))):=by
 have HL:=Hid.mk' hL;have HS:Hid (∀i,i<=k->(iD L i).length<=600*i):=Dc L hs;have HG:=Hid.mk' hg;have H3:=Hid.mk' h33;clear hL hs hg h33;go_enter Tryz.func85,Tryz.ntmps85;go_wp2_with fail
 go_loopg [3,11] k (fun m s3 s11 W=>∃i:Nat,i+m=k/\s11=.int .i64 i/\s3=.int .i64 ((iD L i).length:Int)/\w=W)
 case atStart=>exact⟨0,by omega,rfl,rfl,rfl⟩
 case round =>
  obtain⟨i,hik,rfl,rfl,rfl⟩:=hrel;by_cases hi:i<k
  ·have hi':(i:Int)<(k:Int):=by omega
   obtain⟨x,hc,hE⟩:=HL.out i hi;obtain⟨kx,cx,rfl,h1,-⟩:=hE;have hix:=atS g 0 k c i hi;rw[show 0+1*i=i by omega]at hix;have hlen:(iD L (i+1)).length=(iD L i).length+(L i).length:=by rw[fY,List.length_append]
   have hb1:=HS.out i (by omega);have hb2:=HS.out (i+1) (by omega);obtain⟨a,ha⟩:∃a,Hid ((iD L i).length=a):=⟨_,rfl⟩
   obtain⟨b,hb⟩:∃b,Hid ((L i).length=b):=⟨_,rfl⟩
   rw[ha.out]at hlen hb1;rw[hb.out]at hlen h1;rw[ha.out];have hwr:IntKind.i64.wrap ((a:Int)+(b:Int))=((a+b:Nat):Int):=by rw[IntKind.wrap_i64];omega
   have hng:¬(((a+b:Nat):Int)<0):=by omega
   rw[hb.out]at hc;go_wp2;go_roundg (gk-1)
   case measure=>omega
   case rel=>exact⟨i+1,by omega,rfl,by rw[hlen,Int.natCast_add],rfl⟩
  ·have hi':¬(i:Int)<(k:Int):=by omega
   obtain rfl:i=k:=by omega
   go_wp2_with fail
   refine(Jj (iD L i).length (by have:=HS.out i (Nat.le_refl _);omega) w).mono ?_;rintro e w1 ⟨v,rfl,hb1,ho1⟩;have K1:Hid (Below w.heap.size w w1/\w1.ownsRow w.heap.size 138 37 v (iD L 0).length (aV (iD L 0))):=⟨hb1,ho1⟩
   clear hb1 ho1;go_wp2_with fail
   go_loopg [6,27] i (fun m s6 s27 W=>∃j:Nat,j+m=i/\s27=.int .i64 j/\Hid (Below w.heap.size w W/\W.ownsRow w.heap.size 138 37 s6 (iD L j).length (aV (iD L j))))
   case atStart=>exact⟨0,by omega,rfl,K1⟩
   case round =>
    clear K1;obtain⟨j,hjk,rfl,KM⟩:=hrel;by_cases hj:j<i
    ·have hj':(j:Int)<(i:Int):=by omega
     obtain⟨x,hc0,hE0⟩:=HL.out j hj;have hc:wr.cell? ⟨g,j,none⟩=some x:=by rw[KM.out.1.cell (p:=⟨g,j,none⟩) HG.out];exact hc0
     have hE:=hE0.grow KM.out.1;have hb2:=HS.out (j+1) (by omega);have hlen:(iD L (j+1)).length=(iD L j).length+(L j).length:=by rw[fY,List.length_append]
     obtain⟨v',W',r1,r2,r3⟩:=Fy KM.out.2 (H3.out j hj) hE (by rw[<-hlen];omega) KM.out.1.size;rw[<-fY]at r2;have KN:Hid (Below w.heap.size w W'/\W'.ownsRow w.heap.size 138 37 v' (iD L (j+1)).length (aV (iD L (j+1)))):=⟨KM.out.1.grown r3 KM.out.1.size (fun k hk=>(KM.out.2.lt k hk).1),r2⟩
     have HAP:=Hid.mk' r1;obtain⟨kx,cx,rfl,-⟩:=hE;have hix:=atS g 0 i c j hj;rw[show 0+1*j=j by omega]at hix;clear r1 r2 r3 hlen hb2 KM hE0 hc0;go_wp2_with (first|(refine jM (x:=u6) (y:=.slice (some ⟨kx,0,none⟩) (L j).length cx) (v:=v') (w':=W') rfl _ _ 86 rfl ?_ ?_ ?_ ?_;rfl;rfl;exact HAP.out)|fail)
     go_roundg (gk-1)
     case measure=>omega
     case rel=>exact⟨j+1,by omega,rfl,KN⟩
    ·have hj':¬(j:Int)<(i:Int):=by omega
     obtain rfl:j=i:=by omega
     go_wp2;go_ret;exact⟨_,rfl,KM.out.1,KM.out.2⟩
theorem IX{W:World}{base:Nat}{v:Value}{l:List (Nat × Bs)}(h:W.ownsRow base 138 37 v l.length (aV l))(hl:0<l.length):Sm base W v l:=by
 have h0:=fun {g:Nat}=>h.cells (g:=g)
 rcases h.2 with⟨-,h2⟩|⟨g,cap,cur,rfl,h1,hc,hn,-⟩
 ·omega
 ·refine⟨g,cap,rfl,hn,h1,(Array.getElem?_eq_some_iff.1 hc).1,fun j u hu=>?_⟩;have:=h0 (g:=g) rfl j u hu;rw[add0]at this;rw[Nat.zero_add];exact this
theorem uB(B:Nat)(s t:Value)(l m:List (Nat × Bs))(hl0:0<l.length)(hl:l.length<=500)(hm:m.length<=500)(hl3:∀x∈l,x.2.size=33)(hm3:∀x∈m,x.2.size=33)(w:World)(h1:Sm B w s l)(h2:Sm B w t m):
 Calls prog 48 #[s,t] w (Ret fun e w'=>Below w.heap.size w w'/\Sm w.heap.size w' e (l++m)):=by
 have hb0:=hl0;obtain⟨g1,c1,e1,-⟩:=id h1;obtain⟨g2,c2,e2,-⟩:=id h2;subst e1;subst e2;obtain⟨w1,hw1⟩:∃w1,Hid (w.alloc (.cells #[.slice (some ⟨g1,0,none⟩) l.length c1,.slice (some ⟨g2,0,none⟩) m.length c2] 86)=w1):=⟨_,rfl⟩
 have hb:Below w.heap.size w w1:=by rw[<-hw1.out];exact aE _ _
 have hlt:w.heap.size<w1.heap.size:=by rw[<-hw1.out,World.size_alloc];omega
 have hM:w1.rangeAt w.heap.size 0 [.slice (some ⟨g1,0,none⟩) l.length c1,.slice (some ⟨g2,0,none⟩) m.length c2]:=by rw[<-hw1.out];exact(RG.Made.alloc w [.slice (some ⟨g1,0,none⟩) l.length c1,.slice (some ⟨g2,0,none⟩) m.length c2] 86).range
 have HC:=Hid.mk' (D9 w.heap.size 2 2 (fun j=>if j=0 then l else m) (by decide) (fun j _=>by show(if j=0 then l else m).length<=600;split<;>omega) (fun j _=>by
  show ∀x∈(if j=0 then l else m),x.2.size=33;split
  ·exact hl3
  ·exact hm3) w1 hlt (fun j hj=>by
  have hz:∀ {v:Value}{l:List (Nat × Bs)},Sm B w v l->Sm 0 w1 v l:=fun h=>by
   obtain⟨g,c,q1,q2,-,q4,q5⟩:=h.grow hb;exact⟨g,c,q1,q2,Nat.zero_le _,q4,q5⟩
  have hj2:j=0\/j=1:=by omega
  rcases hj2 with rfl|rfl
  ·exact⟨_,hM 0 _ rfl,hz h1⟩
  ·exact⟨_,hM 1 _ rfl,hz h2⟩))
 have hcat:iD (fun j=>if j=0 then l else m) 2=l++m:=by rw[fY,fY];rfl
 have HB:=Hid.mk' hb;have HK:Hid (iD (fun j=>if j=0 then l else m) 2=l++m/\0<(l++m).length):=⟨hcat,by rw[List.length_append];omega⟩
 clear h1 h2 hM hlt hb hcat hl3 hm3;go_enter Tryz.func48,Tryz.ntmps48;go_wp2_with fail
 rw[hw1.out];refine HC.out.mono ?_;rintro e w2 ⟨vv,rfl,hb2,ho⟩;rw[HK.out.1]at ho;have K2:Hid (Below w.heap.size w w2/\Sm w.heap.size w2 vv (l++m)):=by
  obtain⟨g,c,q1,q2,q3,q4,q5⟩:=IX ho HK.out.2;exact⟨HB.out.trans (hb2.mono HB.out.size),g,c,q1,q2,Nat.le_trans HB.out.size q3,q4,q5⟩
 clear hb2 ho HC;go_wp2;go_ret;exact⟨_,rfl,K2.out.1,K2.out.2⟩
theorem Sm.point(C:Fld P)(O:Ord N)(hord:∀r:EC.Pt P,EC.On r->EC.mul N r=none){B:Nat}{w:World}{v:Value}{l:List (Nat × Bs)}(h:Sm B w v l)(hl0:0<l.length)(hl:l.length<=512)(hn:∀x∈l,x.1<N)(hp:PtsL P l):
 Calls prog 51 #[v] w (Ret fun e w'=>Below w.heap.size w w'/\e=pvl (wr (eI P l))):=by
 obtain⟨g,c,rfl,-,-,hg,hr⟩:=h;have h33:∀x∈l.map (·.2),x.size=33:=fun x hx=>by
  obtain⟨y,hy,rfl⟩:=List.mem_map.1 hx;obtain⟨X,-,e⟩:=hp y hy;rw[e];exact aL _
 have hm:∀j (hj:j<l.length),((l[j]?).getD (0,#[]))=l[j]:=fun j hj=>by rw[List.getElem?_eq_getElem hj];rfl
 have hX:∀j,j<l.length->EC.On (d5 P ((l[j]?).getD (0,#[])).2):=fun j hj=>by rw[hm j hj];exact hp.on C (List.getElem_mem hj)
 refine(AH C O hord g l.length c hl0 hl (fun j=>((l[j]?).getD (0,#[])).1) (fun j=>d5 P ((l[j]?).getD (0,#[])).2) (fun j hj=>by rw[hm j hj];exact hn _ (List.getElem_mem hj)) hX w hg (fun j hj=>?_)).mono ?_
 ·rw[hm j hj];obtain⟨X,x1,x2⟩:=hp _ (List.getElem_mem hj);rw[x2,dF C x1,<-x2];intro t u hu;have ht:t<37:=by
   have:=(List.getElem?_eq_some_iff.1 hu).1;rw[eW (h33 _ (List.mem_map.2 ⟨_,List.getElem_mem hj,rfl⟩))]at this;exact this
  have:=hr (37*j+t) u (by rw[jK l h33 j hj t ht];exact hu);rw[Nat.zero_add]at this;exact this
 ·rintro e w' ⟨u,rfl,hb,rfl⟩;refine⟨_,rfl,hb,?_⟩;rw[rG C l hp _ (Nat.le_refl _),List.take_length]
end
section
open Go.RowKit Go.Sort Go.Deep
variable {P:Nat}[NeZero P]{N:Nat}
structure Kp(w:World)(W:World)(rs:List (Nat × List Value)):Prop where
 bl:Below w.heap.size w W
 rw:∀x∈rs,Row W x.1 x.2
theorem Kp.grow{w W W':World}{rs:List (Nat × List Value)}(h:Kp w W rs)(hb:Below W.heap.size W W'):Kp w W' rs:=⟨h.bl.trans (hb.mono h.bl.size),fun x hx=>(h.rw x hx).below hb⟩
theorem Kp.drew{w W:World}{rs:List (Nat × List Value)}(h:Kp w W rs):Kp w W.drew rs:=⟨h.bl.drew,h.rw⟩
theorem Kp.cons{w W:World}{rs:List (Nat × List Value)}{k:Nat}{c:List Value}(h:Kp w W rs)(hr:Row W k c):Kp w W ((k,c) :: rs):=⟨h.bl,fun x hx=>by
 rcases List.mem_cons.1 hx with rfl|hx
 ·exact hr
 ·exact h.rw x hx⟩
theorem Kp.at{w W:World}{rs:List (Nat × List Value)}(h:Kp w W rs){k:Nat}{c:List Value}(i:Nat)(hi:rs[i]? = some (k,c)):Row W k c:=h.rw _ (List.mem_of_getElem? hi)
theorem Kp.put{w W:World}{rs:List (Nat × List Value)}{k:Nat}{old new:List Value}(h:Kp w W rs)(hr:Row W k old)(hl:new.length=old.length)(hk:w.heap.size<=k)(hne:∀x∈rs,x.1≠k):Kp w (W.setCells k 0 new) ((k,new) :: rs):=
 ⟨RG.below_setCells hk _ _ _ h.bl,fun x hx=>by
  rcases List.mem_cons.1 hx with rfl|hx
  ·exact hr.put hl
  ·exact(h.rw x hx).other (hne x hx)⟩
def Nw(B:Nat)(c:List Value)(v:Value)(W:World):Prop:=∃k,v=.pointer (some ⟨k,0,none⟩)/\B<=k/\Row W k c
theorem Nw.grow{B:Nat}{c:List Value}{v:Value}{W W':World}(h:Nw B c v W)(hb:Below W.heap.size W W'):Nw B c v W':=by
 obtain⟨k,h1,h2,h3⟩:=h;exact⟨k,h1,h2,h3.below hb⟩
section
variable (w:World) (k6 k8 k9 k10 x kk c z B0:Nat) (A F:Bs) (v1:Value)
def Two(v:Value)(W:World):Prop:=∃k y,v=.slice (some ⟨k,0,none⟩) 2 2/\k<W.heap.size/\W.cell? ⟨k,0,none⟩=some (.slice (some ⟨k9,0,none⟩) 33 33)/\W.cell? ⟨k,1,none⟩=some y/\El 32 W y (bx z)
end
end
section
open Go.RowKit Go.Sort Go.Deep
variable {P:Nat}[NeZero P]{N:Nat}
def aQ:ByteArray:=⟨#[116,111,107,101,110]⟩
theorem gC{P:Program}{fn:Func}{tmps:Array Value}{W:World}{k:Nat}{vs:List Value}{v:Value}(t u:Tmp)(T:TypeId)(hr:fn.results=#[.cell t T,.tmp u])(h:Row W k vs)(ht:tmps[t]? = some (.pointer (some ⟨k,0,none⟩)))(hv:tmps[u]? = some v)
 (hu:(P.underlying T).map (·.isRow)=some true) (hi:(P.info? T).map (·.size)=some vs.length):(results fn tmps).run P W=.ok (.tuple #[.agg vs.toArray,v]) W:=by
 obtain⟨d,hu,hd⟩:=Option.map_eq_some_iff.1 hu;have h1:=run_loadVar_mid (P:=P) W k 0 T vs d h.2.1 hu hd hi;have h2:tmps.getD t undef=.pointer (some ⟨k,0,none⟩):=by rw[Array.getD_eq_getD_getElem?,ht];rfl
 have h3:tmps.getD u undef=v:=by rw[Array.getD_eq_getD_getElem?,hv];rfl
 unfold results;rw[hr];simp only[Array.mapM_eq_mapM_toList,List.mapM_cons,List.mapM_nil,h2,h3,asAddr];simp[Sem.run_bind,h1]
theorem Kk(w:World):(Instr.build 61 #[]).run prog w=.ok (.agg z33.toArray) w:=by kernel_rfl
theorem zC(C:Fld P)(ta:Option Addr)(tl tc:Nat)(tx:List UInt8)(w:World)(hP:SP.PartOk w (.slice ta tl tc) tx)(h1:1<=tl)(h2:tl<=64):
 Calls prog 24 #[.slice ta tl tc] w (Ret fun e w'=>Below w.heap.size w w'/\e=.tuple #[pvl (wr (.some (hpt P aQ tx):EC.Pt P)),.bool true]):=by
 have HH:Hid (∀W,SP.PartOk W (.slice ta tl tc) tx->Calls prog 60 #[.string aQ,.slice ta tl tc] W (Ret fun e w'=>Below W.heap.size W w'/\e=pvl (wr (.some (hpt P aQ tx):EC.Pt P)))):=fun W h=>Jy C aQ (by decide) ta tl tc tx W h
 obtain⟨T,hT⟩:∃T,Hid (wr (.some (hpt P aQ tx):EC.Pt P)=T):=⟨_,rfl⟩
 have hTs:T.size=33:=by rw[<-hT.out];exact aL _
 have HTs:=Hid.mk' hTs;rw[hT.out]at HH⊢;have HP:=Hid.mk' hP;clear C hP;obtain⟨w1,hw1⟩:∃w1,Hid (w.alloc (.cells z33.toArray 61)=w1):=⟨_,rfl⟩
 have K1:Hid (Row w1 w.heap.size z33/\Below w.heap.size w w1):=by rw[<-hw1.out];exact⟨aG w _ _,aE w _⟩
 have g1:((tl:Int) == 0)=false:=beq_eq_false_iff_ne.2 (by omega);have g2:¬((64:Int)<(tl:Int)):=by omega
 clear h1 h2 hTs;go_enter Tryz.func24,Tryz.ntmps24;go_wp2_with (first|(refine aJ (v:=.pointer (some ⟨w.heap.size,0,none⟩)) (w':=w1) rfl (.alloc 61) rfl ?_ ?_;(rw[<-hw1.out];kernel_rfl))|fail)
 refine(HH.out w1 (HP.out.below K1.out.2)).mono ?_;rintro e w2 ⟨vv,rfl,hb2,rfl⟩;have K2:Hid (Row w2 w.heap.size z33/\Below w.heap.size w w2):=⟨K1.out.1.below hb2,K1.out.2.trans (hb2.mono K1.out.2.size)⟩
 clear hb2 K1 hw1 HH;obtain⟨w3,hw3⟩:∃w3,Hid (w2.setCells w.heap.size 0 (aA T)=w3):=⟨_,rfl⟩
 have hlen:(aA T).length=33:=aC HTs.out;have K3:Hid (Row w3 w.heap.size (aA T)/\Below w.heap.size w w3):=by rw[<-hw3.out];exact⟨K2.out.1.put (by rw[hlen];rfl),RG.below_setCells (Nat.le_refl _) _ _ _ K2.out.2⟩
 obtain⟨vt,hvt⟩:∃vt,Hid (pvl T=vt):=⟨_,rfl⟩
 have HI:Hid ((prog.info? 61).map (·.size)=some (aA T).length/\w2.there w.heap.size 0 (aA T).toArray.size/\(prog.info? 61).map (·.size)=some (aA T).toArray.size):=by
  have e:(aA T).toArray.size=33:=by rw[List.size_toArray];exact hlen
  refine⟨by rw[hlen];exact aI,by rw[e];exact K2.out.1.2.2,by rw[e];exact aI⟩
 clear hlen;rw[hvt.out];go_wp2_with (first|(refine wpList_store_mid rfl 61 _ _ rfl w.heap.size 0 (aA T).toArray ?_ ?_ ?_ ?_ ?_ ?_;rfl;exact hvt.out.symm;exact HI.out.2.1;exact HI.out.2.2;exact bW T;rw[show(aA T).toArray.toList=aA T from rfl,hw3.out])|fail)
 refine bodyPost_ret (gC 2 3 61 rfl K3.out.1 rfl rfl uCP HI.out.1) rfl ?_;exact⟨_,rfl,K3.out.2,by rw[<-hvt.out];rfl⟩
theorem FV(ta:Option Addr)(tl tc:Nat)(w:World)(h:¬(1<=tl/\tl<=64)):
 Calls prog 24 #[.slice ta tl tc] w (Ret fun e w'=>Below w.heap.size w w'/\e=.tuple #[.agg z33.toArray,.bool false]):=by
 obtain⟨w1,hw1⟩:∃w1,Hid (w.alloc (.cells z33.toArray 61)=w1):=⟨_,rfl⟩
 have K1:Hid (Row w1 w.heap.size z33/\Below w.heap.size w w1):=by rw[<-hw1.out];exact⟨aG w _ _,aE w _⟩
 obtain⟨w3,hw3⟩:∃w3,Hid (w1.setCells w.heap.size 0 z33=w3):=⟨_,rfl⟩
 have K3:Hid (Row w3 w.heap.size z33/\Below w.heap.size w w3):=by rw[<-hw3.out];exact⟨K1.out.1.put rfl,RG.below_setCells (Nat.le_refl _) _ _ _ K1.out.2⟩
 obtain⟨vt,hvt⟩:∃vt,Hid (Value.agg z33.toArray=vt):=⟨_,rfl⟩
 have HB:=Hid.mk' (Kk w1);rw[hvt.out]at HB;have HO:Hid (z33.toArray.all (·.oneCell')=true):=by show _=_;decide +kernel
 by_cases h0:tl=0
 ·subst h0;go_enter Tryz.func24,Tryz.ntmps24;go_wp2_with (first|(refine aJ (v:=.pointer (some ⟨w.heap.size,0,none⟩)) (w':=w1) rfl (.alloc 61) rfl ?_ ?_;(rw[<-hw1.out];kernel_rfl))|(refine f9 (v:=vt) (w':=w1) rfl 61 _ rfl #[] ?_ ?_ ?_;kernel_rfl;exact HB.out)|(refine wpList_store_mid rfl 61 _ _ rfl w.heap.size 0 z33.toArray ?_ ?_ ?_ ?_ ?_ ?_;rfl;exact hvt.out.symm;exact K1.out.1.2.2;exact aI;exact HO.out;rw[show z33.toArray.toList=z33 from rfl,hw3.out])|fail)
  refine bodyPost_ret (gC 2 3 61 rfl K3.out.1 rfl rfl uCP aI) rfl ?_;exact⟨_,rfl,K3.out.2,rfl⟩
 ·have g1:((tl:Int) == 0)=false:=beq_eq_false_iff_ne.2 (by omega);have g2:((64:Int)<(tl:Int)):=by omega
  go_enter Tryz.func24,Tryz.ntmps24;go_wp2_with (first|(refine aJ (v:=.pointer (some ⟨w.heap.size,0,none⟩)) (w':=w1) rfl (.alloc 61) rfl ?_ ?_;(rw[<-hw1.out];kernel_rfl))|(refine f9 (v:=vt) (w':=w1) rfl 61 _ rfl #[] ?_ ?_ ?_;kernel_rfl;exact HB.out)|(refine wpList_store_mid rfl 61 _ _ rfl w.heap.size 0 z33.toArray ?_ ?_ ?_ ?_ ?_ ?_;rfl;exact hvt.out.symm;exact K1.out.1.2.2;exact aI;exact HO.out;rw[show z33.toArray.toList=z33 from rfl,hw3.out])|fail)
  refine bodyPost_ret (gC 2 3 61 rfl K3.out.1 rfl rfl uCP aI) rfl ?_;exact⟨_,rfl,K3.out.2,rfl⟩
theorem Mj(g o cg:Nat)(w:World):(Instr.arrayAt 61 (.slice (some ⟨g,o,none⟩) 33 cg)).run prog w=.ok (.pointer (some ⟨g,o,none⟩)) w:=by kernel_rfl
theorem mF{bs:Bs}{p:Fin P × Fin P}(h:rd P bs=some p):bs.size=33:=by
 unfold rd at h;split at h
 ·assumption
 ·cases h
theorem D4{W:World}{g o:Nat}{b:Bs}(h:Holds encB W g o b):W.rangeAt g o (aA b):=fun j u hu=>by
 unfold aA at hu;rw[List.getElem?_map]at hu;obtain⟨x,hx,rfl⟩:=Option.map_eq_some_iff.1 hu;have hj:j<b.size:=by have:=(List.getElem?_eq_some_iff.1 hx).1;simpa using this
 rw[(h j hj).1,getElem!_pos b j hj];rw[Array.getElem?_toList,Array.getElem?_eq_getElem hj]at hx;rw[Option.some.inj hx]
theorem xE(C:Fld P)(v:Value)(bs:Bs)(p:Fin P × Fin P)(w:World)(hv:Arg33 w v bs)(hr:rd P bs=some p):Calls prog 25 #[v] w (Ret fun e w'=>Below w.heap.size w w'/\e=.tuple #[pvl bs,.bool true]):=by
 have hs:=mF hr;have HG:Hid (∀W,Below w.heap.size w W->Calls prog 61 #[v] W (Ret fun e w'=>Below W.heap.size W w'/\e=.bool true)):=fun W hb=>by
  have h:=zL C v bs W (hv.below hb);rw[hr]at h;exact h
 obtain⟨q,n,cap,rfl,e1,e2⟩:=hv;rw[hs]at e1;subst e1;obtain⟨g,o,rfl,-,hg,hH⟩:=e2 rfl;have HH:Hid (w.rangeAt g o (aA bs)/\g<w.heap.size):=⟨D4 hH,hg⟩
 obtain⟨w1,hw1⟩:∃w1,Hid (w.alloc (.cells z33.toArray 61)=w1):=⟨_,rfl⟩
 have K1:Hid (Row w1 w.heap.size z33/\Below w.heap.size w w1):=by rw[<-hw1.out];exact⟨aG w _ _,aE w _⟩
 obtain⟨d,hd1,hd2⟩:=Option.map_eq_some_iff.1 uCP;have HD:Hid (prog.underlying 61=some d/\d.isRow=true):=⟨hd1,hd2⟩
 have HS:=Hid.mk' hs;have harr:=Mj g o cap;clear hd1 hd2 C hr hs hH hg e2;go_enter Tryz.func25,Tryz.ntmps25;go_wp2_with (first|(refine aJ (v:=.pointer (some ⟨w.heap.size,0,none⟩)) (w':=w1) rfl (.alloc 61) rfl ?_ ?_;(rw[<-hw1.out];kernel_rfl))|fail)
 refine(HG.out w1 K1.out.2).mono ?_;rintro e w2 ⟨vv,rfl,hb2,rfl⟩;have K2:Hid (Row w2 w.heap.size z33/\Below w.heap.size w w2/\w2.rangeAt g o (aA bs)):=⟨K1.out.1.below hb2,K1.out.2.trans (hb2.mono K1.out.2.size),RG.aO HH.out.1 (K1.out.2.trans (hb2.mono K1.out.2.size)) HH.out.2⟩
 clear hb2 K1 hw1 HG;obtain⟨w3,hw3⟩:∃w3,Hid (w2.setCells w.heap.size 0 (aA bs)=w3):=⟨_,rfl⟩
 have hlen:(aA bs).length=33:=aC HS.out;have K3:Hid (Row w3 w.heap.size (aA bs)/\Below w.heap.size w w3):=by rw[<-hw3.out];exact⟨K2.out.1.put (by rw[hlen];rfl),RG.below_setCells (Nat.le_refl _) _ _ _ K2.out.2.1⟩
 obtain⟨vt,hvt⟩:∃vt,Hid (Value.agg (aA bs).toArray=vt):=⟨_,rfl⟩
 have HI:Hid ((prog.info? 61).map (·.size)=some (aA bs).length/\w2.there w.heap.size 0 (aA bs).toArray.size/\(prog.info? 61).map (·.size)=some (aA bs).toArray.size):=by
  have e:(aA bs).toArray.size=33:=by rw[List.size_toArray];exact hlen
  refine⟨by rw[hlen];exact aI,by rw[e];exact K2.out.1.2.2,by rw[e];exact aI⟩
 clear hlen;go_wp2_with (first|(refine wpList_load_mid rfl 61 _ rfl g o ?_ (aA bs) d ?_ ?_ ?_ ?_ ?_;rfl;exact K2.out.2.2;exact HD.out.1;exact HD.out.2;exact HI.out.1;rw[hvt.out])|(refine wpList_store_mid rfl 61 _ _ rfl w.heap.size 0 (aA bs).toArray ?_ ?_ ?_ ?_ ?_ ?_;rfl;exact hvt.out.symm;exact HI.out.2.1;exact HI.out.2.2;exact bW bs;rw[show(aA bs).toArray.toList=aA bs from rfl,hw3.out])|fail)
 refine bodyPost_ret (gC 2 3 61 rfl K3.out.1 rfl rfl uCP HI.out.1) rfl ?_;exact⟨_,rfl,K3.out.2,rfl⟩
theorem xF(C:Fld P)(v:Value)(bs:Bs)(w:World)(hv:Arg33 w v bs)(hr:rd P bs=none):Calls prog 25 #[v] w (Ret fun e w'=>Below w.heap.size w w'/\e=.tuple #[.agg z33.toArray,.bool false]):=by
 have HG:Hid (∀W,Below w.heap.size w W->Calls prog 61 #[v] W (Ret fun e w'=>Below W.heap.size W w'/\e=.bool false)):=fun W hb=>by
  have h:=zL C v bs W (hv.below hb);rw[hr]at h;exact h
 clear hv hr C;obtain⟨w1,hw1⟩:∃w1,Hid (w.alloc (.cells z33.toArray 61)=w1):=⟨_,rfl⟩
 have K1:Hid (Row w1 w.heap.size z33/\Below w.heap.size w w1):=by rw[<-hw1.out];exact⟨aG w _ _,aE w _⟩
 obtain⟨vt,hvt⟩:∃vt,Hid (Value.agg z33.toArray=vt):=⟨_,rfl⟩
 have HO:Hid (z33.toArray.all (·.oneCell')=true):=by show _=_;decide +kernel
 go_enter Tryz.func25,Tryz.ntmps25;go_wp2_with (first|(refine aJ (v:=.pointer (some ⟨w.heap.size,0,none⟩)) (w':=w1) rfl (.alloc 61) rfl ?_ ?_;(rw[<-hw1.out];kernel_rfl))|fail)
 refine(HG.out w1 K1.out.2).mono ?_;rintro e w2 ⟨vv,rfl,hb2,rfl⟩;have K2:Hid (Row w2 w.heap.size z33/\Below w.heap.size w w2):=⟨K1.out.1.below hb2,K1.out.2.trans (hb2.mono K1.out.2.size)⟩
 clear hb2 K1 hw1 HG;obtain⟨w3,hw3⟩:∃w3,Hid (w2.setCells w.heap.size 0 z33=w3):=⟨_,rfl⟩
 have K3:Hid (Row w3 w.heap.size z33/\Below w.heap.size w w3):=by rw[<-hw3.out];exact⟨K2.out.1.put rfl,RG.below_setCells (Nat.le_refl _) _ _ _ K2.out.2⟩
 have HB:=Hid.mk' (Kk w2);rw[hvt.out]at HB;go_wp2_with (first|(refine f9 (v:=vt) (w':=w2) rfl 61 _ rfl #[] ?_ ?_ ?_;kernel_rfl;exact HB.out)|(refine wpList_store_mid rfl 61 _ _ rfl w.heap.size 0 z33.toArray ?_ ?_ ?_ ?_ ?_ ?_;rfl;exact hvt.out.symm;exact K2.out.1.2.2;exact aI;exact HO.out;rw[show z33.toArray.toList=z33 from rfl,hw3.out])|fail)
 refine bodyPost_ret (gC 2 3 61 rfl K3.out.1 rfl rfl uCP aI) rfl ?_;exact⟨_,rfl,K3.out.2,rfl⟩
def o33:Bs:=Array.replicate 33 0
theorem wO:(.agg z33.toArray:Value)=pvl o33:=by
 unfold pvl z33 o33 aA;rw[Array.toList_replicate,List.map_replicate];rfl
theorem Ow{a b:Bs}(ha:a.size=33)(hb:b.size=33)(w:World):(binOp .neq 61 (pvl a) (pvl b)).run prog w=.ok (.bool (!decide (a=b))) w:=by
 have h:=LV ha hb w;have h2:(binOp .neq 61 (pvl a) (pvl b)).run prog w=(Op.equal 61 (pvl a) (pvl b) >>= fun b=>pure (Value.bool (!b))).run prog w:=rfl;rw[h2,Sem.run_bind];have h3:(Op.equal 61 (pvl a) (pvl b)).run prog w=.ok (decide (a=b)) w:=h;rw[h3];rfl
noncomputable def rdB (P:Nat) [NeZero P] (b:Bs):Bs:=if (rd P b).isSome then b else o33
theorem rP(b:Bs):(rdB P b).size=33:=by
 unfold rdB;split
 ·rename_i h
  obtain⟨p,hp⟩:=Option.isSome_iff_exists.1 h;exact mF hp
 ·rfl
theorem Jw(C:Fld P)(v:Value)(b:Bs)(w:World)(hv:Arg33 w v b):Calls prog 25 #[v] w (Ret fun e w'=>Below w.heap.size w w'/\e=.tuple #[pvl (rdB P b),.bool (rd P b).isSome]):=by
 unfold rdB;cases hr:rd P b with
 | none =>
  have:=xF C v b w hv hr;rw[wO]at this;exact this
 | some p=>exact xE C v b p w hv hr
noncomputable def real (P:Nat) [NeZero P] (b:Bs):Bool:=(rd P b).isSome && !decide (rdB P b=o33)
def Mw(f g:Nat->UInt8)(z:Bool):List RG.It:=[.x 11 [] (fpv f),.x 12 [] (.bool true),.x 13 [(12,1)] (.bool true),.x 14 [] (fpv f),.x 15 [] (fpv fun _=>0),.x 16 [(14,3),(15,4)] (.bool z),.x 17 [(13,2),(16,5)] (.bool z),.u [(11,0)] 0,.x 3 [(17,6)] (.bool z)]
theorem Ja:pvl o33=fpv fun _=>0:=wO.symm.trans rfl
theorem nH(C:Fld P)(v:Value)(b:Bs)(w:World)(hv:Arg33 w v b):Calls prog 53 #[v] w (Ret fun e w'=>Below w.heap.size w w'/\e=.tuple #[pvl (rdB P b),.bool (real P b)]):=by
 have hR:∀w',RG.BelX w.heap.size [] w w'->Calls prog 25 #[v] w' (Ret fun e w''=>Below w'.heap.size w' w''/\e=.tuple #[pvl (rdB P b),.bool (rd P b).isSome]):=fun w' hb=>Jw C v b w' (hv.below hb.below)
 have hne:=Ow (rP (P:=P) b) (show o33.size=33 from rfl);unfold real;rw[gJ (rP b)]at hR hne⊢;rw[Ja]at hne;generalize (fun i:Nat=>(rdB P b)[i]!)=f at hR hne⊢;generalize (rd P b).isSome=ok at hR⊢;generalize (!decide (rdB P b=o33))=z at hne⊢;go_enter Tryz.func53,Tryz.ntmps53;refine RG.M.enter [(0,.v v)] 18 (by kernel_rfl) ?_;intro a0 M0;repeat refine wp_seq ?_
 refine M0.t [.m 2 [] 0,.x 3 [] (.bool false)] [(0,zz 33)] [] [zz 33] [(0,.v v),(2,.p 0 0),(3,.v (.bool false))] ⟨RG.mk 0 61,RG.st,trivial⟩ ?_;intro j1 a1 w1 M1;repeat refine wp_seq ?_
 refine M1.t [.x 7 [] v,.c 8 [(7,0)] (.tuple #[fpv f,.bool ok]),.x 6 [(8,1)] (.tuple #[fpv f,.bool ok]),.x 9 [(6,2)] (fpv f),.x 10 [(6,2)] (.bool ok),.m 4 [] 1,.u [(4,5),(9,3)] 1,.x 5 [(10,4)] (.bool ok)] [(5,zz 33)] [(1,6,cL f)] [zz 33,cL f] [(2,.p 0 0),(4,.p 1 0),(5,.v (.bool ok))] ⟨RG.st,RG.clB (fun _ _=>by kernel_rfl) hR,RG.st,RG.st,RG.st,RG.mk 1 61,RG.pt aI,RG.st,trivial⟩ ?_;intro j2 a2 w2 M2;repeat refine wp_seq ?_
 cases ok with
 | true =>
  refine M2.d (Mw f f z) [] [(0,7,cL f)] [cL f,cL f] [(2,.p 0 0),(3,.v (.bool z))] ⟨RG.ld uCP aI,RG.st,RG.st,RG.ld uCP aI,RG.st,RG.aM rfl .neq 61 61 14 15 (fpv f) (fpv fun _=>0) (.bool z) rfl rfl RG.sx RG.sx (fun w=>by kernel_rfl) hne,RG.st,RG.pt aI,RG.st,trivial⟩ ?_;intro a4 w4 M4;refine wp_ret ?_;refine bodyPost_ret (v:=.tuple #[fpv f,.bool z]) (RG.aW M4.st 2 3 61 rfl 0 _ rfl (M4.at (s:=.p 0 0)) (.bool z) M4.av uCP aI) M4.sl.defers ?_;exact⟨_,rfl,M4.st.bel.below,rfl⟩
 | false =>
  refine M2.d [.x 11 [] (fpv f),.x 12 [] (.bool false),.x 13 [(12,1)] (.bool false),⟨some 14,[],(.v undef),.pass⟩,⟨some 15,[],(.v undef),.pass⟩,⟨some 16,[],(.v undef),.pass⟩,.x 17 [(13,2),(16,5)] (.bool false),.u [(11,0)] 0,.x 3 [(17,6)] (.bool false)] [] [(0,7,cL f)] [cL f,cL f] [(2,.p 0 0),(3,.v (.bool false))] ⟨RG.ld uCP aI,RG.st,RG.st,RG.bH rfl rfl,RG.bH rfl rfl,RG.bH rfl rfl,RG.st,RG.pt aI,RG.st,trivial⟩ ?_;intro a4 w4 M4;refine wp_ret ?_;refine bodyPost_ret (v:=.tuple #[fpv f,.bool false]) (RG.aW M4.st 2 3 61 rfl 0 _ rfl (M4.at (s:=.p 0 0)) (.bool false) M4.av uCP aI) M4.sl.defers ?_;exact⟨_,rfl,M4.st.bel.below,rfl⟩
theorem atP(k o n c i:Nat)(hi:i<n)(w:World):(Instr.indexAt 91 (.slice (some ⟨k,o,none⟩) n c) (.int .i64 i)).run prog w=.ok (.pointer (some ⟨k,o+33*i,none⟩)) w:=by
 have h1:¬(i:Int)<0:=by omega
 have h2:(i:Int)<n:=by omega
 go_simp
theorem Ly(N:Nat)(hN:N<=512):∃C0:List Value,C0.length=33*N/\∀w:World,(Instr.makeSlice 91 (.int .i64 N) (.int .i64 N)).run prog w=.ok (.slice (some ⟨w.heap.size,0,none⟩) N N) (w.alloc (.cells C0.toArray 61)):=by
 have hu:prog.underlying 91=some (.slice 61):=by kernel_rfl
 have hi:(prog.info? 61).map (fun i=>(i.size,decide (i.bytes<=4000),i.zero.isSome))=some (33,true,true):=by kernel_rfl
 obtain⟨i,hi1,hi2⟩:=Option.map_eq_some_iff.1 hi;simp only[Prod.mk.injEq,decide_eq_true_eq]at hi2;obtain⟨h1,h2,h3⟩:=hi2;obtain⟨z,hz⟩:=Option.isSome_iff_exists.1 h3;refine⟨(madeCells z.cells (N*33)).toList,by rw[Array.length_toList,size_madeCells,Nat.mul_comm],fun w=>?_⟩;have hb:(i.bytes:Int)*(N:Int)<=281474976710656:=by
  have:i.bytes*N<=4000*512:=Nat.mul_le_mul h2 hN;have h5:((i.bytes*N:Nat):Int)<=281474976710656:=by omega
  rwa[Int.natCast_mul]at h5
 have:=run_make (P:=prog) w 91 61 i z hu hi1 hz .i64 .i64 (N:Int) (N:Int) (by omega) (by omega) hb (by omega);rw[Int.toNat_natCast,h1]at this;rw[Array.toArray_toList];exact this
structure Az(w W:World)(K k i:Nat)(L:Nat->Bs):Prop where
 bl:Below w.heap.size w W
 lt:K<W.heap.size
 th:W.there K 0 (33*k)
 rw:∀j,j<i->W.rangeAt K (33*j) (aA (L j))
theorem Az.grow{w W W':World}{K k i:Nat}{L:Nat->Bs}(h:Az w W K k i L)(hb:Below W.heap.size W W'):Az w W' K k i L:=
 ⟨h.bl.trans (hb.mono h.bl.size),Nat.lt_of_lt_of_le h.lt hb.size,RG.dV h.th hb h.lt,fun j hj=>RG.aO (h.rw j hj) hb h.lt⟩
theorem Az.put{w W:World}{K k i:Nat}{L:Nat->Bs}(h:Az w W K k i L)(hK:w.heap.size<=K)(hi:i<k)(hL:∀j,j<=i->(L j).size=33):Az w (W.setCells K (33*i) (aA (L i))) K k (i+1) L:=by
 refine⟨RG.below_setCells hK _ _ _ h.bl,by rw[RG.setCells_size];exact h.lt,World.there_setCells h.th _ _ _,fun j hj=>?_⟩;by_cases hji:j=i
 ·subst hji;refine World.rangeAt_setCells_same W K _ _ fun t ht=>?_
  rw[aC (hL j (Nat.le_refl _))]at ht;have:=h.th (33*j+t) (by omega);rwa[Nat.zero_add]at this
 ·exact World.rangeAt_setCells_apart (h.rw j (by omega)) K _ _ (Or.inr (Or.inl (by rw[aC (hL j (by omega))];omega)))
def O6(P:Nat)[NeZero P](w:World)(k:Nat)(L:Nat->Bs)(e:Value)(w':World):Prop:=
 Below w.heap.size w w'/\(((∀j,j<k->∃p,rd P (L j)=some p)/\∃K,e=.tuple #[.slice (some ⟨K,0,none⟩) k k,.bool true]/\w.heap.size<=K/\K<w'.heap.size/\∀j,j<k->w'.rangeAt K (33*j) (aA (L j)))\/((∃j,j<k/\rd P (L j)=none)/\e=.tuple #[.slice none 0 0,.bool false]))
def NZ(P:Nat)[NeZero P](w:World)(k:Nat)(L:Nat->Bs)(e:Value)(w':World):Prop:=
 Below w.heap.size w w'/\(((∀j,j<k->∃p,rd P (L j)=some p)/\∃K,e=.tuple #[.slice (some ⟨K,0,none⟩) k k,.bool true]/\w.heap.size<=K/\K<w'.heap.size/\w'.there K 0 (33*k)/\∀j,j<k->w'.rangeAt K (33*j) (aA (L j)))\/((∃j,j<k/\rd P (L j)=none)/\e=.tuple #[.slice none 0 0,.bool false]))
theorem Ml(C:Fld P)(gg k c:Nat)(hk:k<=512)(L:Nat->Bs)(w:World)(hg:gg<w.heap.size)(hL:∀j,j<k->∃v,w.cell? ⟨gg,j,none⟩=some v/\Arg33 w v (L j)):
 Calls prog 56 #[.func (.func 25) #[] #[],.slice (some ⟨gg,0,none⟩) k c] w (Ret (NZ P w k L)):=by
 obtain⟨C0,hC0,hmk⟩:=Ly k hk;have hmk':=hmk w;obtain⟨w1,hw1⟩:∃w1,Hid (w.alloc (.cells C0.toArray 61)=w1):=⟨_,rfl⟩
 rw[hw1.out]at hmk';have HM:=Hid.mk' hmk';have K1:Hid (Az w w1 w.heap.size k 0 L):=by
  have hR:Row w1 w.heap.size C0:=by rw[<-hw1.out];exact aG w _ _
  refine⟨by rw[<-hw1.out];exact aE _ _,hR.1,by rw[<-hC0];exact hR.2.2,fun j hj=>by omega⟩
 have HC:Hid (Fld P/\(∀j,j<k->∃v,w.cell? ⟨gg,j,none⟩=some v/\Arg33 w v (L j))/\gg<w.heap.size):=⟨C,hL,hg⟩
 obtain⟨d,hd1,hd2⟩:=Option.map_eq_some_iff.1 uCP;have HD:Hid (prog.underlying 61=some d/\d.isRow=true):=⟨hd1,hd2⟩
 have HO:Hid (z33.toArray.all (·.oneCell')=true):=by show _=_;decide +kernel
 clear hd1 hd2 C hL hg hmk hC0 hw1;go_enter Tryz.func56,Tryz.ntmps56;go_wp2;clear hmk';go_loopg [16] k (fun m s16 W=>∃i:Nat,i+m=k/\s16=.int .i64 i/\Hid (Az w W w.heap.size k i L/\∀j,j<i->∃p,rd P (L j)=some p))
 case atStart=>exact⟨0,by omega,rfl,K1.out,fun j hj=>by omega⟩
 case round =>
  clear K1 HM;obtain⟨i,hik,rfl,KM⟩:=hrel;by_cases hi:i<k
  ·have hi':(i:Int)<(k:Int):=by omega
   obtain⟨v,hc0,hA0⟩:=HC.out.2.1 i hi;have hc:wr.cell? ⟨gg,i,none⟩=some v:=by rw[KM.out.1.bl.cell (p:=⟨gg,i,none⟩) HC.out.2.2];exact hc0
   have HA:Hid (Arg33 wr v (L i)):=hA0.below KM.out.1.bl;have hix:=atB gg 0 k c i hi;rw[show 0+1*i=i by omega]at hix;clear hc0 hA0;obtain⟨b,hbe⟩:∃b,Hid (L i=b):=⟨_,rfl⟩
   rw[hbe.out]at HA;obtain⟨k9,hk9⟩:∃k9:Nat,True:=⟨0,trivial⟩
   clear hk9 k9;cases hr:rd P b with
   | none =>
    go_wp2_with fail
    refine(xF HC.out.1 v b wr HA.out hr).mono ?_;rintro e W1 ⟨vv,rfl,hb1,rfl⟩;obtain⟨vz,hvz⟩:∃vz,Hid (Value.agg z33.toArray=vz):=⟨_,rfl⟩
    rw[hvz.out];obtain⟨k9,hk9⟩:∃k9,Hid (W1.heap.size=k9):=⟨_,rfl⟩
    obtain⟨W2,hW2⟩:∃W2,Hid (W1.alloc (.cells z33.toArray 61)=W2):=⟨_,rfl⟩
    obtain⟨W3,hW3⟩:∃W3,Hid (W2.setCells k9 0 z33=W3):=⟨_,rfl⟩
    have F2:Hid (Row W2 k9 z33/\Below w.heap.size w W2/\w.heap.size<=k9):=by
     have hbb:Below w.heap.size w W1:=KM.out.1.bl.trans (hb1.mono KM.out.1.bl.size);rw[<-hW2.out,<-hk9.out];exact⟨aG W1 _ _,hbb.alloc hbb.size _,hbb.size⟩
    have K3:Hid (Below w.heap.size w W3):=by rw[<-hW3.out];exact RG.below_setCells F2.out.2.2 _ _ _ F2.out.2.1
    have HN:Hid (i<k/\rd P (L i)=none):=⟨hi,by rw[hbe.out];exact hr⟩
    clear hb1 KM hr;go_wp2_with (first|(refine aJ (v:=.pointer (some ⟨k9,0,none⟩)) (w':=W2) rfl (.alloc 61) rfl ?_ ?_;(rw[<-hW2.out,<-hk9.out];kernel_rfl))|(refine wpList_store_mid rfl 61 _ _ rfl k9 0 z33.toArray ?_ ?_ ?_ ?_ ?_ ?_;rfl;exact hvz.out.symm;exact F2.out.1.2.2;exact aI;exact HO.out;rw[show z33.toArray.toList=z33 from rfl,hW3.out])|fail)
    go_ret2
    exact⟨_,rfl,K3.out,Or.inr ⟨⟨i,HN.out⟩,rfl⟩⟩
   | some p =>
    have hs:=mF hr;go_wp2_with fail
    refine(xE HC.out.1 v b p wr HA.out hr).mono ?_;rintro e W1 ⟨vv,rfl,hb1,rfl⟩;obtain⟨vz,hvz⟩:∃vz,Hid (pvl b=vz):=⟨_,rfl⟩
    rw[hvz.out];have hlen:(aA b).length=33:=aC hs;have hsz:(aA b).toArray.size=33:=by rw[List.size_toArray];exact hlen
    obtain⟨k9,hk9⟩:∃k9,Hid (W1.heap.size=k9):=⟨_,rfl⟩
    obtain⟨W2,hW2⟩:∃W2,Hid (W1.alloc (.cells z33.toArray 61)=W2):=⟨_,rfl⟩
    obtain⟨W3,hW3⟩:∃W3,Hid (W2.setCells k9 0 (aA b)=W3):=⟨_,rfl⟩
    obtain⟨W4,hW4⟩:∃W4,Hid (W3.setCells w.heap.size (33*i) (aA b)=W4):=⟨_,rfl⟩
    have A1:Az w W1 w.heap.size k i L:=KM.out.1.grow hb1;have F2:Hid (Row W2 k9 z33/\Below W1.heap.size W1 W2):=by
     rw[<-hW2.out,<-hk9.out];exact⟨aG W1 _ _,aE _ _⟩
    have F3:Hid (Row W3 k9 (aA b)/\Az w W3 w.heap.size k i L):=by
     rw[<-hW3.out];exact⟨F2.out.1.put (by rw[hlen];rfl),A1.grow (RG.below_setCells (by rw[hk9.out];exact Nat.le_refl _) _ _ _ F2.out.2)⟩
    have K4:Hid (Az w W4 w.heap.size k (i+1) L/\∀j,j<i+1->∃p,rd P (L j)=some p):=by
     have hall:∀j,j<i+1->∃p,rd P (L j)=some p:=fun j hj=>by
      by_cases hji:j=i
      ·subst hji;exact⟨p,by rw[hbe.out];exact hr⟩
      ·exact KM.out.2 j (by omega)
     have h:=F3.out.2.put (Nat.le_refl _) hi (fun j hj=>by obtain⟨q,hq⟩:=hall j (by omega);exact mF hq);rw[hbe.out,hW4.out]at h;exact⟨h,hall⟩
    have HI:Hid ((prog.info? 61).map (·.size)=some (aA b).length/\(prog.info? 61).map (·.size)=some (aA b).toArray.size/\W2.there k9 0 (aA b).toArray.size/\W3.there w.heap.size (33*i) (aA b).toArray.size):=by
     rw[hlen,hsz];refine⟨aI,aI,F2.out.1.2.2,fun t ht=>?_⟩;have:=F3.out.2.th (33*i+t) (by omega);rwa[Nat.zero_add]at this
    have hix2:=atP w.heap.size 0 k k i hi;clear hb1 KM hr hlen hsz A1 hs;go_wp2_with (first|(refine aJ (v:=.pointer (some ⟨k9,0,none⟩)) (w':=W2) rfl (.alloc 61) rfl ?_ ?_;(rw[<-hW2.out,<-hk9.out];kernel_rfl))|(refine wpList_store_mid rfl 61 _ _ rfl k9 0 (aA b).toArray ?_ ?_ ?_ ?_ ?_ ?_;rfl;exact hvz.out.symm;exact HI.out.2.2.1;exact HI.out.2.1;exact bW b;rw[show(aA b).toArray.toList=aA b from rfl,hW3.out])|(refine wpList_load_mid rfl 61 _ rfl k9 0 ?_ (aA b) d ?_ ?_ ?_ ?_ ?_;rfl;exact F3.out.1.2.1;exact HD.out.1;exact HD.out.2;exact HI.out.1;rw[show Value.agg (aA b).toArray=vz from hvz.out])|(refine wpList_store_mid rfl 61 _ _ rfl w.heap.size (33*i) (aA b).toArray ?_ ?_ ?_ ?_ ?_ ?_;rfl;exact hvz.out.symm;exact HI.out.2.2.2;exact HI.out.2.1;exact bW b;rw[show(aA b).toArray.toList=aA b from rfl,hW4.out])|fail)
    go_roundg (gk-1)
    case measure=>omega
    case rel=>exact⟨i+1,by omega,rfl,K4⟩
  ·have hi':¬(i:Int)<(k:Int):=by omega
   obtain rfl:i=k:=by omega
   go_wp2
   go_ret2
   exact⟨_,rfl,KM.out.1.bl,Or.inl ⟨KM.out.2,w.heap.size,rfl,Nat.le_refl _,KM.out.1.lt,KM.out.1.th,KM.out.1.rw⟩⟩
theorem Mm(C:Fld P)(gg k c:Nat)(hk:k<=512)(L:Nat->Bs)(w:World)(hg:gg<w.heap.size)(hL:∀j,j<k->∃v,w.cell? ⟨gg,j,none⟩=some v/\Arg33 w v (L j)):
 Calls prog 56 #[.func (.func 25) #[] #[],.slice (some ⟨gg,0,none⟩) k c] w (Ret (O6 P w k L)):=by
 refine(Ml C gg k c hk L w hg hL).mono ?_;rintro e w' ⟨v,rfl,hb,h⟩;refine⟨_,rfl,hb,?_⟩;rcases h with⟨h1,K,h2,h3,h4,-,h5⟩|h
 ·exact Or.inl ⟨h1,K,h2,h3,h4,h5⟩
 ·exact Or.inr h
theorem nQ{b:Bs}(h:real P b=true):b.size=33:=by
 unfold real at h;obtain⟨p,hp⟩:=Option.isSome_iff_exists.1 ((Bool.and_eq_true _ _).mp h).1;exact mF hp
theorem Iv(C:Fld P)(v:Value)(b:Bs)(w:World)(hv:Arg33 w v b)(hr:real P b=true):Calls prog 53 #[v] w (Ret fun e w'=>Below w.heap.size w w'/\e=.tuple #[pvl b,.bool true]):=by
 have:=nH C v b w hv;have hB:rdB P b=b:=by
  unfold rdB;unfold real at hr;rw[if_pos ((Bool.and_eq_true _ _).mp hr).1]
 rw[hr,hB]at this;exact this
theorem Iw(C:Fld P)(v:Value)(b:Bs)(w:World)(hv:Arg33 w v b)(hr:real P b=false):Calls prog 53 #[v] w (Ret fun e w'=>Below w.heap.size w w'/\e=.tuple #[.agg z33.toArray,.bool false]):=by
 have:=nH C v b w hv;have hB:rdB P b=o33:=by
  unfold real at hr;cases h:(rd P b).isSome with
  | false=>unfold rdB;rw[h];rfl
  | true =>
   rw[h]at hr;simpa using hr
 rw[hr,hB,<-wO]at this;exact this
def O5(P:Nat)[NeZero P](w:World)(k:Nat)(L:Nat->Bs)(e:Value)(w':World):Prop:=
 Below w.heap.size w w'/\(((∀j,j<k->real P (L j)=true)/\∃K,e=.tuple #[.slice (some ⟨K,0,none⟩) k k,.bool true]/\w.heap.size<=K/\K<w'.heap.size/\w'.there K 0 (33*k)/\∀j,j<k->w'.rangeAt K (33*j) (aA (L j)))\/((∃j,j<k/\real P (L j)=false)/\e=.tuple #[.slice none 0 0,.bool false]))
theorem Mk(C:Fld P)(gg k c:Nat)(hk:k<=512)(L:Nat->Bs)(w:World)(hg:gg<w.heap.size)(hL:∀j,j<k->∃v,w.cell? ⟨gg,j,none⟩=some v/\Arg33 w v (L j)):
 Calls prog 56 #[.func (.func 53) #[] #[],.slice (some ⟨gg,0,none⟩) k c] w (Ret (O5 P w k L)):=by
 obtain⟨C0,hC0,hmk⟩:=Ly k hk;have hmk':=hmk w;obtain⟨w1,hw1⟩:∃w1,Hid (w.alloc (.cells C0.toArray 61)=w1):=⟨_,rfl⟩
 rw[hw1.out]at hmk';have HM:=Hid.mk' hmk';have K1:Hid (Az w w1 w.heap.size k 0 L):=by
  have hR:Row w1 w.heap.size C0:=by rw[<-hw1.out];exact aG w _ _
  refine⟨by rw[<-hw1.out];exact aE _ _,hR.1,by rw[<-hC0];exact hR.2.2,fun j hj=>by omega⟩
 have HC:Hid (Fld P/\(∀j,j<k->∃v,w.cell? ⟨gg,j,none⟩=some v/\Arg33 w v (L j))/\gg<w.heap.size):=⟨C,hL,hg⟩
 obtain⟨d,hd1,hd2⟩:=Option.map_eq_some_iff.1 uCP;have HD:Hid (prog.underlying 61=some d/\d.isRow=true):=⟨hd1,hd2⟩
 have HO:Hid (z33.toArray.all (·.oneCell')=true):=by show _=_;decide +kernel
 clear hd1 hd2 C hL hg hmk hC0 hw1;go_enter Tryz.func56,Tryz.ntmps56;go_wp2;clear hmk';go_loopg [16] k (fun m s16 W=>∃i:Nat,i+m=k/\s16=.int .i64 i/\Hid (Az w W w.heap.size k i L/\∀j,j<i->real P (L j)=true))
 case atStart=>exact⟨0,by omega,rfl,K1.out,fun j hj=>by omega⟩
 case round =>
  clear K1 HM;obtain⟨i,hik,rfl,KM⟩:=hrel;by_cases hi:i<k
  ·have hi':(i:Int)<(k:Int):=by omega
   obtain⟨v,hc0,hA0⟩:=HC.out.2.1 i hi;have hc:wr.cell? ⟨gg,i,none⟩=some v:=by rw[KM.out.1.bl.cell (p:=⟨gg,i,none⟩) HC.out.2.2];exact hc0
   have HA:Hid (Arg33 wr v (L i)):=hA0.below KM.out.1.bl;have hix:=atB gg 0 k c i hi;rw[show 0+1*i=i by omega]at hix;clear hc0 hA0;obtain⟨b,hbe⟩:∃b,Hid (L i=b):=⟨_,rfl⟩
   rw[hbe.out]at HA;obtain⟨k9,hk9⟩:∃k9:Nat,True:=⟨0,trivial⟩
   clear hk9 k9;cases hr:real P b with
   | false =>
    go_wp2_with fail
    refine(Iw HC.out.1 v b wr HA.out hr).mono ?_;rintro e W1 ⟨vv,rfl,hb1,rfl⟩;obtain⟨vz,hvz⟩:∃vz,Hid (Value.agg z33.toArray=vz):=⟨_,rfl⟩
    rw[hvz.out];obtain⟨k9,hk9⟩:∃k9,Hid (W1.heap.size=k9):=⟨_,rfl⟩
    obtain⟨W2,hW2⟩:∃W2,Hid (W1.alloc (.cells z33.toArray 61)=W2):=⟨_,rfl⟩
    obtain⟨W3,hW3⟩:∃W3,Hid (W2.setCells k9 0 z33=W3):=⟨_,rfl⟩
    have F2:Hid (Row W2 k9 z33/\Below w.heap.size w W2/\w.heap.size<=k9):=by
     have hbb:Below w.heap.size w W1:=KM.out.1.bl.trans (hb1.mono KM.out.1.bl.size);rw[<-hW2.out,<-hk9.out];exact⟨aG W1 _ _,hbb.alloc hbb.size _,hbb.size⟩
    have K3:Hid (Below w.heap.size w W3):=by rw[<-hW3.out];exact RG.below_setCells F2.out.2.2 _ _ _ F2.out.2.1
    have HN:Hid (i<k/\real P (L i)=false):=⟨hi,by rw[hbe.out];exact hr⟩
    clear hb1 KM hr;go_wp2_with (first|(refine aJ (v:=.pointer (some ⟨k9,0,none⟩)) (w':=W2) rfl (.alloc 61) rfl ?_ ?_;(rw[<-hW2.out,<-hk9.out];kernel_rfl))|(refine wpList_store_mid rfl 61 _ _ rfl k9 0 z33.toArray ?_ ?_ ?_ ?_ ?_ ?_;rfl;exact hvz.out.symm;exact F2.out.1.2.2;exact aI;exact HO.out;rw[show z33.toArray.toList=z33 from rfl,hW3.out])|fail)
    go_ret2
    exact⟨_,rfl,K3.out,Or.inr ⟨⟨i,HN.out⟩,rfl⟩⟩
   | true =>
    have hs:=nQ hr;go_wp2_with fail
    refine(Iv HC.out.1 v b wr HA.out hr).mono ?_;rintro e W1 ⟨vv,rfl,hb1,rfl⟩;obtain⟨vz,hvz⟩:∃vz,Hid (pvl b=vz):=⟨_,rfl⟩
    rw[hvz.out];have hlen:(aA b).length=33:=aC hs;have hsz:(aA b).toArray.size=33:=by rw[List.size_toArray];exact hlen
    obtain⟨k9,hk9⟩:∃k9,Hid (W1.heap.size=k9):=⟨_,rfl⟩
    obtain⟨W2,hW2⟩:∃W2,Hid (W1.alloc (.cells z33.toArray 61)=W2):=⟨_,rfl⟩
    obtain⟨W3,hW3⟩:∃W3,Hid (W2.setCells k9 0 (aA b)=W3):=⟨_,rfl⟩
    obtain⟨W4,hW4⟩:∃W4,Hid (W3.setCells w.heap.size (33*i) (aA b)=W4):=⟨_,rfl⟩
    have A1:Az w W1 w.heap.size k i L:=KM.out.1.grow hb1;have F2:Hid (Row W2 k9 z33/\Below W1.heap.size W1 W2):=by
     rw[<-hW2.out,<-hk9.out];exact⟨aG W1 _ _,aE _ _⟩
    have F3:Hid (Row W3 k9 (aA b)/\Az w W3 w.heap.size k i L):=by
     rw[<-hW3.out];exact⟨F2.out.1.put (by rw[hlen];rfl),A1.grow (RG.below_setCells (by rw[hk9.out];exact Nat.le_refl _) _ _ _ F2.out.2)⟩
    have K4:Hid (Az w W4 w.heap.size k (i+1) L/\∀j,j<i+1->real P (L j)=true):=by
     have hall:∀j,j<i+1->real P (L j)=true:=fun j hj=>by
      by_cases hji:j=i
      ·subst hji;(rw[hbe.out];exact hr)
      ·exact KM.out.2 j (by omega)
     have h:=F3.out.2.put (Nat.le_refl _) hi (fun j hj=>by exact nQ (hall j (by omega)));rw[hbe.out,hW4.out]at h;exact⟨h,hall⟩
    have HI:Hid ((prog.info? 61).map (·.size)=some (aA b).length/\(prog.info? 61).map (·.size)=some (aA b).toArray.size/\W2.there k9 0 (aA b).toArray.size/\W3.there w.heap.size (33*i) (aA b).toArray.size):=by
     rw[hlen,hsz];refine⟨aI,aI,F2.out.1.2.2,fun t ht=>?_⟩;have:=F3.out.2.th (33*i+t) (by omega);rwa[Nat.zero_add]at this
    have hix2:=atP w.heap.size 0 k k i hi;clear hb1 KM hr hlen hsz A1 hs;go_wp2_with (first|(refine aJ (v:=.pointer (some ⟨k9,0,none⟩)) (w':=W2) rfl (.alloc 61) rfl ?_ ?_;(rw[<-hW2.out,<-hk9.out];kernel_rfl))|(refine wpList_store_mid rfl 61 _ _ rfl k9 0 (aA b).toArray ?_ ?_ ?_ ?_ ?_ ?_;rfl;exact hvz.out.symm;exact HI.out.2.2.1;exact HI.out.2.1;exact bW b;rw[show(aA b).toArray.toList=aA b from rfl,hW3.out])|(refine wpList_load_mid rfl 61 _ rfl k9 0 ?_ (aA b) d ?_ ?_ ?_ ?_ ?_;rfl;exact F3.out.1.2.1;exact HD.out.1;exact HD.out.2;exact HI.out.1;rw[show Value.agg (aA b).toArray=vz from hvz.out])|(refine wpList_store_mid rfl 61 _ _ rfl w.heap.size (33*i) (aA b).toArray ?_ ?_ ?_ ?_ ?_ ?_;rfl;exact hvz.out.symm;exact HI.out.2.2.2;exact HI.out.2.1;exact bW b;rw[show(aA b).toArray.toList=aA b from rfl,hW4.out])|fail)
    go_roundg (gk-1)
    case measure=>omega
    case rel=>exact⟨i+1,by omega,rfl,K4⟩
  ·have hi':¬(i:Int)<(k:Int):=by omega
   obtain rfl:i=k:=by omega
   go_wp2
   go_ret2
   exact⟨_,rfl,KM.out.1.bl,Or.inl ⟨KM.out.2,w.heap.size,rfl,Nat.le_refl _,KM.out.1.lt,KM.out.1.th,KM.out.1.rw⟩⟩
end
end Go.Proofs.YtgbjainaafdpgaaGreat
