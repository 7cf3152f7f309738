import Derived.OwnWalk
import Derived.Deep.LoopGhost
import Derived.Lib.SlBytesConst
import Derived.ChangeOld
import Derived.Below
import Derived.WalkKit
import Derived.ProofKit
import Derived.OpenShut
import Derived.ShutString
import Derived.Test.YtmfodnkinmnopaaGreatSc6
set_option linter.unusedVariables false
set_option linter.constructorNameAsVariable false
set_option linter.unusedSimpArgs false
set_option maxRecDepth 1000000
set_option maxHeartbeats 4000000
namespace Go.Proofs.YtmfodnkinmnopaaGreat
section
open Go.RowKit Go.Sort Go.Deep
variable {P:Nat} [NeZero P] {N:Nat}
def L3 (F:Bs) (z t:Nat):Nat→Bs:=fun j=>if j=0 then F else if j=1 then bx z else bx t
theorem L3_size {F:Bs} {z t:Nat} (hF:F.size=33) (j:Nat) (hj:j<3):(L3 F z t j).size=if j=0 then 33 else 32:=by
 unfold L3
 by_cases h0:j=0
 ·rw[if_pos h0,if_pos h0,hF]
 ·rw[if_neg h0,if_neg h0]
  by_cases h1:j=1
  ·rw[if_pos h1,bx_size]
  ·rw[if_neg h1,bx_size]
theorem cat3 (F:Bs) (z t:Nat):catL (L3 F z t) 3=(F++(bx z++bx t)).toList:=by
 rw[catL_succ,catL_succ,catL_succ,Array.toList_append,Array.toList_append]
 show (([]++F.toList)++(bx z).toList)++(bx t).toList=_
 rw[List.nil_append,List.append_assoc]
def Tw3 (F:Bs) (z t:Nat) (v:Value) (W:World):Prop:=∃ k y0 y1 y2,v=.slice (some ⟨k,0,none⟩) 3 3∧k<W.heap.size∧W.cell? ⟨k,0,none⟩=some y0∧W.cell? ⟨k,1,none⟩=some y1∧W.cell? ⟨k,2,none⟩=some y2∧El 33 W y0 F∧El 32 W y1 (bx z)∧El 32 W y2 (bx t)
theorem Tw3.grow {F:Bs} {z t:Nat} {v:Value} {W W':World} (h:Tw3 F z t v W) (hb:Below W.heap.size W W'):Tw3 F z t v W':=by
 obtain ⟨k,y0,y1,y2,h1,h2,h3,h4,h5,h6,h7,h8⟩:=h
 exact ⟨k,y0,y1,y2,h1,Nat.lt_of_lt_of_le h2 hb.size,by rw[hb.cell (p:=⟨k,0,none⟩) h2];exact h3,by rw[hb.cell (p:=⟨k,1,none⟩) h2];exact h4,by rw[hb.cell (p:=⟨k,2,none⟩) h2];exact h5,h6.below hb (Nat.le_refl _),h7.below hb (Nat.le_refl _),h8.below hb (Nat.le_refl _)⟩
theorem el3 {W:World} {F:Bs} {z t k:Nat} {y0 y1 y2:Value} (hF:F.size=33) (h2:W.cell? ⟨k,0,none⟩=some y0) (h3:W.cell? ⟨k,1,none⟩=some y1) (h4:W.cell? ⟨k,2,none⟩=some y2) (h5:El 33 W y0 F) (h6:El 32 W y1 (bx z)) (h7:El 32 W y2 (bx t)) (j:Nat) (hj:j<3):∃ x,W.cell? ⟨k,j,none⟩=some x∧El (L3 F z t j).size W x (L3 F z t j):=by
 rw[L3_size hF j hj]
 have hj3:j=0∨j=1∨j=2:=by omega
 rcases hj3 with rfl|rfl|rfl
 ·exact ⟨_,h2,h5⟩
 ·exact ⟨_,h3,h6⟩
 ·exact ⟨_,h4,h7⟩
theorem own3 {W:World} {B:Nat} {F:Bs} {z t:Nat} {v:Value} (hF:F.size=33) (h:W.ownsRow B 5 1 v (catL (L3 F z t) 3).length ((catL (L3 F z t) 3).map encB)):El 97 W v (F++(bx z++bx t)):=by
 have hs:(F++(bx z++bx t)).size=97:=by rw[Array.size_append,Array.size_append,hF,bx_size,bx_size]
 rw[cat3] at h
 have hl:(F++(bx z++bx t)).toList.length=97:=by rw[Array.length_toList];exact hs
 rw[hl] at h
 exact owns_el h (by decide) hs
section
variable (w:World) (kh k8 k9 k10 k11 x y kv km c z t B0:Nat) (A F:Bs)
def RO6:Nat→Value→World→Prop
 | 0,v,_=>v=.slice (some ⟨kh,0,none⟩) 2 2
 | 1,v,_=>v=.pointer (some ⟨kh,0,none⟩)
 | 2,v,_=>v=nv x
 | 3,v,_=>v=.slice (some ⟨kh,0,none⟩) 2 2
 | 4,v,_=>v=.pointer (some ⟨kh,4,none⟩)
 | 5,v,_=>v=nv y
 | 6,v,_=>v=pvl A
 | 7,v,_=>v=pvl F
 | 8,v,_=>v=nv c
 | 9,v,W=>Nw B0 [.int .u64 0,.int .u64 0,.int .u64 0,.int .u64 0] v W
 | _,_,_=>True
def GO6:RG.Gw:=⟨RO6 kh x y c B0 A F,fun W=>Kp w W [(k10,bl33 F),(k9,wn km),(k8,wn kv),(kh,wn x++wn y)]∧B0≤W.heap.size,fun i v W W' hb h=>by
 match i,h with
 | 0,h|1,h|2,h|3,h|4,h|5,h|6,h|7,h|8,h=>exact h
 | 9,h=>exact Nw.grow h hb
 | _+10,_=>trivial,fun W W' hb h=>⟨h.1.grow hb,Nat.le_trans h.2 hb.size⟩⟩
def RO7:Nat→Value→World→Prop
 | 0,v,_=>v=.slice (some ⟨k10,0,none⟩) 33 33
 | 1,v,_=>v=nv c
 | 2,v,_=>v=nv kv
 | 3,v,_=>v=.slice (some ⟨kh,0,none⟩) 2 2
 | 4,v,_=>v=.pointer (some ⟨kh,0,none⟩)
 | 5,v,_=>v=nv x
 | 6,v,_=>v=nv z
 | 7,v,W=>El 32 W v (bx z)
 | 8,v,_=>v=nv c
 | 9,v,_=>v=nv km
 | 10,v,_=>v=.slice (some ⟨kh,0,none⟩) 2 2
 | 11,v,_=>v=.pointer (some ⟨kh,4,none⟩)
 | 12,v,_=>v=nv y
 | 13,v,_=>v=nv t
 | 14,v,W=>El 32 W v (bx t)
 | 15,v,W=>Tw3 F z t v W
 | 16,v,W=>El 97 W v (F++(bx z++bx t))
 | 17,v,W=>El 97 W v (F++(bx z++bx t))
 | 18,v,_=>v=.int .i64 0
 | _,_,_=>True
def GO7:RG.Gw:=⟨RO7 kh k10 x y kv km c z t F,fun W=>Kp w W [(k11,wn c),(k10,bl33 F),(k9,wn km),(k8,wn kv),(kh,wn x++wn y)]∧True,fun i v W W' hb h=>by
 match i,h with
 | 0,h|1,h|2,h|3,h|4,h|5,h|6,h|8,h|9,h|10,h|11,h|12,h|13,h|18,h=>exact h
 | 7,h|14,h=>exact El.below h hb (Nat.le_refl _)
 | 15,h=>exact Tw3.grow h hb
 | 16,h|17,h=>exact El.below h hb (Nat.le_refl _)
 | _+19,_=>trivial,fun W W' hb h=>⟨h.1.grow hb,trivial⟩⟩
end
def nonV:ByteArray:=⟨#[110,111,110,99,101,32,118,97,108,117,101]⟩
def nonB:ByteArray:=⟨#[110,111,110,99,101,32,98,108,105,110,100]⟩
theorem popen_y (C:Fld P) (O:Ord N) (p0 p1:Option Addr) (n0 c0 n1 c1:Nat) (sk rb:Bs) (w:World) (hA:Arg w (.slice p0 n0 c0) sk) (h0:SP.PartOk w (.slice p0 n0 c0) sk.toList) (hA1:Arg w (.slice p1 n1 c1) rb) (h1:SP.PartOk w (.slice p1 n1 c1) rb.toList)
 (x y:Nat) (hx:rq N sk=some x) (hy:rq N rb=some y) (hxN:x<N) (hyN:y<N) (kv km c z t:Nat) (hkv:chL N nonV.data.toList [sk.toList,rb.toList]=kv) (hkm:chL N nonB.data.toList [sk.toList,rb.toList]=km)
 (hc:aop N (wr (cmt P x y)).toList (wr (cmt P kv km)).toList=c) (hz:sPl N kv (sTi N c x)=z) (ht:sPl N km (sTi N c y)=t) :
 Calls Tryz.prog 5 #[.slice p0 n0 c0,.slice p1 n1 c1] w (Ret fun e w'=>Below w.heap.size w w'∧∃ v,e=.tuple #[v,.int .i64 0]∧El 97 w' v (wr (cmt P kv km)++(bx z++bx t))):=by
 have hvN:kv<N:=by rw[← hkv];exact redu_lt O _
 have hmN:km<N:=by rw[← hkm];exact redu_lt O _
 have hcN:c<N:=by rw[← hc];exact aop_lt O _ _
 have hzN:z<N:=by rw[← hz];unfold sPl;exact Nat.mod_lt _ O.pos
 have htN:t<N:=by rw[← ht];unfold sPl;exact Nat.mod_lt _ O.pos
 have HO:Hid (Ord N∧c<N∧x<N∧y<N∧kv<N∧km<N∧sPl N kv (sTi N c x)=z∧sPl N km (sTi N c y)=t∧z<N∧t<N):=⟨O,hcN,hxN,hyN,hvN,hmN,hz,ht,hzN,htN⟩
 have HCF:=Hid.mk' (cCommit_c C O hvN hmN)
 have HCA:=Hid.mk' (cCommit_c C O hxN hyN)
 have HQ:=Hid.mk' (sOpen_c O (wr (cmt P x y)) (wr (cmt P kv km)) (wr_size _) (wr_size _))
 rw[hc] at HQ
 have HF:Hid ((wr (cmt P kv km)).size=33):=wr_size _
 have HK:Hid (chL N nonV.data.toList [sk.toList,rb.toList]=kv∧chL N nonB.data.toList [sk.toList,rb.toList]=km):=⟨hkv,hkm⟩
 have HAll:Hid (∀ (k:Nat) (W:World),Below w.heap.size w W→k<W.heap.size→W.rangeAt k 0 [.slice p0 n0 c0,.slice p1 n1 c1]→Calls Tryz.prog 17 #[(.func (.func 18) #[] #[]),.slice (some ⟨k,0,none⟩) 2 2] W (Ret fun e w'=>∃ k',RG.Made W k' (wn x++wn y) w'∧e=.tuple #[.slice (some ⟨k',0,none⟩) 2 2,.bool true])):=fun k W hb hk hr=>by
  have hargs:Args W (some ⟨k,0,none⟩) 2 (fun j=>if j=0 then sk else rb):=fun _=>⟨k,rfl,hk,fun j hj=>by
   have h2:j=0∨j=1:=by omega
   have hc':=fun (j:Nat) (v:Value) (h:[(.slice p0 n0 c0),(.slice p1 n1 c1)][j]? = some v)=>hr j v h
   simp only[Nat.zero_add] at hc'
   rcases h2 with rfl|rfl
   ·exact ⟨_,hc' 0 _ rfl,hA.below hb⟩
   ·exact ⟨_,hc' 1 _ rfl,hA1.below hb⟩⟩
  refine (allOf_c O 2 2 (by decide) _ _ W hargs).mono ?_
  rintro e w'' ⟨v,rfl,⟨⟨j,hj,hn⟩,-⟩|⟨-,k',D,hm,hR,rfl⟩⟩
  ·have h2:j=0∨j=1:=by omega
   rcases h2 with rfl|rfl
   ·have hn':rq N sk=none:=hn
    rw[hx] at hn';cases hn'
   ·have hn':rq N rb=none:=hn
    rw[hy] at hn';cases hn'
  ·have hD:=rows2 hR (fun _=>rfl)
   simp only[if_true] at hD
   rw[show (if (1:Nat)=0 then sk else rb)=rb from rfl,hx,hy] at hD
   have hD':D=wn x++wn y:=hD
   rw[hD'] at hm
   exact ⟨_,rfl,k',hm,rfl⟩
 have HP:Hid (SP.PartOk w (.slice p0 n0 c0) sk.toList∧SP.PartOk w (.slice p1 n1 c1) rb.toList):=⟨h0,h1⟩
 clear hc hkv hkm hA hA1 h0 h1 hx hy hxN hyN hvN hmN hcN hz ht hzN htN
 generalize wr (cmt P kv km)=F at HCF HQ HF ⊢
 generalize wr (cmt P x y)=A at HCA HQ
 clear C O
 have hParts:Hid (∀ (k:Nat) (W:World),Below w.heap.size w W→W.rangeAt k 0 [.slice p0 n0 c0,.slice p1 n1 c1]→SP.PartsOk W (some ⟨k,0,none⟩) [sk.toList,rb.toList]):=fun k W hb hM=>by
  refine Or.inr ⟨k,0,rfl,fun j hj=>?_⟩
  have hj2:j=0∨j=1:=by simp at hj;omega
  rcases hj2 with rfl|rfl
  ·exact ⟨_,hM 0 _ rfl,HP.out.1.below hb⟩
  ·exact ⟨_,hM 1 _ rfl,HP.out.2.below hb⟩
 obtain ⟨vv,hvv⟩:∃ v,Hid (nv kv=v):=⟨_,rfl⟩
 obtain ⟨vm,hvm⟩:∃ v,Hid (nv km=v):=⟨_,rfl⟩
 obtain ⟨w1,hw1⟩:∃ w1,Hid (w.alloc (.cells #[.slice p0 n0 c0,.slice p1 n1 c1] 22)=w1):=⟨_,rfl⟩
 have hb1:Below w.heap.size w w1:=by rw[← hw1.out];exact below1 _ _
 have hA1:=Hid.mk' (HAll.out w.heap.size w1 hb1 (by rw[← hw1.out,World.size_alloc];omega) (by rw[← hw1.out];exact (RG.Made.alloc w [.slice p0 n0 c0,.slice p1 n1 c1] 22).range))
 have HB1:=Hid.mk' hb1
 clear hb1 HAll
 go_enter Tryz.func5,Tryz.ntmps5
 go_wp2_with fail
 rw[hw1.out]
 refine hA1.out.mono ?_
 rintro e w2 ⟨u,rfl,kh,hm2,rfl⟩
 have K2:Hid (Kp w w2 [(kh,wn x++wn y)]):=⟨HB1.out.trans (hm2.bel.mono HB1.out.size),fun y' hy'=>by rw[show y'=(kh,wn x++wn y) by simpa using hy'];exact ⟨hm2.lt,hm2.range,hm2.there⟩⟩
 clear hm2 hA1 HB1 hw1
 obtain ⟨w3,hw3⟩:∃ w3,Hid (w2.alloc (.cells #[.slice p0 n0 c0,.slice p1 n1 c1] 22)=w3):=⟨_,rfl⟩
 have K3:Hid (Kp w w3 [(kh,wn x++wn y)]∧SP.PartsOk w3 (some ⟨w2.heap.size,0,none⟩) [sk.toList,rb.toList]):=by
  have hk:=K2.out.grow (by rw[← hw3.out];exact below1 _ _:Below w2.heap.size w2 w3)
  exact ⟨hk,hParts.out _ _ hk.bl (by rw[← hw3.out];exact (RG.Made.alloc w2 [.slice p0 n0 c0,.slice p1 n1 c1] 22).range)⟩
 go_wp2_with fail
 rw[hw3.out]
 refine (chance_c HO.out.1 nonV (some ⟨w2.heap.size,0,none⟩) 2 2 [sk.toList,rb.toList] w3 (by decide) rfl (by decide) K3.out.2).mono ?_
 rintro e w4 ⟨u,rfl,hb4,rfl⟩
 rw[HK.out.1,hvv.out]
 have K4:Hid (Kp w w4 [(kh,wn x++wn y)]):=K3.out.1.grow hb4
 clear hb4 K3 K2 hw3
 obtain ⟨w5,hw5⟩:∃ w5,Hid (w4.alloc (.cells #[.slice p0 n0 c0,.slice p1 n1 c1] 22)=w5):=⟨_,rfl⟩
 have K5:Hid (Kp w w5 [(kh,wn x++wn y)]∧SP.PartsOk w5 (some ⟨w4.heap.size,0,none⟩) [sk.toList,rb.toList]):=by
  have hk:=K4.out.grow (by rw[← hw5.out];exact below1 _ _:Below w4.heap.size w4 w5)
  exact ⟨hk,hParts.out _ _ hk.bl (by rw[← hw5.out];exact (RG.Made.alloc w4 [.slice p0 n0 c0,.slice p1 n1 c1] 22).range)⟩
 go_wp2_with fail
 rw[hw5.out]
 refine (chance_c HO.out.1 nonB (some ⟨w4.heap.size,0,none⟩) 2 2 [sk.toList,rb.toList] w5 (by decide) rfl (by decide) K5.out.2).mono ?_
 rintro e w6 ⟨u,rfl,hb6,rfl⟩
 rw[HK.out.2,hvm.out]
 have K6:Hid (Kp w w6 [(kh,wn x++wn y)]):=K5.out.1.grow hb6
 clear hb6 K5 K4 hw5 HK hParts HP
 obtain ⟨k8,hk8⟩:∃ k,Hid (w6.heap.size=k):=⟨_,rfl⟩
 obtain ⟨w7,hw7⟩:∃ w7,Hid (w6.alloc (.cells #[.int .u64 0,.int .u64 0,.int .u64 0,.int .u64 0] 43)=w7):=⟨_,rfl⟩
 obtain ⟨k9,hk9⟩:∃ k,Hid (w7.heap.size=k):=⟨_,rfl⟩
 obtain ⟨w8,hw8⟩:∃ w8,Hid (w7.alloc (.cells #[.int .u64 0,.int .u64 0,.int .u64 0,.int .u64 0] 43)=w8):=⟨_,rfl⟩
 obtain ⟨w9,hw9⟩:∃ w9,Hid (w8.setCells k8 0 (wn kv)=w9):=⟨_,rfl⟩
 obtain ⟨wa,hwa⟩:∃ wa,Hid (w9.setCells k9 0 (wn km)=wa):=⟨_,rfl⟩
 have F8:Hid (Row w8 k8 [.int .u64 0,.int .u64 0,.int .u64 0,.int .u64 0]∧Row w8 k9 [.int .u64 0,.int .u64 0,.int .u64 0,.int .u64 0]∧Kp w w8 [(kh,wn x++wn y)]∧kh<k8∧k8<k9∧w.heap.size≤k8):=by
  have z7:w7.heap.size=w6.heap.size+1:=by rw[← hw7.out,World.size_alloc]
  have b7:Below w6.heap.size w6 w7:=by rw[← hw7.out];exact below1 _ _
  have b8:Below w7.heap.size w7 w8:=by rw[← hw8.out];exact below1 _ _
  have r7:Row w7 w6.heap.size [.int .u64 0,.int .u64 0,.int .u64 0,.int .u64 0]:=by rw[← hw7.out];exact row_new w6 _ _
  have r8:Row w8 w7.heap.size [.int .u64 0,.int .u64 0,.int .u64 0,.int .u64 0]:=by rw[← hw8.out];exact row_new w7 _ _
  have e8:=hk8.out
  have e9:=hk9.out
  have l1:=(K6.out.at 0 rfl).1
  have l2:=K6.out.bl.size
  rw[← hk8.out,← hk9.out]
  exact ⟨r7.below b8,r8,(K6.out.grow b7).grow b8,by omega,by omega,l2⟩
 have Ka:Hid (Kp w w9 [(k8,wn kv),(kh,wn x++wn y)]∧Row w9 k9 [.int .u64 0,.int .u64 0,.int .u64 0,.int .u64 0]∧Kp w wa [(k9,wn km),(k8,wn kv),(kh,wn x++wn y)]):=by
  obtain ⟨f1,f2,f3,f4,f5,f6⟩:=F8.out
  have h9:Kp w w9 [(k8,wn kv),(kh,wn x++wn y)]:=by
   rw[← hw9.out]
   refine f3.put f1 rfl f6 fun q hq=>?_
   rw[show q=(kh,wn x++wn y) by simpa using hq]
   exact Nat.ne_of_lt f4
  have r9:Row w9 k9 [.int .u64 0,.int .u64 0,.int .u64 0,.int .u64 0]:=by
   rw[← hw9.out]
   exact f2.other (by omega)
  refine ⟨h9,r9,?_⟩
  rw[← hwa.out]
  refine h9.put r9 rfl (by omega) fun q hq=>?_
  simp only[List.mem_cons,List.not_mem_nil,or_false] at hq
  rcases hq with rfl|rfl
  ·exact Nat.ne_of_lt f5
  ·show kh≠k9;omega
 obtain ⟨d',hd3,hd4⟩:=Option.map_eq_some_iff.1 u40
 have HD:Hid (Tryz.prog.underlying 43=some d'∧d'.isRow=true):=⟨hd3,hd4⟩
 clear hd3 hd4
 go_wp2_with (first|(refine wpList_op (v:=.pointer (some ⟨k8,0,none⟩)) (w:=w6) (w':=w7) rfl (.alloc 43) rfl ?_ ?_;(rw[← hw7.out,← hk8.out];kernel_rfl))|(refine wpList_op (v:=.pointer (some ⟨k9,0,none⟩)) (w:=w7) (w':=w8) rfl (.alloc 43) rfl ?_ ?_;(rw[← hw8.out,← hk9.out];kernel_rfl))|(refine wpList_store_mid rfl 43 _ _ rfl k8 0 (wn kv).toArray ?_ ?_ ?_ ?_ ?_ ?_;rfl;exact hvv.out.symm;exact F8.out.1.2.2;exact i40;exact wn_one kv;rw[show (wn kv).toArray.toList=wn kv from rfl,hw9.out])|(refine wpList_store_mid rfl 43 _ _ rfl k9 0 (wn km).toArray ?_ ?_ ?_ ?_ ?_ ?_;rfl;exact hvm.out.symm;exact Ka.out.2.1.2.2;exact i40;exact wn_one km;rw[show (wn km).toArray.toList=wn km from rfl,hwa.out])|(refine wpList_load_mid rfl 43 _ rfl k8 0 ?_ (wn kv) d' ?_ ?_ ?_ ?_ ?_;rfl;exact (Ka.out.2.2.at 1 rfl).2.1;exact HD.out.1;exact HD.out.2;exact i40;rw[show Value.agg (wn kv).toArray=vv from hvv.out])|(refine wpList_load_mid rfl 43 _ rfl k9 0 ?_ (wn km) d' ?_ ?_ ?_ ?_ ?_;rfl;exact (Ka.out.2.2.at 0 rfl).2.1;exact HD.out.1;exact HD.out.2;exact i40;rw[show Value.agg (wn km).toArray=vm from hvm.out])|fail)
 rw[hvv.out,hvm.out] at HCF
 refine (HCF.out wa).mono ?_
 rintro e wb ⟨u,rfl,hbb,rfl⟩
 have Kb:Hid (Kp w wb [(k9,wn km),(k8,wn kv),(kh,wn x++wn y)]):=Ka.out.2.2.grow hbb
 clear hbb Ka F8 hw7 hw8 hw9 hwa K6 hk8 hk9
 obtain ⟨vF,hvF⟩:∃ v,Hid (pvl F=v):=⟨_,rfl⟩
 rw[hvF.out]
 obtain ⟨wc,hwc⟩:∃ wc,Hid (wb.alloc (.cells z33.toArray 47)=wc):=⟨_,rfl⟩
 obtain ⟨k10,hk10⟩:∃ k,Hid (wb.heap.size=k):=⟨_,rfl⟩
 obtain ⟨wd,hwd⟩:∃ wd,Hid (wc.setCells k10 0 (bl33 F)=wd):=⟨_,rfl⟩
 have hlen:(bl33 F).length=33:=bl33_length HF.out
 have Fc:Hid (Row wc k10 z33∧Kp w wc [(k9,wn km),(k8,wn kv),(kh,wn x++wn y)]):=by
  rw[← hwc.out,← hk10.out]
  exact ⟨row_new wb _ _,Kb.out.grow (below1 _ _)⟩
 have Kd:Hid (Kp w wd [(k10,bl33 F),(k9,wn km),(k8,wn kv),(kh,wn x++wn y)]):=by
  rw[← hwd.out]
  refine Fc.out.2.put Fc.out.1 (by rw[hlen];rfl) (by rw[← hk10.out];exact Kb.out.bl.size) fun q hq=>?_
  rw[← hk10.out]
  exact Nat.ne_of_lt (Kb.out.rw q hq).1
 have HI:Hid (wc.there k10 0 (bl33 F).toArray.size∧(Tryz.prog.info? 47).map (·.size)=some (bl33 F).toArray.size∧(Tryz.prog.info? 47).map (·.size)=some (bl33 F).length):=by
  have e:(bl33 F).toArray.size=33:=by rw[List.size_toArray];exact hlen
  rw[e,hlen]
  exact ⟨Fc.out.1.2.2,infoCP,infoCP⟩
 clear hlen
 go_wp2_with (first|(refine wpList_op (v:=.pointer (some ⟨k10,0,none⟩)) (w':=wc) rfl (.alloc 47) rfl ?_ ?_;(rw[← hwc.out,← hk10.out];kernel_rfl))|(refine wpList_store_mid rfl 47 _ _ rfl k10 0 (bl33 F).toArray ?_ ?_ ?_ ?_ ?_ ?_;rfl;exact hvF.out.symm;exact HI.out.1;exact HI.out.2.1;exact bl33_one F;rw[show (bl33 F).toArray.toList=bl33 F from rfl,hwd.out])|fail)
 clear hwc hwd hk10 Fc Kb
 refine (GO6 w kh k8 k9 k10 x y kv km c wd.heap.size A F).last 10 (by kernel_rfl) (by kernel_rfl) (by kernel_rfl) ⟨
  RG.gw_val fun a W hp=>⟨[(6,.slice (some ⟨kh,0,none⟩) 2 2)],.slice (some ⟨kh,0,none⟩) 2 2,W,⟨hp.o 6 (by kernel_rfl),trivial⟩,by kernel_rfl,Below.refl _ _,rfl⟩,
  RG.gw_val fun a W hp=>⟨[(32,.slice (some ⟨kh,0,none⟩) 2 2)],.pointer (some ⟨kh,0,none⟩),W,⟨hp.n 0 32 (by kernel_rfl) (by kernel_rfl),trivial⟩,by kernel_rfl,Below.refl _ _,rfl⟩,
  RG.gw_load 43 33 rfl u40 fun a W hp=>⟨kh,0,wn x,hp.n 1 33 (by kernel_rfl) (by kernel_rfl),range_front (hp.b.1.at 3 rfl).2.1,i40,rfl⟩,
  RG.gw_val fun a W hp=>⟨[(6,.slice (some ⟨kh,0,none⟩) 2 2)],.slice (some ⟨kh,0,none⟩) 2 2,W,⟨hp.o 6 (by kernel_rfl),trivial⟩,by kernel_rfl,Below.refl _ _,rfl⟩,
  RG.gw_val fun a W hp=>⟨[(35,.slice (some ⟨kh,0,none⟩) 2 2)],.pointer (some ⟨kh,4,none⟩),W,⟨hp.n 3 35 (by kernel_rfl) (by kernel_rfl),trivial⟩,by kernel_rfl,Below.refl _ _,rfl⟩,
  RG.gw_load 43 36 rfl u40 fun a W hp=>⟨kh,4,wn y,hp.n 4 36 (by kernel_rfl) (by kernel_rfl),range_back (xs:=wn x) (hp.b.1.at 3 rfl).2.1,i40,rfl⟩,
  RG.gw_call fun a W hp=>⟨[(34,nv x),(37,nv y)],20,#[nv x,nv y],⟨hp.n 2 34 (by kernel_rfl) (by kernel_rfl),hp.n 5 37 (by kernel_rfl) (by kernel_rfl),trivial⟩,by kernel_rfl,by
   refine (HCA.out W).mono ?_
   rintro e W' ⟨u,rfl,hb,rfl⟩
   exact ⟨_,rfl,hb,rfl⟩⟩,
  RG.gw_load 47 10 rfl uCP fun a W hp=>⟨k10,0,bl33 F,hp.o 10 (by kernel_rfl),(hp.b.1.at 0 rfl).2.1,HI.out.2.2,rfl⟩,
  RG.gw_call fun a W hp=>⟨[(38,pvl A),(39,pvl F)],21,#[pvl A,pvl F],⟨hp.n 6 38 (by kernel_rfl) (by kernel_rfl),hp.n 7 39 (by kernel_rfl) (by kernel_rfl),trivial⟩,by kernel_rfl,by
   refine (HQ.out W).mono ?_
   rintro e W' ⟨u,rfl,hb,rfl⟩
   exact ⟨_,rfl,hb,rfl⟩⟩,
  RG.gw_val fun a W hp=>⟨[],.pointer (some ⟨W.heap.size,0,none⟩),W.alloc (.cells #[.int .u64 0,.int .u64 0,.int .u64 0,.int .u64 0] 43),trivial,by kernel_rfl,below1 _ _,W.heap.size,rfl,hp.b.2,row_new W _ _⟩,trivial⟩ ⟨Kd.out.drew,Nat.le_refl _⟩ ?_
 intro V we hRe hBe
 obtain ⟨k11,hk11,hk11b,hk11r⟩:=show Nw wd.heap.size [.int .u64 0,.int .u64 0,.int .u64 0,.int .u64 0] (V 9) we from hRe 9 (by decide)
 have hV8:V 8=nv c:=hRe 8 (by decide)
 dsimp only[RG.putV,Nat.reduceAdd,List.take,List.drop]
 obtain ⟨vc,hvc⟩:∃ v,Hid (nv c=v):=⟨_,rfl⟩
 rw[hk11,hV8,hvc.out]
 generalize V 0=s0
 generalize V 1=s1
 generalize V 2=s2
 generalize V 3=s3
 generalize V 4=s4
 generalize V 5=s5
 generalize V 6=s6
 generalize V 7=s7
 obtain ⟨wf,hwf⟩:∃ wf,Hid (we.setCells k11 0 (wn c)=wf):=⟨_,rfl⟩
 have HBe:Hid (Kp w we [(k10,bl33 F),(k9,wn km),(k8,wn kv),(kh,wn x++wn y)]∧wd.heap.size≤we.heap.size):=hBe
 have Kf:Hid (Kp w wf [(k11,wn c),(k10,bl33 F),(k9,wn km),(k8,wn kv),(kh,wn x++wn y)]):=by
  rw[← hwf.out]
  refine HBe.out.1.put hk11r rfl (Nat.le_trans Kd.out.bl.size hk11b) fun q hq=>?_
  have h8:=(Kd.out.rw q hq).1
  omega
 have HJ:Hid (we.there k11 0 [Value.int .u64 0,.int .u64 0,.int .u64 0,.int .u64 0].length):=hk11r.2.2
 clear hRe hBe hk11 hk11b hk11r hV8 HBe Kd V HCF HCA HQ
 simp only[Act.put,List.setIfInBounds_toArray,List.set_cons_succ,List.set_cons_zero]
 go_wp2_with (first|(refine wpList_store_mid rfl 43 _ _ rfl k11 0 (wn c).toArray ?_ ?_ ?_ ?_ ?_ ?_;rfl;exact hvc.out.symm;exact HJ.out;exact i40;exact wn_one c;rw[show (wn c).toArray.toList=wn c from rfl,hwf.out])|fail)
 clear hwf HJ
 refine (GO7 w kh k8 k9 k10 k11 x y kv km c z t F).draws (by kernel_rfl) (by kernel_rfl) ⟨
  RG.gw_val fun a W hp=>⟨[(10,.pointer (some ⟨k10,0,none⟩))],.slice (some ⟨k10,0,none⟩) 33 33,W,⟨hp.o 10 (by kernel_rfl),trivial⟩,by kernel_rfl,Below.refl _ _,rfl⟩,
  RG.gw_load 43 11 rfl u40 fun a W hp=>⟨k11,0,wn c,hp.o 11 (by kernel_rfl),(hp.b.1.at 0 rfl).2.1,i40,rfl⟩,
  RG.gw_load 43 8 rfl u40 fun a W hp=>⟨k8,0,wn kv,hp.o 8 (by kernel_rfl),(hp.b.1.at 3 rfl).2.1,i40,rfl⟩,
  RG.gw_val fun a W hp=>⟨[(6,.slice (some ⟨kh,0,none⟩) 2 2)],.slice (some ⟨kh,0,none⟩) 2 2,W,⟨hp.o 6 (by kernel_rfl),trivial⟩,by kernel_rfl,Below.refl _ _,rfl⟩,
  RG.gw_val fun a W hp=>⟨[(44,.slice (some ⟨kh,0,none⟩) 2 2)],.pointer (some ⟨kh,0,none⟩),W,⟨hp.n 3 44 (by kernel_rfl) (by kernel_rfl),trivial⟩,by kernel_rfl,Below.refl _ _,rfl⟩,
  RG.gw_load 43 45 rfl u40 fun a W hp=>⟨kh,0,wn x,hp.n 4 45 (by kernel_rfl) (by kernel_rfl),range_front (hp.b.1.at 4 rfl).2.1,i40,rfl⟩,
  RG.gw_call fun a W hp=>⟨[(42,nv c),(43,nv kv),(46,nv x)],23,#[nv c,nv kv,nv x],⟨hp.n 1 42 (by kernel_rfl) (by kernel_rfl),hp.n 2 43 (by kernel_rfl) (by kernel_rfl),hp.n 5 46 (by kernel_rfl) (by kernel_rfl),trivial⟩,by kernel_rfl,by
   refine (answer_c HO.out.1 HO.out.2.1 HO.out.2.2.2.2.1 HO.out.2.2.1 W).mono ?_
   rintro e W' ⟨u,rfl,hb,rfl⟩
   exact ⟨_,rfl,hb,by rw[HO.out.2.2.2.2.2.2.1];rfl⟩⟩,
  RG.gw_call fun a W hp=>⟨[(47,nv z)],24,#[nv z],⟨hp.n 6 47 (by kernel_rfl) (by kernel_rfl),trivial⟩,by kernel_rfl,by
   refine (sbytes_c HO.out.1 (HO.out.2.2.2.2.2.2.2.2.1) W).mono ?_
   rintro e W' ⟨u,rfl,k',hm,rfl⟩
   exact ⟨_,rfl,hm.bel,El.of_made hm (bx_size z)⟩⟩,
  RG.gw_load 43 11 rfl u40 fun a W hp=>⟨k11,0,wn c,hp.o 11 (by kernel_rfl),(hp.b.1.at 0 rfl).2.1,i40,rfl⟩,
  RG.gw_load 43 9 rfl u40 fun a W hp=>⟨k9,0,wn km,hp.o 9 (by kernel_rfl),(hp.b.1.at 2 rfl).2.1,i40,rfl⟩,
  RG.gw_val fun a W hp=>⟨[(6,.slice (some ⟨kh,0,none⟩) 2 2)],.slice (some ⟨kh,0,none⟩) 2 2,W,⟨hp.o 6 (by kernel_rfl),trivial⟩,by kernel_rfl,Below.refl _ _,rfl⟩,
  RG.gw_val fun a W hp=>⟨[(51,.slice (some ⟨kh,0,none⟩) 2 2)],.pointer (some ⟨kh,4,none⟩),W,⟨hp.n 10 51 (by kernel_rfl) (by kernel_rfl),trivial⟩,by kernel_rfl,Below.refl _ _,rfl⟩,
  RG.gw_load 43 52 rfl u40 fun a W hp=>⟨kh,4,wn y,hp.n 11 52 (by kernel_rfl) (by kernel_rfl),range_back (xs:=wn x) (hp.b.1.at 4 rfl).2.1,i40,rfl⟩,
  RG.gw_call fun a W hp=>⟨[(49,nv c),(50,nv km),(53,nv y)],23,#[nv c,nv km,nv y],⟨hp.n 8 49 (by kernel_rfl) (by kernel_rfl),hp.n 9 50 (by kernel_rfl) (by kernel_rfl),hp.n 12 53 (by kernel_rfl) (by kernel_rfl),trivial⟩,by kernel_rfl,by
   refine (answer_c HO.out.1 HO.out.2.1 HO.out.2.2.2.2.2.1 HO.out.2.2.2.1 W).mono ?_
   rintro e W' ⟨u,rfl,hb,rfl⟩
   exact ⟨_,rfl,hb,by rw[HO.out.2.2.2.2.2.2.2.1];rfl⟩⟩,
  RG.gw_call fun a W hp=>⟨[(54,nv t)],24,#[nv t],⟨hp.n 13 54 (by kernel_rfl) (by kernel_rfl),trivial⟩,by kernel_rfl,by
   refine (sbytes_c HO.out.1 (HO.out.2.2.2.2.2.2.2.2.2) W).mono ?_
   rintro e W' ⟨u,rfl,k',hm,rfl⟩
   exact ⟨_,rfl,hm.bel,El.of_made hm (bx_size t)⟩⟩,
  RG.gw_val fun a W hp=>⟨[(41,.slice (some ⟨k10,0,none⟩) 33 33),(48,a.eval (.tmp 48)),(55,a.eval (.tmp 55))],.slice (some ⟨W.heap.size,0,none⟩) 3 3,W.alloc (.cells #[.slice (some ⟨k10,0,none⟩) 33 33,a.eval (.tmp 48),a.eval (.tmp 55)] 22),⟨hp.n 0 41 (by kernel_rfl) (by kernel_rfl),rfl,rfl,trivial⟩,by
   obtain ⟨k',c',he,-⟩:=show El 32 W (a.eval (.tmp 48)) (bx z) from hp.n 7 48 (by kernel_rfl) (by kernel_rfl)
   obtain ⟨k2,c2,he2,-⟩:=show El 32 W (a.eval (.tmp 55)) (bx t) from hp.n 14 55 (by kernel_rfl) (by kernel_rfl)
   rw[he,he2];kernel_rfl,below1 _ _,by
   have hE:=show El 32 W (a.eval (.tmp 48)) (bx z) from hp.n 7 48 (by kernel_rfl) (by kernel_rfl)
   have hE2:=show El 32 W (a.eval (.tmp 55)) (bx t) from hp.n 14 55 (by kernel_rfl) (by kernel_rfl)
   have hR:=(hp.b.1.at (k:=k10) (c:=bl33 F) 1 rfl).below (below1 W (.cells #[.slice (some ⟨k10,0,none⟩) 33 33,a.eval (.tmp 48),a.eval (.tmp 55)] 22))
   exact ⟨W.heap.size,.slice (some ⟨k10,0,none⟩) 33 33,a.eval (.tmp 48),a.eval (.tmp 55),rfl,by rw[World.size_alloc];omega,by rw[World.cell?_alloc_new];rfl,by rw[World.cell?_alloc_new];rfl,by rw[World.cell?_alloc_new];rfl,⟨k10,33,rfl,Nat.le_refl _,HF.out,hR.1,row_holds hR⟩,hE.below (below1 _ _) (Nat.le_refl _),hE2.below (below1 _ _) (Nat.le_refl _)⟩⟩,
  RG.gw_call fun a W hp=>⟨[(56,a.eval (.tmp 56))],22,#[a.eval (.tmp 56)],⟨rfl,trivial⟩,by kernel_rfl,by
   obtain ⟨k',y0,y1,y2,he,h1,h2,h3,h4,h5,h6,h7⟩:=show Tw3 F z t (a.eval (.tmp 56)) W from hp.n 15 56 (by kernel_rfl) (by kernel_rfl)
   rw[he]
   refine (concat_c k' 3 3 (L3 F z t) (by decide) (fun j hj=>by rw[L3_size HF.out j hj];split<;>decide) W h1 (fun j hj=>el3 HF.out h2 h3 h4 h5 h6 h7 j hj)).mono ?_
   rintro e W' ⟨u,rfl,hb,ho⟩
   exact ⟨_,rfl,hb,own3 HF.out ho⟩⟩,
  RG.gw_val fun a W hp=>⟨[(57,a.eval (.tmp 57))],a.eval (.tmp 57),W,⟨rfl,trivial⟩,by kernel_rfl,Below.refl _ _,hp.n 16 57 (by kernel_rfl) (by kernel_rfl)⟩,
  RG.gw_val fun a W hp=>⟨[],.int .i64 0,W,trivial,by kernel_rfl,Below.refl _ _,rfl⟩,trivial⟩ ⟨Kf.out.drew,trivial⟩ ?_
 intro V wg hRg hBg
 have hV18:V 18=.int .i64 0:=hRg 18 (Nat.lt_of_succ_le (Nat.le_of_ble_eq_true (by kernel_rfl)))
 have HA:Hid (El 97 wg (V 17) (F++(bx z++bx t))):=hRg 17 (Nat.lt_of_succ_le (Nat.le_of_ble_eq_true (by kernel_rfl)))
 have HBg:Hid (Below w.heap.size w wg):=hBg.1.bl
 dsimp only[RG.putV,Nat.reduceAdd]
 simp only[Act.put,List.setIfInBounds_toArray,List.set_cons_succ,List.set_cons_zero]
 rw[hV18]
 generalize V 17=s17 at HA ⊢
 clear hRg hBg Kf
 go_wp2
 go_ret2
 exact ⟨_,rfl,HBg.out,s17,rfl,HA.out⟩
end
section
open Go.RowKit Go.Sort Go.Deep
variable {P:Nat} [NeZero P] {N:Nat}
theorem rows1 {f:Nat→List Value} {C:List Value} (h:Rows 4 1 f 1 C) (h0:∀ j,(f j).length=4):C=f 0:=by
 apply List.ext_getElem?
 intro j
 have hl:=h.len
 by_cases hj:j<4
 ·have hr:=h.row 0 j (by omega) hj
  rw[Nat.mul_zero,Nat.zero_add] at hr
  exact hr
 ·rw[List.getElem?_eq_none (by omega),List.getElem?_eq_none (by rw[h0];omega)]
def RpT11 (P:Nat) [NeZero P] (N:Nat) (b:Bs):Bool:=decide (b.size=65) && ((rd P (b.extract 0 33)).isSome && (rq N (b.extract 33 65)).isSome)
def RpR11 (P:Nat) [NeZero P] (N:Nat) (w:World) (b:Bs) (e:Value) (w':World):Prop:=
 Below w.heap.size w w'∧((RpT11 P N b=true∧∃ K k,e=.tuple #[.slice (some ⟨K,0,none⟩) 1 1,.slice (some ⟨k,0,none⟩) 1 1,.bool true]∧w.heap.size≤K∧K<k∧k<w'.heap.size∧w'.rangeAt K 0 (bl33 (b.extract 0 33))∧w'.there K 0 33∧w'.rangeAt k 0 (wn (nuV (b.extract 33 65)))∧w'.there k 0 4)∨(RpT11 P N b=false∧∃ q1 q2,e=.tuple #[q1,q2,.bool false]))
theorem readProof11_c (C:Fld P) (O:Ord N) (v:Value) (b:Bs) (w:World) (hv:SP.PartOk w v b.toList):Calls Tryz.prog 35 #[v,.int .i64 1,.int .i64 1] w (Ret (RpR11 P N w b)):=by
 obtain ⟨a0,sb,so,cap,bs,rfl,hbe,hcap,-,hor⟩:=hv
 obtain rfl:bs=b:=Array.ext' hbe
 clear hbe
 by_cases h64:bs.size=65
 ·obtain ⟨rfl,hH⟩:a0=some ⟨sb,so,none⟩∧Holds encB w sb so bs:=by
   rcases hor with h|h
   ·omega
   ·exact h
  clear hor
  have hlt:sb<w.heap.size:=holds_lt hH (by omega)
  rw[h64] at hcap ⊢
  have hs1:∀ w:World,(Instr.sliceAt 22 (.slice (some ⟨sb,so,none⟩) 65 cap) none (some (.int .i64 33)) none).run Tryz.prog w=.ok (.slice (some ⟨sb,so,none⟩) 33 cap) w:=fun w=>by
   have h1:(33:Int)≤cap:=by omega
   go_simp
  have hs2:∀ w:World,(Instr.sliceAt 22 (.slice (some ⟨sb,so,none⟩) 65 cap) (some (.int .i64 33)) none none).run Tryz.prog w=.ok (.slice (some ⟨sb,so+33,none⟩) 32 (cap-33)) w:=fun w=>by
   have h1:(65:Int)≤cap:=by omega
   have h2:¬ cap=33:=by omega
   go_simp
  have HH:Hid (Holds encB w sb so bs∧bs.size=65):=⟨hH,h64⟩
  clear hH h64
  go_enter Tryz.func35,Tryz.ntmps35
  go_wp2_with fail
  refine (chunk0_c sb so 33 cap 33 (by decide) w).mono ?_
  rintro e w1 ⟨v1,rfl,rfl,hw1⟩
  obtain ⟨h1,h2,h3,h4⟩:=two_cells w (.slice (some ⟨sb,so,none⟩) 33 cap) (.int .i64 33) 22 3
  have hw1':w1=(w.alloc (.cells #[.slice (some ⟨sb,so,none⟩) 33 cap] 22)).alloc (.cells #[.int .i64 33] 3):=hw1
  rw[← hw1'] at h1 h2 h3 h4
  clear hw1 hw1'
  have hcl:=chunks_c sb so 33 1 33 cap w1 (by decide) rfl (by decide) (by omega) (by decide) w.heap.size (by omega) h3 h4
  clear h3 h4
  go_wp2_with fail
  refine hcl.mono ?_
  rintro e w2 ⟨v2,rfl,hb2,hr2,-⟩
  obtain ⟨g2,c2,rfl,hg2,hl2,hc2⟩:=own_cells hr2 (by decide)
  have H2:Hid (Below w.heap.size w w2):=h1.trans (hb2.mono h1.size)
  clear h1 h2 hcl hb2 hg2 hr2
  have HP:Hid (g2<w2.heap.size∧∀ j,j<1→∃ v,w2.cell? ⟨g2,j,none⟩=some v∧Arg33 w2 v (bs.extract 0 33)):=by
   refine ⟨hl2,fun j hj=>⟨chv sb so 33 j,?_,?_⟩⟩
   ·rw[hc2 j hj,List.getElem?_map,List.getElem?_range hj]
    rfl
   ·have hsz:=HH.out.2
    obtain rfl:j=0:=by omega
    refine ⟨_,33,33,rfl,by rw[Array.size_extract];omega,fun _=>⟨sb,so+33*0,rfl,Nat.le_refl _,Nat.lt_of_lt_of_le hlt H2.out.size,?_⟩⟩
    have hH2:Holds encB w2 sb so bs:=Holds.below HH.out.1 H2.out hlt
    exact holds_part 0 33 hH2 (by omega)
  clear hl2 hc2
  go_wp2_with fail
  refine (allP_t C g2 1 c2 (by decide) (fun _=>bs.extract 0 33) w2 HP.out.1 HP.out.2).mono ?_
  clear HP
  rintro e w3 ⟨v3,rfl,hb3,hR3⟩
  have H3:Hid (Below w.heap.size w w3):=H2.out.trans (hb3.mono H2.out.size)
  have HS:Hid (w.heap.size≤w2.heap.size):=H2.out.size
  clear hb3 H2
  obtain ⟨qv,okp,rfl,HP⟩:∃ qv okp,v3=.tuple #[qv,.bool okp]∧Hid (okp=(rd P (bs.extract 0 33)).isSome∧(okp=true→∃ K,qv=.slice (some ⟨K,0,none⟩) 1 1∧w.heap.size≤K∧K<w3.heap.size∧w3.there K 0 33∧w3.rangeAt K 0 (bl33 (bs.extract 0 33)))):=by
   rcases hR3 with ⟨h1,K,rfl,h3,h4,h5,h6⟩|⟨⟨j,hj,h1⟩,rfl⟩
   ·obtain ⟨p,hp⟩:=h1 0 (by decide)
    exact ⟨_,true,rfl,by rw[hp];rfl,fun _=>⟨K,rfl,Nat.le_trans HS.out h3,h4,h5,h6 0 (by decide)⟩⟩
   ·exact ⟨_,false,rfl,by rw[h1];rfl,fun h=>by cases h⟩
  clear hR3
  go_wp2_with fail
  refine (chunk0_c sb (so+33) 32 (cap-33) 32 (by decide) w3).mono ?_
  rintro e w4 ⟨v4,rfl,rfl,hw4⟩
  obtain ⟨h1,h2,h3,h4⟩:=two_cells w3 (.slice (some ⟨sb,so+33,none⟩) 32 (cap-33)) (.int .i64 32) 22 3
  have hw4':w4=(w3.alloc (.cells #[.slice (some ⟨sb,so+33,none⟩) 32 (cap-33)] 22)).alloc (.cells #[.int .i64 32] 3):=hw4
  rw[← hw4'] at h1 h2 h3 h4
  clear hw4 hw4'
  have hcl:=chunks_c sb (so+33) 32 1 32 (cap-33) w4 (by decide) rfl (by decide) (by omega) (by decide) w3.heap.size (by omega) h3 h4
  clear h3 h4
  go_wp2_with fail
  refine hcl.mono ?_
  rintro e w5 ⟨v5,rfl,hb5,hr5,-⟩
  obtain ⟨g5,c5,rfl,hg5,hl5,hc5⟩:=own_cells hr5 (by decide)
  have H35:Hid (Below w3.heap.size w3 w5):=h1.trans (hb5.mono h1.size)
  have H5:Hid (Below w.heap.size w w5):=H3.out.trans (H35.out.mono H3.out.size)
  clear h1 h2 hcl hb5 hg5 hr5 H3
  have HA:Hid (Args w5 (some ⟨g5,0,none⟩) 1 (fun j=>bs.extract (33+32*j) (33+32*j+32))):=fun _=>by
   refine ⟨g5,rfl,hl5,fun j hj=>⟨chv sb (so+33) 32 j,?_,?_⟩⟩
   ·rw[hc5 j hj,List.getElem?_map,List.getElem?_range hj]
    rfl
   ·have hsz:=HH.out.2
    refine ⟨_,32,32,rfl,by rw[Array.size_extract];omega,fun _=>⟨sb,so+33+32*j,rfl,Nat.le_refl _,Nat.lt_of_lt_of_le hlt H5.out.size,?_⟩⟩
    have hH5:Holds encB w5 sb so bs:=Holds.below HH.out.1 H5.out hlt
    have:=holds_part (33+32*j) 32 hH5 (by omega)
    rwa[← Nat.add_assoc] at this
  clear hl5 hc5
  go_wp2_with fail
  refine (allOf_c O 1 c5 (by decide) (some ⟨g5,0,none⟩) _ w5 HA.out).mono ?_
  have HN:Hid (w.heap.size≤w5.heap.size):=H5.out.size
  rintro e w6 ⟨v6,rfl,⟨hno,hb6,rfl⟩|⟨hall,k6,C6,hM6,hRo,rfl⟩⟩
  ·have H6:Hid (Below w.heap.size w w6∧RpT11 P N bs=false):=by
    refine ⟨H5.out.trans (hb6.mono HN.out),?_⟩
    obtain ⟨j,hj,hq⟩:=hno
    unfold RpT11
    obtain rfl:j=0:=by omega
    have hq':rq N (bs.extract 33 65)=none:=hq
    rw[hq'];simp
   clear hno hb6 H5 HA HH HP H35
   cases okp
   ·go_wp2
    refine bodyPost_ret (v:=.tuple #[qv,.slice none 0 0,.bool false]) (results_ttt (a:=⟨_,_⟩) 6 7 8 rfl _ _ _ rfl rfl rfl) rfl ?_
    exact ⟨_,rfl,H6.out.1,Or.inr ⟨H6.out.2,_,_,rfl⟩⟩
   ·go_wp2
    refine bodyPost_ret (v:=.tuple #[qv,.slice none 0 0,.bool false]) (results_ttt (a:=⟨_,_⟩) 6 7 8 rfl _ _ _ rfl rfl rfl) rfl ?_
    exact ⟨_,rfl,H6.out.1,Or.inr ⟨H6.out.2,_,_,rfl⟩⟩
  ·cases okp
   ·have H6:Hid (Below w.heap.size w w6∧RpT11 P N bs=false):=by
     refine ⟨H5.out.trans (hM6.bel.mono HN.out),?_⟩
     unfold RpT11
     rw[← HP.out.1]
     simp
    clear hall hM6 hRo H5 HA HH HP H35
    go_wp2
    refine bodyPost_ret (v:=.tuple #[qv,.slice (some ⟨k6,0,none⟩) 1 1,.bool false]) (results_ttt (a:=⟨_,_⟩) 6 7 8 rfl _ _ _ rfl rfl rfl) rfl ?_
    exact ⟨_,rfl,H6.out.1,Or.inr ⟨H6.out.2,_,_,rfl⟩⟩
   ·obtain ⟨K,rfl,hK1,hK2,hK3,hK4⟩:=HP.out.2 rfl
    have H6:Hid (RpR11 P N w bs (.tuple #[.slice (some ⟨K,0,none⟩) 1 1,.slice (some ⟨k6,0,none⟩) 1 1,.bool true]) w6):=by
     have q0:(rq N (bs.extract 33 65)).isSome=true:=hall 0 (by decide)
     have h36:Below w3.heap.size w3 w6:=H35.out.trans (hM6.bel.mono H35.out.size)
     refine ⟨H5.out.trans (hM6.bel.mono HN.out),Or.inl ⟨?_,K,k6,rfl,hK1,Nat.lt_of_lt_of_le hK2 (Nat.le_trans H35.out.size hM6.le),hM6.lt,RG.range_below hK4 h36 hK2,RG.there_below hK3 h36 hK2,?_,?_⟩⟩
     ·unfold RpT11
      rw[q0,HH.out.2,← HP.out.1]
      rfl
     ·have hC:=rows1 hRo (fun _=>rfl)
      rw[← rq_nuV q0]
      have:=hM6.range
      rw[hC] at this
      exact this
     ·have hC:=hRo.len
      have:=hM6.there
      rw[hC] at this
      exact this
    clear hall hM6 hRo H5 HA HH HP H35 hK1 hK2 hK3 hK4
    go_wp2
    refine bodyPost_ret (v:=.tuple #[.slice (some ⟨K,0,none⟩) 1 1,.slice (some ⟨k6,0,none⟩) 1 1,.bool true]) (results_ttt (a:=⟨_,_⟩) 6 7 8 rfl _ _ _ rfl rfl rfl) rfl ?_
    exact ⟨_,rfl,H6.out⟩
 ·have hne:((bs.size:Int) == 65)=false:=by simpa using (by omega:¬ (bs.size:Int)=65)
  have HT:Hid (RpT11 P N bs=false):=by show _=_;unfold RpT11;rw[decide_eq_false h64];rfl
  have h64':¬ (bs.size:Int)=65:=by omega
  go_enter Tryz.func35,Tryz.ntmps35
  go_wp2
  refine bodyPost_ret (v:=.tuple #[.slice none 0 0,.slice none 0 0,.bool false]) (results_ttt (a:=⟨_,_⟩) 6 7 8 rfl _ _ _ rfl rfl rfl) rfl ?_
  exact ⟨_,rfl,Below.refl _ _,Or.inr ⟨HT.out,_,_,rfl⟩⟩
def RpT12 (P:Nat) [NeZero P] (N:Nat) (b:Bs):Bool:=decide (b.size=97) && ((rd P (b.extract 0 33)).isSome && ((rq N (b.extract 33 65)).isSome && (rq N (b.extract 65 97)).isSome))
def RpR12 (P:Nat) [NeZero P] (N:Nat) (w:World) (b:Bs) (e:Value) (w':World):Prop:=
 Below w.heap.size w w'∧((RpT12 P N b=true∧∃ K k,e=.tuple #[.slice (some ⟨K,0,none⟩) 1 1,.slice (some ⟨k,0,none⟩) 2 2,.bool true]∧w.heap.size≤K∧K<k∧k<w'.heap.size∧w'.rangeAt K 0 (bl33 (b.extract 0 33))∧w'.there K 0 33∧w'.rangeAt k 0 (wn (nuV (b.extract 33 65))++wn (nuV (b.extract 65 97)))∧w'.there k 0 8)∨(RpT12 P N b=false∧∃ q1 q2,e=.tuple #[q1,q2,.bool false]))
theorem readProof12_c (C:Fld P) (O:Ord N) (v:Value) (b:Bs) (w:World) (hv:SP.PartOk w v b.toList):Calls Tryz.prog 35 #[v,.int .i64 1,.int .i64 2] w (Ret (RpR12 P N w b)):=by
 obtain ⟨a0,sb,so,cap,bs,rfl,hbe,hcap,-,hor⟩:=hv
 obtain rfl:bs=b:=Array.ext' hbe
 clear hbe
 by_cases h64:bs.size=97
 ·obtain ⟨rfl,hH⟩:a0=some ⟨sb,so,none⟩∧Holds encB w sb so bs:=by
   rcases hor with h|h
   ·omega
   ·exact h
  clear hor
  have hlt:sb<w.heap.size:=holds_lt hH (by omega)
  rw[h64] at hcap ⊢
  have hs1:∀ w:World,(Instr.sliceAt 22 (.slice (some ⟨sb,so,none⟩) 97 cap) none (some (.int .i64 33)) none).run Tryz.prog w=.ok (.slice (some ⟨sb,so,none⟩) 33 cap) w:=fun w=>by
   have h1:(33:Int)≤cap:=by omega
   go_simp
  have hs2:∀ w:World,(Instr.sliceAt 22 (.slice (some ⟨sb,so,none⟩) 97 cap) (some (.int .i64 33)) none none).run Tryz.prog w=.ok (.slice (some ⟨sb,so+33,none⟩) 64 (cap-33)) w:=fun w=>by
   have h1:(97:Int)≤cap:=by omega
   have h2:¬ cap=33:=by omega
   go_simp
  have HH:Hid (Holds encB w sb so bs∧bs.size=97):=⟨hH,h64⟩
  clear hH h64
  go_enter Tryz.func35,Tryz.ntmps35
  go_wp2_with fail
  refine (chunk0_c sb so 33 cap 33 (by decide) w).mono ?_
  rintro e w1 ⟨v1,rfl,rfl,hw1⟩
  obtain ⟨h1,h2,h3,h4⟩:=two_cells w (.slice (some ⟨sb,so,none⟩) 33 cap) (.int .i64 33) 22 3
  have hw1':w1=(w.alloc (.cells #[.slice (some ⟨sb,so,none⟩) 33 cap] 22)).alloc (.cells #[.int .i64 33] 3):=hw1
  rw[← hw1'] at h1 h2 h3 h4
  clear hw1 hw1'
  have hcl:=chunks_c sb so 33 1 33 cap w1 (by decide) rfl (by decide) (by omega) (by decide) w.heap.size (by omega) h3 h4
  clear h3 h4
  go_wp2_with fail
  refine hcl.mono ?_
  rintro e w2 ⟨v2,rfl,hb2,hr2,-⟩
  obtain ⟨g2,c2,rfl,hg2,hl2,hc2⟩:=own_cells hr2 (by decide)
  have H2:Hid (Below w.heap.size w w2):=h1.trans (hb2.mono h1.size)
  clear h1 h2 hcl hb2 hg2 hr2
  have HP:Hid (g2<w2.heap.size∧∀ j,j<1→∃ v,w2.cell? ⟨g2,j,none⟩=some v∧Arg33 w2 v (bs.extract 0 33)):=by
   refine ⟨hl2,fun j hj=>⟨chv sb so 33 j,?_,?_⟩⟩
   ·rw[hc2 j hj,List.getElem?_map,List.getElem?_range hj]
    rfl
   ·have hsz:=HH.out.2
    obtain rfl:j=0:=by omega
    refine ⟨_,33,33,rfl,by rw[Array.size_extract];omega,fun _=>⟨sb,so+33*0,rfl,Nat.le_refl _,Nat.lt_of_lt_of_le hlt H2.out.size,?_⟩⟩
    have hH2:Holds encB w2 sb so bs:=Holds.below HH.out.1 H2.out hlt
    exact holds_part 0 33 hH2 (by omega)
  clear hl2 hc2
  go_wp2_with fail
  refine (allP_t C g2 1 c2 (by decide) (fun _=>bs.extract 0 33) w2 HP.out.1 HP.out.2).mono ?_
  clear HP
  rintro e w3 ⟨v3,rfl,hb3,hR3⟩
  have H3:Hid (Below w.heap.size w w3):=H2.out.trans (hb3.mono H2.out.size)
  have HS:Hid (w.heap.size≤w2.heap.size):=H2.out.size
  clear hb3 H2
  obtain ⟨qv,okp,rfl,HP⟩:∃ qv okp,v3=.tuple #[qv,.bool okp]∧Hid (okp=(rd P (bs.extract 0 33)).isSome∧(okp=true→∃ K,qv=.slice (some ⟨K,0,none⟩) 1 1∧w.heap.size≤K∧K<w3.heap.size∧w3.there K 0 33∧w3.rangeAt K 0 (bl33 (bs.extract 0 33)))):=by
   rcases hR3 with ⟨h1,K,rfl,h3,h4,h5,h6⟩|⟨⟨j,hj,h1⟩,rfl⟩
   ·obtain ⟨p,hp⟩:=h1 0 (by decide)
    exact ⟨_,true,rfl,by rw[hp];rfl,fun _=>⟨K,rfl,Nat.le_trans HS.out h3,h4,h5,h6 0 (by decide)⟩⟩
   ·exact ⟨_,false,rfl,by rw[h1];rfl,fun h=>by cases h⟩
  clear hR3
  go_wp2_with fail
  refine (chunk0_c sb (so+33) 64 (cap-33) 32 (by decide) w3).mono ?_
  rintro e w4 ⟨v4,rfl,rfl,hw4⟩
  obtain ⟨h1,h2,h3,h4⟩:=two_cells w3 (.slice (some ⟨sb,so+33,none⟩) 64 (cap-33)) (.int .i64 32) 22 3
  have hw4':w4=(w3.alloc (.cells #[.slice (some ⟨sb,so+33,none⟩) 64 (cap-33)] 22)).alloc (.cells #[.int .i64 32] 3):=hw4
  rw[← hw4'] at h1 h2 h3 h4
  clear hw4 hw4'
  have hcl:=chunks_c sb (so+33) 32 2 64 (cap-33) w4 (by decide) rfl (by decide) (by omega) (by decide) w3.heap.size (by omega) h3 h4
  clear h3 h4
  go_wp2_with fail
  refine hcl.mono ?_
  rintro e w5 ⟨v5,rfl,hb5,hr5,-⟩
  obtain ⟨g5,c5,rfl,hg5,hl5,hc5⟩:=own_cells hr5 (by decide)
  have H35:Hid (Below w3.heap.size w3 w5):=h1.trans (hb5.mono h1.size)
  have H5:Hid (Below w.heap.size w w5):=H3.out.trans (H35.out.mono H3.out.size)
  clear h1 h2 hcl hb5 hg5 hr5 H3
  have HA:Hid (Args w5 (some ⟨g5,0,none⟩) 2 (fun j=>bs.extract (33+32*j) (33+32*j+32))):=fun _=>by
   refine ⟨g5,rfl,hl5,fun j hj=>⟨chv sb (so+33) 32 j,?_,?_⟩⟩
   ·rw[hc5 j hj,List.getElem?_map,List.getElem?_range hj]
    rfl
   ·have hsz:=HH.out.2
    refine ⟨_,32,32,rfl,by rw[Array.size_extract];omega,fun _=>⟨sb,so+33+32*j,rfl,Nat.le_refl _,Nat.lt_of_lt_of_le hlt H5.out.size,?_⟩⟩
    have hH5:Holds encB w5 sb so bs:=Holds.below HH.out.1 H5.out hlt
    have:=holds_part (33+32*j) 32 hH5 (by omega)
    rwa[← Nat.add_assoc] at this
  clear hl5 hc5
  go_wp2_with fail
  refine (allOf_c O 2 c5 (by decide) (some ⟨g5,0,none⟩) _ w5 HA.out).mono ?_
  have HN:Hid (w.heap.size≤w5.heap.size):=H5.out.size
  rintro e w6 ⟨v6,rfl,⟨hno,hb6,rfl⟩|⟨hall,k6,C6,hM6,hRo,rfl⟩⟩
  ·have H6:Hid (Below w.heap.size w w6∧RpT12 P N bs=false):=by
    refine ⟨H5.out.trans (hb6.mono HN.out),?_⟩
    obtain ⟨j,hj,hq⟩:=hno
    unfold RpT12
    have hj2:j=0∨j=1:=by omega
    rcases hj2 with rfl|rfl
    ·have hq':rq N (bs.extract 33 65)=none:=hq
     rw[hq'];simp
    ·have hq':rq N (bs.extract 65 97)=none:=hq
     rw[hq'];simp
   clear hno hb6 H5 HA HH HP H35
   cases okp
   ·go_wp2
    refine bodyPost_ret (v:=.tuple #[qv,.slice none 0 0,.bool false]) (results_ttt (a:=⟨_,_⟩) 6 7 8 rfl _ _ _ rfl rfl rfl) rfl ?_
    exact ⟨_,rfl,H6.out.1,Or.inr ⟨H6.out.2,_,_,rfl⟩⟩
   ·go_wp2
    refine bodyPost_ret (v:=.tuple #[qv,.slice none 0 0,.bool false]) (results_ttt (a:=⟨_,_⟩) 6 7 8 rfl _ _ _ rfl rfl rfl) rfl ?_
    exact ⟨_,rfl,H6.out.1,Or.inr ⟨H6.out.2,_,_,rfl⟩⟩
  ·cases okp
   ·have H6:Hid (Below w.heap.size w w6∧RpT12 P N bs=false):=by
     refine ⟨H5.out.trans (hM6.bel.mono HN.out),?_⟩
     unfold RpT12
     rw[← HP.out.1]
     simp
    clear hall hM6 hRo H5 HA HH HP H35
    go_wp2
    refine bodyPost_ret (v:=.tuple #[qv,.slice (some ⟨k6,0,none⟩) 2 2,.bool false]) (results_ttt (a:=⟨_,_⟩) 6 7 8 rfl _ _ _ rfl rfl rfl) rfl ?_
    exact ⟨_,rfl,H6.out.1,Or.inr ⟨H6.out.2,_,_,rfl⟩⟩
   ·obtain ⟨K,rfl,hK1,hK2,hK3,hK4⟩:=HP.out.2 rfl
    have H6:Hid (RpR12 P N w bs (.tuple #[.slice (some ⟨K,0,none⟩) 1 1,.slice (some ⟨k6,0,none⟩) 2 2,.bool true]) w6):=by
     have q0:(rq N (bs.extract 33 65)).isSome=true:=hall 0 (by decide)
     have q1:(rq N (bs.extract 65 97)).isSome=true:=hall 1 (by decide)
     have h36:Below w3.heap.size w3 w6:=H35.out.trans (hM6.bel.mono H35.out.size)
     refine ⟨H5.out.trans (hM6.bel.mono HN.out),Or.inl ⟨?_,K,k6,rfl,hK1,Nat.lt_of_lt_of_le hK2 (Nat.le_trans H35.out.size hM6.le),hM6.lt,RG.range_below hK4 h36 hK2,RG.there_below hK3 h36 hK2,?_,?_⟩⟩
     ·unfold RpT12
      rw[q0,q1,HH.out.2,← HP.out.1]
      rfl
     ·have hC:=rows2 hRo (fun _=>rfl)
      rw[← rq_nuV q0,← rq_nuV q1]
      have:=hM6.range
      rw[hC] at this
      exact this
     ·have hC:=hRo.len
      have:=hM6.there
      rw[hC] at this
      exact this
    clear hall hM6 hRo H5 HA HH HP H35 hK1 hK2 hK3 hK4
    go_wp2
    refine bodyPost_ret (v:=.tuple #[.slice (some ⟨K,0,none⟩) 1 1,.slice (some ⟨k6,0,none⟩) 2 2,.bool true]) (results_ttt (a:=⟨_,_⟩) 6 7 8 rfl _ _ _ rfl rfl rfl) rfl ?_
    exact ⟨_,rfl,H6.out⟩
 ·have hne:((bs.size:Int) == 97)=false:=by simpa using (by omega:¬ (bs.size:Int)=97)
  have HT:Hid (RpT12 P N bs=false):=by show _=_;unfold RpT12;rw[decide_eq_false h64];rfl
  have h64':¬ (bs.size:Int)=97:=by omega
  go_enter Tryz.func35,Tryz.ntmps35
  go_wp2
  refine bodyPost_ret (v:=.tuple #[.slice none 0 0,.slice none 0 0,.bool false]) (results_ttt (a:=⟨_,_⟩) 6 7 8 rfl _ _ _ rfl rfl rfl) rfl ?_
  exact ⟨_,rfl,Below.refl _ _,Or.inr ⟨HT.out,_,_,rfl⟩⟩
end
section
open Go.RowKit Go.Sort Go.Deep
variable {P:Nat} [NeZero P] {N:Nat}
theorem nu_bxP (O:Ord N) {n:Nat} (hn:n<N):nuV (bx n)=n:=(rq_nu (rq_bxO O hn)).symm
theorem eqO {a b:Bs} (ha:a.size=33) (hb:b.size=33) (w:World):(binOp .eql 47 (pvl a) (pvl b)).run Tryz.prog w=.ok (.bool (decide (a=b))) w:=by
 have h:=eqCP ha hb w
 have h2:(binOp .eql 47 (pvl a) (pvl b)).run Tryz.prog w=(Op.equal 47 (pvl a) (pvl b) >>= fun b=>pure (Value.bool b)).run Tryz.prog w:=rfl
 rw[h2,Sem.run_bind]
 unfold pvl
 rw[h]
 rfl
section
variable (w:World) (k5 K k k10 z t c B0:Nat) (A F S R:Bs)
def RV5:Nat→Value→World→Prop
 | 0,v,_=>v=pvl A
 | 1,v,_=>v=.slice (some ⟨K,0,none⟩) 1 1
 | 2,v,_=>v=.pointer (some ⟨K,0,none⟩)
 | 3,v,_=>v=pvl F
 | 4,v,_=>v=nv c
 | 5,v,W=>Nw B0 [.int .u64 0,.int .u64 0,.int .u64 0,.int .u64 0] v W
 | _,_,_=>True
def GV5:RG.Gw:=⟨RV5 K c B0 A F,fun W=>Kp w W [(k,wn z++wn t),(K,bl33 F),(k5,bl33 A)]∧B0≤W.heap.size,fun i v W W' hb h=>by
 match i,h with
 | 0,h|1,h|2,h|3,h|4,h=>exact h
 | 5,h=>exact Nw.grow h hb
 | _+6,_=>trivial,fun W W' hb h=>⟨h.1.grow hb,Nat.le_trans h.2 hb.size⟩⟩
def RV6:Nat→Value→World→Prop
 | 0,v,_=>v=.slice (some ⟨k,0,none⟩) 2 2
 | 1,v,_=>v=.pointer (some ⟨k,0,none⟩)
 | 2,v,_=>v=nv z
 | 3,v,_=>v=.slice (some ⟨k,0,none⟩) 2 2
 | 4,v,_=>v=.pointer (some ⟨k,4,none⟩)
 | 5,v,_=>v=nv t
 | 6,v,_=>v=pvl S
 | 7,v,_=>v=.slice (some ⟨K,0,none⟩) 1 1
 | 8,v,_=>v=.pointer (some ⟨K,0,none⟩)
 | 9,v,_=>v=pvl F
 | 10,v,_=>v=nv 1
 | 11,v,W=>Sm B0 W v [(1,F)]
 | 12,v,_=>v=pvl A
 | 13,v,_=>v=nv c
 | 14,v,W=>Sm B0 W v [(c,A)]
 | 15,v,W=>∃ B',Sm B' W v [(1,F),(c,A)]
 | 16,v,_=>v=pvl R
 | 17,v,_=>v=.bool (decide (S=R))
 | 18,v,_=>v=.bool (decide (S=R))
 | _,_,_=>True
def GV6:RG.Gw:=⟨RV6 K k z t c B0 A F S R,fun W=>Kp w W [(k10,wn c),(k,wn z++wn t),(K,bl33 F),(k5,bl33 A)]∧B0≤W.heap.size,fun i v W W' hb h=>by
 match i,h with
 | 0,h|1,h|2,h|3,h|4,h|5,h|6,h|7,h|8,h|9,h|10,h|12,h|13,h|16,h|17,h|18,h=>exact h
 | 11,h|14,h=>exact Sm.grow h hb
 | 15,h=>obtain ⟨B',h⟩:=h;exact ⟨B',Sm.grow h hb⟩
 | _+19,_=>trivial,fun W W' hb h=>⟨h.1.grow hb,Nat.le_trans h.2 hb.size⟩⟩
end
theorem cut_97 {F Z T:Bs} (hF:F.size=33) (hZ:Z.size=32) (hT:T.size=32):(F++(Z++T)).extract 0 33=F∧(F++(Z++T)).extract 33 65=Z∧(F++(Z++T)).extract 65 97=T:=by
 have h97:(F++(Z++T)).size=97:=by rw[Array.size_append,Array.size_append,hF,hZ,hT]
 refine ⟨?_,?_,?_⟩
 ·apply Array.ext
  ·rw[Array.size_extract,h97,hF];rfl
  ·intro i q1 q2
   rw[Array.getElem_extract,Array.getElem_append_left (by omega)]
   simp
 ·apply Array.ext
  ·rw[Array.size_extract,h97,hZ];rfl
  ·intro i q1 q2
   rw[Array.getElem_extract,Array.getElem_append_right (by omega),Array.getElem_append_left (by omega)]
   simp[hF]
 ·apply Array.ext
  ·rw[Array.size_extract,h97,hT];rfl
  ·intro i q1 q2
   rw[Array.getElem_extract,Array.getElem_append_right (by omega),Array.getElem_append_right (by omega)]
   congr 1
   omega
theorem vopen_c (C:Fld P) (O:Ord N) (hord:∀ r:EC.Pt P,EC.On r→EC.mul N r=none) (p0 p1:Option Addr) (n0 c0 n1 c1:Nat) (X Y:EC.Pt P) (hX:EC.On X) (hY:EC.On Y) (z t c:Nat) (hzN:z<N) (htN:t<N) (hN1:1<N) (hc:aop N (wr X).toList (wr Y).toList=c) (w:World) (h0:Arg33 w (.slice p0 n0 c0) (wr X)) (h1:SP.PartOk w (.slice p1 n1 c1) (wr Y++(bx z++bx t)).toList) :
 Calls Tryz.prog 7 #[.slice p0 n0 c0,.slice p1 n1 c1] w (Ret fun e w'=>Below w.heap.size w w'∧e=.bool (decide (wr (cmt P z t)=wr (EC.add Y (EC.mul c X))))):=by
 obtain ⟨px,hpx,-⟩:=rd_wr C hX
 obtain ⟨py,hpy,-⟩:=rd_wr C hY
 obtain ⟨e1,e2,e3⟩:=cut_97 (wr_size Y) (bx_size z) (bx_size t)
 have hcN:c<N:=by rw[← hc];exact aop_lt O _ _
 have HR:=Hid.mk' (cRead_y C (.slice p0 n0 c0) (wr X) px w h0 hpx)
 have hT:RpT12 P N (wr Y++(bx z++bx t))=true:=by
  unfold RpT12
  rw[e1,e2,e3,hpy,rq_bxO O hzN,rq_bxO O htN,Array.size_append,Array.size_append,wr_size,bx_size,bx_size]
  rfl
 have HRp:Hid (∀ W,Below w.heap.size w W→Calls Tryz.prog 35 #[.slice p1 n1 c1,.int .i64 1,.int .i64 2] W (Ret fun e w'=>Below W.heap.size W w'∧∃ K k,e=.tuple #[.slice (some ⟨K,0,none⟩) 1 1,.slice (some ⟨k,0,none⟩) 2 2,.bool true]∧W.heap.size≤K∧K<k∧k<w'.heap.size∧w'.rangeAt K 0 (bl33 (wr Y))∧w'.there K 0 33∧w'.rangeAt k 0 (wn z++wn t)∧w'.there k 0 8)):=fun W hb=>by
  refine (readProof12_c C O _ _ W (h1.below hb)).mono ?_
  rintro e w' ⟨u,rfl,hb',⟨-,K,k,rfl,q1,q2,q3,q4,q5,q6,q7⟩|⟨hf,-⟩⟩
  ·rw[e1] at q4
   rw[e2,e3,nu_bxP O hzN,nu_bxP O htN] at q6
   exact ⟨_,rfl,hb',K,k,rfl,q1,q2,q3,q4,q5,q6,q7⟩
  ·rw[hT] at hf;cases hf
 have HQ:=Hid.mk' (sOpen_c O (wr X) (wr Y) (wr_size _) (wr_size _))
 rw[hc] at HQ
 have HCm:=Hid.mk' (cCommit_c C O hzN htN)
 have hsum:sumL P [(1,wr Y),(c,wr X)]=EC.add Y (EC.mul c X):=by
  show EC.add (EC.mul 1 (unwr P (wr Y))) (EC.add (EC.mul c (unwr P (wr X))) none)=_
  rw[unwr_wr C hY,unwr_wr C hX,show EC.mul 1 Y=Y from EC.none_add _,C.cur.comm (EC.mul_on C.cur hX c) EC.none_on]
  rfl
 have HPt:Hid (∀ (B':Nat) (W:World) (v:Value),Sm B' W v [(1,wr Y),(c,wr X)]→Calls Tryz.prog 39 #[v] W (Ret fun e w'=>Below W.heap.size W w'∧e=pvl (wr (EC.add Y (EC.mul c X))))):=fun B' W v h=>by
  rw[← hsum]
  refine h.point C O hord (Nat.zero_lt_succ _) (by show 2≤512;omega) (fun q hq=>?_) (fun q hq=>?_)
  ·simp only[List.mem_cons,List.not_mem_nil,or_false] at hq
   rcases hq with rfl|rfl
   ·exact hN1
   ·exact hcN
  ·simp only[List.mem_cons,List.not_mem_nil,or_false] at hq
   rcases hq with rfl|rfl
   ·exact ⟨Y,hY,rfl⟩
   ·exact ⟨X,hX,rfl⟩
 have HS:Hid ((wr X).size=33∧(wr Y).size=33∧(wr (cmt P z t)).size=33∧(wr (EC.add Y (EC.mul c X))).size=33):=⟨wr_size _,wr_size _,wr_size _,wr_size _⟩
 clear hc h0 h1 hpx hpy e1 e2 e3 hT hsum hcN
 generalize wr (EC.add Y (EC.mul c X))=R at HPt HS ⊢
 generalize wr (cmt P z t)=S at HCm HS ⊢
 generalize wr X=A at HR HQ HPt HS
 generalize wr Y=F at HRp HQ HPt HS
 clear C O hord hX hY hzN htN
 obtain ⟨vA,hvA⟩:∃ v,Hid (pvl A=v):=⟨_,rfl⟩
 rw[hvA.out] at HR
 have hlA:(bl33 A).length=33:=bl33_length HS.out.1
 have hlF:(bl33 F).length=33:=bl33_length HS.out.2.1
 have HI:Hid ((Tryz.prog.info? 47).map (·.size)=some (bl33 A).length∧(Tryz.prog.info? 47).map (·.size)=some (bl33 F).length):=by
  rw[hlA,hlF]
  exact ⟨infoCP,infoCP⟩
 go_enter Tryz.func7,Tryz.ntmps7
 go_wp2_with fail
 refine HR.out.mono ?_
 rintro e w1 ⟨u,rfl,hb1,rfl⟩
 obtain ⟨w2,hw2⟩:∃ w2,Hid (w1.alloc (.cells z33.toArray 47)=w2):=⟨_,rfl⟩
 obtain ⟨k5,hk5⟩:∃ k,Hid (w1.heap.size=k):=⟨_,rfl⟩
 obtain ⟨w3,hw3⟩:∃ w3,Hid (w2.setCells k5 0 (bl33 A)=w3):=⟨_,rfl⟩
 have F2:Hid (Row w2 k5 z33∧Below w.heap.size w w2∧w.heap.size≤k5):=by
  rw[← hw2.out,← hk5.out]
  exact ⟨row_new w1 _ _,hb1.alloc hb1.size _,hb1.size⟩
 have K3:Hid (Kp w w3 [(k5,bl33 A)]):=by
  rw[← hw3.out]
  exact ⟨RG.below_setCells F2.out.2.2 _ _ _ F2.out.2.1,fun q hq=>by rw[show q=(k5,bl33 A) by simpa using hq];exact F2.out.1.put (by rw[hlA];rfl)⟩
 have HJ:Hid (w2.there k5 0 (bl33 A).toArray.size∧(Tryz.prog.info? 47).map (·.size)=some (bl33 A).toArray.size):=by
  have e:(bl33 A).toArray.size=33:=by rw[List.size_toArray];exact hlA
  rw[e]
  exact ⟨F2.out.1.2.2,infoCP⟩
 clear hb1 HR hlA hlF
 go_wp2_with (first|(refine wpList_op (v:=.pointer (some ⟨k5,0,none⟩)) (w':=w2) rfl (.alloc 47) rfl ?_ ?_;(rw[← hw2.out,← hk5.out];kernel_rfl))|(refine wpList_store_mid rfl 47 _ _ rfl k5 0 (bl33 A).toArray ?_ ?_ ?_ ?_ ?_ ?_;rfl;exact hvA.out.symm;exact HJ.out.1;exact HJ.out.2;exact bl33_one A;rw[show (bl33 A).toArray.toList=bl33 A from rfl,hw3.out])|fail)
 clear hw2 hw3 hk5 F2 HJ
 refine (HRp.out w3 K3.out.bl).mono ?_
 rintro e w4 ⟨u,rfl,hb4,K,k,rfl,q1,q2,q3,q4,q5,q6,q7⟩
 have K4:Hid (Kp w w4 [(k,wn z++wn t),(K,bl33 F),(k5,bl33 A)]):=by
  have h3:=K3.out.grow hb4
  refine ⟨h3.bl,fun q hq=>?_⟩
  simp only[List.mem_cons,List.not_mem_nil,or_false] at hq
  rcases hq with rfl|rfl|rfl
  ·exact ⟨q3,q6,q7⟩
  ·exact ⟨by show K<_;omega,q4,by have e:(bl33 F).length=33:=bl33_length HS.out.2.1;rw[e];exact q5⟩
  ·exact h3.at 0 rfl
 clear hb4 q1 q2 q3 q4 q5 q6 q7 K3 HRp
 go_wp2_with fail
 refine (GV5 w k5 K k z t c w4.heap.size A F).last 6 (by kernel_rfl) (by kernel_rfl) (by kernel_rfl) ⟨
  RG.gw_load 47 5 rfl uCP fun a W hp=>⟨k5,0,bl33 A,hp.o 5 (by kernel_rfl),(hp.b.1.at 2 rfl).2.1,HI.out.1,rfl⟩,
  RG.gw_val fun a W hp=>⟨[(7,.slice (some ⟨K,0,none⟩) 1 1)],.slice (some ⟨K,0,none⟩) 1 1,W,⟨hp.o 7 (by kernel_rfl),trivial⟩,by kernel_rfl,Below.refl _ _,rfl⟩,
  RG.gw_val fun a W hp=>⟨[(29,.slice (some ⟨K,0,none⟩) 1 1)],.pointer (some ⟨K,0,none⟩),W,⟨hp.n 1 29 (by kernel_rfl) (by kernel_rfl),trivial⟩,by kernel_rfl,Below.refl _ _,rfl⟩,
  RG.gw_load 47 30 rfl uCP fun a W hp=>⟨K,0,bl33 F,hp.n 2 30 (by kernel_rfl) (by kernel_rfl),(hp.b.1.at 1 rfl).2.1,HI.out.2,rfl⟩,
  RG.gw_call fun a W hp=>⟨[(28,pvl A),(31,pvl F)],21,#[pvl A,pvl F],⟨hp.n 0 28 (by kernel_rfl) (by kernel_rfl),hp.n 3 31 (by kernel_rfl) (by kernel_rfl),trivial⟩,by kernel_rfl,by
   refine (HQ.out W).mono ?_
   rintro e W' ⟨u,rfl,hb,rfl⟩
   exact ⟨_,rfl,hb,rfl⟩⟩,
  RG.gw_val fun a W hp=>⟨[],.pointer (some ⟨W.heap.size,0,none⟩),W.alloc (.cells #[.int .u64 0,.int .u64 0,.int .u64 0,.int .u64 0] 43),trivial,by kernel_rfl,below1 _ _,W.heap.size,rfl,hp.b.2,row_new W _ _⟩,trivial⟩ ⟨K4.out.drew,Nat.le_refl _⟩ ?_
 intro V we hRe hBe
 obtain ⟨k10,hk10,hk10b,hk10r⟩:=show Nw w4.heap.size [.int .u64 0,.int .u64 0,.int .u64 0,.int .u64 0] (V 5) we from hRe 5 (by decide)
 have hV4:V 4=nv c:=hRe 4 (by decide)
 dsimp only[RG.putV,Nat.reduceAdd,List.take,List.drop]
 obtain ⟨vc,hvc⟩:∃ v,Hid (nv c=v):=⟨_,rfl⟩
 rw[hk10,hV4,hvc.out]
 generalize V 0=s0
 generalize V 1=s1
 generalize V 2=s2
 generalize V 3=s3
 obtain ⟨wf,hwf⟩:∃ wf,Hid (we.setCells k10 0 (wn c)=wf):=⟨_,rfl⟩
 have HBe:Hid (Kp w we [(k,wn z++wn t),(K,bl33 F),(k5,bl33 A)]∧w4.heap.size≤we.heap.size):=hBe
 have Kf:Hid (Kp w wf [(k10,wn c),(k,wn z++wn t),(K,bl33 F),(k5,bl33 A)]):=by
  rw[← hwf.out]
  refine HBe.out.1.put hk10r rfl (Nat.le_trans K4.out.bl.size hk10b) fun q hq=>?_
  have h8:=(K4.out.rw q hq).1
  omega
 have HJ:Hid (we.there k10 0 [Value.int .u64 0,.int .u64 0,.int .u64 0,.int .u64 0].length):=hk10r.2.2
 clear hRe hBe hk10 hk10b hk10r hV4 HBe K4 V HQ
 simp only[Act.put,List.setIfInBounds_toArray,List.set_cons_succ,List.set_cons_zero]
 go_wp2_with (first|(refine wpList_store_mid rfl 43 _ _ rfl k10 0 (wn c).toArray ?_ ?_ ?_ ?_ ?_ ?_;rfl;exact hvc.out.symm;exact HJ.out;exact i40;exact wn_one c;rw[show (wn c).toArray.toList=wn c from rfl,hwf.out])|fail)
 clear hwf HJ
 obtain ⟨B0,hB0⟩:∃ B0,Hid (wf.heap.size=B0):=⟨_,rfl⟩
 refine (GV6 w k5 K k k10 z t c B0 A F S R).draws (by kernel_rfl) (by kernel_rfl) ⟨
  RG.gw_val fun a W hp=>⟨[(8,.slice (some ⟨k,0,none⟩) 2 2)],.slice (some ⟨k,0,none⟩) 2 2,W,⟨hp.o 8 (by kernel_rfl),trivial⟩,by kernel_rfl,Below.refl _ _,rfl⟩,
  RG.gw_val fun a W hp=>⟨[(33,.slice (some ⟨k,0,none⟩) 2 2)],.pointer (some ⟨k,0,none⟩),W,⟨hp.n 0 33 (by kernel_rfl) (by kernel_rfl),trivial⟩,by kernel_rfl,Below.refl _ _,rfl⟩,
  RG.gw_load 43 34 rfl u40 fun a W hp=>⟨k,0,wn z,hp.n 1 34 (by kernel_rfl) (by kernel_rfl),range_front (hp.b.1.at 1 rfl).2.1,i40,rfl⟩,
  RG.gw_val fun a W hp=>⟨[(8,.slice (some ⟨k,0,none⟩) 2 2)],.slice (some ⟨k,0,none⟩) 2 2,W,⟨hp.o 8 (by kernel_rfl),trivial⟩,by kernel_rfl,Below.refl _ _,rfl⟩,
  RG.gw_val fun a W hp=>⟨[(36,.slice (some ⟨k,0,none⟩) 2 2)],.pointer (some ⟨k,4,none⟩),W,⟨hp.n 3 36 (by kernel_rfl) (by kernel_rfl),trivial⟩,by kernel_rfl,Below.refl _ _,rfl⟩,
  RG.gw_load 43 37 rfl u40 fun a W hp=>⟨k,4,wn t,hp.n 4 37 (by kernel_rfl) (by kernel_rfl),range_back (xs:=wn z) (hp.b.1.at 1 rfl).2.1,i40,rfl⟩,
  RG.gw_call fun a W hp=>⟨[(35,nv z),(38,nv t)],20,#[nv z,nv t],⟨hp.n 2 35 (by kernel_rfl) (by kernel_rfl),hp.n 5 38 (by kernel_rfl) (by kernel_rfl),trivial⟩,by kernel_rfl,by
   refine (HCm.out W).mono ?_
   rintro e W' ⟨u,rfl,hb,rfl⟩
   exact ⟨_,rfl,hb,rfl⟩⟩,
  RG.gw_val fun a W hp=>⟨[(7,.slice (some ⟨K,0,none⟩) 1 1)],.slice (some ⟨K,0,none⟩) 1 1,W,⟨hp.o 7 (by kernel_rfl),trivial⟩,by kernel_rfl,Below.refl _ _,rfl⟩,
  RG.gw_val fun a W hp=>⟨[(40,.slice (some ⟨K,0,none⟩) 1 1)],.pointer (some ⟨K,0,none⟩),W,⟨hp.n 7 40 (by kernel_rfl) (by kernel_rfl),trivial⟩,by kernel_rfl,Below.refl _ _,rfl⟩,
  RG.gw_load 47 41 rfl uCP fun a W hp=>⟨K,0,bl33 F,hp.n 8 41 (by kernel_rfl) (by kernel_rfl),(hp.b.1.at 2 rfl).2.1,HI.out.2,rfl⟩,
  RG.gw_call fun a W hp=>⟨[],37,#[.int .u64 1],trivial,by kernel_rfl,by
   refine (of1_c W).mono ?_
   rintro e W' ⟨u,rfl,hb,rfl⟩
   exact ⟨_,rfl,hb,rfl⟩⟩,
  RG.gw_call fun a W hp=>⟨[(42,pvl F),(43,nv 1)],36,#[pvl F,nv 1],⟨hp.n 9 42 (by kernel_rfl) (by kernel_rfl),hp.n 10 43 (by kernel_rfl) (by kernel_rfl),trivial⟩,by kernel_rfl,by
   refine (ptTimes_c F HS.out.2.1 1 W).mono ?_
   rintro e W' ⟨u,rfl,hb,k',rfl,hk1,hk2⟩
   exact ⟨_,rfl,hb,Sm.one hk2 (Nat.le_trans hp.b.2 hk1) rfl⟩⟩,
  RG.gw_load 47 5 rfl uCP fun a W hp=>⟨k5,0,bl33 A,hp.o 5 (by kernel_rfl),(hp.b.1.at 3 rfl).2.1,HI.out.1,rfl⟩,
  RG.gw_load 43 10 rfl u40 fun a W hp=>⟨k10,0,wn c,hp.o 10 (by kernel_rfl),(hp.b.1.at 0 rfl).2.1,i40,rfl⟩,
  RG.gw_call fun a W hp=>⟨[(45,pvl A),(46,nv c)],36,#[pvl A,nv c],⟨hp.n 12 45 (by kernel_rfl) (by kernel_rfl),hp.n 13 46 (by kernel_rfl) (by kernel_rfl),trivial⟩,by kernel_rfl,by
   refine (ptTimes_c A HS.out.1 c W).mono ?_
   rintro e W' ⟨u,rfl,hb,k',rfl,hk1,hk2⟩
   exact ⟨_,rfl,hb,Sm.one hk2 (Nat.le_trans hp.b.2 hk1) rfl⟩⟩,
  RG.gw_call fun a W hp=>⟨[(44,a.eval (.tmp 44)),(47,a.eval (.tmp 47))],38,#[a.eval (.tmp 44),a.eval (.tmp 47)],⟨rfl,rfl,trivial⟩,by kernel_rfl,by
   have h1:=show Sm B0 W (a.eval (.tmp 44)) [(1,F)] from hp.n 11 44 (by kernel_rfl) (by kernel_rfl)
   have h2:=show Sm B0 W (a.eval (.tmp 47)) [(c,A)] from hp.n 14 47 (by kernel_rfl) (by kernel_rfl)
   refine (sumPlus_c B0 _ _ [(1,F)] [(c,A)] (Nat.zero_lt_succ _) (by show 1≤500;omega) (by show 1≤500;omega) (fun q hq=>by rw[show q=(1,F) by simpa using hq];exact HS.out.2.1) (fun q hq=>by rw[show q=(c,A) by simpa using hq];exact HS.out.1) W h1 h2).mono ?_
   rintro e W' ⟨u,rfl,hb,hs⟩
   exact ⟨_,rfl,hb,W.heap.size,hs⟩⟩,
  RG.gw_call fun a W hp=>⟨[(48,a.eval (.tmp 48))],39,#[a.eval (.tmp 48)],⟨rfl,trivial⟩,by kernel_rfl,by
   obtain ⟨B',hs⟩:=show ∃ B',Sm B' W (a.eval (.tmp 48)) [(1,F),(c,A)] from hp.n 15 48 (by kernel_rfl) (by kernel_rfl)
   refine (HPt.out B' W _ hs).mono ?_
   rintro e W' ⟨u,rfl,hb,rfl⟩
   exact ⟨_,rfl,hb,rfl⟩⟩,
  RG.gw_bin .eql 47 47 39 49 rfl fun a W hp=>⟨_,_,_,hp.n 6 39 (by kernel_rfl) (by kernel_rfl),hp.n 16 49 (by kernel_rfl) (by kernel_rfl),by kernel_rfl,eqO HS.out.2.2.1 HS.out.2.2.2 W,rfl⟩,
  RG.gw_val fun a W hp=>⟨[(50,.bool (decide (S=R)))],.bool (decide (S=R)),W,⟨hp.n 17 50 (by kernel_rfl) (by kernel_rfl),trivial⟩,by kernel_rfl,Below.refl _ _,rfl⟩,trivial⟩ ⟨Kf.out.drew,by rw[← hB0.out];exact Nat.le_refl _⟩ ?_
 intro V wg hRg hBg
 have hV18:V 18=.bool (decide (S=R)):=hRg 18 (Nat.lt_of_succ_le (Nat.le_of_ble_eq_true (by kernel_rfl)))
 have HBg:Hid (Below w.heap.size w wg):=hBg.1.bl
 dsimp only[RG.putV,Nat.reduceAdd]
 simp only[Act.put,List.setIfInBounds_toArray,List.set_cons_succ,List.set_cons_zero]
 rw[hV18]
 clear hRg hBg Kf
 go_wp2
 go_ret
 exact ⟨_,rfl,HBg.out,rfl⟩
end
section
open Go.RowKit Go.Sort Go.Deep
variable {P:Nat} [NeZero P] {N:Nat}
theorem boxSc (n:Nat) (w:World):(Instr.box 43 (nv n)).run Tryz.prog w=.ok (.pointer (some ⟨w.heap.size,0,none⟩)) (w.alloc (.cells (wn n).toArray 43)):=by kernel_rfl
section
variable (w:World) (k4 k5 k6 k7 k8 c s m B0:Nat) (a b T:Bs)
def RFo:Nat→Value→World→Prop
 | 0,v,_=>v=pvl a
 | 1,v,_=>v=nv s
 | 2,v,W=>Sm B0 W v [(s,a)]
 | 3,v,_=>v=pvl b
 | 4,v,_=>v=nv c
 | 5,v,W=>Sm B0 W v [(c,b)]
 | 6,v,W=>Sm B0 W v [(s,a),(m,b)]
 | 7,v,_=>v=pvl T
 | _,_,_=>True
def GFo:RG.Gw:=⟨RFo c s m B0 a b T,fun W=>Kp w W [(k8,z33),(k7,wn s),(k6,wn c),(k5,bl33 b),(k4,bl33 a)]∧B0≤W.heap.size,fun i v W W' hb h=>by
 match i,h with
 | 0,h=>exact h
 | 1,h=>exact h
 | 2,h=>exact Sm.grow h hb
 | 3,h=>exact h
 | 4,h=>exact h
 | 5,h=>exact Sm.grow h hb
 | 6,h=>exact Sm.grow h hb
 | 7,h=>exact h
 | _+8,_=>trivial,fun W W' hb h=>⟨h.1.grow hb,Nat.le_trans h.2 hb.size⟩⟩
end
theorem first0_c (C:Fld P) (O:Ord N) (hord:∀ r:EC.Pt P,EC.On r→EC.mul N r=none) {X Y:EC.Pt P} (hX:EC.On X) (hY:EC.On Y) {c s:Nat} (hc:c<N) (hs:s<N):Gives 57 #[pvl (wr X),pvl (wr Y),nv c,nv s] (pvl (wr (EC.add (EC.mul s X) (EC.neg (EC.mul c Y))))):=by
 intro w
 have hpts:PtsL P [(s,wr X),(sTi N (sMi N 0 1) c,wr Y)]:=fun y hy=>by
  rcases List.mem_cons.1 hy with rfl|hy
  ·exact ⟨X,hX,rfl⟩
  ·rw[show y=(sTi N (sMi N 0 1) c,wr Y) by simpa using hy];exact ⟨Y,hY,rfl⟩
 have hsum:sumL P [(s,wr X),(sTi N (sMi N 0 1) c,wr Y)]=EC.add (EC.mul s X) (EC.neg (EC.mul c Y)):=by
  show EC.add (EC.mul s (unwr P (wr X))) (EC.add (EC.mul (sTi N (sMi N 0 1) c) (unwr P (wr Y))) none)=_
  rw[unwr_wr C hX,unwr_wr C hY,EC.add_none,mul_opp C O hord hY]
 rw[← hsum]
 have HE:Hid (PtsL P [(s,wr X),(sTi N (sMi N 0 1) c,wr Y)]∧sTi N (sMi N 0 1) c<N∧(wr X).size=33∧(wr Y).size=33∧(wr (sumL P [(s,wr X),(sTi N (sMi N 0 1) c,wr Y)])).size=33):=⟨hpts,Nat.mod_lt _ O.pos,wr_size _,wr_size _,wr_size _⟩
 have HC:Hid (Fld P∧Ord N∧(∀ r:EC.Pt P,EC.On r→EC.mul N r=none)∧c<N∧s<N):=⟨C,O,hord,hc,hs⟩
 clear hsum hpts hX hY C O hord hc hs
 generalize wr X=a at HE ⊢
 generalize wr Y=b at HE ⊢
 obtain ⟨T,hT⟩:∃ T,Hid (wr (sumL P [(s,a),(sTi N (sMi N 0 1) c,b)])=T):=⟨_,rfl⟩
 rw[hT.out] at HE ⊢
 obtain ⟨va,hva⟩:∃ v,Hid (pvl a=v):=⟨_,rfl⟩
 obtain ⟨vb,hvb⟩:∃ v,Hid (pvl b=v):=⟨_,rfl⟩
 obtain ⟨vc,hvc⟩:∃ v,Hid (nv c=v):=⟨_,rfl⟩
 obtain ⟨vs,hvs⟩:∃ v,Hid (nv s=v):=⟨_,rfl⟩
 have bA:(Instr.box 47 (pvl a)).run Tryz.prog w=.ok (.pointer (some ⟨w.heap.size,0,none⟩)) (w.alloc (.cells (bl33 a).toArray 47)):=boxCP HE.out.2.2.1 w
 obtain ⟨w1,hw1⟩:∃ w1,Hid (w.alloc (.cells (bl33 a).toArray 47)=w1):=⟨_,rfl⟩
 have bB:(Instr.box 47 (pvl b)).run Tryz.prog w1=.ok (.pointer (some ⟨w1.heap.size,0,none⟩)) (w1.alloc (.cells (bl33 b).toArray 47)):=boxCP HE.out.2.2.2.1 w1
 obtain ⟨w2,hw2⟩:∃ w2,Hid (w1.alloc (.cells (bl33 b).toArray 47)=w2):=⟨_,rfl⟩
 have bC:=boxSc c w2
 obtain ⟨w3,hw3⟩:∃ w3,Hid (w2.alloc (.cells (wn c).toArray 43)=w3):=⟨_,rfl⟩
 have bS:=boxSc s w3
 obtain ⟨w4,hw4⟩:∃ w4,Hid (w3.alloc (.cells (wn s).toArray 43)=w4):=⟨_,rfl⟩
 obtain ⟨w5,hw5⟩:∃ w5,Hid (w4.alloc (.cells z33.toArray 47)=w5):=⟨_,rfl⟩
 rw[hva.out,hw1.out] at bA
 rw[hvb.out,hw2.out] at bB
 rw[hvc.out,hw3.out] at bC
 rw[hvs.out,hw4.out] at bS
 rw[hva.out,hvb.out,hvc.out,hvs.out]
 have e1:w1.heap.size=w.heap.size+1:=by rw[← hw1.out,World.size_alloc]
 have e2:w2.heap.size=w.heap.size+2:=by rw[← hw2.out,World.size_alloc,e1]
 have e3:w3.heap.size=w.heap.size+3:=by rw[← hw3.out,World.size_alloc,e2]
 have e4:w4.heap.size=w.heap.size+4:=by rw[← hw4.out,World.size_alloc,e3]
 rw[e1] at bB
 rw[e2] at bC
 rw[e3] at bS
 have K5:Hid (Kp w w5 [(w.heap.size+4,z33),(w.heap.size+3,wn s),(w.heap.size+2,wn c),(w.heap.size+1,bl33 b),(w.heap.size,bl33 a)]):=by
  have q1:Row w1 w.heap.size (bl33 a):=by rw[← hw1.out];exact row_new w _ _
  have q2:Row w2 (w.heap.size+1) (bl33 b):=by rw[← hw2.out,← e1];exact row_new w1 _ _
  have q3:Row w3 (w.heap.size+2) (wn c):=by rw[← hw3.out,← e2];exact row_new w2 _ _
  have q4:Row w4 (w.heap.size+3) (wn s):=by rw[← hw4.out,← e3];exact row_new w3 _ _
  have q5:Row w5 (w.heap.size+4) z33:=by rw[← hw5.out,← e4];exact row_new w4 _ _
  have b1:Below w.heap.size w w1:=by rw[← hw1.out];exact below1 w _
  have b2:Below w1.heap.size w1 w2:=by rw[← hw2.out];exact below1 w1 _
  have b3:Below w2.heap.size w2 w3:=by rw[← hw3.out];exact below1 w2 _
  have b4:Below w3.heap.size w3 w4:=by rw[← hw4.out];exact below1 w3 _
  have b5:Below w4.heap.size w4 w5:=by rw[← hw5.out];exact below1 w4 _
  have t0:Kp w w1 [(w.heap.size,bl33 a)]:=⟨b1,fun x hx=>by rw[show x=(w.heap.size,bl33 a) by simpa using hx];exact q1⟩
  exact (((((((t0.grow b2).cons q2).grow b3).cons q3).grow b4).cons q4).grow b5).cons q5
 have BA:=Hid.mk' bA
 have BB:=Hid.mk' bB
 have BC:=Hid.mk' bC
 have BS:=Hid.mk' bS
 have HW5:Hid (w4.alloc (.cells z33.toArray 47)=w5∧w4.heap.size=w.heap.size+4):=⟨hw5.out,e4⟩
 clear bA bB bC bS hw1 hw2 hw3 hw4 hw5 e1 e2 e3 e4
 go_enter Tryz.func57,Tryz.ntmps57
 go_wp2_with (first|(refine wpList_box (u:=va) (v:=.pointer (some ⟨w.heap.size,0,none⟩)) (w':=w1) rfl 47 (.tmp 0) rfl ?_ ?_ ?_;rfl;exact BA.out)|(refine wpList_box (u:=vb) (v:=.pointer (some ⟨w.heap.size+1,0,none⟩)) (w':=w2) rfl 47 (.tmp 1) rfl ?_ ?_ ?_;rfl;exact BB.out)|(refine wpList_box (u:=vc) (v:=.pointer (some ⟨w.heap.size+2,0,none⟩)) (w':=w3) rfl 43 (.tmp 2) rfl ?_ ?_ ?_;rfl;exact BC.out)|(refine wpList_box (u:=vs) (v:=.pointer (some ⟨w.heap.size+3,0,none⟩)) (w':=w4) rfl 43 (.tmp 3) rfl ?_ ?_ ?_;rfl;exact BS.out)|(refine wpList_op (v:=.pointer (some ⟨w.heap.size+4,0,none⟩)) (w':=w5) rfl (.alloc 47) rfl ?_ ?_;(rw[← HW5.out.1,← HW5.out.2];kernel_rfl))|fail)
 clear BA BB BC BS HW5
 refine (GFo w w.heap.size (w.heap.size+1) (w.heap.size+2) (w.heap.size+3) (w.heap.size+4) c s (sTi N (sMi N 0 1) c) w.heap.size a b T).last 8 (by kernel_rfl) (by kernel_rfl) (by kernel_rfl) ⟨
  RG.gw_load 47 4 rfl uCP fun a' W hp=>⟨w.heap.size,0,bl33 a,hp.o 4 (by kernel_rfl),(hp.b.1.at 4 rfl).2.1,by rw[bl33_length HE.out.2.2.1];exact infoCP,rfl⟩,
  RG.gw_load 43 7 rfl u40 fun a' W hp=>⟨w.heap.size+3,0,wn s,hp.o 7 (by kernel_rfl),(hp.b.1.at 1 rfl).2.1,i40,rfl⟩,
  RG.gw_call fun a' W hp=>⟨[(9,pvl a),(10,nv s)],36,#[pvl a,nv s],⟨hp.n 0 9 (by kernel_rfl) (by kernel_rfl),hp.n 1 10 (by kernel_rfl) (by kernel_rfl),trivial⟩,by kernel_rfl,(ptTimes_c a HE.out.2.2.1 s W).mono (by
   rintro e W' ⟨u,rfl,hb,k,rfl,hk,hR⟩
   exact ⟨_,rfl,hb,Sm.one hR (Nat.le_trans hp.b.1.bl.size hk) rfl⟩)⟩,
  RG.gw_load 47 5 rfl uCP fun a' W hp=>⟨w.heap.size+1,0,bl33 b,hp.o 5 (by kernel_rfl),(hp.b.1.at 3 rfl).2.1,by rw[bl33_length HE.out.2.2.2.1];exact infoCP,rfl⟩,
  RG.gw_load 43 6 rfl u40 fun a' W hp=>⟨w.heap.size+2,0,wn c,hp.o 6 (by kernel_rfl),(hp.b.1.at 2 rfl).2.1,i40,rfl⟩,
  RG.gw_call fun a' W hp=>⟨[(12,pvl b),(13,nv c)],36,#[pvl b,nv c],⟨hp.n 3 12 (by kernel_rfl) (by kernel_rfl),hp.n 4 13 (by kernel_rfl) (by kernel_rfl),trivial⟩,by kernel_rfl,(ptTimes_c b HE.out.2.2.2.1 c W).mono (by
   rintro e W' ⟨u,rfl,hb,k,rfl,hk,hR⟩
   exact ⟨_,rfl,hb,Sm.one hR (Nat.le_trans hp.b.1.bl.size hk) rfl⟩)⟩,
  RG.gw_call fun a' W hp=>⟨[(11,a'.eval (.tmp 11)),(14,a'.eval (.tmp 14))],104,#[a'.eval (.tmp 11),a'.eval (.tmp 14)],⟨rfl,rfl,trivial⟩,by kernel_rfl,(sumMinus_c HC.out.2.1 w.heap.size (a'.eval (.tmp 11)) (a'.eval (.tmp 14)) [(s,a)] [(c,b)] (by simp) (by simp) (by simp) (fun x hx=>by rw[show x=(s,a) by simpa using hx];exact HE.out.2.2.1) (fun x hx=>by rw[show x=(c,b) by simpa using hx];exact HE.out.2.2.2.1) (fun x hx=>by rw[show x=(c,b) by simpa using hx];exact HC.out.2.2.2.1) W hp.b.1.bl.size (hp.n 2 11 (by kernel_rfl) (by kernel_rfl)) (hp.n 5 14 (by kernel_rfl) (by kernel_rfl))).mono (by
   rintro e W' ⟨u,rfl,hb,hS⟩
   exact ⟨_,rfl,hb,hS.mono hp.b.1.bl.size⟩)⟩,
  RG.gw_call fun a' W hp=>⟨[(15,a'.eval (.tmp 15))],39,#[a'.eval (.tmp 15)],⟨rfl,trivial⟩,by kernel_rfl,by
   have hS:Sm w.heap.size W (a'.eval (.tmp 15)) [(s,a),(sTi N (sMi N 0 1) c,b)]:=hp.n 6 15 (by kernel_rfl) (by kernel_rfl)
   refine (hS.point HC.out.1 HC.out.2.1 HC.out.2.2.1 (by simp) (by simp) (fun x hx=>?_) HE.out.1).mono ?_
   ·rcases List.mem_cons.1 hx with rfl|hx
    ·exact HC.out.2.2.2.2
    ·rw[show x=(sTi N (sMi N 0 1) c,b) by simpa using hx];exact HE.out.2.1
   ·rintro e W' ⟨u,rfl,hb,rfl⟩
    exact ⟨_,rfl,hb,by rw[hT.out];rfl⟩⟩,trivial⟩ ⟨K5.out.drew,K5.out.bl.size⟩ ?_
 intro V wa hRa hBa
 have hV7:V 7=pvl T:=hRa 7 (by decide)
 dsimp only[RG.putV,Nat.reduceAdd,List.take,List.drop]
 obtain ⟨vT,hvT⟩:∃ v,Hid (pvl T=v):=⟨_,rfl⟩
 rw[hV7,hvT.out]
 generalize V 0=s0
 generalize V 1=s1
 generalize V 2=s2
 generalize V 3=s3
 generalize V 4=s4
 generalize V 5=s5
 generalize V 6=s6
 obtain ⟨wb,hwb⟩:∃ wb,Hid (wa.setCells (w.heap.size+4) 0 (bl33 T)=wb):=⟨_,rfl⟩
 have hlen:(bl33 T).length=33:=bl33_length HE.out.2.2.2.2
 have hR8:Row wa (w.heap.size+4) z33:=hBa.1.at 0 rfl
 have KB:Hid (Row wb (w.heap.size+4) (bl33 T)∧Below w.heap.size w wb):=by
  rw[← hwb.out]
  exact ⟨hR8.put (by rw[hlen];rfl),RG.below_setCells (by omega) _ _ _ hBa.1.bl⟩
 have HI:Hid (wa.there (w.heap.size+4) 0 (bl33 T).toArray.size∧(Tryz.prog.info? 47).map (·.size)=some (bl33 T).toArray.size∧(Tryz.prog.info? 47).map (·.size)=some (bl33 T).length):=by
  have e:(bl33 T).toArray.size=33:=by rw[List.size_toArray];exact hlen
  rw[e,hlen]
  exact ⟨hR8.2.2,infoCP,infoCP⟩
 clear hlen hR8 hRa hBa hV7 K5 V
 simp only[Act.put,List.setIfInBounds_toArray,List.set_cons_succ,List.set_cons_zero]
 go_wp2_with (first|(refine wpList_store_mid rfl 47 _ _ rfl (w.heap.size+4) 0 (bl33 T).toArray ?_ ?_ ?_ ?_ ?_ ?_;rfl;exact hvT.out.symm;exact HI.out.1;exact HI.out.2.1;exact bl33_one T;rw[show (bl33 T).toArray.toList=bl33 T from rfl,hwb.out])|fail)
 refine bodyPost_ret (results_cell 8 47 rfl KB.out.1 rfl uCP HI.out.2.2) rfl ?_
 exact ⟨_,rfl,KB.out.2,rfl⟩
end
section
open Go.RowKit Go.Sort Go.Deep
variable {P:Nat} [NeZero P] {N:Nat}
def FVq_5 (f g h:Nat→UInt8) (c z:Nat):List RG.It:=[.s 39 [] (.s 0 3 3),.s 40 [(39,0)] (.p 0 0),.x 41 [(40,1)] (fpv f),.s 42 [] (.s 0 3 3),.s 43 [(42,3)] (.p 0 66),.x 44 [(43,4)] (fpv h),.x 45 [(41,2),(44,5)] (fpr f h),.s 46 [] (.s 0 3 3),.s 47 [(46,7)] (.p 0 33),.x 48 [(47,8)] (fpv g),.s 49 [] (.s 1 2 2),.s 50 [(49,10)] (.p 1 0),.x 51 [(50,11)] (nv c),.s 52 [] (.s 1 2 2),.s 53 [(52,13)] (.p 1 4),.x 54 [(53,14)] (nv z),.m 14 [] 2,.m 15 [] 3,.m 16 [] 4,.m 17 [] 5,.u [(14,16),(45,6)] 2,.u [(15,17),(48,9)] 3,.u [(16,18),(51,12)] 4,.u [(17,19),(54,15)] 5]
def FVq_6 (e f g h r t:Nat→UInt8) (c z:Nat):List RG.It:=[.c 55 [] (fpv e),.s 56 [] (.p 2 0),.x 57 [(56,1)] (fpv f),.x 58 [] (nv c),.x 59 [] (nv z),.c 60 [(55,0),(57,2),(58,3),(59,4)] (fpv r),.x 61 [] (fpv g),.s 62 [] (.p 2 33),.x 63 [(62,7)] (fpv h),.x 64 [] (nv c),.x 65 [] (nv z),.c 66 [(61,6),(63,8),(64,9),(65,10)] (fpv t),.x 67 [(60,5),(66,11)] (fpr r t),.m 18 [] 6,.u [(18,13),(67,12)] 6]
def FVq_7 (f g h r t:Nat→UInt8) (c q:Nat):List RG.It:=[.x 68 [] (fpv g),.x 69 [] (fpr f h),.x 70 [] (fpr r t),.c 71 [(68,0),(69,1),(70,2)] (nv q),.x 72 [] (nv c),.x 73 [(71,3),(72,4)] (.bool (decide (q=c))),.x 8 [(73,5)] (.bool (decide (q=c)))]
theorem range_app {w:World} {k o:Nat} {xs ys:List Value} (h1:w.rangeAt k o xs) (h2:w.rangeAt k (o+xs.length) ys):w.rangeAt k o (xs++ys):=fun j v hj=>by
 by_cases hl:j<xs.length
 ·rw[List.getElem?_append_left hl] at hj
  exact h1 j v hj
 ·rw[List.getElem?_append_right (by omega)] at hj
  have:=h2 (j-xs.length) v hj
  rwa[show o+xs.length+(j-xs.length)=o+j by omega] at this
theorem M_two {P:Program} {Q:Exit→Act→World→Prop} {w0 w:World} {a:Act} {c:Code} {k1 k2 n:Nat} {c1 c2:List Value} (os:List (Tmp × RG.SV)) (hb:Below w0.heap.size w0 w) (h1:w.rangeAt k1 0 c1) (h2:w.rangeAt k2 0 c2) (t1:w.there k1 0 c1.length) (t2:w.there k2 0 c2.length) (l1:k1<w.heap.size) (l2:k2<w.heap.size) (b1:w0.heap.size≤k1) (b2:w0.heap.size≤k2) (hne:k1≠k2)
 (h:(os.map fun x=>a.tmps[x.1]?,a.tmps.size,a.defers)=(os.map fun x=>some (x.2.at (RG.ad [k1,k2])),n,[])) (hp:∀ a,RG.M w0 w0.heap.size [] n [c1,c2] [k1,k2] os a w→c.wp P Q a w):c.wp P Q a w:=by
 simp only[Prod.mk.injEq] at h
 refine hp a ⟨⟨⟨hb.os,hb.tape,hb.output,hb.size,fun j hj _=>hb.block j hj⟩,hb.size,rfl,?_,?_⟩,⟨h.2.1,h.2.2⟩,RG.Olds.mk' fun x hx=>List.map_inj_left.1 h.1 x hx⟩
 ·intro b c hb'
  match b,hb' with
  | 0,hb'=>cases hb';exact ⟨h1,t1,l1,Or.inl b1⟩
  | 1,hb'=>cases hb';exact ⟨h2,t2,l2,Or.inl b2⟩
  | n+2,hb'=>simp at hb'
 ·intro b c hb' hc' hbc
  have hb2:b<2:=hb'
  have hc2:c<2:=hc'
  have hbs:(b=0∧c=1)∨(b=1∧c=0):=by omega
  rcases hbs with ⟨rfl,rfl⟩|⟨rfl,rfl⟩
  ·exact hne
  ·exact fun e=>hne e.symm
noncomputable def vsP (P:Nat) [NeZero P] (N:Nat) (a g b pr:Bs):Bool:=((real P a && (real P g && real P b)) && RpT N pr) && decide (vsM P N a g b (nuV (pr.extract 0 32)) (nuV (pr.extract 32 64))=nuV (pr.extract 0 32))
theorem vsame_c (C:Fl3 P) (O:Ord N) (hord:∀ r:EC.Pt P,EC.On r→EC.mul N r=none) (p0 p1 p2 p3:Option Addr) (n0 n1 n2 n3 c0 c1 c2 c3:Nat) (a g b pr:Bs) (w:World) (h0:Arg33 w (.slice p0 n0 c0) a) (h1:Arg33 w (.slice p1 n1 c1) g) (h2:Arg33 w (.slice p2 n2 c2) b) (h3:SP.PartOk w (.slice p3 n3 c3) pr.toList) :
 Calls Tryz.prog 15 #[.slice p0 n0 c0,.slice p1 n1 c1,.slice p2 n2 c2,.slice p3 n3 c3] w (Ret fun e w'=>Below w.heap.size w w'∧e=.bool (vsP P N a g b pr)):=by
 obtain ⟨w1,hw1⟩:∃ w1,Hid (w.alloc (.cells #[.slice p0 n0 c0,.slice p1 n1 c1,.slice p2 n2 c2] 22)=w1):=⟨_,rfl⟩
 have hM:=RG.Made.alloc w [.slice p0 n0 c0,.slice p1 n1 c1,.slice p2 n2 c2] 22
 obtain ⟨L,hL⟩:∃ L:Nat→Bs,Hid (L=fun j=>if j=0 then a else if j=1 then g else b):=⟨_,rfl⟩
 have HL:Hid (L 0=a∧L 1=g∧L 2=b):=by rw[hL.out];exact ⟨rfl,rfl,rfl⟩
 have hM':RG.Made w w.heap.size [.slice p0 n0 c0,.slice p1 n1 c1,.slice p2 n2 c2] w1:=by rw[← hw1.out];exact hM
 have hall:=allS_c C.toFld w.heap.size 3 3 (by decide) L w1 hM'.lt (fun j hj=>by
  have hj3:j=0∨j=1∨j=2:=by omega
  rcases hj3 with rfl|rfl|rfl
  ·rw[HL.out.1];exact ⟨_,hM'.range 0 _ rfl,h0.below hM'.bel⟩
  ·rw[HL.out.2.1];exact ⟨_,hM'.range 1 _ rfl,h1.below hM'.bel⟩
  ·rw[HL.out.2.2];exact ⟨_,hM'.range 2 _ rfl,h2.below hM'.bel⟩)
 have H1:Hid (Below w.heap.size w w1):=hM'.bel
 have H3:Hid (SP.PartOk w (.slice p3 n3 c3) pr.toList):=h3
 clear hM hM' h0 h1 h2 h3 hL
 go_enter Tryz.func15,Tryz.ntmps15
 go_wp2_with fail
 rw[hw1.out]
 refine hall.mono ?_
 clear hall hw1
 rintro e w2 ⟨v2,rfl,hb2,⟨hre,K,rfl,hK1,hK2,hKt,hKr⟩|⟨⟨j,hj,hrj⟩,rfl⟩⟩
 ·have H2:Hid (Below w.heap.size w w2):=H1.out.trans (hb2.mono H1.out.size)
  have hrp:=readProof2_c O (.slice p3 n3 c3) pr w2 (H3.out.below H2.out)
  clear hb2
  have HK:Hid (w.heap.size≤K∧K<w2.heap.size∧w2.there K 0 (33*3)∧(∀ j,j<3→w2.rangeAt K (33*j) (bl33 (L j)))∧(∀ j,j<3→real P (L j)=true)):=⟨Nat.le_trans H1.out.size hK1,hK2,hKt,hKr,hre⟩
  clear hre hK1 hK2 hKt hKr H1
  go_wp2_with fail
  refine hrp.mono ?_
  clear hrp
  rintro e w3 ⟨v3,rfl,hb3,⟨hT,q,k,rfl,hk1,hk2,hk3,hk4⟩|⟨hT,q1,q2,rfl⟩⟩
  ·obtain ⟨c,hc⟩:∃ c,Hid (nuV (pr.extract 0 32)=c):=⟨_,rfl⟩
   obtain ⟨z,hz⟩:∃ z,Hid (nuV (pr.extract 32 64)=z):=⟨_,rfl⟩
   have hT':=hT
   unfold RpT at hT'
   simp only[Bool.and_eq_true,decide_eq_true_eq] at hT'
   have hcN:c<N:=by rw[← hc.out];exact rq_lt hT'.2.1
   have hzN:z<N:=by rw[← hz.out];exact rq_lt hT'.2.2
   rw[hc.out,hz.out] at hk3
   have ra:real P a=true:=by have:=HK.out.2.2.2.2 0 (by decide);rwa[HL.out.1] at this
   have rg:real P g=true:=by have:=HK.out.2.2.2.2 1 (by decide);rwa[HL.out.2.1] at this
   have rb:real P b=true:=by have:=HK.out.2.2.2.2 2 (by decide);rwa[HL.out.2.2] at this
   have sa:=real_33 ra
   have sg:=real_33 rg
   have sb:=real_33 rb
   have hG:=gen_c C.toFld
   have hF:=first0_c C.toFld O hord (gG_on C.toFld) (real_wr C ra).2 hcN hzN
   have hH:=first0_c C.toFld O hord (real_wr C rg).2 (real_wr C rb).2 hcN hzN
   rw[(real_wr C ra).1] at hF
   rw[(real_wr C rg).1,(real_wr C rb).1] at hH
   have hF':Gives 57 #[pvl (wr (gG P)),pvl a,nv c,nv z] (pvl (vsF P a c z)):=by unfold vsF;exact hF
   have hH':Gives 57 #[pvl g,pvl b,nv c,nv z] (pvl (vsG P g b c z)):=by unfold vsG;exact hH
   clear hF hH
   have hS:Gives 54 #[pvl g,prv a b,prv (vsF P a c z) (vsG P g b c z)] (nv (vsM P N a g b c z)):=by unfold vsM;exact sSame_c O g a b (vsF P a c z) (vsG P g b c z) sg sa sb (wr_size _) (wr_size _)
   have hQ:Hid (vsP P N a g b pr=decide (vsM P N a g b c z=c)):=by
    show _=_
    unfold vsP
    rw[ra,rg,rb,hT,hc.out,hz.out]
    simp only[Bool.and_self,Bool.true_and]
   have hmN:vsM P N a g b c z<N:=by unfold vsM;exact asm_lt O _ _ _ _ _
   have hcont:w3.rangeAt K 0 (fl33 (fun i=>a[i]!)++(fl33 (fun i=>g[i]!)++fl33 (fun i=>b[i]!))):=by
    have k0:=RG.range_below (HK.out.2.2.2.1 0 (by decide)) hb3 HK.out.2.1
    have k1:=RG.range_below (HK.out.2.2.2.1 1 (by decide)) hb3 HK.out.2.1
    have k2:=RG.range_below (HK.out.2.2.2.1 2 (by decide)) hb3 HK.out.2.1
    rw[HL.out.1,bl33_fl sa] at k0
    rw[HL.out.2.1,bl33_fl sg] at k1
    rw[HL.out.2.2,bl33_fl sb] at k2
    exact range_app k0 (range_app k1 k2)
   have hth:w3.there K 0 99:=RG.there_below HK.out.2.2.1 hb3 HK.out.2.1
   have hKl:K<w3.heap.size:=Nat.lt_of_lt_of_le HK.out.2.1 hb3.size
   have hKb:w.heap.size≤K:=HK.out.1
   have hkb:w.heap.size≤k:=Nat.le_trans H2.out.size hk1
   have hKk:K≠k:=Nat.ne_of_lt (Nat.lt_of_lt_of_le HK.out.2.1 hk1)
   have hb4:Below w.heap.size w w3:=H2.out.trans (hb3.mono H2.out.size)
   rw[pvl_fl (wr_size _)] at hG
   rw[pvl_fl (wr_size _),pvl_fl sa,pvl_fl (show (vsF P a c z).size=33 from wr_size _)] at hF'
   rw[pvl_fl sg,pvl_fl sb,pvl_fl (show (vsG P g b c z).size=33 from wr_size _)] at hH'
   rw[pvl_fl sg,prv_fl sa sb,prv_fl (show (vsF P a c z).size=33 from wr_size _) (show (vsG P g b c z).size=33 from wr_size _)] at hS
   clear ra rg rb hT hT' HK H2 H3 hb3 hc hz hk1 sa sg sb
   generalize vsM P N a g b c z=mq at hS hmN hQ
   generalize (fun i:Nat=>(wr (gG P))[i]!)=e0 at hG hF'
   generalize (fun i:Nat=>(vsF P a c z)[i]!)=r0 at hF' hS
   generalize (fun i:Nat=>(vsG P g b c z)[i]!)=t0 at hH' hS
   generalize (fun i:Nat=>a[i]!)=f0 at hF' hS hcont
   generalize (fun i:Nat=>g[i]!)=g0 at hH' hS hcont
   generalize (fun i:Nat=>b[i]!)=h0 at hH' hS hcont
   have HALL:Hid (Gives 49 #[] (fpv e0)∧Gives 57 #[fpv e0,fpv f0,nv c,nv z] (fpv r0)∧Gives 57 #[fpv g0,fpv h0,nv c,nv z] (fpv t0)∧Gives 54 #[fpv g0,fpr f0 h0,fpr r0 t0] (nv mq)∧mq<N∧c<N∧w3.rangeAt K 0 (fl33 f0++(fl33 g0++fl33 h0))∧w3.there K 0 99∧K<w3.heap.size∧w.heap.size≤K∧w.heap.size≤k∧K≠k∧Below w.heap.size w w3∧k<w3.heap.size∧w3.rangeAt k 0 (wn c++wn z)∧w3.there k 0 8):=⟨hG,hF',hH',hS,hmN,hcN,hcont,hth,hKl,hKb,hkb,hKk,hb4,hk2,hk3,hk4⟩
   clear hG hF' hH' hS hmN hcN hcont hth hKl hKb hkb hKk hb4 hk2 hk3 hk4 hzN
   go_wp2_with fail
   rename_i KK ha
   obtain ⟨hG,hF,hH,hS,hmN,hcN,hcont,hth,hKl,hKb,hkb,hKk,hb4,hk2,hk3,hk4⟩:=HALL.out
   refine M_two (n:=74) [(9,.s 0 3 3),(12,.s 1 2 2)] hb4 hcont hk3 hth hk4 hKl hk2 hKb hkb hKk (by kernel_rfl) ?_
   intro a0 M0
   refine M0.d (FVq_5 f0 g0 h0 c z) [(16,zz 66),(17,zz 33),(18,RG.z 4),(19,RG.z 4)] [(2,20,fl33 f0++fl33 h0),(3,21,fl33 g0),(4,22,wn c),(5,23,wn z)] [fl33 f0++(fl33 g0++fl33 h0),wn c++wn z,fl33 f0++fl33 h0,fl33 g0,wn c,wn z] [(14,.p 2 0),(15,.p 3 0),(16,.p 4 0),(17,.p 5 0)] ⟨RG.st,RG.st,RG.ld uCP infoCP,RG.st,RG.st,RG.ld uCP infoCP,RG.st,RG.st,RG.st,RG.ld uCP infoCP,RG.st,RG.st,RG.ld u40 i40,RG.st,RG.st,RG.ld u40 i40,RG.mk 2 96,RG.mk 3 47,RG.mk 4 43,RG.mk 5 43,RG.pt iPr,RG.pt infoCP,RG.pt i40,RG.pt i40,trivial⟩ ?_
   intro j1 j2 j3 j4 a1 w5 M1
   refine ha _ _ ?_
   clear ha
   repeat refine wp_seq ?_
   refine M1.d (FVq_6 e0 f0 g0 h0 r0 t0 c z) [(13,zz 66)] [(6,14,fl33 r0++fl33 t0)] [fl33 f0++(fl33 g0++fl33 h0),wn c++wn z,fl33 f0++fl33 h0,fl33 g0,wn c,wn z,fl33 r0++fl33 t0] [(14,.p 2 0),(15,.p 3 0),(16,.p 4 0),(18,.p 6 0)] ⟨RG.cl hG,RG.st,RG.ld uCP infoCP,RG.ld u40 i40,RG.ld u40 i40,RG.cl hF,RG.ld uCP infoCP,RG.st,RG.ld uCP infoCP,RG.ld u40 i40,RG.ld u40 i40,RG.cl hH,RG.st,RG.mk 6 96,RG.pt iPr,trivial⟩ ?_
   intro j5 a2 w6 M2
   repeat refine wp_seq ?_
   refine M2.e (FVq_7 f0 g0 h0 r0 t0 c mq) [(8,.v (.bool (decide (mq=c))))] ⟨RG.ld uCP infoCP,RG.ld uPr iPr,RG.ld uPr iPr,RG.cl hS,RG.ld u40 i40,RG.cert_bin rfl .eql 43 43 71 72 (nv mq) (nv c) (.bool (decide (mq=c))) rfl rfl RG.sx RG.sx (fun w=>by kernel_rfl) (fun w=>by rw[eqS (Nat.lt_of_lt_of_le hmN O.le) (Nat.lt_of_lt_of_le hcN O.le)]),RG.st,trivial⟩ ?_
   intro a3 w7 M3
   refine wp_ret ?_
   refine bodyPost_ret (v:=.bool (decide (mq=c))) (RG.results_t 8 rfl _ M3.av) M3.sl.defers ?_
   exact ⟨_,rfl,M3.st.bel.below,by rw[hQ.out]⟩
  ·have H4:Hid (Below w.heap.size w w3):=H2.out.trans (hb3.mono H2.out.size)
   have HF:Hid (vsP P N a g b pr=false):=by
    show _=_
    unfold vsP
    rw[hT]
    simp
   clear hT hb3
   go_wp2
   go_ret
   exact ⟨_,rfl,H4.out,by rw[HF.out];rfl⟩
 ·have H2:Hid (Below w.heap.size w w2):=H1.out.trans (hb2.mono H1.out.size)
  have hrp:=readProof2_c O (.slice p3 n3 c3) pr w2 (H3.out.below H2.out)
  clear hb2
  have HF:Hid (vsP P N a g b pr=false):=by
   show _=_
   unfold vsP
   have hj3:j=0∨j=1∨j=2:=by omega
   rcases hj3 with rfl|rfl|rfl
   ·rw[HL.out.1] at hrj;rw[hrj];rfl
   ·rw[HL.out.2.1] at hrj;rw[hrj];simp
   ·rw[HL.out.2.2] at hrj;rw[hrj];simp
  clear hrj hj H1
  go_wp2_with fail
  refine hrp.mono ?_
  clear hrp
  rintro e w3 ⟨v3,rfl,hb3,⟨hT,q,k,rfl,hk1,hk2,hk3,hk4⟩|⟨hT,q1,q2,rfl⟩⟩
  ·have H4:Hid (Below w.heap.size w w3):=H2.out.trans (hb3.mono H2.out.size)
   clear hT hk1 hk2 hk3 hk4 hb3
   go_wp2
   go_ret
   exact ⟨_,rfl,H4.out,by rw[HF.out];rfl⟩
  ·have H4:Hid (Below w.heap.size w w3):=H2.out.trans (hb3.mono H2.out.size)
   clear hT hb3
   go_wp2
   go_ret
   exact ⟨_,rfl,H4.out,by rw[HF.out];rfl⟩
end
section
open Go.RowKit Go.Sort Go.Deep
variable {P:Nat} [NeZero P] {N:Nat}
section
variable (w:World) (k9 k11 kk x:Nat) (k s g:Bool) (fv:Value) (c9 c11:List Value) (T:Bs) (eqb:Bool)
end
end
section
open Go.RowKit Go.Sort Go.Deep
variable {P:Nat} [NeZero P] {N:Nat}
theorem cut_two {A B:Bs} (hA:A.size=32) (hB:B.size=32):(A++B).extract 0 32=A∧(A++B).extract 32 64=B:=by
 have h64:(A++B).size=64:=by rw[Array.size_append,hA,hB]
 constructor
 ·apply Array.ext
  ·rw[Array.size_extract,h64,hA];rfl
  ·intro i h1 h2
   rw[Array.getElem_extract,Array.getElem_append_left (by omega)]
   simp
 ·apply Array.ext
  ·rw[Array.size_extract,h64,hB];rfl
  ·intro i h1 h2
   rw[Array.getElem_extract,Array.getElem_append_right (by omega)]
   simp[hA]
theorem rq_bx (O:Ord N) {n:Nat} (hn:n<N):rq N (bx n)=some n:=by
 have hv:beV (bx n).toList=n:=bx_val (Nat.lt_of_lt_of_le hn O.le)
 unfold rq
 rw[hv,if_pos ⟨bx_size n,hn⟩]
theorem nu_bx (O:Ord N) {n:Nat} (hn:n<N):nuV (bx n)=n:=(rq_nu (rq_bx O hn)).symm
theorem on_canc (C:Fld P) {A B:EC.Pt P} (hA:EC.On A) (hB:EC.On B):EC.add (EC.add A B) (EC.neg B)=A:=by
 have hn:EC.On (EC.neg B):=EC.neg_on hB
 rw[C.cur.assoc hA hB hn,C.cur.comm hB hn,C.cur.neg_l hB,C.cur.comm hA EC.none_on]
 rfl
theorem answer_back (C:Fld P) (hord:∀ r:EC.Pt P,EC.On r→EC.mul N r=none) {X:EC.Pt P} (hX:EC.On X) (x k c:Nat):EC.add (EC.mul (sPl N k (sTi N c x)) X) (EC.neg (EC.mul c (EC.mul x X)))=EC.mul k X:=by
 unfold sPl sTi
 have e1:EC.mul ((k+c*x%N)%N) X=EC.add (EC.mul k X) (EC.mul c (EC.mul x X)):=by
  rw[mul_mod C hord hX,EC.mul_add C.cur hX,mul_mod C hord hX,Nat.mul_comm,EC.mul_mul C.cur hX]
 rw[e1]
 exact on_canc C (EC.mul_on C.cur hX k) (EC.mul_on C.cur (EC.mul_on C.cur hX x) c)
theorem real_of (C:Fl3 P) {X:EC.Pt P} (hX:EC.On X) (h0:X≠none):real P (wr X)=true∧ptOf P (wr X)=X:=by
 obtain ⟨p,hp,hpt⟩:=rd_wr C.toFld hX
 have hB:rdB P (wr X)=wr X:=by unfold rdB;rw[hp];rfl
 refine ⟨?_,by rw[ptOf_of hp];exact hpt⟩
 have hne:¬ wr X=o33:=fun e=>by
  rw[← wr_none (P:=P)] at e
  have:=congrArg (unwr P) e
  rw[unwr_wr C.toFld hX,unwr_wr C.toFld EC.none_on] at this
  exact h0 this
 unfold real
 rw[hB,hp,decide_eq_false hne]
 rfl
theorem same_right (C:Fl3 P) (O:Ord N) (hord:∀ r:EC.Pt P,EC.On r→EC.mul N r=none) (sk b:Bs) (hs:sec N sk=true) (hr:real P b=true) (h1:EC.mul (nuV sk) (gG P)≠none) (h2:EC.mul (nuV sk) (ptOf P b)≠none) :
 vsP P N (wr (EC.mul (nuV sk) (gG P))) b (wr (EC.mul (nuV sk) (ptOf P b))) (pmT P N sk b).1=true:=by
 have hon:=(real_wr C hr).2
 have hg:=gG_on C.toFld
 obtain ⟨ra,pa⟩:=real_of C (EC.mul_on C.toFld.cur hg (nuV sk)) h1
 obtain ⟨rd,pd⟩:=real_of C (EC.mul_on C.toFld.cur hon (nuV sk)) h2
 have hc:pmC P N sk b<N:=by unfold pmC;exact asm_lt O _ _ _ _ _
 have hz:pmZ P N sk b<N:=by unfold pmZ sPl;exact Nat.mod_lt _ O.pos
 have ep:(pmT P N sk b).1=bx (pmC P N sk b)++bx (pmZ P N sk b):=by unfold pmT;rw[hs,hr];rfl
 obtain ⟨e1,e2⟩:=cut_two (bx_size (pmC P N sk b)) (bx_size (pmZ P N sk b))
 have hF:vsF P (wr (EC.mul (nuV sk) (gG P))) (pmC P N sk b) (pmZ P N sk b)=wr (EC.mul (pmK N sk b) (gG P)):=by
  unfold vsF
  rw[pa]
  unfold pmZ
  rw[answer_back C.toFld hord hg]
 have hG:vsG P b (wr (EC.mul (nuV sk) (ptOf P b))) (pmC P N sk b) (pmZ P N sk b)=wr (EC.mul (pmK N sk b) (ptOf P b)):=by
  unfold vsG
  rw[pd]
  unfold pmZ
  rw[answer_back C.toFld hord hon]
 have hM:vsM P N (wr (EC.mul (nuV sk) (gG P))) b (wr (EC.mul (nuV sk) (ptOf P b))) (pmC P N sk b) (pmZ P N sk b)=pmC P N sk b:=by
  unfold vsM
  rw[hF,hG]
  rfl
 unfold vsP RpT
 rw[ep,e1,e2,nu_bx O hc,nu_bx O hz,hM,rq_bx O hc,rq_bx O hz,ra,hr,rd,Array.size_append,bx_size,bx_size,decide_eq_true (Eq.refl (pmC P N sk b))]
 rfl
theorem mul_two (C:Fld P) {a b:EC.Pt P} (ha:EC.On a) (hb:EC.On b):∀ n,EC.mul n (EC.add a b)=EC.add (EC.mul n a) (EC.mul n b)
 | 0=>rfl
 | n+1=>by
  show EC.add (EC.mul n (EC.add a b)) (EC.add a b)=EC.add (EC.add (EC.mul n a) a) (EC.add (EC.mul n b) b)
  rw[mul_two C ha hb n]
  exact C.cur.swap (EC.mul_on C.cur ha n) (EC.mul_on C.cur hb n) ha hb
theorem cmt_eq (n m:Nat):cmt P n m=EC.add (EC.mul n (.some (hpt P valueL []))) (EC.mul m (gG P)):=by
 unfold cmt
 generalize (.some (hpt P valueL []):EC.Pt P)=H
 show EC.add (EC.add none (EC.zmul ((n:Nat):Int) H)) (EC.zmul ((m:Nat):Int) (gG P))=_
 rw[EC.none_add]
 rfl
theorem cmt_on (C:Fld P) (n m:Nat):EC.On (cmt P n m):=by
 rw[cmt_eq]
 have hH:=hpt_on C valueL []
 generalize (.some (hpt P valueL []):EC.Pt P)=H at hH ⊢
 exact C.cur.on (EC.mul_on C.cur hH n) (EC.mul_on C.cur (gG_on C) m)
theorem open_right (C:Fld P) (hord:∀ r:EC.Pt P,EC.On r→EC.mul N r=none) (x y kv km c z t:Nat) (hz:sPl N kv (sTi N c x)=z) (ht:sPl N km (sTi N c y)=t):cmt P z t=EC.add (cmt P kv km) (EC.mul c (cmt P x y)):=by
 rw[cmt_eq,cmt_eq,cmt_eq]
 have hH:=hpt_on C valueL []
 have hG:=gG_on C
 generalize (.some (hpt P valueL []):EC.Pt P)=H at hH ⊢
 generalize gG P=G at hG ⊢
 have e1:∀ {X:EC.Pt P},EC.On X→∀ k x,EC.mul (sPl N k (sTi N c x)) X=EC.add (EC.mul k X) (EC.mul c (EC.mul x X)):=fun {X} hX k x=>by
  unfold sPl sTi
  rw[mul_mod C hord hX,EC.mul_add C.cur hX,mul_mod C hord hX,Nat.mul_comm,EC.mul_mul C.cur hX]
 rw[← hz,← ht,e1 hH,e1 hG,mul_two C (EC.mul_on C.cur hH x) (EC.mul_on C.cur hG y)]
 exact C.cur.swap (EC.mul_on C.cur hH kv) (EC.mul_on C.cur (EC.mul_on C.cur hH x) c) (EC.mul_on C.cur hG km) (EC.mul_on C.cur (EC.mul_on C.cur hG y) c)
def scC (s:ByteArray):Bs:=(scM s).setIfInBounds 31 1
where scM (s:ByteArray):Bs:=#[0]++s.data.extract 0 30++Array.replicate (31-min s.size 30) 0
theorem scM_size (s:ByteArray):(scC.scM s).size=32:=by
 unfold scC.scM
 have hl:s.data.size=s.size:=rfl
 simp only[Array.size_append,Array.size_extract,Array.size_replicate,hl,List.size_toArray,List.length_cons,List.length_nil]
 omega
theorem scM_0 (s:ByteArray):(scC.scM s)[0]! = 0:=by
 unfold scC.scM
 rw[getElem!_pos _ 0 (by simp;omega),Array.getElem_append_left (by simp;omega),Array.getElem_append_left (by simp)]
 rfl
theorem scM_at (s:ByteArray) (j:Nat) (h1:j<s.size) (h2:j<30):(scC.scM s)[1+j]! = s.data[j]'h1:=by
 have hl:s.data.size=s.size:=rfl
 unfold scC.scM
 rw[getElem!_pos _ (1+j) (by simp;omega),Array.getElem_append_left (by simp;omega),Array.getElem_append_right (by simp)]
 simp
theorem scM_end (s:ByteArray) (j:Nat) (h1:min s.size 30≤j) (h2:j<31):(scC.scM s)[1+j]! = 0:=by
 have hl:s.data.size=s.size:=rfl
 unfold scC.scM
 rw[getElem!_pos _ (1+j) (by simp;omega),Array.getElem_append_right (by simp;omega)]
 simp
theorem scC_size (s:ByteArray):(scC s).size=32:=by unfold scC;rw[Array.size_setIfInBounds,scM_size]
theorem beV_con7 (x:UInt8) (r:List UInt8):beV (x :: r)=x.toNat*256^r.length+beV r:=by
 have h:=beV_append [x] r
 rw[show [x]++r=x :: r from rfl] at h
 rw[h]
 simp[beV]
theorem beV_snoc (r:List UInt8) (x:UInt8):beV (r++[x])=beV r*256+x.toNat:=by
 rw[beV_append]
 simp[beV]
theorem scC_lt (s:ByteArray):beV (scC s).toList<2^248∧beV (scC s).toList≠0:=by
 have hs:=scC_size s
 have h0:(scC s)[0]! = 0:=by
  unfold scC
  rw[getElem!_pos _ 0 (by rw[Array.size_setIfInBounds,scM_size];omega),Array.getElem_setIfInBounds]
  have:=scM_0 s
  rw[getElem!_pos _ 0 (by rw[scM_size];omega)] at this
  simpa using this
 have h31:(scC s)[31]! = 1:=by
  unfold scC
  rw[getElem!_pos _ 31 (by rw[Array.size_setIfInBounds,scM_size];omega),Array.getElem_setIfInBounds]
  simp
  rw[scM_size]
  omega
 have hlen:(scC s).toList.length=32:=by rw[Array.length_toList,hs]
 generalize hl:(scC s).toList=l at hlen ⊢
 have a0:l[0]! = 0:=by rw[← hl,getElem!_pos (scC s).toList 0 (by rw[Array.length_toList,hs];omega),Array.getElem_toList,← getElem!_pos (scC s) 0 (by omega)];exact h0
 have a31:l[31]! = 1:=by rw[← hl,getElem!_pos (scC s).toList 31 (by rw[Array.length_toList,hs];omega),Array.getElem_toList,← getElem!_pos (scC s) 31 (by omega)];exact h31
 match l,hlen,a0,a31 with
 | x :: r,hlen,a0,a31 =>
  have hx:x=0:=by simpa using a0
  have hrl:r.length=31:=by simpa using hlen
  refine ⟨?_,?_⟩
  ·rw[beV_con7,hx]
   have:=beV_lt r
   rw[hrl] at this
   simpa using this
  ·have hne:r≠[]:=fun e=>by rw[e] at hrl;cases hrl
   have e:r=r.dropLast++[r.getLast hne]:=(List.dropLast_concat_getLast hne).symm
   have hlast:r.getLast hne=1:=by
    rw[List.getLast_eq_getElem]
    have h30:(x :: r)[31]! = r[30]'(by omega):=by
     rw[getElem!_pos (x :: r) 31 (by simp;omega)]
     simp
    rw[h30] at a31
    simpa[hrl] using a31
   rw[beV_con7,hx,e,hlast,beV_snoc]
   simp
theorem scC_rq (O:Ord N) (hN:2^248<N) (s:ByteArray):rq N (scC s)=some (beV (scC s).toList):=by
 unfold rq
 rw[if_pos ⟨scC_size s,Nat.lt_trans (scC_lt s).1 hN⟩]
theorem fl3:∃ (P:Nat) (_:NeZero P),Fl3 P:=by
 obtain ⟨P,hz,hP,hc⟩:=EC.cur
 have h0:P=Go.Proofs.YtmfodnkinmnopaaGreat.p0:=by rw[hP];decide +kernel
 have hg:=gap0
 have hr:=refP0
 have h2:2≤Go.Proofs.YtmfodnkinmnopaaGreat.p0%18446744073709551616:=by decide +kernel
 have h4:Go.Proofs.YtmfodnkinmnopaaGreat.p0/4%18446744073709551616<18446744073709551615:=by decide +kernel
 have h3:Go.Proofs.YtmfodnkinmnopaaGreat.p0%4=3:=by decide +kernel
 have h7:7<Go.Proofs.YtmfodnkinmnopaaGreat.p0:=by decide +kernel
 rw[← h0] at hg hr h2 h4 h3 h7
 exact ⟨P,hz,⟨⟨hg,hc,h2,h4,h3,h7⟩,hr⟩⟩
end
namespace EC
variable {P:Nat} [NeZero P]
def fo {α:Type} (x:Fin P) (f:Fin P→α):α:=
 match x.val with
 | 0=>f (Fin.ofNat P 0)
 | n+1=>f (Fin.ofNat P (n+1))
theorem fo_eq {α:Type} (x:Fin P) (f:Fin P→α):fo x f=f x:=by
 have hx:Fin.ofNat P x.val=x:=Fin.ext (Nat.mod_eq_of_lt x.isLt)
 unfold fo
 split
 ·next h=>rw[h] at hx;rw[hx]
 ·next n h=>rw[h] at hx;rw[hx]
def runs (u v:Fin P) (e:Nat):Nat→Fin P→Fin P→Fin P→Bool
 | 0,_,_,z=>decide (z=0)
 | k+1,x,y,z=>fo (twX x y) fun X=>fo (twY x y) fun Y=>fo (twZ y z) fun Z =>
  if e/2^k%2=1 then
   if Z=0 then false else
   fo (plAx X 1) fun ax=>fo (plAy Y 1) fun ay=>fo (plAx u Z) fun bx=>fo (plAy v Z) fun bY =>
   if ax=bx∧ay=bY then false else
   fo (plX ax ay bx bY) fun a=>fo (plY ax ay bx bY) fun b=>fo (plZ Z 1 ax bx) fun c=>runs u v e k a b c
  else runs u v e k X Y Z
theorem one_ne (C:Cur P):(1:Fin P)≠0:=fun h=>C.two (by
 calc (2:Fin P)=2*1:=by grobner
  _=0:=by rw[h];grobner)
theorem runs_ok (C:Cur P) {u v:Fin P} (hg:On (some (u,v))) (e:Nat):∀ (k m:Nat) (x y z:Fin P),Jac x y z (mul m (some (u,v)))→runs u v e k x y z=true→mul (m*2^k+e%2^k) (some (u,v))=none
 | 0,m,x,y,z,hj,h=>by
  have hz:z=0:=of_decide_eq_true h
  rw[Nat.pow_zero,Nat.mod_one,Nat.mul_one,Nat.add_zero]
  exact hj.zero C hz
 | k+1,m,x,y,z,hj,h=>by
  have hm:=mul_on C hg m
  have h1:=hj.twice C hm
  rw[← mul_add C hg] at h1
  have hb:e%2^(k+1)=e/2^k%2*2^k+e%2^k:=by
   rw[Nat.pow_succ,Nat.mod_mul,Nat.mul_comm (2^k) (e/2^k%2),Nat.add_comm]
  have hp:2^(k+1)=2*2^k:=by rw[Nat.pow_succ,Nat.mul_comm]
  unfold runs at h
  simp only[fo_eq] at h
  by_cases hbit:e/2^k%2=1
  ·rw[if_pos hbit] at h
   by_cases hZ:twZ y z=0
   ·rw[if_pos hZ] at h
    cases h
   ·rw[if_neg hZ] at h
    have hj1:Jac u v 1 (some (u,v)):=⟨one_ne C,by grobner,by grobner⟩
    rcases h1.plus C (mul_on C hg _) hj1 hg hZ (one_ne C) with ⟨e1,e2,-⟩|⟨e1,e2⟩
    ·rw[if_pos ⟨e1,e2⟩] at h
     cases h
    ·rw[if_neg e1] at h
     have h2:=runs_ok C hg e k (m+m+1) _ _ _ e2 h
     rw[hb,hbit,hp]
     rw[show m*(2*2^k)+(1*2^k+e%2^k)=(m+m+1)*2^k+e%2^k by
      rw[Nat.add_mul,Nat.add_mul,← Nat.mul_assoc,Nat.mul_comm m 2,Nat.two_mul,Nat.add_mul];omega]
     exact h2
  ·rw[if_neg hbit] at h
   have h0:e/2^k%2=0:=by omega
   have h2:=runs_ok C hg e k (m+m) _ _ _ h1 h
   rw[hb,h0,hp]
   rw[show m*(2*2^k)+(0*2^k+e%2^k)=(m+m)*2^k+e%2^k by
    rw[← Nat.mul_assoc,Nat.mul_comm m 2,Nat.two_mul];omega]
   exact h2
def pL:Nat:=115792089237316195423570985008687907853269984665640564039457584007908834671663
def nL:Nat:=115792089237316195423570985008687907852837564279074904382605163141518161494337
instance:NeZero pL:=⟨by decide +kernel⟩
theorem runs_g:runs (P:=pL) (Fin.ofNat pL 55066263022277343669578718895168534326250603453777594175500187360389116729240) (Fin.ofNat pL 32670510020758816978083085130507043184471273380659243275938904335757337482424) nL 255 (Fin.ofNat pL 55066263022277343669578718895168534326250603453777594175500187360389116729240) (Fin.ofNat pL 32670510020758816978083085130507043184471273380659243275938904335757337482424) 1=true:=by decide +kernel
theorem small_n:2*pL+1<3*nL:=by decide +kernel
theorem high_n:1*2^255+nL%2^255=nL:=by decide +kernel
theorem order (C:Cur P) (hP:P=pL) (hg:On (some (Fin.ofNat P 55066263022277343669578718895168534326250603453777594175500187360389116729240,Fin.ofNat P 32670510020758816978083085130507043184471273380659243275938904335757337482424))) {r:Pt P} (hr:On r):mul nL r=none:=by
 subst hP
 refine order_of C (n:=nL) NT.pN small_n hg (fun h=>by cases h) ?_ hr
 have h:=runs_ok C hg nL 255 1 _ _ 1 (by
  show Jac _ _ 1 (add none _)
  rw[none_add]
  exact ⟨one_ne C,by grobner,by grobner⟩) runs_g
 rwa[high_n] at h
end EC
section
theorem p1_nL2:Go.Proofs.YtmfodnkinmnopaaGreat.p1=EC.nL:=by decide +kernel
variable {P:Nat} [NeZero P]
theorem order2 (C:Fld P) (r:EC.Pt P) (hr:EC.On r):EC.mul Go.Proofs.YtmfodnkinmnopaaGreat.p1 r=none:=by
 rw[p1_nL2]
 have hP:P=EC.pL:=by
  rw[C.eq]
  rfl
 exact EC.order C.cur hP (gG_on C) hr
end
section
open Go.RowKit Go.Sort Go.Deep
variable {P:Nat} [NeZero P] {N:Nat}
theorem ordU:Ord Go.Proofs.YtmfodnkinmnopaaGreat.p1:=⟨gap1,refP1,by decide +kernel,by decide +kernel⟩
theorem mul_ne (C:Fld P) (hord:∀ r:EC.Pt P,EC.On r→EC.mul N r=none) (hp:NT.IsP N) {X:EC.Pt P} (hX:EC.On X) (h0:X≠none) {x:Nat} (hx:x<N) (hx0:x≠0):EC.mul x X≠none:=fun e=>by
 have hnd:¬ N ∣ x:=fun h=>by
  have:=Nat.le_of_dvd (by omega) h
  omega
 have hf:=hp.fermat1 x hnd
 have hN1:1≤N-1:=by
  have:=hp.1
  omega
 have h1:EC.mul (x^(N-1)) X=X:=by
  rw[← mul_mod C hord hX,hf]
  exact EC.none_add X
 have h2:x^(N-1)=x*x^(N-1-1):=by
  rw[Nat.mul_comm,← Nat.pow_succ]
  congr 1
  omega
 rw[h2,EC.mul_mul C.cur hX,e,EC.mul_none] at h1
 exact h0 h1.symm
def nonceL:ByteArray:=⟨#[110,111,110,99,101,32,115,105,103,110]⟩
theorem sign_y (C:Fld P) (O:Ord N) (p0 p1:Option Addr) (n0 c0 n1 c1:Nat) (sk tx:Bs) (w:World) (hA:Arg w (.slice p0 n0 c0) sk) (h0:SP.PartOk w (.slice p0 n0 c0) sk.toList) (h1:SP.PartOk w (.slice p1 n1 c1) tx.toList)
 (x:Nat) (hx:rq N sk=some x) (hx0:x≠0) (kk c z:Nat) (hkk:chL N nonceL.data.toList [sk.toList,tx.toList]=kk) (hc:asg N (wr (EC.mul x (gG P))).toList (wr (EC.mul kk (gG P))).toList tx.toList=c) (hz:sPl N kk (sTi N c x)=z) :
 Calls Tryz.prog 12 #[.slice p0 n0 c0,.slice p1 n1 c1] w (Ret fun e w'=>Below w.heap.size w w'∧∃ v,e=.tuple #[v,.int .i64 0]∧Ans z w.heap.size (wr (EC.mul kk (gG P))) v w'):=by
 have hxN:x<N:=by
  unfold rq at hx
  split at hx
  ·rename_i h
   rw[← Option.some.inj hx];exact h.2
  ·cases hx
 have hkN:kk<N:=by rw[← hkk];exact redu_lt O _
 have hcN:c<N:=by rw[← hc];exact asg_lt O _ _ _
 have hR:=rsecret_c O (.slice p0 n0 c0) sk w hA
 rw[hx] at hR
 have e1:(!decide (x=0))=true:=by simp[hx0]
 rw[show (some x).getD 0=x from rfl,show ((some x).isSome && !decide (x=0))=true by rw[e1];rfl] at hR
 have HR:=Hid.mk' hR
 have HC:Hid (Fld P∧Ord N∧x<N∧kk<N∧c<N∧sPl N kk (sTi N c x)=z):=⟨C,O,hxN,hkN,hcN,hz⟩
 have HP:Hid (SP.PartOk w (.slice p0 n0 c0) sk.toList∧SP.PartOk w (.slice p1 n1 c1) tx.toList):=⟨h0,h1⟩
 have HK:=Hid.mk' hkk
 obtain ⟨A,hAe⟩:∃ A,Hid (wr (gG P)=A):=⟨_,rfl⟩
 obtain ⟨F,hFe⟩:∃ F,Hid (wr (EC.mul kk (gG P))=F):=⟨_,rfl⟩
 obtain ⟨A',hAe'⟩:∃ A',Hid (wr (EC.mul x (gG P))=A'):=⟨_,rfl⟩
 rw[hFe.out,hAe'.out] at hc
 rw[hFe.out]
 have HQ:=Hid.mk' hc
 have HF:Hid (F.size=33∧A'.size=33):=⟨by rw[← hFe.out];exact wr_size _,by rw[← hAe'.out];exact wr_size _⟩
 clear C O hA h0 h1 hx hx0 hkk hc hz hxN hkN hcN hR e1
 obtain ⟨vx,hvx⟩:∃ v,Hid (nv x=v):=⟨_,rfl⟩
 rw[hvx.out] at HR
 obtain ⟨d',hd3,hd4⟩:=Option.map_eq_some_iff.1 u40
 have HD:Hid (Tryz.prog.underlying 43=some d'∧d'.isRow=true):=⟨hd3,hd4⟩
 clear hd3 hd4
 go_enter Tryz.func12,Tryz.ntmps12
 go_wp2_with fail
 refine HR.out.mono ?_
 rintro e w1 ⟨vv,rfl,hb1,rfl⟩
 obtain ⟨w2,hw2⟩:∃ w2,Hid (w1.alloc (.cells #[.int .u64 0,.int .u64 0,.int .u64 0,.int .u64 0] 43)=w2):=⟨_,rfl⟩
 obtain ⟨w3,hw3⟩:∃ w3,Hid (w2.setCells w1.heap.size 0 (wn x)=w3):=⟨_,rfl⟩
 obtain ⟨k6,hk6⟩:∃ k6,Hid (w1.heap.size=k6):=⟨_,rfl⟩
 rw[hk6.out] at hw3
 have F2:Hid (Row w2 k6 [.int .u64 0,.int .u64 0,.int .u64 0,.int .u64 0]∧Below w.heap.size w w2∧w.heap.size≤k6):=by
  rw[← hw2.out,← hk6.out]
  exact ⟨row_new w1 _ _,hb1.alloc hb1.size _,hb1.size⟩
 have K3:Hid (Kp w w3 [(k6,wn x)]):=by
  rw[← hw3.out]
  exact ⟨RG.below_setCells F2.out.2.2 _ _ _ F2.out.2.1,fun y hy=>by rw[show y=(k6,wn x) by simpa using hy];exact F2.out.1.put rfl⟩
 clear hb1 HR
 go_wp2_with (first|(refine wpList_op (v:=.pointer (some ⟨k6,0,none⟩)) (w':=w2) rfl (.alloc 43) rfl ?_ ?_;(rw[← hw2.out,← hk6.out];kernel_rfl))|(refine wpList_store_mid rfl 43 _ _ rfl k6 0 (wn x).toArray ?_ ?_ ?_ ?_ ?_ ?_;rfl;exact hvx.out.symm;exact F2.out.1.2.2;exact i40;exact wn_one x;rw[show (wn x).toArray.toList=wn x from rfl,hw3.out])|fail)
 clear hw2 hw3 hk6 F2
 obtain ⟨w4,hw4⟩:∃ w4,Hid (w3.alloc (.cells #[.slice p0 n0 c0,.slice p1 n1 c1] 22)=w4):=⟨_,rfl⟩
 have hb4:Below w3.heap.size w3 w4:=by rw[← hw4.out];exact below1 _ _
 have K4:Hid (Kp w w4 [(k6,wn x)]):=K3.out.grow hb4
 have HPs:Hid (SP.PartsOk w4 (some ⟨w3.heap.size,0,none⟩) [sk.toList,tx.toList]):=by
  refine Or.inr ⟨w3.heap.size,0,rfl,fun j hj=>?_⟩
  have hM:w4.rangeAt w3.heap.size 0 [.slice p0 n0 c0,.slice p1 n1 c1]:=by rw[← hw4.out];exact (RG.Made.alloc w3 [.slice p0 n0 c0,.slice p1 n1 c1] 22).range
  have hj2:j=0∨j=1:=by simp at hj;omega
  rcases hj2 with rfl|rfl
  ·exact ⟨_,hM 0 _ rfl,HP.out.1.below K4.out.bl⟩
  ·exact ⟨_,hM 1 _ rfl,HP.out.2.below K4.out.bl⟩
 rw[hw4.out]
 refine (chance_c HC.out.2.1 nonceL (some ⟨w3.heap.size,0,none⟩) 2 2 [sk.toList,tx.toList] w4 (by decide) rfl (by decide) HPs.out).mono ?_
 rintro e w5 ⟨vv,rfl,hb5,rfl⟩
 rw[HK.out]
 have K5:Hid (Kp w w5 [(k6,wn x)]):=K4.out.grow hb5
 clear hb4 hb5 K3 K4 HPs hw4
 obtain ⟨vk,hvk⟩:∃ v,Hid (nv kk=v):=⟨_,rfl⟩
 rw[hvk.out]
 obtain ⟨w6,hw6⟩:∃ w6,Hid (w5.alloc (.cells #[.int .u64 0,.int .u64 0,.int .u64 0,.int .u64 0] 43)=w6):=⟨_,rfl⟩
 obtain ⟨k8,hk8⟩:∃ k8,Hid (w5.heap.size=k8):=⟨_,rfl⟩
 obtain ⟨w7,hw7⟩:∃ w7,Hid (w6.setCells k8 0 (wn kk)=w7):=⟨_,rfl⟩
 have F6:Hid (Row w6 k8 [.int .u64 0,.int .u64 0,.int .u64 0,.int .u64 0]∧Kp w w6 [(k6,wn x)]):=by
  rw[← hw6.out,← hk8.out]
  exact ⟨row_new w5 _ _,K5.out.grow (below1 _ _)⟩
 have K7:Hid (Kp w w7 [(k8,wn kk),(k6,wn x)]):=by
  rw[← hw7.out]
  refine F6.out.2.put F6.out.1 rfl (by rw[← hk8.out];exact K5.out.bl.size) fun y hy=>?_
  rw[show y=(k6,wn x) by simpa using hy,← hk8.out]
  exact Nat.ne_of_lt (K5.out.at 0 rfl).1
 go_wp2_with (first|(refine wpList_op (v:=.pointer (some ⟨k8,0,none⟩)) (w':=w6) rfl (.alloc 43) rfl ?_ ?_;(rw[← hw6.out,← hk8.out];kernel_rfl))|(refine wpList_store_mid rfl 43 _ _ rfl k8 0 (wn kk).toArray ?_ ?_ ?_ ?_ ?_ ?_;rfl;exact hvk.out.symm;exact F6.out.1.2.2;exact i40;exact wn_one kk;rw[show (wn kk).toArray.toList=wn kk from rfl,hw7.out])|fail)
 clear hw6 hw7 hk8 F6 K5
 refine (G5 w k6 k8 x kk w7.heap.size A F).last 4 (by kernel_rfl) (by kernel_rfl) (by kernel_rfl) ⟨
  RG.gw_load 43 8 rfl u40 fun a W hp=>⟨k8,0,wn kk,hp.o 8 (by kernel_rfl),(hp.b.1.at 0 rfl).2.1,i40,rfl⟩,
  RG.gw_call fun a W hp=>⟨[],49,#[],trivial,by kernel_rfl,(gen_c HC.out.1 W).mono (by
   rintro e W' ⟨u,rfl,hb,rfl⟩
   exact ⟨_,rfl,hb,by rw[hAe.out];rfl⟩)⟩,
  RG.gw_call fun a W hp=>⟨[(22,nv kk),(23,pvl A)],48,#[nv kk,pvl A],⟨hp.n 0 22 (by kernel_rfl) (by kernel_rfl),hp.n 1 23 (by kernel_rfl) (by kernel_rfl),trivial⟩,by kernel_rfl,by
   rw[← hAe.out]
   refine (times_c HC.out.1 HC.out.2.1 HC.out.2.2.2.1 (gG_on HC.out.1) W).mono ?_
   rintro e W' ⟨u,rfl,hb,rfl⟩
   exact ⟨_,rfl,hb,by rw[hFe.out];rfl⟩⟩,
  RG.gw_val fun a W hp=>⟨[],.pointer (some ⟨W.heap.size,0,none⟩),W.alloc (.cells z33.toArray 47),trivial,by kernel_rfl,below1 _ _,W.heap.size,rfl,hp.b.2,row_new W _ _⟩,trivial⟩ ⟨K7.out.drew,Nat.le_refl _⟩ ?_
 intro V w8 hR8 hB8
 obtain ⟨k9,hk9,hk9b,hk9r⟩:=show Nw w7.heap.size z33 (V 3) w8 from hR8 3 (by decide)
 have hV2:V 2=pvl F:=hR8 2 (by decide)
 dsimp only[RG.putV,Nat.reduceAdd,List.take,List.drop]
 obtain ⟨vF,hvF⟩:∃ v,Hid (pvl F=v):=⟨_,rfl⟩
 rw[hk9,hV2,hvF.out]
 generalize V 0=s22
 generalize V 1=s23
 obtain ⟨w9,hw9⟩:∃ w9,Hid (w8.setCells k9 0 (bl33 F)=w9):=⟨_,rfl⟩
 have hlen:(bl33 F).length=33:=bl33_length HF.out.1
 have HB8:Hid (Kp w w8 [(k8,wn kk),(k6,wn x)]∧w7.heap.size≤w8.heap.size):=hB8
 have K9:Hid (Kp w w9 [(k9,bl33 F),(k8,wn kk),(k6,wn x)]):=by
  rw[← hw9.out]
  refine HB8.out.1.put hk9r (by rw[hlen];rfl) (Nat.le_trans K7.out.bl.size hk9b) fun y hy=>?_
  have h8:=(K7.out.rw y hy).1
  omega
 have HI:Hid (w8.there k9 0 (bl33 F).toArray.size∧(Tryz.prog.info? 47).map (·.size)=some (bl33 F).toArray.size∧(Tryz.prog.info? 47).map (·.size)=some (bl33 F).length):=by
  have e:(bl33 F).toArray.size=33:=by rw[List.size_toArray];exact hlen
  rw[e,hlen]
  exact ⟨hk9r.2.2,infoCP,infoCP⟩
 clear hlen hR8 hB8 hk9 hk9b hk9r hV2 HB8 K7 V
 go_wp2_with (first|(refine wpList_store_mid rfl 47 _ _ rfl k9 0 (bl33 F).toArray ?_ ?_ ?_ ?_ ?_ ?_;rfl;exact hvF.out.symm;exact HI.out.1;exact HI.out.2.1;exact bl33_one F;rw[show (bl33 F).toArray.toList=bl33 F from rfl,hw9.out])|fail)
 clear hw9
 refine (G6 w k6 k8 k9 x kk c w9.heap.size A F (.slice p1 n1 c1) A').last 7 (by kernel_rfl) (by kernel_rfl) (by kernel_rfl) ⟨
  RG.gw_load 43 6 rfl u40 fun a W hp=>⟨k6,0,wn x,hp.o 6 (by kernel_rfl),(hp.b.1.at 2 rfl).2.1,i40,rfl⟩,
  RG.gw_call fun a W hp=>⟨[],49,#[],trivial,by kernel_rfl,(gen_c HC.out.1 W).mono (by
   rintro e W' ⟨u,rfl,hb,rfl⟩
   exact ⟨_,rfl,hb,by rw[hAe.out];rfl⟩)⟩,
  RG.gw_call fun a W hp=>⟨[(25,nv x),(26,pvl A)],48,#[nv x,pvl A],⟨hp.n 0 25 (by kernel_rfl) (by kernel_rfl),hp.n 1 26 (by kernel_rfl) (by kernel_rfl),trivial⟩,by kernel_rfl,by
   rw[← hAe.out]
   refine (times_c HC.out.1 HC.out.2.1 HC.out.2.2.1 (gG_on HC.out.1) W).mono ?_
   rintro e W' ⟨u,rfl,hb,rfl⟩
   exact ⟨_,rfl,hb,by rw[hAe'.out];rfl⟩⟩,
  RG.gw_load 47 9 rfl uCP fun a W hp=>⟨k9,0,bl33 F,hp.o 9 (by kernel_rfl),(hp.b.1.at 0 rfl).2.1,HI.out.2.2,rfl⟩,
  RG.gw_val fun a W hp=>⟨[(1,.slice p1 n1 c1)],.slice p1 n1 c1,W,⟨hp.o 1 (by kernel_rfl),trivial⟩,by kernel_rfl,Below.refl _ _,rfl⟩,
  RG.gw_call fun a W hp=>⟨[(27,pvl A'),(28,pvl F),(29,.slice p1 n1 c1)],50,#[pvl A',pvl F,.slice p1 n1 c1],⟨hp.n 2 27 (by kernel_rfl) (by kernel_rfl),hp.n 3 28 (by kernel_rfl) (by kernel_rfl),hp.n 4 29 (by kernel_rfl) (by kernel_rfl),trivial⟩,by kernel_rfl,by
   refine (sAsked_c HC.out.2.1 A' F HF.out.2 HF.out.1 p1 n1 c1 tx.toList W (HP.out.2.below hp.b.1.bl)).mono ?_
   rintro e W' ⟨u,rfl,hb,rfl⟩
   exact ⟨_,rfl,hb,by rw[HQ.out];rfl⟩⟩,
  RG.gw_val fun a W hp=>⟨[],.pointer (some ⟨W.heap.size,0,none⟩),W.alloc (.cells #[.int .u64 0,.int .u64 0,.int .u64 0,.int .u64 0] 43),trivial,by kernel_rfl,below1 _ _,W.heap.size,rfl,hp.b.2,row_new W _ _⟩,trivial⟩ ⟨K9.out.drew,Nat.le_refl _⟩ ?_
 intro V wa hRa hBa
 obtain ⟨k10,hk10,hk10b,hk10r⟩:=show Nw w9.heap.size [.int .u64 0,.int .u64 0,.int .u64 0,.int .u64 0] (V 6) wa from hRa 6 (by decide)
 have hV5:V 5=nv c:=hRa 5 (by decide)
 dsimp only[RG.putV,Nat.reduceAdd,List.take,List.drop]
 obtain ⟨vc,hvc⟩:∃ v,Hid (nv c=v):=⟨_,rfl⟩
 rw[hk10,hV5,hvc.out]
 generalize V 0=s25
 generalize V 1=s26
 generalize V 2=s27
 generalize V 3=s28
 generalize V 4=s29
 obtain ⟨wb,hwb⟩:∃ wb,Hid (wa.setCells k10 0 (wn c)=wb):=⟨_,rfl⟩
 have HBa:Hid (Kp w wa [(k9,bl33 F),(k8,wn kk),(k6,wn x)]∧w9.heap.size≤wa.heap.size):=hBa
 have Kb:Hid (Kp w wb [(k10,wn c),(k9,bl33 F),(k8,wn kk),(k6,wn x)]):=by
  rw[← hwb.out]
  refine HBa.out.1.put hk10r rfl (Nat.le_trans K9.out.bl.size hk10b) fun y hy=>?_
  have h8:=(K9.out.rw y hy).1
  omega
 have HJ:Hid (wa.there k10 0 [Value.int .u64 0,.int .u64 0,.int .u64 0,.int .u64 0].length):=hk10r.2.2
 clear hRa hBa hk10 hk10b hk10r hV5 HBa K9 V
 simp only[Act.put,List.setIfInBounds_toArray,List.set_cons_succ,List.set_cons_zero]
 go_wp2_with (first|(refine wpList_store_mid rfl 43 _ _ rfl k10 0 (wn c).toArray ?_ ?_ ?_ ?_ ?_ ?_;rfl;exact hvc.out.symm;exact HJ.out;exact i40;exact wn_one c;rw[show (wn c).toArray.toList=wn c from rfl,hwb.out])|fail)
 clear hwb HJ
 refine (G7 w k6 k8 k9 k10 x kk c z w.heap.size F).draws (by kernel_rfl) (by kernel_rfl) ⟨
  RG.gw_val fun a W hp=>⟨[(9,.pointer (some ⟨k9,0,none⟩))],.slice (some ⟨k9,0,none⟩) 33 33,W,⟨hp.o 9 (by kernel_rfl),trivial⟩,by kernel_rfl,Below.refl _ _,rfl⟩,
  RG.gw_load 43 10 rfl u40 fun a W hp=>⟨k10,0,wn c,hp.o 10 (by kernel_rfl),(hp.b.1.at 0 rfl).2.1,i40,rfl⟩,
  RG.gw_load 43 8 rfl u40 fun a W hp=>⟨k8,0,wn kk,hp.o 8 (by kernel_rfl),(hp.b.1.at 2 rfl).2.1,i40,rfl⟩,
  RG.gw_load 43 6 rfl u40 fun a W hp=>⟨k6,0,wn x,hp.o 6 (by kernel_rfl),(hp.b.1.at 3 rfl).2.1,i40,rfl⟩,
  RG.gw_call fun a W hp=>⟨[(32,nv c),(33,nv kk),(34,nv x)],23,#[nv c,nv kk,nv x],⟨hp.n 1 32 (by kernel_rfl) (by kernel_rfl),hp.n 2 33 (by kernel_rfl) (by kernel_rfl),hp.n 3 34 (by kernel_rfl) (by kernel_rfl),trivial⟩,by kernel_rfl,by
   refine (answer_c HC.out.2.1 HC.out.2.2.2.2.1 HC.out.2.2.2.1 HC.out.2.2.1 W).mono ?_
   rintro e W' ⟨u,rfl,hb,rfl⟩
   exact ⟨_,rfl,hb,by rw[HC.out.2.2.2.2.2];rfl⟩⟩,
  RG.gw_call fun a W hp=>⟨[(35,nv z)],24,#[nv z],⟨hp.n 4 35 (by kernel_rfl) (by kernel_rfl),trivial⟩,by kernel_rfl,by
   refine (sbytes_c HC.out.2.1 (by rw[← HC.out.2.2.2.2.2];exact Nat.mod_lt _ HC.out.2.1.pos) W).mono ?_
   rintro e W' ⟨u,rfl,k',hm,rfl⟩
   exact ⟨_,rfl,hm.bel,El.of_made hm (bx_size z)⟩⟩,
  RG.gw_val fun a W hp=>⟨[(31,.slice (some ⟨k9,0,none⟩) 33 33),(36,a.eval (.tmp 36))],.slice (some ⟨W.heap.size,0,none⟩) 2 2,W.alloc (.cells #[.slice (some ⟨k9,0,none⟩) 33 33,a.eval (.tmp 36)] 22),⟨hp.n 0 31 (by kernel_rfl) (by kernel_rfl),rfl,trivial⟩,by
   obtain ⟨k',c',he,-⟩:=show El 32 W (a.eval (.tmp 36)) (bx z) from hp.n 5 36 (by kernel_rfl) (by kernel_rfl)
   rw[he];kernel_rfl,below1 _ _,by
   have hE:=show El 32 W (a.eval (.tmp 36)) (bx z) from hp.n 5 36 (by kernel_rfl) (by kernel_rfl)
   refine ⟨W.heap.size,a.eval (.tmp 36),rfl,by rw[World.size_alloc];omega,by rw[World.cell?_alloc_new];rfl,by rw[World.cell?_alloc_new];rfl,hE.below (below1 _ _) (Nat.le_refl _)⟩⟩,
  RG.gw_call fun a W hp=>⟨[(37,a.eval (.tmp 37))],22,#[a.eval (.tmp 37)],⟨rfl,trivial⟩,by kernel_rfl,by
   obtain ⟨k',y,he,h1,h2,h3,h4⟩:=show Two k9 z (a.eval (.tmp 37)) W from hp.n 6 37 (by kernel_rfl) (by kernel_rfl)
   rw[he]
   have hF:=(hp.b.1.at 1 rfl:Row W k9 (bl33 F))
   refine (concat_c k' 2 2 (fun j=>if j=0 then F else bx z) (by decide) (fun j hj=>?_) W h1 (fun j hj=>?_)).mono ?_
   ·split
    ·rw[HF.out.1];decide
    ·rw[bx_size];decide
   ·have hj2:j=0∨j=1:=by omega
    rcases hj2 with rfl|rfl
    ·exact ⟨_,h2,k9,33,by rw[if_pos rfl,HF.out.1],by rw[if_pos rfl,HF.out.1];exact Nat.le_refl _,rfl,hF.1,row_holds hF⟩
    ·refine ⟨_,h3,?_⟩
     show El (bx z).size W y (bx z)
     rw[bx_size];exact h4
   ·rintro e W' ⟨u,rfl,hb,ho⟩
    refine ⟨_,rfl,hb,?_⟩
    have e1:catL (fun j=>if j=0 then F else bx z) 2=F.toList++(bx z).toList:=by
     rw[catL_succ,catL_succ];rfl
    rw[e1] at ho
    have e2:(F.toList++(bx z).toList).length=65:=by
     rw[List.length_append,show F.toList.length=33 from HF.out.1,show (bx z).toList.length=32 from bx_size z]
    rw[e2] at ho
    exact ⟨ho.1,ho.2.imp id fun ⟨g,cap,cur,q1,q2,q3⟩=>⟨g,cap,cur,q1,Nat.le_trans hp.b.2 q2,q3⟩⟩⟩,
  RG.gw_val fun a W hp=>⟨[(38,a.eval (.tmp 38))],a.eval (.tmp 38),W,⟨rfl,trivial⟩,by kernel_rfl,Below.refl _ _,hp.n 7 38 (by kernel_rfl) (by kernel_rfl)⟩,
  RG.gw_val fun a W hp=>⟨[],.int .i64 0,W,trivial,by kernel_rfl,Below.refl _ _,rfl⟩,trivial⟩ ⟨Kb.out.drew,Kb.out.bl.size⟩ ?_
 intro V wc hRc hBc
 have hV9:V 9=.int .i64 0:=hRc 9 (Nat.lt_of_succ_le (Nat.le_of_ble_eq_true (by kernel_rfl)))
 have HA8:Hid (Ans z w.heap.size F (V 8) wc):=hRc 8 (Nat.lt_of_succ_le (Nat.le_of_ble_eq_true (by kernel_rfl)))
 have HBc:Hid (Below w.heap.size w wc):=hBc.1.bl
 dsimp only[RG.putV,Nat.reduceAdd]
 simp only[Act.put,List.setIfInBounds_toArray,List.set_cons_succ,List.set_cons_zero]
 rw[hV9]
 generalize V 8=s8 at HA8 ⊢
 clear hRc hBc Kb
 go_wp2
 go_ret2
 exact ⟨_,rfl,HBc.out,s8,rfl,HA8.out⟩
theorem ad_map {rs:List (Nat × List Value)} {b:Nat} {x:Nat × List Value} (h:rs[b]? = some x):RG.ad (rs.map (·.1)) b=x.1:=by
 unfold RG.ad
 rw[List.getD_eq_getElem?_getD,List.getElem?_map,h]
 rfl
theorem M_kp {P:Program} {Q:Exit→Act→World→Prop} {w0 w:World} {a:Act} {c:Code} {n:Nat} {rs:List (Nat × List Value)} (os:List (Tmp × RG.SV)) (hK:Kp w0 w rs) (hge:∀ x∈rs,w0.heap.size≤x.1) (hnd:(rs.map (·.1)).Nodup)
 (h:(os.map fun x=>a.tmps[x.1]?,a.tmps.size,a.defers)=(os.map fun x=>some (x.2.at (RG.ad (rs.map (·.1)))),n,[])) (hp:∀ a,RG.M w0 w0.heap.size [] n (rs.map (·.2)) (rs.map (·.1)) os a w→c.wp P Q a w):c.wp P Q a w:=by
 simp only[Prod.mk.injEq] at h
 have hb:=hK.bl
 refine hp a ⟨⟨⟨hb.os,hb.tape,hb.output,hb.size,fun j hj _=>hb.block j hj⟩,hb.size,by rw[List.length_map,List.length_map],?_,?_⟩,⟨h.2.1,h.2.2⟩,RG.Olds.mk' fun x hx=>List.map_inj_left.1 h.1 x hx⟩
 ·intro b c hb'
  rw[List.getElem?_map] at hb'
  obtain ⟨x,hx,rfl⟩:=Option.map_eq_some_iff.1 hb'
  have hm:=List.mem_of_getElem? hx
  have hR:=hK.rw x hm
  rw[ad_map hx]
  exact ⟨hR.2.1,hR.2.2,hR.1,Or.inl (hge x hm)⟩
 ·intro b c hb' hc' hbc
  rw[List.length_map] at hb' hc'
  have h1:=List.getElem?_eq_getElem hb'
  have h2:=List.getElem?_eq_getElem hc'
  rw[ad_map h1,ad_map h2]
  intro e
  have hp:=List.pairwise_iff_getElem.1 hnd
  rcases Nat.lt_or_gt_of_ne hbc with hlt|hlt
  ·exact hp b c (by rw[List.length_map];exact hb') (by rw[List.length_map];exact hc') hlt (by simpa using e)
  ·exact hp c b (by rw[List.length_map];exact hc') (by rw[List.length_map];exact hb') hlt (by simpa using e.symm)
theorem eqPv {a b:Bs} (ha:a.size=33) (hb:b.size=33) (w:World):(binOp .eql 47 (pvl a) (pvl b)).run Tryz.prog w=.ok (.bool (decide (a=b))) w:=by
 have h:=eqCP ha hb w
 have h2:(binOp .eql 47 (pvl a) (pvl b)).run Tryz.prog w=(Op.equal 47 (pvl a) (pvl b) >>= fun b=>pure (Value.bool b)).run Tryz.prog w:=rfl
 rw[h2,Sem.run_bind]
 unfold pvl
 rw[h]
 rfl
theorem uSi:(Tryz.prog.underlying 90).map (·.isRow)=some true:=by kernel_rfl
theorem iSi:(Tryz.prog.info? 90).map (·.size)=some 74:=by kernel_rfl
def z74:List Value:=zz 66++RG.z 8
def sil (p f:Nat→UInt8) (c z:Nat):List Value:=fl33 p++(fl33 f++(wn c++wn z))
def FRi_1 (e p f r:Nat→UInt8) (c z:Nat) (y:Bool):List RG.It:=[.c 3 [] (fpv e),.s 4 [] (.p 0 0),.x 5 [(4,1)] (fpv p),.s 6 [] (.p 0 66),.x 7 [(6,3)] (nv c),.s 8 [] (.p 0 70),.x 9 [(8,5)] (nv z),.c 10 [(3,0),(5,2),(7,4),(9,6)] (fpv r),.s 11 [] (.p 0 33),.x 12 [(11,8)] (fpv f),.x 13 [(10,7),(12,9)] (.bool y),.x 2 [(13,10)] (.bool y)]
def siv (p f:Bs) (c z:Nat):Value:=.agg (bl33 p++(bl33 f++(wn c++wn z))).toArray
theorem right_c (C:Fl3 P) (O:Ord N) (hord:∀ r:EC.Pt P,EC.On r→EC.mul N r=none) {p f:Bs} (hp:real P p=true) (hf:f.size=33) {c z:Nat} (hc:c<N) (hz:z<N):Gives 52 #[siv p f c z] (.bool (decide (vsF P p c z=f))):=by
 intro w
 have hG:=gen_c C.toFld
 have hF:=first0_c C.toFld O hord (gG_on C.toFld) (real_wr C hp).2 hc hz
 rw[(real_wr C hp).1] at hF
 have hF':Gives 57 #[pvl (wr (gG P)),pvl p,nv c,nv z] (pvl (vsF P p c z)):=by unfold vsF;exact hF
 have hs:=real_33 hp
 have hv:(vsF P p c z).size=33:=wr_size _
 have hE:=eqPv hv hf
 unfold siv
 rw[bl33_fl hs,bl33_fl hf]
 rw[pvl_fl (wr_size _)] at hG
 rw[pvl_fl (wr_size _),pvl_fl hs,pvl_fl hv] at hF'
 rw[pvl_fl hv,pvl_fl hf] at hE
 clear hF
 generalize decide (vsF P p c z=f)=y at hE ⊢
 generalize (fun i:Nat=>(wr (gG P))[i]!)=e0 at hG hF'
 generalize (fun i:Nat=>(vsF P p c z)[i]!)=r0 at hF' hE
 generalize (fun i:Nat=>p[i]!)=p0 at hF' ⊢
 generalize (fun i:Nat=>f[i]!)=f0 at hE ⊢
 go_enter Tryz.func52,Tryz.ntmps52
 refine RG.M.enter [(0,.v (.agg (fl33 p0++(fl33 f0++(wn c++wn z))).toArray))] 14 (by kernel_rfl) ?_
 intro a0 M0
 repeat refine wp_seq ?_
 refine M0.t [.m 1 [] 0,.x 2 [] (.bool false)] [(0,fl33 p0++(fl33 f0++(wn c++wn z)))] [] [fl33 p0++(fl33 f0++(wn c++wn z))] [(1,.p 0 0)] ⟨RG.mk 0 90,RG.st,trivial⟩ ?_
 intro j1 a1 w1 M1
 repeat refine wp_seq ?_
 refine M1.e (FRi_1 e0 p0 f0 r0 c z y) [(2,.v (.bool y))] ⟨RG.cl hG,RG.st,RG.ld uCP infoCP,RG.st,RG.ld u40 i40,RG.st,RG.ld u40 i40,RG.cl hF',RG.st,RG.ld uCP infoCP,RG.cert_bin rfl .eql 47 47 10 12 (fpv r0) (fpv f0) (.bool y) rfl rfl RG.sx RG.sx (fun w=>by kernel_rfl) (fun w=>hE w),RG.st,trivial⟩ ?_
 intro a2 w2 M2
 refine wp_ret ?_
 refine bodyPost_ret (v:=.bool y) (RG.results_t 2 rfl _ M2.av) M2.sl.defers ?_
 exact ⟨_,rfl,M2.st.bel.below,rfl⟩
def FRs_5 (p f:Nat→UInt8) (c z:Nat) (tx:Value):List RG.It:=[.x 31 [] (fpv p),.s 32 [] (.s 0 1 1),.s 33 [(32,1)] (.p 0 0),.x 34 [(33,2)] (fpv f),.x 35 [] (fpv p),.s 36 [] (.s 0 1 1),.s 37 [(36,5)] (.p 0 0),.x 38 [(37,6)] (fpv f),.x 39 [] tx,.c 40 [(35,4),(38,7),(39,8)] (nv c),.s 41 [] (.s 1 1 1),.s 42 [(41,10)] (.p 1 0),.x 43 [(42,11)] (nv z),.x 44 [(31,0),(34,3),(40,9),(43,12)] (.agg (sil p f c z).toArray),.u [(44,13)] 2,.x 7 [] (.bool true)]
noncomputable def rsC (N:Nat) (p sg:Bs) (tx:List UInt8):Nat:=asg N p.toList (sg.extract 0 33).toList tx
noncomputable def rsV (P:Nat) [NeZero P] (N:Nat) (p sg:Bs) (tx:List UInt8):Value:=
 if real P p && RpT11 P N sg then .tuple #[siv p (sg.extract 0 33) (rsC N p sg tx) (nuV (sg.extract 33 65)),.bool true] else .tuple #[.agg z74.toArray,.bool false]
theorem readSigned_c (C:Fl3 P) (O:Ord N) (v0:Value) (t1:Option Addr) (n1 c1:Nat) (v2:Value) (p sg:Bs) (tx:List UInt8) (w:World) (h0:Arg33 w v0 p) (h1:SP.PartOk w (.slice t1 n1 c1) tx) (h2:SP.PartOk w v2 sg.toList) :
 Calls Tryz.prog 51 #[v0,.slice t1 n1 c1,v2] w (Ret fun e w'=>Below w.heap.size w w'∧e=rsV P N p sg tx):=by
 obtain ⟨k6,hk6⟩:∃ k6,Hid (w.heap.size=k6):=⟨_,rfl⟩
 obtain ⟨w1,hw1⟩:∃ w1,Hid (w.alloc (.cells z74.toArray 90)=w1):=⟨_,rfl⟩
 have K1:Hid (Kp w w1 [(k6,z74)]):=by
  have hR:Row w1 k6 z74:=by rw[← hw1.out,← hk6.out];exact row_new w _ _
  exact Kp.cons ⟨by rw[← hw1.out];exact below1 _ _,fun x hx=>by cases hx⟩ hR
 have HS:=Hid.mk' (rsome_c C.toFld v0 p w1 (h0.below K1.out.bl))
 obtain ⟨B,hB⟩:∃ B,Hid (rdB P p=B):=⟨_,rfl⟩
 obtain ⟨ok,hok⟩:∃ ok,Hid (real P p=ok):=⟨_,rfl⟩
 have HB:Hid (B.size=33):=by rw[← hB.out];exact rdB_size p
 rw[hB.out,hok.out] at HS
 obtain ⟨vB,hvB⟩:∃ vB,Hid (pvl B=vB):=⟨_,rfl⟩
 rw[hvB.out] at HS
 have H1:Hid (SP.PartOk w (.slice t1 n1 c1) tx):=h1
 have H2:Hid (SP.PartOk w v2 sg.toList):=h2
 have HC:Hid (Fl3 P∧Ord N):=⟨C,O⟩
 clear h0 h1 h2 C O
 go_enter Tryz.func51,Tryz.ntmps51
 go_wp2_with (refine wpList_op (v:=.pointer (some ⟨k6,0,none⟩)) (w':=w1) rfl (.alloc 90) rfl ?_ ?_;(rw[← hw1.out,← hk6.out];kernel_rfl))
 refine HS.out.mono ?_
 clear HS
 rintro e w2 ⟨vv,rfl,hb2,rfl⟩
 have K2:Hid (Kp w w2 [(k6,z74)]):=K1.out.grow hb2
 obtain ⟨k8,hk8⟩:∃ k8,Hid (w2.heap.size=k8):=⟨_,rfl⟩
 obtain ⟨w3,hw3⟩:∃ w3,Hid (w2.alloc (.cells z33.toArray 47)=w3):=⟨_,rfl⟩
 obtain ⟨w4,hw4⟩:∃ w4,Hid (w3.setCells k8 0 (bl33 B)=w4):=⟨_,rfl⟩
 have hlen:(bl33 B).length=33:=bl33_length HB.out
 have F3:Hid (Row w3 k8 z33∧Kp w w3 [(k6,z74)]∧k6<k8∧w.heap.size≤k6):=by
  have hlt:=(K2.out.at 0 rfl).1
  refine ⟨by rw[← hw3.out,← hk8.out];exact row_new w2 _ _,by rw[← hw3.out];exact K2.out.grow (below1 _ _),by rw[← hk8.out];exact hlt,by rw[hk6.out];exact Nat.le_refl _⟩
 have K4:Hid (Kp w w4 [(k8,bl33 B),(k6,z74)]∧k6<k8∧w.heap.size≤k6∧k8<w4.heap.size):=by
  have hk:Kp w w4 [(k8,bl33 B),(k6,z74)]:=by
   rw[← hw4.out]
   refine F3.out.2.1.put F3.out.1 (by rw[hlen];rfl) (Nat.le_trans F3.out.2.2.2 (Nat.le_of_lt F3.out.2.2.1)) (fun x hx=>?_)
   rw[List.mem_singleton.1 hx]
   exact Nat.ne_of_lt F3.out.2.2.1
  exact ⟨hk,F3.out.2.2.1,F3.out.2.2.2,(hk.at 0 rfl).1⟩
 have HI:Hid ((Tryz.prog.info? 47).map (·.size)=some (bl33 B).toArray.size∧w3.there k8 0 (bl33 B).toArray.size):=by
  have hsz:(bl33 B).toArray.size=33:=by rw[List.size_toArray];exact hlen
  rw[hsz]
  exact ⟨infoCP,F3.out.1.2.2⟩
 have hrp:=readProof11_c HC.out.1.toFld HC.out.2 v2 sg w4 (H2.out.below K4.out.1.bl)
 clear hb2 hlen K1 K2
 go_wp2_with (first|(refine wpList_op (v:=.pointer (some ⟨k8,0,none⟩)) (w':=w3) rfl (.alloc 47) rfl ?_ ?_;(rw[← hw3.out,← hk8.out];kernel_rfl))|(refine wpList_store_mid rfl 47 _ _ rfl k8 0 (bl33 B).toArray ?_ ?_ ?_ ?_ ?_ ?_;rfl;exact hvB.out.symm;exact HI.out.2;exact HI.out.1;exact bl33_one B;rw[show (bl33 B).toArray.toList=bl33 B from rfl,hw4.out])|fail)
 refine hrp.mono ?_
 clear hrp HI F3 hw3 hw4 hk8 hw1 hk6
 rintro e w5 ⟨vv,rfl,hb5,hor⟩
 have K5:Hid (Kp w w5 [(k8,bl33 B),(k6,z74)]):=K4.out.1.grow hb5
 have HZ:Hid (z74.toArray.all (·.oneCell')=true∧(Tryz.prog.info? 90).map (·.size)=some z74.toArray.size∧w5.there k6 0 z74.toArray.size):=⟨by decide +kernel,iSi,(K5.out.at 1 rfl).2.2⟩
 obtain ⟨vZ,hvZ⟩:∃ vZ,Hid (Value.agg z74.toArray=vZ):=⟨_,rfl⟩
 obtain ⟨w6,hw6⟩:∃ w6,Hid (w5.setCells k6 0 z74=w6):=⟨_,rfl⟩
 have K6:Hid (Row w6 k6 z74∧Below w.heap.size w w6):=by
  rw[← hw6.out]
  exact ⟨(K5.out.at 1 rfl).put rfl,RG.below_setCells K4.out.2.2.1 _ _ _ K5.out.bl⟩
 rcases hor with ⟨hT,K,k,rfl,hK1,hKk,hk2,hK3,hK4,hk3,hk4⟩|⟨hT,q1,q2,rfl⟩
 ·cases ok with
  | true =>
   have hBp:B=p:=by rw[← hB.out];unfold rdB;rw[if_pos (real_rd hok.out)]
   have sp:=real_33 hok.out
   have hT':=hT
   unfold RpT11 at hT'
   simp only[Bool.and_eq_true,decide_eq_true_eq] at hT'
   have sf:(sg.extract 0 33).size=33:=by rw[Array.size_extract];omega
   have hV:Hid (rsV P N p sg tx=.tuple #[siv p (sg.extract 0 33) (rsC N p sg tx) (nuV (sg.extract 33 65)),.bool true]):=by
    show _=_
    unfold rsV
    rw[hok.out,hT]
    rfl
   have hA:∀ W,RG.BelX w.heap.size [] w W→Calls Tryz.prog 50 #[pvl p,pvl (sg.extract 0 33),.slice t1 n1 c1] W (Ret fun e w'=>Below W.heap.size W w'∧e=nv (rsC N p sg tx)):=fun W hW=>by
    unfold rsC
    exact sAsked_c HC.out.2 p (sg.extract 0 33) sp sf t1 n1 c1 tx W (H1.out.below hW.below)
   have hKp:Kp w w5 [(K,bl33 (sg.extract 0 33)),(k,wn (nuV (sg.extract 33 65))),(k6,z74),(k8,bl33 B)]:=by
    have r1:=K5.out.at 0 rfl
    have r2:=K5.out.at 1 rfl
    refine Kp.cons (Kp.cons (Kp.cons (Kp.cons ⟨K5.out.bl,fun x hx=>by cases hx⟩ r1) r2) ⟨hk2,hk3,hk4⟩) ⟨Nat.lt_trans hKk hk2,hK3,?_⟩
    rw[bl33_length sf]
    exact hK4
   have hge:w4.heap.size≤K∧K<k∧w.heap.size≤k6∧k6<k8∧k8<w4.heap.size:=⟨hK1,hKk,K4.out.2.2.1,K4.out.2.1,K4.out.2.2.2⟩
   rw[hBp] at hKp
   rw[pvl_fl sp,pvl_fl sf] at hA
   unfold siv at hV
   rw[bl33_fl sp,bl33_fl sf] at hV hKp
   clear hT' hT hK1 hK3 hK4 hk3 hk4 hk2 hKk sp sf hBp
   generalize rsC N p sg tx=cc at hA hV
   generalize nuV (sg.extract 33 65)=zc at hKp hV
   generalize (fun i:Nat=>p[i]!)=p0 at hA hV hKp
   generalize (fun i:Nat=>(sg.extract 0 33)[i]!)=f0 at hA hV hKp
   have HALL:Hid ((∀ W,RG.BelX w.heap.size [] w W→Calls Tryz.prog 50 #[fpv p0,fpv f0,.slice t1 n1 c1] W (Ret fun e w'=>Below W.heap.size W w'∧e=nv cc))∧Kp w w5 [(K,fl33 f0),(k,wn zc),(k6,z74),(k8,fl33 p0)]∧(w4.heap.size≤K∧K<k∧w.heap.size≤k6∧k6<k8∧k8<w4.heap.size)):=⟨hA,hKp,hge⟩
   clear hA hKp hge K4 K5 K6 HZ hb5
   go_wp2_with fail
   obtain ⟨hA,hKp,hge⟩:=HALL.out
   refine M_kp (n:=45) [(1,.v (.slice t1 n1 c1)),(6,.p 2 0),(8,.p 3 0),(10,.s 0 1 1),(11,.s 1 1 1)] hKp (fun x hx=>?_) ?_ (by kernel_rfl) ?_
   ·simp only[List.mem_cons,List.not_mem_nil,or_false] at hx
    rcases hx with rfl|rfl|rfl|rfl<;>simp only<;>omega
   ·simp only[List.map_cons,List.map_nil,List.nodup_cons,List.mem_cons,List.not_mem_nil,or_false,not_false_eq_true,List.nodup_nil,and_true]
    omega
   intro a0 M0
   refine M0.d (FRs_5 p0 f0 cc zc (.slice t1 n1 c1)) [] [(2,14,sil p0 f0 cc zc)] [fl33 f0,wn zc,sil p0 f0 cc zc,fl33 p0] [(6,.p 2 0),(7,.v (.bool true))] ⟨RG.ld uCP infoCP,RG.st,RG.st,RG.ld uCP infoCP,RG.ld uCP infoCP,RG.st,RG.st,RG.ld uCP infoCP,RG.st,RG.clB (fun _ _=>by kernel_rfl) hA,RG.st,RG.st,RG.ld u40 i40,RG.st,RG.pt iSi,RG.st,trivial⟩ ?_
   intro a1 w7 M1
   rename_i KK ha
   refine ha _ _ ?_
   refine wp_ret ?_
   have h2:=M1.st.has 2 _ rfl
   refine bodyPost_ret (v:=.tuple #[.agg (sil p0 f0 cc zc).toArray,.bool true]) (results_ct 6 7 90 rfl (vs:=sil p0 f0 cc zc) ⟨h2.2.2.1,h2.1,h2.2.1⟩ (M1.at (s:=.p 2 0)) M1.av uSi iSi) M1.sl.defers ?_
   exact ⟨_,rfl,M1.st.bel.below,by rw[hV.out];rfl⟩
  | false =>
   have hV:Hid (rsV P N p sg tx=.tuple #[.agg z74.toArray,.bool false]):=by
    show _=_
    unfold rsV
    rw[hok.out]
    rfl
   clear hT hK1 hKk hk2 hK3 hK4 hk3 hk4 K5 hb5 K4
   go_wp2_with (first|(refine wpList_op (v:=vZ) (w':=w5) rfl (.build 90 #[]) rfl ?_ ?_;(rw[← hvZ.out];kernel_rfl))|(refine wpList_store_mid rfl 90 _ _ rfl k6 0 z74.toArray ?_ ?_ ?_ ?_ ?_ ?_;rfl;exact hvZ.out.symm;exact HZ.out.2.2;exact HZ.out.2.1;exact HZ.out.1;rw[show z74.toArray.toList=z74 from rfl,hw6.out])|fail)
   refine bodyPost_ret (v:=.tuple #[.agg z74.toArray,.bool false]) (results_ct 6 7 90 rfl K6.out.1 rfl rfl uSi iSi) rfl ?_
   exact ⟨_,rfl,K6.out.2,by rw[hV.out]⟩
 ·have hV:Hid (rsV P N p sg tx=.tuple #[.agg z74.toArray,.bool false]):=by
   show _=_
   unfold rsV
   rw[hT,Bool.and_false]
   rfl
  clear hT K5 hb5 K4
  cases ok<;>go_wp2_with (first|(refine wpList_op (v:=vZ) (w':=w5) rfl (.build 90 #[]) rfl ?_ ?_;(rw[← hvZ.out];kernel_rfl))|(refine wpList_store_mid rfl 90 _ _ rfl k6 0 z74.toArray ?_ ?_ ?_ ?_ ?_ ?_;rfl;exact hvZ.out.symm;exact HZ.out.2.2;exact HZ.out.2.1;exact HZ.out.1;rw[show z74.toArray.toList=z74 from rfl,hw6.out])|fail)
  all_goals refine bodyPost_ret (v:=.tuple #[.agg z74.toArray,.bool false]) (results_ct 6 7 90 rfl K6.out.1 rfl rfl uSi iSi) rfl ?_
  all_goals exact ⟨_,rfl,K6.out.2,by rw[hV.out]⟩
def FVf_1 (v0 v1 v2:Value) (L:List Value) (ok:Bool):List RG.It:=[.x 10 [] v0,.x 11 [] v1,.x 12 [] v2,.c 13 [(10,0),(11,1),(12,2)] (.tuple #[.agg L.toArray,.bool ok]),.x 9 [(13,3)] (.tuple #[.agg L.toArray,.bool ok]),.x 14 [(9,4)] (.agg L.toArray),.x 15 [(9,4)] (.bool ok),.m 7 [] 0,.u [(7,7),(14,5)] 0,.x 8 [(15,6)] (.bool ok)]
def FVf_2t (L:List Value) (y:Bool):List RG.It:=[.x 16 [] (.bool true),.x 17 [(16,0)] (.bool true),.x 18 [] (.agg L.toArray),.c 19 [(18,2)] (.bool y),.x 20 [(17,1),(19,3)] (.bool y),.x 6 [(20,4)] (.bool y)]
noncomputable def veP (P:Nat) [NeZero P] (N:Nat) (p sg:Bs) (tx:List UInt8):Bool:=(real P p && RpT11 P N sg) && decide (vsF P p (rsC N p sg tx) (nuV (sg.extract 33 65))=sg.extract 0 33)
theorem verify_c (C:Fl3 P) (O:Ord N) (hord:∀ r:EC.Pt P,EC.On r→EC.mul N r=none) (v0:Value) (t1:Option Addr) (n1 c1:Nat) (v2:Value) (p sg:Bs) (tx:List UInt8) (w:World) (h0:Arg33 w v0 p) (h1:SP.PartOk w (.slice t1 n1 c1) tx) (h2:SP.PartOk w v2 sg.toList) :
 Calls Tryz.prog 13 #[v0,.slice t1 n1 c1,v2] w (Ret fun e w'=>Below w.heap.size w w'∧e=.bool (veP P N p sg tx)):=by
 have hR:∀ W,RG.BelX w.heap.size [] w W→Calls Tryz.prog 51 #[v0,.slice t1 n1 c1,v2] W (Ret fun e w'=>Below W.heap.size W w'∧e=rsV P N p sg tx):=fun W hW =>
  readSigned_c C O v0 t1 n1 c1 v2 p sg tx W (h0.below hW.below) (h1.below hW.below) (h2.below hW.below)
 generalize hv1:Value.slice t1 n1 c1=v1 at hR
 clear hv1 h0 h1 h2
 cases hok:(real P p && RpT11 P N sg) with
 | true =>
  obtain ⟨hp,hT⟩:=(Bool.and_eq_true _ _).mp hok
  have hT':=hT
  unfold RpT11 at hT'
  simp only[Bool.and_eq_true,decide_eq_true_eq] at hT'
  have sf:(sg.extract 0 33).size=33:=by rw[Array.size_extract];omega
  have hcN:rsC N p sg tx<N:=by unfold rsC;exact asg_lt O _ _ _
  have hr:=right_c C O hord hp sf hcN (rq_lt hT'.2.2)
  have hV:rsV P N p sg tx=.tuple #[siv p (sg.extract 0 33) (rsC N p sg tx) (nuV (sg.extract 33 65)),.bool true]:=by unfold rsV;rw[hok];rfl
  have hQ:veP P N p sg tx=decide (vsF P p (rsC N p sg tx) (nuV (sg.extract 33 65))=sg.extract 0 33):=by unfold veP;rw[hok,Bool.true_and]
  rw[hQ]
  rw[hV] at hR
  unfold siv at hR hr
  rw[bl33_fl (real_33 hp),bl33_fl sf] at hR hr
  clear hT hT' hQ hV hok sf hp hcN
  generalize decide (vsF P p (rsC N p sg tx) (nuV (sg.extract 33 65))=sg.extract 0 33)=y at hr ⊢
  generalize rsC N p sg tx=cc at hR hr
  generalize nuV (sg.extract 33 65)=zc at hR hr
  generalize (fun i:Nat=>p[i]!)=p0 at hR hr
  generalize (fun i:Nat=>(sg.extract 0 33)[i]!)=f0 at hR hr
  go_enter Tryz.func13,Tryz.ntmps13
  refine RG.M.enter [(0,.v v0),(1,.v v1),(2,.v v2)] 21 (by kernel_rfl) ?_
  intro a0 M0
  repeat refine wp_seq ?_
  refine M0.u [.x 6 [] (.bool false)] [(0,.v v0),(1,.v v1),(2,.v v2)] ⟨RG.st,trivial⟩ ?_
  intro a1 w1 M1
  repeat refine wp_seq ?_
  refine M1.t (FVf_1 v0 v1 v2 (sil p0 f0 cc zc) true) [(7,z74)] [(0,8,sil p0 f0 cc zc)] [sil p0 f0 cc zc] [(7,.p 0 0),(8,.v (.bool true))] ⟨RG.st,RG.st,RG.st,RG.clB (fun _ _=>by kernel_rfl) hR,RG.st,RG.st,RG.st,RG.mk 0 90,RG.pt iSi,RG.st,trivial⟩ ?_
  intro j2 a2 w2 M2
  repeat refine wp_seq ?_
  refine M2.u (FVf_2t (sil p0 f0 cc zc) y) [(6,.v (.bool y))] ⟨RG.st,RG.st,RG.ld uSi iSi,RG.cl hr,RG.st,RG.st,trivial⟩ ?_
  intro a3 w3 M3
  refine wp_ret ?_
  refine bodyPost_ret (v:=.bool y) (RG.results_t 6 rfl _ M3.av) M3.sl.defers ?_
  exact ⟨_,rfl,M3.st.bel.below,rfl⟩
 | false =>
  have hV:rsV P N p sg tx=.tuple #[.agg z74.toArray,.bool false]:=by unfold rsV;rw[hok];rfl
  have hQ:veP P N p sg tx=false:=by unfold veP;rw[hok,Bool.false_and]
  rw[hQ]
  rw[hV] at hR
  clear hQ hV hok
  go_enter Tryz.func13,Tryz.ntmps13
  refine RG.M.enter [(0,.v v0),(1,.v v1),(2,.v v2)] 21 (by kernel_rfl) ?_
  intro a0 M0
  repeat refine wp_seq ?_
  refine M0.u [.x 6 [] (.bool false)] [(0,.v v0),(1,.v v1),(2,.v v2)] ⟨RG.st,trivial⟩ ?_
  intro a1 w1 M1
  repeat refine wp_seq ?_
  refine M1.t (FVf_1 v0 v1 v2 z74 false) [(7,z74)] [(0,8,z74)] [z74] [(7,.p 0 0),(8,.v (.bool false))] ⟨RG.st,RG.st,RG.st,RG.clB (fun _ _=>by kernel_rfl) hR,RG.st,RG.st,RG.st,RG.mk 0 90,RG.pt iSi,RG.st,trivial⟩ ?_
  intro j2 a2 w2 M2
  repeat refine wp_seq ?_
  refine M2.u [.x 16 [] (.bool false),.x 17 [(16,0)] (.bool false),⟨some 18,[],(.v undef),.pass⟩,⟨some 19,[],(.v undef),.pass⟩,.x 20 [(17,1),(19,3)] (.bool false),.x 6 [(20,4)] (.bool false)] [(6,.v (.bool false))] ⟨RG.st,RG.st,RG.cert_pass rfl rfl,RG.cert_pass rfl rfl,RG.st,RG.st,trivial⟩ ?_
  intro a3 w3 M3
  refine wp_ret ?_
  refine bodyPost_ret (v:=.bool false) (RG.results_t 6 rfl _ M3.av) M3.sl.defers ?_
  exact ⟨_,rfl,M3.st.bel.below,rfl⟩
end
namespace RG
open Go Go.RowKit
variable {P:Program} {ops:Array Oper} {Q:Exit→Act→World→Prop} {w0:World} {k0:Nat} {X:List Nat} {its:List It} {bl:List Bl} {olds:List (Tmp × SV)} {i:Nat} {o:Oper} {it:It}
end RG
section
open Go.RowKit Go.Sort Go.Deep
variable {P:Nat} [NeZero P]
end
section
open Go.RowKit Go.Sort Go.Deep
variable {P:Nat} [NeZero P] {N:Nat}
theorem part_of {w:World} {k cap:Nat} {s:ByteArray} (hs:s.size≤4096) (hc:s.size≤cap) (hH:Holds encB w k 0 s.data):SP.PartOk w (.slice (some ⟨k,0,none⟩) s.size cap) s.data.toList:=
 ⟨_,k,0,cap,s.data,rfl,rfl,hc,Nat.le_trans hs (by decide),Or.inr ⟨rfl,hH⟩⟩
theorem cut_33 {A B:Bs} (hA:A.size=33) (hB:B.size=32):(A++B).extract 0 33=A∧(A++B).extract 33 65=B:=by
 have h64:(A++B).size=65:=by rw[Array.size_append,hA,hB]
 constructor
 ·apply Array.ext
  ·rw[Array.size_extract,h64,hA];rfl
  ·intro i h1 h2
   rw[Array.getElem_extract,Array.getElem_append_left (by omega)]
   simp
 ·apply Array.ext
  ·rw[Array.size_extract,h64,hB];rfl
  ·intro i h1 h2
   rw[Array.getElem_extract,Array.getElem_append_right (by omega)]
   simp[hA]
theorem sign_right (C:Fl3 P) (O:Ord N) (hord:∀ r:EC.Pt P,EC.On r→EC.mul N r=none) (x kk:Nat) (tx:List UInt8) (h0:EC.mul x (gG P)≠none) (c z:Nat) (hc:asg N (wr (EC.mul x (gG P))).toList (wr (EC.mul kk (gG P))).toList tx=c) (hz:sPl N kk (sTi N c x)=z) :
 veP P N (wr (EC.mul x (gG P))) (wr (EC.mul kk (gG P))++bx z) tx=true:=by
 have hg:=gG_on C.toFld
 obtain ⟨ra,pa⟩:=real_of C (EC.mul_on C.toFld.cur hg x) h0
 obtain ⟨q,hq,-⟩:=rd_wr C.toFld (EC.mul_on C.toFld.cur hg kk)
 have hzN:z<N:=by rw[← hz];unfold sPl;exact Nat.mod_lt _ O.pos
 obtain ⟨e1,e2⟩:=cut_33 (wr_size (EC.mul kk (gG P))) (bx_size z)
 have hF:vsF P (wr (EC.mul x (gG P))) c z=wr (EC.mul kk (gG P)):=by
  unfold vsF
  rw[pa,← hz,answer_back C.toFld hord hg]
 unfold veP RpT11 rsC
 rw[e1,e2,nu_bx O hzN,hc,hF,rq_bx O hzN,ra,hq,Array.size_append,wr_size,bx_size,decide_eq_true (Eq.refl (wr (EC.mul kk (gG P))))]
 rfl
theorem El.part {n:Nat} {W:World} {x:Value} {b:Bs} (h:El n W x b) (hn:n≤4096):SP.PartOk W x b.toList:=by
 obtain ⟨k,c,rfl,h1,h2,h3,h4⟩:=h
 subst h2
 exact ⟨_,k,0,c,b,rfl,rfl,h1,Nat.le_trans hn (by decide),Or.inr ⟨rfl,h4⟩⟩
theorem scal5_c (s:ByteArray) (w:World):Calls Tryz.prog 9 #[.string s] w (Ret fun e w'=>Below w.heap.size w w'∧∃ g,e=.slice (some ⟨g,0,none⟩) 32 32∧w.heap.size≤g∧g<w'.heap.size∧Holds encB w' g 0 (scC s)):=by
 have hmk:=mk32 w
 have hH0:Holds encB (w.alloc (.cells (madeCells #[.int .u8 0] 32) 5)) w.heap.size 0 (Array.replicate 32 0):=Holds.made (enc:=encB) w 5 32 0
 have hcp:=run_copy_text (P:=Tryz.prog) (w.alloc (.cells (madeCells #[.int .u8 0] 32) 5)) 22 9 3 5 w.heap.size 1 30 31 s slice22 size5
  (fun j hj=>by have:=(hH0 (1+j) (by rw[Array.size_replicate];omega)).1;rw[Nat.zero_add] at this;rw[this];rfl) (fun j hj=>by have:=(hH0 (1+j) (by rw[Array.size_replicate];omega)).2;rwa[Nat.zero_add] at this)
 obtain ⟨vs,hvs⟩:∃ vs,vs=(s.data.toList.map fun x=>Value.int .u8 (x.toNat:Int)).take (Nat.min s.size 30):=⟨_,rfl⟩
 have hl:s.data.size=s.size:=rfl
 have hlen:vs.length=Nat.min s.size 30:=by rw[hvs,List.length_take,List.length_map,Array.length_toList,hl];exact Nat.min_eq_left (Nat.min_le_left _ _)
 have hm1:Nat.min s.size 30≤30:=Nat.min_le_right _ _
 have hH1:Holds encB ((w.alloc (.cells (madeCells #[.int .u8 0] 32) 5)).setCells w.heap.size (0+1) vs) w.heap.size 0 (scC.scM s):=by
  refine Holds.setCells (o:=0) hH0 vs 1 (by rw[scM_size,Array.size_replicate]) (by rw[Array.size_replicate,hlen];omega) (fun j hj=>?_) (fun j hj hout=>?_)
  ·have hj2:=hj
   rw[hlen] at hj2
   have ha:j<s.size:=Nat.lt_of_lt_of_le hj2 (Nat.min_le_left _ _)
   have hb:j<30:=Nat.lt_of_lt_of_le hj2 hm1
   rw[scM_at s j ha hb]
   subst hvs
   rw[List.getElem_take,List.getElem_map,Array.getElem_toList]
   rfl
  ·rw[Array.size_replicate] at hj
   rw[hlen] at hout
   have hr:(Array.replicate 32 (0:UInt8))[j]! = 0:=by rw[getElem!_pos _ j (by rw[Array.size_replicate];exact hj),Array.getElem_replicate]
   rw[hr]
   rcases hout with h|h
   ·rw[show j=0 by omega];exact scM_0 s
   ·have hmin:min s.size 30=Nat.min s.size 30:=rfl
    have e:=scM_end s (j-1) (by rw[hmin];omega) (by omega)
    rwa[show 1+(j-1)=j by omega] at e
 rw[← hvs] at hcp
 rw[Nat.zero_add] at hH1
 obtain ⟨w1,hw1⟩:∃ w1,(w.alloc (.cells (madeCells #[.int .u8 0] 32) 5)).setCells w.heap.size 1 vs=w1:=⟨_,rfl⟩
 have hb1:Below w.heap.size w w1:=by rw[← hw1];exact below_setCells (Nat.le_refl _) _ _ _ ((Below.refl _ _).alloc (Nat.le_refl _) _)
 have hsz:w.heap.size<w1.heap.size:=by
  rw[← hw1]
  have:=(below_setCells (B:=0) (b:=w.heap.size) (Nat.zero_le _) vs 1 (w.alloc (.cells (madeCells #[.int .u8 0] 32) 5)) (Below.refl 0 _)).size
  rw[World.size_alloc] at this
  omega
 rw[hw1] at hcp hH1
 obtain ⟨c31,f31⟩:=hH1 31 (by rw[scM_size];omega)
 rw[Nat.zero_add] at c31 f31
 obtain ⟨u31,hu31⟩:∃ u,encB (scC.scM s)[31]! = u:=⟨_,rfl⟩
 rw[hu31] at c31
 have H2:Holds encB (w1.setCell ⟨w.heap.size,31,none⟩ (.int .u8 1)) w.heap.size 0 (scC s):=by
  have:=Holds.set hH1 (i:=31) (by rw[scM_size];omega) 1
  rw[Nat.zero_add] at this
  exact this
 have HH:Hid (Below w.heap.size w (w1.setCell ⟨w.heap.size,31,none⟩ (.int .u8 1))∧w.heap.size<(w1.setCell ⟨w.heap.size,31,none⟩ (.int .u8 1)).heap.size∧Holds encB (w1.setCell ⟨w.heap.size,31,none⟩ (.int .u8 1)) w.heap.size 0 (scC s)):=⟨hb1.setCell (p:=⟨w.heap.size,31,none⟩) (Nat.le_refl _) _,by simpa using hsz,H2⟩
 clear hvs hlen hm1 hb1 hsz hH1 hH0 H2 hw1 hu31
 go_enter Tryz.func9,Tryz.ntmps9
 go_wp2
 go_ret
 exact ⟨_,rfl,HH.out.1,_,rfl,Nat.le_refl _,HH.out.2.1,HH.out.2.2⟩
structure Kx (w0 W:World) (l:List (Nat × Value × Bs)):Prop where
 bl:Below w0.heap.size w0 W
 el:∀ x∈l,El x.1 W x.2.1 x.2.2
theorem Kx.grow {w0 W W':World} {l:List (Nat × Value × Bs)} (h:Kx w0 W l) (hb:Below W.heap.size W W'):Kx w0 W' l:=⟨h.bl.trans (hb.mono h.bl.size),fun x hx=>(h.el x hx).below hb (Nat.le_refl _)⟩
theorem Kx.cons {w0 W:World} {l:List (Nat × Value × Bs)} {n:Nat} {v:Value} {b:Bs} (h:Kx w0 W l) (he:El n W v b):Kx w0 W ((n,v,b) :: l):=⟨h.bl,fun x hx=>by
 rcases List.mem_cons.1 hx with rfl|hx
 ·exact he
 ·exact h.el x hx⟩
theorem Kx.at {w0 W:World} {l:List (Nat × Value × Bs)} (h:Kx w0 W l) {n:Nat} {v:Value} {b:Bs} (i:Nat) (hi:l[i]? = some (n,v,b)):El n W v b:=h.el _ (List.mem_of_getElem? hi)
structure Sc (X Y Q G p q b F z1 d A o:Bs) (sl:Bs):Prop where
 gb:∀ w,Calls Tryz.prog 11 #[] w (Ret fun e w'=>Below w.heap.size w w'∧BytesR w G e w')
 tx:∀ (W:World) (g c gs:Nat),El 32 W (.slice (some ⟨gs,0,none⟩) 32 32) X→El 33 W (.slice (some ⟨g,0,none⟩) 33 c) G→Calls Tryz.prog 10 #[.slice (some ⟨gs,0,none⟩) 32 32,.slice (some ⟨g,0,none⟩) 33 c] W (Ret fun e w'=>Below W.heap.size W w'∧OutP W p e w')
 ty:∀ (W:World) (g c gs:Nat),El 32 W (.slice (some ⟨gs,0,none⟩) 32 32) Y→El 33 W (.slice (some ⟨g,0,none⟩) 33 c) G→Calls Tryz.prog 10 #[.slice (some ⟨gs,0,none⟩) 32 32,.slice (some ⟨g,0,none⟩) 33 c] W (Ret fun e w'=>Below W.heap.size W w'∧OutP W q e w')
 tq:∀ (W:World) (g c gs:Nat),El 32 W (.slice (some ⟨gs,0,none⟩) 32 32) X→El 33 W (.slice (some ⟨g,0,none⟩) 33 c) q→Calls Tryz.prog 10 #[.slice (some ⟨gs,0,none⟩) 32 32,.slice (some ⟨g,0,none⟩) 33 c] W (Ret fun e w'=>Below W.heap.size W w'∧OutP W b e w')
 sg:∀ (W:World) (gs:Nat) (t1:Option Addr) (n1 c1:Nat),El 32 W (.slice (some ⟨gs,0,none⟩) 32 32) X→SP.PartOk W (.slice t1 n1 c1) sl.toList→Calls Tryz.prog 12 #[.slice (some ⟨gs,0,none⟩) 32 32,.slice t1 n1 c1] W (Ret fun e w'=>Below W.heap.size W w'∧∃ v,e=.tuple #[v,.int .i64 0]∧El 65 w' v F)
 vf:∀ (W:World) (g c:Nat) (t1:Option Addr) (n1 c1:Nat) (gF cF:Nat),El 33 W (.slice (some ⟨g,0,none⟩) 33 c) p→SP.PartOk W (.slice t1 n1 c1) sl.toList→El 65 W (.slice (some ⟨gF,0,none⟩) 65 cF) F→Calls Tryz.prog 13 #[.slice (some ⟨g,0,none⟩) 33 c,.slice t1 n1 c1,.slice (some ⟨gF,0,none⟩) 65 cF] W (Ret fun e w'=>Below W.heap.size W w'∧e=.bool true)
 ps:∀ (W:World) (g c gs:Nat),El 32 W (.slice (some ⟨gs,0,none⟩) 32 32) X→El 33 W (.slice (some ⟨g,0,none⟩) 33 c) q→Calls Tryz.prog 14 #[.slice (some ⟨gs,0,none⟩) 32 32,.slice (some ⟨g,0,none⟩) 33 c] W (Ret fun e w'=>Below W.heap.size W w'∧∃ v,e=.tuple #[v,.int .i64 0]∧El 64 w' v d)
 vs:∀ (W:World) (g0 c0 g1 c1 g2 c2 g3 c3:Nat),El 33 W (.slice (some ⟨g0,0,none⟩) 33 c0) p→El 33 W (.slice (some ⟨g1,0,none⟩) 33 c1) q→El 33 W (.slice (some ⟨g2,0,none⟩) 33 c2) b→El 64 W (.slice (some ⟨g3,0,none⟩) 64 c3) d→Calls Tryz.prog 15 #[.slice (some ⟨g0,0,none⟩) 33 c0,.slice (some ⟨g1,0,none⟩) 33 c1,.slice (some ⟨g2,0,none⟩) 33 c2,.slice (some ⟨g3,0,none⟩) 64 c3] W (Ret fun e w'=>Below W.heap.size W w'∧e=.bool true)
 cm:∀ (W:World) (g0 g1:Nat),El 32 W (.slice (some ⟨g0,0,none⟩) 32 32) X→El 32 W (.slice (some ⟨g1,0,none⟩) 32 32) Y→Calls Tryz.prog 16 #[.slice (some ⟨g0,0,none⟩) 32 32,.slice (some ⟨g1,0,none⟩) 32 32] W (Ret fun e w'=>Below W.heap.size W w'∧OutP W A e w')
 po:∀ (W:World) (g0 g1:Nat),El 32 W (.slice (some ⟨g0,0,none⟩) 32 32) X→El 32 W (.slice (some ⟨g1,0,none⟩) 32 32) Y→Calls Tryz.prog 5 #[.slice (some ⟨g0,0,none⟩) 32 32,.slice (some ⟨g1,0,none⟩) 32 32] W (Ret fun e w'=>Below W.heap.size W w'∧∃ v,e=.tuple #[v,.int .i64 0]∧El 97 w' v o)
 vo:∀ (W:World) (g0 c0 g1 c1:Nat),El 33 W (.slice (some ⟨g0,0,none⟩) 33 c0) A→El 97 W (.slice (some ⟨g1,0,none⟩) 97 c1) o→Calls Tryz.prog 7 #[.slice (some ⟨g0,0,none⟩) 33 c0,.slice (some ⟨g1,0,none⟩) 97 c1] W (Ret fun e w'=>Below W.heap.size W w'∧e=.bool true)
 zG:G.size=33
 zp:p.size=33
 zq:q.size=33
 zb:b.size=33
 zA:A.size=33
theorem outP_el {w W:World} {T:Bs} {e:Value} (h:OutP w T e W) (hT:T.size=33):∃ g c,e=.tuple #[.slice (some ⟨g,0,none⟩) 33 c,.int .i64 0]∧El 33 W (.slice (some ⟨g,0,none⟩) 33 c) T:=by
 obtain ⟨g,c,rfl,h1,-,h3,h4⟩:=h
 exact ⟨g,c,rfl,g,c,rfl,h1,hT,h3,h4⟩
theorem sc_of (C:Fl3 P) (O:Ord N) (hord:∀ r:EC.Pt P,EC.On r→EC.mul N r=none) (hpr:NT.IsP N) (hN1:1<N) (hbig:2^248<N) (ka ma:ByteArray) (sl:Bs):∃ Q G p q b F z1 d A o,Sc (scC ka) (scC ma) Q G p q b F z1 d A o sl:=by
 obtain ⟨lx,nx⟩:=scC_lt ka
 obtain ⟨ly,ny⟩:=scC_lt ma
 have hx:=scC_rq O hbig ka
 have hy:=scC_rq O hbig ma
 have zx:=scC_size ka
 have zy:=scC_size ma
 obtain ⟨x,ex⟩:∃ x,beV (scC ka).toList=x:=⟨_,rfl⟩
 obtain ⟨y,ey⟩:∃ y,beV (scC ma).toList=y:=⟨_,rfl⟩
 rw[ex] at lx nx hx
 rw[ey] at ly ny hy
 have lxN:x<N:=Nat.lt_trans lx hbig
 have lyN:y<N:=Nat.lt_trans ly hbig
 have nu:nuV (scC ka)=x:=(rq_nu hx).symm
 have hsec:sec N (scC ka)=true:=by
  unfold sec
  rw[hx,nu,decide_eq_false nx]
  rfl
 have hg:=gG_on C.toFld
 have hQ:EC.On (EC.mul y (gG P)):=EC.mul_on C.toFld.cur hg y
 have nG:gG P≠none:=fun h=>by unfold gG at h;cases h
 have nxG:EC.mul x (gG P)≠none:=mul_ne C.toFld hord hpr hg nG lxN nx
 have nyG:EC.mul y (gG P)≠none:=mul_ne C.toFld hord hpr hg nG lyN ny
 have nxQ:EC.mul x (EC.mul y (gG P))≠none:=mul_ne C.toFld hord hpr hQ nyG lxN nx
 obtain ⟨rq1,pq1⟩:=real_of C hQ nyG
 have hpm:pmT P N (scC ka) (wr (EC.mul y (gG P)))=(bx (pmC P N (scC ka) (wr (EC.mul y (gG P))))++bx (pmZ P N (scC ka) (wr (EC.mul y (gG P)))),0):=by
  unfold pmT
  rw[hsec,rq1]
  rfl
 have hsame:=same_right C O hord (scC ka) (wr (EC.mul y (gG P))) hsec rq1 (by rw[nu];exact nxG) (by rw[nu,pq1];exact nxQ)
 rw[nu,pq1,hpm] at hsame
 obtain ⟨kk,hkk⟩:∃ kk,chL N nonceL.data.toList [(scC ka).toList,sl.toList]=kk:=⟨_,rfl⟩
 obtain ⟨cs,hcs⟩:∃ c,asg N (wr (EC.mul x (gG P))).toList (wr (EC.mul kk (gG P))).toList sl.toList=c:=⟨_,rfl⟩
 obtain ⟨zs,hzs⟩:∃ z,sPl N kk (sTi N cs x)=z:=⟨_,rfl⟩
 have hsr:=sign_right C O hord x kk sl.toList nxG cs zs hcs hzs
 obtain ⟨kv,hkv⟩:∃ kk,chL N nonV.data.toList [(scC ka).toList,(scC ma).toList]=kk:=⟨_,rfl⟩
 obtain ⟨km,hkm⟩:∃ kk,chL N nonB.data.toList [(scC ka).toList,(scC ma).toList]=kk:=⟨_,rfl⟩
 obtain ⟨co,hco⟩:∃ c,aop N (wr (cmt P x y)).toList (wr (cmt P kv km)).toList=c:=⟨_,rfl⟩
 obtain ⟨zo,hzo⟩:∃ z,sPl N kv (sTi N co x)=z:=⟨_,rfl⟩
 obtain ⟨tt,hto⟩:∃ z,sPl N km (sTi N co y)=z:=⟨_,rfl⟩
 have hor:=open_right C.toFld hord x y kv km co zo tt hzo hto
 refine ⟨#[],wr (gG P),wr (EC.mul x (gG P)),wr (EC.mul y (gG P)),wr (EC.mul x (EC.mul y (gG P))),wr (EC.mul kk (gG P))++bx zs,#[],bx (pmC P N (scC ka) (wr (EC.mul y (gG P))))++bx (pmZ P N (scC ka) (wr (EC.mul y (gG P)))),wr (cmt P x y),wr (cmt P kv km)++(bx zo++bx tt),fun w=>Base_c C.toFld w,fun W g c gs h1 h2=>?_,fun W g c gs h1 h2=>?_,fun W g c gs h1 h2=>?_,fun W gs t1 n1 c1 h1 h2=>?_,fun W g c t1 n1 c1 gF cF h1 h2 h3=>?_,fun W g c gs h1 h2=>?_,fun W g0 c0 g1 c1 g2 c2 g3 c3 h0 h1 h2 h3=>?_,fun W g0 g1 h0 h1=>?_,fun W g0 g1 h0 h1=>?_,fun W g0 c0 g1 c1 h0 h1=>?_,wr_size _,wr_size _,wr_size _,wr_size _,wr_size _⟩
 ·obtain ⟨k1,c1,e1,-,-,q3,q4⟩:=h1
  injection e1 with e1 _ _;injection e1 with e1;injection e1 with e1 _ _;subst e1
  obtain ⟨k2,c2,e2,p1,-,p3,p4⟩:=h2
  injection e2 with e2 _ e2';injection e2 with e2;injection e2 with e2 _ _;subst e2 e2'
  have:=times_k C.toFld O.gap O.le zx (by rw[ex];exact lxN) q3 q4 (X:=gG P) ⟨p1,p3,hg,p4⟩
  rw[ex] at this
  exact this
 ·obtain ⟨k1,c1,e1,-,-,q3,q4⟩:=h1
  injection e1 with e1 _ _;injection e1 with e1;injection e1 with e1 _ _;subst e1
  obtain ⟨k2,c2,e2,p1,-,p3,p4⟩:=h2
  injection e2 with e2 _ e2';injection e2 with e2;injection e2 with e2 _ _;subst e2 e2'
  have:=times_k C.toFld O.gap O.le zy (by rw[ey];exact lyN) q3 q4 (X:=gG P) ⟨p1,p3,hg,p4⟩
  rw[ey] at this
  exact this
 ·obtain ⟨k1,c1,e1,-,-,q3,q4⟩:=h1
  injection e1 with e1 _ _;injection e1 with e1;injection e1 with e1 _ _;subst e1
  obtain ⟨k2,c2,e2,p1,-,p3,p4⟩:=h2
  injection e2 with e2 _ e2';injection e2 with e2;injection e2 with e2 _ _;subst e2 e2'
  have:=times_k C.toFld O.gap O.le zx (by rw[ex];exact lxN) q3 q4 (X:=EC.mul y (gG P)) ⟨p1,p3,hQ,p4⟩
  rw[ex] at this
  exact this
 ·refine (sign_y C.toFld O _ t1 32 32 n1 c1 (scC ka) sl W h1.arg (El.part h1 (by decide)) h2 x hx nx kk cs zs hkk hcs hzs).mono ?_
  rintro e w' ⟨u,rfl,hb,v,rfl,hA⟩
  refine ⟨_,rfl,hb,v,rfl,?_⟩
  have h0:w'.ownsRow W.heap.size 5 1 v 65 (((wr (EC.mul kk (gG P))).toList++(bx zs).toList).map encB):=hA
  rw[← Array.toList_append] at h0
  exact owns_el h0 (by decide) (by rw[Array.size_append,wr_size,bx_size])
 ·refine (verify_c C O hord _ t1 n1 c1 _ _ _ _ W h1.arg33 h2 (El.part h3 (by decide))).mono ?_
  rintro e w' ⟨u,rfl,hb,rfl⟩
  exact ⟨_,rfl,hb,by rw[hsr]⟩
 ·refine (psame_any C O _ _ 32 32 33 c (scC ka) _ W h1.arg (El.part h1 (by decide)) h2.arg33 (El.part h2 (by decide))).mono ?_
  rw[hpm]
  rintro e w' ⟨u,rfl,hb,v,rfl,hE⟩
  refine ⟨_,rfl,hb,v,rfl,?_⟩
  rcases hE with ⟨-,h0⟩|hE
  ·have:=congrArg Array.size h0
   rw[Array.size_append,bx_size,bx_size] at this
   cases this
  ·exact hE
 ·refine (vsame_c C O hord _ _ _ _ 33 33 33 64 c0 c1 c2 c3 _ _ _ _ W h0.arg33 h1.arg33 h2.arg33 (El.part h3 (by decide))).mono ?_
  rintro e w' ⟨u,rfl,hb,rfl⟩
  exact ⟨_,rfl,hb,by rw[hsame]⟩
 ·refine (Commit_c (N:=N) C.toFld O.gap O.le _ _ (scC ka) (scC ma) W h0.arg h1.arg).mono ?_
  rintro e W' ⟨u,rfl,hbl,hR⟩
  unfold ComR at hR
  rw[hx,hy] at hR
  exact ⟨_,rfl,hbl,hR⟩
 ·exact popen_y C.toFld O _ _ 32 32 32 32 (scC ka) (scC ma) W h0.arg (El.part h0 (by decide)) h1.arg (El.part h1 (by decide)) x y hx hy lxN lyN kv km co zo tt hkv hkm hco hzo hto
 ·refine (vopen_c C.toFld O hord _ _ 33 c0 97 c1 (cmt P x y) (cmt P kv km) (cmt_on C.toFld x y) (cmt_on C.toFld kv km) zo tt co (by rw[← hzo];unfold sPl;exact Nat.mod_lt _ O.pos) (by rw[← hto];unfold sPl;exact Nat.mod_lt _ O.pos) hN1 hco W h0.arg33 (El.part h1 (by decide))).mono ?_
  rintro e w' ⟨u,rfl,hb,rfl⟩
  exact ⟨_,rfl,hb,by rw[hor,decide_eq_true rfl]⟩
theorem comp_core (ka ma tx:ByteArray) (hs:tx.size≤4096) {Q G p q b F z1 d A o:Bs} (hS:Sc (scC ka) (scC ma) Q G p q b F z1 d A o tx.data) (w0:World) :
 Calls Tryz.prog 4 #[.string ka,.string ma,.string tx] w0 fun e w'=>e=.returned (.bool true)∧Below w0.heap.size w0 w':=by
 have S:=Hid.mk' hS
 have hs':¬ (4096:Int)<(tx.size:Int):=by omega
 have zX:Hid ((scC ka).size=32∧(scC ma).size=32):=⟨scC_size ka,scC_size ma⟩
 have h7:=Hid.mk' (scal5_c ka w0)
 have h8:=Hid.mk' (fun w=>scal5_c ma w)
 generalize scC ka=X at S zX h7
 generalize scC ma=Y at S zX h8
 clear hS
 go_enter Tryz.func4,Tryz.ntmps4
 go_wp2_with fail
 refine h7.out.mono ?_
 rintro e w1 ⟨u,rfl,hb,g7,rfl,-,hl,hH⟩
 have K:Hid (Kx w0 w1 [(32,.slice (some ⟨g7,0,none⟩) 32 32,X)]):=⟨hb,fun x hx=>by rw[show x=(32,.slice (some ⟨g7,0,none⟩) 32 32,X) by simpa using hx];exact ⟨g7,32,rfl,Nat.le_refl _,zX.out.1,hl,hH⟩⟩
 clear hb hl hH h7
 go_wp2_with fail
 refine (h8.out w1).mono ?_
 rintro e w2 ⟨u,rfl,hb,g8,rfl,-,hl,hH⟩
 have K:=Hid.mk' ((K.out.grow hb).cons (n:=32) (v:=.slice (some ⟨g8,0,none⟩) 32 32) (b:=Y) ⟨g8,32,rfl,Nat.le_refl _,zX.out.2,hl,hH⟩)
 clear hb hl hH h8
 go_wp2_with fail
 refine (S.out.gb w2).mono ?_
 rintro e w3 ⟨u,rfl,hb,gA,cgA,rfl,hc,-,hl,hH⟩
 have K:=Hid.mk' ((K.out.grow hb).cons (n:=33) (v:=.slice (some ⟨gA,0,none⟩) 33 cgA) (b:=G) ⟨gA,cgA,rfl,hc,S.out.zG,hl,hH⟩)
 clear hb hc hl hH
 go_wp2_with fail
 refine (S.out.tx w3 _ _ _ (K.out.at 2 rfl) (K.out.at 0 rfl)).mono ?_
 rintro e w4 ⟨u,rfl,hb,hO⟩
 obtain ⟨g9,cg9,rfl,hE⟩:=outP_el hO S.out.zp
 have K:=Hid.mk' ((K.out.grow hb).cons hE)
 clear hb hO hE
 go_wp2_with fail
 refine (S.out.gb w4).mono ?_
 rintro e w5 ⟨u,rfl,hb,gB,cgB,rfl,hc,-,hl,hH⟩
 have K:=Hid.mk' ((K.out.grow hb).cons (n:=33) (v:=.slice (some ⟨gB,0,none⟩) 33 cgB) (b:=G) ⟨gB,cgB,rfl,hc,S.out.zG,hl,hH⟩)
 clear hb hc hl hH
 go_wp2_with fail
 refine (S.out.ty w5 _ _ _ (K.out.at 3 rfl) (K.out.at 0 rfl)).mono ?_
 rintro e w6 ⟨u,rfl,hb,hO⟩
 obtain ⟨g11,cg11,rfl,hE⟩:=outP_el hO S.out.zq
 have K:=Hid.mk' ((K.out.grow hb).cons hE)
 clear hb hO hE
 obtain ⟨cap1,w7,hc1,hcc,hb,hH,hl⟩:=conv_of tx w6
 have T1:=Hid.mk' (part_of hs hcc hH)
 have K:=Hid.mk' (K.out.grow hb)
 clear hcc hb hH hl
 go_wp2_with fail
 refine (S.out.sg w7 _ _ _ _ (K.out.at 5 rfl) T1.out).mono ?_
 rintro e w8 ⟨u,rfl,hb,v,rfl,g13,cg13,rfl,h1,h2,h3,h4⟩
 have K:=Hid.mk' ((K.out.grow hb).cons (n:=65) (v:=.slice (some ⟨g13,0,none⟩) 65 cg13) ⟨g13,cg13,rfl,h1,h2,h3,h4⟩)
 clear hb h1 h2 h3 h4
 clear hc1 T1
 obtain ⟨cap2,w9,hc2,hcc,hb,hH,hl⟩:=conv_of tx w8
 have T2:=Hid.mk' (part_of hs hcc hH)
 have K:=Hid.mk' (K.out.grow hb)
 clear hcc hb hH hl
 go_wp2_with fail
 refine (S.out.vf w9 _ _ _ _ _ _ _ (K.out.at 3 rfl) T2.out (K.out.at 0 rfl)).mono ?_
 rintro e w10 ⟨u,rfl,hb,rfl⟩
 have K:=Hid.mk' (K.out.grow hb)
 clear hb
 clear hc2 T2
 go_wp2_with fail
 refine (S.out.tq w10 _ _ _ (K.out.at 6 rfl) (K.out.at 1 rfl)).mono ?_
 rintro e w11 ⟨u,rfl,hb,hO⟩
 obtain ⟨g16,cg16,rfl,hE⟩:=outP_el hO S.out.zb
 have K:=Hid.mk' ((K.out.grow hb).cons hE)
 clear hb hO hE
 go_wp2_with fail
 refine (S.out.ps w11 _ _ _ (K.out.at 7 rfl) (K.out.at 2 rfl)).mono ?_
 rintro e w12 ⟨u,rfl,hb,v,rfl,g17,cg17,rfl,h1,h2,h3,h4⟩
 have K:=Hid.mk' ((K.out.grow hb).cons (n:=64) (v:=.slice (some ⟨g17,0,none⟩) 64 cg17) ⟨g17,cg17,rfl,h1,h2,h3,h4⟩)
 clear hb h1 h2 h3 h4
 go_wp2_with fail
 refine (S.out.vs w12 _ _ _ _ _ _ _ _ (K.out.at 5 rfl) (K.out.at 3 rfl) (K.out.at 1 rfl) (K.out.at 0 rfl)).mono ?_
 rintro e w13 ⟨u,rfl,hb,rfl⟩
 have K:=Hid.mk' (K.out.grow hb)
 clear hb
 go_wp2_with fail
 refine (S.out.cm w13 _ _ (K.out.at 8 rfl) (K.out.at 7 rfl)).mono ?_
 rintro e w14 ⟨u,rfl,hb,hO⟩
 obtain ⟨g18,cg18,rfl,hE⟩:=outP_el hO S.out.zA
 have K:=Hid.mk' ((K.out.grow hb).cons hE)
 clear hb hO hE
 go_wp2_with fail
 refine (S.out.po w14 _ _ (K.out.at 9 rfl) (K.out.at 8 rfl)).mono ?_
 rintro e w15 ⟨u,rfl,hb,v,rfl,g19,cg19,rfl,h1,h2,h3,h4⟩
 have K:=Hid.mk' ((K.out.grow hb).cons (n:=97) (v:=.slice (some ⟨g19,0,none⟩) 97 cg19) ⟨g19,cg19,rfl,h1,h2,h3,h4⟩)
 clear hb h1 h2 h3 h4
 go_wp2_with fail
 refine (S.out.vo w15 _ _ _ _ (K.out.at 1 rfl) (K.out.at 0 rfl)).mono ?_
 rintro e w16 ⟨u,rfl,hb,rfl⟩
 have K:=Hid.mk' (K.out.grow hb)
 clear hb
 have KB:=Hid.mk' K.out.bl
 clear K S
 go_wp2
 go_ret
 exact ⟨rfl,KB.out⟩
theorem primeO:NT.IsP Go.Proofs.YtmfodnkinmnopaaGreat.p1:=by
 rw[p1_nL2]
 exact NT.pN
theorem comp_any (ka ma tx:ByteArray) (w0:World) :
 Calls Tryz.prog 4 #[.string ka,.string ma,.string tx] w0 fun e w'=>e=.returned (.bool true)∧Below w0.heap.size w0 w':=by
 by_cases hs:tx.size≤4096
 ·obtain ⟨P,hz,C⟩:=fl3
  obtain ⟨Q,G,p,q,b,F,z1,d,A,o,hS⟩:=sc_of C ordU (order2 C.toFld) primeO (by decide +kernel) (by decide +kernel) ka ma tx.data
  exact comp_core ka ma tx hs hS w0
 ·have hs':(4096:Int)<(tx.size:Int):=by omega
  go_enter Tryz.func4,Tryz.ntmps4
  go_wp2
  go_ret
  exact ⟨rfl,Below.refl _ _⟩
end
/-
  THE ROW OF 'SigmaComplete' round its walk; the frame by the guide's program (howto/shells), the world behind the call told by 'Below'.
-/
namespace sigmaComplete
open Go.ChangeShapes Go.WideShapes Go.ChangeAt Go.RowKit
open Go.ChangeMaps (open_string shut_string)
theorem own:ownKnob Tryz.prog.godebug=none:=by kernel_rfl
theorem lifted (os:Os) (started:os.Started) (H:Type) (enc:TypeId × Value→H) :
 ReturnsInHanded {} Tryz.checked os 4 .any (Rows.sigmaCompleteSpec.pre6 enc Tryz.prog Tryz.f4 Rows.sigmaCompleteRow.domain false) (Rows.sigmaCompleteSpec.post enc Tryz.prog Tryz.f4 false true false false):=by
 refine returnsInHanded_of_change (C:=Tryz.checked) own started (by kernel_rfl) Tryz.func4
  (ChangeSpec.witness6 (enc:=enc) (C:=Tryz.checked) false ⟨#[],#[.string ByteArray.empty,.string ByteArray.empty,.string ByteArray.empty],[]⟩ 8 (by kernel_rfl) (by kernel_rfl) (by kernel_rfl) (by kernel_rfl)) ?_
 intro W base args ds gs before hval0 hW hcnd _
 have hval:∀ (j:Nat) t v,Tryz.f4.params[j]? = some t→args[j]? = some v→Value.okWide Tryz.prog W .any base t v:=hval0
 have hW':=hW
 obtain ⟨p,q,hA0,hV,rfl,hfz,hnd⟩:=hW
 have hA:DataW.TrodAll enc Tryz.prog W 0 (fun _=>true) true Tryz.f4.params.toList args.toList ds p:=hA0
 rw[Tryz.params4] at hA hval
 obtain ⟨v0,vs0,d0,ds0,p0,q0,hargs,rfl,rfl,h0,r0⟩:=trodAll_cons hA
 obtain ⟨v1,vs1,d1,ds1,p1,q1,rfl,rfl,rfl,h1,r1⟩:=trodAll_cons r0
 obtain ⟨v2,vs2,d2,ds2,p2,q2,rfl,rfl,rfl,h2,r2⟩:=trodAll_cons r1
 obtain ⟨rfl,rfl,rfl⟩:=trodAll_nil r2
 obtain rfl:args=#[v0,v1,v2]:=by cases args;simp_all
 obtain ⟨rfl,rfl⟩:=trodVars_none hV
 obtain ⟨a0,rfl,rfl,rfl,w0⟩:=open_string Tryz.underlying9 (hval 0 9 v0 rfl rfl) h0
 obtain ⟨a1,rfl,rfl,rfl,w1⟩:=open_string Tryz.underlying9 (hval 1 9 v1 rfl rfl) h1
 obtain ⟨a2,rfl,rfl,rfl,w2⟩:=open_string Tryz.underlying9 (hval 2 9 v2 rfl rfl) h2
 clear hA0 hval0
 refine (comp_any a0 a1 a2 W).mono fun e W' ⟨he,bel⟩=>?_
 subst he
 exact ⟨_,rfl,_,_,_,[],_,[],hW',(trodAll_cons_mk (shut_bool Tryz.underlying4 _) trodAll_mk0),(trodAll_cons_mk (shut_string Tryz.underlying9 w0) (trodAll_cons_mk (shut_string Tryz.underlying9 w1) (trodAll_cons_mk (shut_string Tryz.underlying9 w2) trodAll_mk0))),rfl,bel.frame _,fun h=>by cases h⟩
theorem over:Rows.sigmaCompleteRow.holds Tryz.pinned (OpenSpec.ofChange Rows.sigmaCompleteSpec):=
 OpenClaim.holds_of_wide 4 Tryz.f4 rfl rfl rfl rfl rfl rfl rfl ⟨rfl,rfl,rfl,rfl,rfl⟩ rfl rfl rfl rfl rfl (by kernel_rfl) Tryz.func4 (by kernel_rfl)
  (of_decide_eq_true (by kernel_rfl)) (by unfold Func.isWrapper;first|(rw[if_pos (by decide +kernel)];kernel_rfl)|(rw[if_neg (by decide +kernel)];exact ⟨rfl,rfl⟩))
  (fun os started H enc _=>lifted os started H enc)
theorem proved:Rows.SigmaCompleteSaid:=
 over
end sigmaComplete
section
theorem sigmaComplete_holds:Rows.SigmaCompleteSaid:=sigmaComplete.proved
#print axioms sigmaComplete_holds
end
end Go.Proofs.YtmfodnkinmnopaaGreat
