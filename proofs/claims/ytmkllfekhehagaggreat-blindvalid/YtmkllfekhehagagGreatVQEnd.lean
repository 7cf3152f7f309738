import Derived.Deep.AppendSrc
import Derived.Lib.ConvBytes
import Derived.Deep.LoopGhost
import Derived.Lib.SlBytesConst
import Derived.ChangeOld
import Derived.Below
import Derived.WalkKit
import Derived.ProofKit
import Derived.OpenShut
import Derived.ShutString
import Derived.Test.YtmkllfekhehagagGreatVQ7
set_option linter.unusedVariables false
set_option linter.unusedSimpArgs false
namespace Go.Proofs.YtmkllfekhehagagGreat
open Go.RowKit Go.Sort Go.Deep
variable {P:Nat} [NeZero P] {N:Nat}
theorem arrCPo (g o cg:Nat) (w:World):(Instr.arrayAt 50 (.slice (some ⟨g,o,none⟩) 33 cg)).run Tryz.prog w=.ok (.pointer (some ⟨g,o,none⟩)) w:=by kernel_rfl
theorem rd_33 {bs:Bs} {p:Fin P × Fin P} (h:rd P bs=some p):bs.size=33:=by
 unfold rd at h
 split at h
 · assumption
 · cases h
theorem holds_rng {W:World} {g o:Nat} {b:Bs} (h:Holds encB W g o b):W.rangeAt g o (bl33 b):=fun j u hu=>by
 unfold bl33 at hu
 rw [List.getElem?_map] at hu
 obtain ⟨x,hx,rfl⟩:=Option.map_eq_some_iff.1 hu
 have hj:j < b.size:=by have:=(List.getElem?_eq_some_iff.1 hx).1;simpa using this
 rw [(h j hj).1,getElem!_pos b j hj]
 rw [Array.getElem?_toList,Array.getElem?_eq_getElem hj] at hx
 rw [Option.some.inj hx]
set_option maxHeartbeats 1000000 in
set_option maxRecDepth 100000 in
theorem cRead_y (C:Fld P) (v:Value) (bs:Bs) (p:Fin P × Fin P) (w:World) (hv:Arg33 w v bs) (hr:rd P bs=some p):Calls Tryz.prog 41 #[v] w (Ret fun e w'=>Below w.heap.size w w'∧e=.tuple #[pvl bs,.bool true]):=by
 have hs:=rd_33 hr
 have HG:Hid (∀ W,Below w.heap.size w W→Calls Tryz.prog 86 #[v] W (Ret fun e w'=>Below W.heap.size W w'∧e=.bool true)):=fun W hb=>by
  have h:=gPoint_c C v bs W (hv.below hb)
  rw [hr] at h
  exact h
 obtain ⟨q,n,cap,rfl,e1,e2⟩:=hv
 rw [hs] at e1
 subst e1
 obtain ⟨g,o,rfl,-,hg,hH⟩:=e2 rfl
 have HH:Hid (w.rangeAt g o (bl33 bs)∧g < w.heap.size):=⟨holds_rng hH,hg⟩
 obtain ⟨w1,hw1⟩:∃ w1,Hid (w.alloc (.cells z33.toArray 50)=w1):=⟨_,rfl⟩
 have K1:Hid (Row w1 w.heap.size z33∧Below w.heap.size w w1):=by rw [← hw1.out];exact ⟨row_new w _ _,below1 w _⟩
 obtain ⟨d,hd1,hd2⟩:=Option.map_eq_some_iff.1 uCP
 have HD:Hid (Tryz.prog.underlying 50=some d∧d.isRow=true):=⟨hd1,hd2⟩
 have HS:=Hid.mk' hs
 have harr:=arrCPo g o cap
 clear hd1 hd2 C hr hs hH hg e2
 go_enter Tryz.func41,Tryz.ntmps41
 go_wp2_with (first | (refine wpList_op (v:=.pointer (some ⟨w.heap.size,0,none⟩)) (w':=w1) rfl (.alloc 50) rfl ?_ ?_;(rw [← hw1.out];kernel_rfl)) | fail)
 refine (HG.out w1 K1.out.2).mono ?_
 rintro e w2 ⟨vv,rfl,hb2,rfl⟩
 have K2:Hid (Row w2 w.heap.size z33∧Below w.heap.size w w2∧w2.rangeAt g o (bl33 bs)):=⟨K1.out.1.below hb2,K1.out.2.trans (hb2.mono K1.out.2.size),RG.range_below HH.out.1 (K1.out.2.trans (hb2.mono K1.out.2.size)) HH.out.2⟩
 clear hb2 K1 hw1 HG
 obtain ⟨w3,hw3⟩:∃ w3,Hid (w2.setCells w.heap.size 0 (bl33 bs)=w3):=⟨_,rfl⟩
 have hlen:(bl33 bs).length=33:=bl33_length HS.out
 have K3:Hid (Row w3 w.heap.size (bl33 bs)∧Below w.heap.size w w3):=by rw [← hw3.out];exact ⟨K2.out.1.put (by rw [hlen];rfl),RG.below_setCells (Nat.le_refl _) _ _ _ K2.out.2.1⟩
 obtain ⟨vt,hvt⟩:∃ vt,Hid (Value.agg (bl33 bs).toArray=vt):=⟨_,rfl⟩
 have HI:Hid ((Tryz.prog.info? 50).map (·.size)=some (bl33 bs).length∧w2.there w.heap.size 0 (bl33 bs).toArray.size∧(Tryz.prog.info? 50).map (·.size)=some (bl33 bs).toArray.size):=by
  have e:(bl33 bs).toArray.size=33:=by rw [List.size_toArray];exact hlen
  refine ⟨by rw [hlen];exact infoCP,by rw [e];exact K2.out.1.2.2,by rw [e];exact infoCP⟩
 clear hlen
 go_wp2_with (first | (refine wpList_load_mid rfl 50 _ rfl g o ?_ (bl33 bs) d ?_ ?_ ?_ ?_ ?_;rfl;exact K2.out.2.2;exact HD.out.1;exact HD.out.2;exact HI.out.1;rw [hvt.out]) | (refine wpList_store_mid rfl 50 _ _ rfl w.heap.size 0 (bl33 bs).toArray ?_ ?_ ?_ ?_ ?_ ?_;rfl;exact hvt.out.symm;exact HI.out.2.1;exact HI.out.2.2;exact bl33_one bs;rw [show (bl33 bs).toArray.toList=bl33 bs from rfl,hw3.out]) | fail)
 refine bodyPost_ret (results_ct 2 3 50 rfl K3.out.1 rfl rfl uCP HI.out.1) rfl ?_
 exact ⟨_,rfl,K3.out.2,rfl⟩
set_option maxHeartbeats 1000000 in
set_option maxRecDepth 100000 in
theorem cRead_n (C:Fld P) (v:Value) (bs:Bs) (w:World) (hv:Arg33 w v bs) (hr:rd P bs=none):Calls Tryz.prog 41 #[v] w (Ret fun e w'=>Below w.heap.size w w'∧e=.tuple #[.agg z33.toArray,.bool false]):=by
 have HG:Hid (∀ W,Below w.heap.size w W→Calls Tryz.prog 86 #[v] W (Ret fun e w'=>Below W.heap.size W w'∧e=.bool false)):=fun W hb=>by
  have h:=gPoint_c C v bs W (hv.below hb)
  rw [hr] at h
  exact h
 clear hv hr C
 obtain ⟨w1,hw1⟩:∃ w1,Hid (w.alloc (.cells z33.toArray 50)=w1):=⟨_,rfl⟩
 have K1:Hid (Row w1 w.heap.size z33∧Below w.heap.size w w1):=by rw [← hw1.out];exact ⟨row_new w _ _,below1 w _⟩
 obtain ⟨vt,hvt⟩:∃ vt,Hid (Value.agg z33.toArray=vt):=⟨_,rfl⟩
 have HO:Hid (z33.toArray.all (·.oneCell')=true):=by show _=_;decide +kernel
 go_enter Tryz.func41,Tryz.ntmps41
 go_wp2_with (first | (refine wpList_op (v:=.pointer (some ⟨w.heap.size,0,none⟩)) (w':=w1) rfl (.alloc 50) rfl ?_ ?_;(rw [← hw1.out];kernel_rfl)) | fail)
 refine (HG.out w1 K1.out.2).mono ?_
 rintro e w2 ⟨vv,rfl,hb2,rfl⟩
 have K2:Hid (Row w2 w.heap.size z33∧Below w.heap.size w w2):=⟨K1.out.1.below hb2,K1.out.2.trans (hb2.mono K1.out.2.size)⟩
 clear hb2 K1 hw1 HG
 obtain ⟨w3,hw3⟩:∃ w3,Hid (w2.setCells w.heap.size 0 z33=w3):=⟨_,rfl⟩
 have K3:Hid (Row w3 w.heap.size z33∧Below w.heap.size w w3):=by rw [← hw3.out];exact ⟨K2.out.1.put rfl,RG.below_setCells (Nat.le_refl _) _ _ _ K2.out.2⟩
 have HB:=Hid.mk' (bldCP w2)
 rw [hvt.out] at HB
 go_wp2_with (first | (refine wpList_bld (v:=vt) (w':=w2) rfl 50 _ rfl #[] ?_ ?_ ?_;kernel_rfl;exact HB.out) | (refine wpList_store_mid rfl 50 _ _ rfl w.heap.size 0 z33.toArray ?_ ?_ ?_ ?_ ?_ ?_;rfl;exact hvt.out.symm;exact K2.out.1.2.2;exact infoCP;exact HO.out;rw [show z33.toArray.toList=z33 from rfl,hw3.out]) | fail)
 refine bodyPost_ret (results_ct 2 3 50 rfl K3.out.1 rfl rfl uCP infoCP) rfl ?_
 exact ⟨_,rfl,K3.out.2,rfl⟩
end Go.Proofs.YtmkllfekhehagagGreat
namespace Go.Proofs.YtmkllfekhehagagGreat
open Go.RowKit Go.Sort Go.Deep
variable {P:Nat} [NeZero P] {N:Nat}
def sgF (k:Nat):Value:=.func (.func 53) #[] #[.pointer (some ⟨k,0,none⟩)]
set_option maxHeartbeats 1000000 in
set_option maxRecDepth 100000 in
theorem signer_y (O:Ord N) (v:Value) (kb:Bs) (x:Nat) (w:World) (hA:Arg w v kb) (hx:rq N kb=some x) (hx0:x≠0) :
 Calls Tryz.prog 22 #[v] w (Ret fun e w'=>Below w.heap.size w w'∧∃ k,e=.tuple #[sgF k,.bool true]∧w.heap.size≤k∧Row w' k (wn x)):=by
 have hR:=rsecret_c O v kb w hA
 rw [hx] at hR
 have e1:(!decide (x=0))=true:=by simp [hx0]
 rw [show (some x).getD 0=x from rfl,show ((some x).isSome && !decide (x=0))=true by rw [e1];rfl] at hR
 have HR:=Hid.mk' hR
 obtain ⟨vx,hvx⟩:∃ v,Hid (nv x=v):=⟨_,rfl⟩
 rw [hvx.out] at HR
 clear O hA hx hx0 hR e1
 go_enter Tryz.func22,Tryz.ntmps22
 go_wp2_with fail
 refine HR.out.mono ?_
 rintro e w1 ⟨vv,rfl,hb1,rfl⟩
 obtain ⟨k6,hk6⟩:∃ k6,Hid (w1.heap.size=k6):=⟨_,rfl⟩
 obtain ⟨w2,hw2⟩:∃ w2,Hid (w1.alloc (.cells #[.int .u64 0,.int .u64 0,.int .u64 0,.int .u64 0] 74)=w2):=⟨_,rfl⟩
 obtain ⟨w3,hw3⟩:∃ w3,Hid (w2.setCells k6 0 (wn x)=w3):=⟨_,rfl⟩
 have F2:Hid (Row w2 k6 [.int .u64 0,.int .u64 0,.int .u64 0,.int .u64 0]∧Below w.heap.size w w2∧w.heap.size≤k6):=by
  rw [← hw2.out,← hk6.out]
  exact ⟨row_new w1 _ _,hb1.alloc hb1.size _,hb1.size⟩
 have K3:Hid (Below w.heap.size w w3∧Row w3 k6 (wn x)):=by
  rw [← hw3.out]
  exact ⟨RG.below_setCells F2.out.2.2 _ _ _ F2.out.2.1,F2.out.1.put rfl⟩
 clear hb1 HR
 go_wp2_with (first | (refine wpList_op (v:=.pointer (some ⟨k6,0,none⟩)) (w':=w2) rfl (.alloc 74) rfl ?_ ?_;(rw [← hw2.out,← hk6.out];kernel_rfl)) | (refine wpList_store_mid rfl 74 _ _ rfl k6 0 (wn x).toArray ?_ ?_ ?_ ?_ ?_ ?_;rfl;exact hvx.out.symm;exact F2.out.1.2.2;exact i40;exact wn_one x;rw [show (wn x).toArray.toList=wn x from rfl,hw3.out]) | fail)
 go_ret2
 exact ⟨_,rfl,K3.out.1,k6,rfl,F2.out.2.2,K3.out.2⟩
set_option maxHeartbeats 1000000 in
set_option maxRecDepth 100000 in
theorem signer_n (O:Ord N) (v:Value) (kb:Bs) (w:World) (hA:Arg w v kb) (hx:((rq N kb).isSome && !decide ((rq N kb).getD 0=0))=false) :
 Calls Tryz.prog 22 #[v] w (Ret fun e w'=>Below w.heap.size w w'∧e=.tuple #[.nilFunc,.bool false]):=by
 have hR:=rsecret_c O v kb w hA
 rw [hx] at hR
 have HR:=Hid.mk' hR
 obtain ⟨x,hxe⟩:∃ x,Hid ((rq N kb).getD 0=x):=⟨_,rfl⟩
 rw [hxe.out] at HR
 obtain ⟨vx,hvx⟩:∃ v,Hid (nv x=v):=⟨_,rfl⟩
 rw [hvx.out] at HR
 clear O hA hR hx hxe
 go_enter Tryz.func22,Tryz.ntmps22
 go_wp2_with fail
 refine HR.out.mono ?_
 rintro e w1 ⟨vv,rfl,hb1,rfl⟩
 obtain ⟨k6,hk6⟩:∃ k6,Hid (w1.heap.size=k6):=⟨_,rfl⟩
 obtain ⟨w2,hw2⟩:∃ w2,Hid (w1.alloc (.cells #[.int .u64 0,.int .u64 0,.int .u64 0,.int .u64 0] 74)=w2):=⟨_,rfl⟩
 obtain ⟨w3,hw3⟩:∃ w3,Hid (w2.setCells k6 0 (wn x)=w3):=⟨_,rfl⟩
 have F2:Hid (Row w2 k6 [.int .u64 0,.int .u64 0,.int .u64 0,.int .u64 0]∧Below w.heap.size w w2∧w.heap.size≤k6):=by
  rw [← hw2.out,← hk6.out]
  exact ⟨row_new w1 _ _,hb1.alloc hb1.size _,hb1.size⟩
 have K3:Hid (Below w.heap.size w w3):=by
  rw [← hw3.out]
  exact RG.below_setCells F2.out.2.2 _ _ _ F2.out.2.1
 clear hb1 HR
 go_wp2_with (first | (refine wpList_op (v:=.pointer (some ⟨k6,0,none⟩)) (w':=w2) rfl (.alloc 74) rfl ?_ ?_;(rw [← hw2.out,← hk6.out];kernel_rfl)) | (refine wpList_store_mid rfl 74 _ _ rfl k6 0 (wn x).toArray ?_ ?_ ?_ ?_ ?_ ?_;rfl;exact hvx.out.symm;exact F2.out.1.2.2;exact i40;exact wn_one x;rw [show (wn x).toArray.toList=wn x from rfl,hw3.out]) | fail)
 go_ret2
 exact ⟨_,rfl,K3.out,rfl⟩
set_option maxHeartbeats 1000000 in
set_option maxRecDepth 100000 in
theorem sign1_c (C:Fld P) (O:Ord N) {n:Nat} (hn:n < N) {X:EC.Pt P} (hX:EC.On X) (k:Nat) (w:World) (hk:Row w k (wn n)) :
 Calls Tryz.prog 53 #[pvl (wr X),.pointer (some ⟨k,0,none⟩)] w (Ret fun e w'=>Below w.heap.size w w'∧e=pvl (wr (EC.mul n X))):=by
 have HC:Hid (Fld P∧Ord N∧n < N∧EC.On X):=⟨C,O,hn,hX⟩
 obtain ⟨a,hae⟩:∃ a,Hid (wr X=a):=⟨_,rfl⟩
 have ha:a.size=33:=by rw [← hae.out];exact wr_size X
 rw [hae.out]
 clear C O hn hX
 have B1:=Hid.mk' (boxCP ha w)
 obtain ⟨w1,hw1⟩:∃ w1,Hid (w.alloc (.cells (bl33 a).toArray 50)=w1):=⟨_,rfl⟩
 rw [hw1.out] at B1
 have e1:w1.heap.size=w.heap.size+1:=by rw [← hw1.out,World.size_alloc]
 obtain ⟨w2,hw2⟩:∃ w2,Hid (w1.alloc (.cells z33.toArray 50)=w2):=⟨_,rfl⟩
 have K:Hid (Row w2 w.heap.size (bl33 a)∧Row w2 (w.heap.size+1) z33∧Row w2 k (wn n)∧Below w.heap.size w w2):=by
  have q1:Row w1 w.heap.size (bl33 a):=by rw [← hw1.out];exact row_new w _ _
  have q2:Row w2 (w.heap.size+1) z33:=by rw [← hw2.out,← e1];exact row_new w1 _ _
  have b1:Below w.heap.size w w1:=by rw [← hw1.out];exact below1 w _
  have b2:Below w1.heap.size w1 w2:=by rw [← hw2.out];exact below1 w1 _
  exact ⟨q1.below b2,q2,(hk.below b1).below b2,b1.trans (b2.mono (by omega))⟩
 have HE:Hid (w1.heap.size=w.heap.size+1):=e1
 have HL:Hid ((Tryz.prog.info? 50).map (·.size)=some (bl33 a).length):=by show _=_;rw [bl33_length ha];exact infoCP
 obtain ⟨d,hd1,hd2⟩:=Option.map_eq_some_iff.1 uCP
 obtain ⟨d',hd3,hd4⟩:=Option.map_eq_some_iff.1 u40
 have HD:Hid ((Tryz.prog.underlying 50=some d∧d.isRow=true)∧Tryz.prog.underlying 74=some d'∧d'.isRow=true):=⟨⟨hd1,hd2⟩,hd3,hd4⟩
 clear hd1 hd2 hd3 hd4 hw1 e1 hk
 obtain ⟨va,hva⟩:∃ v,Hid (pvl a=v):=⟨_,rfl⟩
 obtain ⟨vn,hvn⟩:∃ v,Hid (nv n=v):=⟨_,rfl⟩
 have B1':Hid ((Instr.box 50 va).run Tryz.prog w=.ok (.pointer (some ⟨w.heap.size,0,none⟩)) w1):=by rw [← hva.out];exact B1
 rw [hva.out]
 clear B1
 go_enter Tryz.func53,Tryz.ntmps53
 go_wp2_with (first | (refine wpList_box (u:=va) (v:=.pointer (some ⟨w.heap.size,0,none⟩)) (w':=w1) rfl 50 (.tmp 0) rfl ?_ ?_ ?_;rfl;exact B1'.out) | (refine wpList_op (v:=.pointer (some ⟨w.heap.size+1,0,none⟩)) (w':=w2) rfl (.alloc 50) rfl ?_ ?_;(rw [← hw2.out,← HE.out];kernel_rfl)) | (refine wpList_load_mid rfl 74 _ rfl k 0 ?_ (wn n) d' ?_ ?_ ?_ ?_ ?_;rfl;exact K.out.2.2.1.2.1;exact HD.out.2.1;exact HD.out.2.2;exact i40;rw [show Value.agg (wn n).toArray=vn from hvn.out]) | (refine wpList_load_mid rfl 50 _ rfl w.heap.size 0 ?_ (bl33 a) d ?_ ?_ ?_ ?_ ?_;rfl;exact K.out.1.2.1;exact HD.out.1.1;exact HD.out.1.2;exact HL.out;rw [show Value.agg (bl33 a).toArray=va from hva.out]) | fail)
 have HT:=ptTimes_c a ha n w2
 rw [hva.out,hvn.out] at HT
 refine HT.mono ?_
 rintro e w4 ⟨vv,rfl,hb4,k4,rfl,-,hR4⟩
 have K4:Hid (Row w4 (w.heap.size+1) z33∧Below w.heap.size w w4∧Row w4 k4 (wn n++bl33 a)):=⟨K.out.2.1.below hb4,K.out.2.2.2.trans (hb4.mono K.out.2.2.2.size),hR4⟩
 clear hb4 hR4 K HT B1' hw2 HE
 go_wp2_with fail
 refine (one_point HC.out.1 HC.out.2.1 HC.out.2.2.1 HC.out.2.2.2 w4 (by rw [hae.out];exact K4.out.2.2)).mono ?_
 rintro e w5 ⟨vv,rfl,hb5,rfl⟩
 obtain ⟨T,hT⟩:∃ T,Hid (wr (EC.mul n X)=T):=⟨_,rfl⟩
 have hTs:T.size=33:=by rw [← hT.out];exact wr_size _
 rw [hT.out]
 have K5:Hid (Row w5 (w.heap.size+1) z33∧Below w.heap.size w w5):=⟨K4.out.1.below hb5,K4.out.2.1.trans (hb5.mono K4.out.2.1.size)⟩
 clear hb5 K4
 obtain ⟨w6,hw6⟩:∃ w6,Hid (w5.setCells (w.heap.size+1) 0 (bl33 T)=w6):=⟨_,rfl⟩
 have hlen:(bl33 T).length=33:=bl33_length hTs
 have K6:Hid (Row w6 (w.heap.size+1) (bl33 T)∧Below w.heap.size w w6):=by rw [← hw6.out];exact ⟨K5.out.1.put (by rw [hlen];rfl),RG.below_setCells (by omega) _ _ _ K5.out.2⟩
 obtain ⟨vt,hvt⟩:∃ vt,Hid (pvl T=vt):=⟨_,rfl⟩
 have HI:Hid ((Tryz.prog.info? 50).map (·.size)=some (bl33 T).length∧w5.there (w.heap.size+1) 0 (bl33 T).toArray.size∧(Tryz.prog.info? 50).map (·.size)=some (bl33 T).toArray.size):=by
  have e:(bl33 T).toArray.size=33:=by rw [List.size_toArray];exact hlen
  refine ⟨by rw [hlen];exact infoCP,by rw [e];exact K5.out.1.2.2,by rw [e];exact infoCP⟩
 clear hlen
 rw [hvt.out]
 go_wp2_with (first | (refine wpList_store_mid rfl 50 _ _ rfl (w.heap.size+1) 0 (bl33 T).toArray ?_ ?_ ?_ ?_ ?_ ?_;rfl;exact hvt.out.symm;exact HI.out.2.1;exact HI.out.2.2;exact bl33_one T;rw [show (bl33 T).toArray.toList=bl33 T from rfl,hw6.out]) | fail)
 refine bodyPost_ret (results_cell 3 50 rfl K6.out.1 rfl uCP HI.out.1) rfl ?_
 exact ⟨_,rfl,K6.out.2,by rw [hT.out];rfl⟩
end Go.Proofs.YtmkllfekhehagagGreat
namespace Go.Proofs.YtmkllfekhehagagGreat
open Go.RowKit Go.Sort Go.Deep
variable {P:Nat} [NeZero P] {N:Nat}
end Go.Proofs.YtmkllfekhehagagGreat
namespace Go.Proofs.YtmkllfekhehagagGreat
open Go.RowKit Go.Sort Go.Deep
variable {P:Nat} [NeZero P] {N:Nat}
section
variable (w:World) (k9 k11 kk x:Nat) (k s g:Bool) (fv:Value) (c9 c11:List Value) (T:Bs) (eqb:Bool)
def Rv:Nat→Value→World→Prop
 | 0,v,_=>v=.bool k
 | 1,v,_=>v=.bool k
 | 2,v,_=>v=bif k then .bool s else undef
 | 3,v,_=>v=.bool (k && s)
 | 4,v,_=>v=.bool (k && s)
 | 5,v,_=>v=bif (k && s) then .bool g else undef
 | 6,v,_=>v=.bool (k && s && g)
 | 7,v,_=>v=.bool (k && s && g)
 | 8,v,_=>v=bif (k && s && g) then .agg c11.toArray else undef
 | 9,v,_=>v=bif (k && s && g) then fv else undef
 | 10,v,_=>v=bif (k && s && g) then .agg c9.toArray else undef
 | 11,v,_=>v=bif (k && s && g) then pvl T else undef
 | 12,v,_=>v=bif (k && s && g) then .bool eqb else undef
 | 13,v,_=>v=.bool (k && s && g && eqb)
 | 14,v,_=>v=.bool (k && s && g && eqb)
 | _,_,_=>True
theorem Rv_any {i:Nat} {v:Value} {W W':World} (h:Rv k s g fv c9 c11 T eqb i v W):Rv k s g fv c9 c11 T eqb i v W':=by
 match i,h with
 | 0,h=>exact h
 | 1,h=>exact h
 | 2,h=>exact h
 | 3,h=>exact h
 | 4,h=>exact h
 | 5,h=>exact h
 | 6,h=>exact h
 | 7,h=>exact h
 | 8,h=>exact h
 | 9,h=>exact h
 | 10,h=>exact h
 | 11,h=>exact h
 | 12,h=>exact h
 | 13,h=>exact h
 | 14,h=>exact h
 | _+15,_=>trivial
def Gv:RG.Gw:=⟨Rv k s g fv c9 c11 T eqb,fun W=>Row W k9 c9∧Row W k11 c11∧(k=true→Row W kk (wn x))∧Below w.heap.size w W,fun _ _ _ _ _ h=>Rv_any k s g fv c9 c11 T eqb h,fun _ _ hb h=>⟨h.1.below hb,h.2.1.below hb,fun e=>(h.2.2.1 e).below hb,h.2.2.2.trans (hb.mono h.2.2.2.size)⟩⟩
end
set_option maxHeartbeats 4000000 in
set_option maxRecDepth 100000 in
theorem Valid_g (v0 v1 v2:Value) (x:Nat) (k s g:Bool) (c9 c11:List Value) (h9:c9.length=33) (h11:c11.length=33) (o9:∀ u∈c9,u.oneCell'=true) (o11:∀ u∈c11,u.oneCell'=true) (T:Bs) (eqb:Bool) (w:World)
 (hS:Calls Tryz.prog 22 #[v0] w (Ret fun e w'=>Below w.heap.size w w'∧∃ fv kk,e=.tuple #[fv,.bool k]∧(k=true→fv=sgF kk∧Row w' kk (wn x))))
 (hL:∀ W,Below w.heap.size w W→Calls Tryz.prog 47 #[v1] W (Ret fun e w'=>Below W.heap.size W w'∧e=.tuple #[.agg c9.toArray,.bool s]))
 (hR:∀ W,Below w.heap.size w W→Calls Tryz.prog 41 #[v2] W (Ret fun e w'=>Below W.heap.size W w'∧e=.tuple #[.agg c11.toArray,.bool g]))
 (hT:(k && s && g)=true→(∀ W kk,Row W kk (wn x)→Calls Tryz.prog 53 #[.agg c9.toArray,.pointer (some ⟨kk,0,none⟩)] W (Ret fun e w'=>Below W.heap.size W w'∧e=pvl T))∧∀ W,(eqGuard .eql 50 (.tmp 36) (.tmp 39) (.agg c11.toArray) (pvl T)).run Tryz.prog W=.ok () W∧(binOp .eql 50 (.agg c11.toArray) (pvl T)).run Tryz.prog W=.ok (.bool eqb) W) :
 Calls Tryz.prog 16 #[v0,v1,v2] w (Ret fun e w'=>Below w.heap.size w w'∧e=.bool (k && s && g && eqb)):=by
 have HS:=Hid.mk' hS
 have HLf:=Hid.mk' hL
 have HRd:=Hid.mk' hR
 have HT:=Hid.mk' hT
 have HL:Hid (c9.length=33∧c11.length=33):=⟨h9,h11⟩
 have HA9:Hid (c9.toArray.all (·.oneCell')=true):=by show _=_;rw [Array.all_eq_true'];intro u hu;exact o9 u (List.mem_toArray.1 hu)
 have HA11:Hid (c11.toArray.all (·.oneCell')=true):=by show _=_;rw [Array.all_eq_true'];intro u hu;exact o11 u (List.mem_toArray.1 hu)
 have HI:Hid ((Tryz.prog.info? 50).map (·.size)=some c9.toArray.size∧(Tryz.prog.info? 50).map (·.size)=some c11.toArray.size):=by
  rw [List.size_toArray,List.size_toArray,h9,h11]
  exact ⟨infoCP,infoCP⟩
 obtain ⟨va9,hva9⟩:∃ v,Hid (Value.agg c9.toArray=v):=⟨_,rfl⟩
 obtain ⟨va11,hva11⟩:∃ v,Hid (Value.agg c11.toArray=v):=⟨_,rfl⟩
 rw [hva9.out] at HLf
 rw [hva11.out] at HRd
 clear hS hL hR hT h9 h11 o9 o11
 go_enter Tryz.func16,Tryz.ntmps16
 go_wp2_with fail
 refine HS.out.mono ?_
 rintro e w1 ⟨vv,rfl,hb1,fv,kk,rfl,hfv⟩
 have K1:Hid (Below w.heap.size w w1∧(k=true→fv=sgF kk∧Row w1 kk (wn x))):=⟨hb1,hfv⟩
 clear hb1 hfv HS
 go_wp2_with fail
 refine (HLf.out w1 K1.out.1).mono ?_
 rintro e w2 ⟨vv,rfl,hb2,rfl⟩
 obtain ⟨k9,hk9⟩:∃ k9,Hid (w2.heap.size=k9):=⟨_,rfl⟩
 obtain ⟨w3,hw3⟩:∃ w3,Hid (w2.alloc (.cells z33.toArray 50)=w3):=⟨_,rfl⟩
 obtain ⟨w4,hw4⟩:∃ w4,Hid (w3.setCells k9 0 c9=w4):=⟨_,rfl⟩
 have F3:Hid (Row w3 k9 z33∧Below w2.heap.size w2 w3):=by rw [← hw3.out,← hk9.out];exact ⟨row_new w2 _ _,below1 _ _⟩
 have K4:Hid (Below w.heap.size w w4∧(k=true→fv=sgF kk∧Row w4 kk (wn x))∧Row w4 k9 c9):=by
  have hb24:Below w2.heap.size w2 w4:=by rw [← hw4.out];exact RG.below_setCells (by rw [hk9.out];exact Nat.le_refl _) _ _ _ F3.out.2
  have hb14:Below w1.heap.size w1 w4:=hb2.trans (hb24.mono hb2.size)
  refine ⟨K1.out.1.trans (hb14.mono K1.out.1.size),fun e=>⟨(K1.out.2 e).1,(K1.out.2 e).2.below hb14⟩,?_⟩
  rw [← hw4.out]
  exact F3.out.1.put (by rw [HL.out.1];rfl)
 have HT3:Hid (w3.there k9 0 c9.toArray.size):=by rw [List.size_toArray,HL.out.1];exact F3.out.1.2.2
 clear hb2 K1 HLf
 go_wp2_with (first | (refine wpList_op (v:=.pointer (some ⟨k9,0,none⟩)) (w':=w3) rfl (.alloc 50) rfl ?_ ?_;(rw [← hw3.out,← hk9.out];kernel_rfl)) | (refine wpList_store_mid rfl 50 _ _ rfl k9 0 c9.toArray ?_ ?_ ?_ ?_ ?_ ?_;rfl;exact hva9.out.symm;exact HT3.out;exact HI.out.1;exact HA9.out;rw [show c9.toArray.toList=c9 from rfl,hw4.out]) | fail)
 clear hw3 hw4 hk9 F3 HT3
 refine (HRd.out w4 K4.out.1).mono ?_
 rintro e w5 ⟨vv,rfl,hb5,rfl⟩
 obtain ⟨k11,hk11⟩:∃ k,Hid (w5.heap.size=k):=⟨_,rfl⟩
 obtain ⟨w6,hw6⟩:∃ w6,Hid (w5.alloc (.cells z33.toArray 50)=w6):=⟨_,rfl⟩
 obtain ⟨w7,hw7⟩:∃ w7,Hid (w6.setCells k11 0 c11=w7):=⟨_,rfl⟩
 have F6:Hid (Row w6 k11 z33∧Below w5.heap.size w5 w6):=by rw [← hw6.out,← hk11.out];exact ⟨row_new w5 _ _,below1 _ _⟩
 have K7:Hid (Row w7 k9 c9∧Row w7 k11 c11∧(k=true→fv=sgF kk∧Row w7 kk (wn x))∧Below w.heap.size w w7):=by
  have hb57:Below w5.heap.size w5 w7:=by rw [← hw7.out];exact RG.below_setCells (by rw [hk11.out];exact Nat.le_refl _) _ _ _ F6.out.2
  have hb47:Below w4.heap.size w4 w7:=hb5.trans (hb57.mono hb5.size)
  refine ⟨K4.out.2.2.below hb47,?_,fun e=>⟨(K4.out.2.1 e).1,(K4.out.2.1 e).2.below hb47⟩,K4.out.1.trans (hb47.mono K4.out.1.size)⟩
  rw [← hw7.out]
  exact F6.out.1.put (by rw [HL.out.2];rfl)
 have HT6:Hid (w6.there k11 0 c11.toArray.size):=by rw [List.size_toArray,HL.out.2];exact F6.out.1.2.2
 clear hb5 K4 HRd
 go_wp2_with (first | (refine wpList_op (v:=.pointer (some ⟨k11,0,none⟩)) (w':=w6) rfl (.alloc 50) rfl ?_ ?_;(rw [← hw6.out,← hk11.out];kernel_rfl)) | (refine wpList_store_mid rfl 50 _ _ rfl k11 0 c11.toArray ?_ ?_ ?_ ?_ ?_ ?_;rfl;exact hva11.out.symm;exact HT6.out;exact HI.out.2;exact HA11.out;rw [show c11.toArray.toList=c11 from rfl,hw7.out]) | fail)
 clear hw6 hw7 hk11 F6 HT6
 have KB:Hid (Row w7.drew k9 c9∧Row w7.drew k11 c11∧(k=true→Row w7.drew kk (wn x))∧Below w.heap.size w w7.drew):=⟨K7.out.1,K7.out.2.1,fun e=>(K7.out.2.2.1 e).2,K7.out.2.2.2.drew⟩
 cases k with
 | false =>
  clear K7
  refine (Gv w k9 k11 kk x false s g fv c9 c11 T eqb).draws (by kernel_rfl) (by kernel_rfl) ⟨
   RG.gw_val fun a W hp=>⟨[(8,.bool false)],.bool false,W,⟨hp.o 8 (by kernel_rfl),trivial⟩,by kernel_rfl,Below.refl _ _,rfl⟩,
   RG.gw_val fun a W hp=>⟨[(28,.bool false)],.bool false,W,⟨hp.n 0 28 (by kernel_rfl) (by kernel_rfl),trivial⟩,by kernel_rfl,Below.refl _ _,rfl⟩,
   RG.gw_pass rfl (by kernel_rfl) (fun _ _ h=>h) (fun _=>rfl),
   RG.gw_val fun a W hp=>⟨[(29,.bool false),(30,undef)],.bool false,W,⟨hp.n 1 29 (by kernel_rfl) (by kernel_rfl),hp.n 2 30 (by kernel_rfl) (by kernel_rfl),trivial⟩,by kernel_rfl,Below.refl _ _,rfl⟩,
   RG.gw_val fun a W hp=>⟨[(31,.bool false)],.bool false,W,⟨hp.n 3 31 (by kernel_rfl) (by kernel_rfl),trivial⟩,by kernel_rfl,Below.refl _ _,rfl⟩,
   RG.gw_pass rfl (by kernel_rfl) (fun _ _ h=>h) (fun _=>rfl),
   RG.gw_val fun a W hp=>⟨[(32,.bool false),(33,undef)],.bool false,W,⟨hp.n 4 32 (by kernel_rfl) (by kernel_rfl),hp.n 5 33 (by kernel_rfl) (by kernel_rfl),trivial⟩,by kernel_rfl,Below.refl _ _,rfl⟩,
   RG.gw_val fun a W hp=>⟨[(34,.bool false)],.bool false,W,⟨hp.n 6 34 (by kernel_rfl) (by kernel_rfl),trivial⟩,by kernel_rfl,Below.refl _ _,rfl⟩,
   RG.gw_pass rfl (by kernel_rfl) (fun _ _ h=>h) (fun _=>rfl),
   RG.gw_pass rfl (by kernel_rfl) (fun _ _ h=>h) (fun _=>rfl),
   RG.gw_pass rfl (by kernel_rfl) (fun _ _ h=>h) (fun _=>rfl),
   RG.gw_pass rfl (by kernel_rfl) (fun _ _ h=>h) (fun _=>rfl),
   RG.gw_pass rfl (by kernel_rfl) (fun _ _ h=>h) (fun _=>rfl),
   RG.gw_val fun a W hp=>⟨[(35,.bool false),(40,undef)],.bool false,W,⟨hp.n 7 35 (by kernel_rfl) (by kernel_rfl),hp.n 12 40 (by kernel_rfl) (by kernel_rfl),trivial⟩,by kernel_rfl,Below.refl _ _,rfl⟩,
   RG.gw_val fun a W hp=>⟨[(41,.bool false)],.bool false,W,⟨hp.n 13 41 (by kernel_rfl) (by kernel_rfl),trivial⟩,by kernel_rfl,Below.refl _ _,rfl⟩,trivial⟩ KB.out ?_
  intro V w9 hR9 hB9
  have hV14:V 14=.bool false:=hR9 14 (Nat.lt_of_succ_le (Nat.le_of_ble_eq_true (by kernel_rfl)))
  have K9:Hid (Below w.heap.size w w9):=hB9.2.2.2
  dsimp only [RG.putV,Nat.reduceAdd]
  simp only [Act.put,List.setIfInBounds_toArray,List.set_cons_succ,List.set_cons_zero]
  rw [hV14]
  clear hR9 hB9 hV14
  go_wp2
  go_ret
  exact ⟨_,rfl,K9.out,rfl⟩
 | true =>
  obtain rfl:=(K7.out.2.2.1 rfl).1
  cases s with
  | false =>
   clear K7
   refine (Gv w k9 k11 kk x true false g (sgF kk) c9 c11 T eqb).draws (by kernel_rfl) (by kernel_rfl) ⟨
    RG.gw_val fun a W hp=>⟨[(8,.bool true)],.bool true,W,⟨hp.o 8 (by kernel_rfl),trivial⟩,by kernel_rfl,Below.refl _ _,rfl⟩,
    RG.gw_val fun a W hp=>⟨[(28,.bool true)],.bool true,W,⟨hp.n 0 28 (by kernel_rfl) (by kernel_rfl),trivial⟩,by kernel_rfl,Below.refl _ _,rfl⟩,
    RG.gw_want rfl (by kernel_rfl) (fun _ _ h=>h) (RG.gw_val fun a W hp=>⟨[(10,.bool false)],.bool false,W,⟨hp.o 10 (by kernel_rfl),trivial⟩,by kernel_rfl,Below.refl _ _,rfl⟩),
    RG.gw_val fun a W hp=>⟨[(29,.bool true),(30,.bool false)],.bool false,W,⟨hp.n 1 29 (by kernel_rfl) (by kernel_rfl),hp.n 2 30 (by kernel_rfl) (by kernel_rfl),trivial⟩,by kernel_rfl,Below.refl _ _,rfl⟩,
    RG.gw_val fun a W hp=>⟨[(31,.bool false)],.bool false,W,⟨hp.n 3 31 (by kernel_rfl) (by kernel_rfl),trivial⟩,by kernel_rfl,Below.refl _ _,rfl⟩,
    RG.gw_pass rfl (by kernel_rfl) (fun _ _ h=>h) (fun _=>rfl),
    RG.gw_val fun a W hp=>⟨[(32,.bool false),(33,undef)],.bool false,W,⟨hp.n 4 32 (by kernel_rfl) (by kernel_rfl),hp.n 5 33 (by kernel_rfl) (by kernel_rfl),trivial⟩,by kernel_rfl,Below.refl _ _,rfl⟩,
    RG.gw_val fun a W hp=>⟨[(34,.bool false)],.bool false,W,⟨hp.n 6 34 (by kernel_rfl) (by kernel_rfl),trivial⟩,by kernel_rfl,Below.refl _ _,rfl⟩,
    RG.gw_pass rfl (by kernel_rfl) (fun _ _ h=>h) (fun _=>rfl),
    RG.gw_pass rfl (by kernel_rfl) (fun _ _ h=>h) (fun _=>rfl),
    RG.gw_pass rfl (by kernel_rfl) (fun _ _ h=>h) (fun _=>rfl),
    RG.gw_pass rfl (by kernel_rfl) (fun _ _ h=>h) (fun _=>rfl),
    RG.gw_pass rfl (by kernel_rfl) (fun _ _ h=>h) (fun _=>rfl),
    RG.gw_val fun a W hp=>⟨[(35,.bool false),(40,undef)],.bool false,W,⟨hp.n 7 35 (by kernel_rfl) (by kernel_rfl),hp.n 12 40 (by kernel_rfl) (by kernel_rfl),trivial⟩,by kernel_rfl,Below.refl _ _,rfl⟩,
    RG.gw_val fun a W hp=>⟨[(41,.bool false)],.bool false,W,⟨hp.n 13 41 (by kernel_rfl) (by kernel_rfl),trivial⟩,by kernel_rfl,Below.refl _ _,rfl⟩,trivial⟩ KB.out ?_
   intro V w9 hR9 hB9
   have hV14:V 14=.bool false:=hR9 14 (Nat.lt_of_succ_le (Nat.le_of_ble_eq_true (by kernel_rfl)))
   have K9:Hid (Below w.heap.size w w9):=hB9.2.2.2
   dsimp only [RG.putV,Nat.reduceAdd]
   simp only [Act.put,List.setIfInBounds_toArray,List.set_cons_succ,List.set_cons_zero]
   rw [hV14]
   clear hR9 hB9 hV14
   go_wp2
   go_ret
   exact ⟨_,rfl,K9.out,rfl⟩
  | true =>
   cases g with
   | false =>
    clear K7
    refine (Gv w k9 k11 kk x true true false (sgF kk) c9 c11 T eqb).draws (by kernel_rfl) (by kernel_rfl) ⟨
     RG.gw_val fun a W hp=>⟨[(8,.bool true)],.bool true,W,⟨hp.o 8 (by kernel_rfl),trivial⟩,by kernel_rfl,Below.refl _ _,rfl⟩,
     RG.gw_val fun a W hp=>⟨[(28,.bool true)],.bool true,W,⟨hp.n 0 28 (by kernel_rfl) (by kernel_rfl),trivial⟩,by kernel_rfl,Below.refl _ _,rfl⟩,
     RG.gw_want rfl (by kernel_rfl) (fun _ _ h=>h) (RG.gw_val fun a W hp=>⟨[(10,.bool true)],.bool true,W,⟨hp.o 10 (by kernel_rfl),trivial⟩,by kernel_rfl,Below.refl _ _,rfl⟩),
     RG.gw_val fun a W hp=>⟨[(29,.bool true),(30,.bool true)],.bool true,W,⟨hp.n 1 29 (by kernel_rfl) (by kernel_rfl),hp.n 2 30 (by kernel_rfl) (by kernel_rfl),trivial⟩,by kernel_rfl,Below.refl _ _,rfl⟩,
     RG.gw_val fun a W hp=>⟨[(31,.bool true)],.bool true,W,⟨hp.n 3 31 (by kernel_rfl) (by kernel_rfl),trivial⟩,by kernel_rfl,Below.refl _ _,rfl⟩,
     RG.gw_want rfl (by kernel_rfl) (fun _ _ h=>h) (RG.gw_val fun a W hp=>⟨[(12,.bool false)],.bool false,W,⟨hp.o 12 (by kernel_rfl),trivial⟩,by kernel_rfl,Below.refl _ _,rfl⟩),
     RG.gw_val fun a W hp=>⟨[(32,.bool true),(33,.bool false)],.bool false,W,⟨hp.n 4 32 (by kernel_rfl) (by kernel_rfl),hp.n 5 33 (by kernel_rfl) (by kernel_rfl),trivial⟩,by kernel_rfl,Below.refl _ _,rfl⟩,
     RG.gw_val fun a W hp=>⟨[(34,.bool false)],.bool false,W,⟨hp.n 6 34 (by kernel_rfl) (by kernel_rfl),trivial⟩,by kernel_rfl,Below.refl _ _,rfl⟩,
     RG.gw_pass rfl (by kernel_rfl) (fun _ _ h=>h) (fun _=>rfl),
     RG.gw_pass rfl (by kernel_rfl) (fun _ _ h=>h) (fun _=>rfl),
     RG.gw_pass rfl (by kernel_rfl) (fun _ _ h=>h) (fun _=>rfl),
     RG.gw_pass rfl (by kernel_rfl) (fun _ _ h=>h) (fun _=>rfl),
     RG.gw_pass rfl (by kernel_rfl) (fun _ _ h=>h) (fun _=>rfl),
     RG.gw_val fun a W hp=>⟨[(35,.bool false),(40,undef)],.bool false,W,⟨hp.n 7 35 (by kernel_rfl) (by kernel_rfl),hp.n 12 40 (by kernel_rfl) (by kernel_rfl),trivial⟩,by kernel_rfl,Below.refl _ _,rfl⟩,
     RG.gw_val fun a W hp=>⟨[(41,.bool false)],.bool false,W,⟨hp.n 13 41 (by kernel_rfl) (by kernel_rfl),trivial⟩,by kernel_rfl,Below.refl _ _,rfl⟩,trivial⟩ KB.out ?_
    intro V w9 hR9 hB9
    have hV14:V 14=.bool false:=hR9 14 (Nat.lt_of_succ_le (Nat.le_of_ble_eq_true (by kernel_rfl)))
    have K9:Hid (Below w.heap.size w w9):=hB9.2.2.2
    dsimp only [RG.putV,Nat.reduceAdd]
    simp only [Act.put,List.setIfInBounds_toArray,List.set_cons_succ,List.set_cons_zero]
    rw [hV14]
    clear hR9 hB9 hV14
    go_wp2
    go_ret
    exact ⟨_,rfl,K9.out,rfl⟩
   | true =>
    obtain ⟨h1,h2⟩:=HT.out rfl
    have HSG:Hid (∀ W,(true=true→Row W kk (wn x))→Calls Tryz.prog 53 #[.agg c9.toArray,.pointer (some ⟨kk,0,none⟩)] W (Ret fun e w'=>Below W.heap.size W w'∧bif (true && true && true) then e=pvl T else e=undef)):=fun W h=>(h1 W kk (h rfl))
    have HEQ:=Hid.mk' h2
    clear K7 h1 h2
    refine (Gv w k9 k11 kk x true true true (sgF kk) c9 c11 T eqb).draws (by kernel_rfl) (by kernel_rfl) ⟨
     RG.gw_val fun a W hp=>⟨[(8,.bool true)],.bool true,W,⟨hp.o 8 (by kernel_rfl),trivial⟩,by kernel_rfl,Below.refl _ _,rfl⟩,
     RG.gw_val fun a W hp=>⟨[(28,.bool true)],.bool true,W,⟨hp.n 0 28 (by kernel_rfl) (by kernel_rfl),trivial⟩,by kernel_rfl,Below.refl _ _,rfl⟩,
     RG.gw_want rfl (by kernel_rfl) (fun _ _ h=>h) (RG.gw_val fun a W hp=>⟨[(10,.bool true)],.bool true,W,⟨hp.o 10 (by kernel_rfl),trivial⟩,by kernel_rfl,Below.refl _ _,rfl⟩),
     RG.gw_val fun a W hp=>⟨[(29,.bool true),(30,.bool true)],.bool true,W,⟨hp.n 1 29 (by kernel_rfl) (by kernel_rfl),hp.n 2 30 (by kernel_rfl) (by kernel_rfl),trivial⟩,by kernel_rfl,Below.refl _ _,rfl⟩,
     RG.gw_val fun a W hp=>⟨[(31,.bool true)],.bool true,W,⟨hp.n 3 31 (by kernel_rfl) (by kernel_rfl),trivial⟩,by kernel_rfl,Below.refl _ _,rfl⟩,
     RG.gw_want rfl (by kernel_rfl) (fun _ _ h=>h) (RG.gw_val fun a W hp=>⟨[(12,.bool true)],.bool true,W,⟨hp.o 12 (by kernel_rfl),trivial⟩,by kernel_rfl,Below.refl _ _,rfl⟩),
     RG.gw_val fun a W hp=>⟨[(32,.bool true),(33,.bool true)],.bool true,W,⟨hp.n 4 32 (by kernel_rfl) (by kernel_rfl),hp.n 5 33 (by kernel_rfl) (by kernel_rfl),trivial⟩,by kernel_rfl,Below.refl _ _,rfl⟩,
     RG.gw_val fun a W hp=>⟨[(34,.bool true)],.bool true,W,⟨hp.n 6 34 (by kernel_rfl) (by kernel_rfl),trivial⟩,by kernel_rfl,Below.refl _ _,rfl⟩,
     RG.gw_want rfl (by kernel_rfl) (fun _ _ h=>h) (RG.gw_load 50 11 rfl uCP fun a W hp=>⟨k11,0,c11,hp.o 11 (by kernel_rfl),hp.b.2.1.2.1,by rw [HL.out.2];exact infoCP,rfl⟩),
     RG.gw_want rfl (by kernel_rfl) (fun _ _ h=>h) (RG.gw_val fun a W hp=>⟨[(7,sgF kk)],sgF kk,W,⟨hp.o 7 (by kernel_rfl),trivial⟩,by kernel_rfl,Below.refl _ _,rfl⟩),
     RG.gw_want rfl (by kernel_rfl) (fun _ _ h=>h) (RG.gw_load 50 9 rfl uCP fun a W hp=>⟨k9,0,c9,hp.o 9 (by kernel_rfl),hp.b.1.2.1,by rw [HL.out.1];exact infoCP,rfl⟩),
     RG.gw_want rfl (by kernel_rfl) (fun _ _ h=>h) (RG.gw_call fun a W hp=>⟨[(37,sgF kk),(38,.agg c9.toArray)],53,#[.agg c9.toArray,.pointer (some ⟨kk,0,none⟩)],⟨hp.n 9 37 (by kernel_rfl) (by kernel_rfl),hp.n 10 38 (by kernel_rfl) (by kernel_rfl),trivial⟩,by kernel_rfl,HSG.out W hp.b.2.2.1⟩),
     RG.gw_want rfl (by kernel_rfl) (fun _ _ h=>h) (RG.gw_bin .eql 50 50 36 39 rfl fun a W hp=>⟨.agg c11.toArray,pvl T,.bool eqb,hp.n 8 36 (by kernel_rfl) (by kernel_rfl),hp.n 11 39 (by kernel_rfl) (by kernel_rfl),(HEQ.out W).1,(HEQ.out W).2,rfl⟩),
     RG.gw_val fun a W hp=>⟨[(35,.bool true),(40,.bool eqb)],.bool eqb,W,⟨hp.n 7 35 (by kernel_rfl) (by kernel_rfl),hp.n 12 40 (by kernel_rfl) (by kernel_rfl),trivial⟩,by kernel_rfl,Below.refl _ _,rfl⟩,
     RG.gw_val fun a W hp=>⟨[(41,.bool eqb)],.bool eqb,W,⟨hp.n 13 41 (by kernel_rfl) (by kernel_rfl),trivial⟩,by kernel_rfl,Below.refl _ _,rfl⟩,trivial⟩ KB.out ?_
    intro V w9 hR9 hB9
    have hV14:V 14=.bool eqb:=hR9 14 (Nat.lt_of_succ_le (Nat.le_of_ble_eq_true (by kernel_rfl)))
    have K9:Hid (Below w.heap.size w w9):=hB9.2.2.2
    dsimp only [RG.putV,Nat.reduceAdd]
    simp only [Act.put,List.setIfInBounds_toArray,List.set_cons_succ,List.set_cons_zero]
    rw [hV14]
    clear hR9 hB9 hV14
    go_wp2
    go_ret
    exact ⟨_,rfl,K9.out,rfl⟩
end Go.Proofs.YtmkllfekhehagagGreat
namespace Go.Proofs.YtmkllfekhehagagGreat
open Go.RowKit Go.Sort Go.Deep
variable {P:Nat} [NeZero P]
end Go.Proofs.YtmkllfekhehagagGreat
namespace Go.Proofs.YtmkllfekhehagagGreat
open Go.RowKit Go.Sort Go.Deep
variable {P:Nat} [NeZero P]
end Go.Proofs.YtmkllfekhehagagGreat
namespace Go.Proofs.YtmkllfekhehagagGreat
open Go.RowKit Go.Sort Go.Deep
variable {P:Nat} [NeZero P] {N:Nat}
def kOk (N:Nat) (kb:Bs):Bool:=(rq N kb).isSome && !decide ((rq N kb).getD 0=0)
noncomputable def tkT (P:Nat) [NeZero P] (N:Nat) (kb:Bs) (tx:List UInt8):Bs:=wr (EC.mul ((rq N kb).getD 0) (.some (hpt P tokenL tx):EC.Pt P))
noncomputable def vld (P:Nat) [NeZero P] (N:Nat) (kb:Bs) (tl:Nat) (tx:List UInt8) (sb:Bs):Bool:=kOk N kb && decide (1≤tl∧tl≤64) && (rd P sb).isSome && decide (sb=tkT P N kb tx)
theorem bl33_ok (a:Bs):∀ u∈bl33 a,u.oneCell'=true:=fun u hu=>by
 obtain ⟨x,-,rfl⟩:=List.mem_map.1 hu
 rfl
theorem z33_ok:∀ u∈z33,u.oneCell'=true:=fun u hu=>by
 unfold z33 at hu
 rw [(List.mem_replicate.1 hu).2]
 rfl
set_option maxRecDepth 100000 in
theorem eqgCP {a b:Bs} (ha:a.size=33) (hb:b.size=33) (w:World):(eqGuard .eql 50 (.tmp 36) (.tmp 39) (.agg (bl33 a).toArray) (pvl b)).run Tryz.prog w=.ok () w:=by
 unfold pvl
 rw [bl33_lit ha,bl33_lit hb]
 kernel_rfl
theorem eqbCP {a b:Bs} (ha:a.size=33) (hb:b.size=33) (w:World):(binOp .eql 50 (.agg (bl33 a).toArray) (pvl b)).run Tryz.prog w=.ok (.bool (decide (a=b))) w:=by
 have h:=eqCP ha hb w
 have h2:(binOp .eql 50 (.agg (bl33 a).toArray) (pvl b)).run Tryz.prog w=(Op.equal 50 (.agg (bl33 a).toArray) (pvl b) >>= fun b=>pure (Value.bool b)).run Tryz.prog w:=rfl
 rw [h2,Sem.run_bind]
 have h3:(Op.equal 50 (.agg (bl33 a).toArray) (pvl b)).run Tryz.prog w=.ok (decide (a=b)) w:=h
 rw [h3]
 rfl
set_option maxRecDepth 100000 in
theorem Valid_any (C:Fld P) (O:Ord N) (v0 v2:Value) (kb sb:Bs) (ta:Option Addr) (tl tc:Nat) (tx:List UInt8) (w:World) (hA:Arg w v0 kb) (hP:SP.PartOk w (.slice ta tl tc) tx) (h2:Arg33 w v2 sb) :
 Calls Tryz.prog 16 #[v0,.slice ta tl tc,v2] w (Ret fun e w'=>Below w.heap.size w w'∧e=.bool (vld P N kb tl tx sb)):=by
 unfold vld
 have hon:=hpt_on C tokenL tx
 have hTs:(tkT P N kb tx).size=33:=wr_size _
 have hLy:=fun h1 h2 W hP=>lifted_y C ta tl tc tx W hP h1 h2
 have hsg:kOk N kb=true→∀ W kk,Row W kk (wn ((rq N kb).getD 0))→Calls Tryz.prog 53 #[pvl (wr (.some (hpt P tokenL tx):EC.Pt P)),.pointer (some ⟨kk,0,none⟩)] W (Ret fun e w'=>Below W.heap.size W w'∧e=pvl (tkT P N kb tx)):=fun hk W kk hR=>by
  unfold tkT
  refine sign1_c C O ?_ hon kk W hR
  unfold kOk at hk
  cases hx:rq N kb with
  | none=>exact O.pos
  | some x =>
   show x < N
   unfold rq at hx
   split at hx
   · rename_i h
     rw [← Option.some.inj hx];exact h.2
   · cases hx
 generalize tkT P N kb tx=T at hTs hsg ⊢
 generalize (.some (hpt P tokenL tx):EC.Pt P)=X at hon hLy hsg
 have hXs:(wr X).size=33:=wr_size X
 generalize wr X=Y at hLy hsg hXs
 refine Valid_g v0 (.slice ta tl tc) v2 ((rq N kb).getD 0) (kOk N kb) (decide (1≤tl∧tl≤64)) (rd P sb).isSome (if 1≤tl∧tl≤64 then bl33 Y else z33) (if (rd P sb).isSome then bl33 sb else z33) ?_ ?_ ?_ ?_ T (decide (sb=T)) w ?_ ?_ ?_ ?_
 · split
   · exact bl33_length hXs
   · rfl
 · split
   · rename_i h
     obtain ⟨p,hp⟩:=Option.isSome_iff_exists.1 h
     exact bl33_length (rd_33 hp)
   · rfl
 · split
   · exact bl33_ok Y
   · exact z33_ok
 · split
   · exact bl33_ok sb
   · exact z33_ok
 · cases hk:kOk N kb with
   | true =>
    cases hx:rq N kb with
    | none=>unfold kOk at hk;rw [hx] at hk;cases hk
    | some x =>
     have hx0:x≠0:=fun e=>by
      unfold kOk at hk
      rw [hx,e] at hk
      cases hk
     refine (signer_y O v0 kb x w hA hx hx0).mono ?_
     rintro e w' ⟨v,rfl,hb,k,rfl,-,hR⟩
     exact ⟨_,rfl,hb,sgF k,k,rfl,fun _=>⟨rfl,hR⟩⟩
   | false =>
    refine (signer_n O v0 kb w hA hk).mono ?_
    rintro e w' ⟨v,rfl,hb,rfl⟩
    exact ⟨_,rfl,hb,.nilFunc,0,rfl,fun h=>by cases h⟩
 · intro W hb
   by_cases h:1≤tl∧tl≤64
   · rw [if_pos h,decide_eq_true h]
     exact hLy h.1 h.2 W (hP.below hb)
   · rw [if_neg h,decide_eq_false h]
     exact lifted_n ta tl tc W h
 · intro W hb
   cases hr:rd P sb with
   | none=>exact cRead_n C v2 sb W (h2.below hb) hr
   | some p=>exact cRead_y C v2 sb p W (h2.below hb) hr
 · intro hall
   rw [Bool.and_eq_true,Bool.and_eq_true] at hall
   obtain ⟨⟨hk,hs⟩,hg⟩:=hall
   have hs':=of_decide_eq_true hs
   obtain ⟨p,hp⟩:=Option.isSome_iff_exists.1 hg
   rw [if_pos hs',if_pos hg]
   exact ⟨fun W kk hR=>hsg hk W kk hR,fun W=>⟨eqgCP (rd_33 hp) hTs W,eqbCP (rd_33 hp) hTs W⟩⟩
end Go.Proofs.YtmkllfekhehagagGreat
namespace Go.Proofs.YtmkllfekhehagagGreat
open Go.RowKit Go.Sort Go.Deep
variable {P:Nat} [NeZero P] {N:Nat}
end Go.Proofs.YtmkllfekhehagagGreat
namespace Go.Proofs.YtmkllfekhehagagGreat
open Go.RowKit Go.Sort Go.Deep
variable {P:Nat} [NeZero P] {N:Nat}
section
variable (w:World) (n K k3 k7 i s m:Nat) (p:Bs) (l:List (Nat × Bs))
end
end Go.Proofs.YtmkllfekhehagagGreat
namespace Go.Proofs.YtmkllfekhehagagGreat
open Go.RowKit Go.Sort Go.Deep
variable {P:Nat} [NeZero P] {N:Nat}
section
variable (w:World) (k6 k8 n:Nat) (Y A T:Bs)
end
end Go.Proofs.YtmkllfekhehagagGreat
namespace Go.Proofs.YtmkllfekhehagagGreat
open Go.RowKit Go.Sort Go.Deep
variable {P:Nat} [NeZero P] {N:Nat}
section
variable (w:World) (K k8 n o:Nat) (S Q T:Bs)
end
end Go.Proofs.YtmkllfekhehagagGreat
namespace Go.Proofs.YtmkllfekhehagagGreat
open Go.RowKit Go.Sort Go.Deep
variable {P:Nat} [NeZero P] {N:Nat}
end Go.Proofs.YtmkllfekhehagagGreat
namespace Go.Proofs.YtmkllfekhehagagGreat
open Go.RowKit Go.Sort Go.Deep
end Go.Proofs.YtmkllfekhehagagGreat
namespace Go.Proofs.YtmkllfekhehagagGreat
open Go.RowKit Go.Sort Go.Deep
theorem conv_of (s:ByteArray) (w:World) :
 ∃ cap w',(convert 9 22 (.string s)).run Tryz.prog w=.ok (.slice (some ⟨w.heap.size,0,none⟩) s.size cap) w'∧s.size≤cap∧Below w.heap.size w w'∧Holds encB w' w.heap.size 0 s.data∧w.heap.size < w'.heap.size:=by
 have h:=Lib.run_convert_string_bytes (P:=Tryz.prog) w 9 22 5 s str9 slice22 int5
 have hcap:s.size≤grownCap w s.size 0 5:=by
  unfold grownCap Question.cut
  exact Nat.le_add_right _ _
 have hl:s.data.size=s.size:=rfl
 refine ⟨_,_,h,hcap,?_,?_,by rw [Lib.bytesWorld_size];omega⟩
 · refine ⟨?_,?_,?_,?_,fun k hk=>Lib.bytesWorld_at_old w 5 s k hk⟩
   · unfold Lib.bytesWorld World.freeze
     rw [if_neg (by decide)]
     rfl
   · unfold Lib.bytesWorld World.freeze
     rw [if_neg (by decide)]
     rfl
   · unfold Lib.bytesWorld World.freeze
     rw [if_neg (by decide)]
     rfl
   · rw [Lib.bytesWorld_size];omega
 · intro j hj
   have hb:=Lib.bytesWorld_at_new w 5 s
   have hsz:(Lib.bytesCells w 5 s).size=grownCap w s.size 0 5:=by
    unfold Lib.bytesCells
    rw [Array.size_append,Array.size_map,Array.size_replicate]
    omega
   have hc:(Lib.bytesCells w 5 s)=(s.data++Array.replicate (grownCap w s.size 0 5 - s.size) 0).map encB:=by
    unfold Lib.bytesCells
    rw [Array.map_append,Array.map_replicate]
    rfl
   have hj2:j < (s.data++Array.replicate (grownCap w s.size 0 5 - s.size) 0).size:=by rw [Array.size_append,Array.size_replicate];omega
   have hget:(s.data++Array.replicate (grownCap w s.size 0 5 - s.size) 0)[j]=s.data[j]!:=by
    rw [Array.getElem_append_left hj,getElem!_pos s.data j hj]
   constructor
   · unfold World.cell?
     rw [hb]
     simp only [Nat.zero_add]
     rw [if_neg (by decide),hc,Array.getElem?_map,Array.getElem?_eq_getElem hj2,Option.map_some,hget]
   · unfold World.frozen?
     rw [hb]
     simp only [Nat.zero_add,hsz]
     simp
     omega
end Go.Proofs.YtmkllfekhehagagGreat
namespace Go.Proofs.YtmkllfekhehagagGreat
open Go.RowKit Go.Sort Go.Deep
end Go.Proofs.YtmkllfekhehagagGreat
namespace Go.Proofs.YtmkllfekhehagagGreat
open Go.RowKit Go.Sort Go.Deep
variable {P:Nat} [NeZero P]
end Go.Proofs.YtmkllfekhehagagGreat
namespace Go.Proofs.YtmkllfekhehagagGreat
open Go.RowKit Go.Sort Go.Deep
variable {P:Nat} [NeZero P] {N:Nat}
end Go.Proofs.YtmkllfekhehagagGreat
namespace Go.Proofs.YtmkllfekhehagagGreat.RG
open Go Go.RowKit
variable {P:Program} {ops:Array Oper} {Q:Exit→Act→World→Prop} {w0:World} {k0:Nat} {X:List Nat} {its:List It} {bl:List Bl} {olds:List (Tmp × SV)} {i:Nat} {o:Oper} {it:It}
theorem cert_bincl (hk:it.kind=.stay) (op:BinOp) (T T':TypeId) (t2:Tmp) (v1 v2 v:Value) (ho:o.op=.binOp op T (.const v1) (.tmp t2) T') (hout:it.out=.v v)
 (h2:∀ (μ:Nat→Nat) (a:Act),Known ops i its olds it.need μ a→a.eval (.tmp t2)=v2)
 (hg:∀ w,(eqGuard op T (.const v1) (.tmp t2) v1 v2).run P w=.ok () w) (hb:∀ w,(binOp op T v1 v2).run P w=.ok v w):Cert P Q w0 k0 X ops i its bl olds o it:=by
 refine cert_stay hk fun μ a w hK _=>?_
 unfold execOp
 rw [ho,hout]
 dsimp only
 rw [h2 μ a hK]
 show (((eqGuard op T (.const v1) (.tmp t2) v1 v2) >>= fun _=>binOp op T v1 v2) >>= fun v=>pure (Next.value v)).run P w=_
 rw [Sem.run_bind,Sem.run_bind,hg]
 dsimp only [Result.andThen]
 rw [hb]
 rfl
end Go.Proofs.YtmkllfekhehagagGreat.RG
namespace Go.Proofs.YtmkllfekhehagagGreat
open Go.RowKit Go.Sort Go.Deep
variable {P:Nat} [NeZero P]
theorem catP (lab:ByteArray) (h:lab.size≤1000000) (w:World):(binOp .add 9 (.string ⟨#[112,111,105,110,116,32]⟩) (.string lab)).run Tryz.prog w=.ok (.string (⟨#[112,111,105,110,116,32]⟩++lab)) w:=by
 have h2:(⟨#[112,111,105,110,116,32]⟩:ByteArray).size=6:=rfl
 have h3:6+lab.size≤9223372036854775807:=by omega
 go_simp
theorem convU {i:Nat} {u:UInt8} (h:(i:Int)=ub u) (hi:i < 256) (w:World):(convert 3 5 (.int .i64 (i:Int))).run Tryz.prog w=.ok (.int .u8 (ub u)) w:=by
 have h1:IntKind.u8.wrap (ub u)=ub u:=by
  have h2:=u.toNat_lt
  unfold ub
  simp [IntKind.wrap,IntKind.bits,IntKind.signed]
  omega
 rw [h]
 go_simp
def FH_0:List RG.It:=[.m 4 [] 0]
def FH_1:List RG.It:=[.x 5 [] (.int .i64 0)]
def FH_2 (i:Nat) (c:Bool):List RG.It:=[.x 9 [] (.int .i64 (i:Int)),.x 10 [(9,0)] (.bool c)]
def FH_4 (lab s:ByteArray) (i:Nat) (u:UInt8) (T:Bs) (n:Nat) (ok:Bool):List RG.It:=[.c 14 [] rv0,.x 15 [] (.string lab),.x 16 [(15,1)] (.string ((⟨#[112,111,105,110,116,32]⟩:ByteArray)++lab)),.x 17 [] (.string s),.x 18 [] (.int .i64 (i:Int)),.x 19 [(18,4)] (.int .u8 (ub u)),⟨some 20,[(19,5)],(.s 1 1 1),.make 1⟩,.x 21 [(20,6)] (.string ⟨#[u]⟩),⟨some 22,[(17,3),(21,7)],(.s 2 2 2),.make 2⟩,.c 23 [(16,2),(22,8)] (.string ⟨T⟩),.c 24 [(14,0),(23,9)] (.tuple #[nv n,.bool ok]),.x 13 [(24,10)] (.tuple #[nv n,.bool ok]),.x 25 [(13,11)] (nv n),.x 26 [(13,11)] (.bool ok),.m 6 [] 3,.u [(6,14),(25,12)] 3,.x 7 [(26,13)] (.bool ok)]
def FH_5 (ok:Bool):List RG.It:=[.x 27 [] (.bool ok),.x 28 [(27,0)] (.bool (!ok))]
def FH_6 (n:Nat) (x y:Fin P) (ok:Bool):List RG.It:=[.x 30 [] (nv n),.c 31 [(30,0)] (.tuple #[rv x y 1,.bool ok]),.x 29 [(31,1)] (.tuple #[rv x y 1,.bool ok]),.x 32 [(29,2)] (rv x y 1),.x 33 [(29,2)] (.bool ok),.m 8 [] 4,.u [(8,5),(32,3)] 4,.x 7 [(33,4)] (.bool ok)]
def FH_7 (ok:Bool):List RG.It:=[.x 34 [] (.bool ok)]
def FH_8 (x y:Fin P):List RG.It:=[.x 35 [] (rv x y 1),.u [(35,0)] 0]
def FH_3 (i:Nat):List RG.It:=[.x 11 [] (.int .i64 (i:Int)),.x 12 [(11,0)] (.int .i64 ((i+1:Nat):Int)),.x 5 [(12,1)] (.int .i64 ((i+1:Nat):Int))]
def FH_9 (x y:Fin P):List RG.It:=[.c 36 [] (rv x y 1),.u [(36,0)] 0]
theorem cands_none {lab:ByteArray} {b:List UInt8} {i:Nat} (h:cands P lab b i=[]) (hc:cand P lab b i=none):cands P lab b (i+1)=[]:=by rw [cands_succ,h,hc];rfl
theorem hpt_at {lab:ByteArray} {b:List UInt8} {i:Nat} {q:Fin P × Fin P} (hi:i < 256) (h:cands P lab b i=[]) (hc:cand P lab b i=some q):hpt P lab b=q:=by
 have h1:cands P lab b (i+1)=[q]:=by rw [cands_succ,h,hc];rfl
 obtain ⟨r,hr⟩:=cands_pre (P:=P) lab b (i:=i+1) (j:=256) (by omega)
 unfold hpt
 rw [← hr,h1]
 rfl
theorem hpt_end {lab:ByteArray} {b:List UInt8} (h:cands P lab b 256=[]):hpt P lab b=(gX P,gY P):=by
 unfold hpt
 rw [h]
 rfl
theorem frames2 (l x:List UInt8) (y:List UInt8):(SP.framesL l [x,y]).length=l.length+x.length+y.length+12:=by
 unfold SP.framesL
 simp [SP.frameL_length]
 omega
theorem rTag_c (lab s:ByteArray) (u:UInt8) (hl:lab.size≤4096) (hs:s.size≤4096) (k:Nat) (w:World) (h:w.rangeAt k 0 [.string s,.string ⟨#[u]⟩]∧k < w.heap.size) :
 Calls Tryz.prog 117 #[.string ((⟨#[112,111,105,110,116,32]⟩:ByteArray)++lab),.slice (some ⟨k,0,none⟩) 2 2] w (Ret fun e w'=>Below w.heap.size w w'∧e=.string ⟨SP.tagL ((⟨#[112,111,105,110,116,32]⟩:ByteArray)++lab).data.toList [s.data.toList,[u]]⟩):=by
 have hp:((⟨#[112,111,105,110,116,32]⟩:ByteArray)++lab).size=6+lab.size:=ByteArray.size_append
 refine (SP.refTag_any ((⟨#[112,111,105,110,116,32]⟩:ByteArray)++lab) (some ⟨k,0,none⟩) 2 [s,⟨#[u]⟩] w (by omega) (Nat.le_of_ble_eq_true rfl) (Or.inr ⟨k,0,rfl,fun j hj=>?_⟩) (fun j hj=>?_) ?_).mono ?_
 · have hj2:j=0∨j=1:=by simp at hj;omega
   rcases hj2 with rfl | rfl
   · exact h.1 0 _ rfl
   · exact h.1 1 _ rfl
 · have hj2:j=0∨j=1:=by simp at hj;omega
   rcases hj2 with rfl | rfl
   · show s.size≤_;omega
   · show 1≤1048576;decide
 · show (SP.framesL ((⟨#[112,111,105,110,116,32]⟩:ByteArray)++lab).data.toList [s.data.toList,[u]]).length≤_
   rw [frames2]
   have e1:((⟨#[112,111,105,110,116,32]⟩:ByteArray)++lab).data.toList.length=6+lab.size:=by rw [Array.length_toList];exact hp
   have e2:s.data.toList.length=s.size:=Array.length_toList
   rw [e1,e2]
   show 6+lab.size+s.size+1+12≤_
   omega
 · rintro e w' ⟨rfl,hb⟩
   exact ⟨_,rfl,hb,rfl⟩
set_option maxHeartbeats 4000000 in
set_option maxRecDepth 100000 in
theorem rHash_c (C:Fl3 P) (lab s:ByteArray) (hl:lab.size≤4096) (hs0:s.size≤4096):Gives 94 #[.string lab,.string s] (rv (hpt P lab s.data.toList).1 (hpt P lab s.data.toList).2 1):=by
 intro w
 go_enter Tryz.func94,Tryz.ntmps94
 refine RG.M.enter [(0,.v (.string lab)),(1,.v (.string s))] 37 (by kernel_rfl) ?_
 intro a0 M0
 repeat refine wp_seq ?_
 refine M0.tx FH_0 [(0,(RG.z 12))] [] [(RG.z 12)] [(0,.v (.string lab)),(1,.v (.string s)),(4,.p 0 0)] (by kernel_rfl) (by kernel_rfl) ⟨RG.mk 0 63 fun _ _=>by kernel_rfl,trivial⟩ ?_
 intro k4 a1 w1 M1
 repeat refine wp_seq ?_
 refine M1.tx0 FH_1 [(0,.v (.string lab)),(1,.v (.string s)),(4,.p 0 0),(5,.v (.int .i64 0))] (by kernel_rfl) ⟨RG.st fun _ _=>by kernel_rfl,trivial⟩ ?_
 intro a2 w2 M2
 repeat refine wp_seq ?_
 refine wp_block ?_
 refine wp_loop_ghost (fun m a wr=>∃ i:Nat,i+m=256∧Hid (cands P lab s.data.toList i=[])∧RG.M w w.heap.size [] 37 [(RG.z 12)] [k4] [(0,.v (.string lab)),(1,.v (.string s)),(4,.p 0 0),(5,.v (.int .i64 (i:Int)))] a wr) 256 ⟨0,rfl,rfl,M2⟩ ?_
 intro m' a wr
 rintro ⟨i,him,hnone,M20⟩
 by_cases hi:i < 256
 · obtain ⟨u,hu⟩:∃ u:UInt8,(i:Int)=ub u:=⟨UInt8.ofNat i,by
    show _=(((UInt8.ofNat i).toNat:Nat):Int)
    rw [UInt8.toNat_ofNat',Nat.mod_eq_of_lt (by omega)]⟩
   have hu2:UInt8.ofNat i=u:=by
    apply UInt8.toNat_inj.1
    rw [UInt8.toNat_ofNat',Nat.mod_eq_of_lt (by omega)]
    have h:(i:Int)=((u.toNat:Nat):Int):=hu
    omega
   obtain ⟨T,hT⟩:∃ T,Hid (SP.tagL ((⟨#[112,111,105,110,116,32]⟩:ByteArray)++lab).data.toList [s.data.toList,[u]]=T):=⟨_,rfl⟩
   have hTs:T.size=32:=by rw [← hT.out];exact SP.tagL_size _ _
   have hcand:cand P lab s.data.toList i=if beV T.toList < P then (rt (Fin.ofNat P (beV T.toList)*Fin.ofNat P (beV T.toList)*Fin.ofNat P (beV T.toList)+7)).map fun y=>(Fin.ofNat P (beV T.toList),y) else none:=by
    unfold cand
    rw [hu2,hT.out]
   have rTag_c:∀ (lab' s':ByteArray) (u':UInt8),lab'.size≤4096→s'.size≤4096→∀ (k:Nat) (w:World),w.rangeAt k 0 [.string s,.string ⟨#[u]⟩]∧k < w.heap.size→Calls Tryz.prog 117 #[.string ((⟨#[112,111,105,110,116,32]⟩:ByteArray)++lab),.slice (some ⟨k,0,none⟩) 2 2] w (Ret fun e w'=>Below w.heap.size w w'∧e=.string ⟨T⟩):=fun _ _ _ _ _ k w h=>by
    rw [← hT.out]
    exact Go.Proofs.YtmkllfekhehagagGreat.rTag_c lab s u hl hs0 k w h
   by_cases hx:beV T.toList < P
   · obtain ⟨x,hxv⟩:∃ x:Fin P,Hid (beV T.toList=x.val):=⟨Fin.ofNat P (beV T.toList),(Nat.mod_eq_of_lt hx).symm⟩
     have hfx:Fin.ofNat P (beV T.toList)=x:=Fin.ext (by show beV T.toList % P=_;rw [Nat.mod_eq_of_lt hx];exact hxv.out)
     rw [if_pos hx,hfx] at hcand
     have hnum:=rNumber_y C T hTs hxv.out
     obtain ⟨n,hn⟩:∃ n,n=x.val:=⟨_,rfl⟩
     cases hr:rt (x*x*x+7) with
     | none =>
      rw [hr] at hcand
      have hat:=rat_n_c C x hr
      rw [show fv x=nv n by rw [hn]] at hat hnum
      repeat refine wp_seq ?_
      refine M20.tx0 (FH_2 i true) [(0,.v (.string lab)),(1,.v (.string s)),(4,.p 0 0),(5,.v (.int .i64 (i:Int))),(10,.v (.bool true))] (by kernel_rfl) ⟨RG.st fun _ _=>by kernel_rfl,RG.cert_binc rfl .lss 3 3 9 (.int .i64 (i:Int)) (.int .i64 256) (.bool true) rfl rfl (RG.sx fun _=>by kernel_rfl) (fun w=>by kernel_rfl) (lssn_t (n:=256) hi),trivial⟩ ?_
      intro a21 w21 M21
      repeat refine wp_seq ?_
      refine wp_cond_true (M21.ev (by kernel_rfl)) ?_
      refine wp_skip ?_
      refine wp_seq ?_
      refine wp_block ?_
      repeat refine wp_seq ?_
      refine M21.dr (by kernel_rfl) (FH_4 lab s i u T n true) [(6,[.int .u8 (ub u)]),(8,[.string s,.string ⟨#[u]⟩]),(14,RG.z 4)] [(3,15,wn n)] [(RG.z 12),[.int .u8 (ub u)],[.string s,.string ⟨#[u]⟩],wn n] [(0,.v (.string lab)),(1,.v (.string s)),(4,.p 0 0),(5,.v (.int .i64 (i:Int))),(6,.p 3 0),(7,.v (.bool true))] (by kernel_rfl) (by kernel_rfl) ⟨RG.cl F3_c fun _ _=>by kernel_rfl,RG.st fun _ _=>by kernel_rfl,RG.cert_bincl rfl .add 9 9 15 (.string ⟨#[112,111,105,110,116,32]⟩) (.string lab) (.string ((⟨#[112,111,105,110,116,32]⟩:ByteArray)++lab)) rfl rfl (RG.sx fun _=>by kernel_rfl) (fun w=>by kernel_rfl) (catP lab (by omega)),RG.st fun _ _=>by kernel_rfl,RG.st fun _ _=>by kernel_rfl,RG.cert_conv rfl 3 5 18 (.int .i64 (i:Int)) (.int .u8 (ub u)) rfl rfl (RG.sx fun _=>by kernel_rfl) (convU hu hi),RG.cert_bs1 1 rfl _ rfl 22 5 19 (.int .u8 (ub u)) rfl rfl (RG.sx fun _=>by kernel_rfl) (bs1 (ub u)),RG.cert_str rfl 1 6 _ rfl _ rfl rfl (by kernel_rfl) (by kernel_rfl) 22 9 20 1 (.string ⟨#[u]⟩) rfl rfl (RG.sx fun _=>by kernel_rfl) (fun w k h=>str1 u w k h),RG.mk 2 9 fun _ _=>by kernel_rfl,RG.cr [2] (fun μ w' _ hs=>rTag_c lab s u hl hs0 (μ 2) w' (hs 2 (List.Mem.head _) _ rfl (List.cons_ne_nil _ _))) fun _ _=>by kernel_rfl,RG.cl hnum fun _ _=>by kernel_rfl,RG.st fun _ _=>by kernel_rfl,RG.st fun _ _=>by kernel_rfl,RG.st fun _ _=>by kernel_rfl,RG.mk 3 59 fun _ _=>by kernel_rfl,RG.pt i33 (by kernel_rfl),RG.st fun _ _=>by kernel_rfl,trivial⟩ ?_
      intro b1 b2 b3 a22 w22 M22
      repeat refine wp_seq ?_
      refine M22.tx0 (FH_5 true) [(0,.v (.string lab)),(1,.v (.string s)),(4,.p 0 0),(5,.v (.int .i64 (i:Int))),(6,.p 3 0),(28,.v (.bool (!true)))] (by kernel_rfl) ⟨RG.st fun _ _=>by kernel_rfl,RG.st fun _ _=>by kernel_rfl,trivial⟩ ?_
      intro a23 w23 M23
      repeat refine wp_seq ?_
      refine wp_cond_false (M23.ev (by kernel_rfl)) ?_
      refine wp_skip ?_
      repeat refine wp_seq ?_
      refine M23.tx (FH_6 n x (0:Fin P) false) [(5,RG.z 12)] [(4,6,ws x++(ws (0:Fin P)++ws (1:Fin P)))] [(RG.z 12),[.int .u8 (ub u)],[.string s,.string ⟨#[u]⟩],wn n,ws x++(ws (0:Fin P)++ws (1:Fin P))] [(0,.v (.string lab)),(1,.v (.string s)),(4,.p 0 0),(5,.v (.int .i64 (i:Int))),(7,.v (.bool false)),(8,.p 4 0)] (by kernel_rfl) (by kernel_rfl) ⟨RG.ld u33 i33 (by kernel_rfl),RG.cl hat fun _ _=>by kernel_rfl,RG.st fun _ _=>by kernel_rfl,RG.st fun _ _=>by kernel_rfl,RG.st fun _ _=>by kernel_rfl,RG.mk 4 63 fun _ _=>by kernel_rfl,RG.pt i56 (by kernel_rfl),RG.st fun _ _=>by kernel_rfl,trivial⟩ ?_
      intro b4 a24 w24 M24
      repeat refine wp_seq ?_
      refine M24.tx0 (FH_7 false) [(0,.v (.string lab)),(1,.v (.string s)),(4,.p 0 0),(5,.v (.int .i64 (i:Int))),(8,.p 4 0),(34,.v (.bool false))] (by kernel_rfl) ⟨RG.st fun _ _=>by kernel_rfl,trivial⟩ ?_
      intro a25 w25 M25
      repeat refine wp_seq ?_
      refine wp_cond_false (M25.ev (by kernel_rfl)) ?_
      refine wp_skip ?_
      repeat refine wp_seq ?_
      refine M25.tx0 (FH_3 i) [(0,.v (.string lab)),(1,.v (.string s)),(4,.p 0 0),(5,.v (.int .i64 ((i+1:Nat):Int)))] (by kernel_rfl) ⟨RG.st fun _ _=>by kernel_rfl,RG.cert_binc rfl .add 3 3 11 (.int .i64 (i:Int)) (.int .i64 1) (.int .i64 ((i+1:Nat):Int)) rfl rfl (RG.sx fun _=>by kernel_rfl) (fun w=>by kernel_rfl) (addn i 1 (by omega) (by omega)),RG.st fun _ _=>by kernel_rfl,trivial⟩ ?_
      intro a26 w26 M26
      show ∃ n',_
      exact ⟨m' - 1,by omega,i+1,by omega,cands_none hnone.out hcand,RG.M.drop (cs:=[RG.z 12]) (cs2:=[_,_,_,_]) (ks:=[k4]) (ks2:=[_,_,_,_]) M26 rfl rfl⟩
     | some y =>
      rw [hr] at hcand
      have hat:=rat_y_c C x y hr
      rw [show fv x=nv n by rw [hn]] at hat hnum
      have hq:hpt P lab s.data.toList=(x,y):=hpt_at hi hnone.out hcand
      rw [hq]
      repeat refine wp_seq ?_
      refine M20.tx0 (FH_2 i true) [(0,.v (.string lab)),(1,.v (.string s)),(4,.p 0 0),(5,.v (.int .i64 (i:Int))),(10,.v (.bool true))] (by kernel_rfl) ⟨RG.st fun _ _=>by kernel_rfl,RG.cert_binc rfl .lss 3 3 9 (.int .i64 (i:Int)) (.int .i64 256) (.bool true) rfl rfl (RG.sx fun _=>by kernel_rfl) (fun w=>by kernel_rfl) (lssn_t (n:=256) hi),trivial⟩ ?_
      intro a21 w21 M21
      repeat refine wp_seq ?_
      refine wp_cond_true (M21.ev (by kernel_rfl)) ?_
      refine wp_skip ?_
      refine wp_seq ?_
      refine wp_block ?_
      repeat refine wp_seq ?_
      refine M21.dr (by kernel_rfl) (FH_4 lab s i u T n true) [(6,[.int .u8 (ub u)]),(8,[.string s,.string ⟨#[u]⟩]),(14,RG.z 4)] [(3,15,wn n)] [(RG.z 12),[.int .u8 (ub u)],[.string s,.string ⟨#[u]⟩],wn n] [(0,.v (.string lab)),(1,.v (.string s)),(4,.p 0 0),(5,.v (.int .i64 (i:Int))),(6,.p 3 0),(7,.v (.bool true))] (by kernel_rfl) (by kernel_rfl) ⟨RG.cl F3_c fun _ _=>by kernel_rfl,RG.st fun _ _=>by kernel_rfl,RG.cert_bincl rfl .add 9 9 15 (.string ⟨#[112,111,105,110,116,32]⟩) (.string lab) (.string ((⟨#[112,111,105,110,116,32]⟩:ByteArray)++lab)) rfl rfl (RG.sx fun _=>by kernel_rfl) (fun w=>by kernel_rfl) (catP lab (by omega)),RG.st fun _ _=>by kernel_rfl,RG.st fun _ _=>by kernel_rfl,RG.cert_conv rfl 3 5 18 (.int .i64 (i:Int)) (.int .u8 (ub u)) rfl rfl (RG.sx fun _=>by kernel_rfl) (convU hu hi),RG.cert_bs1 1 rfl _ rfl 22 5 19 (.int .u8 (ub u)) rfl rfl (RG.sx fun _=>by kernel_rfl) (bs1 (ub u)),RG.cert_str rfl 1 6 _ rfl _ rfl rfl (by kernel_rfl) (by kernel_rfl) 22 9 20 1 (.string ⟨#[u]⟩) rfl rfl (RG.sx fun _=>by kernel_rfl) (fun w k h=>str1 u w k h),RG.mk 2 9 fun _ _=>by kernel_rfl,RG.cr [2] (fun μ w' _ hs=>rTag_c lab s u hl hs0 (μ 2) w' (hs 2 (List.Mem.head _) _ rfl (List.cons_ne_nil _ _))) fun _ _=>by kernel_rfl,RG.cl hnum fun _ _=>by kernel_rfl,RG.st fun _ _=>by kernel_rfl,RG.st fun _ _=>by kernel_rfl,RG.st fun _ _=>by kernel_rfl,RG.mk 3 59 fun _ _=>by kernel_rfl,RG.pt i33 (by kernel_rfl),RG.st fun _ _=>by kernel_rfl,trivial⟩ ?_
      intro b1 b2 b3 a22 w22 M22
      repeat refine wp_seq ?_
      refine M22.tx0 (FH_5 true) [(0,.v (.string lab)),(1,.v (.string s)),(4,.p 0 0),(5,.v (.int .i64 (i:Int))),(6,.p 3 0),(28,.v (.bool (!true)))] (by kernel_rfl) ⟨RG.st fun _ _=>by kernel_rfl,RG.st fun _ _=>by kernel_rfl,trivial⟩ ?_
      intro a23 w23 M23
      repeat refine wp_seq ?_
      refine wp_cond_false (M23.ev (by kernel_rfl)) ?_
      refine wp_skip ?_
      repeat refine wp_seq ?_
      refine M23.tx (FH_6 n x y true) [(5,RG.z 12)] [(4,6,ws x++(ws y++ws (1:Fin P)))] [(RG.z 12),[.int .u8 (ub u)],[.string s,.string ⟨#[u]⟩],wn n,ws x++(ws y++ws (1:Fin P))] [(0,.v (.string lab)),(1,.v (.string s)),(4,.p 0 0),(5,.v (.int .i64 (i:Int))),(7,.v (.bool true)),(8,.p 4 0)] (by kernel_rfl) (by kernel_rfl) ⟨RG.ld u33 i33 (by kernel_rfl),RG.cl hat fun _ _=>by kernel_rfl,RG.st fun _ _=>by kernel_rfl,RG.st fun _ _=>by kernel_rfl,RG.st fun _ _=>by kernel_rfl,RG.mk 4 63 fun _ _=>by kernel_rfl,RG.pt i56 (by kernel_rfl),RG.st fun _ _=>by kernel_rfl,trivial⟩ ?_
      intro b4 a24 w24 M24
      repeat refine wp_seq ?_
      refine M24.tx0 (FH_7 true) [(0,.v (.string lab)),(1,.v (.string s)),(4,.p 0 0),(5,.v (.int .i64 (i:Int))),(8,.p 4 0),(34,.v (.bool true))] (by kernel_rfl) ⟨RG.st fun _ _=>by kernel_rfl,trivial⟩ ?_
      intro a25 w25 M25
      repeat refine wp_seq ?_
      refine wp_cond_true (M25.ev (by kernel_rfl)) ?_
      repeat refine wp_seq ?_
      refine M25.tx (FH_8 x y) [] [(0,1,ws x++(ws y++ws (1:Fin P)))] [ws x++(ws y++ws (1:Fin P)),[.int .u8 (ub u)],[.string s,.string ⟨#[u]⟩],wn n,ws x++(ws y++ws (1:Fin P))] [(4,.p 0 0)] (by kernel_rfl) (by kernel_rfl) ⟨RG.ld u56 i56 (by kernel_rfl),RG.pt i56 (by kernel_rfl),trivial⟩ ?_
      intro a26 w26 M26
      refine wp_ret ?_
      refine bodyPost_ret (v:=rv x y 1) (RG.results_row M26.st 4 63 rfl 0 _ rfl (M26.at (s:=(.p 0 0)) (by kernel_rfl)) u56 i56) M26.sl.defers ?_
      exact ⟨_,rfl,M26.st.bel.below,rfl⟩
   · rw [if_neg hx] at hcand
     have hnum:=rNumber_n C T hTs hx
     obtain ⟨n,hn⟩:∃ n,n=beV T.toList:=⟨_,rfl⟩
     rw [← hn] at hnum
     repeat refine wp_seq ?_
     refine M20.tx0 (FH_2 i true) [(0,.v (.string lab)),(1,.v (.string s)),(4,.p 0 0),(5,.v (.int .i64 (i:Int))),(10,.v (.bool true))] (by kernel_rfl) ⟨RG.st fun _ _=>by kernel_rfl,RG.cert_binc rfl .lss 3 3 9 (.int .i64 (i:Int)) (.int .i64 256) (.bool true) rfl rfl (RG.sx fun _=>by kernel_rfl) (fun w=>by kernel_rfl) (lssn_t (n:=256) hi),trivial⟩ ?_
     intro a21 w21 M21
     repeat refine wp_seq ?_
     refine wp_cond_true (M21.ev (by kernel_rfl)) ?_
     refine wp_skip ?_
     refine wp_seq ?_
     refine wp_block ?_
     repeat refine wp_seq ?_
     refine M21.dr (by kernel_rfl) (FH_4 lab s i u T n false) [(6,[.int .u8 (ub u)]),(8,[.string s,.string ⟨#[u]⟩]),(14,RG.z 4)] [(3,15,wn n)] [(RG.z 12),[.int .u8 (ub u)],[.string s,.string ⟨#[u]⟩],wn n] [(0,.v (.string lab)),(1,.v (.string s)),(4,.p 0 0),(5,.v (.int .i64 (i:Int))),(6,.p 3 0),(7,.v (.bool false))] (by kernel_rfl) (by kernel_rfl) ⟨RG.cl F3_c fun _ _=>by kernel_rfl,RG.st fun _ _=>by kernel_rfl,RG.cert_bincl rfl .add 9 9 15 (.string ⟨#[112,111,105,110,116,32]⟩) (.string lab) (.string ((⟨#[112,111,105,110,116,32]⟩:ByteArray)++lab)) rfl rfl (RG.sx fun _=>by kernel_rfl) (fun w=>by kernel_rfl) (catP lab (by omega)),RG.st fun _ _=>by kernel_rfl,RG.st fun _ _=>by kernel_rfl,RG.cert_conv rfl 3 5 18 (.int .i64 (i:Int)) (.int .u8 (ub u)) rfl rfl (RG.sx fun _=>by kernel_rfl) (convU hu hi),RG.cert_bs1 1 rfl _ rfl 22 5 19 (.int .u8 (ub u)) rfl rfl (RG.sx fun _=>by kernel_rfl) (bs1 (ub u)),RG.cert_str rfl 1 6 _ rfl _ rfl rfl (by kernel_rfl) (by kernel_rfl) 22 9 20 1 (.string ⟨#[u]⟩) rfl rfl (RG.sx fun _=>by kernel_rfl) (fun w k h=>str1 u w k h),RG.mk 2 9 fun _ _=>by kernel_rfl,RG.cr [2] (fun μ w' _ hs=>rTag_c lab s u hl hs0 (μ 2) w' (hs 2 (List.Mem.head _) _ rfl (List.cons_ne_nil _ _))) fun _ _=>by kernel_rfl,RG.cl hnum fun _ _=>by kernel_rfl,RG.st fun _ _=>by kernel_rfl,RG.st fun _ _=>by kernel_rfl,RG.st fun _ _=>by kernel_rfl,RG.mk 3 59 fun _ _=>by kernel_rfl,RG.pt i33 (by kernel_rfl),RG.st fun _ _=>by kernel_rfl,trivial⟩ ?_
     intro b1 b2 b3 a22 w22 M22
     repeat refine wp_seq ?_
     refine M22.tx0 (FH_5 false) [(0,.v (.string lab)),(1,.v (.string s)),(4,.p 0 0),(5,.v (.int .i64 (i:Int))),(6,.p 3 0),(28,.v (.bool (!false)))] (by kernel_rfl) ⟨RG.st fun _ _=>by kernel_rfl,RG.st fun _ _=>by kernel_rfl,trivial⟩ ?_
     intro a23 w23 M23
     repeat refine wp_seq ?_
     refine wp_cond_true (M23.ev (by kernel_rfl)) ?_
     refine wp_exit ?_
     dsimp only [Exit.then,Exit.inBlock]
     rw [if_pos rfl]
     repeat refine wp_seq ?_
     refine M23.tx0 (FH_3 i) [(0,.v (.string lab)),(1,.v (.string s)),(4,.p 0 0),(5,.v (.int .i64 ((i+1:Nat):Int)))] (by kernel_rfl) ⟨RG.st fun _ _=>by kernel_rfl,RG.cert_binc rfl .add 3 3 11 (.int .i64 (i:Int)) (.int .i64 1) (.int .i64 ((i+1:Nat):Int)) rfl rfl (RG.sx fun _=>by kernel_rfl) (fun w=>by kernel_rfl) (addn i 1 (by omega) (by omega)),RG.st fun _ _=>by kernel_rfl,trivial⟩ ?_
     intro a26 w26 M26
     show ∃ n',_
     exact ⟨m' - 1,by omega,i+1,by omega,cands_none hnone.out hcand,RG.M.drop (cs:=[RG.z 12]) (cs2:=[_,_,_]) (ks:=[k4]) (ks2:=[_,_,_]) M26 rfl rfl⟩
 · have he:i=256:=by omega
   have hq:hpt P lab s.data.toList=(gX P,gY P):=hpt_end (by have h:=hnone.out;rw [he] at h;exact h)
   rw [hq]
   have hG:Gives 79 #[] (rv (gX P) (gY P) 1):=rG_c C
   repeat refine wp_seq ?_
   refine M20.tx0 (FH_2 i false) [(0,.v (.string lab)),(1,.v (.string s)),(4,.p 0 0),(5,.v (.int .i64 (i:Int))),(10,.v (.bool false))] (by kernel_rfl) ⟨RG.st fun _ _=>by kernel_rfl,RG.cert_binc rfl .lss 3 3 9 (.int .i64 (i:Int)) (.int .i64 256) (.bool false) rfl rfl (RG.sx fun _=>by kernel_rfl) (fun w=>by kernel_rfl) (lssn_f (n:=256) hi),trivial⟩ ?_
   intro a21 w21 M21
   repeat refine wp_seq ?_
   refine wp_cond_false (M21.ev (by kernel_rfl)) ?_
   refine wp_exit ?_
   dsimp only [Exit.then,Exit.inBlock]
   rw [if_pos rfl]
   repeat refine wp_seq ?_
   refine M21.tx (FH_9 (gX P) (gY P)) [] [(0,1,ws (gX P)++(ws (gY P)++ws (1:Fin P)))] [ws (gX P)++(ws (gY P)++ws (1:Fin P))] [(4,.p 0 0)] (by kernel_rfl) (by kernel_rfl) ⟨RG.cl hG fun _ _=>by kernel_rfl,RG.pt i56 (by kernel_rfl),trivial⟩ ?_
   intro a22 w22 M22
   refine wp_ret ?_
   refine bodyPost_ret (v:=rv (gX P) (gY P) 1) (RG.results_row M22.st 4 63 rfl 0 _ rfl (M22.at (s:=(.p 0 0)) (by kernel_rfl)) u56 i56) M22.sl.defers ?_
   exact ⟨_,rfl,M22.st.bel.below,rfl⟩
end Go.Proofs.YtmkllfekhehagagGreat
namespace Go.Proofs.YtmkllfekhehagagGreat
open Go.RowKit Go.Sort Go.Deep
variable {P:Nat} [NeZero P] {N:Nat}
end Go.Proofs.YtmkllfekhehagagGreat
namespace Go.Proofs.YtmkllfekhehagagGreat
open Go.RowKit Go.Sort Go.Deep
variable {P:Nat} [NeZero P] {N:Nat}
def isSec (s:ByteArray):Bool:=decide (1≤s.size∧s.size≤64)
set_option maxHeartbeats 1000000 in
theorem r7Secret_c (s:ByteArray):Gives 49 #[.string s] (.bool (isSec s)):=by
 intro w
 unfold isSec
 by_cases h1:1≤s.size
 · have g1:(1:Int)≤(s.size:Int):=by omega
   by_cases h2:s.size≤64
   · have g2:(s.size:Int)≤64:=by omega
     rw [show decide (1≤s.size∧s.size≤64)=true by simp [h1,h2]]
     clear h1 h2
     go_enter Tryz.func49,Tryz.ntmps49
     go_wp2
     go_ret
     exact ⟨_,rfl,Below.refl _ _,rfl⟩
   · have g2:¬ (s.size:Int)≤64:=by omega
     rw [show decide (1≤s.size∧s.size≤64)=false by simp [h2]]
     clear h1 h2
     go_enter Tryz.func49,Tryz.ntmps49
     go_wp2
     go_ret
     exact ⟨_,rfl,Below.refl _ _,rfl⟩
 · have g1:¬ (1:Int)≤(s.size:Int):=by omega
   rw [show decide (1≤s.size∧s.size≤64)=false by simp [h1]]
   clear h1
   go_enter Tryz.func49,Tryz.ntmps49
   go_wp2
   go_ret
   exact ⟨_,rfl,Below.refl _ _,rfl⟩
def FLi_0:List RG.It:=[.m 2 [] 0,.x 3 [] (.int .i64 0)]
def FLi_1 (s:ByteArray) (b:Bool):List RG.It:=[.x 5 [] (.string s),.c 6 [(5,0)] (.bool b),.x 4 [(6,1)] (.bool b)]
def FLi_2 (b:Bool):List RG.It:=[.x 7 [] (.bool b),.x 8 [(7,0)] (.bool (!b))]
def FLi_3 (v:Value):List RG.It:=[.c 9 [] v,.u [(9,0)] 0,.x 3 [] (.int .i64 2)]
def FLi_4 (s:ByteArray) (v:Value):List RG.It:=[.x 10 [] (.string s),.c 11 [(10,0)] v,.u [(11,1)] 0,.x 3 [] (.int .i64 0)]
noncomputable def lfT (P:Nat) [NeZero P] (s:ByteArray):T3 P:=if isSec s then ((hpt P tokenL s.data.toList).1,(hpt P tokenL s.data.toList).2,1) else (0,1,0)
noncomputable def lfE (s:ByteArray):Int:=if isSec s then 0 else 2
set_option maxHeartbeats 2000000 in
set_option maxRecDepth 100000 in
theorem r7Lift_c (C:Fl3 P) (s:ByteArray) (hs:s.size≤4096):Gives 48 #[.string s] (.tuple #[tv (lfT P s),.int .i64 (lfE s)]):=by
 intro w
 have hS:=r7Secret_c s
 have hH:=rHash_c C tokenL s (by decide) hs
 have hN:=None_c C
 unfold lfT lfE
 generalize hpt P tokenL s.data.toList=q at hH ⊢
 obtain ⟨x,y⟩:=q
 generalize isSec s=b at hS ⊢
 go_enter Tryz.func48,Tryz.ntmps48
 refine RG.M.enter [(0,.v (.string s))] 12 (by kernel_rfl) ?_
 intro a0 M0
 repeat refine wp_seq ?_
 refine M0.tx FLi_0 [(0,RG.z 12)] [] [RG.z 12] [(0,.v (.string s)),(2,.p 0 0),(3,.v (.int .i64 0))] (by kernel_rfl) (by kernel_rfl) ⟨RG.mk 0 63 fun _ _=>by kernel_rfl,RG.st fun _ _=>by kernel_rfl,trivial⟩ ?_
 intro j1 a1 w1 M1
 repeat refine wp_seq ?_
 refine M1.tx0 (FLi_1 s b) [(0,.v (.string s)),(2,.p 0 0),(4,.v (.bool b))] (by kernel_rfl) ⟨RG.st fun _ _=>by kernel_rfl,RG.cl hS fun _ _=>by kernel_rfl,RG.st fun _ _=>by kernel_rfl,trivial⟩ ?_
 intro a2 w2 M2
 repeat refine wp_seq ?_
 refine M2.tx0 (FLi_2 b) [(0,.v (.string s)),(2,.p 0 0),(8,.v (.bool (!b)))] (by kernel_rfl) ⟨RG.st fun _ _=>by kernel_rfl,RG.st fun _ _=>by kernel_rfl,trivial⟩ ?_
 intro a3 w3 M3
 repeat refine wp_seq ?_
 cases b with
 | true =>
  refine wp_cond_false (M3.ev (v:=.bool false) (by kernel_rfl)) ?_
  refine wp_skip ?_
  repeat refine wp_seq ?_
  refine M3.tx (FLi_4 s (rv x y 1)) [] [(0,2,ws x++(ws y++ws (1:Fin P)))] [ws x++(ws y++ws (1:Fin P))] [(2,.p 0 0),(3,.v (.int .i64 0))] (by kernel_rfl) (by kernel_rfl) ⟨RG.st fun _ _=>by kernel_rfl,RG.cl hH fun _ _=>by kernel_rfl,RG.pt i56 (by kernel_rfl),RG.st fun _ _=>by kernel_rfl,trivial⟩ ?_
  intro a4 w4 M4
  refine wp_ret ?_
  refine bodyPost_ret (v:=.tuple #[rv x y 1,.int .i64 0]) (RG.results_rt M4.st 2 3 63 rfl 0 _ rfl (M4.at (s:=.p 0 0) (by kernel_rfl)) (.int .i64 0) (M4.av (by kernel_rfl)) u56 i56) M4.sl.defers ?_
  exact ⟨_,rfl,M4.st.bel.below,rfl⟩
 | false =>
  refine wp_cond_true (M3.ev (v:=.bool true) (by kernel_rfl)) ?_
  repeat refine wp_seq ?_
  refine M3.tx (FLi_3 (rv (0:Fin P) 1 0)) [] [(0,1,ws (0:Fin P)++(ws (1:Fin P)++ws (0:Fin P)))] [ws (0:Fin P)++(ws (1:Fin P)++ws (0:Fin P))] [(2,.p 0 0),(3,.v (.int .i64 2))] (by kernel_rfl) (by kernel_rfl) ⟨RG.cl hN fun _ _=>by kernel_rfl,RG.pt i56 (by kernel_rfl),RG.st fun _ _=>by kernel_rfl,trivial⟩ ?_
  intro a4 w4 M4
  refine wp_ret ?_
  refine bodyPost_ret (v:=.tuple #[rv (0:Fin P) 1 0,.int .i64 2]) (RG.results_rt M4.st 2 3 63 rfl 0 _ rfl (M4.at (s:=.p 0 0) (by kernel_rfl)) (.int .i64 2) (M4.av (by kernel_rfl)) u56 i56) M4.sl.defers ?_
  exact ⟨_,rfl,M4.st.bel.below,rfl⟩
end Go.Proofs.YtmkllfekhehagagGreat
namespace Go.Proofs.YtmkllfekhehagagGreat
open Go.RowKit Go.Sort Go.Deep
variable {P:Nat} [NeZero P] {N:Nat}
def FVa_0:List RG.It:=[.x 6 [] (.bool false)]
def FVa_1 (r:ByteArray) (n:Nat) (ok:Bool):List RG.It:=[.x 12 [] (.string r),.c 13 [(12,0)] (.tuple #[nv n,.bool ok]),.x 11 [(13,1)] (.tuple #[nv n,.bool ok]),.x 14 [(11,2)] (nv n),.x 15 [(11,2)] (.bool ok),.m 7 [] 0,.u [(7,5),(14,3)] 0,.x 8 [(15,4)] (.bool ok)]
def FVa_2 (s:ByteArray) (v:Value) (e:Int):List RG.It:=[.x 17 [] (.string s),.c 18 [(17,0)] (.tuple #[v,.int .i64 e]),.x 16 [(18,1)] (.tuple #[v,.int .i64 e]),.x 19 [(16,2)] v,.x 20 [(16,2)] (.int .i64 e),.m 9 [] 1,.u [(9,5),(19,3)] 1,.x 10 [(20,4)] (.int .i64 e)]
def FVa_3t (e:Int) (b:Bool):List RG.It:=[.x 21 [] (.bool true),.x 22 [(21,0)] (.bool false),.x 23 [(22,1)] (.bool false),.x 24 [] (.int .i64 e),.x 25 [(24,3)] (.bool b),.x 26 [(23,2),(25,4)] (.bool b)]
def FVa_3f:List RG.It:=[.x 21 [] (.bool false),.x 22 [(21,0)] (.bool true),.x 23 [(22,1)] (.bool true),⟨some 24,[],(.v undef),.pass⟩,⟨some 25,[],(.v undef),.pass⟩,.x 26 [(23,2),(25,4)] (.bool true)]
def FVa_5 (n:Nat) (v vm:Value) (T:Bs) (s:ByteArray) (b:Bool):List RG.It:=[.x 27 [] (nv n),.x 28 [] v,.c 29 [(27,0),(28,1)] vm,.c 30 [(29,2)] (.string ⟨T⟩),.x 31 [] (.string s),.x 32 [(30,3),(31,4)] (.bool b),.x 6 [(32,5)] (.bool b)]
omit [NeZero P] in
set_option maxHeartbeats 4000000 in
set_option maxRecDepth 100000 in
theorem rVa_r (k t s:ByteArray) (n:Nat) (o0 o1:Bool) (t0 tm:T3 P) (T:Bs) (hR:Gives 29 #[.string k] (.tuple #[nv n,.bool o0])) (h0:Gives 48 #[.string t] (.tuple #[tv t0,.int .i64 (if o1 then 0 else 2)]))
 (hgood:o0=true→o1=true→Gives 32 #[nv n,tv t0] (tv tm)∧Gives 33 #[tv tm] (.string ⟨T⟩)) :
 Gives 17 #[.string k,.string t,.string s] (.bool (if o0 && o1 then ((⟨T⟩:ByteArray).toList == s.toList) else false)):=by
 intro w
 go_enter Tryz.func17,Tryz.ntmps17
 refine RG.M.enter [(0,.v (.string k)),(1,.v (.string t)),(2,.v (.string s))] 33 (by kernel_rfl) ?_
 intro a0 M0
 repeat refine wp_seq ?_
 refine M0.tx0 FVa_0 [(0,.v (.string k)),(1,.v (.string t)),(2,.v (.string s))] (by kernel_rfl) ⟨RG.st fun _ _=>by kernel_rfl,trivial⟩ ?_
 intro a1 w1 M1
 repeat refine wp_seq ?_
 refine M1.tx (FVa_1 k n o0) [(5,RG.z 4)] [(0,6,wn n)] [wn n] [(1,.v (.string t)),(2,.v (.string s)),(7,.p 0 0),(8,.v (.bool o0))] (by kernel_rfl) (by kernel_rfl) ⟨RG.st fun _ _=>by kernel_rfl,RG.cl hR fun _ _=>by kernel_rfl,RG.st fun _ _=>by kernel_rfl,RG.st fun _ _=>by kernel_rfl,RG.st fun _ _=>by kernel_rfl,RG.mk 0 59 fun _ _=>by kernel_rfl,RG.pt i33 (by kernel_rfl),RG.st fun _ _=>by kernel_rfl,trivial⟩ ?_
 intro j2 a2 w2 M2
 repeat refine wp_seq ?_
 refine M2.tx (FVa_2 t (tv t0) (if o1 then 0 else 2)) [(5,RG.z 12)] [(1,6,tw t0)] [wn n,tw t0] [(2,.v (.string s)),(7,.p 0 0),(9,.p 1 0),(8,.v (.bool o0)),(10,.v (.int .i64 (if o1 then 0 else 2)))] (by kernel_rfl) (by kernel_rfl) ⟨RG.st fun _ _=>by kernel_rfl,RG.cl h0 fun _ _=>by kernel_rfl,RG.st fun _ _=>by kernel_rfl,RG.st fun _ _=>by kernel_rfl,RG.st fun _ _=>by kernel_rfl,RG.mk 1 63 fun _ _=>by kernel_rfl,RG.pt i56 (by kernel_rfl),RG.st fun _ _=>by kernel_rfl,trivial⟩ ?_
 intro j4 a4 w4 M4
 repeat refine wp_seq ?_
 cases o0 with
 | false =>
  refine M4.tx0 FVa_3f [(26,.v (.bool true))] (by kernel_rfl) ⟨RG.st fun _ _=>by kernel_rfl,RG.st fun _ _=>by kernel_rfl,RG.st fun _ _=>by kernel_rfl,RG.cert_pass rfl rfl,RG.cert_pass rfl rfl,RG.st fun _ _=>by kernel_rfl,trivial⟩ ?_
  intro a6 w6 M6
  repeat refine wp_seq ?_
  refine wp_cond_true (M6.ev (v:=.bool true) (by kernel_rfl)) ?_
  repeat refine wp_seq ?_
  refine M6.tx0 FVa_0 [(6,.v (.bool false))] (by kernel_rfl) ⟨RG.st fun _ _=>by kernel_rfl,trivial⟩ ?_
  intro a7 w7 M7
  refine wp_ret ?_
  refine bodyPost_ret (v:=.bool false) (RG.results_t 6 rfl _ (M7.av (by kernel_rfl))) M7.sl.defers ?_
  exact ⟨_,rfl,M7.st.bel.below,rfl⟩
 | true =>
  cases o1 with
  | false =>
   refine M4.tx0 (FVa_3t 2 true) [(26,.v (.bool true))] (by kernel_rfl) ⟨RG.st fun _ _=>by kernel_rfl,RG.st fun _ _=>by kernel_rfl,RG.st fun _ _=>by kernel_rfl,RG.st fun _ _=>by kernel_rfl,RG.st fun _ _=>by kernel_rfl,RG.st fun _ _=>by kernel_rfl,trivial⟩ ?_
   intro a6 w6 M6
   repeat refine wp_seq ?_
   refine wp_cond_true (M6.ev (v:=.bool true) (by kernel_rfl)) ?_
   repeat refine wp_seq ?_
   refine M6.tx0 FVa_0 [(6,.v (.bool false))] (by kernel_rfl) ⟨RG.st fun _ _=>by kernel_rfl,trivial⟩ ?_
   intro a7 w7 M7
   refine wp_ret ?_
   refine bodyPost_ret (v:=.bool false) (RG.results_t 6 rfl _ (M7.av (by kernel_rfl))) M7.sl.defers ?_
   exact ⟨_,rfl,M7.st.bel.below,rfl⟩
  | true =>
   obtain ⟨hm,hw⟩:=hgood rfl rfl
   refine M4.tx0 (FVa_3t 0 false) [(2,.v (.string s)),(7,.p 0 0),(9,.p 1 0),(26,.v (.bool false))] (by kernel_rfl) ⟨RG.st fun _ _=>by kernel_rfl,RG.st fun _ _=>by kernel_rfl,RG.st fun _ _=>by kernel_rfl,RG.st fun _ _=>by kernel_rfl,RG.st fun _ _=>by kernel_rfl,RG.st fun _ _=>by kernel_rfl,trivial⟩ ?_
   intro a6 w6 M6
   repeat refine wp_seq ?_
   refine wp_cond_false (M6.ev (v:=.bool false) (by kernel_rfl)) ?_
   refine wp_skip ?_
   repeat refine wp_seq ?_
   refine M6.tx0 (FVa_5 n (tv t0) (tv tm) T s ((⟨T⟩:ByteArray).toList == s.toList)) [(6,.v (.bool ((⟨T⟩:ByteArray).toList == s.toList)))] (by kernel_rfl) ⟨RG.ld u33 i33 (by kernel_rfl),RG.ld u56 i56 (by kernel_rfl),RG.cl hm fun _ _=>by kernel_rfl,RG.cl hw fun _ _=>by kernel_rfl,RG.st fun _ _=>by kernel_rfl,RG.st fun _ _=>by kernel_rfl,RG.st fun _ _=>by kernel_rfl,trivial⟩ ?_
   intro a7 w7 M7
   refine wp_ret ?_
   refine bodyPost_ret (v:=.bool ((⟨T⟩:ByteArray).toList == s.toList)) (RG.results_t 6 rfl _ (M7.av (by kernel_rfl))) M7.sl.defers ?_
   exact ⟨_,rfl,M7.st.bel.below,rfl⟩
theorem beqL (a b:Bs):((⟨a⟩:ByteArray).toList == (⟨b⟩:ByteArray).toList)=decide (b=a):=by
 by_cases h:b=a
 · subst h
   simp
 · rw [decide_eq_false h]
   have:¬ ((⟨a⟩:ByteArray).toList=(⟨b⟩:ByteArray).toList):=fun e=>by
    rw [ByteArray.toList_eq,ByteArray.toList_eq] at e
    exact h (Array.toList_inj.1 e).symm
   simpa using this
theorem sec_kOk (bs:Bs):sec N bs=kOk N bs:=by
 unfold sec kOk
 cases hr:rq N bs with
 | none=>rfl
 | some n=>rw [← rq_nu hr];rfl
set_option maxRecDepth 100000 in
theorem rVa_c (C:Fl3 P) (O:Ord N) (k t s:ByteArray) (ht:t.size≤4096):Gives 17 #[.string k,.string t,.string s] (.bool (vld P N k.data t.size t.data.toList s.data)):=by
 have hS:=qSecret_c O k
 have hL:=r7Lift_c C t ht
 have hx:(if sec N k.data && isSec t then ((⟨tkT P N k.data t.data.toList⟩:ByteArray).toList == s.toList) else false)=vld P N k.data t.size t.data.toList s.data:=by
  have hb:((⟨tkT P N k.data t.data.toList⟩:ByteArray).toList == s.toList)=decide (s.data=tkT P N k.data t.data.toList):=beqL _ s.data
  rw [hb,sec_kOk]
  unfold vld
  show _=(kOk N k.data && isSec t && (rd P s.data).isSome && _)
  by_cases h:s.data=tkT P N k.data t.data.toList
  · have hon:=EC.mul_on C.toFld.cur (hpt_on C.toFld tokenL t.data.toList) ((rq N k.data).getD 0)
    obtain ⟨p,hp,-⟩:=rd_wr C.toFld hon
    have:rd P s.data=some p:=by rw [h];exact hp
    rw [this,decide_eq_true h]
    cases kOk N k.data <;> cases isSec t <;> rfl
  · rw [decide_eq_false h,Bool.and_false]
    cases kOk N k.data <;> cases isSec t <;> rfl
 rw [← hx]
 have hE:lfE t=(if isSec t then 0 else 2):=rfl
 rw [hE] at hL
 refine rVa_r k t s (nuV k.data) (sec N k.data) (isSec t) (lfT P t) (tmF (nuV k.data) (lfT P t) 256) (tkT P N k.data t.data.toList) hS hL ?_
 intro hs hi
 have hon:=hpt_on C.toFld tokenL t.data.toList
 have hF1:FracT (lfT P t) (.some (hpt P tokenL t.data.toList):EC.Pt P):=by
  unfold lfT
  rw [hi]
  exact ⟨frac_one C.toFld _ _,hon⟩
 have hnt:=nuV_top k.data
 have fm:FracT (tmF (nuV k.data) (lfT P t) 256) (EC.mul (nuV k.data) (.some (hpt P tokenL t.data.toList):EC.Pt P)):=by
  have h:=tmF_F C (n:=nuV k.data) (by unfold top at hnt;omega) hF1 256 (Nat.le_refl _)
  rwa [Nat.sub_self,Nat.pow_zero,Nat.div_one] at h
 have hT:tkT P N k.data t.data.toList=wr (EC.mul (nuV k.data) (.some (hpt P tokenL t.data.toList):EC.Pt P)):=by
  unfold tkT
  unfold sec at hs
  cases hr:rq N k.data with
  | none=>rw [hr] at hs;cases hs
  | some n=>rw [← rq_nu hr];rfl
 rw [hT]
 exact ⟨rTimes_c C _ hnt _ hF1,rWritten_c C fm⟩
end Go.Proofs.YtmkllfekhehagagGreat
namespace Go.Proofs.YtmkllfekhehagagGreat
open Go.RowKit Go.Sort Go.Deep
theorem fl3:∃ (P:Nat) (_:NeZero P),Fl3 P:=by
 obtain ⟨P,hz,hP,hc⟩:=EC.cur
 have h0:P=Go.Proofs.YtmkllfekhehagagGreat.p0:=by rw [hP];decide +kernel
 have hg:=gap0
 have hr:=refP0
 have h2:2≤Go.Proofs.YtmkllfekhehagagGreat.p0 % 18446744073709551616:=by decide +kernel
 have h4:Go.Proofs.YtmkllfekhehagagGreat.p0 / 4 % 18446744073709551616 < 18446744073709551615:=by decide +kernel
 have h3:Go.Proofs.YtmkllfekhehagagGreat.p0 % 4=3:=by decide +kernel
 have h7:7 < Go.Proofs.YtmkllfekhehagagGreat.p0:=by decide +kernel
 rw [← h0] at hg hr h2 h4 h3 h7
 exact ⟨P,hz,⟨⟨hg,hc,h2,h4,h3,h7⟩,hr⟩⟩
end Go.Proofs.YtmkllfekhehagagGreat
namespace Go.Proofs.YtmkllfekhehagagGreat.EC
variable {P:Nat} [NeZero P]
def fo {α:Type} (x:Fin P) (f:Fin P→α):α :=
 match x.val with
 | 0=>f (Fin.ofNat P 0)
 | n+1=>f (Fin.ofNat P (n+1))
theorem fo_eq {α:Type} (x:Fin P) (f:Fin P→α):fo x f=f x:=by
 have hx:Fin.ofNat P x.val=x:=Fin.ext (Nat.mod_eq_of_lt x.isLt)
 unfold fo
 split
 · next h=>rw [h] at hx;rw [hx]
 · next n h=>rw [h] at hx;rw [hx]
def runs (u v:Fin P) (e:Nat):Nat→Fin P→Fin P→Fin P→Bool
 | 0,_,_,z=>decide (z=0)
 | k+1,x,y,z=>fo (twX x y) fun X=>fo (twY x y) fun Y=>fo (twZ y z) fun Z =>
  if e / 2 ^ k % 2=1 then
   if Z=0 then false else
   fo (plAx X 1) fun ax=>fo (plAy Y 1) fun ay=>fo (plAx u Z) fun bx=>fo (plAy v Z) fun bY =>
   if ax=bx∧ay=bY then false else
   fo (plX ax ay bx bY) fun a=>fo (plY ax ay bx bY) fun b=>fo (plZ Z 1 ax bx) fun c=>runs u v e k a b c
  else runs u v e k X Y Z
theorem one_ne (C:Cur P):(1:Fin P)≠0:=fun h=>C.two (by
 calc (2:Fin P)=2*1:=by grobner
  _=0:=by rw [h];grobner)
theorem runs_ok (C:Cur P) {u v:Fin P} (hg:On (some (u,v))) (e:Nat):∀ (k m:Nat) (x y z:Fin P),Jac x y z (mul m (some (u,v)))→runs u v e k x y z=true→mul (m*2 ^ k+e % 2 ^ k) (some (u,v))=none
 | 0,m,x,y,z,hj,h=>by
  have hz:z=0:=of_decide_eq_true h
  rw [Nat.pow_zero,Nat.mod_one,Nat.mul_one,Nat.add_zero]
  exact hj.zero C hz
 | k+1,m,x,y,z,hj,h=>by
  have hm:=mul_on C hg m
  have h1:=hj.twice C hm
  rw [← mul_add C hg] at h1
  have hb:e % 2 ^ (k+1)=e / 2 ^ k % 2*2 ^ k+e % 2 ^ k:=by
   rw [Nat.pow_succ,Nat.mod_mul,Nat.mul_comm (2 ^ k) (e / 2 ^ k % 2),Nat.add_comm]
  have hp:2 ^ (k+1)=2*2 ^ k:=by rw [Nat.pow_succ,Nat.mul_comm]
  unfold runs at h
  simp only [fo_eq] at h
  by_cases hbit:e / 2 ^ k % 2=1
  · rw [if_pos hbit] at h
    by_cases hZ:twZ y z=0
    · rw [if_pos hZ] at h
      cases h
    · rw [if_neg hZ] at h
      have hj1:Jac u v 1 (some (u,v)):=⟨one_ne C,by grobner,by grobner⟩
      rcases h1.plus C (mul_on C hg _) hj1 hg hZ (one_ne C) with ⟨e1,e2,-⟩ | ⟨e1,e2⟩
      · rw [if_pos ⟨e1,e2⟩] at h
        cases h
      · rw [if_neg e1] at h
        have h2:=runs_ok C hg e k (m+m+1) _ _ _ e2 h
        rw [hb,hbit,hp]
        rw [show m*(2*2 ^ k)+(1*2 ^ k+e % 2 ^ k)=(m+m+1)*2 ^ k+e % 2 ^ k by
         rw [Nat.add_mul,Nat.add_mul,← Nat.mul_assoc,Nat.mul_comm m 2,Nat.two_mul,Nat.add_mul];omega]
        exact h2
  · rw [if_neg hbit] at h
    have h0:e / 2 ^ k % 2=0:=by omega
    have h2:=runs_ok C hg e k (m+m) _ _ _ h1 h
    rw [hb,h0,hp]
    rw [show m*(2*2 ^ k)+(0*2 ^ k+e % 2 ^ k)=(m+m)*2 ^ k+e % 2 ^ k by
     rw [← Nat.mul_assoc,Nat.mul_comm m 2,Nat.two_mul];omega]
    exact h2
def pL:Nat:=115792089237316195423570985008687907853269984665640564039457584007908834671663
def nL:Nat:=115792089237316195423570985008687907852837564279074904382605163141518161494337
instance:NeZero pL:=⟨by decide +kernel⟩
theorem runs_g:runs (P:=pL) (Fin.ofNat pL 55066263022277343669578718895168534326250603453777594175500187360389116729240) (Fin.ofNat pL 32670510020758816978083085130507043184471273380659243275938904335757337482424) nL 255 (Fin.ofNat pL 55066263022277343669578718895168534326250603453777594175500187360389116729240) (Fin.ofNat pL 32670510020758816978083085130507043184471273380659243275938904335757337482424) 1=true:=by decide +kernel
theorem small_n:2*pL+1 < 3*nL:=by decide +kernel
theorem high_n:1*2 ^ 255+nL % 2 ^ 255=nL:=by decide +kernel
theorem order (C:Cur P) (hP:P=pL) (hg:On (some (Fin.ofNat P 55066263022277343669578718895168534326250603453777594175500187360389116729240,Fin.ofNat P 32670510020758816978083085130507043184471273380659243275938904335757337482424))) {r:Pt P} (hr:On r):mul nL r=none:=by
 subst hP
 refine order_of C (n:=nL) NT.pN small_n hg (fun h=>by cases h) ?_ hr
 have h:=runs_ok C hg nL 255 1 _ _ 1 (by
  show Jac _ _ 1 (add none _)
  rw [none_add]
  exact ⟨one_ne C,by grobner,by grobner⟩) runs_g
 rwa [high_n] at h
end Go.Proofs.YtmkllfekhehagagGreat.EC
namespace Go.Proofs.YtmkllfekhehagagGreat
variable {P:Nat} [NeZero P]
end Go.Proofs.YtmkllfekhehagagGreat
namespace Go.Proofs.YtmkllfekhehagagGreat
open Go.RowKit Go.Sort Go.Deep
variable {P:Nat} [NeZero P] {N:Nat}
set_option maxHeartbeats 1000000 in
set_option maxRecDepth 100000 in
theorem Lift_e (C:Fld P) (ta:Option Addr) (tl tc:Nat) (tx:List UInt8) (w:World) (hP:SP.PartOk w (.slice ta tl tc) tx) (h1:1≤tl) (h2:tl≤64) :
 Calls Tryz.prog 15 #[.slice ta tl tc] w (Ret fun e w'=>Below w.heap.size w w'∧∃ x c,e=.tuple #[.slice x 33 c,.int .i64 0]∧El 33 w' (.slice x 33 c) (wr (.some (hpt P tokenL tx):EC.Pt P))):=by
 have HL:=Hid.mk' (lifted_y C ta tl tc tx w hP h1 h2)
 obtain ⟨T,hT⟩:∃ T,Hid (wr (.some (hpt P tokenL tx):EC.Pt P)=T):=⟨_,rfl⟩
 have hTs:Hid (T.size=33):=by rw [← hT.out];exact wr_size _
 rw [hT.out] at HL ⊢
 clear C hP h1 h2
 obtain ⟨vt,hvt⟩:∃ vt,Hid (pvl T=vt):=⟨_,rfl⟩
 rw [hvt.out] at HL
 obtain ⟨d,hd1,hd2⟩:=Option.map_eq_some_iff.1 uCP
 have HD:Hid (Tryz.prog.underlying 50=some d∧d.isRow=true):=⟨hd1,hd2⟩
 clear hd1 hd2
 go_enter Tryz.func15,Tryz.ntmps15
 go_wp2_with fail
 refine HL.out.mono ?_
 rintro e w1 ⟨vv,rfl,hb1,rfl⟩
 obtain ⟨k4,hk4⟩:∃ k4,Hid (w1.heap.size=k4):=⟨_,rfl⟩
 obtain ⟨w2,hw2⟩:∃ w2,Hid (w1.alloc (.cells z33.toArray 50)=w2):=⟨_,rfl⟩
 obtain ⟨w3,hw3⟩:∃ w3,Hid (w2.setCells k4 0 (bl33 T)=w3):=⟨_,rfl⟩
 have hlen:(bl33 T).length=33:=bl33_length hTs.out
 have F2:Hid (Row w2 k4 z33∧Below w.heap.size w w2∧w.heap.size≤k4):=by
  rw [← hw2.out,← hk4.out]
  exact ⟨row_new w1 _ _,hb1.alloc hb1.size _,hb1.size⟩
 have K3:Hid (Row w3 k4 (bl33 T)∧Below w.heap.size w w3):=by
  rw [← hw3.out]
  exact ⟨F2.out.1.put (by rw [hlen];rfl),RG.below_setCells F2.out.2.2 _ _ _ F2.out.2.1⟩
 have HI:Hid ((Tryz.prog.info? 50).map (·.size)=some (bl33 T).length∧w2.there k4 0 (bl33 T).toArray.size∧(Tryz.prog.info? 50).map (·.size)=some (bl33 T).toArray.size):=by
  have e:(bl33 T).toArray.size=33:=by rw [List.size_toArray];exact hlen
  refine ⟨by rw [hlen];exact infoCP,by rw [e];exact F2.out.1.2.2,by rw [e];exact infoCP⟩
 clear hlen hb1 HL
 go_wp2_with (first | (refine wpList_op (v:=.pointer (some ⟨k4,0,none⟩)) (w':=w2) rfl (.alloc 50) rfl ?_ ?_;(rw [← hw2.out,← hk4.out];kernel_rfl)) | (refine wpList_store_mid rfl 50 _ _ rfl k4 0 (bl33 T).toArray ?_ ?_ ?_ ?_ ?_ ?_;rfl;exact hvt.out.symm;exact HI.out.2.1;exact HI.out.2.2;exact bl33_one T;rw [show (bl33 T).toArray.toList=bl33 T from rfl,hw3.out]) | (refine wpList_load_mid rfl 50 _ rfl k4 0 ?_ (bl33 T) d ?_ ?_ ?_ ?_ ?_;rfl;exact K3.out.1.2.1;exact HD.out.1;exact HD.out.2;exact HI.out.1;rw [show Value.agg (bl33 T).toArray=vt from hvt.out]) | fail)
 have HB:=ptBytes_c hTs.out w3
 rw [hvt.out] at HB
 refine HB.mono ?_
 rintro e w4 ⟨vv,rfl,hb4,hE⟩
 obtain ⟨k5,c5,rfl,hE'⟩:=hE
 have K4:Hid (Below w.heap.size w w4∧El 33 w4 (.slice (some ⟨k5,0,none⟩) 33 c5) T):=⟨K3.out.2.trans (hb4.mono K3.out.2.size),⟨k5,c5,rfl,hE'⟩⟩
 clear hb4 hE' HB
 go_wp2
 go_ret2
 exact ⟨_,rfl,K4.out.1,_,_,rfl,K4.out.2⟩
theorem one_part {W:World} {k:Nat} {s:Bs} {cap:Nat} (hc:s.size≤cap) (hs:s.size≤16384) (h:Holds encB W k 0 s):SP.PartOk W (.slice (some ⟨k,0,none⟩) s.size cap) s.toList :=
 ⟨_,k,0,cap,s,rfl,rfl,hc,by omega,Or.inr ⟨rfl,h⟩⟩
def kOne:Bs:=(Array.replicate 32 (0:UInt8)).setIfInBounds 31 1
theorem kOne_val:beV kOne.toList=1:=by decide +kernel
theorem kOne_rq (hN:1 < N):rq N kOne=some 1:=by
 unfold rq
 rw [kOne_val,if_pos ⟨by decide +kernel,hN⟩]
theorem vld_one (C:Fld P) (hN:1 < N) (tx:List UInt8):vld P N kOne 1 tx (wr (.some (hpt P tokenL tx):EC.Pt P))=true:=by
 unfold vld kOk tkT
 have hon:=hpt_on C tokenL tx
 rw [kOne_rq hN]
 generalize (.some (hpt P tokenL tx):EC.Pt P)=X at hon ⊢
 obtain ⟨p,hp,-⟩:=rd_wr C hon
 have h1:EC.mul ((some 1:Option Nat).getD 0) X=X:=EC.none_add X
 rw [h1,hp,decide_eq_true (Eq.refl (wr X))]
 rfl
set_option maxHeartbeats 2000000 in
set_option maxRecDepth 100000 in
theorem valid_all (C:Fl3 P) (O:Ord N) (hN1:1 < N) (s r p:ByteArray) (w0:World) :
 Calls Tryz.prog 5 #[.string s,.string r,.string p] w0 fun e w'=>e=.returned (.bool true)∧Below w0.heap.size w0 w':=by
 have HV:=Hid.mk' (fun v0 v2 kb sb ta tl tc tx w=>Valid_any C.toFld O v0 v2 kb sb ta tl tc tx w)
 have HR:=Hid.mk' (rVa_c C O s r p)
 have HL:=Hid.mk' (fun ta tc w h=>Lift_e C.toFld ta 1 tc [97] w h (Nat.le_refl _) (by decide))
 have HO:=Hid.mk' (vld_one C.toFld hN1 [97])
 obtain ⟨Y,hY⟩:∃ Y,Hid (wr (.some (hpt P tokenL [97]):EC.Pt P)=Y):=⟨_,rfl⟩
 rw [hY.out] at HL HO
 have hsz:Hid ((¬ (4096:Int) < (s.size:Int)∧¬ (4096:Int) < (r.size:Int)∧¬ (4096:Int) < (p.size:Int))∨((4096:Int) < (s.size:Int))∨(¬ (4096:Int) < (s.size:Int)∧(4096:Int) < (r.size:Int))∨(¬ (4096:Int) < (s.size:Int)∧¬ (4096:Int) < (r.size:Int)∧(4096:Int) < (p.size:Int))):=by
  unfold Hid
  omega
 clear C O hN1 hY
 have hmk:=mk32 w0
 obtain ⟨k0,hk0⟩:∃ k0,w0.heap.size=k0:=⟨_,rfl⟩
 obtain ⟨w1,hw1⟩:∃ w1,w0.alloc (.cells (madeCells #[.int .u8 0] 32) 5)=w1:=⟨_,rfl⟩
 have H0:Holds encB w1 k0 0 (Array.replicate 32 0):=by rw [← hw1,← hk0];exact Holds.made (enc:=encB) w0 5 32 0
 have hB1:Below w0.heap.size w0 w1:=by rw [← hw1];exact (Below.refl _ _).alloc (Nat.le_refl _) _
 have hl1:k0 < w1.heap.size:=by rw [← hw1,← hk0];simp
 rw [hk0,hw1] at hmk
 obtain ⟨c31,f31⟩:=H0 31 (by decide)
 rw [Nat.zero_add] at c31 f31
 obtain ⟨w2,hw2⟩:∃ w2,w1.setCell ⟨k0,31,none⟩ (.int .u8 1)=w2:=⟨_,rfl⟩
 have H2:Holds encB w2 k0 0 kOne:=by
  have:=Holds.set H0 (i:=31) (by decide) 1
  rw [Nat.zero_add] at this
  rw [← hw2]
  exact this
 have hB2:Below w0.heap.size w0 w2:=by
  rw [← hw2]
  exact hB1.setCell (p:=⟨k0,31,none⟩) (by show w0.heap.size≤k0;omega) _
 have hl2:k0 < w2.heap.size:=by rw [← hw2];simpa using hl1
 have A2:Arg w2 (.slice (some ⟨k0,0,none⟩) 32 32) kOne:=⟨_,_,_,rfl,by decide,fun _=>⟨k0,0,rfl,by omega,hl2,H2⟩⟩
 obtain ⟨w3,hw3⟩:∃ w3,w2.alloc (.cells #[.int .u8 97] 5 (1,2))=w3:=⟨_,rfl⟩
 have hpart:∀ W:World,SP.PartOk (W.alloc (.cells #[.int .u8 97] 5 (1,2))) (.slice (some ⟨W.heap.size,0,none⟩) 1 1) [97]:=fun W=>by
  refine one_part (s:=#[97]) (by decide) (by decide) (fun j hj=>?_)
  have hj0:j=0:=by simpa using hj
  subst hj0
  have hh:(W.alloc (.cells #[.int .u8 97] 5 (1,2))).heap[W.heap.size]? = some (.cells #[.int .u8 97] 5 (1,2)):=by
   show (W.heap.push _)[W.heap.size]? = _
   exact Array.getElem?_push_size
  exact ⟨by unfold World.cell?;simp only [hh];rfl,by unfold World.frozen?;simp only [hh];rfl⟩
 have hs2:w2.heap.size=w1.heap.size:=by rw [← hw2];simp
 have P3:=hpart w2
 rw [hw3,hs2] at P3
 have hB23:Below w2.heap.size w2 w3:=by rw [← hw3];exact (Below.refl _ _).alloc (Nat.le_refl _) _
 have HB:Hid (Below w0.heap.size w0 w3∧Arg w3 (.slice (some ⟨k0,0,none⟩) 32 32) kOne∧SP.PartOk w3 (.slice (some ⟨w1.heap.size,0,none⟩) 1 1) [97]):=⟨hB2.trans (hB23.mono hB2.size),A2.below hB23,P3⟩
 have HPA:=Hid.mk' hpart
 have HW2:=Hid.mk' hw2
 have HW3:=Hid.mk' hw3
 have hcv:=Lib.run_convert_bytes_const (P:=Tryz.prog) w2 22 5 #[.int .u8 97] 1 1 slice22 int5
 rw [hs2,← hw2] at hcv
 clear hB1 hB2 hB23 A2 P3 H0 H2 hl1 hl2 hk0 hw1 hw3 hw2 hs2 hpart
 go_enter Tryz.func5,Tryz.ntmps5
 go_wp2_with fail
 rw [HW2.out,HW3.out]
 refine (HL.out _ _ w3 HB.out.2.2).mono ?_
 rintro e w4 ⟨vv,rfl,hb4,x,c,rfl,hE⟩
 have K4:Hid (Below w0.heap.size w0 w4∧Arg w4 (.slice (some ⟨k0,0,none⟩) 32 32) kOne∧El 33 w4 (.slice x 33 c) Y):=⟨HB.out.1.trans (hb4.mono HB.out.1.size),HB.out.2.1.below hb4,hE⟩
 have hcv4:=Lib.run_convert_bytes_const (P:=Tryz.prog) w4 22 5 #[.int .u8 97] 1 1 slice22 int5
 clear hb4 hE HL HB HW2 HW3 hmk c31 f31 hcv
 go_wp2_with fail
 have hB45:Below w4.heap.size w4 (w4.alloc (.cells #[.int .u8 97] 5 (1,2))):=(Below.refl _ _).alloc (Nat.le_refl _) _
 refine (HV.out _ _ kOne Y _ _ _ [97] _ (K4.out.2.1.below hB45) (HPA.out w4) (K4.out.2.2.arg33.below hB45)).mono ?_
 rintro e w6 ⟨vv,rfl,hb6,rfl⟩
 rw [HO.out]
 have K6:Hid (Below w0.heap.size w0 w6):=(K4.out.1.trans (hB45.mono K4.out.1.size)).trans (hb6.mono ((K4.out.1.trans (hB45.mono K4.out.1.size)).size))
 clear hb6 hB45 K4 HO HPA hcv4
 rcases hsz.out with ⟨g1,g2,g3⟩ | g1 | ⟨g1,g2⟩ | ⟨g1,g2,g3⟩
 · clear hsz
   have HR2:=Hid.mk' (HR.out (by omega))
   have hr16:Hid (r.size≤16384):=by unfold Hid;omega
   clear HR
   obtain ⟨cap1,w7,hc1,hcc1,hb7,hH1,hlt1⟩:=conv_of s w6
   obtain ⟨cap2,w8,hc2,hcc2,hb8,hH2,hlt2⟩:=conv_of r w7
   obtain ⟨cap3,w9,hc3,hcc3,hb9,hH3,hlt3⟩:=conv_of p w8
   have hb79:=hb8.trans (hb9.mono hb8.size)
   have hb69:=hb7.trans (hb79.mono hb7.size)
   have HB:Hid (Below w0.heap.size w0 w9):=K6.out.trans (hb69.mono K6.out.size)
   have A1:Hid (Arg w9 (.slice (some ⟨w6.heap.size,0,none⟩) s.size cap1) s.data):=⟨_,_,_,rfl,rfl,fun h=>⟨_,0,rfl,by omega,Nat.lt_of_lt_of_le hlt1 hb79.size,Holds.below hH1 hb79 hlt1⟩⟩
   have A2:Hid (SP.PartOk w9 (.slice (some ⟨w7.heap.size,0,none⟩) r.size cap2) r.data.toList):=one_part (s:=r.data) hcc2 hr16.out (Holds.below hH2 hb9 hlt2)
   have A3:Hid (Arg33 w9 (.slice (some ⟨w8.heap.size,0,none⟩) p.size cap3) p.data):=⟨_,_,_,rfl,rfl,fun h=>⟨_,0,rfl,by omega,hlt3,hH3⟩⟩
   clear hb7 hb8 hb9 hb79 hb69 hH1 hH2 hH3 hlt1 hlt2 hlt3 hcc1 hcc2 hcc3 K6 hr16
   have HV2:=Hid.mk' (HV.out _ _ s.data p.data _ _ _ r.data.toList w9 A1.out A2.out A3.out)
   clear HV A1 A2 A3
   generalize vld P N s.data r.size r.data.toList p.data=b at HR2 HV2
   go_wp2_with fail
   refine HV2.out.mono ?_
   rintro e wa ⟨vv,rfl,hba,rfl⟩
   have Ka:Hid (Below w0.heap.size w0 wa):=HB.out.trans (hba.mono HB.out.size)
   clear hba HB HV2 hc1 hc2 hc3 g1 g2 g3
   go_wp2_with fail
   refine (HR2.out wa).mono ?_
   rintro e wb ⟨vv,rfl,hbb,rfl⟩
   have Kb:Hid (Below w0.heap.size w0 wb):=Ka.out.trans (hbb.mono Ka.out.size)
   clear hbb Ka HR2
   cases b
   · go_wp2
     go_ret
     exact ⟨rfl,Kb.out⟩
   · go_wp2
     go_ret
     exact ⟨rfl,Kb.out⟩
 · clear hsz HV HR
   go_wp2
   go_ret
   exact ⟨rfl,K6.out⟩
 · clear hsz HV HR
   go_wp2
   go_ret
   exact ⟨rfl,K6.out⟩
 · clear hsz HV HR
   go_wp2
   go_ret
   exact ⟨rfl,K6.out⟩
theorem ordV:Ord Go.Proofs.YtmkllfekhehagagGreat.p1:=⟨gap1,refP1,by decide +kernel,by decide +kernel⟩
theorem valid_any (a b c:ByteArray) (w0:World) :
 Calls Tryz.prog 5 #[.string a,.string b,.string c] w0 fun e w'=>e=.returned (.bool true)∧Below w0.heap.size w0 w':=by
 obtain ⟨P,hz,C⟩:=fl3
 exact valid_all C ordV (by decide +kernel) a b c w0
end Go.Proofs.YtmkllfekhehagagGreat
/-
  THE ROW OF 'BlindValid' round its walk; the frame by the guide's program (howto/shells), the world behind the call told by 'Below'.
-/
namespace Go.Proofs.YtmkllfekhehagagGreat.blindValid
open Go.ChangeShapes Go.WideShapes Go.ChangeAt Go.RowKit
open Go.ChangeMaps (open_string shut_string)
theorem own:ownKnob Tryz.prog.godebug=none:=by kernel_rfl
set_option maxRecDepth 100000 in
theorem lifted (os:Os) (started:os.Started) (H:Type) (enc:TypeId × Value→H) :
 ReturnsInHanded {} Tryz.checked os 5 .any (Rows.blindValidSpec.pre6 enc Tryz.prog Tryz.f5 Rows.blindValidRow.domain false) (Rows.blindValidSpec.post enc Tryz.prog Tryz.f5 false true false false):=by
 refine returnsInHanded_of_change (C:=Tryz.checked) own started (by kernel_rfl) Tryz.func5
  (ChangeSpec.witness6 (enc:=enc) (C:=Tryz.checked) false ⟨#[],#[.string ByteArray.empty,.string ByteArray.empty,.string ByteArray.empty],[]⟩ 8 (by kernel_rfl) (by kernel_rfl) (by kernel_rfl) (by kernel_rfl)) ?_
 intro W base args ds gs before hval0 hW hcnd _
 have hval:∀ (j:Nat) t v,Tryz.f5.params[j]? = some t→args[j]? = some v→Value.okWide Tryz.prog W .any base t v:=hval0
 have hW':=hW
 obtain ⟨p,q,hA0,hV,rfl,hfz,hnd⟩:=hW
 have hA:DataW.TrodAll enc Tryz.prog W 0 (fun _=>true) true Tryz.f5.params.toList args.toList ds p:=hA0
 rw [Tryz.params5] at hA hval
 obtain ⟨v0,vs0,d0,ds0,p0,q0,hargs,rfl,rfl,h0,r0⟩:=trodAll_cons hA
 obtain ⟨v1,vs1,d1,ds1,p1,q1,rfl,rfl,rfl,h1,r1⟩:=trodAll_cons r0
 obtain ⟨v2,vs2,d2,ds2,p2,q2,rfl,rfl,rfl,h2,r2⟩:=trodAll_cons r1
 obtain ⟨rfl,rfl,rfl⟩:=trodAll_nil r2
 obtain rfl:args=#[v0,v1,v2]:=by cases args;simp_all
 obtain ⟨rfl,rfl⟩:=trodVars_none hV
 obtain ⟨a0,rfl,rfl,rfl,w0⟩:=open_string Tryz.underlying9 (hval 0 9 v0 rfl rfl) h0
 obtain ⟨a1,rfl,rfl,rfl,w1⟩:=open_string Tryz.underlying9 (hval 1 9 v1 rfl rfl) h1
 obtain ⟨a2,rfl,rfl,rfl,w2⟩:=open_string Tryz.underlying9 (hval 2 9 v2 rfl rfl) h2
 clear hA0 hval0
 refine (valid_any a0 a1 a2 W).mono fun e W' ⟨he,bel⟩=>?_
 subst he
 exact ⟨_,rfl,_,_,_,[],_,[],hW',(trodAll_cons_mk (shut_bool Tryz.underlying4 _) trodAll_mk0),(trodAll_cons_mk (shut_string Tryz.underlying9 w0) (trodAll_cons_mk (shut_string Tryz.underlying9 w1) (trodAll_cons_mk (shut_string Tryz.underlying9 w2) trodAll_mk0))),rfl,bel.frame _,fun h=>by cases h⟩
theorem over:Rows.blindValidRow.holds Tryz.pinned (OpenSpec.ofChange Rows.blindValidSpec) :=
 OpenClaim.holds_of_wide 5 Tryz.f5 rfl rfl rfl rfl rfl rfl rfl ⟨rfl,rfl,rfl,rfl,rfl⟩ rfl rfl rfl rfl rfl (by kernel_rfl) Tryz.func5 (by kernel_rfl)
  (of_decide_eq_true (by kernel_rfl)) (by unfold Func.isWrapper;first | (rw [if_pos (by decide +kernel)];kernel_rfl) | (rw [if_neg (by decide +kernel)];exact ⟨rfl,rfl⟩))
  (fun os started H enc _=>lifted os started H enc)
theorem proved:Rows.BlindValidSaid :=
 over
end Go.Proofs.YtmkllfekhehagagGreat.blindValid
namespace Go.Proofs.YtmkllfekhehagagGreat
theorem blindValid_holds:Rows.BlindValidSaid:=blindValid.proved
#print axioms blindValid_holds
end Go.Proofs.YtmkllfekhehagagGreat
