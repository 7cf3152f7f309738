import Derived.Deep.LoopGhost
import Derived.OwnWalk
import Derived.Lib.SlBytesConst
import Derived.ChangeOld
import Derived.Below
import Derived.WalkKit
import Derived.ProofKit
import Derived.OpenShut
import Derived.ShutString
import Derived.Test.YtglhhepedoffeaaGreatVq7
set_option linter.unusedVariables false
set_option linter.unusedSimpArgs false
set_option maxRecDepth 1000000
set_option maxHeartbeats 4000000
namespace Go.Proofs.YtglhhepedoffeaaGreat
section
open Go.RowKit Go.Sort Go.Deep
variable {P:Nat} [NeZero P] {N:Nat}
theorem zRy {f:Nat→List Value} {C:List Value} (h:Rows 4 1 f 1 C) (h0:∀ j,(f j).length=4):C=f 0:=by
 apply List.ext_getElem?
 intro j
 have hl:=h.len
 by_cases hj:j<4
 ·have hr:=h.row 0 j (by omega) hj
  rw[Nat.mul_zero,Nat.zero_add] at hr
  exact hr
 ·rw[List.getElem?_eq_none (by omega),List.getElem?_eq_none (by rw[h0];omega)]
def zCI (P:Nat) [NeZero P] (N:Nat) (b:Bs):Bool:=decide (b.size=65) && ((rd P (b.extract 0 33)).isSome && (rq N (b.extract 33 65)).isSome)
def zQ5 (P:Nat) [NeZero P] (N:Nat) (w:World) (b:Bs) (e:Value) (w':World):Prop:=
 Below w.heap.size w w'∧((zCI P N b=true∧∃ K k,e=.tuple #[.slice (some ⟨K,0,none⟩) 1 1,.slice (some ⟨k,0,none⟩) 1 1,.bool true]∧w.heap.size≤K∧K<k∧k<w'.heap.size∧w'.rangeAt K 0 (bl33 (b.extract 0 33))∧w'.there K 0 33∧w'.rangeAt k 0 (wn (nuV (b.extract 33 65)))∧w'.there k 0 4)∨(zCI P N b=false∧∃ q1 q2,e=.tuple #[q1,q2,.bool false]))
theorem zFU (C:Fld P) (O:Ord N) (v:Value) (b:Bs) (w:World) (hv:SP.PartOk w v b.toList):Calls Tryz.prog 61 #[v,.int .i64 1,.int .i64 1] w (Ret (zQ5 P N w b)):=by
 obtain ⟨a0,sb,so,cap,bs,rfl,hbe,hcap,-,hor⟩:=hv
 obtain rfl:bs=b:=Array.ext' hbe
 clear hbe
 by_cases h64:bs.size=65
 ·obtain ⟨rfl,hH⟩:a0=some ⟨sb,so,none⟩∧Holds encB w sb so bs:=by
   rcases hor with h|h
   ·omega
   ·exact h
  clear hor
  have hlt:sb<w.heap.size:=zMB hH (by omega)
  rw[h64] at hcap ⊢
  have hs1:∀ w:World,(Instr.sliceAt 22 (.slice (some ⟨sb,so,none⟩) 65 cap) none (some (.int .i64 33)) none).run Tryz.prog w=.ok (.slice (some ⟨sb,so,none⟩) 33 cap) w:=fun w=>by
   have h1:(33:Int)≤cap:=by omega
   go_simp
  have hs2:∀ w:World,(Instr.sliceAt 22 (.slice (some ⟨sb,so,none⟩) 65 cap) (some (.int .i64 33)) none none).run Tryz.prog w=.ok (.slice (some ⟨sb,so+33,none⟩) 32 (cap-33)) w:=fun w=>by
   have h1:(65:Int)≤cap:=by omega
   have h2:¬ cap=33:=by omega
   go_simp
  have HH:Hid (Holds encB w sb so bs∧bs.size=65):=⟨hH,h64⟩
  clear hH h64
  go_enter Tryz.func61,Tryz.ntmps61
  go_wp2_with fail
  refine (zIz sb so 33 cap 33 (by decide) w).mono ?_
  rintro e w1 ⟨v1,rfl,rfl,hw1⟩
  obtain ⟨h1,h2,h3,h4⟩:=zGr w (.slice (some ⟨sb,so,none⟩) 33 cap) (.int .i64 33) 22 3
  have hw1':w1=(w.alloc (.cells #[.slice (some ⟨sb,so,none⟩) 33 cap] 22)).alloc (.cells #[.int .i64 33] 3):=hw1
  rw[← hw1'] at h1 h2 h3 h4
  clear hw1 hw1'
  have hcl:=zIy sb so 33 1 33 cap w1 (by decide) rfl (by decide) (by omega) (by decide) w.heap.size (by omega) h3 h4
  clear h3 h4
  go_wp2_with fail
  refine hcl.mono ?_
  rintro e w2 ⟨v2,rfl,hb2,hr2,-⟩
  obtain ⟨g2,c2,rfl,hg2,hl2,hc2⟩:=zGO hr2 (by decide)
  have H2:Hid (Below w.heap.size w w2):=h1.trans (hb2.mono h1.size)
  clear h1 h2 hcl hb2 hg2 hr2
  have HP:Hid (g2<w2.heap.size∧∀ j,j<1→∃ v,w2.cell? ⟨g2,j,none⟩=some v∧Arg33 w2 v (bs.extract 0 33)):=by
   refine ⟨hl2,fun j hj=>⟨chv sb so 33 j,?_,?_⟩⟩
   ·rw[hc2 j hj,List.getElem?_map,List.getElem?_range hj]
    rfl
   ·have hsz:=HH.out.2
    obtain rfl:j=0:=by omega
    refine ⟨_,33,33,rfl,by rw[Array.size_extract];omega,fun _=>⟨sb,so+33*0,rfl,Nat.le_refl _,Nat.lt_of_lt_of_le hlt H2.out.size,?_⟩⟩
    have hH2:Holds encB w2 sb so bs:=Holds.below HH.out.1 H2.out hlt
    exact zCE 0 33 hH2 (by omega)
  clear hl2 hc2
  go_wp2_with fail
  refine (zQ3 C g2 1 c2 (by decide) (fun _=>bs.extract 0 33) w2 HP.out.1 HP.out.2).mono ?_
  clear HP
  rintro e w3 ⟨v3,rfl,hb3,hR3⟩
  have H3:Hid (Below w.heap.size w w3):=H2.out.trans (hb3.mono H2.out.size)
  have HS:Hid (w.heap.size≤w2.heap.size):=H2.out.size
  clear hb3 H2
  obtain ⟨qv,okp,rfl,HP⟩:∃ qv okp,v3=.tuple #[qv,.bool okp]∧Hid (okp=(rd P (bs.extract 0 33)).isSome∧(okp=true→∃ K,qv=.slice (some ⟨K,0,none⟩) 1 1∧w.heap.size≤K∧K<w3.heap.size∧w3.there K 0 33∧w3.rangeAt K 0 (bl33 (bs.extract 0 33)))):=by
   rcases hR3 with ⟨h1,K,rfl,h3,h4,h5,h6⟩|⟨⟨j,hj,h1⟩,rfl⟩
   ·obtain ⟨p,hp⟩:=h1 0 (by decide)
    exact ⟨_,true,rfl,by rw[hp];rfl,fun _=>⟨K,rfl,Nat.le_trans HS.out h3,h4,h5,h6 0 (by decide)⟩⟩
   ·exact ⟨_,false,rfl,by rw[h1];rfl,fun h=>by cases h⟩
  clear hR3
  go_wp2_with fail
  refine (zIz sb (so+33) 32 (cap-33) 32 (by decide) w3).mono ?_
  rintro e w4 ⟨v4,rfl,rfl,hw4⟩
  obtain ⟨h1,h2,h3,h4⟩:=zGr w3 (.slice (some ⟨sb,so+33,none⟩) 32 (cap-33)) (.int .i64 32) 22 3
  have hw4':w4=(w3.alloc (.cells #[.slice (some ⟨sb,so+33,none⟩) 32 (cap-33)] 22)).alloc (.cells #[.int .i64 32] 3):=hw4
  rw[← hw4'] at h1 h2 h3 h4
  clear hw4 hw4'
  have hcl:=zIy sb (so+33) 32 1 32 (cap-33) w4 (by decide) rfl (by decide) (by omega) (by decide) w3.heap.size (by omega) h3 h4
  clear h3 h4
  go_wp2_with fail
  refine hcl.mono ?_
  rintro e w5 ⟨v5,rfl,hb5,hr5,-⟩
  obtain ⟨g5,c5,rfl,hg5,hl5,hc5⟩:=zGO hr5 (by decide)
  have H35:Hid (Below w3.heap.size w3 w5):=h1.trans (hb5.mono h1.size)
  have H5:Hid (Below w.heap.size w w5):=H3.out.trans (H35.out.mono H3.out.size)
  clear h1 h2 hcl hb5 hg5 hr5 H3
  have HA:Hid (Args w5 (some ⟨g5,0,none⟩) 1 (fun j=>bs.extract (33+32*j) (33+32*j+32))):=fun _=>by
   refine ⟨g5,rfl,hl5,fun j hj=>⟨chv sb (so+33) 32 j,?_,?_⟩⟩
   ·rw[hc5 j hj,List.getElem?_map,List.getElem?_range hj]
    rfl
   ·have hsz:=HH.out.2
    refine ⟨_,32,32,rfl,by rw[Array.size_extract];omega,fun _=>⟨sb,so+33+32*j,rfl,Nat.le_refl _,Nat.lt_of_lt_of_le hlt H5.out.size,?_⟩⟩
    have hH5:Holds encB w5 sb so bs:=Holds.below HH.out.1 H5.out hlt
    have:=zCE (33+32*j) 32 hH5 (by omega)
    rwa[← Nat.add_assoc] at this
  clear hl5 hc5
  go_wp2_with fail
  refine (zPv O 1 c5 (by decide) (some ⟨g5,0,none⟩) _ w5 HA.out).mono ?_
  have HN:Hid (w.heap.size≤w5.heap.size):=H5.out.size
  rintro e w6 ⟨v6,rfl,⟨hno,hb6,rfl⟩|⟨hall,k6,C6,hM6,hRo,rfl⟩⟩
  ·have H6:Hid (Below w.heap.size w w6∧zCI P N bs=false):=by
    refine ⟨H5.out.trans (hb6.mono HN.out),?_⟩
    obtain ⟨j,hj,hq⟩:=hno
    unfold zCI
    obtain rfl:j=0:=by omega
    have hq':rq N (bs.extract 33 65)=none:=hq
    rw[hq'];simp
   clear hno hb6 H5 HA HH HP H35
   cases okp
   ·go_wp2
    refine bodyPost_ret (v:=.tuple #[qv,.slice none 0 0,.bool false]) (zBA (a:=⟨_,_⟩) 6 7 8 rfl _ _ _ rfl rfl rfl) rfl ?_
    exact ⟨_,rfl,H6.out.1,Or.inr ⟨H6.out.2,_,_,rfl⟩⟩
   ·go_wp2
    refine bodyPost_ret (v:=.tuple #[qv,.slice none 0 0,.bool false]) (zBA (a:=⟨_,_⟩) 6 7 8 rfl _ _ _ rfl rfl rfl) rfl ?_
    exact ⟨_,rfl,H6.out.1,Or.inr ⟨H6.out.2,_,_,rfl⟩⟩
  ·cases okp
   ·have H6:Hid (Below w.heap.size w w6∧zCI P N bs=false):=by
     refine ⟨H5.out.trans (hM6.bel.mono HN.out),?_⟩
     unfold zCI
     rw[← HP.out.1]
     simp
    clear hall hM6 hRo H5 HA HH HP H35
    go_wp2
    refine bodyPost_ret (v:=.tuple #[qv,.slice (some ⟨k6,0,none⟩) 1 1,.bool false]) (zBA (a:=⟨_,_⟩) 6 7 8 rfl _ _ _ rfl rfl rfl) rfl ?_
    exact ⟨_,rfl,H6.out.1,Or.inr ⟨H6.out.2,_,_,rfl⟩⟩
   ·obtain ⟨K,rfl,hK1,hK2,hK3,hK4⟩:=HP.out.2 rfl
    have H6:Hid (zQ5 P N w bs (.tuple #[.slice (some ⟨K,0,none⟩) 1 1,.slice (some ⟨k6,0,none⟩) 1 1,.bool true]) w6):=by
     have q0:(rq N (bs.extract 33 65)).isSome=true:=hall 0 (by decide)
     have h36:Below w3.heap.size w3 w6:=H35.out.trans (hM6.bel.mono H35.out.size)
     refine ⟨H5.out.trans (hM6.bel.mono HN.out),Or.inl ⟨?_,K,k6,rfl,hK1,Nat.lt_of_lt_of_le hK2 (Nat.le_trans H35.out.size hM6.le),hM6.lt,RG.zAk hK4 h36 hK2,RG.zA5 hK3 h36 hK2,?_,?_⟩⟩
     ·unfold zCI
      rw[q0,HH.out.2,← HP.out.1]
      rfl
     ·have hC:=zRy hRo (fun _=>rfl)
      rw[← zPU q0]
      have:=hM6.range
      rw[hC] at this
      exact this
     ·have hC:=hRo.len
      have:=hM6.there
      rw[hC] at this
      exact this
    clear hall hM6 hRo H5 HA HH HP H35 hK1 hK2 hK3 hK4
    go_wp2
    refine bodyPost_ret (v:=.tuple #[.slice (some ⟨K,0,none⟩) 1 1,.slice (some ⟨k6,0,none⟩) 1 1,.bool true]) (zBA (a:=⟨_,_⟩) 6 7 8 rfl _ _ _ rfl rfl rfl) rfl ?_
    exact ⟨_,rfl,H6.out⟩
 ·have hne:((bs.size:Int) == 65)=false:=by simpa using (by omega:¬ (bs.size:Int)=65)
  have HT:Hid (zCI P N bs=false):=by show _=_;unfold zCI;rw[decide_eq_false h64];rfl
  have h64':¬ (bs.size:Int)=65:=by omega
  go_enter Tryz.func61,Tryz.ntmps61
  go_wp2
  refine bodyPost_ret (v:=.tuple #[.slice none 0 0,.slice none 0 0,.bool false]) (zBA (a:=⟨_,_⟩) 6 7 8 rfl _ _ _ rfl rfl rfl) rfl ?_
  exact ⟨_,rfl,Below.refl _ _,Or.inr ⟨HT.out,_,_,rfl⟩⟩
end
section
open Go.RowKit Go.Sort Go.Deep
variable {P:Nat} [NeZero P] {N:Nat}
theorem zQQ (n:Nat) (w:World):(Instr.box 49 (nv n)).run Tryz.prog w=.ok (.pointer (some ⟨w.heap.size,0,none⟩)) (w.alloc (.cells (wn n).toArray 49)):=by kernel_rfl
section
variable (w:World) (k4 k5 k6 k7 k8 c s m B0:Nat) (a b T:Bs)
def RFo:Nat→Value→World→Prop
 | 0,v,_=>v=pvl a
 | 1,v,_=>v=nv s
 | 2,v,W=>Sm B0 W v [(s,a)]
 | 3,v,_=>v=pvl b
 | 4,v,_=>v=nv c
 | 5,v,W=>Sm B0 W v [(c,b)]
 | 6,v,W=>Sm B0 W v [(s,a),(m,b)]
 | 7,v,_=>v=pvl T
 | _,_,_=>True
def GFo:RG.Gw:=⟨RFo c s m B0 a b T,fun W=>Kp w W [(k8,z33),(k7,wn s),(k6,wn c),(k5,bl33 b),(k4,bl33 a)]∧B0≤W.heap.size,fun i v W W' hb h=>by
 match i,h with
 | 0,h=>exact h
 | 1,h=>exact h
 | 2,h=>exact Sm.grow h hb
 | 3,h=>exact h
 | 4,h=>exact h
 | 5,h=>exact Sm.grow h hb
 | 6,h=>exact Sm.grow h hb
 | 7,h=>exact h
 | _+8,_=>trivial,fun W W' hb h=>⟨h.1.grow hb,Nat.le_trans h.2 hb.size⟩⟩
end
theorem zMH (C:Fld P) (O:Ord N) (hord:∀ r:EC.Pt P,EC.On r→EC.mul N r=none) {X Y:EC.Pt P} (hX:EC.On X) (hY:EC.On Y) {c s:Nat} (hc:c<N) (hs:s<N):Gives 62 #[pvl (wr X),pvl (wr Y),nv c,nv s] (pvl (wr (EC.add (EC.mul s X) (EC.neg (EC.mul c Y))))):=by
 intro w
 have hpts:PtsL P [(s,wr X),(sTi N (sMi N 0 1) c,wr Y)]:=fun y hy=>by
  rcases List.mem_cons.1 hy with rfl|hy
  ·exact ⟨X,hX,rfl⟩
  ·rw[show y=(sTi N (sMi N 0 1) c,wr Y) by simpa using hy];exact ⟨Y,hY,rfl⟩
 have hsum:sumL P [(s,wr X),(sTi N (sMi N 0 1) c,wr Y)]=EC.add (EC.mul s X) (EC.neg (EC.mul c Y)):=by
  show EC.add (EC.mul s (unwr P (wr X))) (EC.add (EC.mul (sTi N (sMi N 0 1) c) (unwr P (wr Y))) none)=_
  rw[zBv C hX,zBv C hY,EC.zAw,zO0 C O hord hY]
 rw[← hsum]
 have HE:Hid (PtsL P [(s,wr X),(sTi N (sMi N 0 1) c,wr Y)]∧sTi N (sMi N 0 1) c<N∧(wr X).size=33∧(wr Y).size=33∧(wr (sumL P [(s,wr X),(sTi N (sMi N 0 1) c,wr Y)])).size=33):=⟨hpts,Nat.mod_lt _ O.pos,zAB _,zAB _,zAB _⟩
 have HC:Hid (Fld P∧Ord N∧(∀ r:EC.Pt P,EC.On r→EC.mul N r=none)∧c<N∧s<N):=⟨C,O,hord,hc,hs⟩
 clear hsum hpts hX hY C O hord hc hs
 generalize wr X=a at HE ⊢
 generalize wr Y=b at HE ⊢
 obtain ⟨T,hT⟩:∃ T,Hid (wr (sumL P [(s,a),(sTi N (sMi N 0 1) c,b)])=T):=⟨_,rfl⟩
 rw[hT.out] at HE ⊢
 obtain ⟨va,hva⟩:∃ v,Hid (pvl a=v):=⟨_,rfl⟩
 obtain ⟨vb,hvb⟩:∃ v,Hid (pvl b=v):=⟨_,rfl⟩
 obtain ⟨vc,hvc⟩:∃ v,Hid (nv c=v):=⟨_,rfl⟩
 obtain ⟨vs,hvs⟩:∃ v,Hid (nv s=v):=⟨_,rfl⟩
 have bA:(Instr.box 54 (pvl a)).run Tryz.prog w=.ok (.pointer (some ⟨w.heap.size,0,none⟩)) (w.alloc (.cells (bl33 a).toArray 54)):=zHZ HE.out.2.2.1 w
 obtain ⟨w1,hw1⟩:∃ w1,Hid (w.alloc (.cells (bl33 a).toArray 54)=w1):=⟨_,rfl⟩
 have bB:(Instr.box 54 (pvl b)).run Tryz.prog w1=.ok (.pointer (some ⟨w1.heap.size,0,none⟩)) (w1.alloc (.cells (bl33 b).toArray 54)):=zHZ HE.out.2.2.2.1 w1
 obtain ⟨w2,hw2⟩:∃ w2,Hid (w1.alloc (.cells (bl33 b).toArray 54)=w2):=⟨_,rfl⟩
 have bC:=zQQ c w2
 obtain ⟨w3,hw3⟩:∃ w3,Hid (w2.alloc (.cells (wn c).toArray 49)=w3):=⟨_,rfl⟩
 have bS:=zQQ s w3
 obtain ⟨w4,hw4⟩:∃ w4,Hid (w3.alloc (.cells (wn s).toArray 49)=w4):=⟨_,rfl⟩
 obtain ⟨w5,hw5⟩:∃ w5,Hid (w4.alloc (.cells z33.toArray 54)=w5):=⟨_,rfl⟩
 rw[hva.out,hw1.out] at bA
 rw[hvb.out,hw2.out] at bB
 rw[hvc.out,hw3.out] at bC
 rw[hvs.out,hw4.out] at bS
 rw[hva.out,hvb.out,hvc.out,hvs.out]
 have e1:w1.heap.size=w.heap.size+1:=by rw[← hw1.out,World.size_alloc]
 have e2:w2.heap.size=w.heap.size+2:=by rw[← hw2.out,World.size_alloc,e1]
 have e3:w3.heap.size=w.heap.size+3:=by rw[← hw3.out,World.size_alloc,e2]
 have e4:w4.heap.size=w.heap.size+4:=by rw[← hw4.out,World.size_alloc,e3]
 rw[e1] at bB
 rw[e2] at bC
 rw[e3] at bS
 have K5:Hid (Kp w w5 [(w.heap.size+4,z33),(w.heap.size+3,wn s),(w.heap.size+2,wn c),(w.heap.size+1,bl33 b),(w.heap.size,bl33 a)]):=by
  have q1:Row w1 w.heap.size (bl33 a):=by rw[← hw1.out];exact zAi w _ _
  have q2:Row w2 (w.heap.size+1) (bl33 b):=by rw[← hw2.out,← e1];exact zAi w1 _ _
  have q3:Row w3 (w.heap.size+2) (wn c):=by rw[← hw3.out,← e2];exact zAi w2 _ _
  have q4:Row w4 (w.heap.size+3) (wn s):=by rw[← hw4.out,← e3];exact zAi w3 _ _
  have q5:Row w5 (w.heap.size+4) z33:=by rw[← hw5.out,← e4];exact zAi w4 _ _
  have b1:Below w.heap.size w w1:=by rw[← hw1.out];exact zAf w _
  have b2:Below w1.heap.size w1 w2:=by rw[← hw2.out];exact zAf w1 _
  have b3:Below w2.heap.size w2 w3:=by rw[← hw3.out];exact zAf w2 _
  have b4:Below w3.heap.size w3 w4:=by rw[← hw4.out];exact zAf w3 _
  have b5:Below w4.heap.size w4 w5:=by rw[← hw5.out];exact zAf w4 _
  have t0:Kp w w1 [(w.heap.size,bl33 a)]:=⟨b1,fun x hx=>by rw[show x=(w.heap.size,bl33 a) by simpa using hx];exact q1⟩
  exact (((((((t0.grow b2).cons q2).grow b3).cons q3).grow b4).cons q4).grow b5).cons q5
 have BA:=Hid.mk' bA
 have BB:=Hid.mk' bB
 have BC:=Hid.mk' bC
 have BS:=Hid.mk' bS
 have HW5:Hid (w4.alloc (.cells z33.toArray 54)=w5∧w4.heap.size=w.heap.size+4):=⟨hw5.out,e4⟩
 clear bA bB bC bS hw1 hw2 hw3 hw4 hw5 e1 e2 e3 e4
 go_enter Tryz.func62,Tryz.ntmps62
 go_wp2_with (first|(refine zAD (u:=va) (v:=.pointer (some ⟨w.heap.size,0,none⟩)) (w':=w1) rfl 54 (.tmp 0) rfl ?_ ?_ ?_;rfl;exact BA.out)|(refine zAD (u:=vb) (v:=.pointer (some ⟨w.heap.size+1,0,none⟩)) (w':=w2) rfl 54 (.tmp 1) rfl ?_ ?_ ?_;rfl;exact BB.out)|(refine zAD (u:=vc) (v:=.pointer (some ⟨w.heap.size+2,0,none⟩)) (w':=w3) rfl 49 (.tmp 2) rfl ?_ ?_ ?_;rfl;exact BC.out)|(refine zAD (u:=vs) (v:=.pointer (some ⟨w.heap.size+3,0,none⟩)) (w':=w4) rfl 49 (.tmp 3) rfl ?_ ?_ ?_;rfl;exact BS.out)|(refine zAp (v:=.pointer (some ⟨w.heap.size+4,0,none⟩)) (w':=w5) rfl (.alloc 54) rfl ?_ ?_;(rw[← HW5.out.1,← HW5.out.2];kernel_rfl))|fail)
 clear BA BB BC BS HW5
 refine (GFo w w.heap.size (w.heap.size+1) (w.heap.size+2) (w.heap.size+3) (w.heap.size+4) c s (sTi N (sMi N 0 1) c) w.heap.size a b T).last 8 (by kernel_rfl) (by kernel_rfl) (by kernel_rfl) ⟨
  RG.zA6 54 4 rfl uCP fun a' W hp=>⟨w.heap.size,0,bl33 a,hp.o 4 (by kernel_rfl),(hp.b.1.at 4 rfl).2.1,by rw[zAd HE.out.2.2.1];exact zAs,rfl⟩,
  RG.zA6 49 7 rfl u40 fun a' W hp=>⟨w.heap.size+3,0,wn s,hp.o 7 (by kernel_rfl),(hp.b.1.at 1 rfl).2.1,i40,rfl⟩,
  RG.zA9 fun a' W hp=>⟨[(9,pvl a),(10,nv s)],72,#[pvl a,nv s],⟨hp.n 0 9 (by kernel_rfl) (by kernel_rfl),hp.n 1 10 (by kernel_rfl) (by kernel_rfl),trivial⟩,by kernel_rfl,(zEA a HE.out.2.2.1 s W).mono (by
   rintro e W' ⟨u,rfl,hb,k,rfl,hk,hR⟩
   exact ⟨_,rfl,hb,Sm.one hR (Nat.le_trans hp.b.1.bl.size hk) rfl⟩)⟩,
  RG.zA6 54 5 rfl uCP fun a' W hp=>⟨w.heap.size+1,0,bl33 b,hp.o 5 (by kernel_rfl),(hp.b.1.at 3 rfl).2.1,by rw[zAd HE.out.2.2.2.1];exact zAs,rfl⟩,
  RG.zA6 49 6 rfl u40 fun a' W hp=>⟨w.heap.size+2,0,wn c,hp.o 6 (by kernel_rfl),(hp.b.1.at 2 rfl).2.1,i40,rfl⟩,
  RG.zA9 fun a' W hp=>⟨[(12,pvl b),(13,nv c)],72,#[pvl b,nv c],⟨hp.n 3 12 (by kernel_rfl) (by kernel_rfl),hp.n 4 13 (by kernel_rfl) (by kernel_rfl),trivial⟩,by kernel_rfl,(zEA b HE.out.2.2.2.1 c W).mono (by
   rintro e W' ⟨u,rfl,hb,k,rfl,hk,hR⟩
   exact ⟨_,rfl,hb,Sm.one hR (Nat.le_trans hp.b.1.bl.size hk) rfl⟩)⟩,
  RG.zA9 fun a' W hp=>⟨[(11,a'.eval (.tmp 11)),(14,a'.eval (.tmp 14))],117,#[a'.eval (.tmp 11),a'.eval (.tmp 14)],⟨rfl,rfl,trivial⟩,by kernel_rfl,(zIR HC.out.2.1 w.heap.size (a'.eval (.tmp 11)) (a'.eval (.tmp 14)) [(s,a)] [(c,b)] (by simp) (by simp) (by simp) (fun x hx=>by rw[show x=(s,a) by simpa using hx];exact HE.out.2.2.1) (fun x hx=>by rw[show x=(c,b) by simpa using hx];exact HE.out.2.2.2.1) (fun x hx=>by rw[show x=(c,b) by simpa using hx];exact HC.out.2.2.2.1) W hp.b.1.bl.size (hp.n 2 11 (by kernel_rfl) (by kernel_rfl)) (hp.n 5 14 (by kernel_rfl) (by kernel_rfl))).mono (by
   rintro e W' ⟨u,rfl,hb,hS⟩
   exact ⟨_,rfl,hb,hS.mono hp.b.1.bl.size⟩)⟩,
  RG.zA9 fun a' W hp=>⟨[(15,a'.eval (.tmp 15))],75,#[a'.eval (.tmp 15)],⟨rfl,trivial⟩,by kernel_rfl,by
   have hS:Sm w.heap.size W (a'.eval (.tmp 15)) [(s,a),(sTi N (sMi N 0 1) c,b)]:=hp.n 6 15 (by kernel_rfl) (by kernel_rfl)
   refine (hS.point HC.out.1 HC.out.2.1 HC.out.2.2.1 (by simp) (by simp) (fun x hx=>?_) HE.out.1).mono ?_
   ·rcases List.mem_cons.1 hx with rfl|hx
    ·exact HC.out.2.2.2.2
    ·rw[show x=(sTi N (sMi N 0 1) c,b) by simpa using hx];exact HE.out.2.1
   ·rintro e W' ⟨u,rfl,hb,rfl⟩
    exact ⟨_,rfl,hb,by rw[hT.out];rfl⟩⟩,trivial⟩ ⟨K5.out.drew,K5.out.bl.size⟩ ?_
 intro V wa hRa hBa
 have hV7:V 7=pvl T:=hRa 7 (by decide)
 dsimp only[RG.putV,Nat.reduceAdd,List.take,List.drop]
 obtain ⟨vT,hvT⟩:∃ v,Hid (pvl T=v):=⟨_,rfl⟩
 rw[hV7,hvT.out]
 generalize V 0=s0
 generalize V 1=s1
 generalize V 2=s2
 generalize V 3=s3
 generalize V 4=s4
 generalize V 5=s5
 generalize V 6=s6
 obtain ⟨wb,hwb⟩:∃ wb,Hid (wa.setCells (w.heap.size+4) 0 (bl33 T)=wb):=⟨_,rfl⟩
 have hlen:(bl33 T).length=33:=zAd HE.out.2.2.2.2
 have hR8:Row wa (w.heap.size+4) z33:=hBa.1.at 0 rfl
 have KB:Hid (Row wb (w.heap.size+4) (bl33 T)∧Below w.heap.size w wb):=by
  rw[← hwb.out]
  exact ⟨hR8.put (by rw[hlen];rfl),RG.below_setCells (by omega) _ _ _ hBa.1.bl⟩
 have HI:Hid (wa.there (w.heap.size+4) 0 (bl33 T).toArray.size∧(Tryz.prog.info? 54).map (·.size)=some (bl33 T).toArray.size∧(Tryz.prog.info? 54).map (·.size)=some (bl33 T).length):=by
  have e:(bl33 T).toArray.size=33:=by rw[List.size_toArray];exact hlen
  rw[e,hlen]
  exact ⟨hR8.2.2,zAs,zAs⟩
 clear hlen hR8 hRa hBa hV7 K5 V
 simp only[Act.put,List.setIfInBounds_toArray,List.set_cons_succ,List.set_cons_zero]
 go_wp2_with (first|(refine wpList_store_mid rfl 54 _ _ rfl (w.heap.size+4) 0 (bl33 T).toArray ?_ ?_ ?_ ?_ ?_ ?_;rfl;exact hvT.out.symm;exact HI.out.1;exact HI.out.2.1;exact zBt T;rw[show (bl33 T).toArray.toList=bl33 T from rfl,hwb.out])|fail)
 refine bodyPost_ret (zAv 8 54 rfl KB.out.1 rfl uCP HI.out.2.2) rfl ?_
 exact ⟨_,rfl,KB.out.2,rfl⟩
end
section
open Go.RowKit Go.Sort Go.Deep
variable {P:Nat} [NeZero P] {N:Nat}
def zIq:ByteArray:=⟨#[110,111,110,99,101,32,115,105,103,110]⟩
theorem zPM (C:Fld P) (O:Ord N) (p0 p1:Option Addr) (n0 c0 n1 c1:Nat) (sk tx:Bs) (w:World) (hA:Arg w (.slice p0 n0 c0) sk) (h0:SP.PartOk w (.slice p0 n0 c0) sk.toList) (h1:SP.PartOk w (.slice p1 n1 c1) tx.toList)
 (x:Nat) (hx:rq N sk=some x) (hx0:x≠0) (kk c z:Nat) (hkk:chL N zIq.data.toList [sk.toList,tx.toList]=kk) (hc:asg N (wr (EC.mul x (gG P))).toList (wr (EC.mul kk (gG P))).toList tx.toList=c) (hz:sPl N kk (sTi N c x)=z) :
 Calls Tryz.prog 10 #[.slice p0 n0 c0,.slice p1 n1 c1] w (Ret fun e w'=>Below w.heap.size w w'∧∃ v,e=.tuple #[v,.int .i64 0]∧Ans z w.heap.size (wr (EC.mul kk (gG P))) v w'):=by
 have hxN:x<N:=by
  unfold rq at hx
  split at hx
  ·rename_i h
   rw[← Option.some.inj hx];exact h.2
  ·cases hx
 have hkN:kk<N:=by rw[← hkk];exact zJ2 O _
 have hcN:c<N:=by rw[← hc];exact zLz O _ _ _
 have hR:=zJU O (.slice p0 n0 c0) sk w hA
 rw[hx] at hR
 have e1:(!decide (x=0))=true:=by simp[hx0]
 rw[show (some x).getD 0=x from rfl,show ((some x).isSome && !decide (x=0))=true by rw[e1];rfl] at hR
 have HR:=Hid.mk' hR
 have HC:Hid (Fld P∧Ord N∧x<N∧kk<N∧c<N∧sPl N kk (sTi N c x)=z):=⟨C,O,hxN,hkN,hcN,hz⟩
 have HP:Hid (SP.PartOk w (.slice p0 n0 c0) sk.toList∧SP.PartOk w (.slice p1 n1 c1) tx.toList):=⟨h0,h1⟩
 have HK:=Hid.mk' hkk
 obtain ⟨A,hAe⟩:∃ A,Hid (wr (gG P)=A):=⟨_,rfl⟩
 obtain ⟨F,hFe⟩:∃ F,Hid (wr (EC.mul kk (gG P))=F):=⟨_,rfl⟩
 obtain ⟨A',hAe'⟩:∃ A',Hid (wr (EC.mul x (gG P))=A'):=⟨_,rfl⟩
 rw[hFe.out,hAe'.out] at hc
 rw[hFe.out]
 have HQ:=Hid.mk' hc
 have HF:Hid (F.size=33∧A'.size=33):=⟨by rw[← hFe.out];exact zAB _,by rw[← hAe'.out];exact zAB _⟩
 clear C O hA h0 h1 hx hx0 hkk hc hz hxN hkN hcN hR e1
 obtain ⟨vx,hvx⟩:∃ v,Hid (nv x=v):=⟨_,rfl⟩
 rw[hvx.out] at HR
 obtain ⟨d',hd3,hd4⟩:=Option.map_eq_some_iff.1 u40
 have HD:Hid (Tryz.prog.underlying 49=some d'∧d'.isRow=true):=⟨hd3,hd4⟩
 clear hd3 hd4
 go_enter Tryz.func10,Tryz.ntmps10
 go_wp2_with fail
 refine HR.out.mono ?_
 rintro e w1 ⟨vv,rfl,hb1,rfl⟩
 obtain ⟨w2,hw2⟩:∃ w2,Hid (w1.alloc (.cells #[.int .u64 0,.int .u64 0,.int .u64 0,.int .u64 0] 49)=w2):=⟨_,rfl⟩
 obtain ⟨w3,hw3⟩:∃ w3,Hid (w2.setCells w1.heap.size 0 (wn x)=w3):=⟨_,rfl⟩
 obtain ⟨k6,hk6⟩:∃ k6,Hid (w1.heap.size=k6):=⟨_,rfl⟩
 rw[hk6.out] at hw3
 have F2:Hid (Row w2 k6 [.int .u64 0,.int .u64 0,.int .u64 0,.int .u64 0]∧Below w.heap.size w w2∧w.heap.size≤k6):=by
  rw[← hw2.out,← hk6.out]
  exact ⟨zAi w1 _ _,hb1.alloc hb1.size _,hb1.size⟩
 have K3:Hid (Kp w w3 [(k6,wn x)]):=by
  rw[← hw3.out]
  exact ⟨RG.below_setCells F2.out.2.2 _ _ _ F2.out.2.1,fun y hy=>by rw[show y=(k6,wn x) by simpa using hy];exact F2.out.1.put rfl⟩
 clear hb1 HR
 go_wp2_with (first|(refine zAp (v:=.pointer (some ⟨k6,0,none⟩)) (w':=w2) rfl (.alloc 49) rfl ?_ ?_;(rw[← hw2.out,← hk6.out];kernel_rfl))|(refine wpList_store_mid rfl 49 _ _ rfl k6 0 (wn x).toArray ?_ ?_ ?_ ?_ ?_ ?_;rfl;exact hvx.out.symm;exact F2.out.1.2.2;exact i40;exact zCk x;rw[show (wn x).toArray.toList=wn x from rfl,hw3.out])|fail)
 clear hw2 hw3 hk6 F2
 obtain ⟨w4,hw4⟩:∃ w4,Hid (w3.alloc (.cells #[.slice p0 n0 c0,.slice p1 n1 c1] 22)=w4):=⟨_,rfl⟩
 have hb4:Below w3.heap.size w3 w4:=by rw[← hw4.out];exact zAf _ _
 have K4:Hid (Kp w w4 [(k6,wn x)]):=K3.out.grow hb4
 have HPs:Hid (SP.PartsOk w4 (some ⟨w3.heap.size,0,none⟩) [sk.toList,tx.toList]):=by
  refine Or.inr ⟨w3.heap.size,0,rfl,fun j hj=>?_⟩
  have hM:w4.rangeAt w3.heap.size 0 [.slice p0 n0 c0,.slice p1 n1 c1]:=by rw[← hw4.out];exact (RG.Made.alloc w3 [.slice p0 n0 c0,.slice p1 n1 c1] 22).range
  have hj2:j=0∨j=1:=by simp at hj;omega
  rcases hj2 with rfl|rfl
  ·exact ⟨_,hM 0 _ rfl,HP.out.1.below K4.out.bl⟩
  ·exact ⟨_,hM 1 _ rfl,HP.out.2.below K4.out.bl⟩
 rw[hw4.out]
 refine (zMU HC.out.2.1 zIq (some ⟨w3.heap.size,0,none⟩) 2 2 [sk.toList,tx.toList] w4 (by decide) rfl (by decide) HPs.out).mono ?_
 rintro e w5 ⟨vv,rfl,hb5,rfl⟩
 rw[HK.out]
 have K5:Hid (Kp w w5 [(k6,wn x)]):=K4.out.grow hb5
 clear hb4 hb5 K3 K4 HPs hw4
 obtain ⟨vk,hvk⟩:∃ v,Hid (nv kk=v):=⟨_,rfl⟩
 rw[hvk.out]
 obtain ⟨w6,hw6⟩:∃ w6,Hid (w5.alloc (.cells #[.int .u64 0,.int .u64 0,.int .u64 0,.int .u64 0] 49)=w6):=⟨_,rfl⟩
 obtain ⟨k8,hk8⟩:∃ k8,Hid (w5.heap.size=k8):=⟨_,rfl⟩
 obtain ⟨w7,hw7⟩:∃ w7,Hid (w6.setCells k8 0 (wn kk)=w7):=⟨_,rfl⟩
 have F6:Hid (Row w6 k8 [.int .u64 0,.int .u64 0,.int .u64 0,.int .u64 0]∧Kp w w6 [(k6,wn x)]):=by
  rw[← hw6.out,← hk8.out]
  exact ⟨zAi w5 _ _,K5.out.grow (zAf _ _)⟩
 have K7:Hid (Kp w w7 [(k8,wn kk),(k6,wn x)]):=by
  rw[← hw7.out]
  refine F6.out.2.put F6.out.1 rfl (by rw[← hk8.out];exact K5.out.bl.size) fun y hy=>?_
  rw[show y=(k6,wn x) by simpa using hy,← hk8.out]
  exact Nat.ne_of_lt (K5.out.at 0 rfl).1
 go_wp2_with (first|(refine zAp (v:=.pointer (some ⟨k8,0,none⟩)) (w':=w6) rfl (.alloc 49) rfl ?_ ?_;(rw[← hw6.out,← hk8.out];kernel_rfl))|(refine wpList_store_mid rfl 49 _ _ rfl k8 0 (wn kk).toArray ?_ ?_ ?_ ?_ ?_ ?_;rfl;exact hvk.out.symm;exact F6.out.1.2.2;exact i40;exact zCk kk;rw[show (wn kk).toArray.toList=wn kk from rfl,hw7.out])|fail)
 clear hw6 hw7 hk8 F6 K5
 refine (G5 w k6 k8 x kk w7.heap.size A F).last 4 (by kernel_rfl) (by kernel_rfl) (by kernel_rfl) ⟨
  RG.zA6 49 8 rfl u40 fun a W hp=>⟨k8,0,wn kk,hp.o 8 (by kernel_rfl),(hp.b.1.at 0 rfl).2.1,i40,rfl⟩,
  RG.zA9 fun a W hp=>⟨[],35,#[],trivial,by kernel_rfl,(zPb HC.out.1 W).mono (by
   rintro e W' ⟨u,rfl,hb,rfl⟩
   exact ⟨_,rfl,hb,by rw[hAe.out];rfl⟩)⟩,
  RG.zA9 fun a W hp=>⟨[(22,nv kk),(23,pvl A)],34,#[nv kk,pvl A],⟨hp.n 0 22 (by kernel_rfl) (by kernel_rfl),hp.n 1 23 (by kernel_rfl) (by kernel_rfl),trivial⟩,by kernel_rfl,by
   rw[← hAe.out]
   refine (zJK HC.out.1 HC.out.2.1 HC.out.2.2.2.1 (zF7 HC.out.1) W).mono ?_
   rintro e W' ⟨u,rfl,hb,rfl⟩
   exact ⟨_,rfl,hb,by rw[hFe.out];rfl⟩⟩,
  RG.zA1 fun a W hp=>⟨[],.pointer (some ⟨W.heap.size,0,none⟩),W.alloc (.cells z33.toArray 54),trivial,by kernel_rfl,zAf _ _,W.heap.size,rfl,hp.b.2,zAi W _ _⟩,trivial⟩ ⟨K7.out.drew,Nat.le_refl _⟩ ?_
 intro V w8 hR8 hB8
 obtain ⟨k9,hk9,hk9b,hk9r⟩:=show Nw w7.heap.size z33 (V 3) w8 from hR8 3 (by decide)
 have hV2:V 2=pvl F:=hR8 2 (by decide)
 dsimp only[RG.putV,Nat.reduceAdd,List.take,List.drop]
 obtain ⟨vF,hvF⟩:∃ v,Hid (pvl F=v):=⟨_,rfl⟩
 rw[hk9,hV2,hvF.out]
 generalize V 0=s22
 generalize V 1=s23
 obtain ⟨w9,hw9⟩:∃ w9,Hid (w8.setCells k9 0 (bl33 F)=w9):=⟨_,rfl⟩
 have hlen:(bl33 F).length=33:=zAd HF.out.1
 have HB8:Hid (Kp w w8 [(k8,wn kk),(k6,wn x)]∧w7.heap.size≤w8.heap.size):=hB8
 have K9:Hid (Kp w w9 [(k9,bl33 F),(k8,wn kk),(k6,wn x)]):=by
  rw[← hw9.out]
  refine HB8.out.1.put hk9r (by rw[hlen];rfl) (Nat.le_trans K7.out.bl.size hk9b) fun y hy=>?_
  have h8:=(K7.out.rw y hy).1
  omega
 have HI:Hid (w8.there k9 0 (bl33 F).toArray.size∧(Tryz.prog.info? 54).map (·.size)=some (bl33 F).toArray.size∧(Tryz.prog.info? 54).map (·.size)=some (bl33 F).length):=by
  have e:(bl33 F).toArray.size=33:=by rw[List.size_toArray];exact hlen
  rw[e,hlen]
  exact ⟨hk9r.2.2,zAs,zAs⟩
 clear hlen hR8 hB8 hk9 hk9b hk9r hV2 HB8 K7 V
 go_wp2_with (first|(refine wpList_store_mid rfl 54 _ _ rfl k9 0 (bl33 F).toArray ?_ ?_ ?_ ?_ ?_ ?_;rfl;exact hvF.out.symm;exact HI.out.1;exact HI.out.2.1;exact zBt F;rw[show (bl33 F).toArray.toList=bl33 F from rfl,hw9.out])|fail)
 clear hw9
 refine (G6 w k6 k8 k9 x kk c w9.heap.size A F (.slice p1 n1 c1) A').last 7 (by kernel_rfl) (by kernel_rfl) (by kernel_rfl) ⟨
  RG.zA6 49 6 rfl u40 fun a W hp=>⟨k6,0,wn x,hp.o 6 (by kernel_rfl),(hp.b.1.at 2 rfl).2.1,i40,rfl⟩,
  RG.zA9 fun a W hp=>⟨[],35,#[],trivial,by kernel_rfl,(zPb HC.out.1 W).mono (by
   rintro e W' ⟨u,rfl,hb,rfl⟩
   exact ⟨_,rfl,hb,by rw[hAe.out];rfl⟩)⟩,
  RG.zA9 fun a W hp=>⟨[(25,nv x),(26,pvl A)],34,#[nv x,pvl A],⟨hp.n 0 25 (by kernel_rfl) (by kernel_rfl),hp.n 1 26 (by kernel_rfl) (by kernel_rfl),trivial⟩,by kernel_rfl,by
   rw[← hAe.out]
   refine (zJK HC.out.1 HC.out.2.1 HC.out.2.2.1 (zF7 HC.out.1) W).mono ?_
   rintro e W' ⟨u,rfl,hb,rfl⟩
   exact ⟨_,rfl,hb,by rw[hAe'.out];rfl⟩⟩,
  RG.zA6 54 9 rfl uCP fun a W hp=>⟨k9,0,bl33 F,hp.o 9 (by kernel_rfl),(hp.b.1.at 0 rfl).2.1,HI.out.2.2,rfl⟩,
  RG.zA1 fun a W hp=>⟨[(1,.slice p1 n1 c1)],.slice p1 n1 c1,W,⟨hp.o 1 (by kernel_rfl),trivial⟩,by kernel_rfl,Below.refl _ _,rfl⟩,
  RG.zA9 fun a W hp=>⟨[(27,pvl A'),(28,pvl F),(29,.slice p1 n1 c1)],36,#[pvl A',pvl F,.slice p1 n1 c1],⟨hp.n 2 27 (by kernel_rfl) (by kernel_rfl),hp.n 3 28 (by kernel_rfl) (by kernel_rfl),hp.n 4 29 (by kernel_rfl) (by kernel_rfl),trivial⟩,by kernel_rfl,by
   refine (zIj HC.out.2.1 A' F HF.out.2 HF.out.1 p1 n1 c1 tx.toList W (HP.out.2.below hp.b.1.bl)).mono ?_
   rintro e W' ⟨u,rfl,hb,rfl⟩
   exact ⟨_,rfl,hb,by rw[HQ.out];rfl⟩⟩,
  RG.zA1 fun a W hp=>⟨[],.pointer (some ⟨W.heap.size,0,none⟩),W.alloc (.cells #[.int .u64 0,.int .u64 0,.int .u64 0,.int .u64 0] 49),trivial,by kernel_rfl,zAf _ _,W.heap.size,rfl,hp.b.2,zAi W _ _⟩,trivial⟩ ⟨K9.out.drew,Nat.le_refl _⟩ ?_
 intro V wa hRa hBa
 obtain ⟨k10,hk10,hk10b,hk10r⟩:=show Nw w9.heap.size [.int .u64 0,.int .u64 0,.int .u64 0,.int .u64 0] (V 6) wa from hRa 6 (by decide)
 have hV5:V 5=nv c:=hRa 5 (by decide)
 dsimp only[RG.putV,Nat.reduceAdd,List.take,List.drop]
 obtain ⟨vc,hvc⟩:∃ v,Hid (nv c=v):=⟨_,rfl⟩
 rw[hk10,hV5,hvc.out]
 generalize V 0=s25
 generalize V 1=s26
 generalize V 2=s27
 generalize V 3=s28
 generalize V 4=s29
 obtain ⟨wb,hwb⟩:∃ wb,Hid (wa.setCells k10 0 (wn c)=wb):=⟨_,rfl⟩
 have HBa:Hid (Kp w wa [(k9,bl33 F),(k8,wn kk),(k6,wn x)]∧w9.heap.size≤wa.heap.size):=hBa
 have Kb:Hid (Kp w wb [(k10,wn c),(k9,bl33 F),(k8,wn kk),(k6,wn x)]):=by
  rw[← hwb.out]
  refine HBa.out.1.put hk10r rfl (Nat.le_trans K9.out.bl.size hk10b) fun y hy=>?_
  have h8:=(K9.out.rw y hy).1
  omega
 have HJ:Hid (wa.there k10 0 [Value.int .u64 0,.int .u64 0,.int .u64 0,.int .u64 0].length):=hk10r.2.2
 clear hRa hBa hk10 hk10b hk10r hV5 HBa K9 V
 simp only[Act.put,List.setIfInBounds_toArray,List.set_cons_succ,List.set_cons_zero]
 go_wp2_with (first|(refine wpList_store_mid rfl 49 _ _ rfl k10 0 (wn c).toArray ?_ ?_ ?_ ?_ ?_ ?_;rfl;exact hvc.out.symm;exact HJ.out;exact i40;exact zCk c;rw[show (wn c).toArray.toList=wn c from rfl,hwb.out])|fail)
 clear hwb HJ
 refine (G7 w k6 k8 k9 k10 x kk c z w.heap.size F).draws (by kernel_rfl) (by kernel_rfl) ⟨
  RG.zA1 fun a W hp=>⟨[(9,.pointer (some ⟨k9,0,none⟩))],.slice (some ⟨k9,0,none⟩) 33 33,W,⟨hp.o 9 (by kernel_rfl),trivial⟩,by kernel_rfl,Below.refl _ _,rfl⟩,
  RG.zA6 49 10 rfl u40 fun a W hp=>⟨k10,0,wn c,hp.o 10 (by kernel_rfl),(hp.b.1.at 0 rfl).2.1,i40,rfl⟩,
  RG.zA6 49 8 rfl u40 fun a W hp=>⟨k8,0,wn kk,hp.o 8 (by kernel_rfl),(hp.b.1.at 2 rfl).2.1,i40,rfl⟩,
  RG.zA6 49 6 rfl u40 fun a W hp=>⟨k6,0,wn x,hp.o 6 (by kernel_rfl),(hp.b.1.at 3 rfl).2.1,i40,rfl⟩,
  RG.zA9 fun a W hp=>⟨[(32,nv c),(33,nv kk),(34,nv x)],38,#[nv c,nv kk,nv x],⟨hp.n 1 32 (by kernel_rfl) (by kernel_rfl),hp.n 2 33 (by kernel_rfl) (by kernel_rfl),hp.n 3 34 (by kernel_rfl) (by kernel_rfl),trivial⟩,by kernel_rfl,by
   refine (zM6 HC.out.2.1 HC.out.2.2.2.2.1 HC.out.2.2.2.1 HC.out.2.2.1 W).mono ?_
   rintro e W' ⟨u,rfl,hb,rfl⟩
   exact ⟨_,rfl,hb,by rw[HC.out.2.2.2.2.2];rfl⟩⟩,
  RG.zA9 fun a W hp=>⟨[(35,nv z)],39,#[nv z],⟨hp.n 4 35 (by kernel_rfl) (by kernel_rfl),trivial⟩,by kernel_rfl,by
   refine (zIi HC.out.2.1 (by rw[← HC.out.2.2.2.2.2];exact Nat.mod_lt _ HC.out.2.1.pos) W).mono ?_
   rintro e W' ⟨u,rfl,k',hm,rfl⟩
   exact ⟨_,rfl,hm.bel,El.of_made hm (zA3 z)⟩⟩,
  RG.zA1 fun a W hp=>⟨[(31,.slice (some ⟨k9,0,none⟩) 33 33),(36,a.eval (.tmp 36))],.slice (some ⟨W.heap.size,0,none⟩) 2 2,W.alloc (.cells #[.slice (some ⟨k9,0,none⟩) 33 33,a.eval (.tmp 36)] 22),⟨hp.n 0 31 (by kernel_rfl) (by kernel_rfl),rfl,trivial⟩,by
   obtain ⟨k',c',he,-⟩:=show El 32 W (a.eval (.tmp 36)) (bx z) from hp.n 5 36 (by kernel_rfl) (by kernel_rfl)
   rw[he];kernel_rfl,zAf _ _,by
   have hE:=show El 32 W (a.eval (.tmp 36)) (bx z) from hp.n 5 36 (by kernel_rfl) (by kernel_rfl)
   refine ⟨W.heap.size,a.eval (.tmp 36),rfl,by rw[World.size_alloc];omega,by rw[World.cell?_alloc_new];rfl,by rw[World.cell?_alloc_new];rfl,hE.below (zAf _ _) (Nat.le_refl _)⟩⟩,
  RG.zA9 fun a W hp=>⟨[(37,a.eval (.tmp 37))],37,#[a.eval (.tmp 37)],⟨rfl,trivial⟩,by kernel_rfl,by
   obtain ⟨k',y,he,h1,h2,h3,h4⟩:=show Two k9 z (a.eval (.tmp 37)) W from hp.n 6 37 (by kernel_rfl) (by kernel_rfl)
   rw[he]
   have hF:=(hp.b.1.at 1 rfl:Row W k9 (bl33 F))
   refine (zMT k' 2 2 (fun j=>if j=0 then F else bx z) (by decide) (fun j hj=>?_) W h1 (fun j hj=>?_)).mono ?_
   ·split
    ·rw[HF.out.1];decide
    ·rw[zA3];decide
   ·have hj2:j=0∨j=1:=by omega
    rcases hj2 with rfl|rfl
    ·exact ⟨_,h2,k9,33,by rw[if_pos rfl,HF.out.1],by rw[if_pos rfl,HF.out.1];exact Nat.le_refl _,rfl,hF.1,zEr hF⟩
    ·refine ⟨_,h3,?_⟩
     show El (bx z).size W y (bx z)
     rw[zA3];exact h4
   ·rintro e W' ⟨u,rfl,hb,ho⟩
    refine ⟨_,rfl,hb,?_⟩
    have e1:catL (fun j=>if j=0 then F else bx z) 2=F.toList++(bx z).toList:=by
     rw[zBZ,zBZ];rfl
    rw[e1] at ho
    have e2:(F.toList++(bx z).toList).length=65:=by
     rw[List.length_append,show F.toList.length=33 from HF.out.1,show (bx z).toList.length=32 from zA3 z]
    rw[e2] at ho
    exact ⟨ho.1,ho.2.imp id fun ⟨g,cap,cur,q1,q2,q3⟩=>⟨g,cap,cur,q1,Nat.le_trans hp.b.2 q2,q3⟩⟩⟩,
  RG.zA1 fun a W hp=>⟨[(38,a.eval (.tmp 38))],a.eval (.tmp 38),W,⟨rfl,trivial⟩,by kernel_rfl,Below.refl _ _,hp.n 7 38 (by kernel_rfl) (by kernel_rfl)⟩,
  RG.zA1 fun a W hp=>⟨[],.int .i64 0,W,trivial,by kernel_rfl,Below.refl _ _,rfl⟩,trivial⟩ ⟨Kb.out.drew,Kb.out.bl.size⟩ ?_
 intro V wc hRc hBc
 have hV9:V 9=.int .i64 0:=hRc 9 (Nat.lt_of_succ_le (Nat.le_of_ble_eq_true (by kernel_rfl)))
 have HA8:Hid (Ans z w.heap.size F (V 8) wc):=hRc 8 (Nat.lt_of_succ_le (Nat.le_of_ble_eq_true (by kernel_rfl)))
 have HBc:Hid (Below w.heap.size w wc):=hBc.1.bl
 dsimp only[RG.putV,Nat.reduceAdd]
 simp only[Act.put,List.setIfInBounds_toArray,List.set_cons_succ,List.set_cons_zero]
 rw[hV9]
 generalize V 8=s8 at HA8 ⊢
 clear hRc hBc Kb
 go_wp2
 go_ret2
 exact ⟨_,rfl,HBc.out,s8,rfl,HA8.out⟩
theorem zLD {rs:List (Nat × List Value)} {b:Nat} {x:Nat × List Value} (h:rs[b]? = some x):RG.ad (rs.map (·.1)) b=x.1:=by
 unfold RG.ad
 rw[List.getD_eq_getElem?_getD,List.getElem?_map,h]
 rfl
theorem M_kp {P:Program} {Q:Exit→Act→World→Prop} {w0 w:World} {a:Act} {c:Code} {n:Nat} {rs:List (Nat × List Value)} (os:List (Tmp × RG.SV)) (hK:Kp w0 w rs) (hge:∀ x∈rs,w0.heap.size≤x.1) (hnd:(rs.map (·.1)).Nodup)
 (h:(os.map fun x=>a.tmps[x.1]?,a.tmps.size,a.defers)=(os.map fun x=>some (x.2.at (RG.ad (rs.map (·.1)))),n,[])) (hp:∀ a,RG.M w0 w0.heap.size [] n (rs.map (·.2)) (rs.map (·.1)) os a w→c.wp P Q a w):c.wp P Q a w:=by
 simp only[Prod.mk.injEq] at h
 have hb:=hK.bl
 refine hp a ⟨⟨⟨hb.os,hb.tape,hb.output,hb.size,fun j hj _=>hb.block j hj⟩,hb.size,by rw[List.length_map,List.length_map],?_,?_⟩,⟨h.2.1,h.2.2⟩,RG.Olds.mk' fun x hx=>List.map_inj_left.1 h.1 x hx⟩
 ·intro b c hb'
  rw[List.getElem?_map] at hb'
  obtain ⟨x,hx,rfl⟩:=Option.map_eq_some_iff.1 hb'
  have hm:=List.mem_of_getElem? hx
  have hR:=hK.rw x hm
  rw[zLD hx]
  exact ⟨hR.2.1,hR.2.2,hR.1,Or.inl (hge x hm)⟩
 ·intro b c hb' hc' hbc
  rw[List.length_map] at hb' hc'
  have h1:=List.getElem?_eq_getElem hb'
  have h2:=List.getElem?_eq_getElem hc'
  rw[zLD h1,zLD h2]
  intro e
  have hp:=List.pairwise_iff_getElem.1 hnd
  rcases Nat.lt_or_gt_of_ne hbc with hlt|hlt
  ·exact hp b c (by rw[List.length_map];exact hb') (by rw[List.length_map];exact hc') hlt (by simpa using e)
  ·exact hp c b (by rw[List.length_map];exact hc') (by rw[List.length_map];exact hb') hlt (by simpa using e.symm)
theorem eqPv {a b:Bs} (ha:a.size=33) (hb:b.size=33) (w:World):(binOp .eql 54 (pvl a) (pvl b)).run Tryz.prog w=.ok (.bool (decide (a=b))) w:=by
 have h:=eqCP ha hb w
 have h2:(binOp .eql 54 (pvl a) (pvl b)).run Tryz.prog w=(Op.equal 54 (pvl a) (pvl b) >>= fun b=>pure (Value.bool b)).run Tryz.prog w:=rfl
 rw[h2,Sem.run_bind]
 unfold pvl
 rw[h]
 rfl
theorem uSi:(Tryz.prog.underlying 74).map (·.isRow)=some true:=by kernel_rfl
theorem iSi:(Tryz.prog.info? 74).map (·.size)=some 74:=by kernel_rfl
def z74:List Value:=zz 66++RG.z 8
def sil (p f:Nat→UInt8) (c z:Nat):List Value:=fl33 p++(fl33 f++(wn c++wn z))
def zSi (e p f r:Nat→UInt8) (c z:Nat) (y:Bool):List RG.It:=[.c 3 [] (fpv e),.s 4 [] (.p 0 0),.x 5 [(4,1)] (fpv p),.s 6 [] (.p 0 66),.x 7 [(6,3)] (nv c),.s 8 [] (.p 0 70),.x 9 [(8,5)] (nv z),.c 10 [(3,0),(5,2),(7,4),(9,6)] (fpv r),.s 11 [] (.p 0 33),.x 12 [(11,8)] (fpv f),.x 13 [(10,7),(12,9)] (.bool y),.x 2 [(13,10)] (.bool y)]
def siv (p f:Bs) (c z:Nat):Value:=.agg (bl33 p++(bl33 f++(wn c++wn z))).toArray
theorem zOm (C:Fl3 P) (O:Ord N) (hord:∀ r:EC.Pt P,EC.On r→EC.mul N r=none) {p f:Bs} (hp:real P p=true) (hf:f.size=33) {c z:Nat} (hc:c<N) (hz:z<N):Gives 50 #[siv p f c z] (.bool (decide (vsF P p c z=f))):=by
 intro w
 have hG:=zPb C.toFld
 have hF:=zMH C.toFld O hord (zF7 C.toFld) (zHq C hp).2 hc hz
 rw[(zHq C hp).1] at hF
 have hF':Gives 62 #[pvl (wr (gG P)),pvl p,nv c,nv z] (pvl (vsF P p c z)):=by unfold vsF;exact hF
 have hs:=zHr hp
 have hv:(vsF P p c z).size=33:=zAB _
 have hE:=eqPv hv hf
 unfold siv
 rw[zC2 hs,zC2 hf]
 rw[zDf (zAB _)] at hG
 rw[zDf (zAB _),zDf hs,zDf hv] at hF'
 rw[zDf hv,zDf hf] at hE
 clear hF
 generalize decide (vsF P p c z=f)=y at hE ⊢
 generalize (fun i:Nat=>(wr (gG P))[i]!)=e0 at hG hF'
 generalize (fun i:Nat=>(vsF P p c z)[i]!)=r0 at hF' hE
 generalize (fun i:Nat=>p[i]!)=p0 at hF' ⊢
 generalize (fun i:Nat=>f[i]!)=f0 at hE ⊢
 go_enter Tryz.func50,Tryz.ntmps50
 refine RG.M.enter [(0,.v (.agg (fl33 p0++(fl33 f0++(wn c++wn z))).toArray))] 14 (by kernel_rfl) ?_
 intro a0 M0
 repeat refine wp_seq ?_
 refine M0.t [.m 1 [] 0,.x 2 [] (.bool false)] [(0,fl33 p0++(fl33 f0++(wn c++wn z)))] [] [fl33 p0++(fl33 f0++(wn c++wn z))] [(1,.p 0 0)] ⟨RG.mk 0 74,RG.st,trivial⟩ ?_
 intro j1 a1 w1 M1
 repeat refine wp_seq ?_
 refine M1.e (zSi e0 p0 f0 r0 c z y) [(2,.v (.bool y))] ⟨RG.cl hG,RG.st,RG.ld uCP zAs,RG.st,RG.ld u40 i40,RG.st,RG.ld u40 i40,RG.cl hF',RG.st,RG.ld uCP zAs,RG.zAg rfl .eql 54 54 10 12 (fpv r0) (fpv f0) (.bool y) rfl rfl RG.sx RG.sx (fun w=>by kernel_rfl) (fun w=>hE w),RG.st,trivial⟩ ?_
 intro a2 w2 M2
 refine wp_ret ?_
 refine bodyPost_ret (v:=.bool y) (RG.zAq 2 rfl _ M2.av) M2.sl.defers ?_
 exact ⟨_,rfl,M2.st.bel.below,rfl⟩
def zSf (p f:Nat→UInt8) (c z:Nat) (tx:Value):List RG.It:=[.x 31 [] (fpv p),.s 32 [] (.s 0 1 1),.s 33 [(32,1)] (.p 0 0),.x 34 [(33,2)] (fpv f),.x 35 [] (fpv p),.s 36 [] (.s 0 1 1),.s 37 [(36,5)] (.p 0 0),.x 38 [(37,6)] (fpv f),.x 39 [] tx,.c 40 [(35,4),(38,7),(39,8)] (nv c),.s 41 [] (.s 1 1 1),.s 42 [(41,10)] (.p 1 0),.x 43 [(42,11)] (nv z),.x 44 [(31,0),(34,3),(40,9),(43,12)] (.agg (sil p f c z).toArray),.u [(44,13)] 2,.x 7 [] (.bool true)]
noncomputable def rsC (N:Nat) (p sg:Bs) (tx:List UInt8):Nat:=asg N p.toList (sg.extract 0 33).toList tx
noncomputable def rsV (P:Nat) [NeZero P] (N:Nat) (p sg:Bs) (tx:List UInt8):Value:=
 if real P p && zCI P N sg then .tuple #[siv p (sg.extract 0 33) (rsC N p sg tx) (nuV (sg.extract 33 65)),.bool true] else .tuple #[.agg z74.toArray,.bool false]
theorem zGF (C:Fl3 P) (O:Ord N) (v0:Value) (t1:Option Addr) (n1 c1:Nat) (v2:Value) (p sg:Bs) (tx:List UInt8) (w:World) (h0:Arg33 w v0 p) (h1:SP.PartOk w (.slice t1 n1 c1) tx) (h2:SP.PartOk w v2 sg.toList) :
 Calls Tryz.prog 49 #[v0,.slice t1 n1 c1,v2] w (Ret fun e w'=>Below w.heap.size w w'∧e=rsV P N p sg tx):=by
 obtain ⟨k6,hk6⟩:∃ k6,Hid (w.heap.size=k6):=⟨_,rfl⟩
 obtain ⟨w1,hw1⟩:∃ w1,Hid (w.alloc (.cells z74.toArray 74)=w1):=⟨_,rfl⟩
 have K1:Hid (Kp w w1 [(k6,z74)]):=by
  have hR:Row w1 k6 z74:=by rw[← hw1.out,← hk6.out];exact zAi w _ _
  exact Kp.cons ⟨by rw[← hw1.out];exact zAf _ _,fun x hx=>by cases hx⟩ hR
 have HS:=Hid.mk' (zOh C.toFld v0 p w1 (h0.below K1.out.bl))
 obtain ⟨B,hB⟩:∃ B,Hid (rdB P p=B):=⟨_,rfl⟩
 obtain ⟨ok,hok⟩:∃ ok,Hid (real P p=ok):=⟨_,rfl⟩
 have HB:Hid (B.size=33):=by rw[← hB.out];exact zFV p
 rw[hB.out,hok.out] at HS
 obtain ⟨vB,hvB⟩:∃ vB,Hid (pvl B=vB):=⟨_,rfl⟩
 rw[hvB.out] at HS
 have H1:Hid (SP.PartOk w (.slice t1 n1 c1) tx):=h1
 have H2:Hid (SP.PartOk w v2 sg.toList):=h2
 have HC:Hid (Fl3 P∧Ord N):=⟨C,O⟩
 clear h0 h1 h2 C O
 go_enter Tryz.func49,Tryz.ntmps49
 go_wp2_with (refine zAp (v:=.pointer (some ⟨k6,0,none⟩)) (w':=w1) rfl (.alloc 74) rfl ?_ ?_;(rw[← hw1.out,← hk6.out];kernel_rfl))
 refine HS.out.mono ?_
 clear HS
 rintro e w2 ⟨vv,rfl,hb2,rfl⟩
 have K2:Hid (Kp w w2 [(k6,z74)]):=K1.out.grow hb2
 obtain ⟨k8,hk8⟩:∃ k8,Hid (w2.heap.size=k8):=⟨_,rfl⟩
 obtain ⟨w3,hw3⟩:∃ w3,Hid (w2.alloc (.cells z33.toArray 54)=w3):=⟨_,rfl⟩
 obtain ⟨w4,hw4⟩:∃ w4,Hid (w3.setCells k8 0 (bl33 B)=w4):=⟨_,rfl⟩
 have hlen:(bl33 B).length=33:=zAd HB.out
 have F3:Hid (Row w3 k8 z33∧Kp w w3 [(k6,z74)]∧k6<k8∧w.heap.size≤k6):=by
  have hlt:=(K2.out.at 0 rfl).1
  refine ⟨by rw[← hw3.out,← hk8.out];exact zAi w2 _ _,by rw[← hw3.out];exact K2.out.grow (zAf _ _),by rw[← hk8.out];exact hlt,by rw[hk6.out];exact Nat.le_refl _⟩
 have K4:Hid (Kp w w4 [(k8,bl33 B),(k6,z74)]∧k6<k8∧w.heap.size≤k6∧k8<w4.heap.size):=by
  have hk:Kp w w4 [(k8,bl33 B),(k6,z74)]:=by
   rw[← hw4.out]
   refine F3.out.2.1.put F3.out.1 (by rw[hlen];rfl) (Nat.le_trans F3.out.2.2.2 (Nat.le_of_lt F3.out.2.2.1)) (fun x hx=>?_)
   rw[List.mem_singleton.1 hx]
   exact Nat.ne_of_lt F3.out.2.2.1
  exact ⟨hk,F3.out.2.2.1,F3.out.2.2.2,(hk.at 0 rfl).1⟩
 have HI:Hid ((Tryz.prog.info? 54).map (·.size)=some (bl33 B).toArray.size∧w3.there k8 0 (bl33 B).toArray.size):=by
  have hsz:(bl33 B).toArray.size=33:=by rw[List.size_toArray];exact hlen
  rw[hsz]
  exact ⟨zAs,F3.out.1.2.2⟩
 have hrp:=zFU HC.out.1.toFld HC.out.2 v2 sg w4 (H2.out.below K4.out.1.bl)
 clear hb2 hlen K1 K2
 go_wp2_with (first|(refine zAp (v:=.pointer (some ⟨k8,0,none⟩)) (w':=w3) rfl (.alloc 54) rfl ?_ ?_;(rw[← hw3.out,← hk8.out];kernel_rfl))|(refine wpList_store_mid rfl 54 _ _ rfl k8 0 (bl33 B).toArray ?_ ?_ ?_ ?_ ?_ ?_;rfl;exact hvB.out.symm;exact HI.out.2;exact HI.out.1;exact zBt B;rw[show (bl33 B).toArray.toList=bl33 B from rfl,hw4.out])|fail)
 refine hrp.mono ?_
 clear hrp HI F3 hw3 hw4 hk8 hw1 hk6
 rintro e w5 ⟨vv,rfl,hb5,hor⟩
 have K5:Hid (Kp w w5 [(k8,bl33 B),(k6,z74)]):=K4.out.1.grow hb5
 have HZ:Hid (z74.toArray.all (·.oneCell')=true∧(Tryz.prog.info? 74).map (·.size)=some z74.toArray.size∧w5.there k6 0 z74.toArray.size):=⟨by decide +kernel,iSi,(K5.out.at 1 rfl).2.2⟩
 obtain ⟨vZ,hvZ⟩:∃ vZ,Hid (Value.agg z74.toArray=vZ):=⟨_,rfl⟩
 obtain ⟨w6,hw6⟩:∃ w6,Hid (w5.setCells k6 0 z74=w6):=⟨_,rfl⟩
 have K6:Hid (Row w6 k6 z74∧Below w.heap.size w w6):=by
  rw[← hw6.out]
  exact ⟨(K5.out.at 1 rfl).put rfl,RG.below_setCells K4.out.2.2.1 _ _ _ K5.out.bl⟩
 rcases hor with ⟨hT,K,k,rfl,hK1,hKk,hk2,hK3,hK4,hk3,hk4⟩|⟨hT,q1,q2,rfl⟩
 ·cases ok with
  | true =>
   have hBp:B=p:=by rw[← hB.out];unfold rdB;rw[if_pos (zFT hok.out)]
   have sp:=zHr hok.out
   have hT':=hT
   unfold zCI at hT'
   simp only[Bool.and_eq_true,decide_eq_true_eq] at hT'
   have sf:(sg.extract 0 33).size=33:=by rw[Array.size_extract];omega
   have hV:Hid (rsV P N p sg tx=.tuple #[siv p (sg.extract 0 33) (rsC N p sg tx) (nuV (sg.extract 33 65)),.bool true]):=by
    show _=_
    unfold rsV
    rw[hok.out,hT]
    rfl
   have hA:∀ W,RG.BelX w.heap.size [] w W→Calls Tryz.prog 36 #[pvl p,pvl (sg.extract 0 33),.slice t1 n1 c1] W (Ret fun e w'=>Below W.heap.size W w'∧e=nv (rsC N p sg tx)):=fun W hW=>by
    unfold rsC
    exact zIj HC.out.2 p (sg.extract 0 33) sp sf t1 n1 c1 tx W (H1.out.below hW.below)
   have hKp:Kp w w5 [(K,bl33 (sg.extract 0 33)),(k,wn (nuV (sg.extract 33 65))),(k6,z74),(k8,bl33 B)]:=by
    have r1:=K5.out.at 0 rfl
    have r2:=K5.out.at 1 rfl
    refine Kp.cons (Kp.cons (Kp.cons (Kp.cons ⟨K5.out.bl,fun x hx=>by cases hx⟩ r1) r2) ⟨hk2,hk3,hk4⟩) ⟨Nat.lt_trans hKk hk2,hK3,?_⟩
    rw[zAd sf]
    exact hK4
   have hge:w4.heap.size≤K∧K<k∧w.heap.size≤k6∧k6<k8∧k8<w4.heap.size:=⟨hK1,hKk,K4.out.2.2.1,K4.out.2.1,K4.out.2.2.2⟩
   rw[hBp] at hKp
   rw[zDf sp,zDf sf] at hA
   unfold siv at hV
   rw[zC2 sp,zC2 sf] at hV hKp
   clear hT' hT hK1 hK3 hK4 hk3 hk4 hk2 hKk sp sf hBp
   generalize rsC N p sg tx=cc at hA hV
   generalize nuV (sg.extract 33 65)=zc at hKp hV
   generalize (fun i:Nat=>p[i]!)=p0 at hA hV hKp
   generalize (fun i:Nat=>(sg.extract 0 33)[i]!)=f0 at hA hV hKp
   have HALL:Hid ((∀ W,RG.BelX w.heap.size [] w W→Calls Tryz.prog 36 #[fpv p0,fpv f0,.slice t1 n1 c1] W (Ret fun e w'=>Below W.heap.size W w'∧e=nv cc))∧Kp w w5 [(K,fl33 f0),(k,wn zc),(k6,z74),(k8,fl33 p0)]∧(w4.heap.size≤K∧K<k∧w.heap.size≤k6∧k6<k8∧k8<w4.heap.size)):=⟨hA,hKp,hge⟩
   clear hA hKp hge K4 K5 K6 HZ hb5
   go_wp2_with fail
   obtain ⟨hA,hKp,hge⟩:=HALL.out
   refine M_kp (n:=45) [(1,.v (.slice t1 n1 c1)),(6,.p 2 0),(8,.p 3 0),(10,.s 0 1 1),(11,.s 1 1 1)] hKp (fun x hx=>?_) ?_ (by kernel_rfl) ?_
   ·simp only[List.mem_cons,List.not_mem_nil,or_false] at hx
    rcases hx with rfl|rfl|rfl|rfl<;>simp only<;>omega
   ·simp only[List.map_cons,List.map_nil,List.nodup_cons,List.mem_cons,List.not_mem_nil,or_false,not_false_eq_true,List.nodup_nil,and_true]
    omega
   intro a0 M0
   refine M0.d (zSf p0 f0 cc zc (.slice t1 n1 c1)) [] [(2,14,sil p0 f0 cc zc)] [fl33 f0,wn zc,sil p0 f0 cc zc,fl33 p0] [(6,.p 2 0),(7,.v (.bool true))] ⟨RG.ld uCP zAs,RG.st,RG.st,RG.ld uCP zAs,RG.ld uCP zAs,RG.st,RG.st,RG.ld uCP zAs,RG.st,RG.clB (fun _ _=>by kernel_rfl) hA,RG.st,RG.st,RG.ld u40 i40,RG.st,RG.pt iSi,RG.st,trivial⟩ ?_
   intro a1 w7 M1
   rename_i KK ha
   refine ha _ _ ?_
   refine wp_ret ?_
   have h2:=M1.st.has 2 _ rfl
   refine bodyPost_ret (v:=.tuple #[.agg (sil p0 f0 cc zc).toArray,.bool true]) (zBS 6 7 74 rfl (vs:=sil p0 f0 cc zc) ⟨h2.2.2.1,h2.1,h2.2.1⟩ (M1.at (s:=.p 2 0)) M1.av uSi iSi) M1.sl.defers ?_
   exact ⟨_,rfl,M1.st.bel.below,by rw[hV.out];rfl⟩
  | false =>
   have hV:Hid (rsV P N p sg tx=.tuple #[.agg z74.toArray,.bool false]):=by
    show _=_
    unfold rsV
    rw[hok.out]
    rfl
   clear hT hK1 hKk hk2 hK3 hK4 hk3 hk4 K5 hb5 K4
   go_wp2_with (first|(refine zAp (v:=vZ) (w':=w5) rfl (.build 74 #[]) rfl ?_ ?_;(rw[← hvZ.out];kernel_rfl))|(refine wpList_store_mid rfl 74 _ _ rfl k6 0 z74.toArray ?_ ?_ ?_ ?_ ?_ ?_;rfl;exact hvZ.out.symm;exact HZ.out.2.2;exact HZ.out.2.1;exact HZ.out.1;rw[show z74.toArray.toList=z74 from rfl,hw6.out])|fail)
   refine bodyPost_ret (v:=.tuple #[.agg z74.toArray,.bool false]) (zBS 6 7 74 rfl K6.out.1 rfl rfl uSi iSi) rfl ?_
   exact ⟨_,rfl,K6.out.2,by rw[hV.out]⟩
 ·have hV:Hid (rsV P N p sg tx=.tuple #[.agg z74.toArray,.bool false]):=by
   show _=_
   unfold rsV
   rw[hT,Bool.and_false]
   rfl
  clear hT K5 hb5 K4
  cases ok<;>go_wp2_with (first|(refine zAp (v:=vZ) (w':=w5) rfl (.build 74 #[]) rfl ?_ ?_;(rw[← hvZ.out];kernel_rfl))|(refine wpList_store_mid rfl 74 _ _ rfl k6 0 z74.toArray ?_ ?_ ?_ ?_ ?_ ?_;rfl;exact hvZ.out.symm;exact HZ.out.2.2;exact HZ.out.2.1;exact HZ.out.1;rw[show z74.toArray.toList=z74 from rfl,hw6.out])|fail)
  all_goals refine bodyPost_ret (v:=.tuple #[.agg z74.toArray,.bool false]) (zBS 6 7 74 rfl K6.out.1 rfl rfl uSi iSi) rfl ?_
  all_goals exact ⟨_,rfl,K6.out.2,by rw[hV.out]⟩
theorem u54:(Tryz.prog.underlying 68).map (·.isRow)=some true:=by kernel_rfl
theorem i54:(Tryz.prog.info? 68).map (·.size)=some 12:=by kernel_rfl
theorem zKf (C:Fl3 P) (x1 y1 z1 x2 y2 z2:Fin P)(hz1:z1=0) (hz2:z2=0) :Gives 53 #[(rv x1 y1 z1),(rv x2 y2 z2)] (.bool true):=by
 intro w
 go_enter Tryz.func53,Tryz.ntmps53
 refine RG.M.enter [(0,(.v (rv x1 y1 z1))),(1,(.v (rv x2 y2 z2)))] 47 (by kernel_rfl) ?_
 intro a0 M0
 repeat refine wp_seq ?_
 refine M0.t [.m 2 [] 0,.m 3 [] 1,.x 4 [] (.bool false)] [(0,(ws x1++(ws y1++(ws z1)))),(1,(ws x2++(ws y2++(ws z2))))] [] [(ws x1++(ws y1++(ws z1))),(ws x2++(ws y2++(ws z2)))] [(2,(.p 0 0)),(3,(.p 1 0)),(4,(.v (.bool false)))] ⟨RG.mk 0 68,RG.mk 1 68,RG.st,trivial⟩ ?_
 intro j1 i1 a1 w1 M1
 repeat refine wp_seq ?_
 refine M1.u [.x 7 [] (rv x1 y1 z1),.c 8 [(7,0)] (.bool true),.x 5 [(8,1)] (.bool true)] [(3,(.p 1 0)),(4,(.v (.bool false))),(5,(.v (.bool true)))] ⟨RG.ld u54 i54,RG.cl (zE4 C x1 y1 z1 hz1),RG.st,trivial⟩ ?_
 intro a2 w2 M2
 repeat refine wp_seq ?_
 refine M2.u [.x 9 [] (rv x2 y2 z2),.c 10 [(9,0)] (.bool true),.x 6 [(10,1)] (.bool true)] [(4,(.v (.bool false))),(5,(.v (.bool true))),(6,(.v (.bool true)))] ⟨RG.ld u54 i54,RG.cl (zE4 C x2 y2 z2 hz2),RG.st,trivial⟩ ?_
 intro a3 w3 M3
 repeat refine wp_seq ?_
 refine M3.u [.x 11 [] (.bool true),.x 12 [(11,0)] (.bool true),⟨some 13,[],(.v undef),.pass⟩,.x 14 [(12,1),(13,2)] (.bool true)] [(4,(.v (.bool false))),(5,(.v (.bool true))),(6,(.v (.bool true))),(14,(.v (.bool true)))] ⟨RG.st,RG.st,RG.zAe rfl rfl,RG.st,trivial⟩ ?_
 intro a4 w4 M4
 repeat refine wp_seq ?_
 refine wp_cond_true M4.ev ?_
 repeat refine wp_seq ?_
 refine M4.u [.x 15 [] (.bool true),.x 16 [(15,0)] (.bool true),.x 17 [] (.bool true),.x 18 [(16,1),(17,2)] (.bool true),.x 4 [(18,3)] (.bool true)] [(4,(.v (.bool true)))] ⟨RG.st,RG.st,RG.st,RG.st,RG.st,trivial⟩ ?_
 intro a5 w5 M5
 refine wp_ret ?_
 refine bodyPost_ret (v:=(.bool true)) (RG.zAq 4 rfl _ (M5.at (s:=(.v (.bool true))))) M5.sl.defers ?_
 exact ⟨_,rfl,M5.st.bel.below,rfl⟩
theorem zKe (C:Fl3 P) (x1 y1 z1 x2 y2 z2:Fin P)(hz1:z1=0) (hz2:¬ z2=0) :Gives 53 #[(rv x1 y1 z1),(rv x2 y2 z2)] (.bool false):=by
 intro w
 go_enter Tryz.func53,Tryz.ntmps53
 refine RG.M.enter [(0,(.v (rv x1 y1 z1))),(1,(.v (rv x2 y2 z2)))] 47 (by kernel_rfl) ?_
 intro a0 M0
 repeat refine wp_seq ?_
 refine M0.t [.m 2 [] 0,.m 3 [] 1,.x 4 [] (.bool false)] [(0,(ws x1++(ws y1++(ws z1)))),(1,(ws x2++(ws y2++(ws z2))))] [] [(ws x1++(ws y1++(ws z1))),(ws x2++(ws y2++(ws z2)))] [(2,(.p 0 0)),(3,(.p 1 0)),(4,(.v (.bool false)))] ⟨RG.mk 0 68,RG.mk 1 68,RG.st,trivial⟩ ?_
 intro j1 i1 a1 w1 M1
 repeat refine wp_seq ?_
 refine M1.u [.x 7 [] (rv x1 y1 z1),.c 8 [(7,0)] (.bool true),.x 5 [(8,1)] (.bool true)] [(3,(.p 1 0)),(4,(.v (.bool false))),(5,(.v (.bool true)))] ⟨RG.ld u54 i54,RG.cl (zE4 C x1 y1 z1 hz1),RG.st,trivial⟩ ?_
 intro a2 w2 M2
 repeat refine wp_seq ?_
 refine M2.u [.x 9 [] (rv x2 y2 z2),.c 10 [(9,0)] (.bool false),.x 6 [(10,1)] (.bool false)] [(4,(.v (.bool false))),(5,(.v (.bool true))),(6,(.v (.bool false)))] ⟨RG.ld u54 i54,RG.cl (zCw C x2 y2 z2 hz2),RG.st,trivial⟩ ?_
 intro a3 w3 M3
 repeat refine wp_seq ?_
 refine M3.u [.x 11 [] (.bool true),.x 12 [(11,0)] (.bool true),⟨some 13,[],(.v undef),.pass⟩,.x 14 [(12,1),(13,2)] (.bool true)] [(4,(.v (.bool false))),(5,(.v (.bool true))),(6,(.v (.bool false))),(14,(.v (.bool true)))] ⟨RG.st,RG.st,RG.zAe rfl rfl,RG.st,trivial⟩ ?_
 intro a4 w4 M4
 repeat refine wp_seq ?_
 refine wp_cond_true M4.ev ?_
 repeat refine wp_seq ?_
 refine M4.u [.x 15 [] (.bool true),.x 16 [(15,0)] (.bool true),.x 17 [] (.bool false),.x 18 [(16,1),(17,2)] (.bool false),.x 4 [(18,3)] (.bool false)] [(4,(.v (.bool false)))] ⟨RG.st,RG.st,RG.st,RG.st,RG.st,trivial⟩ ?_
 intro a5 w5 M5
 refine wp_ret ?_
 refine bodyPost_ret (v:=(.bool false)) (RG.zAq 4 rfl _ (M5.at (s:=(.v (.bool false))))) M5.sl.defers ?_
 exact ⟨_,rfl,M5.st.bel.below,rfl⟩
theorem zKd (C:Fl3 P) (x1 y1 z1 x2 y2 z2:Fin P)(hz1:¬ z1=0) (hz2:z2=0) :Gives 53 #[(rv x1 y1 z1),(rv x2 y2 z2)] (.bool false):=by
 intro w
 go_enter Tryz.func53,Tryz.ntmps53
 refine RG.M.enter [(0,(.v (rv x1 y1 z1))),(1,(.v (rv x2 y2 z2)))] 47 (by kernel_rfl) ?_
 intro a0 M0
 repeat refine wp_seq ?_
 refine M0.t [.m 2 [] 0,.m 3 [] 1,.x 4 [] (.bool false)] [(0,(ws x1++(ws y1++(ws z1)))),(1,(ws x2++(ws y2++(ws z2))))] [] [(ws x1++(ws y1++(ws z1))),(ws x2++(ws y2++(ws z2)))] [(2,(.p 0 0)),(3,(.p 1 0)),(4,(.v (.bool false)))] ⟨RG.mk 0 68,RG.mk 1 68,RG.st,trivial⟩ ?_
 intro j1 i1 a1 w1 M1
 repeat refine wp_seq ?_
 refine M1.u [.x 7 [] (rv x1 y1 z1),.c 8 [(7,0)] (.bool false),.x 5 [(8,1)] (.bool false)] [(3,(.p 1 0)),(4,(.v (.bool false))),(5,(.v (.bool false)))] ⟨RG.ld u54 i54,RG.cl (zCw C x1 y1 z1 hz1),RG.st,trivial⟩ ?_
 intro a2 w2 M2
 repeat refine wp_seq ?_
 refine M2.u [.x 9 [] (rv x2 y2 z2),.c 10 [(9,0)] (.bool true),.x 6 [(10,1)] (.bool true)] [(4,(.v (.bool false))),(5,(.v (.bool false))),(6,(.v (.bool true)))] ⟨RG.ld u54 i54,RG.cl (zE4 C x2 y2 z2 hz2),RG.st,trivial⟩ ?_
 intro a3 w3 M3
 repeat refine wp_seq ?_
 refine M3.u [.x 11 [] (.bool false),.x 12 [(11,0)] (.bool false),.x 13 [] (.bool true),.x 14 [(12,1),(13,2)] (.bool true)] [(4,(.v (.bool false))),(5,(.v (.bool false))),(14,(.v (.bool true)))] ⟨RG.st,RG.st,RG.st,RG.st,trivial⟩ ?_
 intro a4 w4 M4
 repeat refine wp_seq ?_
 refine wp_cond_true M4.ev ?_
 repeat refine wp_seq ?_
 refine M4.u [.x 15 [] (.bool false),.x 16 [(15,0)] (.bool false),⟨some 17,[],(.v undef),.pass⟩,.x 18 [(16,1),(17,2)] (.bool false),.x 4 [(18,3)] (.bool false)] [(4,(.v (.bool false)))] ⟨RG.st,RG.st,RG.zAe rfl rfl,RG.st,RG.st,trivial⟩ ?_
 intro a5 w5 M5
 refine wp_ret ?_
 refine bodyPost_ret (v:=(.bool false)) (RG.zAq 4 rfl _ (M5.at (s:=(.v (.bool false))))) M5.sl.defers ?_
 exact ⟨_,rfl,M5.st.bel.below,rfl⟩
theorem zKc (C:Fl3 P) (x1 y1 z1 x2 y2 z2:Fin P)(hz1:¬ z1=0) (hz2:¬ z2=0) (hx:x1*z2=x2*z1) (hy:y1*z2=y2*z1) :Gives 53 #[(rv x1 y1 z1),(rv x2 y2 z2)] (.bool true):=by
 intro w
 obtain ⟨c1,hc1⟩:∃ c,c=x1*z2:=⟨_,rfl⟩
 obtain ⟨c2,hc2⟩:∃ c,c=x2*z1:=⟨_,rfl⟩
 obtain ⟨c3,hc3⟩:∃ c,c=y1*z2:=⟨_,rfl⟩
 obtain ⟨c4,hc4⟩:∃ c,c=y2*z1:=⟨_,rfl⟩
 go_enter Tryz.func53,Tryz.ntmps53
 refine RG.M.enter [(0,(.v (rv x1 y1 z1))),(1,(.v (rv x2 y2 z2)))] 47 (by kernel_rfl) ?_
 intro a0 M0
 repeat refine wp_seq ?_
 refine M0.t [.m 2 [] 0,.m 3 [] 1,.x 4 [] (.bool false)] [(0,(ws x1++(ws y1++(ws z1)))),(1,(ws x2++(ws y2++(ws z2))))] [] [(ws x1++(ws y1++(ws z1))),(ws x2++(ws y2++(ws z2)))] [(2,(.p 0 0)),(3,(.p 1 0)),(4,(.v (.bool false)))] ⟨RG.mk 0 68,RG.mk 1 68,RG.st,trivial⟩ ?_
 intro j1 i1 a1 w1 M1
 repeat refine wp_seq ?_
 refine M1.u [.x 7 [] (rv x1 y1 z1),.c 8 [(7,0)] (.bool false),.x 5 [(8,1)] (.bool false)] [(2,(.p 0 0)),(3,(.p 1 0)),(4,(.v (.bool false))),(5,(.v (.bool false)))] ⟨RG.ld u54 i54,RG.cl (zCw C x1 y1 z1 hz1),RG.st,trivial⟩ ?_
 intro a2 w2 M2
 repeat refine wp_seq ?_
 refine M2.u [.x 9 [] (rv x2 y2 z2),.c 10 [(9,0)] (.bool false),.x 6 [(10,1)] (.bool false)] [(2,(.p 0 0)),(3,(.p 1 0)),(4,(.v (.bool false))),(5,(.v (.bool false))),(6,(.v (.bool false)))] ⟨RG.ld u54 i54,RG.cl (zCw C x2 y2 z2 hz2),RG.st,trivial⟩ ?_
 intro a3 w3 M3
 repeat refine wp_seq ?_
 refine M3.u [.x 11 [] (.bool false),.x 12 [(11,0)] (.bool false),.x 13 [] (.bool false),.x 14 [(12,1),(13,2)] (.bool false)] [(2,(.p 0 0)),(3,(.p 1 0)),(4,(.v (.bool false))),(14,(.v (.bool false)))] ⟨RG.st,RG.st,RG.st,RG.st,trivial⟩ ?_
 intro a4 w4 M4
 repeat refine wp_seq ?_
 refine wp_cond_false M4.ev ?_
 refine wp_skip ?_
 repeat refine wp_seq ?_
 refine M4.e [.c 19 [] rv0,.s 20 [] (.p 0 0),.x 21 [(20,1)] (fv x1),.s 22 [] (.p 1 8),.x 23 [(22,3)] (fv z2),.c 24 [(19,0),(21,2),(23,4)] (fv c1),.c 25 [] rv0,.s 26 [] (.p 1 0),.x 27 [(26,7)] (fv x2),.s 28 [] (.p 0 8),.x 29 [(28,9)] (fv z1),.c 30 [(25,6),(27,8),(29,10)] (fv c2),.x 31 [(24,5),(30,11)] (.bool true),.x 32 [(31,12)] (.bool true),.c 33 [] rv0,.s 34 [] (.p 0 4),.x 35 [(34,15)] (fv y1),.s 36 [] (.p 1 8),.x 37 [(36,17)] (fv z2),.c 38 [(33,14),(35,16),(37,18)] (fv c3),.c 39 [] rv0,.s 40 [] (.p 1 4),.x 41 [(40,21)] (fv y2),.s 42 [] (.p 0 8),.x 43 [(42,23)] (fv z1),.c 44 [(39,20),(41,22),(43,24)] (fv c4),.x 45 [(38,19),(44,25)] (.bool true),.x 46 [(32,13),(45,26)] (.bool true),.x 4 [(46,27)] (.bool true)] [(4,(.v (.bool true)))] ⟨RG.cl (F3_c),RG.st,RG.ld u44 i44,RG.st,RG.ld u44 i44,RG.cl ((zAr C x1 z2).e hc1),RG.cl (F3_c),RG.st,RG.ld u44 i44,RG.st,RG.ld u44 i44,RG.cl ((zAr C x2 z1).e hc2),RG.zAg rfl .eql 60 60 24 30 (fv c1) (fv c2) (.bool true) rfl rfl RG.sx RG.sx (fun w=>by kernel_rfl) (zMK C.toFld (by subst_vars;exact hx)),RG.st,RG.cl (F3_c),RG.st,RG.ld u44 i44,RG.st,RG.ld u44 i44,RG.cl ((zAr C y1 z2).e hc3),RG.cl (F3_c),RG.st,RG.ld u44 i44,RG.st,RG.ld u44 i44,RG.cl ((zAr C y2 z1).e hc4),RG.zAg rfl .eql 60 60 38 44 (fv c3) (fv c4) (.bool true) rfl rfl RG.sx RG.sx (fun w=>by kernel_rfl) (zMK C.toFld (by subst_vars;exact hy)),RG.st,RG.st,trivial⟩ ?_
 intro a5 w5 M5
 refine wp_ret ?_
 refine bodyPost_ret (v:=(.bool true)) (RG.zAq 4 rfl _ (M5.at (s:=(.v (.bool true))))) M5.sl.defers ?_
 exact ⟨_,rfl,M5.st.bel.below,rfl⟩
theorem zKb (C:Fl3 P) (x1 y1 z1 x2 y2 z2:Fin P)(hz1:¬ z1=0) (hz2:¬ z2=0) (hx:¬ x1*z2=x2*z1) :Gives 53 #[(rv x1 y1 z1),(rv x2 y2 z2)] (.bool false):=by
 intro w
 obtain ⟨c1,hc1⟩:∃ c,c=x1*z2:=⟨_,rfl⟩
 obtain ⟨c2,hc2⟩:∃ c,c=x2*z1:=⟨_,rfl⟩
 go_enter Tryz.func53,Tryz.ntmps53
 refine RG.M.enter [(0,(.v (rv x1 y1 z1))),(1,(.v (rv x2 y2 z2)))] 47 (by kernel_rfl) ?_
 intro a0 M0
 repeat refine wp_seq ?_
 refine M0.t [.m 2 [] 0,.m 3 [] 1,.x 4 [] (.bool false)] [(0,(ws x1++(ws y1++(ws z1)))),(1,(ws x2++(ws y2++(ws z2))))] [] [(ws x1++(ws y1++(ws z1))),(ws x2++(ws y2++(ws z2)))] [(2,(.p 0 0)),(3,(.p 1 0)),(4,(.v (.bool false)))] ⟨RG.mk 0 68,RG.mk 1 68,RG.st,trivial⟩ ?_
 intro j1 i1 a1 w1 M1
 repeat refine wp_seq ?_
 refine M1.u [.x 7 [] (rv x1 y1 z1),.c 8 [(7,0)] (.bool false),.x 5 [(8,1)] (.bool false)] [(2,(.p 0 0)),(3,(.p 1 0)),(4,(.v (.bool false))),(5,(.v (.bool false)))] ⟨RG.ld u54 i54,RG.cl (zCw C x1 y1 z1 hz1),RG.st,trivial⟩ ?_
 intro a2 w2 M2
 repeat refine wp_seq ?_
 refine M2.u [.x 9 [] (rv x2 y2 z2),.c 10 [(9,0)] (.bool false),.x 6 [(10,1)] (.bool false)] [(2,(.p 0 0)),(3,(.p 1 0)),(4,(.v (.bool false))),(5,(.v (.bool false))),(6,(.v (.bool false)))] ⟨RG.ld u54 i54,RG.cl (zCw C x2 y2 z2 hz2),RG.st,trivial⟩ ?_
 intro a3 w3 M3
 repeat refine wp_seq ?_
 refine M3.u [.x 11 [] (.bool false),.x 12 [(11,0)] (.bool false),.x 13 [] (.bool false),.x 14 [(12,1),(13,2)] (.bool false)] [(2,(.p 0 0)),(3,(.p 1 0)),(4,(.v (.bool false))),(14,(.v (.bool false)))] ⟨RG.st,RG.st,RG.st,RG.st,trivial⟩ ?_
 intro a4 w4 M4
 repeat refine wp_seq ?_
 refine wp_cond_false M4.ev ?_
 refine wp_skip ?_
 repeat refine wp_seq ?_
 refine M4.e [.c 19 [] rv0,.s 20 [] (.p 0 0),.x 21 [(20,1)] (fv x1),.s 22 [] (.p 1 8),.x 23 [(22,3)] (fv z2),.c 24 [(19,0),(21,2),(23,4)] (fv c1),.c 25 [] rv0,.s 26 [] (.p 1 0),.x 27 [(26,7)] (fv x2),.s 28 [] (.p 0 8),.x 29 [(28,9)] (fv z1),.c 30 [(25,6),(27,8),(29,10)] (fv c2),.x 31 [(24,5),(30,11)] (.bool false),.x 32 [(31,12)] (.bool false),⟨some 33,[],(.v undef),.pass⟩,⟨some 34,[],(.v undef),.pass⟩,⟨some 35,[],(.v undef),.pass⟩,⟨some 36,[],(.v undef),.pass⟩,⟨some 37,[],(.v undef),.pass⟩,⟨some 38,[],(.v undef),.pass⟩,⟨some 39,[],(.v undef),.pass⟩,⟨some 40,[],(.v undef),.pass⟩,⟨some 41,[],(.v undef),.pass⟩,⟨some 42,[],(.v undef),.pass⟩,⟨some 43,[],(.v undef),.pass⟩,⟨some 44,[],(.v undef),.pass⟩,⟨some 45,[],(.v undef),.pass⟩,.x 46 [(32,13),(45,26)] (.bool false),.x 4 [(46,27)] (.bool false)] [(4,(.v (.bool false)))] ⟨RG.cl (F3_c),RG.st,RG.ld u44 i44,RG.st,RG.ld u44 i44,RG.cl ((zAr C x1 z2).e hc1),RG.cl (F3_c),RG.st,RG.ld u44 i44,RG.st,RG.ld u44 i44,RG.cl ((zAr C x2 z1).e hc2),RG.zAg rfl .eql 60 60 24 30 (fv c1) (fv c2) (.bool false) rfl rfl RG.sx RG.sx (fun w=>by kernel_rfl) (zPd C.toFld (by subst_vars;exact hx)),RG.st,RG.zAe rfl rfl,RG.zAe rfl rfl,RG.zAe rfl rfl,RG.zAe rfl rfl,RG.zAe rfl rfl,RG.zAe rfl rfl,RG.zAe rfl rfl,RG.zAe rfl rfl,RG.zAe rfl rfl,RG.zAe rfl rfl,RG.zAe rfl rfl,RG.zAe rfl rfl,RG.zAe rfl rfl,RG.st,RG.st,trivial⟩ ?_
 intro a5 w5 M5
 refine wp_ret ?_
 refine bodyPost_ret (v:=(.bool false)) (RG.zAq 4 rfl _ (M5.at (s:=(.v (.bool false))))) M5.sl.defers ?_
 exact ⟨_,rfl,M5.st.bel.below,rfl⟩
theorem zKa (C:Fl3 P) (x1 y1 z1 x2 y2 z2:Fin P)(hz1:¬ z1=0) (hz2:¬ z2=0) (hx:x1*z2=x2*z1) (hy:¬ y1*z2=y2*z1) :Gives 53 #[(rv x1 y1 z1),(rv x2 y2 z2)] (.bool false):=by
 intro w
 obtain ⟨c1,hc1⟩:∃ c,c=x1*z2:=⟨_,rfl⟩
 obtain ⟨c2,hc2⟩:∃ c,c=x2*z1:=⟨_,rfl⟩
 obtain ⟨c3,hc3⟩:∃ c,c=y1*z2:=⟨_,rfl⟩
 obtain ⟨c4,hc4⟩:∃ c,c=y2*z1:=⟨_,rfl⟩
 go_enter Tryz.func53,Tryz.ntmps53
 refine RG.M.enter [(0,(.v (rv x1 y1 z1))),(1,(.v (rv x2 y2 z2)))] 47 (by kernel_rfl) ?_
 intro a0 M0
 repeat refine wp_seq ?_
 refine M0.t [.m 2 [] 0,.m 3 [] 1,.x 4 [] (.bool false)] [(0,(ws x1++(ws y1++(ws z1)))),(1,(ws x2++(ws y2++(ws z2))))] [] [(ws x1++(ws y1++(ws z1))),(ws x2++(ws y2++(ws z2)))] [(2,(.p 0 0)),(3,(.p 1 0)),(4,(.v (.bool false)))] ⟨RG.mk 0 68,RG.mk 1 68,RG.st,trivial⟩ ?_
 intro j1 i1 a1 w1 M1
 repeat refine wp_seq ?_
 refine M1.u [.x 7 [] (rv x1 y1 z1),.c 8 [(7,0)] (.bool false),.x 5 [(8,1)] (.bool false)] [(2,(.p 0 0)),(3,(.p 1 0)),(4,(.v (.bool false))),(5,(.v (.bool false)))] ⟨RG.ld u54 i54,RG.cl (zCw C x1 y1 z1 hz1),RG.st,trivial⟩ ?_
 intro a2 w2 M2
 repeat refine wp_seq ?_
 refine M2.u [.x 9 [] (rv x2 y2 z2),.c 10 [(9,0)] (.bool false),.x 6 [(10,1)] (.bool false)] [(2,(.p 0 0)),(3,(.p 1 0)),(4,(.v (.bool false))),(5,(.v (.bool false))),(6,(.v (.bool false)))] ⟨RG.ld u54 i54,RG.cl (zCw C x2 y2 z2 hz2),RG.st,trivial⟩ ?_
 intro a3 w3 M3
 repeat refine wp_seq ?_
 refine M3.u [.x 11 [] (.bool false),.x 12 [(11,0)] (.bool false),.x 13 [] (.bool false),.x 14 [(12,1),(13,2)] (.bool false)] [(2,(.p 0 0)),(3,(.p 1 0)),(4,(.v (.bool false))),(14,(.v (.bool false)))] ⟨RG.st,RG.st,RG.st,RG.st,trivial⟩ ?_
 intro a4 w4 M4
 repeat refine wp_seq ?_
 refine wp_cond_false M4.ev ?_
 refine wp_skip ?_
 repeat refine wp_seq ?_
 refine M4.e [.c 19 [] rv0,.s 20 [] (.p 0 0),.x 21 [(20,1)] (fv x1),.s 22 [] (.p 1 8),.x 23 [(22,3)] (fv z2),.c 24 [(19,0),(21,2),(23,4)] (fv c1),.c 25 [] rv0,.s 26 [] (.p 1 0),.x 27 [(26,7)] (fv x2),.s 28 [] (.p 0 8),.x 29 [(28,9)] (fv z1),.c 30 [(25,6),(27,8),(29,10)] (fv c2),.x 31 [(24,5),(30,11)] (.bool true),.x 32 [(31,12)] (.bool true),.c 33 [] rv0,.s 34 [] (.p 0 4),.x 35 [(34,15)] (fv y1),.s 36 [] (.p 1 8),.x 37 [(36,17)] (fv z2),.c 38 [(33,14),(35,16),(37,18)] (fv c3),.c 39 [] rv0,.s 40 [] (.p 1 4),.x 41 [(40,21)] (fv y2),.s 42 [] (.p 0 8),.x 43 [(42,23)] (fv z1),.c 44 [(39,20),(41,22),(43,24)] (fv c4),.x 45 [(38,19),(44,25)] (.bool false),.x 46 [(32,13),(45,26)] (.bool false),.x 4 [(46,27)] (.bool false)] [(4,(.v (.bool false)))] ⟨RG.cl (F3_c),RG.st,RG.ld u44 i44,RG.st,RG.ld u44 i44,RG.cl ((zAr C x1 z2).e hc1),RG.cl (F3_c),RG.st,RG.ld u44 i44,RG.st,RG.ld u44 i44,RG.cl ((zAr C x2 z1).e hc2),RG.zAg rfl .eql 60 60 24 30 (fv c1) (fv c2) (.bool true) rfl rfl RG.sx RG.sx (fun w=>by kernel_rfl) (zMK C.toFld (by subst_vars;exact hx)),RG.st,RG.cl (F3_c),RG.st,RG.ld u44 i44,RG.st,RG.ld u44 i44,RG.cl ((zAr C y1 z2).e hc3),RG.cl (F3_c),RG.st,RG.ld u44 i44,RG.st,RG.ld u44 i44,RG.cl ((zAr C y2 z1).e hc4),RG.zAg rfl .eql 60 60 38 44 (fv c3) (fv c4) (.bool false) rfl rfl RG.sx RG.sx (fun w=>by kernel_rfl) (zPd C.toFld (by subst_vars;exact hy)),RG.st,RG.st,trivial⟩ ?_
 intro a5 w5 M5
 refine wp_ret ?_
 refine bodyPost_ret (v:=(.bool false)) (RG.zAq 4 rfl _ (M5.at (s:=(.v (.bool false))))) M5.sl.defers ?_
 exact ⟨_,rfl,M5.st.bel.below,rfl⟩
theorem zOd (C:EC.Cur P) {a b c d z1 z2 x1 x2 y1 y2:Fin P} (h1:¬ z1=0) (h2:¬ z2=0) (e1:x1=a*z1) (e2:y1=b*z1) (e3:x2=c*z2) (e4:y2=d*z2) (hx:x1*z2=x2*z1) (hy:y1*z2=y2*z1):a=c∧b=d:=by
 have h3:=EC.zAz C.pr h1 h2
 subst e1 e2 e3 e4
 exact ⟨EC.cancel C.pr h3 (by grobner),EC.cancel C.pr h3 (by grobner)⟩
theorem zGT {x y z:Fin P} {q:EC.Pt P} (h:EC.Frac x y z q) (hz:¬ z=0):q≠none:=fun e=>by
 subst e
 exact hz h
theorem zOx (C:Fl3 P) {a b:T3 P} {p q:EC.Pt P} (h:FracT a p) (h':FracT b q):Gives 53 #[tv a,tv b] (.bool (decide (p=q))):=by
 obtain ⟨x1,y1,z1⟩:=a
 obtain ⟨x2,y2,z2⟩:=b
 by_cases n1:z1=0
 ·obtain rfl:=h.1.zero n1
  by_cases n2:z2=0
  ·obtain rfl:=h'.1.zero n2
   rw[decide_eq_true rfl]
   exact zKf C x1 y1 z1 x2 y2 z2 n1 n2
  ·rw[decide_eq_false (fun e=>zGT h'.1 n2 e.symm)]
   exact zKe C x1 y1 z1 x2 y2 z2 n1 n2
 ·by_cases n2:z2=0
  ·obtain rfl:=h'.1.zero n2
   rw[decide_eq_false (fun e=>zGT h.1 n1 e)]
   exact zKd C x1 y1 z1 x2 y2 z2 n1 n2
  ·match p,q,h.1,h'.1 with
   | none,_,k,_=>exact absurd k n1
   | some (a,b),none,_,k=>exact absurd k n2
   | some (a,b),some (c,d),⟨_,e1,e2⟩,⟨_,e3,e4⟩ =>
    have e1:x1=a*z1:=e1
    have e2:y1=b*z1:=e2
    have e3:x2=c*z2:=e3
    have e4:y2=d*z2:=e4
    by_cases hx:x1*z2=x2*z1
    ·by_cases hy:y1*z2=y2*z1
     ·obtain ⟨r1,r2⟩:=zOd C.cur n1 n2 e1 e2 e3 e4 hx hy
      rw[decide_eq_true (by rw[r1,r2])]
      exact zKc C x1 y1 z1 x2 y2 z2 n1 n2 hx hy
     ·rw[decide_eq_false (fun e=>hy (by cases e;rw[e2,e4];grobner))]
      exact zKa C x1 y1 z1 x2 y2 z2 n1 n2 hx hy
    ·rw[decide_eq_false (fun e=>hx (by cases e;rw[e1,e3];grobner))]
     exact zKb C x1 y1 z1 x2 y2 z2 n1 n2 hx
theorem zCS {P:Program} {fn:Func} {tmps:Array Value} {W:World} {k k':Nat} {vs us:List Value} {v:Value} (t t' u:Tmp) (T T':TypeId) (hr:fn.results=#[.cell t T,.cell t' T',.tmp u]) (h:Row W k vs) (h':Row W k' us) (ht:tmps[t]? = some (.pointer (some ⟨k,0,none⟩))) (ht':tmps[t']? = some (.pointer (some ⟨k',0,none⟩))) (hv:tmps[u]? = some v)
 (hu:(P.underlying T).map (·.isRow)=some true) (hi:(P.info? T).map (·.size)=some vs.length) (hu':(P.underlying T').map (·.isRow)=some true) (hi':(P.info? T').map (·.size)=some us.length):(results fn tmps).run P W=.ok (.tuple #[.agg vs.toArray,.agg us.toArray,v]) W:=by
 obtain ⟨d,hu,hd⟩:=Option.map_eq_some_iff.1 hu
 obtain ⟨d',hu',hd'⟩:=Option.map_eq_some_iff.1 hu'
 have h1:=run_loadVar_mid (P:=P) W k 0 T vs d h.2.1 hu hd hi
 have h3:=run_loadVar_mid (P:=P) W k' 0 T' us d' h'.2.1 hu' hd' hi'
 have h2:tmps.getD t undef=.pointer (some ⟨k,0,none⟩):=by rw[Array.getD_eq_getD_getElem?,ht];rfl
 have h4:tmps.getD t' undef=.pointer (some ⟨k',0,none⟩):=by rw[Array.getD_eq_getD_getElem?,ht'];rfl
 have h5:tmps.getD u undef=v:=by rw[Array.getD_eq_getD_getElem?,hv];rfl
 unfold results
 rw[hr]
 simp only[Array.mapM_eq_mapM_toList,List.mapM_cons,List.mapM_nil,h2,h4,h5,asAddr]
 simp[Sem.run_bind,h1,h3]
def zSk (s u:ByteArray) (v:Value) (ok:Bool):List RG.It:=[.x 15 [] (.string s),.x 16 [(15,0)] (.string u),.c 17 [(16,1)] (.tuple #[v,.bool ok]),.x 14 [(17,2)] (.tuple #[v,.bool ok]),.x 18 [(14,3)] (v),.x 19 [(14,3)] (.bool ok),.m 5 [] 2,.u [(5,6),(18,4)] 2,.x 6 [(19,5)] (.bool ok)]
def zSj (s u:ByteArray) (v:Value) (ok:Bool):List RG.It:=[.x 21 [] (.string s),.x 22 [(21,0)] (.string u),.c 23 [(22,1)] (.tuple #[v,.bool ok]),.x 20 [(23,2)] (.tuple #[v,.bool ok]),.x 24 [(20,3)] (v),.x 25 [(20,3)] (.bool ok),.m 7 [] 3,.u [(7,6),(24,4)] 3,.x 8 [(25,5)] (.bool ok)]
def zRo (v:Value) (z:Nat) (ok:Bool):List RG.It:=[.x 26 [] v,.x 27 [] (nv z),.x 28 [] (.bool true),.x 29 [(28,2)] (.bool true),.x 30 [] (.bool ok),.x 31 [(29,3),(30,4)] (.bool ok),.u [(26,0)] 0,.u [(27,1)] 1,.x 4 [(31,5)] (.bool ok)]
def zRp (v:Value) (z:Nat):List RG.It:=[.x 26 [] v,.x 27 [] (nv z),.x 28 [] (.bool false),.x 29 [(28,2)] (.bool false),⟨some 30,[],(.v undef),.pass⟩,.x 31 [(29,3),(30,4)] (.bool false),.u [(26,0)] 0,.u [(27,1)] 1,.x 4 [(31,5)] (.bool false)]
omit [NeZero P] in
theorem zP7 (s u0 u1:ByteArray) (t:T3 P) (z:Nat) (lb o0 o1:Bool) (hlb:(!((s.size:Int) == 65))=lb)
 (hs0:lb=false→∀ w,(Instr.sliceAt 9 (.string s) none (some (.int .i64 33)) none).run Tryz.prog w=.ok (.string u0) w) (hs1:lb=false→∀ w,(Instr.sliceAt 9 (.string s) (some (.int .i64 33)) none none).run Tryz.prog w=.ok (.string u1) w)
 (h0:Gives 76 #[.string u0] (.tuple #[tv t,.bool o0])) (h1:Gives 63 #[.string u1] (.tuple #[nv z,.bool o1])) :
 Gives 52 #[.string s] (if lb then .tuple #[.agg (RG.z 12).toArray,.agg (RG.z 4).toArray,.bool false] else .tuple #[.agg (tw t).toArray,.agg (wn z).toArray,.bool (o0 && o1)]):=by
 intro w
 go_enter Tryz.func52,Tryz.ntmps52
 refine RG.M.enter [(0,.v (.string s))] 32 (by kernel_rfl) ?_
 intro a0 M0
 repeat refine wp_seq ?_
 refine M0.t [.m 2 [] 0,.m 3 [] 1,.x 4 [] (.bool false)] [(0,RG.z 12),(1,RG.z 4)] [] [RG.z 12,RG.z 4] [(0,.v (.string s)),(2,.p 0 0),(3,.p 1 0)] ⟨RG.mk 0 68,RG.mk 1 60,RG.st,trivial⟩ ?_
 intro j0 j1 a1 w1 M1
 repeat refine wp_seq ?_
 refine M1.u [.x 9 [] (.string s),.x 10 [(9,0)] (.int .i64 (s.size:Int)),.x 11 [(10,1)] (.bool lb)] [(0,.v (.string s)),(2,.p 0 0),(3,.p 1 0),(11,.v (.bool lb))] ⟨RG.st,RG.st,RG.se (show Value.bool (!((s.size:Int) == 65))=.bool lb by rw[hlb]),trivial⟩ ?_
 intro a2 w2 M2
 cases lb with
 | true =>
  repeat refine wp_seq ?_
  refine wp_cond_true (M2.ev (v:=.bool true) (by kernel_rfl)) ?_
  repeat refine wp_seq ?_
  refine M2.t [.x 12 [] (.agg (RG.z 12).toArray),.x 13 [] (.agg (RG.z 4).toArray),.u [(12,0)] 0,.u [(13,1)] 1,.x 4 [] (.bool false)] [] [(0,2,RG.z 12),(1,3,RG.z 4)] [RG.z 12,RG.z 4] [(2,.p 0 0),(3,.p 1 0),(4,.v (.bool false))] ⟨RG.st,RG.st,RG.pt i56,RG.pt i33,RG.st,trivial⟩ ?_
  intro a3 w3 M3
  refine wp_ret ?_
  have g0:=M3.st.has 0 _ rfl
  have g1:=M3.st.has 1 _ rfl
  refine bodyPost_ret (v:=.tuple #[.agg (RG.z 12).toArray,.agg (RG.z 4).toArray,.bool false]) (zCS 2 3 4 68 60 rfl (vs:=RG.z 12) (us:=RG.z 4) ⟨g0.2.2.1,g0.1,g0.2.1⟩ ⟨g1.2.2.1,g1.1,g1.2.1⟩ (M3.at (s:=.p 0 0)) (M3.at (s:=.p 1 0)) M3.av u56 i56 u33 i33) M3.sl.defers ?_
  exact ⟨_,rfl,M3.st.bel.below,rfl⟩
 | false =>
  have hq0:=hs0 rfl
  have hq1:=hs1 rfl
  repeat refine wp_seq ?_
  refine wp_cond_false (M2.ev (v:=.bool false) (by kernel_rfl)) ?_
  refine wp_skip ?_
  repeat refine wp_seq ?_
  refine M2.t (zSk s u0 (tv t) o0) [(6,RG.z 12)] [(2,7,tw t)] [RG.z 12,RG.z 4,tw t] [(0,.v (.string s)),(2,.p 0 0),(3,.p 1 0),(5,.p 2 0),(6,.v (.bool o0))] ⟨RG.st,RG.zEV rfl 9 15 (.int .i64 33) (.string s) (.string u0) rfl rfl RG.sx hq0,RG.cl h0,RG.st,RG.st,RG.st,RG.mk 2 68,RG.pt i56,RG.st,trivial⟩ ?_
  intro j3 a3 w3 M3
  repeat refine wp_seq ?_
  refine M3.t (zSj s u1 (nv z) o1) [(6,RG.z 4)] [(3,7,wn z)] [RG.z 12,RG.z 4,tw t,wn z] [(2,.p 0 0),(3,.p 1 0),(5,.p 2 0),(6,.v (.bool o0)),(7,.p 3 0),(8,.v (.bool o1))] ⟨RG.st,RG.zBD rfl 9 21 (.int .i64 33) (.string s) (.string u1) rfl rfl RG.sx hq1,RG.cl h1,RG.st,RG.st,RG.st,RG.mk 3 60,RG.pt i33,RG.st,trivial⟩ ?_
  intro j4 a4 w4 M4
  repeat refine wp_seq ?_
  cases o0 with
  | false =>
   refine M4.d (zRp (tv t) z) [] [(0,6,tw t),(1,7,wn z)] [tw t,wn z,tw t,wn z] [(2,.p 0 0),(3,.p 1 0),(4,.v (.bool false))] ⟨RG.ld u56 i56,RG.ld u33 i33,RG.st,RG.st,RG.zAe rfl rfl,RG.st,RG.pt i56,RG.pt i33,RG.st,trivial⟩ ?_
   intro a5 w5 M5
   refine wp_ret ?_
   have g0:=M5.st.has 0 _ rfl
   have g1:=M5.st.has 1 _ rfl
   refine bodyPost_ret (v:=.tuple #[.agg (tw t).toArray,.agg (wn z).toArray,.bool false]) (zCS 2 3 4 68 60 rfl (vs:=tw t) (us:=wn z) ⟨g0.2.2.1,g0.1,g0.2.1⟩ ⟨g1.2.2.1,g1.1,g1.2.1⟩ (M5.at (s:=.p 0 0)) (M5.at (s:=.p 1 0)) M5.av u56 i56 u33 i33) M5.sl.defers ?_
   exact ⟨_,rfl,M5.st.bel.below,rfl⟩
  | true =>
   refine M4.d (zRo (tv t) z o1) [] [(0,6,tw t),(1,7,wn z)] [tw t,wn z,tw t,wn z] [(2,.p 0 0),(3,.p 1 0),(4,.v (.bool o1))] ⟨RG.ld u56 i56,RG.ld u33 i33,RG.st,RG.st,RG.st,RG.st,RG.pt i56,RG.pt i33,RG.st,trivial⟩ ?_
   intro a5 w5 M5
   refine wp_ret ?_
   have g0:=M5.st.has 0 _ rfl
   have g1:=M5.st.has 1 _ rfl
   refine bodyPost_ret (v:=.tuple #[.agg (tw t).toArray,.agg (wn z).toArray,.bool o1]) (zCS 2 3 4 68 60 rfl (vs:=tw t) (us:=wn z) ⟨g0.2.2.1,g0.1,g0.2.1⟩ ⟨g1.2.2.1,g1.1,g1.2.1⟩ (M5.at (s:=.p 0 0)) (M5.at (s:=.p 1 0)) M5.av u56 i56 u33 i33) M5.sl.defers ?_
   exact ⟨_,rfl,M5.st.bel.below,rfl⟩
def zSe (s:ByteArray) (v:Value) (ok:Bool):List RG.It:=[.x 14 [] (.string s),.c 15 [(14,0)] (.tuple #[v,.bool ok]),.x 13 [(15,1)] (.tuple #[v,.bool ok]),.x 16 [(13,2)] v,.x 17 [(13,2)] (.bool ok),.m 7 [] 0,.u [(7,5),(16,3)] 0,.x 8 [(17,4)] (.bool ok)]
def zRi (s:ByteArray) (v z:Value) (ok:Bool):List RG.It:=[.x 19 [] (.string s),.c 20 [(19,0)] (.tuple #[v,z,.bool ok]),.x 18 [(20,1)] (.tuple #[v,z,.bool ok]),.x 21 [(18,2)] v,.x 22 [(18,2)] z,.x 23 [(18,2)] (.bool ok),.m 9 [] 1,.m 10 [] 2,.u [(9,6),(21,3)] 1,.u [(10,7),(22,4)] 2,.x 11 [(23,5)] (.bool ok)]
def zNG (ok:Bool):List RG.It:=[.x 24 [] (.bool true),.x 25 [(24,0)] (.bool false),.x 26 [(25,1)] (.bool false),.x 27 [] (.bool ok),.x 28 [(27,3)] (.bool (!ok)),.x 29 [(26,2),(28,4)] (.bool (!ok))]
def zNH:List RG.It:=[.x 24 [] (.bool false),.x 25 [(24,0)] (.bool true),.x 26 [(25,1)] (.bool true),⟨some 27,[],(.v undef),.pass⟩,⟨some 28,[],(.v undef),.pass⟩,.x 29 [(26,2),(28,4)] (.bool true)]
def zSd (p s u tx:ByteArray) (c:Nat):List RG.It:=[.x 30 [] (.string p),.x 31 [] (.string s),.x 32 [(31,1)] (.string u),.x 33 [] (.string tx),.c 34 [(30,0),(32,2),(33,3)] (nv c),.m 12 [] 3,.u [(12,5),(34,4)] 3]
def zSc (z c:Nat) (vt v0 vb vm vs:Value) (y:Bool):List RG.It:=[.x 35 [] (nv z),.c 36 [(35,0)] vb,.x 37 [] vt,.x 38 [] (nv c),.x 39 [] v0,.c 40 [(38,3),(39,4)] vm,.c 41 [(37,2),(40,5)] vs,.c 42 [(36,1),(41,6)] (.bool y),.x 6 [(42,7)] (.bool y)]
omit [NeZero P] in
theorem zP0 (p tx s u0:ByteArray) (t0 t:T3 P) (T12 Z4:List Value) (hT:T12.length=12) (hZ:Z4.length=4) (z c:Nat) (o0 fine y:Bool) (tb tm ts:T3 P)
 (h0:Gives 51 #[.string p] (.tuple #[tv t0,.bool o0])) (h1:Gives 52 #[.string s] (.tuple #[.agg (RG.z 12).toArray,.agg (RG.z 4).toArray,.bool false])∧fine=false∨Gives 52 #[.string s] (.tuple #[tv t,nv z,.bool fine]))
 (hgood:o0=true→fine=true→(∀ w,(Instr.sliceAt 9 (.string s) none (some (.int .i64 33)) none).run Tryz.prog w=.ok (.string u0) w)∧Gives 45 #[.string p,.string u0,.string tx] (nv c)∧Gives 43 #[nv z] (tv tb)∧Gives 55 #[nv c,tv t0] (tv tm)∧Gives 54 #[tv t,tv tm] (tv ts)∧Gives 53 #[tv tb,tv ts] (.bool y)) :
 Gives 15 #[.string p,.string tx,.string s] (.bool (o0 && (fine && y))):=by
 intro w
 go_enter Tryz.func15,Tryz.ntmps15
 refine RG.M.enter [(0,.v (.string p)),(1,.v (.string tx)),(2,.v (.string s))] 43 (by kernel_rfl) ?_
 intro a0 M0
 repeat refine wp_seq ?_
 refine M0.u [.x 6 [] (.bool false)] [(0,.v (.string p)),(1,.v (.string tx)),(2,.v (.string s))] ⟨RG.st,trivial⟩ ?_
 intro a1 w1 M1
 repeat refine wp_seq ?_
 refine M1.t (zSe p (tv t0) o0) [(5,RG.z 12)] [(0,6,tw t0)] [tw t0] [(0,.v (.string p)),(1,.v (.string tx)),(2,.v (.string s)),(7,.p 0 0),(8,.v (.bool o0))] ⟨RG.st,RG.cl h0,RG.st,RG.st,RG.st,RG.mk 0 68,RG.pt i56,RG.st,trivial⟩ ?_
 intro j2 a2 w2 M2
 repeat refine wp_seq ?_
 rcases h1 with ⟨h1,rfl⟩|h1
 ·refine M2.t (zRi s (.agg (RG.z 12).toArray) (.agg (RG.z 4).toArray) false) [(6,RG.z 12),(7,RG.z 4)] [(1,8,RG.z 12),(2,9,RG.z 4)] [tw t0,RG.z 12,RG.z 4] [(8,.v (.bool o0)),(11,.v (.bool false))] ⟨RG.st,RG.cl h1,RG.st,RG.st,RG.st,RG.st,RG.mk 1 68,RG.mk 2 60,RG.pt i56,RG.pt i33,RG.st,trivial⟩ ?_
  intro j3 j4 a3 w3 M3
  repeat refine wp_seq ?_
  cases o0 with
  | false =>
   refine M3.u zNH [(29,.v (.bool true))] ⟨RG.st,RG.st,RG.st,RG.zAe rfl rfl,RG.zAe rfl rfl,RG.st,trivial⟩ ?_
   intro a4 w4 M4
   repeat refine wp_seq ?_
   refine wp_cond_true (M4.ev (v:=.bool true) (by kernel_rfl)) ?_
   repeat refine wp_seq ?_
   refine M4.u [.x 6 [] (.bool false)] [(6,.v (.bool false))] ⟨RG.st,trivial⟩ ?_
   intro az wz Mz
   refine wp_ret ?_
   refine bodyPost_ret (v:=.bool false) (RG.zAq 6 rfl _ Mz.av) Mz.sl.defers ?_
   exact ⟨_,rfl,Mz.st.bel.below,rfl⟩
  | true =>
   refine M3.u (zNG false) [(29,.v (.bool true))] ⟨RG.st,RG.st,RG.st,RG.st,RG.st,RG.st,trivial⟩ ?_
   intro a4 w4 M4
   repeat refine wp_seq ?_
   refine wp_cond_true (M4.ev (v:=.bool true) (by kernel_rfl)) ?_
   repeat refine wp_seq ?_
   refine M4.u [.x 6 [] (.bool false)] [(6,.v (.bool false))] ⟨RG.st,trivial⟩ ?_
   intro az wz Mz
   refine wp_ret ?_
   refine bodyPost_ret (v:=.bool false) (RG.zAq 6 rfl _ Mz.av) Mz.sl.defers ?_
   exact ⟨_,rfl,Mz.st.bel.below,rfl⟩
 ·refine M2.t (zRi s (tv t) (nv z) fine) [(6,RG.z 12),(7,RG.z 4)] [(1,8,tw t),(2,9,wn z)] [tw t0,tw t,wn z] [(0,.v (.string p)),(1,.v (.string tx)),(2,.v (.string s)),(7,.p 0 0),(9,.p 1 0),(10,.p 2 0),(8,.v (.bool o0)),(11,.v (.bool fine))] ⟨RG.st,RG.cl h1,RG.st,RG.st,RG.st,RG.st,RG.mk 1 68,RG.mk 2 60,RG.pt i56,RG.pt i33,RG.st,trivial⟩ ?_
  intro j3 j4 a3 w3 M3
  repeat refine wp_seq ?_
  cases o0 with
  | false =>
   refine M3.u zNH [(29,.v (.bool true))] ⟨RG.st,RG.st,RG.st,RG.zAe rfl rfl,RG.zAe rfl rfl,RG.st,trivial⟩ ?_
   intro a4 w4 M4
   repeat refine wp_seq ?_
   refine wp_cond_true (M4.ev (v:=.bool true) (by kernel_rfl)) ?_
   repeat refine wp_seq ?_
   refine M4.u [.x 6 [] (.bool false)] [(6,.v (.bool false))] ⟨RG.st,trivial⟩ ?_
   intro az wz Mz
   refine wp_ret ?_
   refine bodyPost_ret (v:=.bool false) (RG.zAq 6 rfl _ Mz.av) Mz.sl.defers ?_
   exact ⟨_,rfl,Mz.st.bel.below,rfl⟩
  | true =>
   refine M3.u (zNG fine) [(0,.v (.string p)),(1,.v (.string tx)),(2,.v (.string s)),(7,.p 0 0),(9,.p 1 0),(10,.p 2 0),(29,.v (.bool (!fine)))] ⟨RG.st,RG.st,RG.st,RG.st,RG.st,RG.st,trivial⟩ ?_
   intro a4 w4 M4
   cases fine with
   | false =>
    repeat refine wp_seq ?_
    refine wp_cond_true (M4.ev (v:=.bool true) (by kernel_rfl)) ?_
    repeat refine wp_seq ?_
    refine M4.u [.x 6 [] (.bool false)] [(6,.v (.bool false))] ⟨RG.st,trivial⟩ ?_
    intro az wz Mz
    refine wp_ret ?_
    refine bodyPost_ret (v:=.bool false) (RG.zAq 6 rfl _ Mz.av) Mz.sl.defers ?_
    exact ⟨_,rfl,Mz.st.bel.below,rfl⟩
   | true =>
    obtain ⟨hs,hA,hB,hTi,hPl,hSm⟩:=hgood rfl rfl
    repeat refine wp_seq ?_
    refine wp_cond_false (M4.ev (v:=.bool false) (by kernel_rfl)) ?_
    refine wp_skip ?_
    repeat refine wp_seq ?_
    refine M4.t (zSd p s u0 tx c) [(5,RG.z 4)] [(3,6,wn c)] [tw t0,tw t,wn z,wn c] [(7,.p 0 0),(9,.p 1 0),(10,.p 2 0),(12,.p 3 0)] ⟨RG.st,RG.st,RG.zEV rfl 9 31 (.int .i64 33) (.string s) (.string u0) rfl rfl RG.sx hs,RG.st,RG.cl hA,RG.mk 3 60,RG.pt i33,trivial⟩ ?_
    intro j5 a5 w5 M5
    repeat refine wp_seq ?_
    refine M5.e (zSc z c (tv t) (tv t0) (tv tb) (tv tm) (tv ts) y) [(6,.v (.bool y))] ⟨RG.ld u33 i33,RG.cl hB,RG.ld u56 i56,RG.ld u33 i33,RG.ld u56 i56,RG.cl hTi,RG.cl hPl,RG.cl hSm,RG.st,trivial⟩ ?_
    intro a6 w6 M6
    refine wp_ret ?_
    refine bodyPost_ret (v:=.bool y) (RG.zAq 6 rfl _ M6.av) M6.sl.defers ?_
    exact ⟨_,rfl,M6.st.bel.below,by rw[show (true && (true && y))=y from rfl]⟩
theorem slS0 (pr:ByteArray) (h:pr.size=65) (w:World):(Instr.sliceAt 9 (.string pr) none (some (.int .i64 33)) none).run Tryz.prog w=.ok (.string (pr.extract 0 33)) w:=by
 go_simp
theorem slS1 (pr:ByteArray) (h:pr.size=65) (w:World):(Instr.sliceAt 9 (.string pr) (some (.int .i64 33)) none none).run Tryz.prog w=.ok (.string (pr.extract 33 65)) w:=by
 go_simp
noncomputable def veT (P:Nat) [NeZero P] (N:Nat) (p tx:Bs) (s:ByteArray):Bool:=
 real P p && ((decide (s.size=65) && ((rd P (s.extract 0 33).data).isSome && (rq N (s.extract 33 65).data).isSome)) && decide (EC.mul (nuV (s.extract 33 65).data) (gG P)=EC.add (ptOf P (s.extract 0 33).data) (EC.mul (asg N p.toList (s.extract 0 33).data.toList tx.toList) (ptOf P p))))
theorem zRD (C:Fl3 P) (O:Ord N) (p tx s:ByteArray) (hp:p.size≤4096) (htx:tx.size≤4096):Gives 15 #[.string p,.string tx,.string s] (.bool (veT P N p.data tx.data s)):=by
 unfold veT
 have hsig:=fun lb hlb h0 h1=>zP7 (P:=P) s (s.extract 0 33) (s.extract 33 65) (rdT P (s.extract 0 33).data) (nuV (s.extract 33 65).data) lb (rd P (s.extract 0 33).data).isSome (rq N (s.extract 33 65).data).isSome hlb h0 h1 (zKg C (s.extract 0 33).data) (zOA O (s.extract 33 65))
 have l4:=zOX (s.extract 33 65).data
 have hcN:asg N p.data.toList (s.extract 0 33).data.toList tx.data.toList<N:=zLz O _ _ _
 have lc:=Nat.lt_of_lt_of_le hcN O.le
 have hA:=zMj O p (s.extract 0 33) tx (by omega)
 have hmul:∀ n,n<top→∀ d:Bs,real P d=true→FracT (tmF n (rdT P d) 256) (EC.mul n (ptOf P d)):=fun n hn d hd=>by
  have h:=zLT C (n:=n) (by unfold top at hn;omega) (zD7 C (zFT hd)) 256 (Nat.le_refl _)
  rwa[Nat.sub_self,Nat.pow_zero,Nat.div_one] at h
 by_cases h65:s.size=65
 ·rw[decide_eq_true h65,Bool.true_and]
  have hlb:(!((s.size:Int) == 65))=false:=by rw[h65];rfl
  have h1:=hsig false hlb (fun _=>slS0 s h65) (fun _=>slS1 s h65)
  generalize nuV (s.extract 33 65).data=z at h1 l4 ⊢
  generalize asg N p.data.toList (s.extract 0 33).data.toList tx.data.toList=c at hA lc ⊢
  refine zP0 (P:=P) p tx s (s.extract 0 33) (rdT P p.data) (rdT P (s.extract 0 33).data) (RG.z 12) (RG.z 4) rfl rfl z c (real P p.data) _ _ (tmF z (gT P) 256) (tmF c (rdT P p.data) 256) (plF (rdT P (s.extract 0 33).data) (tmF c (rdT P p.data) 256)) (zKk C p) (Or.inr h1) ?_
  intro r0 fi
  have hrd:(rd P (s.extract 0 33).data).isSome=true:=((Bool.and_eq_true _ _).mp fi).1
  obtain ⟨p1,f1⟩:=FracT.plus C (zD7 C hrd) (hmul c lc p.data r0)
  refine ⟨slS0 s h65,hA (by rw[ByteArray.size_extract];omega) (by omega),zOC C z l4,zIl C _ lc _ (zD7 C (zFT r0)),p1,?_⟩
  exact zOx C (zNY C l4) f1
 ·rw[decide_eq_false h65,Bool.false_and,Bool.false_and,Bool.and_false]
  have hlb:(!((s.size:Int) == 65))=true:=by
   have:((s.size:Int) == 65)=false:=by simpa using (by omega:¬ (s.size:Int)=65)
   rw[this];rfl
  have h1:=hsig true hlb (fun h=>by cases h) (fun h=>by cases h)
  have:=zP0 (P:=P) p tx s (s.extract 0 33) (rdT P p.data) (rdT P (s.extract 0 33).data) (RG.z 12) (RG.z 4) rfl rfl 0 0 (real P p.data) false false (gT P) (gT P) (gT P) (zKk C p) (Or.inl ⟨h1,rfl⟩) (fun _ h=>by cases h)
  rwa[Bool.false_and,Bool.and_false] at this
theorem zOL {W:World} {B0 n:Nat} {v:Value} {T:Bs} (h:W.ownsRow B0 5 1 v n (cb T)) (hn:0<n) (hT:T.size=n):El n W v T:=by
 have h0:=fun {g:Nat}=>h.cells (g:=g)
 rcases h.2 with ⟨-,h2⟩|⟨g,cap,cur,rfl,-,hc,hq⟩
 ·omega
 ·have hr:W.rangeAt g 0 (cb T):=fun j u hu=>by
   have:=h0 (g:=g) rfl j u hu
   rw[add0] at this
   rw[Nat.zero_add]
   exact this
  refine ⟨g,cap,rfl,?_,hT,(Array.getElem?_eq_some_iff.1 hc).1,zGf hr fun j hj=>⟨?_,?_⟩⟩
  ·exact hq.1
  ·rw[hr j _ (List.getElem?_eq_getElem hj)];rfl
  ·simp[World.frozen?,hc]
end
section
open Go.RowKit Go.Sort Go.Deep
variable {P:Nat} [NeZero P] {N:Nat}
section
variable (w:World) (k9 k11 kk x:Nat) (k s g:Bool) (fv:Value) (c9 c11:List Value) (T:Bs) (eqb:Bool)
end
end
section
open Go.RowKit Go.Sort Go.Deep
variable {P:Nat} [NeZero P] {N:Nat}
theorem zPV (O:Ord N) {n:Nat} (hn:n<N):rq N (bx n)=some n:=by
 have hv:beV (bx n).toList=n:=zIC (Nat.lt_of_lt_of_le hn O.le)
 unfold rq
 rw[hv,if_pos ⟨zA3 n,hn⟩]
theorem zRJ (O:Ord N) {n:Nat} (hn:n<N):nuV (bx n)=n:=(zOk (zPV O hn)).symm
theorem zKz (C:Fld P) {A B:EC.Pt P} (hA:EC.On A) (hB:EC.On B):EC.add (EC.add A B) (EC.neg B)=A:=by
 have hn:EC.On (EC.neg B):=EC.zAJ hB
 rw[C.cur.assoc hA hB hn,C.cur.comm hB hn,C.cur.neg_l hB,C.cur.comm hA EC.zBC]
 rfl
theorem zH3 (C:Fld P) (hord:∀ r:EC.Pt P,EC.On r→EC.mul N r=none) {X:EC.Pt P} (hX:EC.On X) (x k c:Nat):EC.add (EC.mul (sPl N k (sTi N c x)) X) (EC.neg (EC.mul c (EC.mul x X)))=EC.mul k X:=by
 unfold sPl sTi
 have e1:EC.mul ((k+c*x%N)%N) X=EC.add (EC.mul k X) (EC.mul c (EC.mul x X)):=by
  rw[mul_mod C hord hX,EC.mul_add C.cur hX,mul_mod C hord hX,Nat.mul_comm,EC.zCY C.cur hX]
 rw[e1]
 exact zKz C (EC.zAK C.cur hX k) (EC.zAK C.cur (EC.zAK C.cur hX x) c)
theorem zOp (C:Fl3 P) {X:EC.Pt P} (hX:EC.On X) (h0:X≠none):real P (wr X)=true∧ptOf P (wr X)=X:=by
 obtain ⟨p,hp,hpt⟩:=zI2 C.toFld hX
 have hB:rdB P (wr X)=wr X:=by unfold rdB;rw[hp];rfl
 refine ⟨?_,by rw[zFY hp];exact hpt⟩
 have hne:¬ wr X=o33:=fun e=>by
  rw[← zHc (P:=P)] at e
  have:=congrArg (unwr P) e
  rw[zBv C.toFld hX,zBv C.toFld EC.zBC] at this
  exact h0 this
 unfold real
 rw[hB,hp,decide_eq_false hne]
 rfl
def zRh (v0 v1 v2:Value) (L:List Value) (ok:Bool):List RG.It:=[.x 10 [] v0,.x 11 [] v1,.x 12 [] v2,.c 13 [(10,0),(11,1),(12,2)] (.tuple #[.agg L.toArray,.bool ok]),.x 9 [(13,3)] (.tuple #[.agg L.toArray,.bool ok]),.x 14 [(9,4)] (.agg L.toArray),.x 15 [(9,4)] (.bool ok),.m 7 [] 0,.u [(7,7),(14,5)] 0,.x 8 [(15,6)] (.bool ok)]
def zRg (L:List Value) (y:Bool):List RG.It:=[.x 16 [] (.bool true),.x 17 [(16,0)] (.bool true),.x 18 [] (.agg L.toArray),.c 19 [(18,2)] (.bool y),.x 20 [(17,1),(19,3)] (.bool y),.x 6 [(20,4)] (.bool y)]
noncomputable def veP (P:Nat) [NeZero P] (N:Nat) (p sg:Bs) (tx:List UInt8):Bool:=(real P p && zCI P N sg) && decide (vsF P p (rsC N p sg tx) (nuV (sg.extract 33 65))=sg.extract 0 33)
theorem zIf (C:Fl3 P) (O:Ord N) (hord:∀ r:EC.Pt P,EC.On r→EC.mul N r=none) (v0:Value) (t1:Option Addr) (n1 c1:Nat) (v2:Value) (p sg:Bs) (tx:List UInt8) (w:World) (h0:Arg33 w v0 p) (h1:SP.PartOk w (.slice t1 n1 c1) tx) (h2:SP.PartOk w v2 sg.toList) :
 Calls Tryz.prog 14 #[v0,.slice t1 n1 c1,v2] w (Ret fun e w'=>Below w.heap.size w w'∧e=.bool (veP P N p sg tx)):=by
 have hR:∀ W,RG.BelX w.heap.size [] w W→Calls Tryz.prog 49 #[v0,.slice t1 n1 c1,v2] W (Ret fun e w'=>Below W.heap.size W w'∧e=rsV P N p sg tx):=fun W hW =>
  zGF C O v0 t1 n1 c1 v2 p sg tx W (h0.below hW.below) (h1.below hW.below) (h2.below hW.below)
 generalize hv1:Value.slice t1 n1 c1=v1 at hR
 clear hv1 h0 h1 h2
 cases hok:(real P p && zCI P N sg) with
 | true =>
  obtain ⟨hp,hT⟩:=(Bool.and_eq_true _ _).mp hok
  have hT':=hT
  unfold zCI at hT'
  simp only[Bool.and_eq_true,decide_eq_true_eq] at hT'
  have sf:(sg.extract 0 33).size=33:=by rw[Array.size_extract];omega
  have hcN:rsC N p sg tx<N:=by unfold rsC;exact zLz O _ _ _
  have hr:=zOm C O hord hp sf hcN (zRx hT'.2.2)
  have hV:rsV P N p sg tx=.tuple #[siv p (sg.extract 0 33) (rsC N p sg tx) (nuV (sg.extract 33 65)),.bool true]:=by unfold rsV;rw[hok];rfl
  have hQ:veP P N p sg tx=decide (vsF P p (rsC N p sg tx) (nuV (sg.extract 33 65))=sg.extract 0 33):=by unfold veP;rw[hok,Bool.true_and]
  rw[hQ]
  rw[hV] at hR
  unfold siv at hR hr
  rw[zC2 (zHr hp),zC2 sf] at hR hr
  clear hT hT' hQ hV hok sf hp hcN
  generalize decide (vsF P p (rsC N p sg tx) (nuV (sg.extract 33 65))=sg.extract 0 33)=y at hr ⊢
  generalize rsC N p sg tx=cc at hR hr
  generalize nuV (sg.extract 33 65)=zc at hR hr
  generalize (fun i:Nat=>p[i]!)=p0 at hR hr
  generalize (fun i:Nat=>(sg.extract 0 33)[i]!)=f0 at hR hr
  go_enter Tryz.func14,Tryz.ntmps14
  refine RG.M.enter [(0,.v v0),(1,.v v1),(2,.v v2)] 21 (by kernel_rfl) ?_
  intro a0 M0
  repeat refine wp_seq ?_
  refine M0.u [.x 6 [] (.bool false)] [(0,.v v0),(1,.v v1),(2,.v v2)] ⟨RG.st,trivial⟩ ?_
  intro a1 w1 M1
  repeat refine wp_seq ?_
  refine M1.t (zRh v0 v1 v2 (sil p0 f0 cc zc) true) [(7,z74)] [(0,8,sil p0 f0 cc zc)] [sil p0 f0 cc zc] [(7,.p 0 0),(8,.v (.bool true))] ⟨RG.st,RG.st,RG.st,RG.clB (fun _ _=>by kernel_rfl) hR,RG.st,RG.st,RG.st,RG.mk 0 74,RG.pt iSi,RG.st,trivial⟩ ?_
  intro j2 a2 w2 M2
  repeat refine wp_seq ?_
  refine M2.u (zRg (sil p0 f0 cc zc) y) [(6,.v (.bool y))] ⟨RG.st,RG.st,RG.ld uSi iSi,RG.cl hr,RG.st,RG.st,trivial⟩ ?_
  intro a3 w3 M3
  refine wp_ret ?_
  refine bodyPost_ret (v:=.bool y) (RG.zAq 6 rfl _ M3.av) M3.sl.defers ?_
  exact ⟨_,rfl,M3.st.bel.below,rfl⟩
 | false =>
  have hV:rsV P N p sg tx=.tuple #[.agg z74.toArray,.bool false]:=by unfold rsV;rw[hok];rfl
  have hQ:veP P N p sg tx=false:=by unfold veP;rw[hok,Bool.false_and]
  rw[hQ]
  rw[hV] at hR
  clear hQ hV hok
  go_enter Tryz.func14,Tryz.ntmps14
  refine RG.M.enter [(0,.v v0),(1,.v v1),(2,.v v2)] 21 (by kernel_rfl) ?_
  intro a0 M0
  repeat refine wp_seq ?_
  refine M0.u [.x 6 [] (.bool false)] [(0,.v v0),(1,.v v1),(2,.v v2)] ⟨RG.st,trivial⟩ ?_
  intro a1 w1 M1
  repeat refine wp_seq ?_
  refine M1.t (zRh v0 v1 v2 z74 false) [(7,z74)] [(0,8,z74)] [z74] [(7,.p 0 0),(8,.v (.bool false))] ⟨RG.st,RG.st,RG.st,RG.clB (fun _ _=>by kernel_rfl) hR,RG.st,RG.st,RG.st,RG.mk 0 74,RG.pt iSi,RG.st,trivial⟩ ?_
  intro j2 a2 w2 M2
  repeat refine wp_seq ?_
  refine M2.u [.x 16 [] (.bool false),.x 17 [(16,0)] (.bool false),⟨some 18,[],(.v undef),.pass⟩,⟨some 19,[],(.v undef),.pass⟩,.x 20 [(17,1),(19,3)] (.bool false),.x 6 [(20,4)] (.bool false)] [(6,.v (.bool false))] ⟨RG.st,RG.st,RG.zAe rfl rfl,RG.zAe rfl rfl,RG.st,RG.st,trivial⟩ ?_
  intro a3 w3 M3
  refine wp_ret ?_
  refine bodyPost_ret (v:=.bool false) (RG.zAq 6 rfl _ M3.av) M3.sl.defers ?_
  exact ⟨_,rfl,M3.st.bel.below,rfl⟩
theorem zOE (C:Fld P) {b:Bs} (h:(rd P b).isSome=true):wr (ptOf P b)=b∧EC.On (ptOf P b):=by
 obtain ⟨p,hp⟩:=Option.isSome_iff_exists.1 h
 rw[zFY hp]
 exact ⟨zNO C hp,(zJ4 C hp).2⟩
theorem zPB (C:Fld P) {X Y:EC.Pt P} (hX:EC.On X) (hY:EC.On Y) (h:wr X=wr Y):X=Y:=by
 have:=congrArg (unwr P) h
 rwa[zBv C hX,zBv C hY] at this
theorem zNT (C:Fl3 P) (p tx:Bs) (s:ByteArray):veP P N p s.data tx.toList=veT P N p tx s:=by
 have e1:(s.extract 0 33).data=s.data.extract 0 33:=by simp
 have e2:(s.extract 33 65).data=s.data.extract 33 65:=by simp
 unfold veP veT zCI rsC
 rw[e1,e2]
 have e3:decide (s.size=65)=decide (s.data.size=65):=rfl
 rw[e3,Bool.and_assoc]
 cases hp:real P p with
 | false=>rfl
 | true =>
  cases hf:(rd P (s.data.extract 0 33)).isSome with
  | false=>simp
  | true =>
   have hd:decide (vsF P p (asg N p.toList (s.data.extract 0 33).toList tx.toList) (nuV (s.data.extract 33 65))=s.data.extract 0 33)=decide (EC.mul (nuV (s.data.extract 33 65)) (gG P)=EC.add (ptOf P (s.data.extract 0 33)) (EC.mul (asg N p.toList (s.data.extract 0 33).toList tx.toList) (ptOf P p))):=by
    generalize nuV (s.data.extract 33 65)=z
    generalize asg N p.toList (s.data.extract 0 33).toList tx.toList=c
    obtain ⟨hw,hon⟩:=zOE C.toFld hf
    have hg:=EC.zAK C.toFld.cur (zF7 C.toFld) z
    have hcp:=EC.zAK C.toFld.cur (zHq C hp).2 c
    have hA:EC.On (EC.add (EC.mul z (gG P)) (EC.neg (EC.mul c (ptOf P p)))):=C.toFld.cur.on hg (EC.zAJ hcp)
    apply decide_eq_decide.2
    constructor
    ·intro h
     unfold vsF at h
     rw[← hw] at h
     have h2:=zPB C.toFld hA hon h
     rw[← h2,C.toFld.cur.assoc hg (EC.zAJ hcp) hcp,C.toFld.cur.neg_l hcp,C.toFld.cur.comm hg EC.zBC]
     rfl
    ·intro h
     unfold vsF
     rw[h,zKz C.toFld hon hcp]
     exact hw
   rw[hd]
end
namespace RG
open Go Go.RowKit
variable {P:Program} {ops:Array Oper} {Q:Exit→Act→World→Prop} {w0:World} {k0:Nat} {X:List Nat} {its:List It} {bl:List Bl} {olds:List (Tmp × SV)} {i:Nat} {o:Oper} {it:It}
end RG
section
open Go.RowKit Go.Sort Go.Deep
variable {P:Nat} [NeZero P]
end
section
open Go.RowKit Go.Sort Go.Deep
variable {P:Nat} [NeZero P] {N:Nat}
theorem fl3:∃ (P:Nat) (_:NeZero P),Fl3 P:=by
 obtain ⟨P,hz,hP,hc⟩:=EC.cur
 have h0:P=Go.Proofs.YtglhhepedoffeaaGreat.p0:=by rw[hP];decide +kernel
 have hg:=gap0
 have hr:=zRA
 have h2:2≤Go.Proofs.YtglhhepedoffeaaGreat.p0%18446744073709551616:=by decide +kernel
 have h4:Go.Proofs.YtglhhepedoffeaaGreat.p0/4%18446744073709551616<18446744073709551615:=by decide +kernel
 have h3:Go.Proofs.YtglhhepedoffeaaGreat.p0%4=3:=by decide +kernel
 have h7:7<Go.Proofs.YtglhhepedoffeaaGreat.p0:=by decide +kernel
 rw[← h0] at hg hr h2 h4 h3 h7
 exact ⟨P,hz,⟨⟨hg,hc,h2,h4,h3,h7⟩,hr⟩⟩
end
namespace EC
variable {P:Nat} [NeZero P]
def fo {α:Type} (x:Fin P) (f:Fin P→α):α:=
 match x.val with
 | 0=>f (Fin.ofNat P 0)
 | n+1=>f (Fin.ofNat P (n+1))
theorem zRX {α:Type} (x:Fin P) (f:Fin P→α):fo x f=f x:=by
 have hx:Fin.ofNat P x.val=x:=Fin.ext (Nat.mod_eq_of_lt x.isLt)
 unfold fo
 split
 ·next h=>rw[h] at hx;rw[hx]
 ·next n h=>rw[h] at hx;rw[hx]
def runs (u v:Fin P) (e:Nat):Nat→Fin P→Fin P→Fin P→Bool
 | 0,_,_,z=>decide (z=0)
 | k+1,x,y,z=>fo (twX x y) fun X=>fo (twY x y) fun Y=>fo (twZ y z) fun Z =>
  if e/2^k%2=1 then
   if Z=0 then false else
   fo (plAx X 1) fun ax=>fo (plAy Y 1) fun ay=>fo (plAx u Z) fun bx=>fo (plAy v Z) fun bY =>
   if ax=bx∧ay=bY then false else
   fo (plX ax ay bx bY) fun a=>fo (plY ax ay bx bY) fun b=>fo (plZ Z 1 ax bx) fun c=>runs u v e k a b c
  else runs u v e k X Y Z
theorem zKv (C:Cur P):(1:Fin P)≠0:=fun h=>C.two (by
 calc (2:Fin P)=2*1:=by grobner
  _=0:=by rw[h];grobner)
theorem zHl (C:Cur P) {u v:Fin P} (hg:On (some (u,v))) (e:Nat):∀ (k m:Nat) (x y z:Fin P),Jac x y z (mul m (some (u,v)))→runs u v e k x y z=true→mul (m*2^k+e%2^k) (some (u,v))=none
 | 0,m,x,y,z,hj,h=>by
  have hz:z=0:=of_decide_eq_true h
  rw[Nat.pow_zero,Nat.mod_one,Nat.mul_one,Nat.add_zero]
  exact hj.zero C hz
 | k+1,m,x,y,z,hj,h=>by
  have hm:=zAK C hg m
  have h1:=hj.twice C hm
  rw[← mul_add C hg] at h1
  have hb:e%2^(k+1)=e/2^k%2*2^k+e%2^k:=by
   rw[Nat.pow_succ,Nat.mod_mul,Nat.mul_comm (2^k) (e/2^k%2),Nat.add_comm]
  have hp:2^(k+1)=2*2^k:=by rw[Nat.pow_succ,Nat.mul_comm]
  unfold runs at h
  simp only[zRX] at h
  by_cases hbit:e/2^k%2=1
  ·rw[if_pos hbit] at h
   by_cases hZ:twZ y z=0
   ·rw[if_pos hZ] at h
    cases h
   ·rw[if_neg hZ] at h
    have hj1:Jac u v 1 (some (u,v)):=⟨zKv C,by grobner,by grobner⟩
    rcases h1.plus C (zAK C hg _) hj1 hg hZ (zKv C) with ⟨e1,e2,-⟩|⟨e1,e2⟩
    ·rw[if_pos ⟨e1,e2⟩] at h
     cases h
    ·rw[if_neg e1] at h
     have h2:=zHl C hg e k (m+m+1) _ _ _ e2 h
     rw[hb,hbit,hp]
     rw[show m*(2*2^k)+(1*2^k+e%2^k)=(m+m+1)*2^k+e%2^k by
      rw[Nat.add_mul,Nat.add_mul,← Nat.mul_assoc,Nat.mul_comm m 2,Nat.two_mul,Nat.add_mul];omega]
     exact h2
  ·rw[if_neg hbit] at h
   have h0:e/2^k%2=0:=by omega
   have h2:=zHl C hg e k (m+m) _ _ _ h1 h
   rw[hb,h0,hp]
   rw[show m*(2*2^k)+(0*2^k+e%2^k)=(m+m)*2^k+e%2^k by
    rw[← Nat.mul_assoc,Nat.mul_comm m 2,Nat.two_mul];omega]
   exact h2
def pL:Nat:=115792089237316195423570985008687907853269984665640564039457584007908834671663
def nL:Nat:=115792089237316195423570985008687907852837564279074904382605163141518161494337
instance:NeZero pL:=⟨by decide +kernel⟩
theorem zPQ:runs (P:=pL) (Fin.ofNat pL 55066263022277343669578718895168534326250603453777594175500187360389116729240) (Fin.ofNat pL 32670510020758816978083085130507043184471273380659243275938904335757337482424) nL 255 (Fin.ofNat pL 55066263022277343669578718895168534326250603453777594175500187360389116729240) (Fin.ofNat pL 32670510020758816978083085130507043184471273380659243275938904335757337482424) 1=true:=by decide +kernel
theorem zOa:2*pL+1<3*nL:=by decide +kernel
theorem zQx:1*2^255+nL%2^255=nL:=by decide +kernel
theorem order (C:Cur P) (hP:P=pL) (hg:On (some (Fin.ofNat P 55066263022277343669578718895168534326250603453777594175500187360389116729240,Fin.ofNat P 32670510020758816978083085130507043184471273380659243275938904335757337482424))) {r:Pt P} (hr:On r):mul nL r=none:=by
 subst hP
 refine zMp C (n:=nL) NT.pN zOa hg (fun h=>by cases h) ?_ hr
 have h:=zHl C hg nL 255 1 _ _ 1 (by
  show Jac _ _ 1 (add none _)
  rw[zBG]
  exact ⟨zKv C,by grobner,by grobner⟩) zPQ
 rwa[zQx] at h
end EC
section
theorem zQe:Go.Proofs.YtglhhepedoffeaaGreat.p1=EC.nL:=by decide +kernel
variable {P:Nat} [NeZero P]
theorem order2 (C:Fld P) (r:EC.Pt P) (hr:EC.On r):EC.mul Go.Proofs.YtglhhepedoffeaaGreat.p1 r=none:=by
 rw[zQe]
 have hP:P=EC.pL:=by
  rw[C.eq]
  rfl
 exact EC.order C.cur hP (zF7 C) hr
end
section
open Go.RowKit Go.Sort Go.Deep
variable {P:Nat} [NeZero P] {N:Nat}
def kOne:Bs:=(Array.replicate 32 (0:UInt8)).setIfInBounds 31 1
theorem zMA:beV kOne.toList=1:=by decide +kernel
theorem zO8 (hN:1<N):rq N kOne=some 1:=by
 unfold rq
 rw[zMA,if_pos ⟨by decide +kernel,hN⟩]
theorem ordU:Ord Go.Proofs.YtglhhepedoffeaaGreat.p1:=⟨gap1,zRz,by decide +kernel,by decide +kernel⟩
theorem zKr {w:World} {k cap:Nat} {s:ByteArray} (hs:s.size≤4096) (hc:s.size≤cap) (hH:Holds encB w k 0 s.data):SP.PartOk w (.slice (some ⟨k,0,none⟩) s.size cap) s.data.toList:=
 ⟨_,k,0,cap,s.data,rfl,rfl,hc,Nat.le_trans hs (by decide),Or.inr ⟨rfl,hH⟩⟩
theorem zQI {A B:Bs} (hA:A.size=33) (hB:B.size=32):(A++B).extract 0 33=A∧(A++B).extract 33 65=B:=by
 have h64:(A++B).size=65:=by rw[Array.size_append,hA,hB]
 constructor
 ·apply Array.ext
  ·rw[Array.size_extract,h64,hA];rfl
  ·intro i h1 h2
   rw[Array.getElem_extract,Array.getElem_append_left (by omega)]
   simp
 ·apply Array.ext
  ·rw[Array.size_extract,h64,hB];rfl
  ·intro i h1 h2
   rw[Array.getElem_extract,Array.getElem_append_right (by omega)]
   simp[hA]
theorem zIS (C:Fl3 P) (O:Ord N) (hord:∀ r:EC.Pt P,EC.On r→EC.mul N r=none) (x kk:Nat) (tx:List UInt8) (h0:EC.mul x (gG P)≠none) (c z:Nat) (hc:asg N (wr (EC.mul x (gG P))).toList (wr (EC.mul kk (gG P))).toList tx=c) (hz:sPl N kk (sTi N c x)=z) :
 veP P N (wr (EC.mul x (gG P))) (wr (EC.mul kk (gG P))++bx z) tx=true:=by
 have hg:=zF7 C.toFld
 obtain ⟨ra,pa⟩:=zOp C (EC.zAK C.toFld.cur hg x) h0
 obtain ⟨q,hq,-⟩:=zI2 C.toFld (EC.zAK C.toFld.cur hg kk)
 have hzN:z<N:=by rw[← hz];unfold sPl;exact Nat.mod_lt _ O.pos
 obtain ⟨e1,e2⟩:=zQI (zAB (EC.mul kk (gG P))) (zA3 z)
 have hF:vsF P (wr (EC.mul x (gG P))) c z=wr (EC.mul kk (gG P)):=by
  unfold vsF
  rw[pa,← hz,zH3 C.toFld hord hg]
 unfold veP zCI rsC
 rw[e1,e2,zRJ O hzN,hc,hF,zPV O hzN,ra,hq,Array.size_append,zAB,zA3,decide_eq_true (Eq.refl (wr (EC.mul kk (gG P))))]
 rfl
theorem zIm (w:World):SP.PartOk w (.slice none 0 0) (#[]:Bs).toList:=⟨none,0,0,0,#[],rfl,rfl,Nat.le_refl _,by decide,Or.inl rfl⟩
theorem zRW:gG P≠none:=fun h=>by unfold gG at h;cases h
theorem El.part {n:Nat} {W:World} {x:Value} {b:Bs} (h:El n W x b) (hn:n≤4096):SP.PartOk W x b.toList:=by
 obtain ⟨k,c,rfl,h1,h2,h3,h4⟩:=h
 subst h2
 exact ⟨_,k,0,c,b,rfl,rfl,h1,Nat.le_trans hn (by decide),Or.inr ⟨rfl,h4⟩⟩
theorem zO5 (C:Fl3 P) (O:Ord N) (hord:∀ r:EC.Pt P,EC.On r→EC.mul N r=none) (hN1:1<N) (w0:World):Calls Tryz.prog 13 #[] w0 (Ret fun e w'=>Below w0.heap.size w0 w'∧e=.bool true):=by
 have h1G:EC.mul 1 (gG P)=gG P:=EC.zBG _
 have hne:EC.mul 1 (gG P)≠none:=by rw[h1G];exact zRW
 have HV:=Hid.mk' (fun v0 t1 n1 c1 v2 p sg tx w=>zIf C O hord v0 t1 n1 c1 v2 p sg tx w)
 have HS:=Hid.mk' (fun p0 p1 n0 c0 n1 c1 w hA h0 h1=>zPM C.toFld O p0 p1 n0 c0 n1 c1 kOne #[] w hA h0 h1 1 (zO8 hN1) (by decide) _ _ _ rfl rfl rfl)
 have HR:=Hid.mk' (zIS C O hord 1 (chL N zIq.data.toList [kOne.toList,(#[]:Bs).toList]) (#[]:Bs).toList hne _ _ rfl rfl)
 have HG:=Hid.mk' (fun w=>zNJ C.toFld w)
 rw[h1G] at HS HR
 generalize chL N zIq.data.toList [kOne.toList,(#[]:Bs).toList]=kk at HS HR
 generalize asg N (wr (gG P)).toList (wr (EC.mul kk (gG P))).toList (#[]:Bs).toList=c at HS HR
 generalize sPl N kk (sTi N c 1)=z at HS HR
 have HW:Hid ((wr (EC.mul kk (gG P))).size=33):=zAB _
 have HX:Hid ((wr (gG P)).size=33):=zAB _
 generalize wr (EC.mul kk (gG P))=F at HS HR HW
 generalize wr (gG P)=G at HR HG HX
 clear h1G hne hord C O hN1
 have hmk:=mk32 w0
 obtain ⟨k0,hk0⟩:∃ k0,w0.heap.size=k0:=⟨_,rfl⟩
 obtain ⟨w1,hw1⟩:∃ w1,w0.alloc (.cells (madeCells #[.int .u8 0] 32) 5)=w1:=⟨_,rfl⟩
 have H0:Holds encB w1 k0 0 (Array.replicate 32 0):=by rw[← hw1,← hk0];exact Holds.made (enc:=encB) w0 5 32 0
 have hB1:Below w0.heap.size w0 w1:=by rw[← hw1];exact (Below.refl _ _).alloc (Nat.le_refl _) _
 have hl1:k0<w1.heap.size:=by rw[← hw1,← hk0];simp
 rw[hk0,hw1] at hmk
 obtain ⟨c31,f31⟩:=H0 31 (by decide)
 rw[Nat.zero_add] at c31 f31
 obtain ⟨w2,hw2⟩:∃ w2,w1.setCell ⟨k0,31,none⟩ (.int .u8 1)=w2:=⟨_,rfl⟩
 have H2:Holds encB w2 k0 0 kOne:=by
  have:=Holds.set H0 (i:=31) (by decide) 1
  rw[Nat.zero_add] at this
  rw[← hw2]
  exact this
 have hB2:Hid (Below w0.heap.size w0 w2):=by
  rw[← hw2]
  exact hB1.setCell (p:=⟨k0,31,none⟩) (by show w0.heap.size≤k0;omega) _
 have hl2:k0<w2.heap.size:=by rw[← hw2];simpa using hl1
 have A2:Hid (Arg w2 (.slice (some ⟨k0,0,none⟩) 32 32) kOne):=⟨_,_,_,rfl,by decide,fun _=>⟨k0,0,rfl,by omega,hl2,H2⟩⟩
 have B2:Hid (SP.PartOk w2 (.slice (some ⟨k0,0,none⟩) 32 32) kOne.toList):=⟨_,k0,0,32,kOne,by rw[show kOne.size=32 from by decide],rfl,by decide,by decide,Or.inr ⟨rfl,H2⟩⟩
 clear H0 H2 hB1 hl1 hl2 hw1 hk0
 go_enter Tryz.func13,Tryz.ntmps13
 go_wp2_with fail
 refine (HS.out _ _ _ _ _ _ w2 A2.out B2.out (zIm w2)).mono ?_
 rintro e w3 ⟨vv,rfl,hb3,v3,rfl,hA3⟩
 have hE3:El 65 w3 v3 (F++bx z):=by
  have h0:w3.ownsRow w2.heap.size 5 1 v3 65 ((F.toList++(bx z).toList).map encB):=hA3
  rw[← Array.toList_append] at h0
  exact zOL h0 (by decide) (by rw[Array.size_append,HW.out,zA3])
 obtain ⟨q3,m3,rfl,hm3,hs3,hl3,hH3⟩:=hE3
 have K3:Hid (Below w0.heap.size w0 w3∧El 65 w3 (.slice (some ⟨q3,0,none⟩) 65 m3) (F++bx z)):=⟨hB2.out.trans (hb3.mono hB2.out.size),q3,m3,rfl,hm3,hs3,hl3,hH3⟩
 clear hb3 hA3 hm3 hs3 hl3 hH3 HS A2 B2 hB2 hmk c31 f31
 go_wp2_with fail
 refine (HG.out w3).mono ?_
 rintro e w4 ⟨vv,rfl,hb4,g4,c4,rfl,hc4,hge4,hlt4,hH4⟩
 have hb43:Below w3.heap.size w3 w4:=hb4
 have K4:Hid (Below w0.heap.size w0 w4∧SP.PartOk w4 (.slice (some ⟨q3,0,none⟩) 65 m3) (F++bx z).toList∧Arg33 w4 (.slice (some ⟨g4,0,none⟩) 33 c4) G):=by
  refine ⟨K3.out.1.trans (hb4.mono K3.out.1.size),((K3.out.2).part (by decide)).below hb43,⟨_,_,_,rfl,HX.out,fun _=>⟨g4,0,rfl,hc4,hlt4,hH4⟩⟩⟩
 clear hb4 hb43 K3 hc4 hge4 hlt4 hH4 HG
 go_wp2_with fail
 refine (HV.out _ none 0 0 _ G (F++bx z) (#[]:Bs).toList w4 K4.out.2.2 (zIm w4) K4.out.2.1).mono ?_
 rintro e w5 ⟨vv,rfl,hb5,rfl⟩
 have K5:Hid (Below w0.heap.size w0 w5):=K4.out.1.trans (hb5.mono K4.out.1.size)
 rw[HR.out]
 clear hb5 K4 HV HR
 go_wp2
 go_ret
 exact ⟨_,rfl,K5.out,rfl⟩
theorem zGq (C:Fl3 P) (O:Ord N) (hord:∀ r:EC.Pt P,EC.On r→EC.mul N r=none) (hN1:1<N) (p tx s:ByteArray) (w0:World) :
 Calls Tryz.prog 4 #[.string p,.string tx,.string s] w0 fun e w'=>e=.returned (.bool true)∧Below w0.heap.size w0 w':=by
 have HL:=Hid.mk' (fun w=>zO5 C O hord hN1 w)
 have HV:=Hid.mk' (fun v0 t1 n1 c1 v2 w=>zIf C O hord v0 t1 n1 c1 v2 p.data s.data tx.data.toList w)
 have HR:Hid (p.size≤4096→tx.size≤4096→Gives 15 #[.string p,.string tx,.string s] (.bool (veT P N p.data tx.data s))):=fun h1 h2=>zRD C O p tx s h1 h2
 rw[zNT C] at HV
 generalize veT P N p.data tx.data s=u at HV HR
 clear C O hord hN1
 go_enter Tryz.func4,Tryz.ntmps4
 go_wp2_with fail
 refine (HL.out w0).mono ?_
 rintro e w1 ⟨vv,rfl,hb1,rfl⟩
 have K1:Hid (Below w0.heap.size w0 w1):=hb1
 clear hb1 HL
 by_cases h1:p.size≤4096
 ·have g1:¬ (4096:Int)<(p.size:Int):=by omega
  by_cases h2:tx.size≤4096
  ·have g2:¬ (4096:Int)<(tx.size:Int):=by omega
   by_cases h3:s.size≤4096
   ·have g3:¬ (4096:Int)<(s.size:Int):=by omega
    have HR':=HR.out h1 h2
    obtain ⟨cap5,w5,hc5,hcc5,hb5,hH5,hlt5⟩:=zHR p w1
    obtain ⟨cap6,w6,hc6,hcc6,hb6,hH6,hlt6⟩:=zHR tx w5
    obtain ⟨cap7,w7,hc7,hcc7,hb7,hH7,hlt7⟩:=zHR s w6
    have hb57:=hb6.trans (hb7.mono hb6.size)
    have hb17:=hb5.trans (hb57.mono hb5.size)
    have A5:Hid (Arg33 w7 (.slice (some ⟨w1.heap.size,0,none⟩) p.size cap5) p.data):=⟨_,_,_,rfl,rfl,fun h=>⟨_,0,rfl,by omega,Nat.lt_of_lt_of_le hlt5 hb57.size,Holds.below hH5 hb57 hlt5⟩⟩
    have A6:Hid (SP.PartOk w7 (.slice (some ⟨w5.heap.size,0,none⟩) tx.size cap6) tx.data.toList):=zKr h2 hcc6 (Holds.below hH6 hb7 hlt6)
    have A7:Hid (SP.PartOk w7 (.slice (some ⟨w6.heap.size,0,none⟩) s.size cap7) s.data.toList):=zKr h3 hcc7 hH7
    have K7:Hid (Below w0.heap.size w0 w7):=K1.out.trans (hb17.mono K1.out.size)
    have HQ:Hid (Gives 15 #[.string p,.string tx,.string s] (.bool u)):=HR'
    clear hb5 hb6 hb7 hb57 hb17 hH5 hH6 hH7 hlt5 hlt6 hlt7 hcc5 hcc6 hcc7 K1 h1 h2 h3 HR HR'
    go_wp2_with fail
    refine (HV.out _ _ _ _ _ w7 A5.out A6.out A7.out).mono ?_
    rintro e w8 ⟨vv,rfl,hb8,rfl⟩
    have K8:Hid (Below w0.heap.size w0 w8):=K7.out.trans (hb8.mono K7.out.size)
    clear hb8 K7 HV A5 A6 A7 hc5 hc6 hc7
    go_wp2_with fail
    refine (HQ.out w8).mono ?_
    rintro e w9 ⟨vv,rfl,hb9,rfl⟩
    have K9:Hid (Below w0.heap.size w0 w9):=K8.out.trans (hb9.mono K8.out.size)
    clear hb9 K8 HQ
    cases u<;>go_wp2<;>go_ret<;>exact ⟨by simp,K9.out⟩
   ·have g3:(4096:Int)<(s.size:Int):=by omega
    go_wp2
    go_ret
    exact ⟨rfl,K1.out⟩
  ·have g2:(4096:Int)<(tx.size:Int):=by omega
   go_wp2
   go_ret
   exact ⟨rfl,K1.out⟩
 ·have g1:(4096:Int)<(p.size:Int):=by omega
  go_wp2
  go_ret
  exact ⟨rfl,K1.out⟩
theorem zGp (p tx s:ByteArray) (w0:World) :
 Calls Tryz.prog 4 #[.string p,.string tx,.string s] w0 fun e w'=>e=.returned (.bool true)∧Below w0.heap.size w0 w':=by
 obtain ⟨P,hz,C⟩:=fl3
 exact zGq C ordU (order2 C.toFld) (by decide +kernel) p tx s w0
end
/-
  THE ROW OF 'SigmaVerifies' round its walk; the frame by the guide's program (howto/shells), the world behind the call told by 'Below'.
-/
namespace sigmaVerifies
open Go.ChangeShapes Go.WideShapes Go.ChangeAt Go.RowKit
open Go.ChangeMaps (open_string shut_string)
theorem own:ownKnob Tryz.prog.godebug=none:=by kernel_rfl
theorem lifted (os:Os) (started:os.Started) (H:Type) (enc:TypeId × Value→H) :
 ReturnsInHanded {} Tryz.checked os 4 .any (Rows.sigmaVerifiesSpec.pre6 enc Tryz.prog Tryz.f4 Rows.sigmaVerifiesRow.domain false) (Rows.sigmaVerifiesSpec.post enc Tryz.prog Tryz.f4 false true false false):=by
 refine returnsInHanded_of_change (C:=Tryz.checked) own started (by kernel_rfl) Tryz.func4
  (ChangeSpec.witness6 (enc:=enc) (C:=Tryz.checked) false ⟨#[],#[.string ByteArray.empty,.string ByteArray.empty,.string ByteArray.empty],[]⟩ 8 (by kernel_rfl) (by kernel_rfl) (by kernel_rfl) (by kernel_rfl)) ?_
 intro W base args ds gs before hval0 hW hcnd _
 have hval:∀ (j:Nat) t v,Tryz.f4.params[j]? = some t→args[j]? = some v→Value.okWide Tryz.prog W .any base t v:=hval0
 have hW':=hW
 obtain ⟨p,q,hA0,hV,rfl,hfz,hnd⟩:=hW
 have hA:DataW.TrodAll enc Tryz.prog W 0 (fun _=>true) true Tryz.f4.params.toList args.toList ds p:=hA0
 rw[Tryz.params4] at hA hval
 obtain ⟨v0,vs0,d0,ds0,p0,q0,hargs,rfl,rfl,h0,r0⟩:=trodAll_cons hA
 obtain ⟨v1,vs1,d1,ds1,p1,q1,rfl,rfl,rfl,h1,r1⟩:=trodAll_cons r0
 obtain ⟨v2,vs2,d2,ds2,p2,q2,rfl,rfl,rfl,h2,r2⟩:=trodAll_cons r1
 obtain ⟨rfl,rfl,rfl⟩:=trodAll_nil r2
 obtain rfl:args=#[v0,v1,v2]:=by cases args;simp_all
 obtain ⟨rfl,rfl⟩:=trodVars_none hV
 obtain ⟨a0,rfl,rfl,rfl,w0⟩:=open_string Tryz.underlying9 (hval 0 9 v0 rfl rfl) h0
 obtain ⟨a1,rfl,rfl,rfl,w1⟩:=open_string Tryz.underlying9 (hval 1 9 v1 rfl rfl) h1
 obtain ⟨a2,rfl,rfl,rfl,w2⟩:=open_string Tryz.underlying9 (hval 2 9 v2 rfl rfl) h2
 clear hA0 hval0
 refine (zGp a0 a1 a2 W).mono fun e W' ⟨he,bel⟩=>?_
 subst he
 exact ⟨_,rfl,_,_,_,[],_,[],hW',(trodAll_cons_mk (shut_bool Tryz.underlying4 _) trodAll_mk0),(trodAll_cons_mk (shut_string Tryz.underlying9 w0) (trodAll_cons_mk (shut_string Tryz.underlying9 w1) (trodAll_cons_mk (shut_string Tryz.underlying9 w2) trodAll_mk0))),rfl,bel.frame _,fun h=>by cases h⟩
theorem over:Rows.sigmaVerifiesRow.holds Tryz.pinned (OpenSpec.ofChange Rows.sigmaVerifiesSpec):=
 OpenClaim.holds_of_wide 4 Tryz.f4 rfl rfl rfl rfl rfl rfl rfl ⟨rfl,rfl,rfl,rfl,rfl⟩ rfl rfl rfl rfl rfl (by kernel_rfl) Tryz.func4 (by kernel_rfl)
  (of_decide_eq_true (by kernel_rfl)) (by unfold Func.isWrapper;first|(rw[if_pos (by decide +kernel)];kernel_rfl)|(rw[if_neg (by decide +kernel)];exact ⟨rfl,rfl⟩))
  (fun os started H enc _=>lifted os started H enc)
theorem proved:Rows.SigmaVerifiesSaid:=
 over
end sigmaVerifies
section
theorem sigmaVerifies_holds:Rows.SigmaVerifiesSaid:=sigmaVerifies.proved
#print axioms sigmaVerifies_holds
end
end Go.Proofs.YtglhhepedoffeaaGreat
