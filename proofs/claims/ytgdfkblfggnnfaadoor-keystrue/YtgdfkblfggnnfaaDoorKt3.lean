import Derived.Deep.RegionHeld3
import Derived.Deep.LoopGhost
import Derived.Orders
import Derived.Test.YtgdfkblfggnnfaaDoorKt2
set_option linter.unusedVariables false
set_option linter.unusedSimpArgs false
set_option maxRecDepth 1000000
set_option maxHeartbeats 4000000
namespace Go.Proofs.YtgdfkblfggnnfaaDoor
section
open Go.RowKit Go.Sort Go.Deep
variable {P:Nat} [NeZero P] {N:Nat}
theorem PModulus_any (g0 g1 g2 P:Nat) (hG:Gap g0 g1 g2 P) (w:World) :
 Calls Tryd.prog 91 #[.agg #[.int .u64 g0,.int .u64 g1,.int .u64 g2,.int .u64 0]] w (Ret fun e w'=>Below w.heap.size w w'∧Four e P):=by
 have hgap:=hG.hg
 go_enter Tryd.func91,Tryd.ntmps91
 go_wp2_with fail
 have R:=At4.made (w.alloc (.cells #[.int .u64 g0,.int .u64 g1,.int .u64 g2,.int .u64 0] 94)) 44 0 0 0 0 (World.size_alloc _ _)
 have BL:=below2 w (.cells #[.int .u64 g0,.int .u64 g1,.int .u64 g2,.int .u64 0] 94) (.cells #[.int .u64 0,.int .u64 0,.int .u64 0,.int .u64 0] 44)
 simp only[Int.natCast_zero] at R
 generalize World.alloc _ _=W0 at R BL ⊢
 refine (minus_any _ _ 0 _ (Four.mk (a:=0) (b:=0) (c:=0) (d:=0) (by decide) (by decide) (by decide) (by decide) rfl) (Four.mk hG.h0 hG.h1 hG.h2 (by decide) rfl) _).mono ?_
 rintro e w1 ⟨v,rfl,hb1,v2,t,k,rfl,hF,hk,he⟩
 replace he:t+val g0 g1 g2 0=0+top*k:=he
 have hPt:t=P:=by
  have h1:=hF.lt
  have h2:=hG.hP
  have:k=0∨k=1:=by omega
  rcases this with h|h<;>rw[h] at he<;>omega
 subst hPt
 replace R:=R.call hb1
 have HB:Hid (Below w.heap.size w w1):=BL.trans (hb1.mono BL.size)
 clear BL hb1 he
 obtain ⟨a,b,c,d,rfl,ha,hb,hc,hd,ht⟩:=id hF
 clear ht
 have z:=R.lt
 go_wp2_with fail
 refine (number_any _ _ hF _).mono ?_
 rintro e w2 ⟨v',rfl,hb2,rfl⟩
 replace HB:Hid (Below w.heap.size w w2):=(HB.out.alloc (by omega) _).trans (hb2.mono (by simp;omega))
 replace R:=(R.alloc _).call hb2
 clear hb2 z
 obtain ⟨rc0,rc1,rc2,rc3,rf⟩:=id R
 have z:=R.lt
 go_wp2
 have RF:=R.self4 a b c d
 unfold set4 at RF
 refine bodyPost_ret (v:=?v) ?hr rfl ?hR
 case hr=>simp[results,Tryd.results91,go_sem,RF.c0,RF.c1,RF.c2,RF.c3];rfl
 exact ⟨_,rfl,below_set4 HB.out (Nat.le_succ _) _ _ _ _,hF⟩
end
section
open Go.RowKit Go.Sort
variable {P:Nat} [NeZero P] {N:Nat}
theorem kept3 (w:World) (t0 t1 t2:TypeId) (a b c d e f g h i j k l:Nat) :
 Kept w w.heap.size [⟨w.heap.size,0,a,b,c,d⟩,⟨w.heap.size+1,0,e,f,g,h⟩,⟨w.heap.size+1+1,0,i,j,k,l⟩]
  (((w.alloc (.cells #[.int .u64 a,.int .u64 b,.int .u64 c,.int .u64 d] t0)).alloc (.cells #[.int .u64 e,.int .u64 f,.int .u64 g,.int .u64 h] t1)).alloc (.cells #[.int .u64 i,.int .u64 j,.int .u64 k,.int .u64 l] t2)):=by
 refine (((Kept.mk1 (below3 w _ _ _) (below3 w _ _ _).size).cons ?_).cons ?_).cons ?_
 ·exact (At4.made _ t2 i j k l (by simp)).blk
 ·exact ((At4.made _ t1 e f g h (by simp)).alloc _).blk
 ·exact (((At4.made _ t0 a b c d rfl).alloc _).alloc _).blk
theorem Inverse_any (g0 g1 g2 P:Nat) (x:Value) (m:Nat) (hG:Gap g0 g1 g2 P) (hP2:2≤P%18446744073709551616) (hx:Four x m) (w:World) :
 Calls Tryd.prog 71 #[.agg #[.int .u64 g0,.int .u64 g1,.int .u64 g2,.int .u64 0],x] w (Ret fun e w'=>Below w.heap.size w w'∧Four e (m^(P-2)%P)):=by
 obtain ⟨a,b,c,d,rfl,ha,hb,hc,hd,em⟩:=id hx
 have HX:Hid (Four _ m):=hx
 have HG:Hid (Gap g0 g1 g2 P):=hG
 clear em hx ha hb hc hd hG
 go_enter Tryd.func71,Tryd.ntmps71
 go_wp2_with fail
 have KP:=kept3 w 94 44 44 g0 g1 g2 0 a b c d 0 0 0 0
 simp only[Int.natCast_zero] at KP
 generalize World.alloc _ _=W0 at KP ⊢
 generalize h2:w.heap.size+1+1=k2 at KP ⊢
 generalize h1:w.heap.size+1=k1 at KP ⊢
 have Q2:Hid (w.heap.size≤k2):=by unfold Hid;omega
 generalize h0:w.heap.size=k0 at KP Q2 ⊢
 have H0:Hid (w.heap.size=k0):=h0
 clear h0 h1 h2
 refine (PModulus_any g0 g1 g2 P HG.out _).mono ?_
 rintro e w1 ⟨v,rfl,hb1,hF⟩
 obtain ⟨pa,pb,pc,pd,rfl,hpa,hpb,hpc,hpd,eP⟩:=id hF
 replace KP:=KP.call hb1
 clear hb1 hF
 have hpe:2≤pa:=by rw[eP] at hP2;unfold val at hP2;omega
 obtain ⟨pe,hpe'⟩:∃ pe,pa=pe+2:=⟨pa-2,by omega⟩
 have HE:Hid (Four (.agg #[.int .u64 pe,.int .u64 pb,.int .u64 pc,.int .u64 pd]) (P-2)):=by
  refine Four.mk (by omega) hpb hpc hpd ?_
  rw[eP,hpe'];unfold val;omega
 have hsub:(pa:Int)-2=(pe:Int):=by omega
 have hw:=wrapN pe (by omega)
 clear hpe eP hP2 hpa hpb hpc hpd hpe'
 obtain ⟨xc0,xc1,xc2,xc3,xf⟩:=KP.tail.head.at4
 have zx:=KP.tail.head.lt
 obtain ⟨pc0,pc1,pc2,pc3,pf⟩:=KP.head.at4
 have zp:=KP.head.lt
 have n1:k1≠w1.heap.size:=Nat.ne_of_lt zx
 have n0:k0≠w1.heap.size:=Nat.ne_of_lt zp
 go_wp2_with fail
 refine (power_any g0 g1 g2 P _ _ _ _ HG.out HX.out HE.out _).mono ?_
 rintro e w2 ⟨v,rfl,hb2,hF⟩
 replace KP:=(KP.alloc _).call hb2
 clear hb2 xc0 xc1 xc2 xc3 xf zx pc0 pc1 pc2 pc3 pf zp n0 n1
 obtain ⟨qa,qb,qc,qd,rfl,hqa,hqb,hqc,hqd,eQ⟩:=id hF
 have HF:Hid (Four _ _):=hF
 clear hF eQ hqa hqb hqc hqd
 obtain ⟨rc0,rc1,rc2,rc3,rf⟩:=KP.tail.tail.head.at4
 have zr:=KP.tail.tail.head.lt
 go_wp2
 have RF:=KP.tail.tail.head.at4.self4 qa qb qc qd
 unfold set4 at RF
 refine bodyPost_ret (v:=?v) ?hr rfl ?hR
 case hr=>simp[results,Tryd.results71,go_sem,RF.c0,RF.c1,RF.c2,RF.c3];rfl
 refine ⟨_,rfl,?_,HF.out⟩
 rw[H0.out]
 exact below_set4 KP.bl Q2.out _ _ _ _
theorem und64:Tryd.prog.underlying 32=some (.int .u64):=by kernel_rfl
theorem sz64:∀ w,(sizeOf 32).run Tryd.prog w=.ok 1 w:=fun _=>by kernel_rfl
theorem undP:Tryd.prog.underlying 44=some (.array 4 32):=by kernel_rfl
theorem eqP_d (D:Nat) (a b c d p q r s:Nat) (w:World) :
 (Op.equalIn (D+1+1) 44 (.agg #[.int .u64 a,.int .u64 b,.int .u64 c,.int .u64 d]) (.agg #[.int .u64 p,.int .u64 q,.int .u64 r,.int .u64 s])).run Tryd.prog w=.ok (decide (a=p∧b=q∧c=r∧d=s)) w:=by
 have hi:=fun (x y:Nat)=>run_equalIn_int (P:=Tryd.prog) w D 32 .u64 .u64 (x:Int) (y:Int) und64
 rw[Op.equalIn]
 simp only[Sem.run_bind,run_underlying undP,Result.andThen_ok,sz64]
 simp only[Std.Legacy.Range.forIn_eq_forIn_range',Std.Legacy.Range.size,List.range',List.forIn_cons,List.forIn_nil]
 by_cases h0:a=p
 ·by_cases h1:b=q
  ·by_cases h2:c=r
   ·by_cases h3:d=s
    ·simp[h0,h1,h2,h3,part,hi]
    ·simp[h0,h1,h2,h3,part,hi];omega
   ·simp[h0,h1,h2,part,hi];omega
  ·simp[h0,h1,part,hi];omega
 ·simp[h0,part,hi];omega
theorem neqP (a b c d p q r s:Nat) (w:World) :
 (binOp .neq 44 (.agg #[.int .u64 a,.int .u64 b,.int .u64 c,.int .u64 d]) (.agg #[.int .u64 p,.int .u64 q,.int .u64 r,.int .u64 s])).run Tryd.prog w=.ok (.bool (!decide (a=p∧b=q∧c=r∧d=s))) w:=by
 rw[run_neq_struct,eqP_d 9998]
 rfl
theorem same_P (a b c d:Nat) (w:World):(binOp .neq 44 (.agg #[.int .u64 a,.int .u64 b,.int .u64 c,.int .u64 d]) (.agg #[.int .u64 a,.int .u64 b,.int .u64 c,.int .u64 d])).run Tryd.prog w=.ok (.bool false) w:=by
 rw[neqP,decide_eq_true ⟨rfl,rfl,rfl,rfl⟩]
 rfl
theorem other_P {a b c d p q r s:Nat} (h:¬ (a=p∧b=q∧c=r∧d=s)) (w:World):(binOp .neq 44 (.agg #[.int .u64 a,.int .u64 b,.int .u64 c,.int .u64 d]) (.agg #[.int .u64 p,.int .u64 q,.int .u64 r,.int .u64 s])).run Tryd.prog w=.ok (.bool true) w:=by
 rw[neqP,decide_eq_false h]
 rfl
theorem or_q (a b:Nat) (ha:a<18446744073709551616):bits .or .u64 ((a/4:Nat):Int) ((b*4611686018427387904%18446744073709551616:Nat):Int)=((a/4+b*4611686018427387904%18446744073709551616:Nat):Int)∧a/4+b*4611686018427387904%18446744073709551616<18446744073709551616:=by
 have h1:b*4611686018427387904%18446744073709551616=2^62*(b%4):=by omega
 have h2:=Nat.two_pow_add_eq_or_of_lt (i:=62) (b:=a/4) (by omega) (b%4)
 rw[bits_or_u64_nat _ _ (by omega) (by omega),h1,Nat.or_comm,← h2]
 omega
theorem quarter_any (x:Value) (m:Nat) (hx:Four x m) (w:World) :
 Calls Tryd.prog 95 #[x] w (Ret fun e w'=>Below w.heap.size w w'∧Four e (m/4)):=by
 obtain ⟨a,b,c,d,rfl,ha,hb,hc,hd,em⟩:=id hx
 obtain ⟨o0,l0⟩:=or_q a b ha
 obtain ⟨o1,l1⟩:=or_q b c hb
 obtain ⟨o2,l2⟩:=or_q c d hc
 have hq:=quarter_eq a b c d
 rw[← em] at hq
 have s0:(a:Int)/4=((a/4:Nat):Int):=by omega
 have s1:(b:Int)/4=((b/4:Nat):Int):=by omega
 have s2:(c:Int)/4=((c/4:Nat):Int):=by omega
 have s3:(d:Int)/4=((d/4:Nat):Int):=by omega
 have t1:IntKind.u64.wrap ((b:Int)*4611686018427387904)=((b*4611686018427387904%18446744073709551616:Nat):Int):=by rw[IntKind.wrap_u64];omega
 have t2:IntKind.u64.wrap ((c:Int)*4611686018427387904)=((c*4611686018427387904%18446744073709551616:Nat):Int):=by rw[IntKind.wrap_u64];omega
 have t3:IntKind.u64.wrap ((d:Int)*4611686018427387904)=((d*4611686018427387904%18446744073709551616:Nat):Int):=by rw[IntKind.wrap_u64];omega
 have l3:d/4<18446744073709551616:=by omega
 generalize a/4+b*4611686018427387904%18446744073709551616=y0 at o0 l0 hq
 generalize b/4+c*4611686018427387904%18446744073709551616=y1 at o1 l1 hq
 generalize c/4+d*4611686018427387904%18446744073709551616=y2 at o2 l2 hq
 generalize b*4611686018427387904%18446744073709551616=v1 at o0 t1
 generalize c*4611686018427387904%18446744073709551616=v2 at o1 t2
 generalize d*4611686018427387904%18446744073709551616=v3 at o2 t3
 generalize a/4=q0 at o0 s0
 generalize b/4=q1 at o1 s1
 generalize c/4=q2 at o2 s2
 generalize d/4=q3 at s3 l3 hq
 have HQ:Hid _:=hq
 clear hq em hx
 go_enter Tryd.func95,Tryd.ntmps95
 go_wp2
 refine bodyPost_ret (v:=?v) ?hr rfl ?hR
 case hr=>simp[results,Tryd.results95,go_sem];rfl
 exact ⟨_,rfl,below2 _ _ _,Four.mk l0 l1 l2 l3 HQ.out.symm⟩
theorem Odd_any (x:Value) (m:Nat) (hx:Four x m) (w:World) :
 Calls Tryd.prog 32 #[x] w (Ret fun e w'=>Below w.heap.size w w'∧e=.bool (decide (m%2=1))):=by
 obtain ⟨a,b,c,d,rfl,ha,hb,hc,hd,em⟩:=id hx
 have ho:=and_one a ha
 have hm:m%2=a%2:=by rw[em];unfold val;omega
 rw[hm]
 clear hm em hx
 have h2:a%2=0∨a%2=1:=by omega
 rcases h2 with h|h
 ·rw[h] at ho ⊢
  go_enter Tryd.func32,Tryd.ntmps32
  go_wp2
  go_ret
  exact ⟨_,rfl,below1 _ _,rfl⟩
 ·rw[h] at ho ⊢
  go_enter Tryd.func32,Tryd.ntmps32
  go_wp2
  go_ret
  exact ⟨_,rfl,below1 _ _,rfl⟩
theorem rootS_of {w W:World} {k0 k1 k2 k7 a b c d ra rb rc rd g0 g1 g2:Nat} (h:Kept w k0 [⟨k0,0,g0,g1,g2,0⟩,⟨k7,0,ra,rb,rc,rd⟩,⟨k1,0,a,b,c,d⟩,⟨k2,0,0,0,0,0⟩] W):W.cell? ⟨k0,0,none⟩=some (.int .u64 g0)∧W.cell? ⟨k0,1,none⟩=some (.int .u64 g1)∧W.cell? ⟨k0,2,none⟩=some (.int .u64 g2)∧W.cell? ⟨k0,3,none⟩=some (.int .u64 0)∧W.cell? ⟨k7,0,none⟩=some (.int .u64 ra)∧W.cell? ⟨k7,1,none⟩=some (.int .u64 rb)∧W.cell? ⟨k7,2,none⟩=some (.int .u64 rc)∧W.cell? ⟨k7,3,none⟩=some (.int .u64 rd)∧W.cell? ⟨k1,0,none⟩=some (.int .u64 a)∧W.cell? ⟨k1,1,none⟩=some (.int .u64 b)∧W.cell? ⟨k1,2,none⟩=some (.int .u64 c)∧W.cell? ⟨k1,3,none⟩=some (.int .u64 d)∧Kept w k0 [⟨k0,0,g0,g1,g2,0⟩,⟨k7,0,ra,rb,rc,rd⟩,⟨k1,0,a,b,c,d⟩,⟨k2,0,0,0,0,0⟩] W:=
 ⟨h.head.c0,h.head.c1,h.head.c2,h.head.c3,h.tail.head.c0,h.tail.head.c1,h.tail.head.c2,h.tail.head.c3,h.tail.tail.head.c0,h.tail.tail.head.c1,h.tail.tail.head.c2,h.tail.tail.head.c3,h⟩
theorem four_ne {a b c d m n:Nat} {v:Value} (h:Four v n) (h':Four (.agg #[.int .u64 a,.int .u64 b,.int .u64 c,.int .u64 d]) m) (hne:¬ n=m) :
 ∃ p q r s:Nat,v=.agg #[.int .u64 p,.int .u64 q,.int .u64 r,.int .u64 s]∧¬ (p=a∧q=b∧r=c∧s=d):=by
 obtain ⟨p,q,r,s,rfl,h1⟩:=id h
 refine ⟨p,q,r,s,rfl,?_⟩
 rintro ⟨rfl,rfl,rfl,rfl⟩
 exact hne (h.num h')
def even (P r:Nat):Nat:=if r%2=1 then P-r else r
def RootR (P m R:Nat) (e:Value):Prop:=∃ (ya yb yc yd:Nat) (ok:Bool),e=.tuple #[.agg #[.int .u64 ya,.int .u64 yb,.int .u64 yc,.int .u64 yd],.bool ok] ∧
 (ok=true→R*R%P=m∧Four (.agg #[.int .u64 ya,.int .u64 yb,.int .u64 yc,.int .u64 yd]) (even P R))∧(ok=false→¬ R*R%P=m)∧(ok=false→ya=0∧yb=0∧yc=0∧yd=0)
theorem RootR.yes {P m R ya yb yc yd:Nat} (h:R*R%P=m) (hF:Four (.agg #[.int .u64 ya,.int .u64 yb,.int .u64 yc,.int .u64 yd]) (even P R)):RootR P m R (.tuple #[.agg #[.int .u64 ya,.int .u64 yb,.int .u64 yc,.int .u64 yd],.bool true]):=
 ⟨ya,yb,yc,yd,true,rfl,fun _=>⟨h,hF⟩,fun h=>Bool.noConfusion h,fun h=>Bool.noConfusion h⟩
theorem RootR.no {P m R:Nat} (h:¬ R*R%P=m):RootR P m R (.tuple #[.agg #[.int .u64 0,.int .u64 0,.int .u64 0,.int .u64 0],.bool false]):=
 ⟨0,0,0,0,false,rfl,fun h=>Bool.noConfusion h,fun _=>h,fun _=>⟨rfl,rfl,rfl,rfl⟩⟩
theorem Root_any (g0 g1 g2 P:Nat) (x:Value) (m:Nat) (hG:Gap g0 g1 g2 P) (hP1:P/4%18446744073709551616<18446744073709551615) (hx:Four x m) (w:World) :
 Calls Tryd.prog 86 #[.agg #[.int .u64 g0,.int .u64 g1,.int .u64 g2,.int .u64 0],x] w (Ret fun e w'=>Below w.heap.size w w'∧RootR P m (m^(P/4+1)%P) e):=by
 obtain ⟨a,b,c,d,rfl,ha,hb,hc,hd,em⟩:=id hx
 have HX:Hid (Four _ m):=hx
 have HG:Hid (Gap g0 g1 g2 P):=hG
 obtain ⟨R,hR⟩:∃ R,m^(P/4+1)%P=R:=⟨_,rfl⟩
 have hRP:R<P:=by
  rw[← hR]
  refine Nat.mod_lt _ ?_
  have:=hG.hP2
  omega
 rw[hR]
 have HRE:Hid (m^(P/4+1)%P=R):=hR
 have HRP:Hid (R<P):=hRP
 clear em hx ha hb hc hd hG hR hRP
 go_enter Tryd.func86,Tryd.ntmps86
 go_wp2_with fail
 have KP:=kept3 w 94 44 44 g0 g1 g2 0 a b c d 0 0 0 0
 simp only[Int.natCast_zero] at KP
 generalize World.alloc _ _=W0 at KP ⊢
 generalize h2:w.heap.size+1+1=k2 at KP ⊢
 generalize h1:w.heap.size+1=k1 at KP ⊢
 have Q2:Hid (w.heap.size≤k2):=by unfold Hid;omega
 generalize h0:w.heap.size=k0 at KP Q2 ⊢
 have H0:Hid (w.heap.size=k0):=h0
 clear h0 h1 h2
 refine (PModulus_any g0 g1 g2 P HG.out _).mono ?_
 rintro e w1 ⟨v,rfl,hb1,hF⟩
 obtain ⟨pa,pb,pc,pd,rfl,-⟩:=id hF
 replace KP:=KP.call hb1
 clear hb1
 go_wp2_with fail
 refine (quarter_any _ _ hF _).mono ?_
 rintro e w2 ⟨v,rfl,hb2,hF2⟩
 obtain ⟨qa,qb,qc,qd,rfl,hqa,hqb,hqc,hqd,eq⟩:=id hF2
 replace KP:=KP.call hb2
 clear hb2 hF hF2
 have hqe:qa<18446744073709551615:=by rw[eq] at hP1;unfold val at hP1;omega
 obtain ⟨qe,hqe'⟩:∃ qe,qa+1=qe:=⟨_,rfl⟩
 have HE:Hid (Four (.agg #[.int .u64 qe,.int .u64 qb,.int .u64 qc,.int .u64 qd]) (P/4+1)):=by
  refine Four.mk (by omega) hqb hqc hqd ?_
  rw[eq,← hqe'];unfold val;omega
 have hadd:(qa:Int)+1=(qe:Int):=by omega
 have hw:=wrapN qe (by omega)
 clear hqe eq hP1 hqa hqb hqc hqd hqe'
 obtain ⟨xc0,xc1,xc2,xc3,xf⟩:=KP.tail.head.at4
 have zx:=KP.tail.head.lt
 obtain ⟨pc0,pc1,pc2,pc3,pf⟩:=KP.head.at4
 have zp:=KP.head.lt
 have n1:k1≠w2.heap.size:=Nat.ne_of_lt zx
 have n0:k0≠w2.heap.size:=Nat.ne_of_lt zp
 go_wp2_with fail
 refine (power_any g0 g1 g2 P _ _ _ _ HG.out HX.out HE.out _).mono ?_
 rintro e w3 ⟨v,rfl,hb3,hF⟩
 replace KP:=(KP.alloc _).call hb3
 clear hb3 xc0 xc1 xc2 xc3 xf zx pc0 pc1 pc2 pc3 pf zp n0 n1 HE hadd hw
 obtain ⟨ra,rb,rc,rd,rfl,-⟩:=id hF
 rw[HRE.out] at hF
 have HF:Hid (Four _ R):=hF
 clear hF
 go_upto_region 4 with fail
 have KP7:Kept w k0 [⟨k0,0,g0,g1,g2,0⟩,⟨w3.heap.size,0,ra,rb,rc,rd⟩,⟨k1,0,a,b,c,d⟩,⟨k2,0,0,0,0,0⟩] _:=((((Kept.mk1 (KP.alloc (.cells #[.int .u64 ra,.int .u64 rb,.int .u64 rc,.int .u64 rd] 44)).bl (KP.alloc _).le).cons (KP.alloc _).tail.tail.head).cons (KP.alloc _).tail.head).cons (At4.made w3 44 ra rb rc rd rfl).blk).cons (x:=⟨k0,0,g0,g1,g2,0⟩) (KP.alloc _).head |> fun h=>by exact h
 have n70:w3.heap.size≠k0:=Nat.ne_of_gt KP.head.lt
 have n72:w3.heap.size≠k2:=Nat.ne_of_gt KP.tail.tail.head.lt
 have n71:w3.heap.size≠k1:=Nat.ne_of_gt KP.tail.head.lt
 have Q7:Hid (k0≤w3.heap.size):=KP.le
 clear KP
 have KP:=KP7
 clear KP7
 generalize World.alloc _ _=W4 at KP ⊢
 generalize w3.heap.size=k7 at KP n70 n71 n72 Q7 ⊢
 by_cases heq:R*R%P=m
 ·have hsame:=same_P a b c d
  go_region_held3 (fun w'=>w'.cell? ⟨k0,0,none⟩=some (.int .u64 g0)∧w'.cell? ⟨k0,1,none⟩=some (.int .u64 g1)∧w'.cell? ⟨k0,2,none⟩=some (.int .u64 g2)∧w'.cell? ⟨k0,3,none⟩=some (.int .u64 0)∧w'.cell? ⟨k7,0,none⟩=some (.int .u64 ra)∧w'.cell? ⟨k7,1,none⟩=some (.int .u64 rb)∧w'.cell? ⟨k7,2,none⟩=some (.int .u64 rc)∧w'.cell? ⟨k7,3,none⟩=some (.int .u64 rd)∧w'.cell? ⟨k1,0,none⟩=some (.int .u64 a)∧w'.cell? ⟨k1,1,none⟩=some (.int .u64 b)∧w'.cell? ⟨k1,2,none⟩=some (.int .u64 c)∧w'.cell? ⟨k1,3,none⟩=some (.int .u64 d)∧Kept w k0 [⟨k0,0,g0,g1,g2,0⟩,⟨k7,0,ra,rb,rc,rd⟩,⟨k1,0,a,b,c,d⟩,⟨k2,0,0,0,0,0⟩] w') (first|(with_reducible exact rootS_of KP)|(with_reducible exact rootS_of KP.drew)|fail) (first|(go_at_call 85;refine (Times_any g0 g1 g2 P _ _ _ _ HG.out HF.out HF.out _).mono ?_;rintro e w5 ⟨v,rfl,hb1,hF3⟩;rw[heq] at hF3;obtain rfl:=hF3.inj HX.out;clear hF3;(first|(with_reducible (have KP1:=KP.drew.call hb1))|(with_reducible (have KP1:=KP.call hb1))|fail);clear KP hb1;have KP:=KP1;clear KP1))
  have HEQ:Hid (R*R%P=m):=heq
  clear heq
  rename_i hHeld
  clear hHeld
  obtain ⟨tc0,tc1,tc2,tc3,tf⟩:=KP.tail.head.at4
  have zt:=KP.tail.head.lt
  go_wp2_with fail
  clear tc0 tc1 tc2 tc3 tf zt
  refine (Odd_any _ _ HF.out _).mono ?_
  rintro e w6 ⟨v,rfl,hb6,rfl⟩
  replace KP:=KP.call hb6
  clear hb6
  obtain ⟨tc0,tc1,tc2,tc3,tf⟩:=KP.tail.head.at4
  have zt:=KP.tail.head.lt
  obtain ⟨uc0,uc1,uc2,uc3,uf⟩:=KP.tail.tail.tail.head.at4
  have zu:=KP.tail.tail.tail.head.lt
  by_cases hodd:R%2=1
  ·have hd:decide (R%2=1)=true:=decide_eq_true hodd
   rw[hd]
   have HO:Hid (R%2=1):=hodd
   clear hd hodd
   obtain ⟨pc0,pc1,pc2,pc3,pf⟩:=KP.head.at4
   have zp:=KP.head.lt
   go_wp2_with fail
   refine (Minus_any g0 g1 g2 P _ _ 0 _ HG.out (Four.mk (a:=0) (b:=0) (c:=0) (d:=0) (by decide) (by decide) (by decide) (by decide) rfl) HF.out (by have:=HRP.out;omega) HRP.out _).mono ?_
   rintro e w8 ⟨v,rfl,hb8,hF8⟩
   obtain ⟨sa,sb,sc,sd,rfl,-⟩:=id hF8
   have HF8:Hid (Four (.agg #[.int .u64 sa,.int .u64 sb,.int .u64 sc,.int .u64 sd]) (even P R)):=by
    have h1:(0+P-R)%P=even P R:=by
     unfold even
     rw[if_pos HO.out,Nat.zero_add]
     exact Nat.mod_eq_of_lt (by have:=HRP.out;have:=HO.out;omega)
    unfold Hid
    rw[← h1]
    exact hF8
   replace KP:=KP.call hb8
   clear hb8 hF8 tc0 tc1 tc2 tc3 tf zt uc0 uc1 uc2 uc3 uf zu pc0 pc1 pc2 pc3 pf zp
   obtain ⟨tc0,tc1,tc2,tc3,tf⟩:=KP.tail.head.at4
   have zt:=KP.tail.head.lt
   obtain ⟨uc0,uc1,uc2,uc3,uf⟩:=KP.tail.tail.tail.head.at4
   have zu:=KP.tail.tail.tail.head.lt
   go_wp2
   have RF:=(KP.tail.tail.tail.head.at4.other4 n72 (.int .u64 sa) (.int .u64 sb) (.int .u64 sc) (.int .u64 sd)).self4 sa sb sc sd
   unfold set4 at RF
   refine bodyPost_ret (v:=?v) ?hr rfl ?hR
   case hr=>simp[results,Tryd.results86,go_sem,RF.c0,RF.c1,RF.c2,RF.c3];rfl
   refine ⟨_,rfl,?_,RootR.yes HEQ.out HF8.out⟩
   rw[H0.out]
   exact below_set4 (below_set4 KP.bl Q7.out _ _ _ _) Q2.out _ _ _ _
  ·have hd:decide (R%2=1)=false:=decide_eq_false hodd
   rw[hd]
   have HF8:Hid (Four (.agg #[.int .u64 ra,.int .u64 rb,.int .u64 rc,.int .u64 rd]) (even P R)):=by
    have h1:even P R=R:=by unfold even;rw[if_neg hodd]
    unfold Hid
    rw[h1]
    exact HF.out
   clear hd hodd
   go_wp2
   have RF:=KP.tail.tail.tail.head.at4.self4 ra rb rc rd
   unfold set4 at RF
   refine bodyPost_ret (v:=?v2) ?hr2 rfl ?hR2
   case hr2=>simp[results,Tryd.results86,go_sem,RF.c0,RF.c1,RF.c2,RF.c3];rfl
   refine ⟨_,rfl,?_,RootR.yes HEQ.out HF8.out⟩
   rw[H0.out]
   exact below_set4 KP.bl Q2.out _ _ _ _
 ·go_region_held3 (fun w'=>w'.cell? ⟨k0,0,none⟩=some (.int .u64 g0)∧w'.cell? ⟨k0,1,none⟩=some (.int .u64 g1)∧w'.cell? ⟨k0,2,none⟩=some (.int .u64 g2)∧w'.cell? ⟨k0,3,none⟩=some (.int .u64 0)∧w'.cell? ⟨k7,0,none⟩=some (.int .u64 ra)∧w'.cell? ⟨k7,1,none⟩=some (.int .u64 rb)∧w'.cell? ⟨k7,2,none⟩=some (.int .u64 rc)∧w'.cell? ⟨k7,3,none⟩=some (.int .u64 rd)∧w'.cell? ⟨k1,0,none⟩=some (.int .u64 a)∧w'.cell? ⟨k1,1,none⟩=some (.int .u64 b)∧w'.cell? ⟨k1,2,none⟩=some (.int .u64 c)∧w'.cell? ⟨k1,3,none⟩=some (.int .u64 d)∧Kept w k0 [⟨k0,0,g0,g1,g2,0⟩,⟨k7,0,ra,rb,rc,rd⟩,⟨k1,0,a,b,c,d⟩,⟨k2,0,0,0,0,0⟩] w') (first|(with_reducible exact rootS_of KP)|(with_reducible exact rootS_of KP.drew)|fail) (first|(go_at_call 85;refine (Times_any g0 g1 g2 P _ _ _ _ HG.out HF.out HF.out _).mono ?_;rintro e w5 ⟨v,rfl,hb1,hF3⟩;obtain ⟨ta,tb,tc,td,rfl,hne⟩:=four_ne hF3 HX.out heq;have hoth:=other_P hne;clear hF3;(first|(with_reducible (have KP1:=KP.drew.call hb1))|(with_reducible (have KP1:=KP.call hb1))|fail);clear KP hb1;have KP:=KP1;clear KP1))
  have HEQ:Hid (¬ R*R%P=m):=heq
  clear heq
  rename_i hHeld
  clear hHeld
  obtain ⟨uc0,uc1,uc2,uc3,uf⟩:=KP.tail.tail.tail.head.at4
  have zu:=KP.tail.tail.tail.head.lt
  go_wp2
  have RF:At4 (set4 w5 k2 (.int .u64 0) (.int .u64 0) (.int .u64 0) (.int .u64 0)) k2 0 0 0 0:=KP.tail.tail.tail.head.at4.self4 0 0 0 0
  unfold set4 at RF
  refine bodyPost_ret (v:=?v3) ?hr3 rfl ?hR3
  case hr3=>simp[results,Tryd.results86,go_sem,RF.c0,RF.c1,RF.c2,RF.c3];rfl
  refine ⟨_,rfl,?_,RootR.no HEQ.out⟩
  rw[H0.out]
  exact below_set4 KP.bl Q2.out _ _ _ _
end
section
open Go.RowKit Go.Sort
def wn (n:Nat):List Value:=[.int .u64 ((n%18446744073709551616:Nat):Int),.int .u64 ((n/18446744073709551616%18446744073709551616:Nat):Int),.int .u64 ((n/340282366920938463463374607431768211456%18446744073709551616:Nat):Int),.int .u64 ((n/6277101735386680763835789423207666416102355444464034512896%18446744073709551616:Nat):Int)]
def nv (n:Nat):Value:=.agg (wn n).toArray
theorem four_nv {n:Nat} (h:n<top):Four (nv n) n:=by
 refine ⟨n%18446744073709551616,n/18446744073709551616%18446744073709551616,n/340282366920938463463374607431768211456%18446744073709551616,n/6277101735386680763835789423207666416102355444464034512896%18446744073709551616,rfl,?_,?_,?_,?_,?_⟩
 ·omega
 ·omega
 ·omega
 ·omega
 ·unfold val;unfold top at h;omega
theorem Four.nv {v:Value} {n:Nat} (h:Four v n):v=Go.Proofs.YtgdfkblfggnnfaaDoor.nv n:=h.inj (four_nv h.lt)
variable {P:Nat} [NeZero P]
abbrev ws (x:Fin P):List Value:=wn x.val
abbrev fv (x:Fin P):Value:=nv x.val
def pv (x y:Fin P):Value:=.agg (ws x++ws y).toArray
def rv (x y z:Fin P):Value:=.agg (ws x++(ws y++ws z)).toArray
def Gives (f:FuncId) (args:Array Value) (v:Value):Prop:=∀ w,Calls Tryd.prog f args w (Ret fun e w'=>Below w.heap.size w w'∧e=v)
structure Fld (P:Nat) [NeZero P]:Prop where
 gap:Gap 4294968273 0 0 P
 cur:EC.Cur P
 p2:2≤P%18446744073709551616
 p4:P/4%18446744073709551616<18446744073709551615
 p3:P%4=3
 p7:7<P
theorem Fld.top (h:Fld P) (x:Fin P):x.val<top:=by have:=h.gap.hP;have:=x.isLt;omega
theorem Fld.four (h:Fld P) (x:Fin P):Four (fv x) x.val:=four_nv (h.top x)
theorem zero_fv:(Value.agg #[.int .u64 0,.int .u64 0,.int .u64 0,.int .u64 0])=fv (0:Fin P):=by
 have h:Four (Value.agg #[.int .u64 0,.int .u64 0,.int .u64 0,.int .u64 0]) (0:Fin P).val:=by
  rw[EC.val_zero]
  exact Four.mk (a:=0) (b:=0) (c:=0) (d:=0) (by decide) (by decide) (by decide) (by decide) rfl
 exact h.nv
theorem one_fv (h:Fld P):(Value.agg #[.int .u64 1,.int .u64 0,.int .u64 0,.int .u64 0])=fv (1:Fin P):=by
 have h:Four (Value.agg #[.int .u64 1,.int .u64 0,.int .u64 0,.int .u64 0]) (1:Fin P).val:=by
  rw[EC.val_one h.cur.pr]
  exact Four.mk (a:=1) (b:=0) (c:=0) (d:=0) (by decide) (by decide) (by decide) (by decide) rfl
 exact h.nv
theorem Coordinates_c:Gives 60 #[] gv0:=fun w=>(Coordinates_any w).mono (by rintro e w' ⟨rfl,rfl⟩;exact ⟨_,rfl,below1 _ _,rfl⟩)
theorem sum_c (h:Fld P) (x y:Fin P):Gives 76 #[gv0,fv x,fv y] (fv (x+y)):=fun w =>
 (sum_any 4294968273 0 0 P _ _ x.val y.val h.gap (h.four x) (h.four y) x.isLt y.isLt w).mono (by
  rintro e w' ⟨v,rfl,hb,hF⟩
  exact ⟨_,rfl,hb,hF.nv⟩)
omit [NeZero P] in
theorem sub_fin (x y:Fin P):(x.val+P-y.val)%P=(x-y).val:=by
 rw[Fin.sub_def]
 show _=(P-y.val+x.val)%P
 congr 1
 have:=y.isLt
 omega
theorem difference_c (h:Fld P) (x y:Fin P):Gives 90 #[gv0,fv x,fv y] (fv (x-y)):=fun w =>
 (difference_any 4294968273 0 0 P _ _ x.val y.val h.gap (h.four x) (h.four y) x.isLt y.isLt w).mono (by
  rintro e w' ⟨v,rfl,hb,hF⟩
  rw[sub_fin] at hF
  exact ⟨_,rfl,hb,hF.nv⟩)
theorem product_c (h:Fld P) (x y:Fin P):Gives 89 #[gv0,fv x,fv y] (fv (x*y)):=fun w =>
 (product_any 4294968273 0 0 P _ _ x.val y.val h.gap (h.four x) (h.four y) w).mono (by
  rintro e w' ⟨v,rfl,hb,hF⟩
  exact ⟨_,rfl,hb,hF.nv⟩)
theorem four_c (h:Fld P) (x:Fin P):Gives 59 #[fv x] (fv x):=fun w=>(four_any _ _ (h.four x) w).mono (by rintro e w' ⟨v,rfl,hb,rfl⟩;exact ⟨_,rfl,hb,rfl⟩)
theorem number_c (h:Fld P) (x:Fin P):Gives 77 #[fv x] (fv x):=fun w=>(number_any _ _ (h.four x) w).mono (by rintro e w' ⟨v,rfl,hb,rfl⟩;exact ⟨_,rfl,hb,rfl⟩)
theorem PTimes_c (h:Fld P) (x y:Fin P):Gives 85 #[gv0,fv x,fv y] (fv (x*y)):=fun w =>
 (Times_any 4294968273 0 0 P _ _ x.val y.val h.gap (h.four x) (h.four y) w).mono (by
  rintro e w' ⟨v,rfl,hb,hF⟩
  exact ⟨_,rfl,hb,hF.nv⟩)
theorem PPlus_c (h:Fld P) (x y:Fin P):Gives 53 #[gv0,fv x,fv y] (fv (x+y)):=fun w =>
 (Plus_any 4294968273 0 0 P _ _ x.val y.val h.gap (h.four x) (h.four y) x.isLt y.isLt w).mono (by
  rintro e w' ⟨v,rfl,hb,hF⟩
  exact ⟨_,rfl,hb,hF.nv⟩)
theorem PMinus_c (h:Fld P) (x y:Fin P):Gives 87 #[gv0,fv x,fv y] (fv (x-y)):=fun w =>
 (Minus_any 4294968273 0 0 P _ _ x.val y.val h.gap (h.four x) (h.four y) x.isLt y.isLt w).mono (by
  rintro e w' ⟨v,rfl,hb,hF⟩
  rw[sub_fin] at hF
  exact ⟨_,rfl,hb,hF.nv⟩)
theorem seven_fv (h:Fld P):(Value.agg #[.int .u64 7,.int .u64 0,.int .u64 0,.int .u64 0])=fv (7:Fin P):=by
 have h:Four (Value.agg #[.int .u64 7,.int .u64 0,.int .u64 0,.int .u64 0]) (7:Fin P).val:=by
  have h7:(7:Fin P).val=7%P:=rfl
  rw[h7,Nat.mod_eq_of_lt h.p7]
  exact Four.mk (a:=7) (b:=0) (c:=0) (d:=0) (by decide) (by decide) (by decide) (by decide) rfl
 exact h.nv
theorem ws_zero:([.int .u64 0,.int .u64 0,.int .u64 0,.int .u64 0]:List Value)=ws (0:Fin P):=by
 have h:=zero_fv (P:=P)
 unfold nv at h
 injection h with h
 exact congrArg Array.toList h
theorem zero_pv:(Value.agg #[.int .u64 0,.int .u64 0,.int .u64 0,.int .u64 0,.int .u64 0,.int .u64 0,.int .u64 0,.int .u64 0])=pv (0:Fin P) 0:=by
 unfold pv
 rw[← ws_zero]
 rfl
theorem zero_rv:(Value.agg #[.int .u64 0,.int .u64 0,.int .u64 0,.int .u64 0,.int .u64 0,.int .u64 0,.int .u64 0,.int .u64 0,.int .u64 0,.int .u64 0,.int .u64 0,.int .u64 0])=rv (0:Fin P) 0 0:=by
 unfold rv
 rw[← ws_zero]
 rfl
theorem Inverse_c (h:Fld P) (x:Fin P):Gives 71 #[gv0,fv x] (fv (EC.inv x)):=fun w =>
 (Inverse_any 4294968273 0 0 P _ x.val h.gap h.p2 (h.four x) w).mono (by
  rintro e w' ⟨v,rfl,hb,hF⟩
  exact ⟨_,rfl,hb,hF.nv⟩)
end
namespace RG
open Go Go.RowKit
variable {P:Program} {ops:Array Oper} {Q:Exit→Act→World→Prop} {w0 w:World} {k0:Nat} {X:List Nat} {its:List It} {bl:List Bl} {olds:List (Tmp × SV)} {a0:Act} {i:Nat} {o:Oper} {it:It}
theorem cert_pass (hk:it.kind=.pass) (h:it.out=.v undef):Cert P Q w0 k0 X ops i its bl olds o it:=by
 intro μ a w K _ _ _
 rw[hk]
 exact h
theorem cert_bin (hk:it.kind=.stay) (op:BinOp) (T T':TypeId) (t1 t2:Tmp) (v1 v2 v:Value) (ho:o.op=.binOp op T (.tmp t1) (.tmp t2) T') (hout:it.out=.v v)
 (h1:∀ (μ:Nat→Nat) (a:Act),Known ops i its olds it.need μ a→a.eval (.tmp t1)=v1) (h2:∀ (μ:Nat→Nat) (a:Act),Known ops i its olds it.need μ a→a.eval (.tmp t2)=v2)
 (hg:∀ w,(eqGuard op T (.tmp t1) (.tmp t2) v1 v2).run P w=.ok () w) (hb:∀ w,(binOp op T v1 v2).run P w=.ok v w):Cert P Q w0 k0 X ops i its bl olds o it:=by
 refine cert_stay hk fun μ a w hK _=>?_
 unfold execOp
 rw[ho,hout]
 dsimp only
 rw[h1 μ a hK,h2 μ a hK,Sem.run_bind,Sem.run_bind,hg]
 dsimp only[Result.andThen]
 rw[hb]
 rfl
theorem results_t {fn:Func} {a:Act} (t:Tmp) (hr:fn.results=#[.tmp t]) (v:Value) (ht:a.tmps[t]? = some v):(results fn a.tmps).run P w=.ok v w:=by
 have h2:a.tmps.getD t undef=v:=by rw[Array.getD_eq_getD_getElem?,ht];rfl
 unfold results
 rw[hr]
 simp only[Array.mapM_eq_mapM_toList,List.mapM_cons,List.mapM_nil,h2]
 simp[Sem.run_bind]
theorem results_rt {fn:Func} {a:Act} {cs:List (List Value)} {ks:List Nat} (hS:St w0 k0 X cs ks w) (t u:Tmp) (T:TypeId) (hr:fn.results=#[.cell t T,.tmp u]) (b:Nat) (c:List Value) (hc:cs[b]? = some c) (ht:a.tmps[t]? = some (.pointer (some ⟨ad ks b,0,none⟩))) (v:Value) (hu2:a.tmps[u]? = some v)
 (hu:(P.underlying T).map (·.isRow)=some true) (hi:(P.info? T).map (·.size)=some c.length):(results fn a.tmps).run P w=.ok (.tuple #[.agg c.toArray,v]) w:=by
 obtain ⟨d,hu,hd⟩:=Option.map_eq_some_iff.1 hu
 have h1:=run_loadVar_mid (P:=P) w (ad ks b) 0 T c d (hS.has b c hc).1 hu hd hi
 have h2:a.tmps.getD t undef=.pointer (some ⟨ad ks b,0,none⟩):=by rw[Array.getD_eq_getD_getElem?,ht];rfl
 have h3:a.tmps.getD u undef=v:=by rw[Array.getD_eq_getD_getElem?,hu2];rfl
 unfold results
 rw[hr]
 simp only[Array.mapM_eq_mapM_toList,List.mapM_cons,List.mapM_nil,h2,h3,asAddr]
 simp[Sem.run_bind,h1]
end RG
namespace RG
open Go Go.RowKit
variable {P:Program} {ops:Array Oper} {Q:Exit→Act→World→Prop} {w0 w:World} {k0:Nat} {X:List Nat} {its:List It} {bl:List Bl} {olds:List (Tmp × SV)} {a0 a:Act} {i:Nat} {o:Oper} {it:It} {μ:Nat→Nat}
structure Sl (a:Act) (n:Nat):Prop where
 size:a.tmps.size=n
 defers:a.defers=[]
theorem Sl.puts {n:Nat} (h:Sl a n):Sl (puts μ its a) n:=⟨by rw[puts_size];exact h.size,by rw[puts_defers];exact h.defers⟩
theorem eval_of {t:Tmp} {v:Value} (h:a.tmps[t]? = some v):a.eval (.tmp t)=v:=by
 show a.tmps.getD t undef=v
 rw[Array.getD_eq_getD_getElem?,h]
 rfl
theorem results_none {fn:Func} {tmps:Array Value} (hr:fn.results=#[]):(results fn tmps).run P w=.ok (.tuple #[]) w:=by
 unfold results
 rw[hr]
 simp
theorem var1 {c:Code} {v0:Value} {n:Nat} (h0:a.tmps[0]? = some v0) (hs:a.tmps.size=n) (hd:a.defers=[]) (h:∀ a,Sl a n→a.tmps[0]? = some v0→c.wp P Q a w):c.wp P Q a w:=h a ⟨hs,hd⟩ h0
theorem var2 {c:Code} {v0 v1:Value} {n:Nat} (h0:a.tmps[0]? = some v0) (h1:a.tmps[1]? = some v1) (hs:a.tmps.size=n) (hd:a.defers=[]) (h:∀ a,Sl a n→a.tmps[0]? = some v0→a.tmps[1]? = some v1→c.wp P Q a w):c.wp P Q a w:=h a ⟨hs,hd⟩ h0 h1
theorem var3 {c:Code} {v0 v1 v2:Value} {n:Nat} (h0:a.tmps[0]? = some v0) (h1:a.tmps[1]? = some v1) (h2:a.tmps[2]? = some v2) (hs:a.tmps.size=n) (hd:a.defers=[]) (h:∀ a,Sl a n→a.tmps[0]? = some v0→a.tmps[1]? = some v1→a.tmps[2]? = some v2→c.wp P Q a w):c.wp P Q a w:=h a ⟨hs,hd⟩ h0 h1 h2
theorem cert_makes (b:Nat) (hk:it.kind=.make b) (e:Bl) (hb:bl[b]? = some e) (T E:TypeId) (t1 t2:Tmp) (n:Nat) (hout:it.out=.s b n n) (ho:o.op=.makeSlice T (.tmp t1) (.tmp t2))
 (h1:∀ (μ:Nat→Nat) (a:Act),Known ops i its olds it.need μ a→a.eval (.tmp t1)=.int .i64 n) (h2:∀ (μ:Nat→Nat) (a:Act),Known ops i its olds it.need μ a→a.eval (.tmp t2)=.int .i64 n)
 (hz:∀ w:World,(Instr.makeSlice T (.int .i64 n) (.int .i64 n)).run P w=.ok (.slice (some ⟨w.heap.size,0,none⟩) n n) (w.alloc (.cells e.before.toArray E))):Cert P Q w0 k0 X ops i its bl olds o it:=by
 refine cert_make b hk e hb E fun μ a w hK _=>?_
 have hm:it.out.at (upd μ b w.heap.size)=.slice (some ⟨w.heap.size,0,none⟩) n n:=by
  rw[hout]
  show Value.slice (some ⟨upd μ b w.heap.size b,0,none⟩) n n=_
  unfold upd
  rw[if_pos rfl]
 unfold execOp
 rw[ho]
 dsimp only
 rw[h1 μ a hK,h2 μ a hK,hm,Sem.run_bind,hz]
 rfl
theorem cert_one (hk:it.kind=.stay) (t:Tmp) (s:SV) (v:Value) (hout:it.out=.v v) (hx:∀ (μ:Nat→Nat) (a:Act),Known ops i its olds it.need μ a→a.eval (.tmp t)=s.at μ)
 (hE:∀ (a:Act) (w:World),(execOp a.eval o).run P w=(execOp (fun _=>a.eval (.tmp t)) o).run P w) (hV:∀ (μ:Nat→Nat) (w:World),(execOp (fun _=>s.at μ) o).run P w=.ok (.value v) w):Cert P Q w0 k0 X ops i its bl olds o it:=by
 refine cert_stay hk fun μ a w hK _=>?_
 rw[hE,hx μ a hK,hV,hout]
 rfl
theorem cert_callM (hk:it.kind=.call) (b:Nat) (e:Bl) (hb:bl[b]? = some e) (hal:e.al=none) (hst:readB ops i e=true) (he:e.before≠[]) (f:FuncId) (args:(Nat→Nat)→Array Value) (v:Value) (hout:it.out=.v v) (hrun:∀ (μ:Nat→Nat) (a:Act) (w:World),Known ops i its olds it.need μ a→(execOp a.eval o).run P w=.ok (.enter f (args μ)) w)
 (hc:∀ (μ:Nat→Nat) (w:World),μ b<w.heap.size→w.rangeAt (μ b) 0 e.before→Calls P f (args μ) w (Ret fun r w'=>Below w.heap.size w w'∧r=v)):Cert P Q w0 k0 X ops i its bl olds o it:=by
 intro μ a w K hK hR _
 rw[hk]
 intro h
 rw[hout] at h
 have hr:=hR b e hb (Or.inl hal) hst
 have hlt:μ b<w.heap.size:=by
  cases hee:e.before with
  | nil=>exact absurd hee he
  | cons x r =>
   have h1:=hr 0 x (by rw[hee];rfl)
   exact Classical.byContradiction fun hn=>by
    have h2:w.heap[μ b]? = none:=Array.getElem?_eq_none (by omega)
    simp[World.cell?,h2] at h1
 unfold Oper.wp
 rw[hrun μ a w hK,Oper.upon_enter]
 refine (hc μ w hlt hr).mono ?_
 rintro r w' ⟨v',rfl,hb',rfl⟩
 exact h w' hb'
theorem range_sub {k o:Nat} {C cs:List Value} (h:w.rangeAt k 0 C) (hs:∀ j,j<cs.length→C[o+j]? = cs[j]?):w.rangeAt k o cs:=fun j v hv=>by
 have hj:j<cs.length:=(List.getElem?_eq_some_iff.1 hv).1
 have:=h (o+j) v (by rw[hs j hj];exact hv)
 rwa[Nat.zero_add] at this
theorem cert_idx (hk:it.kind=.stay) (T:TypeId) (t u:Tmp) (ho:o.op=.indexAddr T (.tmp t) (.tmp u)) (s:SV) (iv:Value) (hx:∀ (μ:Nat→Nat) (a:Act),Known ops i its olds it.need μ a→a.eval (.tmp t)=s.at μ) (hy:∀ (μ:Nat→Nat) (a:Act),Known ops i its olds it.need μ a→a.eval (.tmp u)=iv)
 (hf:∀ (μ:Nat→Nat) (w:World),(Instr.indexAt T (s.at μ) iv).run P w=.ok (it.out.at μ) w):Cert P Q w0 k0 X ops i its bl olds o it:=by
 refine cert_stay hk fun μ a w hK _=>?_
 unfold execOp
 rw[ho]
 dsimp only
 rw[hx μ a hK,hy μ a hK,Sem.run_bind,hf]
 rfl
theorem cert_idxc (hk:it.kind=.stay) (T:TypeId) (t:Tmp) (iv:Value) (ho:o.op=.indexAddr T (.tmp t) (.const iv)) (s:SV) (hx:∀ (μ:Nat→Nat) (a:Act),Known ops i its olds it.need μ a→a.eval (.tmp t)=s.at μ)
 (hf:∀ (μ:Nat→Nat) (w:World),(Instr.indexAt T (s.at μ) iv).run P w=.ok (it.out.at μ) w):Cert P Q w0 k0 X ops i its bl olds o it:=by
 refine cert_stay hk fun μ a w hK _=>?_
 unfold execOp
 rw[ho]
 dsimp only
 rw[hx μ a hK]
 show ((Instr.indexAt T (s.at μ) iv) >>= fun v=>pure (Next.value v)).run P w=_
 rw[Sem.run_bind,hf]
 rfl
theorem cert_binc (hk:it.kind=.stay) (op:BinOp) (T T':TypeId) (t1:Tmp) (v1 v2 v:Value) (ho:o.op=.binOp op T (.tmp t1) (.const v2) T') (hout:it.out=.v v)
 (h1:∀ (μ:Nat→Nat) (a:Act),Known ops i its olds it.need μ a→a.eval (.tmp t1)=v1)
 (hg:∀ w,(eqGuard op T (.tmp t1) (.const v2) v1 v2).run P w=.ok () w) (hb:∀ w,(binOp op T v1 v2).run P w=.ok v w):Cert P Q w0 k0 X ops i its bl olds o it:=by
 refine cert_stay hk fun μ a w hK _=>?_
 unfold execOp
 rw[ho,hout]
 dsimp only
 rw[h1 μ a hK]
 show (((eqGuard op T (.tmp t1) (.const v2) v1 v2) >>= fun _=>binOp op T v1 v2) >>= fun v=>pure (Next.value v)).run P w=_
 rw[Sem.run_bind,Sem.run_bind,hg]
 dsimp only[Result.andThen]
 rw[hb]
 rfl
theorem cert_conv (hk:it.kind=.stay) (S T:TypeId) (t:Tmp) (v v':Value) (ho:o.op=.convert S T (.tmp t)) (hout:it.out=.v v') (hx:∀ (μ:Nat→Nat) (a:Act),Known ops i its olds it.need μ a→a.eval (.tmp t)=v) (hc:∀ w,(convert S T v).run P w=.ok v' w):Cert P Q w0 k0 X ops i its bl olds o it:=by
 refine cert_stay hk fun μ a w hK _=>?_
 unfold execOp
 rw[ho,hout]
 dsimp only
 rw[hx μ a hK,Sem.run_bind,hc]
 rfl
theorem cert_un (hk:it.kind=.stay) (op:UnOp) (T:TypeId) (t:Tmp) (v v':Value) (ho:o.op=.unOp op T (.tmp t)) (hout:it.out=.v v') (hx:∀ (μ:Nat→Nat) (a:Act),Known ops i its olds it.need μ a→a.eval (.tmp t)=v) (hc:∀ w,(Op.unary op v).run P w=.ok v' w):Cert P Q w0 k0 X ops i its bl olds o it:=by
 refine cert_stay hk fun μ a w hK _=>?_
 unfold execOp
 rw[ho,hout]
 dsimp only
 rw[hx μ a hK,Sem.run_bind,hc]
 rfl
theorem cert_loadB (hk:it.kind=.stay) (k off:Nat) (hk0:k<k0) (hX:k ∉ X) (T:TypeId) (t:Tmp) (ho:o.op=.load T (.tmp t)) (cs:List Value) (hout:it.out=.v (.agg cs.toArray))
 (hx:∀ (μ:Nat→Nat) (a:Act),Known ops i its olds it.need μ a→a.eval (.tmp t)=.pointer (some ⟨k,off,none⟩)) (hr:w0.rangeAt k off cs)
 (hu:(P.underlying T).map (·.isRow)=some true) (hi:(P.info? T).map (·.size)=some cs.length):Cert P Q w0 k0 X ops i its bl olds o it:=by
 intro μ a w K hK _ hb
 rw[hk]
 intro h
 rw[hout] at h
 obtain ⟨d,hu,hd⟩:=Option.map_eq_some_iff.1 hu
 refine wp_load_mid T (.tmp t) ho k off (hx μ a hK) cs d (fun j v hj=>?_) hu hd hi h
 rw[World.cell?_of_block (w:=w0) (a:=⟨k,off+j,none⟩) (hb.block k hk0 hX)]
 exact hr j v hj
theorem run_load1 {T:TypeId} {k off:Nat} {v:Value} (hc:w.cell? ⟨k,off,none⟩=some v) (hu:(P.underlying T).map (·.isRow)=some false):(Instr.loadAt T (.pointer (some ⟨k,off,none⟩))).run P w=.ok v w:=by
 obtain ⟨d,hu,hd⟩:=Option.map_eq_some_iff.1 hu
 have hagg:(isAgg T).run P w=.ok false w:=by
  unfold isAgg
  rw[Sem.run_bind,run_underlying hu w]
  cases d<;>simp_all
 simp[Instr.loadAt,Instr.sureAddr,loadVar,Sem.run_bind,hagg,hc]
theorem cert_load1 (hk:it.kind=.stay) (b off:Nat) (e:Bl) (hb:bl[b]? = some e) (hal:e.al=none) (hst:readB ops i e=true) (T:TypeId) (t:Tmp) (ho:o.op=.load T (.tmp t)) (v:Value) (hout:it.out=.v v)
 (hx:∀ (μ:Nat→Nat) (a:Act),Known ops i its olds it.need μ a→a.eval (.tmp t)=(SV.p b off).at μ) (hsub:e.before[off]? = some v)
 (hu:(P.underlying T).map (·.isRow)=some false):Cert P Q w0 k0 X ops i its bl olds o it:=by
 intro μ a w K hK hR _
 rw[hk]
 intro h
 rw[hout] at h
 have h1:=hR b e hb (Or.inl hal) hst off v hsub
 rw[Nat.zero_add] at h1
 unfold Oper.wp execOp
 rw[ho]
 dsimp only
 rw[hx μ a hK]
 show o.upon P a K Q (((Instr.loadAt T (.pointer (some ⟨μ b,off,none⟩))) >>= fun v=>pure (Next.value v)).run P w)
 rw[Sem.run_bind,run_load1 h1 hu]
 exact h
theorem run_store1 {T:TypeId} {k off:Nat} {v u:Value} (hc:w.cell? ⟨k,off,none⟩=some u) (hf:w.frozen? ⟨k,off,none⟩=false) (h1:v.oneCell'=true) (hv:v.cells=#[v]) (hi:(P.info? T).map (·.size)=some 1):(Instr.storeAt T (.pointer (some ⟨k,off,none⟩)) v).run P w=.ok () (w.setCells k off [v]):=by
 have:=run_storeCells_cells (P:=P) k off [v] 0 w (fun j hj=>by
  obtain rfl:j=0:=by simpa using hj
  simp[hc]) (fun j hj=>by
  obtain rfl:j=0:=by simpa using hj
  simpa using hf) (fun x hx=>by
  obtain rfl:x=v:=by simpa using hx
  exact h1)
 cases hq:P.info? T with
 | none=>simp[hq] at hi
 | some inf =>
  have hs:inf.size=1:=by simp[hq] at hi;omega
  simp only[Nat.add_zero] at this
  simp[Instr.storeAt,Instr.sureAddr,storeVar,sizeOf,typeInfo,hq,hv,hs,this]
theorem cert_put1 (b off:Nat) (hk:it.kind=.put b) (e:Bl) (hb:bl[b]? = some e) (T:TypeId) (x y:Operand) (v:Value) (ho:o.op=.store T x y) (hdn:o.dst=none)
 (hx:∀ (μ:Nat→Nat) (a:Act),Known ops i its olds it.need μ a→a.eval x=(SV.p b off).at μ) (hy:∀ (μ:Nat→Nat) (a:Act),Known ops i its olds it.need μ a→a.eval y=v) (hoff:off<e.before.length) (hset:e.after=e.before.set off v)
 (hi:(P.info? T).map (·.size)=some 1) (h1:v.oneCell'=true) (hv:v.cells=#[v]):Cert P Q w0 k0 X ops i its bl olds o it:=by
 intro μ a w K hK _ _
 rw[hk]
 intro e' hb' ht hr h
 rw[hb] at hb'
 obtain rfl:e=e':=Option.some.inj hb'
 have hPT:PutTo (μ b) e.before.length e.after w (w.setCells (μ b) off [v]):=PutTo.store ht hr (by simp only[List.length_cons,List.length_nil];omega) (fun j=>by
  rw[hset,List.getElem?_set]
  by_cases hj:off=j
  ·subst hj
   rw[if_pos rfl,if_pos hoff,if_pos (by simp)]
   simp
  ·rw[if_neg hj,if_neg (by simp only[List.length_cons,List.length_nil];omega)])
 have ht':=ht off hoff
 rw[Nat.zero_add] at ht'
 obtain ⟨u,hu⟩:=Option.isSome_iff_exists.1 ht'.1
 unfold Oper.wp execOp
 rw[ho]
 dsimp only
 rw[hx μ a hK,hy μ a hK]
 show o.upon P a K Q (((Instr.storeAt T (.pointer (some ⟨μ b,off,none⟩)) v) >>= fun _=>pure Next.skip).run P w)
 rw[Sem.run_bind,run_store1 hu ht'.2 h1 hv hi]
 have:=h _ hPT
 rw[hdn] at this
 show K (a.put o.dst undef) _
 rw[hdn]
 exact this
theorem cert_putAt (b off:Nat) (hk:it.kind=.put b) (e:Bl) (hb:bl[b]? = some e) (T:TypeId) (x y:Operand) (vs:List Value) (ho:o.op=.store T x y) (hdn:o.dst=none)
 (hx:∀ (μ:Nat→Nat) (a:Act),Known ops i its olds it.need μ a→a.eval x=(SV.p b off).at μ) (hy:∀ (μ:Nat→Nat) (a:Act),Known ops i its olds it.need μ a→a.eval y=.agg vs.toArray) (hoff:off+vs.length≤e.before.length)
 (hset:∀ j,e.after[j]? = if off≤j∧j<off+vs.length then vs[j-off]? else e.before[j]?)
 (hi:(P.info? T).map (·.size)=some vs.length) (h1:vs.all (·.oneCell')=true):Cert P Q w0 k0 X ops i its bl olds o it:=by
 intro μ a w K hK _ _
 rw[hk]
 intro e' hb' ht hr h
 rw[hb] at hb'
 obtain rfl:e=e':=Option.some.inj hb'
 have hPT:=PutTo.store ht hr hoff hset
 refine wp_store_mid T x y ho (μ b) off vs.toArray (hx μ a hK) (hy μ a hK) ?_ ?_ ?_ ?_
 ·intro j hj
  have:=ht (off+j) (by rw[List.size_toArray] at hj;omega)
  rwa[Nat.zero_add] at this
 ·rw[List.size_toArray];exact hi
 ·exact all_oneCell_toArray (fun v hv=>List.all_eq_true.1 h1 v hv)
 ·have:=h _ hPT
  rw[hdn] at this ⊢
  exact this
theorem cert_callput (b:Nat) (hk:it.kind=.put b) (e:Bl) (hb:bl[b]? = some e) (f:FuncId) (args:(Nat→Nat)→Array Value) (v:Value) (hout:it.out=.v v) (hrun:∀ (μ:Nat→Nat) (a:Act) (w:World),Known ops i its olds it.need μ a→BelX k0 X w0 w→(execOp a.eval o).run P w=.ok (.enter f (args μ)) w)
 (hc:∀ (μ:Nat→Nat) (w:World),BelX k0 X w0 w→w.there (μ b) 0 e.before.length→w.rangeAt (μ b) 0 e.before→Calls P f (args μ) w (Ret fun r w'=>PutTo (μ b) e.before.length e.after w w'∧r=v)):Cert P Q w0 k0 X ops i its bl olds o it:=by
 intro μ a w K hK _ hbel
 rw[hk]
 intro e' hb' ht hr h
 rw[hb] at hb'
 obtain rfl:e=e':=Option.some.inj hb'
 rw[hout] at h
 unfold Oper.wp
 rw[hrun μ a w hK hbel,Oper.upon_enter]
 refine (hc μ w hbel ht hr).mono ?_
 rintro r w' ⟨v',rfl,hp,rfl⟩
 exact h w' hp
theorem St.lent {k:Nat} {C:List Value} (hk:k<w.heap.size) (hr:w.rangeAt k 0 C) (ht:w.there k 0 C.length):St w w.heap.size [k] [C] [k] w:=by
 refine ⟨BelX.refl _ _ _,Nat.le_refl _,rfl,fun b c h=>?_,fun b c hb hc hne=>?_⟩
 ·cases b with
  | zero =>
   obtain rfl:C=c:=by simpa using h
   exact ⟨hr,ht,hk,Or.inr List.mem_cons_self⟩
  | succ b=>simp at h
 ·simp only[List.length_cons,List.length_nil] at hb hc
  omega
theorem St.putTo {k:Nat} {C:List Value} {cs:List (List Value)} {ks:List Nat} {n:Nat} (h:St w0 w0.heap.size [k] (C :: cs) (k :: ks) w) (hn:C.length=n):PutTo k n C w0 w:=by
 obtain ⟨h1,h2,-,-⟩:=h.has 0 C rfl
 refine ⟨h.bel.os,h.bel.tape,h.bel.output,h.bel.size,fun j hj hne=>h.bel.block j hj (by simpa using hne),h1,?_⟩
 rw[← hn]
 exact h2
def rep (C:List Value) (o:Nat) (vs:List Value):List Value:=C.take o++(vs++C.drop (o+vs.length))
theorem rep_length {C vs:List Value} {o:Nat} (h:o+vs.length≤C.length):(rep C o vs).length=C.length:=by
 unfold rep
 rw[List.length_append,List.length_append,List.length_take,List.length_drop]
 omega
theorem rep_at {C vs:List Value} {o:Nat} (h:o+vs.length≤C.length) (j:Nat):(rep C o vs)[j]? = if o≤j∧j<o+vs.length then vs[j-o]? else C[j]?:=by
 unfold rep
 have hl:(C.take o).length=o:=by rw[List.length_take];omega
 by_cases h1:j<o
 ·rw[List.getElem?_append_left (by rw[hl];exact h1),List.getElem?_take,if_pos h1,if_neg (by omega)]
 ·rw[List.getElem?_append_right (by rw[hl];omega),hl]
  by_cases h2:j<o+vs.length
  ·rw[List.getElem?_append_left (by omega),if_pos ⟨by omega,h2⟩]
  ·rw[List.getElem?_append_right (by omega),if_neg (by omega),List.getElem?_drop]
   congr 1
   omega
theorem sub_of {C cs:List Value} {o:Nat} (h:∀ j,j<cs.length→C[o+j]? = cs[j]?) (hl:o+cs.length≤C.length):(C.drop o).take cs.length=cs:=by
 apply List.ext_getElem?
 intro j
 by_cases hj:j<cs.length
 ·rw[List.getElem?_take,if_pos hj,List.getElem?_drop,h j hj]
 ·rw[List.getElem?_eq_none (by rw[List.length_take,List.length_drop];omega),List.getElem?_eq_none (by omega)]
theorem cert_callput3 (b:Nat) (hk:it.kind=.put b) (e:Bl) (hb:bl[b]? = some e) (f:FuncId) (t1 t2 t3:Tmp) (s1:SV) (v2 v3 v:Value) (hout:it.out=.v v) (hrun:∀ (a:Act) (w:World),(execOp a.eval o).run P w=.ok (.enter f #[a.eval (.tmp t1),a.eval (.tmp t2),a.eval (.tmp t3)]) w)
 (h1:∀ (μ:Nat→Nat) (a:Act),Known ops i its olds it.need μ a→a.eval (.tmp t1)=s1.at μ) (h2:∀ (μ:Nat→Nat) (a:Act),Known ops i its olds it.need μ a→a.eval (.tmp t2)=v2) (h3:∀ (μ:Nat→Nat) (a:Act),Known ops i its olds it.need μ a→a.eval (.tmp t3)=v3)
 (hc:∀ (μ:Nat→Nat) (w:World),w.there (μ b) 0 e.before.length→w.rangeAt (μ b) 0 e.before→Calls P f #[s1.at μ,v2,v3] w (Ret fun r w'=>PutTo (μ b) e.before.length e.after w w'∧r=v)):Cert P Q w0 k0 X ops i its bl olds o it:=
 cert_callput b hk e hb f (fun μ=>#[s1.at μ,v2,v3]) v hout (fun μ a w hK _=>by rw[hrun,h1 μ a hK,h2 μ a hK,h3 μ a hK]) (fun μ w _ ht hr=>hc μ w ht hr)
theorem cert_callM2 (hk:it.kind=.call) (b:Nat) (e:Bl) (hb:bl[b]? = some e) (hal:e.al=none) (hst:readB ops i e=true) (he:e.before≠[]) (f:FuncId) (t1 t2:Tmp) (s1:SV) (v2 v:Value) (hout:it.out=.v v) (hrun:∀ (a:Act) (w:World),(execOp a.eval o).run P w=.ok (.enter f #[a.eval (.tmp t1),a.eval (.tmp t2)]) w)
 (h1:∀ (μ:Nat→Nat) (a:Act),Known ops i its olds it.need μ a→a.eval (.tmp t1)=s1.at μ) (h2:∀ (μ:Nat→Nat) (a:Act),Known ops i its olds it.need μ a→a.eval (.tmp t2)=v2)
 (hc:∀ (μ:Nat→Nat) (w:World),μ b<w.heap.size→w.rangeAt (μ b) 0 e.before→Calls P f #[s1.at μ,v2] w (Ret fun r w'=>Below w.heap.size w w'∧r=v)):Cert P Q w0 k0 X ops i its bl olds o it:=
 cert_callM hk b e hb hal hst he f (fun μ=>#[s1.at μ,v2]) v hout (fun μ a w hK=>by rw[hrun,h1 μ a hK,h2 μ a hK]) hc
end RG
namespace RG
open Go Go.RowKit
variable {P:Program} {ops:Array Oper} {Q:Exit→Act→World→Prop} {w0 w:World} {k0:Nat} {X:List Nat} {its:List It} {bl:List Bl} {olds:List (Tmp × SV)} {a:Act} {i:Nat} {o:Oper} {it:It}
theorem cert_slice1 (hk:it.kind=.stay) (T:TypeId) (t:Tmp) (lo v v':Value) (ho:o.op=.slice T (.tmp t) (some (.const lo)) none none) (hout:it.out=.v v') (hx:∀ (μ:Nat→Nat) (a:Act),Known ops i its olds it.need μ a→a.eval (.tmp t)=v)
 (hf:∀ w:World,(Instr.sliceAt T v (some lo) none none).run P w=.ok v' w):Cert P Q w0 k0 X ops i its bl olds o it:=by
 refine cert_stay hk fun μ a w hK _=>?_
 unfold execOp
 rw[ho,hout]
 dsimp only
 rw[hx μ a hK]
 show ((Instr.sliceAt T v (some lo) none none) >>= fun v=>pure (Next.value v)).run P w=_
 rw[Sem.run_bind,hf]
 rfl
theorem cert_s2a (hk:it.kind=.stay) (T:TypeId) (t:Tmp) (v v':Value) (ho:o.op=.sliceToArrayPointer T (.tmp t)) (hout:it.out=.v v') (hx:∀ (μ:Nat→Nat) (a:Act),Known ops i its olds it.need μ a→a.eval (.tmp t)=v)
 (hf:∀ w:World,(Instr.arrayAt T v).run P w=.ok v' w):Cert P Q w0 k0 X ops i its bl olds o it:=by
 refine cert_stay hk fun μ a w hK _=>?_
 unfold execOp
 rw[ho,hout]
 dsimp only
 rw[hx μ a hK,Sem.run_bind,hf]
 rfl
theorem cert_load1B (hk:it.kind=.stay) (k off:Nat) (hk0:k<k0) (hX:k ∉ X) (T:TypeId) (t:Tmp) (ho:o.op=.load T (.tmp t)) (v:Value) (hout:it.out=.v v)
 (hx:∀ (μ:Nat→Nat) (a:Act),Known ops i its olds it.need μ a→a.eval (.tmp t)=.pointer (some ⟨k,off,none⟩)) (hr:w0.cell? ⟨k,off,none⟩=some v)
 (hu:(P.underlying T).map (·.isRow)=some false):Cert P Q w0 k0 X ops i its bl olds o it:=by
 refine cert_stay hk fun μ a w hK hb=>?_
 have h1:w.cell? ⟨k,off,none⟩=some v:=by
  rw[World.cell?_of_block (w:=w0) (a:=⟨k,off,none⟩) (hb.block k hk0 hX)]
  exact hr
 unfold execOp
 rw[ho,hout]
 dsimp only
 rw[hx μ a hK,Sem.run_bind,run_load1 h1 hu]
 rfl
theorem cert_callB2 (hk:it.kind=.call) (f:FuncId) (t1 t2:Tmp) (v1 v2 v:Value) (hout:it.out=.v v) (hrun:∀ (a:Act) (w:World),(execOp a.eval o).run P w=.ok (.enter f #[a.eval (.tmp t1),a.eval (.tmp t2)]) w)
 (h1:∀ (μ:Nat→Nat) (a:Act),Known ops i its olds it.need μ a→a.eval (.tmp t1)=v1) (h2:∀ (μ:Nat→Nat) (a:Act),Known ops i its olds it.need μ a→a.eval (.tmp t2)=v2)
 (hc:∀ w,BelX k0 X w0 w→Calls P f #[v1,v2] w (Ret fun e w'=>Below w.heap.size w w'∧e=v)):Cert P Q w0 k0 X ops i its bl olds o it:=
 cert_call hk f #[v1,v2] v hout (fun μ a w hK _=>by rw[hrun,h1 μ a hK,h2 μ a hK]) hc
theorem cert_callB1 (hk:it.kind=.call) (f:FuncId) (t1:Tmp) (v1 v:Value) (hout:it.out=.v v) (hrun:∀ (a:Act) (w:World),(execOp a.eval o).run P w=.ok (.enter f #[a.eval (.tmp t1)]) w)
 (h1:∀ (μ:Nat→Nat) (a:Act),Known ops i its olds it.need μ a→a.eval (.tmp t1)=v1)
 (hc:∀ w,BelX k0 X w0 w→Calls P f #[v1] w (Ret fun e w'=>Below w.heap.size w w'∧e=v)):Cert P Q w0 k0 X ops i its bl olds o it:=
 cert_call hk f #[v1] v hout (fun μ a w hK _=>by rw[hrun,h1 μ a hK]) hc
theorem St.init {cs:List (List Value)} {c:List Value} {ks:List Nat} {k:Nat} (h:St w0 k0 X (cs++[c]) (ks++[k]) w):St w0 k0 X cs ks w:=by
 have hl:ks.length=cs.length:=by have:=h.len;simp only[List.length_append,List.length_cons,List.length_nil] at this;omega
 have had:∀ b,b<cs.length→ad (ks++[k]) b=ad ks b:=fun b hb=>by
  unfold ad
  rw[List.getD_eq_getElem?_getD,List.getD_eq_getElem?_getD,List.getElem?_append_left (by omega)]
 refine ⟨h.bel,h.le,hl,fun b c' hb=>?_,fun b c' hb hc hne=>?_⟩
 ·have hlt:=(List.getElem?_eq_some_iff.1 hb).1
  have:=h.has b c' (by rw[List.getElem?_append_left hlt];exact hb)
  rwa[had b hlt] at this
 ·have:=h.inj b c' (by rw[List.length_append];omega) (by rw[List.length_append];omega) hne
  rwa[had b hb,had c' hc] at this
theorem results_tt {fn:Func} {a:Act} (t u:Tmp) (hr:fn.results=#[.tmp t,.tmp u]) (v v':Value) (ht:a.tmps[t]? = some v) (hu:a.tmps[u]? = some v'):(results fn a.tmps).run P w=.ok (.tuple #[v,v']) w:=by
 have h2:a.tmps.getD t undef=v:=by rw[Array.getD_eq_getD_getElem?,ht];rfl
 have h3:a.tmps.getD u undef=v':=by rw[Array.getD_eq_getD_getElem?,hu];rfl
 unfold results
 rw[hr]
 simp only[Array.mapM_eq_mapM_toList,List.mapM_cons,List.mapM_nil,h2,h3]
 simp[Sem.run_bind]
end RG
namespace RG
open Go Go.RowKit
variable {P:Program} {ops:Array Oper} {Q:Exit→Act→World→Prop} {w0 w:World} {k0:Nat} {X:List Nat} {its:List It} {bl:List Bl} {olds:List (Tmp × SV)} {a:Act} {i:Nat} {o:Oper} {it:It}
end RG
namespace RG
open Go Go.RowKit
variable {P:Program} {ops:Array Oper} {Q:Exit→Act→World→Prop} {w0 w:World} {k0 n:Nat} {X:List Nat} {its:List It} {bl:List Bl} {os:List (Tmp × SV)} {a:Act} {i:Nat} {o:Oper} {it:It} {μ:Nat→Nat} {need:List (Tmp × Nat)}
def src (ops:Array Oper) (its:List It) (os:List (Tmp × SV)) (need:List (Tmp × Nat)) (i:Nat) (t:Tmp):Option SV:=
 match need.find? (fun x=>x.1 == t) with
 | some x=>(its[x.2]?).map (·.out)
 | none=>match os.find? (fun x=>x.1 == t) with
  | some x=>bif freeB ops its i t then some x.2 else none
  | none=>none
theorem src_eval {t:Tmp} {s:SV} (h:src ops its os need i t=some s) (K:Known ops i its os need μ a):a.eval (.tmp t)=s.at μ:=by
 unfold src at h
 cases hn:need.find? (fun x=>x.1 == t) with
 | some x =>
  rw[hn] at h
  dsimp only at h
  have h1:=List.mem_of_find?_eq_some hn
  have h2:x.1=t:=by simpa using List.find?_some hn
  obtain ⟨jt,hj,rfl⟩:=Option.map_eq_some_iff.1 h
  exact K.op t x.2 (by rw[← h2];exact h1) hj
 | none =>
  rw[hn] at h
  dsimp only at h
  cases ho:os.find? (fun x=>x.1 == t) with
  | none=>rw[ho] at h;cases h
  | some x =>
   rw[ho] at h
   dsimp only at h
   have h1:=List.mem_of_find?_eq_some ho
   have h2:x.1=t:=by simpa using List.find?_some ho
   cases hf:freeB ops its i t with
   | false=>rw[hf] at h;cases h
   | true =>
    rw[hf] at h
    obtain rfl:x.2=s:=Option.some.inj h
    exact K.old t x.2 (by rw[← h2];exact h1) hf
theorem sx {t:Tmp} {f:(Nat→Nat)→Value} (h:∀ μ:Nat→Nat,(src ops its os need i t).map (fun s=>s.at μ)=some (f μ):=by intro _;kernel_rfl):∀ (μ:Nat→Nat) (a:Act),Known ops i its os need μ a→a.eval (.tmp t)=f μ:=fun μ _ K=>by
 obtain ⟨s,hs,he⟩:=Option.map_eq_some_iff.1 (h μ)
 rw[src_eval hs K]
 exact he
def ro (ops:Array Oper) (its:List It) (os:List (Tmp × SV)) (need:List (Tmp × Nat)) (i:Nat) (μ:Nat→Nat):Operand→Value
 | .tmp t=>match src ops its os need i t with|some s=>s.at μ|none=>undef
 | .const v=>v
 | .global g=>.pointer (some ⟨g,0,none⟩)
 | .func f=>.func (.func f) #[] #[]
def seen (ops:Array Oper) (its:List It) (os:List (Tmp × SV)) (need:List (Tmp × Nat)) (i:Nat) (o:Oper):Bool:=
 (match o.op with | .select _ _=>false|_=>true) && o.op.operands.all (fun x=>match x with | .tmp t=>(src ops its os need i t).isSome|_=>true)
theorem exec_ro (h:seen ops its os need i o=true) (K:Known ops i its os need μ a):execOp a.eval o=execOp (ro ops its os need i μ) o:=by
 simp only[seen,Bool.and_eq_true] at h
 refine execOp_congr o (fun cs b he=>?_) (fun x hx=>?_)
 ·rw[he] at h;exact absurd h.1 (by simp)
 ·have h1:=Array.all_eq_true'.1 h.2 x hx
  cases x with
  | tmp t =>
   dsimp only at h1
   obtain ⟨s,hs⟩:=Option.isSome_iff_exists.1 h1
   rw[src_eval hs K]
   show _=(match src ops its os need i t with|some s=>s.at μ|none=>undef)
   rw[hs]
  | const v=>rfl
  | global g=>rfl
  | func f=>rfl
theorem st (h:∀ (μ:Nat→Nat) (w:World),((seen ops its os it.need i o,it.kind),(execOp (ro ops its os it.need i μ) o).run P w)=((true,Kind.stay),.ok (.value (it.out.at μ)) w):=by intro _ _;kernel_rfl):Cert P Q w0 k0 X ops i its bl os o it:=by
 intro μ a w K hK _ hbel
 have h0:=h μ w
 simp only[Prod.mk.injEq] at h0
 rw[h0.1.2]
 intro hK2
 unfold Oper.wp
 rw[exec_ro h0.1.1 hK,h0.2]
 exact hK2
theorem se {v v':Value} (e:v'=v) (h:∀ (μ:Nat→Nat) (w:World),((seen ops its os it.need i o,it.kind,it.out),(execOp (ro ops its os it.need i μ) o).run P w)=((true,Kind.stay,SV.v v),.ok (.value v') w):=by intro _ _;kernel_rfl):Cert P Q w0 k0 X ops i its bl os o it:=by
 intro μ a w K hK _ hbel
 have h0:=h μ w
 simp only[Prod.mk.injEq] at h0
 rw[h0.1.2.1]
 intro hK2
 rw[h0.1.2.2] at hK2
 unfold Oper.wp
 rw[exec_ro h0.1.1 hK,h0.2,e]
 exact hK2
theorem mk (b:Nat) (T:TypeId) (h:∀ (μ:Nat→Nat) (w:World),((seen ops its os it.need i o,it.kind),(execOp (ro ops its os it.need i μ) o).run P w)=((true,Kind.make b),.ok (.value (it.out.at (upd μ b w.heap.size))) (w.alloc (.cells (((bl[b]?).map (·.before)).getD []).toArray T))):=by intro _ _;kernel_rfl):Cert P Q w0 k0 X ops i its bl os o it:=by
 intro μ a w K hK _ hbel
 have h0:=h μ w
 simp only[Prod.mk.injEq] at h0
 rw[h0.1.2]
 intro e hb h2
 unfold Oper.wp
 rw[exec_ro h0.1.1 hK,h0.2,hb]
 exact h2 _ _ (Made.alloc w e.before T)
theorem clB {f:FuncId} {args:Array Value} {v:Value} (h:∀ (μ:Nat→Nat) (w:World),((seen ops its os it.need i o,it.kind,it.out),(execOp (ro ops its os it.need i μ) o).run P w)=((true,Kind.call,SV.v v),.ok (.enter f args) w))
 (hc:∀ w,BelX k0 X w0 w→Calls P f args w (Ret fun e w'=>Below w.heap.size w w'∧e=v)):Cert P Q w0 k0 X ops i its bl os o it:=by
 intro μ a w K hK _ hbel
 have h0:=h μ w
 simp only[Prod.mk.injEq] at h0
 rw[h0.1.2.1]
 intro hk
 rw[h0.1.2.2] at hk
 unfold Oper.wp
 rw[exec_ro h0.1.1 hK,h0.2,Oper.upon_enter]
 refine (hc w hbel).mono ?_
 rintro e w' ⟨v',rfl,hb,rfl⟩
 exact hk w' hb
theorem cl {f:FuncId} {args:Array Value} {v:Value} (hc:∀ w,Calls P f args w (Ret fun e w'=>Below w.heap.size w w'∧e=v)) (h:∀ (μ:Nat→Nat) (w:World),((seen ops its os it.need i o,it.kind,it.out),(execOp (ro ops its os it.need i μ) o).run P w)=((true,Kind.call,SV.v v),.ok (.enter f args) w):=by intro _ _;kernel_rfl):Cert P Q w0 k0 X ops i its bl os o it:=
 clB h (fun w _=>hc w)
theorem cm (b:Nat) {f:FuncId} {args:Array Value} {c:List Value} (hc:∀ w,BelX k0 X w0 w→Calls P f args w (Ret fun e w'=>∃ k,Made w k c w'∧e=it.out.at (fun _=>k)))
 (h:∀ (μ:Nat→Nat) (w:World),((seen ops its os it.need i o,it.kind,(bl[b]?).map (·.before),it.out.blk),(execOp (ro ops its os it.need i μ) o).run P w)=((true,Kind.make b,some c,some b),.ok (.enter f args) w)):Cert P Q w0 k0 X ops i its bl os o it:=by
 intro μ a w K hK _ hbel
 have h0:=h μ w
 simp only[Prod.mk.injEq] at h0
 obtain ⟨⟨h1,h2,h3,h4⟩,h5⟩:=h0
 rw[h2]
 intro e hb hk
 rw[hb] at h3
 obtain rfl:e.before=c:=Option.some.inj h3
 unfold Oper.wp
 rw[exec_ro h1 hK,h5,Oper.upon_enter]
 refine (hc w hbel).mono ?_
 rintro r w' ⟨v',rfl,k,hm,rfl⟩
 have he:it.out.at (upd μ b k)=it.out.at (fun _=>k):=SV.at_congr fun b' hb'=>by
  rw[h4] at hb'
  obtain rfl:=Option.some.inj hb'
  unfold upd
  rw[if_pos rfl]
 have:=hk k w' hm
 rw[he] at this
 exact this
def canRead (ops:Array Oper) (i:Nat) (o:Oper) (bl:List Bl) (b:Nat):Bool:=match bl[b]? with
 | some e=>(match e.al with|none=>true|some j=>depB o j) && readB ops i e
 | none=>false
def ldv (ops:Array Oper) (its:List It) (bl:List Bl) (os:List (Tmp × SV)) (i:Nat) (o:Oper) (it:It) (T:TypeId) (n:Nat):Option SV:=
 match it.kind,o.op with
 | .stay,.load T' (.tmp t)=>match src ops its os it.need i t with
  | some (.p b off)=>match bl[b]? with
   | some e=>bif T' == T && e.al.isNone && readB ops i e && (off+n).ble e.before.length then some (.v (.agg ((e.before.drop off).take n).toArray)) else none
   | none=>none
  | _=>none
 | _,_=>none
theorem ld {T:TypeId} {n:Nat} (hu:(P.underlying T).map (·.isRow)=some true) (hi:(P.info? T).map (·.size)=some n) (h:ldv ops its bl os i o it T n=some it.out:=by kernel_rfl):Cert P Q w0 k0 X ops i its bl os o it:=by
 unfold ldv at h
 split at h
 ·rename_i T' t hk ho
  split at h
  ·rename_i b off hs
   split at h
   ·rename_i e hb
    cases hc:(T' == T && e.al.isNone && readB ops i e && (off+n).ble e.before.length) with
    | false=>rw[hc] at h;cases h
    | true =>
     rw[hc] at h
     have h':some (SV.v (.agg ((e.before.drop off).take n).toArray))=some it.out:=h
     simp only[Bool.and_eq_true,beq_iff_eq,Option.isNone_iff_eq_none,Nat.ble_eq] at hc
     obtain ⟨⟨⟨rfl,hal⟩,hr⟩,hle⟩:=hc
     have hlen:((e.before.drop off).take n).length=n:=by rw[List.length_take,List.length_drop];omega
     refine cert_load hk b off e hb hal hr T' t ho ((e.before.drop off).take n) (Option.some.inj h').symm (fun _ _ K=>src_eval hs K) ?_ hu (by rw[hlen];exact hi)
     rw[hlen]
   ·cases h
  ·cases h
 ·cases h
def ptv (ops:Array Oper) (its:List It) (bl:List Bl) (os:List (Tmp × SV)) (i:Nat) (o:Oper) (it:It) (T:TypeId) (n:Nat):Option (List Value):=
 match it.kind,o.op,o.dst with
 | .put b,.store T' (.tmp x) (.tmp y),none=>match src ops its os it.need i x,src ops its os it.need i y with
  | some (.p b' off),some (.v (.agg vs))=>match bl[b]? with
   | some e=>bif T' == T && b' == b && vs.size == n && (off+n).ble e.before.length && vs.toList.all (·.oneCell') then some (rep e.before off vs.toList) else none
   | none=>none
  | _,_=>none
 | _,_,_=>none
theorem pt {T:TypeId} {n:Nat} (hi:(P.info? T).map (·.size)=some n) (h:((ptv ops its bl os i o it T n).isSome,ptv ops its bl os i o it T n)=(true,match it.kind with | .put b=>(bl[b]?).map (·.after)|_=>none):=by kernel_rfl):Cert P Q w0 k0 X ops i its bl os o it:=by
 simp only[Prod.mk.injEq] at h
 obtain ⟨hso,h⟩:=h
 rw[h] at hso
 unfold ptv at h
 split at h
 ·rename_i b T' x y hk ho hdn
  rw[hk] at h hso
  dsimp only at h hso
  cases hb:bl[b]? with
  | none=>rw[hb] at hso;cases hso
  | some e =>
   rw[hb] at h
   split at h
   ·rename_i b' off vs hx hy
    dsimp only at h
    cases hc:(T' == T && b' == b && vs.size == n && (off+n).ble e.before.length && vs.toList.all (·.oneCell')) with
    | false=>rw[hc] at h;cases h
    | true =>
     rw[hc] at h
     have h':some (rep e.before off vs.toList)=some e.after:=h
     simp only[Bool.and_eq_true,beq_iff_eq,Nat.ble_eq] at hc
     obtain ⟨⟨⟨⟨rfl,rfl⟩,hn⟩,hle⟩,h1⟩:=hc
     have hlen:vs.toList.length=n:=by rw[Array.length_toList];exact hn
     refine cert_putAt b' off hk e hb T' (.tmp x) (.tmp y) vs.toList ho hdn (fun _ _ K=>src_eval hx K) (fun _ _ K=>?_) (by rw[hlen];exact hle) (fun j=>?_) (by rw[hlen];exact hi) h1
     ·rw[Array.toArray_toList];exact src_eval hy K
     ·rw[← Option.some.inj h',rep_at (by rw[hlen];exact hle)]
   ·cases h
 ·rw[← h] at hso;cases hso
def aft (pu:List (Nat × Nat × List Value)) (b:Nat) (c:List Value):List Value:=match pu.find? (fun x=>x.1 == b) with|some x=>x.2.2|none=>c
def sto (pu:List (Nat × Nat × List Value)) (b:Nat):Option Nat:=(pu.find? (fun x=>x.1 == b)).map (·.2.1)
def olB (pu:List (Nat × Nat × List Value)):Nat→List (List Value)→List Bl
 | _,[]=>[]
 | b,c :: r=>⟨c,aft pu b c,none,sto pu b⟩ :: olB pu (b+1) r
def mkB (pu:List (Nat × Nat × List Value)):Nat→List (Nat × List Value)→List Bl
 | _,[]=>[]
 | b,c :: r=>⟨c.2,aft pu b c.2,some c.1,sto pu b⟩ :: mkB pu (b+1) r
def bls (cs:List (List Value)) (mk:List (Nat × List Value)) (pu:List (Nat × Nat × List Value)):List Bl:=olB pu 0 cs++mkB pu cs.length mk
theorem olB_len (pu:List (Nat × Nat × List Value)):∀ (cs:List (List Value)) (b:Nat),(olB pu b cs).length=cs.length
 | [],_=>rfl
 | c :: r,b=>by rw[olB,List.length_cons,olB_len pu r,List.length_cons]
theorem mkB_len (pu:List (Nat × Nat × List Value)):∀ (cs:List (Nat × List Value)) (b:Nat),(mkB pu b cs).length=cs.length
 | [],_=>rfl
 | c :: r,b=>by rw[mkB,List.length_cons,mkB_len pu r,List.length_cons]
theorem olB_before (pu:List (Nat × Nat × List Value)):∀ (cs:List (List Value)) (b:Nat),(olB pu b cs).map (·.before)=cs
 | [],_=>rfl
 | c :: r,b=>by rw[olB,List.map_cons,olB_before pu r]
theorem mkB_before (pu:List (Nat × Nat × List Value)):∀ (cs:List (Nat × List Value)) (b:Nat),(mkB pu b cs).map (·.before)=cs.map (·.2)
 | [],_=>rfl
 | c :: r,b=>by rw[mkB,List.map_cons,mkB_before pu r,List.map_cons]
theorem olB_get (pu:List (Nat × Nat × List Value)):∀ (cs:List (List Value)) (b j:Nat) (e:Bl),(olB pu b cs)[j]? = some e→e.al=none∧e.after=aft pu (b+j) e.before∧e.st=sto pu (b+j)
 | [],_,_,_,h=>by simp[olB] at h
 | c :: r,b,0,e,h=>by
  rw[olB,List.getElem?_cons_zero] at h
  obtain rfl:=Option.some.inj h
  exact ⟨rfl,rfl,rfl⟩
 | c :: r,b,j+1,e,h=>by
  rw[olB,List.getElem?_cons_succ] at h
  have:=olB_get pu r (b+1) j e h
  rwa[show b+1+j=b+(j+1) by omega] at this
theorem mkB_get (pu:List (Nat × Nat × List Value)):∀ (cs:List (Nat × List Value)) (b j:Nat) (e:Bl),(mkB pu b cs)[j]? = some e→(∃ x∈cs,e.al=some x.1)∧e.after=aft pu (b+j) e.before∧e.st=sto pu (b+j)
 | [],_,_,_,h=>by simp[mkB] at h
 | c :: r,b,0,e,h=>by
  rw[mkB,List.getElem?_cons_zero] at h
  obtain rfl:=Option.some.inj h
  exact ⟨⟨c,List.mem_cons_self,rfl⟩,rfl,rfl⟩
 | c :: r,b,j+1,e,h=>by
  rw[mkB,List.getElem?_cons_succ] at h
  obtain ⟨⟨x,hx,h1⟩,h2⟩:=mkB_get pu r (b+1) j e h
  refine ⟨⟨x,List.mem_cons_of_mem _ hx,h1⟩,?_⟩
  rwa[show b+1+j=b+(j+1) by omega] at h2
variable {cs cs':List (List Value)} {mk:List (Nat × List Value)} {pu:List (Nat × Nat × List Value)} {ks:List Nat}
theorem bls_len:(bls cs mk pu).length=cs.length+mk.length:=by rw[bls,List.length_append,olB_len,mkB_len]
theorem bls_before:(bls cs mk pu).map (·.before)=cs++mk.map (·.2):=by rw[bls,List.map_append,olB_before,mkB_before]
theorem bls_get {b:Nat} {e:Bl} (h:(bls cs mk pu)[b]? = some e):e.after=aft pu b e.before∧e.st=sto pu b∧((b<cs.length∧e.al=none)∨(cs.length≤b∧∃ x∈mk,e.al=some x.1)):=by
 unfold bls at h
 by_cases hb:b<cs.length
 ·rw[List.getElem?_append_left (by rw[olB_len];exact hb)] at h
  have:=olB_get pu cs 0 b e h
  rw[Nat.zero_add] at this
  exact ⟨this.2.1,this.2.2,Or.inl ⟨hb,this.1⟩⟩
 ·rw[List.getElem?_append_right (by rw[olB_len];omega),olB_len] at h
  have:=mkB_get pu mk cs.length (b-cs.length) e h
  rw[show cs.length+(b-cs.length)=b by omega] at this
  exact ⟨this.2.1,this.2.2,Or.inr ⟨by omega,this.1⟩⟩
theorem bls_start:startB (bls cs mk pu) cs.length=true:=by
 simp only[startB,Bool.and_eq_true,decide_eq_true_eq]
 refine ⟨List.all_eq_true.2 fun x hx=>?_,by rw[bls_len];omega⟩
 rw[List.mem_zipIdx_iff_getElem?] at hx
 rcases (bls_get hx).2.2 with ⟨h1,h2⟩|⟨h1,y,-,h2⟩
 ·rw[h2];simp[h1]
 ·rw[h2];simp;omega
def inB (m:Nat) (mk:List (Nat × List Value)) (pu:List (Nat × Nat × List Value)):Bool:=mk.all (fun x=>x.1.blt m) && pu.all (fun x=>x.2.1.blt m)
theorem bls_end (h:inB its.length mk pu=true) (hl:pu.map (fun x=>x.2.2.length)=pu.map (fun x=>(((cs++mk.map (·.2))[x.1]?).getD []).length)) :
 (∀ e∈bls cs mk pu,∀ j,e.al=some j∨e.st=some j→j<its.length)∧∀ e∈bls cs mk pu,e.fin.length=e.before.length:=by
 simp only[inB,Bool.and_eq_true] at h
 refine ⟨fun e he j hj=>?_,fun e he=>?_⟩
 ·obtain ⟨b,hb⟩:=List.getElem?_of_mem he
  obtain ⟨h1,h2,h3⟩:=bls_get hb
  rcases hj with hj|hj
  ·rcases h3 with ⟨-,h4⟩|⟨-,x,hx,h4⟩
   ·rw[h4] at hj;cases hj
   ·rw[h4] at hj
    obtain rfl:=Option.some.inj hj
    have:=List.all_eq_true.1 h.1 x hx
    exact Nat.lt_of_succ_le (Nat.le_of_ble_eq_true this)
  ·rw[h2] at hj
   unfold sto at hj
   obtain ⟨x,hx,rfl⟩:=Option.map_eq_some_iff.1 hj
   have:=List.all_eq_true.1 h.2 x (List.mem_of_find?_eq_some hx)
   exact Nat.lt_of_succ_le (Nat.le_of_ble_eq_true this)
 ·obtain ⟨b,hb⟩:=List.getElem?_of_mem he
  obtain ⟨h1,h2,-⟩:=bls_get hb
  unfold Bl.fin
  rw[h2,h1]
  unfold sto aft
  cases hp:pu.find? (fun x=>x.1 == b) with
  | none=>rfl
  | some x =>
   show x.2.2.length=_
   have hm:=List.mem_of_find?_eq_some hp
   have hx:x.1=b:=by simpa using List.find?_some hp
   have h5:=List.map_inj_left.1 hl x hm
   rw[h5,← bls_before (pu:=pu),hx,List.getElem?_map,hb]
   rfl
def lk (its:List It) (os:List (Tmp × SV)) (t:Tmp):Option SV:=
 match its.find? (fun it=>it.dst == some t) with
 | some it=>some it.out
 | none=>(os.find? (fun x=>x.1 == t)).map (·.2)
structure M (w0:World) (k0:Nat) (X:List Nat) (n:Nat) (cs:List (List Value)) (ks:List Nat) (os:List (Tmp × SV)) (a:Act) (w:World):Prop where
 st:St w0 k0 X cs ks w
 sl:Sl a n
 os:Olds a (ad ks) os
def All:Nat→(List Nat→Prop)→Prop
 | 0,f=>f []
 | n+1,f=>∀ k:Nat,All n fun l=>f (k :: l)
theorem All.get:∀ {n:Nat} {f:List Nat→Prop},All n f→∀ l:List Nat,l.length=n→f l
 | 0,f,h,l,hl=>by rw[List.length_eq_zero_iff.1 hl];exact h
 | n+1,f,h,[],hl=>by simp at hl
 | n+1,f,h,k :: l,hl=>All.get (h k) l (by simpa using hl)
theorem at_more {s:SV} {new:List Nat} (h:∀ b,s.blk=some b→b<ks.length):s.at (ad (ks++new))=s.at (ad ks):=SV.at_congr fun b hb=>by
 unfold ad
 rw[List.getD_eq_getElem?_getD,List.getD_eq_getElem?_getD,List.getElem?_append_left (h b hb)]
theorem Olds.mk' {μ:Nat→Nat}:∀ {l:List (Tmp × SV)},(∀ x∈l,a.tmps[x.1]? = some (x.2.at μ))→Olds a μ l
 | [],_=>trivial
 | x :: r,h=>⟨h x List.mem_cons_self,Olds.mk' fun y hy=>h y (List.mem_cons_of_mem _ hy)⟩
theorem M.next {os':List (Tmp × SV)} {new:List Nat} {w':World} (h:M w0 k0 X n cs ks os a w) (hall:allB ops its (bls cs mk pu) os n=true) (hlk:(os'.map fun x=>lk its os x.1)=os'.map fun x=>some x.2)
 (hS:St w0 k0 X cs' (ks++new) w'):M w0 k0 X n cs' (ks++new) os' (puts (ad (ks++new)) its a) w':=by
 refine ⟨hS,h.sl.puts,Olds.mk' fun x hx=>?_⟩
 have h1:=List.map_inj_left.1 hlk x hx
 simp only[allB,Bool.and_eq_true,beq_iff_eq] at hall
 obtain ⟨⟨⟨⟨hsz,hd⟩,hold⟩,hin⟩,hok⟩:=hall
 unfold lk at h1
 cases hf:its.find? (fun it=>it.dst == some x.1) with
 | some it =>
  rw[hf] at h1
  have hm:=List.mem_of_find?_eq_some hf
  have hdt:it.dst=some x.1:=by simpa using List.find?_some hf
  obtain ⟨j,hj⟩:=List.getElem?_of_mem hm
  have hlt:=List.all_eq_true.1 hin it hm
  rw[hdt] at hlt
  have:=puts_same (ad (ks++new)) its a j it x.1 hd hj hdt (by rw[h.sl.size];simpa using hlt)
  rw[this,← Option.some.inj h1]
 | none =>
  rw[hf] at h1
  obtain ⟨y,hy,hyx⟩:=Option.map_eq_some_iff.1 h1
  have hm:=List.mem_of_find?_eq_some hy
  have hyt:y.1=x.1:=by simpa using List.find?_some hy
  have h2:=h.os.get y.1 y.2 hm
  rw[puts_other _ its a x.1 (fun it hit hdd=>by
   have:=List.find?_eq_none.1 hf it hit
   rw[hdd] at this
   simp at this),← hyt,h2,← hyx]
  congr 1
  refine (at_more fun b hb=>?_).symm
  have h3:=List.all_eq_true.1 hold y hm
  rw[hb] at h3
  dsimp only at h3
  cases he:(bls cs mk pu)[b]? with
  | none=>rw[he] at h3;cases h3
  | some e =>
   rw[he] at h3
   rcases (bls_get he).2.2 with ⟨h4,-⟩|⟨-,z,-,h5⟩
   ·rw[h.st.len];exact h4
   ·dsimp only at h3;rw[h5] at h3;simp at h3
theorem M.reg (h:M w0 k0 X n cs ks os a w) (hall:allB ops its (bls cs mk pu) os n=true) (hc:Certs P Q w0 k0 X ops its (bls cs mk pu) os 0 ops.toList its):Reg P ops Q w0 k0 X its (bls cs mk pu) os a (ad ks):=
 Reg.mk' (by rw[h.sl.size];exact hall) h.os hc
theorem bls_take:((bls cs mk pu).map (·.before)).take cs.length=cs:=by rw[bls_before,List.take_left'];rfl
theorem M.tx {id:Nat} (h:M w0 k0 X n cs ks os a w) (its:List It) (mk:List (Nat × List Value)) (pu:List (Nat × Nat × List Value)) (cs':List (List Value)) (os':List (Tmp × SV))
 (hk:(allB ops its (bls cs mk pu) os n && inB its.length mk pu,(bls cs mk pu).map Bl.fin,os'.map fun x=>lk its os x.1)=(true,cs',os'.map fun x=>some x.2))
 (hl:pu.map (fun x=>x.2.2.length)=pu.map (fun x=>(((cs++mk.map (·.2))[x.1]?).getD []).length))
 (hc:Certs P Q w0 k0 X ops its (bls cs mk pu) os 0 ops.toList its)
 (hp:All mk.length fun new=>∀ a' w',M w0 k0 X n cs' (ks++new) os' a' w'→Q .normal a' w'):(Code.region id ops false).wp P Q a w:=by
 simp only[Prod.mk.injEq,Bool.and_eq_true] at hk
 obtain ⟨⟨h1,h2⟩,h3,h4⟩:=hk
 refine region_text' h.st (h.reg h1 hc) bls_start bls_take (bls_end h2 hl) fun new w' hn hS=>?_
 rw[bls_len,Nat.add_sub_cancel_left] at hn
 exact hp.get new hn _ _ (h.next h1 h4 (h3 ▸ hS))
theorem M.dr {id:Nat} (h:M w0 k0 X n cs ks os a w) (hm:P.follows .mixedOrders=true) (its:List It) (mk:List (Nat × List Value)) (pu:List (Nat × Nat × List Value)) (cs':List (List Value)) (os':List (Tmp × SV))
 (hk:(allB ops its (bls cs mk pu) os n && inB its.length mk pu,(bls cs mk pu).map Bl.fin,os'.map fun x=>lk its os x.1)=(true,cs',os'.map fun x=>some x.2))
 (hl:pu.map (fun x=>x.2.2.length)=pu.map (fun x=>(((cs++mk.map (·.2))[x.1]?).getD []).length))
 (hc:Certs P Q w0 k0 X ops its (bls cs mk pu) os 0 ops.toList its)
 (hp:All mk.length fun new=>∀ a' w',M w0 k0 X n cs' (ks++new) os' a' w'→Q .normal a' w'):(Code.region id ops true).wp P Q a w:=by
 simp only[Prod.mk.injEq,Bool.and_eq_true] at hk
 obtain ⟨⟨h1,h2⟩,h3,h4⟩:=hk
 refine region_draws' hm h.st (h.reg h1 hc) bls_start bls_take (bls_end h2 hl) fun new w' hn hS=>?_
 rw[bls_len,Nat.add_sub_cancel_left] at hn
 exact hp.get new hn _ _ (h.next h1 h4 (h3 ▸ hS))
theorem bls_nil:(bls cs [] []).map Bl.fin=cs:=by
 have h:∀ (cs:List (List Value)) (b:Nat),(olB [] b cs).map Bl.fin=cs:=fun cs=>by
  induction cs with
  | nil=>intro _;rfl
  | cons c r ih=>intro b;rw[olB,List.map_cons,ih];rfl
 rw[bls,List.map_append,h]
 exact List.append_nil _
theorem M.tx0 {id:Nat} (h:M w0 k0 X n cs ks os a w) (its:List It) (os':List (Tmp × SV)) (hk:(allB ops its (bls cs [] []) os n,os'.map fun x=>lk its os x.1)=(true,os'.map fun x=>some x.2))
 (hc:Certs P Q w0 k0 X ops its (bls cs [] []) os 0 ops.toList its) (hp:∀ a' w',M w0 k0 X n cs ks os' a' w'→Q .normal a' w'):(Code.region id ops false).wp P Q a w:=by
 simp only[Prod.mk.injEq] at hk
 refine h.tx its [] [] cs os' (by simp only[hk.1,hk.2,bls_nil];rfl) rfl hc (fun a' w' hM=>hp a' w' ?_)
 rwa[List.append_nil] at hM
theorem M.t {id:Nat} (h:M w0 k0 X n cs ks os a w) (its:List It) (mk:List (Nat × List Value)) (pu:List (Nat × Nat × List Value)) (cs':List (List Value)) (os':List (Tmp × SV)) (hc:Certs P Q w0 k0 X ops its (bls cs mk pu) os 0 ops.toList its) (hp:All mk.length fun new=>∀ a' w',M w0 k0 X n cs' (ks++new) os' a' w'→Q .normal a' w') (hk:(allB ops its (bls cs mk pu) os n && inB its.length mk pu,(bls cs mk pu).map Bl.fin,os'.map fun x=>lk its os x.1)=(true,cs',os'.map fun x=>some x.2):=by kernel_rfl) (hl:pu.map (fun x=>x.2.2.length)=pu.map (fun x=>(((cs++mk.map (·.2))[x.1]?).getD []).length):=by kernel_rfl):(Code.region id ops false).wp P Q a w:=h.tx its mk pu cs' os' hk hl hc hp
theorem M.d {id:Nat} (h:M w0 k0 X n cs ks os a w) (its:List It) (mk:List (Nat × List Value)) (pu:List (Nat × Nat × List Value)) (cs':List (List Value)) (os':List (Tmp × SV)) (hc:Certs P Q w0 k0 X ops its (bls cs mk pu) os 0 ops.toList its) (hp:All mk.length fun new=>∀ a' w',M w0 k0 X n cs' (ks++new) os' a' w'→Q .normal a' w') (hk:(allB ops its (bls cs mk pu) os n && inB its.length mk pu,(bls cs mk pu).map Bl.fin,os'.map fun x=>lk its os x.1)=(true,cs',os'.map fun x=>some x.2):=by kernel_rfl) (hl:pu.map (fun x=>x.2.2.length)=pu.map (fun x=>(((cs++mk.map (·.2))[x.1]?).getD []).length):=by kernel_rfl) (hm:P.follows .mixedOrders=true:=by kernel_rfl):(Code.region id ops true).wp P Q a w:=h.dr hm its mk pu cs' os' hk hl hc hp
theorem M.u {id:Nat} (h:M w0 k0 X n cs ks os a w) (its:List It) (os':List (Tmp × SV)) (hc:Certs P Q w0 k0 X ops its (bls cs [] []) os 0 ops.toList its) (hp:∀ a' w',M w0 k0 X n cs ks os' a' w'→Q .normal a' w') (hk:(allB ops its (bls cs [] []) os n,os'.map fun x=>lk its os x.1)=(true,os'.map fun x=>some x.2):=by kernel_rfl):(Code.region id ops false).wp P Q a w:=h.tx0 its os' hk hc hp
theorem M.at (h:M w0 k0 X n cs ks os a w) {t:Tmp} {s:SV} (hs:(os.find? (fun x=>x.1 == t)).map (·.2)=some s:=by kernel_rfl):a.tmps[t]? = some (s.at (ad ks)):=by
 obtain ⟨y,hy,rfl⟩:=Option.map_eq_some_iff.1 hs
 have hyt:y.1=t:=by simpa using List.find?_some hy
 rw[← hyt]
 exact h.os.get y.1 y.2 (List.mem_of_find?_eq_some hy)
theorem St.made {w w':World} {cs:List (List Value)} {ks:List Nat} (h:St w w.heap.size [] cs ks w') {b:Nat} {c:List Value} (hb:cs[b]? = some c):Made w (ad ks b) c w':=by
 obtain ⟨h1,h2,h3,h4⟩:=h.has b c hb
 exact ⟨h.bel.below,h4.elim id (fun h=>absurd h List.not_mem_nil),h3,h1,h2⟩
theorem M.av (h:M w0 k0 X n cs ks os a w) {t:Tmp} {v:Value} (hs:(os.find? (fun x=>x.1 == t)).map (·.2)=some (.v v):=by kernel_rfl):a.tmps[t]? = some v:=h.at hs
theorem M.ev (h:M w0 k0 X n cs ks os a w) {t:Tmp} {v:Value} (hs:(os.find? (fun x=>x.1 == t)).map (·.2)=some (.v v):=by kernel_rfl):a.eval (.tmp t)=v:=eval_of (h.at hs)
theorem M.enter {c:Code} (os:List (Tmp × SV)) (n:Nat) (h:(os.map fun x=>a.tmps[x.1]?,a.tmps.size,a.defers)=(os.map fun x=>some (x.2.at (ad [])),n,[])) (hp:∀ a,M w w.heap.size [] n [] [] os a w→c.wp P Q a w):c.wp P Q a w:=by
 simp only[Prod.mk.injEq] at h
 exact hp a ⟨St.begin w,⟨h.2.1,h.2.2⟩,Olds.mk' fun x hx=>List.map_inj_left.1 h.1 x hx⟩
abbrev z (n:Nat):List Value:=List.replicate n (.int .u64 0)
def It.s (d:Tmp) (need:List (Tmp × Nat)) (out:SV):It:=⟨some d,need,out,.stay⟩
def It.x (d:Tmp) (need:List (Tmp × Nat)) (v:Value):It:=⟨some d,need,.v v,.stay⟩
def It.c (d:Tmp) (need:List (Tmp × Nat)) (v:Value):It:=⟨some d,need,.v v,.call⟩
def It.m (d:Tmp) (need:List (Tmp × Nat)) (b:Nat):It:=⟨some d,need,.p b 0,.make b⟩
def It.u (need:List (Tmp × Nat)) (b:Nat):It:=⟨none,need,.v undef,.put b⟩
end RG
section
open Go.RowKit Go.Sort
variable {P:Nat} [NeZero P] {N:Nat}
omit [NeZero P] in
theorem Gives.e {f:FuncId} {args:Array Value} {x c:Fin P} (h:Gives f args (fv x)) (e:c=x):Gives f args (fv c):=e ▸ h
omit [NeZero P] in
theorem Gives.e3 {f:FuncId} {args:Array Value} {x y z a b c:Fin P} (h:Gives f args (rv x y z)) (e:a=x) (e':b=y) (e'':c=z):Gives f args (rv a b c):=e ▸ e' ▸ e'' ▸ h
theorem eqW (a b c d p q r s:Int) (w:World):(binOp .eql 100 (.agg #[.int .u64 a,.int .u64 b,.int .u64 c,.int .u64 d]) (.agg #[.int .u64 p,.int .u64 q,.int .u64 r,.int .u64 s])).run Tryd.prog w=.ok (.bool (decide (a=p∧b=q∧c=r∧d=s))) w:=by
 go_simp
 by_cases h0:a=p<;>by_cases h1:b=q<;>by_cases h2:c=r<;>by_cases h3:d=s<;>simp[h0,h1,h2,h3]
theorem wn_inj {m n:Nat} (hm:m<top) (hn:n<top):(m%18446744073709551616=n%18446744073709551616∧m/18446744073709551616%18446744073709551616=n/18446744073709551616%18446744073709551616∧m/340282366920938463463374607431768211456%18446744073709551616=n/340282366920938463463374607431768211456%18446744073709551616∧m/6277101735386680763835789423207666416102355444464034512896%18446744073709551616=n/6277101735386680763835789423207666416102355444464034512896%18446744073709551616)↔m=n:=by
 constructor
 ·rintro ⟨h0,h1,h2,h3⟩
  unfold top at hm hn
  omega
 ·rintro rfl
  exact ⟨rfl,rfl,rfl,rfl⟩
theorem eqC (h:Fld P) (x y:Fin P) (w:World):(binOp .eql 100 (fv x) (fv y)).run Tryd.prog w=.ok (.bool (decide (x=y))) w:=by
 have h1:=eqW ((x.val%18446744073709551616:Nat):Int) ((x.val/18446744073709551616%18446744073709551616:Nat):Int) ((x.val/340282366920938463463374607431768211456%18446744073709551616:Nat):Int) ((x.val/6277101735386680763835789423207666416102355444464034512896%18446744073709551616:Nat):Int) ((y.val%18446744073709551616:Nat):Int) ((y.val/18446744073709551616%18446744073709551616:Nat):Int) ((y.val/340282366920938463463374607431768211456%18446744073709551616:Nat):Int) ((y.val/6277101735386680763835789423207666416102355444464034512896%18446744073709551616:Nat):Int) w
 refine h1.trans ?_
 have h2:=wn_inj (h.top x) (h.top y)
 simp only[Int.ofNat_inj,h2,← Fin.ext_iff]
theorem eqC_t (h:Fld P) {x y:Fin P} (e:x=y) (w:World):(binOp .eql 100 (fv x) (fv y)).run Tryd.prog w=.ok (.bool true) w:=by rw[eqC h,decide_eq_true e]
theorem eqC_f (h:Fld P) {x y:Fin P} (e:¬ x=y) (w:World):(binOp .eql 100 (fv x) (fv y)).run Tryd.prog w=.ok (.bool false) w:=by rw[eqC h,decide_eq_false e]
theorem eqPt2 (a b c d p q r s a' b' c' d' p' q' r' s':Nat) (w:World):(binOp .eql 53 (.agg #[.int .u64 a,.int .u64 b,.int .u64 c,.int .u64 d,.int .u64 a',.int .u64 b',.int .u64 c',.int .u64 d']) (.agg #[.int .u64 p,.int .u64 q,.int .u64 r,.int .u64 s,.int .u64 p',.int .u64 q',.int .u64 r',.int .u64 s'])).run Tryd.prog w=.ok (.bool (decide (a=p∧b=q∧c=r∧d=s) && decide (a'=p'∧b'=q'∧c'=r'∧d'=s'))) w:=by
 go_simp
 rw[eqP_d 9997,Result.andThen_ok]
 by_cases h1:a=p∧b=q∧c=r∧d=s
 ·rw[decide_eq_true h1]
  simp only[Bool.true_eq_false,if_false]
  rw[eqP_d 9997,Result.andThen_ok]
  by_cases h2:a'=p'∧b'=q'∧c'=r'∧d'=s'
  ·rw[decide_eq_true h2]
   simp[h1.1,h1.2.1,h1.2.2.1,h1.2.2.2,h2.1,h2.2.1,h2.2.2.1,h2.2.2.2]
  ·rw[decide_eq_false h2]
   simp only[if_true,Result.andThen_ok]
   have h3:(decide (a'=p') && (decide (b'=q') && (decide (c'=r') && decide (d'=s'))))=false:=by simpa using h2
   rw[h3,Bool.and_false]
 ·rw[decide_eq_false h1]
  simp only[if_true,Result.andThen_ok]
  have h3:(decide (a=p) && (decide (b=q) && (decide (c=r) && decide (d=s))))=false:=by simpa using h1
  rw[h3,Bool.false_and]
theorem eqPt (h:Fld P) (x y z t:Fin P) (w:World):(binOp .eql 53 (pv x y) (pv z t)).run Tryd.prog w=.ok (.bool (decide (x=z∧y=t))) w:=by
 refine (eqPt2 (x.val%18446744073709551616) (x.val/18446744073709551616%18446744073709551616) (x.val/340282366920938463463374607431768211456%18446744073709551616) (x.val/6277101735386680763835789423207666416102355444464034512896%18446744073709551616) (z.val%18446744073709551616) (z.val/18446744073709551616%18446744073709551616) (z.val/340282366920938463463374607431768211456%18446744073709551616) (z.val/6277101735386680763835789423207666416102355444464034512896%18446744073709551616) (y.val%18446744073709551616) (y.val/18446744073709551616%18446744073709551616) (y.val/340282366920938463463374607431768211456%18446744073709551616) (y.val/6277101735386680763835789423207666416102355444464034512896%18446744073709551616) (t.val%18446744073709551616) (t.val/18446744073709551616%18446744073709551616) (t.val/340282366920938463463374607431768211456%18446744073709551616) (t.val/6277101735386680763835789423207666416102355444464034512896%18446744073709551616) w).trans ?_
 simp only[wn_inj (h.top x) (h.top z),wn_inj (h.top y) (h.top t),← Fin.ext_iff,Bool.decide_and]
theorem eqPt_t (h:Fld P) {x y z t:Fin P} (e:x=z∧y=t) (w:World):(binOp .eql 53 (pv x y) (pv z t)).run Tryd.prog w=.ok (.bool true) w:=by rw[eqPt h,decide_eq_true e]
theorem eqPt_f (h:Fld P) {x y z t:Fin P} (e:¬ (x=z∧y=t)) (w:World):(binOp .eql 53 (pv x y) (pv z t)).run Tryd.prog w=.ok (.bool false) w:=by rw[eqPt h,decide_eq_false e]
theorem u115:(Tryd.prog.underlying 100).map (·.isRow)=some true:=by kernel_rfl
theorem i115:(Tryd.prog.info? 100).map (·.size)=some 4:=by kernel_rfl
theorem u85:(Tryd.prog.underlying 44).map (·.isRow)=some true:=by kernel_rfl
theorem i85:(Tryd.prog.info? 44).map (·.size)=some 4:=by kernel_rfl
theorem u117:(Tryd.prog.underlying 102).map (·.isRow)=some true:=by kernel_rfl
theorem i117:(Tryd.prog.info? 102).map (·.size)=some 12:=by kernel_rfl
theorem u109:(Tryd.prog.underlying 53).map (·.isRow)=some true:=by kernel_rfl
theorem i109:(Tryd.prog.info? 53).map (·.size)=some 8:=by kernel_rfl
theorem u79:(Tryd.prog.underlying 94).map (·.isRow)=some true:=by kernel_rfl
theorem i79:(Tryd.prog.info? 94).map (·.size)=some 4:=by kernel_rfl
theorem CTimes_c (C:Fld P) (x y:Fin P):Gives 65 #[(fv x),(fv y)] (fv (x*y)):=by
 intro w
 obtain ⟨c1,hc1⟩:∃ c,c=x*y:=⟨_,rfl⟩
 have hfin:((fv c1):Value)=(fv (x*y)):=by
  subst_vars;rfl
 rw[← hfin]
 go_enter Tryd.func65,Tryd.ntmps65
 refine RG.M.enter [(0,(.v (fv x))),(1,(.v (fv y)))] 9 (by kernel_rfl) ?_
 intro a0 M0
 repeat refine wp_seq ?_
 refine M0.t [.m 2 [] 0,.m 3 [] 1,.m 4 [] 2] [(0,(ws x)),(1,(ws y)),(2,(RG.z 4))] [] [(ws x),(ws y),(RG.z 4)] [(2,(.p 0 0)),(3,(.p 1 0)),(4,(.p 2 0))] ⟨RG.mk 0 100,RG.mk 1 100,RG.mk 2 100,trivial⟩ ?_
 intro j1 i1 m1 a1 w1 M1
 repeat refine wp_seq ?_
 refine M1.d [.c 5 [] gv0,.x 6 [] (fv x),.x 7 [] (fv y),.c 8 [(5,0),(6,1),(7,2)] (fv c1),.u [(8,3)] 2] [] [(2,4,(ws c1))] [(ws x),(ws y),(ws c1)] [(4,(.p 2 0))] ⟨RG.cl (Coordinates_c),RG.ld u115 i115,RG.ld u115 i115,RG.cl ((product_c C x y).e hc1),RG.pt i115,trivial⟩ ?_
 intro a2 w2 M2
 refine wp_ret ?_
 refine bodyPost_ret (v:=(fv c1)) (RG.results_row M2.st 4 100 rfl 2 _ rfl (M2.at (s:=(.p 2 0))) u115 i115) M2.sl.defers ?_
 exact ⟨_,rfl,M2.st.bel.below,rfl⟩
theorem CPlus_c (C:Fld P) (x y:Fin P):Gives 67 #[(fv x),(fv y)] (fv (x+y)):=by
 intro w
 obtain ⟨c1,hc1⟩:∃ c,c=x+y:=⟨_,rfl⟩
 have hfin:((fv c1):Value)=(fv (x+y)):=by
  subst_vars;rfl
 rw[← hfin]
 go_enter Tryd.func67,Tryd.ntmps67
 refine RG.M.enter [(0,(.v (fv x))),(1,(.v (fv y)))] 9 (by kernel_rfl) ?_
 intro a0 M0
 repeat refine wp_seq ?_
 refine M0.t [.m 2 [] 0,.m 3 [] 1,.m 4 [] 2] [(0,(ws x)),(1,(ws y)),(2,(RG.z 4))] [] [(ws x),(ws y),(RG.z 4)] [(2,(.p 0 0)),(3,(.p 1 0)),(4,(.p 2 0))] ⟨RG.mk 0 100,RG.mk 1 100,RG.mk 2 100,trivial⟩ ?_
 intro j1 i1 m1 a1 w1 M1
 repeat refine wp_seq ?_
 refine M1.d [.c 5 [] gv0,.x 6 [] (fv x),.x 7 [] (fv y),.c 8 [(5,0),(6,1),(7,2)] (fv c1),.u [(8,3)] 2] [] [(2,4,(ws c1))] [(ws x),(ws y),(ws c1)] [(4,(.p 2 0))] ⟨RG.cl (Coordinates_c),RG.ld u115 i115,RG.ld u115 i115,RG.cl ((sum_c C x y).e hc1),RG.pt i115,trivial⟩ ?_
 intro a2 w2 M2
 refine wp_ret ?_
 refine bodyPost_ret (v:=(fv c1)) (RG.results_row M2.st 4 100 rfl 2 _ rfl (M2.at (s:=(.p 2 0))) u115 i115) M2.sl.defers ?_
 exact ⟨_,rfl,M2.st.bel.below,rfl⟩
theorem CMinus_c (C:Fld P) (x y:Fin P):Gives 68 #[(fv x),(fv y)] (fv (x-y)):=by
 intro w
 obtain ⟨c1,hc1⟩:∃ c,c=x-y:=⟨_,rfl⟩
 have hfin:((fv c1):Value)=(fv (x-y)):=by
  subst_vars;rfl
 rw[← hfin]
 go_enter Tryd.func68,Tryd.ntmps68
 refine RG.M.enter [(0,(.v (fv x))),(1,(.v (fv y)))] 9 (by kernel_rfl) ?_
 intro a0 M0
 repeat refine wp_seq ?_
 refine M0.t [.m 2 [] 0,.m 3 [] 1,.m 4 [] 2] [(0,(ws x)),(1,(ws y)),(2,(RG.z 4))] [] [(ws x),(ws y),(RG.z 4)] [(2,(.p 0 0)),(3,(.p 1 0)),(4,(.p 2 0))] ⟨RG.mk 0 100,RG.mk 1 100,RG.mk 2 100,trivial⟩ ?_
 intro j1 i1 m1 a1 w1 M1
 repeat refine wp_seq ?_
 refine M1.d [.c 5 [] gv0,.x 6 [] (fv x),.x 7 [] (fv y),.c 8 [(5,0),(6,1),(7,2)] (fv c1),.u [(8,3)] 2] [] [(2,4,(ws c1))] [(ws x),(ws y),(ws c1)] [(4,(.p 2 0))] ⟨RG.cl (Coordinates_c),RG.ld u115 i115,RG.ld u115 i115,RG.cl ((difference_c C x y).e hc1),RG.pt i115,trivial⟩ ?_
 intro a2 w2 M2
 refine wp_ret ?_
 refine bodyPost_ret (v:=(fv c1)) (RG.results_row M2.st 4 100 rfl 2 _ rfl (M2.at (s:=(.p 2 0))) u115 i115) M2.sl.defers ?_
 exact ⟨_,rfl,M2.st.bel.below,rfl⟩
theorem Coord_c (C:Fld P) (x:Fin P):Gives 73 #[(fv x)] (fv x):=by
 intro w
 go_enter Tryd.func73,Tryd.ntmps73
 refine RG.M.enter [(0,(.v (fv x)))] 5 (by kernel_rfl) ?_
 intro a0 M0
 repeat refine wp_seq ?_
 refine M0.t [.m 1 [] 0,.m 2 [] 1] [(0,(ws x)),(1,(RG.z 4))] [] [(ws x),(RG.z 4)] [(1,(.p 0 0)),(2,(.p 1 0))] ⟨RG.mk 0 44,RG.mk 1 100,trivial⟩ ?_
 intro j1 i1 a1 w1 M1
 repeat refine wp_seq ?_
 refine M1.t [.x 3 [] (fv x),.c 4 [(3,0)] (fv x),.u [(4,1)] 1] [] [(1,2,(ws x))] [(ws x),(ws x)] [(2,(.p 1 0))] ⟨RG.ld u85 i85,RG.cl (four_c C x),RG.pt i115,trivial⟩ ?_
 intro a2 w2 M2
 refine wp_ret ?_
 refine bodyPost_ret (v:=(fv x)) (RG.results_row M2.st 2 100 rfl 1 _ rfl (M2.at (s:=(.p 1 0))) u115 i115) M2.sl.defers ?_
 exact ⟨_,rfl,M2.st.bel.below,rfl⟩
theorem Numb_c (C:Fld P) (x:Fin P):Gives 72 #[(fv x)] (fv x):=by
 intro w
 go_enter Tryd.func72,Tryd.ntmps72
 refine RG.M.enter [(0,(.v (fv x)))] 5 (by kernel_rfl) ?_
 intro a0 M0
 repeat refine wp_seq ?_
 refine M0.t [.m 1 [] 0,.m 2 [] 1] [(0,(ws x)),(1,(RG.z 4))] [] [(ws x),(RG.z 4)] [(1,(.p 0 0)),(2,(.p 1 0))] ⟨RG.mk 0 100,RG.mk 1 44,trivial⟩ ?_
 intro j1 i1 a1 w1 M1
 repeat refine wp_seq ?_
 refine M1.t [.x 3 [] (fv x),.c 4 [(3,0)] (fv x),.u [(4,1)] 1] [] [(1,2,(ws x))] [(ws x),(ws x)] [(2,(.p 1 0))] ⟨RG.ld u115 i115,RG.cl (number_c C x),RG.pt i85,trivial⟩ ?_
 intro a2 w2 M2
 refine wp_ret ?_
 refine bodyPost_ret (v:=(fv x)) (RG.results_row M2.st 2 44 rfl 1 _ rfl (M2.at (s:=(.p 1 0))) u85 i85) M2.sl.defers ?_
 exact ⟨_,rfl,M2.st.bel.below,rfl⟩
theorem double_c (C:Fld P) (x:Fin P):Gives 66 #[(fv x)] (fv (EC.dbl x)):=by
 intro w
 obtain ⟨c1,hc1⟩:∃ c,c=x+x:=⟨_,rfl⟩
 have hfin:((fv c1):Value)=(fv (EC.dbl x)):=by
  subst_vars;rfl
 rw[← hfin]
 go_enter Tryd.func66,Tryd.ntmps66
 refine RG.M.enter [(0,(.v (fv x)))] 6 (by kernel_rfl) ?_
 intro a0 M0
 repeat refine wp_seq ?_
 refine M0.t [.m 1 [] 0,.m 2 [] 1] [(0,(ws x)),(1,(RG.z 4))] [] [(ws x),(RG.z 4)] [(1,(.p 0 0)),(2,(.p 1 0))] ⟨RG.mk 0 100,RG.mk 1 100,trivial⟩ ?_
 intro j1 i1 a1 w1 M1
 repeat refine wp_seq ?_
 refine M1.t [.x 3 [] (fv x),.x 4 [] (fv x),.c 5 [(3,0),(4,1)] (fv c1),.u [(5,2)] 1] [] [(1,3,(ws c1))] [(ws x),(ws c1)] [(2,(.p 1 0))] ⟨RG.ld u115 i115,RG.ld u115 i115,RG.cl ((CPlus_c C x x).e hc1),RG.pt i115,trivial⟩ ?_
 intro a2 w2 M2
 refine wp_ret ?_
 refine bodyPost_ret (v:=(fv c1)) (RG.results_row M2.st 2 100 rfl 1 _ rfl (M2.at (s:=(.p 1 0))) u115 i115) M2.sl.defers ?_
 exact ⟨_,rfl,M2.st.bel.below,rfl⟩
theorem twice_c (C:Fld P) (x y z:Fin P):Gives 46 #[(rv x y z)] (rv (EC.twX x y) (EC.twY x y) (EC.twZ y z)):=by
 intro w
 obtain ⟨c1,hc1⟩:∃ c,c=x*x:=⟨_,rfl⟩
 obtain ⟨c2,hc2⟩:∃ c,c=y*y:=⟨_,rfl⟩
 obtain ⟨c3,hc3⟩:∃ c,c=x*c2:=⟨_,rfl⟩
 obtain ⟨c4,hc4⟩:∃ c,c=EC.dbl c3:=⟨_,rfl⟩
 obtain ⟨c5,hc5⟩:∃ c,c=EC.dbl c4:=⟨_,rfl⟩
 obtain ⟨c6,hc6⟩:∃ c,c=EC.dbl c1:=⟨_,rfl⟩
 obtain ⟨c7,hc7⟩:∃ c,c=c6+c1:=⟨_,rfl⟩
 obtain ⟨c8,hc8⟩:∃ c,c=c7*c7:=⟨_,rfl⟩
 obtain ⟨c9,hc9⟩:∃ c,c=EC.dbl c5:=⟨_,rfl⟩
 obtain ⟨c10,hc10⟩:∃ c,c=c8-c9:=⟨_,rfl⟩
 obtain ⟨c11,hc11⟩:∃ c,c=c5-c10:=⟨_,rfl⟩
 obtain ⟨c12,hc12⟩:∃ c,c=c7*c11:=⟨_,rfl⟩
 obtain ⟨c13,hc13⟩:∃ c,c=c2*c2:=⟨_,rfl⟩
 obtain ⟨c14,hc14⟩:∃ c,c=EC.dbl c13:=⟨_,rfl⟩
 obtain ⟨c15,hc15⟩:∃ c,c=EC.dbl c14:=⟨_,rfl⟩
 obtain ⟨c16,hc16⟩:∃ c,c=EC.dbl c15:=⟨_,rfl⟩
 obtain ⟨c17,hc17⟩:∃ c,c=c12-c16:=⟨_,rfl⟩
 obtain ⟨c18,hc18⟩:∃ c,c=y*z:=⟨_,rfl⟩
 obtain ⟨c19,hc19⟩:∃ c,c=EC.dbl c18:=⟨_,rfl⟩
 have hfin:((rv c10 c17 c19):Value)=(rv (EC.twX x y) (EC.twY x y) (EC.twZ y z)):=by
  subst_vars;rfl
 rw[← hfin]
 go_enter Tryd.func46,Tryd.ntmps46
 refine RG.M.enter [(0,(.v (rv x y z)))] 56 (by kernel_rfl) ?_
 intro a0 M0
 repeat refine wp_seq ?_
 refine M0.t [.m 1 [] 0,.m 2 [] 1] [(0,(ws x++(ws y++(ws z)))),(1,(RG.z 12))] [] [(ws x++(ws y++(ws z))),(RG.z 12)] [(1,(.p 0 0)),(2,(.p 1 0))] ⟨RG.mk 0 102,RG.mk 1 102,trivial⟩ ?_
 intro j1 i1 a1 w1 M1
 repeat refine wp_seq ?_
 refine M1.d [.s 9 [] (.p 0 0),.x 10 [(9,0)] (fv x),.s 11 [] (.p 0 0),.x 12 [(11,2)] (fv x),.c 13 [(10,1),(12,3)] (fv c1),.s 14 [] (.p 0 4),.x 15 [(14,5)] (fv y),.s 16 [] (.p 0 4),.x 17 [(16,7)] (fv y),.c 18 [(15,6),(17,8)] (fv c2),.m 3 [] 2,.m 4 [] 3,.u [(3,10),(13,4)] 2,.u [(4,11),(18,9)] 3] [(10,(RG.z 4)),(11,(RG.z 4))] [(2,12,(ws c1)),(3,13,(ws c2))] [(ws x++(ws y++(ws z))),(RG.z 12),(ws c1),(ws c2)] [(1,(.p 0 0)),(2,(.p 1 0)),(3,(.p 2 0)),(4,(.p 3 0))] ⟨RG.st,RG.ld u115 i115,RG.st,RG.ld u115 i115,RG.cl ((CTimes_c C x x).e hc1),RG.st,RG.ld u115 i115,RG.st,RG.ld u115 i115,RG.cl ((CTimes_c C y y).e hc2),RG.mk 2 100,RG.mk 3 100,RG.pt i115,RG.pt i115,trivial⟩ ?_
 intro j2 i2 a2 w2 M2
 repeat refine wp_seq ?_
 refine M2.t [.s 19 [] (.p 0 0),.x 20 [(19,0)] (fv x),.x 21 [] (fv c2),.c 22 [(20,1),(21,2)] (fv c3),.c 23 [(22,3)] (fv c4),.c 24 [(23,4)] (fv c5),.m 5 [] 4,.u [(5,6),(24,5)] 4] [(6,(RG.z 4))] [(4,7,(ws c5))] [(ws x++(ws y++(ws z))),(RG.z 12),(ws c1),(ws c2),(ws c5)] [(1,(.p 0 0)),(2,(.p 1 0)),(3,(.p 2 0)),(4,(.p 3 0)),(5,(.p 4 0))] ⟨RG.st,RG.ld u115 i115,RG.ld u115 i115,RG.cl ((CTimes_c C x c2).e hc3),RG.cl ((double_c C c3).e hc4),RG.cl ((double_c C c4).e hc5),RG.mk 4 100,RG.pt i115,trivial⟩ ?_
 intro j3 a3 w3 M3
 repeat refine wp_seq ?_
 refine M3.d [.x 25 [] (fv c1),.c 26 [(25,0)] (fv c6),.x 27 [] (fv c1),.c 28 [(26,1),(27,2)] (fv c7),.m 6 [] 5,.u [(6,4),(28,3)] 5] [(4,(RG.z 4))] [(5,5,(ws c7))] [(ws x++(ws y++(ws z))),(RG.z 12),(ws c1),(ws c2),(ws c5),(ws c7)] [(1,(.p 0 0)),(2,(.p 1 0)),(4,(.p 3 0)),(5,(.p 4 0)),(6,(.p 5 0))] ⟨RG.ld u115 i115,RG.cl ((double_c C c1).e hc6),RG.ld u115 i115,RG.cl ((CPlus_c C c6 c1).e hc7),RG.mk 5 100,RG.pt i115,trivial⟩ ?_
 intro j4 a4 w4 M4
 repeat refine wp_seq ?_
 refine M4.d [.x 29 [] (fv c7),.x 30 [] (fv c7),.c 31 [(29,0),(30,1)] (fv c8),.x 32 [] (fv c5),.c 33 [(32,3)] (fv c9),.c 34 [(31,2),(33,4)] (fv c10),.m 7 [] 6,.u [(7,6),(34,5)] 6] [(6,(RG.z 4))] [(6,7,(ws c10))] [(ws x++(ws y++(ws z))),(RG.z 12),(ws c1),(ws c2),(ws c5),(ws c7),(ws c10)] [(1,(.p 0 0)),(2,(.p 1 0)),(4,(.p 3 0)),(5,(.p 4 0)),(6,(.p 5 0)),(7,(.p 6 0))] ⟨RG.ld u115 i115,RG.ld u115 i115,RG.cl ((CTimes_c C c7 c7).e hc8),RG.ld u115 i115,RG.cl ((double_c C c5).e hc9),RG.cl ((CMinus_c C c8 c9).e hc10),RG.mk 6 100,RG.pt i115,trivial⟩ ?_
 intro j5 a5 w5 M5
 repeat refine wp_seq ?_
 refine M5.d [.x 35 [] (fv c7),.x 36 [] (fv c5),.x 37 [] (fv c10),.c 38 [(36,1),(37,2)] (fv c11),.c 39 [(35,0),(38,3)] (fv c12),.x 40 [] (fv c2),.x 41 [] (fv c2),.c 42 [(40,5),(41,6)] (fv c13),.c 43 [(42,7)] (fv c14),.c 44 [(43,8)] (fv c15),.c 45 [(44,9)] (fv c16),.c 46 [(39,4),(45,10)] (fv c17),.m 8 [] 7,.u [(8,12),(46,11)] 7] [(12,(RG.z 4))] [(7,13,(ws c17))] [(ws x++(ws y++(ws z))),(RG.z 12),(ws c1),(ws c2),(ws c5),(ws c7),(ws c10),(ws c17)] [(1,(.p 0 0)),(2,(.p 1 0)),(7,(.p 6 0)),(8,(.p 7 0))] ⟨RG.ld u115 i115,RG.ld u115 i115,RG.ld u115 i115,RG.cl ((CMinus_c C c5 c10).e hc11),RG.cl ((CTimes_c C c7 c11).e hc12),RG.ld u115 i115,RG.ld u115 i115,RG.cl ((CTimes_c C c2 c2).e hc13),RG.cl ((double_c C c13).e hc14),RG.cl ((double_c C c14).e hc15),RG.cl ((double_c C c15).e hc16),RG.cl ((CMinus_c C c12 c16).e hc17),RG.mk 7 100,RG.pt i115,trivial⟩ ?_
 intro j6 a6 w6 M6
 repeat refine wp_seq ?_
 refine M6.d [.x 47 [] (fv c10),.x 48 [] (fv c17),.s 49 [] (.p 0 4),.x 50 [(49,2)] (fv y),.s 51 [] (.p 0 8),.x 52 [(51,4)] (fv z),.c 53 [(50,3),(52,5)] (fv c18),.c 54 [(53,6)] (fv c19),.x 55 [(47,0),(48,1),(54,7)] (rv c10 c17 c19),.u [(55,8)] 1] [] [(1,9,(ws c10++(ws c17++(ws c19))))] [(ws x++(ws y++(ws z))),(ws c10++(ws c17++(ws c19))),(ws c1),(ws c2),(ws c5),(ws c7),(ws c10),(ws c17)] [(2,(.p 1 0))] ⟨RG.ld u115 i115,RG.ld u115 i115,RG.st,RG.ld u115 i115,RG.st,RG.ld u115 i115,RG.cl ((CTimes_c C y z).e hc18),RG.cl ((double_c C c18).e hc19),RG.st,RG.pt i117,trivial⟩ ?_
 intro a7 w7 M7
 refine wp_ret ?_
 refine bodyPost_ret (v:=(rv c10 c17 c19)) (RG.results_row M7.st 2 102 rfl 1 _ rfl (M7.at (s:=(.p 1 0))) u117 i117) M7.sl.defers ?_
 exact ⟨_,rfl,M7.st.bel.below,rfl⟩
theorem opposite_c (C:Fld P) (x y z:Fin P):Gives 70 #[(rv x y z)] (rv x (0-y) z):=by
 intro w
 obtain ⟨c1,hc1⟩:∃ c,c=(0:Fin P)-y:=⟨_,rfl⟩
 have hfin:((rv x c1 z):Value)=(rv x (0-y) z):=by
  subst_vars;rfl
 rw[← hfin]
 go_enter Tryd.func70,Tryd.ntmps70
 refine RG.M.enter [(0,(.v (rv x y z)))] 12 (by kernel_rfl) ?_
 intro a0 M0
 repeat refine wp_seq ?_
 refine M0.t [.m 1 [] 0,.m 2 [] 1] [(0,(ws x++(ws y++(ws z)))),(1,(RG.z 12))] [] [(ws x++(ws y++(ws z))),(RG.z 12)] [(1,(.p 0 0)),(2,(.p 1 0))] ⟨RG.mk 0 102,RG.mk 1 102,trivial⟩ ?_
 intro j1 i1 a1 w1 M1
 repeat refine wp_seq ?_
 refine M1.d [.s 3 [] (.p 0 0),.x 4 [(3,0)] (fv x),.x 5 [] (fv (0:Fin P)),.s 6 [] (.p 0 4),.x 7 [(6,3)] (fv y),.c 8 [(5,2),(7,4)] (fv c1),.s 9 [] (.p 0 8),.x 10 [(9,6)] (fv z),.x 11 [(4,1),(8,5),(10,7)] (rv x c1 z),.u [(11,8)] 1] [] [(1,9,(ws x++(ws c1++(ws z))))] [(ws x++(ws y++(ws z))),(ws x++(ws c1++(ws z)))] [(2,(.p 1 0))] ⟨RG.st,RG.ld u115 i115,RG.se (zero_fv (P:=P)),RG.st,RG.ld u115 i115,RG.cl ((CMinus_c C (0:Fin P) y).e hc1),RG.st,RG.ld u115 i115,RG.st,RG.pt i117,trivial⟩ ?_
 intro a2 w2 M2
 refine wp_ret ?_
 refine bodyPost_ret (v:=(rv x c1 z)) (RG.results_row M2.st 2 102 rfl 1 _ rfl (M2.at (s:=(.p 1 0))) u117 i117) M2.sl.defers ?_
 exact ⟨_,rfl,M2.st.bel.below,rfl⟩
theorem point_c (C:Fld P) (x y z:Fin P):Gives 49 #[(rv x y z)] (pv (x*(EC.inv z*EC.inv z)) (y*(EC.inv z*EC.inv z)*EC.inv z)):=by
 intro w
 obtain ⟨c1,hc1⟩:∃ c,c=EC.inv z:=⟨_,rfl⟩
 obtain ⟨c2,hc2⟩:∃ c,c=c1*c1:=⟨_,rfl⟩
 obtain ⟨c3,hc3⟩:∃ c,c=x*c2:=⟨_,rfl⟩
 obtain ⟨c4,hc4⟩:∃ c,c=y*c2:=⟨_,rfl⟩
 obtain ⟨c5,hc5⟩:∃ c,c=c4*c1:=⟨_,rfl⟩
 have hfin:((pv c3 c5):Value)=(pv (x*(EC.inv z*EC.inv z)) (y*(EC.inv z*EC.inv z)*EC.inv z)):=by
  subst_vars;rfl
 rw[← hfin]
 go_enter Tryd.func49,Tryd.ntmps49
 refine RG.M.enter [(0,(.v (rv x y z)))] 27 (by kernel_rfl) ?_
 intro a0 M0
 repeat refine wp_seq ?_
 refine M0.t [.m 1 [] 0,.m 2 [] 1] [(0,(ws x++(ws y++(ws z)))),(1,(RG.z 8))] [] [(ws x++(ws y++(ws z))),(RG.z 8)] [(1,(.p 0 0)),(2,(.p 1 0))] ⟨RG.mk 0 102,RG.mk 1 53,trivial⟩ ?_
 intro j1 i1 a1 w1 M1
 repeat refine wp_seq ?_
 refine M1.d [.c 5 [] gv0,.s 6 [] (.p 0 8),.x 7 [(6,1)] (fv z),.c 8 [(7,2)] (fv z),.c 9 [(5,0),(8,3)] (fv c1),.c 10 [(9,4)] (fv c1),.m 3 [] 2,.u [(3,6),(10,5)] 2] [(6,(RG.z 4))] [(2,7,(ws c1))] [(ws x++(ws y++(ws z))),(RG.z 8),(ws c1)] [(1,(.p 0 0)),(2,(.p 1 0)),(3,(.p 2 0))] ⟨RG.cl (Coordinates_c),RG.st,RG.ld u115 i115,RG.cl (Numb_c C z),RG.cl ((Inverse_c C z).e hc1),RG.cl (Coord_c C c1),RG.mk 2 100,RG.pt i115,trivial⟩ ?_
 intro j2 a2 w2 M2
 repeat refine wp_seq ?_
 refine M2.t [.x 11 [] (fv c1),.x 12 [] (fv c1),.c 13 [(11,0),(12,1)] (fv c2),.m 4 [] 3,.u [(4,3),(13,2)] 3] [(3,(RG.z 4))] [(3,4,(ws c2))] [(ws x++(ws y++(ws z))),(RG.z 8),(ws c1),(ws c2)] [(1,(.p 0 0)),(2,(.p 1 0)),(3,(.p 2 0)),(4,(.p 3 0))] ⟨RG.ld u115 i115,RG.ld u115 i115,RG.cl ((CTimes_c C c1 c1).e hc2),RG.mk 3 100,RG.pt i115,trivial⟩ ?_
 intro j3 a3 w3 M3
 repeat refine wp_seq ?_
 refine M3.d [.s 14 [] (.p 0 0),.x 15 [(14,0)] (fv x),.x 16 [] (fv c2),.c 17 [(15,1),(16,2)] (fv c3),.c 18 [(17,3)] (fv c3),.s 19 [] (.p 0 4),.x 20 [(19,5)] (fv y),.x 21 [] (fv c2),.c 22 [(20,6),(21,7)] (fv c4),.x 23 [] (fv c1),.c 24 [(22,8),(23,9)] (fv c5),.c 25 [(24,10)] (fv c5),.x 26 [(18,4),(25,11)] (pv c3 c5),.u [(26,12)] 1] [] [(1,13,(ws c3++(ws c5)))] [(ws x++(ws y++(ws z))),(ws c3++(ws c5)),(ws c1),(ws c2)] [(2,(.p 1 0))] ⟨RG.st,RG.ld u115 i115,RG.ld u115 i115,RG.cl ((CTimes_c C x c2).e hc3),RG.cl (Numb_c C c3),RG.st,RG.ld u115 i115,RG.ld u115 i115,RG.cl ((CTimes_c C y c2).e hc4),RG.ld u115 i115,RG.cl ((CTimes_c C c4 c1).e hc5),RG.cl (Numb_c C c5),RG.st,RG.pt i109,trivial⟩ ?_
 intro a4 w4 M4
 refine wp_ret ?_
 refine bodyPost_ret (v:=(pv c3 c5)) (RG.results_row M4.st 2 53 rfl 1 _ rfl (M4.at (s:=(.p 1 0))) u109 i109) M4.sl.defers ?_
 exact ⟨_,rfl,M4.st.bel.below,rfl⟩
theorem nothing_t_c (C:Fld P) (x y z:Fin P)(hz:z=0) :Gives 69 #[(rv x y z)] (.bool true):=by
 intro w
 go_enter Tryd.func69,Tryd.ntmps69
 refine RG.M.enter [(0,(.v (rv x y z)))] 7 (by kernel_rfl) ?_
 intro a0 M0
 repeat refine wp_seq ?_
 refine M0.t [.m 1 [] 0,.x 2 [] (.bool false)] [(0,(ws x++(ws y++(ws z))))] [] [(ws x++(ws y++(ws z)))] [(1,(.p 0 0)),(2,(.v (.bool false)))] ⟨RG.mk 0 102,RG.st,trivial⟩ ?_
 intro j1 a1 w1 M1
 repeat refine wp_seq ?_
 refine M1.u [.s 3 [] (.p 0 8),.x 4 [(3,0)] (fv z),.x 5 [] (fv (0:Fin P)),.x 6 [(4,1),(5,2)] (.bool true),.x 2 [(6,3)] (.bool true)] [(2,(.v (.bool true)))] ⟨RG.st,RG.ld u115 i115,RG.se (zero_fv (P:=P)),RG.cert_bin rfl .eql 100 100 4 5 (fv z) (fv (0:Fin P)) (.bool true) rfl rfl RG.sx RG.sx (fun w=>by kernel_rfl) (eqC_t C hz),RG.st,trivial⟩ ?_
 intro a2 w2 M2
 refine wp_ret ?_
 refine bodyPost_ret (v:=(.bool true)) (RG.results_t 2 rfl _ (M2.at (s:=(.v (.bool true))))) M2.sl.defers ?_
 exact ⟨_,rfl,M2.st.bel.below,rfl⟩
theorem nothing_f_c (C:Fld P) (x y z:Fin P)(hz:¬ z=0) :Gives 69 #[(rv x y z)] (.bool false):=by
 intro w
 go_enter Tryd.func69,Tryd.ntmps69
 refine RG.M.enter [(0,(.v (rv x y z)))] 7 (by kernel_rfl) ?_
 intro a0 M0
 repeat refine wp_seq ?_
 refine M0.t [.m 1 [] 0,.x 2 [] (.bool false)] [(0,(ws x++(ws y++(ws z))))] [] [(ws x++(ws y++(ws z)))] [(1,(.p 0 0)),(2,(.v (.bool false)))] ⟨RG.mk 0 102,RG.st,trivial⟩ ?_
 intro j1 a1 w1 M1
 repeat refine wp_seq ?_
 refine M1.u [.s 3 [] (.p 0 8),.x 4 [(3,0)] (fv z),.x 5 [] (fv (0:Fin P)),.x 6 [(4,1),(5,2)] (.bool false),.x 2 [(6,3)] (.bool false)] [(2,(.v (.bool false)))] ⟨RG.st,RG.ld u115 i115,RG.se (zero_fv (P:=P)),RG.cert_bin rfl .eql 100 100 4 5 (fv z) (fv (0:Fin P)) (.bool false) rfl rfl RG.sx RG.sx (fun w=>by kernel_rfl) (eqC_f C hz),RG.st,trivial⟩ ?_
 intro a2 w2 M2
 refine wp_ret ?_
 refine bodyPost_ret (v:=(.bool false)) (RG.results_t 2 rfl _ (M2.at (s:=(.v (.bool false))))) M2.sl.defers ?_
 exact ⟨_,rfl,M2.st.bel.below,rfl⟩
theorem ratio_t_c (C:Fld P) (x y:Fin P)(hz:x=0∧y=0) :Gives 64 #[(pv x y)] (rv (0:Fin P) 0 0):=by
 intro w
 have hfin:((rv (0:Fin P) (0:Fin P) (0:Fin P)):Value)=(rv (0:Fin P) 0 0):=by
  subst_vars;rfl
 rw[← hfin]
 go_enter Tryd.func64,Tryd.ntmps64
 refine RG.M.enter [(0,(.v (pv x y)))] 16 (by kernel_rfl) ?_
 intro a0 M0
 repeat refine wp_seq ?_
 refine M0.t [.m 1 [] 0,.m 2 [] 1] [(0,(ws x++(ws y))),(1,(RG.z 12))] [] [(ws x++(ws y)),(RG.z 12)] [(1,(.p 0 0)),(2,(.p 1 0))] ⟨RG.mk 0 53,RG.mk 1 102,trivial⟩ ?_
 intro j1 i1 a1 w1 M1
 repeat refine wp_seq ?_
 refine M1.u [.x 3 [] (pv x y),.x 4 [] (pv (0:Fin P) (0:Fin P)),.x 5 [(3,0),(4,1)] (.bool true)] [(2,(.p 1 0)),(5,(.v (.bool true)))] ⟨RG.ld u109 i109,RG.se (zero_pv (P:=P)),RG.cert_bin rfl .eql 53 53 3 4 (pv x y) (pv (0:Fin P) (0:Fin P)) (.bool true) rfl rfl RG.sx RG.sx (fun w=>by kernel_rfl) (eqPt_t C hz),trivial⟩ ?_
 intro a2 w2 M2
 repeat refine wp_seq ?_
 refine wp_cond_true M2.ev ?_
 repeat refine wp_seq ?_
 refine M2.t [.x 6 [] (rv (0:Fin P) (0:Fin P) (0:Fin P)),.u [(6,0)] 1] [] [(1,1,(ws (0:Fin P)++(ws (0:Fin P)++(ws (0:Fin P)))))] [(ws x++(ws y)),(ws (0:Fin P)++(ws (0:Fin P)++(ws (0:Fin P))))] [(2,(.p 1 0))] ⟨RG.se (zero_rv (P:=P)),RG.pt i117,trivial⟩ ?_
 intro a3 w3 M3
 refine wp_ret ?_
 refine bodyPost_ret (v:=(rv (0:Fin P) (0:Fin P) (0:Fin P))) (RG.results_row M3.st 2 102 rfl 1 _ rfl (M3.at (s:=(.p 1 0))) u117 i117) M3.sl.defers ?_
 exact ⟨_,rfl,M3.st.bel.below,rfl⟩
theorem ratio_f_c (C:Fld P) (x y:Fin P)(hz:¬ (x=0∧y=0)) :Gives 64 #[(pv x y)] (rv x y 1):=by
 intro w
 have hfin:((rv x y (1:Fin P)):Value)=(rv x y 1):=by
  subst_vars;rfl
 rw[← hfin]
 go_enter Tryd.func64,Tryd.ntmps64
 refine RG.M.enter [(0,(.v (pv x y)))] 16 (by kernel_rfl) ?_
 intro a0 M0
 repeat refine wp_seq ?_
 refine M0.t [.m 1 [] 0,.m 2 [] 1] [(0,(ws x++(ws y))),(1,(RG.z 12))] [] [(ws x++(ws y)),(RG.z 12)] [(1,(.p 0 0)),(2,(.p 1 0))] ⟨RG.mk 0 53,RG.mk 1 102,trivial⟩ ?_
 intro j1 i1 a1 w1 M1
 repeat refine wp_seq ?_
 refine M1.u [.x 3 [] (pv x y),.x 4 [] (pv (0:Fin P) (0:Fin P)),.x 5 [(3,0),(4,1)] (.bool false)] [(1,(.p 0 0)),(2,(.p 1 0)),(5,(.v (.bool false)))] ⟨RG.ld u109 i109,RG.se (zero_pv (P:=P)),RG.cert_bin rfl .eql 53 53 3 4 (pv x y) (pv (0:Fin P) (0:Fin P)) (.bool false) rfl rfl RG.sx RG.sx (fun w=>by kernel_rfl) (eqPt_f C hz),trivial⟩ ?_
 intro a2 w2 M2
 repeat refine wp_seq ?_
 refine wp_cond_false M2.ev ?_
 refine wp_skip ?_
 repeat refine wp_seq ?_
 refine M2.d [.s 7 [] (.p 0 0),.x 8 [(7,0)] (fv x),.c 9 [(8,1)] (fv x),.s 10 [] (.p 0 4),.x 11 [(10,3)] (fv y),.c 12 [(11,4)] (fv y),.x 13 [] (fv (1:Fin P)),.c 14 [(13,6)] (fv (1:Fin P)),.x 15 [(9,2),(12,5),(14,7)] (rv x y (1:Fin P)),.u [(15,8)] 1] [] [(1,9,(ws x++(ws y++(ws (1:Fin P)))))] [(ws x++(ws y)),(ws x++(ws y++(ws (1:Fin P))))] [(2,(.p 1 0))] ⟨RG.st,RG.ld u85 i85,RG.cl (Coord_c C x),RG.st,RG.ld u85 i85,RG.cl (Coord_c C y),RG.se (one_fv C),RG.cl (Coord_c C (1:Fin P)),RG.st,RG.pt i117,trivial⟩ ?_
 intro a3 w3 M3
 refine wp_ret ?_
 refine bodyPost_ret (v:=(rv x y (1:Fin P))) (RG.results_row M3.st 2 102 rfl 1 _ rfl (M3.at (s:=(.p 1 0))) u117 i117) M3.sl.defers ?_
 exact ⟨_,rfl,M3.st.bel.below,rfl⟩
theorem plusJ_any (C:Fld P) (x1 y1 z1 x2 y2 z2:Fin P) (R:Value) (ha:z1=0→R=rv x2 y2 z2) (hb:¬ z1=0→z2=0→R=rv x1 y1 z1) (hc:¬ z1=0→¬ z2=0→EC.plAx x1 z2=EC.plAx x2 z1∧EC.plAy y1 z2=EC.plAy y2 z1→R=rv (EC.twX x1 y1) (EC.twY x1 y1) (EC.twZ y1 z1)) (hd:¬ z1=0→¬ z2=0→¬ (EC.plAx x1 z2=EC.plAx x2 z1∧EC.plAy y1 z2=EC.plAy y2 z1)→R=rv (EC.plX (EC.plAx x1 z2) (EC.plAy y1 z2) (EC.plAx x2 z1) (EC.plAy y2 z1)) (EC.plY (EC.plAx x1 z2) (EC.plAy y1 z2) (EC.plAx x2 z1) (EC.plAy y2 z1)) (EC.plZ z1 z2 (EC.plAx x1 z2) (EC.plAx x2 z1))):Gives 47 #[(rv x1 y1 z1),(rv x2 y2 z2)] R:=by
 intro w
 obtain ⟨c1,hc1⟩:∃ c,c=z1*z1:=⟨_,rfl⟩
 obtain ⟨c2,hc2⟩:∃ c,c=z2*z2:=⟨_,rfl⟩
 obtain ⟨c3,hc3⟩:∃ c,c=x1*c2:=⟨_,rfl⟩
 obtain ⟨c4,hc4⟩:∃ c,c=x2*c1:=⟨_,rfl⟩
 obtain ⟨c5,hc5⟩:∃ c,c=y1*c2:=⟨_,rfl⟩
 obtain ⟨c6,hc6⟩:∃ c,c=c5*z2:=⟨_,rfl⟩
 obtain ⟨c7,hc7⟩:∃ c,c=y2*c1:=⟨_,rfl⟩
 obtain ⟨c8,hc8⟩:∃ c,c=c7*z1:=⟨_,rfl⟩
 go_enter Tryd.func47,Tryd.ntmps47
 refine RG.M.enter [(0,(.v (rv x1 y1 z1))),(1,(.v (rv x2 y2 z2)))] 108 (by kernel_rfl) ?_
 intro a0 M0
 repeat refine wp_seq ?_
 refine M0.t [.m 2 [] 0,.m 3 [] 1,.m 4 [] 2] [(0,(ws x1++(ws y1++(ws z1)))),(1,(ws x2++(ws y2++(ws z2)))),(2,(RG.z 12))] [] [(ws x1++(ws y1++(ws z1))),(ws x2++(ws y2++(ws z2))),(RG.z 12)] [(2,(.p 0 0)),(3,(.p 1 0)),(4,(.p 2 0))] ⟨RG.mk 0 102,RG.mk 1 102,RG.mk 2 102,trivial⟩ ?_
 intro j1 i1 m1 a1 w1 M1
 repeat refine wp_seq ?_
 by_cases hz1:z1=0
 ·obtain rfl:=ha hz1
  refine M1.u [.x 18 [] (rv x1 y1 z1),.c 19 [(18,0)] (.bool true)] [(3,(.p 1 0)),(4,(.p 2 0)),(19,(.v (.bool true)))] ⟨RG.ld u117 i117,RG.cl (nothing_t_c C x1 y1 z1 hz1),trivial⟩ ?_
  intro a2 w2 M2
  repeat refine wp_seq ?_
  refine wp_cond_true M2.ev ?_
  repeat refine wp_seq ?_
  refine M2.t [.x 20 [] (rv x2 y2 z2),.u [(20,0)] 2] [] [(2,1,(ws x2++(ws y2++(ws z2))))] [(ws x1++(ws y1++(ws z1))),(ws x2++(ws y2++(ws z2))),(ws x2++(ws y2++(ws z2)))] [(4,(.p 2 0))] ⟨RG.ld u117 i117,RG.pt i117,trivial⟩ ?_
  intro a3 w3 M3
  refine wp_ret ?_
  refine bodyPost_ret (v:=(rv x2 y2 z2)) (RG.results_row M3.st 4 102 rfl 2 _ rfl (M3.at (s:=(.p 2 0))) u117 i117) M3.sl.defers ?_
  exact ⟨_,rfl,M3.st.bel.below,rfl⟩
 refine M1.u [.x 18 [] (rv x1 y1 z1),.c 19 [(18,0)] (.bool false)] [(2,(.p 0 0)),(3,(.p 1 0)),(4,(.p 2 0)),(19,(.v (.bool false)))] ⟨RG.ld u117 i117,RG.cl (nothing_f_c C x1 y1 z1 hz1),trivial⟩ ?_
 intro a2 w2 M2
 repeat refine wp_seq ?_
 refine wp_cond_false M2.ev ?_
 refine wp_skip ?_
 repeat refine wp_seq ?_
 by_cases hz2:z2=0
 ·obtain rfl:=hb hz1 hz2
  refine M2.u [.x 21 [] (rv x2 y2 z2),.c 22 [(21,0)] (.bool true)] [(2,(.p 0 0)),(4,(.p 2 0)),(22,(.v (.bool true)))] ⟨RG.ld u117 i117,RG.cl (nothing_t_c C x2 y2 z2 hz2),trivial⟩ ?_
  intro a3 w3 M3
  repeat refine wp_seq ?_
  refine wp_cond_true M3.ev ?_
  repeat refine wp_seq ?_
  refine M3.t [.x 23 [] (rv x1 y1 z1),.u [(23,0)] 2] [] [(2,1,(ws x1++(ws y1++(ws z1))))] [(ws x1++(ws y1++(ws z1))),(ws x2++(ws y2++(ws z2))),(ws x1++(ws y1++(ws z1)))] [(4,(.p 2 0))] ⟨RG.ld u117 i117,RG.pt i117,trivial⟩ ?_
  intro a4 w4 M4
  refine wp_ret ?_
  refine bodyPost_ret (v:=(rv x1 y1 z1)) (RG.results_row M4.st 4 102 rfl 2 _ rfl (M4.at (s:=(.p 2 0))) u117 i117) M4.sl.defers ?_
  exact ⟨_,rfl,M4.st.bel.below,rfl⟩
 refine M2.u [.x 21 [] (rv x2 y2 z2),.c 22 [(21,0)] (.bool false)] [(2,(.p 0 0)),(3,(.p 1 0)),(4,(.p 2 0)),(22,(.v (.bool false)))] ⟨RG.ld u117 i117,RG.cl (nothing_f_c C x2 y2 z2 hz2),trivial⟩ ?_
 intro a3 w3 M3
 repeat refine wp_seq ?_
 refine wp_cond_false M3.ev ?_
 refine wp_skip ?_
 repeat refine wp_seq ?_
 refine M3.d [.s 24 [] (.p 0 8),.x 25 [(24,0)] (fv z1),.s 26 [] (.p 0 8),.x 27 [(26,2)] (fv z1),.c 28 [(25,1),(27,3)] (fv c1),.s 29 [] (.p 1 8),.x 30 [(29,5)] (fv z2),.s 31 [] (.p 1 8),.x 32 [(31,7)] (fv z2),.c 33 [(30,6),(32,8)] (fv c2),.m 5 [] 3,.m 6 [] 4,.u [(5,10),(28,4)] 3,.u [(6,11),(33,9)] 4] [(10,(RG.z 4)),(11,(RG.z 4))] [(3,12,(ws c1)),(4,13,(ws c2))] [(ws x1++(ws y1++(ws z1))),(ws x2++(ws y2++(ws z2))),(RG.z 12),(ws c1),(ws c2)] [(2,(.p 0 0)),(3,(.p 1 0)),(4,(.p 2 0)),(5,(.p 3 0)),(6,(.p 4 0))] ⟨RG.st,RG.ld u115 i115,RG.st,RG.ld u115 i115,RG.cl ((CTimes_c C z1 z1).e hc1),RG.st,RG.ld u115 i115,RG.st,RG.ld u115 i115,RG.cl ((CTimes_c C z2 z2).e hc2),RG.mk 3 100,RG.mk 4 100,RG.pt i115,RG.pt i115,trivial⟩ ?_
 intro j4 i4 a4 w4 M4
 repeat refine wp_seq ?_
 refine M4.d [.s 34 [] (.p 0 0),.x 35 [(34,0)] (fv x1),.x 36 [] (fv c2),.c 37 [(35,1),(36,2)] (fv c3),.s 38 [] (.p 1 0),.x 39 [(38,4)] (fv x2),.x 40 [] (fv c1),.c 41 [(39,5),(40,6)] (fv c4),.m 7 [] 5,.m 8 [] 6,.u [(7,8),(37,3)] 5,.u [(8,9),(41,7)] 6] [(8,(RG.z 4)),(9,(RG.z 4))] [(5,10,(ws c3)),(6,11,(ws c4))] [(ws x1++(ws y1++(ws z1))),(ws x2++(ws y2++(ws z2))),(RG.z 12),(ws c1),(ws c2),(ws c3),(ws c4)] [(2,(.p 0 0)),(3,(.p 1 0)),(4,(.p 2 0)),(5,(.p 3 0)),(6,(.p 4 0)),(7,(.p 5 0)),(8,(.p 6 0))] ⟨RG.st,RG.ld u115 i115,RG.ld u115 i115,RG.cl ((CTimes_c C x1 c2).e hc3),RG.st,RG.ld u115 i115,RG.ld u115 i115,RG.cl ((CTimes_c C x2 c1).e hc4),RG.mk 5 100,RG.mk 6 100,RG.pt i115,RG.pt i115,trivial⟩ ?_
 intro j5 i5 a5 w5 M5
 repeat refine wp_seq ?_
 refine M5.d [.s 42 [] (.p 0 4),.x 43 [(42,0)] (fv y1),.x 44 [] (fv c2),.c 45 [(43,1),(44,2)] (fv c5),.s 46 [] (.p 1 8),.x 47 [(46,4)] (fv z2),.c 48 [(45,3),(47,5)] (fv c6),.s 49 [] (.p 1 4),.x 50 [(49,7)] (fv y2),.x 51 [] (fv c1),.c 52 [(50,8),(51,9)] (fv c7),.s 53 [] (.p 0 8),.x 54 [(53,11)] (fv z1),.c 55 [(52,10),(54,12)] (fv c8),.m 9 [] 7,.m 10 [] 8,.u [(9,14),(48,6)] 7,.u [(10,15),(55,13)] 8] [(14,(RG.z 4)),(15,(RG.z 4))] [(7,16,(ws c6)),(8,17,(ws c8))] [(ws x1++(ws y1++(ws z1))),(ws x2++(ws y2++(ws z2))),(RG.z 12),(ws c1),(ws c2),(ws c3),(ws c4),(ws c6),(ws c8)] [(2,(.p 0 0)),(3,(.p 1 0)),(4,(.p 2 0)),(7,(.p 5 0)),(8,(.p 6 0)),(9,(.p 7 0)),(10,(.p 8 0))] ⟨RG.st,RG.ld u115 i115,RG.ld u115 i115,RG.cl ((CTimes_c C y1 c2).e hc5),RG.st,RG.ld u115 i115,RG.cl ((CTimes_c C c5 z2).e hc6),RG.st,RG.ld u115 i115,RG.ld u115 i115,RG.cl ((CTimes_c C y2 c1).e hc7),RG.st,RG.ld u115 i115,RG.cl ((CTimes_c C c7 z1).e hc8),RG.mk 7 100,RG.mk 8 100,RG.pt i115,RG.pt i115,trivial⟩ ?_
 intro j6 i6 a6 w6 M6
 repeat refine wp_seq ?_
 by_cases hxy:EC.plAx x1 z2=EC.plAx x2 z1∧EC.plAy y1 z2=EC.plAy y2 z1
 ·have hR:=hc hz1 hz2 hxy
  obtain ⟨hx,hy⟩:=hxy
  obtain ⟨c9,hc9⟩:∃ c,c=EC.twX x1 y1:=⟨_,rfl⟩
  obtain ⟨c10,hc10⟩:∃ c,c=EC.twY x1 y1:=⟨_,rfl⟩
  obtain ⟨c11,hc11⟩:∃ c,c=EC.twZ y1 z1:=⟨_,rfl⟩
  obtain rfl:R=rv c9 c10 c11:=hR.trans (by subst_vars;rfl)
  refine M6.u [.x 56 [] (fv c3),.x 57 [] (fv c4),.x 58 [(56,0),(57,1)] (.bool true),.x 59 [(58,2)] (.bool true),.x 60 [] (fv c6),.x 61 [] (fv c8),.x 62 [(60,4),(61,5)] (.bool true),.x 63 [(59,3),(62,6)] (.bool true)] [(2,(.p 0 0)),(4,(.p 2 0)),(63,(.v (.bool true)))] ⟨RG.ld u115 i115,RG.ld u115 i115,RG.cert_bin rfl .eql 100 100 56 57 (fv c3) (fv c4) (.bool true) rfl rfl RG.sx RG.sx (fun w=>by kernel_rfl) (eqC_t C (by subst_vars;exact hx)),RG.st,RG.ld u115 i115,RG.ld u115 i115,RG.cert_bin rfl .eql 100 100 60 61 (fv c6) (fv c8) (.bool true) rfl rfl RG.sx RG.sx (fun w=>by kernel_rfl) (eqC_t C (by subst_vars;exact hy)),RG.st,trivial⟩ ?_
  intro a7 w7 M7
  repeat refine wp_seq ?_
  refine wp_cond_true M7.ev ?_
  repeat refine wp_seq ?_
  refine M7.t [.x 64 [] (rv x1 y1 z1),.c 65 [(64,0)] (rv c9 c10 c11),.u [(65,1)] 2] [] [(2,2,(ws c9++(ws c10++(ws c11))))] [(ws x1++(ws y1++(ws z1))),(ws x2++(ws y2++(ws z2))),(ws c9++(ws c10++(ws c11))),(ws c1),(ws c2),(ws c3),(ws c4),(ws c6),(ws c8)] [(4,(.p 2 0))] ⟨RG.ld u117 i117,RG.cl ((twice_c C x1 y1 z1).e3 hc9 hc10 hc11),RG.pt i117,trivial⟩ ?_
  intro a8 w8 M8
  refine wp_ret ?_
  refine bodyPost_ret (v:=(rv c9 c10 c11)) (RG.results_row M8.st 4 102 rfl 2 _ rfl (M8.at (s:=(.p 2 0))) u117 i117) M8.sl.defers ?_
  exact ⟨_,rfl,M8.st.bel.below,rfl⟩
 have hR:=hd hz1 hz2 hxy
 obtain ⟨c9,hc9⟩:∃ c,c=c4-c3:=⟨_,rfl⟩
 obtain ⟨c10,hc10⟩:∃ c,c=c8-c6:=⟨_,rfl⟩
 obtain ⟨c11,hc11⟩:∃ c,c=c9*c9:=⟨_,rfl⟩
 obtain ⟨c12,hc12⟩:∃ c,c=c11*c9:=⟨_,rfl⟩
 obtain ⟨c13,hc13⟩:∃ c,c=c11*c3:=⟨_,rfl⟩
 obtain ⟨c14,hc14⟩:∃ c,c=c10*c10:=⟨_,rfl⟩
 obtain ⟨c15,hc15⟩:∃ c,c=c14-c12:=⟨_,rfl⟩
 obtain ⟨c16,hc16⟩:∃ c,c=EC.dbl c13:=⟨_,rfl⟩
 obtain ⟨c17,hc17⟩:∃ c,c=c15-c16:=⟨_,rfl⟩
 obtain ⟨c18,hc18⟩:∃ c,c=c13-c17:=⟨_,rfl⟩
 obtain ⟨c19,hc19⟩:∃ c,c=c10*c18:=⟨_,rfl⟩
 obtain ⟨c20,hc20⟩:∃ c,c=c12*c6:=⟨_,rfl⟩
 obtain ⟨c21,hc21⟩:∃ c,c=c19-c20:=⟨_,rfl⟩
 obtain ⟨c22,hc22⟩:∃ c,c=z1*z2:=⟨_,rfl⟩
 obtain ⟨c23,hc23⟩:∃ c,c=c22*c9:=⟨_,rfl⟩
 obtain rfl:R=rv c17 c21 c23:=hR.trans (by subst_vars;rfl)
 by_cases hx:EC.plAx x1 z2=EC.plAx x2 z1
 case' pos =>
  have hy:¬ EC.plAy y1 z2=EC.plAy y2 z1:=fun h=>hxy ⟨hx,h⟩
  refine M6.u [.x 56 [] (fv c3),.x 57 [] (fv c4),.x 58 [(56,0),(57,1)] (.bool true),.x 59 [(58,2)] (.bool true),.x 60 [] (fv c6),.x 61 [] (fv c8),.x 62 [(60,4),(61,5)] (.bool false),.x 63 [(59,3),(62,6)] (.bool false)] [(2,(.p 0 0)),(3,(.p 1 0)),(4,(.p 2 0)),(7,(.p 5 0)),(8,(.p 6 0)),(9,(.p 7 0)),(10,(.p 8 0)),(63,(.v (.bool false)))] ⟨RG.ld u115 i115,RG.ld u115 i115,RG.cert_bin rfl .eql 100 100 56 57 (fv c3) (fv c4) (.bool true) rfl rfl RG.sx RG.sx (fun w=>by kernel_rfl) (eqC_t C (by subst_vars;exact hx)),RG.st,RG.ld u115 i115,RG.ld u115 i115,RG.cert_bin rfl .eql 100 100 60 61 (fv c6) (fv c8) (.bool false) rfl rfl RG.sx RG.sx (fun w=>by kernel_rfl) (eqC_f C (by subst_vars;exact hy)),RG.st,trivial⟩ ?_
 case' neg =>
  refine M6.u [.x 56 [] (fv c3),.x 57 [] (fv c4),.x 58 [(56,0),(57,1)] (.bool false),.x 59 [(58,2)] (.bool false),⟨some 60,[],(.v undef),.pass⟩,⟨some 61,[],(.v undef),.pass⟩,⟨some 62,[],(.v undef),.pass⟩,.x 63 [(59,3),(62,6)] (.bool false)] [(2,(.p 0 0)),(3,(.p 1 0)),(4,(.p 2 0)),(7,(.p 5 0)),(8,(.p 6 0)),(9,(.p 7 0)),(10,(.p 8 0)),(63,(.v (.bool false)))] ⟨RG.ld u115 i115,RG.ld u115 i115,RG.cert_bin rfl .eql 100 100 56 57 (fv c3) (fv c4) (.bool false) rfl rfl RG.sx RG.sx (fun w=>by kernel_rfl) (eqC_f C (by subst_vars;exact hx)),RG.st,RG.cert_pass rfl rfl,RG.cert_pass rfl rfl,RG.cert_pass rfl rfl,RG.st,trivial⟩ ?_
 all_goals
  intro a7 w7 M7
  repeat refine wp_seq ?_
  refine wp_cond_false M7.ev ?_
  refine wp_skip ?_
  repeat refine wp_seq ?_
  refine M7.d [.x 66 [] (fv c4),.x 67 [] (fv c3),.c 68 [(66,0),(67,1)] (fv c9),.x 69 [] (fv c8),.x 70 [] (fv c6),.c 71 [(69,3),(70,4)] (fv c10),.m 11 [] 9,.m 12 [] 10,.u [(11,6),(68,2)] 9,.u [(12,7),(71,5)] 10] [(6,(RG.z 4)),(7,(RG.z 4))] [(9,8,(ws c9)),(10,9,(ws c10))] [(ws x1++(ws y1++(ws z1))),(ws x2++(ws y2++(ws z2))),(RG.z 12),(ws c1),(ws c2),(ws c3),(ws c4),(ws c6),(ws c8),(ws c9),(ws c10)] [(2,(.p 0 0)),(3,(.p 1 0)),(4,(.p 2 0)),(7,(.p 5 0)),(9,(.p 7 0)),(11,(.p 9 0)),(12,(.p 10 0))] ⟨RG.ld u115 i115,RG.ld u115 i115,RG.cl ((CMinus_c C c4 c3).e hc9),RG.ld u115 i115,RG.ld u115 i115,RG.cl ((CMinus_c C c8 c6).e hc10),RG.mk 9 100,RG.mk 10 100,RG.pt i115,RG.pt i115,trivial⟩ ?_
  intro j8 i8 a8 w8 M8
  repeat refine wp_seq ?_
  refine M8.t [.x 72 [] (fv c9),.x 73 [] (fv c9),.c 74 [(72,0),(73,1)] (fv c11),.m 13 [] 11,.u [(13,3),(74,2)] 11] [(3,(RG.z 4))] [(11,4,(ws c11))] [(ws x1++(ws y1++(ws z1))),(ws x2++(ws y2++(ws z2))),(RG.z 12),(ws c1),(ws c2),(ws c3),(ws c4),(ws c6),(ws c8),(ws c9),(ws c10),(ws c11)] [(2,(.p 0 0)),(3,(.p 1 0)),(4,(.p 2 0)),(7,(.p 5 0)),(9,(.p 7 0)),(11,(.p 9 0)),(12,(.p 10 0)),(13,(.p 11 0))] ⟨RG.ld u115 i115,RG.ld u115 i115,RG.cl ((CTimes_c C c9 c9).e hc11),RG.mk 11 100,RG.pt i115,trivial⟩ ?_
  intro j9 a9 w9 M9
  repeat refine wp_seq ?_
  refine M9.d [.x 75 [] (fv c11),.x 76 [] (fv c9),.c 77 [(75,0),(76,1)] (fv c12),.x 78 [] (fv c11),.x 79 [] (fv c3),.c 80 [(78,3),(79,4)] (fv c13),.m 14 [] 12,.m 15 [] 13,.u [(14,6),(77,2)] 12,.u [(15,7),(80,5)] 13] [(6,(RG.z 4)),(7,(RG.z 4))] [(12,8,(ws c12)),(13,9,(ws c13))] [(ws x1++(ws y1++(ws z1))),(ws x2++(ws y2++(ws z2))),(RG.z 12),(ws c1),(ws c2),(ws c3),(ws c4),(ws c6),(ws c8),(ws c9),(ws c10),(ws c11),(ws c12),(ws c13)] [(2,(.p 0 0)),(3,(.p 1 0)),(4,(.p 2 0)),(9,(.p 7 0)),(11,(.p 9 0)),(12,(.p 10 0)),(14,(.p 12 0)),(15,(.p 13 0))] ⟨RG.ld u115 i115,RG.ld u115 i115,RG.cl ((CTimes_c C c11 c9).e hc12),RG.ld u115 i115,RG.ld u115 i115,RG.cl ((CTimes_c C c11 c3).e hc13),RG.mk 12 100,RG.mk 13 100,RG.pt i115,RG.pt i115,trivial⟩ ?_
  intro j10 i10 a10 w10 M10
  repeat refine wp_seq ?_
  refine M10.d [.x 81 [] (fv c10),.x 82 [] (fv c10),.c 83 [(81,0),(82,1)] (fv c14),.x 84 [] (fv c12),.c 85 [(83,2),(84,3)] (fv c15),.x 86 [] (fv c13),.c 87 [(86,5)] (fv c16),.c 88 [(85,4),(87,6)] (fv c17),.m 16 [] 14,.u [(16,8),(88,7)] 14] [(8,(RG.z 4))] [(14,9,(ws c17))] [(ws x1++(ws y1++(ws z1))),(ws x2++(ws y2++(ws z2))),(RG.z 12),(ws c1),(ws c2),(ws c3),(ws c4),(ws c6),(ws c8),(ws c9),(ws c10),(ws c11),(ws c12),(ws c13),(ws c17)] [(2,(.p 0 0)),(3,(.p 1 0)),(4,(.p 2 0)),(9,(.p 7 0)),(11,(.p 9 0)),(12,(.p 10 0)),(14,(.p 12 0)),(15,(.p 13 0)),(16,(.p 14 0))] ⟨RG.ld u115 i115,RG.ld u115 i115,RG.cl ((CTimes_c C c10 c10).e hc14),RG.ld u115 i115,RG.cl ((CMinus_c C c14 c12).e hc15),RG.ld u115 i115,RG.cl ((double_c C c13).e hc16),RG.cl ((CMinus_c C c15 c16).e hc17),RG.mk 14 100,RG.pt i115,trivial⟩ ?_
  intro j11 a11 w11 M11
  repeat refine wp_seq ?_
  refine M11.d [.x 89 [] (fv c10),.x 90 [] (fv c13),.x 91 [] (fv c17),.c 92 [(90,1),(91,2)] (fv c18),.c 93 [(89,0),(92,3)] (fv c19),.x 94 [] (fv c12),.x 95 [] (fv c6),.c 96 [(94,5),(95,6)] (fv c20),.c 97 [(93,4),(96,7)] (fv c21),.m 17 [] 15,.u [(17,9),(97,8)] 15] [(9,(RG.z 4))] [(15,10,(ws c21))] [(ws x1++(ws y1++(ws z1))),(ws x2++(ws y2++(ws z2))),(RG.z 12),(ws c1),(ws c2),(ws c3),(ws c4),(ws c6),(ws c8),(ws c9),(ws c10),(ws c11),(ws c12),(ws c13),(ws c17),(ws c21)] [(2,(.p 0 0)),(3,(.p 1 0)),(4,(.p 2 0)),(11,(.p 9 0)),(16,(.p 14 0)),(17,(.p 15 0))] ⟨RG.ld u115 i115,RG.ld u115 i115,RG.ld u115 i115,RG.cl ((CMinus_c C c13 c17).e hc18),RG.cl ((CTimes_c C c10 c18).e hc19),RG.ld u115 i115,RG.ld u115 i115,RG.cl ((CTimes_c C c12 c6).e hc20),RG.cl ((CMinus_c C c19 c20).e hc21),RG.mk 15 100,RG.pt i115,trivial⟩ ?_
  intro j12 a12 w12 M12
  repeat refine wp_seq ?_
  refine M12.d [.x 98 [] (fv c17),.x 99 [] (fv c21),.s 100 [] (.p 0 8),.x 101 [(100,2)] (fv z1),.s 102 [] (.p 1 8),.x 103 [(102,4)] (fv z2),.c 104 [(101,3),(103,5)] (fv c22),.x 105 [] (fv c9),.c 106 [(104,6),(105,7)] (fv c23),.x 107 [(98,0),(99,1),(106,8)] (rv c17 c21 c23),.u [(107,9)] 2] [] [(2,10,(ws c17++(ws c21++(ws c23))))] [(ws x1++(ws y1++(ws z1))),(ws x2++(ws y2++(ws z2))),(ws c17++(ws c21++(ws c23))),(ws c1),(ws c2),(ws c3),(ws c4),(ws c6),(ws c8),(ws c9),(ws c10),(ws c11),(ws c12),(ws c13),(ws c17),(ws c21)] [(4,(.p 2 0))] ⟨RG.ld u115 i115,RG.ld u115 i115,RG.st,RG.ld u115 i115,RG.st,RG.ld u115 i115,RG.cl ((CTimes_c C z1 z2).e hc22),RG.ld u115 i115,RG.cl ((CTimes_c C c22 c9).e hc23),RG.st,RG.pt i117,trivial⟩ ?_
  intro a13 w13 M13
  refine wp_ret ?_
  refine bodyPost_ret (v:=(rv c17 c21 c23)) (RG.results_row M13.st 4 102 rfl 2 _ rfl (M13.at (s:=(.p 2 0))) u117 i117) M13.sl.defers ?_
  exact ⟨_,rfl,M13.st.bel.below,rfl⟩
abbrev T3 (P:Nat):=Fin P × Fin P × Fin P
abbrev tv (t:T3 P):Value:=rv t.1 t.2.1 t.2.2
abbrev tw (t:T3 P):List Value:=ws t.1++(ws t.2.1++ws t.2.2)
def JacT (t:T3 P) (p:EC.Pt P):Prop:=EC.Jac t.1 t.2.1 t.2.2 p∧EC.On p
def twJ (t:T3 P):T3 P:=(EC.twX t.1 t.2.1,EC.twY t.1 t.2.1,EC.twZ t.2.1 t.2.2)
def plJ (a b:T3 P):T3 P:=
 if a.2.2=0 then b else if b.2.2=0 then a else
 if EC.plAx a.1 b.2.2=EC.plAx b.1 a.2.2∧EC.plAy a.2.1 b.2.2=EC.plAy b.2.1 a.2.2 then twJ a else
 (EC.plX (EC.plAx a.1 b.2.2) (EC.plAy a.2.1 b.2.2) (EC.plAx b.1 a.2.2) (EC.plAy b.2.1 a.2.2),EC.plY (EC.plAx a.1 b.2.2) (EC.plAy a.2.1 b.2.2) (EC.plAx b.1 a.2.2) (EC.plAy b.2.1 a.2.2),EC.plZ a.2.2 b.2.2 (EC.plAx a.1 b.2.2) (EC.plAx b.1 a.2.2))
def opJ (t:T3 P):T3 P:=(t.1,0-t.2.1,t.2.2)
def raJ (x y:Fin P):T3 P:=if x=0∧y=0 then (0,0,0) else (x,y,1)
theorem twJ_c (C:Fld P) (t:T3 P):Gives 46 #[tv t] (tv (twJ t)):=twice_c C t.1 t.2.1 t.2.2
theorem plJ_c (C:Fld P) (a b:T3 P):Gives 47 #[tv a,tv b] (tv (plJ a b)):=by
 obtain ⟨x1,y1,z1⟩:=a
 obtain ⟨x2,y2,z2⟩:=b
 exact plusJ_any C x1 y1 z1 x2 y2 z2 _ (fun h=>by unfold plJ;rw[if_pos h]) (fun h1 h2=>by unfold plJ;rw[if_neg h1,if_pos h2]) (fun h1 h2 h=>by unfold plJ;rw[if_neg h1,if_neg h2,if_pos h];rfl) (fun h1 h2 h=>by unfold plJ;rw[if_neg h1,if_neg h2,if_neg h])
theorem opJ_c (C:Fld P) (t:T3 P):Gives 70 #[tv t] (tv (opJ t)):=opposite_c C t.1 t.2.1 t.2.2
theorem raJ_c (C:Fld P) (x y:Fin P):Gives 64 #[pv x y] (tv (raJ x y)):=by
 unfold raJ
 by_cases hz:x=0∧y=0
 ·rw[if_pos hz]
  exact ratio_t_c C x y hz
 ·rw[if_neg hz]
  exact ratio_f_c C x y hz
theorem ptJ_c (C:Fld P) (t:T3 P):Gives 49 #[tv t] (pv (t.1*(EC.inv t.2.2*EC.inv t.2.2)) (t.2.1*(EC.inv t.2.2*EC.inv t.2.2)*EC.inv t.2.2)):=point_c C t.1 t.2.1 t.2.2
theorem JacT.twice (C:Fld P) {t:T3 P} {p:EC.Pt P} (h:JacT t p):JacT (twJ t) (EC.add p p):=⟨h.1.twice C.cur h.2,C.cur.on h.2 h.2⟩
theorem JacT.plus (C:Fld P) {a b:T3 P} {p q:EC.Pt P} (h:JacT a p) (h':JacT b q):JacT (plJ a b) (EC.add p q):=by
 refine ⟨?_,C.cur.on h.2 h'.2⟩
 obtain ⟨x1,y1,z1⟩:=a
 obtain ⟨x2,y2,z2⟩:=b
 unfold plJ
 by_cases n1:z1=0
 ·rw[if_pos n1]
  obtain rfl:=h.1.zero C.cur n1
  exact h'.1
 ·rw[if_neg n1]
  by_cases n2:z2=0
  ·rw[if_pos n2]
   obtain rfl:=h'.1.zero C.cur n2
   rw[EC.add_none]
   exact h.1
  ·rw[if_neg n2]
   rcases h.1.plus C.cur h.2 h'.1 h'.2 n1 n2 with ⟨e1,e2,e3⟩|⟨e1,e2⟩
   ·rw[if_pos ⟨e1,e2⟩,e3]
    exact h.1.twice C.cur h.2
   ·rw[if_neg e1]
    exact e2
theorem JacT.neg {t:T3 P} {p:EC.Pt P} (h:JacT t p):JacT (opJ t) (EC.neg p):=⟨h.1.neg,EC.neg_on h.2⟩
theorem raJ_J (C:Fld P) {x y:Fin P} {p:EC.Pt P} (h:EC.Pair x y p) (hp:EC.On p):JacT (raJ x y) p:=by
 refine ⟨?_,hp⟩
 unfold raJ
 by_cases hz:x=0∧y=0
 ·obtain rfl:=h.nothing C.cur hp hz
  rw[if_pos hz]
  rfl
 ·rw[if_neg hz]
  exact h.jac C.cur hz
theorem JacT.pair (C:Fld P) {t:T3 P} {p:EC.Pt P} (h:JacT t p):EC.Pair (t.1*(EC.inv t.2.2*EC.inv t.2.2)) (t.2.1*(EC.inv t.2.2*EC.inv t.2.2)*EC.inv t.2.2) p:=h.1.pair C.cur
theorem JacT.none:JacT ((0,0,0):T3 P) .none:=⟨rfl,EC.none_on⟩
end
namespace DG
def dsum (d:Nat→Int):Nat→Int
 | 0=>0
 | k+1=>dsum d k+d k*2^k
def upd (d:Nat→Int) (i:Nat) (v:Int):Nat→Int:=fun j=>if j=i then v else d j
theorem dsum_congr {d e:Nat→Int}:∀ k,(∀ j,j<k→d j=e j)→dsum d k=dsum e k
 | 0,_=>rfl
 | k+1,h=>by
  show dsum d k+d k*2^k=dsum e k+e k*2^k
  rw[dsum_congr k fun j hj=>h j (by omega),h k (by omega)]
theorem dsum_pad {d:Nat→Int} (i:Nat) (h:∀ j,i≤j→d j=0):∀ k,dsum d (i+k)=dsum d i
 | 0=>rfl
 | k+1=>by
  show dsum d (i+k)+d (i+k)*2^(i+k)=_
  rw[h (i+k) (by omega),Int.zero_mul,Int.add_zero,dsum_pad i h k]
theorem upd_same (d:Nat→Int) (i:Nat) (v:Int):upd d i v i=v:=if_pos rfl
theorem upd_other {d:Nat→Int} {i j:Nat} {v:Int} (h:j≠i):upd d i v j=d j:=if_neg h
theorem dsum_upd {d:Nat→Int} (i:Nat) (v:Int) (h:∀ j,i≤j→d j=0) (k:Nat):dsum (upd d i v) (i+1+k)=dsum d i+v*2^i:=by
 rw[dsum_pad (i+1) (fun j hj=>by rw[upd_other (by omega)];exact h j (by omega)) k]
 show dsum (upd d i v) i+upd d i v i*2^i=_
 rw[upd_same,dsum_congr i fun j hj=>upd_other (by omega)]
structure DI (n:Nat) (d:Nat→Int) (i c:Nat):Prop where
 hc:c≤1
 hz:∀ j,i≤j→d j=0
 hw:∀ j,257≤j→d j=0
 ho:∀ j,d j=0∨(d j%2=1∧-15≤d j∧d j≤15)
 hs:(n:Int)=dsum d i+((n/2^i+c:Nat):Int)*2^i
 he:257≤i→n/2^i+c=0
theorem DI.start (n:Nat):DI n (fun _=>0) 0 0:=by
 refine ⟨by decide,fun _ _=>rfl,fun _ _=>rfl,fun _=>Or.inl rfl,?_,fun h=>by omega⟩
 rw[Nat.pow_zero,Nat.div_one]
 show (n:Int)=0+((n+0:Nat):Int)*1
 omega
theorem high {n i:Nat} (hn:n<2^256) (hi:256≤i):n/2^i=0:=
 Nat.div_eq_of_lt (Nat.lt_of_lt_of_le hn (Nat.pow_le_pow_right (by decide) hi))
theorem DI.skip {n i c:Nat} {d:Nat→Int} (h:DI n d i c) (hn:n<2^256) (hi:i<257) (hb:n/2^i%2=c):DI n d (i+1) c:=by
 have hdiv:n/2^(i+1)=n/2^i/2:=by rw[Nat.pow_succ,Nat.div_div_eq_div_mul]
 refine ⟨h.hc,fun j hj=>h.hz j (by omega),h.hw,h.ho,?_,fun h257=>?_⟩
 ·rw[h.hs]
  show _=dsum d i+d i*2^i+_
  rw[h.hz i (Nat.le_refl _),Int.zero_mul,Int.add_zero,hdiv,show n/2^i+c=(n/2^i/2+c)*2 by have:=h.hc;omega]
  rw[show (2:Int)^(i+1)=2^i*2 by rw[Int.pow_succ]]
  generalize (2:Int)^i=t
  rw[Int.natCast_mul,Int.mul_assoc,Int.mul_comm (2:Nat) t]
  rfl
 ·have h1:i=256:=by omega
  have h2:n/2^i=0:=high hn (by omega)
  rw[hdiv,h2]
  rw[h2] at hb
  omega
theorem DI.take {n i c:Nat} {d:Nat→Int} (h:DI n d i c) (hn:n<2^256) (hi:i<257) (hb:n/2^i%2≠c) :
 DI n (upd d i (((n/2^i%32+c:Nat):Int)-32*(((n/2^i%32+c)/16:Nat):Int))) (i+5) ((n/2^i%32+c)/16):=by
 have hdiv:n/2^(i+5)=n/2^i/32:=by rw[Nat.pow_add,Nat.div_div_eq_div_mul]
 have hc:=h.hc
 have hodd:(n/2^i%32+c)%2=1:=by omega
 have hlt:n/2^i%32+c<32:=by omega
 refine ⟨by omega,fun j hj=>?_,fun j hj=>?_,fun j=>?_,?_,fun h257=>?_⟩
 ·rw[upd_other (by omega)];exact h.hz j (by omega)
 ·rw[upd_other (by omega)];exact h.hw j hj
 ·by_cases hj:j=i
  ·subst hj
   rw[upd_same]
   right
   omega
  ·rw[upd_other hj];exact h.ho j
 ·rw[show i+5=i+1+4 by omega,dsum_upd i _ h.hz 4,show i+1+4=i+5 by omega,h.hs,Int.add_assoc]
  congr 1
  rw[hdiv,Int.pow_add,show (2:Int)^5=32 by decide,← Int.mul_comm (32:Int),← Int.mul_assoc,← Int.add_mul]
  congr 1
  omega
 ·have h2:n/2^i<16:=by
   rw[Nat.div_lt_iff_lt_mul (Nat.pow_pos (by decide))]
   refine Nat.lt_of_lt_of_le hn ?_
   calc 2^256=16*2^252:=by decide +kernel
    _≤16*2^i:=Nat.mul_le_mul (Nat.le_refl _) (Nat.pow_le_pow_right (by decide) (by omega))
  rw[hdiv]
  generalize n/2^i=m at h2 hb hodd hlt ⊢
  rw[Nat.mod_eq_of_lt (show m<32 by omega)] at hodd ⊢
  have h3:m+c<16:=by omega
  rw[Nat.div_eq_of_lt h3,Nat.div_eq_of_lt (show m<32 by omega)]
theorem DI.all {n i c:Nat} {d:Nat→Int} (h:DI n d i c) (hi:257≤i):(n:Int)=dsum d 257:=by
 have h1:=h.hs
 rw[h.he hi,Int.natCast_zero,Int.zero_mul,Int.add_zero] at h1
 rw[h1,show i=257+(i-257) by omega,dsum_pad 257 h.hw]
def hor (d:Nat→Int):Nat→Int
 | 0=>0
 | k+1=>2*hor d k+d (256-k)
theorem hor_sum (d:Nat→Int):∀ k,k≤257→hor d k*2^(257-k)+dsum d (257-k)=dsum d 257
 | 0,_=>by show 0*_+_=_;rw[Int.zero_mul,Int.zero_add]
 | k+1,hk=>by
  rw[← hor_sum d k (by omega)]
  show (2*hor d k+d (256-k))*2^(257-(k+1))+dsum d (257-(k+1))=_
  rw[show 257-(k+1)=256-k by omega,show 257-k=(256-k)+1 by omega]
  show _=hor d k*2^(256-k+1)+(dsum d (256-k)+d (256-k)*2^(256-k))
  rw[Int.pow_succ]
  generalize (2:Int)^(256-k)=t
  generalize hor d k=a
  generalize dsum d (256-k)=b
  rw[Int.add_mul,Int.mul_comm t 2,← Int.mul_assoc,Int.mul_comm a 2]
  omega
theorem hor_all {n i c:Nat} {d:Nat→Int} (h:DI n d i c) (hi:257≤i):hor d 257=(n:Int):=by
 have h1:=hor_sum d 257 (Nat.le_refl _)
 rw[Nat.sub_self] at h1
 rw[h.all hi,← h1]
 show hor d 257=hor d 257*1+0
 omega
end DG
section
open Go.RowKit Go.Sort
variable {P:Nat} [NeZero P] {N:Nat}
theorem at138 (k o i:Nat) (hi:i<257) (w:World):(Instr.indexAt 105 (.pointer (some ⟨k,o,none⟩)) (.int .i64 i)).run Tryd.prog w=.ok (.pointer (some ⟨k,o+i,none⟩)) w:=by
 have h1:¬ (i:Int)<0:=by omega
 have h2:(i:Int)<257:=by omega
 go_simp
theorem at138z (k i:Nat) (hi:i<257) (w:World):(Instr.indexAt 105 (.pointer (some ⟨k,0,none⟩)) (.int .i64 i)).run Tryd.prog w=.ok (.pointer (some ⟨k,i,none⟩)) w:=by
 rw[at138 k 0 i hi,Nat.zero_add]
theorem at136 (k o i:Nat) (hi:i<8) (w:World):(Instr.indexAt 103 (.pointer (some ⟨k,o,none⟩)) (.int .i64 i)).run Tryd.prog w=.ok (.pointer (some ⟨k,o+12*i,none⟩)) w:=by
 have h1:¬ (i:Int)<0:=by omega
 have h2:(i:Int)<8:=by omega
 go_simp
theorem at136b (k o i:Nat) (hi:i<8) (w:World):(Instr.indexAt 103 (.pointer (some ⟨k,o,none⟩)) (.int .i8 i)).run Tryd.prog w=.ok (.pointer (some ⟨k,o+12*i,none⟩)) w:=by
 have h1:¬ (i:Int)<0:=by omega
 have h2:(i:Int)<8:=by omega
 go_simp
theorem at135 (k n c i:Nat) (hi:i<n) (w:World):(Instr.indexAt 99 (.slice (some ⟨k,0,none⟩) n c) (.int .i64 i)).run Tryd.prog w=.ok (.pointer (some ⟨k,353*i,none⟩)) w:=by
 have h1:¬ (i:Int)<0:=by omega
 have h2:(i:Int)<n:=by omega
 go_simp
theorem at82 (k o n c i:Nat) (hi:i<n) (w:World):(Instr.indexAt 69 (.slice (some ⟨k,o,none⟩) n c) (.int .i64 i)).run Tryd.prog w=.ok (.pointer (some ⟨k,o+4*i,none⟩)) w:=by
 have h1:¬ (i:Int)<0:=by omega
 have h2:(i:Int)<n:=by omega
 go_simp
theorem at112 (k o n c i:Nat) (hi:i<n) (w:World):(Instr.indexAt 72 (.slice (some ⟨k,o,none⟩) n c) (.int .i64 i)).run Tryd.prog w=.ok (.pointer (some ⟨k,o+8*i,none⟩)) w:=by
 have h1:¬ (i:Int)<0:=by omega
 have h2:(i:Int)<n:=by omega
 go_simp
theorem i8neg (d:Int) (hd:-15≤d∧d≤15) (w:World):(Op.unary .neg (.int .i8 d)).run Tryd.prog w=.ok (.int .i8 (-d)) w:=by
 have h:=IntWalk.i8_in (-d) (by omega)
 go_simp
theorem i8quo (k:Nat) (hk:k<8) (w:World):(binOp .quo 104 (.int .i8 (2*(k:Int)+1)) (.int .i8 2)).run Tryd.prog w=.ok (.int .i8 k) w:=by
 have h0:(2*(k:Int)+1).tdiv 2=(k:Int):=by rw[Int.tdiv_eq_ediv_of_nonneg (by omega)];omega
 have h:=IntWalk.i8_in (k:Int) (by omega)
 go_simp
theorem shr4 (g:Nat) (hg:g<32) (w:World):(binOp .shr 3 (.int .i64 g) (.int .u64 4)).run Tryd.prog w=.ok (.int .i64 ((g/16:Nat):Int)) w:=by
 go_simp
theorem shl5 (g:Nat) (hg:g<32) (w:World):(binOp .shl 3 (.int .i64 g) (.int .u64 5)).run Tryd.prog w=.ok (.int .i64 (32*(g:Int))) w:=by
 have h:=IntWalk.i64_in (32*(g:Int)) (by omega)
 have h2:(g:Int)*32=32*(g:Int):=by omega
 go_simp
theorem sub64i (a b:Int) (ha:-1000≤a∧a≤1000) (hb:-1000≤b∧b≤1000) (w:World):(binOp .sub 3 (.int .i64 a) (.int .i64 b)).run Tryd.prog w=.ok (.int .i64 (a-b)) w:=by
 have h:=IntWalk.i64_in (a-b) (by omega)
 go_simp
theorem addn (a b:Nat) (ha:a≤1000000) (hb:b≤1000000) (w:World):(binOp .add 3 (.int .i64 a) (.int .i64 b)).run Tryd.prog w=.ok (.int .i64 ((a+b:Nat):Int)) w:=by
 have h:=IntWalk.i64_in ((a:Int)+(b:Int)) (by omega)
 go_simp
theorem cv8 (v:Int) (hv:-15≤v∧v≤15) (w:World):(convert 3 104 (.int .i64 v)).run Tryd.prog w=.ok (.int .i8 v) w:=by
 have h:=IntWalk.i8_in v (by omega)
 go_simp
theorem cmp_t {b c:Nat} (e:b=c) (w:World):(binOp .eql 3 (.int .i64 b) (.int .i64 c)).run Tryd.prog w=.ok (.bool true) w:=by
 subst e
 go_simp
theorem cmp_f {b c:Nat} (e:¬ b=c) (w:World):(binOp .eql 3 (.int .i64 b) (.int .i64 c)).run Tryd.prog w=.ok (.bool false) w:=by
 have h:¬ (b:Int)=(c:Int):=by omega
 go_simp
theorem lssn_t {i n:Nat} (e:i<n) (w:World):(binOp .lss 3 (.int .i64 i) (.int .i64 n)).run Tryd.prog w=.ok (.bool true) w:=by
 have h:(i:Int)<(n:Int):=by omega
 go_simp
theorem lssn_f {i n:Nat} (e:¬ i<n) (w:World):(binOp .lss 3 (.int .i64 i) (.int .i64 n)).run Tryd.prog w=.ok (.bool false) w:=by
 have h:¬ (i:Int)<(n:Int):=by omega
 go_simp
theorem Bits_c {n f c:Nat} (hn:n<top) (hf:f≤256) (hc:c≤32):Gives 88 #[nv n,.int .i64 f,.int .i64 c] (.int .i64 ((n/2^f%2^c:Nat):Int)):=fun w =>
 (Bits_any _ n f c (four_nv hn) hf hc w).mono (by rintro e w' ⟨v,rfl,hb,rfl⟩;exact ⟨_,rfl,hb,rfl⟩)
def dg (d:Nat→Int):List Value:=(List.range 257).map (fun j=>Value.int .i8 (d j))
def dv (d:Nat→Int):Value:=.agg (dg d).toArray
theorem dg_length (d:Nat→Int):(dg d).length=257:=by unfold dg;rw[List.length_map,List.length_range]
theorem dg_at (d:Nat→Int) (j:Nat) (hj:j<257):(dg d)[j]? = some (.int .i8 (d j)):=by
 unfold dg
 rw[List.getElem?_map,List.getElem?_range hj]
 rfl
theorem dg_set (d:Nat→Int) (i:Nat) (v:Int):dg (DG.upd d i v)=(dg d).set i (.int .i8 v):=by
 apply List.ext_getElem?
 intro j
 rw[List.getElem?_set]
 by_cases hj:j<257
 ·rw[dg_at _ j hj,dg_at _ j hj]
  by_cases hij:i=j
  ·subst hij
   rw[if_pos rfl,if_pos (by rw[dg_length];exact hj),DG.upd_same]
  ·rw[if_neg hij,DG.upd_other (fun h=>hij h.symm)]
 ·rw[List.getElem?_eq_none (by rw[dg_length];omega)]
  by_cases hij:i=j
  ·rw[if_pos hij,if_neg (by rw[dg_length];omega)]
  ·rw[if_neg hij,List.getElem?_eq_none (by rw[dg_length];omega)]
theorem dg_one (d:Nat→Int):(dg d).all (·.oneCell')=true:=by
 unfold dg
 rw[List.all_map]
 exact List.all_eq_true.2 fun _ _=>rfl
theorem dg_sub (d:Nat→Int):((dg d).drop 0).take (dg d).length=dg d:=by rw[List.drop_zero,List.take_length]
def dgo (n:Nat):Nat→(Nat→Int)→Nat→Nat→(Nat→Int)
 | 0,d,_,_=>d
 | f+1,d,i,c=>if i<257 then (if n/2^i%2=c then dgo n f d (i+1) c else
  dgo n f (DG.upd d i (((n/2^i%32+c:Nat):Int)-32*(((n/2^i%32+c)/16:Nat):Int))) (i+5) ((n/2^i%32+c)/16)) else d
theorem dgo_end (n:Nat) (f:Nat) (d:Nat→Int) (i c:Nat) (h:¬ i<257):dgo n f d i c=d:=by
 cases f with
 | zero=>rfl
 | succ f=>rw[dgo,if_neg h]
theorem dgo_DI {n:Nat} (hn:n<2^256):∀ (f:Nat) (d:Nat→Int) (i c:Nat),DG.DI n d i c→257≤i+f→∃ i' c',257≤i'∧DG.DI n (dgo n f d i c) i' c'
 | 0,d,i,c,h,hf=>⟨i,c,by omega,h⟩
 | f+1,d,i,c,h,hf=>by
  by_cases hi:i<257
  ·rw[dgo,if_pos hi]
   by_cases hb:n/2^i%2=c
   ·rw[if_pos hb]
    exact dgo_DI hn f d (i+1) c (h.skip hn hi hb) (by omega)
   ·rw[if_neg hb]
    exact dgo_DI hn f _ (i+5) _ (h.take hn hi hb) (by omega)
  ·rw[dgo_end n _ d i c hi]
   exact ⟨i,c,by omega,h⟩
def digs (n:Nat):Nat→Int:=dgo n 257 (fun _=>0) 0 0
theorem digs_DI {n:Nat} (hn:n<2^256):∃ i c,257≤i∧DG.DI n (digs n) i c:=dgo_DI hn 257 _ 0 0 (DG.DI.start n) (by omega)
theorem u138:(Tryd.prog.underlying 105).map (·.isRow)=some true:=by kernel_rfl
theorem i138:(Tryd.prog.info? 105).map (·.size)=some 257:=by kernel_rfl
theorem i137:(Tryd.prog.info? 104).map (·.size)=some 1:=by kernel_rfl
theorem u137:(Tryd.prog.underlying 104).map (·.isRow)=some false:=by kernel_rfl
theorem al138 (w:World):(Instr.alloc 105 true (.tuple #[])).run Tryd.prog w=.ok (.pointer (some ⟨w.heap.size,0,none⟩)) (w.alloc (.cells (dg (fun _=>0)).toArray 105)):=by kernel_rfl
theorem digits_c {n:Nat} (hn:n<top):Gives 63 #[nv n] (dv (digs n)):=by
 intro w
 go_enter Tryd.func63,Tryd.ntmps63
 refine RG.var1 (v0:=nv n) (n:=33) (by kernel_rfl) (by kernel_rfl) (by kernel_rfl) ?_
 intro a0 sl0 f0
 have hS0:=RG.St.begin w
 have M0:RG.M w w.heap.size [] 33 [] [] [(0,(.v (nv n)))] a0 _:=⟨hS0,sl0,⟨f0,trivial⟩⟩
 repeat refine wp_seq ?_
 refine M0.t [.m 1 [] 0,.m 2 [] 1] [(0,(wn n)),(1,(dg (fun _=>0)))] [] [(wn n),(dg (fun _=>0))] [(1,(.p 0 0)),(2,(.p 1 0))] ⟨RG.mk 0 44,RG.cert_alloc 1 rfl rfl _ rfl 105 rfl (al138),trivial⟩ ?_
 intro j1 i1 a1 w1 M1
 repeat refine wp_seq ?_
 refine M1.t [.m 3 [] 2] [(0,(dg (fun _=>0)))] [] [(wn n),(dg (fun _=>0)),(dg (fun _=>0))] [(1,(.p 0 0)),(2,(.p 1 0)),(3,(.p 2 0))] ⟨RG.cert_alloc 2 rfl rfl _ rfl 105 rfl (al138),trivial⟩ ?_
 intro j2 a2 w2 M2
 repeat refine wp_seq ?_
 refine M2.u [.x 4 [] (.int .i64 0)] [(1,(.p 0 0)),(2,(.p 1 0)),(3,(.p 2 0)),(4,(.v (.int .i64 0)))] ⟨RG.st,trivial⟩ ?_
 intro a3 w3 M3
 repeat refine wp_seq ?_
 refine M3.u [.x 5 [] (.int .i64 0)] [(1,(.p 0 0)),(2,(.p 1 0)),(3,(.p 2 0)),(4,(.v (.int .i64 0))),(5,(.v (.int .i64 0)))] ⟨RG.st,trivial⟩ ?_
 intro a4 w4 M4
 have f1_4:a4.tmps[1]? = some (.pointer (some ⟨j1,0,none⟩)):=M4.at (s:=(.p 0 0))
 have f2_4:a4.tmps[2]? = some (.pointer (some ⟨i1,0,none⟩)):=M4.at (s:=(.p 1 0))
 have f3_4:a4.tmps[3]? = some (.pointer (some ⟨j2,0,none⟩)):=M4.at (s:=(.p 2 0))
 have f4_4:a4.tmps[4]? = some (.int .i64 0):=M4.at (s:=(.v (.int .i64 0)))
 have f5_4:a4.tmps[5]? = some (.int .i64 0):=M4.at (s:=(.v (.int .i64 0)))
 repeat refine wp_seq ?_
 refine wp_block ?_
 refine wp_loop_ghost (fun m a wr=>∃ (d:Nat→Int) (i c:Nat),c≤1∧i≤261∧257≤i+m∧dgo n m d i c=digs n∧RG.Sl a 33∧a.tmps[1]? = some (.pointer (some ⟨j1,0,none⟩))∧a.tmps[2]? = some (.pointer (some ⟨i1,0,none⟩))∧a.tmps[3]? = some (.pointer (some ⟨j2,0,none⟩))∧a.tmps[4]? = some (.int .i64 c)∧a.tmps[5]? = some (.int .i64 i)∧RG.St w w.heap.size [] [wn n,dg (fun _=>0),dg d] [j1,i1,j2] wr) 257 ⟨fun _=>0,0,0,by omega,by omega,by omega,rfl,M4.sl,f1_4,f2_4,f3_4,f4_4,f5_4,M4.st⟩ ?_
 intro m a wr
 rintro ⟨d,i,c,hc,hi2,hm,hd,sl,f1,f2,f3,f4,f5,hS⟩
 obtain ⟨b,hbv⟩:∃ b,n/2^i%2=b:=⟨_,rfl⟩
 obtain ⟨e,hev⟩:∃ e,n/2^i%32=e:=⟨_,rfl⟩
 obtain ⟨g,hgv⟩:∃ g,e+c=g:=⟨_,rfl⟩
 obtain ⟨v,hvv⟩:∃ v:Int,(g:Int)-32*((g/16:Nat):Int)=v:=⟨_,rfl⟩
 generalize j1=k1 at f1 f2 f3 hS
 generalize i1=k2 at f1 f2 f3 hS
 generalize j2=k3 at f1 f2 f3 hS
 by_cases hi:i<257
 ·have hB1:Gives 88 #[nv n,.int .i64 i,.int .i64 1] (.int .i64 b):=by rw[← hbv];exact Bits_c (c:=1) hn (by omega) (by omega)
  have hB5:Gives 88 #[nv n,.int .i64 i,.int .i64 5] (.int .i64 e):=by rw[← hev];exact Bits_c (c:=5) hn (by omega) (by omega)
  have hm0:∃ m',m=m'+1:=by
   cases m with
   | zero=>exact absurd hm (by omega)
   | succ m'=>exact ⟨m',rfl⟩
  obtain ⟨m',rfl⟩:=hm0
  rw[dgo,if_pos hi,hbv,hev,hgv,hvv] at hd
  by_cases hb:b=c
  ·rw[if_pos hb] at hd
   have M0:RG.M w w.heap.size [] 33 [(wn n),(dg (fun _=>0)),(dg d)] [k1,k2,k3] [(1,(.p 0 0)),(2,(.p 1 0)),(3,(.p 2 0)),(4,(.v (.int .i64 c))),(5,(.v (.int .i64 i)))] a _:=⟨hS,sl,⟨f1,f2,f3,f4,f5,trivial⟩⟩
   repeat refine wp_seq ?_
   refine M0.u [.x 7 [] (.int .i64 i),.x 8 [(7,0)] (.bool true)] [(1,(.p 0 0)),(2,(.p 1 0)),(3,(.p 2 0)),(4,(.v (.int .i64 c))),(5,(.v (.int .i64 i))),(8,(.v (.bool true)))] ⟨RG.st,RG.cert_binc rfl .lss 3 3 7 (.int .i64 i) (.int .i64 257) (.bool true) rfl rfl RG.sx (fun w=>by kernel_rfl) (lssn_t (n:=257) hi),trivial⟩ ?_
   intro a1 w1 M1
   repeat refine wp_seq ?_
   refine wp_cond_true M1.ev ?_
   refine wp_skip ?_
   refine wp_seq ?_
   refine wp_block ?_
   repeat refine wp_seq ?_
   refine M1.u [.x 11 [] (nv n),.x 12 [] (.int .i64 i),.c 13 [(11,0),(12,1)] (.int .i64 b),.x 14 [] (.int .i64 c),.x 15 [(13,2),(14,3)] (.bool true)] [(1,(.p 0 0)),(2,(.p 1 0)),(3,(.p 2 0)),(4,(.v (.int .i64 c))),(5,(.v (.int .i64 i))),(15,(.v (.bool true)))] ⟨RG.ld u85 i85,RG.st,RG.cl (hB1),RG.st,RG.cert_bin rfl .eql 3 3 13 14 (.int .i64 b) (.int .i64 c) (.bool true) rfl rfl RG.sx RG.sx (fun w=>by kernel_rfl) (cmp_t hb),trivial⟩ ?_
   intro a2 w2 M2
   repeat refine wp_seq ?_
   refine wp_cond_true M2.ev ?_
   refine wp_exit ?_
   dsimp only[Exit.then,Exit.inBlock]
   rw[if_pos rfl]
   repeat refine wp_seq ?_
   refine M2.u [.x 9 [] (.int .i64 i),.x 10 [(9,0)] (.int .i64 ((i+1:Nat):Int)),.x 5 [(10,1)] (.int .i64 ((i+1:Nat):Int))] [(1,(.p 0 0)),(2,(.p 1 0)),(3,(.p 2 0)),(4,(.v (.int .i64 c))),(5,(.v (.int .i64 ((i+1:Nat):Int))))] ⟨RG.st,RG.cert_binc rfl .add 3 3 9 (.int .i64 i) (.int .i64 1) (.int .i64 ((i+1:Nat):Int)) rfl rfl RG.sx (fun w=>by kernel_rfl) (addn i 1 (by omega) (by omega)),RG.st,trivial⟩ ?_
   intro a3 w3 M3
   have f1_3:a3.tmps[1]? = some (.pointer (some ⟨k1,0,none⟩)):=M3.at (s:=(.p 0 0))
   have f2_3:a3.tmps[2]? = some (.pointer (some ⟨k2,0,none⟩)):=M3.at (s:=(.p 1 0))
   have f3_3:a3.tmps[3]? = some (.pointer (some ⟨k3,0,none⟩)):=M3.at (s:=(.p 2 0))
   have f4_3:a3.tmps[4]? = some (.int .i64 c):=M3.at (s:=(.v (.int .i64 c)))
   have f5_3:a3.tmps[5]? = some (.int .i64 ((i+1:Nat):Int)):=M3.at (s:=(.v (.int .i64 ((i+1:Nat):Int))))
   show ∃ n',_
   exact ⟨m',Nat.lt_succ_self m',d,i+1,c,hc,by omega,by omega,hd,M3.sl,f1_3,f2_3,f3_3,f4_3,f5_3,M3.st⟩
  ·rw[if_neg hb] at hd
   have he:e<32:=by omega
   have hpar:g%2=1:=by omega
   have hg:g<32:=by omega
   have hv:-15≤v∧v≤15:=by omega
   have hadd:∀ w,(binOp .add 3 (.int .i64 e) (.int .i64 c)).run Tryd.prog w=.ok (.int .i64 g) w:=fun w=>by rw[addn e c (by omega) (by omega),hgv]
   have hsub:∀ w,(binOp .sub 3 (.int .i64 g) (.int .i64 (32*((g/16:Nat):Int)))).run Tryd.prog w=.ok (.int .i64 v) w:=fun w=>by rw[sub64i _ _ (by omega) (by omega),hvv]
   have M0:RG.M w w.heap.size [] 33 [(wn n),(dg (fun _=>0)),(dg d)] [k1,k2,k3] [(1,(.p 0 0)),(2,(.p 1 0)),(3,(.p 2 0)),(4,(.v (.int .i64 c))),(5,(.v (.int .i64 i)))] a _:=⟨hS,sl,⟨f1,f2,f3,f4,f5,trivial⟩⟩
   repeat refine wp_seq ?_
   refine M0.u [.x 7 [] (.int .i64 i),.x 8 [(7,0)] (.bool true)] [(1,(.p 0 0)),(2,(.p 1 0)),(3,(.p 2 0)),(4,(.v (.int .i64 c))),(5,(.v (.int .i64 i))),(8,(.v (.bool true)))] ⟨RG.st,RG.cert_binc rfl .lss 3 3 7 (.int .i64 i) (.int .i64 257) (.bool true) rfl rfl RG.sx (fun w=>by kernel_rfl) (lssn_t (n:=257) hi),trivial⟩ ?_
   intro a1 w1 M1
   repeat refine wp_seq ?_
   refine wp_cond_true M1.ev ?_
   refine wp_skip ?_
   refine wp_seq ?_
   refine wp_block ?_
   repeat refine wp_seq ?_
   refine M1.u [.x 11 [] (nv n),.x 12 [] (.int .i64 i),.c 13 [(11,0),(12,1)] (.int .i64 b),.x 14 [] (.int .i64 c),.x 15 [(13,2),(14,3)] (.bool false)] [(1,(.p 0 0)),(2,(.p 1 0)),(3,(.p 2 0)),(4,(.v (.int .i64 c))),(5,(.v (.int .i64 i))),(15,(.v (.bool false)))] ⟨RG.ld u85 i85,RG.st,RG.cl (hB1),RG.st,RG.cert_bin rfl .eql 3 3 13 14 (.int .i64 b) (.int .i64 c) (.bool false) rfl rfl RG.sx RG.sx (fun w=>by kernel_rfl) (cmp_f hb),trivial⟩ ?_
   intro a2 w2 M2
   repeat refine wp_seq ?_
   refine wp_cond_false M2.ev ?_
   refine wp_skip ?_
   repeat refine wp_seq ?_
   refine M2.u [.x 16 [] (nv n),.x 17 [] (.int .i64 i),.c 18 [(16,0),(17,1)] (.int .i64 e),.x 19 [] (.int .i64 c),.x 20 [(18,2),(19,3)] (.int .i64 g),.x 6 [(20,4)] (.int .i64 g)] [(1,(.p 0 0)),(2,(.p 1 0)),(3,(.p 2 0)),(4,(.v (.int .i64 c))),(5,(.v (.int .i64 i))),(6,(.v (.int .i64 g)))] ⟨RG.ld u85 i85,RG.st,RG.cl (hB5),RG.st,RG.cert_bin rfl .add 3 3 18 19 (.int .i64 e) (.int .i64 c) (.int .i64 g) rfl rfl RG.sx RG.sx (fun w=>by kernel_rfl) (hadd),RG.st,trivial⟩ ?_
   intro a3 w3 M3
   repeat refine wp_seq ?_
   refine M3.u [.x 21 [] (.int .i64 g),.x 22 [(21,0)] (.int .i64 ((g/16:Nat):Int)),.x 4 [(22,1)] (.int .i64 ((g/16:Nat):Int))] [(1,(.p 0 0)),(2,(.p 1 0)),(3,(.p 2 0)),(4,(.v (.int .i64 ((g/16:Nat):Int)))),(5,(.v (.int .i64 i))),(6,(.v (.int .i64 g)))] ⟨RG.st,RG.cert_binc rfl .shr 3 86 21 (.int .i64 g) (.int .u64 4) (.int .i64 ((g/16:Nat):Int)) rfl rfl RG.sx (fun w=>by kernel_rfl) (shr4 g hg),RG.st,trivial⟩ ?_
   intro a4 w4 M4
   repeat refine wp_seq ?_
   refine M4.t [.x 23 [] (.int .i64 i),.x 24 [] (.int .i64 g),.x 25 [] (.int .i64 ((g/16:Nat):Int)),.x 26 [(25,2)] (.int .i64 (32*((g/16:Nat):Int))),.x 27 [(24,1),(26,3)] (.int .i64 v),.x 28 [(27,4)] (.int .i8 v),.s 29 [(23,0)] (.p 2 i),.u [(29,6),(28,5)] 2] [] [(2,7,(dg (DG.upd d i v)))] [(wn n),(dg (fun _=>0)),(dg (DG.upd d i v))] [(1,(.p 0 0)),(2,(.p 1 0)),(3,(.p 2 0)),(4,(.v (.int .i64 ((g/16:Nat):Int)))),(5,(.v (.int .i64 i)))] ⟨RG.st,RG.st,RG.st,RG.cert_binc rfl .shl 3 86 25 (.int .i64 ((g/16:Nat):Int)) (.int .u64 5) (.int .i64 (32*((g/16:Nat):Int))) rfl rfl RG.sx (fun w=>by kernel_rfl) (shl5 (g/16) (by omega)),RG.cert_bin rfl .sub 3 3 24 26 (.int .i64 g) (.int .i64 (32*((g/16:Nat):Int))) (.int .i64 v) rfl rfl RG.sx RG.sx (fun w=>by kernel_rfl) (hsub),RG.cert_conv rfl 3 104 27 (.int .i64 v) (.int .i8 v) rfl rfl RG.sx (cv8 v hv),RG.cert_idx rfl 105 3 23 rfl (.p 2 0) (.int .i64 i) RG.sx RG.sx (fun μ w=>at138z _ i hi w),RG.cert_put1 2 i rfl _ rfl 104 (.tmp 29) (.tmp 28) (.int .i8 v) rfl rfl RG.sx RG.sx (by show i<(dg _).length;rw[dg_length];exact hi) (dg_set d i v) i137 rfl rfl,trivial⟩ ?_
   intro a5 w5 M5
   repeat refine wp_seq ?_
   refine M5.u [.x 30 [] (.int .i64 i),.x 31 [(30,0)] (.int .i64 ((i+4:Nat):Int)),.x 5 [(31,1)] (.int .i64 ((i+4:Nat):Int))] [(1,(.p 0 0)),(2,(.p 1 0)),(3,(.p 2 0)),(4,(.v (.int .i64 ((g/16:Nat):Int)))),(5,(.v (.int .i64 ((i+4:Nat):Int))))] ⟨RG.st,RG.cert_binc rfl .add 3 3 30 (.int .i64 i) (.int .i64 4) (.int .i64 ((i+4:Nat):Int)) rfl rfl RG.sx (fun w=>by kernel_rfl) (addn i 4 (by omega) (by omega)),RG.st,trivial⟩ ?_
   intro a6 w6 M6
   repeat refine wp_seq ?_
   refine M6.u [.x 9 [] (.int .i64 ((i+4:Nat):Int)),.x 10 [(9,0)] (.int .i64 ((i+4+1:Nat):Int)),.x 5 [(10,1)] (.int .i64 ((i+4+1:Nat):Int))] [(1,(.p 0 0)),(2,(.p 1 0)),(3,(.p 2 0)),(4,(.v (.int .i64 ((g/16:Nat):Int)))),(5,(.v (.int .i64 ((i+4+1:Nat):Int))))] ⟨RG.st,RG.cert_binc rfl .add 3 3 9 (.int .i64 ((i+4:Nat):Int)) (.int .i64 1) (.int .i64 ((i+4+1:Nat):Int)) rfl rfl RG.sx (fun w=>by kernel_rfl) (addn (i+4) 1 (by omega) (by omega)),RG.st,trivial⟩ ?_
   intro a7 w7 M7
   have f1_7:a7.tmps[1]? = some (.pointer (some ⟨k1,0,none⟩)):=M7.at (s:=(.p 0 0))
   have f2_7:a7.tmps[2]? = some (.pointer (some ⟨k2,0,none⟩)):=M7.at (s:=(.p 1 0))
   have f3_7:a7.tmps[3]? = some (.pointer (some ⟨k3,0,none⟩)):=M7.at (s:=(.p 2 0))
   have f4_7:a7.tmps[4]? = some (.int .i64 ((g/16:Nat):Int)):=M7.at (s:=(.v (.int .i64 ((g/16:Nat):Int))))
   have f5_7:a7.tmps[5]? = some (.int .i64 ((i+4+1:Nat):Int)):=M7.at (s:=(.v (.int .i64 ((i+4+1:Nat):Int))))
   show ∃ n',_
   exact ⟨m',Nat.lt_succ_self m',DG.upd d i v,i+5,g/16,by omega,by omega,by omega,hd,M7.sl,f1_7,f2_7,f3_7,f4_7,f5_7,M7.st⟩
 ·have hD:d=digs n:=by rw[← hd,dgo_end n m d i c hi]
  have M0:RG.M w w.heap.size [] 33 [(wn n),(dg (fun _=>0)),(dg d)] [k1,k2,k3] [(1,(.p 0 0)),(2,(.p 1 0)),(3,(.p 2 0)),(4,(.v (.int .i64 c))),(5,(.v (.int .i64 i)))] a _:=⟨hS,sl,⟨f1,f2,f3,f4,f5,trivial⟩⟩
  repeat refine wp_seq ?_
  refine M0.u [.x 7 [] (.int .i64 i),.x 8 [(7,0)] (.bool false)] [(2,(.p 1 0)),(3,(.p 2 0)),(8,(.v (.bool false)))] ⟨RG.st,RG.cert_binc rfl .lss 3 3 7 (.int .i64 i) (.int .i64 257) (.bool false) rfl rfl RG.sx (fun w=>by kernel_rfl) (lssn_f (n:=257) hi),trivial⟩ ?_
  intro a1 w1 M1
  repeat refine wp_seq ?_
  refine wp_cond_false M1.ev ?_
  refine wp_exit ?_
  dsimp only[Exit.then,Exit.inBlock]
  rw[if_pos rfl]
  repeat refine wp_seq ?_
  refine M1.t [.x 32 [] (dv d),.u [(32,0)] 1] [] [(1,1,(dg d))] [(wn n),(dg d),(dg d)] [(2,(.p 1 0))] ⟨RG.cert_load rfl 2 0 _ rfl rfl (by kernel_rfl) 105 3 rfl (dg d) rfl RG.sx (dg_sub _) u138 (by rw[dg_length];exact i138),RG.cert_put 1 rfl _ rfl 105 (.tmp 2) (.tmp 32) rfl rfl (by show (dg _).length=(dg _).length;rw[dg_length,dg_length]) RG.sx RG.sx (by show _=some (dg _).length;rw[dg_length];exact i138) (dg_one _),trivial⟩ ?_
  intro a2 w2 M2
  refine wp_ret ?_
  refine bodyPost_ret (v:=dv d) (RG.results_row M2.st 2 105 rfl 1 _ rfl (M2.at (s:=(.p 1 0))) u138 (by rw[dg_length];exact i138)) M2.sl.defers ?_
  exact ⟨_,rfl,M2.st.bel.below,by rw[hD]⟩
omit [NeZero P] in
theorem tw_length (t:T3 P):(tw t).length=12:=rfl
omit [NeZero P] in
theorem tw_one (t:T3 P):(tw t).all (·.oneCell')=true:=rfl
def od (x y:Fin P):Nat→T3 P
 | 0=>raJ x y
 | q+1=>plJ (od x y q) (twJ (raJ x y))
theorem od_J (C:Fld P) {x y:Fin P} {p:EC.Pt P} (h:EC.Pair x y p) (hp:EC.On p):∀ q,JacT (od x y q) (EC.zmul ((2*q+1:Nat):Int) p)
 | 0=>by
  show JacT (raJ x y) (EC.zmul 1 p)
  rw[EC.zmul_one]
  exact raJ_J C h hp
 | q+1=>by
  have h1:=od_J C h hp q
  have h2:=(raJ_J C h hp).twice C
  have h3:=h1.plus C h2
  have e:EC.zmul ((2*(q+1)+1:Nat):Int) p=EC.add (EC.zmul ((2*q+1:Nat):Int) p) (EC.add p p):=by
   have:EC.add p p=EC.zmul 2 p:=by
    rw[show (2:Int)=1+1 by rfl,EC.zmul_add C.cur hp,EC.zmul_one]
   rw[this,← EC.zmul_add C.cur hp]
   congr 1
  rw[e]
  exact h3
structure Fi (x y:Fin P) (D:Nat→Int) (C0:List Value) (off m:Nat) (C:List Value):Prop where
 len:C.length=C0.length
 out:∀ j,j<off∨off+353≤j→C[j]? = C0[j]?
 dig:∀ j,j<257→C[off+96+j]? = some (.int .i8 (D j))
 odd:∀ q j,q<m→j<12→C[off+12*q+j]? = (tw (od x y q))[j]?
theorem Fi.first {x y:Fin P} {D:Nat→Int} {C0:List Value} {off:Nat} (h:off+353≤C0.length):Fi x y D C0 off 0 (RG.rep C0 (off+96) (dg D)):=by
 have hl:off+96+(dg D).length≤C0.length:=by rw[dg_length];omega
 refine ⟨RG.rep_length hl,fun j hj=>?_,fun j hj=>?_,fun q j hq _=>by omega⟩
 ·rw[RG.rep_at hl,if_neg (by rw[dg_length];omega)]
 ·rw[RG.rep_at hl,if_pos (by rw[dg_length];omega),show off+96+j-(off+96)=j by omega,dg_at D j hj]
theorem Fi.next {x y:Fin P} {D:Nat→Int} {C0 C:List Value} {off m:Nat} (h:off+353≤C0.length) (hF:Fi x y D C0 off m C) (hm:m<8):Fi x y D C0 off (m+1) (RG.rep C (off+12*m) (tw (od x y m))):=by
 have hlen:=hF.len
 have hl:off+12*m+(tw (od x y m)).length≤C.length:=by rw[tw_length];omega
 refine ⟨by rw[RG.rep_length hl];exact hlen,fun j hj=>?_,fun j hj=>?_,fun q j hq hj=>?_⟩
 ·rw[RG.rep_at hl,if_neg (by rw[tw_length];omega)]
  exact hF.out j hj
 ·rw[RG.rep_at hl,if_neg (by rw[tw_length];omega)]
  exact hF.dig j hj
 ·rw[RG.rep_at hl]
  by_cases hqm:q=m
  ·subst hqm
   rw[if_pos (by rw[tw_length];omega),show off+12*q+j-(off+12*q)=j by omega]
  ·rw[if_neg (by rw[tw_length];omega)]
   exact hF.odd q j (by omega) hj
theorem Fi.sub {x y:Fin P} {D:Nat→Int} {C0 C:List Value} {off m q:Nat} (h:off+353≤C0.length) (hF:Fi x y D C0 off m C) (hq:q<m) (hm:m≤8):(C.drop (off+12*q)).take (tw (od x y q)).length=tw (od x y q):=
 RG.sub_of (fun j hj=>hF.odd q j hq (by rw[tw_length] at hj;exact hj)) (by rw[tw_length];have:=hF.len;omega)
def fc (x y:Fin P) (D:Nat→Int) (C0:List Value) (off:Nat):Nat→List Value
 | 0=>RG.rep C0 (off+96) (dg D)
 | m+1=>RG.rep (fc x y D C0 off m) (off+12*m) (tw (od x y m))
theorem fc_Fi {x y:Fin P} {D:Nat→Int} {C0:List Value} {off:Nat} (h:off+353≤C0.length):∀ m,m≤8→Fi x y D C0 off m (fc x y D C0 off m)
 | 0,_=>Fi.first h
 | m+1,hm=>(fc_Fi h m (by omega)).next h (by omega)
theorem Fi.uniq {x y:Fin P} {D:Nat→Int} {C0 C C':List Value} {off:Nat} (h:Fi x y D C0 off 8 C) (h':Fi x y D C0 off 8 C'):C=C':=by
 apply List.ext_getElem?
 intro j
 by_cases h1:j<off∨off+353≤j
 ·rw[h.out j h1,h'.out j h1]
 ·by_cases h2:j<off+96
  ·have e:j=off+12*((j-off)/12)+(j-off)%12:=by omega
   rw[e,h.odd _ _ (by omega) (by omega),h'.odd _ _ (by omega) (by omega)]
  ·have e:j=off+96+(j-off-96):=by omega
   rw[e,h.dig _ (by omega),h'.dig _ (by omega)]
theorem fill_c (F:Fld P) {n:Nat} (hn:n<top) (x y:Fin P) (C0:List Value) (kt off:Nat) (hoff:off+353≤C0.length) (w:World) (hk:kt<w.heap.size) (ht:w.there kt 0 C0.length) (hr:w.rangeAt kt 0 C0) :
 Calls Tryd.prog 45 #[.pointer (some ⟨kt,off,none⟩),nv n,pv x y] w (Ret fun r w'=>(∃ C,Fi x y (digs n) C0 off 8 C∧RG.PutTo kt C0.length C w w')∧r=.tuple #[]):=by
 obtain ⟨D,hDe⟩:∃ D,digs n=D:=⟨_,rfl⟩
 have hD:Gives 63 #[nv n] (dv D):=hDe ▸ digits_c hn
 obtain ⟨s0,hs0e⟩:∃ s,raJ x y=s:=⟨_,rfl⟩
 have hs0:Gives 64 #[pv x y] (tv s0):=hs0e ▸ raJ_c F x y
 obtain ⟨s2,hs2e⟩:∃ s,twJ s0=s:=⟨_,rfl⟩
 have hs2:Gives 46 #[tv s0] (tv s2):=hs2e ▸ twJ_c F s0
 obtain ⟨C1,hC1e⟩:∃ c,RG.rep C0 (off+96) (dg D)=c:=⟨_,rfl⟩
 have hlD:off+96+(dg D).length≤C0.length:=by rw[dg_length];omega
 have hC1:=hC1e ▸ RG.rep_at hlD
 have hL1:C1.length=C0.length:=hC1e ▸ RG.rep_length hlD
 have F1:Fi x y D C0 off 0 C1:=hC1e ▸ Fi.first hoff
 obtain ⟨C2,hC2e⟩:∃ c,RG.rep C1 (off+0+12*0) (tw s0)=c:=⟨_,rfl⟩
 have hlS:off+0+12*0+(tw s0).length≤C1.length:=by rw[tw_length];omega
 have hC2:=hC2e ▸ RG.rep_at hlS
 have hL2:C2.length=C1.length:=hC2e ▸ RG.rep_length hlS
 have F2:Fi x y D C0 off 1 C2:=by
  have:=F1.next hoff (by decide)
  rw[← hC2e,← hs0e]
  exact this
 have hsub0:(C2.drop (off+0+12*0)).take (tw s0).length=tw s0:=by
  have:=F2.sub hoff (q:=0) (by decide) (by decide)
  rw[← hs0e]
  exact this
 obtain ⟨i,hi0⟩:∃ i:Nat,i=0:=⟨_,rfl⟩
 obtain ⟨s3,-⟩:∃ s:T3 P,s=s0:=⟨_,rfl⟩
 obtain ⟨sp,-⟩:∃ s:T3 P,s=s0:=⟨_,rfl⟩
 go_enter Tryd.func45,Tryd.ntmps45
 refine RG.var3 (v0:=.pointer (some ⟨kt,off,none⟩)) (v1:=nv n) (v2:=pv x y) (n:=43) (by kernel_rfl) (by kernel_rfl) (by kernel_rfl) (by kernel_rfl) (by kernel_rfl) ?_
 intro a0 sl0 f0 f1 f2
 have hS0:=RG.St.lent hk hr ht
 have M0:RG.M w w.heap.size [kt] 43 [C0] [kt] [(0,(.p 0 off)),(1,(.v (nv n))),(2,(.v (pv x y)))] a0 _:=⟨hS0,sl0,⟨f0,f1,f2,trivial⟩⟩
 repeat refine wp_seq ?_
 refine M0.t [.m 4 [] 1,.m 5 [] 2] [(0,(wn n)),(1,(ws x++(ws y)))] [] [C0,(wn n),(ws x++(ws y))] [(0,(.p 0 off)),(4,(.p 1 0)),(5,(.p 2 0))] ⟨RG.mk 1 44,RG.mk 2 53,trivial⟩ ?_
 intro j1 i1 a1 w1 M1
 have f0_1:a1.tmps[0]? = some (.pointer (some ⟨kt,off,none⟩)):=M1.at (s:=(.p 0 off))
 have f4_1:a1.tmps[4]? = some (.pointer (some ⟨j1,0,none⟩)):=M1.at (s:=(.p 1 0))
 have f5_1:a1.tmps[5]? = some (.pointer (some ⟨i1,0,none⟩)):=M1.at (s:=(.p 2 0))
 have M1:RG.M w w.heap.size [kt] 43 [C0,(wn n),(ws x++(ws y))] [kt,j1,i1] [(0,(.p 0 off)),(4,(.p 1 0)),(5,(.p 2 0))] a1 _:=⟨M1.st,M1.sl,⟨f0_1,f4_1,f5_1,trivial⟩⟩
 repeat refine wp_seq ?_
 refine M1.tx [.s 8 [] (.p 0 off),.x 9 [] (nv n),.c 10 [(9,1)] (dv D),.s 11 [(8,0)] (.p 0 off),.s 12 [(11,3)] (.p 0 (off+96)),.u [(12,4),(10,2)] 0] [] [(0,5,C1)] [C1,(wn n),(ws x++(ws y))] [(0,(.p 0 off)),(5,(.p 2 0))] (by kernel_rfl) (congrArg (fun n=>[n]) hL1) ⟨RG.st,RG.ld u85 i85,RG.cl (hD),RG.st,RG.st,RG.cert_putAt 0 (off+96) rfl _ rfl 105 (.tmp 12) (.tmp 10) (dg D) rfl rfl RG.sx RG.sx (by show off+96+(dg D).length≤C0.length;rw[dg_length];omega) (hC1) (by show _=some (dg _).length;rw[dg_length];exact i138) (dg_one _),trivial⟩ ?_
 intro a2 w2 M2
 have f0_2:a2.tmps[0]? = some (.pointer (some ⟨kt,off,none⟩)):=M2.at (s:=(.p 0 off))
 have f5_2:a2.tmps[5]? = some (.pointer (some ⟨i1,0,none⟩)):=M2.at (s:=(.p 2 0))
 have M2:RG.M w w.heap.size [kt] 43 [C1,(wn n),(ws x++(ws y))] [kt,j1,i1] [(0,(.p 0 off)),(5,(.p 2 0))] a2 _:=⟨M2.st,M2.sl,⟨f0_2,f5_2,trivial⟩⟩
 repeat refine wp_seq ?_
 refine M2.dr (by kernel_rfl) [.s 13 [] (.p 0 off),.x 14 [] (pv x y),.c 15 [(14,1)] (tv s0),.s 16 [(13,0)] (.p 0 off),.s 17 [(16,3)] (.p 0 (off+0)),.s 18 [(17,4)] (.p 0 ((off+0)+12*0)),.u [(18,5),(15,2)] 0] [] [(0,6,C2)] [C2,(wn n),(ws x++(ws y))] [(0,(.p 0 off))] (by kernel_rfl) (congrArg (fun n=>[n]) hL2) ⟨RG.st,RG.ld u109 i109,RG.cl (hs0),RG.st,RG.st,RG.cert_idxc rfl 103 17 (.int .i64 0) rfl (.p 0 (off+0)) RG.sx (fun μ w=>at136 _ _ 0 (by decide) w),RG.cert_putAt 0 ((off+0)+12*0) rfl _ rfl 102 (.tmp 18) (.tmp 15) (tw s0) rfl rfl RG.sx RG.sx (by show off+0+12*0+(tw s0).length≤C1.length;rw[tw_length];omega) (hC2) i117 (tw_one _),trivial⟩ ?_
 intro a3 w3 M3
 have f0_3:a3.tmps[0]? = some (.pointer (some ⟨kt,off,none⟩)):=M3.at (s:=(.p 0 off))
 have M3:RG.M w w.heap.size [kt] 43 [C2,(wn n),(ws x++(ws y))] [kt,j1,i1] [(0,(.p 0 off))] a3 _:=⟨M3.st,M3.sl,⟨f0_3,trivial⟩⟩
 repeat refine wp_seq ?_
 refine M3.t [.s 19 [] (.p 0 off),.s 20 [(19,0)] (.p 0 off),.s 21 [(20,1)] (.p 0 (off+0)),.s 22 [(21,2)] (.p 0 ((off+0)+12*0)),.x 23 [(22,3)] (tv s0),.c 24 [(23,4)] (tv s2),.m 6 [] 3,.u [(6,6),(24,5)] 3] [(6,(RG.z 12))] [(3,7,(tw s2))] [C2,(wn n),(ws x++(ws y)),(tw s2)] [(0,(.p 0 off)),(6,(.p 3 0))] ⟨RG.st,RG.st,RG.st,RG.cert_idxc rfl 103 21 (.int .i64 0) rfl (.p 0 (off+0)) RG.sx (fun μ w=>at136 _ _ 0 (by decide) w),RG.cert_load rfl 0 ((off+0)+12*0) _ rfl rfl (by kernel_rfl) 102 22 rfl (tw s0) rfl RG.sx (hsub0) u117 i117,RG.cl (hs2),RG.mk 3 102,RG.pt i117,trivial⟩ ?_
 intro j4 a4 w4 M4
 repeat refine wp_seq ?_
 refine M4.u [.x 7 [] (.int .i64 1)] [(0,(.p 0 off)),(6,(.p 3 0)),(7,(.v (.int .i64 1)))] ⟨RG.st,trivial⟩ ?_
 intro a5 w5 M5
 have f0_5:a5.tmps[0]? = some (.pointer (some ⟨kt,off,none⟩)):=M5.at (s:=(.p 0 off))
 have f6_5:a5.tmps[6]? = some (.pointer (some ⟨j4,0,none⟩)):=M5.at (s:=(.p 3 0))
 have f7_5:a5.tmps[7]? = some (.int .i64 1):=M5.at (s:=(.v (.int .i64 1)))
 subst hDe
 subst hs0e
 subst hs2e
 clear hC1 hC2 hsub0 hL1 hL2 hlD hlS
 repeat refine wp_seq ?_
 refine wp_block ?_
 refine wp_loop_ghost (fun m a wr=>∃ (i:Nat) (C:List Value),1≤i∧i≤8∧i+m=8∧Fi x y (digs n) C0 off i C∧RG.Sl a 43∧a.tmps[0]? = some (.pointer (some ⟨kt,off,none⟩))∧a.tmps[6]? = some (.pointer (some ⟨j4,0,none⟩))∧a.tmps[7]? = some (.int .i64 i)∧RG.St w w.heap.size [kt] [C,wn n,ws x++ws y,tw (twJ (raJ x y))] [kt,j1,i1,j4] wr) 7 ⟨1,C2,by omega,by omega,by omega,F2,M5.sl,f0_5,f6_5,f7_5,M5.st⟩ ?_
 intro m a wr
 rintro ⟨i,C1,hi1,hi8,hm,hF,sl,g0,g6,g7,hS⟩
 generalize j1=k1 at g6 hS
 generalize i1=k2 at g6 hS
 generalize j4=k3 at g6 hS
 obtain ⟨D,hDe⟩:∃ D,digs n=D:=⟨_,rfl⟩
 rw[hDe] at hF
 obtain ⟨s0,hs0e⟩:∃ s,raJ x y=s:=⟨_,rfl⟩
 obtain ⟨s2,hs2e⟩:∃ s,twJ (raJ x y)=s:=⟨_,rfl⟩
 rw[hs2e] at hS
 obtain ⟨sp,hspe⟩:∃ s,od x y (i-1)=s:=⟨_,rfl⟩
 obtain ⟨s3,hs3e⟩:∃ s,plJ sp s2=s:=⟨_,rfl⟩
 have hs3:Gives 47 #[tv sp,tv s2] (tv s3):=hs3e ▸ plJ_c F sp s2
 have hlen:=hF.len
 by_cases hi:i<8
 ·have hod:od x y i=s3:=by
   obtain ⟨q,rfl⟩:∃ q,i=q+1:=⟨i-1,by omega⟩
   rw[← hs3e,← hspe,← hs2e]
   rfl
  have hsubp:(C1.drop (off+0+12*(i-1))).take (tw sp).length=tw sp:=by
   have:=hF.sub hoff (q:=i-1) (by omega) (by omega)
   rw[hspe] at this
   exact this
  obtain ⟨C2,hC2e⟩:∃ c,RG.rep C1 (off+0+12*i) (tw s3)=c:=⟨_,rfl⟩
  have hlS:off+0+12*i+(tw s3).length≤C1.length:=by rw[tw_length];omega
  have hC2:=hC2e ▸ RG.rep_at hlS
  have hL2:C2.length=C1.length:=hC2e ▸ RG.rep_length hlS
  have hF2:Fi x y D C0 off (i+1) C2:=by
   have:=hF.next hoff hi
   rw[hod] at this
   rw[← hC2e]
   exact this
  have hsb:∀ w,(binOp .sub 3 (.int .i64 i) (.int .i64 1)).run Tryd.prog w=.ok (.int .i64 ((i-1:Nat):Int)) w:=fun w=>by
   rw[sub64i _ _ (by omega) (by omega),show (i:Int)-1=((i-1:Nat):Int) by omega]
  clear hs0e hC2e
  have M0:RG.M w w.heap.size [kt] 43 [C1,(wn n),(ws x++(ws y)),(tw s2)] [kt,k1,k2,k3] [(0,(.p 0 off)),(6,(.p 3 0)),(7,(.v (.int .i64 i)))] a _:=⟨hS,sl,⟨g0,g6,g7,trivial⟩⟩
  repeat refine wp_seq ?_
  refine M0.u [.x 25 [] (.int .i64 i),.x 26 [(25,0)] (.bool true)] [(0,(.p 0 off)),(6,(.p 3 0)),(7,(.v (.int .i64 i))),(26,(.v (.bool true)))] ⟨RG.st,RG.cert_binc rfl .lss 3 3 25 (.int .i64 i) (.int .i64 8) (.bool true) rfl rfl RG.sx (fun w=>by kernel_rfl) (lssn_t (n:=8) hi),trivial⟩ ?_
  intro a1 w1 M1
  repeat refine wp_seq ?_
  refine wp_cond_true M1.ev ?_
  refine wp_skip ?_
  refine wp_seq ?_
  refine wp_block ?_
  repeat refine wp_seq ?_
  refine M1.dr (by kernel_rfl) [.s 29 [] (.p 0 off),.x 30 [] (.int .i64 i),.s 31 [] (.p 0 off),.x 32 [] (.int .i64 i),.x 33 [(32,3)] (.int .i64 ((i-1:Nat):Int)),.s 34 [(31,2)] (.p 0 off),.s 35 [(34,5)] (.p 0 (off+0)),.s 36 [(35,6),(33,4)] (.p 0 ((off+0)+12*(i-1))),.x 37 [(36,7)] (tv sp),.x 38 [] (tv s2),.c 39 [(37,8),(38,9)] (tv s3),.s 40 [(29,0)] (.p 0 off),.s 41 [(40,11)] (.p 0 (off+0)),.s 42 [(41,12),(30,1)] (.p 0 ((off+0)+12*i)),.u [(42,13),(39,10)] 0] [] [(0,14,C2)] [C2,(wn n),(ws x++(ws y)),(tw s2)] [(0,(.p 0 off)),(6,(.p 3 0)),(7,(.v (.int .i64 i)))] (by kernel_rfl) (congrArg (fun n=>[n]) hL2) ⟨RG.st,RG.st,RG.st,RG.st,RG.cert_binc rfl .sub 3 3 32 (.int .i64 i) (.int .i64 1) (.int .i64 ((i-1:Nat):Int)) rfl rfl RG.sx (fun w=>by kernel_rfl) (hsb),RG.st,RG.st,RG.cert_idx rfl 103 35 33 rfl (.p 0 (off+0)) (.int .i64 ((i-1:Nat):Int)) RG.sx RG.sx (fun μ w=>at136 _ _ (i-1) (by omega) w),RG.cert_load rfl 0 ((off+0)+12*(i-1)) _ rfl rfl (by kernel_rfl) 102 36 rfl (tw sp) rfl RG.sx (hsubp) u117 i117,RG.ld u117 i117,RG.cl (hs3),RG.st,RG.st,RG.cert_idx rfl 103 41 30 rfl (.p 0 (off+0)) (.int .i64 i) RG.sx RG.sx (fun μ w=>at136 _ _ i (by omega) w),RG.cert_putAt 0 ((off+0)+12*i) rfl _ rfl 102 (.tmp 42) (.tmp 39) (tw s3) rfl rfl RG.sx RG.sx (by show off+0+12*i+(tw s3).length≤C1.length;rw[tw_length];omega) (hC2) i117 (tw_one _),trivial⟩ ?_
  intro a2 w2 M2
  repeat refine wp_seq ?_
  refine M2.u [.x 27 [] (.int .i64 i),.x 28 [(27,0)] (.int .i64 ((i+1:Nat):Int)),.x 7 [(28,1)] (.int .i64 ((i+1:Nat):Int))] [(0,(.p 0 off)),(6,(.p 3 0)),(7,(.v (.int .i64 ((i+1:Nat):Int))))] ⟨RG.st,RG.cert_binc rfl .add 3 3 27 (.int .i64 i) (.int .i64 1) (.int .i64 ((i+1:Nat):Int)) rfl rfl RG.sx (fun w=>by kernel_rfl) (addn i 1 (by omega) (by omega)),RG.st,trivial⟩ ?_
  intro a3 w3 M3
  have f0_3:a3.tmps[0]? = some (.pointer (some ⟨kt,off,none⟩)):=M3.at (s:=(.p 0 off))
  have f6_3:a3.tmps[6]? = some (.pointer (some ⟨k3,0,none⟩)):=M3.at (s:=(.p 3 0))
  have f7_3:a3.tmps[7]? = some (.int .i64 ((i+1:Nat):Int)):=M3.at (s:=(.v (.int .i64 ((i+1:Nat):Int))))
  show ∃ n',_
  exact ⟨m-1,by omega,i+1,C2,by omega,by omega,by omega,hDe.symm ▸ hF2,M3.sl,f0_3,f6_3,f7_3,by rw[hs2e];exact M3.st⟩
 ·have hi9:i=8:=by omega
  obtain ⟨C2,-⟩:∃ c:List Value,c=C1:=⟨_,rfl⟩
  have M0:RG.M w w.heap.size [kt] 43 [C1,(wn n),(ws x++(ws y)),(tw s2)] [kt,k1,k2,k3] [(0,(.p 0 off)),(6,(.p 3 0)),(7,(.v (.int .i64 i)))] a _:=⟨hS,sl,⟨g0,g6,g7,trivial⟩⟩
  repeat refine wp_seq ?_
  refine M0.u [.x 25 [] (.int .i64 i),.x 26 [(25,0)] (.bool false)] [(0,(.p 0 off)),(6,(.p 3 0)),(7,(.v (.int .i64 i))),(26,(.v (.bool false)))] ⟨RG.st,RG.cert_binc rfl .lss 3 3 25 (.int .i64 i) (.int .i64 8) (.bool false) rfl rfl RG.sx (fun w=>by kernel_rfl) (lssn_f (n:=8) hi),trivial⟩ ?_
  intro a1 w1 M1
  repeat refine wp_seq ?_
  refine wp_cond_false M1.ev ?_
  refine wp_exit ?_
  dsimp only[Exit.then,Exit.inBlock]
  rw[if_pos rfl]
  have f0_1:a1.tmps[0]? = some (.pointer (some ⟨kt,off,none⟩)):=M1.at (s:=(.p 0 off))
  have f6_1:a1.tmps[6]? = some (.pointer (some ⟨k3,0,none⟩)):=M1.at (s:=(.p 3 0))
  have f7_1:a1.tmps[7]? = some (.int .i64 i):=M1.at (s:=(.v (.int .i64 i)))
  exact ⟨M1.sl.defers,.tuple #[],RG.results_none rfl,_,rfl,⟨C1,hDe.symm ▸ hi9 ▸ hF,M1.st.putTo hF.len⟩,rfl⟩
theorem times_n (F:Fld P) (kt o k:Nat) (hq:k<8) (s:T3 P) (w:World) (hk:kt<w.heap.size) (hr:w.rangeAt kt (o+0+12*k) (tw s)):Calls Tryd.prog 48 #[(.pointer (some ⟨kt,o,none⟩)),(.int .i8 (-(2*(k:Int)+1)))] w (Ret fun e w'=>Below w.heap.size w w'∧e=tv (opJ s)):=by
 obtain ⟨s2,hs2e⟩:∃ s2,opJ s=s2:=⟨_,rfl⟩
 have hs2:Gives 70 #[tv s] (tv s2):=hs2e ▸ opJ_c F s
 have hlss:∀ w,(binOp .lss 104 (.int .i8 (-(2*(k:Int)+1))) (.int .i8 0)).run Tryd.prog w=.ok (.bool true) w:=fun w=>by
  have h1:-(2*(k:Int)+1)<0:=by omega
  go_simp
  try omega
 have hneg:∀ w,(Op.unary .neg (.int .i8 (-(2*(k:Int)+1)))).run Tryd.prog w=.ok (.int .i8 (2*(k:Int)+1)) w:=fun w=>by
  rw[i8neg _ (by omega),Int.neg_neg]
 go_enter Tryd.func48,Tryd.ntmps48
 refine RG.var2 (v0:=(.pointer (some ⟨kt,o,none⟩))) (v1:=(.int .i8 (-(2*(k:Int)+1)))) (n:=23) (by kernel_rfl) (by kernel_rfl) (by kernel_rfl) (by kernel_rfl) ?_
 intro a0 sl0 f0 f1
 have hS0:=RG.St.begin w
 have M0:RG.M w w.heap.size [] 23 [] [] [(0,(.v (.pointer (some ⟨kt,o,none⟩)))),(1,(.v (.int .i8 (-(2*(k:Int)+1)))))] a0 _:=⟨hS0,sl0,⟨f0,f1,trivial⟩⟩
 repeat refine wp_seq ?_
 refine M0.t [.m 4 [] 0] [(0,(RG.z 12))] [] [(RG.z 12)] [(0,(.v (.pointer (some ⟨kt,o,none⟩)))),(1,(.v (.int .i8 (-(2*(k:Int)+1))))),(4,(.p 0 0))] ⟨RG.mk 0 102,trivial⟩ ?_
 intro j1 a1 w1 M1
 repeat refine wp_seq ?_
 refine M1.u [.x 5 [] (.int .i8 (-(2*(k:Int)+1))),.x 6 [(5,0)] (.bool true)] [(0,(.v (.pointer (some ⟨kt,o,none⟩)))),(1,(.v (.int .i8 (-(2*(k:Int)+1))))),(4,(.p 0 0)),(6,(.v (.bool true)))] ⟨RG.st,RG.cert_binc rfl .lss 104 104 5 (.int .i8 (-(2*(k:Int)+1))) (.int .i8 0) (.bool true) rfl rfl RG.sx (fun w=>by kernel_rfl) (hlss),trivial⟩ ?_
 intro a2 w2 M2
 repeat refine wp_seq ?_
 refine wp_cond_true M2.ev ?_
 repeat refine wp_seq ?_
 refine M2.t [.x 7 [] (.pointer (some ⟨kt,o,none⟩)),.x 8 [] (.int .i8 (-(2*(k:Int)+1))),.x 9 [(8,1)] (.int .i8 (2*(k:Int)+1)),.x 10 [(9,2)] (.int .i8 k),.x 11 [(7,0)] (.pointer (some ⟨kt,o,none⟩)),.x 12 [(11,4)] (.pointer (some ⟨kt,(o+0),none⟩)),.x 13 [(12,5),(10,3)] (.pointer (some ⟨kt,((o+0)+12*k),none⟩)),.x 14 [(13,6)] (tv s),.c 15 [(14,7)] (tv s2),.u [(15,8)] 0] [] [(0,9,(tw s2))] [(tw s2)] [(4,(.p 0 0))] ⟨RG.st,RG.st,RG.cert_un rfl .neg 104 8 (.int .i8 (-(2*(k:Int)+1))) (.int .i8 (2*(k:Int)+1)) rfl rfl RG.sx (hneg),RG.cert_binc rfl .quo 104 104 9 (.int .i8 (2*(k:Int)+1)) (.int .i8 2) (.int .i8 k) rfl rfl RG.sx (fun w=>by kernel_rfl) (i8quo k hq),RG.st,RG.st,RG.cert_idx rfl 103 12 10 rfl (.v (.pointer (some ⟨kt,(o+0),none⟩))) (.int .i8 k) RG.sx RG.sx (fun μ w=>at136b _ _ k hq w),RG.cert_loadB rfl kt ((o+0)+12*k) hk List.not_mem_nil 102 13 rfl (tw s) rfl RG.sx hr u117 i117,RG.cl (hs2),RG.pt i117,trivial⟩ ?_
 intro a3 w3 M3
 refine wp_ret ?_
 refine bodyPost_ret (v:=tv s2) (RG.results_row M3.st 4 102 rfl 0 _ rfl (M3.at (s:=(.p 0 0))) u117 i117) M3.sl.defers ?_
 exact ⟨_,rfl,M3.st.bel.below,by rw[hs2e]⟩
theorem times_p (F:Fld P) (kt o k:Nat) (hq:k<8) (s:T3 P) (w:World) (hk:kt<w.heap.size) (hr:w.rangeAt kt (o+0+12*k) (tw s)):Calls Tryd.prog 48 #[(.pointer (some ⟨kt,o,none⟩)),(.int .i8 (2*(k:Int)+1))] w (Ret fun e w'=>Below w.heap.size w w'∧e=tv s):=by
 obtain ⟨s2,hs2e⟩:∃ s2,opJ s=s2:=⟨_,rfl⟩
 have hs2:Gives 70 #[tv s] (tv s2):=hs2e ▸ opJ_c F s
 have hlss:∀ w,(binOp .lss 104 (.int .i8 (2*(k:Int)+1)) (.int .i8 0)).run Tryd.prog w=.ok (.bool false) w:=fun w=>by
  have h1:¬ 2*(k:Int)+1<0:=by omega
  go_simp
  try omega
 have hneg:∀ w,(Op.unary .neg (.int .i8 (-(2*(k:Int)+1)))).run Tryd.prog w=.ok (.int .i8 (2*(k:Int)+1)) w:=fun w=>by
  rw[i8neg _ (by omega),Int.neg_neg]
 go_enter Tryd.func48,Tryd.ntmps48
 refine RG.var2 (v0:=(.pointer (some ⟨kt,o,none⟩))) (v1:=(.int .i8 (2*(k:Int)+1))) (n:=23) (by kernel_rfl) (by kernel_rfl) (by kernel_rfl) (by kernel_rfl) ?_
 intro a0 sl0 f0 f1
 have hS0:=RG.St.begin w
 have M0:RG.M w w.heap.size [] 23 [] [] [(0,(.v (.pointer (some ⟨kt,o,none⟩)))),(1,(.v (.int .i8 (2*(k:Int)+1))))] a0 _:=⟨hS0,sl0,⟨f0,f1,trivial⟩⟩
 repeat refine wp_seq ?_
 refine M0.t [.m 4 [] 0] [(0,(RG.z 12))] [] [(RG.z 12)] [(0,(.v (.pointer (some ⟨kt,o,none⟩)))),(1,(.v (.int .i8 (2*(k:Int)+1)))),(4,(.p 0 0))] ⟨RG.mk 0 102,trivial⟩ ?_
 intro j1 a1 w1 M1
 repeat refine wp_seq ?_
 refine M1.u [.x 5 [] (.int .i8 (2*(k:Int)+1)),.x 6 [(5,0)] (.bool false)] [(0,(.v (.pointer (some ⟨kt,o,none⟩)))),(1,(.v (.int .i8 (2*(k:Int)+1)))),(4,(.p 0 0)),(6,(.v (.bool false)))] ⟨RG.st,RG.cert_binc rfl .lss 104 104 5 (.int .i8 (2*(k:Int)+1)) (.int .i8 0) (.bool false) rfl rfl RG.sx (fun w=>by kernel_rfl) (hlss),trivial⟩ ?_
 intro a2 w2 M2
 repeat refine wp_seq ?_
 refine wp_cond_false M2.ev ?_
 refine wp_skip ?_
 repeat refine wp_seq ?_
 refine M2.t [.x 16 [] (.pointer (some ⟨kt,o,none⟩)),.x 17 [] (.int .i8 (2*(k:Int)+1)),.x 18 [(17,1)] (.int .i8 k),.x 19 [(16,0)] (.pointer (some ⟨kt,o,none⟩)),.x 20 [(19,3)] (.pointer (some ⟨kt,(o+0),none⟩)),.x 21 [(20,4),(18,2)] (.pointer (some ⟨kt,((o+0)+12*k),none⟩)),.x 22 [(21,5)] (tv s),.u [(22,6)] 0] [] [(0,7,(tw s))] [(tw s)] [(4,(.p 0 0))] ⟨RG.st,RG.st,RG.cert_binc rfl .quo 104 104 17 (.int .i8 (2*(k:Int)+1)) (.int .i8 2) (.int .i8 k) rfl rfl RG.sx (fun w=>by kernel_rfl) (i8quo k hq),RG.st,RG.st,RG.cert_idx rfl 103 20 18 rfl (.v (.pointer (some ⟨kt,(o+0),none⟩))) (.int .i8 k) RG.sx RG.sx (fun μ w=>at136b _ _ k hq w),RG.cert_loadB rfl kt ((o+0)+12*k) hk List.not_mem_nil 102 21 rfl (tw s) rfl RG.sx hr u117 i117,RG.pt i117,trivial⟩ ?_
 intro a3 w3 M3
 refine wp_ret ?_
 refine bodyPost_ret (v:=tv s) (RG.results_row M3.st 4 102 rfl 0 _ rfl (M3.at (s:=(.p 0 0))) u117 i117) M3.sl.defers ?_
 exact ⟨_,rfl,M3.st.bel.below,rfl⟩
def tmJ (x y:Fin P) (d:Int):T3 P:=if d<0 then opJ (od x y ((-d).toNat/2)) else od x y (d.toNat/2)
theorem tmJ_J (C:Fld P) {x y:Fin P} {p:EC.Pt P} (h:EC.Pair x y p) (hp:EC.On p) {d:Int} (hd:d%2=1):JacT (tmJ x y d) (EC.zmul d p):=by
 unfold tmJ
 by_cases hn:d<0
 ·rw[if_pos hn]
  have h1:=(od_J C h hp ((-d).toNat/2)).neg
  rw[← EC.zmul_neg C.cur hp] at h1
  rw[show -((2*((-d).toNat/2)+1:Nat):Int)=d by omega] at h1
  exact h1
 ·rw[if_neg hn]
  have h1:=od_J C h hp (d.toNat/2)
  rw[show ((2*(d.toNat/2)+1:Nat):Int)=d by omega] at h1
  exact h1
def inn (ns:Nat→Nat) (xs ys:Nat→Fin P) (st:T3 P) (place:Nat):Nat→T3 P
 | 0=>st
 | i+1=>if digs (ns i) place=0 then inn ns xs ys st place i else plJ (inn ns xs ys st place i) (tmJ (xs i) (ys i) (digs (ns i) place))
def sumJ (ns:Nat→Nat) (xs ys:Nat→Fin P) (N:Nat):Nat→T3 P
 | 0=>(0,0,0)
 | m+1=>inn ns xs ys (twJ (sumJ ns xs ys N m)) (256-m) N
theorem inn_J (C:Fld P) {ns:Nat→Nat} {xs ys:Nat→Fin P} {p:Nat→EC.Pt P} {N:Nat} (hns:∀ i,i<N→ns i<2^256) (hp:∀ i,i<N→EC.Pair (xs i) (ys i) (p i)) (ho:∀ i,i<N→EC.On (p i)) {st:T3 P} {g:Nat→Int} {place:Nat}
 (h:JacT st (EC.tot p N g)):∀ i,i≤N→JacT (inn ns xs ys st place i) (EC.tot p N (fun j=>if j<i then g j+digs (ns j) place else g j))
 | 0,_=>by
  have:EC.tot p N (fun j=>if j<0 then g j+digs (ns j) place else g j)=EC.tot p N g:=EC.tot_congr N fun j _=>if_neg (by omega)
  rw[this]
  exact h
 | i+1,hi=>by
  have ih:=inn_J C hns hp ho (place:=place) h i (by omega)
  have e:EC.tot p N (fun j=>if j<i+1 then g j+digs (ns j) place else g j)=EC.add (EC.tot p N (fun j=>if j<i then g j+digs (ns j) place else g j)) (EC.zmul (digs (ns i) place) (p i)):=by
   rw[← EC.tot_upd C.cur _ i (digs (ns i) place) N (by omega) ho]
   refine EC.tot_congr N fun j _=>?_
   by_cases h1:j=i
   ·subst h1
    rw[if_pos (by omega),if_pos rfl,if_neg (by omega)]
   ·rw[if_neg h1]
    by_cases h2:j<i
    ·rw[if_pos (by omega),if_pos h2]
    ·rw[if_neg (by omega),if_neg h2]
  rw[e]
  unfold inn
  by_cases hz:digs (ns i) place=0
  ·rw[if_pos hz,hz,EC.zmul_zero,EC.add_none]
   exact ih
  ·rw[if_neg hz]
   obtain ⟨q,c,-,hD⟩:=digs_DI (hns i (by omega))
   rcases hD.ho place with h1|h1
   ·exact absurd h1 hz
   ·exact ih.plus C (tmJ_J C (hp i (by omega)) (ho i (by omega)) h1.1)
theorem sumJ_J (C:Fld P) {ns:Nat→Nat} {xs ys:Nat→Fin P} {p:Nat→EC.Pt P} {N:Nat} (hns:∀ i,i<N→ns i<2^256) (hp:∀ i,i<N→EC.Pair (xs i) (ys i) (p i)) (ho:∀ i,i<N→EC.On (p i)) :
 ∀ m,m≤257→JacT (sumJ ns xs ys N m) (EC.tot p N (fun j=>DG.hor (digs (ns j)) m))
 | 0,_=>by
  rw[show EC.tot p N (fun j=>DG.hor (digs (ns j)) 0)=.none from EC.tot_zero p N (fun _ _=>rfl)]
  exact JacT.none
 | m+1,hm=>by
  have ih:=(sumJ_J C hns hp ho m (by omega)).twice C
  rw[← EC.tot_twice C.cur _ N ho] at ih
  have h1:=inn_J C hns hp ho (place:=256-m) ih N (Nat.le_refl _)
  have e:EC.tot p N (fun j=>DG.hor (digs (ns j)) (m+1))=EC.tot p N (fun j=>if j<N then 2*DG.hor (digs (ns j)) m+digs (ns j) (256-m) else 2*DG.hor (digs (ns j)) m):=
   EC.tot_congr N fun j hj=>by rw[if_pos hj];rfl
  rw[e]
  exact h1
theorem sumJ_all (C:Fld P) {ns:Nat→Nat} {xs ys:Nat→Fin P} {p:Nat→EC.Pt P} {N:Nat} (hns:∀ i,i<N→ns i<2^256) (hp:∀ i,i<N→EC.Pair (xs i) (ys i) (p i)) (ho:∀ i,i<N→EC.On (p i)) :
 JacT (sumJ ns xs ys N 257) (EC.tot p N (fun j=>(ns j:Int))):=by
 have h:=sumJ_J C hns hp ho 257 (Nat.le_refl _)
 have e:EC.tot p N (fun j=>(ns j:Int))=EC.tot p N (fun j=>DG.hor (digs (ns j)) 257):=EC.tot_congr N fun j hj=>by
  obtain ⟨q,c,hq,hD⟩:=digs_DI (hns j hj)
  exact (DG.hor_all hD hq).symm
 rw[e]
 exact h
def cc (ns:Nat→Nat) (xs ys:Nat→Fin P) (C0:List Value):Nat→List Value
 | 0=>C0
 | i+1=>fc (xs i) (ys i) (digs (ns i)) (cc ns xs ys C0 i) (353*i) 8
theorem cc_at {ns:Nat→Nat} {xs ys:Nat→Fin P} {C0:List Value} {N:Nat} (hl:C0.length=353*N):∀ i,i≤N→(cc ns xs ys C0 i).length=353*N ∧
 ∀ j,j<i→(∀ q,q<257→(cc ns xs ys C0 i)[353*j+96+q]? = some (.int .i8 (digs (ns j) q)))∧∀ q r,q<8→r<12→(cc ns xs ys C0 i)[353*j+12*q+r]? = (tw (od (xs j) (ys j) q))[r]?
 | 0,_=>⟨hl,fun j hj=>by omega⟩
 | i+1,hi=>by
  obtain ⟨h1,h2⟩:=cc_at hl i (by omega)
  have hF:=fc_Fi (x:=xs i) (y:=ys i) (D:=digs (ns i)) (C0:=cc ns xs ys C0 i) (off:=353*i) (by rw[h1];omega) 8 (Nat.le_refl _)
  refine ⟨by rw[← h1];exact hF.len,fun j hj=>?_⟩
  by_cases hji:j=i
  ·subst hji
   exact ⟨hF.dig,fun q r hq hr=>hF.odd q r hq hr⟩
  ·obtain ⟨g1,g2⟩:=h2 j (by omega)
   exact ⟨fun q hq=>(hF.out _ (by omega)).trans (g1 q hq),fun q r hq hr=>(hF.out _ (by omega)).trans (g2 q r hq hr)⟩
theorem mk135 (N:Nat) (hN:N≤512):∃ C0:List Value,C0.length=353*N∧∀ w:World,(Instr.makeSlice 99 (.int .i64 N) (.int .i64 N)).run Tryd.prog w=.ok (.slice (some ⟨w.heap.size,0,none⟩) N N) (w.alloc (.cells C0.toArray 107)):=by
 have hu:Tryd.prog.underlying 99=some (.slice 107):=by kernel_rfl
 have hi:(Tryd.prog.info? 107).map (fun i=>(i.size,decide (i.bytes≤4000),i.zero.isSome))=some (353,true,true):=by kernel_rfl
 obtain ⟨i,hi1,hi2⟩:=Option.map_eq_some_iff.1 hi
 simp only[Prod.mk.injEq,decide_eq_true_eq] at hi2
 obtain ⟨h1,h2,h3⟩:=hi2
 obtain ⟨z,hz⟩:=Option.isSome_iff_exists.1 h3
 refine ⟨(madeCells z.cells (N*353)).toList,by rw[Array.length_toList,size_madeCells,Nat.mul_comm],fun w=>?_⟩
 have hb:(i.bytes:Int)*(N:Int)≤281474976710656:=by
  have:i.bytes*N≤4000*512:=Nat.mul_le_mul h2 hN
  have h5:((i.bytes*N:Nat):Int)≤281474976710656:=by omega
  rwa[Int.natCast_mul] at h5
 have:=run_make (P:=Tryd.prog) w 99 107 i z hu hi1 hz .i64 .i64 (N:Int) (N:Int) (by omega) (by omega) hb (by omega)
 rw[Int.toNat_natCast,h1] at this
 rw[Array.toArray_toList]
 exact this
theorem fill_put (F:Fld P) {n:Nat} (hn:n<top) (x y:Fin P) (C0:List Value) (kt off:Nat) (hoff:off+353≤C0.length) (w:World) (ht:w.there kt 0 C0.length) (hr:w.rangeAt kt 0 C0) :
 Calls Tryd.prog 45 #[.pointer (some ⟨kt,off,none⟩),nv n,pv x y] w (Ret fun r w'=>RG.PutTo kt C0.length (fc x y (digs n) C0 off 8) w w'∧r=.tuple #[]):=by
 have hk:kt<w.heap.size:=by
  have h1:=(ht 0 (by omega)).1
  exact Classical.byContradiction fun hn=>by
   have h2:w.heap[kt]? = none:=Array.getElem?_eq_none (by omega)
   simp[World.cell?,h2] at h1
 refine (fill_c F hn x y C0 kt off hoff w hk ht hr).mono ?_
 rintro e w' ⟨v,rfl,⟨C,hF,hP⟩,rfl⟩
 refine ⟨_,rfl,?_,rfl⟩
 rw[(fc_Fi hoff 8 (Nat.le_refl _)).uniq hF]
 exact hP
theorem times_d (F:Fld P) (kt o:Nat) (x y:Fin P) {d:Int} (hd:d%2=1) (hd2:-15≤d∧d≤15) (w:World) (hk:kt<w.heap.size) (hr:∀ q,q<8→w.rangeAt kt (o+0+12*q) (tw (od x y q))) :
 Calls Tryd.prog 48 #[.pointer (some ⟨kt,o,none⟩),.int .i8 d] w (Ret fun e w'=>Below w.heap.size w w'∧e=tv (tmJ x y d)):=by
 unfold tmJ
 by_cases hn:d<0
 ·rw[if_pos hn]
  have h1:=times_n F kt o ((-d).toNat/2) (by omega) (od x y ((-d).toNat/2)) w hk (hr _ (by omega))
  rw[show -(2*(((-d).toNat/2:Nat):Int)+1)=d by omega] at h1
  exact h1
 ·rw[if_neg hn]
  have h1:=times_p F kt o (d.toNat/2) (by omega) (od x y (d.toNat/2)) w hk (hr _ (by omega))
  rw[show 2*((d.toNat/2:Nat):Int)+1=d by omega] at h1
  exact h1
theorem al117 {P:Nat} [NeZero P] (w:World):(Instr.alloc 102 true (.tuple #[])).run Tryd.prog w=.ok (.pointer (some ⟨w.heap.size,0,none⟩)) (w.alloc (.cells (tw ((0,0,0):T3 P)).toArray 102)):=by
 show _=Result.ok _ (w.alloc (.cells (ws (0:Fin P)++(ws (0:Fin P)++ws (0:Fin P))).toArray 102))
 rw[← ws_zero]
 kernel_rfl
theorem ne8_f (w:World):(binOp .neq 104 (.int .i8 0) (.int .i8 0)).run Tryd.prog w=.ok (.bool false) w:=by kernel_rfl
theorem ne8_t {d:Int} (h:¬ d=0) (w:World):(binOp .neq 104 (.int .i8 d) (.int .i8 0)).run Tryd.prog w=.ok (.bool true) w:=by
 go_simp
theorem sub1' (q:Nat) (hq:q<1000) (w:World):(binOp .sub 3 (.int .i64 q) (.int .i64 1)).run Tryd.prog w=.ok (.int .i64 ((q:Int)-1)) w:=sub64i _ _ (by omega) (by omega) w
theorem geq0' (i:Nat) (w:World):(binOp .geq 3 (.int .i64 i) (.int .i64 0)).run Tryd.prog w=.ok (.bool true) w:=by
 go_simp
theorem sums_c (F:Fld P) (N:Nat) (hN:N≤512) (ns:Nat→Nat) (xs ys:Nat→Fin P) (hns:∀ i,i<N→ns i<top) (kn ka:Nat) (w:World) (hkn:kn<w.heap.size) (hka:ka<w.heap.size)
 (hn:∀ i,i<N→w.rangeAt kn (4*i) (wn (ns i))) (ha:∀ i,i<N→w.rangeAt ka (8*i) (ws (xs i)++ws (ys i))) :
 Calls Tryd.prog 31 #[(.slice (some ⟨kn,0,none⟩) N N),(.slice (some ⟨ka,0,none⟩) N N)] w (Ret fun e w'=>Below w.heap.size w w'∧∃ s,s=sumJ ns xs ys N 257∧e=pv (s.1*(EC.inv s.2.2*EC.inv s.2.2)) (s.2.1*(EC.inv s.2.2*EC.inv s.2.2)*EC.inv s.2.2)):=by
 obtain ⟨C,hCl,hmk⟩:=mk135 N hN
 have hstepC:∀ (i:Nat) (c2:List Value),fc (xs i) (ys i) (digs (ns i)) (cc ns xs ys C i) (353*i) 8=c2→cc ns xs ys C (i+1)=c2:=fun i c2 h=>h
 obtain ⟨i,-⟩:∃ i:Nat,i=0:=⟨_,rfl⟩
 obtain ⟨q,-⟩:∃ i:Nat,i=0:=⟨_,rfl⟩
 obtain ⟨d,-⟩:∃ i:Int,i=0:=⟨_,rfl⟩
 obtain ⟨C2,-⟩:∃ c:List Value,c=C:=⟨_,rfl⟩
 obtain ⟨s,-⟩:∃ s:T3 P,s=(0,0,0):=⟨_,rfl⟩
 obtain ⟨s2,-⟩:∃ s:T3 P,s=(0,0,0):=⟨_,rfl⟩
 obtain ⟨s3,-⟩:∃ s:T3 P,s=(0,0,0):=⟨_,rfl⟩
 obtain ⟨s4,-⟩:∃ s:T3 P,s=(0,0,0):=⟨_,rfl⟩
 go_enter Tryd.func31,Tryd.ntmps31
 refine RG.var2 (v0:=(.slice (some ⟨kn,0,none⟩) N N)) (v1:=(.slice (some ⟨ka,0,none⟩) N N)) (n:=62) (by kernel_rfl) (by kernel_rfl) (by kernel_rfl) (by kernel_rfl) ?_
 intro a0 sl0 f0 f1
 have hS0:=RG.St.begin w
 have M0:RG.M w w.heap.size [] 62 [] [] [(0,(.v (.slice (some ⟨kn,0,none⟩) N N))),(1,(.v (.slice (some ⟨ka,0,none⟩) N N)))] a0 _:=⟨hS0,sl0,⟨f0,f1,trivial⟩⟩
 repeat refine wp_seq ?_
 refine M0.t [.m 4 [] 0] [(0,(RG.z 8))] [] [(RG.z 8)] [(0,(.v (.slice (some ⟨kn,0,none⟩) N N))),(1,(.v (.slice (some ⟨ka,0,none⟩) N N))),(4,(.p 0 0))] ⟨RG.mk 0 53,trivial⟩ ?_
 intro j1 a1 w1 M1
 repeat refine wp_seq ?_
 refine M1.t [.x 11 [] (.slice (some ⟨kn,0,none⟩) N N),.x 12 [(11,0)] (.int .i64 N),⟨some 13,[(12,1)],(.s 1 N N),.make 1⟩,.s 5 [(13,2)] (.s 1 N N)] [(2,C)] [] [(RG.z 8),C] [(0,(.v (.slice (some ⟨kn,0,none⟩) N N))),(1,(.v (.slice (some ⟨ka,0,none⟩) N N))),(4,(.p 0 0)),(5,(.s 1 N N))] ⟨RG.st,RG.cert_one rfl 11 (.v (.slice (some ⟨kn,0,none⟩) N N)) (.int .i64 N) rfl RG.sx (fun a w=>by kernel_rfl) (fun μ w=>by kernel_rfl),RG.cert_makes 1 rfl _ rfl 99 107 12 12 N rfl rfl RG.sx RG.sx (hmk),RG.st,trivial⟩ ?_
 intro j2 a2 w2 M2
 repeat refine wp_seq ?_
 refine M2.u [.s 14 [] (.s 1 N N),.x 15 [(14,0)] (.int .i64 N),.x 16 [] (.int .i64 0)] [(0,(.v (.slice (some ⟨kn,0,none⟩) N N))),(1,(.v (.slice (some ⟨ka,0,none⟩) N N))),(4,(.p 0 0)),(5,(.s 1 N N)),(15,(.v (.int .i64 N))),(16,(.v (.int .i64 0)))] ⟨RG.st,RG.cert_one rfl 14 (.s 1 N N) (.int .i64 N) rfl RG.sx (fun a w=>by kernel_rfl) (fun μ w=>by kernel_rfl),RG.st,trivial⟩ ?_
 intro a3 w3 M3
 have f0_3:a3.tmps[0]? = some (.slice (some ⟨kn,0,none⟩) N N):=M3.at (s:=(.v (.slice (some ⟨kn,0,none⟩) N N)))
 have f1_3:a3.tmps[1]? = some (.slice (some ⟨ka,0,none⟩) N N):=M3.at (s:=(.v (.slice (some ⟨ka,0,none⟩) N N)))
 have f4_3:a3.tmps[4]? = some (.pointer (some ⟨j1,0,none⟩)):=M3.at (s:=(.p 0 0))
 have f5_3:a3.tmps[5]? = some (.slice (some ⟨j2,0,none⟩) N N):=M3.at (s:=(.s 1 N N))
 have f15_3:a3.tmps[15]? = some (.int .i64 N):=M3.at (s:=(.v (.int .i64 N)))
 have f16_3:a3.tmps[16]? = some (.int .i64 0):=M3.at (s:=(.v (.int .i64 0)))
 repeat refine wp_seq ?_
 refine wp_block ?_
 refine wp_loop_ghost (fun m a wr=>∃ i,i+m=N∧RG.Sl a 62∧a.tmps[0]? = some (.slice (some ⟨kn,0,none⟩) N N)∧a.tmps[1]? = some (.slice (some ⟨ka,0,none⟩) N N)∧a.tmps[4]? = some (.pointer (some ⟨j1,0,none⟩))∧a.tmps[5]? = some (.slice (some ⟨j2,0,none⟩) N N)∧a.tmps[15]? = some (.int .i64 N)∧a.tmps[16]? = some (.int .i64 i)∧RG.St w w.heap.size [] [[.int .u64 0,.int .u64 0,.int .u64 0,.int .u64 0,.int .u64 0,.int .u64 0,.int .u64 0,.int .u64 0],cc ns xs ys C i] [j1,j2] wr) N ⟨0,by omega,M3.sl,f0_3,f1_3,f4_3,f5_3,f15_3,f16_3,M3.st⟩ ?_
 intro m a wr
 rintro ⟨i,him,sl,p0,p1,p4,p5,p15,p16,hSp⟩
 generalize j1=kr at p4 hSp
 generalize j2=kt at p5 hSp
 obtain ⟨C,hCe⟩:∃ c,cc ns xs ys C i=c:=⟨_,rfl⟩
 have hcc:=cc_at (ns:=ns) (xs:=xs) (ys:=ys) hCl i (by omega)
 rw[hCe] at hSp hcc
 by_cases hi:i<N
 ·obtain ⟨C2,hC2e⟩:∃ c,fc (xs i) (ys i) (digs (ns i)) C (353*i) 8=c:=⟨_,rfl⟩
  have hoff:353*i+353≤C.length:=by rw[hcc.1];omega
  have hcl:C2.length=C.length:=hC2e ▸ (fc_Fi hoff 8 (Nat.le_refl _)).len
  have hfill:∀ (k:Nat) (w:World),w.there k 0 C.length→w.rangeAt k 0 C→Calls Tryd.prog 45 #[.pointer (some ⟨k,353*i,none⟩),nv (ns i),pv (xs i) (ys i)] w (Ret fun r w'=>RG.PutTo k C.length C2 w w'∧r=.tuple #[]):=fun k w ht hr=>hC2e ▸ fill_put F (hns i hi) (xs i) (ys i) C k (353*i) hoff w ht hr
  have hrn:w.rangeAt kn (0+4*i) (wn (ns i)):=by rw[Nat.zero_add];exact hn i hi
  have hra:w.rangeAt ka (0+8*i) (ws (xs i)++ws (ys i)):=by rw[Nat.zero_add];exact ha i hi
  have M10:RG.M w w.heap.size [] 62 [(RG.z 8),C] [kr,kt] [(0,(.v (.slice (some ⟨kn,0,none⟩) N N))),(1,(.v (.slice (some ⟨ka,0,none⟩) N N))),(4,(.p 0 0)),(5,(.s 1 N N)),(15,(.v (.int .i64 N))),(16,(.v (.int .i64 i)))] a _:=⟨hSp,sl,⟨p0,p1,p4,p5,p15,p16,trivial⟩⟩
  repeat refine wp_seq ?_
  refine M10.u [.x 17 [] (.bool true)] [(0,(.v (.slice (some ⟨kn,0,none⟩) N N))),(1,(.v (.slice (some ⟨ka,0,none⟩) N N))),(4,(.p 0 0)),(5,(.s 1 N N)),(15,(.v (.int .i64 N))),(16,(.v (.int .i64 i))),(17,(.v (.bool true)))] ⟨RG.cert_bin rfl .lss 3 3 16 15 (.int .i64 i) (.int .i64 N) (.bool true) rfl rfl RG.sx RG.sx (fun w=>by kernel_rfl) (lssn_t hi),trivial⟩ ?_
  intro a11 w11 M11
  repeat refine wp_seq ?_
  refine wp_cond_true M11.ev ?_
  refine wp_skip ?_
  refine wp_seq ?_
  refine wp_block ?_
  repeat refine wp_seq ?_
  refine M11.u [.x 18 [] (.int .i64 i),.x 6 [(18,0)] (.int .i64 i)] [(0,(.v (.slice (some ⟨kn,0,none⟩) N N))),(1,(.v (.slice (some ⟨ka,0,none⟩) N N))),(4,(.p 0 0)),(5,(.s 1 N N)),(6,(.v (.int .i64 i))),(15,(.v (.int .i64 N))),(16,(.v (.int .i64 i)))] ⟨RG.st,RG.st,trivial⟩ ?_
  intro a12 w12 M12
  repeat refine wp_seq ?_
  refine M12.dr (by kernel_rfl) [.s 19 [] (.s 1 N N),.x 20 [] (.int .i64 i),.s 21 [(19,0),(20,1)] (.p 1 (353*i)),.x 22 [] (.slice (some ⟨kn,0,none⟩) N N),.x 23 [] (.int .i64 i),.x 24 [(22,3),(23,4)] (.pointer (some ⟨kn,(0+4*i),none⟩)),.x 25 [(24,5)] (nv (ns i)),.x 26 [] (.slice (some ⟨ka,0,none⟩) N N),.x 27 [] (.int .i64 i),.x 28 [(26,7),(27,8)] (.pointer (some ⟨ka,(0+8*i),none⟩)),.x 29 [(28,9)] (pv (xs i) (ys i)),⟨some 30,[(21,2),(25,6),(29,10)],(.v (.tuple #[])),.put 1⟩] [] [(1,11,C2)] [(RG.z 8),C2] [(0,(.v (.slice (some ⟨kn,0,none⟩) N N))),(1,(.v (.slice (some ⟨ka,0,none⟩) N N))),(4,(.p 0 0)),(5,(.s 1 N N)),(15,(.v (.int .i64 N))),(16,(.v (.int .i64 i)))] (by kernel_rfl) (congrArg (fun n=>[n]) hcl) ⟨RG.st,RG.st,RG.cert_idx rfl 99 19 20 rfl (.s 1 N N) (.int .i64 i) RG.sx RG.sx (fun μ w=>at135 _ _ _ i hi w),RG.st,RG.st,RG.cert_idx rfl 69 22 23 rfl (.v (.slice (some ⟨kn,0,none⟩) N N)) (.int .i64 i) RG.sx RG.sx (fun μ w=>at82 _ _ _ _ i hi w),RG.cert_loadB rfl kn (0+4*i) hkn List.not_mem_nil 44 24 rfl (wn (ns i)) rfl RG.sx hrn u85 i85,RG.st,RG.st,RG.cert_idx rfl 72 26 27 rfl (.v (.slice (some ⟨ka,0,none⟩) N N)) (.int .i64 i) RG.sx RG.sx (fun μ w=>at112 _ _ _ _ i hi w),RG.cert_loadB rfl ka (0+8*i) hka List.not_mem_nil 53 28 rfl (ws (xs i)++ws (ys i)) rfl RG.sx hra u109 i109,RG.cert_callput3 1 rfl _ rfl 45 21 25 29 (.p 1 (353*i)) (nv (ns i)) (pv (xs i) (ys i)) (.tuple #[]) rfl (fun a w=>by kernel_rfl) RG.sx RG.sx RG.sx (fun μ w ht hr=>hfill (μ 1) w ht hr),trivial⟩ ?_
  intro a13 w13 M13
  repeat refine wp_seq ?_
  refine M13.u [.x 31 [] (.int .i64 ((i+1:Nat):Int)),.x 16 [(31,0)] (.int .i64 ((i+1:Nat):Int))] [(0,(.v (.slice (some ⟨kn,0,none⟩) N N))),(1,(.v (.slice (some ⟨ka,0,none⟩) N N))),(4,(.p 0 0)),(5,(.s 1 N N)),(15,(.v (.int .i64 N))),(16,(.v (.int .i64 ((i+1:Nat):Int))))] ⟨RG.cert_binc rfl .add 3 3 16 (.int .i64 i) (.int .i64 1) (.int .i64 ((i+1:Nat):Int)) rfl rfl RG.sx (fun w=>by kernel_rfl) (addn i 1 (by omega) (by omega)),RG.st,trivial⟩ ?_
  intro a14 w14 M14
  have f0_14:a14.tmps[0]? = some (.slice (some ⟨kn,0,none⟩) N N):=M14.at (s:=(.v (.slice (some ⟨kn,0,none⟩) N N)))
  have f1_14:a14.tmps[1]? = some (.slice (some ⟨ka,0,none⟩) N N):=M14.at (s:=(.v (.slice (some ⟨ka,0,none⟩) N N)))
  have f4_14:a14.tmps[4]? = some (.pointer (some ⟨kr,0,none⟩)):=M14.at (s:=(.p 0 0))
  have f5_14:a14.tmps[5]? = some (.slice (some ⟨kt,0,none⟩) N N):=M14.at (s:=(.s 1 N N))
  have f15_14:a14.tmps[15]? = some (.int .i64 N):=M14.at (s:=(.v (.int .i64 N)))
  have f16_14:a14.tmps[16]? = some (.int .i64 ((i+1:Nat):Int)):=M14.at (s:=(.v (.int .i64 ((i+1:Nat):Int))))
  show ∃ n',_
  refine ⟨m-1,by omega,i+1,by omega,M14.sl,f0_14,f1_14,f4_14,f5_14,f15_14,f16_14,?_⟩
  rw[hstepC i C2 (by rw[hCe];exact hC2e)]
  exact M14.st
 ·have hiN:i=N:=by omega
  rw[hiN] at hcc
  have hcN:=hcc.2
  have M20:RG.M w w.heap.size [] 62 [(RG.z 8),C] [kr,kt] [(0,(.v (.slice (some ⟨kn,0,none⟩) N N))),(1,(.v (.slice (some ⟨ka,0,none⟩) N N))),(4,(.p 0 0)),(5,(.s 1 N N)),(15,(.v (.int .i64 N))),(16,(.v (.int .i64 i)))] a _:=⟨hSp,sl,⟨p0,p1,p4,p5,p15,p16,trivial⟩⟩
  repeat refine wp_seq ?_
  refine M20.u [.x 17 [] (.bool false)] [(4,(.p 0 0)),(5,(.s 1 N N)),(17,(.v (.bool false)))] ⟨RG.cert_bin rfl .lss 3 3 16 15 (.int .i64 i) (.int .i64 N) (.bool false) rfl rfl RG.sx RG.sx (fun w=>by kernel_rfl) (lssn_f hi),trivial⟩ ?_
  intro a21 w21 M21
  repeat refine wp_seq ?_
  refine wp_cond_false M21.ev ?_
  refine wp_exit ?_
  dsimp only[Exit.then,Exit.inBlock]
  rw[if_pos rfl]
  repeat refine wp_seq ?_
  refine M21.t [.m 7 [] 2] [(0,(tw ((0,0,0):T3 P)))] [] [(RG.z 8),C,(tw ((0,0,0):T3 P))] [(4,(.p 0 0)),(5,(.s 1 N N)),(7,(.p 2 0))] ⟨RG.cert_alloc 2 rfl rfl _ rfl 102 rfl (al117),trivial⟩ ?_
  intro j22 a22 w22 M22
  repeat refine wp_seq ?_
  refine M22.u [.x 8 [] (.int .i64 256)] [(4,(.p 0 0)),(5,(.s 1 N N)),(7,(.p 2 0)),(8,(.v (.int .i64 256)))] ⟨RG.st,trivial⟩ ?_
  intro a23 w23 M23
  have f4_23:a23.tmps[4]? = some (.pointer (some ⟨kr,0,none⟩)):=M23.at (s:=(.p 0 0))
  have f5_23:a23.tmps[5]? = some (.slice (some ⟨kt,0,none⟩) N N):=M23.at (s:=(.s 1 N N))
  have f7_23:a23.tmps[7]? = some (.pointer (some ⟨j22,0,none⟩)):=M23.at (s:=(.p 2 0))
  have f8_23:a23.tmps[8]? = some (.int .i64 256):=M23.at (s:=(.v (.int .i64 256)))
  repeat refine wp_seq ?_
  refine wp_block ?_
  refine wp_loop_ghost (fun m a wr=>m≤257∧RG.Sl a 62∧a.tmps[4]? = some (.pointer (some ⟨kr,0,none⟩))∧a.tmps[5]? = some (.slice (some ⟨kt,0,none⟩) N N)∧a.tmps[7]? = some (.pointer (some ⟨j22,0,none⟩))∧a.tmps[8]? = some (.int .i64 ((m:Int)-1))∧RG.St w w.heap.size [] [[.int .u64 0,.int .u64 0,.int .u64 0,.int .u64 0,.int .u64 0,.int .u64 0,.int .u64 0,.int .u64 0],C,tw (sumJ ns xs ys N (257-m))] [kr,kt,j22] wr) 257 ⟨Nat.le_refl _,M23.sl,f4_23,f5_23,f7_23,f8_23,?_⟩ ?_
  ·rw[Nat.sub_self,sumJ]
   exact M23.st
  intro m b wr
  rintro ⟨hm,slb,q4,q5,q7,q8,hSq⟩
  generalize j22=kl at q7 hSq
  by_cases hz:m=0
  ·subst hz
   rw[show 257-0=257 from rfl] at hSq
   obtain ⟨s,hse⟩:∃ s,sumJ ns xs ys N 257=s:=⟨_,rfl⟩
   rw[hse] at hSq
   have M40:RG.M w w.heap.size [] 62 [(RG.z 8),C,(tw s)] [kr,kt,kl] [(4,(.p 0 0)),(5,(.s 1 N N)),(7,(.p 2 0)),(8,(.v (.int .i64 (-1))))] b _:=⟨hSq,slb,⟨q4,q5,q7,q8,trivial⟩⟩
   repeat refine wp_seq ?_
   refine M40.u [.x 32 [] (.int .i64 (-1)),.x 33 [(32,0)] (.bool false)] [(4,(.p 0 0)),(7,(.p 2 0)),(33,(.v (.bool false)))] ⟨RG.st,RG.st,trivial⟩ ?_
   intro a41 w41 M41
   repeat refine wp_seq ?_
   refine wp_cond_false M41.ev ?_
   refine wp_exit ?_
   dsimp only[Exit.then,Exit.inBlock]
   rw[if_pos rfl]
   repeat refine wp_seq ?_
   refine M41.t [.x 60 [] (tv s),.c 61 [(60,0)] (pv (s.1*(EC.inv s.2.2*EC.inv s.2.2)) (s.2.1*(EC.inv s.2.2*EC.inv s.2.2)*EC.inv s.2.2)),.u [(61,1)] 0] [] [(0,2,(ws (s.1*(EC.inv s.2.2*EC.inv s.2.2))++(ws (s.2.1*(EC.inv s.2.2*EC.inv s.2.2)*EC.inv s.2.2))))] [(ws (s.1*(EC.inv s.2.2*EC.inv s.2.2))++(ws (s.2.1*(EC.inv s.2.2*EC.inv s.2.2)*EC.inv s.2.2))),C,(tw s)] [(4,(.p 0 0))] ⟨RG.ld u117 i117,RG.cl (ptJ_c F s),RG.pt i109,trivial⟩ ?_
   intro a42 w42 M42
   refine wp_ret ?_
   refine bodyPost_ret (v:=pv (s.1*(EC.inv s.2.2*EC.inv s.2.2)) (s.2.1*(EC.inv s.2.2*EC.inv s.2.2)*EC.inv s.2.2)) (RG.results_row M42.st 4 53 rfl 0 _ rfl (M42.at (s:=(.p 0 0))) u109 i109) M42.sl.defers ?_
   exact ⟨_,rfl,M42.st.bel.below,s,hse.symm,rfl⟩
  ·obtain ⟨q,rfl⟩:∃ q,m=q+1:=⟨m-1,by omega⟩
   have hq:q<257:=by omega
   replace q8:b.tmps[8]? = some (.int .i64 q):=by rw[q8];congr 2;omega
   obtain ⟨s,hse⟩:∃ s,sumJ ns xs ys N (257-(q+1))=s:=⟨_,rfl⟩
   rw[hse] at hSq
   obtain ⟨s2,hs2e⟩:∃ t,twJ s=t:=⟨_,rfl⟩
   have hs2:Gives 46 #[tv s] (tv s2):=hs2e ▸ twJ_c F s
   have hnext:sumJ ns xs ys N (257-q)=inn ns xs ys s2 q N:=by
    rw[show 257-q=257-(q+1)+1 by omega]
    show inn ns xs ys (twJ (sumJ ns xs ys N (257-(q+1)))) (256-(257-(q+1))) N=_
    rw[hse,hs2e,show 256-(257-(q+1))=q by omega]
   have M30:RG.M w w.heap.size [] 62 [(RG.z 8),C,(tw s)] [kr,kt,kl] [(4,(.p 0 0)),(5,(.s 1 N N)),(7,(.p 2 0)),(8,(.v (.int .i64 q)))] b _:=⟨hSq,slb,⟨q4,q5,q7,q8,trivial⟩⟩
   repeat refine wp_seq ?_
   refine M30.u [.x 32 [] (.int .i64 q),.x 33 [(32,0)] (.bool true)] [(4,(.p 0 0)),(5,(.s 1 N N)),(7,(.p 2 0)),(8,(.v (.int .i64 q))),(33,(.v (.bool true)))] ⟨RG.st,RG.cert_binc rfl .geq 3 3 32 (.int .i64 q) (.int .i64 0) (.bool true) rfl rfl RG.sx (fun w=>by kernel_rfl) (geq0' q),trivial⟩ ?_
   intro a31 w31 M31
   repeat refine wp_seq ?_
   refine wp_cond_true M31.ev ?_
   refine wp_skip ?_
   refine wp_seq ?_
   refine wp_block ?_
   repeat refine wp_seq ?_
   refine M31.t [.x 36 [] (tv s),.c 37 [(36,0)] (tv s2),.u [(37,1)] 2] [] [(2,2,(tw s2))] [(RG.z 8),C,(tw s2)] [(4,(.p 0 0)),(5,(.s 1 N N)),(7,(.p 2 0)),(8,(.v (.int .i64 q)))] ⟨RG.ld u117 i117,RG.cl (hs2),RG.pt i117,trivial⟩ ?_
   intro a32 w32 M32
   repeat refine wp_seq ?_
   refine M32.u [.s 38 [] (.s 1 N N),.x 39 [(38,0)] (.int .i64 N),.x 40 [] (.int .i64 0)] [(4,(.p 0 0)),(5,(.s 1 N N)),(7,(.p 2 0)),(8,(.v (.int .i64 q))),(39,(.v (.int .i64 N))),(40,(.v (.int .i64 0)))] ⟨RG.st,RG.cert_one rfl 38 (.s 1 N N) (.int .i64 N) rfl RG.sx (fun a w=>by kernel_rfl) (fun μ w=>by kernel_rfl),RG.st,trivial⟩ ?_
   intro a33 w33 M33
   have f4_33:a33.tmps[4]? = some (.pointer (some ⟨kr,0,none⟩)):=M33.at (s:=(.p 0 0))
   have f5_33:a33.tmps[5]? = some (.slice (some ⟨kt,0,none⟩) N N):=M33.at (s:=(.s 1 N N))
   have f7_33:a33.tmps[7]? = some (.pointer (some ⟨kl,0,none⟩)):=M33.at (s:=(.p 2 0))
   have f8_33:a33.tmps[8]? = some (.int .i64 q):=M33.at (s:=(.v (.int .i64 q)))
   have f39_33:a33.tmps[39]? = some (.int .i64 N):=M33.at (s:=(.v (.int .i64 N)))
   have f40_33:a33.tmps[40]? = some (.int .i64 0):=M33.at (s:=(.v (.int .i64 0)))
   repeat refine wp_seq ?_
   refine wp_block ?_
   refine wp_loop_ghost (fun m a wr=>∃ i,i+m=N∧RG.Sl a 62∧a.tmps[4]? = some (.pointer (some ⟨kr,0,none⟩))∧a.tmps[5]? = some (.slice (some ⟨kt,0,none⟩) N N)∧a.tmps[7]? = some (.pointer (some ⟨kl,0,none⟩))∧a.tmps[8]? = some (.int .i64 q)∧a.tmps[39]? = some (.int .i64 N)∧a.tmps[40]? = some (.int .i64 i)∧RG.St w w.heap.size [] [[.int .u64 0,.int .u64 0,.int .u64 0,.int .u64 0,.int .u64 0,.int .u64 0,.int .u64 0,.int .u64 0],C,tw (inn ns xs ys s2 q i)] [kr,kt,kl] wr) N ⟨0,by omega,M33.sl,f4_33,f5_33,f7_33,f8_33,f39_33,f40_33,M33.st⟩ ?_
   intro m' c wr
   rintro ⟨i,him,slc,r4,r5,r7,r8,r39,r40,hSr⟩
   obtain ⟨s,hse3⟩:∃ s,inn ns xs ys s2 q i=s:=⟨_,rfl⟩
   rw[hse3] at hSr
   by_cases hi:i<N
   ·obtain ⟨h1,h2⟩:=hcN i hi
    obtain ⟨d,hde⟩:∃ d,digs (ns i) q=d:=⟨_,rfl⟩
    have hdig:C[353*i+96+q]? = some (.int .i8 d):=hde ▸ h1 q hq
    have hCne:C≠[]:=by intro h;rw[h] at hdig;simp at hdig
    have hstep:inn ns xs ys s2 q (i+1)=if d=0 then s else plJ s (tmJ (xs i) (ys i) d):=by rw[← hse3,← hde];rfl
    by_cases hdz:d=0
    ·rw[if_pos hdz] at hstep
     rw[hdz] at hdig
     have M50:RG.M w w.heap.size [] 62 [(RG.z 8),C,(tw s)] [kr,kt,kl] [(4,(.p 0 0)),(5,(.s 1 N N)),(7,(.p 2 0)),(8,(.v (.int .i64 q))),(39,(.v (.int .i64 N))),(40,(.v (.int .i64 i)))] c _:=⟨hSr,slc,⟨r4,r5,r7,r8,r39,r40,trivial⟩⟩
     repeat refine wp_seq ?_
     refine M50.u [.x 41 [] (.bool true)] [(4,(.p 0 0)),(5,(.s 1 N N)),(7,(.p 2 0)),(8,(.v (.int .i64 q))),(39,(.v (.int .i64 N))),(40,(.v (.int .i64 i))),(41,(.v (.bool true)))] ⟨RG.cert_bin rfl .lss 3 3 40 39 (.int .i64 i) (.int .i64 N) (.bool true) rfl rfl RG.sx RG.sx (fun w=>by kernel_rfl) (lssn_t hi),trivial⟩ ?_
     intro a51 w51 M51
     repeat refine wp_seq ?_
     refine wp_cond_true M51.ev ?_
     refine wp_skip ?_
     refine wp_seq ?_
     refine wp_block ?_
     repeat refine wp_seq ?_
     refine M51.u [.x 42 [] (.int .i64 i),.x 9 [(42,0)] (.int .i64 i)] [(4,(.p 0 0)),(5,(.s 1 N N)),(7,(.p 2 0)),(8,(.v (.int .i64 q))),(9,(.v (.int .i64 i))),(39,(.v (.int .i64 N))),(40,(.v (.int .i64 i)))] ⟨RG.st,RG.st,trivial⟩ ?_
     intro a52 w52 M52
     repeat refine wp_seq ?_
     refine M52.u [.s 43 [] (.s 1 N N),.x 44 [] (.int .i64 i),.x 45 [] (.int .i64 q),.s 46 [(43,0),(44,1)] (.p 1 (353*i)),.s 47 [(46,3)] (.p 1 ((353*i)+96)),.s 48 [(47,4),(45,2)] (.p 1 (((353*i)+96)+q)),.x 49 [(48,5)] (.int .i8 0),.x 10 [(49,6)] (.int .i8 0)] [(4,(.p 0 0)),(5,(.s 1 N N)),(7,(.p 2 0)),(8,(.v (.int .i64 q))),(10,(.v (.int .i8 0))),(39,(.v (.int .i64 N))),(40,(.v (.int .i64 i)))] ⟨RG.st,RG.st,RG.st,RG.cert_idx rfl 99 43 44 rfl (.s 1 N N) (.int .i64 i) RG.sx RG.sx (fun μ w=>at135 _ _ _ i hi w),RG.st,RG.cert_idx rfl 105 47 45 rfl (.p 1 ((353*i)+96)) (.int .i64 q) RG.sx RG.sx (fun μ w=>at138 _ _ q hq w),RG.cert_load1 rfl 1 (((353*i)+96)+q) _ rfl rfl (by kernel_rfl) 104 48 rfl (.int .i8 0) rfl RG.sx hdig u137,RG.st,trivial⟩ ?_
     intro a53 w53 M53
     repeat refine wp_seq ?_
     refine M53.u [.x 50 [] (.int .i8 0),.x 51 [(50,0)] (.bool false)] [(4,(.p 0 0)),(5,(.s 1 N N)),(7,(.p 2 0)),(8,(.v (.int .i64 q))),(39,(.v (.int .i64 N))),(40,(.v (.int .i64 i))),(51,(.v (.bool false)))] ⟨RG.st,RG.cert_binc rfl .neq 104 104 50 (.int .i8 0) (.int .i8 0) (.bool false) rfl rfl RG.sx (fun w=>by kernel_rfl) (ne8_f),trivial⟩ ?_
     intro a54 w54 M54
     repeat refine wp_seq ?_
     refine wp_cond_false M54.ev ?_
     refine wp_skip ?_
     repeat refine wp_seq ?_
     refine M54.u [.x 59 [] (.int .i64 ((i+1:Nat):Int)),.x 40 [(59,0)] (.int .i64 ((i+1:Nat):Int))] [(4,(.p 0 0)),(5,(.s 1 N N)),(7,(.p 2 0)),(8,(.v (.int .i64 q))),(39,(.v (.int .i64 N))),(40,(.v (.int .i64 ((i+1:Nat):Int))))] ⟨RG.cert_binc rfl .add 3 3 40 (.int .i64 i) (.int .i64 1) (.int .i64 ((i+1:Nat):Int)) rfl rfl RG.sx (fun w=>by kernel_rfl) (addn i 1 (by omega) (by omega)),RG.st,trivial⟩ ?_
     intro a55 w55 M55
     have f4_55:a55.tmps[4]? = some (.pointer (some ⟨kr,0,none⟩)):=M55.at (s:=(.p 0 0))
     have f5_55:a55.tmps[5]? = some (.slice (some ⟨kt,0,none⟩) N N):=M55.at (s:=(.s 1 N N))
     have f7_55:a55.tmps[7]? = some (.pointer (some ⟨kl,0,none⟩)):=M55.at (s:=(.p 2 0))
     have f8_55:a55.tmps[8]? = some (.int .i64 q):=M55.at (s:=(.v (.int .i64 q)))
     have f39_55:a55.tmps[39]? = some (.int .i64 N):=M55.at (s:=(.v (.int .i64 N)))
     have f40_55:a55.tmps[40]? = some (.int .i64 ((i+1:Nat):Int)):=M55.at (s:=(.v (.int .i64 ((i+1:Nat):Int))))
     show ∃ n',_
     exact ⟨m'-1,by omega,i+1,by omega,M55.sl,f4_55,f5_55,f7_55,f8_55,f39_55,f40_55,by rw[hstep];exact M55.st⟩
    ·rw[if_neg hdz] at hstep
     have hodd:d%2=1∧-15≤d∧d≤15:=by
      obtain ⟨_,_,-,hD⟩:=digs_DI (show ns i<2^256 from hns i hi)
      rcases hD.ho q with h|h
      ·exact absurd (hde ▸ h) hdz
      ·exact hde ▸ h
     obtain ⟨s3,hs3e⟩:∃ t,tmJ (xs i) (ys i) d=t:=⟨_,rfl⟩
     obtain ⟨s4,hs4e⟩:∃ t,plJ s s3=t:=⟨_,rfl⟩
     have hs4:Gives 47 #[tv s,tv s3] (tv s4):=hs4e ▸ plJ_c F s s3
     have htm:∀ (k:Nat) (w:World),k<w.heap.size→w.rangeAt k 0 C→Calls Tryd.prog 48 #[.pointer (some ⟨k,353*i,none⟩),.int .i8 d] w (Ret fun r w'=>Below w.heap.size w w'∧r=tv s3):=fun k w hlt hr =>
      hs3e ▸ times_d F k (353*i) (xs i) (ys i) hodd.1 hodd.2 w hlt (fun qq hqq=>RG.range_sub hr (fun j hj=>by rw[Nat.add_zero];exact h2 qq j hqq (by rw[tw_length] at hj;exact hj)))
     rw[hs3e,hs4e] at hstep
     have M50:RG.M w w.heap.size [] 62 [(RG.z 8),C,(tw s)] [kr,kt,kl] [(4,(.p 0 0)),(5,(.s 1 N N)),(7,(.p 2 0)),(8,(.v (.int .i64 q))),(39,(.v (.int .i64 N))),(40,(.v (.int .i64 i)))] c _:=⟨hSr,slc,⟨r4,r5,r7,r8,r39,r40,trivial⟩⟩
     repeat refine wp_seq ?_
     refine M50.u [.x 41 [] (.bool true)] [(4,(.p 0 0)),(5,(.s 1 N N)),(7,(.p 2 0)),(8,(.v (.int .i64 q))),(39,(.v (.int .i64 N))),(40,(.v (.int .i64 i))),(41,(.v (.bool true)))] ⟨RG.cert_bin rfl .lss 3 3 40 39 (.int .i64 i) (.int .i64 N) (.bool true) rfl rfl RG.sx RG.sx (fun w=>by kernel_rfl) (lssn_t hi),trivial⟩ ?_
     intro a51 w51 M51
     repeat refine wp_seq ?_
     refine wp_cond_true M51.ev ?_
     refine wp_skip ?_
     refine wp_seq ?_
     refine wp_block ?_
     repeat refine wp_seq ?_
     refine M51.u [.x 42 [] (.int .i64 i),.x 9 [(42,0)] (.int .i64 i)] [(4,(.p 0 0)),(5,(.s 1 N N)),(7,(.p 2 0)),(8,(.v (.int .i64 q))),(9,(.v (.int .i64 i))),(39,(.v (.int .i64 N))),(40,(.v (.int .i64 i)))] ⟨RG.st,RG.st,trivial⟩ ?_
     intro a52 w52 M52
     repeat refine wp_seq ?_
     refine M52.u [.s 43 [] (.s 1 N N),.x 44 [] (.int .i64 i),.x 45 [] (.int .i64 q),.s 46 [(43,0),(44,1)] (.p 1 (353*i)),.s 47 [(46,3)] (.p 1 ((353*i)+96)),.s 48 [(47,4),(45,2)] (.p 1 (((353*i)+96)+q)),.x 49 [(48,5)] (.int .i8 d),.x 10 [(49,6)] (.int .i8 d)] [(4,(.p 0 0)),(5,(.s 1 N N)),(7,(.p 2 0)),(8,(.v (.int .i64 q))),(9,(.v (.int .i64 i))),(10,(.v (.int .i8 d))),(39,(.v (.int .i64 N))),(40,(.v (.int .i64 i)))] ⟨RG.st,RG.st,RG.st,RG.cert_idx rfl 99 43 44 rfl (.s 1 N N) (.int .i64 i) RG.sx RG.sx (fun μ w=>at135 _ _ _ i hi w),RG.st,RG.cert_idx rfl 105 47 45 rfl (.p 1 ((353*i)+96)) (.int .i64 q) RG.sx RG.sx (fun μ w=>at138 _ _ q hq w),RG.cert_load1 rfl 1 (((353*i)+96)+q) _ rfl rfl (by kernel_rfl) 104 48 rfl (.int .i8 d) rfl RG.sx hdig u137,RG.st,trivial⟩ ?_
     intro a53 w53 M53
     repeat refine wp_seq ?_
     refine M53.u [.x 50 [] (.int .i8 d),.x 51 [(50,0)] (.bool true)] [(4,(.p 0 0)),(5,(.s 1 N N)),(7,(.p 2 0)),(8,(.v (.int .i64 q))),(9,(.v (.int .i64 i))),(10,(.v (.int .i8 d))),(39,(.v (.int .i64 N))),(40,(.v (.int .i64 i))),(51,(.v (.bool true)))] ⟨RG.st,RG.cert_binc rfl .neq 104 104 50 (.int .i8 d) (.int .i8 0) (.bool true) rfl rfl RG.sx (fun w=>by kernel_rfl) (ne8_t hdz),trivial⟩ ?_
     intro a54 w54 M54
     repeat refine wp_seq ?_
     refine wp_cond_true M54.ev ?_
     repeat refine wp_seq ?_
     refine M54.d [.x 52 [] (tv s),.s 53 [] (.s 1 N N),.x 54 [] (.int .i64 i),.s 55 [(53,1),(54,2)] (.p 1 (353*i)),.x 56 [] (.int .i8 d),.c 57 [(55,3),(56,4)] (tv s3),.c 58 [(52,0),(57,5)] (tv s4),.u [(58,6)] 2] [] [(2,7,(tw s4))] [(RG.z 8),C,(tw s4)] [(4,(.p 0 0)),(5,(.s 1 N N)),(7,(.p 2 0)),(8,(.v (.int .i64 q))),(39,(.v (.int .i64 N))),(40,(.v (.int .i64 i)))] ⟨RG.ld u117 i117,RG.st,RG.st,RG.cert_idx rfl 99 53 54 rfl (.s 1 N N) (.int .i64 i) RG.sx RG.sx (fun μ w=>at135 _ _ _ i hi w),RG.st,RG.cert_callM2 rfl 1 _ rfl rfl (by kernel_rfl) hCne 48 55 56 (.p 1 (353*i)) (.int .i8 d) (tv s3) rfl (fun a w=>by kernel_rfl) RG.sx RG.sx (fun μ w hlt hr=>htm (μ 1) w hlt hr),RG.cl (hs4),RG.pt i117,trivial⟩ ?_
     intro a55 w55 M55
     repeat refine wp_seq ?_
     refine M55.u [.x 59 [] (.int .i64 ((i+1:Nat):Int)),.x 40 [(59,0)] (.int .i64 ((i+1:Nat):Int))] [(4,(.p 0 0)),(5,(.s 1 N N)),(7,(.p 2 0)),(8,(.v (.int .i64 q))),(39,(.v (.int .i64 N))),(40,(.v (.int .i64 ((i+1:Nat):Int))))] ⟨RG.cert_binc rfl .add 3 3 40 (.int .i64 i) (.int .i64 1) (.int .i64 ((i+1:Nat):Int)) rfl rfl RG.sx (fun w=>by kernel_rfl) (addn i 1 (by omega) (by omega)),RG.st,trivial⟩ ?_
     intro a56 w56 M56
     have f4_56:a56.tmps[4]? = some (.pointer (some ⟨kr,0,none⟩)):=M56.at (s:=(.p 0 0))
     have f5_56:a56.tmps[5]? = some (.slice (some ⟨kt,0,none⟩) N N):=M56.at (s:=(.s 1 N N))
     have f7_56:a56.tmps[7]? = some (.pointer (some ⟨kl,0,none⟩)):=M56.at (s:=(.p 2 0))
     have f8_56:a56.tmps[8]? = some (.int .i64 q):=M56.at (s:=(.v (.int .i64 q)))
     have f39_56:a56.tmps[39]? = some (.int .i64 N):=M56.at (s:=(.v (.int .i64 N)))
     have f40_56:a56.tmps[40]? = some (.int .i64 ((i+1:Nat):Int)):=M56.at (s:=(.v (.int .i64 ((i+1:Nat):Int))))
     show ∃ n',_
     exact ⟨m'-1,by omega,i+1,by omega,M56.sl,f4_56,f5_56,f7_56,f8_56,f39_56,f40_56,by rw[hstep];exact M56.st⟩
   ·have hiN3:i=N:=by omega
    rw[hiN3] at hse3
    rw[hse3] at hnext
    have M60:RG.M w w.heap.size [] 62 [(RG.z 8),C,(tw s)] [kr,kt,kl] [(4,(.p 0 0)),(5,(.s 1 N N)),(7,(.p 2 0)),(8,(.v (.int .i64 q))),(39,(.v (.int .i64 N))),(40,(.v (.int .i64 i)))] c _:=⟨hSr,slc,⟨r4,r5,r7,r8,r39,r40,trivial⟩⟩
    repeat refine wp_seq ?_
    refine M60.u [.x 41 [] (.bool false)] [(4,(.p 0 0)),(5,(.s 1 N N)),(7,(.p 2 0)),(8,(.v (.int .i64 q))),(41,(.v (.bool false)))] ⟨RG.cert_bin rfl .lss 3 3 40 39 (.int .i64 i) (.int .i64 N) (.bool false) rfl rfl RG.sx RG.sx (fun w=>by kernel_rfl) (lssn_f hi),trivial⟩ ?_
    intro a61 w61 M61
    repeat refine wp_seq ?_
    refine wp_cond_false M61.ev ?_
    refine wp_exit ?_
    dsimp only[Exit.then,Exit.inBlock]
    rw[if_pos rfl]
    repeat refine wp_seq ?_
    refine M61.u [.x 34 [] (.int .i64 q),.x 35 [(34,0)] (.int .i64 ((q:Int)-1)),.x 8 [(35,1)] (.int .i64 ((q:Int)-1))] [(4,(.p 0 0)),(5,(.s 1 N N)),(7,(.p 2 0)),(8,(.v (.int .i64 ((q:Int)-1))))] ⟨RG.st,RG.cert_binc rfl .sub 3 3 34 (.int .i64 q) (.int .i64 1) (.int .i64 ((q:Int)-1)) rfl rfl RG.sx (fun w=>by kernel_rfl) (sub1' q (by omega)),RG.st,trivial⟩ ?_
    intro a62 w62 M62
    have f4_62:a62.tmps[4]? = some (.pointer (some ⟨kr,0,none⟩)):=M62.at (s:=(.p 0 0))
    have f5_62:a62.tmps[5]? = some (.slice (some ⟨kt,0,none⟩) N N):=M62.at (s:=(.s 1 N N))
    have f7_62:a62.tmps[7]? = some (.pointer (some ⟨kl,0,none⟩)):=M62.at (s:=(.p 2 0))
    have f8_62:a62.tmps[8]? = some (.int .i64 ((q:Int)-1)):=M62.at (s:=(.v (.int .i64 ((q:Int)-1))))
    show ∃ n',_
    exact ⟨q,Nat.lt_succ_self q,by omega,M62.sl,f4_62,f5_62,f7_62,f8_62,by rw[hnext];exact M62.st⟩
end
end Go.Proofs.YtgdfkblfggnnfaaDoor
