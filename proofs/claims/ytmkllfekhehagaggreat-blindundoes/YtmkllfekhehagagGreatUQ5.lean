import Derived.Deep.LoopGhost
import Derived.Deep.RegionHeld3
import Derived.WalkKit
import Derived.Sort.Row
import Derived.Deep.Draws
import Derived.Below
import Derived.Deep.OwnRows
import Derived.Test.YtmkllfekhehagagGreatRows
import Derived.Deep.QuietTactic
import Derived.StillTailTactics
import Derived.BigRegion
import Derived.BigQuiet
import Derived.WalkSpells
import Derived.WalkLawsBesides
import Derived.Deep.RegionWith
import Derived.KernelRfl
import Derived.Lib.LazyBuf
import Derived.Lib.SliceRun
import Derived.Deep.AppendSrc
import Derived.Lib.AppendZeros
import Derived.Lib.ConvBytes
import Derived.RangeFuncNested
import Derived.RangeFuncBound
import Derived.RangeFuncCalls
import Derived.RangeFuncLeaves
import Derived.Shelf.Abstract
import Derived.Shelf.RegionOpen
import Derived.OwnWalkIn
import Derived.TacticsInMore
import Derived.LoopNIn
import Derived.LoopIn
import Derived.Deep.CutRange
import Derived.Deep.DeepCutAuto
import Derived.Test.YtmkllfekhehagagGreatUQ4
set_option linter.unusedVariables false
set_option linter.unusedSimpArgs false
namespace Go.Proofs.YtmkllfekhehagagGreat
open Go.RowKit Go.Sort Go.Deep
theorem rAdd_R {p0 p1 p2 p3 c0 c1 c2 c3 P:Nat} {x y:Value} {m n:Nat} (hR:RefP p0 p1 p2 p3 c0 c1 c2 c3 P) (hx:Four x m) (hy:Four y n) (w:World) :
 Calls Tryz.prog 70 #[.agg #[.int .u64 (p0:Int),.int .u64 (p1:Int),.int .u64 (p2:Int),.int .u64 (p3:Int),.int .u64 (c0:Int),.int .u64 (c1:Int),.int .u64 (c2:Int),.int .u64 (c3:Int)],x,y] w (Ret fun e w'=>Below w.heap.size w w'∧Four e ((m+n) % P)) :=
 rAdd_any p0 p1 p2 p3 c0 c1 c2 c3 P x y m n hR.hp0 hR.hp1 hR.hp2 hR.hp3 hR.hc0 hR.hc1 hR.hc2 hR.hc3 hR.eP hR.hP hR.hP2 hx hy w
theorem rMul_R {p0 p1 p2 p3 c0 c1 c2 c3 P:Nat} {x y:Value} {m n:Nat} (hR:RefP p0 p1 p2 p3 c0 c1 c2 c3 P) (hx:Four x m) (hy:Four y n) (w:World) :
 Calls Tryz.prog 71 #[.agg #[.int .u64 (p0:Int),.int .u64 (p1:Int),.int .u64 (p2:Int),.int .u64 (p3:Int),.int .u64 (c0:Int),.int .u64 (c1:Int),.int .u64 (c2:Int),.int .u64 (c3:Int)],x,y] w (Ret fun e w'=>Below w.heap.size w w'∧Four e (m*n % P)) :=
 rMul_any p0 p1 p2 p3 c0 c1 c2 c3 P x y m n hR.hp0 hR.hp1 hR.hp2 hR.hp3 hR.hc0 hR.hc1 hR.hc2 hR.hc3 hR.eP hR.hP hR.hP2 hx hy w
theorem sub_val {P m n:Nat} (hn:n < P):(m+(P - n) % P) % P=(m+P - n) % P:=by
 rw [Nat.add_mod,Nat.mod_mod,← Nat.add_mod,show m+P - n=m+(P - n) by omega]
set_option maxHeartbeats 4000000 in
set_option maxRecDepth 100000 in
theorem rSub_any (p0 p1 p2 p3 c0 c1 c2 c3 P:Nat) (x y:Value) (m n:Nat) (hR:RefP p0 p1 p2 p3 c0 c1 c2 c3 P) (hx:Four x m) (hy:Four y n) (hn:n < P) (w:World) :
 Calls Tryz.prog 78 #[.agg #[.int .u64 (p0:Int),.int .u64 (p1:Int),.int .u64 (p2:Int),.int .u64 (p3:Int),.int .u64 (c0:Int),.int .u64 (c1:Int),.int .u64 (c2:Int),.int .u64 (c3:Int)],x,y] w (Ret fun e w'=>Below w.heap.size w w'∧Four e ((m+P - n) % P)):=by
 obtain ⟨a,b,c,d,rfl,ha,hb,hc,hd,em⟩:=id hx
 obtain ⟨p,q,r,s,rfl,hp,hq,hr,hs,en⟩:=id hy
 have HX:Hid (Four _ _):=hx
 have HY:Hid (Four _ _):=hy
 have HR:Hid (RefP p0 p1 p2 p3 c0 c1 c2 c3 P):=hR
 have HN:Hid (n < P):=hn
 clear em en hx hy ha hb hc hd hp hq hr hs hR hn
 go_enter Tryz.func78,Tryz.ntmps78
 go_wp2_with fail
 have FR:=((((At8.made w 103 p0 p1 p2 p3 c0 c1 c2 c3 rfl).alloc (.cells #[.int .u64 (a:Int),.int .u64 (b:Int),.int .u64 (c:Int),.int .u64 (d:Int)] 59)).alloc (.cells #[.int .u64 (p:Int),.int .u64 (q:Int),.int .u64 (r:Int),.int .u64 (s:Int)] 59)).alloc (.cells #[.int .u64 0,.int .u64 0,.int .u64 0,.int .u64 0] 59))
 have X:=(((At4.made (w.alloc (.cells #[.int .u64 (p0:Int),.int .u64 (p1:Int),.int .u64 (p2:Int),.int .u64 (p3:Int),.int .u64 (c0:Int),.int .u64 (c1:Int),.int .u64 (c2:Int),.int .u64 (c3:Int)] 103)) 59 a b c d (World.size_alloc _ _)).alloc (.cells #[.int .u64 (p:Int),.int .u64 (q:Int),.int .u64 (r:Int),.int .u64 (s:Int)] 59)).alloc (.cells #[.int .u64 0,.int .u64 0,.int .u64 0,.int .u64 0] 59))
 have Y:=((At4.made ((w.alloc (.cells #[.int .u64 (p0:Int),.int .u64 (p1:Int),.int .u64 (p2:Int),.int .u64 (p3:Int),.int .u64 (c0:Int),.int .u64 (c1:Int),.int .u64 (c2:Int),.int .u64 (c3:Int)] 103)).alloc (.cells #[.int .u64 (a:Int),.int .u64 (b:Int),.int .u64 (c:Int),.int .u64 (d:Int)] 59)) 59 p q r s (k:=w.heap.size+1+1) (by simp)).alloc (.cells #[.int .u64 0,.int .u64 0,.int .u64 0,.int .u64 0] 59))
 have T3:=At4.made (((w.alloc (.cells #[.int .u64 (p0:Int),.int .u64 (p1:Int),.int .u64 (p2:Int),.int .u64 (p3:Int),.int .u64 (c0:Int),.int .u64 (c1:Int),.int .u64 (c2:Int),.int .u64 (c3:Int)] 103)).alloc (.cells #[.int .u64 (a:Int),.int .u64 (b:Int),.int .u64 (c:Int),.int .u64 (d:Int)] 59)).alloc (.cells #[.int .u64 (p:Int),.int .u64 (q:Int),.int .u64 (r:Int),.int .u64 (s:Int)] 59)) 59 0 0 0 0 (k:=w.heap.size+1+1+1) (by simp)
 have KP:=((((Kept.mk1 (below4 w (.cells #[.int .u64 (p0:Int),.int .u64 (p1:Int),.int .u64 (p2:Int),.int .u64 (p3:Int),.int .u64 (c0:Int),.int .u64 (c1:Int),.int .u64 (c2:Int),.int .u64 (c3:Int)] 103) (.cells #[.int .u64 (a:Int),.int .u64 (b:Int),.int .u64 (c:Int),.int .u64 (d:Int)] 59) (.cells #[.int .u64 (p:Int),.int .u64 (q:Int),.int .u64 (r:Int),.int .u64 (s:Int)] 59) (.cells #[.int .u64 0,.int .u64 0,.int .u64 0,.int .u64 0] 59)) (below4 w (.cells #[.int .u64 (p0:Int),.int .u64 (p1:Int),.int .u64 (p2:Int),.int .u64 (p3:Int),.int .u64 (c0:Int),.int .u64 (c1:Int),.int .u64 (c2:Int),.int .u64 (c3:Int)] 103) (.cells #[.int .u64 (a:Int),.int .u64 (b:Int),.int .u64 (c:Int),.int .u64 (d:Int)] 59) (.cells #[.int .u64 (p:Int),.int .u64 (q:Int),.int .u64 (r:Int),.int .u64 (s:Int)] 59) (.cells #[.int .u64 0,.int .u64 0,.int .u64 0,.int .u64 0] 59)).size).cons Y.blk).cons X.blk).cons (x:=⟨w.heap.size,4,c0,c1,c2,c3⟩) ⟨FR.c4,FR.c5,FR.c6,FR.c7,FR.fz⟩).cons (x:=⟨w.heap.size,0,p0,p1,p2,p3⟩) ⟨FR.c0,FR.c1,FR.c2,FR.c3,FR.fz⟩
 simp only [Int.natCast_zero] at T3
 clear FR X Y
 generalize World.alloc _ _=W0 at KP T3 ⊢
 generalize h3:w.heap.size+1+1+1=k3 at T3 ⊢
 generalize h2:w.heap.size+1+1=k2 at KP ⊢
 generalize h1:w.heap.size+1=k1 at KP ⊢
 have Q3:Hid (w.heap.size≤k3):=by unfold Hid;omega
 generalize h0:w.heap.size=k0 at KP Q3 ⊢
 have H0:Hid (w.heap.size=k0):=h0
 have hl3:∀ x∈([⟨k0,0,p0,p1,p2,p3⟩,⟨k0,4,c0,c1,c2,c3⟩,⟨k1,0,a,b,c,d⟩,⟨k2,0,p,q,r,s⟩]:List Blk),k3≠x.k:=by simp only [List.mem_cons,List.not_mem_nil,or_false];rintro x (rfl | rfl | rfl | rfl) <;> simp only <;> omega
 clear h0 h1 h2 h3
 obtain ⟨tc0,tc1,tc2,tc3,tf⟩:=id T3
 have zt:=T3.lt
 go_region_held3 (fun w'=>w'.cell? ⟨k0,0,none⟩=some (.int .u64 (p0:Int))∧w'.cell? ⟨k0,1,none⟩=some (.int .u64 (p1:Int))∧w'.cell? ⟨k0,2,none⟩=some (.int .u64 (p2:Int))∧w'.cell? ⟨k0,3,none⟩=some (.int .u64 (p3:Int))∧w'.cell? ⟨k0,4,none⟩=some (.int .u64 (c0:Int))∧w'.cell? ⟨k0,5,none⟩=some (.int .u64 (c1:Int))∧w'.cell? ⟨k0,6,none⟩=some (.int .u64 (c2:Int))∧w'.cell? ⟨k0,7,none⟩=some (.int .u64 (c3:Int))∧w'.cell? ⟨k1,0,none⟩=some (.int .u64 (a:Int))∧w'.cell? ⟨k1,1,none⟩=some (.int .u64 (b:Int))∧w'.cell? ⟨k1,2,none⟩=some (.int .u64 (c:Int))∧w'.cell? ⟨k1,3,none⟩=some (.int .u64 (d:Int))∧w'.cell? ⟨k2,0,none⟩=some (.int .u64 (p:Int))∧w'.cell? ⟨k2,1,none⟩=some (.int .u64 (q:Int))∧w'.cell? ⟨k2,2,none⟩=some (.int .u64 (r:Int))∧w'.cell? ⟨k2,3,none⟩=some (.int .u64 (s:Int))∧Kept w k0 [⟨k0,0,p0,p1,p2,p3⟩,⟨k0,4,c0,c1,c2,c3⟩,⟨k1,0,a,b,c,d⟩,⟨k2,0,p,q,r,s⟩] w') (first | (with_reducible exact mulS_of KP) | (with_reducible exact mulS_of KP.drew) | (with_reducible exact mulS_of (KP.set4' Q3.out hl3 _ _ _ _)) | (with_reducible exact mulS_of (KP.set4' Q3.out hl3 _ _ _ _).drew) | fail) (first | (go_at_call 80;refine (rNeg_any p0 p1 p2 p3 c0 c1 c2 c3 P _ _ HR.out HY.out HN.out _).mono ?_;rintro e w1 ⟨v,rfl,hb1,hE1⟩;obtain ⟨x0,x1,x2,x3,rfl,-⟩:=id hE1;have HE1:Hid (Four _ _):=hE1;clear hE1;have KP1:=KP.drew.call hb1;have T1:=T3.drew.call hb1;clear KP T3 hb1;have KP:=KP1;have T3:=T1;clear KP1 T1;obtain ⟨tc0,tc1,tc2,tc3,tf⟩:=id T3;have zt:=T3.lt) | (go_at_call 70;refine (rAdd_R HR.out HX.out HE1.out _).mono ?_;rintro e w2 ⟨v,rfl,hb2,hF3⟩;rw [sub_val HN.out] at hF3;obtain ⟨a',b',c',d',rfl,ha',hb',hc',hd',es3⟩:=id hF3;clear es3;have HF3:Hid (Four _ _):=hF3;clear hF3;have KP1:=KP.call hb2;have T1:=T3.call hb2;clear KP T3 hb2;have KP:=KP1;have T3:=T1;clear KP1 T1;obtain ⟨tc0,tc1,tc2,tc3,tf⟩:=id T3;have zt:=T3.lt))
 go_wp2
 have RF:=T3.self4 a' b' c' d'
 unfold set4 at RF
 refine bodyPost_ret (v:=?v) ?hr rfl ?hR
 case hr=>simp [results,Tryz.results78,go_sem,RF.c0,RF.c1,RF.c2,RF.c3];rfl
 refine ⟨_,rfl,?_,HF3.out⟩
 rw [H0.out]
 exact below_set4 KP.bl Q3.out _ _ _ _
end Go.Proofs.YtmkllfekhehagagGreat
namespace Go.Proofs.YtmkllfekhehagagGreat
open Go.RowKit Go.Sort Go.Deep
set_option maxHeartbeats 4000000 in
set_option maxRecDepth 100000 in
theorem rPow_any (p0 p1 p2 p3 c0 c1 c2 c3 P:Nat) (x y:Value) (m n:Nat) (hR:RefP p0 p1 p2 p3 c0 c1 c2 c3 P) (hx:Four x m) (hy:Four y n) (w:World) :
 Calls Tryz.prog 123 #[.agg #[.int .u64 (p0:Int),.int .u64 (p1:Int),.int .u64 (p2:Int),.int .u64 (p3:Int),.int .u64 (c0:Int),.int .u64 (c1:Int),.int .u64 (c2:Int),.int .u64 (c3:Int)],x,y] w (Ret fun e w'=>Below w.heap.size w w'∧Four e (m ^ n % P)):=by
 obtain ⟨a,b,c,d,rfl,ha,hb,hc,hd,em⟩:=id hx
 obtain ⟨p,q,r,s,rfl,hp,hq,hr,hs,en⟩:=id hy
 have HX:Hid (Four _ _):=hx
 have HY:Hid (Four _ _):=hy
 have HR:Hid (RefP p0 p1 p2 p3 c0 c1 c2 c3 P):=hR
 clear em en hx hy ha hb hc hd hp hq hr hs hR
 go_enter Tryz.func123,Tryz.ntmps123
 go_wp2_with fail
 have KP:=keptF3 w p0 p1 p2 p3 c0 c1 c2 c3 a b c d p q r s
 generalize World.alloc _ _=W0 at KP ⊢
 generalize h3:w.heap.size+1+1+1=k3 at KP ⊢
 generalize h2:w.heap.size+1+1=k2 at KP ⊢
 generalize h1:w.heap.size+1=k1 at KP ⊢
 have Q3:Hid (w.heap.size≤k3):=by unfold Hid;omega
 generalize h0:w.heap.size=k0 at KP Q3 ⊢
 have H0:Hid (w.heap.size=k0):=h0
 clear h0 h1 h2 h3
 refine (rSmall_any 1 (by decide) _).mono ?_
 rintro e w1 ⟨v,rfl,hb1,rfl⟩
 replace KP:=KP.call hb1
 clear hb1
 go_wp2
 have KN:Kept w k0 (⟨w1.heap.size,0,1,0,0,0⟩ :: [⟨k0,0,p0,p1,p2,p3⟩,⟨k0,4,c0,c1,c2,c3⟩,⟨k1,0,a,b,c,d⟩,⟨k2,0,p,q,r,s⟩,⟨k3,0,0,0,0,0⟩]) _:=(KP.alloc (.cells #[.int .u64 1,.int .u64 0,.int .u64 0,.int .u64 0] 59)).cons (At4.made w1 59 1 0 0 0 rfl).blk
 have Q7:Hid (k0≤w1.heap.size):=KP.le
 have hlt:=KP.lts
 clear KP
 generalize World.alloc _ _=W1 at KN ⊢
 generalize w1.heap.size=k7 at KN hlt Q7 ⊢
 have hl7:∀ x∈([⟨k0,0,p0,p1,p2,p3⟩,⟨k0,4,c0,c1,c2,c3⟩,⟨k1,0,a,b,c,d⟩,⟨k2,0,p,q,r,s⟩,⟨k3,0,0,0,0,0⟩]:List Blk),k7≠x.k:=fun x hx=>Nat.ne_of_gt (hlt x hx)
 have n70:k7≠k0:=hl7 _ (List.mem_cons_self)
 have n71:k7≠k1:=hl7 ⟨k1,0,a,b,c,d⟩ (by simp)
 have n72:k7≠k2:=hl7 ⟨k2,0,p,q,r,s⟩ (by simp)
 have n73:k7≠k3:=hl7 ⟨k3,0,0,0,0,0⟩ (by simp)
 clear hlt
 go_loopg [8] 256 (fun gk s8 wr=>gk≤256∧s8=.int .i64 ((gk:Int) - 1)∧∃ na nb nc nd:Nat,Kept w k0 (⟨k7,0,na,nb,nc,nd⟩ :: [⟨k0,0,p0,p1,p2,p3⟩,⟨k0,4,c0,c1,c2,c3⟩,⟨k1,0,a,b,c,d⟩,⟨k2,0,p,q,r,s⟩,⟨k3,0,0,0,0,0⟩]) wr∧Hid (Four (.agg #[.int .u64 (na:Int),.int .u64 (nb:Int),.int .u64 (nc:Int),.int .u64 (nd:Int)]) (m ^ (n / 2 ^ gk) % P)))
 case atStart =>
  refine ⟨Nat.le_refl _,rfl,1,0,0,0,KN,?_⟩
  have h1:=HR.out.hP2
  have h2:3 < top:=by decide
  rw [show n / 2 ^ 256=0 from Nat.div_eq_of_lt HY.out.lt,Nat.pow_zero,Nat.mod_eq_of_lt (by omega)]
  exact Four.mk (by decide) (by decide) (by decide) (by decide) rfl
 case round =>
  clear KN
  obtain ⟨hg,rfl,na,nb,nc,nd,KP,HF⟩:=hrel
  obtain ⟨tc0,tc1,tc2,tc3,tf⟩:=KP.head.at4
  have zt:=KP.head.lt
  by_cases hz:gk=0
  · subst hz
    have HF0:=HF.out
    rw [Nat.pow_zero,Nat.div_one] at HF0
    have HFE:Hid (Four _ _):=HF0
    clear HF0 HF
    obtain ⟨rc0,rc1,rc2,rc3,rf⟩:=KP.tail.tail.tail.tail.tail.head.at4
    have zr:=KP.tail.tail.tail.tail.tail.head.lt
    go_wp2
    have RF:=KP.tail.tail.tail.tail.tail.head.at4.self4 na nb nc nd
    unfold set4 at RF
    refine bodyPost_ret (v:=?v) ?hr rfl ?hR
    case hr=>simp [results,Tryz.results123,go_sem,RF.c0,RF.c1,RF.c2,RF.c3];rfl
    refine ⟨_,rfl,?_,HFE.out⟩
    rw [H0.out]
    exact below_set4 KP.bl Q3.out _ _ _ _
  · obtain ⟨i,hi⟩:∃ i,gk=i+1:=⟨gk - 1,by omega⟩
    have e1:(gk:Int) - 1=(i:Int):=by omega
    rw [e1]
    have d1:(0:Int)≤(i:Int):=by omega
    have hi2:i < 256:=by omega
    obtain ⟨E,hE⟩:∃ E,n / 2 ^ gk=E:=⟨_,rfl⟩
    rw [hE] at HF
    rw [hi] at hE
    have HE:Hid (n / 2 ^ (i+1)=E):=hE
    have HI:Hid (gk=i+1):=hi
    clear hE hi e1
    obtain ⟨fc0,fc1,fc2,fc3,ff⟩:=KP.tail.head.at4
    have fb:=KP.tail.tail.head
    obtain ⟨fd0,fd1,fd2,fd3,fg⟩:=id fb
    replace fd0:wr.cell? ⟨k0,4,none⟩=some (.int .u64 (c0:Int)):=fd0
    replace fd1:wr.cell? ⟨k0,5,none⟩=some (.int .u64 (c1:Int)):=fd1
    replace fd2:wr.cell? ⟨k0,6,none⟩=some (.int .u64 (c2:Int)):=fd2
    replace fd3:wr.cell? ⟨k0,7,none⟩=some (.int .u64 (c3:Int)):=fd3
    have zf:=KP.tail.head.lt
    go_wp2_with fail
    clear tc0 tc1 tc2 tc3 tf zt fc0 fc1 fc2 fc3 ff fb fd0 fd1 fd2 fd3 fg zf
    refine (rMul_R HR.out HF.out HF.out _).mono ?_
    rintro e w2 ⟨v,rfl,hb2,hF3⟩
    rw [pow_two_mod] at hF3
    obtain ⟨ya,yb,yc,yd,rfl,-⟩:=id hF3
    clear HF
    have HF:Hid (Four _ _):=hF3
    clear hF3
    replace KP:=KP.call hb2
    clear hb2
    obtain ⟨tc0,tc1,tc2,tc3,tf⟩:=KP.head.at4
    have zt:=KP.head.lt
    obtain ⟨ec0,ec1,ec2,ec3,ef⟩:=KP.tail.tail.tail.tail.head.at4
    have ze:=KP.tail.tail.tail.tail.head.lt
    go_wp2_with fail
    clear tc0 tc1 tc2 tc3 tf zt ec0 ec1 ec2 ec3 ef ze
    have KP2:=KP.put Q7.out hl7 ya yb yc yd
    clear KP
    generalize World.setCell _ _ _=WX at KP2 ⊢
    refine (rBit_any _ _ i HY.out hi2 _).mono ?_
    rintro e w3 ⟨v,rfl,hb3,t,rfl,ht⟩
    have KP:=KP2.call hb3
    have HT:Hid (t=n / 2 ^ i % 2):=ht
    have ht2:t=0∨t=1:=by omega
    clear hb3 KP2 ht
    rcases ht2 with rfl | rfl
    · go_wp2
      go_roundg (gk - 1)
      case measure=>omega
      case rel =>
       refine ⟨by omega,?_,ya,yb,yc,yd,KP,?_⟩
       · have:=HI.out
         congr 1
         omega
       · have h1:=HF.out
         unfold Hid
         rw [HI.out,Nat.add_sub_cancel,div_bit n i,HE.out,← HT.out,Nat.add_zero]
         exact h1
    · obtain ⟨tc0,tc1,tc2,tc3,tf⟩:=KP.head.at4
      have zt:=KP.head.lt
      obtain ⟨ac0,ac1,ac2,ac3,af⟩:=KP.tail.tail.tail.head.at4
      have za:=KP.tail.tail.tail.head.lt
      obtain ⟨fc0,fc1,fc2,fc3,ff⟩:=KP.tail.head.at4
      have fb:=KP.tail.tail.head
      obtain ⟨fd0,fd1,fd2,fd3,fg⟩:=id fb
      replace fd0:w3.cell? ⟨k0,4,none⟩=some (.int .u64 (c0:Int)):=fd0
      replace fd1:w3.cell? ⟨k0,5,none⟩=some (.int .u64 (c1:Int)):=fd1
      replace fd2:w3.cell? ⟨k0,6,none⟩=some (.int .u64 (c2:Int)):=fd2
      replace fd3:w3.cell? ⟨k0,7,none⟩=some (.int .u64 (c3:Int)):=fd3
      have zf:=KP.tail.head.lt
      go_wp2_with fail
      clear tc0 tc1 tc2 tc3 tf zt fc0 fc1 fc2 fc3 ff fb fd0 fd1 fd2 fd3 fg zf ac0 ac1 ac2 ac3 af za
      refine (rMul_R HR.out HF.out HX.out _).mono ?_
      rintro e w4 ⟨v,rfl,hb4,hF3⟩
      rw [pow_step_mod] at hF3
      obtain ⟨ua,ub,uc,ud,rfl,-⟩:=id hF3
      clear HF
      have HF:Hid (Four _ _):=hF3
      clear hF3
      replace KP:=KP.call hb4
      clear hb4
      obtain ⟨tc0,tc1,tc2,tc3,tf⟩:=KP.head.at4
      have zt:=KP.head.lt
      go_wp2
      go_roundg (gk - 1)
      case measure=>omega
      case rel =>
       refine ⟨by omega,?_,ua,ub,uc,ud,KP.put Q7.out hl7 ua ub uc ud,?_⟩
       · have:=HI.out
         congr 1
         omega
       · have h1:=HF.out
         unfold Hid
         rw [HI.out,Nat.add_sub_cancel,div_bit n i,HE.out,← HT.out]
         exact h1
set_option maxHeartbeats 2000000 in
set_option maxRecDepth 100000 in
theorem rInv_any (p0 p1 p2 p3 c0 c1 c2 c3 P:Nat) (x:Value) (m:Nat) (hR:RefP p0 p1 p2 p3 c0 c1 c2 c3 P) (hx:Four x m) (w:World) :
 Calls Tryz.prog 76 #[.agg #[.int .u64 (p0:Int),.int .u64 (p1:Int),.int .u64 (p2:Int),.int .u64 (p3:Int),.int .u64 (c0:Int),.int .u64 (c1:Int),.int .u64 (c2:Int),.int .u64 (c3:Int)],x] w (Ret fun e w'=>Below w.heap.size w w'∧Four e (m ^ (P - 2) % P)):=by
 have HR:Hid (RefP p0 p1 p2 p3 c0 c1 c2 c3 P):=hR
 have HX:Hid (Four x m):=hx
 obtain ⟨a,b,c,d,rfl,ha,hb,hc,hd,em⟩:=id hx
 clear hR hx em ha hb hc hd
 go_enter Tryz.func76,Tryz.ntmps76
 go_wp2_with fail
 have KP:=keptF2 w p0 p1 p2 p3 c0 c1 c2 c3 a b c d
 generalize World.alloc _ _=W0 at KP ⊢
 generalize h2:w.heap.size+1+1=k2 at KP ⊢
 generalize h1:w.heap.size+1=k1 at KP ⊢
 have Q2:Hid (w.heap.size≤k2):=by unfold Hid;omega
 generalize h0:w.heap.size=k0 at KP Q2 ⊢
 have H0:Hid (w.heap.size=k0):=h0
 clear h0 h1 h2
 have hP4:Four (.agg #[.int .u64 (p0:Int),.int .u64 (p1:Int),.int .u64 (p2:Int),.int .u64 (p3:Int)]) P:=Four.mk HR.out.hp0 HR.out.hp1 HR.out.hp2 HR.out.hp3 HR.out.eP
 refine (rless_any _ _ P 2 hP4 (Four.mk (a:=2) (b:=0) (c:=0) (d:=0) (by decide) (by decide) (by decide) (by decide) rfl) _).mono ?_
 rintro e w1 ⟨v,rfl,hb1,v2,t,k,rfl,hF,hk,he⟩
 have ht:t=P - 2:=by
  have h1:=hF.lt
  have h2:=hP4.lt
  have h3:=HR.out.hP2
  have h4:3 < top:=by decide
  have:k=0∨k=1:=by omega
  rcases this with h | h <;> rw [h] at he <;> omega
 have HE:Hid (Four v2 (P - 2)):=by unfold Hid;rw [← ht];exact hF
 obtain ⟨ea,eb,ec,ed,rfl,-⟩:=id hF
 replace KP:=KP.call hb1
 clear hb1 hF ht he hP4
 obtain ⟨xc0,xc1,xc2,xc3,xf⟩:=KP.tail.tail.head.at4
 have zx:=KP.tail.tail.head.lt
 obtain ⟨fc0,fc1,fc2,fc3,ff⟩:=KP.head.at4
 have fb:=KP.tail.head
 obtain ⟨fd0,fd1,fd2,fd3,fg⟩:=id fb
 replace fd0:w1.cell? ⟨k0,4,none⟩=some (.int .u64 (c0:Int)):=fd0
 replace fd1:w1.cell? ⟨k0,5,none⟩=some (.int .u64 (c1:Int)):=fd1
 replace fd2:w1.cell? ⟨k0,6,none⟩=some (.int .u64 (c2:Int)):=fd2
 replace fd3:w1.cell? ⟨k0,7,none⟩=some (.int .u64 (c3:Int)):=fd3
 have zf:=KP.head.lt
 have n0:k0≠w1.heap.size:=Nat.ne_of_lt zf
 have n1:k1≠w1.heap.size:=Nat.ne_of_lt zx
 go_wp2_with fail
 clear xc0 xc1 xc2 xc3 xf zx fc0 fc1 fc2 fc3 ff fb fd0 fd1 fd2 fd3 fg zf n0 n1
 refine (rPow_any p0 p1 p2 p3 c0 c1 c2 c3 P _ _ _ _ HR.out HX.out HE.out _).mono ?_
 rintro e w2 ⟨v,rfl,hb2,hF⟩
 replace KP:=(KP.alloc _).call hb2
 clear hb2
 obtain ⟨qa,qb,qc,qd,rfl,-⟩:=id hF
 have HF:Hid (Four _ _):=hF
 clear hF
 obtain ⟨rc0,rc1,rc2,rc3,rf⟩:=KP.tail.tail.tail.head.at4
 have zr:=KP.tail.tail.tail.head.lt
 go_wp2
 have RF:=KP.tail.tail.tail.head.at4.self4 qa qb qc qd
 unfold set4 at RF
 refine bodyPost_ret (v:=?v) ?hr rfl ?hR
 case hr=>simp [results,Tryz.results76,go_sem,RF.c0,RF.c1,RF.c2,RF.c3];rfl
 refine ⟨_,rfl,?_,HF.out⟩
 rw [H0.out]
 exact below_set4 KP.bl Q2.out _ _ _ _
end Go.Proofs.YtmkllfekhehagagGreat
namespace Go.Proofs.YtmkllfekhehagagGreat
open Go.RowKit Go.Sort Go.Deep
theorem or_high (v t r:Nat) (hr:r < 64) (hv:v < 2 ^ r) (ht:t < 2):bits .or .u64 (v:Int) ((t*2 ^ r:Nat):Int)=((v+t*2 ^ r:Nat):Int)∧v+t*2 ^ r < 18446744073709551616:=by
 have h1:2 ^ r≤2 ^ 63:=Nat.pow_le_pow_right (by decide) (by omega)
 have h2:t*2 ^ r≤1*2 ^ r:=Nat.mul_le_mul_right _ (by omega)
 have h3:(2:Nat) ^ 63=9223372036854775808:=by decide
 have e:=Nat.two_pow_add_eq_or_of_lt hv t
 refine ⟨?_,by omega⟩
 rw [bits_or_u64_nat _ _ (by omega) (by omega),Nat.or_comm,Nat.mul_comm t,← e,Nat.add_comm]
theorem quart_word {a b c d Q i:Nat} (ha:a < 18446744073709551616) (hb:b < 18446744073709551616) (hc:c < 18446744073709551616) (hd:d < 18446744073709551616) (hi:i < 256) (hv:val a b c d=Q % 2 ^ i):wd a b c d (i / 64) < 2 ^ (i % 64):=by
 rw [wd_eq (i / 64) (by omega) ha hb hc hd,hv]
 refine Nat.lt_of_le_of_lt (Nat.mod_le _ _) ?_
 refine Nat.div_lt_of_lt_mul ?_
 rw [← Nat.pow_add,show 64*(i / 64)+i % 64=i by omega]
 exact Nat.mod_lt _ (Nat.pow_pos (by decide))
theorem quart_step {a b c d Q i t o:Nat} (hi:i < 256) (hv:val a b c d=Q % 2 ^ i) (ht:t=Q / 2 ^ i % 2) (ho:o=wd a b c d (i / 64)+t*2 ^ (i % 64)) :
 val (if i / 64=0 then o else a) (if i / 64=1 then o else b) (if i / 64=2 then o else c) (if i / 64=3 then o else d)=Q % 2 ^ (i+1):=by
 have h:=val_set a b c d (i / 64) o (by omega)
 have e:(2:Nat) ^ i=2 ^ (64*(i / 64))*2 ^ (i % 64):=by
  rw [← Nat.pow_add,show 64*(i / 64)+i % 64=i by omega]
 rw [ho,Nat.mul_add,← Nat.mul_assoc,Nat.mul_comm (2 ^ (64*(i / 64))) t,Nat.mul_assoc,← e] at h
 rw [ho,Nat.pow_succ,Nat.mod_mul,← ht,Nat.mul_comm (2 ^ i)]
 omega
theorem sqS_of {w W:World} {k0 k1 k2 k3 j v p0 p1 p2 p3 c0 c1 c2 c3 a b c d qa qb qc qd:Nat} (h:Kept w k0 (⟨k3,0,qa,qb,qc,qd⟩ :: [⟨k0,0,p0,p1,p2,p3⟩,⟨k0,4,c0,c1,c2,c3⟩,⟨k1,0,a,b,c,d⟩,⟨k2,0,0,0,0,0⟩]) W) (hx:W.cell? ⟨k3,j,none⟩=some (.int .u64 (v:Int))):W.cell? ⟨k0,0,none⟩=some (.int .u64 (p0:Int))∧W.cell? ⟨k0,1,none⟩=some (.int .u64 (p1:Int))∧W.cell? ⟨k0,2,none⟩=some (.int .u64 (p2:Int))∧W.cell? ⟨k0,3,none⟩=some (.int .u64 (p3:Int))∧W.cell? ⟨k3,j,none⟩=some (.int .u64 (v:Int))∧Kept w k0 (⟨k3,0,qa,qb,qc,qd⟩ :: [⟨k0,0,p0,p1,p2,p3⟩,⟨k0,4,c0,c1,c2,c3⟩,⟨k1,0,a,b,c,d⟩,⟨k2,0,0,0,0,0⟩]) W :=
 ⟨h.tail.head.c0,h.tail.head.c1,h.tail.head.c2,h.tail.head.c3,hx,h⟩
theorem sqrS_of {w W:World} {k0 k1 k2 k8 p0 p1 p2 p3 c0 c1 c2 c3 a b c d ra rb rc rd:Nat} (h:Kept w k0 (⟨k8,0,ra,rb,rc,rd⟩ :: [⟨k0,0,p0,p1,p2,p3⟩,⟨k0,4,c0,c1,c2,c3⟩,⟨k1,0,a,b,c,d⟩,⟨k2,0,0,0,0,0⟩]) W):W.cell? ⟨k0,0,none⟩=some (.int .u64 (p0:Int))∧W.cell? ⟨k0,1,none⟩=some (.int .u64 (p1:Int))∧W.cell? ⟨k0,2,none⟩=some (.int .u64 (p2:Int))∧W.cell? ⟨k0,3,none⟩=some (.int .u64 (p3:Int))∧W.cell? ⟨k0,4,none⟩=some (.int .u64 (c0:Int))∧W.cell? ⟨k0,5,none⟩=some (.int .u64 (c1:Int))∧W.cell? ⟨k0,6,none⟩=some (.int .u64 (c2:Int))∧W.cell? ⟨k0,7,none⟩=some (.int .u64 (c3:Int))∧W.cell? ⟨k8,0,none⟩=some (.int .u64 (ra:Int))∧W.cell? ⟨k8,1,none⟩=some (.int .u64 (rb:Int))∧W.cell? ⟨k8,2,none⟩=some (.int .u64 (rc:Int))∧W.cell? ⟨k8,3,none⟩=some (.int .u64 (rd:Int))∧W.cell? ⟨k1,0,none⟩=some (.int .u64 (a:Int))∧W.cell? ⟨k1,1,none⟩=some (.int .u64 (b:Int))∧W.cell? ⟨k1,2,none⟩=some (.int .u64 (c:Int))∧W.cell? ⟨k1,3,none⟩=some (.int .u64 (d:Int))∧Kept w k0 (⟨k8,0,ra,rb,rc,rd⟩ :: [⟨k0,0,p0,p1,p2,p3⟩,⟨k0,4,c0,c1,c2,c3⟩,⟨k1,0,a,b,c,d⟩,⟨k2,0,0,0,0,0⟩]) W :=
 ⟨h.tail.head.c0,h.tail.head.c1,h.tail.head.c2,h.tail.head.c3,h.tail.tail.head.c0,h.tail.tail.head.c1,h.tail.tail.head.c2,h.tail.tail.head.c3,h.head.c0,h.head.c1,h.head.c2,h.head.c3,h.tail.tail.tail.head.c0,h.tail.tail.tail.head.c1,h.tail.tail.tail.head.c2,h.tail.tail.tail.head.c3,h⟩
set_option maxHeartbeats 8000000 in
set_option maxRecDepth 100000 in
theorem rSqrt_any (p0 p1 p2 p3 c0 c1 c2 c3 P:Nat) (x:Value) (m:Nat) (hR:RefP p0 p1 p2 p3 c0 c1 c2 c3 P) (hP1:P / 4 % 18446744073709551616 < 18446744073709551615) (hx:Four x m) (w:World) :
 Calls Tryz.prog 133 #[.agg #[.int .u64 (p0:Int),.int .u64 (p1:Int),.int .u64 (p2:Int),.int .u64 (p3:Int),.int .u64 (c0:Int),.int .u64 (c1:Int),.int .u64 (c2:Int),.int .u64 (c3:Int)],x] w (Ret fun e w'=>Below w.heap.size w w'∧RootR P m (m ^ (P / 4+1) % P) e):=by
 obtain ⟨a,b,c,d,rfl,ha,hb,hc,hd,em⟩:=id hx
 have HX:Hid (Four _ m):=hx
 have HR:Hid (RefP p0 p1 p2 p3 c0 c1 c2 c3 P):=hR
 have HP1:Hid (P / 4 % 18446744073709551616 < 18446744073709551615):=hP1
 have HP4:Hid (Four (.agg #[.int .u64 (p0:Int),.int .u64 (p1:Int),.int .u64 (p2:Int),.int .u64 (p3:Int)]) P):=Four.mk hR.hp0 hR.hp1 hR.hp2 hR.hp3 hR.eP
 obtain ⟨R,hRe⟩:∃ R,m ^ (P / 4+1) % P=R:=⟨_,rfl⟩
 have hRP:R < P:=by
  rw [← hRe]
  refine Nat.mod_lt _ ?_
  have:=hR.hP2
  omega
 rw [hRe]
 have HRE:Hid (m ^ (P / 4+1) % P=R):=hRe
 have HRP:Hid (R < P):=hRP
 clear em hx ha hb hc hd hR hRe hRP hP1
 go_enter Tryz.func133,Tryz.ntmps133
 go_wp2
 have K0:=keptF2 w p0 p1 p2 p3 c0 c1 c2 c3 a b c d
 have K1:=(K0.alloc (.cells #[.int .u64 0,.int .u64 0,.int .u64 0,.int .u64 0] 59)).cons (At4.made _ 59 0 0 0 0 rfl).blk
 have hz:(((w.alloc (.cells #[.int .u64 (p0:Int),.int .u64 (p1:Int),.int .u64 (p2:Int),.int .u64 (p3:Int),.int .u64 (c0:Int),.int .u64 (c1:Int),.int .u64 (c2:Int),.int .u64 (c3:Int)] 103)).alloc (.cells #[.int .u64 (a:Int),.int .u64 (b:Int),.int .u64 (c:Int),.int .u64 (d:Int)] 59)).alloc (.cells #[.int .u64 0,.int .u64 0,.int .u64 0,.int .u64 0] 59)).heap.size=w.heap.size+1+1+1:=by simp
 rw [hz] at K1
 clear K0 hz
 generalize World.alloc _ _=W0 at K1 ⊢
 generalize h3:w.heap.size+1+1+1=k3 at K1 ⊢
 generalize h2:w.heap.size+1+1=k2 at K1 ⊢
 generalize h1:w.heap.size+1=k1 at K1 ⊢
 have Q2:Hid (w.heap.size≤k2):=by unfold Hid;omega
 have Q3:Hid (w.heap.size≤k3):=by unfold Hid;omega
 generalize h0:w.heap.size=k0 at K1 Q2 Q3 ⊢
 have H0:Hid (w.heap.size=k0):=h0
 have n30:k3≠k0:=by omega
 have n31:k3≠k1:=by omega
 have n32:k3≠k2:=by omega
 clear h0 h1 h2 h3
 have hl3:∀ x∈([⟨k0,0,p0,p1,p2,p3⟩,⟨k0,4,c0,c1,c2,c3⟩,⟨k1,0,a,b,c,d⟩,⟨k2,0,0,0,0,0⟩]:List Blk),k3≠x.k:=by simp only [List.mem_cons,List.not_mem_nil,or_false];rintro x (rfl | rfl | rfl | rfl);exact n30;exact n30;exact n31;exact n32
 go_loopg [7] 254 (fun gk s7 wr=>∃ i qa qb qc qd:Nat,i+gk=254∧s7=.int .i64 (i:Int)∧Kept w k0 (⟨k3,0,qa,qb,qc,qd⟩ :: [⟨k0,0,p0,p1,p2,p3⟩,⟨k0,4,c0,c1,c2,c3⟩,⟨k1,0,a,b,c,d⟩,⟨k2,0,0,0,0,0⟩]) wr∧Hid (Four (.agg #[.int .u64 (qa:Int),.int .u64 (qb:Int),.int .u64 (qc:Int),.int .u64 (qd:Int)]) (P / 4 % 2 ^ i)))
 case atStart =>
  refine ⟨0,0,0,0,0,rfl,rfl,K1,?_⟩
  rw [Nat.pow_zero,Nat.mod_one]
  exact Four.mk (by decide) (by decide) (by decide) (by decide) rfl
 case round =>
  clear K1
  obtain ⟨i,qa,qb,qc,qd,hi,rfl,KP,HF⟩:=hrel
  by_cases hlt:i < 254
  · have hF:val qa qb qc qd=P / 4 % 2 ^ i∧qa < 18446744073709551616∧qb < 18446744073709551616∧qc < 18446744073709551616∧qd < 18446744073709551616:=by
     obtain ⟨a',b',c',d',e',h1,h2,h3,h4,h5⟩:=HF.out
     obtain ⟨rfl,rfl,rfl,rfl⟩:a'=qa∧b'=qb∧c'=qc∧d'=qd:=by
      simp only [Value.agg.injEq,Array.mk.injEq,List.cons.injEq,Value.int.injEq,true_and,and_true,Int.ofNat_inj] at e'
      exact ⟨e'.1.symm,e'.2.1.symm,e'.2.2.1.symm,e'.2.2.2.symm⟩
     exact ⟨h5.symm,h1,h2,h3,h4⟩
    have hwl:=quart_word hF.2.1 hF.2.2.1 hF.2.2.2.1 hF.2.2.2.2 (i:=i) (by omega) hF.1
    have xw:=KP.head.at4.wd (i / 64) (by omega)
    obtain ⟨t,ht⟩:∃ t,P / 2 ^ (i+2) % 2=t:=⟨_,rfl⟩
    have ht2:t < 2:=by omega
    have htq:t=P / 4 / 2 ^ i % 2:=by rw [← ht,Nat.div_div_eq_div_mul,show 4*2 ^ i=2 ^ (i+2) by rw [Nat.pow_add,Nat.mul_comm]]
    obtain ⟨o,ho⟩:∃ o,wd qa qb qc qd (i / 64)+t*2 ^ (i % 64)=o:=⟨_,rfl⟩
    have hst:=quart_step (i:=i) (by omega) hF.1 htq ho.symm
    obtain ⟨hor,hol⟩:=or_high _ t (i % 64) (by omega) hwl ht2
    rw [ho] at hor hol
    have HST:Hid (Four (.agg #[.int .u64 ((if i / 64=0 then o else qa:Nat):Int),.int .u64 ((if i / 64=1 then o else qb:Nat):Int),.int .u64 ((if i / 64=2 then o else qc:Nat):Int),.int .u64 ((if i / 64=3 then o else qd:Nat):Int)]) (P / 4 % 2 ^ (i+1))):=by
     refine Four.mk ?_ ?_ ?_ ?_ hst.symm
     · split;exact hol;exact hF.2.1
     · split;exact hol;exact hF.2.2.1
     · split;exact hol;exact hF.2.2.2.1
     · split;exact hol;exact hF.2.2.2.2
    obtain ⟨y,hy⟩:∃ y,t*2 ^ (i % 64)=y:=⟨_,rfl⟩
    have hyl:y < 18446744073709551616:=by omega
    rw [hy] at hor
    obtain ⟨v,hv⟩:∃ v,wd qa qb qc qd (i / 64)=v:=⟨_,rfl⟩
    rw [hv] at hor xw
    obtain ⟨j,hj⟩:∃ j,i / 64=j:=⟨_,rfl⟩
    obtain ⟨r,hr⟩:∃ r,i % 64=r:=⟨_,rfl⟩
    obtain ⟨i2,hi2⟩:∃ i2,i+2=i2:=⟨_,rfl⟩
    rw [hj] at xw HST
    have hsh:IntKind.u64.wrap ((t:Int)*2 ^ r)=(y:Int):=by
     rw [← hr,← hy,Int.natCast_mul,Int.natCast_pow]
     have:=wrapN (t*2 ^ (i % 64)) (by omega)
     rw [Int.natCast_mul,Int.natCast_pow] at this
     exact this
    have HBT:Hid (∀ w,Calls Tryz.prog 74 #[.agg #[.int .u64 (p0:Int),.int .u64 (p1:Int),.int .u64 (p2:Int),.int .u64 (p3:Int)],.int .i64 (i2:Int)] w (Ret fun e w'=>Below w.heap.size w w'∧∃ t:Nat,e=.int .u64 (t:Int)∧t=P / 2 ^ i2 % 2)):=fun w=>rBit_any _ P i2 HP4.out (by omega) w
    have HT:Hid (P / 2 ^ i2 % 2=t):=by unfold Hid;rw [← hi2];exact ht
    have e1:(i:Int).tdiv 64=(j:Int):=by rw [Int.tdiv_eq_ediv_of_nonneg (by omega)];omega
    have e2:(i:Int).tmod 64=(r:Int):=by rw [Int.tmod_eq_emod_of_nonneg (by omega)];omega
    have e3:(j:Int) < 4:=by omega
    have e4:IntKind.i64.wrap (j:Int)=(j:Int):=wrap_i _ (by omega)
    have e5:IntKind.i64.wrap (r:Int)=(r:Int):=wrap_i _ (by omega)
    have e6:(i:Int)+2=(i2:Int):=by omega
    have e7:IntKind.i64.wrap (i2:Int)=(i2:Int):=wrap_i _ (by omega)
    have e8:(r:Int) < 64:=by omega
    have e9:r < 64:=by omega
    have hlt':(i:Int) < 254:=by omega
    have T1:=fun W (h:At4 W k3 qa qb qc qd)=>At4.setq h j o (by omega)
    have hj4:j < 4:=by omega
    have XJ:=fun W (h:At4 W k3 qa qb qc qd)=>At4.wd h j hj4
    rw [← hj,hv,hj] at XJ
    have HJ:Hid (j < 4):=hj4
    clear hy hv hj hr ho hst hF ht htq hwl hi2 HF hj4
    go_upto_region 5 with fail
    refine anyTill.begin (fun w'=>w'.cell? ⟨k0,0,none⟩=some (.int .u64 (p0:Int))∧w'.cell? ⟨k0,1,none⟩=some (.int .u64 (p1:Int))∧w'.cell? ⟨k0,2,none⟩=some (.int .u64 (p2:Int))∧w'.cell? ⟨k0,3,none⟩=some (.int .u64 (p3:Int))∧w'.cell? ⟨k3,j,none⟩=some (.int .u64 (v:Int))∧Kept w k0 (⟨k3,0,qa,qb,qc,qd⟩ :: [⟨k0,0,p0,p1,p2,p3⟩,⟨k0,4,c0,c1,c2,c3⟩,⟨k1,0,a,b,c,d⟩,⟨k2,0,0,0,0,0⟩]) w') 16 mixed (sqS_of KP.drew (XJ _ KP.head.at4.drew)) (fun hS=>?_)
    refine anyTill.take (i:=0) (v:=?_) rfl (by kernel_rfl) (by kernel_rfl) (by kernel_rfl) (by kernel_rfl) (by kernel_rfl) (fun _ _ _ h=>h) (Or.inl ⟨by rfl,?_⟩) hS ?_
    rotate_left
    · intro w hSw
      (try dsimp only at hSw)
      go_simp
      try (with_reducible rfl)
    simp only [Act.put,List.setIfInBounds_toArray]
    refine anyTill.take (i:=1) (v:=?_) rfl (by kernel_rfl) (by kernel_rfl) (by kernel_rfl) (by kernel_rfl) (by kernel_rfl) (fun _ _ _ h=>h) (Or.inl ⟨by rfl,?_⟩) hS ?_
    rotate_left
    · intro w hSw
      (try dsimp only at hSw)
      go_simp
      try (with_reducible rfl)
    simp only [Act.put]
    refine anyTill.take (i:=2) (v:=?_) rfl (by kernel_rfl) (by kernel_rfl) (by kernel_rfl) (by kernel_rfl) (by kernel_rfl) (fun _ _ _ h=>h) (Or.inl ⟨by rfl,?_⟩) hS ?_
    rotate_left
    · intro w hSw
      (try dsimp only at hSw)
      go_simp
      try (with_reducible rfl)
    simp only [Act.put]
    refine anyTill.take (i:=3) (v:=?_) rfl (by kernel_rfl) (by kernel_rfl) (by kernel_rfl) (by kernel_rfl) (by kernel_rfl) (fun _ _ _ h=>h) (Or.inl ⟨by rfl,?_⟩) hS ?_
    rotate_left
    · intro w hSw
      (try dsimp only at hSw)
      go_simp
      try (with_reducible rfl)
    simp only [Act.put]
    refine anyTill.take (i:=4) (v:=?_) rfl (by kernel_rfl) (by kernel_rfl) (by kernel_rfl) (by kernel_rfl) (by kernel_rfl) (fun _ _ _ h=>h) (Or.inl ⟨by rfl,?_⟩) hS ?_
    rotate_left
    · intro w hSw
      (try dsimp only at hSw)
      go_simp
      try (with_reducible rfl)
    simp only [Act.put]
    refine anyTill.take (i:=5) (v:=?_) rfl (by kernel_rfl) (by kernel_rfl) (by kernel_rfl) (by kernel_rfl) (by kernel_rfl) (fun _ _ _ h=>h) (Or.inl ⟨by rfl,?_⟩) hS ?_
    rotate_left
    · intro w hSw
      (try dsimp only at hSw)
      go_simp
      try (with_reducible rfl)
    simp only [Act.put]
    refine anyTill.take (i:=6) (v:=?_) rfl (by kernel_rfl) (by kernel_rfl) (by kernel_rfl) (by kernel_rfl) (by kernel_rfl) (fun _ _ _ h=>h) (Or.inl ⟨by rfl,?_⟩) hS ?_
    rotate_left
    · intro w hSw
      (try dsimp only at hSw)
      go_simp
      try (with_reducible rfl)
    simp only [Act.put]
    refine anyTill.take (i:=7) (v:=?_) rfl (by kernel_rfl) (by kernel_rfl) (by kernel_rfl) (by kernel_rfl) (by kernel_rfl) (fun _ _ _ h=>h) (Or.inl ⟨by rfl,?_⟩) hS ?_
    rotate_left
    · intro w hSw
      (try dsimp only at hSw)
      go_simp
      try (with_reducible rfl)
    simp only [Act.put]
    refine anyTill.take (i:=8) (v:=?_) rfl (by kernel_rfl) (by kernel_rfl) (by kernel_rfl) (by kernel_rfl) (by kernel_rfl) (fun _ _ _ h=>h) (Or.inl ⟨by rfl,?_⟩) hS ?_
    rotate_left
    · intro w hSw
      (try dsimp only at hSw)
      go_simp
      try (with_reducible rfl)
    simp only [Act.put]
    refine anyTill.take (i:=9) (v:=?_) rfl (by kernel_rfl) (by kernel_rfl) (by kernel_rfl) (by kernel_rfl) (by kernel_rfl) (fun _ _ _ h=>h) (Or.inl ⟨by rfl,?_⟩) hS ?_
    rotate_left
    · intro w hSw
      (try dsimp only at hSw)
      go_simp
      try (with_reducible rfl)
    simp only [Act.put]
    refine anyTill.take (i:=11) (v:=?_) rfl (by kernel_rfl) (by kernel_rfl) (by kernel_rfl) (by kernel_rfl) (by kernel_rfl) (fun _ _ _ h=>h) (Or.inl ⟨by rfl,?_⟩) hS ?_
    rotate_left
    · intro w hSw
      (try dsimp only at hSw)
      go_simp
      try (with_reducible rfl)
    simp only [Act.put]
    refine anyTill.take (i:=12) (v:=?_) rfl (by kernel_rfl) (by kernel_rfl) (by kernel_rfl) (by kernel_rfl) (by kernel_rfl) (fun _ _ _ h=>h) (Or.inl ⟨by rfl,?_⟩) hS ?_
    rotate_left
    · intro w hSw
      (try dsimp only at hSw)
      go_simp
      try (with_reducible rfl)
    simp only [Act.put]
    try simp only [List.set_cons_zero,List.set_cons_succ]
    refine anyTill.step (i:=10) rfl (by kernel_rfl) (fun K hK=>?_)
    go_simp
    refine (HBT.out _).mono ?_
    rintro e w1 ⟨v',rfl,hb1,t',rfl,ht'⟩
    rw [HT.out] at ht'
    subst ht'
    clear hS
    have KP1:=KP.drew.call hb1
    clear hb1 KP
    refine hK.out _ _ (fun _=>sqS_of KP1 (XJ _ KP1.head.at4)) ?_
    clear hK K
    try simp only [Act.put,List.setIfInBounds_toArray,List.set_cons_zero,List.set_cons_succ]
    have cj:=XJ _ KP1.head.at4
    have cf:=KP1.head.f
    have cz:=KP1.head.lt
    refine anyTill.step (i:=13) rfl (by kernel_rfl) (fun K hK=>?_)
    go_simp
    refine hK.out _ _ (fun _=>sqS_of KP1 (XJ _ KP1.head.at4)) ?_
    clear hK K
    try simp only [Act.put,List.setIfInBounds_toArray,List.set_cons_zero,List.set_cons_succ]
    refine anyTill.step (i:=14) rfl (by kernel_rfl) (fun K hK=>?_)
    go_simp
    refine hK.out _ _ (fun _=>sqS_of KP1 (XJ _ KP1.head.at4)) ?_
    clear hK K
    try simp only [Act.put,List.setIfInBounds_toArray,List.set_cons_zero,List.set_cons_succ]
    refine anyTill.step (i:=15) rfl (by kernel_rfl) (fun K hK=>?_)
    go_simp
    refine hK.out _ _ (fun _=>sqS_of KP1 (XJ _ KP1.head.at4)) ?_
    clear hK K
    try simp only [Act.put,List.setIfInBounds_toArray,List.set_cons_zero,List.set_cons_succ]
    refine anyTill.step (i:=16) rfl (by kernel_rfl) (fun K hK=>?_)
    go_simp
    refine hK.out _ _ (fun h=>Bool.noConfusion h) ?_
    clear hK K
    try simp only [Act.put,List.setIfInBounds_toArray,List.set_cons_zero,List.set_cons_succ]
    refine anyTill.done (by kernel_rfl) ?_ _
    clear cj cf cz
    go_wp2
    go_roundg (gk - 1)
    case measure=>omega
    case rel =>
     refine ⟨i+1,_,_,_,_,by omega,rfl,?_,HST⟩
     exact (KP1.tail.set (j:=k3) (i:=j) Q3.out hl3 _).cons (T1 _ KP1.head.at4).blk
  · have hi254:i=254:=by omega
    subst hi254
    have hF:=HF.out
    have hPt:=HP4.out.lt
    rw [Nat.mod_eq_of_lt (show P / 4 < 2 ^ 254 by unfold top at hPt;omega)] at hF
    have hq:val qa qb qc qd=P / 4∧qa < 18446744073709551615∧qb < 18446744073709551616∧qc < 18446744073709551616∧qd < 18446744073709551616:=by
     obtain ⟨a',b',c',d',e',h1,h2,h3,h4,h5⟩:=hF
     obtain ⟨rfl,rfl,rfl,rfl⟩:a'=qa∧b'=qb∧c'=qc∧d'=qd:=by
      simp only [Value.agg.injEq,Array.mk.injEq,List.cons.injEq,Value.int.injEq,true_and,and_true,Int.ofNat_inj] at e'
      exact ⟨e'.1.symm,e'.2.1.symm,e'.2.2.1.symm,e'.2.2.2.symm⟩
     refine ⟨h5.symm,?_,h2,h3,h4⟩
     have h6:=HP1.out
     rw [h5] at h6
     unfold val at h6
     omega
    obtain ⟨qe,hqe'⟩:∃ qe,qa+1=qe:=⟨_,rfl⟩
    have HE:Hid (Four (.agg #[.int .u64 (qe:Int),.int .u64 (qb:Int),.int .u64 (qc:Int),.int .u64 (qd:Int)]) (P / 4+1)):=by
     refine Four.mk (by omega) hq.2.2.1 hq.2.2.2.1 hq.2.2.2.2 ?_
     rw [← hq.1,← hqe'];unfold val;omega
    have hadd:(qa:Int)+1=(qe:Int):=by omega
    have hw:=wrapN qe (by omega)
    clear hq hF hPt HF hqe'
    obtain ⟨qc0,qc1,qc2,qc3,qf⟩:=KP.head.at4
    have zq:=KP.head.lt
    obtain ⟨xc0,xc1,xc2,xc3,xf⟩:=KP.tail.tail.tail.head.at4
    have zx:=KP.tail.tail.tail.head.lt
    obtain ⟨fc0,fc1,fc2,fc3,ff⟩:=KP.tail.head.at4
    have fb:=KP.tail.tail.head
    have fd0:wr.cell? ⟨k0,4,none⟩=some (.int .u64 (c0:Int)):=fb.c0
    have fd1:wr.cell? ⟨k0,5,none⟩=some (.int .u64 (c1:Int)):=fb.c1
    have fd2:wr.cell? ⟨k0,6,none⟩=some (.int .u64 (c2:Int)):=fb.c2
    have fd3:wr.cell? ⟨k0,7,none⟩=some (.int .u64 (c3:Int)):=fb.c3
    have zf:=KP.tail.head.lt
    go_wp2_with fail
    clear qc0 qc1 qc2 qc3 qf zq xc0 xc1 xc2 xc3 xf zx fc0 fc1 fc2 fc3 ff fb fd0 fd1 fd2 fd3 zf
    have KP2:=KP.tail.set (j:=k3) (i:=0) Q3.out hl3 (.int .u64 (qe:Int))
    clear KP
    generalize World.setCell _ _ _=WS at KP2 ⊢
    refine (rPow_any p0 p1 p2 p3 c0 c1 c2 c3 P _ _ _ _ HR.out HX.out HE.out _).mono ?_
    rintro e w3 ⟨v,rfl,hb3,hF⟩
    have K:=KP2.call hb3
    clear hb3 KP2 HE hadd hw
    obtain ⟨ra,rb,rc,rd,rfl,-⟩:=id hF
    rw [HRE.out] at hF
    have HF:Hid (Four _ R):=hF
    clear hF
    go_upto_region 8 with fail
    have KP:Kept w k0 (⟨w3.heap.size,0,ra,rb,rc,rd⟩ :: [⟨k0,0,p0,p1,p2,p3⟩,⟨k0,4,c0,c1,c2,c3⟩,⟨k1,0,a,b,c,d⟩,⟨k2,0,0,0,0,0⟩]) _:=(K.alloc (.cells #[.int .u64 (ra:Int),.int .u64 (rb:Int),.int .u64 (rc:Int),.int .u64 (rd:Int)] 59)).cons (At4.made w3 59 ra rb rc rd rfl).blk
    have n80:w3.heap.size≠k0:=Nat.ne_of_gt K.head.lt
    have n81:w3.heap.size≠k1:=Nat.ne_of_gt K.tail.tail.head.lt
    have n82:w3.heap.size≠k2:=Nat.ne_of_gt K.tail.tail.tail.head.lt
    have Q8:Hid (k0≤w3.heap.size):=K.le
    clear K
    generalize World.alloc _ _=W4 at KP ⊢
    generalize w3.heap.size=k8 at KP n80 n81 n82 Q8 ⊢
    by_cases heq:R*R % P=m
    · have hsame:=same_R a b c d
      go_region_held3 (fun w'=>w'.cell? ⟨k0,0,none⟩=some (.int .u64 (p0:Int))∧w'.cell? ⟨k0,1,none⟩=some (.int .u64 (p1:Int))∧w'.cell? ⟨k0,2,none⟩=some (.int .u64 (p2:Int))∧w'.cell? ⟨k0,3,none⟩=some (.int .u64 (p3:Int))∧w'.cell? ⟨k0,4,none⟩=some (.int .u64 (c0:Int))∧w'.cell? ⟨k0,5,none⟩=some (.int .u64 (c1:Int))∧w'.cell? ⟨k0,6,none⟩=some (.int .u64 (c2:Int))∧w'.cell? ⟨k0,7,none⟩=some (.int .u64 (c3:Int))∧w'.cell? ⟨k8,0,none⟩=some (.int .u64 (ra:Int))∧w'.cell? ⟨k8,1,none⟩=some (.int .u64 (rb:Int))∧w'.cell? ⟨k8,2,none⟩=some (.int .u64 (rc:Int))∧w'.cell? ⟨k8,3,none⟩=some (.int .u64 (rd:Int))∧w'.cell? ⟨k1,0,none⟩=some (.int .u64 (a:Int))∧w'.cell? ⟨k1,1,none⟩=some (.int .u64 (b:Int))∧w'.cell? ⟨k1,2,none⟩=some (.int .u64 (c:Int))∧w'.cell? ⟨k1,3,none⟩=some (.int .u64 (d:Int))∧Kept w k0 (⟨k8,0,ra,rb,rc,rd⟩ :: [⟨k0,0,p0,p1,p2,p3⟩,⟨k0,4,c0,c1,c2,c3⟩,⟨k1,0,a,b,c,d⟩,⟨k2,0,0,0,0,0⟩]) w') (first | (with_reducible exact sqrS_of KP) | (with_reducible exact sqrS_of KP.drew) | fail) (first | (go_at_call 71;refine (rMul_R HR.out HF.out HF.out _).mono ?_;rintro e w5 ⟨v,rfl,hb1,hF3⟩;rw [heq] at hF3;obtain rfl:=hF3.inj HX.out;clear hF3;(first | (with_reducible (have KP1:=KP.drew.call hb1)) | (with_reducible (have KP1:=KP.call hb1)) | fail);clear KP hb1;have KP:=KP1;clear KP1))
      have HEQ:Hid (R*R % P=m):=heq
      clear heq
      rename_i hHeld
      clear hHeld
      obtain ⟨ra',rb',rc',rd',e',hra,-⟩:=id HF.out
      obtain ⟨rfl,-⟩:ra'=ra∧True:=by
       simp only [Value.agg.injEq,Array.mk.injEq,List.cons.injEq,Value.int.injEq,true_and,and_true,Int.ofNat_inj] at e'
       exact ⟨e'.1.symm,trivial⟩
      clear e'
      have hodd2:R % 2=ra' % 2:=by
       obtain ⟨x1,x2,x3,x4,e',-,-,-,-,h5⟩:=id HF.out
       simp only [Value.agg.injEq,Array.mk.injEq,List.cons.injEq,Value.int.injEq,true_and,and_true,Int.ofNat_inj] at e'
       rw [h5,← e'.1]
       unfold val
       omega
      have hand:=and_one ra' hra
      obtain ⟨tc0,tc1,tc2,tc3,tf⟩:=KP.head.at4
      have zt:=KP.head.lt
      obtain ⟨uc0,uc1,uc2,uc3,uf⟩:=KP.tail.tail.tail.tail.head.at4
      have zu:=KP.tail.tail.tail.tail.head.lt
      have h2:ra' % 2=0∨ra' % 2=1:=by omega
      rcases h2 with h | h
      · rw [h] at hand hodd2
        have HF8:Hid (Four (.agg #[.int .u64 (ra':Int),.int .u64 (rb:Int),.int .u64 (rc:Int),.int .u64 (rd:Int)]) (even P R)):=by
         have h1:even P R=R:=by unfold even;rw [if_neg (by omega)]
         unfold Hid
         rw [h1]
         exact HF.out
        clear h hodd2 hra
        go_wp2
        have RF:=KP.tail.tail.tail.tail.head.at4.self4 ra' rb rc rd
        unfold set4 at RF
        refine bodyPost_ret (v:=?v) ?hr rfl ?hR
        case hr=>simp [results,Tryz.results133,go_sem,RF.c0,RF.c1,RF.c2,RF.c3];rfl
        refine ⟨_,rfl,?_,RootR.yes HEQ.out HF8.out⟩
        rw [H0.out]
        exact below_set4 KP.bl Q2.out _ _ _ _
      · rw [h] at hand hodd2
        have HO:Hid (R % 2=1):=hodd2
        clear h hodd2 hra
        obtain ⟨fc0,fc1,fc2,fc3,ff⟩:=KP.tail.head.at4
        have fb:=KP.tail.tail.head
        have fd0:w5.cell? ⟨k0,4,none⟩=some (.int .u64 (c0:Int)):=fb.c0
        have fd1:w5.cell? ⟨k0,5,none⟩=some (.int .u64 (c1:Int)):=fb.c1
        have fd2:w5.cell? ⟨k0,6,none⟩=some (.int .u64 (c2:Int)):=fb.c2
        have fd3:w5.cell? ⟨k0,7,none⟩=some (.int .u64 (c3:Int)):=fb.c3
        have zf:=KP.tail.head.lt
        go_wp2_with fail
        clear tc0 tc1 tc2 tc3 tf zt uc0 uc1 uc2 uc3 uf zu fc0 fc1 fc2 fc3 ff fb fd0 fd1 fd2 fd3 zf hand
        refine (rNeg_any p0 p1 p2 p3 c0 c1 c2 c3 P _ _ HR.out HF.out HRP.out _).mono ?_
        rintro e w8 ⟨v,rfl,hb8,hF8⟩
        obtain ⟨sa,sb,sc,sd,rfl,-⟩:=id hF8
        have HF8:Hid (Four (.agg #[.int .u64 (sa:Int),.int .u64 (sb:Int),.int .u64 (sc:Int),.int .u64 (sd:Int)]) (even P R)):=by
         have h1:(P - R) % P=even P R:=by
          unfold even
          rw [if_pos HO.out]
          exact Nat.mod_eq_of_lt (by have:=HRP.out;have:=HO.out;omega)
         unfold Hid
         rw [← h1]
         exact hF8
        replace KP:=KP.call hb8
        clear hb8 hF8
        obtain ⟨tc0,tc1,tc2,tc3,tf⟩:=KP.head.at4
        have zt:=KP.head.lt
        obtain ⟨uc0,uc1,uc2,uc3,uf⟩:=KP.tail.tail.tail.tail.head.at4
        have zu:=KP.tail.tail.tail.tail.head.lt
        go_wp2
        have RF:=(KP.tail.tail.tail.tail.head.at4.other4 n82 (.int .u64 (sa:Int)) (.int .u64 (sb:Int)) (.int .u64 (sc:Int)) (.int .u64 (sd:Int))).self4 sa sb sc sd
        unfold set4 at RF
        refine bodyPost_ret (v:=?v2) ?hr2 rfl ?hR2
        case hr2=>simp [results,Tryz.results133,go_sem,RF.c0,RF.c1,RF.c2,RF.c3];rfl
        refine ⟨_,rfl,?_,RootR.yes HEQ.out HF8.out⟩
        rw [H0.out]
        exact below_set4 (below_set4 KP.bl Q8.out _ _ _ _) Q2.out _ _ _ _
    · go_region_held3 (fun w'=>w'.cell? ⟨k0,0,none⟩=some (.int .u64 (p0:Int))∧w'.cell? ⟨k0,1,none⟩=some (.int .u64 (p1:Int))∧w'.cell? ⟨k0,2,none⟩=some (.int .u64 (p2:Int))∧w'.cell? ⟨k0,3,none⟩=some (.int .u64 (p3:Int))∧w'.cell? ⟨k0,4,none⟩=some (.int .u64 (c0:Int))∧w'.cell? ⟨k0,5,none⟩=some (.int .u64 (c1:Int))∧w'.cell? ⟨k0,6,none⟩=some (.int .u64 (c2:Int))∧w'.cell? ⟨k0,7,none⟩=some (.int .u64 (c3:Int))∧w'.cell? ⟨k8,0,none⟩=some (.int .u64 (ra:Int))∧w'.cell? ⟨k8,1,none⟩=some (.int .u64 (rb:Int))∧w'.cell? ⟨k8,2,none⟩=some (.int .u64 (rc:Int))∧w'.cell? ⟨k8,3,none⟩=some (.int .u64 (rd:Int))∧w'.cell? ⟨k1,0,none⟩=some (.int .u64 (a:Int))∧w'.cell? ⟨k1,1,none⟩=some (.int .u64 (b:Int))∧w'.cell? ⟨k1,2,none⟩=some (.int .u64 (c:Int))∧w'.cell? ⟨k1,3,none⟩=some (.int .u64 (d:Int))∧Kept w k0 (⟨k8,0,ra,rb,rc,rd⟩ :: [⟨k0,0,p0,p1,p2,p3⟩,⟨k0,4,c0,c1,c2,c3⟩,⟨k1,0,a,b,c,d⟩,⟨k2,0,0,0,0,0⟩]) w') (first | (with_reducible exact sqrS_of KP) | (with_reducible exact sqrS_of KP.drew) | fail) (first | (go_at_call 71;refine (rMul_R HR.out HF.out HF.out _).mono ?_;rintro e w5 ⟨v,rfl,hb1,hF3⟩;obtain ⟨ta,tb,tc,td,rfl,hne⟩:=four_ne hF3 HX.out heq;have hoth:=other_R hne;clear hF3;(first | (with_reducible (have KP1:=KP.drew.call hb1)) | (with_reducible (have KP1:=KP.call hb1)) | fail);clear KP hb1;have KP:=KP1;clear KP1))
      have HEQ:Hid (¬ R*R % P=m):=heq
      clear heq
      rename_i hHeld
      clear hHeld
      obtain ⟨uc0,uc1,uc2,uc3,uf⟩:=KP.tail.tail.tail.tail.head.at4
      have zu:=KP.tail.tail.tail.tail.head.lt
      go_wp2
      have RF:At4 (set4 w5 k2 (.int .u64 0) (.int .u64 0) (.int .u64 0) (.int .u64 0)) k2 0 0 0 0:=KP.tail.tail.tail.tail.head.at4.self4 0 0 0 0
      unfold set4 at RF
      refine bodyPost_ret (v:=?v3) ?hr3 rfl ?hR3
      case hr3=>simp [results,Tryz.results133,go_sem,RF.c0,RF.c1,RF.c2,RF.c3];rfl
      refine ⟨_,rfl,?_,RootR.no HEQ.out⟩
      rw [H0.out]
      exact below_set4 KP.bl Q2.out _ _ _ _
end Go.Proofs.YtmkllfekhehagagGreat
namespace Go.Proofs.YtmkllfekhehagagGreat
open Go.RowKit Go.Sort Go.Deep
def bytesTo (T:Bs):Nat→Bs
 | 0=>Array.replicate 32 0
 | k+1=>(bytesTo T k).setIfInBounds k T[k]!
theorem bytesTo_size (T:Bs) (k:Nat):(bytesTo T k).size=32:=by
 induction k with
 | zero=>simp [bytesTo]
 | succ k ih=>simp [bytesTo,ih]
theorem bytesTo_at (T:Bs) (k j:Nat) (hk:k≤32) (hj:j < k):(bytesTo T k)[j]! = T[j]!:=by
 induction k with
 | zero=>omega
 | succ k ih =>
  by_cases h:j=k
  · subst h
    exact getElem!_set_same _ _ _ (by rw [bytesTo_size];omega)
  · rw [bytesTo,getElem!_set_other _ _ _ _ h]
    exact ih (by omega) (by omega)
theorem bytesTo_all {w:World} {g:Nat} {T:Bs} (hT:T.size=32) (h:Holds encB w g 0 (bytesTo T 32)):Holds encB w g 0 T:=by
 intro j hj
 rw [← bytesTo_at T 32 j (Nat.le_refl _) (by omega)]
 exact h j (by rw [bytesTo_size];omega)
def wordOf (a b c d k:Nat):Nat:=if k < 8 then a else if k < 16 then b else if k < 24 then c else d
theorem be8_at (x j:Nat) (hj:j < 8):(be8 x)[j]! = UInt8.ofNat (x / 2 ^ (8*(7 - j))):=by
 match j,hj with
 | 0,_=>rfl
 | 1,_=>rfl
 | 2,_=>rfl
 | 3,_=>rfl
 | 4,_=>rfl
 | 5,_=>rfl
 | 6,_=>rfl
 | 7,_ =>
  show UInt8.ofNat x=UInt8.ofNat (x / 2 ^ (8*(7 - 7)))
  rw [Nat.sub_self,Nat.mul_zero,Nat.pow_zero,Nat.div_one]
theorem be32_at (a b c d i:Nat) (hi:i < 32):(be32 a b c d)[i]! = UInt8.ofNat (wordOf a b c d (31 - i) / 2 ^ (8*((31 - i) % 8))):=by
 have e:be32 a b c d=be8 d++be8 c++be8 b++be8 a:=rfl
 have s1:(be8 d++be8 c).size=16:=by simp only [Array.size_append,be8_size]
 have s2:(be8 d++be8 c++be8 b).size=24:=by simp only [Array.size_append,be8_size]
 unfold wordOf
 by_cases k1:i < 8
 · rw [if_neg (by omega),if_neg (by omega),if_neg (by omega),show (31 - i) % 8=7 - i by omega,← be8_at d i k1,
    e,app_front _ _ i (by omega),← getElem!_pos (be8 d++be8 c++be8 b) i (by omega),app_front _ _ i (by omega),← getElem!_pos (be8 d++be8 c) i (by omega),app_front _ _ i (by rw [be8_size];exact k1),← getElem!_pos (be8 d) i (by rw [be8_size];exact k1)]
 · by_cases k2:i < 16
   · rw [if_neg (by omega),if_neg (by omega),if_pos (by omega),show (31 - i) % 8=7 - (i - 8) by omega,← be8_at c (i - 8) (by omega),
      e,app_front _ _ i (by omega),← getElem!_pos (be8 d++be8 c++be8 b) i (by omega),app_front _ _ i (by omega),← getElem!_pos (be8 d++be8 c) i (by omega),app_back _ _ i (by rw [be8_size];omega) (by rw [be8_size,be8_size];omega),be8_size]
   · by_cases k3:i < 24
     · rw [if_neg (by omega),if_pos (by omega),show (31 - i) % 8=7 - (i - 16) by omega,← be8_at b (i - 16) (by omega),
        e,app_front _ _ i (by omega),← getElem!_pos (be8 d++be8 c++be8 b) i (by omega),app_back _ _ i (by omega) (by rw [s1,be8_size];omega),s1]
     · rw [if_pos (by omega),show (31 - i) % 8=7 - (i - 24) by omega,← be8_at a (i - 24) (by omega),
        e,app_back _ _ i (by omega) (by rw [s2,be8_size];omega),s2]
theorem wordOf_lt {a b c d:Nat} (k:Nat) (ha:a < 18446744073709551616) (hb:b < 18446744073709551616) (hc:c < 18446744073709551616) (hd:d < 18446744073709551616):wordOf a b c d k < 18446744073709551616:=by
 unfold wordOf;split;exact ha;split;exact hb;split;exact hc;exact hd
theorem At4.word {w:World} {k a b c d:Nat} (h:At4 w k a b c d) (i:Nat) (hi:i < 32):w.cell? ⟨k,i / 8,none⟩=some (.int .u64 (wordOf a b c d i:Int)):=by
 unfold wordOf
 by_cases h1:i < 8
 · rw [if_pos h1,show i / 8=0 by omega];exact h.c0
 · rw [if_neg h1]
   by_cases h2:i < 16
   · rw [if_pos h2,show i / 8=1 by omega];exact h.c1
   · rw [if_neg h2]
     by_cases h3:i < 24
     · rw [if_pos h3,show i / 8=2 by omega];exact h.c2
     · rw [if_neg h3,show i / 8=3 by omega];exact h.c3
set_option maxHeartbeats 2000000 in
set_option maxRecDepth 100000 in
theorem rBytes_any (x:Value) (m:Nat) (w:World) (hx:Four x m) :
 Calls Tryz.prog 72 #[x] w (Ret fun e w'=>Below w.heap.size w w'∧∃ a b c d:Nat,x=.agg #[.int .u64 (a:Int),.int .u64 (b:Int),.int .u64 (c:Int),.int .u64 (d:Int)]∧e=.string ⟨be32 a b c d⟩):=by
 obtain ⟨a,b,c,d,rfl,ha,hb,hc,hd,em⟩:=hx
 clear em
 have hmk:∀ w:World,(Instr.makeSlice 22 (.int .i64 32) (.int .i64 32)).run Tryz.prog w=.ok (.slice (some ⟨w.heap.size,0,none⟩) 32 32) (w.alloc (.cells (madeCells #[.int .u8 0] 32) 5)) :=
  run_make_row' (P:=Tryz.prog) 22 5 (.int .u8 0) 1 slice22 info5 rfl .i64 .i64 32 (by omega) (by omega)
 go_enter Tryz.func72,Tryz.ntmps72
 go_wp2
 have hH0:Holds encB (((w.alloc (.cells #[.int .u64 (a:Int),.int .u64 (b:Int),.int .u64 (c:Int),.int .u64 (d:Int)] 59)).alloc (.cells (madeCells #[.int .u8 0] 32) 5))) (w.heap.size+1) 0 (Array.replicate 32 0):=by
  have:=Holds.made (enc:=encB) (w.alloc (.cells #[.int .u64 (a:Int),.int .u64 (b:Int),.int .u64 (c:Int),.int .u64 (d:Int)] 59)) 5 32 0
  rw [World.size_alloc] at this
  exact this
 have hb0:=below2 w (.cells #[.int .u64 (a:Int),.int .u64 (b:Int),.int .u64 (c:Int),.int .u64 (d:Int)] 59) (.cells (madeCells #[.int .u8 0] 32) 5)
 have X:=(At4.made w 59 a b c d rfl).alloc (.cells (madeCells #[.int .u8 0] 32) 5)
 generalize World.alloc _ _=W at hH0 hb0 X ⊢
 have HBW:Hid (Below w.heap.size w W):=hb0
 clear hb0 hmk
 go_loopg [4] 32 (fun gk s4 wr=>∃ (k:Nat),k+gk=32∧s4=.int .i64 (k:Int)∧Holds encB wr (w.heap.size+1) 0 (bytesTo (be32 a b c d) k)∧At4 wr w.heap.size a b c d∧Hid (Below w.heap.size w wr))
 case atStart=>exact ⟨0,rfl,rfl,hH0,X,HBW⟩
 case round =>
  obtain ⟨k,hk,rfl,hB,X',HB⟩:=hrel
  by_cases hlt:k < 32
  · obtain ⟨c0,f0⟩:=hB k (by rw [bytesTo_size];omega)
    rw [Nat.zero_add] at c0 f0
    have xw:=X'.word (31 - k) (by omega)
    have hwl:=wordOf_lt (31 - k) ha hb hc hd
    have hbyte:=be32_at a b c d k hlt
    obtain ⟨q,hq⟩:∃ q,31 - k=q:=⟨_,rfl⟩
    rw [hq] at xw hwl hbyte
    generalize wordOf a b c d q=v at xw hwl hbyte
    have i1:(31:Int) - (k:Int)=(q:Int):=by omega
    have i2:(q:Int).tdiv 8=((q / 8:Nat):Int):=by rw [Int.tdiv_eq_ediv_of_nonneg (by omega)];omega
    have i3:(q:Int).tmod 8=((q % 8:Nat):Int):=by rw [Int.tmod_eq_emod_of_nonneg (by omega)];omega
    have i4:(q / 8:Nat) < 4:=by omega
    have hlt':(k:Int) < 32:=by omega
    have hs1:(8:Int)*((q % 8:Nat):Int)=((8*(q % 8):Nat):Int):=by omega
    have hv:(Value.int .u8 ((v:Int) / 2 ^ (8*(q % 8)) % 256))=encB (be32 a b c d)[k]!:=by
     rw [hbyte,← byte_at v (2 ^ (8*(q % 8))),Int.natCast_pow]
     rfl
    have Hv:Hid (_=_):=hv
    clear hv hbyte hq
    go_wp2
    rw [Hv.out]
    go_roundg (gk - 1)
    case measure=>omega
    case rel =>
     refine ⟨k+1,by omega,rfl,?_,X'.other (by omega) _,HB.out.setCell (p:=⟨w.heap.size+1,k,none⟩) (Nat.le_succ _) _⟩
     have:=Holds.set hB (i:=k) (by rw [bytesTo_size];omega) (be32 a b c d)[k]!
     rw [Nat.zero_add] at this
     exact this
  · have hk32:k=32:=by omega
    subst hk32
    have hT:=bytesTo_all (be32_size a b c d) hB
    have kc:=conv_str Tryz.prog 22 9 5 slice22 int5 str9 wr (w.heap.size+1) 0 32 32 _ hT (be32_size a b c d)
    clear hB hT
    go_wp2
    go_ret
    exact ⟨_,rfl,HB.out,a,b,c,d,rfl,rfl⟩
end Go.Proofs.YtmkllfekhehagagGreat
namespace Go.Proofs.YtmkllfekhehagagGreat
open Go.RowKit Go.Sort Go.Deep
structure Ord (N:Nat):Prop where
 gap:Gap 4624529908474429119 4994812053365940164 1 N
 ref:RefP 13822214165235122497 13451932020343611451 18446744073709551614 18446744073709551615 4624529908474429119 4994812053365940164 1 0 N
 le:N≤top
 n2:2≤N % 18446744073709551616
variable {N:Nat}
theorem Ord.pos (O:Ord N):0 < N:=by have:=O.n2;omega
theorem Ord.four (O:Ord N) {a:Nat} (h:a < N):Four (nv a) a:=four_nv (Nat.lt_of_lt_of_le h O.le)
def sMi (N a b:Nat):Nat:=(a+N - b) % N
def sTi (N a b:Nat):Nat:=a*b % N
theorem sMinus_c (O:Ord N) {a b:Nat} (ha:a < N) (hb:b < N):Gives 164 #[gv1,nv a,nv b] (nv (sMi N a b)):=fun w =>
 (Minus_any _ _ _ N _ _ a b O.gap (O.four ha) (O.four hb) ha hb w).mono (by rintro e w' ⟨v,rfl,hb,hF⟩;exact ⟨_,rfl,hb,hF.nv⟩)
theorem sTimes_c (O:Ord N) {a b:Nat} (ha:a < N) (hb:b < N):Gives 150 #[gv1,nv a,nv b] (nv (sTi N a b)):=fun w =>
 (Times_any _ _ _ N _ _ a b O.gap (O.four ha) (O.four hb) w).mono (by rintro e w' ⟨v,rfl,hb,hF⟩;exact ⟨_,rfl,hb,hF.nv⟩)
theorem nv_words {a x y z u:Nat} (h:nv a=.agg #[.int .u64 (x:Int),.int .u64 (y:Int),.int .u64 (z:Int),.int .u64 (u:Int)]):be32 x y z u=bx a:=by
 have h1:wn a=[.int .u64 (x:Int),.int .u64 (y:Int),.int .u64 (z:Int),.int .u64 (u:Int)]:=by
  unfold nv at h
  injection h with h
  exact congrArg Array.toList h
 unfold wn at h1
 simp only [List.cons.injEq,Value.int.injEq,true_and,and_true,Int.natCast_inj] at h1
 obtain ⟨rfl,rfl,rfl,rfl⟩:=h1
 rfl
def cb (b:Bs):List Value:=b.toList.map encB
theorem cb_length (b:Bs):(cb b).length=b.size:=by unfold cb;rw [List.length_map,Array.length_toList]
theorem cb_range {w:World} {g:Nat} {b:Bs} (h:Holds encB w g 0 b):w.rangeAt g 0 (cb b)∧w.there g 0 (cb b).length:=by
 refine ⟨fun j v hv=>?_,fun j hj=>?_⟩
 · have hj:j < b.size:=by rw [← cb_length];exact (List.getElem?_eq_some_iff.1 hv).1
   rw [(h j hj).1]
   unfold cb at hv
   rw [List.getElem?_map,Array.getElem?_toList,Array.getElem?_eq_getElem hj] at hv
   rw [getElem!_pos b j hj]
   exact hv
 · rw [cb_length] at hj
   exact ⟨by rw [(h j hj).1];rfl,(h j hj).2⟩
theorem cb_holds {w:World} {g:Nat} {b:Bs} (h1:w.rangeAt g 0 (cb b)) (h2:w.there g 0 (cb b).length):Holds encB w g 0 b:=fun j hj=>by
 refine ⟨h1 j _ ?_,(h2 j (by rw [cb_length];exact hj)).2⟩
 unfold cb
 rw [List.getElem?_map,Array.getElem?_toList,Array.getElem?_eq_getElem hj,getElem!_pos b j hj]
 rfl
def GivesB (f:FuncId) (args:Array Value) (b:Bs) (n:Nat):Prop:=∀ w,Calls Tryz.prog f args w (Ret fun e w'=>∃ k,RG.Made w k (cb b) w'∧e=.slice (some ⟨k,0,none⟩) n n)
theorem sBytes_c (O:Ord N) {a:Nat} (ha:a < N):GivesB 61 #[nv a] (bx a) 32:=fun w =>
 (Bytes_any _ a w (O.four ha)).mono (by
  rintro e w' ⟨v,rfl,hb,g,x,y,z,u,rfl,hle,he,hH⟩
  rw [nv_words he] at hH
  obtain ⟨h1,h2⟩:=cb_range hH
  exact ⟨_,rfl,g,⟨hb,hle,Holds.lt hH (by rw [bx_size];omega),h1,h2⟩,rfl⟩)
end Go.Proofs.YtmkllfekhehagagGreat
namespace Go.Proofs.YtmkllfekhehagagGreat
open Go.RowKit Go.Sort Go.Deep
theorem eqS2 (a b c d p q r s:Nat) (w:World):(binOp .eql 74 (.agg #[.int .u64 (a:Int),.int .u64 (b:Int),.int .u64 (c:Int),.int .u64 (d:Int)]) (.agg #[.int .u64 (p:Int),.int .u64 (q:Int),.int .u64 (r:Int),.int .u64 (s:Int)])).run Tryz.prog w=.ok (.bool (decide (a=p∧b=q∧c=r∧d=s))) w:=by
 go_simp
 rw [eqP_d 9997,Result.andThen_ok]
 by_cases h1:a=p∧b=q∧c=r∧d=s
 · rw [decide_eq_true h1]
   obtain ⟨rfl,rfl,rfl,rfl⟩:=h1
   simp
 · have h2:(decide (a=p) && (decide (b=q) && (decide (c=r) && decide (d=s))))=false:=by
    rw [← Bool.not_eq_true,Bool.and_eq_true,Bool.and_eq_true,Bool.and_eq_true]
    simpa using h1
   rw [decide_eq_false h1,h2]
   simp
theorem eqS {a b:Nat} (ha:a < top) (hb:b < top) (w:World):(binOp .eql 74 (nv a) (nv b)).run Tryz.prog w=.ok (.bool (decide (a=b))) w:=by
 refine (eqS2 (a % 18446744073709551616) (a / 18446744073709551616 % 18446744073709551616) (a / 340282366920938463463374607431768211456 % 18446744073709551616) (a / 6277101735386680763835789423207666416102355444464034512896 % 18446744073709551616) (b % 18446744073709551616) (b / 18446744073709551616 % 18446744073709551616) (b / 340282366920938463463374607431768211456 % 18446744073709551616) (b / 6277101735386680763835789423207666416102355444464034512896 % 18446744073709551616) w).trans ?_
 simp only [wn_inj ha hb]
end Go.Proofs.YtmkllfekhehagagGreat
set_option linter.unusedVariables false
namespace Go.Proofs.YtmkllfekhehagagGreat
open Go.RowKit Go.Sort Go.Deep
variable {N:Nat}
theorem u40:(Tryz.prog.underlying 74).map (·.isRow)=some true:=by kernel_rfl
theorem i40:(Tryz.prog.info? 74).map (·.size)=some 4:=by kernel_rfl
theorem u38:(Tryz.prog.underlying 55).map (·.isRow)=some true:=by kernel_rfl
theorem i38:(Tryz.prog.info? 55).map (·.size)=some 4:=by kernel_rfl
theorem u44:(Tryz.prog.underlying 59).map (·.isRow)=some true:=by kernel_rfl
theorem i44:(Tryz.prog.info? 59).map (·.size)=some 4:=by kernel_rfl
def F13_0:List RG.It:=[.m 2 [] 0,.m 3 [] 1,.m 4 [] 2]
def F13_1 (N a b:Nat):List RG.It:=[.c 5 [] gv1,.s 6 [] (.p 0 0),.x 7 [(6,1)] (nv a),.s 8 [] (.p 1 0),.x 9 [(8,3)] (nv b),.c 10 [(5,0),(7,2),(9,4)] (nv (sMi N a b)),.x 11 [(10,5)] (nv (sMi N a b)),.u [(11,6)] 2]
set_option maxHeartbeats 2000000 in
set_option maxRecDepth 100000 in
theorem sMin_c (O:Ord N) (a b:Nat) (ha:a < N) (hb:b < N):Gives 130 #[(nv a),(nv b)] (nv (sMi N a b)):=by
 intro w
 go_enter Tryz.func130,Tryz.ntmps130
 refine RG.M.enter [(0,(.v (nv a))),(1,(.v (nv b)))] 12 (by kernel_rfl) ?_
 intro a0 M0
 repeat refine wp_seq ?_
 refine M0.tx F13_0 [(0,(wn a)),(1,(wn b)),(2,(RG.z 4))] [] [(wn a),(wn b),(RG.z 4)] [(2,(.p 0 0)),(3,(.p 1 0)),(4,(.p 2 0))] (by kernel_rfl) (by kernel_rfl) ⟨RG.mk 0 74 fun _ _=>by kernel_rfl,RG.mk 1 74 fun _ _=>by kernel_rfl,RG.mk 2 74 fun _ _=>by kernel_rfl,trivial⟩ ?_
 intro j1 i1 m1 a1 w1 M1
 repeat refine wp_seq ?_
 refine M1.dr (by kernel_rfl) (F13_1 N a b) [] [(2,7,(wn (sMi N a b)))] [(wn a),(wn b),(wn (sMi N a b))] [(4,(.p 2 0))] (by kernel_rfl) (by kernel_rfl) ⟨RG.cl (Scalars_c) fun _ _=>by kernel_rfl,RG.st fun _ _=>by kernel_rfl,RG.ld u38 i38 (by kernel_rfl),RG.st fun _ _=>by kernel_rfl,RG.ld u38 i38 (by kernel_rfl),RG.cl (sMinus_c O ha hb) fun _ _=>by kernel_rfl,RG.st fun _ _=>by kernel_rfl,RG.pt i40 (by kernel_rfl),trivial⟩ ?_
 intro a2 w2 M2
 refine wp_ret ?_
 refine bodyPost_ret (v:=(nv (sMi N a b))) (RG.results_row M2.st 4 74 rfl 2 _ rfl (M2.at (s:=(.p 2 0)) (by kernel_rfl)) u40 i40) M2.sl.defers ?_
 exact ⟨_,rfl,M2.st.bel.below,rfl⟩
def F14_0:List RG.It:=[.m 2 [] 0,.m 3 [] 1,.m 4 [] 2]
def F14_1 (N a b:Nat):List RG.It:=[.c 5 [] gv1,.s 6 [] (.p 0 0),.x 7 [(6,1)] (nv a),.s 8 [] (.p 1 0),.x 9 [(8,3)] (nv b),.c 10 [(5,0),(7,2),(9,4)] (nv (sTi N a b)),.x 11 [(10,5)] (nv (sTi N a b)),.u [(11,6)] 2]
set_option maxHeartbeats 2000000 in
set_option maxRecDepth 100000 in
theorem sTim_c (O:Ord N) (a b:Nat) (ha:a < N) (hb:b < N):Gives 107 #[(nv a),(nv b)] (nv (sTi N a b)):=by
 intro w
 go_enter Tryz.func107,Tryz.ntmps107
 refine RG.M.enter [(0,(.v (nv a))),(1,(.v (nv b)))] 12 (by kernel_rfl) ?_
 intro a0 M0
 repeat refine wp_seq ?_
 refine M0.tx F14_0 [(0,(wn a)),(1,(wn b)),(2,(RG.z 4))] [] [(wn a),(wn b),(RG.z 4)] [(2,(.p 0 0)),(3,(.p 1 0)),(4,(.p 2 0))] (by kernel_rfl) (by kernel_rfl) ⟨RG.mk 0 74 fun _ _=>by kernel_rfl,RG.mk 1 74 fun _ _=>by kernel_rfl,RG.mk 2 74 fun _ _=>by kernel_rfl,trivial⟩ ?_
 intro j1 i1 m1 a1 w1 M1
 repeat refine wp_seq ?_
 refine M1.dr (by kernel_rfl) (F14_1 N a b) [] [(2,7,(wn (sTi N a b)))] [(wn a),(wn b),(wn (sTi N a b))] [(4,(.p 2 0))] (by kernel_rfl) (by kernel_rfl) ⟨RG.cl (Scalars_c) fun _ _=>by kernel_rfl,RG.st fun _ _=>by kernel_rfl,RG.ld u38 i38 (by kernel_rfl),RG.st fun _ _=>by kernel_rfl,RG.ld u38 i38 (by kernel_rfl),RG.cl (sTimes_c O ha hb) fun _ _=>by kernel_rfl,RG.st fun _ _=>by kernel_rfl,RG.pt i40 (by kernel_rfl),trivial⟩ ?_
 intro a2 w2 M2
 refine wp_ret ?_
 refine bodyPost_ret (v:=(nv (sTi N a b))) (RG.results_row M2.st 4 74 rfl 2 _ rfl (M2.at (s:=(.p 2 0)) (by kernel_rfl)) u40 i40) M2.sl.defers ?_
 exact ⟨_,rfl,M2.st.bel.below,rfl⟩
def FSR_0:List RG.It:=[.m 2 [] 0,.x 3 [] (.bool false)]
def FSR_1 (v:Value) (m:Nat) (ok:Bool):List RG.It:=[.c 7 [] gv1,.x 8 [] v,.c 9 [(7,0),(8,1)] (.tuple #[(nv m),(.bool ok)]),.x 6 [(9,2)] (.tuple #[(nv m),(.bool ok)]),.x 10 [(6,3)] (nv m),.x 11 [(6,3)] (.bool ok),.m 4 [] 1,.u [(4,6),(10,4)] 1,.x 5 [(11,5)] (.bool ok)]
def FSR_2 (m:Nat) (ok:Bool):List RG.It:=[.x 12 [] (nv m),.x 13 [(12,0)] (nv m),.x 14 [] (.bool ok),.u [(13,1)] 0,.x 3 [(14,2)] (.bool ok)]
set_option maxHeartbeats 2000000 in
set_option maxRecDepth 100000 in
theorem sread_m (v:Value) (m:Nat) (ok:Bool) (w:World) (hrd:∀ w',RG.BelX w.heap.size [] w w'→Calls Tryz.prog 85 #[gv1,v] w' (Ret fun e w''=>Below w'.heap.size w' w''∧e=.tuple #[nv m,.bool ok])) :
 Calls Tryz.prog 39 #[v] w (Ret fun e w'=>Below w.heap.size w w'∧e=.tuple #[nv m,.bool ok]):=by
 go_enter Tryz.func39,Tryz.ntmps39
 refine RG.M.enter [(0,.v v)] 15 (by kernel_rfl) ?_
 intro a0 M0
 repeat refine wp_seq ?_
 refine M0.tx FSR_0 [(0,(RG.z 4))] [] [(RG.z 4)] [(0,(.v v)),(2,(.p 0 0)),(3,(.v (.bool false)))] (by kernel_rfl) (by kernel_rfl) ⟨RG.mk 0 74 fun _ _=>by kernel_rfl,RG.st fun _ _=>by kernel_rfl,trivial⟩ ?_
 intro j1 a1 w1 M1
 repeat refine wp_seq ?_
 refine M1.tx (FSR_1 v m ok) [(6,(RG.z 4))] [(1,7,(wn m))] [(RG.z 4),(wn m)] [(2,(.p 0 0)),(3,(.v (.bool false))),(4,(.p 1 0)),(5,(.v (.bool ok)))] (by kernel_rfl) (by kernel_rfl) ⟨RG.cl (Scalars_c) fun _ _=>by kernel_rfl,RG.st fun _ _=>by kernel_rfl,RG.clB (fun _ _=>by kernel_rfl) hrd,RG.st fun _ _=>by kernel_rfl,RG.st fun _ _=>by kernel_rfl,RG.st fun _ _=>by kernel_rfl,RG.mk 1 55 fun _ _=>by kernel_rfl,RG.pt i38 (by kernel_rfl),RG.st fun _ _=>by kernel_rfl,trivial⟩ ?_
 intro j2 a2 w2 M2
 repeat refine wp_seq ?_
 refine M2.tx (FSR_2 m ok) [] [(0,3,(wn m))] [(wn m),(wn m)] [(2,(.p 0 0)),(3,(.v (.bool ok)))] (by kernel_rfl) (by kernel_rfl) ⟨RG.ld u38 i38 (by kernel_rfl),RG.st fun _ _=>by kernel_rfl,RG.st fun _ _=>by kernel_rfl,RG.pt i40 (by kernel_rfl),RG.st fun _ _=>by kernel_rfl,trivial⟩ ?_
 intro a3 w3 M3
 refine wp_ret ?_
 refine bodyPost_ret (v:=.tuple #[nv m,.bool ok]) (RG.results_rt M3.st 2 3 74 rfl 0 _ rfl (M3.at (s:=.p 0 0) (by kernel_rfl)) _ (M3.av (v:=.bool ok) (by kernel_rfl)) u40 i40) M3.sl.defers ?_
 exact ⟨_,rfl,M3.st.bel.below,rfl⟩
theorem sread_c (O:Ord N) (v:Value) (bs:Bs) (w:World) (hv:Arg w v bs):Calls Tryz.prog 39 #[v] w (Ret fun e w'=>Below w.heap.size w w'∧e=.tuple #[nv ((rq N bs).getD 0),.bool (rq N bs).isSome]):=by
 refine sread_m v _ _ w fun w' hb=>?_
 have h:=readQ_c O.gap v bs w' (hv.below hb.below)
 cases hr:rq N bs with
 | none=>rw [hr] at h;exact h
 | some n=>rw [hr] at h;exact h
def FSB_0:List RG.It:=[.m 1 [] 0,.x 2 [] (.slice none 0 0)]
def FSB_1 (a:Nat):List RG.It:=[.s 3 [] (.p 0 0),.x 4 [(3,0)] (nv a),⟨some 5,[(4,1)],(.s 1 32 32),.make 1⟩,.s 2 [(5,2)] (.s 1 32 32)]
set_option maxHeartbeats 2000000 in
set_option maxRecDepth 100000 in
theorem sbytes_c (O:Ord N) {a:Nat} (ha:a < N):GivesB 58 #[nv a] (bx a) 32:=by
 intro w
 go_enter Tryz.func58,Tryz.ntmps58
 refine RG.M.enter [(0,.v (nv a))] 6 (by kernel_rfl) ?_
 intro a0 M0
 repeat refine wp_seq ?_
 refine M0.tx FSB_0 [(0,(wn a))] [] [(wn a)] [(1,(.p 0 0)),(2,(.v (.slice none 0 0)))] (by kernel_rfl) (by kernel_rfl) ⟨RG.mk 0 74 fun _ _=>by kernel_rfl,RG.st fun _ _=>by kernel_rfl,trivial⟩ ?_
 intro j1 a1 w1 M1
 repeat refine wp_seq ?_
 refine M1.tx (FSB_1 a) [(2,(cb (bx a)))] [] [(wn a),(cb (bx a))] [(2,(.s 1 32 32))] (by kernel_rfl) (by kernel_rfl) ⟨RG.st fun _ _=>by kernel_rfl,RG.ld u38 i38 (by kernel_rfl),RG.cm 1 (fun w _=>sBytes_c O ha w) fun _ _=>by kernel_rfl,RG.st fun _ _=>by kernel_rfl,trivial⟩ ?_
 intro j2 a2 w2 M2
 refine wp_ret ?_
 refine bodyPost_ret (v:=_) (RG.results_t 2 rfl _ (M2.at (s:=.s 1 32 32) (by kernel_rfl))) M2.sl.defers ?_
 exact ⟨_,rfl,_,M2.st.made (b:=1) rfl,rfl⟩
def FQS_0:List RG.It:=[.m 2 [] 0,.x 3 [] (.bool false)]
def FQS_1 (s:ByteArray) (m:Nat) (ok:Bool):List RG.It:=[.c 4 [] rv1,.x 5 [] (.string s),.c 6 [(4,0),(5,1)] (.tuple #[(nv m),(.bool ok)]),.x 7 [(6,2)] (nv m),.x 8 [(6,2)] (.bool ok),.u [(7,3)] 0,.x 3 [(8,4)] (.bool ok)]
set_option maxHeartbeats 2000000 in
set_option maxRecDepth 100000 in
theorem qscal_c (O:Ord N) (s:ByteArray):Gives 34 #[.string s] (.tuple #[nv (nuV s.data),.bool (rq N s.data).isSome]):=by
 intro w
 have hnum:=rNum_v O.ref s
 obtain ⟨m,hm⟩:∃ m,m=nuV s.data:=⟨_,rfl⟩
 obtain ⟨ok,hok⟩:∃ b,b=(rq N s.data).isSome:=⟨_,rfl⟩
 rw [← hm,← hok] at hnum ⊢
 go_enter Tryz.func34,Tryz.ntmps34
 refine RG.M.enter [(0,.v (.string s))] 9 (by kernel_rfl) ?_
 intro a0 M0
 repeat refine wp_seq ?_
 refine M0.tx FQS_0 [(0,(RG.z 4))] [] [(RG.z 4)] [(0,(.v (.string s))),(2,(.p 0 0)),(3,(.v (.bool false)))] (by kernel_rfl) (by kernel_rfl) ⟨RG.mk 0 59 fun _ _=>by kernel_rfl,RG.st fun _ _=>by kernel_rfl,trivial⟩ ?_
 intro j1 a1 w1 M1
 repeat refine wp_seq ?_
 refine M1.tx (FQS_1 s m ok) [] [(0,5,(wn m))] [(wn m)] [(2,(.p 0 0)),(3,(.v (.bool ok)))] (by kernel_rfl) (by kernel_rfl) ⟨RG.cl (Q3_c) fun _ _=>by kernel_rfl,RG.st fun _ _=>by kernel_rfl,RG.cl (hnum) fun _ _=>by kernel_rfl,RG.st fun _ _=>by kernel_rfl,RG.st fun _ _=>by kernel_rfl,RG.pt i44 (by kernel_rfl),RG.st fun _ _=>by kernel_rfl,trivial⟩ ?_
 intro a2 w2 M2
 refine wp_ret ?_
 refine bodyPost_ret (v:=.tuple #[nv m,.bool ok]) (RG.results_rt M2.st 2 3 59 rfl 0 _ rfl (M2.at (s:=.p 0 0) (by kernel_rfl)) _ (M2.av (v:=.bool ok) (by kernel_rfl)) u44 i44) M2.sl.defers ?_
 exact ⟨_,rfl,M2.st.bel.below,rfl⟩
end Go.Proofs.YtmkllfekhehagagGreat
namespace Go.Proofs.YtmkllfekhehagagGreat.SP
open Go.RowKit
theorem lt64 (x:BitVec 64):(x.toNat:Int) < 18446744073709551616:=by
 have:=x.isLt
 omega
theorem ofInt_toNat64 (x:BitVec 64):BitVec.ofInt 64 (x.toNat:Int)=x:=by
 apply BitVec.eq_of_toNat_eq
 rw [BitVec.ofInt_natCast,BitVec.toNat_ofNat]
 exact Nat.mod_eq_of_lt x.isLt
theorem wrap_u64_toNat (x:BitVec 64):IntKind.u64.wrap (x.toNat:Int)=x.toNat:=by
 rw [IntKind.wrap_u64]
 have:=lt64 x
 exact Int.emod_eq_of_lt (by omega) this
def u (v:BitVec 64):Int:=(v.toNat:Int)
theorem bits_xor64 (a b:BitVec 64):bits .xor .u64 (u a) (u b)=u (a ^^^ b):=by
 show IntKind.u64.wrap ((BitVec.ofInt 64 (a.toNat:Int) ^^^ BitVec.ofInt 64 (b.toNat:Int)).toNat:Int)=_
 rw [ofInt_toNat64,ofInt_toNat64,wrap_u64_toNat]
 rfl
theorem bits_and64 (a b:BitVec 64):bits .and .u64 (u a) (u b)=u (a &&& b):=by
 show IntKind.u64.wrap ((BitVec.ofInt 64 (a.toNat:Int) &&& BitVec.ofInt 64 (b.toNat:Int)).toNat:Int)=_
 rw [ofInt_toNat64,ofInt_toNat64,wrap_u64_toNat]
 rfl
theorem bits_or64 (a b:BitVec 64):bits .or .u64 (u a) (u b)=u (a ||| b):=by
 show IntKind.u64.wrap ((BitVec.ofInt 64 (a.toNat:Int) ||| BitVec.ofInt 64 (b.toNat:Int)).toNat:Int)=_
 rw [ofInt_toNat64,ofInt_toNat64,wrap_u64_toNat]
 rfl
theorem bits_not64 (a:BitVec 64):bits .xor .u64 IntKind.u64.max (u a)=u (~~~a):=by
 have e:IntKind.u64.max=u (BitVec.allOnes 64):=by decide +kernel
 rw [e,bits_xor64,BitVec.allOnes_xor]
theorem shl64 (x:BitVec 64) (k:Nat):IntKind.u64.wrap (u x*2 ^ k)=u (x <<< k):=by
 unfold u
 rw [IntKind.wrap_u64,BitVec.toNat_shiftLeft,Nat.shiftLeft_eq,Int.natCast_emod,Int.natCast_mul,Int.natCast_pow]
 rfl
def rol (w:BitVec 64) (n:Nat):BitVec 64:=w <<< n ||| w >>> (64 - n)
abbrev St:=Array (BitVec 64)
def enc (v:BitVec 64):Value:=.int .u64 (u v)
def colsum (d:St) (x:Nat):BitVec 64:=d[x]! ^^^ d[x+5]! ^^^ d[x+10]! ^^^ d[x+15]! ^^^ d[x+20]!
def sumsTo (d:St):Nat→St
 | 0=>#[0,0,0,0,0]
 | k+1=>(sumsTo d k).setIfInBounds k (colsum d k)
def xorAt (d:St) (i:Nat) (v:BitVec 64):St:=d.setIfInBounds i (d[i]! ^^^ v)
def innerTo (v:BitVec 64) (x:Nat) (d:St):Nat→St
 | 0=>d
 | m+1=>xorAt (innerTo v x d m) (x+5*m) v
def dcol (s:St) (x:Nat):BitVec 64:=s[(x+4) % 5]! ^^^ rol s[(x+1) % 5]! 1
def thetaTo (s d:St):Nat→St
 | 0=>d
 | k+1=>innerTo (dcol s k) k (thetaTo s d k) 5
def theta (d:St):St:=thetaTo (sumsTo d 5) d 5
structure Tm where
 x:Nat
 y:Nat
 m:BitVec 64
 d:St
def offs (t:Nat):Nat:=(t+1)*(t+2) / 2 % 64
def tmStep (t:Nat) (s:Tm):Tm :=
 { x:=s.y,y:=(2*s.x+3*s.y) % 5,m:=s.d[s.y+5*((2*s.x+3*s.y) % 5)]!,d:=s.d.setIfInBounds (s.y+5*((2*s.x+3*s.y) % 5)) (rol s.m (offs t)) }
def tmTo (d:St):Nat→Tm
 | 0=>{ x:=1,y:=0,m:=d[1]!,d:=d }
 | t+1=>tmStep t (tmTo d t)
def rhopi (d:St):St:=(tmTo d 24).d
def rowAt (d:St) (i:Nat):St :=
 xorAt (xorAt (xorAt (xorAt (xorAt d i (~~~d[i+1]! &&& d[i+2]!)) (i+1) (~~~d[i+2]! &&& d[i+3]!)) (i+2) (~~~d[i+3]! &&& d[i+4]!)) (i+3) (~~~d[i+4]! &&& d[i]!)) (i+4) (~~~d[i]! &&& d[i+1]!)
def chiTo (d:St):Nat→St
 | 0=>d
 | k+1=>rowAt (chiTo d k) (5*k)
def chi (d:St):St:=chiTo d 5
end Go.Proofs.YtmkllfekhehagagGreat.SP
namespace Go.Proofs.YtmkllfekhehagagGreat.SP
open Go.RowKit
def rcReg (r:Nat):Nat:=if 255 < 2*r then (2*r) ^^^ 369 else 2*r
def rcTo (r:Nat):Nat→BitVec 64 × Nat
 | 0=>(0,r)
 | j+1=>((rcTo r j).1 ||| BitVec.ofNat 64 ((rcTo r j).2 % 2) <<< (2 ^ j - 1),rcReg (rcTo r j).2)
theorem wrap_u (x:BitVec 64):IntKind.u64.wrap (u x)=u x:=wrap_u64_toNat x
def kround (d:St) (c:BitVec 64):St:=xorAt (chi (rhopi (theta d))) 0 c
def rcC (r:Nat):BitVec 64:=(rcTo r 7).1
def rcN (r:Nat):Nat:=(rcTo r 7).2
def rcAt:Nat→Nat
 | 0=>1
 | k+1=>rcN (rcAt k)
def permTo (d:St):Nat→St
 | 0=>d
 | k+1=>kround (permTo d k) (rcC (rcAt k))
def perm (d:St):St:=permTo d 24
abbrev Bs:=Array UInt8
def ub (x:UInt8):Int:=(x.toNat:Int)
def encB (x:UInt8):Value:=.int .u8 (ub x)
def wide (x:UInt8):BitVec 64:=BitVec.ofNat 64 x.toNat
def low (v:BitVec 64):UInt8:=UInt8.ofNat v.toNat
theorem wide_ub (x:UInt8):ub x=u (wide x):=by
 unfold ub u wide
 rw [BitVec.toNat_ofNat,Nat.mod_eq_of_lt]
 have:=x.toNat_lt
 omega
theorem wrap_ub (x:UInt8):IntKind.u64.wrap (ub x)=u (wide x):=by rw [wide_ub,wrap_u]
theorem low_u (v:BitVec 64):IntKind.u8.wrap (u v)=ub (low v):=by
 have e:IntKind.u8.wrap (u v)=u v % 256:=by simp [IntKind.wrap,IntKind.bits,IntKind.signed]
 rw [e]
 unfold u ub low
 rw [UInt8.toNat_ofNat']
 omega
def wordTo (bs:Bs) (o:Nat):Nat→BitVec 64
 | 0=>0
 | i+1=>wordTo bs o i ||| wide bs[o+i]! <<< (8*i)
def wordOf (bs:Bs) (o:Nat):BitVec 64:=wordTo bs o 8
def mixTo (bs:Bs) (d:St):Nat→St
 | 0=>d
 | i+1=>xorAt (mixTo bs d i) i (wordOf bs (8*i))
def byteOf (d:St) (k:Nat):UInt8:=low (d[k / 8]! >>> (8*(k % 8)))
def frontTo (d:St) (n:Nat):Nat→Bs
 | 0=>Array.replicate n 0
 | k+1=>(frontTo d n k).setIfInBounds k (byteOf d k)
def front (d:St) (n:Nat):Bs:=frontTo d n n
end Go.Proofs.YtmkllfekhehagagGreat.SP
namespace Go.Proofs.YtmkllfekhehagagGreat.SP
open Go.RowKit Go.Sort
structure Only (b off n:Nat) (w w':World):Prop where
 os:w'.os=w.os
 tape:w'.tape=w.tape
 output:w'.output=w.output
 size:w.heap.size≤w'.heap.size
 block:∀ k,k < w.heap.size→k≠b→w'.heap[k]? = w.heap[k]?
 cell:∀ o,(o < off∨off+n≤o)→w'.cell? ⟨b,o,none⟩=w.cell? ⟨b,o,none⟩
 froz:∀ o,w'.frozen? ⟨b,o,none⟩=w.frozen? ⟨b,o,none⟩
variable {b off n:Nat} {w w1 w2:World}
section
variable {α:Type} [Inhabited α] {enc:α→Value} {d:Array α}
end
end Go.Proofs.YtmkllfekhehagagGreat.SP
namespace Go.Proofs.YtmkllfekhehagagGreat.SP
open Go.RowKit Go.Sort
theorem mixed:Tryz.prog.follows .mixedOrders=true:=by kernel_rfl
theorem ret_int {k:IntKind} {a b:Int} (h:a=b):Ending.returned (.int k a)=.returned (.int k b):=by rw [h]
end Go.Proofs.YtmkllfekhehagagGreat.SP
namespace Go.Proofs.YtmkllfekhehagagGreat.SP
open Go.RowKit Go.Sort
attribute [local go_sem] bits_xor64 bits_and64 bits_or64
end Go.Proofs.YtmkllfekhehagagGreat.SP
namespace Go.Proofs.YtmkllfekhehagagGreat.SP
open Go.RowKit Go.Sort
attribute [local go_sem] bits_xor64 bits_and64 bits_or64
end Go.Proofs.YtmkllfekhehagagGreat.SP
namespace Go.Proofs.YtmkllfekhehagagGreat.SP
open Go.RowKit Go.Sort
attribute [local go_sem] bits_xor64 bits_and64 bits_or64 bits_not64
end Go.Proofs.YtmkllfekhehagagGreat.SP
namespace Go.Proofs.YtmkllfekhehagagGreat.SP
open Go.RowKit Go.Sort
attribute [local go_sem] bits_xor64 bits_and64 bits_or64 wrap_u
end Go.Proofs.YtmkllfekhehagagGreat.SP
namespace Go.Proofs.YtmkllfekhehagagGreat.SP
open Go.RowKit Go.Sort Go.Deep
attribute [local go_sem] bits_xor64 bits_and64 bits_or64 wrap_u wrap_ub
theorem at_byte {w:World} {b off:Nat} {d:Bs} (h:Holds encB w b off d) (i:Nat) (hi:i < d.size) {x:UInt8} (hx:d[i]! = x) :
 w.cell? ⟨b,off+i,none⟩=some (.int .u8 (ub x))∧w.frozen? ⟨b,off+i,none⟩=false:=by
 rw [← hx];exact h i hi
set_option maxHeartbeats 1000000 in
set_option maxRecDepth 100000 in
theorem word_any (sb so o len cap:Nat) (bs:Bs) (w:World) (hB:Holds encB w sb so bs) (h8:8≤len) (ho:o+8≤bs.size) (hl:len≤4611686018427387904) :
 Calls Tryz.prog 204 #[.slice (some ⟨sb,so+o,none⟩) len cap] w fun e w'=>e=.returned (.int .u64 (u (wordOf bs o)))∧w'=w:=by
 go_enter Tryz.func204,Tryz.ntmps204
 go_wp2
 go_loop [3,5] (fun s3 s5=>∃ (k:Nat) (c:BitVec 64),k≤8∧s5=.int .i64 k∧s3=.int .u64 (u c)∧Hid (wordTo bs o k=c)) (fun _ s5=>8 - (intOf s5).toNat)
 case atStart=>exact ⟨0,0,by decide,rfl,rfl,rfl⟩
 case round =>
  obtain ⟨k,c,hk,rfl,rfl,HE⟩:=hrel
  by_cases hlt:k < 8
  · obtain ⟨x,hx⟩:∃ x,bs[o+k]! = x:=⟨_,rfl⟩
    obtain ⟨c0,f0⟩:=at_byte hB (o+k) (by omega) hx
    rw [← Nat.add_assoc] at c0
    have HC:Hid (wordTo bs o (k+1)=c ||| wide x <<< (8*k)):=by
     show wordTo bs o k ||| wide bs[o+k]! <<< (8*k)=_
     rw [HE.out,hx]
    clear hx f0
    have hs:=shl64 (wide x) (8*k)
    have k8:(k:Int) < (len:Int):=by omega
    go_wp2
    go_round
    case rel=>exact ⟨k+1,_,by omega,by go_num,rfl,HC⟩
    case measure=>simp [intOf];omega
  · have hk8:k=8:=by omega
    subst hk8
    go_wp2
    go_ret
    unfold wordOf
    rw [HE.out]
    exact ⟨rfl,rfl⟩
theorem slice22:Tryz.prog.underlying 22=some (.slice 5):=by kernel_rfl
theorem info5:(Tryz.prog.info? 5).map (fun i=>(i.zero,i.size,i.bytes))=some (some (.int .u8 0),1,1):=by kernel_rfl
attribute [local go_sem] low_u
end Go.Proofs.YtmkllfekhehagagGreat.SP
namespace Go.Proofs.YtmkllfekhehagagGreat.SP
open Go.RowKit
structure Of where
 x:Nat
 y:Nat
 o:Array Nat
end Go.Proofs.YtmkllfekhehagagGreat.SP
namespace Go.Proofs.YtmkllfekhehagagGreat.SP
theorem zx (x:BitVec 64):0 ^^^ x=x:=BitVec.zero_xor
end Go.Proofs.YtmkllfekhehagagGreat.SP
namespace Go.Proofs.YtmkllfekhehagagGreat.SP
open Go.Sort
def zero25:St:=Array.replicate 25 0
end Go.Proofs.YtmkllfekhehagagGreat.SP
namespace Go.Proofs.YtmkllfekhehagagGreat.SP
open Go.RowKit Go.Sort
end Go.Proofs.YtmkllfekhehagagGreat.SP
namespace Go.Proofs.YtmkllfekhehagagGreat.SP
open Go.RowKit Go.Sort
def fill (i:Nat):UInt8:=UInt8.ofNat (i % 251) ^^^ 165
def lentTo (s:ByteArray):Nat→Bs
 | 0=>s.data++Array.replicate 160 0
 | k+1=>(lentTo s k).setIfInBounds (s.size+k) (fill (s.size+k))
def lent (s:ByteArray):Bs:=lentTo s 160
variable {w w1:World} {b o n:Nat}
theorem heap_setCells (b:Nat) {k:Nat} (hk:k≠b):∀ (vs:List Value) (p:Nat) (w:World),(w.setCells b p vs).heap[k]? = w.heap[k]?
 | [],_,_=>rfl
 | v :: r,p,w=>by rw [World.setCells,heap_setCells b hk r (p+1) _,Below.heap_setCell _ _ _ _ hk]
theorem app_front (a r:Bs) (j:Nat) (hj:j < a.size):(a++r)[j]! = a[j]:=by
 have h:j < (a++r).size:=by rw [Array.size_append];omega
 rw [getElem!_pos (a++r) j h,Array.getElem_append_left hj]
theorem app_back (a r:Bs) (j:Nat) (h1:a.size≤j) (h2:j < a.size+r.size):(a++r)[j]! = r[j - a.size]!:=by
 have h:j < (a++r).size:=by rw [Array.size_append];omega
 have h3:j - a.size < r.size:=by omega
 rw [getElem!_pos (a++r) j h,Array.getElem_append_right h1,getElem!_pos r (j - a.size) h3]
theorem rep_at (n j:Nat) (h:j < n):(Array.replicate n (0:UInt8))[j]! = 0:=by
 have h':j < (Array.replicate n (0:UInt8)).size:=by rw [Array.size_replicate];exact h
 rw [getElem!_pos (Array.replicate n (0:UInt8)) j h',Array.getElem_replicate]
theorem conv_str (P:Program) (src dst e:TypeId) (hs:P.underlying src=some (.slice e)) (he:P.underlying e=some (.int .u8)) (hd:P.underlying dst=some .string)
 (w:World) (b o n cap:Nat) (bs:Bs) (hB:Holds encB w b o bs) (hn:bs.size=n):(convert src dst (.slice (some ⟨b,o,none⟩) n cap)).run P w=.ok (.string ⟨bs⟩) w:=by
 have h:=run_convert_bytes_back (P:=P) w src dst e ⟨b,o,none⟩ cap bs.toList hs he hd (fun j hj=>by
  have hj':j < bs.size:=by simpa using hj
  have hc:=(hB j hj').1
  rw [getElem!_pos bs j hj'] at hc
  have e1:(⟨b,o,none⟩:Addr).add j=⟨b,o+j,none⟩:=by
   unfold Addr.add
   by_cases h0:j=0
   · subst h0;rfl
   · rw [if_neg h0]
  rw [e1,hc]
  simp [encB,ub])
 simpa [hn] using h
end Go.Proofs.YtmkllfekhehagagGreat.SP
namespace Go.Proofs.YtmkllfekhehagagGreat.SP
open Go.RowKit Go.Sort Go.Deep
theorem int5:Tryz.prog.underlying 5=some (.int .u8):=by kernel_rfl
theorem str9:Tryz.prog.underlying 9=some .string:=by kernel_rfl
end Go.Proofs.YtmkllfekhehagagGreat.SP
namespace Go.Proofs.YtmkllfekhehagagGreat.SP
open Go.Sort
theorem low_bit (v:BitVec 64) (i:Nat) (h:i < 8):(low v).toNat.testBit i=v.getLsbD i:=by
 unfold low
 rw [UInt8.toNat_ofNat',Nat.testBit_mod_two_pow,BitVec.getLsbD]
 simp [h]
/-! ### The sponge, byte by byte -/
structure Sp where
  d : St
  p : Bs
  h : Nat
def soakL (S:Sp):Sp:={ d:=perm (mixTo S.p S.d 17),p:=S.p,h:=0 }
def putB (S:Sp) (x:UInt8):Sp :=
 if S.h+1=136 then soakL { d:=S.d,p:=S.p.setIfInBounds S.h x,h:=S.h } else { d:=S.d,p:=S.p.setIfInBounds S.h x,h:=S.h+1 }
def takeL (S:Sp) (l:List UInt8):Sp:=l.foldl putB S
def splice (p:Bs):Nat→List UInt8→Bs
 | _,[]=>p
 | i,x :: r=>splice (p.setIfInBounds i x) (i+1) r
/-! ### The end -/
def ended (p : Bs) (h : Nat) (e : UInt8) : Bs :=
  let q := (splice p h (List.replicate (136 - h) 0)).setIfInBounds h e
  q.setIfInBounds 135 (q[135]! ^^^ 128)
def finalL (S:Sp) (e:UInt8):Sp:=soakL { d:=S.d,p:=ended S.p S.h e,h:=S.h }
end Go.Proofs.YtmkllfekhehagagGreat.SP
namespace Go.Proofs.YtmkllfekhehagagGreat.SP
open Go.RowKit Go.Sort Go.Deep
end Go.Proofs.YtmkllfekhehagagGreat.SP
namespace Go.Proofs.YtmkllfekhehagagGreat.SP
open Go.RowKit Go.Sort Go.Deep
theorem ints5:(Tryz.prog.info? 5).map (·.size)=some 1:=by kernel_rfl
def piece (bs:Bs) (k n:Nat):List UInt8:=(bs.toList.drop k).take n
end Go.Proofs.YtmkllfekhehagagGreat.SP
namespace Go.Proofs.YtmkllfekhehagagGreat.SP
open Go.RowKit Go.Sort Go.Deep
theorem ofInt_toNat8 (x:UInt8):BitVec.ofInt 8 (x.toNat:Int)=x.toBitVec:=by
 apply BitVec.eq_of_toNat_eq
 rw [BitVec.ofInt_natCast,BitVec.toNat_ofNat]
 exact Nat.mod_eq_of_lt x.toNat_lt
theorem bits_xor8 (x y:UInt8):bits .xor .u8 (ub x) (ub y)=ub (x ^^^ y):=by
 show IntKind.u8.wrap ((BitVec.ofInt 8 (x.toNat:Int) ^^^ BitVec.ofInt 8 (y.toNat:Int)).toNat:Int)=_
 rw [ofInt_toNat8,ofInt_toNat8,← UInt8.toBitVec_xor]
 have h:((x ^^^ y).toNat:Int) < 256:=by have:=(x ^^^ y).toNat_lt;omega
 have e:∀ n:Int,IntKind.u8.wrap n=n % 256:=fun n=>by simp [IntKind.wrap,IntKind.bits,IntKind.signed]
 rw [e]
 exact Int.emod_eq_of_lt (Int.natCast_nonneg _) h
end Go.Proofs.YtmkllfekhehagagGreat.SP
namespace Go.Proofs.YtmkllfekhehagagGreat.SP
open Go.Sort
def S0:Sp:=⟨zero25,Array.replicate 136 0,0⟩
def absorb (l:List UInt8) (e:UInt8):St:=(finalL (takeL S0 l) e).d
def hashL (l:List UInt8):Bs:=front (absorb l 6) 32
end Go.Proofs.YtmkllfekhehagagGreat.SP
namespace Go.Proofs.YtmkllfekhehagagGreat.SP
open Go.RowKit Go.Sort Go.Deep
end Go.Proofs.YtmkllfekhehagagGreat.SP
namespace Go.Proofs.YtmkllfekhehagagGreat.SP
open Go.RowKit Go.Sort Go.Deep
end Go.Proofs.YtmkllfekhehagagGreat.SP
namespace Go.Proofs.YtmkllfekhehagagGreat.SP
open Go.RowKit Go.Sort Go.Deep
def Own (B:Nat) (w:World) (v:Value) (T:List UInt8):Prop :=
 ∃ g cap cur,v=.slice (some ⟨g,0,none⟩) T.length cap∧B≤g∧g < w.heap.size∧Array.size cur=cap∧T.length≤cap∧Holds encB w g 0 cur∧∀ j,j < T.length→cur[j]! = T[j]!
variable {B:Nat} {w w1:World} {v:Value} {T:List UInt8}
end Go.Proofs.YtmkllfekhehagagGreat.SP
namespace Go.Proofs.YtmkllfekhehagagGreat.SP
open Go.RowKit Go.Sort Go.Deep
def lenB (n d:Nat):UInt8:=UInt8.ofNat (n / d)
def frameL (l:List UInt8):List UInt8:=[lenB l.length 16777216,lenB l.length 65536,lenB l.length 256,lenB l.length 1]++l
end Go.Proofs.YtmkllfekhehagagGreat.SP
namespace Go.Proofs.YtmkllfekhehagagGreat.SP
open Go.RowKit Go.Sort Go.Deep
def framesL (label:List UInt8) (ps:List (List UInt8)):List UInt8:=frameL label++ps.flatMap frameL
def tagL (label:List UInt8) (ps:List (List UInt8)):Bs:=hashL (framesL label ps)
end Go.Proofs.YtmkllfekhehagagGreat.SP
namespace Go.Proofs.YtmkllfekhehagagGreat.SP
open Go.RowKit Go.Sort Go.Deep
variable {B:Nat} {w w1:World} {v:Value} {T:List UInt8}
set_option maxRecDepth 4000
end Go.Proofs.YtmkllfekhehagagGreat.SP
namespace Go.Proofs.YtmkllfekhehagagGreat.SP
open Go.RowKit Go.Sort Go.Deep
end Go.Proofs.YtmkllfekhehagagGreat.SP
namespace Go.Proofs.YtmkllfekhehagagGreat.SP
open Go.RowKit Go.Sort Go.Deep
end Go.Proofs.YtmkllfekhehagagGreat.SP
namespace Go.Proofs.YtmkllfekhehagagGreat.SP
open Go.RowKit Go.Sort Go.Deep
end Go.Proofs.YtmkllfekhehagagGreat.SP
namespace Go.Proofs.YtmkllfekhehagagGreat
open Go.RowKit Go.Sort
variable {P:Nat} [NeZero P]
def F72a_0 (x:Fin P):List RG.It:=[.x 2 [] (.slice none 0 0),.x 3 [] (.int .i64 0)]
def F72a_1 (q:Option Addr) (n cap:Nat) (x:Fin P):List RG.It:=[.x 9 [] (.slice q n cap),.x 10 [(9,0)] (.int .i64 (n:Int)),⟨some 11,[(10,1)],(.s 0 n n),.make 0⟩,.s 4 [(11,2)] (.s 0 n n)]
def F72a_2 (q:Option Addr) (n cap:Nat) (x:Fin P):List RG.It:=[.x 12 [] (.slice q n cap),.x 13 [(12,0)] (.int .i64 (n:Int)),.x 14 [] (.int .i64 0)]
def F72b_3 (x:Fin P):List RG.It:=[.x 15 [] (.bool true)]
def F72b_4 (gg i:Nat) (v:Value) (x:Fin P):List RG.It:=[.x 16 [] (.int .i64 (i:Int)),.x 17 [] (.pointer (some ⟨gg,(0+i),none⟩)),.x 18 [(17,1)] v,.x 5 [(16,0)] (.int .i64 (i:Int)),.x 6 [(18,2)] v]
def F72b_5 (m:Nat) (v:Value) (x y:Fin P):List RG.It:=[.x 20 [] v,.c 21 [(20,0)] (.tuple #[(pv x y),(.bool true)]),.x 19 [(21,1)] (.tuple #[(pv x y),(.bool true)]),.x 22 [(19,2)] (pv x y),.x 23 [(19,2)] (.bool true),.m 7 [] 1,.u [(7,5),(22,3)] 1,.x 8 [(23,4)] (.bool true)]
def F72b_6 (x:Fin P):List RG.It:=[.x 24 [] (.bool true),.x 25 [(24,0)] (.bool false)]
def F72b_8 (n i:Nat) (x y:Fin P):List RG.It:=[.s 26 [] (.s 0 n n),.x 27 [] (.int .i64 (i:Int)),.x 28 [] (pv x y),.s 29 [(26,0),(27,1)] (.p 0 (0+8*i)),.u [(29,3),(28,2)] 0]
def F72b_9 (i:Nat) (x:Fin P):List RG.It:=[.x 30 [] (.int .i64 ((i+1:Nat):Int)),.x 14 [(30,0)] (.int .i64 ((i+1:Nat):Int))]
def F72f_3 (x:Fin P):List RG.It:=[.x 15 [] (.bool true)]
def F72f_4 (gg i:Nat) (v:Value) (x:Fin P):List RG.It:=[.x 16 [] (.int .i64 (i:Int)),.x 17 [] (.pointer (some ⟨gg,(0+i),none⟩)),.x 18 [(17,1)] v,.x 5 [(16,0)] (.int .i64 (i:Int)),.x 6 [(18,2)] v]
def F72f_5 (m:Nat) (v:Value) (x:Fin P):List RG.It:=[.x 20 [] v,.c 21 [(20,0)] (.tuple #[(pv (0:Fin P) (0:Fin P)),(.bool false)]),.x 19 [(21,1)] (.tuple #[(pv (0:Fin P) (0:Fin P)),(.bool false)]),.x 22 [(19,2)] (pv (0:Fin P) (0:Fin P)),.x 23 [(19,2)] (.bool false),.m 7 [] 1,.u [(7,5),(22,3)] 1,.x 8 [(23,4)] (.bool false)]
def F72f_6 (x:Fin P):List RG.It:=[.x 24 [] (.bool false),.x 25 [(24,0)] (.bool true)]
def F72f_7 (x:Fin P):List RG.It:=[.x 2 [] (.slice none 0 0),.x 3 [] (.int .i64 4)]
def F72e_3 (x:Fin P):List RG.It:=[.x 15 [] (.bool false)]
def F72e_10 (n:Nat) (x:Fin P):List RG.It:=[.s 31 [] (.s 0 n n),.s 2 [(31,0)] (.s 0 n n),.x 3 [] (.int .i64 0)]
def ArgsPts (w:World) (q:Option Addr) (n:Nat) (L:Nat→Bs):Prop:=0 < n→∃ gg,q=some ⟨gg,0,none⟩∧gg < w.heap.size∧∀ j,j < n→∃ v,w.cell? ⟨gg,j,none⟩=some v∧Arg33 w v (L j)
def PtsR (P:Nat) [NeZero P] (w:World) (n:Nat) (L:Nat→Bs) (e:Value) (w':World):Prop :=
 (∃ k,w.heap.size≤k∧k < w'.heap.size∧e=.tuple #[.slice (some ⟨k,0,none⟩) n n,.int .i64 0]∧∀ j,j < n→∃ p,rd P (L j)=some p∧w'.rangeAt k (8*j) (ws p.1++ws p.2)) ∨
 ((∃ j,j < n∧rd P (L j)=none)∧e=.tuple #[.slice none 0 0,.int .i64 4])
set_option maxHeartbeats 4000000 in
set_option maxRecDepth 100000 in
theorem Pts_c (F:Fld P) (n cap:Nat) (hn:n≤512) (q:Option Addr) (L:Nat→Bs) (w:World) (hA:ArgsPts w q n L):Calls Tryz.prog 96 #[.slice q n cap] w (Ret fun e w'=>Below w.heap.size w w'∧PtsR P w n L e w'):=by
 obtain ⟨C,hCl,hmk⟩:=mk112 n hn
 obtain ⟨i,-⟩:∃ i:Nat,i=0:=⟨_,rfl⟩
 obtain ⟨gg,-⟩:∃ i:Nat,i=0:=⟨_,rfl⟩
 obtain ⟨m,-⟩:∃ i:Nat,i=0:=⟨_,rfl⟩
 obtain ⟨v,-⟩:∃ v:Value,v=.bool true:=⟨_,rfl⟩
 obtain ⟨x,-⟩:∃ x:Fin P,x=0:=⟨_,rfl⟩
 obtain ⟨y,-⟩:∃ x:Fin P,x=0:=⟨_,rfl⟩
 obtain ⟨C2,-⟩:∃ c:List Value,c=C:=⟨_,rfl⟩
 go_enter Tryz.func96,Tryz.ntmps96
 refine RG.var1 (v0:=.slice q n cap) (n:=32) (by kernel_rfl) (by kernel_rfl) (by kernel_rfl) ?_
 intro a0 sl0 f0
 have hS0:=RG.St.begin w
 have M0:RG.M w w.heap.size [] 32 [] [] [(0,(.v (.slice q n cap)))] a0 _:=⟨hS0,sl0,⟨f0,trivial⟩⟩
 repeat refine wp_seq ?_
 refine M0.tx0 (F72a_0 x) [(0,(.v (.slice q n cap))),(2,(.v (.slice none 0 0))),(3,(.v (.int .i64 0)))] (by kernel_rfl) ⟨RG.st fun _ _=>by kernel_rfl,RG.st fun _ _=>by kernel_rfl,trivial⟩ ?_
 intro a1 w1 M1
 repeat refine wp_seq ?_
 refine M1.tx (F72a_1 q n cap x) [(2,C)] [] [C] [(0,(.v (.slice q n cap))),(2,(.v (.slice none 0 0))),(3,(.v (.int .i64 0))),(4,(.s 0 n n))] (by kernel_rfl) (by kernel_rfl) ⟨RG.st fun _ _=>by kernel_rfl,RG.cert_one rfl 9 (.v (.slice q n cap)) (.int .i64 (n:Int)) rfl (RG.sx fun _=>by kernel_rfl) (fun a w=>by kernel_rfl) (fun μ w=>by kernel_rfl),RG.cert_makes 0 rfl _ rfl 133 57 10 10 n rfl rfl (RG.sx fun _=>by kernel_rfl) (RG.sx fun _=>by kernel_rfl) (hmk),RG.st fun _ _=>by kernel_rfl,trivial⟩ ?_
 intro j2 a2 w2 M2
 repeat refine wp_seq ?_
 refine M2.tx0 (F72a_2 q n cap x) [(2,(.v (.slice none 0 0))),(3,(.v (.int .i64 0))),(4,(.s 0 n n)),(12,(.v (.slice q n cap))),(13,(.v (.int .i64 (n:Int)))),(14,(.v (.int .i64 0)))] (by kernel_rfl) ⟨RG.st fun _ _=>by kernel_rfl,RG.cert_one rfl 12 (.v (.slice q n cap)) (.int .i64 (n:Int)) rfl (RG.sx fun _=>by kernel_rfl) (fun a w=>by kernel_rfl) (fun μ w=>by kernel_rfl),RG.st fun _ _=>by kernel_rfl,trivial⟩ ?_
 intro a3 w3 M3
 have hS3:RG.St w w.heap.size [] [C] [j2] _:=M3.st
 have sl3:=M3.sl
 have f2_3:a3.tmps[2]? = some (.slice none 0 0):=M3.at (s:=(.v (.slice none 0 0))) (by kernel_rfl)
 have f3_3:a3.tmps[3]? = some (.int .i64 0):=M3.at (s:=(.v (.int .i64 0))) (by kernel_rfl)
 have f4_3:a3.tmps[4]? = some (.slice (some ⟨j2,0,none⟩) n n):=M3.at (s:=(.s 0 n n)) (by kernel_rfl)
 have f12_3:a3.tmps[12]? = some (.slice q n cap):=M3.at (s:=(.v (.slice q n cap))) (by kernel_rfl)
 have f13_3:a3.tmps[13]? = some (.int .i64 (n:Int)):=M3.at (s:=(.v (.int .i64 (n:Int)))) (by kernel_rfl)
 have f14_3:a3.tmps[14]? = some (.int .i64 0):=M3.at (s:=(.v (.int .i64 0))) (by kernel_rfl)
 repeat refine wp_seq ?_
 refine wp_block ?_
 refine wp_loop_ghost (fun m a wr=>∃ (i:Nat) (C:List Value),i+m=n∧(∀ j,j < i→(rd P (L j)).isSome=true)∧Rows 8 n (fun j=>match rd P (L j) with | some p=>ws p.1++ws p.2 | none=>[]) i C∧RG.Sl a 32∧a.tmps[4]? = some (.slice (some ⟨j2,0,none⟩) n n)∧a.tmps[12]? = some (.slice q n cap)∧a.tmps[13]? = some (.int .i64 (n:Int))∧a.tmps[14]? = some (.int .i64 (i:Int))∧RG.St w w.heap.size [] [C] [j2] wr) n ⟨0,C,by omega,fun j hj=>by omega,⟨hCl,fun j r hj=>by omega⟩,sl3,f4_3,f12_3,f13_3,f14_3,hS3⟩ ?_
 intro m' a wr
 rintro ⟨i,C,him,hall,hR,sl,p4,p12,p13,p14,hSp⟩
 generalize j2=kt at p4 hSp
 by_cases hi:i < n
 · obtain ⟨gg,hqe,hgg,hc⟩:=hA (by omega)
   rw [hqe] at p12
   obtain ⟨v,hv,harg⟩:=hc i hi
   have hcell:w.cell? ⟨gg,0+i,none⟩=some v:=by rw [Nat.zero_add];exact hv
   cases hrdv:rd P (L i) with
   | some pp =>
    obtain ⟨x,y⟩:=pp
    have hrd:∀ w',RG.BelX w.heap.size [] w w'→Calls Tryz.prog 128 #[v] w' (Ret fun e w''=>Below w'.heap.size w' w''∧e=.tuple #[pv x y,.bool true]):=fun w' hb=>by
     have:=readPoint_c F v (L i) w' (harg.below hb.below)
     rw [hrdv] at this
     exact this
    have hlen:=hR.len
    have hoff:0+8*i+(ws x++ws y).length≤C.length:=by rw [hlen];show 0+8*i+8≤8*n;omega
    obtain ⟨C2,hC2e⟩:∃ c,RG.rep C (0+8*i) (ws x++ws y)=c:=⟨_,rfl⟩
    have hC2:=hC2e ▸ RG.rep_at hoff
    have hcl:C2.length=C.length:=hC2e ▸ RG.rep_length hoff
    have hR2:Rows 8 n (fun j=>match rd P (L j) with | some p=>ws p.1++ws p.2 | none=>[]) (i+1) C2:=by
     have:=hR.next hi (by show List.length (match rd P (L i) with | some p=>_ | none=>_)=_;rw [hrdv];rfl)
     rw [← hC2e]
     have e:(fun j=>match rd P (L j) with | some p=>ws p.1++ws p.2 | none=>[]) i=(ws x++ws y):=by show (match rd P (L i) with | some p=>_ | none=>_)=_;rw [hrdv]
     rw [← e]
     exact this
    have M10:RG.M w w.heap.size [] 32 [C] [kt] [(4,(.s 0 n n)),(12,(.v (.slice (some ⟨gg,0,none⟩) n cap))),(13,(.v (.int .i64 (n:Int)))),(14,(.v (.int .i64 (i:Int))))] a _:=⟨hSp,sl,⟨p4,p12,p13,p14,trivial⟩⟩
    repeat refine wp_seq ?_
    refine M10.tx0 (F72b_3 x) [(4,(.s 0 n n)),(12,(.v (.slice (some ⟨gg,0,none⟩) n cap))),(13,(.v (.int .i64 (n:Int)))),(14,(.v (.int .i64 (i:Int)))),(15,(.v (.bool true)))] (by kernel_rfl) ⟨RG.cert_bin rfl .lss 3 3 14 13 (.int .i64 (i:Int)) (.int .i64 (n:Int)) (.bool true) rfl rfl (RG.sx fun _=>by kernel_rfl) (RG.sx fun _=>by kernel_rfl) (fun w=>by kernel_rfl) (lssn_t hi),trivial⟩ ?_
    intro a11 w11 M11
    repeat refine wp_seq ?_
    refine wp_cond_true (M11.ev (by kernel_rfl)) ?_
    refine wp_skip ?_
    refine wp_seq ?_
    refine wp_block ?_
    repeat refine wp_seq ?_
    refine M11.tx0 (F72b_4 gg i v x) [(4,(.s 0 n n)),(5,(.v (.int .i64 (i:Int)))),(6,(.v v)),(12,(.v (.slice (some ⟨gg,0,none⟩) n cap))),(13,(.v (.int .i64 (n:Int)))),(14,(.v (.int .i64 (i:Int))))] (by kernel_rfl) ⟨RG.st fun _ _=>by kernel_rfl,RG.cert_idx rfl 31 12 14 rfl (.v (.slice (some ⟨gg,0,none⟩) n cap)) (.int .i64 (i:Int)) (RG.sx fun _=>by kernel_rfl) (RG.sx fun _=>by kernel_rfl) (fun μ w=>at46 _ 0 _ _ i hi w),RG.cert_load1B rfl gg (0+i) hgg List.not_mem_nil 22 17 rfl v rfl (RG.sx fun _=>by kernel_rfl) hcell u23,RG.st fun _ _=>by kernel_rfl,RG.st fun _ _=>by kernel_rfl,trivial⟩ ?_
    intro a12 w12 M12
    repeat refine wp_seq ?_
    refine M12.tx (F72b_5 m v x y) [(5,(RG.z 8))] [(1,6,(ws x++(ws y)))] [C,(ws x++(ws y))] [(4,(.s 0 n n)),(5,(.v (.int .i64 (i:Int)))),(7,(.p 1 0)),(8,(.v (.bool true))),(12,(.v (.slice (some ⟨gg,0,none⟩) n cap))),(13,(.v (.int .i64 (n:Int)))),(14,(.v (.int .i64 (i:Int))))] (by kernel_rfl) (by kernel_rfl) ⟨RG.st fun _ _=>by kernel_rfl,RG.cert_callB1 rfl 128 20 v (.tuple #[(pv x y),(.bool true)]) rfl (fun a w=>by kernel_rfl) (RG.sx fun _=>by kernel_rfl) hrd,RG.st fun _ _=>by kernel_rfl,RG.st fun _ _=>by kernel_rfl,RG.st fun _ _=>by kernel_rfl,RG.mk 1 57 fun _ _=>by kernel_rfl,RG.pt i109 (by kernel_rfl),RG.st fun _ _=>by kernel_rfl,trivial⟩ ?_
    intro j13 a13 w13 M13
    repeat refine wp_seq ?_
    refine M13.tx0 (F72b_6 x) [(4,(.s 0 n n)),(5,(.v (.int .i64 (i:Int)))),(7,(.p 1 0)),(12,(.v (.slice (some ⟨gg,0,none⟩) n cap))),(13,(.v (.int .i64 (n:Int)))),(14,(.v (.int .i64 (i:Int)))),(25,(.v (.bool false)))] (by kernel_rfl) ⟨RG.st fun _ _=>by kernel_rfl,RG.st fun _ _=>by kernel_rfl,trivial⟩ ?_
    intro a14 w14 M14
    repeat refine wp_seq ?_
    refine wp_cond_false (M14.ev (by kernel_rfl)) ?_
    refine wp_skip ?_
    repeat refine wp_seq ?_
    refine M14.tx (F72b_8 n i x y) [] [(0,4,C2)] [C2,(ws x++(ws y))] [(4,(.s 0 n n)),(12,(.v (.slice (some ⟨gg,0,none⟩) n cap))),(13,(.v (.int .i64 (n:Int)))),(14,(.v (.int .i64 (i:Int))))] (by kernel_rfl) (congrArg (fun n=>[n]) hcl) ⟨RG.st fun _ _=>by kernel_rfl,RG.st fun _ _=>by kernel_rfl,RG.ld u109 i109 (by kernel_rfl),RG.cert_idx rfl 133 26 27 rfl (.s 0 n n) (.int .i64 (i:Int)) (RG.sx fun _=>by kernel_rfl) (RG.sx fun _=>by kernel_rfl) (fun μ w=>at112 _ 0 _ _ i hi w),RG.cert_putAt 0 (0+8*i) rfl _ rfl 57 (.tmp 29) (.tmp 28) (ws x++ws y) rfl rfl (RG.sx fun _=>by kernel_rfl) (RG.sx fun _=>by kernel_rfl) hoff hC2 i109 rfl,trivial⟩ ?_
    intro a15 w15 M15
    repeat refine wp_seq ?_
    refine M15.tx0 (F72b_9 i x) [(4,(.s 0 n n)),(12,(.v (.slice (some ⟨gg,0,none⟩) n cap))),(13,(.v (.int .i64 (n:Int)))),(14,(.v (.int .i64 ((i+1:Nat):Int))))] (by kernel_rfl) ⟨RG.cert_binc rfl .add 3 3 14 (.int .i64 (i:Int)) (.int .i64 1) (.int .i64 ((i+1:Nat):Int)) rfl rfl (RG.sx fun _=>by kernel_rfl) (fun w=>by kernel_rfl) (addn i 1 (by omega) (by omega)),RG.st fun _ _=>by kernel_rfl,trivial⟩ ?_
    intro a16 w16 M16
    have hS16:RG.St w w.heap.size [] [C2,(ws x++(ws y))] [kt,j13] _:=M16.st
    have sl16:=M16.sl
    have f4_16:a16.tmps[4]? = some (.slice (some ⟨kt,0,none⟩) n n):=M16.at (s:=(.s 0 n n)) (by kernel_rfl)
    have f12_16:a16.tmps[12]? = some (.slice (some ⟨gg,0,none⟩) n cap):=M16.at (s:=(.v (.slice (some ⟨gg,0,none⟩) n cap))) (by kernel_rfl)
    have f13_16:a16.tmps[13]? = some (.int .i64 (n:Int)):=M16.at (s:=(.v (.int .i64 (n:Int)))) (by kernel_rfl)
    have f14_16:a16.tmps[14]? = some (.int .i64 ((i+1:Nat):Int)):=M16.at (s:=(.v (.int .i64 ((i+1:Nat):Int)))) (by kernel_rfl)
    show ∃ n',_
    exact ⟨m' - 1,by omega,i+1,C2,by omega,fun j hj=>(by
     by_cases hji:j=i
     · rw [hji,hrdv];rfl
     · exact hall j (by omega)),hR2,sl16,f4_16,(by rw [hqe];exact f12_16),f13_16,f14_16,RG.St.init (cs:=[C2]) (ks:=[kt]) hS16⟩
   | none =>
    have hrd:∀ w',RG.BelX w.heap.size [] w w'→Calls Tryz.prog 128 #[v] w' (Ret fun e w''=>Below w'.heap.size w' w''∧e=.tuple #[pv (0:Fin P) 0,.bool false]):=fun w' hb=>by
     have:=readPoint_c F v (L i) w' (harg.below hb.below)
     rw [hrdv] at this
     exact this
    have M20:RG.M w w.heap.size [] 32 [C] [kt] [(4,(.s 0 n n)),(12,(.v (.slice (some ⟨gg,0,none⟩) n cap))),(13,(.v (.int .i64 (n:Int)))),(14,(.v (.int .i64 (i:Int))))] a _:=⟨hSp,sl,⟨p4,p12,p13,p14,trivial⟩⟩
    repeat refine wp_seq ?_
    refine M20.tx0 (F72f_3 x) [(12,(.v (.slice (some ⟨gg,0,none⟩) n cap))),(14,(.v (.int .i64 (i:Int)))),(15,(.v (.bool true)))] (by kernel_rfl) ⟨RG.cert_bin rfl .lss 3 3 14 13 (.int .i64 (i:Int)) (.int .i64 (n:Int)) (.bool true) rfl rfl (RG.sx fun _=>by kernel_rfl) (RG.sx fun _=>by kernel_rfl) (fun w=>by kernel_rfl) (lssn_t hi),trivial⟩ ?_
    intro a21 w21 M21
    repeat refine wp_seq ?_
    refine wp_cond_true (M21.ev (by kernel_rfl)) ?_
    refine wp_skip ?_
    refine wp_seq ?_
    refine wp_block ?_
    repeat refine wp_seq ?_
    refine M21.tx0 (F72f_4 gg i v x) [(6,(.v v))] (by kernel_rfl) ⟨RG.st fun _ _=>by kernel_rfl,RG.cert_idx rfl 31 12 14 rfl (.v (.slice (some ⟨gg,0,none⟩) n cap)) (.int .i64 (i:Int)) (RG.sx fun _=>by kernel_rfl) (RG.sx fun _=>by kernel_rfl) (fun μ w=>at46 _ 0 _ _ i hi w),RG.cert_load1B rfl gg (0+i) hgg List.not_mem_nil 22 17 rfl v rfl (RG.sx fun _=>by kernel_rfl) hcell u23,RG.st fun _ _=>by kernel_rfl,RG.st fun _ _=>by kernel_rfl,trivial⟩ ?_
    intro a22 w22 M22
    repeat refine wp_seq ?_
    refine M22.tx (F72f_5 m v x) [(5,(RG.z 8))] [(1,6,(ws (0:Fin P)++(ws (0:Fin P))))] [C,(ws (0:Fin P)++(ws (0:Fin P)))] [(8,(.v (.bool false)))] (by kernel_rfl) (by kernel_rfl) ⟨RG.st fun _ _=>by kernel_rfl,RG.cert_callB1 rfl 128 20 v (.tuple #[(pv (0:Fin P) (0:Fin P)),(.bool false)]) rfl (fun a w=>by kernel_rfl) (RG.sx fun _=>by kernel_rfl) hrd,RG.st fun _ _=>by kernel_rfl,RG.st fun _ _=>by kernel_rfl,RG.st fun _ _=>by kernel_rfl,RG.mk 1 57 fun _ _=>by kernel_rfl,RG.pt i109 (by kernel_rfl),RG.st fun _ _=>by kernel_rfl,trivial⟩ ?_
    intro j23 a23 w23 M23
    repeat refine wp_seq ?_
    refine M23.tx0 (F72f_6 x) [(25,(.v (.bool true)))] (by kernel_rfl) ⟨RG.st fun _ _=>by kernel_rfl,RG.st fun _ _=>by kernel_rfl,trivial⟩ ?_
    intro a24 w24 M24
    repeat refine wp_seq ?_
    refine wp_cond_true (M24.ev (by kernel_rfl)) ?_
    repeat refine wp_seq ?_
    refine M24.tx0 (F72f_7 x) [(2,(.v (.slice none 0 0))),(3,(.v (.int .i64 4)))] (by kernel_rfl) ⟨RG.st fun _ _=>by kernel_rfl,RG.st fun _ _=>by kernel_rfl,trivial⟩ ?_
    intro a25 w25 M25
    have hS25:RG.St w w.heap.size [] [C,(ws (0:Fin P)++(ws (0:Fin P)))] [kt,j23] _:=M25.st
    have sl25:=M25.sl
    have f2_25:a25.tmps[2]? = some (.slice none 0 0):=M25.at (s:=(.v (.slice none 0 0))) (by kernel_rfl)
    have f3_25:a25.tmps[3]? = some (.int .i64 4):=M25.at (s:=(.v (.int .i64 4))) (by kernel_rfl)
    refine wp_ret ?_
    refine bodyPost_ret (v:=.tuple #[.slice none 0 0,.int .i64 4]) (RG.results_tt 2 3 rfl _ _ f2_25 f3_25) sl25.defers ?_
    exact ⟨_,rfl,hS25.bel.below,Or.inr ⟨⟨i,hi,hrdv⟩,rfl⟩⟩
 · have hiN:i=n:=by omega
   have M30:RG.M w w.heap.size [] 32 [C] [kt] [(4,(.s 0 n n)),(12,(.v (.slice q n cap))),(13,(.v (.int .i64 (n:Int)))),(14,(.v (.int .i64 (i:Int))))] a _:=⟨hSp,sl,⟨p4,p12,p13,p14,trivial⟩⟩
   repeat refine wp_seq ?_
   refine M30.tx0 (F72e_3 x) [(4,(.s 0 n n)),(15,(.v (.bool false)))] (by kernel_rfl) ⟨RG.cert_bin rfl .lss 3 3 14 13 (.int .i64 (i:Int)) (.int .i64 (n:Int)) (.bool false) rfl rfl (RG.sx fun _=>by kernel_rfl) (RG.sx fun _=>by kernel_rfl) (fun w=>by kernel_rfl) (lssn_f hi),trivial⟩ ?_
   intro a31 w31 M31
   repeat refine wp_seq ?_
   refine wp_cond_false (M31.ev (by kernel_rfl)) ?_
   refine wp_exit ?_
   dsimp only [Exit.then,Exit.inBlock]
   rw [if_pos rfl]
   repeat refine wp_seq ?_
   refine M31.tx0 (F72e_10 n x) [(2,(.s 0 n n)),(3,(.v (.int .i64 0)))] (by kernel_rfl) ⟨RG.st fun _ _=>by kernel_rfl,RG.st fun _ _=>by kernel_rfl,RG.st fun _ _=>by kernel_rfl,trivial⟩ ?_
   intro a32 w32 M32
   have hS32:RG.St w w.heap.size [] [C] [kt] _:=M32.st
   have sl32:=M32.sl
   have f2_32:a32.tmps[2]? = some (.slice (some ⟨kt,0,none⟩) n n):=M32.at (s:=(.s 0 n n)) (by kernel_rfl)
   have f3_32:a32.tmps[3]? = some (.int .i64 0):=M32.at (s:=(.v (.int .i64 0))) (by kernel_rfl)
   refine wp_ret ?_
   refine bodyPost_ret (v:=.tuple #[.slice (some ⟨kt,0,none⟩) n n,.int .i64 0]) (RG.results_tt 2 3 rfl _ _ f2_32 f3_32) sl32.defers ?_
   refine ⟨_,rfl,hS32.bel.below,Or.inl ⟨kt,?_,?_,rfl,fun j hj=>?_⟩⟩
   · exact (hS32.has 0 C rfl).2.2.2.elim id (fun h=>absurd h List.not_mem_nil)
   · exact (hS32.has 0 C rfl).2.2.1
   · obtain ⟨pp,hpp⟩:=Option.isSome_iff_exists.1 (hall j (by omega))
     refine ⟨pp,hpp,RG.range_sub (hS32.has 0 C rfl).1 (fun r hr=>?_)⟩
     have h5:=hR.row j r (by omega) hr
     rw [h5]
     show (match rd P (L j) with | some p=>_ | none=>_)[r]? = _
     rw [hpp]
def F81a_0:List RG.It:=[.x 2 [] (.slice none 0 0),.x 3 [] (.int .i64 0)]
def F81a_1 (q:Option Addr) (n cap:Nat):List RG.It:=[.x 9 [] (.slice q n cap),.x 10 [(9,0)] (.int .i64 (n:Int)),⟨some 11,[(10,1)],(.s 0 n n),.make 0⟩,.s 4 [(11,2)] (.s 0 n n)]
def F81a_2 (q:Option Addr) (n cap:Nat):List RG.It:=[.x 12 [] (.slice q n cap),.x 13 [(12,0)] (.int .i64 (n:Int)),.x 14 [] (.int .i64 0)]
def F81b_3:List RG.It:=[.x 15 [] (.bool true)]
def F81b_4 (gg i:Nat) (v:Value):List RG.It:=[.x 16 [] (.int .i64 (i:Int)),.x 17 [] (.pointer (some ⟨gg,(0+i),none⟩)),.x 18 [(17,1)] v,.x 5 [(16,0)] (.int .i64 (i:Int)),.x 6 [(18,2)] v]
def F81b_5 (m:Nat) (v:Value):List RG.It:=[.c 20 [] gv1,.x 21 [] v,.c 22 [(20,0),(21,1)] (.tuple #[(nv m),(.bool true)]),.x 19 [(22,2)] (.tuple #[(nv m),(.bool true)]),.x 23 [(19,3)] (nv m),.x 24 [(19,3)] (.bool true),.m 7 [] 1,.u [(7,6),(23,4)] 1,.x 8 [(24,5)] (.bool true)]
def F81b_6:List RG.It:=[.x 25 [] (.bool true),.x 26 [(25,0)] (.bool false)]
def F81b_8 (n i m:Nat):List RG.It:=[.s 27 [] (.s 0 n n),.x 28 [] (.int .i64 (i:Int)),.x 29 [] (nv m),.s 30 [(27,0),(28,1)] (.p 0 (0+4*i)),.u [(30,3),(29,2)] 0]
def F81b_9 (i:Nat):List RG.It:=[.x 31 [] (.int .i64 ((i+1:Nat):Int)),.x 14 [(31,0)] (.int .i64 ((i+1:Nat):Int))]
def F81f_3:List RG.It:=[.x 15 [] (.bool true)]
def F81f_4 (gg i:Nat) (v:Value):List RG.It:=[.x 16 [] (.int .i64 (i:Int)),.x 17 [] (.pointer (some ⟨gg,(0+i),none⟩)),.x 18 [(17,1)] v,.x 5 [(16,0)] (.int .i64 (i:Int)),.x 6 [(18,2)] v]
def F81f_5 (m:Nat) (v:Value):List RG.It:=[.c 20 [] gv1,.x 21 [] v,.c 22 [(20,0),(21,1)] (.tuple #[(nv 0),(.bool false)]),.x 19 [(22,2)] (.tuple #[(nv 0),(.bool false)]),.x 23 [(19,3)] (nv 0),.x 24 [(19,3)] (.bool false),.m 7 [] 1,.u [(7,6),(23,4)] 1,.x 8 [(24,5)] (.bool false)]
def F81f_6:List RG.It:=[.x 25 [] (.bool false),.x 26 [(25,0)] (.bool true)]
def F81f_7:List RG.It:=[.x 2 [] (.slice none 0 0),.x 3 [] (.int .i64 3)]
def F81e_3:List RG.It:=[.x 15 [] (.bool false)]
def F81e_10 (n:Nat):List RG.It:=[.s 32 [] (.s 0 n n),.s 2 [(32,0)] (.s 0 n n),.x 3 [] (.int .i64 0)]
def ArgsScs (w:World) (q:Option Addr) (n:Nat) (L:Nat→Bs):Prop:=0 < n→∃ gg,q=some ⟨gg,0,none⟩∧gg < w.heap.size∧∀ j,j < n→∃ v,w.cell? ⟨gg,j,none⟩=some v∧Arg w v (L j)
def ScsR (N:Nat) (w:World) (n:Nat) (L:Nat→Bs) (e:Value) (w':World):Prop :=
 (∃ k,w.heap.size≤k∧k < w'.heap.size∧e=.tuple #[.slice (some ⟨k,0,none⟩) n n,.int .i64 0]∧∀ j,j < n→∃ p,rq N (L j)=some p∧w'.rangeAt k (4*j) (wn p)) ∨
 ((∃ j,j < n∧rq N (L j)=none)∧e=.tuple #[.slice none 0 0,.int .i64 3])
set_option maxHeartbeats 4000000 in
set_option maxRecDepth 100000 in
theorem Scs_c {N:Nat} (hG:Gap 4624529908474429119 4994812053365940164 1 N) (n cap:Nat) (hn:n≤512) (q:Option Addr) (L:Nat→Bs) (w:World) (hA:ArgsScs w q n L):Calls Tryz.prog 95 #[.slice q n cap] w (Ret fun e w'=>Below w.heap.size w w'∧ScsR N w n L e w'):=by
 obtain ⟨C,hCl,hmk⟩:=mk82 n hn
 obtain ⟨i,-⟩:∃ i:Nat,i=0:=⟨_,rfl⟩
 obtain ⟨gg,-⟩:∃ i:Nat,i=0:=⟨_,rfl⟩
 obtain ⟨m,-⟩:∃ i:Nat,i=0:=⟨_,rfl⟩
 obtain ⟨v,-⟩:∃ v:Value,v=.bool true:=⟨_,rfl⟩
 obtain ⟨C2,-⟩:∃ c:List Value,c=C:=⟨_,rfl⟩
 go_enter Tryz.func95,Tryz.ntmps95
 refine RG.var1 (v0:=.slice q n cap) (n:=33) (by kernel_rfl) (by kernel_rfl) (by kernel_rfl) ?_
 intro a0 sl0 f0
 have hS0:=RG.St.begin w
 have M0:RG.M w w.heap.size [] 33 [] [] [(0,(.v (.slice q n cap)))] a0 _:=⟨hS0,sl0,⟨f0,trivial⟩⟩
 repeat refine wp_seq ?_
 refine M0.tx0 F81a_0 [(0,(.v (.slice q n cap))),(2,(.v (.slice none 0 0))),(3,(.v (.int .i64 0)))] (by kernel_rfl) ⟨RG.st fun _ _=>by kernel_rfl,RG.st fun _ _=>by kernel_rfl,trivial⟩ ?_
 intro a1 w1 M1
 repeat refine wp_seq ?_
 refine M1.tx (F81a_1 q n cap) [(2,C)] [] [C] [(0,(.v (.slice q n cap))),(2,(.v (.slice none 0 0))),(3,(.v (.int .i64 0))),(4,(.s 0 n n))] (by kernel_rfl) (by kernel_rfl) ⟨RG.st fun _ _=>by kernel_rfl,RG.cert_one rfl 9 (.v (.slice q n cap)) (.int .i64 (n:Int)) rfl (RG.sx fun _=>by kernel_rfl) (fun a w=>by kernel_rfl) (fun μ w=>by kernel_rfl),RG.cert_makes 0 rfl _ rfl 130 55 10 10 n rfl rfl (RG.sx fun _=>by kernel_rfl) (RG.sx fun _=>by kernel_rfl) (hmk),RG.st fun _ _=>by kernel_rfl,trivial⟩ ?_
 intro j2 a2 w2 M2
 repeat refine wp_seq ?_
 refine M2.tx0 (F81a_2 q n cap) [(2,(.v (.slice none 0 0))),(3,(.v (.int .i64 0))),(4,(.s 0 n n)),(12,(.v (.slice q n cap))),(13,(.v (.int .i64 (n:Int)))),(14,(.v (.int .i64 0)))] (by kernel_rfl) ⟨RG.st fun _ _=>by kernel_rfl,RG.cert_one rfl 12 (.v (.slice q n cap)) (.int .i64 (n:Int)) rfl (RG.sx fun _=>by kernel_rfl) (fun a w=>by kernel_rfl) (fun μ w=>by kernel_rfl),RG.st fun _ _=>by kernel_rfl,trivial⟩ ?_
 intro a3 w3 M3
 have hS3:RG.St w w.heap.size [] [C] [j2] _:=M3.st
 have sl3:=M3.sl
 have f2_3:a3.tmps[2]? = some (.slice none 0 0):=M3.at (s:=(.v (.slice none 0 0))) (by kernel_rfl)
 have f3_3:a3.tmps[3]? = some (.int .i64 0):=M3.at (s:=(.v (.int .i64 0))) (by kernel_rfl)
 have f4_3:a3.tmps[4]? = some (.slice (some ⟨j2,0,none⟩) n n):=M3.at (s:=(.s 0 n n)) (by kernel_rfl)
 have f12_3:a3.tmps[12]? = some (.slice q n cap):=M3.at (s:=(.v (.slice q n cap))) (by kernel_rfl)
 have f13_3:a3.tmps[13]? = some (.int .i64 (n:Int)):=M3.at (s:=(.v (.int .i64 (n:Int)))) (by kernel_rfl)
 have f14_3:a3.tmps[14]? = some (.int .i64 0):=M3.at (s:=(.v (.int .i64 0))) (by kernel_rfl)
 repeat refine wp_seq ?_
 refine wp_block ?_
 refine wp_loop_ghost (fun m a wr=>∃ (i:Nat) (C:List Value),i+m=n∧(∀ j,j < i→(rq N (L j)).isSome=true)∧Rows 4 n (fun j=>match rq N (L j) with | some k=>wn k | none=>[]) i C∧RG.Sl a 33∧a.tmps[4]? = some (.slice (some ⟨j2,0,none⟩) n n)∧a.tmps[12]? = some (.slice q n cap)∧a.tmps[13]? = some (.int .i64 (n:Int))∧a.tmps[14]? = some (.int .i64 (i:Int))∧RG.St w w.heap.size [] [C] [j2] wr) n ⟨0,C,by omega,fun j hj=>by omega,⟨hCl,fun j r hj=>by omega⟩,sl3,f4_3,f12_3,f13_3,f14_3,hS3⟩ ?_
 intro m' a wr
 rintro ⟨i,C,him,hall,hR,sl,p4,p12,p13,p14,hSp⟩
 generalize j2=kt at p4 hSp
 by_cases hi:i < n
 · obtain ⟨gg,hqe,hgg,hc⟩:=hA (by omega)
   rw [hqe] at p12
   obtain ⟨v,hv,harg⟩:=hc i hi
   have hcell:w.cell? ⟨gg,0+i,none⟩=some v:=by rw [Nat.zero_add];exact hv
   cases hrdv:rq N (L i) with
   | some pp =>
    obtain ⟨m,rfl⟩:∃ m,m=pp:=⟨_,rfl⟩
    have hrd:∀ w',RG.BelX w.heap.size [] w w'→Calls Tryz.prog 85 #[gv1,v] w' (Ret fun e w''=>Below w'.heap.size w' w''∧e=.tuple #[nv m,.bool true]):=fun w' hb=>by
     have:=readQ_c hG v (L i) w' (harg.below hb.below)
     rw [hrdv] at this
     exact this
    have hlen:=hR.len
    have hoff:0+4*i+(wn m).length≤C.length:=by rw [hlen];show 0+4*i+4≤4*n;omega
    obtain ⟨C2,hC2e⟩:∃ c,RG.rep C (0+4*i) (wn m)=c:=⟨_,rfl⟩
    have hC2:=hC2e ▸ RG.rep_at hoff
    have hcl:C2.length=C.length:=hC2e ▸ RG.rep_length hoff
    have hR2:Rows 4 n (fun j=>match rq N (L j) with | some k=>wn k | none=>[]) (i+1) C2:=by
     have:=hR.next hi (by show List.length (match rq N (L i) with | some p=>_ | none=>_)=_;rw [hrdv];rfl)
     rw [← hC2e]
     have e:(fun j=>match rq N (L j) with | some k=>wn k | none=>[]) i=(wn m):=by show (match rq N (L i) with | some p=>_ | none=>_)=_;rw [hrdv]
     rw [← e]
     exact this
    have M10:RG.M w w.heap.size [] 33 [C] [kt] [(4,(.s 0 n n)),(12,(.v (.slice (some ⟨gg,0,none⟩) n cap))),(13,(.v (.int .i64 (n:Int)))),(14,(.v (.int .i64 (i:Int))))] a _:=⟨hSp,sl,⟨p4,p12,p13,p14,trivial⟩⟩
    repeat refine wp_seq ?_
    refine M10.tx0 F81b_3 [(4,(.s 0 n n)),(12,(.v (.slice (some ⟨gg,0,none⟩) n cap))),(13,(.v (.int .i64 (n:Int)))),(14,(.v (.int .i64 (i:Int)))),(15,(.v (.bool true)))] (by kernel_rfl) ⟨RG.cert_bin rfl .lss 3 3 14 13 (.int .i64 (i:Int)) (.int .i64 (n:Int)) (.bool true) rfl rfl (RG.sx fun _=>by kernel_rfl) (RG.sx fun _=>by kernel_rfl) (fun w=>by kernel_rfl) (lssn_t hi),trivial⟩ ?_
    intro a11 w11 M11
    repeat refine wp_seq ?_
    refine wp_cond_true (M11.ev (by kernel_rfl)) ?_
    refine wp_skip ?_
    refine wp_seq ?_
    refine wp_block ?_
    repeat refine wp_seq ?_
    refine M11.tx0 (F81b_4 gg i v) [(4,(.s 0 n n)),(5,(.v (.int .i64 (i:Int)))),(6,(.v v)),(12,(.v (.slice (some ⟨gg,0,none⟩) n cap))),(13,(.v (.int .i64 (n:Int)))),(14,(.v (.int .i64 (i:Int))))] (by kernel_rfl) ⟨RG.st fun _ _=>by kernel_rfl,RG.cert_idx rfl 31 12 14 rfl (.v (.slice (some ⟨gg,0,none⟩) n cap)) (.int .i64 (i:Int)) (RG.sx fun _=>by kernel_rfl) (RG.sx fun _=>by kernel_rfl) (fun μ w=>at46 _ 0 _ _ i hi w),RG.cert_load1B rfl gg (0+i) hgg List.not_mem_nil 22 17 rfl v rfl (RG.sx fun _=>by kernel_rfl) hcell u23,RG.st fun _ _=>by kernel_rfl,RG.st fun _ _=>by kernel_rfl,trivial⟩ ?_
    intro a12 w12 M12
    repeat refine wp_seq ?_
    refine M12.tx (F81b_5 m v) [(6,(RG.z 4))] [(1,7,(wn m))] [C,(wn m)] [(4,(.s 0 n n)),(5,(.v (.int .i64 (i:Int)))),(7,(.p 1 0)),(8,(.v (.bool true))),(12,(.v (.slice (some ⟨gg,0,none⟩) n cap))),(13,(.v (.int .i64 (n:Int)))),(14,(.v (.int .i64 (i:Int))))] (by kernel_rfl) (by kernel_rfl) ⟨RG.cl (Scalars_c) fun _ _=>by kernel_rfl,RG.st fun _ _=>by kernel_rfl,RG.cert_callB2 rfl 85 20 21 gv1 v (.tuple #[(nv m),(.bool true)]) rfl (fun a w=>by kernel_rfl) (RG.sx fun _=>by kernel_rfl) (RG.sx fun _=>by kernel_rfl) hrd,RG.st fun _ _=>by kernel_rfl,RG.st fun _ _=>by kernel_rfl,RG.st fun _ _=>by kernel_rfl,RG.mk 1 55 fun _ _=>by kernel_rfl,RG.pt i85 (by kernel_rfl),RG.st fun _ _=>by kernel_rfl,trivial⟩ ?_
    intro j13 a13 w13 M13
    repeat refine wp_seq ?_
    refine M13.tx0 F81b_6 [(4,(.s 0 n n)),(5,(.v (.int .i64 (i:Int)))),(7,(.p 1 0)),(12,(.v (.slice (some ⟨gg,0,none⟩) n cap))),(13,(.v (.int .i64 (n:Int)))),(14,(.v (.int .i64 (i:Int)))),(26,(.v (.bool false)))] (by kernel_rfl) ⟨RG.st fun _ _=>by kernel_rfl,RG.st fun _ _=>by kernel_rfl,trivial⟩ ?_
    intro a14 w14 M14
    repeat refine wp_seq ?_
    refine wp_cond_false (M14.ev (by kernel_rfl)) ?_
    refine wp_skip ?_
    repeat refine wp_seq ?_
    refine M14.tx (F81b_8 n i m) [] [(0,4,C2)] [C2,(wn m)] [(4,(.s 0 n n)),(12,(.v (.slice (some ⟨gg,0,none⟩) n cap))),(13,(.v (.int .i64 (n:Int)))),(14,(.v (.int .i64 (i:Int))))] (by kernel_rfl) (congrArg (fun n=>[n]) hcl) ⟨RG.st fun _ _=>by kernel_rfl,RG.st fun _ _=>by kernel_rfl,RG.ld u85 i85 (by kernel_rfl),RG.cert_idx rfl 130 27 28 rfl (.s 0 n n) (.int .i64 (i:Int)) (RG.sx fun _=>by kernel_rfl) (RG.sx fun _=>by kernel_rfl) (fun μ w=>at82 _ 0 _ _ i hi w),RG.cert_putAt 0 (0+4*i) rfl _ rfl 55 (.tmp 30) (.tmp 29) (wn m) rfl rfl (RG.sx fun _=>by kernel_rfl) (RG.sx fun _=>by kernel_rfl) hoff hC2 i85 rfl,trivial⟩ ?_
    intro a15 w15 M15
    repeat refine wp_seq ?_
    refine M15.tx0 (F81b_9 i) [(4,(.s 0 n n)),(12,(.v (.slice (some ⟨gg,0,none⟩) n cap))),(13,(.v (.int .i64 (n:Int)))),(14,(.v (.int .i64 ((i+1:Nat):Int))))] (by kernel_rfl) ⟨RG.cert_binc rfl .add 3 3 14 (.int .i64 (i:Int)) (.int .i64 1) (.int .i64 ((i+1:Nat):Int)) rfl rfl (RG.sx fun _=>by kernel_rfl) (fun w=>by kernel_rfl) (addn i 1 (by omega) (by omega)),RG.st fun _ _=>by kernel_rfl,trivial⟩ ?_
    intro a16 w16 M16
    have hS16:RG.St w w.heap.size [] [C2,(wn m)] [kt,j13] _:=M16.st
    have sl16:=M16.sl
    have f4_16:a16.tmps[4]? = some (.slice (some ⟨kt,0,none⟩) n n):=M16.at (s:=(.s 0 n n)) (by kernel_rfl)
    have f12_16:a16.tmps[12]? = some (.slice (some ⟨gg,0,none⟩) n cap):=M16.at (s:=(.v (.slice (some ⟨gg,0,none⟩) n cap))) (by kernel_rfl)
    have f13_16:a16.tmps[13]? = some (.int .i64 (n:Int)):=M16.at (s:=(.v (.int .i64 (n:Int)))) (by kernel_rfl)
    have f14_16:a16.tmps[14]? = some (.int .i64 ((i+1:Nat):Int)):=M16.at (s:=(.v (.int .i64 ((i+1:Nat):Int)))) (by kernel_rfl)
    show ∃ n',_
    exact ⟨m' - 1,by omega,i+1,C2,by omega,fun j hj=>(by
     by_cases hji:j=i
     · rw [hji,hrdv];rfl
     · exact hall j (by omega)),hR2,sl16,f4_16,(by rw [hqe];exact f12_16),f13_16,f14_16,RG.St.init (cs:=[C2]) (ks:=[kt]) hS16⟩
   | none =>
    have hrd:∀ w',RG.BelX w.heap.size [] w w'→Calls Tryz.prog 85 #[gv1,v] w' (Ret fun e w''=>Below w'.heap.size w' w''∧e=.tuple #[nv 0,.bool false]):=fun w' hb=>by
     have:=readQ_c hG v (L i) w' (harg.below hb.below)
     rw [hrdv] at this
     exact this
    have M20:RG.M w w.heap.size [] 33 [C] [kt] [(4,(.s 0 n n)),(12,(.v (.slice (some ⟨gg,0,none⟩) n cap))),(13,(.v (.int .i64 (n:Int)))),(14,(.v (.int .i64 (i:Int))))] a _:=⟨hSp,sl,⟨p4,p12,p13,p14,trivial⟩⟩
    repeat refine wp_seq ?_
    refine M20.tx0 F81f_3 [(12,(.v (.slice (some ⟨gg,0,none⟩) n cap))),(14,(.v (.int .i64 (i:Int)))),(15,(.v (.bool true)))] (by kernel_rfl) ⟨RG.cert_bin rfl .lss 3 3 14 13 (.int .i64 (i:Int)) (.int .i64 (n:Int)) (.bool true) rfl rfl (RG.sx fun _=>by kernel_rfl) (RG.sx fun _=>by kernel_rfl) (fun w=>by kernel_rfl) (lssn_t hi),trivial⟩ ?_
    intro a21 w21 M21
    repeat refine wp_seq ?_
    refine wp_cond_true (M21.ev (by kernel_rfl)) ?_
    refine wp_skip ?_
    refine wp_seq ?_
    refine wp_block ?_
    repeat refine wp_seq ?_
    refine M21.tx0 (F81f_4 gg i v) [(6,(.v v))] (by kernel_rfl) ⟨RG.st fun _ _=>by kernel_rfl,RG.cert_idx rfl 31 12 14 rfl (.v (.slice (some ⟨gg,0,none⟩) n cap)) (.int .i64 (i:Int)) (RG.sx fun _=>by kernel_rfl) (RG.sx fun _=>by kernel_rfl) (fun μ w=>at46 _ 0 _ _ i hi w),RG.cert_load1B rfl gg (0+i) hgg List.not_mem_nil 22 17 rfl v rfl (RG.sx fun _=>by kernel_rfl) hcell u23,RG.st fun _ _=>by kernel_rfl,RG.st fun _ _=>by kernel_rfl,trivial⟩ ?_
    intro a22 w22 M22
    repeat refine wp_seq ?_
    refine M22.tx (F81f_5 m v) [(6,(RG.z 4))] [(1,7,(wn 0))] [C,(wn 0)] [(8,(.v (.bool false)))] (by kernel_rfl) (by kernel_rfl) ⟨RG.cl (Scalars_c) fun _ _=>by kernel_rfl,RG.st fun _ _=>by kernel_rfl,RG.cert_callB2 rfl 85 20 21 gv1 v (.tuple #[(nv 0),(.bool false)]) rfl (fun a w=>by kernel_rfl) (RG.sx fun _=>by kernel_rfl) (RG.sx fun _=>by kernel_rfl) hrd,RG.st fun _ _=>by kernel_rfl,RG.st fun _ _=>by kernel_rfl,RG.st fun _ _=>by kernel_rfl,RG.mk 1 55 fun _ _=>by kernel_rfl,RG.pt i85 (by kernel_rfl),RG.st fun _ _=>by kernel_rfl,trivial⟩ ?_
    intro j23 a23 w23 M23
    repeat refine wp_seq ?_
    refine M23.tx0 F81f_6 [(26,(.v (.bool true)))] (by kernel_rfl) ⟨RG.st fun _ _=>by kernel_rfl,RG.st fun _ _=>by kernel_rfl,trivial⟩ ?_
    intro a24 w24 M24
    repeat refine wp_seq ?_
    refine wp_cond_true (M24.ev (by kernel_rfl)) ?_
    repeat refine wp_seq ?_
    refine M24.tx0 F81f_7 [(2,(.v (.slice none 0 0))),(3,(.v (.int .i64 3)))] (by kernel_rfl) ⟨RG.st fun _ _=>by kernel_rfl,RG.st fun _ _=>by kernel_rfl,trivial⟩ ?_
    intro a25 w25 M25
    have hS25:RG.St w w.heap.size [] [C,(wn 0)] [kt,j23] _:=M25.st
    have sl25:=M25.sl
    have f2_25:a25.tmps[2]? = some (.slice none 0 0):=M25.at (s:=(.v (.slice none 0 0))) (by kernel_rfl)
    have f3_25:a25.tmps[3]? = some (.int .i64 3):=M25.at (s:=(.v (.int .i64 3))) (by kernel_rfl)
    refine wp_ret ?_
    refine bodyPost_ret (v:=.tuple #[.slice none 0 0,.int .i64 3]) (RG.results_tt 2 3 rfl _ _ f2_25 f3_25) sl25.defers ?_
    exact ⟨_,rfl,hS25.bel.below,Or.inr ⟨⟨i,hi,hrdv⟩,rfl⟩⟩
 · have hiN:i=n:=by omega
   have M30:RG.M w w.heap.size [] 33 [C] [kt] [(4,(.s 0 n n)),(12,(.v (.slice q n cap))),(13,(.v (.int .i64 (n:Int)))),(14,(.v (.int .i64 (i:Int))))] a _:=⟨hSp,sl,⟨p4,p12,p13,p14,trivial⟩⟩
   repeat refine wp_seq ?_
   refine M30.tx0 F81e_3 [(4,(.s 0 n n)),(15,(.v (.bool false)))] (by kernel_rfl) ⟨RG.cert_bin rfl .lss 3 3 14 13 (.int .i64 (i:Int)) (.int .i64 (n:Int)) (.bool false) rfl rfl (RG.sx fun _=>by kernel_rfl) (RG.sx fun _=>by kernel_rfl) (fun w=>by kernel_rfl) (lssn_f hi),trivial⟩ ?_
   intro a31 w31 M31
   repeat refine wp_seq ?_
   refine wp_cond_false (M31.ev (by kernel_rfl)) ?_
   refine wp_exit ?_
   dsimp only [Exit.then,Exit.inBlock]
   rw [if_pos rfl]
   repeat refine wp_seq ?_
   refine M31.tx0 (F81e_10 n) [(2,(.s 0 n n)),(3,(.v (.int .i64 0)))] (by kernel_rfl) ⟨RG.st fun _ _=>by kernel_rfl,RG.st fun _ _=>by kernel_rfl,RG.st fun _ _=>by kernel_rfl,trivial⟩ ?_
   intro a32 w32 M32
   have hS32:RG.St w w.heap.size [] [C] [kt] _:=M32.st
   have sl32:=M32.sl
   have f2_32:a32.tmps[2]? = some (.slice (some ⟨kt,0,none⟩) n n):=M32.at (s:=(.s 0 n n)) (by kernel_rfl)
   have f3_32:a32.tmps[3]? = some (.int .i64 0):=M32.at (s:=(.v (.int .i64 0))) (by kernel_rfl)
   refine wp_ret ?_
   refine bodyPost_ret (v:=.tuple #[.slice (some ⟨kt,0,none⟩) n n,.int .i64 0]) (RG.results_tt 2 3 rfl _ _ f2_32 f3_32) sl32.defers ?_
   refine ⟨_,rfl,hS32.bel.below,Or.inl ⟨kt,?_,?_,rfl,fun j hj=>?_⟩⟩
   · exact (hS32.has 0 C rfl).2.2.2.elim id (fun h=>absurd h List.not_mem_nil)
   · exact (hS32.has 0 C rfl).2.2.1
   · obtain ⟨pp,hpp⟩:=Option.isSome_iff_exists.1 (hall j (by omega))
     refine ⟨pp,hpp,RG.range_sub (hS32.has 0 C rfl).1 (fun r hr=>?_)⟩
     have h5:=hR.row j r (by omega) hr
     rw [h5]
     show (match rq N (L j) with | some p=>_ | none=>_)[r]? = _
     rw [hpp]
end Go.Proofs.YtmkllfekhehagagGreat
set_option linter.unusedVariables false
set_option linter.unusedSimpArgs false
namespace Go.Proofs.YtmkllfekhehagagGreat
open Go.RowKit Go.Sort Go.Deep
variable {P:Nat} [NeZero P]
omit [NeZero P] in
theorem words2 (x y:Fin P):∃ a b c d p q r s:Nat,pv x y=.agg #[.int .u64 (a:Int),.int .u64 (b:Int),.int .u64 (c:Int),.int .u64 (d:Int),.int .u64 (p:Int),.int .u64 (q:Int),.int .u64 (r:Int),.int .u64 (s:Int)]∧ws x++ws y=[.int .u64 (a:Int),.int .u64 (b:Int),.int .u64 (c:Int),.int .u64 (d:Int),.int .u64 (p:Int),.int .u64 (q:Int),.int .u64 (r:Int),.int .u64 (s:Int)] :=
 ⟨_,_,_,_,_,_,_,_,rfl,rfl⟩
def OutE (c:Int) (e:Value):Prop:=e=.tuple #[.slice none 0 0,.int .i64 c]
def OutP (w:World) (T:Bs) (e:Value) (w':World):Prop:=∃ g cap,e=.tuple #[.slice (some ⟨g,0,none⟩) 33 cap,.int .i64 0]∧33≤cap∧w.heap.size≤g∧g < w'.heap.size∧Holds encB w' g 0 T
set_option maxHeartbeats 2000000 in
theorem gPoint_c (C:Fld P) (v:Value) (bs:Bs) (w:World) (hv:Arg33 w v bs):Calls Tryz.prog 86 #[v] w (Ret fun e w'=>Below w.heap.size w w'∧e=.bool (rd P bs).isSome):=by
 have hc:∃ (a1 b1 c1 d1 p1 q1 r1 s1:Nat),Calls Tryz.prog 128 #[v] w (Ret fun e w'=>Below w.heap.size w w'∧e=.tuple #[.agg #[.int .u64 (a1:Int),.int .u64 (b1:Int),.int .u64 (c1:Int),.int .u64 (d1:Int),.int .u64 (p1:Int),.int .u64 (q1:Int),.int .u64 (r1:Int),.int .u64 (s1:Int)],.bool (rd P bs).isSome]):=by
  have h:=readPoint_c C v bs w hv
  cases hrd:rd P bs with
  | none =>
   obtain ⟨a1,b1,c1,d1,p1,q1,r1,s1,e1,-⟩:=words2 (0:Fin P) 0
   refine ⟨a1,b1,c1,d1,p1,q1,r1,s1,?_⟩
   rw [hrd] at h
   rw [← e1]
   exact h
  | some p =>
   obtain ⟨a1,b1,c1,d1,p1,q1,r1,s1,e1,-⟩:=words2 p.1 p.2
   refine ⟨a1,b1,c1,d1,p1,q1,r1,s1,?_⟩
   rw [hrd] at h
   rw [← e1]
   exact h
 obtain ⟨a1,b1,c1,d1,p1,q1,r1,s1,hc⟩:=hc
 generalize (rd P bs).isSome=bb at hc ⊢
 obtain ⟨q,n,cap,rfl,-⟩:=hv
 go_enter Tryz.func86,Tryz.ntmps86
 go_wp2_with fail
 refine hc.mono ?_
 rintro e w1 ⟨v,rfl,hb1,rfl⟩
 have HB:Hid (Below w.heap.size w w1):=hb1
 clear hb1 hc
 go_wp2
 go_ret
 exact ⟨_,rfl,HB.out.alloc HB.out.size _,rfl⟩
def ptP (s:T3 P):Fin P × Fin P:=(s.1*(EC.inv s.2.2*EC.inv s.2.2),s.2.1*(EC.inv s.2.2*EC.inv s.2.2)*EC.inv s.2.2)
end Go.Proofs.YtmkllfekhehagagGreat
namespace Go.Proofs.YtmkllfekhehagagGreat
open Go.RowKit Go.Sort Go.Deep
variable {P:Nat} [NeZero P]
theorem cell_below {w w1:World} {k j:Nat} {v:Value} (h:w.cell? ⟨k,j,none⟩=some v) (hb:Below w.heap.size w w1) (hk:k < w.heap.size):w1.cell? ⟨k,j,none⟩=some v:=by
 have h1:w.rangeAt k j [v]:=fun i u hu=>by
  cases i with
  | zero =>
   obtain rfl:v=u:=Option.some.inj hu
   exact h
  | succ i=>exact absurd hu (by simp)
 exact RG.range_below h1 hb hk 0 v rfl
theorem ArgsPts.below {w w1:World} {q:Option Addr} {n:Nat} {L:Nat→Bs} (h:ArgsPts w q n L) (hb:Below w.heap.size w w1):ArgsPts w1 q n L:=fun hn=>by
 obtain ⟨gg,hq,hlt,hc⟩:=h hn
 refine ⟨gg,hq,Nat.lt_of_lt_of_le hlt hb.size,fun j hj=>?_⟩
 obtain ⟨v,hv,ha⟩:=hc j hj
 exact ⟨v,cell_below hv hb hlt,ha.below hb⟩
def SumR (P:Nat) [NeZero P] (N:Nat) (w:World) (n a:Nat) (L M:Nat→Bs) (e:Value) (w':World):Prop :=
 (n≠a∧OutE 2 e)∨(n=a∧512 < n∧OutE 1 e)∨(n=a∧n≤512∧(((∃ j,j < n∧rq N (L j)=none)∧OutE 3 e) ∨
  ∃ ns:Nat→Nat,(∀ j,j < n→rq N (L j)=some (ns j))∧(((∃ j,j < n∧rd P (M j)=none)∧OutE 4 e) ∨
   ∃ xs ys:Nat→Fin P,(∀ j,j < n→rd P (M j)=some (xs j,ys j))∧OutP w (by33 (ptP (sumJ ns xs ys n 257)).1 (ptP (sumJ ns xs ys n 257)).2) e w')))
theorem choose_nat {A:Type} [Inhabited A] {n:Nat} {p:Nat→A→Prop} (h:∀ j,j < n→∃ a,p j a):∃ f:Nat→A,∀ j,j < n→p j (f j) :=
 ⟨fun j=>if hj:j < n then (h j hj).choose else default,fun j hj=>by
  show p j (if hj:j < n then (h j hj).choose else default)
  rw [dif_pos hj]
  exact (h j hj).choose_spec⟩
theorem rq_top {N:Nat} (hN:N≤top) {bs:Bs} {m:Nat} (h:rq N bs=some m):m < top:=by
 unfold rq at h
 split at h
 · rename_i h1
   obtain rfl:beV bs.toList=m:=Option.some.inj h
   exact Nat.lt_of_lt_of_le h1.2 hN
 · exact absurd h (by simp)
set_option maxHeartbeats 4000000 in
set_option maxRecDepth 100000 in
theorem gSum_c {N:Nat} (C:Fld P) (hG:Gap 4624529908474429119 4994812053365940164 1 N) (hN:N≤top) (q q':Option Addr) (n cap a cap':Nat) (L M:Nat→Bs) (w:World) (hL:ArgsScs w q n L) (hM:ArgsPts w q' a M) :
 Calls Tryz.prog 50 #[.slice q n cap,.slice q' a cap'] w (Ret fun e w'=>Below w.heap.size w w'∧SumR P N w n a L M e w'):=by
 have HL:Hid (ArgsScs w q n L):=hL
 have HM:Hid (ArgsPts w q' a M):=hM
 clear hL hM
 by_cases hna:n=a
 · subst hna
   by_cases h512:512 < n
   · go_enter Tryz.func50,Tryz.ntmps50
     go_wp2
     go_ret2
     exact ⟨_,rfl,RowKit.Below.refl _ _,Or.inr (Or.inl ⟨rfl,h512,rfl⟩)⟩
   · have H5:n≤512:=by omega
     go_enter Tryz.func50,Tryz.ntmps50
     go_wp2_with fail
     refine (Scs_c hG n cap H5 q L w HL.out).mono ?_
     rintro e w1 ⟨v,rfl,hb1,⟨k,hk1,hk2,rfl,hrow⟩ | ⟨hno,rfl⟩⟩
     · obtain ⟨ns,hns⟩:=choose_nat hrow
       have HB:Hid (Below w.heap.size w w1):=hb1
       have HS:Hid (k < w1.heap.size∧∀ j,j < n→w1.rangeAt k (4*j) (wn (ns j))):=⟨hk2,fun j hj=>(hns j hj).2⟩
       have HN:Hid (∀ j,j < n→rq N (L j)=some (ns j)):=fun j hj=>(hns j hj).1
       clear hrow hns hk1 hk2 hb1
       go_wp2_with fail
       refine (Pts_c C n cap' H5 q' M w1 (HM.out.below HB.out)).mono ?_
       rintro e w2 ⟨v,rfl,hb2,⟨k',hk1,hk2,rfl,hrow⟩ | ⟨hno,rfl⟩⟩
       · obtain ⟨ps,hps⟩:=choose_nat hrow
         have HB2:Hid (Below w.heap.size w w2):=HB.out.trans (hb2.mono HB.out.size)
         have HS2:Hid (k < w2.heap.size∧∀ j,j < n→w2.rangeAt k (4*j) (wn (ns j))):=⟨Nat.lt_of_lt_of_le HS.out.1 hb2.size,fun j hj=>RG.range_below (HS.out.2 j hj) hb2 HS.out.1⟩
         have HP:Hid (k' < w2.heap.size∧∀ j,j < n→w2.rangeAt k' (8*j) (ws (ps j).1++ws (ps j).2)):=⟨hk2,fun j hj=>(hps j hj).2⟩
         have HM2:Hid (∀ j,j < n→rd P (M j)=some ((ps j).1,(ps j).2)):=fun j hj=>(hps j hj).1
         clear hrow hps hk1 hk2 hb2
         have hBt:∀ w,Calls Tryz.prog 27 #[pv (ptP (sumJ ns (fun j=>(ps j).1) (fun j=>(ps j).2) n 257)).1 (ptP (sumJ ns (fun j=>(ps j).1) (fun j=>(ps j).2) n 257)).2] w (Ret fun e w'=>Below w.heap.size w w'∧BytesR w (by33 (ptP (sumJ ns (fun j=>(ps j).1) (fun j=>(ps j).2) n 257)).1 (ptP (sumJ ns (fun j=>(ps j).1) (fun j=>(ps j).2) n 257)).2) e w'):=bytes_c C _ _
         have hS:Calls Tryz.prog 97 #[.slice (some ⟨k,0,none⟩) n n,.slice (some ⟨k',0,none⟩) n n] w2 (Ret fun e w'=>Below w2.heap.size w2 w'∧e=pv (ptP (sumJ ns (fun j=>(ps j).1) (fun j=>(ps j).2) n 257)).1 (ptP (sumJ ns (fun j=>(ps j).1) (fun j=>(ps j).2) n 257)).2):=by
          refine (sums_c C n H5 ns (fun j=>(ps j).1) (fun j=>(ps j).2) (fun i hi=>rq_top hN (HN.out i hi)) k k' w2 HS2.out.1 HP.out.1 HS2.out.2 HP.out.2).mono ?_
          rintro e w' ⟨v,rfl,hb,s,rfl,rfl⟩
          exact ⟨_,rfl,hb,rfl⟩
         generalize hz:ptP (sumJ ns (fun j=>(ps j).1) (fun j=>(ps j).2) n 257)=z at hS hBt
         have HZ:Hid (ptP (sumJ ns (fun j=>(ps j).1) (fun j=>(ps j).2) n 257)=z):=hz
         clear hz
         generalize pv z.1 z.2=v4 at hS hBt
         go_wp2_with fail
         refine hS.mono ?_
         rintro e w3 ⟨v,rfl,hb3,rfl⟩
         have HB3:Hid (Below w.heap.size w w3):=HB2.out.trans (hb3.mono HB2.out.size)
         clear hb3
         go_wp2_with fail
         refine (hBt _).mono ?_
         rintro e w4 ⟨v,rfl,hb4,g,cap3,rfl,hc3,hg3,hlt3,hH3⟩
         have HB4:Hid (Below w.heap.size w w4):=HB3.out.trans (hb4.mono HB3.out.size)
         have HO:Hid (OutP w (by33 z.1 z.2) (.tuple #[.slice (some ⟨g,0,none⟩) 33 cap3,.int .i64 0]) w4):=⟨g,cap3,rfl,hc3,Nat.le_trans HB3.out.size hg3,hlt3,hH3⟩
         clear hb4 hH3
         go_wp2
         go_ret2
         refine ⟨_,rfl,HB4.out,Or.inr (Or.inr ⟨rfl,H5,Or.inr ⟨ns,HN.out,Or.inr ⟨_,_,HM2.out,?_⟩⟩⟩)⟩
         rw [HZ.out]
         exact HO.out
       · have HB2:Hid (Below w.heap.size w w2):=HB.out.trans (hb2.mono HB.out.size)
         have HO:Hid (∃ j,j < n∧rd P (M j)=none):=hno
         clear hb2 hno
         go_wp2
         go_ret2
         exact ⟨_,rfl,HB2.out,Or.inr (Or.inr ⟨rfl,H5,Or.inr ⟨ns,HN.out,Or.inl ⟨HO.out,rfl⟩⟩⟩)⟩
     · have HB:Hid (Below w.heap.size w w1):=hb1
       have HO:Hid (∃ j,j < n∧rq N (L j)=none):=hno
       clear hb1 hno
       go_wp2
       go_ret2
       exact ⟨_,rfl,HB.out,Or.inr (Or.inr ⟨rfl,H5,Or.inl ⟨HO.out,rfl⟩⟩)⟩
 · go_enter Tryz.func50,Tryz.ntmps50
   go_wp2
   go_ret2
   exact ⟨_,rfl,RowKit.Below.refl _ _,Or.inl ⟨hna,rfl⟩⟩
end Go.Proofs.YtmkllfekhehagagGreat
namespace Go.Proofs.YtmkllfekhehagagGreat
open Go.RowKit Go.Sort Go.Deep
variable {P:Nat} [NeZero P]
def zs33:Bs:=Array.replicate 33 0
theorem sq_mod (r d:Nat):d*d % (r+d)=r*r % (r+d):=by
 have h:d*d+(r+d)*r=r*r+(r+d)*d:=by
  rw [Nat.add_mul,Nat.add_mul,Nat.mul_comm d r]
  omega
 have h1:=congrArg (· % (r+d)) h
 simp only [Nat.add_mul_mod_self_left] at h1
 exact h1
theorem rt_sq {m y:Fin P} (h:rt m=some y):y*y=m:=by
 have h0:=rt_yes h
 unfold rt at h
 rw [if_pos h0] at h
 obtain rfl:=Option.some.inj h
 have hP:=Nat.pos_of_neZero P
 have hr:m.val ^ (P / 4+1) % P < P:=Nat.mod_lt _ hP
 generalize m.val ^ (P / 4+1) % P=r at h0 hr
 apply Fin.ext
 rw [Fin.val_mul]
 show (even P r % P)*(even P r % P) % P=m.val
 rw [Nat.mod_eq_of_lt (even_lt hP hr),← h0]
 unfold even
 split
 · have h2:=sq_mod r (P - r)
   rw [show r+(P - r)=P by omega] at h2
   exact h2
 · rfl
theorem zero33_iff {bs:Bs} (hs:bs.size=33):Zero33 bs↔bs=zs33:=by
 constructor
 · intro h
   apply Array.ext
   · rw [hs];rfl
   · intro i h1 h2
     have:=h i (List.mem_range.2 (by omega))
     rw [getElem!_pos bs i h1] at this
     have h3:bs[i].toNat=0:=by
      have h4:ub bs[i]=(bs[i].toNat:Int):=rfl
      rw [h4] at this
      omega
     have h5:(zs33)[i]=0:=by
      have h6:(Array.replicate 33 (0:UInt8))[i]'h2=0:=Array.getElem_replicate _
      exact h6
     rw [h5]
     exact UInt8.toNat_inj.1 h3
 · rintro rfl i hi
   have hi:=List.mem_range.1 hi
   unfold zs33
   rw [getElem!_pos _ i (by rw [Array.size_replicate];exact hi),Array.getElem_replicate]
   rfl
theorem on_of {x y:Fin P} (h:y*y=x*x*x+7):EC.On (.some (x,y):EC.Pt P):=by
 show y ^ 2=x ^ 3+7
 grobner
theorem on_neg {x y:Fin P} (h:y*y=x*x*x+7):EC.On (.some (x,0 - y):EC.Pt P):=by
 show (0 - y) ^ 2=x ^ 3+7
 grobner
def wr:EC.Pt P→Bs
 | none=>zs33
 | some (x,y)=>#[mark y.val]++bx x.val
theorem by33_wr (C:Fld P) {x y:Fin P} {p:EC.Pt P} (h:EC.Pair x y p) (ho:EC.On p):by33 x y=wr p:=by
 unfold by33
 match p,h,ho with
 | none,h,_=>rw [if_pos (show x=0∧y=0 from h)];rfl
 | some (a,b),h,ho =>
  obtain ⟨rfl,rfl⟩:=h
  rw [if_neg (fun e=>C.cur.y_ne ho e.2)]
  rfl
def pt (p:Fin P × Fin P):EC.Pt P:=if p.1=0∧p.2=0 then none else some p
theorem pair_pt (C:Fld P) {x y:Fin P} {q:EC.Pt P} (h:EC.Pair x y q) (ho:EC.On q):q=pt (x,y):=by
 unfold pt
 match q,h,ho with
 | none,h,_=>rw [if_pos (show x=0∧y=0 from h)]
 | some (a,b),h,ho =>
  obtain ⟨rfl,rfl⟩:=h
  rw [if_neg (fun e=>C.cur.y_ne ho e.2)]
theorem rd_on (C:Fld P) {bs:Bs} {p:Fin P × Fin P} (h:rd P bs=some p):EC.Pair p.1 p.2 (pt p)∧EC.On (pt p):=by
 have key:∃ q:EC.Pt P,EC.Pair p.1 p.2 q∧EC.On q:=by
  unfold rd at h
  split at h
  · split at h
    · obtain rfl:=Option.some.inj h
      exact ⟨none,⟨rfl,rfl⟩,EC.none_on⟩
    · split at h
      · split at h
        · obtain ⟨y,hr,rfl⟩:=Option.map_eq_some_iff.1 h
          have hsq:=rt_sq hr
          refine ⟨some (rdx P bs,if ub bs[0]! = 3 then 0 - y else y),⟨rfl,rfl⟩,?_⟩
          split
          · exact on_neg hsq
          · exact on_of hsq
        · cases h
      · cases h
  · cases h
 obtain ⟨q,h1,h2⟩:=key
 have:=pair_pt C h1 h2
 rw [show pt p=q from this.symm]
 exact ⟨h1,h2⟩
omit [NeZero P] in
theorem wr_size (p:EC.Pt P):(wr p).size=33:=by
 match p with
 | none=>rfl
 | some (x,y) =>
  show (#[mark y.val]++bx x.val).size=33
  rw [Array.size_append,bx_size]
  rfl
end Go.Proofs.YtmkllfekhehagagGreat
namespace Go.Proofs.YtmkllfekhehagagGreat
theorem root_mod {a P:Nat} (h:NT.IsP P) (h4:P % 4=3):(a*a % P) ^ (P / 4+1) % P*((a*a % P) ^ (P / 4+1) % P) % P=a*a % P:=by
 rw [← Nat.mul_mod,← Nat.pow_add,← Nat.pow_mod,← Nat.pow_two,← Nat.pow_mul,show 2*(P / 4+1+(P / 4+1))=P+1 by omega,Nat.pow_succ,Nat.mul_mod,h.fermat a,← Nat.mul_mod,Nat.pow_two]
theorem root_is {a R P:Nat} (h:NT.IsP P) (ha:a < P) (hR:R < P) (he:R*R % P=a*a % P):R=a∨R+a=P:=by
 have key:∀ x y:Nat,x < P→y < P→y≤x→x*x % P=y*y % P→x=y∨x+y=P:=by
  intro x y hx hy hxy hxe
  have hd:P ∣ x*x - y*y:=by
   refine Nat.dvd_of_mod_eq_zero ?_
   exact Nat.sub_mod_eq_zero_of_mod_eq hxe
  have hf:x*x - y*y=(x - y)*(x+y):=by
   rw [Nat.mul_comm (x - y),Nat.mul_self_sub_mul_self_eq]
  rw [hf] at hd
  rcases h.euclid hd with h1 | h1
  · left
    have:=Nat.eq_zero_of_dvd_of_lt h1 (by omega)
    omega
  · obtain ⟨k,hk⟩:=h1
    have:k=0∨k=1∨2≤k:=by omega
    rcases this with rfl | rfl | h2
    · left;omega
    · right;omega
    · have:=Nat.mul_le_mul_left P h2
      omega
 rcases Nat.le_total a R with h1 | h1
 · exact key R a hR ha h1 he
 · rcases key a R ha hR h1 he.symm with h2 | h2
   · left;exact h2.symm
   · right;omega
end Go.Proofs.YtmkllfekhehagagGreat
namespace Go.Proofs.YtmkllfekhehagagGreat
open Go.RowKit Go.Sort Go.Deep
theorem w8_be8 (x:Nat) (hx:x < 18446744073709551616) :
 w8 (UInt8.ofNat (x / 72057594037927936)) (UInt8.ofNat (x / 281474976710656)) (UInt8.ofNat (x / 1099511627776)) (UInt8.ofNat (x / 4294967296)) (UInt8.ofNat (x / 16777216)) (UInt8.ofNat (x / 65536)) (UInt8.ofNat (x / 256)) (UInt8.ofNat x)=x:=by
 unfold w8
 simp only [UInt8.toNat_ofNat']
 omega
theorem be32_list (a b c d:Nat):(be32 a b c d).toList=[UInt8.ofNat (d / 72057594037927936),UInt8.ofNat (d / 281474976710656),UInt8.ofNat (d / 1099511627776),UInt8.ofNat (d / 4294967296),UInt8.ofNat (d / 16777216),UInt8.ofNat (d / 65536),UInt8.ofNat (d / 256),UInt8.ofNat d,UInt8.ofNat (c / 72057594037927936),UInt8.ofNat (c / 281474976710656),UInt8.ofNat (c / 1099511627776),UInt8.ofNat (c / 4294967296),UInt8.ofNat (c / 16777216),UInt8.ofNat (c / 65536),UInt8.ofNat (c / 256),UInt8.ofNat c,UInt8.ofNat (b / 72057594037927936),UInt8.ofNat (b / 281474976710656),UInt8.ofNat (b / 1099511627776),UInt8.ofNat (b / 4294967296),UInt8.ofNat (b / 16777216),UInt8.ofNat (b / 65536),UInt8.ofNat (b / 256),UInt8.ofNat b,UInt8.ofNat (a / 72057594037927936),UInt8.ofNat (a / 281474976710656),UInt8.ofNat (a / 1099511627776),UInt8.ofNat (a / 4294967296),UInt8.ofNat (a / 16777216),UInt8.ofNat (a / 65536),UInt8.ofNat (a / 256),UInt8.ofNat a]:=by
 simp only [be32,be8,Array.toList_append,List.cons_append,List.nil_append]
theorem val_congr {a b c d p q r s:Nat} (h1:a=p) (h2:b=q) (h3:c=r) (h4:d=s):val a b c d=val p q r s:=by subst h1 h2 h3 h4;rfl
theorem beV_be32 (a b c d:Nat) (ha:a < 18446744073709551616) (hb:b < 18446744073709551616) (hc:c < 18446744073709551616) (hd:d < 18446744073709551616):beV (be32 a b c d).toList=val a b c d :=
 (congrArg beV (be32_list a b c d)).trans ((beV_32 _ _ _ _ _ _ _ _ _ _ _ _ _ _ _ _ _ _ _ _ _ _ _ _ _ _ _ _ _ _ _ _).trans (val_congr (w8_be8 a ha) (w8_be8 b hb) (w8_be8 c hc) (w8_be8 d hd)))
theorem bx_val {n:Nat} (hn:n < top):beV (bx n).toList=n:=by
 unfold bx
 rw [beV_be32 _ _ _ _ (by omega) (by omega) (by omega) (by omega)]
 unfold val
 unfold top at hn
 omega
variable {P:Nat} [NeZero P]
theorem rt_of (C:Fld P) {y m:Fin P} (h:y*y=m):rt m=some (if y.val % 2=1 then 0 - y else y):=by
 have hm:y.val*y.val % P=m.val:=by rw [← h,Fin.val_mul]
 have h1:=root_mod (a:=y.val) C.cur.pr C.p3
 rw [hm] at h1
 unfold rt
 rw [if_pos h1]
 have hP:=Nat.pos_of_neZero P
 have hr:m.val ^ (P / 4+1) % P < P:=Nat.mod_lt _ hP
 generalize m.val ^ (P / 4+1) % P=r at h1 hr
 have hy:=y.isLt
 have h3:=C.p3
 have hor:=root_is C.cur.pr hy hr (h1.trans hm.symm)
 congr 1
 apply Fin.ext
 show even P r % P=_
 unfold even
 have h0:(0 - y:Fin P).val=(P - y.val) % P:=by rw [← sub_fin,EC.val_zero,Nat.zero_add]
 by_cases ho:y.val % 2=1
 · rw [if_pos ho,h0]
   rcases hor with e | e
   · rw [e,if_pos ho]
   · rw [if_neg (by omega),show P - y.val=r by omega]
 · rw [if_neg ho]
   rcases hor with e | e
   · rw [e,if_neg ho,Nat.mod_eq_of_lt hy]
   · by_cases hz:y.val=0
     · omega
     · rw [if_pos (by omega),show P - r=y.val by omega,Nat.mod_eq_of_lt hy]
theorem ub_mark (n:Nat):ub (mark n)=if n % 2=1 then 3 else 2:=by
 unfold mark
 split <;> rfl
theorem tl_mark {m:UInt8} {b:Bs} (h:b.size=32):tl33 (#[m]++b)=b:=by
 unfold tl33
 rw [Array.extract_append]
 have h1:(#[m]:Bs).extract 1 33=#[]:=by rfl
 rw [h1]
 simp [h]
theorem mark_0 (m:UInt8) (b:Bs):(#[m]++b)[0]! = m:=by
 rw [getElem!_pos _ 0 (by rw [Array.size_append];simp;omega),Array.getElem_append_left (by simp)]
 rfl
theorem rd_of (C:Fld P) {b:Bs} (hs:b.size=33) {x y:Fin P} (hm:ub b[0]! = if y.val % 2=1 then 3 else 2) (hv:beV (tl33 b).toList=x.val) (h:EC.On (some (x,y):EC.Pt P)):rd P b=some (x,y):=by
 have hz:¬ Zero33 b:=fun hz=>by
  have:=hz 0 (List.mem_range.2 (by decide))
  rw [hm] at this
  split at this <;> omega
 have hx:rdx P b=x:=by
  unfold rdx
  rw [hv]
  exact Fin.ext (Nat.mod_eq_of_lt x.isLt)
 have hy:y*y=x*x*x+7:=by
  have:y ^ 2=x ^ 3+7:=h
  grobner
 unfold rd
 rw [if_pos hs,if_neg hz,hm,hv,if_pos x.isLt,hx,rt_of C hy]
 by_cases ho:y.val % 2=1
 · rw [if_pos ho,if_pos (Or.inr rfl),if_pos ho,Option.map_some,if_pos rfl]
   have e:0 - (0 - y)=y:=by grobner
   rw [e]
 · rw [if_neg ho,if_pos (Or.inl rfl),if_neg ho,Option.map_some,if_neg (by decide)]
theorem rd_wr (C:Fld P) {X:EC.Pt P} (h:EC.On X):∃ p,rd P (wr X)=some p∧pt p=X:=by
 match X,h with
 | none,_ =>
  refine ⟨(0,0),?_,by unfold pt;rw [if_pos ⟨rfl,rfl⟩]⟩
  have h1:(wr (none:EC.Pt P)).size=33:=wr_size _
  have h2:Zero33 (wr (none:EC.Pt P)):=(zero33_iff h1).2 rfl
  generalize wr (none:EC.Pt P)=b at h1 h2
  unfold rd
  rw [if_pos h1,if_pos h2]
 | some (x,y),h =>
  have hs:=wr_size (P:=P) (some (x,y))
  have hb0:(wr (some (x,y):EC.Pt P))[0]! = mark y.val:=mark_0 _ _
  have ht:tl33 (wr (some (x,y):EC.Pt P))=bx x.val:=tl_mark (bx_size _)
  refine ⟨(x,y),rd_of C hs (by rw [hb0,ub_mark]) (by rw [ht,bx_val (C.top x)]) h,by unfold pt;rw [if_neg (fun e=>C.cur.y_ne h e.2)]⟩
end Go.Proofs.YtmkllfekhehagagGreat
namespace Go.Proofs.YtmkllfekhehagagGreat
open Go.RowKit Go.Sort Go.Deep
variable {P:Nat} [NeZero P]
def gX (P:Nat) [NeZero P]:Fin P:=Fin.ofNat P 55066263022277343669578718895168534326250603453777594175500187360389116729240
def gY (P:Nat) [NeZero P]:Fin P:=Fin.ofNat P 32670510020758816978083085130507043184471273380659243275938904335757337482424
def gG (P:Nat) [NeZero P]:EC.Pt P:=some (gX P,gY P)
theorem Fld.eq (C:Fld P):P=115792089237316195423570985008687907853269984665640564039457584007908834671663:=by
 have h:=C.gap.hP
 have e:val 4294968273 0 0 0=4294968273:=by decide
 rw [e] at h
 unfold Go.Proofs.YtmkllfekhehagagGreat.top at h
 omega
theorem gX_val (C:Fld P):(gX P).val=55066263022277343669578718895168534326250603453777594175500187360389116729240:=by
 have h:=C.eq
 exact Nat.mod_eq_of_lt (by omega)
theorem gY_val (C:Fld P):(gY P).val=32670510020758816978083085130507043184471273380659243275938904335757337482424:=by
 have h:=C.eq
 exact Nat.mod_eq_of_lt (by omega)
theorem gG_on (C:Fld P):EC.On (gG P):=by
 refine on_of (Fin.ext ?_)
 have h7:(7:Fin P).val=7:=Nat.mod_eq_of_lt C.p7
 rw [Fin.val_mul,Fin.val_add,Fin.val_mul,Fin.val_mul,gX_val C,gY_val C,h7]
 have h:=C.eq
 rw [h]
end Go.Proofs.YtmkllfekhehagagGreat
namespace Go.Proofs.YtmkllfekhehagagGreat
open Go.RowKit Go.Sort Go.Deep Go.Shelf
attribute [local go_sem] Oper.semAt_some
section
variable {F:Fence} {n:Nat} {P:Program} {ops:Array Oper} {rest:List Oper} {op:Oper} {a:Act} {w:World} {Q:Exit→Act→World→Prop}
end
def Row (W:World) (k:Nat) (vs:List Value):Prop:=k < W.heap.size∧W.rangeAt k 0 vs∧W.there k 0 vs.length
theorem row_own (k:Nat) (vs:List Value):Own (fun (_:Unit) W=>Row W k vs):=fun s A B row hs hg hr=>by
 refine ⟨Nat.lt_of_lt_of_le hs.1 hg.size,fun j v hj=>?_,fun j hj=>?_⟩
 · exact cell_kept (hs.2.1 j v hj) hg hr
 · have h1:=hs.2.1 j vs[j] (List.getElem?_eq_getElem hj)
   have h2:=cell_kept h1 hg hr
   exact ⟨by rw [h2];rfl,(frozen_kept h1 hg hr).trans (hs.2.2 j hj).2⟩
theorem Row.putObj {W:World} {k D:Nat} {vs:List Value} (h:Row W k vs) {o:Obj} (hD:W.heap[D]? = some o) (ho:o.isCells=false) (o':Obj):Row (W.putObj D o') k vs :=
 row_own k vs () W (W.putObj D o') (some D) h (grownBy_putObj' W D o') (fun r e=>by cases e;exact ⟨_,hD,ho⟩)
theorem Row.below {W W':World} {k:Nat} {vs:List Value} (h:Row W k vs) (hb:Below W.heap.size W W'):Row W' k vs:=by
 have e:=hb.block k h.1
 refine ⟨Nat.lt_of_lt_of_le h.1 hb.size,fun j v hj=>?_,fun j hj=>?_⟩
 · exact (World.cell?_of_block e).trans (h.2.1 j v hj)
 · have h1:=h.2.2 j hj
   exact ⟨by rw [World.cell?_of_block e];exact h1.1,(World.frozen?_of_block e).trans h1.2⟩
theorem results_cell {P:Program} {fn:Func} {tmps:Array Value} {W:World} {k:Nat} {vs:List Value} (t:Tmp) (T:TypeId) (hr:fn.results=#[.cell t T]) (h:Row W k vs) (ht:tmps[t]? = some (.pointer (some ⟨k,0,none⟩)))
 (hu:(P.underlying T).map (·.isRow)=some true) (hi:(P.info? T).map (·.size)=some vs.length):(results fn tmps).run P W=.ok (.agg vs.toArray) W:=by
 obtain ⟨d,hu,hd⟩:=Option.map_eq_some_iff.1 hu
 have h1:=run_loadVar_mid (P:=P) W k 0 T vs d h.2.1 hu hd hi
 have h2:tmps.getD t undef=.pointer (some ⟨k,0,none⟩):=by rw [Array.getD_eq_getD_getElem?,ht];rfl
 unfold results
 rw [hr]
 simp only [Array.mapM_eq_mapM_toList,List.mapM_cons,List.mapM_nil,h2,asAddr]
 simp [Sem.run_bind,h1]
theorem Row.put {W:World} {k:Nat} {vs us:List Value} (h:Row W k vs) (hl:us.length=vs.length):Row (W.setCells k 0 us) k us :=
 ⟨by rw [RG.setCells_size];exact h.1,World.rangeAt_setCells_same W k 0 us (by rw [hl];exact h.2.2),by rw [hl];exact World.there_setCells h.2.2 _ _ _⟩
variable {P:Nat} [NeZero P]
end Go.Proofs.YtmkllfekhehagagGreat
namespace Go.Proofs.YtmkllfekhehagagGreat
open Go.RowKit Go.Sort Go.Deep
end Go.Proofs.YtmkllfekhehagagGreat
namespace Go.Proofs.YtmkllfekhehagagGreat
open Go.RowKit Go.Sort Go.Deep
variable {N:Nat}
def sPl (N a b:Nat):Nat:=(a+b) % N
theorem sPlus_c (O:Ord N) {a b:Nat} (ha:a < N) (hb:b < N):Gives 149 #[gv1,nv a,nv b] (nv (sPl N a b)):=fun w =>
 (Plus_any _ _ _ N _ _ a b O.gap (O.four ha) (O.four hb) ha hb w).mono (by rintro e w' ⟨v,rfl,hb,hF⟩;exact ⟨_,rfl,hb,hF.nv⟩)
def FSP_0:List RG.It:=[.m 2 [] 0,.m 3 [] 1,.m 4 [] 2]
def FSP_1 (N a b:Nat):List RG.It:=[.c 5 [] gv1,.s 6 [] (.p 0 0),.x 7 [(6,1)] (nv a),.s 8 [] (.p 1 0),.x 9 [(8,3)] (nv b),.c 10 [(5,0),(7,2),(9,4)] (nv (sPl N a b)),.x 11 [(10,5)] (nv (sPl N a b)),.u [(11,6)] 2]
set_option maxHeartbeats 2000000 in
set_option maxRecDepth 100000 in
theorem sPlu_c (O:Ord N) (a b:Nat) (ha:a < N) (hb:b < N):Gives 106 #[(nv a),(nv b)] (nv (sPl N a b)):=by
 intro w
 go_enter Tryz.func106,Tryz.ntmps106
 refine RG.M.enter [(0,(.v (nv a))),(1,(.v (nv b)))] 12 (by kernel_rfl) ?_
 intro a0 M0
 repeat refine wp_seq ?_
 refine M0.tx FSP_0 [(0,(wn a)),(1,(wn b)),(2,(RG.z 4))] [] [(wn a),(wn b),(RG.z 4)] [(2,(.p 0 0)),(3,(.p 1 0)),(4,(.p 2 0))] (by kernel_rfl) (by kernel_rfl) ⟨RG.mk 0 74 fun _ _=>by kernel_rfl,RG.mk 1 74 fun _ _=>by kernel_rfl,RG.mk 2 74 fun _ _=>by kernel_rfl,trivial⟩ ?_
 intro j1 i1 m1 a1 w1 M1
 repeat refine wp_seq ?_
 refine M1.dr (by kernel_rfl) (FSP_1 N a b) [] [(2,7,(wn (sPl N a b)))] [(wn a),(wn b),(wn (sPl N a b))] [(4,(.p 2 0))] (by kernel_rfl) (by kernel_rfl) ⟨RG.cl (Scalars_c) fun _ _=>by kernel_rfl,RG.st fun _ _=>by kernel_rfl,RG.ld u38 i38 (by kernel_rfl),RG.st fun _ _=>by kernel_rfl,RG.ld u38 i38 (by kernel_rfl),RG.cl (sPlus_c O ha hb) fun _ _=>by kernel_rfl,RG.st fun _ _=>by kernel_rfl,RG.pt i40 (by kernel_rfl),trivial⟩ ?_
 intro a2 w2 M2
 refine wp_ret ?_
 refine bodyPost_ret (v:=(nv (sPl N a b))) (RG.results_row M2.st 4 74 rfl 2 _ rfl (M2.at (s:=(.p 2 0)) (by kernel_rfl)) u40 i40) M2.sl.defers ?_
 exact ⟨_,rfl,M2.st.bel.below,rfl⟩
theorem row_new (w:World) (c:List Value) (T:TypeId):Row (w.alloc (.cells c.toArray T)) w.heap.size c :=
 have h:=RG.Made.alloc w c T
 ⟨h.lt,h.range,h.there⟩
theorem wn_one (n:Nat):(wn n).toArray.all (·.oneCell')=true:=by kernel_rfl
end Go.Proofs.YtmkllfekhehagagGreat
namespace Go.Proofs.YtmkllfekhehagagGreat
open Go.RowKit Go.Sort Go.Deep
section
variable {P:Program} {ops:Array Oper} {rest:List Oper} {op:Oper} {a:Act} {w w':World} {v:Value} {Q:Exit→Act→World→Prop}
theorem wpList_op (hgd:op.guard=none) (X:Op) (_:op.op=X) (hr:(execOp a.eval op).run P w=.ok (.value v) w') (h:wpList P ops Q rest (a.put op.dst v) w'):wpList P ops Q (op :: rest) a w :=
 wpList_plain hgd fun K hK=>by
  unfold Oper.wp
  rw [hr]
  exact hK _ _ h
end
variable {N:Nat}
theorem Hid.mk' {p:Prop} (h:p):Hid p:=h
end Go.Proofs.YtmkllfekhehagagGreat
namespace Go.Proofs.YtmkllfekhehagagGreat.SP
open Go.RowKit Go.Sort Go.Deep
attribute [local go_sem] bits_xor64 bits_and64 bits_or64 wrap_u
end Go.Proofs.YtmkllfekhehagagGreat.SP
namespace Go.Proofs.YtmkllfekhehagagGreat.SP
open Go.RowKit Go.Sort Go.Deep
attribute [local go_sem] bits_xor64 bits_and64 bits_or64 wrap_u
end Go.Proofs.YtmkllfekhehagagGreat.SP
namespace Go.Proofs.YtmkllfekhehagagGreat.SP
open Go.RowKit Go.Sort Go.Deep
attribute [local go_sem] bits_xor64 bits_and64 bits_or64 bits_not64 wrap_u
end Go.Proofs.YtmkllfekhehagagGreat.SP
namespace Go.Proofs.YtmkllfekhehagagGreat.SP
open Go.RowKit Go.Sort Go.Deep
attribute [local go_sem] bits_xor64 bits_and64 bits_or64 bits_not64 wrap_u wrap_ub low_u
end Go.Proofs.YtmkllfekhehagagGreat.SP
namespace Go.Proofs.YtmkllfekhehagagGreat.SP
open Go.RowKit Go.Sort Go.Deep
attribute [local go_sem] bits_xor8
end Go.Proofs.YtmkllfekhehagagGreat.SP
namespace Go.Proofs.YtmkllfekhehagagGreat.SP
open Go.RowKit Go.Sort Go.Deep
end Go.Proofs.YtmkllfekhehagagGreat.SP
namespace Go.Proofs.YtmkllfekhehagagGreat.SP
open Go.RowKit Go.Sort Go.Deep
end Go.Proofs.YtmkllfekhehagagGreat.SP
namespace Go.Proofs.YtmkllfekhehagagGreat.SP
open Go.RowKit Go.Sort Go.Deep
end Go.Proofs.YtmkllfekhehagagGreat.SP
namespace Go.Proofs.YtmkllfekhehagagGreat.SP
open Go.RowKit Go.Sort Go.Deep
end Go.Proofs.YtmkllfekhehagagGreat.SP
namespace Go.Proofs.YtmkllfekhehagagGreat
open Go.RowKit Go.Sort Go.Deep
end Go.Proofs.YtmkllfekhehagagGreat
set_option linter.unusedVariables false
set_option linter.unusedSimpArgs false
namespace Go.Proofs.YtmkllfekhehagagGreat
open Go.RowKit Go.Sort
variable {P:Nat} [NeZero P]
def rl0:List Value:=[.int .u64 18446744069414583343,.int .u64 18446744073709551615,.int .u64 18446744073709551615,.int .u64 18446744073709551615,.int .u64 4294968273,.int .u64 0,.int .u64 0,.int .u64 0]
def rv0:Value:=.agg rl0.toArray
structure Fl3 (P:Nat) [NeZero P]:Prop extends Fld P where
 ref:RefP 18446744069414583343 18446744073709551615 18446744073709551615 18446744073709551615 4294968273 0 0 0 P
theorem rMake_c:Gives 112 #[.int .i64 0] rv0:=fun w=>(rMake0 w).mono (by rintro e w' ⟨v,rfl,hb,rfl⟩;exact ⟨_,rfl,hb,rfl⟩)
theorem rAdd_c (h:Fl3 P) (x y:Fin P):Gives 70 #[rv0,fv x,fv y] (fv (x+y)):=fun w =>
 (rAdd_R h.ref (h.four x) (h.four y) w).mono (by rintro e w' ⟨v,rfl,hb,hF⟩;exact ⟨_,rfl,hb,hF.nv⟩)
theorem rMul_c (h:Fl3 P) (x y:Fin P):Gives 71 #[rv0,fv x,fv y] (fv (x*y)):=fun w =>
 (rMul_R h.ref (h.four x) (h.four y) w).mono (by rintro e w' ⟨v,rfl,hb,hF⟩;exact ⟨_,rfl,hb,hF.nv⟩)
theorem rSub_c (h:Fl3 P) (x y:Fin P):Gives 78 #[rv0,fv x,fv y] (fv (x - y)):=fun w =>
 (rSub_any _ _ _ _ _ _ _ _ P _ _ x.val y.val h.ref (h.four x) (h.four y) y.isLt w).mono (by rintro e w' ⟨v,rfl,hb,hF⟩;rw [sub_fin] at hF;exact ⟨_,rfl,hb,hF.nv⟩)
theorem rNeg_c (h:Fl3 P) (x:Fin P):Gives 80 #[rv0,fv x] (fv (0 - x)):=fun w =>
 (rNeg_any _ _ _ _ _ _ _ _ P _ x.val h.ref (h.four x) x.isLt w).mono (by
  rintro e w' ⟨v,rfl,hb,hF⟩
  rw [show (P - x.val) % P=(0 - x:Fin P).val by rw [← sub_fin,EC.val_zero,Nat.zero_add]] at hF
  exact ⟨_,rfl,hb,hF.nv⟩)
theorem rInv_c (h:Fl3 P) (x:Fin P):Gives 76 #[rv0,fv x] (fv (EC.inv x)):=fun w =>
 (rInv_any _ _ _ _ _ _ _ _ P _ x.val h.ref (h.four x) w).mono (by rintro e w' ⟨v,rfl,hb,hF⟩;exact ⟨_,rfl,hb,hF.nv⟩)
theorem rZero_t (h:Fl3 P) {x:Fin P} (e:x=0):Gives 67 #[fv x] (.bool true):=fun w =>
 (rZero_any _ _ (h.four x) w).mono (by
  rintro e w' ⟨v,rfl,hb,rfl⟩
  refine ⟨_,rfl,hb,?_⟩
  rw [decide_eq_true (by rw [e,EC.val_zero])])
theorem rZero_f (h:Fl3 P) {x:Fin P} (e:¬ x=0):Gives 67 #[fv x] (.bool false):=fun w =>
 (rZero_any _ _ (h.four x) w).mono (by
  rintro e w' ⟨v,rfl,hb,rfl⟩
  refine ⟨_,rfl,hb,?_⟩
  rw [decide_eq_false (fun h=>e (Fin.ext (by rw [EC.val_zero];exact h)))])
theorem rSmall1_c (h:Fl3 P):Gives 121 #[.int .u64 1] (fv (1:Fin P)):=fun w =>
 (rSmall_any 1 (by decide) w).mono (by rintro e w' ⟨v,rfl,hb,rfl⟩;exact ⟨_,rfl,hb,one_fv h.toFld⟩)
theorem rSmall7_c (h:Fl3 P):Gives 121 #[.int .u64 7] (fv (7:Fin P)):=fun w =>
 (rSmall_any 7 (by decide) w).mono (by rintro e w' ⟨v,rfl,hb,rfl⟩;exact ⟨_,rfl,hb,seven_fv h.toFld⟩)
theorem eqR (h:Fld P) (x y:Fin P) (w:World):(binOp .eql 59 (fv x) (fv y)).run Tryz.prog w=.ok (.bool (decide (x=y))) w:=by
 have h1:(binOp .eql 59 (fv x) (fv y)).run Tryz.prog w=.ok (.bool (decide (x.val % 18446744073709551616=y.val % 18446744073709551616∧x.val / 18446744073709551616 % 18446744073709551616=y.val / 18446744073709551616 % 18446744073709551616∧x.val / 340282366920938463463374607431768211456 % 18446744073709551616=y.val / 340282366920938463463374607431768211456 % 18446744073709551616∧x.val / 6277101735386680763835789423207666416102355444464034512896 % 18446744073709551616=y.val / 6277101735386680763835789423207666416102355444464034512896 % 18446744073709551616))) w:=by
  show (binOp .eql 59 (.agg _) (.agg _)).run Tryz.prog w=_
  rw [run_eql_struct]
  have h2:=eqR_d 9998 (x.val % 18446744073709551616) (x.val / 18446744073709551616 % 18446744073709551616) (x.val / 340282366920938463463374607431768211456 % 18446744073709551616) (x.val / 6277101735386680763835789423207666416102355444464034512896 % 18446744073709551616) (y.val % 18446744073709551616) (y.val / 18446744073709551616 % 18446744073709551616) (y.val / 340282366920938463463374607431768211456 % 18446744073709551616) (y.val / 6277101735386680763835789423207666416102355444464034512896 % 18446744073709551616) w
  unfold wn
  rw [h2,Result.andThen_ok]
 rw [h1]
 simp only [wn_inj (h.top x) (h.top y),← Fin.ext_iff]
theorem eqR_t (h:Fld P) {x y:Fin P} (e:x=y) (w:World):(binOp .eql 59 (fv x) (fv y)).run Tryz.prog w=.ok (.bool true) w:=by rw [eqR h,decide_eq_true e]
theorem eqR_f (h:Fld P) {x y:Fin P} (e:¬ x=y) (w:World):(binOp .eql 59 (fv x) (fv y)).run Tryz.prog w=.ok (.bool false) w:=by rw [eqR h,decide_eq_false e]
theorem neR (h:Fld P) (x y:Fin P) (w:World):(binOp .neq 59 (fv x) (fv y)).run Tryz.prog w=.ok (.bool (!decide (x=y))) w:=by
 have h1:(binOp .neq 59 (fv x) (fv y)).run Tryz.prog w=.ok (.bool (!decide (x.val % 18446744073709551616=y.val % 18446744073709551616∧x.val / 18446744073709551616 % 18446744073709551616=y.val / 18446744073709551616 % 18446744073709551616∧x.val / 340282366920938463463374607431768211456 % 18446744073709551616=y.val / 340282366920938463463374607431768211456 % 18446744073709551616∧x.val / 6277101735386680763835789423207666416102355444464034512896 % 18446744073709551616=y.val / 6277101735386680763835789423207666416102355444464034512896 % 18446744073709551616))) w:=neqR _ _ _ _ _ _ _ _ w
 rw [h1]
 simp only [wn_inj (h.top x) (h.top y),← Fin.ext_iff]
theorem neR_f (h:Fld P) {x y:Fin P} (e:x=y) (w:World):(binOp .neq 59 (fv x) (fv y)).run Tryz.prog w=.ok (.bool false) w:=by rw [neR h,decide_eq_true e];rfl
theorem neR_t (h:Fld P) {x y:Fin P} (e:¬ x=y) (w:World):(binOp .neq 59 (fv x) (fv y)).run Tryz.prog w=.ok (.bool true) w:=by rw [neR h,decide_eq_false e];rfl
theorem ws_none:Value.agg #[.int .u64 0,.int .u64 0,.int .u64 0,.int .u64 0,.int .u64 1,.int .u64 0,.int .u64 0,.int .u64 0,.int .u64 0,.int .u64 0,.int .u64 0,.int .u64 0]=.agg (([.int .u64 0,.int .u64 0,.int .u64 0,.int .u64 0]:List Value)++(([.int .u64 1,.int .u64 0,.int .u64 0,.int .u64 0]:List Value)++([.int .u64 0,.int .u64 0,.int .u64 0,.int .u64 0]:List Value))).toArray:=rfl
theorem build_none (h:Fld P) (w:World):(Instr.build 63 #[(1,fv (1:Fin P))]).run Tryz.prog w=.ok (rv (0:Fin P) 1 0) w:=by
 unfold rv
 rw [← ws_zero,← ws_one h,← one_fv h,← ws_none]
 kernel_rfl
theorem rSqrt_y (h:Fl3 P) {m y:Fin P} (e:rt m=some y):Gives 133 #[rv0,fv m] (.tuple #[fv y,.bool true]):=fun w =>
 (rSqrt_any _ _ _ _ _ _ _ _ P _ m.val h.ref h.p4 (h.four m) w).mono (by rintro e' w' ⟨v,rfl,hb,hF⟩;exact ⟨_,rfl,hb,hF.val.1 y e⟩)
theorem rSqrt_n (h:Fl3 P) {m:Fin P} (e:rt m=none):Gives 133 #[rv0,fv m] (.tuple #[fv (0:Fin P),.bool false]):=fun w =>
 (rSqrt_any _ _ _ _ _ _ _ _ P _ m.val h.ref h.p4 (h.four m) w).mono (by rintro e' w' ⟨v,rfl,hb,hF⟩;exact ⟨_,rfl,hb,hF.val.2 e⟩)
end Go.Proofs.YtmkllfekhehagagGreat
