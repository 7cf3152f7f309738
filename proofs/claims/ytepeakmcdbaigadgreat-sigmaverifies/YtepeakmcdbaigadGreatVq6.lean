import Derived.Deep.RegionHeld3
import Derived.Deep.LoopGhost
import Derived.Great.BuildSlice
import Derived.Lib.LazyBuf
import Derived.Laws.AppendOwn
import Derived.Test.YtepeakmcdbaigadGreatVq5
set_option linter.unusedVariables false
set_option linter.unusedSimpArgs false
set_option maxRecDepth 1000000
set_option maxHeartbeats 4000000
namespace Go.Proofs.YtepeakmcdbaigadGreat
namespace SP
open Go.RowKit Go.Sort Go.Deep
attribute [local go_sem] zAS zA0 zAX zDH zEi
theorem slice61:Tryz.prog.underlying 241=some (.slice 49):=by kernel_rfl
theorem info56:(Tryz.prog.info? 49).map (fun i=>(i.zero,i.size,i.bytes))=some (some (.int .u64 0),1,8):=by kernel_rfl
theorem round_any (ab tb:Nat) (a:St) (tn:Array Nat) (c:BitVec 64) (w:World) (ha:a.size=25) (ht:tn.size=25) (hA:Holds enc w ab 0 a) (hT:Holds encI w tb 0 tn) (h64:∀ i,i<25→tn[i]! < 64) :
 Calls Tryz.prog 187 #[.slice (some ⟨ab,0,none⟩) 25 25,.slice (some ⟨tb,0,none⟩) 25 25,.int .u64 (u c)] w fun e w'=>∃ r,e=.returned (.slice (some ⟨r,0,none⟩) 25 25)∧w.heap.size≤r∧Below w.heap.size w w'∧Holds enc w' r 0 (zBi a tn c):=by
 have hab:=Holds.lt hA (by omega)
 have htb:=Holds.lt hT (by omega)
 have hmk5:∀ w:World,(Instr.makeSlice 241 (.int .i64 5) (.int .i64 5)).run Tryz.prog w=.ok (.slice (some ⟨w.heap.size,0,none⟩) 5 5) (w.alloc (.cells (madeCells #[.int .u64 0] 5) 49)):=
  run_make_row' (P:=Tryz.prog) 241 49 (.int .u64 0) 8 slice61 info56 rfl .i64 .i64 5 (by omega) (by omega)
 have hmk25:∀ w:World,(Instr.makeSlice 241 (.int .i64 25) (.int .i64 25)).run Tryz.prog w=.ok (.slice (some ⟨w.heap.size,0,none⟩) 25 25) (w.alloc (.cells (madeCells #[.int .u64 0] 25) 49)):=
  run_make_row' (P:=Tryz.prog) 241 49 (.int .u64 0) 8 slice61 info56 rfl .i64 .i64 25 (by omega) (by omega)
 have HM25:Hid _:=hmk25
 clear hmk25
 go_enter Tryz.func187,Tryz.ntmps187
 go_wp2
 clear hmk5
 have hC1:Holds enc (w.alloc (.cells (madeCells #[.int .u64 0] 5) 49)) w.heap.size 0 (zES a 0):=Holds.made (enc:=enc) w 49 5 0
 have hb1:Below w.heap.size w (w.alloc (.cells (madeCells #[.int .u64 0] 5) 49)):=(Below.refl _ _).alloc (Nat.le_refl _) _
 generalize hW1:(w.alloc _)=W1 at hC1 hb1 ⊢
 have hs1:w.heap.size<W1.heap.size:=by rw[← hW1];simp
 have hA1:=Holds.below hA hb1 hab
 have hT1:=Holds.below hT hb1 htb
 clear hW1
 go_loopg [8] 5 (fun g s8 wr=>∃ (x:Nat) (ck:St),x+g=5∧s8=.int .i64 x∧Holds enc wr w.heap.size 0 ck∧Only w.heap.size 0 5 W1 wr∧Hid (ck=zES a x))
 case atStart=>exact ⟨0,_,rfl,rfl,hC1,Only.refl _ _ _ _,rfl⟩
 case round =>
  obtain ⟨x,ck,hx,rfl,hC,hO,HE⟩:=hrel
  have hcs:ck.size=5:=by rw[HE.out,colTo_size]
  by_cases hlt:x<5
  · have l5:(x:Int)<5:=by omega
    go_wp2
    go_loopg [9] 5 (fun g s9 wq=>∃ (y:Nat) (cy:St),y+g=5∧s9=.int .i64 y∧Holds enc wq w.heap.size 0 cy∧Only w.heap.size 0 5 W1 wq∧Hid (cy=colIn a x ck y))
    case atStart=>exact ⟨0,ck,rfl,rfl,hC,hO,rfl⟩
    case round =>
     obtain ⟨y,cy,hy,rfl,hCy,hOy,HEy⟩:=hrel
     have hcys:cy.size=5:=by rw[HEy.out,zFr,hcs]
     by_cases hlty:y<5
     · have hAy:=Holds.other hA1 hOy (by omega) (by omega)
       obtain ⟨z,hz⟩:∃ z,a[x+5*y]! = z:=⟨_,rfl⟩
       obtain ⟨v,hv⟩:∃ z,cy[x]! = z:=⟨_,rfl⟩
       obtain ⟨c0,f0⟩:=zAn hAy (x+5*y) (by omega) hz
       obtain ⟨c1,f1⟩:=zAn hCy x (by omega) hv
       rw[Nat.zero_add] at c0 c1 f1
       have HZ:Hid (a[x+5*y]! = z):=hz
       have HV:Hid (cy[x]! = v):=hv
       obtain ⟨i,hi⟩:∃ i,x+5*y=i:=⟨_,rfl⟩
       rw[hi] at c0
       have Hi:Hid (x+5*y=i):=hi
       have i25:i<25:=by omega
       have i25':(i:Int)<25:=by omega
       have y5:(y:Int)<5:=by omega
       clear hz hv hi f0
       go_wp2_with fail
       refine wp_region_still_tail 14 mixed (by kernel_rfl) ?_
       simp only[List.take_succ_cons,List.take_zero,List.drop_succ_cons,List.drop_zero]
       repeat still_step
       still_call (zBn (x:Int) (y:Int) i _ (by omega) (by omega) (by have:=Hi.out;omega))
       repeat still_step
       refine wpStill_nil ?_
       go_wp2
       go_roundg (gk-1)
       case measure=>omega
       case rel =>
        refine ⟨y+1,zAH cy x z,by omega,by go_num,?_,?_,?_⟩
        · have:=Holds.xor hCy (i:=x) (by omega) HV.out z
          rw[Nat.zero_add] at this
          exact Holds.drew this
        · exact (hOy.setCell (o:=x) (by omega) (by omega) _).drew
        · show _=zAH (colIn a x ck y) x a[x+5*y]!
          rw[HZ.out,HEy.out]
     · have hy5:y=5:=by omega
       subst hy5
       go_wp2
       go_roundg (4-x)
       case measure=>omega
       case rel =>
        refine ⟨x+1,cy,by omega,by go_num,hCy,hOy,?_⟩
        show _=colIn a x (zES a x) 5
        rw[HEy.out,HE.out]
  · have hx5:x=5:=by omega
    subst hx5
    have hb2:Below w.heap.size w wr:=hb1.trans (hO.below (by omega) (Nat.le_refl _))
    have hs2:w.heap.size<wr.heap.size:=Nat.lt_of_lt_of_le hs1 hO.size
    clear hlt hx hC1 hb1 hs1 hA1 hT1 hO
    have hmk:=HM25.out
    go_wp2
    clear hmk
    have hM3:Holds enc (wr.alloc (.cells (madeCells #[.int .u64 0] 25) 49)) wr.heap.size 0 (zEL a tn ck 0):=Holds.made (enc:=enc) wr 49 25 0
    have hb3':Below wr.heap.size wr (wr.alloc (.cells (madeCells #[.int .u64 0] 25) 49)):=(Below.refl _ _).alloc (Nat.le_refl _) _
    generalize hW3:(wr.alloc _)=W3 at hM3 hb3' ⊢
    have hs3:wr.heap.size<W3.heap.size:=by rw[← hW3];simp
    have hC3:=Holds.below hC hb3' hs2
    have hb3:=hb2.trans (hb3'.mono (by omega))
    have hA3:=Holds.below hA hb3 hab
    have hT3:=Holds.below hT hb3 htb
    clear hW3 hb3' hb2 hC
    generalize hMB:wr.heap.size=MB at *
    go_loopg [11] 5 (fun g s11 wr=>∃ (x:Nat) (mk:St),x+g=5∧s11=.int .i64 x∧Holds enc wr MB 0 mk∧Only MB 0 25 W3 wr∧Hid (mk=zEL a tn ck x))
    case atStart=>exact ⟨0,_,rfl,rfl,hM3,Only.refl _ _ _ _,rfl⟩
    case round =>
     obtain ⟨x,mk,hx,rfl,hM,hO,HEx⟩:=hrel
     have hms:mk.size=25:=by rw[HEx.out,movTo_size]
     by_cases hlt:x<5
     · have hCw:=Holds.other hC3 hO (by omega) (by omega)
       obtain ⟨y0,hy0⟩:∃ z,ck[(x+4)%5]! = z:=⟨_,rfl⟩
       obtain ⟨y1,hy1⟩:∃ z,ck[(x+1)%5]! = z:=⟨_,rfl⟩
       obtain ⟨c0,f0⟩:=zAn hCw ((x+4)%5) (by omega) hy0
       obtain ⟨c1,f1⟩:=zAn hCw ((x+1)%5) (by omega) hy1
       rw[Nat.zero_add] at c0 c1
       have HD:Hid (dcol ck x=y0 ^^^ rol y1 1):=by rw[← hy0,← hy1];rfl
       clear hy0 hy1 f0 f1
       have l5:(x:Int)<5:=by omega
       have q1:0≤((x:Int)+4)%5:=by omega
       have q2:((x:Int)+4)%5<5:=by omega
       have q3:(((x:Int)+4)%5).toNat=(x+4)%5:=by omega
       have q4:0≤((x:Int)+1)%5:=by omega
       have q5:((x:Int)+1)%5<5:=by omega
       have q6:(((x:Int)+1)%5).toNat=(x+1)%5:=by omega
       go_wp2_with fail
       go_quiet ((go_at_call 199;exact Calls.quiet_of (left_any _ 1 _ (by decide))))
       clear c0 c1 q1 q2 q3 q4 q5 q6
       go_wp2
       have hM1:=Holds.drewN hM nq
       have hO1:=hO.drewN nq
       generalize y0 ^^^ rol y1 1=dv at *
       go_loopg [13] 5 (fun g s13 wq=>∃ (y:Nat) (my:St),y+g=5∧s13=.int .i64 y∧Holds enc wq MB 0 my∧Only MB 0 25 W3 wq∧Hid (my=movIn a tn x dv mk y))
       case atStart=>exact ⟨0,mk,rfl,rfl,hM1,hO1,rfl⟩
       case round =>
        obtain ⟨y,my,hy,rfl,hMy,hOy,HEy⟩:=hrel
        have hmys:my.size=25:=by rw[HEy.out,zFj,hms]
        by_cases hlty:y<5
        · have hAy:=Holds.other hA3 hOy (by omega) (by omega)
          have hTy:=Holds.other hT3 hOy (by omega) (by omega)
          obtain ⟨z,hz⟩:∃ z,a[x+5*y]! = z:=⟨_,rfl⟩
          obtain ⟨tv,htv⟩:∃ z,tn[x+5*y]! = z:=⟨_,rfl⟩
          obtain ⟨c0,f0⟩:=zAn hAy (x+5*y) (by omega) hz
          obtain ⟨c1,f1⟩:=at_int hTy (x+5*y) (by omega) htv
          have t64:tv<64:=by rw[← htv];exact h64 _ (by omega)
          obtain ⟨i,hi⟩:∃ i,x+5*y=i:=⟨_,rfl⟩
          obtain ⟨j,hj⟩:∃ j,y%5+5*((2*x+3*y)%5)=j:=⟨_,rfl⟩
          obtain ⟨c2,f2⟩:=hMy j (by omega)
          rw[Nat.zero_add] at c0 c1 c2 f2
          rw[hi] at c0 c1
          have Hi:Hid (x+5*y=i):=hi
          have Hj:Hid (y%5+5*((2*x+3*y)%5)=j):=hj
          have HZ:Hid (a[x+5*y]! = z):=hz
          have HT:Hid (tn[x+5*y]! = tv):=htv
          have i25:i<25:=by omega
          have j25:j<25:=by omega
          have i25':(i:Int)<25:=by omega
          have j25':(j:Int)<25:=by omega
          have y5:(y:Int)<5:=by omega
          have s1:IntKind.i64.wrap (2*(x:Int))=2*(x:Int):=IntWalk.i64_in _ (by omega)
          have s2:IntKind.i64.wrap (3*(y:Int))=3*(y:Int):=IntWalk.i64_in _ (by omega)
          have s3:IntKind.i64.wrap (2*(x:Int)+3*(y:Int))=2*(x:Int)+3*(y:Int):=IntWalk.i64_in _ (by omega)
          clear hz htv hi hj f0 f1
          go_wp2_with fail
          have P1:∀ w,Hid (Calls Tryz.prog 198 #[.int .i64 (y:Int),.int .i64 (2*(x:Int)+3*(y:Int))] w fun e w'=>e=.returned (.int .i64 (j:Int))∧w'=w):=fun w=>zBn _ _ j w (by omega) (by omega) (by have:=Hj.out;omega)
          have P2:∀ w,Hid (Calls Tryz.prog 198 #[.int .i64 (x:Int),.int .i64 (y:Int)] w fun e w'=>e=.returned (.int .i64 (i:Int))∧w'=w):=fun w=>zBn _ _ i w (by omega) (by omega) (by have:=Hi.out;omega)
          go_region_with (first|(go_at_call_of 198 (Value.int IntKind.i64 (x:Int));refine Calls.mono (P2 _).out ?_;rintro e w2 ⟨rfl,rfl⟩)|(go_at_call 198;refine Calls.mono (P1 _).out ?_;rintro e w2 ⟨rfl,rfl⟩)|(go_at_call 199;refine (left_any (z ^^^ dv) tv _ t64).mono ?_;rintro e w2 ⟨rfl,n2,rfl⟩))
          all_goals
           go_wp2
           go_roundg (gk-1)
           case measure=>omega
           case rel =>
            refine ⟨y+1,my.setIfInBounds j (rol (z ^^^ dv) tv),by omega,by go_num,?_,?_,?_⟩
            · have:=Holds.set (Holds.drewN hMy (1+n2)) (i:=j) (by omega) (rol (z ^^^ dv) tv)
              rw[Nat.zero_add] at this
              exact this
            · exact (hOy.drewN (1+n2)).setCell (o:=j) (by omega) (by omega) _
            · show _=(movIn a tn x dv mk y).setIfInBounds (y%5+5*((2*x+3*y)%5)) (rol (a[x+5*y]! ^^^ dv) tn[x+5*y]!)
              rw[HZ.out,HT.out,Hj.out,HEy.out]
        · have hy5:y=5:=by omega
          subst hy5
          go_wp2
          go_roundg (4-x)
          case measure=>omega
          case rel =>
           refine ⟨x+1,my,by omega,by go_num,hMy,hOy,?_⟩
           show _=movIn a tn x (dcol ck x) (zEL a tn ck x) 5
           rw[HEy.out,HEx.out,HD.out]
     · have hx5:x=5:=by omega
       subst hx5
       have hb4:Below w.heap.size w wr:=hb3.trans (hO.below (by omega) (by omega))
       have hs4:MB<wr.heap.size:=Nat.lt_of_lt_of_le hs3 hO.size
       clear hlt hx hb3 hs3 hA3 hT3 hC3 hM3 hO
       have hmk:=HM25.out
       go_wp2
       clear hmk
       have hU5:Holds enc (wr.alloc (.cells (madeCells #[.int .u64 0] 25) 49)) wr.heap.size 0 (zE7 mk 0):=Holds.made (enc:=enc) wr 49 25 0
       have hb5':Below wr.heap.size wr (wr.alloc (.cells (madeCells #[.int .u64 0] 25) 49)):=(Below.refl _ _).alloc (Nat.le_refl _) _
       generalize hW5:(wr.alloc _)=W5 at hU5 hb5' ⊢
       have hs5:wr.heap.size<W5.heap.size:=by rw[← hW5];simp
       have hM5:=Holds.below hM hb5' hs4
       have hb5:=hb4.trans (hb5'.mono (by omega))
       clear hW5 hb5' hb4 hM
       generalize hOB:wr.heap.size=OB at *
       go_loopg [15] 5 (fun g s15 wr=>∃ (x:Nat) (ok:St),x+g=5∧s15=.int .i64 x∧Holds enc wr OB 0 ok∧Only OB 0 25 W5 wr∧Hid (ok=zE7 mk x))
       case atStart=>exact ⟨0,_,rfl,rfl,hU5,Only.refl _ _ _ _,rfl⟩
       case round =>
        obtain ⟨x,ok,hx,rfl,hU,hO,HEu⟩:=hrel
        have hus:ok.size=25:=by rw[HEu.out,zFf]
        by_cases hlt:x<5
        · have l5:(x:Int)<5:=by omega
          go_wp2
          go_loopg [16] 5 (fun g s16 wq=>∃ (y:Nat) (oy:St),y+g=5∧s16=.int .i64 y∧Holds enc wq OB 0 oy∧Only OB 0 25 W5 wq∧Hid (oy=outIn mk x ok y))
          case atStart=>exact ⟨0,ok,rfl,rfl,hU,hO,rfl⟩
          case round =>
           obtain ⟨y,oy,hy,rfl,hUy,hOy,HEy⟩:=hrel
           have hoys:oy.size=25:=by rw[HEy.out,zFg,hus]
           by_cases hlty:y<5
           · have hMy:=Holds.other hM5 hOy (by omega) (by omega)
             obtain ⟨i0,hi0⟩:∃ i,x+5*y=i:=⟨_,rfl⟩
             obtain ⟨i1,hi1⟩:∃ i,(x+1)%5+5*y=i:=⟨_,rfl⟩
             obtain ⟨i2,hi2⟩:∃ i,(x+2)%5+5*y=i:=⟨_,rfl⟩
             obtain ⟨z0,hz0⟩:∃ z,mk[i0]! = z:=⟨_,rfl⟩
             obtain ⟨z1,hz1⟩:∃ z,mk[i1]! = z:=⟨_,rfl⟩
             obtain ⟨z2,hz2⟩:∃ z,mk[i2]! = z:=⟨_,rfl⟩
             obtain ⟨c0,f0⟩:=zAn hMy i0 (by omega) hz0
             obtain ⟨c1,f1⟩:=zAn hMy i1 (by omega) hz1
             obtain ⟨c2,f2⟩:=zAn hMy i2 (by omega) hz2
             obtain ⟨c3,f3⟩:=hUy i0 (by omega)
             rw[Nat.zero_add] at c0 c1 c2 c3 f3
             have H0:Hid (x+5*y=i0):=hi0
             have H1:Hid ((x+1)%5+5*y=i1):=hi1
             have H2:Hid ((x+2)%5+5*y=i2):=hi2
             have HV:Hid (mk[x+5*y]! ^^^ (~~~mk[(x+1)%5+5*y]! &&& mk[(x+2)%5+5*y]!)=z0 ^^^ (~~~z1 &&& z2)):=by
              show _=_
              rw[hi0,hi1,hi2,hz0,hz1,hz2]
             have b0:i0<25:=by omega
             have b0':(i0:Int)<25:=by omega
             have b1':(i1:Int)<25:=by omega
             have b2':(i2:Int)<25:=by omega
             have y5:(y:Int)<5:=by omega
             have s1:IntKind.i64.wrap ((x:Int)+1)=(x:Int)+1:=IntWalk.i64_in _ (by omega)
             have s2:IntKind.i64.wrap ((x:Int)+2)=(x:Int)+2:=IntWalk.i64_in _ (by omega)
             clear hz0 hz1 hz2 hi0 hi1 hi2 f0 f1 f2
             go_wp2_with fail
             refine wp_region_still_tail 28 mixed (by kernel_rfl) ?_
             simp only[List.take_succ_cons,List.take_zero,List.drop_succ_cons,List.drop_zero]
             repeat still_step
             still_call (zBn (x:Int) (y:Int) i0 _ (by omega) (by omega) (by have:=H0.out;omega))
             repeat still_step
             still_call (zBn (x:Int) (y:Int) i0 _ (by omega) (by omega) (by have:=H0.out;omega))
             repeat still_step
             still_call (zBn ((x:Int)+1) (y:Int) i1 _ (by omega) (by omega) (by have:=H1.out;omega))
             repeat still_step
             still_call (zBn ((x:Int)+2) (y:Int) i2 _ (by omega) (by omega) (by have:=H2.out;omega))
             repeat still_step
             refine wpStill_nil ?_
             go_wp2
             go_roundg (gk-1)
             case measure=>omega
             case rel =>
              refine ⟨y+1,oy.setIfInBounds i0 (z0 ^^^ (~~~z1 &&& z2)),by omega,by go_num,?_,?_,?_⟩
              · have:=Holds.set hUy (i:=i0) (by omega) (z0 ^^^ (~~~z1 &&& z2))
                rw[Nat.zero_add] at this
                exact Holds.drew this
              · exact (hOy.setCell (o:=i0) (by omega) (by omega) _).drew
              · show _=(outIn mk x ok y).setIfInBounds (x+5*y) (mk[x+5*y]! ^^^ (~~~mk[(x+1)%5+5*y]! &&& mk[(x+2)%5+5*y]!))
                rw[HV.out,H0.out,HEy.out]
           · have hy5:y=5:=by omega
             subst hy5
             go_wp2
             go_roundg (4-x)
             case measure=>omega
             case rel =>
              refine ⟨x+1,oy,by omega,by go_num,hUy,hOy,?_⟩
              show _=outIn mk x (zE7 mk x) 5
              rw[HEy.out,HEu.out]
        · have hx5:x=5:=by omega
          subst hx5
          obtain ⟨z,hz⟩:∃ z,ok[0]! = z:=⟨_,rfl⟩
          obtain ⟨c0,f0⟩:=zAn hU 0 (by omega) hz
          rw[Nat.zero_add] at c0 f0
          have HZ:Hid (ok[0]! = z):=hz
          clear hz
          go_wp2
          go_ret
          refine ⟨OB,rfl,by omega,?_,?_⟩
          · exact (hb5.trans (hO.below (by omega) (by omega))).setCell (p:=⟨OB,0,none⟩) (by show _≤OB;omega) _
          · have e:zBi a tn c=zAH ok 0 c:=by unfold zBi;rw[HEu.out,HEx.out,HE.out]
            rw[e]
            exact Holds.xor (i:=0) hU (by omega) HZ.out c
end SP
namespace SP
open Go.RowKit Go.Sort Go.Deep
attribute [local go_sem] zAS zA0 zAX zDH zEi wrap_ub low_u
theorem zCM (s:ByteArray) (w:World) (hs:s.size=200) :
 Calls Tryz.prog 160 #[.string s] w fun e w'=>e=.returned (.string ⟨zCq s.data⟩)∧Below w.heap.size w w':=by
 have hmk25:∀ w:World,(Instr.makeSlice 241 (.int .i64 25) (.int .i64 25)).run Tryz.prog w=.ok (.slice (some ⟨w.heap.size,0,none⟩) 25 25) (w.alloc (.cells (madeCells #[.int .u64 0] 25) 49)):=
  run_make_row' (P:=Tryz.prog) 241 49 (.int .u64 0) 8 slice61 info56 rfl .i64 .i64 25 (by omega) (by omega)
 have hmk200:∀ w:World,(Instr.makeSlice 22 (.int .i64 200) (.int .i64 200)).run Tryz.prog w=.ok (.slice (some ⟨w.heap.size,0,none⟩) 200 200) (w.alloc (.cells (madeCells #[.int .u8 0] 200) 5)):=
  run_make_row' (P:=Tryz.prog) 22 5 (.int .u8 0) 1 slice22 info5 rfl .i64 .i64 200 (by omega) (by omega)
 have HM200:Hid _:=hmk200
 clear hmk200
 go_enter Tryz.func160,Tryz.ntmps160
 go_wp2
 clear hmk25
 have hA1:Holds enc (w.alloc (.cells (madeCells #[.int .u64 0] 25) 49)) w.heap.size 0 (orTo s.data 0):=Holds.made (enc:=enc) w 49 25 0
 have hb1:Below w.heap.size w (w.alloc (.cells (madeCells #[.int .u64 0] 25) 49)):=(Below.refl _ _).alloc (Nat.le_refl _) _
 generalize hW1:(w.alloc _)=W1 at hA1 hb1 ⊢
 have hs1:w.heap.size<W1.heap.size:=by rw[← hW1];simp
 clear hW1
 go_loopg [4] 200 (fun g s4 wr=>∃ (i:Nat) (dk:St),i+g=200∧s4=.int .i64 i∧Holds enc wr w.heap.size 0 dk∧Only w.heap.size 0 25 W1 wr∧Hid (dk=orTo s.data i))
 case atStart=>exact ⟨0,_,rfl,rfl,hA1,Only.refl _ _ _ _,rfl⟩
 case round =>
  obtain ⟨i,dk,hi,rfl,hD,hO,HE⟩:=hrel
  have hds:dk.size=25:=by rw[HE.out,zCs]
  by_cases hlt:i<200
  · obtain ⟨x,hx⟩:∃ x,dk[i/8]! = x:=⟨_,rfl⟩
    obtain ⟨c0,f0⟩:=zAn hD (i/8) (by omega) hx
    rw[Nat.zero_add] at c0 f0
    have HX:Hid (dk[i/8]! = x):=hx
    clear hx
    have l200:(i:Int)<200:=by omega
    have p0:0≤(i:Int)/8:=by omega
    have p1:(i:Int)/8<25:=by omega
    have p2:((i:Int)/8).toNat=i/8:=by omega
    have s1:IntKind.i64.wrap ((i:Int)/8)=(i:Int)/8:=IntWalk.i64_in _ (by omega)
    have s2:IntKind.i64.wrap (8*((i:Int)%8))=8*((i:Int)%8):=IntWalk.i64_in _ (by omega)
    have s3:0≤8*((i:Int)%8):=by omega
    have s4:8*((i:Int)%8)≤64:=by omega
    have s5:(8*((i:Int)%8)).toNat=8*(i%8):=by omega
    have his:(i:Int)<(s.size:Int):=by omega
    have his':i<s.size:=by omega
    have tm:(i:Int).tmod 8=(i:Int)%8:=Int.tmod_eq_emod_of_nonneg (by omega)
    obtain ⟨y,hy⟩:∃ y,wide s.data[i]! = y:=⟨_,rfl⟩
    have hsb:IntKind.u64.wrap (s[i].toNat:Int)=u y:=by
     have e:s.data[i]! = s[i]:=getElem!_pos s.data i his'
     rw[← hy,e]
     exact wrap_ub s[i]
    have HY:Hid (wide s.data[i]! = y):=hy
    clear hy
    have sh:=shl64 y (8*(i%8))
    go_wp2_with fail
    go_still_tail 18,mixed
    go_wp2
    go_roundg (gk-1)
    case measure=>omega
    case rel =>
     refine ⟨i+1,dk.setIfInBounds (i/8) (x ||| y <<< (8*(i%8))),by omega,by go_num,?_,?_,?_⟩
     · have:=Holds.set hD (i:=i/8) (by omega) (x ||| y <<< (8*(i%8)))
       rw[Nat.zero_add] at this
       exact Holds.drew this
     · exact (hO.setCell (o:=i/8) (by omega) (by omega) _).drew
     · show _=(orTo s.data i).setIfInBounds (i/8) ((orTo s.data i)[i/8]! ||| wide s.data[i]! <<< (8*(i%8)))
       rw[HY.out,← HE.out,HX.out]
  · have hi200:i=200:=by omega
    subst hi200
    have hb2:Below w.heap.size w wr:=hb1.trans (hO.below (by omega) (Nat.le_refl _))
    have hs2:w.heap.size<wr.heap.size:=Nat.lt_of_lt_of_le hs1 hO.size
    clear hlt hi hA1 hb1 hs1 hO
    go_wp2_with fail
    refine (offsets_any _).mono ?_
    rintro e w3 ⟨rfl,hb3,hT⟩
    have hD3:=Holds.below hD hb3 hs2
    have hb4:=hb2.trans (hb3.mono (by omega))
    have hs3:wr.heap.size<w3.heap.size:=Holds.lt hT (by rw[zCt];omega)
    generalize hTB:wr.heap.size=TB at *
    clear hb2 hb3 hD
    go_wp2
    go_loopg [3,6] 24 (fun g s3 s6 wr=>∃ (k ab:Nat) (dk:St),k+g=24∧s6=.int .i64 k∧s3=.slice (some ⟨ab,0,none⟩) 25 25∧Holds enc wr ab 0 dk∧w.heap.size≤ab∧Holds encI wr TB 0 zAU∧Below w.heap.size w wr∧Hid (dk=refTo (orTo s.data 200) k))
    case atStart=>exact ⟨0,w.heap.size,dk,rfl,rfl,rfl,hD3,Nat.le_refl _,hT,hb4,HE⟩
    case round =>
     clear hT hb4 hD3 HE hds dk
     obtain ⟨k,ab,dk,hk,rfl,rfl,hD,hab,hT,hb,HE⟩:=hrel
     have hds:dk.size=25:=by
      rw[HE.out]
      cases k with
      | zero=>exact zCs _ _
      | succ k=>exact zFS _ _ _
     by_cases hlt:k<24
     · have l24:(k:Int)<24:=by omega
       go_wp2_with fail
       refine (constant_any k _ hlt).mono ?_
       rintro e w4 ⟨rfl,rfl⟩
       go_wp2_with fail
       refine (round_any ab TB dk zAU (conL k) _ hds zCt hD hT offsets_lt).mono ?_
       rintro e w5 ⟨r,rfl,hr,hb5,hR⟩
       have hTl:=Holds.lt hT (by rw[zCt];omega)
       have hsz:=hb.size
       go_wp2
       go_roundg (gk-1)
       case measure=>omega
       case rel =>
        refine ⟨k+1,r,zBi dk zAU (conL k),by omega,by go_num,rfl,hR,by omega,Holds.below hT hb5 hTl,hb.trans (hb5.mono (by omega)),?_⟩
        rw[HE.out];rfl
     · have hk24:k=24:=by omega
       subst hk24
       have hmk:=HM200.out
       go_wp2
       clear hmk
       have hsz:=hb.size
       have hal:=Holds.lt hD (by omega)
       have hF1:Holds encB (wr.alloc (.cells (madeCells #[.int .u8 0] 200) 5)) wr.heap.size 0 (zBd dk 200 0):=Holds.made (enc:=encB) wr 5 200 0
       have hb6:Below wr.heap.size wr (wr.alloc (.cells (madeCells #[.int .u8 0] 200) 5)):=(Below.refl _ _).alloc (Nat.le_refl _) _
       generalize hW6:(wr.alloc _)=W6 at hF1 hb6 ⊢
       have hs6:wr.heap.size<W6.heap.size:=by rw[← hW6];simp
       have hD6:=Holds.below hD hb6 hal
       have hb7:=hb.trans (hb6.mono hsz)
       clear hW6 hb6 hb hD hT
       generalize hFB:wr.heap.size=FB at *
       go_loopg [8] 200 (fun g s8 wr=>∃ (i:Nat) (bs:Bs),i+g=200∧s8=.int .i64 i∧Holds encB wr FB 0 bs∧Only FB 0 200 W6 wr∧Hid (bs=zBd dk 200 i))
       case atStart=>exact ⟨0,_,rfl,rfl,hF1,Only.refl _ _ _ _,rfl⟩
       case round =>
        obtain ⟨i,bs,hi,rfl,hB,hO,HEb⟩:=hrel
        have hbs:bs.size=200:=by rw[HEb.out,zBK]
        by_cases hlt:i<200
        · have hDw:=Holds.other hD6 hO (by omega) (by omega)
          obtain ⟨x,hx⟩:∃ x,dk[i/8]! = x:=⟨_,rfl⟩
          obtain ⟨c0,f0⟩:=zAn hDw (i/8) (by omega) hx
          obtain ⟨c1,f1⟩:=hB i (by omega)
          rw[Nat.zero_add] at c0 c1 f1
          have HX:Hid (byteOf dk i=low (x >>> (8*(i%8)))):=by show low _=_;rw[hx]
          clear hx f0
          have p1:(i:Int)/8<25:=by omega
          have l200:(i:Int)<200:=by omega
          have hsr:=shr64 x (8*(i%8))
          go_wp2
          go_roundg (gk-1)
          case measure=>omega
          case rel =>
           refine ⟨i+1,bs.setIfInBounds i (low (x >>> (8*(i%8)))),by omega,by go_num,?_,?_,?_⟩
           · have:=Holds.set hB (i:=i) (by omega) (low (x >>> (8*(i%8))))
             rw[Nat.zero_add] at this
             exact this
           · exact hO.setCell (o:=i) (by omega) (by omega) _
           · show _=(zBd dk 200 i).setIfInBounds i (byteOf dk i)
             rw[HX.out,HEb.out]
        · have hi200:i=200:=by omega
          subst hi200
          have kc:=conv_str Tryz.prog 22 9 5 slice22 int5 str9 wr FB 0 200 200 bs hB hbs
          go_wp2
          go_ret
          have e1:bs=zCq s.data:=by rw[HEb.out,HE.out];exact ref_permB s.data
          rw[e1]
          exact ⟨rfl,hb7.trans (hO.below (by omega) (by omega))⟩
end SP
namespace SP
open Go.RowKit Go.Sort Go.Deep
attribute [local go_sem] bits_xor8
theorem holds_one (w:World) (x:UInt8):Holds encB (w.alloc (.cells #[.int .u8 (ub x)] 5)) w.heap.size 0 #[x]:=by
 have h:=Holds.new (enc:=encB) w 5 #[x]
 have e:Array.map encB #[x]=#[.int .u8 (ub x)]:=by simp[encB]
 rw[e] at h
 exact h
def padT (l:List UInt8) (e:UInt8) (k:Nat):List UInt8:=l++e :: List.replicate k 0
theorem zEE (l:List UInt8) (e:UInt8) (k:Nat):(padT l e k).length=l.length+1+k:=by
 unfold padT
 rw[List.length_append,List.length_cons,List.length_replicate]
 omega
theorem padT_next (l:List UInt8) (e:UInt8) (k:Nat):padT l e k++[0]=padT l e (k+1):=by
 unfold padT
 rw[List.append_assoc,List.cons_append,List.replicate_succ']
theorem padT_total (l:List UInt8) (e:UInt8):(padT l e (135-l.length%136)).set (l.length+(135-l.length%136)) ((padT l e (135-l.length%136))[l.length+(135-l.length%136)]! ^^^ 128)=total l e:=by
 unfold padT total zBz
 rw[List.set_append_right _ _ (by omega),Nat.add_sub_cancel_left,zDn _ _ _ (by omega) (by rw[List.length_cons,List.length_replicate];omega),Nat.add_sub_cancel_left]
theorem list_set_at (l:List UInt8) (i j:Nat) (x:UInt8) (hj:j<l.length):(l.set i x)[j]! = if i=j then x else l[j]!:=by
 rw[getElem!_pos (l.set i x) j (by rw[List.length_set];exact hj),List.getElem_set,getElem!_pos l j hj]
theorem total_at (l:List UInt8) (e:UInt8) (cur:Bs) (L k:Nat) (hk:k=135-l.length%136) (hL:L=l.length+1+k) (hc:L≤cur.size) (hT:∀ j,j<L→cur[j]! = (padT l e k)[j]!) :
 ∀ j,j<L→(cur.setIfInBounds (L-1) (cur[L-1]! ^^^ 128))[j]! = (total l e)[j]!:=by
 intro j hj
 have hpl:=zEE l e k
 rw[← padT_total,← hk,list_set_at _ _ _ _ (by omega),show l.length+k=L-1 by omega]
 by_cases h:j=L-1
 · rw[if_pos h.symm,h,getElem!_set_same _ _ _ (by omega),hT _ (by omega)]
 · rw[if_neg (by omega),getElem!_set_other _ _ _ _ h,hT _ hj]
theorem zGz (o:ByteArray) (d:St) (n m:Nat) (ho:o.size=136*m) (hnm:n≤136*m) (h:∀ j,j<136*m→o.data[j]! = zAT d j):o.extract 0 n=⟨zBA d n⟩:=by
 apply ByteArray.ext
 have hd:(o.extract 0 n).data=o.data.extract 0 n:=ByteArray.data_extract
 have hs:o.data.size=136*m:=ho
 rw[hd]
 refine bs_ext _ _ n (by rw[Array.size_extract,hs];omega) (zBm _ _) (fun j hj=>?_)
 have h1:j<(o.data.extract 0 n).size:=by rw[Array.size_extract,hs];omega
 have h2:j<o.data.size:=by omega
 have h3:=h j (by omega)
 rw[getElem!_pos o.data j h2] at h3
 rw[zDy _ _ _ hj,← h3,getElem!_pos (o.data.extract 0 n) j h1,Array.getElem_extract]
 simp only[Nat.zero_add]
theorem out_next (o:ByteArray) (d:St) (m:Nat) (p:Bs) (hp:p.size=136) (hpa:∀ j,j<136→p[j]! = byteOf (zA8 d m) j) (ho:o.size=136*m) (h:∀ j,j<136*m→o.data[j]! = zAT d j) :
 (o++⟨p⟩).size=136*(m+1)∧∀ j,j<136*(m+1)→(o++(⟨p⟩:ByteArray)).data[j]! = zAT d j:=by
 have hd:(o++(⟨p⟩:ByteArray)).data=o.data++p:=ByteArray.data_append
 have hs:o.data.size=136*m:=ho
 refine ⟨?_,fun j hj=>?_⟩
 · show (o++(⟨p⟩:ByteArray)).data.size=_
   rw[hd,Array.size_append,hp,hs]
   omega
 · rw[hd]
   by_cases h1:j<136*m
   · have h2:j<o.data.size:=by omega
     have h3:=h j h1
     rw[getElem!_pos o.data j h2] at h3
     rw[app_front _ _ j h2,h3]
   · rw[app_back _ _ j (by omega) (by omega),hs,hpa _ (by omega)]
     unfold zAT
     rw[show j/136=m by omega,show j%136=j-136*m by omega]
theorem conv200 (w:World) (p:Bs) (h:p.size=200) :
 ∃ sc w',(convert 9 22 (.string ⟨p⟩)).run Tryz.prog w=.ok (.slice (some ⟨w.heap.size,0,none⟩) 200 sc) w'∧200≤sc∧Holds encB w' w.heap.size 0 p∧Below w.heap.size w w':=by
 obtain ⟨v,w',hcv,own,hb,hv⟩:=zCF (w:=w) (B:=0) ⟨p⟩ (Nat.zero_le _)
 have hps:(ByteArray.mk p).size=200:=h
 have hpl:(ByteArray.mk p).data.toList.length=200:=by rw[Array.length_toList];exact h
 rw[hv] at hcv own
 rw[hps] at hcv own
 obtain ⟨_,_,hle,hH⟩:=own.holds
 exact ⟨_,_,hcv,by omega,by simpa using hH,hb⟩
theorem front_front (d:St):Array.size (front d 136)≤Array.size (front d 200)∧∀ j,j<(front d 136).size→(front d 136)[j]! = (front d 200)[j]!:=by
 refine ⟨by rw[zAl,zAl];omega,fun j hj=>?_⟩
 rw[zAl] at hj
 rw[zCb _ _ _ hj,zCb _ _ _ (by omega)]
theorem zDd (s:ByteArray) (e:UInt8) (n:Nat) (w:World) (hs:s.size≤1048576) (hn:n≤16384) :
 Calls Tryz.prog 127 #[.string s,.int .u8 (ub e),.int .i64 (n:Int)] w fun r w'=>r=.returned (.string ⟨zBA (zB2 s.data.toList e) n⟩)∧Below w.heap.size w w':=by
 obtain ⟨v0,w0,hcv,own0,hb0,hv0⟩:=zCF (w:=w) (B:=w.heap.size) s (Nat.le_refl _)
 rw[hv0] at hcv own0
 have hsz0:w.heap.size≤w0.heap.size:=hb0.size
 have hX:=holds_one w0 e
 have hbx:Below w0.heap.size w0 (w0.alloc (.cells #[.int .u8 (ub e)] 5)):=(Below.refl _ _).alloc (Nat.le_refl _) _
 have hl:s.data.toList.length=s.size:=Array.length_toList
 obtain ⟨v1,w1,hap,own1,hb1⟩:=zFA (c:=1) (own0.below hbx) hX (by rw[World.size_alloc];omega) (by rw[hl];simp;omega) 1 rfl
 have hbb1:Below w.heap.size w w1:=(hb0.trans (hbx.mono hsz0)).trans hb1
 have own1':Own w.heap.size w1 v1 (padT s.data.toList e 0):=own1
 clear hv0 own0 hX own1 hb1 hbx
 have hmk200:∀ w:World,(Instr.makeSlice 22 (.int .i64 200) (.int .i64 200)).run Tryz.prog w=.ok (.slice (some ⟨w.heap.size,0,none⟩) 200 200) (w.alloc (.cells (madeCells #[.int .u8 0] 200) 5)):=
  run_make_row' (P:=Tryz.prog) 22 5 (.int .u8 0) 1 slice22 info5 rfl .i64 .i64 200 (by omega) (by omega)
 have HM200:Hid _:=hmk200
 clear hmk200
 go_enter Tryz.func127,Tryz.ntmps127
 go_wp2_with (at_builtin;refine Lib.wpList_append_run _ rfl _ _ 22 22 rfl _ _ rfl rfl _ _ hap ?_)
 clear hap hcv hb0
 obtain ⟨h,hh⟩:∃ h,s.data.toList.length%136=h:=⟨_,rfl⟩
 have h136:h<136:=by rw[← hh];exact Nat.mod_lt _ (by decide)
 have Hh:Hid (s.data.toList.length%136=h):=hh
 clear hh
 go_loopg [7] (135-h) (fun g s7 wr=>∃ k,k+g=135-h∧Own w.heap.size wr s7 (padT s.data.toList e k)∧Below w.heap.size w wr)
 case atStart=>exact ⟨0,by omega,own1',hbb1⟩
 case round =>
  clear own1' hbb1
  obtain ⟨k,hk,own,hb⟩:=hrel
  have own':=own
  obtain ⟨g,cap,cur,rfl,hg,hgl,hcs,hlc,hH,hT⟩:=own'
  have hL:=zEE s.data.toList e k
  generalize hLL:(padT s.data.toList e k).length=L at *
  have hL':L=s.size+1+k:=by rw[hL,hl]
  have HL':Hid (L=s.size+1+k):=hL'
  have hLb:L≤1048900:=by omega
  have hL0:1≤L:=by omega
  have tm:(L:Int).tmod 136=(L:Int)%136:=Int.tmod_eq_emod_of_nonneg (by omega)
  by_cases hlt:k<135-h
  · have hb2:((L:Int)%136 != 0)=true:=by rw[bne_iff_ne];have:=Hh.out;rw[hl] at this;omega
    have hX:=holds_one wr 0
    have hbx:Below wr.heap.size wr (wr.alloc (.cells #[.int .u8 (ub 0)] 5)):=(Below.refl _ _).alloc (Nat.le_refl _) _
    obtain ⟨v2,w2,hap,own2,hbb⟩:=zFA (c:=1) (own.below hbx) hX (by rw[World.size_alloc];have:=hb.size;omega) (by rw[hLL];simp;omega) 1 rfl
    have own3:Own w.heap.size w2 v2 (padT s.data.toList e (k+1)):=by rw[← padT_next];exact own2
    have hb3:Below w.heap.size w w2:=(hb.trans (hbx.mono hb.size)).trans hbb
    clear hL hL' hLL own own2 hX hbb hbx hH hT
    go_wp2_with (at_builtin;refine Lib.wpList_append_run _ rfl _ _ 22 22 rfl _ _ rfl rfl _ _ hap ?_)
    go_roundg (gk-1)
    case measure=>omega
    case rel=>exact ⟨k+1,by omega,own3,hb3⟩
  · have hb2:((L:Int)%136 != 0)=false:=by
     rw[bne_eq_false_iff_eq];have:=Hh.out;rw[hl] at this;omega
    have hk0:k=135-s.data.toList.length%136:=by have:=Hh.out;omega
    obtain ⟨x,hx⟩:∃ x,cur[L-1]! = x:=⟨_,rfl⟩
    obtain ⟨c0,f0⟩:=zEZ hH (L-1) (by omega) hx
    rw[Nat.zero_add] at c0 f0
    have hx80:=xor80 x
    have hTot:=total_at s.data.toList e cur L k hk0 hL (by omega) hT
    rw[hx] at hTot
    have hH2:=Holds.set hH (i:=L-1) (by omega) (x ^^^ 128)
    rw[Nat.zero_add] at hH2
    have htl:(total s.data.toList e).length=L:=by rw[zDK];omega
    have hTA:Holds encB (wr.setCell ⟨g,L-1,none⟩ (.int .u8 (ub (x ^^^ 128)))) g 0 (total s.data.toList e).toArray:=
     Holds.front hH2 (by rw[Array.size_setIfInBounds,List.size_toArray,htl];omega) (fun j hj=>by rw[zC1];exact (hTot j (by simpa[htl] using hj)).symm)
    have hb4:Below w.heap.size w (wr.setCell ⟨g,L-1,none⟩ (.int .u8 (ub (x ^^^ 128)))):=hb.setCell (p:=⟨g,L-1,none⟩) hg _
    have hg4:g<(wr.setCell ⟨g,L-1,none⟩ (.int .u8 (ub (x ^^^ 128)))).heap.size:=by rw[World.size_setCell];exact hgl
    obtain ⟨M,hM⟩:∃ M,s.data.toList.length/136+1=M:=⟨_,rfl⟩
    have hLM:L=136*M:=by have:=Hh.out;omega
    have HLM:Hid (L=136*M):=hLM
    have HM:Hid (s.data.toList.length/136+1=M):=hM
    have z1:(0:Int)≤(L:Int)-1:=by omega
    have z2:(L:Int)-1<(L:Int):=by omega
    have z3:((L:Int)-1).toNat=L-1:=by omega
    have hmk:=HM200.out
    clear hM hLM hTot hH2 hH hT hx hL hL' hLL own hk0
    go_wp2
    clear hmk c0 f0 hb2 tm hx80
    have hW2:(wr.setCell ⟨g,L-1,none⟩ (.int .u8 (ub (x ^^^ 128)))).heap.size=wr.heap.size:=by rw[World.size_setCell]
    generalize wr.setCell ⟨g,L-1,none⟩ (.int .u8 (ub (x ^^^ 128)))=W2 at hTA hb4 hg4 hW2 ⊢
    have hS0:Holds encB (W2.alloc (.cells (madeCells #[.int .u8 0] 200) 5)) W2.heap.size 0 (zDc (total s.data.toList e) 0):=Holds.made (enc:=encB) W2 5 200 0
    have hb5':Below W2.heap.size W2 (W2.alloc (.cells (madeCells #[.int .u8 0] 200) 5)):=(Below.refl _ _).alloc (Nat.le_refl _) _
    have hs5:W2.heap.size<(W2.alloc (.cells (madeCells #[.int .u8 0] 200) 5)).heap.size:=by simp
    have hTA5:=Holds.below hTA hb5' hg4
    have hb5:=hb4.trans (hb5'.mono hb4.size)
    have hz4:=hb4.size
    rw[hW2] at hS0 hs5 hg4 hz4
    generalize hSG:wr.heap.size=SG at *
    generalize (W2.alloc _)=W3 at hS0 hb5 hs5 hTA5 ⊢
    clear hTA hb4 hb5' hSG hW2
    go_loopg [8,9] M (fun g2 s8 s9 wr=>∃ (i sg sc:Nat),i+g2=M∧s9=.int .i64 ((136*i:Nat):Int)∧s8=.slice (some ⟨sg,0,none⟩) 200 sc∧200≤sc∧w.heap.size≤sg∧sg≠g∧Holds encB wr sg 0 (zDc (total s.data.toList e) i)∧Holds encB wr g 0 (total s.data.toList e).toArray∧Below w.heap.size w wr)
    case atStart=>exact ⟨0,SG,200,by omega,rfl,rfl,Nat.le_refl _,by omega,by omega,hS0,hTA5,hb5⟩
    case round =>
     clear hS0 hTA5 hb5 hs5
     obtain ⟨i,sg,sc,hi,rfl,rfl,hsc,hsg,hne,hS,hTA,hb⟩:=hrel
     have hrs:(zDc (total s.data.toList e) i).size=200:=by
      cases i with
      | zero=>rw[zDc,Array.size_replicate]
      | succ i=>rw[zDc,zCq,zAl]
     have hgz:g<wr.heap.size:=Holds.lt hTA (by rw[List.size_toArray,htl];omega)
     by_cases hlt:i<M
     · have hlt':((136*i:Nat):Int)<(L:Int):=by have:=HLM.out;omega
       have hii:136*i+136≤L:=by have:=HLM.out;omega
       generalize hI:136*i=I at *
       have HI:Hid (136*i=I):=hI
       clear hI
       go_wp2
       have hD0:Holds encB wr sg 0 (xorB (zDc (total s.data.toList e) i) (total s.data.toList e) I 0):=hS
       generalize hR:zDc (total s.data.toList e) i=R at *
       have HR:Hid (R=zDc (total s.data.toList e) i):=hR.symm
       clear hR
       go_loopg [10] 136 (fun g3 s10 wq=>∃ (k:Nat) (st:Bs),k+g3=136∧s10=.int .i64 k∧Holds encB wq sg 0 st∧Only sg 0 200 wr wq∧Hid (st=xorB R (total s.data.toList e) I k))
       case atStart=>exact ⟨0,_,rfl,rfl,hD0,Only.refl _ _ _ _,rfl⟩
       case round =>
        clear hD0
        obtain ⟨k,st,hk,rfl,hSt,hO,HE⟩:=hrel
        have hsts:st.size=200:=by rw[HE.out,zGn];exact hrs
        have hTq:=Holds.other hTA hO (Ne.symm hne) (by rw[List.size_toArray,htl];omega)
        by_cases hltk:k<136
        · obtain ⟨y,hy⟩:∃ y,(total s.data.toList e)[I+k]! = y:=⟨_,rfl⟩
          obtain ⟨c0,f0⟩:=zEZ (x:=y) hTq (I+k) (by rw[List.size_toArray,htl];omega) (by rw[zC1];exact hy)
          obtain ⟨z,hz⟩:∃ z,st[k]! = z:=⟨_,rfl⟩
          obtain ⟨c1,f1⟩:=zEZ hSt k (by omega) hz
          rw[Nat.zero_add] at c0 c1 f1
          have HY:Hid ((total s.data.toList e)[I+k]! = y):=hy
          have HZ:Hid (st[k]! = z):=hz
          have k136:(k:Int)<136:=by omega
          have k200:(k:Int)<200:=by omega
          have ik0:(0:Int)≤(I:Int)+(k:Int):=by omega
          have ik1:(I:Int)+(k:Int)<(L:Int):=by omega
          have ik2:((I:Int)+(k:Int)).toNat=I+k:=by omega
          have ik3:IntKind.i64.wrap ((I:Int)+(k:Int))=(I:Int)+(k:Int):=IntWalk.i64_in _ (by omega)
          clear hy hz f0 hTq
          go_wp2_with fail
          go_still_tail 14,mixed
          go_wp2
          go_roundg (gk-1)
          case measure=>omega
          case rel =>
           refine ⟨k+1,st.setIfInBounds k (z ^^^ y),by omega,by go_num,?_,?_,?_⟩
           · have:=Holds.set hSt (i:=k) (by omega) (z ^^^ y)
             rw[Nat.zero_add] at this
             exact Holds.drew this
           · exact (hO.setCell (o:=k) (by omega) (by omega) _).drew
           · show _=(xorB R (total s.data.toList e) I k).setIfInBounds k ((xorB R (total s.data.toList e) I k)[k]! ^^^ (total s.data.toList e)[I+k]!)
             rw[← HE.out,HZ.out,HY.out]
        · have hk136:k=136:=by omega
          subst hk136
          have hgz2:=Holds.lt hSt (by omega)
          have kc:=conv_str Tryz.prog 22 9 5 slice22 int5 str9 _ sg 0 200 sc st hSt hsts
          have hbq:=hb.trans (hO.below hb.size hsg)
          obtain ⟨PB,hPB⟩:∃ x,zCq st=x:=⟨_,rfl⟩
          have hps:PB.size=200:=by rw[← hPB,zCq,zAl]
          have HE2:Hid (PB=zDc (total s.data.toList e) (i+1)):=by
           show PB=zCq (xorB (zDc (total s.data.toList e) i) (total s.data.toList e) (136*i) 136)
           rw[← HR.out,HI.out,← HE.out,hPB]
          have HPB:Hid (PB=zCq st):=hPB.symm
          clear hPB HE
          go_wp2_with fail
          refine (zCM ⟨st⟩ _ hsts).mono ?_
          rintro r w5 ⟨rfl,hb5⟩
          have e5:(ByteArray.mk (zCq (ByteArray.mk st).data))=ByteArray.mk PB:=congrArg ByteArray.mk HPB.out.symm
          rw[e5]
          clear e5
          obtain ⟨sc6,w6,hcv6,hle6,hH6,hb6⟩:=conv200 w5 PB hps
          have hgq:=Holds.lt hTq (by rw[List.size_toArray,htl];omega)
          have hg5:g<w5.heap.size:=Nat.lt_of_lt_of_le hgq hb5.size
          have hT6:=Holds.below (Holds.below hTq hb5 hgq) hb6 hg5
          have hb8:Below w.heap.size w w6:=(hbq.trans (hb5.mono hbq.size)).trans (hb6.mono (by have:=hb5.size;have:=hbq.size;omega))
          rw[HE2.out] at hH6
          have hz5:w.heap.size≤w5.heap.size:=by have:=hb5.size;have:=hbq.size;omega
          go_wp2
          go_roundg (M-(i+1))
          case measure=>omega
          case rel=>exact ⟨i+1,w5.heap.size,sc6,by omega,by rw[← HI.out];go_num,rfl,hle6,hz5,by omega,hH6,hT6,hb8⟩
     · have hiM:i=M:=by omega
       have hge:(L:Int)≤((136*i:Nat):Int):=by have:=HLM.out;omega
       obtain ⟨d,hd⟩:∃ d,zB2 s.data.toList e=d:=⟨_,rfl⟩
       obtain ⟨F,hF⟩:∃ F,front (zA8 d 0) 200=F:=⟨_,rfl⟩
       have hSf:Holds encB wr sg 0 F:=by
        have:=refSt_total s.data.toList e
        rw[HM.out,← hiM,hd] at this
        rw[this] at hS
        rw[← hF,zA8]
        exact hS
       have hab:d.size=25:=by rw[← hd];exact zC5 s.data.toList e
       have HDD:Hid (d=zB2 s.data.toList e):=hd.symm
       have HFF:Hid (F=front (zA8 d 0) 200):=hF.symm
       clear hS hrs hTA hgz hiM hlt hi hd hF
       generalize hI:136*i=I at *
       clear hI
       have hdec:decide ((I:Int)<(L:Int))=false:=decide_eq_false (by omega)
       have hdec2:decide (I<L)=false:=decide_eq_false (by omega)
       go_wp2
       go_loopg [8,11] (n+136) (fun g4 s8 s11 wq=>∃ (m sg sc:Nat) (o:ByteArray) (Fm:Bs),136*m+g4=n+136∧1≤g4∧s11=.string o∧o.size=136*m∧s8=.slice (some ⟨sg,0,none⟩) 200 sc∧200≤sc∧Holds encB wq sg 0 Fm∧Fm.size=200∧Below w.heap.size w wq∧Hid (Fm=front (zA8 d m) 200)∧Hid (∀ j,j<136*m→o.data[j]! = zAT d j))
       case atStart=>exact ⟨0,sg,sc,ByteArray.empty,F,by omega,by omega,rfl,rfl,rfl,hsc,hSf,by rw[HFF.out,zAl],hb,HFF,fun j hj=>by omega⟩
       case round =>
        clear hSf HFF hsc
        obtain ⟨m,sg,sc,o,Fm,hg4,hg41,rfl,ho,rfl,hsc,hF,hFs,hb,HF,HO⟩:=hrel
        have Ho:Hid (o.size=136*m):=ho
        have hob:o.size≤n+136:=by omega
        by_cases hlt:o.size<n
        · have hlt':(o.size:Int)<(n:Int):=by omega
          obtain ⟨Q,hQ⟩:∃ Q,front (zA8 d m) 136=Q:=⟨_,rfl⟩
          have hQs:Q.size=136:=by rw[← hQ,zAl]
          have hQa:∀ j,j<136→Q[j]! = byteOf (zA8 d m) j:=fun j hj=>by rw[← hQ,zCb _ _ _ hj]
          have hHQ:Holds encB wr sg 0 Q:=by
           have h1:=front_front (zA8 d m)
           rw[← HF.out,hQ] at h1
           exact Holds.front hF h1.1 h1.2
          have hnx:=out_next o d m Q hQs hQa ho HO
          have HNX:Hid ((o++⟨Q⟩).size=136*(m+1)∧∀ j,j<136*(m+1)→(o++(⟨Q⟩:ByteArray)).data[j]! = zAT d j):=hnx
          obtain ⟨PB,hPB⟩:∃ x,zCq Fm=x:=⟨_,rfl⟩
          have hps:PB.size=200:=by rw[← hPB,zCq,zAl]
          have HN:Hid (PB=front (zA8 d (m+1)) 200):=by
           show PB=front (perm (zA8 d m)) 200
           rw[← hPB,HF.out,permB_front _ (zAR d hab m)]
          have HPB:Hid (PB=zCq Fm):=hPB.symm
          have kc1:=conv_str Tryz.prog 22 9 5 slice22 int5 str9 wr sg 0 136 sc Q hHQ hQs
          have kc2:=conv_str Tryz.prog 22 9 5 slice22 int5 str9 wr sg 0 200 sc Fm hF hFs
          have hsc0:(sc=0)=False:=eq_false (by omega)
          have hsc1:(136:Int)≤(sc:Int):=by omega
          clear hQ hQa hHQ hnx hPB HO ho
          go_wp2_with fail
          refine (zCM ⟨Fm⟩ _ hFs).mono ?_
          rintro r w5 ⟨rfl,hb5⟩
          have e5:(ByteArray.mk (zCq (ByteArray.mk Fm).data))=ByteArray.mk PB:=congrArg ByteArray.mk HPB.out.symm
          rw[e5]
          clear e5
          obtain ⟨sc6,w6,hcv6,hle6,hH6,hb6⟩:=conv200 w5 PB hps
          have hb8:Below w.heap.size w w6:=(hb.trans (hb5.mono hb.size)).trans (hb6.mono (by have:=hb5.size;have:=hb.size;omega))
          go_wp2
          go_roundg (gk-136)
          case measure=>have:=Ho.out;omega
          case rel=>exact ⟨m+1,w5.heap.size,sc6,o++(ByteArray.mk Q),PB,by have:=Ho.out;omega,by have:=Ho.out;omega,rfl,HNX.out.1,rfl,hle6,hH6,hps,hb8,HN,HNX.out.2⟩
        · have hge:(n:Int)≤(o.size:Int):=by omega
          have hex:=zGz o d n m ho (by omega) HO
          have HEX:Hid (o.extract 0 n=⟨zBA d n⟩):=hex
          clear hex ho HO
          go_wp2
          go_ret
          rw[← HDD.out,← HEX.out]
          exact ⟨rfl,hb⟩
end SP
namespace SP
open Go.RowKit Go.Sort Go.Deep
end SP
namespace SP
open Go.RowKit Go.Sort Go.Deep
theorem refHash_any (s:ByteArray) (w:World) (hs:s.size≤1048576) :
 Calls Tryz.prog 129 #[.string s] w fun r w'=>r=.returned (.string ⟨hashL s.data.toList⟩)∧Below w.heap.size w w':=by
 go_enter Tryz.func129,Tryz.ntmps129
 go_wp2_with fail
 refine (zDd s 6 32 _ hs (by decide)).mono ?_
 rintro r w1 ⟨rfl,hb⟩
 rw[← hash_stream]
 go_wp2
 go_ret
 exact ⟨rfl,hb⟩
theorem zFR (s:ByteArray) (n:Nat) (w:World) (hs:s.size≤1048576) (hn:n≤16384) :
 Calls Tryz.prog 82 #[.string s,.int .i64 (n:Int)] w fun r w'=>r=.returned (.string ⟨zFL s.data.toList n⟩)∧Below w.heap.size w w':=by
 go_enter Tryz.func82,Tryz.ntmps82
 go_wp2_with fail
 refine (zDd s 31 n _ hs hn).mono ?_
 rintro r w1 ⟨rfl,hb⟩
 go_wp2
 go_ret
 exact ⟨rfl,hb⟩
end SP
namespace SP
open Go.RowKit Go.Sort Go.Deep
theorem refTag_any (label:ByteArray) (pa:Option Addr) (pcap:Nat) (ps:List ByteArray) (w:World) (hlab:label.size≤1048576) (hpl:ps.length≤1048576)
 (hP:ps.length=0∨∃ pb po,pa=some ⟨pb,po,none⟩∧∀ j,j<ps.length→w.cell? ⟨pb,po+j,none⟩=some (.string ps[j]!)) (hsz:∀ j,j<ps.length→(ps[j]!).size≤1048576)
 (htot:(zAM label.data.toList (ps.map fun s=>s.data.toList)).length≤1048576) :
 Calls Tryz.prog 83 #[.string label,.slice pa ps.length pcap] w fun e w'=>e=.returned (.string ⟨tagL label.data.toList (ps.map fun s=>s.data.toList)⟩)∧Below w.heap.size w w':=by
 obtain ⟨n,hn⟩:∃ n,ps.length=n:=⟨_,rfl⟩
 rw[hn]
 have Hn:Hid (ps.length=n):=hn
 have hn20:n≤1048576:=by omega
 clear hn
 go_enter Tryz.func83,Tryz.ntmps83
 go_wp2_with fail
 refine (Frame_any label _ hlab).mono ?_
 rintro e w1 ⟨o1,rfl,ho1,hb1⟩
 go_wp2
 go_loopg [5,6] n (fun g s5 s6 wr=>∃ (k:Nat) (o:ByteArray),k+g=n∧s6=.int .i64 k∧s5=.string o∧Below w.heap.size w wr∧Hid (o.data.toList=zAM label.data.toList ((ps.map fun s=>s.data.toList).take k)))
 case atStart =>
  refine ⟨0,o1,by omega,rfl,rfl,hb1,?_⟩
  rw[List.take_zero]
  unfold zAM
  rw[List.flatMap_nil,List.append_nil]
  exact ho1
 case round =>
  clear ho1 hb1
  obtain ⟨k,o,hk,rfl,rfl,hb,HE⟩:=hrel
  by_cases hlt:k<n
  · obtain ⟨pb,po,rfl,hPj⟩:∃ pb po,pa=some ⟨pb,po,none⟩∧∀ j,j<ps.length→w.cell? ⟨pb,po+j,none⟩=some (.string ps[j]!):=by
     rcases hP with h|h
     · have:=Hn.out;omega
     · exact h
    have hvc:=hPj k (by have:=Hn.out;omega)
    have hszk:=hsz k (by have:=Hn.out;omega)
    obtain ⟨s,hs⟩:∃ s,ps[k]! = s:=⟨_,rfl⟩
    rw[hs] at hvc hszk
    have HS:Hid (s=ps[k]!):=hs.symm
    have hvc':wr.cell? ⟨pb,po+k,none⟩=some (.string s):=by rw[hb.cell (p:=⟨pb,po+k,none⟩) (World.block_lt_of_cell? _ _ hvc)];exact hvc
    have l1:(k:Int)<(n:Int):=by omega
    clear hs hvc hPj
    go_wp2_with fail
    refine (Frame_any s _ hszk).mono ?_
    rintro e w2 ⟨o2,rfl,ho2,hb2⟩
    have HO2:Hid (o2.data.toList=zBL s.data.toList):=ho2
    have hos:o.size≤1048576:=by
     have h1:o.data.toList.length=o.size:=Array.length_toList
     rw[HE.out] at h1
     have:=framesL_take label.data.toList (ps.map fun s=>s.data.toList) k
     omega
    have ho2s:o2.size≤1048580:=by
     have h1:o2.data.toList.length=o2.size:=Array.length_toList
     have h2:s.data.toList.length=s.size:=Array.length_toList
     rw[ho2,zCd] at h1
     omega
    clear ho2
    go_wp2
    go_roundg (gk-1)
    case measure=>omega
    case rel =>
     refine ⟨k+1,o++o2,by omega,by go_num,rfl,hb.trans (hb2.mono hb.size),?_⟩
     have hkl:k<(ps.map fun s=>s.data.toList).length:=by rw[List.length_map];have:=Hn.out;omega
     have hkl2:k<ps.length:=by have:=Hn.out;omega
     rw[zCL _ k hkl,zDY,ByteArray.data_append,Array.toList_append,HE.out,HO2.out,getElem!_pos (ps.map fun s=>s.data.toList) k hkl,List.getElem_map,HS.out,getElem!_pos ps k hkl2]
     rfl
  · have l1:(n:Int)≤(k:Int):=by omega
    have HE2:Hid (o.data.toList=zAM label.data.toList (ps.map fun s=>s.data.toList)):=by
     have e1:(ps.map fun s=>s.data.toList).take k=ps.map fun s=>s.data.toList:=List.take_of_length_le (by rw[List.length_map];have:=Hn.out;omega)
     rw[e1] at HE
     exact HE
    have hos:o.size≤1048576:=by
     have h1:o.data.toList.length=o.size:=Array.length_toList
     rw[HE2.out] at h1
     omega
    clear HE
    go_wp2_with fail
    refine (refHash_any o _ hos).mono ?_
    rintro e w3 ⟨rfl,hb3⟩
    rw[HE2.out]
    go_wp2
    go_ret
    exact ⟨rfl,hb.trans (hb3.mono hb.size)⟩
end SP
namespace SP
open Go.RowKit Go.Sort Go.Deep
def RLog (w:World) (y:Nat) (L:Bs):Prop:=w.cell? ⟨y,0,none⟩=some (.string ⟨L⟩)∧w.frozen? ⟨y,0,none⟩=false
theorem strs_new (W:World) (vs:Array Value) (ps:List ByteArray) (t:TypeId) (hl:vs.size=ps.length) (h:∀ j,j<ps.length→vs[j]! = .string ps[j]!) :
 ∀ j,j<ps.length→(W.alloc (.cells vs t)).cell? ⟨W.heap.size,0+j,none⟩=some (.string ps[j]!):=by
 intro j hj
 have e0:vs.map encV=vs:=by
  have:encV=id:=rfl
  rw[this,Array.map_id]
 have:=(Holds.new (enc:=encV) W t vs j (by omega)).1
 rw[e0,h j hj] at this
 exact this
theorem frames_small (label:List UInt8) (ps:List (List UInt8)) (M:Nat) (hl:label.length≤M) (hp:∀ p∈ps,p.length≤M):(zAM label ps).length≤(ps.length+1)*(M+4):=by
 unfold zAM
 rw[List.length_append,zCd]
 have:(ps.flatMap zBL).length≤ps.length*(M+4):=by
  induction ps with
  | nil=>simp
  | cons p ps ih =>
   rw[List.flatMap_cons,List.length_append,zCd,List.length_cons,Nat.succ_mul]
   have h1:=hp p (List.mem_cons_self ..)
   have h2:=ih (fun q hq=>hp q (List.mem_cons_of_mem _ hq))
   omega
 rw[Nat.succ_mul]
 omega
theorem zDB (lab:ByteArray) (vs:Array Value) (ps:List ByteArray) (n:Nat) (W:World) (hn:ps.length=n) (hv:vs.size=ps.length) (h:∀ j,j<ps.length→vs[j]! = .string ps[j]!) (hlab:lab.size≤16384) (h64:n≤8) (hs:∀ p∈ps,p.size≤16384) :
 Calls Tryz.prog 83 #[.string lab,.slice (some ⟨W.heap.size,0,none⟩) n n] (W.alloc (.cells vs 9)) fun e w'=>e=.returned (.string ⟨tagL lab.data.toList (ps.map fun s=>s.data.toList)⟩)∧Below (W.alloc (.cells vs 9)).heap.size (W.alloc (.cells vs 9)) w':=by
 subst hn
 refine refTag_any lab (some ⟨W.heap.size,0,none⟩) ps.length ps (W.alloc (.cells vs 9)) (by omega) (by omega) (Or.inr ⟨W.heap.size,0,rfl,strs_new W vs ps 9 hv h⟩) (fun j hj=>?_) ?_
 · rw[getElem!_pos ps j hj]
   have:=hs _ (List.getElem_mem hj)
   omega
 · have:=frames_small lab.data.toList (ps.map fun s=>s.data.toList) 16384 (by rw[Array.length_toList];exact hlab) (fun p hp=>by
    obtain ⟨s,h1,rfl⟩:=List.mem_map.1 hp
    rw[Array.length_toList]
    exact hs s h1)
   rw[List.length_map] at this
   have h2:(ps.length+1)*(16384+4)≤9*(16384+4):=Nat.mul_le_mul_right _ (by omega)
   omega
theorem rlog_new (w:World) (t:TypeId) (N:Bs):RLog (w.alloc (.cells #[.string ⟨N⟩] t)) w.heap.size N:=by
 have:=Holds.new (enc:=encV) w t #[.string ⟨N⟩] 0 (by simp)
 have e0:(#[Value.string ⟨N⟩]).map encV=#[Value.string ⟨N⟩]:=by
  have:encV=id:=rfl
  rw[this,Array.map_id]
 rw[e0] at this
 exact ⟨this.1,this.2⟩
theorem refNew_any (label:ByteArray) (w:World) (hlab:label.size≤16384) :
 Calls Tryz.prog 52 #[.string label] w fun e w'=>∃ y,e=.returned (.pointer (some ⟨y,0,none⟩))∧w.heap.size≤y∧Below w.heap.size w w'∧RLog w' y (newL label.data.toList):=by
 have hT:=zDB ⟨#[108,111,103]⟩ #[.string label] [label] 1 w rfl rfl (fun j hj=>by
  have hj0:j=0:=by simpa using hj
  subst hj0
  rfl) (by decide) (by decide) (fun p hp=>by
  have:p=label:=by simpa using hp
  rw[this];exact hlab)
 go_enter Tryz.func52,Tryz.ntmps52
 go_wp2_with fail
 refine hT.mono ?_
 rintro e w2 ⟨rfl,hb2⟩
 have hN:tagL (⟨#[108,111,103]⟩:ByteArray).data.toList ([label].map fun s=>s.data.toList)=newL label.data.toList:=rfl
 rw[hN]
 obtain ⟨N,hNe⟩:∃ N,newL label.data.toList=N:=⟨_,rfl⟩
 rw[hNe]
 have HN:Hid (N=newL label.data.toList):=hNe.symm
 clear hNe hN hT
 have hb2':Below w.heap.size w w2:=((Below.refl _ _).alloc (Nat.le_refl _) _).trans (hb2.mono (by simp))
 have hs2:=hb2'.size
 go_wp2
 go_ret
 rw[← HN.out]
 exact ⟨w2.heap.size,rfl,by omega,hb2'.alloc (by omega) _,rlog_new _ _ _⟩
theorem RLog.lt {w:World} {y:Nat} {L:Bs} (h:RLog w y L):y<w.heap.size:=World.block_lt_of_cell? _ _ h.1
theorem RLog.below {w w1:World} {y:Nat} {L:Bs} (h:RLog w y L) (k:Below w.heap.size w w1):RLog w1 y L:=by
 have h2:=(Only.of_below (b:=w.heap.size) (off:=0) (n:=0) (B:=w.heap.size) k rfl)
 have hy:=h.lt
 have e:=k.block y hy
 unfold RLog World.cell? World.frozen? at *
 simp only at *
 rw[e]
 exact h
theorem RLog.set {w:World} {y:Nat} {L:Bs} (h:RLog w y L) (M:Bs):RLog (w.setCell ⟨y,0,none⟩ (.string ⟨M⟩)) y M:=by
 have h1:Holds encV w y 0 #[.string ⟨L⟩]:=by
  intro j hj
  have hj0:j=0:=by simpa using hj
  subst hj0
  exact ⟨h.1,h.2⟩
 have:=Holds.set h1 (i:=0) (by simp) (.string ⟨M⟩)
 have h2:=this 0 (by simp)
 simp only[Nat.add_zero] at h2
 exact ⟨by simpa[encV] using h2.1,h2.2⟩
theorem zDC (y:Nat) (L:Bs) (label text:ByteArray) (w:World) (hlab:label.size≤16384) (ht:text.size≤16384) (hl:L.size=32) (hL:RLog w y L) :
 Calls Tryz.prog 53 #[.pointer (some ⟨y,0,none⟩),.string label,.string text] w fun e w'=>e=.returned (.tuple #[])∧Only y 0 1 w w'∧RLog w' y (sayL L label.data.toList text.data.toList):=by
 have hy:=hL.lt
 have hT:=zDB ⟨#[115,97,121]⟩ #[.string ⟨L⟩,.string label,.string text] [⟨L⟩,label,text] 3 w rfl rfl (fun j hj=>by
  have hj3:j<3:=hj
  match j,hj3 with
  | 0,_=>rfl
  | 1,_=>rfl
  | 2,_=>rfl) (by decide) (by decide) (fun p hp=>by
  simp only[List.mem_cons,List.not_mem_nil,or_false] at hp
  rcases hp with rfl|rfl|rfl
  · show L.size≤16384;omega
  · exact hlab
  · exact ht)
 obtain ⟨N,hNe⟩:∃ N,sayL L label.data.toList text.data.toList=N:=⟨_,rfl⟩
 have hT':Calls Tryz.prog 83 #[.string ⟨#[115,97,121]⟩,.slice (some ⟨w.heap.size,0,none⟩) 3 3] (w.alloc (.cells #[.string ⟨L⟩,.string label,.string text] 9)) fun e w'=>e=.returned (.string ⟨N⟩)∧Below (w.alloc (.cells #[.string ⟨L⟩,.string label,.string text] 9)).heap.size (w.alloc (.cells #[.string ⟨L⟩,.string label,.string text] 9)) w':=by
  rw[← hNe];exact hT
 rw[hNe]
 have HT:Hid (Calls Tryz.prog 83 #[.string ⟨#[115,97,121]⟩,.slice (some ⟨w.heap.size,0,none⟩) 3 3] (w.alloc (.cells #[.string ⟨L⟩,.string label,.string text] 9)) fun e w'=>e=.returned (.string ⟨N⟩)∧Below (w.alloc (.cells #[.string ⟨L⟩,.string label,.string text] 9)).heap.size (w.alloc (.cells #[.string ⟨L⟩,.string label,.string text] 9)) w'):=hT'
 have hb1:Below w.heap.size w (w.alloc (.cells #[.string ⟨L⟩,.string label,.string text] 9)):=(Below.refl _ _).alloc (Nat.le_refl _) _
 obtain ⟨c0,f0⟩:=hL
 clear hT hT' hNe
 go_enter Tryz.func53,Tryz.ntmps53
 go_wp2_with fail
 refine (HT.out).mono ?_
 rintro e w2 ⟨rfl,hb2⟩
 have hb2':Below w.heap.size w w2:=hb1.trans (hb2.mono hb1.size)
 have hL2:=RLog.below ⟨c0,f0⟩ hb2'
 have hO2:Only y 0 1 w w2:=Only.of_below hb2' rfl hy
 obtain ⟨c2,f2⟩:=hL2
 clear HT hb1 hb2 c0 f0
 go_wp2
 go_end0
 exact ⟨rfl,hO2.setCell (by omega) (by omega) _,RLog.set ⟨c2,f2⟩ N⟩
theorem refTag2 (lab:ByteArray) (hlab:lab.size≤16384) (L:Bs) (hl:L.size=32) (label:ByteArray) (hs:label.size≤16384) (w:World) :
 Calls Tryz.prog 83 #[.string lab,.slice (some ⟨w.heap.size,0,none⟩) 2 2] (w.alloc (.cells #[.string ⟨L⟩,.string label] 9)) fun e w'=>e=.returned (.string ⟨tagL lab.data.toList [L.toList,label.data.toList]⟩)∧Below (w.alloc (.cells #[.string ⟨L⟩,.string label] 9)).heap.size (w.alloc (.cells #[.string ⟨L⟩,.string label] 9)) w':=
 zDB lab #[.string ⟨L⟩,.string label] [⟨L⟩,label] 2 w rfl rfl (fun j hj=>by
  have hj3:j<2:=hj
  match j,hj3 with
  | 0,_=>rfl
  | 1,_=>rfl) hlab (by decide) (fun p hp=>by
  simp only[List.mem_cons,List.not_mem_nil,or_false] at hp
  rcases hp with rfl|rfl
  · show L.size≤16384;omega
  · exact hs)
theorem refAsk_any (y:Nat) (L:Bs) (label:ByteArray) (n:Nat) (w:World) (hlab:label.size≤16384) (hn:n≤1024) (hl:L.size=32) (hL:RLog w y L) :
 Calls Tryz.prog 56 #[.pointer (some ⟨y,0,none⟩),.string label,.int .i64 (n:Int)] w fun e w'=>e=.returned (.string ⟨askL L label.data.toList n⟩)∧Only y 0 1 w w'∧RLog w' y (askedL L label.data.toList):=by
 have hy:=hL.lt
 have hT:=refTag2 ⟨#[97,115,107]⟩ (by decide) L hl label hlab w
 obtain ⟨T,hTe⟩:∃ T,tagL [97,115,107] [L.toList,label.data.toList]=T:=⟨_,rfl⟩
 have hTs:T.size=32:=by rw[← hTe,zBS]
 obtain ⟨N,hNe⟩:∃ N,askedL L label.data.toList=N:=⟨_,rfl⟩
 obtain ⟨A,hAe⟩:∃ A,askL L label.data.toList n=A:=⟨_,rfl⟩
 have HA:Hid (zFL T.toList n=A):=by
  show _=_
  rw[← hAe,← hTe]
  rfl
 have HN:Hid (tagL [97,115,107,101,100] [L.toList,label.data.toList]=N):=hNe
 have HT:Hid (Calls Tryz.prog 83 #[.string ⟨#[97,115,107]⟩,.slice (some ⟨w.heap.size,0,none⟩) 2 2] (w.alloc (.cells #[.string ⟨L⟩,.string label] 9)) fun e w'=>e=.returned (.string ⟨T⟩)∧Below (w.alloc (.cells #[.string ⟨L⟩,.string label] 9)).heap.size (w.alloc (.cells #[.string ⟨L⟩,.string label] 9)) w'):=by
  show Calls _ _ _ _ _
  rw[← hTe];exact hT
 rw[hNe,hAe]
 have hb1:Below w.heap.size w (w.alloc (.cells #[.string ⟨L⟩,.string label] 9)):=(Below.refl _ _).alloc (Nat.le_refl _) _
 obtain ⟨c0,f0⟩:=hL
 clear hT hNe hAe hTe
 go_enter Tryz.func56,Tryz.ntmps56
 go_wp2_with fail
 refine (HT.out).mono ?_
 rintro e w2 ⟨rfl,hb2⟩
 have hb2':Below w.heap.size w w2:=hb1.trans (hb2.mono hb1.size)
 clear HT hb1 hb2
 go_wp2_with fail
 refine (zFR ⟨T⟩ n _ (by show T.size≤1048576;omega) (by omega)).mono ?_
 rintro e w3 ⟨rfl,hb3⟩
 have hAA:zFL (⟨T⟩:ByteArray).data.toList n=A:=HA.out
 rw[hAA]
 have hb3':Below w.heap.size w w3:=hb2'.trans (hb3.mono hb2'.size)
 have hL3:=RLog.below ⟨c0,f0⟩ hb3'
 have hO3:Only y 0 1 w w3:=Only.of_below hb3' rfl hy
 have hy3:=hL3.lt
 obtain ⟨c3,f3⟩:=hL3
 have hT4:=refTag2 ⟨#[97,115,107,101,100]⟩ (by decide) L hl label hlab w3
 have HT4:Hid (Calls Tryz.prog 83 #[.string ⟨#[97,115,107,101,100]⟩,.slice (some ⟨w3.heap.size,0,none⟩) 2 2] (w3.alloc (.cells #[.string ⟨L⟩,.string label] 9)) fun e w'=>e=.returned (.string ⟨N⟩)∧Below (w3.alloc (.cells #[.string ⟨L⟩,.string label] 9)).heap.size (w3.alloc (.cells #[.string ⟨L⟩,.string label] 9)) w'):=by
  show Calls _ _ _ _ _
  rw[← HN.out];exact hT4
 have hb4:Below w3.heap.size w3 (w3.alloc (.cells #[.string ⟨L⟩,.string label] 9)):=(Below.refl _ _).alloc (Nat.le_refl _) _
 clear c0 f0 hT4 hb2' hb3 hb3' hAA HA HN
 go_wp2_with fail
 refine (HT4.out).mono ?_
 rintro e w5 ⟨rfl,hb5⟩
 have hb5':Below w3.heap.size w3 w5:=hb4.trans (hb5.mono hb4.size)
 have hL5:=RLog.below ⟨c3,f3⟩ hb5'
 have hO5:Only y 0 1 w w5:=hO3.trans (Only.of_below hb5' rfl hy3)
 obtain ⟨c5,f5⟩:=hL5
 clear c3 f3 HT4 hb4 hb5 hb5' hO3
 go_wp2
 go_ret
 exact ⟨rfl,hO5.setCell (by omega) (by omega) _,RLog.set ⟨c5,f5⟩ N⟩
end SP
section
open Go.RowKit Go.Sort Go.Deep
variable {P:Nat} [NeZero P] {N:Nat}
theorem zF3 {w W:World} {k0 k1 k7 p0 p1 p2 p3 c0 c1 c2 c3 x0 x1 x2 x3 x4 x5 x6 x7:Nat} (h:Kept w k0 [⟨k0,0,p0,p1,p2,p3⟩,⟨k0,4,c0,c1,c2,c3⟩,⟨k7,0,x0,x1,x2,x3⟩,⟨k7,4,x4,x5,x6,x7⟩,⟨k1,0,0,0,0,0⟩] W):W.cell? ⟨k0,0,none⟩=some (.int .u64 (p0:Int))∧W.cell? ⟨k0,1,none⟩=some (.int .u64 (p1:Int))∧W.cell? ⟨k0,2,none⟩=some (.int .u64 (p2:Int))∧W.cell? ⟨k0,3,none⟩=some (.int .u64 (p3:Int))∧W.cell? ⟨k0,4,none⟩=some (.int .u64 (c0:Int))∧W.cell? ⟨k0,5,none⟩=some (.int .u64 (c1:Int))∧W.cell? ⟨k0,6,none⟩=some (.int .u64 (c2:Int))∧W.cell? ⟨k0,7,none⟩=some (.int .u64 (c3:Int))∧W.cell? ⟨k7,0,none⟩=some (.int .u64 (x0:Int))∧W.cell? ⟨k7,1,none⟩=some (.int .u64 (x1:Int))∧W.cell? ⟨k7,2,none⟩=some (.int .u64 (x2:Int))∧W.cell? ⟨k7,3,none⟩=some (.int .u64 (x3:Int))∧W.cell? ⟨k7,4,none⟩=some (.int .u64 (x4:Int))∧W.cell? ⟨k7,5,none⟩=some (.int .u64 (x5:Int))∧W.cell? ⟨k7,6,none⟩=some (.int .u64 (x6:Int))∧W.cell? ⟨k7,7,none⟩=some (.int .u64 (x7:Int))∧Kept w k0 [⟨k0,0,p0,p1,p2,p3⟩,⟨k0,4,c0,c1,c2,c3⟩,⟨k7,0,x0,x1,x2,x3⟩,⟨k7,4,x4,x5,x6,x7⟩,⟨k1,0,0,0,0,0⟩] W:=
 ⟨h.head.c0,h.head.c1,h.head.c2,h.head.c3,h.tail.head.c0,h.tail.head.c1,h.tail.head.c2,h.tail.head.c3,h.tail.tail.head.c0,h.tail.tail.head.c1,h.tail.tail.head.c2,h.tail.tail.head.c3,h.tail.tail.tail.head.c0,h.tail.tail.tail.head.c1,h.tail.tail.tail.head.c2,h.tail.tail.tail.head.c3,h⟩
theorem mod_bound {v:Value} {n B:Nat} (hF:Four v n) (hB:B<256):n*val 256 0 0 0+(val B 0 0 0+top*val 0 0 0 0)<top*top:=by
 have h1:=hF.lt
 have e1:val 256 0 0 0=256:=rfl
 have e2:val B 0 0 0=B:=by unfold val;omega
 have e3:val 0 0 0 0=0:=rfl
 have h2:n*256≤(top-1)*256:=Nat.mul_le_mul_right _ (by omega)
 have h3:(top-1)*256+256≤top*top:=by unfold top;decide
 rw[e1,e2,e3]
 omega
theorem mod_step (P:Nat) (s:ByteArray) (k:Nat) (hk:k<s.size) :
 (beV (s.data.extract 0 k).toList%P*val 256 0 0 0+(val s[k].toNat 0 0 0+top*val 0 0 0 0))%P=beV (s.data.extract 0 (k+1)).toList%P:=by
 have e:(s.data.extract 0 (k+1)).toList=(s.data.extract 0 k).toList++[s[k]]:=by
  rw[Array.extract_succ_right (by omega) hk,Array.toList_push]
  rfl
 have e1:val 256 0 0 0=256:=rfl
 have e2:val s[k].toNat 0 0 0=s[k].toNat:=by unfold val;omega
 have e3:val 0 0 0 0=0:=rfl
 rw[e,zBg,e1,e2,e3,Nat.mul_zero,Nat.add_zero,Nat.add_mod,Nat.mul_mod,Nat.mod_mod,← Nat.mul_mod,← Nat.add_mod]
 simp[beV]
theorem rMod_any (p0 p1 p2 p3 c0 c1 c2 c3 P:Nat) (s:ByteArray) (hR:RefP p0 p1 p2 p3 c0 c1 c2 c3 P) (hs:s.size≤1048576) (w:World) :
 Calls Tryz.prog 55 #[.agg #[.int .u64 (p0:Int),.int .u64 (p1:Int),.int .u64 (p2:Int),.int .u64 (p3:Int),.int .u64 (c0:Int),.int .u64 (c1:Int),.int .u64 (c2:Int),.int .u64 (c3:Int)],.string s] w (Ret fun e w'=>Below w.heap.size w w'∧Four e (beV s.data.toList%P)):=by
 have HR:Hid (RefP p0 p1 p2 p3 c0 c1 c2 c3 P):=hR
 clear hR
 go_enter Tryz.func55,Tryz.ntmps55
 go_wp2
 have FR:=((At8.made w 68 p0 p1 p2 p3 c0 c1 c2 c3 rfl).alloc (.cells #[.int .u64 0,.int .u64 0,.int .u64 0,.int .u64 0] 64)).alloc (.cells #[.int .u64 0,.int .u64 0,.int .u64 0,.int .u64 0] 64)
 have RE:=(At4.made (w.alloc (.cells #[.int .u64 (p0:Int),.int .u64 (p1:Int),.int .u64 (p2:Int),.int .u64 (p3:Int),.int .u64 (c0:Int),.int .u64 (c1:Int),.int .u64 (c2:Int),.int .u64 (c3:Int)] 68)) 64 0 0 0 0 (World.size_alloc _ _)).alloc (.cells #[.int .u64 0,.int .u64 0,.int .u64 0,.int .u64 0] 64)
 have NN:=At4.made ((w.alloc (.cells #[.int .u64 (p0:Int),.int .u64 (p1:Int),.int .u64 (p2:Int),.int .u64 (p3:Int),.int .u64 (c0:Int),.int .u64 (c1:Int),.int .u64 (c2:Int),.int .u64 (c3:Int)] 68)).alloc (.cells #[.int .u64 0,.int .u64 0,.int .u64 0,.int .u64 0] 64)) 64 0 0 0 0 (k:=w.heap.size+1+1) (by simp)
 have KP:=((((Kept.mk1 (below3 w (.cells #[.int .u64 (p0:Int),.int .u64 (p1:Int),.int .u64 (p2:Int),.int .u64 (p3:Int),.int .u64 (c0:Int),.int .u64 (c1:Int),.int .u64 (c2:Int),.int .u64 (c3:Int)] 68) (.cells #[.int .u64 0,.int .u64 0,.int .u64 0,.int .u64 0] 64) (.cells #[.int .u64 0,.int .u64 0,.int .u64 0,.int .u64 0] 64)) (below3 w (.cells #[.int .u64 (p0:Int),.int .u64 (p1:Int),.int .u64 (p2:Int),.int .u64 (p3:Int),.int .u64 (c0:Int),.int .u64 (c1:Int),.int .u64 (c2:Int),.int .u64 (c3:Int)] 68) (.cells #[.int .u64 0,.int .u64 0,.int .u64 0,.int .u64 0] 64) (.cells #[.int .u64 0,.int .u64 0,.int .u64 0,.int .u64 0] 64)).size).cons RE.blk).cons NN.blk).cons (x:=⟨w.heap.size,4,c0,c1,c2,c3⟩) ⟨FR.c4,FR.c5,FR.c6,FR.c7,FR.fz⟩).cons (x:=⟨w.heap.size,0,p0,p1,p2,p3⟩) ⟨FR.c0,FR.c1,FR.c2,FR.c3,FR.fz⟩
 clear FR RE NN
 generalize World.alloc _ _=W0 at KP ⊢
 go_loopg [6] s.size (fun gk s6 wr=>∃ (k a b c d:Nat),k+gk=s.size∧s6=.int .i64 (k:Int)∧Kept w w.heap.size [⟨w.heap.size,0,p0,p1,p2,p3⟩,⟨w.heap.size,4,c0,c1,c2,c3⟩,⟨w.heap.size+1+1,0,a,b,c,d⟩,⟨w.heap.size+1,0,0,0,0,0⟩] wr ∧
  Hid (Four (.agg #[.int .u64 (a:Int),.int .u64 (b:Int),.int .u64 (c:Int),.int .u64 (d:Int)]) (beV (s.data.extract 0 k).toList%P)))
 case atStart =>
  refine ⟨0,0,0,0,0,Nat.zero_add _,rfl,KP,?_⟩
  have:beV (s.data.extract 0 0).toList=0:=by simp[beV]
  rw[this,Nat.zero_mod]
  exact Four.mk (by decide) (by decide) (by decide) (by decide) rfl
 case round =>
  clear KP
  obtain ⟨k,a,b,c,d,hk,rfl,KP,HF⟩:=hrel
  generalize h2:w.heap.size+1+1=k2 at KP ⊢
  generalize h1:w.heap.size+1=k1 at KP ⊢
  have H:Hid (w.heap.size+1=k1∧w.heap.size+1+1=k2):=⟨h1,h2⟩
  have Q1:Hid (w.heap.size≤k1):=by unfold Hid;omega
  have Q2:Hid (w.heap.size≤k2):=by unfold Hid;omega
  have n12:k2≠k1:=by omega
  have n02:k2≠w.heap.size:=by omega
  generalize h0:w.heap.size=k0 at KP Q1 Q2 n02 ⊢
  have H0:Hid (w.heap.size=k0):=h0
  clear h0 h1 h2
  obtain ⟨nc0,nc1,nc2,nc3,nf⟩:=KP.tail.tail.head.at4
  have z2:=KP.tail.tail.head.lt
  by_cases hlt:k<s.size
  · have hlt':(k:Int)<(s.size:Int):=by omega
    go_wp2_with fail
    refine (zCm _ _ _ _ HF.out (Four.mk (a:=256) (b:=0) (c:=0) (d:=0) (by decide) (by decide) (by decide) (by decide) rfl) _).mono ?_
    rintro r w1 ⟨v,rfl,hb1,hE1⟩
    obtain ⟨x0,x1,x2,x3,x4,x5,x6,x7,rfl,hx0,hx1,hx2,hx3,hx4,hx5,hx6,hx7,hxe⟩:=id hE1
    clear hxe nc0 nc1 nc2 nc3 nf z2
    replace KP:=KP.call hb1
    clear hb1
    have A7:=At8.made w1 137 x0 x1 x2 x3 x4 x5 x6 x7 rfl
    have T2:=KP.tail.tail.head.at4.alloc (.cells #[.int .u64 (x0:Int),.int .u64 (x1:Int),.int .u64 (x2:Int),.int .u64 (x3:Int),.int .u64 (x4:Int),.int .u64 (x5:Int),.int .u64 (x6:Int),.int .u64 (x7:Int)] 137)
    have KP7:Kept w k0 [⟨k0,0,p0,p1,p2,p3⟩,⟨k0,4,c0,c1,c2,c3⟩,⟨w1.heap.size,0,x0,x1,x2,x3⟩,⟨w1.heap.size,4,x4,x5,x6,x7⟩,⟨k1,0,0,0,0,0⟩] _:=
     ((((KP.alloc _).tail.tail.tail.cons (x:=⟨w1.heap.size,4,x4,x5,x6,x7⟩) ⟨A7.c4,A7.c5,A7.c6,A7.c7,A7.fz⟩).cons (x:=⟨w1.heap.size,0,x0,x1,x2,x3⟩) ⟨A7.c0,A7.c1,A7.c2,A7.c3,A7.fz⟩).cons (x:=⟨k0,4,c0,c1,c2,c3⟩) (KP.alloc _).tail.head).cons (x:=⟨k0,0,p0,p1,p2,p3⟩) (KP.alloc _).head
    have n72:k2≠w1.heap.size:=Nat.ne_of_lt KP.tail.tail.head.lt
    clear A7 KP
    have KP:=KP7
    clear KP7
    have z0:=KP.head.lt
    go_wp2_with fail
    generalize World.alloc _ _=W7 at KP T2 ⊢
    generalize w1.heap.size=k7 at KP n72 ⊢
    have hl2:∀ x∈([⟨k0,0,p0,p1,p2,p3⟩,⟨k0,4,c0,c1,c2,c3⟩,⟨k7,0,x0,x1,x2,x3⟩,⟨k7,4,x4,x5,x6,x7⟩,⟨k1,0,0,0,0,0⟩]:List Blk),k2≠x.k:=by simp only[List.mem_cons,List.not_mem_nil,or_false];rintro x (rfl|rfl|rfl|rfl|rfl);exact n02;exact n02;exact n72;exact n72;exact n12
    have HE1:Hid (zD3 _ _):=hE1
    obtain ⟨B,hB⟩:∃ B,s[k].toNat=B:=⟨_,rfl⟩
    have hB256:B<256:=hB ▸ s[k].toNat_lt
    have hsb:IntKind.u64.wrap (s[k].toNat:Int)=(B:Int):=by rw[hB];exact wrapN _ (by omega)
    have HFX:Hid _:=mod_step P s k hlt
    have HB:Hid (s[k].toNat=B):=hB
    clear hE1 hB z0
    obtain ⟨tc0,tc1,tc2,tc3,tf⟩:=id T2
    have zt:=T2.lt
    go_region_held3 (fun w'=>w'.cell? ⟨k0,0,none⟩=some (.int .u64 (p0:Int))∧w'.cell? ⟨k0,1,none⟩=some (.int .u64 (p1:Int))∧w'.cell? ⟨k0,2,none⟩=some (.int .u64 (p2:Int))∧w'.cell? ⟨k0,3,none⟩=some (.int .u64 (p3:Int))∧w'.cell? ⟨k0,4,none⟩=some (.int .u64 (c0:Int))∧w'.cell? ⟨k0,5,none⟩=some (.int .u64 (c1:Int))∧w'.cell? ⟨k0,6,none⟩=some (.int .u64 (c2:Int))∧w'.cell? ⟨k0,7,none⟩=some (.int .u64 (c3:Int))∧w'.cell? ⟨k7,0,none⟩=some (.int .u64 (x0:Int))∧w'.cell? ⟨k7,1,none⟩=some (.int .u64 (x1:Int))∧w'.cell? ⟨k7,2,none⟩=some (.int .u64 (x2:Int))∧w'.cell? ⟨k7,3,none⟩=some (.int .u64 (x3:Int))∧w'.cell? ⟨k7,4,none⟩=some (.int .u64 (x4:Int))∧w'.cell? ⟨k7,5,none⟩=some (.int .u64 (x5:Int))∧w'.cell? ⟨k7,6,none⟩=some (.int .u64 (x6:Int))∧w'.cell? ⟨k7,7,none⟩=some (.int .u64 (x7:Int))∧Kept w k0 [⟨k0,0,p0,p1,p2,p3⟩,⟨k0,4,c0,c1,c2,c3⟩,⟨k7,0,x0,x1,x2,x3⟩,⟨k7,4,x4,x5,x6,x7⟩,⟨k1,0,0,0,0,0⟩] w') (first|(with_reducible exact zF3 KP)|(with_reducible exact zF3 KP.drew)|(with_reducible exact zF3 (KP.set4' Q2.out hl2 _ _ _ _))|(with_reducible exact zF3 (KP.set4' Q2.out hl2 _ _ _ _).drew)|fail) (first|(go_at_call 90;refine (zEo _ _ _ _ HE1.out ⟨B,0,0,0,0,0,0,0,rfl,by omega,by decide,by decide,by decide,by decide,by decide,by decide,by decide,rfl⟩ (mod_bound HF.out hB256) _).mono ?_;rintro r w2 ⟨v,rfl,hb2,hE2⟩;obtain ⟨y0,y1,y2,y3,y4,y5,y6,y7,rfl,hy0,hy1,hy2,hy3,hy4,hy5,hy6,hy7,hye⟩:=id hE2;clear hye;have HE2:Hid (zD3 _ _):=hE2;clear hE2;have KP1:=KP.drew.call hb2;have T1:=T2.drew.call hb2;clear KP T2 hb2;have KP:=KP1;have T2:=T1;clear KP1 T1;obtain ⟨tc0,tc1,tc2,tc3,tf⟩:=id T2;have zt:=T2.lt)|(go_at_call 89;refine (zEv p0 p1 p2 p3 c0 c1 c2 c3 P _ _ HR.out.hp0 HR.out.hp1 HR.out.hp2 HR.out.hp3 HR.out.hc0 HR.out.hc1 HR.out.hc2 HR.out.hc3 HR.out.eP HR.out.hP HR.out.hP2 HE2.out _).mono ?_;rintro r w3 ⟨v,rfl,hb3,hF3⟩;obtain ⟨a',b',c',d',rfl,ha',hb',hc',hd',es3⟩:=id hF3;clear es3;have HF3:Hid (Four _ _):=hF3;clear hF3;have KP1:=KP.call hb3;have T1:=T2.call hb3;clear KP T2 hb3;have KP:=KP1;have T2:=T1;clear KP1 T1;obtain ⟨tc0,tc1,tc2,tc3,tf⟩:=id T2;have zt:=T2.lt))
    go_wp2
    obtain ⟨q1,q2⟩:=H.out
    have q0:=H0.out
    subst q1 q2 q0
    go_roundg (gk-1)
    case measure=>omega
    case rel =>
     refine ⟨k+1,a',b',c',d',by omega,rfl,?_,?_⟩
     · have K3:=KP.set4' Q2.out hl2 (.int .u64 (a':Int)) (.int .u64 (b':Int)) (.int .u64 (c':Int)) (.int .u64 (d':Int))
       exact (((K3.tail.tail.tail.tail).cons (T2.self4 a' b' c' d').blk).cons K3.tail.head).cons K3.head
     · have h1:=HF3.out
       rw[HB.out] at HFX
       unfold Hid
       rw[← HFX.out]
       exact h1
  · have hk2:k=s.size:=by omega
    have hge:¬ ((k:Int)<(s.size:Int)):=by omega
    obtain ⟨rc0,rc1,rc2,rc3,rf⟩:=KP.tail.tail.tail.head.at4
    have z1:=KP.tail.tail.tail.head.lt
    have HK:Hid (k=s.size):=hk2
    clear hk2
    go_wp2
    have RF:=KP.tail.tail.tail.head.at4.self4 a b c d
    unfold set4 at RF
    refine bodyPost_ret (v:=?v) ?hr rfl ?hR
    case hr=>simp[results,Tryz.results55,go_sem,RF.c0,RF.c1,RF.c2,RF.c3];rfl
    refine ⟨_,rfl,?_,?_⟩
    · rw[H0.out]
      exact zAc KP.bl Q1.out _ _ _ _
    · have:=HF.out
      rw[HK.out,show s.size=s.data.size from rfl,Array.extract_size] at this
      exact this
end
section
open Go.RowKit Go.Sort
variable {P:Nat} [NeZero P] {N:Nat}
def rl0:List Value:=[.int .u64 18446744069414583343,.int .u64 18446744073709551615,.int .u64 18446744073709551615,.int .u64 18446744073709551615,.int .u64 4294968273,.int .u64 0,.int .u64 0,.int .u64 0]
def rv0:Value:=.agg rl0.toArray
structure Fl3 (P:Nat) [NeZero P]:Prop extends Fld P where
 ref:RefP 18446744069414583343 18446744073709551615 18446744073709551615 18446744073709551615 4294968273 0 0 0 P
theorem rMake_c:Gives 81 #[.int .i64 0] rv0:=fun w=>(rMake0 w).mono (by rintro e w' ⟨v,rfl,hb,rfl⟩;exact ⟨_,rfl,hb,rfl⟩)
theorem zEw (h:Fl3 P) (x y:Fin P):Gives 37 #[rv0,fv x,fv y] (fv (x+y)):=fun w =>
 (rAdd_R h.ref (h.four x) (h.four y) w).mono (by rintro e w' ⟨v,rfl,hb,hF⟩;exact ⟨_,rfl,hb,hF.nv⟩)
theorem zAr (h:Fl3 P) (x y:Fin P):Gives 38 #[rv0,fv x,fv y] (fv (x*y)):=fun w =>
 (rMul_R h.ref (h.four x) (h.four y) w).mono (by rintro e w' ⟨v,rfl,hb,hF⟩;exact ⟨_,rfl,hb,hF.nv⟩)
theorem zDf (h:Fl3 P) (x y:Fin P):Gives 94 #[rv0,fv x,fv y] (fv (x-y)):=fun w =>
 (rSub_any _ _ _ _ _ _ _ _ P _ _ x.val y.val h.ref (h.four x) (h.four y) y.isLt w).mono (by rintro e w' ⟨v,rfl,hb,hF⟩;rw[zCQ] at hF;exact ⟨_,rfl,hb,hF.nv⟩)
theorem rNeg_c (h:Fl3 P) (x:Fin P):Gives 108 #[rv0,fv x] (fv (0-x)):=fun w =>
 (zFX _ _ _ _ _ _ _ _ P _ x.val h.ref (h.four x) x.isLt w).mono (by
  rintro e w' ⟨v,rfl,hb,hF⟩
  rw[show (P-x.val)%P=(0-x:Fin P).val by rw[← zCQ,EC.val_zero,Nat.zero_add]] at hF
  exact ⟨_,rfl,hb,hF.nv⟩)
theorem rZero_t (h:Fl3 P) {x:Fin P} (e:x=0):Gives 80 #[fv x] (.bool true):=fun w =>
 (zEt _ _ (h.four x) w).mono (by
  rintro e w' ⟨v,rfl,hb,rfl⟩
  refine ⟨_,rfl,hb,?_⟩
  rw[decide_eq_true (by rw[e,EC.val_zero])])
theorem rZero_f (h:Fl3 P) {x:Fin P} (e:¬ x=0):Gives 80 #[fv x] (.bool false):=fun w =>
 (zEt _ _ (h.four x) w).mono (by
  rintro e w' ⟨v,rfl,hb,rfl⟩
  refine ⟨_,rfl,hb,?_⟩
  rw[decide_eq_false (fun h=>e (Fin.ext (by rw[EC.val_zero];exact h)))])
theorem zEu (h:Fl3 P):Gives 102 #[.int .u64 1] (fv (1:Fin P)):=fun w =>
 (zDD 1 (by decide) w).mono (by rintro e w' ⟨v,rfl,hb,rfl⟩;exact ⟨_,rfl,hb,one_fv h.toFld⟩)
theorem rSmall7_c (h:Fl3 P):Gives 102 #[.int .u64 7] (fv (7:Fin P)):=fun w =>
 (zDD 7 (by decide) w).mono (by rintro e w' ⟨v,rfl,hb,rfl⟩;exact ⟨_,rfl,hb,zFP h.toFld⟩)
theorem eqR (h:Fld P) (x y:Fin P) (w:World):(binOp .eql 64 (fv x) (fv y)).run Tryz.prog w=.ok (.bool (decide (x=y))) w:=by
 have h1:(binOp .eql 64 (fv x) (fv y)).run Tryz.prog w=.ok (.bool (decide (x.val%18446744073709551616=y.val%18446744073709551616∧x.val/18446744073709551616%18446744073709551616=y.val/18446744073709551616%18446744073709551616∧x.val/340282366920938463463374607431768211456%18446744073709551616=y.val/340282366920938463463374607431768211456%18446744073709551616∧x.val/6277101735386680763835789423207666416102355444464034512896%18446744073709551616=y.val/6277101735386680763835789423207666416102355444464034512896%18446744073709551616))) w:=by
  show (binOp .eql 64 (.agg _) (.agg _)).run Tryz.prog w=_
  rw[run_eql_struct]
  have h2:=eqR_d 9998 (x.val%18446744073709551616) (x.val/18446744073709551616%18446744073709551616) (x.val/340282366920938463463374607431768211456%18446744073709551616) (x.val/6277101735386680763835789423207666416102355444464034512896%18446744073709551616) (y.val%18446744073709551616) (y.val/18446744073709551616%18446744073709551616) (y.val/340282366920938463463374607431768211456%18446744073709551616) (y.val/6277101735386680763835789423207666416102355444464034512896%18446744073709551616) w
  unfold wn
  rw[h2,Result.andThen_ok]
 rw[h1]
 simp only[zFc (h.top x) (h.top y),← Fin.ext_iff]
theorem eqR_t (h:Fld P) {x y:Fin P} (e:x=y) (w:World):(binOp .eql 64 (fv x) (fv y)).run Tryz.prog w=.ok (.bool true) w:=by rw[eqR h,decide_eq_true e]
theorem eqR_f (h:Fld P) {x y:Fin P} (e:¬ x=y) (w:World):(binOp .eql 64 (fv x) (fv y)).run Tryz.prog w=.ok (.bool false) w:=by rw[eqR h,decide_eq_false e]
theorem neR (h:Fld P) (x y:Fin P) (w:World):(binOp .neq 64 (fv x) (fv y)).run Tryz.prog w=.ok (.bool (!decide (x=y))) w:=by
 have h1:(binOp .neq 64 (fv x) (fv y)).run Tryz.prog w=.ok (.bool (!decide (x.val%18446744073709551616=y.val%18446744073709551616∧x.val/18446744073709551616%18446744073709551616=y.val/18446744073709551616%18446744073709551616∧x.val/340282366920938463463374607431768211456%18446744073709551616=y.val/340282366920938463463374607431768211456%18446744073709551616∧x.val/6277101735386680763835789423207666416102355444464034512896%18446744073709551616=y.val/6277101735386680763835789423207666416102355444464034512896%18446744073709551616))) w:=neqR _ _ _ _ _ _ _ _ w
 rw[h1]
 simp only[zFc (h.top x) (h.top y),← Fin.ext_iff]
theorem neR_f (h:Fld P) {x y:Fin P} (e:x=y) (w:World):(binOp .neq 64 (fv x) (fv y)).run Tryz.prog w=.ok (.bool false) w:=by rw[neR h,decide_eq_true e];rfl
theorem neR_t (h:Fld P) {x y:Fin P} (e:¬ x=y) (w:World):(binOp .neq 64 (fv x) (fv y)).run Tryz.prog w=.ok (.bool true) w:=by rw[neR h,decide_eq_false e];rfl
theorem ws_none:Value.agg #[.int .u64 0,.int .u64 0,.int .u64 0,.int .u64 0,.int .u64 1,.int .u64 0,.int .u64 0,.int .u64 0,.int .u64 0,.int .u64 0,.int .u64 0,.int .u64 0]=.agg (([.int .u64 0,.int .u64 0,.int .u64 0,.int .u64 0]:List Value)++(([.int .u64 1,.int .u64 0,.int .u64 0,.int .u64 0]:List Value)++([.int .u64 0,.int .u64 0,.int .u64 0,.int .u64 0]:List Value))).toArray:=rfl
theorem build_none (h:Fld P) (w:World):(Instr.build 72 #[(1,fv (1:Fin P))]).run Tryz.prog w=.ok (rv (0:Fin P) 1 0) w:=by
 unfold rv
 rw[← zFG,← ws_one h,← one_fv h,← ws_none]
 kernel_rfl
theorem rSqrt_y (h:Fl3 P) {m y:Fin P} (e:rt m=some y):Gives 161 #[rv0,fv m] (.tuple #[fv y,.bool true]):=fun w =>
 (rSqrt_any _ _ _ _ _ _ _ _ P _ m.val h.ref h.p4 (h.four m) w).mono (by rintro e' w' ⟨v,rfl,hb,hF⟩;exact ⟨_,rfl,hb,hF.val.1 y e⟩)
theorem rSqrt_n (h:Fl3 P) {m:Fin P} (e:rt m=none):Gives 161 #[rv0,fv m] (.tuple #[fv (0:Fin P),.bool false]):=fun w =>
 (rSqrt_any _ _ _ _ _ _ _ _ P _ m.val h.ref h.p4 (h.four m) w).mono (by rintro e' w' ⟨v,rfl,hb,hF⟩;exact ⟨_,rfl,hb,hF.val.2 e⟩)
theorem u33:(Tryz.prog.underlying 64).map (·.isRow)=some true:=by kernel_rfl
theorem i33:(Tryz.prog.info? 64).map (·.size)=some 4:=by kernel_rfl
theorem u56:(Tryz.prog.underlying 72).map (·.isRow)=some true:=by kernel_rfl
theorem i56:(Tryz.prog.info? 72).map (·.size)=some 12:=by kernel_rfl
theorem u35:(Tryz.prog.underlying 68).map (·.isRow)=some true:=by kernel_rfl
theorem i35:(Tryz.prog.info? 68).map (·.size)=some 8:=by kernel_rfl
theorem F3_c :Gives 86 #[] rv0:=by
 intro w
 go_enter Tryz.func86,Tryz.ntmps86
 refine RG.M.enter [] 2 (by kernel_rfl) ?_
 intro a0 M0
 repeat refine wp_seq ?_
 refine M0.t [.m 0 [] 0] [(0,(RG.z 8))] [] [(RG.z 8)] [(0,(.p 0 0))] ⟨RG.mk 0 68,trivial⟩ ?_
 intro j1 a1 w1 M1
 repeat refine wp_seq ?_
 refine M1.t [.c 1 [] rv0,.u [(1,0)] 0] [] [(0,1,rl0)] [rl0] [(0,(.p 0 0))] ⟨RG.cl (rMake_c),RG.pt i35,trivial⟩ ?_
 intro a2 w2 M2
 refine wp_ret ?_
 refine bodyPost_ret (v:=rv0) (RG.zAb M2.st 0 68 rfl 0 _ rfl (M2.at (s:=(.p 0 0))) u35 i35) M2.sl.defers ?_
 exact ⟨_,rfl,M2.st.bel.below,rfl⟩
theorem None_c (C:Fl3 P) :Gives 54 #[] (rv (0:Fin P) 1 0):=by
 intro w
 have hfin:((rv (0:Fin P) (1:Fin P) (0:Fin P)):Value)=(rv (0:Fin P) 1 0):=by
  subst_vars;rfl
 rw[← hfin]
 go_enter Tryz.func54,Tryz.ntmps54
 refine RG.M.enter [] 3 (by kernel_rfl) ?_
 intro a0 M0
 repeat refine wp_seq ?_
 refine M0.t [.m 0 [] 0] [(0,(RG.z 12))] [] [(RG.z 12)] [(0,(.p 0 0))] ⟨RG.mk 0 72,trivial⟩ ?_
 intro j1 a1 w1 M1
 repeat refine wp_seq ?_
 refine M1.t [.c 1 [] (fv (1:Fin P)),.x 2 [(1,0)] (rv (0:Fin P) (1:Fin P) (0:Fin P)),.u [(2,1)] 0] [] [(0,2,(ws (0:Fin P)++(ws (1:Fin P)++(ws (0:Fin P)))))] [(ws (0:Fin P)++(ws (1:Fin P)++(ws (0:Fin P))))] [(0,(.p 0 0))] ⟨RG.cl (zEu C),RG.cert_build1 rfl 72 1 1 rfl (fv (1:Fin P)) (rv (0:Fin P) (1:Fin P) (0:Fin P)) rfl RG.sx (build_none C.toFld),RG.pt i56,trivial⟩ ?_
 intro a2 w2 M2
 refine wp_ret ?_
 refine bodyPost_ret (v:=(rv (0:Fin P) (1:Fin P) (0:Fin P))) (RG.zAb M2.st 0 72 rfl 0 _ rfl (M2.at (s:=(.p 0 0))) u56 i56) M2.sl.defers ?_
 exact ⟨_,rfl,M2.st.bel.below,rfl⟩
theorem zE3 (C:Fl3 P) (x y z:Fin P)(hz:z=0) :Gives 85 #[(rv x y z)] (.bool true):=by
 intro w
 go_enter Tryz.func85,Tryz.ntmps85
 refine RG.M.enter [(0,(.v (rv x y z)))] 6 (by kernel_rfl) ?_
 intro a0 M0
 repeat refine wp_seq ?_
 refine M0.t [.m 1 [] 0,.x 2 [] (.bool false)] [(0,(ws x++(ws y++(ws z))))] [] [(ws x++(ws y++(ws z)))] [(1,(.p 0 0)),(2,(.v (.bool false)))] ⟨RG.mk 0 72,RG.st,trivial⟩ ?_
 intro j1 a1 w1 M1
 repeat refine wp_seq ?_
 refine M1.u [.s 3 [] (.p 0 8),.x 4 [(3,0)] (fv z),.c 5 [(4,1)] (.bool true),.x 2 [(5,2)] (.bool true)] [(2,(.v (.bool true)))] ⟨RG.st,RG.ld u33 i33,RG.cl (rZero_t C hz),RG.st,trivial⟩ ?_
 intro a2 w2 M2
 refine wp_ret ?_
 refine bodyPost_ret (v:=(.bool true)) (RG.zAq 2 rfl _ (M2.at (s:=(.v (.bool true))))) M2.sl.defers ?_
 exact ⟨_,rfl,M2.st.bel.below,rfl⟩
theorem zCw (C:Fl3 P) (x y z:Fin P)(hz:¬ z=0) :Gives 85 #[(rv x y z)] (.bool false):=by
 intro w
 go_enter Tryz.func85,Tryz.ntmps85
 refine RG.M.enter [(0,(.v (rv x y z)))] 6 (by kernel_rfl) ?_
 intro a0 M0
 repeat refine wp_seq ?_
 refine M0.t [.m 1 [] 0,.x 2 [] (.bool false)] [(0,(ws x++(ws y++(ws z))))] [] [(ws x++(ws y++(ws z)))] [(1,(.p 0 0)),(2,(.v (.bool false)))] ⟨RG.mk 0 72,RG.st,trivial⟩ ?_
 intro j1 a1 w1 M1
 repeat refine wp_seq ?_
 refine M1.u [.s 3 [] (.p 0 8),.x 4 [(3,0)] (fv z),.c 5 [(4,1)] (.bool false),.x 2 [(5,2)] (.bool false)] [(2,(.v (.bool false)))] ⟨RG.st,RG.ld u33 i33,RG.cl (rZero_f C hz),RG.st,trivial⟩ ?_
 intro a2 w2 M2
 refine wp_ret ?_
 refine bodyPost_ret (v:=(.bool false)) (RG.zAq 2 rfl _ (M2.at (s:=(.v (.bool false))))) M2.sl.defers ?_
 exact ⟨_,rfl,M2.st.bel.below,rfl⟩
theorem rdouble_c (C:Fl3 P) (x y z:Fin P):Gives 93 #[(rv x y z)] (rv ((EC.fdE y z)*(EC.fdT x y z)) ((EC.fdD x)*(x*((EC.fdE y z)*(EC.fdE y z))-(EC.fdT x y z))-y*((EC.fdE y z)*(EC.fdE y z)*(EC.fdE y z))) ((EC.fdE y z)*(EC.fdE y z)*(EC.fdE y z)*z)):=by
 intro w
 obtain ⟨c1,hc1⟩:∃ c,c=x*x:=⟨_,rfl⟩
 obtain ⟨c2,hc2⟩:∃ c,c=c1+c1:=⟨_,rfl⟩
 obtain ⟨c3,hc3⟩:∃ c,c=c2+c1:=⟨_,rfl⟩
 obtain ⟨c4,hc4⟩:∃ c,c=y+y:=⟨_,rfl⟩
 obtain ⟨c5,hc5⟩:∃ c,c=c4*z:=⟨_,rfl⟩
 obtain ⟨c6,hc6⟩:∃ c,c=c5*c5:=⟨_,rfl⟩
 obtain ⟨c7,hc7⟩:∃ c,c=c6*c5:=⟨_,rfl⟩
 obtain ⟨c8,hc8⟩:∃ c,c=c3*c3:=⟨_,rfl⟩
 obtain ⟨c9,hc9⟩:∃ c,c=c8*z:=⟨_,rfl⟩
 obtain ⟨c10,hc10⟩:∃ c,c=x+x:=⟨_,rfl⟩
 obtain ⟨c11,hc11⟩:∃ c,c=c10*c6:=⟨_,rfl⟩
 obtain ⟨c12,hc12⟩:∃ c,c=c9-c11:=⟨_,rfl⟩
 obtain ⟨c13,hc13⟩:∃ c,c=c5*c12:=⟨_,rfl⟩
 obtain ⟨c14,hc14⟩:∃ c,c=x*c6:=⟨_,rfl⟩
 obtain ⟨c15,hc15⟩:∃ c,c=c14-c12:=⟨_,rfl⟩
 obtain ⟨c16,hc16⟩:∃ c,c=c3*c15:=⟨_,rfl⟩
 obtain ⟨c17,hc17⟩:∃ c,c=y*c7:=⟨_,rfl⟩
 obtain ⟨c18,hc18⟩:∃ c,c=c16-c17:=⟨_,rfl⟩
 obtain ⟨c19,hc19⟩:∃ c,c=c7*z:=⟨_,rfl⟩
 have hfin:((rv c13 c18 c19):Value)=(rv ((EC.fdE y z)*(EC.fdT x y z)) ((EC.fdD x)*(x*((EC.fdE y z)*(EC.fdE y z))-(EC.fdT x y z))-y*((EC.fdE y z)*(EC.fdE y z)*(EC.fdE y z))) ((EC.fdE y z)*(EC.fdE y z)*(EC.fdE y z)*z)):=by
  subst_vars;rfl
 rw[← hfin]
 go_enter Tryz.func93,Tryz.ntmps93
 refine RG.M.enter [(0,(.v (rv x y z)))] 91 (by kernel_rfl) ?_
 intro a0 M0
 repeat refine wp_seq ?_
 refine M0.t [.m 1 [] 0,.m 2 [] 1] [(0,(ws x++(ws y++(ws z)))),(1,(RG.z 12))] [] [(ws x++(ws y++(ws z))),(RG.z 12)] [(1,(.p 0 0)),(2,(.p 1 0))] ⟨RG.mk 0 72,RG.mk 1 72,trivial⟩ ?_
 intro j1 i1 a1 w1 M1
 repeat refine wp_seq ?_
 refine M1.d [.c 11 [] rv0,.s 12 [] (.p 0 0),.x 13 [(12,1)] (fv x),.s 14 [] (.p 0 0),.x 15 [(14,3)] (fv x),.c 16 [(11,0),(13,2),(15,4)] (fv c1),.m 3 [] 2,.u [(3,6),(16,5)] 2] [(6,(RG.z 4))] [(2,7,(ws c1))] [(ws x++(ws y++(ws z))),(RG.z 12),(ws c1)] [(1,(.p 0 0)),(2,(.p 1 0)),(3,(.p 2 0))] ⟨RG.cl (F3_c),RG.st,RG.ld u33 i33,RG.st,RG.ld u33 i33,RG.cl ((zAr C x x).e hc1),RG.mk 2 64,RG.pt i33,trivial⟩ ?_
 intro j2 a2 w2 M2
 repeat refine wp_seq ?_
 refine M2.d [.c 17 [] rv0,.c 18 [] rv0,.x 19 [] (fv c1),.x 20 [] (fv c1),.c 21 [(18,1),(19,2),(20,3)] (fv c2),.x 22 [] (fv c1),.c 23 [(17,0),(21,4),(22,5)] (fv c3),.m 4 [] 3,.u [(4,7),(23,6)] 3] [(7,(RG.z 4))] [(3,8,(ws c3))] [(ws x++(ws y++(ws z))),(RG.z 12),(ws c1),(ws c3)] [(1,(.p 0 0)),(2,(.p 1 0)),(4,(.p 3 0))] ⟨RG.cl (F3_c),RG.cl (F3_c),RG.ld u33 i33,RG.ld u33 i33,RG.cl ((zEw C c1 c1).e hc2),RG.ld u33 i33,RG.cl ((zEw C c2 c1).e hc3),RG.mk 3 64,RG.pt i33,trivial⟩ ?_
 intro j3 a3 w3 M3
 repeat refine wp_seq ?_
 refine M3.d [.c 24 [] rv0,.c 25 [] rv0,.s 26 [] (.p 0 4),.x 27 [(26,2)] (fv y),.s 28 [] (.p 0 4),.x 29 [(28,4)] (fv y),.c 30 [(25,1),(27,3),(29,5)] (fv c4),.s 31 [] (.p 0 8),.x 32 [(31,7)] (fv z),.c 33 [(24,0),(30,6),(32,8)] (fv c5),.m 5 [] 4,.u [(5,10),(33,9)] 4] [(10,(RG.z 4))] [(4,11,(ws c5))] [(ws x++(ws y++(ws z))),(RG.z 12),(ws c1),(ws c3),(ws c5)] [(1,(.p 0 0)),(2,(.p 1 0)),(4,(.p 3 0)),(5,(.p 4 0))] ⟨RG.cl (F3_c),RG.cl (F3_c),RG.st,RG.ld u33 i33,RG.st,RG.ld u33 i33,RG.cl ((zEw C y y).e hc4),RG.st,RG.ld u33 i33,RG.cl ((zAr C c4 z).e hc5),RG.mk 4 64,RG.pt i33,trivial⟩ ?_
 intro j4 a4 w4 M4
 repeat refine wp_seq ?_
 refine M4.d [.c 34 [] rv0,.x 35 [] (fv c5),.x 36 [] (fv c5),.c 37 [(34,0),(35,1),(36,2)] (fv c6),.m 6 [] 5,.u [(6,4),(37,3)] 5] [(4,(RG.z 4))] [(5,5,(ws c6))] [(ws x++(ws y++(ws z))),(RG.z 12),(ws c1),(ws c3),(ws c5),(ws c6)] [(1,(.p 0 0)),(2,(.p 1 0)),(4,(.p 3 0)),(5,(.p 4 0)),(6,(.p 5 0))] ⟨RG.cl (F3_c),RG.ld u33 i33,RG.ld u33 i33,RG.cl ((zAr C c5 c5).e hc6),RG.mk 5 64,RG.pt i33,trivial⟩ ?_
 intro j5 a5 w5 M5
 repeat refine wp_seq ?_
 refine M5.d [.c 38 [] rv0,.x 39 [] (fv c6),.x 40 [] (fv c5),.c 41 [(38,0),(39,1),(40,2)] (fv c7),.m 7 [] 6,.u [(7,4),(41,3)] 6] [(4,(RG.z 4))] [(6,5,(ws c7))] [(ws x++(ws y++(ws z))),(RG.z 12),(ws c1),(ws c3),(ws c5),(ws c6),(ws c7)] [(1,(.p 0 0)),(2,(.p 1 0)),(4,(.p 3 0)),(5,(.p 4 0)),(6,(.p 5 0)),(7,(.p 6 0))] ⟨RG.cl (F3_c),RG.ld u33 i33,RG.ld u33 i33,RG.cl ((zAr C c6 c5).e hc7),RG.mk 6 64,RG.pt i33,trivial⟩ ?_
 intro j6 a6 w6 M6
 repeat refine wp_seq ?_
 refine M6.d [.c 42 [] rv0,.c 43 [] rv0,.c 44 [] rv0,.x 45 [] (fv c3),.x 46 [] (fv c3),.c 47 [(44,2),(45,3),(46,4)] (fv c8),.s 48 [] (.p 0 8),.x 49 [(48,6)] (fv z),.c 50 [(43,1),(47,5),(49,7)] (fv c9),.c 51 [] rv0,.c 52 [] rv0,.s 53 [] (.p 0 0),.x 54 [(53,11)] (fv x),.s 55 [] (.p 0 0),.x 56 [(55,13)] (fv x),.c 57 [(52,10),(54,12),(56,14)] (fv c10),.x 58 [] (fv c6),.c 59 [(51,9),(57,15),(58,16)] (fv c11),.c 60 [(42,0),(50,8),(59,17)] (fv c12),.m 8 [] 7,.u [(8,19),(60,18)] 7] [(19,(RG.z 4))] [(7,20,(ws c12))] [(ws x++(ws y++(ws z))),(RG.z 12),(ws c1),(ws c3),(ws c5),(ws c6),(ws c7),(ws c12)] [(1,(.p 0 0)),(2,(.p 1 0)),(4,(.p 3 0)),(5,(.p 4 0)),(6,(.p 5 0)),(7,(.p 6 0)),(8,(.p 7 0))] ⟨RG.cl (F3_c),RG.cl (F3_c),RG.cl (F3_c),RG.ld u33 i33,RG.ld u33 i33,RG.cl ((zAr C c3 c3).e hc8),RG.st,RG.ld u33 i33,RG.cl ((zAr C c8 z).e hc9),RG.cl (F3_c),RG.cl (F3_c),RG.st,RG.ld u33 i33,RG.st,RG.ld u33 i33,RG.cl ((zEw C x x).e hc10),RG.ld u33 i33,RG.cl ((zAr C c10 c6).e hc11),RG.cl ((zDf C c9 c11).e hc12),RG.mk 7 64,RG.pt i33,trivial⟩ ?_
 intro j7 a7 w7 M7
 repeat refine wp_seq ?_
 refine M7.d [.c 61 [] rv0,.x 62 [] (fv c5),.x 63 [] (fv c12),.c 64 [(61,0),(62,1),(63,2)] (fv c13),.m 9 [] 8,.u [(9,4),(64,3)] 8] [(4,(RG.z 4))] [(8,5,(ws c13))] [(ws x++(ws y++(ws z))),(RG.z 12),(ws c1),(ws c3),(ws c5),(ws c6),(ws c7),(ws c12),(ws c13)] [(1,(.p 0 0)),(2,(.p 1 0)),(4,(.p 3 0)),(6,(.p 5 0)),(7,(.p 6 0)),(8,(.p 7 0)),(9,(.p 8 0))] ⟨RG.cl (F3_c),RG.ld u33 i33,RG.ld u33 i33,RG.cl ((zAr C c5 c12).e hc13),RG.mk 8 64,RG.pt i33,trivial⟩ ?_
 intro j8 a8 w8 M8
 repeat refine wp_seq ?_
 refine M8.d [.c 65 [] rv0,.c 66 [] rv0,.x 67 [] (fv c3),.c 68 [] rv0,.c 69 [] rv0,.s 70 [] (.p 0 0),.x 71 [(70,5)] (fv x),.x 72 [] (fv c6),.c 73 [(69,4),(71,6),(72,7)] (fv c14),.x 74 [] (fv c12),.c 75 [(68,3),(73,8),(74,9)] (fv c15),.c 76 [(66,1),(67,2),(75,10)] (fv c16),.c 77 [] rv0,.s 78 [] (.p 0 4),.x 79 [(78,13)] (fv y),.x 80 [] (fv c7),.c 81 [(77,12),(79,14),(80,15)] (fv c17),.c 82 [(65,0),(76,11),(81,16)] (fv c18),.m 10 [] 9,.u [(10,18),(82,17)] 9] [(18,(RG.z 4))] [(9,19,(ws c18))] [(ws x++(ws y++(ws z))),(RG.z 12),(ws c1),(ws c3),(ws c5),(ws c6),(ws c7),(ws c12),(ws c13),(ws c18)] [(1,(.p 0 0)),(2,(.p 1 0)),(7,(.p 6 0)),(9,(.p 8 0)),(10,(.p 9 0))] ⟨RG.cl (F3_c),RG.cl (F3_c),RG.ld u33 i33,RG.cl (F3_c),RG.cl (F3_c),RG.st,RG.ld u33 i33,RG.ld u33 i33,RG.cl ((zAr C x c6).e hc14),RG.ld u33 i33,RG.cl ((zDf C c14 c12).e hc15),RG.cl ((zAr C c3 c15).e hc16),RG.cl (F3_c),RG.st,RG.ld u33 i33,RG.ld u33 i33,RG.cl ((zAr C y c7).e hc17),RG.cl ((zDf C c16 c17).e hc18),RG.mk 9 64,RG.pt i33,trivial⟩ ?_
 intro j9 a9 w9 M9
 repeat refine wp_seq ?_
 refine M9.d [.x 83 [] (fv c13),.x 84 [] (fv c18),.c 85 [] rv0,.x 86 [] (fv c7),.s 87 [] (.p 0 8),.x 88 [(87,4)] (fv z),.c 89 [(85,2),(86,3),(88,5)] (fv c19),.x 90 [(83,0),(84,1),(89,6)] (rv c13 c18 c19),.u [(90,7)] 1] [] [(1,8,(ws c13++(ws c18++(ws c19))))] [(ws x++(ws y++(ws z))),(ws c13++(ws c18++(ws c19))),(ws c1),(ws c3),(ws c5),(ws c6),(ws c7),(ws c12),(ws c13),(ws c18)] [(2,(.p 1 0))] ⟨RG.ld u33 i33,RG.ld u33 i33,RG.cl (F3_c),RG.ld u33 i33,RG.st,RG.ld u33 i33,RG.cl ((zAr C c7 z).e hc19),RG.st,RG.pt i56,trivial⟩ ?_
 intro a10 w10 M10
 refine wp_ret ?_
 refine bodyPost_ret (v:=(rv c13 c18 c19)) (RG.zAb M10.st 2 72 rfl 1 _ rfl (M10.at (s:=(.p 1 0))) u56 i56) M10.sl.defers ?_
 exact ⟨_,rfl,M10.st.bel.below,rfl⟩
theorem rNeg3_c (C:Fl3 P) (x y z:Fin P):Gives 65 #[(rv x y z)] (rv x (0-y) z):=by
 intro w
 obtain ⟨c1,hc1⟩:∃ c,c=0-y:=⟨_,rfl⟩
 have hfin:((rv x c1 z):Value)=(rv x (0-y) z):=by
  subst_vars;rfl
 rw[← hfin]
 go_enter Tryz.func65,Tryz.ntmps65
 refine RG.M.enter [(0,(.v (rv x y z)))] 12 (by kernel_rfl) ?_
 intro a0 M0
 repeat refine wp_seq ?_
 refine M0.t [.m 1 [] 0,.m 2 [] 1] [(0,(ws x++(ws y++(ws z)))),(1,(RG.z 12))] [] [(ws x++(ws y++(ws z))),(RG.z 12)] [(1,(.p 0 0)),(2,(.p 1 0))] ⟨RG.mk 0 72,RG.mk 1 72,trivial⟩ ?_
 intro j1 i1 a1 w1 M1
 repeat refine wp_seq ?_
 refine M1.d [.s 3 [] (.p 0 0),.x 4 [(3,0)] (fv x),.c 5 [] rv0,.s 6 [] (.p 0 4),.x 7 [(6,3)] (fv y),.c 8 [(5,2),(7,4)] (fv c1),.s 9 [] (.p 0 8),.x 10 [(9,6)] (fv z),.x 11 [(4,1),(8,5),(10,7)] (rv x c1 z),.u [(11,8)] 1] [] [(1,9,(ws x++(ws c1++(ws z))))] [(ws x++(ws y++(ws z))),(ws x++(ws c1++(ws z)))] [(2,(.p 1 0))] ⟨RG.st,RG.ld u33 i33,RG.cl (F3_c),RG.st,RG.ld u33 i33,RG.cl ((rNeg_c C y).e hc1),RG.st,RG.ld u33 i33,RG.st,RG.pt i56,trivial⟩ ?_
 intro a2 w2 M2
 refine wp_ret ?_
 refine bodyPost_ret (v:=(rv x c1 z)) (RG.zAb M2.st 2 72 rfl 1 _ rfl (M2.at (s:=(.p 1 0))) u56 i56) M2.sl.defers ?_
 exact ⟨_,rfl,M2.st.bel.below,rfl⟩
theorem rPlusJ_any (C:Fl3 P) (x1 y1 z1 x2 y2 z2:Fin P) (R:Value) (ha:z1=0→R=(rv x2 y2 z2)) (hb:¬ z1=0→z2=0→R=(rv x1 y1 z1)) (hd:¬ z1=0→¬ z2=0→x2*z1=x1*z2→(¬ y2*z1=y1*z2∧R=(rv (0:Fin P) 1 0))∨(y2*z1=y1*z2∧¬ y2*z1=0∧R=(rv ((EC.fdE y1 z1)*(EC.fdT x1 y1 z1)) ((EC.fdD x1)*(x1*((EC.fdE y1 z1)*(EC.fdE y1 z1))-(EC.fdT x1 y1 z1))-y1*((EC.fdE y1 z1)*(EC.fdE y1 z1)*(EC.fdE y1 z1))) ((EC.fdE y1 z1)*(EC.fdE y1 z1)*(EC.fdE y1 z1)*z1)))) (he:¬ z1=0→¬ z2=0→¬ x2*z1=x1*z2→R=(rv ((x2*z1-x1*z2)*EC.frT (y2*z1-y1*z2) (x2*z1-x1*z2) (z1*z2) (x1*z2)) ((y2*z1-y1*z2)*(x1*z2*((x2*z1-x1*z2)*(x2*z1-x1*z2))-EC.frT (y2*z1-y1*z2) (x2*z1-x1*z2) (z1*z2) (x1*z2))-y1*z2*((x2*z1-x1*z2)*(x2*z1-x1*z2)*(x2*z1-x1*z2))) ((x2*z1-x1*z2)*(x2*z1-x1*z2)*(x2*z1-x1*z2)*(z1*z2)))):Gives 45 #[(rv x1 y1 z1),(rv x2 y2 z2)] R:=by
 intro w
 obtain ⟨c1,hc1⟩:∃ c,c=y2*z1:=⟨_,rfl⟩
 obtain ⟨c2,hc2⟩:∃ c,c=x2*z1:=⟨_,rfl⟩
 obtain ⟨c3,hc3⟩:∃ c,c=y1*z2:=⟨_,rfl⟩
 obtain ⟨c4,hc4⟩:∃ c,c=x1*z2:=⟨_,rfl⟩
 go_enter Tryz.func45,Tryz.ntmps45
 refine RG.M.enter [(0,(.v (rv x1 y1 z1))),(1,(.v (rv x2 y2 z2)))] 127 (by kernel_rfl) ?_
 intro a0 M0
 repeat refine wp_seq ?_
 refine M0.t [.m 2 [] 0,.m 3 [] 1,.m 4 [] 2] [(0,(ws x1++(ws y1++(ws z1)))),(1,(ws x2++(ws y2++(ws z2)))),(2,(RG.z 12))] [] [(ws x1++(ws y1++(ws z1))),(ws x2++(ws y2++(ws z2))),(RG.z 12)] [(2,(.p 0 0)),(3,(.p 1 0)),(4,(.p 2 0))] ⟨RG.mk 0 72,RG.mk 1 72,RG.mk 2 72,trivial⟩ ?_
 intro j1 i1 m1 a1 w1 M1
 repeat refine wp_seq ?_
 by_cases hz1:z1=0
 · obtain rfl:=ha hz1
   refine M1.u [.x 16 [] (rv x1 y1 z1),.c 17 [(16,0)] (.bool true),.x 5 [(17,1)] (.bool true)] [(3,(.p 1 0)),(4,(.p 2 0)),(5,(.v (.bool true)))] ⟨RG.ld u56 i56,RG.cl (zE3 C x1 y1 z1 hz1),RG.st,trivial⟩ ?_
   intro a2 w2 M2
   repeat refine wp_seq ?_
   refine M2.u [.x 18 [] (.bool true)] [(3,(.p 1 0)),(4,(.p 2 0)),(18,(.v (.bool true)))] ⟨RG.st,trivial⟩ ?_
   intro a3 w3 M3
   repeat refine wp_seq ?_
   refine wp_cond_true M3.ev ?_
   repeat refine wp_seq ?_
   refine M3.t [.x 19 [] (rv x2 y2 z2),.u [(19,0)] 2] [] [(2,1,(ws x2++(ws y2++(ws z2))))] [(ws x1++(ws y1++(ws z1))),(ws x2++(ws y2++(ws z2))),(ws x2++(ws y2++(ws z2)))] [(4,(.p 2 0))] ⟨RG.ld u56 i56,RG.pt i56,trivial⟩ ?_
   intro a4 w4 M4
   refine wp_ret ?_
   refine bodyPost_ret (v:=(rv x2 y2 z2)) (RG.zAb M4.st 4 72 rfl 2 _ rfl (M4.at (s:=(.p 2 0))) u56 i56) M4.sl.defers ?_
   exact ⟨_,rfl,M4.st.bel.below,rfl⟩
 refine M1.u [.x 16 [] (rv x1 y1 z1),.c 17 [(16,0)] (.bool false),.x 5 [(17,1)] (.bool false)] [(2,(.p 0 0)),(3,(.p 1 0)),(4,(.p 2 0)),(5,(.v (.bool false)))] ⟨RG.ld u56 i56,RG.cl (zCw C x1 y1 z1 hz1),RG.st,trivial⟩ ?_
 intro a2 w2 M2
 repeat refine wp_seq ?_
 refine M2.u [.x 18 [] (.bool false)] [(2,(.p 0 0)),(3,(.p 1 0)),(4,(.p 2 0)),(5,(.v (.bool false))),(18,(.v (.bool false)))] ⟨RG.st,trivial⟩ ?_
 intro a3 w3 M3
 repeat refine wp_seq ?_
 refine wp_cond_false M3.ev ?_
 refine wp_skip ?_
 repeat refine wp_seq ?_
 by_cases hz2:z2=0
 · obtain rfl:=hb hz1 hz2
   refine M3.u [.x 20 [] (rv x2 y2 z2),.c 21 [(20,0)] (.bool true),.x 5 [(21,1)] (.bool true)] [(2,(.p 0 0)),(4,(.p 2 0)),(5,(.v (.bool true)))] ⟨RG.ld u56 i56,RG.cl (zE3 C x2 y2 z2 hz2),RG.st,trivial⟩ ?_
   intro a4 w4 M4
   repeat refine wp_seq ?_
   refine M4.u [.x 22 [] (.bool true)] [(2,(.p 0 0)),(4,(.p 2 0)),(22,(.v (.bool true)))] ⟨RG.st,trivial⟩ ?_
   intro a5 w5 M5
   repeat refine wp_seq ?_
   refine wp_cond_true M5.ev ?_
   repeat refine wp_seq ?_
   refine M5.t [.x 23 [] (rv x1 y1 z1),.u [(23,0)] 2] [] [(2,1,(ws x1++(ws y1++(ws z1))))] [(ws x1++(ws y1++(ws z1))),(ws x2++(ws y2++(ws z2))),(ws x1++(ws y1++(ws z1)))] [(4,(.p 2 0))] ⟨RG.ld u56 i56,RG.pt i56,trivial⟩ ?_
   intro a6 w6 M6
   refine wp_ret ?_
   refine bodyPost_ret (v:=(rv x1 y1 z1)) (RG.zAb M6.st 4 72 rfl 2 _ rfl (M6.at (s:=(.p 2 0))) u56 i56) M6.sl.defers ?_
   exact ⟨_,rfl,M6.st.bel.below,rfl⟩
 refine M3.u [.x 20 [] (rv x2 y2 z2),.c 21 [(20,0)] (.bool false),.x 5 [(21,1)] (.bool false)] [(2,(.p 0 0)),(3,(.p 1 0)),(4,(.p 2 0)),(5,(.v (.bool false)))] ⟨RG.ld u56 i56,RG.cl (zCw C x2 y2 z2 hz2),RG.st,trivial⟩ ?_
 intro a4 w4 M4
 repeat refine wp_seq ?_
 refine M4.u [.x 22 [] (.bool false)] [(2,(.p 0 0)),(3,(.p 1 0)),(4,(.p 2 0)),(22,(.v (.bool false)))] ⟨RG.st,trivial⟩ ?_
 intro a5 w5 M5
 repeat refine wp_seq ?_
 refine wp_cond_false M5.ev ?_
 refine wp_skip ?_
 repeat refine wp_seq ?_
 refine M5.d [.c 24 [] rv0,.s 25 [] (.p 1 4),.x 26 [(25,1)] (fv y2),.s 27 [] (.p 0 8),.x 28 [(27,3)] (fv z1),.c 29 [(24,0),(26,2),(28,4)] (fv c1),.m 6 [] 3,.u [(6,6),(29,5)] 3] [(6,(RG.z 4))] [(3,7,(ws c1))] [(ws x1++(ws y1++(ws z1))),(ws x2++(ws y2++(ws z2))),(RG.z 12),(ws c1)] [(2,(.p 0 0)),(3,(.p 1 0)),(4,(.p 2 0)),(6,(.p 3 0))] ⟨RG.cl (F3_c),RG.st,RG.ld u33 i33,RG.st,RG.ld u33 i33,RG.cl ((zAr C y2 z1).e hc1),RG.mk 3 64,RG.pt i33,trivial⟩ ?_
 intro j6 a6 w6 M6
 repeat refine wp_seq ?_
 refine M6.d [.c 30 [] rv0,.s 31 [] (.p 1 0),.x 32 [(31,1)] (fv x2),.s 33 [] (.p 0 8),.x 34 [(33,3)] (fv z1),.c 35 [(30,0),(32,2),(34,4)] (fv c2),.m 7 [] 4,.u [(7,6),(35,5)] 4] [(6,(RG.z 4))] [(4,7,(ws c2))] [(ws x1++(ws y1++(ws z1))),(ws x2++(ws y2++(ws z2))),(RG.z 12),(ws c1),(ws c2)] [(2,(.p 0 0)),(3,(.p 1 0)),(4,(.p 2 0)),(6,(.p 3 0)),(7,(.p 4 0))] ⟨RG.cl (F3_c),RG.st,RG.ld u33 i33,RG.st,RG.ld u33 i33,RG.cl ((zAr C x2 z1).e hc2),RG.mk 4 64,RG.pt i33,trivial⟩ ?_
 intro j7 a7 w7 M7
 repeat refine wp_seq ?_
 refine M7.d [.c 36 [] rv0,.s 37 [] (.p 0 4),.x 38 [(37,1)] (fv y1),.s 39 [] (.p 1 8),.x 40 [(39,3)] (fv z2),.c 41 [(36,0),(38,2),(40,4)] (fv c3),.m 8 [] 5,.u [(8,6),(41,5)] 5] [(6,(RG.z 4))] [(5,7,(ws c3))] [(ws x1++(ws y1++(ws z1))),(ws x2++(ws y2++(ws z2))),(RG.z 12),(ws c1),(ws c2),(ws c3)] [(2,(.p 0 0)),(3,(.p 1 0)),(4,(.p 2 0)),(6,(.p 3 0)),(7,(.p 4 0)),(8,(.p 5 0))] ⟨RG.cl (F3_c),RG.st,RG.ld u33 i33,RG.st,RG.ld u33 i33,RG.cl ((zAr C y1 z2).e hc3),RG.mk 5 64,RG.pt i33,trivial⟩ ?_
 intro j8 a8 w8 M8
 repeat refine wp_seq ?_
 refine M8.d [.c 42 [] rv0,.s 43 [] (.p 0 0),.x 44 [(43,1)] (fv x1),.s 45 [] (.p 1 8),.x 46 [(45,3)] (fv z2),.c 47 [(42,0),(44,2),(46,4)] (fv c4),.m 9 [] 6,.u [(9,6),(47,5)] 6] [(6,(RG.z 4))] [(6,7,(ws c4))] [(ws x1++(ws y1++(ws z1))),(ws x2++(ws y2++(ws z2))),(RG.z 12),(ws c1),(ws c2),(ws c3),(ws c4)] [(2,(.p 0 0)),(3,(.p 1 0)),(4,(.p 2 0)),(6,(.p 3 0)),(7,(.p 4 0)),(8,(.p 5 0)),(9,(.p 6 0))] ⟨RG.cl (F3_c),RG.st,RG.ld u33 i33,RG.st,RG.ld u33 i33,RG.cl ((zAr C x1 z2).e hc4),RG.mk 6 64,RG.pt i33,trivial⟩ ?_
 intro j9 a9 w9 M9
 repeat refine wp_seq ?_
 by_cases hv:x2*z1=x1*z2
 · have hR:=hd hz1 hz2 hv
   refine M9.u [.x 48 [] (fv c2),.x 49 [] (fv c4),.x 50 [(48,0),(49,1)] (.bool true)] [(2,(.p 0 0)),(4,(.p 2 0)),(6,(.p 3 0)),(8,(.p 5 0)),(50,(.v (.bool true)))] ⟨RG.ld u33 i33,RG.ld u33 i33,RG.zAg rfl .eql 64 64 48 49 (fv c2) (fv c4) (.bool true) rfl rfl RG.sx RG.sx (fun w=>by kernel_rfl) (eqR_t C.toFld (by subst_vars;exact hv)),trivial⟩ ?_
   intro a10 w10 M10
   repeat refine wp_seq ?_
   refine wp_cond_true M10.ev ?_
   repeat refine wp_seq ?_
   rcases hR with ⟨hu,rfl⟩|⟨hu,hn,hR⟩
   · refine M10.u [.x 51 [] (fv c1),.x 52 [] (fv c3),.x 53 [(51,0),(52,1)] (.bool true),.x 54 [(53,2)] (.bool true),⟨some 55,[],(.v undef),.pass⟩,⟨some 56,[],(.v undef),.pass⟩,.x 57 [(54,3),(56,5)] (.bool true)] [(4,(.p 2 0)),(57,(.v (.bool true)))] ⟨RG.ld u33 i33,RG.ld u33 i33,RG.zAg rfl .neq 64 64 51 52 (fv c1) (fv c3) (.bool true) rfl rfl RG.sx RG.sx (fun w=>by kernel_rfl) (neR_t C.toFld (by subst_vars;exact hu)),RG.st,RG.zAe rfl rfl,RG.zAe rfl rfl,RG.st,trivial⟩ ?_
     intro a11 w11 M11
     repeat refine wp_seq ?_
     refine wp_cond_true M11.ev ?_
     repeat refine wp_seq ?_
     refine M11.t [.c 58 [] (rv (0:Fin P) (1:Fin P) (0:Fin P)),.u [(58,0)] 2] [] [(2,1,(ws (0:Fin P)++(ws (1:Fin P)++(ws (0:Fin P)))))] [(ws x1++(ws y1++(ws z1))),(ws x2++(ws y2++(ws z2))),(ws (0:Fin P)++(ws (1:Fin P)++(ws (0:Fin P)))),(ws c1),(ws c2),(ws c3),(ws c4)] [(4,(.p 2 0))] ⟨RG.cl (None_c C),RG.pt i56,trivial⟩ ?_
     intro a12 w12 M12
     refine wp_ret ?_
     refine bodyPost_ret (v:=(rv (0:Fin P) (1:Fin P) (0:Fin P))) (RG.zAb M12.st 4 72 rfl 2 _ rfl (M12.at (s:=(.p 2 0))) u56 i56) M12.sl.defers ?_
     exact ⟨_,rfl,M12.st.bel.below,rfl⟩
   obtain ⟨c5,hc5⟩:∃ c,c=(EC.fdE y1 z1)*(EC.fdT x1 y1 z1):=⟨_,rfl⟩
   obtain ⟨c6,hc6⟩:∃ c,c=(EC.fdD x1)*(x1*((EC.fdE y1 z1)*(EC.fdE y1 z1))-(EC.fdT x1 y1 z1))-y1*((EC.fdE y1 z1)*(EC.fdE y1 z1)*(EC.fdE y1 z1)):=⟨_,rfl⟩
   obtain ⟨c7,hc7⟩:∃ c,c=(EC.fdE y1 z1)*(EC.fdE y1 z1)*(EC.fdE y1 z1)*z1:=⟨_,rfl⟩
   obtain rfl:R=rv c5 c6 c7:=hR.trans (by subst_vars;rfl)
   refine M10.u [.x 51 [] (fv c1),.x 52 [] (fv c3),.x 53 [(51,0),(52,1)] (.bool false),.x 54 [(53,2)] (.bool false),.x 55 [] (fv c1),.c 56 [(55,4)] (.bool false),.x 57 [(54,3),(56,5)] (.bool false)] [(2,(.p 0 0)),(4,(.p 2 0)),(57,(.v (.bool false)))] ⟨RG.ld u33 i33,RG.ld u33 i33,RG.zAg rfl .neq 64 64 51 52 (fv c1) (fv c3) (.bool false) rfl rfl RG.sx RG.sx (fun w=>by kernel_rfl) (neR_f C.toFld (by subst_vars;exact hu)),RG.st,RG.ld u33 i33,RG.cl (f:=80) (args:=#[(fv c1)]) (v:=(.bool false)) (rZero_f C (by subst_vars;exact hn)),RG.st,trivial⟩ ?_
   intro a11 w11 M11
   repeat refine wp_seq ?_
   refine wp_cond_false M11.ev ?_
   refine wp_skip ?_
   repeat refine wp_seq ?_
   refine M11.t [.x 59 [] (rv x1 y1 z1),.c 60 [(59,0)] (rv c5 c6 c7),.u [(60,1)] 2] [] [(2,2,(ws c5++(ws c6++(ws c7))))] [(ws x1++(ws y1++(ws z1))),(ws x2++(ws y2++(ws z2))),(ws c5++(ws c6++(ws c7))),(ws c1),(ws c2),(ws c3),(ws c4)] [(4,(.p 2 0))] ⟨RG.ld u56 i56,RG.cl ((rdouble_c C x1 y1 z1).e3 hc5 hc6 hc7),RG.pt i56,trivial⟩ ?_
   intro a12 w12 M12
   refine wp_ret ?_
   refine bodyPost_ret (v:=(rv c5 c6 c7)) (RG.zAb M12.st 4 72 rfl 2 _ rfl (M12.at (s:=(.p 2 0))) u56 i56) M12.sl.defers ?_
   exact ⟨_,rfl,M12.st.bel.below,rfl⟩
 have hR:=he hz1 hz2 hv
 obtain ⟨c5,hc5⟩:∃ c,c=c1-c3:=⟨_,rfl⟩
 obtain ⟨c6,hc6⟩:∃ c,c=c2-c4:=⟨_,rfl⟩
 obtain ⟨c7,hc7⟩:∃ c,c=z1*z2:=⟨_,rfl⟩
 obtain ⟨c8,hc8⟩:∃ c,c=c6*c6:=⟨_,rfl⟩
 obtain ⟨c9,hc9⟩:∃ c,c=c8*c6:=⟨_,rfl⟩
 obtain ⟨c10,hc10⟩:∃ c,c=c5*c5:=⟨_,rfl⟩
 obtain ⟨c11,hc11⟩:∃ c,c=c10*c7:=⟨_,rfl⟩
 obtain ⟨c12,hc12⟩:∃ c,c=c11-c9:=⟨_,rfl⟩
 obtain ⟨c13,hc13⟩:∃ c,c=c4+c4:=⟨_,rfl⟩
 obtain ⟨c14,hc14⟩:∃ c,c=c13*c8:=⟨_,rfl⟩
 obtain ⟨c15,hc15⟩:∃ c,c=c12-c14:=⟨_,rfl⟩
 obtain ⟨c16,hc16⟩:∃ c,c=c6*c15:=⟨_,rfl⟩
 obtain ⟨c17,hc17⟩:∃ c,c=c4*c8:=⟨_,rfl⟩
 obtain ⟨c18,hc18⟩:∃ c,c=c17-c15:=⟨_,rfl⟩
 obtain ⟨c19,hc19⟩:∃ c,c=c5*c18:=⟨_,rfl⟩
 obtain ⟨c20,hc20⟩:∃ c,c=c3*c9:=⟨_,rfl⟩
 obtain ⟨c21,hc21⟩:∃ c,c=c19-c20:=⟨_,rfl⟩
 obtain ⟨c22,hc22⟩:∃ c,c=c9*c7:=⟨_,rfl⟩
 obtain rfl:R=rv c16 c21 c22:=hR.trans (by subst_vars;rfl)
 refine M9.u [.x 48 [] (fv c2),.x 49 [] (fv c4),.x 50 [(48,0),(49,1)] (.bool false)] [(2,(.p 0 0)),(3,(.p 1 0)),(4,(.p 2 0)),(6,(.p 3 0)),(7,(.p 4 0)),(8,(.p 5 0)),(9,(.p 6 0)),(50,(.v (.bool false)))] ⟨RG.ld u33 i33,RG.ld u33 i33,RG.zAg rfl .eql 64 64 48 49 (fv c2) (fv c4) (.bool false) rfl rfl RG.sx RG.sx (fun w=>by kernel_rfl) (eqR_f C.toFld (by subst_vars;exact hv)),trivial⟩ ?_
 intro a10 w10 M10
 repeat refine wp_seq ?_
 refine wp_cond_false M10.ev ?_
 refine wp_skip ?_
 repeat refine wp_seq ?_
 refine M10.d [.c 61 [] rv0,.x 62 [] (fv c1),.x 63 [] (fv c3),.c 64 [(61,0),(62,1),(63,2)] (fv c5),.m 10 [] 7,.u [(10,4),(64,3)] 7] [(4,(RG.z 4))] [(7,5,(ws c5))] [(ws x1++(ws y1++(ws z1))),(ws x2++(ws y2++(ws z2))),(RG.z 12),(ws c1),(ws c2),(ws c3),(ws c4),(ws c5)] [(2,(.p 0 0)),(3,(.p 1 0)),(4,(.p 2 0)),(7,(.p 4 0)),(8,(.p 5 0)),(9,(.p 6 0)),(10,(.p 7 0))] ⟨RG.cl (F3_c),RG.ld u33 i33,RG.ld u33 i33,RG.cl ((zDf C c1 c3).e hc5),RG.mk 7 64,RG.pt i33,trivial⟩ ?_
 intro j11 a11 w11 M11
 repeat refine wp_seq ?_
 refine M11.d [.c 65 [] rv0,.x 66 [] (fv c2),.x 67 [] (fv c4),.c 68 [(65,0),(66,1),(67,2)] (fv c6),.m 11 [] 8,.u [(11,4),(68,3)] 8] [(4,(RG.z 4))] [(8,5,(ws c6))] [(ws x1++(ws y1++(ws z1))),(ws x2++(ws y2++(ws z2))),(RG.z 12),(ws c1),(ws c2),(ws c3),(ws c4),(ws c5),(ws c6)] [(2,(.p 0 0)),(3,(.p 1 0)),(4,(.p 2 0)),(8,(.p 5 0)),(9,(.p 6 0)),(10,(.p 7 0)),(11,(.p 8 0))] ⟨RG.cl (F3_c),RG.ld u33 i33,RG.ld u33 i33,RG.cl ((zDf C c2 c4).e hc6),RG.mk 8 64,RG.pt i33,trivial⟩ ?_
 intro j12 a12 w12 M12
 repeat refine wp_seq ?_
 refine M12.d [.c 69 [] rv0,.s 70 [] (.p 0 8),.x 71 [(70,1)] (fv z1),.s 72 [] (.p 1 8),.x 73 [(72,3)] (fv z2),.c 74 [(69,0),(71,2),(73,4)] (fv c7),.m 12 [] 9,.u [(12,6),(74,5)] 9] [(6,(RG.z 4))] [(9,7,(ws c7))] [(ws x1++(ws y1++(ws z1))),(ws x2++(ws y2++(ws z2))),(RG.z 12),(ws c1),(ws c2),(ws c3),(ws c4),(ws c5),(ws c6),(ws c7)] [(4,(.p 2 0)),(8,(.p 5 0)),(9,(.p 6 0)),(10,(.p 7 0)),(11,(.p 8 0)),(12,(.p 9 0))] ⟨RG.cl (F3_c),RG.st,RG.ld u33 i33,RG.st,RG.ld u33 i33,RG.cl ((zAr C z1 z2).e hc7),RG.mk 9 64,RG.pt i33,trivial⟩ ?_
 intro j13 a13 w13 M13
 repeat refine wp_seq ?_
 refine M13.d [.c 75 [] rv0,.x 76 [] (fv c6),.x 77 [] (fv c6),.c 78 [(75,0),(76,1),(77,2)] (fv c8),.m 13 [] 10,.u [(13,4),(78,3)] 10] [(4,(RG.z 4))] [(10,5,(ws c8))] [(ws x1++(ws y1++(ws z1))),(ws x2++(ws y2++(ws z2))),(RG.z 12),(ws c1),(ws c2),(ws c3),(ws c4),(ws c5),(ws c6),(ws c7),(ws c8)] [(4,(.p 2 0)),(8,(.p 5 0)),(9,(.p 6 0)),(10,(.p 7 0)),(11,(.p 8 0)),(12,(.p 9 0)),(13,(.p 10 0))] ⟨RG.cl (F3_c),RG.ld u33 i33,RG.ld u33 i33,RG.cl ((zAr C c6 c6).e hc8),RG.mk 10 64,RG.pt i33,trivial⟩ ?_
 intro j14 a14 w14 M14
 repeat refine wp_seq ?_
 refine M14.d [.c 79 [] rv0,.x 80 [] (fv c8),.x 81 [] (fv c6),.c 82 [(79,0),(80,1),(81,2)] (fv c9),.m 14 [] 11,.u [(14,4),(82,3)] 11] [(4,(RG.z 4))] [(11,5,(ws c9))] [(ws x1++(ws y1++(ws z1))),(ws x2++(ws y2++(ws z2))),(RG.z 12),(ws c1),(ws c2),(ws c3),(ws c4),(ws c5),(ws c6),(ws c7),(ws c8),(ws c9)] [(4,(.p 2 0)),(8,(.p 5 0)),(9,(.p 6 0)),(10,(.p 7 0)),(11,(.p 8 0)),(12,(.p 9 0)),(13,(.p 10 0)),(14,(.p 11 0))] ⟨RG.cl (F3_c),RG.ld u33 i33,RG.ld u33 i33,RG.cl ((zAr C c8 c6).e hc9),RG.mk 11 64,RG.pt i33,trivial⟩ ?_
 intro j15 a15 w15 M15
 repeat refine wp_seq ?_
 refine M15.d [.c 83 [] rv0,.c 84 [] rv0,.c 85 [] rv0,.c 86 [] rv0,.x 87 [] (fv c5),.x 88 [] (fv c5),.c 89 [(86,3),(87,4),(88,5)] (fv c10),.x 90 [] (fv c7),.c 91 [(85,2),(89,6),(90,7)] (fv c11),.x 92 [] (fv c9),.c 93 [(84,1),(91,8),(92,9)] (fv c12),.c 94 [] rv0,.c 95 [] rv0,.x 96 [] (fv c4),.x 97 [] (fv c4),.c 98 [(95,12),(96,13),(97,14)] (fv c13),.x 99 [] (fv c8),.c 100 [(94,11),(98,15),(99,16)] (fv c14),.c 101 [(83,0),(93,10),(100,17)] (fv c15),.m 15 [] 12,.u [(15,19),(101,18)] 12] [(19,(RG.z 4))] [(12,20,(ws c15))] [(ws x1++(ws y1++(ws z1))),(ws x2++(ws y2++(ws z2))),(RG.z 12),(ws c1),(ws c2),(ws c3),(ws c4),(ws c5),(ws c6),(ws c7),(ws c8),(ws c9),(ws c15)] [(4,(.p 2 0)),(8,(.p 5 0)),(9,(.p 6 0)),(10,(.p 7 0)),(11,(.p 8 0)),(12,(.p 9 0)),(13,(.p 10 0)),(14,(.p 11 0)),(15,(.p 12 0))] ⟨RG.cl (F3_c),RG.cl (F3_c),RG.cl (F3_c),RG.cl (F3_c),RG.ld u33 i33,RG.ld u33 i33,RG.cl ((zAr C c5 c5).e hc10),RG.ld u33 i33,RG.cl ((zAr C c10 c7).e hc11),RG.ld u33 i33,RG.cl ((zDf C c11 c9).e hc12),RG.cl (F3_c),RG.cl (F3_c),RG.ld u33 i33,RG.ld u33 i33,RG.cl ((zEw C c4 c4).e hc13),RG.ld u33 i33,RG.cl ((zAr C c13 c8).e hc14),RG.cl ((zDf C c12 c14).e hc15),RG.mk 12 64,RG.pt i33,trivial⟩ ?_
 intro j16 a16 w16 M16
 repeat refine wp_seq ?_
 refine M16.d [.c 102 [] rv0,.x 103 [] (fv c6),.x 104 [] (fv c15),.c 105 [(102,0),(103,1),(104,2)] (fv c16),.c 106 [] rv0,.c 107 [] rv0,.x 108 [] (fv c5),.c 109 [] rv0,.c 110 [] rv0,.x 111 [] (fv c4),.x 112 [] (fv c8),.c 113 [(110,8),(111,9),(112,10)] (fv c17),.x 114 [] (fv c15),.c 115 [(109,7),(113,11),(114,12)] (fv c18),.c 116 [(107,5),(108,6),(115,13)] (fv c19),.c 117 [] rv0,.x 118 [] (fv c3),.x 119 [] (fv c9),.c 120 [(117,15),(118,16),(119,17)] (fv c20),.c 121 [(106,4),(116,14),(120,18)] (fv c21),.c 122 [] rv0,.x 123 [] (fv c9),.x 124 [] (fv c7),.c 125 [(122,20),(123,21),(124,22)] (fv c22),.x 126 [(105,3),(121,19),(125,23)] (rv c16 c21 c22),.u [(126,24)] 2] [] [(2,25,(ws c16++(ws c21++(ws c22))))] [(ws x1++(ws y1++(ws z1))),(ws x2++(ws y2++(ws z2))),(ws c16++(ws c21++(ws c22))),(ws c1),(ws c2),(ws c3),(ws c4),(ws c5),(ws c6),(ws c7),(ws c8),(ws c9),(ws c15)] [(4,(.p 2 0))] ⟨RG.cl (F3_c),RG.ld u33 i33,RG.ld u33 i33,RG.cl ((zAr C c6 c15).e hc16),RG.cl (F3_c),RG.cl (F3_c),RG.ld u33 i33,RG.cl (F3_c),RG.cl (F3_c),RG.ld u33 i33,RG.ld u33 i33,RG.cl ((zAr C c4 c8).e hc17),RG.ld u33 i33,RG.cl ((zDf C c17 c15).e hc18),RG.cl ((zAr C c5 c18).e hc19),RG.cl (F3_c),RG.ld u33 i33,RG.ld u33 i33,RG.cl ((zAr C c3 c9).e hc20),RG.cl ((zDf C c19 c20).e hc21),RG.cl (F3_c),RG.ld u33 i33,RG.ld u33 i33,RG.cl ((zAr C c9 c7).e hc22),RG.st,RG.pt i56,trivial⟩ ?_
 intro a17 w17 M17
 refine wp_ret ?_
 refine bodyPost_ret (v:=(rv c16 c21 c22)) (RG.zAb M17.st 4 72 rfl 2 _ rfl (M17.at (s:=(.p 2 0))) u56 i56) M17.sl.defers ?_
 exact ⟨_,rfl,M17.st.bel.below,rfl⟩
theorem rat_y_c (C:Fl3 P) (x y:Fin P)(hr:rt (x*x*x+7)=some y) :Gives 130 #[(fv x)] (.tuple #[rv x y 1,.bool true]):=by
 intro w
 obtain ⟨c1,hc1⟩:∃ c,c=x*x:=⟨_,rfl⟩
 obtain ⟨c2,hc2⟩:∃ c,c=c1*x:=⟨_,rfl⟩
 obtain ⟨c3,hc3⟩:∃ c,c=c2+(7:Fin P):=⟨_,rfl⟩
 have hfin:((.tuple #[(rv x y (1:Fin P)),(.bool true)]):Value)=(.tuple #[rv x y 1,.bool true]):=by
  subst_vars;rfl
 rw[← hfin]
 go_enter Tryz.func130,Tryz.ntmps130
 refine RG.M.enter [(0,(.v (fv x)))] 26 (by kernel_rfl) ?_
 intro a0 M0
 repeat refine wp_seq ?_
 refine M0.t [.m 1 [] 0,.m 2 [] 1,.x 3 [] (.bool false)] [(0,(ws x)),(1,(RG.z 12))] [] [(ws x),(RG.z 12)] [(1,(.p 0 0)),(2,(.p 1 0)),(3,(.v (.bool false)))] ⟨RG.mk 0 64,RG.mk 1 72,RG.st,trivial⟩ ?_
 intro j1 i1 a1 w1 M1
 repeat refine wp_seq ?_
 refine M1.d [.c 7 [] rv0,.c 8 [] rv0,.c 9 [] rv0,.c 10 [] rv0,.x 11 [] (fv x),.x 12 [] (fv x),.c 13 [(10,3),(11,4),(12,5)] (fv c1),.x 14 [] (fv x),.c 15 [(9,2),(13,6),(14,7)] (fv c2),.c 16 [] (fv (7:Fin P)),.c 17 [(8,1),(15,8),(16,9)] (fv c3),.c 18 [(7,0),(17,10)] (.tuple #[(fv y),(.bool true)]),.x 6 [(18,11)] (.tuple #[(fv y),(.bool true)]),.x 19 [(6,12)] (fv y),.x 20 [(6,12)] (.bool true),.m 4 [] 2,.u [(4,15),(19,13)] 2,.x 5 [(20,14)] (.bool true)] [(15,(RG.z 4))] [(2,16,(ws y))] [(ws x),(RG.z 12),(ws y)] [(1,(.p 0 0)),(2,(.p 1 0)),(3,(.v (.bool false))),(4,(.p 2 0)),(5,(.v (.bool true)))] ⟨RG.cl (F3_c),RG.cl (F3_c),RG.cl (F3_c),RG.cl (F3_c),RG.ld u33 i33,RG.ld u33 i33,RG.cl ((zAr C x x).e hc1),RG.ld u33 i33,RG.cl ((zAr C c1 x).e hc2),RG.cl (rSmall7_c C),RG.cl ((zEw C c2 (7:Fin P)).e hc3),RG.cl (f:=161) (args:=#[rv0,(fv c3)]) (v:=(.tuple #[(fv y),(.bool true)])) (rSqrt_y C (by subst_vars;exact hr)),RG.st,RG.st,RG.st,RG.mk 2 64,RG.pt i33,RG.st,trivial⟩ ?_
 intro j2 a2 w2 M2
 repeat refine wp_seq ?_
 refine M2.d [.x 21 [] (fv x),.x 22 [] (fv y),.c 23 [] (fv (1:Fin P)),.x 24 [(21,0),(22,1),(23,2)] (rv x y (1:Fin P)),.x 25 [] (.bool true),.u [(24,3)] 1,.x 3 [(25,4)] (.bool true)] [] [(1,5,(ws x++(ws y++(ws (1:Fin P)))))] [(ws x),(ws x++(ws y++(ws (1:Fin P)))),(ws y)] [(2,(.p 1 0)),(3,(.v (.bool true)))] ⟨RG.ld u33 i33,RG.ld u33 i33,RG.cl (zEu C),RG.st,RG.st,RG.pt i56,RG.st,trivial⟩ ?_
 intro a3 w3 M3
 refine wp_ret ?_
 refine bodyPost_ret (v:=(.tuple #[(rv x y (1:Fin P)),(.bool true)])) (RG.zAj M3.st 2 3 72 rfl 1 _ rfl (M3.at (s:=(.p 1 0))) _ (M3.at (s:=(.v (.bool true)))) u56 i56) M3.sl.defers ?_
 exact ⟨_,rfl,M3.st.bel.below,rfl⟩
theorem rat_n_c (C:Fl3 P) (x:Fin P)(hr:rt (x*x*x+7)=none) :Gives 130 #[(fv x)] (.tuple #[rv x 0 1,.bool false]):=by
 intro w
 obtain ⟨c1,hc1⟩:∃ c,c=x*x:=⟨_,rfl⟩
 obtain ⟨c2,hc2⟩:∃ c,c=c1*x:=⟨_,rfl⟩
 obtain ⟨c3,hc3⟩:∃ c,c=c2+(7:Fin P):=⟨_,rfl⟩
 have hfin:((.tuple #[(rv x (0:Fin P) (1:Fin P)),(.bool false)]):Value)=(.tuple #[rv x 0 1,.bool false]):=by
  subst_vars;rfl
 rw[← hfin]
 go_enter Tryz.func130,Tryz.ntmps130
 refine RG.M.enter [(0,(.v (fv x)))] 26 (by kernel_rfl) ?_
 intro a0 M0
 repeat refine wp_seq ?_
 refine M0.t [.m 1 [] 0,.m 2 [] 1,.x 3 [] (.bool false)] [(0,(ws x)),(1,(RG.z 12))] [] [(ws x),(RG.z 12)] [(1,(.p 0 0)),(2,(.p 1 0)),(3,(.v (.bool false)))] ⟨RG.mk 0 64,RG.mk 1 72,RG.st,trivial⟩ ?_
 intro j1 i1 a1 w1 M1
 repeat refine wp_seq ?_
 refine M1.d [.c 7 [] rv0,.c 8 [] rv0,.c 9 [] rv0,.c 10 [] rv0,.x 11 [] (fv x),.x 12 [] (fv x),.c 13 [(10,3),(11,4),(12,5)] (fv c1),.x 14 [] (fv x),.c 15 [(9,2),(13,6),(14,7)] (fv c2),.c 16 [] (fv (7:Fin P)),.c 17 [(8,1),(15,8),(16,9)] (fv c3),.c 18 [(7,0),(17,10)] (.tuple #[(fv (0:Fin P)),(.bool false)]),.x 6 [(18,11)] (.tuple #[(fv (0:Fin P)),(.bool false)]),.x 19 [(6,12)] (fv (0:Fin P)),.x 20 [(6,12)] (.bool false),.m 4 [] 2,.u [(4,15),(19,13)] 2,.x 5 [(20,14)] (.bool false)] [(15,(RG.z 4))] [(2,16,(ws (0:Fin P)))] [(ws x),(RG.z 12),(ws (0:Fin P))] [(1,(.p 0 0)),(2,(.p 1 0)),(3,(.v (.bool false))),(4,(.p 2 0)),(5,(.v (.bool false)))] ⟨RG.cl (F3_c),RG.cl (F3_c),RG.cl (F3_c),RG.cl (F3_c),RG.ld u33 i33,RG.ld u33 i33,RG.cl ((zAr C x x).e hc1),RG.ld u33 i33,RG.cl ((zAr C c1 x).e hc2),RG.cl (rSmall7_c C),RG.cl ((zEw C c2 (7:Fin P)).e hc3),RG.cl (f:=161) (args:=#[rv0,(fv c3)]) (v:=(.tuple #[(fv (0:Fin P)),(.bool false)])) (rSqrt_n C (by subst_vars;exact hr)),RG.st,RG.st,RG.st,RG.mk 2 64,RG.pt i33,RG.st,trivial⟩ ?_
 intro j2 a2 w2 M2
 repeat refine wp_seq ?_
 refine M2.d [.x 21 [] (fv x),.x 22 [] (fv (0:Fin P)),.c 23 [] (fv (1:Fin P)),.x 24 [(21,0),(22,1),(23,2)] (rv x (0:Fin P) (1:Fin P)),.x 25 [] (.bool false),.u [(24,3)] 1,.x 3 [(25,4)] (.bool false)] [] [(1,5,(ws x++(ws (0:Fin P)++(ws (1:Fin P)))))] [(ws x),(ws x++(ws (0:Fin P)++(ws (1:Fin P)))),(ws (0:Fin P))] [(2,(.p 1 0)),(3,(.v (.bool false)))] ⟨RG.ld u33 i33,RG.ld u33 i33,RG.cl (zEu C),RG.st,RG.st,RG.pt i56,RG.st,trivial⟩ ?_
 intro a3 w3 M3
 refine wp_ret ?_
 refine bodyPost_ret (v:=(.tuple #[(rv x (0:Fin P) (1:Fin P)),(.bool false)])) (RG.zAj M3.st 2 3 72 rfl 1 _ rfl (M3.at (s:=(.p 1 0))) _ (M3.at (s:=(.v (.bool false)))) u56 i56) M3.sl.defers ?_
 exact ⟨_,rfl,M3.st.bel.below,rfl⟩
end
section
open Go.RowKit Go.Sort Go.Deep
variable {P:Nat} [NeZero P] {N:Nat}
theorem qMod_c (O:Ord N) (s:Bs) (hs:s.size≤1048576):Gives 55 #[rv1,.string ⟨s⟩] (nv (redu N s)):=fun w =>
 (rMod_any _ _ _ _ _ _ _ _ N ⟨s⟩ O.ref hs w).mono (by rintro e w' ⟨v,rfl,hb,hF⟩;exact ⟨_,rfl,hb,hF.nv⟩)
theorem qChallenge_c (O:Ord N) (y:Nat) (L:Bs) (w:World) (hl:L.size=32) (hL:SP.RLog w y L):Calls Tryz.prog 88 #[.pointer (some ⟨y,0,none⟩)] w (Ret fun e w'=>SP.Only y 0 1 w w'∧e=nv (cha N L)):=by
 obtain ⟨A,hA⟩:∃ A,Hid (SP.askL L [99,104,97,108,108,101,110,103,101] 64=A):=⟨_,rfl⟩
 have hAs:A.size=64:=by rw[← hA.out];exact SP.askL_size _ _ _
 have hr:cha N L=redu N A:=by unfold cha;rw[hA.out]
 rw[hr]
 clear hr
 have hy:=hL.lt
 obtain ⟨w1,hw1⟩:∃ w1,Hid (w.alloc (.cells #[.int .u64 0,.int .u64 0,.int .u64 0,.int .u64 0] 64)=w1):=⟨_,rfl⟩
 have K1:Hid (Row w1 w.heap.size [.int .u64 0,.int .u64 0,.int .u64 0,.int .u64 0]∧Below w.heap.size w w1):=by rw[← hw1.out];exact ⟨zAi w _ _,zAf w _⟩
 go_enter Tryz.func88,Tryz.ntmps88
 go_wp2_with fail
 rw[hw1.out]
 refine (Q3_c w1).mono ?_
 rintro e w2 ⟨v,rfl,hb2,rfl⟩
 have K2:Hid (Row w2 w.heap.size [.int .u64 0,.int .u64 0,.int .u64 0,.int .u64 0]∧Below w.heap.size w w2∧SP.RLog w2 y L):=⟨K1.out.1.below hb2,K1.out.2.trans (hb2.mono K1.out.2.size),(hL.below K1.out.2).below hb2⟩
 clear hb2 K1 hw1
 go_wp2_with fail
 refine (SP.refAsk_any y L ⟨#[99,104,97,108,108,101,110,103,101]⟩ 64 w2 (by decide) (by decide) hl K2.out.2.2).mono ?_
 rintro e w3 ⟨rfl,hO,-⟩
 rw[show SP.askL L (⟨#[99,104,97,108,108,101,110,103,101]⟩:ByteArray).data.toList 64=A from hA.out]
 have K3:Hid (Row w3 w.heap.size [.int .u64 0,.int .u64 0,.int .u64 0,.int .u64 0]∧SP.Only y 0 1 w w3):=⟨K2.out.1.only hO (by omega),(SP.Only.of_below K2.out.2.1 rfl hy).trans hO⟩
 clear hO K2
 go_wp2_with fail
 refine (qMod_c O A (by omega) w3).mono ?_
 rintro e w4 ⟨v,rfl,hb4,rfl⟩
 have K4:Hid (Row w4 w.heap.size [.int .u64 0,.int .u64 0,.int .u64 0,.int .u64 0]∧SP.Only y 0 1 w w4):=⟨K3.out.1.below hb4,K3.out.2.trans (SP.Only.of_below hb4 rfl (Nat.lt_of_lt_of_le hy K3.out.2.size))⟩
 clear hb4 K3
 obtain ⟨m,hm⟩:∃ m,Hid (redu N A=m):=⟨_,rfl⟩
 rw[hm.out]
 obtain ⟨w5,hw5⟩:∃ w5,Hid (w4.setCells w.heap.size 0 (wn m)=w5):=⟨_,rfl⟩
 have K5:Hid (Row w5 w.heap.size (wn m)∧SP.Only y 0 1 w w5):=by
  rw[← hw5.out]
  exact ⟨K4.out.1.put rfl,zB9 K4.out.2 hy (Nat.le_refl _) _⟩
 obtain ⟨vm,hvm⟩:∃ vm,Hid (nv m=vm):=⟨_,rfl⟩
 rw[hvm.out]
 go_wp2_with (refine wpList_store_mid rfl 64 _ _ rfl w.heap.size 0 (wn m).toArray ?_ ?_ ?_ ?_ ?_ ?_;rfl;exact hvm.out.symm;exact K4.out.1.2.2;exact i33;exact zCK m;rw[show (wn m).toArray.toList=wn m from rfl,hw5.out])
 refine bodyPost_ret (zAy 2 64 rfl K5.out.1 rfl u33 i33) rfl ?_
 exact ⟨_,rfl,K5.out.2,by rw[hm.out];rfl⟩
def logS (a b c:List UInt8):Bs:=SP.sayL (SP.sayL (SP.sayL (SP.newL [115,105,103,110]) [112,117,98,108,105,99] a) [102,105,114,115,116] b) [116,101,120,116] c
def asg (N:Nat) (a b c:List UInt8):Nat:=cha N (logS a b c)
theorem asg_lt (O:Ord N) (a b c:List UInt8):asg N a b c<N:=redu_lt O _
theorem qAsked_c (O:Ord N) (a b c:ByteArray) (ha:a.size≤16384) (hb:b.size≤16384) (hc:c.size≤16384):Gives 36 #[.string a,.string b,.string c] (nv (asg N a.data.toList b.data.toList c.data.toList)):=by
 intro w
 obtain ⟨L0,h0⟩:∃ L,Hid (SP.newL [115,105,103,110]=L):=⟨_,rfl⟩
 obtain ⟨L1,h1⟩:∃ L,Hid (SP.sayL L0 [112,117,98,108,105,99] a.data.toList=L):=⟨_,rfl⟩
 obtain ⟨L2,h2⟩:∃ L,Hid (SP.sayL L1 [102,105,114,115,116] b.data.toList=L):=⟨_,rfl⟩
 obtain ⟨L3,h3⟩:∃ L,Hid (SP.sayL L2 [116,101,120,116] c.data.toList=L):=⟨_,rfl⟩
 have s0:L0.size=32:=by rw[← h0.out];exact SP.zEJ _
 have s1:L1.size=32:=by rw[← h1.out];exact SP.zBT _ _ _
 have s2:L2.size=32:=by rw[← h2.out];exact SP.zBT _ _ _
 have s3:L3.size=32:=by rw[← h3.out];exact SP.zBT _ _ _
 have hr:asg N a.data.toList b.data.toList c.data.toList=cha N L3:=by unfold asg logS;rw[h0.out,h1.out,h2.out,h3.out]
 rw[hr]
 clear hr
 obtain ⟨w1,hw1⟩:∃ w1,Hid (w.alloc (.cells #[.int .u64 0,.int .u64 0,.int .u64 0,.int .u64 0] 64)=w1):=⟨_,rfl⟩
 have K1:Hid (Row w1 w.heap.size [.int .u64 0,.int .u64 0,.int .u64 0,.int .u64 0]∧Below w.heap.size w w1∧w.heap.size<w1.heap.size):=by rw[← hw1.out];exact ⟨zAi w _ _,zAf w _,by rw[World.size_alloc];omega⟩
 go_enter Tryz.func36,Tryz.ntmps36
 go_wp2_with fail
 rw[hw1.out]
 clear hw1
 refine (SP.refNew_any ⟨#[115,105,103,110]⟩ w1 (by decide)).mono ?_
 rintro e w2 ⟨y,rfl,hy,hb2,hL2⟩
 rw[show SP.newL (⟨#[115,105,103,110]⟩:ByteArray).data.toList=L0 from h0.out] at hL2
 have hyw:w.heap.size<y:=by have:=K1.out.2.2;omega
 have K2:Hid (Row w2 w.heap.size [.int .u64 0,.int .u64 0,.int .u64 0,.int .u64 0]∧Below w.heap.size w w2∧SP.RLog w2 y L0):=⟨K1.out.1.below hb2,K1.out.2.1.trans (hb2.mono K1.out.2.1.size),hL2⟩
 clear hb2 hL2 K1 hy
 go_wp2_with fail
 refine (SP.zDC y L0 ⟨#[112,117,98,108,105,99]⟩ a w2 (by decide) ha s0 K2.out.2.2).mono ?_
 rintro e w3 ⟨rfl,hO,hL⟩
 rw[show SP.sayL L0 (⟨#[112,117,98,108,105,99]⟩:ByteArray).data.toList a.data.toList=L1 from h1.out] at hL
 have K3:Hid (Row w3 w.heap.size [.int .u64 0,.int .u64 0,.int .u64 0,.int .u64 0]∧Below w.heap.size w w3∧SP.RLog w3 y L1):=⟨K2.out.1.only hO (by omega),K2.out.2.1.trans (hO.below K2.out.2.1.size (by omega)),hL⟩
 clear hO hL K2
 go_wp2_with fail
 refine (SP.zDC y L1 ⟨#[102,105,114,115,116]⟩ b w3 (by decide) hb s1 K3.out.2.2).mono ?_
 rintro e w4 ⟨rfl,hO,hL⟩
 rw[show SP.sayL L1 (⟨#[102,105,114,115,116]⟩:ByteArray).data.toList b.data.toList=L2 from h2.out] at hL
 have K4:Hid (Row w4 w.heap.size [.int .u64 0,.int .u64 0,.int .u64 0,.int .u64 0]∧Below w.heap.size w w4∧SP.RLog w4 y L2):=⟨K3.out.1.only hO (by omega),K3.out.2.1.trans (hO.below K3.out.2.1.size (by omega)),hL⟩
 clear hO hL K3
 go_wp2_with fail
 refine (SP.zDC y L2 ⟨#[116,101,120,116]⟩ c w4 (by decide) hc s2 K4.out.2.2).mono ?_
 rintro e w5 ⟨rfl,hO,hL⟩
 rw[show SP.sayL L2 (⟨#[116,101,120,116]⟩:ByteArray).data.toList c.data.toList=L3 from h3.out] at hL
 have K5:Hid (Row w5 w.heap.size [.int .u64 0,.int .u64 0,.int .u64 0,.int .u64 0]∧Below w.heap.size w w5∧SP.RLog w5 y L3):=⟨K4.out.1.only hO (by omega),K4.out.2.1.trans (hO.below K4.out.2.1.size (by omega)),hL⟩
 clear hO hL K4
 go_wp2_with fail
 refine (qChallenge_c O y L3 w5 s3 K5.out.2.2).mono ?_
 rintro e w6 ⟨v,rfl,hO,rfl⟩
 have K6:Hid (Row w6 w.heap.size [.int .u64 0,.int .u64 0,.int .u64 0,.int .u64 0]∧Below w.heap.size w w6):=⟨K5.out.1.only hO (by omega),K5.out.2.1.trans (hO.below K5.out.2.1.size (by omega))⟩
 clear hO K5
 obtain ⟨m,hm⟩:∃ m,Hid (cha N L3=m):=⟨_,rfl⟩
 rw[hm.out]
 obtain ⟨w7,hw7⟩:∃ w7,Hid (w6.setCells w.heap.size 0 (wn m)=w7):=⟨_,rfl⟩
 have K7:Hid (Row w7 w.heap.size (wn m)∧Below w.heap.size w w7):=by rw[← hw7.out];exact ⟨K6.out.1.put rfl,RG.below_setCells (Nat.le_refl _) _ _ _ K6.out.2⟩
 obtain ⟨vm,hvm⟩:∃ vm,Hid (nv m=vm):=⟨_,rfl⟩
 rw[hvm.out]
 go_wp2_with (refine wpList_store_mid rfl 64 _ _ rfl w.heap.size 0 (wn m).toArray ?_ ?_ ?_ ?_ ?_ ?_;rfl;exact hvm.out.symm;exact K6.out.1.2.2;exact i33;exact zCK m;rw[show (wn m).toArray.toList=wn m from rfl,hw7.out])
 refine bodyPost_ret (zAy 6 64 rfl K7.out.1 rfl u33 i33) rfl ?_
 exact ⟨_,rfl,K7.out.2,by rw[hm.out];rfl⟩
def z12:Array Value:=#[.int .u64 0,.int .u64 0,.int .u64 0,.int .u64 0,.int .u64 0,.int .u64 0,.int .u64 0,.int .u64 0,.int .u64 0,.int .u64 0,.int .u64 0,.int .u64 0]
def W5 (w:World):World:=(w.alloc (.cells z12 72)).alloc (.cells (madeCells #[.int .u8 0] 33) 5)
theorem W5_st (w:World):RG.St w w.heap.size [] [z12.toList] [w.heap.size] (W5 w):=(RG.St.new w z12.toList 72).more (zAf _ _)
theorem conv33 (w:World):(convert 22 9 (.slice (some ⟨w.heap.size+1,0,none⟩) 33 33)).run Tryz.prog (W5 w)=.ok (.string ⟨zs33⟩) (W5 w):=
 conv_str Tryz.prog 22 9 5 slice22 int5 str9 _ _ 0 33 33 _ (made33 w _) (by decide)
theorem str_eq (a:Bs):((⟨a⟩:ByteArray).toList == (⟨a⟩:ByteArray).toList)=true:=by simp
theorem zFM {a b:Bs} (h:¬ a=b):((⟨a⟩:ByteArray).toList == (⟨b⟩:ByteArray).toList)=false:=by
 rw[ByteArray.toList_eq,ByteArray.toList_eq]
 simp only[beq_eq_false_iff_ne,ne_eq]
 exact fun e=>h (Array.toList_inj.1 e)
theorem slS (bs:Bs) (hs:bs.size=33) (w:World):(Instr.sliceAt 9 (.string ⟨bs⟩) (some (.int .i64 1)) none none).run Tryz.prog w=.ok (.string ⟨tl33 bs⟩) w:=by
 have h:(⟨bs⟩:ByteArray).size=33:=hs
 go_simp
 have h2:((⟨bs⟩:ByteArray).extract 1 33).data=tl33 bs:=by rw[ByteArray.data_extract];rfl
 rw[← h2]
theorem mark_of {bs:Bs} (hs:bs.size=33) (hp:0<(⟨bs⟩:ByteArray).size):(((⟨bs⟩:ByteArray)[0]'hp).toNat:Int)=ub bs[0]!:=by
 rw[getElem!_pos bs 0 (by omega)]
 rfl
theorem ixS (bs:Bs) (hs:bs.size=33) (m:Int) (hm:ub bs[0]! = m) (w:World):(Instr.index 9 (.string ⟨bs⟩) (.int .i64 0)).run Tryz.prog w=.ok (.int .u8 m) w:=by
 have h:(⟨bs⟩:ByteArray).size=33:=hs
 have h2:∀ hp,(((⟨bs⟩:ByteArray)[0]'hp).toNat:Int)=m:=fun hp=>by rw[mark_of hs,hm]
 go_simp
theorem rNumber_y (C:Fl3 P) (bs:Bs) (hs:bs.size=32) {x:Fin P} (hx:beV bs.toList=x.val):Gives 79 #[rv0,.string ⟨bs⟩] (.tuple #[fv x,.bool true]):=fun w =>
 (zCV _ _ _ _ _ _ _ _ P ⟨bs⟩ C.ref w).mono (by
  rintro e w' ⟨v,rfl,hb,a,b,c,d,ok,rfl,h1,h2,h3,-⟩
  cases ok with
  | false=>exact absurd ⟨hs,by rw[hx];exact x.isLt⟩ (h2 rfl)
  | true =>
   have h4:=(h1 rfl).2
   rw[hx] at h4
   refine ⟨_,rfl,hb,?_⟩
   rw[C.toFld.four x |>.inj h4])
theorem rNumber_n (C:Fl3 P) (bs:Bs) (hs:bs.size=32) (hx:¬ beV bs.toList<P):Gives 79 #[rv0,.string ⟨bs⟩] (.tuple #[nv (beV bs.toList),.bool false]):=fun w =>
 (zCV _ _ _ _ _ _ _ _ P ⟨bs⟩ C.ref w).mono (by
  rintro e w' ⟨v,rfl,hb,a,b,c,d,ok,rfl,h1,h2,h3,-⟩
  cases ok with
  | true=>exact absurd (h1 rfl).1.2 hx
  | false =>
   have h4:=h3 hs
   refine ⟨_,rfl,hb,?_⟩
   rw[h4.nv])
def n12 (P:Nat) [NeZero P]:List Value:=ws (0:Fin P)++(ws (1:Fin P)++ws (0:Fin P))
theorem rr_zero (C:Fl3 P) (w:World):Calls Tryz.prog 92 #[.string ⟨zs33⟩] w (Ret fun e w'=>Below w.heap.size w w'∧e=.tuple #[rv (0:Fin P) 1 0,.bool true]):=by
 have hmk:=mk33
 have hcv:=conv33 w
 have hse:=str_eq zs33
 unfold W5 z12 at hcv
 have hN:=None_c C
 have hrv:rv (0:Fin P) 1 0=.agg (n12 P).toArray:=rfl
 rw[hrv] at hN ⊢
 have hln:(n12 P).length=12:=rfl
 have hone:(n12 P).all (·.oneCell')=true:=rfl
 generalize n12 P=N at hN hln hone ⊢
 go_enter Tryz.func92,Tryz.ntmps92
 go_wp2_with fail
 refine (hN _).mono ?_
 rintro e w1 ⟨v,rfl,hb,rfl⟩
 obtain ⟨w2,s0,s1,s2,hS⟩:=(RG.St.more (W5_st w) hb).store1 (P:=Tryz.prog) 72 (D:=N) hln (by rw[hln];exact i56) hone
 clear hcv hmk hN hse
 go_wp2
 refine bodyPost_ret (v:=.tuple #[.agg N.toArray,.bool true]) (RG.zAj hS 2 3 72 rfl 0 _ rfl rfl _ rfl u56 (by rw[hln];exact i56)) rfl ?_
 exact ⟨_,rfl,hS.bel.below,rfl⟩
theorem rr_len (C:Fl3 P) (bs:Bs) (hs:¬ bs.size=33) (w:World):Calls Tryz.prog 92 #[.string ⟨bs⟩] w (Ret fun e w'=>Below w.heap.size w w'∧e=.tuple #[rv (0:Fin P) 0 0,.bool false]):=by
 have hmk:=mk33
 have hcv:=conv33 w
 have hse:=zFM (a:=bs) (b:=zs33) (fun h=>hs (by rw[h];rfl))
 unfold W5 z12 at hcv
 have hs2:¬ (⟨bs⟩:ByteArray).size=33:=hs
 rw[← zFF]
 go_enter Tryz.func92,Tryz.ntmps92
 go_wp2
 refine bodyPost_ret (v:=.tuple #[.agg z12,.bool false]) (RG.zAj (W5_st w) 2 3 72 rfl 0 _ rfl rfl _ rfl u56 i56) rfl ?_
 exact ⟨_,rfl,(W5_st w).bel.below,rfl⟩
theorem rr_mark (C:Fl3 P) (bs:Bs) (hs:bs.size=33) (hz:¬ bs=zs33) (m:Int) (hm:ub bs[0]! = m) (hm2:¬ m=2) (hm3:¬ m=3) (w:World):Calls Tryz.prog 92 #[.string ⟨bs⟩] w (Ret fun e w'=>Below w.heap.size w w'∧e=.tuple #[rv (0:Fin P) 0 0,.bool false]):=by
 have hmk:=mk33
 have hcv:=conv33 w
 have hse:=zFM hz
 unfold W5 z12 at hcv
 have hs2:(⟨bs⟩:ByteArray).size=33:=hs
 have hix:=ixS bs hs m hm
 have e2:(m != 2)=true:=by simpa using hm2
 have e3:(m != 3)=true:=by simpa using hm3
 rw[← zFF]
 go_enter Tryz.func92,Tryz.ntmps92
 go_wp2
 refine bodyPost_ret (v:=.tuple #[.agg z12,.bool false]) (RG.zAj (W5_st w) 2 3 72 rfl 0 _ rfl rfl _ rfl u56 i56) rfl ?_
 exact ⟨_,rfl,(W5_st w).bel.below,rfl⟩
theorem rr_num (C:Fl3 P) (m:Nat) (bs:Bs) (w:World) (hs:bs.size=33) (hz:¬ bs=zs33) (hm:ub bs[0]! = 2∨ub bs[0]! = 3) (hnum:Gives 79 #[rv0,.string ⟨tl33 bs⟩] (.tuple #[nv m,.bool false])):Calls Tryz.prog 92 #[.string ⟨bs⟩] w (Ret fun e w'=>Below w.heap.size w w'∧e=.tuple #[rv (0:Fin P) 0 0,.bool false]):=by
 rcases hm with hm|hm
 all_goals
  have hmk:=mk33
  have hcv:=conv33 w
  have hse:=zFM hz
  unfold W5 z12 at hcv
  have hs2:(⟨bs⟩:ByteArray).size=33:=hs
  have hix:=ixS bs hs _ hm
  have hS0:=W5_st w
  unfold W5 z12 at hS0
  go_enter Tryz.func92,Tryz.ntmps92
  go_wp2_with fail
  rename_i hK
  clear hmk hcv hse hs2 hix
  generalize (w.alloc _).alloc _=w0 at hS0 ⊢
  refine RG.mid3 (v0:=.string ⟨bs⟩) (v1:=.pointer (some ⟨w.heap.size,0,none⟩)) (v2:=.bool false) (n:=48) 0 2 3 rfl rfl rfl rfl rfl ?_
  intro a0 sl0 f0 f2 f3
  have M0:RG.M w w.heap.size [] 48 [(RG.z 12)] [w.heap.size] [(0,(.v (.string ⟨bs⟩))),(2,(.p 0 0)),(3,(.v (.bool false)))] a0 _:=⟨hS0,sl0,⟨f0,f2,f3,trivial⟩⟩
  repeat refine wp_seq ?_
  refine M0.d [.c 27 [] rv0,.x 28 [] (.string ⟨bs⟩),.x 29 [(28,1)] (.string ⟨tl33 bs⟩),.c 30 [(27,0),(29,2)] (.tuple #[(nv m),(.bool false)]),.x 26 [(30,3)] (.tuple #[(nv m),(.bool false)]),.x 31 [(26,4)] (nv m),.x 32 [(26,4)] (.bool false),.m 4 [] 1,.u [(4,7),(31,5)] 1,.x 5 [(32,6)] (.bool false)] [(7,(RG.z 4))] [(1,8,(wn m))] [(RG.z 12),(wn m)] [(2,(.p 0 0)),(3,(.v (.bool false))),(5,(.v (.bool false)))] ⟨RG.cl (F3_c),RG.st,RG.zBF rfl 9 28 (.int .i64 1) (.string ⟨bs⟩) (.string ⟨tl33 bs⟩) rfl rfl RG.sx (slS bs hs),RG.cl (hnum),RG.st,RG.st,RG.st,RG.mk 1 64,RG.pt i33,RG.st,trivial⟩ ?_
  intro j1 a1 w1 M1
  refine hK _ _ ?_
  repeat refine wp_seq ?_
  refine M1.u [.x 33 [] (.bool false),.x 34 [(33,0)] (.bool true)] [(2,(.p 0 0)),(3,(.v (.bool false))),(34,(.v (.bool true)))] ⟨RG.st,RG.st,trivial⟩ ?_
  intro a2 w2 M2
  repeat refine wp_seq ?_
  refine wp_cond_true M2.ev ?_
  repeat refine wp_seq ?_
  refine M2.t [.x 35 [] (rv (0:Fin P) (0:Fin P) (0:Fin P)),.u [(35,0)] 0,.x 3 [] (.bool false)] [] [(0,1,(ws (0:Fin P)++(ws (0:Fin P)++(ws (0:Fin P)))))] [(ws (0:Fin P)++(ws (0:Fin P)++(ws (0:Fin P)))),(wn m)] [(2,(.p 0 0)),(3,(.v (.bool false)))] ⟨RG.se (zFF (P:=P)),RG.pt i56,RG.st,trivial⟩ ?_
  intro a3 w3 M3
  refine wp_ret ?_
  refine bodyPost_ret (v:=(.tuple #[(rv (0:Fin P) (0:Fin P) (0:Fin P)),(.bool false)])) (RG.zAj M3.st 2 3 72 rfl 0 _ rfl (M3.at (s:=(.p 0 0))) _ (M3.at (s:=(.v (.bool false)))) u56 i56) M3.sl.defers ?_
  exact ⟨_,rfl,M3.st.bel.below,rfl⟩
theorem rr_some (C:Fl3 P) (bs:Bs) (x y:Fin P) (b:Bool) (w:World) (hs:bs.size=33) (hz:¬ bs=zs33) (hm:ub bs[0]! = 2∨ub bs[0]! = 3) (hx:beV (tl33 bs).toList=x.val) (hat:Gives 130 #[(fv x)] (.tuple #[rv x y 1,.bool b])):Calls Tryz.prog 92 #[.string ⟨bs⟩] w (Ret fun e w'=>Below w.heap.size w w'∧e=.tuple #[rv x (if ub bs[0]! = 3 then 0-y else y) 1,.bool b]):=by
 rcases hm with hm|hm
 case' inl=>rw[if_neg (by rw[hm];decide)]
 case' inr =>
  rw[if_pos hm]
  generalize hy2:0-y=y2
 all_goals
  have hmk:=mk33
  have hcv:=conv33 w
  have hse:=zFM hz
  unfold W5 z12 at hcv
  have hs2:(⟨bs⟩:ByteArray).size=33:=hs
  have hix:=ixS bs hs _ hm
  have hS0:=W5_st w
  unfold W5 z12 at hS0
  go_enter Tryz.func92,Tryz.ntmps92
  go_wp2_with fail
  rename_i hK
  clear hmk hcv hse hs2 hix
  generalize (w.alloc _).alloc _=w0 at hS0 ⊢
  refine RG.mid3 (v0:=.string ⟨bs⟩) (v1:=.pointer (some ⟨w.heap.size,0,none⟩)) (v2:=.bool false) (n:=48) 0 2 3 rfl rfl rfl rfl rfl ?_
  intro a0 sl0 f0 f2 f3
  have M0:RG.M w w.heap.size [] 48 [(RG.z 12)] [w.heap.size] [(0,(.v (.string ⟨bs⟩))),(2,(.p 0 0)),(3,(.v (.bool false)))] a0 _:=⟨hS0,sl0,⟨f0,f2,f3,trivial⟩⟩
  repeat refine wp_seq ?_
  refine M0.d [.c 27 [] rv0,.x 28 [] (.string ⟨bs⟩),.x 29 [(28,1)] (.string ⟨tl33 bs⟩),.c 30 [(27,0),(29,2)] (.tuple #[(fv x),(.bool true)]),.x 26 [(30,3)] (.tuple #[(fv x),(.bool true)]),.x 31 [(26,4)] (fv x),.x 32 [(26,4)] (.bool true),.m 4 [] 1,.u [(4,7),(31,5)] 1,.x 5 [(32,6)] (.bool true)] [(7,(RG.z 4))] [(1,8,(ws x))] [(RG.z 12),(ws x)] [(0,(.v (.string ⟨bs⟩))),(2,(.p 0 0)),(3,(.v (.bool false))),(4,(.p 1 0)),(5,(.v (.bool true)))] ⟨RG.cl (F3_c),RG.st,RG.zBF rfl 9 28 (.int .i64 1) (.string ⟨bs⟩) (.string ⟨tl33 bs⟩) rfl rfl RG.sx (slS bs hs),RG.cl (rNumber_y C (tl33 bs) (zBy hs) hx),RG.st,RG.st,RG.st,RG.mk 1 64,RG.pt i33,RG.st,trivial⟩ ?_
  intro j1 a1 w1 M1
  refine hK _ _ ?_
  repeat refine wp_seq ?_
  refine M1.u [.x 33 [] (.bool true),.x 34 [(33,0)] (.bool false)] [(0,(.v (.string ⟨bs⟩))),(2,(.p 0 0)),(3,(.v (.bool false))),(4,(.p 1 0)),(5,(.v (.bool true))),(34,(.v (.bool false)))] ⟨RG.st,RG.st,trivial⟩ ?_
  intro a2 w2 M2
  repeat refine wp_seq ?_
  refine wp_cond_false M2.ev ?_
  refine wp_skip ?_
  repeat refine wp_seq ?_
  refine M2.t [.x 37 [] (fv x),.c 38 [(37,0)] (.tuple #[(rv x y (1:Fin P)),(.bool b)]),.x 36 [(38,1)] (.tuple #[(rv x y (1:Fin P)),(.bool b)]),.x 39 [(36,2)] (rv x y (1:Fin P)),.x 40 [(36,2)] (.bool b),.m 6 [] 2,.u [(6,5),(39,3)] 2,.x 5 [(40,4)] (.bool b)] [(5,(RG.z 12))] [(2,6,(ws x++(ws y++(ws (1:Fin P)))))] [(RG.z 12),(ws x),(ws x++(ws y++(ws (1:Fin P))))] [(0,(.v (.string ⟨bs⟩))),(2,(.p 0 0)),(3,(.v (.bool false))),(5,(.v (.bool b))),(6,(.p 2 0))] ⟨RG.ld u33 i33,RG.cl (hat),RG.st,RG.st,RG.st,RG.mk 2 72,RG.pt i56,RG.st,trivial⟩ ?_
  intro j3 a3 w3 M3
  repeat refine wp_seq ?_
 · refine M3.u [.x 41 [] (.string ⟨bs⟩),.x 42 [(41,0)] (.int .u8 3),.x 43 [(42,1)] (.bool true)] [(2,(.p 0 0)),(3,(.v (.bool false))),(5,(.v (.bool b))),(6,(.p 2 0)),(43,(.v (.bool true)))] ⟨RG.st,RG.zFv rfl 9 41 (.int .i64 0) (.string ⟨bs⟩) (.int .u8 3) rfl rfl RG.sx (ixS bs hs 3 hm),RG.st,trivial⟩ ?_
   intro a4 w4 M4
   repeat refine wp_seq ?_
   refine wp_cond_true M4.ev ?_
   repeat refine wp_seq ?_
   refine M4.t [.x 44 [] (rv x y (1:Fin P)),.c 45 [(44,0)] (rv x y2 (1:Fin P)),.u [(45,1)] 2] [] [(2,2,(ws x++(ws y2++(ws (1:Fin P)))))] [(RG.z 12),(ws x),(ws x++(ws y2++(ws (1:Fin P))))] [(2,(.p 0 0)),(3,(.v (.bool false))),(5,(.v (.bool b))),(6,(.p 2 0))] ⟨RG.ld u56 i56,RG.cl (f:=65) (args:=#[(rv x y (1:Fin P))]) (v:=(rv x y2 (1:Fin P))) (hy2 ▸ rNeg3_c C x y 1),RG.pt i56,trivial⟩ ?_
   intro a5 w5 M5
   repeat refine wp_seq ?_
   refine M5.t [.x 46 [] (rv x y2 (1:Fin P)),.x 47 [] (.bool b),.u [(46,0)] 0,.x 3 [(47,1)] (.bool b)] [] [(0,2,(ws x++(ws y2++(ws (1:Fin P)))))] [(ws x++(ws y2++(ws (1:Fin P)))),(ws x),(ws x++(ws y2++(ws (1:Fin P))))] [(2,(.p 0 0)),(3,(.v (.bool b)))] ⟨RG.ld u56 i56,RG.st,RG.pt i56,RG.st,trivial⟩ ?_
   intro a6 w6 M6
   refine wp_ret ?_
   refine bodyPost_ret (v:=(.tuple #[(rv x y2 (1:Fin P)),(.bool b)])) (RG.zAj M6.st 2 3 72 rfl 0 _ rfl (M6.at (s:=(.p 0 0))) _ (M6.at (s:=(.v (.bool b)))) u56 i56) M6.sl.defers ?_
   exact ⟨_,rfl,M6.st.bel.below,rfl⟩
 refine M3.u [.x 41 [] (.string ⟨bs⟩),.x 42 [(41,0)] (.int .u8 2),.x 43 [(42,1)] (.bool false)] [(2,(.p 0 0)),(3,(.v (.bool false))),(5,(.v (.bool b))),(6,(.p 2 0)),(43,(.v (.bool false)))] ⟨RG.st,RG.zFv rfl 9 41 (.int .i64 0) (.string ⟨bs⟩) (.int .u8 2) rfl rfl RG.sx (ixS bs hs 2 hm),RG.st,trivial⟩ ?_
 intro a4 w4 M4
 repeat refine wp_seq ?_
 refine wp_cond_false M4.ev ?_
 refine wp_skip ?_
 repeat refine wp_seq ?_
 refine M4.t [.x 46 [] (rv x y (1:Fin P)),.x 47 [] (.bool b),.u [(46,0)] 0,.x 3 [(47,1)] (.bool b)] [] [(0,2,(ws x++(ws y++(ws (1:Fin P)))))] [(ws x++(ws y++(ws (1:Fin P)))),(ws x),(ws x++(ws y++(ws (1:Fin P))))] [(2,(.p 0 0)),(3,(.v (.bool b)))] ⟨RG.ld u56 i56,RG.st,RG.pt i56,RG.st,trivial⟩ ?_
 intro a5 w5 M5
 refine wp_ret ?_
 refine bodyPost_ret (v:=(.tuple #[(rv x y (1:Fin P)),(.bool b)])) (RG.zAj M5.st 2 3 72 rfl 0 _ rfl (M5.at (s:=(.p 0 0))) _ (M5.at (s:=(.v (.bool b)))) u56 i56) M5.sl.defers ?_
 exact ⟨_,rfl,M5.st.bel.below,rfl⟩
end
section
open Go.RowKit Go.Sort
variable {P:Nat} [NeZero P] {N:Nat}
def FracT (t:T3 P) (p:EC.Pt P):Prop:=EC.Frac t.1 t.2.1 t.2.2 p∧EC.On p
def dbF (t:T3 P):T3 P:=(EC.fdE t.2.1 t.2.2*EC.fdT t.1 t.2.1 t.2.2,EC.fdD t.1*(t.1*(EC.fdE t.2.1 t.2.2*EC.fdE t.2.1 t.2.2)-EC.fdT t.1 t.2.1 t.2.2)-t.2.1*(EC.fdE t.2.1 t.2.2*EC.fdE t.2.1 t.2.2*EC.fdE t.2.1 t.2.2),EC.fdE t.2.1 t.2.2*EC.fdE t.2.1 t.2.2*EC.fdE t.2.1 t.2.2*t.2.2)
def plF (a b:T3 P):T3 P:=
  if a.2.2=0 then b else if b.2.2=0 then a else
  if b.1*a.2.2=a.1*b.2.2 then (if b.2.1*a.2.2=a.2.1*b.2.2 then dbF a else (0,1,0)) else
  ((b.1*a.2.2-a.1*b.2.2)*EC.frT (b.2.1*a.2.2-a.2.1*b.2.2) (b.1*a.2.2-a.1*b.2.2) (a.2.2*b.2.2) (a.1*b.2.2),
   (b.2.1*a.2.2-a.2.1*b.2.2)*(a.1*b.2.2*((b.1*a.2.2-a.1*b.2.2)*(b.1*a.2.2-a.1*b.2.2))-EC.frT (b.2.1*a.2.2-a.2.1*b.2.2) (b.1*a.2.2-a.1*b.2.2) (a.2.2*b.2.2) (a.1*b.2.2))-a.2.1*b.2.2*((b.1*a.2.2-a.1*b.2.2)*(b.1*a.2.2-a.1*b.2.2)*(b.1*a.2.2-a.1*b.2.2)),
   (b.1*a.2.2-a.1*b.2.2)*(b.1*a.2.2-a.1*b.2.2)*(b.1*a.2.2-a.1*b.2.2)*(a.2.2*b.2.2))
theorem FracT.plus (C:Fl3 P) {a b:T3 P} {p q:EC.Pt P} (h:FracT a p) (h':FracT b q):Gives 45 #[tv a,tv b] (tv (plF a b))∧FracT (plF a b) (EC.add p q):=by
 have ho:=C.cur.on h.2 h'.2
 obtain ⟨x1,y1,z1⟩:=a
 obtain ⟨x2,y2,z2⟩:=b
 refine ⟨rPlusJ_any C x1 y1 z1 x2 y2 z2 _ (fun n1=>by unfold plF;rw[if_pos n1]) (fun n1 n2=>by unfold plF;rw[if_neg n1,if_pos n2]) (fun n1 n2 e=>?_) (fun n1 n2 e1=>by unfold plF;rw[if_neg n1,if_neg n2,if_neg e1]),?_⟩
 · rcases h.1.plus C.cur h.2 h'.1 h'.2 n1 n2 with ⟨e1,e2,e3⟩|⟨e1,e2,e3,e4⟩|⟨e1,e2⟩
   · exact .inl ⟨e2,by unfold plF;rw[if_neg n1,if_neg n2,if_pos e1,if_neg e2]⟩
   · exact .inr ⟨e2,e3,by unfold plF;rw[if_neg n1,if_neg n2,if_pos e1,if_pos e2];rfl⟩
   · exact absurd e e1
 unfold plF
 by_cases n1:z1=0
 · rw[if_pos n1]
   obtain rfl:=h.1.zero n1
   exact h'
 · rw[if_neg n1]
   by_cases n2:z2=0
   · rw[if_pos n2]
     obtain rfl:=h'.1.zero n2
     rw[EC.zAv]
     exact h
   · rw[if_neg n2]
     rcases h.1.plus C.cur h.2 h'.1 h'.2 n1 n2 with ⟨e1,e2,e3⟩|⟨e1,e2,e3,e4⟩|⟨e1,e2⟩
     · rw[if_pos e1,if_neg e2]
       refine ⟨?_,ho⟩
       rw[e3]
       exact rfl
     · rw[if_pos e1,if_pos e2]
       refine ⟨?_,ho⟩
       rw[e4]
       exact h.1.double C.cur h.2 n1
     · rw[if_neg e1]
       exact ⟨e2,ho⟩
theorem FracT.none:FracT ((0,1,0):T3 P) .none:=⟨rfl,EC.zBE⟩
def tmF (n:Nat) (t:T3 P):Nat→T3 P
 | 0=>(0,1,0)
 | m+1=>if n/2^(255-m)%2=1 then plF (plF (tmF n t m) (tmF n t m)) t else plF (tmF n t m) (tmF n t m)
theorem tmF_F (C:Fl3 P) {n:Nat} {t:T3 P} {p:EC.Pt P} (hn:n<2^256) (h:FracT t p):∀ m,m≤256→FracT (tmF n t m) (EC.mul (n/2^(256-m)) p)
 | 0,_=>by
  rw[Nat.sub_zero,Nat.div_eq_of_lt hn]
  exact FracT.none
 | m+1,hm=>by
  have ih:=tmF_F C hn h m (by omega)
  have e1:256-m=255-m+1:=by omega
  rw[show 256-(m+1)=255-m by omega,div_bit n (255-m),← e1]
  unfold tmF
  have h2:=(ih.plus C ih).2
  rw[← EC.mul_add C.cur h.2,← Nat.two_mul] at h2
  by_cases hb:n/2^(255-m)%2=1
  · rw[if_pos hb,hb]
    exact (h2.plus C h).2
  · rw[if_neg hb,show n/2^(255-m)%2=0 by omega]
    exact h2
theorem zF8 (C:Fld P) (x y:Fin P):EC.Frac x y 1 (.some (x,y):EC.Pt P):=⟨fun h=>C.cur.two (by grobner),by grobner,by grobner⟩
end
section
open Go.RowKit Go.Sort Go.Deep
variable {P:Nat} [NeZero P] {N:Nat}
def gxB:Bs:=#[121,190,102,126,249,220,187,172,85,160,98,149,206,135,11,7,2,155,252,219,45,206,40,217,89,242,129,91,22,248,23,152]
theorem of_g (C:Fld P):Gives 124 #[.string ⟨gxB⟩] (fv (gX P)):=fun w=>(rOf_any ⟨gxB⟩ rfl w).mono (by
 rintro e w' ⟨v,rfl,hb,hF⟩
 refine ⟨_,rfl,hb,?_⟩
 have h:=hF.nv
 rw[h]
 show nv _=nv _
 rw[gX_val C]
 exact congrArg nv (by decide +kernel:beV gxB.toList=55066263022277343669578718895168534326250603453777594175500187360389116729240))
theorem g_root (C:Fld P):rt (gX P*gX P*gX P+7)=some (gY P):=by
 have h:=zF7 C
 have h1:gY P^2=gX P^3+7:=h
 have h2:gY P*gY P=gX P*gX P*gX P+7:=by
  generalize gX P=x at *
  generalize gY P=y at *
  clear h C
  grobner
 rw[rt_of C h2,if_neg]
 rw[gY_val C]
 decide
def gT (P:Nat) [NeZero P]:T3 P:=(gX P,gY P,1)
theorem gT_frac (C:Fld P):FracT (gT P) (gG P):=⟨zF8 C _ _,zF7 C⟩
theorem rG_c (C:Fl3 P):Gives 84 #[] (tv (gT P)):=by
 intro w
 go_enter Tryz.func84,Tryz.ntmps84
 refine RG.M.enter [] 11 (by kernel_rfl) ?_
 intro a0 M0
 repeat refine wp_seq ?_
 refine M0.t [.m 0 [] 0] [(0,(RG.z 12))] [] [(RG.z 12)] [(0,(.p 0 0))] ⟨RG.mk 0 72,trivial⟩ ?_
 intro j1 a1 w1 M1
 repeat refine wp_seq ?_
 refine M1.t [.c 4 [] (fv (gX P)),.m 1 [] 1,.u [(1,1),(4,0)] 1] [(1,(RG.z 4))] [(1,2,(ws (gX P)))] [(RG.z 12),(ws (gX P))] [(0,(.p 0 0)),(1,(.p 1 0))] ⟨RG.cl (of_g C.toFld),RG.mk 1 64,RG.pt i33,trivial⟩ ?_
 intro j2 a2 w2 M2
 repeat refine wp_seq ?_
 refine M2.t [.x 6 [] (fv (gX P)),.c 7 [(6,0)] (.tuple #[(rv (gX P) (gY P) (1:Fin P)),(.bool true)]),.x 5 [(7,1)] (.tuple #[(rv (gX P) (gY P) (1:Fin P)),(.bool true)]),.x 8 [(5,2)] (rv (gX P) (gY P) (1:Fin P)),.x 9 [(5,2)] (.bool true),.m 2 [] 2,.u [(2,5),(8,3)] 2,.x 3 [(9,4)] (.bool true)] [(5,(RG.z 12))] [(2,6,(ws (gX P)++(ws (gY P)++(ws (1:Fin P)))))] [(RG.z 12),(ws (gX P)),(ws (gX P)++(ws (gY P)++(ws (1:Fin P))))] [(0,(.p 0 0)),(2,(.p 2 0))] ⟨RG.ld u33 i33,RG.cl (rat_y_c C (gX P) (gY P) (g_root C.toFld)),RG.st,RG.st,RG.st,RG.mk 2 72,RG.pt i56,RG.st,trivial⟩ ?_
 intro j3 a3 w3 M3
 repeat refine wp_seq ?_
 refine M3.t [.x 10 [] (rv (gX P) (gY P) (1:Fin P)),.u [(10,0)] 0] [] [(0,1,(ws (gX P)++(ws (gY P)++(ws (1:Fin P)))))] [(ws (gX P)++(ws (gY P)++(ws (1:Fin P)))),(ws (gX P)),(ws (gX P)++(ws (gY P)++(ws (1:Fin P))))] [(0,(.p 0 0))] ⟨RG.ld u56 i56,RG.pt i56,trivial⟩ ?_
 intro a4 w4 M4
 refine wp_ret ?_
 refine bodyPost_ret (v:=tv (gT P)) (RG.zAb M4.st 0 72 rfl 0 _ rfl (M4.at (s:=.p 0 0)) u56 i56) M4.sl.defers ?_
 exact ⟨_,rfl,M4.st.bel.below,rfl⟩
end
section
open Go.RowKit Go.Sort
variable {P:Nat} [NeZero P] {N:Nat}
theorem geq0 (i:Nat) (w:World):(binOp .geq 3 (.int .i64 (i:Int)) (.int .i64 0)).run Tryz.prog w=.ok (.bool true) w:=by
 go_simp
theorem sub1 (i:Nat) (hi:i<1000) (w:World):(binOp .sub 3 (.int .i64 (i:Int)) (.int .i64 1)).run Tryz.prog w=.ok (.int .i64 ((i:Int)-1)) w:=by
 have h:=IntWalk.i64_in ((i:Int)-1) (by omega)
 go_simp
theorem rBit_1 {n i:Nat} (hn:n<top) (hi:i<256) (h:n/2^i%2=1):Gives 95 #[nv n,.int .i64 (i:Int)] (.int .u64 1):=fun w =>
 (zD8 _ n i (zDE hn) hi w).mono (by rintro e w' ⟨v,rfl,hb,t,rfl,ht⟩;exact ⟨_,rfl,hb,by rw[ht,h];rfl⟩)
theorem rBit_0 {n i:Nat} (hn:n<top) (hi:i<256) (h:¬ n/2^i%2=1):Gives 95 #[nv n,.int .i64 (i:Int)] (.int .u64 0):=fun w =>
 (zD8 _ n i (zDE hn) hi w).mono (by rintro e w' ⟨v,rfl,hb,t,rfl,ht⟩;exact ⟨_,rfl,hb,by rw[ht,show n/2^i%2=0 by omega];rfl⟩)
theorem rTimes_c (C:Fl3 P) (n:Nat) (hn:n<top) (t:T3 P) {p:EC.Pt P} (h:FracT t p):Gives 46 #[nv n,tv t] (tv (tmF n t 256)):=by
 intro w
 go_enter Tryz.func46,Tryz.ntmps46
 refine RG.var2 (v0:=nv n) (v1:=tv t) (n:=23) (by kernel_rfl) (by kernel_rfl) (by kernel_rfl) (by kernel_rfl) ?_
 intro a0 sl0 f0 f1
 have hS0:=RG.St.begin w
 have M0:RG.M w w.heap.size [] 23 [] [] [(0,(.v (nv n))),(1,(.v (tv t)))] a0 _:=⟨hS0,sl0,⟨f0,f1,trivial⟩⟩
 repeat refine wp_seq ?_
 refine M0.t [.m 2 [] 0,.m 3 [] 1,.m 4 [] 2] [(0,(wn n)),(1,(tw t)),(2,(RG.z 12))] [] [(wn n),(tw t),(RG.z 12)] [(2,(.p 0 0)),(3,(.p 1 0)),(4,(.p 2 0))] ⟨RG.mk 0 64,RG.mk 1 72,RG.mk 2 72,trivial⟩ ?_
 intro j1 i1 m1 a1 w1 M1
 repeat refine wp_seq ?_
 refine M1.t [.c 7 [] (tv ((0,1,0):T3 P)),.m 5 [] 3,.u [(5,1),(7,0)] 3] [(1,(RG.z 12))] [(3,2,(tw ((0,1,0):T3 P)))] [(wn n),(tw t),(RG.z 12),(tw ((0,1,0):T3 P))] [(2,(.p 0 0)),(3,(.p 1 0)),(4,(.p 2 0)),(5,(.p 3 0))] ⟨RG.cl (None_c C),RG.mk 3 72,RG.pt i56,trivial⟩ ?_
 intro j2 a2 w2 M2
 repeat refine wp_seq ?_
 refine M2.u [.x 6 [] (.int .i64 255)] [(2,(.p 0 0)),(3,(.p 1 0)),(4,(.p 2 0)),(5,(.p 3 0)),(6,(.v (.int .i64 255)))] ⟨RG.st,trivial⟩ ?_
 intro a3 w3 M3
 have f2_3:a3.tmps[2]? = some (.pointer (some ⟨j1,0,none⟩)):=M3.at (s:=(.p 0 0))
 have f3_3:a3.tmps[3]? = some (.pointer (some ⟨i1,0,none⟩)):=M3.at (s:=(.p 1 0))
 have f4_3:a3.tmps[4]? = some (.pointer (some ⟨m1,0,none⟩)):=M3.at (s:=(.p 2 0))
 have f5_3:a3.tmps[5]? = some (.pointer (some ⟨j2,0,none⟩)):=M3.at (s:=(.p 3 0))
 have f6_3:a3.tmps[6]? = some (.int .i64 255):=M3.at (s:=(.v (.int .i64 255)))
 repeat refine wp_seq ?_
 refine wp_block ?_
 refine wp_loop_ghost (fun m a wr=>m≤256∧RG.Sl a 23∧a.tmps[2]? = some (.pointer (some ⟨j1,0,none⟩))∧a.tmps[3]? = some (.pointer (some ⟨i1,0,none⟩))∧a.tmps[4]? = some (.pointer (some ⟨m1,0,none⟩))∧a.tmps[5]? = some (.pointer (some ⟨j2,0,none⟩))∧a.tmps[6]? = some (.int .i64 ((m:Int)-1))∧RG.St w w.heap.size [] [wn n,tw t,[.int .u64 0,.int .u64 0,.int .u64 0,.int .u64 0,.int .u64 0,.int .u64 0,.int .u64 0,.int .u64 0,.int .u64 0,.int .u64 0,.int .u64 0,.int .u64 0],tw (tmF n t (256-m))] [j1,i1,m1,j2] wr) 256 ⟨Nat.le_refl _,M3.sl,f2_3,f3_3,f4_3,f5_3,f6_3,?_⟩ ?_
 · rw[Nat.sub_self,tmF]
   exact M3.st
 intro m a wr
 rintro ⟨hm,sl,f2,f3,f4,f5,f6,hS⟩
 have hn2:n<2^256:=hn
 generalize j1=k2 at f2 f3 f4 f5 hS
 generalize i1=k3 at f2 f3 f4 f5 hS
 generalize m1=k4 at f2 f3 f4 f5 hS
 generalize j2=k5 at f2 f3 f4 f5 hS
 by_cases hz:m=0
 · subst hz
   have e256:tmF n t (256-0)=tmF n t 256:=rfl
   rw[e256] at hS
   obtain ⟨s,hs⟩:∃ s,tmF n t 256=s:=⟨_,rfl⟩
   rw[hs] at hS ⊢
   have M0:RG.M w w.heap.size [] 23 [(wn n),(tw t),(RG.z 12),(tw s)] [k2,k3,k4,k5] [(2,(.p 0 0)),(3,(.p 1 0)),(4,(.p 2 0)),(5,(.p 3 0)),(6,(.v (.int .i64 (-1))))] a _:=⟨hS,sl,⟨f2,f3,f4,f5,f6,trivial⟩⟩
   repeat refine wp_seq ?_
   refine M0.u [.x 8 [] (.int .i64 (-1)),.x 9 [(8,0)] (.bool false)] [(4,(.p 2 0)),(5,(.p 3 0)),(9,(.v (.bool false)))] ⟨RG.st,RG.st,trivial⟩ ?_
   intro a1 w1 M1
   repeat refine wp_seq ?_
   refine wp_cond_false M1.ev ?_
   refine wp_exit ?_
   dsimp only[Exit.then,Exit.inBlock]
   rw[if_pos rfl]
   repeat refine wp_seq ?_
   refine M1.t [.x 22 [] (tv s),.u [(22,0)] 2] [] [(2,1,(tw s))] [(wn n),(tw t),(tw s),(tw s)] [(4,(.p 2 0))] ⟨RG.ld u56 i56,RG.pt i56,trivial⟩ ?_
   intro a2 w2 M2
   refine wp_ret ?_
   refine bodyPost_ret (v:=tv s) (RG.zAb M2.st 4 72 rfl 2 _ rfl (M2.at (s:=(.p 2 0))) u56 i56) M2.sl.defers ?_
   exact ⟨_,rfl,M2.st.bel.below,rfl⟩
 · obtain ⟨i,rfl⟩:∃ i,m=i+1:=⟨m-1,by omega⟩
   have hi:i<256:=by omega
   replace f6:a.tmps[6]? = some (.int .i64 (i:Int)):=by rw[f6];congr 2;omega
   have ih:=tmF_F C hn2 h (256-(i+1)) (by omega)
   obtain ⟨s,hs⟩:∃ s,tmF n t (256-(i+1))=s:=⟨_,rfl⟩
   rw[hs] at hS ih
   obtain ⟨s2,hs2⟩:∃ s2,s2=plF s s:=⟨_,rfl⟩
   have hp1:=(ih.plus C ih).1
   have ih2:=(ih.plus C ih).2
   rw[← hs2] at hp1 ih2
   obtain ⟨s3,hs3⟩:∃ s3,s3=plF s2 t:=⟨_,rfl⟩
   have hp2:=(ih2.plus C h).1
   rw[← hs3] at hp2
   have hstep:tmF n t (256-i)=if n/2^i%2=1 then s3 else s2:=by
    rw[show 256-i=256-(i+1)+1 by omega]
    show (if n/2^(255-(256-(i+1)))%2=1 then plF (plF (tmF n t (256-(i+1))) (tmF n t (256-(i+1)))) t else plF (tmF n t (256-(i+1))) (tmF n t (256-(i+1))))=_
    rw[show 255-(256-(i+1))=i by omega,hs,← hs2,← hs3]
   by_cases hb:n/2^i%2=1
   · rw[if_pos hb] at hstep
     have M0:RG.M w w.heap.size [] 23 [(wn n),(tw t),(RG.z 12),(tw s)] [k2,k3,k4,k5] [(2,(.p 0 0)),(3,(.p 1 0)),(4,(.p 2 0)),(5,(.p 3 0)),(6,(.v (.int .i64 (i:Int))))] a _:=⟨hS,sl,⟨f2,f3,f4,f5,f6,trivial⟩⟩
     repeat refine wp_seq ?_
     refine M0.u [.x 8 [] (.int .i64 (i:Int)),.x 9 [(8,0)] (.bool true)] [(2,(.p 0 0)),(3,(.p 1 0)),(4,(.p 2 0)),(5,(.p 3 0)),(6,(.v (.int .i64 (i:Int)))),(9,(.v (.bool true)))] ⟨RG.st,RG.zAh rfl .geq 3 3 8 (.int .i64 (i:Int)) (.int .i64 0) (.bool true) rfl rfl RG.sx (fun w=>by kernel_rfl) (geq0 i),trivial⟩ ?_
     intro a1 w1 M1
     repeat refine wp_seq ?_
     refine wp_cond_true M1.ev ?_
     refine wp_skip ?_
     refine wp_seq ?_
     refine wp_block ?_
     repeat refine wp_seq ?_
     refine M1.t [.x 12 [] (tv s),.x 13 [] (tv s),.c 14 [(12,0),(13,1)] (tv s2),.u [(14,2)] 3] [] [(3,3,(tw s2))] [(wn n),(tw t),(RG.z 12),(tw s2)] [(2,(.p 0 0)),(3,(.p 1 0)),(4,(.p 2 0)),(5,(.p 3 0)),(6,(.v (.int .i64 (i:Int))))] ⟨RG.ld u56 i56,RG.ld u56 i56,RG.cl (hp1),RG.pt i56,trivial⟩ ?_
     intro a2 w2 M2
     repeat refine wp_seq ?_
     refine M2.u [.x 15 [] (nv n),.x 16 [] (.int .i64 (i:Int)),.c 17 [(15,0),(16,1)] (.int .u64 1),.x 18 [(17,2)] (.bool true)] [(2,(.p 0 0)),(3,(.p 1 0)),(4,(.p 2 0)),(5,(.p 3 0)),(6,(.v (.int .i64 (i:Int)))),(18,(.v (.bool true)))] ⟨RG.ld u33 i33,RG.st,RG.cl (rBit_1 hn hi hb),RG.st,trivial⟩ ?_
     intro a3 w3 M3
     repeat refine wp_seq ?_
     refine wp_cond_true M3.ev ?_
     repeat refine wp_seq ?_
     refine M3.t [.x 19 [] (tv s2),.x 20 [] (tv t),.c 21 [(19,0),(20,1)] (tv s3),.u [(21,2)] 3] [] [(3,3,(tw s3))] [(wn n),(tw t),(RG.z 12),(tw s3)] [(2,(.p 0 0)),(3,(.p 1 0)),(4,(.p 2 0)),(5,(.p 3 0)),(6,(.v (.int .i64 (i:Int))))] ⟨RG.ld u56 i56,RG.ld u56 i56,RG.cl (hp2),RG.pt i56,trivial⟩ ?_
     intro a4 w4 M4
     repeat refine wp_seq ?_
     refine M4.u [.x 10 [] (.int .i64 (i:Int)),.x 11 [(10,0)] (.int .i64 ((i:Int)-1)),.x 6 [(11,1)] (.int .i64 ((i:Int)-1))] [(2,(.p 0 0)),(3,(.p 1 0)),(4,(.p 2 0)),(5,(.p 3 0)),(6,(.v (.int .i64 ((i:Int)-1))))] ⟨RG.st,RG.zAh rfl .sub 3 3 10 (.int .i64 (i:Int)) (.int .i64 1) (.int .i64 ((i:Int)-1)) rfl rfl RG.sx (fun w=>by kernel_rfl) (sub1 i (by omega)),RG.st,trivial⟩ ?_
     intro a5 w5 M5
     have f2_5:a5.tmps[2]? = some (.pointer (some ⟨k2,0,none⟩)):=M5.at (s:=(.p 0 0))
     have f3_5:a5.tmps[3]? = some (.pointer (some ⟨k3,0,none⟩)):=M5.at (s:=(.p 1 0))
     have f4_5:a5.tmps[4]? = some (.pointer (some ⟨k4,0,none⟩)):=M5.at (s:=(.p 2 0))
     have f5_5:a5.tmps[5]? = some (.pointer (some ⟨k5,0,none⟩)):=M5.at (s:=(.p 3 0))
     have f6_5:a5.tmps[6]? = some (.int .i64 ((i:Int)-1)):=M5.at (s:=(.v (.int .i64 ((i:Int)-1))))
     show ∃ n',_
     exact ⟨i,Nat.lt_succ_self i,by omega,M5.sl,f2_5,f3_5,f4_5,f5_5,f6_5,by rw[hstep];exact M5.st⟩
   · rw[if_neg hb] at hstep
     have M0:RG.M w w.heap.size [] 23 [(wn n),(tw t),(RG.z 12),(tw s)] [k2,k3,k4,k5] [(2,(.p 0 0)),(3,(.p 1 0)),(4,(.p 2 0)),(5,(.p 3 0)),(6,(.v (.int .i64 (i:Int))))] a _:=⟨hS,sl,⟨f2,f3,f4,f5,f6,trivial⟩⟩
     repeat refine wp_seq ?_
     refine M0.u [.x 8 [] (.int .i64 (i:Int)),.x 9 [(8,0)] (.bool true)] [(2,(.p 0 0)),(3,(.p 1 0)),(4,(.p 2 0)),(5,(.p 3 0)),(6,(.v (.int .i64 (i:Int)))),(9,(.v (.bool true)))] ⟨RG.st,RG.zAh rfl .geq 3 3 8 (.int .i64 (i:Int)) (.int .i64 0) (.bool true) rfl rfl RG.sx (fun w=>by kernel_rfl) (geq0 i),trivial⟩ ?_
     intro a1 w1 M1
     repeat refine wp_seq ?_
     refine wp_cond_true M1.ev ?_
     refine wp_skip ?_
     refine wp_seq ?_
     refine wp_block ?_
     repeat refine wp_seq ?_
     refine M1.t [.x 12 [] (tv s),.x 13 [] (tv s),.c 14 [(12,0),(13,1)] (tv s2),.u [(14,2)] 3] [] [(3,3,(tw s2))] [(wn n),(tw t),(RG.z 12),(tw s2)] [(2,(.p 0 0)),(3,(.p 1 0)),(4,(.p 2 0)),(5,(.p 3 0)),(6,(.v (.int .i64 (i:Int))))] ⟨RG.ld u56 i56,RG.ld u56 i56,RG.cl (hp1),RG.pt i56,trivial⟩ ?_
     intro a2 w2 M2
     repeat refine wp_seq ?_
     refine M2.u [.x 15 [] (nv n),.x 16 [] (.int .i64 (i:Int)),.c 17 [(15,0),(16,1)] (.int .u64 0),.x 18 [(17,2)] (.bool false)] [(2,(.p 0 0)),(3,(.p 1 0)),(4,(.p 2 0)),(5,(.p 3 0)),(6,(.v (.int .i64 (i:Int)))),(18,(.v (.bool false)))] ⟨RG.ld u33 i33,RG.st,RG.cl (rBit_0 hn hi hb),RG.st,trivial⟩ ?_
     intro a3 w3 M3
     repeat refine wp_seq ?_
     refine wp_cond_false M3.ev ?_
     refine wp_skip ?_
     repeat refine wp_seq ?_
     refine M3.u [.x 10 [] (.int .i64 (i:Int)),.x 11 [(10,0)] (.int .i64 ((i:Int)-1)),.x 6 [(11,1)] (.int .i64 ((i:Int)-1))] [(2,(.p 0 0)),(3,(.p 1 0)),(4,(.p 2 0)),(5,(.p 3 0)),(6,(.v (.int .i64 ((i:Int)-1))))] ⟨RG.st,RG.zAh rfl .sub 3 3 10 (.int .i64 (i:Int)) (.int .i64 1) (.int .i64 ((i:Int)-1)) rfl rfl RG.sx (fun w=>by kernel_rfl) (sub1 i (by omega)),RG.st,trivial⟩ ?_
     intro a4 w4 M4
     have f2_4:a4.tmps[2]? = some (.pointer (some ⟨k2,0,none⟩)):=M4.at (s:=(.p 0 0))
     have f3_4:a4.tmps[3]? = some (.pointer (some ⟨k3,0,none⟩)):=M4.at (s:=(.p 1 0))
     have f4_4:a4.tmps[4]? = some (.pointer (some ⟨k4,0,none⟩)):=M4.at (s:=(.p 2 0))
     have f5_4:a4.tmps[5]? = some (.pointer (some ⟨k5,0,none⟩)):=M4.at (s:=(.p 3 0))
     have f6_4:a4.tmps[6]? = some (.int .i64 ((i:Int)-1)):=M4.at (s:=(.v (.int .i64 ((i:Int)-1))))
     show ∃ n',_
     exact ⟨i,Nat.lt_succ_self i,by omega,M4.sl,f2_4,f3_4,f4_4,f5_4,f6_4,by rw[hstep];exact M4.st⟩
end
section
open Go.RowKit Go.Sort Go.Deep
variable {P:Nat} [NeZero P] {N:Nat}
def FB_1 (n:Nat):List RG.It:=[.x 3 [] (nv n),.c 4 [] (tv (gT P)),.c 5 [(3,0),(4,1)] (tv (tmF n (gT P) 256)),.u [(5,2)] 1]
theorem qBase_c (C:Fl3 P) (n:Nat) (hn:n<top):Gives 34 #[nv n] (tv (tmF n (gT P) 256)):=by
 intro w
 go_enter Tryz.func34,Tryz.ntmps34
 refine RG.M.enter [(0,.v (nv n))] 6 (by kernel_rfl) ?_
 intro a0 M0
 repeat refine wp_seq ?_
 refine M0.t [.m 1 [] 0,.m 2 [] 1] [(0,(wn n)),(1,(RG.z 12))] [] [(wn n),(RG.z 12)] [(1,(.p 0 0)),(2,(.p 1 0))] ⟨RG.mk 0 64,RG.mk 1 72,trivial⟩ ?_
 intro j1 i1 a1 w1 M1
 repeat refine wp_seq ?_
 refine M1.d (FB_1 (P:=P) n) [] [(1,3,(tw (tmF n (gT P) 256)))] [(wn n),(tw (tmF n (gT P) 256))] [(2,(.p 1 0))] ⟨RG.ld u33 i33,RG.cl (rG_c C),RG.cl (rTimes_c C n hn (gT P) (gT_frac C.toFld)),RG.pt i56,trivial⟩ ?_
 intro a2 w2 M2
 refine wp_ret ?_
 refine bodyPost_ret (v:=tv (tmF n (gT P) 256)) (RG.zAb M2.st 2 72 rfl 1 _ rfl (M2.at (s:=.p 1 0)) u56 i56) M2.sl.defers ?_
 exact ⟨_,rfl,M2.st.bel.below,rfl⟩
end
section
open Go.RowKit Go.Sort
variable {P:Nat} [NeZero P] {N:Nat}
end
section
open Go.RowKit Go.Sort Go.Deep
variable {P:Nat} [NeZero P] {N:Nat}
theorem beV_lt (l:List UInt8):beV l<256^l.length:=by
 induction l with
 | nil=>decide
 | cons x r ih =>
  have h:=zBg [x] r
  rw[show [x]++r=x :: r from rfl] at h
  have hx:beV [x]=x.toNat:=by simp[beV]
  have hx2:=x.toNat_lt
  rw[h,hx,List.length_cons,Nat.pow_succ,Nat.mul_comm (256^r.length)]
  have:=Nat.mul_le_mul_right (256^r.length) (show x.toNat+1≤256 by omega)
  rw[Nat.add_mul,Nat.one_mul] at this
  omega
theorem mk32 (w:World):(Instr.makeSlice 22 (.int .i64 32) (.int .i64 32)).run Tryz.prog w=.ok (.slice (some ⟨w.heap.size,0,none⟩) 32 32) (w.alloc (.cells (madeCells #[.int .u8 0] 32) 5)):=
 run_make_row' (P:=Tryz.prog) 22 5 (.int .u8 0) 1 und23 info5b rfl .i64 .i64 32 (by decide) (by decide) w
end
section
open Go.RowKit Go.Sort Go.Deep
variable {N:Nat}
theorem nuV_top (bs:Bs):nuV bs<top:=by
 unfold nuV
 split
 · rename_i h
   have h1:=beV_lt bs.toList
   rw[Array.length_toList,h] at h1
   exact h1
 · unfold top;omega
variable {P:Nat} [NeZero P]
theorem tm_frac (C:Fl3 P) {n:Nat} (hn:n<top):FracT (tmF n (gT P) 256) (EC.mul n (gG P)):=by
 have h:=tmF_F C (n:=n) (by unfold top at hn;omega) (gT_frac C.toFld) 256 (Nat.le_refl _)
 rwa[Nat.sub_self,Nat.pow_zero,Nat.div_one] at h
end
section
open Go.RowKit Go.Sort Go.Deep
variable {P:Nat} [NeZero P] {N:Nat}
theorem undCP:Tryz.prog.underlying 58=some (.array 33 5):=by kernel_rfl
theorem zCH {b:Bs} (h:b.size=33):bl33 b=[.int .u8 (ub b[0]!),.int .u8 (ub b[1]!),.int .u8 (ub b[2]!),.int .u8 (ub b[3]!),.int .u8 (ub b[4]!),.int .u8 (ub b[5]!),.int .u8 (ub b[6]!),.int .u8 (ub b[7]!),.int .u8 (ub b[8]!),.int .u8 (ub b[9]!),.int .u8 (ub b[10]!),.int .u8 (ub b[11]!),.int .u8 (ub b[12]!),.int .u8 (ub b[13]!),.int .u8 (ub b[14]!),.int .u8 (ub b[15]!),.int .u8 (ub b[16]!),.int .u8 (ub b[17]!),.int .u8 (ub b[18]!),.int .u8 (ub b[19]!),.int .u8 (ub b[20]!),.int .u8 (ub b[21]!),.int .u8 (ub b[22]!),.int .u8 (ub b[23]!),.int .u8 (ub b[24]!),.int .u8 (ub b[25]!),.int .u8 (ub b[26]!),.int .u8 (ub b[27]!),.int .u8 (ub b[28]!),.int .u8 (ub b[29]!),.int .u8 (ub b[30]!),.int .u8 (ub b[31]!),.int .u8 (ub b[32]!)]:=by
 apply List.ext_getElem?
 intro i
 by_cases hi:i<33
 · rw[zEX b i (by omega)]
   match i,hi with
   | 0,_=>rfl
   | 1,_=>rfl
   | 2,_=>rfl
   | 3,_=>rfl
   | 4,_=>rfl
   | 5,_=>rfl
   | 6,_=>rfl
   | 7,_=>rfl
   | 8,_=>rfl
   | 9,_=>rfl
   | 10,_=>rfl
   | 11,_=>rfl
   | 12,_=>rfl
   | 13,_=>rfl
   | 14,_=>rfl
   | 15,_=>rfl
   | 16,_=>rfl
   | 17,_=>rfl
   | 18,_=>rfl
   | 19,_=>rfl
   | 20,_=>rfl
   | 21,_=>rfl
   | 22,_=>rfl
   | 23,_=>rfl
   | 24,_=>rfl
   | 25,_=>rfl
   | 26,_=>rfl
   | 27,_=>rfl
   | 28,_=>rfl
   | 29,_=>rfl
   | 30,_=>rfl
   | 31,_=>rfl
   | 32,_=>rfl
   | n+33,h=>exact absurd h (by omega)
 · rw[List.getElem?_eq_none (by rw[zAd h];omega),List.getElem?_eq_none (by show 33≤i;omega)]
theorem bytes_eq {a b:Bs} (ha:a.size=33) (hb:b.size=33):(∀ i∈List.range 33,ub a[i]! = ub b[i]!)↔a=b:=by
 constructor
 · intro h
   apply Array.ext (by rw[ha,hb])
   intro i h1 h2
   have h3:=h i (List.mem_range.2 (by omega))
   rw[getElem!_pos a i h1,getElem!_pos b i h2] at h3
   have h4:a[i].toNat=b[i].toNat:=by unfold ub at h3;omega
   exact UInt8.toNat_inj.1 h4
 · rintro rfl i _
   rfl
theorem eqCP {a b:Bs} (ha:a.size=33) (hb:b.size=33) (w:World):(Op.equal 58 (.agg (bl33 a).toArray) (.agg (bl33 b).toArray)).run Tryz.prog w=.ok (decide (a=b)) w:=by
 have hi:(Tryz.prog.info? 5).isSome=true:=by kernel_rfl
 obtain ⟨inf,hinf⟩:=Option.isSome_iff_exists.1 hi
 show (Op.equalIn 10000 58 _ _).run Tryz.prog w=_
 rw[run_equalIn_array w 9999 _ _ undCP hinf,cells5,
  eqI _ _ (fun i=>ub a[i]!) (fun i=>ub b[i]!) 9998 w (List.range 33) (fun i hi=>by
   rw[List.getElem?_toArray]
   exact zEX a i (by rw[ha];exact List.mem_range.1 hi)) (fun i hi=>by
   rw[List.getElem?_toArray]
   exact zEX b i (by rw[hb];exact List.mem_range.1 hi))]
 rw[decide_eq_decide.2 (bytes_eq ha hb)]
theorem checkCP {b:Bs} (hb:b.size=33) (e:Bool) (w:World):(Instr.checkKey e 10000 58 (.agg (bl33 b).toArray)).run Tryz.prog w=.ok () w:=by
 rw[zCH hb]
 kernel_rfl
def at? (b:Bs):List Bs→Nat→Option Nat
 | [],_=>none
 | k :: r,i=>if b=k then some i else at? b r (i+1)
def ents:List Bs→Nat→List MapEntry
 | [],_=>[]
 | k :: r,i=>{ key:=.agg (bl33 k).toArray,val:=.int .i64 (i:Int),born:=i } :: ents r (i+1)
theorem find_run {b:Bs} (hb:b.size=33) (w:World):∀ (D:List Bs) (i:Nat),(∀ k∈D,k.size=33)→(Instr.findAsking 58 (.agg (bl33 b).toArray) (ents D i) i).run Tryz.prog w=.ok ((at? b D i).map fun j=>(j,.int .i64 (j:Int))) w
 | [],i,_=>rfl
 | k :: r,i,h=>by
  have ih:=find_run hb w r (i+1) (fun x hx=>h x (List.mem_cons_of_mem _ hx))
  have he:=eqCP hb (h k List.mem_cons_self) w
  unfold ents Instr.findAsking at?
  simp only[Sem.run_bind,he,Result.andThen_ok]
  by_cases hk:b=k
  · simp only[hk,decide_true,if_true,Sem.run_pure,Option.map_some]
  · simp only[hk,decide_false,Bool.false_eq_true,if_false,ih]
theorem key_run {b:Bs} (hb:b.size=33) (D:List Bs) (h:∀ k∈D,k.size=33) (w:World):(Instr.findKey 58 (.agg (bl33 b).toArray) (ents D 0)).run Tryz.prog w=.ok ((at? b D 0).map fun j=>(j,.int .i64 (j:Int))) w:=by
 have hu:(underlying 58).run Tryz.prog w=.ok (.array 33 5) w:=run_underlying undCP w
 unfold Instr.findKey
 rw[Sem.run_bind,hu,Result.andThen_ok]
 cases D with
 | nil=>rfl
 | cons k r =>
  have h1:Instr.findNow (.array 33 5) (.agg (bl33 b).toArray) (ents (k :: r) 0) 0=none:=rfl
  simp only[h1]
  exact find_run hb w (k :: r) 0 h
theorem at?_none {b:Bs}:∀ {D:List Bs} {i:Nat},at? b D i=none↔b ∉ D
 | [],i=>by simp[at?]
 | k :: r,i=>by
  unfold at?
  by_cases h:b=k
  · simp[h]
  · simp[h,at?_none (D:=r) (i:=i+1)]
end
section
open Go.RowKit Go.Sort Go.Deep
section
variable {P:Program} {ops:Array Oper} {rest:List Oper} {op:Oper} {a:Act} {w w':World} {v u:Value} {Q:Exit→Act→World→Prop}
theorem zAD (hgd:op.guard=none) (T:TypeId) (x:Operand) (ho:op.op=.box T x) (hx:a.eval x=u) (hr:(Instr.box T u).run P w=.ok v w') (h:wpList P ops Q rest (a.put op.dst v) w'):wpList P ops Q (op :: rest) a w:=
 wpList_plain hgd fun K hK=>by
  unfold Oper.wp execOp
  simp only[ho,hx,Sem.run_bind,hr,Result.andThen_ok,Sem.run_pure]
  exact hK _ _ h
end
variable {N:Nat}
theorem zAs:(Tryz.prog.info? 58).map (·.size)=some 33:=by kernel_rfl
theorem uCP:(Tryz.prog.underlying 58).map (·.isRow)=some true:=by kernel_rfl
theorem boxCP {a:Bs} (ha:a.size=33) (w:World):(Instr.box 58 (.agg (bl33 a).toArray)).run Tryz.prog w=.ok (.pointer (some ⟨w.heap.size,0,none⟩)) (w.alloc (.cells (bl33 a).toArray 58)):=by
 rw[zCH ha]
 kernel_rfl
theorem slCP (k:Nat) (w:World):(Instr.sliceAt 58 (.pointer (some ⟨k,0,none⟩)) none none none).run Tryz.prog w=.ok (.slice (some ⟨k,0,none⟩) 33 33) w:=by kernel_rfl
theorem zEq {W:World} {k:Nat} {a:Bs} (h:Row W k (bl33 a)):Holds encB W k 0 a:=zGf h.2.1 h.2.2
theorem zD5 {W:World} {k:Nat} {a:Bs} (ha:a.size=33) (h:Row W k (bl33 a)):SP.PartOk W (.slice (some ⟨k,0,none⟩) 33 33) a.toList:=
 ⟨_,k,0,33,a,by rw[ha],rfl,by omega,by omega,Or.inr ⟨rfl,zEq h⟩⟩
theorem sp_h {W:World} {r:Nat} {L:Bs} (h:Holds encB W r 0 L):Holds SP.encB W r 0 L:=h
theorem sp_k {W:World} {r:Nat} {L:Bs} (h:Holds SP.encB W r 0 L):Holds encB W r 0 L:=h
structure Sx (w W:World) (k3 k4 k6 k7 r:Nat) (a b L:Bs):Prop where
 bl:Below w.heap.size w W
 r3:Row W k3 (bl33 a)
 r4:Row W k4 (bl33 b)
 r6:Row W k6 [.int .u64 0,.int .u64 0,.int .u64 0,.int .u64 0]
 r7:Row W k7 [.pointer (some ⟨r,0,none⟩)]
 lg:Holds encB W r 0 L
structure Sn (w:World) (k3 k4 k6 k7 r:Nat):Prop where
 lr:w.heap.size≤r
 n3:k3≠r
 n4:k4≠r
 n6:k6≠r
 n7:k7≠r
 l6:w.heap.size≤k6
theorem Sx.say {w W W':World} {k3 k4 k6 k7 r:Nat} {a b L L':Bs} (h:Sx w W k3 k4 k6 k7 r a b L) (n:Sn w k3 k4 k6 k7 r) (hO:SP.Only r 0 32 W W') (hL:Holds encB W' r 0 L'):Sx w W' k3 k4 k6 k7 r a b L':=
 ⟨h.bl.trans (hO.below h.bl.size n.lr),h.r3.only hO n.n3,h.r4.only hO n.n4,h.r6.only hO n.n6,h.r7.only hO n.n7,hL⟩
theorem Sx.drew {w W:World} {k3 k4 k6 k7 r:Nat} {a b L:Bs} (h:Sx w W k3 k4 k6 k7 r a b L):Sx w W.drew k3 k4 k6 k7 r a b L:=⟨h.bl.drew,h.r3,h.r4,h.r6,h.r7,h.lg⟩
theorem Sx.cell {w W:World} {k3 k4 k6 k7 r:Nat} {a b L:Bs} (h:Sx w W k3 k4 k6 k7 r a b L):W.cell? ⟨k7,0,none⟩=some (.pointer (some ⟨r,0,none⟩)):=h.r7.2.1 0 _ rfl
theorem sAsked_c (O:Ord N) (a b:Bs) (ha:a.size=33) (hb:b.size=33) (ta:Option Addr) (tl tc:Nat) (tx:List UInt8) (w:World) (hP:SP.PartOk w (.slice ta tl tc) tx) :
 Calls Tryz.prog 27 #[.agg (bl33 a).toArray,.agg (bl33 b).toArray,.slice ta tl tc] w (Ret fun e w'=>Below w.heap.size w w'∧e=nv (asg N a.toList b.toList tx)):=by
 obtain ⟨L0,h0⟩:∃ L,Hid (SP.newL [115,105,103,110]=L):=⟨_,rfl⟩
 obtain ⟨L1,h1⟩:∃ L,Hid (SP.sayL L0 [112,117,98,108,105,99] a.toList=L):=⟨_,rfl⟩
 obtain ⟨L2,h2⟩:∃ L,Hid (SP.sayL L1 [102,105,114,115,116] b.toList=L):=⟨_,rfl⟩
 obtain ⟨L3,h3⟩:∃ L,Hid (SP.sayL L2 [116,101,120,116] tx=L):=⟨_,rfl⟩
 have s0:L0.size=32:=by rw[← h0.out];exact SP.zEJ _
 have s1:L1.size=32:=by rw[← h1.out];exact SP.zBT _ _ _
 have s2:L2.size=32:=by rw[← h2.out];exact SP.zBT _ _ _
 have s3:L3.size=32:=by rw[← h3.out];exact SP.zBT _ _ _
 have hr:asg N a.toList b.toList tx=cha N L3:=by unfold asg logS;rw[h0.out,h1.out,h2.out,h3.out]
 rw[hr]
 clear hr
 have HP:=Hid.mk' hP
 clear hP
 obtain ⟨va,hva⟩:∃ v,Hid (Value.agg (bl33 a).toArray=v):=⟨_,rfl⟩
 obtain ⟨vb,hvb⟩:∃ v,Hid (Value.agg (bl33 b).toArray=v):=⟨_,rfl⟩
 have bA:=boxCP ha w
 obtain ⟨w1,hw1⟩:∃ w1,Hid (w.alloc (.cells (bl33 a).toArray 58)=w1):=⟨_,rfl⟩
 have bB:=boxCP hb w1
 obtain ⟨w2,hw2⟩:∃ w2,Hid (w1.alloc (.cells (bl33 b).toArray 58)=w2):=⟨_,rfl⟩
 obtain ⟨w3,hw3⟩:∃ w3,Hid (w2.alloc (.cells #[.int .u64 0,.int .u64 0,.int .u64 0,.int .u64 0] 53)=w3):=⟨_,rfl⟩
 rw[hva.out,hw1.out] at bA
 rw[hvb.out,hw2.out] at bB
 rw[hva.out,hvb.out]
 have e1:w1.heap.size=w.heap.size+1:=by rw[← hw1.out,World.size_alloc]
 have e2:w2.heap.size=w.heap.size+2:=by rw[← hw2.out,World.size_alloc,e1]
 have e3:w3.heap.size=w.heap.size+3:=by rw[← hw3.out,World.size_alloc,e2]
 rw[e1] at bB
 have K3:Hid (Row w3 w.heap.size (bl33 a)∧Row w3 (w.heap.size+1) (bl33 b)∧Row w3 (w.heap.size+2) [.int .u64 0,.int .u64 0,.int .u64 0,.int .u64 0]∧Below w.heap.size w w3):=by
  have q1:Row w1 w.heap.size (bl33 a):=by rw[← hw1.out];exact zAi w _ _
  have q2:Row w2 (w.heap.size+1) (bl33 b):=by rw[← hw2.out,← e1];exact zAi w1 _ _
  have q3:Row w3 (w.heap.size+2) [.int .u64 0,.int .u64 0,.int .u64 0,.int .u64 0]:=by rw[← hw3.out,← e2];exact zAi w2 _ _
  have b1:Below w.heap.size w w1:=by rw[← hw1.out];exact zAf w _
  have b2:Below w1.heap.size w1 w2:=by rw[← hw2.out];exact zAf w1 _
  have b3:Below w2.heap.size w2 w3:=by rw[← hw3.out];exact zAf w2 _
  exact ⟨(q1.below b2).below b3,q2.below b3,q3,(b1.trans (b2.mono (by omega))).trans (b3.mono (by omega))⟩
 clear hw1 hw2
 have BA:=Hid.mk' bA
 have BB:=Hid.mk' bB
 clear bA bB
 go_enter Tryz.func27,Tryz.ntmps27
 go_wp2_with (first|(refine zAD (u:=va) (v:=.pointer (some ⟨w.heap.size,0,none⟩)) (w':=w1) rfl 58 (.tmp 0) rfl ?_ ?_ ?_;rfl;exact BA.out)|(refine zAD (u:=vb) (v:=.pointer (some ⟨w.heap.size+1,0,none⟩)) (w':=w2) rfl 58 (.tmp 1) rfl ?_ ?_ ?_;rfl;exact BB.out))
 rw[hw3.out]
 clear hw3 BA BB
 refine (sNewLog_c ⟨#[115,105,103,110]⟩ w3 (by decide)).mono ?_
 rintro e w4 ⟨v,rfl,hb4,r,rfl,hr1,hr2,hL⟩
 rw[show SP.newL (⟨#[115,105,103,110]⟩:ByteArray).data.toList=L0 from h0.out] at hL
 have hb04:Below w.heap.size w w4:=K3.out.2.2.2.trans (hb4.mono K3.out.2.2.2.size)
 obtain ⟨k7,hk7⟩:∃ k,Hid (w4.heap.size=k):=⟨_,rfl⟩
 have hk7r:r<k7:=by rw[← hk7.out];exact hr2
 have hb04s:=hb04.size
 have HN:Hid (Sn w w.heap.size (w.heap.size+1) (w.heap.size+2) k7 r):=⟨by omega,by omega,by omega,by omega,by omega,by omega⟩
 obtain ⟨w5,hw5⟩:∃ w5,Hid ((w4.alloc (.cells #[.pointer none] 124)).setCells k7 0 [.pointer (some ⟨r,0,none⟩)]=w5):=⟨_,rfl⟩
 have KS:Hid (Sx w w5 w.heap.size (w.heap.size+1) (w.heap.size+2) k7 r a b L0):=by
  rw[← hw5.out,← hk7.out]
  have hR:=zAi w4 [.pointer none] 124
  have hlt:w4.heap.size=k7:=hk7.out
  refine ⟨RG.below_setCells hb04.size _ _ _ (hb04.alloc hb04.size _),((K3.out.1.below hb4).alloc _).other (by omega),((K3.out.2.1.below hb4).alloc _).other (by omega),((K3.out.2.2.1.below hb4).alloc _).other (by omega),hR.put rfl,fun j hj=>?_⟩
  have e:=RG.zAP w4.heap.size [.pointer (some ⟨r,0,none⟩)] 0 (w4.alloc (.cells #[.pointer none] 124)) r (by omega)
  have e2:=Below.heap_alloc w4 (.cells #[.pointer none] 124) r hr2
  rw[World.cell?_of_block (a:=⟨r,0+j,none⟩) e,World.frozen?_of_block (a:=⟨r,0+j,none⟩) e,World.cell?_of_block (a:=⟨r,0+j,none⟩) e2,World.frozen?_of_block (a:=⟨r,0+j,none⟩) e2]
  exact hL j hj
 have HTH:Hid ((w4.alloc (.cells #[.pointer none] 124)).there k7 0 1):=by rw[← hk7.out];exact (zAi w4 [.pointer none] 124).2.2
 clear hb4 hL hb04 hr1 hr2 K3 hk7r hb04s
 go_wp2_with (refine zAp (v:=.pointer (some ⟨k7,0,none⟩)) (w':=w4.alloc (.cells #[.pointer none] 124)) rfl (.alloc 124) rfl ?_ ?_;(rw[← hk7.out];kernel_rfl);refine Hid.out ?_)
 show wpList _ _ _ _ _ _
 refine wpList_store_mid rfl 124 _ _ rfl k7 0 #[.pointer (some ⟨r,0,none⟩)] ?_ ?_ ?_ ?_ ?_ ?_
 · kernel_rfl
 · kernel_rfl
 · exact HTH.out
 · exact i124
 · kernel_rfl
 rw[show (#[Value.pointer (some ⟨r,0,none⟩)]).toList=[.pointer (some ⟨r,0,none⟩)] from rfl,hw5.out]
 clear HTH hw5 hk7
 have hs3:=slCP w.heap.size
 have hs4:=slCP (w.heap.size+1)
 have KP:=KS.out
 clear KS
 go_wp2_with fail
 go_region_held3 (fun W=>W.cell? ⟨k7,0,none⟩=some (.pointer (some ⟨r,0,none⟩))∧∃ L,Sx w W w.heap.size (w.heap.size+1) (w.heap.size+2) k7 r a b L) (first|(with_reducible exact ⟨KP.cell,_,KP⟩)|(with_reducible exact ⟨KP.drew.cell,_,KP.drew⟩)|fail) (first|(go_at_call 73;(first|(with_reducible refine (SP.zE1 r L0 ⟨#[112,117,98,108,105,99]⟩ (some ⟨w.heap.size,0,none⟩) 33 33 a.toList _ (by decide) (sp_h KP.lg) s0 (zD5 ha KP.r3)).mono ?_)|(with_reducible refine (SP.zE1 r L0 ⟨#[112,117,98,108,105,99]⟩ (some ⟨w.heap.size,0,none⟩) 33 33 a.toList _ (by decide) (sp_h KP.drew.lg) s0 (zD5 ha KP.drew.r3)).mono ?_));rintro e w6 ⟨rfl,hO,hL⟩;rw[show SP.sayL L0 (⟨#[112,117,98,108,105,99]⟩:ByteArray).data.toList a.toList=L1 from h1.out] at hL;(first|(with_reducible (have KP1:=KP.drew.say HN.out hO (sp_k hL)))|(with_reducible (have KP1:=KP.say HN.out hO (sp_k hL)))|fail);clear KP hO hL;have KP:=KP1;clear KP1))
 clear hs3
 go_wp2_with fail
 go_region_held3 (fun W=>W.cell? ⟨k7,0,none⟩=some (.pointer (some ⟨r,0,none⟩))∧∃ L,Sx w W w.heap.size (w.heap.size+1) (w.heap.size+2) k7 r a b L) (first|(with_reducible exact ⟨KP.cell,_,KP⟩)|(with_reducible exact ⟨KP.drew.cell,_,KP.drew⟩)|fail) (first|(go_at_call 73;(first|(with_reducible refine (SP.zE1 r L1 ⟨#[102,105,114,115,116]⟩ (some ⟨w.heap.size+1,0,none⟩) 33 33 b.toList _ (by decide) (sp_h KP.lg) s1 (zD5 hb KP.r4)).mono ?_)|(with_reducible refine (SP.zE1 r L1 ⟨#[102,105,114,115,116]⟩ (some ⟨w.heap.size+1,0,none⟩) 33 33 b.toList _ (by decide) (sp_h KP.drew.lg) s1 (zD5 hb KP.drew.r4)).mono ?_));rintro e w7 ⟨rfl,hO,hL⟩;rw[show SP.sayL L1 (⟨#[102,105,114,115,116]⟩:ByteArray).data.toList b.toList=L2 from h2.out] at hL;(first|(with_reducible (have KP1:=KP.drew.say HN.out hO (sp_k hL)))|(with_reducible (have KP1:=KP.say HN.out hO (sp_k hL)))|fail);clear KP hO hL;have KP:=KP1;clear KP1))
 clear hs4
 have c7:=KP.cell
 have KS:=Hid.mk' KP
 clear KP
 go_wp2_with fail
 clear c7
 refine (SP.zE1 r L2 ⟨#[116,101,120,116]⟩ ta tl tc tx w7 (by decide) (sp_h KS.out.lg) s2 (HP.out.below KS.out.bl)).mono ?_
 rintro e w8 ⟨rfl,hO,hL⟩
 rw[show SP.sayL L2 (⟨#[116,101,120,116]⟩:ByteArray).data.toList tx=L3 from h3.out] at hL
 have KT:Hid (Sx w w8 w.heap.size (w.heap.size+1) (w.heap.size+2) k7 r a b L3):=KS.out.say HN.out hO (sp_k hL)
 clear hO hL KS HP
 obtain ⟨d,hd1,hd2⟩:=Option.map_eq_some_iff.1 u124
 have HD:Hid (Tryz.prog.underlying 124=some d∧d.isRow=true):=⟨hd1,hd2⟩
 clear hd1 hd2
 go_wp2_with (refine wpList_load_mid rfl 124 _ rfl k7 0 ?_ [.pointer (some ⟨r,0,none⟩)] d ?_ ?_ ?_ ?_ ?_;kernel_rfl;exact KT.out.r7.2.1;exact HD.out.1;exact HD.out.2;exact i124)
 refine (sChallenge_c O r L3 w8 KT.out.lg s3).mono ?_
 rintro e w9 ⟨v,rfl,hO,rfl⟩
 have K9:Hid (Row w9 (w.heap.size+2) [.int .u64 0,.int .u64 0,.int .u64 0,.int .u64 0]∧Below w.heap.size w w9):=⟨KT.out.r6.only hO HN.out.n6,KT.out.bl.trans (hO.below KT.out.bl.size HN.out.lr)⟩
 clear hO KT HN
 obtain ⟨m,hm⟩:∃ m,Hid (cha N L3=m):=⟨_,rfl⟩
 rw[hm.out]
 obtain ⟨wa,hwa⟩:∃ wa,Hid (w9.setCells (w.heap.size+2) 0 (wn m)=wa):=⟨_,rfl⟩
 have KA:Hid (Row wa (w.heap.size+2) (wn m)∧Below w.heap.size w wa):=by rw[← hwa.out];exact ⟨K9.out.1.put rfl,RG.below_setCells (by omega) _ _ _ K9.out.2⟩
 obtain ⟨vm,hvm⟩:∃ vm,Hid (nv m=vm):=⟨_,rfl⟩
 rw[hvm.out]
 go_wp2_with (refine wpList_store_mid rfl 53 _ _ rfl (w.heap.size+2) 0 (wn m).toArray ?_ ?_ ?_ ?_ ?_ ?_;rfl;exact hvm.out.symm;exact K9.out.1.2.2;exact i40;exact zCK m;rw[show (wn m).toArray.toList=wn m from rfl,hwa.out])
 refine bodyPost_ret (zAy 6 53 rfl KA.out.1 rfl u40 i40) rfl ?_
 exact ⟨_,rfl,KA.out.2,by rw[hm.out];rfl⟩
end
section
open Go.RowKit Go.Sort Go.Deep
variable {P:Nat} [NeZero P] {N:Nat}
theorem answer_c (O:Ord N) {c k x:Nat} (hc:c<N) (hk:k<N) (hx:x<N):Gives 29 #[nv c,nv k,nv x] (nv (sPl N k (sTi N c x))):=by
 intro w
 have h1:=sTim_c O c x hc hx
 have h2:=sPlu_c O k (sTi N c x) hk (O.ti c x)
 generalize sTi N c x=cx at h1 h2 ⊢
 generalize sPl N k cx=z at h2 ⊢
 go_enter Tryz.func29,Tryz.ntmps29
 refine RG.M.enter [(0,.v (nv c)),(1,.v (nv k)),(2,.v (nv x))] 12 (by kernel_rfl) ?_
 intro a0 M0
 repeat refine wp_seq ?_
 refine M0.t [.m 3 [] 0,.m 4 [] 1,.m 5 [] 2,.m 6 [] 3] [(0,wn c),(1,wn k),(2,wn x),(3,RG.z 4)] [] [wn c,wn k,wn x,RG.z 4] [(3,.p 0 0),(4,.p 1 0),(5,.p 2 0),(6,.p 3 0)] ⟨RG.mk 0 53,RG.mk 1 53,RG.mk 2 53,RG.mk 3 53,trivial⟩ ?_
 intro j1 j2 j3 j4 a1 w1 M1
 repeat refine wp_seq ?_
 refine M1.d [.x 7 [] (nv k),.x 8 [] (nv c),.x 9 [] (nv x),.c 10 [(8,1),(9,2)] (nv cx),.c 11 [(7,0),(10,3)] (nv z),.u [(11,4)] 3] [] [(3,5,wn z)] [wn c,wn k,wn x,wn z] [(6,.p 3 0)] ⟨RG.ld u40 i40,RG.ld u40 i40,RG.ld u40 i40,RG.cl h1,RG.cl h2,RG.pt i40,trivial⟩ ?_
 intro a2 w2 M2
 refine wp_ret ?_
 refine bodyPost_ret (v:=nv z) (RG.zAb M2.st 6 53 rfl 3 _ rfl (M2.at (s:=(.p 3 0))) u40 i40) M2.sl.defers ?_
 exact ⟨_,rfl,M2.st.bel.below,rfl⟩
theorem neS {a:Nat} (ha:a<top) (w:World):(binOp .neq 53 (nv a) (nv 0)).run Tryz.prog w=.ok (.bool (!decide (a=0))) w:=by
 have h:=eqS ha (show 0<top by unfold top;omega) w
 have h1:(binOp .eql 53 (nv a) (nv 0)).run Tryz.prog w=(Op.equal 53 (nv a) (nv 0) >>= fun b=>pure (Value.bool b)).run Tryz.prog w:=rfl
 have h2:(binOp .neq 53 (nv a) (nv 0)).run Tryz.prog w=(Op.equal 53 (nv a) (nv 0) >>= fun b=>pure (Value.bool (!b))).run Tryz.prog w:=rfl
 rw[h1,Sem.run_bind] at h
 rw[h2,Sem.run_bind]
 cases he:(Op.equal 53 (nv a) (nv 0)).run Tryz.prog w with
 | ok r w2 =>
  rw[he] at h
  simp only[Result.andThen_ok,Sem.run_pure,Result.ok.injEq,Value.bool.injEq] at h ⊢
  rw[h.1,h.2]
  exact ⟨rfl,rfl⟩
 | halt r w2 =>
  rw[he] at h
  cases h
theorem rsecret_c (O:Ord N) (v:Value) (bs:Bs) (w:World) (hv:Arg w v bs):Calls Tryz.prog 23 #[v] w (Ret fun e w'=>Below w.heap.size w w'∧e=.tuple #[nv ((rq N bs).getD 0),.bool ((rq N bs).isSome && !decide ((rq N bs).getD 0=0))]):=by
 have hR:∀ w',RG.BelX w.heap.size [] w w'→Calls Tryz.prog 66 #[v] w' (Ret fun e w''=>Below w'.heap.size w' w''∧e=.tuple #[nv ((rq N bs).getD 0),.bool (rq N bs).isSome]):=fun w' hb=>sread_c O v bs w' (hv.below hb.below)
 have hlt:(rq N bs).getD 0<top:=by
  cases h:rq N bs with
  | none=>show 0<top;unfold top;omega
  | some n=>exact rq_top O.le h
 have hne:=neS hlt
 generalize (rq N bs).getD 0=n at hR hlt hne ⊢
 generalize (rq N bs).isSome=ok at hR ⊢
 generalize (!decide (n=0))=z at hne ⊢
 go_enter Tryz.func23,Tryz.ntmps23
 refine RG.M.enter [(0,.v v)] 18 (by kernel_rfl) ?_
 intro a0 M0
 repeat refine wp_seq ?_
 refine M0.t [.m 2 [] 0,.x 3 [] (.bool false)] [(0,RG.z 4)] [] [RG.z 4] [(0,.v v),(2,.p 0 0),(3,.v (.bool false))] ⟨RG.mk 0 53,RG.st,trivial⟩ ?_
 intro j1 a1 w1 M1
 repeat refine wp_seq ?_
 refine M1.t [.x 7 [] v,.c 8 [(7,0)] (.tuple #[nv n,.bool ok]),.x 6 [(8,1)] (.tuple #[nv n,.bool ok]),.x 9 [(6,2)] (nv n),.x 10 [(6,2)] (.bool ok),.m 4 [] 1,.u [(4,5),(9,3)] 1,.x 5 [(10,4)] (.bool ok)] [(5,RG.z 4)] [(1,6,wn n)] [RG.z 4,wn n] [(2,.p 0 0),(4,.p 1 0),(5,.v (.bool ok))] ⟨RG.st,RG.clB (fun _ _=>by kernel_rfl) hR,RG.st,RG.st,RG.st,RG.mk 1 53,RG.pt i40,RG.st,trivial⟩ ?_
 intro j2 a2 w2 M2
 repeat refine wp_seq ?_
 cases ok with
 | true =>
  refine M2.d [.x 11 [] (nv n),.x 12 [] (.bool true),.x 13 [(12,1)] (.bool true),.x 14 [] (nv n),.x 15 [] (nv 0),.x 16 [(14,3),(15,4)] (.bool z),.x 17 [(13,2),(16,5)] (.bool z),.u [(11,0)] 0,.x 3 [(17,6)] (.bool z)] [] [(0,7,wn n)] [wn n,wn n] [(2,.p 0 0),(3,.v (.bool z))] ⟨RG.ld u40 i40,RG.st,RG.st,RG.ld u40 i40,RG.st,RG.zAg rfl .neq 53 53 14 15 (nv n) (nv 0) (.bool z) rfl rfl RG.sx RG.sx (fun w=>by kernel_rfl) hne,RG.st,RG.pt i40,RG.st,trivial⟩ ?_
  intro a4 w4 M4
  refine wp_ret ?_
  refine bodyPost_ret (v:=.tuple #[nv n,.bool z]) (RG.zAj M4.st 2 3 53 rfl 0 _ rfl (M4.at (s:=.p 0 0)) (.bool z) M4.av u40 i40) M4.sl.defers ?_
  exact ⟨_,rfl,M4.st.bel.below,rfl⟩
 | false =>
  refine M2.d [.x 11 [] (nv n),.x 12 [] (.bool false),.x 13 [(12,1)] (.bool false),⟨some 14,[],(.v undef),.pass⟩,⟨some 15,[],(.v undef),.pass⟩,⟨some 16,[],(.v undef),.pass⟩,.x 17 [(13,2),(16,5)] (.bool false),.u [(11,0)] 0,.x 3 [(17,6)] (.bool false)] [] [(0,7,wn n)] [wn n,wn n] [(2,.p 0 0),(3,.v (.bool false))] ⟨RG.ld u40 i40,RG.st,RG.st,RG.zAe rfl rfl,RG.zAe rfl rfl,RG.zAe rfl rfl,RG.st,RG.pt i40,RG.st,trivial⟩ ?_
  intro a4 w4 M4
  refine wp_ret ?_
  refine bodyPost_ret (v:=.tuple #[nv n,.bool false]) (RG.zAj M4.st 2 3 53 rfl 0 _ rfl (M4.at (s:=.p 0 0)) (.bool false) M4.av u40 i40) M4.sl.defers ?_
  exact ⟨_,rfl,M4.st.bel.below,rfl⟩
theorem arrCP (g cg:Nat) (w:World):(Instr.arrayAt 58 (.slice (some ⟨g,0,none⟩) 33 cg)).run Tryz.prog w=.ok (.pointer (some ⟨g,0,none⟩)) w:=by kernel_rfl
theorem row_cp {W:World} {k:Nat} {a:Bs} (ha:Holds encB W k 0 a) (hk:k<W.heap.size):Row W k (bl33 a):=⟨hk,(zEf ha).1,(zEf ha).2⟩
theorem zBv (a:Bs):(bl33 a).toArray.all (·.oneCell')=true:=by
 rw[Array.all_eq_true']
 intro v hv
 obtain ⟨x,-,rfl⟩:=List.mem_map.1 (List.mem_toArray.1 hv)
 rfl
def pvl (a:Bs):Value:=.agg (bl33 a).toArray
theorem gen_c (C:Fld P):Gives 26 #[] (pvl (wr (gG P))):=by
 intro w
 obtain ⟨T,hT⟩:∃ T,Hid (wr (gG P)=T):=⟨_,rfl⟩
 have hTs:T.size=33:=by rw[← hT.out];exact zAB _
 rw[hT.out]
 obtain ⟨w1,hw1⟩:∃ w1,Hid (w.alloc (.cells z33.toArray 58)=w1):=⟨_,rfl⟩
 have K1:Hid (Row w1 w.heap.size z33∧Below w.heap.size w w1):=by rw[← hw1.out];exact ⟨zAi w _ _,zAf w _⟩
 obtain ⟨d,hd1,hd2⟩:=Option.map_eq_some_iff.1 uCP
 have HD:Hid (Tryz.prog.underlying 58=some d∧d.isRow=true):=⟨hd1,hd2⟩
 clear hd1 hd2
 go_enter Tryz.func26,Tryz.ntmps26
 go_wp2_with (refine zAp (v:=.pointer (some ⟨w.heap.size,0,none⟩)) (w':=w1) rfl (.alloc 58) rfl ?_ ?_;(rw[← hw1.out];kernel_rfl))
 refine (Base_c C w1).mono ?_
 rintro e w2 ⟨vv,rfl,hb2,g,cg,rfl,-,k2,k3,k4⟩
 rw[hT.out] at k4
 have K2:Hid (Row w2 w.heap.size z33∧Below w.heap.size w w2∧Row w2 g (bl33 T)):=⟨K1.out.1.below hb2,K1.out.2.trans (hb2.mono K1.out.2.size),row_cp k4 k3⟩
 clear hb2 k2 k3 k4 K1 hw1
 have harr:=arrCP g cg
 obtain ⟨w3,hw3⟩:∃ w3,Hid (w2.setCells w.heap.size 0 (bl33 T)=w3):=⟨_,rfl⟩
 have hlen:(bl33 T).length=33:=zAd hTs
 have K3:Hid (Row w3 w.heap.size (bl33 T)∧Below w.heap.size w w3):=by rw[← hw3.out];exact ⟨K2.out.1.put (by rw[hlen];rfl),RG.below_setCells (Nat.le_refl _) _ _ _ K2.out.2.1⟩
 obtain ⟨vt,hvt⟩:∃ vt,Hid (Value.agg (bl33 T).toArray=vt):=⟨_,rfl⟩
 have HI:Hid ((Tryz.prog.info? 58).map (·.size)=some (bl33 T).length∧w2.there w.heap.size 0 (bl33 T).toArray.size∧(Tryz.prog.info? 58).map (·.size)=some (bl33 T).toArray.size):=by
  have e:(bl33 T).toArray.size=33:=by rw[List.size_toArray];exact hlen
  refine ⟨by rw[hlen];exact zAs,by rw[e];exact K2.out.1.2.2,by rw[e];exact zAs⟩
 clear hlen
 go_wp2_with (first|(refine wpList_load_mid rfl 58 _ rfl g 0 ?_ (bl33 T) d ?_ ?_ ?_ ?_ ?_;rfl;exact K2.out.2.2.2.1;exact HD.out.1;exact HD.out.2;exact HI.out.1;rw[hvt.out])|(refine wpList_store_mid rfl 58 _ _ rfl w.heap.size 0 (bl33 T).toArray ?_ ?_ ?_ ?_ ?_ ?_;rfl;exact hvt.out.symm;exact HI.out.2.1;exact HI.out.2.2;exact zBv T;rw[show (bl33 T).toArray.toList=bl33 T from rfl,hw3.out]))
 refine bodyPost_ret (zAy 0 58 rfl K3.out.1 rfl uCP HI.out.1) rfl ?_
 exact ⟨_,rfl,K3.out.2,rfl⟩
end
section
open Go.RowKit Go.Sort Go.Deep
section
variable {P:Program} {ops:Array Oper} {rest:List Oper} {op:Oper} {a:Act} {w w':World} {v:Value} {Q:Exit→Act→World→Prop}
theorem zDu (hgd:op.guard=none) (T:TypeId) (parts:Array (Nat × Operand)) (ho:op.op=.build T parts) (vs:Array (Nat × Value)) (hx:(parts.map fun (i,x)=>(i,a.eval x))=vs) (hr:(Instr.build T vs).run P w=.ok v w') (h:wpList P ops Q rest (a.put op.dst v) w'):wpList P ops Q (op :: rest) a w:=
 wpList_plain hgd fun K hK=>by
  unfold Oper.wp execOp
  simp only[ho,hx,Sem.run_bind,hr,Result.andThen_ok,Sem.run_pure]
  exact hK _ _ h
theorem zDt (hgd:op.guard=none) (T:TypeId) (n:Nat) (parts:Array (Nat × Operand)) (ho:op.op=.buildSlice T n parts) (vs:Array (Nat × Value)) (hx:(parts.map fun (i,x)=>(i,a.eval x))=vs) (hr:(Instr.buildSlice T n vs).run P w=.ok v w') (h:wpList P ops Q rest (a.put op.dst v) w'):wpList P ops Q (op :: rest) a w:=
 wpList_plain hgd fun K hK=>by
  unfold Oper.wp execOp
  simp only[ho,hx,Sem.run_bind,hr,Result.andThen_ok,Sem.run_pure]
  exact hK _ _ h
end
theorem bldT {a:Bs} (ha:a.size=33) (n:Nat) (w:World):(Instr.build 176 #[(0,nv n),(1,pvl a)]).run Tryz.prog w=.ok (.agg (wn n++bl33 a).toArray) w:=by
 unfold pvl
 rw[zCH ha]
 kernel_rfl
theorem bslT {a:Bs} (ha:a.size=33) (n:Nat) (w:World):(Instr.buildSlice 120 1 #[(0,.agg (wn n++bl33 a).toArray)]).run Tryz.prog w=.ok (.slice (some ⟨w.heap.size,0,none⟩) 1 1) (w.alloc (.cells (wn n++bl33 a).toArray 176)):=by
 rw[zCH ha]
 kernel_rfl
theorem boxS (n:Nat) (w:World):(Instr.box 53 (nv n)).run Tryz.prog w=.ok (.pointer (some ⟨w.heap.size,0,none⟩)) (w.alloc (.cells (wn n).toArray 53)):=by kernel_rfl
theorem zEz (a:Bs) (ha:a.size=33) (n:Nat) (w:World):Calls Tryz.prog 70 #[pvl a,nv n] w (Ret fun e w'=>Below w.heap.size w w'∧∃ k,e=.slice (some ⟨k,0,none⟩) 1 1∧w.heap.size≤k∧Row w' k (wn n++bl33 a)):=by
 have B1:=Hid.mk' (boxCP ha w)
 obtain ⟨w1,hw1⟩:∃ w1,Hid (w.alloc (.cells (bl33 a).toArray 58)=w1):=⟨_,rfl⟩
 rw[hw1.out] at B1
 have e1:w1.heap.size=w.heap.size+1:=by rw[← hw1.out,World.size_alloc]
 have B2:=Hid.mk' (boxS n w1)
 obtain ⟨w2,hw2⟩:∃ w2,Hid (w1.alloc (.cells (wn n).toArray 53)=w2):=⟨_,rfl⟩
 rw[hw2.out,e1] at B2
 have e2:w2.heap.size=w.heap.size+2:=by rw[← hw2.out,World.size_alloc,e1]
 have B3:=Hid.mk' (bldT ha n w2)
 have B4:=Hid.mk' (bslT ha n w2)
 obtain ⟨w3,hw3⟩:∃ w3,Hid (w2.alloc (.cells (wn n++bl33 a).toArray 176)=w3):=⟨_,rfl⟩
 rw[hw3.out,e2] at B4
 have K:Hid (Row w2 w.heap.size (bl33 a)∧Row w2 (w.heap.size+1) (wn n)∧Below w.heap.size w w3∧Row w3 (w.heap.size+2) (wn n++bl33 a)):=by
  have q1:Row w1 w.heap.size (bl33 a):=by rw[← hw1.out];exact zAi w _ _
  have q2:Row w2 (w.heap.size+1) (wn n):=by rw[← hw2.out,← e1];exact zAi w1 _ _
  have q3:Row w3 (w.heap.size+2) (wn n++bl33 a):=by rw[← hw3.out,← e2];exact zAi w2 _ _
  have b1:Below w.heap.size w w1:=by rw[← hw1.out];exact zAf w _
  have b2:Below w1.heap.size w1 w2:=by rw[← hw2.out];exact zAf w1 _
  have b3:Below w2.heap.size w2 w3:=by rw[← hw3.out];exact zAf w2 _
  exact ⟨q1.below b2,q2,(b1.trans (b2.mono (by omega))).trans (b3.mono (by omega)),q3⟩
 have HL:Hid ((Tryz.prog.info? 58).map (·.size)=some (bl33 a).length):=by show _=_;rw[zAd ha];exact zAs
 obtain ⟨d,hd1,hd2⟩:=Option.map_eq_some_iff.1 uCP
 obtain ⟨d',hd3,hd4⟩:=Option.map_eq_some_iff.1 u40
 have HD:Hid ((Tryz.prog.underlying 58=some d∧d.isRow=true)∧Tryz.prog.underlying 53=some d'∧d'.isRow=true):=⟨⟨hd1,hd2⟩,hd3,hd4⟩
 clear hd1 hd2 hd3 hd4 hw1 hw2 hw3 e1 e2
 obtain ⟨va,hva⟩:∃ v,Hid (pvl a=v):=⟨_,rfl⟩
 obtain ⟨vn,hvn⟩:∃ v,Hid (nv n=v):=⟨_,rfl⟩
 obtain ⟨vt,hvt⟩:∃ v,Hid (Value.agg (wn n++bl33 a).toArray=v):=⟨_,rfl⟩
 have B1':Hid ((Instr.box 58 va).run Tryz.prog w=.ok (.pointer (some ⟨w.heap.size,0,none⟩)) w1):=by rw[← hva.out];exact B1
 rw[hvn.out] at B2
 rw[hva.out,hvn.out,hvt.out] at B3
 rw[hvt.out] at B4
 rw[hva.out,hvn.out]
 clear B1
 go_enter Tryz.func70,Tryz.ntmps70
 go_wp2_with (first|(refine zAD (u:=va) (v:=.pointer (some ⟨w.heap.size,0,none⟩)) (w':=w1) rfl 58 (.tmp 0) rfl ?_ ?_ ?_;rfl;exact B1'.out)|(refine zAD (u:=vn) (v:=.pointer (some ⟨w.heap.size+1,0,none⟩)) (w':=w2) rfl 53 (.tmp 1) rfl ?_ ?_ ?_;rfl;exact B2.out)|(refine wpList_load_mid rfl 53 _ rfl (w.heap.size+1) 0 ?_ (wn n) d' ?_ ?_ ?_ ?_ ?_;rfl;exact K.out.2.1.2.1;exact HD.out.2.1;exact HD.out.2.2;exact i40;rw[show Value.agg (wn n).toArray=vn from hvn.out])|(refine wpList_load_mid rfl 58 _ rfl w.heap.size 0 ?_ (bl33 a) d ?_ ?_ ?_ ?_ ?_;rfl;exact K.out.1.2.1;exact HD.out.1.1;exact HD.out.1.2;exact HL.out;rw[show Value.agg (bl33 a).toArray=va from hva.out])|(refine zDu (v:=vt) (w':=w2) rfl 176 _ rfl #[(0,vn),(1,va)] ?_ ?_ ?_;kernel_rfl;exact B3.out)|(refine zDt (v:=.slice (some ⟨w.heap.size+2,0,none⟩) 1 1) (w':=w3) rfl 120 1 _ rfl #[(0,vt)] ?_ ?_ ?_;kernel_rfl;exact B4.out))
 go_ret
 exact ⟨_,rfl,K.out.2.2.1,w.heap.size+2,rfl,by omega,K.out.2.2.2⟩
end
section
open Go.RowKit Go.Sort Go.Deep
variable {P:Nat} [NeZero P] {N:Nat}
theorem boxT {a:Bs} (ha:a.size=33) (n:Nat) (w:World):(Instr.box 176 (.agg (wn n++bl33 a).toArray)).run Tryz.prog w=.ok (.pointer (some ⟨w.heap.size,0,none⟩)) (w.alloc (.cells (wn n++bl33 a).toArray 176)):=by
 rw[zCH ha]
 kernel_rfl
theorem bldS (w:World):(Instr.build 53 #[]).run Tryz.prog w=.ok (nv 0) w:=by kernel_rfl
def tvl (n:Nat) (a:Bs):Value:=.agg (wn n++bl33 a).toArray
theorem zB5 {W:World} {k:Nat} {xs ys:List Value} (h:W.rangeAt k 0 (xs++ys)):W.rangeAt k 0 xs:=fun j v hj=>h j v (by rw[List.getElem?_append_left (List.getElem?_eq_some_iff.1 hj).1];exact hj)
theorem zBV {W:World} {k:Nat} {xs ys:List Value} (h:W.rangeAt k 0 (xs++ys)):W.rangeAt k xs.length ys:=fun j v hj=>by
 have:=h (xs.length+j) v (by rw[List.getElem?_append_right (Nat.le_add_right _ _),Nat.add_sub_cancel_left];exact hj)
 rwa[Nat.zero_add] at this
theorem none_c {n:Nat} (hn:n<top) {a:Bs} (ha:a.size=33):Gives 157 #[tvl n a] (.bool (decide (n=0))):=by
 intro w
 have B1:=Hid.mk' (boxT ha n w)
 obtain ⟨w1,hw1⟩:∃ w1,Hid (w.alloc (.cells (wn n++bl33 a).toArray 176)=w1):=⟨_,rfl⟩
 rw[hw1.out] at B1
 have K:Hid (Row w1 w.heap.size (wn n++bl33 a)∧Below w.heap.size w w1):=by rw[← hw1.out];exact ⟨zAi w _ _,zAf w _⟩
 obtain ⟨d',hd3,hd4⟩:=Option.map_eq_some_iff.1 u40
 have HD:Hid (Tryz.prog.underlying 53=some d'∧d'.isRow=true):=⟨hd3,hd4⟩
 clear hd3 hd4 hw1
 obtain ⟨va,hva⟩:∃ v,Hid (tvl n a=v):=⟨_,rfl⟩
 obtain ⟨vn,hvn⟩:∃ v,Hid (nv n=v):=⟨_,rfl⟩
 obtain ⟨v0,hv0⟩:∃ v,Hid (nv 0=v):=⟨_,rfl⟩
 have B1':Hid ((Instr.box 176 va).run Tryz.prog w=.ok (.pointer (some ⟨w.heap.size,0,none⟩)) w1):=by rw[← hva.out];exact B1
 have B2:Hid ((Instr.build 53 #[]).run Tryz.prog w1=.ok v0 w1):=by rw[← hv0.out];exact bldS w1
 have B3:=Hid.mk' (eqS hn (show 0<top by unfold top;omega) w1)
 rw[hvn.out,hv0.out] at B3
 have hq:=B3.out
 obtain ⟨z,hz⟩:∃ z,Hid (decide (n=0)=z):=⟨_,rfl⟩
 rw[hz.out] at hq
 have hg:(eqGuard .eql 53 (.tmp 4) (.tmp 5) vn v0).run Tryz.prog w1=.ok () w1:=by rw[← hvn.out,← hv0.out];kernel_rfl
 rw[hva.out,hz.out]
 clear B1 B3
 go_enter Tryz.func157,Tryz.ntmps157
 go_wp2_with (first|(refine zAD (u:=va) (v:=.pointer (some ⟨w.heap.size,0,none⟩)) (w':=w1) rfl 176 (.tmp 0) rfl ?_ ?_ ?_;rfl;exact B1'.out)|(refine wpList_load_mid rfl 53 _ rfl w.heap.size 0 ?_ (wn n) d' ?_ ?_ ?_ ?_ ?_;rfl;exact zB5 K.out.1.2.1;exact HD.out.1;exact HD.out.2;exact i40;rw[show Value.agg (wn n).toArray=vn from hvn.out])|(refine zDu (v:=v0) (w':=w1) rfl 53 _ rfl #[] ?_ ?_ ?_;kernel_rfl;exact B2.out))
 go_wp2
 go_ret
 exact ⟨_,rfl,K.out.2,rfl⟩
theorem uT:(Tryz.prog.underlying 176).map (·.isRow)=some true:=by kernel_rfl
theorem iT:(Tryz.prog.info? 176).map (·.size)=some 37:=by kernel_rfl
theorem atT (k o n c i:Nat) (hi:i<n) (w:World):(Instr.indexAt 120 (.slice (some ⟨k,o,none⟩) n c) (.int .i64 (i:Int))).run Tryz.prog w=.ok (.pointer (some ⟨k,o+37*i,none⟩)) w:=by
 have h1:¬ (i:Int)<0:=by omega
 have h2:(i:Int)<n:=by omega
 go_simp
def zCu (ns:Nat→Nat):Nat→Nat→Int
 | _,0=>-1
 | i,m+1=>if ns i=0 then (i:Int) else zCu ns (i+1) m
def FIx_2 (b:Bool):List RG.It:=[.x 9 [] (.bool b)]
def FIx_4 (g k c i n:Nat) (a:Bs) (z:Bool):List RG.It:=[.x 11 [] (.func (.func 157) #[] #[]),.x 12 [] (.slice (some ⟨g,0,none⟩) k c),.x 13 [] (.int .i64 (i:Int)),.x 14 [(12,1),(13,2)] (.pointer (some ⟨g,(0+37*i),none⟩)),.x 15 [(14,3)] (tvl n a),.c 16 [(11,0),(15,4)] (.bool z)]
theorem index_c (g k c:Nat) (hk:k≤1000000) (ns:Nat→Nat) (az:Nat→Bs) (hn:∀ j,j<k→ns j<top) (ha:∀ j,j<k→(az j).size=33) (w:World) (hg:g<w.heap.size) (hr:∀ j,j<k→w.rangeAt g (37*j) (wn (ns j)++bl33 (az j))) :
 Calls Tryz.prog 185 #[(.slice (some ⟨g,0,none⟩) k c),(.func (.func 157) #[] #[])] w (Ret fun e w'=>Below w.heap.size w w'∧e=.int .i64 (zCu ns 0 k)):=by
 obtain ⟨R,hR⟩:∃ R,zCu ns 0 k=R:=⟨_,rfl⟩
 rw[hR]
 go_enter Tryz.func185,Tryz.ntmps185
 refine RG.M.enter [(0,.v (.slice (some ⟨g,0,none⟩) k c)),(1,.v (.func (.func 157) #[] #[]))] 19 (by kernel_rfl) ?_
 intro a0 M0
 repeat refine wp_seq ?_
 refine M0.u [.x 4 [] (.int .i64 0)] [(0,.v (.slice (some ⟨g,0,none⟩) k c)),(1,.v (.func (.func 157) #[] #[]))] ⟨RG.st,trivial⟩ ?_
 intro a1 w1 M1
 repeat refine wp_seq ?_
 refine M1.u [.x 6 [] (.slice (some ⟨g,0,none⟩) k c),.x 7 [(6,0)] (.int .i64 (k:Int)),.x 8 [] (.int .i64 0)] [(0,.v (.slice (some ⟨g,0,none⟩) k c)),(1,.v (.func (.func 157) #[] #[])),(7,.v (.int .i64 (k:Int))),(8,.v (.int .i64 0))] ⟨RG.st,RG.st,RG.st,trivial⟩ ?_
 intro a2 w2 M2
 repeat refine wp_seq ?_
 refine wp_block ?_
 refine wp_loop_ghost (fun m a wr=>∃ i:Nat,i+m=k∧zCu ns i m=R∧RG.M w w.heap.size [] 19 [] [] [(0,.v (.slice (some ⟨g,0,none⟩) k c)),(1,.v (.func (.func 157) #[] #[])),(7,.v (.int .i64 (k:Int))),(8,.v (.int .i64 (i:Int)))] a wr) k ⟨0,by omega,hR,M2⟩ ?_
 intro m' a wr
 rintro ⟨i,him,hf,M20⟩
 by_cases hi:i<k
 · obtain ⟨n,hne⟩:∃ n,ns i=n:=⟨_,rfl⟩
   obtain ⟨b,hbe⟩:∃ b,az i=b:=⟨_,rfl⟩
   have hnt:=hn i hi
   have hbs:=ha i hi
   have hri:=hr i hi
   rw[hne] at hnt hri
   rw[hbe] at hbs hri
   have hri':w.rangeAt g (0+37*i) (wn n++bl33 b):=by rw[Nat.zero_add];exact hri
   have hlen:(Tryz.prog.info? 176).map (·.size)=some (wn n++bl33 b).length:=by rw[List.length_append,zAd hbs];exact iT
   have hz:=none_c hnt hbs
   obtain ⟨m2,rfl⟩:∃ m2,m'=m2+1:=⟨m'-1,by omega⟩
   unfold zCu at hf
   rw[hne] at hf
   repeat refine wp_seq ?_
   refine M20.u (FIx_2 true) [(0,.v (.slice (some ⟨g,0,none⟩) k c)),(1,.v (.func (.func 157) #[] #[])),(7,.v (.int .i64 (k:Int))),(8,.v (.int .i64 (i:Int))),(9,.v (.bool true))] ⟨RG.zAg rfl .lss 3 3 8 7 (.int .i64 (i:Int)) (.int .i64 (k:Int)) (.bool true) rfl rfl RG.sx RG.sx (fun w=>by kernel_rfl) (zBX hi),trivial⟩ ?_
   intro a21 w21 M21
   repeat refine wp_seq ?_
   refine wp_cond_true M21.ev ?_
   refine wp_skip ?_
   refine wp_seq ?_
   refine wp_block ?_
   repeat refine wp_seq ?_
   refine M21.u [.x 10 [] (.int .i64 (i:Int)),.x 5 [(10,0)] (.int .i64 (i:Int))] [(0,.v (.slice (some ⟨g,0,none⟩) k c)),(1,.v (.func (.func 157) #[] #[])),(7,.v (.int .i64 (k:Int))),(8,.v (.int .i64 (i:Int))),(5,.v (.int .i64 (i:Int)))] ⟨RG.st,RG.st,trivial⟩ ?_
   intro a22 w22 M22
   repeat refine wp_seq ?_
   by_cases h0:n=0
   · rw[decide_eq_true h0] at hz
     rw[if_pos h0] at hf
     refine M22.u (FIx_4 g k c i n b true) [(0,.v (.slice (some ⟨g,0,none⟩) k c)),(1,.v (.func (.func 157) #[] #[])),(7,.v (.int .i64 (k:Int))),(8,.v (.int .i64 (i:Int))),(5,.v (.int .i64 (i:Int))),(16,.v (.bool true))] ⟨RG.st,RG.st,RG.st,RG.zAt rfl 120 12 13 rfl (.v (.slice (some ⟨g,0,none⟩) k c)) (.int .i64 (i:Int)) RG.sx RG.sx (fun μ w=>atT _ 0 _ _ i hi w),RG.zA7 rfl g (0+37*i) hg List.not_mem_nil 176 14 rfl (wn n++bl33 b) rfl RG.sx hri' uT hlen,RG.clB (fun _ _=>by kernel_rfl) (fun w' _=>hz w'),trivial⟩ ?_
     intro a23 w23 M23
     repeat refine wp_seq ?_
     refine wp_cond_true M23.ev ?_
     repeat refine wp_seq ?_
     refine M23.u [.x 17 [] (.int .i64 (i:Int)),.x 4 [(17,0)] (.int .i64 (i:Int))] [(4,.v (.int .i64 (i:Int)))] ⟨RG.st,RG.st,trivial⟩ ?_
     intro a24 w24 M24
     refine wp_ret ?_
     refine bodyPost_ret (v:=.int .i64 (i:Int)) (RG.zAq 4 rfl (.int .i64 (i:Int)) M24.av) M24.sl.defers ?_
     exact ⟨_,rfl,M24.st.bel.below,by rw[hf]⟩
   · rw[decide_eq_false h0] at hz
     rw[if_neg h0] at hf
     refine M22.u (FIx_4 g k c i n b false) [(0,.v (.slice (some ⟨g,0,none⟩) k c)),(1,.v (.func (.func 157) #[] #[])),(7,.v (.int .i64 (k:Int))),(8,.v (.int .i64 (i:Int))),(16,.v (.bool false))] ⟨RG.st,RG.st,RG.st,RG.zAt rfl 120 12 13 rfl (.v (.slice (some ⟨g,0,none⟩) k c)) (.int .i64 (i:Int)) RG.sx RG.sx (fun μ w=>atT _ 0 _ _ i hi w),RG.zA7 rfl g (0+37*i) hg List.not_mem_nil 176 14 rfl (wn n++bl33 b) rfl RG.sx hri' uT hlen,RG.clB (fun _ _=>by kernel_rfl) (fun w' _=>hz w'),trivial⟩ ?_
     intro a23 w23 M23
     repeat refine wp_seq ?_
     refine wp_cond_false M23.ev ?_
     refine wp_skip ?_
     repeat refine wp_seq ?_
     refine M23.u [.x 18 [] (.int .i64 ((i+1:Nat):Int)),.x 8 [(18,0)] (.int .i64 ((i+1:Nat):Int))] [(0,.v (.slice (some ⟨g,0,none⟩) k c)),(1,.v (.func (.func 157) #[] #[])),(7,.v (.int .i64 (k:Int))),(8,.v (.int .i64 ((i+1:Nat):Int)))] ⟨RG.zAh rfl .add 3 3 8 (.int .i64 (i:Int)) (.int .i64 1) (.int .i64 ((i+1:Nat):Int)) rfl rfl RG.sx (fun w=>by kernel_rfl) (addn i 1 (by omega) (by omega)),RG.st,trivial⟩ ?_
     intro a24 w24 M24
     show ∃ n',_
     exact ⟨m2,by omega,i+1,by omega,hf,M24⟩
 · have hik:m'=0:=by omega
   rw[hik] at hf
   unfold zCu at hf
   repeat refine wp_seq ?_
   refine M20.u (FIx_2 false) [(9,.v (.bool false))] ⟨RG.zAg rfl .lss 3 3 8 7 (.int .i64 (i:Int)) (.int .i64 (k:Int)) (.bool false) rfl rfl RG.sx RG.sx (fun w=>by kernel_rfl) (zDV hi),trivial⟩ ?_
   intro a21 w21 M21
   repeat refine wp_seq ?_
   refine wp_cond_false M21.ev ?_
   refine wp_exit ?_
   dsimp only[Exit.then,Exit.inBlock]
   rw[if_pos rfl]
   repeat refine wp_seq ?_
   refine M21.u [.x 4 [] (.int .i64 (-1))] [(4,.v (.int .i64 (-1)))] ⟨RG.st,trivial⟩ ?_
   intro a22 w22 M22
   refine wp_ret ?_
   refine bodyPost_ret (v:=.int .i64 (-1)) (RG.zAq 4 rfl (.int .i64 (-1)) M22.av) M22.sl.defers ?_
   exact ⟨_,rfl,M22.st.bel.below,by rw[← hf]⟩
theorem zEP {ns:Nat→Nat}:∀ (m i:Nat),(∀ j,i≤j→j<i+m→ns j≠0)→zCu ns i m = -1
 | 0,_,_=>rfl
 | m+1,i,h=>by
  unfold zCu
  rw[if_neg (h i (Nat.le_refl _) (by omega))]
  exact zEP m (i+1) (fun j h1 h2=>h j (by omega) (by omega))
theorem zER (g k c:Nat) (hk:k≤1000000) (ns:Nat→Nat) (az:Nat→Bs) (hn:∀ j,j<k→ns j<top) (hn0:∀ j,j<k→ns j≠0) (ha:∀ j,j<k→(az j).size=33) (w:World) (hg:g<w.heap.size) (hr:∀ j,j<k→w.rangeAt g (37*j) (wn (ns j)++bl33 (az j))) :
 Calls Tryz.prog 156 #[(.slice (some ⟨g,0,none⟩) k c),(.func (.func 157) #[] #[])] w (Ret fun e w'=>Below w.heap.size w w'∧e=(.slice (some ⟨g,0,none⟩) k c)):=by
 have hI:∀ w',RG.BelX w.heap.size [] w w'→Calls Tryz.prog 185 #[(.slice (some ⟨g,0,none⟩) k c),(.func (.func 157) #[] #[])] w' (Ret fun e w''=>Below w'.heap.size w' w''∧e=.int .i64 (-1)):=fun w' hb=>by
  have h:=index_c g k c hk ns az hn ha w' (Nat.lt_of_lt_of_le hg hb.below.size) (fun j hj=>RG.zAk (hr j hj) hb.below hg)
  rw[zEP k 0 (fun j _ h2=>hn0 j (by omega))] at h
  exact h
 go_enter Tryz.func156,Tryz.ntmps156
 refine RG.M.enter [(0,.v (.slice (some ⟨g,0,none⟩) k c)),(1,.v (.func (.func 157) #[] #[]))] 42 (by kernel_rfl) ?_
 intro a0 M0
 repeat refine wp_seq ?_
 refine M0.u [.x 4 [] (.slice none 0 0)] [(0,.v (.slice (some ⟨g,0,none⟩) k c)),(1,.v (.func (.func 157) #[] #[]))] ⟨RG.st,trivial⟩ ?_
 intro a1 w1 M1
 repeat refine wp_seq ?_
 refine M1.u [.x 8 [] (.slice (some ⟨g,0,none⟩) k c),.x 9 [] (.func (.func 157) #[] #[]),.c 10 [(8,0),(9,1)] (.int .i64 (-1)),.x 5 [(10,2)] (.int .i64 (-1))] [(0,.v (.slice (some ⟨g,0,none⟩) k c)),(5,.v (.int .i64 (-1)))] ⟨RG.st,RG.st,RG.clB (fun _ _=>by kernel_rfl) hI,RG.st,trivial⟩ ?_
 intro a2 w2 M2
 repeat refine wp_seq ?_
 refine M2.u [.x 11 [] (.int .i64 (-1)),.x 12 [(11,0)] (.bool true)] [(0,.v (.slice (some ⟨g,0,none⟩) k c)),(12,.v (.bool true))] ⟨RG.st,RG.st,trivial⟩ ?_
 intro a3 w3 M3
 repeat refine wp_seq ?_
 refine wp_cond_true M3.ev ?_
 repeat refine wp_seq ?_
 refine M3.u [.x 13 [] (.slice (some ⟨g,0,none⟩) k c),.x 4 [(13,0)] (.slice (some ⟨g,0,none⟩) k c)] [(4,.v (.slice (some ⟨g,0,none⟩) k c))] ⟨RG.st,RG.st,trivial⟩ ?_
 intro a4 w4 M4
 refine wp_ret ?_
 refine bodyPost_ret (v:=(.slice (some ⟨g,0,none⟩) k c)) (RG.zAq 4 rfl _ M4.av) M4.sl.defers ?_
 exact ⟨_,rfl,M4.st.bel.below,rfl⟩
theorem undM:Tryz.prog.underlying 222=some (.map 58 3):=by kernel_rfl
theorem zero3 (w:World):(zeroValue 3).run Tryz.prog w=.ok (.int .i64 0) w:=by kernel_rfl
theorem ents_snoc (b:Bs):∀ (D:List Bs) (i:Nat),ents (D++[b]) i=ents D i++[{ key:=.agg (bl33 b).toArray,val:=.int .i64 ((i+D.length:Nat):Int),born:=i+D.length }]
 | [],i=>rfl
 | k :: r,i=>by
  rw[List.cons_append]
  unfold ents
  rw[ents_snoc b r (i+1),List.length_cons,show i+1+r.length=i+(r.length+1) by omega]
  rfl
theorem zF5 {b:Bs} (hb:b.size=33) (D:List Bs) (hD:∀ k∈D,k.size=33) (m clock:Nat) (w:World) (hm:w.heap[m]? = some (.map (ents D 0).toArray clock)) :
 (Instr.lookup 222 (.map (some m)) (.agg (bl33 b).toArray) true).run Tryz.prog w=.ok (.tuple #[.int .i64 (((at? b D 0).getD 0:Nat):Int),.bool (at? b D 0).isSome]) w:=by
 have h1:=run_underlying undM w
 have h2:=fun e=>checkCP hb e w
 have h3:=key_run hb D hD w
 have h4:(getObj m).run Tryz.prog w=.ok (.map (ents D 0).toArray clock) w:=by
  simp[getObj,Sem.run,hm]
 unfold Instr.lookup
 simp only[Sem.run_bind,h1,Result.andThen_ok,h4,Sem.run_pure,h2,h3]
 cases h:at? b D 0 with
 | none=>simp[Sem.run_bind,zero3]
 | some j=>simp
theorem upd_run {b:Bs} (hb:b.size=33) (D:List Bs) (hD:∀ k∈D,k.size=33) (m:Nat) (w:World) (hm:w.heap[m]? = some (.map (ents D 0).toArray D.length)) (hn:at? b D 0=none) :
 (Instr.mapUpdate 222 (.map (some m)) (.agg (bl33 b).toArray) (.int .i64 (D.length:Int))).run Tryz.prog w=.ok () (w.putObj m (.map (ents (D++[b]) 0).toArray (D.length+1))):=by
 have h1:=run_underlying undM w
 have h2:=fun e=>checkCP hb e w
 have h3:=key_run hb D hD w
 rw[hn] at h3
 have h4:(getObj m).run Tryz.prog w=.ok (.map (ents D 0).toArray D.length) w:=by
  simp[getObj,Sem.run,hm]
 unfold Instr.mapUpdate
 simp only[Sem.run_bind,h1,Result.andThen_ok,h4,Sem.run_pure,h2,h3]
 rw[ents_snoc,Nat.zero_add]
 simp[setObj,Sem.run,hm,World.putObj]
theorem undS:Tryz.prog.underlying 120=some (.slice 176):=by kernel_rfl
theorem infoT:(Tryz.prog.info? 176).map (fun i=>(i.size,i.bytes,i.zero.map fun z=>z.cells.size))=some (37,72,some 37):=by kernel_rfl
theorem cells_one (n:Nat) (a:Bs):∀ u∈wn n++bl33 a,u.oneCell'=true:=by
 intro u hu
 rcases List.mem_append.1 hu with h|h
 · unfold wn at h
   simp only[List.mem_cons,List.not_mem_nil,or_false] at h
   rcases h with rfl|rfl|rfl|rfl<;>rfl
 · obtain ⟨x,-,rfl⟩:=List.mem_map.1 h
   rfl
theorem app_term {base k g n:Nat} {v:Value} {xs:List Value} {a:Bs} (ha:a.size=33) {W:World} (hown:W.ownsRow base 176 37 v k xs) (hR:Row W g (wn n++bl33 a)) (hk:k≤1000000) (hb:base≤W.heap.size) :
 ∃ v' W',(Builtin.append_ #[120,120] 120 #[v,.slice (some ⟨g,0,none⟩) 1 1]).run Tryz.prog W=.ok v' W'∧W'.ownsRow base 176 37 v' (k+1) (xs++(wn n++bl33 a))∧W.grownBy W' v.ownBlock:=by
 obtain ⟨i,hi,he⟩:=Option.map_eq_some_iff.1 infoT
 simp only[Prod.mk.injEq] at he
 obtain ⟨h1,h2,h3⟩:=he
 obtain ⟨z,hz,hz2⟩:=Option.map_eq_some_iff.1 h3
 obtain ⟨v',W',r1,r2,r3,-⟩:=run_append_own (P:=Tryz.prog) W base 120 120 176 i z 37 72 undS hi hz h1 h2 hz2 (by decide) v k xs hown ⟨g,0,none⟩ 1 1 (wn n++bl33 a) (by rw[List.length_append,zAd ha];rfl)
  (fun j u hj=>by
   have:=hR.2.1 j u hj
   rw[Nat.zero_add] at this
   rw[show (⟨g,0,none⟩:Addr).add j=⟨g,j,none⟩ by unfold Addr.add;split<;>simp_all]
   exact this) (cells_one n a) (by unfold maxLen;omega) (by omega) hb
 exact ⟨v',W',r1,r2,r3⟩
def addT (N:Nat):List (Nat × Bs)→Nat→Bs→List (Nat × Bs)
 | [],n,p=>[(n,p)]
 | (s,q) :: r,n,p=>if p=q then (sPl N s n,q) :: r else (s,q) :: addT N r n p
def mrg (N:Nat) (ns:Nat→Nat) (az:Nat→Bs):Nat→List (Nat × Bs)
 | 0=>[]
 | i+1=>addT N (mrg N ns az i) (ns i) (az i)
def zAu (l:List (Nat × Bs)):List Value:=l.flatMap fun x=>wn x.1++bl33 x.2
theorem zGi {N n:Nat} {p:Bs}:∀ {l:List (Nat × Bs)},at? p (l.map (·.2)) 0=none→addT N l n p=l++[(n,p)]
 | [],_=>rfl
 | (s,q) :: r,h=>by
  have h2:=at?_none.1 h
  rw[List.map_cons,List.mem_cons,not_or] at h2
  unfold addT
  rw[if_neg h2.1,zGi (l:=r) (at?_none.2 h2.2)]
  rfl
theorem cellsT_snoc (l:List (Nat × Bs)) (n:Nat) (p:Bs):zAu (l++[(n,p)])=zAu l++(wn n++bl33 p):=by
 unfold zAu
 rw[List.flatMap_append]
 simp
end
end Go.Proofs.YtepeakmcdbaigadGreat
